import Derived.Test.YtgfflnjggnadpaaGreatDoorZAC
import Derived.Test.YtgfflnjggnadpaaGreatDoorS0
set_option linter.all false
set_option maxHeartbeats 8000000
set_option maxRecDepth 100000
namespace Go.Proofs.YtgfflnjggnadpaaGreatDoor
set_option maxRecDepth 100000
open Go.RowKit
theorem R6b(xs:List Int)(hl:xs.length=64)(j:Nat)(hj:j<11):H0b xs (E6a.getD j 0:Nat) (szs.getD j 0:Nat)=l1a xs (E6a.getD j 0) (szs.getD j 0):=by
 have h1:=F3a j hj;have hp:p1a xs.length (E6a.getD j 0:Nat) (szs.getD j 0:Nat)=0:=by unfold p1a;rw[if_neg (by omega),if_neg (by omega)]
 unfold H0b w7a l1a;rw[if_pos (E4b j hj),if_pos hp,Int.toNat_natCast,Int.toNat_natCast]
theorem S6b(j:Nat)(hj:j<11)(args:Array Value)(w:World):(callFunc (fnk j) args).run Tryz.prog w=.ok (.enter (fnk j) args) w:=by refine T6a (p:=λj=>(callFunc (fnk j) args).run Tryz.prog w=.ok (.enter (fnk j) args) w) ?_ ?_ ?_ ?_ ?_ ?_ ?_ ?_ ?_ ?_ ?_ j hj<;>(unfold fnk;go_simp)
theorem L5b(w:World)(A:Option Addr)(c:Nat)(xs:List Int)(hx:Holds w w.heap.size A 64 c xs) :
  Calls Tryz.prog 59 #[.slice A 64 c] w λe w'=>e=.returned (hv (w1a xs))/\Below w.heap.size w w':=by
 have hl:=hx.len;have CF:Hid (∀(w:World) (g:Nat),HB w g N1a->Calls Tryz.prog 36 #[.pointer (some ⟨g,0,none⟩)] w (O6a w g N1a)):=λw g B=>x0b w g N1a o3a B
 have CG:Hid (∀(w:World) (B:Nat),Holds w B A 64 c xs->∀j,j<11->Calls Tryz.prog 102 #[.slice A 64 c,.int .i64 (E6a.getD j 0:Nat),.int .i64 (szs.getD j 0:Nat)] w λe w'=>∃er,e=.returned (.tuple #[.int .u64 (l1a xs (E6a.getD j 0) (szs.getD j 0)),.int .i64 er])/\w=w'):=λw B hh j hj=>by have h1:=F3a j hj;rw[<-R6b xs hl j hj];exact(A7b w B A 64 c xs _ _ hh (by omega) (by omega)).mono λe w' ⟨he,hw⟩=>⟨_,he,hw⟩
 have TK:Hid (∀(w:World) (p g:Nat) (j:Nat),j<11->HB w g (tk xs j)->Blk w p 77 [.pointer (some ⟨g,0,none⟩)]->
   Calls Tryz.prog (fnk j) (#[.int .u64 (l1a xs (E6a.getD j 0) (szs.getD j 0))]++(if j<2 then #[] else #[.pointer (some ⟨p,0,none⟩)])) w λe w'=>e=.returned (.tuple #[])/\HB w' g (tk xs (j+1))/\H2a g w w'):=λw p g j hj B Pp=>by
  have h1:=J4b xs hx.byte j;exact K5b w p g (tk xs j) _ (O8b xs hx.byte j (by omega)) j hj h1.1 h1.2 B Pp
 have HX:=hI hx;have ZH:=hI g8a;have HZ:=hI (I0a o3a);have HZO:=hI (i2a N1a);have BH:=p3b;have T0:Hid (tk xs 0=N1a):=rfl;have K11:=hI (O8b xs hx.byte 11 (Nat.le_refl _));have KF:Hid ((w1a xs).ok):=e6a xs hx.byte hl;have HS:Hid (((xs.drop 48).take 16).length=16):=by show _=_;simp[hl]
 have HT:Hid ({ tk xs 11 with sg:=(xs.drop 48).take 16 }=w1a xs):=rfl;have SP:=hI (hx.part (k:=48) (m:=16) (c':=c-48) (by omega) (by omega) (by have:=hx.fit;omega));have hc64:=hx.fit;obtain⟨zs,hzs⟩:∃zs,zs=q0a N1a:=⟨_,rfl⟩;have HZS:=hI hzs;rw[<-hzs] at ZH HZ HZO BH;have ZF:=hI A5b;obtain⟨zf,hzf⟩:∃zf,zf=O7b:=⟨_,rfl⟩;have HZF:Hid (zf.length=4):=by rw[hzf];rfl
 rw[<-hzf] at ZF;obtain⟨b,off,rfl,_,_⟩:=hx.cells (by omega);clear hx hl hzs hzf;go_enter Tryz.func59,Tryz.ntmps59;go_wp2_with(first
  | ((with_reducible refine sN 2 ?_);refine b0a rfl _ rfl zs _ ZH ?_;intro g0 w1 hg1 hg2 B1 L1)
  | ((with_reducible refine sN 8 ?_);refine W0a rfl _ rfl zs BH ?_)
  | ((with_reducible refine sN 3 ?_);refine b0a rfl _ rfl zs _ ZH ?_;intro g w2 hg3 hg4 X2 L2)
  | ((with_reducible refine sT 3 ?_);refine e0a rfl _ (.tmp 3) (.tmp 8) rfl g rfl _ zs zs rfl X2 26 E0a HZ HZ HZO ?_;intro w3 X3 O3 hg5)
  | fail)
 have hs2:=L2.out.size;have L13:Hid (Below w.heap.size w w3):=c0a (step L1.out L2.out) O3.out (by omega);have B3:Hid (Blk w3 g0 28 zs):=(B1.out.over L2.out).only O3.out (by omega);have hgg:g0<g:=by omega
 have hgw:w.heap.size<=g0:=hg1;refine(CF.out _ g (HB.of HZS.out X3.out)).mono ?_;rintro e w4 ⟨p,G,rfl,hp,hpG,P4,F4,L4⟩;have X4:Hid (HB w4 g (tk xs 0)):=by rw[T0.out];exact HB.of HZS.out (X3.out.over L4)
 have B4:Hid (Blk w4 g0 28 zs):=B3.out.over L4;have L14:=hI (step L13.out L4);have hgp:g<p:=by omega
 have P4':=hI P4;have F4':=hI F4;clear B1 L1 X2 L2 X3 O3 L13 B3 P4 F4 L4 hs2 hg1 hg2 hg3 hg4 hg5 hp CF T0;go_wp2_with fail;go_loopw [5,6,7,11] (λ_ _ _ i wr=>∃j:Nat,j<=11/\i=.int .i64 j/\Hid (HB wr g (tk xs j))/\Hid (Blk wr G 80 (l5a p N1a))/\Hid (Blk wr p 77 [.pointer (some ⟨g,0,none⟩)])/\Hid (Blk wr g0 28 zs)/\Hid (Below w.heap.size w wr)) (λ_ _ _ i _=>11-(intOf i).toNat)
 case atStart=>exact⟨0,Nat.zero_le _,rfl,X4,F4',P4',B4,L14⟩
 case round=>
  clear X4 F4' P4' B4 L14;obtain⟨j,hj,rfl,XX,FF,PP,BB,LL⟩:=hrel;by_cases hlt:j<11
  ·have h1:=F3a j hlt;have hrange:=D8a FF.out j hlt;have CGj:Hid (∀(w:World) (B:Nat),Holds w B (some ⟨b,off,none⟩) 64 c xs->Calls Tryz.prog 102 #[.slice (some ⟨b,off,none⟩) 64 c,.int .i64 (E6a.getD j 0:Nat),.int .i64 (szs.getD j 0:Nat)] w λe w'=>∃er,e=.returned (.tuple #[.int .u64 (l1a xs (E6a.getD j 0) (szs.getD j 0)),.int .i64 er])/\w=w'):=λw B hh=>CG.out w B hh j hlt
   have TKj:Hid (∀(w:World),HB w g (tk xs j)->Blk w p 77 [.pointer (some ⟨g,0,none⟩)]->
    Calls Tryz.prog (fnk j) (#[.int .u64 (l1a xs (E6a.getD j 0) (szs.getD j 0))]++(if j<2 then #[] else #[.pointer (some ⟨p,0,none⟩)])) w λe w'=>e=.returned (.tuple #[])/\HB w' g (tk xs (j+1))/\H2a g w w'):=λw B Pp=>TK.out w p g j hlt B Pp
   have EL:Hid ((fel p N1a j).length=4):=rfl;have EO:=hI (z5b p N1a j);have E0:Hid ((fel p N1a j)[0]? = some (.int .i64 (E6a.getD j 0:Nat))):=rfl;have E1:Hid ((fel p N1a j)[1]? = some (.int .i64 (szs.getD j 0:Nat))):=rfl;have E3:Hid ((fel p N1a j)[3]? = some (.func (.func (fnk j)) #[] (if j<2 then #[] else #[.pointer (some ⟨p,0,none⟩)]))):=rfl;obtain⟨el,hel⟩:∃el,el=fel p N1a j:=⟨_,rfl⟩;rw[<-hel] at EL EO E0 E1 E3 hrange;obtain⟨n,hn⟩:∃n,n=l1a xs (E6a.getD j 0) (szs.getD j 0):=⟨_,rfl⟩;rw[<-hn] at CGj TKj;obtain⟨at_,hat⟩:∃at_,at_=E6a.getD j 0:=⟨_,rfl⟩;obtain⟨sz,hsz⟩:∃sz,sz=szs.getD j 0:=⟨_,rfl⟩;have hcf:=S6b j hlt;obtain⟨F,hF⟩:∃F,F=fnk j:=⟨_,rfl⟩;obtain⟨cap,hcap⟩:∃cap:Array Value,cap=if j<2 then #[] else #[.pointer (some ⟨p,0,none⟩)]:=⟨_,rfl⟩
   rw[<-hat] at E0 CGj h1;rw[<-hsz] at E1 CGj h1;rw[<-hF,<-hcap] at E3 TKj;rw[<-hF] at hcf;obtain⟨_,h48,hs2,hs8⟩:=h1;have RNG:=hI hrange;have hgl:=XX.out.lt;have hGl:=FF.out.lt;have hpl:=PP.out.lt;have hwl:=LL.out.size;clear hel hn hat hsz hF hcap hrange CG TK;go_wp2_with(first
    | ((with_reducible refine sN 14 ?_);refine wpList_load_mid rfl _ (.tmp 13) rfl G (j*4) rfl el _ RNG.out Tryz.underlying80 rfl (by rw[l1b,EL.out]) ?_)
    | ((with_reducible refine sN 5 ?_);refine b0a rfl _ rfl zf _ ZF ?_;intro f w5 hf1 hf2 X5 L5)
    | ((with_reducible refine sT 5 ?_);refine e0a rfl _ (.tmp 5) (.tmp 14) rfl f rfl _ zf el rfl X5 4 l1b HZF EL EO ?_;intro w6 X6 O6 hf3;have gc0:=(X6.out.cell 0).trans E0.out;have gc1:=(X6.out.cell 1).trans E1.out;have gc3:=(X6.out.cell 3).trans E3.out)
    | fail)
   have L6:Hid (Below wr.heap.size wr w6):=c0a L5.out O6.out hf1;have L66:=hI (step LL.out L6.out);refine(CGj.out w6 _ (HX.out.below L66.out)).mono ?_;rintro e w7 ⟨er,rfl,rfl⟩;have X7:Hid (HB w6 g (tk xs j)):=Blk.over XX.out L6.out;have P7:=hI (PP.out.over L6.out);go_wp2_with fail;refine(TKj.out w6 X7.out P7.out).mono ?_;rintro e w8 ⟨rfl,X8,S8⟩;have hg6:=X7.out.lt;have LS:Hid (Below w.heap.size w w8):=L66.out.trans (S8.below (by omega) (by have:=L66.out.size;omega));have F8:Hid (Blk w8 G 80 (l5a p N1a)):=(FF.out.over L6.out).save S8 (by omega);have P8:Hid (Blk w8 p 77 [.pointer (some ⟨g,0,none⟩)]):=P7.out.save S8 (by omega);have B8:Hid (Blk w8 g0 28 zs):=(BB.out.over L6.out).save S8 (by omega);have X8':=hI X8;clear XX FF PP BB LL L5 O6 L6 L66 X5 X6 gc0 gc1 gc3 RNG CGj TKj X7 P7 hcf S8 X8;go_wp2_with fail;go_roundw
   case rel=>exact⟨j+1,by omega,by go_num,X8',F8,P8,B8,LS⟩
   case measure=>simp[intOf];omega
  ·obtain rfl:j=11:=by omega
   have hgl:=XX.out.lt;have XD:Hid (Blk wr.drew g 28 (q0a (tk xs 11))):=XX.out;have SD:Hid (Holds wr.drew w.heap.size (some ⟨b,off+48,none⟩) 16 (c-48) ((xs.drop 48).take 16)):=by have h1:=(SP.out.below LL.out).drew;rw[show Option.map (λx:Addr=>x.add 48) (some ⟨b,off,none⟩)=some ⟨b,off+48,none⟩ from by simp[Addr.add_mid]] at h1;exact h1
   have BD:Hid (Blk wr.drew g0 28 zs):=BB.out;have LD:Hid (Below w.heap.size w wr.drew):=LL.out.drew;have HF:Hid (10+16<=(q0a (tk xs 11)).length):=by show _<=_;rw[I0a K11.out];omega
   have HSP:Hid (spliced (q0a (tk xs 11)) 10 ((xs.drop 48).take 16)=q0a (w1a xs)):=by
    show _=_
    rw[D2b _ _ K11.out.len HS.out,HT.out]
   have HLT:=hI (I0a KF.out);have HOT:=hI (i2a (w1a xs));have HQ:Hid (hv (w1a xs)=.agg (q0a (w1a xs)).toArray):=rfl;obtain⟨ts,hts⟩:∃ts,ts=q0a (tk xs 11):=⟨_,rfl⟩;obtain⟨us,hus⟩:∃us,us=q0a (w1a xs):=⟨_,rfl⟩;obtain⟨ss,hss⟩:∃ss,ss=(xs.drop 48).take 16:=⟨_,rfl⟩;rw[<-hts] at XD HF HSP;rw[<-hus] at HSP HLT HOT HQ;rw[<-hss] at SD HSP;clear hts hus hss XX FF PP BB LL CG TK SP HS HT K11 KF HX hj;have hc48:¬c=48:=by omega
   go_upto_region 8 with fail
   go_region_law ((refine E7a rfl (.tmp 30) (.tmp 32) rfl g 10 28 16 16 16 (c-48) (some ⟨b,off+48,none⟩) rfl rfl ts ss _ XD SD.out (by decide) (by decide) HF ?_;intro w5 X5 O5;rw[HSP.out] at X5;have B5:=hI (BD.out.only O5.out (by omega))));go_wp2_with(first
    | ((with_reducible refine sN 34 ?_);refine d0a rfl _ (.tmp 3) rfl g rfl _ us X5 26 _ Tryz.underlying28 rfl E0a HLT ?_)
    | ((with_reducible refine sT 2 ?_);refine e0a rfl _ (.tmp 2) (.tmp 34) rfl g0 rfl _ zs us rfl B5 26 E0a HZ HLT HOT ?_;intro w6 B6 O6 hg6))
   refine bodyPost_ret (v:=.agg us.toArray) ?_ rfl ⟨by rw[HQ.out],c0a (c0a LD.out O5.out (by omega)) O6.out hgw⟩;exact results_cell_row rfl _ _ g0 _ _ (0,0) _ rfl B6.out Tryz.underlying28 rfl (by rw[E0a];have:=HLT.out;simp[this])
theorem M5b{xs ys:List Int}(hx:Bytes xs)(hy:Bytes ys)(h1:xs.map (λn=>UInt8.ofNat n.toNat)=ys.map (λn=>UInt8.ofNat n.toNat)):xs=ys:=by
 induction xs generalizing ys with
 | nil=>cases ys with
  | nil=>rfl
  | cons y ys=>cases h1
 | cons x xs ih=>
  cases ys with
  | nil=>cases h1
  | cons y ys=>
   simp only[List.map_cons,List.cons.injEq] at h1;have a:=hx x List.mem_cons_self;have b:=hy y List.mem_cons_self;have e:x=y:=by have h2:=congrArg UInt8.toNat h1.1;simp at h2;omega
   rw[e,ih (λz hz=>hx z (List.mem_cons_of_mem _ hz)) (λz hz=>hy z (List.mem_cons_of_mem _ hz)) h1.2]
theorem Z1b(w:World)(B B':Nat)(A A':Option Addr)(n c n' c':Nat)(xs ys:List Int)(h:Holds w B A n c xs)(h':Holds w B' A' n' c' ys)(hn:0<n)(hn':0<n') :
  Calls Tryz.prog 60 #[.slice A n c,.slice A' n' c'] w λe w'=>e=.returned (.bool (decide (xs=ys)))/\w=w':=by
 obtain⟨b,off,rfl,_,hc⟩:=h.cells hn;obtain⟨b',off',rfl,_,hc'⟩:=h'.cells hn';have q1:=run_convert_bytes_arg (P:=Tryz.prog) w 31 5 Tryz.underlying31 Tryz.underlying5 b off n c xs h.len hc 9 Tryz.underlying9;have q2:=run_convert_bytes_arg (P:=Tryz.prog) w 31 5 Tryz.underlying31 Tryz.underlying5 b' off' n' c' ys h'.len hc' 9 Tryz.underlying9;have HE:Hid (((strOfNums xs).toList==(strOfNums ys).toList)=decide (xs=ys)):=by
  show _=_
  rw[ByteArray.toList_eq,ByteArray.toList_eq,strOfNums_data,strOfNums_data,Bool.eq_iff_iff,beq_iff_eq,decide_eq_true_iff];exact⟨M5b h.byte h'.byte,λe=>by rw[e]⟩
 obtain⟨s1,hs1⟩:∃s,s=strOfNums xs:=⟨_,rfl⟩;obtain⟨s2,hs2⟩:∃s,s=strOfNums ys:=⟨_,rfl⟩;rw[<-hs1] at q1 HE;rw[<-hs2] at q2 HE;clear hs1 hs2 hc hc' h h';go_enter Tryz.func60,Tryz.ntmps60;go_wp2;go_ret;exact⟨H0a HE.out,rfl⟩
theorem h3a{P:Program}{fn:Func}{p q:Tmp}{ty:TypeId}(h:fn.results=#[.cell p ty,.tmp q])(tmps:Array Value)(w:World)(g:Nat)(t:TypeId)(cs:Array Value)(fr:Nat×Nat)(d:TypeDesc)
(hp:tmps.getD p undef=.pointer (some ⟨g,0,none⟩))(hg:w.heap[g]? = some (.cells cs t fr))
(hu:P.underlying ty=some d)(hd:(match d with | .struct _ | .array _ _=>true | _=>false)=true)(hi:(P.info? ty).map (·.size)=some cs.size){v:Value}(hv:tmps.getD q undef=v) :
  (results fn tmps).run P w=.ok (.tuple #[.agg cs,v]) w:=by
 have hp':tmps[p]?.getD undef=.pointer (some ⟨g,0,none⟩):=by simpa using hp
 have hv':tmps[q]?.getD undef=v:=by simpa using hv
 simp[results,h,hp',hv',asAddr,run_loadVar_row w g t ty cs fr d hg hu hd hi]
def R7a(w:World)(xs:List Int)(a:Int)(e:Ending)(w':World):Prop:=e=.returned (.tuple #[hv (l2a xs a),.int .i64 (r2a xs a)])/\Below w.heap.size w w'
theorem T6b(w:World)(A:Option Addr)(n c:Nat)(xs:List Int)(a:Int)(hx:Holds w w.heap.size A n c xs)(ha:-9223372036854775808<=a/\a<=9223372036854775807) :
  Calls Tryz.prog 30 #[.slice A n c,.int .i64 a] w (R7a w xs a):=by
 have hl:=hx.len;have CP:Hid (∀w:World,Holds w w.heap.size A n c xs->Calls Tryz.prog 58 #[.slice A n c,.int .i64 a,.int .i64 64] w (t4a w xs a 64)):=λw hh=>W8a w A n c xs a 64 hh ha (by omega)
 have HX:=hI hx;have ZH:=hI g8a;have HZ:=hI (I0a o3a);have HZO:=hI (i2a N1a);have BH:=p3b;have HZV:Hid (hv N1a=.agg (q0a N1a).toArray):=rfl;obtain⟨zs,hzs⟩:∃zs,zs=q0a N1a:=⟨_,rfl⟩;rw[<-hzs] at ZH HZ HZO BH HZV;by_cases hp:p1a xs.length a 64=0
 ·have hroom:=h9a hp;obtain⟨ys,hys⟩:∃ys,ys=partOf xs a 64:=⟨_,rfl⟩;have hys':ys=(xs.drop a.toNat).take 64:=by rw[hys];unfold partOf;rw[if_pos hp];rfl
  have hyl:ys.length=64:=by rw[hys'];simp;omega
  have hyb:Bytes ys:=by rw[hys'];exact(hx.byte.drop _).take _
  unfold t4a at CP;rw[<-hys,hyl,hp] at CP;have CT:Hid (∀(w:World) (A:Option Addr),Holds w w.heap.size A 64 64 ys->Calls Tryz.prog 59 #[.slice A 64 64] w λe w'=>e=.returned (hv (w1a ys))/\Below w.heap.size w w'):=λw A hh=>L5b w A 64 ys hh
  have KT:=e6a ys hyb hyl;have HLT:=hI (I0a KT);have HOT:=hI (i2a (w1a ys));have HYL:=hI hyl;have HYB:=hI hyb;by_cases hm:c8a (w1a ys)=true
  ·have CH:Hid (∀w:World,Calls Tryz.prog 20 #[hv (w1a ys)] w λe w'=>∃A',e=.returned (.tuple #[.slice A' 64 64,.int .i64 0])/\Y1a w' w.heap.size A' (M8a (w1a ys))/\Below w.heap.size w w'):=λw=>by
    have h1:=b9a w (w1a ys) KT;unfold z4a q4a m3a at h1
    rwa [if_pos hm,if_pos hm,D5a KT.len] at h1
   have HPL:=hI (D5a KT.len);have HPB:=hI (s5a KT.byte);have hpt:=M4b ys hyb hyl;by_cases hq:M8a (w1a ys)=ys
   ·have HQ:Hid (∀e w',(e=.returned (.tuple #[hv (w1a ys),.int .i64 0])/\Below w.heap.size w w')->R7a w xs a e w'):=by
     rintro e w' ⟨rfl,hb⟩;have he:r2a xs a=0:=by unfold r2a q6b;rw[if_pos hp,<-hys',<-hpt,hm,decide_eq_true hq];rfl
     refine⟨?_,hb⟩;unfold l2a;rw[he,if_pos rfl,<-hys']
    have HD:=hI (decide_eq_true hq);obtain⟨ps,hps⟩:∃ps,ps=M8a (w1a ys):=⟨_,rfl⟩;rw[<-hps] at CH HPL HPB HD;obtain⟨ts,hts⟩:∃ts,ts=q0a (w1a ys):=⟨_,rfl⟩;unfold hv at CT CH HQ;rw[<-hts] at CT CH HQ HLT HOT;clear hys hys' hyl hyb hp hroom hm hpt hq hps hts KT hl hx hzs;go_enter Tryz.func30,Tryz.ntmps30;go_wp2_with(first
     | ((with_reducible refine sN 4 ?_);refine b0a rfl _ rfl zs _ ZH ?_;intro g0 w1 hg1 hg2 B1 L1)
     | fail)
    refine(CP.out _ (HX.out.over L1.out)).mono ?_;rintro e w2 ⟨A',rfl,hf,L2⟩;have hh:=hf.holds HYL.out HYB.out (by decide);have B2:=hI (B1.out.over L2);have L12:=hI (step L1.out L2);clear B1 L1 L2 CP HX hf;go_wp2_with fail;refine(CT.out _ _ hh).mono ?_;rintro e w3 ⟨rfl,L3⟩;have B3:=hI (B2.out.over L3);have L13:=hI (step L12.out L3);have hh3:=hI (hh.over L3);have hgs:=B3.out.lt;clear B2 L12 hh L3 CT;go_wp2_with(first
     | ((with_reducible refine sN 8 ?_);refine b0a rfl _ rfl zs _ ZH ?_;intro g w4 hg3 hg4 X4 L4)
     | ((with_reducible refine sT 8 ?_);refine e0a rfl _ (.tmp 8) (.tmp 21) rfl g rfl _ zs ts rfl X4 26 E0a HZ HLT HOT ?_;intro w5 X5 O5 hg5)
     | ((with_reducible refine sN 23 ?_);refine d0a rfl _ (.tmp 8) rfl g rfl _ ts X5 26 _ Tryz.underlying28 rfl E0a HLT ?_)
     | fail)
    have L5:Below w3.heap.size w3 w5:=c0a L4.out O5.out hg3;have B5:=hI (B3.out.over L5);have L15:=hI (step L13.out L5);have hh5:=hI (hh3.out.over L5);clear B3 L13 hh3 X4 L4 O5 L5;refine(CH.out _).mono ?_;rintro e w6 ⟨A2,rfl,hf2,L6⟩;have B6:=hI (B5.out.over L6);have X6:=hI (X5.out.over L6);have L16:=hI (step L15.out L6);have hh6:=hh5.out.over L6;have hk6:=hf2.holds HPL.out HPB.out (by decide);have CE:=Z1b w6 _ _ _ _ _ _ _ _ _ _ hk6 hh6 (by decide) (by decide);rw[HD.out] at CE;have CE':=hI CE;clear CE B5 X5 L15 hh5 L6 hf2 hh6 hk6 CH HD;go_wp2_with fail;refine CE'.out.mono ?_;rintro e w7 ⟨rfl,rfl⟩;clear CE';go_wp2_with(first
     | ((with_reducible refine sN 36 ?_);refine d0a rfl _ (.tmp 8) rfl g rfl _ ts X6 26 _ Tryz.underlying28 rfl E0a HLT ?_)
     | ((with_reducible refine sT 4 ?_);refine e0a rfl _ (.tmp 4) (.tmp 36) rfl g0 rfl _ zs ts rfl B6 26 E0a HZ HLT HOT ?_;intro w9 B9 O9 hg9))
    refine bodyPost_ret (v:=.tuple #[.agg ts.toArray,.int .i64 0]) ?_ rfl (HQ.out _ _ ⟨rfl,c0a L16.out O9.out hg1⟩);exact h3a rfl _ _ g0 _ _ (0,0) _ rfl B9.out Tryz.underlying28 rfl (by rw[E0a];have:=HLT.out;simp[this]) rfl
   ·have HQ:Hid (∀e w',(e=.returned (.tuple #[hv N1a,.int .i64 5])/\Below w.heap.size w w')->R7a w xs a e w'):=by
     rintro e w' ⟨rfl,hb⟩;have he:r2a xs a=5:=by unfold r2a q6b;rw[if_pos hp,<-hys',<-hpt,hm,decide_eq_false hq];rfl
     refine⟨?_,hb⟩;unfold l2a;rw[he];rfl
    have HD:=hI (decide_eq_false hq);obtain⟨ps,hps⟩:∃ps,ps=M8a (w1a ys):=⟨_,rfl⟩;rw[<-hps] at CH HPL HPB HD;obtain⟨ts,hts⟩:∃ts,ts=q0a (w1a ys):=⟨_,rfl⟩;rw[HZV.out] at HQ;unfold hv at CT CH;rw[<-hts] at CT CH HLT HOT;clear hys hys' hyl hyb hp hroom hm hpt hq hps hts KT hl hx hzs;go_enter Tryz.func30,Tryz.ntmps30;go_wp2_with(first
     | ((with_reducible refine sN 4 ?_);refine b0a rfl _ rfl zs _ ZH ?_;intro g0 w1 hg1 hg2 B1 L1)
     | fail)
    refine(CP.out _ (HX.out.over L1.out)).mono ?_;rintro e w2 ⟨A',rfl,hf,L2⟩;have hh:=hf.holds HYL.out HYB.out (by decide);have B2:=hI (B1.out.over L2);have L12:=hI (step L1.out L2);clear B1 L1 L2 CP HX hf;go_wp2_with fail;refine(CT.out _ _ hh).mono ?_;rintro e w3 ⟨rfl,L3⟩;have B3:=hI (B2.out.over L3);have L13:=hI (step L12.out L3);have hh3:=hI (hh.over L3);have hgs:=B3.out.lt;clear B2 L12 hh L3 CT;go_wp2_with(first
     | ((with_reducible refine sN 8 ?_);refine b0a rfl _ rfl zs _ ZH ?_;intro g w4 hg3 hg4 X4 L4)
     | ((with_reducible refine sT 8 ?_);refine e0a rfl _ (.tmp 8) (.tmp 21) rfl g rfl _ zs ts rfl X4 26 E0a HZ HLT HOT ?_;intro w5 X5 O5 hg5)
     | ((with_reducible refine sN 23 ?_);refine d0a rfl _ (.tmp 8) rfl g rfl _ ts X5 26 _ Tryz.underlying28 rfl E0a HLT ?_)
     | fail)
    have L5:Below w3.heap.size w3 w5:=c0a L4.out O5.out hg3;have B5:=hI (B3.out.over L5);have L15:=hI (step L13.out L5);have hh5:=hI (hh3.out.over L5);clear B3 L13 hh3 X4 L4 O5 L5;refine(CH.out _).mono ?_;rintro e w6 ⟨A2,rfl,hf2,L6⟩;have B6:=hI (B5.out.over L6);have X6:=hI (X5.out.over L6);have L16:=hI (step L15.out L6);have hh6:=hh5.out.over L6;have hk6:=hf2.holds HPL.out HPB.out (by decide);have CE:=Z1b w6 _ _ _ _ _ _ _ _ _ _ hk6 hh6 (by decide) (by decide);rw[HD.out] at CE;have CE':=hI CE;clear CE B5 X5 L15 hh5 L6 hf2 hh6 hk6 CH HD;go_wp2_with fail;refine CE'.out.mono ?_;rintro e w7 ⟨rfl,rfl⟩;clear CE';go_wp2_with(first
     | ((with_reducible refine sN 35 ?_);refine W0a rfl _ rfl zs BH ?_)
     | ((with_reducible refine sT 4 ?_);refine e0a rfl _ (.tmp 4) (.tmp 35) rfl g0 rfl _ zs zs rfl B6 26 E0a HZ HZ HZO ?_;intro w9 B9 O9 hg9))
    refine bodyPost_ret (v:=.tuple #[.agg zs.toArray,.int .i64 5]) ?_ rfl (HQ.out _ _ ⟨rfl,c0a L16.out O9.out hg1⟩);exact h3a rfl _ _ g0 _ _ (0,0) _ rfl B9.out Tryz.underlying28 rfl (by rw[E0a];have:=HZ.out;simp[this]) rfl
  ·have HQ:Hid (∀e w',(e=.returned (.tuple #[hv N1a,.int .i64 5])/\Below w.heap.size w w')->R7a w xs a e w'):=by
    rintro e w' ⟨rfl,hb⟩;have hm':c8a (w1a ys)=false:=by simpa using hm
    have he:r2a xs a=5:=by unfold r2a q6b;rw[if_pos hp,<-hys',hm',Bool.and_false];rfl
    refine⟨?_,hb⟩;unfold l2a;rw[he];rfl
   have CH:Hid (∀w:World,Calls Tryz.prog 20 #[hv (w1a ys)] w λe w'=>∃A',e=.returned (.tuple #[.slice A' 0 0,.int .i64 2])/\Below w.heap.size w w'):=λw=>by have h1:=b9a w (w1a ys) KT;unfold z4a q4a m3a at h1;rw[if_neg hm,if_neg hm] at h1;refine h1.mono ?_;rintro e w' ⟨A',rfl,hf,hb⟩;exact⟨A',rfl,hb⟩
   obtain⟨ts,hts⟩:∃ts,ts=q0a (w1a ys):=⟨_,rfl⟩;rw[HZV.out] at HQ;unfold hv at CT CH;rw[<-hts] at CT CH HLT HOT;clear hys hys' hyl hyb hp hroom hm hts KT hl hx hzs;go_enter Tryz.func30,Tryz.ntmps30;go_wp2_with(first
    | ((with_reducible refine sN 4 ?_);refine b0a rfl _ rfl zs _ ZH ?_;intro g0 w1 hg1 hg2 B1 L1)
    | fail)
   refine(CP.out _ (HX.out.over L1.out)).mono ?_;rintro e w2 ⟨A',rfl,hf,L2⟩;have hh:=hf.holds HYL.out HYB.out (by decide);have B2:=hI (B1.out.over L2);have L12:=hI (step L1.out L2);clear B1 L1 L2 CP HX hf;go_wp2_with fail;refine(CT.out _ _ hh).mono ?_;rintro e w3 ⟨rfl,L3⟩;have B3:=hI (B2.out.over L3);have L13:=hI (step L12.out L3);have hh3:=hI (hh.over L3);have hgs:=B3.out.lt;clear B2 L12 hh L3 CT;go_wp2_with(first
    | ((with_reducible refine sN 8 ?_);refine b0a rfl _ rfl zs _ ZH ?_;intro g w4 hg3 hg4 X4 L4)
    | ((with_reducible refine sT 8 ?_);refine e0a rfl _ (.tmp 8) (.tmp 21) rfl g rfl _ zs ts rfl X4 26 E0a HZ HLT HOT ?_;intro w5 X5 O5 hg5)
    | ((with_reducible refine sN 23 ?_);refine d0a rfl _ (.tmp 8) rfl g rfl _ ts X5 26 _ Tryz.underlying28 rfl E0a HLT ?_)
    | fail)
   have L5:Below w3.heap.size w3 w5:=c0a L4.out O5.out hg3;have B5:=hI (B3.out.over L5);have L15:=hI (step L13.out L5);have hh5:=hI (hh3.out.over L5);clear B3 L13 hh3 X4 L4 O5 L5;refine(CH.out _).mono ?_;rintro e w6 ⟨A2,rfl,L6⟩;have B6:=hI (B5.out.over L6);have L16:=hI (step L15.out L6);clear B5 X5 L15 hh5 L6 CH;go_wp2_with(first
    | ((with_reducible refine sN 35 ?_);refine W0a rfl _ rfl zs BH ?_)
    | ((with_reducible refine sT 4 ?_);refine e0a rfl _ (.tmp 4) (.tmp 35) rfl g0 rfl _ zs zs rfl B6 26 E0a HZ HZ HZO ?_;intro w9 B9 O9 hg9))
   refine bodyPost_ret (v:=.tuple #[.agg zs.toArray,.int .i64 5]) ?_ rfl (HQ.out _ _ ⟨rfl,c0a L16.out O9.out hg1⟩);exact h3a rfl _ _ g0 _ _ (0,0) _ rfl B9.out Tryz.underlying28 rfl (by rw[E0a];have:=HZ.out;simp[this]) rfl
 ·have HQ:Hid (∀e w',(e=.returned (.tuple #[hv N1a,.int .i64 (p1a xs.length a 64)])/\Below w.heap.size w w')->R7a w xs a e w'):=by
   rintro e w' ⟨rfl,hb⟩;have he:r2a xs a=p1a xs.length a 64:=by unfold r2a;rw[if_neg hp]
   refine⟨?_,hb⟩;unfold l2a;rw[he,if_neg hp]
  have e2:partOf xs a 64=[]:=by unfold partOf;rw[if_neg hp]
  unfold t4a at CP;rw[e2] at CP;rw[HZV.out] at HQ;obtain⟨er,her⟩:∃er,er=p1a xs.length a 64:=⟨_,rfl⟩;rw[<-her] at CP HQ hp;have hne:(er != 0)=true:=by simpa using hp
  clear e2 her hp hl hx hzs;go_enter Tryz.func30,Tryz.ntmps30;go_wp2_with(first
   | ((with_reducible refine sN 4 ?_);refine b0a rfl _ rfl zs _ ZH ?_;intro g0 w1 hg1 hg2 B1 L1)
   | fail)
  refine(CP.out _ (HX.out.over L1.out)).mono ?_;rintro e w2 ⟨A',rfl,hf,L2⟩;have B2:=hI (B1.out.over L2);have L12:=hI (step L1.out L2);go_wp2_with(first
   | ((with_reducible refine sN 18 ?_);refine W0a rfl _ rfl zs BH ?_)
   | ((with_reducible refine sT 4 ?_);refine e0a rfl _ (.tmp 4) (.tmp 18) rfl g0 rfl _ zs zs rfl B2 26 E0a HZ HZ HZO ?_;intro w9 B9 O9 hg9))
  refine bodyPost_ret (v:=.tuple #[.agg zs.toArray,.int .i64 er]) ?_ rfl (HQ.out _ _ ⟨rfl,c0a L12.out O9.out hg1⟩);exact h3a rfl _ _ g0 _ _ (0,0) _ rfl B9.out Tryz.underlying28 rfl (by rw[E0a];have:=HZ.out;simp[this]) rfl
theorem R7b(w:World)(h:Hd)(k:h.ok)(hm:c8a h=true):Calls Tryz.prog 20 #[hv h] w λe w'=>∃A',e=.returned (.tuple #[.slice A' 64 64,.int .i64 0])/\Y1a w' w.heap.size A' (M8a h)/\Below w.heap.size w w':=by
 have h1:=b9a w h k;unfold z4a q4a m3a at h1
 rwa [if_pos hm,if_pos hm,D5a k.len] at h1
theorem Y2b(w:World)(h:Hd)(k:h.ok)(hm:c8a h=false):Calls Tryz.prog 20 #[hv h] w λe w'=>∃A',e=.returned (.tuple #[.slice A' 0 0,.int .i64 2])/\Below w.heap.size w w':=by have h1:=b9a w h k;unfold z4a q4a m3a at h1;rw[if_neg (by rw[hm];decide),if_neg (by rw[hm];decide)] at h1;refine h1.mono ?_;rintro e w' ⟨A',rfl,_,hb⟩;exact⟨A',rfl,hb⟩
theorem z2a{P:Program}{ops:Array Oper}{S:World->Prop}{op:Oper}{a:Act}(hw:Region.wanted op (yielded ops a.tmps)=true)(T:TypeId)(x:Operand)(ho:op.op=.load T x)(g i:Nat)(hx:a.eval x=.pointer (some ⟨g,i,none⟩))(cs:List Value)
(hS:∀w,S w->w.rangeAt g i cs)(n:Nat)(d:TypeDesc)(hu:P.underlying T=some d)(hd:d.isRow=true)(hi:(P.info? T).map (·.size)=some n)(hn:Hid (cs.length=n)):YieldsIf P ops S op (.agg cs.toArray) a:=
 .inl ⟨hw,λw hw'=>by unfold execOp;simp only[ho,hx,Instr.loadAt,Instr.sureAddr,Sem.run_bind,Sem.run_pure,Result.andThen_ok,run_loadVar_mid w g i T cs d (hS w hw') hu hd (by rw[hi,hn.out])]⟩
theorem P8b{c:Int}{s:E1a}(h:¬pse c s=0):pso c s=[]:=by
 unfold pso;unfold pse at h;split
 ·rename_i h1;rw[if_pos h1] at h;unfold O3a;rw[if_neg h]
 ·rename_i h1;rw[if_neg h1] at h;split
  ·rename_i h2;rw[if_pos h2] at h;unfold u3b;rw[if_neg h]
  ·rename_i h2;rw[if_neg h2] at h;unfold U1b;rw[if_neg h]
theorem Q8b{c:Int}{a:m1a}(h:¬pae c a=0):pao c a=[]:=by
 unfold pao;unfold pae at h;split
 ·rename_i h1;rw[if_pos h1] at h;unfold q3a;rw[if_neg h]
 ·rename_i h1;rw[if_neg h1] at h;split
  ·rename_i h2;rw[if_pos h2] at h;unfold t2b;rw[if_neg h]
  ·rename_i h2;rw[if_neg h2] at h;unfold h1b;rw[if_neg h]
theorem Q9a(w:World)(ac:List Value)(a:m1a)(k:a.ok)(ha:b1a w w.heap.size ac a)(hu:a.user.size<=17592186044416/\a.share.size<=17592186044416)(hT:f7a w) :
  Calls Tryz.prog 40 #[.agg ac.toArray] w λe w'=>e=.returned (.bool (g1a 13 a==0))/\Below w.heap.size w w':=by
 have HL:=hI (ha.len k);have CP:Hid (∀w',Below w.heap.size w w'->Calls Tryz.prog 80 #[.int .u16 13,.agg ac.toArray] w' λe w2=>∃v,e=.returned (.tuple #[v,.int .i64 (g1a 13 a)])/\Below w'.heap.size w' w2):=λw' hb=>(N5a w' 13 ac a (by decide) k (ha.over hb) hu (hT.below hb)).mono λe w2 ⟨v,h1,_,h2⟩=>⟨v,h1,h2⟩
 obtain⟨er,her⟩:∃x,x=g1a 13 a:=⟨_,rfl⟩;rw[<-her] at CP⊢;clear her ha;go_enter Tryz.func40,Tryz.ntmps40;go_wp2_with(first
  | ((with_reducible refine sN 1 ?_);refine a0a rfl _ (.tmp 0) rfl ac rfl ?_;intro g w1 hg1 hg2 B1 L1)
  | ((with_reducible refine sN 6 ?_);refine d0a rfl _ (.tmp 1) rfl g rfl _ ac B1 69 _ Tryz.underlying34 rfl n0a HL ?_)
  | fail)
 refine(CP.out w1 L1.out).mono ?_;rintro e w2 ⟨v,rfl,L2⟩;go_wp2;go_ret;exact⟨rfl,step L1.out L2⟩
theorem R9a(w:World)(ac:List Value)(a:E1a)(k:a.ok)(ha:f1a w w.heap.size ac a) :
  Calls Tryz.prog 42 #[.agg ac.toArray] w λe w'=>e=.returned (.bool (z1a 13 a==0))/\Below w.heap.size w w':=by
 have HL:=hI (ha.len k);have CP:Hid (∀w',Below w.heap.size w w'->Calls Tryz.prog 82 #[.int .u16 13,.agg ac.toArray] w' λe w2=>∃v,e=.returned (.tuple #[v,.int .i64 (z1a 13 a)])/\Below w'.heap.size w' w2):=λw' hb=>(O5a w' 13 ac a (by decide) k (ha.over hb)).mono λe w2 ⟨v,h1,_,h2⟩=>⟨v,h1,h2⟩
 obtain⟨er,her⟩:∃x,x=z1a 13 a:=⟨_,rfl⟩;rw[<-her] at CP⊢;clear her ha;go_enter Tryz.func42,Tryz.ntmps42;go_wp2_with(first
  | ((with_reducible refine sN 1 ?_);refine a0a rfl _ (.tmp 0) rfl ac rfl ?_;intro g w1 hg1 hg2 B1 L1)
  | ((with_reducible refine sN 6 ?_);refine d0a rfl _ (.tmp 1) rfl g rfl _ ac B1 20 _ Tryz.underlying39 rfl v0a HL ?_)
  | fail)
 refine(CP.out w1 L1.out).mono ?_;rintro e w2 ⟨v,rfl,L2⟩;go_wp2;go_ret;exact⟨rfl,step L1.out L2⟩
def S7a(w:World)(m:A5a)(e:Ending)(w':World):Prop:=∃v,e=.returned (.tuple #[v,.int .i64 (u6a m)])/\M5a w' w.heap.size v (L9a m)/\Below w.heap.size w w'
def U6b(w:World)(c:Int)(ac:List Value)(a:m1a):Prop:=∀w',Below w.heap.size w w'->Calls Tryz.prog (fPA c) #[.int .u16 c,.agg ac.toArray] w' λe w2=>∃v,e=.returned (.tuple #[v,.int .i64 (pae c a)])/\M5a w2 w'.heap.size v (pao c a)/\Below w'.heap.size w' w2
def V6b(w:World)(c:Int)(sc:List Value)(s:E1a):Prop:=∀w',Below w.heap.size w w'->Calls Tryz.prog (fPS c) #[.int .u16 c,.agg sc.toArray] w' λe w2=>∃v,e=.returned (.tuple #[v,.int .i64 (pse c s)])/\M5a w2 w'.heap.size v (pso c s)/\Below w'.heap.size w' w2
theorem E8a(g:Nat)(w:World):(Instr.fieldAt 60 (.pointer (some ⟨g,0,none⟩)) 1).run Tryz.prog w=.ok (.pointer (some ⟨g,26,none⟩)) w:=by go_simp
theorem F8a(g:Nat)(w:World):(Instr.fieldAt 60 (.pointer (some ⟨g,0,none⟩)) 2).run Tryz.prog w=.ok (.pointer (some ⟨g,95,none⟩)) w:=by go_simp
theorem m1b{h:Hd}(k:h.ok):0<=t6a h/\t6a h<=65535:=by unfold t6a;have:=k.cm;split<;>omega
theorem y0b(w:World)(g:Nat)(m:A5a)(ac sc:List Value)(k:m.ok)(B:Blk w g 60 (q0a m.h++(ac++sc)))(ha:b1a w w.heap.size ac m.a)(hs:f1a w w.heap.size sc m.s)(hu:m.a.user.size<=17592186044416/\m.a.share.size<=17592186044416)(hT:f7a w)
(CA:T2a m.h.fl=false->U6b w (t6a m.h) ac m.a)(CS:T2a m.h.fl=true->V6b w (t6a m.h) sc m.s) :
  Calls Tryz.prog 21 #[.pointer (some ⟨g,0,none⟩)] w (S7a w m):=by
 have CR:=hI (w5b w g m.h k.h _ B);have CI:=hI (t7a w g m.h k.h _ B);have H26:=hI (I0a k.h);have H69:=hI (ha.len k.a);have H20:=hI (hs.len k.s);have CN:=hI (Q9a w ac m.a k.a ha hu hT);have CM:=hI (R9a w sc m.s k.s hs);have CB:Hid (∀w',Calls Tryz.prog 41 #[.int .u16 (t6a m.h)] w' λe w2=>e=.returned (A3a (t6a m.h))/\Below w'.heap.size w' w2):=λw'=>C8a w' _ (m1b k.h)
 have HE:Hid (u6a m=2->∀v e w',e=.returned (.tuple #[v,.int .i64 2])->v=.slice none 0 0->Below w.heap.size w w'->S7a w m e w'):=by intro h v e w' h1 h2 h3;unfold S7a L9a;rw[h,if_neg (by decide)];exact⟨v,h1,by rw[h2];exact a1a.nil _ _ _ _,h3⟩
 obtain⟨c,hc⟩:∃c,c=t6a m.h:=⟨_,rfl⟩;rw[<-hc] at CR CA CS CB;obtain⟨hcs,hhc⟩:∃x,x=q0a m.h:=⟨_,rfl⟩;rw[<-hhc] at B H26;have BH:=hI B;have gl:=B.lt;clear B hhc ha hs;by_cases hr:T2a m.h.fl=true
 ·skip
  have hr':T2a m.h.fl=true:=by simpa using hr
  rw[hr'] at CI;have CC:=hI (CS hr');clear CA CS;by_cases hz:g1a 13 m.a=0;rotate_left
  ·have hE:=HE.out (by unfold u6a;rw[if_pos hr,if_neg hz]);have hz':(g1a 13 m.a==0)=false:=by simpa using hz
   rw[hz'] at CN;have HE2:=hI hE;have B1:=BH.out;clear hE HE CC CB hz hz' hr hr' hc;go_enter Tryz.func21,Tryz.ntmps21;go_wp2_with fail;refine CR.out.mono ?_;rintro e w1 ⟨rfl,rfl⟩;go_wp2_with fail;refine CI.out.mono ?_;rintro e w1 ⟨rfl,rfl⟩;go_wp2_with(first
    | ((with_reducible refine sN 12 ?_);refine p0a rfl _ (.tmp 11) rfl g 26 rfl ac _ (hI (p5a B1 H26.out)) Tryz.underlying34 rfl 69 n0a H69 ?_)
    | fail)
   refine CN.out.mono ?_;rintro e w1 ⟨rfl,L1⟩;go_wp2;go_ret2;exact HE2.out _ _ _ rfl rfl L1
  have hz':(g1a 13 m.a==0)=true:=by simpa using hz
  rw[hz'] at CN;have HQ:Hid (∀v e (w1 w':World),e=.returned (.tuple #[v,.int .i64 (pse c m.s)])->M5a w' w1.heap.size v (pso c m.s)->w.heap.size<=w1.heap.size->Below w.heap.size w w'->S7a w m e w'):=by
   intro v e w1 w' h1 h2 h3 h4;have hme:u6a m=pse c m.s:=by unfold u6a;rw[if_pos hr,if_pos hz,hc]
   have hmo:L9a m=pso c m.s:=by
    unfold L9a;by_cases h0:pse c m.s=0
    ·rw[hme,if_pos h0,if_pos hr,hc]
    ·rw[hme,if_neg h0,P8b h0]
   unfold S7a;rw[hme,hmo];exact⟨v,h1,h2.mono h3,h4⟩
  unfold V6b at CC;obtain⟨er,her⟩:∃x,x=pse c m.s:=⟨_,rfl⟩;rw[<-her] at CC HQ;obtain⟨ys,hys⟩:∃x,x=pso c m.s:=⟨_,rfl⟩;rw[<-hys] at CC HQ;have HB2:Hid (∃F1 F2 F3,A3a c=.agg #[F1,F2,.func (.func (fPS c)) #[] #[],F3]):=⟨_,_,_,rfl⟩;obtain⟨F1,F2,F3,hF⟩:=HB2.out;rw[hF] at CB;have hent:=C8b c;obtain⟨fn,hfn⟩:∃x,x=fPS c:=⟨_,rfl⟩;rw[<-hfn] at CC CB hent;have B1:=BH.out;clear HE hz hz' hr hr' hc her hys hF HB2 hfn;go_enter Tryz.func21,Tryz.ntmps21;go_wp2_with fail;refine CR.out.mono ?_;rintro e w1 ⟨rfl,rfl⟩;go_wp2_with fail;refine CI.out.mono ?_;rintro e w1 ⟨rfl,rfl⟩;go_wp2_with(first
   | ((with_reducible refine sN 12 ?_);refine p0a rfl _ (.tmp 11) rfl g 26 rfl ac _ (hI (p5a B1 H26.out)) Tryz.underlying34 rfl 69 n0a H69 ?_)
   | fail)
  refine CN.out.mono ?_;rintro e w1 ⟨rfl,L1⟩;have B2:=hI (B1.over L1);have M1:=hI L1;clear L1 B1 BH CR CI CN CM;go_upto_region 13 with fail
  refine wp_region_held (S:=λw'=>Blk w' g 60 (hcs++(ac++sc))/\Below w.heap.size w w') (by kernel_rfl) ?_;change wpAnyH _ _ _ _ _ _ _ _ w1.drew
  have S0:Hid (Blk w1.drew g 60 (hcs++(ac++sc))/\Below w.heap.size w w1.drew):=⟨B2.out.drew,M1.out.drew⟩;have b0:Hid (w.heap.size<=w1.drew.heap.size):=M1.out.drew.size;refine tK 0 _ rfl (t0a (by kernel_rfl) (.tmp 4) rfl (.int .u16 c) (by kernel_rfl)) S0.out ?_;refine tK 3 _ rfl (t0a (by kernel_rfl) (.tmp 4) rfl (.int .u16 c) (by kernel_rfl)) S0.out ?_;refine tK 4 _ rfl (t0a (by kernel_rfl) (.tmp 0) rfl (.pointer (some ⟨g,0,none⟩)) (by kernel_rfl)) S0.out ?_;refine tK 5 _ rfl (x1a (by kernel_rfl) (.tmp 19) rfl ⟨g,0,none⟩ (by kernel_rfl)) S0.out ?_;refine tK 6 _ rfl (g0a (by kernel_rfl) _ (.tmp 20) 2 rfl (.pointer (some ⟨g,0,none⟩)) (.pointer (some ⟨g,95,none⟩)) (by kernel_rfl) (F8a g)) S0.out ?_;refine tK 7 _ rfl (z2a (by kernel_rfl) _ (.tmp 21) rfl g 95 (by kernel_rfl) sc (λ_ h=>q5a h.1 H26.out H69.out) 20 _ Tryz.underlying39 rfl v0a H20) S0.out ?_;refine oN 1 _ rfl λK hK=>?_
  go_simp;refine(CB.out _).mono ?_;rintro e v1 ⟨rfl,b⟩;have S1:Hid (Blk v1 g 60 (hcs++(ac++sc))/\Below w.heap.size w v1):=⟨S0.out.1.over b,step S0.out.2 b⟩;have b1:Hid (w.heap.size<=v1.heap.size):=Nat.le_trans b0.out b.size;refine hK _ _ S1.out ?_;clear hK K b;refine oN 2 _ rfl λK hK=>?_
  go_simp;refine hK _ _ S1.out ?_;clear hK K;refine oN 8 _ rfl λK hK=>?_
  go_simp;refine(CC.out _ S1.out.2).mono ?_;rintro e v2 ⟨v,rfl,ho,b⟩;have S2:Hid (Blk v2 g 60 (hcs++(ac++sc))/\Below w.heap.size w v2):=⟨S1.out.1.over b,step S1.out.2 b⟩;have b2:Hid (w.heap.size<=v2.heap.size):=Nat.le_trans b1.out b.size;have HO:=hI (HQ.out v _ _ _ rfl ho b1.out (step S1.out.2 b));refine hK _ _ S2.out ?_;clear hK K b ho;refine tK 9 v rfl (.inl ⟨by kernel_rfl,λw _=>by go_simp⟩) S2.out ?_;refine tK 10 (.int .i64 er) rfl (.inl ⟨by kernel_rfl,λw _=>by go_simp⟩) S2.out ?_;refine oN 11 _ rfl λK hK=>?_
  go_simp;refine hK _ _ S2.out ?_;clear hK K;refine oN 12 _ rfl λK hK=>?_
  go_simp;refine hK _ _ S2.out ?_;clear hK K;refine dN ?_;go_wp2;go_ret2;exact HO.out
 ·skip
  have hr':T2a m.h.fl=false:=by simpa using hr
  rw[hr'] at CI;have CC:=hI (CA hr');clear CA CS;by_cases hz:z1a 13 m.s=0;rotate_left
  ·have hE:=HE.out (by unfold u6a;rw[if_neg hr,if_neg hz]);have hz':(z1a 13 m.s==0)=false:=by simpa using hz
   rw[hz'] at CM;have HE2:=hI hE;have B1:=BH.out;clear hE HE CC CB hz hz' hr hr' hc;go_enter Tryz.func21,Tryz.ntmps21;go_wp2_with fail;refine CR.out.mono ?_;rintro e w1 ⟨rfl,rfl⟩;go_wp2_with fail;refine CI.out.mono ?_;rintro e w1 ⟨rfl,rfl⟩;go_wp2_with(first
    | ((with_reducible refine sN 29 ?_);refine p0a rfl _ (.tmp 28) rfl g 95 rfl sc _ (hI (q5a B1 H26.out H69.out)) Tryz.underlying39 rfl 20 v0a H20 ?_)
    | fail)
   refine CM.out.mono ?_;rintro e w1 ⟨rfl,L1⟩;go_wp2;go_ret2;exact HE2.out _ _ _ rfl rfl L1
  have hz':(z1a 13 m.s==0)=true:=by simpa using hz
  rw[hz'] at CM;have HQ:Hid (∀v e (w1 w':World),e=.returned (.tuple #[v,.int .i64 (pae c m.a)])->M5a w' w1.heap.size v (pao c m.a)->w.heap.size<=w1.heap.size->Below w.heap.size w w'->S7a w m e w'):=by
   intro v e w1 w' h1 h2 h3 h4;have hme:u6a m=pae c m.a:=by unfold u6a;rw[if_neg hr,if_pos hz,hc]
   have hmo:L9a m=pao c m.a:=by
    unfold L9a;by_cases h0:pae c m.a=0
    ·rw[hme,if_pos h0,if_neg hr,hc]
    ·rw[hme,if_neg h0,Q8b h0]
   unfold S7a;rw[hme,hmo];exact⟨v,h1,h2.mono h3,h4⟩
  unfold U6b at CC;obtain⟨er,her⟩:∃x,x=pae c m.a:=⟨_,rfl⟩;rw[<-her] at CC HQ;obtain⟨ys,hys⟩:∃x,x=pao c m.a:=⟨_,rfl⟩;rw[<-hys] at CC HQ;have HB2:Hid (∃F1 F2 F3,A3a c=.agg #[.func (.func (fPA c)) #[] #[],F1,F2,F3]):=⟨_,_,_,rfl⟩;obtain⟨F1,F2,F3,hF⟩:=HB2.out;rw[hF] at CB;have hent:=A8b c;obtain⟨fn,hfn⟩:∃x,x=fPA c:=⟨_,rfl⟩;rw[<-hfn] at CC CB hent;have B1:=BH.out;clear HE hz hz' hr hr' hc her hys hF HB2 hfn;go_enter Tryz.func21,Tryz.ntmps21;go_wp2_with fail;refine CR.out.mono ?_;rintro e w1 ⟨rfl,rfl⟩;go_wp2_with fail;refine CI.out.mono ?_;rintro e w1 ⟨rfl,rfl⟩;go_wp2_with(first
   | ((with_reducible refine sN 29 ?_);refine p0a rfl _ (.tmp 28) rfl g 95 rfl sc _ (hI (q5a B1 H26.out H69.out)) Tryz.underlying39 rfl 20 v0a H20 ?_)
   | fail)
  refine CM.out.mono ?_;rintro e w1 ⟨rfl,L1⟩;have B2:=hI (B1.over L1);have M1:=hI L1;clear L1 B1 BH CR CI CN CM;go_upto_region 13 with fail
  refine wp_region_held (S:=λw'=>Blk w' g 60 (hcs++(ac++sc))/\Below w.heap.size w w') (by kernel_rfl) ?_;change wpAnyH _ _ _ _ _ _ _ _ w1.drew
  have S0:Hid (Blk w1.drew g 60 (hcs++(ac++sc))/\Below w.heap.size w w1.drew):=⟨B2.out.drew,M1.out.drew⟩;have b0:Hid (w.heap.size<=w1.drew.heap.size):=M1.out.drew.size;refine tK 0 _ rfl (t0a (by kernel_rfl) (.tmp 4) rfl (.int .u16 c) (by kernel_rfl)) S0.out ?_;refine tK 3 _ rfl (t0a (by kernel_rfl) (.tmp 4) rfl (.int .u16 c) (by kernel_rfl)) S0.out ?_;refine tK 4 _ rfl (t0a (by kernel_rfl) (.tmp 0) rfl (.pointer (some ⟨g,0,none⟩)) (by kernel_rfl)) S0.out ?_;refine tK 5 _ rfl (x1a (by kernel_rfl) (.tmp 36) rfl ⟨g,0,none⟩ (by kernel_rfl)) S0.out ?_;refine tK 6 _ rfl (g0a (by kernel_rfl) _ (.tmp 37) 1 rfl (.pointer (some ⟨g,0,none⟩)) (.pointer (some ⟨g,26,none⟩)) (by kernel_rfl) (E8a g)) S0.out ?_;refine tK 7 _ rfl (z2a (by kernel_rfl) _ (.tmp 38) rfl g 26 (by kernel_rfl) ac (λ_ h=>p5a h.1 H26.out) 69 _ Tryz.underlying34 rfl n0a H69) S0.out ?_;refine oN 1 _ rfl λK hK=>?_
  go_simp;refine(CB.out _).mono ?_;rintro e v1 ⟨rfl,b⟩;have S1:Hid (Blk v1 g 60 (hcs++(ac++sc))/\Below w.heap.size w v1):=⟨S0.out.1.over b,step S0.out.2 b⟩;have b1:Hid (w.heap.size<=v1.heap.size):=Nat.le_trans b0.out b.size;refine hK _ _ S1.out ?_;clear hK K b;refine oN 2 _ rfl λK hK=>?_
  go_simp;refine hK _ _ S1.out ?_;clear hK K;refine oN 8 _ rfl λK hK=>?_
  go_simp;refine(CC.out _ S1.out.2).mono ?_;rintro e v2 ⟨v,rfl,ho,b⟩;have S2:Hid (Blk v2 g 60 (hcs++(ac++sc))/\Below w.heap.size w v2):=⟨S1.out.1.over b,step S1.out.2 b⟩;have b2:Hid (w.heap.size<=v2.heap.size):=Nat.le_trans b1.out b.size;have HO:=hI (HQ.out v _ _ _ rfl ho b1.out (step S1.out.2 b));refine hK _ _ S2.out ?_;clear hK K b ho;refine tK 9 v rfl (.inl ⟨by kernel_rfl,λw _=>by go_simp⟩) S2.out ?_;refine tK 10 (.int .i64 er) rfl (.inl ⟨by kernel_rfl,λw _=>by go_simp⟩) S2.out ?_;refine oN 11 _ rfl λK hK=>?_
  go_simp;refine hK _ _ S2.out ?_;clear hK K;refine oN 12 _ rfl λK hK=>?_
  go_simp;refine hK _ _ S2.out ?_;clear hK K;refine dN ?_;go_wp2;go_ret2;exact HO.out
def y6a(w:World)(m:A5a)(e:Ending)(w':World):Prop:=∃v,e=.returned (.tuple #[v,.int .i64 (Z5a m)])/\M5a w' w.heap.size v (i1b m)/\Below w.heap.size w w'
def R8b(w:World)(m:A5a)(ac sc:List Value):Prop:=∀w' g,Below w.heap.size w w'->Blk w' g 60 (q0a m.h++(ac++sc))->Calls Tryz.prog 21 #[.pointer (some ⟨g,0,none⟩)] w' (S7a w' m)
theorem w7b(w:World)(m:A5a)(ac sc:List Value)(k:m.ok)(l1:ac.length=69)(l2:sc.length=20)(o1:∀v∈ac,v.oneCell'=true)(o2:∀v∈sc,v.oneCell'=true)(hy:Bytes (L9a m))(hl:(L9a m).length<=70000)(CB:R8b w m ac sc) :
  Calls Tryz.prog 8 #[.agg (q0a m.h++(ac++sc)).toArray] w (y6a w m):=by
 have H26:=hI (I0a k.h);have H69:=hI l1;have H20:=hI l2;have BM:=u5b a7a H26.out l1 l2;have ZM:=hI B8a;have HZ:=hI z3a;have HLL:Hid ((q0a m.h++(ac++sc)).length=115):=by
  show _=_
  simp only[List.length_append,H26.out,l1,l2]
 have HOO:Hid (∀v∈q0a m.h++(ac++sc),v.oneCell'=true):=by
  intro v hv;rcases List.mem_append.1 hv with hv | hv
  ·exact i2a _ v hv
  ·rcases List.mem_append.1 hv with hv | hv
   ·exact o1 v hv
   ·exact o2 v hv
 have RH:Hid (∀(w:World) g T,Blk w g T (q0a m.h++(ac++sc))->w.rangeAt g 0 (q0a m.h)):=λw g T b=>x6a b
 have RA:Hid (∀(w:World) g T,Blk w g T (q0a m.h++(ac++sc))->w.rangeAt g 26 ac):=λw g T b=>p5a b H26.out
 have RS:Hid (∀(w:World) g T,Blk w g T (q0a m.h++(ac++sc))->w.rangeAt g 95 sc):=λw g T b=>q5a b H26.out l1
 have RN:Hid (∀(w:World) g T,Blk w g T (q0a m.h++(ac++sc))->w.cell? ⟨g,5,none⟩=some (.int .u32 m.h.nx)):=λw g T b=>Blk.cell b 5
 have HY:=hI hy;have CB':=hI CB;unfold R8b S7a at CB';have HP:=hI (D5a k.h.len);have HPB:=hI (s5a k.h.byte);have hE:Hid (∀er,Z5a m=er->er≠0->∀e w',e=.returned (.tuple #[.slice none 0 0,.int .i64 er])->Below w.heap.size w w'->y6a w m e w'):=by intro er h1 h2 e w' h3 h4;unfold y6a i1b;rw[h1,if_neg h2];exact⟨_,h3,a1a.nil _ _ _ _,h4⟩
 have hQ:Hid (Z5a m=0->∀v e w',e=.returned (.tuple #[v,.int .i64 0])->M5a w' w.heap.size v (M8a m.h++v6a m.h (L9a m))->Below w.heap.size w w'->y6a w m e w'):=by intro h1 v e w' h3 h4 h5;unfold y6a i1b;rw[h1,if_pos rfl];exact⟨v,h3,h4,h5⟩
 have hpd:=k1b (L9a m).length;have CM:Hid (∀(w:World) A n c,n<=281474976710656->Calls Tryz.prog 23 #[.slice A n c] w λe w'=>e=.returned (.int .i64 (W1b n:Nat))/\w=w'):=λw A n c h=>U2b w A n c h
 by_cases hm:c8a m.h=true;rotate_left
 ·have HE:=hI (hE.out 2 (by unfold Z5a;rw[if_neg hm]) (by decide));have CH:Hid (∀w',Calls Tryz.prog 20 #[hv m.h] w' λe w2=>∃A',e=.returned (.tuple #[.slice A' 0 0,.int .i64 2])/\Below w'.heap.size w' w2):=λw'=>Y2b w' m.h k.h (by simpa using hm)
  obtain⟨MC,hMC⟩:∃x,x=q0a m.h++(ac++sc):=⟨_,rfl⟩;rw[<-hMC] at BM HLL HOO RH RA RS RN CB'⊢;obtain⟨hcs,hhc⟩:∃x,x=q0a m.h:=⟨_,rfl⟩;unfold hv at CH;rw[<-hhc] at CH H26 BM RH;obtain⟨zm,hzm⟩:∃x,x=L1a:=⟨_,rfl⟩;rw[<-hzm] at ZM HZ;clear hE hQ hMC hhc hzm hm k CB CB' hy hl RN CM l1 l2 o1 o2 HP HPB HY hpd;go_enter Tryz.func8,Tryz.ntmps8;go_wp2_with(first
   | ((with_reducible refine sN 1 ?_);refine a0a rfl _ (.tmp 0) rfl MC rfl ?_;intro g1 w1 hg1 hg2 K1 L1)
   | ((with_reducible refine sN 9 ?_);refine p0a rfl _ (.tmp 8) rfl g1 0 rfl hcs _ (hI (RH.out _ _ _ K1.out)) Tryz.underlying28 rfl 26 E0a H26 ?_)
   | ((with_reducible refine sN 11 ?_);refine p0a rfl _ (.tmp 10) rfl g1 26 rfl ac _ (hI (RA.out _ _ _ K1.out)) Tryz.underlying34 rfl 69 n0a H69 ?_)
   | ((with_reducible refine sN 13 ?_);refine p0a rfl _ (.tmp 12) rfl g1 95 rfl sc _ (hI (RS.out _ _ _ K1.out)) Tryz.underlying39 rfl 20 v0a H20 ?_)
   | ((with_reducible refine sN 14 ?_);refine x0a rfl _ _ rfl MC (by refine Eq.trans ?_ BM;kernel_rfl) ?_)
   | ((with_reducible refine sN 4 ?_);refine b0a rfl _ rfl zm _ ZM ?_;intro g w2 hg3 hg4 Z2 L02;have L2:=hI (step L1.out L02.out);have hle:w.heap.size<=g:=(by have:=L1.out.size;omega))
   | ((with_reducible refine sT 4 ?_);refine e0a rfl _ (.tmp 4) (.tmp 14) rfl g rfl _ zm MC rfl Z2 115 J2a HZ HLL HOO ?_;intro w3 B3 O3 hg5;have L3:=hI (c0a L2.out O3.out hle))
   | ((with_reducible refine sN 17 ?_);refine p0a rfl _ (.tmp 16) rfl g 0 rfl hcs _ (hI (RH.out _ _ _ B3.out)) Tryz.underlying28 rfl 26 E0a H26 ?_)
   | fail)
  refine(CH.out w3).mono ?_;rintro e w4 ⟨A',rfl,L4⟩;go_wp2;go_ret2;exact HE.out _ _ rfl (step L3.out L4)
 have CH:Hid (∀w',Calls Tryz.prog 20 #[hv m.h] w' λe w2=>∃A',e=.returned (.tuple #[.slice A' 64 64,.int .i64 0])/\Y1a w2 w'.heap.size A' (M8a m.h)/\Below w'.heap.size w' w2):=λw'=>R7b w' m.h k.h hm
 have hme:Z5a m=u6a m:=by unfold Z5a;rw[if_pos hm]
 rw[hme] at hE hQ;obtain⟨MC,hMC⟩:∃x,x=q0a m.h++(ac++sc):=⟨_,rfl⟩;rw[<-hMC] at BM HLL HOO RH RA RS RN CB'⊢;obtain⟨hcs,hhc⟩:∃x,x=q0a m.h:=⟨_,rfl⟩;unfold hv at CH;rw[<-hhc] at CH H26 BM RH;obtain⟨zm,hzm⟩:∃x,x=L1a:=⟨_,rfl⟩;rw[<-hzm] at ZM HZ;obtain⟨er,her⟩:∃x,x=u6a m:=⟨_,rfl⟩;rw[<-her] at hE hQ CB';by_cases h0:er=0;rotate_left
 ·have HE:=hI (hE.out er rfl h0);have hne:(er != 0)=true:=by simpa using h0
  clear hE hQ hMC hhc hzm hm k CB hy hl RN CM l1 l2 o1 o2 HY hpd her h0 hme;go_enter Tryz.func8,Tryz.ntmps8;go_wp2_with(first
   | ((with_reducible refine sN 1 ?_);refine a0a rfl _ (.tmp 0) rfl MC rfl ?_;intro g1 w1 hg1 hg2 K1 L1)
   | ((with_reducible refine sN 9 ?_);refine p0a rfl _ (.tmp 8) rfl g1 0 rfl hcs _ (hI (RH.out _ _ _ K1.out)) Tryz.underlying28 rfl 26 E0a H26 ?_)
   | ((with_reducible refine sN 11 ?_);refine p0a rfl _ (.tmp 10) rfl g1 26 rfl ac _ (hI (RA.out _ _ _ K1.out)) Tryz.underlying34 rfl 69 n0a H69 ?_)
   | ((with_reducible refine sN 13 ?_);refine p0a rfl _ (.tmp 12) rfl g1 95 rfl sc _ (hI (RS.out _ _ _ K1.out)) Tryz.underlying39 rfl 20 v0a H20 ?_)
   | ((with_reducible refine sN 14 ?_);refine x0a rfl _ _ rfl MC (by refine Eq.trans ?_ BM;kernel_rfl) ?_)
   | ((with_reducible refine sN 4 ?_);refine b0a rfl _ rfl zm _ ZM ?_;intro g w2 hg3 hg4 Z2 L02;have L2:=hI (step L1.out L02.out);have hle:w.heap.size<=g:=(by have:=L1.out.size;omega))
   | ((with_reducible refine sT 4 ?_);refine e0a rfl _ (.tmp 4) (.tmp 14) rfl g rfl _ zm MC rfl Z2 115 J2a HZ HLL HOO ?_;intro w3 B3 O3 hg5;have L3:=hI (c0a L2.out O3.out hle))
   | ((with_reducible refine sN 17 ?_);refine p0a rfl _ (.tmp 16) rfl g 0 rfl hcs _ (hI (RH.out _ _ _ B3.out)) Tryz.underlying28 rfl 26 E0a H26 ?_)
   | fail)
  refine(CH.out w3).mono ?_;rintro e w4 ⟨A',rfl,hf,L4⟩;have B4:=hI (B3.out.over L4);have L4a:=hI (step L3.out L4);have HA:=hI (hf.holds HP.out HPB.out (by omega));clear K1 L1 Z2 L02 L2 B3 O3 L3 L4 hf CH;go_wp2_with fail;refine(CB'.out w4 g L4a.out B4.out).mono ?_;rintro e w5 ⟨v,rfl,ho,L5⟩;have L5a:=hI (step L4a.out L5);go_wp2;go_ret2;exact HE.out _ _ rfl L5a.out
 subst h0;have HQ:=hI (hQ.out rfl);obtain⟨ys,hys⟩:∃x,x=L9a m:=⟨_,rfl⟩;rw[<-hys] at HQ HY CB' hl hpd;obtain⟨ps,hps⟩:∃x,x=M8a m.h:=⟨_,rfl⟩;rw[<-hps] at HQ HP HPB CH;by_cases hn:m.h.nx=0
 ·have HQ2:Hid (∀v e w',e=.returned (.tuple #[v,.int .i64 0])->M5a w' w.heap.size v (ps++ys)->Below w.heap.size w w'->y6a w m e w'):=by have:=HQ.out;unfold v6a at this;rw[if_pos hn] at this;exact this
  rw[hn] at RN;clear hE hQ hMC hhc hzm hm k CB hy l1 l2 o1 o2 hpd her hme hn HQ CM hps hys;go_enter Tryz.func8,Tryz.ntmps8;go_wp2_with(first
   | ((with_reducible refine sN 1 ?_);refine a0a rfl _ (.tmp 0) rfl MC rfl ?_;intro g1 w1 hg1 hg2 K1 L1)
   | ((with_reducible refine sN 9 ?_);refine p0a rfl _ (.tmp 8) rfl g1 0 rfl hcs _ (hI (RH.out _ _ _ K1.out)) Tryz.underlying28 rfl 26 E0a H26 ?_)
   | ((with_reducible refine sN 11 ?_);refine p0a rfl _ (.tmp 10) rfl g1 26 rfl ac _ (hI (RA.out _ _ _ K1.out)) Tryz.underlying34 rfl 69 n0a H69 ?_)
   | ((with_reducible refine sN 13 ?_);refine p0a rfl _ (.tmp 12) rfl g1 95 rfl sc _ (hI (RS.out _ _ _ K1.out)) Tryz.underlying39 rfl 20 v0a H20 ?_)
   | ((with_reducible refine sN 14 ?_);refine x0a rfl _ _ rfl MC (by refine Eq.trans ?_ BM;kernel_rfl) ?_)
   | ((with_reducible refine sN 4 ?_);refine b0a rfl _ rfl zm _ ZM ?_;intro g w2 hg3 hg4 Z2 L02;have L2:=hI (step L1.out L02.out);have hle:w.heap.size<=g:=(by have:=L1.out.size;omega))
   | ((with_reducible refine sT 4 ?_);refine e0a rfl _ (.tmp 4) (.tmp 14) rfl g rfl _ zm MC rfl Z2 115 J2a HZ HLL HOO ?_;intro w3 B3 O3 hg5;have L3:=hI (c0a L2.out O3.out hle))
   | ((with_reducible refine sN 17 ?_);refine p0a rfl _ (.tmp 16) rfl g 0 rfl hcs _ (hI (RH.out _ _ _ B3.out)) Tryz.underlying28 rfl 26 E0a H26 ?_)
   | fail)
  refine(CH.out w3).mono ?_;rintro e w4 ⟨A',rfl,hf,L4⟩;have B4:=hI (B3.out.over L4);have L4a:=hI (step L3.out L4);have HA:=hI (hf.holds HP.out HPB.out (by omega));clear K1 L1 Z2 L02 L2 B3 O3 L3 L4 hf CH;go_wp2_with fail;refine(CB'.out w4 g L4a.out B4.out).mono ?_;rintro e w5 ⟨v,rfl,ho,L5⟩;have L5a:=hI (step L4a.out L5);have B5:=hI (B4.out.over L5);have gn:=RN.out _ _ _ B5.out;have HA5:=hI (HA.out.over L5);obtain⟨A5,c5,rfl,hh5⟩:=a1a.holds8 ho HY.out (by omega);have H5:=hI hh5;obtain⟨n,hnn⟩:∃x,x=ys.length:=⟨_,rfl⟩;rw[<-hnn] at H5 hl⊢;clear B4 L4a HA ho hh5 hnn L5;go_wp2_with(first
   | ((with_reducible refine sN 37 ?_);refine Z2a rfl 2 _ rfl [(A',64,64,ps),(A5,n,c5,ys)] rfl (by kernel_rfl) (List.forall_mem_cons.2 ⟨HA5.out,List.forall_mem_cons.2 ⟨H5.out,λ_ h=>by cases h⟩⟩) ?_;intro g6 w6 P6 b6)
   | fail)
  refine(Y2a _ g6 2 _ _ _ _ P6.out (by omega) (by show 0+64+n<=_;omega)).mono ?_;rintro e w7 ⟨u,rfl,hu,L7⟩;have M6:=hI (step L5a.out b6.out);have HO:Hid (M5a w7 w.heap.size u (ps++ys)):=by
   show a1a .u8 5 w7 w.heap.size u (ps++ys)
   have:=hu.mono (base':=w.heap.size) M6.out.size;simpa[R6a,T3a] using this
  have M7:=hI (step M6.out L7);clear hu L7 P6 b6 M6;go_wp2;go_ret2;exact HQ2.out _ _ _ rfl HO.out M7.out
 ·have HQ2:Hid (∀v e w',e=.returned (.tuple #[v,.int .i64 0])->M5a w' w.heap.size v (ps++(ys++List.replicate (W1b ys.length) 0))->Below w.heap.size w w'->y6a w m e w'):=by have:=HQ.out;unfold v6a at this;rw[if_neg hn] at this;exact this
  have hnx:(m.h.nx==0)=false:=by simpa using hn
  obtain⟨nx,hnxe⟩:∃x,x=m.h.nx:=⟨_,rfl⟩;rw[<-hnxe] at RN hnx;clear hE hQ hMC hhc hzm hm k CB hy l1 l2 o1 o2 her hme hn HQ hnxe hps hys;go_enter Tryz.func8,Tryz.ntmps8;go_wp2_with(first
   | ((with_reducible refine sN 1 ?_);refine a0a rfl _ (.tmp 0) rfl MC rfl ?_;intro g1 w1 hg1 hg2 K1 L1)
   | ((with_reducible refine sN 9 ?_);refine p0a rfl _ (.tmp 8) rfl g1 0 rfl hcs _ (hI (RH.out _ _ _ K1.out)) Tryz.underlying28 rfl 26 E0a H26 ?_)
   | ((with_reducible refine sN 11 ?_);refine p0a rfl _ (.tmp 10) rfl g1 26 rfl ac _ (hI (RA.out _ _ _ K1.out)) Tryz.underlying34 rfl 69 n0a H69 ?_)
   | ((with_reducible refine sN 13 ?_);refine p0a rfl _ (.tmp 12) rfl g1 95 rfl sc _ (hI (RS.out _ _ _ K1.out)) Tryz.underlying39 rfl 20 v0a H20 ?_)
   | ((with_reducible refine sN 14 ?_);refine x0a rfl _ _ rfl MC (by refine Eq.trans ?_ BM;kernel_rfl) ?_)
   | ((with_reducible refine sN 4 ?_);refine b0a rfl _ rfl zm _ ZM ?_;intro g w2 hg3 hg4 Z2 L02;have L2:=hI (step L1.out L02.out);have hle:w.heap.size<=g:=(by have:=L1.out.size;omega))
   | ((with_reducible refine sT 4 ?_);refine e0a rfl _ (.tmp 4) (.tmp 14) rfl g rfl _ zm MC rfl Z2 115 J2a HZ HLL HOO ?_;intro w3 B3 O3 hg5;have L3:=hI (c0a L2.out O3.out hle))
   | ((with_reducible refine sN 17 ?_);refine p0a rfl _ (.tmp 16) rfl g 0 rfl hcs _ (hI (RH.out _ _ _ B3.out)) Tryz.underlying28 rfl 26 E0a H26 ?_)
   | fail)
  refine(CH.out w3).mono ?_;rintro e w4 ⟨A',rfl,hf,L4⟩;have B4:=hI (B3.out.over L4);have L4a:=hI (step L3.out L4);have HA:=hI (hf.holds HP.out HPB.out (by omega));clear K1 L1 Z2 L02 L2 B3 O3 L3 L4 hf CH;go_wp2_with fail;refine(CB'.out w4 g L4a.out B4.out).mono ?_;rintro e w5 ⟨v,rfl,ho,L5⟩;have L5a:=hI (step L4a.out L5);have B5:=hI (B4.out.over L5);have gn:=RN.out _ _ _ B5.out;have HA5:=hI (HA.out.over L5);obtain⟨A5,c5,rfl,hh5⟩:=a1a.holds8 ho HY.out (by omega);have H5:=hI hh5;obtain⟨n,hnn⟩:∃x,x=ys.length:=⟨_,rfl⟩;rw[<-hnn] at H5 hl HQ2 hpd⊢;clear B4 L4a HA ho hh5 hnn L5;obtain⟨p,hp⟩:∃x,x=W1b n:=⟨_,rfl⟩;have CMn:Hid (∀w':World,Calls Tryz.prog 23 #[.slice A5 n c5] w' λe w2=>e=.returned (.int .i64 (p:Nat))/\w'=w2):=by rw[hp];exact λw'=>CM.out w' A5 n c5 (by omega)
  rw[<-hp] at HQ2 hpd;clear hp CM;have hpl:p<=281474976710656:=by omega
  go_wp2_with fail;refine(CMn.out _).mono ?_;rintro e w6 ⟨rfl,rfl⟩;go_wp2_with(first
   | (at_make;refine B1a _ rfl _ _ rfl _ _ p rfl rfl rfl rfl hpl ?_;intro w6 R6 L6;have HR6:Hid (Holds w6 w6.heap.size (some ⟨w5.heap.size,0,none⟩) p p (List.replicate p 0)):=Y1a.holds (base:=w5.heap.size) (.inr ⟨_,rfl,Nat.le_refl _,R6.out⟩) (by simp) (Bytes.zeros _) (by omega))
   | ((with_reducible refine sN 44 ?_);refine Z2a rfl 3 _ rfl [(A',64,64,ps),(A5,n,c5,ys),(some ⟨w5.heap.size,0,none⟩,p,p,List.replicate p 0)] rfl (by kernel_rfl) (List.forall_mem_cons.2 ⟨HA5.out.over L6,List.forall_mem_cons.2 ⟨H5.out.over L6,List.forall_mem_cons.2 ⟨HR6.out,λ_ h=>by cases h⟩⟩⟩) ?_;intro g7 w7 P7 b7)
   | fail)
  refine(Y2a _ g7 3 _ _ _ _ P7.out (by omega) (by show 0+64+n+p<=_;omega)).mono ?_;rintro e w8 ⟨u,rfl,hu,L8⟩;have M7:=hI (step (step L5a.out L6) b7.out);have HO:Hid (M5a w8 w.heap.size u (ps++(ys++List.replicate p 0))):=by
   show a1a .u8 5 w8 w.heap.size u (ps++(ys++List.replicate p 0))
   have:=hu.mono (base':=w.heap.size) M7.out.size;simpa[R6a,T3a] using this
  have M8:=hI (step M7.out L8);clear hu L8 P7 b7 M7 L6 R6;go_wp2;go_ret2;exact HQ2.out _ _ _ rfl HO.out M8.out
def UpV(lo:Nat)(o:Option Value):Prop:=∀b off s n c,o=some (.slice (some ⟨b,off,s⟩) n c)->lo<=b
def UpA(lo:Nat)(cs:List Value)(a:m1a):Prop:=(a.dial=[]∨UpV lo cs[0]?)/\(a.data=[]∨UpV lo cs[61]?)/\(a.locks=[]∨UpV lo cs[62]?)
def UpS(lo:Nat)(cs:List Value)(s:E1a):Prop:=(s.data=[]∨UpV lo cs[15]?)/\(s.ents=[]∨UpV lo cs[17]?)
theorem UpV.mono{lo lo':Nat}{o:Option Value}(h:UpV lo o)(hl:lo'<=lo):UpV lo' o:=λb off s n c e=>Nat.le_trans hl (h b off s n c e)
theorem UpA.mono{lo lo':Nat}{cs:List Value}{a:m1a}(h:UpA lo cs a)(hl:lo'<=lo):UpA lo' cs a:=⟨h.1.imp id (·.mono hl),h.2.1.imp id (·.mono hl),h.2.2.imp id (·.mono hl)⟩
theorem UpS.mono{lo lo':Nat}{cs:List Value}{s:E1a}(h:UpS lo cs s)(hl:lo'<=lo):UpS lo' cs s:=⟨h.1.imp id (·.mono hl),h.2.imp id (·.mono hl)⟩
theorem p3a.cellNe{w w':World}{g b o:Nat}(hO:p3a g w w')(hb:b≠g):w'.cell? ⟨b,o,none⟩=w.cell? ⟨b,o,none⟩:=by unfold World.cell?;rw[hO.rest b hb]
theorem o1a.onlyUp{α:Type}{f:α->Value}{w w':World}{B g lo n c:Nat}{A:Option Addr}{xs:List α}(h:o1a f w B A n c xs)(hO:p3a g w w')(hu:xs=[]∨UpV lo (some (.slice A n c)))(hg:g<lo):o1a f w' B A n c xs:=
 ⟨h.len,h.fit,h.bare,λh0=>by
  obtain⟨b,off,hA,hb,hc⟩:=h.cells h0;refine⟨b,off,hA,hb,λi x hi=>?_⟩;have hne:b≠g:=by
   rcases hu with hu | hu
   ·have:=h.len;rw[hu] at this;simp at this;omega
   ·have:=hu b off none n c (by rw[hA]);omega
  rw[hO.cellNe hne];exact hc i x hi⟩
theorem Holds.onlyUp{w w':World}{B g lo n c:Nat}{A:Option Addr}{xs:List Int}(h:Holds w B A n c xs)(hO:p3a g w w')(hu:xs=[]∨UpV lo (some (.slice A n c)))(hg:g<lo):Holds w' B A n c xs:=
 ⟨h.len,h.fit,h.room,h.byte,h.bare,λh0=>by
  obtain⟨b,off,hA,hb,hc⟩:=h.cells h0;refine⟨b,off,hA,hb,λi hi=>?_⟩;have hne:b≠g:=by
   rcases hu with hu | hu
   ·have:=h.len;rw[hu] at this;simp at this;omega
   ·have:=hu b off none n c (by rw[hA]);omega
  rw[hO.cellNe hne];exact hc i hi⟩
theorem T0a.onlyUp{α:Type}{f:α->List Value}{s:Nat}{w w':World}{B g lo n c:Nat}{A:Option Addr}{xs:List α}(h:T0a f s w B A n c xs)(hO:p3a g w w')(hu:xs=[]∨UpV lo (some (.slice A n c)))(hg:g<lo):T0a f s w' B A n c xs:=
 ⟨h.len,h.fit,h.bare,λh0=>by
  obtain⟨b,off,hA,hb,hc⟩:=h.cells h0;refine⟨b,off,hA,hb,λi x hi j u hj=>?_⟩;have hne:b≠g:=by
   rcases hu with hu | hu
   ·have:=h.len;rw[hu] at this;simp at this;omega
   ·have:=hu b off none n c (by rw[hA]);omega
  rw[hO.cellNe hne];exact hc i x hi j u hj⟩
def GA(w:World)(lo:Nat)(ac:List Value)(a:m1a):Prop:=a.ok/\b1a w w.heap.size ac a/\UpA lo ac a/\∃vx,ac[61]? = some vx/\M5a w lo vx a.data
def GS(w:World)(lo:Nat)(sc:List Value)(s:E1a):Prop:=s.ok/\f1a w w.heap.size sc s/\UpS lo sc s/\∃vx,sc[15]? = some vx/\M5a w lo vx s.data
theorem a1a.onlyLow{k:IntKind}{e:TypeId}{w w':World}{base b:Nat}{v:Value}{xs:List Int}(h:a1a k e w base v xs)(hO:p3a b w w')(hb:b<base):a1a k e w' base v xs:=
 h.keep λi cs hi hc=>hO.rest i (by obtain⟨h1,_⟩:=h.own.block hi;omega)
theorem GA.only{w w':World}{lo g:Nat}{ac:List Value}{a:m1a}(h:GA w lo ac a)(hO:p3a g w w')(hg:g<lo):GA w' lo ac a:=by
 obtain⟨k,⟨Ad,nd,cd,Ax,nx,cx,Al,nl,cl,rfl,h1,h2,h3⟩,⟨u1,u2,u3⟩,vx,hx,ho⟩:=h;rw[show(l0a (.slice Ad nd cd) (.slice Ax nx cx) (.slice Al nl cl) a)[61]? = some (.slice Ax nx cx) from j0a k 12] at u2;rw[show(l0a (.slice Ad nd cd) (.slice Ax nx cx) (.slice Al nl cl) a)[62]? = some (.slice Al nl cl) from j0a k 13] at u3;have u1':a.dial=[]∨UpV lo (some (.slice Ad nd cd)):=u1;refine⟨k,⟨Ad,nd,cd,Ax,nx,cx,Al,nl,cl,rfl,?_,?_,?_⟩,⟨u1,?_,?_⟩,vx,hx,ho.onlyLow hO hg⟩
 ·rw[hO.size];exact h1.onlyUp hO u1' hg
 ·rw[hO.size];exact h2.onlyUp hO u2 hg
 ·rw[hO.size];exact h3.onlyUp hO u3 hg
 ·rw[show(l0a (.slice Ad nd cd) (.slice Ax nx cx) (.slice Al nl cl) a)[61]? = some (.slice Ax nx cx) from j0a k 12];exact u2
 ·rw[show(l0a (.slice Ad nd cd) (.slice Ax nx cx) (.slice Al nl cl) a)[62]? = some (.slice Al nl cl) from j0a k 13];exact u3
theorem GS.only{w w':World}{lo g:Nat}{sc:List Value}{s:E1a}(h:GS w lo sc s)(hO:p3a g w w')(hg:g<lo):GS w' lo sc s:=by
 obtain⟨k,⟨Ax,nx,cx,Al,nl,cl,rfl,h2,h3⟩,⟨u2,u3⟩,vx,hx,ho⟩:=h;rw[show(s0a (.slice Ax nx cx) (.slice Al nl cl) s)[15]? = some (.slice Ax nx cx) from z0a k 5] at u2;rw[show(s0a (.slice Ax nx cx) (.slice Al nl cl) s)[17]? = some (.slice Al nl cl) from z0a k 7] at u3;refine⟨k,⟨Ax,nx,cx,Al,nl,cl,rfl,?_,?_⟩,⟨?_,?_⟩,vx,hx,ho.onlyLow hO hg⟩
 ·rw[hO.size];exact h2.onlyUp hO u2 hg
 ·rw[hO.size];exact h3.onlyUp hO u3 hg
 ·rw[show(s0a (.slice Ax nx cx) (.slice Al nl cl) s)[15]? = some (.slice Ax nx cx) from z0a k 5];exact u2
 ·rw[show(s0a (.slice Ax nx cx) (.slice Al nl cl) s)[17]? = some (.slice Al nl cl) from z0a k 7];exact u3
theorem GA.over{w w':World}{lo:Nat}{ac:List Value}{a:m1a}(h:GA w lo ac a)(hb:Below w.heap.size w w'):GA w' lo ac a:=by obtain⟨k,h1,h2,vx,hx,ho⟩:=h;exact⟨k,h1.over hb,h2,vx,hx,ho.below hb⟩
theorem GS.over{w w':World}{lo:Nat}{sc:List Value}{s:E1a}(h:GS w lo sc s)(hb:Below w.heap.size w w'):GS w' lo sc s:=by obtain⟨k,h1,h2,vx,hx,ho⟩:=h;exact⟨k,h1.over hb,h2,vx,hx,ho.below hb⟩
theorem GA.mono{w:World}{lo lo':Nat}{ac:List Value}{a:m1a}(h:GA w lo ac a)(hl:lo'<=lo):GA w lo' ac a:=by obtain⟨k,h1,h2,vx,hx,ho⟩:=h;exact⟨k,h1,h2.mono hl,vx,hx,ho.mono hl⟩
theorem GS.mono{w:World}{lo lo':Nat}{sc:List Value}{s:E1a}(h:GS w lo sc s)(hl:lo'<=lo):GS w lo' sc s:=by obtain⟨k,h1,h2,vx,hx,ho⟩:=h;exact⟨k,h1,h2.mono hl,vx,hx,ho.mono hl⟩
def zac:List Value:=l0a (.slice none 0 0) (.slice none 0 0) (.slice none 0 0) k0a
def zsc:List Value:=s0a (.slice none 0 0) (.slice none 0 0) w0a
theorem GA.zero(w:World)(lo:Nat):GA w lo zac k0a:=⟨f0a,j2a w _,⟨.inl rfl,.inl rfl,.inl rfl⟩,.slice none 0 0,rfl,a1a.nil _ _ _ _⟩
theorem GS.zero(w:World)(lo:Nat):GS w lo zsc w0a:=⟨C0a,R2a w _,⟨.inl rfl,.inl rfl⟩,.slice none 0 0,rfl,a1a.nil _ _ _ _⟩
theorem GA.len{w:World}{lo:Nat}{ac:List Value}{a:m1a}(h:GA w lo ac a):ac.length=69:=h.2.1.len h.1
theorem GS.len{w:World}{lo:Nat}{sc:List Value}{s:E1a}(h:GS w lo sc s):sc.length=20:=h.2.1.len h.1
theorem GA.one{w:World}{lo:Nat}{ac:List Value}{a:m1a}(h:GA w lo ac a):∀v∈ac,v.oneCell'=true:=h.2.1.one
theorem GS.one{w:World}{lo:Nat}{sc:List Value}{s:E1a}(h:GS w lo sc s):∀v∈sc,v.oneCell'=true:=h.2.1.one
def W6b(w:World)(c:Int)(A:Option Addr)(n k:Nat)(xs:List Int):Prop:=∀w',Below w.heap.size w w'->Calls Tryz.prog (fGA c) #[.int .u16 c,.slice A n k] w' λe w2=>∃cs,e=.returned (.tuple #[.agg cs.toArray,.int .i64 (gae c xs)])/\GA w2 w'.heap.size cs (gao c xs)/\Below w'.heap.size w' w2
def S7b(w:World)(c:Int)(A:Option Addr)(n k:Nat)(xs:List Int):Prop:=∀w',Below w.heap.size w w'->Calls Tryz.prog (fGS c) #[.int .u16 c,.slice A n k] w' λe w2=>∃cs,e=.returned (.tuple #[.agg cs.toArray,.int .i64 (gse c xs)])/\GS w2 w'.heap.size cs (gso c xs)/\Below w'.heap.size w' w2
def b9b(w w':World)(h:Hd)(ac sc ac' sc':List Value)(xs:List Int):Prop:=(T2a h.fl=true->ac'=ac/\GS w' w.heap.size sc' (gso (t6a h) xs))/\(T2a h.fl=false->sc'=sc/\GA w' w.heap.size ac' (gao (t6a h) xs))
def y3b(w:World)(g:Nat)(h:Hd)(ac sc:List Value)(xs:List Int)(e:Ending)(w':World):Prop:=∃ac' sc',e=.returned (.int .i64 (j8a h xs))/\Blk w' g 60 (q0a h++(ac'++sc'))/\ac'.length=69/\sc'.length=20/\H2a g w w'/\b9b w w' h ac sc ac' sc' xs
theorem j4b(w:World)(g:Nat)(h:Hd)(ac sc:List Value)(k:h.ok)(B:Blk w g 60 (q0a h++(ac++sc)))(l1:ac.length=69)(l2:sc.length=20)(A:Option Addr)(n c:Nat)(xs:List Int)
(CA:T2a h.fl=false->W6b w (t6a h) A n c xs)(CS:T2a h.fl=true->S7b w (t6a h) A n c xs) :
  Calls Tryz.prog 61 #[.pointer (some ⟨g,0,none⟩),.slice A n c] w (y3b w g h ac sc xs):=by
 have CR:=hI (w5b w g h k _ B);have CI:=hI (t7a w g h k _ B);have H26:=hI (I0a k);have HLL:Hid ((q0a h++(ac++sc)).length=115):=by
  show _=_
  simp only[List.length_append,H26.out,l1,l2]
 have CB:Hid (∀w',Calls Tryz.prog 41 #[.int .u16 (t6a h)] w' λe w2=>e=.returned (A3a (t6a h))/\Below w'.heap.size w' w2):=λw'=>C8a w' _ (m1b k)
 have TA:Hid (∀ac',(q0a h++(ac++sc)).take 26++(ac'++(q0a h++(ac++sc)).drop (26+69))=q0a h++(ac'++sc)):=λac'=>by rw[List.take_left' H26.out,<-List.drop_drop,List.drop_left' H26.out,List.drop_left' l1]
 have TS:Hid (∀sc',(q0a h++(ac++sc)).take 95++(sc'++(q0a h++(ac++sc)).drop (95+20))=q0a h++(ac++sc')):=λsc'=>by
  have hl:(q0a h++ac).length=95:=by rw[List.length_append,H26.out,l1]
  rw[<-List.append_assoc (q0a h),List.take_left' hl,<-List.drop_drop,List.drop_left' hl,List.drop_of_length_le (by omega)];simp
 have gl:=B.lt;have BH:=hI B;have F1:=E8a g;have F2:=F8a g;obtain⟨MC,hMC⟩:∃x,x=q0a h++(ac++sc):=⟨_,rfl⟩;rw[<-hMC] at TA TS BH HLL;obtain⟨q,hq⟩:∃x,x=t6a h:=⟨_,rfl⟩;rw[<-hq] at CR CB CA CS;clear hMC B H26;by_cases hr:T2a h.fl=true
 ·skip
  have CC:=hI (CS hr);rw[hr] at CI;have hent:=D8b q;obtain⟨fA,fB,fC,hF⟩:∃F1 F2 F3,A3a q=.agg #[F1,F2,F3,.func (.func (fGS q)) #[] #[]]:=⟨_,_,_,rfl⟩;rw[hF] at CB;unfold S7b at CC;obtain⟨fn,hfn⟩:∃x,x=fGS q:=⟨_,rfl⟩;rw[<-hfn] at CC CB hent;have HP:Hid (∀sc' e w',e=.returned (.int .i64 (j8a h xs))->Blk w' g 60 (q0a h++(ac++sc'))->H2a g w w'->GS w' w.heap.size sc' (gso q xs)->y3b w g h ac sc xs e w'):=by intro sc' e w' h1 h2 h3 h4;exact⟨ac,sc',h1,h2,l1,h4.len,h3,λ_=>⟨rfl,by rw[<-hq];exact h4⟩,λh5=>absurd h5 (by rw[hr];decide)⟩
  have hge:j8a h xs=if gse q xs=2 then 5 else gse q xs:=by unfold j8a;rw[if_pos hr,hq]
  rw[hge] at HP;obtain⟨er,her⟩:∃x,x=gse q xs:=⟨_,rfl⟩;rw[<-her] at CC HP;by_cases h2:er=2
  ·subst h2;rw[if_pos rfl] at HP;clear her hge hfn hF hr CA CS hq l1 l2 k;go_enter Tryz.func61,Tryz.ntmps61;go_wp2_with fail;refine CR.out.mono ?_;rintro e w1 ⟨rfl,rfl⟩;go_wp2_with fail;refine CI.out.mono ?_;rintro e w1 ⟨rfl,rfl⟩;go_wp2_with fail;refine(CB.out w).mono ?_;rintro e w2 ⟨rfl,L2⟩;have B2:=hI (BH.out.over L2);have M2:=hI L2;have e2:=L2.size;clear L2 BH CB CR CI;go_wp2_with(first
    | ((with_reducible refine sN 28 ?_);refine wpList_plain rfl λK hK=>?_;go_simp;refine hK _ _ ?_;clear hK K)
    | fail)
   refine(CC.out w2 M2.out).mono ?_;rintro e w3 ⟨cs,rfl,hg,L3⟩;have B3:=hI (B2.out.over L3);have M3:=hI (step M2.out L3);have GG:=hI hg;have e3:=L3.size;have HL1:=hI hg.len;have HO1:=hI hg.one;clear hg L3 B2 M2 CC;go_wp2_with(first
    | ((with_reducible refine sT 35 ?_);refine k2a rfl _ (.tmp 35) (.tmp 32) rfl g 95 rfl _ MC cs rfl B3 20 v0a HL1 (hI (by rw[HLL.out];omega)) HO1 ?_;intro w4 B4 O4 hg4;rw[TS.out] at B4;have SV:Hid (H2a g w w4):=(H2a.of_below M3.out g).trans (H2a.of_only O4.out);have G4:Hid (GS w4 w.heap.size cs (gso q xs)):=(GG.out.mono e2).only O4.out gl)
    | fail)
   go_ret;exact HP.out cs _ _ rfl B4.out SV.out G4.out
  ·rw[if_neg h2] at HP;have hne:(er==2)=false:=by simpa using h2
   clear her hge hfn hF hr CA CS hq h2 l1 l2 k;go_enter Tryz.func61,Tryz.ntmps61;go_wp2_with fail;refine CR.out.mono ?_;rintro e w1 ⟨rfl,rfl⟩;go_wp2_with fail;refine CI.out.mono ?_;rintro e w1 ⟨rfl,rfl⟩;go_wp2_with fail;refine(CB.out w).mono ?_;rintro e w2 ⟨rfl,L2⟩;have B2:=hI (BH.out.over L2);have M2:=hI L2;have e2:=L2.size;clear L2 BH CB CR CI;go_wp2_with(first
    | ((with_reducible refine sN 28 ?_);refine wpList_plain rfl λK hK=>?_;go_simp;refine hK _ _ ?_;clear hK K)
    | fail)
   refine(CC.out w2 M2.out).mono ?_;rintro e w3 ⟨cs,rfl,hg,L3⟩;have B3:=hI (B2.out.over L3);have M3:=hI (step M2.out L3);have GG:=hI hg;have e3:=L3.size;have HL1:=hI hg.len;have HO1:=hI hg.one;clear hg L3 B2 M2 CC;go_wp2_with(first
    | ((with_reducible refine sT 35 ?_);refine k2a rfl _ (.tmp 35) (.tmp 32) rfl g 95 rfl _ MC cs rfl B3 20 v0a HL1 (hI (by rw[HLL.out];omega)) HO1 ?_;intro w4 B4 O4 hg4;rw[TS.out] at B4;have SV:Hid (H2a g w w4):=(H2a.of_below M3.out g).trans (H2a.of_only O4.out);have G4:Hid (GS w4 w.heap.size cs (gso q xs)):=(GG.out.mono e2).only O4.out gl)
    | fail)
   go_ret;exact HP.out cs _ _ rfl B4.out SV.out G4.out
 ·have hr':T2a h.fl=false:=by simpa using hr
  have CC:=hI (CA hr');rw[hr'] at CI;have hent:=B8b q;obtain⟨fA,fB,fC,hF⟩:∃F1 F2 F3,A3a q=.agg #[F1,.func (.func (fGA q)) #[] #[],F2,F3]:=⟨_,_,_,rfl⟩;rw[hF] at CB;unfold W6b at CC;obtain⟨fn,hfn⟩:∃x,x=fGA q:=⟨_,rfl⟩;rw[<-hfn] at CC CB hent;have HP:Hid (∀ac' e w',e=.returned (.int .i64 (j8a h xs))->Blk w' g 60 (q0a h++(ac'++sc))->H2a g w w'->GA w' w.heap.size ac' (gao q xs)->y3b w g h ac sc xs e w'):=by intro ac' e w' h1 h2 h3 h4;exact⟨ac',sc,h1,h2,h4.len,l2,h3,λh5=>absurd h5 (by rw[hr'];decide),λ_=>⟨rfl,by rw[<-hq];exact h4⟩⟩
  have hge:j8a h xs=gae q xs:=by unfold j8a;rw[if_neg hr,hq]
  rw[hge] at HP;obtain⟨er,her⟩:∃x,x=gae q xs:=⟨_,rfl⟩;rw[<-her] at CC HP;clear her hge hfn hF hr hr' CA CS hq l1 l2 k;go_enter Tryz.func61,Tryz.ntmps61;go_wp2_with fail;refine CR.out.mono ?_;rintro e w1 ⟨rfl,rfl⟩;go_wp2_with fail;refine CI.out.mono ?_;rintro e w1 ⟨rfl,rfl⟩;go_wp2_with fail;refine(CB.out w).mono ?_;rintro e w2 ⟨rfl,L2⟩;have B2:=hI (BH.out.over L2);have M2:=hI L2;have e2:=L2.size;clear L2 BH CB CR CI;go_wp2_with(first
   | ((with_reducible refine sN 15 ?_);refine wpList_plain rfl λK hK=>?_;go_simp;refine hK _ _ ?_;clear hK K)
   | fail)
  refine(CC.out w2 M2.out).mono ?_;rintro e w3 ⟨cs,rfl,hg,L3⟩;have B3:=hI (B2.out.over L3);have M3:=hI (step M2.out L3);have GG:=hI hg;have e3:=L3.size;have HL1:=hI hg.len;have HO1:=hI hg.one;clear hg L3 B2 M2 CC;go_wp2_with(first
   | ((with_reducible refine sT 22 ?_);refine k2a rfl _ (.tmp 22) (.tmp 19) rfl g 26 rfl _ MC cs rfl B3 69 n0a HL1 (hI (by rw[HLL.out];omega)) HO1 ?_;intro w4 B4 O4 hg4;rw[TA.out] at B4;have SV:Hid (H2a g w w4):=(H2a.of_below M3.out g).trans (H2a.of_only O4.out);have G4:Hid (GA w4 w.heap.size cs (gao q xs)):=(GG.out.mono e2).only O4.out gl)
   | fail)
  go_ret;exact HP.out cs _ _ rfl B4.out SV.out G4.out
def a2b(w:World)(g:Nat)(h:Hd)(ac sc:List Value)(xs:List Int)(e:Ending)(w':World):Prop:=∃ac' sc',e=.returned (.int .i64 (a4b h xs))/\Blk w' g 60 (q0a h++(ac'++sc'))/\H2a g w w'/\(a4b h xs=0->b9b w w' h ac sc ac' sc' (b4b h xs))
theorem k4b(w:World)(g:Nat)(h:Hd)(ac sc:List Value)(k:h.ok)(B:Blk w g 60 (q0a h++(ac++sc)))(l1:ac.length=69)(l2:sc.length=20)(A:Option Addr)(n c:Nat)(xs:List Int)(hn:h.nx=0)
(CA:T2a h.fl=false->W6b w (t6a h) A n c xs)(CS:T2a h.fl=true->S7b w (t6a h) A n c xs) :
  Calls Tryz.prog 31 #[.pointer (some ⟨g,0,none⟩),.slice A n c] w (a2b w g h ac sc xs):=by
 have CG:=hI (j4b w g h ac sc k B l1 l2 A n c xs CA CS);unfold y3b at CG;have HP:Hid (∀ac' sc' e w',e=.returned (.int .i64 (j8a h xs))->Blk w' g 60 (q0a h++(ac'++sc'))->H2a g w w'->b9b w w' h ac sc ac' sc' xs->a2b w g h ac sc xs e w'):=by intro ac' sc' e w' h1 h2 h3 h4;unfold a2b a4b b4b;rw[if_pos hn,if_pos hn];exact⟨ac',sc',h1,h2,h3,λ_=>h4⟩
 have RN:Hid (∀(w:World) ac' sc',Blk w g 60 (q0a h++(ac'++sc'))->w.cell? ⟨g,5,none⟩=some (.int .u32 0)):=λw ac' sc' b=>by rw[<-hn];exact Blk.cell b 5
 obtain⟨er,her⟩:∃x,x=j8a h xs:=⟨_,rfl⟩;rw[<-her] at CG HP;clear her hn CA CS k B;go_enter Tryz.func31,Tryz.ntmps31;go_wp2_with fail;refine CG.out.mono ?_;rintro e w1 ⟨ac',sc',rfl,hb,_,_,hs,hgm⟩;have gn:=RN.out _ _ _ hb;have HX:=hI (HP.out ac' sc' _ w1 rfl hb hs hgm);clear hb hs hgm HP CG;go_wp2;go_ret;exact HX.out
def G8a(w:World)(xs:List Int)(e:Ending)(w':World):Prop:=∃ac sc,e=.returned (.tuple #[.agg (q0a (l6b xs).h++(ac++sc)).toArray,.int .i64 (j1b xs)])/\GA w' w.heap.size ac (l6b xs).a/\GS w' w.heap.size sc (l6b xs).s/\Below w.heap.size w w'
def p9b(w:World)(h:Hd)(xs:List Int):Prop:=∀w' g A n c,Below w.heap.size w w'->Blk w' g 60 (q0a h++(zac++zsc))->Holds w' g A n c xs->Calls Tryz.prog 31 #[.pointer (some ⟨g,0,none⟩),.slice A n c] w' (a2b w' g h zac zsc xs)
theorem n1b:zac.length=69:=h1a f0a
theorem o1b:zsc.length=20:=C1a C0a
theorem S8b(w:World)(A:Option Addr)(n c:Nat)(xs:List Int)(hx:Holds w w.heap.size A n c xs)(CB:r2a xs 0=0->p9b w (l2a xs 0) (xs.drop 64)) :
  Calls Tryz.prog 13 #[.slice A n c] w (G8a w xs):=by
 have hk:=N4b xs 0 hx.byte;have CH:Hid (∀w',Below w.heap.size w w'->Calls Tryz.prog 30 #[.slice A n c,.int .i64 0] w' λe w2=>e=.returned (.tuple #[.agg (q0a (l2a xs 0)).toArray,.int .i64 (r2a xs 0)])/\Below w'.heap.size w' w2):=λw' hb=>T6b w' A n c xs 0 (hx.over hb) (by omega)
 have ZM:=hI a9a;have ZG:=hI B8a;have HZ:=hI z3a;have HZO:Hid (∀v∈L1a,v.oneCell'=true):=by
  intro v hv;unfold L1a at hv;rcases List.mem_append.1 hv with hv | hv
  ·exact i2a _ v hv
  ·rcases List.mem_append.1 hv with hv | hv
   ·exact D1a rfl rfl rfl v hv
   ·exact u2a rfl rfl v hv
 have BZ:=g4b;have ZH:=hI g8a;have HZH:=hI (I0a o3a);have H26:=hI (I0a hk);have HO26:=hI (i2a (l2a xs 0));have B1:=v5b a7a (I0a hk);have hE:Hid (∀er,j1b xs=er->er≠0->∀e w',e=.returned (.tuple #[.agg L1a.toArray,.int .i64 er])->Below w.heap.size w w'->G8a w xs e w'):=by intro er h1 h2 e w' h3 h4;unfold G8a l6b;rw[h1,if_neg h2];exact⟨zac,zsc,h3,GA.zero _ _,GS.zero _ _,h4⟩
 have HX:=hI hx;have hl:=hx.len;have hf:=hx.fit;have hrm:=hx.room;by_cases h0:r2a xs 0=0;rotate_left
 ·have HE:=hI (hE.out (r2a xs 0) (by unfold j1b;rw[if_neg h0]) h0);obtain⟨er,her⟩:∃x,x=r2a xs 0:=⟨_,rfl⟩;rw[<-her] at CH HE;have hne:(er != 0)=true:=by rw[her];simpa using h0
  obtain⟨hcs,hhc⟩:∃x,x=q0a (l2a xs 0):=⟨_,rfl⟩;rw[<-hhc] at CH H26 HO26;obtain⟨zm,hzm⟩:∃x,x=L1a:=⟨_,rfl⟩;rw[<-hzm] at ZM HZ HZO BZ HE;obtain⟨zh,hzh⟩:∃x,x=q0a N1a:=⟨_,rfl⟩;rw[<-hzh] at ZH HZH;clear hE her h0 hhc hzm hzh CB hk B1 hx ZG;go_enter Tryz.func13,Tryz.ntmps13;go_wp2_with(first
   | ((with_reducible refine sN 2 ?_);refine b0a rfl _ rfl zm _ ZM ?_;intro g0 w1 hg1 hg2 Z1 L1)
   | fail)
  refine(CH.out w1 L1.out).mono ?_;rintro e w2 ⟨rfl,L2⟩;have Z2:=hI (Z1.out.over L2);have M2:=hI (step L1.out L2);have e2:=L2.size;clear L2 L1 Z1 CH;go_wp2_with(first
   | ((with_reducible refine sN 4 ?_);refine b0a rfl _ rfl zh _ ZH ?_;intro g3 w3 hg3 hg4 X3 L3;have M3:=hI (step M2.out L3.out);have Z3:=hI (Z2.out.over L3.out))
   | ((with_reducible refine sT 4 ?_);refine e0a rfl _ (.tmp 4) (.tmp 11) rfl g3 rfl _ zh hcs rfl X3 26 E0a HZH H26 HO26 ?_;intro w4 X4 O4 hg5;have M4:=hI (c0a M3.out O4.out (by omega));have Z4:=hI (Z3.out.only O4.out (by omega)))
   | ((with_reducible refine sN 15 ?_);refine W0a rfl _ rfl zm BZ ?_)
   | ((with_reducible refine sT 2 ?_);refine e0a rfl _ (.tmp 2) (.tmp 15) rfl g0 rfl _ zm zm rfl Z4 115 J1a HZ HZ HZO ?_;intro w5 X5 O5 hg6)
   | fail)
  refine bodyPost_ret (v:=.tuple #[.agg zm.toArray,.int .i64 er]) ?_ rfl (HE.out _ _ rfl (c0a M4.out O5.out (by omega)));exact L0a rfl _ _ g0 _ _ (0,0) _ rfl X5.out Tryz.underlying41 rfl (by rw[J1a];have:=HZ.out;simp[this]) rfl
 have hrn:64<=n:=by
  have h1:=h0;unfold r2a at h1;by_cases hp:p1a xs.length 0 64=0
  ·have:=h9a hp;omega
  ·rw[if_neg hp] at h1;exact absurd h1 hp
 have hbe:j1b xs=a4b (l2a xs 0) (xs.drop 64):=by unfold j1b;rw[if_pos h0]
 have CB':=hI (CB h0);unfold p9b a2b at CB';rw[h0] at CH;have HQ:Hid (j1b xs=0->∀ac sc e w',e=.returned (.tuple #[.agg (q0a (l2a xs 0)++(ac++sc)).toArray,.int .i64 0])->GA w' w.heap.size ac (gbA (l2a xs 0) (b4b (l2a xs 0) (xs.drop 64)))->GS w' w.heap.size sc (gbS (l2a xs 0) (b4b (l2a xs 0) (xs.drop 64)))->Below w.heap.size w w'->G8a w xs e w'):=by intro h1 ac sc e w' h2 h3 h4 h5;unfold G8a l6b;rw[h1,if_pos rfl];exact⟨ac,sc,h2,h3,h4,h5⟩
 have TG:Hid (∀w1 w' lo ac sc ys,lo<=w1.heap.size->b9b w1 w' (l2a xs 0) zac zsc ac sc ys->GA w' lo ac (gbA (l2a xs 0) ys)/\GS w' lo sc (gbS (l2a xs 0) ys)):=by
  intro w1 w' lo ac sc ys hlo hgm;unfold gbA gbS;by_cases hr:T2a (l2a xs 0).fl=true
  ·obtain⟨rfl,h2⟩:=hgm.1 hr;rw[if_pos hr,if_pos hr];exact⟨GA.zero _ _,h2.mono hlo⟩
  ·obtain⟨rfl,h2⟩:=hgm.2 (by simpa using hr);rw[if_neg hr,if_neg hr];exact⟨h2.mono hlo,GS.zero _ _⟩
 rw[hbe] at hE HQ;obtain⟨hh,hhe⟩:∃x,x=l2a xs 0:=⟨_,rfl⟩;rw[<-hhe] at CH H26 HO26 B1 CB' hE HQ TG;obtain⟨er,her⟩:∃x,x=a4b hh (xs.drop 64):=⟨_,rfl⟩;rw[<-her] at CB' hE HQ;have RH:Hid (∀(w:World) g T ac sc,Blk w g T (q0a hh++(ac++sc))->w.rangeAt g 0 (q0a hh)):=λw g T ac sc b=>x6a b
 have RA:Hid (∀(w:World) g T ac sc,Blk w g T (q0a hh++(ac++sc))->w.rangeAt g 26 ac):=λw g T ac sc b=>p5a b H26.out
 have RS:Hid (∀(w:World) g T ac sc,ac.length=69->Blk w g T (q0a hh++(ac++sc))->w.rangeAt g 95 sc):=λw g T ac sc h1 b=>q5a b H26.out h1
 have HLL:Hid ((q0a hh++(zac++zsc)).length=115):=by
  show _=_
  simp only[List.length_append,H26.out,n1b,o1b]
 have HOO:Hid (∀ac sc,(∀v∈ac,v.oneCell'=true)->(∀v∈sc,v.oneCell'=true)->∀v∈q0a hh++(ac++sc),v.oneCell'=true):=by
  intro ac sc o1 o2 v hv;rcases List.mem_append.1 hv with hv | hv
  ·exact HO26.out v hv
  ·rcases List.mem_append.1 hv with hv | hv
   ·exact o1 v hv
   ·exact o2 v hv
 have HO0:Hid (∀v∈q0a hh++(zac++zsc),v.oneCell'=true):=HOO.out _ _ (D1a rfl rfl rfl) (u2a rfl rfl);have BM:Hid (∀ac sc,ac.length=69->sc.length=20->Tryz.prog.built 41 [(0,.agg (q0a hh).toArray),(1,.agg ac.toArray),(2,.agg sc.toArray)]=some (q0a hh++(ac++sc)).toArray):=λac sc h1 h2=>u5b B5a H26.out h1 h2
 change Tryz.prog.built _ _=some (q0a hh++(zac++zsc)).toArray at B1
 obtain⟨MZ,hMZ⟩:∃x,x=q0a hh++(zac++zsc):=⟨_,rfl⟩;rw[<-hMZ] at B1 HLL HO0 CB';obtain⟨hcs,hhc⟩:∃x,x=q0a hh:=⟨_,rfl⟩;rw[<-hhc] at CH H26 HO26 B1 CB' HQ RH RA RS BM HOO;obtain⟨zm,hzm⟩:∃x,x=L1a:=⟨_,rfl⟩;rw[<-hzm] at ZM ZG HZ HZO BZ hE;obtain⟨zh,hzh⟩:∃x,x=q0a N1a:=⟨_,rfl⟩;rw[<-hzh] at ZH HZH;obtain⟨ys,hys⟩:∃x,x=xs.drop 64:=⟨_,rfl⟩;rw[<-hys] at CB' HQ;obtain⟨b,off,rfl,hbl,hcell⟩:=hx.cells (by omega);have HY:Hid (∀w' g,Below w.heap.size w w'->w.heap.size<=g->c≠64->Holds w' g (some ⟨b,off+64,none⟩) (n-64) (c-64) ys):=by intro w' g hb hg hc;have h1:=((hx.below hb).mono hg).rest (k:=64) hrn;rw[if_neg hc,<-hys] at h1;exact h1
 have HY0:Hid (∀w' g,Below w.heap.size w w'->w.heap.size<=g->c=64->Holds w' g (some ⟨b,off,none⟩) 0 0 ys):=by intro w' g hb hg hc;have h1:=((hx.below hb).mono hg).rest (k:=64) hrn;rw[if_pos hc,<-hys,show n-64=0 by omega,show c-64=0 by omega] at h1;exact h1
 clear h0 CB hk hx hMZ hhc hzm hzh hys hbe her hhe hcell HX hl;by_cases her0:er=0;rotate_left
 ·have HE:=hI (hE.out er rfl her0);have hne:(er != 0)=true:=by simpa using her0
  clear hE HQ her0 TG BM HOO RA RS RH;by_cases hc:c=64
  ·subst hc;obtain rfl:n=64:=by omega
   go_enter Tryz.func13,Tryz.ntmps13;go_wp2_with(first
    | ((with_reducible refine sN 2 ?_);refine b0a rfl _ rfl zm _ ZM ?_;intro g0 w1 hg1 hg2 Z1 L1)
    | fail)
   refine(CH.out w1 L1.out).mono ?_;rintro e w2 ⟨rfl,L2⟩;have Z2:=hI (Z1.out.over L2);have M2:=hI (step L1.out L2);have e2:=L2.size;clear L2 L1 Z1 CH;go_wp2_with(first
    | ((with_reducible refine sN 4 ?_);refine b0a rfl _ rfl zh _ ZH ?_;intro g3 w3 hg3 hg4 X3 L3;have M3:=hI (step M2.out L3.out);have Z3:=hI (Z2.out.over L3.out))
    | ((with_reducible refine sT 4 ?_);refine e0a rfl _ (.tmp 4) (.tmp 11) rfl g3 rfl _ zh hcs rfl X3 26 E0a HZH H26 HO26 ?_;intro w4 X4 O4 hg5;have M4:=hI (c0a M3.out O4.out (by omega));have Z4:=hI (Z3.out.only O4.out (by omega)))
    | ((with_reducible refine sN 17 ?_);refine d0a rfl _ (.tmp 4) rfl g3 rfl _ hcs X4 26 _ Tryz.underlying28 rfl E0a H26 ?_)
    | ((with_reducible refine sN 18 ?_);refine x0a rfl _ _ rfl MZ (by refine Eq.trans ?_ B1;kernel_rfl) ?_)
    | ((with_reducible refine sN 6 ?_);refine b0a rfl _ rfl zm _ ZG ?_;intro g w5 hg6 hg7 X5 L5;have M5:=hI (step M4.out L5.out);have Z5:=hI (Z4.out.over L5.out))
    | ((with_reducible refine sT 6 ?_);refine e0a rfl _ (.tmp 6) (.tmp 18) rfl g rfl _ zm MZ rfl X5 115 J2a HZ HLL HO0 ?_;intro w6 B6 O6 hg8;have e6:=O4.out.size;have M6:=hI (c0a M5.out O6.out (by omega));have Z6:=hI (Z5.out.only O6.out (by omega)))
    | fail)
   refine(CB'.out w6 g _ _ _ M6.out B6.out (HY0.out w6 g M6.out (by omega) (by trivial))).mono ?_;rintro e w7 ⟨ac,sc,rfl,hb7,hs7,hg7m⟩;have M7:=hI (M6.out.trans (hs7.below (by omega) M6.out.size));have Z7:=hI (Z6.out.save hs7 (by omega));clear hb7 hs7 hg7m X3 L3 X4 O4 X5 L5 B6 O6 M3 M4 M5 M6 Z2 Z3 Z4 Z5 Z6;go_wp2_with(first
    | ((with_reducible refine sN 24 ?_);refine W0a rfl _ rfl zm BZ ?_)
    | ((with_reducible refine sT 2 ?_);refine e0a rfl _ (.tmp 2) (.tmp 24) rfl g0 rfl _ zm zm rfl Z7 115 J1a HZ HZ HZO ?_;intro w8 X8 O8 hg9)
    | fail)
   refine bodyPost_ret (v:=.tuple #[.agg zm.toArray,.int .i64 er]) ?_ rfl (HE.out _ _ rfl (c0a M7.out O8.out (by omega)));exact L0a rfl _ _ g0 _ _ (0,0) _ rfl X8.out Tryz.underlying41 rfl (by rw[J1a];have:=HZ.out;simp[this]) rfl
  ·have hc1:¬((c:Int)=64):=by omega
   have hc2:(64:Int)<=(n:Int):=by omega
   have hc3:¬(c-64=0):=by omega
   go_enter Tryz.func13,Tryz.ntmps13;go_wp2_with(first
    | ((with_reducible refine sN 2 ?_);refine b0a rfl _ rfl zm _ ZM ?_;intro g0 w1 hg1 hg2 Z1 L1)
    | fail)
   refine(CH.out w1 L1.out).mono ?_;rintro e w2 ⟨rfl,L2⟩;have Z2:=hI (Z1.out.over L2);have M2:=hI (step L1.out L2);have e2:=L2.size;clear L2 L1 Z1 CH;go_wp2_with(first
    | ((with_reducible refine sN 4 ?_);refine b0a rfl _ rfl zh _ ZH ?_;intro g3 w3 hg3 hg4 X3 L3;have M3:=hI (step M2.out L3.out);have Z3:=hI (Z2.out.over L3.out))
    | ((with_reducible refine sT 4 ?_);refine e0a rfl _ (.tmp 4) (.tmp 11) rfl g3 rfl _ zh hcs rfl X3 26 E0a HZH H26 HO26 ?_;intro w4 X4 O4 hg5;have M4:=hI (c0a M3.out O4.out (by omega));have Z4:=hI (Z3.out.only O4.out (by omega)))
    | ((with_reducible refine sN 17 ?_);refine d0a rfl _ (.tmp 4) rfl g3 rfl _ hcs X4 26 _ Tryz.underlying28 rfl E0a H26 ?_)
    | ((with_reducible refine sN 18 ?_);refine x0a rfl _ _ rfl MZ (by refine Eq.trans ?_ B1;kernel_rfl) ?_)
    | ((with_reducible refine sN 6 ?_);refine b0a rfl _ rfl zm _ ZG ?_;intro g w5 hg6 hg7 X5 L5;have M5:=hI (step M4.out L5.out);have Z5:=hI (Z4.out.over L5.out))
    | ((with_reducible refine sT 6 ?_);refine e0a rfl _ (.tmp 6) (.tmp 18) rfl g rfl _ zm MZ rfl X5 115 J2a HZ HLL HO0 ?_;intro w6 B6 O6 hg8;have e6:=O4.out.size;have M6:=hI (c0a M5.out O6.out (by omega));have Z6:=hI (Z5.out.only O6.out (by omega)))
    | fail)
   refine(CB'.out w6 g _ _ _ M6.out B6.out (HY.out w6 g M6.out (by omega) hc)).mono ?_;rintro e w7 ⟨ac,sc,rfl,hb7,hs7,hg7m⟩;have M7:=hI (M6.out.trans (hs7.below (by omega) M6.out.size));have Z7:=hI (Z6.out.save hs7 (by omega));clear hb7 hs7 hg7m X3 L3 X4 O4 X5 L5 B6 O6 M3 M4 M5 M6 Z2 Z3 Z4 Z5 Z6;go_wp2_with(first
    | ((with_reducible refine sN 24 ?_);refine W0a rfl _ rfl zm BZ ?_)
    | ((with_reducible refine sT 2 ?_);refine e0a rfl _ (.tmp 2) (.tmp 24) rfl g0 rfl _ zm zm rfl Z7 115 J1a HZ HZ HZO ?_;intro w8 X8 O8 hg9)
    | fail)
   refine bodyPost_ret (v:=.tuple #[.agg zm.toArray,.int .i64 er]) ?_ rfl (HE.out _ _ rfl (c0a M7.out O8.out (by omega)));exact L0a rfl _ _ g0 _ _ (0,0) _ rfl X8.out Tryz.underlying41 rfl (by rw[J1a];have:=HZ.out;simp[this]) rfl
 subst her0;have HQ2:=hI (HQ.out rfl);clear hE HQ;by_cases hc:c=64
 ·subst hc;obtain rfl:n=64:=by omega
  go_enter Tryz.func13,Tryz.ntmps13;go_wp2_with(first
   | ((with_reducible refine sN 2 ?_);refine b0a rfl _ rfl zm _ ZM ?_;intro g0 w1 hg1 hg2 Z1 L1)
   | fail)
  refine(CH.out w1 L1.out).mono ?_;rintro e w2 ⟨rfl,L2⟩;have Z2:=hI (Z1.out.over L2);have M2:=hI (step L1.out L2);have e2:=L2.size;clear L2 L1 Z1 CH;go_wp2_with(first
   | ((with_reducible refine sN 4 ?_);refine b0a rfl _ rfl zh _ ZH ?_;intro g3 w3 hg3 hg4 X3 L3;have M3:=hI (step M2.out L3.out);have Z3:=hI (Z2.out.over L3.out))
   | ((with_reducible refine sT 4 ?_);refine e0a rfl _ (.tmp 4) (.tmp 11) rfl g3 rfl _ zh hcs rfl X3 26 E0a HZH H26 HO26 ?_;intro w4 X4 O4 hg5;have M4:=hI (c0a M3.out O4.out (by omega));have Z4:=hI (Z3.out.only O4.out (by omega)))
   | ((with_reducible refine sN 17 ?_);refine d0a rfl _ (.tmp 4) rfl g3 rfl _ hcs X4 26 _ Tryz.underlying28 rfl E0a H26 ?_)
   | ((with_reducible refine sN 18 ?_);refine x0a rfl _ _ rfl MZ (by refine Eq.trans ?_ B1;kernel_rfl) ?_)
   | ((with_reducible refine sN 6 ?_);refine b0a rfl _ rfl zm _ ZG ?_;intro g w5 hg6 hg7 X5 L5;have M5:=hI (step M4.out L5.out);have Z5:=hI (Z4.out.over L5.out))
   | ((with_reducible refine sT 6 ?_);refine e0a rfl _ (.tmp 6) (.tmp 18) rfl g rfl _ zm MZ rfl X5 115 J2a HZ HLL HO0 ?_;intro w6 B6 O6 hg8;have e6:=O4.out.size;have M6:=hI (c0a M5.out O6.out (by omega));have Z6:=hI (Z5.out.only O6.out (by omega)))
   | fail)
  refine(CB'.out w6 g _ _ _ M6.out B6.out (HY0.out w6 g M6.out (by omega) (by trivial))).mono ?_;rintro e w7 ⟨ac,sc,rfl,hb7,hs7,hg7m⟩;have M7:=hI (M6.out.trans (hs7.below (by omega) M6.out.size));have Z7:=hI (Z6.out.save hs7 (by omega));obtain⟨ga,gs⟩:=TG.out w6 w7 _ ac sc _ (Nat.le_refl _) (hg7m (by trivial));have e60:g0<w6.heap.size:=Z6.out.lt;have B7:=hI hb7;have HA7:=hI ga.len;have HS7:=hI gs.len;have BB:=BM.out ac sc HA7.out HS7.out;have HL7:Hid ((hcs++(ac++sc)).length=115):=by
   show _=_
   simp only[List.length_append,H26.out,HA7.out,HS7.out]
  have HO7:=hI (HOO.out ac sc ga.one gs.one);have ga7:=hI ga;have gs7:=hI gs;have RA7:=hI (RA.out _ _ _ _ _ hb7);have RH7:=hI (RH.out _ _ _ _ _ hb7);have RS7:=hI (RS.out _ _ _ _ _ HA7.out hb7);obtain⟨MF,hMF⟩:∃x,x=hcs++(ac++sc):=⟨_,rfl⟩;rw[<-hMF] at BB HL7 HO7;have HMF:=hI hMF;clear hMF hb7 hs7 hg7m ga gs X3 L3 X4 O4 X5 L5 B6 O6 M3 M4 M5 Z2 Z3 Z4 Z5 Z6 B7;go_wp2_with(first
   | ((with_reducible refine sN 27 ?_);refine p0a rfl _ (.tmp 26) rfl g 0 rfl hcs _ RH7 Tryz.underlying28 rfl 26 E0a H26 ?_)
   | ((with_reducible refine sN 29 ?_);refine p0a rfl _ (.tmp 28) rfl g 26 rfl ac _ RA7 Tryz.underlying34 rfl 69 n0a HA7 ?_)
   | ((with_reducible refine sN 31 ?_);refine p0a rfl _ (.tmp 30) rfl g 95 rfl sc _ RS7 Tryz.underlying39 rfl 20 v0a HS7 ?_)
   | ((with_reducible refine sN 32 ?_);refine x0a rfl _ _ rfl MF (by refine Eq.trans ?_ BB;kernel_rfl) ?_)
   | ((with_reducible refine sT 2 ?_);refine e0a rfl _ (.tmp 2) (.tmp 32) rfl g0 rfl _ zm MF rfl Z7 115 J1a HZ HL7 HO7 ?_;intro w8 X8 O8 hg9)
   | fail)
  refine bodyPost_ret (v:=.tuple #[.agg MF.toArray,.int .i64 0]) ?_ rfl (HQ2.out _ _ _ _ (by rw[HMF.out]) ((ga7.out.only O8.out e60).mono M6.out.size) ((gs7.out.only O8.out e60).mono M6.out.size) (c0a M7.out O8.out (by omega)));exact L0a rfl _ _ g0 _ _ (0,0) _ rfl X8.out Tryz.underlying41 rfl (by rw[J1a];have:=HL7.out;simp[this]) rfl
 ·have hc1:¬((c:Int)=64):=by omega
  have hc2:(64:Int)<=(n:Int):=by omega
  have hc3:¬(c-64=0):=by omega
  go_enter Tryz.func13,Tryz.ntmps13;go_wp2_with(first
   | ((with_reducible refine sN 2 ?_);refine b0a rfl _ rfl zm _ ZM ?_;intro g0 w1 hg1 hg2 Z1 L1)
   | fail)
  refine(CH.out w1 L1.out).mono ?_;rintro e w2 ⟨rfl,L2⟩;have Z2:=hI (Z1.out.over L2);have M2:=hI (step L1.out L2);have e2:=L2.size;clear L2 L1 Z1 CH;go_wp2_with(first
   | ((with_reducible refine sN 4 ?_);refine b0a rfl _ rfl zh _ ZH ?_;intro g3 w3 hg3 hg4 X3 L3;have M3:=hI (step M2.out L3.out);have Z3:=hI (Z2.out.over L3.out))
   | ((with_reducible refine sT 4 ?_);refine e0a rfl _ (.tmp 4) (.tmp 11) rfl g3 rfl _ zh hcs rfl X3 26 E0a HZH H26 HO26 ?_;intro w4 X4 O4 hg5;have M4:=hI (c0a M3.out O4.out (by omega));have Z4:=hI (Z3.out.only O4.out (by omega)))
   | ((with_reducible refine sN 17 ?_);refine d0a rfl _ (.tmp 4) rfl g3 rfl _ hcs X4 26 _ Tryz.underlying28 rfl E0a H26 ?_)
   | ((with_reducible refine sN 18 ?_);refine x0a rfl _ _ rfl MZ (by refine Eq.trans ?_ B1;kernel_rfl) ?_)
   | ((with_reducible refine sN 6 ?_);refine b0a rfl _ rfl zm _ ZG ?_;intro g w5 hg6 hg7 X5 L5;have M5:=hI (step M4.out L5.out);have Z5:=hI (Z4.out.over L5.out))
   | ((with_reducible refine sT 6 ?_);refine e0a rfl _ (.tmp 6) (.tmp 18) rfl g rfl _ zm MZ rfl X5 115 J2a HZ HLL HO0 ?_;intro w6 B6 O6 hg8;have e6:=O4.out.size;have M6:=hI (c0a M5.out O6.out (by omega));have Z6:=hI (Z5.out.only O6.out (by omega)))
   | fail)
  refine(CB'.out w6 g _ _ _ M6.out B6.out (HY.out w6 g M6.out (by omega) hc)).mono ?_;rintro e w7 ⟨ac,sc,rfl,hb7,hs7,hg7m⟩;have M7:=hI (M6.out.trans (hs7.below (by omega) M6.out.size));have Z7:=hI (Z6.out.save hs7 (by omega));obtain⟨ga,gs⟩:=TG.out w6 w7 _ ac sc _ (Nat.le_refl _) (hg7m (by trivial));have e60:g0<w6.heap.size:=Z6.out.lt;have B7:=hI hb7;have HA7:=hI ga.len;have HS7:=hI gs.len;have BB:=BM.out ac sc HA7.out HS7.out;have HL7:Hid ((hcs++(ac++sc)).length=115):=by
   show _=_
   simp only[List.length_append,H26.out,HA7.out,HS7.out]
  have HO7:=hI (HOO.out ac sc ga.one gs.one);have ga7:=hI ga;have gs7:=hI gs;have RA7:=hI (RA.out _ _ _ _ _ hb7);have RH7:=hI (RH.out _ _ _ _ _ hb7);have RS7:=hI (RS.out _ _ _ _ _ HA7.out hb7);obtain⟨MF,hMF⟩:∃x,x=hcs++(ac++sc):=⟨_,rfl⟩;rw[<-hMF] at BB HL7 HO7;have HMF:=hI hMF;clear hMF hb7 hs7 hg7m ga gs X3 L3 X4 O4 X5 L5 B6 O6 M3 M4 M5 Z2 Z3 Z4 Z5 Z6 B7;go_wp2_with(first
   | ((with_reducible refine sN 27 ?_);refine p0a rfl _ (.tmp 26) rfl g 0 rfl hcs _ RH7 Tryz.underlying28 rfl 26 E0a H26 ?_)
   | ((with_reducible refine sN 29 ?_);refine p0a rfl _ (.tmp 28) rfl g 26 rfl ac _ RA7 Tryz.underlying34 rfl 69 n0a HA7 ?_)
   | ((with_reducible refine sN 31 ?_);refine p0a rfl _ (.tmp 30) rfl g 95 rfl sc _ RS7 Tryz.underlying39 rfl 20 v0a HS7 ?_)
   | ((with_reducible refine sN 32 ?_);refine x0a rfl _ _ rfl MF (by refine Eq.trans ?_ BB;kernel_rfl) ?_)
   | ((with_reducible refine sT 2 ?_);refine e0a rfl _ (.tmp 2) (.tmp 32) rfl g0 rfl _ zm MF rfl Z7 115 J1a HZ HL7 HO7 ?_;intro w8 X8 O8 hg9)
   | fail)
  refine bodyPost_ret (v:=.tuple #[.agg MF.toArray,.int .i64 0]) ?_ rfl (HQ2.out _ _ _ _ (by rw[HMF.out]) ((ga7.out.only O8.out e60).mono M6.out.size) ((gs7.out.only O8.out e60).mono M6.out.size) (c0a M7.out O8.out (by omega)));exact L0a rfl _ _ g0 _ _ (0,0) _ rfl X8.out Tryz.underlying41 rfl (by rw[J1a];have:=HL7.out;simp[this]) rfl
theorem H8a(c:Int)(a:m1a):b2a c a=k0a↔p7a c a=a:=by
 obtain⟨a1,a2,a3,a4,a5,a6,a7,a8,a9,a10,a11,a12,a13,a14,a15,a16,a17,a18,a19,a20,a21,a22,a23⟩:=a;unfold b2a p7a;split
 ·simp only[k0a,m1a.mk.injEq];constructor<;>(intro h;obtain⟨h1,h2,h3,h4,h5,h6,h7,h8,h9,h10,h11,h12,h13,h14,h15,h16,h17,h18,h19,h20,h21,h22,h23⟩:=h;subst_vars;simp)
 ·split
  ·simp only[k0a,m1a.mk.injEq];constructor<;>(intro h;obtain⟨h1,h2,h3,h4,h5,h6,h7,h8,h9,h10,h11,h12,h13,h14,h15,h16,h17,h18,h19,h20,h21,h22,h23⟩:=h;subst_vars;simp)
  ·split
   ·split
    ·simp only[k0a,m1a.mk.injEq];constructor<;>(intro h;obtain⟨h1,h2,h3,h4,h5,h6,h7,h8,h9,h10,h11,h12,h13,h14,h15,h16,h17,h18,h19,h20,h21,h22,h23⟩:=h;subst_vars;simp)
    ·split
     ·simp only[k0a,m1a.mk.injEq];constructor<;>(intro h;obtain⟨h1,h2,h3,h4,h5,h6,h7,h8,h9,h10,h11,h12,h13,h14,h15,h16,h17,h18,h19,h20,h21,h22,h23⟩:=h;subst_vars;simp)
     ·simp only[k0a,m1a.mk.injEq];constructor<;>(intro h;obtain⟨h1,h2,h3,h4,h5,h6,h7,h8,h9,h10,h11,h12,h13,h14,h15,h16,h17,h18,h19,h20,h21,h22,h23⟩:=h;subst_vars;simp)
   ·split
    ·simp only[k0a,m1a.mk.injEq];constructor<;>(intro h;obtain⟨h1,h2,h3,h4,h5,h6,h7,h8,h9,h10,h11,h12,h13,h14,h15,h16,h17,h18,h19,h20,h21,h22,h23⟩:=h;subst_vars;simp)
    ·exact eq_comm
theorem T7a(c:Int)(s:E1a):L2a c s=w0a↔G2a c s=s:=by
 obtain⟨a1,a2,a3,a4,a5,a6,a7,a8,a9,a10,a11,a12,a13⟩:=s;unfold L2a G2a;split
 ·simp only[w0a,E1a.mk.injEq];constructor<;>(intro h;obtain⟨h1,h2,h3,h4,h5,h6,h7,h8,h9,h10,h11,h12,h13⟩:=h;subst_vars;simp)
 ·split
  ·simp only[w0a,E1a.mk.injEq];constructor<;>(intro h;obtain⟨h1,h2,h3,h4,h5,h6,h7,h8,h9,h10,h11,h12,h13⟩:=h;subst_vars;simp)
  ·split
   ·simp only[w0a,E1a.mk.injEq];constructor<;>(intro h;obtain⟨h1,h2,h3,h4,h5,h6,h7,h8,h9,h10,h11,h12,h13⟩:=h;subst_vars;simp)
   ·exact eq_comm
theorem X6b{c:Int}{s:E1a}(h:U2a c s=0):Q4a c=true/\G2a c s=s/\s.kind<=2/\s.ents.all t2a=true/\s.ents.length<=64/\(c=14->n1a s.ents=0)/\U1b c s=r3a c s:=by
 have h0:=h;unfold U2a at h;by_cases h1:P2a c s=true/\s.kind<=2/\s.ents.all t2a=true
 ·rw[if_pos h1] at h;by_cases h2:s.ents.length<=64
  ·rw[if_pos h2] at h;obtain⟨h3,h4,h5⟩:=h1;unfold P2a at h3;simp only[Bool.and_eq_true,decide_eq_true_eq] at h3;exact⟨h3.1,(T7a c s).1 h3.2,h4,h5,h2,λhc=>by rw[if_pos hc] at h;exact h,by unfold U1b;rw[if_pos h0]⟩
  ·rw[if_neg h2] at h;exact absurd h (by decide)
 ·rw[if_neg h1] at h;exact absurd h (by decide)
theorem Y6b{c:Int}{a:m1a}(k:a.ok):Bytes (h1b c a):=by
 unfold h1b;split
 ·unfold y3a;split
  ·exact(F0a _ _).append ((F0a _ _).append ((Bytes.zeros 2).append ((v1a _).append (v1a _))))
  ·split
   ·exact F0a _ _
   ·split
    ·split
     ·exact(F0a _ _).append ((F0a _ _).append (F0a _ _))
     ·split
      ·exact(F0a _ _).append ((F0a _ _).append (F0a _ _))
      ·exact(F0a _ _).append ((F0a _ _).append ((F0a _ _).append (v1a _)))
    ·split
     ·exact(F0a _ _).append ((F0a _ _).append (Bytes.zeros 3))
     ·exact Bytes.zeros 4
 ·exact Bytes.nil
theorem T8b{c:Int}{a:m1a}:(h1b c a).length<=70000:=by
 have h1:=q2a a.pat.data.toList;have h2:=q2a a.aft.data.toList;have h3:=q2a a.name.data.toList;unfold h1b;split
 ·unfold y3a;repeat' split
  all_goals (simp only[List.length_append,m0a,List.length_replicate];omega)
 ·simp
theorem Z6b{c:Int}{a:E1a}(k:a.ok):Bytes (U1b c a):=by
 unfold U1b;split
 ·unfold r3a;split
  ·exact(F0a _ _).append ((F0a _ _).append (g0b _))
  ·split
   ·exact(F0a _ _).append ((F0a _ _).append (F0a _ _))
   ·split
    ·exact(F0a _ _).append ((F0a _ _).append (Bytes.zeros 3))
    ·exact Bytes.zeros 4
 ·exact Bytes.nil
theorem U8b{c:Int}{a:E1a}:(U1b c a).length<=70000:=by
 unfold U1b;split
 ·rename_i he;obtain⟨_,_,_,_,hl,_,_⟩:=X6b he;have h1:=r7a a.ents;unfold r3a;repeat' split
  all_goals (simp only[List.length_append,m0a,List.length_replicate];omega)
 ·simp
theorem b2'{xs:List Int}(hx:Bytes xs)(r:Rd):0<=(rdN xs 2 r).1/\(rdN xs 2 r).1<=65535:=by have:=v3b hx 2 r 65536 (by decide) (by decide);exact⟨this.1,by omega⟩
theorem p1b{m:A5a}(k:m.ok):Bytes (L9a m):=by
 unfold L9a pso pao;split
 ·split
  ·split
   ·exact p5b k.s
   ·split
    ·exact O6b k.s
    ·exact Z6b k.s
  ·split
   ·exact o5b k.a
   ·split
    ·exact N6b k.a
    ·exact Y6b k.a
 ·exact Bytes.zeros 0
theorem N5b{m:A5a}(k:m.ok):(L9a m).length<=70000:=by
 unfold L9a pso pao;split
 ·split
  ·split
   ·exact K7b k.s
   ·split
    ·exact t8b
    ·exact U8b
  ·split
   ·exact J7b k.a
   ·split
    ·exact s8b
    ·exact T8b
 ·exact Nat.zero_le _
theorem b2b{h:Hd}{b:List Int}(hb:Bytes b):Bytes (v6a h b):=by
 unfold v6a;split
 ·exact hb
 ·exact hb.append (Bytes.zeros _)
theorem a7b{m:A5a}(k:m.ok):Bytes (i1b m):=by
 unfold i1b;split
 ·exact(s5a k.h.byte).append (b2b (p1b k))
 ·exact Bytes.zeros 0
theorem V8b{m:A5a}(k:m.ok):(i1b m).length<=70071:=by
 unfold i1b;split
 ·have h1:=c4b m.h (L9a m);have h2:=N5b k;have h3:=D5a k.h.len;simp only[List.length_append];omega
 ·exact Nat.zero_le _
theorem V5a{w:World}{base n:Nat}{v:Value}{xs:List Int}(h0:0<n)(hn:n<=65536)(hown:a1a .u8 5 w base v xs)(hx:xs.length<=1000000)(hbase:base<=w.heap.size)(ty:TypeId) :
  ∃v' w',(Builtin.append_ #[31,3] ty #[v,.int .i64 (n:Int)]).run Tryz.prog w=.ok v' w'/\a1a .u8 5 w' base v' (xs++List.replicate n 0)/\w.grownBy w' v.ownBlock:=by
 obtain⟨i0,hi,hz0,hz1,hz2⟩:=info_parts v3a;have hmax:maxLen=9223372036854775807:=rfl;have ht:Tryz.prog.underlying 31=some (.slice 5):=Tryz.underlying31;have htn:Tryz.prog.underlying 3=some (.int .i64):=Tryz.underlying3;have hw:IntKind.i64.wrap (n:Int)=n:=by rw[IntKind.wrap_i64];omega
 have hneg:¬((n:Int)<0):=by omega
 have h48i:¬(281474976710656<(n:Int)*(i0.bytes:Int)):=by rw[hz2];omega
 have hns:¬(n*i0.size=0):=by rw[hz1];omega
 have hn0:n≠0:=by omega
 have hOK:=hown.own;rcases hown with⟨rfl,rfl⟩ | ⟨g,z,rfl,hb,hz,hg⟩
 ·have hrun:=Lib.run_append_nil_zeros (P:=Tryz.prog) w 31 3 ty 5 i0 (.int .u8 0) .i64 .i64 ht htn hi hz0 n h0 (by omega) (by omega) (by rw[hz2];omega);refine⟨_,_,hrun,?_,⟨rfl,rfl,rfl,by simp,λj hj _=>Below.heap_alloc w.drew _ j hj⟩⟩;have:=f5a .u8 5 w base (List.replicate n 0) 0 n (by simp) hbase (by omega);rw[f3a .u8 n,List.nil_append];simpa using this
 ·by_cases hroom:xs.length+n<=xs.length+z
  ·have hst:=run_storeCells_at Tryz.prog g (xs.length*i0.size) 5 ((List.replicate n (0:Int)).map (Value.int .u8)) 0 _ w hg (by simp[hz1];omega) (by intro u hu;obtain⟨x,_,rfl⟩:=List.mem_map.1 hu;rfl);simp only[Nat.add_zero] at hst;have hzc:(Builtin.zeroCells (Value.int .u8 0).cells n).toList=(List.replicate n (0:Int)).map (Value.int .u8):=by rw[f3a];simp
   refine⟨.slice (some ⟨g,0,none⟩) (xs.length+n) (xs.length+z),w.setRow g ((xs++List.replicate n 0++List.replicate (z-n) 0).map (Value.int .u8)).toArray,?_,.inr ⟨g,z-n,by simp;omega,hb,by simp;omega,setRow_heap w g _ _ 5 _ hg⟩,?_⟩;rotate_left
   ·exact⟨rfl,rfl,rfl,by simp,λj _ hj=>setRow_other w g j _ (λe=>hj (by simp[Value.ownBlock,e]))⟩
   ·have e1:((xs++List.replicate z (0:Int)).map (Value.int .u8)).take (xs.length*i0.size)=xs.map (Value.int .u8):=by rw[hz1,Nat.mul_one,List.map_append,List.take_left' (by simp)]
    have e2:((xs++List.replicate z (0:Int)).map (Value.int .u8)).drop (xs.length*i0.size+((List.replicate n (0:Int)).map (Value.int .u8)).length)=(List.replicate (z-n) (0:Int)).map (Value.int .u8):=by rw[hz1,Nat.mul_one,List.length_map,List.length_replicate,<-List.drop_drop,List.map_append,List.drop_left' (by simp),<-List.map_drop,List.drop_replicate]
    rw[e1,e2,<-hzc] at hst;rw[List.map_append,List.map_append,<-hzc];have hroom2:n<=z:=by omega
    simp[Builtin.append_,run_underlying ht,run_underlying htn,sizeOf,typeInfo,zeroValue,hi,hz0,asInt,asIntOf,hw,hneg,hns,h48i,hroom2,Addr.add_lit,hst,hn0]
  ·have q0a:∀j y,(xs.map (Value.int .u8))[j]? = some y->w.cell? ((⟨g,0,none⟩:Addr).add j)=some y:=hOK.cells (g:=g) rfl;have hfit:=growslice_fits (need:=xs.length+n) (old:=xs.length+z) (bytes:=i0.bytes) (by omega) (by rw[hz2];omega);have h48':¬(281474976710656<Builtin.nextslicecap (xs.length+n) (xs.length+z)*i0.bytes):=by omega
   have h63':¬(9223372036854775807<((xs.length:Int)+(n:Int))):=by omega
   have hfo:=run_firstCells_some (P:=Tryz.prog) w.drew i0.size xs.length ⟨g,0,none⟩ xs.length (xs.length+z) (xs.map (Value.int .u8)) (by simp[hz1]) (by simpa using q0a);have hnr:¬n<=z:=by omega
   have:=f5a .u8 5 w base (xs++List.replicate n 0) (xs.length+z) (xs.length+n) (by simp) hbase (by omega);refine⟨.slice (some ⟨w.heap.size,0,none⟩) (xs.length+n) (grownCap w (xs.length+n) (xs.length+z) 5),_,?_,this,?_⟩;rotate_left
   ·exact⟨rfl,rfl,rfl,by simp,λj hj _=>Below.heap_alloc w.drew _ j hj⟩
   ·simp[Builtin.append_,run_underlying ht,run_underlying htn,sizeOf,typeInfo,zeroValue,hi,hz0,asInt,asIntOf,hw,hneg,hns,h48i,h48',h63',hn0,Question.forced,hfo,newRow,grownCap,hnr,f3a]
    congr 2
    apply Array.ext';simp[List.append_assoc,List.replicate_append_replicate]
theorem u7a{w:World}{ops:Array Oper}{rest:List Oper}{o:Oper}{a:Act}{Q:Exit->Act->World->Prop}(hgd:o.guard=none)(s x:Operand)
(ho:o.op=.call { callee:=.builtin .append,args:=#[s,x],argTypes:=#[31,3] })
(base n:Nat)(v:Value)(xs:List Int)(hs:a.eval s=v)(hx:a.eval x=.int .i64 (n:Int))(hown:a1a .u8 5 w base v xs)(h0:0<n)(hn:n<=65536)(hlen:xs.length<=1000000)(hbase:base<=w.heap.size)
(h:∀v' w',Hid (a1a .u8 5 w' base v' (xs++List.replicate n 0))->Hid (Below base w w')->wpList Tryz.prog ops Q rest (a.put o.dst v') w') :
  wpList Tryz.prog ops Q (o::rest) a w:=by
 have hOK:=hown.own;obtain⟨v',w',hrun,h2,h3⟩:=V5a h0 hn hown hlen hbase o.type;exact Lib.wpList_append_run w hgd s x _ _ ho _ _ hs hx v' w' hrun (h v' w' h2 ((Below.refl _ _).grown h3 hbase (λk hk=>(World.ownsRow.lt hOK k hk).1)))
def g2a(s:Nat):List Int->List Int
 | []=>[]
 | x::r=>le x s++g2a s r
theorem l4b(s:Nat)(xs:List Int)(x:Int):g2a s (xs++[x])=g2a s xs++le x s:=by
 induction xs with
 | nil=>simp[g2a]
 | cons a r ih=>simp[g2a,ih,List.append_assoc]
theorem c2b(s:Nat)(xs:List Int):(g2a s xs).length=s*xs.length:=by
 induction xs with
 | nil=>rfl
 | cons a r ih=>simp only[g2a,List.length_append,m0a,ih,List.length_cons,Nat.mul_add,Nat.mul_one];omega
theorem Z2b(s:Nat)(xs:List Int):Bytes (g2a s xs):=by
 induction xs with
 | nil=>exact Bytes.nil
 | cons a r ih=>exact(F0a _ _).append ih
def c9a(w:World)(s:Nat)(vs:List Int)(e:Ending)(w':World):Prop:=∃v,e=.returned v/\a1a .u8 5 w' w.heap.size v (g2a s vs)/\Below w.heap.size w w'
theorem S9a(w:World)(gl m s:Nat)(vs:List Int)(hB:Blk w gl 25 (vs.map (Value.int .u64)))(hl:vs.length=m)(hm:m<=1000)(hs:B2a (s:Int)=true)(hv:∀x∈vs,0<=x/\x<256^s) :
  Calls Tryz.prog 121 #[.int .i64 (s:Int),.slice (some ⟨gl,0,none⟩) m m] w (c9a w s vs):=by
 have hs8:1<=s/\s<=8:=by rcases F1a hs with h | h | h | h<;>omega
 obtain⟨hs1,hs8⟩:=hs8;have hgl:=hB.lt;have HBl:=hI hB;have HL:=hI hl;have hp8:(256:Int)^s<=18446744073709551616:=by
  rcases F1a hs with h | h | h | h
  ·obtain rfl:s=1:=by omega
   decide
  ·obtain rfl:s=2:=by omega
   decide
  ·obtain rfl:s=4:=by omega
   decide
  ·obtain rfl:s=8:=by omega
   decide
 have CP:Hid (∀(w:World) (x:Int),x∈vs->Calls Tryz.prog 37 #[.int .u64 x,.int .i64 (s:Int)] w λe w'=>∃A',e=.returned (.tuple #[.slice A' s s,.int .i64 0])/\Y1a w' w.heap.size A' (le x s)/\Below w.heap.size w w'):=λw x hx=>by
  obtain⟨h0,h1⟩:=hv x hx;have h:=g7a w x (s:Int) ⟨h0,by omega⟩ (by omega);unfold B4a at h;have hp:V2a x (s:Int)=true:=by unfold V2a;rw[hs,Int.toNat_natCast,decide_eq_true h1];rfl
  unfold d4a v2a at h;rw[if_pos hp,if_pos hp,Int.toNat_natCast,m0a] at h;exact h
 have HQ:Hid (∀e w',(∃v,e=.returned v/\a1a .u8 5 w' w.heap.size v (g2a s vs)/\Below w.heap.size w w')->c9a w s vs e w'):=λ_ _ h=>h
 have HLB:Hid (∀x:Int,(le x s).length=s/\Bytes (le x s)):=λx=>⟨m0a x s,F0a x s⟩
 have HNL:Hid (∀j,j<=m->(g2a s (vs.take j)).length<=8000):=λj hj=>by rw[c2b,List.length_take];have h1:s*min j vs.length<=8*1000:=Nat.mul_le_mul hs8 (by omega);omega
 have HST:Hid (∀(j:Nat) (x:Int),vs[j]? = some x->g2a s (vs.take (j+1))=g2a s (vs.take j)++le x s):=λj x hx=>by rw[List.take_add_one,hx,Option.toList_some,l4b]
 have HN:Hid (g2a s (vs.take m)=g2a s vs):=by show _=_;rw[<-hl,List.take_length]
 have H0:Hid (g2a s (vs.take 0)=[]):=by show _=_;rw[List.take_zero];rfl
 obtain⟨nb,hnb⟩:∃f:Nat->List Int,f=λj=>g2a s (vs.take j):=⟨_,rfl⟩
 have hnb2:∀j,g2a s (vs.take j)=nb j:=λj=>by rw[hnb]
 simp only[hnb2] at HNL HST HN H0;rw[<-HN.out] at HQ;obtain⟨lb,hlb⟩:∃f:Int->List Int,f=λx=>le x s:=⟨_,rfl⟩
 have hlb2:∀x,le x s=lb x:=λx=>by rw[hlb]
 simp only[hlb2] at CP HLB HST;have HMEM:Hid (∀(j:Nat) (x:Int),vs[j]? = some x->x∈vs):=λj x h=>List.mem_of_getElem? h
 have HGET:Hid (∀j,j<m->∃x,vs[j]? = some x):=λj hj=>⟨_,List.getElem?_eq_getElem (by omega)⟩
 have HCELL:Hid (∀(j:Nat) (x:Int),vs[j]? = some x->(vs.map (Value.int .u64))[j]? = some (.int .u64 x)):=λj x h=>by simp[h]
 clear hB hl hv hs hp8 hnb hnb2 hlb hlb2 HN;go_enter Tryz.func121,Tryz.ntmps121;go_wp2;go_loopw [5,12] (λv i wr=>∃j:Nat,i=.int .i64 j/\j<=m/\Hid (a1a .u8 5 wr w.heap.size v (nb j))/\Hid (Below w.heap.size w wr)) (λ_ i _=>m-(intOf i).toNat)
 case atStart=>exact⟨0,rfl,Nat.zero_le _,by rw[H0.out];exact a1a.nil _ _ _ _,Below.refl _ _⟩
 case round=>
  obtain⟨j,rfl,hj,HO,HB1⟩:=hrel;by_cases hlt2:j<m
  ·obtain⟨x,hx⟩:=HGET.out j hlt2;have HKl:=hI (HBl.out.over HB1.out);have hc:wr.cell? ⟨gl,j,none⟩=some (.int .u64 x):=(HKl.out.cell j).trans (HCELL.out j x hx);have HS:=hI (HST.out j x hx);have HM:=hI (HMEM.out j x hx);have hnl:=HNL.out j hj;have hsz:=HB1.out.size;clear hx;go_wp2_with fail;refine(CP.out wr x HM.out).mono ?_;rintro e v1 ⟨A',rfl,hf,L1⟩;have HH:=hI (hf.holds (HLB.out x).1 (HLB.out x).2 (by omega));have HO1:=hI (HO.out.below L1);have HB2:=hI (HB1.out.trans (L1.mono hsz));have hll:=(HLB.out x).1;have hsz1:=HB2.out.size;clear hf L1 hc HKl HO HB1;go_wp2_with(first
    | (at_builtin;refine D2a rfl (.tmp 22) (.tmp 23) rfl w.heap.size _ (nb j) rfl HO1.out v1.heap.size A' s s (lb x) rfl HH.out (by omega) hsz1 ?_;intro u5 v5 HO5 L5)
    | fail)
   rw[<-HS.out] at HO5;have HB5:=hI (HB2.out.trans L5);clear HO1 HB2 L5 HH HS;go_roundw
   case rel=>exact⟨j+1,by simp,by omega,HO5,HB5⟩
   case measure=>simp[intOf];omega
  ·obtain rfl:j=m:=by omega
   go_wp2;go_ret;exact HQ.out _ _ ⟨_,rfl,HO.out,HB1.out⟩
theorem O5b(w:World)(l:m2a):Calls Tryz.prog 167 #[.agg (P0a l).toArray] w λe w'=>e=.returned (.bool (l.op != 0))/\Below w.heap.size w w':=by
 obtain⟨op,at_,n,md⟩:=l;have HC:Hid (∀(w:World) (g:Nat),Blk w g 114 (P0a ⟨op,at_,n,md⟩)->w.cell? ⟨g,0,none⟩=some (.int .i64 op)):=λw g h=>h.at rfl
 obtain⟨cs,hcs⟩:∃x,x=P0a ⟨op,at_,n,md⟩:=⟨_,rfl⟩;rw[<-hcs] at HC⊢;show Calls _ _ _ _ λe w'=>e=.returned (.bool (op != 0))/\_
 clear hcs;go_enter Tryz.func167,Tryz.ntmps167;go_wp2_with(first
  | ((with_reducible refine sN 1 ?_);refine a0a rfl _ (.tmp 0) rfl cs rfl ?_;intro g w1 hg1 hg2 K1 L1;have c0:=HC.out w1 g K1.out)
  | fail)
 go_ret;exact⟨rfl,L1.out⟩
theorem m4b(w:World)(A:Option Addr)(n c:Nat)(xs:List m2a)(h:T0a P0a 4 w w.heap.size A n c xs)(hn:n<=4398046511104) :
  Calls Tryz.prog 182 #[.slice A n c,.func (.func 167) #[] #[]] w λe w'=>(∃k:Int,e=.returned (.int .i64 k)/\decide (0<=k) = !shut xs)/\Below w.heap.size w w':=by
 have HH:=hI h;have HL:=hI h.len;have hft:=h.fit;have CF:Hid (∀(w:World) (l:m2a),Calls Tryz.prog 167 #[.agg (P0a l).toArray] w λe w'=>e=.returned (.bool (l.op != 0))/\Below w.heap.size w w'):=O5b;have HQ:Hid (∀(e:Ending) (w':World),((∃k:Int,e=.returned (.int .i64 k)/\decide (0<=k) = !shut xs)/\Below w.heap.size w w')->((∃k:Int,e=.returned (.int .i64 k)/\decide (0<=k) = !shut xs)/\Below w.heap.size w w')):=λ_ _ h=>h
 have H0:Hid (shut (xs.take 0)=true):=by show _=_;rw[List.take_zero];rfl
 have HN:Hid (shut (xs.take n)=true->shut xs=true):=λh1=>by rw[<-HL.out,List.take_length] at h1;exact h1
 have HST:Hid (∀(j:Nat) (x:m2a),xs[j]? = some x->shut (xs.take j)=true->x.op=0->shut (xs.take (j+1))=true):=λj x hx h1 h2=>by rw[List.take_add_one,hx,Option.toList_some];unfold shut at h1⊢;rw[List.all_append,h1];simp[h2]
 have HBAD:Hid (∀(j:Nat) (x:m2a),xs[j]? = some x->x.op≠0->shut xs=false):=λj x hx h1=>by unfold shut;rw[List.all_eq_false];exact⟨x,List.mem_of_getElem? hx,by simpa using h1⟩
 clear h;go_enter Tryz.func182,Tryz.ntmps182;go_wp2;go_loopw [8] (λi wr=>∃j:Nat,i=.int .i64 j/\j<=n/\Hid (shut (xs.take j)=true)/\Hid (Below w.heap.size w wr)) (λi _=>n-(intOf i).toNat)
 case atStart=>exact⟨0,rfl,Nat.zero_le _,H0.out,Below.refl _ _⟩
 case round=>
  obtain⟨j,rfl,hj,HS,HB1⟩:=hrel;by_cases hlt:j<n
  ·have hh:=HH.out.below HB1.out;obtain⟨b,off,rfl,hb,hc⟩:=hh.cells (by omega);obtain⟨x,hx⟩:∃x,xs[j]? = some x:=⟨_,List.getElem?_eq_getElem (by have:=HL.out;omega)⟩;have Rx:Hid (wr.rangeAt b (off+j*4) (P0a x)):=hh.range rfl hlt hx;have LX:Hid ((P0a x).length=4):=rfl;have CX:=CF.out wr x;have HST':=hI (HST.out j x hx HS.out);have HBAD':=hI (HBAD.out j x hx);obtain⟨cx,hcx⟩:∃cx,cx=P0a x:=⟨_,rfl⟩;rw[<-hcx] at Rx LX CX;have hsz:=HB1.out.size;clear hh hc hx hcx;by_cases ho:x.op=0
   ·have hb0:(x.op != 0)=false:=by simpa using ho
    rw[hb0] at CX;have CX':=hI CX;have HS2:=hI (HST'.out ho);clear CX hb0 ho HST' HBAD' HS;go_wp2_with(first
     | ((with_reducible refine sN 15 ?_);refine p0a rfl _ (.tmp 14) rfl b (off+j*4) rfl cx _ Rx Tryz.underlying114 rfl 4 u5a LX ?_)
     | fail)
    refine CX'.out.mono ?_;rintro e v1 ⟨rfl,L1⟩;have HB2:=hI (HB1.out.trans (L1.mono hsz));clear L1 HB1 CX';go_wp2;go_roundw
    case rel=>exact⟨j+1,by simp,by omega,HS2,HB2⟩
    case measure=>simp[intOf];omega
   ·have hb0:(x.op != 0)=true:=by simpa using ho
    rw[hb0] at CX;have CX':=hI CX;have HS2:=hI (HBAD'.out ho);clear CX hb0 ho HST' HBAD' HS;go_wp2_with(first
     | ((with_reducible refine sN 15 ?_);refine p0a rfl _ (.tmp 14) rfl b (off+j*4) rfl cx _ Rx Tryz.underlying114 rfl 4 u5a LX ?_)
     | fail)
    refine CX'.out.mono ?_;rintro e v1 ⟨rfl,L1⟩;have HB2:=hI (HB1.out.trans (L1.mono hsz));clear L1 HB1 CX';go_wp2;go_ret;exact HQ.out _ _ ⟨⟨_,rfl,by rw[HS2.out];simp⟩,HB2.out⟩
  ·obtain rfl:j=n:=by omega
   have HS2:=hI (HN.out HS.out);go_wp2;go_ret;exact HQ.out _ _ ⟨⟨_,rfl,by rw[HS2.out];rfl⟩,HB1.out⟩
theorem q1b(w:World)(A:Option Addr)(n c:Nat)(xs:List m2a)(h:T0a P0a 4 w w.heap.size A n c xs)(hn:n<=4398046511104) :
  Calls Tryz.prog 166 #[.slice A n c,.func (.func 167) #[] #[]] w λe w'=>e=.returned (.bool (!shut xs))/\Below w.heap.size w w':=by
 have C1:=hI (m4b w A n c xs h hn);obtain⟨z,hz⟩:∃z,z = !shut xs:=⟨_,rfl⟩;rw[<-hz] at C1⊢;clear h hz;go_enter Tryz.func166,Tryz.ntmps166;go_wp2_with fail;refine C1.out.mono ?_;rintro e w1 ⟨⟨k,rfl,hk⟩,L1⟩;go_wp2;go_ret;exact⟨by rfl,L1⟩
section
variable {vd vx vl ve:Value} {a:m1a} {s:E1a}
theorem t1a(hg:a.guid.length=16)(hp:a.proof.length=32)(i:Nat)(u:Value):(l0a vd vx vl a).set (49+i) u=vd::(a.guid.map (Value.int .u8)++(a.proof.map (Value.int .u8)++(G7a vx vl a).set i u)):=by
 unfold l0a;rw[show 49+i=(48+i)+1 from by omega,List.set_cons_succ,List.set_append_right _ _ (by rw[List.length_map,hg];omega),List.length_map,hg,List.set_append_right _ _ (by rw[List.length_map,hp];omega),List.length_map,hp]
 congr 4
 omega
theorem A2a(hg:s.chal.length=8)(i:Nat)(u:Value):(s0a vx ve s).set (10+i) u=.int .u16 s.dia::.int .u64 s.siz::(s.chal.map (Value.int .u8)++(f0b vx ve s).set i u):=by
 unfold s0a;rw[show 10+i=(8+i)+1+1 from by omega,List.set_cons_succ,List.set_cons_succ,List.set_append_right _ _ (by rw[List.length_map,hg];omega),List.length_map,hg]
 congr 4
 omega
theorem C9b(hg:a.guid.length=16)(hp:a.proof.length=32)(x:Int):(l0a vd vx vl a).set 51 (.int .u32 x)=l0a vd vx vl { a with acc:=x }:=(t1a hg hp 2 _).trans rfl
theorem D9b(hg:a.guid.length=16)(hp:a.proof.length=32)(x:Int):(l0a vd vx vl a).set 52 (.int .u32 x)=l0a vd vx vl { a with shr:=x }:=(t1a hg hp 3 _).trans rfl
theorem E9b(hg:a.guid.length=16)(hp:a.proof.length=32)(x:Int):(l0a vd vx vl a).set 53 (.int .u32 x)=l0a vd vx vl { a with way:=x }:=(t1a hg hp 4 _).trans rfl
theorem F9b(hg:a.guid.length=16)(hp:a.proof.length=32)(x:Int):(l0a vd vx vl a).set 54 (.int .u32 x)=l0a vd vx vl { a with opt:=x }:=(t1a hg hp 5 _).trans rfl
theorem q9b(hg:a.guid.length=16)(hp:a.proof.length=32)(x:Int):(l0a vd vx vl a).set 55 (.int .u8 x)=l0a vd vx vl { a with lev:=x }:=(t1a hg hp 6 _).trans rfl
theorem G9b(hg:a.guid.length=16)(hp:a.proof.length=32)(x:Int):(l0a vd vx vl a).set 56 (.int .u8 x)=l0a vd vx vl { a with dur:=x }:=(t1a hg hp 7 _).trans rfl
theorem B4b(hg:a.guid.length=16)(hp:a.proof.length=32)(x:Int):(l0a vd vx vl a).set 57 (.int .u64 x)=l0a vd vx vl { a with file:=x }:=(t1a hg hp 8 _).trans rfl
theorem r9b(hg:a.guid.length=16)(hp:a.proof.length=32)(x:ByteArray):(l0a vd vx vl a).set 58 (.string x)=l0a vd vx vl { a with name:=x }:=(t1a hg hp 9 _).trans rfl
theorem s9b(hg:a.guid.length=16)(hp:a.proof.length=32)(x:Int):(l0a vd vx vl a).set 59 (.int .u64 x)=l0a vd vx vl { a with at_:=x }:=(t1a hg hp 10 _).trans rfl
theorem H9b(hg:a.guid.length=16)(hp:a.proof.length=32)(x:Int):(l0a vd vx vl a).set 60 (.int .u32 x)=l0a vd vx vl { a with n:=x }:=(t1a hg hp 11 _).trans rfl
theorem I9b(hg:a.guid.length=16)(hp:a.proof.length=32)(v:Value)(xs:List Int):(l0a vd vx vl a).set 61 v=l0a vd v vl { a with data:=xs }:=(t1a hg hp 12 _).trans rfl
theorem J9b(hg:a.guid.length=16)(hp:a.proof.length=32)(v:Value)(xs:List m2a):(l0a vd vx vl a).set 62 v=l0a vd vx v { a with locks:=xs }:=(t1a hg hp 13 _).trans rfl
theorem t9b(hg:s.chal.length=8)(x:Int):(s0a vx ve s).set 10 (.int .u8 x)=s0a vx ve { s with lev:=x }:=(A2a hg 0 _).trans rfl
theorem K9b(hg:s.chal.length=8)(x:Int):(s0a vx ve s).set 11 (.int .u8 x)=s0a vx ve { s with dur:=x }:=(A2a hg 1 _).trans rfl
theorem L9b(hg:s.chal.length=8)(x:Int):(s0a vx ve s).set 12 (.int .u16 x)=s0a vx ve { s with made:=x }:=(A2a hg 2 _).trans rfl
theorem u9b(hg:s.chal.length=8)(x:Int):(s0a vx ve s).set 13 (.int .u64 x)=s0a vx ve { s with file:=x }:=(A2a hg 3 _).trans rfl
theorem v9b(hg:s.chal.length=8)(x:Int):(s0a vx ve s).set 14 (.int .u8 x)=s0a vx ve { s with kind:=x }:=(A2a hg 4 _).trans rfl
theorem M9b(hg:s.chal.length=8)(x:Int):(s0a vx ve s).set 16 (.int .u32 x)=s0a vx ve { s with n:=x }:=(A2a hg 6 _).trans rfl
theorem sc1(hg:s.chal.length=8)(x:Int):(s0a vx ve s).set 1 (.int .u64 x)=s0a vx ve { s with siz:=x }:=rfl
theorem N9b(hg:s.chal.length=8)(v:Value)(xs:List Int):(s0a vx ve s).set 15 v=s0a v ve { s with data:=xs }:=(A2a hg 5 _).trans rfl
theorem f9b(hg:a.guid.length=16)(hp:a.proof.length=32):(l0a vd vx vl a).set 61 (.slice none 0 0)=l0a vd (.slice none 0 0) vl { a with data:=[] }:=I9b hg hp _ []
theorem g9b(hg:a.guid.length=16)(hp:a.proof.length=32):(l0a vd vx vl a).set 62 (.slice none 0 0)=l0a vd vx (.slice none 0 0) { a with locks:=[] }:=J9b hg hp _ []
theorem h9b(hg:s.chal.length=8):(s0a vx ve s).set 15 (.slice none 0 0)=s0a (.slice none 0 0) ve { s with data:=[] }:=N9b hg _ []
end
theorem zb{M:Int}(h:0<=M):(0:Int)<=0/\(0:Int)<=M:=⟨Int.le_refl 0,h⟩
theorem n4b{c:Int}{a:m1a}(k:a.ok):(Z0a c a).ok:=by
 unfold Z0a;split
 ·exact⟨k.dial,k.glen,k.gbyte,k.plen,k.pbyte,zb (by decide),zb (by decide),zb (by decide),zb (by decide),zb (by decide),zb (by decide),zb (by decide),k.at_,k.n,k.data,k.locks,k.most,k.cls,k.siz⟩
 ·split
  ·exact⟨k.dial,k.glen,k.gbyte,k.plen,k.pbyte,k.acc,k.shr,k.way,k.opt,k.lev,k.dur,zb (by decide),zb (by decide),zb (by decide),k.data,k.locks,k.most,k.cls,k.siz⟩
  ·split
   ·exact⟨k.dial,k.glen,k.gbyte,k.plen,k.pbyte,k.acc,k.shr,k.way,k.opt,k.lev,k.dur,zb (by decide),zb (by decide),k.n,Bytes.nil,k.locks,k.most,k.cls,k.siz⟩
   ·split
    ·exact⟨k.dial,k.glen,k.gbyte,k.plen,k.pbyte,k.acc,k.shr,k.way,k.opt,k.lev,k.dur,zb (by decide),k.at_,k.n,k.data,(λl h=>by cases h),k.most,k.cls,k.siz⟩
    ·exact⟨k.dial,k.glen,k.gbyte,k.plen,k.pbyte,k.acc,k.shr,k.way,k.opt,k.lev,k.dur,zb (by decide),k.at_,k.n,k.data,k.locks,k.most,k.cls,k.siz⟩
theorem a3b{c:Int}{s:E1a}(k:s.ok):(d1a c s).ok:=by
 unfold d1a;split
 ·exact⟨k.dia,zb (by decide),k.clen,k.cbyte,zb (by decide),zb (by decide),zb (by decide),zb (by decide),zb (by decide),k.data,k.n,k.ents⟩
 ·split
  ·exact⟨k.dia,k.siz,k.clen,k.cbyte,k.lev,k.dur,k.made,k.file,k.kind,Bytes.nil,k.n,k.ents⟩
  ·split
   ·exact⟨k.dia,k.siz,k.clen,k.cbyte,k.lev,k.dur,k.made,k.file,k.kind,k.data,zb (by decide),k.ents⟩
   ·exact k
theorem U7a{c:Int}{a:m1a}(hk:G1a c=true)(hc:c≠10):J5a c a=decide (Z0a c a=k0a):=by
 unfold J5a;rw[hk,Bool.true_and];by_cases h:Z0a c a=k0a
 ·have hl:a.locks=[]:=by
   have h2:=congrArg m1a.locks h;unfold Z0a at h2;rw[if_neg hc] at h2;split at h2
   ·exact h2
   ·split at h2
    ·exact h2
    ·split at h2<;>exact h2
  rw[decide_eq_true h,hl];rfl
 ·rw[decide_eq_false h,Bool.false_and]
theorem z3b(b:m1a):(g1a 13 b==0)=decide (b=k0a):=by
 have e:j1a 13 b=b:=by unfold j1a;rw[if_neg (by decide),if_neg (by decide),if_neg (by decide)]
 unfold g1a;rw[e];by_cases h:b=k0a
 ·rw[if_pos ⟨rfl,h⟩,decide_eq_true h];rfl
 ·rw[if_neg (λh2=>h h2.2),decide_eq_false h];rfl
theorem d2b(b:E1a):(z1a 13 b==0)=decide (b=w0a):=by
 have e:r1a 13 b=b:=by unfold r1a;rw[if_neg (by decide)]
 unfold z1a;rw[e];by_cases h:b=w0a
 ·rw[if_pos ⟨rfl,h,λh0=>absurd h0 (by decide)⟩,decide_eq_true h];rfl
 ·rw[if_neg (λh2=>h h2.2.1),decide_eq_false h];rfl
section
variable {P:Program} {ops:Array Oper} {Q:Exit->Act->World->Prop} {md:Region.Mode} {S:World->Prop}
def V7a(ops:Array Oper)(listed:Array Bool):Nat:=(List.range ops.size).countP λi=>!listed.getD i true
theorem z0b{α:Type}{p q:α->Bool}:∀(l:List α),(∀x,q x=true->p x=true)->(∃x∈l,p x=true/\q x=false)->l.countP q<l.countP p
 | [],_,⟨x,hx,_⟩=>absurd hx List.not_mem_nil
 | y::l,h,⟨x,hx,h1,h2⟩=>by
  have hle:l.countP q<=l.countP p:=List.countP_mono_left λx _=>h x
  rw[List.countP_cons,List.countP_cons];rcases List.mem_cons.1 hx with rfl | hx
  ·rw[h1,h2];simp;omega
  ·have:=z0b l h ⟨x,hx,h1,h2⟩;have hy:=h y;cases hq:q y<;>cases hp:p y<;>simp_all<;>omega
theorem I8a{listed:Array Bool}{i:Nat}(hi:i∈Region.ready md ops listed):V7a ops (listed.setIfInBounds i true)<V7a ops listed:=by
 obtain⟨hun,o,ho,_⟩:=mem_ready.1 hi;refine z0b _ (λx hx=>?_) ⟨i,List.mem_range.2 (Array.getElem?_eq_some_iff.1 ho).1,by rw[hun];rfl,?_⟩
 ·by_cases hxi:i=x
  ·subst hxi;rw[hun];rfl
  ·rw[getD_set_ne true hxi] at hx;exact hx
 ·have hlt:i<listed.size:=by
   rcases Nat.lt_or_ge i listed.size with h | h
   ·exact h
   ·rw[Array.getD_eq_getD_getElem?,Array.getElem?_eq_none h] at hun;cases hun
  simp[hlt]
theorem A0b{I:Array Bool->Act->World->Prop}
(hs:∀listed a w i,I listed a w->i∈Region.ready md ops listed->wpOp P ops Q i (λa' w'=>S w'/\I (listed.setIfInBounds i true) a' w') a w)
(he:∀listed a w,I listed a w->Region.ready md ops listed=[]->Q .normal a w) :
  ∀(fuel:Nat) (listed:Array Bool) (a:Act) (w:World),V7a ops listed<=fuel->I listed a w->wpAnyH P md ops Q S fuel listed a w
 | 0,listed,a,w,hf,hI=>by
  have h0:Region.ready md ops listed=[]:=by
   cases hr:Region.ready md ops listed with
   | nil=>rfl
   | cons i r=>have:=I8a (md:=md) (ops:=ops) (listed:=listed) (i:=i) (by rw[hr];exact List.mem_cons_self);omega
  exact⟨h0,he _ _ _ hI h0⟩
 | fuel+1,listed,a,w,hf,hI=>⟨he _ _ _ hI,λi hi=>wpOp_mono (λa' w' h=>⟨h.1,A0b hs he fuel _ _ _ (by have:=I8a hi;omega) h.2⟩) (hs _ _ _ _ hI hi)⟩
theorem P5b{a:Act}{t:Tmp}(h:t<a.tmps.size):a.tmps[t]? = some (a.eval (.tmp t)):=by simp[Act.eval,h]
theorem A3b(a:Act):∀(L:List (Nat×Tmp)) (fr:Act),a.defers=fr.defers->a.tmps.size=fr.tmps.size->(∀t,(∀x∈L,x.2≠t)->a.tmps[t]? = fr.tmps[t]?)->
  L.foldl (λb x=>b.put (some x.2) (a.eval (.tmp x.2))) fr=a
 | [],fr,h1,h2,h3=>by
  obtain⟨T,D⟩:=a;obtain⟨T',D'⟩:=fr;have h:T'=T:=by
   refine Array.ext (by simpa using h2.symm) λi hi hj=>?_
   have:=h3 i (by simp);simp only[Array.getElem?_eq_getElem hi,Array.getElem?_eq_getElem hj] at this;exact(Option.some.inj this).symm
  subst h;cases h1;rfl
 | x::L,fr,h1,h2,h3=>by
  rw[List.foldl_cons];refine A3b a L _ (by simpa[Act.put] using h1) (by simpa[Act.put] using h2) λt ht=>?_
  by_cases hx:x.2=t
  ·subst hx;rcases Nat.lt_or_ge x.2 a.tmps.size with h | h
   ·rw[P5b h];simp[Act.put,<-h2,h]
   ·rw[Array.getElem?_eq_none h,Array.getElem?_eq_none (by simpa[Act.put,<-h2] using h)]
  ·rw[h3 t (by
    intro y hy;rcases List.mem_cons.1 hy with rfl | hy
    ·exact hx
    ·exact ht y hy)]
   simp[Act.put,hx]
def x7b(md:Region.Mode)(ops:Array Oper)(listed:Array Bool)(R:List (Nat×Tmp))(z:Nat):Bool:=
 (List.range ops.size).all (λj=>listed.getD j true||R.any λx=>x.1==j)&&(R.all λx=>(((ops[x.1]?).map (·.dst))==some (some x.2))&&decide (x.2<z) && !listed.getD x.1 true) &&
 decide ((R.map (·.1)).Nodup)&&decide ((R.map (·.2)).Nodup)&&decide (listed.size=ops.size)&&(List.range ops.size).all (λj=>((ops[j]?).map λo=>o.after.all λe=>!Region.binds md e||decide (e.on<j)).getD true)
theorem z6a{α β:Type}{f:α->β}:∀{l:List α},(l.map f).Nodup->∀{x y:α},x∈l->y∈l->f x=f y->x=y
 | [],_,_,_,h,_,_=>absurd h List.not_mem_nil
 | z::l,hn,x,y,hx,hy,he=>by
  rw[List.map_cons,List.nodup_cons] at hn;rcases List.mem_cons.1 hx with h1 | h1<;>rcases List.mem_cons.1 hy with h2 | h2
  ·rw[h1,h2]
  ·exact absurd (List.mem_map.2 ⟨y,h2,by rw[<-he,h1]⟩) hn.1
  ·exact absurd (List.mem_map.2 ⟨x,h1,by rw[he,h2]⟩) hn.1
  ·exact z6a hn.2 h1 h2 he
def waits(md:Region.Mode)(o:Oper)(j:Nat):Bool:=o.after.any λe=>Region.binds md e&&e.on==j
theorem B3a(R:List (Nat×Tmp))(p:Nat->Value->World->Prop)(fr:Act){listed:Array Bool}{w:World}{fuel:Nat}
(hT:x7b md ops listed R fr.tmps.size=true)(hf:V7a ops listed<=fuel)(hS:S w)
(hp:∀i v w w',Below w.heap.size w w'->p i v w->p i v w')
(hs:∀x∈R,∃o,ops[x.1]? = some o/\∀(a:Act) (w:World),S w->(∀t,(R.all λy=>y.2 != t)=true->a.eval (.tmp t)=fr.eval (.tmp t))->
   (∀y∈R,waits md o y.1=true->p y.1 (a.eval (.tmp y.2)) w)->
   ∀K:Act->World->Prop,(∀v w',S w'->Below w.heap.size w w'->p x.1 v w'->K (a.put (some x.2) v) w')->if Region.wanted o (yielded ops a.tmps)=true then o.wp P a w K Q else K (a.put o.dst undef) w)
(he:∀(vs:Tmp->Value) (w:World),S w->(∀x∈R,p x.1 (vs x.2) w)->Q .normal (R.foldl (λb x=>b.put (some x.2) (vs x.2)) fr) w) :
  wpAnyH P md ops Q S fuel listed fr w:=by
 unfold x7b at hT;simp only[Bool.and_eq_true,decide_eq_true_eq,Bool.not_eq_true',List.all_eq_true,List.mem_range,Bool.or_eq_true,List.any_eq_true,beq_iff_eq] at hT;obtain⟨⟨⟨⟨⟨t1,t2⟩,t3⟩,t4⟩,t5⟩,t6⟩:=hT;refine A0b (P:=P) (ops:=ops) (Q:=Q) (md:=md) (S:=S) (I:=λl a w=>S w/\a.defers=fr.defers/\a.tmps.size=fr.tmps.size/\l.size=ops.size/\
   (∀t,(∀y∈R,y.2≠t)->a.tmps[t]? = fr.tmps[t]?)/\(∀y∈R,l.getD y.1 true=true->p y.1 (a.eval (.tmp y.2)) w)/\(∀j,listed.getD j true=true->l.getD j true=true))
  (λl a w i ⟨s0,s1,s2,s3,s4,s5,s6⟩ hi=>?_) (λl a w ⟨s0,s1,s2,s3,s4,s5,s6⟩ hr=>?_) fuel listed fr w hf ⟨hS,rfl,rfl,t5,λ_ _=>rfl,λy hy h=>?_,λ_ h=>h⟩
 ·obtain⟨hun,o,ho,hall⟩:=mem_ready.1 hi;have hlt:i<ops.size:=(Array.getElem?_eq_some_iff.1 ho).1;obtain⟨x,hx,rfl⟩:∃x∈R,x.1=i:=by
   rcases t1 i hlt with h | h
   ·rw[s6 i h] at hun;cases hun
   ·exact h
  obtain⟨⟨hd,hz⟩,_⟩:=t2 x hx;rw[ho,Option.map_some] at hd;have hd':o.dst=some x.2:=Option.some.inj hd;have hev:∀t,(∀y∈R,y.2≠t)->a.eval (.tmp t)=fr.eval (.tmp t):=λt ht=>by have:=s4 t ht;simp only[Act.eval,Array.getD_eq_getD_getElem?,this]
  obtain⟨o',ho',hs⟩:=hs x hx;obtain rfl:o=o':=Option.some.inj (ho.symm.trans ho');have h:=hs a w s0 (λt ht=>hev t λy hy=>by simpa using List.all_eq_true.1 ht y hy) (λy hy hwt=>s5 y hy (by
   unfold waits at hwt;rw[<-Array.any_toList,List.any_eq_true] at hwt;obtain⟨e,he,h3⟩:=hwt;simp only[Bool.and_eq_true,beq_iff_eq] at h3;have h2:=hall e (Array.mem_toList_iff.1 he) h3.1;rw[<-h3.2];have hlt2:e.on<l.size:=by
    rcases Nat.lt_or_ge e.on l.size with h | h
    ·exact h
    ·rw[Array.getD_eq_getD_getElem?,Array.getElem?_eq_none h] at h2;cases h2
   rw[Array.getD_eq_getD_getElem?,Array.getElem?_eq_getElem hlt2] at h2⊢;exact h2)) (λa' w'=>S w'/\(S w'/\a'.defers=fr.defers/\a'.tmps.size=fr.tmps.size/\(l.setIfInBounds x.1 true).size=ops.size/\
   (∀t,(∀y∈R,y.2≠t)->a'.tmps[t]? = fr.tmps[t]?)/\(∀y∈R,(l.setIfInBounds x.1 true).getD y.1 true=true->p y.1 (a'.eval (.tmp y.2)) w')/\(∀j,listed.getD j true=true->(l.setIfInBounds x.1 true).getD j true=true)))
   (λv w' hS' hb hv=>⟨hS',hS',s1,by simpa[Act.put] using s2,by simpa using s3,λt ht=>?_,λy hy hl=>?_,λj hj=>?_⟩)
  ·unfold wpOp;simp only[ho];by_cases hw:Region.wanted o (yielded ops a.tmps)=true
   ·rw[if_pos hw] at h⊢;exact .inl h
   ·rw[if_neg hw] at h⊢;exact h
  ·have hne:=ht x hx;simp only[Act.put];rw[Array.getElem?_setIfInBounds_ne hne];exact s4 t ht
  ·by_cases hxy:x.1=y.1
   ·obtain rfl:=z6a t3 hx hy hxy;have:(a.put (some x.2) v).eval (.tmp x.2)=v:=by simp[Act.put,Act.eval,s2,hz]
    rw[this];exact hv
   ·have hne:x.2≠y.2:=λh=>hxy (by rw[z6a t4 hx hy h])
    have:(a.put (some x.2) v).eval (.tmp y.2)=a.eval (.tmp y.2):=by simp only[Act.put,Act.eval,Array.getD_eq_getD_getElem?,Array.getElem?_setIfInBounds_ne hne]
    rw[this];rw[getD_set_ne true hxy] at hl;exact hp _ _ _ _ hb (s5 y hy hl)
  ·by_cases hxj:x.1=j
   ·subst hxj;have:=s6 _ hj;rw[this] at hun;cases hun
   ·rw[getD_set_ne true hxj];exact s6 j hj
 ·have hall:∀n,∀j,j<n->j<ops.size->l.getD j true=true:=by
   intro n
   induction n with
   | zero=>intro j h;omega
   | succ n ih=>
    intro j hj hjo;by_cases hjn:j<n
    ·exact ih j hjn hjo
    cases hl:l.getD j true with
    | true=>rfl
    | false=>
     have ho:ops[j]? = some ops[j]:=Array.getElem?_eq_getElem hjo;have h6:=t6 j hjo;rw[ho] at h6;simp only[Option.map_some,Option.getD_some] at h6;have:j∈Region.ready md ops l:=mem_ready.2 ⟨hl,ops[j],ho,λe he hb=>by
      have h7:=Array.all_eq_true_iff_forall_mem.1 h6 e he;rw[hb] at h7;have h8:e.on<j:=by simpa using h7
      have h9:=ih e.on (by omega) (by omega);have hlt2:e.on<l.size:=by omega
      rw[Array.getD_eq_getD_getElem?,Array.getElem?_eq_getElem hlt2] at h9⊢;exact h9⟩
     rw[hr] at this;cases this
  have h:=he (λt=>a.eval (.tmp t)) w s0 (λx hx=>s5 x hx (by
   rcases Nat.lt_or_ge x.1 ops.size with h | h
   ·exact hall (x.1+1) x.1 (by omega) h
   ·rw[Array.getD_eq_getD_getElem?,Array.getElem?_eq_none (by omega)];rfl))
  rw[A3b a R fr s1 s2 s4] at h;exact h
 ·rw[(t2 y hy).2] at h;cases h
end
def rowP(n:Nat)(xs:List Int)(v:Value)(w:World):Prop:=∃A c,v=.slice A n c/\Holds w w.heap.size A n c xs
def C4b(m:Nat)(T:TypeId)(vs:List Value)(v:Value)(w:World):Prop:=∃g,v=.slice (some ⟨g,0,none⟩) m m/\Blk w g T vs
def J8a(m:Nat)(X:List Int)(v:Value)(w:World):Prop:=∃g l,v=.slice (some ⟨g,0,none⟩) m m/\S3a w g m (c0b l) (m9a l) (d0b l) (T3a l)/\b0b (m9a l) m<=140737488355328/\R6a (T3a l) m=X
def B0b(T:TypeId)(base:Nat)(xs:List Int)(v:Value)(w:World):Prop:=a1a .u8 T w base v xs
def isP(x v:Value)(_:World):Prop:=v=x
theorem S4a{n:Nat}{xs:List Int}{v:Value}{w w':World}(hb:Below w.heap.size w w'):rowP n xs v w->rowP n xs v w'
 | ⟨A,c,h1,h2⟩=>⟨A,c,h1,h2.over hb⟩
theorem T4a{m:Nat}{T:TypeId}{vs:List Value}{v:Value}{w w':World}(hb:Below w.heap.size w w'):C4b m T vs v w->C4b m T vs v w'
 | ⟨A,h1,h2⟩=>⟨A,h1,h2.over hb⟩
theorem C3a{m:Nat}{X:List Int}{v:Value}{w w':World}(hb:Below w.heap.size w w'):J8a m X v w->J8a m X v w'
 | ⟨A,l,h1,h2,h3⟩=>⟨A,l,h1,h2.over hb,h3⟩
theorem U4a{T:TypeId}{base:Nat}{xs:List Int}{v:Value}{w w':World}(hb:Below w.heap.size w w')(h:B0b T base xs v w):B0b T base xs v w':=a1a.below h hb
theorem T7b:(Tryz.prog.info? 114).map (λi=>(i.zero,i.size))=some (some (.agg (P0a ⟨0,0,0,0⟩).toArray),4):=by kernel_rfl
theorem U7b(g:Nat)(w:World):(Instr.fieldAt 114 (.pointer (some ⟨g,0,none⟩)) 1).run Tryz.prog w=.ok (.pointer (some ⟨g,1,none⟩)) w:=by go_simp
theorem V7b(g:Nat)(w:World):(Instr.fieldAt 114 (.pointer (some ⟨g,0,none⟩)) 2).run Tryz.prog w=.ok (.pointer (some ⟨g,2,none⟩)) w:=by go_simp
theorem W7b(g:Nat)(w:World):(Instr.fieldAt 114 (.pointer (some ⟨g,0,none⟩)) 3).run Tryz.prog w=.ok (.pointer (some ⟨g,3,none⟩)) w:=by go_simp
theorem W3a(w:World)(gl m s:Nat)(vs:List Int)(hB:Blk w gl 25 (vs.map (Value.int .u64)))(hl:vs.length=m)(hm:m<=1000)(hs:B2a (s:Int)=true)(hv:∀x∈vs,0<=x/\x<256^s) :
  Calls Tryz.prog 121 #[.int .i64 (s:Int),.slice (some ⟨gl,0,none⟩) m m] w λe w'=>∃A' c',e=.returned (.slice A' (g2a s vs).length c')/\(a1a .u8 5 w' w.heap.size (.slice A' (g2a s vs).length c') (g2a s vs)/\Holds w' w'.heap.size A' (g2a s vs).length c' (g2a s vs))/\Below w.heap.size w w':=by
 have h:=S9a w gl m s vs hB hl hm hs hv;unfold c9a at h;refine h.mono λe w' ⟨v,h1,h2,h3⟩=>?_
 have hlen:(g2a s vs).length<=281474976710656:=by
  rw[c2b,hl];have hs8:s<=8:=by rcases F1a hs with h | h | h | h<;>omega
  have h1:s*m<=8*1000:=Nat.mul_le_mul hs8 hm;omega
 obtain⟨A',c',rfl,hh⟩:=a1a.holds8 h2 (Z2b s vs) hlen;exact⟨A',c',h1,⟨h2,hh⟩,h3⟩
theorem y7b(s:Nat)(x:Int):g2a s [x]=le x s:=by simp[g2a]
def B3b(w:World)(ls:List m2a)(e:Ending)(w':World):Prop:=∃v,e=.returned v/\a1a .u8 5 w' w.heap.size v (le ls.length 2++(List.replicate 2 0++X1a ls))/\Below w.heap.size w w'
theorem e2b(w:World)(A:Option Addr)(n c:Nat)(ls:List m2a)(h:T0a P0a 4 w w.heap.size A n c ls)(hn:n<=16)(hok:∀l∈ls,l.ok) :
  Calls Tryz.prog 122 #[.slice A n c] w (B3b w ls):=by
 have hl:=h.len;have HH:=hI h;have HOK:=hI hok;have HL:=hI hl;have hnz:IntKind.u64.wrap (n:Int)=(n:Int):=by rw[IntKind.wrap_u64];omega
 have CN0:Hid (∀(w:World) (gl:Nat),Blk w gl 25 [.int .u64 (n:Int)]->Calls Tryz.prog 121 #[.int .i64 2,.slice (some ⟨gl,0,none⟩) 1 1] w λe w'=>∃v,e=.returned v/\a1a .u8 5 w' w.heap.size v (le n 2)/\Below w.heap.size w w'):=λw gl hB=>by have h:=S9a w gl 1 2 [(n:Int)] hB rfl (by decide) (by decide) (λx hx=>by rw[List.mem_singleton.1 hx,show(256:Int)^2=65536 from by decide];omega);unfold c9a at h;rw[y7b] at h;exact h
 have CN8:Hid (∀(x y:Int),(0<=x/\x<=18446744073709551615)->(0<=y/\y<=18446744073709551615)->∀(w:World) (gl:Nat),Blk w gl 25 [.int .u64 x,.int .u64 y]->Calls Tryz.prog 121 #[.int .i64 8,.slice (some ⟨gl,0,none⟩) 2 2] w λe w'=>∃A' c',e=.returned (.slice A' 16 c')/\Holds w' w'.heap.size A' 16 c' (le x 8++le y 8)/\Below w.heap.size w w'):=λx y hx hy w gl hB=>by
  have h:=W3a w gl 2 8 [x,y] hB rfl (by decide) (by decide) (λz hz=>by
   rw[show(256:Int)^8=18446744073709551616 from by decide];rcases List.mem_cons.1 hz with rfl | hz
   ·omega
   ·rw[List.mem_singleton.1 hz];omega)
  have e1:g2a 8 [x,y]=le x 8++le y 8:=by simp[g2a]
  rw[e1,show(le x 8++le y 8).length=16 from by rw[List.length_append,m0a,m0a]] at h;exact h.mono λe w' ⟨A',c',h1,h2,h3⟩=>⟨A',c',h1,h2.2,h3⟩
 have CN2:Hid (∀(x:Int),(0<=x/\x<=65535)->∀(w:World) (gl:Nat),Blk w gl 25 [.int .u64 x]->Calls Tryz.prog 121 #[.int .i64 2,.slice (some ⟨gl,0,none⟩) 1 1] w λe w'=>∃A' c',e=.returned (.slice A' 2 c')/\Holds w' w'.heap.size A' 2 c' (le x 2)/\Below w.heap.size w w'):=λx hx w gl hB=>by have h:=W3a w gl 1 2 [x] hB rfl (by decide) (by decide) (λz hz=>by rw[List.mem_singleton.1 hz,show(256:Int)^2=65536 from by decide];omega);rw[y7b,m0a] at h;exact h.mono λe w' ⟨A',c',h1,h2,h3⟩=>⟨A',c',h1,h2.2,h3⟩
 have CC:Hid (∀(w:World) (gs m:Nat) (A:Nat->Option Addr) (n c:Nat->Nat) (X:Nat->List Int),S3a w gs m A n c X->m<=1000->b0b n m<=140737488355328->Calls Tryz.prog 22 #[.slice (some ⟨gs,0,none⟩) m m] w λe w'=>∃v,e=.returned v/\a1a .u8 5 w' w.heap.size v (R6a X m)/\Below w.heap.size w w'):=Y2a;have HQ:Hid (∀e w',(∃v,e=.returned v/\a1a .u8 5 w' w.heap.size v (le n 2++(List.replicate 2 0++X1a (ls.take n)))/\Below w.heap.size w w')->B3b w ls e w'):=λe w' hh=>by rw[<-HL.out,List.take_length] at hh;exact hh
 have HST:Hid (∀(j:Nat) (l:m2a),ls[j]? = some l->X1a (ls.take (j+1))=X1a (ls.take j)++e1b l):=λj l hx=>by rw[List.take_add_one,hx,Option.toList_some,I9a]
 have HLN:Hid (∀j,j<=n->(le (n:Int) 2++(List.replicate 2 0++X1a (ls.take j))).length<=1000/\Bytes (le (n:Int) 2++(List.replicate 2 0++X1a (ls.take j)))):=λj hj=>by refine⟨?_,(F0a _ _).append ((Bytes.zeros 2).append (r6a _))⟩;rw[List.length_append,List.length_append,N6a,m0a,List.length_replicate,List.length_take];omega
 have H0:Hid (le (n:Int) 2++(List.replicate 2 0++X1a (ls.take 0))=le (n:Int) 2++List.replicate 2 0):=by show _=_;rw[List.take_zero];simp[X1a]
 obtain⟨pre,hpre⟩:∃f:Nat->List Int,f=λj=>le (n:Int) 2++(List.replicate 2 0++X1a (ls.take j)):=⟨_,rfl⟩
 have hpre2:∀j,le (n:Int) 2++(List.replicate 2 0++X1a (ls.take j))=pre j:=λj=>by rw[hpre]
 have HST2:Hid (∀(j:Nat) (l:m2a),ls[j]? = some l->pre (j+1)=pre j++e1b l):=λj l hx=>by
  rw[hpre];show le (n:Int) 2++(List.replicate 2 0++X1a (ls.take (j+1)))=(le (n:Int) 2++(List.replicate 2 0++X1a (ls.take j)))++e1b l
  rw[HST.out j l hx];simp only[List.append_assoc]
 simp only[hpre2] at HLN H0 HQ;have ZK:=hI T7b;have ZKL:Hid ((P0a ⟨0,0,0,0⟩).length=4):=rfl;obtain⟨zk,hzk⟩:∃x,x=P0a ⟨0,0,0,0⟩:=⟨_,rfl⟩;rw[<-hzk] at ZK ZKL;have hle2:(le (n:Int) 2).length=2:=m0a _ _;obtain⟨n2,hn2⟩:∃x,x=le (n:Int) 2:=⟨_,rfl⟩;rw[<-hn2] at CN0 H0 hle2;clear h hl hok hpre hpre2 HST hzk hn2 HL;go_enter Tryz.func122,Tryz.ntmps122;go_wp2_with(first
  | ((with_reducible refine sN 9 ?_);refine K0a rfl _ _ 1 _ rfl Tryz.underlying192 ([.int .u64 (n:Int)]:List Value) (by kernel_rfl) ?_;intro g1 w1 hg1 hg2 K1 L1)
  | fail)
 refine(CN0.out w1 g1 K1.out).mono ?_;rintro e w2 ⟨v2,rfl,hv2,L2⟩;have HV2:=hI (a1a.mono hv2 L1.out.size);have M2:=hI (step L1.out L2);have hs2:=M2.out.size;clear hv2 L2 L1 K1 CN0;go_wp2_with(first
  | (at_builtin;refine u7a rfl (.tmp 10) (.const (.int .i64 2)) rfl w.heap.size 2 _ n2 rfl rfl HV2.out (by decide) (by decide) (by omega) hs2 ?_;intro v3 w3 HV3 L3)
  | fail)
 rw[<-H0.out] at HV3;have M3:=hI (M2.out.trans L3.out);clear HV2 M2 L3 H0 hs2 hle2;go_loopw [3,14] (λv i wr=>∃j:Nat,i=.int .i64 j/\j<=n/\Hid (a1a .u8 5 wr w.heap.size v (pre j))/\Hid (Below w.heap.size w wr)) (λ_ i _=>n-(intOf i).toNat)
 case atStart=>exact⟨0,rfl,Nat.zero_le _,HV3,M3⟩
 case round=>
  obtain⟨j,rfl,hj,HO,HB1⟩:=hrel;by_cases hlt:j<n
  ·have hh:=HH.out.below HB1.out;obtain⟨b,off,rfl,hb,hc⟩:=hh.cells (by omega);obtain⟨l,hx⟩:∃l,ls[j]? = some l:=⟨_,List.getElem?_eq_getElem (by have:=hh.len;omega)⟩;have Rx:Hid (wr.rangeAt b (off+j*4) (P0a l)):=hh.range rfl hlt hx;have hlo:=HOK.out l (List.mem_of_getElem? hx);have HE:=hI (HST2.out j l hx);obtain⟨hln,hlb⟩:=HLN.out j hj;obtain⟨Ab,cb,rfl,hhold⟩:=a1a.holds8 HO.out hlb (by omega);have HOb:=hI hhold;obtain⟨op,x,y,z⟩:=l;have D8:=hI (CN8.out x y hlo.at_ hlo.n);have D2:=hI (CN2.out z hlo.md);obtain⟨z0,z1⟩:=hlo.md;change 0<=z at z0
   change z<=65535 at z1
   have hz:IntKind.u64.wrap z=z:=by rw[IntKind.wrap_u64];omega
   have LX:Hid ((P0a ⟨op,x,y,z⟩).length=4):=rfl;have HX1:Hid (∀v∈P0a ⟨op,x,y,z⟩,v.oneCell'=true):=F7a _;have FX:Hid (∀(w:World) (g:Nat),Blk w g 114 (P0a ⟨op,x,y,z⟩)->w.cell? ⟨g,1,none⟩=some (.int .u64 x)/\w.cell? ⟨g,2,none⟩=some (.int .u64 y)/\w.cell? ⟨g,3,none⟩=some (.int .u16 z)):=λw g h=>⟨h.at rfl,h.at rfl,h.at rfl⟩
   obtain⟨cx,hcx⟩:∃cx,cx=P0a ⟨op,x,y,z⟩:=⟨_,rfl⟩;rw[<-hcx] at Rx LX HX1 FX;have HE2:Hid (pre (j+1)=pre j++(le x 8++le y 8++(le z 2++List.replicate 2 0))):=by
    show _=_
    rw[HE.out];show pre j++(le x 8++(le y 8++(le z 2++List.replicate 2 0)))=_
    simp only[List.append_assoc]
   obtain⟨pj,hpj⟩:∃p,p=pre j:=⟨_,rfl⟩;rw[<-hpj] at HE2 HOb hln hlb⊢;obtain⟨m,hm⟩:∃m,m=pj.length:=⟨_,rfl⟩;rw[<-hm] at HOb hln⊢;obtain⟨xy,hxy⟩:∃p,p=le x 8++le y 8:=⟨_,rfl⟩;obtain⟨zz,hzz⟩:∃p,p=le z 2:=⟨_,rfl⟩;rw[<-hxy] at D8 HE2;rw[<-hzz] at D2 HE2;have hsz:=HB1.out.size;clear hh hc hx hcx hlo HE hpj hm hlb hhold HO hxy hzz;go_upto_region 5 with(first
    | ((with_reducible refine sN 17 ?_);refine p0a rfl _ (.tmp 16) rfl b (off+j*4) rfl cx _ Rx Tryz.underlying114 rfl 4 u5a LX ?_)
    | ((with_reducible refine sN 5 ?_);refine b0a rfl _ rfl zk _ ZK ?_;intro g u1 hg1 hg2 Z1 N1;have HOc:=hI (HOb.out.over N1.out);have HB2:=hI (HB1.out.trans (N1.out.mono hsz)))
    | ((with_reducible refine sT 5 ?_);refine e0a rfl _ (.tmp 5) (.tmp 17) rfl g rfl _ zk cx rfl Z1 4 u5a ZKL LX HX1 ?_;intro u2 Z2 O2 hg3;have N2:=hI (c0a N1.out O2.out hg1);have HOd:=hI (HOb.out.over N2.out);have HB3:=hI (HB1.out.trans (N2.out.mono hsz)))
    | fail)
   have hst:Hid (∀w1 w2:World,(Blk w1 g 114 cx/\Below w.heap.size w w1/\Holds w1 w1.heap.size Ab m cb pj)->Below w1.heap.size w1 w2->(Blk w2 g 114 cx/\Below w.heap.size w w2/\Holds w2 w2.heap.size Ab m cb pj)):=λw1 w2 s hb=>⟨s.1.over hb,step s.2.1 hb,s.2.2.over hb⟩
   refine wp_region_held (S:=λw'=>Blk w' g 114 cx/\Below w.heap.size w w'/\Holds w' w'.heap.size Ab m cb pj) (by kernel_rfl) ?_;change wpAnyH _ _ _ _ _ _ _ _ u2.drew
   have S0:Hid (Blk u2.drew g 114 cx/\Below w.heap.size w u2.drew/\Holds u2.drew u2.drew.heap.size Ab m cb pj):=⟨Z2.out.drew,HB3.out.drew,HOd.out.drew⟩;refine tK 0 _ rfl (t0a (by kernel_rfl) (.tmp 3) rfl (.slice Ab m cb) (by kernel_rfl)) S0.out ?_;refine tK 1 _ rfl (g0a (by kernel_rfl) _ (.tmp 5) 1 rfl (.pointer (some ⟨g,0,none⟩)) (.pointer (some ⟨g,1,none⟩)) (by kernel_rfl) (U7b g)) S0.out ?_;refine tK 2 _ rfl (i0a (by kernel_rfl) _ (.tmp 19) rfl g 1 (by kernel_rfl) (.int .u64 x) (λw h=>(FX.out w g h.1).1) _ Tryz.underlying25 rfl) S0.out ?_;refine tK 3 _ rfl (g0a (by kernel_rfl) _ (.tmp 5) 2 rfl (.pointer (some ⟨g,0,none⟩)) (.pointer (some ⟨g,2,none⟩)) (by kernel_rfl) (V7b g)) S0.out ?_;refine tK 4 _ rfl (i0a (by kernel_rfl) _ (.tmp 21) rfl g 2 (by kernel_rfl) (.int .u64 y) (λw h=>(FX.out w g h.1).2.1) _ Tryz.underlying25 rfl) S0.out ?_;refine tK 7 _ rfl (g0a (by kernel_rfl) _ (.tmp 5) 3 rfl (.pointer (some ⟨g,0,none⟩)) (.pointer (some ⟨g,3,none⟩)) (by kernel_rfl) (W7b g)) S0.out ?_;refine tK 8 _ rfl (i0a (by kernel_rfl) _ (.tmp 25) rfl g 3 (by kernel_rfl) (.int .u16 z) (λw h=>(FX.out w g h.1).2.2) _ Tryz.underlying22 rfl) S0.out ?_;refine tK 9 ((.int .u64 z)) rfl (.inl ⟨by kernel_rfl,λw _=>by go_simp⟩) S0.out ?_;refine y0a λfr1 hfr1=>?_
   have f18:fr1.eval (.tmp 18)=.slice Ab m cb:=by rw[hfr1];kernel_rfl
   have f20:fr1.eval (.tmp 20)=.int .u64 x:=by rw[hfr1];kernel_rfl
   have f22:fr1.eval (.tmp 22)=.int .u64 y:=by rw[hfr1];kernel_rfl
   have f27:fr1.eval (.tmp 27)=.int .u64 z:=by rw[hfr1];kernel_rfl
   refine B3a [(5,23),(6,24),(10,28),(11,29),(12,30),(13,31),(14,32),(15,3)] (λi=>match i with
    | 5=>C4b 2 25 [.int .u64 x,.int .u64 y]
    | 6=>rowP 16 xy
    | 10=>C4b 1 25 [.int .u64 z]
    | 11=>rowP 2 zz
    | 12=>rowP 2 (List.replicate 2 0)
    | 13=>J8a 4 (pj++(xy++(zz++((List.replicate 2 0)))))
    | 14=>B0b 5 w.heap.size (pj++(xy++(zz++((List.replicate 2 0)))))
    | 15=>B0b 5 w.heap.size (pj++(xy++(zz++((List.replicate 2 0)))))
    | _=>λ_ _=>True) fr1 (by rw[hfr1];kernel_rfl) (Nat.le_of_ble_eq_true (by kernel_rfl)) S0.out ?_ ?_ ?_
   ·intro i v w1 w2 hb h;split at h;all_goals first | exact S4a hb h | exact T4a hb h | exact C3a hb h | exact U4a hb h | exact h
   ·refine List.forall_mem_cons.2 ⟨⟨_,rfl,λb w1 s hev hd K hK=>?_⟩,List.forall_mem_cons.2 ⟨⟨_,rfl,λb w1 s hev hd K hK=>?_⟩,List.forall_mem_cons.2 ⟨⟨_,rfl,λb w1 s hev hd K hK=>?_⟩,List.forall_mem_cons.2 ⟨⟨_,rfl,λb w1 s hev hd K hK=>?_⟩,List.forall_mem_cons.2 ⟨⟨_,rfl,λb w1 s hev hd K hK=>?_⟩,List.forall_mem_cons.2 ⟨⟨_,rfl,λb w1 s hev hd K hK=>?_⟩,List.forall_mem_cons.2 ⟨⟨_,rfl,λb w1 s hev hd K hK=>?_⟩,List.forall_mem_cons.2 ⟨⟨_,rfl,λb w1 s hev hd K hK=>?_⟩,λ_ h=>absurd h List.not_mem_nil⟩⟩⟩⟩⟩⟩⟩⟩
    ·have e20:=(hev 20 (by decide)).trans f20;have e22:=(hev 22 (by decide)).trans f22;refine S0a rfl _ _ 2 _ rfl Tryz.underlying192 ([.int .u64 x,.int .u64 y]:List Value) (by simp only[List.map_toArray,List.map_cons,List.map_nil,e20,e22];kernel_rfl) ?_;intro g2 w2 _ _ hY hL;exact hK _ _ (hst.out _ _ s hL.out) hL.out ⟨_,rfl,hY.out⟩
    ·obtain⟨g4,e4,hB⟩:=hd (5,23) (by simp) (by kernel_rfl);simp only[Act.eval,Array.getD_eq_getD_getElem?] at e4;go_simp;refine(D8.out _ _ hB).mono ?_;rintro e w2 ⟨A,c,rfl,hY,hL⟩;exact hK _ _ (hst.out _ _ s hL) hL ⟨_,_,rfl,hY⟩
    ·have e27:=(hev 27 (by decide)).trans f27;refine S0a rfl _ _ 1 _ rfl Tryz.underlying192 ([.int .u64 z]:List Value) (by simp only[List.map_toArray,List.map_cons,List.map_nil,e27];kernel_rfl) ?_;intro g2 w2 _ _ hY hL;exact hK _ _ (hst.out _ _ s hL.out) hL.out ⟨_,rfl,hY.out⟩
    ·obtain⟨g4,e4,hB⟩:=hd (10,28) (by simp) (by kernel_rfl);simp only[Act.eval,Array.getD_eq_getD_getElem?] at e4;go_simp;refine(D2.out _ _ hB).mono ?_;rintro e w2 ⟨A,c,rfl,hY,hL⟩;exact hK _ _ (hst.out _ _ s hL) hL ⟨_,_,rfl,hY⟩
    ·refine b3a rfl _ _ rfl 2 rfl rfl (by omega) ?_;intro w2 hR hL;exact hK _ _ (hst.out _ _ s hL.out) hL.out ⟨_,_,rfl,Y1a.holds (base:=0) (.inr ⟨_,rfl,Nat.zero_le _,hR.out⟩) (by rfl:(List.replicate 2 (0:Int)).length=2) (Bytes.zeros 2) (by omega)⟩
    ·have e18:=(hev 18 (by decide)).trans f18;obtain⟨A1,c1,e24,h1⟩:=hd (6,24) (by simp) (by kernel_rfl);obtain⟨A2,c2,e29,h2⟩:=hd (11,29) (by simp) (by kernel_rfl);obtain⟨A3,c3,e30,h3⟩:=hd (12,30) (by simp) (by kernel_rfl);refine S0a rfl _ _ 4 _ rfl Tryz.underlying93 ([.slice Ab m cb,.slice A1 16 c1,.slice A2 2 c2,.slice A3 2 c3]:List Value) (by simp only[List.map_toArray,List.map_cons,List.map_nil,e18,e24,e29,e30];kernel_rfl) ?_;intro g2 w2 _ _ hY hL;exact hK _ _ (hst.out _ _ s hL.out) hL.out ⟨_,[(Ab,m,cb,pj),(A1,16,c1,xy),(A2,2,c2,zz),(A3,2,c3,(List.replicate 2 0))],rfl,S3a.of_blk _ hY.out (List.forall_mem_cons.2 ⟨s.2.2.over hL.out,List.forall_mem_cons.2 ⟨h1.over hL.out,List.forall_mem_cons.2 ⟨h2.over hL.out,List.forall_mem_cons.2 ⟨h3.over hL.out,λ_ h=>absurd h List.not_mem_nil⟩⟩⟩⟩),by show 0+m+16+2+2<=_;omega,by simp[R6a,T3a,List.append_assoc]⟩
    ·obtain⟨g5,l5,e5,hp5,hn5,hc5⟩:=hd (13,31) (by simp) (by kernel_rfl);simp only[Act.eval,Array.getD_eq_getD_getElem?] at e5;go_simp;refine(CC.out _ g5 4 _ _ _ _ hp5 (by omega) (by omega)).mono ?_;rintro e w2 ⟨v,rfl,hY,hL⟩;exact hK _ _ (hst.out _ _ s hL) hL (by rw[<-hc5];exact hY.mono s.2.1.size)
    ·have h15:(B0b 5 w.heap.size (pj++(xy++(zz++((List.replicate 2 0)))))) (b.eval (.tmp 32)) w1:=hd (14,32) (by simp) (by kernel_rfl);simp only[Act.eval,Array.getD_eq_getD_getElem?] at h15;go_simp;exact hK _ _ s (Below.refl _ _) h15
   ·intro vs w9 s hv;have OUT0:a1a .u8 5 w9 w.heap.size (vs 3) (pj++(xy++(zz++((List.replicate 2 0))))):=hv (15,3) (by simp);obtain⟨v,hv15⟩:∃x,x=vs 3:=⟨_,rfl⟩;rw[<-hv15] at OUT0;have OUT:=hI OUT0;have S9:=hI s.1;have b9:=hI s.2.1;have HB_9:=hI s.2.2;subst hfr1;simp only[List.foldl_cons,List.foldl_nil,<-hv15];obtain⟨y23,hy0⟩:∃x,x=vs 23:=⟨_,rfl⟩;rw[<-hy0];clear hy0;obtain⟨y24,hy0⟩:∃x,x=vs 24:=⟨_,rfl⟩;rw[<-hy0];clear hy0;obtain⟨y28,hy0⟩:∃x,x=vs 28:=⟨_,rfl⟩;rw[<-hy0];clear hy0;obtain⟨y29,hy0⟩:∃x,x=vs 29:=⟨_,rfl⟩;rw[<-hy0];clear hy0;obtain⟨y30,hy0⟩:∃x,x=vs 30:=⟨_,rfl⟩;rw[<-hy0];clear hy0;obtain⟨y31,hy0⟩:∃x,x=vs 31:=⟨_,rfl⟩;rw[<-hy0];clear hy0;obtain⟨y32,hy0⟩:∃x,x=vs 32:=⟨_,rfl⟩;rw[<-hy0];clear hy0;clear hv s vs hst S0 hv15 OUT0 f18 f20 f22 f27;have HO6:=hI (OUT.out);have HO7:Hid (a1a .u8 5 w9 w.heap.size v (pre (j+1))):=by
     show a1a _ _ _ _ _ _
     rw[HE2.out];have h9:=HO6.out;simpa[R6a,T3a,List.append_assoc] using h9
    have HB9:=hI b9.out;clear OUT HO6;go_wp2;go_roundw
    case rel=>exact⟨j+1,by simp,by omega,HO7,HB9⟩
    case measure=>simp[intOf];omega
  ·obtain rfl:j=n:=by omega
   go_wp2;go_ret;exact HQ.out _ _ ⟨_,rfl,HO.out,HB1.out⟩
theorem i0b(w:World)(c:Int)(cs:List Value)(a:m1a)(hc:0<=c/\c<=65535)(ka:a.ok)(ha:b1a w w.heap.size cs a)(hu:a.user.size<=17592186044416/\a.share.size<=17592186044416)(hn:a.locks.length<=4398046511104)(hT:f7a w) :
  Calls Tryz.prog 120 #[.int .u16 c,.agg cs.toArray] w λe w'=>e=.returned (.bool (J5a c a))/\Below w.heap.size w w':=by
 have HL:=hI (ha.len ka);have HT:=hI hT;have hgl:=ka.glen;have hpl:=ka.plen;obtain⟨hu0,hu1⟩:=hu;have CP:Hid (∀(w':World) (ds:List Value) (b:m1a),b.ok->b.user=a.user->b.share=a.share->b1a w' w'.heap.size ds b->Below w.heap.size w w'->Calls Tryz.prog 80 #[.int .u16 13,.agg ds.toArray] w' λe w2=>(∃v er,e=.returned (.tuple #[v,.int .i64 er])/\(er==0)=decide (b=k0a))/\Below w'.heap.size w' w2):=λw' ds b kb h1 h2 hb hL=>by have h:=J9a w' 13 ds b (by decide) kb hb ⟨by rw[h1];exact hu0,by rw[h2];exact hu1⟩ (HT.out.below hL);exact h.mono λe w2 ⟨v,h1,_,h3⟩=>⟨⟨v,_,h1,z3b b⟩,h3⟩
 have kb:=n4b (c:=c) ka;by_cases hk:G1a c=true;rotate_left
 ·have hn0:J5a c a=false:=by unfold J5a;rw[show G1a c=false from by simpa using hk];rfl
  have hk':c≠5/\c≠6/\c≠7/\c≠8/\c≠9/\c≠10:=by refine⟨?_,?_,?_,?_,?_,?_⟩<;>(rintro rfl;exact hk (by decide))
  obtain⟨h5,h6,h7,h8,h9,h10⟩:=hk';have b5:(c==5)=false:=by simpa using h5
  have b6:(c==6)=false:=by simpa using h6
  have b7:(c==7)=false:=by simpa using h7
  have b8:(c==8)=false:=by simpa using h8
  have b9:(c==9)=false:=by simpa using h9
  have b10:(c==10)=false:=by simpa using h10
  rw[hn0];clear hk hn0 h5 h6 h7 h8 h9 h10 ha ka kb CP;go_enter Tryz.func120,Tryz.ntmps120;go_wp2_with(first
   | ((with_reducible refine sN 3 ?_);refine a0a rfl _ (.tmp 1) rfl cs rfl ?_;intro g w1 hg1 hg2 K1 L1)
   | fail)
  go_ret;exact⟨rfl,L1.out⟩
 have hcs:c=5∨c=6∨c=7∨c=8∨c=9∨c=10:=by unfold G1a at hk;simp at hk;omega
 obtain⟨A1,A2,A3,X1,X2,X3,M1,M2,M3,rfl,hA,hX,hM⟩:=ha;have FL:Hid (∀(w:World) (g:Nat),Blk w g 34 (l0a (.slice A1 A2 A3) (.slice X1 X2 X3) (.slice M1 M2 M3) a)->w.cell? ⟨g,62,none⟩=some (.slice M1 M2 M3)):=λw g h=>h.at (j0a ka 13)
 have HM:=hI hM;have hml:M2<=4398046511104:=by rw[<-hM.len];exact hn
 obtain⟨C0,hC0⟩:∃x,x=l0a (.slice A1 A2 A3) (.slice X1 X2 X3) (.slice M1 M2 M3) a:=⟨_,rfl⟩;have HC0:=hI hC0;rw[<-hC0] at HL FL⊢;clear hC0;rcases hcs with h5 | h6 | h7 | h8 | h9 | h10
 ·subst h5;have HI:Hid (∀w':World,Below w.heap.size w w'->b1a w' w'.heap.size (l0a (.slice A1 A2 A3) (.slice X1 X2 X3) (.slice M1 M2 M3) (Z0a 5 a)) (Z0a 5 a)):=λw' hb=>⟨A1,A2,A3,X1,X2,X3,M1,M2,M3,rfl,hA.over hb,hX.over hb,hM.over hb⟩
  have HEQ:Hid (((((((((C0).set 51 (.int .u32 0)).set 52 (.int .u32 0)).set 53 (.int .u32 0)).set 54 (.int .u32 0)).set 55 (.int .u8 0)).set 56 (.int .u8 0)).set 58 (.string .empty)).set 57 (.int .u64 0)=l0a (.slice A1 A2 A3) (.slice X1 X2 X3) (.slice M1 M2 M3) (Z0a 5 a)):=by
   show _=_
   rw[HC0.out];simp only[C9b,D9b,E9b,F9b,q9b,G9b,r9b,B4b,hgl,hpl];try rfl
  have hbu:(Z0a 5 a).user=a.user/\(Z0a 5 a).share=a.share:=⟨rfl,rfl⟩;obtain⟨hbu1,hbu2⟩:=hbu;rw[U7a hk (by decide)];obtain⟨b,hb⟩:∃x,x=Z0a 5 a:=⟨_,rfl⟩;rw[<-hb] at HI HEQ kb hbu1 hbu2⊢;obtain⟨D,hD⟩:∃x,x=l0a (.slice A1 A2 A3) (.slice X1 X2 X3) (.slice M1 M2 M3) b:=⟨_,rfl⟩;rw[<-hD] at HI HEQ;clear hb hD hk ka;go_enter Tryz.func120,Tryz.ntmps120;go_wp2_with(first
   | ((with_reducible refine sN 3 ?_);refine a0a rfl _ (.tmp 1) rfl C0 rfl ?_;intro g w1 hg1 hg2 K1 L1)
   | ((with_reducible refine sT 10 ?_);refine h0a rfl _ (.tmp 10) (.const (.int .u32 0)) rfl g 51 rfl _ C0 (.int .u32 0) rfl K1 (hI (by have:=HL.out;omega)) (by kernel_rfl) rfl ?_;intro w2 K2 O2 hq2;obtain⟨C1,hC1⟩:∃x,x=C0.set 51 (.int .u32 0):=⟨_,rfl⟩;have HC1:=hI hC1;have HL1:Hid (C1.length=69):=(by rw[hC1,List.length_set];exact HL.out);rw[<-hC1] at K2;have L2:=hI (c0a L1.out O2.out hg1);clear hC1)
   | ((with_reducible refine sT 11 ?_);refine h0a rfl _ (.tmp 11) (.const (.int .u32 0)) rfl g 52 rfl _ C1 (.int .u32 0) rfl K2 (hI (by have:=HL1.out;omega)) (by kernel_rfl) rfl ?_;intro w3 K3 O3 hq3;obtain⟨C2,hC2⟩:∃x,x=C1.set 52 (.int .u32 0):=⟨_,rfl⟩;have HC2:=hI hC2;have HL2:Hid (C2.length=69):=(by rw[hC2,List.length_set];exact HL1.out);rw[<-hC2] at K3;have L3:=hI (c0a L2.out O3.out hg1);clear hC2)
   | ((with_reducible refine sT 12 ?_);refine h0a rfl _ (.tmp 12) (.const (.int .u32 0)) rfl g 53 rfl _ C2 (.int .u32 0) rfl K3 (hI (by have:=HL2.out;omega)) (by kernel_rfl) rfl ?_;intro w4 K4 O4 hq4;obtain⟨C3,hC3⟩:∃x,x=C2.set 53 (.int .u32 0):=⟨_,rfl⟩;have HC3:=hI hC3;have HL3:Hid (C3.length=69):=(by rw[hC3,List.length_set];exact HL2.out);rw[<-hC3] at K4;have L4:=hI (c0a L3.out O4.out hg1);clear hC3)
   | ((with_reducible refine sT 13 ?_);refine h0a rfl _ (.tmp 13) (.const (.int .u32 0)) rfl g 54 rfl _ C3 (.int .u32 0) rfl K4 (hI (by have:=HL3.out;omega)) (by kernel_rfl) rfl ?_;intro w5 K5 O5 hq5;obtain⟨C4,hC4⟩:∃x,x=C3.set 54 (.int .u32 0):=⟨_,rfl⟩;have HC4:=hI hC4;have HL4:Hid (C4.length=69):=(by rw[hC4,List.length_set];exact HL3.out);rw[<-hC4] at K5;have L5:=hI (c0a L4.out O5.out hg1);clear hC4)
   | ((with_reducible refine sT 14 ?_);refine h0a rfl _ (.tmp 14) (.const (.int .u8 0)) rfl g 55 rfl _ C4 (.int .u8 0) rfl K5 (hI (by have:=HL4.out;omega)) (by kernel_rfl) rfl ?_;intro w6 K6 O6 hq6;obtain⟨C5,hC5⟩:∃x,x=C4.set 55 (.int .u8 0):=⟨_,rfl⟩;have HC5:=hI hC5;have HL5:Hid (C5.length=69):=(by rw[hC5,List.length_set];exact HL4.out);rw[<-hC5] at K6;have L6:=hI (c0a L5.out O6.out hg1);clear hC5)
   | ((with_reducible refine sT 15 ?_);refine h0a rfl _ (.tmp 15) (.const (.int .u8 0)) rfl g 56 rfl _ C5 (.int .u8 0) rfl K6 (hI (by have:=HL5.out;omega)) (by kernel_rfl) rfl ?_;intro w7 K7 O7 hq7;obtain⟨C6,hC6⟩:∃x,x=C5.set 56 (.int .u8 0):=⟨_,rfl⟩;have HC6:=hI hC6;have HL6:Hid (C6.length=69):=(by rw[hC6,List.length_set];exact HL5.out);rw[<-hC6] at K7;have L7:=hI (c0a L6.out O7.out hg1);clear hC6)
   | ((with_reducible refine sT 16 ?_);refine h0a rfl _ (.tmp 16) (.const (.string .empty)) rfl g 58 rfl _ C6 (.string .empty) rfl K7 (hI (by have:=HL6.out;omega)) (by kernel_rfl) rfl ?_;intro w8 K8 O8 hq8;obtain⟨C7,hC7⟩:∃x,x=C6.set 58 (.string .empty):=⟨_,rfl⟩;have HC7:=hI hC7;have HL7:Hid (C7.length=69):=(by rw[hC7,List.length_set];exact HL6.out);rw[<-hC7] at K8;have L8:=hI (c0a L7.out O8.out hg1);clear hC7)
   | ((with_reducible refine sT 34 ?_);refine h0a rfl _ (.tmp 34) (.const (.int .u64 0)) rfl g 57 rfl _ C7 (.int .u64 0) rfl K8 (hI (by have:=HL7.out;omega)) (by kernel_rfl) rfl ?_;intro w9 K9 O9 hq9;obtain⟨C8,hC8⟩:∃x,x=C7.set 57 (.int .u64 0):=⟨_,rfl⟩;have HC8:=hI hC8;have HL8:Hid (C8.length=69):=(by rw[hC8,List.length_set];exact HL7.out);rw[<-hC8] at K9;have L9:=hI (c0a L8.out O9.out hg1);clear hC8)
   | ((with_reducible refine sN 36 ?_);refine d0a rfl _ (.tmp 3) rfl g rfl _ C8 K9 69 _ Tryz.underlying34 rfl n0a HL8 ?_)
   | fail)
  have HF:Hid (C8=D):=by
   show _=_
   rw[HC8.out,HC7.out,HC6.out,HC5.out,HC4.out,HC3.out,HC2.out,HC1.out];exact HEQ.out
  rw[HF.out];refine(CP.out _ D b kb hbu1 hbu2 (HI.out _ L9.out) L9.out).mono ?_;rintro e v1 ⟨⟨v,er,rfl,her⟩,LQ⟩;have HER:=hI her;have L99:=hI (step L9.out LQ);clear her LQ;go_wp2;go_ret;exact⟨H0a HER.out,L99.out⟩
 ·subst h6;have HI:Hid (∀w':World,Below w.heap.size w w'->b1a w' w'.heap.size (l0a (.slice A1 A2 A3) (.slice X1 X2 X3) (.slice M1 M2 M3) (Z0a 6 a)) (Z0a 6 a)):=λw' hb=>⟨A1,A2,A3,X1,X2,X3,M1,M2,M3,rfl,hA.over hb,hX.over hb,hM.over hb⟩
  have HEQ:Hid ((C0).set 57 (.int .u64 0)=l0a (.slice A1 A2 A3) (.slice X1 X2 X3) (.slice M1 M2 M3) (Z0a 6 a)):=by
   show _=_
   rw[HC0.out];simp only[B4b,hgl,hpl];try rfl
  have hbu:(Z0a 6 a).user=a.user/\(Z0a 6 a).share=a.share:=⟨rfl,rfl⟩;obtain⟨hbu1,hbu2⟩:=hbu;rw[U7a hk (by decide)];obtain⟨b,hb⟩:∃x,x=Z0a 6 a:=⟨_,rfl⟩;rw[<-hb] at HI HEQ kb hbu1 hbu2⊢;obtain⟨D,hD⟩:∃x,x=l0a (.slice A1 A2 A3) (.slice X1 X2 X3) (.slice M1 M2 M3) b:=⟨_,rfl⟩;rw[<-hD] at HI HEQ;clear hb hD hk ka;go_enter Tryz.func120,Tryz.ntmps120;go_wp2_with(first
   | ((with_reducible refine sN 3 ?_);refine a0a rfl _ (.tmp 1) rfl C0 rfl ?_;intro g w1 hg1 hg2 K1 L1)
   | ((with_reducible refine sT 34 ?_);refine h0a rfl _ (.tmp 34) (.const (.int .u64 0)) rfl g 57 rfl _ C0 (.int .u64 0) rfl K1 (hI (by have:=HL.out;omega)) (by kernel_rfl) rfl ?_;intro w2 K2 O2 hq2;obtain⟨C1,hC1⟩:∃x,x=C0.set 57 (.int .u64 0):=⟨_,rfl⟩;have HC1:=hI hC1;have HL1:Hid (C1.length=69):=(by rw[hC1,List.length_set];exact HL.out);rw[<-hC1] at K2;have L2:=hI (c0a L1.out O2.out hg1);clear hC1)
   | ((with_reducible refine sN 36 ?_);refine d0a rfl _ (.tmp 3) rfl g rfl _ C1 K2 69 _ Tryz.underlying34 rfl n0a HL1 ?_)
   | fail)
  have HF:Hid (C1=D):=by
   show _=_
   rw[HC1.out];exact HEQ.out
  rw[HF.out];refine(CP.out _ D b kb hbu1 hbu2 (HI.out _ L2.out) L2.out).mono ?_;rintro e v1 ⟨⟨v,er,rfl,her⟩,LQ⟩;have HER:=hI her;have L99:=hI (step L2.out LQ);clear her LQ;go_wp2;go_ret;exact⟨H0a HER.out,L99.out⟩
 ·subst h7;have HI:Hid (∀w':World,Below w.heap.size w w'->b1a w' w'.heap.size (l0a (.slice A1 A2 A3) (.slice X1 X2 X3) (.slice M1 M2 M3) (Z0a 7 a)) (Z0a 7 a)):=λw' hb=>⟨A1,A2,A3,X1,X2,X3,M1,M2,M3,rfl,hA.over hb,hX.over hb,hM.over hb⟩
  have HEQ:Hid ((C0).set 57 (.int .u64 0)=l0a (.slice A1 A2 A3) (.slice X1 X2 X3) (.slice M1 M2 M3) (Z0a 7 a)):=by
   show _=_
   rw[HC0.out];simp only[B4b,hgl,hpl];try rfl
  have hbu:(Z0a 7 a).user=a.user/\(Z0a 7 a).share=a.share:=⟨rfl,rfl⟩;obtain⟨hbu1,hbu2⟩:=hbu;rw[U7a hk (by decide)];obtain⟨b,hb⟩:∃x,x=Z0a 7 a:=⟨_,rfl⟩;rw[<-hb] at HI HEQ kb hbu1 hbu2⊢;obtain⟨D,hD⟩:∃x,x=l0a (.slice A1 A2 A3) (.slice X1 X2 X3) (.slice M1 M2 M3) b:=⟨_,rfl⟩;rw[<-hD] at HI HEQ;clear hb hD hk ka;go_enter Tryz.func120,Tryz.ntmps120;go_wp2_with(first
   | ((with_reducible refine sN 3 ?_);refine a0a rfl _ (.tmp 1) rfl C0 rfl ?_;intro g w1 hg1 hg2 K1 L1)
   | ((with_reducible refine sT 34 ?_);refine h0a rfl _ (.tmp 34) (.const (.int .u64 0)) rfl g 57 rfl _ C0 (.int .u64 0) rfl K1 (hI (by have:=HL.out;omega)) (by kernel_rfl) rfl ?_;intro w2 K2 O2 hq2;obtain⟨C1,hC1⟩:∃x,x=C0.set 57 (.int .u64 0):=⟨_,rfl⟩;have HC1:=hI hC1;have HL1:Hid (C1.length=69):=(by rw[hC1,List.length_set];exact HL.out);rw[<-hC1] at K2;have L2:=hI (c0a L1.out O2.out hg1);clear hC1)
   | ((with_reducible refine sN 36 ?_);refine d0a rfl _ (.tmp 3) rfl g rfl _ C1 K2 69 _ Tryz.underlying34 rfl n0a HL1 ?_)
   | fail)
  have HF:Hid (C1=D):=by
   show _=_
   rw[HC1.out];exact HEQ.out
  rw[HF.out];refine(CP.out _ D b kb hbu1 hbu2 (HI.out _ L2.out) L2.out).mono ?_;rintro e v1 ⟨⟨v,er,rfl,her⟩,LQ⟩;have HER:=hI her;have L99:=hI (step L2.out LQ);clear her LQ;go_wp2;go_ret;exact⟨H0a HER.out,L99.out⟩
 ·subst h8;have HI:Hid (∀w':World,Below w.heap.size w w'->b1a w' w'.heap.size (l0a (.slice A1 A2 A3) (.slice X1 X2 X3) (.slice M1 M2 M3) (Z0a 8 a)) (Z0a 8 a)):=λw' hb=>⟨A1,A2,A3,X1,X2,X3,M1,M2,M3,rfl,hA.over hb,hX.over hb,hM.over hb⟩
  have HEQ:Hid ((((C0).set 59 (.int .u64 0)).set 60 (.int .u32 0)).set 57 (.int .u64 0)=l0a (.slice A1 A2 A3) (.slice X1 X2 X3) (.slice M1 M2 M3) (Z0a 8 a)):=by
   show _=_
   rw[HC0.out];simp only[s9b,H9b,B4b,hgl,hpl];try rfl
  have hbu:(Z0a 8 a).user=a.user/\(Z0a 8 a).share=a.share:=⟨rfl,rfl⟩;obtain⟨hbu1,hbu2⟩:=hbu;rw[U7a hk (by decide)];obtain⟨b,hb⟩:∃x,x=Z0a 8 a:=⟨_,rfl⟩;rw[<-hb] at HI HEQ kb hbu1 hbu2⊢;obtain⟨D,hD⟩:∃x,x=l0a (.slice A1 A2 A3) (.slice X1 X2 X3) (.slice M1 M2 M3) b:=⟨_,rfl⟩;rw[<-hD] at HI HEQ;clear hb hD hk ka;go_enter Tryz.func120,Tryz.ntmps120;go_wp2_with(first
   | ((with_reducible refine sN 3 ?_);refine a0a rfl _ (.tmp 1) rfl C0 rfl ?_;intro g w1 hg1 hg2 K1 L1)
   | ((with_reducible refine sT 22 ?_);refine h0a rfl _ (.tmp 22) (.const (.int .u64 0)) rfl g 59 rfl _ C0 (.int .u64 0) rfl K1 (hI (by have:=HL.out;omega)) (by kernel_rfl) rfl ?_;intro w2 K2 O2 hq2;obtain⟨C1,hC1⟩:∃x,x=C0.set 59 (.int .u64 0):=⟨_,rfl⟩;have HC1:=hI hC1;have HL1:Hid (C1.length=69):=(by rw[hC1,List.length_set];exact HL.out);rw[<-hC1] at K2;have L2:=hI (c0a L1.out O2.out hg1);clear hC1)
   | ((with_reducible refine sT 23 ?_);refine h0a rfl _ (.tmp 23) (.const (.int .u32 0)) rfl g 60 rfl _ C1 (.int .u32 0) rfl K2 (hI (by have:=HL1.out;omega)) (by kernel_rfl) rfl ?_;intro w3 K3 O3 hq3;obtain⟨C2,hC2⟩:∃x,x=C1.set 60 (.int .u32 0):=⟨_,rfl⟩;have HC2:=hI hC2;have HL2:Hid (C2.length=69):=(by rw[hC2,List.length_set];exact HL1.out);rw[<-hC2] at K3;have L3:=hI (c0a L2.out O3.out hg1);clear hC2)
   | ((with_reducible refine sT 34 ?_);refine h0a rfl _ (.tmp 34) (.const (.int .u64 0)) rfl g 57 rfl _ C2 (.int .u64 0) rfl K3 (hI (by have:=HL2.out;omega)) (by kernel_rfl) rfl ?_;intro w4 K4 O4 hq4;obtain⟨C3,hC3⟩:∃x,x=C2.set 57 (.int .u64 0):=⟨_,rfl⟩;have HC3:=hI hC3;have HL3:Hid (C3.length=69):=(by rw[hC3,List.length_set];exact HL2.out);rw[<-hC3] at K4;have L4:=hI (c0a L3.out O4.out hg1);clear hC3)
   | ((with_reducible refine sN 36 ?_);refine d0a rfl _ (.tmp 3) rfl g rfl _ C3 K4 69 _ Tryz.underlying34 rfl n0a HL3 ?_)
   | fail)
  have HF:Hid (C3=D):=by
   show _=_
   rw[HC3.out,HC2.out,HC1.out];exact HEQ.out
  rw[HF.out];refine(CP.out _ D b kb hbu1 hbu2 (HI.out _ L4.out) L4.out).mono ?_;rintro e v1 ⟨⟨v,er,rfl,her⟩,LQ⟩;have HER:=hI her;have L99:=hI (step L4.out LQ);clear her LQ;go_wp2;go_ret;exact⟨H0a HER.out,L99.out⟩
 ·subst h9;have HI:Hid (∀w':World,Below w.heap.size w w'->b1a w' w'.heap.size (l0a (.slice A1 A2 A3) (.slice none 0 0) (.slice M1 M2 M3) (Z0a 9 a)) (Z0a 9 a)):=λw' hb=>⟨A1,A2,A3,none,0,0,M1,M2,M3,rfl,hA.over hb,Holds.nil _ _,hM.over hb⟩
  have HEQ:Hid ((((C0).set 59 (.int .u64 0)).set 61 (.slice none 0 0)).set 57 (.int .u64 0)=l0a (.slice A1 A2 A3) (.slice none 0 0) (.slice M1 M2 M3) (Z0a 9 a)):=by
   show _=_
   rw[HC0.out];simp only[s9b,f9b,B4b,hgl,hpl];try rfl
  have hbu:(Z0a 9 a).user=a.user/\(Z0a 9 a).share=a.share:=⟨rfl,rfl⟩;obtain⟨hbu1,hbu2⟩:=hbu;rw[U7a hk (by decide)];obtain⟨b,hb⟩:∃x,x=Z0a 9 a:=⟨_,rfl⟩;rw[<-hb] at HI HEQ kb hbu1 hbu2⊢;obtain⟨D,hD⟩:∃x,x=l0a (.slice A1 A2 A3) (.slice none 0 0) (.slice M1 M2 M3) b:=⟨_,rfl⟩;rw[<-hD] at HI HEQ;clear hb hD hk ka;go_enter Tryz.func120,Tryz.ntmps120;go_wp2_with(first
   | ((with_reducible refine sN 3 ?_);refine a0a rfl _ (.tmp 1) rfl C0 rfl ?_;intro g w1 hg1 hg2 K1 L1)
   | ((with_reducible refine sT 26 ?_);refine h0a rfl _ (.tmp 26) (.const (.int .u64 0)) rfl g 59 rfl _ C0 (.int .u64 0) rfl K1 (hI (by have:=HL.out;omega)) (by kernel_rfl) rfl ?_;intro w2 K2 O2 hq2;obtain⟨C1,hC1⟩:∃x,x=C0.set 59 (.int .u64 0):=⟨_,rfl⟩;have HC1:=hI hC1;have HL1:Hid (C1.length=69):=(by rw[hC1,List.length_set];exact HL.out);rw[<-hC1] at K2;have L2:=hI (c0a L1.out O2.out hg1);clear hC1)
   | ((with_reducible refine sT 27 ?_);refine h0a rfl _ (.tmp 27) (.const (.slice none 0 0)) rfl g 61 rfl _ C1 (.slice none 0 0) rfl K2 (hI (by have:=HL1.out;omega)) (by kernel_rfl) rfl ?_;intro w3 K3 O3 hq3;obtain⟨C2,hC2⟩:∃x,x=C1.set 61 (.slice none 0 0):=⟨_,rfl⟩;have HC2:=hI hC2;have HL2:Hid (C2.length=69):=(by rw[hC2,List.length_set];exact HL1.out);rw[<-hC2] at K3;have L3:=hI (c0a L2.out O3.out hg1);clear hC2)
   | ((with_reducible refine sT 34 ?_);refine h0a rfl _ (.tmp 34) (.const (.int .u64 0)) rfl g 57 rfl _ C2 (.int .u64 0) rfl K3 (hI (by have:=HL2.out;omega)) (by kernel_rfl) rfl ?_;intro w4 K4 O4 hq4;obtain⟨C3,hC3⟩:∃x,x=C2.set 57 (.int .u64 0):=⟨_,rfl⟩;have HC3:=hI hC3;have HL3:Hid (C3.length=69):=(by rw[hC3,List.length_set];exact HL2.out);rw[<-hC3] at K4;have L4:=hI (c0a L3.out O4.out hg1);clear hC3)
   | ((with_reducible refine sN 36 ?_);refine d0a rfl _ (.tmp 3) rfl g rfl _ C3 K4 69 _ Tryz.underlying34 rfl n0a HL3 ?_)
   | fail)
  have HF:Hid (C3=D):=by
   show _=_
   rw[HC3.out,HC2.out,HC1.out];exact HEQ.out
  rw[HF.out];refine(CP.out _ D b kb hbu1 hbu2 (HI.out _ L4.out) L4.out).mono ?_;rintro e v1 ⟨⟨v,er,rfl,her⟩,LQ⟩;have HER:=hI her;have L99:=hI (step L4.out LQ);clear her LQ;go_wp2;go_ret;exact⟨H0a HER.out,L99.out⟩
 ·subst h10;have HI:Hid (∀w':World,Below w.heap.size w w'->b1a w' w'.heap.size (l0a (.slice A1 A2 A3) (.slice X1 X2 X3) (.slice none 0 0) (Z0a 10 a)) (Z0a 10 a)):=λw' hb=>⟨A1,A2,A3,X1,X2,X3,none,0,0,rfl,hA.over hb,hX.over hb,T0a.nil _ _ _ _⟩
  have HEQ:Hid (((C0).set 62 (.slice none 0 0)).set 57 (.int .u64 0)=l0a (.slice A1 A2 A3) (.slice X1 X2 X3) (.slice none 0 0) (Z0a 10 a)):=by
   show _=_
   rw[HC0.out];simp only[g9b,B4b,hgl,hpl];try rfl
  have hbu:(Z0a 10 a).user=a.user/\(Z0a 10 a).share=a.share:=⟨rfl,rfl⟩;obtain⟨hbu1,hbu2⟩:=hbu;have CC:Hid (∀w',Below w.heap.size w w'->Calls Tryz.prog 166 #[.slice M1 M2 M3,.func (.func 167) #[] #[]] w' λe w2=>e=.returned (.bool (!shut a.locks))/\Below w'.heap.size w' w2):=λw' hb=>q1b w' M1 M2 M3 a.locks (HM.out.over hb) hml
  have hnf:J5a 10 a=(decide (Z0a 10 a=k0a)&&shut a.locks):=by unfold J5a;rw[hk,Bool.true_and]
  rw[hnf];obtain⟨b,hb⟩:∃x,x=Z0a 10 a:=⟨_,rfl⟩;rw[<-hb] at HI HEQ kb hbu1 hbu2⊢;obtain⟨D,hD⟩:∃x,x=l0a (.slice A1 A2 A3) (.slice X1 X2 X3) (.slice none 0 0) b:=⟨_,rfl⟩;rw[<-hD] at HI HEQ;clear hb hD hk ka;by_cases hs:shut a.locks=true;rotate_left
  ·have hsf:shut a.locks=false:=by simpa using hs
   rw[hsf,Bool.and_false];rw[hsf] at CC;clear hs hsf;go_enter Tryz.func120,Tryz.ntmps120;go_wp2_with(first
    | ((with_reducible refine sN 3 ?_);refine a0a rfl _ (.tmp 1) rfl C0 rfl ?_;intro g w1 hg1 hg2 K1 L1;have cl:=FL.out w1 g K1.out)
    | fail)
   refine(CC.out w1 L1.out).mono ?_;rintro e v1 ⟨rfl,L9⟩;go_wp2;go_ret;exact⟨rfl,step L1.out L9⟩
  ·rw[hs,Bool.and_true];rw[hs] at CC;clear hs;go_enter Tryz.func120,Tryz.ntmps120;go_wp2_with(first
    | ((with_reducible refine sN 3 ?_);refine a0a rfl _ (.tmp 1) rfl C0 rfl ?_;intro g w1 hg1 hg2 K1 L1;have cl:=FL.out w1 g K1.out)
    | fail)
   refine(CC.out w1 L1.out).mono ?_;rintro e v0 ⟨rfl,L9⟩;have Kx:=hI (K1.out.over L9);have Lx:=hI (step L1.out L9);clear L9 cl K1 L1;have K1:=Kx;have L1:=Lx;clear Kx Lx;go_wp2_with(first
    | ((with_reducible refine sT 33 ?_);refine h0a rfl _ (.tmp 33) (.const (.slice none 0 0)) rfl g 62 rfl _ C0 (.slice none 0 0) rfl K1 (hI (by have:=HL.out;omega)) (by kernel_rfl) rfl ?_;intro w2 K2 O2 hq2;obtain⟨C1,hC1⟩:∃x,x=C0.set 62 (.slice none 0 0):=⟨_,rfl⟩;have HC1:=hI hC1;have HL1:Hid (C1.length=69):=(by rw[hC1,List.length_set];exact HL.out);rw[<-hC1] at K2;have L2:=hI (c0a L1.out O2.out hg1);clear hC1)
    | ((with_reducible refine sT 34 ?_);refine h0a rfl _ (.tmp 34) (.const (.int .u64 0)) rfl g 57 rfl _ C1 (.int .u64 0) rfl K2 (hI (by have:=HL1.out;omega)) (by kernel_rfl) rfl ?_;intro w3 K3 O3 hq3;obtain⟨C2,hC2⟩:∃x,x=C1.set 57 (.int .u64 0):=⟨_,rfl⟩;have HC2:=hI hC2;have HL2:Hid (C2.length=69):=(by rw[hC2,List.length_set];exact HL1.out);rw[<-hC2] at K3;have L3:=hI (c0a L2.out O3.out hg1);clear hC2)
    | ((with_reducible refine sN 36 ?_);refine d0a rfl _ (.tmp 3) rfl g rfl _ C2 K3 69 _ Tryz.underlying34 rfl n0a HL2 ?_)
    | fail)
   have HF:Hid (C2=D):=by
    show _=_
    rw[HC2.out,HC1.out];exact HEQ.out
   rw[HF.out];refine(CP.out _ D b kb hbu1 hbu2 (HI.out _ L3.out) L3.out).mono ?_;rintro e v1 ⟨⟨v,er,rfl,her⟩,LQ⟩;have HER:=hI her;have L99:=hI (step L3.out LQ);clear her LQ;go_wp2;go_ret;exact⟨H0a HER.out,L99.out⟩
end Go.Proofs.YtgfflnjggnadpaaGreatDoor
