import Derived.Lib.LaidU8T
import Derived.Deep.DeepHandedRow
import Derived.Test.YtdgpbhdihhchgaaGreatDoorSAE
import Derived.Test.YtdgpbhdihhchgaaGreatDoorS0
set_option linter.all false
set_option maxHeartbeats 8000000
set_option maxRecDepth 100000
namespace Go.Proofs.YtdgpbhdihhchgaaGreatDoor
set_option maxRecDepth 100000
open Go.RowKit
theorem f9a{w w1 w2:World}{g:Nat}(a:S1a g w w1)(b:S1a g w1 w2):S1a g w w2:=⟨b.os.trans a.os,b.tape.trans a.tape,b.output.trans a.output,b.size.trans a.size,λj hj=>(b.rest j hj).trans (a.rest j hj)⟩
theorem o6b{α:Type}{L X:List α}{a:Nat}(ha:a<=L.length):(splice L a X).take a=L.take a:=by unfold splice;rw[List.take_append_of_le_length (by rw[List.length_take];omega),List.take_take,Nat.min_self]
theorem K2b{α:Type}(L:List α)(o:Nat):splice L o []=L:=by simp[splice]
theorem g9a:(Tryz.prog.info? 158).map (λi=>(i.zero,i.size))=some (some (.agg #[.int .i64 0,.slice none 0 0]),2):=by kernel_rfl
theorem u8b(w:World)(base:Nat)(A:Option Addr)(n c i:Nat)(l:List O2a)(ho:j1a t0a 2 158 w base (.slice A n c) l)(hi:i<=n)(hn:l.length=n)(hn2:n<=65536) :
  Calls Tryz.prog 125 #[.slice A n c,.int .i64 (i:Nat),.int .i64 (n:Nat)] w λe w'=>e=.returned (.slice A i c)/\j1a t0a 2 158 w' base (.slice A i c) (l.take i)/\g0a (λj=>(Value.slice A n c).ownBlock=some j) w w':=by
 by_cases hin:i=n
 ·subst hin;have hl:l.take i=l:=List.take_of_length_le (by omega);rw[hl];have HO:=hI ho;rcases A with _ | ad
  ·have hc:i=0/\c=0:=by
    rcases ho.2 with⟨h1,_⟩ | ⟨g,cap,cur,h1,_⟩
    ·injection h1 with _ h2 h3
     exact⟨h2,h3⟩
    ·injection h1 with h2
     cases h2
   obtain⟨rfl,rfl⟩:=hc;clear ho hl;go_enter Tryz.func125,Tryz.ntmps125;go_wp2_with fail;go_ret;exact⟨rfl,HO.out,g0a.refl _ _⟩
  ·have hic:i<=c:=by
    rcases ho.2 with⟨h1,_⟩ | ⟨g,cap,cur,h1,_,_,h2,_⟩
    ·cases h1
    ·injection h1 with _ h3 h4
     omega
   have hcm:c<=9223372036854775807:=by
    rcases ho.2 with⟨h1,_⟩ | ⟨g,cap,cur,h1,_,_,_,h2,_⟩
    ·cases h1
    ·injection h1 with _ h3 h4
     unfold maxLen at h2;omega
   clear ho hl;go_enter Tryz.func125,Tryz.ntmps125;go_wp2_with fail;all_goals go_ret
   all_goals exact⟨rfl,HO.out,g0a.refl _ _⟩
 ·obtain⟨g,c',hg⟩:=ho.form (show 0<l.length by omega);obtain rfl:A=some ⟨g,0,none⟩:=by injection hg
  clear hg;obtain⟨hb,hln,hnc,hcm,cs,hB,hcl,htk⟩:=ho.blk;have hcm':c<=9223372036854775807:=by unfold maxLen at hcm;omega
  have HB0:=hI hB;have HL:=hI hcl;have HT:=hI htk;have HLN:=hI hln;have hic:¬c=i:=by omega
  have hic2:i<=c:=by omega
  have hc0:¬c=0:=by omega
  have hne:¬(i:Int)=(n:Int):=by omega
  have hsplit:Hid (n*2<=c*2):=by show _<=_;omega
  clear hB hcl htk ho hln hn;have fin:Hid (∀w2 zs,zs.length=(n-i)*2->Blk w2 g 158 (splice (splice cs (i*2) []) (i*2) zs)->S1a g w w2->j1a t0a 2 158 w2 base (.slice (some ⟨g,0,none⟩) i c) (l.take i)/\g0a (λj=>(Value.slice (some ⟨g,0,none⟩) n c).ownBlock=some j) w w2):=λw2 zs hz h1 h2=>by
   rw[K2b] at h1;refine⟨j1a.of_blk D0a hb h1 ?_ hcm ?_ (by omega) ?_,(g0a.of_only h2).mono λj _ hj=>by rw[hj];rfl⟩
   ·rw[length_splice _ _ _ (by rw[hz,HL.out];omega),HL.out]
   ·rw[List.length_take,HLN.out];omega
   ·have h3:(splice cs (i*2) zs).take (i*2)=cs.take (i*2):=by unfold splice;rw[List.take_append_of_le_length (by rw[List.length_take,HL.out];omega),List.take_take,Nat.min_self]
    have h4:=congrArg (List.take (i*2)) HT.out;rw[List.take_take,Nat.min_eq_left (by omega)] at h4;rw[h3,h4]
    conv=>lhs;rw[<-List.take_append_drop i l]
    rw[List.flatMap_append,List.take_left' (by rw[C1a D0a,List.length_take,HLN.out];omega)]
  have one:∀v∈(Value.agg #[.int .i64 0,.slice none 0 0]).cells,v.oneCell'=true:=by decide
  have ha1:Hid (i*2+0*2<=cs.length):=by show _<=_;rw[HL.out];omega
  have ha2:Hid (i*2+(n-i)*2<=(splice cs (i*2) []).length):=by show _<=_;rw[K2b,HL.out];omega
  by_cases hcn:c=n
  ·obtain rfl:c=n:=hcn;go_enter Tryz.func125,Tryz.ntmps125;go_upto_region 5 with fail
   go_still_tail 6,(by kernel_rfl);change wpList _ _ _ _ _ w.drew
   go_wp2_with(first
    | (at_builtin;refine v2a rfl (.tmp 22) (.tmp 25) 154 158 2 rfl Tryz.underlying154 size_ext _ _ _ _ _ _ _ rfl rfl cs [] HB0.out.drew rfl (λj v h=>by cases h) (by omega) ha1.out (λv h=>by cases h) ?_;intro w1 B1 O1)
    | ((with_reducible show wpList _ _ _ (⟨none,.call _,_,_,_,_⟩::_) _ _);refine p2a rfl (.tmp 31) 154 158 158 2 _ [] rfl Tryz.underlying154 g9a rfl one (by decide) g (i*2) (c-i) _ _ rfl (λ_=>rfl) (splice cs (i*2) []) B1.out ha2.out ?_;intro w2 zs Z2 B2 O2)
    | fail)
   go_ret;obtain⟨r1,r2⟩:=fin.out w2 zs Z2.out B2.out ⟨O2.out.os.trans O1.out.os,O2.out.tape.trans O1.out.tape,O2.out.output.trans O1.out.output,O2.out.size.trans O1.out.size,λj hj=>(O2.out.rest j hj).trans (O1.out.rest j hj)⟩;exact⟨rfl,r1,r2⟩
  ·have hcn':¬c=n:=hcn;go_enter Tryz.func125,Tryz.ntmps125;go_upto_region 5 with fail
   go_still_tail 6,(by kernel_rfl);change wpList _ _ _ _ _ w.drew
   go_wp2_with(first
    | (at_builtin;refine v2a rfl (.tmp 22) (.tmp 25) 154 158 2 rfl Tryz.underlying154 size_ext _ _ _ _ _ _ _ rfl rfl cs [] HB0.out.drew rfl (λj v h=>by cases h) (by omega) ha1.out (λv h=>by cases h) ?_;intro w1 B1 O1)
    | ((with_reducible show wpList _ _ _ (⟨none,.call _,_,_,_,_⟩::_) _ _);refine p2a rfl (.tmp 31) 154 158 158 2 _ [] rfl Tryz.underlying154 g9a rfl one (by decide) g (i*2) (n-i) _ _ rfl (λ_=>rfl) (splice cs (i*2) []) B1.out ha2.out ?_;intro w2 zs Z2 B2 O2)
    | fail)
   go_ret;obtain⟨r1,r2⟩:=fin.out w2 zs Z2.out B2.out ⟨O2.out.os.trans O1.out.os,O2.out.tape.trans O1.out.tape,O2.out.output.trans O1.out.output,O2.out.size.trans O1.out.size,λj hj=>(O2.out.rest j hj).trans (O1.out.rest j hj)⟩;exact⟨rfl,r1,r2⟩
def z5a(w:World)(base:Nat)(v:Value)(l:List O2a)(i j:Nat)(J:O2a)(e:Ending)(w':World):Prop:=∃v',e=.returned v'/\j1a t0a 2 158 w' base v' (l.take i++[J]++l.drop j)/\g0a (λk=>v.ownBlock=some k) w w'/\Z0a w v v'
theorem g0b{L X Y:List Value}{a:Nat}(ha:a<=L.length)(hX:X.length=2)(hY:a+2+Y.length<=L.length):(splice (splice L a X) (a+2) Y).take (a+2+Y.length)=L.take a++X++Y:=by
 have h1:(splice L a X).take (a+2)=L.take a++X:=by unfold splice;rw[<-List.append_assoc,List.take_left' (by rw[List.length_append,List.length_take,hX,Nat.min_eq_left ha])]
 unfold splice at h1⊢;rw[h1,<-List.append_assoc,List.take_left' (by rw[List.length_append,List.length_append,List.length_take,hX,Nat.min_eq_left ha])]
theorem P3b{L X Y:List Value}{a:Nat}(ha:a<=L.length)(hX:X.length=2)(hY:a+2+Y.length<=L.length):(splice (splice L (a+2) Y) a X).take (a+2+Y.length)=L.take a++X++Y:=by
 have h2:(L.take (a+2)).length=a+2:=by rw[List.length_take];omega
 have h1:(splice L (a+2) Y).take a=L.take a:=by unfold splice;rw[List.take_append_of_le_length (by rw[h2];omega),List.take_take,Nat.min_eq_left (by omega)]
 have h3:(splice L (a+2) Y).drop (a+X.length)=Y++L.drop (a+2+Y.length):=by unfold splice;rw[hX,List.drop_left' h2]
 show(List.take a (splice L (a+2) Y)++(X++(splice L (a+2) Y).drop (a+X.length))).take _=_
 rw[h1,h3,<-List.append_assoc,<-List.append_assoc,List.take_left' (by rw[List.length_append,List.length_append,List.length_take,hX,Nat.min_eq_left ha])]
theorem L2b(l:List O2a)(i j n:Nat)(J:O2a)(hn:l.length=n)(hij:i<=j)(hj:j<=n)(cs:List Value)(ht:cs.take (n*2)=l.flatMap t0a) :
  (l.take i++[J]++l.drop j).flatMap t0a=cs.take (i*2)++t0a J++(cs.take (n*2)).drop (j*2):=by
 have h1:(l.take i).flatMap t0a=cs.take (i*2):=by
  have h4:=congrArg (List.take (i*2)) ht;rw[List.take_take,Nat.min_eq_left (by omega)] at h4;rw[h4]
  conv=>rhs;rw[<-List.take_append_drop i l]
  rw[List.flatMap_append,List.take_left' (by rw[C1a D0a,List.length_take,hn];omega)]
 have h2:(l.drop j).flatMap t0a=(cs.take (n*2)).drop (j*2):=by
  rw[ht]
  conv=>rhs;rw[<-List.take_append_drop j l]
  rw[List.flatMap_append,List.drop_left' (by rw[C1a D0a,List.length_take,hn];omega)]
 rw[List.flatMap_append,List.flatMap_append,h1,h2];simp
theorem v8b(w:World)(base:Nat)(A:Option Addr)(n c i vb:Nat)(l:List O2a)(J:O2a)(ho:j1a t0a 2 158 w base (.slice A n c) l)(hi:i<=n)(hn:l.length=n)(hn2:n<=65536)(hb:base<=w.heap.size)
(hv:Blk w vb 158 (t0a J))(hvn:(Value.slice A n c).ownBlock≠some vb) :
  Calls Tryz.prog 165 #[.slice A n c,.int .i64 (i:Nat),.slice (some ⟨vb,0,none⟩) 1 1] w (z5a w base (.slice A n c) l i i J):=by
 have hJ:Hid (∀w2,Blk w2 vb 158 (t0a J)->∀j u,(t0a J)[j]? = some u->w2.cell? ⟨vb,0+j,none⟩=some u):=λw2 h j u hj=>by rw[Nat.zero_add,h.cell,hj]
 have HV:=hI hv;have HO:=hI ho;by_cases hin:i=n
 ·subst hin;have hl:l.take i++[J]++l.drop i=l++[J]:=by rw[List.take_of_length_le (by omega),List.drop_of_length_le (by omega),List.append_nil]
  unfold z5a;rw[hl];have hlen:Hid ((l.length+[J].length)*32<=140737488355328/\l.length+[J].length<=9223372036854775807):=by show _/\_;simp;omega
  have hJ2:Hid (∀w2,Blk w2 vb 158 (t0a J)->∀j u,([J].flatMap t0a)[j]? = some u->w2.cell? ⟨vb,0+j,none⟩=some u):=λw2 h j u hj=>hJ.out w2 h j u (by simpa using hj)
  have hcm:c<=9223372036854775807/\i<=c:=by
   rcases ho.2 with⟨h1,_⟩ | ⟨g,cap,cur,h1,_,_,h2,h3,_⟩
   ·injection h1 with _ h3 h4
    omega
   ·injection h1 with _ h4 h5
    unfold maxLen at h3;omega
  obtain⟨hcm,hic⟩:=hcm;clear ho hv hl hJ hvn hn;rcases A with _ | ad
  ·have hc:i=0/\c=0:=by
    rcases HO.out.2 with⟨h1,_⟩ | ⟨g,cap,cur,h1,_⟩
    ·injection h1 with _ h2 h3
     exact⟨h2,h3⟩
    ·injection h1 with h2
     cases h2
   obtain⟨rfl,rfl⟩:=hc;go_enter Tryz.func165,Tryz.ntmps165;go_wp2_with(first
    | (at_builtin;refine G2a rfl (.tmp 23) (.tmp 24) t0a 2 (by decide) D0a U3a (.agg #[.int .i64 0,.slice none 0 0]) rfl 154 158 32 Tryz.underlying154 H3b rfl base _ l rfl HO.out vb 0 1 1 [J] rfl rfl (hJ2.out _ HV.out) hlen.out.1 hlen.out.2 hb ?_;intro v1 w1 O1 S1 W1)
    | fail)
   go_ret;exact⟨_,rfl,O1.out,S1.out,W1.out⟩
  ·go_enter Tryz.func165,Tryz.ntmps165;go_wp2_with(first
    | (at_builtin;refine G2a rfl (.tmp 23) (.tmp 24) t0a 2 (by decide) D0a U3a (.agg #[.int .i64 0,.slice none 0 0]) rfl 154 158 32 Tryz.underlying154 H3b rfl base _ l rfl HO.out vb 0 1 1 [J] rfl rfl (hJ2.out _ HV.out) hlen.out.1 hlen.out.2 hb ?_;intro v1 w1 O1 S1 W1)
    | fail)
   all_goals go_ret
   all_goals exact⟨_,rfl,O1.out,S1.out,W1.out⟩
 ·obtain⟨g,c',hg⟩:=ho.form (show 0<l.length by omega);obtain rfl:A=some ⟨g,0,none⟩:=by injection hg
  clear hg;obtain⟨hbg,hln,hnc,hcm,cs,hB,hcl,htk⟩:=ho.blk;have hcm':c<=9223372036854775807:=by unfold maxLen at hcm;omega
  have hgv:g≠vb:=λh=>hvn (by rw[h];rfl)
  have hparts:=L2b l i i n J hn (Nat.le_refl _) hi cs htk;have hlen3:(l.take i++[J]++l.drop i).length=n+1:=by simp;omega
  obtain⟨L3,hL3⟩:∃L3,L3=l.take i++[J]++l.drop i:=⟨_,rfl⟩;unfold z5a;rw[<-hL3] at hparts hlen3⊢;obtain⟨Y,hY⟩:∃Y,Y=(cs.take (n*2)).drop (i*2):=⟨_,rfl⟩;rw[<-hY] at hparts;have hYl:Y.length=(n-i)*2:=by rw[hY,List.length_drop,List.length_take,hcl];omega
  have hYc:Hid (∀w2,Blk w2 g 158 cs->∀j v,Y[j]? = some v->w2.cell? ⟨g,i*2+j,none⟩=some v):=λw2 h j v hj=>by rw[h.cell,<-hj,hY,List.getElem?_drop,List.getElem?_take,if_pos];have:=(List.getElem?_eq_some_iff.1 hj).1;omega
  have hY1:Hid (∀v∈Y,v.oneCell'=true):=λv hv=>by rw[hY,htk] at hv;obtain⟨y,_,hy⟩:=List.mem_flatMap.1 (List.mem_of_mem_drop hv);exact U3a y v hy
  have HB0:=hI hB;have HL:=hI hcl;have HP:=hI hparts;have H3:=hI hlen3;have HYL:=hI hYl;have hic:¬c=i:=by omega
  have hic2:i<=c:=by omega
  have hc0:¬c=0:=by omega
  have hne:¬(i:Int)=(n:Int):=by omega
  clear hB hcl htk ho hln hn hL3 hY hYl hparts hlen3 hvn hv;have h01:(0:Int)<=(i:Int)+1:=by omega
  have hui:IntKind.i64.wrap ((i:Int)+1)=(i:Int)+1:=by rw[IntKind.wrap_i64];omega
  have htn:((i:Int)+1).toNat=i+1:=by omega
  have fin:Hid (∀w2 q cap cur,base<=q->Blk w2 q 158 cur->cur.length=cap*2->cap<=maxLen->n+1<=cap->cur.take (i*2+2+Y.length)=cs.take (i*2)++t0a J++Y->j1a t0a 2 158 w2 base (.slice (some ⟨q,0,none⟩) (n+1) cap) L3):=λw2 q cap cur h1 h2 h3 h4 h5 h6=>by
   refine j1a.of_blk D0a h1 h2 h3 h4 H3.out h5 ?_;rw[HP.out,<-h6,HYL.out]
   congr 1
   omega
  have one:Hid (∀v∈t0a J,v.oneCell'=true):=U3a J;by_cases hgrow:n+1<=c
  ·have hgt:decide ((c:Int)<(n:Int)+1)=false:=decide_eq_false (by omega);have hin1:¬c=i+1:=by omega
   have hgt2:(n:Int)+1<=(c:Int):=by omega
   have htn2:((n:Int)+1).toNat=n+1:=by omega
   have h02:(0:Int)<=(n:Int)+1:=by omega
   have hnil:n+1-(i+1)=n-i:=by omega
   have hil:(i:Int)<=(n:Int):=by omega
   have hil1:(i:Int)<=(n:Int)+1:=by omega
   have hov:∀lb cb,(callFunc 166 #[.slice (some ⟨vb,0,none⟩) 1 1,.slice (some ⟨g,(i+1)*2,none⟩) lb cb]).run Tryz.prog w=.ok (.value (.bool false)) w:=λlb cb=>by
    rw[run_callFunc_extern Tryz.func166 (by kernel_rfl) (by kernel_rfl) (by kernel_rfl) (e:=Extern.SlicesOverlaps.overlaps #[154,154] #[4]) (by kernel_rfl),
     Lib.run_overlaps_apart w 154 4 158 Tryz.underlying154 2 (λw=>by simp[sizeOf,typeInfo];rfl) ⟨vb,0,none⟩ ⟨g,(i+1)*2,none⟩ 1 1 lb cb (λh=>hgv h.symm) 158 158 2 cs.length (by unfold World.shape?;rw[HV.out];rfl) (by unfold World.shape?;rw[HB0.out];rfl) (by rw[HL.out];omega) (HV.out.frozen 0) (HV.out.frozen 2)]
    rfl
   go_enter Tryz.func165,Tryz.ntmps165;go_upto_region 15 with(simp only[hov])
   have F1:Hid ((i+1)*2+(n-i)*2<=cs.length):=by show _<=_;rw[HL.out];omega
   have F2:Hid (i*2+1*2<=(splice cs ((i+1)*2) Y).length):=by show _<=_;rw[length_splice _ _ _ (by rw[HYL.out,HL.out];omega),HL.out];omega
   go_still_tail 8,(by kernel_rfl);change wpList _ _ _ _ _ w.drew
   go_wp2_with(first
    | ((with_reducible refine sN 77 ?_);go_loud (refine E1a rfl (.tmp 73) (.tmp 76) 154 158 158 2 (n-i) rfl Tryz.underlying154 size_ext _ _ _ _ _ _ _ _ rfl rfl _ Y HB0.out.drew (Nat.min_eq_right (by omega)) HYL.out (hYc.out _ HB0.out.drew) F1.out hY1.out ?_);intro w1 B1 O1;go_loud (have HV1:=hI ((HV.out.drew).only O1.out (λh=>hgv h.symm))))
    | ((with_reducible refine sN 82 ?_);go_loud (refine E1a rfl (.tmp 80) (.tmp 81) 154 158 158 2 1 rfl Tryz.underlying154 size_ext _ _ _ _ _ _ _ _ rfl rfl _ (t0a J) B1.out (Nat.min_eq_left (by omega)) rfl (hJ.out _ HV1.out) F2.out one.out ?_);intro w2 B2 O2)
    | fail)
   go_ret;have q2:S1a g w w2:=⟨O2.out.os.trans O1.out.os,O2.out.tape.trans O1.out.tape,O2.out.output.trans O1.out.output,O2.out.size.trans O1.out.size,λj hj=>(O2.out.rest j hj).trans (O1.out.rest j hj)⟩;have ea:i*2+2=(i+1)*2:=by omega
   have hl1:i*2<=cs.length:=by rw[HL.out];omega
   have hl2:i*2+2+Y.length<=cs.length:=by rw[HL.out,HYL.out];omega
   refine⟨_,rfl,?_,(g0a.of_only q2).mono λj _ hj=>by rw[hj];rfl,λj hj=>.inl hj⟩;refine fin.out w2 g c _ hbg B2.out ?_ hcm (by omega) ?_
   ·rw[length_splice _ _ _ (by rw[length_splice _ _ _ (by rw[HYL.out,HL.out];omega),D0a,HL.out];omega),length_splice _ _ _ (by rw[HYL.out,HL.out];omega),HL.out]
   ·rw[<-ea,P3b hl1 (D0a J) hl2]
  ·obtain⟨k,hk⟩:∃k,n+1=i+k:=⟨n+1-i,by omega⟩;have hk':(n:Int)+1-(i:Int)=(k:Int):=by omega
   have hgt:decide ((c:Int)<(n:Int)+1)=true:=decide_eq_true (by omega);have hlen:Hid ((i+k)*32<=140737488355328):=by show _<=_;omega
   have hfit:Hid (i*2<=cs.length):=by show _<=_;rw[HL.out];omega
   go_enter Tryz.func165,Tryz.ntmps165;go_upto_region 11 with(first
    | (at_builtin;go_loud (refine u5a rfl (.tmp 34) (.tmp 39) 154 3 158 158 2 32 (.agg #[.int .i64 0,.slice none 0 0]) .i64 rfl Tryz.underlying154 Tryz.underlying3 H3b rfl (by decide) g i c k rfl .i64 _ rfl rfl cs HB0.out hfit.out (by omega) (by omega) hlen.out (by omega) ?_);intro w1 h1 cap zs R1 B1 E1 hge hcap L1;go_loud (have hcapi:¬cap=i:=by omega);go_loud (have HV1:=hI (HV.out.over L1.out));go_loud (have HG1:=hI (HB0.out.over L1.out));go_loud (have F1:Hid (i*2+1*2<=(cs.take (i*2)++zs).length):=(by show _<=_;rw[E1.out];omega)))
    | ((with_reducible refine sN 45 ?_);go_loud (refine E1a rfl (.tmp 43) (.tmp 44) 154 158 158 2 1 rfl Tryz.underlying154 size_ext _ _ _ _ _ _ _ _ rfl rfl _ (t0a J) B1.out (Nat.min_eq_left (show 1<=k by omega)) rfl (hJ.out _ HV1.out) F1.out one.out ?_);intro w2 B2 O2)
    | fail)
   have HG2:=hI ((HG1.out.only O2.out (by have:=HB0.out.lt;have:=R1.out.1;omega)).drew);have F2:Hid ((i+1)*2+(n-i)*2<=(splice (cs.take (i*2)++zs) (i*2) (t0a J)).length):=by
    show _<=_
    rw[length_splice _ _ _ (by rw[E1.out,D0a];omega),E1.out];omega
   have hcapu:¬cap=i+1:=by omega
   have hku:i+k-(i+1)=n-i:=by omega
   have h1k:(1:Int)<=(k:Int):=by omega
   have hcap0:¬cap=0:=by omega
   go_still_tail 8,(by kernel_rfl);change wpList _ _ _ _ _ w2.drew
   go_wp2_with(first
    | ((with_reducible refine sN 54 ?_);go_loud (refine E1a rfl (.tmp 50) (.tmp 53) 154 158 158 2 (n-i) rfl Tryz.underlying154 size_ext _ _ _ _ _ _ _ _ rfl rfl _ Y B2.out.drew (Nat.min_self _) HYL.out (hYc.out _ HG2.out) F2.out hY1.out ?_);intro w3 B3 O3)
    | fail)
   go_ret;have q3:Below w.heap.size w w3:=r0a ((r0a L1.out O2.out R1.out.1).trans ((E0a w2 1).mono (Nat.le_trans L1.out.size (Nat.le_of_eq O2.out.size.symm)))) O3.out R1.out.1;have ea:i*2+2=(i+1)*2:=by omega
   have hl1:i*2<=(cs.take (i*2)++zs).length:=by rw[E1.out];omega
   have hl2:i*2+2+Y.length<=(cs.take (i*2)++zs).length:=by rw[E1.out,HYL.out];omega
   refine⟨_,rfl,?_,g0a.of_over _ q3,λj hj=>.inr ?_⟩
   ·rw[<-hk];refine fin.out w3 h1 cap _ (Nat.le_trans hb R1.out.1) B3.out ?_ hcap (by omega) ?_
    ·rw[length_splice _ _ _ (by rw[length_splice _ _ _ (by rw[D0a];omega),HYL.out,E1.out];omega),length_splice _ _ _ (by rw[D0a];omega),E1.out]
    ·rw[<-ea,g0b hl1 (D0a J) hl2,List.take_append_of_le_length (by rw[List.length_take,HL.out];omega),List.take_take,Nat.min_self]
   ·injection hj with hj
    rw[<-hj];exact R1.out.1
theorem p6b(w:World)(base:Nat)(A:Option Addr)(n c i k vb:Nat)(l:List O2a)(J:O2a)(ho:j1a t0a 2 158 w base (.slice A n c) l)(hik:i<=k)(hk:k<=n)(hn:l.length=n)(hn2:n<=65536)(hb:base<=w.heap.size)
(hv:Blk w vb 158 (t0a J))(hvn:(Value.slice A n c).ownBlock≠some vb) :
  Calls Tryz.prog 123 #[.slice A n c,.int .i64 (i:Nat),.int .i64 (k:Nat),.slice (some ⟨vb,0,none⟩) 1 1] w (z5a w base (.slice A n c) l i k J):=by
 have hcm:c<=9223372036854775807/\n<=c:=by
  rcases ho.2 with⟨h1,_⟩ | ⟨g,cap,cur,h1,_,_,h2,h3,_⟩
  ·injection h1 with _ h3 h4
   omega
  ·injection h1 with _ h4 h5
   unfold maxLen at h3;omega
 obtain⟨hcm',hnc'⟩:=hcm;by_cases hin:i=k
 ·subst hin;have CI:=hI (v8b w base A n c i vb l J ho hk hn hn2 hb hv hvn);unfold z5a at CI⊢;clear ho hv hn;rcases A with _ | ad
  ·by_cases hci:c=i
   ·obtain rfl:c=i:=hci;go_enter Tryz.func123,Tryz.ntmps123;go_wp2_with fail;refine CI.out.mono ?_;rintro e w1 ⟨v1,rfl,h1,h2,h3⟩;go_wp2_with fail;go_ret;exact⟨_,rfl,h1,h2,h3⟩
   ·go_enter Tryz.func123,Tryz.ntmps123;go_wp2_with fail;refine CI.out.mono ?_;rintro e w1 ⟨v1,rfl,h1,h2,h3⟩;go_wp2_with fail;go_ret;exact⟨_,rfl,h1,h2,h3⟩
  ·by_cases hci:c=i
   ·obtain rfl:c=i:=hci;go_enter Tryz.func123,Tryz.ntmps123;go_wp2_with fail;refine CI.out.mono ?_;rintro e w1 ⟨v1,rfl,h1,h2,h3⟩;go_wp2_with fail;go_ret;exact⟨_,rfl,h1,h2,h3⟩
   ·go_enter Tryz.func123,Tryz.ntmps123;go_wp2_with fail;refine CI.out.mono ?_;rintro e w1 ⟨v1,rfl,h1,h2,h3⟩;go_wp2_with fail;go_ret;exact⟨_,rfl,h1,h2,h3⟩
 ·obtain⟨g,c',hg⟩:=ho.form (show 0<l.length by omega);obtain rfl:A=some ⟨g,0,none⟩:=by injection hg
  clear hg;obtain⟨hbg,hln,hnc,hcm,cs,hB,hcl,htk⟩:=ho.blk;have hgv:g≠vb:=λh=>hvn (by rw[h];rfl)
  have hparts:=L2b l i k n J hn hik hk cs htk;obtain⟨m,hm⟩:∃m,m=n-k:=⟨_,rfl⟩;obtain⟨t,ht⟩:∃t,t=i+1+m:=⟨_,rfl⟩;have hlen3:(l.take i++[J]++l.drop k).length=t:=by simp;omega
  obtain⟨L3,hL3⟩:∃L3,L3=l.take i++[J]++l.drop k:=⟨_,rfl⟩;unfold z5a;rw[<-hL3] at hparts hlen3⊢;obtain⟨Y,hY⟩:∃Y,Y=(cs.take (n*2)).drop (k*2):=⟨_,rfl⟩;rw[<-hY] at hparts;have hYl:Y.length=m*2:=by rw[hY,List.length_drop,List.length_take,hcl];omega
  have hYc:Hid (∀w2,Blk w2 g 158 (splice cs (i*2) (t0a J))->∀j v,Y[j]? = some v->w2.cell? ⟨g,k*2+j,none⟩=some v):=λw2 h j v hj=>by
   have hjl:=(List.getElem?_eq_some_iff.1 hj).1;rw[h.cell,<-hj,hY,List.getElem?_drop,List.getElem?_take,if_pos (by omega)];unfold splice;have e1:(cs.take (i*2)).length=i*2:=by rw[List.length_take];omega
   rw[List.getElem?_append_right (by omega),e1,List.getElem?_append_right (by rw[D0a];omega),D0a,List.getElem?_drop]
   congr 1
   omega
  have hY1:Hid (∀v∈Y,v.oneCell'=true):=λv hv=>by rw[hY,htk] at hv;obtain⟨y,_,hy⟩:=List.mem_flatMap.1 (List.mem_of_mem_drop hv);exact U3a y v hy
  have hJ:Hid (∀w2,Blk w2 vb 158 (t0a J)->∀j u,(t0a J)[j]? = some u->w2.cell? ⟨vb,0+j,none⟩=some u):=λw2 h j u hj=>by rw[Nat.zero_add,h.cell,hj]
  have HV:=hI hv;have HB0:=hI hB;have HL:=hI hcl;have HP:=hI hparts;have H3:=hI hlen3;have HYL:=hI hYl;have one:Hid (∀v∈t0a J,v.oneCell'=true):=U3a J;have zone:Hid (∀v∈(Value.agg #[.int .i64 0,.slice none 0 0]).cells,v.oneCell'=true):=by show ∀v∈_,_;decide
  have hic:¬c=i:=by omega
  have hic2:i<=c:=by omega
  have hkc:k<=c:=by omega
  have hc0:¬c=0:=by omega
  have hne:¬(i:Int)=(k:Int):=by omega
  have hik':(i:Int)<=(k:Int):=by omega
  have hin':(i:Int)<=(n:Int):=by omega
  have fin:Hid (∀w2 cur,Blk w2 g 158 cur->cur.length=c*2->cur.take (i*2+2+Y.length)=cs.take (i*2)++t0a J++Y->j1a t0a 2 158 w2 base (.slice (some ⟨g,0,none⟩) t c) L3):=λw2 cur h2 h3 h6=>by
   refine j1a.of_blk D0a hbg h2 h3 hcm H3.out (by omega) ?_;rw[HP.out,<-h6,HYL.out]
   congr 1
   omega
  have h01:(0:Int)<=(i:Int)+1:=by omega
  have hui:IntKind.i64.wrap ((i:Int)+1)=(i:Int)+1:=by rw[IntKind.wrap_i64];omega
  have htn:((i:Int)+1).toNat=i+1:=by omega
  have HT:=hI ht;have HM:=hI hm;by_cases hkn:k=n
  ·subst hkn;obtain rfl:m=0:=by omega
   obtain rfl:t=i+1:=by omega
   have F1:Hid (i*2+1*2<=cs.length):=by show _<=_;rw[HL.out];omega
   have e1:(splice cs (i*2) (t0a J)).length=c*2:=by rw[length_splice _ _ _ (by rw[D0a,HL.out];omega),HL.out]
   have e2:(splice cs (i*2) (t0a J)).take (i*2+2)=cs.take (i*2)++t0a J:=by unfold splice;rw[<-List.append_assoc,List.take_left' (by rw[List.length_append,List.length_take,D0a,HL.out];omega)]
   have E1:=hI e1;have E2:=hI e2;have hY0:Hid (Y=[]):=List.eq_nil_of_length_eq_zero (by rw[HYL.out]);clear hB hcl htk ho hln hn hL3 hY hYl hparts hlen3 hvn hv ht hm e1 e2 hik' hin';by_cases hlt:i+1<k
   ·have hd:decide ((i:Int)+1<(k:Int))=true:=decide_eq_true (by omega);have F2:Hid ((i+1)*2+(k-(i+1))*2<=(splice cs (i*2) (t0a J)).length):=by show _<=_;rw[E1.out];omega
    have hci1:¬c=i+1:=by omega
    go_enter Tryz.func123,Tryz.ntmps123;go_wp2_with(first
     | (at_builtin;go_loud (refine v2a rfl (.tmp 32) (.tmp 33) 154 158 2 rfl Tryz.underlying154 size_ext _ _ _ _ _ _ _ rfl rfl cs (t0a J) HB0.out rfl (hJ.out _ HV.out) (by omega) F1.out one.out ?_);intro w1 B1 O1)
     | ((with_reducible show wpList _ _ _ (⟨none,.call _,_,_,_,_⟩::_) _ _);go_loud (refine p2a rfl (.tmp 43) 154 158 158 2 _ [] rfl Tryz.underlying154 g9a rfl zone.out (by decide) g ((i+1)*2) (k-(i+1)) _ _ rfl (λ_=>rfl) _ B1.out F2.out ?_);intro w2 zs Z2 B2 O2)
     | fail)
    go_ret;have q2:S1a g w w2:=f9a O1.out O2.out;refine⟨_,rfl,?_,(g0a.of_only q2).mono λj _ hj=>by rw[hj];rfl,λj hj=>.inl hj⟩;refine fin.out w2 _ B2.out ?_ ?_
    ·rw[length_splice _ _ _ (by rw[E1.out,Z2.out];omega),E1.out]
    ·rw[hY0.out,List.length_nil,Nat.add_zero,List.append_nil,<-E2.out];unfold splice;rw[List.take_append_of_le_length (by rw[List.length_take];have:=E1.out;unfold splice at this;omega),List.take_take,Nat.min_eq_left (by omega)]
   ·obtain rfl:k=i+1:=by omega
    have hd:decide ((i:Int)+1<(i:Int)+1)=false:=decide_eq_false (by omega);go_enter Tryz.func123,Tryz.ntmps123;go_wp2_with(first
     | (at_builtin;go_loud (refine v2a rfl (.tmp 32) (.tmp 33) 154 158 2 rfl Tryz.underlying154 size_ext _ _ _ _ _ _ _ rfl rfl cs (t0a J) HB0.out rfl (hJ.out _ HV.out) (by omega) F1.out one.out ?_);intro w1 B1 O1)
     | fail)
    go_ret;refine⟨_,rfl,?_,(g0a.of_only O1.out).mono λj _ hj=>by rw[hj];rfl,λj hj=>.inl hj⟩;refine fin.out w1 _ B1.out E1.out ?_;rw[hY0.out,List.length_nil,Nat.add_zero,List.append_nil,E2.out]
  ·have hkn':¬(k:Int)=(n:Int):=by omega
   have hkl:(k:Int)<=(n:Int):=by omega
   have hck:¬c=k:=by omega
   have hw1:IntKind.i64.wrap ((i:Int)+1+(m:Int))=(t:Int):=by rw[IntKind.wrap_i64];omega
   have hnk:n-k=m:=hm.symm;have htc:t<=c:=by omega
   have htk2:decide ((c:Int)<(t:Int))=false:=decide_eq_false (by omega);have hle:decide ((i:Int)+1<=(k:Int))=true:=decide_eq_true (by omega);have hci1:¬c=i+1:=by omega
   have hit:(i:Int)<=(t:Int):=by omega
   have hti:1<=t-i:=by omega
   have htn1:t-(i+1)=m:=by omega
   have hit1:(i:Int)+1<=(t:Int):=by omega
   have htle:(t:Int)<=(n:Int):=by omega
   have htnn:t<=n:=by omega
   have F1:Hid (i*2+1*2<=cs.length):=by show _<=_;rw[HL.out];omega
   have e1:(splice cs (i*2) (t0a J)).length=c*2:=by rw[length_splice _ _ _ (by rw[D0a,HL.out];omega),HL.out]
   have F2:Hid ((i+1)*2+m*2<=(splice cs (i*2) (t0a J)).length):=by show _<=_;rw[e1];omega
   have e2:(splice (splice cs (i*2) (t0a J)) ((i+1)*2) Y).length=c*2:=by rw[length_splice _ _ _ (by rw[e1,HYL.out];omega),e1]
   have F3:Hid (t*2+(n-t)*2<=(splice (splice cs (i*2) (t0a J)) ((i+1)*2) Y).length):=by show _<=_;rw[e2];omega
   have E2:=hI e2;have ea:i*2+2=(i+1)*2:=by omega
   have hl1:i*2<=cs.length:=by rw[HL.out];omega
   have hl2:i*2+2+Y.length<=cs.length:=by rw[HL.out,HYL.out];omega
   have e3:=g0b hl1 (D0a J) hl2;rw[ea] at e3;have hyt:(i+1)*2+Y.length=t*2:=by rw[HYL.out];omega
   rw[hyt] at e3;have E3:=hI e3;have hmm:Nat.min m m=m:=Nat.min_self m;have fin2:Hid (∀w2 zs,zs.length=(n-t)*2->Blk w2 g 158 (splice (splice (splice cs (i*2) (t0a J)) ((i+1)*2) Y) (t*2) zs)->j1a t0a 2 158 w2 base (.slice (some ⟨g,0,none⟩) t c) L3):=λw2 zs hz h2=>by
    refine fin.out w2 _ h2 ?_ ?_
    ·rw[length_splice _ _ _ (by rw[E2.out,hz];omega),E2.out]
    ·rw[ea,hyt,<-E3.out,o6b (by rw[E2.out];omega)]
   clear hB hcl htk ho hln hn hL3 hY hYl hparts hlen3 hvn hv ht hm e1 e2 e3 hyt hl1 hl2 ea hik' hin';by_cases hct:c=t
   ·obtain rfl:n=t:=by omega
    obtain rfl:c=n:=hct;have F3:Hid (c*2+0*2<=(splice (splice cs (i*2) (t0a J)) ((i+1)*2) Y).length):=by show _<=_;rw[E2.out];omega
    go_enter Tryz.func123,Tryz.ntmps123;go_upto_region 9 with fail
    go_quiet (fail);go_upto_region 18 with(first
     | ((with_reducible refine sN 97 ?_);go_loud (refine E1a rfl (.tmp 95) (.tmp 96) 154 158 158 2 1 rfl Tryz.underlying154 size_ext _ _ _ _ _ _ _ _ rfl rfl _ (t0a J) HB0.out.drew (Nat.min_eq_left hti) rfl (hJ.out _ HV.out.drew) F1.out one.out ?_);intro w1 B1 O1)
     | fail)
    go_still_tail 9,(by kernel_rfl);change wpList _ _ _ _ _ w1.drew
    go_wp2_with(first
     | ((with_reducible refine sN 107 ?_);go_loud (refine E1a rfl (.tmp 103) (.tmp 106) 154 158 158 2 m rfl Tryz.underlying154 size_ext _ _ _ _ _ _ _ _ rfl rfl _ Y B1.out.drew hmm HYL.out (hYc.out _ B1.out.drew) F2.out hY1.out ?_);intro w2 B2 O2)
     | ((with_reducible show wpList _ _ _ (⟨none,.call _,_,_,_,_⟩::_) _ _);go_loud (refine p2a rfl (.tmp 110) 154 158 158 2 _ [] rfl Tryz.underlying154 g9a rfl zone.out (by decide) g (c*2) 0 _ _ rfl (λh=>absurd h (Nat.lt_irrefl _)) _ B2.out F3.out ?_);intro w3 zs Z3 B3 O3)
     | fail)
    go_ret;have q3:S1a g w w3:=(f9a (f9a ⟨O1.out.os,O1.out.tape,O1.out.output,O1.out.size,O1.out.rest⟩ ⟨O2.out.os,O2.out.tape,O2.out.output,O2.out.size,O2.out.rest⟩) O3.out);exact⟨_,rfl,fin2.out w3 zs (by rw[Z3.out];omega) B3.out,(g0a.of_only q3).mono λj _ hj=>by rw[hj];rfl,λj hj=>.inl hj⟩
   ·go_enter Tryz.func123,Tryz.ntmps123;go_upto_region 9 with fail
    go_quiet (fail);go_upto_region 18 with(first
     | ((with_reducible refine sN 97 ?_);go_loud (refine E1a rfl (.tmp 95) (.tmp 96) 154 158 158 2 1 rfl Tryz.underlying154 size_ext _ _ _ _ _ _ _ _ rfl rfl _ (t0a J) HB0.out.drew (Nat.min_eq_left hti) rfl (hJ.out _ HV.out.drew) F1.out one.out ?_);intro w1 B1 O1)
     | fail)
    go_still_tail 9,(by kernel_rfl);change wpList _ _ _ _ _ w1.drew
    go_wp2_with(first
     | ((with_reducible refine sN 107 ?_);go_loud (refine E1a rfl (.tmp 103) (.tmp 106) 154 158 158 2 m rfl Tryz.underlying154 size_ext _ _ _ _ _ _ _ _ rfl rfl _ Y B1.out.drew hmm HYL.out (hYc.out _ B1.out.drew) F2.out hY1.out ?_);intro w2 B2 O2)
     | ((with_reducible show wpList _ _ _ (⟨none,.call _,_,_,_,_⟩::_) _ _);go_loud (refine p2a rfl (.tmp 110) 154 158 158 2 _ [] rfl Tryz.underlying154 g9a rfl zone.out (by decide) g (t*2) (n-t) _ _ rfl (λ_=>rfl) _ B2.out F3.out ?_);intro w3 zs Z3 B3 O3)
     | fail)
    go_ret;have q3:S1a g w w3:=(f9a (f9a ⟨O1.out.os,O1.out.tape,O1.out.output,O1.out.size,O1.out.rest⟩ ⟨O2.out.os,O2.out.tape,O2.out.output,O2.out.size,O2.out.rest⟩) O3.out);exact⟨_,rfl,fin2.out w3 zs Z3.out B3.out,(g0a.of_only q3).mono λj _ hj=>by rw[hj];rfl,λj hj=>.inl hj⟩
theorem j1a.oneC{α:Type}{f:α->List Value}{s:Nat}{e:TypeId}{w:World}{base:Nat}{v:Value}{xs:List α}(h:j1a f s e w base v xs):v.oneCell'=true:=by rcases h.2 with⟨rfl,_⟩ | ⟨_,_,_,rfl,_⟩<;>rfl
theorem O9a{S:Nat->Prop}{w w':World}{p:Addr}(a:g0a S w w')(hp:¬S p.block)(hlt:p.block<w.heap.size):w'.cell? p=w.cell? p:=by unfold World.cell?;rw[a.rest p.block hlt hp]
theorem q6b{S:Nat->Prop}{w w':World}{b i:Nat}{cs:List Value}(h:w.rangeAt b i cs)(a:g0a S w w')(hp:¬S b)(hlt:b<w.heap.size):w'.rangeAt b i cs:=λj v hj=>by rw[O9a a (by exact hp) (by exact hlt)];exact h j v hj
theorem Blk.ne_own{α:Type}{f:α->List Value}{s:Nat}{e T:TypeId}{w:World}{base g:Nat}{v:Value}{xs:List α}{cs:List Value}(h:Blk w g T cs)(o:j1a f s e w base v xs)(hT:T≠e):v.ownBlock≠some g:=λhv=>by obtain⟨_,cs',hcs⟩:=o.block hv;rw[show w.heap[g]? = _ from h] at hcs;simp only[Option.some.injEq,Obj.cells.injEq] at hcs;exact hT hcs.2.1
theorem V7a.ne_blk{Z:Bool}{T:TypeId}{w:World}{base g:Nat}{v:Value}{xs:List Int}{cs:List Value}(o:V7a Z w base v xs)(h:Blk w g T cs)(hT:T≠5):v.ownBlock≠some g:=λhv=>by obtain⟨_,cs',hcs⟩:=o.1.block hv;rw[show w.heap[g]? = _ from h] at hcs;simp only[Option.some.injEq,Obj.cells.injEq] at hcs;exact hT hcs.2.1
theorem V7a.ne_own{α:Type}{f:α->List Value}{s:Nat}{e:TypeId}{Z:Bool}{w:World}{base base' i:Nat}{v u:Value}{xs:List Int}{ys:List α}(o:V7a Z w base v xs)(h:j1a f s e w base' u ys)(hT:e≠5)(hi:v.ownBlock=some i):u.ownBlock≠some i:=λhu=>by obtain⟨_,cs1,h1⟩:=o.1.block hi;obtain⟨_,cs2,h2⟩:=h.block hu;rw[h1] at h2;simp only[Option.some.injEq,Obj.cells.injEq] at h2;exact hT h2.2.1.symm
def c1c(w:World)(base q:Nat)(v:Value)(l:List O2a)(B:List Int)(Z:List Bool)(a:Int)(xs:List Int)(e:Ending)(w':World):Prop:=e=.returned (.int .i64 (q3a a xs.length))/\∃v' l',J5a w' base q v' l' (Y3a 0 B a xs) (Y3a false Z a (List.replicate xs.length true))/\g0a (pdS q v l) w w'/\∀j,pdS q v' l' j->pdS q v l j∨w.heap.size<=j
theorem J5a.wrote{w w8 w9 w12:World}{base q:Nat}{v v':Value}{l:List O2a}{B:List Int}{Z:List Bool}(d:J5a w base q v l B Z){p n f h a t hj M:Nat}{xs:List Int}(r:c5c l p n f h a t)(hn:xs.length=n)(h0:0<n)(hp:p+n<=65536)(hx:Bytes xs)(hb:base<=w.heap.size)
(hM:M=max B.length (p+n))(L8:Below w.heap.size w w8)(hjw:w.heap.size<=hj)(RJ:Row w8 hj (N3b (n3a a (t-a) ((l.take h).drop f) (h-f)) (p-a) xs))
(O9:j1a t0a 2 158 w9 base v' (l.take f++[((a,some ⟨hj,0,none⟩,t-a,t-a,N3b (n3a a (t-a) ((l.take h).drop f) (h-f)) (p-a) xs):O2a)]++l.drop h))(S9:g0a (λk=>v.ownBlock=some k) w8 w9)(N9:Z0a w8 v v')(P12:g0a (λk=>k=q) w9 w12)(BQ:Blk w12 q 156 [.bool true,.int .i64 (M:Nat),v']) :
  ∃l',J5a w12 base q v' l' (N3a 0 B p xs) (N3a false Z p (List.replicate n true))/\g0a (pdS q v l) w w12/\∀j,pdS q v' l' j->pdS q v l j∨w.heap.size<=j:=by
 obtain⟨hcan,hXl⟩:=r.can d.can d.lens d.zero d.len hn h0 (some ⟨hj,0,none⟩) (t-a) (t-a);obtain⟨X,hX⟩:∃X,X=N3b (n3a a (t-a) ((l.take h).drop f) (h-f)) (p-a) xs:=⟨_,rfl⟩;rw[<-hX] at hcan hXl RJ O9;have hd8:=d.below L8;have hq9:Blk w9 q 156 [.bool true,.int .i64 (B.length:Nat),v]:=hd8.blk.spare S9 λe=>hd8.blk.ne_own hd8.row (by decide) e
 have hv'q:v'.ownBlock≠some q:=hq9.ne_own O9 (by decide);have htn:t-a<=maxLen:=by have h1:=hcan.ends (a,X) (by unfold g4a;simp);rw[f2a,hn] at h1;have h2:=d.small;have h1:a+X.length<=_:=h1;unfold maxLen;omega
 have hJ8:V7a false w8 base (.slice (some ⟨hj,0,none⟩) (t-a) (t-a)) X:=V7a.of_z ((RJ.ownZ hjw hXl htn).mono hb) false;have each9:∀x∈l.take f++[((a,some ⟨hj,0,none⟩,t-a,t-a,X):O2a)]++l.drop h,V7a false w8 base (o3a x.2) x.2.2.2.2/\∀i,(o3a x.2).ownBlock=some i->pdS q v l i∨w.heap.size<=i:=λx hx=>by
  rcases List.mem_append.1 hx with hx | hx
  ·rcases List.mem_append.1 hx with hx | hx
   ·have hm:=List.mem_of_mem_take hx;exact⟨hd8.each x hm,λi hi=>.inl (.inr (.inr ⟨x,hm,hi⟩))⟩
   ·rw[List.mem_singleton.1 hx];exact⟨hJ8,λi hi=>.inr (by injection hi with hi;rw[<-hi];exact hjw)⟩
  ·have hm:=List.mem_of_mem_drop hx;exact⟨hd8.each x hm,λi hi=>.inl (.inr (.inr ⟨x,hm,hi⟩))⟩
 refine⟨_,⟨d.ge,?_,O9.sparS P12 (λi hi e=>hv'q (by rw[hi,e])),λx hx=>?_,hcan,r3c hn d.zero,?_,?_,k8a d.byte hx p⟩,?_,λj hj'=>?_⟩
 ·rw[f2a,hn,<-hM];exact BQ
 ·obtain⟨h1,_⟩:=each9 x hx;have h2:=h1.spare S9 λi hi e=>h1.ne_own hd8.row (by decide) hi e
  exact h2.spare P12 λi hi e=>h2.ne_blk hq9 (by decide) (by rw[hi,e])
 ·rw[f2a,f2a,List.length_replicate,hn,d.len]
 ·rw[f2a,hn];have:=d.small;omega
 ·refine((g0a.of_over (pdS q v l) L8).trans (S9.mono (S':=pdS q v l) λj _ hj=>.inr (.inl hj)) λj _ h=>h).trans (P12.mono (S':=pdS q v l) λj _ hj=>.inl hj) λj _ h=>h
 ·rcases hj' with rfl | hj' | ⟨x,hx,hj'⟩
  ·exact .inl (.inl rfl)
  ·rcases N9 j hj' with h1 | h1
   ·exact .inl (.inr (.inl h1))
   ·exact .inr (Nat.le_trans L8.size h1)
  ·exact(each9 x hx).2 j hj'
theorem w8b(w:World)(base q:Nat)(v:Value)(l:List O2a)(B:List Int)(Z:List Bool)(d:J5a w base q v l B Z)(a0:Int)(ha:-9223372036854775808<=a0/\a0<=9223372036854775807)(A:Option Addr)(n c:Nat)(xs:List Int)(hx:Holds w w.heap.size A n c xs)(hc:c<=140737488355328)(hb:base<=w.heap.size) :
  Calls Tryz.prog 76 #[ptr q,.int .i64 a0,.slice A n c] w (c1c w base q v l B Z a0 xs):=by
 unfold c1c ptr;have hsm:=d.small;have hxl:=hx.len;have hnc:=hx.fit;have q0:w.cell? ⟨q,0,none⟩=some (.bool true):=d.blk.cell 0;have q1:w.cell? ⟨q,1,none⟩=some (.int .i64 (B.length:Nat)):=d.blk.cell 1;have CN:=hI (M3b w q q0);have hE:q3a a0 n=if a0<0 then 2 else if n=0 then 0 else if 65536<a0+n then 3 else 0:=rfl
 have same:q3a a0 n≠0∨n=0->(Y3a 0 B a0 xs)=B/\Y3a false Z a0 (List.replicate n true)=Z:=λh=>by
  unfold Y3a;rw[List.length_replicate,hxl];rcases h with h | h
  ·rw[if_neg (λe=>h e.1),if_neg (λe=>h e.1)];exact⟨rfl,rfl⟩
  ·subst h;obtain rfl:xs=[]:=List.eq_nil_of_length_eq_zero hxl;rw[if_neg (λe=>e.2 rfl),if_neg (λe=>e.2 rfl)];exact⟨rfl,rfl⟩
 rw[hxl];obtain⟨ha0,ha1⟩:=ha;have D:=hI d;have HX:=hI hx;have SAME:=hI same;clear d hx same;by_cases h1:a0<0
 ·rw[if_pos h1] at hE;have hs:=SAME.out (.inl (by rw[hE];decide));rw[hE,hs.1,hs.2];clear hE hs;go_enter Tryz.func76,Tryz.ntmps76;go_wp2_with fail;refine CN.out.mono ?_;rintro e w1 ⟨rfl,rfl⟩;go_wp2_with fail;go_ret;exact⟨rfl,_,_,D.out,g0a.refl _ _,λj hj=>.inl hj⟩
 ·rw[if_neg h1] at hE;by_cases h2:n=0
  ·rw[if_pos h2] at hE;have hs:=SAME.out (.inr h2);rw[hE,hs.1,hs.2];clear hE hs;have h2':((n:Int)==0)=true:=by simpa using h2
   go_enter Tryz.func76,Tryz.ntmps76;go_wp2_with fail;refine CN.out.mono ?_;rintro e w1 ⟨rfl,rfl⟩;go_wp2_with fail;go_ret;exact⟨rfl,_,_,D.out,g0a.refl _ _,λj hj=>.inl hj⟩
  ·rw[if_neg h2] at hE;have h2':((n:Int)==0)=false:=by simpa using h2
   by_cases h3:65536<a0+n
   ·rw[if_pos h3] at hE;have hs:=SAME.out (.inl (by rw[hE];decide));rw[hE,hs.1,hs.2];clear hE hs;have h3':decide ((65536:Int)-(n:Int)<a0)=true:=decide_eq_true (by omega);go_enter Tryz.func76,Tryz.ntmps76;go_wp2_with fail;refine CN.out.mono ?_;rintro e w1 ⟨rfl,rfl⟩;go_wp2_with fail;go_ret;exact⟨rfl,_,_,D.out,g0a.refl _ _,λj hj=>.inl hj⟩
   ·rw[if_neg h3] at hE;have h3':decide ((65536:Int)-(n:Int)<a0)=false:=decide_eq_false (by omega);obtain⟨p,rfl⟩:=Int.eq_ofNat_of_zero_le (show 0<=a0 by omega);have hpn:p+n<=65536:=by omega
    have hB':Y3a 0 B (p:Int) xs=N3a 0 B p xs/\Y3a false Z (p:Int) (List.replicate n true)=N3a false Z p (List.replicate n true):=by
     have hne:xs≠[]:=λe=>h2 (by rw[<-hxl,e];rfl)
     have hne2:List.replicate n true≠[]:=λe=>h2 (by have:=congrArg List.length e;simpa using this)
     unfold Y3a;rw[List.length_replicate,hxl,hE,if_pos ⟨rfl,hne⟩,if_pos ⟨rfl,hne2⟩,Int.toNat_natCast];exact⟨rfl,rfl⟩
    rw[hE,hB'.1,hB'.2];clear hE hB';have hw1:IntKind.i64.wrap ((p:Int)-1)=(p:Int)-1:=by rw[IntKind.wrap_i64];omega
    have hw2:IntKind.i64.wrap ((p:Int)+(n:Int)+1)=(p:Int)+(n:Int)+1:=by rw[IntKind.wrap_i64];omega
    obtain⟨f,hf,f0,f1⟩:=D.out.halfE ((p:Int)-1);obtain⟨h,hh,g0,g1⟩:=D.out.halfB ((p:Int)+(n:Int)+1);have CF:Hid (∀w2,Below w.heap.size w w2->Calls Tryz.prog 111 #[.pointer (some ⟨q,0,none⟩),.int .i64 ((p:Int)-1)] w2 λe w'=>e=.returned (.int .i64 (f:Nat))/\Below w2.heap.size w2 w'):=λw2 hb=>J2b w2 base q v l B Z (D.out.below hb) _ f hf f0 f1
    have CH:Hid (∀w2,Below w.heap.size w w2->Calls Tryz.prog 112 #[.pointer (some ⟨q,0,none⟩),.int .i64 ((p:Int)+(n:Int)+1)] w2 λe w'=>e=.returned (.int .i64 (h:Nat))/\Below w2.heap.size w2 w'):=λw2 hb=>s1b w2 base q v l B Z (D.out.below hb) _ h hh g0 g1
    obtain⟨a,t,WR⟩:=i5c D.out.can D.out.lens (show 0<n by omega) hf hh f0 f1 (λi x hi hx=>by have:=g0 i x hi hx;omega) (λi x hi hx=>by have:=g1 i x hi hx;omega);obtain⟨Av,nv,cv,rfl,hv⟩:=D.out.lst;have hnl:=hv.len;have q2:w.cell? ⟨q,2,none⟩=some (.slice Av nv cv):=D.out.blk.cell 2;have hcm:cv<=maxLen:=by
     rcases D.out.row.2 with⟨e1,_⟩ | ⟨_,cap,_,e1,_,_,_,e2,_⟩
     ·injection e1 with _ _ e3
      rw[e3];exact Nat.zero_le _
     ·injection e1 with _ _ e3
      rw[e3];exact e2
    have hap:=WR.ap;have hpt:=WR.pt;have ht65:t<=65536:=by
     rcases Nat.eq_zero_or_pos (h-f) with h0 | h0
     ·have:=(WR.none h0).2;omega
     ·obtain⟨y,hy⟩:∃y,((l.take h).drop f)[h-f-1]? = some y:=⟨_,List.getElem?_eq_getElem (show h-f-1<_ by rw[O3b hh];omega)⟩;have e1:=WR.lst _ h0 hy;have e2:=D.out.ends y (List.mem_of_getElem? (B4a hy).2);omega
    obtain⟨A5,c5,hsl,hlo⟩:=W4b w w.heap.size Av nv cv f h l hv WR.fh (by omega) hcm;have HSL:=hI hsl;obtain⟨X,hX⟩:∃X,X=N3b (n3a a (t-a) ((l.take h).drop f) (h-f)) (p-a) xs:=⟨_,rfl⟩;have hn65:nv<=65536:=by have:=D.out.lenS;omega
    have CJ:Hid (∀w2,Below w.heap.size w w2->Calls Tryz.prog 124 #[.slice A5 (h-f) c5,.agg #[.int .i64 (p:Nat),.slice A n c]] w2 λe w'=>∃hj,e=.returned (.agg #[.int .i64 (a:Nat),.slice (some ⟨hj,0,none⟩) (t-a) (t-a)])/\w2.heap.size<=hj/\Row w' hj X/\Below w2.heap.size w2 w'):=λw2 hb2=>by rw[hX];exact s8b w2 A5 (h-f) c5 ((l.take h).drop f) ((hlo.below hb2).mono hb2.size) (by omega) p n c a t A xs ((HX.out.below hb2).mono hb2.size) (by omega) hpn ht65 WR.none WR.fst WR.lst WR.fit
    have hvq:Hid ((Value.slice Av nv cv).ownBlock≠some q):=D.out.blk.ne_own D.out.row (by decide);have hvlt:Hid (∀i,(Value.slice Av nv cv).ownBlock=some i->i<w.heap.size):=λi hi=>D.out.row.lt hi
    have RPL:Hid (∀w8,Below w.heap.size w w8->∀gv hj,w.heap.size<=gv->Blk w8 gv 158 [.int .i64 (a:Nat),.slice (some ⟨hj,0,none⟩) (t-a) (t-a)]->Calls Tryz.prog 123 #[.slice Av nv cv,.int .i64 (f:Nat),.int .i64 (h:Nat),.slice (some ⟨gv,0,none⟩) 1 1] w8 (z5a w8 base (.slice Av nv cv) l f h (a,some ⟨hj,0,none⟩,t-a,t-a,X))):=λw8 hb8 gv hj hgv hV=>p6b w8 base Av nv cv f h gv l (a,some ⟨hj,0,none⟩,t-a,t-a,X) (D.out.row.below hb8) WR.fh (by omega) hnl hn65 (Nat.le_trans hb hb8.size) hV (λe=>by have:=hvlt.out gv e;omega)
    unfold z5a at RPL;obtain⟨N,hN⟩:∃N,N=t-a:=⟨_,rfl⟩;have HWR:=hI WR;have HXX:=hI hX;have HNN:=hI hN;have BQ:=hI D.out.blk;obtain⟨L,hL⟩:∃n,n=B.length:=⟨_,rfl⟩;have HLL:=hI hL;obtain⟨M,hM⟩:∃m,m=max L (p+n):=⟨_,rfl⟩;have hmax:max (L:Int) ((p+n:Nat):Int)=(M:Int):=by omega
    have hmax2:max (L:Int) ((p:Int)+(n:Int))=(M:Int):=by omega
    have HMM:Hid (M=max B.length (p+n)):=by show _=_;rw[<-hL];exact hM
    rw[<-hN] at CJ RPL;rw[<-hL] at BQ q1 hsm;have hpn2:p<=4611686018427387903:=by omega
    have hfh:=WR.fh;clear hsl hlo hv hX hN hL hM f0 f1 g0 g1 WR hf hh hap hpt;go_enter Tryz.func76,Tryz.ntmps76;go_wp2_with fail;refine CN.out.mono ?_;rintro e w1 ⟨rfl,rfl⟩;have ZX:=hI i7a;go_upto_region 10 with(first
     | ((with_reducible refine sN 28 ?_);go_loud (refine A0a rfl _ _ rfl [.int .i64 (p:Nat),.slice A n c] (by kernel_rfl) ?_))
     | ((with_reducible refine sN 7 ?_);go_loud (refine i0a rfl _ rfl [.int .i64 0,.slice none 0 0] _ ZX ?_);intro g7 w1 hg71 hg72 B1 L1)
     | ((with_reducible show wpList _ _ _ (⟨none,.store _ _ _,_,_,_,_⟩::_) _ _);go_loud (refine l0a rfl _ (.tmp 7) (.tmp 28) rfl g7 rfl _ [.int .i64 0,.slice none 0 0] [.int .i64 (p:Nat),.slice A n c] rfl B1 2 size_ext rfl rfl (v6a _ _ rfl) ?_);intro w2 B2 O2 hg7')
     | fail)
    have hg7:Hid (g7<w2.heap.size):=hg7';have L2:=hI (r0a L1.out O2.out hg71);clear L1 B1 O2 hg7';refine wp_region_held (S:=λw'=>w'.rangeAt g7 0 [.int .i64 (p:Nat),.slice A n c]) (by kernel_rfl) ?_;change wpAnyH _ _ _ _ _ _ _ _ w2.drew
    have Sr0:Hid (w2.drew.rangeAt g7 0 [.int .i64 (p:Nat),.slice A n c]):=λj v h=>(B2.out.range 0) j v h
    have br0:Hid (True):=trivial;refine tK 0 _ rfl (a0a (by kernel_rfl) (.tmp 0) rfl (.pointer (some ⟨q,0,none⟩)) (by kernel_rfl)) Sr0.out ?_;refine tK 1 _ rfl (a0a (by kernel_rfl) (.tmp 1) rfl (.int .i64 (p:Nat)) (by kernel_rfl)) Sr0.out ?_;refine tK 2 (.int .i64 ((p:Int)-1)) rfl (.inl ⟨by kernel_rfl,λw _=>by go_simp⟩) Sr0.out ?_;refine tK 4 _ rfl (a0a (by kernel_rfl) (.tmp 0) rfl (.pointer (some ⟨q,0,none⟩)) (by kernel_rfl)) Sr0.out ?_;refine tK 5 _ rfl (b1a (by kernel_rfl) _ (.tmp 7) rfl g7 0 (by kernel_rfl) [.int .i64 (p:Nat),.slice A n c] (λ_ h=>h) 2 _ Tryz.underlying158 rfl size_ext (rfl:Hid (([.int .i64 (p:Nat),.slice A n c]:List Value).length=2))) Sr0.out ?_;refine oN 3 _ rfl λK hK=>?_
    go_simp;refine(CF.out _ L2.out.drew).mono ?_;rintro e vr1 ⟨rfl,l3⟩;have Sr1:Hid (vr1.rangeAt g7 0 [.int .i64 (p:Nat),.slice A n c]):=L1a Sr0.out l3 hg7.out;have br1:Hid (True):=trivial;have L3:=hI (L2.out.drew.trans (l3.mono L2.out.drew.size));have K3:=hI ((Below.refl w2.heap.size w2).drew.trans l3);have g73:Hid (g7<vr1.heap.size):=Nat.lt_of_lt_of_le hg7.out K3.out.size;clear l3;refine hK _ _ Sr1.out ?_;clear hK K;refine oN 6 _ rfl λK hK=>?_
    go_simp;refine(h7a _ p n c A (by omega) (by omega)).mono ?_;rintro e vr2 ⟨rfl,l4⟩;have Sr2:Hid (vr2.rangeAt g7 0 [.int .i64 (p:Nat),.slice A n c]):=L1a Sr1.out l4 g73.out;have br2:Hid (True):=trivial;have L4:=hI (L3.out.trans (l4.mono L3.out.size));have K4:=hI (K3.out.trans (l4.mono K3.out.size));have g74:Hid (g7<vr2.heap.size):=Nat.lt_of_lt_of_le hg7.out K4.out.size;clear l4;refine hK _ _ Sr2.out ?_;clear hK K;refine tK 7 (.int .i64 ((p:Int)+(n:Int)+1)) rfl (.inl ⟨by kernel_rfl,λw _=>by go_simp⟩) Sr2.out ?_;refine oN 8 _ rfl λK hK=>?_
    go_simp;refine(CH.out _ L4.out).mono ?_;rintro e vr3 ⟨rfl,l5⟩;have Sr3:Hid (vr3.rangeAt g7 0 [.int .i64 (p:Nat),.slice A n c]):=L1a Sr2.out l5 g74.out;have br3:Hid (True):=trivial;have L5:=hI (L4.out.trans (l5.mono L4.out.size));have K5:=hI (K4.out.trans (l5.mono K4.out.size));clear l5;refine hK _ _ Sr3.out ?_;clear hK K;refine oN 9 _ rfl λK hK=>?_
    go_simp;refine hK _ _ Sr3.out ?_;clear hK K;refine oN 10 _ rfl λK hK=>?_
    go_simp;refine hK _ _ Sr3.out ?_;clear hK K;refine dN ?_;have B6:=hI (B2.out.below K5.out hg7.out);have hvg:Hid ((Value.slice Av nv cv).ownBlock≠some g7):=λe=>by have:=hvlt.out g7 e;omega
    obtain⟨w6,hw6⟩:∃x,x=vr3:=⟨_,rfl⟩;rw[<-hw6] at L5 B6 K5⊢;have L6:=L5;have k2:w6.cell? ⟨q,2,none⟩=some (.slice Av nv cv):=(L6.out.cell (lt_of_cell q2)).trans q2;have hg76:Hid (g7<w6.heap.size):=B6.out.lt;clear hw6 L3 L4 L5 K3 K4 K5 Sr1 Sr2 Sr3 g73 g74 B2 L2 hg7;go_upto_region 11 with fail
    refine m1a 18 (λw'=>w'.cell? ⟨q,2,none⟩=some (.slice Av nv cv)/\w'.rangeAt g7 0 [.int .i64 (p:Nat),.slice A n c]) (by kernel_rfl) ?_;change K2a _ _ _ _ _ _ _ _ _ w6.drew
    have Ss0:Hid (w6.drew.cell? ⟨q,2,none⟩=some (.slice Av nv cv)/\w6.drew.rangeAt g7 0 [.int .i64 (p:Nat),.slice A n c]):=⟨k2,λj v h=>(B6.out.range 0) j v h⟩;have bs0:Hid (True):=trivial;refine c0a (i:=0) (v:=_) rfl (by kernel_rfl) (by kernel_rfl) (by kernel_rfl) (λ_ _ _ h=>h) rfl (by kernel_rfl) (by kernel_rfl) (by decide) (a0a (by kernel_rfl) (.tmp 0) rfl (.pointer (some ⟨q,0,none⟩)) (by kernel_rfl)) Ss0.out ?_;refine c0a (i:=1) (v:=_) rfl (by kernel_rfl) (by kernel_rfl) (by kernel_rfl) (λ_ _ _ h=>h) rfl (by kernel_rfl) (by kernel_rfl) (by decide) (a0a (by kernel_rfl) (.tmp 0) rfl (.pointer (some ⟨q,0,none⟩)) (by kernel_rfl)) Ss0.out ?_;refine c0a (i:=2) (v:=_) rfl (by kernel_rfl) (by kernel_rfl) (by kernel_rfl) (λ_ _ _ h=>h) rfl (by kernel_rfl) (by kernel_rfl) (by decide) (p0a (by kernel_rfl) (.tmp 39) rfl ⟨q,0,none⟩ (by kernel_rfl)) Ss0.out ?_;refine c0a (i:=3) (v:=_) rfl (by kernel_rfl) (by kernel_rfl) (by kernel_rfl) (λ_ _ _ h=>h) rfl (by kernel_rfl) (by kernel_rfl) (by decide) (e0a (by kernel_rfl) _ (.tmp 40) 2 rfl (.pointer (some ⟨q,0,none⟩)) (.pointer (some ⟨q,2,none⟩)) (by kernel_rfl) (λw=>by go_simp)) Ss0.out ?_;refine c0a (i:=4) (v:=_) rfl (by kernel_rfl) (by kernel_rfl) (by kernel_rfl) (λ_ _ _ h=>h) rfl (by kernel_rfl) (by kernel_rfl) (by decide) (b0a (by kernel_rfl) _ (.tmp 41) rfl q (2) (by kernel_rfl) (.slice Av nv cv) (λ_ h=>h.1) _ Tryz.underlying154 rfl) Ss0.out ?_;refine c0a (i:=5) (v:=_) rfl (by kernel_rfl) (by kernel_rfl) (by kernel_rfl) (λ_ _ _ h=>h) rfl (by kernel_rfl) (by kernel_rfl) (by decide) (a0a (by kernel_rfl) (.tmp 8) rfl (.int .i64 (f:Nat)) (by kernel_rfl)) Ss0.out ?_;refine c0a (i:=6) (v:=_) rfl (by kernel_rfl) (by kernel_rfl) (by kernel_rfl) (λ_ _ _ h=>h) rfl (by kernel_rfl) (by kernel_rfl) (by decide) (a0a (by kernel_rfl) (.tmp 9) rfl (.int .i64 (h:Nat)) (by kernel_rfl)) Ss0.out ?_;refine c0a (i:=7) (v:=_) rfl (by kernel_rfl) (by kernel_rfl) (by kernel_rfl) (λ_ _ _ h=>h) rfl (by kernel_rfl) (by kernel_rfl) (by decide) (a0a (by kernel_rfl) (.tmp 0) rfl (.pointer (some ⟨q,0,none⟩)) (by kernel_rfl)) Ss0.out ?_;refine c0a (i:=8) (v:=_) rfl (by kernel_rfl) (by kernel_rfl) (by kernel_rfl) (λ_ _ _ h=>h) rfl (by kernel_rfl) (by kernel_rfl) (by decide) (p0a (by kernel_rfl) (.tmp 45) rfl ⟨q,0,none⟩ (by kernel_rfl)) Ss0.out ?_;refine c0a (i:=9) (v:=_) rfl (by kernel_rfl) (by kernel_rfl) (by kernel_rfl) (λ_ _ _ h=>h) rfl (by kernel_rfl) (by kernel_rfl) (by decide) (e0a (by kernel_rfl) _ (.tmp 46) 2 rfl (.pointer (some ⟨q,0,none⟩)) (.pointer (some ⟨q,2,none⟩)) (by kernel_rfl) (λw=>by go_simp)) Ss0.out ?_;refine c0a (i:=10) (v:=_) rfl (by kernel_rfl) (by kernel_rfl) (by kernel_rfl) (λ_ _ _ h=>h) rfl (by kernel_rfl) (by kernel_rfl) (by decide) (b0a (by kernel_rfl) _ (.tmp 47) rfl q (2) (by kernel_rfl) (.slice Av nv cv) (λ_ h=>h.1) _ Tryz.underlying154 rfl) Ss0.out ?_;refine c0a (i:=11) (v:=_) rfl (by kernel_rfl) (by kernel_rfl) (by kernel_rfl) (λ_ _ _ h=>h) rfl (by kernel_rfl) (by kernel_rfl) (by decide) (a0a (by kernel_rfl) (.tmp 8) rfl (.int .i64 (f:Nat)) (by kernel_rfl)) Ss0.out ?_;refine c0a (i:=12) (v:=_) rfl (by kernel_rfl) (by kernel_rfl) (by kernel_rfl) (λ_ _ _ h=>h) rfl (by kernel_rfl) (by kernel_rfl) (by decide) (a0a (by kernel_rfl) (.tmp 9) rfl (.int .i64 (h:Nat)) (by kernel_rfl)) Ss0.out ?_;refine c0a (i:=13) (v:=_) rfl (by kernel_rfl) (by kernel_rfl) (by kernel_rfl) (λ_ _ _ h=>h) rfl (by kernel_rfl) (by kernel_rfl) (by decide) (c8a (by kernel_rfl) _ (.tmp 48) (.tmp 49) (.tmp 50) rfl (.slice Av nv cv) (.int .i64 (f:Nat)) (.int .i64 (h:Nat)) (.slice A5 (h-f) c5) (by kernel_rfl) (by kernel_rfl) (by kernel_rfl) HSL.out) Ss0.out ?_;refine c0a (i:=14) (v:=_) rfl (by kernel_rfl) (by kernel_rfl) (by kernel_rfl) (λ_ _ _ h=>h) rfl (by kernel_rfl) (by kernel_rfl) (by decide) (b1a (by kernel_rfl) _ (.tmp 7) rfl g7 0 (by kernel_rfl) [.int .i64 (p:Nat),.slice A n c] (λ_ h=>h.2) 2 _ Tryz.underlying158 rfl size_ext (rfl:Hid (([.int .i64 (p:Nat),.slice A n c]:List Value).length=2))) Ss0.out ?_;refine n0a 15 _ (by kernel_rfl) rfl λK hK=>?_
    go_simp;refine(CJ.out _ L6.out.drew).mono ?_;rintro e vs1 ⟨hj,rfl,hjw,rj,l7⟩;have Ss1:Hid (vs1.cell? ⟨q,2,none⟩=some (.slice Av nv cv)/\vs1.rangeAt g7 0 [.int .i64 (p:Nat),.slice A n c]):=⟨(l7.cell (lt_of_cell Ss0.out.1)).trans Ss0.out.1,L1a Ss0.out.2 l7 hg76.out⟩;have bs1:Hid (True):=trivial;have L7:=hI (L6.out.drew.trans (l7.mono L6.out.drew.size));have K7:=hI ((Below.refl w6.heap.size w6).drew.trans l7);have RJ:=hI rj;have hjw':Hid (w.heap.size<=hj):=Nat.le_trans L6.out.size hjw;clear rj l7 hjw;refine hK _ _ (λ_=>Ss1.out) ?_;clear hK K;refine n0a 16 _ (by kernel_rfl) rfl λK hK=>?_
    refine b2a rfl _ _ _ _ rfl Tryz.underlying154 [.int .i64 (a:Nat),.slice (some ⟨hj,0,none⟩) N N] (by kernel_rfl) ?_;intro gv w8 hgv hgv2 V8 l8;have L8:=hI (L7.out.trans (l8.out.mono L7.out.size));have K8:=hI (K7.out.trans (l8.out.mono K7.out.size));have RJ8:=hI (RJ.out.over l8.out);have Ss2:Hid (w8.cell? ⟨q,2,none⟩=some (.slice Av nv cv)/\w8.rangeAt g7 0 [.int .i64 (p:Nat),.slice A n c]):=⟨(l8.out.cell (lt_of_cell Ss1.out.1)).trans Ss1.out.1,L1a Ss1.out.2 l8.out (Nat.lt_of_lt_of_le hg76.out K7.out.size)⟩;clear l8 RJ;have CR:=hI (RPL.out w8 L8.out gv hj (Nat.le_trans L7.out.size hgv) V8.out);refine hK _ _ (λ_=>Ss2.out) ?_;clear hK K;refine n0a 17 _ (by kernel_rfl) rfl λK hK=>?_
    go_simp;refine(CR.out).mono ?_;rintro e vs3 ⟨v',rfl,o9,s9,n9⟩;have Ss3:Hid (vs3.cell? ⟨q,2,none⟩=some (.slice Av nv cv)/\vs3.rangeAt g7 0 [.int .i64 (p:Nat),.slice A n c]):=⟨(O9a s9 (λe=>hvq.out e) (lt_of_cell Ss2.out.1)).trans Ss2.out.1,q6b Ss2.out.2 s9 (λe=>hvg.out e) (Nat.lt_of_lt_of_le hg76.out K8.out.size)⟩;have bs3:Hid (True):=trivial;have O9:=hI o9;have S9:=hI s9;have N9:=hI n9;clear o9 s9 n9;refine hK _ _ (λ_=>Ss3.out) ?_;clear hK K;refine n0a 18 _ (by kernel_rfl) rfl λK hK=>?_
    go_simp;refine hK _ _ (λh=>Bool.noConfusion (show true=false from h)) ?_;clear hK K;refine n0a 19 _ (by kernel_rfl) rfl λK hK=>?_
    go_simp;refine hK _ _ (λh=>Bool.noConfusion (show true=false from h)) ?_;clear hK K;refine Q1a λa1 ha1=>?_
    have e1_57:a1.eval (.tmp 57)=.pointer (some ⟨q,2,none⟩):=by rw[ha1];kernel_rfl
    have e1_55:a1.eval (.tmp 55)=v':=by rw[ha1];kernel_rfl
    refine n0a 20 _ (by kernel_rfl) rfl λK hK=>?_
    have BQ9:Hid (Blk vs3 q 156 [.bool true,.int .i64 (L:Nat),.slice Av nv cv]):=(BQ.out.below (L8.out.mono (Nat.le_refl _)) BQ.out.lt).spare S9.out (λe=>hvq.out e);refine B1a (by kernel_rfl) 154 (.tmp 57) (.tmp 55) (by kernel_rfl) q 2 e1_57 156 [.bool true,.int .i64 (L:Nat),.slice Av nv cv] v' e1_55 BQ9 (show 2<3 by omega) (by kernel_rfl) O9.out.oneC ?_;intro w10 BQ10 P10 hq10;refine hK _ _ (λh=>Bool.noConfusion (show true=false from h)) ?_;clear hK K;rw[ha1];refine K1a (by kernel_rfl) ?_ _;have hqg:Hid (g7≠q):=by have:=lt_of_cell q1;show _≠_;have h8:q<w.heap.size:=this;omega
    have B10:=hI (((B6.out.below K8.out hg76.out).spare S9.out (λe=>hvg.out e)).only P10.out hqg.out);have BQ10':Hid (Blk w10 q 156 [.bool true,.int .i64 (L:Nat),v']):=BQ10.out;have j1:w10.cell? ⟨q,1,none⟩=some (.int .i64 (L:Nat)):=BQ10'.out.cell 1;clear Ss0 Ss1 Ss2 Ss3 K7 L7 V8 CR k2 BQ10 BQ9 B6 q2 q1;go_upto_region 12 with fail
    refine m1a 8 (λw'=>w'.cell? ⟨q,1,none⟩=some (.int .i64 (L:Nat))/\w'.rangeAt g7 0 [.int .i64 (p:Nat),.slice A n c]) (by kernel_rfl) ?_;change K2a _ _ _ _ _ _ _ _ _ w10.drew
    have St0:Hid (w10.drew.cell? ⟨q,1,none⟩=some (.int .i64 (L:Nat))/\w10.drew.rangeAt g7 0 [.int .i64 (p:Nat),.slice A n c]):=⟨j1,λj v h=>(B10.out.range 0) j v h⟩;have bt0:Hid (True):=trivial;refine c0a (i:=0) (v:=_) rfl (by kernel_rfl) (by kernel_rfl) (by kernel_rfl) (λ_ _ _ h=>h) rfl (by kernel_rfl) (by kernel_rfl) (by decide) (a0a (by kernel_rfl) (.tmp 0) rfl (.pointer (some ⟨q,0,none⟩)) (by kernel_rfl)) St0.out ?_;refine c0a (i:=1) (v:=_) rfl (by kernel_rfl) (by kernel_rfl) (by kernel_rfl) (λ_ _ _ h=>h) rfl (by kernel_rfl) (by kernel_rfl) (by decide) (a0a (by kernel_rfl) (.tmp 0) rfl (.pointer (some ⟨q,0,none⟩)) (by kernel_rfl)) St0.out ?_;refine c0a (i:=2) (v:=_) rfl (by kernel_rfl) (by kernel_rfl) (by kernel_rfl) (λ_ _ _ h=>h) rfl (by kernel_rfl) (by kernel_rfl) (by decide) (p0a (by kernel_rfl) (.tmp 59) rfl ⟨q,0,none⟩ (by kernel_rfl)) St0.out ?_;refine c0a (i:=3) (v:=_) rfl (by kernel_rfl) (by kernel_rfl) (by kernel_rfl) (λ_ _ _ h=>h) rfl (by kernel_rfl) (by kernel_rfl) (by decide) (e0a (by kernel_rfl) _ (.tmp 60) 1 rfl (.pointer (some ⟨q,0,none⟩)) (.pointer (some ⟨q,1,none⟩)) (by kernel_rfl) (λw=>by go_simp)) St0.out ?_;refine c0a (i:=4) (v:=_) rfl (by kernel_rfl) (by kernel_rfl) (by kernel_rfl) (λ_ _ _ h=>h) rfl (by kernel_rfl) (by kernel_rfl) (by decide) (b0a (by kernel_rfl) _ (.tmp 61) rfl q (1) (by kernel_rfl) (.int .i64 (L:Nat)) (λ_ h=>h.1) _ Tryz.underlying3 rfl) St0.out ?_;refine c0a (i:=5) (v:=_) rfl (by kernel_rfl) (by kernel_rfl) (by kernel_rfl) (λ_ _ _ h=>h) rfl (by kernel_rfl) (by kernel_rfl) (by decide) (b1a (by kernel_rfl) _ (.tmp 7) rfl g7 0 (by kernel_rfl) [.int .i64 (p:Nat),.slice A n c] (λ_ h=>h.2) 2 _ Tryz.underlying158 rfl size_ext (rfl:Hid (([.int .i64 (p:Nat),.slice A n c]:List Value).length=2))) St0.out ?_;refine n0a 6 _ (by kernel_rfl) rfl λK hK=>?_
    go_simp;refine(h7a _ p n c A (by omega) (by omega)).mono ?_;rintro e vt1 ⟨rfl,l11⟩;have St1:Hid (vt1.cell? ⟨q,1,none⟩=some (.int .i64 (L:Nat))/\vt1.rangeAt g7 0 [.int .i64 (p:Nat),.slice A n c]):=⟨(l11.cell (lt_of_cell St0.out.1)).trans St0.out.1,L1a St0.out.2 l11 B10.out.lt⟩;have bt1:Hid (True):=trivial;have K11:=hI ((Below.refl w10.heap.size w10).drew.trans l11);clear l11;refine hK _ _ (λ_=>St1.out) ?_;clear hK K;refine c0a (i:=7) (v:=.int .i64 (M:Nat)) rfl (by kernel_rfl) (by kernel_rfl) (by kernel_rfl) (λ_ _ _ h=>h) rfl (by kernel_rfl) (by kernel_rfl) (by decide) (.inl ⟨by kernel_rfl,λw _=>by go_simp⟩) St1.out ?_;refine n0a 8 _ (by kernel_rfl) rfl λK hK=>?_
    go_simp;refine hK _ _ (λh=>Bool.noConfusion (show true=false from h)) ?_;clear hK K;refine n0a 9 _ (by kernel_rfl) rfl λK hK=>?_
    go_simp;refine hK _ _ (λh=>Bool.noConfusion (show true=false from h)) ?_;clear hK K;refine Q1a λa1 ha1=>?_
    have e1_67:a1.eval (.tmp 67)=.pointer (some ⟨q,1,none⟩):=by rw[ha1];kernel_rfl
    have e1_65:a1.eval (.tmp 65)=.int .i64 (M:Nat):=by rw[ha1];kernel_rfl
    refine n0a 10 _ (by kernel_rfl) rfl λK hK=>?_
    refine B1a (by kernel_rfl) 3 (.tmp 67) (.tmp 65) (by kernel_rfl) q 1 e1_67 156 [.bool true,.int .i64 (L:Nat),v'] (.int .i64 (M:Nat)) e1_65 (BQ10'.out.over K11.out) (show 1<3 by omega) (by kernel_rfl) rfl ?_;intro w12 BQ12 P12 hq12;refine hK _ _ (λh=>Bool.noConfusion (show true=false from h)) ?_;clear hK K;rw[ha1];refine K1a (by kernel_rfl) ?_ _;go_wp2_with fail;go_ret;have P1:g0a (λk=>k=q) vs3 w12:=((g0a.of_only P10.out).trans ((g0a.of_over (λk=>k=q) K11.out).trans (g0a.of_only P12.out) λj _ h=>h) λj _ h=>h);have hL8:=L8.out;refine⟨rfl,v',J5a.wrote (w:=w) (w8:=w8) (w9:=vs3) (w12:=w12) (hj:=hj) D.out HWR.out hxl (by omega) hpn HX.out.byte hb HMM.out L8.out hjw'.out ?_ ?_ S9.out N9.out P1 BQ12.out⟩
    ·rw[<-HXX.out];exact RJ8.out
    ·rw[<-HXX.out,<-HNN.out];exact O9.out
theorem r0b{P:Program}{ops:Array Oper}{rest:List Oper}{op:Oper}{a:Act}{w:World}{Q:Exit->Act->World->Prop}(hw:Region.wanted op (yielded ops a.tmps)=true)(ty:TypeId)(x:Operand)(ho:op.op=.load ty x)
(b o:Nat)(hx:a.eval x=.pointer (some ⟨b,o,none⟩))(cs:List Value)(d:TypeDesc)(hc:w.rangeAt b o cs)(hu:P.underlying ty=some d)(hd:d.isRow=true)(hi:(P.info? ty).map (·.size)=some cs.length)
(h:wpList P ops Q rest (a.put op.dst (.agg cs.toArray)) w):wpList P ops Q (op::rest) a w:=
 wpList_step λK hK=>by rw[if_pos hw];exact wp_load_mid ty x ho b o hx cs d hc hu hd hi (hK _ _ h)
def X4b(w:World)(base q:Nat)(v:Value)(l:List O2a)(B:List Int)(Z:List Bool)(s:Int)(e:Ending)(w':World):Prop:=e=.returned (.int .i64 (C2a s))/\∃v' l',J5a w' base q v' l' (T1a 0 B s) (T1a false Z s)/\g0a (pdS q v l) w w'/\∀j,pdS q v' l' j->pdS q v l j∨w.heap.size<=j
theorem J5a.wasCut{w w':World}{base q:Nat}{A:Option Addr}{n c f s:Nat}{l l':List O2a}{B:List Int}{Z:List Bool}(d:J5a w base q (.slice A n c) l B Z)(hs:s<=65536)(f0:∀(i:Nat) x,i<f->l[i]? = some x->x.1<s)(f1:∀(i:Nat) x,f<=i->l[i]? = some x->s<=x.1)
(hm:g4a l'=((g4a l).take f).map λe=>(e.1,e.2.take (s-e.1)))(hB:Blk w' q 156 [.bool true,.int .i64 (s:Nat),.slice A f c])(hrow:j1a t0a 2 158 w' base (.slice A f c) l')
(heach:∀x∈l',V7a false w' base (o3a x.2) x.2.2.2.2/\∀i,(o3a x.2).ownBlock=some i->pdS q (.slice A n c) l i∨w.heap.size<=i)(hS:g0a (pdS q (.slice A n c) l) w w') :
  ∃v' l',J5a w' base q v' l' (y1a 0 B s) (y1a false Z s)/\g0a (pdS q (.slice A n c) l) w w'/\∀j,pdS q v' l' j->pdS q (.slice A n c) l j∨w.heap.size<=j:=by
 refine⟨_,l',⟨d.ge,by rw[h1a];exact hB,hrow,λx hx=>(heach x hx).1,d.can.cutP f0 f1 hm,q3c d.zero,by rw[h1a,h1a],by rw[h1a];exact hs,l6a d.byte s⟩,hS,λj hj=>?_⟩;rcases hj with rfl | hj | ⟨x,hx,hj⟩
 ·exact .inl (.inl rfl)
 ·refine .inl (.inr (.inl ?_));cases A with
  | none=>cases hj
  | some a=>exact hj
 ·exact(heach x hx).2 j hj
theorem s3c(w:World)(base q:Nat)(v:Value)(l:List O2a)(B:List Int)(Z:List Bool)(d:J5a w base q v l B Z)(s0:Int)(ha:-9223372036854775808<=s0/\s0<=9223372036854775807)(hb:base<=w.heap.size) :
  Calls Tryz.prog 78 #[ptr q,.int .i64 s0] w (X4b w base q v l B Z s0):=by
 unfold X4b ptr;have hsm:=d.small;have q0:w.cell? ⟨q,0,none⟩=some (.bool true):=d.blk.cell 0;have CN:=hI (M3b w q q0);have hE:C2a s0=if s0<0 then 2 else if 65536<s0 then 3 else 0:=rfl
 have same:C2a s0≠0->T1a 0 B s0=B/\T1a false Z s0=Z:=λh=>by unfold T1a;rw[if_neg h,if_neg h];exact⟨rfl,rfl⟩
 obtain⟨ha0,ha1⟩:=ha;have D:=hI d;have SAME:=hI same;clear d same;by_cases h1:s0<0
 ·rw[if_pos h1] at hE;have hs:=SAME.out (by rw[hE];decide);rw[hE,hs.1,hs.2];clear hE hs;go_enter Tryz.func78,Tryz.ntmps78;go_wp2_with fail;refine CN.out.mono ?_;rintro e w1 ⟨rfl,rfl⟩;go_wp2_with fail;go_ret;exact⟨rfl,_,_,D.out,g0a.refl _ _,λj hj=>.inl hj⟩
 ·rw[if_neg h1] at hE;by_cases h2:65536<s0
  ·rw[if_pos h2] at hE;have hs:=SAME.out (by rw[hE];decide);rw[hE,hs.1,hs.2];clear hE hs;go_enter Tryz.func78,Tryz.ntmps78;go_wp2_with fail;refine CN.out.mono ?_;rintro e w1 ⟨rfl,rfl⟩;go_wp2_with fail;go_ret;exact⟨rfl,_,_,D.out,g0a.refl _ _,λj hj=>.inl hj⟩
  ·rw[if_neg h2] at hE;obtain⟨s,rfl⟩:=Int.eq_ofNat_of_zero_le (show 0<=s0 by omega);have hB':T1a 0 B (s:Int)=y1a 0 B s/\T1a false Z (s:Int)=y1a false Z s:=by unfold T1a;rw[hE,if_pos rfl,if_pos rfl,Int.toNat_natCast];exact⟨rfl,rfl⟩
   rw[hE,hB'.1,hB'.2];clear hE hB';have hs65:s<=65536:=by omega
   obtain⟨f,hf,g0,g1⟩:=D.out.halfB (s:Int);have G0:Hid (∀(i:Nat) x,i<f->l[i]? = some x->x.1<s):=λi x hi hx=>by have:=g0 i x hi hx;omega
   have G1:Hid (∀(i:Nat) x,f<=i->l[i]? = some x->s<=x.1):=λi x hi hx=>by have:=g1 i x hi hx;omega
   have CH:=hI (s1b w base q v l B Z D.out (s:Int) f hf g0 g1);obtain⟨Av,nv,cv,rfl,hv⟩:=D.out.lst;have hnl:=hv.len;have hfn:f<=nv:=by omega
   have hn65:nv<=65536:=by have:=D.out.lenS;omega
   have q2:w.cell? ⟨q,2,none⟩=some (.slice Av nv cv):=D.out.blk.cell 2;have hvq:Hid ((Value.slice Av nv cv).ownBlock≠some q):=D.out.blk.ne_own D.out.row (by decide);have CD:Hid (∀w2,Below w.heap.size w w2->Calls Tryz.prog 125 #[.slice Av nv cv,.int .i64 (f:Nat),.int .i64 (nv:Nat)] w2 λe w'=>e=.returned (.slice Av f cv)/\j1a t0a 2 158 w' base (.slice Av f cv) (l.take f)/\g0a (λj=>(Value.slice Av nv cv).ownBlock=some j) w2 w'):=λw2 hb2=>u8b w2 base Av nv cv f l (D.out.row.below hb2) hfn hnl hn65
   have BQ:=hI D.out.blk;obtain⟨L,hL⟩:∃n,n=B.length:=⟨_,rfl⟩;rw[<-hL] at BQ hsm;have HLENS:=hI D.out.lens;have HF:=hI hf;clear hL g0 g1 hf hv;unfold ptr at CH;go_enter Tryz.func78,Tryz.ntmps78;go_wp2_with fail;refine CN.out.mono ?_;rintro e w1 ⟨rfl,rfl⟩;go_wp2_with fail;refine CH.out.mono ?_;rintro e w2 ⟨rfl,l2⟩;have L2:=hI l2;have k2:w2.cell? ⟨q,2,none⟩=some (.slice Av nv cv):=(l2.cell (lt_of_cell q2)).trans q2;clear l2 CH CN;go_upto_region 8 with fail
   refine m1a 12 (λw'=>w'.cell? ⟨q,2,none⟩=some (.slice Av nv cv)) (by kernel_rfl) ?_;change K2a _ _ _ _ _ _ _ _ _ w2.drew
   have Sr0:Hid (w2.drew.cell? ⟨q,2,none⟩=some (.slice Av nv cv)):=k2;have br0:Hid (True):=trivial;refine c0a (i:=0) (v:=_) rfl (by kernel_rfl) (by kernel_rfl) (by kernel_rfl) (λ_ _ _ h=>h) rfl (by kernel_rfl) (by kernel_rfl) (by decide) (a0a (by kernel_rfl) (.tmp 0) rfl (.pointer (some ⟨q,0,none⟩)) (by kernel_rfl)) Sr0.out ?_;refine c0a (i:=1) (v:=_) rfl (by kernel_rfl) (by kernel_rfl) (by kernel_rfl) (λ_ _ _ h=>h) rfl (by kernel_rfl) (by kernel_rfl) (by decide) (a0a (by kernel_rfl) (.tmp 0) rfl (.pointer (some ⟨q,0,none⟩)) (by kernel_rfl)) Sr0.out ?_;refine c0a (i:=2) (v:=_) rfl (by kernel_rfl) (by kernel_rfl) (by kernel_rfl) (λ_ _ _ h=>h) rfl (by kernel_rfl) (by kernel_rfl) (by decide) (p0a (by kernel_rfl) (.tmp 19) rfl ⟨q,0,none⟩ (by kernel_rfl)) Sr0.out ?_;refine c0a (i:=3) (v:=_) rfl (by kernel_rfl) (by kernel_rfl) (by kernel_rfl) (λ_ _ _ h=>h) rfl (by kernel_rfl) (by kernel_rfl) (by decide) (e0a (by kernel_rfl) _ (.tmp 20) 2 rfl (.pointer (some ⟨q,0,none⟩)) (.pointer (some ⟨q,2,none⟩)) (by kernel_rfl) (λw=>by go_simp)) Sr0.out ?_;refine c0a (i:=4) (v:=_) rfl (by kernel_rfl) (by kernel_rfl) (by kernel_rfl) (λ_ _ _ h=>h) rfl (by kernel_rfl) (by kernel_rfl) (by decide) (b0a (by kernel_rfl) _ (.tmp 21) rfl q (2) (by kernel_rfl) (.slice Av nv cv) (λ_ h=>h) _ Tryz.underlying154 rfl) Sr0.out ?_;refine c0a (i:=5) (v:=_) rfl (by kernel_rfl) (by kernel_rfl) (by kernel_rfl) (λ_ _ _ h=>h) rfl (by kernel_rfl) (by kernel_rfl) (by decide) (a0a (by kernel_rfl) (.tmp 5) rfl (.int .i64 (f:Nat)) (by kernel_rfl)) Sr0.out ?_;refine c0a (i:=6) (v:=_) rfl (by kernel_rfl) (by kernel_rfl) (by kernel_rfl) (λ_ _ _ h=>h) rfl (by kernel_rfl) (by kernel_rfl) (by decide) (a0a (by kernel_rfl) (.tmp 0) rfl (.pointer (some ⟨q,0,none⟩)) (by kernel_rfl)) Sr0.out ?_;refine c0a (i:=7) (v:=_) rfl (by kernel_rfl) (by kernel_rfl) (by kernel_rfl) (λ_ _ _ h=>h) rfl (by kernel_rfl) (by kernel_rfl) (by decide) (p0a (by kernel_rfl) (.tmp 24) rfl ⟨q,0,none⟩ (by kernel_rfl)) Sr0.out ?_;refine c0a (i:=8) (v:=_) rfl (by kernel_rfl) (by kernel_rfl) (by kernel_rfl) (λ_ _ _ h=>h) rfl (by kernel_rfl) (by kernel_rfl) (by decide) (e0a (by kernel_rfl) _ (.tmp 25) 2 rfl (.pointer (some ⟨q,0,none⟩)) (.pointer (some ⟨q,2,none⟩)) (by kernel_rfl) (λw=>by go_simp)) Sr0.out ?_;refine c0a (i:=9) (v:=_) rfl (by kernel_rfl) (by kernel_rfl) (by kernel_rfl) (λ_ _ _ h=>h) rfl (by kernel_rfl) (by kernel_rfl) (by decide) (b0a (by kernel_rfl) _ (.tmp 26) rfl q (2) (by kernel_rfl) (.slice Av nv cv) (λ_ h=>h) _ Tryz.underlying154 rfl) Sr0.out ?_;refine c0a (i:=10) (v:=.int .i64 (nv:Nat)) rfl (by kernel_rfl) (by kernel_rfl) (by kernel_rfl) (λ_ _ _ h=>h) rfl (by kernel_rfl) (by kernel_rfl) (by decide) (.inl ⟨by kernel_rfl,λw _=>by go_simp⟩) Sr0.out ?_;refine n0a 11 _ (by kernel_rfl) rfl λK hK=>?_
   go_simp;refine(CD.out _ L2.out.drew).mono ?_;rintro e vr1 ⟨rfl,o3,s3⟩;have Sr1:Hid (vr1.cell? ⟨q,2,none⟩=some (.slice Av nv cv)):=(O9a s3 (λe=>hvq.out e) (lt_of_cell Sr0.out)).trans Sr0.out;have br1:Hid (True):=trivial;have O3:=hI o3;have S3:=hI s3;clear o3 s3;refine hK _ _ (λ_=>Sr1.out) ?_;clear hK K;refine n0a 12 _ (by kernel_rfl) rfl λK hK=>?_
   go_simp;refine hK _ _ (λh=>Bool.noConfusion (show true=false from h)) ?_;clear hK K;refine n0a 13 _ (by kernel_rfl) rfl λK hK=>?_
   go_simp;refine hK _ _ (λh=>Bool.noConfusion (show true=false from h)) ?_;clear hK K;refine Q1a λa1 ha1=>?_
   have e1_31:a1.eval (.tmp 31)=.pointer (some ⟨q,2,none⟩):=by rw[ha1];kernel_rfl
   have e1_29:a1.eval (.tmp 29)=.slice Av f cv:=by rw[ha1];kernel_rfl
   refine n0a 14 _ (by kernel_rfl) rfl λK hK=>?_
   have BQ3:Hid (Blk vr1 q 156 [.bool true,.int .i64 (L:Nat),.slice Av nv cv]):=(BQ.out.below L2.out BQ.out.lt).drew.spare S3.out (λe=>hvq.out e);refine B1a (by kernel_rfl) 154 (.tmp 31) (.tmp 29) (by kernel_rfl) q 2 e1_31 156 [.bool true,.int .i64 (L:Nat),.slice Av nv cv] (.slice Av f cv) e1_29 BQ3 (show 2<3 by omega) (by kernel_rfl) rfl ?_;intro w4 BQ4 P4 hq4;refine hK _ _ (λh=>Bool.noConfusion (show true=false from h)) ?_;clear hK K;rw[ha1];refine K1a (by kernel_rfl) ?_ _;have BQ4':Hid (Blk w4 q 156 [.bool true,.int .i64 (L:Nat),.slice Av f cv]):=BQ4.out;have hq3:=BQ3.out;have O4:Hid (j1a t0a 2 158 w4 base (.slice Av f cv) (l.take f)):=O3.out.sparS (g0a.of_only P4.out) λi hi e=>hq3.ne_own O3.out (by decide) (by rw[hi,e])
   have EACH4:Hid (∀x∈l,V7a false w4 base (o3a x.2) x.2.2.2.2):=λx hx=>by
    have h1:=(D.out.each x hx).below (L2.out.drew);have h2:=h1.spare S3.out λi hi e=>h1.ne_own (D.out.row.below L2.out.drew) (by decide) hi e
    exact h2.spare (g0a.of_only P4.out) λi hi e=>h2.ne_blk hq3 (by decide) (by rw[hi,e])
   have SP4:Hid (g0a (pdS q (.slice Av nv cv) l) w w4):=((g0a.of_over (pdS q (.slice Av nv cv) l) L2.out.drew).trans (S3.out.mono (S':=pdS q (.slice Av nv cv) l) λj _ hj=>.inr (.inl hj)) λj _ h=>h).trans ((g0a.of_only P4.out).mono (S':=pdS q (.slice Av nv cv) l) λj _ hj=>.inl hj) λj _ h=>h
   have k2:w4.cell? ⟨q,2,none⟩=some (.slice Av f cv):=BQ4'.out.cell 2;clear hq3 BQ3 BQ4 O3 S3 P4 Sr0 Sr1 L2 q2 q0 CD BQ;rcases Nat.eq_zero_or_pos f with hf0 | hf0
   ·subst hf0;go_wp2_with(first
     | ((with_reducible show wpList _ _ _ (⟨none,.store _ _ _,_,_,_,_⟩::_) _ _);go_loud (refine q0a rfl _ (.tmp 68) (.tmp 66) rfl q 1 rfl _ [.bool true,.int .i64 (L:Nat),.slice Av 0 cv] (.int .i64 (s:Nat)) rfl BQ4' (show 1<3 by omega) (by kernel_rfl) rfl ?_);intro w5 BQ5 P5 hq5)
     | fail)
    go_ret;refine⟨rfl,J5a.wasCut D.out hs65 G0.out G1.out (l':=l.take 0) (by simp[g4a]) BQ5.out ?_ (λx hx=>by cases hx) (SP4.out.trans ((g0a.of_only P5.out).mono (S':=pdS q (.slice Av nv cv) l) λj _ hj=>.inl hj) λj _ h=>h)⟩;exact O4.out.sparS (g0a.of_only P5.out) λi hi e=>BQ4'.out.ne_own O4.out (by decide) (by rw[hi,e])
   ·obtain⟨x,hx⟩:∃x,l[f-1]? = some x:=⟨_,List.getElem?_eq_getElem (show f-1<l.length by have:=HF.out;omega)⟩;have hmx:=List.mem_of_getElem? hx;have hend:=D.out.ends x hmx;have hxs:=G0.out _ x (show f-1<f by omega) hx;have hlx:=HLENS.out x hmx;have hxpos:0<x.2.2.1:=by rw[<-hlx];exact List.length_pos_iff.2 (D.out.can.full (x.1,x.2.2.2.2) (G3a hmx))
    obtain⟨g,c',hg⟩:=O4.out.form (show 0<(l.take f).length by rw[List.length_take];have:=HF.out;omega);obtain rfl:Av=some ⟨g,0,none⟩:=by injection hg
    clear hg;obtain⟨_,hlt4,hfc,hcm,cs,hB,hcl,htk⟩:=O4.out.blk;have C6a:∀j u,(t0a x)[j]? = some u->w4.cell? ⟨g,(f-1)*2+j,none⟩=some u:=λj u hj=>by
     have hj2:j<2:=(List.getElem?_eq_some_iff.1 hj).1;rw[hB.cell];have e1:cs[(f-1)*2+j]? = (cs.take (f*2))[(f-1)*2+j]?:=by rw[List.getElem?_take,if_pos (by omega)]
     rw[e1,htk,g6a (by decide) D0a,show((f-1)*2+j)/2=f-1 by omega,show((f-1)*2+j)%2=j by omega,List.getElem?_take,if_pos (by omega),hx];exact hj
    obtain⟨xa,xA,xn,xc,px⟩:=x;simp only at hend hxs hlx hxpos;have hE4:=(EACH4.out _ hmx);have hpx:Bytes px:=by have:=D.out.can.have_ (xa,px) (G3a hmx);simp only at this;rw[this];exact(D.out.byte.drop _).take _
    have hH4:Holds w4 w4.heap.size xA xn xc px:=hE4.holds hpx (by have:=D.out.small;simp only;omega);obtain⟨bx,ox,rfl,hbx,_⟩:=hH4.cells hxpos;have hxc:=hH4.fit;have RX4:Hid (w4.rangeAt g ((f-1)*2) [.int .i64 (xa:Nat),.slice (some ⟨bx,ox,none⟩) xn xc]):=λj u hj=>C6a j u hj
    have HH4:=hI hH4;have HB4:=hI hB;have HCL:=hI hcl;have HTK:=hI htk;have HXX:=hI hx;have HMX:=hI hmx;have HPX:=hI hpx;have HLX:=hI hlx;have hf1:(f:Int)-1=((f-1:Nat):Int):=by omega
    have hf1w:IntKind.i64.wrap ((f:Int)-1)=((f-1:Nat):Int):=by rw[IntKind.wrap_i64];omega
    have hf1w2:IntKind.i64.wrap ((f-1:Nat):Int)=((f-1:Nat):Int):=by rw[IntKind.wrap_i64];omega
    have hff:f-1<f:=by omega
    have hd0:decide ((0:Int)<(f:Int))=true:=decide_eq_true (by omega);have hxa65:xa+xn<=65536:=by have:=D.out.small;omega
    have CE:=hI fun (w':World)=>h7a w' xa xn xc (some ⟨bx,ox,none⟩) (by omega) (by omega)
    clear C6a hB hcl htk hx hmx hE4 hH4 hpx hlx hlt4 hend;go_wp2_with(first
     | ((with_reducible refine sN 42 ?_);go_loud (refine r0b (by kernel_rfl) _ (.tmp 41) rfl g ((f-1)*2) rfl [.int .i64 (xa:Nat),.slice (some ⟨bx,ox,none⟩) xn xc] _ RX4.out Tryz.underlying158 rfl (by rw[size_ext];rfl) ?_))
     | fail)
    refine(CE.out w4).mono ?_;rintro e w5 ⟨rfl,l5⟩;have L5:=hI l5;have BQ5:=hI (BQ4'.out.over l5);have O5:=hI (O4.out.below l5);have EACH5:Hid (∀x∈l,V7a false w5 base (o3a x.2) x.2.2.2.2):=λx hx=>(EACH4.out x hx).below l5
    have SP5:Hid (g0a (pdS q (.slice (some ⟨g,0,none⟩) nv cv) l) w w5):=SP4.out.trans (g0a.of_over (pdS q (.slice (some ⟨g,0,none⟩) nv cv) l) l5) λj _ h=>h
    have BG5:=hI (HB4.out.over l5);have k2':w5.cell? ⟨q,2,none⟩=some (.slice (some ⟨g,0,none⟩) f cv):=BQ5.out.cell 2;have hg5:Hid (g<w5.heap.size):=BG5.out.lt;have rx5:w5.rangeAt g ((f-1)*2) [.int .i64 (xa:Nat),.slice (some ⟨bx,ox,none⟩) xn xc]:=L1a RX4.out l5 HB4.out.lt;have HH5:=hI ((HH4.out.below l5).mono l5.size);clear l5 BQ4' O4 EACH4 SP4 HB4 RX4 HH4 k2;by_cases hcut:s<xa+xn
    ·have hdc:decide ((s:Int)<(xa:Int)+(xn:Int))=true:=decide_eq_true (by omega);have CP:Hid (∀w':World,Calls Tryz.prog 113 #[.agg #[.int .i64 (xa:Nat),.slice (some ⟨bx,ox,none⟩) xn xc],.int .i64 0,.int .i64 (s:Nat)] w' λe w2=>e=.returned (.agg #[.int .i64 (xa:Nat),.slice (some ⟨bx,ox,none⟩) (s-xa) (s-xa)])/\Below w'.heap.size w' w2):=λw'=>by have:=I7b w' xa bx ox xn xc 0 s xa s hxc (by omega) (by omega) (by omega) (by omega) (by omega) (by omega) hxs;rw[Nat.sub_self,Nat.add_zero] at this;exact this
     have CC:Hid (∀w':World,Below w5.heap.size w5 w'->Calls Tryz.prog 126 #[.agg #[.int .i64 (xa:Nat),.slice (some ⟨bx,ox,none⟩) (s-xa) (s-xa)]] w' λe w2=>∃v,e=.returned (.agg #[.int .i64 (xa:Nat),v])/\E5a .u8 5 w2 w'.heap.size v (px.take (s-xa))/\Below w'.heap.size w' w2):=λw' hb'=>by have h5:=HH5.out.amidE (p:=0) (N:=s-xa) (by omega) (by omega) (s-xa) (Nat.le_refl _);rw[Nat.add_zero,List.drop_zero] at h5;exact r8b w' xa (s-xa) (s-xa) _ _ ((h5.below hb').mono hb'.size) (by omega)
     have hfit:Hid ((f-1)*2+2<=cs.length):=by show _<=_;rw[HCL.out];omega
     have hfcv:f-1<cv:=by omega
     go_upto_region 10 with fail
     refine m1a 17 (λw'=>w'.cell? ⟨q,2,none⟩=some (.slice (some ⟨g,0,none⟩) f cv)/\w'.rangeAt g ((f-1)*2) [.int .i64 (xa:Nat),.slice (some ⟨bx,ox,none⟩) xn xc]) (by kernel_rfl) ?_;change K2a _ _ _ _ _ _ _ _ _ w5.drew
     have Ss0:Hid (w5.drew.cell? ⟨q,2,none⟩=some (.slice (some ⟨g,0,none⟩) f cv)/\w5.drew.rangeAt g ((f-1)*2) [.int .i64 (xa:Nat),.slice (some ⟨bx,ox,none⟩) xn xc]):=⟨k2',rx5⟩;have bs0:Hid (True):=trivial;refine c0a (i:=0) (v:=_) rfl (by kernel_rfl) (by kernel_rfl) (by kernel_rfl) (λ_ _ _ h=>h) rfl (by kernel_rfl) (by kernel_rfl) (by decide) (a0a (by kernel_rfl) (.tmp 0) rfl (.pointer (some ⟨q,0,none⟩)) (by kernel_rfl)) Ss0.out ?_;refine c0a (i:=1) (v:=_) rfl (by kernel_rfl) (by kernel_rfl) (by kernel_rfl) (λ_ _ _ h=>h) rfl (by kernel_rfl) (by kernel_rfl) (by decide) (p0a (by kernel_rfl) (.tmp 47) rfl ⟨q,0,none⟩ (by kernel_rfl)) Ss0.out ?_;refine c0a (i:=2) (v:=_) rfl (by kernel_rfl) (by kernel_rfl) (by kernel_rfl) (λ_ _ _ h=>h) rfl (by kernel_rfl) (by kernel_rfl) (by decide) (e0a (by kernel_rfl) _ (.tmp 48) 2 rfl (.pointer (some ⟨q,0,none⟩)) (.pointer (some ⟨q,2,none⟩)) (by kernel_rfl) (λw=>by go_simp)) Ss0.out ?_;refine c0a (i:=3) (v:=_) rfl (by kernel_rfl) (by kernel_rfl) (by kernel_rfl) (λ_ _ _ h=>h) rfl (by kernel_rfl) (by kernel_rfl) (by decide) (b0a (by kernel_rfl) _ (.tmp 49) rfl q (2) (by kernel_rfl) (.slice (some ⟨g,0,none⟩) f cv) (λ_ h=>h.1) _ Tryz.underlying154 rfl) Ss0.out ?_;refine c0a (i:=4) (v:=_) rfl (by kernel_rfl) (by kernel_rfl) (by kernel_rfl) (λ_ _ _ h=>h) rfl (by kernel_rfl) (by kernel_rfl) (by decide) (a0a (by kernel_rfl) (.tmp 5) rfl (.int .i64 (f:Nat)) (by kernel_rfl)) Ss0.out ?_;refine c0a (i:=5) (v:=.int .i64 ((f-1:Nat):Int)) rfl (by kernel_rfl) (by kernel_rfl) (by kernel_rfl) (λ_ _ _ h=>h) rfl (by kernel_rfl) (by kernel_rfl) (by decide) (.inl ⟨by kernel_rfl,λw _=>by go_simp⟩) Ss0.out ?_;refine c0a (i:=6) (v:=_) rfl (by kernel_rfl) (by kernel_rfl) (by kernel_rfl) (λ_ _ _ h=>h) rfl (by kernel_rfl) (by kernel_rfl) (by decide) (a0a (by kernel_rfl) (.tmp 0) rfl (.pointer (some ⟨q,0,none⟩)) (by kernel_rfl)) Ss0.out ?_;refine c0a (i:=7) (v:=_) rfl (by kernel_rfl) (by kernel_rfl) (by kernel_rfl) (λ_ _ _ h=>h) rfl (by kernel_rfl) (by kernel_rfl) (by decide) (p0a (by kernel_rfl) (.tmp 53) rfl ⟨q,0,none⟩ (by kernel_rfl)) Ss0.out ?_;refine c0a (i:=8) (v:=_) rfl (by kernel_rfl) (by kernel_rfl) (by kernel_rfl) (λ_ _ _ h=>h) rfl (by kernel_rfl) (by kernel_rfl) (by decide) (e0a (by kernel_rfl) _ (.tmp 54) 2 rfl (.pointer (some ⟨q,0,none⟩)) (.pointer (some ⟨q,2,none⟩)) (by kernel_rfl) (λw=>by go_simp)) Ss0.out ?_;refine c0a (i:=9) (v:=_) rfl (by kernel_rfl) (by kernel_rfl) (by kernel_rfl) (λ_ _ _ h=>h) rfl (by kernel_rfl) (by kernel_rfl) (by decide) (b0a (by kernel_rfl) _ (.tmp 55) rfl q (2) (by kernel_rfl) (.slice (some ⟨g,0,none⟩) f cv) (λ_ h=>h.1) _ Tryz.underlying154 rfl) Ss0.out ?_;refine c0a (i:=10) (v:=_) rfl (by kernel_rfl) (by kernel_rfl) (by kernel_rfl) (λ_ _ _ h=>h) rfl (by kernel_rfl) (by kernel_rfl) (by decide) (a0a (by kernel_rfl) (.tmp 5) rfl (.int .i64 (f:Nat)) (by kernel_rfl)) Ss0.out ?_;refine c0a (i:=11) (v:=.int .i64 ((f-1:Nat):Int)) rfl (by kernel_rfl) (by kernel_rfl) (by kernel_rfl) (λ_ _ _ h=>h) rfl (by kernel_rfl) (by kernel_rfl) (by decide) (.inl ⟨by kernel_rfl,λw _=>by go_simp⟩) Ss0.out ?_;refine c0a (i:=12) (v:=.pointer (some ⟨g,(f-1)*2,none⟩)) rfl (by kernel_rfl) (by kernel_rfl) (by kernel_rfl) (λ_ _ _ h=>h) rfl (by kernel_rfl) (by kernel_rfl) (by decide) (.inl ⟨by kernel_rfl,λw _=>by go_simp⟩) Ss0.out ?_;refine c0a (i:=13) (v:=_) rfl (by kernel_rfl) (by kernel_rfl) (by kernel_rfl) (λ_ _ _ h=>h) rfl (by kernel_rfl) (by kernel_rfl) (by decide) (b1a (by kernel_rfl) _ (.tmp 59) rfl g ((f-1)*2) (by kernel_rfl) [.int .i64 (xa:Nat),.slice (some ⟨bx,ox,none⟩) xn xc] (λ_ h=>h.2) 2 _ Tryz.underlying158 rfl size_ext (rfl:Hid (([.int .i64 (xa:Nat),.slice (some ⟨bx,ox,none⟩) xn xc]:List Value).length=2))) Ss0.out ?_;refine c0a (i:=14) (v:=_) rfl (by kernel_rfl) (by kernel_rfl) (by kernel_rfl) (λ_ _ _ h=>h) rfl (by kernel_rfl) (by kernel_rfl) (by decide) (a0a (by kernel_rfl) (.tmp 1) rfl (.int .i64 (s:Nat)) (by kernel_rfl)) Ss0.out ?_;refine n0a 15 _ (by kernel_rfl) rfl λK hK=>?_
     go_simp;refine(CP.out _).mono ?_;rintro e vs1 ⟨rfl,l6⟩;have Ss1:Hid (vs1.cell? ⟨q,2,none⟩=some (.slice (some ⟨g,0,none⟩) f cv)/\vs1.rangeAt g ((f-1)*2) [.int .i64 (xa:Nat),.slice (some ⟨bx,ox,none⟩) xn xc]):=⟨(l6.cell (lt_of_cell Ss0.out.1)).trans Ss0.out.1,L1a Ss0.out.2 l6 hg5.out⟩;have bs1:Hid (True):=trivial;have K6:=hI ((Below.refl w5.heap.size w5).drew.trans l6);clear l6;refine hK _ _ (λ_=>Ss1.out) ?_;clear hK K;refine n0a 16 _ (by kernel_rfl) rfl λK hK=>?_
     go_simp;refine(CC.out _ K6.out).mono ?_;rintro e vs2 ⟨v2,rfl,o7,l7⟩;have Ss2:Hid (vs2.cell? ⟨q,2,none⟩=some (.slice (some ⟨g,0,none⟩) f cv)/\vs2.rangeAt g ((f-1)*2) [.int .i64 (xa:Nat),.slice (some ⟨bx,ox,none⟩) xn xc]):=⟨(l7.cell (lt_of_cell Ss1.out.1)).trans Ss1.out.1,L1a Ss1.out.2 l7 (Nat.lt_of_lt_of_le hg5.out K6.out.size)⟩;have bs2:Hid (True):=trivial;have O7:=hI (o7.mono K6.out.size);have K7:=hI (K6.out.trans (l7.mono K6.out.size));obtain⟨A1,n1,c1,rfl,_⟩:=o7.own.open;clear o7 l7;refine hK _ _ (λ_=>Ss2.out) ?_;clear hK K;refine n0a 17 _ (by kernel_rfl) rfl λK hK=>?_
     go_simp;refine hK _ _ (λh=>Bool.noConfusion (show true=false from h)) ?_;clear hK K;refine Q1a λa1 ha1=>?_
     have e1_64:a1.eval (.tmp 64)=.pointer (some ⟨g,(f-1)*2,none⟩):=by rw[ha1];kernel_rfl
     have e1_63:a1.eval (.tmp 63)=.agg #[.int .i64 (xa:Nat),.slice A1 n1 c1]:=by rw[ha1];kernel_rfl
     refine n0a 18 _ (by kernel_rfl) rfl λK hK=>?_
     have BG7:=hI (BG5.out.below K7.out hg5.out);refine X6a (by kernel_rfl) 158 (.tmp 64) (.tmp 63) (by kernel_rfl) g ((f-1)*2) e1_64 158 cs [.int .i64 (xa:Nat),.slice A1 n1 c1] e1_63 BG7 2 size_ext rfl hfit (v6a _ _ rfl) ?_;intro w8 BG8 P8 hg8;refine hK _ _ (λh=>Bool.noConfusion (show true=false from h)) ?_;clear hK K;rw[ha1];refine K1a (by kernel_rfl) ?_ _;have hqg:q≠g:=λe=>BQ5.out.ne_own O5.out (by decide) (by rw[e];rfl)
     have BQ8:Hid (Blk w8 q 156 [.bool true,.int .i64 (L:Nat),.slice (some ⟨g,0,none⟩) f cv]):=((BQ5.out.over K7.out).only P8.out hqg);go_wp2_with(first
      | ((with_reducible show wpList _ _ _ (⟨none,.store _ _ _,_,_,_,_⟩::_) _ _);go_loud (refine q0a rfl _ (.tmp 68) (.tmp 66) rfl q 1 rfl _ [.bool true,.int .i64 (L:Nat),.slice (some ⟨g,0,none⟩) f cv] (.int .i64 (s:Nat)) rfl BQ8 (show 1<3 by omega) (by kernel_rfl) rfl ?_);intro w9 BQ9 P9 hq9)
      | fail)
     go_ret;have hG8:=BG8.out;have hs57:=K7.out.size;have hw5:w.heap.size<=w5.heap.size:=SP5.out.size;have O7':=O7.out;have O8:E5a .u8 5 w8 w5.heap.size (.slice A1 n1 c1) (px.take (s-xa)):=O7'.keep λi _ hi hcs=>P8.out.rest i λe=>by subst e;rw[show vs2.heap[i]? = _ from BG7.out] at hcs;simp only[Option.some.injEq,Obj.cells.injEq] at hcs;exact absurd hcs.2.1 (by decide)
     have hY8:V7a false w8 base (.slice A1 n1 c1) (px.take (s-xa)):=V7a.of_z (O8.mono (Nat.le_trans hb hw5)) false;have hY9:V7a false w9 base (.slice A1 n1 c1) (px.take (s-xa)):=hY8.spare (g0a.of_only P9.out) λi hi e=>hY8.ne_blk BQ8.out (by decide) (by rw[hi,e])
     have hE9:∀x∈l,V7a false w9 base (o3a x.2) x.2.2.2.2:=λx hx=>by
      have h1:=(EACH5.out x hx).below K7.out;have h2:=h1.spare (g0a.of_only P8.out) λi hi e=>h1.ne_blk BG7.out (by decide) (by rw[hi,e])
      exact h2.spare (g0a.of_only P9.out) λi hi e=>h2.ne_blk BQ8.out (by decide) (by rw[hi,e])
     have SP9:g0a (pdS q (.slice (some ⟨g,0,none⟩) nv cv) l) w w9:=(SP5.out.trans ((g0a.of_over (pdS q (.slice (some ⟨g,0,none⟩) nv cv) l) K7.out).trans ((g0a.of_only P8.out).mono (S':=pdS q (.slice (some ⟨g,0,none⟩) nv cv) l) λj _ hj=>.inr (.inl (by rw[hj];rfl))) λj _ h=>h) λj _ h=>h).trans ((g0a.of_only P9.out).mono (S':=pdS q (.slice (some ⟨g,0,none⟩) nv cv) l) λj _ hj=>.inl hj) λj _ h=>h
     have hfl:=HF.out;refine⟨rfl,J5a.wasCut D.out hs65 G0.out G1.out (l':=l.take (f-1)++[((xa,A1,n1,c1,px.take (s-xa)):O2a)]) ?_ BQ9.out ?_ (λx hx=>?_) SP9⟩
     ·refine D.out.can.cut_map HLENS.out hfl G0.out (by rw[List.length_append,List.length_take];show min (f-1) l.length+1=f;omega) (λi x hi hx=>by rw[List.getElem?_append_left (by rw[List.length_take];omega),List.getElem?_take,if_pos (by omega),hx]) λx _ hx=>⟨(xa,A1,n1,c1,px.take (s-xa)),?_,?_⟩
      ·have e1:(l.take (f-1)).length=f-1:=by rw[List.length_take];omega
       rw[List.getElem?_append_right (by omega),e1,Nat.sub_self];rfl
      ·rw[HXX.out] at hx;injection hx with hx
       subst hx;exact⟨rfl,rfl⟩
     ·have hB9:Blk w9 g 158 _:=hG8.only P9.out (λe=>hqg e.symm);have e1:(cs.take ((f-1)*2)).length=(f-1)*2:=by rw[List.length_take,HCL.out];omega
      have e2:cs.take ((f-1)*2)=(l.take (f-1)).flatMap t0a:=by
       have h4:=congrArg (List.take ((f-1)*2)) HTK.out;rw[List.take_take,Nat.min_eq_left (by omega)] at h4;rw[h4];have h5:l.take f=l.take (f-1)++(l.take f).drop (f-1):=by
        conv=>lhs;rw[<-List.take_append_drop (f-1) (l.take f)]
        rw[List.take_take,Nat.min_eq_left (by omega)]
       rw[h5,List.flatMap_append,List.take_left' (by rw[C1a D0a,List.length_take];omega)]
      refine j1a.of_blk D0a (D.out.row.block rfl).1 hB9 ?_ hcm (by rw[List.length_append,List.length_take];show min (f-1) l.length+1=f;omega) hfc ?_
      ·have:=HCL.out;simp only[List.length_append,List.length_take,List.length_drop,List.length_cons,List.length_nil];omega
      ·rw[List.flatMap_append,<-e2,<-List.append_assoc,List.take_left' (by rw[List.length_append,e1];show(f-1)*2+2=f*2;omega)];rfl
     ·rcases List.mem_append.1 hx with hx | hx
      ·have hm:=List.mem_of_mem_take hx;exact⟨hE9 x hm,λi hi=>.inl (.inr (.inr ⟨x,hm,hi⟩))⟩
      ·rw[List.mem_singleton.1 hx];exact⟨hY9,λi hi=>.inr (Nat.le_trans hw5 (O8.own.block hi).1)⟩
    ·have hdc:decide ((s:Int)<(xa:Int)+(xn:Int))=false:=decide_eq_false (by omega);go_wp2_with(first
      | ((with_reducible show wpList _ _ _ (⟨none,.store _ _ _,_,_,_,_⟩::_) _ _);go_loud (refine q0a rfl _ (.tmp 68) (.tmp 66) rfl q 1 rfl _ [.bool true,.int .i64 (L:Nat),.slice (some ⟨g,0,none⟩) f cv] (.int .i64 (s:Nat)) rfl BQ5 (show 1<3 by omega) (by kernel_rfl) rfl ?_);intro w6 BQ6 P6 hq6)
      | fail)
     go_ret;refine⟨rfl,J5a.wasCut D.out hs65 G0.out G1.out (l':=l.take f) ?_ BQ6.out ?_ (λx hx=>⟨(EACH5.out x (List.mem_of_mem_take hx)).spare (g0a.of_only P6.out) λi hi e=>(EACH5.out x (List.mem_of_mem_take hx)).ne_blk BQ5.out (by decide) (by rw[hi,e]),λi hi=>.inl (.inr (.inr ⟨x,List.mem_of_mem_take hx,hi⟩))⟩) (SP5.out.trans ((g0a.of_only P6.out).mono (S':=pdS q (.slice (some ⟨g,0,none⟩) nv cv) l) λj _ hj=>.inl hj) λj _ h=>h)⟩
     ·refine D.out.can.cut_map HLENS.out HF.out G0.out (by rw[List.length_take];have:=HF.out;omega) (λi x hi hx=>by rw[List.getElem?_take,if_pos (by omega),hx]) λx _ hx=>⟨x,by rw[List.getElem?_take,if_pos (by omega),hx],rfl,?_⟩
      rw[HXX.out] at hx;injection hx with hx
      subst hx;exact(List.take_of_length_le (show px.length<=s-xa by have:=HLX.out;omega)).symm
     ·exact O5.out.sparS (g0a.of_only P6.out) λi hi e=>BQ5.out.ne_own O5.out (by decide) (by rw[hi,e])
noncomputable def V4c:DrI where
 tb:=F2a
 tbNext h hb:=F2a.next h hb
 tbUp h hb:=F2a.up h hb
 is:=V0c
 ge:=by rintro w b q L S ⟨v,m,D,d,hS⟩ j hj;exact d.set_lt j ((hS j).1 hj)
 ok:=by rintro w b q L S ⟨v,m,D,d,hS⟩;exact⟨d.ok,d.small,d.text⟩
 keep:=by rintro w w' b q L S S' ⟨v,m,D,d,hS⟩ a hs;exact⟨v,m,D,d.spare a λj hj=>hs j ((hS j).2 hj),hS⟩
 mono:=by rintro w b b' q L S ⟨v,m,D,d,hS⟩ hb;exact⟨v,m,D,d.mono hb,hS⟩
 new:=by intro w b _ _;refine(O2c w).mono ?_;rintro e w' ⟨q,m,rfl,d,hb⟩;exact⟨q,_,rfl,⟨_,m,_,d,λj=>Iff.rfl⟩,hb⟩
 len:=by rintro w b q L S ⟨v,m,D,d,hS⟩;obtain⟨A,c,rfl⟩:=d.len;refine(N2c w q L.length c A d.c0).mono ?_;rintro e w' ⟨rfl,rfl⟩;exact⟨rfl,0,rfl⟩
 find:=by rintro w b q L S ⟨v,m,D,d,hS⟩ tb hb s hs;exact M0c w b q v m D L d hb tb s hs
 add:=by rintro w b q L S ⟨v,m,D,d,hS⟩ tb hb s n hs hn hL;exact(f3c w b q v m D L d hb tb s hs n hn hL).mono λe w' h=>V0c.turn hS h
 remove:=by rintro w b q L S ⟨v,m,D,d,hS⟩ tb hb s hs;exact(j6b w b q v m D L d hb tb s hs).mono λe w' h=>V0c.turn hS h
 list:=by rintro w b q L S ⟨v,m,D,d,hS⟩ tb hb p a mo hp ha hm;exact m3c w b q L v m D d tb hb p a mo hp ha hm
noncomputable def k5c:FiI where
 is:=λw b q B Z S=>∃v l,J5a w b q v l B Z/\S=pdS q v l
 ge:=by rintro w b q B Z S ⟨v,l,d,rfl⟩ j hj;exact d.set_ge j hj
 okB:=by rintro w b q B Z S ⟨v,l,d,rfl⟩;exact⟨d.len,d.small,d.byte⟩
 keep:=by rintro w w' b q B Z S S' ⟨v,l,d,rfl⟩ a h;exact⟨v,l,d.spare a h,rfl⟩
 mono:=by rintro w b b' q B Z S ⟨v,l,d,rfl⟩ h;exact⟨v,l,d.mono h,rfl⟩
 new:=λw=>(A4c w).mono λe w' ⟨q,h1,h2,h3⟩=>⟨q,_,h1,⟨_,_,h2,rfl⟩,h3⟩
 size:=by rintro w b q B Z S ⟨v,l,d,rfl⟩;exact p3c w q B.length (d.blk.cell 1)
 read:=by rintro w b q B Z S ⟨v,l,d,rfl⟩ a k ha hk;refine(b1c w b q v l B Z d a k ha hk).mono ?_;rintro e w' ⟨u,h1,h2,h3⟩;exact⟨u,h1,h2.own,y4a.of h2 (Nat.le_refl _),h3⟩
 write:=by rintro w b q B Z S ⟨v,l,d,rfl⟩ a A n c xs ha hx hc _ hb;refine(w8b w b q v l B Z d a ha A n c xs hx hc hb).mono ?_;rintro e w' ⟨h1,v',l',h2,h3,h4⟩;exact⟨h1,_,⟨v',l',h2,rfl⟩,h3,h4⟩
 cut:=by rintro w b q B Z S ⟨v,l,d,rfl⟩ s hs hb;refine(s3c w b q v l B Z d s hs hb).mono ?_;rintro e w' ⟨h1,v',l',h2,h3,h4⟩;exact⟨h1,_,⟨v',l',h2,rfl⟩,h3,h4⟩
theorem M2b:y9b V4c:=λtb _=>F2a.tabs tb
theorem isV.pv{DI:DrI}{EI:FiI}{w:World}{b q:Nat}{V:X0a}{S:Nat->Prop}(h:isV DI EI w b q V S)(tb:DI.tb b w):∃m D M,PV DI EI w b q m D V M/\S=pvS q m M:=by obtain⟨m,D,M,p,e,ok,big,hS⟩:=h;exact⟨m,D,M,⟨p,e,ok,big,tb⟩,hS⟩
noncomputable def l5c (DI:DrI) (EI:FiI) (HT:y9b DI):e0b where
 tb:=DI.tb
 tbNext:=λh hb=>DI.tbNext h hb
 tbUp:=λh hb=>DI.tbUp h hb
 is:=isV DI EI
 ge:=by rintro w b q V S ⟨m,D,M,p,_,_,_,rfl⟩ j hj;exact p.lt j hj
 ok:=by rintro w b q V S ⟨m,D,M,p,_,ok,big,rfl⟩;exact⟨ok,big⟩
 keep:=by rintro w w' b q V S S' ⟨m,D,M,p,e,ok,big,rfl⟩ a hs;exact⟨m,D,M,p.spare a hs,e,ok,big,rfl⟩
 mono:=by rintro w b b' q V S ⟨m,D,M,p,e,ok,big,rfl⟩ hb;exact⟨m,D,M,p.mono hb,e,ok,big,rfl⟩
 new:=λtb hb hk=>c3c DI EI tb hb hk
 find:=by rintro w b q V S h tb hb s hs;obtain⟨m,D,M,p,rfl⟩:=h.pv tb;exact I4b HT p hs
 make:=by rintro w b q V S h tb hb hl s k hs;obtain⟨m,D,M,p,rfl⟩:=h.pv tb;exact E0c HT p hs hl
 remove:=by rintro w b q V S h tb hb n hn;obtain⟨m,D,M,p,rfl⟩:=h.pv tb;exact e6b p hn
 move:=by rintro w b q V S h tb hb n s o hn hs;obtain⟨m,D,M,p,rfl⟩:=h.pv tb;exact T0c HT p hn hs
 write:=by rintro w b q V S h tb hb n a A l c xs hn ha hh ho hc;obtain⟨m,D,M,p,rfl⟩:=h.pv tb;exact l8b p hn ha hh ho hc
 cut:=by rintro w b q V S h tb hb n s hn hs;obtain⟨m,D,M,p,rfl⟩:=h.pv tb;exact e3c p hn hs
 stat:=by
  rintro w b q V S ⟨m,D,M,p,e,ok,big,rfl⟩ n hn;cases hx:vAt V.l n with
  | none=>
   have c:=V2c p hn λy hy=>O8a hx _ (by rw[<-e];exact List.mem_map.2 ⟨y,hy,rfl⟩)
   have e1:z0a V.l n=0:=by unfold z0a;rw[hx]
   have e2:I4a V.l n=0:=by unfold I4a;rw[hx]
   have e3:N2a V.l n=7:=by unfold N2a;rw[hx];rfl
   rw[e1,e2,e3];exact c
  | some x=>
   obtain⟨hxl,hxn⟩:=y0a hx;rw[<-e] at hxl;obtain⟨y,hy,rfl⟩:=List.mem_map.1 hxl;have c:=v0c p hy hxn λhk=>(ok.dirB y.1 (by rw[<-e];exact List.mem_map.2 ⟨y,hy,rfl⟩) hk).1
   have e1:z0a V.l n=y.1.kind:=by unfold z0a;rw[hx]
   have e2:I4a V.l n=y.1.B.length:=by unfold I4a;rw[hx]
   have e3:N2a V.l n=0:=by unfold N2a;rw[hx];rfl
   rw[e1,e2,e3];exact c
 path:=by rintro w b q V S h tb hb n hn;obtain⟨m,D,M,p,rfl⟩:=h.pv tb;exact S4b HT p hn
 read:=by
  rintro w b q V S ⟨m,D,M,p,e,ok,big,rfl⟩ n a k hn ha hk;have nil:∀{E:Int},r1a V.l n=E->E≠0->Calls Tryz.prog 25 #[R0a q,.int .i64 n,.int .i64 a,.int .i64 k] w (λe w'=>e=.returned (.tuple #[.slice none 0 0,.int .i64 E])/\Below w.heap.size w w')->
    Calls Tryz.prog 25 #[R0a q,.int .i64 n,.int .i64 a,.int .i64 k] w λe w'=>∃u,e=.returned (.tuple #[u,.int .i64 (s2a V.l n a k)])/\Own w' w.heap.size u (E2a V.l n a k)/\Below w.heap.size w w':=fun {E} h1 h2 c=>by
   have e1:s2a V.l n a k=E:=by unfold s2a;rw[if_pos (by rw[h1];exact h2),h1]
   have e2:E2a V.l n a k=[]:=by unfold E2a;rw[if_neg (by rw[e1];exact h2)]
   rw[e1,e2];refine c.mono ?_;rintro e w' ⟨rfl,hb⟩;exact⟨_,rfl,v1a.nil _ _ _ _,hb⟩
  cases hx:vAt V.l n with
  | none=>
   have hno:∀y∈M,y.1.n≠n:=λy hy=>O8a hx _ (by rw[<-e];exact List.mem_map.2 ⟨y,hy,rfl⟩)
   exact nil (E:=7) (by unfold r1a;rw[hx];rfl) (by decide) (a9a p (K3b p hn hno) (by decide))
  | some x=>
   obtain⟨hxl,hxn⟩:=y0a hx;rw[<-e] at hxl;obtain⟨y,hy,rfl⟩:=List.mem_map.1 hxl;have hkk:z0a V.l n=y.1.kind:=by unfold z0a;rw[hx]
   rcases p.kind y hy with hk1 | hk2
   ·exact nil (E:=9) (by unfold r1a;rw[hx,if_neg (by simp),if_pos (by rw[hkk,hk1];decide)]) (by decide) (a9a p (l1b p hy hxn hk1) (by decide))
   ·have e0:r1a V.l n=0:=by unfold r1a;rw[hx,if_neg (by simp),if_neg (by rw[hkk,hk2];decide)]
    have eb:H0a V.l n=y.1.B:=by unfold H0a;rw[hx]
    have e1:s2a V.l n a k=G4a y.1.B.length a k:=by unfold s2a;rw[if_neg (by rw[e0];decide),eb]
    have e2:E2a V.l n a k=d0b y.1.B a k:=by
     unfold E2a;rw[e1,eb];by_cases h0:G4a y.1.B.length a k=0
     ·rw[if_pos h0]
     ·rw[if_neg h0];unfold d0b;rw[if_neg h0]
    rw[e1,e2];exact w0c p hy hxn hk2 ha hk
 list:=by rintro w b q V S h tb hb n k p' a hn hk hp ha;obtain⟨m,D,M,p,rfl⟩:=h.pv tb;exact U0c p hn hk hp ha
 used:=by rintro w b q V S h tb;obtain⟨m,D,M,p,rfl⟩:=h.pv tb;exact n1b p
 nodes:=by rintro w b q V S h tb;obtain⟨m,D,M,p,rfl⟩:=h.pv tb;exact j8b p
noncomputable def j7a:e0b:=l5c V4c k5c M2b
open Go.RowKit Go.Shelf
theorem x8b:(Rows.laid_unicode_utf8_first:DataW Unit)=Lib.firstData:=by kernel_rfl
theorem r6b:(Rows.laid_unicode_utf8_acceptRanges:DataW Unit)=Lib.acceptData:=by kernel_rfl
theorem P2a{W:World}(hL:laidMetH Tryz.prog [("unicode/utf8.acceptRanges",Rows.laid_unicode_utf8_acceptRanges),("unicode/utf8.first",Rows.laid_unicode_utf8_first)] W):k5a W:=by rw[x8b,r6b] at hL;exact utf8Tabs_of_readsT (U8Types.of196 Tryz.lays196) ⟨by kernel_rfl,by kernel_rfl,by kernel_rfl,by kernel_rfl,by kernel_rfl,by kernel_rfl,by kernel_rfl⟩ (Lib.laidMet.reads hL (.tail _ (.head _))) (Lib.laidMet.reads hL (.head _))
noncomputable def R1a (os:Os):World:=
 let w0:=World.holding Tryz.prog os ⟨#[],#[],[]⟩
 let put (h:Array Obj) (g:Nat) (cs:Array Value):Array Obj:=h.modify g fun
  | .cells _ t frozen=>.cells cs t frozen
  | o=>o
 let h1:=put w0.heap 1 (Lib.firstTab.map λz=>Value.int .u8 z).toArray
 let h2:=put h1 2 ((List.range 16).flatMap λi=>[Value.int .u8 (Lib.accLo i),Value.int .u8 (Lib.accHi i)]).toArray
 { w0 with heap:=h2 }
theorem A5a(os:Os)(args:Array Value):laidMet Tryz.prog [("unicode/utf8.acceptRanges",Rows.laid_unicode_utf8_acceptRanges),("unicode/utf8.first",Rows.laid_unicode_utf8_first)] ((R1a os).forCall (λ_ _=>0) ⟨#[],args,[]⟩).memory:=laidMet_of_run' 8 (by kernel_rfl) (by kernel_rfl)
end Go.Proofs.YtdgpbhdihhchgaaGreatDoor
