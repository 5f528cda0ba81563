import Derived.StillTailTactics
import Derived.Lib.Overlaps
import Derived.Test.YtdgpbhdihhchgaaGreatDoorSAA
import Derived.Test.YtdgpbhdihhchgaaGreatDoorS0
set_option linter.all false
set_option maxHeartbeats 8000000
set_option maxRecDepth 100000
namespace Go.Proofs.YtdgpbhdihhchgaaGreatDoor
open Go.RowKit
def ints(L:List Nat):List Int:=L.map (λn:Nat=>(n:Int))
theorem P1a(L:List Nat):(ints L).length=L.length:=by simp[ints]
theorem I8a(L:List Nat)(i:Nat):(ints L).getD i 0=((L.getD i 0:Nat):Int):=by unfold ints;simp only[List.getD_eq_getElem?_getD,List.getElem?_map];cases L[i]?<;>rfl
theorem Q5b(L M:List Nat):ints (L++M)=ints L++ints M:=by simp[ints]
def e7b(w:World)(b:Nat):Nat:=match w.cell? ⟨b,0,none⟩ with | some (.slice _ n _)=>n | _=>0
theorem t4b{w:World}{b:Nat}{T:TypeId}{A:Option Addr}{n c:Nat}(h:Box w b T (.slice A n c)):e7b w b=n:=by unfold e7b;rw[h.cell]
theorem v1a.oneCell{k:IntKind}{e:TypeId}{w:World}{base:Nat}{v:Value}{xs:List Int}(h:v1a k e w base v xs):v.oneCell'=true:=by obtain⟨A,n,c,rfl,_⟩:=h.open;rfl
theorem v1a.at{k:IntKind}{e:TypeId}{w:World}{base:Nat}{g n c:Nat}{xs:List Int}(h:v1a k e w base (.slice (some ⟨g,0,none⟩) n c) xs){i:Nat}(hi:i<n):w.cell? ⟨g,i,none⟩=some (.int k (xs.getD i 0)):=by obtain⟨A',n',c',he,_,_,_,_,hc⟩:=h.open;cases he;obtain⟨g',e1,_,_,hcc⟩:=hc (by omega);cases e1;exact hcc i hi
theorem v1a.length{k:IntKind}{e:TypeId}{w:World}{base:Nat}{A:Option Addr}{n c:Nat}{xs:List Int}(h:v1a k e w base (.slice A n c) xs):xs.length=n:=by obtain⟨A',n',c',he,hl,_⟩:=h.open;cases he;exact hl
theorem R4a{w w':World}{b:Nat}{T:TypeId}{v:Value}{k:IntKind}{e:TypeId}{base:Nat}{xs:List Int}(h:Box w b T v)(ho:v1a k e w' base v xs):e7b w b=xs.length:=by obtain⟨A,n,c,rfl,hl,_⟩:=ho.open;rw[t4b h,hl]
def w2c(w:World)(base b1:Nat)(v:Value)(M:List Nat)(e:Ending)(w':World):Prop:=e=.returned (.tuple #[])/\∃v',Box w' b1 44 v'/\v1a .i64 3 w' base v' (ints M)/\d1a w w' b1 v/\p3a w v v'
theorem x2c{L:List Nat}{m k d:Nat}(h:s4b L m)(_hm:m<=k):s4b (L++List.range' k d) (if d=0 then m else k+d):=by
 cases d with
 | zero=>simpa using h
 | succ d=>refine .inr ⟨by simp[List.range'_succ],?_⟩;rw[if_neg (by omega),List.range'_concat];simp;omega
theorem f7b(w:World)(base base2 b1 b2:Nat)(v q:Value)(L:List Nat)(p:List Int)(k m:Nat)(hk:k<=p.length)(hp:p.length<=1000000)(hL:L.length<=1000000)(hlast:s4b L m)(hB1:Box w b1 44 v)(hB2:Box w b2 179 q)
(ho:v1a .i64 3 w base v (ints L))(hq:v1a .i32 21 w base2 q p)(hb:base<=w.heap.size) :
  Calls Tryz.prog 210 #[.int .i64 k,.pointer (some ⟨b1,0,none⟩),.pointer (some ⟨b2,0,none⟩)] w (w2c w base b1 v (V0b p m L k)):=by
 by_cases hm:m<=k
 ·have hs:=s3b p k hk;obtain⟨st1,st2⟩:=Q5a p _ k rfl;have hne12:b1≠b2:=hB1.ne hB2 (by decide);have hap:Apart v q:=λi hv hqi=>by obtain⟨_,cs,h1⟩:=ho.block hv;obtain⟨_,cs',h2⟩:=hq.block hqi;rw[h1] at h2;simp at h2
  have hvb2:=hB2.own ho (by decide);have hqb1:=hB1.own hq (by decide);obtain⟨S,hS⟩:∃S,S=P5a p k:=⟨_,rfl⟩;have hW:V0b p m L k=L++List.range' k (S+1):=by unfold V0b;rw[if_pos hm,hS]
  rw[hW];rw[<-hS] at hs st1 st2;obtain⟨l0,hl0⟩:∃l,l=L.length:=⟨_,rfl⟩;have HLAST:=hI hlast;have HL0:=hI hl0;have HQ:=hI hq;have HB2:=hI hB2;have HB1:=hI hB1;have HO:=hI ho;have HAP:=hI hap;have ST1:=hI st1;have ST2:=hI st2;clear hW hS hlast hl0 hq hB2 hB1 ho hap st1 st2;go_enter Tryz.func210,Tryz.ntmps210;go_wp2;go_loopw [0] (λi wr=>∃(d z:Nat) (v':Value),((d<=S/\z=k+d)∨(d=S+1/\z=k+S))/\i=.int .i64 z/\Hid (Box wr b1 44 v')/\Hid (v1a .i64 3 wr base v' (ints (L++List.range' k d)))/\Hid (d1a w wr b1 v)/\Hid (p3a w v v')) (λ_ wr=>l0+S+1-e7b wr b1)
  case atStart=>exact⟨0,k,v,.inl ⟨Nat.zero_le _,rfl⟩,rfl,HB1,by simpa using HO,d1a.refl _ _ _,p3a.refl _ _⟩
  case round=>
   obtain⟨d,z,v',hd,rfl,BX,OX,TX,WX⟩:=hrel;obtain⟨A,n,c,rfl,hn,hnc,_,_,hcell⟩:=OX.out.open;rw[P1a] at hn;have hnl:n=l0+d:=by have:=HL0.out;rw[List.length_append,List.length_range'] at hn;omega
   have hlr:=x2c (d:=d) HLAST.out hm;have hbx:=BX.out.cell;have hbase:base<=wr.heap.size:=by have:=TX.out.size;omega
   have hboxlen:=t4b BX.out;obtain⟨M,hM⟩:∃M,M=L++List.range' k d:=⟨_,rfl⟩;have hMz:L++List.range' k (d+1)=M++[k+d]:=by rw[hM,List.range'_concat];simp
   rw[<-hM] at OX hn hlr hcell;have HMZ:=hI hMz;have HN:=hI hn;have HBL:=hI hboxlen;have hMM:=hM;clear hM hMz hboxlen;rcases hd with⟨hdS,hz⟩ | ⟨hdS,hz⟩
   ·obtain⟨Aq,nq,cq,rfl,hnq,_,_,_,hcq⟩:=HQ.out.open;have HNQ:=hI hnq;have hlow:(M=[]/\n=0)∨∃N1 y,n=N1+1/\y<z/\M.getD N1 0=y:=by
     rcases hlr with⟨h1,_⟩ | ⟨h1,h2⟩
     ·exact .inl ⟨h1,by rw[h1] at hn;exact hn.symm⟩
     ·have hpos:0<M.length:=List.length_pos_iff.2 h1;refine .inr ⟨n-1,M.getD (n-1) 0,by omega,?_,rfl⟩;rw[hn] at h2;split at h2<;>omega
    have hzq:z<=nq:=by omega
    have hmz:Hid (ints (L++List.range' k (d+1))=ints M++[(z:Int)]):=by
     show _=_
     rw[HMZ.out,Q5b,hz];rfl
    rw[<-hz] at hlr;have hnz:n<2000002:=by have:=HL0.out;omega
    rcases hlow with⟨_,rfl⟩ | ⟨N1,y,rfl,hyz,hy⟩
    ·have hz0:=hz;have HZ:=hI hz;have HNL:=hI hnl;by_cases hd1:d<S
     ·have hstar:p.getD z 0=42:=by rw[hz];exact ST1.out d hd1
      have hzl:z<nq:=by have:=getD_lt (by omega) hstar;omega
      obtain⟨gq,rfl,_,_,_⟩:=hcq (by omega);have HST:=hI hstar;clear hcell hlr hn hnq hz0 hcq hz hnl hstar;go_wp2_with(first
       | (at_builtin;go_loud (refine U1a rfl (.tmp 17) (.tmp 19) .i64 44 3 8 Tryz.underlying44 k2a rfl base _ (ints M) [(z:Int)] _ rfl 1 1 rfl rfl rfl OX.out (by rw[P1a];have:=HN.out;omega) (by rw[P1a];have:=HN.out;omega) hbase ?_;intro v1 w1 ho1 hg1 hw1))
       | ((with_reducible show wpList _ _ _ (⟨none,_,_,_,_,_⟩::_) _ _);go_loud (refine V1a rfl _ (.tmp 1) (.tmp 20) rfl b1 rfl v1 rfl 44 _ (BX.out.grew hg1.out OX.out (by decide)) (by kernel_rfl) ho1.out.oneCell ?_;intro w2 hB3 hO2);have T2:=hI (TX.out.append WX.out hg1.out hO2.out);have gb2:=(HB2.out.turned T2.out hne12.symm hvb2).cell;have gq2:=(HQ.out.turned T2.out hqb1 HAP.out).at hzl;rw[HST.out] at gq2)
       | fail)
      go_roundw
      case rel=>refine⟨d+1,z+1,v1,.inl ⟨hd1,by have:=HZ.out;omega⟩,by go_num,hB3,?_,T2,WX.out.trans hw1.out TX.out.size⟩;have h:=ho1.out.only hO2.out (BX.out.grew hg1.out OX.out (by decide)) (by decide);rw[<-hmz.out] at h;exact h
      case measure=>have e1:=R4a hB3.out ho1.out;have e2:=HBL.out;have e3:=HN.out;have e4:=HNL.out;rw[List.length_append,P1a,e3] at e1;simp only[List.length_cons,List.length_nil] at e1;rw[e1,e2];omega
     have hns:p.getD z 0≠42:=by rw[hz,show d=S by omega];exact ST2.out
     by_cases hzl:z<nq
     ·obtain⟨gq,rfl,_,_,_⟩:=hcq (by omega);obtain⟨pc,hpc⟩:∃pc,p.getD z 0=pc:=⟨_,rfl⟩;rw[hpc] at hns;have HPC:=hI hpc;have htn:(pc==42)=false:=by simpa using hns
      clear hcell hlr hn hnq hz0 hcq hz hnl hpc;go_wp2_with(first
       | (at_builtin;go_loud (refine U1a rfl (.tmp 17) (.tmp 19) .i64 44 3 8 Tryz.underlying44 k2a rfl base _ (ints M) [(z:Int)] _ rfl 1 1 rfl rfl rfl OX.out (by rw[P1a];have:=HN.out;omega) (by rw[P1a];have:=HN.out;omega) hbase ?_;intro v1 w1 ho1 hg1 hw1))
       | ((with_reducible show wpList _ _ _ (⟨none,_,_,_,_,_⟩::_) _ _);go_loud (refine V1a rfl _ (.tmp 1) (.tmp 20) rfl b1 rfl v1 rfl 44 _ (BX.out.grew hg1.out OX.out (by decide)) (by kernel_rfl) ho1.out.oneCell ?_;intro w2 hB3 hO2);have T2:=hI (TX.out.append WX.out hg1.out hO2.out);have gb2:=(HB2.out.turned T2.out hne12.symm hvb2).cell;have gq2:=(HQ.out.turned T2.out hqb1 HAP.out).at hzl;rw[HPC.out] at gq2)
       | fail)
      go_roundw
      case rel=>refine⟨d+1,z,v1,.inr ⟨by omega,by have:=HZ.out;omega⟩,rfl,hB3,?_,T2,WX.out.trans hw1.out TX.out.size⟩;have h:=ho1.out.only hO2.out (BX.out.grew hg1.out OX.out (by decide)) (by decide);rw[<-hmz.out] at h;exact h
      case measure=>have e1:=R4a hB3.out ho1.out;have e2:=HBL.out;have e3:=HN.out;have e4:=HNL.out;rw[List.length_append,P1a,e3] at e1;simp only[List.length_cons,List.length_nil] at e1;rw[e1,e2];omega
     ·clear hcell hlr hn hnq hz0 hcq hz hnl hns;have hze:¬z<nq:=hzl;go_wp2_with(first
       | (at_builtin;go_loud (refine U1a rfl (.tmp 17) (.tmp 19) .i64 44 3 8 Tryz.underlying44 k2a rfl base _ (ints M) [(z:Int)] _ rfl 1 1 rfl rfl rfl OX.out (by rw[P1a];have:=HN.out;omega) (by rw[P1a];have:=HN.out;omega) hbase ?_;intro v1 w1 ho1 hg1 hw1))
       | ((with_reducible show wpList _ _ _ (⟨none,_,_,_,_,_⟩::_) _ _);go_loud (refine V1a rfl _ (.tmp 1) (.tmp 20) rfl b1 rfl v1 rfl 44 _ (BX.out.grew hg1.out OX.out (by decide)) (by kernel_rfl) ho1.out.oneCell ?_;intro w2 hB3 hO2);have T2:=hI (TX.out.append WX.out hg1.out hO2.out);have gb2:=(HB2.out.turned T2.out hne12.symm hvb2).cell)
       | fail)
      go_roundw
      case rel=>refine⟨d+1,z,v1,.inr ⟨by omega,by have:=HZ.out;omega⟩,rfl,hB3,?_,T2,WX.out.trans hw1.out TX.out.size⟩;have h:=ho1.out.only hO2.out (BX.out.grew hg1.out OX.out (by decide)) (by decide);rw[<-hmz.out] at h;exact h
      case measure=>have e1:=R4a hB3.out ho1.out;have e2:=HBL.out;have e3:=HN.out;have e4:=HNL.out;rw[List.length_append,P1a,e3] at e1;simp only[List.length_cons,List.length_nil] at e1;rw[e1,e2];omega
    ·obtain⟨g,rfl,_,_,hcc⟩:=hcell (by omega);have gl:=hcc N1 (by omega);rw[I8a,hy] at gl;have htest:((N1:Int)+1==0||decide (y<z))=true:=by have h2:decide (y<z)=true:=decide_eq_true hyz;rw[h2,Bool.or_true]
     have HZ:=hI hz;have HNL:=hI hnl;by_cases hd1:d<S
     ·have hstar:p.getD z 0=42:=by rw[hz];exact ST1.out d hd1
      have hzl:z<nq:=by have:=getD_lt (by omega) hstar;omega
      obtain⟨gq,rfl,_,_,_⟩:=hcq (by omega);have HST:=hI hstar;clear hcell hcc hlr hy hn hnq hcq hz hnl hstar;go_wp2_with(first
       | (at_builtin;go_loud (refine U1a rfl (.tmp 17) (.tmp 19) .i64 44 3 8 Tryz.underlying44 k2a rfl base _ (ints M) [(z:Int)] _ rfl 1 1 rfl rfl rfl OX.out (by rw[P1a];have:=HN.out;omega) (by rw[P1a];have:=HN.out;omega) hbase ?_;intro v1 w1 ho1 hg1 hw1))
       | ((with_reducible show wpList _ _ _ (⟨none,_,_,_,_,_⟩::_) _ _);go_loud (refine V1a rfl _ (.tmp 1) (.tmp 20) rfl b1 rfl v1 rfl 44 _ (BX.out.grew hg1.out OX.out (by decide)) (by kernel_rfl) ho1.out.oneCell ?_;intro w2 hB3 hO2);have T2:=hI (TX.out.append WX.out hg1.out hO2.out);have gb2:=(HB2.out.turned T2.out hne12.symm hvb2).cell;have gq2:=(HQ.out.turned T2.out hqb1 HAP.out).at hzl;rw[HST.out] at gq2)
       | fail)
      go_roundw
      case rel=>refine⟨d+1,z+1,v1,.inl ⟨hd1,by have:=HZ.out;omega⟩,by go_num,hB3,?_,T2,WX.out.trans hw1.out TX.out.size⟩;have h:=ho1.out.only hO2.out (BX.out.grew hg1.out OX.out (by decide)) (by decide);rw[<-hmz.out] at h;exact h
      case measure=>have e1:=R4a hB3.out ho1.out;have e2:=HBL.out;have e3:=HN.out;have e4:=HNL.out;rw[List.length_append,P1a,e3] at e1;simp only[List.length_cons,List.length_nil] at e1;rw[e1,e2];omega
     have hns:p.getD z 0≠42:=by rw[hz,show d=S by omega];exact ST2.out
     by_cases hzl:z<nq
     ·obtain⟨gq,rfl,_,_,_⟩:=hcq (by omega);obtain⟨pc,hpc⟩:∃pc,p.getD z 0=pc:=⟨_,rfl⟩;rw[hpc] at hns;have HPC:=hI hpc;have htn:(pc==42)=false:=by simpa using hns
      clear hcell hcc hlr hy hn hnq hcq hz hnl hpc;go_wp2_with(first
       | (at_builtin;go_loud (refine U1a rfl (.tmp 17) (.tmp 19) .i64 44 3 8 Tryz.underlying44 k2a rfl base _ (ints M) [(z:Int)] _ rfl 1 1 rfl rfl rfl OX.out (by rw[P1a];have:=HN.out;omega) (by rw[P1a];have:=HN.out;omega) hbase ?_;intro v1 w1 ho1 hg1 hw1))
       | ((with_reducible show wpList _ _ _ (⟨none,_,_,_,_,_⟩::_) _ _);go_loud (refine V1a rfl _ (.tmp 1) (.tmp 20) rfl b1 rfl v1 rfl 44 _ (BX.out.grew hg1.out OX.out (by decide)) (by kernel_rfl) ho1.out.oneCell ?_;intro w2 hB3 hO2);have T2:=hI (TX.out.append WX.out hg1.out hO2.out);have gb2:=(HB2.out.turned T2.out hne12.symm hvb2).cell;have gq2:=(HQ.out.turned T2.out hqb1 HAP.out).at hzl;rw[HPC.out] at gq2)
       | fail)
      go_roundw
      case rel=>refine⟨d+1,z,v1,.inr ⟨by omega,by have:=HZ.out;omega⟩,rfl,hB3,?_,T2,WX.out.trans hw1.out TX.out.size⟩;have h:=ho1.out.only hO2.out (BX.out.grew hg1.out OX.out (by decide)) (by decide);rw[<-hmz.out] at h;exact h
      case measure=>have e1:=R4a hB3.out ho1.out;have e2:=HBL.out;have e3:=HN.out;have e4:=HNL.out;rw[List.length_append,P1a,e3] at e1;simp only[List.length_cons,List.length_nil] at e1;rw[e1,e2];omega
     ·clear hcell hcc hlr hy hn hnq hcq hz hnl hns;have hze:¬z<nq:=hzl;go_wp2_with(first
       | (at_builtin;go_loud (refine U1a rfl (.tmp 17) (.tmp 19) .i64 44 3 8 Tryz.underlying44 k2a rfl base _ (ints M) [(z:Int)] _ rfl 1 1 rfl rfl rfl OX.out (by rw[P1a];have:=HN.out;omega) (by rw[P1a];have:=HN.out;omega) hbase ?_;intro v1 w1 ho1 hg1 hw1))
       | ((with_reducible show wpList _ _ _ (⟨none,_,_,_,_,_⟩::_) _ _);go_loud (refine V1a rfl _ (.tmp 1) (.tmp 20) rfl b1 rfl v1 rfl 44 _ (BX.out.grew hg1.out OX.out (by decide)) (by kernel_rfl) ho1.out.oneCell ?_;intro w2 hB3 hO2);have T2:=hI (TX.out.append WX.out hg1.out hO2.out);have gb2:=(HB2.out.turned T2.out hne12.symm hvb2).cell)
       | fail)
      go_roundw
      case rel=>refine⟨d+1,z,v1,.inr ⟨by omega,by have:=HZ.out;omega⟩,rfl,hB3,?_,T2,WX.out.trans hw1.out TX.out.size⟩;have h:=ho1.out.only hO2.out (BX.out.grew hg1.out OX.out (by decide)) (by decide);rw[<-hmz.out] at h;exact h
      case measure=>have e1:=R4a hB3.out ho1.out;have e2:=HBL.out;have e3:=HN.out;have e4:=HNL.out;rw[List.length_append,P1a,e3] at e1;simp only[List.length_cons,List.length_nil] at e1;rw[e1,e2];omega
   ·obtain⟨N1,y,rfl,hyz,hy⟩:∃N1 y,n=N1+1/\y=z/\M.getD N1 0=y:=by
     rcases hlr with⟨h1,h2⟩ | ⟨h1,h2⟩
     ·rw[if_neg (by omega)] at h2;omega
     ·have hpos:0<M.length:=List.length_pos_iff.2 h1;refine⟨n-1,M.getD (n-1) 0,by omega,?_,rfl⟩;rw[hn,if_neg (by omega)] at h2;omega
    obtain⟨g,rfl,_,_,hcc⟩:=hcell (by omega);have gl:=hcc N1 (by omega);rw[I8a,hy] at gl;have htest:((N1:Int)+1==0||decide (y<z))=false:=by
     have h1:((N1:Int)+1==0)=false:=by simp;omega
     have h2:decide (y<z)=false:=decide_eq_false (by omega);rw[h1,h2];rfl
    have HMM:Hid (M=L++List.range' k (S+1)):=by
     show _=_
     rw[hMM,hdS]
    clear hcell hcc hlr hy hn hdS hz hnl hyz hMM;go_wp2;go_end0;refine⟨rfl,_,BX.out,?_,TX.out,WX.out⟩;rw[<-HMM.out];exact OX.out
 ·have hW:V0b p m L k=L:=by unfold V0b;rw[if_neg hm]
  rw[hW];obtain⟨A,n,c,rfl,hn,_,_,_,hc⟩:=ho.open;rw[P1a] at hn;obtain⟨N1,y,rfl,hy,hky⟩:∃N1 y,n=N1+1/\L.getD N1 0=y/\k<=y:=by
   rcases hlast with⟨h1,h2⟩ | ⟨h1,h2⟩
   ·omega
   ·have hpos:0<L.length:=List.length_pos_iff.2 h1;exact⟨n-1,L.getD (n-1) 0,by omega,rfl,by rw[hn] at h2;omega⟩
  obtain⟨g,rfl,_,_,hcc⟩:=hc (by omega);have gl:=hcc N1 (by omega);rw[I8a,hy] at gl;have gb:=hB1.cell;have htest:((N1:Int)+1==0||decide (y<k))=false:=by
   have h1:((N1:Int)+1==0)=false:=by simp;omega
   have h2:decide (y<k)=false:=decide_eq_false (by omega);rw[h1,h2];rfl
  have HO:=hI ho;have HBl:=hI hB1;clear hcc hc ho hB1 hlast hy hq hB2 hW;go_enter Tryz.func210,Tryz.ntmps210;go_wp2;refine wp_loop_rounds 1 ?_;rw[rounds_succ];go_wp2;go_end0;exact⟨rfl,_,HBl.out,HO.out,d1a.refl _ _ _,p3a.refl _ _⟩
theorem u4b(w:World)(base:Nat)(v:Value)(xs:List Int)(x:Int)(h:v1a .i64 3 w base v xs) :
  Calls Tryz.prog 211 #[v,.int .i64 x] w λe w'=>e=.returned (.bool (xs.contains x))/\w'=w:=by
 obtain⟨A,n,c,rfl,hl,_,h63,_,hc⟩:=h.open;by_cases h0:0<n
 ·obtain⟨g,rfl,_,_,hcc⟩:=hc h0;have:=Tryz.slices_Contains_int g 0 n c xs x w (by omega) h63 (λj hj=>by rw[Nat.zero_add];exact hcc j (by omega))
  rwa [List.take_of_length_le (by omega)] at this
 ·obtain rfl:n=0:=by omega
  obtain rfl:xs=[]:=List.eq_nil_of_length_eq_zero hl;exact Tryz.slices_Contains_int_empty A c x w
theorem v4b(p t:List Int):(ints (places p t)).contains (p.length:Int)=m2a p p.length t:=by
 rw[Bool.eq_iff_iff,N0b p t _ (Nat.le_refl _),<-d8b,List.contains_iff_mem];unfold ints;rw[List.mem_map];constructor
 ·rintro⟨a,ha,he⟩
  rwa [show a=p.length by omega] at ha
 ·intro h;exact⟨_,h,rfl⟩
theorem v1a.cut0{k:IntKind}{e:TypeId}{w:World}{base:Nat}{A:Option Addr}{n c:Nat}{xs:List Int}(h:v1a k e w base (.slice A n c) xs):v1a k e w base (.slice A 0 c) []:=by
 refine⟨rfl,?_⟩;rcases h.2 with⟨h1,_⟩ | ⟨g,cap,cur,h1,hb,hg,hnc,hcm,hcs,htk⟩
 ·cases h1;exact .inl ⟨rfl,rfl⟩
 ·cases h1;exact .inr ⟨g,c,cur,rfl,hb,hg,Nat.zero_le _,hcm,hcs,by simp⟩
theorem Y0b{k k':IntKind}{e e':TypeId}{w:World}{base base':Nat}{v u:Value}{xs ys:List Int}(h:v1a k e w base v xs)(h':v1a k' e' w base' u ys)(hne:e≠e'):Apart v u:=λi hv hui=>by obtain⟨_,cs,h1⟩:=h.block hv;obtain⟨_,cs',h2⟩:=h'.block hui;rw[h1] at h2;simp only[Option.some.injEq,Obj.cells.injEq] at h2;exact hne h2.2.1
structure Kept (w wr:World) (base base':Nat) (q t u:Value) (p xs zs:List Int):Prop where
 box:Box wr w.heap.size 179 q
 pat:v1a .i32 21 wr base q p
 text:v1a .i32 21 wr base' t xs
 row:v1a .i64 3 wr w.heap.size u zs
 below:Below w.heap.size w wr
theorem Kept.turned{w wr w':World}{base base':Nat}{q t u v:Value}{p xs zs ys:List Int}(K:Kept w wr base base' q t u p xs zs)(hB:Box wr (w.heap.size+1) 44 v)(ho:v1a .i64 3 wr w.heap.size v ys)(ha:Apart v u)(hT:d1a wr w' (w.heap.size+1) v) :
  Kept w w' base base' q t u p xs zs:=
 ⟨K.box.turned hT (by omega) (K.box.own ho (by decide)),K.pat.turned hT (hB.own K.pat (by decide)) (Y0b ho K.pat (by decide)),K.text.turned hT (hB.own K.text (by decide)) (Y0b ho K.text (by decide)),
  K.row.turned hT (hB.own K.row (by decide)) ha,K.below.trans (hT.below (by omega) ho K.below.size)⟩
theorem Kept.only{w wr w':World}{base base':Nat}{q t u v:Value}{p xs zs:List Int}(K:Kept w wr base base' q t u p xs zs)(hB:Box wr (w.heap.size+1) 44 v)(hO:S1a (w.heap.size+1) wr.drew w'):Kept w w' base base' q t u p xs zs:=by have hO':S1a (w.heap.size+1) wr w':=⟨hO.os,hO.tape,hO.output,hO.size,hO.rest⟩;exact⟨K.box.only hO' (by omega),K.pat.only hO' hB (by decide),K.text.only hO' hB (by decide),K.row.only hO' hB (by decide),K.below.trans (hO'.below (by omega))⟩
theorem y2c(w:World)(q t:Value)(p xs:List Int)(base base':Nat)(hq:v1a .i32 21 w base q p)(ht:v1a .i32 21 w base' t xs)(hp:p.length<=1000)(_hx:xs.length<=1000) :
  Calls Tryz.prog 181 #[q,t] w λe w'=>e=.returned (.bool (m2a p p.length xs))/\Below w.heap.size w w':=by
 have hmf:∀(fn:Fn) (first cap:Array Value) (w:World),(Instr.makeFunc fn first cap).run Tryz.prog w=.ok (.func fn first cap) w:=λ_ _ _ _=>rfl
 obtain⟨Aq,nq,cq,hqe,hnq,_,_,_,hcq⟩:=hq.open;obtain⟨At,nt,ct,hte,hnt,_,_,_,hct⟩:=ht.open;have B2:Box ((w.alloc (.cells #[q] 179)).alloc (.cells #[.slice none 0 0] 44)) w.heap.size 179 q:=Box.alloc (heap_alloc_new w _) _;have B1:Box ((w.alloc (.cells #[q] 179)).alloc (.cells #[.slice none 0 0] 44)) (w.heap.size+1) 44 (.slice none 0 0):=by
  have e:(w.alloc (.cells #[q] 179)).heap.size=w.heap.size+1:=by simp
  rw[<-e];exact heap_alloc_new (w.alloc (.cells #[q] 179)) (.cells #[.slice none 0 0] 44)
 have hq2:=(hq.alloc (.cells #[q] 179)).alloc (.cells #[.slice none 0 0] 44);have ht2:=(ht.alloc (.cells #[q] 179)).alloc (.cells #[.slice none 0 0] 44);have hb2:Below w.heap.size w ((w.alloc (.cells #[q] 179)).alloc (.cells #[.slice none 0 0] 44)):=((Below.refl _ _).alloc (Nat.le_refl _) _).alloc (by simp) _;have hsz2:w.heap.size<=((w.alloc (.cells #[q] 179)).alloc (.cells #[.slice none 0 0] 44)).heap.size:=by simp;omega
 have c0:=f7b ((w.alloc (.cells #[q] 179)).alloc (.cells #[.slice none 0 0] 44)) w.heap.size base (w.heap.size+1) w.heap.size (.slice none 0 0) q [] p 0 0 (Nat.zero_le _) (by omega) (by simp) (.inl ⟨rfl,rfl⟩) B1 B2 (v1a.nil _ _ _ _) hq2 hsz2;rw[c8b,show((0:Nat):Int)=0 from rfl] at c0;have C0:=hI c0;have HB2:=hI B2;have HB1:=hI B1;have HQ2:=hI hq2;have HT2:=hI ht2;have HBB:=hI hb2;have HS2:=hI hsz2;have HNQ:=hI hnq;have HNT:=hI hnt;clear c0 B2 B1 hq2 ht2 hb2 hsz2 hnq hnt;subst hqe;subst hte;go_enter Tryz.func181,Tryz.ntmps181;go_wp2_with fail;refine C0.out.mono ?_;rintro e w1 ⟨rfl,u1,hB1,ho1,hT1,hW1⟩;have X2:Hid (Box w1 w.heap.size 179 (.slice Aq nq cq)):=HB2.out.turned hT1 (by omega) (by intro h;cases h);have XQ:Hid (v1a .i32 21 w1 base (.slice Aq nq cq) p):=HQ2.out.turned hT1 (HB1.out.own HQ2.out (by decide)) (Apart.nil _);have XT:Hid (v1a .i32 21 w1 base' (.slice At nt ct) xs):=HT2.out.turned hT1 (HB1.out.own HT2.out (by decide)) (Apart.nil _);have XB:Hid (Below w.heap.size w w1):=HBB.out.trans (hT1.below (by omega) (v1a.nil .i64 3 _ w.heap.size) HS2.out);have X1:=hI hB1;have XO:=hI ho1;clear hB1 ho1 hT1 hW1 HB2 HB1 HQ2 HT2 HBB HS2 C0;go_wp2;go_loopw [5,17] (λv i wr=>∃(j:Nat) (u:Value) (zs:List Int),i=.int .i64 j/\j<=nt/\Hid (Box wr (w.heap.size+1) 44 u)/\Hid (v1a .i64 3 wr w.heap.size u (ints (places p (xs.take j))))/\Hid (Apart u v)/\Hid (Kept w wr base base' (.slice Aq nq cq) (.slice At nt ct) v p xs zs)) (λ_ i _=>nt-(intOf i).toNat)
 case atStart=>exact⟨0,u1,[],rfl,Nat.zero_le _,X1,by simpa using XO,Apart.nil' _,⟨X2.out,XQ.out,XT.out,v1a.nil _ _ _ _,XB.out⟩⟩
 case round=>
  clear X1 X2 XQ XT XB XO;obtain⟨j,u,zs,rfl,hj,X1,XU,XA,XK⟩:=hrel;have hbs:=XK.out.below.size;by_cases hlt:j<nt
  ·obtain⟨gt,rfl,_,_,_⟩:=hct (by omega);have gx:=XK.out.text.at hlt;obtain⟨x,hxx⟩:∃x,x=xs.getD j 0:=⟨_,rfl⟩;rw[<-hxx] at gx;obtain⟨T,hTT⟩:∃T,T=xs.take j:=⟨_,rfl⟩;have hTn:xs.take (j+1)=T++[x]:=by have:=HNT.out;rw[List.take_succ_eq_append_getElem (by omega),hTT,hxx];simp[show j<xs.length by omega]
   rw[<-hTT] at XU;have HTN:=hI hTn;obtain⟨Av,nv,cv,rfl,hnv,hnc,h63,_,_⟩:=XK.out.row.open;obtain⟨Au,nu,cu,rfl,hnu,hnuc,hu63,_,hcu⟩:=XU.out.open;rw[P1a] at hnu;have HNU:=hI hnu;have gb1:=X1.out.cell;have gf1:=X1.out.frozen;clear hxx hnv hnu hcu hct hTT hTn;go_wp2;go_step3;apply wp_seq_k;intro _ _;go_still_tail 4,(by kernel_rfl);change wpList _ _ _ _ _ wr.drew
   have XV0:Hid (v1a .i64 3 wr w.heap.size (.slice Av 0 cv) []):=XK.out.row.cut0;have XA0:Hid (Apart (.slice Av 0 cv) (.slice Au nu cu)):=by
    intro i hi hu;cases Av with
    | none=>cases hi
    | some ad=>exact XA.out i hu hi
   refine V1a rfl _ (.tmp 6) (.tmp 23) rfl (w.heap.size+1) rfl (.slice Av 0 cv) rfl 44 _ (show Box wr.drew _ _ _ from X1.out) (by kernel_rfl) rfl ?_;intro w2 Y1 O2;have YK:Hid (Kept w w2 base base' (.slice Aq nq cq) (.slice (some ⟨gt,0,none⟩) nt ct) (.slice Au nu cu) p xs (ints (places p T))):=Kept.only ⟨XK.out.box,XK.out.pat,XK.out.text,XU.out,XK.out.below⟩ X1.out O2.out
   have O2':S1a (w.heap.size+1) wr w2:=⟨O2.out.os,O2.out.tape,O2.out.output,O2.out.size,O2.out.rest⟩;have YV:Hid (v1a .i64 3 w2 w.heap.size (.slice Av 0 cv) []):=XV0.out.only O2' X1.out (by decide);clear X1 XU XA XK XV0 O2 O2' gb1 gf1 gx hnc h63 hbs;go_wp2;go_step3;go_wp2;go_loopw [26] (λi wr=>∃(c m:Nat) (v:Value),i=.int .i64 c/\c<=nu/\Hid (W0b p T x c m)/\Hid (Box wr (w.heap.size+1) 44 v)/\Hid (v1a .i64 3 wr w.heap.size v (ints (m0b p (T++[x]) m)))/\Hid (Apart v (.slice Au nu cu))/\Hid (Kept w wr base base' (.slice Aq nq cq) (.slice (some ⟨gt,0,none⟩) nt ct) (.slice Au nu cu) p xs (ints (places p T)))) (λi _=>nu-(intOf i).toNat)
   case atStart=>exact⟨0,0,_,rfl,Nat.zero_le _,W0b.start p T x,Y1,YV,XA0,YK⟩
   case round=>
    clear Y1 YV XA0 YK;obtain⟨c,m,v,rfl,hc,HD,X1,XV,XA,XK⟩:=hrel;have hbs:=XK.out.below.size;have gb2:=XK.out.box.cell;by_cases hcu:c<nu
    ·have hcF:c<(places p T).length:=by have:=HNU.out;omega
     have hmm:m<=p.length+1:=Told.le HD.out;obtain⟨gu,rfl,_,_,_⟩:∃gu,Au=some ⟨gu,0,none⟩/\True/\True/\True:=by obtain⟨A',n',c',he,_,_,_,_,hcc⟩:=XK.out.row.open;cases he;obtain⟨g,e1,_⟩:=hcc (by omega);exact⟨g,e1,trivial,trivial,trivial⟩
     have ga:=XK.out.row.at hcu;rw[I8a] at ga;obtain⟨hale,hal⟩:=X0b p T hcF;obtain⟨a,ha⟩:∃a,a=(places p T).getD c 0:=⟨_,rfl⟩;have hS:=λh=>W0b.star HD.out hcF h
     have hO:=λh1 h2 h3=>W0b.one HD.out hcF h1 h2 h3
     have hN:=λh1 h2=>W0b.none HD.out hcF h1 h2
     rw[<-ha] at ga hale hS hO hN;have hlast:=W0b.last HD.out;have gaN:=HNQ.out;have hcell:=fun (h:a<nq)=>(hcq (by omega))
     by_cases hae:a<nq
     ·obtain⟨gq,rfl,_,_,_⟩:=hcell hae;have gp:=XK.out.pat.at hae;have hane:((a:Int)==nq)=false:=by simp;omega
      have hap:a<p.length:=by omega
      have hpl:p.length<=1000000:=by omega
      have hml:(m0b p (T++[x]) m).length<=1000000:=by have:=u2c p (T++[x]) m;omega
      have c1:=λk hk=>f7b wr w.heap.size base (w.heap.size+1) w.heap.size v _ (m0b p (T++[x]) m) p k m hk hpl hml hlast X1.out XK.out.box XV.out XK.out.pat hbs
      by_cases hs:p.getD a 0=42
      ·rw[hs] at gp;have c1:=c1 a hale;obtain⟨h1,h2⟩:=hS hs;rw[h1] at c1;obtain⟨M,hM⟩:∃M,M=l8a p m a:=⟨_,rfl⟩;rw[<-hM] at c1 h2;have C1:=hI c1;have HD':=hI h2;clear h1 h2 c1 hM hS hO hN hlast hs hcell hale hal ha hcF hmm gaN hap hpl hml;go_wp2_with fail;refine C1.out.mono ?_;rintro e w3 ⟨rfl,v3,hB3,ho3,hT3,hW3⟩;have HB3:=hI hB3;have HO3:=hI ho3;have HA3:=hI (XA.out.whither hW3 XK.out.row);have HK3:=hI (XK.out.turned X1.out XV.out XA.out hT3);clear hB3 ho3 hT3 hW3 C1;go_wp2;go_roundw
       case rel=>exact⟨c+1,M,v3,by go_num,hcu,HD',HB3,HO3,HA3,HK3⟩
       case measure=>simp[intOf];omega
      ·obtain⟨pc,hpc⟩:∃pc,pc=p.getD a 0:=⟨_,rfl⟩;rw[<-hpc] at gp hs hO hN hS;have ht1:(pc==42)=false:=by simpa using hs
       have c1:=c1 (a+1) hap;rw[show((a+1:Nat):Int)=(a:Int)+1 from rfl] at c1;by_cases h63:pc=63
       ·have ht2:(pc==63)=true:=by simpa using h63
        obtain⟨h1,h2⟩:=hO hap hs (.inl h63);rw[h1] at c1;obtain⟨M,hM⟩:∃M,M=l8a p m (a+1):=⟨_,rfl⟩;rw[<-hM] at c1 h2;have C1:=hI c1;have HD':=hI h2;clear h1 h2 c1 hM hS hO hN hlast hs hcell hale hal ha hcF hmm gaN hap hpl hml hpc h63;go_wp2_with fail;refine C1.out.mono ?_;rintro e w3 ⟨rfl,v3,hB3,ho3,hT3,hW3⟩;have HB3:=hI hB3;have HO3:=hI ho3;have HA3:=hI (XA.out.whither hW3 XK.out.row);have HK3:=hI (XK.out.turned X1.out XV.out XA.out hT3);clear hB3 ho3 hT3 hW3 C1;go_wp2;go_roundw
        case rel=>exact⟨c+1,M,v3,by go_num,hcu,HD',HB3,HO3,HA3,HK3⟩
        case measure=>simp[intOf];omega
       ·have ht2:(pc==63)=false:=by simpa using h63
        by_cases hx':pc=x
        ·have ht3:(pc==x)=true:=by simpa using hx'
         obtain⟨h1,h2⟩:=hO hap hs (.inr hx');rw[h1] at c1;obtain⟨M,hM⟩:∃M,M=l8a p m (a+1):=⟨_,rfl⟩;rw[<-hM] at c1 h2;have C1:=hI c1;have HD':=hI h2;clear h1 h2 c1 hM hS hO hN hlast hs hcell hale hal ha hcF hmm gaN hap hpl hml hpc h63 hx';go_wp2_with fail;refine C1.out.mono ?_;rintro e w3 ⟨rfl,v3,hB3,ho3,hT3,hW3⟩;have HB3:=hI hB3;have HO3:=hI ho3;have HA3:=hI (XA.out.whither hW3 XK.out.row);have HK3:=hI (XK.out.turned X1.out XV.out XA.out hT3);clear hB3 ho3 hT3 hW3 C1;go_wp2;go_roundw
         case rel=>exact⟨c+1,M,v3,by go_num,hcu,HD',HB3,HO3,HA3,HK3⟩
         case measure=>simp[intOf];omega
        ·have ht3:(pc==x)=false:=by simpa using hx'
         have HD':=hI (hN hs (by rintro(h | h)<;>contradiction));clear hS hO hN hlast c1 hs hcell hale hal ha hcF hmm gaN hap hpl hml hpc h63 hx';go_wp2;go_roundw
         case rel=>exact⟨c+1,m,v,by go_num,hcu,HD',X1,XV,XA,XK⟩
         case measure=>simp[intOf];omega
     ·have hae':a=nq:=by omega
      have HF:=hI (W0b.all HD.out (.inr ⟨hcF,by omega⟩));clear hS hO hN hlast hcell hale hal hcF hmm gaN;have hane:((a:Int)==nq)=true:=by simp;omega
      clear hae' ha hae;go_wp2;rw[Exit.noGoto_normal];go_wp2;go_roundw
      case rel=>exact⟨j+1,v,_,by go_num,hlt,X1,by rw[HTN.out,<-HF.out];exact XV,XA,XK⟩
      case measure=>simp[intOf];omega
    ·have hcn:c=nu:=by omega
     have HF:=hI (W0b.all HD.out (.inl (by rw[hcn];exact HNU.out.symm)));have hcN:¬c<nu:=hcu;clear hcn gb2 hcu;go_wp2;rw[Exit.noGoto_normal];go_wp2;go_roundw
     case rel=>exact⟨j+1,v,_,by go_num,hlt,X1,by rw[HTN.out,<-HF.out];exact XV,XA,XK⟩
     case measure=>simp[intOf];omega
  ·obtain rfl:j=nt:=by omega
   have c9:=u4b wr w.heap.size u (ints (places p (xs.take j))) (p.length:Int) XU.out;rw[List.take_of_length_le (by have:=HNT.out;omega),v4b,HNQ.out] at c9;have C9:=hI c9;have HBl:=hI XK.out.below;have gb1:=X1.out.cell;have gb2:=XK.out.box.cell;have HGoal:Hid (m2a p p.length xs=m2a p nq xs):=by show _=_;rw[HNQ.out]
   obtain⟨R,hR⟩:∃R,R=m2a p nq xs:=⟨_,rfl⟩;rw[<-hR] at C9 HGoal;clear hcq hct c9 X1 XU XA hR;go_wp2_with fail;refine C9.out.mono ?_;rintro e w9 ⟨rfl,rfl⟩;go_wp2;go_ret;exact⟨a1a HGoal.out.symm,HBl.out⟩
theorem v3b(l:List UInt8):(⟨l.toArray⟩:ByteArray).size=l.length:=by simp[ByteArray.size]
noncomputable def E3a (p t:List UInt8):Bool:=if M0a p t=0 then m2a (s0a p) (s0a p).length (s0a t) else false
theorem T5a{p t:List UInt8}(h:M0a p t≠0):E3a p t=false:=if_neg h
def y3a(w:World)(p t:List UInt8)(e:Ending)(w':World):Prop:=e=.returned (.tuple #[.bool (E3a p t),.int .i64 (M0a p t)])/\Below w.heap.size w w'
theorem m6a{p t:List UInt8}(h:u0a p=false∨u0a t=false):M0a p t=5:=if_pos h
theorem r5a{p t:List UInt8}(h1:u0a p=true)(h2:u0a t=true)(h:64<(j0a p).length∨256<(j0a t).length):M0a p t=3:=by unfold M0a;rw[if_neg (by rw[h1,h2];simp),if_pos h]
theorem w3b(p s:ByteArray)(w:World)(hp:p.size<=4398046511104)(hs:s.size<=4398046511104)(hT:k5a w) :
  Calls Tryz.prog 151 #[.string p,.string s] w (y3a w p.data.toList s.data.toList):=by
 have c1:=λw hT=>hI (p2b p w (by omega) hT)
 have c2:=λw hT=>hI (p2b s w (by omega) hT)
 have c3:=λw=>hI (q2b p 64 w (by omega))
 have c4:=λw=>hI (q2b s 256 w (by omega))
 have hq:∀(b:Bool) (n:Int),E3a p.data.toList s.data.toList=b->M0a p.data.toList s.data.toList=n->∀e w',e=.returned (.tuple #[.bool b,.int .i64 n])/\Below w.heap.size w w'->y3a w p.data.toList s.data.toList e w':=λb n hb hn e w' h=>by unfold y3a;rw[hb,hn];exact h
 by_cases tp':u0a p.data.toList=false
 ·have he:=m6a (t:=s.data.toList) (.inl tp');have HQ:=hI (hq _ _ (T5a (by omega)) he);rw[tp'] at c1;clear hq he tp' c2 c3 c4;go_enter Tryz.func151,Tryz.ntmps151;go_wp2_with fail;refine(c1 _ hT).out.mono ?_;rintro e w1 ⟨rfl,hb1⟩;go_wp2;go_ret2;exact HQ.out _ _ ⟨rfl,hb1⟩
 have tp:u0a p.data.toList=true:=by simpa using tp'
 by_cases ts':u0a s.data.toList=false
 ·have he:=m6a (p:=p.data.toList) (.inr ts');have HQ:=hI (hq _ _ (T5a (by omega)) he);rw[tp] at c1;rw[ts'] at c2;clear hq he tp tp' ts' c3 c4;go_enter Tryz.func151,Tryz.ntmps151;go_wp2_with fail;refine(c1 _ hT).out.mono ?_;rintro e w1 ⟨rfl,hb1⟩;have hT1:=hT.below hb1;go_wp2_with fail;refine(c2 _ hT1).out.mono ?_;rintro e w2 ⟨rfl,hb2⟩;go_wp2;go_ret2;exact HQ.out _ _ ⟨rfl,step hb1 hb2⟩
 have ts:u0a s.data.toList=true:=by simpa using ts'
 rw[tp] at c1;rw[ts] at c2;clear tp' ts';by_cases lp:64<(j0a p.data.toList).length
 ·have he:=r5a tp ts (.inl lp);have HQ:=hI (hq _ _ (T5a (by omega)) he);rw[decide_eq_true (show(64:Int)<((j0a p.data.toList).length:Int) by omega)] at c3;clear hq he tp ts lp c4;go_enter Tryz.func151,Tryz.ntmps151;go_wp2_with fail;refine(c1 _ hT).out.mono ?_;rintro e w1 ⟨rfl,hb1⟩;have hT1:=hT.below hb1;go_wp2_with fail;refine(c2 _ hT1).out.mono ?_;rintro e w2 ⟨rfl,hb2⟩;go_wp2_with fail;refine(c3 _).out.mono ?_;rintro e w3 ⟨rfl,hb3⟩;go_wp2;go_ret2;exact HQ.out _ _ ⟨rfl,step (step hb1 hb2) hb3⟩
 rw[decide_eq_false (show ¬(64:Int)<((j0a p.data.toList).length:Int) by omega)] at c3;by_cases ls:256<(j0a s.data.toList).length
 ·have he:=r5a tp ts (.inr ls);have HQ:=hI (hq _ _ (T5a (by omega)) he);rw[decide_eq_true (show(256:Int)<((j0a s.data.toList).length:Int) by omega)] at c4;clear hq he tp ts lp ls;go_enter Tryz.func151,Tryz.ntmps151;go_wp2_with fail;refine(c1 _ hT).out.mono ?_;rintro e w1 ⟨rfl,hb1⟩;have hT1:=hT.below hb1;go_wp2_with fail;refine(c2 _ hT1).out.mono ?_;rintro e w2 ⟨rfl,hb2⟩;go_wp2_with fail;refine(c3 _).out.mono ?_;rintro e w3 ⟨rfl,hb3⟩;go_wp2_with fail;refine(c4 _).out.mono ?_;rintro e w4 ⟨rfl,hb4⟩;go_wp2;go_ret2;exact HQ.out _ _ ⟨rfl,step (step (step hb1 hb2) hb3) hb4⟩
 rw[decide_eq_false (show ¬(256:Int)<((j0a s.data.toList).length:Int) by omega)] at c4;have he:M0a p.data.toList s.data.toList=0:=Y4a.2 ⟨tp,ts,by omega,by omega⟩;have c5:=λw hT=>F8a p w hp hT
 have c6:=λw hT=>F8a s w hs hT
 unfold z0b at c5 c6;have xp:u0a (⟨(B0a p.data.toList).toArray⟩:ByteArray).data.toList=true:=(i8a _).trans tp;have xs:u0a (⟨(B0a s.data.toList).toArray⟩:ByteArray).data.toList=true:=(i8a _).trans ts;have np:(⟨(B0a p.data.toList).toArray⟩:ByteArray).size<=70368744177664:=by rw[v3b,K6a,<-Lib.size_eq];omega
 have ns:(⟨(B0a s.data.toList).toArray⟩:ByteArray).size<=70368744177664:=by rw[v3b,K6a,<-Lib.size_eq];omega
 have ep:j0a (⟨(B0a p.data.toList).toArray⟩:ByteArray).data.toList=s0a p.data.toList:=(j4a _).symm;have es:j0a (⟨(B0a s.data.toList).toArray⟩:ByteArray).data.toList=s0a s.data.toList:=(j4a _).symm;have lp':(s0a p.data.toList).length<=1000:=by rw[H2a];omega
 have ls':(s0a s.data.toList).length<=1000:=by rw[H2a];omega
 have hf:E3a p.data.toList s.data.toList=m2a (s0a p.data.toList) (s0a p.data.toList).length (s0a s.data.toList):=if_pos he;have HQ:=hI (hq _ _ hf he);have c7:=λw q t b b' h h'=>hI (y2c w q t (s0a p.data.toList) (s0a s.data.toList) b b' h h' lp' ls')
 obtain⟨X,hX⟩:∃X:ByteArray,X=⟨(B0a p.data.toList).toArray⟩:=⟨_,rfl⟩;obtain⟨Y,hY⟩:∃Y:ByteArray,Y=⟨(B0a s.data.toList).toArray⟩:=⟨_,rfl⟩;obtain⟨lP,hlP⟩:∃l,l=s0a p.data.toList:=⟨_,rfl⟩;obtain⟨lS,hlS⟩:∃l,l=s0a s.data.toList:=⟨_,rfl⟩;rw[<-hlP,<-hlS] at HQ c7;rw[<-hX] at c5 xp np ep;rw[<-hY] at c6 xs ns es;rw[<-hlP] at ep;rw[<-hlS] at es;have C5:=hI c5;have C6:=hI c6;have C7:=hI c7;have XP:=hI xp;have XS:=hI xs;have EP:=hI ep;have ES:=hI es;clear c5 c6 c7 xp xs ep es hX hY hlP hlS hq he tp ts lp ls lp' ls' hf;go_enter Tryz.func151,Tryz.ntmps151;go_wp2_with fail;refine(c1 _ hT).out.mono ?_;rintro e w1 ⟨rfl,hb1⟩;have hT1:=hT.below hb1;go_wp2_with fail;refine(c2 _ hT1).out.mono ?_;rintro e w2 ⟨rfl,hb2⟩;have hT2:=hT1.below hb2;go_wp2_with fail;refine(c3 _).out.mono ?_;rintro e w3 ⟨rfl,hb3⟩;have hT3:=hT2.below hb3;go_wp2_with fail;refine(c4 _).out.mono ?_;rintro e w4 ⟨rfl,hb4⟩;have hT4:=hT3.below hb4;have hB4:=step (step (step hb1 hb2) hb3) hb4;clear c1 c2 c3 c4 hb1 hb2 hb3 hb4 hT1 hT2 hT3;go_wp2_with fail;refine(C5.out _ hT4).mono ?_;rintro e w5 ⟨rfl,hb5⟩;have hT5:=hT4.below hb5;go_wp2_with(first
  | ((with_reducible refine sN 20 ?_);refine b0b rfl (.tmp 19) rfl X rfl XP.out np ?_;intro v6 w6 ho6 hb6;have hT6:=hT5.below hb6.out)
  | fail)
 rw[EP.out] at ho6;refine(C6.out _ hT6).mono ?_;rintro e w7 ⟨rfl,hb7⟩;have ho7:=hI (ho6.below hb7);clear ho6;go_wp2_with(first
  | ((with_reducible refine sN 23 ?_);refine b0b rfl (.tmp 22) rfl Y rfl XS.out ns ?_;intro v8 w8 ho8 hb8)
  | fail)
 rw[ES.out] at ho8;refine(C7.out _ _ _ _ _ (ho7.out.below hb8.out) ho8).out.mono ?_;rintro e w9 ⟨rfl,hb9⟩;have hBB:=step (step (step (step (step hB4 hb5) hb6.out) hb7) hb8.out) hb9;clear ho7 ho8 hb5 hb6 hb7 hb8 hb9 hB4;go_wp2;go_ret2;exact HQ.out _ _ ⟨rfl,hBB⟩
open Go.RowKit Go.Lib
abbrev I0a:=ByteArray×Int
def alk(s t:ByteArray):Bool:=f1a s.data.toList t.data.toList
def ahd(s t:ByteArray):Bool:=e1a s.data.toList t.data.toList
def J8a(s:ByteArray):Bool:=decide (s.size=0) || !u0a s.data.toList
theorem G5a{s t:ByteArray}:alk s t=true↔s0a s.data.toList=s0a t.data.toList:=by unfold alk f1a;rw[decide_eq_true_iff];exact J0b _ _
theorem a5a{s t:ByteArray}:ahd s t=true↔J6a (s0a s.data.toList) (s0a t.data.toList)<0:=by unfold ahd e1a;rw[decide_eq_true_iff]
theorem K8a(s:ByteArray):alk s s=true:=G5a.2 rfl
theorem z7a{s t:ByteArray}(h:alk s t=true):alk t s=true:=G5a.2 (G5a.1 h).symm
theorem R6a{s t u:ByteArray}(h:alk s t=true)(k:alk t u=true):alk s u=true:=G5a.2 ((G5a.1 h).trans (G5a.1 k))
theorem L8a{s t u:ByteArray}(h:ahd s t=true)(k:ahd t u=true):ahd s u=true:=a5a.2 (l2b _ _ _ (a5a.1 h) (a5a.1 k))
theorem m4a{s t:ByteArray}(h:ahd s t=true):alk s t=false:=by
 cases hq:alk s t with
 | false=>rfl
 | true=>have h1:=a5a.1 h;rw[G5a.1 hq,k4b] at h1;omega
theorem S6a{s t:ByteArray}(h:ahd s t=true):ahd t s=false:=by
 cases hq:ahd t s with
 | false=>rfl
 | true=>have h1:=a5a.1 h;have h2:=a5a.1 hq;rw[I0b] at h2;omega
theorem Z0b(s t:ByteArray):alk s t=true∨ahd s t=true∨ahd t s=true:=by
 rcases Int.lt_trichotomy (J6a (s0a s.data.toList) (s0a t.data.toList)) 0 with h | h | h
 ·exact .inr (.inl (a5a.2 h))
 ·exact .inl (G5a.2 (l4b _ _ h))
 ·refine .inr (.inr (a5a.2 ?_));rw[I0b];omega
theorem z2c{s t u:ByteArray}(h:alk s t=true):ahd u s=ahd u t:=by rw[Bool.eq_iff_iff,a5a,a5a,G5a.1 h]
def dIx(L:List I0a)(s:ByteArray):Nat:=L.findIdx λy=>alk y.1 s
def s5a(L:List I0a)(s:ByteArray):Bool:=L.any λy=>alk y.1 s
def O1a(L:List I0a)(s:ByteArray):Int:=if J8a s=true then 5 else if s5a L s=true then 0 else 7
def T6a(L:List I0a)(s:ByteArray):I0a:=if O1a L s=0 then L.getD (dIx L s) (.empty,0) else (.empty,0)
def Z1b:List I0a->ByteArray->Int->List I0a
 | [],s,n=>[(s,n)]
 | y::r,s,n=>if ahd s y.1=true then (s,n)::y::r else y::Z1b r s n
def a2b(L:List I0a)(s:ByteArray):Int:=if J8a s=true then 5 else if s5a L s=true then 8 else 0
def d2c(L:List I0a)(s:ByteArray)(n:Int):List I0a:=if a2b L s=0 then Z1b L s n else L
def n0b(L:List I0a)(s:ByteArray):List I0a:=if O1a L s=0 then L.eraseIdx (dIx L s) else L
noncomputable def Y2a (L:List I0a) (p a:ByteArray):List ByteArray:=(L.filter λy=>E3a p.data.toList y.1.data.toList&&(decide (a.size=0)||ahd a y.1)).map (·.1)
def a1b(L:List I0a)(p:ByteArray):Int:=match L.find? (λy=>decide (M0a p.data.toList y.1.data.toList≠0)) with
 | some y=>M0a p.data.toList y.1.data.toList
 | none=>0
def B6a(L:List I0a)(p a:ByteArray)(m:Int):Int:=if m<0 then 2 else if M0a p.data.toList []≠0 then M0a p.data.toList [] else if a1b L p≠0 then a1b L p else if u0a a.data.toList=true then 0 else 5
noncomputable def s2b (L:List I0a) (p a:ByteArray) (m:Int):List ByteArray:=if B6a L p a m=0 then (Y2a L p a).take m.toNat else []
noncomputable def t2b (L:List I0a) (p a:ByteArray) (m:Int):Bool:=if B6a L p a m=0 then decide (m<((Y2a L p a).length:Int)) else false
structure Dok (L:List I0a):Prop where
 rise:L.Pairwise λx y=>ahd x.1 y.1=true
 good:∀x∈L,J8a x.1=false
theorem Dok.nil:Dok []:=⟨List.Pairwise.nil,λx h=>by cases h⟩
section
variable {L:List I0a} {s t u:ByteArray} {n:Int} {x y:I0a}
theorem I3a:s5a L s=true↔∃x∈L,alk x.1 s=true:=by unfold s5a;rw[List.any_eq_true]
theorem u2b(h:s5a L s=true):dIx L s<L.length:=by obtain⟨x,hx,hs⟩:=I3a.1 h;exact List.findIdx_lt_length_of_exists ⟨x,hx,hs⟩
theorem R5b(h:dIx L s<L.length):alk (L[dIx L s]'h).1 s=true:=by have:=List.findIdx_getElem (p:=λy:I0a=>alk y.1 s) (w:=h);exact this
theorem g7b(hb:J8a s=false)(h:s5a L s=true):O1a L s=0/\T6a L s∈L/\alk (T6a L s).1 s=true:=by
 have he:O1a L s=0:=by unfold O1a;rw[if_neg (by rw[hb];decide),if_pos h]
 have hl:=u2b h;have hd:T6a L s=L[dIx L s]:=by unfold T6a;rw[if_pos he,List.getD_eq_getElem?_getD,List.getElem?_eq_getElem hl];rfl
 rw[hd];exact⟨he,List.getElem_mem _,R5b hl⟩
theorem g2a:O1a L s=0↔J8a s=false/\s5a L s=true:=by
 unfold O1a;by_cases h1:J8a s=true
 ·rw[if_pos h1,h1];simp
 ·rw[if_neg h1];by_cases h2:s5a L s=true
  ·rw[if_pos h2];simp[h1,h2]
  ·rw[if_neg h2];simp[h2]
theorem h7b(h:O1a L s≠0):T6a L s=(.empty,0):=if_neg h
theorem Dok.same(h:Dok L)(hx:x∈L)(hy:y∈L)(ha:alk x.1 y.1=true):x=y:=by
 obtain⟨i,hi,rfl⟩:=List.mem_iff_getElem.1 hx;obtain⟨j,hj,rfl⟩:=List.mem_iff_getElem.1 hy;rcases Nat.lt_trichotomy i j with h1 | h1 | h1
 ·have:=m4a (List.pairwise_iff_getElem.1 h.rise i j hi hj h1);rw[ha] at this;cases this
 ·subst h1;rfl
 ·have:=m4a (List.pairwise_iff_getElem.1 h.rise j i hj hi h1);rw[z7a ha] at this;cases this
theorem Dok.found(h:Dok L)(hx:x∈L)(ha:alk x.1 s=true)(hb:J8a s=false):O1a L s=0/\T6a L s=x:=by obtain⟨h1,h2,h3⟩:=g7b hb (I3a.2 ⟨x,hx,ha⟩);exact⟨h1,h.same h2 hx (R6a h3 (z7a ha))⟩
theorem t5a:y∈Z1b L s n↔y=(s,n)∨y∈L:=by
 induction L with
 | nil=>simp[Z1b]
 | cons z r ih=>
  unfold Z1b;split
  ·simp
  ·rw[List.mem_cons,ih,List.mem_cons];constructor
   ·rintro(h | h | h)
    ·exact .inr (.inl h)
    ·exact .inl h
    ·exact .inr (.inr h)
   ·rintro(h | h | h)
    ·exact .inr (.inl h)
    ·exact .inl h
    ·exact .inr (.inr h)
theorem i7b:(Z1b L s n).length=L.length+1:=by
 induction L with
 | nil=>rfl
 | cons z r ih=>
  unfold Z1b;split
  ·rfl
  ·rw[List.length_cons,ih,List.length_cons]
theorem Dok.put(h:Dok L)(hb:J8a s=false)(hn:s5a L s=false):Dok (Z1b L s n):=by
 refine⟨?_,λy hy=>?_⟩
 ·have hp:=h.rise;clear h
  induction L with
  | nil=>exact List.pairwise_singleton _ _
  | cons z r ih=>
   obtain⟨p1,p2⟩:=List.pairwise_cons.1 hp;unfold s5a at hn;rw[List.any_cons,Bool.or_eq_false_iff] at hn;unfold Z1b;split
   ·rename_i hz;exact List.pairwise_cons.2 ⟨λy hy=>by
     rcases List.mem_cons.1 hy with rfl | hy
     ·exact hz
     ·exact L8a hz (p1 y hy),hp⟩
   ·rename_i hz;refine List.pairwise_cons.2 ⟨λy hy=>?_,ih hn.2 p2⟩;rcases t5a.1 hy with rfl | hy
    ·rcases Z0b z.1 s with h3 | h3 | h3
     ·rw[hn.1] at h3;cases h3
     ·exact h3
     ·exact absurd h3 hz
    ·exact p1 y hy
 ·rcases t5a.1 hy with rfl | hy
  ·exact hb
  ·exact h.good y hy
theorem Dok.add(h:Dok L):Dok (d2c L s n):=by
 unfold d2c;split
 ·rename_i he;unfold a2b at he;by_cases h1:J8a s=true
  ·rw[if_pos h1] at he;cases he
  ·rw[if_neg h1] at he;by_cases h2:s5a L s=true
   ·rw[if_pos h2] at he;cases he
   ·exact h.put (by simpa using h1) (by simpa using h2)
 ·exact h
theorem M8a(h:Dok L):y∈n0b L s↔y∈L/\(J8a s=true∨alk y.1 s=false):=by
 unfold n0b;by_cases he:O1a L s=0
 ·rw[if_pos he];obtain⟨hb,hh⟩:=g2a.1 he;have hl:=u2b hh;have hg:=R5b hl;constructor
  ·intro hy;obtain⟨i,hi,rfl⟩:=List.mem_iff_getElem.1 hy;have hm:=List.mem_of_mem_eraseIdx hy;refine⟨hm,.inr ?_⟩;cases hq:alk (L.eraseIdx (dIx L s))[i].1 s with
   | false=>rfl
   | true=>
    exfalso;rw[List.getElem_eraseIdx] at hq;split at hq
    ·rename_i hlt;have:=h.same (List.getElem_mem (by omega:i<L.length)) (List.getElem_mem hl) (R6a hq (z7a hg));have h5:=List.pairwise_iff_getElem.1 h.rise i (dIx L s) (by omega) hl hlt;rw[this] at h5;have h6:=m4a h5;rw[K8a] at h6;cases h6
    ·rename_i hlt;have hi2:i+1<L.length:=by rw[List.length_eraseIdx,if_pos hl] at hi;omega
     have:=h.same (List.getElem_mem hi2) (List.getElem_mem hl) (R6a hq (z7a hg));have h5:=List.pairwise_iff_getElem.1 h.rise (dIx L s) (i+1) hl hi2 (by omega);rw[this] at h5;have h6:=m4a h5;rw[K8a] at h6;cases h6
  ·rintro⟨hy,hn⟩;have hn:alk y.1 s=false:=hn.resolve_left (by rw[hb];decide);obtain⟨i,hi,rfl⟩:=List.mem_iff_getElem.1 hy;refine List.mem_eraseIdx_iff_getElem.2 ⟨i,hi,λe=>?_,rfl⟩;subst e;rw[hg] at hn;cases hn
 ·rw[if_neg he];refine⟨λhy=>⟨hy,?_⟩,λhy=>hy.1⟩;cases hb:J8a s with
  | true=>exact .inl rfl
  | false=>
   refine .inr ?_;cases hq:alk y.1 s with
   | false=>rfl
   | true=>exact absurd (g2a.2 ⟨hb,I3a.2 ⟨y,hy,hq⟩⟩) he
theorem Dok.rem(h:Dok L):Dok (n0b L s):=by
 refine⟨?_,λy hy=>h.good y ((M8a h).1 hy).1⟩;unfold n0b;split
 ·exact h.rise.sublist (List.eraseIdx_sublist _ _)
 ·exact h.rise
theorem j7b(he:O1a L s=0):(n0b L s).length+1=L.length:=by have hl:=u2b (g2a.1 he).2;unfold n0b;rw[if_pos he,List.length_eraseIdx,if_pos hl];omega
end
abbrev o0a:=List UInt8
structure k0a where
 n:Int
 kind:Int
 par:Int
 name:o0a
 B:List Int
 Z:List Bool
structure X0a where
 quota:Int
 last:Int
 l:List k0a
def W3a:k0a:=⟨1,1,0,[],[],[]⟩
def O3a(quota:Int):Int:=if quota<0∨1048576<quota then 2 else 0
def e2c(quota:Int):X0a:=⟨quota,1,[W3a]⟩
def vIx(L:List k0a)(n:Int):Nat:=L.findIdx λx=>decide (x.n=n)
def vAt(L:List k0a)(n:Int):Option k0a:=L[vIx L n]?
def C3a(L:List k0a)(n:Int):Int:=if vIx L n<L.length then (vIx L n:Int) else -1
def z0a(L:List k0a)(n:Int):Int:=match vAt L n with | some x=>x.kind | none=>0
def x0a(L:List k0a)(d:Int)(s:o0a):Int:=match L.find? (λx=>decide (x.par=d)&&f1a x.name s) with | some x=>x.n | none=>0
def vGo(L:List k0a):Int->List o0a->Int×Int
 | n,[]=>(n,0)
 | n,s::r=>if z0a L n≠1 then (0,9) else if x0a L n s=0 then (0,7) else vGo L (x0a L n s) r
def A1a(L:List k0a)(p:o0a):Int×Int:=if h0a p≠0 then (0,h0a p) else vGo L 1 (m0a p)
def l3a(L:List k0a)(p:o0a):Int:=if (A1a L (n2a p)).2≠0 then (A1a L (n2a p)).2 else if z0a L (A1a L (n2a p)).1≠1 then 9 else 0
def P0a(L:List k0a)(p:o0a):Int:=if l3a L p=0 then (A1a L (n2a p)).1 else 0
def Q0a(L:List k0a)(p:o0a):o0a:=if l3a L p=0 then lastOf p else []
def I1a(V:X0a)(p:o0a)(k:Int):Int:=if h0a p≠0 then h0a p else if p=[] then 8 else if l3a V.l p≠0 then l3a V.l p else if x0a V.l (P0a V.l p) (Q0a V.l p)≠0 then 8 else if k≠1/\k≠2 then 2 else if 256<=V.l.length then 3 else 0
def r2a(V:X0a)(p:o0a)(k:Int):Int:=if I1a V p k=0 then V.last+1 else 0
def F3a(V:X0a)(p:o0a)(k:Int):X0a:=if I1a V p k=0 then ⟨V.quota,V.last+1,V.l++[⟨V.last+1,k,P0a V.l p,Q0a V.l p,[],[]⟩]⟩ else V
def s4a(L:List k0a)(n:Int):Bool:=L.all λx=>decide (x.par≠n)
def z1a(L:List k0a)(n:Int):List k0a:=L.eraseIdx (vIx L n)
def q1a(L:List k0a)(n:Int):Int:=if (vAt L n).isSome=false then 7 else if n=1 then 2 else 0
def D3a(L:List k0a)(n:Int):Int:=if q1a L n≠0 then q1a L n else if s4a L n=false then 16 else 0
def U6a(V:X0a)(n:Int):X0a:=if D3a V.l n=0 then ⟨V.quota,V.last,z1a V.l n⟩ else V
def vNm(L:List k0a):Nat->Int->List o0a
 | 0,_=>[]
 | f+1,n=>if n=1 then [] else match vAt L n with | some x=>vNm L f x.par++[x.name] | none=>[]
def D1a(L:List k0a)(n:Int):List o0a:=vNm L 10 n
def x3b(L:List k0a):Nat->Int->Int->Bool
 | 0,_,_=>false
 | f+1,n,t=>if n<=1 then false else match vAt L n with | some x=>decide (x.par=t)||x3b L f x.par t | none=>false
def i4a(L:List k0a)(n t:Int):Bool:=x3b L 10 n t
def b5a(L:List k0a)(n:Int)(k:Nat):Nat:=(L.take k).foldl (λm x=>if i4a L x.n n=true then max m ((D1a L x.n).length-(D1a L n).length) else m) 0
def t4a(L:List k0a)(n:Int):Nat:=b5a L n L.length
def I2a(L:List k0a)(n:Int):Int:=if (vAt L n).isSome=false then 7 else s1a (D1a L n)
def i1a(L:List k0a)(n:Int):o0a:=if I2a L n=0 then l2a (D1a L n) else []
def z3a(L:List k0a)(n:Int)(tp:o0a):Int:=if q1a L n≠0 then q1a L n else if h0a tp≠0 then h0a tp else if tp=[]∨g3a tp (i1a L n)=true then 2 else if l3a L tp≠0 then l3a L tp else if 8<(m0a tp).length+t4a L n then 3 else 0
def l1a(L:List k0a)(n:Int)(tp:o0a):Int:=if x0a L (P0a L tp) (Q0a L tp)=n then 0 else x0a L (P0a L tp) (Q0a L tp)
def x1a(L:List k0a)(n:Int)(tp:o0a)(over:Bool):Int:=if z3a L n tp≠0 then z3a L n tp else if l1a L n tp≠0/\over=false then 8 else if l1a L n tp≠0/\(z0a L (l1a L n tp)=1∨z0a L n=1) then 9 else 0
def f4a(L:List k0a)(n d:Int)(s:o0a):List k0a:=L.map λx=>if x.n=n then ⟨x.n,x.kind,d,s,x.B,x.Z⟩ else x
def u4a(L:List k0a)(n:Int)(tp:o0a):List k0a:=f4a (if l1a L n tp≠0 then z1a L (l1a L n tp) else L) n (P0a L tp) (Q0a L tp)
def h2a(V:X0a)(n:Int)(tp:o0a)(over:Bool):X0a:=if x1a V.l n tp over=0 then ⟨V.quota,V.last,u4a V.l n tp⟩ else V
def N2a(L:List k0a)(n:Int):Int:=if (vAt L n).isSome=false then 7 else 0
def I4a(L:List k0a)(n:Int):Nat:=match vAt L n with | some x=>x.B.length | none=>0
def r1a(L:List k0a)(n:Int):Int:=if (vAt L n).isSome=false then 7 else if z0a L n≠2 then 9 else 0
def H0a(L:List k0a)(n:Int):List Int:=match vAt L n with | some x=>x.B | none=>[]
def b1b(L:List k0a)(n:Int):List Bool:=match vAt L n with | some x=>x.Z | none=>[]
def s2a(L:List k0a)(n a k:Int):Int:=if r1a L n≠0 then r1a L n else G4a (H0a L n).length a k
def E2a(L:List k0a)(n a k:Int):List Int:=if s2a L n a k=0 then d0b (H0a L n) a k else []
def T0a(L:List k0a):Nat:=(L.map λx=>x.B.length).sum
def v4a(L:List k0a)(n:Int)(B:List Int)(Z:List Bool):List k0a:=L.map λx=>if x.n=n then ⟨x.n,x.kind,x.par,x.name,B,Z⟩ else x
def A0b(V:X0a)(n a:Int)(xs:List Int):Int:=if r1a V.l n≠0 then r1a V.l n else if q3a a xs.length≠0 then q3a a xs.length else if V.quota<(T0a V.l:Int)-(H0a V.l n).length+(Y3a 0 (H0a V.l n) a xs).length then 13 else 0
def vWr(V:X0a)(n a:Int)(xs:List Int):X0a:=if A0b V n a xs=0 then ⟨V.quota,V.last,v4a V.l n (Y3a 0 (H0a V.l n) a xs) (Y3a false (b1b V.l n) a (List.replicate xs.length true))⟩ else V
def n6a(V:X0a)(n s:Int):Int:=if r1a V.l n≠0 then r1a V.l n else if C2a s≠0 then C2a s else if V.quota<(T0a V.l:Int)-(H0a V.l n).length+(T1a 0 (H0a V.l n) s).length then 13 else 0
def b2b(V:X0a)(n s:Int):X0a:=if n6a V n s=0 then ⟨V.quota,V.last,v4a V.l n (T1a 0 (H0a V.l n) s) (T1a false (b1b V.l n) s)⟩ else V
def k7b(out:List k0a)(x:k0a):List k0a:=out.take (out.findIdx λy=>!e1a y.name x.name)++[x]++out.drop (out.findIdx λy=>!e1a y.name x.name)
def o0b(L:List k0a)(d:Int):List k0a:=(L.filter λx=>decide (x.par=d)).foldl k7b []
noncomputable def U7a (L:List k0a) (d:Int) (p a:o0a):List k0a:=(o0b L d).filter λx=>E3a p x.name&&(decide (a=[])||e1a a x.name)
def Z3a(L:List k0a)(n:Int)(p a:o0a)(m:Int):Int:=if (vAt L n).isSome=false then 7 else if z0a L n≠1 then 9 else if m<0 then 2 else if M0a p []≠0 then M0a p [] else if u0a a=true then 0 else 5
noncomputable def D4a (L:List k0a) (n:Int) (p a:o0a) (m:Int):List k0a:=if Z3a L n p a m=0 then (U7a L n p a).take m.toNat else []
noncomputable def N8a (L:List k0a) (n:Int) (p a:o0a) (m:Int):Bool:=if Z3a L n p a m=0 then decide (m<((U7a L n p a).length:Int)) else false
def Y0a(L:List k0a):List Int:=L.map (·.n)
inductive Way (L:List k0a):Int->List o0a->Prop
 | root:Way L 1 []
 | step {x:k0a} {ps:List o0a}:vAt L x.n=some x->x.n≠1->Way L x.par ps->Way L x.n (ps++[x.name])
def o6a(L:List k0a):Prop:=L.Pairwise λx y=>x.n<y.n
section
variable {L:List k0a} {n m d t:Int} {x y:k0a} {s:o0a} {ps qs:List o0a}
theorem y0a(h:vAt L n=some x):x∈L/\x.n=n:=by unfold vAt at h;obtain⟨h1,h2⟩:=List.getElem?_eq_some_iff.1 h;have h3:=List.findIdx_getElem (p:=λx:k0a=>decide (x.n=n)) (w:=h1);simp only[decide_eq_true_eq] at h3;refine⟨List.mem_of_getElem? h,?_⟩;rw[<-h2];exact h3
theorem O8a(h:vAt L n=none):∀x∈L,x.n≠n:=λx hx e=>by unfold vAt at h;rw[List.getElem?_eq_none_iff] at h;have:=List.findIdx_lt_length_of_exists (p:=λx:k0a=>decide (x.n=n)) ⟨x,hx,by simpa using e⟩;unfold vIx at h;omega
theorem o6a.same(h:o6a L)(hx:x∈L)(hy:y∈L)(e:x.n=y.n):x=y:=by
 obtain⟨i,hi,rfl⟩:=List.mem_iff_getElem.1 hx;obtain⟨j,hj,rfl⟩:=List.mem_iff_getElem.1 hy;rcases Nat.lt_trichotomy i j with h1 | h1 | h1
 ·have:=List.pairwise_iff_getElem.1 h i j hi hj h1;omega
 ·subst h1;rfl
 ·have:=List.pairwise_iff_getElem.1 h j i hj hi h1;omega
theorem o6a.at(h:o6a L)(hx:x∈L):vAt L x.n=some x:=by
 cases hq:vAt L x.n with
 | none=>exact absurd rfl (O8a hq x hx)
 | some y=>obtain⟨h1,h2⟩:=y0a hq;rw[h.same h1 hx h2]
theorem Way.same(h:Way L n ps):∀{qs},Way L n qs->ps=qs:=by
 induction h with
 | root=>
  intro qs k;generalize he:(1:Int)=m at k;cases k with
  | root=>rfl
  | step a b c=>exact absurd he.symm b
 | @step x ps a b c ih=>
  intro qs k;generalize he:x.n=m at k;cases k with
  | root=>exact absurd he b
  | @step y qs' a' b' c'=>
   rw[he] at a;rw[a'] at a;injection a with a
   subst a;rw[ih c']
theorem Way.nm(h:Way L n ps):∀f,ps.length<f->vNm L f n=ps:=by
 induction h with
 | root=>
  intro f hf;cases f with
  | zero=>omega
  | succ f=>rfl
 | @step x ps a b c ih=>
  intro f hf;cases f with
  | zero=>omega
  | succ f=>unfold vNm;rw[if_neg b,a];simp only;rw[ih f (by simp at hf;omega)]
theorem Way.names(h:Way L n ps)(h8:ps.length<=8):D1a L n=ps:=h.nm 10 (by omega)
theorem J1a(h:x0a L d s≠0):∃x∈L,x.par=d/\f1a x.name s=true/\x.n=x0a L d s:=by
 unfold x0a at h⊢;cases hq:L.find? (λx=>decide (x.par=d)&&f1a x.name s) with
 | none=>rw[hq] at h;exact absurd rfl h
 | some x=>have h1:=List.find?_some hq;simp only[Bool.and_eq_true,decide_eq_true_eq] at h1;exact⟨x,List.mem_of_find?_eq_some hq,h1.1,h1.2,rfl⟩
theorem c5a(h1:∀x∈L,1<=x.n)(h:x0a L d s=0):∀x∈L,x.par=d->f1a x.name s=false:=λx hx hd=>by
 unfold x0a at h;cases hq:L.find? (λx=>decide (x.par=d)&&f1a x.name s) with
 | none=>
  have:=List.find?_eq_none.1 hq x hx;simpa[hd] using this
 | some y=>rw[hq] at h;have:=h1 y (List.mem_of_find?_eq_some hq);simp only at h;omega
theorem X1a{a b:o0a}:f1a a b=true↔B0a a=B0a b:=decide_eq_true_iff
end
structure Vok (V:X0a):Prop where
 rise:o6a V.l
 root:V.l[0]? = some W3a
 q0:0<=V.quota
 q1:V.quota<=1048576
 num:∀x∈V.l,1<=x.n/\x.n<=V.last
 kind:∀x∈V.l,x.kind=1∨x.kind=2
 dirB:∀x∈V.l,x.kind=1->x.B=[]/\x.Z=[]
 len:∀x∈V.l,x.B.length=x.Z.length/\x.B.length<=65536/\Bytes x.B
 good:∀x∈V.l,x.n≠1->nameOf x.name=true
 up:∀x∈V.l,x.n≠1->z0a V.l x.par=1
 way:∀x∈V.l,∃ps,Way V.l x.n ps/\ps.length<=8
 apart:∀x∈V.l,∀y∈V.l,x.par=y.par->f1a x.name y.name=true->x=y
 many:V.l.length<=256
 used:(T0a V.l:Int)<=V.quota
section
variable {V:X0a} {n m d:Int} {x y:k0a} {s:o0a} {ps qs:List o0a} {p:o0a}
theorem Vok.at(h:Vok V)(hx:x∈V.l):vAt V.l x.n=some x:=h.rise.at hx
theorem Vok.at1(h:Vok V):vAt V.l 1=some W3a:=by have h1:W3a∈V.l:=List.mem_of_getElem? h.root;exact h.at h1
theorem Vok.one(h:Vok V)(hx:x∈V.l)(e:x.n=1):x=W3a:=h.rise.same hx (List.mem_of_getElem? h.root) e
theorem n8a(h:vAt V.l n=some x):z0a V.l n=x.kind:=by unfold z0a;rw[h]
theorem t2a(h:z0a V.l n≠0):∃x,vAt V.l n=some x:=by
 unfold z0a at h;cases hq:vAt V.l n with
 | none=>rw[hq] at h;exact absurd rfl h
 | some x=>exact⟨x,rfl⟩
theorem Vok.go(h:Vok V):∀{qs:List o0a} {m n:Int} {ps:List o0a},Way V.l m ps->vGo V.l m qs=(n,0)->∃rs,Way V.l n (ps++rs)/\rs.map B0a=qs.map B0a
 | [],m,n,ps,hw,hg=>by
  unfold vGo at hg;injection hg with h1 _
  subst h1;exact⟨[],by rw[List.append_nil];exact hw,rfl⟩
 | s::r,m,n,ps,hw,hg=>by
  unfold vGo at hg;by_cases h1:z0a V.l m≠1
  ·rw[if_pos h1] at hg;injection hg with _ h2
   cases h2
  ·rw[if_neg h1] at hg;by_cases h2:x0a V.l m s=0
   ·rw[if_pos h2] at hg;injection hg with _ h3
    cases h3
   ·rw[if_neg h2] at hg;obtain⟨x,hx,e1,e2,e3⟩:=J1a h2;rw[<-e3] at hg;have hne:x.n≠1:=λe=>by
     rw[h.one hx e] at e1;have hk:z0a V.l m=1:=by simpa using h1
     rw[<-e1] at hk;obtain⟨y,hy⟩:=t2a (V:=V) (n:=W3a.par) (by rw[hk];decide);have:=h.num y (y0a hy).1;have h5:=(y0a hy).2;have h6:W3a.par=0:=rfl;omega
    have hw2:Way V.l x.n (ps++[x.name]):=Way.step (h.at hx) hne (by rw[e1];exact hw);obtain⟨rs,w1,w2⟩:=h.go hw2 hg;refine⟨x.name::rs,?_,?_⟩
    ·rw[List.append_assoc] at w1;exact w1
    ·rw[List.map_cons,List.map_cons,w2,X1a.1 e2]
theorem Vok.child(h:Vok V)(hx:x∈V.l)(ha:f1a x.name s=true):x0a V.l x.par s=x.n:=by
 have h0:x0a V.l x.par s≠0:=λe=>by have:=c5a (λy hy=>(h.num y hy).1) e x hx rfl;rw[ha] at this;cases this
 obtain⟨y,hy,e1,e2,e3⟩:=J1a h0;have:x=y:=h.apart x hx y hy e1.symm (X1a.2 ((X1a.1 ha).trans (X1a.1 e2).symm));rw[<-e3,this]
theorem A7a(L:List k0a):∀(qs rs:List o0a) (m n:Int),vGo L m qs=(n,0)->vGo L m (qs++rs)=vGo L n rs
 | [],rs,m,n,h=>by
  unfold vGo at h;injection h with h1 _
  rw[h1,List.nil_append]
 | s::r,rs,m,n,h=>by
  show(if z0a L m≠1 then ((0:Int),(9:Int)) else if x0a L m s=0 then (0,7) else vGo L (x0a L m s) (r++rs))=_
  unfold vGo at h;split at h
  ·injection h with _ h2;cases h2
  ·split at h
   ·injection h with _ h2;cases h2
   ·rename_i h1 h2;rw[if_neg h1,if_neg h2];exact A7a L r rs _ n h
theorem Vok.found(h:Vok V)(hw:Way V.l n ps):∀{qs:List o0a},qs.map B0a=ps.map B0a->vGo V.l 1 qs=(n,0):=by
 induction hw with
 | root=>
  intro qs hq;obtain rfl:qs=[]:=by simpa using hq
  rfl
 | @step x ps a b c ih=>
  intro qs hq;rw[List.map_append] at hq;obtain⟨q1,q2,rfl,h1,h2⟩:=List.map_eq_append_iff.1 hq;obtain⟨s,rfl⟩:∃s,q2=[s]:=by
   cases q2 with
   | nil=>cases h2
   | cons s r=>
    cases r with
    | nil=>exact⟨s,rfl⟩
    | cons t r=>simp at h2
  rw[A7a V.l q1 [s] 1 x.par (ih h1)];have hx:=(y0a a).1;have hk:=h.up x hx b;have hs:B0a s=B0a x.name:=by simpa using h2
  have hc:=h.child hx (X1a.2 hs.symm);unfold vGo;rw[if_neg (by rw[hk];decide),if_neg (by rw[hc];have:=(h.num x hx).1;omega),hc];rfl
theorem Vok.find(h:Vok V)(hw:Way V.l n ps)(h8:ps.length<=8)(hg:∀p∈ps,nameOf p=true):A1a V.l (l2a ps)=(n,0):=by have he:s1a ps=0:=w1a.2 ⟨hg,h8⟩;obtain⟨e1,e2⟩:=u7a he;unfold A1a;rw[if_neg (by rw[e1];decide),e2];exact h.found hw rfl
theorem Way.good(h:Vok V)(hw:Way V.l n ps):∀p∈ps,nameOf p=true:=by
 induction hw with
 | root=>intro p hp;cases hp
 | @step x ps a b c ih=>
  intro p hp;rcases List.mem_append.1 hp with hp | hp
  ·exact ih p hp
  ·rw[List.mem_singleton.1 hp];exact h.good x (y0a a).1 b
theorem Way.at(h:Vok V)(hw:Way V.l n ps):∃x,vAt V.l n=some x:=by
 cases hw with
 | root=>exact⟨_,h.at1⟩
 | step a b c=>exact⟨_,a⟩
end
section
variable {L L':List k0a} {n m d:Int} {x y:k0a} {s:o0a} {ps qs:List o0a} {p:o0a}
theorem o6a.at_iff(h:o6a L):vAt L n=some x↔x∈L/\x.n=n:=by
 constructor
 ·exact y0a
 ·rintro⟨h1,rfl⟩;exact h.at h1
theorem o6a.kind(h:o6a L)(hx:x∈L):z0a L x.n=x.kind:=by unfold z0a;rw[h.at hx]
theorem Way.keep(h:Way L n ps)(hk:∀x∈L,x.n≠1->∀qs,Way L x.par qs->qs.length<ps.length->∃y,vAt L' x.n=some y/\y.n=x.n/\y.par=x.par/\y.name=x.name):Way L' n ps:=by
 induction h with
 | root=>exact Way.root
 | @step x ps a b c ih=>
  obtain⟨y,h1,h2,h3,h4⟩:=hk x (y0a a).1 b ps c (by simp);have:=ih λz hz hz1 qs hq hl=>hk z hz hz1 qs hq (by simp;omega)
  rw[<-h3] at this;rw[<-h2] at h1 b⊢;rw[<-h4];exact Way.step h1 b this
theorem Way.keep'(h:Way L n ps)(hk:∀x∈L,∃y,vAt L' x.n=some y/\y.n=x.n/\y.par=x.par/\y.name=x.name):Way L' n ps:=h.keep λx hx _ _ _ _=>hk x hx
theorem w4a(L M:List k0a):T0a (L++M)=T0a L+T0a M:=by unfold T0a;rw[List.map_append,List.sum_append]
end
theorem A2c{q:Int}(h:O3a q=0):0<=q/\q<=1048576:=by
 unfold O3a at h;by_cases h1:q<0∨1048576<q
 ·rw[if_pos h1] at h;cases h
 ·omega
theorem Vok.new{q:Int}(h:O3a q=0):Vok (e2c q):=by
 obtain⟨h1,h2⟩:=A2c h;have hm:∀x∈(e2c q).l,x=W3a:=λx hx=>List.mem_singleton.1 hx
 refine⟨List.pairwise_singleton _ _,rfl,h1,h2,?_,?_,?_,?_,?_,?_,?_,?_,?_,?_⟩
 ·intro x hx;rw[hm x hx];show(1:Int)<=1/\(1:Int)<=1;decide
 ·intro x hx;rw[hm x hx];exact .inl rfl
 ·intro x hx _;rw[hm x hx];exact⟨rfl,rfl⟩
 ·intro x hx;rw[hm x hx];exact⟨rfl,by decide,Bytes.nil⟩
 ·intro x hx hn;rw[hm x hx] at hn;exact absurd rfl hn
 ·intro x hx hn;rw[hm x hx] at hn;exact absurd rfl hn
 ·intro x hx;rw[hm x hx];exact⟨[],Way.root,by decide⟩
 ·intro x hx y hy _ _;rw[hm x hx,hm y hy]
 ·show 1<=256;decide
 ·exact h1
section
variable {V:X0a} {n m d k:Int} {x y:k0a} {s:o0a} {ps qs:List o0a} {p:o0a}
theorem Vok.mem1(h:Vok V):W3a∈V.l:=List.mem_of_getElem? h.root
theorem u2a(h:h0a p=0)(hne:p≠[]):h0a (n2a p)=0/\m0a (n2a p)=(m0a p).dropLast/\nameOf (lastOf p)=true/\m0a p=(m0a p).dropLast++[lastOf p]:=by
 obtain⟨f1,f2,f3,_⟩:=o4b (a2a.2 ⟨h,hne⟩);have e:(m0a p).dropLast=m0a (n2a p):=by rw[f1,List.dropLast_concat]
 rw[e];exact⟨f2,rfl,f3,f1⟩
theorem Vok.par(h:Vok V)(hp:h0a p=0)(hne:p≠[])(he:l3a V.l p=0):∃rs,Way V.l (P0a V.l p) rs/\rs.map B0a=(m0a (n2a p)).map B0a/\z0a V.l (P0a V.l p)=1/\Q0a V.l p=lastOf p:=by
 have e1:P0a V.l p=(A1a V.l (n2a p)).1:=if_pos he;have e2:Q0a V.l p=lastOf p:=if_pos he;rw[e1,e2];unfold l3a at he;by_cases h1:(A1a V.l (n2a p)).2≠0
 ·rw[if_pos h1] at he;exact absurd he h1
 ·rw[if_neg h1] at he;by_cases h2:z0a V.l (A1a V.l (n2a p)).1≠1
  ·rw[if_pos h2] at he;cases he
  ·obtain⟨d1,_,_,_⟩:=u2a hp hne;have hf:A1a V.l (n2a p)=vGo V.l 1 (m0a (n2a p)):=by unfold A1a;rw[if_neg (by rw[d1];decide)]
   have h1':(A1a V.l (n2a p)).2=0:=by simpa using h1
   have hg:vGo V.l 1 (m0a (n2a p))=((A1a V.l (n2a p)).1,0):=by rw[<-hf];exact Prod.ext rfl h1'
   obtain⟨rs,w1,w2⟩:=h.go Way.root hg;rw[List.nil_append] at w1;exact⟨rs,w1,w2,by simpa using h2,rfl⟩
theorem w4b(h:I1a V p k=0):h0a p=0/\p≠[]/\l3a V.l p=0/\x0a V.l (P0a V.l p) (Q0a V.l p)=0/\(k=1∨k=2)/\V.l.length<256:=by
 unfold I1a at h;by_cases h1:h0a p≠0
 ·rw[if_pos h1] at h;exact absurd h h1
 rw[if_neg h1] at h;by_cases h2:p=[]
 ·rw[if_pos h2] at h;cases h
 rw[if_neg h2] at h;by_cases h3:l3a V.l p≠0
 ·rw[if_pos h3] at h;exact absurd h h3
 rw[if_neg h3] at h;by_cases h4:x0a V.l (P0a V.l p) (Q0a V.l p)≠0
 ·rw[if_pos h4] at h;cases h
 rw[if_neg h4] at h;by_cases h5:k≠1/\k≠2
 ·rw[if_pos h5] at h;cases h
 rw[if_neg h5] at h;by_cases h6:256<=V.l.length
 ·rw[if_pos h6] at h;cases h
 exact⟨by simpa using h1,h2,by simpa using h3,by simpa using h4,by omega,by omega⟩
theorem R9b{L:List k0a}(h:o6a L)(hx:∀y∈L,y.n<x.n):o6a (L++[x]):=by unfold o6a;rw[List.pairwise_append];exact⟨h,List.pairwise_singleton _ _,λy hy z hz=>by rw[List.mem_singleton.1 hz];exact hx y hy⟩
theorem Vok.make(h:Vok V)(p:o0a)(k:Int):Vok (F3a V p k):=by
 unfold F3a;by_cases he:I1a V p k=0
 ·rw[if_pos he];obtain⟨e1,e2,e3,e4,e5,e6⟩:=w4b he;obtain⟨rs,w1,w2,w3,w4⟩:=h.par e1 e2 e3;obtain⟨d1,d2,d3,d4⟩:=u2a e1 e2;obtain⟨d,hd⟩:∃d,d=P0a V.l p:=⟨_,rfl⟩;rw[<-hd] at e4 w1 w3⊢;rw[w4] at e4⊢;obtain⟨x,hx⟩:∃x:k0a,x=⟨V.last+1,k,d,lastOf p,[],[]⟩:=⟨_,rfl⟩;rw[<-hx];have hxn:x.n=V.last+1:=by rw[hx]
  have hxp:x.par=d:=by rw[hx]
  have hxs:x.name=lastOf p:=by rw[hx]
  have hxB:x.B=[]:=by rw[hx]
  have hxZ:x.Z=[]:=by rw[hx]
  have hxk:x.kind=k:=by rw[hx]
  have hr:o6a (V.l++[x]):=R9b h.rise λy hy=>by have:=(h.num y hy).2;omega
  have hl1:1<=V.last:=(h.num W3a h.mem1).2;have hin:∀y∈V.l,y∈V.l++[x]:=λy hy=>List.mem_append_left _ hy
  have hcase:∀y∈V.l++[x],y∈V.l∨y=x:=λy hy=>by
   rcases List.mem_append.1 hy with hy | hy
   ·exact .inl hy
   ·exact .inr (List.mem_singleton.1 hy)
  have hkk:∀m,z0a V.l m=1->z0a (V.l++[x]) m=1:=λm hm=>by obtain⟨y,hy⟩:=t2a (V:=V) (n:=m) (by rw[hm];decide);obtain⟨y1,y2⟩:=y0a hy;have:=n8a (V:=V) hy;rw[<-y2,hr.kind (hin y y1),<-this,hm]
  have hway:∀{m ps},Way V.l m ps->Way (V.l++[x]) m ps:=λhw=>hw.keep' λy hy=>⟨y,hr.at (hin y hy),rfl,rfl,rfl⟩
  have hrs:rs.length<=7:=by have h1:=congrArg List.length w2;rw[List.length_map,List.length_map,d2,List.length_dropLast] at h1;have h2:=D8a e1;omega
  refine⟨hr,?_,h.q0,h.q1,?_,?_,?_,?_,?_,?_,?_,?_,?_,?_⟩
  ·show(V.l++[x])[0]? = some W3a
   have h0:0<V.l.length:=by obtain⟨h1,_⟩:=List.getElem?_eq_some_iff.1 h.root;exact h1
   rw[List.getElem?_append_left h0];exact h.root
  ·intro y hy;rcases hcase y hy with hy | rfl
   ·have:=h.num y hy;show 1<=y.n/\y.n<=V.last+1
    omega
   ·show 1<=y.n/\y.n<=V.last+1
    omega
  ·intro y hy;rcases hcase y hy with hy | rfl
   ·exact h.kind y hy
   ·rw[hxk];exact e5
  ·intro y hy hk;rcases hcase y hy with hy | rfl
   ·exact h.dirB y hy hk
   ·exact⟨hxB,hxZ⟩
  ·intro y hy;rcases hcase y hy with hy | rfl
   ·exact h.len y hy
   ·rw[hxB,hxZ];exact⟨rfl,by decide,Bytes.nil⟩
  ·intro y hy hn;rcases hcase y hy with hy | rfl
   ·exact h.good y hy hn
   ·rw[hxs];exact d3
  ·intro y hy hn;rcases hcase y hy with hy | rfl
   ·exact hkk _ (h.up y hy hn)
   ·rw[hxp];exact hkk _ w3
  ·intro y hy;rcases hcase y hy with hy | rfl
   ·obtain⟨qs,q1,q2⟩:=h.way y hy;exact⟨qs,hway q1,q2⟩
   ·exact⟨rs++[y.name],Way.step (hr.at (List.mem_append_right _ (List.mem_singleton.2 rfl))) (by omega) (by rw[hxp];exact hway w1),by simp;omega⟩
  ·have hno:∀y∈V.l,y.par=d->f1a y.name (lastOf p)=false:=c5a (λy hy=>(h.num y hy).1) e4;intro y hy z hz hpar ha;rcases hcase y hy with hy1 | hy1
   ·rcases hcase z hz with hz1 | hz1
    ·exact h.apart y hy1 z hz1 hpar ha
    ·rw[hz1,hxs,hno y hy1 (by rw[hpar,hz1,hxp])] at ha;cases ha
   ·rcases hcase z hz with hz1 | hz1
    ·have ha':=X1a.2 (X1a.1 ha).symm;rw[hy1,hxs,hno z hz1 (by rw[<-hpar,hy1,hxp])] at ha';cases ha'
    ·rw[hy1,hz1]
  ·show(V.l++[x]).length<=256
   simp;omega
  ·show((T0a (V.l++[x]):Nat):Int)<=V.quota
   have:T0a (V.l++[x])=T0a V.l:=by rw[w4a];unfold T0a;simp[hxB]
   rw[this];exact h.used
 ·rw[if_neg he];exact h
end
section
variable {V:X0a} {L:List k0a} {n m d k:Int} {x y:k0a} {s:o0a} {ps qs:List o0a} {p:o0a}
theorem V3c(h:vAt L n=some x):vIx L n<L.length:=(List.getElem?_eq_some_iff.1 h).1
theorem h3a(h:o6a L)(ha:vAt L n=some y):x∈z1a L n↔x∈L/\x.n≠n:=by
 have hl:=V3c ha;have he:L[vIx L n]=y:=(List.getElem?_eq_some_iff.1 ha).2;have hy:=y0a ha;unfold z1a;rw[List.mem_eraseIdx_iff_getElem];constructor
 ·rintro⟨i,hi,hne,rfl⟩;refine⟨List.getElem_mem hi,λe=>hne ?_⟩;rcases Nat.lt_trichotomy i (vIx L n) with h1 | h1 | h1
  ·have h2:=List.pairwise_iff_getElem.1 h i (vIx L n) hi hl h1;rw[he,hy.2] at h2;omega
  ·exact h1
  ·have h2:=List.pairwise_iff_getElem.1 h (vIx L n) i hl hi h1;rw[he,hy.2] at h2;omega
 ·rintro⟨h1,h2⟩;obtain⟨i,hi,rfl⟩:=List.mem_iff_getElem.1 h1;exact⟨i,hi,λe=>h2 (by subst e;rw[he];exact hy.2),rfl⟩
theorem c1b(h:o6a L):o6a (z1a L n):=List.Pairwise.sublist (List.eraseIdx_sublist _ _) h
theorem x4b:∀(l:List Nat) (i:Nat) (h:i<l.length),(l.eraseIdx i).sum+l[i]=l.sum
 | [],i,h=>by simp at h
 | a::r,0,h=>by simp;omega
 | a::r,i+1,h=>by have:=x4b r i (by simpa using h);simp;omega
theorem S9b(ha:vAt L n=some x):T0a (z1a L n)+x.B.length=T0a L:=by have hl:=V3c ha;have he:L[vIx L n]=x:=(List.getElem?_eq_some_iff.1 ha).2;have h1:=x4b (L.map λx=>x.B.length) (vIx L n) (by simpa using hl);unfold T0a z1a;rw[<-h1,List.eraseIdx_eq_take_drop_succ,List.eraseIdx_eq_take_drop_succ,List.map_append,List.map_take,List.map_drop];simp[he]
theorem d1b(h:s4a L n=true):∀x∈L,x.par≠n:=λx hx=>by have:=List.all_eq_true.1 h x hx;simpa using this
theorem Vok.away(h:Vok V)(ha:vAt V.l n=some y)(h1:n≠1)(he:∀x∈V.l,x.n≠1->x.par≠n):Vok ⟨V.quota,V.last,z1a V.l n⟩:=by
 have hm:∀x,x∈z1a V.l n↔x∈V.l/\x.n≠n:=λx=>h3a h.rise ha
 have hr:o6a (z1a V.l n):=c1b h.rise;have hsub:∀x∈z1a V.l n,x∈V.l:=λx hx=>((hm x).1 hx).1
 have hway:∀{m ps},Way V.l m ps->m≠n->Way (z1a V.l n) m ps:=fun {m ps} hw=>by
  induction hw with
  | root=>intro _;exact Way.root
  | @step x ps a b c ih=>intro hne;have hx:=(y0a a).1;exact Way.step (hr.at ((hm x).2 ⟨hx,hne⟩)) b (ih (he x hx b))
 refine⟨hr,?_,h.q0,h.q1,λx hx=>h.num x (hsub x hx),λx hx=>h.kind x (hsub x hx),λx hx=>h.dirB x (hsub x hx),λx hx=>h.len x (hsub x hx),λx hx=>h.good x (hsub x hx),λx hx hx1=>?_,λx hx=>?_,λx hx y hy=>h.apart x (hsub x hx) y (hsub y hy),?_,?_⟩
 ·have hi:0<vIx V.l n:=by
   rcases Nat.eq_zero_or_pos (vIx V.l n) with h0 | h0
   ·unfold vAt at ha;rw[h0,h.root] at ha;injection ha with ha
    have:=(y0a (L:=V.l) (n:=n) (x:=y) (by unfold vAt;rw[h0,h.root,ha])).2;rw[<-ha] at this;exact absurd this.symm h1
   ·exact h0
  show(V.l.eraseIdx (vIx V.l n))[0]? = some W3a
  rw[List.getElem?_eraseIdx,if_pos hi];exact h.root
 ·have h2:=h.up x (hsub x hx) hx1;have h3:=he x (hsub x hx) hx1;obtain⟨z,hz⟩:=t2a (V:=V) (n:=x.par) (by rw[h2];decide);obtain⟨z1,z2⟩:=y0a hz;have h4:=n8a (V:=V) hz;show z0a (z1a V.l n) x.par=1
  rw[<-z2,hr.kind ((hm z).2 ⟨z1,by rw[z2];exact h3⟩),<-h4,h2]
 ·obtain⟨ps,w1,w2⟩:=h.way x (hsub x hx);exact⟨ps,hway w1 ((hm x).1 hx).2,w2⟩
 ·exact Nat.le_trans (List.eraseIdx_sublist _ _).length_le h.many
 ·have:=S9b ha;have h5:=h.used;show((T0a (z1a V.l n):Nat):Int)<=V.quota
  omega
theorem U5a(h:q1a L n=0):(∃x,vAt L n=some x)/\n≠1:=by
 unfold q1a at h;cases hq:vAt L n with
 | none=>rw[hq,if_pos (by simp)] at h;cases h
 | some x=>rw[hq,if_neg (by simp)] at h;refine⟨⟨x,rfl⟩,λe=>?_⟩;rw[if_pos e] at h;cases h
theorem P8a(h:D3a L n=0):(∃x,vAt L n=some x)/\n≠1/\s4a L n=true:=by
 unfold D3a at h;by_cases h1:q1a L n≠0
 ·rw[if_pos h1] at h;exact absurd h h1
 rw[if_neg h1] at h;obtain⟨a,b⟩:=U5a (L:=L) (n:=n) (by simpa using h1);refine⟨a,b,?_⟩;cases hq:s4a L n with
 | true=>rfl
 | false=>rw[hq,if_pos rfl] at h;cases h
theorem Vok.rem(h:Vok V)(n:Int):Vok (U6a V n):=by
 unfold U6a;by_cases he:D3a V.l n=0
 ·rw[if_pos he];obtain⟨⟨y,hy⟩,h1,h2⟩:=P8a he;exact h.away hy h1 λx hx _=>d1b h2 x hx
 ·rw[if_neg he];exact h
theorem S5b{B:List Int}{Z:List Bool}:x∈v4a L n B Z↔∃y∈L,x=(if y.n=n then ⟨y.n,y.kind,y.par,y.name,B,Z⟩ else y):=by unfold v4a;rw[List.mem_map];exact⟨fun⟨y,h1,h2⟩=>⟨y,h1,h2.symm⟩,fun⟨y,h1,h2⟩=>⟨y,h1,h2.symm⟩⟩
theorem B0b{B:List Int}{Z:List Bool}(y:k0a):(if y.n=n then (⟨y.n,y.kind,y.par,y.name,B,Z⟩:k0a) else y).n=y.n/\(if y.n=n then (⟨y.n,y.kind,y.par,y.name,B,Z⟩:k0a) else y).kind=y.kind/\(if y.n=n then (⟨y.n,y.kind,y.par,y.name,B,Z⟩:k0a) else y).par=y.par/\(if y.n=n then (⟨y.n,y.kind,y.par,y.name,B,Z⟩:k0a) else y).name=y.name:=by split<;>exact⟨rfl,rfl,rfl,rfl⟩
theorem B2c{B:List Int}{Z:List Bool}(h:o6a L):o6a (v4a L n B Z):=by unfold o6a v4a;rw[List.pairwise_map];exact List.Pairwise.imp (fun {a b} q=>by rw[(B0b a).1,(B0b b).1];exact q) h
theorem Q8a{B:List Int}{Z:List Bool}:∀{L:List k0a},o6a L->vAt L n=some x->T0a (v4a L n B Z)+x.B.length=T0a L+B.length
 | [],_,ha=>by cases ha
 | y::r,h,ha=>by
  obtain⟨h1,h2⟩:=List.pairwise_cons.1 h;obtain⟨a1,a2⟩:=y0a ha;have hu:∀(z:k0a) (M:List k0a),T0a (z::M)=z.B.length+T0a M:=λz M=>rfl
  have hl:v4a (y::r) n B Z=(if y.n=n then ⟨y.n,y.kind,y.par,y.name,B,Z⟩ else y)::v4a r n B Z:=rfl;rw[hl,hu,hu];by_cases hy:y.n=n
  ·have hxy:x=y:=by
    rcases List.mem_cons.1 a1 with e | e
    ·exact e
    ·have:=h1 x e;omega
   have hrest:v4a r n B Z=r:=by
    unfold v4a
    conv=>rhs;rw[<-List.map_id r]
    apply List.map_congr_left;intro z hz;have:=h1 z hz;rw[if_neg (by omega)];rfl
   rw[if_pos hy,hrest,hxy];simp only;omega
  ·have hxr:x∈r:=by
    rcases List.mem_cons.1 a1 with e | e
    ·rw[e] at a2;exact absurd a2 hy
    ·exact e
   have:=Q8a (B:=B) (Z:=Z) (L:=r) h2 ((o6a.at_iff h2).2 ⟨hxr,a2⟩);rw[if_neg hy];omega
theorem Vok.lay(h:Vok V)(ha:vAt V.l n=some x)(hk:x.kind=2){B:List Int}{Z:List Bool}(hB:B.length=Z.length/\B.length<=65536/\Bytes B)(hq:(T0a V.l:Int)-x.B.length+B.length<=V.quota):Vok ⟨V.quota,V.last,v4a V.l n B Z⟩:=by
 have hr:o6a (v4a V.l n B Z):=B2c h.rise;obtain⟨hx,hxn⟩:=y0a ha;have hn1:n≠1:=λe=>by have:=h.one hx (by rw[hxn,e]);rw[this] at hk;cases hk
 have back:∀y∈v4a V.l n B Z,∃z∈V.l,y.n=z.n/\y.kind=z.kind/\y.par=z.par/\y.name=z.name/\(y=z∨(z=x/\y.B=B/\y.Z=Z)):=λy hy=>by
  obtain⟨z,hz,rfl⟩:=S5b.1 hy;obtain⟨k1,k2,k3,k4⟩:=B0b (n:=n) (B:=B) (Z:=Z) z;refine⟨z,hz,k1,k2,k3,k4,?_⟩;by_cases e:z.n=n
  ·exact .inr ⟨h.rise.same hz hx (by rw[e,hxn]),by rw[if_pos e],by rw[if_pos e]⟩
  ·exact .inl (if_neg e)
 have forth:∀z∈V.l,∃y,vAt (v4a V.l n B Z) z.n=some y/\y.n=z.n/\y.kind=z.kind/\y.par=z.par/\y.name=z.name:=λz hz=>by obtain⟨k1,k2,k3,k4⟩:=B0b (n:=n) (B:=B) (Z:=Z) z;have hm:(if z.n=n then (⟨z.n,z.kind,z.par,z.name,B,Z⟩:k0a) else z)∈v4a V.l n B Z:=S5b.2 ⟨z,hz,rfl⟩;exact⟨_,hr.at_iff.2 ⟨hm,k1⟩,k1,k2,k3,k4⟩
 refine⟨hr,?_,h.q0,h.q1,?_,?_,?_,?_,?_,?_,?_,?_,?_,?_⟩
 ·show(v4a V.l n B Z)[0]? = some W3a
  unfold v4a;rw[List.getElem?_map,h.root];show some (if W3a.n=n then _ else W3a)=_
  rw[if_neg (λe=>hn1 e.symm)]
 ·intro y hy;obtain⟨z,hz,e,_⟩:=back y hy;rw[e];exact h.num z hz
 ·intro y hy;obtain⟨z,hz,_,e,_⟩:=back y hy;rw[e];exact h.kind z hz
 ·intro y hy hk1;obtain⟨z,hz,_,e,_,_,e2⟩:=back y hy;rcases e2 with rfl | ⟨rfl,_⟩
  ·exact h.dirB y hz hk1
  ·rw[e,hk] at hk1;cases hk1
 ·intro y hy;obtain⟨z,hz,_,_,_,_,e2⟩:=back y hy;rcases e2 with rfl | ⟨_,e3,e4⟩
  ·exact h.len y hz
  ·rw[e3,e4];exact hB
 ·intro y hy hy1;obtain⟨z,hz,e1,_,_,e,_⟩:=back y hy;rw[e];exact h.good z hz (by rw[<-e1];exact hy1)
 ·intro y hy hy1;obtain⟨z,hz,e1,_,e,_⟩:=back y hy;have h2:=h.up z hz (by rw[<-e1];exact hy1);obtain⟨u,hu⟩:=t2a (V:=V) (n:=z.par) (by rw[h2];decide);obtain⟨u1,u2⟩:=y0a hu;obtain⟨t,t1,t2,t3,_⟩:=forth u u1;have h4:=n8a (V:=V) hu;show z0a (v4a V.l n B Z) y.par=1
  rw[e,<-u2];unfold z0a;rw[t1];show t.kind=1
  rw[t3,<-h4,h2]
 ·intro y hy;obtain⟨z,hz,e1,_⟩:=back y hy;obtain⟨ps,w1,w2⟩:=h.way z hz;refine⟨ps,?_,w2⟩;rw[e1];exact w1.keep' λu hu=>by obtain⟨t,t1,t2,_,t4,t5⟩:=forth u hu;exact⟨t,t1,t2,t4,t5⟩
 ·intro y hy y' hy' hp ha';obtain⟨z,hz,e1,_,e3,e4,_⟩:=back y hy;obtain⟨z',hz',e1',_,e3',e4',_⟩:=back y' hy';have:=h.apart z hz z' hz' (by rw[<-e3,<-e3',hp]) (by rw[<-e4,<-e4'];exact ha');exact hr.same hy hy' (by rw[e1,e1',this])
 ·show(v4a V.l n B Z).length<=256
  unfold v4a;rw[List.length_map];exact h.many
 ·have:=Q8a (B:=B) (Z:=Z) h.rise ha;show((T0a (v4a V.l n B Z):Nat):Int)<=V.quota
  omega
theorem p6a(h:r1a L n=0):∃x,vAt L n=some x/\x.kind=2/\H0a L n=x.B/\b1b L n=x.Z:=by
 unfold r1a at h;cases hq:vAt L n with
 | none=>rw[hq,if_pos (by simp)] at h;cases h
 | some x=>
  rw[hq,if_neg (by simp)] at h;have hk:z0a L n=x.kind:=by unfold z0a;rw[hq]
  rw[hk] at h;refine⟨x,rfl,?_,by unfold H0a;rw[hq],by unfold b1b;rw[hq]⟩;by_cases e:x.kind≠2
  ·rw[if_pos e] at h;cases h
  ·simpa using e
theorem Vok.wr(h:Vok V)(n a:Int){xs:List Int}(hb:Bytes xs):Vok (vWr V n a xs):=by
 unfold vWr;by_cases he:A0b V n a xs=0
 ·rw[if_pos he];unfold A0b at he;by_cases h1:r1a V.l n≠0
  ·rw[if_pos h1] at he;exact absurd he h1
  rw[if_neg h1] at he;by_cases h2:q3a a xs.length≠0
  ·rw[if_pos h2] at he;exact absurd he h2
  rw[if_neg h2] at he;obtain⟨x,x1,x2,x3,x4⟩:=p6a (L:=V.l) (n:=n) (by simpa using h1);rw[x3] at he⊢;rw[x4];obtain⟨l1,l2,l3⟩:=h.len x (y0a x1).1;refine h.lay x1 x2 ⟨p2c 0 false l1 (by rw[List.length_replicate]) a,r2b 0 l2 a,b8b l3 hb a⟩ ?_;by_cases h3:V.quota<(T0a V.l:Int)-x.B.length+(Y3a 0 x.B a xs).length
  ·rw[if_pos h3] at he;cases he
  ·omega
 ·rw[if_neg he];exact h
theorem Vok.cut(h:Vok V)(n s:Int):Vok (b2b V n s):=by
 unfold b2b;by_cases he:n6a V n s=0
 ·rw[if_pos he];unfold n6a at he;by_cases h1:r1a V.l n≠0
  ·rw[if_pos h1] at he;exact absurd he h1
  rw[if_neg h1] at he;by_cases h2:C2a s≠0
  ·rw[if_pos h2] at he;exact absurd he h2
  rw[if_neg h2] at he;obtain⟨x,x1,x2,x3,x4⟩:=p6a (L:=V.l) (n:=n) (by simpa using h1);rw[x3] at he⊢;rw[x4];obtain⟨l1,l2,l3⟩:=h.len x (y0a x1).1;refine h.lay x1 x2 ⟨L9b 0 false l1 s,T0b 0 l2 s,O5b l3 s⟩ ?_;by_cases h3:V.quota<(T0a V.l:Int)-x.B.length+(T1a 0 x.B s).length
  ·rw[if_pos h3] at he;cases he
  ·omega
 ·rw[if_neg he];exact h
end
inductive Down (L:List k0a) (n:Int):Int->List o0a->Prop
 | self:Down L n n []
 | step {x:k0a} {ps:List o0a}:vAt L x.n=some x->x.n≠1->Down L n x.par ps->Down L n x.n (ps++[x.name])
section
variable {L L':List k0a} {n m d t:Int} {x y:k0a} {s:o0a} {ps qs ws rs:List o0a}
theorem Way.down(hw:Way L n ws)(hd:Down L n m ps):Way L m (ws++ps):=by
 induction hd with
 | self=>rw[List.append_nil];exact hw
 | step a b c ih=>rw[<-List.append_assoc];exact Way.step a b ih
theorem Down.nil(h:Down L n m []):m=n:=by
 generalize he:([]:List o0a)=q at h;cases h with
 | self=>rfl
 | step a b c=>simp at he
theorem Down.sub(h:Down L' n m ps)(hs:∀x n,vAt L' n=some x->vAt L n=some x):Down L n m ps:=by
 induction h with
 | self=>exact Down.self
 | step a b c ih=>exact Down.step (hs _ _ a) b ih
theorem Down.bel(h1:∀x∈L,1<=x.n)(h:Down L t m qs):∀f,qs≠[]->(∀ws,Way L m ws->ws.length<f)->(∃ws,Way L m ws)->x3b L f m t=true:=by
 induction h with
 | self=>intro f hq;exact absurd rfl hq
 | @step x ps a b c ih=>
  intro f hq hf hw;obtain⟨ws,hw⟩:=hw;cases f with
  | zero=>exact absurd (hf ws hw) (Nat.not_lt_zero _)
  | succ f=>
   have hx:=h1 x (y0a a).1;unfold x3b;rw[if_neg (by omega),a];simp only[Bool.or_eq_true,decide_eq_true_eq];by_cases hp:ps=[]
   ·subst hp;exact .inl c.nil
   ·refine .inr (ih f hp (λus hu=>?_) ?_)
    ·have:=hf _ (Way.step a b hu);rw[List.length_append] at this;simp at this;omega
    ·generalize he:x.n=k at hw;cases hw with
     | root=>exact absurd he b
     | @step y us a' b' c'=>
      rw[he,a'] at a;injection a with a
      rw[<-a];exact⟨us,c'⟩
theorem o6a.sub(h:o6a L)(h':o6a L')(hs:∀x∈L',x∈L):∀x n,vAt L' n=some x->vAt L n=some x:=λx n hx=>by obtain⟨a,b⟩:=y0a hx;exact h.at_iff.2 ⟨hs x a,b⟩
theorem B7a{d:Int}{s:o0a}(y:k0a):(if y.n=n then (⟨y.n,y.kind,d,s,y.B,y.Z⟩:k0a) else y).n=y.n/\(if y.n=n then (⟨y.n,y.kind,d,s,y.B,y.Z⟩:k0a) else y).kind=y.kind/\(if y.n=n then (⟨y.n,y.kind,d,s,y.B,y.Z⟩:k0a) else y).B=y.B/\(if y.n=n then (⟨y.n,y.kind,d,s,y.B,y.Z⟩:k0a) else y).Z=y.Z:=by split<;>exact⟨rfl,rfl,rfl,rfl⟩
theorem e1b:x∈f4a L n d s↔∃y∈L,x=(if y.n=n then ⟨y.n,y.kind,d,s,y.B,y.Z⟩ else y):=by unfold f4a;rw[List.mem_map];exact⟨fun⟨y,h1,h2⟩=>⟨y,h1,h2.symm⟩,fun⟨y,h1,h2⟩=>⟨y,h1,h2.symm⟩⟩
theorem l7b(h:o6a L):o6a (f4a L n d s):=by unfold o6a f4a;rw[List.pairwise_map];exact List.Pairwise.imp (fun {a b} q=>by rw[(B7a a).1,(B7a b).1];exact q) h
theorem f1b(h:o6a L)(hx:vAt L m=some x):vAt (f4a L n d s) m=some (if x.n=n then ⟨x.n,x.kind,d,s,x.B,x.Z⟩ else x):=by obtain⟨a,b⟩:=y0a hx;exact(l7b h).at_iff.2 ⟨e1b.2 ⟨x,a,rfl⟩,by rw[(B7a x).1,b]⟩
theorem C2c:T0a (f4a L n d s)=T0a L:=by
 unfold T0a f4a;rw[List.map_map]
 congr 1
 apply List.map_congr_left;intro y _;show(if y.n=n then (⟨y.n,y.kind,d,s,y.B,y.Z⟩:k0a) else y).B.length=y.B.length
 rw[(B7a y).2.2.1]
theorem Way.off(h:o6a L)(hw:Way L m ps)(hn:¬∃qs,Down L n m qs):Way (f4a L n d s) m ps:=by
 induction hw with
 | root=>exact Way.root
 | @step x ps a b c ih=>
  have hne:x.n≠n:=λe=>hn ⟨[],by rw[e];exact Down.self⟩
  have h1:=f1b (n:=n) (d:=d) (s:=s) h a;rw[if_neg hne] at h1;exact Way.step h1 b (ih fun⟨qs,hq⟩=>hn ⟨_,Down.step a b hq⟩)
theorem Down.moved(h:o6a L)(hd:Down L n m ps)(hw:Way L n ws){us:List o0a}(hu:Way (f4a L n d s) n us):Way (f4a L n d s) m (us++ps):=by
 induction hd with
 | self=>rw[List.append_nil];exact hu
 | @step x ps a b c ih=>
  have hne:x.n≠n:=λe=>by have h1:=hw.down (Down.step a b c);rw[e] at h1;have h2:=congrArg List.length (hw.same h1);rw[List.length_append,List.length_append,List.length_cons] at h2;omega
  have h1:=f1b (n:=n) (d:=d) (s:=s) h a;rw[if_neg hne] at h1;rw[<-List.append_assoc];exact Way.step h1 b ih
end
section
variable {V:X0a} {n m d:Int} {x y:k0a} {s:o0a} {ps qs ws rs:List o0a} {tp:o0a} {over:Bool}
theorem Vok.set(h:Vok V)(ha:vAt V.l n=some x)(h1:n≠1)(hd:z0a V.l d=1)(hs:nameOf s=true)(hw:Way V.l d rs)(hnd:¬∃qs,Down V.l n d qs)(hdeep:∀m qs,Down V.l n m qs->rs.length+1+qs.length<=8)(hno:∀y∈V.l,y.par=d->f1a y.name s=true->y.n=n) :
  Vok ⟨V.quota,V.last,f4a V.l n d s⟩:=by
 have hr:o6a (f4a V.l n d s):=l7b h.rise;obtain⟨hx,hxn⟩:=y0a ha;have back:∀y∈f4a V.l n d s,∃z∈V.l,y.n=z.n/\y.kind=z.kind/\y.B=z.B/\y.Z=z.Z/\((z.n≠n/\y=z)∨(z.n=n/\y.par=d/\y.name=s)):=λy hy=>by
  obtain⟨z,hz,rfl⟩:=e1b.1 hy;obtain⟨k1,k2,k3,k4⟩:=B7a (n:=n) (d:=d) (s:=s) z;refine⟨z,hz,k1,k2,k3,k4,?_⟩;by_cases e:z.n=n
  ·exact .inr ⟨e,by rw[if_pos e],by rw[if_pos e]⟩
  ·exact .inl ⟨e,if_neg e⟩
 have hkk:∀m,z0a V.l m=1->z0a (f4a V.l n d s) m=1:=λm hm=>by
  obtain⟨z,hz⟩:=t2a (V:=V) (n:=m) (by rw[hm];decide);have h2:=f1b (n:=n) (d:=d) (s:=s) h.rise hz;have h4:=n8a (V:=V) hz;unfold z0a;rw[h2];show(if z.n=n then (⟨z.n,z.kind,d,s,z.B,z.Z⟩:k0a) else z).kind=1
  rw[(B7a z).2.1,<-h4,hm]
 have hnew:Way (f4a V.l n d s) n (rs++[s]):=by have h2:=f1b (n:=n) (d:=d) (s:=s) h.rise ha;rw[if_pos hxn] at h2;have h3:=Way.step (x:=⟨x.n,x.kind,d,s,x.B,x.Z⟩) (ps:=rs) (L:=f4a V.l n d s) (by show vAt _ x.n=_;rw[hxn,h2,hxn]) (by show x.n≠1;rw[hxn];exact h1) (hw.off h.rise hnd);have h4:Way (f4a V.l n d s) x.n (rs++[s]):=h3;rw[hxn] at h4;exact h4
 obtain⟨ws,hws,_⟩:=h.way x hx;rw[hxn] at hws;refine⟨hr,?_,h.q0,h.q1,?_,?_,?_,?_,?_,?_,?_,?_,?_,?_⟩
 ·show(f4a V.l n d s)[0]? = some W3a
  unfold f4a;rw[List.getElem?_map,h.root];show some (if W3a.n=n then _ else W3a)=_
  rw[if_neg (λe=>h1 e.symm)]
 ·intro y hy;obtain⟨z,hz,e,_⟩:=back y hy;rw[e];exact h.num z hz
 ·intro y hy;obtain⟨z,hz,_,e,_⟩:=back y hy;rw[e];exact h.kind z hz
 ·intro y hy hk;obtain⟨z,hz,_,e,e2,e3,_⟩:=back y hy;rw[e2,e3];exact h.dirB z hz (by rw[<-e];exact hk)
 ·intro y hy;obtain⟨z,hz,_,_,e2,e3,_⟩:=back y hy;rw[e2,e3];exact h.len z hz
 ·intro y hy hy1;obtain⟨z,hz,e1,_,_,_,e⟩:=back y hy;rcases e with⟨_,rfl⟩ | ⟨_,_,e⟩
  ·exact h.good y hz hy1
  ·rw[e];exact hs
 ·intro y hy hy1;obtain⟨z,hz,e1,_,_,_,e⟩:=back y hy;rcases e with⟨_,rfl⟩ | ⟨_,e,_⟩
  ·exact hkk _ (h.up y hz hy1)
  ·rw[e];exact hkk _ hd
 ·intro y hy;obtain⟨z,hz,e1,_⟩:=back y hy;obtain⟨ps,w1,w2⟩:=h.way z hz;rw[e1];by_cases hq:∃qs,Down V.l n z.n qs
  ·obtain⟨qs,hq⟩:=hq;refine⟨_,hq.moved h.rise hws hnew,?_⟩;have:=hdeep _ _ hq;rw[List.length_append,List.length_append];simp;omega
  ·exact⟨ps,w1.off h.rise hq,w2⟩
 ·intro y hy y' hy' hp ha';obtain⟨z,hz,e1,_,_,_,e⟩:=back y hy;obtain⟨z',hz',e1',_,_,_,e'⟩:=back y' hy';refine hr.same hy hy' ?_;rw[e1,e1'];rcases e with⟨q,rfl⟩ | ⟨q,q1,q2⟩
  ·rcases e' with⟨q',rfl⟩ | ⟨q',q1',q2'⟩
   ·rw[h.apart y hz y' hz' hp ha']
   ·rw[q1'] at hp;rw[q2'] at ha';exact absurd (hno y hz hp ha') q
  ·rcases e' with⟨q',rfl⟩ | ⟨q',q1',q2'⟩
   ·rw[q1] at hp;rw[q2] at ha';exact absurd (hno y' hz' hp.symm (X1a.2 (X1a.1 ha').symm)) q'
   ·rw[q,q']
 ·show(f4a V.l n d s).length<=256
  unfold f4a;rw[List.length_map];exact h.many
 ·show((T0a (f4a V.l n d s):Nat):Int)<=V.quota
  rw[C2c];exact h.used
theorem m7b(h:z3a V.l n tp=0):q1a V.l n=0/\h0a tp=0/\tp≠[]/\g3a tp (i1a V.l n)=false/\l3a V.l tp=0/\(m0a tp).length+t4a V.l n<=8:=by
 unfold z3a at h;by_cases h1:q1a V.l n≠0
 ·rw[if_pos h1] at h;exact absurd h h1
 rw[if_neg h1] at h;by_cases h2:h0a tp≠0
 ·rw[if_pos h2] at h;exact absurd h h2
 rw[if_neg h2] at h;by_cases h3:tp=[]∨g3a tp (i1a V.l n)=true
 ·rw[if_pos h3] at h;cases h
 rw[if_neg h3] at h;by_cases h4:l3a V.l tp≠0
 ·rw[if_pos h4] at h;exact absurd h h4
 rw[if_neg h4] at h;by_cases h5:8<(m0a tp).length+t4a V.l n
 ·rw[if_pos h5] at h;cases h
 refine⟨by simpa using h1,by simpa using h2,λe=>h3 (.inl e),?_,by simpa using h4,by omega⟩;cases hq:g3a tp (i1a V.l n) with
 | false=>rfl
 | true=>exact absurd (.inr hq) h3
theorem R8a(h:x1a V.l n tp over=0):z3a V.l n tp=0/\(l1a V.l n tp=0∨(z0a V.l (l1a V.l n tp)≠1/\z0a V.l n≠1)):=by
 unfold x1a at h;by_cases h1:z3a V.l n tp≠0
 ·rw[if_pos h1] at h;exact absurd h h1
 rw[if_neg h1] at h;by_cases h2:l1a V.l n tp≠0/\over=false
 ·rw[if_pos h2] at h;cases h
 rw[if_neg h2] at h;by_cases h3:l1a V.l n tp≠0/\(z0a V.l (l1a V.l n tp)=1∨z0a V.l n=1)
 ·rw[if_pos h3] at h;cases h
 refine⟨by simpa using h1,?_⟩;by_cases h4:l1a V.l n tp=0
 ·exact .inl h4
 ·exact .inr ⟨λe=>h3 ⟨h4,.inl e⟩,λe=>h3 ⟨h4,.inr e⟩⟩
theorem V5a(h:Vok V)(hw:Way V.l n ws)(h8:ws.length<=8):i1a V.l n=l2a ws/\I2a V.l n=0/\h0a (l2a ws)=0/\m0a (l2a ws)=ws:=by
 have he:s1a ws=0:=w1a.2 ⟨hw.good h,h8⟩;obtain⟨x,hx⟩:=hw.at h;have e1:I2a V.l n=0:=by unfold I2a;rw[if_neg (by rw[hx];simp),hw.names h8,he]
 have e2:i1a V.l n=l2a ws:=by unfold i1a;rw[if_pos e1,hw.names h8]
 exact⟨e2,e1,u7a he⟩
theorem V6a(f:k0a->Bool)(g:k0a->Nat):∀(l:List k0a) (m:Nat),m<=l.foldl (λm x=>if f x=true then max m (g x) else m) m/\∀x∈l,f x=true->g x<=l.foldl (λm x=>if f x=true then max m (g x) else m) m
 | [],m=>⟨Nat.le_refl _,λx h=>by cases h⟩
 | y::r,m=>by
  obtain⟨a,b⟩:=V6a f g r (if f y=true then max m (g y) else m);rw[List.foldl_cons];refine⟨Nat.le_trans ?_ a,λx hx hf=>?_⟩
  ·split<;>omega
  ·rcases List.mem_cons.1 hx with rfl | hx
   ·refine Nat.le_trans ?_ a;rw[if_pos hf];omega
   ·exact b x hx hf
theorem Vok.deep(h:Vok V)(hw:Way V.l n ws)(h8:ws.length<=8)(hd:Down V.l n m qs):qs.length<=t4a V.l n:=by
 by_cases hq:qs=[]
 ·rw[hq];exact Nat.zero_le _
 have hm:=hw.down hd;obtain⟨x,hx⟩:=hm.at h;obtain⟨hx1,hx2⟩:=y0a hx;obtain⟨us,hu,hu8⟩:=h.way x hx1;rw[hx2] at hu;have e:=hm.same hu;have hb:i4a V.l x.n n=true:=by unfold i4a;rw[hx2];exact hd.bel (λy hy=>(h.num y hy).1) 10 hq (λvs hv=>by rw[hv.same hu];omega) ⟨_,hm⟩
 have hl:=(V6a (λx=>i4a V.l x.n n) (λx=>(D1a V.l x.n).length-(D1a V.l n).length) V.l 0).2 x hx1 hb;rw[hx2,hu.names hu8,<-e,hw.names h8,List.length_append] at hl;unfold t4a b5a;rw[List.take_length,hw.names h8];omega
theorem Way.away(h:Vok V)(ha:vAt V.l n=some y)(he:∀x∈V.l,x.n≠1->x.par≠n)(hw:Way V.l m ps)(hm:m≠n):Way (z1a V.l n) m ps:=by
 induction hw with
 | root=>exact Way.root
 | @step x ps a b c ih=>exact Way.step ((c1b h.rise).at ((h3a h.rise ha).2 ⟨(y0a a).1,hm⟩)) b (ih (he x (y0a a).1 b))
structure T9b (V:X0a) (n:Int) (tp:o0a) (rs:List o0a):Prop where
 there:∃x,vAt V.l n=some x
 one:n≠1
 perr:h0a tp=0
 ne:tp≠[]
 way:Way V.l (P0a V.l tp) rs
 alike:rs.map B0a=(m0a (n2a tp)).map B0a
 dir:z0a V.l (P0a V.l tp)=1
 last:Q0a V.l tp=lastOf tp
 off:¬∃qs,Down V.l n (P0a V.l tp) qs
 deep:∀m qs,Down V.l n m qs->rs.length+1+qs.length<=8
theorem Vok.moveOk(h:Vok V)(ht:z3a V.l n tp=0):∃rs,T9b V n tp rs:=by
 obtain⟨e1,e2,e3,e4,e5,e6⟩:=m7b ht;obtain⟨⟨x,hx⟩,h1⟩:=U5a e1;obtain⟨rs,w1,w2,w3,w4⟩:=h.par e2 e3 e5;obtain⟨hx1,hx2⟩:=y0a hx;obtain⟨ws,hw,h8⟩:=h.way x hx1;rw[hx2] at hw;obtain⟨p1,p2,p3,p4⟩:=V5a h hw h8;obtain⟨d1,d2,d3,d4⟩:=u2a e2 e3;have hlen:(m0a tp).length=rs.length+1:=by have:=congrArg List.length w2;rw[List.length_map,List.length_map,d2] at this;rw[d4,List.length_append,<-this];rfl
 refine⟨rs,⟨x,hx⟩,h1,e2,e3,w1,w2,w3,w4,?_,λm qs hd=>?_⟩
 ·rintro⟨qs,hq⟩;have hrs:=w1.same (hw.down hq);have hu:g3a tp (i1a V.l n)=true:=by
   rw[p1];refine Q4a.2 ⟨e2,p3,?_,?_⟩
   ·rw[p4,hlen,hrs,List.length_append];omega
   ·rw[p4,d4,<-d2];have hl:ws.length<=(m0a (n2a tp)).length:=by have:=congrArg List.length w2;rw[List.length_map,List.length_map,hrs,List.length_append] at this;omega
    rw[List.take_append_of_le_length hl,List.map_take,<-w2,hrs,List.map_append,List.take_left' (by rw[List.length_map])]
  rw[hu] at e4;cases e4
 ·have:=h.deep hw h8 hd;omega
theorem Vok.move(h:Vok V)(n:Int)(tp:o0a)(over:Bool):Vok (h2a V n tp over):=by
 unfold h2a;by_cases he:x1a V.l n tp over=0
 ·rw[if_pos he];obtain⟨ht,hcase⟩:=R8a he;obtain⟨rs,mo⟩:=h.moveOk ht;obtain⟨d1,d2,d3,d4⟩:=u2a mo.perr mo.ne;obtain⟨x,hx⟩:=mo.there;obtain⟨d,hd⟩:∃d,d=P0a V.l tp:=⟨_,rfl⟩;have hsn:nameOf (Q0a V.l tp)=true:=by rw[mo.last];exact d3
  obtain⟨s,hs⟩:∃s,s=Q0a V.l tp:=⟨_,rfl⟩;obtain⟨i,hi⟩:∃i,i=l1a V.l n tp:=⟨_,rfl⟩;have hisd:i=if x0a V.l d s=n then 0 else x0a V.l d s:=by rw[hi,hd,hs];rfl
  unfold u4a;have m5:=mo.way;have m7:=mo.dir;have m9:=mo.off;rw[<-hd] at m5 m7 m9⊢;rw[<-hs] at hsn⊢;rw[<-hi] at hcase⊢;by_cases h0:i=0
  ·rw[if_neg (λq=>q h0)];refine h.set hx mo.one m7 hsn m5 m9 mo.deep λy hy hp ha=>?_
   have hc:x0a V.l d s=y.n:=by rw[<-hp];exact h.child hy ha
   rw[hc] at hisd;by_cases e:y.n=n
   ·exact e
   ·rw[if_neg e,h0] at hisd;have:=(h.num y hy).1;omega
  ·rw[if_pos h0];have hcn:x0a V.l d s≠n:=λe=>by rw[if_pos e] at hisd;exact h0 hisd
   rw[if_neg hcn] at hisd;have hc0:x0a V.l d s≠0:=by rw[<-hisd];exact h0
   obtain⟨z,hz,z1,z2,z3⟩:=J1a hc0;have hzi:z.n=i:=by rw[z3,hisd]
   have hzat:vAt V.l i=some z:=by rw[<-hzi];exact h.at hz
   have hk:z0a V.l i≠1:=by
    rcases hcase with q | q
    ·exact absurd q h0
    ·exact q.1
   have hi1:i≠1:=λe=>hk (by rw[e];unfold z0a;rw[h.at1];rfl)
   have hch:∀x∈V.l,x.n≠1->x.par≠i:=λu hu hu1 e=>hk (by rw[<-e];exact h.up u hu hu1)
   have hA:=h.away hzat hi1 hch;have hin:i≠n:=by rw[hisd];exact hcn
   have hmem:∀u,u∈z1a V.l i↔u∈V.l/\u.n≠i:=λu=>h3a h.rise hzat
   have hsub:=h.rise.sub hA.rise λu hu=>((hmem u).1 hu).1
   obtain⟨hx1,hx2⟩:=y0a hx;have hx':vAt (z1a V.l i) n=some x:=hA.rise.at_iff.2 ⟨(hmem x).2 ⟨hx1,by rw[hx2];exact λe=>hin e.symm⟩,hx2⟩;have hdi:d≠i:=λe=>hk (by rw[<-e];exact m7)
   have hkd:z0a (z1a V.l i) d=1:=by obtain⟨u,hu⟩:=t2a (V:=V) (n:=d) (by rw[m7];decide);obtain⟨u1,u2⟩:=y0a hu;have h4:=n8a (V:=V) hu;rw[<-u2,hA.rise.kind ((hmem u).2 ⟨u1,by rw[u2];exact hdi⟩),<-h4,m7]
   refine hA.set hx' mo.one hkd hsn (Way.away h hzat hch m5 hdi) (fun⟨qs,hq⟩=>m9 ⟨qs,hq.sub hsub⟩) (λm qs hq=>mo.deep m qs (hq.sub hsub)) λy hy hp ha=>?_
   obtain⟨hy1,hy2⟩:=(hmem y).1 hy;have hc:x0a V.l d s=y.n:=by rw[<-hp];exact h.child hy1 ha
   exact absurd (by rw[<-hc,hisd]) hy2
 ·rw[if_neg he];exact h
end
def V7a(Z:Bool)(w:World)(base:Nat)(v:Value)(xs:List Int):Prop:=v1a .u8 5 w base v xs/\(Z=true->E5a .u8 5 w base v xs)
structure n7b (Z:Bool) (w:World) (base:Nat) (v:Value) (ps:List f6a):Prop where
 row:t1a o3a 51 w base v ps
 each:∀p∈ps,V7a Z w base (o3a p) p.2.2.2/\Bytes p.2.2.2/\p.2.2.2.length<=140737488355328
 apart:ps.Pairwise λp q=>∀i,(o3a p).ownBlock=some i->(o3a q).ownBlock≠some i
section
variable {Z:Bool} {w w' w0:World} {base base':Nat} {v v':Value} {xs:List Int} {ps:List f6a}
theorem V7a.of_z(h:E5a .u8 5 w base v xs)(Z:Bool):V7a Z w base v xs:=⟨h.own,λ_=>h⟩
theorem V7a.keep(h:V7a Z w base v xs)(hk:∀i cs,v.ownBlock=some i->w.heap[i]? = some (.cells cs 5 (0,0))->w'.heap[i]? = w.heap[i]?):V7a Z w' base v xs:=⟨h.1.keep hk,λz=>(h.2 z).keep hk⟩
theorem V7a.below(h:V7a Z w base v xs)(hb:Below w.heap.size w w'):V7a Z w' base v xs:=h.keep λi _ _ hi=>hb.block i (Array.getElem?_eq_some_iff.1 hi).1
theorem V7a.mono(h:V7a Z w base v xs)(hb:base'<=base):V7a Z w base' v xs:=⟨h.1.mono hb,λz=>(h.2 z).mono hb⟩
theorem V7a.holds{p:f6a}(h:V7a Z w base (o3a p) p.2.2.2)(hx:Bytes p.2.2.2)(hn:p.2.2.2.length<=140737488355328):Holds w w.heap.size p.1 p.2.1 p.2.2.1 p.2.2.2:=by
 obtain⟨A1,c1,e,hh⟩:=Own.holds (show Own w base (o3a p) p.2.2.2 from h.1) hx (by omega);unfold o3a at e;injection e with e1 e2 e3
 rw[e1,e2,e3];exact hh
theorem n7b.nil(Z:Bool)(w:World)(base:Nat):n7b Z w base (.slice none 0 0) []:=⟨t1a.nil _ _ _ _,(λp h=>by cases h),List.Pairwise.nil⟩
theorem n7b.below(h:n7b Z w base v ps)(hb:Below w.heap.size w w'):n7b Z w' base v ps:=⟨h.row.below hb,λp hp=>⟨(h.each p hp).1.below hb,(h.each p hp).2⟩,h.apart⟩
theorem n7b.mono(h:n7b Z w base v ps)(hb:base'<=base):n7b Z w base' v ps:=⟨h.row.mono hb,λp hp=>⟨(h.each p hp).1.mono hb,(h.each p hp).2⟩,h.apart⟩
theorem n7b.lst(h:n7b Z w base v ps):∃A n c,v=.slice A n c/\Lst w w.heap.size A n c ps:=by obtain⟨A,n,c,rfl,hh⟩:=h.row.holds;exact⟨A,n,c,rfl,hh,λp hp=>(h.each p hp).1.holds (h.each p hp).2.1 (h.each p hp).2.2⟩
end
section
variable {ops:Array Oper} {rest:List Oper} {o:Oper} {a:Act} {w w0:World} {Q:Exit->Act->World->Prop}
end
set_option maxRecDepth 100000
structure Hd where
 ch:Int
 st:Int
 cm:Int
 cr:Int
 fl:Int
 nx:Int
 id:Int
 asy:Int
 tr:Int
 se:Int
 sg:List Int
def Hd.tup(h:Hd):List Int:=h.ch::h.st::h.cm::h.cr::h.fl::h.nx::h.id::h.asy::h.tr::h.se::h.sg
theorem Hd.tup_inj{a b:Hd}:a.tup=b.tup↔a=b:=by cases a;cases b;simp[Hd.tup]
instance:DecidableEq Hd:=λ_ _=>decidable_of_iff _ Hd.tup_inj
structure Hd.ok (h:Hd):Prop where
 ch:0<=h.ch/\h.ch<=65535
 st:0<=h.st/\h.st<=4294967295
 cm:0<=h.cm/\h.cm<=65535
 cr:0<=h.cr/\h.cr<=65535
 fl:0<=h.fl/\h.fl<=4294967295
 nx:0<=h.nx/\h.nx<=4294967295
 id:0<=h.id/\h.id<=18446744073709551615
 asy:0<=h.asy/\h.asy<=18446744073709551615
 tr:0<=h.tr/\h.tr<=4294967295
 se:0<=h.se/\h.se<=18446744073709551615
 len:h.sg.length=16
 byte:Bytes h.sg
def R4c:Hd:=⟨0,0,0,0,0,0,0,0,0,0,List.replicate 16 0⟩
def n5c(f:Int):Bool:=decide (f/2%2=1)
def aot(h:Hd):Int:=if n5c h.fl=true then h.asy else h.tr*4294967296
def szs:List Nat:=[4,2,2,4,2,2,4,4,8,8,8]
def s5c:List Nat:=[0,4,6,8,12,14,16,20,24,32,40,48]
def t5c(h:Hd):List Int:=[1112364030,64,h.ch,h.st,h.cm,h.cr,h.fl,h.nx,h.id,aot h,h.se]
def pre(h:Hd):Nat->List Int
 | 0=>[]
 | k+1=>pre h k++le ((t5c h).getD k 0) (szs.getD k 0)
def e5c(xs:List Int)(a s:Nat):Int:=num ((xs.drop a).take s)
def u5c(k:Nat)(n:Int)(h:Hd):Hd:=
 if k=2 then { h with ch:=n } else if k=3 then { h with st:=n } else if k=4 then { h with cm:=n } else if k=5 then { h with cr:=n } else if k=6 then { h with fl:=n } else if k=7 then { h with nx:=n }
 else if k=8 then { h with id:=n } else if k=9 then (if n5c h.fl=true then { h with asy:=n } else { h with tr:=n/4294967296 }) else if k=10 then { h with se:=n } else h
def tk(xs:List Int):Nat->Hd
 | 0=>R4c
 | k+1=>u5c k (e5c xs (s5c.getD k 0) (szs.getD k 0)) (tk xs k)
def Blk(w:World)(g:Nat)(T:TypeId)(cs:List Value):Prop:=w.heap[g]? = some (.cells cs.toArray T (0,0))
def C6a(h:Hd):List Value:=.int .u16 h.ch::.int .u32 h.st::.int .u16 h.cm::.int .u16 h.cr::.int .u32 h.fl::.int .u32 h.nx::.int .u64 h.id::.int .u64 h.asy::.int .u32 h.tr::.int .u64 h.se::h.sg.map (Value.int .u8)
def hv(h:Hd):Value:=.agg (C6a h).toArray
structure D5b (g:Nat) (w w':World):Prop where
 os:w'.os=w.os
 tape:w'.tape=w.tape
 output:w'.output=w.output
 size:w.heap.size<=w'.heap.size
 rest:∀j,j<w.heap.size->j≠g->w'.heap[j]? = w.heap[j]?
section
variable {w w' w2:World} {g g' B:Nat} {T T':TypeId} {cs cs':List Value} {h h':Hd} {k:IntKind} {xs:List Int}
theorem D5b.refl(g:Nat)(w:World):D5b g w w:=⟨rfl,rfl,rfl,Nat.le_refl _,λ_ _ _=>rfl⟩
theorem D5b.trans(a:D5b g w w')(b:D5b g w' w2):D5b g w w2:=⟨b.os.trans a.os,b.tape.trans a.tape,b.output.trans a.output,Nat.le_trans a.size b.size,λj hj hg=>(b.rest j (Nat.lt_of_lt_of_le hj a.size) hg).trans (a.rest j hj hg)⟩
theorem D5b.of_below(hb:Below w.heap.size w w')(g:Nat):D5b g w w':=⟨hb.os,hb.tape,hb.output,hb.size,λj hj _=>hb.block j hj⟩
theorem D5b.of_only(hO:S1a g w w'):D5b g w w':=⟨hO.os,hO.tape,hO.output,Nat.le_of_eq hO.size.symm,λj _ hg=>hO.rest j hg⟩
theorem D5b.below(a:D5b g w w')(hg:B<=g)(hB:B<=w.heap.size):Below B w w':=⟨a.os,a.tape,a.output,a.size,λj hj=>a.rest j (by omega) (by omega)⟩
theorem r3a(w:World)(g i:Nat)(v:Value):S1a g w (w.setCell ⟨g,i,none⟩ v):=(S1a.refl g w).setCell i v
theorem r0a(hb:Below B w w')(hO:S1a g w' w2)(hg:B<=g):Below B w w2:=hb.trans (hO.below hg)
theorem Blk.lt(a:Blk w g T cs):g<w.heap.size:=(Array.getElem?_eq_some_iff.1 a).1
theorem Blk.cell(a:Blk w g T cs)(i:Nat):w.cell? ⟨g,i,none⟩=cs[i]?:=by rw[cell_of_row w g i _ T (0,0) a];simp
theorem Blk.frozen(a:Blk w g T cs)(i:Nat):w.frozen? ⟨g,i,none⟩=false:=frozen_of_row w g i _ T a
theorem Blk.below(a:Blk w g T cs)(hb:Below B w w')(hg:g<B):Blk w' g T cs:=(hb.block g hg).trans a
theorem Blk.over(a:Blk w g T cs)(hb:Below w.heap.size w w'):Blk w' g T cs:=a.below hb a.lt
theorem Blk.only(a:Blk w g T cs)(hO:S1a g' w w')(hg:g≠g'):Blk w' g T cs:=(hO.rest g hg).trans a
theorem Blk.drew(a:Blk w g T cs):Blk w.drew g T cs:=a
theorem Blk.drewN(a:Blk w g T cs)(n:Nat):Blk (w.drewN n) g T cs:=a
theorem Blk.alloc(a:Blk w g T cs)(o:Obj):Blk (w.alloc o) g T cs:=(Below.heap_alloc _ _ _ a.lt).trans a
theorem Blk.new(w:World)(T:TypeId)(cs:List Value):Blk (w.alloc (.cells cs.toArray T)) w.heap.size T cs:=heap_alloc_new w _
theorem Blk.set(a:Blk w g T cs)(i:Nat)(v:Value):Blk (w.setCell ⟨g,i,none⟩ v) g T (cs.set i v):=by have h1:=heap_setCell_same w g i _ T v a;unfold Blk;rw[h1];simp
theorem Blk.range(a:Blk w g T cs)(o:Nat):w.rangeAt g o (cs.drop o):=λj v hj=>by rw[a.cell,<-hj,List.getElem?_drop]
theorem Row.only(a:Row w g xs)(hO:S1a g' w w')(hg:g≠g'):Row w' g xs:=(hO.rest g hg).trans a
theorem Row.over(a:Row w g xs)(hb:Below w.heap.size w w'):Row w' g xs:=a.below hb a.lt
theorem Holds.only{A:Option Addr}{n c:Nat}(a:Holds w B A n c xs)(hO:S1a g' w w')(hg:B<=g'):Holds w' B A n c xs:=a.below (hO.below hg)
end
section
variable {P:Program} {ops:Array Oper} {rest:List Oper} {o:Oper} {a:Act} {w:World} {Q:Exit->Act->World->Prop}
theorem v0a(hg:o.guard=none)(T:TypeId)(x:Operand)(ho:o.op=.box T x)(cs:List Value)(hx:a.eval x=.agg cs.toArray)
(h:∀g w',w.heap.size<=g->g<w'.heap.size->Hid (Blk w' g T cs)->Hid (Below w.heap.size w w')->wpList P ops Q rest (a.put o.dst (.pointer (some ⟨g,0,none⟩))) w'):wpList P ops Q (o::rest) a w:=by
 refine wpList_plain hg λK hK=>?_
 unfold Oper.wp execOp;simp only[ho,hx,Sem.run_bind,Instr.box,newVar,newRow,run_newObj_alloc,Sem.run_pure,Result.andThen_ok];refine hK _ _ (h _ _ (Nat.le_refl _) (by simp) ?_ ((Below.refl _ _).alloc (Nat.le_refl _) _));exact Blk.new w T cs
theorem w0a(hg:o.guard=none)(T:TypeId)(x:Operand)(ho:o.op=.box T x)(v:Value)(hx:a.eval x=v)(hv:v.cells=#[v])
(h:∀g w',w.heap.size<=g->g<w'.heap.size->Hid (Blk w' g T [v])->Hid (Below w.heap.size w w')->wpList P ops Q rest (a.put o.dst (.pointer (some ⟨g,0,none⟩))) w'):wpList P ops Q (o::rest) a w:=by
 refine wpList_plain hg λK hK=>?_
 unfold Oper.wp execOp;simp only[ho,hx,hv,Sem.run_bind,Instr.box,newVar,newRow,run_newObj_alloc,Sem.run_pure,Result.andThen_ok];refine hK _ _ (h _ _ (Nat.le_refl _) (by simp) ?_ ((Below.refl _ _).alloc (Nat.le_refl _) _));exact Blk.new w T [v]
theorem i0a(hg:o.guard=none)(T:TypeId)(ho:o.op=.alloc T)(zs:List Value)(n:Nat)(hi:Hid ((P.info? T).map (λi=>(i.zero,i.size))=some (some (.agg zs.toArray),n)))
(h:∀g w',w.heap.size<=g->g<w'.heap.size->Hid (Blk w' g T zs)->Hid (Below w.heap.size w w')->wpList P ops Q rest (a.put o.dst (.pointer (some ⟨g,0,none⟩))) w'):wpList P ops Q (o::rest) a w:=by
 refine wpList_plain hg λK hK=>?_
 unfold Oper.wp execOp;have hz:=(zero_of_info hi.out).1;simp only[ho,Sem.run_bind,Instr.alloc,hz,newVar,newRow,run_newObj_alloc,Sem.run_pure,Result.andThen_ok];refine hK _ _ (h _ _ (Nat.le_refl _) (by simp) ?_ ((Below.refl _ _).alloc (Nat.le_refl _) _));exact Blk.new w T zs
theorem s3a(hg:o.guard=none)(T:TypeId)(x:Operand)(ho:o.op=.load T x)(g:Nat)(hx:a.eval x=.pointer (some ⟨g,0,none⟩))(T':TypeId)(cs:List Value)(hA:Hid (Blk w g T' cs))(n:Nat)(d:TypeDesc)
(hu:P.underlying T=some d)(hd:(match d with | .struct _ | .array _ _=>true | _=>false)=true)(hi:(P.info? T).map (·.size)=some n)(hn:Hid (cs.length=n))
(h:wpList P ops Q rest (a.put o.dst (.agg cs.toArray)) w):wpList P ops Q (o::rest) a w:=wpList_load_row hg T x ho g hx T' _ (0,0) d hA.out hu hd (by rw[hi];have:=hn.out;simp[this]) h
theorem l0a(hg:o.guard=none)(T:TypeId)(x y:Operand)(ho:o.op=.store T x y)(g:Nat)(hx:a.eval x=.pointer (some ⟨g,0,none⟩))(T':TypeId)(cs ds:List Value)(hy:a.eval y=.agg ds.toArray)
(hA:Hid (Blk w g T' cs))(n:Nat)(hi:(P.info? T).map (·.size)=some n)(hn:Hid (cs.length=n))(hm:Hid (ds.length=n))(h1:Hid (∀v∈ds,v.oneCell'=true))
(h:∀w',Hid (Blk w' g T' ds)->Hid (S1a g w w')->g<w'.heap.size->wpList P ops Q rest a w')(hd:o.dst=none:=by rfl):wpList P ops Q (o::rest) a w:=by
 refine wpList_store_row hg T x y ho g _ hx hy T' _ hA.out (by rw[hi];have:=hm.out;simp[this]) (by have:=hm.out;have:=hn.out;simp_all) (all_oneCell_toArray h1.out) ?_;have hp:a.put o.dst undef=a:=by rw[hd];rfl
 rw[hp];refine h _ ?_ ((S1a.refl g w).setRow _) (by rw[size_setRow];exact hA.out.lt);exact setRow_heap w g _ _ T' (0,0) hA.out
theorem J3a(w:World)(g i:Nat)(T' ty:TypeId)(cs:List Value)(u:Value)(hB:Blk w g T' cs)(hi:i<cs.length)(hs:(P.info? ty).map (·.size)=some 1)(h1:u.oneCell'=true) :
  (storeVar ty ⟨g,i,none⟩ u).run P w=.ok () (w.setCell ⟨g,i,none⟩ u):=by
 have hc:u.cells=#[u]:=by cases u<;>first | rfl | (simp[Value.oneCell'] at h1)
 have:=run_storeCells_cells (P:=P) g i [u] 0 w (λj hj=>by
   obtain rfl:j=0:=by simpa using hj
   show(w.cell? ⟨g,i,none⟩).isSome=true
   rw[hB.cell];simp[hi]) (λj _=>hB.frozen _) (λx hx=>by obtain rfl:=List.mem_singleton.1 hx;exact h1)
 cases hq:P.info? ty with
 | none=>simp[hq] at hs
 | some q=>
  have hz:q.size=1:=by simpa[hq] using hs
  simp[storeVar,sizeOf,typeInfo,hq,hc,hz];simpa[World.setCells] using this
theorem q0a(hg:o.guard=none)(T:TypeId)(x y:Operand)(ho:o.op=.store T x y)(g i:Nat)(hx:a.eval x=.pointer (some ⟨g,i,none⟩))(T':TypeId)(cs:List Value)(u:Value)(hy:a.eval y=u)
(hA:Hid (Blk w g T' cs))(hi:Hid (i<cs.length))(hs:(P.info? T).map (·.size)=some 1)(h1:u.oneCell'=true)
(h:∀w',Hid (Blk w' g T' (cs.set i u))->Hid (S1a g w w')->g<w'.heap.size->wpList P ops Q rest a w')(hd:o.dst=none:=by rfl):wpList P ops Q (o::rest) a w:=by
 have hp:a.put o.dst undef=a:=by rw[hd];rfl
 refine wpList_plain hg λK hK=>?_
 unfold Oper.wp execOp;simp only[ho,hx,hy,Instr.storeAt,Instr.sureAddr,Sem.run_bind,Sem.run_pure,Result.andThen_ok,J3a w g i T' T cs u hA.out hi.out hs h1];show K (a.put o.dst undef) _
 rw[hp];refine hK _ _ (h _ ?_ (r3a w g i u) ?_)
 ·exact hA.out.set i u
 ·have:=(r3a w g i u).size;rw[this];exact hA.out.lt
theorem b2a{K:Act->World->Prop}{E:Prop}(hg:o.guard=none)(t e:TypeId)(len:Nat)(parts:Array (Nat×Operand))(ho:o.op=.buildSlice t len parts)(hu:P.underlying t=some (.slice e))(cs:List Value)
(hf:P.builtSlice e len (parts.map fun (i,x)=>(i,a.eval x)).toList=some cs.toArray)
(h:∀g w',w.heap.size<=g->g<w'.heap.size->Hid (Blk w' g e cs)->Hid (Below w.heap.size w w')->K (a.put o.dst (.slice (some ⟨g,0,none⟩) len len)) w') :
  if Region.wanted o (yielded ops a.tmps)=true then Oper.wp P o a w K Q else E:=by
 have hw:Region.wanted o (yielded ops a.tmps)=true:=by simp[Region.wanted,hg]
 rw[if_pos hw];unfold Program.builtSlice at hf;cases hie:P.info? e with
 | none=>simp[hie] at hf
 | some ie=>
  simp only[hie] at hf;cases hz:ie.zero with
  | none=>simp[hz] at hf
  | some z=>
   simp only[hz] at hf;by_cases hc:len*ie.size>2^24∨len*ie.size=0
   ·simp[hc] at hf
   ·rw[if_neg hc] at hf;exact wp_buildSlice t e len parts ho _ ie z hu hie hz (λh'=>hc (Or.inl h')) (λh'=>hc (Or.inr h')) hf (h _ _ (Nat.le_refl _) (by simp) (Blk.new w e cs) ((Below.refl _ _).alloc (Nat.le_refl _) _))
theorem A0a(hg:o.guard=none)(T:TypeId)(parts:Array (Nat×Operand))(ho:o.op=.build T parts)(cs:List Value)(hf:P.built T (parts.map fun (i,x)=>(i,a.eval x)).toList=some cs.toArray)
(h:wpList P ops Q rest (a.put o.dst (.agg cs.toArray)) w):wpList P ops Q (o::rest) a w:=wpList_buildTo hg T parts ho _ rfl _ hf h
theorem J2a(hg:o.guard=none)(T:TypeId)(ho:o.op=.build T #[])(cs:List Value)(hf:P.built T []=some cs.toArray)
(h:wpList P ops Q rest (a.put o.dst (.agg cs.toArray)) w):wpList P ops Q (o::rest) a w:=by refine wpList_buildTo hg T #[] ho _ rfl cs.toArray ?_ h;rw[<-hf];simp
end
def spliced(cur:List Value)(off:Nat)(xs:List Int):List Value:=cur.take off++(xs.map (Value.int .u8)++cur.drop (off+xs.length))
theorem a4a{w:World}{ops:Array Oper}{rest:List Oper}{o:Oper}{a:Act}{Q:Exit->Act->World->Prop}(hgd:o.guard=none)(d s:Operand)
(ho:o.op=.call { callee:=.builtin .copy,args:=#[d,s],argTypes:=#[51,51] })
(g off:Nat)(T:TypeId)(dLen dCap n c:Nat)(A:Option Addr)(hd:a.eval d=.slice (some ⟨g,off,none⟩) dLen dCap)(hs:a.eval s=.slice A n c)
(cur:List Value)(xs:List Int)(B:Nat)(hrow:Hid (Blk w g T cur))(hx:Holds w B A n c xs)(h0:0<n)(hn:n<=dLen)(hfit:Hid (off+n<=cur.length))
(h:∀w',Hid (Blk w' g T (spliced cur off xs))->Hid (S1a g w w')->wpList Tryz.prog ops Q rest (a.put o.dst (goInt n)) w') :
  wpList Tryz.prog ops Q (o::rest) a w:=by
 have hl:=hx.len;obtain⟨i0,hi,hz0,hz1,hz2⟩:=info_parts U4a;obtain⟨b,so,rfl,_,hc⟩:=hx.cells h0;refine wpList_copy_own hgd d s 51 51 ho 5 Tryz.underlying51 (by rw[hi];simp[hz1]) g off dLen dCap _ n c hd hs cur.toArray T hrow.out (xs.map (Value.int .u8)) (by rw[List.length_map,hl];exact(Nat.min_eq_left hn).symm) ?_ (by have:=hfit.out;simp;omega)
  (by intro v hv;obtain⟨x,_,rfl⟩:=List.mem_map.1 hv;rfl) ?_
 ·intro j v hj;have hjl:j<xs.length:=by
   by_cases hj':j<xs.length
   ·exact hj'
   ·rw[List.getElem?_eq_none (by simp;omega)] at hj;cases hj
  rw[Addr.add_mid,hc j (by omega),<-hj];simp[hjl]
 ·have e:=h (w.setRow g (spliced cur off xs).toArray) (setRow_heap w g _ _ T (0,0) hrow.out) ((S1a.refl g w).setRow _);have e2:goInt (xs.map (Value.int .u8)).length=goInt n:=by rw[List.length_map,hl]
  rw[e2];simpa[spliced] using e
theorem q6a(cur xs:List Int)(off:Nat):spliced (cur.map (Value.int .u8)) off xs=(cur.take off++xs++cur.drop (off+xs.length)).map (Value.int .u8):=by simp[spliced]
structure g0a (S:Nat->Prop) (w w':World):Prop where
 os:w'.os=w.os
 tape:w'.tape=w.tape
 output:w'.output=w.output
 size:w.heap.size<=w'.heap.size
 rest:∀j,j<w.heap.size->¬S j->w'.heap[j]? = w.heap[j]?
def Z0a(w:World)(v v':Value):Prop:=∀i,v'.ownBlock=some i->v.ownBlock=some i∨w.heap.size<=i
def J4c(ps:List f6a)(v:Value):Prop:=∀p∈ps,∀i,(o3a p).ownBlock=some i->v.ownBlock≠some i
section
variable {S S':Nat->Prop} {w w' w2:World} {B base g:Nat} {T T':TypeId} {cs:List Value} {v v' u:Value} {xs:List Int} {ps qs:List f6a} {k:IntKind} {e:TypeId} {Z:Bool} {A:Option Addr} {n c:Nat}
theorem g0a.refl(S:Nat->Prop)(w:World):g0a S w w:=⟨rfl,rfl,rfl,Nat.le_refl _,λ_ _ _=>rfl⟩
theorem g0a.trans(a:g0a S w w')(b:g0a S' w' w2)(h:∀j,j<w.heap.size->S' j->S j):g0a S w w2:=⟨b.os.trans a.os,b.tape.trans a.tape,b.output.trans a.output,Nat.le_trans a.size b.size,λj hj hs=>(b.rest j (Nat.lt_of_lt_of_le hj a.size) λh'=>hs (h j hj h')).trans (a.rest j hj hs)⟩
theorem g0a.mono(a:g0a S w w')(h:∀j,j<w.heap.size->S j->S' j):g0a S' w w':=⟨a.os,a.tape,a.output,a.size,λj hj hs=>a.rest j hj λh'=>hs (h j hj h')⟩
theorem g0a.of_below(hb:Below B w w'):g0a (λj=>B<=j) w w':=⟨hb.os,hb.tape,hb.output,hb.size,λj _ hs=>hb.block j (by omega)⟩
theorem g0a.of_over(S:Nat->Prop)(hb:Below w.heap.size w w'):g0a S w w':=⟨hb.os,hb.tape,hb.output,hb.size,λj hj _=>hb.block j hj⟩
theorem g0a.of_only(hO:S1a g w w'):g0a (λj=>j=g) w w':=⟨hO.os,hO.tape,hO.output,Nat.le_of_eq hO.size.symm,λj _ hg=>hO.rest j hg⟩
theorem g0a.of_grown(hg:w.grownBy w' v.ownBlock):g0a (λj=>v.ownBlock=some j) w w':=⟨hg.os,hg.tape,hg.output,hg.size,λj hj hs=>hg.block j hj λh=>hs h.symm⟩
theorem g0a.below(a:g0a S w w')(hS:∀j,S j->B<=j)(hB:B<=w.heap.size):Below B w w':=⟨a.os,a.tape,a.output,a.size,λj hj=>a.rest j (by omega) λh=>by have:=hS j h;omega⟩
theorem Blk.spare(h:Blk w g T cs)(a:g0a S w w')(hg:¬S g):Blk w' g T cs:=(a.rest g h.lt hg).trans h
theorem Row.spare(h:Row w g xs)(a:g0a S w w')(hg:¬S g):Row w' g xs:=(a.rest g h.lt hg).trans h
theorem v1a.spare(h:v1a k e w base v xs)(a:g0a S w w')(hg:∀i,v.ownBlock=some i->¬S i):v1a k e w' base v xs:=h.keep λi _ hi hcs=>a.rest i (Array.getElem?_eq_some_iff.1 hcs).1 (hg i hi)
theorem E5a.spare(h:E5a k e w base v xs)(a:g0a S w w')(hg:∀i,v.ownBlock=some i->¬S i):E5a k e w' base v xs:=h.keep λi _ hi hcs=>a.rest i (Array.getElem?_eq_some_iff.1 hcs).1 (hg i hi)
theorem V7a.spare(h:V7a Z w base v xs)(a:g0a S w w')(hg:∀i,v.ownBlock=some i->¬S i):V7a Z w' base v xs:=h.keep λi _ hi hcs=>a.rest i (Array.getElem?_eq_some_iff.1 hcs).1 (hg i hi)
theorem n7b.spare(h:n7b Z w base v ps)(a:g0a S w w')(hv:∀i,v.ownBlock=some i->¬S i)(hp:∀p∈ps,∀i,(o3a p).ownBlock=some i->¬S i):n7b Z w' base v ps:=⟨h.row.keep λi _ hi hcs=>a.rest i (Array.getElem?_eq_some_iff.1 hcs).1 (hv i hi),λp hq=>⟨(h.each p hq).1.spare a (hp p hq),(h.each p hq).2⟩,h.apart⟩
theorem Z0a.refl(w:World)(v:Value):Z0a w v v:=λi hi=>.inl hi
theorem Z0a.none(w:World)(v:Value):Z0a w v (.slice none 0 0):=λi hi=>by cases hi
theorem J4c.nil(v:Value):J4c [] v:=λp hp=>by cases hp
theorem J4c.step(h:J4c ps v)(hw:Z0a w v v')(ho:n7b Z w base u ps)(hq:J4c qs v'):J4c (ps++qs) v':=λp hp i hi hv=>by
 rcases List.mem_append.1 hp with hp | hp
 ·rcases hw i hv with h1 | h1
  ·exact h p hp i hi h1
  ·obtain⟨_,cs',hcs⟩:=(ho.each p hp).1.1.block hi;have:=(Array.getElem?_eq_some_iff.1 hcs).1;omega
 ·exact hq p hp i hi hv
end
section
variable {w:World} {ops:Array Oper} {rest:List Oper} {o:Oper} {a:Act} {Q:Exit->Act->World->Prop}
end
section
variable {α:Type} {f:α->Value} {S:Nat->Prop} {w w':World} {base base' g:Nat} {e e' T:TypeId} {cs:List Value} {v v' u:Value} {xs:List α} {β:Type} {h':β->Value} {ys:List β}
theorem t1a.sparS(h:t1a f e w base v xs)(a:g0a S w w')(hg:∀i,v.ownBlock=some i->¬S i):t1a f e w' base v xs:=h.keep λi _ hi hcs=>a.rest i (Array.getElem?_eq_some_iff.1 hcs).1 (hg i hi)
theorem Z0a.of_whither(h:p3a w v v'):Z0a w v v':=λi hi=>by
 rcases h with h1 | ⟨g,h1,h2⟩
 ·exact .inl (h1▸hi)
 ·rw[h1] at hi;injection hi with hi
  subst hi;exact .inr h2
theorem Z0a.trans{v2:Value}(h:Z0a w v v')(k:Z0a w' v' v2)(hs:w.heap.size<=w'.heap.size):Z0a w v v2:=λi hi=>by
 rcases k i hi with h1 | h1
 ·exact h i h1
 ·exact .inr (by omega)
theorem Z0a.cut{A:Option Addr}{n c m:Nat}(w:World):Z0a w (.slice A n c) (.slice A m c):=λi hi=>.inl (by cases A with | none=>cases hi | some a=>exact hi)
end
section
variable {α:Type} {f:α->Value} {P:Program} {w:World} {ops:Array Oper} {rest:List Oper} {o:Oper} {a:Act} {Q:Exit->Act->World->Prop}
end
structure D6a (w:World) (base g:Nat) (vB vZ:Value) (B:List Int) (Z:List Bool):Prop where
 ge:base<=g
 blk:Blk w g 104 [vB,vZ]
 rowB:t1a (Value.int .u8) 5 w base vB B
 rowZ:t1a Value.bool 4 w base vZ Z
 len:B.length=Z.length
 small:B.length<=65536
 byte:Bytes B
def rdS(g:Nat)(vB vZ:Value):Nat->Prop:=λj=>j=g∨vB.ownBlock=some j∨vZ.ownBlock=some j
section
variable {w w':World} {base base' g:Nat} {vB vZ:Value} {B:List Int} {Z:List Bool} {S:Nat->Prop}
theorem D6a.spare(h:D6a w base g vB vZ B Z)(a:g0a S w w')(hs:∀j,rdS g vB vZ j->¬S j):D6a w' base g vB vZ B Z:=⟨h.ge,h.blk.spare a (hs g (.inl rfl)),h.rowB.sparS a λi hi=>hs i (.inr (.inl hi)),h.rowZ.sparS a λi hi=>hs i (.inr (.inr hi)),h.len,h.small,h.byte⟩
theorem D6a.below(h:D6a w base g vB vZ B Z)(hb:Below w.heap.size w w'):D6a w' base g vB vZ B Z:=⟨h.ge,h.blk.over hb,h.rowB.below hb,h.rowZ.below hb,h.len,h.small,h.byte⟩
theorem D6a.set_ge(h:D6a w base g vB vZ B Z):∀j,rdS g vB vZ j->base<=j:=λj hj=>by
 rcases hj with rfl | hj | hj
 ·exact h.ge
 ·exact(h.rowB.block hj).1
 ·exact(h.rowZ.block hj).1
theorem D6a.set_lt(h:D6a w base g vB vZ B Z):∀j,rdS g vB vZ j->j<w.heap.size:=λj hj=>by
 rcases hj with rfl | hj | hj
 ·exact h.blk.lt
 ·exact h.rowB.lt hj
 ·exact h.rowZ.lt hj
theorem D6a.holds(h:D6a w base g vB vZ B Z):∃A c,vB=.slice A B.length c/\Holds w w.heap.size A B.length c B:=Own.holds (show Own w base vB B from h.rowB) h.byte (by have:=h.small;omega)
end
theorem Holds.amidE{w:World}{B b off n c p N:Nat}{xs:List Int}(h:Holds w B (some ⟨b,off,none⟩) n c xs)(hN:p+N<=n)(h0:0<N)(C:Nat)(hC:N<=C):Holds w B (some ⟨b,off+p,none⟩) N C ((xs.drop p).take N):=by
 have hl:=h.len;have hf:=h.fit;have hr:=h.room;refine⟨by simp;omega,hC,by omega,(h.byte.drop _).take _,(λhA=>by cases hA),λ_=>?_⟩;obtain⟨b1,off1,e,hb,hc⟩:=h.cells (by omega);injection e with e
 injection e with e1 e2
 subst e1 e2;refine⟨b,off+p,rfl,hb,λi hi=>?_⟩;rw[Nat.add_assoc,hc (p+i) (by omega)];simp[List.getD_eq_getElem?_getD,hi]
theorem o7b(ps:List (List UInt8)):Lib.join ps [92]=l2a ps:=by
 induction ps with
 | nil=>rfl
 | cons p ps ih=>
  by_cases h:ps=[]
  ·subst h;exact Lib.join_one p [92]
  ·obtain⟨q,qs,rfl⟩:∃q qs,ps=q::qs:=by
    cases ps with
    | nil=>exact absurd rfl h
    | cons q qs=>exact⟨q,qs,rfl⟩
   rw[join_cons p h,<-ih,Lib.join_cons,Lib.join_cons];simp[Lib.joinTail]
theorem C7a(ps:List (List UInt8))(m:Nat)(h:∀p∈ps,p.length<=m):(l2a ps).length<=ps.length*(m+1):=by
 induction ps with
 | nil=>simp[l2a]
 | cons p ps ih=>
  have h1:=h p List.mem_cons_self;have h2:=ih λq hq=>h q (List.mem_cons_of_mem _ hq)
  by_cases hn:ps=[]
  ·subst hn;show p.length<=_
   simp;omega
  ·rw[join_cons p hn,List.length_append,List.length_cons,List.length_cons,Nat.add_mul];omega
theorem U0a.pre{α:Type}{f:α->Value}{w:World}{B:Nat}{A:Option Addr}{n c m:Nat}{xs:List α}(h:U0a f w B A n c xs)(hm:m<=n):U0a f w B A m c (xs.take m):=
 ⟨by have:=h.len;simp;omega,by have:=h.fit;omega,h.bare,λh0=>by
  obtain⟨b,off,rfl,hb,hc⟩:=h.cells (by omega);refine⟨b,off,rfl,hb,λi x hi=>hc i x ?_⟩;rw[List.getElem?_take] at hi;split at hi
  ·exact hi
  ·cases hi⟩
theorem U9b(w:World)(A:Option Addr)(n c:Nat)(xs:List (List UInt8))(hx:U0a V0a w w.heap.size A n c xs)(hn:xs.length<=1000)(hl:∀p∈xs,p.length<=1000) :
  Calls Tryz.prog 99 #[.slice A n c,.string ⟨#[92]⟩] w λe w'=>e=.returned (.string ⟨(l2a xs).toArray⟩)/\Below w.heap.size w w':=by
 by_cases h0:n=0
 ·subst h0;obtain rfl:xs=[]:=List.eq_nil_of_length_eq_zero hx.len;exact(Tryz.strings_Join_none A c ⟨#[92]⟩ w).mono λe w' ⟨he,hw⟩=>⟨he,hw▸Below.refl _ _⟩
 ·obtain⟨b,off,rfl,hb,hc⟩:=hx.cells (by omega);have hmm:(xs.map λp=>(⟨p.toArray⟩:ByteArray)).map (·.data.toList)=xs:=by rw[List.map_map];exact List.map_id xs
  have e1:(⟨#[92]⟩:ByteArray).data.toList=[92]:=rfl;have:=Tryz.strings_Join b off c (xs.map λp=>⟨p.toArray⟩) ⟨#[92]⟩ w (λj x hj=>by
   rw[List.getElem?_map] at hj;cases hp:xs[j]? with
   | none=>rw[hp] at hj;cases hj
   | some p=>rw[hp] at hj;cases hj;exact hc j p hp) hb (by rw[List.length_map];omega) (by rw[List.length_map,hx.len];exact hx.fit) (by
   rw[hmm,e1,o7b];have h1:=C7a xs 1000 hl;have h2:xs.length*(1000+1)<=1000*1001:=Nat.mul_le_mul hn (Nat.le_refl _);omega)
  rw[hmm,e1,o7b,List.length_map,hx.len] at this;exact this
def K3a(w:World)(xs:List (List UInt8))(e:Ending)(w':World):Prop:=e=.returned (.tuple #[.string ⟨(h4a xs).toArray⟩,.int .i64 (s1a xs)])/\Below w.heap.size w w'
theorem D7a{xs:List (List UInt8)}(h:s1a xs≠0):h4a xs=[]:=if_neg h
theorem p7b(w:World)(A:Option Addr)(n c:Nat)(xs:List (List UInt8))(hx:U0a V0a w w.heap.size A n c xs)(hl:∀p∈xs,p.length<=140737488355328)(hT:k5a w)(hn63:n<=9223372036854775807) :
  Calls Tryz.prog 51 #[.slice A n c] w (K3a w xs):=by
 have c2:=fun (s:ByteArray) (w:World) hs hT=>hI (c7b s w hs hT)
 have c4:=fun (s:ByteArray) (w:World) hs=>hI (o2b s w hs)
 have hq:∀(p:List UInt8) (m:Int),h4a xs=p->s1a xs=m->∀e w',e=.returned (.tuple #[.string ⟨p.toArray⟩,.int .i64 m])/\Below w.heap.size w w'->K3a w xs e w':=λp m hp hm e w' h=>by unfold K3a;rw[hp,hm];exact h
 have HQ:=hI hq;have HX:=hI hx;have hxl:=hx.len;have HXL:=hI hxl;clear hq hx hxl;go_enter Tryz.func51,Tryz.ntmps51;go_wp2;go_loopw [5,8] (λ_ i wr=>∃k:Nat,i=.int .i64 k/\k<=n/\Hid (Below w.heap.size w wr)/\Hid (∀p∈xs.take k,nameOf p=true)) (λ_ i _=>n-(intOf i).toNat)
 case atStart=>exact⟨0,rfl,Nat.zero_le _,Below.refl _ _,λp hp=>by simp at hp⟩
 case round=>
  obtain⟨k,rfl,hk,HBl,HN⟩:=hrel;by_cases hlt:k<n
  ·obtain⟨b,off,rfl,hbk,hc⟩:=(HX.out.below HBl.out).cells (by omega);have hkx:k<xs.length:=by have:=HXL.out;omega
   obtain⟨p,hp⟩:∃p,p=xs[k]:=⟨_,rfl⟩;have gc:=hc k p (by rw[hp];exact List.getElem?_eq_getElem hkx);have hpl:p.length<=140737488355328:=hl p (by rw[hp];exact List.getElem_mem hkx);have htk:xs.take (k+1)=xs.take k++[p]:=by rw[hp];exact List.take_succ_eq_append_getElem hkx
   have hpm:p∈xs:=by rw[hp];exact List.getElem_mem hkx
   unfold V0a at gc;have d2:=c2 ⟨p.toArray⟩ wr (by rw[W1a];exact hpl) (hT.below HBl.out);rw[show(⟨p.toArray⟩:ByteArray).data.toList=p from rfl] at d2;clear hc hp hkx c2 c4;by_cases hnm:nameOf p=true
   ·rw[hnm] at d2;have HN2:Hid (∀p∈xs.take (k+1),nameOf p=true):=λq hq=>by
     rw[htk] at hq;rcases List.mem_append.1 hq with hq | hq
     ·exact HN.out q hq
     ·rw[List.mem_singleton.1 hq];exact hnm
    clear htk hpm hnm HN;go_wp2_with fail;refine d2.out.mono ?_;rintro e w2 ⟨rfl,hb2⟩;have HB2:=hI (HBl.out.trans (hb2.mono HBl.out.size));clear hb2;go_wp2;go_roundw
    case rel=>exact⟨k+1,by go_num,hlt,HB2,HN2⟩
    case measure=>simp[intOf];omega
   ·have hnm':nameOf p=false:=by simpa using hnm
    rw[hnm'] at d2;have h1:=N6a hpm hnm';have HF:=hI (HQ.out _ _ (D7a (by omega)) h1);clear htk hpm hnm hnm' HN h1 HQ;go_wp2_with fail;refine d2.out.mono ?_;rintro e w2 ⟨rfl,hb2⟩;have HB2:=hI (HBl.out.trans (hb2.mono HBl.out.size));clear hb2;go_wp2;go_ret2;exact HF.out _ _ ⟨rfl,HB2.out⟩
  ·obtain rfl:k=n:=by omega
   have hall:∀p∈xs,nameOf p=true:=by
    have:=HN.out
    rwa [List.take_of_length_le (by have:=HXL.out;omega)] at this
   have hE:=O6a hall;rw[HXL.out] at hE;by_cases h8:8<k
   ·rw[if_pos h8] at hE;have HF:=hI (HQ.out _ _ (D7a (by omega)) hE);clear hE hall HQ HN c2 c4;go_wp2;go_ret2;exact HF.out _ _ ⟨rfl,HBl.out⟩
   ·rw[if_neg h8] at hE;have HF:=hI (HQ.out _ _ (if_pos hE) hE);have h1000:∀p∈xs,p.length<=128:=λp hp=>S0a (hall p hp)
    have d3:=U9b wr A k c xs ((HX.out.below HBl.out).mono HBl.out.size) (by have:=HXL.out;omega) (λp hp=>by have:=h1000 p hp;omega);have hjl:=C7a xs 128 h1000;have hjl2:xs.length*(128+1)<=8*129:=Nat.mul_le_mul (by have:=HXL.out;omega) (Nat.le_refl _);have d4:=λw=>c4 ⟨(l2a xs).toArray⟩ w (by rw[W1a];omega)
    obtain⟨J,hJ⟩:∃J:ByteArray,J=⟨(l2a xs).toArray⟩:=⟨_,rfl⟩;rw[<-hJ] at HF d3 d4;have D3:=hI d3;clear hE hall HQ HN c2 c4 d3 hjl hjl2 hJ h1000;go_wp2_with fail;refine D3.out.mono ?_;rintro e w1 ⟨rfl,hb1⟩;go_wp2_with fail;refine(d4 _).out.mono ?_;rintro e w2 ⟨rfl,hb2⟩;have HB2:=hI (HBl.out.trans ((step hb1 hb2).mono HBl.out.size));clear hb1 hb2;go_wp2;go_ret2;exact HF.out _ _ ⟨rfl,HB2.out⟩
def A3a(w:World)(l:List UInt8)(e:Ending)(w':World):Prop:=e=.returned (.tuple #[.string ⟨(n2a l).toArray⟩,.string ⟨(lastOf l).toArray⟩,.int .i64 (F0a l)])/\Below w.heap.size w w'
theorem E7a{l:List UInt8}(h:F0a l≠0):n2a l=[]/\lastOf l=[]:=⟨if_neg h,if_neg h⟩
theorem B2a{l:List UInt8}:∀p∈m0a l,nameOf p=true:=by
 intro p hp;by_cases h:h0a l=0
 ·exact(w1a.1 (P4a h).1).1 p hp
 ·rw[Z4a h] at hp;cases hp
theorem t3a(l:List UInt8):(m0a l).length<=8:=by
 by_cases h:h0a l=0
 ·exact D8a h
 ·rw[Z4a h];simp
theorem B9a(s:ByteArray)(w:World)(hs:s.size<=140737488355328)(hT:k5a w) :
  Calls Tryz.prog 23 #[.string s] w (A3a w s.data.toList):=by
 have c1:=Q6a s w hs hT;unfold e2a at c1;have hq:∀(p q:List UInt8) (m:Int),n2a s.data.toList=p->lastOf s.data.toList=q->F0a s.data.toList=m->∀e w',e=.returned (.tuple #[.string ⟨p.toArray⟩,.string ⟨q.toArray⟩,.int .i64 m])/\Below w.heap.size w w'->A3a w s.data.toList e w':=λp q m hp hq hm e w' h=>by unfold A3a;rw[hp,hq,hm];exact h
 by_cases he:h0a s.data.toList=0
 ·rw[he] at c1;by_cases hn:s.data.toList=[]
  ·have h1:F0a s.data.toList=2:=by unfold F0a;rw[if_neg (by simp[he]),if_pos hn]
   obtain⟨h2,h3⟩:=E7a (l:=s.data.toList) (by omega);have HF:=hI (hq _ _ _ h2 h3 h1);rw[(l4a he).2 hn] at c1;have C1:=hI c1;clear c1 hq he hn h1 h2 h3;go_enter Tryz.func23,Tryz.ntmps23;go_wp2_with fail;refine C1.out.mono ?_;rintro e w1 ⟨v,rfl,ho,hb1⟩;obtain⟨A,k,c,rfl,hk,_,_,_,_⟩:=ho.open;obtain rfl:k=0:=hk.symm;clear ho;go_wp2;go_ret3;exact HF.out _ _ ⟨rfl,hb1⟩
  ·have h1:F0a s.data.toList=0:=a2a.2 ⟨he,hn⟩;have h2:n2a s.data.toList=l2a (m0a s.data.toList).dropLast:=if_pos h1;have h3:lastOf s.data.toList=(m0a s.data.toList).getLast?.getD []:=if_pos h1;have hne:m0a s.data.toList≠[]:=λh=>hn ((l4a he).1 h)
   have hnm:=B2a (l:=s.data.toList);have h8:=t3a s.data.toList;obtain⟨L,hL⟩:∃L,L=m0a s.data.toList:=⟨_,rfl⟩;rw[<-hL] at c1 h2 h3 hne hnm h8;have hd:s1a L.dropLast=0:=w1a.2 ⟨λp hp=>hnm p (List.dropLast_subset _ hp),by rw[List.length_dropLast];omega⟩;have hj:h4a L.dropLast=l2a L.dropLast:=if_pos hd;have hpos:=List.length_pos_iff.2 hne;have hlast:L[L.length-1]? = some (L.getLast?.getD []):=by rw[List.getLast?_eq_getElem?];rw[List.getElem?_eq_getElem (by omega)];rfl
   obtain⟨Z,hZ⟩:∃Z,Z=L.getLast?.getD []:=⟨_,rfl⟩;rw[<-hZ] at h3 hlast;rw[<-hj] at h2;have hq':=hq _ _ _ h2 h3 h1;have c5:=fun (w:World) A n c hx hT=>p7b w A n c L.dropLast hx (λp hp=>by have:=S0a (hnm p (List.dropLast_subset _ hp));omega) hT
   unfold K3a at c5;rw[hd] at c5;obtain⟨D,hD⟩:∃D:ByteArray,D=⟨(h4a L.dropLast).toArray⟩:=⟨_,rfl⟩;rw[<-hD] at c5 hq';have HF:=hI hq';have C1:=hI c1;have C5:=hI c5;have HLAST:=hI hlast;have HDL:Hid (L.dropLast=L.take (L.length-1)):=List.dropLast_eq_take;clear c1 c5 hq hq' he hn h1 h2 h3 hne hnm hL hd hj hlast hZ hD;go_enter Tryz.func23,Tryz.ntmps23;go_wp2_with fail;refine C1.out.mono ?_;rintro e w1 ⟨v,rfl,ho,hb1⟩;obtain⟨A,k,c,rfl,hh⟩:=ho.holds;have hk:=hh.len;have hkc:=hh.fit;rw[hk] at h8 hpos;have hk1:1<=k:=by omega
   have hne0:((k:Int)==0)=false:=by rw[beq_eq_false_iff_ne];omega
   obtain⟨b,off,rfl,hbk,hc⟩:=hh.cells (by omega);have HK:=hI hk;have hT1:=hT.below hb1;have hpre:=hh.pre (m:=k-1) (by omega);rw[<-hk,<-HDL.out,hk] at hpre;have HPRE:=hI hpre;have HH:=hI hh;have hcl:=hc (k-1) Z (by rw[<-hk];exact HLAST.out);have HCL:=hI hcl;clear ho hh hk hc C1 hpre hcl hpos;go_wp2_with fail;refine(C5.out _ _ _ _ HPRE.out hT1 (by omega)).mono ?_;rintro e w2 ⟨rfl,hb2⟩;have gc:=(hb2.cell (p:=⟨b,off+(k-1),none⟩) hbk).trans HCL.out;unfold V0a at gc;have hB2:=hI (step hb1 hb2);have hk0:(0:Int)<=(k:Int)-1:=by omega
   have hk2:(1:Int)<=(k:Int):=by omega
   clear HPRE HCL HH HDL HLAST hb2 C5;go_wp2;go_quiet (fail);go_wp2;go_ret3;refine HF.out _ _ ⟨rfl,?_⟩;exact hB2.out.trans ((E0a _ _).mono hB2.out.size)
 ·obtain⟨E,hE⟩:∃E,E=h0a s.data.toList:=⟨_,rfl⟩;have h1:F0a s.data.toList=E:=by rw[hE];exact if_pos he
  rw[<-hE] at c1 he;obtain⟨h2,h3⟩:=E7a (l:=s.data.toList) (by omega);have HF:=hI (hq _ _ _ h2 h3 h1);have hne:(E != 0)=true:=by simpa using he
  have C1:=hI c1;clear c1 hq hE he h1 h2 h3;go_enter Tryz.func23,Tryz.ntmps23;go_wp2_with fail;refine C1.out.mono ?_;rintro e w1 ⟨v,rfl,ho,hb1⟩;go_wp2;go_ret3;exact HF.out _ _ ⟨rfl,hb1⟩
def C0b(w:World)(a b:List UInt8)(e:Ending)(w':World):Prop:=∃v u,e=.returned (.tuple #[v,u,.bool (decide (h0a a=0/\h0a b=0))])/\t1a V0a 9 w' w.heap.size v (m0a a)/\(h0a a=0->t1a V0a 9 w' w.heap.size u (m0a b))/\Below w.heap.size w w'
theorem D2c(s t:ByteArray)(w:World)(hs:s.size<=140737488355328)(ht:t.size<=140737488355328)(hT:k5a w) :
  Calls Tryz.prog 114 #[.string s,.string t] w (C0b w s.data.toList t.data.toList):=by
 have c1:=Q6a s w hs hT;have c2:=λw hT=>Q6a t w ht hT
 unfold e2a at c1 c2;have hq:∀(a b:Int),h0a s.data.toList=a->h0a t.data.toList=b->∀e w',(∃v u,e=.returned (.tuple #[v,u,.bool (decide (a=0/\b=0))])/\t1a V0a 9 w' w.heap.size v (m0a s.data.toList)/\(a=0->t1a V0a 9 w' w.heap.size u (m0a t.data.toList))/\Below w.heap.size w w')->C0b w s.data.toList t.data.toList e w':=λa b ha hb e w' h=>by unfold C0b;rw[ha,hb];exact h
 have hbad:h0a s.data.toList≠0->m0a s.data.toList=[]:=Z4a;obtain⟨L,hL⟩:∃L,L=m0a s.data.toList:=⟨_,rfl⟩;obtain⟨M,hM⟩:∃L,L=m0a t.data.toList:=⟨_,rfl⟩;obtain⟨E,hE⟩:∃E,E=h0a s.data.toList:=⟨_,rfl⟩;obtain⟨F,hF⟩:∃E,E=h0a t.data.toList:=⟨_,rfl⟩;rw[<-hL,<-hE] at c1;rw[<-hM,<-hF] at c2;rw[<-hE,<-hL] at hbad;have hq':=hq E F hE.symm hF.symm;rw[<-hL,<-hM] at hq';have HQ:=hI hq';have C1:=hI c1;have C2:=hI c2;clear c1 c2 hq hq' hL hM hE hF;by_cases he:E=0
 ·subst he;have HF:Hid (decide ((0:Int)=0/\F=0)=(F==0)):=by
   show _=_
   rw[Bool.eq_iff_iff,decide_eq_true_eq,beq_iff_eq];simp
  clear hbad;go_enter Tryz.func114,Tryz.ntmps114;go_wp2_with fail;refine C1.out.mono ?_;rintro e w1 ⟨v,rfl,ho1,hb1⟩;have HO1:=hI ho1;clear ho1;go_wp2_with fail;refine(C2.out _ (hT.below hb1)).mono ?_;rintro e w2 ⟨u,rfl,ho2,hb2⟩;have HO2:=hI ho2;clear ho2;go_wp2;go_ret3;refine HQ.out _ _ ⟨v,u,?_,HO1.out.below hb2,λ_=>HO2.out.mono hb1.size,step hb1 hb2⟩;rw[HF.out];rfl
 ·have hb:=hbad he;have hne:(E != 0)=true:=by simpa using he
  have HF:Hid (decide (E=0/\F=0)=false):=by
   show _=_
   rw[decide_eq_false];exact λh=>he h.1
  have HBl:=hI hb;clear hbad hb;go_enter Tryz.func114,Tryz.ntmps114;go_wp2_with fail;refine C1.out.mono ?_;rintro e w1 ⟨v,rfl,ho1,hb1⟩;go_wp2;go_ret3;refine HQ.out _ _ ⟨.slice none 0 0,.slice none 0 0,?_,?_,λh=>absurd h he,hb1⟩
  ·rw[HF.out];rfl
  ·rw[HBl.out];exact t1a.nil _ _ _ _
theorem y4b{xs ys:List (List UInt8)}{k:Nat}{x y:List UInt8}(hx:xs[k]? = some x)(hy:ys[k]? = some y):((xs.drop k).map B0a=(ys.drop k).map B0a)↔(B0a x=B0a y/\(xs.drop (k+1)).map B0a=(ys.drop (k+1)).map B0a):=by obtain⟨h1,h2⟩:=List.getElem?_eq_some_iff.1 hx;obtain⟨h3,h4⟩:=List.getElem?_eq_some_iff.1 hy;rw[List.drop_eq_getElem_cons h1,List.drop_eq_getElem_cons h3,h2,h4,List.map_cons,List.map_cons,List.cons.injEq]
theorem y3b(w:World)(A A':Option Addr)(n c n' c':Nat)(xs ys:List (List UInt8))(hx:U0a V0a w w.heap.size A n c xs)(hy:U0a V0a w w.heap.size A' n' c' ys)(lx:∀p∈xs,p.length<=4398046511104)(ly:∀p∈ys,p.length<=4398046511104)(hT:k5a w)(hn63:n<=9223372036854775807)(hn63':n'<=9223372036854775807) :
  Calls Tryz.prog 115 #[.slice A n c,.slice A' n' c',.func (.func 116) #[] #[]] w λe w'=>e=.returned (.bool (decide (xs.map B0a=ys.map B0a)))/\Below w.heap.size w w':=by
 have c2:=fun (s t:ByteArray) (w:World) hs ht hT=>hI (F9b s t w hs ht hT)
 have hxl:=hx.len;have hyl:=hy.len;by_cases hnn:n=n'
 ·subst hnn;obtain⟨R,hR⟩:∃R,R=decide (xs.map B0a=ys.map B0a):=⟨_,rfl⟩;rw[<-hR];have HR:=hI hR;have HX:=hI hx;have HY:=hI hy;have HXL:=hI hxl;have HYL:=hI hyl;clear hx hy hR hxl hyl;go_enter Tryz.func115,Tryz.ntmps115;go_wp2;go_loopw [7,8,9,17] (λ_ _ _ i wr=>∃k:Nat,i=.int .i64 k/\k<=n/\Hid (Below w.heap.size w wr)/\Hid (R=decide ((xs.drop k).map B0a=(ys.drop k).map B0a))) (λ_ _ _ i _=>n-(intOf i).toNat)
  case atStart=>exact⟨0,rfl,Nat.zero_le _,Below.refl _ _,by rw[List.drop_zero,List.drop_zero];exact HR.out⟩
  case round=>
   obtain⟨k,rfl,hk,HBl,HE⟩:=hrel;by_cases hlt:k<n
   ·obtain⟨b,off,rfl,hbk,hc⟩:=(HX.out.below HBl.out).cells (by omega);obtain⟨b',off',rfl,hbk',hc'⟩:=(HY.out.below HBl.out).cells (by omega);have hkx:k<xs.length:=by have:=HXL.out;omega
    have hky:k<ys.length:=by have:=HYL.out;omega
    obtain⟨p,hp⟩:∃p,p=xs[k]:=⟨_,rfl⟩;obtain⟨q,hq⟩:∃q,q=ys[k]:=⟨_,rfl⟩;have ex:xs[k]? = some p:=by rw[hp];exact List.getElem?_eq_getElem hkx
    have ey:ys[k]? = some q:=by rw[hq];exact List.getElem?_eq_getElem hky
    have gc:=hc k p ex;have gc':=hc' k q ey;unfold V0a at gc gc';have d2:=c2 ⟨p.toArray⟩ ⟨q.toArray⟩ wr (by rw[W1a,hp];exact lx _ (List.getElem_mem hkx)) (by rw[W1a,hq];exact ly _ (List.getElem_mem hky)) (hT.below HBl.out);rw[show(⟨p.toArray⟩:ByteArray).data.toList=p from rfl,show(⟨q.toArray⟩:ByteArray).data.toList=q from rfl] at d2;unfold f1a at d2;have hst:=y4b ex ey;clear hc hc' hp hq hkx hky ex ey c2;by_cases hal:B0a p=B0a q
    ·rw[decide_eq_true hal] at d2;have HE2:Hid (R=decide ((xs.drop (k+1)).map B0a=(ys.drop (k+1)).map B0a)):=by
      show _=_
      rw[HE.out];refine decide_eq_decide.2 (hst.trans ?_);simp[hal]
     clear hst hal HE;go_wp2_with fail;refine d2.out.mono ?_;rintro e w2 ⟨rfl,hb2⟩;have HB2:=hI (HBl.out.trans (hb2.mono HBl.out.size));clear hb2;go_wp2;go_roundw
     case rel=>exact⟨k+1,by go_num,hlt,HB2,HE2⟩
     case measure=>simp[intOf];omega
    ·rw[decide_eq_false hal] at d2;have HE2:Hid (R=false):=by
      show _=_
      rw[HE.out];exact decide_eq_false λh=>hal (hst.1 h).1
     clear hst hal HE;go_wp2_with fail;refine d2.out.mono ?_;rintro e w2 ⟨rfl,hb2⟩;have HB2:=hI (HBl.out.trans (hb2.mono HBl.out.size));clear hb2;go_wp2;go_ret;exact⟨a1a HE2.out.symm,HB2.out⟩
   ·obtain rfl:k=n:=by omega
    have HE2:Hid (R=true):=by
     show _=_
     rw[HE.out,List.drop_of_length_le (by have:=HXL.out;omega),List.drop_of_length_le (by have:=HYL.out;omega)];rfl
    clear HE c2;go_wp2;go_ret;exact⟨a1a HE2.out.symm,HBl.out⟩
 ·have hf:decide (xs.map B0a=ys.map B0a)=false:=decide_eq_false λh=>by have:=congrArg List.length h;rw[List.length_map,List.length_map] at this;omega
  rw[hf];have hne:((n:Int) != n')=true:=by rw[bne_iff_ne];omega
  clear hf hnn hx hy hxl hyl c2;go_enter Tryz.func115,Tryz.ntmps115;go_wp2;go_ret;exact⟨rfl,Below.refl _ _⟩
theorem e8b(s t:ByteArray)(w:World)(hs:s.size<=140737488355328)(ht:t.size<=140737488355328)(hT:k5a w) :
  Calls Tryz.prog 65 #[.string s,.string t] w λe w'=>e=.returned (.bool (g3a s.data.toList t.data.toList))/\Below w.heap.size w w':=by
 have c1:=D2c s t w hs ht hT;unfold C0b at c1;unfold g3a;have n1:=B2a (l:=s.data.toList);have n2:=B2a (l:=t.data.toList);have l1:=t3a s.data.toList;have l2:=t3a t.data.toList;obtain⟨L,hL⟩:∃L,L=m0a s.data.toList:=⟨_,rfl⟩;obtain⟨M,hM⟩:∃L,L=m0a t.data.toList:=⟨_,rfl⟩;obtain⟨E,hE⟩:∃E,E=h0a s.data.toList:=⟨_,rfl⟩;obtain⟨F,hF⟩:∃E,E=h0a t.data.toList:=⟨_,rfl⟩;rw[<-hL,<-hM,<-hE,<-hF] at c1⊢;rw[<-hL] at n1 l1;rw[<-hM] at n2 l2;by_cases hok:E=0/\F=0
 ·obtain⟨rfl,rfl⟩:=hok;rw[show decide ((0:Int)=0/\(0:Int)=0)=true from rfl] at c1;by_cases hlen:M.length<L.length
  ·have c3:=fun (w:World) A A' n c n' c' hx hy hT=>y3b w A A' n c n' c' (L.take M.length) M hx hy (λp hp=>by have:=S0a (n1 p (List.mem_of_mem_take hp));omega) (λp hp=>by have:=S0a (n2 p hp);omega) hT
   have hd:decide ((0:Int)=0/\(0:Int)=0/\M.length<L.length/\(L.take M.length).map B0a=M.map B0a)=decide ((L.take M.length).map B0a=M.map B0a):=by simp[hlen]
   rw[hd];obtain⟨R,hR⟩:∃R,R=decide ((L.take M.length).map B0a=M.map B0a):=⟨_,rfl⟩;rw[<-hR] at c3⊢;have C1:=hI c1;have C3:=hI c3;clear c1 c3 hL hM hE hF n1 n2 hd hR;go_enter Tryz.func65,Tryz.ntmps65;go_wp2_with fail;refine C1.out.mono ?_;rintro e w1 ⟨v,u,rfl,ho1,ho2,hb1⟩;obtain⟨A,k,c,rfl,hh⟩:=ho1.holds;obtain⟨A',k',c',rfl,hh'⟩:=(ho2 (by trivial)).holds;have e1:=hh.len;have e2:=hh'.len;have e3:=hh.fit;have hp:=hh.pre (m:=k') (by omega);rw[<-e2] at hp;have d3:=C3.out _ _ _ _ _ _ _ hp hh' (hT.below hb1) (by omega) (by omega);rw[e2] at d3;have D3:=hI d3;have hkk:k'<k:=by omega
   clear ho1 ho2 hh hh' e1 e2 C1 C3 l1 l2 hp d3 hlen;go_wp2_with fail;refine D3.out.mono ?_;rintro e w2 ⟨rfl,hb2⟩;go_wp2;go_ret;exact⟨rfl,step hb1 hb2⟩
  ·rw[decide_eq_false (λh=>hlen h.2.2.1)];have C1:=hI c1;clear c1 hL hM hE hF n1 n2;go_enter Tryz.func65,Tryz.ntmps65;go_wp2_with fail;refine C1.out.mono ?_;rintro e w1 ⟨v,u,rfl,ho1,ho2,hb1⟩;obtain⟨A,k,c,rfl,hh⟩:=ho1.holds;obtain⟨A',k',c',rfl,hh'⟩:=(ho2 (by trivial)).holds;have e1:=hh.len;have e2:=hh'.len;have hkk:¬k'<k:=by omega
   clear ho1 ho2 hh hh' e1 e2 C1 l1 l2 hlen;go_wp2;go_ret;exact⟨rfl,hb1⟩
 ·rw[decide_eq_false hok] at c1;rw[decide_eq_false (λh=>hok ⟨h.1,h.2.1⟩)];have C1:=hI c1;clear c1 hL hM hE hF n1 n2 hok;go_enter Tryz.func65,Tryz.ntmps65;go_wp2_with fail;refine C1.out.mono ?_;rintro e w1 ⟨v,u,rfl,ho1,ho2,hb1⟩;go_wp2;go_ret;exact⟨rfl,hb1⟩
def Y7a(w:World)(g:Nat)(bs:List Bool):Prop:=w.heap[g]? = some (.cells (bs.map Value.bool).toArray 4 (0,0))
section
variable {w w':World} {g g' B:Nat} {bs cs:List Bool}
theorem Y7a.lt(h:Y7a w g bs):g<w.heap.size:=(Array.getElem?_eq_some_iff.1 h).1
theorem Y7a.cell(h:Y7a w g bs){i:Nat}(hi:i<bs.length):w.cell? ⟨g,i,none⟩=some (.bool (bs.getD i false)):=by rw[cell_of_row w g i _ 4 (0,0) h];simp[hi]
theorem Y7a.frozen(h:Y7a w g bs)(i:Nat):w.frozen? ⟨g,i,none⟩=false:=frozen_of_row w g i _ 4 h
theorem Y7a.below(h:Y7a w g bs)(hb:Below w.heap.size w w'):Y7a w' g bs:=(hb.block g h.lt).trans h
theorem Y7a.only(h:Y7a w g bs)(hO:S1a g' w w')(hg:g≠g'):Y7a w' g bs:=(hO.rest g hg).trans h
theorem Y7a.drewN(h:Y7a w g bs)(k:Nat):Y7a (w.drewN k) g bs:=h
end
noncomputable def rowB (p t:List Int):List Bool:=(List.range (p.length+1)).map λj=>m2a p j t
structure RK (w wr:World) (base base':Nat) (v u:Value) (p t:List Int):Prop where
 pat:v1a .i64 3 wr base v p
 text:v1a .i64 3 wr base' u t
 below:Below w.heap.size w wr
theorem RK.only{w wr w':World}{base base' g:Nat}{v u:Value}{p t:List Int}{bs:List Bool}(K:RK w wr base base' v u p t)(hB:Y7a wr g bs)(hg:w.heap.size<=g)(hO:S1a g wr w'):RK w w' base base' v u p t:=by
 have key:∀(base:Nat) (v:Value) (p:List Int),v1a .i64 3 wr base v p->v1a .i64 3 w' base v p:=λbase v p h=>
  h.keep λi cs _ hcs=>hO.rest i λhe=>by subst he;unfold Y7a at hB;rw[hB] at hcs;simp only[Option.some.injEq,Obj.cells.injEq] at hcs;exact absurd hcs.2.1 (by decide)
 exact⟨key _ _ _ K.pat,key _ _ _ K.text,K.below.trans (hO.below hg)⟩
theorem RK.over{w wr w':World}{base base':Nat}{v u:Value}{p t:List Int}(K:RK w wr base base' v u p t)(hb:Below wr.heap.size wr w'):RK w w' base base' v u p t:=⟨K.pat.below hb,K.text.below hb,step K.below hb⟩
theorem RK.drewN{w wr:World}{base base':Nat}{v u:Value}{p t:List Int}(K:RK w wr base base' v u p t)(k:Nat):RK w (wr.drewN k) base base' v u p t:=⟨K.pat.below (E0a wr k),K.text.below (E0a wr k),step K.below (E0a wr k)⟩
section
variable {α:Type} {f:α->List Value} {s:Nat} {w w':World} {base q n c:Nat} {e:TypeId} {xs:List α} {v:Value} {S:Nat->Prop}
theorem j1a.heap(h:j1a f s e w base (.slice (some ⟨q,0,none⟩) n c) xs):base<=q/\xs.length=n/\∃cur:Array Value,w.heap[q]? = some (.cells cur e (0,0))/\n*s<=cur.size/\cur.toList.take (n*s)=xs.flatMap f/\n<=c/\c<=maxLen/\cur.size=c*s:=by
 rcases h.2 with⟨h0,_⟩ | ⟨g',cap,cur,hv,hb,hg,hnc,hcm,hcs,htk⟩
 ·cases h0
 ·simp only[Value.slice.injEq,Option.some.injEq,Addr.mk.injEq,and_true] at hv;obtain⟨rfl,hn,rfl⟩:=hv;exact⟨hb,hn.symm,cur,hg,by rw[hcs,hn];exact Nat.mul_le_mul_right s hnc,by rw[hn];exact htk,by omega,hcm,hcs⟩
theorem j1a.sparS(h:j1a f s e w base v xs)(a:g0a S w w')(hg:∀i,v.ownBlock=some i->¬S i):j1a f s e w' base v xs:=h.keep λi _ hi hcs=>a.rest i (Array.getElem?_eq_some_iff.1 hcs).1 (hg i hi)
end
section
variable {α:Type} {P:Program} {w:World} {ops:Array Oper} {rest:List Oper} {o:Oper} {a:Act} {Q:Exit->Act->World->Prop} {K:Act->World->Prop} {E:Prop}
theorem W6a(f:α->Value)(hf:∀y,(f y).oneCell'=true)(z:Value)(hzc:z.cells.size=1)(T e:TypeId)(bytes:Nat)(hgd:o.guard=none)(l x:Operand)
(ht:P.underlying T=some (.slice e))(hi:(P.info? e).map (λi=>(i.zero,i.size,i.bytes))=some (some z,1,bytes))
(ho:o.op=.call { callee:=.builtin .append,args:=#[l,x],argTypes:=#[T,T] })
(base:Nat)(v:Value)(xs ys:List α)(m c b:Nat)(hm:ys.length=m)(hs:a.eval l=v)(hx:a.eval x=.slice (some ⟨b,0,none⟩) m c)(hb:w.heap[b]? = some (.cells (ys.map f).toArray e (0,0)))
(hown:t1a f e w base v xs)(hlen:(xs.length+m)*bytes<=140737488355328)(h63:xs.length+m<=9223372036854775807)(hbase:base<=w.heap.size)
(h:∀v' w',Hid (t1a f e w' base v' (xs++ys))->Hid (g0a (λj=>v.ownBlock=some j) w w')->Hid (Z0a w v v')->K (a.put o.dst v') w') :
  if Region.wanted o (yielded ops a.tmps)=true then Oper.wp P o a w K Q else E:=by
 have hw:Region.wanted o (yielded ops a.tmps)=true:=by simp[Region.wanted,hgd]
 rw[if_pos hw];obtain⟨i0,hi0,hz0,hz1,hz2⟩:=info_parts hi;obtain⟨v',w',hrun,ho',hg',hwh⟩:=X3a (P:=P) w T o.type e i0 z bytes ht hi0 hz0 hz1 hz2 hzc base v xs.length (xs.map f) hown ⟨b,0,none⟩ m c (ys.map f) (by simp[hm])
  (λj y hj=>by
   have e1:(⟨b,0,none⟩:Addr).add j=⟨b,j,none⟩:=by
    by_cases hj0:j=0
    ·subst hj0;simp[Addr.add]
    ·simp[Addr.add,hj0]
   rw[e1,cell_of_row _ b j _ e (0,0) hb,<-hj];simp)
  (by intro v hv;obtain⟨x,_,rfl⟩:=List.mem_map.1 hv;exact hf x) (by unfold maxLen;omega) hlen hbase
 unfold Oper.wp execOp;simp only[ho,resolve,invoke,builtin,Sem.run_bind,Sem.run_pure,Result.andThen_ok,List.map_toArray,List.map_cons,List.map_nil,hs,hx,hrun];refine h v' w' ?_ (g0a.of_grown hg') (Z0a.of_whither hwh);show World.ownsRow _ _ _ _ _ _ _
 rw[List.length_append,List.map_append,hm];exact ho'
end
theorem j1a.form{α:Type}{f:α->List Value}{s:Nat}{e:TypeId}{w:World}{base:Nat}{v:Value}{xs:List α}(h:j1a f s e w base v xs)(hn:0<xs.length):∃q c,v=.slice (some ⟨q,0,none⟩) xs.length c:=by
 rcases h.2 with⟨_,h0⟩ | ⟨g',cap,cur,hv,_⟩
 ·omega
 ·exact⟨g',_,hv⟩
section
variable {P:Program} {w:World} {ops:Array Oper} {rest:List Oper} {o:Oper} {a:Act} {Q:Exit->Act->World->Prop}
theorem z4b(w:World)(dT sT ty elem:TypeId)(s g off dLen dCap:Nat)(ad:Addr)(sLen sCap:Nat)(cur:List Value)(t:TypeId)(cs:List Value)
(hu:P.underlying dT=some (.slice elem))(hs:(P.info? elem).map (·.size)=some s)(hg:Blk w g t cur)(hn:cs.length=Nat.min sLen dLen*s)
(hsrc:∀j v,cs[j]? = some v->w.cell? (ad.add j)=some v)(hfit:off+cs.length<=cur.length)(h1:∀v∈cs,v.oneCell'=true) :
  (Builtin.copy_ #[dT,sT] ty #[.slice (some ⟨g,off,none⟩) dLen dCap,.slice (some ad) sLen sCap]).run P w=.ok (goInt (Nat.min sLen dLen)) (w.setRow g (splice cur off cs).toArray):=by
 have hl:=run_loadCells_list (P:=P) w ad cs hsrc;have hst:=run_storeCells_at P g off t cs 0 cur.toArray w hg (by simpa using hfit) h1;cases hq:P.info? elem with
 | none=>simp[hq] at hs
 | some i=>
  have hi:i.size=s:=by simpa[hq] using hs
  simp[Builtin.copy_,run_underlying hu,Builtin.lenOf,Builtin.firstCells,sizeOf,typeInfo,hq,hi,<-hn,hl,hst,splice]
theorem E1a(hgd:o.guard=none)(d x:Operand)(dT elem t:TypeId)(s k:Nat)
(ho:o.op=.call { callee:=.builtin .copy,args:=#[d,x],argTypes:=#[dT,dT] })(hu:P.underlying dT=some (.slice elem))(hs:(P.info? elem).map (·.size)=some s)
(g off dLen dCap:Nat)(b so sLen sCap:Nat)(hd:a.eval d=.slice (some ⟨g,off,none⟩) dLen dCap)(hx:a.eval x=.slice (some ⟨b,so,none⟩) sLen sCap)
(cur cs:List Value)(hg:Blk w g t cur)(hk:Nat.min sLen dLen=k)(hn:cs.length=k*s)(hsrc:∀j v,cs[j]? = some v->w.cell? ⟨b,so+j,none⟩=some v)(hfit:off+k*s<=cur.length)(h1:∀v∈cs,v.oneCell'=true)
(h:∀w',Hid (Blk w' g t (splice cur off cs))->Hid (S1a g w w')->wpList P ops Q rest (a.put o.dst (goInt k)) w'):wpList P ops Q (o::rest) a w:=by
 have hrun:=z4b (P:=P) w dT dT o.type elem s g off dLen dCap ⟨b,so,none⟩ sLen sCap cur t cs hu hs hg (by rw[hk];exact hn) (λj v hj=>by rw[Addr.add_mid];exact hsrc j v hj) (by rw[hn];exact hfit) h1;rw[hk] at hrun;refine wpList_plain hgd λK hK=>?_
 unfold Oper.wp execOp;simp only[ho,resolve,invoke,builtin,Sem.run_bind,Sem.run_pure,Result.andThen_ok,List.map_toArray,List.map_cons,List.map_nil,hd,hx,hrun];exact hK _ _ (h _ (setRow_heap w g _ _ t (0,0) hg) ((S1a.refl g w).setRow _))
theorem p2a(hgd:o.guard=none)(x:Operand)(T elem t:TypeId)(s:Nat)(z:Value)(zs:List Value)
(ho:o.op=.call { callee:=.builtin .clear,args:=#[x],argTypes:=#[T] })(hu:P.underlying T=some (.slice elem))(hi:(P.info? elem).map (λi=>(i.zero,i.size))=some (some z,s))(hz:z.cells.size=s)(hz1:∀v∈z.cells,v.oneCell'=true)(hs0:0<s)
(g off n c:Nat)(A:Option Addr)(hx:a.eval x=.slice A n c)(hA:0<n->A=some ⟨g,off,none⟩)
(cur:List Value)(hg:Blk w g t cur)(hfit:off+n*s<=cur.length)
(h:∀w' cs,Hid (cs.length=n*s)->Hid (Blk w' g t (splice cur off cs))->Hid (S1a g w w')->wpList P ops Q rest (a.put o.dst (.tuple #[])) w'):wpList P ops Q (o::rest) a w:=by
 have hzv:=(zero_of_info hi).1;rcases Nat.eq_zero_or_pos n with h0 | h0
 ·subst h0;have hrun:(Builtin.clear_ #[T] o.type #[.slice A 0 c]).run P w=.ok (.tuple #[]) w:=by cases A<;>simp[Builtin.clear_,run_underlying hu]
  refine wpList_plain hgd λK hK=>?_
  unfold Oper.wp execOp;simp only[ho,resolve,invoke,builtin,Sem.run_bind,Sem.run_pure,Result.andThen_ok,List.map_toArray,List.map_cons,List.map_nil,hx,hrun];refine hK _ _ (h w [] (by show _=_;simp) ?_ (S1a.refl g w));show Blk w g t _
  simpa[splice] using hg
 ·obtain rfl:=hA h0;obtain⟨m,rfl⟩:∃m,n=m+1:=⟨n-1,by omega⟩;have hl:(Builtin.zeroCells z.cells (m+1)).toList.length=(m+1)*s:=by rw[Array.length_toList,size_zeroCells,hz]
  have h1:∀v∈(Builtin.zeroCells z.cells (m+1)).toList,v.oneCell'=true:=by intro v hv;simp only[Builtin.zeroCells,Array.toList_map,List.mem_map] at hv;obtain⟨i,_,rfl⟩:=hv;have hlt:i%z.cells.size<z.cells.size:=Nat.mod_lt _ (by omega);rw[getElem!_pos z.cells _ hlt];exact hz1 _ (Array.getElem_mem hlt)
  have hst:=run_storeCells_at P g off t _ 0 cur.toArray w hg (by rw[hl];simpa using hfit) h1;have hrun:(Builtin.clear_ #[T] o.type #[.slice (some ⟨g,off,none⟩) (m+1) c]).run P w=.ok (.tuple #[]) (w.setRow g (splice cur off (Builtin.zeroCells z.cells (m+1)).toList).toArray):=by simp only[Nat.add_zero] at hst;simp[Builtin.clear_,run_underlying hu,hzv,splice];simp at hst;rw[hst];rfl
  refine wpList_plain hgd λK hK=>?_
  unfold Oper.wp execOp;simp only[ho,resolve,invoke,builtin,Sem.run_bind,Sem.run_pure,Result.andThen_ok,List.map_toArray,List.map_cons,List.map_nil,hx,hrun];exact hK _ _ (h _ _ hl (setRow_heap w g _ _ t (0,0) hg) ((S1a.refl g w).setRow _))
theorem v2a(hgd:o.guard=none)(l x:Operand)(T elem:TypeId)(s:Nat)
(ho:o.op=.call { callee:=.builtin .append,args:=#[l,x],argTypes:=#[T,T] })(hu:P.underlying T=some (.slice elem))(hs:(P.info? elem).map (·.size)=some s)
(g sLen sCap b so m c:Nat)(hl:a.eval l=.slice (some ⟨g,0,none⟩) sLen sCap)(hx:a.eval x=.slice (some ⟨b,so,none⟩) m c)
(cur cs:List Value)(hg:Blk w g elem cur)(hn:cs.length=m*s)(hsrc:∀j v,cs[j]? = some v->w.cell? ⟨b,so+j,none⟩=some v)(hroom:sLen+m<=sCap)(hfit:sLen*s+m*s<=cur.length)(h1:∀v∈cs,v.oneCell'=true)
(h:∀w',Hid (Blk w' g elem (splice cur (sLen*s) cs))->Hid (S1a g w w')->wpList P ops Q rest (a.put o.dst (.slice (some ⟨g,0,none⟩) (sLen+m) sCap)) w'):wpList P ops Q (o::rest) a w:=by
 cases hq:P.info? elem with
 | none=>simp[hq] at hs
 | some i=>
  have hi:i.size=s:=by simpa[hq] using hs
  have hrun:=run_append_room (P:=P) w T o.type elem i hu hq g sLen sCap cur.toArray hg ⟨b,so,none⟩ m c cs (by rw[hi,hn]) (λj v hj=>by rw[Addr.add_mid];exact hsrc j v hj) h1 hroom (by rw[hi,hn];simpa using hfit);rw[hi] at hrun;refine wpList_plain hgd λK hK=>?_
  unfold Oper.wp execOp;simp only[ho,resolve,invoke,builtin,Sem.run_bind,Sem.run_pure,Result.andThen_ok,List.map_toArray,List.map_cons,List.map_nil,hl,hx,hrun];refine hK _ _ (h _ ?_ ((S1a.refl g w).setRow _));have:=setRow_heap w g cur.toArray (splice cur (sLen*s) cs).toArray elem (0,0) hg;show Blk _ _ _ _
  unfold Blk;simpa[splice] using this
theorem u5a(hgd:o.guard=none)(l x:Operand)(T tn elem t:TypeId)(s bytes:Nat)(z:Value)(kn:IntKind)
(ho:o.op=.call { callee:=.builtin .append,args:=#[l,x],argTypes:=#[T,tn] })(hu:P.underlying T=some (.slice elem))(htn:P.underlying tn=some (.int kn))(hi:(P.info? elem).map (λi=>(i.zero,i.size,i.bytes))=some (some z,s,bytes))(hz:z.cells.size=s)(hs0:0<s)
(g sLen sCap k:Nat)(hl:a.eval l=.slice (some ⟨g,0,none⟩) sLen sCap)(kk:IntKind)(C:Int)(hx:a.eval x=.int kk C)(hC:C=(k:Int))
(cur:List Value)(hg:Blk w g t cur)(hfit:sLen*s<=cur.length)(hgrow:sCap<sLen+k)(h0:0<k)(hlen:(sLen+k)*bytes<=140737488355328)(h63:sLen+k<=9223372036854775807)
(h:∀w' h' cap cs,Hid (w.heap.size<=h'/\h'<w'.heap.size)->Hid (Blk w' h' elem (cur.take (sLen*s)++cs))->Hid ((cur.take (sLen*s)++cs).length=cap*s)->sLen+k<=cap->cap<=maxLen->Hid (Below w.heap.size w w')->
   wpList P ops Q rest (a.put o.dst (.slice (some ⟨h',0,none⟩) (sLen+k) cap)) w'):wpList P ops Q (o::rest) a w:=by
 subst hC;obtain⟨i,hq,hz0,hz1,hz2⟩:=info_parts hi;have hold:(Builtin.firstCells i.size sLen (.slice (some ⟨g,0,none⟩) sLen sCap)).run P w.drew=.ok (cur.take (sLen*s)).toArray w.drew:=by
  refine run_firstCells_some w.drew i.size sLen ⟨g,0,none⟩ sLen sCap _ (by rw[hz1,List.length_take];omega) λj v hj=>?_
  rw[Addr.add_mid,Nat.zero_add];have:=(Blk.cell (Blk.drew hg) j);rw[this,<-hj,List.getElem?_take];rw[List.getElem?_take] at hj;split
  ·rfl
  ·rename_i hlt;rw[if_neg hlt] at hj;cases hj
 have hn:¬(sLen+k<=sCap):=by omega
 have hk0:k≠0:=by omega
 have hw:IntKind.i64.wrap (k:Int)=k:=by rw[IntKind.wrap_i64];omega
 have hneg:¬((k:Int)<0):=by omega
 have h63':¬(9223372036854775807<((sLen:Int)+(k:Int))):=by omega
 have hb:k*i.bytes<=140737488355328:=by rw[hz2];exact Nat.le_trans (Nat.mul_le_mul_right _ (by omega)) hlen
 have h48:¬(281474976710656<(k:Int)*(i.bytes:Int)):=by rw[<-Int.natCast_mul];omega
 have h48':¬(281474976710656<Builtin.nextslicecap (sLen+k) sCap*i.bytes):=by have:=growslice_fits (bytes:=i.bytes) hgrow (by rw[hz2];exact hlen);omega
 have hns:¬(k*i.size=0):=Nat.mul_ne_zero hk0 (by omega);have hrun:(Builtin.append_ #[T,tn] o.type #[.slice (some ⟨g,0,none⟩) sLen sCap,.int kk k]).run P w =
   .ok (.slice (some ⟨w.heap.size,0,none⟩) (sLen+k) (grownCap w (sLen+k) sCap elem)) (w.drew.alloc (.cells ((cur.take (sLen*s)).toArray++Builtin.zeroCells z.cells k++Builtin.zeroCells z.cells (grownCap w (sLen+k) sCap elem-(sLen+k))) elem)):=by
  simp[Builtin.append_,run_underlying hu,run_underlying htn,sizeOf,typeInfo,zeroValue,hq,hz0,asInt,asIntOf,hw,hneg,h48,hn,h63',h48',hns,Question.forced,hold,newRow,grownCap]
 have hge:=grownCap_ge w (sLen+k) sCap elem;have hcm:grownCap w (sLen+k) sCap elem<=maxLen:=grownCap_le_maxLen w (sLen+k) sCap elem (by unfold maxLen;omega);obtain⟨cap,hcap⟩:∃cap,cap=grownCap w (sLen+k) sCap elem:=⟨_,rfl⟩;rw[<-hcap] at hrun hge hcm;refine wpList_plain hgd λK hK=>?_
 unfold Oper.wp execOp;simp only[ho,resolve,invoke,builtin,Sem.run_bind,Sem.run_pure,Result.andThen_ok,List.map_toArray,List.map_cons,List.map_nil,hl,hx,hrun];refine hK _ _ (h _ w.heap.size cap ((Builtin.zeroCells z.cells k).toList++(Builtin.zeroCells z.cells (cap-(sLen+k))).toList) ⟨Nat.le_refl _,by simp⟩ ?_ ?_ hge hcm ?_)
 ·refine(heap_alloc_new w.drew _).trans ?_;simp
 ·have e1:(Builtin.zeroCells z.cells k).toList.length=k*s:=by rw[Array.length_toList,size_zeroCells,hz]
  have e2:(Builtin.zeroCells z.cells (cap-(sLen+k))).toList.length=(cap-(sLen+k))*s:=by rw[Array.length_toList,size_zeroCells,hz]
  show _=_
  rw[List.length_append,List.length_append,List.length_take,e1,e2,Nat.min_eq_left hfit,<-Nat.add_mul,<-Nat.add_mul]
  congr 1
  omega
 ·exact(Below.refl _ _).drew.alloc (Nat.le_refl _) _
theorem G2a{α:Type}(hgd:o.guard=none)(l x:Operand)(f:α->List Value)(s:Nat)(hs0:0<s)(hfl:∀y,(f y).length=s)(hf:∀y,∀u∈f y,u.oneCell'=true)(z:Value)(hzc:z.cells.size=s)(T e:TypeId)(bytes:Nat)
(ht:P.underlying T=some (.slice e))(hi:(P.info? e).map (λi=>(i.zero,i.size,i.bytes))=some (some z,s,bytes))
(ho:o.op=.call { callee:=.builtin .append,args:=#[l,x],argTypes:=#[T,T] })
(base:Nat)(v:Value)(xs:List α)(hs:a.eval l=v)(hown:j1a f s e w base v xs)(b so m c:Nat)(ys:List α)(hx:a.eval x=.slice (some ⟨b,so,none⟩) m c)
(hm:ys.length=m)(hsrc:∀j u,(ys.flatMap f)[j]? = some u->w.cell? ⟨b,so+j,none⟩=some u)(hlen:(xs.length+ys.length)*bytes<=140737488355328)(h63:xs.length+ys.length<=9223372036854775807)(hbase:base<=w.heap.size)
(h:∀v' w',Hid (j1a f s e w' base v' (xs++ys))->Hid (g0a (λj=>v.ownBlock=some j) w w')->Hid (Z0a w v v')->wpList P ops Q rest (a.put o.dst v') w') :
  wpList P ops Q (o::rest) a w:=by
 obtain⟨i0,hi0,hz0,hz1,hz2⟩:=info_parts hi;obtain⟨v',w',hrun,ho',hg',_,hwh⟩:=run_append_own_at (P:=P) w base T o.type e i0 z s bytes ht hi0 hz0 hz1 hz2 hzc hs0 v xs.length (xs.flatMap f) hown ⟨b,so,none⟩ m c (ys.flatMap f) (by rw[C1a hfl,hm])
  (λj u hj=>by rw[Addr.add_mid];exact hsrc j u hj) (by intro u hu;obtain⟨y,_,hy⟩:=List.mem_flatMap.1 hu;exact hf y u hy) (by unfold maxLen;omega) (by rw[<-hm];exact hlen) hbase
 refine wpList_plain hgd λK hK=>?_
 unfold Oper.wp execOp;simp only[ho,resolve,invoke,builtin,Sem.run_bind,Sem.run_pure,Result.andThen_ok,List.map_toArray,List.map_cons,List.map_nil,hs,hx,hrun];refine hK _ _ (h v' w' ?_ (g0a.of_grown hg') ?_)
 ·show World.ownsRow _ _ _ _ _ _ _
  rw[List.length_append,List.flatMap_append,hm];exact ho'
 ·intro i hi;rcases hwh with h1 | h1
  ·exact .inl (h1▸hi)
  ·rw[h1] at hi;injection hi with hi
   exact .inr (by omega)
end
section
variable {α:Type} {f:α->List Value} {s:Nat} {w w':World} {base q n c:Nat} {e:TypeId} {xs:List α} {v:Value} {A:Option Addr}
theorem j1a.blk(h:j1a f s e w base (.slice (some ⟨q,0,none⟩) n c) xs):base<=q/\xs.length=n/\n<=c/\c<=maxLen/\∃cs,Blk w q e cs/\cs.length=c*s/\cs.take (n*s)=xs.flatMap f:=by obtain⟨hb,hn,cur,hg,_,htk,hnc,hcm,hcs⟩:=h.heap;exact⟨hb,hn,hnc,hcm,cur.toList,by unfold Blk;rw[hg],by rw[Array.length_toList,hcs],htk⟩
theorem j1a.of_blk(hf:∀x,(f x).length=s){cs:List Value}(hb:base<=q)(hB:Blk w q e cs)(hc:cs.length=c*s)(hcm:c<=maxLen)(hn:xs.length=n)(hnc:n<=c)(ht:cs.take (n*s)=xs.flatMap f):j1a f s e w base (.slice (some ⟨q,0,none⟩) n c) xs:=⟨by rw[C1a hf],.inr ⟨q,c,cs.toArray,by rw[hn],hb,hB,by rw[hn];exact hnc,hcm,by simpa using hc,by rw[hn];simpa using ht⟩⟩
end
section
variable {w w':World} {base base' g:Nat} {v:Value} {L:List I0a} {S:Nat->Prop}
end
theorem d0a{w:World}{p:Addr}{v:Value}(h:w.cell? p=some v):p.block<w.heap.size:=by
 rcases Nat.lt_or_ge p.block w.heap.size with h' | h'
 ·exact h'
 ·simp[World.cell?,Array.getElem?_eq_none h'] at h
theorem b4a{s:ByteArray}:(s.toList==[])=decide (s.size=0):=by rw[Bool.eq_iff_iff,beq_iff_eq,decide_eq_true_iff,Lib.toList_data,Lib.size_eq];exact List.length_eq_zero_iff.symm
theorem S2a{s:ByteArray}:s.toList.isEmpty=decide (s.size=0):=by rw[<-b4a,Bool.eq_iff_iff,List.isEmpty_iff,beq_iff_eq]
theorem j1a.oneCD{α:Type}{f:α->List Value}{s:Nat}{e:TypeId}{w:World}{base:Nat}{v:Value}{xs:List α}(h:j1a f s e w base v xs):v.oneCell'=true:=by rcases h.2 with⟨rfl,_⟩ | ⟨_,_,_,rfl,_⟩<;>rfl
section
variable {L:List I0a} {p a:ByteArray} {i:Nat} {m:Int}
end
def G0a(x:ByteArray):List Value:=[.string x]
theorem H1a(x:ByteArray):(G0a x).length=1:=rfl
theorem x4a(x:ByteArray):∀u∈G0a x,u.oneCell'=true:=by intro u hu;simp only[G0a,List.mem_cons,List.not_mem_nil,or_false] at hu;rw[hu];rfl
def E6a(w:World)(xs:List ByteArray)(more:Bool)(n:Int)(e:Ending)(w':World):Prop:=∃v,e=.returned (.tuple #[v,.bool more,.int .i64 n])/\j1a G0a 1 9 w' w.heap.size v xs/\Below w.heap.size w w'
theorem E6a.err{w w':World}{n:Int}(h:Below w.heap.size w w'):E6a w [] false n (.returned (.tuple #[.slice none 0 0,.bool false,.int .i64 n])) w':=⟨_,rfl,j1a.nil _ _ _ _ _,h⟩
abbrev VP:=k0a×Option (Nat×Value×Value)
def T5b(o:Option (Nat×Value×Value)):Value:=.pointer (o.map λt=>⟨t.1,0,none⟩)
def C0a(y:VP):List Value:=[.int .i64 y.1.n,.int .u8 y.1.kind,.int .i64 y.1.par,V0a y.1.name,T5b y.2]
theorem K0a(y:VP):(C0a y).length=5:=rfl
structure T2a (w:World) (base g:Nat) (v:Value) (V:X0a) (M:List VP):Prop where
 ge:base<=g
 blk:Blk w g 101 [.int .i64 V.quota,.int .i64 V.last,v]
 row:j1a C0a 5 98 w base v M
 is:M.map (·.1)=V.l
 dirs:∀y∈M,y.1.kind=1->y.2=none
 files:∀y∈M,y.1.kind=2->∃b vB vZ,y.2=some (b,vB,vZ)/\D6a w base b vB vZ y.1.B y.1.Z
 ok:Vok V
 big:V.last<=1048576
def rvS(g:Nat)(v:Value):Nat->Prop:=λj=>j=g∨v.ownBlock=some j
def rvA(g:Nat)(v:Value)(M:List VP):Nat->Prop:=λj=>rvS g v j∨∃y∈M,∃b vB vZ,y.2=some (b,vB,vZ)/\rdS b vB vZ j
section
variable {w w':World} {base base' g i:Nat} {v:Value} {V:X0a} {M:List VP} {S:Nat->Prop} {n:Int}
theorem T2a.spare(h:T2a w base g v V M)(a:g0a S w w')(hs:∀j,rvA g v M j->¬S j):T2a w' base g v V M:=
 ⟨h.ge,h.blk.spare a (hs g (.inl (.inl rfl))),h.row.sparS a λi hi=>hs i (.inl (.inr hi)),h.is,h.dirs,λy hy hk=>by obtain⟨b,vB,vZ,e,d⟩:=h.files y hy hk;exact⟨b,vB,vZ,e,d.spare a λj hj=>hs j (.inr ⟨y,hy,b,vB,vZ,e,hj⟩)⟩,h.ok,h.big⟩
theorem T2a.below(h:T2a w base g v V M)(hb:Below w.heap.size w w'):T2a w' base g v V M:=h.spare (g0a.of_over (λ_=>False) hb) λ_ _ h=>h
theorem T2a.len(h:T2a w base g v V M):∃A c,v=.slice A V.l.length c:=by
 have hl:M.length=V.l.length:=by rw[<-h.is,List.length_map]
 rcases h.row.2 with⟨h1,h2⟩ | ⟨q,cap,cur,h1,_⟩
 ·exact⟨none,0,by rw[h1,<-hl,h2]⟩
 ·exact⟨_,_,by rw[h1,hl]⟩
theorem T2a.get(h:T2a w base g v V M)(hi:i<V.l.length):∃hm:i<M.length,(M[i]'hm).1=V.l[i]:=by
 have hl:M.length=V.l.length:=by rw[<-h.is,List.length_map]
 refine⟨by omega,?_⟩;have h1:(M.map (·.1))[i]? = V.l[i]?:=by rw[h.is]
 rw[List.getElem?_map,List.getElem?_eq_getElem (by omega),List.getElem?_eq_getElem hi] at h1;simpa using h1
theorem T2a.at(h:T2a w base g v V M)(hi:i<V.l.length):∃q c,v=.slice (some ⟨q,0,none⟩) V.l.length c/\V.l.length<=c/\c<=maxLen/\w.cell? ⟨q,i*5,none⟩=some (.int .i64 V.l[i].n)/\w.cell? ⟨q,i*5+1,none⟩=some (.int .u8 V.l[i].kind)/\
  w.cell? ⟨q,i*5+2,none⟩=some (.int .i64 V.l[i].par)/\w.cell? ⟨q,i*5+3,none⟩=some (V0a V.l[i].name)/\∃hm:i<M.length,w.cell? ⟨q,i*5+4,none⟩=some (T5b M[i].2):=by
 have hl:M.length=V.l.length:=by rw[<-h.is,List.length_map]
 obtain⟨hm,he⟩:=h.get hi;obtain⟨A,n,c,rfl,hh⟩:=h.row.holds (by decide) K0a;rcases h.row.2 with⟨h1,h2⟩ | ⟨q,cap,cur,h1,_,_,h3,h4,_⟩
 ·omega
 ·injection h1 with e1 e2 e3
  subst e1 e2 e3;obtain⟨b,off,e,_,hc⟩:=hh.cells (by omega);injection e with e
  injection e with e1 e2
  subst e1 e2;have hx:M[i]? = some M[i]:=List.getElem?_eq_getElem hm;have k0:=hc i _ hx 0 _ rfl;have k1:=hc i _ hx 1 _ rfl;have k2:=hc i _ hx 2 _ rfl;have k3:=hc i _ hx 3 _ rfl;have k4:=hc i _ hx 4 _ rfl;rw[Nat.zero_add] at k0 k1 k2 k3 k4;rw[he] at k0 k1 k2 k3;exact⟨q,c,by rw[<-hl],by rw[<-hl];exact h3,h4,k0,k1,k2,k3,hm,k4⟩
theorem T2a.set_ge(h:T2a w base g v V M):∀j,rvA g v M j->base<=j/\j<w.heap.size:=λj hj=>by
 rcases hj with(rfl | hj) | ⟨y,hy,b,vB,vZ,e,hj⟩
 ·exact⟨h.ge,h.blk.lt⟩
 ·exact⟨(h.row.block hj).1,h.row.lt hj⟩
 ·have hx:y.1∈V.l:=by rw[<-h.is];exact List.mem_map.2 ⟨y,hy,rfl⟩
  rcases h.ok.kind _ hx with hk | hk
  ·rw[h.dirs y hy hk] at e;cases e
  ·obtain⟨b',vB',vZ',e',d⟩:=h.files y hy hk;rw[e'] at e;injection e with e
   injection e with e1 e
   injection e with e2 e3
   subst e1 e2 e3;exact⟨d.set_ge j hj,d.set_lt j hj⟩
theorem Vok.small(h:Vok V)(hb:V.last<=1048576){x:k0a}(hx:x∈V.l):1<=x.n/\x.n<=1048576:=by have:=h.num x hx;omega
theorem C9a{L:List k0a}(hi:i<L.length)(h:L[i].n=n)(hn:∀j (hj:j<i),(L[j]'(by omega)).n≠n):C3a L n=(i:Int)/\vIx L n=i:=by
 have h2:vIx L n=i:=by unfold vIx;exact(List.findIdx_eq hi).2 ⟨by simpa using h,λj hj=>by simpa using hn j hj⟩
 unfold C3a;rw[h2,if_pos hi];exact⟨rfl,rfl⟩
end
theorem z3b{L:List k0a}{m:Int}{s:o0a}{r:List o0a}(h:z0a L m≠1):vGo L m (s::r)=(0,9):=by
 show(if z0a L m≠1 then ((0:Int),(9:Int)) else _)=_
 rw[if_pos h]
theorem A3b{L:List k0a}{m:Int}{s:o0a}{r:List o0a}(h:z0a L m=1)(hc:x0a L m s=0):vGo L m (s::r)=(0,7):=by
 show(if z0a L m≠1 then ((0:Int),(9:Int)) else if x0a L m s=0 then _ else _)=_
 rw[if_neg (λk=>k h),if_pos hc]
theorem V9b{L:List k0a}{m:Int}{s:o0a}{r:List o0a}(h:z0a L m=1)(hc:x0a L m s≠0):vGo L m (s::r)=vGo L (x0a L m s) r:=by
 show(if z0a L m≠1 then ((0:Int),(9:Int)) else if x0a L m s=0 then _ else _)=_
 rw[if_neg (λk=>k h),if_neg hc]
theorem D0b{L:List k0a}{p:o0a}(h:h0a p=0):A1a L p=vGo L 1 (m0a p):=by unfold A1a;rw[if_neg (λk=>k h)]
theorem S8a{L:List k0a}{p:o0a}(h:h0a p≠0):A1a L p=(0,h0a p):=by unfold A1a;rw[if_pos h]
theorem U5b(p:o0a):(n2a p).length<=1032/\(lastOf p).length<=128:=by
 have hn:=B2a (l:=p);have h8:=t3a p;unfold n2a lastOf;split
 ·refine⟨?_,?_⟩
  ·refine Nat.le_trans (C7a _ 128 λq hq=>S0a (hn q (List.dropLast_subset _ hq))) ?_;rw[List.length_dropLast];omega
  ·cases h:(m0a p).getLast? with
   | none=>exact Nat.zero_le _
   | some q=>exact S0a (hn q (List.mem_of_getLast? h))
 ·exact⟨Nat.zero_le _,Nat.zero_le _⟩
section
variable {w w':World} {base base' g i:Nat} {v:Value} {V:X0a} {M:List VP} {S:Nat->Prop} {n:Int}
theorem T2a.file(h:T2a w base g v V M)(hi:i<V.l.length)(hk:V.l[i].kind=2):∃(hm:i<M.length) (b:Nat) (vB vZ:Value),M[i].2=some (b,vB,vZ)/\D6a w base b vB vZ V.l[i].B V.l[i].Z:=by obtain⟨hm,he⟩:=h.get hi;obtain⟨b,vB,vZ,e,d⟩:=h.files M[i] (List.getElem_mem hm) (by rw[he];exact hk);rw[he] at d;exact⟨hm,b,vB,vZ,e,d⟩
end
section
variable {V:X0a} {L:List k0a} {n m t:Int} {ps:List o0a} {x:k0a}
theorem Way.last(h:Vok V)(hw:Way V.l n ps)(h1:n≠1):∃x qs,vAt V.l n=some x/\x.n=n/\ps=qs++[x.name]/\Way V.l x.par qs/\1<n:=by
 cases hw with
 | root=>exact absurd rfl h1
 | @step x qs a b c=>have:=h.num x (y0a a).1;exact⟨x,qs,a,rfl,rfl,c,by omega⟩
theorem Way.bel(hv:Vok V)(h:Way V.l n ps):∀f,ps.length<f->x3b V.l f n t=x3b V.l (ps.length+1) n t:=by
 induction h with
 | root=>
  intro f hf;cases f with
  | zero=>omega
  | succ f=>rfl
 | @step x ps a b c ih=>
  intro f hf;cases f with
  | zero=>omega
  | succ f=>
   have hx:=hv.num x (y0a a).1;have e:∀k,x3b V.l (k+1) x.n t=(decide (x.par=t)||x3b V.l k x.par t):=λk=>by
    show(if x.n<=1 then false else match vAt V.l x.n with | some x=>decide (x.par=t)||x3b V.l k x.par t | none=>false)=_
    rw[if_neg (by omega),a]
   rw[e,e,List.length_append,ih f (by simp at hf;omega)];rfl
theorem E2c(hv:Vok V):x3b V.l (([]:List o0a).length+1) 1 t=false:=rfl
theorem q7b(hv:Vok V)(a:vAt V.l n=some x)(h1:1<n){qs:List o0a}:x3b V.l ((qs++[x.name]).length+1) n t=(decide (x.par=t)||x3b V.l (qs.length+1) x.par t):=by
 rw[List.length_append];show(if n<=1 then false else match vAt V.l n with | some x=>decide (x.par=t)||x3b V.l (qs.length+1) x.par t | none=>false)=_
 rw[if_neg (by omega),a]
end
section
variable {P:Program} {ops:Array Oper} {md:Region.Mode} {S:World->Prop} {Q:Exit->Act->World->Prop}
theorem f0a(i:Nat)(oi:Oper){fuel:Nat}{listed:Array Bool}{a:Act}{w:World}(hr:Region.ready md ops listed=[i])(hi:ops[i]? = some oi)
(h:∀K:Act->World->Prop,(∀a' w',S w'->wpAnyH P md ops Q S fuel (listed.setIfInBounds i true) a' w'->K a' w')->if Region.wanted oi (yielded ops a.tmps)=true then oi.wp P a w K Q else K (a.put oi.dst undef) w):wpAnyH P md ops Q S (fuel+1) listed a w:=by
 refine wpAnyH_all hr (by simp) λj hj=>?_
 obtain rfl:j=i:=by simpa using hj
 have h1:=h (λa' w'=>S w'/\wpAnyH P md ops Q S fuel (listed.setIfInBounds j true) a' w') λ_ _ h2 h3=>⟨h2,h3⟩
 unfold wpOp;simp only[hi];by_cases hw:Region.wanted oi (yielded ops a.tmps)=true
 ·rw[if_pos hw] at h1⊢;exact .inl h1
 ·rw[if_neg hw] at h1⊢;exact h1
end
section
section
variable {P:Program} {w:World} {d:Nat} {xs ys:Array Value} {r:List (Bool×TypeId×Nat)} {q:Bool}
end
section
variable {P:Program} {ops:Array Oper} {S:World->Prop}
theorem b0a{op:Oper}{a:Act}(hw:Region.wanted op (yielded ops a.tmps)=true)(T:TypeId)(x:Operand)(ho:op.op=.load T x)(g i:Nat)(hx:a.eval x=.pointer (some ⟨g,i,none⟩))(v:Value)
(hS:∀w,S w->w.cell? ⟨g,i,none⟩=some v)(d:TypeDesc)(hu:P.underlying T=some d)(hd:(match d with | .struct _ | .array _ _=>true | _=>false)=false):YieldsIf P ops S op v a:=
 .inl ⟨hw,λw hw'=>by
  have hc:=hS w hw';have hagg:(isAgg T).run P w=.ok false w:=by unfold isAgg;rw[Sem.run_bind,run_underlying hu w];cases d<;>simp_all
  unfold execOp;simp[ho,hx,Instr.loadAt,Instr.sureAddr,Sem.run_bind,Result.andThen_ok,loadVar,hagg,hc]⟩
theorem i3a{op:Oper}{a:Act}(hw:Region.wanted op (yielded ops a.tmps)=true)(T:TypeId)(parts:Array (Nat×Operand))(ho:op.op=.build T parts)(cs:List Value)
(hf:P.built T (parts.map fun (i,x)=>(i,a.eval x)).toList=some cs.toArray):YieldsIf P ops S op (.agg cs.toArray) a:=
 .inl ⟨hw,λw _=>by unfold execOp;simp only[ho,Sem.run_bind,run_build w T _ _ hf,Result.andThen_ok];rfl⟩
theorem p0a{op:Oper}{a:Act}(hw:Region.wanted op (yielded ops a.tmps)=true)(x:Operand)(ho:op.op=.nilCheck x)(ad:Addr)(hx:a.eval x=.pointer (some ad)):YieldsIf P ops S op (.pointer (some ad)) a:=
 .inl ⟨hw,λw _=>by unfold execOp;simp[ho,hx]⟩
theorem a0a{op:Oper}{a:Act}(hw:Region.wanted op (yielded ops a.tmps)=true)(x:Operand)(ho:op.op=.move x)(v:Value)(hx:a.eval x=v):YieldsIf P ops S op v a:=
 .inl ⟨hw,λw _=>by unfold execOp;simp[ho,hx]⟩
theorem T3a{op:Oper}{a:Act}(hw:Region.wanted op (yielded ops a.tmps)=true)(x:Operand)(ho:op.op=.assign x)(v:Value)(hx:a.eval x=v):YieldsIf P ops S op v a:=
 .inl ⟨hw,λw _=>by unfold execOp;simp[ho,hx]⟩
theorem e0a{op:Oper}{a:Act}(hw:Region.wanted op (yielded ops a.tmps)=true)(T:TypeId)(x:Operand)(i:Nat)(ho:op.op=.fieldAddr T x i)(u v:Value)(hx:a.eval x=u)(hf:∀w,(Instr.fieldAt T u i).run P w=.ok v w):YieldsIf P ops S op v a:=
 .inl ⟨hw,λw _=>by unfold execOp;simp only[ho,hx,Sem.run_bind,hf,Result.andThen_ok];rfl⟩
end
end
section
variable {P:Program} {ops:Array Oper} {o:Oper} {a:Act} {w:World} {Q:Exit->Act->World->Prop} {K:Act->World->Prop} {E:Prop}
theorem H5a(hg:o.guard=none)(T:TypeId)(x y:Operand)(ho:o.op=.store T x y)(g:Nat)(hx:a.eval x=.pointer (some ⟨g,0,none⟩))(T':TypeId)(cs ds:List Value)(hy:a.eval y=.agg ds.toArray)
(hA:Hid (Blk w g T' cs))(n:Nat)(hi:(P.info? T).map (·.size)=some n)(hn:Hid (cs.length=n))(hm:Hid (ds.length=n))(h1:Hid (∀v∈ds,v.oneCell'=true))
(h:∀w',Hid (Blk w' g T' ds)->Hid (S1a g w w')->g<w'.heap.size->K (a.put o.dst undef) w') :
  if Region.wanted o (yielded ops a.tmps)=true then Oper.wp P o a w K Q else E:=by
 have hw:Region.wanted o (yielded ops a.tmps)=true:=by simp[Region.wanted,hg]
 rw[if_pos hw];refine wp_store_row T x y ho g _ hx hy T' _ hA.out (by rw[hi];have:=hm.out;simp[this]) (by have:=hm.out;have:=hn.out;simp_all) (all_oneCell_toArray h1.out) (h _ ?_ ((S1a.refl g w).setRow _) (by rw[size_setRow];exact hA.out.lt));exact setRow_heap w g _ _ T' (0,0) hA.out
end
theorem T2a.node{w:World}{base g:Nat}{v:Value}{V:X0a}{M:List VP}(d:T2a w base g v V M){m:Int}(hi:vIx V.l m<V.l.length)(p:vAt V.l m=some (V.l[vIx V.l m]'hi)):∃ps,Way V.l m ps/\ps.length<=8:=by have h1:=y0a p;obtain⟨ps,hw,h8⟩:=d.ok.way _ h1.1;rw[h1.2] at hw;exact⟨ps,hw,h8⟩
section
variable {P:Program} {ops:Array Oper} {md:Region.Mode} {S:World->Prop} {Q:Exit->Act->World->Prop} {k:Nat}
def K2a(P:Program)(md:Region.Mode)(ops:Array Oper)(Q:Exit->Act->World->Prop)(S:World->Prop)(k:Nat):Nat->Array Bool->Act->World->Prop
 | 0,listed,a,w=>Region.ready md ops listed=[]/\Q .normal a w
 | fuel+1,listed,a,w=>
  (Region.ready md ops listed=[]->Q .normal a w)/\
  ∀i∈Region.ready md ops listed,wpOp P ops Q i (λa' w'=>((listed.setIfInBounds i true).getD k false=false->S w')/\K2a P md ops Q S k fuel (listed.setIfInBounds i true) a' w') a w
theorem D9a:∀(fuel:Nat) (listed:Array Bool) (a:Act) (w:World),K2a P md ops Q S k fuel listed a w->wpAny P md ops Q fuel listed a w
 | 0,_,_,_,h=>h
 | fuel+1,_,_,_,h=>⟨h.1,λi hi=>wpOp_mono (λa' w' h'=>D9a fuel _ a' w' h'.2) (h.2 i hi)⟩
theorem A4b{i:Nat}{oi ok:Oper}{v:Value}(hi:ops[i]? = some oi)(hsel:∀(j:Nat) (o:Oper) cs b,ops[j]? = some o->o.op≠.select cs b)
(hQ:∀c a w,Q (.panic c) (a.put oi.dst v) w->Q (.panic c) a w)(hk:ops[k]? = some ok)(hke:ok.after.any (λe=>Region.binds md e&&e.on==i)=true) :
  ∀(fuel:Nat) (listed:Array Bool) (a:Act) (w:World),
   (∀j oj,ops[j]? = some oj->j≠i->listed.getD j true=false->(∀e∈oj.after,Region.binds md e=true->e.on≠i)->oi.apart ops oj=true)->
   i∈Region.ready md ops listed->YieldsIf P ops S oi v a->S w->listed.getD k false=false->i≠k->
   K2a P md ops Q S k fuel (listed.setIfInBounds i true) (a.put oi.dst v) w->K2a P md ops Q S k (fuel+1) listed a w:=by
 intro fuel
 induction fuel with
 | zero=>
  intro listed a w _ hr hy hS _ _ H;refine⟨λh=>(by rw[h] at hr;cases hr),λj hj=>?_⟩;by_cases hji:j=i
  ·subst hji;exact hy.wpOp hi hS ⟨λ_=>hS,H⟩
  ·have:=ready_mono hj hji;rw[H.1] at this;cases this
 | succ fuel ih=>
  intro listed a w hfree hr hy hS hkl hik H;refine⟨λh=>(by rw[h] at hr;cases hr),λj hj=>?_⟩;by_cases hji:j=i
  ·subst hji;exact hy.wpOp hi hS ⟨λ_=>hS,H⟩
  ·have h1:=H.2 j (ready_mono hj hji);obtain⟨hjun,oj,hoj,hall⟩:=mem_ready.1 hj;have hnot:∀e∈oj.after,Region.binds md e=true->e.on≠i:=λe he hb heq=>by
    have h1:=hall e he hb;have h0:=(mem_ready.1 hr).1;rw[heq] at h1;rcases Nat.lt_or_ge i listed.size with h' | h'
    ·simp[h'] at h0 h1;rw[h0] at h1;cases h1
    ·simp[Array.getElem?_eq_none h'] at h1
   have hjk:j≠k:=by
    rintro rfl;rw[hk] at hoj;injection hoj with hoj
    subst hoj;obtain⟨e,he,hb⟩:=Array.any_eq_true'.1 hke;simp only[Bool.and_eq_true,beq_iff_eq] at hb;exact hnot e he hb.1 hb.2
   have h2:=wpOp_putIf hoj (hfree j oj hoj hji hjun hnot) (λcs b=>hsel i oi cs b hi) (λcs b=>hsel j oj cs b hoj) hQ hy h1;have hfree':∀k ok,ops[k]? = some ok->k≠i->(listed.setIfInBounds j true).getD k true=false->
     (∀e∈ok.after,Region.binds md e=true->e.on≠i)->oi.apart ops ok=true:=λk ok hk hki hun hno=>by
    refine hfree k ok hk hki ?_ hno;by_cases hjk:j=k
    ·subst hjk;exact hjun
    ·rw[getD_set_ne true hjk] at hun;exact hun
   refine wpOp_mono (λa' w' h3=>?_) h2;have hSw:S w':=h3.2.1 (by rw[getD_set_ne false hjk,getD_set_ne false hik];exact hkl);refine⟨λ_=>hSw,ih (listed.setIfInBounds j true) a' w' hfree' (ready_mono hr (Ne.symm hji)) h3.1 hSw (by rw[getD_set_ne false hjk];exact hkl) hik ?_⟩;rw[Array.setIfInBounds_comm _ _ hji];exact h3.2.2
theorem c0a{i:Nat}{oi ok:Oper}{v:Value}{fuel:Nat}{listed:Array Bool}{a:Act}{w:World}(hi:ops[i]? = some oi)
(hs:Region.noSelect ops=true)(hf:Region.free md ops listed i=true)(hr:(Region.ready md ops listed).contains i=true)
(hQ:∀c a w,Q (.panic c) (a.put oi.dst v) w->Q (.panic c) a w)(hk:ops[k]? = some ok)(hke:ok.after.any (λe=>Region.binds md e&&e.on==i)=true)(hkl:listed.getD k false=false)(hik:i≠k)
(hy:YieldsIf P ops S oi v a)(hS:S w)
(h:K2a P md ops Q S k fuel (listed.setIfInBounds i true) (a.put oi.dst v) w):K2a P md ops Q S k (fuel+1) listed a w:=A4b hi (Region.noSelect_spec hs) hQ hk hke fuel listed a w (Region.free_spec hi hf) (by simpa using hr) hy hS hkl hik h
theorem n0a(i:Nat)(oi:Oper){fuel:Nat}{listed:Array Bool}{a:Act}{w:World}(hr:Region.ready md ops listed=[i])(hi:ops[i]? = some oi)
(h:∀K:Act->World->Prop,(∀a' w',((listed.setIfInBounds i true).getD k false=false->S w')->K2a P md ops Q S k fuel (listed.setIfInBounds i true) a' w'->K a' w')->if Region.wanted oi (yielded ops a.tmps)=true then oi.wp P a w K Q else K (a.put oi.dst undef) w):K2a P md ops Q S k (fuel+1) listed a w:=by
 refine⟨λh0=>(by rw[h0] at hr;cases hr),λj hj=>?_⟩;rw[hr] at hj;obtain rfl:j=i:=by simpa using hj
 have h1:=h (λa' w'=>((listed.setIfInBounds j true).getD k false=false->S w')/\K2a P md ops Q S k fuel (listed.setIfInBounds j true) a' w') λ_ _ h2 h3=>⟨h2,h3⟩
 unfold wpOp;simp only[hi];by_cases hw:Region.wanted oi (yielded ops a.tmps)=true
 ·rw[if_pos hw] at h1⊢;exact .inl h1
 ·rw[if_neg hw] at h1⊢;exact h1
theorem K1a{listed:Array Bool}{a:Act}{w:World}(hr:Region.ready md ops listed=[])(h:Q .normal a w) :
  ∀fuel,K2a P md ops Q S k fuel listed a w
 | 0=>⟨hr,h⟩
 | _+1=>⟨λ_=>h,by rw[hr];simp⟩
theorem Q1a{fuel:Nat}{listed:Array Bool}{a:Act}{w:World}(h:∀a',a'=a->K2a P md ops Q S k fuel listed a' w):K2a P md ops Q S k fuel listed a w:=h a rfl
theorem m1a{id:Nat}{a:Act}{w:World}(k:Nat)(S:World->Prop)(hm:P.follows .mixedOrders=true)
(h:K2a P .any ops Q S k ops.size (Array.replicate ops.size false) a { w with drawn:=w.drawn+1 }):(Code.region id ops true).wp P Q a w:=wp_region_any hm (D9a _ _ _ _ h)
end
theorem World.setCells_only(g:Nat):∀(vs:List Value) (o:Nat) (w:World),S1a g w (w.setCells g o vs)
 | [],_,w=>S1a.refl g w
 | v::r,o,w=>by have h1:=r3a w g o v;have h2:=World.setCells_only g r (o+1) (w.setCell ⟨g,o,none⟩ v);exact⟨h2.os.trans h1.os,h2.tape.trans h1.tape,h2.output.trans h1.output,h2.size.trans h1.size,λi hi=>(h2.rest i hi).trans (h1.rest i hi)⟩
theorem Blk.setCells{g:Nat}{T:TypeId}:∀(vs:List Value) (o:Nat) (w:World) (cs:List Value),Blk w g T cs->o+vs.length<=cs.length->Blk (w.setCells g o vs) g T (cs.take o++(vs++cs.drop (o+vs.length)))
 | [],o,w,cs,h,_=>by
  show Blk w g T _
  rw[List.nil_append,List.length_nil,Nat.add_zero,List.take_append_drop];exact h
 | v::r,o,w,cs,h,hl=>by
  have hl':o+1+r.length<=cs.length:=by simp at hl;omega
  have h1:=h.set o v;have h2:=Blk.setCells r (o+1) _ _ h1 (by rw[List.length_set];exact hl');have e:(cs.set o v).take (o+1)++(r++(cs.set o v).drop (o+1+r.length))=cs.take o++((v::r)++cs.drop (o+(v::r).length)):=by
   have ho:o<cs.length:=by omega
   have e1:(cs.set o v).take (o+1)=cs.take o++[v]:=by rw[List.take_succ_eq_append_getElem (by rw[List.length_set];exact ho),List.take_set_of_le (Nat.le_refl o)];simp
   have e2:(cs.set o v).drop (o+1+r.length)=cs.drop (o+(v::r).length):=by
    rw[List.drop_set_of_lt (by omega),List.length_cons]
    congr 1
    omega
   rw[e1,e2];simp
  rw[e] at h2;exact h2
section
variable {P:Program} {ops:Array Oper} {rest:List Oper} {o:Oper} {a:Act} {w:World} {Q:Exit->Act->World->Prop}
theorem B4b{g:Nat}{T:TypeId}{cs:List Value}(h:Blk w g T cs)(i n:Nat)(hn:i+n<=cs.length):w.there g i n:=λj hj=>by
 refine⟨?_,h.frozen _⟩;rw[h.cell];have:i+j<cs.length:=by omega
 simp[this]
theorem E9a(hgd:o.guard=none)(ty:TypeId)(x y:Operand)(ho:o.op=.store ty x y)(g i:Nat)(hx:a.eval x=.pointer (some ⟨g,i,none⟩))(T:TypeId)(cs vs:List Value)(hy:a.eval y=.agg vs.toArray)
(hA:Hid (Blk w g T cs))(n:Nat)(hi:(P.info? ty).map (·.size)=some n)(hn:Hid (vs.length=n))(hl:Hid (i+n<=cs.length))(h1:Hid (∀v∈vs,v.oneCell'=true))
(h:∀w',Hid (Blk w' g T (cs.take i++(vs++cs.drop (i+n))))->Hid (S1a g w w')->g<w'.heap.size->wpList P ops Q rest a w')(hd:o.dst=none:=by rfl):wpList P ops Q (o::rest) a w:=by
 have hp:a.put o.dst undef=a:=by rw[hd];rfl
 have hnn:=hn.out;refine wpList_store_mid hgd ty x y ho g i vs.toArray hx hy (B4b hA.out i _ (by have:=hl.out;simp;omega)) (by rw[hi];simp[hnn]) (all_oneCell_toArray h1.out) ?_;rw[hp];have hb:=Blk.setCells vs i w cs hA.out (by have:=hl.out;omega);rw[hnn] at hb;have hO:=World.setCells_only g vs i w;refine h _ hb hO ?_;have:=hO.size;rw[show(w.setCells g i vs.toArray.toList)=w.setCells g i vs from rfl,this];exact hA.out.lt
theorem X6a{K:Act->World->Prop}{E:Prop}(hg:o.guard=none)(ty:TypeId)(x y:Operand)(ho:o.op=.store ty x y)(g i:Nat)(hx:a.eval x=.pointer (some ⟨g,i,none⟩))(T:TypeId)(cs vs:List Value)(hy:a.eval y=.agg vs.toArray)
(hA:Hid (Blk w g T cs))(n:Nat)(hi:(P.info? ty).map (·.size)=some n)(hn:Hid (vs.length=n))(hl:Hid (i+n<=cs.length))(h1:Hid (∀v∈vs,v.oneCell'=true))
(h:∀w',Hid (Blk w' g T (cs.take i++(vs++cs.drop (i+n))))->Hid (S1a g w w')->g<w'.heap.size->K (a.put o.dst undef) w') :
  if Region.wanted o (yielded ops a.tmps)=true then Oper.wp P o a w K Q else E:=by
 have hw:Region.wanted o (yielded ops a.tmps)=true:=by simp[Region.wanted,hg]
 rw[if_pos hw];have hnn:=hn.out;refine wp_store_mid ty x y ho g i vs.toArray hx hy (B4b hA.out i _ (by have:=hl.out;simp;omega)) (by rw[hi];simp[hnn]) (all_oneCell_toArray h1.out) ?_;have hb:=Blk.setCells vs i w cs hA.out (by have:=hl.out;omega);rw[hnn] at hb;have hO:=World.setCells_only g vs i w;refine h _ hb hO ?_;have:=hO.size;rw[show(w.setCells g i vs.toArray.toList)=w.setCells g i vs from rfl,this];exact hA.out.lt
theorem B1a{K:Act->World->Prop}{E:Prop}(hg:o.guard=none)(T:TypeId)(x y:Operand)(ho:o.op=.store T x y)(g i:Nat)(hx:a.eval x=.pointer (some ⟨g,i,none⟩))(T':TypeId)(cs:List Value)(u:Value)(hy:a.eval y=u)
(hA:Hid (Blk w g T' cs))(hi:Hid (i<cs.length))(hs:(P.info? T).map (·.size)=some 1)(h1:u.oneCell'=true)
(h:∀w',Hid (Blk w' g T' (cs.set i u))->Hid (S1a g w w')->g<w'.heap.size->K (a.put o.dst undef) w') :
  if Region.wanted o (yielded ops a.tmps)=true then Oper.wp P o a w K Q else E:=by
 have hw:Region.wanted o (yielded ops a.tmps)=true:=by simp[Region.wanted,hg]
 rw[if_pos hw];unfold Oper.wp execOp;simp only[ho,hx,hy,Instr.storeAt,Instr.sureAddr,Sem.run_bind,Sem.run_pure,Result.andThen_ok,J3a w g i T' T cs u hA.out hi.out hs h1];refine h _ (hA.out.set i u) (r3a w g i u) ?_;have:=(r3a w g i u).size;rw[this];exact hA.out.lt
end
section
variable {P:Program} {ops:Array Oper} {o:Oper} {a:Act} {w:World} {Q:Exit->Act->World->Prop} {K:Act->World->Prop} {E:Prop}
end
def B3b(w:World)(j:Nat)(T:TypeId):Prop:=∃c,w.heap[j]? = some (.cells c T (0,0))
section
variable {w w':World} {base g j:Nat} {v v':Value} {V V':X0a} {M M':List VP} {T T':TypeId}
theorem B3b.same(h:B3b w j T)(k:B3b w j T'):T=T':=by obtain⟨c,h⟩:=h;obtain⟨c',k⟩:=k;rw[h] at k;simp only[Option.some.injEq,Obj.cells.injEq] at k;exact k.2.1
theorem Blk.typ{cs:List Value}(h:Blk w g T cs):B3b w g T:=⟨_,h⟩
theorem D6a.typ{b:Nat}{vB vZ:Value}{B:List Int}{Z:List Bool}(h:D6a w base b vB vZ B Z):∀j,rdS b vB vZ j->B3b w j 104∨B3b w j 5∨B3b w j 4:=λj hj=>by
 rcases hj with rfl | hj | hj
 ·exact .inl h.blk.typ
 ·exact .inr (.inl (h.rowB.block hj).2)
 ·exact .inr (.inr (h.rowZ.block hj).2)
theorem T2a.typ(h:T2a w base g v V M):∀j,rvS g v j->B3b w j 101∨B3b w j 98:=λj hj=>by
 rcases hj with rfl | hj
 ·exact .inl h.blk.typ
 ·exact .inr (h.row.block hj).2
theorem T2a.off(h:T2a w base g v V M){b:Nat}{vB vZ:Value}{B:List Int}{Z:List Bool}(d:D6a w base b vB vZ B Z):∀j,rdS b vB vZ j->¬rvS g v j:=λj h1 h2=>by rcases d.typ j h1 with k | k | k<;>rcases h.typ j h2 with l | l<;>exact absurd (k.same l) (by decide)
theorem T2a.own_ne(h:T2a w base g v V M):v.ownBlock≠some g:=λe=>absurd (h.blk.typ.same (h.row.block e).2) (by decide)
def u1a(w:World)(base g:Nat)(v:Value)(M:List VP)(V':X0a)(w':World):Prop:=∃v' M',T2a w' base g v' V' M'/\g0a (rvA g v M) w w'/\∀j,rvA g v' M' j->rvA g v M j∨w.heap.size<=j
theorem T2a.turned(h:T2a w base g v V M)(a:g0a (rvS g v) w w')(hB:Blk w' g 101 [.int .i64 V'.quota,.int .i64 V'.last,v'])(hO:j1a C0a 5 98 w' base v' M')(hw:Z0a w v v')(his:M'.map (·.1)=V'.l)
(hM:∀y∈M',(∃z∈M,y.2=z.2/\y.1.kind=z.1.kind/\y.1.B=z.1.B/\y.1.Z=z.1.Z)∨(y.1.kind=1/\y.2=none)∨(y.1.kind=2/\∃b vB vZ,y.2=some (b,vB,vZ)/\D6a w' base b vB vZ y.1.B y.1.Z/\∀j,rdS b vB vZ j->w.heap.size<=j))
(ok:Vok V')(big:V'.last<=1048576):u1a w base g v M V' w':=by
 refine⟨v',M',⟨h.ge,hB,hO,his,?_,?_,ok,big⟩,a.mono λj _ hj=>.inl hj,?_⟩
 ·intro y hy hk;rcases hM y hy with⟨z,hz,e1,e2,_⟩ | ⟨_,e⟩ | ⟨e,_⟩
  ·rw[e1];exact h.dirs z hz (e2▸hk)
  ·exact e
  ·rw[e] at hk;cases hk
 ·intro y hy hk;rcases hM y hy with⟨z,hz,e1,e2,e3,e4⟩ | ⟨e,_⟩ | ⟨_,b,vB,vZ,e,d,_⟩
  ·obtain⟨b,vB,vZ,e,d⟩:=h.files z hz (e2▸hk);exact⟨b,vB,vZ,e1.trans e,by rw[e3,e4];exact d.spare a λj hj=>h.off d j hj⟩
  ·rw[e] at hk;cases hk
  ·exact⟨b,vB,vZ,e,d⟩
 ·intro j hj;rcases hj with(rfl | hj) | ⟨y,hy,b,vB,vZ,e,hj⟩
  ·exact .inl (.inl (.inl rfl))
  ·rcases hw j hj with h1 | h1
   ·exact .inl (.inl (.inr h1))
   ·exact .inr h1
  ·rcases hM y hy with⟨z,hz,e1,_⟩ | ⟨_,e1⟩ | ⟨_,b',vB',vZ',e1,_,hn⟩
   ·exact .inl (.inr ⟨z,hz,b,vB,vZ,e1▸e,hj⟩)
   ·rw[e1] at e;cases e
   ·rw[e1] at e;injection e with e
    injection e with e2 e
    injection e with e3 e4
    subst e2 e3 e4;exact .inr (hn j hj)
end
section
variable {α:Type} {f:α->List Value} {s:Nat} {w:World} {B b:Nat} {A:Option Addr} {n c m:Nat} {xs:List α}
end
theorem u1a.ahead{w w2 w3:World}{base g:Nat}{v:Value}{M:List VP}{V':X0a}(hb:Below w.heap.size w w2)(h:u1a w2 base g v M V' w3):u1a w base g v M V' w3:=by obtain⟨v',M',h1,h2,h3⟩:=h;exact⟨v',M',h1,(g0a.of_over (rvA g v M) hb).trans h2 (λ_ _ h=>h),λj hj=>(h3 j hj).imp id λh=>Nat.le_trans hb.size h⟩
theorem u1a.next{w w2 w3:World}{base g:Nat}{v v2:Value}{M M2:List VP}{V' V2:X0a}(h:T2a w base g v V2 M)(h2:g0a (rvA g v M) w w2)(h3:∀j,rvA g v2 M2 j->rvA g v M j∨w.heap.size<=j)(k:u1a w2 base g v2 M2 V' w3):u1a w base g v M V' w3:=by
 obtain⟨v',M',k1,k2,k3⟩:=k;refine⟨v',M',k1,h2.trans k2 (λj hj hr=>(h3 j hr).resolve_right (by omega)),λj hj=>?_⟩;rcases k3 j hj with q | q
 ·exact h3 j q
 ·exact .inr (Nat.le_trans h2.size q)
end Go.Proofs.YtdgpbhdihhchgaaGreatDoor
