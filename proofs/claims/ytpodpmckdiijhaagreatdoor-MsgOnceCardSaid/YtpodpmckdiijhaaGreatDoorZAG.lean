import Derived.Test.YtpodpmckdiijhaaGreatDoorZAF
import Derived.Test.YtpodpmckdiijhaaGreatDoorS0
set_option linter.all false
set_option maxHeartbeats 8000000
set_option maxRecDepth 100000
namespace Go.Proofs.YtpodpmckdiijhaaGreatDoor
open Go.RowKit
set_option maxRecDepth 100000
theorem le1(x:Int)(h0:0<=x)(h1:x<=255):le x 1=[x]:=by
 show[x%256]=[x]
 rw[Int.emod_eq_of_lt h0 (by omega)]
def G5a(w:World)(c:Int)(a:z1a)(e:Ending)(w':World):Prop:=∃v,e=.returned (.tuple #[v,.int .i64 (r7a c a)])/\P0a .u8 5 w' w.heap.size v (e4b c a)/\Below w.heap.size w w'
theorem x4b(w:World)(c:Int)(cs:List Value)(a:z1a)(hc:0<=c/\c<=65535)(ka:a.ok)(ha:j1a w w.heap.size cs a)(hu:a.user.size<=17592186044416/\a.share.size<=17592186044416)(hnm:a.name.size<=17592186044416)(hn:a.locks.length<=4398046511104)(hT:K7a w) :
  Calls Tryz.prog 107 #[.int .u16 c,.agg cs.toArray] w (G5a w c a):=by
 have HL:=hI (ha.len ka);have HT:=hI hT;have HA:=hI ha;have CN:Hid (∀w',Below w.heap.size w w'->Calls Tryz.prog 151 #[.int .u16 c,.agg cs.toArray] w' λe w2=>e=.returned (.bool (q7a c a))/\Below w'.heap.size w' w2):=λw' hb=>i1b w' c cs a hc ka (HA.out.over hb) hu hn (HT.out.below hb)
 obtain⟨A1,A2,A3,X1,X2,X3,M1,M2,M3,hcs,hA,hX,hM⟩:=ha;have FL:Hid (∀(w:World) (g:Nat),Blk w g 34 cs->w.cell? ⟨g,61,none⟩=some (.slice X1 X2 X3)/\w.cell? ⟨g,62,none⟩=some (.slice M1 M2 M3)):=λw g h=>by rw[hcs] at h;exact⟨h.at (r0a ka 12),h.at (r0a ka 13)⟩
 have hxl:a.data.length=X2:=hX.len;have hml:a.locks.length=M2:=hM.len;have hxr:=hX.room;have HE:Hid (∀er,r7a c a=er->er≠0->∀v e w',e=.returned (.tuple #[v,.int .i64 er])->v=.slice none 0 0->Below w.heap.size w w'->G5a w c a e w'):=by intro er h1 h2 v e w' he hv hb;unfold G5a e4b;rw[h1,if_neg h2];exact⟨_,he,by rw[hv];exact P0a.nil _ _ _ _,hb⟩
 by_cases hnf:q7a c a=true;rotate_left
 ·have hnb:q7a c a=false:=by simpa using hnf
  have HQ:=hI (HE.out 2 (by unfold r7a;rw[if_neg hnf]) (by decide));rw[hnb] at CN;clear hnf hnb HE hA hX hM ka HA hcs hxl hml;go_enter Tryz.func107,Tryz.ntmps107;go_wp2_with(first
   | ((with_reducible refine sN 3 ?_);refine g0a rfl _ (.tmp 1) rfl cs rfl ?_;intro g w1 hg1 hg2 K1 L1)
   | ((with_reducible refine sN 11 ?_);refine f0a rfl _ (.tmp 3) rfl g rfl _ cs K1 69 _ Tryz.underlying34 rfl p0a HL ?_)
   | fail)
  refine(CN.out w1 L1.out).mono ?_;rintro e w2 ⟨rfl,L2⟩;have K2:=hI (K1.out.over L2);have M2':=hI (step L1.out L2);obtain⟨c61,c62⟩:=FL.out w2 g K2.out;clear L2 K1 L1 CN;go_wp2;go_ret2;exact HQ.out _ _ _ rfl rfl M2'.out
 by_cases hlim:X2<=32768/\M2<=16;rotate_left
 ·have HQ:=hI (HE.out 3 (by unfold r7a;rw[if_pos hnf,hxl,hml,if_neg hlim]) (by decide));rw[hnf] at CN;clear hnf HE hA hX hM ka HA hcs hxl hml;by_cases hx3:X2<=32768
  ·have hm3:¬M2<=16:=λh=>hlim ⟨hx3,h⟩
   clear hlim;go_enter Tryz.func107,Tryz.ntmps107;go_wp2_with(first
    | ((with_reducible refine sN 3 ?_);refine g0a rfl _ (.tmp 1) rfl cs rfl ?_;intro g w1 hg1 hg2 K1 L1)
    | ((with_reducible refine sN 11 ?_);refine f0a rfl _ (.tmp 3) rfl g rfl _ cs K1 69 _ Tryz.underlying34 rfl p0a HL ?_)
    | fail)
   refine(CN.out w1 L1.out).mono ?_;rintro e w2 ⟨rfl,L2⟩;have K2:=hI (K1.out.over L2);have M2':=hI (step L1.out L2);obtain⟨c61,c62⟩:=FL.out w2 g K2.out;clear L2 K1 L1 CN;go_wp2;go_ret2;exact HQ.out _ _ _ rfl rfl M2'.out
  ·clear hlim;go_enter Tryz.func107,Tryz.ntmps107;go_wp2_with(first
    | ((with_reducible refine sN 3 ?_);refine g0a rfl _ (.tmp 1) rfl cs rfl ?_;intro g w1 hg1 hg2 K1 L1)
    | ((with_reducible refine sN 11 ?_);refine f0a rfl _ (.tmp 3) rfl g rfl _ cs K1 69 _ Tryz.underlying34 rfl p0a HL ?_)
    | fail)
   refine(CN.out w1 L1.out).mono ?_;rintro e w2 ⟨rfl,L2⟩;have K2:=hI (K1.out.over L2);have M2':=hI (step L1.out L2);obtain⟨c61,c62⟩:=FL.out w2 g K2.out;clear L2 K1 L1 CN;go_wp2;go_ret2;exact HQ.out _ _ _ rfl rfl M2'.out
 obtain⟨hx3,hm3⟩:=hlim;rw[hnf] at CN;have hk:I2a c=true:=by
  unfold q7a at hnf;cases h:I2a c
  ·rw[h,Bool.false_and] at hnf;exact absurd hnf (by decide)
  ·rfl
 have hcc:c=5∨c=6∨c=7∨c=8∨c=9∨c=10:=by unfold I2a at hk;simp at hk;omega
 have HOK:Hid (r7a c a=if c=5 then B0a a.name.data.toList else 0):=by
  show _=_
  unfold r7a;rw[if_pos hnf,hxl,hml,if_pos ⟨hx3,hm3⟩]
 have HQ0:Hid (r7a c a=0->∀v e w',e=.returned (.tuple #[v,.int .i64 0])->P0a .u8 5 w' w.heap.size v (e8a c a)->Below w.heap.size w w'->G5a w c a e w'):=by intro h v e w' he hv hb;unfold G5a e4b;rw[h,if_pos rfl];exact⟨_,he,hv,hb⟩
 have b_acc:=ka.acc;obtain⟨l_acc,u_acc⟩:=b_acc;have b_shr:=ka.shr;obtain⟨l_shr,u_shr⟩:=b_shr;have b_way:=ka.way;obtain⟨l_way,u_way⟩:=b_way;have b_opt:=ka.opt;obtain⟨l_opt,u_opt⟩:=b_opt;have b_lev:=ka.lev;obtain⟨l_lev,u_lev⟩:=b_lev;have b_dur:=ka.dur;obtain⟨l_dur,u_dur⟩:=b_dur;have b_file:=ka.file;obtain⟨l_file,u_file⟩:=b_file;have b_at_:=ka.at_;obtain⟨l_at_,u_at_⟩:=b_at_;have b_n:=ka.n;obtain⟨l_n,u_n⟩:=b_n;have z_acc:IntKind.u64.wrap a.acc=a.acc:=by rw[IntKind.wrap_u64];omega
 have z_shr:IntKind.u64.wrap a.shr=a.shr:=by rw[IntKind.wrap_u64];omega
 have z_way:IntKind.u64.wrap a.way=a.way:=by rw[IntKind.wrap_u64];omega
 have z_opt:IntKind.u64.wrap a.opt=a.opt:=by rw[IntKind.wrap_u64];omega
 have z_n:IntKind.u64.wrap a.n=a.n:=by rw[IntKind.wrap_u64];omega
 have z_x:IntKind.u64.wrap (X2:Int)=(X2:Int):=by rw[IntKind.wrap_u64];omega
 have FC:Hid (∀(w:World) (g:Nat),Blk w g 34 cs->w.cell? ⟨g,51,none⟩=some (.int .u32 a.acc)/\w.cell? ⟨g,52,none⟩=some (.int .u32 a.shr)/\w.cell? ⟨g,53,none⟩=some (.int .u32 a.way)/\w.cell? ⟨g,54,none⟩=some (.int .u32 a.opt)/\w.cell? ⟨g,55,none⟩=some (.int .u8 a.lev)/\w.cell? ⟨g,56,none⟩=some (.int .u8 a.dur)/\w.cell? ⟨g,57,none⟩=some (.int .u64 a.file)/\w.cell? ⟨g,58,none⟩=some (.string a.name)/\w.cell? ⟨g,59,none⟩=some (.int .u64 a.at_)/\w.cell? ⟨g,60,none⟩=some (.int .u32 a.n)):=λw g h=>by rw[hcs] at h;exact⟨h.at (r0a ka 2),h.at (r0a ka 3),h.at (r0a ka 4),h.at (r0a ka 5),h.at (r0a ka 6),h.at (r0a ka 7),h.at (r0a ka 8),h.at (r0a ka 9),h.at (r0a ka 10),h.at (r0a ka 11)⟩
 have CC:Hid (∀(w:World) (gs m:Nat) (A:Nat->Option Addr) (n c:Nat->Nat) (X:Nat->List Int),f1a w gs m A n c X->m<=1000->q1b n m<=140737488355328->Calls Tryz.prog 35 #[.slice (some ⟨gs,0,none⟩) m m] w λe w'=>∃v,e=.returned v/\P0a .u8 5 w' w.heap.size v (Q3a X m)/\Below w.heap.size w w'):=R2a;have CF8:Hid (∀(w:World) (gl:Nat),Blk w gl 25 [.int .u64 a.file]->Calls Tryz.prog 152 #[.int .i64 8,.slice (some ⟨gl,0,none⟩) 1 1] w λe w'=>∃A' c',e=.returned (.slice A' 8 c')/\(P0a .u8 5 w' w.heap.size (.slice A' 8 c') (le a.file 8)/\Holds w' w'.heap.size A' 8 c' (le a.file 8))/\Below w.heap.size w w'):=λw gl hB=>by
  have h:=Y3a w gl 1 8 ([a.file]:List Int) hB rfl (by decide) (by decide) (λz hz=>by rw[show(256:Int)^8=18446744073709551616 from by decide];simp only[List.mem_cons,List.not_mem_nil,or_false] at hz;rw[hz];omega)
  have e1:l2a 8 ([a.file]:List Int)=le a.file 8:=by simp[l2a]
  rw[e1] at h;have e2:(le a.file 8).length=8:=by simp[w0a]
  rw[e2] at h;exact h
 have HX:=hI hX;have HM:=hI hM;clear HE hA hX hM HA hcs hnf hxl hml hk;rcases hcc with h5 | h6 | h7 | h8 | h9 | h10
 ·subst h5;rw[if_pos rfl] at HOK;have CT:Hid (∀w',Below w.heap.size w w'->Calls Tryz.prog 141 #[.string a.name] w' λe w2=>(∃v,e=.returned (.tuple #[v,.int .i64 (B0a a.name.data.toList)])/\P0a .u8 5 w2 w'.heap.size v (N0a a.name.data.toList))/\Below w'.heap.size w' w2):=λw' hb=>(V4a a.name w' hnm (HT.out.below hb)).mono λe w2 ⟨v,h1,h2,h3⟩=>⟨⟨v,h1,h2⟩,h3⟩
  by_cases hp:B0a a.name.data.toList=0;rotate_left
  ·have HQ:Hid (∀e w',e=.returned (.tuple #[.slice none 0 0,.int .i64 (B0a a.name.data.toList)])->Below w.heap.size w w'->G5a w 5 a e w'):=by intro e w' he hb;unfold G5a e4b;rw[HOK.out,if_neg hp];exact⟨_,he,P0a.nil _ _ _ _,hb⟩
   obtain⟨er,her⟩:∃x,x=B0a a.name.data.toList:=⟨_,rfl⟩;rw[<-her] at CT HQ hp;have hne:(er != 0)=true:=by simpa using hp
   clear her hp HOK HQ0;go_enter Tryz.func107,Tryz.ntmps107;go_wp2_with(first
    | ((with_reducible refine sN 3 ?_);refine g0a rfl _ (.tmp 1) rfl cs rfl ?_;intro g w1 hg1 hg2 K1 L1)
    | ((with_reducible refine sN 11 ?_);refine f0a rfl _ (.tmp 3) rfl g rfl _ cs K1 69 _ Tryz.underlying34 rfl p0a HL ?_)
    | fail)
   refine(CN.out w1 L1.out).mono ?_;rintro e w2 ⟨rfl,L2⟩;have K2:=hI (K1.out.over L2);have M2':=hI (step L1.out L2);obtain⟨c61,c62⟩:=FL.out w2 g K2.out;clear L2 K1 L1 CN;obtain⟨c51,c52,c53,c54,c55,c56,c57,c58,c59,c60⟩:=FC.out w2 g K2.out;go_wp2_with(first
    | ((with_reducible refine sN 26 ?_);refine q1a rfl _ _ 1 _ rfl Tryz.underlying204 ([.int .u64 a.file]:List Value) (by kernel_rfl) ?_;intro g3 w3 hg5 hg6 Y3 L3)
    | fail)
   refine(CF8.out w3 g3 Y3.out).mono ?_;rintro e w4 ⟨Af,cf,rfl,⟨hOf,hHf⟩,L4⟩;have HF:=hI hHf;have K4:=hI ((K2.out.over L3.out).over L4);have M4:=hI (step (step M2'.out L3.out) L4);have OF:=hI (P0a.mono hOf (Nat.le_trans M2'.out.size L3.out.size));have HXD:=hI (HX.out.over M4.out);have hs4:=M4.out.size;clear hHf hOf L4 L3 Y3 K2 M2' c51 c52 c53 c54 c55 c56 c57 c58 c59 c60 c61 c62 CF8;obtain⟨c51,c52,c53,c54,c55,c56,c57,c58,c59,c60⟩:=FC.out w4 g K4.out;go_wp2_with fail;refine(CT.out w4 M4.out).mono ?_;rintro e w5 ⟨⟨v,rfl,hv⟩,L5⟩;have M5:=hI (step M4.out L5);clear hv L5;go_wp2;go_ret2;exact HQ.out _ _ rfl M5.out
  ·have HQ:=hI (HQ0.out (by rw[HOK.out,hp]));rw[hp] at CT;have hb5:e8a 5 a=(le a.acc 4++(le a.shr 4++(le a.way 4++le a.opt 4)))++([a.lev,a.dur]++(List.replicate 2 0++(le a.file 8++N0a a.name.data.toList))):=by unfold e8a;rw[if_pos rfl,le1 a.lev l_lev u_lev,le1 a.dur l_dur u_dur];simp only[List.append_assoc,List.cons_append,List.nil_append]
   rw[hb5] at HQ;have CM4:Hid (∀(w:World) (gl:Nat),Blk w gl 25 [.int .u64 a.acc,.int .u64 a.shr,.int .u64 a.way,.int .u64 a.opt]->Calls Tryz.prog 152 #[.int .i64 4,.slice (some ⟨gl,0,none⟩) 4 4] w λe w'=>∃A' c',e=.returned (.slice A' 16 c')/\(P0a .u8 5 w' w.heap.size (.slice A' 16 c') (le a.acc 4++(le a.shr 4++(le a.way 4++le a.opt 4)))/\Holds w' w'.heap.size A' 16 c' (le a.acc 4++(le a.shr 4++(le a.way 4++le a.opt 4))))/\Below w.heap.size w w'):=λw gl hB=>by
    have h:=Y3a w gl 4 4 ([a.acc,a.shr,a.way,a.opt]:List Int) hB rfl (by decide) (by decide) (λz hz=>by rw[show(256:Int)^4=4294967296 from by decide];simp only[List.mem_cons,List.not_mem_nil,or_false] at hz;rcases hz with hz | hz | hz | hz<;>omega)
    have e1:l2a 4 ([a.acc,a.shr,a.way,a.opt]:List Int)=le a.acc 4++(le a.shr 4++(le a.way 4++le a.opt 4)):=by simp[l2a]
    rw[e1] at h;have e2:(le a.acc 4++(le a.shr 4++(le a.way 4++le a.opt 4))).length=16:=by simp[w0a]
    rw[e2] at h;exact h
   have HLT:Hid ((N0a a.name.data.toList).length<=514/\Bytes (N0a a.name.data.toList)):=⟨c3a _,S1a _⟩;obtain⟨tx,htx⟩:∃x,x=N0a a.name.data.toList:=⟨_,rfl⟩;rw[<-htx] at CT HQ HLT;obtain⟨f8,hf8⟩:∃x,x=le a.file 8:=⟨_,rfl⟩;rw[<-hf8] at CF8 HQ;obtain⟨m4,hm4⟩:∃x,x=le a.acc 4++(le a.shr 4++(le a.way 4++le a.opt 4)):=⟨_,rfl⟩;rw[<-hm4] at CM4 HQ;have hld:Bytes [a.lev,a.dur]:=by intro x hx;simp only[List.mem_cons,List.not_mem_nil,or_false] at hx;rcases hx with hx | hx<;>omega
   have HLD:=hI hld;obtain⟨hlt,hlb⟩:=HLT.out;obtain⟨lt,hltx⟩:∃x,x=tx.length:=⟨_,rfl⟩;have HLTX:=hI hltx;rw[<-hltx] at hlt;clear htx hf8 hm4 hp HOK HQ0 hb5 hltx hld;go_enter Tryz.func107,Tryz.ntmps107;go_wp2_with(first
    | ((with_reducible refine sN 3 ?_);refine g0a rfl _ (.tmp 1) rfl cs rfl ?_;intro g w1 hg1 hg2 K1 L1)
    | ((with_reducible refine sN 11 ?_);refine f0a rfl _ (.tmp 3) rfl g rfl _ cs K1 69 _ Tryz.underlying34 rfl p0a HL ?_)
    | fail)
   refine(CN.out w1 L1.out).mono ?_;rintro e w2 ⟨rfl,L2⟩;have K2:=hI (K1.out.over L2);have M2':=hI (step L1.out L2);obtain⟨c61,c62⟩:=FL.out w2 g K2.out;clear L2 K1 L1 CN;obtain⟨c51,c52,c53,c54,c55,c56,c57,c58,c59,c60⟩:=FC.out w2 g K2.out;go_wp2_with(first
    | ((with_reducible refine sN 26 ?_);refine q1a rfl _ _ 1 _ rfl Tryz.underlying204 ([.int .u64 a.file]:List Value) (by kernel_rfl) ?_;intro g3 w3 hg5 hg6 Y3 L3)
    | fail)
   refine(CF8.out w3 g3 Y3.out).mono ?_;rintro e w4 ⟨Af,cf,rfl,⟨hOf,hHf⟩,L4⟩;have HF:=hI hHf;have K4:=hI ((K2.out.over L3.out).over L4);have M4:=hI (step (step M2'.out L3.out) L4);have OF:=hI (P0a.mono hOf (Nat.le_trans M2'.out.size L3.out.size));have HXD:=hI (HX.out.over M4.out);have hs4:=M4.out.size;clear hHf hOf L4 L3 Y3 K2 M2' c51 c52 c53 c54 c55 c56 c57 c58 c59 c60 c61 c62 CF8;obtain⟨c51,c52,c53,c54,c55,c56,c57,c58,c59,c60⟩:=FC.out w4 g K4.out;go_wp2_with fail;refine(CT.out w4 M4.out).mono ?_;rintro e w5 ⟨⟨v,rfl,hv⟩,L5⟩;obtain⟨At,ct,rfl,hHt⟩:=P0a.holds8 hv hlb (by rw[<-HLTX.out];omega);rw[<-HLTX.out] at hHt⊢;have HTX:=hI hHt;have K5:=hI (K4.out.over L5);have M5:=hI (step M4.out L5);have HF5:=hI (HF.out.over L5);clear hv hHt L5 K4 M4 HF OF HXD c51 c52 c53 c54 c55 c56 c57 c58 c59 c60;obtain⟨c51,c52,c53,c54,c55,c56,c57,c58,c59,c60⟩:=FC.out w5 g K5.out;go_wp2_with(first
    | ((with_reducible refine sN 52 ?_);refine q1a rfl _ _ 4 _ rfl Tryz.underlying204 ([.int .u64 a.acc,.int .u64 a.shr,.int .u64 a.way,.int .u64 a.opt]:List Value) (by kernel_rfl) ?_;intro g6 w6 hg7 hg8 Y6 L6)
    | fail)
   refine(CM4.out w6 g6 Y6.out).mono ?_;rintro e w7 ⟨Am,cm,rfl,⟨_,hHm⟩,L7⟩;have HMM:=hI hHm;have K7:=hI ((K5.out.over L6.out).over L7);have M7:=hI (step (step M5.out L6.out) L7);have HF7:=hI ((HF5.out.over L6.out).over L7);have HTX7:=hI ((HTX.out.over L6.out).over L7);have hs7:=M7.out.size;clear hHm L6 L7 Y6 K5 M5 HF5 HTX c51 c52 c53 c54 c55 c56 c57 c58 c59 c60;go_upto_region 12 with fail
   refine wp_region_held (S:=λw'=>Blk w' g 34 cs) (by kernel_rfl) ?_;change wpAnyH _ _ _ _ _ _ _ _ w7.drew
   have S0:Hid (Blk w7.drew g 34 cs):=K7.out.drew;have b0:Hid (Below w.heap.size w w7.drew):=M7.out.drew;have HMM_0:=hI (HMM.out.drew);have HF_0:=hI (HF7.out.drew);have HTX_0:=hI (HTX7.out.drew);refine tK 0 _ rfl (v0a (by kernel_rfl) (.tmp 9) rfl (.slice Am 16 cm) (by kernel_rfl)) S0.out ?_;refine tK 1 _ rfl (A0a (by kernel_rfl) _ (.tmp 3) 9 rfl (.pointer (some ⟨g,0,none⟩)) (.pointer (some ⟨g,55,none⟩)) (by kernel_rfl) (h6a g)) S0.out ?_;refine tK 2 _ rfl (l0a (by kernel_rfl) _ (.tmp 55) rfl g 55 (by kernel_rfl) (.int .u8 a.lev) (λw h=>(FC.out w g h).2.2.2.2.1) _ Tryz.underlying5 rfl) S0.out ?_;refine tK 3 _ rfl (A0a (by kernel_rfl) _ (.tmp 3) 10 rfl (.pointer (some ⟨g,0,none⟩)) (.pointer (some ⟨g,56,none⟩)) (by kernel_rfl) (N5a g)) S0.out ?_;refine tK 4 _ rfl (l0a (by kernel_rfl) _ (.tmp 57) rfl g 56 (by kernel_rfl) (.int .u8 a.dur) (λw h=>(FC.out w g h).2.2.2.2.2.1) _ Tryz.underlying5 rfl) S0.out ?_;refine tK 7 _ rfl (v0a (by kernel_rfl) (.tmp 6) rfl (.slice Af 8 cf) (by kernel_rfl)) S0.out ?_;refine tK 8 _ rfl (v0a (by kernel_rfl) (.tmp 7) rfl (.slice At lt ct) (by kernel_rfl)) S0.out ?_;refine n0a λfr1 hfr1=>?_
   refine k1a 5 6 _ _ (by kernel_rfl) rfl rfl (λK hK=>?_) (λK hK=>?_)
   ·skip
    refine i0a rfl _ _ 2 _ rfl Tryz.underlying31 ([.int .u8 a.lev,.int .u8 a.dur]:List Value) (by rw[hfr1];kernel_rfl) ?_;intro g2 wt2 qa qb Y02 L2;have Y2:=hI (Holds.of_lit (xs:=[a.lev,a.dur]) Y02.out HLD.out);clear Y02;have S2:=hI (S0.out.over L2.out);have b2:=hI (step b0.out L2.out);have HMM_2:=hI (HMM_0.out.over L2.out);have HF_2:=hI (HF_0.out.over L2.out);have HTX_2:=hI (HTX_0.out.over L2.out);refine hK _ _ S2.out ?_;clear hK K;subst hfr1;refine oN 6 _ rfl λK hK=>?_
    refine H0a rfl _ _ rfl 2 rfl rfl (by omega) ?_;intro wt3 R3 L3;have Y3:=hI (C1a.holds (base:=0) (.inr ⟨_,rfl,Nat.zero_le _,R3.out⟩) (by rfl:(List.replicate 2 (0:Int)).length=2) (Bytes.zeros 2) (by omega));clear R3;have S3:=hI (S2.out.over L3.out);have b3:=hI (step b2.out L3.out);have HMM_3:=hI (HMM_2.out.over L3.out);have HF_3:=hI (HF_2.out.over L3.out);have HTX_3:=hI (HTX_2.out.over L3.out);have u2_3:=hI (Y2.out.over L3.out);refine hK _ _ S3.out ?_;clear hK K;refine n0a λfr4 hfr4=>?_
    refine oN 9 _ rfl λK hK=>?_
    refine i0a rfl _ _ 5 _ rfl Tryz.underlying99 ([.slice Am 16 cm,.slice (some ⟨g2,0,none⟩) 2 2,.slice (some ⟨wt2.heap.size,0,none⟩) 2 2,.slice Af 8 cf,.slice At lt ct]:List Value) (by rw[hfr4];kernel_rfl) ?_;intro g5 wt5 qa qb Y05 L5;have Y5:Hid (f1a wt5 g5 5 (x2a [(Am,16,cm,m4),((some ⟨g2,0,none⟩),2,2,[a.lev,a.dur]),((some ⟨wt2.heap.size,0,none⟩),2,2,List.replicate 2 0),(Af,8,cf,f8),(At,lt,ct,tx)]) (y2a [(Am,16,cm,m4),((some ⟨g2,0,none⟩),2,2,[a.lev,a.dur]),((some ⟨wt2.heap.size,0,none⟩),2,2,List.replicate 2 0),(Af,8,cf,f8),(At,lt,ct,tx)]) (z2a [(Am,16,cm,m4),((some ⟨g2,0,none⟩),2,2,[a.lev,a.dur]),((some ⟨wt2.heap.size,0,none⟩),2,2,List.replicate 2 0),(Af,8,cf,f8),(At,lt,ct,tx)]) (o1a [(Am,16,cm,m4),((some ⟨g2,0,none⟩),2,2,[a.lev,a.dur]),((some ⟨wt2.heap.size,0,none⟩),2,2,List.replicate 2 0),(Af,8,cf,f8),(At,lt,ct,tx)])):=f1a.of_blk [(Am,16,cm,m4),((some ⟨g2,0,none⟩),2,2,[a.lev,a.dur]),((some ⟨wt2.heap.size,0,none⟩),2,2,List.replicate 2 0),(Af,8,cf,f8),(At,lt,ct,tx)] Y05.out (List.forall_mem_cons.2 ⟨HMM_3.out.over L5.out,List.forall_mem_cons.2 ⟨u2_3.out.over L5.out,List.forall_mem_cons.2 ⟨Y3.out.over L5.out,List.forall_mem_cons.2 ⟨HF_3.out.over L5.out,List.forall_mem_cons.2 ⟨HTX_3.out.over L5.out,λ_ h=>by cases h⟩⟩⟩⟩⟩);clear Y05;have S5:=hI (S3.out.over L5.out);have b5:=hI (step b3.out L5.out);refine hK _ _ S5.out ?_;clear hK K;subst hfr4;refine oN 10 _ rfl λK hK=>?_
    go_simp;refine(CC.out _ g5 5 _ _ _ _ Y5.out (by omega) (by show 0+16+2+2+8+lt<=_;omega)).mono ?_;rintro e wt6 ⟨v,rfl,hY6,L06⟩;have OUT:=hI hY6;have L6:=hI L06;clear hY6 L06;have hsz0:=b5.out.size;have S6:=hI (S5.out.over L6.out);have b6:=hI (step b5.out L6.out);refine hK _ _ S6.out ?_;clear hK K;refine oN 11 _ rfl λK hK=>?_
    go_simp;refine hK _ _ S6.out ?_;clear hK K;refine oN 12 _ rfl λK hK=>?_
    go_simp;refine hK _ _ S6.out ?_;clear hK K;refine dN ?_;have HO6:=hI (P0a.mono OUT.out (Nat.le_trans (hsz0) (Nat.le_refl _)));go_wp2;go_ret2;refine HQ.out _ _ _ rfl ?_ b6.out;have h9:=HO6.out;simpa[Q3a,o1a,List.append_assoc] using h9
   ·skip
    subst hfr1;refine H0a rfl _ _ rfl 2 rfl rfl (by omega) ?_;intro wt9 R9 L9;have Y9:=hI (C1a.holds (base:=0) (.inr ⟨_,rfl,Nat.zero_le _,R9.out⟩) (by rfl:(List.replicate 2 (0:Int)).length=2) (Bytes.zeros 2) (by omega));clear R9;have S9:=hI (S0.out.over L9.out);have b9:=hI (step b0.out L9.out);have HMM_9:=hI (HMM_0.out.over L9.out);have HF_9:=hI (HF_0.out.over L9.out);have HTX_9:=hI (HTX_0.out.over L9.out);refine hK _ _ S9.out ?_;clear hK K;refine n0a λfr10 hfr10=>?_
    refine oN 5 _ rfl λK hK=>?_
    refine i0a rfl _ _ 2 _ rfl Tryz.underlying31 ([.int .u8 a.lev,.int .u8 a.dur]:List Value) (by rw[hfr10];kernel_rfl) ?_;intro g11 wt11 qa qb Y011 L11;have Y11:=hI (Holds.of_lit (xs:=[a.lev,a.dur]) Y011.out HLD.out);clear Y011;have S11:=hI (S9.out.over L11.out);have b11:=hI (step b9.out L11.out);have HMM_11:=hI (HMM_9.out.over L11.out);have HF_11:=hI (HF_9.out.over L11.out);have HTX_11:=hI (HTX_9.out.over L11.out);have nE_11:=hI (Y9.out.over L11.out);refine hK _ _ S11.out ?_;clear hK K;subst hfr10;refine n0a λfr12 hfr12=>?_
    refine oN 9 _ rfl λK hK=>?_
    refine i0a rfl _ _ 5 _ rfl Tryz.underlying99 ([.slice Am 16 cm,.slice (some ⟨g11,0,none⟩) 2 2,.slice (some ⟨w7.drew.heap.size,0,none⟩) 2 2,.slice Af 8 cf,.slice At lt ct]:List Value) (by rw[hfr12];kernel_rfl) ?_;intro g13 wt13 qa qb Y013 L13;have Y13:Hid (f1a wt13 g13 5 (x2a [(Am,16,cm,m4),((some ⟨g11,0,none⟩),2,2,[a.lev,a.dur]),((some ⟨w7.drew.heap.size,0,none⟩),2,2,List.replicate 2 0),(Af,8,cf,f8),(At,lt,ct,tx)]) (y2a [(Am,16,cm,m4),((some ⟨g11,0,none⟩),2,2,[a.lev,a.dur]),((some ⟨w7.drew.heap.size,0,none⟩),2,2,List.replicate 2 0),(Af,8,cf,f8),(At,lt,ct,tx)]) (z2a [(Am,16,cm,m4),((some ⟨g11,0,none⟩),2,2,[a.lev,a.dur]),((some ⟨w7.drew.heap.size,0,none⟩),2,2,List.replicate 2 0),(Af,8,cf,f8),(At,lt,ct,tx)]) (o1a [(Am,16,cm,m4),((some ⟨g11,0,none⟩),2,2,[a.lev,a.dur]),((some ⟨w7.drew.heap.size,0,none⟩),2,2,List.replicate 2 0),(Af,8,cf,f8),(At,lt,ct,tx)])):=f1a.of_blk [(Am,16,cm,m4),((some ⟨g11,0,none⟩),2,2,[a.lev,a.dur]),((some ⟨w7.drew.heap.size,0,none⟩),2,2,List.replicate 2 0),(Af,8,cf,f8),(At,lt,ct,tx)] Y013.out (List.forall_mem_cons.2 ⟨HMM_11.out.over L13.out,List.forall_mem_cons.2 ⟨Y11.out.over L13.out,List.forall_mem_cons.2 ⟨nE_11.out.over L13.out,List.forall_mem_cons.2 ⟨HF_11.out.over L13.out,List.forall_mem_cons.2 ⟨HTX_11.out.over L13.out,λ_ h=>by cases h⟩⟩⟩⟩⟩);clear Y013;have S13:=hI (S11.out.over L13.out);have b13:=hI (step b11.out L13.out);refine hK _ _ S13.out ?_;clear hK K;subst hfr12;refine oN 10 _ rfl λK hK=>?_
    go_simp;refine(CC.out _ g13 5 _ _ _ _ Y13.out (by omega) (by show 0+16+2+2+8+lt<=_;omega)).mono ?_;rintro e wt14 ⟨v,rfl,hY14,L014⟩;have OUT:=hI hY14;have L14:=hI L014;clear hY14 L014;have hsz0:=b13.out.size;have S14:=hI (S13.out.over L14.out);have b14:=hI (step b13.out L14.out);refine hK _ _ S14.out ?_;clear hK K;refine oN 11 _ rfl λK hK=>?_
    go_simp;refine hK _ _ S14.out ?_;clear hK K;refine oN 12 _ rfl λK hK=>?_
    go_simp;refine hK _ _ S14.out ?_;clear hK K;refine dN ?_;have HO6:=hI (P0a.mono OUT.out (Nat.le_trans (hsz0) (Nat.le_refl _)));go_wp2;go_ret2;refine HQ.out _ _ _ rfl ?_ b14.out;have h9:=HO6.out;simpa[Q3a,o1a,List.append_assoc] using h9
 ·subst h6;rw[if_neg (by decide)] at HOK;have HQ:=hI (HQ0.out HOK.out);have hb0:e8a 6 a=le a.file 8:=rfl;rw[hb0] at HQ;obtain⟨f8,hf8⟩:∃x,x=le a.file 8:=⟨_,rfl⟩;rw[<-hf8] at CF8 HQ;clear hf8 HOK HQ0 hb0;go_enter Tryz.func107,Tryz.ntmps107;go_wp2_with(first
   | ((with_reducible refine sN 3 ?_);refine g0a rfl _ (.tmp 1) rfl cs rfl ?_;intro g w1 hg1 hg2 K1 L1)
   | ((with_reducible refine sN 11 ?_);refine f0a rfl _ (.tmp 3) rfl g rfl _ cs K1 69 _ Tryz.underlying34 rfl p0a HL ?_)
   | fail)
  refine(CN.out w1 L1.out).mono ?_;rintro e w2 ⟨rfl,L2⟩;have K2:=hI (K1.out.over L2);have M2':=hI (step L1.out L2);obtain⟨c61,c62⟩:=FL.out w2 g K2.out;clear L2 K1 L1 CN;obtain⟨c51,c52,c53,c54,c55,c56,c57,c58,c59,c60⟩:=FC.out w2 g K2.out;go_wp2_with(first
   | ((with_reducible refine sN 26 ?_);refine q1a rfl _ _ 1 _ rfl Tryz.underlying204 ([.int .u64 a.file]:List Value) (by kernel_rfl) ?_;intro g3 w3 hg5 hg6 Y3 L3)
   | fail)
  refine(CF8.out w3 g3 Y3.out).mono ?_;rintro e w4 ⟨Af,cf,rfl,⟨hOf,hHf⟩,L4⟩;have HF:=hI hHf;have K4:=hI ((K2.out.over L3.out).over L4);have M4:=hI (step (step M2'.out L3.out) L4);have OF:=hI (P0a.mono hOf (Nat.le_trans M2'.out.size L3.out.size));have HXD:=hI (HX.out.over M4.out);have hs4:=M4.out.size;clear hHf hOf L4 L3 Y3 K2 M2' c51 c52 c53 c54 c55 c56 c57 c58 c59 c60 c61 c62 CF8;go_wp2;go_ret2;exact HQ.out _ _ _ rfl OF.out M4.out
 ·subst h7;rw[if_neg (by decide)] at HOK;have HQ:=hI (HQ0.out HOK.out);have hb0:e8a 7 a=le a.file 8:=rfl;rw[hb0] at HQ;obtain⟨f8,hf8⟩:∃x,x=le a.file 8:=⟨_,rfl⟩;rw[<-hf8] at CF8 HQ;clear hf8 HOK HQ0 hb0;go_enter Tryz.func107,Tryz.ntmps107;go_wp2_with(first
   | ((with_reducible refine sN 3 ?_);refine g0a rfl _ (.tmp 1) rfl cs rfl ?_;intro g w1 hg1 hg2 K1 L1)
   | ((with_reducible refine sN 11 ?_);refine f0a rfl _ (.tmp 3) rfl g rfl _ cs K1 69 _ Tryz.underlying34 rfl p0a HL ?_)
   | fail)
  refine(CN.out w1 L1.out).mono ?_;rintro e w2 ⟨rfl,L2⟩;have K2:=hI (K1.out.over L2);have M2':=hI (step L1.out L2);obtain⟨c61,c62⟩:=FL.out w2 g K2.out;clear L2 K1 L1 CN;obtain⟨c51,c52,c53,c54,c55,c56,c57,c58,c59,c60⟩:=FC.out w2 g K2.out;go_wp2_with(first
   | ((with_reducible refine sN 26 ?_);refine q1a rfl _ _ 1 _ rfl Tryz.underlying204 ([.int .u64 a.file]:List Value) (by kernel_rfl) ?_;intro g3 w3 hg5 hg6 Y3 L3)
   | fail)
  refine(CF8.out w3 g3 Y3.out).mono ?_;rintro e w4 ⟨Af,cf,rfl,⟨hOf,hHf⟩,L4⟩;have HF:=hI hHf;have K4:=hI ((K2.out.over L3.out).over L4);have M4:=hI (step (step M2'.out L3.out) L4);have OF:=hI (P0a.mono hOf (Nat.le_trans M2'.out.size L3.out.size));have HXD:=hI (HX.out.over M4.out);have hs4:=M4.out.size;clear hHf hOf L4 L3 Y3 K2 M2' c51 c52 c53 c54 c55 c56 c57 c58 c59 c60 c61 c62 CF8;go_wp2;go_ret2;exact HQ.out _ _ _ rfl OF.out M4.out
 ·subst h8;rw[if_neg (by decide)] at HOK;have HQ:=hI (HQ0.out HOK.out);have hb0:e8a 8 a=le a.file 8++(le a.at_ 8++le a.n 4):=rfl;rw[hb0] at HQ;have CA8:Hid (∀(w:World) (gl:Nat),Blk w gl 25 [.int .u64 a.at_]->Calls Tryz.prog 152 #[.int .i64 8,.slice (some ⟨gl,0,none⟩) 1 1] w λe w'=>∃A' c',e=.returned (.slice A' 8 c')/\(P0a .u8 5 w' w.heap.size (.slice A' 8 c') (le a.at_ 8)/\Holds w' w'.heap.size A' 8 c' (le a.at_ 8))/\Below w.heap.size w w'):=λw gl hB=>by
   have h:=Y3a w gl 1 8 ([a.at_]:List Int) hB rfl (by decide) (by decide) (λz hz=>by rw[show(256:Int)^8=18446744073709551616 from by decide];simp only[List.mem_cons,List.not_mem_nil,or_false] at hz;rw[hz];omega)
   have e1:l2a 8 ([a.at_]:List Int)=le a.at_ 8:=by simp[l2a]
   rw[e1] at h;have e2:(le a.at_ 8).length=8:=by simp[w0a]
   rw[e2] at h;exact h
  have CN4:Hid (∀(w:World) (gl:Nat),Blk w gl 25 [.int .u64 a.n]->Calls Tryz.prog 152 #[.int .i64 4,.slice (some ⟨gl,0,none⟩) 1 1] w λe w'=>∃A' c',e=.returned (.slice A' 4 c')/\(P0a .u8 5 w' w.heap.size (.slice A' 4 c') (le a.n 4)/\Holds w' w'.heap.size A' 4 c' (le a.n 4))/\Below w.heap.size w w'):=λw gl hB=>by
   have h:=Y3a w gl 1 4 ([a.n]:List Int) hB rfl (by decide) (by decide) (λz hz=>by rw[show(256:Int)^4=4294967296 from by decide];simp only[List.mem_cons,List.not_mem_nil,or_false] at hz;rw[hz];omega)
   have e1:l2a 4 ([a.n]:List Int)=le a.n 4:=by simp[l2a]
   rw[e1] at h;have e2:(le a.n 4).length=4:=by simp[w0a]
   rw[e2] at h;exact h
  obtain⟨f8,hf8⟩:∃x,x=le a.file 8:=⟨_,rfl⟩;rw[<-hf8] at CF8 HQ;obtain⟨a8,ha8⟩:∃x,x=le a.at_ 8:=⟨_,rfl⟩;rw[<-ha8] at CA8 HQ;obtain⟨n4,hn4⟩:∃x,x=le a.n 4:=⟨_,rfl⟩;rw[<-hn4] at CN4 HQ;clear HOK HQ0 hb0 hf8 ha8 hn4;go_enter Tryz.func107,Tryz.ntmps107;go_wp2_with(first
   | ((with_reducible refine sN 3 ?_);refine g0a rfl _ (.tmp 1) rfl cs rfl ?_;intro g w1 hg1 hg2 K1 L1)
   | ((with_reducible refine sN 11 ?_);refine f0a rfl _ (.tmp 3) rfl g rfl _ cs K1 69 _ Tryz.underlying34 rfl p0a HL ?_)
   | fail)
  refine(CN.out w1 L1.out).mono ?_;rintro e w2 ⟨rfl,L2⟩;have K2:=hI (K1.out.over L2);have M2':=hI (step L1.out L2);obtain⟨c61,c62⟩:=FL.out w2 g K2.out;clear L2 K1 L1 CN;obtain⟨c51,c52,c53,c54,c55,c56,c57,c58,c59,c60⟩:=FC.out w2 g K2.out;go_wp2_with(first
   | ((with_reducible refine sN 26 ?_);refine q1a rfl _ _ 1 _ rfl Tryz.underlying204 ([.int .u64 a.file]:List Value) (by kernel_rfl) ?_;intro g3 w3 hg5 hg6 Y3 L3)
   | fail)
  refine(CF8.out w3 g3 Y3.out).mono ?_;rintro e w4 ⟨Af,cf,rfl,⟨hOf,hHf⟩,L4⟩;have HF:=hI hHf;have K4:=hI ((K2.out.over L3.out).over L4);have M4:=hI (step (step M2'.out L3.out) L4);have OF:=hI (P0a.mono hOf (Nat.le_trans M2'.out.size L3.out.size));have HXD:=hI (HX.out.over M4.out);have hs4:=M4.out.size;clear hHf hOf L4 L3 Y3 K2 M2' c51 c52 c53 c54 c55 c56 c57 c58 c59 c60 c61 c62 CF8;go_upto_region 14 with fail
  refine wp_region_held (S:=λw'=>Blk w' g 34 cs) (by kernel_rfl) ?_;change wpAnyH _ _ _ _ _ _ _ _ w4.drew
  have S0:Hid (Blk w4.drew g 34 cs):=K4.out.drew;have b0:Hid (Below w.heap.size w w4.drew):=M4.out.drew;have HF_0:=hI (HF.out.drew);refine tK 0 _ rfl (v0a (by kernel_rfl) (.tmp 6) rfl (.slice Af 8 cf) (by kernel_rfl)) S0.out ?_;refine tK 1 _ rfl (A0a (by kernel_rfl) _ (.tmp 3) 13 rfl (.pointer (some ⟨g,0,none⟩)) (.pointer (some ⟨g,59,none⟩)) (by kernel_rfl) (h4a g)) S0.out ?_;refine tK 2 _ rfl (l0a (by kernel_rfl) _ (.tmp 68) rfl g 59 (by kernel_rfl) (.int .u64 a.at_) (λw h=>(FC.out w g h).2.2.2.2.2.2.2.2.1) _ Tryz.underlying25 rfl) S0.out ?_;refine tK 5 _ rfl (A0a (by kernel_rfl) _ (.tmp 3) 14 rfl (.pointer (some ⟨g,0,none⟩)) (.pointer (some ⟨g,60,none⟩)) (by kernel_rfl) (O5a g)) S0.out ?_;refine tK 6 _ rfl (l0a (by kernel_rfl) _ (.tmp 72) rfl g 60 (by kernel_rfl) (.int .u32 a.n) (λw h=>(FC.out w g h).2.2.2.2.2.2.2.2.2) _ Tryz.underlying23 rfl) S0.out ?_;refine tK 7 ((.int .u64 a.n)) rfl (.inl ⟨by kernel_rfl,λw _=>by go_simp⟩) S0.out ?_;refine n0a λfr1 hfr1=>?_
  refine k1a 3 8 _ _ (by kernel_rfl) rfl rfl (λK hK=>?_) (λK hK=>?_)
  ·skip
   refine i0a rfl _ _ 1 _ rfl Tryz.underlying204 ([.int .u64 a.at_]:List Value) (by rw[hfr1];kernel_rfl) ?_;intro g2 wt2 qa qb Y2 L2;have S2:=hI (S0.out.over L2.out);have b2:=hI (step b0.out L2.out);have HF_2:=hI (HF_0.out.over L2.out);refine hK _ _ S2.out ?_;clear hK K;subst hfr1;refine n0a λfr3 hfr3=>?_
   refine k1a 4 8 _ _ (by kernel_rfl) rfl rfl (λK hK=>?_) (λK hK=>?_)
   ·skip
    subst hfr3;go_simp;refine(CA8.out _ _ Y2.out).mono ?_;rintro e wt4 ⟨A4,c4,rfl,⟨_,hY4⟩,L04⟩;have Y4:=hI hY4;have L4:=hI L04;clear hY4 L04;have S4:=hI (S2.out.over L4.out);have b4:=hI (step b2.out L4.out);have HF_4:=hI (HF_2.out.over L4.out);refine hK _ _ S4.out ?_;clear hK K;refine n0a λfr5 hfr5=>?_
    refine oN 8 _ rfl λK hK=>?_
    refine i0a rfl _ _ 1 _ rfl Tryz.underlying204 ([.int .u64 a.n]:List Value) (by rw[hfr5];kernel_rfl) ?_;intro g6 wt6 qa qb Y6 L6;have S6:=hI (S4.out.over L6.out);have b6:=hI (step b4.out L6.out);have HF_6:=hI (HF_4.out.over L6.out);have xA_6:=hI (Y4.out.over L6.out);refine hK _ _ S6.out ?_;clear hK K;subst hfr5;refine oN 9 _ rfl λK hK=>?_
    go_simp;refine(CN4.out _ _ Y6.out).mono ?_;rintro e wt7 ⟨A7,c7,rfl,⟨_,hY7⟩,L07⟩;have Y7:=hI hY7;have L7:=hI L07;clear hY7 L07;have S7:=hI (S6.out.over L7.out);have b7:=hI (step b6.out L7.out);have HF_7:=hI (HF_6.out.over L7.out);have xA_7:=hI (xA_6.out.over L7.out);refine hK _ _ S7.out ?_;clear hK K;refine n0a λfr8 hfr8=>?_
    refine oN 10 _ rfl λK hK=>?_
    refine i0a rfl _ _ 3 _ rfl Tryz.underlying99 ([.slice Af 8 cf,.slice A4 8 c4,.slice A7 4 c7]:List Value) (by rw[hfr8];kernel_rfl) ?_;intro g9 wt9 qa qb Y09 L9;have Y9:Hid (f1a wt9 g9 3 (x2a [(Af,8,cf,f8),(A4,8,c4,a8),(A7,4,c7,n4)]) (y2a [(Af,8,cf,f8),(A4,8,c4,a8),(A7,4,c7,n4)]) (z2a [(Af,8,cf,f8),(A4,8,c4,a8),(A7,4,c7,n4)]) (o1a [(Af,8,cf,f8),(A4,8,c4,a8),(A7,4,c7,n4)])):=f1a.of_blk [(Af,8,cf,f8),(A4,8,c4,a8),(A7,4,c7,n4)] Y09.out (List.forall_mem_cons.2 ⟨HF_7.out.over L9.out,List.forall_mem_cons.2 ⟨xA_7.out.over L9.out,List.forall_mem_cons.2 ⟨Y7.out.over L9.out,λ_ h=>by cases h⟩⟩⟩);clear Y09;have S9:=hI (S7.out.over L9.out);have b9:=hI (step b7.out L9.out);refine hK _ _ S9.out ?_;clear hK K;subst hfr8;refine oN 11 _ rfl λK hK=>?_
    go_simp;refine(CC.out _ g9 3 _ _ _ _ Y9.out (by omega) (by show 0+8+8+4<=_;omega)).mono ?_;rintro e wt10 ⟨v,rfl,hY10,L010⟩;have OUT:=hI hY10;have L10:=hI L010;clear hY10 L010;have hsz0:=b9.out.size;have S10:=hI (S9.out.over L10.out);have b10:=hI (step b9.out L10.out);refine hK _ _ S10.out ?_;clear hK K;refine oN 12 _ rfl λK hK=>?_
    go_simp;refine hK _ _ S10.out ?_;clear hK K;refine oN 13 _ rfl λK hK=>?_
    go_simp;refine hK _ _ S10.out ?_;clear hK K;refine dN ?_;have HO6:=hI (P0a.mono OUT.out (Nat.le_trans (hsz0) (Nat.le_refl _)));go_wp2;go_ret2;refine HQ.out _ _ _ rfl ?_ b10.out;have h9:=HO6.out;simpa[Q3a,o1a,List.append_assoc] using h9
   ·skip
    refine i0a rfl _ _ 1 _ rfl Tryz.underlying204 ([.int .u64 a.n]:List Value) (by rw[hfr3];kernel_rfl) ?_;intro g13 wt13 qa qb Y13 L13;have S13:=hI (S2.out.over L13.out);have b13:=hI (step b2.out L13.out);have HF_13:=hI (HF_2.out.over L13.out);have lA_13:=hI (Y2.out.over L13.out);refine hK _ _ S13.out ?_;clear hK K;subst hfr3;refine oN 4 _ rfl λK hK=>?_
    go_simp;refine(CA8.out _ _ lA_13.out).mono ?_;rintro e wt14 ⟨A14,c14,rfl,⟨_,hY14⟩,L014⟩;have Y14:=hI hY14;have L14:=hI L014;clear hY14 L014;have S14:=hI (S13.out.over L14.out);have b14:=hI (step b13.out L14.out);have HF_14:=hI (HF_13.out.over L14.out);have lC_14:=hI (Y13.out.over L14.out);refine hK _ _ S14.out ?_;clear hK K;refine oN 9 _ rfl λK hK=>?_
    go_simp;refine(CN4.out _ _ lC_14.out).mono ?_;rintro e wt15 ⟨A15,c15,rfl,⟨_,hY15⟩,L015⟩;have Y15:=hI hY15;have L15:=hI L015;clear hY15 L015;have S15:=hI (S14.out.over L15.out);have b15:=hI (step b14.out L15.out);have HF_15:=hI (HF_14.out.over L15.out);have xA_15:=hI (Y14.out.over L15.out);refine hK _ _ S15.out ?_;clear hK K;refine n0a λfr16 hfr16=>?_
    refine oN 10 _ rfl λK hK=>?_
    refine i0a rfl _ _ 3 _ rfl Tryz.underlying99 ([.slice Af 8 cf,.slice A14 8 c14,.slice A15 4 c15]:List Value) (by rw[hfr16];kernel_rfl) ?_;intro g17 wt17 qa qb Y017 L17;have Y17:Hid (f1a wt17 g17 3 (x2a [(Af,8,cf,f8),(A14,8,c14,a8),(A15,4,c15,n4)]) (y2a [(Af,8,cf,f8),(A14,8,c14,a8),(A15,4,c15,n4)]) (z2a [(Af,8,cf,f8),(A14,8,c14,a8),(A15,4,c15,n4)]) (o1a [(Af,8,cf,f8),(A14,8,c14,a8),(A15,4,c15,n4)])):=f1a.of_blk [(Af,8,cf,f8),(A14,8,c14,a8),(A15,4,c15,n4)] Y017.out (List.forall_mem_cons.2 ⟨HF_15.out.over L17.out,List.forall_mem_cons.2 ⟨xA_15.out.over L17.out,List.forall_mem_cons.2 ⟨Y15.out.over L17.out,λ_ h=>by cases h⟩⟩⟩);clear Y017;have S17:=hI (S15.out.over L17.out);have b17:=hI (step b15.out L17.out);refine hK _ _ S17.out ?_;clear hK K;subst hfr16;refine oN 11 _ rfl λK hK=>?_
    go_simp;refine(CC.out _ g17 3 _ _ _ _ Y17.out (by omega) (by show 0+8+8+4<=_;omega)).mono ?_;rintro e wt18 ⟨v,rfl,hY18,L018⟩;have OUT:=hI hY18;have L18:=hI L018;clear hY18 L018;have hsz0:=b17.out.size;have S18:=hI (S17.out.over L18.out);have b18:=hI (step b17.out L18.out);refine hK _ _ S18.out ?_;clear hK K;refine oN 12 _ rfl λK hK=>?_
    go_simp;refine hK _ _ S18.out ?_;clear hK K;refine oN 13 _ rfl λK hK=>?_
    go_simp;refine hK _ _ S18.out ?_;clear hK K;refine dN ?_;have HO6:=hI (P0a.mono OUT.out (Nat.le_trans (hsz0) (Nat.le_refl _)));go_wp2;go_ret2;refine HQ.out _ _ _ rfl ?_ b18.out;have h9:=HO6.out;simpa[Q3a,o1a,List.append_assoc] using h9
  ·skip
   refine i0a rfl _ _ 1 _ rfl Tryz.underlying204 ([.int .u64 a.n]:List Value) (by rw[hfr1];kernel_rfl) ?_;intro g21 wt21 qa qb Y21 L21;have S21:=hI (S0.out.over L21.out);have b21:=hI (step b0.out L21.out);have HF_21:=hI (HF_0.out.over L21.out);refine hK _ _ S21.out ?_;clear hK K;subst hfr1;refine n0a λfr22 hfr22=>?_
   refine oN 3 _ rfl λK hK=>?_
   refine i0a rfl _ _ 1 _ rfl Tryz.underlying204 ([.int .u64 a.at_]:List Value) (by rw[hfr22];kernel_rfl) ?_;intro g23 wt23 qa qb Y23 L23;have S23:=hI (S21.out.over L23.out);have b23:=hI (step b21.out L23.out);have HF_23:=hI (HF_21.out.over L23.out);have lC_23:=hI (Y21.out.over L23.out);refine hK _ _ S23.out ?_;clear hK K;subst hfr22;refine oN 4 _ rfl λK hK=>?_
   go_simp;refine(CA8.out _ _ Y23.out).mono ?_;rintro e wt24 ⟨A24,c24,rfl,⟨_,hY24⟩,L024⟩;have Y24:=hI hY24;have L24:=hI L024;clear hY24 L024;have S24:=hI (S23.out.over L24.out);have b24:=hI (step b23.out L24.out);have HF_24:=hI (HF_23.out.over L24.out);have lC_24:=hI (lC_23.out.over L24.out);refine hK _ _ S24.out ?_;clear hK K;refine oN 9 _ rfl λK hK=>?_
   go_simp;refine(CN4.out _ _ lC_24.out).mono ?_;rintro e wt25 ⟨A25,c25,rfl,⟨_,hY25⟩,L025⟩;have Y25:=hI hY25;have L25:=hI L025;clear hY25 L025;have S25:=hI (S24.out.over L25.out);have b25:=hI (step b24.out L25.out);have HF_25:=hI (HF_24.out.over L25.out);have xA_25:=hI (Y24.out.over L25.out);refine hK _ _ S25.out ?_;clear hK K;refine n0a λfr26 hfr26=>?_
   refine oN 10 _ rfl λK hK=>?_
   refine i0a rfl _ _ 3 _ rfl Tryz.underlying99 ([.slice Af 8 cf,.slice A24 8 c24,.slice A25 4 c25]:List Value) (by rw[hfr26];kernel_rfl) ?_;intro g27 wt27 qa qb Y027 L27;have Y27:Hid (f1a wt27 g27 3 (x2a [(Af,8,cf,f8),(A24,8,c24,a8),(A25,4,c25,n4)]) (y2a [(Af,8,cf,f8),(A24,8,c24,a8),(A25,4,c25,n4)]) (z2a [(Af,8,cf,f8),(A24,8,c24,a8),(A25,4,c25,n4)]) (o1a [(Af,8,cf,f8),(A24,8,c24,a8),(A25,4,c25,n4)])):=f1a.of_blk [(Af,8,cf,f8),(A24,8,c24,a8),(A25,4,c25,n4)] Y027.out (List.forall_mem_cons.2 ⟨HF_25.out.over L27.out,List.forall_mem_cons.2 ⟨xA_25.out.over L27.out,List.forall_mem_cons.2 ⟨Y25.out.over L27.out,λ_ h=>by cases h⟩⟩⟩);clear Y027;have S27:=hI (S25.out.over L27.out);have b27:=hI (step b25.out L27.out);refine hK _ _ S27.out ?_;clear hK K;subst hfr26;refine oN 11 _ rfl λK hK=>?_
   go_simp;refine(CC.out _ g27 3 _ _ _ _ Y27.out (by omega) (by show 0+8+8+4<=_;omega)).mono ?_;rintro e wt28 ⟨v,rfl,hY28,L028⟩;have OUT:=hI hY28;have L28:=hI L028;clear hY28 L028;have hsz0:=b27.out.size;have S28:=hI (S27.out.over L28.out);have b28:=hI (step b27.out L28.out);refine hK _ _ S28.out ?_;clear hK K;refine oN 12 _ rfl λK hK=>?_
   go_simp;refine hK _ _ S28.out ?_;clear hK K;refine oN 13 _ rfl λK hK=>?_
   go_simp;refine hK _ _ S28.out ?_;clear hK K;refine dN ?_;have HO6:=hI (P0a.mono OUT.out (Nat.le_trans (hsz0) (Nat.le_refl _)));go_wp2;go_ret2;refine HQ.out _ _ _ rfl ?_ b28.out;have h9:=HO6.out;simpa[Q3a,o1a,List.append_assoc] using h9
 ·subst h9;rw[if_neg (by decide)] at HOK;have HQ:=hI (HQ0.out HOK.out);have hb0:e8a 9 a=le a.file 8++(le a.at_ 8++(le (X2:Int) 4++a.data)):=by unfold e8a;rw[if_neg (by decide),if_neg (by decide),if_pos rfl,HX.out.len]
  rw[hb0] at HQ;have CA8:Hid (∀(w:World) (gl:Nat),Blk w gl 25 [.int .u64 a.at_]->Calls Tryz.prog 152 #[.int .i64 8,.slice (some ⟨gl,0,none⟩) 1 1] w λe w'=>∃A' c',e=.returned (.slice A' 8 c')/\(P0a .u8 5 w' w.heap.size (.slice A' 8 c') (le a.at_ 8)/\Holds w' w'.heap.size A' 8 c' (le a.at_ 8))/\Below w.heap.size w w'):=λw gl hB=>by
   have h:=Y3a w gl 1 8 ([a.at_]:List Int) hB rfl (by decide) (by decide) (λz hz=>by rw[show(256:Int)^8=18446744073709551616 from by decide];simp only[List.mem_cons,List.not_mem_nil,or_false] at hz;rw[hz];omega)
   have e1:l2a 8 ([a.at_]:List Int)=le a.at_ 8:=by simp[l2a]
   rw[e1] at h;have e2:(le a.at_ 8).length=8:=by simp[w0a]
   rw[e2] at h;exact h
  have CN4:Hid (∀(w:World) (gl:Nat),Blk w gl 25 [.int .u64 (X2:Int)]->Calls Tryz.prog 152 #[.int .i64 4,.slice (some ⟨gl,0,none⟩) 1 1] w λe w'=>∃A' c',e=.returned (.slice A' 4 c')/\(P0a .u8 5 w' w.heap.size (.slice A' 4 c') (le (X2:Int) 4)/\Holds w' w'.heap.size A' 4 c' (le (X2:Int) 4))/\Below w.heap.size w w'):=λw gl hB=>by
   have h:=Y3a w gl 1 4 ([(X2:Int)]:List Int) hB rfl (by decide) (by decide) (λz hz=>by rw[show(256:Int)^4=4294967296 from by decide];simp only[List.mem_cons,List.not_mem_nil,or_false] at hz;rw[hz];omega)
   have e1:l2a 4 ([(X2:Int)]:List Int)=le (X2:Int) 4:=by simp[l2a]
   rw[e1] at h;have e2:(le (X2:Int) 4).length=4:=by simp[w0a]
   rw[e2] at h;exact h
  obtain⟨f8,hf8⟩:∃x,x=le a.file 8:=⟨_,rfl⟩;rw[<-hf8] at CF8 HQ;obtain⟨a8,ha8⟩:∃x,x=le a.at_ 8:=⟨_,rfl⟩;rw[<-ha8] at CA8 HQ;obtain⟨n4,hn4⟩:∃x,x=le (X2:Int) 4:=⟨_,rfl⟩;rw[<-hn4] at CN4 HQ;clear HOK HQ0 hb0 hf8 ha8 hn4;go_enter Tryz.func107,Tryz.ntmps107;go_wp2_with(first
   | ((with_reducible refine sN 3 ?_);refine g0a rfl _ (.tmp 1) rfl cs rfl ?_;intro g w1 hg1 hg2 K1 L1)
   | ((with_reducible refine sN 11 ?_);refine f0a rfl _ (.tmp 3) rfl g rfl _ cs K1 69 _ Tryz.underlying34 rfl p0a HL ?_)
   | fail)
  refine(CN.out w1 L1.out).mono ?_;rintro e w2 ⟨rfl,L2⟩;have K2:=hI (K1.out.over L2);have M2':=hI (step L1.out L2);obtain⟨c61,c62⟩:=FL.out w2 g K2.out;clear L2 K1 L1 CN;obtain⟨c51,c52,c53,c54,c55,c56,c57,c58,c59,c60⟩:=FC.out w2 g K2.out;go_wp2_with(first
   | ((with_reducible refine sN 26 ?_);refine q1a rfl _ _ 1 _ rfl Tryz.underlying204 ([.int .u64 a.file]:List Value) (by kernel_rfl) ?_;intro g3 w3 hg5 hg6 Y3 L3)
   | fail)
  refine(CF8.out w3 g3 Y3.out).mono ?_;rintro e w4 ⟨Af,cf,rfl,⟨hOf,hHf⟩,L4⟩;have HF:=hI hHf;have K4:=hI ((K2.out.over L3.out).over L4);have M4:=hI (step (step M2'.out L3.out) L4);have OF:=hI (P0a.mono hOf (Nat.le_trans M2'.out.size L3.out.size));have HXD:=hI (HX.out.over M4.out);have hs4:=M4.out.size;clear hHf hOf L4 L3 Y3 K2 M2' c51 c52 c53 c54 c55 c56 c57 c58 c59 c60 c61 c62 CF8;go_upto_region 16 with fail
  refine wp_region_held (S:=λw'=>Blk w' g 34 cs) (by kernel_rfl) ?_;change wpAnyH _ _ _ _ _ _ _ _ w4.drew
  have S0:Hid (Blk w4.drew g 34 cs):=K4.out.drew;have b0:Hid (Below w.heap.size w w4.drew):=M4.out.drew;have HF_0:=hI (HF.out.drew);have HD_0:=hI (HXD.out.drew);refine tK 0 _ rfl (v0a (by kernel_rfl) (.tmp 6) rfl (.slice Af 8 cf) (by kernel_rfl)) S0.out ?_;refine tK 1 _ rfl (A0a (by kernel_rfl) _ (.tmp 3) 13 rfl (.pointer (some ⟨g,0,none⟩)) (.pointer (some ⟨g,59,none⟩)) (by kernel_rfl) (h4a g)) S0.out ?_;refine tK 2 _ rfl (l0a (by kernel_rfl) _ (.tmp 82) rfl g 59 (by kernel_rfl) (.int .u64 a.at_) (λw h=>(FC.out w g h).2.2.2.2.2.2.2.2.1) _ Tryz.underlying25 rfl) S0.out ?_;refine tK 5 _ rfl (A0a (by kernel_rfl) _ (.tmp 3) 15 rfl (.pointer (some ⟨g,0,none⟩)) (.pointer (some ⟨g,61,none⟩)) (by kernel_rfl) (i4a g)) S0.out ?_;refine tK 6 _ rfl (l0a (by kernel_rfl) _ (.tmp 86) rfl g 61 (by kernel_rfl) (.slice X1 X2 X3) (λw h=>(FL.out w g h).1) _ Tryz.underlying31 rfl) S0.out ?_;refine tK 7 ((.int .i64 (X2:Int))) rfl (.inl ⟨by kernel_rfl,λw _=>by go_simp⟩) S0.out ?_;refine tK 8 ((.int .u64 (X2:Int))) rfl (.inl ⟨by kernel_rfl,λw _=>by go_simp⟩) S0.out ?_;refine tK 11 _ rfl (A0a (by kernel_rfl) _ (.tmp 3) 15 rfl (.pointer (some ⟨g,0,none⟩)) (.pointer (some ⟨g,61,none⟩)) (by kernel_rfl) (i4a g)) S0.out ?_;refine tK 12 _ rfl (l0a (by kernel_rfl) _ (.tmp 92) rfl g 61 (by kernel_rfl) (.slice X1 X2 X3) (λw h=>(FL.out w g h).1) _ Tryz.underlying31 rfl) S0.out ?_;refine n0a λfr1 hfr1=>?_
  refine k1a 3 9 _ _ (by kernel_rfl) rfl rfl (λK hK=>?_) (λK hK=>?_)
  ·skip
   refine i0a rfl _ _ 1 _ rfl Tryz.underlying204 ([.int .u64 a.at_]:List Value) (by rw[hfr1];kernel_rfl) ?_;intro g2 wt2 qa qb Y2 L2;have S2:=hI (S0.out.over L2.out);have b2:=hI (step b0.out L2.out);have HF_2:=hI (HF_0.out.over L2.out);have HD_2:=hI (HD_0.out.over L2.out);refine hK _ _ S2.out ?_;clear hK K;subst hfr1;refine n0a λfr3 hfr3=>?_
   refine k1a 4 9 _ _ (by kernel_rfl) rfl rfl (λK hK=>?_) (λK hK=>?_)
   ·skip
    subst hfr3;go_simp;refine(CA8.out _ _ Y2.out).mono ?_;rintro e wt4 ⟨A4,c4,rfl,⟨_,hY4⟩,L04⟩;have Y4:=hI hY4;have L4:=hI L04;clear hY4 L04;have S4:=hI (S2.out.over L4.out);have b4:=hI (step b2.out L4.out);have HF_4:=hI (HF_2.out.over L4.out);have HD_4:=hI (HD_2.out.over L4.out);refine hK _ _ S4.out ?_;clear hK K;refine n0a λfr5 hfr5=>?_
    refine oN 9 _ rfl λK hK=>?_
    refine i0a rfl _ _ 1 _ rfl Tryz.underlying204 ([.int .u64 (X2:Int)]:List Value) (by rw[hfr5];kernel_rfl) ?_;intro g6 wt6 qa qb Y6 L6;have S6:=hI (S4.out.over L6.out);have b6:=hI (step b4.out L6.out);have HF_6:=hI (HF_4.out.over L6.out);have HD_6:=hI (HD_4.out.over L6.out);have xA_6:=hI (Y4.out.over L6.out);refine hK _ _ S6.out ?_;clear hK K;subst hfr5;refine oN 10 _ rfl λK hK=>?_
    go_simp;refine(CN4.out _ _ Y6.out).mono ?_;rintro e wt7 ⟨A7,c7,rfl,⟨_,hY7⟩,L07⟩;have Y7:=hI hY7;have L7:=hI L07;clear hY7 L07;have S7:=hI (S6.out.over L7.out);have b7:=hI (step b6.out L7.out);have HF_7:=hI (HF_6.out.over L7.out);have HD_7:=hI (HD_6.out.over L7.out);have xA_7:=hI (xA_6.out.over L7.out);refine hK _ _ S7.out ?_;clear hK K;refine n0a λfr8 hfr8=>?_
    refine oN 13 _ rfl λK hK=>?_
    refine i0a rfl _ _ 4 _ rfl Tryz.underlying99 ([.slice Af 8 cf,.slice A4 8 c4,.slice A7 4 c7,.slice X1 X2 X3]:List Value) (by rw[hfr8];kernel_rfl) ?_;intro g9 wt9 qa qb Y09 L9;have Y9:Hid (f1a wt9 g9 4 (x2a [(Af,8,cf,f8),(A4,8,c4,a8),(A7,4,c7,n4),(X1,X2,X3,a.data)]) (y2a [(Af,8,cf,f8),(A4,8,c4,a8),(A7,4,c7,n4),(X1,X2,X3,a.data)]) (z2a [(Af,8,cf,f8),(A4,8,c4,a8),(A7,4,c7,n4),(X1,X2,X3,a.data)]) (o1a [(Af,8,cf,f8),(A4,8,c4,a8),(A7,4,c7,n4),(X1,X2,X3,a.data)])):=f1a.of_blk [(Af,8,cf,f8),(A4,8,c4,a8),(A7,4,c7,n4),(X1,X2,X3,a.data)] Y09.out (List.forall_mem_cons.2 ⟨HF_7.out.over L9.out,List.forall_mem_cons.2 ⟨xA_7.out.over L9.out,List.forall_mem_cons.2 ⟨Y7.out.over L9.out,List.forall_mem_cons.2 ⟨HD_7.out.over L9.out,λ_ h=>by cases h⟩⟩⟩⟩);clear Y09;have S9:=hI (S7.out.over L9.out);have b9:=hI (step b7.out L9.out);refine hK _ _ S9.out ?_;clear hK K;subst hfr8;refine oN 14 _ rfl λK hK=>?_
    go_simp;refine(CC.out _ g9 4 _ _ _ _ Y9.out (by omega) (by show 0+8+8+4+X2<=_;omega)).mono ?_;rintro e wt10 ⟨v,rfl,hY10,L010⟩;have OUT:=hI hY10;have L10:=hI L010;clear hY10 L010;have hsz0:=b9.out.size;have S10:=hI (S9.out.over L10.out);have b10:=hI (step b9.out L10.out);refine hK _ _ S10.out ?_;clear hK K;refine oN 15 _ rfl λK hK=>?_
    go_simp;refine hK _ _ S10.out ?_;clear hK K;refine oN 16 _ rfl λK hK=>?_
    go_simp;refine hK _ _ S10.out ?_;clear hK K;refine dN ?_;have HO6:=hI (P0a.mono OUT.out (Nat.le_trans (hsz0) (Nat.le_refl _)));go_wp2;go_ret2;refine HQ.out _ _ _ rfl ?_ b10.out;have h9:=HO6.out;simpa[Q3a,o1a,List.append_assoc] using h9
   ·skip
    refine i0a rfl _ _ 1 _ rfl Tryz.underlying204 ([.int .u64 (X2:Int)]:List Value) (by rw[hfr3];kernel_rfl) ?_;intro g13 wt13 qa qb Y13 L13;have S13:=hI (S2.out.over L13.out);have b13:=hI (step b2.out L13.out);have HF_13:=hI (HF_2.out.over L13.out);have HD_13:=hI (HD_2.out.over L13.out);have lA_13:=hI (Y2.out.over L13.out);refine hK _ _ S13.out ?_;clear hK K;subst hfr3;refine oN 4 _ rfl λK hK=>?_
    go_simp;refine(CA8.out _ _ lA_13.out).mono ?_;rintro e wt14 ⟨A14,c14,rfl,⟨_,hY14⟩,L014⟩;have Y14:=hI hY14;have L14:=hI L014;clear hY14 L014;have S14:=hI (S13.out.over L14.out);have b14:=hI (step b13.out L14.out);have HF_14:=hI (HF_13.out.over L14.out);have HD_14:=hI (HD_13.out.over L14.out);have lC_14:=hI (Y13.out.over L14.out);refine hK _ _ S14.out ?_;clear hK K;refine oN 10 _ rfl λK hK=>?_
    go_simp;refine(CN4.out _ _ lC_14.out).mono ?_;rintro e wt15 ⟨A15,c15,rfl,⟨_,hY15⟩,L015⟩;have Y15:=hI hY15;have L15:=hI L015;clear hY15 L015;have S15:=hI (S14.out.over L15.out);have b15:=hI (step b14.out L15.out);have HF_15:=hI (HF_14.out.over L15.out);have HD_15:=hI (HD_14.out.over L15.out);have xA_15:=hI (Y14.out.over L15.out);refine hK _ _ S15.out ?_;clear hK K;refine n0a λfr16 hfr16=>?_
    refine oN 13 _ rfl λK hK=>?_
    refine i0a rfl _ _ 4 _ rfl Tryz.underlying99 ([.slice Af 8 cf,.slice A14 8 c14,.slice A15 4 c15,.slice X1 X2 X3]:List Value) (by rw[hfr16];kernel_rfl) ?_;intro g17 wt17 qa qb Y017 L17;have Y17:Hid (f1a wt17 g17 4 (x2a [(Af,8,cf,f8),(A14,8,c14,a8),(A15,4,c15,n4),(X1,X2,X3,a.data)]) (y2a [(Af,8,cf,f8),(A14,8,c14,a8),(A15,4,c15,n4),(X1,X2,X3,a.data)]) (z2a [(Af,8,cf,f8),(A14,8,c14,a8),(A15,4,c15,n4),(X1,X2,X3,a.data)]) (o1a [(Af,8,cf,f8),(A14,8,c14,a8),(A15,4,c15,n4),(X1,X2,X3,a.data)])):=f1a.of_blk [(Af,8,cf,f8),(A14,8,c14,a8),(A15,4,c15,n4),(X1,X2,X3,a.data)] Y017.out (List.forall_mem_cons.2 ⟨HF_15.out.over L17.out,List.forall_mem_cons.2 ⟨xA_15.out.over L17.out,List.forall_mem_cons.2 ⟨Y15.out.over L17.out,List.forall_mem_cons.2 ⟨HD_15.out.over L17.out,λ_ h=>by cases h⟩⟩⟩⟩);clear Y017;have S17:=hI (S15.out.over L17.out);have b17:=hI (step b15.out L17.out);refine hK _ _ S17.out ?_;clear hK K;subst hfr16;refine oN 14 _ rfl λK hK=>?_
    go_simp;refine(CC.out _ g17 4 _ _ _ _ Y17.out (by omega) (by show 0+8+8+4+X2<=_;omega)).mono ?_;rintro e wt18 ⟨v,rfl,hY18,L018⟩;have OUT:=hI hY18;have L18:=hI L018;clear hY18 L018;have hsz0:=b17.out.size;have S18:=hI (S17.out.over L18.out);have b18:=hI (step b17.out L18.out);refine hK _ _ S18.out ?_;clear hK K;refine oN 15 _ rfl λK hK=>?_
    go_simp;refine hK _ _ S18.out ?_;clear hK K;refine oN 16 _ rfl λK hK=>?_
    go_simp;refine hK _ _ S18.out ?_;clear hK K;refine dN ?_;have HO6:=hI (P0a.mono OUT.out (Nat.le_trans (hsz0) (Nat.le_refl _)));go_wp2;go_ret2;refine HQ.out _ _ _ rfl ?_ b18.out;have h9:=HO6.out;simpa[Q3a,o1a,List.append_assoc] using h9
  ·skip
   refine i0a rfl _ _ 1 _ rfl Tryz.underlying204 ([.int .u64 (X2:Int)]:List Value) (by rw[hfr1];kernel_rfl) ?_;intro g21 wt21 qa qb Y21 L21;have S21:=hI (S0.out.over L21.out);have b21:=hI (step b0.out L21.out);have HF_21:=hI (HF_0.out.over L21.out);have HD_21:=hI (HD_0.out.over L21.out);refine hK _ _ S21.out ?_;clear hK K;subst hfr1;refine n0a λfr22 hfr22=>?_
   refine oN 3 _ rfl λK hK=>?_
   refine i0a rfl _ _ 1 _ rfl Tryz.underlying204 ([.int .u64 a.at_]:List Value) (by rw[hfr22];kernel_rfl) ?_;intro g23 wt23 qa qb Y23 L23;have S23:=hI (S21.out.over L23.out);have b23:=hI (step b21.out L23.out);have HF_23:=hI (HF_21.out.over L23.out);have HD_23:=hI (HD_21.out.over L23.out);have lC_23:=hI (Y21.out.over L23.out);refine hK _ _ S23.out ?_;clear hK K;subst hfr22;refine oN 4 _ rfl λK hK=>?_
   go_simp;refine(CA8.out _ _ Y23.out).mono ?_;rintro e wt24 ⟨A24,c24,rfl,⟨_,hY24⟩,L024⟩;have Y24:=hI hY24;have L24:=hI L024;clear hY24 L024;have S24:=hI (S23.out.over L24.out);have b24:=hI (step b23.out L24.out);have HF_24:=hI (HF_23.out.over L24.out);have HD_24:=hI (HD_23.out.over L24.out);have lC_24:=hI (lC_23.out.over L24.out);refine hK _ _ S24.out ?_;clear hK K;refine oN 10 _ rfl λK hK=>?_
   go_simp;refine(CN4.out _ _ lC_24.out).mono ?_;rintro e wt25 ⟨A25,c25,rfl,⟨_,hY25⟩,L025⟩;have Y25:=hI hY25;have L25:=hI L025;clear hY25 L025;have S25:=hI (S24.out.over L25.out);have b25:=hI (step b24.out L25.out);have HF_25:=hI (HF_24.out.over L25.out);have HD_25:=hI (HD_24.out.over L25.out);have xA_25:=hI (Y24.out.over L25.out);refine hK _ _ S25.out ?_;clear hK K;refine n0a λfr26 hfr26=>?_
   refine oN 13 _ rfl λK hK=>?_
   refine i0a rfl _ _ 4 _ rfl Tryz.underlying99 ([.slice Af 8 cf,.slice A24 8 c24,.slice A25 4 c25,.slice X1 X2 X3]:List Value) (by rw[hfr26];kernel_rfl) ?_;intro g27 wt27 qa qb Y027 L27;have Y27:Hid (f1a wt27 g27 4 (x2a [(Af,8,cf,f8),(A24,8,c24,a8),(A25,4,c25,n4),(X1,X2,X3,a.data)]) (y2a [(Af,8,cf,f8),(A24,8,c24,a8),(A25,4,c25,n4),(X1,X2,X3,a.data)]) (z2a [(Af,8,cf,f8),(A24,8,c24,a8),(A25,4,c25,n4),(X1,X2,X3,a.data)]) (o1a [(Af,8,cf,f8),(A24,8,c24,a8),(A25,4,c25,n4),(X1,X2,X3,a.data)])):=f1a.of_blk [(Af,8,cf,f8),(A24,8,c24,a8),(A25,4,c25,n4),(X1,X2,X3,a.data)] Y027.out (List.forall_mem_cons.2 ⟨HF_25.out.over L27.out,List.forall_mem_cons.2 ⟨xA_25.out.over L27.out,List.forall_mem_cons.2 ⟨Y25.out.over L27.out,List.forall_mem_cons.2 ⟨HD_25.out.over L27.out,λ_ h=>by cases h⟩⟩⟩⟩);clear Y027;have S27:=hI (S25.out.over L27.out);have b27:=hI (step b25.out L27.out);refine hK _ _ S27.out ?_;clear hK K;subst hfr26;refine oN 14 _ rfl λK hK=>?_
   go_simp;refine(CC.out _ g27 4 _ _ _ _ Y27.out (by omega) (by show 0+8+8+4+X2<=_;omega)).mono ?_;rintro e wt28 ⟨v,rfl,hY28,L028⟩;have OUT:=hI hY28;have L28:=hI L028;clear hY28 L028;have hsz0:=b27.out.size;have S28:=hI (S27.out.over L28.out);have b28:=hI (step b27.out L28.out);refine hK _ _ S28.out ?_;clear hK K;refine oN 15 _ rfl λK hK=>?_
   go_simp;refine hK _ _ S28.out ?_;clear hK K;refine oN 16 _ rfl λK hK=>?_
   go_simp;refine hK _ _ S28.out ?_;clear hK K;refine dN ?_;have HO6:=hI (P0a.mono OUT.out (Nat.le_trans (hsz0) (Nat.le_refl _)));go_wp2;go_ret2;refine HQ.out _ _ _ rfl ?_ b28.out;have h9:=HO6.out;simpa[Q3a,o1a,List.append_assoc] using h9
 ·subst h10;rw[if_neg (by decide)] at HOK;have HQ:=hI (HQ0.out HOK.out);have hb0:e8a 10 a=le a.file 8++(le a.locks.length 2++(List.replicate 2 0++w2a a.locks)):=rfl;rw[hb0] at HQ;have CK:Hid (∀w',Below w.heap.size w w'->Calls Tryz.prog 153 #[.slice M1 M2 M3] w' λe w2=>(∃v,e=.returned v/\P0a .u8 5 w2 w'.heap.size v (le a.locks.length 2++(List.replicate 2 0++w2a a.locks)))/\Below w'.heap.size w' w2):=λw' hb=>(z3b w' M1 M2 M3 a.locks (HM.out.over hb) hm3 ka.locks).mono λe w2 ⟨v,h1,h2,h3⟩=>⟨⟨v,h1,h2⟩,h3⟩
  have HLT:Hid ((le a.locks.length 2++(List.replicate 2 0++w2a a.locks)).length<=1000/\Bytes (le a.locks.length 2++(List.replicate 2 0++w2a a.locks))):=by refine⟨?_,(F0a _ _).append ((Bytes.zeros 2).append (z6a _))⟩;rw[List.length_append,List.length_append,G8a,w0a,List.length_replicate,HM.out.len];omega
  obtain⟨f8,hf8⟩:∃x,x=le a.file 8:=⟨_,rfl⟩;rw[<-hf8] at CF8 HQ;obtain⟨tx,htx⟩:∃x,x=le (a.locks.length:Int) 2++(List.replicate 2 0++w2a a.locks):=⟨_,rfl⟩;rw[<-htx] at CK HQ HLT;obtain⟨hlt,hlb⟩:=HLT.out;obtain⟨lt,hltx⟩:∃x,x=tx.length:=⟨_,rfl⟩;have HLTX:=hI hltx;rw[<-hltx] at hlt;clear hf8 htx HOK HQ0 hb0 hltx;go_enter Tryz.func107,Tryz.ntmps107;go_wp2_with(first
   | ((with_reducible refine sN 3 ?_);refine g0a rfl _ (.tmp 1) rfl cs rfl ?_;intro g w1 hg1 hg2 K1 L1)
   | ((with_reducible refine sN 11 ?_);refine f0a rfl _ (.tmp 3) rfl g rfl _ cs K1 69 _ Tryz.underlying34 rfl p0a HL ?_)
   | fail)
  refine(CN.out w1 L1.out).mono ?_;rintro e w2 ⟨rfl,L2⟩;have K2:=hI (K1.out.over L2);have M2':=hI (step L1.out L2);obtain⟨c61,c62⟩:=FL.out w2 g K2.out;clear L2 K1 L1 CN;obtain⟨c51,c52,c53,c54,c55,c56,c57,c58,c59,c60⟩:=FC.out w2 g K2.out;go_wp2_with(first
   | ((with_reducible refine sN 26 ?_);refine q1a rfl _ _ 1 _ rfl Tryz.underlying204 ([.int .u64 a.file]:List Value) (by kernel_rfl) ?_;intro g3 w3 hg5 hg6 Y3 L3)
   | fail)
  refine(CF8.out w3 g3 Y3.out).mono ?_;rintro e w4 ⟨Af,cf,rfl,⟨hOf,hHf⟩,L4⟩;have HF:=hI hHf;have K4:=hI ((K2.out.over L3.out).over L4);have M4:=hI (step (step M2'.out L3.out) L4);have OF:=hI (P0a.mono hOf (Nat.le_trans M2'.out.size L3.out.size));have HXD:=hI (HX.out.over M4.out);have hs4:=M4.out.size;clear hHf hOf L4 L3 Y3 K2 M2' c51 c52 c53 c54 c55 c56 c57 c58 c59 c60 c61 c62 CF8;obtain⟨c61,c62⟩:=FL.out w4 g K4.out;go_wp2_with fail;refine(CK.out w4 M4.out).mono ?_;rintro e w5 ⟨⟨v,rfl,hv⟩,L5⟩;obtain⟨At,ct,rfl,hHt⟩:=P0a.holds8 hv hlb (by rw[<-HLTX.out];omega);rw[<-HLTX.out] at hHt⊢;have HTX:=hI hHt;have M5:=hI (step M4.out L5);have HF5:=hI (HF.out.over L5);have hs5:=M5.out.size;clear hv hHt L5 K4 M4 HF OF HXD;go_wp2_with(first
   | ((with_reducible refine sN 102 ?_);refine G2a rfl 2 _ rfl [(Af,8,cf,f8),(At,lt,ct,tx)] rfl (by kernel_rfl) (List.forall_mem_cons.2 ⟨HF5.out,List.forall_mem_cons.2 ⟨HTX.out,λ_ h=>by cases h⟩⟩) ?_;intro g6 w6 hP6 L6)
   | fail)
  refine(CC.out w6 g6 2 _ _ _ _ hP6.out (by omega) (by show 0+8+lt<=_;omega)).mono ?_;rintro e w7 ⟨v,rfl,ho,L7⟩;have HO6:=hI (P0a.mono ho (Nat.le_trans hs5 L6.out.size));have M7:=hI (step (step M5.out L6.out) L7);clear ho L7 L6 hP6;go_wp2;go_ret2;refine HQ.out _ _ _ rfl ?_ M7.out;have h9:=HO6.out;simpa[Q3a,o1a,List.append_assoc] using h9
theorem j1b(w:World)(c:Int)(cs:List Value)(a:W1a)(hc:0<=c/\c<=65535)(ka:a.ok)(ha:w1a w w.heap.size cs a) :
  Calls Tryz.prog 162 #[.int .u16 c,.agg cs.toArray] w λe w'=>e=.returned (.bool (i3a c a))/\Below w.heap.size w w':=by
 have HL:=hI (ha.len ka);have hcl:=ka.clen;have CP:Hid (∀(w':World) (ds:List Value) (b:W1a),b.ok->w1a w' w'.heap.size ds b->Calls Tryz.prog 105 #[.int .u16 13,.agg ds.toArray] w' λe w2=>(∃v er,e=.returned (.tuple #[v,.int .i64 er])/\(er==0)=decide (b=s0a))/\Below w'.heap.size w' w2):=λw' ds b kb hb=>by have h:=D0b w' 13 ds b (by decide) kb hb;exact h.mono λe w2 ⟨v,h1,_,h3⟩=>⟨⟨v,_,h1,y3b b⟩,h3⟩
 have kb:=w4b (c:=c) ka;by_cases hk:I2a c=true;rotate_left
 ·have hn0:i3a c a=false:=by unfold i3a;rw[show I2a c=false from by simpa using hk];rfl
  have hk':c≠5/\c≠6/\c≠7/\c≠8/\c≠9/\c≠10:=by refine⟨?_,?_,?_,?_,?_,?_⟩<;>(rintro rfl;exact hk (by decide))
  obtain⟨h5,h6,h7,h8,h9,h10⟩:=hk';have b5:(c==5)=false:=by simpa using h5
  have b6:(c==6)=false:=by simpa using h6
  have b7:(c==7)=false:=by simpa using h7
  have b8:(c==8)=false:=by simpa using h8
  have b9:(c==9)=false:=by simpa using h9
  have b10:(c==10)=false:=by simpa using h10
  rw[hn0];clear hk hn0 h5 h6 h7 h8 h9 h10 ha ka kb CP;go_enter Tryz.func162,Tryz.ntmps162;go_wp2_with(first
   | ((with_reducible refine sN 3 ?_);refine g0a rfl _ (.tmp 1) rfl cs rfl ?_;intro g w1 hg1 hg2 K1 L1)
   | fail)
  go_ret;exact⟨rfl,L1.out⟩
 have hcs:c=5∨c=6∨c=7∨c=8∨c=9∨c=10:=by unfold I2a at hk;simp at hk;omega
 obtain⟨X1,X2,X3,M1,M2,M3,rfl,hX,hM⟩:=ha;obtain⟨C0,hC0⟩:∃x,x=y0a (.slice X1 X2 X3) (.slice M1 M2 M3) a:=⟨_,rfl⟩;have HC0:=hI hC0;rw[<-hC0] at HL ⊢;clear hC0;rcases hcs with h5 | h6 | h7 | h8 | h9 | h10
 ·subst h5;have HI:Hid (∀w':World,Below w.heap.size w w'->w1a w' w'.heap.size (y0a (.slice X1 X2 X3) (.slice M1 M2 M3) (m1a 5 a)) (m1a 5 a)):=λw' hb=>⟨X1,X2,X3,M1,M2,M3,rfl,hX.over hb,hM.over hb⟩
  have HEQ:Hid (((((((C0).set 10 (.int .u8 0)).set 11 (.int .u8 0)).set 12 (.int .u16 0)).set 13 (.int .u64 0)).set 1 (.int .u64 0)).set 14 (.int .u8 0)=y0a (.slice X1 X2 X3) (.slice M1 M2 M3) (m1a 5 a)):=by
   show _=_
   rw[HC0.out];simp only[I0c,U0c,V0c,J0c,sc1,K0c,hcl];try rfl
  have hnf:i3a 5 a=decide (m1a 5 a=s0a):=by unfold i3a;rw[hk,Bool.true_and]
  rw[hnf];obtain⟨b,hb⟩:∃x,x=m1a 5 a:=⟨_,rfl⟩;rw[<-hb] at HI HEQ kb ⊢;obtain⟨D,hD⟩:∃x,x=y0a (.slice X1 X2 X3) (.slice M1 M2 M3) b:=⟨_,rfl⟩;rw[<-hD] at HI HEQ;clear hb hD hk ka;go_enter Tryz.func162,Tryz.ntmps162;go_wp2_with(first
   | ((with_reducible refine sN 3 ?_);refine g0a rfl _ (.tmp 1) rfl C0 rfl ?_;intro g w1 hg1 hg2 K1 L1)
   | ((with_reducible refine sT 10 ?_);refine d0a rfl _ (.tmp 10) (.const (.int .u8 0)) rfl g 10 rfl _ C0 (.int .u8 0) rfl K1 (hI (by have:=HL.out;omega)) (by kernel_rfl) rfl ?_;intro w2 K2 O2 hq2;obtain⟨C1,hC1⟩:∃x,x=C0.set 10 (.int .u8 0):=⟨_,rfl⟩;have HC1:=hI hC1;have HL1:Hid (C1.length=20):=(by rw[hC1,List.length_set];exact HL.out);rw[<-hC1] at K2;have L2:=hI (c0a L1.out O2.out hg1);clear hC1)
   | ((with_reducible refine sT 11 ?_);refine d0a rfl _ (.tmp 11) (.const (.int .u8 0)) rfl g 11 rfl _ C1 (.int .u8 0) rfl K2 (hI (by have:=HL1.out;omega)) (by kernel_rfl) rfl ?_;intro w3 K3 O3 hq3;obtain⟨C2,hC2⟩:∃x,x=C1.set 11 (.int .u8 0):=⟨_,rfl⟩;have HC2:=hI hC2;have HL2:Hid (C2.length=20):=(by rw[hC2,List.length_set];exact HL1.out);rw[<-hC2] at K3;have L3:=hI (c0a L2.out O3.out hg1);clear hC2)
   | ((with_reducible refine sT 12 ?_);refine d0a rfl _ (.tmp 12) (.const (.int .u16 0)) rfl g 12 rfl _ C2 (.int .u16 0) rfl K3 (hI (by have:=HL2.out;omega)) (by kernel_rfl) rfl ?_;intro w4 K4 O4 hq4;obtain⟨C3,hC3⟩:∃x,x=C2.set 12 (.int .u16 0):=⟨_,rfl⟩;have HC3:=hI hC3;have HL3:Hid (C3.length=20):=(by rw[hC3,List.length_set];exact HL2.out);rw[<-hC3] at K4;have L4:=hI (c0a L3.out O4.out hg1);clear hC3)
   | ((with_reducible refine sT 13 ?_);refine d0a rfl _ (.tmp 13) (.const (.int .u64 0)) rfl g 13 rfl _ C3 (.int .u64 0) rfl K4 (hI (by have:=HL3.out;omega)) (by kernel_rfl) rfl ?_;intro w5 K5 O5 hq5;obtain⟨C4,hC4⟩:∃x,x=C3.set 13 (.int .u64 0):=⟨_,rfl⟩;have HC4:=hI hC4;have HL4:Hid (C4.length=20):=(by rw[hC4,List.length_set];exact HL3.out);rw[<-hC4] at K5;have L5:=hI (c0a L4.out O5.out hg1);clear hC4)
   | ((with_reducible refine sT 14 ?_);refine d0a rfl _ (.tmp 14) (.const (.int .u64 0)) rfl g 1 rfl _ C4 (.int .u64 0) rfl K5 (hI (by have:=HL4.out;omega)) (by kernel_rfl) rfl ?_;intro w6 K6 O6 hq6;obtain⟨C5,hC5⟩:∃x,x=C4.set 1 (.int .u64 0):=⟨_,rfl⟩;have HC5:=hI hC5;have HL5:Hid (C5.length=20):=(by rw[hC5,List.length_set];exact HL4.out);rw[<-hC5] at K6;have L6:=hI (c0a L5.out O6.out hg1);clear hC5)
   | ((with_reducible refine sT 15 ?_);refine d0a rfl _ (.tmp 15) (.const (.int .u8 0)) rfl g 14 rfl _ C5 (.int .u8 0) rfl K6 (hI (by have:=HL5.out;omega)) (by kernel_rfl) rfl ?_;intro w7 K7 O7 hq7;obtain⟨C6,hC6⟩:∃x,x=C5.set 14 (.int .u8 0):=⟨_,rfl⟩;have HC6:=hI hC6;have HL6:Hid (C6.length=20):=(by rw[hC6,List.length_set];exact HL5.out);rw[<-hC6] at K7;have L7:=hI (c0a L6.out O7.out hg1);clear hC6)
   | ((with_reducible refine sN 27 ?_);refine f0a rfl _ (.tmp 3) rfl g rfl _ C6 K7 20 _ Tryz.underlying39 rfl t0a HL6 ?_)
   | fail)
  have HF:Hid (C6=D):=by
   show _=_
   rw[HC6.out,HC5.out,HC4.out,HC3.out,HC2.out,HC1.out];exact HEQ.out
  rw[HF.out];refine(CP.out _ D b kb (HI.out _ L7.out)).mono ?_;rintro e v1 ⟨⟨v,er,rfl,her⟩,LQ⟩;have HER:=hI her;have L99:=hI (step L7.out LQ);clear her LQ;go_wp2;go_ret;exact⟨K0a HER.out,L99.out⟩
 ·subst h6;have HI:Hid (∀w':World,Below w.heap.size w w'->w1a w' w'.heap.size (y0a (.slice X1 X2 X3) (.slice M1 M2 M3) (m1a 6 a)) (m1a 6 a)):=λw' hb=>⟨X1,X2,X3,M1,M2,M3,rfl,hX.over hb,hM.over hb⟩
  have HEQ:Hid (C0=y0a (.slice X1 X2 X3) (.slice M1 M2 M3) (m1a 6 a)):=by
   show _=_
   exact HC0.out
  have hnf:i3a 6 a=decide (m1a 6 a=s0a):=by unfold i3a;rw[hk,Bool.true_and]
  rw[hnf];obtain⟨b,hb⟩:∃x,x=m1a 6 a:=⟨_,rfl⟩;rw[<-hb] at HI HEQ kb ⊢;obtain⟨D,hD⟩:∃x,x=y0a (.slice X1 X2 X3) (.slice M1 M2 M3) b:=⟨_,rfl⟩;rw[<-hD] at HI HEQ;clear hb hD hk ka;go_enter Tryz.func162,Tryz.ntmps162;go_wp2_with(first
   | ((with_reducible refine sN 3 ?_);refine g0a rfl _ (.tmp 1) rfl C0 rfl ?_;intro g w1 hg1 hg2 K1 L1)
   | ((with_reducible refine sN 27 ?_);refine f0a rfl _ (.tmp 3) rfl g rfl _ C0 K1 20 _ Tryz.underlying39 rfl t0a HL ?_)
   | fail)
  have HF:Hid (C0=D):=by
   show _=_
   exact HEQ.out
  rw[HF.out];refine(CP.out _ D b kb (HI.out _ L1.out)).mono ?_;rintro e v1 ⟨⟨v,er,rfl,her⟩,LQ⟩;have HER:=hI her;have L99:=hI (step L1.out LQ);clear her LQ;go_wp2;go_ret;exact⟨K0a HER.out,L99.out⟩
 ·subst h7;have HI:Hid (∀w':World,Below w.heap.size w w'->w1a w' w'.heap.size (y0a (.slice X1 X2 X3) (.slice M1 M2 M3) (m1a 7 a)) (m1a 7 a)):=λw' hb=>⟨X1,X2,X3,M1,M2,M3,rfl,hX.over hb,hM.over hb⟩
  have HEQ:Hid (C0=y0a (.slice X1 X2 X3) (.slice M1 M2 M3) (m1a 7 a)):=by
   show _=_
   exact HC0.out
  have hnf:i3a 7 a=decide (m1a 7 a=s0a):=by unfold i3a;rw[hk,Bool.true_and]
  rw[hnf];obtain⟨b,hb⟩:∃x,x=m1a 7 a:=⟨_,rfl⟩;rw[<-hb] at HI HEQ kb ⊢;obtain⟨D,hD⟩:∃x,x=y0a (.slice X1 X2 X3) (.slice M1 M2 M3) b:=⟨_,rfl⟩;rw[<-hD] at HI HEQ;clear hb hD hk ka;go_enter Tryz.func162,Tryz.ntmps162;go_wp2_with(first
   | ((with_reducible refine sN 3 ?_);refine g0a rfl _ (.tmp 1) rfl C0 rfl ?_;intro g w1 hg1 hg2 K1 L1)
   | ((with_reducible refine sN 27 ?_);refine f0a rfl _ (.tmp 3) rfl g rfl _ C0 K1 20 _ Tryz.underlying39 rfl t0a HL ?_)
   | fail)
  have HF:Hid (C0=D):=by
   show _=_
   exact HEQ.out
  rw[HF.out];refine(CP.out _ D b kb (HI.out _ L1.out)).mono ?_;rintro e v1 ⟨⟨v,er,rfl,her⟩,LQ⟩;have HER:=hI her;have L99:=hI (step L1.out LQ);clear her LQ;go_wp2;go_ret;exact⟨K0a HER.out,L99.out⟩
 ·subst h8;have HI:Hid (∀w':World,Below w.heap.size w w'->w1a w' w'.heap.size (y0a (.slice none 0 0) (.slice M1 M2 M3) (m1a 8 a)) (m1a 8 a)):=λw' hb=>⟨none,0,0,M1,M2,M3,rfl,Holds.nil _ _,hM.over hb⟩
  have HEQ:Hid ((C0).set 15 (.slice none 0 0)=y0a (.slice none 0 0) (.slice M1 M2 M3) (m1a 8 a)):=by
   show _=_
   rw[HC0.out];simp only[A0c,hcl];try rfl
  have hnf:i3a 8 a=decide (m1a 8 a=s0a):=by unfold i3a;rw[hk,Bool.true_and]
  rw[hnf];obtain⟨b,hb⟩:∃x,x=m1a 8 a:=⟨_,rfl⟩;rw[<-hb] at HI HEQ kb ⊢;obtain⟨D,hD⟩:∃x,x=y0a (.slice none 0 0) (.slice M1 M2 M3) b:=⟨_,rfl⟩;rw[<-hD] at HI HEQ;clear hb hD hk ka;go_enter Tryz.func162,Tryz.ntmps162;go_wp2_with(first
   | ((with_reducible refine sN 3 ?_);refine g0a rfl _ (.tmp 1) rfl C0 rfl ?_;intro g w1 hg1 hg2 K1 L1)
   | ((with_reducible refine sT 18 ?_);refine d0a rfl _ (.tmp 18) (.const (.slice none 0 0)) rfl g 15 rfl _ C0 (.slice none 0 0) rfl K1 (hI (by have:=HL.out;omega)) (by kernel_rfl) rfl ?_;intro w2 K2 O2 hq2;obtain⟨C1,hC1⟩:∃x,x=C0.set 15 (.slice none 0 0):=⟨_,rfl⟩;have HC1:=hI hC1;have HL1:Hid (C1.length=20):=(by rw[hC1,List.length_set];exact HL.out);rw[<-hC1] at K2;have L2:=hI (c0a L1.out O2.out hg1);clear hC1)
   | ((with_reducible refine sN 27 ?_);refine f0a rfl _ (.tmp 3) rfl g rfl _ C1 K2 20 _ Tryz.underlying39 rfl t0a HL1 ?_)
   | fail)
  have HF:Hid (C1=D):=by
   show _=_
   rw[HC1.out];exact HEQ.out
  rw[HF.out];refine(CP.out _ D b kb (HI.out _ L2.out)).mono ?_;rintro e v1 ⟨⟨v,er,rfl,her⟩,LQ⟩;have HER:=hI her;have L99:=hI (step L2.out LQ);clear her LQ;go_wp2;go_ret;exact⟨K0a HER.out,L99.out⟩
 ·subst h9;have HI:Hid (∀w':World,Below w.heap.size w w'->w1a w' w'.heap.size (y0a (.slice X1 X2 X3) (.slice M1 M2 M3) (m1a 9 a)) (m1a 9 a)):=λw' hb=>⟨X1,X2,X3,M1,M2,M3,rfl,hX.over hb,hM.over hb⟩
  have HEQ:Hid ((C0).set 16 (.int .u32 0)=y0a (.slice X1 X2 X3) (.slice M1 M2 M3) (m1a 9 a)):=by
   show _=_
   rw[HC0.out];simp only[W0c,hcl];try rfl
  have hnf:i3a 9 a=decide (m1a 9 a=s0a):=by unfold i3a;rw[hk,Bool.true_and]
  rw[hnf];obtain⟨b,hb⟩:∃x,x=m1a 9 a:=⟨_,rfl⟩;rw[<-hb] at HI HEQ kb ⊢;obtain⟨D,hD⟩:∃x,x=y0a (.slice X1 X2 X3) (.slice M1 M2 M3) b:=⟨_,rfl⟩;rw[<-hD] at HI HEQ;clear hb hD hk ka;go_enter Tryz.func162,Tryz.ntmps162;go_wp2_with(first
   | ((with_reducible refine sN 3 ?_);refine g0a rfl _ (.tmp 1) rfl C0 rfl ?_;intro g w1 hg1 hg2 K1 L1)
   | ((with_reducible refine sT 21 ?_);refine d0a rfl _ (.tmp 21) (.const (.int .u32 0)) rfl g 16 rfl _ C0 (.int .u32 0) rfl K1 (hI (by have:=HL.out;omega)) (by kernel_rfl) rfl ?_;intro w2 K2 O2 hq2;obtain⟨C1,hC1⟩:∃x,x=C0.set 16 (.int .u32 0):=⟨_,rfl⟩;have HC1:=hI hC1;have HL1:Hid (C1.length=20):=(by rw[hC1,List.length_set];exact HL.out);rw[<-hC1] at K2;have L2:=hI (c0a L1.out O2.out hg1);clear hC1)
   | ((with_reducible refine sN 27 ?_);refine f0a rfl _ (.tmp 3) rfl g rfl _ C1 K2 20 _ Tryz.underlying39 rfl t0a HL1 ?_)
   | fail)
  have HF:Hid (C1=D):=by
   show _=_
   rw[HC1.out];exact HEQ.out
  rw[HF.out];refine(CP.out _ D b kb (HI.out _ L2.out)).mono ?_;rintro e v1 ⟨⟨v,er,rfl,her⟩,LQ⟩;have HER:=hI her;have L99:=hI (step L2.out LQ);clear her LQ;go_wp2;go_ret;exact⟨K0a HER.out,L99.out⟩
 ·subst h10;have HI:Hid (∀w':World,Below w.heap.size w w'->w1a w' w'.heap.size (y0a (.slice X1 X2 X3) (.slice M1 M2 M3) (m1a 10 a)) (m1a 10 a)):=λw' hb=>⟨X1,X2,X3,M1,M2,M3,rfl,hX.over hb,hM.over hb⟩
  have HEQ:Hid (C0=y0a (.slice X1 X2 X3) (.slice M1 M2 M3) (m1a 10 a)):=by
   show _=_
   exact HC0.out
  have hnf:i3a 10 a=decide (m1a 10 a=s0a):=by unfold i3a;rw[hk,Bool.true_and]
  rw[hnf];obtain⟨b,hb⟩:∃x,x=m1a 10 a:=⟨_,rfl⟩;rw[<-hb] at HI HEQ kb ⊢;obtain⟨D,hD⟩:∃x,x=y0a (.slice X1 X2 X3) (.slice M1 M2 M3) b:=⟨_,rfl⟩;rw[<-hD] at HI HEQ;clear hb hD hk ka;go_enter Tryz.func162,Tryz.ntmps162;go_wp2_with(first
   | ((with_reducible refine sN 3 ?_);refine g0a rfl _ (.tmp 1) rfl C0 rfl ?_;intro g w1 hg1 hg2 K1 L1)
   | ((with_reducible refine sN 27 ?_);refine f0a rfl _ (.tmp 3) rfl g rfl _ C0 K1 20 _ Tryz.underlying39 rfl t0a HL ?_)
   | fail)
  have HF:Hid (C0=D):=by
   show _=_
   exact HEQ.out
  rw[HF.out];refine(CP.out _ D b kb (HI.out _ L1.out)).mono ?_;rintro e v1 ⟨⟨v,er,rfl,her⟩,LQ⟩;have HER:=hI her;have L99:=hI (step L1.out LQ);clear her LQ;go_wp2;go_ret;exact⟨K0a HER.out,L99.out⟩
def p8a(w:World)(c:Int)(a:W1a)(e:Ending)(w':World):Prop:=∃v,e=.returned (.tuple #[v,.int .i64 (V6a c a)])/\P0a .u8 5 w' w.heap.size v (O4b c a)/\Below w.heap.size w w'
theorem y4b(w:World)(c:Int)(cs:List Value)(a:W1a)(hc:0<=c/\c<=65535)(ka:a.ok)(ha:w1a w w.heap.size cs a) :
  Calls Tryz.prog 109 #[.int .u16 c,.agg cs.toArray] w (p8a w c a):=by
 have HL:=hI (ha.len ka);have HA:=hI ha;have CN:Hid (∀w',Below w.heap.size w w'->Calls Tryz.prog 162 #[.int .u16 c,.agg cs.toArray] w' λe w2=>e=.returned (.bool (i3a c a))/\Below w'.heap.size w' w2):=λw' hb=>j1b w' c cs a hc ka (HA.out.over hb)
 obtain⟨X1,X2,X3,M1,M2,M3,hcs,hX,hM⟩:=ha;have FL:Hid (∀(w:World) (g:Nat),Blk w g 39 cs->w.cell? ⟨g,15,none⟩=some (.slice X1 X2 X3)/\w.cell? ⟨g,12,none⟩=some (.int .u16 a.made)/\w.cell? ⟨g,14,none⟩=some (.int .u8 a.kind)):=λw g h=>by rw[hcs] at h;exact⟨h.at (D0a ka 5),h.at (D0a ka 2),h.at (D0a ka 4)⟩
 have hxl:a.data.length=X2:=hX.len;have hxr:=hX.room;have HE:Hid (∀er,V6a c a=er->er≠0->∀v e w',e=.returned (.tuple #[v,.int .i64 er])->v=.slice none 0 0->Below w.heap.size w w'->p8a w c a e w'):=by intro er h1 h2 v e w' he hv hb;unfold p8a O4b;rw[h1,if_neg h2];exact⟨_,he,by rw[hv];exact P0a.nil _ _ _ _,hb⟩
 by_cases hnf:i3a c a=true;rotate_left
 ·have hnb:i3a c a=false:=by simpa using hnf
  have HQ:=hI (HE.out 2 (by unfold V6a;rw[if_neg (λh=>hnf h.1)]) (by decide));rw[hnb] at CN;clear hnf hnb HE hX hM ka HA hcs hxl;go_enter Tryz.func109,Tryz.ntmps109;go_wp2_with(first
   | ((with_reducible refine sN 3 ?_);refine g0a rfl _ (.tmp 1) rfl cs rfl ?_;intro g w1 hg1 hg2 K1 L1)
   | ((with_reducible refine sN 9 ?_);refine f0a rfl _ (.tmp 3) rfl g rfl _ cs K1 20 _ Tryz.underlying39 rfl t0a HL ?_)
   | fail)
  refine(CN.out w1 L1.out).mono ?_;rintro e w2 ⟨rfl,L2⟩;have K2:=hI (K1.out.over L2);have M2':=hI (step L1.out L2);obtain⟨c15,c12,c14⟩:=FL.out w2 g K2.out;clear L2 K1 L1 CN;go_wp2;go_ret2;exact HQ.out _ _ _ rfl rfl M2'.out
 rw[hnf] at CN;by_cases hmd:a.made<=2;rotate_left
 ·have HQ:=hI (HE.out 2 (by unfold V6a;rw[if_neg (λh=>hmd h.2.1)]) (by decide));have hb1:decide (2<a.made)=true:=by rw[decide_eq_true_iff];omega
  clear hnf HE hX hM ka HA hcs hxl;go_enter Tryz.func109,Tryz.ntmps109;go_wp2_with(first
   | ((with_reducible refine sN 3 ?_);refine g0a rfl _ (.tmp 1) rfl cs rfl ?_;intro g w1 hg1 hg2 K1 L1)
   | ((with_reducible refine sN 9 ?_);refine f0a rfl _ (.tmp 3) rfl g rfl _ cs K1 20 _ Tryz.underlying39 rfl t0a HL ?_)
   | fail)
  refine(CN.out w1 L1.out).mono ?_;rintro e w2 ⟨rfl,L2⟩;have K2:=hI (K1.out.over L2);have M2':=hI (step L1.out L2);obtain⟨c15,c12,c14⟩:=FL.out w2 g K2.out;clear L2 K1 L1 CN;go_wp2;go_ret2;exact HQ.out _ _ _ rfl rfl M2'.out
 by_cases hkd:a.kind<=2;rotate_left
 ·have HQ:=hI (HE.out 2 (by unfold V6a;rw[if_neg (λh=>hkd h.2.2)]) (by decide));have hb1:decide (2<a.made)=false:=by rw[decide_eq_false_iff_not];omega
  have hb2:decide (2<a.kind)=true:=by rw[decide_eq_true_iff];omega
  clear hnf HE hX hM ka HA hcs hxl;go_enter Tryz.func109,Tryz.ntmps109;go_wp2_with(first
   | ((with_reducible refine sN 3 ?_);refine g0a rfl _ (.tmp 1) rfl cs rfl ?_;intro g w1 hg1 hg2 K1 L1)
   | ((with_reducible refine sN 9 ?_);refine f0a rfl _ (.tmp 3) rfl g rfl _ cs K1 20 _ Tryz.underlying39 rfl t0a HL ?_)
   | fail)
  refine(CN.out w1 L1.out).mono ?_;rintro e w2 ⟨rfl,L2⟩;have K2:=hI (K1.out.over L2);have M2':=hI (step L1.out L2);obtain⟨c15,c12,c14⟩:=FL.out w2 g K2.out;clear L2 K1 L1 CN;go_wp2;go_ret2;exact HQ.out _ _ _ rfl rfl M2'.out
 have hb1:decide (2<a.made)=false:=by rw[decide_eq_false_iff_not];omega
 have hb2:decide (2<a.kind)=false:=by rw[decide_eq_false_iff_not];omega
 by_cases hx3:X2<=32768;rotate_left
 ·have HQ:=hI (HE.out 3 (by unfold V6a;rw[if_pos ⟨hnf,hmd,hkd⟩,hxl,if_neg hx3]) (by decide));clear hnf HE hX hM ka HA hcs hxl;go_enter Tryz.func109,Tryz.ntmps109;go_wp2_with(first
   | ((with_reducible refine sN 3 ?_);refine g0a rfl _ (.tmp 1) rfl cs rfl ?_;intro g w1 hg1 hg2 K1 L1)
   | ((with_reducible refine sN 9 ?_);refine f0a rfl _ (.tmp 3) rfl g rfl _ cs K1 20 _ Tryz.underlying39 rfl t0a HL ?_)
   | fail)
  refine(CN.out w1 L1.out).mono ?_;rintro e w2 ⟨rfl,L2⟩;have K2:=hI (K1.out.over L2);have M2':=hI (step L1.out L2);obtain⟨c15,c12,c14⟩:=FL.out w2 g K2.out;clear L2 K1 L1 CN;go_wp2;go_ret2;exact HQ.out _ _ _ rfl rfl M2'.out
 have hk:I2a c=true:=by
  unfold i3a at hnf;cases h:I2a c
  ·rw[h,Bool.false_and] at hnf;exact absurd hnf (by decide)
  ·rfl
 have hcc:c=5∨c=6∨c=7∨c=8∨c=9∨c=10:=by unfold I2a at hk;simp at hk;omega
 have HQ0:Hid (∀v e w',e=.returned (.tuple #[v,.int .i64 0])->P0a .u8 5 w' w.heap.size v (U4a c a)->Below w.heap.size w w'->p8a w c a e w'):=by
  have h:V6a c a=0:=by unfold V6a;rw[if_pos ⟨hnf,hmd,hkd⟩,hxl,if_pos hx3]
  intro v e w' he hv hb;unfold p8a O4b;rw[h,if_pos rfl];exact⟨_,he,hv,hb⟩
 obtain⟨l_lev,u_lev⟩:=ka.lev;obtain⟨l_dur,u_dur⟩:=ka.dur;obtain⟨l_made,u_made⟩:=ka.made;obtain⟨l_file,u_file⟩:=ka.file;obtain⟨l_siz,u_siz⟩:=ka.siz;obtain⟨l_kind,u_kind⟩:=ka.kind;obtain⟨l_n,u_n⟩:=ka.n;have z_made:IntKind.u64.wrap a.made=a.made:=by rw[IntKind.wrap_u64];omega
 have z_kind:IntKind.u64.wrap a.kind=a.kind:=by rw[IntKind.wrap_u64];omega
 have z_n:IntKind.u64.wrap a.n=a.n:=by rw[IntKind.wrap_u64];omega
 have z_x:IntKind.u64.wrap (X2:Int)=(X2:Int):=by rw[IntKind.wrap_u64];omega
 have FC:Hid (∀(w:World) (g:Nat),Blk w g 39 cs->w.cell? ⟨g,1,none⟩=some (.int .u64 a.siz)/\w.cell? ⟨g,10,none⟩=some (.int .u8 a.lev)/\w.cell? ⟨g,11,none⟩=some (.int .u8 a.dur)/\w.cell? ⟨g,12,none⟩=some (.int .u16 a.made)/\w.cell? ⟨g,13,none⟩=some (.int .u64 a.file)/\w.cell? ⟨g,14,none⟩=some (.int .u8 a.kind)/\w.cell? ⟨g,16,none⟩=some (.int .u32 a.n)):=λw g h=>by rw[hcs] at h;exact⟨h.at rfl,h.at (D0a ka 0),h.at (D0a ka 1),h.at (D0a ka 2),h.at (D0a ka 3),h.at (D0a ka 4),h.at (D0a ka 6)⟩
 have CC:Hid (∀(w:World) (gs m:Nat) (A:Nat->Option Addr) (n c:Nat->Nat) (X:Nat->List Int),f1a w gs m A n c X->m<=1000->q1b n m<=140737488355328->Calls Tryz.prog 35 #[.slice (some ⟨gs,0,none⟩) m m] w λe w'=>∃v,e=.returned v/\P0a .u8 5 w' w.heap.size v (Q3a X m)/\Below w.heap.size w w'):=R2a;have HX:=hI hX;clear HE hX hM HA hcs hnf hxl hk hmd hkd;rcases hcc with h5 | h6 | h7 | h8 | h9 | h10
 ·subst h5;have HQ:=HQ0;have hb5:U4a 5 a=[a.lev,a.dur]++(le a.made 2++((le a.file 8++le a.siz 8)++(le a.kind 2++List.replicate 2 0))):=by unfold U4a;rw[if_pos rfl,le1 a.lev l_lev u_lev,le1 a.dur l_dur u_dur];simp only[List.append_assoc,List.cons_append,List.nil_append]
  rw[hb5] at HQ;have CM2:Hid (∀(w:World) (gl:Nat),Blk w gl 25 [.int .u64 a.made]->Calls Tryz.prog 152 #[.int .i64 2,.slice (some ⟨gl,0,none⟩) 1 1] w λe w'=>∃A' c',e=.returned (.slice A' 2 c')/\(P0a .u8 5 w' w.heap.size (.slice A' 2 c') (le a.made 2)/\Holds w' w'.heap.size A' 2 c' (le a.made 2))/\Below w.heap.size w w'):=λw gl hB=>by
   have h:=Y3a w gl 1 2 ([a.made]:List Int) hB rfl (by decide) (by decide) (λz hz=>by rw[show(256:Int)^2=65536 from by decide];simp only[List.mem_cons,List.not_mem_nil,or_false] at hz;rw[hz];omega)
   have e1:l2a 2 ([a.made]:List Int)=le a.made 2:=by simp[l2a]
   rw[e1] at h;have e2:(le a.made 2).length=2:=by simp[w0a]
   rw[e2] at h;exact h
  have CK2:Hid (∀(w:World) (gl:Nat),Blk w gl 25 [.int .u64 a.kind]->Calls Tryz.prog 152 #[.int .i64 2,.slice (some ⟨gl,0,none⟩) 1 1] w λe w'=>∃A' c',e=.returned (.slice A' 2 c')/\(P0a .u8 5 w' w.heap.size (.slice A' 2 c') (le a.kind 2)/\Holds w' w'.heap.size A' 2 c' (le a.kind 2))/\Below w.heap.size w w'):=λw gl hB=>by
   have h:=Y3a w gl 1 2 ([a.kind]:List Int) hB rfl (by decide) (by decide) (λz hz=>by rw[show(256:Int)^2=65536 from by decide];simp only[List.mem_cons,List.not_mem_nil,or_false] at hz;rw[hz];omega)
   have e1:l2a 2 ([a.kind]:List Int)=le a.kind 2:=by simp[l2a]
   rw[e1] at h;have e2:(le a.kind 2).length=2:=by simp[w0a]
   rw[e2] at h;exact h
  have CF16:Hid (∀(w:World) (gl:Nat),Blk w gl 25 [.int .u64 a.file,.int .u64 a.siz]->Calls Tryz.prog 152 #[.int .i64 8,.slice (some ⟨gl,0,none⟩) 2 2] w λe w'=>∃A' c',e=.returned (.slice A' 16 c')/\(P0a .u8 5 w' w.heap.size (.slice A' 16 c') (le a.file 8++le a.siz 8)/\Holds w' w'.heap.size A' 16 c' (le a.file 8++le a.siz 8))/\Below w.heap.size w w'):=λw gl hB=>by
   have h:=Y3a w gl 2 8 ([a.file,a.siz]:List Int) hB rfl (by decide) (by decide) (λz hz=>by rw[show(256:Int)^8=18446744073709551616 from by decide];simp only[List.mem_cons,List.not_mem_nil,or_false] at hz;rcases hz with hz | hz<;>omega)
   have e1:l2a 8 ([a.file,a.siz]:List Int)=le a.file 8++le a.siz 8:=by simp[l2a]
   rw[e1] at h;have e2:(le a.file 8++le a.siz 8).length=16:=by simp[w0a]
   rw[e2] at h;exact h
  have hld:Bytes [a.lev,a.dur]:=by intro x hx;simp only[List.mem_cons,List.not_mem_nil,or_false] at hx;rcases hx with hx | hx<;>omega
  have HLD:=hI hld;obtain⟨m2,hm2⟩:∃x,x=le a.made 2:=⟨_,rfl⟩;rw[<-hm2] at CM2 HQ;obtain⟨k2,hk2⟩:∃x,x=le a.kind 2:=⟨_,rfl⟩;rw[<-hk2] at CK2 HQ;obtain⟨fs,hfs⟩:∃x,x=le a.file 8++le a.siz 8:=⟨_,rfl⟩;rw[<-hfs] at CF16 HQ;clear hm2 hk2 hfs HQ0 hb5 hld;go_enter Tryz.func109,Tryz.ntmps109;go_wp2_with(first
   | ((with_reducible refine sN 3 ?_);refine g0a rfl _ (.tmp 1) rfl cs rfl ?_;intro g w1 hg1 hg2 K1 L1)
   | ((with_reducible refine sN 9 ?_);refine f0a rfl _ (.tmp 3) rfl g rfl _ cs K1 20 _ Tryz.underlying39 rfl t0a HL ?_)
   | fail)
  refine(CN.out w1 L1.out).mono ?_;rintro e w2 ⟨rfl,L2⟩;have K2:=hI (K1.out.over L2);have M2':=hI (step L1.out L2);obtain⟨c15,c12,c14⟩:=FL.out w2 g K2.out;clear L2 K1 L1 CN;go_upto_region 7 with fail
  go_cut [6,7] (λs6 s7 wx=>∃Ap cp Aq cq,s6=.slice Ap 2 cp/\s7=.slice Aq 2 cq/\Hid (Holds wx wx.heap.size Ap 2 cp m2)/\Hid (Holds wx wx.heap.size Aq 2 cq k2)/\Hid (Blk wx g 39 cs)/\Hid (Below w.heap.size w wx))
  case first=>
   refine wp_region_held (S:=λw'=>Blk w' g 39 cs) (by kernel_rfl) ?_;change wpAnyH _ _ _ _ _ _ _ _ w2.drew
   have S0:Hid (Blk w2.drew g 39 cs):=K2.out.drew;have b0:Hid (Below w.heap.size w w2.drew):=M2'.out.drew;refine tK 0 _ rfl (A0a (by kernel_rfl) _ (.tmp 3) 5 rfl (.pointer (some ⟨g,0,none⟩)) (.pointer (some ⟨g,12,none⟩)) (by kernel_rfl) (n6a g)) S0.out ?_;refine tK 1 _ rfl (l0a (by kernel_rfl) _ (.tmp 29) rfl g 12 (by kernel_rfl) (.int .u16 a.made) (λw h=>(FC.out w g h).2.2.2.1) _ Tryz.underlying22 rfl) S0.out ?_;refine tK 2 ((.int .u64 a.made)) rfl (.inl ⟨by kernel_rfl,λw _=>by go_simp⟩) S0.out ?_;refine tK 5 _ rfl (A0a (by kernel_rfl) _ (.tmp 3) 7 rfl (.pointer (some ⟨g,0,none⟩)) (.pointer (some ⟨g,14,none⟩)) (by kernel_rfl) (p6a g)) S0.out ?_;refine tK 6 _ rfl (l0a (by kernel_rfl) _ (.tmp 34) rfl g 14 (by kernel_rfl) (.int .u8 a.kind) (λw h=>(FC.out w g h).2.2.2.2.2.1) _ Tryz.underlying36 rfl) S0.out ?_;refine tK 7 ((.int .u64 a.kind)) rfl (.inl ⟨by kernel_rfl,λw _=>by go_simp⟩) S0.out ?_;refine n0a λfr1 hfr1=>?_
   refine k1a 3 8 _ _ (by kernel_rfl) rfl rfl (λK hK=>?_) (λK hK=>?_)
   ·skip
    refine i0a rfl _ _ 1 _ rfl Tryz.underlying204 ([.int .u64 a.made]:List Value) (by rw[hfr1];kernel_rfl) ?_;intro g2 wt2 qa qb Y2 L2;have S2:=hI (S0.out.over L2.out);have b2:=hI (step b0.out L2.out);refine hK _ _ S2.out ?_;clear hK K;subst hfr1;refine n0a λfr3 hfr3=>?_
    refine k1a 4 8 _ _ (by kernel_rfl) rfl rfl (λK hK=>?_) (λK hK=>?_)
    ·skip
     subst hfr3;go_simp;refine(CM2.out _ _ Y2.out).mono ?_;rintro e wt4 ⟨A4,c4,rfl,⟨_,hY4⟩,L04⟩;have Y4:=hI hY4;have L4:=hI L04;clear hY4 L04;have S4:=hI (S2.out.over L4.out);have b4:=hI (step b2.out L4.out);refine hK _ _ S4.out ?_;clear hK K;refine n0a λfr5 hfr5=>?_
     refine oN 8 _ rfl λK hK=>?_
     refine i0a rfl _ _ 1 _ rfl Tryz.underlying204 ([.int .u64 a.kind]:List Value) (by rw[hfr5];kernel_rfl) ?_;intro g6 wt6 qa qb Y6 L6;have S6:=hI (S4.out.over L6.out);have b6:=hI (step b4.out L6.out);have mM_6:=hI (Y4.out.over L6.out);refine hK _ _ S6.out ?_;clear hK K;subst hfr5;refine oN 9 _ rfl λK hK=>?_
     go_simp;refine(CK2.out _ _ Y6.out).mono ?_;rintro e wt7 ⟨A7,c7,rfl,⟨_,hY7⟩,L07⟩;have Y7:=hI hY7;have L7:=hI L07;clear hY7 L07;have S7:=hI (S6.out.over L7.out);have b7:=hI (step b6.out L7.out);have mM_7:=hI (mM_6.out.over L7.out);refine hK _ _ S7.out ?_;clear hK K;refine oN 10 _ rfl λK hK=>?_
     go_simp;refine hK _ _ S7.out ?_;clear hK K;refine oN 11 _ rfl λK hK=>?_
     go_simp;refine hK _ _ S7.out ?_;clear hK K;refine dN ?_;go_wp2_with fail;go_meet;exact⟨_,_,_,_,rfl,rfl,mM_7,Y7,S7,b7⟩
    ·skip
     refine i0a rfl _ _ 1 _ rfl Tryz.underlying204 ([.int .u64 a.kind]:List Value) (by rw[hfr3];kernel_rfl) ?_;intro g10 wt10 qa qb Y10 L10;have S10:=hI (S2.out.over L10.out);have b10:=hI (step b2.out L10.out);have lA_10:=hI (Y2.out.over L10.out);refine hK _ _ S10.out ?_;clear hK K;subst hfr3;refine oN 4 _ rfl λK hK=>?_
     go_simp;refine(CM2.out _ _ lA_10.out).mono ?_;rintro e wt11 ⟨A11,c11,rfl,⟨_,hY11⟩,L011⟩;have Y11:=hI hY11;have L11:=hI L011;clear hY11 L011;have S11:=hI (S10.out.over L11.out);have b11:=hI (step b10.out L11.out);have lC_11:=hI (Y10.out.over L11.out);refine hK _ _ S11.out ?_;clear hK K;refine oN 9 _ rfl λK hK=>?_
     go_simp;refine(CK2.out _ _ lC_11.out).mono ?_;rintro e wt12 ⟨A12,c12,rfl,⟨_,hY12⟩,L012⟩;have Y12:=hI hY12;have L12:=hI L012;clear hY12 L012;have S12:=hI (S11.out.over L12.out);have b12:=hI (step b11.out L12.out);have mM_12:=hI (Y11.out.over L12.out);refine hK _ _ S12.out ?_;clear hK K;refine oN 10 _ rfl λK hK=>?_
     go_simp;refine hK _ _ S12.out ?_;clear hK K;refine oN 11 _ rfl λK hK=>?_
     go_simp;refine hK _ _ S12.out ?_;clear hK K;refine dN ?_;go_wp2_with fail;go_meet;exact⟨_,_,_,_,rfl,rfl,mM_12,Y12,S12,b12⟩
   ·skip
    refine i0a rfl _ _ 1 _ rfl Tryz.underlying204 ([.int .u64 a.kind]:List Value) (by rw[hfr1];kernel_rfl) ?_;intro g15 wt15 qa qb Y15 L15;have S15:=hI (S0.out.over L15.out);have b15:=hI (step b0.out L15.out);refine hK _ _ S15.out ?_;clear hK K;subst hfr1;refine n0a λfr16 hfr16=>?_
    refine oN 3 _ rfl λK hK=>?_
    refine i0a rfl _ _ 1 _ rfl Tryz.underlying204 ([.int .u64 a.made]:List Value) (by rw[hfr16];kernel_rfl) ?_;intro g17 wt17 qa qb Y17 L17;have S17:=hI (S15.out.over L17.out);have b17:=hI (step b15.out L17.out);have lC_17:=hI (Y15.out.over L17.out);refine hK _ _ S17.out ?_;clear hK K;subst hfr16;refine oN 4 _ rfl λK hK=>?_
    go_simp;refine(CM2.out _ _ Y17.out).mono ?_;rintro e wt18 ⟨A18,c18,rfl,⟨_,hY18⟩,L018⟩;have Y18:=hI hY18;have L18:=hI L018;clear hY18 L018;have S18:=hI (S17.out.over L18.out);have b18:=hI (step b17.out L18.out);have lC_18:=hI (lC_17.out.over L18.out);refine hK _ _ S18.out ?_;clear hK K;refine oN 9 _ rfl λK hK=>?_
    go_simp;refine(CK2.out _ _ lC_18.out).mono ?_;rintro e wt19 ⟨A19,c19,rfl,⟨_,hY19⟩,L019⟩;have Y19:=hI hY19;have L19:=hI L019;clear hY19 L019;have S19:=hI (S18.out.over L19.out);have b19:=hI (step b18.out L19.out);have mM_19:=hI (Y18.out.over L19.out);refine hK _ _ S19.out ?_;clear hK K;refine oN 10 _ rfl λK hK=>?_
    go_simp;refine hK _ _ S19.out ?_;clear hK K;refine oN 11 _ rfl λK hK=>?_
    go_simp;refine hK _ _ S19.out ?_;clear hK K;refine dN ?_;go_wp2_with fail;go_meet;exact⟨_,_,_,_,rfl,rfl,mM_19,Y19,S19,b19⟩
  case rest=>
   obtain⟨Ap,cp,Aq,cq,rfl,rfl,HM6,HK7,KX,MX⟩:=hcut;go_upto_region 8 with fail
   refine wp_region_held (S:=λw'=>Blk w' g 39 cs) (by kernel_rfl) ?_;change wpAnyH _ _ _ _ _ _ _ _ wc.drew
   have S0:Hid (Blk wc.drew g 39 cs):=KX.out.drew;have b0:Hid (Below w.heap.size w wc.drew):=MX.out.drew;have mM_0:=hI (HM6.out.drew);have kK_0:=hI (HK7.out.drew);refine tK 0 _ rfl (A0a (by kernel_rfl) _ (.tmp 3) 3 rfl (.pointer (some ⟨g,0,none⟩)) (.pointer (some ⟨g,10,none⟩)) (by kernel_rfl) (l6a g)) S0.out ?_;refine tK 1 _ rfl (l0a (by kernel_rfl) _ (.tmp 39) rfl g 10 (by kernel_rfl) (.int .u8 a.lev) (λw h=>(FC.out w g h).2.1) _ Tryz.underlying5 rfl) S0.out ?_;refine tK 2 _ rfl (A0a (by kernel_rfl) _ (.tmp 3) 4 rfl (.pointer (some ⟨g,0,none⟩)) (.pointer (some ⟨g,11,none⟩)) (by kernel_rfl) (m6a g)) S0.out ?_;refine tK 3 _ rfl (l0a (by kernel_rfl) _ (.tmp 41) rfl g 11 (by kernel_rfl) (.int .u8 a.dur) (λw h=>(FC.out w g h).2.2.1) _ Tryz.underlying5 rfl) S0.out ?_;refine tK 5 _ rfl (v0a (by kernel_rfl) (.tmp 6) rfl (.slice Ap 2 cp) (by kernel_rfl)) S0.out ?_;refine tK 6 _ rfl (A0a (by kernel_rfl) _ (.tmp 3) 6 rfl (.pointer (some ⟨g,0,none⟩)) (.pointer (some ⟨g,13,none⟩)) (by kernel_rfl) (o6a g)) S0.out ?_;refine tK 7 _ rfl (l0a (by kernel_rfl) _ (.tmp 45) rfl g 13 (by kernel_rfl) (.int .u64 a.file) (λw h=>(FC.out w g h).2.2.2.2.1) _ Tryz.underlying25 rfl) S0.out ?_;refine tK 8 _ rfl (A0a (by kernel_rfl) _ (.tmp 3) 1 rfl (.pointer (some ⟨g,0,none⟩)) (.pointer (some ⟨g,1,none⟩)) (by kernel_rfl) (j6a g)) S0.out ?_;refine tK 9 _ rfl (l0a (by kernel_rfl) _ (.tmp 47) rfl g 1 (by kernel_rfl) (.int .u64 a.siz) (λw h=>(FC.out w g h).1) _ Tryz.underlying25 rfl) S0.out ?_;refine tK 12 _ rfl (v0a (by kernel_rfl) (.tmp 7) rfl (.slice Aq 2 cq) (by kernel_rfl)) S0.out ?_;refine n0a λfr1 hfr1=>?_
   refine a5a 4 10 13 _ _ _ (by kernel_rfl) rfl rfl rfl (λK hK=>?_) (λK hK=>?_) (λK hK=>?_)
   ·skip
    refine i0a rfl _ _ 2 _ rfl Tryz.underlying31 ([.int .u8 a.lev,.int .u8 a.dur]:List Value) (by rw[hfr1];kernel_rfl) ?_;intro g2 wt2 qa qb Y02 L2;have Y2:=hI (Holds.of_lit (xs:=[a.lev,a.dur]) Y02.out HLD.out);clear Y02;have S2:=hI (S0.out.over L2.out);have b2:=hI (step b0.out L2.out);have mM_2:=hI (mM_0.out.over L2.out);have kK_2:=hI (kK_0.out.over L2.out);refine hK _ _ S2.out ?_;clear hK K;subst hfr1;refine n0a λfr3 hfr3=>?_
    refine k1a 10 13 _ _ (by kernel_rfl) rfl rfl (λK hK=>?_) (λK hK=>?_)
    ·skip
     refine i0a rfl _ _ 2 _ rfl Tryz.underlying204 ([.int .u64 a.file,.int .u64 a.siz]:List Value) (by rw[hfr3];kernel_rfl) ?_;intro g4 wt4 qa qb Y4 L4;have S4:=hI (S2.out.over L4.out);have b4:=hI (step b2.out L4.out);have mM_4:=hI (mM_2.out.over L4.out);have kK_4:=hI (kK_2.out.over L4.out);have u2_4:=hI (Y2.out.over L4.out);refine hK _ _ S4.out ?_;clear hK K;subst hfr3;refine n0a λfr5 hfr5=>?_
     refine k1a 11 13 _ _ (by kernel_rfl) rfl rfl (λK hK=>?_) (λK hK=>?_)
     ·skip
      subst hfr5;go_simp;refine(CF16.out _ _ Y4.out).mono ?_;rintro e wt6 ⟨A6,c6,rfl,⟨_,hY6⟩,L06⟩;have Y6:=hI hY6;have L6:=hI L06;clear hY6 L06;have S6:=hI (S4.out.over L6.out);have b6:=hI (step b4.out L6.out);have mM_6:=hI (mM_4.out.over L6.out);have kK_6:=hI (kK_4.out.over L6.out);have u2_6:=hI (u2_4.out.over L6.out);refine hK _ _ S6.out ?_;clear hK K;refine oN 13 _ rfl λK hK=>?_
      refine H0a rfl _ _ rfl 2 rfl rfl (by omega) ?_;intro wt7 R7 L7;have Y7:=hI (C1a.holds (base:=0) (.inr ⟨_,rfl,Nat.zero_le _,R7.out⟩) (by rfl:(List.replicate 2 (0:Int)).length=2) (Bytes.zeros 2) (by omega));clear R7;have S7:=hI (S6.out.over L7.out);have b7:=hI (step b6.out L7.out);have mM_7:=hI (mM_6.out.over L7.out);have kK_7:=hI (kK_6.out.over L7.out);have u2_7:=hI (u2_6.out.over L7.out);have xA_7:=hI (Y6.out.over L7.out);refine hK _ _ S7.out ?_;clear hK K;refine n0a λfr8 hfr8=>?_
      refine oN 14 _ rfl λK hK=>?_
      refine i0a rfl _ _ 5 _ rfl Tryz.underlying99 ([.slice (some ⟨g2,0,none⟩) 2 2,.slice Ap 2 cp,.slice A6 16 c6,.slice Aq 2 cq,.slice (some ⟨wt6.heap.size,0,none⟩) 2 2]:List Value) (by rw[hfr8];kernel_rfl) ?_;intro g9 wt9 qa qb Y09 L9;have Y9:Hid (f1a wt9 g9 5 (x2a [((some ⟨g2,0,none⟩),2,2,[a.lev,a.dur]),(Ap,2,cp,m2),(A6,16,c6,fs),(Aq,2,cq,k2),((some ⟨wt6.heap.size,0,none⟩),2,2,List.replicate 2 0)]) (y2a [((some ⟨g2,0,none⟩),2,2,[a.lev,a.dur]),(Ap,2,cp,m2),(A6,16,c6,fs),(Aq,2,cq,k2),((some ⟨wt6.heap.size,0,none⟩),2,2,List.replicate 2 0)]) (z2a [((some ⟨g2,0,none⟩),2,2,[a.lev,a.dur]),(Ap,2,cp,m2),(A6,16,c6,fs),(Aq,2,cq,k2),((some ⟨wt6.heap.size,0,none⟩),2,2,List.replicate 2 0)]) (o1a [((some ⟨g2,0,none⟩),2,2,[a.lev,a.dur]),(Ap,2,cp,m2),(A6,16,c6,fs),(Aq,2,cq,k2),((some ⟨wt6.heap.size,0,none⟩),2,2,List.replicate 2 0)])):=f1a.of_blk [((some ⟨g2,0,none⟩),2,2,[a.lev,a.dur]),(Ap,2,cp,m2),(A6,16,c6,fs),(Aq,2,cq,k2),((some ⟨wt6.heap.size,0,none⟩),2,2,List.replicate 2 0)] Y09.out (List.forall_mem_cons.2 ⟨u2_7.out.over L9.out,List.forall_mem_cons.2 ⟨mM_7.out.over L9.out,List.forall_mem_cons.2 ⟨xA_7.out.over L9.out,List.forall_mem_cons.2 ⟨kK_7.out.over L9.out,List.forall_mem_cons.2 ⟨Y7.out.over L9.out,λ_ h=>by cases h⟩⟩⟩⟩⟩);clear Y09;have S9:=hI (S7.out.over L9.out);have b9:=hI (step b7.out L9.out);refine hK _ _ S9.out ?_;clear hK K;subst hfr8;refine oN 15 _ rfl λK hK=>?_
      go_simp;refine(CC.out _ g9 5 _ _ _ _ Y9.out (by omega) (by show 0+2+2+16+2+2<=_;omega)).mono ?_;rintro e wt10 ⟨v,rfl,hY10,L010⟩;have OUT:=hI hY10;have L10:=hI L010;clear hY10 L010;have hsz0:=b9.out.size;have S10:=hI (S9.out.over L10.out);have b10:=hI (step b9.out L10.out);refine hK _ _ S10.out ?_;clear hK K;refine oN 16 _ rfl λK hK=>?_
      go_simp;refine hK _ _ S10.out ?_;clear hK K;refine oN 17 _ rfl λK hK=>?_
      go_simp;refine hK _ _ S10.out ?_;clear hK K;refine dN ?_;have HO6:=hI (P0a.mono OUT.out (Nat.le_trans (hsz0) (Nat.le_refl _)));go_wp2;go_ret2;refine HQ.out _ _ _ rfl ?_ b10.out;have h9:=HO6.out;simpa[Q3a,o1a,List.append_assoc] using h9
     ·skip
      subst hfr5;refine H0a rfl _ _ rfl 2 rfl rfl (by omega) ?_;intro wt13 R13 L13;have Y13:=hI (C1a.holds (base:=0) (.inr ⟨_,rfl,Nat.zero_le _,R13.out⟩) (by rfl:(List.replicate 2 (0:Int)).length=2) (Bytes.zeros 2) (by omega));clear R13;have S13:=hI (S4.out.over L13.out);have b13:=hI (step b4.out L13.out);have mM_13:=hI (mM_4.out.over L13.out);have kK_13:=hI (kK_4.out.over L13.out);have u2_13:=hI (u2_4.out.over L13.out);have lA_13:=hI (Y4.out.over L13.out);refine hK _ _ S13.out ?_;clear hK K;refine oN 11 _ rfl λK hK=>?_
      go_simp;refine(CF16.out _ _ lA_13.out).mono ?_;rintro e wt14 ⟨A14,c14,rfl,⟨_,hY14⟩,L014⟩;have Y14:=hI hY14;have L14:=hI L014;clear hY14 L014;have S14:=hI (S13.out.over L14.out);have b14:=hI (step b13.out L14.out);have mM_14:=hI (mM_13.out.over L14.out);have kK_14:=hI (kK_13.out.over L14.out);have u2_14:=hI (u2_13.out.over L14.out);have nE_14:=hI (Y13.out.over L14.out);refine hK _ _ S14.out ?_;clear hK K;refine n0a λfr15 hfr15=>?_
      refine oN 14 _ rfl λK hK=>?_
      refine i0a rfl _ _ 5 _ rfl Tryz.underlying99 ([.slice (some ⟨g2,0,none⟩) 2 2,.slice Ap 2 cp,.slice A14 16 c14,.slice Aq 2 cq,.slice (some ⟨wt4.heap.size,0,none⟩) 2 2]:List Value) (by rw[hfr15];kernel_rfl) ?_;intro g16 wt16 qa qb Y016 L16;have Y16:Hid (f1a wt16 g16 5 (x2a [((some ⟨g2,0,none⟩),2,2,[a.lev,a.dur]),(Ap,2,cp,m2),(A14,16,c14,fs),(Aq,2,cq,k2),((some ⟨wt4.heap.size,0,none⟩),2,2,List.replicate 2 0)]) (y2a [((some ⟨g2,0,none⟩),2,2,[a.lev,a.dur]),(Ap,2,cp,m2),(A14,16,c14,fs),(Aq,2,cq,k2),((some ⟨wt4.heap.size,0,none⟩),2,2,List.replicate 2 0)]) (z2a [((some ⟨g2,0,none⟩),2,2,[a.lev,a.dur]),(Ap,2,cp,m2),(A14,16,c14,fs),(Aq,2,cq,k2),((some ⟨wt4.heap.size,0,none⟩),2,2,List.replicate 2 0)]) (o1a [((some ⟨g2,0,none⟩),2,2,[a.lev,a.dur]),(Ap,2,cp,m2),(A14,16,c14,fs),(Aq,2,cq,k2),((some ⟨wt4.heap.size,0,none⟩),2,2,List.replicate 2 0)])):=f1a.of_blk [((some ⟨g2,0,none⟩),2,2,[a.lev,a.dur]),(Ap,2,cp,m2),(A14,16,c14,fs),(Aq,2,cq,k2),((some ⟨wt4.heap.size,0,none⟩),2,2,List.replicate 2 0)] Y016.out (List.forall_mem_cons.2 ⟨u2_14.out.over L16.out,List.forall_mem_cons.2 ⟨mM_14.out.over L16.out,List.forall_mem_cons.2 ⟨Y14.out.over L16.out,List.forall_mem_cons.2 ⟨kK_14.out.over L16.out,List.forall_mem_cons.2 ⟨nE_14.out.over L16.out,λ_ h=>by cases h⟩⟩⟩⟩⟩);clear Y016;have S16:=hI (S14.out.over L16.out);have b16:=hI (step b14.out L16.out);refine hK _ _ S16.out ?_;clear hK K;subst hfr15;refine oN 15 _ rfl λK hK=>?_
      go_simp;refine(CC.out _ g16 5 _ _ _ _ Y16.out (by omega) (by show 0+2+2+16+2+2<=_;omega)).mono ?_;rintro e wt17 ⟨v,rfl,hY17,L017⟩;have OUT:=hI hY17;have L17:=hI L017;clear hY17 L017;have hsz0:=b16.out.size;have S17:=hI (S16.out.over L17.out);have b17:=hI (step b16.out L17.out);refine hK _ _ S17.out ?_;clear hK K;refine oN 16 _ rfl λK hK=>?_
      go_simp;refine hK _ _ S17.out ?_;clear hK K;refine oN 17 _ rfl λK hK=>?_
      go_simp;refine hK _ _ S17.out ?_;clear hK K;refine dN ?_;have HO6:=hI (P0a.mono OUT.out (Nat.le_trans (hsz0) (Nat.le_refl _)));go_wp2;go_ret2;refine HQ.out _ _ _ rfl ?_ b17.out;have h9:=HO6.out;simpa[Q3a,o1a,List.append_assoc] using h9
    ·skip
     subst hfr3;refine H0a rfl _ _ rfl 2 rfl rfl (by omega) ?_;intro wt20 R20 L20;have Y20:=hI (C1a.holds (base:=0) (.inr ⟨_,rfl,Nat.zero_le _,R20.out⟩) (by rfl:(List.replicate 2 (0:Int)).length=2) (Bytes.zeros 2) (by omega));clear R20;have S20:=hI (S2.out.over L20.out);have b20:=hI (step b2.out L20.out);have mM_20:=hI (mM_2.out.over L20.out);have kK_20:=hI (kK_2.out.over L20.out);have u2_20:=hI (Y2.out.over L20.out);refine hK _ _ S20.out ?_;clear hK K;refine n0a λfr21 hfr21=>?_
     refine oN 10 _ rfl λK hK=>?_
     refine i0a rfl _ _ 2 _ rfl Tryz.underlying204 ([.int .u64 a.file,.int .u64 a.siz]:List Value) (by rw[hfr21];kernel_rfl) ?_;intro g22 wt22 qa qb Y22 L22;have S22:=hI (S20.out.over L22.out);have b22:=hI (step b20.out L22.out);have mM_22:=hI (mM_20.out.over L22.out);have kK_22:=hI (kK_20.out.over L22.out);have u2_22:=hI (u2_20.out.over L22.out);have nE_22:=hI (Y20.out.over L22.out);refine hK _ _ S22.out ?_;clear hK K;subst hfr21;refine oN 11 _ rfl λK hK=>?_
     go_simp;refine(CF16.out _ _ Y22.out).mono ?_;rintro e wt23 ⟨A23,c23,rfl,⟨_,hY23⟩,L023⟩;have Y23:=hI hY23;have L23:=hI L023;clear hY23 L023;have S23:=hI (S22.out.over L23.out);have b23:=hI (step b22.out L23.out);have mM_23:=hI (mM_22.out.over L23.out);have kK_23:=hI (kK_22.out.over L23.out);have u2_23:=hI (u2_22.out.over L23.out);have nE_23:=hI (nE_22.out.over L23.out);refine hK _ _ S23.out ?_;clear hK K;refine n0a λfr24 hfr24=>?_
     refine oN 14 _ rfl λK hK=>?_
     refine i0a rfl _ _ 5 _ rfl Tryz.underlying99 ([.slice (some ⟨g2,0,none⟩) 2 2,.slice Ap 2 cp,.slice A23 16 c23,.slice Aq 2 cq,.slice (some ⟨wt2.heap.size,0,none⟩) 2 2]:List Value) (by rw[hfr24];kernel_rfl) ?_;intro g25 wt25 qa qb Y025 L25;have Y25:Hid (f1a wt25 g25 5 (x2a [((some ⟨g2,0,none⟩),2,2,[a.lev,a.dur]),(Ap,2,cp,m2),(A23,16,c23,fs),(Aq,2,cq,k2),((some ⟨wt2.heap.size,0,none⟩),2,2,List.replicate 2 0)]) (y2a [((some ⟨g2,0,none⟩),2,2,[a.lev,a.dur]),(Ap,2,cp,m2),(A23,16,c23,fs),(Aq,2,cq,k2),((some ⟨wt2.heap.size,0,none⟩),2,2,List.replicate 2 0)]) (z2a [((some ⟨g2,0,none⟩),2,2,[a.lev,a.dur]),(Ap,2,cp,m2),(A23,16,c23,fs),(Aq,2,cq,k2),((some ⟨wt2.heap.size,0,none⟩),2,2,List.replicate 2 0)]) (o1a [((some ⟨g2,0,none⟩),2,2,[a.lev,a.dur]),(Ap,2,cp,m2),(A23,16,c23,fs),(Aq,2,cq,k2),((some ⟨wt2.heap.size,0,none⟩),2,2,List.replicate 2 0)])):=f1a.of_blk [((some ⟨g2,0,none⟩),2,2,[a.lev,a.dur]),(Ap,2,cp,m2),(A23,16,c23,fs),(Aq,2,cq,k2),((some ⟨wt2.heap.size,0,none⟩),2,2,List.replicate 2 0)] Y025.out (List.forall_mem_cons.2 ⟨u2_23.out.over L25.out,List.forall_mem_cons.2 ⟨mM_23.out.over L25.out,List.forall_mem_cons.2 ⟨Y23.out.over L25.out,List.forall_mem_cons.2 ⟨kK_23.out.over L25.out,List.forall_mem_cons.2 ⟨nE_23.out.over L25.out,λ_ h=>by cases h⟩⟩⟩⟩⟩);clear Y025;have S25:=hI (S23.out.over L25.out);have b25:=hI (step b23.out L25.out);refine hK _ _ S25.out ?_;clear hK K;subst hfr24;refine oN 15 _ rfl λK hK=>?_
     go_simp;refine(CC.out _ g25 5 _ _ _ _ Y25.out (by omega) (by show 0+2+2+16+2+2<=_;omega)).mono ?_;rintro e wt26 ⟨v,rfl,hY26,L026⟩;have OUT:=hI hY26;have L26:=hI L026;clear hY26 L026;have hsz0:=b25.out.size;have S26:=hI (S25.out.over L26.out);have b26:=hI (step b25.out L26.out);refine hK _ _ S26.out ?_;clear hK K;refine oN 16 _ rfl λK hK=>?_
     go_simp;refine hK _ _ S26.out ?_;clear hK K;refine oN 17 _ rfl λK hK=>?_
     go_simp;refine hK _ _ S26.out ?_;clear hK K;refine dN ?_;have HO6:=hI (P0a.mono OUT.out (Nat.le_trans (hsz0) (Nat.le_refl _)));go_wp2;go_ret2;refine HQ.out _ _ _ rfl ?_ b26.out;have h9:=HO6.out;simpa[Q3a,o1a,List.append_assoc] using h9
   ·skip
    refine i0a rfl _ _ 2 _ rfl Tryz.underlying204 ([.int .u64 a.file,.int .u64 a.siz]:List Value) (by rw[hfr1];kernel_rfl) ?_;intro g29 wt29 qa qb Y29 L29;have S29:=hI (S0.out.over L29.out);have b29:=hI (step b0.out L29.out);have mM_29:=hI (mM_0.out.over L29.out);have kK_29:=hI (kK_0.out.over L29.out);refine hK _ _ S29.out ?_;clear hK K;subst hfr1;refine n0a λfr30 hfr30=>?_
    refine a5a 4 11 13 _ _ _ (by kernel_rfl) rfl rfl rfl (λK hK=>?_) (λK hK=>?_) (λK hK=>?_)
    ·skip
     refine i0a rfl _ _ 2 _ rfl Tryz.underlying31 ([.int .u8 a.lev,.int .u8 a.dur]:List Value) (by rw[hfr30];kernel_rfl) ?_;intro g31 wt31 qa qb Y031 L31;have Y31:=hI (Holds.of_lit (xs:=[a.lev,a.dur]) Y031.out HLD.out);clear Y031;have S31:=hI (S29.out.over L31.out);have b31:=hI (step b29.out L31.out);have mM_31:=hI (mM_29.out.over L31.out);have kK_31:=hI (kK_29.out.over L31.out);have lA_31:=hI (Y29.out.over L31.out);refine hK _ _ S31.out ?_;clear hK K;subst hfr30;refine n0a λfr32 hfr32=>?_
     refine k1a 11 13 _ _ (by kernel_rfl) rfl rfl (λK hK=>?_) (λK hK=>?_)
     ·skip
      subst hfr32;go_simp;refine(CF16.out _ _ lA_31.out).mono ?_;rintro e wt33 ⟨A33,c33,rfl,⟨_,hY33⟩,L033⟩;have Y33:=hI hY33;have L33:=hI L033;clear hY33 L033;have S33:=hI (S31.out.over L33.out);have b33:=hI (step b31.out L33.out);have mM_33:=hI (mM_31.out.over L33.out);have kK_33:=hI (kK_31.out.over L33.out);have u2_33:=hI (Y31.out.over L33.out);refine hK _ _ S33.out ?_;clear hK K;refine oN 13 _ rfl λK hK=>?_
      refine H0a rfl _ _ rfl 2 rfl rfl (by omega) ?_;intro wt34 R34 L34;have Y34:=hI (C1a.holds (base:=0) (.inr ⟨_,rfl,Nat.zero_le _,R34.out⟩) (by rfl:(List.replicate 2 (0:Int)).length=2) (Bytes.zeros 2) (by omega));clear R34;have S34:=hI (S33.out.over L34.out);have b34:=hI (step b33.out L34.out);have mM_34:=hI (mM_33.out.over L34.out);have kK_34:=hI (kK_33.out.over L34.out);have u2_34:=hI (u2_33.out.over L34.out);have xA_34:=hI (Y33.out.over L34.out);refine hK _ _ S34.out ?_;clear hK K;refine n0a λfr35 hfr35=>?_
      refine oN 14 _ rfl λK hK=>?_
      refine i0a rfl _ _ 5 _ rfl Tryz.underlying99 ([.slice (some ⟨g31,0,none⟩) 2 2,.slice Ap 2 cp,.slice A33 16 c33,.slice Aq 2 cq,.slice (some ⟨wt33.heap.size,0,none⟩) 2 2]:List Value) (by rw[hfr35];kernel_rfl) ?_;intro g36 wt36 qa qb Y036 L36;have Y36:Hid (f1a wt36 g36 5 (x2a [((some ⟨g31,0,none⟩),2,2,[a.lev,a.dur]),(Ap,2,cp,m2),(A33,16,c33,fs),(Aq,2,cq,k2),((some ⟨wt33.heap.size,0,none⟩),2,2,List.replicate 2 0)]) (y2a [((some ⟨g31,0,none⟩),2,2,[a.lev,a.dur]),(Ap,2,cp,m2),(A33,16,c33,fs),(Aq,2,cq,k2),((some ⟨wt33.heap.size,0,none⟩),2,2,List.replicate 2 0)]) (z2a [((some ⟨g31,0,none⟩),2,2,[a.lev,a.dur]),(Ap,2,cp,m2),(A33,16,c33,fs),(Aq,2,cq,k2),((some ⟨wt33.heap.size,0,none⟩),2,2,List.replicate 2 0)]) (o1a [((some ⟨g31,0,none⟩),2,2,[a.lev,a.dur]),(Ap,2,cp,m2),(A33,16,c33,fs),(Aq,2,cq,k2),((some ⟨wt33.heap.size,0,none⟩),2,2,List.replicate 2 0)])):=f1a.of_blk [((some ⟨g31,0,none⟩),2,2,[a.lev,a.dur]),(Ap,2,cp,m2),(A33,16,c33,fs),(Aq,2,cq,k2),((some ⟨wt33.heap.size,0,none⟩),2,2,List.replicate 2 0)] Y036.out (List.forall_mem_cons.2 ⟨u2_34.out.over L36.out,List.forall_mem_cons.2 ⟨mM_34.out.over L36.out,List.forall_mem_cons.2 ⟨xA_34.out.over L36.out,List.forall_mem_cons.2 ⟨kK_34.out.over L36.out,List.forall_mem_cons.2 ⟨Y34.out.over L36.out,λ_ h=>by cases h⟩⟩⟩⟩⟩);clear Y036;have S36:=hI (S34.out.over L36.out);have b36:=hI (step b34.out L36.out);refine hK _ _ S36.out ?_;clear hK K;subst hfr35;refine oN 15 _ rfl λK hK=>?_
      go_simp;refine(CC.out _ g36 5 _ _ _ _ Y36.out (by omega) (by show 0+2+2+16+2+2<=_;omega)).mono ?_;rintro e wt37 ⟨v,rfl,hY37,L037⟩;have OUT:=hI hY37;have L37:=hI L037;clear hY37 L037;have hsz0:=b36.out.size;have S37:=hI (S36.out.over L37.out);have b37:=hI (step b36.out L37.out);refine hK _ _ S37.out ?_;clear hK K;refine oN 16 _ rfl λK hK=>?_
      go_simp;refine hK _ _ S37.out ?_;clear hK K;refine oN 17 _ rfl λK hK=>?_
      go_simp;refine hK _ _ S37.out ?_;clear hK K;refine dN ?_;have HO6:=hI (P0a.mono OUT.out (Nat.le_trans (hsz0) (Nat.le_refl _)));go_wp2;go_ret2;refine HQ.out _ _ _ rfl ?_ b37.out;have h9:=HO6.out;simpa[Q3a,o1a,List.append_assoc] using h9
     ·skip
      subst hfr32;refine H0a rfl _ _ rfl 2 rfl rfl (by omega) ?_;intro wt40 R40 L40;have Y40:=hI (C1a.holds (base:=0) (.inr ⟨_,rfl,Nat.zero_le _,R40.out⟩) (by rfl:(List.replicate 2 (0:Int)).length=2) (Bytes.zeros 2) (by omega));clear R40;have S40:=hI (S31.out.over L40.out);have b40:=hI (step b31.out L40.out);have mM_40:=hI (mM_31.out.over L40.out);have kK_40:=hI (kK_31.out.over L40.out);have lA_40:=hI (lA_31.out.over L40.out);have u2_40:=hI (Y31.out.over L40.out);refine hK _ _ S40.out ?_;clear hK K;refine oN 11 _ rfl λK hK=>?_
      go_simp;refine(CF16.out _ _ lA_40.out).mono ?_;rintro e wt41 ⟨A41,c41,rfl,⟨_,hY41⟩,L041⟩;have Y41:=hI hY41;have L41:=hI L041;clear hY41 L041;have S41:=hI (S40.out.over L41.out);have b41:=hI (step b40.out L41.out);have mM_41:=hI (mM_40.out.over L41.out);have kK_41:=hI (kK_40.out.over L41.out);have u2_41:=hI (u2_40.out.over L41.out);have nE_41:=hI (Y40.out.over L41.out);refine hK _ _ S41.out ?_;clear hK K;refine n0a λfr42 hfr42=>?_
      refine oN 14 _ rfl λK hK=>?_
      refine i0a rfl _ _ 5 _ rfl Tryz.underlying99 ([.slice (some ⟨g31,0,none⟩) 2 2,.slice Ap 2 cp,.slice A41 16 c41,.slice Aq 2 cq,.slice (some ⟨wt31.heap.size,0,none⟩) 2 2]:List Value) (by rw[hfr42];kernel_rfl) ?_;intro g43 wt43 qa qb Y043 L43;have Y43:Hid (f1a wt43 g43 5 (x2a [((some ⟨g31,0,none⟩),2,2,[a.lev,a.dur]),(Ap,2,cp,m2),(A41,16,c41,fs),(Aq,2,cq,k2),((some ⟨wt31.heap.size,0,none⟩),2,2,List.replicate 2 0)]) (y2a [((some ⟨g31,0,none⟩),2,2,[a.lev,a.dur]),(Ap,2,cp,m2),(A41,16,c41,fs),(Aq,2,cq,k2),((some ⟨wt31.heap.size,0,none⟩),2,2,List.replicate 2 0)]) (z2a [((some ⟨g31,0,none⟩),2,2,[a.lev,a.dur]),(Ap,2,cp,m2),(A41,16,c41,fs),(Aq,2,cq,k2),((some ⟨wt31.heap.size,0,none⟩),2,2,List.replicate 2 0)]) (o1a [((some ⟨g31,0,none⟩),2,2,[a.lev,a.dur]),(Ap,2,cp,m2),(A41,16,c41,fs),(Aq,2,cq,k2),((some ⟨wt31.heap.size,0,none⟩),2,2,List.replicate 2 0)])):=f1a.of_blk [((some ⟨g31,0,none⟩),2,2,[a.lev,a.dur]),(Ap,2,cp,m2),(A41,16,c41,fs),(Aq,2,cq,k2),((some ⟨wt31.heap.size,0,none⟩),2,2,List.replicate 2 0)] Y043.out (List.forall_mem_cons.2 ⟨u2_41.out.over L43.out,List.forall_mem_cons.2 ⟨mM_41.out.over L43.out,List.forall_mem_cons.2 ⟨Y41.out.over L43.out,List.forall_mem_cons.2 ⟨kK_41.out.over L43.out,List.forall_mem_cons.2 ⟨nE_41.out.over L43.out,λ_ h=>by cases h⟩⟩⟩⟩⟩);clear Y043;have S43:=hI (S41.out.over L43.out);have b43:=hI (step b41.out L43.out);refine hK _ _ S43.out ?_;clear hK K;subst hfr42;refine oN 15 _ rfl λK hK=>?_
      go_simp;refine(CC.out _ g43 5 _ _ _ _ Y43.out (by omega) (by show 0+2+2+16+2+2<=_;omega)).mono ?_;rintro e wt44 ⟨v,rfl,hY44,L044⟩;have OUT:=hI hY44;have L44:=hI L044;clear hY44 L044;have hsz0:=b43.out.size;have S44:=hI (S43.out.over L44.out);have b44:=hI (step b43.out L44.out);refine hK _ _ S44.out ?_;clear hK K;refine oN 16 _ rfl λK hK=>?_
      go_simp;refine hK _ _ S44.out ?_;clear hK K;refine oN 17 _ rfl λK hK=>?_
      go_simp;refine hK _ _ S44.out ?_;clear hK K;refine dN ?_;have HO6:=hI (P0a.mono OUT.out (Nat.le_trans (hsz0) (Nat.le_refl _)));go_wp2;go_ret2;refine HQ.out _ _ _ rfl ?_ b44.out;have h9:=HO6.out;simpa[Q3a,o1a,List.append_assoc] using h9
    ·skip
     subst hfr30;go_simp;refine(CF16.out _ _ Y29.out).mono ?_;rintro e wt47 ⟨A47,c47,rfl,⟨_,hY47⟩,L047⟩;have Y47:=hI hY47;have L47:=hI L047;clear hY47 L047;have S47:=hI (S29.out.over L47.out);have b47:=hI (step b29.out L47.out);have mM_47:=hI (mM_29.out.over L47.out);have kK_47:=hI (kK_29.out.over L47.out);refine hK _ _ S47.out ?_;clear hK K;refine n0a λfr48 hfr48=>?_
     refine k1a 4 13 _ _ (by kernel_rfl) rfl rfl (λK hK=>?_) (λK hK=>?_)
     ·skip
      refine i0a rfl _ _ 2 _ rfl Tryz.underlying31 ([.int .u8 a.lev,.int .u8 a.dur]:List Value) (by rw[hfr48];kernel_rfl) ?_;intro g49 wt49 qa qb Y049 L49;have Y49:=hI (Holds.of_lit (xs:=[a.lev,a.dur]) Y049.out HLD.out);clear Y049;have S49:=hI (S47.out.over L49.out);have b49:=hI (step b47.out L49.out);have mM_49:=hI (mM_47.out.over L49.out);have kK_49:=hI (kK_47.out.over L49.out);have xA_49:=hI (Y47.out.over L49.out);refine hK _ _ S49.out ?_;clear hK K;subst hfr48;refine oN 13 _ rfl λK hK=>?_
      refine H0a rfl _ _ rfl 2 rfl rfl (by omega) ?_;intro wt50 R50 L50;have Y50:=hI (C1a.holds (base:=0) (.inr ⟨_,rfl,Nat.zero_le _,R50.out⟩) (by rfl:(List.replicate 2 (0:Int)).length=2) (Bytes.zeros 2) (by omega));clear R50;have S50:=hI (S49.out.over L50.out);have b50:=hI (step b49.out L50.out);have mM_50:=hI (mM_49.out.over L50.out);have kK_50:=hI (kK_49.out.over L50.out);have xA_50:=hI (xA_49.out.over L50.out);have u2_50:=hI (Y49.out.over L50.out);refine hK _ _ S50.out ?_;clear hK K;refine n0a λfr51 hfr51=>?_
      refine oN 14 _ rfl λK hK=>?_
      refine i0a rfl _ _ 5 _ rfl Tryz.underlying99 ([.slice (some ⟨g49,0,none⟩) 2 2,.slice Ap 2 cp,.slice A47 16 c47,.slice Aq 2 cq,.slice (some ⟨wt49.heap.size,0,none⟩) 2 2]:List Value) (by rw[hfr51];kernel_rfl) ?_;intro g52 wt52 qa qb Y052 L52;have Y52:Hid (f1a wt52 g52 5 (x2a [((some ⟨g49,0,none⟩),2,2,[a.lev,a.dur]),(Ap,2,cp,m2),(A47,16,c47,fs),(Aq,2,cq,k2),((some ⟨wt49.heap.size,0,none⟩),2,2,List.replicate 2 0)]) (y2a [((some ⟨g49,0,none⟩),2,2,[a.lev,a.dur]),(Ap,2,cp,m2),(A47,16,c47,fs),(Aq,2,cq,k2),((some ⟨wt49.heap.size,0,none⟩),2,2,List.replicate 2 0)]) (z2a [((some ⟨g49,0,none⟩),2,2,[a.lev,a.dur]),(Ap,2,cp,m2),(A47,16,c47,fs),(Aq,2,cq,k2),((some ⟨wt49.heap.size,0,none⟩),2,2,List.replicate 2 0)]) (o1a [((some ⟨g49,0,none⟩),2,2,[a.lev,a.dur]),(Ap,2,cp,m2),(A47,16,c47,fs),(Aq,2,cq,k2),((some ⟨wt49.heap.size,0,none⟩),2,2,List.replicate 2 0)])):=f1a.of_blk [((some ⟨g49,0,none⟩),2,2,[a.lev,a.dur]),(Ap,2,cp,m2),(A47,16,c47,fs),(Aq,2,cq,k2),((some ⟨wt49.heap.size,0,none⟩),2,2,List.replicate 2 0)] Y052.out (List.forall_mem_cons.2 ⟨u2_50.out.over L52.out,List.forall_mem_cons.2 ⟨mM_50.out.over L52.out,List.forall_mem_cons.2 ⟨xA_50.out.over L52.out,List.forall_mem_cons.2 ⟨kK_50.out.over L52.out,List.forall_mem_cons.2 ⟨Y50.out.over L52.out,λ_ h=>by cases h⟩⟩⟩⟩⟩);clear Y052;have S52:=hI (S50.out.over L52.out);have b52:=hI (step b50.out L52.out);refine hK _ _ S52.out ?_;clear hK K;subst hfr51;refine oN 15 _ rfl λK hK=>?_
      go_simp;refine(CC.out _ g52 5 _ _ _ _ Y52.out (by omega) (by show 0+2+2+16+2+2<=_;omega)).mono ?_;rintro e wt53 ⟨v,rfl,hY53,L053⟩;have OUT:=hI hY53;have L53:=hI L053;clear hY53 L053;have hsz0:=b52.out.size;have S53:=hI (S52.out.over L53.out);have b53:=hI (step b52.out L53.out);refine hK _ _ S53.out ?_;clear hK K;refine oN 16 _ rfl λK hK=>?_
      go_simp;refine hK _ _ S53.out ?_;clear hK K;refine oN 17 _ rfl λK hK=>?_
      go_simp;refine hK _ _ S53.out ?_;clear hK K;refine dN ?_;have HO6:=hI (P0a.mono OUT.out (Nat.le_trans (hsz0) (Nat.le_refl _)));go_wp2;go_ret2;refine HQ.out _ _ _ rfl ?_ b53.out;have h9:=HO6.out;simpa[Q3a,o1a,List.append_assoc] using h9
     ·skip
      subst hfr48;refine H0a rfl _ _ rfl 2 rfl rfl (by omega) ?_;intro wt56 R56 L56;have Y56:=hI (C1a.holds (base:=0) (.inr ⟨_,rfl,Nat.zero_le _,R56.out⟩) (by rfl:(List.replicate 2 (0:Int)).length=2) (Bytes.zeros 2) (by omega));clear R56;have S56:=hI (S47.out.over L56.out);have b56:=hI (step b47.out L56.out);have mM_56:=hI (mM_47.out.over L56.out);have kK_56:=hI (kK_47.out.over L56.out);have xA_56:=hI (Y47.out.over L56.out);refine hK _ _ S56.out ?_;clear hK K;refine n0a λfr57 hfr57=>?_
      refine oN 4 _ rfl λK hK=>?_
      refine i0a rfl _ _ 2 _ rfl Tryz.underlying31 ([.int .u8 a.lev,.int .u8 a.dur]:List Value) (by rw[hfr57];kernel_rfl) ?_;intro g58 wt58 qa qb Y058 L58;have Y58:=hI (Holds.of_lit (xs:=[a.lev,a.dur]) Y058.out HLD.out);clear Y058;have S58:=hI (S56.out.over L58.out);have b58:=hI (step b56.out L58.out);have mM_58:=hI (mM_56.out.over L58.out);have kK_58:=hI (kK_56.out.over L58.out);have xA_58:=hI (xA_56.out.over L58.out);have nE_58:=hI (Y56.out.over L58.out);refine hK _ _ S58.out ?_;clear hK K;subst hfr57;refine n0a λfr59 hfr59=>?_
      refine oN 14 _ rfl λK hK=>?_
      refine i0a rfl _ _ 5 _ rfl Tryz.underlying99 ([.slice (some ⟨g58,0,none⟩) 2 2,.slice Ap 2 cp,.slice A47 16 c47,.slice Aq 2 cq,.slice (some ⟨wt47.heap.size,0,none⟩) 2 2]:List Value) (by rw[hfr59];kernel_rfl) ?_;intro g60 wt60 qa qb Y060 L60;have Y60:Hid (f1a wt60 g60 5 (x2a [((some ⟨g58,0,none⟩),2,2,[a.lev,a.dur]),(Ap,2,cp,m2),(A47,16,c47,fs),(Aq,2,cq,k2),((some ⟨wt47.heap.size,0,none⟩),2,2,List.replicate 2 0)]) (y2a [((some ⟨g58,0,none⟩),2,2,[a.lev,a.dur]),(Ap,2,cp,m2),(A47,16,c47,fs),(Aq,2,cq,k2),((some ⟨wt47.heap.size,0,none⟩),2,2,List.replicate 2 0)]) (z2a [((some ⟨g58,0,none⟩),2,2,[a.lev,a.dur]),(Ap,2,cp,m2),(A47,16,c47,fs),(Aq,2,cq,k2),((some ⟨wt47.heap.size,0,none⟩),2,2,List.replicate 2 0)]) (o1a [((some ⟨g58,0,none⟩),2,2,[a.lev,a.dur]),(Ap,2,cp,m2),(A47,16,c47,fs),(Aq,2,cq,k2),((some ⟨wt47.heap.size,0,none⟩),2,2,List.replicate 2 0)])):=f1a.of_blk [((some ⟨g58,0,none⟩),2,2,[a.lev,a.dur]),(Ap,2,cp,m2),(A47,16,c47,fs),(Aq,2,cq,k2),((some ⟨wt47.heap.size,0,none⟩),2,2,List.replicate 2 0)] Y060.out (List.forall_mem_cons.2 ⟨Y58.out.over L60.out,List.forall_mem_cons.2 ⟨mM_58.out.over L60.out,List.forall_mem_cons.2 ⟨xA_58.out.over L60.out,List.forall_mem_cons.2 ⟨kK_58.out.over L60.out,List.forall_mem_cons.2 ⟨nE_58.out.over L60.out,λ_ h=>by cases h⟩⟩⟩⟩⟩);clear Y060;have S60:=hI (S58.out.over L60.out);have b60:=hI (step b58.out L60.out);refine hK _ _ S60.out ?_;clear hK K;subst hfr59;refine oN 15 _ rfl λK hK=>?_
      go_simp;refine(CC.out _ g60 5 _ _ _ _ Y60.out (by omega) (by show 0+2+2+16+2+2<=_;omega)).mono ?_;rintro e wt61 ⟨v,rfl,hY61,L061⟩;have OUT:=hI hY61;have L61:=hI L061;clear hY61 L061;have hsz0:=b60.out.size;have S61:=hI (S60.out.over L61.out);have b61:=hI (step b60.out L61.out);refine hK _ _ S61.out ?_;clear hK K;refine oN 16 _ rfl λK hK=>?_
      go_simp;refine hK _ _ S61.out ?_;clear hK K;refine oN 17 _ rfl λK hK=>?_
      go_simp;refine hK _ _ S61.out ?_;clear hK K;refine dN ?_;have HO6:=hI (P0a.mono OUT.out (Nat.le_trans (hsz0) (Nat.le_refl _)));go_wp2;go_ret2;refine HQ.out _ _ _ rfl ?_ b61.out;have h9:=HO6.out;simpa[Q3a,o1a,List.append_assoc] using h9
    ·skip
     subst hfr30;refine H0a rfl _ _ rfl 2 rfl rfl (by omega) ?_;intro wt64 R64 L64;have Y64:=hI (C1a.holds (base:=0) (.inr ⟨_,rfl,Nat.zero_le _,R64.out⟩) (by rfl:(List.replicate 2 (0:Int)).length=2) (Bytes.zeros 2) (by omega));clear R64;have S64:=hI (S29.out.over L64.out);have b64:=hI (step b29.out L64.out);have mM_64:=hI (mM_29.out.over L64.out);have kK_64:=hI (kK_29.out.over L64.out);have lA_64:=hI (Y29.out.over L64.out);refine hK _ _ S64.out ?_;clear hK K;refine n0a λfr65 hfr65=>?_
     refine k1a 4 11 _ _ (by kernel_rfl) rfl rfl (λK hK=>?_) (λK hK=>?_)
     ·skip
      refine i0a rfl _ _ 2 _ rfl Tryz.underlying31 ([.int .u8 a.lev,.int .u8 a.dur]:List Value) (by rw[hfr65];kernel_rfl) ?_;intro g66 wt66 qa qb Y066 L66;have Y66:=hI (Holds.of_lit (xs:=[a.lev,a.dur]) Y066.out HLD.out);clear Y066;have S66:=hI (S64.out.over L66.out);have b66:=hI (step b64.out L66.out);have mM_66:=hI (mM_64.out.over L66.out);have kK_66:=hI (kK_64.out.over L66.out);have lA_66:=hI (lA_64.out.over L66.out);have nE_66:=hI (Y64.out.over L66.out);refine hK _ _ S66.out ?_;clear hK K;subst hfr65;refine oN 11 _ rfl λK hK=>?_
      go_simp;refine(CF16.out _ _ lA_66.out).mono ?_;rintro e wt67 ⟨A67,c67,rfl,⟨_,hY67⟩,L067⟩;have Y67:=hI hY67;have L67:=hI L067;clear hY67 L067;have S67:=hI (S66.out.over L67.out);have b67:=hI (step b66.out L67.out);have mM_67:=hI (mM_66.out.over L67.out);have kK_67:=hI (kK_66.out.over L67.out);have nE_67:=hI (nE_66.out.over L67.out);have u2_67:=hI (Y66.out.over L67.out);refine hK _ _ S67.out ?_;clear hK K;refine n0a λfr68 hfr68=>?_
      refine oN 14 _ rfl λK hK=>?_
      refine i0a rfl _ _ 5 _ rfl Tryz.underlying99 ([.slice (some ⟨g66,0,none⟩) 2 2,.slice Ap 2 cp,.slice A67 16 c67,.slice Aq 2 cq,.slice (some ⟨wt29.heap.size,0,none⟩) 2 2]:List Value) (by rw[hfr68];kernel_rfl) ?_;intro g69 wt69 qa qb Y069 L69;have Y69:Hid (f1a wt69 g69 5 (x2a [((some ⟨g66,0,none⟩),2,2,[a.lev,a.dur]),(Ap,2,cp,m2),(A67,16,c67,fs),(Aq,2,cq,k2),((some ⟨wt29.heap.size,0,none⟩),2,2,List.replicate 2 0)]) (y2a [((some ⟨g66,0,none⟩),2,2,[a.lev,a.dur]),(Ap,2,cp,m2),(A67,16,c67,fs),(Aq,2,cq,k2),((some ⟨wt29.heap.size,0,none⟩),2,2,List.replicate 2 0)]) (z2a [((some ⟨g66,0,none⟩),2,2,[a.lev,a.dur]),(Ap,2,cp,m2),(A67,16,c67,fs),(Aq,2,cq,k2),((some ⟨wt29.heap.size,0,none⟩),2,2,List.replicate 2 0)]) (o1a [((some ⟨g66,0,none⟩),2,2,[a.lev,a.dur]),(Ap,2,cp,m2),(A67,16,c67,fs),(Aq,2,cq,k2),((some ⟨wt29.heap.size,0,none⟩),2,2,List.replicate 2 0)])):=f1a.of_blk [((some ⟨g66,0,none⟩),2,2,[a.lev,a.dur]),(Ap,2,cp,m2),(A67,16,c67,fs),(Aq,2,cq,k2),((some ⟨wt29.heap.size,0,none⟩),2,2,List.replicate 2 0)] Y069.out (List.forall_mem_cons.2 ⟨u2_67.out.over L69.out,List.forall_mem_cons.2 ⟨mM_67.out.over L69.out,List.forall_mem_cons.2 ⟨Y67.out.over L69.out,List.forall_mem_cons.2 ⟨kK_67.out.over L69.out,List.forall_mem_cons.2 ⟨nE_67.out.over L69.out,λ_ h=>by cases h⟩⟩⟩⟩⟩);clear Y069;have S69:=hI (S67.out.over L69.out);have b69:=hI (step b67.out L69.out);refine hK _ _ S69.out ?_;clear hK K;subst hfr68;refine oN 15 _ rfl λK hK=>?_
      go_simp;refine(CC.out _ g69 5 _ _ _ _ Y69.out (by omega) (by show 0+2+2+16+2+2<=_;omega)).mono ?_;rintro e wt70 ⟨v,rfl,hY70,L070⟩;have OUT:=hI hY70;have L70:=hI L070;clear hY70 L070;have hsz0:=b69.out.size;have S70:=hI (S69.out.over L70.out);have b70:=hI (step b69.out L70.out);refine hK _ _ S70.out ?_;clear hK K;refine oN 16 _ rfl λK hK=>?_
      go_simp;refine hK _ _ S70.out ?_;clear hK K;refine oN 17 _ rfl λK hK=>?_
      go_simp;refine hK _ _ S70.out ?_;clear hK K;refine dN ?_;have HO6:=hI (P0a.mono OUT.out (Nat.le_trans (hsz0) (Nat.le_refl _)));go_wp2;go_ret2;refine HQ.out _ _ _ rfl ?_ b70.out;have h9:=HO6.out;simpa[Q3a,o1a,List.append_assoc] using h9
     ·skip
      subst hfr65;go_simp;refine(CF16.out _ _ lA_64.out).mono ?_;rintro e wt73 ⟨A73,c73,rfl,⟨_,hY73⟩,L073⟩;have Y73:=hI hY73;have L73:=hI L073;clear hY73 L073;have S73:=hI (S64.out.over L73.out);have b73:=hI (step b64.out L73.out);have mM_73:=hI (mM_64.out.over L73.out);have kK_73:=hI (kK_64.out.over L73.out);have nE_73:=hI (Y64.out.over L73.out);refine hK _ _ S73.out ?_;clear hK K;refine n0a λfr74 hfr74=>?_
      refine oN 4 _ rfl λK hK=>?_
      refine i0a rfl _ _ 2 _ rfl Tryz.underlying31 ([.int .u8 a.lev,.int .u8 a.dur]:List Value) (by rw[hfr74];kernel_rfl) ?_;intro g75 wt75 qa qb Y075 L75;have Y75:=hI (Holds.of_lit (xs:=[a.lev,a.dur]) Y075.out HLD.out);clear Y075;have S75:=hI (S73.out.over L75.out);have b75:=hI (step b73.out L75.out);have mM_75:=hI (mM_73.out.over L75.out);have kK_75:=hI (kK_73.out.over L75.out);have nE_75:=hI (nE_73.out.over L75.out);have xA_75:=hI (Y73.out.over L75.out);refine hK _ _ S75.out ?_;clear hK K;subst hfr74;refine n0a λfr76 hfr76=>?_
      refine oN 14 _ rfl λK hK=>?_
      refine i0a rfl _ _ 5 _ rfl Tryz.underlying99 ([.slice (some ⟨g75,0,none⟩) 2 2,.slice Ap 2 cp,.slice A73 16 c73,.slice Aq 2 cq,.slice (some ⟨wt29.heap.size,0,none⟩) 2 2]:List Value) (by rw[hfr76];kernel_rfl) ?_;intro g77 wt77 qa qb Y077 L77;have Y77:Hid (f1a wt77 g77 5 (x2a [((some ⟨g75,0,none⟩),2,2,[a.lev,a.dur]),(Ap,2,cp,m2),(A73,16,c73,fs),(Aq,2,cq,k2),((some ⟨wt29.heap.size,0,none⟩),2,2,List.replicate 2 0)]) (y2a [((some ⟨g75,0,none⟩),2,2,[a.lev,a.dur]),(Ap,2,cp,m2),(A73,16,c73,fs),(Aq,2,cq,k2),((some ⟨wt29.heap.size,0,none⟩),2,2,List.replicate 2 0)]) (z2a [((some ⟨g75,0,none⟩),2,2,[a.lev,a.dur]),(Ap,2,cp,m2),(A73,16,c73,fs),(Aq,2,cq,k2),((some ⟨wt29.heap.size,0,none⟩),2,2,List.replicate 2 0)]) (o1a [((some ⟨g75,0,none⟩),2,2,[a.lev,a.dur]),(Ap,2,cp,m2),(A73,16,c73,fs),(Aq,2,cq,k2),((some ⟨wt29.heap.size,0,none⟩),2,2,List.replicate 2 0)])):=f1a.of_blk [((some ⟨g75,0,none⟩),2,2,[a.lev,a.dur]),(Ap,2,cp,m2),(A73,16,c73,fs),(Aq,2,cq,k2),((some ⟨wt29.heap.size,0,none⟩),2,2,List.replicate 2 0)] Y077.out (List.forall_mem_cons.2 ⟨Y75.out.over L77.out,List.forall_mem_cons.2 ⟨mM_75.out.over L77.out,List.forall_mem_cons.2 ⟨xA_75.out.over L77.out,List.forall_mem_cons.2 ⟨kK_75.out.over L77.out,List.forall_mem_cons.2 ⟨nE_75.out.over L77.out,λ_ h=>by cases h⟩⟩⟩⟩⟩);clear Y077;have S77:=hI (S75.out.over L77.out);have b77:=hI (step b75.out L77.out);refine hK _ _ S77.out ?_;clear hK K;subst hfr76;refine oN 15 _ rfl λK hK=>?_
      go_simp;refine(CC.out _ g77 5 _ _ _ _ Y77.out (by omega) (by show 0+2+2+16+2+2<=_;omega)).mono ?_;rintro e wt78 ⟨v,rfl,hY78,L078⟩;have OUT:=hI hY78;have L78:=hI L078;clear hY78 L078;have hsz0:=b77.out.size;have S78:=hI (S77.out.over L78.out);have b78:=hI (step b77.out L78.out);refine hK _ _ S78.out ?_;clear hK K;refine oN 16 _ rfl λK hK=>?_
      go_simp;refine hK _ _ S78.out ?_;clear hK K;refine oN 17 _ rfl λK hK=>?_
      go_simp;refine hK _ _ S78.out ?_;clear hK K;refine dN ?_;have HO6:=hI (P0a.mono OUT.out (Nat.le_trans (hsz0) (Nat.le_refl _)));go_wp2;go_ret2;refine HQ.out _ _ _ rfl ?_ b78.out;have h9:=HO6.out;simpa[Q3a,o1a,List.append_assoc] using h9
   ·skip
    subst hfr1;refine H0a rfl _ _ rfl 2 rfl rfl (by omega) ?_;intro wt81 R81 L81;have Y81:=hI (C1a.holds (base:=0) (.inr ⟨_,rfl,Nat.zero_le _,R81.out⟩) (by rfl:(List.replicate 2 (0:Int)).length=2) (Bytes.zeros 2) (by omega));clear R81;have S81:=hI (S0.out.over L81.out);have b81:=hI (step b0.out L81.out);have mM_81:=hI (mM_0.out.over L81.out);have kK_81:=hI (kK_0.out.over L81.out);refine hK _ _ S81.out ?_;clear hK K;refine n0a λfr82 hfr82=>?_
    refine k1a 4 10 _ _ (by kernel_rfl) rfl rfl (λK hK=>?_) (λK hK=>?_)
    ·skip
     refine i0a rfl _ _ 2 _ rfl Tryz.underlying31 ([.int .u8 a.lev,.int .u8 a.dur]:List Value) (by rw[hfr82];kernel_rfl) ?_;intro g83 wt83 qa qb Y083 L83;have Y83:=hI (Holds.of_lit (xs:=[a.lev,a.dur]) Y083.out HLD.out);clear Y083;have S83:=hI (S81.out.over L83.out);have b83:=hI (step b81.out L83.out);have mM_83:=hI (mM_81.out.over L83.out);have kK_83:=hI (kK_81.out.over L83.out);have nE_83:=hI (Y81.out.over L83.out);refine hK _ _ S83.out ?_;clear hK K;subst hfr82;refine n0a λfr84 hfr84=>?_
     refine oN 10 _ rfl λK hK=>?_
     refine i0a rfl _ _ 2 _ rfl Tryz.underlying204 ([.int .u64 a.file,.int .u64 a.siz]:List Value) (by rw[hfr84];kernel_rfl) ?_;intro g85 wt85 qa qb Y85 L85;have S85:=hI (S83.out.over L85.out);have b85:=hI (step b83.out L85.out);have mM_85:=hI (mM_83.out.over L85.out);have kK_85:=hI (kK_83.out.over L85.out);have nE_85:=hI (nE_83.out.over L85.out);have u2_85:=hI (Y83.out.over L85.out);refine hK _ _ S85.out ?_;clear hK K;subst hfr84;refine oN 11 _ rfl λK hK=>?_
     go_simp;refine(CF16.out _ _ Y85.out).mono ?_;rintro e wt86 ⟨A86,c86,rfl,⟨_,hY86⟩,L086⟩;have Y86:=hI hY86;have L86:=hI L086;clear hY86 L086;have S86:=hI (S85.out.over L86.out);have b86:=hI (step b85.out L86.out);have mM_86:=hI (mM_85.out.over L86.out);have kK_86:=hI (kK_85.out.over L86.out);have nE_86:=hI (nE_85.out.over L86.out);have u2_86:=hI (u2_85.out.over L86.out);refine hK _ _ S86.out ?_;clear hK K;refine n0a λfr87 hfr87=>?_
     refine oN 14 _ rfl λK hK=>?_
     refine i0a rfl _ _ 5 _ rfl Tryz.underlying99 ([.slice (some ⟨g83,0,none⟩) 2 2,.slice Ap 2 cp,.slice A86 16 c86,.slice Aq 2 cq,.slice (some ⟨wc.drew.heap.size,0,none⟩) 2 2]:List Value) (by rw[hfr87];kernel_rfl) ?_;intro g88 wt88 qa qb Y088 L88;have Y88:Hid (f1a wt88 g88 5 (x2a [((some ⟨g83,0,none⟩),2,2,[a.lev,a.dur]),(Ap,2,cp,m2),(A86,16,c86,fs),(Aq,2,cq,k2),((some ⟨wc.drew.heap.size,0,none⟩),2,2,List.replicate 2 0)]) (y2a [((some ⟨g83,0,none⟩),2,2,[a.lev,a.dur]),(Ap,2,cp,m2),(A86,16,c86,fs),(Aq,2,cq,k2),((some ⟨wc.drew.heap.size,0,none⟩),2,2,List.replicate 2 0)]) (z2a [((some ⟨g83,0,none⟩),2,2,[a.lev,a.dur]),(Ap,2,cp,m2),(A86,16,c86,fs),(Aq,2,cq,k2),((some ⟨wc.drew.heap.size,0,none⟩),2,2,List.replicate 2 0)]) (o1a [((some ⟨g83,0,none⟩),2,2,[a.lev,a.dur]),(Ap,2,cp,m2),(A86,16,c86,fs),(Aq,2,cq,k2),((some ⟨wc.drew.heap.size,0,none⟩),2,2,List.replicate 2 0)])):=f1a.of_blk [((some ⟨g83,0,none⟩),2,2,[a.lev,a.dur]),(Ap,2,cp,m2),(A86,16,c86,fs),(Aq,2,cq,k2),((some ⟨wc.drew.heap.size,0,none⟩),2,2,List.replicate 2 0)] Y088.out (List.forall_mem_cons.2 ⟨u2_86.out.over L88.out,List.forall_mem_cons.2 ⟨mM_86.out.over L88.out,List.forall_mem_cons.2 ⟨Y86.out.over L88.out,List.forall_mem_cons.2 ⟨kK_86.out.over L88.out,List.forall_mem_cons.2 ⟨nE_86.out.over L88.out,λ_ h=>by cases h⟩⟩⟩⟩⟩);clear Y088;have S88:=hI (S86.out.over L88.out);have b88:=hI (step b86.out L88.out);refine hK _ _ S88.out ?_;clear hK K;subst hfr87;refine oN 15 _ rfl λK hK=>?_
     go_simp;refine(CC.out _ g88 5 _ _ _ _ Y88.out (by omega) (by show 0+2+2+16+2+2<=_;omega)).mono ?_;rintro e wt89 ⟨v,rfl,hY89,L089⟩;have OUT:=hI hY89;have L89:=hI L089;clear hY89 L089;have hsz0:=b88.out.size;have S89:=hI (S88.out.over L89.out);have b89:=hI (step b88.out L89.out);refine hK _ _ S89.out ?_;clear hK K;refine oN 16 _ rfl λK hK=>?_
     go_simp;refine hK _ _ S89.out ?_;clear hK K;refine oN 17 _ rfl λK hK=>?_
     go_simp;refine hK _ _ S89.out ?_;clear hK K;refine dN ?_;have HO6:=hI (P0a.mono OUT.out (Nat.le_trans (hsz0) (Nat.le_refl _)));go_wp2;go_ret2;refine HQ.out _ _ _ rfl ?_ b89.out;have h9:=HO6.out;simpa[Q3a,o1a,List.append_assoc] using h9
    ·skip
     refine i0a rfl _ _ 2 _ rfl Tryz.underlying204 ([.int .u64 a.file,.int .u64 a.siz]:List Value) (by rw[hfr82];kernel_rfl) ?_;intro g92 wt92 qa qb Y92 L92;have S92:=hI (S81.out.over L92.out);have b92:=hI (step b81.out L92.out);have mM_92:=hI (mM_81.out.over L92.out);have kK_92:=hI (kK_81.out.over L92.out);have nE_92:=hI (Y81.out.over L92.out);refine hK _ _ S92.out ?_;clear hK K;subst hfr82;refine n0a λfr93 hfr93=>?_
     refine k1a 4 11 _ _ (by kernel_rfl) rfl rfl (λK hK=>?_) (λK hK=>?_)
     ·skip
      refine i0a rfl _ _ 2 _ rfl Tryz.underlying31 ([.int .u8 a.lev,.int .u8 a.dur]:List Value) (by rw[hfr93];kernel_rfl) ?_;intro g94 wt94 qa qb Y094 L94;have Y94:=hI (Holds.of_lit (xs:=[a.lev,a.dur]) Y094.out HLD.out);clear Y094;have S94:=hI (S92.out.over L94.out);have b94:=hI (step b92.out L94.out);have mM_94:=hI (mM_92.out.over L94.out);have kK_94:=hI (kK_92.out.over L94.out);have nE_94:=hI (nE_92.out.over L94.out);have lA_94:=hI (Y92.out.over L94.out);refine hK _ _ S94.out ?_;clear hK K;subst hfr93;refine oN 11 _ rfl λK hK=>?_
      go_simp;refine(CF16.out _ _ lA_94.out).mono ?_;rintro e wt95 ⟨A95,c95,rfl,⟨_,hY95⟩,L095⟩;have Y95:=hI hY95;have L95:=hI L095;clear hY95 L095;have S95:=hI (S94.out.over L95.out);have b95:=hI (step b94.out L95.out);have mM_95:=hI (mM_94.out.over L95.out);have kK_95:=hI (kK_94.out.over L95.out);have nE_95:=hI (nE_94.out.over L95.out);have u2_95:=hI (Y94.out.over L95.out);refine hK _ _ S95.out ?_;clear hK K;refine n0a λfr96 hfr96=>?_
      refine oN 14 _ rfl λK hK=>?_
      refine i0a rfl _ _ 5 _ rfl Tryz.underlying99 ([.slice (some ⟨g94,0,none⟩) 2 2,.slice Ap 2 cp,.slice A95 16 c95,.slice Aq 2 cq,.slice (some ⟨wc.drew.heap.size,0,none⟩) 2 2]:List Value) (by rw[hfr96];kernel_rfl) ?_;intro g97 wt97 qa qb Y097 L97;have Y97:Hid (f1a wt97 g97 5 (x2a [((some ⟨g94,0,none⟩),2,2,[a.lev,a.dur]),(Ap,2,cp,m2),(A95,16,c95,fs),(Aq,2,cq,k2),((some ⟨wc.drew.heap.size,0,none⟩),2,2,List.replicate 2 0)]) (y2a [((some ⟨g94,0,none⟩),2,2,[a.lev,a.dur]),(Ap,2,cp,m2),(A95,16,c95,fs),(Aq,2,cq,k2),((some ⟨wc.drew.heap.size,0,none⟩),2,2,List.replicate 2 0)]) (z2a [((some ⟨g94,0,none⟩),2,2,[a.lev,a.dur]),(Ap,2,cp,m2),(A95,16,c95,fs),(Aq,2,cq,k2),((some ⟨wc.drew.heap.size,0,none⟩),2,2,List.replicate 2 0)]) (o1a [((some ⟨g94,0,none⟩),2,2,[a.lev,a.dur]),(Ap,2,cp,m2),(A95,16,c95,fs),(Aq,2,cq,k2),((some ⟨wc.drew.heap.size,0,none⟩),2,2,List.replicate 2 0)])):=f1a.of_blk [((some ⟨g94,0,none⟩),2,2,[a.lev,a.dur]),(Ap,2,cp,m2),(A95,16,c95,fs),(Aq,2,cq,k2),((some ⟨wc.drew.heap.size,0,none⟩),2,2,List.replicate 2 0)] Y097.out (List.forall_mem_cons.2 ⟨u2_95.out.over L97.out,List.forall_mem_cons.2 ⟨mM_95.out.over L97.out,List.forall_mem_cons.2 ⟨Y95.out.over L97.out,List.forall_mem_cons.2 ⟨kK_95.out.over L97.out,List.forall_mem_cons.2 ⟨nE_95.out.over L97.out,λ_ h=>by cases h⟩⟩⟩⟩⟩);clear Y097;have S97:=hI (S95.out.over L97.out);have b97:=hI (step b95.out L97.out);refine hK _ _ S97.out ?_;clear hK K;subst hfr96;refine oN 15 _ rfl λK hK=>?_
      go_simp;refine(CC.out _ g97 5 _ _ _ _ Y97.out (by omega) (by show 0+2+2+16+2+2<=_;omega)).mono ?_;rintro e wt98 ⟨v,rfl,hY98,L098⟩;have OUT:=hI hY98;have L98:=hI L098;clear hY98 L098;have hsz0:=b97.out.size;have S98:=hI (S97.out.over L98.out);have b98:=hI (step b97.out L98.out);refine hK _ _ S98.out ?_;clear hK K;refine oN 16 _ rfl λK hK=>?_
      go_simp;refine hK _ _ S98.out ?_;clear hK K;refine oN 17 _ rfl λK hK=>?_
      go_simp;refine hK _ _ S98.out ?_;clear hK K;refine dN ?_;have HO6:=hI (P0a.mono OUT.out (Nat.le_trans (hsz0) (Nat.le_refl _)));go_wp2;go_ret2;refine HQ.out _ _ _ rfl ?_ b98.out;have h9:=HO6.out;simpa[Q3a,o1a,List.append_assoc] using h9
     ·skip
      subst hfr93;go_simp;refine(CF16.out _ _ Y92.out).mono ?_;rintro e wt101 ⟨A101,c101,rfl,⟨_,hY101⟩,L0101⟩;have Y101:=hI hY101;have L101:=hI L0101;clear hY101 L0101;have S101:=hI (S92.out.over L101.out);have b101:=hI (step b92.out L101.out);have mM_101:=hI (mM_92.out.over L101.out);have kK_101:=hI (kK_92.out.over L101.out);have nE_101:=hI (nE_92.out.over L101.out);refine hK _ _ S101.out ?_;clear hK K;refine n0a λfr102 hfr102=>?_
      refine oN 4 _ rfl λK hK=>?_
      refine i0a rfl _ _ 2 _ rfl Tryz.underlying31 ([.int .u8 a.lev,.int .u8 a.dur]:List Value) (by rw[hfr102];kernel_rfl) ?_;intro g103 wt103 qa qb Y0103 L103;have Y103:=hI (Holds.of_lit (xs:=[a.lev,a.dur]) Y0103.out HLD.out);clear Y0103;have S103:=hI (S101.out.over L103.out);have b103:=hI (step b101.out L103.out);have mM_103:=hI (mM_101.out.over L103.out);have kK_103:=hI (kK_101.out.over L103.out);have nE_103:=hI (nE_101.out.over L103.out);have xA_103:=hI (Y101.out.over L103.out);refine hK _ _ S103.out ?_;clear hK K;subst hfr102;refine n0a λfr104 hfr104=>?_
      refine oN 14 _ rfl λK hK=>?_
      refine i0a rfl _ _ 5 _ rfl Tryz.underlying99 ([.slice (some ⟨g103,0,none⟩) 2 2,.slice Ap 2 cp,.slice A101 16 c101,.slice Aq 2 cq,.slice (some ⟨wc.drew.heap.size,0,none⟩) 2 2]:List Value) (by rw[hfr104];kernel_rfl) ?_;intro g105 wt105 qa qb Y0105 L105;have Y105:Hid (f1a wt105 g105 5 (x2a [((some ⟨g103,0,none⟩),2,2,[a.lev,a.dur]),(Ap,2,cp,m2),(A101,16,c101,fs),(Aq,2,cq,k2),((some ⟨wc.drew.heap.size,0,none⟩),2,2,List.replicate 2 0)]) (y2a [((some ⟨g103,0,none⟩),2,2,[a.lev,a.dur]),(Ap,2,cp,m2),(A101,16,c101,fs),(Aq,2,cq,k2),((some ⟨wc.drew.heap.size,0,none⟩),2,2,List.replicate 2 0)]) (z2a [((some ⟨g103,0,none⟩),2,2,[a.lev,a.dur]),(Ap,2,cp,m2),(A101,16,c101,fs),(Aq,2,cq,k2),((some ⟨wc.drew.heap.size,0,none⟩),2,2,List.replicate 2 0)]) (o1a [((some ⟨g103,0,none⟩),2,2,[a.lev,a.dur]),(Ap,2,cp,m2),(A101,16,c101,fs),(Aq,2,cq,k2),((some ⟨wc.drew.heap.size,0,none⟩),2,2,List.replicate 2 0)])):=f1a.of_blk [((some ⟨g103,0,none⟩),2,2,[a.lev,a.dur]),(Ap,2,cp,m2),(A101,16,c101,fs),(Aq,2,cq,k2),((some ⟨wc.drew.heap.size,0,none⟩),2,2,List.replicate 2 0)] Y0105.out (List.forall_mem_cons.2 ⟨Y103.out.over L105.out,List.forall_mem_cons.2 ⟨mM_103.out.over L105.out,List.forall_mem_cons.2 ⟨xA_103.out.over L105.out,List.forall_mem_cons.2 ⟨kK_103.out.over L105.out,List.forall_mem_cons.2 ⟨nE_103.out.over L105.out,λ_ h=>by cases h⟩⟩⟩⟩⟩);clear Y0105;have S105:=hI (S103.out.over L105.out);have b105:=hI (step b103.out L105.out);refine hK _ _ S105.out ?_;clear hK K;subst hfr104;refine oN 15 _ rfl λK hK=>?_
      go_simp;refine(CC.out _ g105 5 _ _ _ _ Y105.out (by omega) (by show 0+2+2+16+2+2<=_;omega)).mono ?_;rintro e wt106 ⟨v,rfl,hY106,L0106⟩;have OUT:=hI hY106;have L106:=hI L0106;clear hY106 L0106;have hsz0:=b105.out.size;have S106:=hI (S105.out.over L106.out);have b106:=hI (step b105.out L106.out);refine hK _ _ S106.out ?_;clear hK K;refine oN 16 _ rfl λK hK=>?_
      go_simp;refine hK _ _ S106.out ?_;clear hK K;refine oN 17 _ rfl λK hK=>?_
      go_simp;refine hK _ _ S106.out ?_;clear hK K;refine dN ?_;have HO6:=hI (P0a.mono OUT.out (Nat.le_trans (hsz0) (Nat.le_refl _)));go_wp2;go_ret2;refine HQ.out _ _ _ rfl ?_ b106.out;have h9:=HO6.out;simpa[Q3a,o1a,List.append_assoc] using h9
 ·subst h6;have HQ:=HQ0;have hb0:U4a 6 a=List.replicate 4 0:=rfl;rw[hb0] at HQ;clear HQ0 hb0;go_enter Tryz.func109,Tryz.ntmps109;go_wp2_with(first
   | ((with_reducible refine sN 3 ?_);refine g0a rfl _ (.tmp 1) rfl cs rfl ?_;intro g w1 hg1 hg2 K1 L1)
   | ((with_reducible refine sN 9 ?_);refine f0a rfl _ (.tmp 3) rfl g rfl _ cs K1 20 _ Tryz.underlying39 rfl t0a HL ?_)
   | fail)
  refine(CN.out w1 L1.out).mono ?_;rintro e w2 ⟨rfl,L2⟩;have K2:=hI (K1.out.over L2);have M2':=hI (step L1.out L2);obtain⟨c15,c12,c14⟩:=FL.out w2 g K2.out;clear L2 K1 L1 CN;go_wp2_with(at_make;refine D1a _ rfl _ _ rfl _ _ 4 rfl rfl rfl rfl (by omega) ?_;intro w6 R6 L6);go_ret2;exact HQ.out _ _ _ rfl (l5a R6.out M2'.out.size (by omega)) (step M2'.out L6)
 ·subst h7;have HQ:=HQ0;have hb0:U4a 7 a=List.replicate 4 0:=rfl;rw[hb0] at HQ;clear HQ0 hb0;go_enter Tryz.func109,Tryz.ntmps109;go_wp2_with(first
   | ((with_reducible refine sN 3 ?_);refine g0a rfl _ (.tmp 1) rfl cs rfl ?_;intro g w1 hg1 hg2 K1 L1)
   | ((with_reducible refine sN 9 ?_);refine f0a rfl _ (.tmp 3) rfl g rfl _ cs K1 20 _ Tryz.underlying39 rfl t0a HL ?_)
   | fail)
  refine(CN.out w1 L1.out).mono ?_;rintro e w2 ⟨rfl,L2⟩;have K2:=hI (K1.out.over L2);have M2':=hI (step L1.out L2);obtain⟨c15,c12,c14⟩:=FL.out w2 g K2.out;clear L2 K1 L1 CN;go_wp2_with(at_make;refine D1a _ rfl _ _ rfl _ _ 4 rfl rfl rfl rfl (by omega) ?_;intro w6 R6 L6);go_ret2;exact HQ.out _ _ _ rfl (l5a R6.out M2'.out.size (by omega)) (step M2'.out L6)
 ·subst h8;have HQ:=HQ0;have hb0:U4a 8 a=le (X2:Int) 4++a.data:=by unfold U4a;rw[if_neg (by decide),if_pos rfl,HX.out.len]
  rw[hb0] at HQ;have CN4:Hid (∀(w:World) (gl:Nat),Blk w gl 25 [.int .u64 (X2:Int)]->Calls Tryz.prog 152 #[.int .i64 4,.slice (some ⟨gl,0,none⟩) 1 1] w λe w'=>∃A' c',e=.returned (.slice A' 4 c')/\(P0a .u8 5 w' w.heap.size (.slice A' 4 c') (le (X2:Int) 4)/\Holds w' w'.heap.size A' 4 c' (le (X2:Int) 4))/\Below w.heap.size w w'):=λw gl hB=>by
   have h:=Y3a w gl 1 4 ([(X2:Int)]:List Int) hB rfl (by decide) (by decide) (λz hz=>by rw[show(256:Int)^4=4294967296 from by decide];simp only[List.mem_cons,List.not_mem_nil,or_false] at hz;rw[hz];omega)
   have e1:l2a 4 ([(X2:Int)]:List Int)=le (X2:Int) 4:=by simp[l2a]
   rw[e1] at h;have e2:(le (X2:Int) 4).length=4:=by simp[w0a]
   rw[e2] at h;exact h
  obtain⟨n4,hn4⟩:∃x,x=le (X2:Int) 4:=⟨_,rfl⟩;rw[<-hn4] at CN4 HQ;clear hn4 HQ0 hb0;go_enter Tryz.func109,Tryz.ntmps109;go_wp2_with(first
   | ((with_reducible refine sN 3 ?_);refine g0a rfl _ (.tmp 1) rfl cs rfl ?_;intro g w1 hg1 hg2 K1 L1)
   | ((with_reducible refine sN 9 ?_);refine f0a rfl _ (.tmp 3) rfl g rfl _ cs K1 20 _ Tryz.underlying39 rfl t0a HL ?_)
   | fail)
  refine(CN.out w1 L1.out).mono ?_;rintro e w2 ⟨rfl,L2⟩;have K2:=hI (K1.out.over L2);have M2':=hI (step L1.out L2);obtain⟨c15,c12,c14⟩:=FL.out w2 g K2.out;clear L2 K1 L1 CN;have HXD:=hI (HX.out.over M2'.out);go_upto_region 10 with fail
  refine wp_region_held (S:=λw'=>Blk w' g 39 cs) (by kernel_rfl) ?_;change wpAnyH _ _ _ _ _ _ _ _ w2.drew
  have S0:Hid (Blk w2.drew g 39 cs):=K2.out.drew;have b0:Hid (Below w.heap.size w w2.drew):=M2'.out.drew;have HD_0:=hI (HXD.out.drew);refine tK 0 _ rfl (A0a (by kernel_rfl) _ (.tmp 3) 8 rfl (.pointer (some ⟨g,0,none⟩)) (.pointer (some ⟨g,15,none⟩)) (by kernel_rfl) (D4a g)) S0.out ?_;refine tK 1 _ rfl (l0a (by kernel_rfl) _ (.tmp 57) rfl g 15 (by kernel_rfl) (.slice X1 X2 X3) (λw h=>(FL.out w g h).1) _ Tryz.underlying31 rfl) S0.out ?_;refine tK 2 ((.int .i64 (X2:Int))) rfl (.inl ⟨by kernel_rfl,λw _=>by go_simp⟩) S0.out ?_;refine tK 3 ((.int .u64 (X2:Int))) rfl (.inl ⟨by kernel_rfl,λw _=>by go_simp⟩) S0.out ?_;refine tK 6 _ rfl (A0a (by kernel_rfl) _ (.tmp 3) 8 rfl (.pointer (some ⟨g,0,none⟩)) (.pointer (some ⟨g,15,none⟩)) (by kernel_rfl) (D4a g)) S0.out ?_;refine tK 7 _ rfl (l0a (by kernel_rfl) _ (.tmp 63) rfl g 15 (by kernel_rfl) (.slice X1 X2 X3) (λw h=>(FL.out w g h).1) _ Tryz.underlying31 rfl) S0.out ?_;refine n0a λfr1 hfr1=>?_
  refine oN 4 _ rfl λK hK=>?_
  refine i0a rfl _ _ 1 _ rfl Tryz.underlying204 ([.int .u64 (X2:Int)]:List Value) (by rw[hfr1];kernel_rfl) ?_;intro g2 wt2 qa qb Y2 L2;have S2:=hI (S0.out.over L2.out);have b2:=hI (step b0.out L2.out);have HD_2:=hI (HD_0.out.over L2.out);refine hK _ _ S2.out ?_;clear hK K;subst hfr1;refine oN 5 _ rfl λK hK=>?_
  go_simp;refine(CN4.out _ _ Y2.out).mono ?_;rintro e wt3 ⟨A3,c3,rfl,⟨_,hY3⟩,L03⟩;have Y3:=hI hY3;have L3:=hI L03;clear hY3 L03;have S3:=hI (S2.out.over L3.out);have b3:=hI (step b2.out L3.out);have HD_3:=hI (HD_2.out.over L3.out);refine hK _ _ S3.out ?_;clear hK K;refine n0a λfr4 hfr4=>?_
  refine oN 8 _ rfl λK hK=>?_
  refine i0a rfl _ _ 2 _ rfl Tryz.underlying99 ([.slice A3 4 c3,.slice X1 X2 X3]:List Value) (by rw[hfr4];kernel_rfl) ?_;intro g5 wt5 qa qb Y05 L5;have Y5:Hid (f1a wt5 g5 2 (x2a [(A3,4,c3,n4),(X1,X2,X3,a.data)]) (y2a [(A3,4,c3,n4),(X1,X2,X3,a.data)]) (z2a [(A3,4,c3,n4),(X1,X2,X3,a.data)]) (o1a [(A3,4,c3,n4),(X1,X2,X3,a.data)])):=f1a.of_blk [(A3,4,c3,n4),(X1,X2,X3,a.data)] Y05.out (List.forall_mem_cons.2 ⟨Y3.out.over L5.out,List.forall_mem_cons.2 ⟨HD_3.out.over L5.out,λ_ h=>by cases h⟩⟩);clear Y05;have S5:=hI (S3.out.over L5.out);have b5:=hI (step b3.out L5.out);refine hK _ _ S5.out ?_;clear hK K;subst hfr4;refine oN 9 _ rfl λK hK=>?_
  go_simp;refine(CC.out _ g5 2 _ _ _ _ Y5.out (by omega) (by show 0+4+X2<=_;omega)).mono ?_;rintro e wt6 ⟨v,rfl,hY6,L06⟩;have OUT:=hI hY6;have L6:=hI L06;clear hY6 L06;have hsz0:=b5.out.size;have S6:=hI (S5.out.over L6.out);have b6:=hI (step b5.out L6.out);refine hK _ _ S6.out ?_;clear hK K;refine oN 10 _ rfl λK hK=>?_
  go_simp;refine hK _ _ S6.out ?_;clear hK K;refine oN 11 _ rfl λK hK=>?_
  go_simp;refine hK _ _ S6.out ?_;clear hK K;refine dN ?_;have HO6:=hI (P0a.mono OUT.out (Nat.le_trans (hsz0) (Nat.le_refl _)));go_wp2;go_ret2;refine HQ.out _ _ _ rfl ?_ b6.out;have h9:=HO6.out;simpa[Q3a,o1a,List.append_assoc] using h9
 ·subst h9;have HQ:=HQ0;have hb0:U4a 9 a=le a.n 4:=rfl;rw[hb0] at HQ;have CN4:Hid (∀(w:World) (gl:Nat),Blk w gl 25 [.int .u64 a.n]->Calls Tryz.prog 152 #[.int .i64 4,.slice (some ⟨gl,0,none⟩) 1 1] w λe w'=>∃A' c',e=.returned (.slice A' 4 c')/\(P0a .u8 5 w' w.heap.size (.slice A' 4 c') (le a.n 4)/\Holds w' w'.heap.size A' 4 c' (le a.n 4))/\Below w.heap.size w w'):=λw gl hB=>by
   have h:=Y3a w gl 1 4 ([a.n]:List Int) hB rfl (by decide) (by decide) (λz hz=>by rw[show(256:Int)^4=4294967296 from by decide];simp only[List.mem_cons,List.not_mem_nil,or_false] at hz;rw[hz];omega)
   have e1:l2a 4 ([a.n]:List Int)=le a.n 4:=by simp[l2a]
   rw[e1] at h;have e2:(le a.n 4).length=4:=by simp[w0a]
   rw[e2] at h;exact h
  obtain⟨n4,hn4⟩:∃x,x=le a.n 4:=⟨_,rfl⟩;rw[<-hn4] at CN4 HQ;clear hn4 HQ0 hb0;go_enter Tryz.func109,Tryz.ntmps109;go_wp2_with(first
   | ((with_reducible refine sN 3 ?_);refine g0a rfl _ (.tmp 1) rfl cs rfl ?_;intro g w1 hg1 hg2 K1 L1)
   | ((with_reducible refine sN 9 ?_);refine f0a rfl _ (.tmp 3) rfl g rfl _ cs K1 20 _ Tryz.underlying39 rfl t0a HL ?_)
   | fail)
  refine(CN.out w1 L1.out).mono ?_;rintro e w2 ⟨rfl,L2⟩;have K2:=hI (K1.out.over L2);have M2':=hI (step L1.out L2);obtain⟨c15,c12,c14⟩:=FL.out w2 g K2.out;clear L2 K1 L1 CN;obtain⟨e1,e10,e11,e12,e13,e14,e16⟩:=FC.out w2 g K2.out;go_wp2_with(first
   | ((with_reducible refine sN 72 ?_);refine q1a rfl _ _ 1 _ rfl Tryz.underlying204 ([.int .u64 a.n]:List Value) (by kernel_rfl) ?_;intro g3 w3 hg5 hg6 Y3 L3)
   | fail)
  refine(CN4.out w3 g3 Y3.out).mono ?_;rintro e w4 ⟨Af,cf,rfl,⟨hOf,hHf⟩,L4⟩;have OF:=hI (P0a.mono hOf (Nat.le_trans M2'.out.size L3.out.size));have M4:=hI (step (step M2'.out L3.out) L4);clear hOf hHf L4 L3 Y3;go_wp2;go_ret2;exact HQ.out _ _ _ rfl OF.out M4.out
 ·subst h10;have HQ:=HQ0;have hb0:U4a 10 a=List.replicate 4 0:=rfl;rw[hb0] at HQ;clear HQ0 hb0;go_enter Tryz.func109,Tryz.ntmps109;go_wp2_with(first
   | ((with_reducible refine sN 3 ?_);refine g0a rfl _ (.tmp 1) rfl cs rfl ?_;intro g w1 hg1 hg2 K1 L1)
   | ((with_reducible refine sN 9 ?_);refine f0a rfl _ (.tmp 3) rfl g rfl _ cs K1 20 _ Tryz.underlying39 rfl t0a HL ?_)
   | fail)
  refine(CN.out w1 L1.out).mono ?_;rintro e w2 ⟨rfl,L2⟩;have K2:=hI (K1.out.over L2);have M2':=hI (step L1.out L2);obtain⟨c15,c12,c14⟩:=FL.out w2 g K2.out;clear L2 K1 L1 CN;go_wp2_with(at_make;refine D1a _ rfl _ _ rfl _ _ 4 rfl rfl rfl rfl (by omega) ?_;intro w6 R6 L6);go_ret2;exact HQ.out _ _ _ rfl (l5a R6.out M2'.out.size (by omega)) (step M2'.out L6)
def WI(w:World)(g base:Nat)(xs:List Int)(e:Int):Prop:=base<=g/\∃v,Blk w g 174 [v,.int .i64 e]/\P0a .u8 5 w base v xs
structure l1a (g base:Nat) (w w':World):Prop where
 below:Below base w w'
 rest:∀k cs T,T≠5->k≠g->w.heap[k]? = some (.cells cs T (0,0))->w'.heap[k]? = some (.cells cs T (0,0))
def F6a(w:World)(g base:Nat)(xs:List Int)(er:Int)(e:Ending)(w':World):Prop:=e=.returned (.tuple #[])/\WI w' g base xs er/\l1a g base w w'
def X5a(base:Nat)(w:World):Prop:=∀w',Below base w w'->K7a w'
theorem X5a.of{w:World}(h:K7a w):X5a w.heap.size w:=λw' hb=>h.below hb
theorem X5a.next{base:Nat}{w w':World}(h:X5a base w)(hb:Below base w w'):X5a base w':=λw2 h2=>h w2 (hb.trans h2)
theorem X5a.tabs{base:Nat}{w:World}(h:X5a base w):K7a w:=h w (Below.refl _ _)
section
variable {w w' w2:World} {g base:Nat} {xs:List Int} {er:Int} {v:Value} {cs:List Value} {T:TypeId}
theorem l1a.refl(g base:Nat)(w:World):l1a g base w w:=⟨Below.refl _ _,λ_ _ _ _ _ h=>h⟩
theorem l1a.trans(a:l1a g base w w')(b:l1a g base w' w2):l1a g base w w2:=⟨a.below.trans b.below,λk cs T h1 h2 h3=>b.rest k cs T h1 h2 (a.rest k cs T h1 h2 h3)⟩
theorem l1a.of_below(hb:Below w.heap.size w w')(h:base<=w.heap.size):l1a g base w w':=⟨hb.mono h,λk cs T _ _ h3=>(hb.block k (Array.getElem?_eq_some_iff.1 h3).1).trans h3⟩
theorem l1a.of_only(hO:a2a g w w')(h:base<=g):l1a g base w w':=⟨hO.below h,λk cs T _ h2 h3=>(hO.rest k h2).trans h3⟩
theorem l1a.of_grown(hg:w.grownBy w' v.ownBlock)(ho:P0a .u8 5 w base v xs)(h:base<=w.heap.size):l1a g base w w':=by refine⟨(Below.refl _ _).grown hg h (λk hk=>(World.ownsRow.lt ho.own k hk).1),λk cs T h1 h2 h3=>?_⟩;rw[hg.block k (Array.getElem?_eq_some_iff.1 h3).1 (λe=>?_),h3];obtain⟨_,cs',hc⟩:=ho.own.block e.symm;rw[hc] at h3;cases h3;exact h1 rfl
theorem l1a.blk{k:Nat}(a:l1a g base w w')(h:Blk w k T cs)(h1:T≠5)(h2:k≠g):Blk w' k T cs:=a.rest k _ T h1 h2 h
theorem WI.lt(h:WI w g base xs er):g<w.heap.size:=by obtain⟨_,v,hB,_⟩:=h;exact hB.lt
theorem WI.size(h:WI w g base xs er):base<=w.heap.size:=by have:=h.lt;have:=h.1;omega
theorem WI.below(h:WI w g base xs er)(hb:Below w.heap.size w w'):WI w' g base xs er:=by obtain⟨h1,v,hB,hO⟩:=h;exact⟨h1,v,hB.over hb,hO.below hb⟩
theorem l1a.onlyNew{h:Nat}(a:l1a g base w w')(hO:a2a h w' w2)(h1:w.heap.size<=h)(h2:base<=h):l1a g base w w2:=⟨a.below.trans (hO.below h2),λk cs T q1 q2 q3=>(hO.rest k (λe=>by have:=(Array.getElem?_eq_some_iff.1 q3).1;omega)).trans (a.rest k cs T q1 q2 q3)⟩
theorem T0b{A:Option Addr}{n c:Nat}(h:P0a .u8 5 w base (.slice A n c) xs)(hx:Bytes xs)(hn:xs.length<=281474976710656):Holds w w.heap.size A n c xs:=by obtain⟨A',c',e,h1⟩:=P0a.holds8 h hx hn;cases e;exact h1
theorem WI.onlyT{k:Nat}(h:WI w g base xs er)(hB:Blk w k T cs)(hT:T≠5)(hO:a2a k w w')(hk:k≠g):WI w' g base xs er:=by obtain⟨h1,v,hBv,hOv⟩:=h;refine⟨h1,v,hBv.only hO (λe=>hk e.symm),hOv.keep λi c hi hc=>hO.rest i (λe=>?_)⟩;subst e;rw[show w.heap[i]? = _ from hB] at hc;cases hc;exact hT rfl
theorem q8a(h:P0a .u8 5 w base v xs)(hB:Blk w g 174 cs)(hO:a2a g w w'):P0a .u8 5 w' base v xs:=
 h.keep λi c hi hc=>hO.rest i (λe=>by subst e;rw[show w.heap[i]? = _ from hB] at hc;cases hc)
theorem r8a(hB:Blk w g 174 cs)(h:P0a .u8 5 w base v xs)(hg:w.grownBy w' v.ownBlock):Blk w' g 174 cs:=by
 show w'.heap[g]? = _
 rw[hg.block g hB.lt (λe=>?_)]
 ·exact hB
 ·obtain⟨_,c,hc⟩:=h.own.block e.symm;rw[show w.heap[g]? = _ from hB] at hc;cases hc
end
theorem N8a{w:World}{base:Nat}{v:Value}{xs ys:List Int}{B m c:Nat}{ad:Addr}(hown:P0a .u8 5 w base v xs)(hr:Holds w B (some ad) m c ys)(hlen:xs.length+ys.length<=140737488355328)(hbase:base<=w.heap.size)(ty:TypeId) :
  ∃v' w',(Builtin.append_ #[31,31] ty #[v,.slice (some ad) m c]).run Tryz.prog w=.ok v' w'/\P0a .u8 5 w' base v' (xs++ys)/\w.grownBy w' v.ownBlock:=by
 obtain⟨i0,hi0,hz0,hz1,hz2⟩:=info_parts G3a;have hl:=hr.len;have hOK:=hown.own;have hnews:∀j y,(ys.map (Value.int .u8))[j]? = some y->w.cell? (ad.add j)=some y:=by
  intro j u hj;have hjl:j<ys.length:=by
   by_cases hj':j<ys.length
   ·exact hj'
   ·rw[List.getElem?_eq_none (by simp;omega)] at hj;cases hj
  obtain⟨b,off,he,_,hcl⟩:=hr.cells (by omega);obtain rfl:=Option.some.inj he;have e:(⟨b,off,none⟩:Addr).add j=⟨b,off+j,none⟩:=by
   by_cases hj0:j=0
   ·subst hj0;simp[Addr.add]
   ·simp[Addr.add,hj0]
  rw[e,hcl j (by omega),<-hj];simp[hjl]
 have h1:∀y∈ys.map (Value.int .u8),y.oneCell'=true:=by intro v hv;obtain⟨x,_,rfl⟩:=List.mem_map.1 hv;rfl
 have hmax:maxLen=9223372036854775807:=rfl;have key:∀ty,∃v' w',(Builtin.append_ #[31,31] ty #[v,.slice (some ad) m c]).run Tryz.prog w=.ok v' w'/\P0a .u8 5 w' base v' (xs++ys)/\w.grownBy w' v.ownBlock:=by
  intro ty;rcases hown with⟨rfl,rfl⟩ | ⟨g,z,rfl,hb,hz,hg⟩
  ·by_cases hm0:m=0
   ·subst hm0;have:ys=[]:=List.eq_nil_of_length_eq_zero hl;subst this;obtain⟨v',w',hrun,_,hgr,hnil⟩:=run_append_own (P:=Tryz.prog) w base 31 ty 5 i0 (.int .u8 0) 1 1 Tryz.underlying31 hi0 hz0 hz1 hz2 rfl (by omega) (.slice none 0 0) 0 [] (World.ownsRow_nil w base _ 1) ad 0 c [] rfl (λj u hj=>by cases hj) (λu hu=>by cases hu) (by omega) (by omega) hbase;obtain rfl:=hnil.2 ⟨rfl,rfl⟩;exact⟨_,_,hrun,P0a.nil _ _ _ _,hgr⟩
   ·have hrun:=run_append_nil (P:=Tryz.prog) w 31 ty 5 i0 (.int .u8 0) Tryz.underlying31 hi0 hz0 ad m c (ys.map (Value.int .u8)) (by simp[hl,hz1]) hnews (by omega) (by omega) (by rw[hz2];simp at hlen;omega);exact⟨_,_,hrun,by simpa using P4a .u8 5 w base ys 0 m hl hbase (by omega),⟨rfl,rfl,rfl,by simp,λj hj _=>Below.heap_alloc w.drew _ j hj⟩⟩
  ·by_cases hroom:xs.length+m<=xs.length+z
   ·have hrun:=run_append_room (P:=Tryz.prog) w 31 ty 5 i0 Tryz.underlying31 hi0 g xs.length (xs.length+z) _ hg ad m c (ys.map (Value.int .u8)) (by simp[hl,hz1]) hnews h1 hroom (by simp[hz1];omega);refine⟨_,_,hrun,.inr ⟨g,z-m,by simp[hl];omega,hb,by simp;omega,?_⟩,⟨rfl,rfl,rfl,by simp,λj _ hj=>setRow_other w g j _ (λe=>hj (by simp[Value.ownBlock,e]))⟩⟩;rw[setRow_heap w g _ _ 5 _ hg]
    congr 2
    have e1:((xs++List.replicate z 0).map (Value.int .u8)).take (xs.length*i0.size)=xs.map (Value.int .u8):=by rw[hz1,Nat.mul_one,List.map_append,List.take_left' (by simp)]
    have e2:((xs++List.replicate z 0).map (Value.int .u8)).drop (xs.length*i0.size+(ys.map (Value.int .u8)).length)=(List.replicate (z-m) 0).map (Value.int .u8):=by rw[hz1,Nat.mul_one,List.length_map,hl,<-List.drop_drop,List.map_append,List.drop_left' (by simp),<-List.map_drop,List.drop_replicate]
    rw[e1,e2];simp
   ·have q0a:∀j y,(xs.map (Value.int .u8))[j]? = some y->w.cell? ((⟨g,0,none⟩:Addr).add j)=some y:=hOK.cells (g:=g) rfl;have hrun:=run_append_grow (P:=Tryz.prog) w 31 ty 5 i0 (.int .u8 0) Tryz.underlying31 hi0 hz0 ⟨g,0,none⟩ xs.length (xs.length+z) (xs.map (Value.int .u8)) (by simp[hz1]) q0a ad m c (ys.map (Value.int .u8)) (by simp[hl,hz1]) hnews (by omega) (by omega) (growslice_fits (by omega) (by rw[hz2];omega));refine⟨_,_,hrun,?_,⟨rfl,rfl,rfl,by simp,λj hj _=>Below.heap_alloc w.drew _ j hj⟩⟩;have:=P4a .u8 5 w base (xs++ys) (xs.length+z) (xs.length+m) (by simp[hl]) hbase (by omega);simpa using this
 exact key ty
theorem r3a{w:World}{ops:Array Oper}{rest:List Oper}{o:Oper}{a:Act}{Q:Exit->Act->World->Prop}(hgd:o.guard=none)(s x:Operand)
(ho:o.op=.call { callee:=.builtin .append,args:=#[s,x],argTypes:=#[31,31] })
(base:Nat)(v:Value)(xs:List Int)(hs:a.eval s=v)(hown:P0a .u8 5 w base v xs)(B:Nat)(A:Option Addr)(m c:Nat)(ys:List Int)(hx:a.eval x=.slice A m c)
(hr:Holds w B A m c ys)(hlen:xs.length+ys.length<=140737488355328)(hbase:base<=w.heap.size)
(h:∀v' w',Hid (P0a .u8 5 w' base v' (xs++ys))->Hid (w.grownBy w' v.ownBlock)->wpList Tryz.prog ops Q rest (a.put o.dst v') w') :
  wpList Tryz.prog ops Q (o::rest) a w:=by
 have hl:=hr.len;rcases A with _ | ad
 ·have hc:=hr.bare rfl;have hf:=hr.fit;have hm:m=0:=by omega
  subst hm;subst hc;have:ys=[]:=List.eq_nil_of_length_eq_zero hl;subst this;obtain⟨i0,hi0,hz0,hz1,hz2⟩:=info_parts G3a;refine wpList_append_own_none hgd s x 31 ho base 5 i0 1 Tryz.underlying31 hi0 v xs.length _ hs hown.own hx ?_;exact h v w (by rw[List.append_nil];exact hown) (World.grownBy.refl w _)
 ·obtain⟨v',w',hrun,h2,h3⟩:=N8a hown hr hlen hbase o.type;exact Lib.wpList_append_run w hgd s x _ _ ho _ _ hs hx v' w' hrun (h v' w' h2 h3)
theorem X6a{w:World}{ops:Array Oper}{rest:List Oper}{o:Oper}{a:Act}{Q:Exit->Act->World->Prop}(hgd:o.guard=none)(s x:Operand)
(ho:o.op=.call { callee:=.builtin .append,args:=#[s,x],argTypes:=#[31,3] })
(base n:Nat)(v:Value)(xs:List Int)(hs:a.eval s=v)(hx:a.eval x=.int .i64 (n:Int))(hown:P0a .u8 5 w base v xs)(h0:0<n)(hn:n<=65536)(hlen:xs.length<=1000000)(hbase:base<=w.heap.size)
(h:∀v' w',Hid (P0a .u8 5 w' base v' (xs++List.replicate n 0))->Hid (w.grownBy w' v.ownBlock)->wpList Tryz.prog ops Q rest (a.put o.dst v') w') :
  wpList Tryz.prog ops Q (o::rest) a w:=by
 obtain⟨v',w',hrun,h2,h3⟩:=R5a h0 hn hown hlen hbase o.type;exact Lib.wpList_append_run w hgd s x _ _ ho _ _ hs hx v' w' hrun (h v' w' h2 h3)
theorem K9a:(Tryz.prog.info? 31).map (·.size)=some 1:=by kernel_rfl
theorem P1b(w:World)(b:Bool):Calls Tryz.prog 169 #[.bool b] w λe w'=>e=.returned (.int .u64 (n1a b))/\w=w':=by
 cases b
 ·go_enter Tryz.func169,Tryz.ntmps169;go_wp2;go_ret;exact⟨rfl,rfl⟩
 ·go_enter Tryz.func169,Tryz.ntmps169;go_wp2;go_ret;exact⟨rfl,rfl⟩
theorem y2b(w:World)(g base:Nat)(xs:List Int)(er n:Int)(s:Nat)(hW:WI w g base xs er)(hs:b3a (s:Int)=true)(hn:0<=n/\n<256^s)(hl:xs.length<=1000000) :
  Calls Tryz.prog 205 #[.pointer (some ⟨g,0,none⟩),.int .u64 n,.int .i64 (s:Int)] w (F6a w g base (xs++le n s) er):=by
 have hs8:1<=s/\s<=8:=by rcases N1a hs with h | h | h | h<;>omega
 obtain⟨hs1,hs8⟩:=hs8;have hp8:(256:Int)^s<=18446744073709551616:=by
  rcases N1a hs with h | h | h | h
  ·obtain rfl:s=1:=by omega
   decide
  ·obtain rfl:s=2:=by omega
   decide
  ·obtain rfl:s=4:=by omega
   decide
  ·obtain rfl:s=8:=by omega
   decide
 have CP:Hid (Calls Tryz.prog 54 #[.int .u64 n,.int .i64 (s:Int)] w λe w'=>∃A',e=.returned (.tuple #[.slice A' s s,.int .i64 0])/\C1a w' w.heap.size A' (le n s)/\Below w.heap.size w w'):=by
  obtain⟨h0,h1⟩:=hn;have h:=j7a w n (s:Int) ⟨h0,by omega⟩ (by omega);unfold C4a at h;have hp:a4a n (s:Int)=true:=by unfold a4a;rw[hs,Int.toNat_natCast,decide_eq_true h1];rfl
  unfold J5a M4a at h;rw[if_pos hp,if_pos hp,Int.toNat_natCast,w0a] at h;exact h
 have hsz:=hW.size;have hgb:=hW.1;have HLN:Hid ((le n s).length=s/\Bytes (le n s)):=⟨w0a _ _,F0a _ _⟩;obtain⟨_,v,hB,hO⟩:=hW;have HBw:=hI hB;have HO:=hI hO;have HQ:Hid (∀e w',(e=.returned (.tuple #[])/\(∃u,Blk w' g 174 [u,.int .i64 er]/\P0a .u8 5 w' base u (xs++le n s))/\l1a g base w w')->F6a w g base (xs++le n s) er e w'):=λe w' ⟨h1,h2,h3⟩=>⟨h1,⟨hgb,h2⟩,h3⟩
 obtain⟨ys,hys⟩:∃ys,ys=le n s:=⟨_,rfl⟩;rw[<-hys] at CP HQ HLN⊢;clear hB hO hys hn hp8 hs;go_enter Tryz.func205,Tryz.ntmps205;go_wp2_with fail;refine CP.out.mono ?_;rintro e w1 ⟨A',rfl,hF,L1⟩;have HH:=hI (hF.holds HLN.out.1 HLN.out.2 (by omega));have hyl:=HLN.out.1;have B1:=hI (HBw.out.over L1);have O1:=hI (HO.out.below L1);have K1:Hid (l1a g base w w1):=l1a.of_below L1 hsz;have hsz1:base<=w1.heap.size:=by have:=L1.size;omega
 have c0:w1.cell? ⟨g,0,none⟩=some v:=B1.out.at rfl;clear hF L1 CP HBw HO;go_wp2_with(first
  | ((with_reducible refine sN 20 ?_);refine r3a rfl (.tmp 18) (.tmp 19) rfl base v xs rfl O1.out w1.heap.size A' s s ys rfl HH.out (by omega) hsz1 ?_;intro u w2 O2 G2;have B2:=hI (r8a B1.out O1.out G2.out);have K2:Hid (l1a g base w w2):=(K1.out.trans (l1a.of_grown G2.out O1.out hsz1));have HU:=hI (s4a O2.out))
  | ((with_reducible refine sT 22 ?_);refine d0a rfl _ (.tmp 22) (.tmp 20) rfl g 0 rfl _ [v,.int .i64 er] u rfl B2 (hI (by show 0<2;decide)) K9a HU.out ?_;intro w3 B3 P3 hg3;have O3:=hI (q8a O2.out B2.out P3.out);have K3:Hid (l1a g base w w3):=(K2.out.trans (l1a.of_only P3.out hgb)))
  | fail)
 go_end0;exact HQ.out _ _ ⟨rfl,⟨u,B3.out,O3.out⟩,K3.out⟩
theorem N3a(w:World)(g base:Nat)(xs:List Int)(er n:Int)(hW:WI w g base xs er)(hn:0<=n/\n<=65535)(hl:xs.length<=1000000) :
  Calls Tryz.prog 166 #[.pointer (some ⟨g,0,none⟩),.int .u64 n] w (F6a w g base (xs++le n 2) er):=by
 have C1:=hI (y2b w g base xs er n 2 hW (by decide) ⟨hn.1,by have:=hn.2;rw[show(256:Int)^2=65536 from by decide];omega⟩ hl);have HQ:Hid (∀e w',(e=.returned (.tuple #[])/\WI w' g base (xs++le n 2) er/\l1a g base w w')->F6a w g base (xs++le n 2) er e w'):=λ_ _ h=>h
 unfold F6a at C1;obtain⟨ys,hys⟩:∃ys,ys=xs++le n 2:=⟨_,rfl⟩;rw[<-hys] at C1 HQ⊢;clear hys hW hn;go_enter Tryz.func166,Tryz.ntmps166;go_wp2_with fail;refine C1.out.mono ?_;rintro e w1 ⟨rfl,h1,h2⟩;have H1:=hI h1;have H2:=hI h2;clear h1 h2;go_wp2;go_end0;exact HQ.out _ _ ⟨rfl,H1.out,H2.out⟩
theorem q3a(w:World)(g base:Nat)(xs:List Int)(er n:Int)(hW:WI w g base xs er)(hn:0<=n/\n<=18446744073709551615)(hl:xs.length<=1000000) :
  Calls Tryz.prog 165 #[.pointer (some ⟨g,0,none⟩),.int .u64 n] w (F6a w g base (xs++le n 8) er):=by
 have C1:=hI (y2b w g base xs er n 8 hW (by decide) ⟨hn.1,by have:=hn.2;rw[show(256:Int)^8=18446744073709551616 from by decide];omega⟩ hl);have HQ:Hid (∀e w',(e=.returned (.tuple #[])/\WI w' g base (xs++le n 8) er/\l1a g base w w')->F6a w g base (xs++le n 8) er e w'):=λ_ _ h=>h
 unfold F6a at C1;obtain⟨ys,hys⟩:∃ys,ys=xs++le n 8:=⟨_,rfl⟩;rw[<-hys] at C1 HQ⊢;clear hys hW hn;go_enter Tryz.func165,Tryz.ntmps165;go_wp2_with fail;refine C1.out.mono ?_;rintro e w1 ⟨rfl,h1,h2⟩;have H1:=hI h1;have H2:=hI h2;clear h1 h2;go_wp2;go_end0;exact HQ.out _ _ ⟨rfl,H1.out,H2.out⟩
theorem J4a(w:World)(g base:Nat)(xs:List Int)(er:Int)(n:Nat)(hW:WI w g base xs er)(h0:0<n)(hn:n<=65536)(hl:xs.length<=1000000) :
  Calls Tryz.prog 167 #[.pointer (some ⟨g,0,none⟩),.int .i64 (n:Int)] w (F6a w g base (xs++List.replicate n 0) er):=by
 have hsz:=hW.size;have hgb:=hW.1;obtain⟨_,v,hB,hO⟩:=hW;have HBw:=hI hB;have HO:=hI hO;have HQ:Hid (∀e w',(e=.returned (.tuple #[])/\(∃u,Blk w' g 174 [u,.int .i64 er]/\P0a .u8 5 w' base u (xs++List.replicate n 0))/\l1a g base w w')->F6a w g base (xs++List.replicate n 0) er e w'):=λe w' ⟨h1,h2,h3⟩=>⟨h1,⟨hgb,h2⟩,h3⟩
 have c0:w.cell? ⟨g,0,none⟩=some v:=hB.at rfl;clear hB hO;go_enter Tryz.func167,Tryz.ntmps167;go_wp2_with(first
  | ((with_reducible refine sN 10 ?_);refine X6a rfl (.tmp 8) (.tmp 9) rfl base n v xs rfl rfl HO.out h0 hn hl hsz ?_;intro u w2 O2 G2;have B2:=hI (r8a HBw.out HO.out G2.out);have K2:Hid (l1a g base w w2):=(l1a.of_grown G2.out HO.out hsz);have HU:=hI (s4a O2.out))
  | ((with_reducible refine sT 12 ?_);refine d0a rfl _ (.tmp 12) (.tmp 10) rfl g 0 rfl _ [v,.int .i64 er] u rfl B2 (hI (by show 0<2;decide)) K9a HU.out ?_;intro w3 B3 P3 hg3;have O3:=hI (q8a O2.out B2.out P3.out);have K3:Hid (l1a g base w w3):=(K2.out.trans (l1a.of_only P3.out hgb)))
  | fail)
 go_end0;exact HQ.out _ _ ⟨rfl,⟨u,B3.out,O3.out⟩,K3.out⟩
theorem s8a(w:World)(g base:Nat)(xs:List Int)(er:Int)(s:ByteArray)(hW:WI w g base xs er)(hs:s.size<=17592186044416)(hT:X5a base w)(hl:xs.length<=1000000) :
  Calls Tryz.prog 168 #[.pointer (some ⟨g,0,none⟩),.string s] w (F6a w g base (xs++N0a s.data.toList) (if er=0 then B0a s.data.toList else er)):=by
 have hsz:=hW.size;have hgb:=hW.1;have CP:Hid (Calls Tryz.prog 141 #[.string s] w λe w'=>∃A m c,e=.returned (.tuple #[.slice A m c,.int .i64 (B0a s.data.toList)])/\m<=1000/\P0a .u8 5 w' w.heap.size (.slice A m c) (N0a s.data.toList)/\Below w.heap.size w w'):=by
  refine(V4a s w hs hT.tabs).mono λe w' ⟨v,h1,h2,h3⟩=>?_
  have hle:(N0a s.data.toList).length<=514:=c3a _;obtain⟨A,c,rfl,h4⟩:=P0a.holds8 h2 (S1a _) (by omega);exact⟨A,_,c,h1,by omega,h2,h3⟩
 obtain⟨_,v,hB,hO⟩:=hW;have HBw:=hI hB;have HO:=hI hO;have HQ:Hid (∀e w',(e=.returned (.tuple #[])/\(∃u,Blk w' g 174 [u,.int .i64 (if er=0 then B0a s.data.toList else er)]/\P0a .u8 5 w' base u (xs++N0a s.data.toList))/\l1a g base w w')->F6a w g base (xs++N0a s.data.toList) (if er=0 then B0a s.data.toList else er) e w'):=λe w' ⟨h1,h2,h3⟩=>⟨h1,⟨hgb,h2⟩,h3⟩
 have HYB:Hid (Bytes (N0a s.data.toList)/\(N0a s.data.toList).length<=514):=⟨S1a _,c3a _⟩;obtain⟨ys,hys⟩:∃ys,ys=N0a s.data.toList:=⟨_,rfl⟩;obtain⟨et,het⟩:∃ys,ys=B0a s.data.toList:=⟨_,rfl⟩;rw[<-hys,<-het] at CP HQ⊢;rw[<-hys] at HYB;have hgw:g<w.heap.size:=hB.lt;clear hB hO hys het;by_cases he:er=0
 ·subst he;rw[if_pos rfl] at HQ⊢;go_enter Tryz.func168,Tryz.ntmps168;go_wp2_with fail;refine CP.out.mono ?_;rintro e w1 ⟨A',m,c,rfl,hm,hh,L1⟩;have HYL:=HYB.out.2;have HOT:=hI hh;have HH:=hI (T0b hh HYB.out.1 (by omega));have hyl:=HH.out.len;have B1:=hI (HBw.out.over L1);have O1:=hI (HO.out.below L1);have K1:Hid (l1a g base w w1):=l1a.of_below L1 hsz;have hsz1:base<=w1.heap.size:=by have:=L1.size;omega
  have c0:w1.cell? ⟨g,0,none⟩=some v:=B1.out.at rfl;have c1:w1.cell? ⟨g,1,none⟩=some (.int .i64 0):=B1.out.at rfl;clear hh L1 CP HBw HO;go_wp2_with(first
   | ((with_reducible refine sT 19 ?_);refine d0a rfl _ (.tmp 19) (.tmp 17) rfl g 1 rfl _ [v,.int .i64 0] (.int .i64 et) rfl B1 (hI (by show 1<2;decide)) (by kernel_rfl) rfl ?_;intro w2 B2 P2 hg2;have O2:=hI (q8a O1.out B1.out P2.out);have K2:Hid (l1a g base w w2):=(K1.out.trans (l1a.of_only P2.out hgb));have HH2:=hI (T0b (HOT.out.onlyAt P2.out hgw) HYB.out.1 (by omega));have hsz2:base<=w2.heap.size:=(by have:=P2.out.size;omega);have d0:w2.cell? ⟨g,0,none⟩=some v:=B2.out.at rfl)
   | ((with_reducible refine sN 26 ?_);refine r3a rfl (.tmp 24) (.tmp 25) rfl base v xs rfl O2.out _ A' m c ys rfl HH2.out (by omega) hsz2 ?_;intro u w3 O3 G3;have B3:=hI (r8a B2.out O2.out G3.out);have K3:Hid (l1a g base w w3):=(K2.out.trans (l1a.of_grown G3.out O2.out hsz2));have HU:=hI (s4a O3.out))
   | ((with_reducible refine sT 28 ?_);refine d0a rfl _ (.tmp 28) (.tmp 26) rfl g 0 rfl _ [v,.int .i64 et] u rfl B3 (hI (by show 0<2;decide)) K9a HU.out ?_;intro w4 B4 P4 hg4;have O4:=hI (q8a O3.out B3.out P4.out);have K4:Hid (l1a g base w w4):=(K3.out.trans (l1a.of_only P4.out hgb)))
   | fail)
  go_end0;exact HQ.out _ _ ⟨rfl,⟨u,B4.out,O4.out⟩,K4.out⟩
 ·rw[if_neg he] at HQ⊢;have hne:(er==0)=false:=by simpa using he
  clear he;go_enter Tryz.func168,Tryz.ntmps168;go_wp2_with fail;refine CP.out.mono ?_;rintro e w1 ⟨A',m,c,rfl,hm,hh,L1⟩;have HYL:=HYB.out.2;have HOT:=hI hh;have HH:=hI (T0b hh HYB.out.1 (by omega));have hyl:=HH.out.len;have B1:=hI (HBw.out.over L1);have O1:=hI (HO.out.below L1);have K1:Hid (l1a g base w w1):=l1a.of_below L1 hsz;have hsz1:base<=w1.heap.size:=by have:=L1.size;omega
  have c0:w1.cell? ⟨g,0,none⟩=some v:=B1.out.at rfl;have c1:w1.cell? ⟨g,1,none⟩=some (.int .i64 er):=B1.out.at rfl;clear hh L1 CP HBw HO;go_wp2_with(first
   | ((with_reducible refine sN 26 ?_);refine r3a rfl (.tmp 24) (.tmp 25) rfl base v xs rfl O1.out _ A' m c ys rfl HH.out (by omega) hsz1 ?_;intro u w3 O3 G3;have B3:=hI (r8a B1.out O1.out G3.out);have K3:Hid (l1a g base w w3):=(K1.out.trans (l1a.of_grown G3.out O1.out hsz1));have HU:=hI (s4a O3.out))
   | ((with_reducible refine sT 28 ?_);refine d0a rfl _ (.tmp 28) (.tmp 26) rfl g 0 rfl _ [v,.int .i64 er] u rfl B3 (hI (by show 0<2;decide)) K9a HU.out ?_;intro w4 B4 P4 hg4;have O4:=hI (q8a O3.out B3.out P4.out);have K4:Hid (l1a g base w w4):=(K3.out.trans (l1a.of_only P4.out hgb)))
   | fail)
  go_end0;exact HQ.out _ _ ⟨rfl,⟨u,B4.out,O4.out⟩,K4.out⟩
theorem Q1b(w:World)(g base:Nat)(xs:List Int)(er f v:Int)(hW:WI w g base xs er)(hf:0<=f/\f<=18446744073709551615)(hv:0<=v/\v<=255)(hl:xs.length<=900000) :
  Calls Tryz.prog 170 #[.pointer (some ⟨g,0,none⟩),.int .u64 f,.int .u8 v] w (F6a w g base (xs++(le f 8++(le v 1++List.replicate 3 0))) er):=by
 obtain⟨hv0,hv1⟩:=hv;have C1:=hI (q3a w g base xs er f hW hf (by omega));have C2:Hid (∀w':World,WI w' g base (xs++le f 8) er->Calls Tryz.prog 205 #[.pointer (some ⟨g,0,none⟩),.int .u64 v,.int .i64 1] w' λe w2=>e=.returned (.tuple #[])/\WI w2 g base (xs++le f 8++le v 1) er/\l1a g base w' w2):=λw' h=>y2b w' g base _ er v 1 h (by decide) ⟨hv0,by rw[show(256:Int)^1=256 from by decide];omega⟩ (by rw[List.length_append,w0a];omega)
 have C3:Hid (∀w':World,WI w' g base (xs++le f 8++le v 1) er->Calls Tryz.prog 167 #[.pointer (some ⟨g,0,none⟩),.int .i64 3] w' λe w2=>e=.returned (.tuple #[])/\WI w2 g base (xs++le f 8++le v 1++List.replicate 3 0) er/\l1a g base w' w2):=λw' h=>J4a w' g base _ er 3 h (by decide) (by decide) (by rw[List.length_append,List.length_append,w0a,w0a];omega)
 have HQ:Hid (∀e w',(e=.returned (.tuple #[])/\WI w' g base (xs++le f 8++le v 1++List.replicate 3 0) er/\l1a g base w w')->F6a w g base (xs++(le f 8++(le v 1++List.replicate 3 0))) er e w'):=λe w' h=>by rw[show xs++(le f 8++(le v 1++List.replicate 3 0))=xs++le f 8++le v 1++List.replicate 3 0 from by simp only[List.append_assoc]];exact h
 unfold F6a at C1;obtain⟨y3,hy3⟩:∃ys,ys=xs++le f 8++le v 1++List.replicate 3 0:=⟨_,rfl⟩;rw[<-hy3] at C3 HQ;obtain⟨y2,hy2⟩:∃ys,ys=xs++le f 8++le v 1:=⟨_,rfl⟩;rw[<-hy2] at C2 C3;obtain⟨y1,hy1⟩:∃ys,ys=xs++le f 8:=⟨_,rfl⟩;rw[<-hy1] at C1 C2;clear hy1 hy2 hy3 hW hf;go_enter Tryz.func170,Tryz.ntmps170;go_wp2_with fail;refine C1.out.mono ?_;rintro e w1 ⟨rfl,h1,h2⟩;have D2:=hI (C2.out w1 h1);have K1:=hI h2;clear h1 h2 C1 C2;go_wp2_with fail;refine D2.out.mono ?_;rintro e w2 ⟨rfl,h1,h2⟩;have D3:=hI (C3.out w2 h1);have K2:=hI (K1.out.trans h2);clear h1 h2 D2 C3;go_wp2_with fail;refine D3.out.mono ?_;rintro e w3 ⟨rfl,h1,h2⟩;have H3:=hI h1;have K3:=hI (K2.out.trans h2);clear h1 h2 D3;go_wp2;go_end0;exact HQ.out _ _ ⟨rfl,H3.out,K3.out⟩
def z2b(w:World)(base:Nat)(xs:List Int)(er:Int)(e:Ending)(w':World):Prop:=∃v,e=.returned (.tuple #[v,.int .i64 er])/\P0a .u8 5 w' base v (if er=0 then xs else [])/\Below w.heap.size w w'
theorem O3a(w:World)(g base:Nat)(xs:List Int)(er:Int)(hW:WI w g base xs er) :
  Calls Tryz.prog 171 #[.pointer (some ⟨g,0,none⟩)] w (z2b w base xs er):=by
 obtain⟨_,v,hB,hO⟩:=hW;have HO:=hI hO;have HV:=hI (s4a hO);have c0:w.cell? ⟨g,0,none⟩=some v:=hB.at rfl;have c1:w.cell? ⟨g,1,none⟩=some (.int .i64 er):=hB.at rfl;have HBw:=hI hB;by_cases he:er=0
 ·subst he;have HQ:Hid (∀e w',(e=.returned (.tuple #[v,.int .i64 0])/\P0a .u8 5 w' base v xs/\Below w.heap.size w w')->z2b w base xs 0 e w'):=λe w' ⟨h1,h2,h3⟩=>⟨v,h1,by rw[if_pos rfl];exact h2,h3⟩
  clear hB hO;go_enter Tryz.func171,Tryz.ntmps171;go_wp2;go_ret2;exact HQ.out _ _ ⟨rfl,HO.out,Below.refl _ _⟩
 ·have HQ:Hid (∀e w',(e=.returned (.tuple #[.slice none 0 0,.int .i64 er])/\Below w.heap.size w w')->z2b w base xs er e w'):=λe w' ⟨h1,h2⟩=>⟨_,h1,by rw[if_neg he];exact P0a.nil _ _ _ _,h2⟩
  have hne:(er != 0)=true:=by simpa using he
  clear hB hO he;go_enter Tryz.func171,Tryz.ntmps171;go_wp2;go_quiet (fail);go_wp2;go_ret2;exact HQ.out _ _ ⟨rfl,F2a w _⟩
theorem R1b:(Tryz.prog.info? 126).map (λi=>(i.zero,i.size))=some (some (.agg ([.string .empty,.int .u8 0,.int .i64 0]:List Value).toArray),3):=by kernel_rfl
def v9b(e:H1a):Prop:=e.ok/\v3a e=true/\e.name.size<=17592186044416
theorem A3b(w:World)(g base:Nat)(xs:List Int)(A:Option Addr)(n c:Nat)(es:List H1a)(hW:WI w g base xs 0)(hE:c1a C0a 3 w base A n c es)(hn:n<=64)(hi:∀e∈es,v9b e)(hT:X5a base w)(hl:xs.length<=100000) :
  Calls Tryz.prog 183 #[.pointer (some ⟨g,0,none⟩),.slice A n c] w (F6a w g base (xs++t1a es) (x1a es)):=by
 have hsz:=hW.size;have HW:=hI hW;have HE:=hI hE;have HT:=hI hT;have HLE:=hI hE.len;have hft:=hE.fit;have HQ:Hid (∀e w',(e=.returned (.tuple #[])/\WI w' g base (xs++t1a es) (x1a es)/\l1a g base w w')->F6a w g base (xs++t1a es) (x1a es) e w'):=λ_ _ h=>h
 have H0:Hid (xs++t1a (es.take 0)=xs/\x1a (es.take 0)=0):=by
  refine⟨?_,?_⟩
  ·rw[List.take_zero];exact List.append_nil _
  ·rw[List.take_zero];rfl
 have HN:Hid (xs++t1a (es.take n)=xs++t1a es/\x1a (es.take n)=x1a es):=by
  have h1:es.take n=es:=by rw[<-hE.len,List.take_length]
  exact⟨by rw[h1],by rw[h1]⟩
 have HX:Hid (∀j,j<n->∃x,es[j]? = some x/\v9b x):=λj hj=>⟨_,List.getElem?_eq_getElem (by have:=hE.len;omega),hi _ (List.getElem_mem _)⟩
 have HST:Hid (∀(j:Nat) (x:H1a),es[j]? = some x->xs++t1a (es.take j)++le x.kind 2++List.replicate 2 0++le x.size 8++N0a x.name.data.toList=xs++t1a (es.take (j+1))/\(if x1a (es.take j)=0 then B0a x.name.data.toList else x1a (es.take j))=x1a (es.take (j+1))):=λj x hx=>by
  rw[List.take_add_one,hx,Option.toList_some,b9a,H0b];refine⟨by simp only[t1a,D1b,List.append_nil,List.append_assoc],?_⟩;have e1:x1a [x]=B0a x.name.data.toList:=by
   show(if B0a x.name.data.toList=0 then (0:Int) else B0a x.name.data.toList)=_
   split
   ·rename_i h;exact h.symm
   ·rfl
  rw[e1]
 have HLEN:Hid (∀j,j<=n->(xs++t1a (es.take j)).length<=200000):=λj hj=>by have h1:=I0b (es.take j);rw[List.length_take] at h1;rw[List.length_append];omega
 obtain⟨YS,hYS⟩:∃f:Nat->List Int,f=λj=>xs++t1a (es.take j):=⟨_,rfl⟩
 have hYS2:∀j,xs++t1a (es.take j)=YS j:=λj=>by rw[hYS]
 obtain⟨ER,hER⟩:∃f:Nat->Int,f=λj=>x1a (es.take j):=⟨_,rfl⟩
 have hER2:∀j,x1a (es.take j)=ER j:=λj=>by rw[hER]
 simp only[hYS2,hER2] at H0 HN HST HLEN;rw[<-HN.out.1,<-HN.out.2] at HQ⊢;clear hYS hYS2 hER hER2 hW hE hT hi HN;have hzk:=R1b;obtain⟨zk,hzk2⟩:∃zk,zk=([.string .empty,.int .u8 0,.int .i64 0]:List Value):=⟨_,rfl⟩;have ZKL:Hid (zk.length=3):=by rw[hzk2];rfl
 rw[<-hzk2] at hzk;have HZK:=hI hzk;clear hzk hzk2;go_enter Tryz.func183,Tryz.ntmps183;go_wp2;go_loopw [8] (λi wr=>∃j:Nat,i=.int .i64 j/\j<=n/\Hid (WI wr g base (YS j) (ER j))/\Hid (l1a g base w wr)) (λi _=>n-(intOf i).toNat)
 case atStart=>exact⟨0,rfl,Nat.zero_le _,(by rw[H0.out.1,H0.out.2];exact HW.out),l1a.refl _ _ _⟩
 case round=>
  obtain⟨j,rfl,hj,HW1,HK1⟩:=hrel;by_cases hlt:j<n
  ·have hh:=HE.out.below HK1.out.below;obtain⟨b,off,rfl,hb,hc⟩:=hh.cells (by omega);obtain⟨x,hx,hin⟩:=HX.out j hlt;have Rx:Hid (wr.rangeAt b (off+j*3) (C0a x)):=hh.range rfl hlt hx;have LX:Hid ((C0a x).length=3):=rfl;have HX1:Hid (∀v∈C0a x,v.oneCell'=true):=e5a x;have HS:=hI (HST.out j x hx);have HLJ:=HLEN.out j hj;obtain⟨x1,x2,x3⟩:=hin;have hk1:=x1.kind;obtain⟨hk0,hk1⟩:=hk1;have hs1:0<=x.size/\x.size<=1048576:=by unfold v3a at x2;simp only[Bool.and_eq_true,decide_eq_true_eq] at x2;exact x2.2
   obtain⟨hs0,hs1⟩:=hs1;have HTr:=hI (HT.out.next HK1.out.below);have hwsz:=HW1.out.size;have hwgr:=HK1.out.below.size;have hwlt:=HW1.out.lt;have C1:Hid (∀w',WI w' g base (YS j) (ER j)->Calls Tryz.prog 166 #[.pointer (some ⟨g,0,none⟩),.int .u64 x.kind] w' λe w2=>e=.returned (.tuple #[])/\WI w2 g base (YS j++le x.kind 2) (ER j)/\l1a g base w' w2):=λw' h=>N3a w' g base _ _ x.kind h ⟨hk0,by omega⟩ (by omega)
   have C2:Hid (∀w',WI w' g base (YS j++le x.kind 2) (ER j)->Calls Tryz.prog 167 #[.pointer (some ⟨g,0,none⟩),.int .i64 2] w' λe w2=>e=.returned (.tuple #[])/\WI w2 g base (YS j++le x.kind 2++List.replicate 2 0) (ER j)/\l1a g base w' w2):=λw' h=>J4a w' g base _ _ 2 h (by decide) (by decide) (by rw[List.length_append,w0a];omega)
   have C3:Hid (∀w',WI w' g base (YS j++le x.kind 2++List.replicate 2 0) (ER j)->Calls Tryz.prog 165 #[.pointer (some ⟨g,0,none⟩),.int .u64 x.size] w' λe w2=>e=.returned (.tuple #[])/\WI w2 g base (YS j++le x.kind 2++List.replicate 2 0++le x.size 8) (ER j)/\l1a g base w' w2):=λw' h=>q3a w' g base _ _ x.size h ⟨hs0,by omega⟩ (by rw[List.length_append,List.length_append,w0a,List.length_replicate];omega)
   have C4:Hid (∀w',X5a base w'->WI w' g base (YS j++le x.kind 2++List.replicate 2 0++le x.size 8) (ER j)->Calls Tryz.prog 168 #[.pointer (some ⟨g,0,none⟩),.string x.name] w' λe w2=>e=.returned (.tuple #[])/\WI w2 g base (YS (j+1)) (ER (j+1))/\l1a g base w' w2):=λw' ht h=>by have h1:=s8a w' g base _ _ x.name h x3 ht (by rw[List.length_append,List.length_append,List.length_append,w0a,w0a,List.length_replicate];omega);rw[HS.out.1,HS.out.2] at h1;exact h1
   obtain⟨y3,hy3⟩:∃y,y=YS j++le x.kind 2++List.replicate 2 0++le x.size 8:=⟨_,rfl⟩;rw[<-hy3] at C3 C4;obtain⟨y2,hy2⟩:∃y,y=YS j++le x.kind 2++List.replicate 2 0:=⟨_,rfl⟩;rw[<-hy2] at C2 C3;obtain⟨y1,hy1⟩:∃y,y=YS j++le x.kind 2:=⟨_,rfl⟩;rw[<-hy1] at C1 C2;have FK:Hid (∀(w:World) (h:Nat),Blk w h 126 (C0a x)->w.cell? ⟨h,0,none⟩=some (.string x.name)/\w.cell? ⟨h,1,none⟩=some (.int .u8 x.kind)/\w.cell? ⟨h,2,none⟩=some (.int .i64 x.size)):=λw h hb=>⟨hb.at rfl,hb.at rfl,hb.at rfl⟩
   obtain⟨cx,hcx⟩:∃cx,cx=C0a x:=⟨_,rfl⟩;rw[<-hcx] at Rx LX HX1 FK;have hwr8:IntKind.u64.wrap x.size=x.size:=by rw[IntKind.wrap_u64];omega
   have hwk8:IntKind.u64.wrap x.kind=x.kind:=by rw[IntKind.wrap_u64];omega
   obtain⟨kd,hkd⟩:∃z,z=x.kind:=⟨_,rfl⟩;obtain⟨sz,hszx⟩:∃z,z=x.size:=⟨_,rfl⟩;obtain⟨nm,hnm⟩:∃z,z=x.name:=⟨_,rfl⟩;rw[<-hkd,<-hszx,<-hnm] at FK;rw[<-hkd] at C1 hk0 hk1 hwk8;rw[<-hszx] at C3 hs0 hs1 hwr8;rw[<-hnm] at C4;clear hh hc hx hcx hy1 hy2 hy3 x1 x2 x3 HS hkd hszx hnm;go_wp2_with(first
    | ((with_reducible refine sN 11 ?_);refine u0a rfl _ (.tmp 10) rfl b (off+j*3) rfl cx _ Rx Tryz.underlying126 rfl 3 n3a LX ?_)
    | ((with_reducible refine sN 5 ?_);refine a0a rfl _ rfl zk _ HZK ?_;intro h u1 hg1 hg2 Z1 N1;have V1:=hI (HW1.out.below N1.out);have hhg:h≠g:=(by omega);have KA:Hid (l1a g base w u1):=(HK1.out.trans (l1a.of_below N1.out hwsz)))
    | ((with_reducible refine sT 5 ?_);refine b0a rfl _ (.tmp 5) (.tmp 11) rfl h rfl _ zk cx rfl Z1 3 n3a ZKL LX HX1 ?_;intro u2 Z2 P2 hg3;have V2:Hid (WI u2 g base (YS j) (ER j)):=(V1.out.onlyT Z1.out (by decide) P2.out hhg);have KB:Hid (l1a g base w u2):=(KA.out.onlyNew P2.out (by omega) (by omega));have q0:=FK.out u2 h Z2.out)
    | fail)
   obtain⟨q1,q2,q3⟩:=q0;go_wp2_with fail;refine(C1.out u2 V2.out).mono ?_;rintro e u3 ⟨rfl,h1,h2⟩;have D2:=hI (C2.out u3 h1);have Z3:=hI (h2.blk Z2.out (by decide) hhg);have KC:=hI (KB.out.trans h2);obtain⟨r1,r2,r3⟩:=FK.out u3 h Z3.out;clear h1 h2 C1 C2 q1 q2 q3;go_wp2_with fail;refine D2.out.mono ?_;rintro e u4 ⟨rfl,h1,h2⟩;have D3:=hI (C3.out u4 h1);have Z4:=hI (h2.blk Z3.out (by decide) hhg);have KD:=hI (KC.out.trans h2);obtain⟨s1,s2,s3⟩:=FK.out u4 h Z4.out;clear h1 h2 D2 C3 r1 r2 r3;go_wp2_with fail;refine D3.out.mono ?_;rintro e u5 ⟨rfl,h1,h2⟩;have KE:=hI (KD.out.trans h2);have D4:=hI (C4.out u5 (HT.out.next KE.out.below) h1);have Z5:=hI (h2.blk Z4.out (by decide) hhg);obtain⟨t1,t2,t3⟩:=FK.out u5 h Z5.out;clear h1 h2 D3 C4 s1 s2 s3;go_wp2_with fail;refine D4.out.mono ?_;rintro e u6 ⟨rfl,h1,h2⟩;have HWn:=hI h1;have KF:=hI (KE.out.trans h2);clear h1 h2 D4 t1 t2 t3;go_wp2;go_roundw
   case rel=>exact⟨j+1,by simp,by omega,HWn,KF⟩
   case measure=>simp[intOf];omega
  ·obtain rfl:j=n:=by omega
   go_wp2;go_end0;exact HQ.out _ _ ⟨rfl,HW1.out,HK1.out⟩
end Go.Proofs.YtpodpmckdiijhaaGreatDoor
