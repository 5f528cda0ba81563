import Derived.Test.YtgfflnjggnadpaaGreatDoorZAD
import Derived.Test.YtgfflnjggnadpaaGreatDoorS0
set_option linter.all false
set_option maxHeartbeats 8000000
set_option maxRecDepth 100000
namespace Go.Proofs.YtgfflnjggnadpaaGreatDoor
open Go.RowKit
set_option maxRecDepth 100000
theorem le1(x:Int)(h0:0<=x)(h1:x<=255):le x 1=[x]:=by
 show[x%256]=[x]
 rw[Int.emod_eq_of_lt h0 (by omega)]
def Q5a(w:World)(c:Int)(a:m1a)(e:Ending)(w':World):Prop:=∃v,e=.returned (.tuple #[v,.int .i64 (w5a c a)])/\a1a .u8 5 w' w.heap.size v (t2b c a)/\Below w.heap.size w w'
theorem b3b(w:World)(c:Int)(cs:List Value)(a:m1a)(hc:0<=c/\c<=65535)(ka:a.ok)(ha:b1a w w.heap.size cs a)(hu:a.user.size<=17592186044416/\a.share.size<=17592186044416)(hnm:a.name.size<=17592186044416)(hn:a.locks.length<=4398046511104)(hT:f7a w) :
  Calls Tryz.prog 84 #[.int .u16 c,.agg cs.toArray] w (Q5a w c a):=by
 have HL:=hI (ha.len ka);have HT:=hI hT;have HA:=hI ha;have CN:Hid (∀w',Below w.heap.size w w'->Calls Tryz.prog 120 #[.int .u16 c,.agg cs.toArray] w' λe w2=>e=.returned (.bool (J5a c a))/\Below w'.heap.size w' w2):=λw' hb=>i0b w' c cs a hc ka (HA.out.over hb) hu hn (HT.out.below hb)
 obtain⟨A1,A2,A3,X1,X2,X3,M1,M2,M3,hcs,hA,hX,hM⟩:=ha;have FL:Hid (∀(w:World) (g:Nat),Blk w g 34 cs->w.cell? ⟨g,61,none⟩=some (.slice X1 X2 X3)/\w.cell? ⟨g,62,none⟩=some (.slice M1 M2 M3)):=λw g h=>by rw[hcs] at h;exact⟨h.at (j0a ka 12),h.at (j0a ka 13)⟩
 have hxl:a.data.length=X2:=hX.len;have hml:a.locks.length=M2:=hM.len;have hxr:=hX.room;have HE:Hid (∀er,w5a c a=er->er≠0->∀v e w',e=.returned (.tuple #[v,.int .i64 er])->v=.slice none 0 0->Below w.heap.size w w'->Q5a w c a e w'):=by intro er h1 h2 v e w' he hv hb;unfold Q5a t2b;rw[h1,if_neg h2];exact⟨_,he,by rw[hv];exact a1a.nil _ _ _ _,hb⟩
 by_cases hnf:J5a c a=true;rotate_left
 ·have hnb:J5a c a=false:=by simpa using hnf
  have HQ:=hI (HE.out 2 (by unfold w5a;rw[if_neg hnf]) (by decide));rw[hnb] at CN;clear hnf hnb HE hA hX hM ka HA hcs hxl hml;go_enter Tryz.func84,Tryz.ntmps84;go_wp2_with(first
   | ((with_reducible refine sN 3 ?_);refine a0a rfl _ (.tmp 1) rfl cs rfl ?_;intro g w1 hg1 hg2 K1 L1)
   | ((with_reducible refine sN 11 ?_);refine d0a rfl _ (.tmp 3) rfl g rfl _ cs K1 69 _ Tryz.underlying34 rfl n0a HL ?_)
   | fail)
  refine(CN.out w1 L1.out).mono ?_;rintro e w2 ⟨rfl,L2⟩;have K2:=hI (K1.out.over L2);have M2':=hI (step L1.out L2);obtain⟨c61,c62⟩:=FL.out w2 g K2.out;clear L2 K1 L1 CN;go_wp2;go_ret2;exact HQ.out _ _ _ rfl rfl M2'.out
 by_cases hlim:X2<=32768/\M2<=16;rotate_left
 ·have HQ:=hI (HE.out 3 (by unfold w5a;rw[if_pos hnf,hxl,hml,if_neg hlim]) (by decide));rw[hnf] at CN;clear hnf HE hA hX hM ka HA hcs hxl hml;by_cases hx3:X2<=32768
  ·have hm3:¬M2<=16:=λh=>hlim ⟨hx3,h⟩
   clear hlim;go_enter Tryz.func84,Tryz.ntmps84;go_wp2_with(first
    | ((with_reducible refine sN 3 ?_);refine a0a rfl _ (.tmp 1) rfl cs rfl ?_;intro g w1 hg1 hg2 K1 L1)
    | ((with_reducible refine sN 11 ?_);refine d0a rfl _ (.tmp 3) rfl g rfl _ cs K1 69 _ Tryz.underlying34 rfl n0a HL ?_)
    | fail)
   refine(CN.out w1 L1.out).mono ?_;rintro e w2 ⟨rfl,L2⟩;have K2:=hI (K1.out.over L2);have M2':=hI (step L1.out L2);obtain⟨c61,c62⟩:=FL.out w2 g K2.out;clear L2 K1 L1 CN;go_wp2;go_ret2;exact HQ.out _ _ _ rfl rfl M2'.out
  ·clear hlim;go_enter Tryz.func84,Tryz.ntmps84;go_wp2_with(first
    | ((with_reducible refine sN 3 ?_);refine a0a rfl _ (.tmp 1) rfl cs rfl ?_;intro g w1 hg1 hg2 K1 L1)
    | ((with_reducible refine sN 11 ?_);refine d0a rfl _ (.tmp 3) rfl g rfl _ cs K1 69 _ Tryz.underlying34 rfl n0a HL ?_)
    | fail)
   refine(CN.out w1 L1.out).mono ?_;rintro e w2 ⟨rfl,L2⟩;have K2:=hI (K1.out.over L2);have M2':=hI (step L1.out L2);obtain⟨c61,c62⟩:=FL.out w2 g K2.out;clear L2 K1 L1 CN;go_wp2;go_ret2;exact HQ.out _ _ _ rfl rfl M2'.out
 obtain⟨hx3,hm3⟩:=hlim;rw[hnf] at CN;have hk:G1a c=true:=by
  unfold J5a at hnf;cases h:G1a c
  ·rw[h,Bool.false_and] at hnf;exact absurd hnf (by decide)
  ·rfl
 have hcc:c=5∨c=6∨c=7∨c=8∨c=9∨c=10:=by unfold G1a at hk;simp at hk;omega
 have HOK:Hid (w5a c a=if c=5 then u0a a.name.data.toList else 0):=by
  show _=_
  unfold w5a;rw[if_pos hnf,hxl,hml,if_pos ⟨hx3,hm3⟩]
 have HQ0:Hid (w5a c a=0->∀v e w',e=.returned (.tuple #[v,.int .i64 0])->a1a .u8 5 w' w.heap.size v (O4a c a)->Below w.heap.size w w'->Q5a w c a e w'):=by intro h v e w' he hv hb;unfold Q5a t2b;rw[h,if_pos rfl];exact⟨_,he,hv,hb⟩
 have b_acc:=ka.acc;obtain⟨l_acc,u_acc⟩:=b_acc;have b_shr:=ka.shr;obtain⟨l_shr,u_shr⟩:=b_shr;have b_way:=ka.way;obtain⟨l_way,u_way⟩:=b_way;have b_opt:=ka.opt;obtain⟨l_opt,u_opt⟩:=b_opt;have b_lev:=ka.lev;obtain⟨l_lev,u_lev⟩:=b_lev;have b_dur:=ka.dur;obtain⟨l_dur,u_dur⟩:=b_dur;have b_file:=ka.file;obtain⟨l_file,u_file⟩:=b_file;have b_at_:=ka.at_;obtain⟨l_at_,u_at_⟩:=b_at_;have b_n:=ka.n;obtain⟨l_n,u_n⟩:=b_n;have z_acc:IntKind.u64.wrap a.acc=a.acc:=by rw[IntKind.wrap_u64];omega
 have z_shr:IntKind.u64.wrap a.shr=a.shr:=by rw[IntKind.wrap_u64];omega
 have z_way:IntKind.u64.wrap a.way=a.way:=by rw[IntKind.wrap_u64];omega
 have z_opt:IntKind.u64.wrap a.opt=a.opt:=by rw[IntKind.wrap_u64];omega
 have z_n:IntKind.u64.wrap a.n=a.n:=by rw[IntKind.wrap_u64];omega
 have z_x:IntKind.u64.wrap (X2:Int)=(X2:Int):=by rw[IntKind.wrap_u64];omega
 have FC:Hid (∀(w:World) (g:Nat),Blk w g 34 cs->w.cell? ⟨g,51,none⟩=some (.int .u32 a.acc)/\w.cell? ⟨g,52,none⟩=some (.int .u32 a.shr)/\w.cell? ⟨g,53,none⟩=some (.int .u32 a.way)/\w.cell? ⟨g,54,none⟩=some (.int .u32 a.opt)/\w.cell? ⟨g,55,none⟩=some (.int .u8 a.lev)/\w.cell? ⟨g,56,none⟩=some (.int .u8 a.dur)/\w.cell? ⟨g,57,none⟩=some (.int .u64 a.file)/\w.cell? ⟨g,58,none⟩=some (.string a.name)/\w.cell? ⟨g,59,none⟩=some (.int .u64 a.at_)/\w.cell? ⟨g,60,none⟩=some (.int .u32 a.n)):=λw g h=>by rw[hcs] at h;exact⟨h.at (j0a ka 2),h.at (j0a ka 3),h.at (j0a ka 4),h.at (j0a ka 5),h.at (j0a ka 6),h.at (j0a ka 7),h.at (j0a ka 8),h.at (j0a ka 9),h.at (j0a ka 10),h.at (j0a ka 11)⟩
 have CC:Hid (∀(w:World) (gs m:Nat) (A:Nat->Option Addr) (n c:Nat->Nat) (X:Nat->List Int),S3a w gs m A n c X->m<=1000->b0b n m<=140737488355328->Calls Tryz.prog 22 #[.slice (some ⟨gs,0,none⟩) m m] w λe w'=>∃v,e=.returned v/\a1a .u8 5 w' w.heap.size v (R6a X m)/\Below w.heap.size w w'):=Y2a;have CF8:Hid (∀(w:World) (gl:Nat),Blk w gl 25 [.int .u64 a.file]->Calls Tryz.prog 121 #[.int .i64 8,.slice (some ⟨gl,0,none⟩) 1 1] w λe w'=>∃A' c',e=.returned (.slice A' 8 c')/\(a1a .u8 5 w' w.heap.size (.slice A' 8 c') (le a.file 8)/\Holds w' w'.heap.size A' 8 c' (le a.file 8))/\Below w.heap.size w w'):=λw gl hB=>by
  have h:=W3a w gl 1 8 ([a.file]:List Int) hB rfl (by decide) (by decide) (λz hz=>by rw[show(256:Int)^8=18446744073709551616 from by decide];simp only[List.mem_cons,List.not_mem_nil,or_false] at hz;rw[hz];omega)
  have e1:g2a 8 ([a.file]:List Int)=le a.file 8:=by simp[g2a]
  rw[e1] at h;have e2:(le a.file 8).length=8:=by simp[m0a]
  rw[e2] at h;exact h
 have HX:=hI hX;have HM:=hI hM;clear HE hA hX hM HA hcs hnf hxl hml hk;rcases hcc with h5 | h6 | h7 | h8 | h9 | h10
 ·subst h5;rw[if_pos rfl] at HOK;have CT:Hid (∀w',Below w.heap.size w w'->Calls Tryz.prog 110 #[.string a.name] w' λe w2=>(∃v,e=.returned (.tuple #[v,.int .i64 (u0a a.name.data.toList)])/\a1a .u8 5 w2 w'.heap.size v (G0a a.name.data.toList))/\Below w'.heap.size w' w2):=λw' hb=>(k5a a.name w' hnm (HT.out.below hb)).mono λe w2 ⟨v,h1,h2,h3⟩=>⟨⟨v,h1,h2⟩,h3⟩
  by_cases hp:u0a a.name.data.toList=0;rotate_left
  ·have HQ:Hid (∀e w',e=.returned (.tuple #[.slice none 0 0,.int .i64 (u0a a.name.data.toList)])->Below w.heap.size w w'->Q5a w 5 a e w'):=by intro e w' he hb;unfold Q5a t2b;rw[HOK.out,if_neg hp];exact⟨_,he,a1a.nil _ _ _ _,hb⟩
   obtain⟨er,her⟩:∃x,x=u0a a.name.data.toList:=⟨_,rfl⟩;rw[<-her] at CT HQ hp;have hne:(er != 0)=true:=by simpa using hp
   clear her hp HOK HQ0;go_enter Tryz.func84,Tryz.ntmps84;go_wp2_with(first
    | ((with_reducible refine sN 3 ?_);refine a0a rfl _ (.tmp 1) rfl cs rfl ?_;intro g w1 hg1 hg2 K1 L1)
    | ((with_reducible refine sN 11 ?_);refine d0a rfl _ (.tmp 3) rfl g rfl _ cs K1 69 _ Tryz.underlying34 rfl n0a HL ?_)
    | fail)
   refine(CN.out w1 L1.out).mono ?_;rintro e w2 ⟨rfl,L2⟩;have K2:=hI (K1.out.over L2);have M2':=hI (step L1.out L2);obtain⟨c61,c62⟩:=FL.out w2 g K2.out;clear L2 K1 L1 CN;obtain⟨c51,c52,c53,c54,c55,c56,c57,c58,c59,c60⟩:=FC.out w2 g K2.out;go_wp2_with(first
    | ((with_reducible refine sN 26 ?_);refine K0a rfl _ _ 1 _ rfl Tryz.underlying192 ([.int .u64 a.file]:List Value) (by kernel_rfl) ?_;intro g3 w3 hg5 hg6 Y3 L3)
    | fail)
   refine(CF8.out w3 g3 Y3.out).mono ?_;rintro e w4 ⟨Af,cf,rfl,⟨hOf,hHf⟩,L4⟩;have HF:=hI hHf;have K4:=hI ((K2.out.over L3.out).over L4);have M4:=hI (step (step M2'.out L3.out) L4);have OF:=hI (a1a.mono hOf (Nat.le_trans M2'.out.size L3.out.size));have HXD:=hI (HX.out.over M4.out);have hs4:=M4.out.size;clear hHf hOf L4 L3 Y3 K2 M2' c51 c52 c53 c54 c55 c56 c57 c58 c59 c60 c61 c62 CF8;obtain⟨c51,c52,c53,c54,c55,c56,c57,c58,c59,c60⟩:=FC.out w4 g K4.out;go_wp2_with fail;refine(CT.out w4 M4.out).mono ?_;rintro e w5 ⟨⟨v,rfl,hv⟩,L5⟩;have M5:=hI (step M4.out L5);clear hv L5;go_wp2;go_ret2;exact HQ.out _ _ rfl M5.out
  ·have HQ:=hI (HQ0.out (by rw[HOK.out,hp]));rw[hp] at CT;have hb5:O4a 5 a=(le a.acc 4++(le a.shr 4++(le a.way 4++le a.opt 4)))++([a.lev,a.dur]++(List.replicate 2 0++(le a.file 8++G0a a.name.data.toList))):=by unfold O4a;rw[if_pos rfl,le1 a.lev l_lev u_lev,le1 a.dur l_dur u_dur];simp only[List.append_assoc,List.cons_append,List.nil_append]
   rw[hb5] at HQ;have CM4:Hid (∀(w:World) (gl:Nat),Blk w gl 25 [.int .u64 a.acc,.int .u64 a.shr,.int .u64 a.way,.int .u64 a.opt]->Calls Tryz.prog 121 #[.int .i64 4,.slice (some ⟨gl,0,none⟩) 4 4] w λe w'=>∃A' c',e=.returned (.slice A' 16 c')/\(a1a .u8 5 w' w.heap.size (.slice A' 16 c') (le a.acc 4++(le a.shr 4++(le a.way 4++le a.opt 4)))/\Holds w' w'.heap.size A' 16 c' (le a.acc 4++(le a.shr 4++(le a.way 4++le a.opt 4))))/\Below w.heap.size w w'):=λw gl hB=>by
    have h:=W3a w gl 4 4 ([a.acc,a.shr,a.way,a.opt]:List Int) hB rfl (by decide) (by decide) (λz hz=>by rw[show(256:Int)^4=4294967296 from by decide];simp only[List.mem_cons,List.not_mem_nil,or_false] at hz;rcases hz with hz | hz | hz | hz<;>omega)
    have e1:g2a 4 ([a.acc,a.shr,a.way,a.opt]:List Int)=le a.acc 4++(le a.shr 4++(le a.way 4++le a.opt 4)):=by simp[g2a]
    rw[e1] at h;have e2:(le a.acc 4++(le a.shr 4++(le a.way 4++le a.opt 4))).length=16:=by simp[m0a]
    rw[e2] at h;exact h
   have HLT:Hid ((G0a a.name.data.toList).length<=514/\Bytes (G0a a.name.data.toList)):=⟨q2a _,v1a _⟩;obtain⟨tx,htx⟩:∃x,x=G0a a.name.data.toList:=⟨_,rfl⟩;rw[<-htx] at CT HQ HLT;obtain⟨f8,hf8⟩:∃x,x=le a.file 8:=⟨_,rfl⟩;rw[<-hf8] at CF8 HQ;obtain⟨m4,hm4⟩:∃x,x=le a.acc 4++(le a.shr 4++(le a.way 4++le a.opt 4)):=⟨_,rfl⟩;rw[<-hm4] at CM4 HQ;have hld:Bytes [a.lev,a.dur]:=by intro x hx;simp only[List.mem_cons,List.not_mem_nil,or_false] at hx;rcases hx with hx | hx<;>omega
   have HLD:=hI hld;obtain⟨hlt,hlb⟩:=HLT.out;obtain⟨lt,hltx⟩:∃x,x=tx.length:=⟨_,rfl⟩;have HLTX:=hI hltx;rw[<-hltx] at hlt;clear htx hf8 hm4 hp HOK HQ0 hb5 hltx hld;go_enter Tryz.func84,Tryz.ntmps84;go_wp2_with(first
    | ((with_reducible refine sN 3 ?_);refine a0a rfl _ (.tmp 1) rfl cs rfl ?_;intro g w1 hg1 hg2 K1 L1)
    | ((with_reducible refine sN 11 ?_);refine d0a rfl _ (.tmp 3) rfl g rfl _ cs K1 69 _ Tryz.underlying34 rfl n0a HL ?_)
    | fail)
   refine(CN.out w1 L1.out).mono ?_;rintro e w2 ⟨rfl,L2⟩;have K2:=hI (K1.out.over L2);have M2':=hI (step L1.out L2);obtain⟨c61,c62⟩:=FL.out w2 g K2.out;clear L2 K1 L1 CN;obtain⟨c51,c52,c53,c54,c55,c56,c57,c58,c59,c60⟩:=FC.out w2 g K2.out;go_wp2_with(first
    | ((with_reducible refine sN 26 ?_);refine K0a rfl _ _ 1 _ rfl Tryz.underlying192 ([.int .u64 a.file]:List Value) (by kernel_rfl) ?_;intro g3 w3 hg5 hg6 Y3 L3)
    | fail)
   refine(CF8.out w3 g3 Y3.out).mono ?_;rintro e w4 ⟨Af,cf,rfl,⟨hOf,hHf⟩,L4⟩;have HF:=hI hHf;have K4:=hI ((K2.out.over L3.out).over L4);have M4:=hI (step (step M2'.out L3.out) L4);have OF:=hI (a1a.mono hOf (Nat.le_trans M2'.out.size L3.out.size));have HXD:=hI (HX.out.over M4.out);have hs4:=M4.out.size;clear hHf hOf L4 L3 Y3 K2 M2' c51 c52 c53 c54 c55 c56 c57 c58 c59 c60 c61 c62 CF8;obtain⟨c51,c52,c53,c54,c55,c56,c57,c58,c59,c60⟩:=FC.out w4 g K4.out;go_wp2_with fail;refine(CT.out w4 M4.out).mono ?_;rintro e w5 ⟨⟨v,rfl,hv⟩,L5⟩;obtain⟨At,ct,rfl,hHt⟩:=a1a.holds8 hv hlb (by rw[<-HLTX.out];omega);rw[<-HLTX.out] at hHt⊢;have HTX:=hI hHt;have K5:=hI (K4.out.over L5);have M5:=hI (step M4.out L5);have HF5:=hI (HF.out.over L5);clear hv hHt L5 K4 M4 HF OF HXD c51 c52 c53 c54 c55 c56 c57 c58 c59 c60;obtain⟨c51,c52,c53,c54,c55,c56,c57,c58,c59,c60⟩:=FC.out w5 g K5.out;go_wp2_with(first
    | ((with_reducible refine sN 52 ?_);refine K0a rfl _ _ 4 _ rfl Tryz.underlying192 ([.int .u64 a.acc,.int .u64 a.shr,.int .u64 a.way,.int .u64 a.opt]:List Value) (by kernel_rfl) ?_;intro g6 w6 hg7 hg8 Y6 L6)
    | fail)
   refine(CM4.out w6 g6 Y6.out).mono ?_;rintro e w7 ⟨Am,cm,rfl,⟨_,hHm⟩,L7⟩;have HMM:=hI hHm;have K7:=hI ((K5.out.over L6.out).over L7);have M7:=hI (step (step M5.out L6.out) L7);have HF7:=hI ((HF5.out.over L6.out).over L7);have HTX7:=hI ((HTX.out.over L6.out).over L7);have hs7:=M7.out.size;clear hHm L6 L7 Y6 K5 M5 HF5 HTX c51 c52 c53 c54 c55 c56 c57 c58 c59 c60;go_upto_region 12 with fail
   have hst:Hid (∀w1 w2:World,(Blk w1 g 34 cs/\Below w.heap.size w w1/\Holds w1 w1.heap.size Am 16 cm m4/\Holds w1 w1.heap.size Af 8 cf f8/\Holds w1 w1.heap.size At lt ct tx)->Below w1.heap.size w1 w2->(Blk w2 g 34 cs/\Below w.heap.size w w2/\Holds w2 w2.heap.size Am 16 cm m4/\Holds w2 w2.heap.size Af 8 cf f8/\Holds w2 w2.heap.size At lt ct tx)):=λw1 w2 s hb=>⟨s.1.over hb,step s.2.1 hb,s.2.2.1.over hb,s.2.2.2.1.over hb,s.2.2.2.2.over hb⟩
   refine wp_region_held (S:=λw'=>Blk w' g 34 cs/\Below w.heap.size w w'/\Holds w' w'.heap.size Am 16 cm m4/\Holds w' w'.heap.size Af 8 cf f8/\Holds w' w'.heap.size At lt ct tx) (by kernel_rfl) ?_;change wpAnyH _ _ _ _ _ _ _ _ w7.drew
   have S0:Hid (Blk w7.drew g 34 cs/\Below w.heap.size w w7.drew/\Holds w7.drew w7.drew.heap.size Am 16 cm m4/\Holds w7.drew w7.drew.heap.size Af 8 cf f8/\Holds w7.drew w7.drew.heap.size At lt ct tx):=⟨K7.out.drew,M7.out.drew,HMM.out.drew,HF7.out.drew,HTX7.out.drew⟩;refine tK 0 _ rfl (t0a (by kernel_rfl) (.tmp 9) rfl (.slice Am 16 cm) (by kernel_rfl)) S0.out ?_;refine tK 1 _ rfl (g0a (by kernel_rfl) _ (.tmp 3) 9 rfl (.pointer (some ⟨g,0,none⟩)) (.pointer (some ⟨g,55,none⟩)) (by kernel_rfl) (H3a g)) S0.out ?_;refine tK 2 _ rfl (i0a (by kernel_rfl) _ (.tmp 55) rfl g 55 (by kernel_rfl) (.int .u8 a.lev) (λw h=>(FC.out w g h.1).2.2.2.2.1) _ Tryz.underlying5 rfl) S0.out ?_;refine tK 3 _ rfl (g0a (by kernel_rfl) _ (.tmp 3) 10 rfl (.pointer (some ⟨g,0,none⟩)) (.pointer (some ⟨g,56,none⟩)) (by kernel_rfl) (s3a g)) S0.out ?_;refine tK 4 _ rfl (i0a (by kernel_rfl) _ (.tmp 57) rfl g 56 (by kernel_rfl) (.int .u8 a.dur) (λw h=>(FC.out w g h.1).2.2.2.2.2.1) _ Tryz.underlying5 rfl) S0.out ?_;refine tK 7 _ rfl (t0a (by kernel_rfl) (.tmp 6) rfl (.slice Af 8 cf) (by kernel_rfl)) S0.out ?_;refine tK 8 _ rfl (t0a (by kernel_rfl) (.tmp 7) rfl (.slice At lt ct) (by kernel_rfl)) S0.out ?_;refine y0a λfr1 hfr1=>?_
   have f54:fr1.eval (.tmp 54)=.slice Am 16 cm:=by rw[hfr1];kernel_rfl
   have f56:fr1.eval (.tmp 56)=.int .u8 a.lev:=by rw[hfr1];kernel_rfl
   have f58:fr1.eval (.tmp 58)=.int .u8 a.dur:=by rw[hfr1];kernel_rfl
   have f61:fr1.eval (.tmp 61)=.slice Af 8 cf:=by rw[hfr1];kernel_rfl
   have f62:fr1.eval (.tmp 62)=.slice At lt ct:=by rw[hfr1];kernel_rfl
   refine B3a [(5,59),(6,60),(9,63),(10,64),(11,4),(12,5)] (λi=>match i with
    | 5=>rowP 2 [a.lev,a.dur]
    | 6=>rowP 2 (List.replicate 2 0)
    | 9=>J8a 5 (m4++([a.lev,a.dur]++((List.replicate 2 0)++(f8++tx))))
    | 10=>B0b 5 w.heap.size (m4++([a.lev,a.dur]++((List.replicate 2 0)++(f8++tx))))
    | 11=>B0b 5 w.heap.size (m4++([a.lev,a.dur]++((List.replicate 2 0)++(f8++tx))))
    | 12=>isP (.int .i64 0)
    | _=>λ_ _=>True) fr1 (by rw[hfr1];kernel_rfl) (Nat.le_of_ble_eq_true (by kernel_rfl)) S0.out ?_ ?_ ?_
   ·intro i v w1 w2 hb h;split at h;all_goals first | exact S4a hb h | exact T4a hb h | exact C3a hb h | exact U4a hb h | exact h
   ·refine List.forall_mem_cons.2 ⟨⟨_,rfl,λb w1 s hev hd K hK=>?_⟩,List.forall_mem_cons.2 ⟨⟨_,rfl,λb w1 s hev hd K hK=>?_⟩,List.forall_mem_cons.2 ⟨⟨_,rfl,λb w1 s hev hd K hK=>?_⟩,List.forall_mem_cons.2 ⟨⟨_,rfl,λb w1 s hev hd K hK=>?_⟩,List.forall_mem_cons.2 ⟨⟨_,rfl,λb w1 s hev hd K hK=>?_⟩,List.forall_mem_cons.2 ⟨⟨_,rfl,λb w1 s hev hd K hK=>?_⟩,λ_ h=>absurd h List.not_mem_nil⟩⟩⟩⟩⟩⟩
    ·have e56:=(hev 56 (by decide)).trans f56;have e58:=(hev 58 (by decide)).trans f58;refine S0a rfl _ _ 2 _ rfl Tryz.underlying31 ([.int .u8 a.lev,.int .u8 a.dur]:List Value) (by simp only[List.map_toArray,List.map_cons,List.map_nil,e56,e58];kernel_rfl) ?_;intro g2 w2 _ _ hY hL;exact hK _ _ (hst.out _ _ s hL.out) hL.out ⟨_,_,rfl,Holds.of_lit (xs:=[a.lev,a.dur]) hY.out HLD.out⟩
    ·refine b3a rfl _ _ rfl 2 rfl rfl (by omega) ?_;intro w2 hR hL;exact hK _ _ (hst.out _ _ s hL.out) hL.out ⟨_,_,rfl,Y1a.holds (base:=0) (.inr ⟨_,rfl,Nat.zero_le _,hR.out⟩) (by rfl:(List.replicate 2 (0:Int)).length=2) (Bytes.zeros 2) (by omega)⟩
    ·have e54:=(hev 54 (by decide)).trans f54;obtain⟨A1,c1,e59,h1⟩:=hd (5,59) (by simp) (by kernel_rfl);obtain⟨A2,c2,e60,h2⟩:=hd (6,60) (by simp) (by kernel_rfl);have e61:=(hev 61 (by decide)).trans f61;have e62:=(hev 62 (by decide)).trans f62;refine S0a rfl _ _ 5 _ rfl Tryz.underlying93 ([.slice Am 16 cm,.slice A1 2 c1,.slice A2 2 c2,.slice Af 8 cf,.slice At lt ct]:List Value) (by simp only[List.map_toArray,List.map_cons,List.map_nil,e54,e59,e60,e61,e62];kernel_rfl) ?_;intro g2 w2 _ _ hY hL;exact hK _ _ (hst.out _ _ s hL.out) hL.out ⟨_,[(Am,16,cm,m4),(A1,2,c1,[a.lev,a.dur]),(A2,2,c2,(List.replicate 2 0)),(Af,8,cf,f8),(At,lt,ct,tx)],rfl,S3a.of_blk _ hY.out (List.forall_mem_cons.2 ⟨s.2.2.1.over hL.out,List.forall_mem_cons.2 ⟨h1.over hL.out,List.forall_mem_cons.2 ⟨h2.over hL.out,List.forall_mem_cons.2 ⟨s.2.2.2.1.over hL.out,List.forall_mem_cons.2 ⟨s.2.2.2.2.over hL.out,λ_ h=>absurd h List.not_mem_nil⟩⟩⟩⟩⟩),by show 0+16+2+2+8+lt<=_;omega,by simp[R6a,T3a,List.append_assoc]⟩
    ·obtain⟨g5,l5,e5,hp5,hn5,hc5⟩:=hd (9,63) (by simp) (by kernel_rfl);simp only[Act.eval,Array.getD_eq_getD_getElem?] at e5;go_simp;refine(CC.out _ g5 5 _ _ _ _ hp5 (by omega) (by omega)).mono ?_;rintro e w2 ⟨v,rfl,hY,hL⟩;exact hK _ _ (hst.out _ _ s hL) hL (by rw[<-hc5];exact hY.mono s.2.1.size)
    ·have h15:(B0b 5 w.heap.size (m4++([a.lev,a.dur]++((List.replicate 2 0)++(f8++tx))))) (b.eval (.tmp 64)) w1:=hd (10,64) (by simp) (by kernel_rfl);simp only[Act.eval,Array.getD_eq_getD_getElem?] at h15;go_simp;exact hK _ _ s (Below.refl _ _) h15
    ·go_simp;exact hK _ _ s (Below.refl _ _) rfl
   ·intro vs w9 s hv;have OUT0:a1a .u8 5 w9 w.heap.size (vs 4) (m4++([a.lev,a.dur]++((List.replicate 2 0)++(f8++tx)))):=hv (11,4) (by simp);obtain⟨v,hv11⟩:∃x,x=vs 4:=⟨_,rfl⟩;rw[<-hv11] at OUT0;have OUT:=hI OUT0;have hv12:vs 5=.int .i64 0:=hv (12,5) (by simp);have S9:=hI s.1;have b9:=hI s.2.1;have HMM_9:=hI s.2.2.1;have HF_9:=hI s.2.2.2.1;have HTX_9:=hI s.2.2.2.2;subst hfr1;simp only[List.foldl_cons,List.foldl_nil,<-hv11,hv12];obtain⟨y59,hy0⟩:∃x,x=vs 59:=⟨_,rfl⟩;rw[<-hy0];clear hy0;obtain⟨y60,hy0⟩:∃x,x=vs 60:=⟨_,rfl⟩;rw[<-hy0];clear hy0;obtain⟨y63,hy0⟩:∃x,x=vs 63:=⟨_,rfl⟩;rw[<-hy0];clear hy0;obtain⟨y64,hy0⟩:∃x,x=vs 64:=⟨_,rfl⟩;rw[<-hy0];clear hy0;clear hv s vs hst S0 hv11 OUT0 hv12 f54 f56 f58 f61 f62;go_simp;have HO6:=hI (OUT.out);go_wp2;go_ret2;refine HQ.out _ _ _ rfl ?_ b9.out;have h9:=HO6.out;simpa[R6a,T3a,List.append_assoc] using h9
 ·subst h6;rw[if_neg (by decide)] at HOK;have HQ:=hI (HQ0.out HOK.out);have hb0:O4a 6 a=le a.file 8:=rfl;rw[hb0] at HQ;obtain⟨f8,hf8⟩:∃x,x=le a.file 8:=⟨_,rfl⟩;rw[<-hf8] at CF8 HQ;clear hf8 HOK HQ0 hb0;go_enter Tryz.func84,Tryz.ntmps84;go_wp2_with(first
   | ((with_reducible refine sN 3 ?_);refine a0a rfl _ (.tmp 1) rfl cs rfl ?_;intro g w1 hg1 hg2 K1 L1)
   | ((with_reducible refine sN 11 ?_);refine d0a rfl _ (.tmp 3) rfl g rfl _ cs K1 69 _ Tryz.underlying34 rfl n0a HL ?_)
   | fail)
  refine(CN.out w1 L1.out).mono ?_;rintro e w2 ⟨rfl,L2⟩;have K2:=hI (K1.out.over L2);have M2':=hI (step L1.out L2);obtain⟨c61,c62⟩:=FL.out w2 g K2.out;clear L2 K1 L1 CN;obtain⟨c51,c52,c53,c54,c55,c56,c57,c58,c59,c60⟩:=FC.out w2 g K2.out;go_wp2_with(first
   | ((with_reducible refine sN 26 ?_);refine K0a rfl _ _ 1 _ rfl Tryz.underlying192 ([.int .u64 a.file]:List Value) (by kernel_rfl) ?_;intro g3 w3 hg5 hg6 Y3 L3)
   | fail)
  refine(CF8.out w3 g3 Y3.out).mono ?_;rintro e w4 ⟨Af,cf,rfl,⟨hOf,hHf⟩,L4⟩;have HF:=hI hHf;have K4:=hI ((K2.out.over L3.out).over L4);have M4:=hI (step (step M2'.out L3.out) L4);have OF:=hI (a1a.mono hOf (Nat.le_trans M2'.out.size L3.out.size));have HXD:=hI (HX.out.over M4.out);have hs4:=M4.out.size;clear hHf hOf L4 L3 Y3 K2 M2' c51 c52 c53 c54 c55 c56 c57 c58 c59 c60 c61 c62 CF8;go_wp2;go_ret2;exact HQ.out _ _ _ rfl OF.out M4.out
 ·subst h7;rw[if_neg (by decide)] at HOK;have HQ:=hI (HQ0.out HOK.out);have hb0:O4a 7 a=le a.file 8:=rfl;rw[hb0] at HQ;obtain⟨f8,hf8⟩:∃x,x=le a.file 8:=⟨_,rfl⟩;rw[<-hf8] at CF8 HQ;clear hf8 HOK HQ0 hb0;go_enter Tryz.func84,Tryz.ntmps84;go_wp2_with(first
   | ((with_reducible refine sN 3 ?_);refine a0a rfl _ (.tmp 1) rfl cs rfl ?_;intro g w1 hg1 hg2 K1 L1)
   | ((with_reducible refine sN 11 ?_);refine d0a rfl _ (.tmp 3) rfl g rfl _ cs K1 69 _ Tryz.underlying34 rfl n0a HL ?_)
   | fail)
  refine(CN.out w1 L1.out).mono ?_;rintro e w2 ⟨rfl,L2⟩;have K2:=hI (K1.out.over L2);have M2':=hI (step L1.out L2);obtain⟨c61,c62⟩:=FL.out w2 g K2.out;clear L2 K1 L1 CN;obtain⟨c51,c52,c53,c54,c55,c56,c57,c58,c59,c60⟩:=FC.out w2 g K2.out;go_wp2_with(first
   | ((with_reducible refine sN 26 ?_);refine K0a rfl _ _ 1 _ rfl Tryz.underlying192 ([.int .u64 a.file]:List Value) (by kernel_rfl) ?_;intro g3 w3 hg5 hg6 Y3 L3)
   | fail)
  refine(CF8.out w3 g3 Y3.out).mono ?_;rintro e w4 ⟨Af,cf,rfl,⟨hOf,hHf⟩,L4⟩;have HF:=hI hHf;have K4:=hI ((K2.out.over L3.out).over L4);have M4:=hI (step (step M2'.out L3.out) L4);have OF:=hI (a1a.mono hOf (Nat.le_trans M2'.out.size L3.out.size));have HXD:=hI (HX.out.over M4.out);have hs4:=M4.out.size;clear hHf hOf L4 L3 Y3 K2 M2' c51 c52 c53 c54 c55 c56 c57 c58 c59 c60 c61 c62 CF8;go_wp2;go_ret2;exact HQ.out _ _ _ rfl OF.out M4.out
 ·subst h8;rw[if_neg (by decide)] at HOK;have HQ:=hI (HQ0.out HOK.out);have hb0:O4a 8 a=le a.file 8++(le a.at_ 8++le a.n 4):=rfl;rw[hb0] at HQ;have CA8:Hid (∀(w:World) (gl:Nat),Blk w gl 25 [.int .u64 a.at_]->Calls Tryz.prog 121 #[.int .i64 8,.slice (some ⟨gl,0,none⟩) 1 1] w λe w'=>∃A' c',e=.returned (.slice A' 8 c')/\(a1a .u8 5 w' w.heap.size (.slice A' 8 c') (le a.at_ 8)/\Holds w' w'.heap.size A' 8 c' (le a.at_ 8))/\Below w.heap.size w w'):=λw gl hB=>by
   have h:=W3a w gl 1 8 ([a.at_]:List Int) hB rfl (by decide) (by decide) (λz hz=>by rw[show(256:Int)^8=18446744073709551616 from by decide];simp only[List.mem_cons,List.not_mem_nil,or_false] at hz;rw[hz];omega)
   have e1:g2a 8 ([a.at_]:List Int)=le a.at_ 8:=by simp[g2a]
   rw[e1] at h;have e2:(le a.at_ 8).length=8:=by simp[m0a]
   rw[e2] at h;exact h
  have CN4:Hid (∀(w:World) (gl:Nat),Blk w gl 25 [.int .u64 a.n]->Calls Tryz.prog 121 #[.int .i64 4,.slice (some ⟨gl,0,none⟩) 1 1] w λe w'=>∃A' c',e=.returned (.slice A' 4 c')/\(a1a .u8 5 w' w.heap.size (.slice A' 4 c') (le a.n 4)/\Holds w' w'.heap.size A' 4 c' (le a.n 4))/\Below w.heap.size w w'):=λw gl hB=>by
   have h:=W3a w gl 1 4 ([a.n]:List Int) hB rfl (by decide) (by decide) (λz hz=>by rw[show(256:Int)^4=4294967296 from by decide];simp only[List.mem_cons,List.not_mem_nil,or_false] at hz;rw[hz];omega)
   have e1:g2a 4 ([a.n]:List Int)=le a.n 4:=by simp[g2a]
   rw[e1] at h;have e2:(le a.n 4).length=4:=by simp[m0a]
   rw[e2] at h;exact h
  obtain⟨f8,hf8⟩:∃x,x=le a.file 8:=⟨_,rfl⟩;rw[<-hf8] at CF8 HQ;obtain⟨a8,ha8⟩:∃x,x=le a.at_ 8:=⟨_,rfl⟩;rw[<-ha8] at CA8 HQ;obtain⟨n4,hn4⟩:∃x,x=le a.n 4:=⟨_,rfl⟩;rw[<-hn4] at CN4 HQ;clear HOK HQ0 hb0 hf8 ha8 hn4;go_enter Tryz.func84,Tryz.ntmps84;go_wp2_with(first
   | ((with_reducible refine sN 3 ?_);refine a0a rfl _ (.tmp 1) rfl cs rfl ?_;intro g w1 hg1 hg2 K1 L1)
   | ((with_reducible refine sN 11 ?_);refine d0a rfl _ (.tmp 3) rfl g rfl _ cs K1 69 _ Tryz.underlying34 rfl n0a HL ?_)
   | fail)
  refine(CN.out w1 L1.out).mono ?_;rintro e w2 ⟨rfl,L2⟩;have K2:=hI (K1.out.over L2);have M2':=hI (step L1.out L2);obtain⟨c61,c62⟩:=FL.out w2 g K2.out;clear L2 K1 L1 CN;obtain⟨c51,c52,c53,c54,c55,c56,c57,c58,c59,c60⟩:=FC.out w2 g K2.out;go_wp2_with(first
   | ((with_reducible refine sN 26 ?_);refine K0a rfl _ _ 1 _ rfl Tryz.underlying192 ([.int .u64 a.file]:List Value) (by kernel_rfl) ?_;intro g3 w3 hg5 hg6 Y3 L3)
   | fail)
  refine(CF8.out w3 g3 Y3.out).mono ?_;rintro e w4 ⟨Af,cf,rfl,⟨hOf,hHf⟩,L4⟩;have HF:=hI hHf;have K4:=hI ((K2.out.over L3.out).over L4);have M4:=hI (step (step M2'.out L3.out) L4);have OF:=hI (a1a.mono hOf (Nat.le_trans M2'.out.size L3.out.size));have HXD:=hI (HX.out.over M4.out);have hs4:=M4.out.size;clear hHf hOf L4 L3 Y3 K2 M2' c51 c52 c53 c54 c55 c56 c57 c58 c59 c60 c61 c62 CF8;go_upto_region 14 with fail
  have hst:Hid (∀w1 w2:World,(Blk w1 g 34 cs/\Below w.heap.size w w1/\Holds w1 w1.heap.size Af 8 cf f8)->Below w1.heap.size w1 w2->(Blk w2 g 34 cs/\Below w.heap.size w w2/\Holds w2 w2.heap.size Af 8 cf f8)):=λw1 w2 s hb=>⟨s.1.over hb,step s.2.1 hb,s.2.2.over hb⟩
  refine wp_region_held (S:=λw'=>Blk w' g 34 cs/\Below w.heap.size w w'/\Holds w' w'.heap.size Af 8 cf f8) (by kernel_rfl) ?_;change wpAnyH _ _ _ _ _ _ _ _ w4.drew
  have S0:Hid (Blk w4.drew g 34 cs/\Below w.heap.size w w4.drew/\Holds w4.drew w4.drew.heap.size Af 8 cf f8):=⟨K4.out.drew,M4.out.drew,HF.out.drew⟩;refine tK 0 _ rfl (t0a (by kernel_rfl) (.tmp 6) rfl (.slice Af 8 cf) (by kernel_rfl)) S0.out ?_;refine tK 1 _ rfl (g0a (by kernel_rfl) _ (.tmp 3) 13 rfl (.pointer (some ⟨g,0,none⟩)) (.pointer (some ⟨g,59,none⟩)) (by kernel_rfl) (a2a g)) S0.out ?_;refine tK 2 _ rfl (i0a (by kernel_rfl) _ (.tmp 68) rfl g 59 (by kernel_rfl) (.int .u64 a.at_) (λw h=>(FC.out w g h.1).2.2.2.2.2.2.2.2.1) _ Tryz.underlying25 rfl) S0.out ?_;refine tK 5 _ rfl (g0a (by kernel_rfl) _ (.tmp 3) 14 rfl (.pointer (some ⟨g,0,none⟩)) (.pointer (some ⟨g,60,none⟩)) (by kernel_rfl) (t3a g)) S0.out ?_;refine tK 6 _ rfl (i0a (by kernel_rfl) _ (.tmp 72) rfl g 60 (by kernel_rfl) (.int .u32 a.n) (λw h=>(FC.out w g h.1).2.2.2.2.2.2.2.2.2) _ Tryz.underlying23 rfl) S0.out ?_;refine tK 7 ((.int .u64 a.n)) rfl (.inl ⟨by kernel_rfl,λw _=>by go_simp⟩) S0.out ?_;refine y0a λfr1 hfr1=>?_
  have f67:fr1.eval (.tmp 67)=.slice Af 8 cf:=by rw[hfr1];kernel_rfl
  have f69:fr1.eval (.tmp 69)=.int .u64 a.at_:=by rw[hfr1];kernel_rfl
  have f74:fr1.eval (.tmp 74)=.int .u64 a.n:=by rw[hfr1];kernel_rfl
  refine B3a [(3,70),(4,71),(8,75),(9,76),(10,77),(11,78),(12,4),(13,5)] (λi=>match i with
   | 3=>C4b 1 25 [.int .u64 a.at_]
   | 4=>rowP 8 a8
   | 8=>C4b 1 25 [.int .u64 a.n]
   | 9=>rowP 4 n4
   | 10=>J8a 3 (f8++(a8++n4))
   | 11=>B0b 5 w.heap.size (f8++(a8++n4))
   | 12=>B0b 5 w.heap.size (f8++(a8++n4))
   | 13=>isP (.int .i64 0)
   | _=>λ_ _=>True) fr1 (by rw[hfr1];kernel_rfl) (Nat.le_of_ble_eq_true (by kernel_rfl)) S0.out ?_ ?_ ?_
  ·intro i v w1 w2 hb h;split at h;all_goals first | exact S4a hb h | exact T4a hb h | exact C3a hb h | exact U4a hb h | exact h
  ·refine List.forall_mem_cons.2 ⟨⟨_,rfl,λb w1 s hev hd K hK=>?_⟩,List.forall_mem_cons.2 ⟨⟨_,rfl,λb w1 s hev hd K hK=>?_⟩,List.forall_mem_cons.2 ⟨⟨_,rfl,λb w1 s hev hd K hK=>?_⟩,List.forall_mem_cons.2 ⟨⟨_,rfl,λb w1 s hev hd K hK=>?_⟩,List.forall_mem_cons.2 ⟨⟨_,rfl,λb w1 s hev hd K hK=>?_⟩,List.forall_mem_cons.2 ⟨⟨_,rfl,λb w1 s hev hd K hK=>?_⟩,List.forall_mem_cons.2 ⟨⟨_,rfl,λb w1 s hev hd K hK=>?_⟩,List.forall_mem_cons.2 ⟨⟨_,rfl,λb w1 s hev hd K hK=>?_⟩,λ_ h=>absurd h List.not_mem_nil⟩⟩⟩⟩⟩⟩⟩⟩
   ·have e69:=(hev 69 (by decide)).trans f69;refine S0a rfl _ _ 1 _ rfl Tryz.underlying192 ([.int .u64 a.at_]:List Value) (by simp only[List.map_toArray,List.map_cons,List.map_nil,e69];kernel_rfl) ?_;intro g2 w2 _ _ hY hL;exact hK _ _ (hst.out _ _ s hL.out) hL.out ⟨_,rfl,hY.out⟩
   ·obtain⟨g4,e4,hB⟩:=hd (3,70) (by simp) (by kernel_rfl);simp only[Act.eval,Array.getD_eq_getD_getElem?] at e4;go_simp;refine(CA8.out _ _ hB).mono ?_;rintro e w2 ⟨A,c,rfl,⟨_,hY⟩,hL⟩;exact hK _ _ (hst.out _ _ s hL) hL ⟨_,_,rfl,hY⟩
   ·have e74:=(hev 74 (by decide)).trans f74;refine S0a rfl _ _ 1 _ rfl Tryz.underlying192 ([.int .u64 a.n]:List Value) (by simp only[List.map_toArray,List.map_cons,List.map_nil,e74];kernel_rfl) ?_;intro g2 w2 _ _ hY hL;exact hK _ _ (hst.out _ _ s hL.out) hL.out ⟨_,rfl,hY.out⟩
   ·obtain⟨g4,e4,hB⟩:=hd (8,75) (by simp) (by kernel_rfl);simp only[Act.eval,Array.getD_eq_getD_getElem?] at e4;go_simp;refine(CN4.out _ _ hB).mono ?_;rintro e w2 ⟨A,c,rfl,⟨_,hY⟩,hL⟩;exact hK _ _ (hst.out _ _ s hL) hL ⟨_,_,rfl,hY⟩
   ·have e67:=(hev 67 (by decide)).trans f67;obtain⟨A1,c1,e71,h1⟩:=hd (4,71) (by simp) (by kernel_rfl);obtain⟨A2,c2,e76,h2⟩:=hd (9,76) (by simp) (by kernel_rfl);refine S0a rfl _ _ 3 _ rfl Tryz.underlying93 ([.slice Af 8 cf,.slice A1 8 c1,.slice A2 4 c2]:List Value) (by simp only[List.map_toArray,List.map_cons,List.map_nil,e67,e71,e76];kernel_rfl) ?_;intro g2 w2 _ _ hY hL;exact hK _ _ (hst.out _ _ s hL.out) hL.out ⟨_,[(Af,8,cf,f8),(A1,8,c1,a8),(A2,4,c2,n4)],rfl,S3a.of_blk _ hY.out (List.forall_mem_cons.2 ⟨s.2.2.over hL.out,List.forall_mem_cons.2 ⟨h1.over hL.out,List.forall_mem_cons.2 ⟨h2.over hL.out,λ_ h=>absurd h List.not_mem_nil⟩⟩⟩),by show 0+8+8+4<=_;omega,by simp[R6a,T3a,List.append_assoc]⟩
   ·obtain⟨g5,l5,e5,hp5,hn5,hc5⟩:=hd (10,77) (by simp) (by kernel_rfl);simp only[Act.eval,Array.getD_eq_getD_getElem?] at e5;go_simp;refine(CC.out _ g5 3 _ _ _ _ hp5 (by omega) (by omega)).mono ?_;rintro e w2 ⟨v,rfl,hY,hL⟩;exact hK _ _ (hst.out _ _ s hL) hL (by rw[<-hc5];exact hY.mono s.2.1.size)
   ·have h15:(B0b 5 w.heap.size (f8++(a8++n4))) (b.eval (.tmp 78)) w1:=hd (11,78) (by simp) (by kernel_rfl);simp only[Act.eval,Array.getD_eq_getD_getElem?] at h15;go_simp;exact hK _ _ s (Below.refl _ _) h15
   ·go_simp;exact hK _ _ s (Below.refl _ _) rfl
  ·intro vs w9 s hv;have OUT0:a1a .u8 5 w9 w.heap.size (vs 4) (f8++(a8++n4)):=hv (12,4) (by simp);obtain⟨v,hv12⟩:∃x,x=vs 4:=⟨_,rfl⟩;rw[<-hv12] at OUT0;have OUT:=hI OUT0;have hv13:vs 5=.int .i64 0:=hv (13,5) (by simp);have S9:=hI s.1;have b9:=hI s.2.1;have HF_9:=hI s.2.2;subst hfr1;simp only[List.foldl_cons,List.foldl_nil,<-hv12,hv13];obtain⟨y70,hy0⟩:∃x,x=vs 70:=⟨_,rfl⟩;rw[<-hy0];clear hy0;obtain⟨y71,hy0⟩:∃x,x=vs 71:=⟨_,rfl⟩;rw[<-hy0];clear hy0;obtain⟨y75,hy0⟩:∃x,x=vs 75:=⟨_,rfl⟩;rw[<-hy0];clear hy0;obtain⟨y76,hy0⟩:∃x,x=vs 76:=⟨_,rfl⟩;rw[<-hy0];clear hy0;obtain⟨y77,hy0⟩:∃x,x=vs 77:=⟨_,rfl⟩;rw[<-hy0];clear hy0;obtain⟨y78,hy0⟩:∃x,x=vs 78:=⟨_,rfl⟩;rw[<-hy0];clear hy0;clear hv s vs hst S0 hv12 OUT0 hv13 f67 f69 f74;go_simp;have HO6:=hI (OUT.out);go_wp2;go_ret2;refine HQ.out _ _ _ rfl ?_ b9.out;have h9:=HO6.out;simpa[R6a,T3a,List.append_assoc] using h9
 ·subst h9;rw[if_neg (by decide)] at HOK;have HQ:=hI (HQ0.out HOK.out);have hb0:O4a 9 a=le a.file 8++(le a.at_ 8++(le (X2:Int) 4++a.data)):=by unfold O4a;rw[if_neg (by decide),if_neg (by decide),if_pos rfl,HX.out.len]
  rw[hb0] at HQ;have CA8:Hid (∀(w:World) (gl:Nat),Blk w gl 25 [.int .u64 a.at_]->Calls Tryz.prog 121 #[.int .i64 8,.slice (some ⟨gl,0,none⟩) 1 1] w λe w'=>∃A' c',e=.returned (.slice A' 8 c')/\(a1a .u8 5 w' w.heap.size (.slice A' 8 c') (le a.at_ 8)/\Holds w' w'.heap.size A' 8 c' (le a.at_ 8))/\Below w.heap.size w w'):=λw gl hB=>by
   have h:=W3a w gl 1 8 ([a.at_]:List Int) hB rfl (by decide) (by decide) (λz hz=>by rw[show(256:Int)^8=18446744073709551616 from by decide];simp only[List.mem_cons,List.not_mem_nil,or_false] at hz;rw[hz];omega)
   have e1:g2a 8 ([a.at_]:List Int)=le a.at_ 8:=by simp[g2a]
   rw[e1] at h;have e2:(le a.at_ 8).length=8:=by simp[m0a]
   rw[e2] at h;exact h
  have CN4:Hid (∀(w:World) (gl:Nat),Blk w gl 25 [.int .u64 (X2:Int)]->Calls Tryz.prog 121 #[.int .i64 4,.slice (some ⟨gl,0,none⟩) 1 1] w λe w'=>∃A' c',e=.returned (.slice A' 4 c')/\(a1a .u8 5 w' w.heap.size (.slice A' 4 c') (le (X2:Int) 4)/\Holds w' w'.heap.size A' 4 c' (le (X2:Int) 4))/\Below w.heap.size w w'):=λw gl hB=>by
   have h:=W3a w gl 1 4 ([(X2:Int)]:List Int) hB rfl (by decide) (by decide) (λz hz=>by rw[show(256:Int)^4=4294967296 from by decide];simp only[List.mem_cons,List.not_mem_nil,or_false] at hz;rw[hz];omega)
   have e1:g2a 4 ([(X2:Int)]:List Int)=le (X2:Int) 4:=by simp[g2a]
   rw[e1] at h;have e2:(le (X2:Int) 4).length=4:=by simp[m0a]
   rw[e2] at h;exact h
  obtain⟨f8,hf8⟩:∃x,x=le a.file 8:=⟨_,rfl⟩;rw[<-hf8] at CF8 HQ;obtain⟨a8,ha8⟩:∃x,x=le a.at_ 8:=⟨_,rfl⟩;rw[<-ha8] at CA8 HQ;obtain⟨n4,hn4⟩:∃x,x=le (X2:Int) 4:=⟨_,rfl⟩;rw[<-hn4] at CN4 HQ;clear HOK HQ0 hb0 hf8 ha8 hn4;go_enter Tryz.func84,Tryz.ntmps84;go_wp2_with(first
   | ((with_reducible refine sN 3 ?_);refine a0a rfl _ (.tmp 1) rfl cs rfl ?_;intro g w1 hg1 hg2 K1 L1)
   | ((with_reducible refine sN 11 ?_);refine d0a rfl _ (.tmp 3) rfl g rfl _ cs K1 69 _ Tryz.underlying34 rfl n0a HL ?_)
   | fail)
  refine(CN.out w1 L1.out).mono ?_;rintro e w2 ⟨rfl,L2⟩;have K2:=hI (K1.out.over L2);have M2':=hI (step L1.out L2);obtain⟨c61,c62⟩:=FL.out w2 g K2.out;clear L2 K1 L1 CN;obtain⟨c51,c52,c53,c54,c55,c56,c57,c58,c59,c60⟩:=FC.out w2 g K2.out;go_wp2_with(first
   | ((with_reducible refine sN 26 ?_);refine K0a rfl _ _ 1 _ rfl Tryz.underlying192 ([.int .u64 a.file]:List Value) (by kernel_rfl) ?_;intro g3 w3 hg5 hg6 Y3 L3)
   | fail)
  refine(CF8.out w3 g3 Y3.out).mono ?_;rintro e w4 ⟨Af,cf,rfl,⟨hOf,hHf⟩,L4⟩;have HF:=hI hHf;have K4:=hI ((K2.out.over L3.out).over L4);have M4:=hI (step (step M2'.out L3.out) L4);have OF:=hI (a1a.mono hOf (Nat.le_trans M2'.out.size L3.out.size));have HXD:=hI (HX.out.over M4.out);have hs4:=M4.out.size;clear hHf hOf L4 L3 Y3 K2 M2' c51 c52 c53 c54 c55 c56 c57 c58 c59 c60 c61 c62 CF8;go_upto_region 16 with fail
  have hst:Hid (∀w1 w2:World,(Blk w1 g 34 cs/\Below w.heap.size w w1/\Holds w1 w1.heap.size Af 8 cf f8/\Holds w1 w1.heap.size X1 X2 X3 a.data)->Below w1.heap.size w1 w2->(Blk w2 g 34 cs/\Below w.heap.size w w2/\Holds w2 w2.heap.size Af 8 cf f8/\Holds w2 w2.heap.size X1 X2 X3 a.data)):=λw1 w2 s hb=>⟨s.1.over hb,step s.2.1 hb,s.2.2.1.over hb,s.2.2.2.over hb⟩
  refine wp_region_held (S:=λw'=>Blk w' g 34 cs/\Below w.heap.size w w'/\Holds w' w'.heap.size Af 8 cf f8/\Holds w' w'.heap.size X1 X2 X3 a.data) (by kernel_rfl) ?_;change wpAnyH _ _ _ _ _ _ _ _ w4.drew
  have S0:Hid (Blk w4.drew g 34 cs/\Below w.heap.size w w4.drew/\Holds w4.drew w4.drew.heap.size Af 8 cf f8/\Holds w4.drew w4.drew.heap.size X1 X2 X3 a.data):=⟨K4.out.drew,M4.out.drew,HF.out.drew,HXD.out.drew⟩;refine tK 0 _ rfl (t0a (by kernel_rfl) (.tmp 6) rfl (.slice Af 8 cf) (by kernel_rfl)) S0.out ?_;refine tK 1 _ rfl (g0a (by kernel_rfl) _ (.tmp 3) 13 rfl (.pointer (some ⟨g,0,none⟩)) (.pointer (some ⟨g,59,none⟩)) (by kernel_rfl) (a2a g)) S0.out ?_;refine tK 2 _ rfl (i0a (by kernel_rfl) _ (.tmp 82) rfl g 59 (by kernel_rfl) (.int .u64 a.at_) (λw h=>(FC.out w g h.1).2.2.2.2.2.2.2.2.1) _ Tryz.underlying25 rfl) S0.out ?_;refine tK 5 _ rfl (g0a (by kernel_rfl) _ (.tmp 3) 15 rfl (.pointer (some ⟨g,0,none⟩)) (.pointer (some ⟨g,61,none⟩)) (by kernel_rfl) (O2a g)) S0.out ?_;refine tK 6 _ rfl (i0a (by kernel_rfl) _ (.tmp 86) rfl g 61 (by kernel_rfl) (.slice X1 X2 X3) (λw h=>(FL.out w g h.1).1) _ Tryz.underlying31 rfl) S0.out ?_;refine tK 7 ((.int .i64 (X2:Int))) rfl (.inl ⟨by kernel_rfl,λw _=>by go_simp⟩) S0.out ?_;refine tK 8 ((.int .u64 (X2:Int))) rfl (.inl ⟨by kernel_rfl,λw _=>by go_simp⟩) S0.out ?_;refine tK 11 _ rfl (g0a (by kernel_rfl) _ (.tmp 3) 15 rfl (.pointer (some ⟨g,0,none⟩)) (.pointer (some ⟨g,61,none⟩)) (by kernel_rfl) (O2a g)) S0.out ?_;refine tK 12 _ rfl (i0a (by kernel_rfl) _ (.tmp 92) rfl g 61 (by kernel_rfl) (.slice X1 X2 X3) (λw h=>(FL.out w g h.1).1) _ Tryz.underlying31 rfl) S0.out ?_;refine y0a λfr1 hfr1=>?_
  have f81:fr1.eval (.tmp 81)=.slice Af 8 cf:=by rw[hfr1];kernel_rfl
  have f83:fr1.eval (.tmp 83)=.int .u64 a.at_:=by rw[hfr1];kernel_rfl
  have f89:fr1.eval (.tmp 89)=.int .u64 (X2:Int):=by rw[hfr1];kernel_rfl
  have f93:fr1.eval (.tmp 93)=.slice X1 X2 X3:=by rw[hfr1];kernel_rfl
  refine B3a [(3,84),(4,85),(9,90),(10,91),(13,94),(14,95),(15,4),(16,5)] (λi=>match i with
   | 3=>C4b 1 25 [.int .u64 a.at_]
   | 4=>rowP 8 a8
   | 9=>C4b 1 25 [.int .u64 (X2:Int)]
   | 10=>rowP 4 n4
   | 13=>J8a 4 (f8++(a8++(n4++a.data)))
   | 14=>B0b 5 w.heap.size (f8++(a8++(n4++a.data)))
   | 15=>B0b 5 w.heap.size (f8++(a8++(n4++a.data)))
   | 16=>isP (.int .i64 0)
   | _=>λ_ _=>True) fr1 (by rw[hfr1];kernel_rfl) (Nat.le_of_ble_eq_true (by kernel_rfl)) S0.out ?_ ?_ ?_
  ·intro i v w1 w2 hb h;split at h;all_goals first | exact S4a hb h | exact T4a hb h | exact C3a hb h | exact U4a hb h | exact h
  ·refine List.forall_mem_cons.2 ⟨⟨_,rfl,λb w1 s hev hd K hK=>?_⟩,List.forall_mem_cons.2 ⟨⟨_,rfl,λb w1 s hev hd K hK=>?_⟩,List.forall_mem_cons.2 ⟨⟨_,rfl,λb w1 s hev hd K hK=>?_⟩,List.forall_mem_cons.2 ⟨⟨_,rfl,λb w1 s hev hd K hK=>?_⟩,List.forall_mem_cons.2 ⟨⟨_,rfl,λb w1 s hev hd K hK=>?_⟩,List.forall_mem_cons.2 ⟨⟨_,rfl,λb w1 s hev hd K hK=>?_⟩,List.forall_mem_cons.2 ⟨⟨_,rfl,λb w1 s hev hd K hK=>?_⟩,List.forall_mem_cons.2 ⟨⟨_,rfl,λb w1 s hev hd K hK=>?_⟩,λ_ h=>absurd h List.not_mem_nil⟩⟩⟩⟩⟩⟩⟩⟩
   ·have e83:=(hev 83 (by decide)).trans f83;refine S0a rfl _ _ 1 _ rfl Tryz.underlying192 ([.int .u64 a.at_]:List Value) (by simp only[List.map_toArray,List.map_cons,List.map_nil,e83];kernel_rfl) ?_;intro g2 w2 _ _ hY hL;exact hK _ _ (hst.out _ _ s hL.out) hL.out ⟨_,rfl,hY.out⟩
   ·obtain⟨g4,e4,hB⟩:=hd (3,84) (by simp) (by kernel_rfl);simp only[Act.eval,Array.getD_eq_getD_getElem?] at e4;go_simp;refine(CA8.out _ _ hB).mono ?_;rintro e w2 ⟨A,c,rfl,⟨_,hY⟩,hL⟩;exact hK _ _ (hst.out _ _ s hL) hL ⟨_,_,rfl,hY⟩
   ·have e89:=(hev 89 (by decide)).trans f89;refine S0a rfl _ _ 1 _ rfl Tryz.underlying192 ([.int .u64 (X2:Int)]:List Value) (by simp only[List.map_toArray,List.map_cons,List.map_nil,e89];kernel_rfl) ?_;intro g2 w2 _ _ hY hL;exact hK _ _ (hst.out _ _ s hL.out) hL.out ⟨_,rfl,hY.out⟩
   ·obtain⟨g4,e4,hB⟩:=hd (9,90) (by simp) (by kernel_rfl);simp only[Act.eval,Array.getD_eq_getD_getElem?] at e4;go_simp;refine(CN4.out _ _ hB).mono ?_;rintro e w2 ⟨A,c,rfl,⟨_,hY⟩,hL⟩;exact hK _ _ (hst.out _ _ s hL) hL ⟨_,_,rfl,hY⟩
   ·have e81:=(hev 81 (by decide)).trans f81;obtain⟨A1,c1,e85,h1⟩:=hd (4,85) (by simp) (by kernel_rfl);obtain⟨A2,c2,e91,h2⟩:=hd (10,91) (by simp) (by kernel_rfl);have e93:=(hev 93 (by decide)).trans f93;refine S0a rfl _ _ 4 _ rfl Tryz.underlying93 ([.slice Af 8 cf,.slice A1 8 c1,.slice A2 4 c2,.slice X1 X2 X3]:List Value) (by simp only[List.map_toArray,List.map_cons,List.map_nil,e81,e85,e91,e93];kernel_rfl) ?_;intro g2 w2 _ _ hY hL;exact hK _ _ (hst.out _ _ s hL.out) hL.out ⟨_,[(Af,8,cf,f8),(A1,8,c1,a8),(A2,4,c2,n4),(X1,X2,X3,a.data)],rfl,S3a.of_blk _ hY.out (List.forall_mem_cons.2 ⟨s.2.2.1.over hL.out,List.forall_mem_cons.2 ⟨h1.over hL.out,List.forall_mem_cons.2 ⟨h2.over hL.out,List.forall_mem_cons.2 ⟨s.2.2.2.over hL.out,λ_ h=>absurd h List.not_mem_nil⟩⟩⟩⟩),by show 0+8+8+4+X2<=_;omega,by simp[R6a,T3a,List.append_assoc]⟩
   ·obtain⟨g5,l5,e5,hp5,hn5,hc5⟩:=hd (13,94) (by simp) (by kernel_rfl);simp only[Act.eval,Array.getD_eq_getD_getElem?] at e5;go_simp;refine(CC.out _ g5 4 _ _ _ _ hp5 (by omega) (by omega)).mono ?_;rintro e w2 ⟨v,rfl,hY,hL⟩;exact hK _ _ (hst.out _ _ s hL) hL (by rw[<-hc5];exact hY.mono s.2.1.size)
   ·have h15:(B0b 5 w.heap.size (f8++(a8++(n4++a.data)))) (b.eval (.tmp 95)) w1:=hd (14,95) (by simp) (by kernel_rfl);simp only[Act.eval,Array.getD_eq_getD_getElem?] at h15;go_simp;exact hK _ _ s (Below.refl _ _) h15
   ·go_simp;exact hK _ _ s (Below.refl _ _) rfl
  ·intro vs w9 s hv;have OUT0:a1a .u8 5 w9 w.heap.size (vs 4) (f8++(a8++(n4++a.data))):=hv (15,4) (by simp);obtain⟨v,hv15⟩:∃x,x=vs 4:=⟨_,rfl⟩;rw[<-hv15] at OUT0;have OUT:=hI OUT0;have hv16:vs 5=.int .i64 0:=hv (16,5) (by simp);have S9:=hI s.1;have b9:=hI s.2.1;have HF_9:=hI s.2.2.1;have HD_9:=hI s.2.2.2;subst hfr1;simp only[List.foldl_cons,List.foldl_nil,<-hv15,hv16];obtain⟨y84,hy0⟩:∃x,x=vs 84:=⟨_,rfl⟩;rw[<-hy0];clear hy0;obtain⟨y85,hy0⟩:∃x,x=vs 85:=⟨_,rfl⟩;rw[<-hy0];clear hy0;obtain⟨y90,hy0⟩:∃x,x=vs 90:=⟨_,rfl⟩;rw[<-hy0];clear hy0;obtain⟨y91,hy0⟩:∃x,x=vs 91:=⟨_,rfl⟩;rw[<-hy0];clear hy0;obtain⟨y94,hy0⟩:∃x,x=vs 94:=⟨_,rfl⟩;rw[<-hy0];clear hy0;obtain⟨y95,hy0⟩:∃x,x=vs 95:=⟨_,rfl⟩;rw[<-hy0];clear hy0;clear hv s vs hst S0 hv15 OUT0 hv16 f81 f83 f89 f93;go_simp;have HO6:=hI (OUT.out);go_wp2;go_ret2;refine HQ.out _ _ _ rfl ?_ b9.out;have h9:=HO6.out;simpa[R6a,T3a,List.append_assoc] using h9
 ·subst h10;rw[if_neg (by decide)] at HOK;have HQ:=hI (HQ0.out HOK.out);have hb0:O4a 10 a=le a.file 8++(le a.locks.length 2++(List.replicate 2 0++X1a a.locks)):=rfl;rw[hb0] at HQ;have CK:Hid (∀w',Below w.heap.size w w'->Calls Tryz.prog 122 #[.slice M1 M2 M3] w' λe w2=>(∃v,e=.returned v/\a1a .u8 5 w2 w'.heap.size v (le a.locks.length 2++(List.replicate 2 0++X1a a.locks)))/\Below w'.heap.size w' w2):=λw' hb=>(e2b w' M1 M2 M3 a.locks (HM.out.over hb) hm3 ka.locks).mono λe w2 ⟨v,h1,h2,h3⟩=>⟨⟨v,h1,h2⟩,h3⟩
  have HLT:Hid ((le a.locks.length 2++(List.replicate 2 0++X1a a.locks)).length<=1000/\Bytes (le a.locks.length 2++(List.replicate 2 0++X1a a.locks))):=by refine⟨?_,(F0a _ _).append ((Bytes.zeros 2).append (r6a _))⟩;rw[List.length_append,List.length_append,N6a,m0a,List.length_replicate,HM.out.len];omega
  obtain⟨f8,hf8⟩:∃x,x=le a.file 8:=⟨_,rfl⟩;rw[<-hf8] at CF8 HQ;obtain⟨tx,htx⟩:∃x,x=le (a.locks.length:Int) 2++(List.replicate 2 0++X1a a.locks):=⟨_,rfl⟩;rw[<-htx] at CK HQ HLT;obtain⟨hlt,hlb⟩:=HLT.out;obtain⟨lt,hltx⟩:∃x,x=tx.length:=⟨_,rfl⟩;have HLTX:=hI hltx;rw[<-hltx] at hlt;clear hf8 htx HOK HQ0 hb0 hltx;go_enter Tryz.func84,Tryz.ntmps84;go_wp2_with(first
   | ((with_reducible refine sN 3 ?_);refine a0a rfl _ (.tmp 1) rfl cs rfl ?_;intro g w1 hg1 hg2 K1 L1)
   | ((with_reducible refine sN 11 ?_);refine d0a rfl _ (.tmp 3) rfl g rfl _ cs K1 69 _ Tryz.underlying34 rfl n0a HL ?_)
   | fail)
  refine(CN.out w1 L1.out).mono ?_;rintro e w2 ⟨rfl,L2⟩;have K2:=hI (K1.out.over L2);have M2':=hI (step L1.out L2);obtain⟨c61,c62⟩:=FL.out w2 g K2.out;clear L2 K1 L1 CN;obtain⟨c51,c52,c53,c54,c55,c56,c57,c58,c59,c60⟩:=FC.out w2 g K2.out;go_wp2_with(first
   | ((with_reducible refine sN 26 ?_);refine K0a rfl _ _ 1 _ rfl Tryz.underlying192 ([.int .u64 a.file]:List Value) (by kernel_rfl) ?_;intro g3 w3 hg5 hg6 Y3 L3)
   | fail)
  refine(CF8.out w3 g3 Y3.out).mono ?_;rintro e w4 ⟨Af,cf,rfl,⟨hOf,hHf⟩,L4⟩;have HF:=hI hHf;have K4:=hI ((K2.out.over L3.out).over L4);have M4:=hI (step (step M2'.out L3.out) L4);have OF:=hI (a1a.mono hOf (Nat.le_trans M2'.out.size L3.out.size));have HXD:=hI (HX.out.over M4.out);have hs4:=M4.out.size;clear hHf hOf L4 L3 Y3 K2 M2' c51 c52 c53 c54 c55 c56 c57 c58 c59 c60 c61 c62 CF8;obtain⟨c61,c62⟩:=FL.out w4 g K4.out;go_wp2_with fail;refine(CK.out w4 M4.out).mono ?_;rintro e w5 ⟨⟨v,rfl,hv⟩,L5⟩;obtain⟨At,ct,rfl,hHt⟩:=a1a.holds8 hv hlb (by rw[<-HLTX.out];omega);rw[<-HLTX.out] at hHt⊢;have HTX:=hI hHt;have M5:=hI (step M4.out L5);have HF5:=hI (HF.out.over L5);have hs5:=M5.out.size;clear hv hHt L5 K4 M4 HF OF HXD;go_wp2_with(first
   | ((with_reducible refine sN 102 ?_);refine Z2a rfl 2 _ rfl [(Af,8,cf,f8),(At,lt,ct,tx)] rfl (by kernel_rfl) (List.forall_mem_cons.2 ⟨HF5.out,List.forall_mem_cons.2 ⟨HTX.out,λ_ h=>by cases h⟩⟩) ?_;intro g6 w6 hP6 L6)
   | fail)
  refine(CC.out w6 g6 2 _ _ _ _ hP6.out (by omega) (by show 0+8+lt<=_;omega)).mono ?_;rintro e w7 ⟨v,rfl,ho,L7⟩;have HO6:=hI (a1a.mono ho (Nat.le_trans hs5 L6.out.size));have M7:=hI (step (step M5.out L6.out) L7);clear ho L7 L6 hP6;go_wp2;go_ret2;refine HQ.out _ _ _ rfl ?_ M7.out;have h9:=HO6.out;simpa[R6a,T3a,List.append_assoc] using h9
theorem j0b(w:World)(c:Int)(cs:List Value)(a:E1a)(hc:0<=c/\c<=65535)(ka:a.ok)(ha:f1a w w.heap.size cs a) :
  Calls Tryz.prog 131 #[.int .u16 c,.agg cs.toArray] w λe w'=>e=.returned (.bool (C2a c a))/\Below w.heap.size w w':=by
 have HL:=hI (ha.len ka);have hcl:=ka.clen;have CP:Hid (∀(w':World) (ds:List Value) (b:E1a),b.ok->f1a w' w'.heap.size ds b->Calls Tryz.prog 82 #[.int .u16 13,.agg ds.toArray] w' λe w2=>(∃v er,e=.returned (.tuple #[v,.int .i64 er])/\(er==0)=decide (b=w0a))/\Below w'.heap.size w' w2):=λw' ds b kb hb=>by have h:=K9a w' 13 ds b (by decide) kb hb;exact h.mono λe w2 ⟨v,h1,_,h3⟩=>⟨⟨v,_,h1,d2b b⟩,h3⟩
 have kb:=a3b (c:=c) ka;by_cases hk:G1a c=true;rotate_left
 ·have hn0:C2a c a=false:=by unfold C2a;rw[show G1a c=false from by simpa using hk];rfl
  have hk':c≠5/\c≠6/\c≠7/\c≠8/\c≠9/\c≠10:=by refine⟨?_,?_,?_,?_,?_,?_⟩<;>(rintro rfl;exact hk (by decide))
  obtain⟨h5,h6,h7,h8,h9,h10⟩:=hk';have b5:(c==5)=false:=by simpa using h5
  have b6:(c==6)=false:=by simpa using h6
  have b7:(c==7)=false:=by simpa using h7
  have b8:(c==8)=false:=by simpa using h8
  have b9:(c==9)=false:=by simpa using h9
  have b10:(c==10)=false:=by simpa using h10
  rw[hn0];clear hk hn0 h5 h6 h7 h8 h9 h10 ha ka kb CP;go_enter Tryz.func131,Tryz.ntmps131;go_wp2_with(first
   | ((with_reducible refine sN 3 ?_);refine a0a rfl _ (.tmp 1) rfl cs rfl ?_;intro g w1 hg1 hg2 K1 L1)
   | fail)
  go_ret;exact⟨rfl,L1.out⟩
 have hcs:c=5∨c=6∨c=7∨c=8∨c=9∨c=10:=by unfold G1a at hk;simp at hk;omega
 obtain⟨X1,X2,X3,M1,M2,M3,rfl,hX,hM⟩:=ha;obtain⟨C0,hC0⟩:∃x,x=s0a (.slice X1 X2 X3) (.slice M1 M2 M3) a:=⟨_,rfl⟩;have HC0:=hI hC0;rw[<-hC0] at HL ⊢;clear hC0;rcases hcs with h5 | h6 | h7 | h8 | h9 | h10
 ·subst h5;have HI:Hid (∀w':World,Below w.heap.size w w'->f1a w' w'.heap.size (s0a (.slice X1 X2 X3) (.slice M1 M2 M3) (d1a 5 a)) (d1a 5 a)):=λw' hb=>⟨X1,X2,X3,M1,M2,M3,rfl,hX.over hb,hM.over hb⟩
  have HEQ:Hid (((((((C0).set 10 (.int .u8 0)).set 11 (.int .u8 0)).set 12 (.int .u16 0)).set 13 (.int .u64 0)).set 1 (.int .u64 0)).set 14 (.int .u8 0)=s0a (.slice X1 X2 X3) (.slice M1 M2 M3) (d1a 5 a)):=by
   show _=_
   rw[HC0.out];simp only[t9b,K9b,L9b,u9b,sc1,v9b,hcl];try rfl
  have hnf:C2a 5 a=decide (d1a 5 a=w0a):=by unfold C2a;rw[hk,Bool.true_and]
  rw[hnf];obtain⟨b,hb⟩:∃x,x=d1a 5 a:=⟨_,rfl⟩;rw[<-hb] at HI HEQ kb ⊢;obtain⟨D,hD⟩:∃x,x=s0a (.slice X1 X2 X3) (.slice M1 M2 M3) b:=⟨_,rfl⟩;rw[<-hD] at HI HEQ;clear hb hD hk ka;go_enter Tryz.func131,Tryz.ntmps131;go_wp2_with(first
   | ((with_reducible refine sN 3 ?_);refine a0a rfl _ (.tmp 1) rfl C0 rfl ?_;intro g w1 hg1 hg2 K1 L1)
   | ((with_reducible refine sT 10 ?_);refine h0a rfl _ (.tmp 10) (.const (.int .u8 0)) rfl g 10 rfl _ C0 (.int .u8 0) rfl K1 (hI (by have:=HL.out;omega)) (by kernel_rfl) rfl ?_;intro w2 K2 O2 hq2;obtain⟨C1,hC1⟩:∃x,x=C0.set 10 (.int .u8 0):=⟨_,rfl⟩;have HC1:=hI hC1;have HL1:Hid (C1.length=20):=(by rw[hC1,List.length_set];exact HL.out);rw[<-hC1] at K2;have L2:=hI (c0a L1.out O2.out hg1);clear hC1)
   | ((with_reducible refine sT 11 ?_);refine h0a rfl _ (.tmp 11) (.const (.int .u8 0)) rfl g 11 rfl _ C1 (.int .u8 0) rfl K2 (hI (by have:=HL1.out;omega)) (by kernel_rfl) rfl ?_;intro w3 K3 O3 hq3;obtain⟨C2,hC2⟩:∃x,x=C1.set 11 (.int .u8 0):=⟨_,rfl⟩;have HC2:=hI hC2;have HL2:Hid (C2.length=20):=(by rw[hC2,List.length_set];exact HL1.out);rw[<-hC2] at K3;have L3:=hI (c0a L2.out O3.out hg1);clear hC2)
   | ((with_reducible refine sT 12 ?_);refine h0a rfl _ (.tmp 12) (.const (.int .u16 0)) rfl g 12 rfl _ C2 (.int .u16 0) rfl K3 (hI (by have:=HL2.out;omega)) (by kernel_rfl) rfl ?_;intro w4 K4 O4 hq4;obtain⟨C3,hC3⟩:∃x,x=C2.set 12 (.int .u16 0):=⟨_,rfl⟩;have HC3:=hI hC3;have HL3:Hid (C3.length=20):=(by rw[hC3,List.length_set];exact HL2.out);rw[<-hC3] at K4;have L4:=hI (c0a L3.out O4.out hg1);clear hC3)
   | ((with_reducible refine sT 13 ?_);refine h0a rfl _ (.tmp 13) (.const (.int .u64 0)) rfl g 13 rfl _ C3 (.int .u64 0) rfl K4 (hI (by have:=HL3.out;omega)) (by kernel_rfl) rfl ?_;intro w5 K5 O5 hq5;obtain⟨C4,hC4⟩:∃x,x=C3.set 13 (.int .u64 0):=⟨_,rfl⟩;have HC4:=hI hC4;have HL4:Hid (C4.length=20):=(by rw[hC4,List.length_set];exact HL3.out);rw[<-hC4] at K5;have L5:=hI (c0a L4.out O5.out hg1);clear hC4)
   | ((with_reducible refine sT 14 ?_);refine h0a rfl _ (.tmp 14) (.const (.int .u64 0)) rfl g 1 rfl _ C4 (.int .u64 0) rfl K5 (hI (by have:=HL4.out;omega)) (by kernel_rfl) rfl ?_;intro w6 K6 O6 hq6;obtain⟨C5,hC5⟩:∃x,x=C4.set 1 (.int .u64 0):=⟨_,rfl⟩;have HC5:=hI hC5;have HL5:Hid (C5.length=20):=(by rw[hC5,List.length_set];exact HL4.out);rw[<-hC5] at K6;have L6:=hI (c0a L5.out O6.out hg1);clear hC5)
   | ((with_reducible refine sT 15 ?_);refine h0a rfl _ (.tmp 15) (.const (.int .u8 0)) rfl g 14 rfl _ C5 (.int .u8 0) rfl K6 (hI (by have:=HL5.out;omega)) (by kernel_rfl) rfl ?_;intro w7 K7 O7 hq7;obtain⟨C6,hC6⟩:∃x,x=C5.set 14 (.int .u8 0):=⟨_,rfl⟩;have HC6:=hI hC6;have HL6:Hid (C6.length=20):=(by rw[hC6,List.length_set];exact HL5.out);rw[<-hC6] at K7;have L7:=hI (c0a L6.out O7.out hg1);clear hC6)
   | ((with_reducible refine sN 27 ?_);refine d0a rfl _ (.tmp 3) rfl g rfl _ C6 K7 20 _ Tryz.underlying39 rfl v0a HL6 ?_)
   | fail)
  have HF:Hid (C6=D):=by
   show _=_
   rw[HC6.out,HC5.out,HC4.out,HC3.out,HC2.out,HC1.out];exact HEQ.out
  rw[HF.out];refine(CP.out _ D b kb (HI.out _ L7.out)).mono ?_;rintro e v1 ⟨⟨v,er,rfl,her⟩,LQ⟩;have HER:=hI her;have L99:=hI (step L7.out LQ);clear her LQ;go_wp2;go_ret;exact⟨H0a HER.out,L99.out⟩
 ·subst h6;have HI:Hid (∀w':World,Below w.heap.size w w'->f1a w' w'.heap.size (s0a (.slice X1 X2 X3) (.slice M1 M2 M3) (d1a 6 a)) (d1a 6 a)):=λw' hb=>⟨X1,X2,X3,M1,M2,M3,rfl,hX.over hb,hM.over hb⟩
  have HEQ:Hid (C0=s0a (.slice X1 X2 X3) (.slice M1 M2 M3) (d1a 6 a)):=by
   show _=_
   exact HC0.out
  have hnf:C2a 6 a=decide (d1a 6 a=w0a):=by unfold C2a;rw[hk,Bool.true_and]
  rw[hnf];obtain⟨b,hb⟩:∃x,x=d1a 6 a:=⟨_,rfl⟩;rw[<-hb] at HI HEQ kb ⊢;obtain⟨D,hD⟩:∃x,x=s0a (.slice X1 X2 X3) (.slice M1 M2 M3) b:=⟨_,rfl⟩;rw[<-hD] at HI HEQ;clear hb hD hk ka;go_enter Tryz.func131,Tryz.ntmps131;go_wp2_with(first
   | ((with_reducible refine sN 3 ?_);refine a0a rfl _ (.tmp 1) rfl C0 rfl ?_;intro g w1 hg1 hg2 K1 L1)
   | ((with_reducible refine sN 27 ?_);refine d0a rfl _ (.tmp 3) rfl g rfl _ C0 K1 20 _ Tryz.underlying39 rfl v0a HL ?_)
   | fail)
  have HF:Hid (C0=D):=by
   show _=_
   exact HEQ.out
  rw[HF.out];refine(CP.out _ D b kb (HI.out _ L1.out)).mono ?_;rintro e v1 ⟨⟨v,er,rfl,her⟩,LQ⟩;have HER:=hI her;have L99:=hI (step L1.out LQ);clear her LQ;go_wp2;go_ret;exact⟨H0a HER.out,L99.out⟩
 ·subst h7;have HI:Hid (∀w':World,Below w.heap.size w w'->f1a w' w'.heap.size (s0a (.slice X1 X2 X3) (.slice M1 M2 M3) (d1a 7 a)) (d1a 7 a)):=λw' hb=>⟨X1,X2,X3,M1,M2,M3,rfl,hX.over hb,hM.over hb⟩
  have HEQ:Hid (C0=s0a (.slice X1 X2 X3) (.slice M1 M2 M3) (d1a 7 a)):=by
   show _=_
   exact HC0.out
  have hnf:C2a 7 a=decide (d1a 7 a=w0a):=by unfold C2a;rw[hk,Bool.true_and]
  rw[hnf];obtain⟨b,hb⟩:∃x,x=d1a 7 a:=⟨_,rfl⟩;rw[<-hb] at HI HEQ kb ⊢;obtain⟨D,hD⟩:∃x,x=s0a (.slice X1 X2 X3) (.slice M1 M2 M3) b:=⟨_,rfl⟩;rw[<-hD] at HI HEQ;clear hb hD hk ka;go_enter Tryz.func131,Tryz.ntmps131;go_wp2_with(first
   | ((with_reducible refine sN 3 ?_);refine a0a rfl _ (.tmp 1) rfl C0 rfl ?_;intro g w1 hg1 hg2 K1 L1)
   | ((with_reducible refine sN 27 ?_);refine d0a rfl _ (.tmp 3) rfl g rfl _ C0 K1 20 _ Tryz.underlying39 rfl v0a HL ?_)
   | fail)
  have HF:Hid (C0=D):=by
   show _=_
   exact HEQ.out
  rw[HF.out];refine(CP.out _ D b kb (HI.out _ L1.out)).mono ?_;rintro e v1 ⟨⟨v,er,rfl,her⟩,LQ⟩;have HER:=hI her;have L99:=hI (step L1.out LQ);clear her LQ;go_wp2;go_ret;exact⟨H0a HER.out,L99.out⟩
 ·subst h8;have HI:Hid (∀w':World,Below w.heap.size w w'->f1a w' w'.heap.size (s0a (.slice none 0 0) (.slice M1 M2 M3) (d1a 8 a)) (d1a 8 a)):=λw' hb=>⟨none,0,0,M1,M2,M3,rfl,Holds.nil _ _,hM.over hb⟩
  have HEQ:Hid ((C0).set 15 (.slice none 0 0)=s0a (.slice none 0 0) (.slice M1 M2 M3) (d1a 8 a)):=by
   show _=_
   rw[HC0.out];simp only[h9b,hcl];try rfl
  have hnf:C2a 8 a=decide (d1a 8 a=w0a):=by unfold C2a;rw[hk,Bool.true_and]
  rw[hnf];obtain⟨b,hb⟩:∃x,x=d1a 8 a:=⟨_,rfl⟩;rw[<-hb] at HI HEQ kb ⊢;obtain⟨D,hD⟩:∃x,x=s0a (.slice none 0 0) (.slice M1 M2 M3) b:=⟨_,rfl⟩;rw[<-hD] at HI HEQ;clear hb hD hk ka;go_enter Tryz.func131,Tryz.ntmps131;go_wp2_with(first
   | ((with_reducible refine sN 3 ?_);refine a0a rfl _ (.tmp 1) rfl C0 rfl ?_;intro g w1 hg1 hg2 K1 L1)
   | ((with_reducible refine sT 18 ?_);refine h0a rfl _ (.tmp 18) (.const (.slice none 0 0)) rfl g 15 rfl _ C0 (.slice none 0 0) rfl K1 (hI (by have:=HL.out;omega)) (by kernel_rfl) rfl ?_;intro w2 K2 O2 hq2;obtain⟨C1,hC1⟩:∃x,x=C0.set 15 (.slice none 0 0):=⟨_,rfl⟩;have HC1:=hI hC1;have HL1:Hid (C1.length=20):=(by rw[hC1,List.length_set];exact HL.out);rw[<-hC1] at K2;have L2:=hI (c0a L1.out O2.out hg1);clear hC1)
   | ((with_reducible refine sN 27 ?_);refine d0a rfl _ (.tmp 3) rfl g rfl _ C1 K2 20 _ Tryz.underlying39 rfl v0a HL1 ?_)
   | fail)
  have HF:Hid (C1=D):=by
   show _=_
   rw[HC1.out];exact HEQ.out
  rw[HF.out];refine(CP.out _ D b kb (HI.out _ L2.out)).mono ?_;rintro e v1 ⟨⟨v,er,rfl,her⟩,LQ⟩;have HER:=hI her;have L99:=hI (step L2.out LQ);clear her LQ;go_wp2;go_ret;exact⟨H0a HER.out,L99.out⟩
 ·subst h9;have HI:Hid (∀w':World,Below w.heap.size w w'->f1a w' w'.heap.size (s0a (.slice X1 X2 X3) (.slice M1 M2 M3) (d1a 9 a)) (d1a 9 a)):=λw' hb=>⟨X1,X2,X3,M1,M2,M3,rfl,hX.over hb,hM.over hb⟩
  have HEQ:Hid ((C0).set 16 (.int .u32 0)=s0a (.slice X1 X2 X3) (.slice M1 M2 M3) (d1a 9 a)):=by
   show _=_
   rw[HC0.out];simp only[M9b,hcl];try rfl
  have hnf:C2a 9 a=decide (d1a 9 a=w0a):=by unfold C2a;rw[hk,Bool.true_and]
  rw[hnf];obtain⟨b,hb⟩:∃x,x=d1a 9 a:=⟨_,rfl⟩;rw[<-hb] at HI HEQ kb ⊢;obtain⟨D,hD⟩:∃x,x=s0a (.slice X1 X2 X3) (.slice M1 M2 M3) b:=⟨_,rfl⟩;rw[<-hD] at HI HEQ;clear hb hD hk ka;go_enter Tryz.func131,Tryz.ntmps131;go_wp2_with(first
   | ((with_reducible refine sN 3 ?_);refine a0a rfl _ (.tmp 1) rfl C0 rfl ?_;intro g w1 hg1 hg2 K1 L1)
   | ((with_reducible refine sT 21 ?_);refine h0a rfl _ (.tmp 21) (.const (.int .u32 0)) rfl g 16 rfl _ C0 (.int .u32 0) rfl K1 (hI (by have:=HL.out;omega)) (by kernel_rfl) rfl ?_;intro w2 K2 O2 hq2;obtain⟨C1,hC1⟩:∃x,x=C0.set 16 (.int .u32 0):=⟨_,rfl⟩;have HC1:=hI hC1;have HL1:Hid (C1.length=20):=(by rw[hC1,List.length_set];exact HL.out);rw[<-hC1] at K2;have L2:=hI (c0a L1.out O2.out hg1);clear hC1)
   | ((with_reducible refine sN 27 ?_);refine d0a rfl _ (.tmp 3) rfl g rfl _ C1 K2 20 _ Tryz.underlying39 rfl v0a HL1 ?_)
   | fail)
  have HF:Hid (C1=D):=by
   show _=_
   rw[HC1.out];exact HEQ.out
  rw[HF.out];refine(CP.out _ D b kb (HI.out _ L2.out)).mono ?_;rintro e v1 ⟨⟨v,er,rfl,her⟩,LQ⟩;have HER:=hI her;have L99:=hI (step L2.out LQ);clear her LQ;go_wp2;go_ret;exact⟨H0a HER.out,L99.out⟩
 ·subst h10;have HI:Hid (∀w':World,Below w.heap.size w w'->f1a w' w'.heap.size (s0a (.slice X1 X2 X3) (.slice M1 M2 M3) (d1a 10 a)) (d1a 10 a)):=λw' hb=>⟨X1,X2,X3,M1,M2,M3,rfl,hX.over hb,hM.over hb⟩
  have HEQ:Hid (C0=s0a (.slice X1 X2 X3) (.slice M1 M2 M3) (d1a 10 a)):=by
   show _=_
   exact HC0.out
  have hnf:C2a 10 a=decide (d1a 10 a=w0a):=by unfold C2a;rw[hk,Bool.true_and]
  rw[hnf];obtain⟨b,hb⟩:∃x,x=d1a 10 a:=⟨_,rfl⟩;rw[<-hb] at HI HEQ kb ⊢;obtain⟨D,hD⟩:∃x,x=s0a (.slice X1 X2 X3) (.slice M1 M2 M3) b:=⟨_,rfl⟩;rw[<-hD] at HI HEQ;clear hb hD hk ka;go_enter Tryz.func131,Tryz.ntmps131;go_wp2_with(first
   | ((with_reducible refine sN 3 ?_);refine a0a rfl _ (.tmp 1) rfl C0 rfl ?_;intro g w1 hg1 hg2 K1 L1)
   | ((with_reducible refine sN 27 ?_);refine d0a rfl _ (.tmp 3) rfl g rfl _ C0 K1 20 _ Tryz.underlying39 rfl v0a HL ?_)
   | fail)
  have HF:Hid (C0=D):=by
   show _=_
   exact HEQ.out
  rw[HF.out];refine(CP.out _ D b kb (HI.out _ L1.out)).mono ?_;rintro e v1 ⟨⟨v,er,rfl,her⟩,LQ⟩;have HER:=hI her;have L99:=hI (step L1.out LQ);clear her LQ;go_wp2;go_ret;exact⟨H0a HER.out,L99.out⟩
def W7a(w:World)(c:Int)(a:E1a)(e:Ending)(w':World):Prop:=∃v,e=.returned (.tuple #[v,.int .i64 (K5a c a)])/\a1a .u8 5 w' w.heap.size v (u3b c a)/\Below w.heap.size w w'
theorem c3b(w:World)(c:Int)(cs:List Value)(a:E1a)(hc:0<=c/\c<=65535)(ka:a.ok)(ha:f1a w w.heap.size cs a) :
  Calls Tryz.prog 86 #[.int .u16 c,.agg cs.toArray] w (W7a w c a):=by
 have HL:=hI (ha.len ka);have HA:=hI ha;have CN:Hid (∀w',Below w.heap.size w w'->Calls Tryz.prog 131 #[.int .u16 c,.agg cs.toArray] w' λe w2=>e=.returned (.bool (C2a c a))/\Below w'.heap.size w' w2):=λw' hb=>j0b w' c cs a hc ka (HA.out.over hb)
 obtain⟨X1,X2,X3,M1,M2,M3,hcs,hX,hM⟩:=ha;have FL:Hid (∀(w:World) (g:Nat),Blk w g 39 cs->w.cell? ⟨g,15,none⟩=some (.slice X1 X2 X3)/\w.cell? ⟨g,12,none⟩=some (.int .u16 a.made)/\w.cell? ⟨g,14,none⟩=some (.int .u8 a.kind)):=λw g h=>by rw[hcs] at h;exact⟨h.at (z0a ka 5),h.at (z0a ka 2),h.at (z0a ka 4)⟩
 have hxl:a.data.length=X2:=hX.len;have hxr:=hX.room;have HE:Hid (∀er,K5a c a=er->er≠0->∀v e w',e=.returned (.tuple #[v,.int .i64 er])->v=.slice none 0 0->Below w.heap.size w w'->W7a w c a e w'):=by intro er h1 h2 v e w' he hv hb;unfold W7a u3b;rw[h1,if_neg h2];exact⟨_,he,by rw[hv];exact a1a.nil _ _ _ _,hb⟩
 by_cases hnf:C2a c a=true;rotate_left
 ·have hnb:C2a c a=false:=by simpa using hnf
  have HQ:=hI (HE.out 2 (by unfold K5a;rw[if_neg (λh=>hnf h.1)]) (by decide));rw[hnb] at CN;clear hnf hnb HE hX hM ka HA hcs hxl;go_enter Tryz.func86,Tryz.ntmps86;go_wp2_with(first
   | ((with_reducible refine sN 3 ?_);refine a0a rfl _ (.tmp 1) rfl cs rfl ?_;intro g w1 hg1 hg2 K1 L1)
   | ((with_reducible refine sN 9 ?_);refine d0a rfl _ (.tmp 3) rfl g rfl _ cs K1 20 _ Tryz.underlying39 rfl v0a HL ?_)
   | fail)
  refine(CN.out w1 L1.out).mono ?_;rintro e w2 ⟨rfl,L2⟩;have K2:=hI (K1.out.over L2);have M2':=hI (step L1.out L2);obtain⟨c15,c12,c14⟩:=FL.out w2 g K2.out;clear L2 K1 L1 CN;go_wp2;go_ret2;exact HQ.out _ _ _ rfl rfl M2'.out
 rw[hnf] at CN;by_cases hmd:a.made<=2;rotate_left
 ·have HQ:=hI (HE.out 2 (by unfold K5a;rw[if_neg (λh=>hmd h.2.1)]) (by decide));have hb1:decide (2<a.made)=true:=by rw[decide_eq_true_iff];omega
  clear hnf HE hX hM ka HA hcs hxl;go_enter Tryz.func86,Tryz.ntmps86;go_wp2_with(first
   | ((with_reducible refine sN 3 ?_);refine a0a rfl _ (.tmp 1) rfl cs rfl ?_;intro g w1 hg1 hg2 K1 L1)
   | ((with_reducible refine sN 9 ?_);refine d0a rfl _ (.tmp 3) rfl g rfl _ cs K1 20 _ Tryz.underlying39 rfl v0a HL ?_)
   | fail)
  refine(CN.out w1 L1.out).mono ?_;rintro e w2 ⟨rfl,L2⟩;have K2:=hI (K1.out.over L2);have M2':=hI (step L1.out L2);obtain⟨c15,c12,c14⟩:=FL.out w2 g K2.out;clear L2 K1 L1 CN;go_wp2;go_ret2;exact HQ.out _ _ _ rfl rfl M2'.out
 by_cases hkd:a.kind<=2;rotate_left
 ·have HQ:=hI (HE.out 2 (by unfold K5a;rw[if_neg (λh=>hkd h.2.2)]) (by decide));have hb1:decide (2<a.made)=false:=by rw[decide_eq_false_iff_not];omega
  have hb2:decide (2<a.kind)=true:=by rw[decide_eq_true_iff];omega
  clear hnf HE hX hM ka HA hcs hxl;go_enter Tryz.func86,Tryz.ntmps86;go_wp2_with(first
   | ((with_reducible refine sN 3 ?_);refine a0a rfl _ (.tmp 1) rfl cs rfl ?_;intro g w1 hg1 hg2 K1 L1)
   | ((with_reducible refine sN 9 ?_);refine d0a rfl _ (.tmp 3) rfl g rfl _ cs K1 20 _ Tryz.underlying39 rfl v0a HL ?_)
   | fail)
  refine(CN.out w1 L1.out).mono ?_;rintro e w2 ⟨rfl,L2⟩;have K2:=hI (K1.out.over L2);have M2':=hI (step L1.out L2);obtain⟨c15,c12,c14⟩:=FL.out w2 g K2.out;clear L2 K1 L1 CN;go_wp2;go_ret2;exact HQ.out _ _ _ rfl rfl M2'.out
 have hb1:decide (2<a.made)=false:=by rw[decide_eq_false_iff_not];omega
 have hb2:decide (2<a.kind)=false:=by rw[decide_eq_false_iff_not];omega
 by_cases hx3:X2<=32768;rotate_left
 ·have HQ:=hI (HE.out 3 (by unfold K5a;rw[if_pos ⟨hnf,hmd,hkd⟩,hxl,if_neg hx3]) (by decide));clear hnf HE hX hM ka HA hcs hxl;go_enter Tryz.func86,Tryz.ntmps86;go_wp2_with(first
   | ((with_reducible refine sN 3 ?_);refine a0a rfl _ (.tmp 1) rfl cs rfl ?_;intro g w1 hg1 hg2 K1 L1)
   | ((with_reducible refine sN 9 ?_);refine d0a rfl _ (.tmp 3) rfl g rfl _ cs K1 20 _ Tryz.underlying39 rfl v0a HL ?_)
   | fail)
  refine(CN.out w1 L1.out).mono ?_;rintro e w2 ⟨rfl,L2⟩;have K2:=hI (K1.out.over L2);have M2':=hI (step L1.out L2);obtain⟨c15,c12,c14⟩:=FL.out w2 g K2.out;clear L2 K1 L1 CN;go_wp2;go_ret2;exact HQ.out _ _ _ rfl rfl M2'.out
 have hk:G1a c=true:=by
  unfold C2a at hnf;cases h:G1a c
  ·rw[h,Bool.false_and] at hnf;exact absurd hnf (by decide)
  ·rfl
 have hcc:c=5∨c=6∨c=7∨c=8∨c=9∨c=10:=by unfold G1a at hk;simp at hk;omega
 have HQ0:Hid (∀v e w',e=.returned (.tuple #[v,.int .i64 0])->a1a .u8 5 w' w.heap.size v (k3a c a)->Below w.heap.size w w'->W7a w c a e w'):=by
  have h:K5a c a=0:=by unfold K5a;rw[if_pos ⟨hnf,hmd,hkd⟩,hxl,if_pos hx3]
  intro v e w' he hv hb;unfold W7a u3b;rw[h,if_pos rfl];exact⟨_,he,hv,hb⟩
 obtain⟨l_lev,u_lev⟩:=ka.lev;obtain⟨l_dur,u_dur⟩:=ka.dur;obtain⟨l_made,u_made⟩:=ka.made;obtain⟨l_file,u_file⟩:=ka.file;obtain⟨l_siz,u_siz⟩:=ka.siz;obtain⟨l_kind,u_kind⟩:=ka.kind;obtain⟨l_n,u_n⟩:=ka.n;have z_made:IntKind.u64.wrap a.made=a.made:=by rw[IntKind.wrap_u64];omega
 have z_kind:IntKind.u64.wrap a.kind=a.kind:=by rw[IntKind.wrap_u64];omega
 have z_n:IntKind.u64.wrap a.n=a.n:=by rw[IntKind.wrap_u64];omega
 have z_x:IntKind.u64.wrap (X2:Int)=(X2:Int):=by rw[IntKind.wrap_u64];omega
 have FC:Hid (∀(w:World) (g:Nat),Blk w g 39 cs->w.cell? ⟨g,1,none⟩=some (.int .u64 a.siz)/\w.cell? ⟨g,10,none⟩=some (.int .u8 a.lev)/\w.cell? ⟨g,11,none⟩=some (.int .u8 a.dur)/\w.cell? ⟨g,12,none⟩=some (.int .u16 a.made)/\w.cell? ⟨g,13,none⟩=some (.int .u64 a.file)/\w.cell? ⟨g,14,none⟩=some (.int .u8 a.kind)/\w.cell? ⟨g,16,none⟩=some (.int .u32 a.n)):=λw g h=>by rw[hcs] at h;exact⟨h.at rfl,h.at (z0a ka 0),h.at (z0a ka 1),h.at (z0a ka 2),h.at (z0a ka 3),h.at (z0a ka 4),h.at (z0a ka 6)⟩
 have CC:Hid (∀(w:World) (gs m:Nat) (A:Nat->Option Addr) (n c:Nat->Nat) (X:Nat->List Int),S3a w gs m A n c X->m<=1000->b0b n m<=140737488355328->Calls Tryz.prog 22 #[.slice (some ⟨gs,0,none⟩) m m] w λe w'=>∃v,e=.returned v/\a1a .u8 5 w' w.heap.size v (R6a X m)/\Below w.heap.size w w'):=Y2a;have HX:=hI hX;clear HE hX hM HA hcs hnf hxl hk hmd hkd;rcases hcc with h5 | h6 | h7 | h8 | h9 | h10
 ·subst h5;have HQ:=HQ0;have hb5:k3a 5 a=[a.lev,a.dur]++(le a.made 2++((le a.file 8++le a.siz 8)++(le a.kind 2++List.replicate 2 0))):=by unfold k3a;rw[if_pos rfl,le1 a.lev l_lev u_lev,le1 a.dur l_dur u_dur];simp only[List.append_assoc,List.cons_append,List.nil_append]
  rw[hb5] at HQ;have CM2:Hid (∀(w:World) (gl:Nat),Blk w gl 25 [.int .u64 a.made]->Calls Tryz.prog 121 #[.int .i64 2,.slice (some ⟨gl,0,none⟩) 1 1] w λe w'=>∃A' c',e=.returned (.slice A' 2 c')/\(a1a .u8 5 w' w.heap.size (.slice A' 2 c') (le a.made 2)/\Holds w' w'.heap.size A' 2 c' (le a.made 2))/\Below w.heap.size w w'):=λw gl hB=>by
   have h:=W3a w gl 1 2 ([a.made]:List Int) hB rfl (by decide) (by decide) (λz hz=>by rw[show(256:Int)^2=65536 from by decide];simp only[List.mem_cons,List.not_mem_nil,or_false] at hz;rw[hz];omega)
   have e1:g2a 2 ([a.made]:List Int)=le a.made 2:=by simp[g2a]
   rw[e1] at h;have e2:(le a.made 2).length=2:=by simp[m0a]
   rw[e2] at h;exact h
  have CK2:Hid (∀(w:World) (gl:Nat),Blk w gl 25 [.int .u64 a.kind]->Calls Tryz.prog 121 #[.int .i64 2,.slice (some ⟨gl,0,none⟩) 1 1] w λe w'=>∃A' c',e=.returned (.slice A' 2 c')/\(a1a .u8 5 w' w.heap.size (.slice A' 2 c') (le a.kind 2)/\Holds w' w'.heap.size A' 2 c' (le a.kind 2))/\Below w.heap.size w w'):=λw gl hB=>by
   have h:=W3a w gl 1 2 ([a.kind]:List Int) hB rfl (by decide) (by decide) (λz hz=>by rw[show(256:Int)^2=65536 from by decide];simp only[List.mem_cons,List.not_mem_nil,or_false] at hz;rw[hz];omega)
   have e1:g2a 2 ([a.kind]:List Int)=le a.kind 2:=by simp[g2a]
   rw[e1] at h;have e2:(le a.kind 2).length=2:=by simp[m0a]
   rw[e2] at h;exact h
  have CF16:Hid (∀(w:World) (gl:Nat),Blk w gl 25 [.int .u64 a.file,.int .u64 a.siz]->Calls Tryz.prog 121 #[.int .i64 8,.slice (some ⟨gl,0,none⟩) 2 2] w λe w'=>∃A' c',e=.returned (.slice A' 16 c')/\(a1a .u8 5 w' w.heap.size (.slice A' 16 c') (le a.file 8++le a.siz 8)/\Holds w' w'.heap.size A' 16 c' (le a.file 8++le a.siz 8))/\Below w.heap.size w w'):=λw gl hB=>by
   have h:=W3a w gl 2 8 ([a.file,a.siz]:List Int) hB rfl (by decide) (by decide) (λz hz=>by rw[show(256:Int)^8=18446744073709551616 from by decide];simp only[List.mem_cons,List.not_mem_nil,or_false] at hz;rcases hz with hz | hz<;>omega)
   have e1:g2a 8 ([a.file,a.siz]:List Int)=le a.file 8++le a.siz 8:=by simp[g2a]
   rw[e1] at h;have e2:(le a.file 8++le a.siz 8).length=16:=by simp[m0a]
   rw[e2] at h;exact h
  have hld:Bytes [a.lev,a.dur]:=by intro x hx;simp only[List.mem_cons,List.not_mem_nil,or_false] at hx;rcases hx with hx | hx<;>omega
  have HLD:=hI hld;obtain⟨m2,hm2⟩:∃x,x=le a.made 2:=⟨_,rfl⟩;rw[<-hm2] at CM2 HQ;obtain⟨k2,hk2⟩:∃x,x=le a.kind 2:=⟨_,rfl⟩;rw[<-hk2] at CK2 HQ;obtain⟨fs,hfs⟩:∃x,x=le a.file 8++le a.siz 8:=⟨_,rfl⟩;rw[<-hfs] at CF16 HQ;clear hm2 hk2 hfs HQ0 hb5 hld;go_enter Tryz.func86,Tryz.ntmps86;go_wp2_with(first
   | ((with_reducible refine sN 3 ?_);refine a0a rfl _ (.tmp 1) rfl cs rfl ?_;intro g w1 hg1 hg2 K1 L1)
   | ((with_reducible refine sN 9 ?_);refine d0a rfl _ (.tmp 3) rfl g rfl _ cs K1 20 _ Tryz.underlying39 rfl v0a HL ?_)
   | fail)
  refine(CN.out w1 L1.out).mono ?_;rintro e w2 ⟨rfl,L2⟩;have K2:=hI (K1.out.over L2);have M2':=hI (step L1.out L2);obtain⟨c15,c12,c14⟩:=FL.out w2 g K2.out;clear L2 K1 L1 CN;go_upto_region 7 with fail
  go_cut [6,7] (λs6 s7 wx=>∃Ap cp Aq cq,s6=.slice Ap 2 cp/\s7=.slice Aq 2 cq/\Hid (Holds wx wx.heap.size Ap 2 cp m2)/\Hid (Holds wx wx.heap.size Aq 2 cq k2)/\Hid (Blk wx g 39 cs)/\Hid (Below w.heap.size w wx))
  case first=>
   have hst:Hid (∀w1 w2:World,(Blk w1 g 39 cs/\Below w.heap.size w w1)->Below w1.heap.size w1 w2->(Blk w2 g 39 cs/\Below w.heap.size w w2)):=λw1 w2 s hb=>⟨s.1.over hb,step s.2 hb⟩
   refine wp_region_held (S:=λw'=>Blk w' g 39 cs/\Below w.heap.size w w') (by kernel_rfl) ?_;change wpAnyH _ _ _ _ _ _ _ _ w2.drew
   have S0:Hid (Blk w2.drew g 39 cs/\Below w.heap.size w w2.drew):=⟨K2.out.drew,M2'.out.drew⟩;refine tK 0 _ rfl (g0a (by kernel_rfl) _ (.tmp 3) 5 rfl (.pointer (some ⟨g,0,none⟩)) (.pointer (some ⟨g,12,none⟩)) (by kernel_rfl) (o6a g)) S0.out ?_;refine tK 1 _ rfl (i0a (by kernel_rfl) _ (.tmp 29) rfl g 12 (by kernel_rfl) (.int .u16 a.made) (λw h=>(FC.out w g h.1).2.2.2.1) _ Tryz.underlying22 rfl) S0.out ?_;refine tK 2 ((.int .u64 a.made)) rfl (.inl ⟨by kernel_rfl,λw _=>by go_simp⟩) S0.out ?_;refine tK 5 _ rfl (g0a (by kernel_rfl) _ (.tmp 3) 7 rfl (.pointer (some ⟨g,0,none⟩)) (.pointer (some ⟨g,14,none⟩)) (by kernel_rfl) (L3a g)) S0.out ?_;refine tK 6 _ rfl (i0a (by kernel_rfl) _ (.tmp 34) rfl g 14 (by kernel_rfl) (.int .u8 a.kind) (λw h=>(FC.out w g h.1).2.2.2.2.2.1) _ Tryz.underlying36 rfl) S0.out ?_;refine tK 7 ((.int .u64 a.kind)) rfl (.inl ⟨by kernel_rfl,λw _=>by go_simp⟩) S0.out ?_;refine y0a λfr1 hfr1=>?_
   have f31:fr1.eval (.tmp 31)=.int .u64 a.made:=by rw[hfr1];kernel_rfl
   have f36:fr1.eval (.tmp 36)=.int .u64 a.kind:=by rw[hfr1];kernel_rfl
   refine B3a [(3,32),(4,33),(8,37),(9,38),(10,6),(11,7)] (λi=>match i with
    | 3=>C4b 1 25 [.int .u64 a.made]
    | 4=>rowP 2 m2
    | 8=>C4b 1 25 [.int .u64 a.kind]
    | 9=>rowP 2 k2
    | 10=>rowP 2 m2
    | 11=>rowP 2 k2
    | _=>λ_ _=>True) fr1 (by rw[hfr1];kernel_rfl) (Nat.le_of_ble_eq_true (by kernel_rfl)) S0.out ?_ ?_ ?_
   ·intro i v w1 w2 hb h;split at h;all_goals first | exact S4a hb h | exact T4a hb h | exact C3a hb h | exact U4a hb h | exact h
   ·refine List.forall_mem_cons.2 ⟨⟨_,rfl,λb w1 s hev hd K hK=>?_⟩,List.forall_mem_cons.2 ⟨⟨_,rfl,λb w1 s hev hd K hK=>?_⟩,List.forall_mem_cons.2 ⟨⟨_,rfl,λb w1 s hev hd K hK=>?_⟩,List.forall_mem_cons.2 ⟨⟨_,rfl,λb w1 s hev hd K hK=>?_⟩,List.forall_mem_cons.2 ⟨⟨_,rfl,λb w1 s hev hd K hK=>?_⟩,List.forall_mem_cons.2 ⟨⟨_,rfl,λb w1 s hev hd K hK=>?_⟩,λ_ h=>absurd h List.not_mem_nil⟩⟩⟩⟩⟩⟩
    ·have e31:=(hev 31 (by decide)).trans f31;refine S0a rfl _ _ 1 _ rfl Tryz.underlying192 ([.int .u64 a.made]:List Value) (by simp only[List.map_toArray,List.map_cons,List.map_nil,e31];kernel_rfl) ?_;intro g2 w2 _ _ hY hL;exact hK _ _ (hst.out _ _ s hL.out) hL.out ⟨_,rfl,hY.out⟩
    ·obtain⟨g4,e4,hB⟩:=hd (3,32) (by simp) (by kernel_rfl);simp only[Act.eval,Array.getD_eq_getD_getElem?] at e4;go_simp;refine(CM2.out _ _ hB).mono ?_;rintro e w2 ⟨A,c,rfl,⟨_,hY⟩,hL⟩;exact hK _ _ (hst.out _ _ s hL) hL ⟨_,_,rfl,hY⟩
    ·have e36:=(hev 36 (by decide)).trans f36;refine S0a rfl _ _ 1 _ rfl Tryz.underlying192 ([.int .u64 a.kind]:List Value) (by simp only[List.map_toArray,List.map_cons,List.map_nil,e36];kernel_rfl) ?_;intro g2 w2 _ _ hY hL;exact hK _ _ (hst.out _ _ s hL.out) hL.out ⟨_,rfl,hY.out⟩
    ·obtain⟨g4,e4,hB⟩:=hd (8,37) (by simp) (by kernel_rfl);simp only[Act.eval,Array.getD_eq_getD_getElem?] at e4;go_simp;refine(CK2.out _ _ hB).mono ?_;rintro e w2 ⟨A,c,rfl,⟨_,hY⟩,hL⟩;exact hK _ _ (hst.out _ _ s hL) hL ⟨_,_,rfl,hY⟩
    ·have h15:(rowP 2 m2) (b.eval (.tmp 33)) w1:=hd (4,33) (by simp) (by kernel_rfl);simp only[Act.eval,Array.getD_eq_getD_getElem?] at h15;go_simp;exact hK _ _ s (Below.refl _ _) h15
    ·have h15:(rowP 2 k2) (b.eval (.tmp 38)) w1:=hd (9,38) (by simp) (by kernel_rfl);simp only[Act.eval,Array.getD_eq_getD_getElem?] at h15;go_simp;exact hK _ _ s (Below.refl _ _) h15
   ·intro vs w9 s hv;obtain⟨A10,c10,hv10,hy10⟩:=hv (10,6) (by simp);have mM_9:=hI hy10;obtain⟨A11,c11,hv11,hy11⟩:=hv (11,7) (by simp);have kK_9:=hI hy11;have S9:=hI s.1;have b9:=hI s.2;subst hfr1;simp only[List.foldl_cons,List.foldl_nil,hv10,hv11];obtain⟨y32,hy0⟩:∃x,x=vs 32:=⟨_,rfl⟩;rw[<-hy0];clear hy0;obtain⟨y33,hy0⟩:∃x,x=vs 33:=⟨_,rfl⟩;rw[<-hy0];clear hy0;obtain⟨y37,hy0⟩:∃x,x=vs 37:=⟨_,rfl⟩;rw[<-hy0];clear hy0;obtain⟨y38,hy0⟩:∃x,x=vs 38:=⟨_,rfl⟩;rw[<-hy0];clear hy0;clear hv s vs hst S0 hv10 hy10 hv11 hy11 f31 f36;go_simp;go_wp2_with fail;go_meet;exact⟨_,_,_,_,rfl,rfl,mM_9,kK_9,S9,b9⟩
  case rest=>
   obtain⟨Ap,cp,Aq,cq,rfl,rfl,HM6,HK7,KX,MX⟩:=hcut;go_upto_region 8 with fail
   have hst:Hid (∀w1 w2:World,(Blk w1 g 39 cs/\Below w.heap.size w w1/\Holds w1 w1.heap.size Ap 2 cp m2/\Holds w1 w1.heap.size Aq 2 cq k2)->Below w1.heap.size w1 w2->(Blk w2 g 39 cs/\Below w.heap.size w w2/\Holds w2 w2.heap.size Ap 2 cp m2/\Holds w2 w2.heap.size Aq 2 cq k2)):=λw1 w2 s hb=>⟨s.1.over hb,step s.2.1 hb,s.2.2.1.over hb,s.2.2.2.over hb⟩
   refine wp_region_held (S:=λw'=>Blk w' g 39 cs/\Below w.heap.size w w'/\Holds w' w'.heap.size Ap 2 cp m2/\Holds w' w'.heap.size Aq 2 cq k2) (by kernel_rfl) ?_;change wpAnyH _ _ _ _ _ _ _ _ wc.drew
   have S0:Hid (Blk wc.drew g 39 cs/\Below w.heap.size w wc.drew/\Holds wc.drew wc.drew.heap.size Ap 2 cp m2/\Holds wc.drew wc.drew.heap.size Aq 2 cq k2):=⟨KX.out.drew,MX.out.drew,HM6.out.drew,HK7.out.drew⟩;refine tK 0 _ rfl (g0a (by kernel_rfl) _ (.tmp 3) 3 rfl (.pointer (some ⟨g,0,none⟩)) (.pointer (some ⟨g,10,none⟩)) (by kernel_rfl) (J3a g)) S0.out ?_;refine tK 1 _ rfl (i0a (by kernel_rfl) _ (.tmp 39) rfl g 10 (by kernel_rfl) (.int .u8 a.lev) (λw h=>(FC.out w g h.1).2.1) _ Tryz.underlying5 rfl) S0.out ?_;refine tK 2 _ rfl (g0a (by kernel_rfl) _ (.tmp 3) 4 rfl (.pointer (some ⟨g,0,none⟩)) (.pointer (some ⟨g,11,none⟩)) (by kernel_rfl) (n6a g)) S0.out ?_;refine tK 3 _ rfl (i0a (by kernel_rfl) _ (.tmp 41) rfl g 11 (by kernel_rfl) (.int .u8 a.dur) (λw h=>(FC.out w g h.1).2.2.1) _ Tryz.underlying5 rfl) S0.out ?_;refine tK 5 _ rfl (t0a (by kernel_rfl) (.tmp 6) rfl (.slice Ap 2 cp) (by kernel_rfl)) S0.out ?_;refine tK 6 _ rfl (g0a (by kernel_rfl) _ (.tmp 3) 6 rfl (.pointer (some ⟨g,0,none⟩)) (.pointer (some ⟨g,13,none⟩)) (by kernel_rfl) (K3a g)) S0.out ?_;refine tK 7 _ rfl (i0a (by kernel_rfl) _ (.tmp 45) rfl g 13 (by kernel_rfl) (.int .u64 a.file) (λw h=>(FC.out w g h.1).2.2.2.2.1) _ Tryz.underlying25 rfl) S0.out ?_;refine tK 8 _ rfl (g0a (by kernel_rfl) _ (.tmp 3) 1 rfl (.pointer (some ⟨g,0,none⟩)) (.pointer (some ⟨g,1,none⟩)) (by kernel_rfl) (I3a g)) S0.out ?_;refine tK 9 _ rfl (i0a (by kernel_rfl) _ (.tmp 47) rfl g 1 (by kernel_rfl) (.int .u64 a.siz) (λw h=>(FC.out w g h.1).1) _ Tryz.underlying25 rfl) S0.out ?_;refine tK 12 _ rfl (t0a (by kernel_rfl) (.tmp 7) rfl (.slice Aq 2 cq) (by kernel_rfl)) S0.out ?_;refine y0a λfr1 hfr1=>?_
   have f40:fr1.eval (.tmp 40)=.int .u8 a.lev:=by rw[hfr1];kernel_rfl
   have f42:fr1.eval (.tmp 42)=.int .u8 a.dur:=by rw[hfr1];kernel_rfl
   have f44:fr1.eval (.tmp 44)=.slice Ap 2 cp:=by rw[hfr1];kernel_rfl
   have f46:fr1.eval (.tmp 46)=.int .u64 a.file:=by rw[hfr1];kernel_rfl
   have f48:fr1.eval (.tmp 48)=.int .u64 a.siz:=by rw[hfr1];kernel_rfl
   have f51:fr1.eval (.tmp 51)=.slice Aq 2 cq:=by rw[hfr1];kernel_rfl
   refine B3a [(4,43),(10,49),(11,50),(13,52),(14,53),(15,54),(16,4),(17,5)] (λi=>match i with
    | 4=>rowP 2 [a.lev,a.dur]
    | 10=>C4b 2 25 [.int .u64 a.file,.int .u64 a.siz]
    | 11=>rowP 16 fs
    | 13=>rowP 2 (List.replicate 2 0)
    | 14=>J8a 5 ([a.lev,a.dur]++(m2++(fs++(k2++((List.replicate 2 0))))))
    | 15=>B0b 5 w.heap.size ([a.lev,a.dur]++(m2++(fs++(k2++((List.replicate 2 0))))))
    | 16=>B0b 5 w.heap.size ([a.lev,a.dur]++(m2++(fs++(k2++((List.replicate 2 0))))))
    | 17=>isP (.int .i64 0)
    | _=>λ_ _=>True) fr1 (by rw[hfr1];kernel_rfl) (Nat.le_of_ble_eq_true (by kernel_rfl)) S0.out ?_ ?_ ?_
   ·intro i v w1 w2 hb h;split at h;all_goals first | exact S4a hb h | exact T4a hb h | exact C3a hb h | exact U4a hb h | exact h
   ·refine List.forall_mem_cons.2 ⟨⟨_,rfl,λb w1 s hev hd K hK=>?_⟩,List.forall_mem_cons.2 ⟨⟨_,rfl,λb w1 s hev hd K hK=>?_⟩,List.forall_mem_cons.2 ⟨⟨_,rfl,λb w1 s hev hd K hK=>?_⟩,List.forall_mem_cons.2 ⟨⟨_,rfl,λb w1 s hev hd K hK=>?_⟩,List.forall_mem_cons.2 ⟨⟨_,rfl,λb w1 s hev hd K hK=>?_⟩,List.forall_mem_cons.2 ⟨⟨_,rfl,λb w1 s hev hd K hK=>?_⟩,List.forall_mem_cons.2 ⟨⟨_,rfl,λb w1 s hev hd K hK=>?_⟩,List.forall_mem_cons.2 ⟨⟨_,rfl,λb w1 s hev hd K hK=>?_⟩,λ_ h=>absurd h List.not_mem_nil⟩⟩⟩⟩⟩⟩⟩⟩
    ·have e40:=(hev 40 (by decide)).trans f40;have e42:=(hev 42 (by decide)).trans f42;refine S0a rfl _ _ 2 _ rfl Tryz.underlying31 ([.int .u8 a.lev,.int .u8 a.dur]:List Value) (by simp only[List.map_toArray,List.map_cons,List.map_nil,e40,e42];kernel_rfl) ?_;intro g2 w2 _ _ hY hL;exact hK _ _ (hst.out _ _ s hL.out) hL.out ⟨_,_,rfl,Holds.of_lit (xs:=[a.lev,a.dur]) hY.out HLD.out⟩
    ·have e46:=(hev 46 (by decide)).trans f46;have e48:=(hev 48 (by decide)).trans f48;refine S0a rfl _ _ 2 _ rfl Tryz.underlying192 ([.int .u64 a.file,.int .u64 a.siz]:List Value) (by simp only[List.map_toArray,List.map_cons,List.map_nil,e46,e48];kernel_rfl) ?_;intro g2 w2 _ _ hY hL;exact hK _ _ (hst.out _ _ s hL.out) hL.out ⟨_,rfl,hY.out⟩
    ·obtain⟨g4,e4,hB⟩:=hd (10,49) (by simp) (by kernel_rfl);simp only[Act.eval,Array.getD_eq_getD_getElem?] at e4;go_simp;refine(CF16.out _ _ hB).mono ?_;rintro e w2 ⟨A,c,rfl,⟨_,hY⟩,hL⟩;exact hK _ _ (hst.out _ _ s hL) hL ⟨_,_,rfl,hY⟩
    ·refine b3a rfl _ _ rfl 2 rfl rfl (by omega) ?_;intro w2 hR hL;exact hK _ _ (hst.out _ _ s hL.out) hL.out ⟨_,_,rfl,Y1a.holds (base:=0) (.inr ⟨_,rfl,Nat.zero_le _,hR.out⟩) (by rfl:(List.replicate 2 (0:Int)).length=2) (Bytes.zeros 2) (by omega)⟩
    ·obtain⟨A0,c0,e43,h0⟩:=hd (4,43) (by simp) (by kernel_rfl);have e44:=(hev 44 (by decide)).trans f44;obtain⟨A2,c2,e50,h2⟩:=hd (11,50) (by simp) (by kernel_rfl);have e51:=(hev 51 (by decide)).trans f51;obtain⟨A4,c4,e52,h4⟩:=hd (13,52) (by simp) (by kernel_rfl);refine S0a rfl _ _ 5 _ rfl Tryz.underlying93 ([.slice A0 2 c0,.slice Ap 2 cp,.slice A2 16 c2,.slice Aq 2 cq,.slice A4 2 c4]:List Value) (by simp only[List.map_toArray,List.map_cons,List.map_nil,e43,e44,e50,e51,e52];kernel_rfl) ?_;intro g2 w2 _ _ hY hL;exact hK _ _ (hst.out _ _ s hL.out) hL.out ⟨_,[(A0,2,c0,[a.lev,a.dur]),(Ap,2,cp,m2),(A2,16,c2,fs),(Aq,2,cq,k2),(A4,2,c4,(List.replicate 2 0))],rfl,S3a.of_blk _ hY.out (List.forall_mem_cons.2 ⟨h0.over hL.out,List.forall_mem_cons.2 ⟨s.2.2.1.over hL.out,List.forall_mem_cons.2 ⟨h2.over hL.out,List.forall_mem_cons.2 ⟨s.2.2.2.over hL.out,List.forall_mem_cons.2 ⟨h4.over hL.out,λ_ h=>absurd h List.not_mem_nil⟩⟩⟩⟩⟩),by show 0+2+2+16+2+2<=_;omega,by simp[R6a,T3a,List.append_assoc]⟩
    ·obtain⟨g5,l5,e5,hp5,hn5,hc5⟩:=hd (14,53) (by simp) (by kernel_rfl);simp only[Act.eval,Array.getD_eq_getD_getElem?] at e5;go_simp;refine(CC.out _ g5 5 _ _ _ _ hp5 (by omega) (by omega)).mono ?_;rintro e w2 ⟨v,rfl,hY,hL⟩;exact hK _ _ (hst.out _ _ s hL) hL (by rw[<-hc5];exact hY.mono s.2.1.size)
    ·have h15:(B0b 5 w.heap.size ([a.lev,a.dur]++(m2++(fs++(k2++((List.replicate 2 0))))))) (b.eval (.tmp 54)) w1:=hd (15,54) (by simp) (by kernel_rfl);simp only[Act.eval,Array.getD_eq_getD_getElem?] at h15;go_simp;exact hK _ _ s (Below.refl _ _) h15
    ·go_simp;exact hK _ _ s (Below.refl _ _) rfl
   ·intro vs w9 s hv;have OUT0:a1a .u8 5 w9 w.heap.size (vs 4) ([a.lev,a.dur]++(m2++(fs++(k2++((List.replicate 2 0)))))):=hv (16,4) (by simp);obtain⟨v,hv16⟩:∃x,x=vs 4:=⟨_,rfl⟩;rw[<-hv16] at OUT0;have OUT:=hI OUT0;have hv17:vs 5=.int .i64 0:=hv (17,5) (by simp);have S9:=hI s.1;have b9:=hI s.2.1;have mM_9:=hI s.2.2.1;have kK_9:=hI s.2.2.2;subst hfr1;simp only[List.foldl_cons,List.foldl_nil,<-hv16,hv17];obtain⟨y43,hy0⟩:∃x,x=vs 43:=⟨_,rfl⟩;rw[<-hy0];clear hy0;obtain⟨y49,hy0⟩:∃x,x=vs 49:=⟨_,rfl⟩;rw[<-hy0];clear hy0;obtain⟨y50,hy0⟩:∃x,x=vs 50:=⟨_,rfl⟩;rw[<-hy0];clear hy0;obtain⟨y52,hy0⟩:∃x,x=vs 52:=⟨_,rfl⟩;rw[<-hy0];clear hy0;obtain⟨y53,hy0⟩:∃x,x=vs 53:=⟨_,rfl⟩;rw[<-hy0];clear hy0;obtain⟨y54,hy0⟩:∃x,x=vs 54:=⟨_,rfl⟩;rw[<-hy0];clear hy0;clear hv s vs hst S0 hv16 OUT0 hv17 f40 f42 f44 f46 f48 f51;go_simp;have HO6:=hI (OUT.out);go_wp2;go_ret2;refine HQ.out _ _ _ rfl ?_ b9.out;have h9:=HO6.out;simpa[R6a,T3a,List.append_assoc] using h9
 ·subst h6;have HQ:=HQ0;have hb0:k3a 6 a=List.replicate 4 0:=rfl;rw[hb0] at HQ;clear HQ0 hb0;go_enter Tryz.func86,Tryz.ntmps86;go_wp2_with(first
   | ((with_reducible refine sN 3 ?_);refine a0a rfl _ (.tmp 1) rfl cs rfl ?_;intro g w1 hg1 hg2 K1 L1)
   | ((with_reducible refine sN 9 ?_);refine d0a rfl _ (.tmp 3) rfl g rfl _ cs K1 20 _ Tryz.underlying39 rfl v0a HL ?_)
   | fail)
  refine(CN.out w1 L1.out).mono ?_;rintro e w2 ⟨rfl,L2⟩;have K2:=hI (K1.out.over L2);have M2':=hI (step L1.out L2);obtain⟨c15,c12,c14⟩:=FL.out w2 g K2.out;clear L2 K1 L1 CN;go_wp2_with(at_make;refine B1a _ rfl _ _ rfl _ _ 4 rfl rfl rfl rfl (by omega) ?_;intro w6 R6 L6);go_ret2;exact HQ.out _ _ _ rfl (x5a R6.out M2'.out.size (by omega)) (step M2'.out L6)
 ·subst h7;have HQ:=HQ0;have hb0:k3a 7 a=List.replicate 4 0:=rfl;rw[hb0] at HQ;clear HQ0 hb0;go_enter Tryz.func86,Tryz.ntmps86;go_wp2_with(first
   | ((with_reducible refine sN 3 ?_);refine a0a rfl _ (.tmp 1) rfl cs rfl ?_;intro g w1 hg1 hg2 K1 L1)
   | ((with_reducible refine sN 9 ?_);refine d0a rfl _ (.tmp 3) rfl g rfl _ cs K1 20 _ Tryz.underlying39 rfl v0a HL ?_)
   | fail)
  refine(CN.out w1 L1.out).mono ?_;rintro e w2 ⟨rfl,L2⟩;have K2:=hI (K1.out.over L2);have M2':=hI (step L1.out L2);obtain⟨c15,c12,c14⟩:=FL.out w2 g K2.out;clear L2 K1 L1 CN;go_wp2_with(at_make;refine B1a _ rfl _ _ rfl _ _ 4 rfl rfl rfl rfl (by omega) ?_;intro w6 R6 L6);go_ret2;exact HQ.out _ _ _ rfl (x5a R6.out M2'.out.size (by omega)) (step M2'.out L6)
 ·subst h8;have HQ:=HQ0;have hb0:k3a 8 a=le (X2:Int) 4++a.data:=by unfold k3a;rw[if_neg (by decide),if_pos rfl,HX.out.len]
  rw[hb0] at HQ;have CN4:Hid (∀(w:World) (gl:Nat),Blk w gl 25 [.int .u64 (X2:Int)]->Calls Tryz.prog 121 #[.int .i64 4,.slice (some ⟨gl,0,none⟩) 1 1] w λe w'=>∃A' c',e=.returned (.slice A' 4 c')/\(a1a .u8 5 w' w.heap.size (.slice A' 4 c') (le (X2:Int) 4)/\Holds w' w'.heap.size A' 4 c' (le (X2:Int) 4))/\Below w.heap.size w w'):=λw gl hB=>by
   have h:=W3a w gl 1 4 ([(X2:Int)]:List Int) hB rfl (by decide) (by decide) (λz hz=>by rw[show(256:Int)^4=4294967296 from by decide];simp only[List.mem_cons,List.not_mem_nil,or_false] at hz;rw[hz];omega)
   have e1:g2a 4 ([(X2:Int)]:List Int)=le (X2:Int) 4:=by simp[g2a]
   rw[e1] at h;have e2:(le (X2:Int) 4).length=4:=by simp[m0a]
   rw[e2] at h;exact h
  obtain⟨n4,hn4⟩:∃x,x=le (X2:Int) 4:=⟨_,rfl⟩;rw[<-hn4] at CN4 HQ;clear hn4 HQ0 hb0;go_enter Tryz.func86,Tryz.ntmps86;go_wp2_with(first
   | ((with_reducible refine sN 3 ?_);refine a0a rfl _ (.tmp 1) rfl cs rfl ?_;intro g w1 hg1 hg2 K1 L1)
   | ((with_reducible refine sN 9 ?_);refine d0a rfl _ (.tmp 3) rfl g rfl _ cs K1 20 _ Tryz.underlying39 rfl v0a HL ?_)
   | fail)
  refine(CN.out w1 L1.out).mono ?_;rintro e w2 ⟨rfl,L2⟩;have K2:=hI (K1.out.over L2);have M2':=hI (step L1.out L2);obtain⟨c15,c12,c14⟩:=FL.out w2 g K2.out;clear L2 K1 L1 CN;have HXD:=hI (HX.out.over M2'.out);go_upto_region 10 with fail
  have hst:Hid (∀w1 w2:World,(Blk w1 g 39 cs/\Below w.heap.size w w1/\Holds w1 w1.heap.size X1 X2 X3 a.data)->Below w1.heap.size w1 w2->(Blk w2 g 39 cs/\Below w.heap.size w w2/\Holds w2 w2.heap.size X1 X2 X3 a.data)):=λw1 w2 s hb=>⟨s.1.over hb,step s.2.1 hb,s.2.2.over hb⟩
  refine wp_region_held (S:=λw'=>Blk w' g 39 cs/\Below w.heap.size w w'/\Holds w' w'.heap.size X1 X2 X3 a.data) (by kernel_rfl) ?_;change wpAnyH _ _ _ _ _ _ _ _ w2.drew
  have S0:Hid (Blk w2.drew g 39 cs/\Below w.heap.size w w2.drew/\Holds w2.drew w2.drew.heap.size X1 X2 X3 a.data):=⟨K2.out.drew,M2'.out.drew,HXD.out.drew⟩;refine tK 0 _ rfl (g0a (by kernel_rfl) _ (.tmp 3) 8 rfl (.pointer (some ⟨g,0,none⟩)) (.pointer (some ⟨g,15,none⟩)) (by kernel_rfl) (J4a g)) S0.out ?_;refine tK 1 _ rfl (i0a (by kernel_rfl) _ (.tmp 57) rfl g 15 (by kernel_rfl) (.slice X1 X2 X3) (λw h=>(FL.out w g h.1).1) _ Tryz.underlying31 rfl) S0.out ?_;refine tK 2 ((.int .i64 (X2:Int))) rfl (.inl ⟨by kernel_rfl,λw _=>by go_simp⟩) S0.out ?_;refine tK 3 ((.int .u64 (X2:Int))) rfl (.inl ⟨by kernel_rfl,λw _=>by go_simp⟩) S0.out ?_;refine tK 6 _ rfl (g0a (by kernel_rfl) _ (.tmp 3) 8 rfl (.pointer (some ⟨g,0,none⟩)) (.pointer (some ⟨g,15,none⟩)) (by kernel_rfl) (J4a g)) S0.out ?_;refine tK 7 _ rfl (i0a (by kernel_rfl) _ (.tmp 63) rfl g 15 (by kernel_rfl) (.slice X1 X2 X3) (λw h=>(FL.out w g h.1).1) _ Tryz.underlying31 rfl) S0.out ?_;refine y0a λfr1 hfr1=>?_
  have f60:fr1.eval (.tmp 60)=.int .u64 (X2:Int):=by rw[hfr1];kernel_rfl
  have f64:fr1.eval (.tmp 64)=.slice X1 X2 X3:=by rw[hfr1];kernel_rfl
  refine B3a [(4,61),(5,62),(8,65),(9,66),(10,4),(11,5)] (λi=>match i with
   | 4=>C4b 1 25 [.int .u64 (X2:Int)]
   | 5=>rowP 4 n4
   | 8=>J8a 2 (n4++a.data)
   | 9=>B0b 5 w.heap.size (n4++a.data)
   | 10=>B0b 5 w.heap.size (n4++a.data)
   | 11=>isP (.int .i64 0)
   | _=>λ_ _=>True) fr1 (by rw[hfr1];kernel_rfl) (Nat.le_of_ble_eq_true (by kernel_rfl)) S0.out ?_ ?_ ?_
  ·intro i v w1 w2 hb h;split at h;all_goals first | exact S4a hb h | exact T4a hb h | exact C3a hb h | exact U4a hb h | exact h
  ·refine List.forall_mem_cons.2 ⟨⟨_,rfl,λb w1 s hev hd K hK=>?_⟩,List.forall_mem_cons.2 ⟨⟨_,rfl,λb w1 s hev hd K hK=>?_⟩,List.forall_mem_cons.2 ⟨⟨_,rfl,λb w1 s hev hd K hK=>?_⟩,List.forall_mem_cons.2 ⟨⟨_,rfl,λb w1 s hev hd K hK=>?_⟩,List.forall_mem_cons.2 ⟨⟨_,rfl,λb w1 s hev hd K hK=>?_⟩,List.forall_mem_cons.2 ⟨⟨_,rfl,λb w1 s hev hd K hK=>?_⟩,λ_ h=>absurd h List.not_mem_nil⟩⟩⟩⟩⟩⟩
   ·have e60:=(hev 60 (by decide)).trans f60;refine S0a rfl _ _ 1 _ rfl Tryz.underlying192 ([.int .u64 (X2:Int)]:List Value) (by simp only[List.map_toArray,List.map_cons,List.map_nil,e60];kernel_rfl) ?_;intro g2 w2 _ _ hY hL;exact hK _ _ (hst.out _ _ s hL.out) hL.out ⟨_,rfl,hY.out⟩
   ·obtain⟨g4,e4,hB⟩:=hd (4,61) (by simp) (by kernel_rfl);simp only[Act.eval,Array.getD_eq_getD_getElem?] at e4;go_simp;refine(CN4.out _ _ hB).mono ?_;rintro e w2 ⟨A,c,rfl,⟨_,hY⟩,hL⟩;exact hK _ _ (hst.out _ _ s hL) hL ⟨_,_,rfl,hY⟩
   ·obtain⟨A0,c0,e62,h0⟩:=hd (5,62) (by simp) (by kernel_rfl);have e64:=(hev 64 (by decide)).trans f64;refine S0a rfl _ _ 2 _ rfl Tryz.underlying93 ([.slice A0 4 c0,.slice X1 X2 X3]:List Value) (by simp only[List.map_toArray,List.map_cons,List.map_nil,e62,e64];kernel_rfl) ?_;intro g2 w2 _ _ hY hL;exact hK _ _ (hst.out _ _ s hL.out) hL.out ⟨_,[(A0,4,c0,n4),(X1,X2,X3,a.data)],rfl,S3a.of_blk _ hY.out (List.forall_mem_cons.2 ⟨h0.over hL.out,List.forall_mem_cons.2 ⟨s.2.2.over hL.out,λ_ h=>absurd h List.not_mem_nil⟩⟩),by show 0+4+X2<=_;omega,by simp[R6a,T3a,List.append_assoc]⟩
   ·obtain⟨g5,l5,e5,hp5,hn5,hc5⟩:=hd (8,65) (by simp) (by kernel_rfl);simp only[Act.eval,Array.getD_eq_getD_getElem?] at e5;go_simp;refine(CC.out _ g5 2 _ _ _ _ hp5 (by omega) (by omega)).mono ?_;rintro e w2 ⟨v,rfl,hY,hL⟩;exact hK _ _ (hst.out _ _ s hL) hL (by rw[<-hc5];exact hY.mono s.2.1.size)
   ·have h15:(B0b 5 w.heap.size (n4++a.data)) (b.eval (.tmp 66)) w1:=hd (9,66) (by simp) (by kernel_rfl);simp only[Act.eval,Array.getD_eq_getD_getElem?] at h15;go_simp;exact hK _ _ s (Below.refl _ _) h15
   ·go_simp;exact hK _ _ s (Below.refl _ _) rfl
  ·intro vs w9 s hv;have OUT0:a1a .u8 5 w9 w.heap.size (vs 4) (n4++a.data):=hv (10,4) (by simp);obtain⟨v,hv10⟩:∃x,x=vs 4:=⟨_,rfl⟩;rw[<-hv10] at OUT0;have OUT:=hI OUT0;have hv11:vs 5=.int .i64 0:=hv (11,5) (by simp);have S9:=hI s.1;have b9:=hI s.2.1;have HD_9:=hI s.2.2;subst hfr1;simp only[List.foldl_cons,List.foldl_nil,<-hv10,hv11];obtain⟨y61,hy0⟩:∃x,x=vs 61:=⟨_,rfl⟩;rw[<-hy0];clear hy0;obtain⟨y62,hy0⟩:∃x,x=vs 62:=⟨_,rfl⟩;rw[<-hy0];clear hy0;obtain⟨y65,hy0⟩:∃x,x=vs 65:=⟨_,rfl⟩;rw[<-hy0];clear hy0;obtain⟨y66,hy0⟩:∃x,x=vs 66:=⟨_,rfl⟩;rw[<-hy0];clear hy0;clear hv s vs hst S0 hv10 OUT0 hv11 f60 f64;go_simp;have HO6:=hI (OUT.out);go_wp2;go_ret2;refine HQ.out _ _ _ rfl ?_ b9.out;have h9:=HO6.out;simpa[R6a,T3a,List.append_assoc] using h9
 ·subst h9;have HQ:=HQ0;have hb0:k3a 9 a=le a.n 4:=rfl;rw[hb0] at HQ;have CN4:Hid (∀(w:World) (gl:Nat),Blk w gl 25 [.int .u64 a.n]->Calls Tryz.prog 121 #[.int .i64 4,.slice (some ⟨gl,0,none⟩) 1 1] w λe w'=>∃A' c',e=.returned (.slice A' 4 c')/\(a1a .u8 5 w' w.heap.size (.slice A' 4 c') (le a.n 4)/\Holds w' w'.heap.size A' 4 c' (le a.n 4))/\Below w.heap.size w w'):=λw gl hB=>by
   have h:=W3a w gl 1 4 ([a.n]:List Int) hB rfl (by decide) (by decide) (λz hz=>by rw[show(256:Int)^4=4294967296 from by decide];simp only[List.mem_cons,List.not_mem_nil,or_false] at hz;rw[hz];omega)
   have e1:g2a 4 ([a.n]:List Int)=le a.n 4:=by simp[g2a]
   rw[e1] at h;have e2:(le a.n 4).length=4:=by simp[m0a]
   rw[e2] at h;exact h
  obtain⟨n4,hn4⟩:∃x,x=le a.n 4:=⟨_,rfl⟩;rw[<-hn4] at CN4 HQ;clear hn4 HQ0 hb0;go_enter Tryz.func86,Tryz.ntmps86;go_wp2_with(first
   | ((with_reducible refine sN 3 ?_);refine a0a rfl _ (.tmp 1) rfl cs rfl ?_;intro g w1 hg1 hg2 K1 L1)
   | ((with_reducible refine sN 9 ?_);refine d0a rfl _ (.tmp 3) rfl g rfl _ cs K1 20 _ Tryz.underlying39 rfl v0a HL ?_)
   | fail)
  refine(CN.out w1 L1.out).mono ?_;rintro e w2 ⟨rfl,L2⟩;have K2:=hI (K1.out.over L2);have M2':=hI (step L1.out L2);obtain⟨c15,c12,c14⟩:=FL.out w2 g K2.out;clear L2 K1 L1 CN;obtain⟨e1,e10,e11,e12,e13,e14,e16⟩:=FC.out w2 g K2.out;go_wp2_with(first
   | ((with_reducible refine sN 72 ?_);refine K0a rfl _ _ 1 _ rfl Tryz.underlying192 ([.int .u64 a.n]:List Value) (by kernel_rfl) ?_;intro g3 w3 hg5 hg6 Y3 L3)
   | fail)
  refine(CN4.out w3 g3 Y3.out).mono ?_;rintro e w4 ⟨Af,cf,rfl,⟨hOf,hHf⟩,L4⟩;have OF:=hI (a1a.mono hOf (Nat.le_trans M2'.out.size L3.out.size));have M4:=hI (step (step M2'.out L3.out) L4);clear hOf hHf L4 L3 Y3;go_wp2;go_ret2;exact HQ.out _ _ _ rfl OF.out M4.out
 ·subst h10;have HQ:=HQ0;have hb0:k3a 10 a=List.replicate 4 0:=rfl;rw[hb0] at HQ;clear HQ0 hb0;go_enter Tryz.func86,Tryz.ntmps86;go_wp2_with(first
   | ((with_reducible refine sN 3 ?_);refine a0a rfl _ (.tmp 1) rfl cs rfl ?_;intro g w1 hg1 hg2 K1 L1)
   | ((with_reducible refine sN 9 ?_);refine d0a rfl _ (.tmp 3) rfl g rfl _ cs K1 20 _ Tryz.underlying39 rfl v0a HL ?_)
   | fail)
  refine(CN.out w1 L1.out).mono ?_;rintro e w2 ⟨rfl,L2⟩;have K2:=hI (K1.out.over L2);have M2':=hI (step L1.out L2);obtain⟨c15,c12,c14⟩:=FL.out w2 g K2.out;clear L2 K1 L1 CN;go_wp2_with(at_make;refine B1a _ rfl _ _ rfl _ _ 4 rfl rfl rfl rfl (by omega) ?_;intro w6 R6 L6);go_ret2;exact HQ.out _ _ _ rfl (x5a R6.out M2'.out.size (by omega)) (step M2'.out L6)
def WI(w:World)(g base:Nat)(xs:List Int)(e:Int):Prop:=base<=g/\∃v,Blk w g 161 [v,.int .i64 e]/\a1a .u8 5 w base v xs
structure c1a (g base:Nat) (w w':World):Prop where
 below:Below base w w'
 rest:∀k cs T,T≠5->k≠g->w.heap[k]? = some (.cells cs T (0,0))->w'.heap[k]? = some (.cells cs T (0,0))
def A6a(w:World)(g base:Nat)(xs:List Int)(er:Int)(e:Ending)(w':World):Prop:=e=.returned (.tuple #[])/\WI w' g base xs er/\c1a g base w w'
def a6a(base:Nat)(w:World):Prop:=∀w',Below base w w'->f7a w'
theorem a6a.of{w:World}(h:f7a w):a6a w.heap.size w:=λw' hb=>h.below hb
theorem a6a.next{base:Nat}{w w':World}(h:a6a base w)(hb:Below base w w'):a6a base w':=λw2 h2=>h w2 (hb.trans h2)
theorem a6a.tabs{base:Nat}{w:World}(h:a6a base w):f7a w:=h w (Below.refl _ _)
section
variable {w w' w2:World} {g base:Nat} {xs:List Int} {er:Int} {v:Value} {cs:List Value} {T:TypeId}
theorem c1a.refl(g base:Nat)(w:World):c1a g base w w:=⟨Below.refl _ _,λ_ _ _ _ _ h=>h⟩
theorem c1a.trans(a:c1a g base w w')(b:c1a g base w' w2):c1a g base w w2:=⟨a.below.trans b.below,λk cs T h1 h2 h3=>b.rest k cs T h1 h2 (a.rest k cs T h1 h2 h3)⟩
theorem c1a.of_below(hb:Below w.heap.size w w')(h:base<=w.heap.size):c1a g base w w':=⟨hb.mono h,λk cs T _ _ h3=>(hb.block k (Array.getElem?_eq_some_iff.1 h3).1).trans h3⟩
theorem c1a.of_only(hO:p3a g w w')(h:base<=g):c1a g base w w':=⟨hO.below h,λk cs T _ h2 h3=>(hO.rest k h2).trans h3⟩
theorem c1a.of_grown(hg:w.grownBy w' v.ownBlock)(ho:a1a .u8 5 w base v xs)(h:base<=w.heap.size):c1a g base w w':=by refine⟨(Below.refl _ _).grown hg h (λk hk=>(World.ownsRow.lt ho.own k hk).1),λk cs T h1 h2 h3=>?_⟩;rw[hg.block k (Array.getElem?_eq_some_iff.1 h3).1 (λe=>?_),h3];obtain⟨_,cs',hc⟩:=ho.own.block e.symm;rw[hc] at h3;cases h3;exact h1 rfl
theorem c1a.blk{k:Nat}(a:c1a g base w w')(h:Blk w k T cs)(h1:T≠5)(h2:k≠g):Blk w' k T cs:=a.rest k _ T h1 h2 h
theorem WI.lt(h:WI w g base xs er):g<w.heap.size:=by obtain⟨_,v,hB,_⟩:=h;exact hB.lt
theorem WI.size(h:WI w g base xs er):base<=w.heap.size:=by have:=h.lt;have:=h.1;omega
theorem WI.below(h:WI w g base xs er)(hb:Below w.heap.size w w'):WI w' g base xs er:=by obtain⟨h1,v,hB,hO⟩:=h;exact⟨h1,v,hB.over hb,hO.below hb⟩
theorem c1a.onlyNew{h:Nat}(a:c1a g base w w')(hO:p3a h w' w2)(h1:w.heap.size<=h)(h2:base<=h):c1a g base w w2:=⟨a.below.trans (hO.below h2),λk cs T q1 q2 q3=>(hO.rest k (λe=>by have:=(Array.getElem?_eq_some_iff.1 q3).1;omega)).trans (a.rest k cs T q1 q2 q3)⟩
theorem T9a{A:Option Addr}{n c:Nat}(h:a1a .u8 5 w base (.slice A n c) xs)(hx:Bytes xs)(hn:xs.length<=281474976710656):Holds w w.heap.size A n c xs:=by obtain⟨A',c',e,h1⟩:=a1a.holds8 h hx hn;cases e;exact h1
theorem WI.onlyT{k:Nat}(h:WI w g base xs er)(hB:Blk w k T cs)(hT:T≠5)(hO:p3a k w w')(hk:k≠g):WI w' g base xs er:=by obtain⟨h1,v,hBv,hOv⟩:=h;refine⟨h1,v,hBv.only hO (λe=>hk e.symm),hOv.keep λi c hi hc=>hO.rest i (λe=>?_)⟩;subst e;rw[show w.heap[i]? = _ from hB] at hc;cases hc;exact hT rfl
theorem X7a(h:a1a .u8 5 w base v xs)(hB:Blk w g 161 cs)(hO:p3a g w w'):a1a .u8 5 w' base v xs:=
 h.keep λi c hi hc=>hO.rest i (λe=>by subst e;rw[show w.heap[i]? = _ from hB] at hc;cases hc)
theorem Y7a(hB:Blk w g 161 cs)(h:a1a .u8 5 w base v xs)(hg:w.grownBy w' v.ownBlock):Blk w' g 161 cs:=by
 show w'.heap[g]? = _
 rw[hg.block g hB.lt (λe=>?_)]
 ·exact hB
 ·obtain⟨_,c,hc⟩:=h.own.block e.symm;rw[show w.heap[g]? = _ from hB] at hc;cases hc
end
theorem m8a{w:World}{base:Nat}{v:Value}{xs ys:List Int}{B m c:Nat}{ad:Addr}(hown:a1a .u8 5 w base v xs)(hr:Holds w B (some ad) m c ys)(hlen:xs.length+ys.length<=140737488355328)(hbase:base<=w.heap.size)(ty:TypeId) :
  ∃v' w',(Builtin.append_ #[31,31] ty #[v,.slice (some ad) m c]).run Tryz.prog w=.ok v' w'/\a1a .u8 5 w' base v' (xs++ys)/\w.grownBy w' v.ownBlock:=by
 obtain⟨i0,hi0,hz0,hz1,hz2⟩:=info_parts v3a;have hl:=hr.len;have hOK:=hown.own;have hnews:∀j y,(ys.map (Value.int .u8))[j]? = some y->w.cell? (ad.add j)=some y:=by
  intro j u hj;have hjl:j<ys.length:=by
   by_cases hj':j<ys.length
   ·exact hj'
   ·rw[List.getElem?_eq_none (by simp;omega)] at hj;cases hj
  obtain⟨b,off,he,_,hcl⟩:=hr.cells (by omega);obtain rfl:=Option.some.inj he;have e:(⟨b,off,none⟩:Addr).add j=⟨b,off+j,none⟩:=by
   by_cases hj0:j=0
   ·subst hj0;simp[Addr.add]
   ·simp[Addr.add,hj0]
  rw[e,hcl j (by omega),<-hj];simp[hjl]
 have h1:∀y∈ys.map (Value.int .u8),y.oneCell'=true:=by intro v hv;obtain⟨x,_,rfl⟩:=List.mem_map.1 hv;rfl
 have hmax:maxLen=9223372036854775807:=rfl;have key:∀ty,∃v' w',(Builtin.append_ #[31,31] ty #[v,.slice (some ad) m c]).run Tryz.prog w=.ok v' w'/\a1a .u8 5 w' base v' (xs++ys)/\w.grownBy w' v.ownBlock:=by
  intro ty;rcases hown with⟨rfl,rfl⟩ | ⟨g,z,rfl,hb,hz,hg⟩
  ·by_cases hm0:m=0
   ·subst hm0;have:ys=[]:=List.eq_nil_of_length_eq_zero hl;subst this;obtain⟨v',w',hrun,_,hgr,hnil⟩:=run_append_own (P:=Tryz.prog) w base 31 ty 5 i0 (.int .u8 0) 1 1 Tryz.underlying31 hi0 hz0 hz1 hz2 rfl (by omega) (.slice none 0 0) 0 [] (World.ownsRow_nil w base _ 1) ad 0 c [] rfl (λj u hj=>by cases hj) (λu hu=>by cases hu) (by omega) (by omega) hbase;obtain rfl:=hnil.2 ⟨rfl,rfl⟩;exact⟨_,_,hrun,a1a.nil _ _ _ _,hgr⟩
   ·have hrun:=run_append_nil (P:=Tryz.prog) w 31 ty 5 i0 (.int .u8 0) Tryz.underlying31 hi0 hz0 ad m c (ys.map (Value.int .u8)) (by simp[hl,hz1]) hnews (by omega) (by omega) (by rw[hz2];simp at hlen;omega);exact⟨_,_,hrun,by simpa using f5a .u8 5 w base ys 0 m hl hbase (by omega),⟨rfl,rfl,rfl,by simp,λj hj _=>Below.heap_alloc w.drew _ j hj⟩⟩
  ·by_cases hroom:xs.length+m<=xs.length+z
   ·have hrun:=run_append_room (P:=Tryz.prog) w 31 ty 5 i0 Tryz.underlying31 hi0 g xs.length (xs.length+z) _ hg ad m c (ys.map (Value.int .u8)) (by simp[hl,hz1]) hnews h1 hroom (by simp[hz1];omega);refine⟨_,_,hrun,.inr ⟨g,z-m,by simp[hl];omega,hb,by simp;omega,?_⟩,⟨rfl,rfl,rfl,by simp,λj _ hj=>setRow_other w g j _ (λe=>hj (by simp[Value.ownBlock,e]))⟩⟩;rw[setRow_heap w g _ _ 5 _ hg]
    congr 2
    have e1:((xs++List.replicate z 0).map (Value.int .u8)).take (xs.length*i0.size)=xs.map (Value.int .u8):=by rw[hz1,Nat.mul_one,List.map_append,List.take_left' (by simp)]
    have e2:((xs++List.replicate z 0).map (Value.int .u8)).drop (xs.length*i0.size+(ys.map (Value.int .u8)).length)=(List.replicate (z-m) 0).map (Value.int .u8):=by rw[hz1,Nat.mul_one,List.length_map,hl,<-List.drop_drop,List.map_append,List.drop_left' (by simp),<-List.map_drop,List.drop_replicate]
    rw[e1,e2];simp
   ·have q0a:∀j y,(xs.map (Value.int .u8))[j]? = some y->w.cell? ((⟨g,0,none⟩:Addr).add j)=some y:=hOK.cells (g:=g) rfl;have hrun:=run_append_grow (P:=Tryz.prog) w 31 ty 5 i0 (.int .u8 0) Tryz.underlying31 hi0 hz0 ⟨g,0,none⟩ xs.length (xs.length+z) (xs.map (Value.int .u8)) (by simp[hz1]) q0a ad m c (ys.map (Value.int .u8)) (by simp[hl,hz1]) hnews (by omega) (by omega) (growslice_fits (by omega) (by rw[hz2];omega));refine⟨_,_,hrun,?_,⟨rfl,rfl,rfl,by simp,λj hj _=>Below.heap_alloc w.drew _ j hj⟩⟩;have:=f5a .u8 5 w base (xs++ys) (xs.length+z) (xs.length+m) (by simp[hl]) hbase (by omega);simpa using this
 exact key ty
theorem n3a{w:World}{ops:Array Oper}{rest:List Oper}{o:Oper}{a:Act}{Q:Exit->Act->World->Prop}(hgd:o.guard=none)(s x:Operand)
(ho:o.op=.call { callee:=.builtin .append,args:=#[s,x],argTypes:=#[31,31] })
(base:Nat)(v:Value)(xs:List Int)(hs:a.eval s=v)(hown:a1a .u8 5 w base v xs)(B:Nat)(A:Option Addr)(m c:Nat)(ys:List Int)(hx:a.eval x=.slice A m c)
(hr:Holds w B A m c ys)(hlen:xs.length+ys.length<=140737488355328)(hbase:base<=w.heap.size)
(h:∀v' w',Hid (a1a .u8 5 w' base v' (xs++ys))->Hid (w.grownBy w' v.ownBlock)->wpList Tryz.prog ops Q rest (a.put o.dst v') w') :
  wpList Tryz.prog ops Q (o::rest) a w:=by
 have hl:=hr.len;rcases A with _ | ad
 ·have hc:=hr.bare rfl;have hf:=hr.fit;have hm:m=0:=by omega
  subst hm;subst hc;have:ys=[]:=List.eq_nil_of_length_eq_zero hl;subst this;obtain⟨i0,hi0,hz0,hz1,hz2⟩:=info_parts v3a;refine wpList_append_own_none hgd s x 31 ho base 5 i0 1 Tryz.underlying31 hi0 v xs.length _ hs hown.own hx ?_;exact h v w (by rw[List.append_nil];exact hown) (World.grownBy.refl w _)
 ·obtain⟨v',w',hrun,h2,h3⟩:=m8a hown hr hlen hbase o.type;exact Lib.wpList_append_run w hgd s x _ _ ho _ _ hs hx v' w' hrun (h v' w' h2 h3)
theorem S6a{w:World}{ops:Array Oper}{rest:List Oper}{o:Oper}{a:Act}{Q:Exit->Act->World->Prop}(hgd:o.guard=none)(s x:Operand)
(ho:o.op=.call { callee:=.builtin .append,args:=#[s,x],argTypes:=#[31,3] })
(base n:Nat)(v:Value)(xs:List Int)(hs:a.eval s=v)(hx:a.eval x=.int .i64 (n:Int))(hown:a1a .u8 5 w base v xs)(h0:0<n)(hn:n<=65536)(hlen:xs.length<=1000000)(hbase:base<=w.heap.size)
(h:∀v' w',Hid (a1a .u8 5 w' base v' (xs++List.replicate n 0))->Hid (w.grownBy w' v.ownBlock)->wpList Tryz.prog ops Q rest (a.put o.dst v') w') :
  wpList Tryz.prog ops Q (o::rest) a w:=by
 obtain⟨v',w',hrun,h2,h3⟩:=V5a h0 hn hown hlen hbase o.type;exact Lib.wpList_append_run w hgd s x _ _ ho _ _ hs hx v' w' hrun (h v' w' h2 h3)
theorem d9a:(Tryz.prog.info? 31).map (·.size)=some 1:=by kernel_rfl
theorem C0b(w:World)(b:Bool):Calls Tryz.prog 138 #[.bool b] w λe w'=>e=.returned (.int .u64 (U0a b))/\w=w':=by
 cases b
 ·go_enter Tryz.func138,Tryz.ntmps138;go_wp2;go_ret;exact⟨rfl,rfl⟩
 ·go_enter Tryz.func138,Tryz.ntmps138;go_wp2;go_ret;exact⟨rfl,rfl⟩
theorem r1b(w:World)(g base:Nat)(xs:List Int)(er n:Int)(s:Nat)(hW:WI w g base xs er)(hs:B2a (s:Int)=true)(hn:0<=n/\n<256^s)(hl:xs.length<=1000000) :
  Calls Tryz.prog 172 #[.pointer (some ⟨g,0,none⟩),.int .u64 n,.int .i64 (s:Int)] w (A6a w g base (xs++le n s) er):=by
 have hs8:1<=s/\s<=8:=by rcases F1a hs with h | h | h | h<;>omega
 obtain⟨hs1,hs8⟩:=hs8;have hp8:(256:Int)^s<=18446744073709551616:=by
  rcases F1a hs with h | h | h | h
  ·obtain rfl:s=1:=by omega
   decide
  ·obtain rfl:s=2:=by omega
   decide
  ·obtain rfl:s=4:=by omega
   decide
  ·obtain rfl:s=8:=by omega
   decide
 have CP:Hid (Calls Tryz.prog 37 #[.int .u64 n,.int .i64 (s:Int)] w λe w'=>∃A',e=.returned (.tuple #[.slice A' s s,.int .i64 0])/\Y1a w' w.heap.size A' (le n s)/\Below w.heap.size w w'):=by
  obtain⟨h0,h1⟩:=hn;have h:=g7a w n (s:Int) ⟨h0,by omega⟩ (by omega);unfold B4a at h;have hp:V2a n (s:Int)=true:=by unfold V2a;rw[hs,Int.toNat_natCast,decide_eq_true h1];rfl
  unfold d4a v2a at h;rw[if_pos hp,if_pos hp,Int.toNat_natCast,m0a] at h;exact h
 have hsz:=hW.size;have hgb:=hW.1;have HLN:Hid ((le n s).length=s/\Bytes (le n s)):=⟨m0a _ _,F0a _ _⟩;obtain⟨_,v,hB,hO⟩:=hW;have HBw:=hI hB;have HO:=hI hO;have HQ:Hid (∀e w',(e=.returned (.tuple #[])/\(∃u,Blk w' g 161 [u,.int .i64 er]/\a1a .u8 5 w' base u (xs++le n s))/\c1a g base w w')->A6a w g base (xs++le n s) er e w'):=λe w' ⟨h1,h2,h3⟩=>⟨h1,⟨hgb,h2⟩,h3⟩
 obtain⟨ys,hys⟩:∃ys,ys=le n s:=⟨_,rfl⟩;rw[<-hys] at CP HQ HLN⊢;clear hB hO hys hn hp8 hs;go_enter Tryz.func172,Tryz.ntmps172;go_wp2_with fail;refine CP.out.mono ?_;rintro e w1 ⟨A',rfl,hF,L1⟩;have HH:=hI (hF.holds HLN.out.1 HLN.out.2 (by omega));have hyl:=HLN.out.1;have B1:=hI (HBw.out.over L1);have O1:=hI (HO.out.below L1);have K1:Hid (c1a g base w w1):=c1a.of_below L1 hsz;have hsz1:base<=w1.heap.size:=by have:=L1.size;omega
 have c0:w1.cell? ⟨g,0,none⟩=some v:=B1.out.at rfl;clear hF L1 CP HBw HO;go_wp2_with(first
  | ((with_reducible refine sN 20 ?_);refine n3a rfl (.tmp 18) (.tmp 19) rfl base v xs rfl O1.out w1.heap.size A' s s ys rfl HH.out (by omega) hsz1 ?_;intro u w2 O2 G2;have B2:=hI (Y7a B1.out O1.out G2.out);have K2:Hid (c1a g base w w2):=(K1.out.trans (c1a.of_grown G2.out O1.out hsz1));have HU:=hI (O7a O2.out))
  | ((with_reducible refine sT 22 ?_);refine h0a rfl _ (.tmp 22) (.tmp 20) rfl g 0 rfl _ [v,.int .i64 er] u rfl B2 (hI (by show 0<2;decide)) d9a HU.out ?_;intro w3 B3 P3 hg3;have O3:=hI (X7a O2.out B2.out P3.out);have K3:Hid (c1a g base w w3):=(K2.out.trans (c1a.of_only P3.out hgb)))
  | fail)
 go_end0;exact HQ.out _ _ ⟨rfl,⟨u,B3.out,O3.out⟩,K3.out⟩
theorem P3a(w:World)(g base:Nat)(xs:List Int)(er n:Int)(hW:WI w g base xs er)(hn:0<=n/\n<=65535)(hl:xs.length<=1000000) :
  Calls Tryz.prog 135 #[.pointer (some ⟨g,0,none⟩),.int .u64 n] w (A6a w g base (xs++le n 2) er):=by
 have C1:=hI (r1b w g base xs er n 2 hW (by decide) ⟨hn.1,by have:=hn.2;rw[show(256:Int)^2=65536 from by decide];omega⟩ hl);have HQ:Hid (∀e w',(e=.returned (.tuple #[])/\WI w' g base (xs++le n 2) er/\c1a g base w w')->A6a w g base (xs++le n 2) er e w'):=λ_ _ h=>h
 unfold A6a at C1;obtain⟨ys,hys⟩:∃ys,ys=xs++le n 2:=⟨_,rfl⟩;rw[<-hys] at C1 HQ⊢;clear hys hW hn;go_enter Tryz.func135,Tryz.ntmps135;go_wp2_with fail;refine C1.out.mono ?_;rintro e w1 ⟨rfl,h1,h2⟩;have H1:=hI h1;have H2:=hI h2;clear h1 h2;go_wp2;go_end0;exact HQ.out _ _ ⟨rfl,H1.out,H2.out⟩
theorem i3a(w:World)(g base:Nat)(xs:List Int)(er n:Int)(hW:WI w g base xs er)(hn:0<=n/\n<=18446744073709551615)(hl:xs.length<=1000000) :
  Calls Tryz.prog 134 #[.pointer (some ⟨g,0,none⟩),.int .u64 n] w (A6a w g base (xs++le n 8) er):=by
 have C1:=hI (r1b w g base xs er n 8 hW (by decide) ⟨hn.1,by have:=hn.2;rw[show(256:Int)^8=18446744073709551616 from by decide];omega⟩ hl);have HQ:Hid (∀e w',(e=.returned (.tuple #[])/\WI w' g base (xs++le n 8) er/\c1a g base w w')->A6a w g base (xs++le n 8) er e w'):=λ_ _ h=>h
 unfold A6a at C1;obtain⟨ys,hys⟩:∃ys,ys=xs++le n 8:=⟨_,rfl⟩;rw[<-hys] at C1 HQ⊢;clear hys hW hn;go_enter Tryz.func134,Tryz.ntmps134;go_wp2_with fail;refine C1.out.mono ?_;rintro e w1 ⟨rfl,h1,h2⟩;have H1:=hI h1;have H2:=hI h2;clear h1 h2;go_wp2;go_end0;exact HQ.out _ _ ⟨rfl,H1.out,H2.out⟩
theorem V4a(w:World)(g base:Nat)(xs:List Int)(er:Int)(n:Nat)(hW:WI w g base xs er)(h0:0<n)(hn:n<=65536)(hl:xs.length<=1000000) :
  Calls Tryz.prog 136 #[.pointer (some ⟨g,0,none⟩),.int .i64 (n:Int)] w (A6a w g base (xs++List.replicate n 0) er):=by
 have hsz:=hW.size;have hgb:=hW.1;obtain⟨_,v,hB,hO⟩:=hW;have HBw:=hI hB;have HO:=hI hO;have HQ:Hid (∀e w',(e=.returned (.tuple #[])/\(∃u,Blk w' g 161 [u,.int .i64 er]/\a1a .u8 5 w' base u (xs++List.replicate n 0))/\c1a g base w w')->A6a w g base (xs++List.replicate n 0) er e w'):=λe w' ⟨h1,h2,h3⟩=>⟨h1,⟨hgb,h2⟩,h3⟩
 have c0:w.cell? ⟨g,0,none⟩=some v:=hB.at rfl;clear hB hO;go_enter Tryz.func136,Tryz.ntmps136;go_wp2_with(first
  | ((with_reducible refine sN 10 ?_);refine S6a rfl (.tmp 8) (.tmp 9) rfl base n v xs rfl rfl HO.out h0 hn hl hsz ?_;intro u w2 O2 G2;have B2:=hI (Y7a HBw.out HO.out G2.out);have K2:Hid (c1a g base w w2):=(c1a.of_grown G2.out HO.out hsz);have HU:=hI (O7a O2.out))
  | ((with_reducible refine sT 12 ?_);refine h0a rfl _ (.tmp 12) (.tmp 10) rfl g 0 rfl _ [v,.int .i64 er] u rfl B2 (hI (by show 0<2;decide)) d9a HU.out ?_;intro w3 B3 P3 hg3;have O3:=hI (X7a O2.out B2.out P3.out);have K3:Hid (c1a g base w w3):=(K2.out.trans (c1a.of_only P3.out hgb)))
  | fail)
 go_end0;exact HQ.out _ _ ⟨rfl,⟨u,B3.out,O3.out⟩,K3.out⟩
theorem Z7a(w:World)(g base:Nat)(xs:List Int)(er:Int)(s:ByteArray)(hW:WI w g base xs er)(hs:s.size<=17592186044416)(hT:a6a base w)(hl:xs.length<=1000000) :
  Calls Tryz.prog 137 #[.pointer (some ⟨g,0,none⟩),.string s] w (A6a w g base (xs++G0a s.data.toList) (if er=0 then u0a s.data.toList else er)):=by
 have hsz:=hW.size;have hgb:=hW.1;have CP:Hid (Calls Tryz.prog 110 #[.string s] w λe w'=>∃A m c,e=.returned (.tuple #[.slice A m c,.int .i64 (u0a s.data.toList)])/\m<=1000/\a1a .u8 5 w' w.heap.size (.slice A m c) (G0a s.data.toList)/\Below w.heap.size w w'):=by
  refine(k5a s w hs hT.tabs).mono λe w' ⟨v,h1,h2,h3⟩=>?_
  have hle:(G0a s.data.toList).length<=514:=q2a _;obtain⟨A,c,rfl,h4⟩:=a1a.holds8 h2 (v1a _) (by omega);exact⟨A,_,c,h1,by omega,h2,h3⟩
 obtain⟨_,v,hB,hO⟩:=hW;have HBw:=hI hB;have HO:=hI hO;have HQ:Hid (∀e w',(e=.returned (.tuple #[])/\(∃u,Blk w' g 161 [u,.int .i64 (if er=0 then u0a s.data.toList else er)]/\a1a .u8 5 w' base u (xs++G0a s.data.toList))/\c1a g base w w')->A6a w g base (xs++G0a s.data.toList) (if er=0 then u0a s.data.toList else er) e w'):=λe w' ⟨h1,h2,h3⟩=>⟨h1,⟨hgb,h2⟩,h3⟩
 have HYB:Hid (Bytes (G0a s.data.toList)/\(G0a s.data.toList).length<=514):=⟨v1a _,q2a _⟩;obtain⟨ys,hys⟩:∃ys,ys=G0a s.data.toList:=⟨_,rfl⟩;obtain⟨et,het⟩:∃ys,ys=u0a s.data.toList:=⟨_,rfl⟩;rw[<-hys,<-het] at CP HQ⊢;rw[<-hys] at HYB;have hgw:g<w.heap.size:=hB.lt;clear hB hO hys het;by_cases he:er=0
 ·subst he;rw[if_pos rfl] at HQ⊢;go_enter Tryz.func137,Tryz.ntmps137;go_wp2_with fail;refine CP.out.mono ?_;rintro e w1 ⟨A',m,c,rfl,hm,hh,L1⟩;have HYL:=HYB.out.2;have HOT:=hI hh;have HH:=hI (T9a hh HYB.out.1 (by omega));have hyl:=HH.out.len;have B1:=hI (HBw.out.over L1);have O1:=hI (HO.out.below L1);have K1:Hid (c1a g base w w1):=c1a.of_below L1 hsz;have hsz1:base<=w1.heap.size:=by have:=L1.size;omega
  have c0:w1.cell? ⟨g,0,none⟩=some v:=B1.out.at rfl;have c1:w1.cell? ⟨g,1,none⟩=some (.int .i64 0):=B1.out.at rfl;clear hh L1 CP HBw HO;go_wp2_with(first
   | ((with_reducible refine sT 19 ?_);refine h0a rfl _ (.tmp 19) (.tmp 17) rfl g 1 rfl _ [v,.int .i64 0] (.int .i64 et) rfl B1 (hI (by show 1<2;decide)) (by kernel_rfl) rfl ?_;intro w2 B2 P2 hg2;have O2:=hI (X7a O1.out B1.out P2.out);have K2:Hid (c1a g base w w2):=(K1.out.trans (c1a.of_only P2.out hgb));have HH2:=hI (T9a (HOT.out.onlyAt P2.out hgw) HYB.out.1 (by omega));have hsz2:base<=w2.heap.size:=(by have:=P2.out.size;omega);have d0:w2.cell? ⟨g,0,none⟩=some v:=B2.out.at rfl)
   | ((with_reducible refine sN 26 ?_);refine n3a rfl (.tmp 24) (.tmp 25) rfl base v xs rfl O2.out _ A' m c ys rfl HH2.out (by omega) hsz2 ?_;intro u w3 O3 G3;have B3:=hI (Y7a B2.out O2.out G3.out);have K3:Hid (c1a g base w w3):=(K2.out.trans (c1a.of_grown G3.out O2.out hsz2));have HU:=hI (O7a O3.out))
   | ((with_reducible refine sT 28 ?_);refine h0a rfl _ (.tmp 28) (.tmp 26) rfl g 0 rfl _ [v,.int .i64 et] u rfl B3 (hI (by show 0<2;decide)) d9a HU.out ?_;intro w4 B4 P4 hg4;have O4:=hI (X7a O3.out B3.out P4.out);have K4:Hid (c1a g base w w4):=(K3.out.trans (c1a.of_only P4.out hgb)))
   | fail)
  go_end0;exact HQ.out _ _ ⟨rfl,⟨u,B4.out,O4.out⟩,K4.out⟩
 ·rw[if_neg he] at HQ⊢;have hne:(er==0)=false:=by simpa using he
  clear he;go_enter Tryz.func137,Tryz.ntmps137;go_wp2_with fail;refine CP.out.mono ?_;rintro e w1 ⟨A',m,c,rfl,hm,hh,L1⟩;have HYL:=HYB.out.2;have HOT:=hI hh;have HH:=hI (T9a hh HYB.out.1 (by omega));have hyl:=HH.out.len;have B1:=hI (HBw.out.over L1);have O1:=hI (HO.out.below L1);have K1:Hid (c1a g base w w1):=c1a.of_below L1 hsz;have hsz1:base<=w1.heap.size:=by have:=L1.size;omega
  have c0:w1.cell? ⟨g,0,none⟩=some v:=B1.out.at rfl;have c1:w1.cell? ⟨g,1,none⟩=some (.int .i64 er):=B1.out.at rfl;clear hh L1 CP HBw HO;go_wp2_with(first
   | ((with_reducible refine sN 26 ?_);refine n3a rfl (.tmp 24) (.tmp 25) rfl base v xs rfl O1.out _ A' m c ys rfl HH.out (by omega) hsz1 ?_;intro u w3 O3 G3;have B3:=hI (Y7a B1.out O1.out G3.out);have K3:Hid (c1a g base w w3):=(K1.out.trans (c1a.of_grown G3.out O1.out hsz1));have HU:=hI (O7a O3.out))
   | ((with_reducible refine sT 28 ?_);refine h0a rfl _ (.tmp 28) (.tmp 26) rfl g 0 rfl _ [v,.int .i64 er] u rfl B3 (hI (by show 0<2;decide)) d9a HU.out ?_;intro w4 B4 P4 hg4;have O4:=hI (X7a O3.out B3.out P4.out);have K4:Hid (c1a g base w w4):=(K3.out.trans (c1a.of_only P4.out hgb)))
   | fail)
  go_end0;exact HQ.out _ _ ⟨rfl,⟨u,B4.out,O4.out⟩,K4.out⟩
theorem D0b(w:World)(g base:Nat)(xs:List Int)(er f v:Int)(hW:WI w g base xs er)(hf:0<=f/\f<=18446744073709551615)(hv:0<=v/\v<=255)(hl:xs.length<=900000) :
  Calls Tryz.prog 139 #[.pointer (some ⟨g,0,none⟩),.int .u64 f,.int .u8 v] w (A6a w g base (xs++(le f 8++(le v 1++List.replicate 3 0))) er):=by
 obtain⟨hv0,hv1⟩:=hv;have C1:=hI (i3a w g base xs er f hW hf (by omega));have C2:Hid (∀w':World,WI w' g base (xs++le f 8) er->Calls Tryz.prog 172 #[.pointer (some ⟨g,0,none⟩),.int .u64 v,.int .i64 1] w' λe w2=>e=.returned (.tuple #[])/\WI w2 g base (xs++le f 8++le v 1) er/\c1a g base w' w2):=λw' h=>r1b w' g base _ er v 1 h (by decide) ⟨hv0,by rw[show(256:Int)^1=256 from by decide];omega⟩ (by rw[List.length_append,m0a];omega)
 have C3:Hid (∀w':World,WI w' g base (xs++le f 8++le v 1) er->Calls Tryz.prog 136 #[.pointer (some ⟨g,0,none⟩),.int .i64 3] w' λe w2=>e=.returned (.tuple #[])/\WI w2 g base (xs++le f 8++le v 1++List.replicate 3 0) er/\c1a g base w' w2):=λw' h=>V4a w' g base _ er 3 h (by decide) (by decide) (by rw[List.length_append,List.length_append,m0a,m0a];omega)
 have HQ:Hid (∀e w',(e=.returned (.tuple #[])/\WI w' g base (xs++le f 8++le v 1++List.replicate 3 0) er/\c1a g base w w')->A6a w g base (xs++(le f 8++(le v 1++List.replicate 3 0))) er e w'):=λe w' h=>by rw[show xs++(le f 8++(le v 1++List.replicate 3 0))=xs++le f 8++le v 1++List.replicate 3 0 from by simp only[List.append_assoc]];exact h
 unfold A6a at C1;obtain⟨y3,hy3⟩:∃ys,ys=xs++le f 8++le v 1++List.replicate 3 0:=⟨_,rfl⟩;rw[<-hy3] at C3 HQ;obtain⟨y2,hy2⟩:∃ys,ys=xs++le f 8++le v 1:=⟨_,rfl⟩;rw[<-hy2] at C2 C3;obtain⟨y1,hy1⟩:∃ys,ys=xs++le f 8:=⟨_,rfl⟩;rw[<-hy1] at C1 C2;clear hy1 hy2 hy3 hW hf;go_enter Tryz.func139,Tryz.ntmps139;go_wp2_with fail;refine C1.out.mono ?_;rintro e w1 ⟨rfl,h1,h2⟩;have D2:=hI (C2.out w1 h1);have K1:=hI h2;clear h1 h2 C1 C2;go_wp2_with fail;refine D2.out.mono ?_;rintro e w2 ⟨rfl,h1,h2⟩;have D3:=hI (C3.out w2 h1);have K2:=hI (K1.out.trans h2);clear h1 h2 D2 C3;go_wp2_with fail;refine D3.out.mono ?_;rintro e w3 ⟨rfl,h1,h2⟩;have H3:=hI h1;have K3:=hI (K2.out.trans h2);clear h1 h2 D3;go_wp2;go_end0;exact HQ.out _ _ ⟨rfl,H3.out,K3.out⟩
def s1b(w:World)(base:Nat)(xs:List Int)(er:Int)(e:Ending)(w':World):Prop:=∃v,e=.returned (.tuple #[v,.int .i64 er])/\a1a .u8 5 w' base v (if er=0 then xs else [])/\Below w.heap.size w w'
theorem Q3a(w:World)(g base:Nat)(xs:List Int)(er:Int)(hW:WI w g base xs er) :
  Calls Tryz.prog 140 #[.pointer (some ⟨g,0,none⟩)] w (s1b w base xs er):=by
 obtain⟨_,v,hB,hO⟩:=hW;have HO:=hI hO;have HV:=hI (O7a hO);have c0:w.cell? ⟨g,0,none⟩=some v:=hB.at rfl;have c1:w.cell? ⟨g,1,none⟩=some (.int .i64 er):=hB.at rfl;have HBw:=hI hB;by_cases he:er=0
 ·subst he;have HQ:Hid (∀e w',(e=.returned (.tuple #[v,.int .i64 0])/\a1a .u8 5 w' base v xs/\Below w.heap.size w w')->s1b w base xs 0 e w'):=λe w' ⟨h1,h2,h3⟩=>⟨v,h1,by rw[if_pos rfl];exact h2,h3⟩
  clear hB hO;go_enter Tryz.func140,Tryz.ntmps140;go_wp2;go_ret2;exact HQ.out _ _ ⟨rfl,HO.out,Below.refl _ _⟩
 ·have HQ:Hid (∀e w',(e=.returned (.tuple #[.slice none 0 0,.int .i64 er])/\Below w.heap.size w w')->s1b w base xs er e w'):=λe w' ⟨h1,h2⟩=>⟨_,h1,by rw[if_neg he];exact a1a.nil _ _ _ _,h2⟩
  have hne:(er != 0)=true:=by simpa using he
  clear hB hO he;go_enter Tryz.func140,Tryz.ntmps140;go_wp2;go_quiet (fail);go_wp2;go_ret2;exact HQ.out _ _ ⟨rfl,b6a w _⟩
theorem o4b:(Tryz.prog.info? 118).map (λi=>(i.zero,i.size))=some (some (.agg ([.string .empty,.int .u8 0,.int .i64 0]:List Value).toArray),3):=by kernel_rfl
def X7b(e:s1a):Prop:=e.ok/\t2a e=true/\e.name.size<=17592186044416
theorem f2b(w:World)(g base:Nat)(xs:List Int)(A:Option Addr)(n c:Nat)(es:List s1a)(hW:WI w g base xs 0)(hE:T0a J0a 3 w base A n c es)(hn:n<=64)(hi:∀e∈es,X7b e)(hT:a6a base w)(hl:xs.length<=100000) :
  Calls Tryz.prog 152 #[.pointer (some ⟨g,0,none⟩),.slice A n c] w (A6a w g base (xs++i1a es) (n1a es)):=by
 have hsz:=hW.size;have HW:=hI hW;have HE:=hI hE;have HT:=hI hT;have HLE:=hI hE.len;have hft:=hE.fit;have HQ:Hid (∀e w',(e=.returned (.tuple #[])/\WI w' g base (xs++i1a es) (n1a es)/\c1a g base w w')->A6a w g base (xs++i1a es) (n1a es) e w'):=λ_ _ h=>h
 have H0:Hid (xs++i1a (es.take 0)=xs/\n1a (es.take 0)=0):=by
  refine⟨?_,?_⟩
  ·rw[List.take_zero];exact List.append_nil _
  ·rw[List.take_zero];rfl
 have HN:Hid (xs++i1a (es.take n)=xs++i1a es/\n1a (es.take n)=n1a es):=by
  have h1:es.take n=es:=by rw[<-hE.len,List.take_length]
  exact⟨by rw[h1],by rw[h1]⟩
 have HX:Hid (∀j,j<n->∃x,es[j]? = some x/\X7b x):=λj hj=>⟨_,List.getElem?_eq_getElem (by have:=hE.len;omega),hi _ (List.getElem_mem _)⟩
 have HST:Hid (∀(j:Nat) (x:s1a),es[j]? = some x->xs++i1a (es.take j)++le x.kind 2++List.replicate 2 0++le x.size 8++G0a x.name.data.toList=xs++i1a (es.take (j+1))/\(if n1a (es.take j)=0 then u0a x.name.data.toList else n1a (es.take j))=n1a (es.take (j+1))):=λj x hx=>by
  rw[List.take_add_one,hx,Option.toList_some,A8a,q7a];refine⟨by simp only[i1a,v0b,List.append_nil,List.append_assoc],?_⟩;have e1:n1a [x]=u0a x.name.data.toList:=by
   show(if u0a x.name.data.toList=0 then (0:Int) else u0a x.name.data.toList)=_
   split
   ·rename_i h;exact h.symm
   ·rfl
  rw[e1]
 have HLEN:Hid (∀j,j<=n->(xs++i1a (es.take j)).length<=200000):=λj hj=>by have h1:=r7a (es.take j);rw[List.length_take] at h1;rw[List.length_append];omega
 obtain⟨YS,hYS⟩:∃f:Nat->List Int,f=λj=>xs++i1a (es.take j):=⟨_,rfl⟩
 have hYS2:∀j,xs++i1a (es.take j)=YS j:=λj=>by rw[hYS]
 obtain⟨ER,hER⟩:∃f:Nat->Int,f=λj=>n1a (es.take j):=⟨_,rfl⟩
 have hER2:∀j,n1a (es.take j)=ER j:=λj=>by rw[hER]
 simp only[hYS2,hER2] at H0 HN HST HLEN;rw[<-HN.out.1,<-HN.out.2] at HQ⊢;clear hYS hYS2 hER hER2 hW hE hT hi HN;have hzk:=o4b;obtain⟨zk,hzk2⟩:∃zk,zk=([.string .empty,.int .u8 0,.int .i64 0]:List Value):=⟨_,rfl⟩;have ZKL:Hid (zk.length=3):=by rw[hzk2];rfl
 rw[<-hzk2] at hzk;have HZK:=hI hzk;clear hzk hzk2;go_enter Tryz.func152,Tryz.ntmps152;go_wp2;go_loopw [8] (λi wr=>∃j:Nat,i=.int .i64 j/\j<=n/\Hid (WI wr g base (YS j) (ER j))/\Hid (c1a g base w wr)) (λi _=>n-(intOf i).toNat)
 case atStart=>exact⟨0,rfl,Nat.zero_le _,(by rw[H0.out.1,H0.out.2];exact HW.out),c1a.refl _ _ _⟩
 case round=>
  obtain⟨j,rfl,hj,HW1,HK1⟩:=hrel;by_cases hlt:j<n
  ·have hh:=HE.out.below HK1.out.below;obtain⟨b,off,rfl,hb,hc⟩:=hh.cells (by omega);obtain⟨x,hx,hin⟩:=HX.out j hlt;have Rx:Hid (wr.rangeAt b (off+j*3) (J0a x)):=hh.range rfl hlt hx;have LX:Hid ((J0a x).length=3):=rfl;have HX1:Hid (∀v∈J0a x,v.oneCell'=true):=W6a x;have HS:=hI (HST.out j x hx);have HLJ:=HLEN.out j hj;obtain⟨x1,x2,x3⟩:=hin;have hk1:=x1.kind;obtain⟨hk0,hk1⟩:=hk1;have hs1:0<=x.size/\x.size<=1048576:=by unfold t2a at x2;simp only[Bool.and_eq_true,decide_eq_true_eq] at x2;exact x2.2
   obtain⟨hs0,hs1⟩:=hs1;have HTr:=hI (HT.out.next HK1.out.below);have hwsz:=HW1.out.size;have hwgr:=HK1.out.below.size;have hwlt:=HW1.out.lt;have C1:Hid (∀w',WI w' g base (YS j) (ER j)->Calls Tryz.prog 135 #[.pointer (some ⟨g,0,none⟩),.int .u64 x.kind] w' λe w2=>e=.returned (.tuple #[])/\WI w2 g base (YS j++le x.kind 2) (ER j)/\c1a g base w' w2):=λw' h=>P3a w' g base _ _ x.kind h ⟨hk0,by omega⟩ (by omega)
   have C2:Hid (∀w',WI w' g base (YS j++le x.kind 2) (ER j)->Calls Tryz.prog 136 #[.pointer (some ⟨g,0,none⟩),.int .i64 2] w' λe w2=>e=.returned (.tuple #[])/\WI w2 g base (YS j++le x.kind 2++List.replicate 2 0) (ER j)/\c1a g base w' w2):=λw' h=>V4a w' g base _ _ 2 h (by decide) (by decide) (by rw[List.length_append,m0a];omega)
   have C3:Hid (∀w',WI w' g base (YS j++le x.kind 2++List.replicate 2 0) (ER j)->Calls Tryz.prog 134 #[.pointer (some ⟨g,0,none⟩),.int .u64 x.size] w' λe w2=>e=.returned (.tuple #[])/\WI w2 g base (YS j++le x.kind 2++List.replicate 2 0++le x.size 8) (ER j)/\c1a g base w' w2):=λw' h=>i3a w' g base _ _ x.size h ⟨hs0,by omega⟩ (by rw[List.length_append,List.length_append,m0a,List.length_replicate];omega)
   have C4:Hid (∀w',a6a base w'->WI w' g base (YS j++le x.kind 2++List.replicate 2 0++le x.size 8) (ER j)->Calls Tryz.prog 137 #[.pointer (some ⟨g,0,none⟩),.string x.name] w' λe w2=>e=.returned (.tuple #[])/\WI w2 g base (YS (j+1)) (ER (j+1))/\c1a g base w' w2):=λw' ht h=>by have h1:=Z7a w' g base _ _ x.name h x3 ht (by rw[List.length_append,List.length_append,List.length_append,m0a,m0a,List.length_replicate];omega);rw[HS.out.1,HS.out.2] at h1;exact h1
   obtain⟨y3,hy3⟩:∃y,y=YS j++le x.kind 2++List.replicate 2 0++le x.size 8:=⟨_,rfl⟩;rw[<-hy3] at C3 C4;obtain⟨y2,hy2⟩:∃y,y=YS j++le x.kind 2++List.replicate 2 0:=⟨_,rfl⟩;rw[<-hy2] at C2 C3;obtain⟨y1,hy1⟩:∃y,y=YS j++le x.kind 2:=⟨_,rfl⟩;rw[<-hy1] at C1 C2;have FK:Hid (∀(w:World) (h:Nat),Blk w h 118 (J0a x)->w.cell? ⟨h,0,none⟩=some (.string x.name)/\w.cell? ⟨h,1,none⟩=some (.int .u8 x.kind)/\w.cell? ⟨h,2,none⟩=some (.int .i64 x.size)):=λw h hb=>⟨hb.at rfl,hb.at rfl,hb.at rfl⟩
   obtain⟨cx,hcx⟩:∃cx,cx=J0a x:=⟨_,rfl⟩;rw[<-hcx] at Rx LX HX1 FK;have hwr8:IntKind.u64.wrap x.size=x.size:=by rw[IntKind.wrap_u64];omega
   have hwk8:IntKind.u64.wrap x.kind=x.kind:=by rw[IntKind.wrap_u64];omega
   obtain⟨kd,hkd⟩:∃z,z=x.kind:=⟨_,rfl⟩;obtain⟨sz,hszx⟩:∃z,z=x.size:=⟨_,rfl⟩;obtain⟨nm,hnm⟩:∃z,z=x.name:=⟨_,rfl⟩;rw[<-hkd,<-hszx,<-hnm] at FK;rw[<-hkd] at C1 hk0 hk1 hwk8;rw[<-hszx] at C3 hs0 hs1 hwr8;rw[<-hnm] at C4;clear hh hc hx hcx hy1 hy2 hy3 x1 x2 x3 HS hkd hszx hnm;go_wp2_with(first
    | ((with_reducible refine sN 11 ?_);refine p0a rfl _ (.tmp 10) rfl b (off+j*3) rfl cx _ Rx Tryz.underlying118 rfl 3 A4a LX ?_)
    | ((with_reducible refine sN 5 ?_);refine b0a rfl _ rfl zk _ HZK ?_;intro h u1 hg1 hg2 Z1 N1;have V1:=hI (HW1.out.below N1.out);have hhg:h≠g:=(by omega);have KA:Hid (c1a g base w u1):=(HK1.out.trans (c1a.of_below N1.out hwsz)))
    | ((with_reducible refine sT 5 ?_);refine e0a rfl _ (.tmp 5) (.tmp 11) rfl h rfl _ zk cx rfl Z1 3 A4a ZKL LX HX1 ?_;intro u2 Z2 P2 hg3;have V2:Hid (WI u2 g base (YS j) (ER j)):=(V1.out.onlyT Z1.out (by decide) P2.out hhg);have KB:Hid (c1a g base w u2):=(KA.out.onlyNew P2.out (by omega) (by omega));have q0:=FK.out u2 h Z2.out)
    | fail)
   obtain⟨q1,q2,q3⟩:=q0;go_wp2_with fail;refine(C1.out u2 V2.out).mono ?_;rintro e u3 ⟨rfl,h1,h2⟩;have D2:=hI (C2.out u3 h1);have Z3:=hI (h2.blk Z2.out (by decide) hhg);have KC:=hI (KB.out.trans h2);obtain⟨r1,r2,r3⟩:=FK.out u3 h Z3.out;clear h1 h2 C1 C2 q1 q2 q3;go_wp2_with fail;refine D2.out.mono ?_;rintro e u4 ⟨rfl,h1,h2⟩;have D3:=hI (C3.out u4 h1);have Z4:=hI (h2.blk Z3.out (by decide) hhg);have KD:=hI (KC.out.trans h2);obtain⟨s1,s2,s3⟩:=FK.out u4 h Z4.out;clear h1 h2 D2 C3 r1 r2 r3;go_wp2_with fail;refine D3.out.mono ?_;rintro e u5 ⟨rfl,h1,h2⟩;have KE:=hI (KD.out.trans h2);have D4:=hI (C4.out u5 (HT.out.next KE.out.below) h1);have Z5:=hI (h2.blk Z4.out (by decide) hhg);obtain⟨t1,t2,t3⟩:=FK.out u5 h Z5.out;clear h1 h2 D3 C4 s1 s2 s3;go_wp2_with fail;refine D4.out.mono ?_;rintro e u6 ⟨rfl,h1,h2⟩;have HWn:=hI h1;have KF:=hI (KE.out.trans h2);clear h1 h2 D4 t1 t2 t3;go_wp2;go_roundw
   case rel=>exact⟨j+1,by simp,by omega,HWn,KF⟩
   case measure=>simp[intOf];omega
  ·obtain rfl:j=n:=by omega
   go_wp2;go_end0;exact HQ.out _ _ ⟨rfl,HW1.out,HK1.out⟩
section
variable {vd vx vl ve:Value} {a:m1a} {s:E1a}
theorem O9b(hg:a.guid.length=16)(hp:a.proof.length=32)(x:Int):(l0a vd vx vl a).set 63 (.int .u16 x)=l0a vd vx vl { a with most:=x }:=(t1a hg hp 14 _).trans rfl
theorem P9b(hg:a.guid.length=16)(hp:a.proof.length=32)(x:ByteArray):(l0a vd vx vl a).set 64 (.string x)=l0a vd vx vl { a with pat:=x }:=(t1a hg hp 15 _).trans rfl
theorem Q9b(hg:a.guid.length=16)(hp:a.proof.length=32)(x:ByteArray):(l0a vd vx vl a).set 65 (.string x)=l0a vd vx vl { a with aft:=x }:=(t1a hg hp 16 _).trans rfl
theorem i9b(hg:a.guid.length=16)(hp:a.proof.length=32)(x:Int):(l0a vd vx vl a).set 66 (.int .u16 x)=l0a vd vx vl { a with cls:=x }:=(t1a hg hp 17 _).trans rfl
theorem R9b(hg:a.guid.length=16)(hp:a.proof.length=32)(x:Int):(l0a vd vx vl a).set 67 (.int .u64 x)=l0a vd vx vl { a with siz:=x }:=(t1a hg hp 18 _).trans rfl
theorem w9b(hg:a.guid.length=16)(hp:a.proof.length=32)(x:Bool):(l0a vd vx vl a).set 68 (.bool x)=l0a vd vx vl { a with on:=x }:=(t1a hg hp 19 _).trans rfl
theorem S9b(hg:s.chal.length=8)(v:Value)(xs:List s1a):(s0a vx ve s).set 17 v=s0a vx v { s with ents:=xs }:=(A2a hg 7 _).trans rfl
theorem j9b(hg:s.chal.length=8):(s0a vx ve s).set 17 (.slice none 0 0)=s0a vx (.slice none 0 0) { s with ents:=[] }:=S9b hg _ []
theorem T9b(hg:s.chal.length=8)(x:Bool):(s0a vx ve s).set 18 (.bool x)=s0a vx ve { s with more:=x }:=(A2a hg 8 _).trans rfl
theorem U9b(hg:s.chal.length=8)(x:Bool):(s0a vx ve s).set 19 (.bool x)=s0a vx ve { s with gone:=x }:=(A2a hg 9 _).trans rfl
end
theorem p4b(w:World)(l:s1a):Calls Tryz.prog 151 #[.agg (J0a l).toArray] w λe w'=>e=.returned (.bool (!t2a l))/\Below w.heap.size w w':=by
 obtain⟨nm,kd,sz⟩:=l;have HC:Hid (∀(w:World) (g:Nat),Blk w g 118 (J0a ⟨nm,kd,sz⟩)->w.cell? ⟨g,1,none⟩=some (.int .u8 kd)/\w.cell? ⟨g,2,none⟩=some (.int .i64 sz)):=λw g h=>⟨h.at rfl,h.at rfl⟩
 obtain⟨cs,hcs⟩:∃x,x=J0a ⟨nm,kd,sz⟩:=⟨_,rfl⟩;rw[<-hcs] at HC⊢;have hok:t2a ⟨nm,kd,sz⟩=(decide (kd<=2)&&(decide (0<=sz)&&decide (sz<=1048576))):=rfl;rw[hok];obtain⟨z,hz⟩:∃z,z = !(decide (kd<=2)&&(decide (0<=sz)&&decide (sz<=1048576))):=⟨_,rfl⟩;rw[<-hz];have HZ:=hI hz;clear hcs hok hz;by_cases h1:kd<=2
 ·have q1:¬(2:Int)<kd:=by omega
  by_cases h2:0<=sz
  ·have q2:¬sz<0:=by omega
   by_cases h3:sz<=1048576
   ·have q3:¬(1048576:Int)<sz:=by omega
    have HR:Hid (z=false):=by show _=_;rw[HZ.out,decide_eq_true h1,decide_eq_true h2,decide_eq_true h3];rfl
    clear h1 h2 h3;go_enter Tryz.func151,Tryz.ntmps151;go_wp2_with(first
     | ((with_reducible refine sN 1 ?_);refine a0a rfl _ (.tmp 0) rfl cs rfl ?_;intro g w1 hg1 hg2 K1 L1;obtain⟨c1,c2⟩:=HC.out w1 g K1.out)
     | fail)
    go_wp2;go_ret;exact⟨H0a HR.out.symm,L1.out⟩
   ·have q3:(1048576:Int)<sz:=by omega
    have HR:Hid (z=true):=by show _=_;rw[HZ.out,decide_eq_true h1,decide_eq_true h2,decide_eq_false h3];rfl
    clear h1 h2 h3;go_enter Tryz.func151,Tryz.ntmps151;go_wp2_with(first
     | ((with_reducible refine sN 1 ?_);refine a0a rfl _ (.tmp 0) rfl cs rfl ?_;intro g w1 hg1 hg2 K1 L1;obtain⟨c1,c2⟩:=HC.out w1 g K1.out)
     | fail)
    go_wp2;go_ret;exact⟨H0a HR.out.symm,L1.out⟩
  ·have q2:sz<0:=by omega
   have HR:Hid (z=true):=by show _=_;rw[HZ.out,decide_eq_true h1,decide_eq_false h2];rfl
   clear h1 h2;go_enter Tryz.func151,Tryz.ntmps151;go_wp2_with(first
    | ((with_reducible refine sN 1 ?_);refine a0a rfl _ (.tmp 0) rfl cs rfl ?_;intro g w1 hg1 hg2 K1 L1;obtain⟨c1,c2⟩:=HC.out w1 g K1.out)
    | fail)
   go_wp2;go_ret;exact⟨H0a HR.out.symm,L1.out⟩
 ·have q1:(2:Int)<kd:=by omega
  have HR:Hid (z=true):=by show _=_;rw[HZ.out,decide_eq_false h1];rfl
  clear h1;go_enter Tryz.func151,Tryz.ntmps151;go_wp2_with(first
   | ((with_reducible refine sN 1 ?_);refine a0a rfl _ (.tmp 0) rfl cs rfl ?_;intro g w1 hg1 hg2 K1 L1;obtain⟨c1,c2⟩:=HC.out w1 g K1.out)
   | fail)
  go_wp2;go_ret;exact⟨H0a HR.out.symm,L1.out⟩
theorem q4b(w:World)(A:Option Addr)(n c:Nat)(xs:List s1a)(h:T0a J0a 3 w w.heap.size A n c xs)(hn:n<=4398046511104) :
  Calls Tryz.prog 174 #[.slice A n c,.func (.func 151) #[] #[]] w λe w'=>(∃k:Int,e=.returned (.int .i64 k)/\decide (0<=k) = !xs.all t2a)/\Below w.heap.size w w':=by
 have HH:=hI h;have HL:=hI h.len;have hft:=h.fit;have CF:Hid (∀(w:World) (l:s1a),Calls Tryz.prog 151 #[.agg (J0a l).toArray] w λe w'=>e=.returned (.bool (!t2a l))/\Below w.heap.size w w'):=p4b;have HQ:Hid (∀(e:Ending) (w':World),((∃k:Int,e=.returned (.int .i64 k)/\decide (0<=k) = !xs.all t2a)/\Below w.heap.size w w')->((∃k:Int,e=.returned (.int .i64 k)/\decide (0<=k) = !xs.all t2a)/\Below w.heap.size w w')):=λ_ _ h=>h
 have H0:Hid ((xs.take 0).all t2a=true):=by show _=_;rw[List.take_zero];rfl
 have HN:Hid ((xs.take n).all t2a=true->xs.all t2a=true):=λh1=>by rw[<-HL.out,List.take_length] at h1;exact h1
 have HST:Hid (∀(j:Nat) (x:s1a),xs[j]? = some x->(xs.take j).all t2a=true->t2a x=true->(xs.take (j+1)).all t2a=true):=λj x hx h1 h2=>by rw[List.take_add_one,hx,Option.toList_some,List.all_append,h1];simp[h2]
 have HBAD:Hid (∀(j:Nat) (x:s1a),xs[j]? = some x->¬t2a x=true->xs.all t2a=false):=λj x hx h1=>by rw[List.all_eq_false];exact⟨x,List.mem_of_getElem? hx,h1⟩
 clear h;go_enter Tryz.func174,Tryz.ntmps174;go_wp2;go_loopw [8] (λi wr=>∃j:Nat,i=.int .i64 j/\j<=n/\Hid ((xs.take j).all t2a=true)/\Hid (Below w.heap.size w wr)) (λi _=>n-(intOf i).toNat)
 case atStart=>exact⟨0,rfl,Nat.zero_le _,H0.out,Below.refl _ _⟩
 case round=>
  obtain⟨j,rfl,hj,HS,HB1⟩:=hrel;by_cases hlt:j<n
  ·have hh:=HH.out.below HB1.out;obtain⟨b,off,rfl,hb,hc⟩:=hh.cells (by omega);obtain⟨x,hx⟩:∃x,xs[j]? = some x:=⟨_,List.getElem?_eq_getElem (by have:=HL.out;omega)⟩;have Rx:Hid (wr.rangeAt b (off+j*3) (J0a x)):=hh.range rfl hlt hx;have LX:Hid ((J0a x).length=3):=rfl;have CX:=CF.out wr x;have HST':=hI (HST.out j x hx HS.out);have HBAD':=hI (HBAD.out j x hx);obtain⟨cx,hcx⟩:∃cx,cx=J0a x:=⟨_,rfl⟩;rw[<-hcx] at Rx LX CX;have hsz:=HB1.out.size;obtain⟨z,hz⟩:∃z,z=t2a x:=⟨_,rfl⟩;rw[<-hz] at CX HST' HBAD';clear hh hc hx hcx hz;cases z
   ·have CX':Hid (Calls Tryz.prog 151 #[.agg cx.toArray] wr λe w'=>e=.returned (.bool true)/\Below wr.heap.size wr w'):=CX;have HS2:=hI (HBAD'.out (by decide));clear CX HST' HBAD' HS;go_wp2_with(first
     | ((with_reducible refine sN 15 ?_);refine p0a rfl _ (.tmp 14) rfl b (off+j*3) rfl cx _ Rx Tryz.underlying118 rfl 3 A4a LX ?_)
     | fail)
    refine CX'.out.mono ?_;rintro e v1 ⟨rfl,L1⟩;have HB2:=hI (HB1.out.trans (L1.mono hsz));clear L1 HB1 CX';go_wp2;go_ret;exact HQ.out _ _ ⟨⟨_,rfl,by rw[HS2.out];simp⟩,HB2.out⟩
   ·have CX':Hid (Calls Tryz.prog 151 #[.agg cx.toArray] wr λe w'=>e=.returned (.bool false)/\Below wr.heap.size wr w'):=CX;have HS2:=hI (HST'.out rfl);clear CX HST' HBAD' HS;go_wp2_with(first
     | ((with_reducible refine sN 15 ?_);refine p0a rfl _ (.tmp 14) rfl b (off+j*3) rfl cx _ Rx Tryz.underlying118 rfl 3 A4a LX ?_)
     | fail)
    refine CX'.out.mono ?_;rintro e v1 ⟨rfl,L1⟩;have HB2:=hI (HB1.out.trans (L1.mono hsz));clear L1 HB1 CX';go_wp2;go_roundw
    case rel=>exact⟨j+1,by simp,by omega,HS2,HB2⟩
    case measure=>simp[intOf];omega
  ·obtain rfl:j=n:=by omega
   have HS2:=hI (HN.out HS.out);go_wp2;go_ret;exact HQ.out _ _ ⟨⟨_,rfl,by rw[HS2.out];rfl⟩,HB1.out⟩
theorem t1b(w:World)(A:Option Addr)(n c:Nat)(xs:List s1a)(h:T0a J0a 3 w w.heap.size A n c xs)(hn:n<=4398046511104) :
  Calls Tryz.prog 150 #[.slice A n c,.func (.func 151) #[] #[]] w λe w'=>e=.returned (.bool (!xs.all t2a))/\Below w.heap.size w w':=by
 have C1:=hI (q4b w A n c xs h hn);obtain⟨z,hz⟩:∃z,z = !xs.all t2a:=⟨_,rfl⟩;rw[<-hz] at C1⊢;clear h hz;go_enter Tryz.func150,Tryz.ntmps150;go_wp2_with fail;refine C1.out.mono ?_;rintro e w1 ⟨⟨k,rfl,hk⟩,L1⟩;go_wp2;go_ret;exact⟨by rfl,L1⟩
theorem u1b(w:World)(c:Int)(cs:List Value)(a:m1a)(hc:0<=c/\c<=65535)(ka:a.ok)(ha:b1a w w.heap.size cs a)(hu:a.user.size<=17592186044416/\a.share.size<=17592186044416)(hT:f7a w) :
  Calls Tryz.prog 133 #[.int .u16 c,.agg cs.toArray] w λe w'=>e=.returned (.bool (x3a c a))/\Below w.heap.size w w':=by
 have HL:=hI (ha.len ka);have HT:=hI hT;have hgl:=ka.glen;have hpl:=ka.plen;obtain⟨hu0,hu1⟩:=hu;have CP:Hid (∀(w':World) (ds:List Value) (b:m1a),b.ok->b.user=a.user->b.share=a.share->b1a w' w'.heap.size ds b->Below w.heap.size w w'->Calls Tryz.prog 80 #[.int .u16 13,.agg ds.toArray] w' λe w2=>(∃v er,e=.returned (.tuple #[v,.int .i64 er])/\(er==0)=decide (b=k0a))/\Below w'.heap.size w' w2):=λw' ds b kb h1 h2 hb hL=>by have h:=J9a w' 13 ds b (by decide) kb hb ⟨by rw[h1];exact hu0,by rw[h2];exact hu1⟩ (HT.out.below hL);exact h.mono λe w2 ⟨v,h1,_,h3⟩=>⟨⟨v,_,h1,z3b b⟩,h3⟩
 by_cases hk:E3a c=true;rotate_left
 ·have hn0:x3a c a=false:=by unfold x3a;rw[show E3a c=false from by simpa using hk];rfl
  have hk':c≠12/\c≠14/\c≠16/\c≠17/\c≠18:=by refine⟨?_,?_,?_,?_,?_⟩<;>(rintro rfl;exact hk (by decide))
  obtain⟨h12,h14,h16,h17,h18⟩:=hk';have b12:(c==12)=false:=by simpa using h12
  have b14:(c==14)=false:=by simpa using h14
  have b16:(c==16)=false:=by simpa using h16
  have b17:(c==17)=false:=by simpa using h17
  have b18:(c==18)=false:=by simpa using h18
  rw[hn0];clear hk hn0 h12 h14 h16 h17 h18 ha ka CP;go_enter Tryz.func133,Tryz.ntmps133;go_wp2_with(first
   | ((with_reducible refine sN 3 ?_);refine a0a rfl _ (.tmp 1) rfl cs rfl ?_;intro g w1 hg1 hg2 K1 L1)
   | fail)
  go_ret;exact⟨rfl,L1.out⟩
 have hcs:=g4a hk;obtain⟨A1,A2,A3,X1,X2,X3,M1,M2,M3,rfl,hA,hX,hM⟩:=ha;have FL:Hid (∀(w:World) (g:Nat),Blk w g 34 (l0a (.slice A1 A2 A3) (.slice X1 X2 X3) (.slice M1 M2 M3) a)->w.cell? ⟨g,66,none⟩=some (.int .u16 a.cls)):=λw g h=>h.at (j0a ka 17)
 obtain⟨C0,hC0⟩:∃x,x=l0a (.slice A1 A2 A3) (.slice X1 X2 X3) (.slice M1 M2 M3) a:=⟨_,rfl⟩;have HC0:=hI hC0;rw[<-hC0] at HL FL⊢;clear hC0;rcases hcs with h12 | h14 | h16 | h17 | h18
 ·subst h12;have hbe:b2a 12 a=a:=by unfold b2a;rw[if_neg (by decide),if_neg (by decide),if_neg (by decide),if_neg (by decide)]
  have hnf:x3a 12 a=decide (b2a 12 a=k0a):=by unfold x3a;rw[hk];simp
  rw[hnf,hbe];have kb:(a:m1a).ok:=⟨ka.dial,ka.glen,ka.gbyte,ka.plen,ka.pbyte,ka.acc,ka.shr,ka.way,ka.opt,ka.lev,ka.dur,ka.file,ka.at_,ka.n,ka.data,ka.locks,ka.most,ka.cls,ka.siz⟩;have HI:Hid (∀w':World,Below w.heap.size w w'->b1a w' w'.heap.size (l0a (.slice A1 A2 A3) (.slice X1 X2 X3) (.slice M1 M2 M3) (a)) (a)):=λw' hb=>⟨A1,A2,A3,X1,X2,X3,M1,M2,M3,rfl,hA.over hb,hX.over hb,hM.over hb⟩
  have hbu1:(a:m1a).user=a.user:=rfl;have hbu2:(a:m1a).share=a.share:=rfl;have HEQ:Hid (C0=l0a (.slice A1 A2 A3) (.slice X1 X2 X3) (.slice M1 M2 M3) (a)):=by
   show _=_
   exact HC0.out
  obtain⟨D,hD⟩:∃x,x=l0a (.slice A1 A2 A3) (.slice X1 X2 X3) (.slice M1 M2 M3) a:=⟨_,rfl⟩;rw[<-hD] at HI HEQ;clear hD hk ka hbe hnf hbu1 hbu2;go_enter Tryz.func133,Tryz.ntmps133;go_wp2_with(first
   | ((with_reducible refine sN 3 ?_);refine a0a rfl _ (.tmp 1) rfl C0 rfl ?_;intro g w1 hg1 hg2 K1 L1)
   | ((with_reducible refine sN 40 ?_);refine d0a rfl _ (.tmp 3) rfl g rfl _ C0 K1 69 _ Tryz.underlying34 rfl n0a HL ?_)
   | fail)
  have HF:Hid (C0=D):=by
   show _=_
   exact HEQ.out
  rw[HF.out];refine(CP.out _ D a kb rfl rfl (HI.out _ L1.out) L1.out).mono ?_;rintro e v1 ⟨⟨v,er,rfl,her⟩,LQ⟩;have HER:=hI her;have L99:=hI (step L1.out LQ);clear her LQ;go_wp2;go_ret;exact⟨H0a HER.out,L99.out⟩
 ·subst h14;have hbe:b2a 14 a={ a with file:=0,most:=0,pat:=.empty,aft:=.empty }:=by unfold b2a;rw[if_pos rfl]
  have hnf:x3a 14 a=decide (b2a 14 a=k0a):=by unfold x3a;rw[hk];simp
  rw[hnf,hbe];have kb:({ a with file:=0,most:=0,pat:=.empty,aft:=.empty }:m1a).ok:=⟨ka.dial,ka.glen,ka.gbyte,ka.plen,ka.pbyte,ka.acc,ka.shr,ka.way,ka.opt,ka.lev,ka.dur,zb (by decide),ka.at_,ka.n,ka.data,ka.locks,zb (by decide),ka.cls,ka.siz⟩;have HI:Hid (∀w':World,Below w.heap.size w w'->b1a w' w'.heap.size (l0a (.slice A1 A2 A3) (.slice X1 X2 X3) (.slice M1 M2 M3) ({ a with file:=0,most:=0,pat:=.empty,aft:=.empty })) ({ a with file:=0,most:=0,pat:=.empty,aft:=.empty })):=λw' hb=>⟨A1,A2,A3,X1,X2,X3,M1,M2,M3,rfl,hA.over hb,hX.over hb,hM.over hb⟩
  have hbu1:({ a with file:=0,most:=0,pat:=.empty,aft:=.empty }:m1a).user=a.user:=rfl;have hbu2:({ a with file:=0,most:=0,pat:=.empty,aft:=.empty }:m1a).share=a.share:=rfl;have HEQ:Hid (((((C0).set 57 (.int .u64 0)).set 63 (.int .u16 0)).set 64 (.string .empty)).set 65 (.string .empty)=l0a (.slice A1 A2 A3) (.slice X1 X2 X3) (.slice M1 M2 M3) ({ a with file:=0,most:=0,pat:=.empty,aft:=.empty })):=by
   show _=_
   rw[HC0.out];simp only[B4b,O9b,P9b,Q9b,hgl,hpl];try rfl
  obtain⟨b,hb⟩:∃x:m1a,x={ a with file:=0,most:=0,pat:=.empty,aft:=.empty }:=⟨_,rfl⟩;rw[<-hb] at HI HEQ kb hbu1 hbu2⊢;obtain⟨D,hD⟩:∃x,x=l0a (.slice A1 A2 A3) (.slice X1 X2 X3) (.slice M1 M2 M3) b:=⟨_,rfl⟩;rw[<-hD] at HI HEQ;clear hb hD hk ka hbe hnf;go_enter Tryz.func133,Tryz.ntmps133;go_wp2_with(first
   | ((with_reducible refine sN 3 ?_);refine a0a rfl _ (.tmp 1) rfl C0 rfl ?_;intro g w1 hg1 hg2 K1 L1)
   | ((with_reducible refine sT 10 ?_);refine h0a rfl _ (.tmp 10) (.const (.int .u64 0)) rfl g 57 rfl _ C0 (.int .u64 0) rfl K1 (hI (by have:=HL.out;omega)) (by kernel_rfl) rfl ?_;intro w2 K2 O2 hq2;obtain⟨C1,hC1⟩:∃x,x=C0.set 57 (.int .u64 0):=⟨_,rfl⟩;have HC1:=hI hC1;have HL1:Hid (C1.length=69):=(by rw[hC1,List.length_set];exact HL.out);rw[<-hC1] at K2;have L2:=hI (c0a L1.out O2.out hg1);clear hC1)
   | ((with_reducible refine sT 11 ?_);refine h0a rfl _ (.tmp 11) (.const (.int .u16 0)) rfl g 63 rfl _ C1 (.int .u16 0) rfl K2 (hI (by have:=HL1.out;omega)) (by kernel_rfl) rfl ?_;intro w3 K3 O3 hq3;obtain⟨C2,hC2⟩:∃x,x=C1.set 63 (.int .u16 0):=⟨_,rfl⟩;have HC2:=hI hC2;have HL2:Hid (C2.length=69):=(by rw[hC2,List.length_set];exact HL1.out);rw[<-hC2] at K3;have L3:=hI (c0a L2.out O3.out hg1);clear hC2)
   | ((with_reducible refine sT 12 ?_);refine h0a rfl _ (.tmp 12) (.const (.string .empty)) rfl g 64 rfl _ C2 (.string .empty) rfl K3 (hI (by have:=HL2.out;omega)) (by kernel_rfl) rfl ?_;intro w4 K4 O4 hq4;obtain⟨C3,hC3⟩:∃x,x=C2.set 64 (.string .empty):=⟨_,rfl⟩;have HC3:=hI hC3;have HL3:Hid (C3.length=69):=(by rw[hC3,List.length_set];exact HL2.out);rw[<-hC3] at K4;have L4:=hI (c0a L3.out O4.out hg1);clear hC3)
   | ((with_reducible refine sT 13 ?_);refine h0a rfl _ (.tmp 13) (.const (.string .empty)) rfl g 65 rfl _ C3 (.string .empty) rfl K4 (hI (by have:=HL3.out;omega)) (by kernel_rfl) rfl ?_;intro w5 K5 O5 hq5;obtain⟨C4,hC4⟩:∃x,x=C3.set 65 (.string .empty):=⟨_,rfl⟩;have HC4:=hI hC4;have HL4:Hid (C4.length=69):=(by rw[hC4,List.length_set];exact HL3.out);rw[<-hC4] at K5;have L5:=hI (c0a L4.out O5.out hg1);clear hC4)
   | ((with_reducible refine sN 40 ?_);refine d0a rfl _ (.tmp 3) rfl g rfl _ C4 K5 69 _ Tryz.underlying34 rfl n0a HL4 ?_)
   | fail)
  have HF:Hid (C4=D):=by
   show _=_
   rw[HC4.out,HC3.out,HC2.out,HC1.out];exact HEQ.out
  rw[HF.out];refine(CP.out _ D b kb hbu1 hbu2 (HI.out _ L5.out) L5.out).mono ?_;rintro e v1 ⟨⟨v,er,rfl,her⟩,LQ⟩;have HER:=hI her;have L99:=hI (step L5.out LQ);clear her LQ;go_wp2;go_ret;exact⟨H0a HER.out,L99.out⟩
 ·subst h16;have hbe:b2a 16 a={ a with file:=0 }:=by unfold b2a;rw[if_neg (by decide),if_pos rfl]
  have hnf:x3a 16 a=decide (b2a 16 a=k0a):=by unfold x3a;rw[hk];simp
  rw[hnf,hbe];have kb:({ a with file:=0 }:m1a).ok:=⟨ka.dial,ka.glen,ka.gbyte,ka.plen,ka.pbyte,ka.acc,ka.shr,ka.way,ka.opt,ka.lev,ka.dur,zb (by decide),ka.at_,ka.n,ka.data,ka.locks,ka.most,ka.cls,ka.siz⟩;have HI:Hid (∀w':World,Below w.heap.size w w'->b1a w' w'.heap.size (l0a (.slice A1 A2 A3) (.slice X1 X2 X3) (.slice M1 M2 M3) ({ a with file:=0 })) ({ a with file:=0 })):=λw' hb=>⟨A1,A2,A3,X1,X2,X3,M1,M2,M3,rfl,hA.over hb,hX.over hb,hM.over hb⟩
  have hbu1:({ a with file:=0 }:m1a).user=a.user:=rfl;have hbu2:({ a with file:=0 }:m1a).share=a.share:=rfl;have HEQ:Hid ((C0).set 57 (.int .u64 0)=l0a (.slice A1 A2 A3) (.slice X1 X2 X3) (.slice M1 M2 M3) ({ a with file:=0 })):=by
   show _=_
   rw[HC0.out];simp only[B4b,hgl,hpl];try rfl
  obtain⟨b,hb⟩:∃x:m1a,x={ a with file:=0 }:=⟨_,rfl⟩;rw[<-hb] at HI HEQ kb hbu1 hbu2⊢;obtain⟨D,hD⟩:∃x,x=l0a (.slice A1 A2 A3) (.slice X1 X2 X3) (.slice M1 M2 M3) b:=⟨_,rfl⟩;rw[<-hD] at HI HEQ;clear hb hD hk ka hbe hnf;go_enter Tryz.func133,Tryz.ntmps133;go_wp2_with(first
   | ((with_reducible refine sN 3 ?_);refine a0a rfl _ (.tmp 1) rfl C0 rfl ?_;intro g w1 hg1 hg2 K1 L1)
   | ((with_reducible refine sT 16 ?_);refine h0a rfl _ (.tmp 16) (.const (.int .u64 0)) rfl g 57 rfl _ C0 (.int .u64 0) rfl K1 (hI (by have:=HL.out;omega)) (by kernel_rfl) rfl ?_;intro w2 K2 O2 hq2;obtain⟨C1,hC1⟩:∃x,x=C0.set 57 (.int .u64 0):=⟨_,rfl⟩;have HC1:=hI hC1;have HL1:Hid (C1.length=69):=(by rw[hC1,List.length_set];exact HL.out);rw[<-hC1] at K2;have L2:=hI (c0a L1.out O2.out hg1);clear hC1)
   | ((with_reducible refine sN 40 ?_);refine d0a rfl _ (.tmp 3) rfl g rfl _ C1 K2 69 _ Tryz.underlying34 rfl n0a HL1 ?_)
   | fail)
  have HF:Hid (C1=D):=by
   show _=_
   rw[HC1.out];exact HEQ.out
  rw[HF.out];refine(CP.out _ D b kb hbu1 hbu2 (HI.out _ L2.out) L2.out).mono ?_;rintro e v1 ⟨⟨v,er,rfl,her⟩,LQ⟩;have HER:=hI her;have L99:=hI (step L2.out LQ);clear her LQ;go_wp2;go_ret;exact⟨H0a HER.out,L99.out⟩
 ·subst h17;by_cases q1:a.cls=1
  ·rw[q1] at FL;have hbe:b2a 17 a={ a with siz:=0,file:=0,cls:=0 }:=by unfold b2a;rw[if_neg (by decide),if_neg (by decide),if_pos rfl,if_pos q1]
   have hnf:x3a 17 a=decide (b2a 17 a=k0a):=by unfold x3a U5a;rw[hk,q1];simp
   rw[hnf,hbe];have kb:({ a with siz:=0,file:=0,cls:=0 }:m1a).ok:=⟨ka.dial,ka.glen,ka.gbyte,ka.plen,ka.pbyte,ka.acc,ka.shr,ka.way,ka.opt,ka.lev,ka.dur,zb (by decide),ka.at_,ka.n,ka.data,ka.locks,ka.most,zb (by decide),zb (by decide)⟩;have HI:Hid (∀w':World,Below w.heap.size w w'->b1a w' w'.heap.size (l0a (.slice A1 A2 A3) (.slice X1 X2 X3) (.slice M1 M2 M3) ({ a with siz:=0,file:=0,cls:=0 })) ({ a with siz:=0,file:=0,cls:=0 })):=λw' hb=>⟨A1,A2,A3,X1,X2,X3,M1,M2,M3,rfl,hA.over hb,hX.over hb,hM.over hb⟩
   have hbu1:({ a with siz:=0,file:=0,cls:=0 }:m1a).user=a.user:=rfl;have hbu2:({ a with siz:=0,file:=0,cls:=0 }:m1a).share=a.share:=rfl;have HEQ:Hid ((((C0).set 67 (.int .u64 0)).set 57 (.int .u64 0)).set 66 (.int .u16 0)=l0a (.slice A1 A2 A3) (.slice X1 X2 X3) (.slice M1 M2 M3) ({ a with siz:=0,file:=0,cls:=0 })):=by
    show _=_
    rw[HC0.out];simp only[R9b,B4b,i9b,hgl,hpl];try rfl
   obtain⟨b,hb⟩:∃x:m1a,x={ a with siz:=0,file:=0,cls:=0 }:=⟨_,rfl⟩;rw[<-hb] at HI HEQ kb hbu1 hbu2⊢;obtain⟨D,hD⟩:∃x,x=l0a (.slice A1 A2 A3) (.slice X1 X2 X3) (.slice M1 M2 M3) b:=⟨_,rfl⟩;rw[<-hD] at HI HEQ;clear hb hD hk ka hbe hnf;go_enter Tryz.func133,Tryz.ntmps133;go_wp2_with(first
    | ((with_reducible refine sN 3 ?_);refine a0a rfl _ (.tmp 1) rfl C0 rfl ?_;intro g w1 hg1 hg2 K1 L1;have cl:=FL.out w1 g K1.out)
    | ((with_reducible refine sT 23 ?_);refine h0a rfl _ (.tmp 23) (.const (.int .u64 0)) rfl g 67 rfl _ C0 (.int .u64 0) rfl K1 (hI (by have:=HL.out;omega)) (by kernel_rfl) rfl ?_;intro w2 K2 O2 hq2;obtain⟨C1,hC1⟩:∃x,x=C0.set 67 (.int .u64 0):=⟨_,rfl⟩;have HC1:=hI hC1;have HL1:Hid (C1.length=69):=(by rw[hC1,List.length_set];exact HL.out);rw[<-hC1] at K2;have L2:=hI (c0a L1.out O2.out hg1);clear hC1)
    | ((with_reducible refine sT 31 ?_);refine h0a rfl _ (.tmp 31) (.const (.int .u64 0)) rfl g 57 rfl _ C1 (.int .u64 0) rfl K2 (hI (by have:=HL1.out;omega)) (by kernel_rfl) rfl ?_;intro w3 K3 O3 hq3;obtain⟨C2,hC2⟩:∃x,x=C1.set 57 (.int .u64 0):=⟨_,rfl⟩;have HC2:=hI hC2;have HL2:Hid (C2.length=69):=(by rw[hC2,List.length_set];exact HL1.out);rw[<-hC2] at K3;have L3:=hI (c0a L2.out O3.out hg1);clear hC2)
    | ((with_reducible refine sT 32 ?_);refine h0a rfl _ (.tmp 32) (.const (.int .u16 0)) rfl g 66 rfl _ C2 (.int .u16 0) rfl K3 (hI (by have:=HL2.out;omega)) (by kernel_rfl) rfl ?_;intro w4 K4 O4 hq4;obtain⟨C3,hC3⟩:∃x,x=C2.set 66 (.int .u16 0):=⟨_,rfl⟩;have HC3:=hI hC3;have HL3:Hid (C3.length=69):=(by rw[hC3,List.length_set];exact HL2.out);rw[<-hC3] at K4;have L4:=hI (c0a L3.out O4.out hg1);clear hC3)
    | ((with_reducible refine sN 40 ?_);refine d0a rfl _ (.tmp 3) rfl g rfl _ C3 K4 69 _ Tryz.underlying34 rfl n0a HL3 ?_)
    | fail)
   have HF:Hid (C3=D):=by
    show _=_
    rw[HC3.out,HC2.out,HC1.out];exact HEQ.out
   rw[HF.out];refine(CP.out _ D b kb hbu1 hbu2 (HI.out _ L4.out) L4.out).mono ?_;rintro e v1 ⟨⟨v,er,rfl,her⟩,LQ⟩;have HER:=hI her;have L99:=hI (step L4.out LQ);clear her LQ;go_wp2;go_ret;exact⟨H0a HER.out,L99.out⟩
  ·by_cases q2:a.cls=2
   ·rw[q2] at FL;have hbe:b2a 17 a={ a with on:=false,file:=0,cls:=0 }:=by unfold b2a;rw[if_neg (by decide),if_neg (by decide),if_pos rfl,if_neg q1,if_pos q2]
    have hnf:x3a 17 a=decide (b2a 17 a=k0a):=by unfold x3a U5a;rw[hk,q2];simp
    rw[hnf,hbe];have kb:({ a with on:=false,file:=0,cls:=0 }:m1a).ok:=⟨ka.dial,ka.glen,ka.gbyte,ka.plen,ka.pbyte,ka.acc,ka.shr,ka.way,ka.opt,ka.lev,ka.dur,zb (by decide),ka.at_,ka.n,ka.data,ka.locks,ka.most,zb (by decide),ka.siz⟩;have HI:Hid (∀w':World,Below w.heap.size w w'->b1a w' w'.heap.size (l0a (.slice A1 A2 A3) (.slice X1 X2 X3) (.slice M1 M2 M3) ({ a with on:=false,file:=0,cls:=0 })) ({ a with on:=false,file:=0,cls:=0 })):=λw' hb=>⟨A1,A2,A3,X1,X2,X3,M1,M2,M3,rfl,hA.over hb,hX.over hb,hM.over hb⟩
    have hbu1:({ a with on:=false,file:=0,cls:=0 }:m1a).user=a.user:=rfl;have hbu2:({ a with on:=false,file:=0,cls:=0 }:m1a).share=a.share:=rfl;have HEQ:Hid ((((C0).set 68 (.bool false)).set 57 (.int .u64 0)).set 66 (.int .u16 0)=l0a (.slice A1 A2 A3) (.slice X1 X2 X3) (.slice M1 M2 M3) ({ a with on:=false,file:=0,cls:=0 })):=by
     show _=_
     rw[HC0.out];simp only[w9b,B4b,i9b,hgl,hpl];try rfl
    obtain⟨b,hb⟩:∃x:m1a,x={ a with on:=false,file:=0,cls:=0 }:=⟨_,rfl⟩;rw[<-hb] at HI HEQ kb hbu1 hbu2⊢;obtain⟨D,hD⟩:∃x,x=l0a (.slice A1 A2 A3) (.slice X1 X2 X3) (.slice M1 M2 M3) b:=⟨_,rfl⟩;rw[<-hD] at HI HEQ;clear hb hD hk ka hbe hnf;go_enter Tryz.func133,Tryz.ntmps133;go_wp2_with(first
     | ((with_reducible refine sN 3 ?_);refine a0a rfl _ (.tmp 1) rfl C0 rfl ?_;intro g w1 hg1 hg2 K1 L1;have cl:=FL.out w1 g K1.out)
     | ((with_reducible refine sT 26 ?_);refine h0a rfl _ (.tmp 26) (.const (.bool false)) rfl g 68 rfl _ C0 (.bool false) rfl K1 (hI (by have:=HL.out;omega)) (by kernel_rfl) rfl ?_;intro w2 K2 O2 hq2;obtain⟨C1,hC1⟩:∃x,x=C0.set 68 (.bool false):=⟨_,rfl⟩;have HC1:=hI hC1;have HL1:Hid (C1.length=69):=(by rw[hC1,List.length_set];exact HL.out);rw[<-hC1] at K2;have L2:=hI (c0a L1.out O2.out hg1);clear hC1)
     | ((with_reducible refine sT 31 ?_);refine h0a rfl _ (.tmp 31) (.const (.int .u64 0)) rfl g 57 rfl _ C1 (.int .u64 0) rfl K2 (hI (by have:=HL1.out;omega)) (by kernel_rfl) rfl ?_;intro w3 K3 O3 hq3;obtain⟨C2,hC2⟩:∃x,x=C1.set 57 (.int .u64 0):=⟨_,rfl⟩;have HC2:=hI hC2;have HL2:Hid (C2.length=69):=(by rw[hC2,List.length_set];exact HL1.out);rw[<-hC2] at K3;have L3:=hI (c0a L2.out O3.out hg1);clear hC2)
     | ((with_reducible refine sT 32 ?_);refine h0a rfl _ (.tmp 32) (.const (.int .u16 0)) rfl g 66 rfl _ C2 (.int .u16 0) rfl K3 (hI (by have:=HL2.out;omega)) (by kernel_rfl) rfl ?_;intro w4 K4 O4 hq4;obtain⟨C3,hC3⟩:∃x,x=C2.set 66 (.int .u16 0):=⟨_,rfl⟩;have HC3:=hI hC3;have HL3:Hid (C3.length=69):=(by rw[hC3,List.length_set];exact HL2.out);rw[<-hC3] at K4;have L4:=hI (c0a L3.out O4.out hg1);clear hC3)
     | ((with_reducible refine sN 40 ?_);refine d0a rfl _ (.tmp 3) rfl g rfl _ C3 K4 69 _ Tryz.underlying34 rfl n0a HL3 ?_)
     | fail)
    have HF:Hid (C3=D):=by
     show _=_
     rw[HC3.out,HC2.out,HC1.out];exact HEQ.out
    rw[HF.out];refine(CP.out _ D b kb hbu1 hbu2 (HI.out _ L4.out) L4.out).mono ?_;rintro e v1 ⟨⟨v,er,rfl,her⟩,LQ⟩;have HER:=hI her;have L99:=hI (step L4.out LQ);clear her LQ;go_wp2;go_ret;exact⟨H0a HER.out,L99.out⟩
   ·by_cases q3:a.cls=3
    ·rw[q3] at FL;have hbe:b2a 17 a={ a with on:=false,name:=.empty,file:=0,cls:=0 }:=by unfold b2a;rw[if_neg (by decide),if_neg (by decide),if_pos rfl,if_neg q1,if_neg q2]
     have hnf:x3a 17 a=decide (b2a 17 a=k0a):=by unfold x3a U5a;rw[hk,q3];simp
     rw[hnf,hbe];have kb:({ a with on:=false,name:=.empty,file:=0,cls:=0 }:m1a).ok:=⟨ka.dial,ka.glen,ka.gbyte,ka.plen,ka.pbyte,ka.acc,ka.shr,ka.way,ka.opt,ka.lev,ka.dur,zb (by decide),ka.at_,ka.n,ka.data,ka.locks,ka.most,zb (by decide),ka.siz⟩;have HI:Hid (∀w':World,Below w.heap.size w w'->b1a w' w'.heap.size (l0a (.slice A1 A2 A3) (.slice X1 X2 X3) (.slice M1 M2 M3) ({ a with on:=false,name:=.empty,file:=0,cls:=0 })) ({ a with on:=false,name:=.empty,file:=0,cls:=0 })):=λw' hb=>⟨A1,A2,A3,X1,X2,X3,M1,M2,M3,rfl,hA.over hb,hX.over hb,hM.over hb⟩
     have hbu1:({ a with on:=false,name:=.empty,file:=0,cls:=0 }:m1a).user=a.user:=rfl;have hbu2:({ a with on:=false,name:=.empty,file:=0,cls:=0 }:m1a).share=a.share:=rfl;have HEQ:Hid (((((C0).set 68 (.bool false)).set 58 (.string .empty)).set 57 (.int .u64 0)).set 66 (.int .u16 0)=l0a (.slice A1 A2 A3) (.slice X1 X2 X3) (.slice M1 M2 M3) ({ a with on:=false,name:=.empty,file:=0,cls:=0 })):=by
      show _=_
      rw[HC0.out];simp only[w9b,r9b,B4b,i9b,hgl,hpl];try rfl
     obtain⟨b,hb⟩:∃x:m1a,x={ a with on:=false,name:=.empty,file:=0,cls:=0 }:=⟨_,rfl⟩;rw[<-hb] at HI HEQ kb hbu1 hbu2⊢;obtain⟨D,hD⟩:∃x,x=l0a (.slice A1 A2 A3) (.slice X1 X2 X3) (.slice M1 M2 M3) b:=⟨_,rfl⟩;rw[<-hD] at HI HEQ;clear hb hD hk ka hbe hnf;go_enter Tryz.func133,Tryz.ntmps133;go_wp2_with(first
      | ((with_reducible refine sN 3 ?_);refine a0a rfl _ (.tmp 1) rfl C0 rfl ?_;intro g w1 hg1 hg2 K1 L1;have cl:=FL.out w1 g K1.out)
      | ((with_reducible refine sT 29 ?_);refine h0a rfl _ (.tmp 29) (.const (.bool false)) rfl g 68 rfl _ C0 (.bool false) rfl K1 (hI (by have:=HL.out;omega)) (by kernel_rfl) rfl ?_;intro w2 K2 O2 hq2;obtain⟨C1,hC1⟩:∃x,x=C0.set 68 (.bool false):=⟨_,rfl⟩;have HC1:=hI hC1;have HL1:Hid (C1.length=69):=(by rw[hC1,List.length_set];exact HL.out);rw[<-hC1] at K2;have L2:=hI (c0a L1.out O2.out hg1);clear hC1)
      | ((with_reducible refine sT 30 ?_);refine h0a rfl _ (.tmp 30) (.const (.string .empty)) rfl g 58 rfl _ C1 (.string .empty) rfl K2 (hI (by have:=HL1.out;omega)) (by kernel_rfl) rfl ?_;intro w3 K3 O3 hq3;obtain⟨C2,hC2⟩:∃x,x=C1.set 58 (.string .empty):=⟨_,rfl⟩;have HC2:=hI hC2;have HL2:Hid (C2.length=69):=(by rw[hC2,List.length_set];exact HL1.out);rw[<-hC2] at K3;have L3:=hI (c0a L2.out O3.out hg1);clear hC2)
      | ((with_reducible refine sT 31 ?_);refine h0a rfl _ (.tmp 31) (.const (.int .u64 0)) rfl g 57 rfl _ C2 (.int .u64 0) rfl K3 (hI (by have:=HL2.out;omega)) (by kernel_rfl) rfl ?_;intro w4 K4 O4 hq4;obtain⟨C3,hC3⟩:∃x,x=C2.set 57 (.int .u64 0):=⟨_,rfl⟩;have HC3:=hI hC3;have HL3:Hid (C3.length=69):=(by rw[hC3,List.length_set];exact HL2.out);rw[<-hC3] at K4;have L4:=hI (c0a L3.out O4.out hg1);clear hC3)
      | ((with_reducible refine sT 32 ?_);refine h0a rfl _ (.tmp 32) (.const (.int .u16 0)) rfl g 66 rfl _ C3 (.int .u16 0) rfl K4 (hI (by have:=HL3.out;omega)) (by kernel_rfl) rfl ?_;intro w5 K5 O5 hq5;obtain⟨C4,hC4⟩:∃x,x=C3.set 66 (.int .u16 0):=⟨_,rfl⟩;have HC4:=hI hC4;have HL4:Hid (C4.length=69):=(by rw[hC4,List.length_set];exact HL3.out);rw[<-hC4] at K5;have L5:=hI (c0a L4.out O5.out hg1);clear hC4)
      | ((with_reducible refine sN 40 ?_);refine d0a rfl _ (.tmp 3) rfl g rfl _ C4 K5 69 _ Tryz.underlying34 rfl n0a HL4 ?_)
      | fail)
     have HF:Hid (C4=D):=by
      show _=_
      rw[HC4.out,HC3.out,HC2.out,HC1.out];exact HEQ.out
     rw[HF.out];refine(CP.out _ D b kb hbu1 hbu2 (HI.out _ L5.out) L5.out).mono ?_;rintro e v1 ⟨⟨v,er,rfl,her⟩,LQ⟩;have HER:=hI her;have L99:=hI (step L5.out LQ);clear her LQ;go_wp2;go_ret;exact⟨H0a HER.out,L99.out⟩
    ·have hcf:U5a a=false:=by unfold U5a;by_cases z1:1<=a.cls<;>by_cases z2:a.cls<=3<;>simp[z1,z2]<;>omega
     have hn0:x3a 17 a=false:=by unfold x3a;rw[hk,hcf];rfl
     rw[hn0];obtain⟨q,hq⟩:∃q,q=a.cls:=⟨_,rfl⟩;rw[<-hq] at FL q1 q2 q3;have b1:(q==1)=false:=by simpa using q1
     have b2:(q==2)=false:=by simpa using q2
     have b3:(q==3)=false:=by simpa using q3
     clear hk hcf hn0 q1 q2 q3 ka CP hq;go_enter Tryz.func133,Tryz.ntmps133;go_wp2_with(first
      | ((with_reducible refine sN 3 ?_);refine a0a rfl _ (.tmp 1) rfl C0 rfl ?_;intro g w1 hg1 hg2 K1 L1;have cl:=FL.out w1 g K1.out)
      | fail)
     go_ret;exact⟨rfl,L1.out⟩
 ·subst h18;have hbe:b2a 18 a={ a with file:=0,lev:=0 }:=by unfold b2a;rw[if_neg (by decide),if_neg (by decide),if_neg (by decide),if_pos rfl]
  have hnf:x3a 18 a=decide (b2a 18 a=k0a):=by unfold x3a;rw[hk];simp
  rw[hnf,hbe];have kb:({ a with file:=0,lev:=0 }:m1a).ok:=⟨ka.dial,ka.glen,ka.gbyte,ka.plen,ka.pbyte,ka.acc,ka.shr,ka.way,ka.opt,zb (by decide),ka.dur,zb (by decide),ka.at_,ka.n,ka.data,ka.locks,ka.most,ka.cls,ka.siz⟩;have HI:Hid (∀w':World,Below w.heap.size w w'->b1a w' w'.heap.size (l0a (.slice A1 A2 A3) (.slice X1 X2 X3) (.slice M1 M2 M3) ({ a with file:=0,lev:=0 })) ({ a with file:=0,lev:=0 })):=λw' hb=>⟨A1,A2,A3,X1,X2,X3,M1,M2,M3,rfl,hA.over hb,hX.over hb,hM.over hb⟩
  have hbu1:({ a with file:=0,lev:=0 }:m1a).user=a.user:=rfl;have hbu2:({ a with file:=0,lev:=0 }:m1a).share=a.share:=rfl;have HEQ:Hid (((C0).set 57 (.int .u64 0)).set 55 (.int .u8 0)=l0a (.slice A1 A2 A3) (.slice X1 X2 X3) (.slice M1 M2 M3) ({ a with file:=0,lev:=0 })):=by
   show _=_
   rw[HC0.out];simp only[B4b,q9b,hgl,hpl];try rfl
  obtain⟨b,hb⟩:∃x:m1a,x={ a with file:=0,lev:=0 }:=⟨_,rfl⟩;rw[<-hb] at HI HEQ kb hbu1 hbu2⊢;obtain⟨D,hD⟩:∃x,x=l0a (.slice A1 A2 A3) (.slice X1 X2 X3) (.slice M1 M2 M3) b:=⟨_,rfl⟩;rw[<-hD] at HI HEQ;clear hb hD hk ka hbe hnf;go_enter Tryz.func133,Tryz.ntmps133;go_wp2_with(first
   | ((with_reducible refine sN 3 ?_);refine a0a rfl _ (.tmp 1) rfl C0 rfl ?_;intro g w1 hg1 hg2 K1 L1)
   | ((with_reducible refine sT 35 ?_);refine h0a rfl _ (.tmp 35) (.const (.int .u64 0)) rfl g 57 rfl _ C0 (.int .u64 0) rfl K1 (hI (by have:=HL.out;omega)) (by kernel_rfl) rfl ?_;intro w2 K2 O2 hq2;obtain⟨C1,hC1⟩:∃x,x=C0.set 57 (.int .u64 0):=⟨_,rfl⟩;have HC1:=hI hC1;have HL1:Hid (C1.length=69):=(by rw[hC1,List.length_set];exact HL.out);rw[<-hC1] at K2;have L2:=hI (c0a L1.out O2.out hg1);clear hC1)
   | ((with_reducible refine sT 36 ?_);refine h0a rfl _ (.tmp 36) (.const (.int .u8 0)) rfl g 55 rfl _ C1 (.int .u8 0) rfl K2 (hI (by have:=HL1.out;omega)) (by kernel_rfl) rfl ?_;intro w3 K3 O3 hq3;obtain⟨C2,hC2⟩:∃x,x=C1.set 55 (.int .u8 0):=⟨_,rfl⟩;have HC2:=hI hC2;have HL2:Hid (C2.length=69):=(by rw[hC2,List.length_set];exact HL1.out);rw[<-hC2] at K3;have L3:=hI (c0a L2.out O3.out hg1);clear hC2)
   | ((with_reducible refine sN 40 ?_);refine d0a rfl _ (.tmp 3) rfl g rfl _ C2 K3 69 _ Tryz.underlying34 rfl n0a HL2 ?_)
   | fail)
  have HF:Hid (C2=D):=by
   show _=_
   rw[HC2.out,HC1.out];exact HEQ.out
  rw[HF.out];refine(CP.out _ D b kb hbu1 hbu2 (HI.out _ L3.out) L3.out).mono ?_;rintro e v1 ⟨⟨v,er,rfl,her⟩,LQ⟩;have HER:=hI her;have L99:=hI (step L3.out LQ);clear her LQ;go_wp2;go_ret;exact⟨H0a HER.out,L99.out⟩
end Go.Proofs.YtgfflnjggnadpaaGreatDoor
