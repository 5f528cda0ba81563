import Derived.Test.YtgfflnjggnadpaaGreatDoorZAH
import Derived.Test.YtgfflnjggnadpaaGreatDoorS0
set_option linter.all false
set_option maxHeartbeats 8000000
set_option maxRecDepth 100000
namespace Go.Proofs.YtgfflnjggnadpaaGreatDoor
open Go.RowKit
set_option maxRecDepth 100000
def X4a(w:World)(c:Int)(a:E1a)(e:Ending)(w':World):Prop:=∃v,e=.returned (.tuple #[v,.int .i64 (K5a c a)])/\Own w' w.heap.size v (u3b c a)/\Below w.heap.size w w'
theorem b8a{c:Int}{s:E1a}(k:s.ok):(f2a c s).ok:=by
 unfold f2a;split
 ·exact⟨C0a.dia,k.siz,C0a.clen,C0a.cbyte,k.lev,k.dur,k.made,k.file,k.kind,C0a.data,C0a.n,C0a.ents⟩
 ·split
  ·exact⟨C0a.dia,C0a.siz,C0a.clen,C0a.cbyte,C0a.lev,C0a.dur,C0a.made,C0a.file,C0a.kind,k.data,C0a.n,C0a.ents⟩
  ·split
   ·exact⟨C0a.dia,C0a.siz,C0a.clen,C0a.cbyte,C0a.lev,C0a.dur,C0a.made,C0a.file,C0a.kind,C0a.data,k.n,C0a.ents⟩
   ·exact C0a
theorem m2b(w:World)(c:Int)(cs:List Value)(a:E1a)(hc:0<=c/\c<=65535)(ka:a.ok)(ha:f1a w w.heap.size cs a)(hlen:a.data.length<=281474976710656/\a.ents.length<=281474976710656) :
  Calls Tryz.prog 53 #[.int .u16 c,.agg cs.toArray] w (X4a w c a):=by
 have HL:=hI (ha.len ka);have HA:=hI ha;have CK:Hid (∀w:World,Calls Tryz.prog 52 #[.int .u16 c] w λe w'=>e=.returned (.bool (G1a c))/\w=w'):=λw=>v7a w c hc
 have HE:Hid (∀er,K5a c a=er->er≠0->∀e w',e=.returned (.tuple #[.slice none 0 0,.int .i64 er])->Below w.heap.size w w'->X4a w c a e w'):=by intro er h1 h2 e w' he hb;unfold X4a u3b;rw[h1,if_neg h2];exact⟨_,he,Own.nil _ _,hb⟩
 have ZH:=hI I6a;have HZ:Hid ((s0a (.slice none 0 0) (.slice none 0 0) w0a).length=20):=C1a C0a;have HZ1:Hid (∀v∈s0a (.slice none 0 0) (.slice none 0 0) w0a,v.oneCell'=true):=(R2a w 0).one;have BB:Tryz.prog.built 39 [(3,.int .u8 a.lev),(4,.int .u8 a.dur),(5,.int .u16 a.made),(6,.int .u64 a.file),(1,.int .u64 a.siz),(7,.int .u8 a.kind)]=some (s0a (.slice none 0 0) (.slice none 0 0) (f2a 5 a)).toArray:=by kernel_rfl
 obtain⟨X1,X2,X3,M1,M2,M3',hcs,hX,hM⟩:=ha;have FC:Hid (∀(w:World) (g:Nat),Blk w g 39 cs->w.cell? ⟨g,1,none⟩=some (.int .u64 a.siz)/\w.cell? ⟨g,10,none⟩=some (.int .u8 a.lev)/\w.cell? ⟨g,11,none⟩=some (.int .u8 a.dur)/\w.cell? ⟨g,12,none⟩=some (.int .u16 a.made)/\w.cell? ⟨g,13,none⟩=some (.int .u64 a.file)/\w.cell? ⟨g,14,none⟩=some (.int .u8 a.kind)/\w.cell? ⟨g,16,none⟩=some (.int .u32 a.n)/\w.cell? ⟨g,15,none⟩=some (.slice X1 X2 X3)):=λw g h=>by rw[hcs] at h;exact⟨h.at rfl,h.at (z0a ka 0),h.at (z0a ka 1),h.at (z0a ka 2),h.at (z0a ka 3),h.at (z0a ka 4),h.at (z0a ka 6),h.at (z0a ka 5)⟩
 have hxl:a.data.length=X2:=hX.len;have hxr:=hX.room;have HX:=hI hX;obtain⟨zs,hzs⟩:∃x,x=s0a (.slice none 0 0) (.slice none 0 0) w0a:=⟨_,rfl⟩;have HZS:=hI hzs;rw[<-hzs] at ZH HZ HZ1;clear hzs;by_cases hk:G1a c=true;rotate_left
 ·have hkf:G1a c=false:=by simpa using hk
  have HQ:=hI (HE.out 2 (by unfold K5a C2a;rw[hkf];rfl) (by decide));rw[hkf] at CK;have hk':c≠5/\c≠8/\c≠9:=by refine⟨?_,?_,?_⟩<;>(rintro rfl;exact hk (by decide))
  obtain⟨h5,h8,h9⟩:=hk';have b5:(c==5)=false:=by simpa using h5
  have b8:(c==8)=false:=by simpa using h8
  have b9:(c==9)=false:=by simpa using h9
  clear hk hkf HE HA hlen hcs hX hM h5 h8 h9 hxl BB;go_enter Tryz.func53,Tryz.ntmps53;go_wp2_with(first
   | ((with_reducible refine sN 3 ?_);refine a0a rfl _ (.tmp 1) rfl cs rfl ?_;intro g w1 hg1 hg2 K1 L1)
   | ((with_reducible refine sN 6 ?_);refine b0a rfl _ rfl zs _ ZH ?_;intro h w2 hg3 hg4 Z2 L02;have K2:=hI (K1.out.over L02.out);have L2:=hI (step L1.out L02.out);obtain⟨c1,c10,c11,c12,c13,c14,c16,c15⟩:=FC.out w2 g K2.out;have hgh:g≠h:=(by omega);have hwh:w.heap.size<=h:=(by have:=L1.out.size;omega))
   | fail)
  refine(CK.out _).mono ?_;rintro e v1 ⟨rfl,rfl⟩;go_wp2;go_ret2;exact HQ.out _ _ rfl L2.out
 rw[hk] at CK;have hwl:(f2a c a).data.length<=281474976710656/\(f2a c a).ents.length<=281474976710656:=by
  unfold f2a;split
  ·exact⟨Nat.zero_le _,Nat.zero_le _⟩
  ·split
   ·exact⟨hlen.1,Nat.zero_le _⟩
   ·split<;>exact⟨Nat.zero_le _,Nat.zero_le _⟩
 have CS:Hid (∀(w':World) (ds:List Value),f1a w' w'.heap.size ds (f2a c a)->Below w.heap.size w w'->Calls Tryz.prog 27 #[.agg ds.toArray,.agg cs.toArray] w' λe w2=>e=.returned (.bool (decide (f2a c a=a)))/\Below w'.heap.size w' w2):=λw' ds hds hb=>P6a w' ds cs _ a (b8a ka) ka hds (HA.out.over hb) hwl hlen
 have hcc:c=5∨c=6∨c=7∨c=8∨c=9∨c=10:=z8a hk;obtain⟨l_siz,u_siz⟩:=ka.siz;obtain⟨l_lev,u_lev⟩:=ka.lev;obtain⟨l_dur,u_dur⟩:=ka.dur;obtain⟨l_made,u_made⟩:=ka.made;obtain⟨l_file,u_file⟩:=ka.file;obtain⟨l_kind,u_kind⟩:=ka.kind;obtain⟨l_n,u_n⟩:=ka.n;have z_made:IntKind.u64.wrap a.made=a.made:=by rw[IntKind.wrap_u64];omega
 have z_kind:IntKind.u64.wrap a.kind=a.kind:=by rw[IntKind.wrap_u64];omega
 have z_n:IntKind.u64.wrap a.n=a.n:=by rw[IntKind.wrap_u64];omega
 have z_x:IntKind.u64.wrap (X2:Int)=(X2:Int):=by rw[IntKind.wrap_u64];omega
 have CL2:Hid (∀(w':World) (B:Nat) (v:Value) (xs:List Int) (n:Int),Own w' B v xs->xs.length<=1000000->B<=w'.heap.size->0<=n->n<=65535->Calls Tryz.prog 94 #[v,.int .u64 n,.int .i64 2] w' λe w2=>∃v',e=.returned v'/\Own w2 B v' (xs++le n 2)/\Below B w' w2):=λw' B v xs n ho hx hb h0 h1=>u3a w' B v xs n 2 65536 (by decide) (by decide) (by decide) ho hx hb h0 (by omega)
 have CL4:Hid (∀(w':World) (B:Nat) (v:Value) (xs:List Int) (n:Int),Own w' B v xs->xs.length<=1000000->B<=w'.heap.size->0<=n->n<=4294967295->Calls Tryz.prog 94 #[v,.int .u64 n,.int .i64 4] w' λe w2=>∃v',e=.returned v'/\Own w2 B v' (xs++le n 4)/\Below B w' w2):=λw' B v xs n ho hx hb h0 h1=>u3a w' B v xs n 4 4294967296 (by decide) (by decide) (by decide) ho hx hb h0 (by omega)
 have CL8:Hid (∀(w':World) (B:Nat) (v:Value) (xs:List Int) (n:Int),Own w' B v xs->xs.length<=1000000->B<=w'.heap.size->0<=n->n<=18446744073709551615->Calls Tryz.prog 94 #[v,.int .u64 n,.int .i64 8] w' λe w2=>∃v',e=.returned v'/\Own w2 B v' (xs++le n 8)/\Below B w' w2):=λw' B v xs n ho hx hb h0 h1=>u3a w' B v xs n 8 18446744073709551616 (by decide) (by decide) (by decide) ho hx hb h0 (by omega)
 have hne:f2a c a=a↔C2a c a=true:=by unfold C2a;rw[hk,Bool.true_and,decide_eq_true_iff];exact(P7a c a).symm
 have HQ0:Hid (C2a c a=true->a.made<=2->a.kind<=2->X2<=32768->∀v e w',e=.returned (.tuple #[v,.int .i64 0])->Own w' w.heap.size v (k3a c a)->Below w.heap.size w w'->X4a w c a e w'):=by
  intro h1 h2 h3 h4 v e w' he hv hb;have h:K5a c a=0:=by unfold K5a;rw[if_pos ⟨h1,h2,h3⟩,hxl,if_pos h4]
  unfold X4a u3b;rw[h,if_pos rfl];exact⟨_,he,hv,hb⟩
 have HE2:Hid (¬(C2a c a=true/\a.made<=2/\a.kind<=2)->∀e w',e=.returned (.tuple #[.slice none 0 0,.int .i64 2])->Below w.heap.size w w'->X4a w c a e w'):=λh=>HE.out 2 (by unfold K5a;rw[if_neg h]) (by decide)
 have HE3:Hid (C2a c a=true->a.made<=2->a.kind<=2->¬X2<=32768->∀e w',e=.returned (.tuple #[.slice none 0 0,.int .i64 3])->Below w.heap.size w w'->X4a w c a e w'):=λh1 h2 h3 h4=>HE.out 3 (by unfold K5a;rw[if_pos ⟨h1,h2,h3⟩,hxl,if_neg h4]) (by decide)
 clear HE HA hcs hX hM hxl hwl hlen hk;rcases hcc with h5 | h6 | h7 | h8 | h9 | h10
 ·subst h5;obtain⟨D,hD⟩:∃x,x=s0a (.slice none 0 0) (.slice none 0 0) (f2a 5 a):=⟨_,rfl⟩;have HD0:Hid (D.length=20):=by show _=_;rw[hD];exact C1a (b8a ka)
  have HD1:Hid (∀v∈D,v.oneCell'=true):=by show _;rw[hD];exact u2a rfl rfl
  have HDI:Hid (∀w':World,Below w.heap.size w w'->f1a w' w'.heap.size D (f2a 5 a)):=λw' hb=>⟨none,0,0,none,0,0,hD,Holds.nil _ _,T0a.nil _ _ _ _⟩
  rw[<-hD] at BB;clear hD;obtain⟨z,hz⟩:∃z,z=decide (f2a 5 a=a):=⟨_,rfl⟩;rw[<-hz] at CS;have HZD:=hI hz;have HNE:=hI hne;clear hz hne;go_enter Tryz.func53,Tryz.ntmps53;go_wp2_with(first
   | ((with_reducible refine sN 3 ?_);refine a0a rfl _ (.tmp 1) rfl cs rfl ?_;intro g w1 hg1 hg2 K1 L1)
   | ((with_reducible refine sN 6 ?_);refine b0a rfl _ rfl zs _ ZH ?_;intro h w2 hg3 hg4 Z2 L02;have K2:=hI (K1.out.over L02.out);have L2:=hI (step L1.out L02.out);obtain⟨c1,c10,c11,c12,c13,c14,c16,c15⟩:=FC.out w2 g K2.out;have hgh:g≠h:=(by omega);have hwh:w.heap.size<=h:=(by have:=L1.out.size;omega))
   | ((with_reducible refine sN 23 ?_);refine x0a rfl _ _ rfl D (by refine Eq.trans ?_ BB;kernel_rfl) ?_)
   | ((with_reducible refine sT 6 ?_);refine e0a rfl _ (.tmp 6) (.tmp 23) rfl h rfl _ zs D rfl Z2 20 v0a HZ HD0 HD1 ?_;intro w3 Z3 O3 hg5;have K3:=hI (K2.out.only O3.out hgh);have L3:=hI (c0a L2.out O3.out hwh);clear c1 c10 c11 c12 c13 c14 c16 c15;obtain⟨c1,c10,c11,c12,c13,c14,c16,c15⟩:=FC.out w3 g K3.out)
   | fail)
  refine(CK.out _).mono ?_;rintro e v1 ⟨rfl,rfl⟩;go_wp2_with(first
   | ((with_reducible refine sN 38 ?_);refine o0a (by kernel_rfl) _ (.tmp 6) rfl h rfl _ D Z3 20 _ Tryz.underlying39 rfl v0a HD0 ?_)
   | ((with_reducible refine sN 39 ?_);refine o0a (by kernel_rfl) _ (.tmp 3) rfl g rfl _ cs K3 20 _ Tryz.underlying39 rfl v0a HL ?_)
   | fail)
  refine(CS.out _ D (HDI.out _ L3.out) L3.out).mono ?_;rintro e w5 ⟨rfl,L05⟩;have K5:=hI (K3.out.over L05);have M5:=hI (step L3.out L05);have hs5:=M5.out.size;clear c1 c10 c11 c12 c13 c14 c16 c15;obtain⟨c1,c10,c11,c12,c13,c14,c16,c15⟩:=FC.out w5 g K5.out;clear L05 CS CK HDI;cases z
  ·have hw:¬f2a 5 a=a:=of_decide_eq_false HZD.out.symm;have HQ:=hI (HE2.out (λh=>hw (HNE.out.2 h.1)));clear hw HNE HE2 HE3 HQ0;go_wp2;go_ret2;exact HQ.out _ _ rfl M5.out
  have hnm:=HNE.out.1 (of_decide_eq_true HZD.out.symm);by_cases hmd:a.made<=2;rotate_left
  ·have HQ:=hI (HE2.out (λh=>hmd h.2.1));have hb1:decide (2<a.made)=true:=by rw[decide_eq_true_iff];omega
   clear HNE HE2 HE3 HQ0 hnm;go_wp2;go_ret2;exact HQ.out _ _ rfl M5.out
  have hb1:decide (2<a.made)=false:=by rw[decide_eq_false_iff_not];omega
  by_cases hkd:a.kind<=2;rotate_left
  ·have HQ:=hI (HE2.out (λh=>hkd h.2.2));have hb2:decide (2<a.kind)=true:=by rw[decide_eq_true_iff];omega
   clear HNE HE2 HE3 HQ0 hnm;go_wp2;go_ret2;exact HQ.out _ _ rfl M5.out
  have hb2:decide (2<a.kind)=false:=by rw[decide_eq_false_iff_not];omega
  by_cases hx3:X2<=32768;rotate_left
  ·have HQ:=hI (HE3.out hnm hmd hkd hx3);clear HNE HE2 HE3 HQ0 hnm;go_wp2;go_ret2;exact HQ.out _ _ rfl M5.out
  have HQ:=hI (HQ0.out hnm hmd hkd hx3);have hb0:k3a 5 a=[a.lev,a.dur]++(le a.made 2++(le a.file 8++(le a.siz 8++(le a.kind 2++le 0 2)))):=by unfold k3a;rw[if_pos rfl,le1 a.lev l_lev u_lev,le1 a.dur l_dur u_dur];rfl
  rw[hb0] at HQ;clear HNE HE2 HE3 HQ0 hnm hb0;have hld:Bytes [a.lev,a.dur]:=by intro x hx;simp only[List.mem_cons,List.not_mem_nil,or_false] at hx;rcases hx with hx | hx<;>omega
  have HLD:=hI hld;clear hld;have N0:Hid (Below w5.heap.size w5 w5):=Below.refl _ _;have H00:Hid (Own w5 w5.heap.size (.slice none 0 0) []):=Own.nil _ _;have hg5':g<w5.heap.size:=K5.out.lt;go_wp2_with(first
   | ((with_reducible refine sN 65 ?_);refine K0a rfl _ _ 2 _ rfl Tryz.underlying31 ([.int .u8 a.lev,.int .u8 a.dur]:List Value) (by kernel_rfl) ?_;intro gl z1 hz1 hz2 Yl Ll;have HOl:=hI (Own.below H00.out Ll.out);have Nl:=hI (N0.out.trans (Ll.out.mono N0.out.size));have HHl:=hI (Holds.of_lit (xs:=[a.lev,a.dur]) Yl.out HLD.out))
   | (at_builtin;refine D0a rfl (.tmp 60) (.tmp 65) rfl w5.heap.size _ [] rfl HOl.out z1.heap.size _ 2 2 [a.lev,a.dur] rfl HHl.out (by simp) Nl.out.size ?_;intro va z2 hoa hba hgra;have HO5:=hI hoa.out;have N5:=hI (Nl.out.trans hba);have Ky5:=hI (K5.out.below N5.out hg5');clear hoa hba hgra HOl Nl HHl Yl Ll c1 c10 c11 c12 c13 c14 c16 c15;obtain⟨c1,c10,c11,c12,c13,c14,c16,c15⟩:=FC.out z2 g Ky5.out)
   | fail)
  refine(CL2.out z2 w5.heap.size _ ([]++[a.lev,a.dur]) a.made HO5.out (by simp) N5.out.size l_made u_made).mono ?_;rintro e y6 ⟨v6,rfl,ho6,L6⟩;have HO6:=hI ho6;have N6:=hI (N5.out.trans L6);have Ky6:=hI (K5.out.below N6.out hg5');clear ho6 L6;clear c1 c10 c11 c12 c13 c14 c16 c15;obtain⟨c1,c10,c11,c12,c13,c14,c16,c15⟩:=FC.out y6 g Ky6.out;go_wp2_with fail;refine(CL8.out y6 w5.heap.size _ (([]++[a.lev,a.dur])++le a.made 2) a.file HO6.out (by simp[m0a]) N6.out.size l_file u_file).mono ?_;rintro e y7 ⟨v7,rfl,ho7,L7⟩;have HO7:=hI ho7;have N7:=hI (N6.out.trans L7);have Ky7:=hI (K5.out.below N7.out hg5');clear ho7 L7;clear c1 c10 c11 c12 c13 c14 c16 c15;obtain⟨c1,c10,c11,c12,c13,c14,c16,c15⟩:=FC.out y7 g Ky7.out;go_wp2_with fail;refine(CL8.out y7 w5.heap.size _ ((([]++[a.lev,a.dur])++le a.made 2)++le a.file 8) a.siz HO7.out (by simp[m0a]) N7.out.size l_siz u_siz).mono ?_;rintro e y8 ⟨v8,rfl,ho8,L8⟩;have HO8:=hI ho8;have N8:=hI (N7.out.trans L8);have Ky8:=hI (K5.out.below N8.out hg5');clear ho8 L8;clear c1 c10 c11 c12 c13 c14 c16 c15;obtain⟨c1,c10,c11,c12,c13,c14,c16,c15⟩:=FC.out y8 g Ky8.out;go_wp2_with fail;refine(CL2.out y8 w5.heap.size _ (((([]++[a.lev,a.dur])++le a.made 2)++le a.file 8)++le a.siz 8) a.kind HO8.out (by simp[m0a]) N8.out.size l_kind (by omega)).mono ?_;rintro e y9 ⟨v9,rfl,ho9,L9⟩;have HO9:=hI ho9;have N9:=hI (N8.out.trans L9);have Ky9:=hI (K5.out.below N9.out hg5');clear ho9 L9;clear c1 c10 c11 c12 c13 c14 c16 c15;obtain⟨c1,c10,c11,c12,c13,c14,c16,c15⟩:=FC.out y9 g Ky9.out;go_wp2_with fail;refine(CL2.out y9 w5.heap.size _ ((((([]++[a.lev,a.dur])++le a.made 2)++le a.file 8)++le a.siz 8)++le a.kind 2) 0 HO9.out (by simp[m0a]) N9.out.size (Int.le_refl 0) (by decide)).mono ?_;rintro e y10 ⟨v10,rfl,ho10,L10⟩;have HO10:=hI ho10;have N10:=hI (N9.out.trans L10);have Ky10:=hI (K5.out.below N10.out hg5');clear ho10 L10;clear c1 c10 c11 c12 c13 c14 c16 c15;obtain⟨c1,c10,c11,c12,c13,c14,c16,c15⟩:=FC.out y10 g Ky10.out;go_wp2;go_ret2;refine HQ.out _ _ _ rfl ?_ (M5.out.trans (N10.out.mono hs5));have h9:=Own.mono HO10.out hs5;simpa[List.append_assoc] using h9
 ·subst h6;have HDI:Hid (∀w':World,Below w.heap.size w w'->f1a w' w'.heap.size zs (f2a 6 a)):=λw' hb=>⟨none,0,0,none,0,0,HZS.out,Holds.nil _ _,T0a.nil _ _ _ _⟩
  clear BB;obtain⟨z,hz⟩:∃z,z=decide (f2a 6 a=a):=⟨_,rfl⟩;rw[<-hz] at CS;have HZD:=hI hz;have HNE:=hI hne;clear hz hne;go_enter Tryz.func53,Tryz.ntmps53;go_wp2_with(first
   | ((with_reducible refine sN 3 ?_);refine a0a rfl _ (.tmp 1) rfl cs rfl ?_;intro g w1 hg1 hg2 K1 L1)
   | ((with_reducible refine sN 6 ?_);refine b0a rfl _ rfl zs _ ZH ?_;intro h w2 hg3 hg4 Z2 L02;have K2:=hI (K1.out.over L02.out);have L2:=hI (step L1.out L02.out);obtain⟨c1,c10,c11,c12,c13,c14,c16,c15⟩:=FC.out w2 g K2.out;have hgh:g≠h:=(by omega);have hwh:w.heap.size<=h:=(by have:=L1.out.size;omega))
   | fail)
  refine(CK.out _).mono ?_;rintro e v1 ⟨rfl,rfl⟩;go_wp2_with(first
   | ((with_reducible refine sN 38 ?_);refine o0a (by kernel_rfl) _ (.tmp 6) rfl h rfl _ zs Z2 20 _ Tryz.underlying39 rfl v0a HZ ?_)
   | ((with_reducible refine sN 39 ?_);refine o0a (by kernel_rfl) _ (.tmp 3) rfl g rfl _ cs K2 20 _ Tryz.underlying39 rfl v0a HL ?_)
   | fail)
  refine(CS.out _ zs (HDI.out _ L2.out) L2.out).mono ?_;rintro e w5 ⟨rfl,L05⟩;have K5:=hI (K2.out.over L05);have M5:=hI (step L2.out L05);have hs5:=M5.out.size;clear c1 c10 c11 c12 c13 c14 c16 c15;obtain⟨c1,c10,c11,c12,c13,c14,c16,c15⟩:=FC.out w5 g K5.out;clear L05 CS CK HDI;cases z
  ·have hw:¬f2a 6 a=a:=of_decide_eq_false HZD.out.symm;have HQ:=hI (HE2.out (λh=>hw (HNE.out.2 h.1)));clear hw HNE HE2 HE3 HQ0;go_wp2;go_ret2;exact HQ.out _ _ rfl M5.out
  have hnm:=HNE.out.1 (of_decide_eq_true HZD.out.symm);by_cases hmd:a.made<=2;rotate_left
  ·have HQ:=hI (HE2.out (λh=>hmd h.2.1));have hb1:decide (2<a.made)=true:=by rw[decide_eq_true_iff];omega
   clear HNE HE2 HE3 HQ0 hnm;go_wp2;go_ret2;exact HQ.out _ _ rfl M5.out
  have hb1:decide (2<a.made)=false:=by rw[decide_eq_false_iff_not];omega
  by_cases hkd:a.kind<=2;rotate_left
  ·have HQ:=hI (HE2.out (λh=>hkd h.2.2));have hb2:decide (2<a.kind)=true:=by rw[decide_eq_true_iff];omega
   clear HNE HE2 HE3 HQ0 hnm;go_wp2;go_ret2;exact HQ.out _ _ rfl M5.out
  have hb2:decide (2<a.kind)=false:=by rw[decide_eq_false_iff_not];omega
  by_cases hx3:X2<=32768;rotate_left
  ·have HQ:=hI (HE3.out hnm hmd hkd hx3);clear HNE HE2 HE3 HQ0 hnm;go_wp2;go_ret2;exact HQ.out _ _ rfl M5.out
  have HQ:=hI (HQ0.out hnm hmd hkd hx3);have hb0:k3a 6 a=le 0 4:=rfl;rw[hb0] at HQ;clear HNE HE2 HE3 HQ0 hnm hb0;have N0:Hid (Below w5.heap.size w5 w5):=Below.refl _ _;have H00:Hid (Own w5 w5.heap.size (.slice none 0 0) []):=Own.nil _ _;have hg5':g<w5.heap.size:=K5.out.lt;go_wp2_with fail;refine(CL4.out w5 w5.heap.size _ ([]) 0 H00.out (by simp) N0.out.size (Int.le_refl 0) (by decide)).mono ?_;rintro e y1 ⟨v1,rfl,ho1,L1⟩;have HO1:=hI ho1;have N1:=hI (N0.out.trans L1);have Ky1:=hI (K5.out.below N1.out hg5');clear ho1 L1;clear c1 c10 c11 c12 c13 c14 c16 c15;obtain⟨c1,c10,c11,c12,c13,c14,c16,c15⟩:=FC.out y1 g Ky1.out;go_wp2;go_ret2;refine HQ.out _ _ _ rfl ?_ (M5.out.trans (N1.out.mono hs5));have h9:=Own.mono HO1.out hs5;simpa[List.append_assoc] using h9
 ·subst h7;have HDI:Hid (∀w':World,Below w.heap.size w w'->f1a w' w'.heap.size zs (f2a 7 a)):=λw' hb=>⟨none,0,0,none,0,0,HZS.out,Holds.nil _ _,T0a.nil _ _ _ _⟩
  clear BB;obtain⟨z,hz⟩:∃z,z=decide (f2a 7 a=a):=⟨_,rfl⟩;rw[<-hz] at CS;have HZD:=hI hz;have HNE:=hI hne;clear hz hne;go_enter Tryz.func53,Tryz.ntmps53;go_wp2_with(first
   | ((with_reducible refine sN 3 ?_);refine a0a rfl _ (.tmp 1) rfl cs rfl ?_;intro g w1 hg1 hg2 K1 L1)
   | ((with_reducible refine sN 6 ?_);refine b0a rfl _ rfl zs _ ZH ?_;intro h w2 hg3 hg4 Z2 L02;have K2:=hI (K1.out.over L02.out);have L2:=hI (step L1.out L02.out);obtain⟨c1,c10,c11,c12,c13,c14,c16,c15⟩:=FC.out w2 g K2.out;have hgh:g≠h:=(by omega);have hwh:w.heap.size<=h:=(by have:=L1.out.size;omega))
   | fail)
  refine(CK.out _).mono ?_;rintro e v1 ⟨rfl,rfl⟩;go_wp2_with(first
   | ((with_reducible refine sN 38 ?_);refine o0a (by kernel_rfl) _ (.tmp 6) rfl h rfl _ zs Z2 20 _ Tryz.underlying39 rfl v0a HZ ?_)
   | ((with_reducible refine sN 39 ?_);refine o0a (by kernel_rfl) _ (.tmp 3) rfl g rfl _ cs K2 20 _ Tryz.underlying39 rfl v0a HL ?_)
   | fail)
  refine(CS.out _ zs (HDI.out _ L2.out) L2.out).mono ?_;rintro e w5 ⟨rfl,L05⟩;have K5:=hI (K2.out.over L05);have M5:=hI (step L2.out L05);have hs5:=M5.out.size;clear c1 c10 c11 c12 c13 c14 c16 c15;obtain⟨c1,c10,c11,c12,c13,c14,c16,c15⟩:=FC.out w5 g K5.out;clear L05 CS CK HDI;cases z
  ·have hw:¬f2a 7 a=a:=of_decide_eq_false HZD.out.symm;have HQ:=hI (HE2.out (λh=>hw (HNE.out.2 h.1)));clear hw HNE HE2 HE3 HQ0;go_wp2;go_ret2;exact HQ.out _ _ rfl M5.out
  have hnm:=HNE.out.1 (of_decide_eq_true HZD.out.symm);by_cases hmd:a.made<=2;rotate_left
  ·have HQ:=hI (HE2.out (λh=>hmd h.2.1));have hb1:decide (2<a.made)=true:=by rw[decide_eq_true_iff];omega
   clear HNE HE2 HE3 HQ0 hnm;go_wp2;go_ret2;exact HQ.out _ _ rfl M5.out
  have hb1:decide (2<a.made)=false:=by rw[decide_eq_false_iff_not];omega
  by_cases hkd:a.kind<=2;rotate_left
  ·have HQ:=hI (HE2.out (λh=>hkd h.2.2));have hb2:decide (2<a.kind)=true:=by rw[decide_eq_true_iff];omega
   clear HNE HE2 HE3 HQ0 hnm;go_wp2;go_ret2;exact HQ.out _ _ rfl M5.out
  have hb2:decide (2<a.kind)=false:=by rw[decide_eq_false_iff_not];omega
  by_cases hx3:X2<=32768;rotate_left
  ·have HQ:=hI (HE3.out hnm hmd hkd hx3);clear HNE HE2 HE3 HQ0 hnm;go_wp2;go_ret2;exact HQ.out _ _ rfl M5.out
  have HQ:=hI (HQ0.out hnm hmd hkd hx3);have hb0:k3a 7 a=le 0 4:=rfl;rw[hb0] at HQ;clear HNE HE2 HE3 HQ0 hnm hb0;have N0:Hid (Below w5.heap.size w5 w5):=Below.refl _ _;have H00:Hid (Own w5 w5.heap.size (.slice none 0 0) []):=Own.nil _ _;have hg5':g<w5.heap.size:=K5.out.lt;go_wp2_with fail;refine(CL4.out w5 w5.heap.size _ ([]) 0 H00.out (by simp) N0.out.size (Int.le_refl 0) (by decide)).mono ?_;rintro e y1 ⟨v1,rfl,ho1,L1⟩;have HO1:=hI ho1;have N1:=hI (N0.out.trans L1);have Ky1:=hI (K5.out.below N1.out hg5');clear ho1 L1;clear c1 c10 c11 c12 c13 c14 c16 c15;obtain⟨c1,c10,c11,c12,c13,c14,c16,c15⟩:=FC.out y1 g Ky1.out;go_wp2;go_ret2;refine HQ.out _ _ _ rfl ?_ (M5.out.trans (N1.out.mono hs5));have h9:=Own.mono HO1.out hs5;simpa[List.append_assoc] using h9
 ·subst h8;obtain⟨D,hD⟩:∃x,x=s0a (.slice X1 X2 X3) (.slice none 0 0) (f2a 8 a):=⟨_,rfl⟩;have HD0:Hid (D.length=20):=by show _=_;rw[hD];exact C1a (b8a ka)
  have HDE:Hid (zs.set 15 (.slice X1 X2 X3)=D):=by show _=_;rw[HZS.out,hD];rfl
  have HDI:Hid (∀w':World,Below w.heap.size w w'->f1a w' w'.heap.size D (f2a 8 a)):=λw' hb=>⟨X1,X2,X3,none,0,0,hD,HX.out.over hb,T0a.nil _ _ _ _⟩
  clear hD BB;obtain⟨z,hz⟩:∃z,z=decide (f2a 8 a=a):=⟨_,rfl⟩;rw[<-hz] at CS;have HZD:=hI hz;have HNE:=hI hne;clear hz hne;go_enter Tryz.func53,Tryz.ntmps53;go_wp2_with(first
   | ((with_reducible refine sN 3 ?_);refine a0a rfl _ (.tmp 1) rfl cs rfl ?_;intro g w1 hg1 hg2 K1 L1)
   | ((with_reducible refine sN 6 ?_);refine b0a rfl _ rfl zs _ ZH ?_;intro h w2 hg3 hg4 Z2 L02;have K2:=hI (K1.out.over L02.out);have L2:=hI (step L1.out L02.out);obtain⟨c1,c10,c11,c12,c13,c14,c16,c15⟩:=FC.out w2 g K2.out;have hgh:g≠h:=(by omega);have hwh:w.heap.size<=h:=(by have:=L1.out.size;omega))
   | ((with_reducible refine sT 28 ?_);refine h0a rfl _ (.tmp 28) (.tmp 27) rfl h 15 rfl _ zs (.slice X1 X2 X3) rfl Z2 (hI (by have:=HZ.out;omega)) (by kernel_rfl) rfl ?_;intro w3 Z3 O3 hg5;rw[HDE.out] at Z3;have K3:=hI (K2.out.only O3.out hgh);have L3:=hI (c0a L2.out O3.out hwh);clear c1 c10 c11 c12 c13 c14 c16 c15;obtain⟨c1,c10,c11,c12,c13,c14,c16,c15⟩:=FC.out w3 g K3.out)
   | fail)
  refine(CK.out _).mono ?_;rintro e v1 ⟨rfl,rfl⟩;go_wp2_with(first
   | ((with_reducible refine sN 38 ?_);refine o0a (by kernel_rfl) _ (.tmp 6) rfl h rfl _ D Z3 20 _ Tryz.underlying39 rfl v0a HD0 ?_)
   | ((with_reducible refine sN 39 ?_);refine o0a (by kernel_rfl) _ (.tmp 3) rfl g rfl _ cs K3 20 _ Tryz.underlying39 rfl v0a HL ?_)
   | fail)
  refine(CS.out _ D (HDI.out _ L3.out) L3.out).mono ?_;rintro e w5 ⟨rfl,L05⟩;have K5:=hI (K3.out.over L05);have M5:=hI (step L3.out L05);have hs5:=M5.out.size;clear c1 c10 c11 c12 c13 c14 c16 c15;obtain⟨c1,c10,c11,c12,c13,c14,c16,c15⟩:=FC.out w5 g K5.out;clear L05 CS CK HDI;cases z
  ·have hw:¬f2a 8 a=a:=of_decide_eq_false HZD.out.symm;have HQ:=hI (HE2.out (λh=>hw (HNE.out.2 h.1)));clear hw HNE HE2 HE3 HQ0;go_wp2;go_ret2;exact HQ.out _ _ rfl M5.out
  have hnm:=HNE.out.1 (of_decide_eq_true HZD.out.symm);by_cases hmd:a.made<=2;rotate_left
  ·have HQ:=hI (HE2.out (λh=>hmd h.2.1));have hb1:decide (2<a.made)=true:=by rw[decide_eq_true_iff];omega
   clear HNE HE2 HE3 HQ0 hnm;go_wp2;go_ret2;exact HQ.out _ _ rfl M5.out
  have hb1:decide (2<a.made)=false:=by rw[decide_eq_false_iff_not];omega
  by_cases hkd:a.kind<=2;rotate_left
  ·have HQ:=hI (HE2.out (λh=>hkd h.2.2));have hb2:decide (2<a.kind)=true:=by rw[decide_eq_true_iff];omega
   clear HNE HE2 HE3 HQ0 hnm;go_wp2;go_ret2;exact HQ.out _ _ rfl M5.out
  have hb2:decide (2<a.kind)=false:=by rw[decide_eq_false_iff_not];omega
  by_cases hx3:X2<=32768;rotate_left
  ·have HQ:=hI (HE3.out hnm hmd hkd hx3);clear HNE HE2 HE3 HQ0 hnm;go_wp2;go_ret2;exact HQ.out _ _ rfl M5.out
  have HQ:=hI (HQ0.out hnm hmd hkd hx3);have hb0:k3a 8 a=le (X2:Int) 4++a.data:=by unfold k3a;rw[if_neg (by decide),if_pos rfl,HX.out.len]
  rw[hb0] at HQ;clear HNE HE2 HE3 HQ0 hnm hb0;have N0:Hid (Below w5.heap.size w5 w5):=Below.refl _ _;have H00:Hid (Own w5 w5.heap.size (.slice none 0 0) []):=Own.nil _ _;have hg5':g<w5.heap.size:=K5.out.lt;go_wp2_with fail;refine(CL4.out w5 w5.heap.size _ ([]) (X2:Int) H00.out (by simp) N0.out.size (by omega) (by omega)).mono ?_;rintro e y1 ⟨v1,rfl,ho1,L1⟩;have HO1:=hI ho1;have N1:=hI (N0.out.trans L1);have Ky1:=hI (K5.out.below N1.out hg5');clear ho1 L1;clear c1 c10 c11 c12 c13 c14 c16 c15;obtain⟨c1,c10,c11,c12,c13,c14,c16,c15⟩:=FC.out y1 g Ky1.out;have HXD:=hI (HX.out.over (M5.out.trans (N1.out.mono hs5)));go_wp2_with(first
   | (at_builtin;refine D0a rfl (.tmp 95) (.tmp 97) rfl w5.heap.size _ ([]++le (X2:Int) 4) rfl HO1.out y1.heap.size X1 X2 X3 a.data rfl HXD.out (by rw[HX.out.len];simp only[List.length_append,m0a,List.length_nil,List.length_cons];omega) N1.out.size ?_;intro va z3 hoa hba hgra)
   | fail)
  go_ret2;refine HQ.out _ _ _ rfl ?_ (M5.out.trans ((N1.out.trans hba).mono hs5));have h9:=Own.mono hoa.out hs5;simpa[List.append_assoc] using h9
 ·subst h9;obtain⟨D,hD⟩:∃x,x=s0a (.slice none 0 0) (.slice none 0 0) (f2a 9 a):=⟨_,rfl⟩;have HD0:Hid (D.length=20):=by show _=_;rw[hD];exact C1a (b8a ka)
  have HDE:Hid (zs.set 16 (.int .u32 a.n)=D):=by show _=_;rw[HZS.out,hD];rfl
  have HDI:Hid (∀w':World,Below w.heap.size w w'->f1a w' w'.heap.size D (f2a 9 a)):=λw' hb=>⟨none,0,0,none,0,0,hD,Holds.nil _ _,T0a.nil _ _ _ _⟩
  clear hD BB;obtain⟨z,hz⟩:∃z,z=decide (f2a 9 a=a):=⟨_,rfl⟩;rw[<-hz] at CS;have HZD:=hI hz;have HNE:=hI hne;clear hz hne;go_enter Tryz.func53,Tryz.ntmps53;go_wp2_with(first
   | ((with_reducible refine sN 3 ?_);refine a0a rfl _ (.tmp 1) rfl cs rfl ?_;intro g w1 hg1 hg2 K1 L1)
   | ((with_reducible refine sN 6 ?_);refine b0a rfl _ rfl zs _ ZH ?_;intro h w2 hg3 hg4 Z2 L02;have K2:=hI (K1.out.over L02.out);have L2:=hI (step L1.out L02.out);obtain⟨c1,c10,c11,c12,c13,c14,c16,c15⟩:=FC.out w2 g K2.out;have hgh:g≠h:=(by omega);have hwh:w.heap.size<=h:=(by have:=L1.out.size;omega))
   | ((with_reducible refine sT 33 ?_);refine h0a rfl _ (.tmp 33) (.tmp 32) rfl h 16 rfl _ zs (.int .u32 a.n) rfl Z2 (hI (by have:=HZ.out;omega)) (by kernel_rfl) rfl ?_;intro w3 Z3 O3 hg5;rw[HDE.out] at Z3;have K3:=hI (K2.out.only O3.out hgh);have L3:=hI (c0a L2.out O3.out hwh);clear c1 c10 c11 c12 c13 c14 c16 c15;obtain⟨c1,c10,c11,c12,c13,c14,c16,c15⟩:=FC.out w3 g K3.out)
   | fail)
  refine(CK.out _).mono ?_;rintro e v1 ⟨rfl,rfl⟩;go_wp2_with(first
   | ((with_reducible refine sN 38 ?_);refine o0a (by kernel_rfl) _ (.tmp 6) rfl h rfl _ D Z3 20 _ Tryz.underlying39 rfl v0a HD0 ?_)
   | ((with_reducible refine sN 39 ?_);refine o0a (by kernel_rfl) _ (.tmp 3) rfl g rfl _ cs K3 20 _ Tryz.underlying39 rfl v0a HL ?_)
   | fail)
  refine(CS.out _ D (HDI.out _ L3.out) L3.out).mono ?_;rintro e w5 ⟨rfl,L05⟩;have K5:=hI (K3.out.over L05);have M5:=hI (step L3.out L05);have hs5:=M5.out.size;clear c1 c10 c11 c12 c13 c14 c16 c15;obtain⟨c1,c10,c11,c12,c13,c14,c16,c15⟩:=FC.out w5 g K5.out;clear L05 CS CK HDI;cases z
  ·have hw:¬f2a 9 a=a:=of_decide_eq_false HZD.out.symm;have HQ:=hI (HE2.out (λh=>hw (HNE.out.2 h.1)));clear hw HNE HE2 HE3 HQ0;go_wp2;go_ret2;exact HQ.out _ _ rfl M5.out
  have hnm:=HNE.out.1 (of_decide_eq_true HZD.out.symm);by_cases hmd:a.made<=2;rotate_left
  ·have HQ:=hI (HE2.out (λh=>hmd h.2.1));have hb1:decide (2<a.made)=true:=by rw[decide_eq_true_iff];omega
   clear HNE HE2 HE3 HQ0 hnm;go_wp2;go_ret2;exact HQ.out _ _ rfl M5.out
  have hb1:decide (2<a.made)=false:=by rw[decide_eq_false_iff_not];omega
  by_cases hkd:a.kind<=2;rotate_left
  ·have HQ:=hI (HE2.out (λh=>hkd h.2.2));have hb2:decide (2<a.kind)=true:=by rw[decide_eq_true_iff];omega
   clear HNE HE2 HE3 HQ0 hnm;go_wp2;go_ret2;exact HQ.out _ _ rfl M5.out
  have hb2:decide (2<a.kind)=false:=by rw[decide_eq_false_iff_not];omega
  by_cases hx3:X2<=32768;rotate_left
  ·have HQ:=hI (HE3.out hnm hmd hkd hx3);clear HNE HE2 HE3 HQ0 hnm;go_wp2;go_ret2;exact HQ.out _ _ rfl M5.out
  have HQ:=hI (HQ0.out hnm hmd hkd hx3);have hb0:k3a 9 a=le a.n 4:=rfl;rw[hb0] at HQ;clear HNE HE2 HE3 HQ0 hnm hb0;have N0:Hid (Below w5.heap.size w5 w5):=Below.refl _ _;have H00:Hid (Own w5 w5.heap.size (.slice none 0 0) []):=Own.nil _ _;have hg5':g<w5.heap.size:=K5.out.lt;go_wp2_with fail;refine(CL4.out w5 w5.heap.size _ ([]) a.n H00.out (by simp) N0.out.size l_n u_n).mono ?_;rintro e y1 ⟨v1,rfl,ho1,L1⟩;have HO1:=hI ho1;have N1:=hI (N0.out.trans L1);have Ky1:=hI (K5.out.below N1.out hg5');clear ho1 L1;clear c1 c10 c11 c12 c13 c14 c16 c15;obtain⟨c1,c10,c11,c12,c13,c14,c16,c15⟩:=FC.out y1 g Ky1.out;go_wp2;go_ret2;refine HQ.out _ _ _ rfl ?_ (M5.out.trans (N1.out.mono hs5));have h9:=Own.mono HO1.out hs5;simpa[List.append_assoc] using h9
 ·subst h10;have HDI:Hid (∀w':World,Below w.heap.size w w'->f1a w' w'.heap.size zs (f2a 10 a)):=λw' hb=>⟨none,0,0,none,0,0,HZS.out,Holds.nil _ _,T0a.nil _ _ _ _⟩
  clear BB;obtain⟨z,hz⟩:∃z,z=decide (f2a 10 a=a):=⟨_,rfl⟩;rw[<-hz] at CS;have HZD:=hI hz;have HNE:=hI hne;clear hz hne;go_enter Tryz.func53,Tryz.ntmps53;go_wp2_with(first
   | ((with_reducible refine sN 3 ?_);refine a0a rfl _ (.tmp 1) rfl cs rfl ?_;intro g w1 hg1 hg2 K1 L1)
   | ((with_reducible refine sN 6 ?_);refine b0a rfl _ rfl zs _ ZH ?_;intro h w2 hg3 hg4 Z2 L02;have K2:=hI (K1.out.over L02.out);have L2:=hI (step L1.out L02.out);obtain⟨c1,c10,c11,c12,c13,c14,c16,c15⟩:=FC.out w2 g K2.out;have hgh:g≠h:=(by omega);have hwh:w.heap.size<=h:=(by have:=L1.out.size;omega))
   | fail)
  refine(CK.out _).mono ?_;rintro e v1 ⟨rfl,rfl⟩;go_wp2_with(first
   | ((with_reducible refine sN 38 ?_);refine o0a (by kernel_rfl) _ (.tmp 6) rfl h rfl _ zs Z2 20 _ Tryz.underlying39 rfl v0a HZ ?_)
   | ((with_reducible refine sN 39 ?_);refine o0a (by kernel_rfl) _ (.tmp 3) rfl g rfl _ cs K2 20 _ Tryz.underlying39 rfl v0a HL ?_)
   | fail)
  refine(CS.out _ zs (HDI.out _ L2.out) L2.out).mono ?_;rintro e w5 ⟨rfl,L05⟩;have K5:=hI (K2.out.over L05);have M5:=hI (step L2.out L05);have hs5:=M5.out.size;clear c1 c10 c11 c12 c13 c14 c16 c15;obtain⟨c1,c10,c11,c12,c13,c14,c16,c15⟩:=FC.out w5 g K5.out;clear L05 CS CK HDI;cases z
  ·have hw:¬f2a 10 a=a:=of_decide_eq_false HZD.out.symm;have HQ:=hI (HE2.out (λh=>hw (HNE.out.2 h.1)));clear hw HNE HE2 HE3 HQ0;go_wp2;go_ret2;exact HQ.out _ _ rfl M5.out
  have hnm:=HNE.out.1 (of_decide_eq_true HZD.out.symm);by_cases hmd:a.made<=2;rotate_left
  ·have HQ:=hI (HE2.out (λh=>hmd h.2.1));have hb1:decide (2<a.made)=true:=by rw[decide_eq_true_iff];omega
   clear HNE HE2 HE3 HQ0 hnm;go_wp2;go_ret2;exact HQ.out _ _ rfl M5.out
  have hb1:decide (2<a.made)=false:=by rw[decide_eq_false_iff_not];omega
  by_cases hkd:a.kind<=2;rotate_left
  ·have HQ:=hI (HE2.out (λh=>hkd h.2.2));have hb2:decide (2<a.kind)=true:=by rw[decide_eq_true_iff];omega
   clear HNE HE2 HE3 HQ0 hnm;go_wp2;go_ret2;exact HQ.out _ _ rfl M5.out
  have hb2:decide (2<a.kind)=false:=by rw[decide_eq_false_iff_not];omega
  by_cases hx3:X2<=32768;rotate_left
  ·have HQ:=hI (HE3.out hnm hmd hkd hx3);clear HNE HE2 HE3 HQ0 hnm;go_wp2;go_ret2;exact HQ.out _ _ rfl M5.out
  have HQ:=hI (HQ0.out hnm hmd hkd hx3);have hb0:k3a 10 a=le 0 4:=rfl;rw[hb0] at HQ;clear HNE HE2 HE3 HQ0 hnm hb0;have N0:Hid (Below w5.heap.size w5 w5):=Below.refl _ _;have H00:Hid (Own w5 w5.heap.size (.slice none 0 0) []):=Own.nil _ _;have hg5':g<w5.heap.size:=K5.out.lt;go_wp2_with fail;refine(CL4.out w5 w5.heap.size _ ([]) 0 H00.out (by simp) N0.out.size (Int.le_refl 0) (by decide)).mono ?_;rintro e y1 ⟨v1,rfl,ho1,L1⟩;have HO1:=hI ho1;have N1:=hI (N0.out.trans L1);have Ky1:=hI (K5.out.below N1.out hg5');clear ho1 L1;clear c1 c10 c11 c12 c13 c14 c16 c15;obtain⟨c1,c10,c11,c12,c13,c14,c16,c15⟩:=FC.out y1 g Ky1.out;go_wp2;go_ret2;refine HQ.out _ _ _ rfl ?_ (M5.out.trans (N1.out.mono hs5));have h9:=Own.mono HO1.out hs5;simpa[List.append_assoc] using h9
theorem V9a(w:World)(c:Int)(hc:0<=c/\c<=65535):Calls Tryz.prog 95 #[.int .u16 c] w λe w'=>e=.returned (.bool (E3a c))/\w=w':=by
 obtain⟨z,hz⟩:∃z,z=E3a c:=⟨_,rfl⟩;have HZ:=hI hz;rw[<-hz];clear hz;by_cases h1:c=12
 ·subst h1;have HR:Hid (z=true):=by show _=_;rw[HZ.out];decide
  go_enter Tryz.func95,Tryz.ntmps95;go_wp2;go_ret;exact⟨H0a HR.out.symm,rfl⟩
 ·by_cases h2:c=14
  ·subst h2;have HR:Hid (z=true):=by show _=_;rw[HZ.out];decide
   go_enter Tryz.func95,Tryz.ntmps95;go_wp2;go_ret;exact⟨H0a HR.out.symm,rfl⟩
  ·have b1:(c==12)=false:=by simpa using h1
   have b2:(c==14)=false:=by simpa using h2
   by_cases h3:16<=c
   ·by_cases h4:c<=18
    ·have HR:Hid (z=true):=by show _=_;rw[HZ.out];unfold E3a;rw[decide_eq_true h3,decide_eq_true h4];simp
     clear h1 h2;go_enter Tryz.func95,Tryz.ntmps95;go_wp2;go_ret;exact⟨H0a HR.out.symm,rfl⟩
    ·have HR:Hid (z=false):=by show _=_;rw[HZ.out];unfold E3a;rw[decide_eq_false h1,decide_eq_false h2,decide_eq_false h4];simp
     clear h1 h2;go_enter Tryz.func95,Tryz.ntmps95;go_wp2;go_ret;exact⟨H0a HR.out.symm,rfl⟩
   ·have HR:Hid (z=false):=by show _=_;rw[HZ.out];unfold E3a;rw[decide_eq_false h1,decide_eq_false h2,decide_eq_false h3];simp
    clear h1 h2;go_enter Tryz.func95,Tryz.ntmps95;go_wp2;go_ret;exact⟨H0a HR.out.symm,rfl⟩
theorem W9a(w:World)(b:Bool):Calls Tryz.prog 96 #[.bool b] w λe w'=>e=.returned (.int .u64 (U0a b))/\w=w':=by
 cases b
 ·go_enter Tryz.func96,Tryz.ntmps96;go_wp2;go_ret;exact⟨rfl,rfl⟩
 ·go_enter Tryz.func96,Tryz.ntmps96;go_wp2;go_ret;exact⟨rfl,rfl⟩
def l3a:List ByteArray->List Int
 | []=>[]
 | s::r=>G0a s.data.toList++l3a r
def e1a:List ByteArray->Int
 | []=>0
 | s::r=>if u0a s.data.toList=0 then e1a r else u0a s.data.toList
theorem j3b(l:List ByteArray)(s:ByteArray):l3a (l++[s])=l3a l++G0a s.data.toList:=by
 induction l with
 | nil=>simp[l3a]
 | cons x r ih=>simp only[List.cons_append,l3a,ih,List.append_assoc]
theorem X9a{l:List ByteArray}(s:ByteArray)(h:e1a l=0)(post:List ByteArray):e1a (l++s::post)=if u0a s.data.toList=0 then e1a post else u0a s.data.toList:=by
 induction l with
 | nil=>rfl
 | cons x r ih=>
  by_cases h1:u0a x.data.toList=0
  ·have e1:e1a (x::r)=e1a r:=by show(if _ then _ else _)=_;rw[if_pos h1]
   rw[e1] at h;have e2:e1a (x::(r++s::post))=e1a (r++s::post):=by show(if _ then _ else _)=_;rw[if_pos h1]
   rw[List.cons_append,e2,ih h]
  ·have e1:e1a (x::r)=u0a x.data.toList:=by show(if _ then _ else _)=_;rw[if_neg h1]
   rw[e1] at h;exact absurd h h1
theorem a6b(l:List ByteArray):(l3a l).length<=514*l.length:=by
 induction l with
 | nil=>exact Nat.le_refl _
 | cons x r ih=>have h1:(G0a x.data.toList).length<=514:=q2a _;simp only[l3a,List.length_append,List.length_cons];omega
def o8a(w:World)(base:Nat)(xs:List Int)(ss:List ByteArray)(e:Ending)(w':World):Prop:=∃v,e=.returned (.tuple #[v,.int .i64 (e1a ss)])/\Own w' base v (if e1a ss=0 then xs++l3a ss else [])/\Below base w w'
theorem w4b{w w':World}{gl base:Nat}{T:TypeId}{cs:List Value}{v:Value}{xs:List Int}(hB:Blk w gl T cs)(hT:T≠5)(h:Own w base v xs)(hg:w.grownBy w' v.ownBlock):Blk w' gl T cs:=by
 show w'.heap[gl]? = _
 rw[hg.block gl hB.lt (λe=>?_)]
 ·exact hB
 ·obtain⟨_,c,hc⟩:=(show X2a .u8 5 w base v xs from h).block e.symm;rw[show w.heap[gl]? = _ from hB] at hc;cases hc;exact hT rfl
theorem p8a(w:World)(base gl m:Nat)(v:Value)(xs:List Int)(ss:List ByteArray)(hO:Own w base v xs)(hb:base<=w.heap.size)(hB:Blk w gl 9 (ss.map Value.string))(hm:ss.length=m)(hm2:m<=2)(hs:∀s∈ss,s.size<=4398046511104)(hl:xs.length<=100000) :
  Calls Tryz.prog 97 #[v,.slice (some ⟨gl,0,none⟩) m m] w (o8a w base xs ss):=by
 have HO0:=hI hO;have HB0:=hI hB;have CT:Hid (∀(w':World) (s:ByteArray),s∈ss->Calls Tryz.prog 98 #[.string s] w' λe w2=>(∃A k c,e=.returned (.tuple #[.slice A k c,.int .i64 (u0a s.data.toList)])/\k<=514/\Holds w2 w2.heap.size A k c (G0a s.data.toList))/\Below w'.heap.size w' w2):=λw' s h=>by
  refine(i5a s w' (hs s h)).mono λe w2 ⟨u,h1,h2,h3⟩=>⟨?_,h3⟩
  have hle:(G0a s.data.toList).length<=514:=q2a _;obtain⟨A,c,rfl,h4⟩:=Own.holds h2 (v1a _) (by omega);exact⟨A,_,c,h1,hle,h4⟩
 have HX:Hid (∀j,j<m->∃s,ss[j]? = some s/\s∈ss):=λj hj=>⟨_,List.getElem?_eq_getElem (by omega),List.getElem_mem _⟩
 have HCE:Hid (∀(j:Nat) (s:ByteArray),ss[j]? = some s->(ss.map Value.string)[j]? = some (.string s)):=λj s h=>by simp[h]
 have HQ:Hid (∀(u:Value) (e:Ending) (w':World),e1a ss=0->e=.returned (.tuple #[u,.int .i64 0])->Own w' base u (xs++l3a ss)->Below base w w'->o8a w base xs ss e w'):=λu e w' h0 h1 h2 h3=>⟨u,by rw[h0];exact h1,by rw[if_pos h0];exact h2,h3⟩
 have HQE:Hid (∀(er:Int) (e:Ending) (w':World),e1a ss=er->er≠0->e=.returned (.tuple #[.slice none 0 0,.int .i64 er])->Below base w w'->o8a w base xs ss e w'):=λer e w' h0 hn h1 h3=>⟨_,by rw[h0];exact h1,by rw[h0,if_neg hn];exact Own.nil _ _,h3⟩
 have H0:Hid (xs++l3a (ss.take 0)=xs/\e1a (ss.take 0)=0):=⟨by rw[List.take_zero];exact List.append_nil _,by rw[List.take_zero];rfl⟩;have HN:Hid (xs++l3a (ss.take m)=xs++l3a ss/\e1a (ss.take m)=e1a ss):=by
  have h1:ss.take m=ss:=by rw[<-hm,List.take_length]
  exact⟨by rw[h1],by rw[h1]⟩
 have HST:Hid (∀(j:Nat) (s:ByteArray),ss[j]? = some s->e1a (ss.take j)=0->(u0a s.data.toList=0->e1a (ss.take (j+1))=0)/\(u0a s.data.toList≠0->e1a ss=u0a s.data.toList)/\xs++l3a (ss.take (j+1))=xs++l3a (ss.take j)++G0a s.data.toList):=λj s hj he=>by
  have e1:ss.take (j+1)=ss.take j++[s]:=by rw[List.take_add_one,hj];rfl
  refine⟨λh=>?_,λh=>?_,?_⟩
  ·rw[e1,X9a s he [],if_pos h];rfl
  ·have hlt:=(List.getElem?_eq_some_iff.1 hj).1;have e2:ss=ss.take j++(s::ss.drop (j+1)):=by have h3:=(List.getElem?_eq_some_iff.1 hj).2;rw[<-h3,<-List.drop_eq_getElem_cons hlt,List.take_append_drop]
   have e3:=X9a s he (ss.drop (j+1));rw[<-e2,if_neg h] at e3;exact e3
  ·rw[e1,j3b,List.append_assoc]
 have HLN:Hid (∀j,j<=m->(xs++l3a (ss.take j)).length<=200000):=λj hj=>by have h1:=a6b (ss.take j);rw[List.length_take] at h1;rw[List.length_append];omega
 obtain⟨YS,hYS⟩:∃f:Nat->List Int,f=λj=>xs++l3a (ss.take j):=⟨_,rfl⟩
 have hYS2:∀j,xs++l3a (ss.take j)=YS j:=λj=>by rw[hYS]
 obtain⟨ER,hER⟩:∃f:Nat->Int,f=λj=>e1a (ss.take j):=⟨_,rfl⟩
 have hER2:∀j,e1a (ss.take j)=ER j:=λj=>by rw[hER]
 simp only[hYS2,hER2] at H0 HN HST HLN;rw[<-HN.out.1] at HQ;obtain⟨cs,hcs⟩:∃cs,cs=ss.map Value.string:=⟨_,rfl⟩;rw[<-hcs] at HB0 HCE;clear hYS hYS2 hER hER2 hO hB hcs hs hm;go_enter Tryz.func97,Tryz.ntmps97;go_wp2;go_loopw [0,6] (λu i wr=>∃j:Nat,i=.int .i64 j/\j<=m/\Hid (Own wr base u (YS j))/\Hid (ER j=0)/\Hid (Blk wr gl 9 cs)/\Hid (Below base w wr)) (λ_ i _=>m-(intOf i).toNat)
 case atStart=>exact⟨0,rfl,Nat.zero_le _,(by rw[H0.out.1];exact HO0.out),H0.out.2,HB0,Below.refl _ _⟩
 case round=>
  obtain⟨j,rfl,hj,HO,HE,HK,HL⟩:=hrel;by_cases hlt:j<m
  ·obtain⟨s,hs,hmem⟩:=HX.out j hlt;have ck:wr.cell? ⟨gl,j,none⟩=some (.string s):=(HK.out.cell j).trans (HCE.out j s hs);have HS:=hI (HST.out j s hs HE.out);have CS:=hI (CT.out wr s hmem);have hln:=HLN.out j hj;have hsz:=HL.out.size;obtain⟨ys,hys⟩:∃y,y=G0a s.data.toList:=⟨_,rfl⟩;obtain⟨et,het⟩:∃y,y=u0a s.data.toList:=⟨_,rfl⟩;rw[<-hys,<-het] at CS HS;clear hs hmem hys het;by_cases he:et=0
   ·subst he;go_wp2_with fail;refine CS.out.mono ?_;rintro e u1 ⟨⟨A,k,c,rfl,hk,hh⟩,L1⟩;have HH:=hI hh;have HO1:=hI (HO.out.below L1);have HK1:=hI (HK.out.over L1);have HL1:=hI (HL.out.trans (L1.mono (by omega)));have hsz1:=HL1.out.size;have hyl:=hh.len;clear hh L1 ck CS HO HK HL;go_wp2_with(first
     | (at_builtin;refine D0a rfl (.tmp 26) (.tmp 27) rfl base _ (YS j) rfl HO1.out u1.heap.size A k c ys rfl HH.out (by omega) (by omega) ?_;intro va u2 ho2 hb2 hgr2;have HK2:=hI (w4b HK1.out (by decide) HO1.out hgr2);have HL2:=hI (HL1.out.trans hb2);have HO2:Hid (Own u2 base va (YS (j+1))):=(by rw[HS.out.2.2];exact ho2.out);clear ho2 hb2 hgr2)
     | fail)
    have HE2:=hI (HS.out.1 (by trivial));go_roundw
    case rel=>exact⟨j+1,by simp,by omega,HO2,HE2,HK2,HL2⟩
    case measure=>simp[intOf];omega
   ·have hne:(et != 0)=true:=by simpa using he
    have HER:=hI (HS.out.2.1 he);have HNE:=hI he;clear he;go_wp2_with fail;refine CS.out.mono ?_;rintro e u1 ⟨⟨A,k,c,rfl,hk,hh⟩,L1⟩;have HL1:=hI (HL.out.trans (L1.mono (by omega)));clear hh L1 ck CS;go_wp2;go_ret2;exact HQE.out _ _ _ HER.out HNE.out rfl HL1.out
  ·obtain rfl:j=m:=by omega
   go_wp2;go_ret2;exact HQ.out _ _ _ (by rw[<-HN.out.2];exact HE.out) rfl HO.out HL.out
def j3a(c:Int)(a:m1a):m1a:=if c=17/\¬(1<=a.cls/\a.cls<=3) then { k0a with file:=a.file,cls:=a.cls } else p7a c a
theorem k3b{c:Int}{a:m1a}(h:c=17->1<=a.cls/\a.cls<=3):j3a c a=p7a c a:=by unfold j3a;rw[if_neg (λh2=>h2.2 (h h2.1))]
theorem m7b{c:Int}{a:m1a}(k:a.ok):(j3a c a).ok:=by
 have z:=f0a;unfold j3a;split
 ·exact⟨z.dial,z.glen,z.gbyte,z.plen,z.pbyte,z.acc,z.shr,z.way,z.opt,z.lev,z.dur,k.file,z.at_,z.n,z.data,z.locks,z.most,k.cls,z.siz⟩
 ·unfold p7a;split
  ·exact⟨z.dial,z.glen,z.gbyte,z.plen,z.pbyte,z.acc,z.shr,z.way,z.opt,z.lev,z.dur,k.file,z.at_,z.n,z.data,z.locks,k.most,z.cls,z.siz⟩
  ·split
   ·exact⟨z.dial,z.glen,z.gbyte,z.plen,z.pbyte,z.acc,z.shr,z.way,z.opt,z.lev,z.dur,k.file,z.at_,z.n,z.data,z.locks,z.most,z.cls,z.siz⟩
   ·split
    ·split
     ·exact⟨z.dial,z.glen,z.gbyte,z.plen,z.pbyte,z.acc,z.shr,z.way,z.opt,z.lev,z.dur,k.file,z.at_,z.n,z.data,z.locks,z.most,k.cls,k.siz⟩
     ·split
      ·exact⟨z.dial,z.glen,z.gbyte,z.plen,z.pbyte,z.acc,z.shr,z.way,z.opt,z.lev,z.dur,k.file,z.at_,z.n,z.data,z.locks,z.most,k.cls,z.siz⟩
      ·exact⟨z.dial,z.glen,z.gbyte,z.plen,z.pbyte,z.acc,z.shr,z.way,z.opt,z.lev,z.dur,k.file,z.at_,z.n,z.data,z.locks,z.most,k.cls,z.siz⟩
    ·split
     ·exact⟨z.dial,z.glen,z.gbyte,z.plen,z.pbyte,z.acc,z.shr,z.way,z.opt,k.lev,z.dur,k.file,z.at_,z.n,z.data,z.locks,z.most,z.cls,z.siz⟩
     ·exact z
theorem b6b{c:Int}{a:m1a}:(j3a c a).dial.length<=281474976710656/\(j3a c a).data.length<=281474976710656/\(j3a c a).locks.length<=281474976710656:=by
 unfold j3a p7a;repeat' split
 all_goals exact⟨Nat.zero_le _,Nat.zero_le _,Nat.zero_le _⟩
theorem x4b(w:World)(c:Int)(cs:List Value)(a:m1a)(hc:0<=c/\c<=65535)(hk:E3a c=true)(ka:a.ok)(ha:b1a w w.heap.size cs a) :
  Calls Tryz.prog 100 #[.int .u16 c,.agg cs.toArray] w λe w'=>∃ds:List Value,e=.returned (.agg ds.toArray)/\b1a w' w'.heap.size ds (j3a c a)/\Below w.heap.size w w':=by
 have HL:=hI (ha.len ka);have ZH:=hI G5a;have HZ:Hid ((l0a (.slice none 0 0) (.slice none 0 0) (.slice none 0 0) k0a).length=69):=h1a f0a;have HZ1:Hid (∀v∈l0a (.slice none 0 0) (.slice none 0 0) (.slice none 0 0) k0a,v.oneCell'=true):=(j2a w 0).one;have BF:Tryz.prog.built 34 [(11,.int .u64 a.file)]=some (l0a (.slice none 0 0) (.slice none 0 0) (.slice none 0 0) { k0a with file:=a.file }).toArray:=by kernel_rfl
 have HF0:Hid ((l0a (.slice none 0 0) (.slice none 0 0) (.slice none 0 0) { k0a with file:=a.file }).length=69):=h1a (w1b (c:=6) ka);have HF1:Hid (∀v∈l0a (.slice none 0 0) (.slice none 0 0) (.slice none 0 0) { k0a with file:=a.file },v.oneCell'=true):=D1a rfl rfl rfl;obtain⟨A1,A2,A3,X1,X2,X3,M1,M2,M3,hcs,hA,hX,hM⟩:=ha;have FC:Hid (∀(w:World) (g:Nat),Blk w g 34 cs->w.cell? ⟨g,55,none⟩=some (.int .u8 a.lev)/\w.cell? ⟨g,57,none⟩=some (.int .u64 a.file)/\w.cell? ⟨g,58,none⟩=some (.string a.name)/\w.cell? ⟨g,63,none⟩=some (.int .u16 a.most)/\w.cell? ⟨g,64,none⟩=some (.string a.pat)/\w.cell? ⟨g,65,none⟩=some (.string a.aft)/\w.cell? ⟨g,66,none⟩=some (.int .u16 a.cls)/\w.cell? ⟨g,67,none⟩=some (.int .u64 a.siz)/\w.cell? ⟨g,68,none⟩=some (.bool a.on)):=λw g h=>by rw[hcs] at h;exact⟨h.at (j0a ka 6),h.at (j0a ka 8),h.at (j0a ka 9),h.at (j0a ka 14),h.at (j0a ka 15),h.at (j0a ka 16),h.at (j0a ka 17),h.at (j0a ka 18),h.at (j0a ka 19)⟩
 obtain⟨zs,hzs⟩:∃x,x=l0a (.slice none 0 0) (.slice none 0 0) (.slice none 0 0) k0a:=⟨_,rfl⟩;rw[<-hzs] at ZH HZ HZ1;obtain⟨C0,hC0⟩:∃x,x=l0a (.slice none 0 0) (.slice none 0 0) (.slice none 0 0) { k0a with file:=a.file }:=⟨_,rfl⟩;have HC0:=hI hC0;rw[<-hC0] at BF HF0 HF1;have hcc:=g4a hk;clear hzs hC0 hA hX hM hcs hk ka;rcases hcc with h12 | h14 | h16 | h17 | h18
 ·subst h12;go_enter Tryz.func100,Tryz.ntmps100;go_wp2_with(first
   | ((with_reducible refine sN 3 ?_);refine a0a rfl _ (.tmp 1) rfl cs rfl ?_;intro g w1 hg1 hg2 K1 L1)
   | ((with_reducible refine sN 4 ?_);refine b0a rfl _ rfl zs _ ZH ?_;intro r w2 hg3 hg4 R2 L02;have K2:=hI (K1.out.over L02.out);have L2:=hI (step L1.out L02.out);obtain⟨c55,c57,c58,c63,c64,c65,c66,c67,c68⟩:=FC.out w2 g K2.out;have hsz2:=L2.out.size;have hgr:g≠r:=(by omega);have hwr:w.heap.size<=r:=(by have:=L1.out.size;omega))
   | ((with_reducible refine sN 8 ?_);refine x0a rfl _ _ rfl C0 (by refine Eq.trans ?_ BF;kernel_rfl) ?_)
   | ((with_reducible refine sN 5 ?_);refine b0a rfl _ rfl zs _ ZH ?_;intro h w3 hg5 hg6 X3' L03;have K3:=hI (K2.out.over L03.out);have R3:=hI (R2.out.over L03.out);have L3:=hI (step L2.out L03.out);have hgh:g≠h:=(by have:=K2.out.lt;omega);have hrh:r≠h:=(by have:=R2.out.lt;omega);have hwh:w.heap.size<=h:=(by omega))
   | ((with_reducible refine sT 5 ?_);refine e0a rfl _ (.tmp 5) (.tmp 8) rfl h rfl _ zs C0 rfl X3' 69 n0a HZ HF0 HF1 ?_;intro w4 X0 O4 hg7;have K4:=hI (K3.out.only O4.out hgh);have R4:=hI (R3.out.only O4.out hrh);have L4:=hI (c0a L3.out O4.out hwh);clear c55 c57 c58 c63 c64 c65 c66 c67 c68;obtain⟨c55,c57,c58,c63,c64,c65,c66,c67,c68⟩:=FC.out w4 g K4.out)
   | ((with_reducible refine sT 12 ?_);refine h0a rfl _ (.tmp 12) (.const (.int .u64 0)) rfl h 57 rfl _ C0 (.int .u64 0) rfl X0 (hI (by have:=HF0.out;omega)) (by kernel_rfl) rfl ?_;intro x1 XS1 O1 hq1;obtain⟨C1,hC1⟩:∃x,x=C0.set 57 (.int .u64 0):=⟨_,rfl⟩;have HC1:=hI hC1;have HL1:Hid (C1.length=69):=(by rw[hC1,List.length_set];exact HF0.out);have H11:Hid (∀v∈C1,v.oneCell'=true):=(by rw[hC1];intro v hv;rcases List.mem_or_eq_of_mem_set hv with hv | hv;exact HF1.out v hv;rw[hv];rfl);rw[<-hC1] at XS1;have KS1:=hI (K4.out.only O1.out hgh);have RT1:=hI (R4.out.only O1.out hrh);have LT1:=hI (c0a L4.out O1.out hwh);clear hC1 c55 c57 c58 c63 c64 c65 c66 c67 c68;obtain⟨c55,c57,c58,c63,c64,c65,c66,c67,c68⟩:=FC.out x1 g KS1.out)
   | ((with_reducible refine sN 57 ?_);refine d0a rfl _ (.tmp 5) rfl h rfl _ C1 XS1 69 _ Tryz.underlying34 rfl n0a HL1 ?_)
   | ((with_reducible refine sT 4 ?_);refine e0a rfl _ (.tmp 4) (.tmp 57) rfl r rfl _ zs C1 rfl RT1 69 n0a HZ HL1 H11 ?_;intro w9 K9 O9 hg9)
   | fail)
  have HEQ:C1=l0a (.slice none 0 0) (.slice none 0 0) (.slice none 0 0) k0a:=by rw[HC1.out,HC0.out];rfl
  have hwr':j3a 12 a=k0a:=by unfold j3a;rw[if_neg (λh=>absurd h.1 (by decide))];unfold p7a;rw[if_neg (by decide),if_neg (by decide),if_neg (by decide),if_neg (by decide)]
  have LF:Below w.heap.size w w9:=c0a LT1.out O9.out hwr;refine bodyPost_ret (v:=.agg C1.toArray) ?_ rfl ⟨_,rfl,by rw[hwr'];exact⟨none,0,0,none,0,0,none,0,0,HEQ,o1a.nil _ _ _,Holds.nil _ _,T0a.nil _ _ _ _⟩,LF⟩;exact Y0a rfl _ _ r _ _ (0,0) _ rfl K9.out Tryz.underlying34 rfl (by rw[n0a];have:=HL1.out;simp[this])
 ·subst h14;go_enter Tryz.func100,Tryz.ntmps100;go_upto_region 6 with(first
   | ((with_reducible refine sN 3 ?_);refine a0a rfl _ (.tmp 1) rfl cs rfl ?_;intro g w1 hg1 hg2 K1 L1)
   | ((with_reducible refine sN 4 ?_);refine b0a rfl _ rfl zs _ ZH ?_;intro r w2 hg3 hg4 R2 L02;have K2:=hI (K1.out.over L02.out);have L2:=hI (step L1.out L02.out);obtain⟨c55,c57,c58,c63,c64,c65,c66,c67,c68⟩:=FC.out w2 g K2.out;have hsz2:=L2.out.size;have hgr:g≠r:=(by omega);have hwr:w.heap.size<=r:=(by have:=L1.out.size;omega))
   | ((with_reducible refine sN 8 ?_);refine x0a rfl _ _ rfl C0 (by refine Eq.trans ?_ BF;kernel_rfl) ?_)
   | ((with_reducible refine sN 5 ?_);refine b0a rfl _ rfl zs _ ZH ?_;intro h w3 hg5 hg6 X3' L03;have K3:=hI (K2.out.over L03.out);have R3:=hI (R2.out.over L03.out);have L3:=hI (step L2.out L03.out);have hgh:g≠h:=(by have:=K2.out.lt;omega);have hrh:r≠h:=(by have:=R2.out.lt;omega);have hwh:w.heap.size<=h:=(by omega))
   | ((with_reducible refine sT 5 ?_);refine e0a rfl _ (.tmp 5) (.tmp 8) rfl h rfl _ zs C0 rfl X3' 69 n0a HZ HF0 HF1 ?_;intro w4 X0 O4 hg7;have K4:=hI (K3.out.only O4.out hgh);have R4:=hI (R3.out.only O4.out hrh);have L4:=hI (c0a L3.out O4.out hwh);clear c55 c57 c58 c63 c64 c65 c66 c67 c68;obtain⟨c55,c57,c58,c63,c64,c65,c66,c67,c68⟩:=FC.out w4 g K4.out)
   | fail)
  refine wp_region_held (S:=λw'=>Blk w' g 34 cs) (by kernel_rfl) ?_;change wpAnyH _ _ _ _ _ _ _ _ w4.drew
  have S_0:Hid (Blk w4.drew g 34 cs):=K4.out.drew;have Xd:=hI (Blk.drew X0.out);have Rd:=hI (Blk.drew R4.out);have Ld:=hI (L4.out.drew);refine tK 0 _ rfl (g0a (by kernel_rfl) _ (.tmp 3) 17 rfl (.pointer (some ⟨g,0,none⟩)) (.pointer (some ⟨g,63,none⟩)) (by kernel_rfl) (j4a g)) S_0.out ?_;refine tK 1 _ rfl (i0a (by kernel_rfl) _ (.tmp 15) rfl g 63 (by kernel_rfl) (.int .u16 a.most) (λw h=>(FC.out w g h).2.2.2.1) _ Tryz.underlying22 rfl) S_0.out ?_;refine tK 2 _ rfl (g0a (by kernel_rfl) _ (.tmp 3) 18 rfl (.pointer (some ⟨g,0,none⟩)) (.pointer (some ⟨g,64,none⟩)) (by kernel_rfl) (k4a g)) S_0.out ?_;refine tK 3 _ rfl (i0a (by kernel_rfl) _ (.tmp 17) rfl g 64 (by kernel_rfl) (.string a.pat) (λw h=>(FC.out w g h).2.2.2.2.1) _ Tryz.underlying9 rfl) S_0.out ?_;refine tK 4 _ rfl (g0a (by kernel_rfl) _ (.tmp 3) 19 rfl (.pointer (some ⟨g,0,none⟩)) (.pointer (some ⟨g,65,none⟩)) (by kernel_rfl) (l4a g)) S_0.out ?_;refine tK 5 _ rfl (i0a (by kernel_rfl) _ (.tmp 19) rfl g 65 (by kernel_rfl) (.string a.aft) (λw h=>(FC.out w g h).2.2.2.2.2.1) _ Tryz.underlying9 rfl) S_0.out ?_;refine tK 6 _ rfl (g0a (by kernel_rfl) _ (.tmp 5) 17 rfl (.pointer (some ⟨h,0,none⟩)) (.pointer (some ⟨h,63,none⟩)) (by kernel_rfl) (j4a h)) S_0.out ?_;refine y0a λfr1 hfr1=>?_
  have ex1:fr1.eval (.tmp 21)=.pointer (some ⟨h,63,none⟩):=by rw[hfr1];kernel_rfl
  have ey1:fr1.eval (.tmp 16)=(.int .u16 a.most):=by rw[hfr1];kernel_rfl
  refine oN 7 _ rfl λK hK=>?_
  refine A0a rfl _ (.tmp 21) (.tmp 16) rfl h 63 ex1 _ C0 (.int .u16 a.most) ey1 Xd (hI (by have:=HF0.out;omega)) (by kernel_rfl) rfl ?_;intro x1 XS1 O1 hq1;obtain⟨C1,hC1⟩:∃x,x=C0.set 63 (.int .u16 a.most):=⟨_,rfl⟩;have HC1:=hI hC1;have HL1:Hid (C1.length=69):=by show _=_;rw[hC1,List.length_set];exact HF0.out
  rw[<-hC1] at XS1;have ST1:=hI (Blk.only S_0.out O1.out hgh);have RT1:=hI (Blk.only Rd.out O1.out hrh);have LT1:=hI (c0a Ld.out O1.out hwh);refine hK _ _ ST1.out ?_;clear hK K ex1 ey1 hC1;change wpAnyH _ _ _ _ _ _ _ fr1 x1
  subst hfr1;refine tK 8 _ rfl (g0a (by kernel_rfl) _ (.tmp 5) 18 rfl (.pointer (some ⟨h,0,none⟩)) (.pointer (some ⟨h,64,none⟩)) (by kernel_rfl) (k4a h)) ST1.out ?_;refine y0a λfr2 hfr2=>?_
  have ex2:fr2.eval (.tmp 22)=.pointer (some ⟨h,64,none⟩):=by rw[hfr2];kernel_rfl
  have ey2:fr2.eval (.tmp 18)=(.string a.pat):=by rw[hfr2];kernel_rfl
  refine oN 9 _ rfl λK hK=>?_
  refine A0a rfl _ (.tmp 22) (.tmp 18) rfl h 64 ex2 _ C1 (.string a.pat) ey2 XS1 (hI (by have:=HL1.out;omega)) (by kernel_rfl) rfl ?_;intro x2 XS2 O2 hq2;obtain⟨C2,hC2⟩:∃x,x=C1.set 64 (.string a.pat):=⟨_,rfl⟩;have HC2:=hI hC2;have HL2:Hid (C2.length=69):=by show _=_;rw[hC2,List.length_set];exact HL1.out
  rw[<-hC2] at XS2;have ST2:=hI (Blk.only ST1.out O2.out hgh);have RT2:=hI (Blk.only RT1.out O2.out hrh);have LT2:=hI (c0a LT1.out O2.out hwh);refine hK _ _ ST2.out ?_;clear hK K ex2 ey2 hC2;change wpAnyH _ _ _ _ _ _ _ fr2 x2
  subst hfr2;refine tK 10 _ rfl (g0a (by kernel_rfl) _ (.tmp 5) 19 rfl (.pointer (some ⟨h,0,none⟩)) (.pointer (some ⟨h,65,none⟩)) (by kernel_rfl) (l4a h)) ST2.out ?_;refine y0a λfr3 hfr3=>?_
  have ex3:fr3.eval (.tmp 23)=.pointer (some ⟨h,65,none⟩):=by rw[hfr3];kernel_rfl
  have ey3:fr3.eval (.tmp 20)=(.string a.aft):=by rw[hfr3];kernel_rfl
  refine oN 11 _ rfl λK hK=>?_
  refine A0a rfl _ (.tmp 23) (.tmp 20) rfl h 65 ex3 _ C2 (.string a.aft) ey3 XS2 (hI (by have:=HL2.out;omega)) (by kernel_rfl) rfl ?_;intro x3 XS3 O3 hq3;obtain⟨C3,hC3⟩:∃x,x=C2.set 65 (.string a.aft):=⟨_,rfl⟩;have HC3:=hI hC3;have HL3:Hid (C3.length=69):=by show _=_;rw[hC3,List.length_set];exact HL2.out
  rw[<-hC3] at XS3;have ST3:=hI (Blk.only ST2.out O3.out hgh);have RT3:=hI (Blk.only RT2.out O3.out hrh);have LT3:=hI (c0a LT2.out O3.out hwh);refine hK _ _ ST3.out ?_;clear hK K ex3 ey3 hC3;change wpAnyH _ _ _ _ _ _ _ fr3 x3
  subst hfr3;refine dN ?_;go_simp;have H1C:Hid (∀v∈C3,v.oneCell'=true):=by
   show _
   have hh:C3=l0a (.slice none 0 0) (.slice none 0 0) (.slice none 0 0) { k0a with file:=a.file,most:=a.most,pat:=a.pat,aft:=a.aft }:=by rw[HC3.out,HC2.out,HC1.out,HC0.out];rfl
   rw[hh];exact D1a rfl rfl rfl
  go_wp2_with(first
   | ((with_reducible refine sN 57 ?_);refine d0a rfl _ (.tmp 5) rfl h rfl _ C3 XS3 69 _ Tryz.underlying34 rfl n0a HL3 ?_)
   | ((with_reducible refine sT 4 ?_);refine e0a rfl _ (.tmp 4) (.tmp 57) rfl r rfl _ zs C3 rfl RT3 69 n0a HZ HL3 H1C ?_;intro w9 K9 O9 hg9)
   | fail)
  have HEQ:C3=l0a (.slice none 0 0) (.slice none 0 0) (.slice none 0 0) { k0a with file:=a.file,most:=a.most,pat:=a.pat,aft:=a.aft }:=by rw[HC3.out,HC2.out,HC1.out,HC0.out];rfl
  have hwr':j3a 14 a={ k0a with file:=a.file,most:=a.most,pat:=a.pat,aft:=a.aft }:=by unfold j3a;rw[if_neg (λh=>absurd h.1 (by decide))];unfold p7a;rw[if_pos rfl]
  have LF:Below w.heap.size w w9:=c0a LT3.out O9.out hwr;refine bodyPost_ret (v:=.agg C3.toArray) ?_ rfl ⟨_,rfl,by rw[hwr'];exact⟨none,0,0,none,0,0,none,0,0,HEQ,o1a.nil _ _ _,Holds.nil _ _,T0a.nil _ _ _ _⟩,LF⟩;exact Y0a rfl _ _ r _ _ (0,0) _ rfl K9.out Tryz.underlying34 rfl (by rw[n0a];have:=HL3.out;simp[this])
 ·subst h16;go_enter Tryz.func100,Tryz.ntmps100;go_wp2_with(first
   | ((with_reducible refine sN 3 ?_);refine a0a rfl _ (.tmp 1) rfl cs rfl ?_;intro g w1 hg1 hg2 K1 L1)
   | ((with_reducible refine sN 4 ?_);refine b0a rfl _ rfl zs _ ZH ?_;intro r w2 hg3 hg4 R2 L02;have K2:=hI (K1.out.over L02.out);have L2:=hI (step L1.out L02.out);obtain⟨c55,c57,c58,c63,c64,c65,c66,c67,c68⟩:=FC.out w2 g K2.out;have hsz2:=L2.out.size;have hgr:g≠r:=(by omega);have hwr:w.heap.size<=r:=(by have:=L1.out.size;omega))
   | ((with_reducible refine sN 8 ?_);refine x0a rfl _ _ rfl C0 (by refine Eq.trans ?_ BF;kernel_rfl) ?_)
   | ((with_reducible refine sN 5 ?_);refine b0a rfl _ rfl zs _ ZH ?_;intro h w3 hg5 hg6 X3' L03;have K3:=hI (K2.out.over L03.out);have R3:=hI (R2.out.over L03.out);have L3:=hI (step L2.out L03.out);have hgh:g≠h:=(by have:=K2.out.lt;omega);have hrh:r≠h:=(by have:=R2.out.lt;omega);have hwh:w.heap.size<=h:=(by omega))
   | ((with_reducible refine sT 5 ?_);refine e0a rfl _ (.tmp 5) (.tmp 8) rfl h rfl _ zs C0 rfl X3' 69 n0a HZ HF0 HF1 ?_;intro w4 X0 O4 hg7;have K4:=hI (K3.out.only O4.out hgh);have R4:=hI (R3.out.only O4.out hrh);have L4:=hI (c0a L3.out O4.out hwh);clear c55 c57 c58 c63 c64 c65 c66 c67 c68;obtain⟨c55,c57,c58,c63,c64,c65,c66,c67,c68⟩:=FC.out w4 g K4.out)
   | ((with_reducible refine sN 57 ?_);refine d0a rfl _ (.tmp 5) rfl h rfl _ C0 X0 69 _ Tryz.underlying34 rfl n0a HF0 ?_)
   | ((with_reducible refine sT 4 ?_);refine e0a rfl _ (.tmp 4) (.tmp 57) rfl r rfl _ zs C0 rfl R4 69 n0a HZ HF0 HF1 ?_;intro w9 K9 O9 hg9)
   | fail)
  have HEQ:C0=l0a (.slice none 0 0) (.slice none 0 0) (.slice none 0 0) { k0a with file:=a.file }:=by rw[HC0.out]
  have hwr':j3a 16 a={ k0a with file:=a.file }:=by unfold j3a;rw[if_neg (λh=>absurd h.1 (by decide))];unfold p7a;rw[if_neg (by decide),if_pos rfl]
  have LF:Below w.heap.size w w9:=c0a L4.out O9.out hwr;refine bodyPost_ret (v:=.agg C0.toArray) ?_ rfl ⟨_,rfl,by rw[hwr'];exact⟨none,0,0,none,0,0,none,0,0,HEQ,o1a.nil _ _ _,Holds.nil _ _,T0a.nil _ _ _ _⟩,LF⟩;exact Y0a rfl _ _ r _ _ (0,0) _ rfl K9.out Tryz.underlying34 rfl (by rw[n0a];have:=HF0.out;simp[this])
 ·subst h17;by_cases c1:a.cls=1
  ·have cf1:(a.cls==1)=true:=by simpa using c1
   have cf2:(a.cls==2)=false:=by rw[beq_eq_false_iff_ne];omega
   have cf3:(a.cls==3)=false:=by rw[beq_eq_false_iff_ne];omega
   have Hc1:=hI c1;clear c1;go_enter Tryz.func100,Tryz.ntmps100;go_wp2_with(first
    | ((with_reducible refine sN 3 ?_);refine a0a rfl _ (.tmp 1) rfl cs rfl ?_;intro g w1 hg1 hg2 K1 L1)
    | ((with_reducible refine sN 4 ?_);refine b0a rfl _ rfl zs _ ZH ?_;intro r w2 hg3 hg4 R2 L02;have K2:=hI (K1.out.over L02.out);have L2:=hI (step L1.out L02.out);obtain⟨c55,c57,c58,c63,c64,c65,c66,c67,c68⟩:=FC.out w2 g K2.out;have hsz2:=L2.out.size;have hgr:g≠r:=(by omega);have hwr:w.heap.size<=r:=(by have:=L1.out.size;omega))
    | ((with_reducible refine sN 8 ?_);refine x0a rfl _ _ rfl C0 (by refine Eq.trans ?_ BF;kernel_rfl) ?_)
    | ((with_reducible refine sN 5 ?_);refine b0a rfl _ rfl zs _ ZH ?_;intro h w3 hg5 hg6 X3' L03;have K3:=hI (K2.out.over L03.out);have R3:=hI (R2.out.over L03.out);have L3:=hI (step L2.out L03.out);have hgh:g≠h:=(by have:=K2.out.lt;omega);have hrh:r≠h:=(by have:=R2.out.lt;omega);have hwh:w.heap.size<=h:=(by omega))
    | ((with_reducible refine sT 5 ?_);refine e0a rfl _ (.tmp 5) (.tmp 8) rfl h rfl _ zs C0 rfl X3' 69 n0a HZ HF0 HF1 ?_;intro w4 X0 O4 hg7;have K4:=hI (K3.out.only O4.out hgh);have R4:=hI (R3.out.only O4.out hrh);have L4:=hI (c0a L3.out O4.out hwh);clear c55 c57 c58 c63 c64 c65 c66 c67 c68;obtain⟨c55,c57,c58,c63,c64,c65,c66,c67,c68⟩:=FC.out w4 g K4.out)
    | ((with_reducible refine sT 28 ?_);refine h0a rfl _ (.tmp 28) (.tmp 27) rfl h 66 rfl _ C0 (.int .u16 a.cls) rfl X0 (hI (by have:=HF0.out;omega)) (by kernel_rfl) rfl ?_;intro x1 XS1 O1 hq1;obtain⟨C1,hC1⟩:∃x,x=C0.set 66 (.int .u16 a.cls):=⟨_,rfl⟩;have HC1:=hI hC1;have HL1:Hid (C1.length=69):=(by rw[hC1,List.length_set];exact HF0.out);have H11:Hid (∀v∈C1,v.oneCell'=true):=(by rw[hC1];intro v hv;rcases List.mem_or_eq_of_mem_set hv with hv | hv;exact HF1.out v hv;rw[hv];rfl);rw[<-hC1] at XS1;have KS1:=hI (K4.out.only O1.out hgh);have RT1:=hI (R4.out.only O1.out hrh);have LT1:=hI (c0a L4.out O1.out hwh);clear hC1 c55 c57 c58 c63 c64 c65 c66 c67 c68;obtain⟨c55,c57,c58,c63,c64,c65,c66,c67,c68⟩:=FC.out x1 g KS1.out)
    | ((with_reducible refine sT 34 ?_);refine h0a rfl _ (.tmp 34) (.tmp 33) rfl h 67 rfl _ C1 (.int .u64 a.siz) rfl XS1 (hI (by have:=HL1.out;omega)) (by kernel_rfl) rfl ?_;intro x2 XS2 O2 hq2;obtain⟨C2,hC2⟩:∃x,x=C1.set 67 (.int .u64 a.siz):=⟨_,rfl⟩;have HC2:=hI hC2;have HL2:Hid (C2.length=69):=(by rw[hC2,List.length_set];exact HL1.out);have H12:Hid (∀v∈C2,v.oneCell'=true):=(by rw[hC2];intro v hv;rcases List.mem_or_eq_of_mem_set hv with hv | hv;exact H11.out v hv;rw[hv];rfl);rw[<-hC2] at XS2;have KS2:=hI (KS1.out.only O2.out hgh);have RT2:=hI (RT1.out.only O2.out hrh);have LT2:=hI (c0a LT1.out O2.out hwh);clear hC2 c55 c57 c58 c63 c64 c65 c66 c67 c68;obtain⟨c55,c57,c58,c63,c64,c65,c66,c67,c68⟩:=FC.out x2 g KS2.out)
    | ((with_reducible refine sN 57 ?_);refine d0a rfl _ (.tmp 5) rfl h rfl _ C2 XS2 69 _ Tryz.underlying34 rfl n0a HL2 ?_)
    | ((with_reducible refine sT 4 ?_);refine e0a rfl _ (.tmp 4) (.tmp 57) rfl r rfl _ zs C2 rfl RT2 69 n0a HZ HL2 H12 ?_;intro w9 K9 O9 hg9)
    | fail)
   have HEQ:C2=l0a (.slice none 0 0) (.slice none 0 0) (.slice none 0 0) { k0a with file:=a.file,cls:=a.cls,siz:=a.siz }:=by rw[HC2.out,HC1.out,HC0.out];rfl
   have hwr':j3a 17 a={ k0a with file:=a.file,cls:=a.cls,siz:=a.siz }:=by have c1:=Hc1.out;unfold j3a;rw[if_neg (λh=>h.2 (by omega))];unfold p7a;rw[if_neg (by decide),if_neg (by decide),if_pos rfl,if_pos c1]
   have LF:Below w.heap.size w w9:=c0a LT2.out O9.out hwr;refine bodyPost_ret (v:=.agg C2.toArray) ?_ rfl ⟨_,rfl,by rw[hwr'];exact⟨none,0,0,none,0,0,none,0,0,HEQ,o1a.nil _ _ _,Holds.nil _ _,T0a.nil _ _ _ _⟩,LF⟩;exact Y0a rfl _ _ r _ _ (0,0) _ rfl K9.out Tryz.underlying34 rfl (by rw[n0a];have:=HL2.out;simp[this])
  ·by_cases c2:a.cls=2
   ·have cf1:(a.cls==1)=false:=by simpa using c1
    have cf2:(a.cls==2)=true:=by simpa using c2
    have cf3:(a.cls==3)=false:=by rw[beq_eq_false_iff_ne];omega
    have Hc1:=hI c1;have Hc2:=hI c2;clear c1 c2;go_enter Tryz.func100,Tryz.ntmps100;go_wp2_with(first
     | ((with_reducible refine sN 3 ?_);refine a0a rfl _ (.tmp 1) rfl cs rfl ?_;intro g w1 hg1 hg2 K1 L1)
     | ((with_reducible refine sN 4 ?_);refine b0a rfl _ rfl zs _ ZH ?_;intro r w2 hg3 hg4 R2 L02;have K2:=hI (K1.out.over L02.out);have L2:=hI (step L1.out L02.out);obtain⟨c55,c57,c58,c63,c64,c65,c66,c67,c68⟩:=FC.out w2 g K2.out;have hsz2:=L2.out.size;have hgr:g≠r:=(by omega);have hwr:w.heap.size<=r:=(by have:=L1.out.size;omega))
     | ((with_reducible refine sN 8 ?_);refine x0a rfl _ _ rfl C0 (by refine Eq.trans ?_ BF;kernel_rfl) ?_)
     | ((with_reducible refine sN 5 ?_);refine b0a rfl _ rfl zs _ ZH ?_;intro h w3 hg5 hg6 X3' L03;have K3:=hI (K2.out.over L03.out);have R3:=hI (R2.out.over L03.out);have L3:=hI (step L2.out L03.out);have hgh:g≠h:=(by have:=K2.out.lt;omega);have hrh:r≠h:=(by have:=R2.out.lt;omega);have hwh:w.heap.size<=h:=(by omega))
     | ((with_reducible refine sT 5 ?_);refine e0a rfl _ (.tmp 5) (.tmp 8) rfl h rfl _ zs C0 rfl X3' 69 n0a HZ HF0 HF1 ?_;intro w4 X0 O4 hg7;have K4:=hI (K3.out.only O4.out hgh);have R4:=hI (R3.out.only O4.out hrh);have L4:=hI (c0a L3.out O4.out hwh);clear c55 c57 c58 c63 c64 c65 c66 c67 c68;obtain⟨c55,c57,c58,c63,c64,c65,c66,c67,c68⟩:=FC.out w4 g K4.out)
     | ((with_reducible refine sT 28 ?_);refine h0a rfl _ (.tmp 28) (.tmp 27) rfl h 66 rfl _ C0 (.int .u16 a.cls) rfl X0 (hI (by have:=HF0.out;omega)) (by kernel_rfl) rfl ?_;intro x1 XS1 O1 hq1;obtain⟨C1,hC1⟩:∃x,x=C0.set 66 (.int .u16 a.cls):=⟨_,rfl⟩;have HC1:=hI hC1;have HL1:Hid (C1.length=69):=(by rw[hC1,List.length_set];exact HF0.out);have H11:Hid (∀v∈C1,v.oneCell'=true):=(by rw[hC1];intro v hv;rcases List.mem_or_eq_of_mem_set hv with hv | hv;exact HF1.out v hv;rw[hv];rfl);rw[<-hC1] at XS1;have KS1:=hI (K4.out.only O1.out hgh);have RT1:=hI (R4.out.only O1.out hrh);have LT1:=hI (c0a L4.out O1.out hwh);clear hC1 c55 c57 c58 c63 c64 c65 c66 c67 c68;obtain⟨c55,c57,c58,c63,c64,c65,c66,c67,c68⟩:=FC.out x1 g KS1.out)
     | ((with_reducible refine sT 45 ?_);refine h0a rfl _ (.tmp 45) (.tmp 44) rfl h 68 rfl _ C1 (.bool a.on) rfl XS1 (hI (by have:=HL1.out;omega)) (by kernel_rfl) rfl ?_;intro x2 XS2 O2 hq2;obtain⟨C2,hC2⟩:∃x,x=C1.set 68 (.bool a.on):=⟨_,rfl⟩;have HC2:=hI hC2;have HL2:Hid (C2.length=69):=(by rw[hC2,List.length_set];exact HL1.out);have H12:Hid (∀v∈C2,v.oneCell'=true):=(by rw[hC2];intro v hv;rcases List.mem_or_eq_of_mem_set hv with hv | hv;exact H11.out v hv;rw[hv];rfl);rw[<-hC2] at XS2;have KS2:=hI (KS1.out.only O2.out hgh);have RT2:=hI (RT1.out.only O2.out hrh);have LT2:=hI (c0a LT1.out O2.out hwh);clear hC2 c55 c57 c58 c63 c64 c65 c66 c67 c68;obtain⟨c55,c57,c58,c63,c64,c65,c66,c67,c68⟩:=FC.out x2 g KS2.out)
     | ((with_reducible refine sN 57 ?_);refine d0a rfl _ (.tmp 5) rfl h rfl _ C2 XS2 69 _ Tryz.underlying34 rfl n0a HL2 ?_)
     | ((with_reducible refine sT 4 ?_);refine e0a rfl _ (.tmp 4) (.tmp 57) rfl r rfl _ zs C2 rfl RT2 69 n0a HZ HL2 H12 ?_;intro w9 K9 O9 hg9)
     | fail)
    have HEQ:C2=l0a (.slice none 0 0) (.slice none 0 0) (.slice none 0 0) { k0a with file:=a.file,cls:=a.cls,on:=a.on }:=by rw[HC2.out,HC1.out,HC0.out];rfl
    have hwr':j3a 17 a={ k0a with file:=a.file,cls:=a.cls,on:=a.on }:=by have c1:=Hc1.out;have c2:=Hc2.out;unfold j3a;rw[if_neg (λh=>h.2 (by omega))];unfold p7a;rw[if_neg (by decide),if_neg (by decide),if_pos rfl,if_neg c1,if_pos c2]
    have LF:Below w.heap.size w w9:=c0a LT2.out O9.out hwr;refine bodyPost_ret (v:=.agg C2.toArray) ?_ rfl ⟨_,rfl,by rw[hwr'];exact⟨none,0,0,none,0,0,none,0,0,HEQ,o1a.nil _ _ _,Holds.nil _ _,T0a.nil _ _ _ _⟩,LF⟩;exact Y0a rfl _ _ r _ _ (0,0) _ rfl K9.out Tryz.underlying34 rfl (by rw[n0a];have:=HL2.out;simp[this])
   ·by_cases c3:a.cls=3
    ·have cf1:(a.cls==1)=false:=by simpa using c1
     have cf2:(a.cls==2)=false:=by simpa using c2
     have cf3:(a.cls==3)=true:=by simpa using c3
     have Hc1:=hI c1;have Hc2:=hI c2;have Hc3:=hI c3;clear c1 c2 c3;go_enter Tryz.func100,Tryz.ntmps100;go_wp2_with(first
      | ((with_reducible refine sN 3 ?_);refine a0a rfl _ (.tmp 1) rfl cs rfl ?_;intro g w1 hg1 hg2 K1 L1)
      | ((with_reducible refine sN 4 ?_);refine b0a rfl _ rfl zs _ ZH ?_;intro r w2 hg3 hg4 R2 L02;have K2:=hI (K1.out.over L02.out);have L2:=hI (step L1.out L02.out);obtain⟨c55,c57,c58,c63,c64,c65,c66,c67,c68⟩:=FC.out w2 g K2.out;have hsz2:=L2.out.size;have hgr:g≠r:=(by omega);have hwr:w.heap.size<=r:=(by have:=L1.out.size;omega))
      | ((with_reducible refine sN 8 ?_);refine x0a rfl _ _ rfl C0 (by refine Eq.trans ?_ BF;kernel_rfl) ?_)
      | ((with_reducible refine sN 5 ?_);refine b0a rfl _ rfl zs _ ZH ?_;intro h w3 hg5 hg6 X3' L03;have K3:=hI (K2.out.over L03.out);have R3:=hI (R2.out.over L03.out);have L3:=hI (step L2.out L03.out);have hgh:g≠h:=(by have:=K2.out.lt;omega);have hrh:r≠h:=(by have:=R2.out.lt;omega);have hwh:w.heap.size<=h:=(by omega))
      | ((with_reducible refine sT 5 ?_);refine e0a rfl _ (.tmp 5) (.tmp 8) rfl h rfl _ zs C0 rfl X3' 69 n0a HZ HF0 HF1 ?_;intro w4 X0 O4 hg7;have K4:=hI (K3.out.only O4.out hgh);have R4:=hI (R3.out.only O4.out hrh);have L4:=hI (c0a L3.out O4.out hwh);clear c55 c57 c58 c63 c64 c65 c66 c67 c68;obtain⟨c55,c57,c58,c63,c64,c65,c66,c67,c68⟩:=FC.out w4 g K4.out)
      | ((with_reducible refine sT 28 ?_);refine h0a rfl _ (.tmp 28) (.tmp 27) rfl h 66 rfl _ C0 (.int .u16 a.cls) rfl X0 (hI (by have:=HF0.out;omega)) (by kernel_rfl) rfl ?_;intro x1 XS1 O1 hq1;obtain⟨C1,hC1⟩:∃x,x=C0.set 66 (.int .u16 a.cls):=⟨_,rfl⟩;have HC1:=hI hC1;have HL1:Hid (C1.length=69):=(by rw[hC1,List.length_set];exact HF0.out);have H11:Hid (∀v∈C1,v.oneCell'=true):=(by rw[hC1];intro v hv;rcases List.mem_or_eq_of_mem_set hv with hv | hv;exact HF1.out v hv;rw[hv];rfl);rw[<-hC1] at XS1;have KS1:=hI (K4.out.only O1.out hgh);have RT1:=hI (R4.out.only O1.out hrh);have LT1:=hI (c0a L4.out O1.out hwh);clear hC1 c55 c57 c58 c63 c64 c65 c66 c67 c68;obtain⟨c55,c57,c58,c63,c64,c65,c66,c67,c68⟩:=FC.out x1 g KS1.out)
      | ((with_reducible refine sT 45 ?_);refine h0a rfl _ (.tmp 45) (.tmp 44) rfl h 68 rfl _ C1 (.bool a.on) rfl XS1 (hI (by have:=HL1.out;omega)) (by kernel_rfl) rfl ?_;intro x2 XS2 O2 hq2;obtain⟨C2,hC2⟩:∃x,x=C1.set 68 (.bool a.on):=⟨_,rfl⟩;have HC2:=hI hC2;have HL2:Hid (C2.length=69):=(by rw[hC2,List.length_set];exact HL1.out);have H12:Hid (∀v∈C2,v.oneCell'=true):=(by rw[hC2];intro v hv;rcases List.mem_or_eq_of_mem_set hv with hv | hv;exact H11.out v hv;rw[hv];rfl);rw[<-hC2] at XS2;have KS2:=hI (KS1.out.only O2.out hgh);have RT2:=hI (RT1.out.only O2.out hrh);have LT2:=hI (c0a LT1.out O2.out hwh);clear hC2 c55 c57 c58 c63 c64 c65 c66 c67 c68;obtain⟨c55,c57,c58,c63,c64,c65,c66,c67,c68⟩:=FC.out x2 g KS2.out)
      | ((with_reducible refine sT 51 ?_);refine h0a rfl _ (.tmp 51) (.tmp 50) rfl h 58 rfl _ C2 (.string a.name) rfl XS2 (hI (by have:=HL2.out;omega)) (by kernel_rfl) rfl ?_;intro x3 XS3 O3 hq3;obtain⟨C3,hC3⟩:∃x,x=C2.set 58 (.string a.name):=⟨_,rfl⟩;have HC3:=hI hC3;have HL3:Hid (C3.length=69):=(by rw[hC3,List.length_set];exact HL2.out);have H13:Hid (∀v∈C3,v.oneCell'=true):=(by rw[hC3];intro v hv;rcases List.mem_or_eq_of_mem_set hv with hv | hv;exact H12.out v hv;rw[hv];rfl);rw[<-hC3] at XS3;have KS3:=hI (KS2.out.only O3.out hgh);have RT3:=hI (RT2.out.only O3.out hrh);have LT3:=hI (c0a LT2.out O3.out hwh);clear hC3 c55 c57 c58 c63 c64 c65 c66 c67 c68;obtain⟨c55,c57,c58,c63,c64,c65,c66,c67,c68⟩:=FC.out x3 g KS3.out)
      | ((with_reducible refine sN 57 ?_);refine d0a rfl _ (.tmp 5) rfl h rfl _ C3 XS3 69 _ Tryz.underlying34 rfl n0a HL3 ?_)
      | ((with_reducible refine sT 4 ?_);refine e0a rfl _ (.tmp 4) (.tmp 57) rfl r rfl _ zs C3 rfl RT3 69 n0a HZ HL3 H13 ?_;intro w9 K9 O9 hg9)
      | fail)
     have HEQ:C3=l0a (.slice none 0 0) (.slice none 0 0) (.slice none 0 0) { k0a with file:=a.file,cls:=a.cls,on:=a.on,name:=a.name }:=by rw[HC3.out,HC2.out,HC1.out,HC0.out];rfl
     have hwr':j3a 17 a={ k0a with file:=a.file,cls:=a.cls,on:=a.on,name:=a.name }:=by have c1:=Hc1.out;have c2:=Hc2.out;have c3:=Hc3.out;unfold j3a;rw[if_neg (λh=>h.2 (by omega))];unfold p7a;rw[if_neg (by decide),if_neg (by decide),if_pos rfl,if_neg c1,if_neg c2]
     have LF:Below w.heap.size w w9:=c0a LT3.out O9.out hwr;refine bodyPost_ret (v:=.agg C3.toArray) ?_ rfl ⟨_,rfl,by rw[hwr'];exact⟨none,0,0,none,0,0,none,0,0,HEQ,o1a.nil _ _ _,Holds.nil _ _,T0a.nil _ _ _ _⟩,LF⟩;exact Y0a rfl _ _ r _ _ (0,0) _ rfl K9.out Tryz.underlying34 rfl (by rw[n0a];have:=HL3.out;simp[this])
    ·have cf1:(a.cls==1)=false:=by simpa using c1
     have cf2:(a.cls==2)=false:=by simpa using c2
     have cf3:(a.cls==3)=false:=by simpa using c3
     have Hc1:=hI c1;have Hc2:=hI c2;have Hc3:=hI c3;clear c1 c2 c3;go_enter Tryz.func100,Tryz.ntmps100;go_wp2_with(first
      | ((with_reducible refine sN 3 ?_);refine a0a rfl _ (.tmp 1) rfl cs rfl ?_;intro g w1 hg1 hg2 K1 L1)
      | ((with_reducible refine sN 4 ?_);refine b0a rfl _ rfl zs _ ZH ?_;intro r w2 hg3 hg4 R2 L02;have K2:=hI (K1.out.over L02.out);have L2:=hI (step L1.out L02.out);obtain⟨c55,c57,c58,c63,c64,c65,c66,c67,c68⟩:=FC.out w2 g K2.out;have hsz2:=L2.out.size;have hgr:g≠r:=(by omega);have hwr:w.heap.size<=r:=(by have:=L1.out.size;omega))
      | ((with_reducible refine sN 8 ?_);refine x0a rfl _ _ rfl C0 (by refine Eq.trans ?_ BF;kernel_rfl) ?_)
      | ((with_reducible refine sN 5 ?_);refine b0a rfl _ rfl zs _ ZH ?_;intro h w3 hg5 hg6 X3' L03;have K3:=hI (K2.out.over L03.out);have R3:=hI (R2.out.over L03.out);have L3:=hI (step L2.out L03.out);have hgh:g≠h:=(by have:=K2.out.lt;omega);have hrh:r≠h:=(by have:=R2.out.lt;omega);have hwh:w.heap.size<=h:=(by omega))
      | ((with_reducible refine sT 5 ?_);refine e0a rfl _ (.tmp 5) (.tmp 8) rfl h rfl _ zs C0 rfl X3' 69 n0a HZ HF0 HF1 ?_;intro w4 X0 O4 hg7;have K4:=hI (K3.out.only O4.out hgh);have R4:=hI (R3.out.only O4.out hrh);have L4:=hI (c0a L3.out O4.out hwh);clear c55 c57 c58 c63 c64 c65 c66 c67 c68;obtain⟨c55,c57,c58,c63,c64,c65,c66,c67,c68⟩:=FC.out w4 g K4.out)
      | ((with_reducible refine sT 28 ?_);refine h0a rfl _ (.tmp 28) (.tmp 27) rfl h 66 rfl _ C0 (.int .u16 a.cls) rfl X0 (hI (by have:=HF0.out;omega)) (by kernel_rfl) rfl ?_;intro x1 XS1 O1 hq1;obtain⟨C1,hC1⟩:∃x,x=C0.set 66 (.int .u16 a.cls):=⟨_,rfl⟩;have HC1:=hI hC1;have HL1:Hid (C1.length=69):=(by rw[hC1,List.length_set];exact HF0.out);have H11:Hid (∀v∈C1,v.oneCell'=true):=(by rw[hC1];intro v hv;rcases List.mem_or_eq_of_mem_set hv with hv | hv;exact HF1.out v hv;rw[hv];rfl);rw[<-hC1] at XS1;have KS1:=hI (K4.out.only O1.out hgh);have RT1:=hI (R4.out.only O1.out hrh);have LT1:=hI (c0a L4.out O1.out hwh);clear hC1 c55 c57 c58 c63 c64 c65 c66 c67 c68;obtain⟨c55,c57,c58,c63,c64,c65,c66,c67,c68⟩:=FC.out x1 g KS1.out)
      | ((with_reducible refine sN 57 ?_);refine d0a rfl _ (.tmp 5) rfl h rfl _ C1 XS1 69 _ Tryz.underlying34 rfl n0a HL1 ?_)
      | ((with_reducible refine sT 4 ?_);refine e0a rfl _ (.tmp 4) (.tmp 57) rfl r rfl _ zs C1 rfl RT1 69 n0a HZ HL1 H11 ?_;intro w9 K9 O9 hg9)
      | fail)
     have HEQ:C1=l0a (.slice none 0 0) (.slice none 0 0) (.slice none 0 0) { k0a with file:=a.file,cls:=a.cls }:=by rw[HC1.out,HC0.out];rfl
     have hwr':j3a 17 a={ k0a with file:=a.file,cls:=a.cls }:=by have c1:=Hc1.out;have c2:=Hc2.out;have c3:=Hc3.out;unfold j3a;rw[if_pos ⟨rfl,by omega⟩]
     have LF:Below w.heap.size w w9:=c0a LT1.out O9.out hwr;refine bodyPost_ret (v:=.agg C1.toArray) ?_ rfl ⟨_,rfl,by rw[hwr'];exact⟨none,0,0,none,0,0,none,0,0,HEQ,o1a.nil _ _ _,Holds.nil _ _,T0a.nil _ _ _ _⟩,LF⟩;exact Y0a rfl _ _ r _ _ (0,0) _ rfl K9.out Tryz.underlying34 rfl (by rw[n0a];have:=HL1.out;simp[this])
 ·subst h18;go_enter Tryz.func100,Tryz.ntmps100;go_wp2_with(first
   | ((with_reducible refine sN 3 ?_);refine a0a rfl _ (.tmp 1) rfl cs rfl ?_;intro g w1 hg1 hg2 K1 L1)
   | ((with_reducible refine sN 4 ?_);refine b0a rfl _ rfl zs _ ZH ?_;intro r w2 hg3 hg4 R2 L02;have K2:=hI (K1.out.over L02.out);have L2:=hI (step L1.out L02.out);obtain⟨c55,c57,c58,c63,c64,c65,c66,c67,c68⟩:=FC.out w2 g K2.out;have hsz2:=L2.out.size;have hgr:g≠r:=(by omega);have hwr:w.heap.size<=r:=(by have:=L1.out.size;omega))
   | ((with_reducible refine sN 8 ?_);refine x0a rfl _ _ rfl C0 (by refine Eq.trans ?_ BF;kernel_rfl) ?_)
   | ((with_reducible refine sN 5 ?_);refine b0a rfl _ rfl zs _ ZH ?_;intro h w3 hg5 hg6 X3' L03;have K3:=hI (K2.out.over L03.out);have R3:=hI (R2.out.over L03.out);have L3:=hI (step L2.out L03.out);have hgh:g≠h:=(by have:=K2.out.lt;omega);have hrh:r≠h:=(by have:=R2.out.lt;omega);have hwh:w.heap.size<=h:=(by omega))
   | ((with_reducible refine sT 5 ?_);refine e0a rfl _ (.tmp 5) (.tmp 8) rfl h rfl _ zs C0 rfl X3' 69 n0a HZ HF0 HF1 ?_;intro w4 X0 O4 hg7;have K4:=hI (K3.out.only O4.out hgh);have R4:=hI (R3.out.only O4.out hrh);have L4:=hI (c0a L3.out O4.out hwh);clear c55 c57 c58 c63 c64 c65 c66 c67 c68;obtain⟨c55,c57,c58,c63,c64,c65,c66,c67,c68⟩:=FC.out w4 g K4.out)
   | ((with_reducible refine sT 56 ?_);refine h0a rfl _ (.tmp 56) (.tmp 55) rfl h 55 rfl _ C0 (.int .u8 a.lev) rfl X0 (hI (by have:=HF0.out;omega)) (by kernel_rfl) rfl ?_;intro x1 XS1 O1 hq1;obtain⟨C1,hC1⟩:∃x,x=C0.set 55 (.int .u8 a.lev):=⟨_,rfl⟩;have HC1:=hI hC1;have HL1:Hid (C1.length=69):=(by rw[hC1,List.length_set];exact HF0.out);have H11:Hid (∀v∈C1,v.oneCell'=true):=(by rw[hC1];intro v hv;rcases List.mem_or_eq_of_mem_set hv with hv | hv;exact HF1.out v hv;rw[hv];rfl);rw[<-hC1] at XS1;have KS1:=hI (K4.out.only O1.out hgh);have RT1:=hI (R4.out.only O1.out hrh);have LT1:=hI (c0a L4.out O1.out hwh);clear hC1 c55 c57 c58 c63 c64 c65 c66 c67 c68;obtain⟨c55,c57,c58,c63,c64,c65,c66,c67,c68⟩:=FC.out x1 g KS1.out)
   | ((with_reducible refine sN 57 ?_);refine d0a rfl _ (.tmp 5) rfl h rfl _ C1 XS1 69 _ Tryz.underlying34 rfl n0a HL1 ?_)
   | ((with_reducible refine sT 4 ?_);refine e0a rfl _ (.tmp 4) (.tmp 57) rfl r rfl _ zs C1 rfl RT1 69 n0a HZ HL1 H11 ?_;intro w9 K9 O9 hg9)
   | fail)
  have HEQ:C1=l0a (.slice none 0 0) (.slice none 0 0) (.slice none 0 0) { k0a with file:=a.file,lev:=a.lev }:=by rw[HC1.out,HC0.out];rfl
  have hwr':j3a 18 a={ k0a with file:=a.file,lev:=a.lev }:=by unfold j3a;rw[if_neg (λh=>absurd h.1 (by decide))];unfold p7a;rw[if_neg (by decide),if_neg (by decide),if_neg (by decide),if_pos rfl]
  have LF:Below w.heap.size w w9:=c0a LT1.out O9.out hwr;refine bodyPost_ret (v:=.agg C1.toArray) ?_ rfl ⟨_,rfl,by rw[hwr'];exact⟨none,0,0,none,0,0,none,0,0,HEQ,o1a.nil _ _ _,Holds.nil _ _,T0a.nil _ _ _ _⟩,LF⟩;exact Y0a rfl _ _ r _ _ (0,0) _ rfl K9.out Tryz.underlying34 rfl (by rw[n0a];have:=HL1.out;simp[this])
def Y4a(w:World)(c:Int)(a:m1a)(e:Ending)(w':World):Prop:=∃v,e=.returned (.tuple #[v,.int .i64 (I2a c a)])/\Own w' w.heap.size v (h1b c a)/\Below w.heap.size w w'
theorem HoldsI.lit{w:World}{g:Nat}{xs:List Int}{n:Nat}(h:Blk w g 5 (xs.map (Value.int .u8)))(hn:xs.length=n)(hx:Bytes xs)(hs:n<=1000):Holds w (g+1) (some ⟨g,0,none⟩) n n xs:=by refine⟨hn,Nat.le_refl _,by omega,hx,λhA=>(by cases hA),λ_=>⟨g,0,rfl,by omega,λi hi=>?_⟩⟩;rw[Nat.zero_add,h.cell i];simp[hn,hi]
theorem n2b(w:World)(c:Int)(cs:List Value)(a:m1a)(hc:0<=c/\c<=65535)(ka:a.ok)(ha:b1a w w.heap.size cs a)(hlen:a.dial.length<=281474976710656/\a.data.length<=281474976710656/\a.locks.length<=281474976710656)(hnm:a.name.size<=4398046511104/\a.pat.size<=4398046511104/\a.aft.size<=4398046511104) :
  Calls Tryz.prog 57 #[.int .u16 c,.agg cs.toArray] w (Y4a w c a):=by
 have HL:=hI (ha.len ka);have HA:=hI ha;obtain⟨hn1,hn2,hn3⟩:=hnm;have CK:Hid (∀w:World,Calls Tryz.prog 95 #[.int .u16 c] w λe w'=>e=.returned (.bool (E3a c))/\w=w'):=λw=>V9a w c hc
 have HE:Hid (∀er,I2a c a=er->er≠0->∀e w',e=.returned (.tuple #[.slice none 0 0,.int .i64 er])->Below w.heap.size w w'->Y4a w c a e w'):=by intro er h1 h2 e w' he hb;unfold Y4a h1b;rw[h1,if_neg h2];exact⟨_,he,Own.nil _ _,hb⟩
 by_cases hk:E3a c=true;rotate_left
 ·have hkf:E3a c=false:=by simpa using hk
  have HQ:=hI (HE.out 2 (by unfold I2a x3a;rw[hkf];rfl) (by decide));rw[hkf] at CK;clear hk hkf HE ha ka HA hlen;go_enter Tryz.func57,Tryz.ntmps57;go_upto_region 1 with(first
   | ((with_reducible refine sN 3 ?_);refine a0a rfl _ (.tmp 1) rfl cs rfl ?_;intro g w1 hg1 hg2 K1 L1)
   | fail)
  refine wp_region_held (S:=λw'=>Blk w' g 34 cs) (by kernel_rfl) ?_;change wpAnyH _ _ _ _ _ _ _ _ w1.drew
  have S0:Hid (Blk w1.drew g 34 cs):=K1.out.drew;have b0:Hid (Below w.heap.size w w1.drew):=L1.out.drew;refine tK 0 _ rfl (t0a (by kernel_rfl) (.tmp 0) rfl (.int .u16 c) (by kernel_rfl)) S0.out ?_;refine oN 1 _ rfl λK hK=>?_
  go_simp;refine(CK.out _).mono ?_;rintro e v1 ⟨rfl,rfl⟩;refine hK _ _ S0.out ?_;clear hK K;refine tK 2 ((.bool true)) rfl (.inl ⟨by kernel_rfl,λw _=>by go_simp⟩) S0.out ?_;refine tK 3 _ rfl (t0a (by kernel_rfl) (.tmp 9) rfl (.bool true) (by kernel_rfl)) S0.out ?_;refine tK 4 undef rfl (.inr ⟨by kernel_rfl,rfl⟩) S0.out ?_;refine tK 5 undef rfl (.inr ⟨by kernel_rfl,rfl⟩) S0.out ?_;refine tK 7 undef rfl (.inr ⟨by kernel_rfl,rfl⟩) S0.out ?_;refine tK 6 undef rfl (.inr ⟨by kernel_rfl,rfl⟩) S0.out ?_;refine tK 8 undef rfl (.inr ⟨by kernel_rfl,rfl⟩) S0.out ?_;refine tK 9 undef rfl (.inr ⟨by kernel_rfl,rfl⟩) S0.out ?_;refine tK 10 ((.bool true)) rfl (.inl ⟨by kernel_rfl,λw _=>by go_simp⟩) S0.out ?_;refine tK 11 _ rfl (t0a (by kernel_rfl) (.tmp 17) rfl (.bool true) (by kernel_rfl)) S0.out ?_;refine tK 12 undef rfl (.inr ⟨by kernel_rfl,rfl⟩) S0.out ?_;refine tK 13 undef rfl (.inr ⟨by kernel_rfl,rfl⟩) S0.out ?_;refine tK 14 undef rfl (.inr ⟨by kernel_rfl,rfl⟩) S0.out ?_;refine tK 15 undef rfl (.inr ⟨by kernel_rfl,rfl⟩) S0.out ?_;refine tK 16 undef rfl (.inr ⟨by kernel_rfl,rfl⟩) S0.out ?_;refine tK 17 undef rfl (.inr ⟨by kernel_rfl,rfl⟩) S0.out ?_;refine tK 18 undef rfl (.inr ⟨by kernel_rfl,rfl⟩) S0.out ?_;refine tK 19 undef rfl (.inr ⟨by kernel_rfl,rfl⟩) S0.out ?_;refine tK 20 undef rfl (.inr ⟨by kernel_rfl,rfl⟩) S0.out ?_;refine tK 21 undef rfl (.inr ⟨by kernel_rfl,rfl⟩) S0.out ?_;refine tK 22 undef rfl (.inr ⟨by kernel_rfl,rfl⟩) S0.out ?_;refine tK 23 undef rfl (.inr ⟨by kernel_rfl,rfl⟩) S0.out ?_;refine tK 24 ((.bool true)) rfl (.inl ⟨by kernel_rfl,λw _=>by go_simp⟩) S0.out ?_;refine dN ?_;go_simp;go_wp2;go_ret2;exact HQ.out _ _ rfl b0.out
 rw[hk] at CK;have CA:Hid (∀w',Below w.heap.size w w'->Calls Tryz.prog 100 #[.int .u16 c,.agg cs.toArray] w' λe w2=>∃ds:List Value,e=.returned (.agg ds.toArray)/\b1a w2 w2.heap.size ds (j3a c a)/\Below w'.heap.size w' w2):=λw' hb=>x4b w' c cs a hc hk ka (HA.out.over hb)
 have CS:Hid (∀(w':World) (ds:List Value),b1a w' w'.heap.size ds (j3a c a)->Below w.heap.size w w'->Calls Tryz.prog 26 #[.agg ds.toArray,.agg cs.toArray] w' λe w2=>e=.returned (.bool (decide (j3a c a=a)))/\Below w'.heap.size w' w2):=λw' ds hds hb=>m5a w' ds cs _ a (m7b ka) ka hds (HA.out.over hb) b6b hlen
 have FC:Hid (∀(w:World) (g:Nat),Blk w g 34 cs->w.cell? ⟨g,55,none⟩=some (.int .u8 a.lev)/\w.cell? ⟨g,57,none⟩=some (.int .u64 a.file)/\w.cell? ⟨g,58,none⟩=some (.string a.name)/\w.cell? ⟨g,63,none⟩=some (.int .u16 a.most)/\w.cell? ⟨g,64,none⟩=some (.string a.pat)/\w.cell? ⟨g,65,none⟩=some (.string a.aft)/\w.cell? ⟨g,66,none⟩=some (.int .u16 a.cls)/\w.cell? ⟨g,67,none⟩=some (.int .u64 a.siz)/\w.cell? ⟨g,68,none⟩=some (.bool a.on)):=by obtain⟨A1,A2,A3,X1,X2,X3,M1,M2,M3,rfl,hA,hX,hM⟩:=ha;exact λw g h=>⟨h.at (j0a ka 6),h.at (j0a ka 8),h.at (j0a ka 9),h.at (j0a ka 14),h.at (j0a ka 15),h.at (j0a ka 16),h.at (j0a ka 17),h.at (j0a ka 18),h.at (j0a ka 19)⟩
 have CU:Hid (∀(w:World) (b:Bool),Calls Tryz.prog 96 #[.bool b] w λe w'=>e=.returned (.int .u64 (U0a b))/\w=w'):=W9a;obtain⟨l_lev,u_lev⟩:=ka.lev;obtain⟨l_file,u_file⟩:=ka.file;obtain⟨l_most,u_most⟩:=ka.most;obtain⟨l_cls,u_cls⟩:=ka.cls;obtain⟨l_siz,u_siz⟩:=ka.siz;have z_most:IntKind.u64.wrap a.most=a.most:=by rw[IntKind.wrap_u64];omega
 have z_cls:IntKind.u64.wrap a.cls=a.cls:=by rw[IntKind.wrap_u64];omega
 have tro:=z5a a.on;obtain⟨tr0,tr1⟩:=tro;have CL2:Hid (∀(w':World) (B:Nat) (v:Value) (xs:List Int) (n:Int),Own w' B v xs->xs.length<=1000000->B<=w'.heap.size->0<=n->n<=65535->Calls Tryz.prog 94 #[v,.int .u64 n,.int .i64 2] w' λe w2=>∃v',e=.returned v'/\Own w2 B v' (xs++le n 2)/\Below B w' w2):=λw' B v xs n ho hx hb h0 h1=>u3a w' B v xs n 2 65536 (by decide) (by decide) (by decide) ho hx hb h0 (by omega)
 have CL4:Hid (∀(w':World) (B:Nat) (v:Value) (xs:List Int) (n:Int),Own w' B v xs->xs.length<=1000000->B<=w'.heap.size->0<=n->n<=4294967295->Calls Tryz.prog 94 #[v,.int .u64 n,.int .i64 4] w' λe w2=>∃v',e=.returned v'/\Own w2 B v' (xs++le n 4)/\Below B w' w2):=λw' B v xs n ho hx hb h0 h1=>u3a w' B v xs n 4 4294967296 (by decide) (by decide) (by decide) ho hx hb h0 (by omega)
 have CL8:Hid (∀(w':World) (B:Nat) (v:Value) (xs:List Int) (n:Int),Own w' B v xs->xs.length<=1000000->B<=w'.heap.size->0<=n->n<=18446744073709551615->Calls Tryz.prog 94 #[v,.int .u64 n,.int .i64 8] w' λe w2=>∃v',e=.returned v'/\Own w2 B v' (xs++le n 8)/\Below B w' w2):=λw' B v xs n ho hx hb h0 h1=>u3a w' B v xs n 8 18446744073709551616 (by decide) (by decide) (by decide) ho hx hb h0 (by omega)
 have HQ0:Hid (I2a c a=0->∀v e w',e=.returned (.tuple #[v,.int .i64 0])->Own w' w.heap.size v (y3a c a)->Below w.heap.size w w'->Y4a w c a e w'):=by intro h v e w' he hv hb;unfold Y4a h1b;rw[h,if_pos rfl];exact⟨_,he,hv,hb⟩
 have HQT:Hid (∀(ss:List ByteArray) (X:List Int),I2a c a=e1a ss->(e1a ss=0->X++l3a ss=y3a c a)->∀(v:Value) (e:Ending) (w':World),e=.returned (.tuple #[v,.int .i64 (e1a ss)])->Own w' w.heap.size v (if e1a ss=0 then X++l3a ss else [])->Below w.heap.size w w'->Y4a w c a e w'):=by
  intro ss X h1 h2 v e w' he hv hb;unfold Y4a h1b;rw[h1];refine⟨v,he,?_,hb⟩;by_cases h3:e1a ss=0
  ·rw[if_pos h3] at hv⊢;rw[<-h2 h3];exact hv
  ·rw[if_neg h3] at hv⊢;exact hv
 have hnm0:j3a c a=a->∀h17:(c=17->1<=a.cls/\a.cls<=3),x3a c a=true:=λhw h17=>by
  have h1:p7a c a=a:=by rw[<-k3b h17];exact hw
  unfold x3a;rw[hk,(H8a c a).2 h1,Bool.true_and];by_cases h2:c=17
  ·obtain⟨h3,h4⟩:=h17 h2;unfold U5a;rw[decide_eq_true h3,decide_eq_true h4];simp
  ·rw[decide_eq_false h2];simp
 have HNM:=hI hnm0;clear hnm0;obtain⟨z,hz⟩:∃z,z=decide (j3a c a=a):=⟨_,rfl⟩;rw[<-hz] at CS;have HZD:=hI hz;have HK:=hI hk;clear hz hk HA ha hlen;go_enter Tryz.func57,Tryz.ntmps57;go_upto_region 1 with(first
  | ((with_reducible refine sN 3 ?_);refine a0a rfl _ (.tmp 1) rfl cs rfl ?_;intro g w1 hg1 hg2 K1 L1)
  | fail)
 refine wp_region_held (S:=λw'=>Blk w' g 34 cs) (by kernel_rfl) ?_;change wpAnyH _ _ _ _ _ _ _ _ w1.drew
 have S0:Hid (Blk w1.drew g 34 cs):=K1.out.drew;have b0:Hid (Below w.heap.size w w1.drew):=L1.out.drew;refine tK 0 _ rfl (t0a (by kernel_rfl) (.tmp 0) rfl (.int .u16 c) (by kernel_rfl)) S0.out ?_;refine oN 1 _ rfl λK hK=>?_
 go_simp;refine(CK.out _).mono ?_;rintro e v1 ⟨rfl,rfl⟩;refine hK _ _ S0.out ?_;clear hK K;refine tK 2 ((.bool false)) rfl (.inl ⟨by kernel_rfl,λw _=>by go_simp⟩) S0.out ?_;refine tK 3 _ rfl (t0a (by kernel_rfl) (.tmp 9) rfl (.bool false) (by kernel_rfl)) S0.out ?_;refine tK 4 _ rfl (t0a (by kernel_rfl) (.tmp 0) rfl (.int .u16 c) (by kernel_rfl)) S0.out ?_;refine tK 5 _ rfl (T1a (by kernel_rfl) _ (.tmp 3) rfl g (by kernel_rfl) _ cs (λw h=>h) 69 _ Tryz.underlying34 rfl n0a HL) S0.out ?_;refine tK 7 _ rfl (T1a (by kernel_rfl) _ (.tmp 3) rfl g (by kernel_rfl) _ cs (λw h=>h) 69 _ Tryz.underlying34 rfl n0a HL) S0.out ?_;refine oN 6 _ rfl λK hK=>?_
 go_simp;refine(CA.out _ b0.out).mono ?_;rintro e v1 ⟨ds,rfl,hds,L01⟩;have S1:=hI (S0.out.over L01);have b1:=hI (step b0.out L01);have HDS:=hI hds;refine hK _ _ S1.out ?_;clear hK K hds L01;refine oN 8 _ rfl λK hK=>?_
 go_simp;refine(CS.out _ ds HDS.out b1.out).mono ?_;rintro e w3 ⟨rfl,L02⟩;have S2:=hI (S1.out.over L02);have M3:=hI (step b1.out L02);refine hK _ _ S2.out ?_;clear hK K L02 HDS S1 b1;cases z
 ·have hw:¬j3a c a=a:=of_decide_eq_false HZD.out.symm;have hnb:x3a c a=false:=by
   unfold x3a;by_cases hcl:c=17/\¬(1<=a.cls/\a.cls<=3)
   ·have h1:U5a a=false:=by
     unfold U5a;by_cases h2:1<=a.cls
     ·have h3:¬a.cls<=3:=λh3=>hcl.2 ⟨h2,h3⟩
      rw[decide_eq_false h3,Bool.and_false]
     ·rw[decide_eq_false h2,Bool.false_and]
    rw[h1,hcl.1];simp
   ·have h1:j3a c a=p7a c a:=by unfold j3a;rw[if_neg hcl]
    have h2:b2a c a≠k0a:=λh=>hw (by rw[h1];exact(H8a c a).1 h)
    rw[decide_eq_false h2];simp
  have HQ:=hI (HE.out 2 (by unfold I2a;rw[hnb];rfl) (by decide));clear hw hnb HE;refine tK 9 ((.bool true)) rfl (.inl ⟨by kernel_rfl,λw _=>by go_simp⟩) S2.out ?_;refine tK 10 ((.bool true)) rfl (.inl ⟨by kernel_rfl,λw _=>by go_simp⟩) S2.out ?_;refine tK 11 _ rfl (t0a (by kernel_rfl) (.tmp 17) rfl (.bool true) (by kernel_rfl)) S2.out ?_;refine tK 12 undef rfl (.inr ⟨by kernel_rfl,rfl⟩) S2.out ?_;refine tK 13 undef rfl (.inr ⟨by kernel_rfl,rfl⟩) S2.out ?_;refine tK 14 undef rfl (.inr ⟨by kernel_rfl,rfl⟩) S2.out ?_;refine tK 15 undef rfl (.inr ⟨by kernel_rfl,rfl⟩) S2.out ?_;refine tK 16 undef rfl (.inr ⟨by kernel_rfl,rfl⟩) S2.out ?_;refine tK 17 undef rfl (.inr ⟨by kernel_rfl,rfl⟩) S2.out ?_;refine tK 18 undef rfl (.inr ⟨by kernel_rfl,rfl⟩) S2.out ?_;refine tK 19 undef rfl (.inr ⟨by kernel_rfl,rfl⟩) S2.out ?_;refine tK 20 undef rfl (.inr ⟨by kernel_rfl,rfl⟩) S2.out ?_;refine tK 21 undef rfl (.inr ⟨by kernel_rfl,rfl⟩) S2.out ?_;refine tK 22 undef rfl (.inr ⟨by kernel_rfl,rfl⟩) S2.out ?_;refine tK 23 undef rfl (.inr ⟨by kernel_rfl,rfl⟩) S2.out ?_;refine tK 24 ((.bool true)) rfl (.inl ⟨by kernel_rfl,λw _=>by go_simp⟩) S2.out ?_;refine dN ?_;go_simp;go_wp2;go_ret2;exact HQ.out _ _ rfl M3.out
 refine tK 9 ((.bool false)) rfl (.inl ⟨by kernel_rfl,λw _=>by go_simp⟩) S2.out ?_;refine tK 10 ((.bool false)) rfl (.inl ⟨by kernel_rfl,λw _=>by go_simp⟩) S2.out ?_;refine tK 11 _ rfl (t0a (by kernel_rfl) (.tmp 17) rfl (.bool false) (by kernel_rfl)) S2.out ?_;have hw:j3a c a=a:=of_decide_eq_true HZD.out.symm;have hnm:=HNM.out hw;have hcc:=g4a HK.out;clear HK HZD HNM hw;by_cases h17:c=17;rotate_left
 ·have b17:(c==17)=false:=by simpa using h17
  refine tK 12 _ rfl (t0a (by kernel_rfl) (.tmp 0) rfl (.int .u16 c) (by kernel_rfl)) S2.out ?_;refine tK 13 ((.bool false)) rfl (.inl ⟨by kernel_rfl,λw _=>by go_simp⟩) S2.out ?_;refine tK 14 _ rfl (t0a (by kernel_rfl) (.tmp 20) rfl (.bool false) (by kernel_rfl)) S2.out ?_;refine tK 15 undef rfl (.inr ⟨by kernel_rfl,rfl⟩) S2.out ?_;refine tK 16 undef rfl (.inr ⟨by kernel_rfl,rfl⟩) S2.out ?_;refine tK 17 undef rfl (.inr ⟨by kernel_rfl,rfl⟩) S2.out ?_;refine tK 18 undef rfl (.inr ⟨by kernel_rfl,rfl⟩) S2.out ?_;refine tK 19 undef rfl (.inr ⟨by kernel_rfl,rfl⟩) S2.out ?_;refine tK 20 undef rfl (.inr ⟨by kernel_rfl,rfl⟩) S2.out ?_;refine tK 21 undef rfl (.inr ⟨by kernel_rfl,rfl⟩) S2.out ?_;refine tK 22 undef rfl (.inr ⟨by kernel_rfl,rfl⟩) S2.out ?_;refine tK 23 ((.bool false)) rfl (.inl ⟨by kernel_rfl,λw _=>by go_simp⟩) S2.out ?_;refine tK 24 ((.bool false)) rfl (.inl ⟨by kernel_rfl,λw _=>by go_simp⟩) S2.out ?_;refine dN ?_;go_simp;have K3:=hI S2.out;clear S0 b0 K1 L1 S2;clear b17;rcases hcc with h12 | h14 | h16 | h17' | h18
  ·subst h12;have he0:I2a 12 a=0:=by unfold I2a;rw[if_pos (hnm (λh=>absurd h (by decide))),if_neg (by decide),if_neg (λh=>absurd h.1 (by decide))]
   have HQ:=hI (HQ0.out he0);have hb0:y3a 12 a=List.replicate 4 0:=by unfold y3a;rw[if_neg (by decide),if_neg (by decide),if_neg (by decide),if_neg (by decide)]
   rw[hb0] at HQ;clear HQ0 HQT hb0 he0 hnm;have N0:Hid (Below w3.heap.size w3 w3):=Below.refl _ _;have H00:Hid (Own w3 w3.heap.size (.slice none 0 0) []):=Own.nil _ _;have hg3:g<w3.heap.size:=K3.out.lt;have hs3:=M3.out.size;obtain⟨c55,c57,c58,c63,c64,c65,c66,c67,c68⟩:=FC.out w3 g K3.out;go_wp2_with fail;refine(CL4.out w3 w3.heap.size _ ([]) 0 H00.out (by simp) N0.out.size (Int.le_refl 0) (by decide)).mono ?_;rintro e y1 ⟨v1,rfl,ho1,L1⟩;have HO1:=hI ho1;have N1:=hI (N0.out.trans L1);have Ky1:=hI (K3.out.below N1.out hg3);clear ho1 L1;clear c55 c57 c58 c63 c64 c65 c66 c67 c68;obtain⟨c55,c57,c58,c63,c64,c65,c66,c67,c68⟩:=FC.out y1 g Ky1.out;go_wp2;go_ret2;refine HQ.out _ _ _ rfl ?_ (M3.out.trans (N1.out.mono hs3));have h9:=Own.mono HO1.out hs3;rw[show le 0 4=List.replicate 4 0 from rfl] at h9;simpa using h9
  ·subst h14;obtain⟨ss,hss⟩:∃ss:List ByteArray,ss=[a.pat,a.aft]:=⟨_,rfl⟩;have HSS:=hI hss;have HSZ:Hid (∀s∈ss,s.size<=4398046511104):=by
    show _
    rw[hss];intro s hs;simp only[List.mem_cons,List.not_mem_nil,or_false] at hs;rcases hs with rfl | rfl<;>assumption
   have he0:I2a 14 a=e1a ss:=by rw[hss];show _=if u0a a.pat.data.toList=0 then (if u0a a.aft.data.toList=0 then 0 else u0a a.aft.data.toList) else u0a a.pat.data.toList;unfold I2a;rw[if_pos (hnm (λh=>absurd h (by decide))),if_pos rfl];split;(split;(rename_i h;exact h);rfl);rfl
   have HQ:=hI (HQT.out ss (((([]++le a.file 8)++le a.most 2)++le 0 2)) he0 (λ_=>by rw[hss];unfold y3a;rw[if_pos rfl];show _++(G0a a.pat.data.toList++(G0a a.aft.data.toList++[]))=_;rw[show le 0 2=List.replicate 2 0 from rfl];simp only[List.append_assoc,List.append_nil,List.nil_append]));clear HQ0 HQT he0 hnm hss;have N0:Hid (Below w3.heap.size w3 w3):=Below.refl _ _;have H00:Hid (Own w3 w3.heap.size (.slice none 0 0) []):=Own.nil _ _;have hg3:g<w3.heap.size:=K3.out.lt;have hs3:=M3.out.size;obtain⟨c55,c57,c58,c63,c64,c65,c66,c67,c68⟩:=FC.out w3 g K3.out;go_wp2_with fail;refine(CL8.out w3 w3.heap.size _ ([]) a.file H00.out (by simp) N0.out.size l_file u_file).mono ?_;rintro e y1 ⟨v1,rfl,ho1,L1⟩;have HO1:=hI ho1;have N1:=hI (N0.out.trans L1);have Ky1:=hI (K3.out.below N1.out hg3);clear ho1 L1;clear c55 c57 c58 c63 c64 c65 c66 c67 c68;obtain⟨c55,c57,c58,c63,c64,c65,c66,c67,c68⟩:=FC.out y1 g Ky1.out;go_wp2_with fail;refine(CL2.out y1 w3.heap.size _ ([]++le a.file 8) a.most HO1.out (by simp[m0a]) N1.out.size l_most u_most).mono ?_;rintro e y2 ⟨v2,rfl,ho2,L2⟩;have HO2:=hI ho2;have N2:=hI (N1.out.trans L2);have Ky2:=hI (K3.out.below N2.out hg3);clear ho2 L2;clear c55 c57 c58 c63 c64 c65 c66 c67 c68;obtain⟨c55,c57,c58,c63,c64,c65,c66,c67,c68⟩:=FC.out y2 g Ky2.out;go_wp2_with fail;refine(CL2.out y2 w3.heap.size _ (([]++le a.file 8)++le a.most 2) 0 HO2.out (by simp[m0a]) N2.out.size (Int.le_refl 0) (by decide)).mono ?_;rintro e y3 ⟨v3,rfl,ho3,L3⟩;have HO3:=hI ho3;have N3:=hI (N2.out.trans L3);have Ky3:=hI (K3.out.below N3.out hg3);clear ho3 L3;clear c55 c57 c58 c63 c64 c65 c66 c67 c68;obtain⟨c55,c57,c58,c63,c64,c65,c66,c67,c68⟩:=FC.out y3 g Ky3.out;go_wp2_with(first
    | ((with_reducible refine sN 55 ?_);refine K0a rfl _ _ 2 _ rfl Tryz.underlying121 ([.string a.pat,.string a.aft]:List Value) (by kernel_rfl) ?_;intro gl z1 hz1 hz2 Yl Ll;have HOl:=hI (Own.below HO3.out Ll.out);have Nl:=hI (N3.out.trans (Ll.out.mono N3.out.size)))
    | fail)
   refine(p8a z1 w3.heap.size gl 2 _ ((([]++le a.file 8)++le a.most 2)++le 0 2) ss HOl.out Nl.out.size (by rw[HSS.out];exact Yl.out) (by rw[HSS.out];rfl) (by decide) HSZ.out (by simp[m0a])).mono ?_;rintro e z2 ⟨vt,rfl,ho9,L9⟩;have N9:=hI (Nl.out.trans L9);have HO9:=hI ho9;clear ho9 L9;obtain⟨er,her⟩:∃x,x=e1a ss:=⟨_,rfl⟩;rw[<-her] at HO9 HQ⊢;clear her;go_wp2;go_ret2;exact HQ.out _ _ _ rfl (Own.mono HO9.out hs3) (M3.out.trans (N9.out.mono hs3))
  ·subst h16;have he0:I2a 16 a=0:=by unfold I2a;rw[if_pos (hnm (λh=>absurd h (by decide))),if_neg (by decide),if_neg (λh=>absurd h.1 (by decide))]
   have HQ:=hI (HQ0.out he0);have hb0:y3a 16 a=le a.file 8:=by unfold y3a;rw[if_neg (by decide),if_pos rfl]
   rw[hb0] at HQ;clear HQ0 HQT hb0 he0 hnm;have N0:Hid (Below w3.heap.size w3 w3):=Below.refl _ _;have H00:Hid (Own w3 w3.heap.size (.slice none 0 0) []):=Own.nil _ _;have hg3:g<w3.heap.size:=K3.out.lt;have hs3:=M3.out.size;obtain⟨c55,c57,c58,c63,c64,c65,c66,c67,c68⟩:=FC.out w3 g K3.out;go_wp2_with fail;refine(CL8.out w3 w3.heap.size _ ([]) a.file H00.out (by simp) N0.out.size l_file u_file).mono ?_;rintro e y1 ⟨v1,rfl,ho1,L1⟩;have HO1:=hI ho1;have N1:=hI (N0.out.trans L1);have Ky1:=hI (K3.out.below N1.out hg3);clear ho1 L1;clear c55 c57 c58 c63 c64 c65 c66 c67 c68;obtain⟨c55,c57,c58,c63,c64,c65,c66,c67,c68⟩:=FC.out y1 g Ky1.out;go_wp2;go_ret2;refine HQ.out _ _ _ rfl ?_ (M3.out.trans (N1.out.mono hs3));have h9:=Own.mono HO1.out hs3;simpa[List.append_assoc] using h9
  ·exact absurd h17' h17
  ·subst h18;have hld:Bytes [a.lev,0,0,0]:=by intro x hx;simp only[List.mem_cons,List.not_mem_nil,or_false] at hx;rcases hx with hx | hx | hx | hx<;>omega
   have HLD:=hI hld;clear hld;have he0:I2a 18 a=0:=by unfold I2a;rw[if_pos (hnm (λh=>absurd h (by decide))),if_neg (by decide),if_neg (λh=>absurd h.1 (by decide))]
   have HQ:=hI (HQ0.out he0);have hb0:y3a 18 a=le a.file 8++[a.lev,0,0,0]:=by unfold y3a;rw[if_neg (by decide),if_neg (by decide),if_neg (by decide),if_pos rfl];show le a.file 8++([a.lev%256]++[0,0,0])=_;rw[show a.lev%256=a.lev from by omega];rfl
   rw[hb0] at HQ;clear HQ0 HQT hb0 he0 hnm;have N0:Hid (Below w3.heap.size w3 w3):=Below.refl _ _;have H00:Hid (Own w3 w3.heap.size (.slice none 0 0) []):=Own.nil _ _;have hg3:g<w3.heap.size:=K3.out.lt;have hs3:=M3.out.size;obtain⟨c55,c57,c58,c63,c64,c65,c66,c67,c68⟩:=FC.out w3 g K3.out;go_wp2_with fail;refine(CL8.out w3 w3.heap.size _ ([]) a.file H00.out (by simp) N0.out.size l_file u_file).mono ?_;rintro e y1 ⟨v1,rfl,ho1,L1⟩;have HO1:=hI ho1;have N1:=hI (N0.out.trans L1);have Ky1:=hI (K3.out.below N1.out hg3);clear ho1 L1;clear c55 c57 c58 c63 c64 c65 c66 c67 c68;obtain⟨c55,c57,c58,c63,c64,c65,c66,c67,c68⟩:=FC.out y1 g Ky1.out;go_wp2_with(first
    | ((with_reducible refine sN 93 ?_);refine K0a rfl _ _ 4 _ rfl Tryz.underlying31 ([.int .u8 a.lev,.int .u8 0,.int .u8 0,.int .u8 0]:List Value) (by kernel_rfl) ?_;intro gl z1 hz1 hz2 Yl Ll;have HOl:=hI (Own.below HO1.out Ll.out);have Nl:=hI (N1.out.trans (Ll.out.mono N1.out.size));have HHl:=hI (HoldsI.lit (xs:=[a.lev,0,0,0]) (n:=4) Yl.out rfl HLD.out (by decide)))
    | (at_builtin;refine D0a rfl (.tmp 90) (.tmp 93) rfl w3.heap.size _ ([]++le a.file 8) rfl HOl.out (gl+1) _ 4 4 [a.lev,0,0,0] rfl HHl.out (by simp only[List.length_append,m0a,List.length_nil,List.length_cons];omega) Nl.out.size ?_;intro va z2 hoa hba hgra;have HO5:=hI hoa.out;have N5:=hI (Nl.out.trans hba);clear hoa hba hgra)
    | fail)
   go_ret2;refine HQ.out _ _ _ rfl ?_ (M3.out.trans (N5.out.mono hs3));have h9:=Own.mono HO5.out hs3;simpa[List.append_assoc] using h9
 ·subst h17;by_cases hcl:1<=a.cls/\a.cls<=3;rotate_left
  ·have hcf:U5a a=false:=by
    unfold U5a;by_cases h2:1<=a.cls
    ·have h3:¬a.cls<=3:=λh3=>hcl ⟨h2,h3⟩
     rw[decide_eq_false h3,Bool.and_false]
    ·rw[decide_eq_false h2,Bool.false_and]
   have HQ:=hI (HE.out 2 (by unfold I2a x3a;rw[hcf];simp) (by decide));clear HQ0 HQT hnm hcf;by_cases h2:1<=a.cls
   ·have h3:¬a.cls<=3:=λh3=>hcl ⟨h2,h3⟩
    clear hcl;obtain⟨q,hq⟩:∃q,q=a.cls:=⟨_,rfl⟩;rw[<-hq] at FC h2 h3;clear hq z_cls;refine tK 12 _ rfl (t0a (by kernel_rfl) (.tmp 0) rfl (.int .u16 17) (by kernel_rfl)) S2.out ?_;refine tK 13 ((.bool true)) rfl (.inl ⟨by kernel_rfl,λw _=>by go_simp⟩) S2.out ?_;refine tK 14 _ rfl (t0a (by kernel_rfl) (.tmp 20) rfl (.bool true) (by kernel_rfl)) S2.out ?_;refine tK 15 _ rfl (g0a (by kernel_rfl) _ (.tmp 3) 20 rfl (.pointer (some ⟨g,0,none⟩)) (.pointer (some ⟨g,66,none⟩)) (by kernel_rfl) (A1a g)) S2.out ?_;refine tK 16 _ rfl (i0a (by kernel_rfl) _ (.tmp 22) rfl g 66 (by kernel_rfl) (.int .u16 q) (λw h=>(FC.out w g h).2.2.2.2.2.2.1) _ Tryz.underlying22 rfl) S2.out ?_;refine tK 17 ((.bool false)) rfl (.inl ⟨by kernel_rfl,λw _=>by go_simp;try omega⟩) S2.out ?_;refine tK 18 _ rfl (t0a (by kernel_rfl) (.tmp 24) rfl (.bool false) (by kernel_rfl)) S2.out ?_;refine tK 19 _ rfl (g0a (by kernel_rfl) _ (.tmp 3) 20 rfl (.pointer (some ⟨g,0,none⟩)) (.pointer (some ⟨g,66,none⟩)) (by kernel_rfl) (A1a g)) S2.out ?_;refine tK 20 _ rfl (i0a (by kernel_rfl) _ (.tmp 26) rfl g 66 (by kernel_rfl) (.int .u16 q) (λw h=>(FC.out w g h).2.2.2.2.2.2.1) _ Tryz.underlying22 rfl) S2.out ?_;refine tK 21 ((.bool true)) rfl (.inl ⟨by kernel_rfl,λw _=>by go_simp;try omega⟩) S2.out ?_;refine tK 22 ((.bool true)) rfl (.inl ⟨by kernel_rfl,λw _=>by go_simp⟩) S2.out ?_;refine tK 23 ((.bool true)) rfl (.inl ⟨by kernel_rfl,λw _=>by go_simp⟩) S2.out ?_;refine tK 24 ((.bool true)) rfl (.inl ⟨by kernel_rfl,λw _=>by go_simp⟩) S2.out ?_;refine dN ?_;go_simp;have K3:=hI S2.out;clear S0 b0 K1 L1 S2;go_wp2;go_ret2;exact HQ.out _ _ rfl M3.out
   ·have h3:a.cls=0:=by omega
    rw[h3] at FC;clear hcl h2 h3 z_cls;refine tK 12 _ rfl (t0a (by kernel_rfl) (.tmp 0) rfl (.int .u16 17) (by kernel_rfl)) S2.out ?_;refine tK 13 ((.bool true)) rfl (.inl ⟨by kernel_rfl,λw _=>by go_simp⟩) S2.out ?_;refine tK 14 _ rfl (t0a (by kernel_rfl) (.tmp 20) rfl (.bool true) (by kernel_rfl)) S2.out ?_;refine tK 15 _ rfl (g0a (by kernel_rfl) _ (.tmp 3) 20 rfl (.pointer (some ⟨g,0,none⟩)) (.pointer (some ⟨g,66,none⟩)) (by kernel_rfl) (A1a g)) S2.out ?_;refine tK 16 _ rfl (i0a (by kernel_rfl) _ (.tmp 22) rfl g 66 (by kernel_rfl) (.int .u16 0) (λw h=>(FC.out w g h).2.2.2.2.2.2.1) _ Tryz.underlying22 rfl) S2.out ?_;refine tK 17 ((.bool true)) rfl (.inl ⟨by kernel_rfl,λw _=>by go_simp;try omega⟩) S2.out ?_;refine tK 18 _ rfl (t0a (by kernel_rfl) (.tmp 24) rfl (.bool true) (by kernel_rfl)) S2.out ?_;refine tK 19 undef rfl (.inr ⟨by kernel_rfl,rfl⟩) S2.out ?_;refine tK 20 undef rfl (.inr ⟨by kernel_rfl,rfl⟩) S2.out ?_;refine tK 21 undef rfl (.inr ⟨by kernel_rfl,rfl⟩) S2.out ?_;refine tK 22 ((.bool true)) rfl (.inl ⟨by kernel_rfl,λw _=>by go_simp⟩) S2.out ?_;refine tK 23 ((.bool true)) rfl (.inl ⟨by kernel_rfl,λw _=>by go_simp⟩) S2.out ?_;refine tK 24 ((.bool true)) rfl (.inl ⟨by kernel_rfl,λw _=>by go_simp⟩) S2.out ?_;refine dN ?_;go_simp;have K3:=hI S2.out;clear S0 b0 K1 L1 S2;go_wp2;go_ret2;exact HQ.out _ _ rfl M3.out
  have hnm:=hnm (λ_=>hcl);have hcc:a.cls=1∨a.cls=2∨a.cls=3:=by omega
  clear hcl;rcases hcc with q | q | q
  ·have he0:I2a 17 a=0:=by unfold I2a;rw[if_pos hnm,if_neg (by decide),if_neg (λh=>by have:=h.2;omega)]
   have HQ:=hI (HQ0.out he0);have hb0:y3a 17 a=le a.file 8++(le 1 2++le a.siz 8):=by unfold y3a;rw[if_neg (by decide),if_neg (by decide),if_pos rfl,if_pos q];simp only[q]
   rw[hb0] at HQ;rw[q] at FC;clear HQ0 HQT hb0 he0 hnm z_cls q;refine tK 12 _ rfl (t0a (by kernel_rfl) (.tmp 0) rfl (.int .u16 17) (by kernel_rfl)) S2.out ?_;refine tK 13 ((.bool true)) rfl (.inl ⟨by kernel_rfl,λw _=>by go_simp⟩) S2.out ?_;refine tK 14 _ rfl (t0a (by kernel_rfl) (.tmp 20) rfl (.bool true) (by kernel_rfl)) S2.out ?_;refine tK 15 _ rfl (g0a (by kernel_rfl) _ (.tmp 3) 20 rfl (.pointer (some ⟨g,0,none⟩)) (.pointer (some ⟨g,66,none⟩)) (by kernel_rfl) (A1a g)) S2.out ?_;refine tK 16 _ rfl (i0a (by kernel_rfl) _ (.tmp 22) rfl g 66 (by kernel_rfl) (.int .u16 1) (λw h=>(FC.out w g h).2.2.2.2.2.2.1) _ Tryz.underlying22 rfl) S2.out ?_;refine tK 17 ((.bool false)) rfl (.inl ⟨by kernel_rfl,λw _=>by go_simp;try omega⟩) S2.out ?_;refine tK 18 _ rfl (t0a (by kernel_rfl) (.tmp 24) rfl (.bool false) (by kernel_rfl)) S2.out ?_;refine tK 19 _ rfl (g0a (by kernel_rfl) _ (.tmp 3) 20 rfl (.pointer (some ⟨g,0,none⟩)) (.pointer (some ⟨g,66,none⟩)) (by kernel_rfl) (A1a g)) S2.out ?_;refine tK 20 _ rfl (i0a (by kernel_rfl) _ (.tmp 26) rfl g 66 (by kernel_rfl) (.int .u16 1) (λw h=>(FC.out w g h).2.2.2.2.2.2.1) _ Tryz.underlying22 rfl) S2.out ?_;refine tK 21 ((.bool false)) rfl (.inl ⟨by kernel_rfl,λw _=>by go_simp;try omega⟩) S2.out ?_;refine tK 22 ((.bool false)) rfl (.inl ⟨by kernel_rfl,λw _=>by go_simp⟩) S2.out ?_;refine tK 23 ((.bool false)) rfl (.inl ⟨by kernel_rfl,λw _=>by go_simp⟩) S2.out ?_;refine tK 24 ((.bool false)) rfl (.inl ⟨by kernel_rfl,λw _=>by go_simp⟩) S2.out ?_;refine dN ?_;go_simp;have K3:=hI S2.out;clear S0 b0 K1 L1 S2;have N0:Hid (Below w3.heap.size w3 w3):=Below.refl _ _;have H00:Hid (Own w3 w3.heap.size (.slice none 0 0) []):=Own.nil _ _;have hg3:g<w3.heap.size:=K3.out.lt;have hs3:=M3.out.size;obtain⟨c55,c57,c58,c63,c64,c65,c66,c67,c68⟩:=FC.out w3 g K3.out;go_wp2_with fail;refine(CL8.out w3 w3.heap.size _ ([]) a.file H00.out (by simp) N0.out.size l_file u_file).mono ?_;rintro e y1 ⟨v1,rfl,ho1,L1⟩;have HO1:=hI ho1;have N1:=hI (N0.out.trans L1);have Ky1:=hI (K3.out.below N1.out hg3);clear ho1 L1;clear c55 c57 c58 c63 c64 c65 c66 c67 c68;obtain⟨c55,c57,c58,c63,c64,c65,c66,c67,c68⟩:=FC.out y1 g Ky1.out;go_wp2_with fail;refine(CL2.out y1 w3.heap.size _ ([]++le a.file 8) 1 HO1.out (by simp[m0a]) N1.out.size (by decide) (by decide)).mono ?_;rintro e y2 ⟨v2,rfl,ho2,L2⟩;have HO2:=hI ho2;have N2:=hI (N1.out.trans L2);have Ky2:=hI (K3.out.below N2.out hg3);clear ho2 L2;clear c55 c57 c58 c63 c64 c65 c66 c67 c68;obtain⟨c55,c57,c58,c63,c64,c65,c66,c67,c68⟩:=FC.out y2 g Ky2.out;go_wp2_with fail;refine(CL8.out y2 w3.heap.size _ (([]++le a.file 8)++le 1 2) a.siz HO2.out (by simp[m0a]) N2.out.size l_siz u_siz).mono ?_;rintro e y3 ⟨v3,rfl,ho3,L3⟩;have HO3:=hI ho3;have N3:=hI (N2.out.trans L3);have Ky3:=hI (K3.out.below N3.out hg3);clear ho3 L3;clear c55 c57 c58 c63 c64 c65 c66 c67 c68;obtain⟨c55,c57,c58,c63,c64,c65,c66,c67,c68⟩:=FC.out y3 g Ky3.out;go_wp2;go_ret2;refine HQ.out _ _ _ rfl ?_ (M3.out.trans (N3.out.mono hs3));have h9:=Own.mono HO3.out hs3;simpa[List.append_assoc] using h9
  ·have he0:I2a 17 a=0:=by unfold I2a;rw[if_pos hnm,if_neg (by decide),if_neg (λh=>by have:=h.2;omega)]
   have HQ:=hI (HQ0.out he0);have hb0:y3a 17 a=le a.file 8++(le 2 2++le (U0a a.on) 2):=by unfold y3a;rw[if_neg (by decide),if_neg (by decide),if_pos rfl,if_neg (by omega),if_pos q];simp only[q]
   rw[hb0] at HQ;rw[q] at FC;clear HQ0 HQT hb0 he0 hnm z_cls q;refine tK 12 _ rfl (t0a (by kernel_rfl) (.tmp 0) rfl (.int .u16 17) (by kernel_rfl)) S2.out ?_;refine tK 13 ((.bool true)) rfl (.inl ⟨by kernel_rfl,λw _=>by go_simp⟩) S2.out ?_;refine tK 14 _ rfl (t0a (by kernel_rfl) (.tmp 20) rfl (.bool true) (by kernel_rfl)) S2.out ?_;refine tK 15 _ rfl (g0a (by kernel_rfl) _ (.tmp 3) 20 rfl (.pointer (some ⟨g,0,none⟩)) (.pointer (some ⟨g,66,none⟩)) (by kernel_rfl) (A1a g)) S2.out ?_;refine tK 16 _ rfl (i0a (by kernel_rfl) _ (.tmp 22) rfl g 66 (by kernel_rfl) (.int .u16 2) (λw h=>(FC.out w g h).2.2.2.2.2.2.1) _ Tryz.underlying22 rfl) S2.out ?_;refine tK 17 ((.bool false)) rfl (.inl ⟨by kernel_rfl,λw _=>by go_simp;try omega⟩) S2.out ?_;refine tK 18 _ rfl (t0a (by kernel_rfl) (.tmp 24) rfl (.bool false) (by kernel_rfl)) S2.out ?_;refine tK 19 _ rfl (g0a (by kernel_rfl) _ (.tmp 3) 20 rfl (.pointer (some ⟨g,0,none⟩)) (.pointer (some ⟨g,66,none⟩)) (by kernel_rfl) (A1a g)) S2.out ?_;refine tK 20 _ rfl (i0a (by kernel_rfl) _ (.tmp 26) rfl g 66 (by kernel_rfl) (.int .u16 2) (λw h=>(FC.out w g h).2.2.2.2.2.2.1) _ Tryz.underlying22 rfl) S2.out ?_;refine tK 21 ((.bool false)) rfl (.inl ⟨by kernel_rfl,λw _=>by go_simp;try omega⟩) S2.out ?_;refine tK 22 ((.bool false)) rfl (.inl ⟨by kernel_rfl,λw _=>by go_simp⟩) S2.out ?_;refine tK 23 ((.bool false)) rfl (.inl ⟨by kernel_rfl,λw _=>by go_simp⟩) S2.out ?_;refine tK 24 ((.bool false)) rfl (.inl ⟨by kernel_rfl,λw _=>by go_simp⟩) S2.out ?_;refine dN ?_;go_simp;have K3:=hI S2.out;clear S0 b0 K1 L1 S2;have N0:Hid (Below w3.heap.size w3 w3):=Below.refl _ _;have H00:Hid (Own w3 w3.heap.size (.slice none 0 0) []):=Own.nil _ _;have hg3:g<w3.heap.size:=K3.out.lt;have hs3:=M3.out.size;obtain⟨c55,c57,c58,c63,c64,c65,c66,c67,c68⟩:=FC.out w3 g K3.out;go_wp2_with fail;refine(CL8.out w3 w3.heap.size _ ([]) a.file H00.out (by simp) N0.out.size l_file u_file).mono ?_;rintro e y1 ⟨v1,rfl,ho1,L1⟩;have HO1:=hI ho1;have N1:=hI (N0.out.trans L1);have Ky1:=hI (K3.out.below N1.out hg3);clear ho1 L1;clear c55 c57 c58 c63 c64 c65 c66 c67 c68;obtain⟨c55,c57,c58,c63,c64,c65,c66,c67,c68⟩:=FC.out y1 g Ky1.out;go_wp2_with fail;refine(CL2.out y1 w3.heap.size _ ([]++le a.file 8) 2 HO1.out (by simp[m0a]) N1.out.size (by decide) (by decide)).mono ?_;rintro e y2 ⟨v2,rfl,ho2,L2⟩;have HO2:=hI ho2;have N2:=hI (N1.out.trans L2);have Ky2:=hI (K3.out.below N2.out hg3);clear ho2 L2;clear c55 c57 c58 c63 c64 c65 c66 c67 c68;obtain⟨c55,c57,c58,c63,c64,c65,c66,c67,c68⟩:=FC.out y2 g Ky2.out;go_wp2_with fail;refine(CU.out _ _).mono ?_;rintro e wt ⟨rfl,rfl⟩;go_wp2_with fail;refine(CL2.out y2 w3.heap.size _ (([]++le a.file 8)++le 2 2) (U0a a.on) HO2.out (by simp[m0a]) N2.out.size tr0 (by omega)).mono ?_;rintro e y3 ⟨v3,rfl,ho3,L3⟩;have HO3:=hI ho3;have N3:=hI (N2.out.trans L3);have Ky3:=hI (K3.out.below N3.out hg3);clear ho3 L3;clear c55 c57 c58 c63 c64 c65 c66 c67 c68;obtain⟨c55,c57,c58,c63,c64,c65,c66,c67,c68⟩:=FC.out y3 g Ky3.out;go_wp2;go_ret2;refine HQ.out _ _ _ rfl ?_ (M3.out.trans (N3.out.mono hs3));have h9:=Own.mono HO3.out hs3;simpa[List.append_assoc] using h9
  ·obtain⟨ss,hss⟩:∃ss:List ByteArray,ss=[a.name]:=⟨_,rfl⟩;have HSS:=hI hss;have HSZ:Hid (∀s∈ss,s.size<=4398046511104):=by
    show _
    rw[hss];intro s hs;simp only[List.mem_cons,List.not_mem_nil,or_false] at hs;rcases hs with rfl<;>assumption
   have he0:I2a 17 a=e1a ss:=by rw[hss];show _=if u0a a.name.data.toList=0 then 0 else u0a a.name.data.toList;unfold I2a;rw[if_pos hnm,if_neg (by decide),if_pos ⟨rfl,q⟩];split;(rename_i h;exact h);rfl
   have HQ:=hI (HQT.out ss (((([]++le a.file 8)++le 3 2)++le (U0a a.on) 2)) he0 (λ_=>by rw[hss];unfold y3a;rw[if_neg (by decide),if_neg (by decide),if_pos rfl,if_neg (by omega),if_neg (by omega)];show _++(G0a a.name.data.toList++[])=_;simp only[q,List.append_assoc,List.append_nil,List.nil_append]));clear HQ0 HQT he0 hnm hss;rw[q] at FC;clear q z_cls;refine tK 12 _ rfl (t0a (by kernel_rfl) (.tmp 0) rfl (.int .u16 17) (by kernel_rfl)) S2.out ?_;refine tK 13 ((.bool true)) rfl (.inl ⟨by kernel_rfl,λw _=>by go_simp⟩) S2.out ?_;refine tK 14 _ rfl (t0a (by kernel_rfl) (.tmp 20) rfl (.bool true) (by kernel_rfl)) S2.out ?_;refine tK 15 _ rfl (g0a (by kernel_rfl) _ (.tmp 3) 20 rfl (.pointer (some ⟨g,0,none⟩)) (.pointer (some ⟨g,66,none⟩)) (by kernel_rfl) (A1a g)) S2.out ?_;refine tK 16 _ rfl (i0a (by kernel_rfl) _ (.tmp 22) rfl g 66 (by kernel_rfl) (.int .u16 3) (λw h=>(FC.out w g h).2.2.2.2.2.2.1) _ Tryz.underlying22 rfl) S2.out ?_;refine tK 17 ((.bool false)) rfl (.inl ⟨by kernel_rfl,λw _=>by go_simp;try omega⟩) S2.out ?_;refine tK 18 _ rfl (t0a (by kernel_rfl) (.tmp 24) rfl (.bool false) (by kernel_rfl)) S2.out ?_;refine tK 19 _ rfl (g0a (by kernel_rfl) _ (.tmp 3) 20 rfl (.pointer (some ⟨g,0,none⟩)) (.pointer (some ⟨g,66,none⟩)) (by kernel_rfl) (A1a g)) S2.out ?_;refine tK 20 _ rfl (i0a (by kernel_rfl) _ (.tmp 26) rfl g 66 (by kernel_rfl) (.int .u16 3) (λw h=>(FC.out w g h).2.2.2.2.2.2.1) _ Tryz.underlying22 rfl) S2.out ?_;refine tK 21 ((.bool false)) rfl (.inl ⟨by kernel_rfl,λw _=>by go_simp;try omega⟩) S2.out ?_;refine tK 22 ((.bool false)) rfl (.inl ⟨by kernel_rfl,λw _=>by go_simp⟩) S2.out ?_;refine tK 23 ((.bool false)) rfl (.inl ⟨by kernel_rfl,λw _=>by go_simp⟩) S2.out ?_;refine tK 24 ((.bool false)) rfl (.inl ⟨by kernel_rfl,λw _=>by go_simp⟩) S2.out ?_;refine dN ?_;go_simp;have K3:=hI S2.out;clear S0 b0 K1 L1 S2;have N0:Hid (Below w3.heap.size w3 w3):=Below.refl _ _;have H00:Hid (Own w3 w3.heap.size (.slice none 0 0) []):=Own.nil _ _;have hg3:g<w3.heap.size:=K3.out.lt;have hs3:=M3.out.size;obtain⟨c55,c57,c58,c63,c64,c65,c66,c67,c68⟩:=FC.out w3 g K3.out;go_wp2_with fail;refine(CL8.out w3 w3.heap.size _ ([]) a.file H00.out (by simp) N0.out.size l_file u_file).mono ?_;rintro e y1 ⟨v1,rfl,ho1,L1⟩;have HO1:=hI ho1;have N1:=hI (N0.out.trans L1);have Ky1:=hI (K3.out.below N1.out hg3);clear ho1 L1;clear c55 c57 c58 c63 c64 c65 c66 c67 c68;obtain⟨c55,c57,c58,c63,c64,c65,c66,c67,c68⟩:=FC.out y1 g Ky1.out;go_wp2_with fail;refine(CL2.out y1 w3.heap.size _ ([]++le a.file 8) 3 HO1.out (by simp[m0a]) N1.out.size (by decide) (by decide)).mono ?_;rintro e y2 ⟨v2,rfl,ho2,L2⟩;have HO2:=hI ho2;have N2:=hI (N1.out.trans L2);have Ky2:=hI (K3.out.below N2.out hg3);clear ho2 L2;clear c55 c57 c58 c63 c64 c65 c66 c67 c68;obtain⟨c55,c57,c58,c63,c64,c65,c66,c67,c68⟩:=FC.out y2 g Ky2.out;go_wp2_with fail;refine(CU.out _ _).mono ?_;rintro e wt ⟨rfl,rfl⟩;go_wp2_with fail;refine(CL2.out y2 w3.heap.size _ (([]++le a.file 8)++le 3 2) (U0a a.on) HO2.out (by simp[m0a]) N2.out.size tr0 (by omega)).mono ?_;rintro e y3 ⟨v3,rfl,ho3,L3⟩;have HO3:=hI ho3;have N3:=hI (N2.out.trans L3);have Ky3:=hI (K3.out.below N3.out hg3);clear ho3 L3;clear c55 c57 c58 c63 c64 c65 c66 c67 c68;obtain⟨c55,c57,c58,c63,c64,c65,c66,c67,c68⟩:=FC.out y3 g Ky3.out;go_wp2_with(first
    | ((with_reducible refine sN 84 ?_);refine K0a rfl _ _ 1 _ rfl Tryz.underlying121 ([.string a.name]:List Value) (by kernel_rfl) ?_;intro gl z1 hz1 hz2 Yl Ll;have HOl:=hI (Own.below HO3.out Ll.out);have Nl:=hI (N3.out.trans (Ll.out.mono N3.out.size)))
    | fail)
   refine(p8a z1 w3.heap.size gl 1 _ ((([]++le a.file 8)++le 3 2)++le (U0a a.on) 2) ss HOl.out Nl.out.size (by rw[HSS.out];exact Yl.out) (by rw[HSS.out];rfl) (by decide) HSZ.out (by simp[m0a])).mono ?_;rintro e z2 ⟨vt,rfl,ho9,L9⟩;have N9:=hI (Nl.out.trans L9);have HO9:=hI ho9;clear ho9 L9;obtain⟨er,her⟩:∃x,x=e1a ss:=⟨_,rfl⟩;rw[<-her] at HO9 HQ⊢;clear her;go_wp2;go_ret2;exact HQ.out _ _ _ rfl (Own.mono HO9.out hs3) (M3.out.trans (N9.out.mono hs3))
def Z4a(w:World)(c:Int)(a:E1a)(e:Ending)(w':World):Prop:=∃v,e=.returned (.tuple #[v,.int .i64 (U2a c a)])/\Own w' w.heap.size v (U1b c a)/\Below w.heap.size w w'
theorem c6b{c:Int}{s:E1a}(k:s.ok):(G2a c s).ok:=by
 have z:=C0a;unfold G2a;split
 ·exact⟨z.dia,z.siz,z.clen,z.cbyte,z.lev,z.dur,z.made,z.file,z.kind,z.data,z.n,k.ents⟩
 ·split
  ·exact⟨z.dia,k.siz,z.clen,z.cbyte,z.lev,z.dur,z.made,z.file,k.kind,z.data,z.n,z.ents⟩
  ·split
   ·exact⟨z.dia,z.siz,z.clen,z.cbyte,k.lev,z.dur,z.made,k.file,z.kind,z.data,z.n,z.ents⟩
   ·exact z
theorem d6b:(Tryz.prog.info? 116).map (λi=>(i.zero,i.size))=some (some (.agg ([.int .u8 0,.int .i64 0]:List Value).toArray),2):=by kernel_rfl
theorem o2b(w:World)(c:Int)(cs:List Value)(a:E1a)(hc:0<=c/\c<=65535)(ka:a.ok)(ha:f1a w w.heap.size cs a)(hlen:a.data.length<=281474976710656/\a.ents.length<=281474976710656)(hns:∀e∈a.ents,e.name.size<=4398046511104) :
  Calls Tryz.prog 54 #[.int .u16 c,.agg cs.toArray] w (Z4a w c a):=by
 have HL:=hI (ha.len ka);have HA:=hI ha;have CK:Hid (∀w:World,Calls Tryz.prog 95 #[.int .u16 c] w λe w'=>e=.returned (.bool (E3a c))/\w=w'):=λw=>V9a w c hc
 have HE:Hid (∀er,U2a c a=er->er≠0->∀e w',e=.returned (.tuple #[.slice none 0 0,.int .i64 er])->Below w.heap.size w w'->Z4a w c a e w'):=by intro er h1 h2 e w' he hb;unfold Z4a U1b;rw[h1,if_neg h2];exact⟨_,he,Own.nil _ _,hb⟩
 have ZH:=hI I6a;have ZT:=hI d6b;have HZ:Hid ((s0a (.slice none 0 0) (.slice none 0 0) w0a).length=20):=C1a C0a;obtain⟨X1,X2,X3,M1,M2,M3,hcs,hX,hM⟩:=ha;have FC:Hid (∀(w:World) (g:Nat),Blk w g 39 cs->w.cell? ⟨g,17,none⟩=some (.slice M1 M2 M3)/\w.cell? ⟨g,18,none⟩=some (.bool a.more)/\w.cell? ⟨g,1,none⟩=some (.int .u64 a.siz)/\w.cell? ⟨g,14,none⟩=some (.int .u8 a.kind)/\w.cell? ⟨g,19,none⟩=some (.bool a.gone)/\w.cell? ⟨g,13,none⟩=some (.int .u64 a.file)/\w.cell? ⟨g,10,none⟩=some (.int .u8 a.lev)):=λw g h=>by rw[hcs] at h;exact⟨h.at (z0a ka 7),h.at (z0a ka 8),h.at rfl,h.at (z0a ka 4),h.at (z0a ka 9),h.at (z0a ka 3),h.at (z0a ka 0)⟩
 have hml:a.ents.length=M2:=hM.len;have hmf:=hM.fit;have hmr:M2<=281474976710656:=by rw[<-hml];exact hlen.2
 have HM:=hI hM;obtain⟨zs,hzs⟩:∃x,x=s0a (.slice none 0 0) (.slice none 0 0) w0a:=⟨_,rfl⟩;have HZS:=hI hzs;rw[<-hzs] at ZH HZ;clear hzs;by_cases hk:E3a c=true;rotate_left
 ·have hkf:E3a c=false:=by simpa using hk
  have hk':c≠14/\c≠16/\c≠18:=by refine⟨?_,?_,?_⟩<;>(rintro rfl;exact hk (by decide))
  have hks:Q4a c=false:=by unfold E3a at hkf;simp only[Bool.or_eq_false_iff] at hkf;unfold Q4a;rw[hkf.2.1,hkf.2.2];rfl
  have HQ:=hI (HE.out 2 (by unfold U2a P2a;rw[hks];rfl) (by decide));rw[hkf] at CK;obtain⟨h14,h16,h18⟩:=hk';have b14:(c==14)=false:=by simpa using h14
  have b16:(c==16)=false:=by simpa using h16
  have b18:(c==18)=false:=by simpa using h18
  clear hk hkf hks HE HA hlen hcs hX hM h14 h16 h18 hml;go_enter Tryz.func54,Tryz.ntmps54;go_wp2_with(first
   | ((with_reducible refine sN 3 ?_);refine a0a rfl _ (.tmp 1) rfl cs rfl ?_;intro g w1 hg1 hg2 K1 L1)
   | ((with_reducible refine sN 6 ?_);refine b0a rfl _ rfl zs _ ZH ?_;intro h w2 hg3 hg4 Z2 L02;have K2:=hI (K1.out.over L02.out);have L2:=hI (step L1.out L02.out);obtain⟨c17,c18,c1,c14,c19,c13,c10⟩:=FC.out w2 g K2.out;have hgh:g≠h:=(by omega);have hwh:w.heap.size<=h:=(by have:=L1.out.size;omega))
   | fail)
  refine(CK.out _).mono ?_;rintro e v1 ⟨rfl,rfl⟩;go_wp2;go_ret2;exact HQ.out _ _ rfl L2.out
 rw[hk] at CK;have hcc:=g4a hk;by_cases h12:c=12
 ·subst h12;have HQ:=hI (HE.out 2 (by unfold U2a P2a;rfl) (by decide));clear hk HE HA hlen hcs hX hM hml hcc;go_enter Tryz.func54,Tryz.ntmps54;go_wp2_with(first
   | ((with_reducible refine sN 3 ?_);refine a0a rfl _ (.tmp 1) rfl cs rfl ?_;intro g w1 hg1 hg2 K1 L1)
   | ((with_reducible refine sN 6 ?_);refine b0a rfl _ rfl zs _ ZH ?_;intro h w2 hg3 hg4 Z2 L02;have K2:=hI (K1.out.over L02.out);have L2:=hI (step L1.out L02.out);obtain⟨c17,c18,c1,c14,c19,c13,c10⟩:=FC.out w2 g K2.out;have hgh:g≠h:=(by omega);have hwh:w.heap.size<=h:=(by have:=L1.out.size;omega))
   | fail)
  refine(CK.out _).mono ?_;rintro e v1 ⟨rfl,rfl⟩;go_wp2;go_ret2;exact HQ.out _ _ rfl L2.out
 have hks:Q4a c=true:=by
  rcases hcc with h | h | h | h | h
  ·exact absurd h h12
  ·rw[h];rfl
  ·rw[h];rfl
  ·rw[h];rfl
  ·rw[h];rfl
 have hwl:(G2a c a).data.length<=281474976710656/\(G2a c a).ents.length<=281474976710656:=by
  unfold G2a;split
  ·exact⟨Nat.zero_le _,hlen.2⟩
  ·split
   ·exact⟨Nat.zero_le _,Nat.zero_le _⟩
   ·split<;>exact⟨Nat.zero_le _,Nat.zero_le _⟩
 have CS:Hid (∀(w':World) (ds:List Value),f1a w' w'.heap.size ds (G2a c a)->Below w.heap.size w w'->Calls Tryz.prog 27 #[.agg ds.toArray,.agg cs.toArray] w' λe w2=>e=.returned (.bool (decide (G2a c a=a)))/\Below w'.heap.size w' w2):=λw' ds hds hb=>P6a w' ds cs _ a (c6b ka) ka hds (HA.out.over hb) hwl hlen
 have CU:Hid (∀(w:World) (b:Bool),Calls Tryz.prog 96 #[.bool b] w λe w'=>e=.returned (.int .u64 (U0a b))/\w=w'):=W9a;obtain⟨l_siz,u_siz⟩:=ka.siz;obtain⟨l_kind,u_kind⟩:=ka.kind;obtain⟨l_file,u_file⟩:=ka.file;obtain⟨l_lev,u_lev⟩:=ka.lev;have z_kind:IntKind.u64.wrap a.kind=a.kind:=by rw[IntKind.wrap_u64];omega
 have trm:=z5a a.more;obtain⟨tm0,tm1⟩:=trm;have trg:=z5a a.gone;obtain⟨tg0,tg1⟩:=trg;have CL2:Hid (∀(w':World) (B:Nat) (v:Value) (xs:List Int) (n:Int),Own w' B v xs->xs.length<=1000000->B<=w'.heap.size->0<=n->n<=65535->Calls Tryz.prog 94 #[v,.int .u64 n,.int .i64 2] w' λe w2=>∃v',e=.returned v'/\Own w2 B v' (xs++le n 2)/\Below B w' w2):=λw' B v xs n ho hx hb h0 h1=>u3a w' B v xs n 2 65536 (by decide) (by decide) (by decide) ho hx hb h0 (by omega)
 have CL4:Hid (∀(w':World) (B:Nat) (v:Value) (xs:List Int) (n:Int),Own w' B v xs->xs.length<=1000000->B<=w'.heap.size->0<=n->n<=4294967295->Calls Tryz.prog 94 #[v,.int .u64 n,.int .i64 4] w' λe w2=>∃v',e=.returned v'/\Own w2 B v' (xs++le n 4)/\Below B w' w2):=λw' B v xs n ho hx hb h0 h1=>u3a w' B v xs n 4 4294967296 (by decide) (by decide) (by decide) ho hx hb h0 (by omega)
 have CL8:Hid (∀(w':World) (B:Nat) (v:Value) (xs:List Int) (n:Int),Own w' B v xs->xs.length<=1000000->B<=w'.heap.size->0<=n->n<=18446744073709551615->Calls Tryz.prog 94 #[v,.int .u64 n,.int .i64 8] w' λe w2=>∃v',e=.returned v'/\Own w2 B v' (xs++le n 8)/\Below B w' w2):=λw' B v xs n ho hx hb h0 h1=>u3a w' B v xs n 8 18446744073709551616 (by decide) (by decide) (by decide) ho hx hb h0 (by omega)
 have hne:G2a c a=a↔P2a c a=true:=by unfold P2a;rw[hks,Bool.true_and,decide_eq_true_iff];exact(T7a c a).symm
 have HE2:Hid (¬(P2a c a=true/\a.kind<=2/\a.ents.all t2a=true)->∀e w',e=.returned (.tuple #[.slice none 0 0,.int .i64 2])->Below w.heap.size w w'->Z4a w c a e w'):=λh=>HE.out 2 (by unfold U2a;rw[if_neg h]) (by decide)
 have HQ0:Hid (U2a c a=0->∀v e w',e=.returned (.tuple #[v,.int .i64 0])->Own w' w.heap.size v (r3a c a)->Below w.heap.size w w'->Z4a w c a e w'):=by intro h v e w' he hv hb;unfold Z4a U1b;rw[h,if_pos rfl];exact⟨_,he,hv,hb⟩
 have HCELL:Hid (∀(wr:World),Below w.heap.size w wr->∀(j:Nat) (x:s1a),j<M2->a.ents[j]? = some x->∃b off,M1=some ⟨b,off,none⟩/\wr.cell? ⟨b,off+j*3,none⟩=some (.string x.name)/\wr.cell? ⟨b,off+j*3+1,none⟩=some (.int .u8 x.kind)/\wr.cell? ⟨b,off+j*3+2,none⟩=some (.int .i64 x.size)/\wr.rangeAt b (off+j*3+1) [.int .u8 x.kind,.int .i64 x.size]):=λwr hb j x hj hx=>by obtain⟨b,off,h1,_,h3⟩:=(HM.out.below hb).cells (by omega);have h4:=h3 j x hx;refine⟨b,off,h1,h4 0 _ rfl,h4 1 _ rfl,h4 2 _ rfl,λi u hi=>?_⟩;have h5:=h4 (i+1) u (by simpa[J0a] using hi);rw[show off+j*3+1+i=off+(j*3+(i+1)) from by omega];exact h5
 have HGET:Hid (∀j,j<M2->∃x,a.ents[j]? = some x):=λj hj=>⟨_,List.getElem?_eq_getElem (by omega)⟩
 have HEB:Hid (∀(j:Nat) (x:s1a),a.ents[j]? = some x->0<=x.kind/\x.kind<=255/\-9223372036854775808<=x.size/\x.size<=9223372036854775807):=λj x hx=>by have h:=ka.ents x (List.mem_of_getElem? hx);exact⟨h.kind.1,h.kind.2,h.size.1,h.size.2⟩
 have HT2:Hid (([.int .u8 0,.int .i64 0]:List Value).length=2):=rfl;clear HA hX hM hwl hlen hk hks;have HA0:Hid ((a.ents.take 0).all t2a=true):=by show _=_;rw[List.take_zero];rfl
 have HST:Hid (∀(j:Nat) (x:s1a),a.ents[j]? = some x->(a.ents.take j).all t2a=true->t2a x=true->(a.ents.take (j+1)).all t2a=true):=λj x hx h1 h2=>by rw[List.take_add_one,hx,Option.toList_some,List.all_append,h1];simp[h2]
 rcases hcc with h | h14 | h16 | h17 | h18
 ·exact absurd h h12
 ·subst h14;have HWI:Hid (∀(w':World) (C:List Value),Hid (C=s0a (.slice none 0 0) (.slice M1 M2 M3) { w0a with ents:=a.ents,more:=a.more })->Below w.heap.size w w'->f1a w' w'.heap.size C (G2a 14 a)):=λw' C hC hb=>⟨none,0,0,M1,M2,M3,hC.out,Holds.nil _ _,HM.out.over hb⟩
  have HNE:=hI hne;have HNX:=hI hns;obtain⟨z,hz⟩:∃z,z=decide (G2a 14 a=a):=⟨_,rfl⟩;rw[<-hz] at CS;have HZD:=hI hz;clear hz hne hns hcs ka h12;go_enter Tryz.func54,Tryz.ntmps54;go_upto_region 4 with(first
   | ((with_reducible refine sN 3 ?_);refine a0a rfl _ (.tmp 1) rfl cs rfl ?_;intro g w1 hg1 hg2 K1 L1)
   | ((with_reducible refine sN 6 ?_);refine b0a rfl _ rfl zs _ ZH ?_;intro h w2 hg3 hg4 Z2 L02;have K2:=hI (K1.out.over L02.out);have L2:=hI (step L1.out L02.out);obtain⟨c17,c18,c1,c14,c19,c13,c10⟩:=FC.out w2 g K2.out;have hgh:g≠h:=(by omega);have hwh:w.heap.size<=h:=(by have:=L1.out.size;omega))
   | fail)
  refine wp_region_held (S:=λw'=>Blk w' g 39 cs) (by kernel_rfl) ?_;change wpAnyH _ _ _ _ _ _ _ _ w2.drew
  have S_0:Hid (Blk w2.drew g 39 cs):=K2.out.drew;have Xd:=hI (Blk.drew Z2.out);have Ld:=hI (L2.out.drew);refine tK 0 _ rfl (g0a (by kernel_rfl) _ (.tmp 3) 10 rfl (.pointer (some ⟨g,0,none⟩)) (.pointer (some ⟨g,17,none⟩)) (by kernel_rfl) (m4a g)) S_0.out ?_;refine tK 1 _ rfl (i0a (by kernel_rfl) _ (.tmp 16) rfl g 17 (by kernel_rfl) (.slice M1 M2 M3) (λw h=>(FC.out w g h).1) _ Tryz.underlying37 rfl) S_0.out ?_;refine tK 2 _ rfl (g0a (by kernel_rfl) _ (.tmp 3) 11 rfl (.pointer (some ⟨g,0,none⟩)) (.pointer (some ⟨g,18,none⟩)) (by kernel_rfl) (n4a g)) S_0.out ?_;refine tK 3 _ rfl (i0a (by kernel_rfl) _ (.tmp 18) rfl g 18 (by kernel_rfl) (.bool a.more) (λw h=>(FC.out w g h).2.1) _ Tryz.underlying4 rfl) S_0.out ?_;refine tK 4 _ rfl (g0a (by kernel_rfl) _ (.tmp 6) 10 rfl (.pointer (some ⟨h,0,none⟩)) (.pointer (some ⟨h,17,none⟩)) (by kernel_rfl) (m4a h)) S_0.out ?_;refine y0a λfr1 hfr1=>?_
  have ex1:fr1.eval (.tmp 20)=.pointer (some ⟨h,17,none⟩):=by rw[hfr1];kernel_rfl
  have ey1:fr1.eval (.tmp 17)=(.slice M1 M2 M3):=by rw[hfr1];kernel_rfl
  refine oN 5 _ rfl λK hK=>?_
  refine A0a rfl _ (.tmp 20) (.tmp 17) rfl h 17 ex1 _ zs (.slice M1 M2 M3) ey1 Xd (hI (by have:=HZ.out;omega)) (by kernel_rfl) rfl ?_;intro x1 XS1 O1 hq1;obtain⟨C1,hC1⟩:∃x,x=zs.set 17 (.slice M1 M2 M3):=⟨_,rfl⟩;have HC1:=hI hC1;have HL1:Hid (C1.length=20):=by show _=_;rw[hC1,List.length_set];exact HZ.out
  rw[<-hC1] at XS1;have ST1:=hI (Blk.only S_0.out O1.out hgh);have LT1:=hI (c0a Ld.out O1.out hwh);refine hK _ _ ST1.out ?_;clear hK K ex1 ey1 hC1;change wpAnyH _ _ _ _ _ _ _ fr1 x1
  subst hfr1;refine tK 6 _ rfl (g0a (by kernel_rfl) _ (.tmp 6) 11 rfl (.pointer (some ⟨h,0,none⟩)) (.pointer (some ⟨h,18,none⟩)) (by kernel_rfl) (n4a h)) ST1.out ?_;refine y0a λfr2 hfr2=>?_
  have ex2:fr2.eval (.tmp 21)=.pointer (some ⟨h,18,none⟩):=by rw[hfr2];kernel_rfl
  have ey2:fr2.eval (.tmp 19)=(.bool a.more):=by rw[hfr2];kernel_rfl
  refine oN 7 _ rfl λK hK=>?_
  refine A0a rfl _ (.tmp 21) (.tmp 19) rfl h 18 ex2 _ C1 (.bool a.more) ey2 XS1 (hI (by have:=HL1.out;omega)) (by kernel_rfl) rfl ?_;intro x2 XS2 O2 hq2;obtain⟨C2,hC2⟩:∃x,x=C1.set 18 (.bool a.more):=⟨_,rfl⟩;have HC2:=hI hC2;have HL2:Hid (C2.length=20):=by show _=_;rw[hC2,List.length_set];exact HL1.out
  rw[<-hC2] at XS2;have ST2:=hI (Blk.only ST1.out O2.out hgh);have LT2:=hI (c0a LT1.out O2.out hwh);refine hK _ _ ST2.out ?_;clear hK K ex2 ey2 hC2;change wpAnyH _ _ _ _ _ _ _ fr2 x2
  subst hfr2;refine dN ?_;go_simp;clear c17 c18 c1 c14 c19 c13 c10;obtain⟨c17,c18,c1,c14,c19,c13,c10⟩:=FC.out x2 g ST2.out;have HEQ:Hid (C2=s0a (.slice none 0 0) (.slice M1 M2 M3) { w0a with ents:=a.ents,more:=a.more }):=by
   show _=_
   rw[HC2.out,HC1.out,HZS.out];rfl
  have Kd:=hI ST2.out;go_wp2_with fail;refine(CK.out _).mono ?_;rintro e v1 ⟨rfl,rfl⟩;go_wp2_with(first
   | ((with_reducible refine sN 49 ?_);refine o0a (by kernel_rfl) _ (.tmp 6) rfl h rfl _ C2 XS2 20 _ Tryz.underlying39 rfl v0a HL2 ?_)
   | ((with_reducible refine sN 50 ?_);refine o0a (by kernel_rfl) _ (.tmp 3) rfl g rfl _ cs Kd 20 _ Tryz.underlying39 rfl v0a HL ?_)
   | fail)
  refine(CS.out _ C2 (HWI.out _ _ HEQ LT2.out) LT2.out).mono ?_;rintro e w5 ⟨rfl,L05⟩;have K5:=hI (Kd.out.over L05);have M5:=hI (step LT2.out L05);have hs5:=M5.out.size;clear c17 c18 c1 c14 c19 c13 c10;obtain⟨c17,c18,c1,c14,c19,c13,c10⟩:=FC.out w5 g K5.out;clear L05 CS CK HWI;cases z
  ·have hw:¬G2a 14 a=a:=of_decide_eq_false HZD.out.symm;have HQ:=hI (HE2.out (λh=>hw (HNE.out.2 h.1)));clear hw HNE HE HE2 HQ0;go_wp2;go_ret2;exact HQ.out _ _ rfl M5.out
  have hw:G2a 14 a=a:=of_decide_eq_true HZD.out.symm;have hnm:=HNE.out.1 hw;have hns:=HNX.out;by_cases hkd:a.kind<=2;rotate_left
  ·have HQ:=hI (HE2.out (λh=>hkd h.2.1));have r1:(2:Int)<a.kind:=by omega
   clear hw HNE HE HE2 HQ0 hns hnm hkd;go_wp2;go_ret2;exact HQ.out _ _ rfl M5.out
  have hr1:¬(2:Int)<a.kind:=by omega
  by_cases hall:a.ents.all t2a=true;rotate_left
  ·have HQ:=hI (HE2.out (λh=>hall h.2.2));have HBAD:Hid ((a.ents.take M2).all t2a=true->False):=λh=>by rw[<-hml,List.take_length] at h;exact hall h
   clear hw HNE HE HE2 HQ0 hns hnm hkd hall hml;have hg5':g<w5.heap.size:=K5.out.lt;go_wp2;go_loopw [7] (λi wr=>∃j:Nat,i=.int .i64 j/\j<=M2/\Hid ((a.ents.take j).all t2a=true)/\Hid (Below w5.heap.size w5 wr)) (λi _=>M2-(intOf i).toNat)
   case atStart=>exact⟨0,rfl,Nat.zero_le _,HA0.out,Below.refl _ _⟩
   case round=>
    obtain⟨j,rfl,hj,HS,NR⟩:=hrel;clear c17 c18 c1 c14 c19 c13 c10;have KR:=hI (K5.out.below NR.out hg5');obtain⟨c17,c18,c1,c14,c19,c13,c10⟩:=FC.out wr g KR.out;by_cases hlt:j<M2
    ·obtain⟨x,hx⟩:=HGET.out j hlt;have MR:=hI (M5.out.trans (NR.out.mono hs5));obtain⟨b,off,rfl,k0,k1,k2,k3⟩:=HCELL.out wr MR.out j x hlt hx;obtain⟨eb0,eb1,eb2,eb3⟩:=HEB.out j x hx;have R3:=hI k3;have HXL:Hid (([.int .u8 x.kind,.int .i64 x.size]:List Value).length=2):=rfl;have HX1:Hid (∀v∈([.int .u8 x.kind,.int .i64 x.size]:List Value),v.oneCell'=true):=by intro v hv;simp only[List.mem_cons,List.not_mem_nil,or_false] at hv;rcases hv with rfl | rfl<;>rfl
     have hrs:=NR.out.size;have HS3:=hI (HST.out j x hx HS.out);clear hx k3;by_cases q1:x.kind<=2
     ·have r1:¬(2:Int)<x.kind:=by omega
      by_cases q2:0<=x.size
      ·have r2:¬x.size<0:=by omega
       by_cases q3:x.size<=1048576
       ·have r3:¬(1048576:Int)<x.size:=by omega
        have HS2:=hI (HS3.out (by unfold t2a;rw[decide_eq_true q1,decide_eq_true q2,decide_eq_true q3];rfl));clear HS3;go_wp2_with(first
         | ((with_reducible refine sN 71 ?_);refine p0a rfl _ (.tmp 70) rfl b (off+j*3+1) rfl [.int .u8 x.kind,.int .i64 x.size] _ R3 Tryz.underlying116 rfl 2 F2a HXL ?_)
         | ((with_reducible refine sN 8 ?_);refine b0a rfl _ rfl _ _ ZT ?_;intro t y1 ht1 ht2 T1 P1;have NA:=hI (NR.out.trans (P1.out.mono hrs)))
         | ((with_reducible refine sT 8 ?_);refine e0a rfl _ (.tmp 8) (.tmp 71) rfl t rfl _ ([.int .u8 0,.int .i64 0]:List Value) ([.int .u8 x.kind,.int .i64 x.size]:List Value) rfl T1 2 F2a HT2 HXL HX1 ?_;intro y2 T2 O2 ht3;have NB:=hI (NA.out.trans (O2.out.below (by omega)));have d0:y2.cell? ⟨t,0,none⟩=some (.int .u8 x.kind):=T2.out.at rfl;have d1:y2.cell? ⟨t,1,none⟩=some (.int .i64 x.size):=T2.out.at rfl)
         | fail)
        go_roundw
        case rel=>exact⟨j+1,by simp,by omega,HS2,NB⟩
        case measure=>simp[intOf];omega
       ·have r3:(1048576:Int)<x.size:=by omega
        clear HS3;go_wp2_with(first
         | ((with_reducible refine sN 71 ?_);refine p0a rfl _ (.tmp 70) rfl b (off+j*3+1) rfl [.int .u8 x.kind,.int .i64 x.size] _ R3 Tryz.underlying116 rfl 2 F2a HXL ?_)
         | ((with_reducible refine sN 8 ?_);refine b0a rfl _ rfl _ _ ZT ?_;intro t y1 ht1 ht2 T1 P1;have NA:=hI (NR.out.trans (P1.out.mono hrs)))
         | ((with_reducible refine sT 8 ?_);refine e0a rfl _ (.tmp 8) (.tmp 71) rfl t rfl _ ([.int .u8 0,.int .i64 0]:List Value) ([.int .u8 x.kind,.int .i64 x.size]:List Value) rfl T1 2 F2a HT2 HXL HX1 ?_;intro y2 T2 O2 ht3;have NB:=hI (NA.out.trans (O2.out.below (by omega)));have d0:y2.cell? ⟨t,0,none⟩=some (.int .u8 x.kind):=T2.out.at rfl;have d1:y2.cell? ⟨t,1,none⟩=some (.int .i64 x.size):=T2.out.at rfl)
         | fail)
        go_wp2;go_ret2;exact HQ.out _ _ rfl (M5.out.trans (NB.out.mono hs5))
      ·have r2:x.size<0:=by omega
       clear HS3;go_wp2_with(first
        | ((with_reducible refine sN 71 ?_);refine p0a rfl _ (.tmp 70) rfl b (off+j*3+1) rfl [.int .u8 x.kind,.int .i64 x.size] _ R3 Tryz.underlying116 rfl 2 F2a HXL ?_)
        | ((with_reducible refine sN 8 ?_);refine b0a rfl _ rfl _ _ ZT ?_;intro t y1 ht1 ht2 T1 P1;have NA:=hI (NR.out.trans (P1.out.mono hrs)))
        | ((with_reducible refine sT 8 ?_);refine e0a rfl _ (.tmp 8) (.tmp 71) rfl t rfl _ ([.int .u8 0,.int .i64 0]:List Value) ([.int .u8 x.kind,.int .i64 x.size]:List Value) rfl T1 2 F2a HT2 HXL HX1 ?_;intro y2 T2 O2 ht3;have NB:=hI (NA.out.trans (O2.out.below (by omega)));have d0:y2.cell? ⟨t,0,none⟩=some (.int .u8 x.kind):=T2.out.at rfl;have d1:y2.cell? ⟨t,1,none⟩=some (.int .i64 x.size):=T2.out.at rfl)
        | fail)
       go_wp2;go_ret2;exact HQ.out _ _ rfl (M5.out.trans (NB.out.mono hs5))
     ·have r1:(2:Int)<x.kind:=by omega
      clear HS3;go_wp2_with(first
       | ((with_reducible refine sN 71 ?_);refine p0a rfl _ (.tmp 70) rfl b (off+j*3+1) rfl [.int .u8 x.kind,.int .i64 x.size] _ R3 Tryz.underlying116 rfl 2 F2a HXL ?_)
       | ((with_reducible refine sN 8 ?_);refine b0a rfl _ rfl _ _ ZT ?_;intro t y1 ht1 ht2 T1 P1;have NA:=hI (NR.out.trans (P1.out.mono hrs)))
       | ((with_reducible refine sT 8 ?_);refine e0a rfl _ (.tmp 8) (.tmp 71) rfl t rfl _ ([.int .u8 0,.int .i64 0]:List Value) ([.int .u8 x.kind,.int .i64 x.size]:List Value) rfl T1 2 F2a HT2 HXL HX1 ?_;intro y2 T2 O2 ht3;have NB:=hI (NA.out.trans (O2.out.below (by omega)));have d0:y2.cell? ⟨t,0,none⟩=some (.int .u8 x.kind):=T2.out.at rfl;have d1:y2.cell? ⟨t,1,none⟩=some (.int .i64 x.size):=T2.out.at rfl)
       | fail)
      go_wp2;go_ret2;exact HQ.out _ _ rfl (M5.out.trans (NB.out.mono hs5))
    ·obtain rfl:j=M2:=by omega
     exact absurd (HBAD.out HS.out) id
  have HOK:Hid (∀(j:Nat) (x:s1a),a.ents[j]? = some x->¬(2:Int)<x.kind/\¬x.size<0/\¬(1048576:Int)<x.size):=λj x hx=>by have h:=List.all_eq_true.1 hall x (List.mem_of_getElem? hx);unfold t2a at h;simp only[Bool.and_eq_true,decide_eq_true_eq] at h;obtain⟨h1,h2,h3⟩:=h;exact⟨by omega,by omega,by omega⟩
  have HST2:=HST;clear HST;have HST:Hid (∀(j:Nat) (x:s1a),a.ents[j]? = some x->(a.ents.take j).all t2a=true->(a.ents.take (j+1)).all t2a=true):=λj x hx h=>HST2.out j x hx h (List.all_eq_true.1 hall x (List.mem_of_getElem? hx))
  have hpos:P2a 14 a=true/\a.kind<=2/\a.ents.all t2a=true:=⟨hnm,hkd,hall⟩;by_cases hlen:M2<=64;rotate_left
  ·have HQ:=hI (HE.out 3 (by unfold U2a;rw[if_pos hpos,hml,if_neg hlen]) (by decide));have r2:(64:Int)<(M2:Int):=by omega
   clear hw HNE HE HE2 HQ0 hns hnm hkd hall hml hpos HST2;have hg5':g<w5.heap.size:=K5.out.lt;go_wp2;go_loopw [7] (λi wr=>∃j:Nat,i=.int .i64 j/\j<=M2/\Hid ((a.ents.take j).all t2a=true)/\Hid (Below w5.heap.size w5 wr)) (λi _=>M2-(intOf i).toNat)
   case atStart=>exact⟨0,rfl,Nat.zero_le _,HA0.out,Below.refl _ _⟩
   case round=>
    obtain⟨j,rfl,hj,HS,NR⟩:=hrel;clear c17 c18 c1 c14 c19 c13 c10;have KR:=hI (K5.out.below NR.out hg5');obtain⟨c17,c18,c1,c14,c19,c13,c10⟩:=FC.out wr g KR.out;by_cases hlt:j<M2
    ·obtain⟨x,hx⟩:=HGET.out j hlt;have MR:=hI (M5.out.trans (NR.out.mono hs5));obtain⟨b,off,rfl,k0,k1,k2,k3⟩:=HCELL.out wr MR.out j x hlt hx;obtain⟨eb0,eb1,eb2,eb3⟩:=HEB.out j x hx;have R3:=hI k3;have HXL:Hid (([.int .u8 x.kind,.int .i64 x.size]:List Value).length=2):=rfl;have HX1:Hid (∀v∈([.int .u8 x.kind,.int .i64 x.size]:List Value),v.oneCell'=true):=by intro v hv;simp only[List.mem_cons,List.not_mem_nil,or_false] at hv;rcases hv with rfl | rfl<;>rfl
     have hrs:=NR.out.size;have hok:=HOK.out j x hx;obtain⟨q1,q2,q3⟩:=hok;have HS2:=hI (HST.out j x hx HS.out);clear hx k3;go_wp2_with(first
      | ((with_reducible refine sN 71 ?_);refine p0a rfl _ (.tmp 70) rfl b (off+j*3+1) rfl [.int .u8 x.kind,.int .i64 x.size] _ R3 Tryz.underlying116 rfl 2 F2a HXL ?_)
      | ((with_reducible refine sN 8 ?_);refine b0a rfl _ rfl _ _ ZT ?_;intro t y1 ht1 ht2 T1 P1;have NA:=hI (NR.out.trans (P1.out.mono hrs)))
      | ((with_reducible refine sT 8 ?_);refine e0a rfl _ (.tmp 8) (.tmp 71) rfl t rfl _ ([.int .u8 0,.int .i64 0]:List Value) ([.int .u8 x.kind,.int .i64 x.size]:List Value) rfl T1 2 F2a HT2 HXL HX1 ?_;intro y2 T2 O2 ht3;have NB:=hI (NA.out.trans (O2.out.below (by omega)));have d0:y2.cell? ⟨t,0,none⟩=some (.int .u8 x.kind):=T2.out.at rfl;have d1:y2.cell? ⟨t,1,none⟩=some (.int .i64 x.size):=T2.out.at rfl)
      | fail)
     go_roundw
     case rel=>exact⟨j+1,by simp,by omega,HS2,NB⟩
     case measure=>simp[intOf];omega
    ·obtain rfl:M2=j:=by omega
     go_wp2;go_ret2;exact HQ.out _ _ rfl (M5.out.trans (NR.out.mono hs5))
  have r2:¬(64:Int)<(M2:Int):=by omega
  have z_m:IntKind.u64.wrap (M2:Int)=(M2:Int):=by rw[IntKind.wrap_u64];omega
  obtain⟨PRE,hPRE⟩:∃f:Nat->List Int,f=λj=>(([]++le (M2:Int) 2)++le (U0a a.more) 2)++i1a (a.ents.take j):=⟨_,rfl⟩
  have HP0:Hid (PRE 0=([]++le (M2:Int) 2)++le (U0a a.more) 2):=by show _=_;rw[hPRE];show _++i1a (a.ents.take 0)=_;rw[List.take_zero];exact List.append_nil _
  have HPS:Hid (∀(j:Nat) (x:s1a),a.ents[j]? = some x->n1a (a.ents.take j)=0->(((PRE j++le x.kind 2)++le 0 2)++le x.size 8++l3a [x.name]=PRE (j+1))/\(e1a [x.name]=0->n1a (a.ents.take (j+1))=0)/\(e1a [x.name]≠0->U2a 14 a=e1a [x.name])):=λj x hx he=>by
   have e1:a.ents.take (j+1)=a.ents.take j++[x]:=by rw[List.take_add_one,hx];rfl
   have e2:e1a [x.name]=u0a x.name.data.toList:=by show(if _ then (0:Int) else _)=_;split;(rename_i h;exact h.symm);rfl
   have e3:n1a [x]=u0a x.name.data.toList:=by show(if _ then (0:Int) else _)=_;split;(rename_i h;exact h.symm);rfl
   refine⟨?_,λh=>?_,λh=>?_⟩
   ·rw[hPRE];show(((((([]++le (M2:Int) 2)++le (U0a a.more) 2)++i1a (a.ents.take j))++le x.kind 2)++le 0 2)++le x.size 8)++l3a [x.name]=(([]++le (M2:Int) 2)++le (U0a a.more) 2)++i1a (a.ents.take (j+1))
    rw[e1,A8a,show le 0 2=List.replicate 2 0 from rfl];simp only[i1a,v0b,l3a,List.append_assoc,List.append_nil]
   ·rw[e1,q7a,if_pos he,e3,<-e2];exact h
   ·have hlt:=(List.getElem?_eq_some_iff.1 hx).1;have e4:a.ents=a.ents.take j++(x::a.ents.drop (j+1)):=by have h3:=(List.getElem?_eq_some_iff.1 hx).2;rw[<-h3,<-List.drop_eq_getElem_cons hlt,List.take_append_drop]
    have e5:n1a a.ents=u0a x.name.data.toList:=by
     rw[e4,q7a,if_pos he];show(if _ then _ else _)=_
     rw[if_neg (by rw[<-e2];exact h)]
    unfold U2a;rw[if_pos hpos,hml,if_pos hlen,if_pos rfl,e5,e2]
  have HPN:Hid (PRE M2=r3a 14 a/\(n1a (a.ents.take M2)=0->U2a 14 a=0)):=by
   have h1:a.ents.take M2=a.ents:=by rw[<-hml,List.take_length]
   refine⟨?_,λh=>?_⟩
   ·rw[hPRE];show(([]++le (M2:Int) 2)++le (U0a a.more) 2)++i1a (a.ents.take M2)=_
    rw[h1];unfold r3a;rw[if_pos rfl,hml];simp only[List.append_assoc,List.nil_append]
   ·rw[h1] at h;unfold U2a;rw[if_pos hpos,hml,if_pos hlen,if_pos rfl,h]
  have HPL:Hid (∀j,j<=M2->(PRE j).length<=50000):=λj hj=>by
   rw[hPRE];show((([]++le (M2:Int) 2)++le (U0a a.more) 2)++i1a (a.ents.take j)).length<=50000
   have h1:=r7a (a.ents.take j);rw[List.length_take] at h1;simp only[List.length_append,m0a,List.length_nil];omega
  have HNS:Hid (∀(j:Nat) (x:s1a),a.ents[j]? = some x->∀s∈[x.name],s.size<=4398046511104):=λj x hx s hs=>by rw[List.mem_singleton.1 hs];exact hns x (List.mem_of_getElem? hx)
  have HESZ:Hid (∀(j:Nat) (x:s1a),a.ents[j]? = some x->x.size<=1048576/\0<=x.size):=λj x hx=>by have h:=HOK.out j x hx;omega
  have HERR:Hid (∀er,U2a 14 a=er->er≠0->∀e w',e=.returned (.tuple #[.slice none 0 0,.int .i64 er])->Below w.heap.size w w'->Z4a w 14 a e w'):=HE.out;have HE00:Hid (n1a (a.ents.take 0)=0):=by show _=_;rw[List.take_zero];rfl
  clear hPRE hw HNE HE HE2 hns hnm hkd hall hml hpos HST2;have hg5':g<w5.heap.size:=K5.out.lt;go_wp2;go_loopw [7] (λi wr=>∃j:Nat,i=.int .i64 j/\j<=M2/\Hid ((a.ents.take j).all t2a=true)/\Hid (Below w5.heap.size w5 wr)) (λi _=>M2-(intOf i).toNat)
  case atStart=>exact⟨0,rfl,Nat.zero_le _,HA0.out,Below.refl _ _⟩
  case round=>
   obtain⟨j,rfl,hj,HS,NR⟩:=hrel;clear c17 c18 c1 c14 c19 c13 c10;have KR:=hI (K5.out.below NR.out hg5');obtain⟨c17,c18,c1,c14,c19,c13,c10⟩:=FC.out wr g KR.out;by_cases hlt:j<M2
   ·obtain⟨x,hx⟩:=HGET.out j hlt;have MR:=hI (M5.out.trans (NR.out.mono hs5));obtain⟨b,off,rfl,k0,k1,k2,k3⟩:=HCELL.out wr MR.out j x hlt hx;obtain⟨eb0,eb1,eb2,eb3⟩:=HEB.out j x hx;have R3:=hI k3;have HXL:Hid (([.int .u8 x.kind,.int .i64 x.size]:List Value).length=2):=rfl;have HX1:Hid (∀v∈([.int .u8 x.kind,.int .i64 x.size]:List Value),v.oneCell'=true):=by intro v hv;simp only[List.mem_cons,List.not_mem_nil,or_false] at hv;rcases hv with rfl | rfl<;>rfl
    have hrs:=NR.out.size;have hok:=HOK.out j x hx;obtain⟨q1,q2,q3⟩:=hok;have HS2:=hI (HST.out j x hx HS.out);clear hx k3;go_wp2_with(first
     | ((with_reducible refine sN 71 ?_);refine p0a rfl _ (.tmp 70) rfl b (off+j*3+1) rfl [.int .u8 x.kind,.int .i64 x.size] _ R3 Tryz.underlying116 rfl 2 F2a HXL ?_)
     | ((with_reducible refine sN 8 ?_);refine b0a rfl _ rfl _ _ ZT ?_;intro t y1 ht1 ht2 T1 P1;have NA:=hI (NR.out.trans (P1.out.mono hrs)))
     | ((with_reducible refine sT 8 ?_);refine e0a rfl _ (.tmp 8) (.tmp 71) rfl t rfl _ ([.int .u8 0,.int .i64 0]:List Value) ([.int .u8 x.kind,.int .i64 x.size]:List Value) rfl T1 2 F2a HT2 HXL HX1 ?_;intro y2 T2 O2 ht3;have NB:=hI (NA.out.trans (O2.out.below (by omega)));have d0:y2.cell? ⟨t,0,none⟩=some (.int .u8 x.kind):=T2.out.at rfl;have d1:y2.cell? ⟨t,1,none⟩=some (.int .i64 x.size):=T2.out.at rfl)
     | fail)
    go_roundw
    case rel=>exact⟨j+1,by simp,by omega,HS2,NB⟩
    case measure=>simp[intOf];omega
   ·obtain rfl:M2=j:=by omega
    obtain⟨wp,hwp⟩:∃x:World,x=wr:=⟨_,rfl⟩;subst hwp;have MB:=hI (M5.out.trans (NR.out.mono hs5));have hsr:=MB.out.size;have N0:Hid (Below wp.heap.size wp wp):=Below.refl _ _;have H00:Hid (Own wp wp.heap.size (.slice none 0 0) []):=Own.nil _ _;have hgr':g<wp.heap.size:=KR.out.lt;go_wp2_with fail;refine(CL2.out wp wp.heap.size _ ([]) (M2:Int) H00.out (by simp) N0.out.size (by omega) (by omega)).mono ?_;rintro e y1 ⟨v1,rfl,ho1,L1⟩;have HO1:=hI ho1;have N1:=hI (N0.out.trans L1);have Ky1:=hI (KR.out.below N1.out hgr');clear ho1 L1;clear c17 c18 c1 c14 c19 c13 c10;obtain⟨c17,c18,c1,c14,c19,c13,c10⟩:=FC.out y1 g Ky1.out;go_wp2_with fail;refine(CU.out _ _).mono ?_;rintro e wt ⟨rfl,rfl⟩;go_wp2_with fail;refine(CL2.out y1 wp.heap.size _ ([]++le (M2:Int) 2) (U0a a.more) HO1.out (by simp[m0a]) N1.out.size tm0 (by omega)).mono ?_;rintro e y2 ⟨v2,rfl,ho2,L2⟩;have HO2:=hI ho2;have N2:=hI (N1.out.trans L2);have Ky2:=hI (KR.out.below N2.out hgr');clear ho2 L2;clear c17 c18 c1 c14 c19 c13 c10;obtain⟨c17,c18,c1,c14,c19,c13,c10⟩:=FC.out y2 g Ky2.out;have HOP:Hid (Own y2 wp.heap.size v2 (PRE 0)):=by rw[HP0.out];exact HO2.out
    clear HO1 HO2 H00 N0 N1 Ky1;have hy2:=Ky2.out;obtain⟨bb,hbb⟩:∃x,x=wp.heap.size:=⟨_,rfl⟩;rw[<-hbb] at HOP N2 hsr hgr';go_wp2;go_loopw [9,10] (λv i wr=>∃m:Nat,i=.int .i64 m/\m<=M2/\Hid (Own wr bb v (PRE m))/\Hid (n1a (a.ents.take m)=0)/\Hid (Below bb wp wr)) (λ_ i _=>M2-(intOf i).toNat)
    case atStart=>exact⟨0,rfl,Nat.zero_le _,HOP,HE00,N2⟩
    case round=>
     obtain⟨m,rfl,hm,HO,HS1,NQ⟩:=hrel;clear c17 c18 c1 c14 c19 c13 c10;have KQ:=hI (KR.out.below NQ.out hgr');obtain⟨c17,c18,c1,c14,c19,c13,c10⟩:=FC.out wr g KQ.out;have hbq:bb<=wr.heap.size:=by have:=NQ.out.size;omega
     by_cases hlt2:m<M2
     ·obtain⟨x,hx⟩:=HGET.out m hlt2;have MQ:=hI (MB.out.trans (NQ.out.mono hsr));obtain⟨b,off,rfl,k0,k1,k2,_⟩:=HCELL.out wr MQ.out m x hlt2 hx;have HE1:=hI (HPS.out m x hx HS1.out);obtain⟨eb0,eb1,_,_⟩:=HEB.out m x hx;obtain⟨es1,es0⟩:=HESZ.out m x hx;have HNX:=hI (HNS.out m x hx);have z_k:IntKind.u64.wrap x.kind=x.kind:=by rw[IntKind.wrap_u64];omega
      have z_s:IntKind.u64.wrap x.size=x.size:=by rw[IntKind.wrap_u64];omega
      have hpl:=HPL.out m hm;have HCJ:Hid (∀w',Below bb wp w'->w'.cell? ⟨g,17,none⟩=some (.slice (some ⟨b,off,none⟩) M2 M3)/\w'.cell? ⟨b,off+m*3,none⟩=some (.string x.name)/\w'.cell? ⟨b,off+m*3+2,none⟩=some (.int .i64 x.size)):=λw' hN=>by
       obtain⟨b',off',h1,h2,_,h4,_⟩:=HCELL.out w' (MB.out.trans (hN.mono hsr)) m x hlt2 hx;injection h1 with h1
       injection h1 with h1 h3
       subst h1 h3;exact⟨(FC.out w' g (KR.out.below hN hgr')).1,h2,h4⟩
      clear hx;go_wp2_with fail;refine(CL2.out wr bb _ (PRE m) x.kind HO.out (by omega) hbq eb0 (by omega)).mono ?_;rintro e q1 ⟨u1,rfl,ho,L⟩;have HA1:=hI ho;have NA1:=hI (NQ.out.trans L);have hb1:bb<=q1.heap.size:=by have:=NA1.out.size;omega
      clear ho L c17 c18 c1 c14 c19 c13 c10 k0 k1 k2;obtain⟨c17,k0,k2⟩:=HCJ.out q1 NA1.out;go_wp2_with fail;refine(CL2.out q1 bb _ (PRE m++le x.kind 2) 0 HA1.out (by simp only[List.length_append,m0a];omega) hb1 (Int.le_refl 0) (by decide)).mono ?_;rintro e q2 ⟨u2,rfl,ho,L⟩;have HA2:=hI ho;have NA2:=hI (NA1.out.trans L);have hb2:bb<=q2.heap.size:=by have:=NA2.out.size;omega
      clear ho L c17 k0 k2;obtain⟨c17,k0,k2⟩:=HCJ.out q2 NA2.out;go_wp2_with fail;refine(CL8.out q2 bb _ ((PRE m++le x.kind 2)++le 0 2) x.size HA2.out (by simp only[List.length_append,m0a];omega) hb2 es0 (by omega)).mono ?_;rintro e q3 ⟨u3,rfl,ho,L⟩;have HA3:=hI ho;have NA3:=hI (NA2.out.trans L);have hb3:bb<=q3.heap.size:=by have:=NA3.out.size;omega
      clear ho L c17 k0 k2;obtain⟨c17,k0,k2⟩:=HCJ.out q3 NA3.out;go_wp2_with(first
       | ((with_reducible refine sN 140 ?_);refine K0a rfl _ _ 1 _ rfl Tryz.underlying121 ([.string x.name]:List Value) (by kernel_rfl) ?_;intro gl q4 hz1 hz2 Yl Ll;have HA4:=hI (Own.below HA3.out Ll.out);have NA4:=hI (NA3.out.trans (Ll.out.mono hb3));have hb4:bb<=q4.heap.size:=(by have:=NA4.out.size;omega))
       | fail)
      refine(p8a q4 bb gl 1 _ (((PRE m++le x.kind 2)++le 0 2)++le x.size 8) [x.name] HA4.out hb4 Yl.out rfl (by decide) HNX.out (by simp only[List.length_append,m0a];omega)).mono ?_;rintro e q5 ⟨u5,rfl,ho,L⟩;have NA5:=hI (NA4.out.trans L);rw[HE1.out.1] at ho;obtain⟨er,her⟩:∃z,z=e1a [x.name]:=⟨_,rfl⟩;have HE2:=hI HE1.out.2;rw[<-her] at ho HE2⊢;clear her L HE1 c17 k0 k2 HCJ HA1 HA2 HA3 HA4 NA1 NA2 NA3 NA4;by_cases he0:er=0
      ·subst he0;rw[if_pos rfl] at ho;have HA5:=hI ho;have HS5:=hI (HE2.out.1 rfl);clear ho HE2;go_wp2;go_roundw
       case rel=>exact⟨m+1,by simp,by omega,HA5,HS5,NA5⟩
       case measure=>simp[intOf];omega
      ·have hne0:(er != 0)=true:=by simpa using he0
       have HQE:=hI (HERR.out er (HE2.out.2 he0) he0);clear ho HE2 he0;go_wp2;go_ret2;exact HQE.out _ _ rfl (MB.out.trans (NA5.out.mono hsr))
     ·obtain rfl:m=M2:=by omega
      have HQ:=hI (HQ0.out (HPN.out.2 HS1.out));go_wp2;go_ret2;exact HQ.out _ _ _ rfl (by rw[<-HPN.out.1];exact Own.mono HO.out hsr) (MB.out.trans (NQ.out.mono hsr))
 ·subst h16;have HWI:Hid (∀(w':World) (C:List Value),Hid (C=s0a (.slice none 0 0) (.slice none 0 0) { w0a with siz:=a.siz,kind:=a.kind,gone:=a.gone })->Below w.heap.size w w'->f1a w' w'.heap.size C (G2a 16 a)):=λw' C hC hb=>⟨none,0,0,none,0,0,hC.out,Holds.nil _ _,T0a.nil _ _ _ _⟩
  have HNE:=hI hne;have HNX:=hI hns;obtain⟨z,hz⟩:∃z,z=decide (G2a 16 a=a):=⟨_,rfl⟩;rw[<-hz] at CS;have HZD:=hI hz;clear hz hne hns hcs ka h12;go_enter Tryz.func54,Tryz.ntmps54;go_upto_region 6 with(first
   | ((with_reducible refine sN 3 ?_);refine a0a rfl _ (.tmp 1) rfl cs rfl ?_;intro g w1 hg1 hg2 K1 L1)
   | ((with_reducible refine sN 6 ?_);refine b0a rfl _ rfl zs _ ZH ?_;intro h w2 hg3 hg4 Z2 L02;have K2:=hI (K1.out.over L02.out);have L2:=hI (step L1.out L02.out);obtain⟨c17,c18,c1,c14,c19,c13,c10⟩:=FC.out w2 g K2.out;have hgh:g≠h:=(by omega);have hwh:w.heap.size<=h:=(by have:=L1.out.size;omega))
   | fail)
  refine wp_region_held (S:=λw'=>Blk w' g 39 cs) (by kernel_rfl) ?_;change wpAnyH _ _ _ _ _ _ _ _ w2.drew
  have S_0:Hid (Blk w2.drew g 39 cs):=K2.out.drew;have Xd:=hI (Blk.drew Z2.out);have Ld:=hI (L2.out.drew);refine tK 0 _ rfl (g0a (by kernel_rfl) _ (.tmp 3) 1 rfl (.pointer (some ⟨g,0,none⟩)) (.pointer (some ⟨g,1,none⟩)) (by kernel_rfl) (I3a g)) S_0.out ?_;refine tK 1 _ rfl (i0a (by kernel_rfl) _ (.tmp 24) rfl g 1 (by kernel_rfl) (.int .u64 a.siz) (λw h=>(FC.out w g h).2.2.1) _ Tryz.underlying25 rfl) S_0.out ?_;refine tK 2 _ rfl (g0a (by kernel_rfl) _ (.tmp 3) 7 rfl (.pointer (some ⟨g,0,none⟩)) (.pointer (some ⟨g,14,none⟩)) (by kernel_rfl) (L3a g)) S_0.out ?_;refine tK 3 _ rfl (i0a (by kernel_rfl) _ (.tmp 26) rfl g 14 (by kernel_rfl) (.int .u8 a.kind) (λw h=>(FC.out w g h).2.2.2.1) _ Tryz.underlying36 rfl) S_0.out ?_;refine tK 4 _ rfl (g0a (by kernel_rfl) _ (.tmp 3) 12 rfl (.pointer (some ⟨g,0,none⟩)) (.pointer (some ⟨g,19,none⟩)) (by kernel_rfl) (o4a g)) S_0.out ?_;refine tK 5 _ rfl (i0a (by kernel_rfl) _ (.tmp 28) rfl g 19 (by kernel_rfl) (.bool a.gone) (λw h=>(FC.out w g h).2.2.2.2.1) _ Tryz.underlying4 rfl) S_0.out ?_;refine tK 6 _ rfl (g0a (by kernel_rfl) _ (.tmp 6) 1 rfl (.pointer (some ⟨h,0,none⟩)) (.pointer (some ⟨h,1,none⟩)) (by kernel_rfl) (I3a h)) S_0.out ?_;refine y0a λfr1 hfr1=>?_
  have ex1:fr1.eval (.tmp 30)=.pointer (some ⟨h,1,none⟩):=by rw[hfr1];kernel_rfl
  have ey1:fr1.eval (.tmp 25)=(.int .u64 a.siz):=by rw[hfr1];kernel_rfl
  refine oN 7 _ rfl λK hK=>?_
  refine A0a rfl _ (.tmp 30) (.tmp 25) rfl h 1 ex1 _ zs (.int .u64 a.siz) ey1 Xd (hI (by have:=HZ.out;omega)) (by kernel_rfl) rfl ?_;intro x1 XS1 O1 hq1;obtain⟨C1,hC1⟩:∃x,x=zs.set 1 (.int .u64 a.siz):=⟨_,rfl⟩;have HC1:=hI hC1;have HL1:Hid (C1.length=20):=by show _=_;rw[hC1,List.length_set];exact HZ.out
  rw[<-hC1] at XS1;have ST1:=hI (Blk.only S_0.out O1.out hgh);have LT1:=hI (c0a Ld.out O1.out hwh);refine hK _ _ ST1.out ?_;clear hK K ex1 ey1 hC1;change wpAnyH _ _ _ _ _ _ _ fr1 x1
  subst hfr1;refine tK 8 _ rfl (g0a (by kernel_rfl) _ (.tmp 6) 7 rfl (.pointer (some ⟨h,0,none⟩)) (.pointer (some ⟨h,14,none⟩)) (by kernel_rfl) (L3a h)) ST1.out ?_;refine y0a λfr2 hfr2=>?_
  have ex2:fr2.eval (.tmp 31)=.pointer (some ⟨h,14,none⟩):=by rw[hfr2];kernel_rfl
  have ey2:fr2.eval (.tmp 27)=(.int .u8 a.kind):=by rw[hfr2];kernel_rfl
  refine oN 9 _ rfl λK hK=>?_
  refine A0a rfl _ (.tmp 31) (.tmp 27) rfl h 14 ex2 _ C1 (.int .u8 a.kind) ey2 XS1 (hI (by have:=HL1.out;omega)) (by kernel_rfl) rfl ?_;intro x2 XS2 O2 hq2;obtain⟨C2,hC2⟩:∃x,x=C1.set 14 (.int .u8 a.kind):=⟨_,rfl⟩;have HC2:=hI hC2;have HL2:Hid (C2.length=20):=by show _=_;rw[hC2,List.length_set];exact HL1.out
  rw[<-hC2] at XS2;have ST2:=hI (Blk.only ST1.out O2.out hgh);have LT2:=hI (c0a LT1.out O2.out hwh);refine hK _ _ ST2.out ?_;clear hK K ex2 ey2 hC2;change wpAnyH _ _ _ _ _ _ _ fr2 x2
  subst hfr2;refine tK 10 _ rfl (g0a (by kernel_rfl) _ (.tmp 6) 12 rfl (.pointer (some ⟨h,0,none⟩)) (.pointer (some ⟨h,19,none⟩)) (by kernel_rfl) (o4a h)) ST2.out ?_;refine y0a λfr3 hfr3=>?_
  have ex3:fr3.eval (.tmp 32)=.pointer (some ⟨h,19,none⟩):=by rw[hfr3];kernel_rfl
  have ey3:fr3.eval (.tmp 29)=(.bool a.gone):=by rw[hfr3];kernel_rfl
  refine oN 11 _ rfl λK hK=>?_
  refine A0a rfl _ (.tmp 32) (.tmp 29) rfl h 19 ex3 _ C2 (.bool a.gone) ey3 XS2 (hI (by have:=HL2.out;omega)) (by kernel_rfl) rfl ?_;intro x3 XS3 O3 hq3;obtain⟨C3,hC3⟩:∃x,x=C2.set 19 (.bool a.gone):=⟨_,rfl⟩;have HC3:=hI hC3;have HL3:Hid (C3.length=20):=by show _=_;rw[hC3,List.length_set];exact HL2.out
  rw[<-hC3] at XS3;have ST3:=hI (Blk.only ST2.out O3.out hgh);have LT3:=hI (c0a LT2.out O3.out hwh);refine hK _ _ ST3.out ?_;clear hK K ex3 ey3 hC3;change wpAnyH _ _ _ _ _ _ _ fr3 x3
  subst hfr3;refine dN ?_;go_simp;clear c17 c18 c1 c14 c19 c13 c10;obtain⟨c17,c18,c1,c14,c19,c13,c10⟩:=FC.out x3 g ST3.out;have HEQ:Hid (C3=s0a (.slice none 0 0) (.slice none 0 0) { w0a with siz:=a.siz,kind:=a.kind,gone:=a.gone }):=by
   show _=_
   rw[HC3.out,HC2.out,HC1.out,HZS.out];rfl
  have Kd:=hI ST3.out;go_wp2_with fail;refine(CK.out _).mono ?_;rintro e v1 ⟨rfl,rfl⟩;go_wp2_with(first
   | ((with_reducible refine sN 49 ?_);refine o0a (by kernel_rfl) _ (.tmp 6) rfl h rfl _ C3 XS3 20 _ Tryz.underlying39 rfl v0a HL3 ?_)
   | ((with_reducible refine sN 50 ?_);refine o0a (by kernel_rfl) _ (.tmp 3) rfl g rfl _ cs Kd 20 _ Tryz.underlying39 rfl v0a HL ?_)
   | fail)
  refine(CS.out _ C3 (HWI.out _ _ HEQ LT3.out) LT3.out).mono ?_;rintro e w5 ⟨rfl,L05⟩;have K5:=hI (Kd.out.over L05);have M5:=hI (step LT3.out L05);have hs5:=M5.out.size;clear c17 c18 c1 c14 c19 c13 c10;obtain⟨c17,c18,c1,c14,c19,c13,c10⟩:=FC.out w5 g K5.out;clear L05 CS CK HWI;cases z
  ·have hw:¬G2a 16 a=a:=of_decide_eq_false HZD.out.symm;have HQ:=hI (HE2.out (λh=>hw (HNE.out.2 h.1)));clear hw HNE HE HE2 HQ0;go_wp2;go_ret2;exact HQ.out _ _ rfl M5.out
  have hw:G2a 16 a=a:=of_decide_eq_true HZD.out.symm;have hnm:=HNE.out.1 hw;have hns:=HNX.out;have hen:a.ents=[]:=by have h:=congrArg E1a.ents hw;exact h.symm
  by_cases hkd:a.kind<=2;rotate_left
  ·have HQ:=hI (HE2.out (λh=>hkd h.2.1));have r1:(2:Int)<a.kind:=by omega
   clear hw HNE HE HE2 HQ0 hns hnm hkd;go_wp2;go_ret2;exact HQ.out _ _ rfl M5.out
  have hr1:¬(2:Int)<a.kind:=by omega
  have hm0:M2=0:=by rw[<-hml,hen];rfl
  have he0:U2a 16 a=0:=by unfold U2a;rw[if_pos ⟨hnm,hkd,by rw[hen];rfl⟩,if_pos (by rw[hen];exact Nat.zero_le _),if_neg (by decide)]
  have HQ:=hI (HQ0.out he0);have hb0:r3a 16 a=le a.siz 8++(le a.kind 2++le (U0a a.gone) 2):=by unfold r3a;rw[if_neg (by decide),if_pos rfl]
  rw[hb0] at HQ;subst hm0;clear hw HNE HE HE2 HQ0 hns hnm hkd hen he0 hb0 hml;have hg5':g<w5.heap.size:=K5.out.lt;go_wp2;go_loopw [7] (λi wr=>∃j:Nat,i=.int .i64 j/\j<=0/\Hid ((a.ents.take j).all t2a=true)/\Hid (Below w5.heap.size w5 wr)) (λi _=>0-(intOf i).toNat)
  case atStart=>exact⟨0,rfl,Nat.zero_le _,HA0.out,Below.refl _ _⟩
  case round=>
   obtain⟨j,rfl,hj,HS,NR⟩:=hrel;clear c17 c18 c1 c14 c19 c13 c10;have KR:=hI (K5.out.below NR.out hg5');obtain⟨c17,c18,c1,c14,c19,c13,c10⟩:=FC.out wr g KR.out;obtain rfl:j=0:=by omega
   have MB:=hI (M5.out.trans (NR.out.mono hs5));have hsr:=MB.out.size;have N0:Hid (Below wr.heap.size wr wr):=Below.refl _ _;have H00:Hid (Own wr wr.heap.size (.slice none 0 0) []):=Own.nil _ _;have hgr':g<wr.heap.size:=KR.out.lt;go_wp2_with fail;refine(CL8.out wr wr.heap.size _ ([]) a.siz H00.out (by simp) N0.out.size l_siz u_siz).mono ?_;rintro e y1 ⟨v1,rfl,ho1,L1⟩;have HO1:=hI ho1;have N1:=hI (N0.out.trans L1);have Ky1:=hI (KR.out.below N1.out hgr');clear ho1 L1;clear c17 c18 c1 c14 c19 c13 c10;obtain⟨c17,c18,c1,c14,c19,c13,c10⟩:=FC.out y1 g Ky1.out;go_wp2_with fail;refine(CL2.out y1 wr.heap.size _ ([]++le a.siz 8) a.kind HO1.out (by simp[m0a]) N1.out.size l_kind (by omega)).mono ?_;rintro e y2 ⟨v2,rfl,ho2,L2⟩;have HO2:=hI ho2;have N2:=hI (N1.out.trans L2);have Ky2:=hI (KR.out.below N2.out hgr');clear ho2 L2;clear c17 c18 c1 c14 c19 c13 c10;obtain⟨c17,c18,c1,c14,c19,c13,c10⟩:=FC.out y2 g Ky2.out;go_wp2_with fail;refine(CU.out _ _).mono ?_;rintro e wt ⟨rfl,rfl⟩;go_wp2_with fail;refine(CL2.out y2 wr.heap.size _ (([]++le a.siz 8)++le a.kind 2) (U0a a.gone) HO2.out (by simp[m0a]) N2.out.size tg0 (by omega)).mono ?_;rintro e y3 ⟨v3,rfl,ho3,L3⟩;have HO3:=hI ho3;have N3:=hI (N2.out.trans L3);have Ky3:=hI (KR.out.below N3.out hgr');clear ho3 L3;clear c17 c18 c1 c14 c19 c13 c10;obtain⟨c17,c18,c1,c14,c19,c13,c10⟩:=FC.out y3 g Ky3.out;go_wp2;go_ret2;refine HQ.out _ _ _ rfl ?_ (MB.out.trans (N3.out.mono hsr));have h9:=Own.mono HO3.out hsr;simpa[List.append_assoc] using h9
 ·subst h17;have HWI:Hid (∀(w':World) (C:List Value),Hid (C=s0a (.slice none 0 0) (.slice none 0 0) w0a)->Below w.heap.size w w'->f1a w' w'.heap.size C (G2a 17 a)):=λw' C hC hb=>⟨none,0,0,none,0,0,hC.out,Holds.nil _ _,T0a.nil _ _ _ _⟩
  have HNE:=hI hne;have HNX:=hI hns;obtain⟨z,hz⟩:∃z,z=decide (G2a 17 a=a):=⟨_,rfl⟩;rw[<-hz] at CS;have HZD:=hI hz;clear hz hne hns hcs ka h12;go_enter Tryz.func54,Tryz.ntmps54;go_wp2_with(first
   | ((with_reducible refine sN 3 ?_);refine a0a rfl _ (.tmp 1) rfl cs rfl ?_;intro g w1 hg1 hg2 K1 L1)
   | ((with_reducible refine sN 6 ?_);refine b0a rfl _ rfl zs _ ZH ?_;intro h w2 hg3 hg4 Z2 L02;have K2:=hI (K1.out.over L02.out);have L2:=hI (step L1.out L02.out);obtain⟨c17,c18,c1,c14,c19,c13,c10⟩:=FC.out w2 g K2.out;have hgh:g≠h:=(by omega);have hwh:w.heap.size<=h:=(by have:=L1.out.size;omega))
   | fail)
  refine(CK.out _).mono ?_;rintro e v1 ⟨rfl,rfl⟩;go_wp2_with(first
   | ((with_reducible refine sN 49 ?_);refine o0a (by kernel_rfl) _ (.tmp 6) rfl h rfl _ zs Z2 20 _ Tryz.underlying39 rfl v0a HZ ?_)
   | ((with_reducible refine sN 50 ?_);refine o0a (by kernel_rfl) _ (.tmp 3) rfl g rfl _ cs K2 20 _ Tryz.underlying39 rfl v0a HL ?_)
   | fail)
  refine(CS.out _ zs (HWI.out _ _ HZS L2.out) L2.out).mono ?_;rintro e w5 ⟨rfl,L05⟩;have K5:=hI (K2.out.over L05);have M5:=hI (step L2.out L05);have hs5:=M5.out.size;clear c17 c18 c1 c14 c19 c13 c10;obtain⟨c17,c18,c1,c14,c19,c13,c10⟩:=FC.out w5 g K5.out;clear L05 CS CK HWI;cases z
  ·have hw:¬G2a 17 a=a:=of_decide_eq_false HZD.out.symm;have HQ:=hI (HE2.out (λh=>hw (HNE.out.2 h.1)));clear hw HNE HE HE2 HQ0;go_wp2;go_ret2;exact HQ.out _ _ rfl M5.out
  have hw:G2a 17 a=a:=of_decide_eq_true HZD.out.symm;have hnm:=HNE.out.1 hw;have hns:=HNX.out;have hen:a.ents=[]:=by have h:=congrArg E1a.ents hw;exact h.symm
  have hk0:a.kind=0:=by have h:=congrArg E1a.kind hw;exact h.symm
  have hkd:a.kind<=2:=by omega
  have hr1:¬(2:Int)<a.kind:=by omega
  clear hk0;have hm0:M2=0:=by rw[<-hml,hen];rfl
  have he0:U2a 17 a=0:=by unfold U2a;rw[if_pos ⟨hnm,hkd,by rw[hen];rfl⟩,if_pos (by rw[hen];exact Nat.zero_le _),if_neg (by decide)]
  have HQ:=hI (HQ0.out he0);have hb0:r3a 17 a=List.replicate 4 0:=by unfold r3a;rw[if_neg (by decide),if_neg (by decide),if_neg (by decide)]
  rw[hb0] at HQ;subst hm0;clear hw HNE HE HE2 HQ0 hns hnm hkd hen he0 hb0 hml;have hg5':g<w5.heap.size:=K5.out.lt;go_wp2;go_loopw [7] (λi wr=>∃j:Nat,i=.int .i64 j/\j<=0/\Hid ((a.ents.take j).all t2a=true)/\Hid (Below w5.heap.size w5 wr)) (λi _=>0-(intOf i).toNat)
  case atStart=>exact⟨0,rfl,Nat.zero_le _,HA0.out,Below.refl _ _⟩
  case round=>
   obtain⟨j,rfl,hj,HS,NR⟩:=hrel;clear c17 c18 c1 c14 c19 c13 c10;have KR:=hI (K5.out.below NR.out hg5');obtain⟨c17,c18,c1,c14,c19,c13,c10⟩:=FC.out wr g KR.out;obtain rfl:j=0:=by omega
   have MB:=hI (M5.out.trans (NR.out.mono hs5));have hsr:=MB.out.size;have N0:Hid (Below wr.heap.size wr wr):=Below.refl _ _;have H00:Hid (Own wr wr.heap.size (.slice none 0 0) []):=Own.nil _ _;have hgr':g<wr.heap.size:=KR.out.lt;go_wp2_with fail;refine(CL4.out wr wr.heap.size _ ([]) 0 H00.out (by simp) N0.out.size (Int.le_refl 0) (by decide)).mono ?_;rintro e y1 ⟨v1,rfl,ho1,L1⟩;have HO1:=hI ho1;have N1:=hI (N0.out.trans L1);have Ky1:=hI (KR.out.below N1.out hgr');clear ho1 L1;clear c17 c18 c1 c14 c19 c13 c10;obtain⟨c17,c18,c1,c14,c19,c13,c10⟩:=FC.out y1 g Ky1.out;go_wp2;go_ret2;refine HQ.out _ _ _ rfl ?_ (MB.out.trans (N1.out.mono hsr));have h9:=Own.mono HO1.out hsr;rw[show le 0 4=List.replicate 4 0 from rfl] at h9;simpa using h9
 ·subst h18;have hld:Bytes [a.lev,0,0,0]:=by intro x hx;simp only[List.mem_cons,List.not_mem_nil,or_false] at hx;rcases hx with hx | hx | hx | hx<;>omega
  have HLD:=hI hld;clear hld;have HWI:Hid (∀(w':World) (C:List Value),Hid (C=s0a (.slice none 0 0) (.slice none 0 0) { w0a with file:=a.file,lev:=a.lev })->Below w.heap.size w w'->f1a w' w'.heap.size C (G2a 18 a)):=λw' C hC hb=>⟨none,0,0,none,0,0,hC.out,Holds.nil _ _,T0a.nil _ _ _ _⟩
  have HNE:=hI hne;have HNX:=hI hns;obtain⟨z,hz⟩:∃z,z=decide (G2a 18 a=a):=⟨_,rfl⟩;rw[<-hz] at CS;have HZD:=hI hz;clear hz hne hns hcs ka h12;go_enter Tryz.func54,Tryz.ntmps54;go_upto_region 8 with(first
   | ((with_reducible refine sN 3 ?_);refine a0a rfl _ (.tmp 1) rfl cs rfl ?_;intro g w1 hg1 hg2 K1 L1)
   | ((with_reducible refine sN 6 ?_);refine b0a rfl _ rfl zs _ ZH ?_;intro h w2 hg3 hg4 Z2 L02;have K2:=hI (K1.out.over L02.out);have L2:=hI (step L1.out L02.out);obtain⟨c17,c18,c1,c14,c19,c13,c10⟩:=FC.out w2 g K2.out;have hgh:g≠h:=(by omega);have hwh:w.heap.size<=h:=(by have:=L1.out.size;omega))
   | fail)
  refine wp_region_held (S:=λw'=>Blk w' g 39 cs) (by kernel_rfl) ?_;change wpAnyH _ _ _ _ _ _ _ _ w2.drew
  have S_0:Hid (Blk w2.drew g 39 cs):=K2.out.drew;have Xd:=hI (Blk.drew Z2.out);have Ld:=hI (L2.out.drew);refine tK 0 _ rfl (g0a (by kernel_rfl) _ (.tmp 3) 6 rfl (.pointer (some ⟨g,0,none⟩)) (.pointer (some ⟨g,13,none⟩)) (by kernel_rfl) (K3a g)) S_0.out ?_;refine tK 1 _ rfl (i0a (by kernel_rfl) _ (.tmp 35) rfl g 13 (by kernel_rfl) (.int .u64 a.file) (λw h=>(FC.out w g h).2.2.2.2.2.1) _ Tryz.underlying25 rfl) S_0.out ?_;refine tK 2 _ rfl (g0a (by kernel_rfl) _ (.tmp 3) 3 rfl (.pointer (some ⟨g,0,none⟩)) (.pointer (some ⟨g,10,none⟩)) (by kernel_rfl) (J3a g)) S_0.out ?_;refine tK 3 _ rfl (i0a (by kernel_rfl) _ (.tmp 37) rfl g 10 (by kernel_rfl) (.int .u8 a.lev) (λw h=>(FC.out w g h).2.2.2.2.2.2) _ Tryz.underlying5 rfl) S_0.out ?_;refine tK 4 _ rfl (g0a (by kernel_rfl) _ (.tmp 6) 6 rfl (.pointer (some ⟨h,0,none⟩)) (.pointer (some ⟨h,13,none⟩)) (by kernel_rfl) (K3a h)) S_0.out ?_;refine y0a λfr1 hfr1=>?_
  have ex1:fr1.eval (.tmp 39)=.pointer (some ⟨h,13,none⟩):=by rw[hfr1];kernel_rfl
  have ey1:fr1.eval (.tmp 36)=(.int .u64 a.file):=by rw[hfr1];kernel_rfl
  refine oN 5 _ rfl λK hK=>?_
  refine A0a rfl _ (.tmp 39) (.tmp 36) rfl h 13 ex1 _ zs (.int .u64 a.file) ey1 Xd (hI (by have:=HZ.out;omega)) (by kernel_rfl) rfl ?_;intro x1 XS1 O1 hq1;obtain⟨C1,hC1⟩:∃x,x=zs.set 13 (.int .u64 a.file):=⟨_,rfl⟩;have HC1:=hI hC1;have HL1:Hid (C1.length=20):=by show _=_;rw[hC1,List.length_set];exact HZ.out
  rw[<-hC1] at XS1;have ST1:=hI (Blk.only S_0.out O1.out hgh);have LT1:=hI (c0a Ld.out O1.out hwh);refine hK _ _ ST1.out ?_;clear hK K ex1 ey1 hC1;change wpAnyH _ _ _ _ _ _ _ fr1 x1
  subst hfr1;refine tK 6 _ rfl (g0a (by kernel_rfl) _ (.tmp 6) 3 rfl (.pointer (some ⟨h,0,none⟩)) (.pointer (some ⟨h,10,none⟩)) (by kernel_rfl) (J3a h)) ST1.out ?_;refine y0a λfr2 hfr2=>?_
  have ex2:fr2.eval (.tmp 40)=.pointer (some ⟨h,10,none⟩):=by rw[hfr2];kernel_rfl
  have ey2:fr2.eval (.tmp 38)=(.int .u8 a.lev):=by rw[hfr2];kernel_rfl
  refine oN 7 _ rfl λK hK=>?_
  refine A0a rfl _ (.tmp 40) (.tmp 38) rfl h 10 ex2 _ C1 (.int .u8 a.lev) ey2 XS1 (hI (by have:=HL1.out;omega)) (by kernel_rfl) rfl ?_;intro x2 XS2 O2 hq2;obtain⟨C2,hC2⟩:∃x,x=C1.set 10 (.int .u8 a.lev):=⟨_,rfl⟩;have HC2:=hI hC2;have HL2:Hid (C2.length=20):=by show _=_;rw[hC2,List.length_set];exact HL1.out
  rw[<-hC2] at XS2;have ST2:=hI (Blk.only ST1.out O2.out hgh);have LT2:=hI (c0a LT1.out O2.out hwh);refine hK _ _ ST2.out ?_;clear hK K ex2 ey2 hC2;change wpAnyH _ _ _ _ _ _ _ fr2 x2
  subst hfr2;refine dN ?_;go_simp;clear c17 c18 c1 c14 c19 c13 c10;obtain⟨c17,c18,c1,c14,c19,c13,c10⟩:=FC.out x2 g ST2.out;have HEQ:Hid (C2=s0a (.slice none 0 0) (.slice none 0 0) { w0a with file:=a.file,lev:=a.lev }):=by
   show _=_
   rw[HC2.out,HC1.out,HZS.out];rfl
  have Kd:=hI ST2.out;go_wp2_with fail;refine(CK.out _).mono ?_;rintro e v1 ⟨rfl,rfl⟩;go_wp2_with(first
   | ((with_reducible refine sN 49 ?_);refine o0a (by kernel_rfl) _ (.tmp 6) rfl h rfl _ C2 XS2 20 _ Tryz.underlying39 rfl v0a HL2 ?_)
   | ((with_reducible refine sN 50 ?_);refine o0a (by kernel_rfl) _ (.tmp 3) rfl g rfl _ cs Kd 20 _ Tryz.underlying39 rfl v0a HL ?_)
   | fail)
  refine(CS.out _ C2 (HWI.out _ _ HEQ LT2.out) LT2.out).mono ?_;rintro e w5 ⟨rfl,L05⟩;have K5:=hI (Kd.out.over L05);have M5:=hI (step LT2.out L05);have hs5:=M5.out.size;clear c17 c18 c1 c14 c19 c13 c10;obtain⟨c17,c18,c1,c14,c19,c13,c10⟩:=FC.out w5 g K5.out;clear L05 CS CK HWI;cases z
  ·have hw:¬G2a 18 a=a:=of_decide_eq_false HZD.out.symm;have HQ:=hI (HE2.out (λh=>hw (HNE.out.2 h.1)));clear hw HNE HE HE2 HQ0;go_wp2;go_ret2;exact HQ.out _ _ rfl M5.out
  have hw:G2a 18 a=a:=of_decide_eq_true HZD.out.symm;have hnm:=HNE.out.1 hw;have hns:=HNX.out;have hen:a.ents=[]:=by have h:=congrArg E1a.ents hw;exact h.symm
  have hk0:a.kind=0:=by have h:=congrArg E1a.kind hw;exact h.symm
  have hkd:a.kind<=2:=by omega
  have hr1:¬(2:Int)<a.kind:=by omega
  clear hk0;have hm0:M2=0:=by rw[<-hml,hen];rfl
  have he0:U2a 18 a=0:=by unfold U2a;rw[if_pos ⟨hnm,hkd,by rw[hen];rfl⟩,if_pos (by rw[hen];exact Nat.zero_le _),if_neg (by decide)]
  have HQ:=hI (HQ0.out he0);have hb0:r3a 18 a=le a.file 8++[a.lev,0,0,0]:=by unfold r3a;rw[if_neg (by decide),if_neg (by decide),if_pos rfl];show le a.file 8++([a.lev%256]++[0,0,0])=_;rw[show a.lev%256=a.lev from by omega];rfl
  rw[hb0] at HQ;subst hm0;clear hw HNE HE HE2 HQ0 hns hnm hkd hen he0 hb0 hml;have hg5':g<w5.heap.size:=K5.out.lt;go_wp2;go_loopw [7] (λi wr=>∃j:Nat,i=.int .i64 j/\j<=0/\Hid ((a.ents.take j).all t2a=true)/\Hid (Below w5.heap.size w5 wr)) (λi _=>0-(intOf i).toNat)
  case atStart=>exact⟨0,rfl,Nat.zero_le _,HA0.out,Below.refl _ _⟩
  case round=>
   obtain⟨j,rfl,hj,HS,NR⟩:=hrel;clear c17 c18 c1 c14 c19 c13 c10;have KR:=hI (K5.out.below NR.out hg5');obtain⟨c17,c18,c1,c14,c19,c13,c10⟩:=FC.out wr g KR.out;obtain rfl:j=0:=by omega
   have MB:=hI (M5.out.trans (NR.out.mono hs5));have hsr:=MB.out.size;have N0:Hid (Below wr.heap.size wr wr):=Below.refl _ _;have H00:Hid (Own wr wr.heap.size (.slice none 0 0) []):=Own.nil _ _;have hgr':g<wr.heap.size:=KR.out.lt;go_wp2_with fail;refine(CL8.out wr wr.heap.size _ ([]) a.file H00.out (by simp) N0.out.size l_file u_file).mono ?_;rintro e y1 ⟨v1,rfl,ho1,L1⟩;have HO1:=hI ho1;have N1:=hI (N0.out.trans L1);have Ky1:=hI (KR.out.below N1.out hgr');clear ho1 L1;clear c17 c18 c1 c14 c19 c13 c10;obtain⟨c17,c18,c1,c14,c19,c13,c10⟩:=FC.out y1 g Ky1.out;go_wp2_with(first
    | ((with_reducible refine sN 174 ?_);refine K0a rfl _ _ 4 _ rfl Tryz.underlying31 ([.int .u8 a.lev,.int .u8 0,.int .u8 0,.int .u8 0]:List Value) (by kernel_rfl) ?_;intro gl z1 hz1 hz2 Yl Ll;have HOl:=hI (Own.below HO1.out Ll.out);have Nl:=hI (N1.out.trans (Ll.out.mono N1.out.size));have HHl:=hI (HoldsI.lit (xs:=[a.lev,0,0,0]) (n:=4) Yl.out rfl HLD.out (by decide)))
    | (at_builtin;refine D0a rfl (.tmp 171) (.tmp 174) rfl wr.heap.size _ ([]++le a.file 8) rfl HOl.out (gl+1) _ 4 4 [a.lev,0,0,0] rfl HHl.out (by simp only[List.length_append,m0a,List.length_nil,List.length_cons];omega) Nl.out.size ?_;intro va z2 hoa hba hgra;have HO5:=hI hoa.out;have N5:=hI (Nl.out.trans hba);clear hoa hba hgra)
    | fail)
   go_ret2;refine HQ.out _ _ _ rfl ?_ (MB.out.trans (N5.out.mono hsr));have h9:=Own.mono HO5.out hsr;simpa[List.append_assoc] using h9
end Go.Proofs.YtgfflnjggnadpaaGreatDoor
