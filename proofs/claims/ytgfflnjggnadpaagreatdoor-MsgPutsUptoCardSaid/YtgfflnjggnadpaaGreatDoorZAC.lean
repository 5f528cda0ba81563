import Derived.Test.YtgfflnjggnadpaaGreatDoorZAB
import Derived.Test.YtgfflnjggnadpaaGreatDoorS0
set_option linter.all false
set_option maxHeartbeats 8000000
set_option maxRecDepth 100000
namespace Go.Proofs.YtgfflnjggnadpaaGreatDoor
open Go.RowKit
structure Rd where
 p:Nat
 e:Int
def rdN(xs:List Int)(s:Nat)(r:Rd):Int×Rd:=if r.e=0 then (if xs.length<r.p+s then (0,⟨r.p,4⟩) else (l1a xs r.p s,⟨r.p+s,0⟩)) else (0,r)
def y8a(xs:List Int)(s:Nat)(most er:Int)(r:Rd):Int×Rd:=if (rdN xs s r).2.e=0/\most<(rdN xs s r).1 then (0,⟨(rdN xs s r).2.p,er⟩) else rdN xs s r
def S1a(xs:List Int)(m:Nat)(r:Rd):List Int×Rd:=if r.e=0 then (if xs.length<r.p+m then ([],⟨r.p,4⟩) else ((xs.drop r.p).take m,⟨r.p+m,0⟩)) else ([],r)
def Q1b(xs:List Int)(r:Rd):List UInt8×Rd:=if r.e=0 then (R4b xs r.p,⟨if D7a xs r.p=0 then (C1b xs r.p).toNat else r.p,D7a xs r.p⟩) else ([],r)
def Y5a(xs:List Int)(r:Rd):Int:=if r.e=0/\r.p≠xs.length then 5 else r.e
theorem X3b(g:Nat)(w:World)(k:Nat):H2a g w (w.drewN k):=⟨rfl,rfl,rfl,Nat.le_refl _,λ_ _ _=>rfl⟩
theorem H2a.setCell{g:Nat}{w w':World}(h:H2a g w w')(i:Nat)(v:Value):H2a g w (w'.setCell ⟨g,i,none⟩ v):=h.trans (H2a.of_only (a3a w' g i v))
theorem H2a.drewN{g:Nat}{w w':World}(h:H2a g w w')(k:Nat):H2a g w (w'.drewN k):=h.trans (X3b g w' k)
set_option maxRecDepth 100000
theorem g5b(g:Nat)(w:World):(Instr.fieldAt 135 (.pointer (some ⟨g,0,none⟩)) 0).run Tryz.prog w=.ok (.pointer (some ⟨g,0,none⟩)) w:=by go_simp
theorem h5b(g:Nat)(w:World):(Instr.fieldAt 135 (.pointer (some ⟨g,0,none⟩)) 1).run Tryz.prog w=.ok (.pointer (some ⟨g,1,none⟩)) w:=by go_simp
def PRd(w:World)(g:Nat)(T:TypeId)(A:Option Addr)(n c:Nat)(r:Rd)(rest:List Value):Prop:=Blk w g T (.slice A n c::.int .i64 r.p::.int .i64 r.e::rest)
def v5a(w:World)(g:Nat)(T:TypeId)(A:Option Addr)(n c:Nat)(q:List Int×Rd)(rest:List Value)(e:Ending)(w':World):Prop:=∃A' m,e=.returned (.slice A' m m)/\m=q.1.length/\PRd w' g T A n c q.2 rest/\Y1a w' w.heap.size A' q.1/\H2a g w w'/\(¬q.2.e=0->A'=none/\m=0)
theorem Y1a.onlyW{w w':World}{base g:Nat}{A:Option Addr}{xs:List Int}(h:Y1a w base A xs)(hO:p3a g w w')(hg:g<base):Y1a w' base A xs:=by
 rcases h with h | ⟨k,h1,h2,h3⟩
 ·exact .inl h
 ·exact .inr ⟨k,h1,h2,h3.only hO (by omega)⟩
theorem Y3b{xs:List Int}{m:Nat}{r:Rd}:(S1a xs m r).1.length<=m:=by
 unfold S1a;split
 ·split
  ·simp
  ·simp;omega
 ·simp
theorem R1b{xs:List Int}(h:Bytes xs)(m:Nat)(r:Rd):Bytes (S1a xs m r).1:=by
 unfold S1a;split
 ·split
  ·exact Bytes.nil
  ·exact(h.drop _).take _
 ·exact Bytes.nil
theorem S1b{xs:List Int}{m n:Nat}{r:Rd}(hl:xs.length=n)(h:r.p<=n):(S1a xs m r).2.p<=n:=by
 unfold S1a;split
 ·split
  ·exact h
  ·show r.p+m<=n;omega
 ·exact h
theorem J6b(w:World)(g:Nat)(T:TypeId)(A:Option Addr)(n c:Nat)(xs:List Int)(r:Rd)(m:Nat)(rest:List Value)(hB:PRd w g T A n c r rest)(hx:Holds w w.heap.size A n c xs)(hp:r.p<=n)(hm:m<=65536) :
  Calls Tryz.prog 163 #[.pointer (some ⟨g,0,none⟩),.int .i64 (m:Int)] w (v5a w g T A n c (S1a xs m r) rest):=by
 obtain⟨p,er⟩:=r;change p<=n at hp
 have hl:=hx.len;have hrm:=hx.room;have hft:=hx.fit;have hlt:=hB.lt;have HR0:Hid (Blk w g T (.slice A n c::.int .i64 (p:Int)::.int .i64 er::rest)):=hB;have c2:w.cell? ⟨g,2,none⟩=some (.int .i64 er):=Blk.at hB rfl;by_cases he:er=0;rotate_left
 ·have HQ:Hid (∀e w',(∃A' m,e=.returned (.slice A' m m)/\m=0/\Blk w' g T (.slice A n c::.int .i64 (p:Int)::.int .i64 er::rest)/\Y1a w' w.heap.size A' []/\H2a g w w'/\(¬er=0->A'=none/\m=0))->v5a w g T A n c (S1a xs m ⟨p,er⟩) rest e w'):=by intro e w' hh;unfold S1a;rw[if_neg he];exact hh
  have hne:(er != 0)=true:=by simpa using he
  clear hB hx hl he;go_enter Tryz.func163,Tryz.ntmps163;go_wp2;go_ret;exact HQ.out _ _ ⟨none,0,rfl,rfl,HR0.out,F1b _ _,H2a.refl g w,λ_=>⟨rfl,rfl⟩⟩
 subst he;have C1:=W8a w A n c xs (p:Int) (m:Int) hx (by omega) (by omega);unfold t4a at C1;have ep:p1a xs.length (p:Int) (m:Int)=if n<p+m then 4 else 0:=by
  unfold p1a;rw[hl,if_neg (by omega)];by_cases h5:n<p+m
  ·rw[if_pos h5,if_pos (by omega)]
  ·rw[if_neg h5,if_neg (by omega)]
 rw[ep] at C1;by_cases hr:n<p+m
 ·have HQ:Hid (∀e w',(∃A' m,e=.returned (.slice A' m m)/\m=0/\Blk w' g T (.slice A n c::.int .i64 (p:Int)::.int .i64 4::rest)/\Y1a w' w.heap.size A' []/\H2a g w w'/\(¬(4:Int)=0->A'=none/\m=0))->v5a w g T A n c (S1a xs m ⟨p,0⟩) rest e w'):=by intro e w' hh;unfold S1a;rw[if_pos rfl,if_pos (by rw[hl];exact hr)];exact hh
  rw[if_pos hr] at C1 ep;have ep2:partOf xs (p:Int) (m:Int)=[]:=by unfold partOf;rw[ep,if_neg (by decide)]
  rw[ep2] at C1;have C1':Hid (∀k,Calls Tryz.prog 58 #[.slice A n c,.int .i64 (p:Int),.int .i64 (m:Int)] (w.drewN k) λe w'=>∃A',e=.returned (.tuple #[.slice A' 0 0,.int .i64 4])/\Below (w.drewN k).heap.size (w.drewN k) w'):=λk=>by have h1:=W8a (w.drewN k) A n c xs (p:Int) (m:Int) (hx.drewN k) (by omega) (by omega);unfold t4a at h1;rw[ep,ep2] at h1;exact h1.mono λe w' ⟨A',h1,_,h3⟩=>⟨A',h1,h3⟩
  clear hB hx hl C1 ep ep2;go_enter Tryz.func163,Tryz.ntmps163;go_upto_region 3 with fail
  refine wp_region_held (S:=λw'=>Blk w' g T (.slice A n c::.int .i64 (p:Int)::.int .i64 0::rest)) (by kernel_rfl) ?_;change wpAnyH _ _ _ _ _ _ _ _ w.drew
  have S0:Hid (Blk w.drew g T (.slice A n c::.int .i64 (p:Int)::.int .i64 0::rest)):=HR0.out.drew;have b0:Hid (Below w.heap.size w w.drew):=(b6a w 1);refine tK 0 _ rfl (t0a (by kernel_rfl) (.tmp 0) rfl (.pointer (some ⟨g,0,none⟩)) (by kernel_rfl)) S0.out ?_;refine tK 1 _ rfl (x1a (by kernel_rfl) (.tmp 13) rfl ⟨g,0,none⟩ (by kernel_rfl)) S0.out ?_;refine tK 2 _ rfl (g0a (by kernel_rfl) _ (.tmp 14) 0 rfl (.pointer (some ⟨g,0,none⟩)) (.pointer (some ⟨g,0,none⟩)) (by kernel_rfl) (g5b g)) S0.out ?_;refine tK 3 _ rfl (i0a (by kernel_rfl) _ (.tmp 15) rfl g 0 (by kernel_rfl) (.slice A n c) (λw h=>h.at rfl) _ Tryz.underlying31 rfl) S0.out ?_;refine tK 4 _ rfl (t0a (by kernel_rfl) (.tmp 0) rfl (.pointer (some ⟨g,0,none⟩)) (by kernel_rfl)) S0.out ?_;refine tK 5 _ rfl (x1a (by kernel_rfl) (.tmp 17) rfl ⟨g,0,none⟩ (by kernel_rfl)) S0.out ?_;refine tK 6 _ rfl (g0a (by kernel_rfl) _ (.tmp 18) 1 rfl (.pointer (some ⟨g,0,none⟩)) (.pointer (some ⟨g,1,none⟩)) (by kernel_rfl) (h5b g)) S0.out ?_;refine tK 7 _ rfl (i0a (by kernel_rfl) _ (.tmp 19) rfl g 1 (by kernel_rfl) (.int .i64 (p:Int)) (λw h=>h.at rfl) _ Tryz.underlying3 rfl) S0.out ?_;refine tK 8 _ rfl (t0a (by kernel_rfl) (.tmp 1) rfl (.int .i64 (m:Int)) (by kernel_rfl)) S0.out ?_;refine oN 9 _ rfl λK hK=>?_
  go_simp;refine(C1'.out 1).mono ?_;rintro e v1 ⟨A',rfl,L1⟩;have S1:Hid (Blk v1 g T (.slice A n c::.int .i64 (p:Int)::.int .i64 0::rest)):=S0.out.over L1;have b1:Hid (Below w.heap.size w v1):=step b0.out L1;refine hK _ _ S1.out ?_;clear hK K L1;refine tK 10 ((.tuple #[.slice A' 0 0,.int .i64 4])) rfl (.inl ⟨by kernel_rfl,λw _=>by go_simp⟩) S1.out ?_;refine tK 11 ((.slice A' 0 0)) rfl (.inl ⟨by kernel_rfl,λw _=>by go_simp⟩) S1.out ?_;refine tK 12 ((.int .i64 4)) rfl (.inl ⟨by kernel_rfl,λw _=>by go_simp⟩) S1.out ?_;refine tK 13 ((.slice A' 0 0)) rfl (.inl ⟨by kernel_rfl,λw _=>by go_simp⟩) S1.out ?_;refine tK 14 ((.int .i64 4)) rfl (.inl ⟨by kernel_rfl,λw _=>by go_simp⟩) S1.out ?_;refine dN ?_;have S1':=hI S1.out;have gd:v1.cell? ⟨g,2,none⟩=some (.int .i64 0):=S1.out.at rfl;have gf:=Blk.frozen S1.out 2;go_wp2;go_ret;exact HQ.out _ _ ⟨none,0,rfl,rfl,Blk.set S1'.out 2 _,F1b _ _,(H2a.of_below b1.out g).setCell 2 _,λ_=>⟨rfl,rfl⟩⟩
 ·have HQ:Hid (∀e w',(∃A' k,e=.returned (.slice A' k k)/\k=m/\Blk w' g T (.slice A n c::.int .i64 ((p:Int)+m)::.int .i64 0::rest)/\Y1a w' w.heap.size A' ((xs.drop p).take m)/\H2a g w w')->v5a w g T A n c (S1a xs m ⟨p,0⟩) rest e w'):=by rintro e w' ⟨A',k,h1,h2,h3,h4,h5⟩;unfold S1a;rw[if_pos rfl,if_neg (by rw[hl];exact hr)];unfold v5a PRd;rw[show((p+m:Nat):Int)=(p:Int)+m from by omega];exact⟨A',k,h1,by show k=((xs.drop p).take m).length;rw[h2,List.length_take,List.length_drop];omega,h3,h4,h5,λh=>absurd rfl h⟩
  rw[if_neg hr] at C1 ep;have ep2:partOf xs (p:Int) (m:Int)=(xs.drop p).take m:=by unfold partOf;rw[ep,if_pos rfl];rfl
  have el:((xs.drop p).take m).length=m:=by rw[List.length_take,List.length_drop];omega
  have C1':Hid (∀k,Calls Tryz.prog 58 #[.slice A n c,.int .i64 (p:Int),.int .i64 (m:Int)] (w.drewN k) λe w'=>∃A',e=.returned (.tuple #[.slice A' m m,.int .i64 0])/\Y1a w' (w.drewN k).heap.size A' ((xs.drop p).take m)/\Below (w.drewN k).heap.size (w.drewN k) w'):=λk=>by have h1:=W8a (w.drewN k) A n c xs (p:Int) (m:Int) (hx.drewN k) (by omega) (by omega);unfold t4a at h1;rw[ep,ep2,el] at h1;exact h1
  obtain⟨ys,hys⟩:∃ys,ys=(xs.drop p).take m:=⟨_,rfl⟩;rw[<-hys] at HQ C1';have hwr:IntKind.i64.wrap ((p:Int)+m)=(p:Int)+m:=by rw[IntKind.wrap_i64];omega
  clear hB hx hl C1 ep ep2 el hys;go_enter Tryz.func163,Tryz.ntmps163;go_upto_region 3 with fail
  refine wp_region_held (S:=λw'=>Blk w' g T (.slice A n c::.int .i64 (p:Int)::.int .i64 0::rest)) (by kernel_rfl) ?_;change wpAnyH _ _ _ _ _ _ _ _ w.drew
  have S0:Hid (Blk w.drew g T (.slice A n c::.int .i64 (p:Int)::.int .i64 0::rest)):=HR0.out.drew;have b0:Hid (Below w.heap.size w w.drew):=(b6a w 1);refine tK 0 _ rfl (t0a (by kernel_rfl) (.tmp 0) rfl (.pointer (some ⟨g,0,none⟩)) (by kernel_rfl)) S0.out ?_;refine tK 1 _ rfl (x1a (by kernel_rfl) (.tmp 13) rfl ⟨g,0,none⟩ (by kernel_rfl)) S0.out ?_;refine tK 2 _ rfl (g0a (by kernel_rfl) _ (.tmp 14) 0 rfl (.pointer (some ⟨g,0,none⟩)) (.pointer (some ⟨g,0,none⟩)) (by kernel_rfl) (g5b g)) S0.out ?_;refine tK 3 _ rfl (i0a (by kernel_rfl) _ (.tmp 15) rfl g 0 (by kernel_rfl) (.slice A n c) (λw h=>h.at rfl) _ Tryz.underlying31 rfl) S0.out ?_;refine tK 4 _ rfl (t0a (by kernel_rfl) (.tmp 0) rfl (.pointer (some ⟨g,0,none⟩)) (by kernel_rfl)) S0.out ?_;refine tK 5 _ rfl (x1a (by kernel_rfl) (.tmp 17) rfl ⟨g,0,none⟩ (by kernel_rfl)) S0.out ?_;refine tK 6 _ rfl (g0a (by kernel_rfl) _ (.tmp 18) 1 rfl (.pointer (some ⟨g,0,none⟩)) (.pointer (some ⟨g,1,none⟩)) (by kernel_rfl) (h5b g)) S0.out ?_;refine tK 7 _ rfl (i0a (by kernel_rfl) _ (.tmp 19) rfl g 1 (by kernel_rfl) (.int .i64 (p:Int)) (λw h=>h.at rfl) _ Tryz.underlying3 rfl) S0.out ?_;refine tK 8 _ rfl (t0a (by kernel_rfl) (.tmp 1) rfl (.int .i64 (m:Int)) (by kernel_rfl)) S0.out ?_;refine oN 9 _ rfl λK hK=>?_
  go_simp;refine(C1'.out 1).mono ?_;rintro e v1 ⟨A',rfl,hfr,L1⟩;have S1:Hid (Blk v1 g T (.slice A n c::.int .i64 (p:Int)::.int .i64 0::rest)):=S0.out.over L1;have b1:Hid (Below w.heap.size w v1):=step b0.out L1;have HF:Hid (Y1a v1 w.heap.size A' ys):=hfr;refine hK _ _ S1.out ?_;clear hK K hfr L1;refine tK 10 ((.tuple #[.slice A' m m,.int .i64 0])) rfl (.inl ⟨by kernel_rfl,λw _=>by go_simp⟩) S1.out ?_;refine tK 11 ((.slice A' m m)) rfl (.inl ⟨by kernel_rfl,λw _=>by go_simp⟩) S1.out ?_;refine tK 12 ((.int .i64 0)) rfl (.inl ⟨by kernel_rfl,λw _=>by go_simp⟩) S1.out ?_;refine tK 13 ((.slice A' m m)) rfl (.inl ⟨by kernel_rfl,λw _=>by go_simp⟩) S1.out ?_;refine tK 14 ((.int .i64 0)) rfl (.inl ⟨by kernel_rfl,λw _=>by go_simp⟩) S1.out ?_;refine dN ?_;have S1':=hI S1.out;have gd:v1.cell? ⟨g,2,none⟩=some (.int .i64 0):=S1.out.at rfl;have gd1:v1.cell? ⟨g,1,none⟩=some (.int .i64 (p:Int)):=S1.out.at rfl;have gf:=Blk.frozen S1.out 1;go_wp2;go_ret;exact HQ.out _ _ ⟨A',m,rfl,rfl,Blk.set S1'.out 1 _,HF.out.onlyW (a3a _ g 1 _) hlt,(H2a.of_below b1.out g).setCell 1 _⟩
def rdZ(xs:List Int)(m:Nat)(r:Rd):Rd:=if (S1a xs m r).2.e=0 then (if zeroOf (S1a xs m r).1 0 (m:Int)=true then (S1a xs m r).2 else ⟨(S1a xs m r).2.p,5⟩) else (S1a xs m r).2
def M6a(w:World)(g:Nat)(T:TypeId)(A:Option Addr)(n c:Nat)(r:Rd)(rest:List Value)(e:Ending)(w':World):Prop:=e=.returned (.tuple #[])/\PRd w' g T A n c r rest/\H2a g w w'
theorem Q2b(w:World)(g:Nat)(T:TypeId)(A:Option Addr)(n c:Nat)(xs:List Int)(r:Rd)(m:Nat)(rest:List Value)(hB:PRd w g T A n c r rest)(hx:Holds w w.heap.size A n c xs)(hp:r.p<=n)(hm0:m<=65536) :
  Calls Tryz.prog 114 #[.pointer (some ⟨g,0,none⟩),.int .i64 (m:Int)] w (M6a w g T A n c (rdZ xs m r) rest):=by
 have C1:=J6b w g T A n c xs r m rest hB hx hp hm0;unfold v5a at C1;have CZ:Hid (∀(w:World) (A:Option Addr) (k:Nat),Holds w w.heap.size A k k (S1a xs m r).1->Calls Tryz.prog 165 #[.slice A k k,.int .i64 0,.int .i64 (m:Int)] w λe w'=>e=.returned (.bool (zeroOf (S1a xs m r).1 0 (m:Int)))/\w=w'):=λw A k hh=>x6b w _ A k k _ 0 (m:Int) hh (by omega) (by omega)
 have HYB:=hI (R1b hx.byte m r);have hyl:(S1a xs m r).1.length<=m:=Y3b;have hQ:∀e w',(e=.returned (.tuple #[])/\PRd w' g T A n c (if (S1a xs m r).2.e=0 then (if zeroOf (S1a xs m r).1 0 (m:Int)=true then (S1a xs m r).2 else ⟨(S1a xs m r).2.p,5⟩) else (S1a xs m r).2) rest/\H2a g w w')->M6a w g T A n c (rdZ xs m r) rest e w':=λ_ _ h=>h
 obtain⟨z,hz⟩:∃z,z=zeroOf (S1a xs m r).1 0 (m:Int):=⟨_,rfl⟩;rw[<-hz] at CZ hQ;obtain⟨ys,hys⟩:∃ys,ys=(S1a xs m r).1:=⟨_,rfl⟩;rw[<-hys] at C1 CZ HYB hyl;obtain⟨q,hq⟩:∃q,q=(S1a xs m r).2:=⟨_,rfl⟩;rw[<-hq] at C1 hQ;obtain⟨p',e'⟩:=q;have C1':=hI C1;unfold PRd at C1' hQ;clear C1 hB hx hys hz hp hq;by_cases he:e'=0
 ·subst he;cases z
  ·have HQ:Hid (∀e w',(e=.returned (.tuple #[])/\Blk w' g T (.slice A n c::.int .i64 (p':Int)::.int .i64 5::rest)/\H2a g w w')->M6a w g T A n c (rdZ xs m r) rest e w'):=by intro e w' hh;refine hQ e w' ?_;rw[if_pos rfl,if_neg (by decide)];exact hh
   clear hQ;go_enter Tryz.func114,Tryz.ntmps114;go_wp2_with fail;refine C1'.out.mono ?_;rintro e w1 ⟨A',k,rfl,hk,hB1,hfr,hS,_⟩;have HH:=hI (hfr.holds hk.symm HYB.out (by omega));have HB1:Hid (Blk w1 g T (.slice A n c::.int .i64 (p':Int)::.int .i64 0::rest)):=hB1;have HS1:=hI hS;have gd:w1.cell? ⟨g,2,none⟩=some (.int .i64 0):=HB1.out.at rfl;have gf:=Blk.frozen HB1.out 2;have CZ1:=hI (CZ.out _ _ _ HH.out);clear hk hfr hB1 hS CZ hyl;go_wp2_with fail;refine CZ1.out.mono ?_;rintro e w2 ⟨rfl,rfl⟩;go_wp2;go_end0;exact HQ.out _ _ ⟨rfl,Blk.set HB1.out 2 _,HS1.out.setCell 2 _⟩
  ·have HQ:Hid (∀e w',(e=.returned (.tuple #[])/\Blk w' g T (.slice A n c::.int .i64 (p':Int)::.int .i64 0::rest)/\H2a g w w')->M6a w g T A n c (rdZ xs m r) rest e w'):=by intro e w' hh;refine hQ e w' ?_;rw[if_pos rfl,if_pos rfl];exact hh
   clear hQ;go_enter Tryz.func114,Tryz.ntmps114;go_wp2_with fail;refine C1'.out.mono ?_;rintro e w1 ⟨A',k,rfl,hk,hB1,hfr,hS,_⟩;have HH:=hI (hfr.holds hk.symm HYB.out (by omega));have HB1:Hid (Blk w1 g T (.slice A n c::.int .i64 (p':Int)::.int .i64 0::rest)):=hB1;have HS1:=hI hS;have gd:w1.cell? ⟨g,2,none⟩=some (.int .i64 0):=HB1.out.at rfl;have CZ1:=hI (CZ.out _ _ _ HH.out);clear hk hfr hB1 hS CZ hyl;go_wp2_with fail;refine CZ1.out.mono ?_;rintro e w2 ⟨rfl,rfl⟩;go_wp2;go_end0;exact HQ.out _ _ ⟨rfl,HB1.out,HS1.out⟩
 ·have HQ:Hid (∀e w',(e=.returned (.tuple #[])/\Blk w' g T (.slice A n c::.int .i64 (p':Int)::.int .i64 e'::rest)/\H2a g w w')->M6a w g T A n c (rdZ xs m r) rest e w'):=by intro e w' hh;refine hQ e w' ?_;rw[if_neg he];exact hh
  have hne:(e'==0)=false:=by simpa using he
  clear hQ CZ he;go_enter Tryz.func114,Tryz.ntmps114;go_wp2_with fail;refine C1'.out.mono ?_;rintro e w1 ⟨A',k,rfl,hk,hB1,hfr,hS,_⟩;have HB1:Hid (Blk w1 g T (.slice A n c::.int .i64 (p':Int)::.int .i64 e'::rest)):=hB1;have HS1:=hI hS;have gd:w1.cell? ⟨g,2,none⟩=some (.int .i64 e'):=HB1.out.at rfl;clear hk hfr hB1 hS hyl;go_wp2;go_end0;exact HQ.out _ _ ⟨rfl,HB1.out,HS1.out⟩
theorem K6b(w:World)(g:Nat)(T:TypeId)(A:Option Addr)(n c:Nat)(xs:List Int)(r:Rd)(rest:List Value)(hB:PRd w g T A n c r rest)(hl:xs.length=n)(hn:n<=281474976710656)(hp:r.p<=n) :
  Calls Tryz.prog 115 #[.pointer (some ⟨g,0,none⟩)] w λe w'=>e=.returned (.int .i64 (Y5a xs r))/\∃k,w.drewN k=w':=by
 obtain⟨p,er⟩:=r;change p<=n at hp
 have c0:w.cell? ⟨g,0,none⟩=some (.slice A n c):=Blk.at hB rfl;have c1:w.cell? ⟨g,1,none⟩=some (.int .i64 (p:Int)):=Blk.at hB rfl;have c2:w.cell? ⟨g,2,none⟩=some (.int .i64 er):=Blk.at hB rfl;have hR:Y5a xs ⟨p,er⟩=if er=0/\p≠n then 5 else er:=by unfold Y5a;rw[hl]
 rw[hR];clear hB hR;by_cases he:er=0
 ·subst he;by_cases hpn:p=n
  ·rw[if_neg (λh=>h.2 hpn)];have hb:decide (p<n)=false:=by rw[hpn];simp
   have hb2:¬p<n:=by omega
   clear hpn;go_enter Tryz.func115,Tryz.ntmps115;go_wp2;go_quiet (fail);go_wp2;go_ret;exact⟨rfl,_,rfl⟩
  ·rw[if_pos ⟨rfl,hpn⟩];have hb2:p<n:=by omega
   have hb:decide (p<n)=true:=by rw[decide_eq_true_iff];omega
   clear hpn;go_enter Tryz.func115,Tryz.ntmps115;go_wp2;go_quiet (fail);go_wp2;go_ret;exact⟨rfl,_,rfl⟩
 ·rw[if_neg (λh=>he h.1)];have hb:(er==0)=false:=by simpa using he
  clear he;go_enter Tryz.func115,Tryz.ntmps115;go_wp2;go_quiet (fail);go_wp2;go_ret;exact⟨rfl,_,rfl⟩
def d1b(xs:List Int)(r:Rd):List UInt8×Rd:=if r.e=0 then (R4b xs r.p,⟨(C1b xs r.p).toNat,D7a xs r.p⟩) else ([],r)
def t3b(xs:List Int)(r:Rd):Nat->List Int×Rd
 | 0=>([],r)
 | k+1=>((t3b xs r k).1++[(rdN xs 2 (t3b xs r k).2).1],(rdN xs 2 (t3b xs r k).2).2)
def i5b(xs:List Int)(r:Rd):List Int×Rd:=if 16<(rdN xs 2 r).1 then ([],⟨(rdN xs 2 r).2.p,3⟩) else t3b xs (rdN xs 2 r).2 (rdN xs 2 r).1.toNat
def rd0:Rd:=⟨0,0⟩
def j5b(c:Int)(xs:List Int):m1a×Rd:=
 if c=0 then ({ k0a with dial:=(i5b xs rd0).1,guid:=(S1a xs 16 (i5b xs rd0).2).1 },(S1a xs 16 (i5b xs rd0).2).2)
 else if c=1 then ({ k0a with proof:=(S1a xs 32 rd0).1,user:=⟨(d1b xs (S1a xs 32 rd0).2).1.toArray⟩ },(d1b xs (S1a xs 32 rd0).2).2)
 else if c=3 then ({ k0a with share:=⟨(d1b xs rd0).1.toArray⟩ },(d1b xs rd0).2)
 else (k0a,rdZ xs 4 rd0)
def o7a(c:Int)(xs:List Int):Int:=if M0a c=true then Y5a xs (j5b c xs).2 else 2
def Z6a(c:Int)(xs:List Int):m1a:=if o7a c xs=0 then (j5b c xs).1 else k0a
def o8b(c:Int)(xs:List Int):E1a×Rd:=
 if c=0 then ({ w0a with dia:=(rdN xs 2 rd0).1,siz:=(rdN xs 4 (rdZ xs 2 (rdN xs 2 rd0).2)).1,chal:=(S1a xs 8 (rdN xs 4 (rdZ xs 2 (rdN xs 2 rd0).2)).2).1 },(S1a xs 8 (rdN xs 4 (rdZ xs 2 (rdN xs 2 rd0).2)).2).2)
 else (w0a,rdZ xs 4 rd0)
def k5b(c:Int)(xs:List Int):Int:=if M0a c=true then Y5a xs (o8b c xs).2 else 2
def p8b(c:Int)(xs:List Int):E1a:=if k5b c xs=0 then (o8b c xs).1 else w0a
def U3a(w:World)(c:Int)(xs:List Int)(e:Ending)(w':World):Prop:=∃vd,e=.returned (.tuple #[.agg (l0a vd (.slice none 0 0) (.slice none 0 0) (Z6a c xs)).toArray,.int .i64 (o7a c xs)])/\b1a w' w'.heap.size (l0a vd (.slice none 0 0) (.slice none 0 0) (Z6a c xs)) (Z6a c xs)/\Below w.heap.size w w'/\(∀b off s n c,vd=.slice (some ⟨b,off,s⟩) n c->w.heap.size<=b)
theorem l5b{xs:List Int}{m n:Nat}{r:Rd}(hl:xs.length=n)(h:r.p<=n):(rdZ xs m r).p<=n:=by
 have:=S1b (m:=m) hl h;unfold rdZ;split
 ·split
  ·exact this
  ·exact this
 ·exact this
theorem Z3b{xs:List Int}{r:Rd}(h:Y5a xs r=0):r.e=0:=by
 unfold Y5a at h;split at h
 ·exact absurd h (by decide)
 ·exact h
theorem X2a.save{k:IntKind}{e:TypeId}{w w':World}{base g:Nat}{v:Value}{xs:List Int}(h:X2a k e w base v xs)(hS:H2a g w w')(hg:g<base):X2a k e w' base v xs:=h.keep λi cs hi hc=>hS.rest i (Array.getElem?_eq_some_iff.1 hc).1 (by obtain⟨hb,_⟩:=h.block hi;omega)
theorem m5b:(Tryz.prog.info? 137).map (λi=>(i.zero,i.size))=some (some (.agg (.slice none 0 0::.int .i64 0::.int .i64 0::l0a (.slice none 0 0) (.slice none 0 0) (.slice none 0 0) k0a).toArray),72):=by kernel_rfl
theorem T1b:(Tryz.prog.info? 137).map (·.size)=some 72:=by kernel_rfl
def G1a(c:Int):Bool:=decide (5<=c)&&decide (c<=10)
def e1b(l:m2a):List Int:=le l.at_ 8++(le l.n 8++(le l.md 2++List.replicate 2 0))
def X1a:List m2a->List Int
 | []=>[]
 | l::r=>e1b l++X1a r
def Z0a(c:Int)(a:m1a):m1a:=
 if c=5 then { a with acc:=0,shr:=0,way:=0,opt:=0,lev:=0,dur:=0,name:=.empty,file:=0 }
 else if c=8 then { a with at_:=0,n:=0,file:=0 }
 else if c=9 then { a with at_:=0,data:=[],file:=0 }
 else if c=10 then { a with locks:=[],file:=0 }
 else { a with file:=0 }
def c5a(c:Int)(a:m1a):m1a:=
 if c=5 then { k0a with acc:=a.acc,shr:=a.shr,way:=a.way,opt:=a.opt,lev:=a.lev,dur:=a.dur,name:=a.name,file:=a.file }
 else if c=8 then { k0a with at_:=a.at_,n:=a.n,file:=a.file }
 else if c=9 then { k0a with at_:=a.at_,data:=a.data,file:=a.file }
 else if c=10 then { k0a with locks:=a.locks,file:=a.file }
 else { k0a with file:=a.file }
def shut(ls:List m2a):Bool:=ls.all (λl=>l.op==0)
def J5a(c:Int)(a:m1a):Bool:=G1a c&&(decide (Z0a c a=k0a)&&shut a.locks)
def w5a(c:Int)(a:m1a):Int:=if J5a c a=true then (if a.data.length<=32768/\a.locks.length<=16 then (if c=5 then u0a a.name.data.toList else 0) else 3) else 2
def O4a(c:Int)(a:m1a):List Int:=
 if c=5 then le a.acc 4++(le a.shr 4++(le a.way 4++(le a.opt 4++(le a.lev 1++(le a.dur 1++(List.replicate 2 0++(le a.file 8++G0a a.name.data.toList)))))))
 else if c=8 then le a.file 8++(le a.at_ 8++le a.n 4)
 else if c=9 then le a.file 8++(le a.at_ 8++(le a.data.length 4++a.data))
 else if c=10 then le a.file 8++(le a.locks.length 2++(List.replicate 2 0++X1a a.locks))
 else le a.file 8
def t2b(c:Int)(a:m1a):List Int:=if w5a c a=0 then O4a c a else []
def d1a(c:Int)(s:E1a):E1a:=
 if c=5 then { s with lev:=0,dur:=0,made:=0,file:=0,siz:=0,kind:=0 }
 else if c=8 then { s with data:=[] }
 else if c=9 then { s with n:=0 }
 else s
def f2a(c:Int)(s:E1a):E1a:=
 if c=5 then { w0a with lev:=s.lev,dur:=s.dur,made:=s.made,file:=s.file,siz:=s.siz,kind:=s.kind }
 else if c=8 then { w0a with data:=s.data }
 else if c=9 then { w0a with n:=s.n }
 else w0a
def C2a(c:Int)(s:E1a):Bool:=G1a c&&decide (d1a c s=w0a)
def K5a(c:Int)(s:E1a):Int:=if C2a c s=true/\s.made<=2/\s.kind<=2 then (if s.data.length<=32768 then 0 else 3) else 2
def k3a(c:Int)(s:E1a):List Int:=
 if c=5 then le s.lev 1++(le s.dur 1++(le s.made 2++(le s.file 8++(le s.siz 8++(le s.kind 2++List.replicate 2 0)))))
 else if c=8 then le s.data.length 4++s.data
 else if c=9 then le s.n 4
 else List.replicate 4 0
def u3b(c:Int)(s:E1a):List Int:=if K5a c s=0 then k3a c s else []
def o9b(xs:List Int)(most:Int)(r:Rd):Int×Rd:=if (rdN xs 2 r).2.e=0/\most<(rdN xs 2 r).1 then ((rdN xs 2 r).1,⟨(rdN xs 2 r).2.p,5⟩) else rdN xs 2 r
def t7b(xs:List Int)(r:Rd):List Int×Rd:=S1a xs (y8a xs 4 32768 3 r).1.toNat (y8a xs 4 32768 3 r).2
def u7b(xs:List Int)(r:Rd):m2a×Rd:=(⟨0,(rdN xs 8 r).1,(rdN xs 8 (rdN xs 8 r).2).1,(rdN xs 2 (rdN xs 8 (rdN xs 8 r).2).2).1⟩,rdZ xs 2 (rdN xs 2 (rdN xs 8 (rdN xs 8 r).2).2).2)
def f1b(xs:List Int)(r:Rd):Nat->List m2a×Rd
 | 0=>([],r)
 | k+1=>((f1b xs r k).1++[(u7b xs (f1b xs r k).2).1],(u7b xs (f1b xs r k).2).2)
def d9b(xs:List Int)(r:Rd):List m2a×Rd:=f1b xs (rdZ xs 2 (y8a xs 2 16 3 r).2) (y8a xs 2 16 3 r).1.toNat
def c1(xs:List Int):=rdN xs 4 rd0
def c2(xs:List Int):=rdN xs 4 (c1 xs).2
def c3(xs:List Int):=rdN xs 4 (c2 xs).2
def c4(xs:List Int):=rdN xs 4 (c3 xs).2
def c5(xs:List Int):=rdN xs 1 (c4 xs).2
def c6(xs:List Int):=rdN xs 1 (c5 xs).2
def c7(xs:List Int):=rdZ xs 2 (c6 xs).2
def c8(xs:List Int):=rdN xs 8 (c7 xs)
def c9(xs:List Int):=Q1b xs (c8 xs).2
def o1(xs:List Int):=rdN xs 8 rd0
def o2(xs:List Int):=rdN xs 8 (o1 xs).2
def o3(xs:List Int):=rdN xs 4 (o2 xs).2
def o4(xs:List Int):=t7b xs (o2 xs).2
def o5(xs:List Int):=d9b xs (o1 xs).2
def fgP(c:Int)(xs:List Int):m1a×Rd:=
 if c=5 then ({ k0a with acc:=(c1 xs).1,shr:=(c2 xs).1,way:=(c3 xs).1,opt:=(c4 xs).1,lev:=(c5 xs).1,dur:=(c6 xs).1,file:=(c8 xs).1,name:=⟨(c9 xs).1.toArray⟩ },(c9 xs).2)
 else if c=8 then ({ k0a with file:=(o1 xs).1,at_:=(o2 xs).1,n:=(o3 xs).1 },(o3 xs).2)
 else if c=9 then ({ k0a with file:=(o1 xs).1,at_:=(o2 xs).1,data:=(o4 xs).1 },(o4 xs).2)
 else if c=10 then ({ k0a with file:=(o1 xs).1,locks:=(o5 xs).1 },(o5 xs).2)
 else ({ k0a with file:=(o1 xs).1 },(o1 xs).2)
def q8b(c:Int)(xs:List Int):Int:=if G1a c=true then Y5a xs (fgP c xs).2 else 2
def x9b(c:Int)(xs:List Int):m1a:=if q8b c xs=0 then (fgP c xs).1 else k0a
def s1(xs:List Int):=rdN xs 1 rd0
def s2(xs:List Int):=rdN xs 1 (s1 xs).2
def s3(xs:List Int):=o9b xs 2 (s2 xs).2
def s4(xs:List Int):=rdN xs 8 (s3 xs).2
def s5(xs:List Int):=rdN xs 8 (s4 xs).2
def s6(xs:List Int):=o9b xs 2 (s5 xs).2
def s7(xs:List Int):=rdZ xs 2 (s6 xs).2
def s8(xs:List Int):=t7b xs rd0
def s9(xs:List Int):=rdN xs 4 rd0
def sgP(c:Int)(xs:List Int):E1a×Rd:=
 if c=5 then ({ w0a with lev:=(s1 xs).1,dur:=(s2 xs).1,made:=(s3 xs).1,file:=(s4 xs).1,siz:=(s5 xs).1,kind:=(s6 xs).1 },s7 xs)
 else if c=8 then ({ w0a with data:=(s8 xs).1 },(s8 xs).2)
 else if c=9 then ({ w0a with n:=(s9 xs).1 },(s9 xs).2)
 else (w0a,rdZ xs 4 rd0)
def r8b(c:Int)(xs:List Int):Int:=if G1a c=true then Y5a xs (sgP c xs).2 else 2
def y9b(c:Int)(xs:List Int):E1a:=if r8b c xs=0 then (sgP c xs).1 else w0a
theorem v3b{xs:List Int}(hx:Bytes xs)(s:Nat)(r:Rd)(M:Int)(hM:(256:Int)^s=M)(h1:1<=M):0<=(rdN xs s r).1/\(rdN xs s r).1<=M-1:=by
 unfold rdN;split
 ·split
  ·exact⟨Int.le_refl 0,by show(0:Int)<=M-1;omega⟩
  ·exact W2a xs hx r.p s M hM
 ·exact⟨Int.le_refl 0,by show(0:Int)<=M-1;omega⟩
theorem I9a(ls:List m2a)(l:m2a):X1a (ls++[l])=X1a ls++e1b l:=by
 induction ls with
 | nil=>simp[X1a]
 | cons a r ih=>simp[X1a,ih,List.append_assoc]
theorem n5b(l:m2a):(e1b l).length=20:=by simp[e1b,m0a]
theorem N6a(ls:List m2a):(X1a ls).length=20*ls.length:=by
 induction ls with
 | nil=>rfl
 | cons a r ih=>simp only[X1a,List.length_append,n5b,ih,List.length_cons];omega
theorem R2b(l:m2a):Bytes (e1b l):=(F0a _ _).append ((F0a _ _).append ((F0a _ _).append (Bytes.zeros 2)))
theorem r6a(ls:List m2a):Bytes (X1a ls):=by
 induction ls with
 | nil=>exact Bytes.nil
 | cons a r ih=>exact(R2b a).append ih
theorem Holds.rest{w:World}{B:Nat}{A:Option Addr}{n c k:Nat}{xs:List Int}(h:Holds w B A n c xs)(hk:k<=n):Holds w B (if c=k then A else A.map (·.add k)) (n-k) (c-k) (xs.drop k):=by
 have hl:=h.len;have hf:=h.fit;refine⟨by simp;omega,by omega,by have:=h.room;omega,h.byte.drop k,λhA=>?_,λhn=>?_⟩
 ·by_cases hc:c=k
  ·omega
  ·rw[if_neg hc] at hA;have:A=none:=by cases A<;>simp_all
   have:=h.bare this;omega
 ·obtain⟨b,off,rfl,hb,hcl⟩:=h.cells (by omega);rw[if_neg (by omega)];refine⟨b,off+k,?_,hb,λi hi=>?_⟩
  ·by_cases hk0:k=0
   ·subst hk0;simp[Addr.add]
   ·simp[Addr.add,hk0]
  ·rw[Nat.add_assoc,hcl (k+i) (by omega)];simp[List.getD_eq_getElem?_getD,List.getElem?_drop]
theorem Holds.of_lit{w:World}{g:Nat}{T:TypeId}{xs:List Int}(h:Blk w g T (xs.map (Value.int .u8)))(hx:Bytes xs)(hn:xs.length<=1000:=by simp):Holds w w.heap.size (some ⟨g,0,none⟩) xs.length xs.length xs:=
 ⟨rfl,Nat.le_refl _,by omega,hx,λhA=>(by cases hA),λ_=>⟨g,0,rfl,h.lt,λi hi=>by rw[Nat.zero_add,h.cell];simp[List.getD_eq_getElem?_getD,hi]⟩⟩
def PF(w:World)(g B:Nat)(xs:List Int)(r:Rd):Prop:=r.p<=xs.length/\B<=g/\∃A n c,Blk w g 152 [.slice A n c,.int .i64 r.e]/\Holds w B A n c (xs.drop r.p)
theorem PF.lt{w:World}{g B:Nat}{xs:List Int}{r:Rd}(h:PF w g B xs r):g<w.heap.size:=by obtain⟨_,_,A,n,c,hB,_⟩:=h;exact hB.lt
theorem PF.only{w w':World}{g g' B:Nat}{xs:List Int}{r:Rd}(h:PF w g B xs r)(hO:p3a g' w w')(hg:g≠g')(hb:B<=g'):PF w' g B xs r:=by obtain⟨h1,h2,A,n,c,hB,hx⟩:=h;exact⟨h1,h2,A,n,c,hB.only hO hg,hx.only hO hb⟩
theorem PF.below{w w':World}{g B:Nat}{xs:List Int}{r:Rd}(h:PF w g B xs r)(hb:Below w.heap.size w w'):PF w' g B xs r:=by have hlt:=h.lt;obtain⟨h1,h2,A,n,c,hB,hx⟩:=h;exact⟨h1,h2,A,n,c,hB.over hb,hx.below (hb.mono (by omega))⟩
abbrev M5a(w:World)(base:Nat)(v:Value)(xs:List Int):Prop:=a1a .u8 5 w base v xs
theorem a1a.own8{w:World}{base:Nat}{v:Value}{xs:List Int}(h:a1a .u8 5 w base v xs):Own w base v xs:=h.own
theorem a1a.holds8{w:World}{base:Nat}{v:Value}{xs:List Int}(h:a1a .u8 5 w base v xs)(hx:Bytes xs)(hn:xs.length<=281474976710656) :
  ∃A c,v=.slice A xs.length c/\Holds w w.heap.size A xs.length c xs:=h.own8.holds hx hn
theorem Y1a.ownB{w:World}{base n:Nat}{A:Option Addr}{xs:List Int}(h:Y1a w base A xs)(hl:xs.length=n)(hn:n<=281474976710656):a1a .u8 5 w base (.slice A n n) xs:=by
 rcases h with⟨rfl,rfl⟩ | ⟨g,rfl,hb,hr⟩
 ·obtain rfl:n=0:=hl.symm;exact a1a.nil _ _ _ _
 ·refine .inr ⟨g,0,by rw[hl,Nat.add_zero],hb,by unfold maxLen;omega,?_⟩;rw[List.replicate_zero,List.append_nil];exact hr
theorem x5a{w:World}{g base n:Nat}(h:Row w g (List.replicate n 0))(hb:base<=g)(hn:n<=281474976710656):a1a .u8 5 w base (.slice (some ⟨g,0,none⟩) n n) (List.replicate n 0):=Y1a.ownB (.inr ⟨g,rfl,hb,h⟩) (by simp) hn
def P4a(w:World)(xs:List Int)(e:Ending)(w':World):Prop:=∃v,e=.returned (.tuple #[v,.int .i64 (g6a xs.length)])/\M5a w' w.heap.size v (rowOf xs)/\Below w.heap.size w w'
def w3a(w:World)(l:List UInt8)(e:Ending)(w':World):Prop:=∃v,e=.returned (.tuple #[v,.int .i64 (u0a l)])/\M5a w' w.heap.size v (G0a l)/\Below w.heap.size w w'
def y5a(w:World)(a:m1a)(e:Ending)(w':World):Prop:=∃v,e=.returned (.tuple #[v,.int .i64 (if a.dial.length<=16 then 0 else 3)])/\M5a w' w.heap.size v (if a.dial.length<=16 then n7a a else [])/\Below w.heap.size w w'
def o2a(w:World)(c:Int)(a:m1a)(e:Ending)(w':World):Prop:=∃v,e=.returned (.tuple #[v,.int .i64 (g1a c a)])/\M5a w' w.heap.size v (q3a c a)/\Below w.heap.size w w'
def c3a(w:World)(c:Int)(s:E1a)(e:Ending)(w':World):Prop:=∃v,e=.returned (.tuple #[v,.int .i64 (z1a c s)])/\M5a w' w.heap.size v (O3a c s)/\Below w.heap.size w w'
theorem S2b(w:World)(A:Option Addr)(n c:Nat)(xs:List Int)(h:Holds w w.heap.size A n c xs) :
  Calls Tryz.prog 162 #[.slice A n c] w (P4a w xs):=by
 have hl:=h.len;have hr:=h.room;have hf:=h.fit;have C1:=g7a w (n:Int) 2 (by omega) (by omega);unfold B4a at C1;have hz:IntKind.u64.wrap (n:Int)=n:=by rw[IntKind.wrap_u64];omega
 by_cases hn:n<=65535
 ·obtain⟨e0,e1⟩:=s7b n hn;rw[e0,e1,m0a] at C1;have HQ:Hid (∀e w',(∃v,e=.returned (.tuple #[v,.int .i64 0])/\M5a w' w.heap.size v (le n 2++xs)/\Below w.heap.size w w')->P4a w xs e w'):=by intro e w' hh;unfold P4a g6a rowOf;rw[hl,if_pos hn,if_pos hn];exact hh
  have HLB:Hid (Bytes (le (n:Int) 2)):=F0a _ _;have HLL:Hid ((le (n:Int) 2).length=2):=m0a _ _;obtain⟨ls,hls⟩:∃ls,ls=le (n:Int) 2:=⟨_,rfl⟩;rw[<-hls] at C1 HQ HLB HLL;have C1':=hI C1;have HX:=hI h;clear C1 hls e0 e1 h hl;go_enter Tryz.func162,Tryz.ntmps162;go_wp2_with fail;refine C1'.out.mono ?_;rintro e w1 ⟨A',rfl,hfr,L1⟩;have H1:=hI (hfr.holds (n:=2) HLL.out HLB.out (by omega));have HX1:=hI (HX.out.over L1);have M1:=hI L1;clear hfr L1 C1' HX;go_wp2_with(first
   | ((with_reducible refine sN 17 ?_);refine Z2a rfl 2 _ rfl [(A',2,2,ls),(A,n,c,xs)] rfl (by kernel_rfl) (List.forall_mem_cons.2 ⟨H1.out,List.forall_mem_cons.2 ⟨HX1.out,λ_ h=>by cases h⟩⟩) ?_;intro g2 w2 P2 b2)
   | fail)
  refine(Y2a _ g2 2 _ _ _ _ P2.out (by omega) (by show 0+2+n<=_;omega)).mono ?_;rintro e w3 ⟨v,rfl,ho,L3⟩;have HO:=hI ho;have L3':=hI L3;clear ho L3;go_wp2;go_ret2;refine HQ.out _ _ ⟨_,rfl,?_,step (step M1.out b2.out) L3'.out⟩;have:=HO.out.mono (base':=w.heap.size) (step M1.out b2.out).size;simpa[R6a,T3a] using this
 ·obtain⟨e1,e0⟩:=F7b n hn;rw[e0,e1] at C1;have HQ:Hid (∀e w',(∃v,e=.returned (.tuple #[v,.int .i64 3])/\M5a w' w.heap.size v []/\Below w.heap.size w w')->P4a w xs e w'):=by intro e w' hh;unfold P4a g6a rowOf;rw[hl,if_neg hn,if_neg hn];exact hh
  have C1':=hI C1;clear C1 e0 e1 h hl;go_enter Tryz.func162,Tryz.ntmps162;go_wp2_with fail;refine C1'.out.mono ?_;rintro e w1 ⟨A',rfl,hfr,L1⟩;clear hfr C1';go_wp2;go_ret2;exact HQ.out _ _ ⟨_,rfl,a1a.nil _ _ _ _,L1⟩
theorem k5a(s:ByteArray)(w:World)(hs:s.size<=17592186044416)(hT:f7a w) :
  Calls Tryz.prog 110 #[.string s] w (w3a w s.data.toList):=by
 have C1:=t6b s w hs hT;unfold O0b at C1;obtain⟨l,hl⟩:∃l,l=s.data.toList:=⟨_,rfl⟩;rw[<-hl] at C1⊢;have hlen:(R1a l).length<=4*s.size:=by
  rw[hl];have:=z7a s.data.toList;have:=e7a s.data.toList;have e:s.data.toList.length=s.size:=by rw[Array.length_toList];rfl
  omega
 have HBY:=hI (d7a l);by_cases ht:s2a l=0;rotate_left
 ·have HQ:Hid (∀e w',e=.returned (.tuple #[.slice none 0 0,.int .i64 (s2a l)])->Below w.heap.size w w'->w3a w l e w'):=by intro e w' he hb;unfold w3a G0a u0a;rw[if_neg ht,if_neg ht];exact⟨_,he,a1a.nil _ _ _ _,hb⟩
  have hne:(s2a l != 0)=true:=by simpa using ht
  obtain⟨er,her⟩:∃er,er=s2a l:=⟨_,rfl⟩;obtain⟨ys,hys⟩:∃ys,ys=R1a l:=⟨_,rfl⟩;rw[<-her] at HQ C1 hne;rw[<-hys] at C1;have C1':=hI C1;clear C1 her ht hl hlen HBY hys;go_enter Tryz.func110,Tryz.ntmps110;go_wp2_with fail;refine C1'.out.mono ?_;rintro e w1 ⟨v,rfl,ho,L1⟩;have ho':Own w1 w.heap.size v ys:=ho.own;obtain⟨Av,cv,rfl⟩:=ho'.len;clear ho';go_wp2;go_ret2;exact HQ.out _ _ rfl L1
 rw[ht] at C1;by_cases hm:(R1a l).length<=512
 ·have HQ:Hid (∀e w',(∃v,e=.returned (.tuple #[v,.int .i64 (g6a (R1a l).length)])/\M5a w' w.heap.size v (rowOf (R1a l))/\Below w.heap.size w w')->w3a w l e w'):=by
   intro e w' hh;have e0:u0a l=0:=by unfold u0a;rw[if_pos ht,if_pos hm]
   unfold w3a G0a;rw[e0,if_pos rfl];unfold g6a at hh
   rwa [if_pos (by omega:(R1a l).length<=65535)] at hh
  have CR:Hid (∀(w:World) (A:Option Addr) (n c:Nat),Holds w w.heap.size A n c (R1a l)->Calls Tryz.prog 162 #[.slice A n c] w (P4a w (R1a l))):=λw A n c hh=>S2b w A n c _ hh
  unfold P4a at CR;obtain⟨er,her⟩:∃er,er=g6a (R1a l).length:=⟨_,rfl⟩;obtain⟨rs,hrs⟩:∃rs,rs=rowOf (R1a l):=⟨_,rfl⟩;rw[<-her,<-hrs] at HQ CR;obtain⟨ys,hys⟩:∃ys,ys=R1a l:=⟨_,rfl⟩;rw[<-hys] at C1 CR HBY hm;obtain⟨m,hm'⟩:∃m,m=ys.length:=⟨_,rfl⟩;have HM:=hI hm';rw[<-hm'] at hm;have C1':=hI C1;clear C1 her hrs ht hl hlen hys hm';go_enter Tryz.func110,Tryz.ntmps110;go_wp2_with fail;refine C1'.out.mono ?_;rintro e w1 ⟨v,rfl,ho,L1⟩;have ho':Own w1 w.heap.size v ys:=ho.own;obtain⟨Av,cv,rfl,hh⟩:=ho'.holds HBY.out (by have:=HM.out;omega);rw[<-HM.out] at hh⊢;have HH:=hI hh;have M1:=hI L1;clear ho ho' hh L1 C1';go_wp2_with fail;refine(CR.out _ _ _ _ HH.out).mono ?_;rintro e w2 ⟨v,rfl,ho,L2⟩;have HO:=hI ho;have L2':=hI L2;clear ho L2;go_wp2;go_ret2;exact HQ.out _ _ ⟨_,rfl,HO.out.mono M1.out.size,step M1.out L2'.out⟩
 ·have HQ:Hid (∀e w',e=.returned (.tuple #[.slice none 0 0,.int .i64 3])->Below w.heap.size w w'->w3a w l e w'):=by intro e w' he hb;unfold w3a G0a u0a;rw[if_pos ht,if_neg hm];exact⟨_,he,a1a.nil _ _ _ _,hb⟩
  obtain⟨ys,hys⟩:∃ys,ys=R1a l:=⟨_,rfl⟩;rw[<-hys] at C1 HBY hm hlen;obtain⟨m,hm'⟩:∃m,m=ys.length:=⟨_,rfl⟩;have HM:=hI hm';rw[<-hm'] at hm hlen;have C1':=hI C1;clear C1 ht hl hys hm';go_enter Tryz.func110,Tryz.ntmps110;go_wp2_with fail;refine C1'.out.mono ?_;rintro e w1 ⟨v,rfl,ho,L1⟩;have ho':Own w1 w.heap.size v ys:=ho.own;obtain⟨Av,cv,rfl,hh⟩:=ho'.holds HBY.out (by have:=HM.out;omega);rw[<-HM.out];clear ho ho' hh C1';go_wp2;go_ret2;exact HQ.out _ _ rfl L1
theorem g1b(w:World)(cs:List Value)(a:m1a)(ka:a.ok)(ha:b1a w w.heap.size cs a) :
  Calls Tryz.prog 109 #[.agg cs.toArray] w (y5a w a):=by
 obtain⟨D1,D2,D3,X1,X2,X3,M1,M2,M3,rfl,hD,hX,hM⟩:=ha;have hl:=hD.len;have FA:Hid (∀(w:World) (g:Nat),Blk w g 34 (l0a (.slice D1 D2 D3) (.slice X1 X2 X3) (.slice M1 M2 M3) a)->w.cell? ⟨g,0,none⟩=some (.slice D1 D2 D3)):=λw g h=>h.at rfl
 have RG:Hid (∀(w:World) (g:Nat),Blk w g 34 (l0a (.slice D1 D2 D3) (.slice X1 X2 X3) (.slice M1 M2 M3) a)->Holds w w.heap.size (some ⟨g,1,none⟩) 16 16 a.guid):=λw g h=>x8a ka h
 have HDB:=hI ka.dial;have HGL:=hI ka.glen;obtain⟨cs,hcs⟩:∃c,c=l0a (.slice D1 D2 D3) (.slice X1 X2 X3) (.slice M1 M2 M3) a:=⟨_,rfl⟩;rw[<-hcs] at FA RG⊢;clear hcs hX hM ka;by_cases hn:D2<=16;rotate_left
 ·have HQ:Hid (∀e w',e=.returned (.tuple #[.slice none 0 0,.int .i64 3])->Below w.heap.size w w'->y5a w a e w'):=by intro e w' he hb;unfold y5a;rw[hl,if_neg hn,if_neg hn];exact⟨_,he,a1a.nil _ _ _ _,hb⟩
  have hn':16<D2:=by omega
  clear hl hD;go_enter Tryz.func109,Tryz.ntmps109;go_wp2_with(first
   | ((with_reducible refine sN 1 ?_);refine a0a rfl _ (.tmp 0) rfl cs rfl ?_;intro g w1 hg1 hg2 K1 L1;have gd:=FA.out _ _ K1.out)
   | fail)
  go_ret2;exact HQ.out _ _ rfl L1.out
 have HQ:Hid (∀e w',(∃v,e=.returned (.tuple #[v,.int .i64 0])/\M5a w' w.heap.size v (le D2 2++K1a a.dial++a.guid)/\Below w.heap.size w w')->y5a w a e w'):=by intro e w' hh;unfold y5a n7a;rw[hl,if_pos hn,if_pos hn];exact hh
 have HDL:=hI hl;have HD:=hI hD;have HF:=hI hD.fit;have hz:IntKind.u64.wrap (D2:Int)=D2:=by rw[IntKind.wrap_u64];omega
 obtain⟨ds,hds⟩:∃d,d=a.dial:=⟨_,rfl⟩;obtain⟨gs,hgs⟩:∃d,d=a.guid:=⟨_,rfl⟩;rw[<-hds] at HQ HDL HD HDB;rw[<-hgs] at HQ RG HGL;clear hl hD hds hgs;go_enter Tryz.func109,Tryz.ntmps109;go_wp2_with(first
  | ((with_reducible refine sN 1 ?_);refine a0a rfl _ (.tmp 0) rfl cs rfl ?_;intro g w1 hg1 hg2 K1 L1;have gd:=FA.out _ _ K1.out)
  | fail)
 refine(H9a w1 (D2:Int) (by omega) (by omega)).mono ?_;rintro e w2 ⟨A',rfl,hf2,L2⟩;have gd2:=FA.out _ _ (K1.out.over L2);have HO2:=hI (hf2.ownB (n:=2) (by rw[m0a]) (by omega));have M2:=hI L2;have hs2:=L2.size;clear gd hf2 L2;go_wp2;go_loopw [4,19] (λv i wr=>∃j:Nat,i=.int .i64 j/\j<=D2/\Hid (M5a wr w1.heap.size v (le D2 2++K1a (ds.take j)))/\Hid (Below w1.heap.size w1 wr)) (λ_ i _=>D2-(intOf i).toNat)
 case atStart=>exact⟨0,rfl,Nat.zero_le _,(by show M5a _ _ _ _;simpa[K1a] using HO2.out),M2⟩
 case round=>
  obtain⟨j,rfl,hj,HO,HL⟩:=hrel;have hsr:=HL.out.size;by_cases hlt:j<D2
  ·have HDr:=HD.out.over (step L1.out HL.out);have hft:=HF.out;obtain⟨b,off,rfl,hb,hc⟩:=HDr.cells (by omega);obtain⟨x,hx⟩:∃x,ds[j]? = some x:=⟨_,List.getElem?_eq_getElem (by have:=HDL.out;omega)⟩;have gc:=hc j x hx;obtain⟨x0,x1⟩:=HDB.out x (List.mem_of_getElem? hx);have E1:Hid (le D2 2++K1a (ds.take (j+1))=le D2 2++K1a (ds.take j)++le x 2):=by
    show _=_
    rw[List.take_add_one,hx,Option.toList_some,w8a,List.append_assoc]
   have HLEN:Hid ((le (D2:Int) 2++K1a (ds.take j)).length+(le x 2).length<=140737488355328):=by
    show _<=_
    rw[List.length_append,m0a,m0a,N4a,List.length_take];omega
   have HXB:Hid (Bytes (le x 2)):=F0a _ _;have HXL:Hid ((le x 2).length=2):=m0a _ _;have hxz:IntKind.u64.wrap x=x:=by rw[IntKind.wrap_u64];omega
   obtain⟨P,hP⟩:∃P,P=le (D2:Int) 2++K1a (ds.take j):=⟨_,rfl⟩;rw[<-hP] at E1 HLEN HO;have CN:Hid (∀w:World,Calls Tryz.prog 118 #[.int .u64 x,.int .i64 2] w λe w'=>∃A',e=.returned (.slice A' 2 2)/\Y1a w' w.heap.size A' (le x 2)/\Below w.heap.size w w'):=λw=>H9a w x x0 x1
   obtain⟨lx,hlx⟩:∃P,P=le x 2:=⟨_,rfl⟩;rw[<-hlx] at E1 HLEN HXB HXL CN;clear hc hx hP hlx HDr;go_wp2_with fail;refine(CN.out wr).mono ?_;rintro e w3 ⟨A3,rfl,hf3,L3⟩;have HH:=hI (hf3.holds HXL.out HXB.out (by omega));have HO3:=hI (HO.out.below L3);have M3:=hI (HL.out.trans (L3.mono hsr));have hs3:=M3.out.size;clear hf3 L3 HO CN gc;go_wp2_with(first
    | (at_builtin;refine D2a rfl (.tmp 23) (.tmp 26) rfl w1.heap.size _ P rfl HO3.out w3.heap.size A3 2 2 lx rfl HH.out HLEN.out hs3 ?_;intro v4 w4 ho4 hb4)
    | fail)
   have HO4:Hid (M5a w4 w1.heap.size v4 (le D2 2++K1a (ds.take (j+1)))):=by rw[E1.out];exact ho4.out
   have M4:=hI (M3.out.trans hb4);clear ho4 hb4 HH HO3 M3;go_wp2;go_roundw
   case rel=>exact⟨j+1,by go_num,hlt,HO4,M4⟩
   case measure=>simp[intOf];omega
  ·obtain rfl:j=D2:=by omega
   have HO5:Hid (M5a wr w1.heap.size u4 (le (j:Int) 2++K1a ds)):=by
    have h:=HO.out
    rwa [List.take_of_length_le (by have:=HDL.out;omega)] at h
   have HG:=hI (RG.out _ _ (K1.out.over HL.out));have HLEN:Hid ((le (j:Int) 2++K1a ds).length+gs.length<=140737488355328):=by
    show _<=_
    have h1:=HGL.out;have h2:=HDL.out;rw[List.length_append,m0a,N4a];omega
   have hs1:=L1.out.size;obtain⟨P,hP⟩:∃P,P=le (j:Int) 2++K1a ds:=⟨_,rfl⟩;rw[<-hP] at HO5 HLEN HQ;clear HO hP;go_wp2_with(first
    | (at_builtin;refine D2a rfl (.tmp 29) (.tmp 31) rfl w1.heap.size _ P rfl HO5.out wr.heap.size (some ⟨g,1,none⟩) 16 16 gs rfl HG.out HLEN.out hsr ?_;intro v4 w4 ho4 hb4)
    | fail)
   go_ret2;exact HQ.out _ _ ⟨_,rfl,ho4.out.mono hs1,L1.out.trans ((HL.out.trans hb4).mono hs1)⟩
theorem N5a(w:World)(c:Int)(cs:List Value)(a:m1a)(hc:0<=c/\c<=65535)(ka:a.ok)(ha:b1a w w.heap.size cs a)(hu:a.user.size<=17592186044416/\a.share.size<=17592186044416)(hT:f7a w) :
  Calls Tryz.prog 80 #[.int .u16 c,.agg cs.toArray] w (o2a w c a):=by
 have HL:=hI (ha.len ka);have HO1:=hI ha.one;have ZH:=hI G5a;have HZ:Hid ((l0a (.slice none 0 0) (.slice none 0 0) (.slice none 0 0) k0a).length=69):=h1a f0a;have HA:=hI ha;have HT:=hI hT;obtain⟨hu0,hu1⟩:=hu;have CB:Hid (∀w':World,Below w.heap.size w w'->Calls Tryz.prog 107 #[.int .u16 c,.agg cs.toArray] w' λe w2=>∃ds,e=.returned (.tuple #[.agg ds.toArray,.bool (M0a c)])/\b1a w2 w2.heap.size ds (if M0a c=true then j1a c a else k0a)/\Below w'.heap.size w' w2):=λw' hb=>a1b w' c cs a hc ka (ha.over hb)
 obtain⟨zs,hzs⟩:∃zs,zs=l0a (.slice none 0 0) (.slice none 0 0) (.slice none 0 0) k0a:=⟨_,rfl⟩;rw[<-hzs] at ZH HZ;clear hzs;by_cases hk:M0a c=true;rotate_left
 ·have hk':M0a c=false:=by simpa using hk
  have HQ:Hid (∀e w',e=.returned (.tuple #[.slice none 0 0,.int .i64 2])->Below w.heap.size w w'->o2a w c a e w'):=by
   intro e w' he hb;have h2:g1a c a=2:=by unfold g1a;rw[if_neg (λh=>hk h.1)]
   unfold o2a q3a;rw[h2,if_neg (by decide)];exact⟨_,he,a1a.nil _ _ _ _,hb⟩
  rw[if_neg hk,hk'] at CB;have kb:=f0a;clear hk hk' HA ka ha;go_enter Tryz.func80,Tryz.ntmps80;go_wp2_with(first
   | ((with_reducible refine sN 3 ?_);refine a0a rfl _ (.tmp 1) rfl cs rfl ?_;intro g w1 hg1 hg2 K1 L1)
   | ((with_reducible refine sN 12 ?_);refine d0a rfl _ (.tmp 3) rfl g rfl _ cs K1 69 _ Tryz.underlying34 rfl n0a HL ?_)
   | fail)
  refine(CB.out w1 L1.out).mono ?_;rintro e w2 ⟨ds,rfl,hds,L2⟩;have HD:=hI hds;have HDL:=hI (hds.len kb);have HDO:=hI hds.one;have K2:=hI (K1.out.over L2);have M2:=hI (step L1.out L2);clear hds L2 K1;go_wp2_with(first
   | ((with_reducible refine sN 6 ?_);refine b0a rfl _ rfl zs _ ZH ?_;intro h w3 hg3 hg4 Z3 L3)
   | ((with_reducible refine sT 6 ?_);refine e0a rfl _ (.tmp 6) (.tmp 14) rfl h rfl _ zs ds rfl Z3 69 n0a HZ HDL HDO ?_;intro w4 X4 O4 hg5;have L4:=hI (c0a L3.out O4.out hg3);have M4:=hI (step M2.out L4.out);have K4:=hI (K2.out.over L4.out);have HD4:=hI (HD.out.over L4.out))
   | fail)
  go_ret2;exact HQ.out _ _ rfl M4.out
 rw[if_pos hk,hk] at CB;have kb:=j5a (c:=c) ka;have CZ:Hid (∀(w':World) (ds:List Value),b1a w' w'.heap.size ds (j1a c a)->Calls Tryz.prog 108 #[.agg ds.toArray] w' λe w2=>e=.returned (.bool (decide (j1a c a=k0a)))/\Below w'.heap.size w' w2):=λw' ds hds=>V0b w' ds _ kb hds
 by_cases hz:j1a c a=k0a;rotate_left
 ·rw[decide_eq_false hz] at CZ;have HQ:Hid (∀e w',e=.returned (.tuple #[.slice none 0 0,.int .i64 2])->Below w.heap.size w w'->o2a w c a e w'):=by
   intro e w' he hb;have h2:g1a c a=2:=by unfold g1a;rw[if_neg (λh=>hz h.2)]
   unfold o2a q3a;rw[h2,if_neg (by decide)];exact⟨_,he,a1a.nil _ _ _ _,hb⟩
  obtain⟨b,hb⟩:∃b,b=j1a c a:=⟨_,rfl⟩;rw[<-hb] at CB CZ kb;clear hk hz HA ka ha hb;go_enter Tryz.func80,Tryz.ntmps80;go_wp2_with(first
   | ((with_reducible refine sN 3 ?_);refine a0a rfl _ (.tmp 1) rfl cs rfl ?_;intro g w1 hg1 hg2 K1 L1)
   | ((with_reducible refine sN 12 ?_);refine d0a rfl _ (.tmp 3) rfl g rfl _ cs K1 69 _ Tryz.underlying34 rfl n0a HL ?_)
   | fail)
  refine(CB.out w1 L1.out).mono ?_;rintro e w2 ⟨ds,rfl,hds,L2⟩;have HD:=hI hds;have HDL:=hI (hds.len kb);have HDO:=hI hds.one;have K2:=hI (K1.out.over L2);have M2:=hI (step L1.out L2);clear hds L2 K1;go_wp2_with(first
   | ((with_reducible refine sN 6 ?_);refine b0a rfl _ rfl zs _ ZH ?_;intro h w3 hg3 hg4 Z3 L3)
   | ((with_reducible refine sT 6 ?_);refine e0a rfl _ (.tmp 6) (.tmp 14) rfl h rfl _ zs ds rfl Z3 69 n0a HZ HDL HDO ?_;intro w4 X4 O4 hg5;have L4:=hI (c0a L3.out O4.out hg3);have M4:=hI (step M2.out L4.out);have K4:=hI (K2.out.over L4.out);have HD4:=hI (HD.out.over L4.out))
   | ((with_reducible refine sN 19 ?_);refine o0a (by kernel_rfl) _ (.tmp 6) rfl h rfl _ ds X4 69 _ Tryz.underlying34 rfl n0a HDL ?_)
   | fail)
  refine(CZ.out w4 ds HD4.out).mono ?_;rintro e w5 ⟨rfl,L5⟩;have M5:=hI (step M4.out L5);have K5:=hI (K4.out.over L5);have hs5:=M5.out.size;clear L5 K4 HD4 HD CZ CB X4 O4 Z3 L3 L4 M4 M2 K2;go_wp2;go_ret2;exact HQ.out _ _ rfl M5.out
 rw[decide_eq_true hz] at CZ;by_cases h0:c=0
 ·have h2:g1a c a=if a.dial.length<=16 then 0 else 3:=by unfold g1a;rw[if_pos ⟨hk,hz⟩,if_pos h0]
  have HQ:Hid (∀e w',(∃v,e=.returned (.tuple #[v,.int .i64 (if a.dial.length<=16 then 0 else 3)])/\M5a w' w.heap.size v (if a.dial.length<=16 then n7a a else [])/\Below w.heap.size w w')->o2a w c a e w'):=by
   intro e w' hh;unfold o2a q3a;rw[h2,if_pos h0];by_cases hd:a.dial.length<=16
   ·rw[if_pos hd,if_pos hd] at hh;rw[if_pos hd,if_pos rfl];exact hh
   ·rw[if_neg hd,if_neg hd] at hh;rw[if_neg hd,if_neg (by decide)];exact hh
  have CO:Hid (∀w':World,Below w.heap.size w w'->Calls Tryz.prog 109 #[.agg cs.toArray] w' λe w2=>∃v,e=.returned (.tuple #[v,.int .i64 (if a.dial.length<=16 then 0 else 3)])/\M5a w2 w'.heap.size v (if a.dial.length<=16 then n7a a else [])/\Below w'.heap.size w' w2):=λw' hb=>g1b w' cs a ka (HA.out.over hb)
  obtain⟨er,her⟩:∃x:Int,x=if a.dial.length<=16 then 0 else 3:=⟨_,rfl⟩
  obtain⟨ys,hys⟩:∃x,x=if a.dial.length<=16 then n7a a else []:=⟨_,rfl⟩
  rw[<-her,<-hys] at HQ CO;have c0:(c==0)=true:=by simpa using h0
  obtain⟨b,hb⟩:∃b,b=j1a c a:=⟨_,rfl⟩;rw[<-hb] at CB CZ kb;clear hk hz HA ka ha h2 her hys h0 hb;go_enter Tryz.func80,Tryz.ntmps80;go_wp2_with(first
   | ((with_reducible refine sN 3 ?_);refine a0a rfl _ (.tmp 1) rfl cs rfl ?_;intro g w1 hg1 hg2 K1 L1)
   | ((with_reducible refine sN 12 ?_);refine d0a rfl _ (.tmp 3) rfl g rfl _ cs K1 69 _ Tryz.underlying34 rfl n0a HL ?_)
   | fail)
  refine(CB.out w1 L1.out).mono ?_;rintro e w2 ⟨ds,rfl,hds,L2⟩;have HD:=hI hds;have HDL:=hI (hds.len kb);have HDO:=hI hds.one;have K2:=hI (K1.out.over L2);have M2:=hI (step L1.out L2);clear hds L2 K1;go_wp2_with(first
   | ((with_reducible refine sN 6 ?_);refine b0a rfl _ rfl zs _ ZH ?_;intro h w3 hg3 hg4 Z3 L3)
   | ((with_reducible refine sT 6 ?_);refine e0a rfl _ (.tmp 6) (.tmp 14) rfl h rfl _ zs ds rfl Z3 69 n0a HZ HDL HDO ?_;intro w4 X4 O4 hg5;have L4:=hI (c0a L3.out O4.out hg3);have M4:=hI (step M2.out L4.out);have K4:=hI (K2.out.over L4.out);have HD4:=hI (HD.out.over L4.out))
   | ((with_reducible refine sN 19 ?_);refine o0a (by kernel_rfl) _ (.tmp 6) rfl h rfl _ ds X4 69 _ Tryz.underlying34 rfl n0a HDL ?_)
   | fail)
  refine(CZ.out w4 ds HD4.out).mono ?_;rintro e w5 ⟨rfl,L5⟩;have M5:=hI (step M4.out L5);have K5:=hI (K4.out.over L5);have hs5:=M5.out.size;clear L5 K4 HD4 HD CZ CB X4 O4 Z3 L3 L4 M4 M2 K2;go_wp2_with(first
   | ((with_reducible refine sN 26 ?_);refine d0a rfl _ (.tmp 3) rfl g rfl _ cs K5 69 _ Tryz.underlying34 rfl n0a HL ?_)
   | fail)
  refine(CO.out w5 M5.out).mono ?_;rintro e w6 ⟨v,rfl,ho,L6⟩;have HO:=hI ho;have L6':=hI L6;clear ho L6;go_wp2;go_ret2;exact HQ.out _ _ ⟨_,rfl,HO.out.mono hs5,step M5.out L6'.out⟩
 have b0:(c==0)=false:=by simpa using h0
 have FA:Hid (∀(w:World) (g:Nat),Blk w g 34 cs->w.cell? ⟨g,49,none⟩=some (.string a.user)/\w.cell? ⟨g,50,none⟩=some (.string a.share)/\Holds w w.heap.size (some ⟨g,17,none⟩) 32 32 a.proof):=by intro w g h;obtain⟨D1,D2,D3,X1,X2,X3,M1,M2,M3,rfl,_⟩:=HA.out;exact⟨h.at (j0a ka 0),h.at (j0a ka 1),N7a ka h⟩
 by_cases h1:c=1
 ·have CT:Hid (∀w':World,Below w.heap.size w w'->Calls Tryz.prog 110 #[.string a.user] w' λe w2=>∃v,e=.returned (.tuple #[v,.int .i64 (u0a a.user.data.toList)])/\M5a w2 w'.heap.size v (G0a a.user.data.toList)/\Below w'.heap.size w' w2):=λw' hb=>k5a a.user w' hu0 (HT.out.below hb)
  have h2:g1a c a=u0a a.user.data.toList:=by unfold g1a;rw[if_pos ⟨hk,hz⟩,if_neg h0,if_pos h1]
  have c1:(c==1)=true:=by simpa using h1
  have HPB:=hI (v1a a.user.data.toList);have hpl:=q2a a.user.data.toList;by_cases hp:u0a a.user.data.toList=0
  ·have HQ:Hid (∀e w',(∃v,e=.returned (.tuple #[v,.int .i64 0])/\M5a w' w.heap.size v (a.proof++G0a a.user.data.toList)/\Below w.heap.size w w')->o2a w c a e w'):=by intro e w' hh;unfold o2a q3a;rw[h2,hp,if_pos rfl,if_neg h0,if_pos h1];exact hh
   rw[hp] at CT;obtain⟨ys,hys⟩:∃x,x=G0a a.user.data.toList:=⟨_,rfl⟩;rw[<-hys] at HQ CT HPB hpl;obtain⟨tx,htx⟩:∃x,x=a.user:=⟨_,rfl⟩;obtain⟨px,hpx⟩:∃x,x=a.proof:=⟨_,rfl⟩;rw[<-htx,<-hpx] at FA;rw[<-htx] at CT;rw[<-hpx] at HQ;obtain⟨b,hb⟩:∃b,b=j1a c a:=⟨_,rfl⟩;rw[<-hb] at CB CZ kb;clear hk hz HA ka ha h2 hys htx hpx h0 h1 hb hu0 hu1 hp;go_enter Tryz.func80,Tryz.ntmps80;go_wp2_with(first
    | ((with_reducible refine sN 3 ?_);refine a0a rfl _ (.tmp 1) rfl cs rfl ?_;intro g w1 hg1 hg2 K1 L1)
    | ((with_reducible refine sN 12 ?_);refine d0a rfl _ (.tmp 3) rfl g rfl _ cs K1 69 _ Tryz.underlying34 rfl n0a HL ?_)
    | fail)
   refine(CB.out w1 L1.out).mono ?_;rintro e w2 ⟨ds,rfl,hds,L2⟩;have HD:=hI hds;have HDL:=hI (hds.len kb);have HDO:=hI hds.one;have K2:=hI (K1.out.over L2);have M2:=hI (step L1.out L2);clear hds L2 K1;go_wp2_with(first
    | ((with_reducible refine sN 6 ?_);refine b0a rfl _ rfl zs _ ZH ?_;intro h w3 hg3 hg4 Z3 L3)
    | ((with_reducible refine sT 6 ?_);refine e0a rfl _ (.tmp 6) (.tmp 14) rfl h rfl _ zs ds rfl Z3 69 n0a HZ HDL HDO ?_;intro w4 X4 O4 hg5;have L4:=hI (c0a L3.out O4.out hg3);have M4:=hI (step M2.out L4.out);have K4:=hI (K2.out.over L4.out);have HD4:=hI (HD.out.over L4.out))
    | ((with_reducible refine sN 19 ?_);refine o0a (by kernel_rfl) _ (.tmp 6) rfl h rfl _ ds X4 69 _ Tryz.underlying34 rfl n0a HDL ?_)
    | fail)
   refine(CZ.out w4 ds HD4.out).mono ?_;rintro e w5 ⟨rfl,L5⟩;have M5:=hI (step M4.out L5);have K5:=hI (K4.out.over L5);have hs5:=M5.out.size;clear L5 K4 HD4 HD CZ CB X4 O4 Z3 L3 L4 M4 M2 K2;obtain⟨gd,_,_⟩:=FA.out _ _ K5.out;go_wp2_with fail;refine(CT.out w5 M5.out).mono ?_;rintro e w6 ⟨v,rfl,ho,L6⟩;obtain⟨Av,cv,rfl,hh⟩:=ho.holds8 HPB.out (by omega);have HH:=hI hh;obtain⟨_,_,hpr⟩:=FA.out _ _ (K5.out.over L6);have HPR:=hI hpr;have M6:=hI (step M5.out L6);obtain⟨m,hm⟩:∃m,m=ys.length:=⟨_,rfl⟩;rw[<-hm] at HH hpl⊢;clear ho hh hpr L6 gd hm;go_wp2_with(first
    | ((with_reducible refine sN 44 ?_);refine Z2a rfl 2 _ rfl [(some ⟨g,17,none⟩,32,32,px),(Av,m,cv,ys)] rfl (by kernel_rfl) (List.forall_mem_cons.2 ⟨HPR.out,List.forall_mem_cons.2 ⟨HH.out,λ_ h=>by cases h⟩⟩) ?_;intro g7 w7 P7 b7)
    | fail)
   refine(Y2a _ g7 2 _ _ _ _ P7.out (by omega) (by show 0+32+m<=_;omega)).mono ?_;rintro e w8 ⟨v,rfl,ho,L8⟩;have HO:=hI ho;have L8':=hI L8;clear ho L8;go_wp2;go_ret2;have M7:=step M6.out b7.out;refine HQ.out _ _ ⟨_,rfl,?_,step M7 L8'.out⟩;have h9:=HO.out.mono (base':=w.heap.size) M7.size;simpa[R6a,T3a] using h9
  ·have HQ:Hid (∀e w',e=.returned (.tuple #[.slice none 0 0,.int .i64 (u0a a.user.data.toList)])->Below w.heap.size w w'->o2a w c a e w'):=by intro e w' he hb;unfold o2a q3a;rw[h2,if_neg hp];exact⟨_,he,a1a.nil _ _ _ _,hb⟩
   have hne:(u0a a.user.data.toList != 0)=true:=by simpa using hp
   obtain⟨ys,hys⟩:∃x,x=G0a a.user.data.toList:=⟨_,rfl⟩;obtain⟨er,her⟩:∃x,x=u0a a.user.data.toList:=⟨_,rfl⟩;rw[<-hys,<-her] at CT;rw[<-her] at HQ hne;rw[<-hys] at HPB hpl;obtain⟨tx,htx⟩:∃x,x=a.user:=⟨_,rfl⟩;rw[<-htx] at FA CT;obtain⟨b,hb⟩:∃b,b=j1a c a:=⟨_,rfl⟩;rw[<-hb] at CB CZ kb;clear hk hz HA ka ha h2 hys her htx h0 h1 hb hu0 hu1 hp;go_enter Tryz.func80,Tryz.ntmps80;go_wp2_with(first
    | ((with_reducible refine sN 3 ?_);refine a0a rfl _ (.tmp 1) rfl cs rfl ?_;intro g w1 hg1 hg2 K1 L1)
    | ((with_reducible refine sN 12 ?_);refine d0a rfl _ (.tmp 3) rfl g rfl _ cs K1 69 _ Tryz.underlying34 rfl n0a HL ?_)
    | fail)
   refine(CB.out w1 L1.out).mono ?_;rintro e w2 ⟨ds,rfl,hds,L2⟩;have HD:=hI hds;have HDL:=hI (hds.len kb);have HDO:=hI hds.one;have K2:=hI (K1.out.over L2);have M2:=hI (step L1.out L2);clear hds L2 K1;go_wp2_with(first
    | ((with_reducible refine sN 6 ?_);refine b0a rfl _ rfl zs _ ZH ?_;intro h w3 hg3 hg4 Z3 L3)
    | ((with_reducible refine sT 6 ?_);refine e0a rfl _ (.tmp 6) (.tmp 14) rfl h rfl _ zs ds rfl Z3 69 n0a HZ HDL HDO ?_;intro w4 X4 O4 hg5;have L4:=hI (c0a L3.out O4.out hg3);have M4:=hI (step M2.out L4.out);have K4:=hI (K2.out.over L4.out);have HD4:=hI (HD.out.over L4.out))
    | ((with_reducible refine sN 19 ?_);refine o0a (by kernel_rfl) _ (.tmp 6) rfl h rfl _ ds X4 69 _ Tryz.underlying34 rfl n0a HDL ?_)
    | fail)
   refine(CZ.out w4 ds HD4.out).mono ?_;rintro e w5 ⟨rfl,L5⟩;have M5:=hI (step M4.out L5);have K5:=hI (K4.out.over L5);have hs5:=M5.out.size;clear L5 K4 HD4 HD CZ CB X4 O4 Z3 L3 L4 M4 M2 K2;obtain⟨gd,_,_⟩:=FA.out _ _ K5.out;go_wp2_with fail;refine(CT.out w5 M5.out).mono ?_;rintro e w6 ⟨v,rfl,ho,L6⟩;obtain⟨Av,cv,rfl⟩:=ho.own8.len;clear ho;go_wp2;go_ret2;exact HQ.out _ _ rfl (step M5.out L6)
 have b1:(c==1)=false:=by simpa using h1
 by_cases h3:c=3
 ·have CT:Hid (∀w':World,Below w.heap.size w w'->Calls Tryz.prog 110 #[.string a.share] w' λe w2=>∃v,e=.returned (.tuple #[v,.int .i64 (u0a a.share.data.toList)])/\M5a w2 w'.heap.size v (G0a a.share.data.toList)/\Below w'.heap.size w' w2):=λw' hb=>k5a a.share w' hu1 (HT.out.below hb)
  have h2:g1a c a=u0a a.share.data.toList:=by unfold g1a;rw[if_pos ⟨hk,hz⟩,if_neg h0,if_neg h1,if_pos h3]
  have c3:(c==3)=true:=by simpa using h3
  have HQ:Hid (∀e w',(∃v,e=.returned (.tuple #[v,.int .i64 (u0a a.share.data.toList)])/\M5a w' w.heap.size v (G0a a.share.data.toList)/\Below w.heap.size w w')->o2a w c a e w'):=by
   intro e w' hh;unfold o2a q3a;rw[h2,if_neg h0,if_neg h1,if_pos h3];by_cases hp:u0a a.share.data.toList=0
   ·rw[if_pos hp];exact hh
   ·rw[if_neg hp];unfold G0a at hh;rw[if_neg hp] at hh;exact hh
  obtain⟨er,her⟩:∃x,x=u0a a.share.data.toList:=⟨_,rfl⟩;obtain⟨ys,hys⟩:∃x,x=G0a a.share.data.toList:=⟨_,rfl⟩;rw[<-her,<-hys] at HQ CT;obtain⟨tx,htx⟩:∃x,x=a.share:=⟨_,rfl⟩;rw[<-htx] at FA CT;obtain⟨b,hb⟩:∃b,b=j1a c a:=⟨_,rfl⟩;rw[<-hb] at CB CZ kb;clear hk hz HA ka ha h2 her hys htx h0 h1 h3 hb hu0 hu1;have b1:(c==1)=false:=by have h:=c3;simp only[beq_iff_eq] at h;subst h;rfl
  go_enter Tryz.func80,Tryz.ntmps80;go_wp2_with(first
   | ((with_reducible refine sN 3 ?_);refine a0a rfl _ (.tmp 1) rfl cs rfl ?_;intro g w1 hg1 hg2 K1 L1)
   | ((with_reducible refine sN 12 ?_);refine d0a rfl _ (.tmp 3) rfl g rfl _ cs K1 69 _ Tryz.underlying34 rfl n0a HL ?_)
   | fail)
  refine(CB.out w1 L1.out).mono ?_;rintro e w2 ⟨ds,rfl,hds,L2⟩;have HD:=hI hds;have HDL:=hI (hds.len kb);have HDO:=hI hds.one;have K2:=hI (K1.out.over L2);have M2:=hI (step L1.out L2);clear hds L2 K1;go_wp2_with(first
   | ((with_reducible refine sN 6 ?_);refine b0a rfl _ rfl zs _ ZH ?_;intro h w3 hg3 hg4 Z3 L3)
   | ((with_reducible refine sT 6 ?_);refine e0a rfl _ (.tmp 6) (.tmp 14) rfl h rfl _ zs ds rfl Z3 69 n0a HZ HDL HDO ?_;intro w4 X4 O4 hg5;have L4:=hI (c0a L3.out O4.out hg3);have M4:=hI (step M2.out L4.out);have K4:=hI (K2.out.over L4.out);have HD4:=hI (HD.out.over L4.out))
   | ((with_reducible refine sN 19 ?_);refine o0a (by kernel_rfl) _ (.tmp 6) rfl h rfl _ ds X4 69 _ Tryz.underlying34 rfl n0a HDL ?_)
   | fail)
  refine(CZ.out w4 ds HD4.out).mono ?_;rintro e w5 ⟨rfl,L5⟩;have M5:=hI (step M4.out L5);have K5:=hI (K4.out.over L5);have hs5:=M5.out.size;clear L5 K4 HD4 HD CZ CB X4 O4 Z3 L3 L4 M4 M2 K2;obtain⟨_,gd,_⟩:=FA.out _ _ K5.out;go_wp2_with fail;refine(CT.out w5 M5.out).mono ?_;rintro e w6 ⟨v,rfl,ho,L6⟩;have HO:=hI ho;have L6':=hI L6;clear ho L6;go_wp2;go_ret2;exact HQ.out _ _ ⟨_,rfl,HO.out.mono hs5,step M5.out L6'.out⟩
 have b3:(c==3)=false:=by simpa using h3
 have h2:g1a c a=0:=by unfold g1a;rw[if_pos ⟨hk,hz⟩,if_neg h0,if_neg h1,if_neg h3]
 have HQ:Hid (∀e w',(∃v,e=.returned (.tuple #[v,.int .i64 0])/\M5a w' w.heap.size v (List.replicate 4 0)/\Below w.heap.size w w')->o2a w c a e w'):=by intro e w' hh;unfold o2a q3a;rw[h2,if_pos rfl,if_neg h0,if_neg h1,if_neg h3];exact hh
 obtain⟨b,hb⟩:∃b,b=j1a c a:=⟨_,rfl⟩;rw[<-hb] at CB CZ kb;clear hk hz HA ka ha h2 h0 h1 h3 hb hu0 hu1;go_enter Tryz.func80,Tryz.ntmps80;go_wp2_with(first
  | ((with_reducible refine sN 3 ?_);refine a0a rfl _ (.tmp 1) rfl cs rfl ?_;intro g w1 hg1 hg2 K1 L1)
  | ((with_reducible refine sN 12 ?_);refine d0a rfl _ (.tmp 3) rfl g rfl _ cs K1 69 _ Tryz.underlying34 rfl n0a HL ?_)
  | fail)
 refine(CB.out w1 L1.out).mono ?_;rintro e w2 ⟨ds,rfl,hds,L2⟩;have HD:=hI hds;have HDL:=hI (hds.len kb);have HDO:=hI hds.one;have K2:=hI (K1.out.over L2);have M2:=hI (step L1.out L2);clear hds L2 K1;go_wp2_with(first
  | ((with_reducible refine sN 6 ?_);refine b0a rfl _ rfl zs _ ZH ?_;intro h w3 hg3 hg4 Z3 L3)
  | ((with_reducible refine sT 6 ?_);refine e0a rfl _ (.tmp 6) (.tmp 14) rfl h rfl _ zs ds rfl Z3 69 n0a HZ HDL HDO ?_;intro w4 X4 O4 hg5;have L4:=hI (c0a L3.out O4.out hg3);have M4:=hI (step M2.out L4.out);have K4:=hI (K2.out.over L4.out);have HD4:=hI (HD.out.over L4.out))
  | ((with_reducible refine sN 19 ?_);refine o0a (by kernel_rfl) _ (.tmp 6) rfl h rfl _ ds X4 69 _ Tryz.underlying34 rfl n0a HDL ?_)
  | fail)
 refine(CZ.out w4 ds HD4.out).mono ?_;rintro e w5 ⟨rfl,L5⟩;have M5:=hI (step M4.out L5);have K5:=hI (K4.out.over L5);have hs5:=M5.out.size;clear L5 K4 HD4 HD CZ CB X4 O4 Z3 L3 L4 M4 M2 K2;go_wp2_with(at_make;refine B1a _ rfl _ _ rfl _ _ 4 rfl rfl rfl rfl (by omega) ?_;intro w6 R6 L6);go_ret2;exact HQ.out _ _ ⟨_,rfl,x5a R6.out hs5 (by omega),step M5.out L6⟩
theorem O5a(w:World)(c:Int)(cs:List Value)(a:E1a)(hc:0<=c/\c<=65535)(ka:a.ok)(ha:f1a w w.heap.size cs a) :
  Calls Tryz.prog 82 #[.int .u16 c,.agg cs.toArray] w (c3a w c a):=by
 have HL:=hI (ha.len ka);have HO1:=hI ha.one;have ZH:=hI I6a;have HZ:Hid ((s0a (.slice none 0 0) (.slice none 0 0) w0a).length=20):=C1a C0a;have HA:=hI ha;have CB:Hid (∀w':World,Below w.heap.size w w'->Calls Tryz.prog 116 #[.int .u16 c,.agg cs.toArray] w' λe w2=>∃ds,e=.returned (.tuple #[.agg ds.toArray,.bool (M0a c)])/\f1a w2 w2.heap.size ds (if M0a c=true then r1a c a else w0a)/\Below w'.heap.size w' w2):=λw' hb=>b1b w' c cs a hc ka (ha.over hb)
 obtain⟨zs,hzs⟩:∃zs,zs=s0a (.slice none 0 0) (.slice none 0 0) w0a:=⟨_,rfl⟩;rw[<-hzs] at ZH HZ;clear hzs;by_cases hk:M0a c=true;rotate_left
 ·have hk':M0a c=false:=by simpa using hk
  have HQ:Hid (∀e w',e=.returned (.tuple #[.slice none 0 0,.int .i64 2])->Below w.heap.size w w'->c3a w c a e w'):=by
   intro e w' he hb;have h2:z1a c a=2:=by unfold z1a;rw[if_neg (λh=>hk h.1)]
   unfold c3a O3a;rw[h2,if_neg (by decide)];exact⟨_,he,a1a.nil _ _ _ _,hb⟩
  rw[if_neg hk,hk'] at CB;have kb:=C0a;clear hk hk' HA ka ha;go_enter Tryz.func82,Tryz.ntmps82;go_wp2_with(first
   | ((with_reducible refine sN 3 ?_);refine a0a rfl _ (.tmp 1) rfl cs rfl ?_;intro g w1 hg1 hg2 K1 L1)
   | ((with_reducible refine sN 12 ?_);refine d0a rfl _ (.tmp 3) rfl g rfl _ cs K1 20 _ Tryz.underlying39 rfl v0a HL ?_)
   | fail)
  refine(CB.out w1 L1.out).mono ?_;rintro e w2 ⟨ds,rfl,hds,L2⟩;have HD:=hI hds;have HDL:=hI (hds.len kb);have HDO:=hI hds.one;have K2:=hI (K1.out.over L2);have M2:=hI (step L1.out L2);clear hds L2 K1;go_wp2_with(first
   | ((with_reducible refine sN 6 ?_);refine b0a rfl _ rfl zs _ ZH ?_;intro h w3 hg3 hg4 Z3 L3)
   | ((with_reducible refine sT 6 ?_);refine e0a rfl _ (.tmp 6) (.tmp 14) rfl h rfl _ zs ds rfl Z3 20 v0a HZ HDL HDO ?_;intro w4 X4 O4 hg5;have L4:=hI (c0a L3.out O4.out hg3);have M4:=hI (step M2.out L4.out);have K4:=hI (K2.out.over L4.out);have HD4:=hI (HD.out.over L4.out))
   | fail)
  go_ret2;exact HQ.out _ _ rfl M4.out
 rw[if_pos hk,hk] at CB;have kb:=t8a (c:=c) ka;have CZ:Hid (∀(w':World) (ds:List Value),f1a w' w'.heap.size ds (r1a c a)->Calls Tryz.prog 117 #[.agg ds.toArray] w' λe w2=>e=.returned (.bool (decide (r1a c a=w0a)))/\Below w'.heap.size w' w2):=λw' ds hds=>W0b w' ds _ kb hds
 by_cases hz:r1a c a=w0a;rotate_left
 ·rw[decide_eq_false hz] at CZ;have HQ:Hid (∀e w',e=.returned (.tuple #[.slice none 0 0,.int .i64 2])->Below w.heap.size w w'->c3a w c a e w'):=by
   intro e w' he hb;have h2:z1a c a=2:=by unfold z1a;rw[if_neg (λh=>hz h.2.1)]
   unfold c3a O3a;rw[h2,if_neg (by decide)];exact⟨_,he,a1a.nil _ _ _ _,hb⟩
  obtain⟨b,hb⟩:∃b,b=r1a c a:=⟨_,rfl⟩;rw[<-hb] at CB CZ kb;clear hk hz HA ka ha hb;go_enter Tryz.func82,Tryz.ntmps82;go_wp2_with(first
   | ((with_reducible refine sN 3 ?_);refine a0a rfl _ (.tmp 1) rfl cs rfl ?_;intro g w1 hg1 hg2 K1 L1)
   | ((with_reducible refine sN 12 ?_);refine d0a rfl _ (.tmp 3) rfl g rfl _ cs K1 20 _ Tryz.underlying39 rfl v0a HL ?_)
   | fail)
  refine(CB.out w1 L1.out).mono ?_;rintro e w2 ⟨ds,rfl,hds,L2⟩;have HD:=hI hds;have HDL:=hI (hds.len kb);have HDO:=hI hds.one;have K2:=hI (K1.out.over L2);have M2:=hI (step L1.out L2);clear hds L2 K1;go_wp2_with(first
   | ((with_reducible refine sN 6 ?_);refine b0a rfl _ rfl zs _ ZH ?_;intro h w3 hg3 hg4 Z3 L3)
   | ((with_reducible refine sT 6 ?_);refine e0a rfl _ (.tmp 6) (.tmp 14) rfl h rfl _ zs ds rfl Z3 20 v0a HZ HDL HDO ?_;intro w4 X4 O4 hg5;have L4:=hI (c0a L3.out O4.out hg3);have M4:=hI (step M2.out L4.out);have K4:=hI (K2.out.over L4.out);have HD4:=hI (HD.out.over L4.out))
   | ((with_reducible refine sN 19 ?_);refine o0a (by kernel_rfl) _ (.tmp 6) rfl h rfl _ ds X4 20 _ Tryz.underlying39 rfl v0a HDL ?_)
   | fail)
  refine(CZ.out w4 ds HD4.out).mono ?_;rintro e w5 ⟨rfl,L5⟩;have M5:=hI (step M4.out L5);have K5:=hI (K4.out.over L5);have hs5:=M5.out.size;clear L5 K4 HD4 HD CZ CB X4 O4 Z3 L3 L4 M4 M2 K2;go_wp2;go_ret2;exact HQ.out _ _ rfl M5.out
 rw[decide_eq_true hz] at CZ;by_cases h0:c=0;rotate_left
 ·have h2:z1a c a=0:=by unfold z1a;rw[if_pos ⟨hk,hz,λh=>absurd h h0⟩]
  have HQ:Hid (∀e w',(∃v,e=.returned (.tuple #[v,.int .i64 0])/\M5a w' w.heap.size v (List.replicate 4 0)/\Below w.heap.size w w')->c3a w c a e w'):=by intro e w' hh;unfold c3a O3a;rw[h2,if_pos rfl,if_neg h0];exact hh
  have b0:(c != 0)=true:=by simpa using h0
  obtain⟨b,hb⟩:∃b,b=r1a c a:=⟨_,rfl⟩;rw[<-hb] at CB CZ kb;clear hk hz HA ka ha h2 h0 hb;go_enter Tryz.func82,Tryz.ntmps82;go_wp2_with(first
   | ((with_reducible refine sN 3 ?_);refine a0a rfl _ (.tmp 1) rfl cs rfl ?_;intro g w1 hg1 hg2 K1 L1)
   | ((with_reducible refine sN 12 ?_);refine d0a rfl _ (.tmp 3) rfl g rfl _ cs K1 20 _ Tryz.underlying39 rfl v0a HL ?_)
   | fail)
  refine(CB.out w1 L1.out).mono ?_;rintro e w2 ⟨ds,rfl,hds,L2⟩;have HD:=hI hds;have HDL:=hI (hds.len kb);have HDO:=hI hds.one;have K2:=hI (K1.out.over L2);have M2:=hI (step L1.out L2);clear hds L2 K1;go_wp2_with(first
   | ((with_reducible refine sN 6 ?_);refine b0a rfl _ rfl zs _ ZH ?_;intro h w3 hg3 hg4 Z3 L3)
   | ((with_reducible refine sT 6 ?_);refine e0a rfl _ (.tmp 6) (.tmp 14) rfl h rfl _ zs ds rfl Z3 20 v0a HZ HDL HDO ?_;intro w4 X4 O4 hg5;have L4:=hI (c0a L3.out O4.out hg3);have M4:=hI (step M2.out L4.out);have K4:=hI (K2.out.over L4.out);have HD4:=hI (HD.out.over L4.out))
   | ((with_reducible refine sN 19 ?_);refine o0a (by kernel_rfl) _ (.tmp 6) rfl h rfl _ ds X4 20 _ Tryz.underlying39 rfl v0a HDL ?_)
   | fail)
  refine(CZ.out w4 ds HD4.out).mono ?_;rintro e w5 ⟨rfl,L5⟩;have M5:=hI (step M4.out L5);have K5:=hI (K4.out.over L5);have hs5:=M5.out.size;clear L5 K4 HD4 HD CZ CB X4 O4 Z3 L3 L4 M4 M2 K2;go_wp2_with(at_make;refine B1a _ rfl _ _ rfl _ _ 4 rfl rfl rfl rfl (by omega) ?_;intro w6 R6 L6);go_ret2;exact HQ.out _ _ ⟨_,rfl,x5a R6.out hs5 (by omega),step M5.out L6⟩
 have b0:(c != 0)=false:=by simpa using h0
 have FA:Hid (∀(w:World) (g:Nat),Blk w g 39 cs->w.cell? ⟨g,0,none⟩=some (.int .u16 a.dia)/\w.cell? ⟨g,1,none⟩=some (.int .u64 a.siz)/\Holds w w.heap.size (some ⟨g,2,none⟩) 8 8 a.chal):=by intro w g h;obtain⟨X1,X2,X3,M1,M2,M3,rfl,_⟩:=HA.out;exact⟨h.at rfl,h.at rfl,P1b ka h⟩
 obtain⟨s0,s1⟩:=ka.siz;obtain⟨d0,d1⟩:=ka.dia;by_cases hs:a.siz<4294967296;rotate_left
 ·have h2:z1a c a=2:=by unfold z1a;rw[if_neg (λh=>hs (h.2.2 h0))]
  have HQ:Hid (∀e w',e=.returned (.tuple #[.slice none 0 0,.int .i64 2])->Below w.heap.size w w'->c3a w c a e w'):=by intro e w' he hb;unfold c3a O3a;rw[h2,if_neg (by decide)];exact⟨_,he,a1a.nil _ _ _ _,hb⟩
  have CP:Hid (∀w':World,Calls Tryz.prog 37 #[.int .u64 a.siz,.int .i64 4] w' λe w2=>∃A',e=.returned (.tuple #[.slice A' 0 0,.int .i64 2])/\Below w'.heap.size w' w2):=λw'=>by
   have h:=g7a w' a.siz 4 ⟨s0,s1⟩ (by omega);unfold B4a at h;have hp:V2a a.siz 4=false:=by unfold V2a;rw[show((4:Int).toNat)=4 from rfl,show(256:Int)^4=4294967296 from by decide,decide_eq_false hs];simp
   unfold d4a v2a at h;rw[if_neg (by rw[hp];decide),if_neg (by rw[hp];decide)] at h;exact h.mono λe w2 ⟨A',h1,_,h3⟩=>⟨A',h1,h3⟩
  obtain⟨sz,hsz⟩:∃x,x=a.siz:=⟨_,rfl⟩;rw[<-hsz] at FA CP;obtain⟨b,hb⟩:∃b,b=r1a c a:=⟨_,rfl⟩;rw[<-hb] at CB CZ kb;clear hk hz HA ka ha h2 h0 hb hs s0 s1 hsz;go_enter Tryz.func82,Tryz.ntmps82;go_wp2_with(first
   | ((with_reducible refine sN 3 ?_);refine a0a rfl _ (.tmp 1) rfl cs rfl ?_;intro g w1 hg1 hg2 K1 L1)
   | ((with_reducible refine sN 12 ?_);refine d0a rfl _ (.tmp 3) rfl g rfl _ cs K1 20 _ Tryz.underlying39 rfl v0a HL ?_)
   | fail)
  refine(CB.out w1 L1.out).mono ?_;rintro e w2 ⟨ds,rfl,hds,L2⟩;have HD:=hI hds;have HDL:=hI (hds.len kb);have HDO:=hI hds.one;have K2:=hI (K1.out.over L2);have M2:=hI (step L1.out L2);clear hds L2 K1;go_wp2_with(first
   | ((with_reducible refine sN 6 ?_);refine b0a rfl _ rfl zs _ ZH ?_;intro h w3 hg3 hg4 Z3 L3)
   | ((with_reducible refine sT 6 ?_);refine e0a rfl _ (.tmp 6) (.tmp 14) rfl h rfl _ zs ds rfl Z3 20 v0a HZ HDL HDO ?_;intro w4 X4 O4 hg5;have L4:=hI (c0a L3.out O4.out hg3);have M4:=hI (step M2.out L4.out);have K4:=hI (K2.out.over L4.out);have HD4:=hI (HD.out.over L4.out))
   | ((with_reducible refine sN 19 ?_);refine o0a (by kernel_rfl) _ (.tmp 6) rfl h rfl _ ds X4 20 _ Tryz.underlying39 rfl v0a HDL ?_)
   | fail)
  refine(CZ.out w4 ds HD4.out).mono ?_;rintro e w5 ⟨rfl,L5⟩;have M5:=hI (step M4.out L5);have K5:=hI (K4.out.over L5);have hs5:=M5.out.size;clear L5 K4 HD4 HD CZ CB X4 O4 Z3 L3 L4 M4 M2 K2;obtain⟨_,gd,_⟩:=FA.out _ _ K5.out;go_wp2_with fail;refine(CP.out w5).mono ?_;rintro e w6 ⟨A',rfl,L6⟩;go_wp2;go_ret2;exact HQ.out _ _ rfl (step M5.out L6)
 have h2:z1a c a=0:=by unfold z1a;rw[if_pos ⟨hk,hz,λ_=>hs⟩]
 have HQ:Hid (∀e w',(∃v,e=.returned (.tuple #[v,.int .i64 0])/\M5a w' w.heap.size v (le a.dia 2++List.replicate 2 0++le a.siz 4++a.chal)/\Below w.heap.size w w')->c3a w c a e w'):=by intro e w' hh;unfold c3a O3a;rw[h2,if_pos rfl,if_pos h0];exact hh
 have CP:Hid (∀w':World,Calls Tryz.prog 37 #[.int .u64 a.siz,.int .i64 4] w' λe w2=>∃A',e=.returned (.tuple #[.slice A' 4 4,.int .i64 0])/\Y1a w2 w'.heap.size A' (le a.siz 4)/\Below w'.heap.size w' w2):=λw'=>by
  have h:=g7a w' a.siz 4 ⟨s0,s1⟩ (by omega);unfold B4a at h;have hp:V2a a.siz 4=true:=by unfold V2a;rw[show((4:Int).toNat)=4 from rfl,show(256:Int)^4=4294967296 from by decide,decide_eq_true hs];rfl
  unfold d4a v2a at h;rw[if_pos hp,if_pos hp,show((4:Int).toNat)=4 from rfl,m0a] at h;exact h
 have CD:Hid (∀w':World,Calls Tryz.prog 118 #[.int .u64 a.dia,.int .i64 2] w' λe w2=>∃A',e=.returned (.slice A' 2 2)/\Y1a w2 w'.heap.size A' (le a.dia 2)/\Below w'.heap.size w' w2):=λw'=>H9a w' a.dia d0 d1
 have CC:Hid (∀(w:World) (gs m:Nat) (A:Nat->Option Addr) (n c:Nat->Nat) (X:Nat->List Int),S3a w gs m A n c X->m<=1000->b0b n m<=140737488355328->Calls Tryz.prog 22 #[.slice (some ⟨gs,0,none⟩) m m] w λe w'=>∃v,e=.returned v/\M5a w' w.heap.size v (R6a X m)/\Below w.heap.size w w'):=Y2a;have hdz:IntKind.u64.wrap a.dia=a.dia:=by rw[IntKind.wrap_u64];omega
 have HLS:Hid ((le a.siz 4).length=4):=m0a _ _;have HBS:Hid (Bytes (le a.siz 4)):=F0a _ _;have HLD:Hid ((le a.dia 2).length=2):=m0a _ _;have HBD:Hid (Bytes (le a.dia 2)):=F0a _ _;obtain⟨ls,hls⟩:∃x,x=le a.siz 4:=⟨_,rfl⟩;obtain⟨ld,hld⟩:∃x,x=le a.dia 2:=⟨_,rfl⟩;rw[<-hls,<-hld] at HQ;rw[<-hls] at CP HLS HBS;rw[<-hld] at CD HLD HBD;obtain⟨sz,hsz⟩:∃x,x=a.siz:=⟨_,rfl⟩;obtain⟨dz,hdz'⟩:∃x,x=a.dia:=⟨_,rfl⟩;obtain⟨ch,hch⟩:∃x,x=a.chal:=⟨_,rfl⟩;rw[<-hsz,<-hdz',<-hch] at FA;rw[<-hsz] at CP;rw[<-hdz'] at CD hdz;rw[<-hch] at HQ;obtain⟨b,hb⟩:∃b,b=r1a c a:=⟨_,rfl⟩;rw[<-hb] at CB CZ kb;clear hk hz HA ka ha h2 h0 hb hs s0 s1 d0 d1 hsz hdz' hch hls hld;go_enter Tryz.func82,Tryz.ntmps82;go_wp2_with(first
  | ((with_reducible refine sN 3 ?_);refine a0a rfl _ (.tmp 1) rfl cs rfl ?_;intro g w1 hg1 hg2 K1 L1)
  | ((with_reducible refine sN 12 ?_);refine d0a rfl _ (.tmp 3) rfl g rfl _ cs K1 20 _ Tryz.underlying39 rfl v0a HL ?_)
  | fail)
 refine(CB.out w1 L1.out).mono ?_;rintro e w2 ⟨ds,rfl,hds,L2⟩;have HD:=hI hds;have HDL:=hI (hds.len kb);have HDO:=hI hds.one;have K2:=hI (K1.out.over L2);have M2:=hI (step L1.out L2);clear hds L2 K1;go_wp2_with(first
  | ((with_reducible refine sN 6 ?_);refine b0a rfl _ rfl zs _ ZH ?_;intro h w3 hg3 hg4 Z3 L3)
  | ((with_reducible refine sT 6 ?_);refine e0a rfl _ (.tmp 6) (.tmp 14) rfl h rfl _ zs ds rfl Z3 20 v0a HZ HDL HDO ?_;intro w4 X4 O4 hg5;have L4:=hI (c0a L3.out O4.out hg3);have M4:=hI (step M2.out L4.out);have K4:=hI (K2.out.over L4.out);have HD4:=hI (HD.out.over L4.out))
  | ((with_reducible refine sN 19 ?_);refine o0a (by kernel_rfl) _ (.tmp 6) rfl h rfl _ ds X4 20 _ Tryz.underlying39 rfl v0a HDL ?_)
  | fail)
 refine(CZ.out w4 ds HD4.out).mono ?_;rintro e w5 ⟨rfl,L5⟩;have M5:=hI (step M4.out L5);have K5:=hI (K4.out.over L5);have hs5:=M5.out.size;clear L5 K4 HD4 HD CZ CB X4 O4 Z3 L3 L4 M4 M2 K2;obtain⟨_,gd,_⟩:=FA.out _ _ K5.out;go_wp2_with fail;refine(CP.out w5).mono ?_;rintro e w6 ⟨A6,rfl,hf6,L6⟩;have K6:=hI (K5.out.over L6);have M6:=hI (step M5.out L6);have HF6:=hI (hf6.holds HLS.out HBS.out (by omega));clear hf6 L6 gd CP K5;go_upto_region 9 with fail
 refine wp_region_held (S:=λw'=>Blk w' g 39 cs) (by kernel_rfl) ?_;change wpAnyH _ _ _ _ _ _ _ _ w6.drew
 have S0:Hid (Blk w6.drew g 39 cs):=K6.out.drew;have b0:Hid (Below w.heap.size w w6.drew):=M6.out.drew;refine tK 0 _ rfl (g0a (by kernel_rfl) _ (.tmp 3) 0 rfl (.pointer (some ⟨g,0,none⟩)) (.pointer (some ⟨g,0,none⟩)) (by kernel_rfl) (l6a g)) S0.out ?_;refine tK 1 _ rfl (i0a (by kernel_rfl) _ (.tmp 35) rfl g 0 (by kernel_rfl) (.int .u16 dz) (λw h=>(FA.out w g h).1) _ Tryz.underlying22 rfl) S0.out ?_;refine tK 2 ((.int .u64 dz)) rfl (.inl ⟨by kernel_rfl,λw _=>by go_simp⟩) S0.out ?_;refine tK 5 _ rfl (t0a (by kernel_rfl) (.tmp 8) rfl (.slice A6 4 4) (by kernel_rfl)) S0.out ?_;refine tK 6 _ rfl (g0a (by kernel_rfl) _ (.tmp 3) 2 rfl (.pointer (some ⟨g,0,none⟩)) (.pointer (some ⟨g,2,none⟩)) (by kernel_rfl) (m6a g)) S0.out ?_;refine tK 7 ((.slice (some ⟨g,2,none⟩) 8 8)) rfl (.inl ⟨by kernel_rfl,λw _=>by go_simp⟩) S0.out ?_;refine W3b 3 4 _ _ (by kernel_rfl) rfl rfl (λK hK=>?_) (λK hK=>?_)
 ·go_simp;refine(CD.out _).mono ?_;rintro e v1 ⟨A3,rfl,hf3,L3⟩;have S1:=hI (S0.out.over L3);have b1:=hI (step b0.out L3);have HN1:=hI (hf3.holds HLD.out HBD.out (by omega));have HS1:=hI (HF6.out.drew.over L3);refine hK _ _ S1.out ?_;clear hK K hf3 L3;refine oN 4 _ rfl λK hK=>?_
  refine b3a rfl _ _ rfl 2 rfl rfl (by omega) ?_;intro v2 R2 b2';have S2:=hI (S1.out.over b2'.out);have b2:=hI (step b1.out b2'.out);have HN2:=hI (HN1.out.over b2'.out);have HS2:=hI (HS1.out.over b2'.out);have HZ2:Hid (Holds v2 v2.heap.size (some ⟨v1.heap.size,0,none⟩) 2 2 (List.replicate 2 0)):=Y1a.holds (base:=0) (.inr ⟨_,rfl,Nat.zero_le _,R2.out⟩) rfl (Bytes.zeros 2) (by omega);refine hK _ _ S2.out ?_;clear hK K;refine y0a λa1 ha1=>?_
  refine oN 8 _ rfl λK hK=>?_
  refine S0a rfl _ _ 4 _ rfl Tryz.underlying93 [.slice A3 2 2,.slice (some ⟨v1.heap.size,0,none⟩) 2 2,.slice A6 4 4,.slice (some ⟨g,2,none⟩) 8 8] (by rw[ha1];kernel_rfl) ?_;intro g9 v3 q2 q3 Y3 b3';have S3:=hI (S2.out.over b3'.out);have b3:=hI (step b2.out b3'.out);obtain⟨_,_,hch⟩:=FA.out _ _ S3.out;have PP:Hid (S3a v3 g9 4 (c0b [(A3,2,2,ld),(some ⟨v1.heap.size,0,none⟩,2,2,List.replicate 2 0),(A6,4,4,ls),(some ⟨g,2,none⟩,8,8,ch)]) (m9a [(A3,2,2,ld),(some ⟨v1.heap.size,0,none⟩,2,2,List.replicate 2 0),(A6,4,4,ls),(some ⟨g,2,none⟩,8,8,ch)]) (d0b [(A3,2,2,ld),(some ⟨v1.heap.size,0,none⟩,2,2,List.replicate 2 0),(A6,4,4,ls),(some ⟨g,2,none⟩,8,8,ch)]) (T3a [(A3,2,2,ld),(some ⟨v1.heap.size,0,none⟩,2,2,List.replicate 2 0),(A6,4,4,ls),(some ⟨g,2,none⟩,8,8,ch)])):=S3a.of_blk [(A3,2,2,ld),(some ⟨v1.heap.size,0,none⟩,2,2,List.replicate 2 0),(A6,4,4,ls),(some ⟨g,2,none⟩,8,8,ch)] Y3.out (List.forall_mem_cons.2 ⟨HN2.out.over b3'.out,List.forall_mem_cons.2 ⟨HZ2.out.over b3'.out,List.forall_mem_cons.2 ⟨HS2.out.over b3'.out,List.forall_mem_cons.2 ⟨hch,λ_ h=>by cases h⟩⟩⟩⟩)
  refine hK _ _ S3.out ?_;clear hK K hch;rw[ha1];clear ha1 a1;refine oN 9 _ rfl λK hK=>?_
  go_simp;refine(CC.out v3 g9 4 _ _ _ _ PP.out (by omega) (by show 0+2+2+4+8<=_;omega)).mono ?_;rintro e v4 ⟨v,rfl,ho,L4⟩;have HOUT:=hI ho;have S4:=hI (S3.out.over L4);have b4:=hI (step b3.out L4);refine hK _ _ S4.out ?_;clear hK K ho L4;refine oN 10 _ rfl λK hK=>?_
  go_simp;refine hK _ _ S4.out ?_;clear hK K;refine oN 11 _ rfl λK hK=>?_
  go_simp;refine hK _ _ S4.out ?_;clear hK K;refine dN ?_;go_wp2;go_ret2;refine HQ.out _ _ ⟨_,rfl,?_,b4.out⟩;have h9:=HOUT.out.mono (base':=w.heap.size) b3.out.size;simpa[R6a,T3a,List.append_assoc] using h9
 ·refine b3a rfl _ _ rfl 2 rfl rfl (by omega) ?_;intro v1 R1 b1';have S1:=hI (S0.out.over b1'.out);have b1:=hI (step b0.out b1'.out);have HS1:=hI (HF6.out.drew.over b1'.out);have HZ1:Hid (Holds v1 v1.heap.size (some ⟨w6.drew.heap.size,0,none⟩) 2 2 (List.replicate 2 0)):=Y1a.holds (base:=0) (.inr ⟨_,rfl,Nat.zero_le _,R1.out⟩) rfl (Bytes.zeros 2) (by omega);refine hK _ _ S1.out ?_;clear hK K;refine oN 3 _ rfl λK hK=>?_
  go_simp;refine(CD.out _).mono ?_;rintro e v2 ⟨A3,rfl,hf3,L3⟩;have S2:=hI (S1.out.over L3);have b2:=hI (step b1.out L3);have HN2:=hI (hf3.holds HLD.out HBD.out (by omega));have HS2:=hI (HS1.out.over L3);have HZ2:=hI (HZ1.out.over L3);refine hK _ _ S2.out ?_;clear hK K hf3 L3;refine y0a λa1 ha1=>?_
  refine oN 8 _ rfl λK hK=>?_
  refine S0a rfl _ _ 4 _ rfl Tryz.underlying93 [.slice A3 2 2,.slice (some ⟨w6.drew.heap.size,0,none⟩) 2 2,.slice A6 4 4,.slice (some ⟨g,2,none⟩) 8 8] (by rw[ha1];kernel_rfl) ?_;intro g9 v3 q2 q3 Y3 b3';have S3:=hI (S2.out.over b3'.out);have b3:=hI (step b2.out b3'.out);obtain⟨_,_,hch⟩:=FA.out _ _ S3.out;have PP:Hid (S3a v3 g9 4 (c0b [(A3,2,2,ld),(some ⟨w6.drew.heap.size,0,none⟩,2,2,List.replicate 2 0),(A6,4,4,ls),(some ⟨g,2,none⟩,8,8,ch)]) (m9a [(A3,2,2,ld),(some ⟨w6.drew.heap.size,0,none⟩,2,2,List.replicate 2 0),(A6,4,4,ls),(some ⟨g,2,none⟩,8,8,ch)]) (d0b [(A3,2,2,ld),(some ⟨w6.drew.heap.size,0,none⟩,2,2,List.replicate 2 0),(A6,4,4,ls),(some ⟨g,2,none⟩,8,8,ch)]) (T3a [(A3,2,2,ld),(some ⟨w6.drew.heap.size,0,none⟩,2,2,List.replicate 2 0),(A6,4,4,ls),(some ⟨g,2,none⟩,8,8,ch)])):=S3a.of_blk [(A3,2,2,ld),(some ⟨w6.drew.heap.size,0,none⟩,2,2,List.replicate 2 0),(A6,4,4,ls),(some ⟨g,2,none⟩,8,8,ch)] Y3.out (List.forall_mem_cons.2 ⟨HN2.out.over b3'.out,List.forall_mem_cons.2 ⟨HZ2.out.over b3'.out,List.forall_mem_cons.2 ⟨HS2.out.over b3'.out,List.forall_mem_cons.2 ⟨hch,λ_ h=>by cases h⟩⟩⟩⟩)
  refine hK _ _ S3.out ?_;clear hK K hch;rw[ha1];clear ha1 a1;refine oN 9 _ rfl λK hK=>?_
  go_simp;refine(CC.out v3 g9 4 _ _ _ _ PP.out (by omega) (by show 0+2+2+4+8<=_;omega)).mono ?_;rintro e v4 ⟨v,rfl,ho,L4⟩;have HOUT:=hI ho;have S4:=hI (S3.out.over L4);have b4:=hI (step b3.out L4);refine hK _ _ S4.out ?_;clear hK K ho L4;refine oN 10 _ rfl λK hK=>?_
  go_simp;refine hK _ _ S4.out ?_;clear hK K;refine oN 11 _ rfl λK hK=>?_
  go_simp;refine hK _ _ S4.out ?_;clear hK K;refine dN ?_;go_wp2;go_ret2;refine HQ.out _ _ ⟨_,rfl,?_,b4.out⟩;have h9:=HOUT.out.mono (base':=w.heap.size) b3.out.size;simpa[R6a,T3a,List.append_assoc] using h9
theorem J9a(w:World)(c:Int)(cs:List Value)(a:m1a)(hc:0<=c/\c<=65535)(ka:a.ok)(ha:b1a w w.heap.size cs a)(hu:a.user.size<=17592186044416/\a.share.size<=17592186044416)(hT:f7a w) :
  Calls Tryz.prog 80 #[.int .u16 c,.agg cs.toArray] w (y2a w c a):=(N5a w c cs a hc ka ha hu hT).mono λe w' ⟨v,h1,h2,h3⟩=>⟨v,h1,h2.own8,h3⟩
theorem K9a(w:World)(c:Int)(cs:List Value)(a:E1a)(hc:0<=c/\c<=65535)(ka:a.ok)(ha:f1a w w.heap.size cs a) :
  Calls Tryz.prog 82 #[.int .u16 c,.agg cs.toArray] w (I6b w c a):=(O5a w c cs a hc ka ha).mono λe w' ⟨v,h1,h2,h3⟩=>⟨v,h1,h2.own8,h3⟩
theorem a1a.onlyAt{k:IntKind}{e:TypeId}{w w':World}{base b:Nat}{v:Value}{xs:List Int}(h:a1a k e w base v xs)(hO:p3a b w w')(hb:b<base):a1a k e w' base v xs:=
 h.keep λi cs hi hc=>hO.rest i (by obtain⟨h1,_⟩:=h.own.block hi;omega)
theorem O7a{w:World}{base:Nat}{v:Value}{xs:List Int}(h:a1a .u8 5 w base v xs):v.oneCell'=true:=by rcases h with⟨rfl,_⟩ | ⟨g,m,rfl,_⟩<;>rfl
theorem s6a(c:Int)(a:m1a):Z0a c a=k0a↔c5a c a=a:=by
 obtain⟨a1,a2,a3,a4,a5,a6,a7,a8,a9,a10,a11,a12,a13,a14,a15,a16,a17,a18,a19,a20,a21,a22,a23⟩:=a;unfold Z0a c5a;split
 ·simp only[k0a,m1a.mk.injEq];constructor<;>(intro h;obtain⟨h1,h2,h3,h4,h5,h6,h7,h8,h9,h10,h11,h12,h13,h14,h15,h16,h17,h18,h19,h20,h21,h22,h23⟩:=h;subst_vars;simp)
 ·split
  ·simp only[k0a,m1a.mk.injEq];constructor<;>(intro h;obtain⟨h1,h2,h3,h4,h5,h6,h7,h8,h9,h10,h11,h12,h13,h14,h15,h16,h17,h18,h19,h20,h21,h22,h23⟩:=h;subst_vars;simp)
  ·split
   ·simp only[k0a,m1a.mk.injEq];constructor<;>(intro h;obtain⟨h1,h2,h3,h4,h5,h6,h7,h8,h9,h10,h11,h12,h13,h14,h15,h16,h17,h18,h19,h20,h21,h22,h23⟩:=h;subst_vars;simp)
   ·split
    ·simp only[k0a,m1a.mk.injEq];constructor<;>(intro h;obtain⟨h1,h2,h3,h4,h5,h6,h7,h8,h9,h10,h11,h12,h13,h14,h15,h16,h17,h18,h19,h20,h21,h22,h23⟩:=h;subst_vars;simp)
    ·simp only[k0a,m1a.mk.injEq];constructor<;>(intro h;obtain⟨h1,h2,h3,h4,h5,h6,h7,h8,h9,h10,h11,h12,h13,h14,h15,h16,h17,h18,h19,h20,h21,h22,h23⟩:=h;subst_vars;simp)
theorem P7a(c:Int)(s:E1a):d1a c s=w0a↔f2a c s=s:=by
 obtain⟨a1,a2,a3,a4,a5,a6,a7,a8,a9,a10,a11,a12,a13⟩:=s;unfold d1a f2a;split
 ·simp only[w0a,E1a.mk.injEq];constructor<;>(intro h;obtain⟨h1,h2,h3,h4,h5,h6,h7,h8,h9,h10,h11,h12,h13⟩:=h;subst_vars;simp)
 ·split
  ·simp only[w0a,E1a.mk.injEq];constructor<;>(intro h;obtain⟨h1,h2,h3,h4,h5,h6,h7,h8,h9,h10,h11,h12,h13⟩:=h;subst_vars;simp)
  ·split
   ·simp only[w0a,E1a.mk.injEq];constructor<;>(intro h;obtain⟨h1,h2,h3,h4,h5,h6,h7,h8,h9,h10,h11,h12,h13⟩:=h;subst_vars;simp)
   ·exact eq_comm
theorem L6b{c:Int}{a:m1a}(h:w5a c a=0):G1a c=true/\c5a c a=a/\shut a.locks=true/\a.data.length<=32768/\a.locks.length<=16/\(c=5->u0a a.name.data.toList=0)/\t2b c a=O4a c a:=by
 have h0:=h;unfold w5a at h;by_cases h1:J5a c a=true
 ·rw[if_pos h1] at h;by_cases h2:a.data.length<=32768/\a.locks.length<=16
  ·rw[if_pos h2] at h;unfold J5a at h1;simp only[Bool.and_eq_true,decide_eq_true_eq] at h1;refine⟨h1.1,(s6a c a).1 h1.2.1,h1.2.2,h2.1,h2.2,λh5=>by rw[if_pos h5] at h;exact h,by unfold t2b;rw[if_pos h0]⟩
  ·rw[if_neg h2] at h;exact absurd h (by decide)
 ·rw[if_neg h1] at h;exact absurd h (by decide)
theorem M6b{c:Int}{s:E1a}(h:K5a c s=0):G1a c=true/\f2a c s=s/\s.made<=2/\s.kind<=2/\s.data.length<=32768/\u3b c s=k3a c s:=by
 have h0:=h;unfold K5a at h;by_cases h1:C2a c s=true/\s.made<=2/\s.kind<=2
 ·rw[if_pos h1] at h;by_cases h2:s.data.length<=32768
  ·obtain⟨h3,h4,h5⟩:=h1;unfold C2a at h3;simp only[Bool.and_eq_true,decide_eq_true_eq] at h3;exact⟨h3.1,(P7a c s).1 h3.2,h4,h5,h2,by unfold u3b;rw[if_pos h0]⟩
  ·rw[if_neg h2] at h;exact absurd h (by decide)
 ·rw[if_neg h1] at h;exact absurd h (by decide)
theorem z8a{c:Int}(h:G1a c=true):c=5∨c=6∨c=7∨c=8∨c=9∨c=10:=by unfold G1a at h;simp at h;omega
theorem o5b{c:Int}{a:m1a}(k:a.ok):Bytes (q3a c a):=by
 unfold q3a;split
 ·split
  ·exact((F0a _ _).append (c1b _)).append k.gbyte
  ·split
   ·exact k.pbyte.append (v1a _)
   ·split
    ·exact v1a _
    ·exact Bytes.zeros 4
 ·exact Bytes.nil
theorem J7b{c:Int}{a:m1a}(k:a.ok):(q3a c a).length<=70000:=by
 unfold q3a;split
 ·rename_i he;split
  ·rename_i h0;have hd:a.dial.length<=16:=by
    unfold g1a at he;by_cases hk:M0a c=true/\j1a c a=k0a
    ·rw[if_pos hk,if_pos h0] at he;by_cases hd:a.dial.length<=16
     ·exact hd
     ·rw[if_neg hd] at he;exact absurd he (by decide)
    ·rw[if_neg hk] at he;exact absurd he (by decide)
   unfold n7a;rw[List.length_append,List.length_append,m0a,N4a,k.glen];omega
  ·split
   ·have:=q2a a.user.data.toList;rw[List.length_append,k.plen];omega
   ·split
    ·have:=q2a a.share.data.toList;omega
    ·simp
 ·simp
theorem p5b{c:Int}{a:E1a}(k:a.ok):Bytes (O3a c a):=by
 unfold O3a;split
 ·split
  ·exact(((F0a _ _).append (Bytes.zeros 2)).append (F0a _ _)).append k.cbyte
  ·exact Bytes.zeros 4
 ·exact Bytes.nil
theorem K7b{c:Int}{a:E1a}(k:a.ok):(O3a c a).length<=70000:=by
 unfold O3a;split
 ·split
  ·simp only[List.length_append,m0a,List.length_replicate,k.clen];omega
  ·simp
 ·simp
theorem N6b{c:Int}{a:m1a}(k:a.ok):Bytes (t2b c a):=by
 unfold t2b;split
 ·unfold O4a;split
  ·exact(F0a _ _).append ((F0a _ _).append ((F0a _ _).append ((F0a _ _).append ((F0a _ _).append ((F0a _ _).append ((Bytes.zeros 2).append ((F0a _ _).append (v1a _))))))))
  ·split
   ·exact(F0a _ _).append ((F0a _ _).append (F0a _ _))
   ·split
    ·exact(F0a _ _).append ((F0a _ _).append ((F0a _ _).append k.data))
    ·split
     ·exact(F0a _ _).append ((F0a _ _).append ((Bytes.zeros 2).append (r6a _)))
     ·exact F0a _ _
 ·exact Bytes.nil
theorem s8b{c:Int}{a:m1a}:(t2b c a).length<=70000:=by
 unfold t2b;split
 ·rename_i he;obtain⟨_,_,_,hd,hl,_,_⟩:=L6b he;unfold O4a;split
  ·have:=q2a a.name.data.toList;simp only[List.length_append,m0a,List.length_replicate];omega
  ·split
   ·simp only[List.length_append,m0a];omega
   ·split
    ·simp only[List.length_append,m0a];omega
    ·split
     ·simp only[List.length_append,m0a,List.length_replicate,N6a];omega
     ·simp only[m0a];omega
 ·simp
theorem O6b{c:Int}{a:E1a}(k:a.ok):Bytes (u3b c a):=by
 unfold u3b;split
 ·unfold k3a;split
  ·exact(F0a _ _).append ((F0a _ _).append ((F0a _ _).append ((F0a _ _).append ((F0a _ _).append ((F0a _ _).append (Bytes.zeros 2))))))
  ·split
   ·exact(F0a _ _).append k.data
   ·split
    ·exact F0a _ _
    ·exact Bytes.zeros 4
 ·exact Bytes.nil
theorem t8b{c:Int}{a:E1a}:(u3b c a).length<=70000:=by
 unfold u3b;split
 ·rename_i he;obtain⟨_,_,_,_,hd,_⟩:=M6b he;unfold k3a;split
  ·simp only[List.length_append,m0a,List.length_replicate];omega
  ·split
   ·simp only[List.length_append,m0a];omega
   ·split
    ·simp only[m0a];omega
    ·simp
 ·simp
theorem b4{xs:List Int}(hx:Bytes xs)(r:Rd):0<=(rdN xs 4 r).1/\(rdN xs 4 r).1<=4294967295:=by have:=v3b hx 4 r 4294967296 (by decide) (by decide);exact⟨this.1,by omega⟩
theorem b1'{xs:List Int}(hx:Bytes xs)(r:Rd):0<=(rdN xs 1 r).1/\(rdN xs 1 r).1<=255:=by have:=v3b hx 1 r 256 (by decide) (by decide);exact⟨this.1,by omega⟩
theorem b8{xs:List Int}(hx:Bytes xs)(r:Rd):0<=(rdN xs 8 r).1/\(rdN xs 8 r).1<=18446744073709551615:=by have:=v3b hx 8 r 18446744073709551616 (by decide) (by decide);exact⟨this.1,by omega⟩
theorem whole{xs ys:List Int}{r:Rd}(h:xs.take r.p=ys)(h2:r.p=xs.length):ys=xs:=by rw[<-h,h2,List.take_of_length_le (Nat.le_refl _)]
def E3a(c:Int):Bool:=decide (c=12)||(decide (c=14)||(decide (16<=c)&&decide (c<=18)))
def Q4a(c:Int):Bool:=decide (c=14)||(decide (16<=c)&&decide (c<=18))
def U0a(b:Bool):Int:=if b=true then 1 else 0
def v0b(e:s1a):List Int:=le e.kind 2++(List.replicate 2 0++(le e.size 8++G0a e.name.data.toList))
def i1a:List s1a->List Int
 | []=>[]
 | e::r=>v0b e++i1a r
def n1a:List s1a->Int
 | []=>0
 | e::r=>if u0a e.name.data.toList=0 then n1a r else u0a e.name.data.toList
def t2a(e:s1a):Bool:=decide (e.kind<=2)&&(decide (0<=e.size)&&decide (e.size<=1048576))
def U5a(a:m1a):Bool:=decide (1<=a.cls)&&decide (a.cls<=3)
def b2a(c:Int)(a:m1a):m1a:=
 if c=14 then { a with file:=0,most:=0,pat:=.empty,aft:=.empty }
 else if c=16 then { a with file:=0 }
 else if c=17 then (if a.cls=1 then { a with siz:=0,file:=0,cls:=0 } else if a.cls=2 then { a with on:=false,file:=0,cls:=0 } else { a with on:=false,name:=.empty,file:=0,cls:=0 })
 else if c=18 then { a with file:=0,lev:=0 }
 else a
def p7a(c:Int)(a:m1a):m1a:=
 if c=14 then { k0a with file:=a.file,most:=a.most,pat:=a.pat,aft:=a.aft }
 else if c=16 then { k0a with file:=a.file }
 else if c=17 then (if a.cls=1 then { k0a with file:=a.file,cls:=a.cls,siz:=a.siz } else if a.cls=2 then { k0a with file:=a.file,cls:=a.cls,on:=a.on } else { k0a with file:=a.file,cls:=a.cls,on:=a.on,name:=a.name })
 else if c=18 then { k0a with file:=a.file,lev:=a.lev }
 else k0a
def x3a(c:Int)(a:m1a):Bool:=E3a c&&((!decide (c=17)||U5a a)&&decide (b2a c a=k0a))
def I2a(c:Int)(a:m1a):Int:=if x3a c a=true then (if c=14 then (if u0a a.pat.data.toList=0 then u0a a.aft.data.toList else u0a a.pat.data.toList) else if c=17/\a.cls=3 then u0a a.name.data.toList else 0) else 2
def y3a(c:Int)(a:m1a):List Int:=
 if c=14 then le a.file 8++(le a.most 2++(List.replicate 2 0++(G0a a.pat.data.toList++G0a a.aft.data.toList)))
 else if c=16 then le a.file 8
 else if c=17 then (if a.cls=1 then le a.file 8++(le a.cls 2++le a.siz 8) else if a.cls=2 then le a.file 8++(le a.cls 2++le (U0a a.on) 2) else le a.file 8++(le a.cls 2++(le (U0a a.on) 2++G0a a.name.data.toList)))
 else if c=18 then le a.file 8++(le a.lev 1++List.replicate 3 0)
 else List.replicate 4 0
def h1b(c:Int)(a:m1a):List Int:=if I2a c a=0 then y3a c a else []
def L2a(c:Int)(s:E1a):E1a:=
 if c=14 then { s with ents:=[],more:=false }
 else if c=16 then { s with siz:=0,kind:=0,gone:=false }
 else if c=18 then { s with file:=0,lev:=0 }
 else s
def G2a(c:Int)(s:E1a):E1a:=
 if c=14 then { w0a with ents:=s.ents,more:=s.more }
 else if c=16 then { w0a with siz:=s.siz,kind:=s.kind,gone:=s.gone }
 else if c=18 then { w0a with file:=s.file,lev:=s.lev }
 else w0a
def P2a(c:Int)(s:E1a):Bool:=Q4a c&&decide (L2a c s=w0a)
def U2a(c:Int)(s:E1a):Int:=if P2a c s=true/\s.kind<=2/\s.ents.all t2a=true then (if s.ents.length<=64 then (if c=14 then n1a s.ents else 0) else 3) else 2
def r3a(c:Int)(s:E1a):List Int:=
 if c=14 then le s.ents.length 2++(le (U0a s.more) 2++i1a s.ents)
 else if c=16 then le s.siz 8++(le s.kind 2++le (U0a s.gone) 2)
 else if c=18 then le s.file 8++(le s.lev 1++List.replicate 3 0)
 else List.replicate 4 0
def U1b(c:Int)(s:E1a):List Int:=if U2a c s=0 then r3a c s else []
def rdT(xs:List Int)(r:Rd):Int×Rd:=y8a xs 2 1 5 r
def rdK(xs:List Int)(r:Rd):Int×Rd:=y8a xs 2 2 5 r
def u8b(e:Int)(r:Rd):Rd:=if r.e=0 then ⟨r.p,e⟩ else r
def e1(xs:List Int)(r:Rd):=rdK xs r
def e2(xs:List Int)(r:Rd):=rdZ xs 2 (e1 xs r).2
def e3(xs:List Int)(r:Rd):=y8a xs 8 1048576 5 (e2 xs r)
def e4(xs:List Int)(r:Rd):=Q1b xs (e3 xs r).2
def v8b(xs:List Int)(r:Rd):s1a×Rd:=(⟨⟨(e4 xs r).1.toArray⟩,(e1 xs r).1,(e3 xs r).1⟩,(e4 xs r).2)
def w3b(xs:List Int)(r:Rd):Nat->List s1a×Rd
 | 0=>([],r)
 | k+1=>((w3b xs r k).1++[(v8b xs (w3b xs r k).2).1],(v8b xs (w3b xs r k).2).2)
def l1(xs:List Int):=rdN xs 8 rd0
def l2(xs:List Int):=rdN xs 2 (l1 xs).2
def l3(xs:List Int):=rdZ xs 2 (l2 xs).2
def l4(xs:List Int):=Q1b xs (l3 xs)
def l5(xs:List Int):=Q1b xs (l4 xs).2
def t3(xs:List Int):=rdN xs 8 (l2 xs).2
def t4(xs:List Int):=rdT xs (l2 xs).2
def t5(xs:List Int):=Q1b xs (t4 xs).2
def k2(xs:List Int):=rdN xs 1 (l1 xs).2
def k3(xs:List Int):=rdZ xs 3 (k2 xs).2
def igP(c:Int)(xs:List Int):m1a×Rd:=
 if c=14 then ({ k0a with file:=(l1 xs).1,most:=(l2 xs).1,pat:=⟨(l4 xs).1.toArray⟩,aft:=⟨(l5 xs).1.toArray⟩ },(l5 xs).2)
 else if c=16 then ({ k0a with file:=(l1 xs).1 },(l1 xs).2)
 else if c=17 then (if (l2 xs).1=1 then ({ k0a with file:=(l1 xs).1,cls:=(l2 xs).1,siz:=(t3 xs).1 },(t3 xs).2)
  else if (l2 xs).1=2 then ({ k0a with file:=(l1 xs).1,cls:=(l2 xs).1,on:=(t4 xs).1 != 0 },(t4 xs).2)
  else if (l2 xs).1=3 then ({ k0a with file:=(l1 xs).1,cls:=(l2 xs).1,on:=(t4 xs).1 != 0,name:=⟨(t5 xs).1.toArray⟩ },(t5 xs).2)
  else ({ k0a with file:=(l1 xs).1,cls:=(l2 xs).1 },u8b 5 (l2 xs).2))
 else if c=18 then ({ k0a with file:=(l1 xs).1,lev:=(k2 xs).1 },k3 xs)
 else (k0a,rdZ xs 4 rd0)
def w8b(c:Int)(xs:List Int):Int:=if E3a c=true then Y5a xs (igP c xs).2 else 2
def z9b(c:Int)(xs:List Int):m1a:=if w8b c xs=0 then (igP c xs).1 else k0a
def m1(xs:List Int):=y8a xs 2 64 3 rd0
def m2(xs:List Int):=rdT xs (m1 xs).2
def m3(xs:List Int):=w3b xs (m2 xs).2 (m1 xs).1.toNat
def g2(xs:List Int):=rdK xs (l1 xs).2
def g3(xs:List Int):=rdT xs (g2 xs).2
def jgP(c:Int)(xs:List Int):E1a×Rd:=
 if c=14 then ({ w0a with ents:=(m3 xs).1,more:=(m2 xs).1 != 0 },(m3 xs).2)
 else if c=16 then ({ w0a with siz:=(l1 xs).1,kind:=(g2 xs).1,gone:=(g3 xs).1 != 0 },(g3 xs).2)
 else if c=18 then ({ w0a with file:=(l1 xs).1,lev:=(k2 xs).1 },k3 xs)
 else (w0a,rdZ xs 4 rd0)
def x8b(c:Int)(xs:List Int):Int:=if Q4a c=true then Y5a xs (jgP c xs).2 else 2
def A9b(c:Int)(xs:List Int):E1a:=if x8b c xs=0 then (jgP c xs).1 else w0a
theorem g4a{c:Int}(h:E3a c=true):c=12∨c=14∨c=16∨c=17∨c=18:=by unfold E3a at h;simp at h;omega
theorem Q7a{c:Int}(h:Q4a c=true):c=14∨c=16∨c=17∨c=18:=by unfold Q4a at h;simp at h;omega
theorem z5a(b:Bool):0<=U0a b/\U0a b<=1:=by cases b<;>decide
theorem A8a(a b:List s1a):i1a (a++b)=i1a a++i1a b:=by
 induction a with
 | nil=>rfl
 | cons x r ih=>simp only[List.cons_append,i1a,ih,List.append_assoc]
theorem q7a(a b:List s1a):n1a (a++b)=if n1a a=0 then n1a b else n1a a:=by
 induction a with
 | nil=>rfl
 | cons x r ih=>
  by_cases h:u0a x.name.data.toList=0
  ·have e1:n1a (x::r)=n1a r:=by show(if _ then _ else _)=_;rw[if_pos h]
   have e2:n1a (x::(r++b))=n1a (r++b):=by show(if _ then _ else _)=_;rw[if_pos h]
   rw[List.cons_append,e1,e2,ih]
  ·have e1:n1a (x::r)=u0a x.name.data.toList:=by show(if _ then _ else _)=_;rw[if_neg h]
   have e2:n1a (x::(r++b))=u0a x.name.data.toList:=by show(if _ then _ else _)=_;rw[if_neg h]
   rw[List.cons_append,e1,e2,if_neg h]
theorem V1b(e:s1a):Bytes (v0b e):=(F0a _ _).append ((Bytes.zeros 2).append ((F0a _ _).append (v1a _)))
theorem g0b(l:List s1a):Bytes (i1a l):=by
 induction l with
 | nil=>exact Bytes.nil
 | cons a r ih=>exact(V1b a).append ih
theorem q5b(e:s1a):(v0b e).length<=600:=by have:=q2a e.name.data.toList;unfold v0b;simp only[List.length_append,m0a,List.length_replicate];omega
theorem r7a(l:List s1a):(i1a l).length<=600*l.length:=by
 induction l with
 | nil=>exact Nat.le_refl _
 | cons a r ih=>have:=q5b a;simp only[i1a,List.length_append,List.length_cons];omega
structure A5a where
 h:Hd
 a:m1a
 s:E1a
structure A5a.ok (m:A5a):Prop where
 h:m.h.ok
 a:m.a.ok
 s:m.s.ok
def T2a(f:Int):Bool:=decide (f%2=1)
def t6a(h:Hd):Int:=if T2a h.fl=true/\h.st≠0 then 13 else h.cm
def pae(c:Int)(a:m1a):Int:=if M0a c=true then g1a c a else if c<=10 then w5a c a else I2a c a
def pao(c:Int)(a:m1a):List Int:=if M0a c=true then q3a c a else if c<=10 then t2b c a else h1b c a
def pse(c:Int)(s:E1a):Int:=if M0a c=true then z1a c s else if c<=10 then K5a c s else U2a c s
def pso(c:Int)(s:E1a):List Int:=if M0a c=true then O3a c s else if c<=10 then u3b c s else U1b c s
def gae(c:Int)(xs:List Int):Int:=if M0a c=true then o7a c xs else if c<=10 then q8b c xs else w8b c xs
def gao(c:Int)(xs:List Int):m1a:=if M0a c=true then Z6a c xs else if c<=10 then x9b c xs else z9b c xs
def gse(c:Int)(xs:List Int):Int:=if M0a c=true then k5b c xs else if c<=10 then r8b c xs else x8b c xs
def gso(c:Int)(xs:List Int):E1a:=if M0a c=true then p8b c xs else if c<=10 then y9b c xs else A9b c xs
def W1b(n:Nat):Nat:=(8-n%8)%8
def u6a(m:A5a):Int:=if T2a m.h.fl=true then (if g1a 13 m.a=0 then pse (t6a m.h) m.s else 2) else (if z1a 13 m.s=0 then pae (t6a m.h) m.a else 2)
def L9a(m:A5a):List Int:=if u6a m=0 then (if T2a m.h.fl=true then pso (t6a m.h) m.s else pao (t6a m.h) m.a) else []
def Z5a(m:A5a):Int:=if c8a m.h=true then u6a m else 2
def v6a(h:Hd)(b:List Int):List Int:=if h.nx=0 then b else b++List.replicate (W1b b.length) 0
def i1b(m:A5a):List Int:=if Z5a m=0 then M8a m.h++v6a m.h (L9a m) else []
def j8a(h:Hd)(xs:List Int):Int:=if T2a h.fl=true then (if gse (t6a h) xs=2 then 5 else gse (t6a h) xs) else gae (t6a h) xs
def gbA(h:Hd)(xs:List Int):m1a:=if T2a h.fl=true then k0a else gao (t6a h) xs
def gbS(h:Hd)(xs:List Int):E1a:=if T2a h.fl=true then gso (t6a h) xs else w0a
def e9b(xs:List Int)(n:Nat):Bool:=decide (xs.drop (xs.length-n)=List.replicate n 0)
def B9b(h:Hd)(xs:List Int)(n:Nat):Bool:=e9b xs n&&(decide (W1b (xs.length-n)=n)&&decide (j8a h (xs.take (xs.length-n))=0))
def atN(h:Hd)(xs:List Int):Option Nat:=(List.range 8).find? (B9b h xs)
def a4b(h:Hd)(xs:List Int):Int:=if h.nx=0 then j8a h xs else if (atN h xs).isSome=true then 0 else if j8a h xs=0 then 5 else j8a h xs
def b4b(h:Hd)(xs:List Int):List Int:=if h.nx=0 then xs else xs.take (xs.length-(atN h xs).getD 0)
def j1b(xs:List Int):Int:=if r2a xs 0=0 then a4b (l2a xs 0) (xs.drop 64) else r2a xs 0
def L7b:A5a:=⟨N1a,k0a,w0a⟩
def l6b(xs:List Int):A5a:=if j1b xs=0 then ⟨l2a xs 0,gbA (l2a xs 0) (b4b (l2a xs 0) (xs.drop 64)),gbS (l2a xs 0) (b4b (l2a xs 0) (xs.drop 64))⟩ else L7b
theorem y8b{a:m1a}:g1a 13 a=0↔a=k0a:=by
 have hb:j1a 13 a=a:=by unfold j1a;rw[if_neg (by decide),if_neg (by decide),if_neg (by decide)]
 unfold g1a;rw[hb];constructor
 ·intro h;by_cases hz:a=k0a
  ·exact hz
  ·rw[if_neg (λh2=>hz h2.2)] at h;exact absurd h (by decide)
 ·intro h;rw[if_pos ⟨by decide,h⟩,if_neg (by decide),if_neg (by decide),if_neg (by decide)]
theorem z8b{s:E1a}:z1a 13 s=0↔s=w0a:=by
 have hb:r1a 13 s=s:=by unfold r1a;rw[if_neg (by decide)]
 unfold z1a;rw[hb];constructor
 ·intro h;by_cases hz:s=w0a
  ·exact hz
  ·rw[if_neg (λh2=>hz h2.2.1)] at h;exact absurd h (by decide)
 ·intro h;rw[if_pos ⟨by decide,h,λh2=>absurd h2 (by decide)⟩]
theorem k1b(n:Nat):W1b n<8:=Nat.mod_lt _ (by decide)
theorem c4b(h:Hd)(b:List Int):(v6a h b).length<=b.length+7:=by
 unfold v6a;have:=k1b b.length;split
 ·omega
 ·simp only[List.length_append,List.length_replicate];omega
theorem r5b(x:Int)(h0:0<=x)(h1:x<=4294967295):(bits .and .u32 x 2 != 0)=h4a x:=by obtain⟨a,rfl⟩:=Int.eq_ofNat_of_zero_le h0;rw[show(2:Int)=((2:Nat):Int) from rfl,u32_and_nat a 2 (by omega) (by omega),show(2:Nat)=2^1 from rfl,nat_bit 1 a];unfold h4a;rw[Bool.eq_iff_iff,bne_iff_ne,decide_eq_true_iff];omega
theorem s5b(x:Int)(h0:0<=x)(h1:x<=4294967295):(bits .andNot .u32 x 15==0)=decide (x<16):=by
 obtain⟨a,rfl⟩:=Int.eq_ofNat_of_zero_le h0;rw[show(15:Int)=((15:Nat):Int) from rfl,u32_andNot_nat a 15 (by omega) (by omega)];have e1:(a &&& (4294967295-15))%2^4=0:=by rw[Nat.and_mod_two_pow];exact Nat.and_zero _
 have e2:(a &&& (4294967295-15))/2^4=a/16:=by rw[Nat.and_div_two_pow,show(4294967295-15)/2^4=2^28-1 from by decide,Nat.and_two_pow_sub_one_eq_mod];exact Nat.mod_eq_of_lt (by omega)
 rw[Bool.eq_iff_iff,beq_iff_eq,decide_eq_true_iff];omega
theorem T2b{c:Int}(h:known c=true):c=0∨c=1∨c=2∨c=3∨c=4∨c=5∨c=6∨c=7∨c=8∨c=9∨c=10∨c=12∨c=13∨c=14∨c=16∨c=17∨c=18:=by simpa[known,X3a] using h
theorem d4b{c:Int}(h:known c=false):∀x∈X3a,(c==x)=false:=by intro x hx;rw[beq_eq_false_iff_ne];rintro rfl;rw[show known c=true from List.contains_iff_mem.2 hx] at h;cases h
theorem t5b(w:World)(c:Int) :
  Calls Tryz.prog 65 #[.int .u16 c] w λe w'=>e=.returned (.bool (known c))/\w=w':=by
 by_cases h:known c=true
 ·rcases T2b h with rfl | rfl | rfl | rfl | rfl | rfl | rfl | rfl | rfl | rfl | rfl | rfl | rfl | rfl | rfl | rfl | rfl<;>
  ·rw[h];clear h;go_enter Tryz.func65,Tryz.ntmps65;go_wp2;go_ret;exact⟨rfl,rfl⟩
 ·have h':known c=false:=by simpa using h
  have k:=d4b h';rw[h'];have b0:=k 0 (by decide);have b1:=k 1 (by decide);have b2:=k 2 (by decide);have b3:=k 3 (by decide);have b4:=k 4 (by decide);have b5:=k 5 (by decide);have b6:=k 6 (by decide);have b7:=k 7 (by decide);have b8:=k 8 (by decide);have b9:=k 9 (by decide);have b10:=k 10 (by decide);have b12:=k 12 (by decide);have b13:=k 13 (by decide);have b14:=k 14 (by decide);have b16:=k 16 (by decide);have b17:=k 17 (by decide);have b18:=k 18 (by decide);clear k h h';go_enter Tryz.func65,Tryz.ntmps65;go_wp2;go_ret;exact⟨rfl,rfl⟩
theorem s7a(w:World)(h:Hd)(k:h.ok) :
  Calls Tryz.prog 106 #[hv h] w λe w'=>e=.returned (.bool (h4a h.fl))/\Below w.heap.size w w':=by
 have hb:=hI (r5b h.fl k.fl.1 k.fl.2);obtain⟨z,hz⟩:∃z,z=h4a h.fl:=⟨_,rfl⟩;rw[<-hz] at hb⊢;have HB0:=hb.out;obtain⟨v,hvv⟩:∃v,v=hv h:=⟨_,rfl⟩;have HV:=hI hvv;rw[<-hvv];clear hz k hb hvv;go_enter Tryz.func106,Tryz.ntmps106;go_wp2_with((with_reducible refine sN 1 ?_);refine a0a rfl _ (.tmp 0) rfl (q0a h) HV.out ?_;intro g w1 hg1 hg2 B1 L1;have gc:=HB.c4 B1.out);go_ret;exact⟨rfl,L1.out⟩
theorem e4b(w:World)(h:Hd)(k:h.ok) :
  Calls Tryz.prog 66 #[hv h] w λe w'=>e=.returned (hv (X5a h))/\Below w.heap.size w w':=by
 have C0:Hid (∀w:World,Calls Tryz.prog 106 #[hv h] w λe w'=>e=.returned (.bool (h4a h.fl))/\Below w.heap.size w w'):=λw=>s7a w h k
 have HL:=hI (I0a k);have HK:=hI (I0a (I0b k));have HKO:=hI (i2a (X5a h));have HZ:=hI (I0a o3a);have ZH:=hI g8a;have h8:h4a h.fl=true->(q0a h).set 8 (.int .u32 0)=q0a (X5a h):=λhi=>by unfold X5a;rw[if_pos hi];rfl
 have h7:h4a h.fl=false->(q0a h).set 7 (.int .u64 0)=q0a (X5a h):=λhi=>by unfold X5a;rw[if_neg (by rw[hi];decide)];rfl
 obtain⟨zs,hzs⟩:∃zs,zs=q0a N1a:=⟨_,rfl⟩;obtain⟨cs,hcs⟩:∃cs,cs=q0a h:=⟨_,rfl⟩;obtain⟨ds,hds⟩:∃ds,ds=q0a (X5a h):=⟨_,rfl⟩;unfold hv at C0⊢;rw[<-hcs] at C0 HL h7 h8⊢;rw[<-hds] at HK HKO h7 h8⊢;rw[<-hzs] at HZ ZH;clear hzs hcs hds k;by_cases hi:h4a h.fl=true
 ·rw[hi] at C0;have HE:=hI (h8 hi);clear hi h7 h8;go_enter Tryz.func66,Tryz.ntmps66;go_wp2_with(first
   | ((with_reducible refine sN 1 ?_);refine a0a rfl _ (.tmp 0) rfl cs rfl ?_;intro g w1 hg1 hg2 B1 L1)
   | ((with_reducible refine sN 2 ?_);refine b0a rfl _ rfl zs _ ZH ?_;intro g2 w2 hg3 hg4 B2 L2;have B12:=hI (B1.out.over L2.out);have L12:=hI (step L1.out L2.out))
   | ((with_reducible refine sN 3 ?_);refine d0a rfl _ (.tmp 1) rfl g rfl _ _ B12 26 _ Tryz.underlying28 rfl E0a HL ?_)
   | fail)
  refine(C0.out _).mono ?_;rintro e w3 ⟨rfl,L3⟩;have B13:=hI (B12.out.over L3);have B23:=hI (B2.out.over L3);have L13:=hI (step L12.out L3);have hsz:=L2.out.size;have hne:g≠g2:=by omega
  clear B12 B2 L12 L3 C0 B1 L1 L2;go_wp2_with(first
   | ((with_reducible refine sT 5 ?_);refine h0a rfl _ (.tmp 5) _ rfl g 8 rfl _ cs (.int .u32 0) rfl B13 (by have:=HL.out;show 8<_;omega) (by kernel_rfl) rfl ?_;intro w4 B14 O4 hg5;rw[HE.out] at B14;have B24:=hI (B23.out.only O4.out (by omega)))
   | ((with_reducible refine sN 7 ?_);refine d0a rfl _ (.tmp 1) rfl g rfl _ ds B14 26 _ Tryz.underlying28 rfl E0a HK ?_)
   | ((with_reducible refine sT 2 ?_);refine e0a rfl _ (.tmp 2) (.tmp 7) rfl g2 rfl _ zs ds rfl B24 26 E0a HZ HK HKO ?_;intro w5 B25 O5 hg6))
  refine bodyPost_ret (v:=.agg ds.toArray) ?_ rfl ⟨rfl,c0a (c0a L13.out O4.out (by omega)) O5.out (by omega)⟩;exact results_cell_row rfl _ _ g2 _ _ (0,0) _ rfl B25.out Tryz.underlying28 rfl (by rw[E0a];have:=HK.out;simp[this])
 ·have hi':h4a h.fl=false:=by simpa using hi
  rw[hi'] at C0;have HE:=hI (h7 hi');clear hi hi' h7 h8;go_enter Tryz.func66,Tryz.ntmps66;go_wp2_with(first
   | ((with_reducible refine sN 1 ?_);refine a0a rfl _ (.tmp 0) rfl cs rfl ?_;intro g w1 hg1 hg2 B1 L1)
   | ((with_reducible refine sN 2 ?_);refine b0a rfl _ rfl zs _ ZH ?_;intro g2 w2 hg3 hg4 B2 L2;have B12:=hI (B1.out.over L2.out);have L12:=hI (step L1.out L2.out))
   | ((with_reducible refine sN 3 ?_);refine d0a rfl _ (.tmp 1) rfl g rfl _ _ B12 26 _ Tryz.underlying28 rfl E0a HL ?_)
   | fail)
  refine(C0.out _).mono ?_;rintro e w3 ⟨rfl,L3⟩;have B13:=hI (B12.out.over L3);have B23:=hI (B2.out.over L3);have L13:=hI (step L12.out L3);have hsz:=L2.out.size;have hne:g≠g2:=by omega
  clear B12 B2 L12 L3 C0 B1 L1 L2;go_wp2_with(first
   | ((with_reducible refine sT 6 ?_);refine h0a rfl _ (.tmp 6) _ rfl g 7 rfl _ cs (.int .u64 0) rfl B13 (by have:=HL.out;show 7<_;omega) (by kernel_rfl) rfl ?_;intro w4 B14 O4 hg5;rw[HE.out] at B14;have B24:=hI (B23.out.only O4.out (by omega)))
   | ((with_reducible refine sN 7 ?_);refine d0a rfl _ (.tmp 1) rfl g rfl _ ds B14 26 _ Tryz.underlying28 rfl E0a HK ?_)
   | ((with_reducible refine sT 2 ?_);refine e0a rfl _ (.tmp 2) (.tmp 7) rfl g2 rfl _ zs ds rfl B24 26 E0a HZ HK HKO ?_;intro w5 B25 O5 hg6))
  refine bodyPost_ret (v:=.agg ds.toArray) ?_ rfl ⟨rfl,c0a (c0a L13.out O4.out (by omega)) O5.out (by omega)⟩;exact results_cell_row rfl _ _ g2 _ _ (0,0) _ rfl B25.out Tryz.underlying28 rfl (by rw[E0a];have:=HK.out;simp[this])
theorem M9a(w:World)(h:Hd)(k:h.ok) :
  Calls Tryz.prog 75 #[hv h] w λe w'=>e=.returned (.int .u64 (aot h))/\Below w.heap.size w w':=by
 have C0:Hid (∀w:World,Calls Tryz.prog 106 #[hv h] w λe w'=>e=.returned (.bool (h4a h.fl))/\Below w.heap.size w w'):=λw=>s7a w h k
 have HL:=hI (I0a k);obtain⟨t0,t1⟩:=k.tr;have e1:h4a h.fl=true->aot h=h.asy:=λhi=>by unfold aot;rw[if_pos hi]
 have e0:h4a h.fl=false->aot h=h.tr*4294967296:=λhi=>by unfold aot;rw[if_neg (by rw[hi];decide)]
 obtain⟨tr,htr⟩:∃tr,tr=h.tr:=⟨_,rfl⟩;obtain⟨asy,hasy⟩:∃asy,asy=h.asy:=⟨_,rfl⟩;obtain⟨cs,hcs⟩:∃cs,cs=q0a h:=⟨_,rfl⟩;unfold hv at C0⊢;rw[<-hcs] at C0 HL⊢;rw[<-htr] at t0 t1 e0;rw[<-hasy] at e1;have HT:=hI htr;have HA:=hI hasy;have HC:=hI hcs;clear htr hasy hcs k;by_cases hi:h4a h.fl=true
 ·rw[hi] at C0;rw[e1 hi];clear hi e0 e1;go_enter Tryz.func75,Tryz.ntmps75;go_wp2_with(first
   | ((with_reducible refine sN 1 ?_);refine a0a rfl _ (.tmp 0) rfl cs rfl ?_;intro g w1 hg1 hg2 B1 L1)
   | ((with_reducible refine sN 3 ?_);refine d0a rfl _ (.tmp 1) rfl g rfl _ _ B1 26 _ Tryz.underlying28 rfl E0a HL ?_)
   | fail)
  refine(C0.out _).mono ?_;rintro e w3 ⟨rfl,L3⟩;have gc:w3.cell? ⟨g,7,none⟩=some (.int .u64 asy):=by rw[HA.out];exact HB.c7 (HB.of HC.out (B1.out.over L3))
  go_wp2;go_ret;exact⟨rfl,step L1.out L3⟩
 ·have hi':h4a h.fl=false:=by simpa using hi
  rw[hi'] at C0;rw[e0 hi'];clear hi hi' e0 e1;go_enter Tryz.func75,Tryz.ntmps75;go_wp2_with(first
   | ((with_reducible refine sN 1 ?_);refine a0a rfl _ (.tmp 0) rfl cs rfl ?_;intro g w1 hg1 hg2 B1 L1)
   | ((with_reducible refine sN 3 ?_);refine d0a rfl _ (.tmp 1) rfl g rfl _ _ B1 26 _ Tryz.underlying28 rfl E0a HL ?_)
   | fail)
  refine(C0.out _).mono ?_;rintro e w3 ⟨rfl,L3⟩;have gc:w3.cell? ⟨g,8,none⟩=some (.int .u32 tr):=by rw[HT.out];exact HB.c8 (HB.of HC.out (B1.out.over L3))
  go_wp2;go_ret;exact⟨rfl,step L1.out L3⟩
theorem v7b:∀(xs:List Value) (k off:Nat) (cur:List Value),off+k+xs.length<=cur.length->
  List.foldl (fun (cs:Array Value) (p:Value×Nat)=>cs.setIfInBounds (off+p.2) p.1) cur.toArray (xs.zipIdx k)=(cur.take (off+k)++(xs++cur.drop (off+k+xs.length))).toArray
 | [],k,off,cur,_=>by simp
 | x::xs,k,off,cur,h=>by
  have h':off+k+(xs.length+1)<=cur.length:=h;rw[List.zipIdx_cons,List.foldl_cons];have e0:cur.toArray.setIfInBounds (off+k) x=(cur.take (off+k)++x::cur.drop (off+k+1)).toArray:=by rw[List.setIfInBounds_toArray,List.set_eq_take_append_cons_drop,if_pos (by omega)]
  show List.foldl _ (cur.toArray.setIfInBounds (off+k) x) _=_
  have hk:(cur.take (off+k)).length=off+k:=by rw[List.length_take];omega
  rw[e0,v7b xs (k+1) off _ (by simp only[List.length_append,List.length_cons,List.length_drop,hk];omega)]
  congr 1
  have e1:(cur.take (off+k)++x::cur.drop (off+k+1)).take (off+(k+1))=cur.take (off+k)++[x]:=by rw[show cur.take (off+k)++x::cur.drop (off+k+1)=(cur.take (off+k)++[x])++cur.drop (off+k+1) by simp];exact List.take_left' (by rw[List.length_append,hk];rfl)
  have e2:(cur.take (off+k)++x::cur.drop (off+k+1)).drop (off+(k+1)+xs.length)=cur.drop (off+k+(x::xs).length):=by rw[show cur.take (off+k)++x::cur.drop (off+k+1)=(cur.take (off+k)++[x])++cur.drop (off+k+1) by simp];rw[show off+(k+1)+xs.length=(cur.take (off+k)++[x]).length+xs.length by rw[List.length_append,hk];rfl,<-List.drop_drop,List.drop_left,List.drop_drop,List.length_cons,show off+k+1+xs.length=off+k+(xs.length+1) by omega]
  rw[e1,e2];simp
theorem Z8a(place:Nat->Option (Nat×Nat))(off size i:Nat)(cur xs:List Value)(hp:place i=some (off,size))(hl:xs.length=size)(hb:off+size<=cur.length)(rest:List (Nat×Value)) :
  Instr.fill place cur.toArray ((i,.agg xs.toArray)::rest)=Instr.fill place (cur.take off++(xs++cur.drop (off+size))).toArray rest:=by
 have hc:(Value.agg xs.toArray).cells=xs.toArray:=rfl;rw[Instr.fill];simp only[hp,hc,List.size_toArray];rw[if_neg (by rw[hl];simpa using hb)];have h:=v7b xs 0 off cur (by omega);rw[hl] at h;rw[<-Array.foldl_toList,Array.toList_zipIdx];exact congrArg (λz=>Instr.fill place z rest) h
def w0b(P:Program)(T:TypeId):Option (Array Value×List (Nat×Nat)):=
 match P.info? T,P.underlying T with
 | some it,some (.struct fields)=>
  match it.zero,fields.toList.mapM (λf=>(P.info? f.type).map λi=>(f.offset,i.size)) with
  | some z,some places=>some (z.cells,places)
  | _,_=>none
 | _,_=>none
theorem w6a{P:Program}{T:TypeId}{z:Array Value}{pl:List (Nat×Nat)}(h:w0b P T=some (z,pl))(parts:List (Nat×Value)):P.built T parts=Instr.fill (pl.toArray[·]?) z parts:=by
 unfold w0b at h;unfold Program.built;cases hi:P.info? T with
 | none=>simp[hi] at h
 | some it=>
  cases hu:P.underlying T with
  | none=>simp[hi,hu] at h
  | some d=>
   cases d<;>try (simp[hi,hu] at h;done)
   rename_i fields;simp only[hi,hu] at h⊢;cases hz:it.zero with
   | none=>simp[hz] at h
   | some z'=>
    cases hp:fields.toList.mapM (λf=>(P.info? f.type).map λi=>(f.offset,i.size)) with
    | none=>simp[hz,hp] at h
    | some places=>
     simp only[hz,hp] at h⊢;injection h with h
     injection h with h1 h2
     subst h1 h2;rfl
def L1a:List Value:=q0a N1a++(l0a (.slice none 0 0) (.slice none 0 0) (.slice none 0 0) k0a++s0a (.slice none 0 0) (.slice none 0 0) w0a)
theorem a7a:w0b Tryz.prog 60=some (L1a.toArray,[(0,26),(26,69),(95,20)]):=by kernel_rfl
theorem B5a:w0b Tryz.prog 41=some (L1a.toArray,[(0,26),(26,69),(95,20)]):=by kernel_rfl
theorem z3a:L1a.length=115:=by decide +kernel
theorem f4b:L1a.take 26=q0a N1a/\L1a.drop 26=l0a (.slice none 0 0) (.slice none 0 0) (.slice none 0 0) k0a++s0a (.slice none 0 0) (.slice none 0 0) w0a:=⟨rfl,rfl⟩
theorem u5b{T:TypeId}(hp:w0b Tryz.prog T=some (L1a.toArray,[(0,26),(26,69),(95,20)])){hc ac sc:List Value}(h1:hc.length=26)(h2:ac.length=69)(h3:sc.length=20) :
  Tryz.prog.built T [(0,.agg hc.toArray),(1,.agg ac.toArray),(2,.agg sc.toArray)]=some (hc++(ac++sc)).toArray:=by
 have hz:=z3a;rw[w6a hp,Z8a _ 0 26 0 _ _ rfl h1 (by omega),Z8a _ 26 69 1 _ _ rfl h2 (by simp;omega),Z8a _ 95 20 2 _ _ rfl h3 (by simp;omega),Instr.fill];have e1:L1a.take 0++(hc++L1a.drop (0+26))=hc++L1a.drop 26:=by simp
 rw[e1];have e2:(hc++L1a.drop 26).take 26++(ac++(hc++L1a.drop 26).drop (26+69))=hc++(ac++L1a.drop 95):=by rw[List.take_left' h1,<-List.drop_drop,List.drop_left' h1,List.drop_drop]
 rw[e2];have e3:(hc++(ac++L1a.drop 95)).take 95++(sc++(hc++(ac++L1a.drop 95)).drop (95+20))=hc++(ac++sc):=by
  have hl:(hc++ac).length=95:=by rw[List.length_append];omega
  rw[<-List.append_assoc hc,List.take_left' hl,<-List.drop_drop,List.drop_left' hl,List.drop_drop,List.drop_of_length_le (by omega)];simp
 rw[e3]
theorem v5b{T:TypeId}(hp:w0b Tryz.prog T=some (L1a.toArray,[(0,26),(26,69),(95,20)])){hc:List Value}(h1:hc.length=26) :
  Tryz.prog.built T [(0,.agg hc.toArray)]=some (hc++(l0a (.slice none 0 0) (.slice none 0 0) (.slice none 0 0) k0a++s0a (.slice none 0 0) (.slice none 0 0) w0a)).toArray:=by
 have hz:=z3a;rw[w6a hp,Z8a _ 0 26 0 _ _ rfl h1 (by omega),Instr.fill];have e1:L1a.take 0++(hc++L1a.drop (0+26))=hc++L1a.drop 26:=by simp
 rw[e1,f4b.2]
def V3a(w:World)(B:Nat)(cs:List Value)(m:A5a):Prop:=∃ac sc,cs=q0a m.h++(ac++sc)/\b1a w B ac m.a/\f1a w B sc m.s
theorem V3a.over{w w':World}{cs:List Value}{m:A5a}(h:V3a w w.heap.size cs m)(hb:Below w.heap.size w w'):V3a w' w'.heap.size cs m:=by obtain⟨ac,sc,h1,h2,h3⟩:=h;exact⟨ac,sc,h1,h2.over hb,h3.over hb⟩
theorem V3a.len{w:World}{B:Nat}{cs:List Value}{m:A5a}(h:V3a w B cs m)(k:m.ok):cs.length=115:=by obtain⟨ac,sc,rfl,h2,h3⟩:=h;simp only[List.length_append,I0a k.h,h2.len k.a,h3.len k.s]
theorem V3a.one{w:World}{B:Nat}{cs:List Value}{m:A5a}(h:V3a w B cs m):∀v∈cs,v.oneCell'=true:=by
 obtain⟨ac,sc,rfl,h2,h3⟩:=h;intro v hv;rcases List.mem_append.1 hv with hv | hv
 ·exact i2a _ v hv
 ·rcases List.mem_append.1 hv with hv | hv
  ·exact h2.one v hv
  ·exact h3.one v hv
theorem N9a{w:World}{g:Nat}{T:TypeId}{pre mid post cs:List Value}(B:Blk w g T cs)(h:cs=pre++(mid++post))(n:Nat)(hn:pre.length=n):w.rangeAt g n mid:=λj v hj=>by rw[B.cell,h,List.getElem?_append_right (by omega),hn,Nat.add_sub_cancel_left,List.getElem?_append_left (List.getElem?_eq_some_iff.1 hj).1,hj]
theorem x6a{w:World}{g:Nat}{T:TypeId}{hc ac sc:List Value}(B:Blk w g T (hc++(ac++sc))):w.rangeAt g 0 hc:=N9a (pre:=[]) B rfl 0 rfl
theorem p5a{w:World}{g:Nat}{T:TypeId}{hc ac sc:List Value}(B:Blk w g T (hc++(ac++sc)))(h:hc.length=26):w.rangeAt g 26 ac:=N9a B rfl 26 h
theorem q5a{w:World}{g:Nat}{T:TypeId}{hc ac sc:List Value}(B:Blk w g T (hc++(ac++sc)))(h:hc.length=26)(h2:ac.length=69):w.rangeAt g 95 sc:=N9a (pre:=hc++ac) (post:=[]) B (by simp) 95 (by simp only[List.length_append];omega)
theorem J1a:(Tryz.prog.info? 41).map (·.size)=some 115:=by kernel_rfl
theorem J2a:(Tryz.prog.info? 60).map (·.size)=some 115:=by kernel_rfl
theorem a9a:(Tryz.prog.info? 41).map (λi=>(i.zero,i.size))=some (some (.agg L1a.toArray),115):=by kernel_rfl
theorem B8a:(Tryz.prog.info? 60).map (λi=>(i.zero,i.size))=some (some (.agg L1a.toArray),115):=by kernel_rfl
theorem g4b:Tryz.prog.built 41 []=some L1a.toArray:=by rw[w6a B5a];rfl
theorem P6b(x:Int)(h0:0<=x)(h1:x<=4294967295):(bits .and .u32 x 1 != 0)=T2a x:=by obtain⟨a,rfl⟩:=Int.eq_ofNat_of_zero_le h0;rw[show(1:Int)=((1:Nat):Int) from rfl,u32_and_nat a 1 (by omega) (by omega),show(1:Nat)=2^0 from rfl,nat_bit 0 a];unfold T2a;rw[Bool.eq_iff_iff,bne_iff_ne,decide_eq_true_iff];omega
theorem t7a(w:World)(g:Nat)(h:Hd)(k:h.ok)(r:List Value)(B:Blk w g 60 (q0a h++r)) :
  Calls Tryz.prog 39 #[.pointer (some ⟨g,0,none⟩)] w λe w'=>e=.returned (.bool (T2a h.fl))/\w=w':=by
 have gc:w.cell? ⟨g,4,none⟩=some (.int .u32 h.fl):=Blk.cell B 4;have hb:=P6b h.fl k.fl.1 k.fl.2;obtain⟨z,hz⟩:∃z,z=T2a h.fl:=⟨_,rfl⟩;rw[<-hz] at hb⊢;clear hz B k;go_enter Tryz.func39,Tryz.ntmps39;go_wp2;go_ret;exact⟨rfl,rfl⟩
theorem w5b(w:World)(g:Nat)(h:Hd)(k:h.ok)(r:List Value)(B:Blk w g 60 (q0a h++r)) :
  Calls Tryz.prog 38 #[.pointer (some ⟨g,0,none⟩)] w λe w'=>e=.returned (.int .u16 (t6a h))/\w=w':=by
 have CR:=hI (t7a w g h k r B);have gc:w.cell? ⟨g,1,none⟩=some (.int .u32 h.st):=Blk.cell B 1;have gm:w.cell? ⟨g,2,none⟩=some (.int .u16 h.cm):=Blk.cell B 2;by_cases hr:T2a h.fl=true
 ·by_cases hs:h.st=0
  ·have e:t6a h=h.cm:=by unfold t6a;rw[if_neg (λh2=>h2.2 hs)]
   rw[e];rw[hs] at gc;rw[hr] at CR;clear hs hr B k e;go_enter Tryz.func38,Tryz.ntmps38;go_wp2_with fail;refine CR.out.mono ?_;rintro e w1 ⟨rfl,rfl⟩;go_wp2;go_ret;exact⟨rfl,rfl⟩
  ·have e:t6a h=13:=by unfold t6a;rw[if_pos ⟨hr,hs⟩]
   have hne:(h.st != 0)=true:=by simpa using hs
   rw[e];rw[hr] at CR;clear hs hr B k e gm;go_enter Tryz.func38,Tryz.ntmps38;go_wp2_with fail;refine CR.out.mono ?_;rintro e w1 ⟨rfl,rfl⟩;go_wp2;go_ret;exact⟨rfl,rfl⟩
 ·have e:t6a h=h.cm:=by unfold t6a;rw[if_neg (λh2=>hr h2.1)]
  have hr':T2a h.fl=false:=by simpa using hr
  rw[e];rw[hr'] at CR;clear hr hr' B k e gc;go_enter Tryz.func38,Tryz.ntmps38;go_wp2_with fail;refine CR.out.mono ?_;rintro e w1 ⟨rfl,rfl⟩;go_wp2;go_ret;exact⟨rfl,rfl⟩
theorem and7(n:Nat)(h:n<=281474976710656):bits .and .i64 (-(n:Int)) 7=(W1b n:Nat):=by rw[v6b n h];unfold W1b D4b;omega
theorem U2b(w:World)(A:Option Addr)(n c:Nat)(h:n<=281474976710656) :
  Calls Tryz.prog 23 #[.slice A n c] w λe w'=>e=.returned (.int .i64 (W1b n:Nat))/\w=w':=by
 have hb:=and7 n h;have hp:=k1b n;obtain⟨p,hpp⟩:∃p,p=W1b n:=⟨_,rfl⟩;rw[<-hpp] at hb hp⊢;clear hpp;go_enter Tryz.func23,Tryz.ntmps23;go_wp2;go_ret;exact⟨rfl,rfl⟩
def fPA(c:Int):Nat:=if M0a c=true then 80 else if c<=10 then 84 else 88
def fGA(c:Int):Nat:=if M0a c=true then 81 else if c<=10 then 85 else 89
def fPS(c:Int):Nat:=if M0a c=true then 82 else if c<=10 then 86 else 90
def fGS(c:Int):Nat:=if M0a c=true then 83 else if c<=10 then 87 else 91
theorem A8b(c:Int):∀(args:Array Value) (w:World),(callFunc (fPA c) args).run Tryz.prog w=.ok (.enter (fPA c) args) w:=by
 unfold fPA;split
 ·exact enters_of Tryz.func80 (by kernel_rfl) rfl
 ·split
  ·exact enters_of Tryz.func84 (by kernel_rfl) rfl
  ·exact enters_of Tryz.func88 (by kernel_rfl) rfl
theorem B8b(c:Int):∀(args:Array Value) (w:World),(callFunc (fGA c) args).run Tryz.prog w=.ok (.enter (fGA c) args) w:=by
 unfold fGA;split
 ·exact enters_of Tryz.func81 (by kernel_rfl) rfl
 ·split
  ·exact enters_of Tryz.func85 (by kernel_rfl) rfl
  ·exact enters_of Tryz.func89 (by kernel_rfl) rfl
theorem C8b(c:Int):∀(args:Array Value) (w:World),(callFunc (fPS c) args).run Tryz.prog w=.ok (.enter (fPS c) args) w:=by
 unfold fPS;split
 ·exact enters_of Tryz.func82 (by kernel_rfl) rfl
 ·split
  ·exact enters_of Tryz.func86 (by kernel_rfl) rfl
  ·exact enters_of Tryz.func90 (by kernel_rfl) rfl
theorem D8b(c:Int):∀(args:Array Value) (w:World),(callFunc (fGS c) args).run Tryz.prog w=.ok (.enter (fGS c) args) w:=by
 unfold fGS;split
 ·exact enters_of Tryz.func83 (by kernel_rfl) rfl
 ·split
  ·exact enters_of Tryz.func87 (by kernel_rfl) rfl
  ·exact enters_of Tryz.func91 (by kernel_rfl) rfl
def A3a(c:Int):Value:=.agg #[.func (.func (fPA c)) #[] #[],.func (.func (fGA c)) #[] #[],.func (.func (fPS c)) #[] #[],.func (.func (fGS c)) #[] #[]]
theorem V2b:(Tryz.prog.info? 90).map (λi=>(i.zero,i.size))=some (some (.agg ([.nilFunc,.nilFunc,.nilFunc,.nilFunc]:List Value).toArray),4):=by kernel_rfl
theorem d3a:(Tryz.prog.info? 90).map (·.size)=some 4:=by kernel_rfl
def r5a:List Value:=[.func (.func 80) #[] #[],.func (.func 81) #[] #[],.func (.func 82) #[] #[],.func (.func 83) #[] #[]]
theorem O9a:∀v∈r5a,v.oneCell'=true:=by intro v hv;simp[r5a] at hv;rcases hv with rfl | rfl | rfl | rfl<;>rfl
def k8a:List Value:=[.func (.func 84) #[] #[],.func (.func 85) #[] #[],.func (.func 86) #[] #[],.func (.func 87) #[] #[]]
theorem W2b:∀v∈k8a,v.oneCell'=true:=by intro v hv;simp[k8a] at hv;rcases hv with rfl | rfl | rfl | rfl<;>rfl
def l8a:List Value:=[.func (.func 88) #[] #[],.func (.func 89) #[] #[],.func (.func 90) #[] #[],.func (.func 91) #[] #[]]
theorem X2b:∀v∈l8a,v.oneCell'=true:=by intro v hv;simp[l8a] at hv;rcases hv with rfl | rfl | rfl | rfl<;>rfl
theorem C8a(w:World)(c:Int)(hc:0<=c/\c<=65535) :
  Calls Tryz.prog 41 #[.int .u16 c] w λe w'=>e=.returned (A3a c)/\Below w.heap.size w w':=by
 have ZB:=hI V2b;have HZ:Hid (([.nilFunc,.nilFunc,.nilFunc,.nilFunc]:List Value).length=4):=rfl;by_cases h4:c<=4
 ·have q4:decide (c<=4)=true:=by simpa using h4
  have e:A3a c=.agg r5a.toArray:=by
   have hk:M0a c=true:=by unfold M0a;simp[h4]
   unfold A3a fPA fGA fPS fGS;simp only[if_pos hk];rfl
  rw[e];have H1:=hI O9a;have HN:Hid (r5a.length=4):=rfl;have BB:Tryz.prog.built 90 [(0,.func (.func 80) #[] #[]),(1,.func (.func 81) #[] #[]),(2,.func (.func 82) #[] #[]),(3,.func (.func 83) #[] #[])]=some r5a.toArray:=by kernel_rfl
  obtain⟨bs,hbs⟩:∃bs,bs=r5a:=⟨_,rfl⟩;rw[<-hbs] at H1 HN BB⊢;clear e hbs;go_enter Tryz.func41,Tryz.ntmps41;go_wp2_with(first
   | ((with_reducible refine sN 2 ?_);refine b0a rfl _ rfl _ _ ZB ?_;intro g w1 hg1 hg2 Z1 L1)
   | ((with_reducible refine sN 8 ?_);refine x0a rfl _ _ rfl bs (by refine Eq.trans ?_ BB;kernel_rfl) ?_)
   | ((with_reducible refine sT 2 ?_);refine e0a rfl _ (.tmp 2) (.tmp 8) rfl g rfl _ _ bs rfl Z1 4 d3a HZ HN H1 ?_;intro w2 X2 O2 hg3)
   | fail)
  refine bodyPost_ret ?_ rfl ⟨rfl,c0a L1.out O2.out hg1⟩;exact results_cell_row rfl _ _ g _ _ (0,0) _ rfl X2.out Tryz.underlying90 rfl (by rw[d3a];have:=HN.out;simp[this])
 have q4:decide (c<=4)=false:=by simpa using h4
 by_cases h13:c=13
 ·subst h13;have e:A3a 13=.agg r5a.toArray:=by unfold A3a fPA fGA fPS fGS;simp only[if_pos (show M0a 13=true by decide)];rfl
  rw[e];have H1:=hI O9a;have HN:Hid (r5a.length=4):=rfl;have BB:Tryz.prog.built 90 [(0,.func (.func 80) #[] #[]),(1,.func (.func 81) #[] #[]),(2,.func (.func 82) #[] #[]),(3,.func (.func 83) #[] #[])]=some r5a.toArray:=by kernel_rfl
  obtain⟨bs,hbs⟩:∃bs,bs=r5a:=⟨_,rfl⟩;rw[<-hbs] at H1 HN BB⊢;clear e hbs;go_enter Tryz.func41,Tryz.ntmps41;go_wp2_with(first
   | ((with_reducible refine sN 2 ?_);refine b0a rfl _ rfl _ _ ZB ?_;intro g w1 hg1 hg2 Z1 L1)
   | ((with_reducible refine sN 8 ?_);refine x0a rfl _ _ rfl bs (by refine Eq.trans ?_ BB;kernel_rfl) ?_)
   | ((with_reducible refine sT 2 ?_);refine e0a rfl _ (.tmp 2) (.tmp 8) rfl g rfl _ _ bs rfl Z1 4 d3a HZ HN H1 ?_;intro w2 X2 O2 hg3)
   | fail)
  refine bodyPost_ret ?_ rfl ⟨rfl,c0a L1.out O2.out hg1⟩;exact results_cell_row rfl _ _ g _ _ (0,0) _ rfl X2.out Tryz.underlying90 rfl (by rw[d3a];have:=HN.out;simp[this])
 have hk:¬M0a c=true:=by unfold M0a;simp[h4,h13]
 have q13:(c==13)=false:=by simpa using h13
 by_cases h10:c<=10
 ·have q10:decide (c<=10)=true:=by simpa using h10
  have e:A3a c=.agg k8a.toArray:=by unfold A3a fPA fGA fPS fGS;simp only[if_neg hk,if_pos h10];rfl
  rw[e];have H1:=hI W2b;have HN:Hid (k8a.length=4):=rfl;have BB:Tryz.prog.built 90 [(0,.func (.func 84) #[] #[]),(1,.func (.func 85) #[] #[]),(2,.func (.func 86) #[] #[]),(3,.func (.func 87) #[] #[])]=some k8a.toArray:=by kernel_rfl
  obtain⟨bs,hbs⟩:∃bs,bs=k8a:=⟨_,rfl⟩;rw[<-hbs] at H1 HN BB⊢;clear e hbs;go_enter Tryz.func41,Tryz.ntmps41;go_wp2_with(first
   | ((with_reducible refine sN 2 ?_);refine b0a rfl _ rfl _ _ ZB ?_;intro g w1 hg1 hg2 Z1 L1)
   | ((with_reducible refine sN 12 ?_);refine x0a rfl _ _ rfl bs (by refine Eq.trans ?_ BB;kernel_rfl) ?_)
   | ((with_reducible refine sT 2 ?_);refine e0a rfl _ (.tmp 2) (.tmp 12) rfl g rfl _ _ bs rfl Z1 4 d3a HZ HN H1 ?_;intro w2 X2 O2 hg3)
   | fail)
  refine bodyPost_ret ?_ rfl ⟨rfl,c0a L1.out O2.out hg1⟩;exact results_cell_row rfl _ _ g _ _ (0,0) _ rfl X2.out Tryz.underlying90 rfl (by rw[d3a];have:=HN.out;simp[this])
 ·have q10:decide (c<=10)=false:=by simpa using h10
  have e:A3a c=.agg l8a.toArray:=by unfold A3a fPA fGA fPS fGS;simp only[if_neg hk,if_neg h10];rfl
  rw[e];have H1:=hI X2b;have HN:Hid (l8a.length=4):=rfl;have BB:Tryz.prog.built 90 [(0,.func (.func 88) #[] #[]),(1,.func (.func 89) #[] #[]),(2,.func (.func 90) #[] #[]),(3,.func (.func 91) #[] #[])]=some l8a.toArray:=by kernel_rfl
  obtain⟨bs,hbs⟩:∃bs,bs=l8a:=⟨_,rfl⟩;rw[<-hbs] at H1 HN BB⊢;clear e hbs;go_enter Tryz.func41,Tryz.ntmps41;go_wp2_with(first
   | ((with_reducible refine sN 2 ?_);refine b0a rfl _ rfl _ _ ZB ?_;intro g w1 hg1 hg2 Z1 L1)
   | ((with_reducible refine sN 13 ?_);refine x0a rfl _ _ rfl bs (by refine Eq.trans ?_ BB;kernel_rfl) ?_)
   | ((with_reducible refine sT 2 ?_);refine e0a rfl _ (.tmp 2) (.tmp 13) rfl g rfl _ _ bs rfl Z1 4 d3a HZ HN H1 ?_;intro w2 X2 O2 hg3)
   | fail)
  refine bodyPost_ret ?_ rfl ⟨rfl,c0a L1.out O2.out hg1⟩;exact results_cell_row rfl _ _ g _ _ (0,0) _ rfl X2.out Tryz.underlying90 rfl (by rw[d3a];have:=HN.out;simp[this])
theorem P9a{P:Program}{f:FuncId}{args:Array Value}{w:World}{n:Nat}{v:Value}
(h:∀w,Calls P f args w λe w'=>e=.returned v/\w=w'):Calls P f args (w.drewN n) λe w''=>e=.returned v/\∃m,w''=w.drewN m:=(h _).mono λ_ _ ⟨he,hm⟩=>⟨he,n,hm.symm⟩
theorem x3b:Tryz.prog.eqGuardType Tryz.prog.depth 28=false:=by kernel_rfl
theorem M7b(w:World)(h:Hd)(k:h.ok) :
  Calls Tryz.prog 35 #[hv h] w λe w'=>e=.returned (.bool (c8a h))/\Below w.heap.size w w':=by
 have CK:Hid (∀w:World,Calls Tryz.prog 65 #[.int .u16 h.cm] w λe w'=>e=.returned (.bool (known h.cm))/\w=w'):=λw=>t5b w h.cm
 have CO:Hid (∀w:World,Calls Tryz.prog 66 #[hv h] w λe w'=>e=.returned (hv (X5a h))/\Below w.heap.size w w'):=λw=>e4b w h k
 have q0:∀w:World,(Op.equalIn 10000 28 (.agg (q0a h).toArray) (.agg (q0a (X5a h)).toArray)).run Tryz.prog w=.ok (decide (h=X5a h)) w:=λw=>X6a h (X5a h) k (I0b k) w
 have hf:=s5b h.fl k.fl.1 k.fl.2;have HL:=hI (I0a k);have HK:=hI (I0a (I0b k));have HM:Hid (c8a h=(known h.cm&&(decide (h.fl<16)&&decide (h=X5a h)))):=by show _=_;unfold c8a;rw[o6b]
 obtain⟨z,hz⟩:∃z,z=decide (h=X5a h):=⟨_,rfl⟩;obtain⟨fl,hfl⟩:∃fl,fl=h.fl:=⟨_,rfl⟩;obtain⟨cm,hcm⟩:∃cm,cm=h.cm:=⟨_,rfl⟩;obtain⟨cs,hcs⟩:∃cs,cs=q0a h:=⟨_,rfl⟩;obtain⟨ds,hds⟩:∃ds,ds=q0a (X5a h):=⟨_,rfl⟩;have qg:=x3b;unfold hv at CO⊢;rw[<-hcs] at CO HL q0⊢;rw[<-hds] at CO HK q0;rw[<-hz] at q0 HM;rw[<-hfl] at hf HM;rw[<-hcm] at CK HM;have HFL:=hI hfl;have HCM:=hI hcm;have HC:=hI hcs;have F2:Hid (∀(w:World) (g:Nat),Blk w g 28 cs->w.cell? ⟨g,2,none⟩=some (.int .u16 cm)/\w.cell? ⟨g,4,none⟩=some (.int .u32 fl)):=λw g B=>⟨by rw[HCM.out];exact HB.c2 (HB.of HC.out B),by rw[HFL.out];exact HB.c4 (HB.of HC.out B)⟩
 clear hz hfl hcm hcs hds k HFL HCM HC;by_cases hk:known cm=true
 ·rw[hk] at CK HM;by_cases h16:fl<16
  ·rw[decide_eq_true h16] at hf HM;rw[show c8a h=z from by rw[HM.out];simp];clear hk h16 HM;go_enter Tryz.func35,Tryz.ntmps35;go_upto_region 1 with(first
    | ((with_reducible refine sN 1 ?_);refine a0a rfl _ (.tmp 0) rfl cs rfl ?_;intro g w1 hg1 hg2 B1 L1)
    | fail)
   refine wp_region_held (S:=λw'=>Blk w' g 28 cs) (by kernel_rfl) ?_;change wpAnyH _ _ _ _ _ _ _ _ w1.drew
   have S0:Hid (Blk w1.drew g 28 cs):=B1.out.drew;have b0:Hid (Below w.heap.size w w1.drew):=L1.out.drew;have gc:=(F2.out _ _ S0.out).1;have gf:=(F2.out _ _ S0.out).2;clear B1 L1;refine oN 0 _ rfl λK hK=>?_
   go_simp;refine hK _ _ S0.out ?_;clear hK K;refine oN 1 _ rfl λK hK=>?_
   go_simp;refine hK _ _ S0.out ?_;clear hK K;refine oN 2 _ rfl λK hK=>?_
   go_simp;refine(CK.out _).mono ?_;rintro e v1 ⟨rfl,rfl⟩;refine hK _ _ S0.out ?_;clear hK K;refine oN 3 _ rfl λK hK=>?_
   go_simp;refine hK _ _ S0.out ?_;clear hK K;refine oN 4 _ rfl λK hK=>?_
   go_simp;refine hK _ _ S0.out ?_;clear hK K;refine oN 5 _ rfl λK hK=>?_
   go_simp;refine hK _ _ S0.out ?_;clear hK K;refine oN 6 _ rfl λK hK=>?_
   go_simp;refine hK _ _ S0.out ?_;clear hK K;refine oN 7 _ rfl λK hK=>?_
   go_simp;refine hK _ _ S0.out ?_;clear hK K;refine oN 8 _ rfl λK hK=>?_
   go_simp;refine hK _ _ S0.out ?_;clear hK K;refine oN 9 _ rfl λK hK=>?_
   go_simp;refine hK _ _ S0.out ?_;clear hK K;refine tK 10 _ rfl (T1a rfl _ (.tmp 1) rfl g rfl _ cs (λ_ h=>h) 26 _ Tryz.underlying28 rfl E0a HL) S0.out ?_;refine tK 11 _ rfl (T1a rfl _ (.tmp 1) rfl g rfl _ cs (λ_ h=>h) 26 _ Tryz.underlying28 rfl E0a HL) S0.out ?_;refine oN 12 _ rfl λK hK=>?_
   go_simp;refine(CO.out _).mono ?_;rintro e v2 ⟨rfl,b⟩;have S2:Hid (Blk v2 g 28 cs):=S0.out.over b;have b2:=hI (step b0.out b);refine hK _ _ S2.out ?_;clear hK K b;refine oN 13 _ rfl λK hK=>?_
   go_simp;refine hK _ _ S2.out ?_;clear hK K;refine oN 14 _ rfl λK hK=>?_
   go_simp;refine hK _ _ S2.out ?_;clear hK K;refine oN 15 _ rfl λK hK=>?_
   go_simp;refine hK _ _ S2.out ?_;clear hK K;refine dN ?_;go_wp2_with fail;go_ret;exact⟨rfl,b2.out⟩
  ·have h16':decide (fl<16)=false:=by simpa using h16
   rw[h16'] at hf HM;rw[show c8a h=false from by rw[HM.out];simp];clear hk h16 h16' HM CO q0;go_enter Tryz.func35,Tryz.ntmps35;go_upto_region 1 with(first
    | ((with_reducible refine sN 1 ?_);refine a0a rfl _ (.tmp 0) rfl cs rfl ?_;intro g w1 hg1 hg2 B1 L1)
    | fail)
   have gc:=(F2.out _ _ B1.out).1;have gf:=(F2.out _ _ B1.out).2;go_quiet ((go_at_call 65;exact P9a CK.out));go_wp2_with fail;go_ret;exact⟨rfl,below_drewN L1.out _⟩
 ·have hk':known cm=false:=by simpa using hk
  rw[hk'] at CK HM;rw[show c8a h=false from by rw[HM.out];simp];clear hk hk' HM CO q0;go_enter Tryz.func35,Tryz.ntmps35;go_upto_region 1 with(first
   | ((with_reducible refine sN 1 ?_);refine a0a rfl _ (.tmp 0) rfl cs rfl ?_;intro g w1 hg1 hg2 B1 L1)
   | fail)
  have gc:=(F2.out _ _ B1.out).1;have gf:=(F2.out _ _ B1.out).2;go_quiet ((go_at_call 65;exact P9a CK.out));go_wp2_with fail;go_ret;exact⟨rfl,below_drewN L1.out _⟩
def fnk:Nat->FuncId
 | 0=>67
 | 1=>67
 | 2=>68
 | 3=>69
 | 4=>70
 | 5=>71
 | 6=>72
 | 7=>73
 | 8=>74
 | 9=>76
 | 10=>78
 | _=>0
def fnv(p k:Nat):Value:=.func (.func (fnk k)) #[] (if k<2 then #[] else #[.pointer (some ⟨p,0,none⟩)])
def x5b(p:Nat)(c0 c1 c2 c3 c4 c5 c6 c9 c10:Int):List Value:=
 [.int .i64 0,.int .i64 4,.int .u64 1112364030,.func (.func 67) #[] #[],
  .int .i64 4,.int .i64 2,.int .u64 64,.func (.func 67) #[] #[],
  .int .i64 6,.int .i64 2,.int .u64 c0,.func (.func 68) #[] #[.pointer (some ⟨p,0,none⟩)],
  .int .i64 8,.int .i64 4,.int .u64 c1,.func (.func 69) #[] #[.pointer (some ⟨p,0,none⟩)],
  .int .i64 12,.int .i64 2,.int .u64 c2,.func (.func 70) #[] #[.pointer (some ⟨p,0,none⟩)],
  .int .i64 14,.int .i64 2,.int .u64 c3,.func (.func 71) #[] #[.pointer (some ⟨p,0,none⟩)],
  .int .i64 16,.int .i64 4,.int .u64 c4,.func (.func 72) #[] #[.pointer (some ⟨p,0,none⟩)],
  .int .i64 20,.int .i64 4,.int .u64 c5,.func (.func 73) #[] #[.pointer (some ⟨p,0,none⟩)],
  .int .i64 24,.int .i64 8,.int .u64 c6,.func (.func 74) #[] #[.pointer (some ⟨p,0,none⟩)],
  .int .i64 32,.int .i64 8,.int .u64 c9,.func (.func 76) #[] #[.pointer (some ⟨p,0,none⟩)],
  .int .i64 40,.int .i64 8,.int .u64 c10,.func (.func 78) #[] #[.pointer (some ⟨p,0,none⟩)]]
def l5a(p:Nat)(h:Hd):List Value:=x5b p h.ch h.st h.cm h.cr h.fl h.nx h.id (aot h) h.se
def fel(p:Nat)(h:Hd)(k:Nat):List Value:=[.int .i64 (E6a.getD k 0:Nat),.int .i64 (szs.getD k 0:Nat),.int .u64 ((L8a h).getD k 0),fnv p k]
theorem y5b(p:Nat)(h:Hd)(k:Nat)(hk:k<11)(j:Nat)(v:Value)(hj:(fel p h k)[j]? = some v):(l5a p h)[k*4+j]? = some v:=by
 have h4:j<4:=by have:=(List.getElem?_eq_some_iff.1 hj).1;simpa[fel] using this
 rw[<-hj];revert hk
 match j,h4 with
 | 0,_=>exact λhk=>T6a (p:=λk=>(l5a p h)[k*4+0]? = (fel p h k)[0]?) rfl rfl rfl rfl rfl rfl rfl rfl rfl rfl rfl k hk
 | 1,_=>exact λhk=>T6a (p:=λk=>(l5a p h)[k*4+1]? = (fel p h k)[1]?) rfl rfl rfl rfl rfl rfl rfl rfl rfl rfl rfl k hk
 | 2,_=>exact λhk=>T6a (p:=λk=>(l5a p h)[k*4+2]? = (fel p h k)[2]?) rfl rfl rfl rfl rfl rfl rfl rfl rfl rfl rfl k hk
 | 3,_=>exact λhk=>T6a (p:=λk=>(l5a p h)[k*4+3]? = (fel p h k)[3]?) rfl rfl rfl rfl rfl rfl rfl rfl rfl rfl rfl k hk
theorem D8a{w:World}{G p:Nat}{T:TypeId}{h:Hd}(B:Blk w G T (l5a p h))(k:Nat)(hk:k<11):w.rangeAt G (k*4) (fel p h k):=λj v hj=>by rw[B.cell];exact y5b p h k hk j v hj
def O6a(w:World)(g:Nat)(h:Hd)(e:Ending)(w':World):Prop:=∃p G,e=.returned (.slice (some ⟨G,0,none⟩) 11 11)/\w.heap.size<=p/\p<G/\Blk w' p 77 [.pointer (some ⟨g,0,none⟩)]/\Blk w' G 80 (l5a p h)/\Below w.heap.size w w'
theorem x0b(w:World)(g:Nat)(h:Hd)(k:h.ok)(hB:HB w g h) :
  Calls Tryz.prog 36 #[.pointer (some ⟨g,0,none⟩)] w (O6a w g h):=by
 have hmf:∀(fn:Fn) (first cap:Array Value) (w:World),(Instr.makeFunc fn first cap).run Tryz.prog w=.ok (.func fn first cap) w:=λ_ _ _ _=>rfl
 have HL:=hI (I0a k);have C0:Hid (∀w:World,Calls Tryz.prog 75 #[hv h] w λe w'=>e=.returned (.int .u64 (aot h))/\Below w.heap.size w w'):=λw=>M9a w h k
 have HQ:Hid (∀e w',(∃p G,e=.returned (.slice (some ⟨G,0,none⟩) 11 11)/\w.heap.size<=p/\p<G/\Blk w' p 77 [.pointer (some ⟨g,0,none⟩)]/\Blk w' G 80 (l5a p h)/\Below w.heap.size w w')->O6a w g h e w'):=λ_ _ hh=>hh
 obtain⟨k0,k1,k2,k3,k4,k5,k6,k7,k8,k9,_,_⟩:=k;have HB0:=hI hB;unfold hv at C0;unfold l5a at HQ;obtain⟨n9,hn9⟩:∃n,n=aot h:=⟨_,rfl⟩;obtain⟨cs,hcs⟩:∃cs,cs=q0a h:=⟨_,rfl⟩;have HC:=hI hcs;rw[<-hcs] at C0 HL;rw[<-hn9] at C0 HQ;have FW:Hid (∀w',Blk w' g 28 cs->w'.cell? ⟨g,0,none⟩=some (.int .u16 h.ch)/\w'.cell? ⟨g,1,none⟩=some (.int .u32 h.st)/\w'.cell? ⟨g,2,none⟩=some (.int .u16 h.cm)/\w'.cell? ⟨g,3,none⟩=some (.int .u16 h.cr)/\
   w'.cell? ⟨g,4,none⟩=some (.int .u32 h.fl)/\w'.cell? ⟨g,5,none⟩=some (.int .u32 h.nx)/\w'.cell? ⟨g,6,none⟩=some (.int .u64 h.id)/\w'.cell? ⟨g,9,none⟩=some (.int .u64 h.se)):=λw' b=>by
  have X:HB w' g h:=HB.of HC.out b;exact⟨X.c0,X.c1,X.c2,X.c3,X.c4,X.c5,X.c6,X.c9⟩
 have HB1:Hid (Blk w g 28 cs):=by show Blk _ _ _ _;rw[HC.out];exact HB0.out
 clear hB hcs hn9 HB0;obtain⟨n0,hn0⟩:∃n,n=h.ch:=⟨_,rfl⟩;obtain⟨n1,hn1⟩:∃n,n=h.st:=⟨_,rfl⟩;obtain⟨n2,hn2⟩:∃n,n=h.cm:=⟨_,rfl⟩;obtain⟨n3,hn3⟩:∃n,n=h.cr:=⟨_,rfl⟩;obtain⟨n4,hn4⟩:∃n,n=h.fl:=⟨_,rfl⟩;obtain⟨n5,hn5⟩:∃n,n=h.nx:=⟨_,rfl⟩;obtain⟨n6,hn6⟩:∃n,n=h.id:=⟨_,rfl⟩;obtain⟨n10,hn10⟩:∃n,n=h.se:=⟨_,rfl⟩;rw[<-hn0] at FW HQ k0;rw[<-hn1] at FW HQ k1;rw[<-hn2] at FW HQ k2;rw[<-hn3] at FW HQ k3;rw[<-hn4] at FW HQ k4;rw[<-hn5] at FW HQ k5;rw[<-hn6] at FW HQ k6;rw[<-hn10] at FW HQ k9;obtain⟨k00,k01⟩:=k0;obtain⟨k10,k11⟩:=k1;obtain⟨k20,k21⟩:=k2;obtain⟨k30,k31⟩:=k3;obtain⟨k40,k41⟩:=k4;obtain⟨k50,k51⟩:=k5;clear hn0 hn1 hn2 hn3 hn4 hn5 hn6 hn10 k6 k7 k8 k9;go_enter Tryz.func36,Tryz.ntmps36;go_upto_region 2 with(first
  | ((with_reducible refine sN 1 ?_);refine e0b rfl _ (.tmp 0) rfl _ rfl rfl ?_;intro p w1 hp1 hp2 P1 L1)
  | fail)
 refine wp_region_held (S:=λw'=>Blk w' p 77 [.pointer (some ⟨g,0,none⟩)]/\Blk w' g 28 cs) (by kernel_rfl) ?_;change wpAnyH _ _ _ _ _ _ _ _ w1.drew
 have S0:Hid (Blk w1.drew p 77 [.pointer (some ⟨g,0,none⟩)]/\Blk w1.drew g 28 cs):=⟨P1.out.drew,(HB1.out.over L1.out).drew⟩;have b0:Hid (Below w.heap.size w w1.drew):=L1.out.drew;have hp2':p<w1.drew.heap.size:=hp2;obtain⟨w0,hw0⟩:∃w0,w0=w1.drew:=⟨_,rfl⟩;rw[<-hw0] at S0 b0 hp2'⊢;clear hw0 HB1 P1 L1 hp2;refine tK 0 _ rfl (t0a (by kernel_rfl) (.tmp 3) rfl (.func (.func 67) #[] #[]) (by kernel_rfl)) S0.out ?_;refine tK 1 _ rfl (X0a (by kernel_rfl) _ _ rfl [.int .i64 0,.int .i64 4,.int .u64 1112364030,.func (.func 67) #[] #[]] (by kernel_rfl)) S0.out ?_;refine tK 2 _ rfl (t0a (by kernel_rfl) (.tmp 3) rfl (.func (.func 67) #[] #[]) (by kernel_rfl)) S0.out ?_;refine tK 3 _ rfl (X0a (by kernel_rfl) _ _ rfl [.int .i64 4,.int .i64 2,.int .u64 64,.func (.func 67) #[] #[]] (by kernel_rfl)) S0.out ?_;refine tK 4 _ rfl (i0a (by kernel_rfl) _ (.tmp 1) rfl p 0 (by kernel_rfl) (.pointer (some ⟨g,0,none⟩)) (λ_ h=>h.1.cell 0) _ Tryz.underlying77 rfl) S0.out ?_;refine tK 5 _ rfl (x1a (by kernel_rfl) (.tmp 8) rfl ⟨g,0,none⟩ (by kernel_rfl)) S0.out ?_;refine tK 6 _ rfl (g0a (by kernel_rfl) _ (.tmp 9) 0 rfl (.pointer (some ⟨g,0,none⟩)) (.pointer (some ⟨g,0,none⟩)) (by kernel_rfl) (r8a g 0 (by decide))) S0.out ?_;refine tK 7 _ rfl (i0a (by kernel_rfl) _ (.tmp 10) rfl g 0 (by kernel_rfl) (.int .u16 n0) (λw h=>(FW.out w h.2).1) _ Tryz.underlying22 rfl) S0.out ?_;refine tK 8 _ rfl (g3a (by kernel_rfl) _ _ (.tmp 11) rfl (.int .u16 n0) (.int .u64 n0) (by kernel_rfl) (r3b n0 k00 k01)) S0.out ?_;refine tK 9 _ rfl (K2a (by kernel_rfl) _ _ _ rfl #[] #[.pointer (some ⟨p,0,none⟩)] (by kernel_rfl) (by kernel_rfl) (hmf _ _ _)) S0.out ?_;refine tK 10 _ rfl (X0a (by kernel_rfl) _ _ rfl [.int .i64 6,.int .i64 2,.int .u64 n0,.func (.func 68) #[] #[.pointer (some ⟨p,0,none⟩)]] (by kernel_rfl)) S0.out ?_;refine tK 11 _ rfl (i0a (by kernel_rfl) _ (.tmp 1) rfl p 0 (by kernel_rfl) (.pointer (some ⟨g,0,none⟩)) (λ_ h=>h.1.cell 0) _ Tryz.underlying77 rfl) S0.out ?_;refine tK 12 _ rfl (x1a (by kernel_rfl) (.tmp 15) rfl ⟨g,0,none⟩ (by kernel_rfl)) S0.out ?_;refine tK 13 _ rfl (g0a (by kernel_rfl) _ (.tmp 16) 1 rfl (.pointer (some ⟨g,0,none⟩)) (.pointer (some ⟨g,1,none⟩)) (by kernel_rfl) (r8a g 1 (by decide))) S0.out ?_;refine tK 14 _ rfl (i0a (by kernel_rfl) _ (.tmp 17) rfl g 1 (by kernel_rfl) (.int .u32 n1) (λw h=>(FW.out w h.2).2.1) _ Tryz.underlying23 rfl) S0.out ?_;refine tK 15 _ rfl (g3a (by kernel_rfl) _ _ (.tmp 18) rfl (.int .u32 n1) (.int .u64 n1) (by kernel_rfl) (T0b n1 k10 k11)) S0.out ?_;refine tK 16 _ rfl (K2a (by kernel_rfl) _ _ _ rfl #[] #[.pointer (some ⟨p,0,none⟩)] (by kernel_rfl) (by kernel_rfl) (hmf _ _ _)) S0.out ?_;refine tK 17 _ rfl (X0a (by kernel_rfl) _ _ rfl [.int .i64 8,.int .i64 4,.int .u64 n1,.func (.func 69) #[] #[.pointer (some ⟨p,0,none⟩)]] (by kernel_rfl)) S0.out ?_;refine tK 18 _ rfl (i0a (by kernel_rfl) _ (.tmp 1) rfl p 0 (by kernel_rfl) (.pointer (some ⟨g,0,none⟩)) (λ_ h=>h.1.cell 0) _ Tryz.underlying77 rfl) S0.out ?_;refine tK 19 _ rfl (x1a (by kernel_rfl) (.tmp 22) rfl ⟨g,0,none⟩ (by kernel_rfl)) S0.out ?_;refine tK 20 _ rfl (g0a (by kernel_rfl) _ (.tmp 23) 2 rfl (.pointer (some ⟨g,0,none⟩)) (.pointer (some ⟨g,2,none⟩)) (by kernel_rfl) (r8a g 2 (by decide))) S0.out ?_;refine tK 21 _ rfl (i0a (by kernel_rfl) _ (.tmp 24) rfl g 2 (by kernel_rfl) (.int .u16 n2) (λw h=>(FW.out w h.2).2.2.1) _ Tryz.underlying24 rfl) S0.out ?_;refine tK 22 _ rfl (g3a (by kernel_rfl) _ _ (.tmp 25) rfl (.int .u16 n2) (.int .u64 n2) (by kernel_rfl) (z6b n2 k20 k21)) S0.out ?_;refine tK 23 _ rfl (K2a (by kernel_rfl) _ _ _ rfl #[] #[.pointer (some ⟨p,0,none⟩)] (by kernel_rfl) (by kernel_rfl) (hmf _ _ _)) S0.out ?_;refine tK 24 _ rfl (X0a (by kernel_rfl) _ _ rfl [.int .i64 12,.int .i64 2,.int .u64 n2,.func (.func 70) #[] #[.pointer (some ⟨p,0,none⟩)]] (by kernel_rfl)) S0.out ?_;refine tK 25 _ rfl (i0a (by kernel_rfl) _ (.tmp 1) rfl p 0 (by kernel_rfl) (.pointer (some ⟨g,0,none⟩)) (λ_ h=>h.1.cell 0) _ Tryz.underlying77 rfl) S0.out ?_;refine tK 26 _ rfl (x1a (by kernel_rfl) (.tmp 29) rfl ⟨g,0,none⟩ (by kernel_rfl)) S0.out ?_;refine tK 27 _ rfl (g0a (by kernel_rfl) _ (.tmp 30) 3 rfl (.pointer (some ⟨g,0,none⟩)) (.pointer (some ⟨g,3,none⟩)) (by kernel_rfl) (r8a g 3 (by decide))) S0.out ?_;refine tK 28 _ rfl (i0a (by kernel_rfl) _ (.tmp 31) rfl g 3 (by kernel_rfl) (.int .u16 n3) (λw h=>(FW.out w h.2).2.2.2.1) _ Tryz.underlying22 rfl) S0.out ?_;refine tK 29 _ rfl (g3a (by kernel_rfl) _ _ (.tmp 32) rfl (.int .u16 n3) (.int .u64 n3) (by kernel_rfl) (r3b n3 k30 k31)) S0.out ?_;refine tK 30 _ rfl (K2a (by kernel_rfl) _ _ _ rfl #[] #[.pointer (some ⟨p,0,none⟩)] (by kernel_rfl) (by kernel_rfl) (hmf _ _ _)) S0.out ?_;refine tK 31 _ rfl (X0a (by kernel_rfl) _ _ rfl [.int .i64 14,.int .i64 2,.int .u64 n3,.func (.func 71) #[] #[.pointer (some ⟨p,0,none⟩)]] (by kernel_rfl)) S0.out ?_;refine tK 32 _ rfl (i0a (by kernel_rfl) _ (.tmp 1) rfl p 0 (by kernel_rfl) (.pointer (some ⟨g,0,none⟩)) (λ_ h=>h.1.cell 0) _ Tryz.underlying77 rfl) S0.out ?_;refine tK 33 _ rfl (x1a (by kernel_rfl) (.tmp 36) rfl ⟨g,0,none⟩ (by kernel_rfl)) S0.out ?_;refine tK 34 _ rfl (g0a (by kernel_rfl) _ (.tmp 37) 4 rfl (.pointer (some ⟨g,0,none⟩)) (.pointer (some ⟨g,4,none⟩)) (by kernel_rfl) (r8a g 4 (by decide))) S0.out ?_;refine tK 35 _ rfl (i0a (by kernel_rfl) _ (.tmp 38) rfl g 4 (by kernel_rfl) (.int .u32 n4) (λw h=>(FW.out w h.2).2.2.2.2.1) _ Tryz.underlying23 rfl) S0.out ?_;refine tK 36 _ rfl (g3a (by kernel_rfl) _ _ (.tmp 39) rfl (.int .u32 n4) (.int .u64 n4) (by kernel_rfl) (T0b n4 k40 k41)) S0.out ?_;refine tK 37 _ rfl (K2a (by kernel_rfl) _ _ _ rfl #[] #[.pointer (some ⟨p,0,none⟩)] (by kernel_rfl) (by kernel_rfl) (hmf _ _ _)) S0.out ?_;refine tK 38 _ rfl (X0a (by kernel_rfl) _ _ rfl [.int .i64 16,.int .i64 4,.int .u64 n4,.func (.func 72) #[] #[.pointer (some ⟨p,0,none⟩)]] (by kernel_rfl)) S0.out ?_;refine tK 39 _ rfl (i0a (by kernel_rfl) _ (.tmp 1) rfl p 0 (by kernel_rfl) (.pointer (some ⟨g,0,none⟩)) (λ_ h=>h.1.cell 0) _ Tryz.underlying77 rfl) S0.out ?_;refine tK 40 _ rfl (x1a (by kernel_rfl) (.tmp 43) rfl ⟨g,0,none⟩ (by kernel_rfl)) S0.out ?_;refine tK 41 _ rfl (g0a (by kernel_rfl) _ (.tmp 44) 5 rfl (.pointer (some ⟨g,0,none⟩)) (.pointer (some ⟨g,5,none⟩)) (by kernel_rfl) (r8a g 5 (by decide))) S0.out ?_;refine tK 42 _ rfl (i0a (by kernel_rfl) _ (.tmp 45) rfl g 5 (by kernel_rfl) (.int .u32 n5) (λw h=>(FW.out w h.2).2.2.2.2.2.1) _ Tryz.underlying23 rfl) S0.out ?_;refine tK 43 _ rfl (g3a (by kernel_rfl) _ _ (.tmp 46) rfl (.int .u32 n5) (.int .u64 n5) (by kernel_rfl) (T0b n5 k50 k51)) S0.out ?_;refine tK 44 _ rfl (K2a (by kernel_rfl) _ _ _ rfl #[] #[.pointer (some ⟨p,0,none⟩)] (by kernel_rfl) (by kernel_rfl) (hmf _ _ _)) S0.out ?_;refine tK 45 _ rfl (X0a (by kernel_rfl) _ _ rfl [.int .i64 20,.int .i64 4,.int .u64 n5,.func (.func 73) #[] #[.pointer (some ⟨p,0,none⟩)]] (by kernel_rfl)) S0.out ?_;refine tK 46 _ rfl (i0a (by kernel_rfl) _ (.tmp 1) rfl p 0 (by kernel_rfl) (.pointer (some ⟨g,0,none⟩)) (λ_ h=>h.1.cell 0) _ Tryz.underlying77 rfl) S0.out ?_;refine tK 47 _ rfl (x1a (by kernel_rfl) (.tmp 50) rfl ⟨g,0,none⟩ (by kernel_rfl)) S0.out ?_;refine tK 48 _ rfl (g0a (by kernel_rfl) _ (.tmp 51) 6 rfl (.pointer (some ⟨g,0,none⟩)) (.pointer (some ⟨g,6,none⟩)) (by kernel_rfl) (r8a g 6 (by decide))) S0.out ?_;refine tK 49 _ rfl (i0a (by kernel_rfl) _ (.tmp 52) rfl g 6 (by kernel_rfl) (.int .u64 n6) (λw h=>(FW.out w h.2).2.2.2.2.2.2.1) _ Tryz.underlying25 rfl) S0.out ?_;refine tK 50 _ rfl (K2a (by kernel_rfl) _ _ _ rfl #[] #[.pointer (some ⟨p,0,none⟩)] (by kernel_rfl) (by kernel_rfl) (hmf _ _ _)) S0.out ?_;refine tK 51 _ rfl (X0a (by kernel_rfl) _ _ rfl [.int .i64 24,.int .i64 8,.int .u64 n6,.func (.func 74) #[] #[.pointer (some ⟨p,0,none⟩)]] (by kernel_rfl)) S0.out ?_;refine tK 52 _ rfl (i0a (by kernel_rfl) _ (.tmp 1) rfl p 0 (by kernel_rfl) (.pointer (some ⟨g,0,none⟩)) (λ_ h=>h.1.cell 0) _ Tryz.underlying77 rfl) S0.out ?_;refine tK 53 _ rfl (x1a (by kernel_rfl) (.tmp 56) rfl ⟨g,0,none⟩ (by kernel_rfl)) S0.out ?_;refine tK 54 _ rfl (T1a (by kernel_rfl) _ (.tmp 57) rfl g (by kernel_rfl) _ cs (λ_ h=>h.2) 26 _ Tryz.underlying28 rfl E0a HL) S0.out ?_;refine tK 56 _ rfl (K2a (by kernel_rfl) _ _ _ rfl #[] #[.pointer (some ⟨p,0,none⟩)] (by kernel_rfl) (by kernel_rfl) (hmf _ _ _)) S0.out ?_;refine tK 58 _ rfl (i0a (by kernel_rfl) _ (.tmp 1) rfl p 0 (by kernel_rfl) (.pointer (some ⟨g,0,none⟩)) (λ_ h=>h.1.cell 0) _ Tryz.underlying77 rfl) S0.out ?_;refine tK 59 _ rfl (x1a (by kernel_rfl) (.tmp 62) rfl ⟨g,0,none⟩ (by kernel_rfl)) S0.out ?_;refine tK 60 _ rfl (g0a (by kernel_rfl) _ (.tmp 63) 9 rfl (.pointer (some ⟨g,0,none⟩)) (.pointer (some ⟨g,9,none⟩)) (by kernel_rfl) (r8a g 9 (by decide))) S0.out ?_;refine tK 61 _ rfl (i0a (by kernel_rfl) _ (.tmp 64) rfl g 9 (by kernel_rfl) (.int .u64 n10) (λw h=>(FW.out w h.2).2.2.2.2.2.2.2) _ Tryz.underlying25 rfl) S0.out ?_;refine tK 62 _ rfl (K2a (by kernel_rfl) _ _ _ rfl #[] #[.pointer (some ⟨p,0,none⟩)] (by kernel_rfl) (by kernel_rfl) (hmf _ _ _)) S0.out ?_;refine tK 63 _ rfl (X0a (by kernel_rfl) _ _ rfl [.int .i64 40,.int .i64 8,.int .u64 n10,.func (.func 78) #[] #[.pointer (some ⟨p,0,none⟩)]] (by kernel_rfl)) S0.out ?_;refine y0a λa1 ha1=>?_
 have e58:a1.eval (.tmp 58)=.agg cs.toArray:=by rw[ha1];kernel_rfl
 refine oN 55 _ rfl λK hK=>?_
 go_simp;refine(C0.out _).mono ?_;rintro e w2 ⟨rfl,b⟩;have S2:Hid (Blk w2 p 77 [.pointer (some ⟨g,0,none⟩)]/\Blk w2 g 28 cs):=⟨S0.out.1.over b,S0.out.2.over b⟩;have b2:=hI (step b0.out b);have hsz:=b.size;refine hK _ _ S2.out ?_;clear hK K b e58;subst ha1;refine tK 57 _ rfl (X0a (by kernel_rfl) _ _ rfl [.int .i64 32,.int .i64 8,.int .u64 n9,.func (.func 76) #[] #[.pointer (some ⟨p,0,none⟩)]] (by kernel_rfl)) S2.out ?_;refine oN 64 _ rfl λK hK=>?_
 refine S0a rfl _ _ 11 _ rfl Tryz.underlying75 (x5b p n0 n1 n2 n3 n4 n5 n6 n9 n10) (by kernel_rfl) ?_;intro G w3 hG1 hG2 G3 L3;have S3:Hid (Blk w3 p 77 [.pointer (some ⟨g,0,none⟩)]/\Blk w3 g 28 cs):=⟨S2.out.1.over L3.out,S2.out.2.over L3.out⟩;refine hK _ _ S3.out ?_;clear hK K;refine tK 65 _ rfl (j6a (by kernel_rfl) (.tmp 68) rfl (.slice (some ⟨G,0,none⟩) 11 11) (by kernel_rfl)) S3.out ?_;refine dN ?_;go_wp2_with fail;go_ret;exact HQ.out _ _ ⟨p,G,rfl,hp1,by omega,S3.out.1,G3.out,step b2.out L3.out⟩
def z4a(w:World)(h:Hd)(e:Ending)(w':World):Prop:=∃A',e=.returned (.tuple #[.slice A' (q4a h).length (q4a h).length,.int .i64 (m3a h)])/\Y1a w' w.heap.size A' (q4a h)/\Below w.heap.size w w'
theorem N7b{h:Hd}(k:h.ok)(j:Nat)(hj:j<11):0<=(L8a h).getD j 0/\(L8a h).getD j 0<=18446744073709551615/\(L8a h).getD j 0<256^szs.getD j 0:=by
 have ab:=d8a k;have e2:(256:Int)^2=65536:=by decide
 have e4:(256:Int)^4=4294967296:=by decide
 have e8:(256:Int)^8=18446744073709551616:=by decide
 have k0:=k.ch;have k1:=k.st;have k2:=k.cm;have k3:=k.cr;have k4:=k.fl;have k5:=k.nx;have k6:=k.id;have k9:=k.se;refine T6a (p:=λj=>0<=(L8a h).getD j 0/\(L8a h).getD j 0<=18446744073709551615/\(L8a h).getD j 0<256^szs.getD j 0) ?_ ?_ ?_ ?_ ?_ ?_ ?_ ?_ ?_ ?_ ?_ j hj
 ·show(0:Int)<=1112364030/\(1112364030:Int)<=_/\(1112364030:Int)<256^4;omega
 ·show(0:Int)<=64/\(64:Int)<=_/\(64:Int)<256^2;omega
 ·show 0<=h.ch/\h.ch<=_/\h.ch<256^2;omega
 ·show 0<=h.st/\h.st<=_/\h.st<256^4;omega
 ·show 0<=h.cm/\h.cm<=_/\h.cm<256^2;omega
 ·show 0<=h.cr/\h.cr<=_/\h.cr<256^2;omega
 ·show 0<=h.fl/\h.fl<=_/\h.fl<256^4;omega
 ·show 0<=h.nx/\h.nx<=_/\h.nx<256^4;omega
 ·show 0<=h.id/\h.id<=_/\h.id<256^8;omega
 ·show 0<=aot h/\aot h<=_/\aot h<256^8;omega
 ·show 0<=h.se/\h.se<=_/\h.se<256^8;omega
theorem z5b(p:Nat)(h:Hd)(j:Nat):∀v∈fel p h j,v.oneCell'=true:=by intro v hv;simp only[fel,List.mem_cons,List.not_mem_nil,or_false] at hv;rcases hv with rfl | rfl | rfl | rfl<;>rfl
def O7b:List Value:=[.int .i64 0,.int .i64 0,.int .u64 0,.nilFunc]
theorem A5b:(Tryz.prog.info? 80).map (λi=>(i.zero,i.size))=some (some (.agg O7b.toArray),4):=by kernel_rfl
theorem l1b:(Tryz.prog.info? 80).map (·.size)=some 4:=by kernel_rfl
theorem Q6b(w:World)(h:Hd)(k:h.ok)(j:Nat)(hj:j<11) :
  Calls Tryz.prog 37 #[.int .u64 ((L8a h).getD j 0),.int .i64 (szs.getD j 0:Nat)] w λe w'=>∃A' er,e=.returned (.tuple #[.slice A' (szs.getD j 0) (szs.getD j 0),.int .i64 er])/\Holds w' w'.heap.size A' (szs.getD j 0) (szs.getD j 0) (le ((L8a h).getD j 0) (szs.getD j 0))/\Below w.heap.size w w':=by
 obtain⟨v0,v1,v2⟩:=N7b k j hj;have h1:=F3a j hj;have hok:V2a ((L8a h).getD j 0) (szs.getD j 0:Nat)=true:=by unfold V2a;rw[E4b j hj,Int.toNat_natCast,decide_eq_true v2];rfl
 have eo:v2a ((L8a h).getD j 0) (szs.getD j 0:Nat)=le ((L8a h).getD j 0) (szs.getD j 0):=by unfold v2a;rw[if_pos hok,Int.toNat_natCast]
 refine(g7a w ((L8a h).getD j 0) (szs.getD j 0:Nat) ⟨v0,v1⟩ (by omega)).mono ?_;rintro e w' ⟨A',rfl,hf,hb⟩;rw[eo] at hf⊢;rw[m0a];exact⟨A',_,rfl,hf.holds (m0a _ _) (F0a _ _) (by omega),hb⟩
theorem b9a(w:World)(h:Hd)(k:h.ok) :
  Calls Tryz.prog 20 #[hv h] w (z4a w h):=by
 have CM:Hid (∀w:World,Calls Tryz.prog 35 #[hv h] w λe w'=>e=.returned (.bool (c8a h))/\Below w.heap.size w w'):=λw=>M7b w h k
 have HL:=hI (I0a k);by_cases hm:c8a h=true
 ·have HQ:Hid (∀e w',(∃A',e=.returned (.tuple #[.slice A' 64 64,.int .i64 0])/\Y1a w' w.heap.size A' (M8a h)/\Below w.heap.size w w')->z4a w h e w'):=by intro e w' hh;unfold z4a q4a m3a;rw[if_pos hm,if_pos hm,D5a k.len];exact hh
  have CF:Hid (∀(w:World) (g:Nat),HB w g h->Calls Tryz.prog 36 #[.pointer (some ⟨g,0,none⟩)] w (O6a w g h)):=λw g B=>x0b w g h k B
  have CP:Hid (∀(w:World) (j:Nat),j<11->Calls Tryz.prog 37 #[.int .u64 ((L8a h).getD j 0),.int .i64 (szs.getD j 0:Nat)] w λe w'=>∃A' er,e=.returned (.tuple #[.slice A' (szs.getD j 0) (szs.getD j 0),.int .i64 er])/\Holds w' w'.heap.size A' (szs.getD j 0) (szs.getD j 0) (le ((L8a h).getD j 0) (szs.getD j 0))/\Below w.heap.size w w'):=λw j hj=>Q6b w h k j hj
  have HK:=hI k;rw[hm] at CM;obtain⟨cs,hcs⟩:∃cs,cs=q0a h:=⟨_,rfl⟩;have HC:=hI hcs;unfold hv at CM⊢;rw[<-hcs] at CM HL⊢;have ZF:=hI A5b;obtain⟨zf,hzf⟩:∃zf,zf=O7b:=⟨_,rfl⟩;have HZF:Hid (zf.length=4):=by rw[hzf];rfl
  rw[<-hzf] at ZF;clear hm k hcs hzf;go_enter Tryz.func20,Tryz.ntmps20;go_wp2_with(first
   | ((with_reducible refine sN 1 ?_);refine a0a rfl _ (.tmp 0) rfl cs rfl ?_;intro g w1 hg1 hg2 B1 L1)
   | ((with_reducible refine sN 9 ?_);refine d0a rfl _ (.tmp 1) rfl g rfl _ cs B1 26 _ Tryz.underlying28 rfl E0a HL ?_)
   | fail)
  refine(CM.out _).mono ?_;rintro e w2 ⟨rfl,L2⟩;have B2:=hI (B1.out.over L2);have L12:=hI (step L1.out L2);have hs2:=L2.size;clear B1 L1 L2 CM;go_wp2_with(first
   | (at_make;refine B1a _ rfl _ _ rfl _ _ 64 rfl rfl rfl rfl (by omega) ?_;intro w3 R3 L3)
   | fail)
  have B3:=hI (B2.out.over L3);have L13:=hI (step L12.out L3);have hs3:=L3.size;refine(CF.out _ g (HB.of HC.out B3.out)).mono ?_;rintro e w4 ⟨p,G,rfl,hp,hpG,P4,F4,L4⟩;obtain⟨gb,hgb⟩:∃gb,gb=w2.heap.size:=⟨_,rfl⟩;rw[<-hgb] at R3⊢;have R4:Hid (Row w4 gb (m0b h 0)):=by rw[G4b];exact R3.out.over L4
  have B4:Hid (Blk w4 g 28 cs):=B3.out.over L4;have F4':=hI F4;have L14:=hI (step L13.out L4);have hgb3:=R3.out.lt;have hgw:w.heap.size<=gb:=by omega
  have hgg:g<gb:=by omega
  have hbG:gb<G:=by omega
  clear P4 F4 L4 B3 B2 L13 L3 R3 L12 hp hpG hgb hgb3 hs3 hs2 CF;go_wp2_with fail;go_loopw [6,7,8,15] (λ_ _ _ i wr=>∃j:Nat,j<=11/\i=.int .i64 j/\Hid (Row wr gb (m0b h j))/\Hid (Blk wr G 80 (l5a p h))/\Hid (Blk wr g 28 cs)/\Hid (Below w.heap.size w wr)) (λ_ _ _ i _=>11-(intOf i).toNat)
  case atStart=>exact⟨0,Nat.zero_le _,rfl,R4,F4',B4,L14⟩
  case round=>
   clear R4 F4' B4 L14;obtain⟨j,hj,rfl,RR,FF,BB,LL⟩:=hrel;by_cases hlt:j<11
   ·have h1:=F3a j hlt;have hrange:=D8a FF.out j hlt;have hstep:=H4b h j hlt;have hlen:=J0b h j hj;have CPj:Hid (∀w:World,Calls Tryz.prog 37 #[.int .u64 ((L8a h).getD j 0),.int .i64 (szs.getD j 0:Nat)] w λe w'=>∃A' er,e=.returned (.tuple #[.slice A' (szs.getD j 0) (szs.getD j 0),.int .i64 er])/\Holds w' w'.heap.size A' (szs.getD j 0) (szs.getD j 0) (le ((L8a h).getD j 0) (szs.getD j 0))/\Below w.heap.size w w'):=λw=>CP.out w j hlt
    have EL:Hid ((fel p h j).length=4):=rfl;have EO:=hI (z5b p h j);have E0:Hid ((fel p h j)[0]? = some (.int .i64 (E6a.getD j 0:Nat))):=rfl;have E1:Hid ((fel p h j)[1]? = some (.int .i64 (szs.getD j 0:Nat))):=rfl;have E2:Hid ((fel p h j)[2]? = some (.int .u64 ((L8a h).getD j 0))):=rfl;obtain⟨el,hel⟩:∃el,el=fel p h j:=⟨_,rfl⟩;rw[<-hel] at EL EO E0 E1 E2 hrange;obtain⟨off,hoff⟩:∃off,off=E6a.getD j 0:=⟨_,rfl⟩;obtain⟨sz,hsz⟩:∃sz,sz=szs.getD j 0:=⟨_,rfl⟩;obtain⟨n,hn⟩:∃n,n=(L8a h).getD j 0:=⟨_,rfl⟩;rw[<-hoff] at E0 h1 hstep;rw[<-hsz] at E1 h1 hstep CPj;rw[<-hn] at E2 hstep CPj;obtain⟨_,h48,hs2,hs8⟩:=h1;obtain⟨row,hrow⟩:∃row,row=m0b h j:=⟨_,rfl⟩;rw[<-hrow] at RR hstep hlen;have RNG:=hI hrange;have HST:=hI hstep;have HLN:=hI hlen;have hgbl:=RR.out.lt;have hgl:=BB.out.lt;have hGl:=FF.out.lt;have hwl:=LL.out.size;clear hel hoff hsz hn hrow hrange hstep hlen CP;go_wp2_with(first
     | ((with_reducible refine sN 18 ?_);refine wpList_load_mid rfl _ (.tmp 17) rfl G (j*4) rfl el _ RNG.out Tryz.underlying80 rfl (by rw[l1b,EL.out]) ?_)
     | ((with_reducible refine sN 6 ?_);refine b0a rfl _ rfl zf _ ZF ?_;intro f w5 hf1 hf2 X5 L5)
     | ((with_reducible refine sT 6 ?_);refine e0a rfl _ (.tmp 6) (.tmp 18) rfl f rfl _ zf el rfl X5 4 l1b HZF EL EO ?_;intro w6 X6 O6 hf3;have gc2:=(X6.out.cell 2).trans E2.out;have gc1:=(X6.out.cell 1).trans E1.out)
     | fail)
    refine(CPj.out _).mono ?_;rintro e w7 ⟨A',er,rfl,hh,L7⟩;have gc0:=((X6.out.over L7).cell 0).trans E0.out;have L6:Hid (Below wr.heap.size wr w6):=c0a L5.out O6.out hf1;have L67:Hid (Below wr.heap.size wr w7):=step L6.out L7;have R7:Hid (Blk w7 gb 5 (row.map (Value.int .u8))):=RR.out.over L67.out;have F7:Hid (Blk w7 G 80 (l5a p h)):=FF.out.over L67.out;have B7:Hid (Blk w7 g 28 cs):=BB.out.over L67.out;have L77:=hI (step LL.out L67.out);have HFIT:Hid (off+sz<=(row.map (Value.int .u8)).length):=by show _<=_;rw[List.length_map,HLN.out];omega
    have HLE:Hid ((le n sz).length=sz):=m0a _ _;obtain⟨xs,hxs⟩:∃xs,xs=le n sz:=⟨_,rfl⟩;rw[<-hxs] at hh HST HLE;clear RR FF BB LL L5 O6 L6 L67 L7 X5 X6 gc2 gc1 RNG hxs CPj;go_wp2_with(first
     | ((with_reducible refine sN 32 ?_);refine n9a rfl (.tmp 30) (.tmp 31) rfl gb off 5 (64-off) (64-off) sz sz A' (by first | rfl | (show Value.slice _ _ _=_;simp[Addr.add_mid])) rfl _ xs _ R7 hh (by omega) (by omega) HFIT ?_;intro w8 R8 O8)
     | fail)
    have R8':Hid (Row w8 gb (m0b h (j+1))):=by have:=R8.out;rw[o9a,HLE.out,HST.out] at this;exact this
    have F8:Hid (Blk w8 G 80 (l5a p h)):=F7.out.only O8.out (by omega);have B8:Hid (Blk w8 g 28 cs):=B7.out.only O8.out (by omega);have L8:Hid (Below w.heap.size w w8):=c0a L77.out O8.out (by omega);clear R8 R7 F7 B7 L77 O8;go_roundw
    case rel=>exact⟨j+1,by omega,by go_num,R8',F8,B8,L8⟩
    case measure=>simp[intOf];omega
   ·obtain rfl:j=11:=by omega
    have RRd:Hid (Blk wr.drew gb 5 ((m0b h 11).map (Value.int .u8))):=RR.out;have BBd:HB wr.drew g h:=HB.of HC.out BB.out;have SG:=hI (BBd.sig HK.out);have LLd:Hid (Below w.heap.size w wr.drew):=LL.out.drew;have HFIT:Hid (48+16<=((m0b h 11).map (Value.int .u8)).length):=by show _<=_;rw[List.length_map,J0b h 11 (by omega)];omega
    have HE:Hid ((m0b h 11).take 48++h.sg++(m0b h 11).drop (48+h.sg.length)=M8a h):=by show _=_;rw[HK.out.len];exact I4b h
    obtain⟨row,hrow⟩:∃row,row=m0b h 11:=⟨_,rfl⟩;rw[<-hrow] at RRd HFIT HE;clear hrow RR FF BB LL BBd hj;go_upto_region 10 with fail
    go_region_law ((refine E7a rfl (.tmp 35) (.tmp 37) rfl gb 48 5 16 16 16 16 (some ⟨g,10,none⟩) rfl rfl _ h.sg _ RRd SG.out (by decide) (by decide) HFIT ?_;intro w5 R5 O5));go_wp2;go_ret2;refine HQ.out _ _ ⟨_,rfl,.inr ⟨gb,rfl,hgw,?_⟩,c0a LLd.out O5.out hgw⟩;have:=R5.out;rw[o9a,HE.out] at this;exact this
 ·have hm':c8a h=false:=by simpa using hm
  have HQ:Hid (∀e w',(e=.returned (.tuple #[.slice none 0 0,.int .i64 2])/\Below w.heap.size w w')->z4a w h e w'):=by rintro e w' ⟨rfl,hb⟩;unfold z4a q4a m3a;rw[if_neg hm,if_neg hm];exact⟨none,rfl,.inl ⟨rfl,rfl⟩,hb⟩
  rw[hm'] at CM;obtain⟨cs,hcs⟩:∃cs,cs=q0a h:=⟨_,rfl⟩;unfold hv at CM⊢;rw[<-hcs] at CM HL⊢;clear hm hm' k hcs;go_enter Tryz.func20,Tryz.ntmps20;go_wp2_with(first
   | ((with_reducible refine sN 1 ?_);refine a0a rfl _ (.tmp 0) rfl cs rfl ?_;intro g w1 hg1 hg2 B1 L1)
   | ((with_reducible refine sN 9 ?_);refine d0a rfl _ (.tmp 1) rfl g rfl _ cs B1 26 _ Tryz.underlying28 rfl E0a HL ?_)
   | fail)
  refine(CM.out _).mono ?_;rintro e w2 ⟨rfl,L2⟩;go_wp2;go_ret2;exact HQ.out _ _ ⟨rfl,step L1.out L2⟩
theorem H2a.over{w w' w2:World}{g:Nat}(a:H2a g w w')(hb:Below w'.heap.size w' w2):H2a g w w2:=a.trans (H2a.of_below hb g)
theorem B5b(w:World)(p g:Nat)(h:Hd)(n:Int)(k:h.ok)(hn0:0<=n)(hn1:n<=65535)(B:HB w g h)(Pp:Blk w p 77 [.pointer (some ⟨g,0,none⟩)]) :
  Calls Tryz.prog 68 #[.int .u64 n,.pointer (some ⟨p,0,none⟩)] w λe w'=>e=.returned (.tuple #[])/\HB w' g { h with ch:=n }/\H2a g w w':=by
 have hw:IntKind.u16.wrap n=n:=by rw[IntKind.wrap_u16];omega
 have gp:=Pp.cell 0;have HL:=hI (I0a k);have HE:Hid ((q0a h).set 0 (.int .u16 n)=q0a { h with ch:=n }):=rfl;obtain⟨cs,hcs⟩:∃cs,cs=q0a h:=⟨_,rfl⟩;obtain⟨ds,hds⟩:∃ds,ds=q0a { h with ch:=n }:=⟨_,rfl⟩;have HD:=hI hds;have BB:Hid (Blk w g 28 cs):=by rw[hcs];exact B
 rw[<-hcs,<-hds] at HE;rw[<-hcs] at HL;clear hcs hds B Pp k;go_enter Tryz.func68,Tryz.ntmps68;go_wp2_with(((with_reducible refine sT 7 ?_);refine h0a rfl _ (.tmp 7) (.tmp 5) rfl g 0 rfl _ cs (.int .u16 n) rfl BB (by have:=HL.out;show 0<_;omega) (by kernel_rfl) rfl ?_;intro w1 B1 O1 hg1;rw[HE.out] at B1));go_end0;exact⟨rfl,HB.of HD.out B1.out,H2a.of_only O1.out⟩
theorem C5b(w:World)(p g:Nat)(h:Hd)(n:Int)(k:h.ok)(hn0:0<=n)(hn1:n<=4294967295)(B:HB w g h)(Pp:Blk w p 77 [.pointer (some ⟨g,0,none⟩)]) :
  Calls Tryz.prog 69 #[.int .u64 n,.pointer (some ⟨p,0,none⟩)] w λe w'=>e=.returned (.tuple #[])/\HB w' g { h with st:=n }/\H2a g w w':=by
 have hw:IntKind.u32.wrap n=n:=by rw[IntKind.wrap_u32'];omega
 have gp:=Pp.cell 0;have HL:=hI (I0a k);have HE:Hid ((q0a h).set 1 (.int .u32 n)=q0a { h with st:=n }):=rfl;obtain⟨cs,hcs⟩:∃cs,cs=q0a h:=⟨_,rfl⟩;obtain⟨ds,hds⟩:∃ds,ds=q0a { h with st:=n }:=⟨_,rfl⟩;have HD:=hI hds;have BB:Hid (Blk w g 28 cs):=by rw[hcs];exact B
 rw[<-hcs,<-hds] at HE;rw[<-hcs] at HL;clear hcs hds B Pp k;go_enter Tryz.func69,Tryz.ntmps69;go_wp2_with(((with_reducible refine sT 7 ?_);refine h0a rfl _ (.tmp 7) (.tmp 5) rfl g 1 rfl _ cs (.int .u32 n) rfl BB (by have:=HL.out;show 1<_;omega) (by kernel_rfl) rfl ?_;intro w1 B1 O1 hg1;rw[HE.out] at B1));go_end0;exact⟨rfl,HB.of HD.out B1.out,H2a.of_only O1.out⟩
theorem D5b(w:World)(p g:Nat)(h:Hd)(n:Int)(k:h.ok)(hn0:0<=n)(hn1:n<=65535)(B:HB w g h)(Pp:Blk w p 77 [.pointer (some ⟨g,0,none⟩)]) :
  Calls Tryz.prog 70 #[.int .u64 n,.pointer (some ⟨p,0,none⟩)] w λe w'=>e=.returned (.tuple #[])/\HB w' g { h with cm:=n }/\H2a g w w':=by
 have hw:IntKind.u16.wrap n=n:=by rw[IntKind.wrap_u16];omega
 have gp:=Pp.cell 0;have HL:=hI (I0a k);have HE:Hid ((q0a h).set 2 (.int .u16 n)=q0a { h with cm:=n }):=rfl;obtain⟨cs,hcs⟩:∃cs,cs=q0a h:=⟨_,rfl⟩;obtain⟨ds,hds⟩:∃ds,ds=q0a { h with cm:=n }:=⟨_,rfl⟩;have HD:=hI hds;have BB:Hid (Blk w g 28 cs):=by rw[hcs];exact B
 rw[<-hcs,<-hds] at HE;rw[<-hcs] at HL;clear hcs hds B Pp k;go_enter Tryz.func70,Tryz.ntmps70;go_wp2_with(((with_reducible refine sT 7 ?_);refine h0a rfl _ (.tmp 7) (.tmp 5) rfl g 2 rfl _ cs (.int .u16 n) rfl BB (by have:=HL.out;show 2<_;omega) (by kernel_rfl) rfl ?_;intro w1 B1 O1 hg1;rw[HE.out] at B1));go_end0;exact⟨rfl,HB.of HD.out B1.out,H2a.of_only O1.out⟩
theorem E5b(w:World)(p g:Nat)(h:Hd)(n:Int)(k:h.ok)(hn0:0<=n)(hn1:n<=65535)(B:HB w g h)(Pp:Blk w p 77 [.pointer (some ⟨g,0,none⟩)]) :
  Calls Tryz.prog 71 #[.int .u64 n,.pointer (some ⟨p,0,none⟩)] w λe w'=>e=.returned (.tuple #[])/\HB w' g { h with cr:=n }/\H2a g w w':=by
 have hw:IntKind.u16.wrap n=n:=by rw[IntKind.wrap_u16];omega
 have gp:=Pp.cell 0;have HL:=hI (I0a k);have HE:Hid ((q0a h).set 3 (.int .u16 n)=q0a { h with cr:=n }):=rfl;obtain⟨cs,hcs⟩:∃cs,cs=q0a h:=⟨_,rfl⟩;obtain⟨ds,hds⟩:∃ds,ds=q0a { h with cr:=n }:=⟨_,rfl⟩;have HD:=hI hds;have BB:Hid (Blk w g 28 cs):=by rw[hcs];exact B
 rw[<-hcs,<-hds] at HE;rw[<-hcs] at HL;clear hcs hds B Pp k;go_enter Tryz.func71,Tryz.ntmps71;go_wp2_with(((with_reducible refine sT 7 ?_);refine h0a rfl _ (.tmp 7) (.tmp 5) rfl g 3 rfl _ cs (.int .u16 n) rfl BB (by have:=HL.out;show 3<_;omega) (by kernel_rfl) rfl ?_;intro w1 B1 O1 hg1;rw[HE.out] at B1));go_end0;exact⟨rfl,HB.of HD.out B1.out,H2a.of_only O1.out⟩
theorem F5b(w:World)(p g:Nat)(h:Hd)(n:Int)(k:h.ok)(hn0:0<=n)(hn1:n<=4294967295)(B:HB w g h)(Pp:Blk w p 77 [.pointer (some ⟨g,0,none⟩)]) :
  Calls Tryz.prog 72 #[.int .u64 n,.pointer (some ⟨p,0,none⟩)] w λe w'=>e=.returned (.tuple #[])/\HB w' g { h with fl:=n }/\H2a g w w':=by
 have hw:IntKind.u32.wrap n=n:=by rw[IntKind.wrap_u32'];omega
 have gp:=Pp.cell 0;have HL:=hI (I0a k);have HE:Hid ((q0a h).set 4 (.int .u32 n)=q0a { h with fl:=n }):=rfl;obtain⟨cs,hcs⟩:∃cs,cs=q0a h:=⟨_,rfl⟩;obtain⟨ds,hds⟩:∃ds,ds=q0a { h with fl:=n }:=⟨_,rfl⟩;have HD:=hI hds;have BB:Hid (Blk w g 28 cs):=by rw[hcs];exact B
 rw[<-hcs,<-hds] at HE;rw[<-hcs] at HL;clear hcs hds B Pp k;go_enter Tryz.func72,Tryz.ntmps72;go_wp2_with(((with_reducible refine sT 7 ?_);refine h0a rfl _ (.tmp 7) (.tmp 5) rfl g 4 rfl _ cs (.int .u32 n) rfl BB (by have:=HL.out;show 4<_;omega) (by kernel_rfl) rfl ?_;intro w1 B1 O1 hg1;rw[HE.out] at B1));go_end0;exact⟨rfl,HB.of HD.out B1.out,H2a.of_only O1.out⟩
theorem G5b(w:World)(p g:Nat)(h:Hd)(n:Int)(k:h.ok)(hn0:0<=n)(hn1:n<=4294967295)(B:HB w g h)(Pp:Blk w p 77 [.pointer (some ⟨g,0,none⟩)]) :
  Calls Tryz.prog 73 #[.int .u64 n,.pointer (some ⟨p,0,none⟩)] w λe w'=>e=.returned (.tuple #[])/\HB w' g { h with nx:=n }/\H2a g w w':=by
 have hw:IntKind.u32.wrap n=n:=by rw[IntKind.wrap_u32'];omega
 have gp:=Pp.cell 0;have HL:=hI (I0a k);have HE:Hid ((q0a h).set 5 (.int .u32 n)=q0a { h with nx:=n }):=rfl;obtain⟨cs,hcs⟩:∃cs,cs=q0a h:=⟨_,rfl⟩;obtain⟨ds,hds⟩:∃ds,ds=q0a { h with nx:=n }:=⟨_,rfl⟩;have HD:=hI hds;have BB:Hid (Blk w g 28 cs):=by rw[hcs];exact B
 rw[<-hcs,<-hds] at HE;rw[<-hcs] at HL;clear hcs hds B Pp k;go_enter Tryz.func73,Tryz.ntmps73;go_wp2_with(((with_reducible refine sT 7 ?_);refine h0a rfl _ (.tmp 7) (.tmp 5) rfl g 5 rfl _ cs (.int .u32 n) rfl BB (by have:=HL.out;show 5<_;omega) (by kernel_rfl) rfl ?_;intro w1 B1 O1 hg1;rw[HE.out] at B1));go_end0;exact⟨rfl,HB.of HD.out B1.out,H2a.of_only O1.out⟩
theorem H5b(w:World)(p g:Nat)(h:Hd)(n:Int)(k:h.ok)(_:0<=n)(_:n<=18446744073709551615)(B:HB w g h)(Pp:Blk w p 77 [.pointer (some ⟨g,0,none⟩)]) :
  Calls Tryz.prog 74 #[.int .u64 n,.pointer (some ⟨p,0,none⟩)] w λe w'=>e=.returned (.tuple #[])/\HB w' g { h with id:=n }/\H2a g w w':=by
 have gp:=Pp.cell 0;have HL:=hI (I0a k);have HE:Hid ((q0a h).set 6 (.int .u64 n)=q0a { h with id:=n }):=rfl;obtain⟨cs,hcs⟩:∃cs,cs=q0a h:=⟨_,rfl⟩;obtain⟨ds,hds⟩:∃ds,ds=q0a { h with id:=n }:=⟨_,rfl⟩;have HD:=hI hds;have BB:Hid (Blk w g 28 cs):=by rw[hcs];exact B
 rw[<-hcs,<-hds] at HE;rw[<-hcs] at HL;clear hcs hds B Pp k;go_enter Tryz.func74,Tryz.ntmps74;go_wp2_with(((with_reducible refine sT 6 ?_);refine h0a rfl _ (.tmp 6) (.tmp 4) rfl g 6 rfl _ cs (.int .u64 n) rfl BB (by have:=HL.out;show 6<_;omega) (by kernel_rfl) rfl ?_;intro w1 B1 O1 hg1;rw[HE.out] at B1));go_end0;exact⟨rfl,HB.of HD.out B1.out,H2a.of_only O1.out⟩
theorem h4b(w:World)(p g:Nat)(h:Hd)(n:Int)(k:h.ok)(_:0<=n)(_:n<=18446744073709551615)(B:HB w g h)(Pp:Blk w p 77 [.pointer (some ⟨g,0,none⟩)]) :
  Calls Tryz.prog 78 #[.int .u64 n,.pointer (some ⟨p,0,none⟩)] w λe w'=>e=.returned (.tuple #[])/\HB w' g { h with se:=n }/\H2a g w w':=by
 have gp:=Pp.cell 0;have HL:=hI (I0a k);have HE:Hid ((q0a h).set 9 (.int .u64 n)=q0a { h with se:=n }):=rfl;obtain⟨cs,hcs⟩:∃cs,cs=q0a h:=⟨_,rfl⟩;obtain⟨ds,hds⟩:∃ds,ds=q0a { h with se:=n }:=⟨_,rfl⟩;have HD:=hI hds;have BB:Hid (Blk w g 28 cs):=by rw[hcs];exact B
 rw[<-hcs,<-hds] at HE;rw[<-hcs] at HL;clear hcs hds B Pp k;go_enter Tryz.func78,Tryz.ntmps78;go_wp2_with(((with_reducible refine sT 6 ?_);refine h0a rfl _ (.tmp 6) (.tmp 4) rfl g 9 rfl _ cs (.int .u64 n) rfl BB (by have:=HL.out;show 9<_;omega) (by kernel_rfl) rfl ?_;intro w1 B1 O1 hg1;rw[HE.out] at B1));go_end0;exact⟨rfl,HB.of HD.out B1.out,H2a.of_only O1.out⟩
theorem X1b(w:World)(n:Int):Calls Tryz.prog 67 #[.int .u64 n] w λe w'=>e=.returned (.tuple #[])/\w=w':=by go_enter Tryz.func67,Tryz.ntmps67;go_wp2;go_end0;exact⟨rfl,rfl⟩
def Y1b(n:Int)(h:Hd):Hd:=if h4a h.fl=true then { h with asy:=n } else { h with tr:=n/4294967296 }
theorem i4b(w:World)(g:Nat)(h:Hd)(n:Int)(k:h.ok)(hn0:0<=n)(hn1:n<=18446744073709551615)(B:HB w g h) :
  Calls Tryz.prog 77 #[.pointer (some ⟨g,0,none⟩),.int .u64 n] w λe w'=>e=.returned (.tuple #[])/\HB w' g (Y1b n h)/\H2a g w w':=by
 have C0:Hid (∀w:World,Calls Tryz.prog 106 #[hv h] w λe w'=>e=.returned (.bool (h4a h.fl))/\Below w.heap.size w w'):=λw=>s7a w h k
 have hw:IntKind.u32.wrap (n/4294967296)=n/4294967296:=by rw[IntKind.wrap_u32'];omega
 have HL:=hI (I0a k);have h7:h4a h.fl=true->(q0a h).set 7 (.int .u64 n)=q0a (Y1b n h):=λhi=>by unfold Y1b;rw[if_pos hi];rfl
 have h8:h4a h.fl=false->(q0a h).set 8 (.int .u32 (n/4294967296))=q0a (Y1b n h):=λhi=>by unfold Y1b;rw[if_neg (by rw[hi];decide)];rfl
 obtain⟨cs,hcs⟩:∃cs,cs=q0a h:=⟨_,rfl⟩;obtain⟨ds,hds⟩:∃ds,ds=q0a (Y1b n h):=⟨_,rfl⟩;have HD:=hI hds;have BB:Hid (Blk w g 28 cs):=by rw[hcs];exact B
 unfold hv at C0;rw[<-hcs] at HL C0 h7 h8;rw[<-hds] at h7 h8;clear hcs hds B k;by_cases hi:h4a h.fl=true
 ·rw[hi] at C0;have HE:=hI (h7 hi);clear hi h7 h8;go_enter Tryz.func77,Tryz.ntmps77;go_wp2_with(first
   | ((with_reducible refine sN 6 ?_);refine d0a rfl _ (.tmp 5) rfl g rfl _ cs BB 26 _ Tryz.underlying28 rfl E0a HL ?_)
   | fail)
  refine(C0.out _).mono ?_;rintro e w2 ⟨rfl,L2⟩;have B2:=hI (BB.out.over L2);go_wp2_with(((with_reducible refine sT 11 ?_);refine h0a rfl _ (.tmp 11) (.tmp 9) rfl g 7 rfl _ cs (.int .u64 n) rfl B2 (by have:=HL.out;show 7<_;omega) (by kernel_rfl) rfl ?_;intro w3 B3 O3 hg3;rw[HE.out] at B3));go_end0;exact⟨rfl,HB.of HD.out B3.out,(H2a.of_below L2 g).trans (H2a.of_only O3.out)⟩
 ·have hi':h4a h.fl=false:=by simpa using hi
  rw[hi'] at C0;have HE:=hI (h8 hi');clear hi hi' h7 h8;go_enter Tryz.func77,Tryz.ntmps77;go_wp2_with(first
   | ((with_reducible refine sN 6 ?_);refine d0a rfl _ (.tmp 5) rfl g rfl _ cs BB 26 _ Tryz.underlying28 rfl E0a HL ?_)
   | fail)
  refine(C0.out _).mono ?_;rintro e w2 ⟨rfl,L2⟩;have B2:=hI (BB.out.over L2);go_wp2_with(((with_reducible refine sT 17 ?_);refine h0a rfl _ (.tmp 17) (.tmp 15) rfl g 8 rfl _ cs (.int .u32 (n/4294967296)) rfl B2 (by have:=HL.out;show 8<_;omega) (by kernel_rfl) rfl ?_;intro w3 B3 O3 hg3;rw[HE.out] at B3));go_end0;exact⟨rfl,HB.of HD.out B3.out,(H2a.of_below L2 g).trans (H2a.of_only O3.out)⟩
theorem I5b(w:World)(p g:Nat)(h:Hd)(n:Int)(k:h.ok)(hn0:0<=n)(hn1:n<=18446744073709551615)(B:HB w g h)(Pp:Blk w p 77 [.pointer (some ⟨g,0,none⟩)]) :
  Calls Tryz.prog 76 #[.int .u64 n,.pointer (some ⟨p,0,none⟩)] w λe w'=>e=.returned (.tuple #[])/\HB w' g (Y1b n h)/\H2a g w w':=by
 have C0:=hI (i4b w g h n k hn0 hn1 B);have gp:=Pp.cell 0;clear B Pp k;go_enter Tryz.func76,Tryz.ntmps76;go_wp2_with fail;refine C0.out.mono ?_;rintro e w2 ⟨rfl,B2,S2⟩;go_wp2;go_end0;exact⟨rfl,B2,S2⟩
theorem J5b{j:Nat}(a b:Value)(h:j<2):(#[a]++(if j<2 then #[] else #[b]))=#[a]:=by rw[if_pos h];rfl
theorem P5a{j:Nat}(a b:Value)(h:¬j<2):(#[a]++(if j<2 then #[] else #[b]))=#[a,b]:=by rw[if_neg h];rfl
def R4a(w:World)(p g:Nat)(h:Hd)(n:Int)(j:Nat):Prop:=Calls Tryz.prog (fnk j) (#[.int .u64 n]++(if j<2 then #[] else #[.pointer (some ⟨p,0,none⟩)])) w λe w'=>e=.returned (.tuple #[])/\HB w' g (z1b j n h)/\H2a g w w'
theorem E8b(w:World)(p g:Nat)(h:Hd)(n:Int)(B:HB w g h):R4a w p g h n 0:=by unfold R4a;rw[J5b _ _ (by decide),show fnk 0=67 from rfl,show z1b 0 n h=h from rfl];exact(X1b w n).mono λe w' ⟨he,hw⟩=>⟨he,hw▸B,hw▸H2a.refl _ _⟩
theorem F8b(w:World)(p g:Nat)(h:Hd)(n:Int)(B:HB w g h):R4a w p g h n 1:=by unfold R4a;rw[J5b _ _ (by decide),show fnk 1=67 from rfl,show z1b 1 n h=h from rfl];exact(X1b w n).mono λe w' ⟨he,hw⟩=>⟨he,hw▸B,hw▸H2a.refl _ _⟩
theorem G8b(w:World)(p g:Nat)(h:Hd)(n:Int)(k:h.ok)(hn0:0<=n)(hn1:n<256^2)(B:HB w g h)(Pp:Blk w p 77 [.pointer (some ⟨g,0,none⟩)]):R4a w p g h n 2:=by
 unfold R4a;rw[P5a _ _ (by decide),show fnk 2=68 from rfl,show z1b 2 n h={ h with ch:=n } from rfl];have e:(256:Int)^2=65536:=by decide
 exact B5b w p g h n k hn0 (by omega) B Pp
theorem H8b(w:World)(p g:Nat)(h:Hd)(n:Int)(k:h.ok)(hn0:0<=n)(hn1:n<256^4)(B:HB w g h)(Pp:Blk w p 77 [.pointer (some ⟨g,0,none⟩)]):R4a w p g h n 3:=by
 unfold R4a;rw[P5a _ _ (by decide),show fnk 3=69 from rfl,show z1b 3 n h={ h with st:=n } from rfl];have e:(256:Int)^4=4294967296:=by decide
 exact C5b w p g h n k hn0 (by omega) B Pp
theorem I8b(w:World)(p g:Nat)(h:Hd)(n:Int)(k:h.ok)(hn0:0<=n)(hn1:n<256^2)(B:HB w g h)(Pp:Blk w p 77 [.pointer (some ⟨g,0,none⟩)]):R4a w p g h n 4:=by
 unfold R4a;rw[P5a _ _ (by decide),show fnk 4=70 from rfl,show z1b 4 n h={ h with cm:=n } from rfl];have e:(256:Int)^2=65536:=by decide
 exact D5b w p g h n k hn0 (by omega) B Pp
theorem J8b(w:World)(p g:Nat)(h:Hd)(n:Int)(k:h.ok)(hn0:0<=n)(hn1:n<256^2)(B:HB w g h)(Pp:Blk w p 77 [.pointer (some ⟨g,0,none⟩)]):R4a w p g h n 5:=by
 unfold R4a;rw[P5a _ _ (by decide),show fnk 5=71 from rfl,show z1b 5 n h={ h with cr:=n } from rfl];have e:(256:Int)^2=65536:=by decide
 exact E5b w p g h n k hn0 (by omega) B Pp
theorem K8b(w:World)(p g:Nat)(h:Hd)(n:Int)(k:h.ok)(hn0:0<=n)(hn1:n<256^4)(B:HB w g h)(Pp:Blk w p 77 [.pointer (some ⟨g,0,none⟩)]):R4a w p g h n 6:=by
 unfold R4a;rw[P5a _ _ (by decide),show fnk 6=72 from rfl,show z1b 6 n h={ h with fl:=n } from rfl];have e:(256:Int)^4=4294967296:=by decide
 exact F5b w p g h n k hn0 (by omega) B Pp
theorem L8b(w:World)(p g:Nat)(h:Hd)(n:Int)(k:h.ok)(hn0:0<=n)(hn1:n<256^4)(B:HB w g h)(Pp:Blk w p 77 [.pointer (some ⟨g,0,none⟩)]):R4a w p g h n 7:=by
 unfold R4a;rw[P5a _ _ (by decide),show fnk 7=73 from rfl,show z1b 7 n h={ h with nx:=n } from rfl];have e:(256:Int)^4=4294967296:=by decide
 exact G5b w p g h n k hn0 (by omega) B Pp
theorem M8b(w:World)(p g:Nat)(h:Hd)(n:Int)(k:h.ok)(hn0:0<=n)(hn1:n<256^8)(B:HB w g h)(Pp:Blk w p 77 [.pointer (some ⟨g,0,none⟩)]):R4a w p g h n 8:=by
 unfold R4a;rw[P5a _ _ (by decide),show fnk 8=74 from rfl,show z1b 8 n h={ h with id:=n } from rfl];have e:(256:Int)^8=18446744073709551616:=by decide
 exact H5b w p g h n k hn0 (by omega) B Pp
theorem N8b(w:World)(p g:Nat)(h:Hd)(n:Int)(k:h.ok)(hn0:0<=n)(hn1:n<256^8)(B:HB w g h)(Pp:Blk w p 77 [.pointer (some ⟨g,0,none⟩)]):R4a w p g h n 9:=by
 unfold R4a;rw[P5a _ _ (by decide),show fnk 9=76 from rfl,show z1b 9 n h=Y1b n h from rfl];have e:(256:Int)^8=18446744073709551616:=by decide
 exact I5b w p g h n k hn0 (by omega) B Pp
theorem P7b(w:World)(p g:Nat)(h:Hd)(n:Int)(k:h.ok)(hn0:0<=n)(hn1:n<256^8)(B:HB w g h)(Pp:Blk w p 77 [.pointer (some ⟨g,0,none⟩)]):R4a w p g h n 10:=by
 unfold R4a;rw[P5a _ _ (by decide),show fnk 10=78 from rfl,show z1b 10 n h={ h with se:=n } from rfl];have e:(256:Int)^8=18446744073709551616:=by decide
 exact h4b w p g h n k hn0 (by omega) B Pp
theorem K5b(w:World)(p g:Nat)(h:Hd)(n:Int)(k:h.ok)(j:Nat)(hj:j<11)(hn0:0<=n)(hn1:n<256^szs.getD j 0)(B:HB w g h)(Pp:Blk w p 77 [.pointer (some ⟨g,0,none⟩)]):R4a w p g h n j:=by
 match j,hj,hn1 with
 | 0,_,_=>exact E8b w p g h n B
 | 1,_,_=>exact F8b w p g h n B
 | 2,_,hn1=>exact G8b w p g h n k hn0 hn1 B Pp
 | 3,_,hn1=>exact H8b w p g h n k hn0 hn1 B Pp
 | 4,_,hn1=>exact I8b w p g h n k hn0 hn1 B Pp
 | 5,_,hn1=>exact J8b w p g h n k hn0 hn1 B Pp
 | 6,_,hn1=>exact K8b w p g h n k hn0 hn1 B Pp
 | 7,_,hn1=>exact L8b w p g h n k hn0 hn1 B Pp
 | 8,_,hn1=>exact M8b w p g h n k hn0 hn1 B Pp
 | 9,_,hn1=>exact N8b w p g h n k hn0 hn1 B Pp
 | 10,_,hn1=>exact P7b w p g h n k hn0 hn1 B Pp
theorem Q7b{h:Hd}(k:h.ok)(j:Nat)(hj:j<11)(n:Int)(hn0:0<=n)(hn1:n<256^szs.getD j 0):(z1b j n h).ok:=by
 have e2:(256:Int)^2=65536:=by decide
 have e4:(256:Int)^4=4294967296:=by decide
 have e8:(256:Int)^8=18446744073709551616:=by decide
 revert hn1;refine T6a (p:=λj=>n<256^szs.getD j 0->(z1b j n h).ok) ?_ ?_ ?_ ?_ ?_ ?_ ?_ ?_ ?_ ?_ ?_ j hj<;>intro hn1
 ·exact k
 ·exact k
 ·change n<256^2 at hn1;exact⟨by show 0<=n/\n<=_;omega,k.st,k.cm,k.cr,k.fl,k.nx,k.id,k.asy,k.tr,k.se,k.len,k.byte⟩
 ·change n<256^4 at hn1;exact⟨k.ch,by show 0<=n/\n<=_;omega,k.cm,k.cr,k.fl,k.nx,k.id,k.asy,k.tr,k.se,k.len,k.byte⟩
 ·change n<256^2 at hn1;exact⟨k.ch,k.st,by show 0<=n/\n<=_;omega,k.cr,k.fl,k.nx,k.id,k.asy,k.tr,k.se,k.len,k.byte⟩
 ·change n<256^2 at hn1;exact⟨k.ch,k.st,k.cm,by show 0<=n/\n<=_;omega,k.fl,k.nx,k.id,k.asy,k.tr,k.se,k.len,k.byte⟩
 ·change n<256^4 at hn1;exact⟨k.ch,k.st,k.cm,k.cr,by show 0<=n/\n<=_;omega,k.nx,k.id,k.asy,k.tr,k.se,k.len,k.byte⟩
 ·change n<256^4 at hn1;exact⟨k.ch,k.st,k.cm,k.cr,k.fl,by show 0<=n/\n<=_;omega,k.id,k.asy,k.tr,k.se,k.len,k.byte⟩
 ·change n<256^8 at hn1;exact⟨k.ch,k.st,k.cm,k.cr,k.fl,k.nx,by show 0<=n/\n<=_;omega,k.asy,k.tr,k.se,k.len,k.byte⟩
 ·change n<256^8 at hn1
  show(if h4a h.fl=true then { h with asy:=n } else { h with tr:=n/4294967296 }).ok
  split
  ·exact⟨k.ch,k.st,k.cm,k.cr,k.fl,k.nx,k.id,by show 0<=n/\n<=_;omega,k.tr,k.se,k.len,k.byte⟩
  ·exact⟨k.ch,k.st,k.cm,k.cr,k.fl,k.nx,k.id,k.asy,by show 0<=n/4294967296/\n/4294967296<=_;omega,k.se,k.len,k.byte⟩
 ·change n<256^8 at hn1;exact⟨k.ch,k.st,k.cm,k.cr,k.fl,k.nx,k.id,k.asy,k.tr,by show 0<=n/\n<=_;omega,k.len,k.byte⟩
theorem O8b(xs:List Int)(hx:Bytes xs)(j:Nat)(hj:j<=11):(tk xs j).ok:=by
 induction j with
 | zero=>exact o3a
 | succ j ih=>have:=J4b xs hx j;exact Q7b (ih (by omega)) j (by omega) _ this.1 this.2
end Go.Proofs.YtgfflnjggnadpaaGreatDoor
