import Derived.Shelf.Bytes.SlSearch0
import Derived.Shelf.Bytes.SlEqualAll
import Derived.Test.YtjpcifmeimcikaaGreatDoorSAD
import Derived.Test.YtjpcifmeimcikaaGreatDoorSAI
import Derived.Test.YtjpcifmeimcikaaGreatDoorSAK
import Derived.Test.YtjpcifmeimcikaaGreatDoorSAL
import Derived.Test.YtjpcifmeimcikaaGreatDoorS0
set_option linter.all false
set_option maxHeartbeats 8000000
set_option maxRecDepth 100000
namespace Go.Proofs.YtjpcifmeimcikaaGreatDoor
open Go.Proofs.Tryz
open Go.RowKit
set_option maxRecDepth 100000
theorem b9a(g:Nat)(w:World):(Instr.fieldAt 156 (.pointer (some ⟨g,0,none⟩)) 0).run prog w=.ok (.pointer (some ⟨g,0,none⟩)) w:=by go_simp
theorem c9a(g:Nat)(w:World):(Instr.fieldAt 156 (.pointer (some ⟨g,0,none⟩)) 1).run prog w=.ok (.pointer (some ⟨g,1,none⟩)) w:=by go_simp
def PI(w:World)(g B:Nat)(A:Option Addr)(n c:Nat)(xs:List Int)(r:Rd):Prop:=r.p<=n/\B<=g/\Blk w g 156 [.slice A n c,.int .i64 r.p,.int .i64 r.e]/\Holds w B A n c xs
def w3a(w:World)(g B:Nat)(A:Option Addr)(n c:Nat)(xs:List Int)(v:Value)(r:Rd)(e:Ending)(w':World):Prop:=e=.returned v/\PI w' g B A n c xs r/\W0a g w w'
section
variable {w w':World} {g g' B:Nat} {A:Option Addr} {n c:Nat} {xs:List Int} {r:Rd} {p:Nat} {er:Int}
theorem PI.lt(h:PI w g B A n c xs r):g<w.heap.size:=h.2.2.1.lt
theorem PI.c0(h:PI w g B A n c xs r):w.cell? ⟨g,0,none⟩=some (.slice A n c):=h.2.2.1.at rfl
theorem PI.c1(h:PI w g B A n c xs ⟨p,er⟩):w.cell? ⟨g,1,none⟩=some (.int .i64 (p:Int)):=h.2.2.1.at rfl
theorem PI.c2(h:PI w g B A n c xs ⟨p,er⟩):w.cell? ⟨g,2,none⟩=some (.int .i64 er):=h.2.2.1.at rfl
theorem PI.fz(h:PI w g B A n c xs r)(i:Nat):w.frozen? ⟨g,i,none⟩=false:=h.2.2.1.frozen i
theorem PI.setE(h:PI w g B A n c xs ⟨p,er⟩)(x:Int):PI (w.setCell ⟨g,2,none⟩ (.int .i64 x)) g B A n c xs ⟨p,x⟩:=⟨h.1,h.2.1,h.2.2.1.set 2 _,h.2.2.2.only (d1a w g 2 _) h.2.1⟩
theorem PI.setP(h:PI w g B A n c xs ⟨p,er⟩)(q:Nat)(hq:q<=n):PI (w.setCell ⟨g,1,none⟩ (.int .i64 (q:Int))) g B A n c xs ⟨q,er⟩:=⟨hq,h.2.1,h.2.2.1.set 1 _,h.2.2.2.only (d1a w g 1 _) h.2.1⟩
theorem PI.drewN(h:PI w g B A n c xs r)(k:Nat):PI (w.drewN k) g B A n c xs r:=⟨h.1,h.2.1,h.2.2.1.drewN k,h.2.2.2.drewN k⟩
theorem PI.drew(h:PI w g B A n c xs r):PI w.drew g B A n c xs r:=⟨h.1,h.2.1,h.2.2.1.drew,h.2.2.2.drew⟩
theorem PI.below(h:PI w g B A n c xs r)(hb:BW w w'):PI w' g B A n c xs r:=by have hlt:=h.lt;exact⟨h.1,h.2.1,h.2.2.1.over hb,h.2.2.2.below (hb.mono (by have:=h.2.1;omega))⟩
theorem PI.only(h:PI w g B A n c xs r)(hO:s2a g' w w')(hg:g≠g')(hb:B<=g'):PI w' g B A n c xs r:=⟨h.1,h.2.1,h.2.2.1.only hO hg,h.2.2.2.only hO hb⟩
theorem r6c{s:Nat}(h:¬r.e=0):rdN xs s r=(0,r):=by unfold rdN;rw[if_neg h]
theorem s6c{s:Nat}(h:¬(rdN xs s r).2.e=0):(rdN xs s r).1=0:=by
 unfold rdN at h⊢;by_cases h1:r.e=0
 ·rw[if_pos h1] at h⊢;by_cases h2:xs.length<r.p+s
  ·rw[if_pos h2]
  ·rw[if_neg h2] at h;exact absurd rfl h
 ·rw[if_neg h1]
end
theorem q5a(w:World)(g B:Nat)(A:Option Addr)(n c:Nat)(xs:List Int)(r:Rd)(x:Int)(hP:PI w g B A n c xs r) :
  Calls prog 115 #[.pointer (some ⟨g,0,none⟩),.int .i64 x] w (w3a w g B A n c xs (.tuple #[]) (q3a x r)):=by
 obtain⟨p,er⟩:=r;have HP:=hI hP;have c2:=hP.c2;have f2:=hP.fz 2;by_cases he:er=0
 ·subst he;have HQ:Hid (∀e w',(e=.returned (.tuple #[])/\PI w' g B A n c xs ⟨p,x⟩/\W0a g w w')->w3a w g B A n c xs (.tuple #[]) (q3a x ⟨p,0⟩) e w'):=λ_ _ h=>h
  clear hP;go_enter func115,ntmps115;go_wp2;go_end0;exact HQ.o _ _ ⟨rfl,HP.o.setE x,(W0a.refl g w).setCell 2 _⟩
 ·have HQ:Hid (∀e w',(e=.returned (.tuple #[])/\PI w' g B A n c xs ⟨p,er⟩/\W0a g w w')->w3a w g B A n c xs (.tuple #[]) (q3a x ⟨p,er⟩) e w'):=by intro e w' h;unfold q3a;rw[if_neg he];exact h
  have hne:(er==0)=false:=bF he
  clear hP he;go_enter func115,ntmps115;go_wp2;go_end0;exact HQ.o _ _ ⟨rfl,HP.o,W0a.refl g w⟩
theorem E1b(w:World)(g B:Nat)(A:Option Addr)(n c:Nat)(xs:List Int)(r:Rd)(s:Nat)(hP:PI w g B A n c xs r)(hs:u3a (s:Int)=true) :
  Calls prog 138 #[.pointer (some ⟨g,0,none⟩),.int .i64 (s:Int)] w (w3a w g B A n c xs (.int .u64 (rdN xs s r).1) (rdN xs s r).2):=by
 obtain⟨p,er⟩:=r;have hs8:1<=s/\s<=8:=by rcases S1a hs with h | h | h | h<;>omega
 obtain⟨hs1,hs8⟩:=hs8;have HP:=hI hP;have hl:=hP.2.2.2.len;have hrm:=hP.2.2.2.room;have hp:p<=n:=hP.1;have c0:=hP.c0;have c1:=hP.c1;have CG:Hid (∀k:Nat,Calls prog 44 #[.slice A n c,.int .i64 (p:Int),.int .i64 (s:Int)] (w.drewN k) λe w'=>e=.returned (.tuple #[.int .u64 (A4a xs (p:Int) (s:Int)),.int .i64 (t2a n (p:Int) (s:Int))])/\w.drewN k=w'):=λk=>O8a (w.drewN k) B A n c xs (p:Int) (s:Int) (hP.2.2.2.drewN k) (by omega) (by omega)
 have CF:Hid (∀(w':World) (x:Int),PI w' g B A n c xs ⟨p,er⟩->Calls prog 115 #[.pointer (some ⟨g,0,none⟩),.int .i64 x] w' λe w2=>e=.returned (.tuple #[])/\PI w2 g B A n c xs (q3a x ⟨p,er⟩)/\W0a g w' w2):=λw' x h=>q5a w' g B A n c xs ⟨p,er⟩ x h
 by_cases he:er=0;rotate_left
 ·have HQ:Hid (∀e w',(e=.returned (.int .u64 0)/\PI w' g B A n c xs ⟨p,er⟩/\W0a g w w')->w3a w g B A n c xs (.int .u64 (rdN xs s ⟨p,er⟩).1) (rdN xs s ⟨p,er⟩).2 e w'):=by intro e w' h;rw[r6c he];exact h
  have hrf:∀x,q3a x ⟨p,er⟩=⟨p,er⟩:=λx=>by unfold q3a;rw[if_neg he]
  simp only[hrf] at CF;obtain⟨z,hz⟩:=xX (A4a xs (p:Int) (s:Int));obtain⟨ze,hze⟩:=xX (t2a n (p:Int) (s:Int));rw[<-hz,<-hze] at CG;have hne:(er != 0)=true:=by simpa using he
  clear hP hl he hrf hz hze hs;go_enter func138,ntmps138;go_wp2;go_quiet ((go_at_call 44;((with_reducible exact y2b (CG.o _)))));have CF1:=hI (CF.o _ ze (HP.o.drewN nq));clear CF CG;go_wp2_with fail;refine CF1.o.mono ?_;rintro e w1 ⟨rfl,hP1,hS1⟩;have d2:=hP1.c2;have HP1:=hI hP1;have HS1:=hI ((O3a g w nq).trans hS1);clear hP1 hS1 CF1;go_wp2;go_ret;exact HQ.o _ _ ⟨rfl,HP1.o,HS1.o⟩
 subst he;by_cases hr:n<p+s
 ·have HQ:Hid (∀e w',(e=.returned (.int .u64 0)/\PI w' g B A n c xs ⟨p,4⟩/\W0a g w w')->w3a w g B A n c xs (.int .u64 (rdN xs s ⟨p,0⟩).1) (rdN xs s ⟨p,0⟩).2 e w'):=by intro e w' h;rw[r1c rfl (by rw[hl];exact hr)];exact h
  have e1:t2a n (p:Int) (s:Int)=4:=by unfold t2a R0a;rw[if_pos hs,if_neg (by omega),if_pos (by omega)]
  rw[e1] at CG;have CF1:Hid (∀w':World,PI w' g B A n c xs ⟨p,0⟩->Calls prog 115 #[.pointer (some ⟨g,0,none⟩),.int .i64 4] w' λe w2=>e=.returned (.tuple #[])/\PI w2 g B A n c xs ⟨p,4⟩/\W0a g w' w2):=λw' h=>CF.o w' 4 h
  obtain⟨z,hz⟩:=xX (A4a xs (p:Int) (s:Int));rw[<-hz] at CG;clear hP hl hz hs CF e1;go_enter func138,ntmps138;go_wp2;go_quiet ((go_at_call 44;((with_reducible exact y2b (CG.o _)))));have CF2:=hI (CF1.o _ (HP.o.drewN nq));clear CF1 CG;go_wp2_with fail;refine CF2.o.mono ?_;rintro e w1 ⟨rfl,hP1,hS1⟩;have d2:=hP1.c2;have HP1:=hI hP1;have HS1:=hI ((O3a g w nq).trans hS1);clear hP1 hS1 CF2;go_wp2;go_ret;exact HQ.o _ _ ⟨rfl,HP1.o,HS1.o⟩
 ·have HQ:Hid (∀e w',(e=.returned (.int .u64 (Y0a xs p s))/\PI w' g B A n c xs ⟨p+s,0⟩/\W0a g w w')->w3a w g B A n c xs (.int .u64 (rdN xs s ⟨p,0⟩).1) (rdN xs s ⟨p,0⟩).2 e w'):=by intro e w' h;rw[k8b rfl (by rw[hl];exact hr)];exact h
  have e1:t2a n (p:Int) (s:Int)=0:=by unfold t2a R0a;rw[if_pos hs,if_neg (by omega),if_neg (by omega)]
  have e2:A4a xs (p:Int) (s:Int)=Y0a xs p s:=by unfold A4a Y0a;rw[hl,e1,if_pos rfl,Int.toNat_natCast,Int.toNat_natCast]
  rw[e1,e2] at CG;have CF1:Hid (∀w':World,PI w' g B A n c xs ⟨p,0⟩->Calls prog 115 #[.pointer (some ⟨g,0,none⟩),.int .i64 0] w' λe w2=>e=.returned (.tuple #[])/\PI w2 g B A n c xs ⟨p,0⟩/\W0a g w' w2):=λw' h=>CF.o w' 0 h
  obtain⟨z,hz⟩:=xX (Y0a xs p s);rw[<-hz] at CG HQ;have HSP:Hid (∀w1:World,PI w1 g B A n c xs ⟨p,0⟩->PI (w1.setCell ⟨g,1,none⟩ (.int .i64 ((p:Int)+s))) g B A n c xs ⟨p+s,0⟩):=λw1 h=>h.setP (p+s) (by omega)
  clear hP hl hz hs CF e1 e2;go_enter func138,ntmps138;go_wp2;go_quiet ((go_at_call 44;((with_reducible exact y2b (CG.o _)))));have CF2:=hI (CF1.o _ (HP.o.drewN nq));clear CF1 CG;go_wp2_with fail;refine CF2.o.mono ?_;rintro e w1 ⟨rfl,hP1,hS1⟩;have d1:=hP1.c1;have d2:=hP1.c2;have f1:=hP1.fz 1;have HP1:=hI (HSP.o w1 hP1);have HS1:=hI ((O3a g w nq).trans hS1);clear hP1 hS1 CF2 HSP;go_wp2;go_ret;exact HQ.o _ _ ⟨rfl,HP1.o,HS1.o.setCell 1 _⟩
theorem f8a(w:World)(g B:Nat)(A:Option Addr)(n c:Nat)(xs:List Int)(r:Rd)(hx:Bytes xs)(hP:PI w g B A n c xs r) :
  Calls prog 111 #[.pointer (some ⟨g,0,none⟩)] w (w3a w g B A n c xs (.int .u16 (rdN xs 2 r).1) (rdN xs 2 r).2):=by
 have C1:=hI (E1b w g B A n c xs r 2 hP (by decide));have hb:=e5a hx 2 r 65536 (by decide) (by decide);have HQ:Hid (∀e w',(e=.returned (.int .u16 (rdN xs 2 r).1)/\PI w' g B A n c xs (rdN xs 2 r).2/\W0a g w w')->w3a w g B A n c xs (.int .u16 (rdN xs 2 r).1) (rdN xs 2 r).2 e w'):=λ_ _ h=>h
 unfold w3a at C1;obtain⟨q,hq⟩:=xX (rdN xs 2 r);rw[<-hq] at C1 HQ hb⊢;obtain⟨z,p⟩:=q;change 0<=z/\z<=_ at hb
 obtain⟨hb0,hb1⟩:=hb;have hz:IntKind.u16.wrap z=z:=by rw[IntKind.wrap_u16];omega
 clear hq hP;go_enter func111,ntmps111;go_wp2_with fail;refine C1.o.mono ?_;rintro e w1 ⟨rfl,hP1,hS1⟩;have HP1:=hI hP1;have HS1:=hI hS1;clear hP1 hS1;go_wp2;go_ret;exact HQ.o _ _ ⟨rfl,HP1.o,HS1.o⟩
theorem l3a(w:World)(g B:Nat)(A:Option Addr)(n c:Nat)(xs:List Int)(r:Rd)(hx:Bytes xs)(hP:PI w g B A n c xs r) :
  Calls prog 110 #[.pointer (some ⟨g,0,none⟩)] w (w3a w g B A n c xs (.int .u64 (rdN xs 8 r).1) (rdN xs 8 r).2):=by
 have C1:=hI (E1b w g B A n c xs r 8 hP (by decide));have hb:=e5a hx 8 r 18446744073709551616 (by decide) (by decide);have HQ:Hid (∀e w',(e=.returned (.int .u64 (rdN xs 8 r).1)/\PI w' g B A n c xs (rdN xs 8 r).2/\W0a g w w')->w3a w g B A n c xs (.int .u64 (rdN xs 8 r).1) (rdN xs 8 r).2 e w'):=λ_ _ h=>h
 unfold w3a at C1;obtain⟨q,hq⟩:=xX (rdN xs 8 r);rw[<-hq] at C1 HQ hb⊢;obtain⟨z,p⟩:=q;change 0<=z/\z<=_ at hb
 obtain⟨hb0,hb1⟩:=hb;have hz:IntKind.u64.wrap z=z:=by rw[IntKind.wrap_u64];omega
 clear hq hP;go_enter func110,ntmps110;go_wp2_with fail;refine C1.o.mono ?_;rintro e w1 ⟨rfl,hP1,hS1⟩;have HP1:=hI hP1;have HS1:=hI hS1;clear hP1 hS1;go_wp2;go_ret;exact HQ.o _ _ ⟨rfl,HP1.o,HS1.o⟩
theorem F1b(w:World)(g B:Nat)(A:Option Addr)(n c:Nat)(xs:List Int)(r:Rd)(s:Nat)(most er:Int)(hP:PI w g B A n c xs r)(hs:u3a (s:Int)=true)(hm:0<=most) :
  Calls prog 122 #[.pointer (some ⟨g,0,none⟩),.int .u64 most,.int .i64 (s:Int),.int .i64 er] w (w3a w g B A n c xs (.int .u64 (a1a xs s most er r).1) (a1a xs s most er r).2):=by
 have C1:=hI (E1b w g B A n c xs r s hP hs);have h0:=s6c (xs:=xs) (s:=s) (r:=r);unfold w3a at C1;have HQ:Hid (∀e w',(e=.returned (.int .u64 (a1a xs s most er r).1)/\PI w' g B A n c xs (a1a xs s most er r).2/\W0a g w w')->w3a w g B A n c xs (.int .u64 (a1a xs s most er r).1) (a1a xs s most er r).2 e w'):=λ_ _ h=>h
 have hu:a1a xs s most er r=if (rdN xs s r).2.e=0/\most<(rdN xs s r).1 then (0,⟨(rdN xs s r).2.p,er⟩) else rdN xs s r:=rfl
 rw[hu] at HQ⊢;obtain⟨q,hq⟩:=xX (rdN xs s r);rw[<-hq] at C1 HQ h0⊢;obtain⟨z,p,e0⟩:=q;change ¬e0=0->z=0 at h0
 clear hq hP hu hs;by_cases hg:most<z
 ·have he:e0=0:=by
   by_cases he:e0=0
   ·exact he
   ·have:z=0:=h0 he;omega
  subst he;rw[if_pos ⟨rfl,hg⟩] at HQ⊢;have CF:Hid (∀w':World,PI w' g B A n c xs ⟨p,0⟩->Calls prog 115 #[.pointer (some ⟨g,0,none⟩),.int .i64 er] w' λe w2=>e=.returned (.tuple #[])/\PI w2 g B A n c xs ⟨p,er⟩/\W0a g w' w2):=λw' h=>q5a w' g B A n c xs ⟨p,0⟩ er h
  clear h0;go_enter func122,ntmps122;go_wp2_with fail;refine C1.o.mono ?_;rintro e w1 ⟨rfl,hP1,hS1⟩;have CF1:=hI (CF.o w1 hP1);have HS1:=hI hS1;clear hP1 hS1 CF;go_wp2_with fail;refine CF1.o.mono ?_;rintro e w2 ⟨rfl,hP2,hS2⟩;have HP2:=hI hP2;have HS2:=hI (HS1.o.trans hS2);clear hP2 hS2;go_wp2;go_ret;exact HQ.o _ _ ⟨rfl,HP2.o,HS2.o⟩
 ·rw[if_neg (λh=>hg h.2)] at HQ⊢;clear h0;go_enter func122,ntmps122;go_wp2_with fail;refine C1.o.mono ?_;rintro e w1 ⟨rfl,hP1,hS1⟩;have HP1:=hI hP1;have HS1:=hI hS1;clear hP1 hS1;go_wp2;go_ret;exact HQ.o _ _ ⟨rfl,HP1.o,HS1.o⟩
theorem c7a(w:World)(g B:Nat)(A:Option Addr)(n c:Nat)(xs:List Int)(r:Rd)(hx:Bytes xs)(hP:PI w g B A n c xs r) :
  Calls prog 114 #[.pointer (some ⟨g,0,none⟩)] w (w3a w g B A n c xs (.bool ((rdT xs r).1 != 0)) (rdT xs r).2):=by
 have C1:Hid (Calls prog 122 #[.pointer (some ⟨g,0,none⟩),.int .u64 1,.int .i64 2,.int .i64 5] w λe w'=>e=.returned (.int .u64 (rdT xs r).1)/\PI w' g B A n c xs (rdT xs r).2/\W0a g w w'):=F1b w g B A n c xs r 2 1 5 hP (by decide) (by decide);have hb:=c4c hx r;have HQ:Hid (∀e w',(e=.returned (.bool ((rdT xs r).1 != 0))/\PI w' g B A n c xs (rdT xs r).2/\W0a g w w')->w3a w g B A n c xs (.bool ((rdT xs r).1 != 0)) (rdT xs r).2 e w'):=λ_ _ h=>h
 obtain⟨q,hq⟩:=xX (rdT xs r);rw[<-hq] at C1 HQ hb⊢;obtain⟨z,p⟩:=q;change 0<=z/\z<=_ at hb
 obtain⟨hb0,hb1⟩:=hb;clear hq hP;go_enter func114,ntmps114;go_wp2_with fail;refine C1.o.mono ?_;rintro e w1 ⟨rfl,hP1,hS1⟩;have HP1:=hI hP1;have HS1:=hI hS1;clear hP1 hS1;go_wp2;go_ret;exact HQ.o _ _ ⟨rfl,HP1.o,HS1.o⟩
theorem i4b(w:World)(g B:Nat)(A:Option Addr)(n c:Nat)(xs:List Int)(r:Rd)(hx:Bytes xs)(hP:PI w g B A n c xs r) :
  Calls prog 124 #[.pointer (some ⟨g,0,none⟩)] w (w3a w g B A n c xs (.int .u8 (rdK xs r).1) (rdK xs r).2):=by
 have C1:Hid (Calls prog 122 #[.pointer (some ⟨g,0,none⟩),.int .u64 2,.int .i64 2,.int .i64 5] w λe w'=>e=.returned (.int .u64 (rdK xs r).1)/\PI w' g B A n c xs (rdK xs r).2/\W0a g w w'):=F1b w g B A n c xs r 2 2 5 hP (by decide) (by decide);have hb:=K1c hx r;have HQ:Hid (∀e w',(e=.returned (.int .u8 (rdK xs r).1)/\PI w' g B A n c xs (rdK xs r).2/\W0a g w w')->w3a w g B A n c xs (.int .u8 (rdK xs r).1) (rdK xs r).2 e w'):=λ_ _ h=>h
 obtain⟨q,hq⟩:=xX (rdK xs r);rw[<-hq] at C1 HQ hb⊢;obtain⟨z,p⟩:=q;change 0<=z/\z<=_ at hb
 obtain⟨hb0,hb1⟩:=hb;have hz:IntKind.u8.wrap z=z:=by rw[IntKind.wrap_u8];omega
 clear hq hP;go_enter func124,ntmps124;go_wp2_with fail;refine C1.o.mono ?_;rintro e w1 ⟨rfl,hP1,hS1⟩;have HP1:=hI hP1;have HS1:=hI hS1;clear hP1 hS1;go_wp2;go_ret;exact HQ.o _ _ ⟨rfl,HP1.o,HS1.o⟩
theorem V4a(w:World)(g B:Nat)(A:Option Addr)(n c:Nat)(xs:List Int)(r:Rd)(m:Nat)(hP:PI w g B A n c xs r)(hm:m<=65536)(hBw:B<=w.heap.size) :
  Calls prog 112 #[.pointer (some ⟨g,0,none⟩),.int .i64 (m:Int)] w (w3a w g B A n c xs (.tuple #[]) (rdZ xs m r)):=by
 obtain⟨p,er⟩:=r;have HP:=hI hP;have hl:=hP.2.2.2.len;have hrm:=hP.2.2.2.room;have hp:p<=n:=hP.1;have CF:Hid (∀(w':World) (q:Rd) (x:Int),PI w' g B A n c xs q->Calls prog 115 #[.pointer (some ⟨g,0,none⟩),.int .i64 x] w' λe w2=>e=.returned (.tuple #[])/\PI w2 g B A n c xs (q3a x q)/\W0a g w' w2):=λw' q x h=>q5a w' g B A n c xs q x h
 have hpe:R0a n (p:Int) (m:Int)=if n<p+m then 4 else 0:=by
  unfold R0a;rw[if_neg (by omega)];by_cases h5:n<p+m
  ·rw[if_pos h5,if_pos (by omega)]
  ·rw[if_neg h5,if_neg (by omega)]
 have C0:∀k,Calls prog 23 #[.slice A n c,.int .i64 (p:Int),.int .i64 (m:Int)] (w.drewN k) λe w'=>∃A' k',e=.returned (.tuple #[.slice A' k' k',.int .i64 (R0a n (p:Int) (m:Int))])/\Below (w.drewN k).heap.size (w.drewN k) w':=λk=>by have h1:=l8a (w.drewN k) A n c xs (p:Int) (m:Int) ((hP.2.2.2.drewN k).mono hBw) (by omega) (by omega);unfold p4a at h1;rw[hl] at h1;exact h1.mono λe w' ⟨A',h1,_,h3⟩=>⟨A',_,h1,h3⟩
 by_cases he:er=0;rotate_left
 ·have HQ:Hid (∀e w',(e=.returned (.tuple #[])/\PI w' g B A n c xs ⟨p,er⟩/\W0a g w w')->w3a w g B A n c xs (.tuple #[]) (rdZ xs m ⟨p,er⟩) e w'):=by intro e w' h;rw[c6b he];exact h
  have hrf:∀x,q3a x ⟨p,er⟩=⟨p,er⟩:=λx=>by unfold q3a;rw[if_neg he]
  have CF0:Hid (∀(w':World) (x:Int),PI w' g B A n c xs ⟨p,er⟩->Calls prog 115 #[.pointer (some ⟨g,0,none⟩),.int .i64 x] w' λe w2=>e=.returned (.tuple #[])/\PI w2 g B A n c xs ⟨p,er⟩/\W0a g w' w2):=λw' x h=>by have h1:=CF.o w' ⟨p,er⟩ x h;rw[hrf] at h1;exact h1
  obtain⟨ze,hze⟩:=xX (R0a n (p:Int) (m:Int));rw[<-hze] at C0;have C1:=hI C0;have hne:(er != 0)=true:=by simpa using he
  clear hP hl he hrf hze hpe C0 CF;go_enter func112,ntmps112;go_upto_region 0 with fail
  refine wp_region_held (S:=λw'=>PI w' g B A n c xs ⟨p,er⟩) (by kernel_rfl) ?_;change wpAnyH _ _ _ _ _ _ _ _ w.drew
  have S0:Hid (PI w.drew g B A n c xs ⟨p,er⟩):=HP.o.drew;have b0:Hid (BW w w.drew):=(x3a w 1);refine tK 0 _ rfl (s0a (by kernel_rfl) (.tmp 0) rfl (.pointer (some ⟨g,0,none⟩)) (by kernel_rfl)) S0.o ?_;refine tK 1 _ rfl (J0a (by kernel_rfl) (.tmp 7) rfl ⟨g,0,none⟩ (by kernel_rfl)) S0.o ?_;refine tK 2 _ rfl (w0a (by kernel_rfl) _ (.tmp 8) 0 rfl (.pointer (some ⟨g,0,none⟩)) (.pointer (some ⟨g,0,none⟩)) (by kernel_rfl) (b9a g)) S0.o ?_;refine tK 3 _ rfl (k0a (by kernel_rfl) _ (.tmp 9) rfl g 0 (by kernel_rfl) (.slice A n c) (λw h=>PI.c0 h) _ underlying31 rfl) S0.o ?_;refine tK 4 _ rfl (s0a (by kernel_rfl) (.tmp 0) rfl (.pointer (some ⟨g,0,none⟩)) (by kernel_rfl)) S0.o ?_;refine tK 5 _ rfl (J0a (by kernel_rfl) (.tmp 11) rfl ⟨g,0,none⟩ (by kernel_rfl)) S0.o ?_;refine tK 6 _ rfl (w0a (by kernel_rfl) _ (.tmp 12) 1 rfl (.pointer (some ⟨g,0,none⟩)) (.pointer (some ⟨g,1,none⟩)) (by kernel_rfl) (c9a g)) S0.o ?_;refine tK 7 _ rfl (k0a (by kernel_rfl) _ (.tmp 13) rfl g 1 (by kernel_rfl) (.int .i64 (p:Int)) (λw h=>PI.c1 h) _ underlying3 rfl) S0.o ?_;refine tK 8 _ rfl (s0a (by kernel_rfl) (.tmp 1) rfl (.int .i64 (m:Int)) (by kernel_rfl)) S0.o ?_;refine oN 9 _ rfl λK hK=>?_
  go_simp;refine(C1.o 1).mono ?_;rintro e v1 ⟨A',k',rfl,L1⟩;have S1:Hid (PI v1 g B A n c xs ⟨p,er⟩):=S0.o.below L1;have b1:Hid (BW w v1):=step b0.o L1;refine hK _ _ S1.o ?_;clear hK K L1;refine pK 10 ((.tuple #[.slice A' k' k',.int .i64 ze])) rfl S1.o ?_;refine pK 11 ((.slice A' k' k')) rfl S1.o ?_;refine pK 12 ((.int .i64 ze)) rfl S1.o ?_;refine pK 13 ((.slice A' k' k')) rfl S1.o ?_;refine pK 14 ((.int .i64 ze)) rfl S1.o ?_;refine dN ?_;have CF1:=hI (CF0.o v1 ze S1.o);clear CF0;go_wp2_with fail;refine CF1.o.mono ?_;rintro e w1 ⟨rfl,hP1,hS1⟩;have d2:=hP1.c2;have HP1:=hI hP1;have HS1:=hI ((W0a.of_below b1.o g).trans hS1);clear hP1 hS1 CF1;go_wp2;go_end0;exact HQ.o _ _ ⟨rfl,HP1.o,HS1.o⟩
 subst he;by_cases hr:n<p+m
 ·have HQ:Hid (∀e w',(e=.returned (.tuple #[])/\PI w' g B A n c xs ⟨p,4⟩/\W0a g w w')->w3a w g B A n c xs (.tuple #[]) (rdZ xs m ⟨p,0⟩) e w'):=by
   intro e w' h;have e1:rdZ xs m ⟨p,0⟩=⟨p,4⟩:=by have h1:=a6b (xs:=xs) (m:=m) (r:=⟨p,0⟩) rfl (by rw[hl];exact hr);unfold rdZ;rw[h1,if_neg (show ¬(4:Int)=0 by decide)]
   rw[e1];exact h
  rw[hpe,if_pos hr] at C0;have C1:=hI C0;have CF0:Hid (∀(w':World),PI w' g B A n c xs ⟨p,0⟩->Calls prog 115 #[.pointer (some ⟨g,0,none⟩),.int .i64 4] w' λe w2=>e=.returned (.tuple #[])/\PI w2 g B A n c xs ⟨p,4⟩/\W0a g w' w2):=λw' h=>CF.o w' ⟨p,0⟩ 4 h
  clear hP hl hpe C0 CF;go_enter func112,ntmps112;go_upto_region 0 with fail
  refine wp_region_held (S:=λw'=>PI w' g B A n c xs ⟨p,0⟩) (by kernel_rfl) ?_;change wpAnyH _ _ _ _ _ _ _ _ w.drew
  have S0:Hid (PI w.drew g B A n c xs ⟨p,0⟩):=HP.o.drew;have b0:Hid (BW w w.drew):=(x3a w 1);refine tK 0 _ rfl (s0a (by kernel_rfl) (.tmp 0) rfl (.pointer (some ⟨g,0,none⟩)) (by kernel_rfl)) S0.o ?_;refine tK 1 _ rfl (J0a (by kernel_rfl) (.tmp 7) rfl ⟨g,0,none⟩ (by kernel_rfl)) S0.o ?_;refine tK 2 _ rfl (w0a (by kernel_rfl) _ (.tmp 8) 0 rfl (.pointer (some ⟨g,0,none⟩)) (.pointer (some ⟨g,0,none⟩)) (by kernel_rfl) (b9a g)) S0.o ?_;refine tK 3 _ rfl (k0a (by kernel_rfl) _ (.tmp 9) rfl g 0 (by kernel_rfl) (.slice A n c) (λw h=>PI.c0 h) _ underlying31 rfl) S0.o ?_;refine tK 4 _ rfl (s0a (by kernel_rfl) (.tmp 0) rfl (.pointer (some ⟨g,0,none⟩)) (by kernel_rfl)) S0.o ?_;refine tK 5 _ rfl (J0a (by kernel_rfl) (.tmp 11) rfl ⟨g,0,none⟩ (by kernel_rfl)) S0.o ?_;refine tK 6 _ rfl (w0a (by kernel_rfl) _ (.tmp 12) 1 rfl (.pointer (some ⟨g,0,none⟩)) (.pointer (some ⟨g,1,none⟩)) (by kernel_rfl) (c9a g)) S0.o ?_;refine tK 7 _ rfl (k0a (by kernel_rfl) _ (.tmp 13) rfl g 1 (by kernel_rfl) (.int .i64 (p:Int)) (λw h=>PI.c1 h) _ underlying3 rfl) S0.o ?_;refine tK 8 _ rfl (s0a (by kernel_rfl) (.tmp 1) rfl (.int .i64 (m:Int)) (by kernel_rfl)) S0.o ?_;refine oN 9 _ rfl λK hK=>?_
  go_simp;refine(C1.o 1).mono ?_;rintro e v1 ⟨A',k',rfl,L1⟩;have S1:Hid (PI v1 g B A n c xs ⟨p,0⟩):=S0.o.below L1;have b1:Hid (BW w v1):=step b0.o L1;refine hK _ _ S1.o ?_;clear hK K L1;refine pK 10 ((.tuple #[.slice A' k' k',.int .i64 4])) rfl S1.o ?_;refine pK 11 ((.slice A' k' k')) rfl S1.o ?_;refine pK 12 ((.int .i64 4)) rfl S1.o ?_;refine pK 13 ((.slice A' k' k')) rfl S1.o ?_;refine pK 14 ((.int .i64 4)) rfl S1.o ?_;refine dN ?_;have CF1:=hI (CF0.o v1 S1.o);clear CF0;go_wp2_with fail;refine CF1.o.mono ?_;rintro e w1 ⟨rfl,hP1,hS1⟩;have d2:=hP1.c2;have HP1:=hI hP1;have HS1:=hI ((W0a.of_below b1.o g).trans hS1);clear hP1 hS1 CF1;go_wp2;go_end0;exact HQ.o _ _ ⟨rfl,HP1.o,HS1.o⟩
 have hpf:y0a xs m ⟨p,0⟩=((xs.drop p).take m,⟨p+m,0⟩):=by unfold y0a;rw[if_pos rfl,if_neg (by rw[hl];exact hr)]
 have hzz:zeroOf ((xs.drop p).take m) 0 (m:Int)=zeroOf xs (p:Int) (m:Int):=by
  have hlt:((xs.drop p).take m).length=m:=by rw[List.length_take,List.length_drop];omega
  have q1:R0a m 0 (m:Int)=0:=by unfold R0a;rw[if_neg (by omega),if_neg (by omega)]
  have q2:R0a n (p:Int) (m:Int)=0:=by rw[hpe,if_neg hr]
  unfold zeroOf partOf;rw[hlt,hl,q1,q2,if_pos rfl,if_pos rfl,show Int.toNat 0=0 from rfl,List.drop_zero,Int.toNat_natCast,Int.toNat_natCast,List.take_take,Nat.min_self]
 have hrz:rdZ xs m ⟨p,0⟩=if zeroOf xs (p:Int) (m:Int)=true then ⟨p+m,0⟩ else ⟨p+m,5⟩:=by
  unfold rdZ;rw[hpf];show(if (0:Int)=0 then (if zeroOf ((xs.drop p).take m) 0 (m:Int)=true then (⟨p+m,0⟩:Rd) else ⟨p+m,5⟩) else ⟨p+m,0⟩)=_
  rw[if_pos rfl,hzz]
 have CZ:Hid (∀(w':World) (k:Nat),PI w' g B A n c xs ⟨p,0⟩->Calls prog 130 #[.slice A n c,.int .i64 (p:Int),.int .i64 (m:Int)] (w'.drewN k) λe w2=>e=.returned (.bool (zeroOf xs (p:Int) (m:Int)))/\w'.drewN k=w2):=λw' k h=>y4b (w'.drewN k) B A n c xs (p:Int) (m:Int) (h.2.2.2.drewN k) (by omega) (by omega)
 rw[hpe,if_neg hr] at C0;have C1:=hI C0;have CF0:Hid (∀(w':World),PI w' g B A n c xs ⟨p,0⟩->Calls prog 115 #[.pointer (some ⟨g,0,none⟩),.int .i64 0] w' λe w2=>e=.returned (.tuple #[])/\PI w2 g B A n c xs ⟨p,0⟩/\W0a g w' w2):=λw' h=>CF.o w' ⟨p,0⟩ 0 h
 have CF5:Hid (∀(w':World),PI w' g B A n c xs ⟨p,0⟩->Calls prog 115 #[.pointer (some ⟨g,0,none⟩),.int .i64 5] w' λe w2=>e=.returned (.tuple #[])/\PI w2 g B A n c xs ⟨p,5⟩/\W0a g w' w2):=λw' h=>CF.o w' ⟨p,0⟩ 5 h
 have HSP:Hid (∀(w1:World) (x:Int),PI w1 g B A n c xs ⟨p,x⟩->PI (w1.setCell ⟨g,1,none⟩ (.int .i64 ((p:Int)+m))) g B A n c xs ⟨p+m,x⟩):=λw1 x h=>h.setP (p+m) (by omega)
 rw[hrz];obtain⟨z,hz⟩:=xX (zeroOf xs (p:Int) (m:Int));rw[<-hz] at CZ⊢;clear hP hl hpe hpf hzz hrz hz C0 CF;cases z
 ·have HQ:Hid (∀e w',(e=.returned (.tuple #[])/\PI w' g B A n c xs ⟨p+m,5⟩/\W0a g w w')->w3a w g B A n c xs (.tuple #[]) (if false=true then ⟨p+m,0⟩ else ⟨p+m,5⟩) e w'):=λ_ _ h=>h
  go_enter func112,ntmps112;go_upto_region 0 with fail
  refine wp_region_held (S:=λw'=>PI w' g B A n c xs ⟨p,0⟩) (by kernel_rfl) ?_;change wpAnyH _ _ _ _ _ _ _ _ w.drew
  have S0:Hid (PI w.drew g B A n c xs ⟨p,0⟩):=HP.o.drew;have b0:Hid (BW w w.drew):=(x3a w 1);refine tK 0 _ rfl (s0a (by kernel_rfl) (.tmp 0) rfl (.pointer (some ⟨g,0,none⟩)) (by kernel_rfl)) S0.o ?_;refine tK 1 _ rfl (J0a (by kernel_rfl) (.tmp 7) rfl ⟨g,0,none⟩ (by kernel_rfl)) S0.o ?_;refine tK 2 _ rfl (w0a (by kernel_rfl) _ (.tmp 8) 0 rfl (.pointer (some ⟨g,0,none⟩)) (.pointer (some ⟨g,0,none⟩)) (by kernel_rfl) (b9a g)) S0.o ?_;refine tK 3 _ rfl (k0a (by kernel_rfl) _ (.tmp 9) rfl g 0 (by kernel_rfl) (.slice A n c) (λw h=>PI.c0 h) _ underlying31 rfl) S0.o ?_;refine tK 4 _ rfl (s0a (by kernel_rfl) (.tmp 0) rfl (.pointer (some ⟨g,0,none⟩)) (by kernel_rfl)) S0.o ?_;refine tK 5 _ rfl (J0a (by kernel_rfl) (.tmp 11) rfl ⟨g,0,none⟩ (by kernel_rfl)) S0.o ?_;refine tK 6 _ rfl (w0a (by kernel_rfl) _ (.tmp 12) 1 rfl (.pointer (some ⟨g,0,none⟩)) (.pointer (some ⟨g,1,none⟩)) (by kernel_rfl) (c9a g)) S0.o ?_;refine tK 7 _ rfl (k0a (by kernel_rfl) _ (.tmp 13) rfl g 1 (by kernel_rfl) (.int .i64 (p:Int)) (λw h=>PI.c1 h) _ underlying3 rfl) S0.o ?_;refine tK 8 _ rfl (s0a (by kernel_rfl) (.tmp 1) rfl (.int .i64 (m:Int)) (by kernel_rfl)) S0.o ?_;refine oN 9 _ rfl λK hK=>?_
  go_simp;refine(C1.o 1).mono ?_;rintro e v1 ⟨A',k',rfl,L1⟩;have S1:Hid (PI v1 g B A n c xs ⟨p,0⟩):=S0.o.below L1;have b1:Hid (BW w v1):=step b0.o L1;refine hK _ _ S1.o ?_;clear hK K L1;refine pK 10 ((.tuple #[.slice A' k' k',.int .i64 0])) rfl S1.o ?_;refine pK 11 ((.slice A' k' k')) rfl S1.o ?_;refine pK 12 ((.int .i64 0)) rfl S1.o ?_;refine pK 13 ((.slice A' k' k')) rfl S1.o ?_;refine pK 14 ((.int .i64 0)) rfl S1.o ?_;refine dN ?_;have CF1:=hI (CF0.o v1 S1.o);clear CF0;go_wp2_with fail;refine CF1.o.mono ?_;rintro e w1 ⟨rfl,hP1,hS1⟩;have d0:=hP1.c0;have d1:=hP1.c1;have d2:=hP1.c2;have HP1:=hI hP1;have HS1:=hI ((W0a.of_below b1.o g).trans hS1);have CZ1:=hI (CZ.o w1 · hP1);clear hP1 hS1 CF1 CZ;go_wp2;go_quiet ((go_at_call 130;((with_reducible exact y2b (CZ1.o _)))));have CF2:=hI (CF5.o _ (HP1.o.drewN nq));have HS2:=hI (HS1.o.drewN nq);clear CF5 CZ1;go_wp2_with fail;refine CF2.o.mono ?_;rintro e w2 ⟨rfl,hP2,hS2⟩;have g1:=hP2.c1;have k1:=hP2.fz 1;have HP2:=hI (HSP.o w2 5 hP2);have HS3:=hI (HS2.o.trans hS2);clear hP2 hS2 CF2 HSP;go_wp2;go_end0;exact HQ.o _ _ ⟨rfl,HP2.o,HS3.o.setCell 1 _⟩
 ·have HQ:Hid (∀e w',(e=.returned (.tuple #[])/\PI w' g B A n c xs ⟨p+m,0⟩/\W0a g w w')->w3a w g B A n c xs (.tuple #[]) (if true=true then ⟨p+m,0⟩ else ⟨p+m,5⟩) e w'):=λ_ _ h=>h
  go_enter func112,ntmps112;go_upto_region 0 with fail
  refine wp_region_held (S:=λw'=>PI w' g B A n c xs ⟨p,0⟩) (by kernel_rfl) ?_;change wpAnyH _ _ _ _ _ _ _ _ w.drew
  have S0:Hid (PI w.drew g B A n c xs ⟨p,0⟩):=HP.o.drew;have b0:Hid (BW w w.drew):=(x3a w 1);refine tK 0 _ rfl (s0a (by kernel_rfl) (.tmp 0) rfl (.pointer (some ⟨g,0,none⟩)) (by kernel_rfl)) S0.o ?_;refine tK 1 _ rfl (J0a (by kernel_rfl) (.tmp 7) rfl ⟨g,0,none⟩ (by kernel_rfl)) S0.o ?_;refine tK 2 _ rfl (w0a (by kernel_rfl) _ (.tmp 8) 0 rfl (.pointer (some ⟨g,0,none⟩)) (.pointer (some ⟨g,0,none⟩)) (by kernel_rfl) (b9a g)) S0.o ?_;refine tK 3 _ rfl (k0a (by kernel_rfl) _ (.tmp 9) rfl g 0 (by kernel_rfl) (.slice A n c) (λw h=>PI.c0 h) _ underlying31 rfl) S0.o ?_;refine tK 4 _ rfl (s0a (by kernel_rfl) (.tmp 0) rfl (.pointer (some ⟨g,0,none⟩)) (by kernel_rfl)) S0.o ?_;refine tK 5 _ rfl (J0a (by kernel_rfl) (.tmp 11) rfl ⟨g,0,none⟩ (by kernel_rfl)) S0.o ?_;refine tK 6 _ rfl (w0a (by kernel_rfl) _ (.tmp 12) 1 rfl (.pointer (some ⟨g,0,none⟩)) (.pointer (some ⟨g,1,none⟩)) (by kernel_rfl) (c9a g)) S0.o ?_;refine tK 7 _ rfl (k0a (by kernel_rfl) _ (.tmp 13) rfl g 1 (by kernel_rfl) (.int .i64 (p:Int)) (λw h=>PI.c1 h) _ underlying3 rfl) S0.o ?_;refine tK 8 _ rfl (s0a (by kernel_rfl) (.tmp 1) rfl (.int .i64 (m:Int)) (by kernel_rfl)) S0.o ?_;refine oN 9 _ rfl λK hK=>?_
  go_simp;refine(C1.o 1).mono ?_;rintro e v1 ⟨A',k',rfl,L1⟩;have S1:Hid (PI v1 g B A n c xs ⟨p,0⟩):=S0.o.below L1;have b1:Hid (BW w v1):=step b0.o L1;refine hK _ _ S1.o ?_;clear hK K L1;refine pK 10 ((.tuple #[.slice A' k' k',.int .i64 0])) rfl S1.o ?_;refine pK 11 ((.slice A' k' k')) rfl S1.o ?_;refine pK 12 ((.int .i64 0)) rfl S1.o ?_;refine pK 13 ((.slice A' k' k')) rfl S1.o ?_;refine pK 14 ((.int .i64 0)) rfl S1.o ?_;refine dN ?_;have CF1:=hI (CF0.o v1 S1.o);clear CF0;go_wp2_with fail;refine CF1.o.mono ?_;rintro e w1 ⟨rfl,hP1,hS1⟩;have d0:=hP1.c0;have d1:=hP1.c1;have d2:=hP1.c2;have k1:=hP1.fz 1;have HP1:=hI hP1;have HS1:=hI ((W0a.of_below b1.o g).trans hS1);have CZ1:=hI (CZ.o w1 · hP1);clear hP1 hS1 CF1 CZ;go_wp2;go_quiet ((go_at_call 130;((with_reducible exact y2b (CZ1.o _)))));go_wp2;go_end0;exact HQ.o _ _ ⟨rfl,HSP.o _ 0 (HP1.o.drewN nq),(HS1.o.drewN nq).setCell 1 _⟩
theorem y8a(w:World)(g B:Nat)(A:Option Addr)(n c:Nat)(xs:List Int)(r:Rd)(hP:PI w g B A n c xs r)(hBw:B<=w.heap.size) :
  Calls prog 113 #[.pointer (some ⟨g,0,none⟩)] w (w3a w g B A n c xs (.string ⟨(M1a xs r).1.toArray⟩) (M1a xs r).2):=by
 obtain⟨p,er⟩:=r;have HP:=hI hP;have hl:=hP.2.2.2.len;have hby:=hP.2.2.2.byte;have hrm:=hP.2.2.2.room;have hp:p<=n:=hP.1;have CF:Hid (∀(w':World) (q:Rd) (x:Int),PI w' g B A n c xs q->Calls prog 115 #[.pointer (some ⟨g,0,none⟩),.int .i64 x] w' λe w2=>e=.returned (.tuple #[])/\PI w2 g B A n c xs (q3a x q)/\W0a g w' w2):=λw' q x h=>q5a w' g B A n c xs q x h
 obtain⟨hg0,hg1⟩:=c4a hby (p:Int) (by omega);have C1:Hid (∀k,Calls prog 129 #[.slice A n c,.int .i64 (p:Int)] (w.drewN k) λe w'=>e=.returned (.tuple #[.string ⟨(Y1a xs (p:Int)).toArray⟩,.int .i64 (Z0a xs (p:Int)),.int .i64 (V0a xs (p:Int))])/\Below (w.drewN k).heap.size (w.drewN k) w'):=λk=>Q8a (w.drewN k) A n c xs (p:Int) ((hP.2.2.2.drewN k).mono hBw) (by omega)
 by_cases he:er=0;rotate_left
 ·have HQ:Hid (∀e w',(e=.returned (.string .empty)/\PI w' g B A n c xs ⟨p,er⟩/\W0a g w w')->w3a w g B A n c xs (.string ⟨(M1a xs ⟨p,er⟩).1.toArray⟩) (M1a xs ⟨p,er⟩).2 e w'):=by intro e w' h;unfold M1a;rw[if_neg he];exact h
  have hrf:∀x,q3a x ⟨p,er⟩=⟨p,er⟩:=λx=>by unfold q3a;rw[if_neg he]
  have CF0:Hid (∀(w':World) (x:Int),PI w' g B A n c xs ⟨p,er⟩->Calls prog 115 #[.pointer (some ⟨g,0,none⟩),.int .i64 x] w' λe w2=>e=.returned (.tuple #[])/\PI w2 g B A n c xs ⟨p,er⟩/\W0a g w' w2):=λw' x h=>by have h1:=CF.o w' ⟨p,er⟩ x h;rw[hrf] at h1;exact h1
  obtain⟨tx,htx⟩:=xX (Y1a xs (p:Int));obtain⟨nx,hnx⟩:=xX (Z0a xs (p:Int));obtain⟨ex,hex⟩:=xX (V0a xs (p:Int));rw[<-htx,<-hnx,<-hex] at C1;have hne:(er != 0)=true:=by simpa using he
  clear hP hl hby he hrf htx hnx hex hg0 hg1 CF;go_enter func113,ntmps113;go_upto_region 1 with fail
  refine wp_region_held (S:=λw'=>PI w' g B A n c xs ⟨p,er⟩) (by kernel_rfl) ?_;change wpAnyH _ _ _ _ _ _ _ _ w.drew
  have S0:Hid (PI w.drew g B A n c xs ⟨p,er⟩):=HP.o.drew;have b0:Hid (BW w w.drew):=(x3a w 1);refine tK 0 _ rfl (s0a (by kernel_rfl) (.tmp 0) rfl (.pointer (some ⟨g,0,none⟩)) (by kernel_rfl)) S0.o ?_;refine tK 1 _ rfl (J0a (by kernel_rfl) (.tmp 7) rfl ⟨g,0,none⟩ (by kernel_rfl)) S0.o ?_;refine tK 2 _ rfl (w0a (by kernel_rfl) _ (.tmp 8) 0 rfl (.pointer (some ⟨g,0,none⟩)) (.pointer (some ⟨g,0,none⟩)) (by kernel_rfl) (b9a g)) S0.o ?_;refine tK 3 _ rfl (k0a (by kernel_rfl) _ (.tmp 9) rfl g 0 (by kernel_rfl) (.slice A n c) (λw h=>PI.c0 h) _ underlying31 rfl) S0.o ?_;refine tK 4 _ rfl (s0a (by kernel_rfl) (.tmp 0) rfl (.pointer (some ⟨g,0,none⟩)) (by kernel_rfl)) S0.o ?_;refine tK 5 _ rfl (J0a (by kernel_rfl) (.tmp 11) rfl ⟨g,0,none⟩ (by kernel_rfl)) S0.o ?_;refine tK 6 _ rfl (w0a (by kernel_rfl) _ (.tmp 12) 1 rfl (.pointer (some ⟨g,0,none⟩)) (.pointer (some ⟨g,1,none⟩)) (by kernel_rfl) (c9a g)) S0.o ?_;refine tK 7 _ rfl (k0a (by kernel_rfl) _ (.tmp 13) rfl g 1 (by kernel_rfl) (.int .i64 (p:Int)) (λw h=>PI.c1 h) _ underlying3 rfl) S0.o ?_;refine oN 8 _ rfl λK hK=>?_
  go_simp;refine(C1.o 1).mono ?_;rintro e v1 ⟨rfl,L1⟩;have S1:Hid (PI v1 g B A n c xs ⟨p,er⟩):=S0.o.below L1;have b1:Hid (BW w v1):=step b0.o L1;refine hK _ _ S1.o ?_;clear hK K L1;refine pK 9 ((.tuple #[.string ⟨tx.toArray⟩,.int .i64 nx,.int .i64 ex])) rfl S1.o ?_;refine pK 10 ((.string ⟨tx.toArray⟩)) rfl S1.o ?_;refine pK 11 ((.int .i64 nx)) rfl S1.o ?_;refine pK 12 ((.int .i64 ex)) rfl S1.o ?_;refine pK 13 ((.string ⟨tx.toArray⟩)) rfl S1.o ?_;refine pK 14 ((.int .i64 nx)) rfl S1.o ?_;refine pK 15 ((.int .i64 ex)) rfl S1.o ?_;refine dN ?_;have CF1:=hI (CF0.o v1 ex S1.o);clear CF0;go_wp2_with fail;refine CF1.o.mono ?_;rintro e w1 ⟨rfl,hP1,hS1⟩;have d2:=hP1.c2;have HP1:=hI hP1;have HS1:=hI ((W0a.of_below b1.o g).trans hS1);clear hP1 hS1 CF1;go_wp2;go_ret;exact HQ.o _ _ ⟨rfl,HP1.o,HS1.o⟩
 subst he;by_cases hte:V0a xs (p:Int)=0
 ·have HQ:Hid (∀e w',(e=.returned (.string ⟨(Y1a xs (p:Int)).toArray⟩)/\PI w' g B A n c xs ⟨(Z0a xs (p:Int)).toNat,0⟩/\W0a g w w')->w3a w g B A n c xs (.string ⟨(M1a xs ⟨p,0⟩).1.toArray⟩) (M1a xs ⟨p,0⟩).2 e w'):=by
   intro e w' h;unfold M1a;rw[if_pos rfl];show w3a w g B A n c xs (.string ⟨(Y1a xs (p:Int)).toArray⟩) ⟨if V0a xs (p:Int)=0 then (Z0a xs (p:Int)).toNat else p,V0a xs (p:Int)⟩ e w'
   rw[if_pos hte,hte];exact h
  have HSP:Hid (∀(w1:World),PI w1 g B A n c xs ⟨p,0⟩->PI (w1.setCell ⟨g,1,none⟩ (.int .i64 (Z0a xs (p:Int)))) g B A n c xs ⟨(Z0a xs (p:Int)).toNat,0⟩):=λw1 h=>by have h1:=h.setP (Z0a xs (p:Int)).toNat (by omega);rw[Int.toNat_of_nonneg hg0] at h1;exact h1
  rw[hte] at C1;have CF0:Hid (∀(w':World),PI w' g B A n c xs ⟨p,0⟩->Calls prog 115 #[.pointer (some ⟨g,0,none⟩),.int .i64 0] w' λe w2=>e=.returned (.tuple #[])/\PI w2 g B A n c xs ⟨p,0⟩/\W0a g w' w2):=λw' h=>CF.o w' ⟨p,0⟩ 0 h
  obtain⟨tx,htx⟩:=xX (Y1a xs (p:Int));obtain⟨nx,hnx⟩:=xX (Z0a xs (p:Int));rw[<-htx,<-hnx] at C1 HQ;rw[<-hnx] at hg0 hg1 HSP;clear hP hl hby htx hnx hte CF;go_enter func113,ntmps113;go_upto_region 1 with fail
  refine wp_region_held (S:=λw'=>PI w' g B A n c xs ⟨p,0⟩) (by kernel_rfl) ?_;change wpAnyH _ _ _ _ _ _ _ _ w.drew
  have S0:Hid (PI w.drew g B A n c xs ⟨p,0⟩):=HP.o.drew;have b0:Hid (BW w w.drew):=(x3a w 1);refine tK 0 _ rfl (s0a (by kernel_rfl) (.tmp 0) rfl (.pointer (some ⟨g,0,none⟩)) (by kernel_rfl)) S0.o ?_;refine tK 1 _ rfl (J0a (by kernel_rfl) (.tmp 7) rfl ⟨g,0,none⟩ (by kernel_rfl)) S0.o ?_;refine tK 2 _ rfl (w0a (by kernel_rfl) _ (.tmp 8) 0 rfl (.pointer (some ⟨g,0,none⟩)) (.pointer (some ⟨g,0,none⟩)) (by kernel_rfl) (b9a g)) S0.o ?_;refine tK 3 _ rfl (k0a (by kernel_rfl) _ (.tmp 9) rfl g 0 (by kernel_rfl) (.slice A n c) (λw h=>PI.c0 h) _ underlying31 rfl) S0.o ?_;refine tK 4 _ rfl (s0a (by kernel_rfl) (.tmp 0) rfl (.pointer (some ⟨g,0,none⟩)) (by kernel_rfl)) S0.o ?_;refine tK 5 _ rfl (J0a (by kernel_rfl) (.tmp 11) rfl ⟨g,0,none⟩ (by kernel_rfl)) S0.o ?_;refine tK 6 _ rfl (w0a (by kernel_rfl) _ (.tmp 12) 1 rfl (.pointer (some ⟨g,0,none⟩)) (.pointer (some ⟨g,1,none⟩)) (by kernel_rfl) (c9a g)) S0.o ?_;refine tK 7 _ rfl (k0a (by kernel_rfl) _ (.tmp 13) rfl g 1 (by kernel_rfl) (.int .i64 (p:Int)) (λw h=>PI.c1 h) _ underlying3 rfl) S0.o ?_;refine oN 8 _ rfl λK hK=>?_
  go_simp;refine(C1.o 1).mono ?_;rintro e v1 ⟨rfl,L1⟩;have S1:Hid (PI v1 g B A n c xs ⟨p,0⟩):=S0.o.below L1;have b1:Hid (BW w v1):=step b0.o L1;refine hK _ _ S1.o ?_;clear hK K L1;refine pK 9 ((.tuple #[.string ⟨tx.toArray⟩,.int .i64 nx,.int .i64 0])) rfl S1.o ?_;refine pK 10 ((.string ⟨tx.toArray⟩)) rfl S1.o ?_;refine pK 11 ((.int .i64 nx)) rfl S1.o ?_;refine pK 12 ((.int .i64 0)) rfl S1.o ?_;refine pK 13 ((.string ⟨tx.toArray⟩)) rfl S1.o ?_;refine pK 14 ((.int .i64 nx)) rfl S1.o ?_;refine pK 15 ((.int .i64 0)) rfl S1.o ?_;refine dN ?_;have CF1:=hI (CF0.o v1 S1.o);clear CF0;go_wp2_with fail;refine CF1.o.mono ?_;rintro e w1 ⟨rfl,hP1,hS1⟩;have d1:=hP1.c1;have d2:=hP1.c2;have k1:=hP1.fz 1;have HP1:=hI (HSP.o w1 hP1);have HS1:=hI ((W0a.of_below b1.o g).trans hS1);clear hP1 hS1 CF1 HSP;go_wp2;go_ret;exact HQ.o _ _ ⟨rfl,HP1.o,HS1.o.setCell 1 _⟩
 ·have HQ:Hid (∀e w',(e=.returned (.string .empty)/\PI w' g B A n c xs ⟨p,V0a xs (p:Int)⟩/\W0a g w w')->w3a w g B A n c xs (.string ⟨(M1a xs ⟨p,0⟩).1.toArray⟩) (M1a xs ⟨p,0⟩).2 e w'):=by
   intro e w' h;unfold M1a;rw[if_pos rfl];show w3a w g B A n c xs (.string ⟨(Y1a xs (p:Int)).toArray⟩) ⟨if V0a xs (p:Int)=0 then (Z0a xs (p:Int)).toNat else p,V0a xs (p:Int)⟩ e w'
   rw[if_neg hte];have e0:Y1a xs (p:Int)=[]:=by unfold Y1a;rw[if_neg hte]
   rw[e0];exact h
  have CF0:Hid (∀(w':World),PI w' g B A n c xs ⟨p,0⟩->Calls prog 115 #[.pointer (some ⟨g,0,none⟩),.int .i64 (V0a xs (p:Int))] w' λe w2=>e=.returned (.tuple #[])/\PI w2 g B A n c xs ⟨p,V0a xs (p:Int)⟩/\W0a g w' w2):=λw' h=>CF.o w' ⟨p,0⟩ _ h
  obtain⟨tx,htx⟩:=xX (Y1a xs (p:Int));obtain⟨nx,hnx⟩:=xX (Z0a xs (p:Int));obtain⟨ex,hex⟩:=xX (V0a xs (p:Int));rw[<-htx,<-hnx,<-hex] at C1;rw[<-hex] at HQ CF0 hte;have hne:(ex != 0)=true:=by simpa using hte
  clear hP hl hby htx hnx hex hte CF;go_enter func113,ntmps113;go_upto_region 1 with fail
  refine wp_region_held (S:=λw'=>PI w' g B A n c xs ⟨p,0⟩) (by kernel_rfl) ?_;change wpAnyH _ _ _ _ _ _ _ _ w.drew
  have S0:Hid (PI w.drew g B A n c xs ⟨p,0⟩):=HP.o.drew;have b0:Hid (BW w w.drew):=(x3a w 1);refine tK 0 _ rfl (s0a (by kernel_rfl) (.tmp 0) rfl (.pointer (some ⟨g,0,none⟩)) (by kernel_rfl)) S0.o ?_;refine tK 1 _ rfl (J0a (by kernel_rfl) (.tmp 7) rfl ⟨g,0,none⟩ (by kernel_rfl)) S0.o ?_;refine tK 2 _ rfl (w0a (by kernel_rfl) _ (.tmp 8) 0 rfl (.pointer (some ⟨g,0,none⟩)) (.pointer (some ⟨g,0,none⟩)) (by kernel_rfl) (b9a g)) S0.o ?_;refine tK 3 _ rfl (k0a (by kernel_rfl) _ (.tmp 9) rfl g 0 (by kernel_rfl) (.slice A n c) (λw h=>PI.c0 h) _ underlying31 rfl) S0.o ?_;refine tK 4 _ rfl (s0a (by kernel_rfl) (.tmp 0) rfl (.pointer (some ⟨g,0,none⟩)) (by kernel_rfl)) S0.o ?_;refine tK 5 _ rfl (J0a (by kernel_rfl) (.tmp 11) rfl ⟨g,0,none⟩ (by kernel_rfl)) S0.o ?_;refine tK 6 _ rfl (w0a (by kernel_rfl) _ (.tmp 12) 1 rfl (.pointer (some ⟨g,0,none⟩)) (.pointer (some ⟨g,1,none⟩)) (by kernel_rfl) (c9a g)) S0.o ?_;refine tK 7 _ rfl (k0a (by kernel_rfl) _ (.tmp 13) rfl g 1 (by kernel_rfl) (.int .i64 (p:Int)) (λw h=>PI.c1 h) _ underlying3 rfl) S0.o ?_;refine oN 8 _ rfl λK hK=>?_
  go_simp;refine(C1.o 1).mono ?_;rintro e v1 ⟨rfl,L1⟩;have S1:Hid (PI v1 g B A n c xs ⟨p,0⟩):=S0.o.below L1;have b1:Hid (BW w v1):=step b0.o L1;refine hK _ _ S1.o ?_;clear hK K L1;refine pK 9 ((.tuple #[.string ⟨tx.toArray⟩,.int .i64 nx,.int .i64 ex])) rfl S1.o ?_;refine pK 10 ((.string ⟨tx.toArray⟩)) rfl S1.o ?_;refine pK 11 ((.int .i64 nx)) rfl S1.o ?_;refine pK 12 ((.int .i64 ex)) rfl S1.o ?_;refine pK 13 ((.string ⟨tx.toArray⟩)) rfl S1.o ?_;refine pK 14 ((.int .i64 nx)) rfl S1.o ?_;refine pK 15 ((.int .i64 ex)) rfl S1.o ?_;refine dN ?_;have CF1:=hI (CF0.o v1 S1.o);clear CF0;go_wp2_with fail;refine CF1.o.mono ?_;rintro e w1 ⟨rfl,hP1,hS1⟩;have d2:=hP1.c2;have HP1:=hI hP1;have HS1:=hI ((W0a.of_below b1.o g).trans hS1);clear hP1 hS1 CF1;go_wp2;go_ret;exact HQ.o _ _ ⟨rfl,HP1.o,HS1.o⟩
theorem Z2b(w:World)(g B:Nat)(A:Option Addr)(n c:Nat)(xs:List Int)(r:Rd)(hx:Bytes xs)(hP:PI w g B A n c xs r)(hBw:B<=w.heap.size) :
  Calls prog 116 #[.pointer (some ⟨g,0,none⟩)] w (w3a w g B A n c xs (.tuple #[.int .u64 (rdN xs 8 r).1,.int .u8 (rdN xs 1 (rdN xs 8 r).2).1]) (rdZ xs 3 (rdN xs 1 (rdN xs 8 r).2).2)):=by
 have C1:=hI (l3a w g B A n c xs r hx hP);have C2:Hid (∀w':World,PI w' g B A n c xs (rdN xs 8 r).2->Calls prog 138 #[.pointer (some ⟨g,0,none⟩),.int .i64 1] w' λe w2=>e=.returned (.int .u64 (rdN xs 1 (rdN xs 8 r).2).1)/\PI w2 g B A n c xs (rdN xs 1 (rdN xs 8 r).2).2/\W0a g w' w2):=λw' h=>E1b w' g B A n c xs _ 1 h (by decide)
 have C3:Hid (∀w':World,w.heap.size<=w'.heap.size->PI w' g B A n c xs (rdN xs 1 (rdN xs 8 r).2).2->Calls prog 112 #[.pointer (some ⟨g,0,none⟩),.int .i64 3] w' λe w2=>e=.returned (.tuple #[])/\PI w2 g B A n c xs (rdZ xs 3 (rdN xs 1 (rdN xs 8 r).2).2)/\W0a g w' w2):=λw' hs h=>V4a w' g B A n c xs _ 3 h (by decide) (by omega)
 have hb:=e5a hx 1 (rdN xs 8 r).2 256 (by decide) (by decide);have HQ:Hid (∀e w',(e=.returned (.tuple #[.int .u64 (rdN xs 8 r).1,.int .u8 (rdN xs 1 (rdN xs 8 r).2).1])/\PI w' g B A n c xs (rdZ xs 3 (rdN xs 1 (rdN xs 8 r).2).2)/\W0a g w w')->w3a w g B A n c xs (.tuple #[.int .u64 (rdN xs 8 r).1,.int .u8 (rdN xs 1 (rdN xs 8 r).2).1]) (rdZ xs 3 (rdN xs 1 (rdN xs 8 r).2).2) e w'):=λ_ _ h=>h
 unfold w3a at C1;obtain⟨q3,hq3⟩:=xX (rdZ xs 3 (rdN xs 1 (rdN xs 8 r).2).2);rw[<-hq3] at C3 HQ⊢;obtain⟨q2,hq2⟩:=xX (rdN xs 1 (rdN xs 8 r).2);rw[<-hq2] at C2 C3 HQ hb⊢;obtain⟨q1,hq1⟩:=xX (rdN xs 8 r);rw[<-hq1] at C1 C2 HQ⊢;obtain⟨y,q1⟩:=q1;obtain⟨z,q2⟩:=q2;change 0<=z/\z<=_ at hb
 obtain⟨hb0,hb1⟩:=hb;have hz:IntKind.u8.wrap z=z:=by rw[IntKind.wrap_u8];omega
 clear hq1 hq2 hq3 hP;go_enter func116,ntmps116;go_wp2_with fail;refine C1.o.mono ?_;rintro e w1 ⟨rfl,hP1,hS1⟩;have CA:=hI (C2.o w1 hP1);have HS1:=hI hS1;clear hP1 hS1 C1 C2;go_wp2_with fail;refine CA.o.mono ?_;rintro e w2 ⟨rfl,hP2,hS2⟩;have HS2:=hI (HS1.o.trans hS2);have CB:=hI (C3.o w2 HS2.o.size hP2);clear hP2 hS2 CA C3;go_wp2_with fail;refine CB.o.mono ?_;rintro e w3 ⟨rfl,hP3,hS3⟩;have HP3:=hI hP3;have HS3:=hI (HS2.o.trans hS3);clear hP3 hS3 CB;go_wp2;go_ret2;exact HQ.o _ _ ⟨rfl,HP3.o,HS3.o⟩
theorem r3a(w:World)(g B:Nat)(A:Option Addr)(n c:Nat)(xs:List Int)(r:Rd)(hP:PI w g B A n c xs r) :
  Calls prog 117 #[.pointer (some ⟨g,0,none⟩)] w λe w'=>e=.returned (.int .i64 (Q0a xs r))/\W0a g w w':=by
 obtain⟨p,er⟩:=r;have HP:=hI hP;have hl:=hP.2.2.2.len;have hrm:=hP.2.2.2.room;have hp:p<=n:=hP.1;have c0:=hP.c0;have c1:=hP.c1;have c2:=hP.c2;have CF:Hid (∀(w':World),PI w' g B A n c xs ⟨p,er⟩->Calls prog 115 #[.pointer (some ⟨g,0,none⟩),.int .i64 5] w' λe w2=>e=.returned (.tuple #[])/\PI w2 g B A n c xs (q3a 5 ⟨p,er⟩)/\W0a g w' w2):=λw' h=>q5a w' g B A n c xs _ 5 h
 have hrd:Q0a xs ⟨p,er⟩=if er=0/\p≠n then 5 else er:=by unfold Q0a;rw[hl]
 rw[hrd];by_cases hpn:p=n
 ·rw[if_neg (λh=>h.2 hpn)];have hd:¬((p:Int)<(n:Int)):=by omega
  clear hP hl hrd hpn CF;go_enter func117,ntmps117;go_wp2;go_quiet (fail);go_wp2;go_ret;exact⟨rfl,O3a g w _⟩
 ·have hd:(p:Int)<(n:Int):=by omega
  have hrf:q3a 5 ⟨p,er⟩=⟨p,if er=0/\p≠n then 5 else er⟩:=by
   unfold q3a;by_cases he:er=0
   ·rw[if_pos he,if_pos ⟨he,hpn⟩]
   ·rw[if_neg he,if_neg (λh=>he h.1)]
  rw[hrf] at CF;obtain⟨z,hz⟩:=xX (if er=0/\p≠n then 5 else er)
  rw[<-hz] at CF⊢;clear hP hl hrd hpn hrf hz;go_enter func117,ntmps117;go_wp2;go_quiet (fail);have CF1:=hI (CF.o _ (HP.o.drewN nq));clear CF;go_wp2_with fail;refine CF1.o.mono ?_;rintro e w1 ⟨rfl,hP1,hS1⟩;have d2:=hP1.c2;have HS1:=hI ((O3a g w nq).trans hS1);clear hP1 hS1 CF1;go_wp2;go_ret;exact⟨rfl,HS1.o⟩
theorem w8b{w:World}{base:Nat}{v:Value}{xs:List y1a}(h:F6a B0a 3 108 w base v xs):v.oneCell'=true:=by obtain⟨_,_,_,rfl,_⟩:=F6a.holds (by decide) I4a h;rfl
theorem v0b{ops:Array Oper}{o:Oper}{a:Act}{w:World}{K:Act->World->Prop}{Q:Exit->Act->World->Prop}{E:Prop}(hgd:o.guard=none)(s x:Operand)
(ho:o.op=.call { callee:=.builtin .append,args:=#[s,x],argTypes:=#[37,37] })
(base:Nat)(v:Value)(xs:List y1a)(g2:Nat)(l:y1a)(hs:a.eval s=v)(hx:a.eval x=.slice (some ⟨g2,0,none⟩) 1 1)
(hown:F6a B0a 3 108 w base v xs)(hY:Hid (Blk w g2 108 (B0a l)))(hlen:xs.length<=100)(hbase:base<=w.heap.size)
(h:∀v' w',Hid (F6a B0a 3 108 w' base v' (xs++[l]))->Hid (Below base w w')->K (a.put o.dst v') w') :
  if Region.wanted o (yielded ops a.tmps)=true then Oper.wp prog o a w K Q else E:=by
 have hw:Region.wanted o (yielded ops a.tmps)=true:=by simp[Region.wanted,hgd]
 rw[if_pos hw];obtain⟨i0,hi0,hz0,hz1,hz2⟩:=info_parts Z8b;have hr:=hY.o;refine wp_append_own _ s x 37 ho base 108 i0 (.agg (B0a ⟨.empty,0,0⟩).toArray) 3 32 underlying37 hi0 hz0 hz1 hz2 rfl (by omega) v xs.length (xs.flatMap B0a) hs hown ⟨g2,0,none⟩ 1 1 (B0a l) hx (by rw[I4a]) ?_
  (λu hu=>h6a l u hu) (by unfold maxLen;omega) (by omega) hbase ?_
 ·intro j y hj;have e1:(⟨g2,0,none⟩:Addr).add j=⟨g2,j,none⟩:=by
   by_cases hj0:j=0
   ·subst hj0;simp[Addr.add]
   ·simp[Addr.add,hj0]
  rw[e1,hr.cell j,<-hj]
 ·intro v' w' hown' hgr _;refine h v' w' ?_ ((Below.refl base w).grown hgr hbase λi hi=>(World.ownsRow.lt hown i hi).1);show World.ownsRow _ _ _ _ _ _ _
  rw[List.length_append,List.flatMap_append];simpa using hown'
theorem PI.belowAt{w w':World}{g B B':Nat}{A:Option Addr}{n c:Nat}{xs:List Int}{r:Rd}(h:PI w g B A n c xs r)(hb:Below B' w w')(hg:g<B'):PI w' g B A n c xs r:=⟨h.1,h.2.1,h.2.2.1.below hb hg,h.2.2.2.below (hb.mono (by have:=h.2.1;omega))⟩
theorem PI.save{w w':World}{g g' B:Nat}{A:Option Addr}{n c:Nat}{xs:List Int}{r:Rd}(h:PI w g B A n c xs r)(hS:W0a g' w w')(hg:g≠g')(hb:B<=g'):PI w' g B A n c xs r:=⟨h.1,h.2.1,h.2.2.1.save hS hg,h.2.2.2.below (hS.below hb (by have:=h.lt;have:=h.2.1;omega))⟩
theorem Q7b(w:World)(g B:Nat)(A:Option Addr)(n c:Nat)(xs:List Int)(r:Rd)(hx:Bytes xs)(hP:PI w g B A n c xs r)(hBw:B<=w.heap.size) :
  Calls prog 123 #[.pointer (some ⟨g,0,none⟩)] w (w3a w g B A n c xs (.agg (B0a (t4a xs r).1).toArray) (t4a xs r).2):=by
 have hlt:=hP.lt;have hgB:=hP.2.1;have HP:=hI hP;have D1:Hid (∀w':World,w.heap.size<=w'.heap.size->PI w' g B A n c xs r->Calls prog 124 #[.pointer (some ⟨g,0,none⟩)] w' λe w2=>e=.returned (.int .u8 (e1 xs r).1)/\PI w2 g B A n c xs (e1 xs r).2/\W0a g w' w2):=λw' hs h=>i4b w' g B A n c xs r hx h
 have D2:Hid (∀w':World,w.heap.size<=w'.heap.size->PI w' g B A n c xs (e1 xs r).2->Calls prog 112 #[.pointer (some ⟨g,0,none⟩),.int .i64 2] w' λe w2=>e=.returned (.tuple #[])/\PI w2 g B A n c xs (e2 xs r)/\W0a g w' w2):=λw' hs h=>V4a w' g B A n c xs _ 2 h (by decide) (by omega)
 have D3:Hid (∀w':World,w.heap.size<=w'.heap.size->PI w' g B A n c xs (e2 xs r)->Calls prog 122 #[.pointer (some ⟨g,0,none⟩),.int .u64 1048576,.int .i64 8,.int .i64 5] w' λe w2=>e=.returned (.int .u64 (e3 xs r).1)/\PI w2 g B A n c xs (e3 xs r).2/\W0a g w' w2):=λw' hs h=>F1b w' g B A n c xs _ 8 1048576 5 h (by decide) (by decide)
 have D4:Hid (∀w':World,w.heap.size<=w'.heap.size->PI w' g B A n c xs (e3 xs r).2->Calls prog 113 #[.pointer (some ⟨g,0,none⟩)] w' λe w2=>e=.returned (.string ⟨(e4 xs r).1.toArray⟩)/\PI w2 g B A n c xs (e4 xs r).2/\W0a g w' w2):=λw' hs h=>y8a w' g B A n c xs _ h (by omega)
 have hb:=o3a hx 8 1048576 5 (e2 xs r) (by decide) (by decide);change 0<=(e3 xs r).1/\(e3 xs r).1<=_ at hb
 have HQ:Hid (∀(e:Ending) (w':World),e=.returned (.agg (B0a ⟨⟨(e4 xs r).1.toArray⟩,(e1 xs r).1,(e3 xs r).1⟩).toArray)->PI w' g B A n c xs (e4 xs r).2->W0a g w w'->w3a w g B A n c xs (.agg (B0a (t4a xs r).1).toArray) (t4a xs r).2 e w'):=λe w' h1 h2 h3=>⟨h1,h2,h3⟩
 obtain⟨q4,hq4⟩:=xX (e4 xs r);rw[<-hq4] at D4 HQ;obtain⟨q3,hq3⟩:=xX (e3 xs r);rw[<-hq3] at D3 D4 HQ hb;obtain⟨q2,hq2⟩:=xX (e2 xs r);rw[<-hq2] at D2 D3;obtain⟨q1,hq1⟩:=xX (e1 xs r);rw[<-hq1] at D1 D2 HQ;obtain⟨hb0,hb1⟩:=hb;obtain⟨tx,htx⟩:∃b:ByteArray,b=⟨q4.1.toArray⟩:=⟨_,rfl⟩;rw[<-htx] at D4 HQ;have hz:IntKind.i64.wrap q3.1=q3.1:=by rw[IntKind.wrap_i64];omega
 clear hq1 hq2 hq3 hq4 htx hP;have ZE:=hI g4b;have HZ3:Hid (([.string .empty,.int .u8 0,.int .i64 0]:List Value).length=3):=rfl;go_enter func123,ntmps123;go_wp2_with(first|((with_reducible refine sN 2 ?_);refine b0a rfl _ rfl _ _ ZE ?_;intro h w1 hg1 hg2 Z1 N1;have P1:=hI (HP.o.below N1.o);have S1:Hid (W0a g w w1):=(W0a.of_below N1.o g);have hhg:h≠g:=(by omega))|((with_reducible refine sN 3 ?_);refine b0a rfl _ rfl _ _ ZE ?_;intro x w2 hx1 hx2 X2 N2;have Z2:=hI (Z1.o.over N2.o);have P2:=hI (P1.o.below N2.o);have S2:Hid (W0a g w w2):=(S1.o.trans (W0a.of_below N2.o g));have hxg:x≠g:=(by omega);have hhx:h≠x:=(by omega))|fail)
 refine(D1.o w2 S2.o.size P2.o).mono ?_;rintro e w3 ⟨rfl,hP1,hS1⟩;have X3:=hI (X2.o.save hS1 hxg);have Z3:=hI (Z2.o.save hS1 hhg);have P3:=hI hP1;have S3:=hI (S2.o.trans hS1);clear hP1 hS1 X2 Z2 P2 S2 Z1 P1 S1;go_wp2_with(first|((with_reducible refine sT 7 ?_);refine x0a rfl _ (.tmp 7) (.tmp 5) rfl x 1 rfl _ ([.string .empty,.int .u8 0,.int .i64 0]:List Value) (.int .u8 q1.1) rfl X3 (hI (by show 1<3;decide)) (by kernel_rfl) rfl ?_;intro w4 X4 O4 hq4;have Z4:=hI (Z3.o.only O4.o hhx);have P4:=hI (P3.o.only O4.o (Ne.symm hxg) (by omega));have S4:Hid (W0a g w w4):=(S3.o.thenBelow (O4.o.below (by omega))))|fail)
 refine(D2.o w4 S4.o.size P4.o).mono ?_;rintro e w5 ⟨rfl,hP1,hS1⟩;have X5:Hid (Blk w5 x 108 [.string .empty,.int .u8 q1.1,.int .i64 0]):=X4.o.save hS1 hxg;have Z5:=hI (Z4.o.save hS1 hhg);have P5:=hI hP1;have S5:=hI (S4.o.trans hS1);clear hP1 hS1 X4 Z4 P4 S4 X3 Z3 P3 S3;go_wp2_with fail;refine(D3.o w5 S5.o.size P5.o).mono ?_;rintro e w6 ⟨rfl,hP1,hS1⟩;have X6:=hI (X5.o.save hS1 hxg);have Z6:=hI (Z5.o.save hS1 hhg);have P6:=hI hP1;have S6:=hI (S5.o.trans hS1);clear hP1 hS1 X5 Z5 P5 S5;go_wp2_with(first|((with_reducible refine sT 14 ?_);refine x0a rfl _ (.tmp 14) (.tmp 12) rfl x 2 rfl _ ([.string .empty,.int .u8 q1.1,.int .i64 0]:List Value) (.int .i64 q3.1) rfl X6 (hI (by show 2<3;decide)) (by kernel_rfl) rfl ?_;intro w7 X7 O7 hq7;have Z7:=hI (Z6.o.only O7.o hhx);have P7:=hI (P6.o.only O7.o (Ne.symm hxg) (by omega));have S7:Hid (W0a g w w7):=(S6.o.thenBelow (O7.o.below (by omega))))|fail)
 refine(D4.o w7 S7.o.size P7.o).mono ?_;rintro e w8 ⟨rfl,hP1,hS1⟩;have X8:Hid (Blk w8 x 108 [.string .empty,.int .u8 q1.1,.int .i64 q3.1]):=X7.o.save hS1 hxg;have Z8:=hI (Z7.o.save hS1 hhg);have P8:=hI hP1;have S8:=hI (S7.o.trans hS1);clear hP1 hS1 X7 Z7 P7 S7 X6 Z6 P6 S6;have HE3:Hid (([.string tx,.int .u8 q1.1,.int .i64 q3.1]:List Value).length=3):=rfl;have HE1:Hid (∀v∈([.string tx,.int .u8 q1.1,.int .i64 q3.1]:List Value),v.oneCell'=true):=h6a ⟨tx,q1.1,q3.1⟩;go_wp2_with(first|((with_reducible refine sT 17 ?_);refine x0a rfl _ (.tmp 17) (.tmp 16) rfl x 0 rfl _ ([.string .empty,.int .u8 q1.1,.int .i64 q3.1]:List Value) (.string tx) rfl X8 (hI (by show 0<3;decide)) (by kernel_rfl) rfl ?_;intro w9 X9a O9 hq9;have X9:Hid (Blk w9 x 108 [.string tx,.int .u8 q1.1,.int .i64 q3.1]):=X9a.o;have Z9:=hI (Z8.o.only O9.o hhx);have P9:=hI (P8.o.only O9.o (Ne.symm hxg) (by omega));have S9:Hid (W0a g w w9):=(S8.o.thenBelow (O9.o.below (by omega))))|((with_reducible refine sN 18 ?_);refine e0a rfl _ (.tmp 3) rfl x rfl _ _ X9 3 _ underlying108 rfl N3a HE3 ?_)|((with_reducible refine sT 2 ?_);refine a0a rfl _ (.tmp 2) (.tmp 18) rfl h rfl _ ([.string .empty,.int .u8 0,.int .i64 0]:List Value) ([.string tx,.int .u8 q1.1,.int .i64 q3.1]:List Value) rfl Z9 3 N3a HZ3 HE3 HE1 ?_;intro w10 Z10 O10 hq10)|fail)
 refine bodyPost_ret (v:=.agg (B0a ⟨tx,q1.1,q3.1⟩).toArray) ?_ rfl (HQ.o _ _ rfl (P9.o.only O10.o (Ne.symm hhg) (by omega)) (S9.o.thenBelow (O10.o.below (by omega))));exact results_cell_row rfl _ _ h _ _ (0,0) _ rfl Z10.o underlying108 rfl (by rw[N3a];rfl)
abbrev IRd(w:World)(A:Option Addr)(n k:Nat)(xs:List Int)(f:FuncId)(ps:List Value)(u:Value)(r r':Rd):Prop:=∀(w':World) (g:Nat),w.heap.size<=w'.heap.size->PI w' g w.heap.size A n k xs r->Calls prog f (.pointer (some ⟨g,0,none⟩)::ps).toArray w' λe w2=>e=.returned u/\PI w2 g w.heap.size A n k xs r'/\W0a g w' w2
theorem x8b:(prog.info? 156).map (λi=>(i.zero,i.size))=some (some (.agg ([.slice none 0 0,.int .i64 0,.int .i64 0]:List Value).toArray),3):=by kernel_rfl
theorem G1b:(prog.info? 156).map (·.size)=some 3:=by kernel_rfl
def f2a(w:World)(c:Int)(xs:List Int)(e:Ending)(w':World):Prop:=∃cs,e=.returned (.tuple #[.agg cs.toArray,.int .i64 (l4a c xs)])/\g1a w' w'.heap.size cs (m7a c xs)/\cs[61]? = some (.slice none 0 0)/\BW w w'
theorem R7b(w:World)(c:Int)(A:Option Addr)(n k:Nat)(xs:List Int)(hc:0<=c/\c<=65535)(hx:Holds w w.heap.size A n k xs) :
  Calls prog 69 #[.int .u16 c,.slice A n k] w (f2a w c xs):=by
 have hby:=hx.byte;have HX:=hI hx;have ZH:=hI n8a;have BZ:=F7a;have ZR:=hI x8b;have HZ:Hid ((l0a (.slice none 0 0) (.slice none 0 0) (.slice none 0 0) i0a).length=69):=G1a h0a;have HZ1:Hid (∀v∈l0a (.slice none 0 0) (.slice none 0 0) (.slice none 0 0) i0a,v.oneCell'=true):=(V1a w 0).one;have HZI:Hid (∀w':World,g1a w' w'.heap.size (l0a (.slice none 0 0) (.slice none 0 0) (.slice none 0 0) i0a) i0a):=λw'=>V1a w' _
 have HZD:Hid ((l0a (.slice none 0 0) (.slice none 0 0) (.slice none 0 0) i0a)[61]? = some (.slice none 0 0)):=rfl;have BR:prog.built 156 [(0,.slice A n k)]=some ([.slice A n k,.int .i64 0,.int .i64 0]:List Value).toArray:=by kernel_rfl
 have HR0:Hid (([.slice none 0 0,.int .i64 0,.int .i64 0]:List Value).length=3):=rfl;have HR1:Hid (([.slice A n k,.int .i64 0,.int .i64 0]:List Value).length=3):=rfl;have HR2:Hid (∀v∈([.slice A n k,.int .i64 0,.int .i64 0]:List Value),v.oneCell'=true):=by intro v hv;simp only[List.mem_cons,List.not_mem_nil,or_false] at hv;rcases hv with rfl | rfl | rfl<;>rfl
 have HE:Hid (∀er,l4a c xs=er->er≠0->∀e w',e=.returned (.tuple #[.agg (l0a (.slice none 0 0) (.slice none 0 0) (.slice none 0 0) i0a).toArray,.int .i64 er])->BW w w'->f2a w c xs e w'):=by intro er h1 h2 e w' he hb;unfold f2a m7a;rw[h1,if_neg h2];exact⟨_,he,HZI.o w',HZD.o,hb⟩
 obtain⟨zs,hzs⟩:=xX (l0a (.slice none 0 0) (.slice none 0 0) (.slice none 0 0) i0a);have HZS:=hI hzs;rw[<-hzs] at ZH BZ HZ HZ1 HE;clear hzs HZI HZD;by_cases hk:J8a c=true;rotate_left
 ·have HQ:=hI (HE.o 2 (by unfold l4a;rw[if_neg hk]) (by decide));have hk':c≠12/\c≠14/\c≠16/\c≠17/\c≠18:=by refine⟨?_,?_,?_,?_,?_⟩<;>(rintro rfl;exact hk (by decide))
  obtain⟨h12,h14,h16,h17,h18⟩:=hk';have b12:(c==12)=false:=bF h12
  have b14:(c==14)=false:=bF h14
  have b16:(c==16)=false:=bF h16
  have b17:(c==17)=false:=bF h17
  have b18:(c==18)=false:=bF h18
  clear hk HE hx h12 h14 h16 h17 h18;go_enter func69,ntmps69;go_wp2_with(first|((with_reducible refine sN 4 ?_);refine b0a rfl _ rfl zs _ ZH ?_;intro h w1 hg1 hg2 Z1 L1)|((with_reducible refine sN 6 ?_);refine b0a rfl _ rfl zs _ ZH ?_;intro a w2 hg3 hg4 K2 L02;have Z2:=hI (Z1.o.over L02.o);have L2:=hI (step L1.o L02.o);have hha:h≠a:=(by omega);have hwa:w.heap.size<=a:=(by have:=L1.o.size;omega);have hsz2:=L2.o.size)|((with_reducible refine sN 10 ?_);refine v0a rfl _ _ rfl ([.slice A n k,.int .i64 0,.int .i64 0]:List Value) (by refine Eq.trans ?_ BR;kernel_rfl) ?_)|((with_reducible refine sN 7 ?_);refine b0a rfl _ rfl ([.slice none 0 0,.int .i64 0,.int .i64 0]:List Value) _ ZR ?_;intro g w3 hg5 hg6 R3 L03;have K3:=hI (K2.o.over L03.o);have Z3:=hI (Z2.o.over L03.o);have L3:=hI (step L2.o L03.o);have hag:a≠g:=(by omega);have hhg:h≠g:=(by have:=Z2.o.lt;omega);have hwg:w.heap.size<=g:=(by omega))|((with_reducible refine sT 7 ?_);refine a0a rfl _ (.tmp 7) (.tmp 10) rfl g rfl _ ([.slice none 0 0,.int .i64 0,.int .i64 0]:List Value) ([.slice A n k,.int .i64 0,.int .i64 0]:List Value) rfl R3 3 G1b HR0 HR1 HR2 ?_;intro w4 R4 O4 hg7;have K4:=hI (K3.o.only O4.o hag);have Z4:=hI (Z3.o.only O4.o hhg);have L4:=hI (c0a L3.o O4.o hwg))|((with_reducible refine sN 12 ?_);refine r0a rfl _ rfl zs BZ ?_)|((with_reducible refine sT 4 ?_);refine a0a rfl _ (.tmp 4) (.tmp 12) rfl h rfl _ zs zs rfl Z4 69 p0a HZ HZ HZ1 ?_;intro w10 K10 O10 hg10)|fail)
  refine bodyPost_ret (v:=.tuple #[.agg zs.toArray,.int .i64 2]) ?_ rfl (HQ.o _ _ rfl (c0a L4.o O10.o (by omega)));exact j0a rfl _ _ h _ _ (0,0) _ rfl K10.o underlying34 rfl (by rw[p0a];have:=HZ.o;simp[this]) rfl
 go_enter func69,ntmps69;go_upto_if 13 with(first|((with_reducible refine sN 4 ?_);refine b0a rfl _ rfl zs _ ZH ?_;intro h w1 hg1 hg2 Z1 L1)|((with_reducible refine sN 6 ?_);refine b0a rfl _ rfl zs _ ZH ?_;intro a w2 hg3 hg4 K2 L02;have Z2:=hI (Z1.o.over L02.o);have L2:=hI (step L1.o L02.o);have hha:h≠a:=(by omega);have hwa:w.heap.size<=a:=(by have:=L1.o.size;omega);have hsz2:=L2.o.size)|((with_reducible refine sN 10 ?_);refine v0a rfl _ _ rfl ([.slice A n k,.int .i64 0,.int .i64 0]:List Value) (by refine Eq.trans ?_ BR;kernel_rfl) ?_)|((with_reducible refine sN 7 ?_);refine b0a rfl _ rfl ([.slice none 0 0,.int .i64 0,.int .i64 0]:List Value) _ ZR ?_;intro g w3 hg5 hg6 R3 L03;have K3:=hI (K2.o.over L03.o);have Z3:=hI (Z2.o.over L03.o);have L3:=hI (step L2.o L03.o);have hag:a≠g:=(by omega);have hhg:h≠g:=(by have:=Z2.o.lt;omega);have hwg:w.heap.size<=g:=(by omega))|((with_reducible refine sT 7 ?_);refine a0a rfl _ (.tmp 7) (.tmp 10) rfl g rfl _ ([.slice none 0 0,.int .i64 0,.int .i64 0]:List Value) ([.slice A n k,.int .i64 0,.int .i64 0]:List Value) rfl R3 3 G1b HR0 HR1 HR2 ?_;intro w4 R4 O4 hg7;have K4:=hI (K3.o.only O4.o hag);have Z4:=hI (Z3.o.only O4.o hhg);have L4:=hI (c0a L3.o O4.o hwg))|fail)
 have P4:Hid (PI w4 g w.heap.size A n k xs rd0):=⟨Nat.zero_le _,hwg,R4.o,HX.o.below L4.o⟩;clear R3 L03 K2 K3 Z1 Z2 Z3 L02 L1 L2 L3 R4 O4 HX;rcases T4a hk with h12 | h14 | h16 | h17 | h18
 subst h12;have D1:Hid (IRd w A n k xs 112 [.int .i64 4] (.tuple #[]) rd0 (rdZ xs 4 rd0)):=λw' g hs h=>V4a w' g _ A n k xs _ 4 h (by decide) hs
 have DE:=hI fun (w':World) (g:Nat) h=>r3a w' g w.heap.size A n k xs (rdZ xs 4 rd0) h
 have hgp:igP 12 xs=(i0a,(rdZ xs 4 rd0)):=by unfold igP;rw[if_neg (by decide),if_neg (by decide),if_neg (by decide),if_neg (by decide)]
 have hge:l4a 12 xs=Q0a xs (rdZ xs 4 rd0):=by unfold l4a;rw[if_pos hk,hgp]
 have HQ:Hid (∀(cs:List Value) (e:Ending) (w':World),Q0a xs (rdZ xs 4 rd0)=0->e=.returned (.tuple #[.agg cs.toArray,.int .i64 0])->g1a w' w'.heap.size cs i0a->cs[61]? = some (.slice none 0 0)->BW w w'->f2a w 12 xs e w'):=by
  intro cs e w' h0 h1 h2 h3 h5;have ho:m7a 12 xs=i0a:=by unfold m7a;rw[hge,h0,if_pos rfl,hgp]
  unfold f2a;rw[hge,h0,ho];exact⟨cs,h1,h2,h3,h5⟩
 have HE':=hI (HE.o _ hge);obtain⟨er,her⟩:=xX (Q0a xs (rdZ xs 4 rd0));rw[<-her] at DE HQ HE';obtain⟨q1,hq1⟩:=xX (rdZ xs 4 rd0);rw[<-hq1] at D1 DE;clear HE hk hx her hge hgp hq1;go_wp2_with fail;refine(D1.o w4 g L4.o.size P4.o).mono ?_;rintro e wz ⟨rfl,hP,hS⟩;obtain⟨Pz,Zz,Kz,Lz⟩:=l2a hP hS Z4 K4 L4 hhg hag hwg;clear hP hS P4 Z4 K4 L4;go_wp2_with fail;obtain⟨CF,hCF⟩:=xX zs;have HLF:Hid (CF.length=69):=by rw[hCF];exact HZ.o
 have HCF:=hI hCF;rw[<-hCF] at Kz;clear hCF;have HEQ:Hid (CF=l0a (.slice none 0 0) (.slice none 0 0) (.slice none 0 0) i0a):=by
  show _=_
  rw[HCF.o,HZS.o]
 rotate_left;subst h14;have D1:Hid (IRd w A n k xs 110 [] (.int .u64 (l1 xs).1) rd0 ((l1 xs).2)):=λw' g hs h=>l3a w' g _ A n k xs _ hby h
 have D2:Hid (IRd w A n k xs 111 [] (.int .u16 (l2 xs).1) ((l1 xs).2) ((l2 xs).2)):=λw' g hs h=>f8a w' g _ A n k xs _ hby h
 have D3:Hid (IRd w A n k xs 112 [.int .i64 2] (.tuple #[]) ((l2 xs).2) (l3 xs)):=λw' g hs h=>V4a w' g _ A n k xs _ 2 h (by decide) hs
 have D4:Hid (IRd w A n k xs 113 [] (.string ⟨(l4 xs).1.toArray⟩) (l3 xs) ((l4 xs).2)):=λw' g hs h=>y8a w' g _ A n k xs _ h hs
 have D5:Hid (IRd w A n k xs 113 [] (.string ⟨(l5 xs).1.toArray⟩) ((l4 xs).2) ((l5 xs).2)):=λw' g hs h=>y8a w' g _ A n k xs _ h hs
 have DE:=hI fun (w':World) (g:Nat) h=>r3a w' g w.heap.size A n k xs (l5 xs).2 h
 have hgp:igP 14 xs=({ i0a with file:=(l1 xs).1,most:=(l2 xs).1,pat:=⟨(l4 xs).1.toArray⟩,aft:=⟨(l5 xs).1.toArray⟩ },(l5 xs).2):=by unfold igP;rw[if_pos rfl]
 have hge:l4a 14 xs=Q0a xs (l5 xs).2:=by unfold l4a;rw[if_pos hk,hgp]
 have HQ:Hid (∀(cs:List Value) (e:Ending) (w':World),Q0a xs (l5 xs).2=0->e=.returned (.tuple #[.agg cs.toArray,.int .i64 0])->g1a w' w'.heap.size cs { i0a with file:=(l1 xs).1,most:=(l2 xs).1,pat:=⟨(l4 xs).1.toArray⟩,aft:=⟨(l5 xs).1.toArray⟩ }->cs[61]? = some (.slice none 0 0)->BW w w'->f2a w 14 xs e w'):=by
  intro cs e w' h0 h1 h2 h3 h5;have ho:m7a 14 xs={ i0a with file:=(l1 xs).1,most:=(l2 xs).1,pat:=⟨(l4 xs).1.toArray⟩,aft:=⟨(l5 xs).1.toArray⟩ }:=by unfold m7a;rw[hge,h0,if_pos rfl,hgp]
  unfold f2a;rw[hge,h0,ho];exact⟨cs,h1,h2,h3,h5⟩
 have HE':=hI (HE.o _ hge);obtain⟨er,her⟩:=xX (Q0a xs (l5 xs).2);rw[<-her] at DE HQ HE';obtain⟨q1,hq1⟩:=xX (l1 xs);rw[<-hq1] at D1 D2 HQ;obtain⟨q2,hq2⟩:=xX (l2 xs);rw[<-hq2] at D2 D3 HQ;obtain⟨q3,hq3⟩:=xX (l3 xs);rw[<-hq3] at D3 D4;obtain⟨q4,hq4⟩:=xX (l4 xs);rw[<-hq4] at D4 D5 HQ;obtain⟨q5,hq5⟩:=xX (l5 xs);rw[<-hq5] at D5 DE HQ;clear HE hk hx her hge hgp hq1 hq2 hq3 hq4 hq5;go_wp2_with fail;refine(D1.o w4 g L4.o.size P4.o).mono ?_;rintro e v1 ⟨rfl,hP,hS⟩;obtain⟨Pc1,Zc1,Kc1,Lc1⟩:=l2a hP hS Z4 K4 L4 hhg hag hwg;clear hP hS P4 Z4 K4 L4;go_wp2_with fail;refine(D2.o v1 g Lc1.o.size Pc1.o).mono ?_;rintro e v2 ⟨rfl,hP,hS⟩;obtain⟨Pc2,Zc2,Kc2,Lc2⟩:=l2a hP hS Zc1 Kc1 Lc1 hhg hag hwg;clear hP hS Pc1 Zc1 Kc1 Lc1;go_wp2_with(first|((with_reducible refine sT 17 ?_);refine f0a rfl _ (.tmp 17) (.tmp 15) rfl a 57 rfl _ zs (.int .u64 q1.1) rfl Kc2 HZ (by decide) (by kernel_rfl) rfl ?_;intro x1 C1 HC1 HL1 Ks1 Os1 hqs1;obtain⟨Ps1,Zs1,Ls1⟩:=C2a (Pc2.o.only Os1.o (Ne.symm hag) hwa) Zc2 Lc2 Os1 hha hwa)|((with_reducible refine sT 18 ?_);refine f0a rfl _ (.tmp 18) (.tmp 16) rfl a 63 rfl _ C1 (.int .u16 q2.1) rfl Ks1 HL1 (by decide) (by kernel_rfl) rfl ?_;intro x2 C2 HC2 HL2 Ks2 Os2 hqs2;obtain⟨Ps2,Zs2,Ls2⟩:=C2a (Ps1.o.only Os2.o (Ne.symm hag) hwa) Zs1 Ls1 Os2 hha hwa)|fail)
 refine(D3.o x2 g Ls2.o.size Ps2.o).mono ?_;rintro e v3 ⟨rfl,hP,hS⟩;obtain⟨Pc3,Zc3,Kc3,Lc3⟩:=l2a hP hS Zs2 Ks2 Ls2 hhg hag hwg;clear hP hS Ps2 Zs2 Ks2 Ls2;go_wp2_with fail;refine(D4.o v3 g Lc3.o.size Pc3.o).mono ?_;rintro e v4 ⟨rfl,hP,hS⟩;obtain⟨Pc4,Zc4,Kc4,Lc4⟩:=l2a hP hS Zc3 Kc3 Lc3 hhg hag hwg;clear hP hS Pc3 Zc3 Kc3 Lc3;go_wp2_with fail;refine(D5.o v4 g Lc4.o.size Pc4.o).mono ?_;rintro e v5 ⟨rfl,hP,hS⟩;obtain⟨Pc5,Zc5,Kc5,Lc5⟩:=l2a hP hS Zc4 Kc4 Lc4 hhg hag hwg;clear hP hS Pc4 Zc4 Kc4 Lc4;go_wp2_with(first|((with_reducible refine sT 22 ?_);refine f0a rfl _ (.tmp 22) (.tmp 20) rfl a 64 rfl _ C2 (.string ⟨q4.1.toArray⟩) rfl Kc5 HL2 (by decide) (by kernel_rfl) rfl ?_;intro x3 C3 HC3 HL3 Ks3 Os3 hqs3;obtain⟨Ps3,Zs3,Ls3⟩:=C2a (Pc5.o.only Os3.o (Ne.symm hag) hwa) Zc5 Lc5 Os3 hha hwa)|((with_reducible refine sT 23 ?_);refine f0a rfl _ (.tmp 23) (.tmp 21) rfl a 65 rfl _ C3 (.string ⟨q5.1.toArray⟩) rfl Ks3 HL3 (by decide) (by kernel_rfl) rfl ?_;intro wz CF HCF HLF Kz Oz hqz;obtain⟨Pz,Zz,Lz⟩:=C2a (Ps3.o.only Oz.o (Ne.symm hag) hwa) Zs3 Ls3 Oz hha hwa)|fail)
 have HEQ:Hid (CF=l0a (.slice none 0 0) (.slice none 0 0) (.slice none 0 0) { i0a with file:=q1.1,most:=q2.1,pat:=⟨q4.1.toArray⟩,aft:=⟨q5.1.toArray⟩ }):=by
  show _=_
  rw[HCF.o,HC3.o,HC2.o,HC1.o,HZS.o];rfl
 rotate_left;subst h16;have D1:Hid (IRd w A n k xs 110 [] (.int .u64 (l1 xs).1) rd0 ((l1 xs).2)):=λw' g hs h=>l3a w' g _ A n k xs _ hby h
 have DE:=hI fun (w':World) (g:Nat) h=>r3a w' g w.heap.size A n k xs (l1 xs).2 h
 have hgp:igP 16 xs=({ i0a with file:=(l1 xs).1 },(l1 xs).2):=by unfold igP;rw[if_neg (by decide),if_pos rfl]
 have hge:l4a 16 xs=Q0a xs (l1 xs).2:=by unfold l4a;rw[if_pos hk,hgp]
 have HQ:Hid (∀(cs:List Value) (e:Ending) (w':World),Q0a xs (l1 xs).2=0->e=.returned (.tuple #[.agg cs.toArray,.int .i64 0])->g1a w' w'.heap.size cs { i0a with file:=(l1 xs).1 }->cs[61]? = some (.slice none 0 0)->BW w w'->f2a w 16 xs e w'):=by
  intro cs e w' h0 h1 h2 h3 h5;have ho:m7a 16 xs={ i0a with file:=(l1 xs).1 }:=by unfold m7a;rw[hge,h0,if_pos rfl,hgp]
  unfold f2a;rw[hge,h0,ho];exact⟨cs,h1,h2,h3,h5⟩
 have HE':=hI (HE.o _ hge);obtain⟨er,her⟩:=xX (Q0a xs (l1 xs).2);rw[<-her] at DE HQ HE';obtain⟨q1,hq1⟩:=xX (l1 xs);rw[<-hq1] at D1 DE HQ;clear HE hk hx her hge hgp hq1;go_wp2_with fail;refine(D1.o w4 g L4.o.size P4.o).mono ?_;rintro e v1 ⟨rfl,hP,hS⟩;obtain⟨Pc1,Zc1,Kc1,Lc1⟩:=l2a hP hS Z4 K4 L4 hhg hag hwg;clear hP hS P4 Z4 K4 L4;go_wp2_with(first|((with_reducible refine sT 27 ?_);refine f0a rfl _ (.tmp 27) (.tmp 26) rfl a 57 rfl _ zs (.int .u64 q1.1) rfl Kc1 HZ (by decide) (by kernel_rfl) rfl ?_;intro wz CF HCF HLF Kz Oz hqz;obtain⟨Pz,Zz,Lz⟩:=C2a (Pc1.o.only Oz.o (Ne.symm hag) hwa) Zc1 Lc1 Oz hha hwa)|fail)
 have HEQ:Hid (CF=l0a (.slice none 0 0) (.slice none 0 0) (.slice none 0 0) { i0a with file:=q1.1 }):=by
  show _=_
  rw[HCF.o,HZS.o];rfl
 rotate_left;subst h17;by_cases c1:(l2 xs).1=1;have D1:Hid (IRd w A n k xs 110 [] (.int .u64 (l1 xs).1) rd0 ((l1 xs).2)):=λw' g hs h=>l3a w' g _ A n k xs _ hby h
 have D2:Hid (IRd w A n k xs 111 [] (.int .u16 (l2 xs).1) ((l1 xs).2) ((l2 xs).2)):=λw' g hs h=>f8a w' g _ A n k xs _ hby h
 have D3:Hid (IRd w A n k xs 110 [] (.int .u64 (t3 xs).1) ((l2 xs).2) ((t3 xs).2)):=λw' g hs h=>l3a w' g _ A n k xs _ hby h
 have DE:=hI fun (w':World) (g:Nat) h=>r3a w' g w.heap.size A n k xs (t3 xs).2 h
 have hgp:igP 17 xs=({ i0a with file:=(l1 xs).1,cls:=(l2 xs).1,siz:=(t3 xs).1 },(t3 xs).2):=by unfold igP;rw[if_neg (by decide),if_neg (by decide),if_pos rfl,if_pos c1]
 have hge:l4a 17 xs=Q0a xs (t3 xs).2:=by unfold l4a;rw[if_pos hk,hgp]
 have HQ:Hid (∀(cs:List Value) (e:Ending) (w':World),Q0a xs (t3 xs).2=0->e=.returned (.tuple #[.agg cs.toArray,.int .i64 0])->g1a w' w'.heap.size cs { i0a with file:=(l1 xs).1,cls:=(l2 xs).1,siz:=(t3 xs).1 }->cs[61]? = some (.slice none 0 0)->BW w w'->f2a w 17 xs e w'):=by
  intro cs e w' h0 h1 h2 h3 h5;have ho:m7a 17 xs={ i0a with file:=(l1 xs).1,cls:=(l2 xs).1,siz:=(t3 xs).1 }:=by unfold m7a;rw[hge,h0,if_pos rfl,hgp]
  unfold f2a;rw[hge,h0,ho];exact⟨cs,h1,h2,h3,h5⟩
 have HE':=hI (HE.o _ hge);obtain⟨er,her⟩:=xX (Q0a xs (t3 xs).2);rw[<-her] at DE HQ HE';have cf1:((l2 xs).1==1)=true:=by simpa using c1
 clear c1;obtain⟨q1,hq1⟩:=xX (l1 xs);rw[<-hq1] at D1 D2 HQ;obtain⟨q2,hq2⟩:=xX (l2 xs);rw[<-hq2] at D2 D3 HQ cf1;obtain⟨q3,hq3⟩:=xX (t3 xs);rw[<-hq3] at D3 DE HQ;clear HE hk hx her hge hgp hq1 hq2 hq3;go_wp2_with fail;refine(D1.o w4 g L4.o.size P4.o).mono ?_;rintro e v1 ⟨rfl,hP,hS⟩;obtain⟨Pc1,Zc1,Kc1,Lc1⟩:=l2a hP hS Z4 K4 L4 hhg hag hwg;clear hP hS P4 Z4 K4 L4;go_wp2_with fail;refine(D2.o v1 g Lc1.o.size Pc1.o).mono ?_;rintro e v2 ⟨rfl,hP,hS⟩;obtain⟨Pc2,Zc2,Kc2,Lc2⟩:=l2a hP hS Zc1 Kc1 Lc1 hhg hag hwg;clear hP hS Pc1 Zc1 Kc1 Lc1;go_wp2_with(first|((with_reducible refine sT 32 ?_);refine f0a rfl _ (.tmp 32) (.tmp 30) rfl a 57 rfl _ zs (.int .u64 q1.1) rfl Kc2 HZ (by decide) (by kernel_rfl) rfl ?_;intro x1 C1 HC1 HL1 Ks1 Os1 hqs1;obtain⟨Ps1,Zs1,Ls1⟩:=C2a (Pc2.o.only Os1.o (Ne.symm hag) hwa) Zc2 Lc2 Os1 hha hwa)|((with_reducible refine sT 33 ?_);refine f0a rfl _ (.tmp 33) (.tmp 31) rfl a 66 rfl _ C1 (.int .u16 q2.1) rfl Ks1 HL1 (by decide) (by kernel_rfl) rfl ?_;intro x2 C2 HC2 HL2 Ks2 Os2 hqs2;obtain⟨Ps2,Zs2,Ls2⟩:=C2a (Ps1.o.only Os2.o (Ne.symm hag) hwa) Zs1 Ls1 Os2 hha hwa;have hcl:x2.cell? ⟨a,66,none⟩=some (.int .u16 q2.1):=(Ks2.o.at (by rw[HC2.o];exact List.getElem?_set_self (by have:=HL1.o;omega))))|fail)
 refine(D3.o x2 g Ls2.o.size Ps2.o).mono ?_;rintro e v3 ⟨rfl,hP,hS⟩;obtain⟨Pc3,Zc3,Kc3,Lc3⟩:=l2a hP hS Zs2 Ks2 Ls2 hhg hag hwg;clear hP hS Ps2 Zs2 Ks2 Ls2;go_wp2_with(first|((with_reducible refine sT 40 ?_);refine f0a rfl _ (.tmp 40) (.tmp 39) rfl a 67 rfl _ C2 (.int .u64 q3.1) rfl Kc3 HL2 (by decide) (by kernel_rfl) rfl ?_;intro wz CF HCF HLF Kz Oz hqz;obtain⟨Pz,Zz,Lz⟩:=C2a (Pc3.o.only Oz.o (Ne.symm hag) hwa) Zc3 Lc3 Oz hha hwa)|fail)
 have HEQ:Hid (CF=l0a (.slice none 0 0) (.slice none 0 0) (.slice none 0 0) { i0a with file:=q1.1,cls:=q2.1,siz:=q3.1 }):=by
  show _=_
  rw[HCF.o,HC2.o,HC1.o,HZS.o];rfl
 rotate_left;by_cases c2:(l2 xs).1=2;have D1:Hid (IRd w A n k xs 110 [] (.int .u64 (l1 xs).1) rd0 ((l1 xs).2)):=λw' g hs h=>l3a w' g _ A n k xs _ hby h
 have D2:Hid (IRd w A n k xs 111 [] (.int .u16 (l2 xs).1) ((l1 xs).2) ((l2 xs).2)):=λw' g hs h=>f8a w' g _ A n k xs _ hby h
 have D3:Hid (IRd w A n k xs 114 [] (.bool ((t4 xs).1 != 0)) ((l2 xs).2) ((t4 xs).2)):=λw' g hs h=>c7a w' g _ A n k xs _ hby h
 have DE:=hI fun (w':World) (g:Nat) h=>r3a w' g w.heap.size A n k xs (t4 xs).2 h
 have hgp:igP 17 xs=({ i0a with file:=(l1 xs).1,cls:=(l2 xs).1,on:=((t4 xs).1 != 0) },(t4 xs).2):=by unfold igP;rw[if_neg (by decide),if_neg (by decide),if_pos rfl,if_neg c1,if_pos c2]
 have hge:l4a 17 xs=Q0a xs (t4 xs).2:=by unfold l4a;rw[if_pos hk,hgp]
 have HQ:Hid (∀(cs:List Value) (e:Ending) (w':World),Q0a xs (t4 xs).2=0->e=.returned (.tuple #[.agg cs.toArray,.int .i64 0])->g1a w' w'.heap.size cs { i0a with file:=(l1 xs).1,cls:=(l2 xs).1,on:=((t4 xs).1 != 0) }->cs[61]? = some (.slice none 0 0)->BW w w'->f2a w 17 xs e w'):=by
  intro cs e w' h0 h1 h2 h3 h5;have ho:m7a 17 xs={ i0a with file:=(l1 xs).1,cls:=(l2 xs).1,on:=((t4 xs).1 != 0) }:=by unfold m7a;rw[hge,h0,if_pos rfl,hgp]
  unfold f2a;rw[hge,h0,ho];exact⟨cs,h1,h2,h3,h5⟩
 have HE':=hI (HE.o _ hge);obtain⟨er,her⟩:=xX (Q0a xs (t4 xs).2);rw[<-her] at DE HQ HE';have cf1:((l2 xs).1==1)=false:=by simpa using c1
 have cf2:((l2 xs).1==2)=true:=by simpa using c2
 clear c1 c2;obtain⟨q1,hq1⟩:=xX (l1 xs);rw[<-hq1] at D1 D2 HQ;obtain⟨q2,hq2⟩:=xX (l2 xs);rw[<-hq2] at D2 D3 HQ cf1 cf2;obtain⟨tb,htb⟩:=xX (((t4 xs).1 != 0));rw[<-htb] at D3 HQ;obtain⟨q3,hq3⟩:=xX ((t4 xs).2);rw[<-hq3] at D3 DE;clear HE hk hx her hge hgp hq1 hq2 htb hq3;go_wp2_with fail;refine(D1.o w4 g L4.o.size P4.o).mono ?_;rintro e v1 ⟨rfl,hP,hS⟩;obtain⟨Pc1,Zc1,Kc1,Lc1⟩:=l2a hP hS Z4 K4 L4 hhg hag hwg;clear hP hS P4 Z4 K4 L4;go_wp2_with fail;refine(D2.o v1 g Lc1.o.size Pc1.o).mono ?_;rintro e v2 ⟨rfl,hP,hS⟩;obtain⟨Pc2,Zc2,Kc2,Lc2⟩:=l2a hP hS Zc1 Kc1 Lc1 hhg hag hwg;clear hP hS Pc1 Zc1 Kc1 Lc1;go_wp2_with(first|((with_reducible refine sT 32 ?_);refine f0a rfl _ (.tmp 32) (.tmp 30) rfl a 57 rfl _ zs (.int .u64 q1.1) rfl Kc2 HZ (by decide) (by kernel_rfl) rfl ?_;intro x1 C1 HC1 HL1 Ks1 Os1 hqs1;obtain⟨Ps1,Zs1,Ls1⟩:=C2a (Pc2.o.only Os1.o (Ne.symm hag) hwa) Zc2 Lc2 Os1 hha hwa)|((with_reducible refine sT 33 ?_);refine f0a rfl _ (.tmp 33) (.tmp 31) rfl a 66 rfl _ C1 (.int .u16 q2.1) rfl Ks1 HL1 (by decide) (by kernel_rfl) rfl ?_;intro x2 C2 HC2 HL2 Ks2 Os2 hqs2;obtain⟨Ps2,Zs2,Ls2⟩:=C2a (Ps1.o.only Os2.o (Ne.symm hag) hwa) Zs1 Ls1 Os2 hha hwa;have hcl:x2.cell? ⟨a,66,none⟩=some (.int .u16 q2.1):=(Ks2.o.at (by rw[HC2.o];exact List.getElem?_set_self (by have:=HL1.o;omega))))|fail)
 refine(D3.o x2 g Ls2.o.size Ps2.o).mono ?_;rintro e v3 ⟨rfl,hP,hS⟩;obtain⟨Pc3,Zc3,Kc3,Lc3⟩:=l2a hP hS Zs2 Ks2 Ls2 hhg hag hwg;clear hP hS Ps2 Zs2 Ks2 Ls2;go_wp2_with(first|((with_reducible refine sT 44 ?_);refine f0a rfl _ (.tmp 44) (.tmp 43) rfl a 68 rfl _ C2 (.bool tb) rfl Kc3 HL2 (by decide) (by kernel_rfl) rfl ?_;intro wz CF HCF HLF Kz Oz hqz;obtain⟨Pz,Zz,Lz⟩:=C2a (Pc3.o.only Oz.o (Ne.symm hag) hwa) Zc3 Lc3 Oz hha hwa)|fail)
 have HEQ:Hid (CF=l0a (.slice none 0 0) (.slice none 0 0) (.slice none 0 0) { i0a with file:=q1.1,cls:=q2.1,on:=tb }):=by
  show _=_
  rw[HCF.o,HC2.o,HC1.o,HZS.o];rfl
 rotate_left;by_cases c3:(l2 xs).1=3;have D1:Hid (IRd w A n k xs 110 [] (.int .u64 (l1 xs).1) rd0 ((l1 xs).2)):=λw' g hs h=>l3a w' g _ A n k xs _ hby h
 have D2:Hid (IRd w A n k xs 111 [] (.int .u16 (l2 xs).1) ((l1 xs).2) ((l2 xs).2)):=λw' g hs h=>f8a w' g _ A n k xs _ hby h
 have D3:Hid (IRd w A n k xs 114 [] (.bool ((t4 xs).1 != 0)) ((l2 xs).2) ((t4 xs).2)):=λw' g hs h=>c7a w' g _ A n k xs _ hby h
 have D4:Hid (IRd w A n k xs 113 [] (.string ⟨(t5 xs).1.toArray⟩) ((t4 xs).2) ((t5 xs).2)):=λw' g hs h=>y8a w' g _ A n k xs _ h hs
 have DE:=hI fun (w':World) (g:Nat) h=>r3a w' g w.heap.size A n k xs (t5 xs).2 h
 have hgp:igP 17 xs=({ i0a with file:=(l1 xs).1,cls:=(l2 xs).1,on:=((t4 xs).1 != 0),name:=⟨(t5 xs).1.toArray⟩ },(t5 xs).2):=by unfold igP;rw[if_neg (by decide),if_neg (by decide),if_pos rfl,if_neg c1,if_neg c2,if_pos c3]
 have hge:l4a 17 xs=Q0a xs (t5 xs).2:=by unfold l4a;rw[if_pos hk,hgp]
 have HQ:Hid (∀(cs:List Value) (e:Ending) (w':World),Q0a xs (t5 xs).2=0->e=.returned (.tuple #[.agg cs.toArray,.int .i64 0])->g1a w' w'.heap.size cs { i0a with file:=(l1 xs).1,cls:=(l2 xs).1,on:=((t4 xs).1 != 0),name:=⟨(t5 xs).1.toArray⟩ }->cs[61]? = some (.slice none 0 0)->BW w w'->f2a w 17 xs e w'):=by
  intro cs e w' h0 h1 h2 h3 h5;have ho:m7a 17 xs={ i0a with file:=(l1 xs).1,cls:=(l2 xs).1,on:=((t4 xs).1 != 0),name:=⟨(t5 xs).1.toArray⟩ }:=by unfold m7a;rw[hge,h0,if_pos rfl,hgp]
  unfold f2a;rw[hge,h0,ho];exact⟨cs,h1,h2,h3,h5⟩
 have HE':=hI (HE.o _ hge);obtain⟨er,her⟩:=xX (Q0a xs (t5 xs).2);rw[<-her] at DE HQ HE';have cf1:((l2 xs).1==1)=false:=by simpa using c1
 have cf2:((l2 xs).1==2)=false:=by simpa using c2
 have cf3:((l2 xs).1==3)=true:=by simpa using c3
 clear c1 c2 c3;obtain⟨q1,hq1⟩:=xX (l1 xs);rw[<-hq1] at D1 D2 HQ;obtain⟨q2,hq2⟩:=xX (l2 xs);rw[<-hq2] at D2 D3 HQ cf1 cf2 cf3;obtain⟨tb,htb⟩:=xX (((t4 xs).1 != 0));rw[<-htb] at D3 HQ;obtain⟨q3,hq3⟩:=xX ((t4 xs).2);rw[<-hq3] at D3 D4;obtain⟨q4,hq4⟩:=xX (t5 xs);rw[<-hq4] at D4 DE HQ;clear HE hk hx her hge hgp hq1 hq2 htb hq3 hq4;go_wp2_with fail;refine(D1.o w4 g L4.o.size P4.o).mono ?_;rintro e v1 ⟨rfl,hP,hS⟩;obtain⟨Pc1,Zc1,Kc1,Lc1⟩:=l2a hP hS Z4 K4 L4 hhg hag hwg;clear hP hS P4 Z4 K4 L4;go_wp2_with fail;refine(D2.o v1 g Lc1.o.size Pc1.o).mono ?_;rintro e v2 ⟨rfl,hP,hS⟩;obtain⟨Pc2,Zc2,Kc2,Lc2⟩:=l2a hP hS Zc1 Kc1 Lc1 hhg hag hwg;clear hP hS Pc1 Zc1 Kc1 Lc1;go_wp2_with(first|((with_reducible refine sT 32 ?_);refine f0a rfl _ (.tmp 32) (.tmp 30) rfl a 57 rfl _ zs (.int .u64 q1.1) rfl Kc2 HZ (by decide) (by kernel_rfl) rfl ?_;intro x1 C1 HC1 HL1 Ks1 Os1 hqs1;obtain⟨Ps1,Zs1,Ls1⟩:=C2a (Pc2.o.only Os1.o (Ne.symm hag) hwa) Zc2 Lc2 Os1 hha hwa)|((with_reducible refine sT 33 ?_);refine f0a rfl _ (.tmp 33) (.tmp 31) rfl a 66 rfl _ C1 (.int .u16 q2.1) rfl Ks1 HL1 (by decide) (by kernel_rfl) rfl ?_;intro x2 C2 HC2 HL2 Ks2 Os2 hqs2;obtain⟨Ps2,Zs2,Ls2⟩:=C2a (Ps1.o.only Os2.o (Ne.symm hag) hwa) Zs1 Ls1 Os2 hha hwa;have hcl:x2.cell? ⟨a,66,none⟩=some (.int .u16 q2.1):=(Ks2.o.at (by rw[HC2.o];exact List.getElem?_set_self (by have:=HL1.o;omega))))|fail)
 refine(D3.o x2 g Ls2.o.size Ps2.o).mono ?_;rintro e v3 ⟨rfl,hP,hS⟩;obtain⟨Pc3,Zc3,Kc3,Lc3⟩:=l2a hP hS Zs2 Ks2 Ls2 hhg hag hwg;clear hP hS Ps2 Zs2 Ks2 Ls2;go_wp2_with(first|((with_reducible refine sT 48 ?_);refine f0a rfl _ (.tmp 48) (.tmp 47) rfl a 68 rfl _ C2 (.bool tb) rfl Kc3 HL2 (by decide) (by kernel_rfl) rfl ?_;intro x3 C3 HC3 HL3 Ks3 Os3 hqs3;obtain⟨Ps3,Zs3,Ls3⟩:=C2a (Pc3.o.only Os3.o (Ne.symm hag) hwa) Zc3 Lc3 Os3 hha hwa)|fail)
 refine(D4.o x3 g Ls3.o.size Ps3.o).mono ?_;rintro e v4 ⟨rfl,hP,hS⟩;obtain⟨Pc4,Zc4,Kc4,Lc4⟩:=l2a hP hS Zs3 Ks3 Ls3 hhg hag hwg;clear hP hS Ps3 Zs3 Ks3 Ls3;go_wp2_with(first|((with_reducible refine sT 50 ?_);refine f0a rfl _ (.tmp 50) (.tmp 49) rfl a 58 rfl _ C3 (.string ⟨q4.1.toArray⟩) rfl Kc4 HL3 (by decide) (by kernel_rfl) rfl ?_;intro wz CF HCF HLF Kz Oz hqz;obtain⟨Pz,Zz,Lz⟩:=C2a (Pc4.o.only Oz.o (Ne.symm hag) hwa) Zc4 Lc4 Oz hha hwa)|fail)
 have HEQ:Hid (CF=l0a (.slice none 0 0) (.slice none 0 0) (.slice none 0 0) { i0a with file:=q1.1,cls:=q2.1,on:=tb,name:=⟨q4.1.toArray⟩ }):=by
  show _=_
  rw[HCF.o,HC3.o,HC2.o,HC1.o,HZS.o];rfl
 rotate_left;have D1:Hid (IRd w A n k xs 110 [] (.int .u64 (l1 xs).1) rd0 ((l1 xs).2)):=λw' g hs h=>l3a w' g _ A n k xs _ hby h
 have D2:Hid (IRd w A n k xs 111 [] (.int .u16 (l2 xs).1) ((l1 xs).2) ((l2 xs).2)):=λw' g hs h=>f8a w' g _ A n k xs _ hby h
 have D3:Hid (IRd w A n k xs 115 [.int .i64 5] (.tuple #[]) ((l2 xs).2) (q3a 5 (l2 xs).2)):=λw' g hs h=>q5a w' g _ A n k xs _ 5 h
 have DE:=hI fun (w':World) (g:Nat) h=>r3a w' g w.heap.size A n k xs (q3a 5 (l2 xs).2) h
 have hgp:igP 17 xs=({ i0a with file:=(l1 xs).1,cls:=(l2 xs).1 },(q3a 5 (l2 xs).2)):=by unfold igP;rw[if_neg (by decide),if_neg (by decide),if_pos rfl,if_neg c1,if_neg c2,if_neg c3]
 have hge:l4a 17 xs=Q0a xs (q3a 5 (l2 xs).2):=by unfold l4a;rw[if_pos hk,hgp]
 have HQ:Hid (∀(cs:List Value) (e:Ending) (w':World),Q0a xs (q3a 5 (l2 xs).2)=0->e=.returned (.tuple #[.agg cs.toArray,.int .i64 0])->g1a w' w'.heap.size cs { i0a with file:=(l1 xs).1,cls:=(l2 xs).1 }->cs[61]? = some (.slice none 0 0)->BW w w'->f2a w 17 xs e w'):=by
  intro cs e w' h0 h1 h2 h3 h5;have ho:m7a 17 xs={ i0a with file:=(l1 xs).1,cls:=(l2 xs).1 }:=by unfold m7a;rw[hge,h0,if_pos rfl,hgp]
  unfold f2a;rw[hge,h0,ho];exact⟨cs,h1,h2,h3,h5⟩
 have HE':=hI (HE.o _ hge);obtain⟨er,her⟩:=xX (Q0a xs (q3a 5 (l2 xs).2));rw[<-her] at DE HQ HE';have cf1:((l2 xs).1==1)=false:=by simpa using c1
 have cf2:((l2 xs).1==2)=false:=by simpa using c2
 have cf3:((l2 xs).1==3)=false:=by simpa using c3
 clear c1 c2 c3;obtain⟨q1,hq1⟩:=xX (l1 xs);rw[<-hq1] at D1 D2 HQ;obtain⟨q2,hq2⟩:=xX (l2 xs);rw[<-hq2] at D2 D3 DE HQ cf1 cf2 cf3;obtain⟨q3,hq3⟩:=xX (q3a 5 q2.2);rw[<-hq3] at D3 DE;clear HE hk hx her hge hgp hq1 hq2 hq3;go_wp2_with fail;refine(D1.o w4 g L4.o.size P4.o).mono ?_;rintro e v1 ⟨rfl,hP,hS⟩;obtain⟨Pc1,Zc1,Kc1,Lc1⟩:=l2a hP hS Z4 K4 L4 hhg hag hwg;clear hP hS P4 Z4 K4 L4;go_wp2_with fail;refine(D2.o v1 g Lc1.o.size Pc1.o).mono ?_;rintro e v2 ⟨rfl,hP,hS⟩;obtain⟨Pc2,Zc2,Kc2,Lc2⟩:=l2a hP hS Zc1 Kc1 Lc1 hhg hag hwg;clear hP hS Pc1 Zc1 Kc1 Lc1;go_wp2_with(first|((with_reducible refine sT 32 ?_);refine f0a rfl _ (.tmp 32) (.tmp 30) rfl a 57 rfl _ zs (.int .u64 q1.1) rfl Kc2 HZ (by decide) (by kernel_rfl) rfl ?_;intro x1 C1 HC1 HL1 Ks1 Os1 hqs1;obtain⟨Ps1,Zs1,Ls1⟩:=C2a (Pc2.o.only Os1.o (Ne.symm hag) hwa) Zc2 Lc2 Os1 hha hwa)|((with_reducible refine sT 33 ?_);refine f0a rfl _ (.tmp 33) (.tmp 31) rfl a 66 rfl _ C1 (.int .u16 q2.1) rfl Ks1 HL1 (by decide) (by kernel_rfl) rfl ?_;intro x2 C2 HC2 HL2 Ks2 Os2 hqs2;obtain⟨Ps2,Zs2,Ls2⟩:=C2a (Ps1.o.only Os2.o (Ne.symm hag) hwa) Zs1 Ls1 Os2 hha hwa;have hcl:x2.cell? ⟨a,66,none⟩=some (.int .u16 q2.1):=(Ks2.o.at (by rw[HC2.o];exact List.getElem?_set_self (by have:=HL1.o;omega))))|fail)
 refine(D3.o x2 g Ls2.o.size Ps2.o).mono ?_;rintro e wz ⟨rfl,hP,hS⟩;obtain⟨Pz,Zz,Kz,Lz⟩:=l2a hP hS Zs2 Ks2 Ls2 hhg hag hwg;clear hP hS Ps2 Zs2 Ks2 Ls2;go_wp2_with fail;obtain⟨CF,hCF⟩:=xX C2;have HLF:Hid (CF.length=69):=by rw[hCF];exact HL2.o
 have HCF:=hI hCF;rw[<-hCF] at Kz;clear hCF;have HEQ:Hid (CF=l0a (.slice none 0 0) (.slice none 0 0) (.slice none 0 0) { i0a with file:=q1.1,cls:=q2.1 }):=by
  show _=_
  rw[HCF.o,HC2.o,HC1.o,HZS.o];rfl
 rotate_left;subst h18;have D1:Hid (IRd w A n k xs 116 [] (.tuple #[.int .u64 (l1 xs).1,.int .u8 (k2 xs).1]) rd0 (k3 xs)):=λw' g hs h=>Z2b w' g _ A n k xs _ hby h hs
 have DE:=hI fun (w':World) (g:Nat) h=>r3a w' g w.heap.size A n k xs (k3 xs) h
 have hgp:igP 18 xs=({ i0a with file:=(l1 xs).1,lev:=(k2 xs).1 },(k3 xs)):=by unfold igP;rw[if_neg (by decide),if_neg (by decide),if_neg (by decide),if_pos rfl]
 have hge:l4a 18 xs=Q0a xs (k3 xs):=by unfold l4a;rw[if_pos hk,hgp]
 have HQ:Hid (∀(cs:List Value) (e:Ending) (w':World),Q0a xs (k3 xs)=0->e=.returned (.tuple #[.agg cs.toArray,.int .i64 0])->g1a w' w'.heap.size cs { i0a with file:=(l1 xs).1,lev:=(k2 xs).1 }->cs[61]? = some (.slice none 0 0)->BW w w'->f2a w 18 xs e w'):=by
  intro cs e w' h0 h1 h2 h3 h5;have ho:m7a 18 xs={ i0a with file:=(l1 xs).1,lev:=(k2 xs).1 }:=by unfold m7a;rw[hge,h0,if_pos rfl,hgp]
  unfold f2a;rw[hge,h0,ho];exact⟨cs,h1,h2,h3,h5⟩
 have HE':=hI (HE.o _ hge);obtain⟨er,her⟩:=xX (Q0a xs (k3 xs));rw[<-her] at DE HQ HE';obtain⟨q1,hq1⟩:=xX ((l1 xs).1);rw[<-hq1] at D1 HQ;obtain⟨q2,hq2⟩:=xX ((k2 xs).1);rw[<-hq2] at D1 HQ;obtain⟨q3,hq3⟩:=xX (k3 xs);rw[<-hq3] at D1 DE;clear HE hk hx her hge hgp hq1 hq2 hq3;go_wp2_with fail;refine(D1.o w4 g L4.o.size P4.o).mono ?_;rintro e v1 ⟨rfl,hP,hS⟩;obtain⟨Pc1,Zc1,Kc1,Lc1⟩:=l2a hP hS Z4 K4 L4 hhg hag hwg;clear hP hS P4 Z4 K4 L4;go_wp2_with(first|((with_reducible refine sT 57 ?_);refine f0a rfl _ (.tmp 57) (.tmp 55) rfl a 57 rfl _ zs (.int .u64 q1) rfl Kc1 HZ (by decide) (by kernel_rfl) rfl ?_;intro x1 C1 HC1 HL1 Ks1 Os1 hqs1;obtain⟨Ps1,Zs1,Ls1⟩:=C2a (Pc1.o.only Os1.o (Ne.symm hag) hwa) Zc1 Lc1 Os1 hha hwa)|((with_reducible refine sT 58 ?_);refine f0a rfl _ (.tmp 58) (.tmp 56) rfl a 55 rfl _ C1 (.int .u8 q2) rfl Ks1 HL1 (by decide) (by kernel_rfl) rfl ?_;intro wz CF HCF HLF Kz Oz hqz;obtain⟨Pz,Zz,Lz⟩:=C2a (Ps1.o.only Oz.o (Ne.symm hag) hwa) Zs1 Ls1 Oz hha hwa)|fail)
 have HEQ:Hid (CF=l0a (.slice none 0 0) (.slice none 0 0) (.slice none 0 0) { i0a with file:=q1,lev:=q2 }):=by
  show _=_
  rw[HCF.o,HC1.o,HZS.o];rfl
 rotate_left;all_goals
  refine(DE.o wz g Pz.o).mono ?_;rintro e ve ⟨rfl,hS⟩;have ZE:=hI (Zz.o.save hS hhg);have KE:=hI (Kz.o.save hS hag);have LE:=hI (Lz.o.trans (hS.below hwg Lz.o.size));clear hS Pz Zz Kz Lz;by_cases he:er=0;rotate_left
  ·have hne:(er != 0)=true:=by simpa using he
   have HN:=hI (HE'.o he);clear he HE' HQ;go_wp2_with(first|((with_reducible refine sN 65 ?_);refine r0a rfl _ rfl zs BZ ?_)|((with_reducible refine sT 4 ?_);refine a0a rfl _ (.tmp 4) (.tmp 65) rfl h rfl _ zs zs rfl ZE 69 p0a HZ HZ HZ1 ?_;intro w10 K10 O10 hg10)|fail)
   refine bodyPost_ret (v:=.tuple #[.agg zs.toArray,.int .i64 er]) ?_ rfl (HN.o _ _ rfl (c0a LE.o O10.o (by omega)));exact j0a rfl _ _ h _ _ (0,0) _ rfl K10.o underlying34 rfl (by rw[p0a];have:=HZ.o;simp[this]) rfl
  ·subst he;have H1C:Hid (∀v∈CF,v.oneCell'=true):=by
    show _
    rw[HEQ.o];exact x1a rfl rfl rfl
   go_wp2_with(first|((with_reducible refine sN 67 ?_);refine e0a rfl _ (.tmp 6) rfl a rfl _ CF KE 69 _ underlying34 rfl p0a HLF ?_)|((with_reducible refine sT 4 ?_);refine a0a rfl _ (.tmp 4) (.tmp 67) rfl h rfl _ zs CF rfl ZE 69 p0a HZ HLF H1C ?_;intro w10 K10 O10 hg10)|fail)
   refine bodyPost_ret (v:=.tuple #[.agg CF.toArray,.int .i64 0]) ?_ rfl ?_
   ·exact j0a rfl _ _ h _ _ (0,0) _ rfl K10.o underlying34 rfl (by rw[p0a];have:=HLF.o;simp[this]) rfl
   ·have LF:BW w w10:=c0a LE.o O10.o (by omega);exact HQ.o CF _ _ (by trivial) rfl ⟨none,0,0,none,0,0,none,0,0,by rw[HEQ.o],J1a.nil _ _ _,Holds.nil _ _,c1a.nil _ _ _ _⟩ (by rw[HEQ.o];rfl) LF
theorem r2c(g:Nat)(w:World):(Instr.fieldAt 39 (.pointer (some ⟨g,0,none⟩)) 10).run prog w=.ok (.pointer (some ⟨g,17,none⟩)) w:=by go_simp
def e3a(w:World)(c:Int)(xs:List Int)(e:Ending)(w':World):Prop:=∃cs,e=.returned (.tuple #[.agg cs.toArray,.int .i64 (P5a c xs)])/\s1a w' w'.heap.size cs (K0b c xs)/\cs[15]? = some (.slice none 0 0)/\BW w w'/\(∀b off s n c,cs[17]? = some (.slice (some ⟨b,off,s⟩) n c)->w.heap.size<=b)
theorem z6b(w:World)(c:Int)(A:Option Addr)(n k:Nat)(xs:List Int)(hc:0<=c/\c<=65535)(hx:Holds w w.heap.size A n k xs) :
  Calls prog 71 #[.int .u16 c,.slice A n k] w (e3a w c xs):=by
 have hby:=hx.byte;have HX:=hI hx;have ZH:=hI q9a;have BZ:=r9a;have ZR:=hI x8b;have HZ:Hid ((u0a (.slice none 0 0) (.slice none 0 0) n0a).length=20):=m2a I0a;have HZ1:Hid (∀v∈u0a (.slice none 0 0) (.slice none 0 0) n0a,v.oneCell'=true):=(v2a w 0).one;have HZI:Hid (∀w':World,s1a w' w'.heap.size (u0a (.slice none 0 0) (.slice none 0 0) n0a) n0a):=λw'=>v2a w' _
 have HZD:Hid ((u0a (.slice none 0 0) (.slice none 0 0) n0a)[15]? = some (.slice none 0 0)):=rfl;have BR:prog.built 156 [(0,.slice A n k)]=some ([.slice A n k,.int .i64 0,.int .i64 0]:List Value).toArray:=by kernel_rfl
 have HR0:Hid (([.slice none 0 0,.int .i64 0,.int .i64 0]:List Value).length=3):=rfl;have HR1:Hid (([.slice A n k,.int .i64 0,.int .i64 0]:List Value).length=3):=rfl;have HR2:Hid (∀v∈([.slice A n k,.int .i64 0,.int .i64 0]:List Value),v.oneCell'=true):=by intro v hv;simp only[List.mem_cons,List.not_mem_nil,or_false] at hv;rcases hv with rfl | rfl | rfl<;>rfl
 have HE:Hid (∀er,P5a c xs=er->er≠0->∀e w',e=.returned (.tuple #[.agg (u0a (.slice none 0 0) (.slice none 0 0) n0a).toArray,.int .i64 er])->BW w w'->e3a w c xs e w'):=by intro er h1 h2 e w' he hb;unfold e3a K0b;rw[h1,if_neg h2];exact⟨_,he,HZI.o w',HZD.o,hb,λb off s n c h=>by have h2:some (Value.slice none 0 0)=some (Value.slice (some ⟨b,off,s⟩) n c):=h;cases h2⟩
 obtain⟨zs,hzs⟩:=xX (u0a (.slice none 0 0) (.slice none 0 0) n0a);have HZS:=hI hzs;rw[<-hzs] at ZH BZ HZ HZ1 HE;clear hzs HZI HZD;by_cases hk:i6a c=true;rotate_left
 ·have HQ:=hI (HE.o 2 (by unfold P5a;rw[if_neg hk]) (by decide));have hk':c≠14/\c≠16/\c≠17/\c≠18:=by refine⟨?_,?_,?_,?_⟩<;>(rintro rfl;exact hk (by decide))
  obtain⟨h14,h16,h17,h18⟩:=hk';have b14:(c==14)=false:=bF h14
  have b16:(c==16)=false:=bF h16
  have b17:(c==17)=false:=bF h17
  have b18:(c==18)=false:=bF h18
  clear hk HE hx h14 h16 h17 h18;go_enter func71,ntmps71;go_wp2_with(first|((with_reducible refine sN 4 ?_);refine b0a rfl _ rfl zs _ ZH ?_;intro h w1 hg1 hg2 Z1 L1)|((with_reducible refine sN 6 ?_);refine b0a rfl _ rfl zs _ ZH ?_;intro a w2 hg3 hg4 K2 L02;have Z2:=hI (Z1.o.over L02.o);have L2:=hI (step L1.o L02.o);have hha:h≠a:=(by omega);have hwa:w.heap.size<=a:=(by have:=L1.o.size;omega);have hsz2:=L2.o.size)|((with_reducible refine sN 11 ?_);refine v0a rfl _ _ rfl ([.slice A n k,.int .i64 0,.int .i64 0]:List Value) (by refine Eq.trans ?_ BR;kernel_rfl) ?_)|((with_reducible refine sN 7 ?_);refine b0a rfl _ rfl ([.slice none 0 0,.int .i64 0,.int .i64 0]:List Value) _ ZR ?_;intro g w3 hg5 hg6 R3 L03;have K3:=hI (K2.o.over L03.o);have Z3:=hI (Z2.o.over L03.o);have L3:=hI (step L2.o L03.o);have hag:a≠g:=(by omega);have hhg:h≠g:=(by have:=Z2.o.lt;omega);have hwg:w.heap.size<=g:=(by omega))|((with_reducible refine sT 7 ?_);refine a0a rfl _ (.tmp 7) (.tmp 11) rfl g rfl _ ([.slice none 0 0,.int .i64 0,.int .i64 0]:List Value) ([.slice A n k,.int .i64 0,.int .i64 0]:List Value) rfl R3 3 G1b HR0 HR1 HR2 ?_;intro w4 R4 O4 hg7;have K4:=hI (K3.o.only O4.o hag);have Z4:=hI (Z3.o.only O4.o hhg);have L4:=hI (c0a L3.o O4.o hwg))|((with_reducible refine sN 13 ?_);refine r0a rfl _ rfl zs BZ ?_)|((with_reducible refine sT 4 ?_);refine a0a rfl _ (.tmp 4) (.tmp 13) rfl h rfl _ zs zs rfl Z4 20 t0a HZ HZ HZ1 ?_;intro w10 K10 O10 hg10)|fail)
  refine bodyPost_ret (v:=.tuple #[.agg zs.toArray,.int .i64 2]) ?_ rfl (HQ.o _ _ rfl (c0a L4.o O10.o (by omega)));exact j0a rfl _ _ h _ _ (0,0) _ rfl K10.o underlying39 rfl (by rw[t0a];have:=HZ.o;simp[this]) rfl
 go_enter func71,ntmps71;go_upto_if 14 with(first|((with_reducible refine sN 4 ?_);refine b0a rfl _ rfl zs _ ZH ?_;intro h w1 hg1 hg2 Z1 L1)|((with_reducible refine sN 6 ?_);refine b0a rfl _ rfl zs _ ZH ?_;intro a w2 hg3 hg4 K2 L02;have Z2:=hI (Z1.o.over L02.o);have L2:=hI (step L1.o L02.o);have hha:h≠a:=(by omega);have hwa:w.heap.size<=a:=(by have:=L1.o.size;omega);have hsz2:=L2.o.size)|((with_reducible refine sN 11 ?_);refine v0a rfl _ _ rfl ([.slice A n k,.int .i64 0,.int .i64 0]:List Value) (by refine Eq.trans ?_ BR;kernel_rfl) ?_)|((with_reducible refine sN 7 ?_);refine b0a rfl _ rfl ([.slice none 0 0,.int .i64 0,.int .i64 0]:List Value) _ ZR ?_;intro g w3 hg5 hg6 R3 L03;have K3:=hI (K2.o.over L03.o);have Z3:=hI (Z2.o.over L03.o);have L3:=hI (step L2.o L03.o);have hag:a≠g:=(by omega);have hhg:h≠g:=(by have:=Z2.o.lt;omega);have hwg:w.heap.size<=g:=(by omega))|((with_reducible refine sT 7 ?_);refine a0a rfl _ (.tmp 7) (.tmp 11) rfl g rfl _ ([.slice none 0 0,.int .i64 0,.int .i64 0]:List Value) ([.slice A n k,.int .i64 0,.int .i64 0]:List Value) rfl R3 3 G1b HR0 HR1 HR2 ?_;intro w4 R4 O4 hg7;have K4:=hI (K3.o.only O4.o hag);have Z4:=hI (Z3.o.only O4.o hhg);have L4:=hI (c0a L3.o O4.o hwg))|fail)
 have P4:Hid (PI w4 g w.heap.size A n k xs rd0):=⟨Nat.zero_le _,hwg,R4.o,HX.o.below L4.o⟩;clear R3 L03 K2 K3 Z1 Z2 Z3 L02 L1 L2 L3 R4 O4 HX;rcases u4a hk with h14 | h16 | h17 | h18
 ·subst h14;have D1:Hid (IRd w A n k xs 122 [.int .u64 64,.int .i64 2,.int .i64 3] (.int .u64 (m1 xs).1) rd0 ((m1 xs).2)):=λw' g hs h=>F1b w' g _ A n k xs _ 2 64 3 h (by decide) (by decide)
  have D2:Hid (IRd w A n k xs 114 [] (.bool ((m2 xs).1 != 0)) ((m1 xs).2) ((m2 xs).2)):=λw' g hs h=>c7a w' g _ A n k xs _ hby h
  have DE:=hI fun (w':World) (g:Nat) h=>r3a w' g w.heap.size A n k xs (m3 xs).2 h
  have hgp:jgP 14 xs=({ n0a with ents:=(m3 xs).1,more:=((m2 xs).1 != 0) },(m3 xs).2):=by unfold jgP;rw[if_pos rfl]
  have hge:P5a 14 xs=Q0a xs (m3 xs).2:=by unfold P5a;rw[if_pos hk,hgp]
  have HQ:Hid (∀(cs:List Value) (e:Ending) (w':World),Q0a xs (m3 xs).2=0->e=.returned (.tuple #[.agg cs.toArray,.int .i64 0])->s1a w' w'.heap.size cs { n0a with ents:=(m3 xs).1,more:=((m2 xs).1 != 0) }->cs[15]? = some (.slice none 0 0)->BW w w'->(∀b off s n c,cs[17]? = some (.slice (some ⟨b,off,s⟩) n c)->w.heap.size<=b)->e3a w 14 xs e w'):=by
   intro cs e w' h0 h1 h2 h3 h5 h9;have ho:K0b 14 xs={ n0a with ents:=(m3 xs).1,more:=((m2 xs).1 != 0) }:=by unfold K0b;rw[hge,h0,if_pos rfl,hgp]
   unfold e3a;rw[hge,h0,ho];exact⟨cs,h1,h2,h3,h5,h9⟩
  have HE':=hI (HE.o _ hge);obtain⟨er,her⟩:=xX (Q0a xs (m3 xs).2);rw[<-her] at DE HQ HE';obtain⟨N,hN⟩:∃N:Nat,(m1 xs).1=(N:Int):=⟨(m1 xs).1.toNat,by have:=(o3a hby 2 64 3 rd0 ⟨by decide,by decide⟩ (by decide)).1;show(a1a xs 2 64 3 rd0).1=_;change (0:Int)<=(a1a xs 2 64 3 rd0).1 at this;show(a1a xs 2 64 3 rd0).1=((a1a xs 2 64 3 rd0).1.toNat:Int);omega⟩;have hN64:N<=64:=by have h1:=(o3a hby 2 64 3 rd0 ⟨by decide,by decide⟩ (by decide)).2;change (m1 xs).1<=64 at h1;omega
  have HM3:Hid (m3 xs=W1a xs (m2 xs).2 N):=by show _=_;unfold m3;rw[hN,Int.toNat_natCast]
  rw[hN] at D1;have HSTP:Hid (∀j,(W1a xs (m2 xs).2 (j+1)).1=(W1a xs (m2 xs).2 j).1++[(t4a xs (W1a xs (m2 xs).2 j).2).1]/\(W1a xs (m2 xs).2 (j+1)).2=(t4a xs (W1a xs (m2 xs).2 j).2).2):=λj=>⟨rfl,rfl⟩
  have HLN:Hid (∀j,(W1a xs (m2 xs).2 j).1.length=j):=λj=>T3b j
  have CEN:Hid (∀(w':World) (r:Rd) {g:Nat},w.heap.size<=w'.heap.size->PI w' g w.heap.size A n k xs r->Calls prog 123 #[.pointer (some ⟨g,0,none⟩)] w' λe w2=>e=.returned (.agg (B0a (t4a xs r).1).toArray)/\PI w2 g w.heap.size A n k xs (t4a xs r).2/\W0a g w' w2):=λw' r g hs h=>Q7b w' g _ A n k xs r hby h hs
  have BL:∀l:y1a,prog.builtSlice 108 1 [(0,.agg (B0a l).toArray)]=some (B0a l).toArray:=λl=>by kernel_rfl
  obtain⟨ents,hents⟩:=xX (W1a xs (m2 xs).2);have HE0:Hid (ents 0=([],(m2 xs).2)):=by show _=_;rw[hents];rfl
  rw[<-hents] at HM3 HSTP HLN;clear hents;obtain⟨tb,htb⟩:=xX (((m2 xs).1 != 0));rw[<-htb] at D2 HQ;obtain⟨q2,hq2⟩:=xX ((m2 xs).2);rw[<-hq2] at D2 HE0;obtain⟨q1,hq1⟩:=xX ((m1 xs).2);rw[<-hq1] at D1 D2;clear HE hk hx her hge hgp htb hq2 hq1;go_wp2_with fail;refine(D1.o w4 g L4.o.size P4.o).mono ?_;rintro e v1 ⟨rfl,hP,hS⟩;obtain⟨Pc1,Zc1,Kc1,Lc1⟩:=l2a hP hS Z4 K4 L4 hhg hag hwg;clear hP hS P4 Z4 K4 L4;go_wp2_with fail;refine(D2.o v1 g Lc1.o.size Pc1.o).mono ?_;rintro e v2 ⟨rfl,hP,hS⟩;obtain⟨Pc2,Zc2,Kc2,Lc2⟩:=l2a hP hS Zc1 Kc1 Lc1 hhg hag hwg;clear hP hS Pc1 Zc1 Kc1 Lc1;go_wp2_with(first|((with_reducible refine sT 18 ?_);refine f0a rfl _ (.tmp 18) (.tmp 17) rfl a 18 rfl _ zs (.bool tb) rfl Kc2 HZ (by decide) (by kernel_rfl) rfl ?_;intro x1 C1 HC1 HL1 Ks1 Os1 hqs1;obtain⟨Ps1,Zs1,Ls1⟩:=C2a (Pc2.o.only Os1.o (Ne.symm hag) hwa) Zc2 Lc2 Os1 hha hwa)|fail)
  go_wp2;have HC17:Hid (∀u:Value,(C1.set 17 u)[17]? = some u):=λu=>List.getElem?_set_self (by have:=HL1.o;omega)
  have hgs:a<x1.heap.size/\h<x1.heap.size/\g<x1.heap.size:=⟨Ks1.o.lt,Zs1.o.lt,Ps1.o.lt⟩;have hwv:=Ls1.o.size;obtain⟨bb,hbb⟩:=xX x1.heap.size;rw[<-hbb] at hgs hwv;have hbs:bb<=x1.heap.size:=by omega
  obtain⟨hab,hhb,hgb⟩:=hgs;clear hbb;have H0:Hid (Blk x1 a 39 (C1.set 17 (.slice none 0 0))):=by
   have e0:C1.set 17 (.slice none 0 0)=C1:=by rw[HC1.o,HZS.o];rfl
   rw[e0];exact Ks1.o
  go_loopw [20] (λi wr=>∃j:Nat,i=.int .u64 j/\j<=N/\bb<=wr.heap.size/\∃u,Hid (Blk wr a 39 (C1.set 17 u))/\Hid (F6a B0a 3 108 wr bb u (ents j).1)/\Hid (PI wr g w.heap.size A n k xs (ents j).2)/\Hid (Blk wr h 39 zs)/\Hid (BW w wr)) (λi _=>N-(intOf i).toNat)
  case atStart=>exact⟨0,rfl,Nat.zero_le _,hbs,.slice none 0 0,H0,(by rw[HE0.o];exact F6a.nil _ _ _ _ _),(by rw[HE0.o];exact Ps1),Zs1,Ls1⟩
  case round=>
   obtain⟨j,rfl,hj,hbr,u,HK,HO,HP,HZr,HLr⟩:=hrel;by_cases hlt:j<N
   ·have CE:=hI (CEN.o wr.drew (ents j).2 (show w.heap.size<=wr.heap.size from HLr.o.size) HP.o.drew);have hLn:=HLN.o j;obtain⟨s1,s2⟩:=HSTP.o j;obtain⟨L0,hL0⟩:=xX ((ents j).1);rw[<-hL0] at HO hLn s1;obtain⟨en,hen⟩:=xX (t4a xs (ents j).2);rw[<-hen] at CE s1 s2;have S1E:=hI s1;have S2E:=hI s2
    obtain⟨lv,hlv⟩:=xX en.1;rw[<-hlv] at CE S1E;have BLv:=BL lv;clear s1 s2 hL0 hen hlv HP;go_wp2;go_upto_region 10 with fail
    refine U7a 6 (λw'=>w'.cell? ⟨a,17,none⟩=some u) (by kernel_rfl) ?_;change Q4a _ _ _ _ _ _ _ _ _ wr.drew
    have S0:Hid (wr.drew.cell? ⟨a,17,none⟩=some u):=(HK.o.at (HC17.o u));have b0:Hid (BW w wr.drew):=(HLr.o.trans ((x3a wr 1).mono HLr.o.size));refine z2a (i:=0) (v:=_) rfl (by kernel_rfl) (by kernel_rfl) (by kernel_rfl) (λ_ _ _ h=>h) rfl (by kernel_rfl) (by kernel_rfl) (by decide) (w0a (by kernel_rfl) _ (.tmp 6) 10 rfl (.pointer (some ⟨a,0,none⟩)) (.pointer (some ⟨a,17,none⟩)) (by kernel_rfl) (r2c a)) S0.o ?_;refine z2a (i:=1) (v:=_) rfl (by kernel_rfl) (by kernel_rfl) (by kernel_rfl) (λ_ _ _ h=>h) rfl (by kernel_rfl) (by kernel_rfl) (by decide) (k0a (by kernel_rfl) _ (.tmp 22) rfl a 17 (by kernel_rfl) u (λw h=>h) _ underlying37 rfl) S0.o ?_;refine R2a 2 _ (by kernel_rfl) rfl λK hK=>?_
    go_simp;refine(CE.o).mono ?_;rintro e v1 ⟨rfl,hP1,hS0⟩;have S1:Hid (v1.cell? ⟨a,17,none⟩=some u):=((HK.o.save ((O3a g wr 1).trans hS0) hag).at (HC17.o u));have b1:Hid (BW w v1):=(HLr.o.trans (((O3a g wr 1).trans hS0).below hwg HLr.o.size));have hS1:W0a g wr v1:=(O3a g wr 1).trans hS0;have HK1:=hI (HK.o.save hS1 hag);have HZ1r:=hI (HZr.o.save hS1 hhg);have HP1:=hI hP1;have hS1s:wr.heap.size<=v1.heap.size:=hS1.size;have HO1:Hid (F6a B0a 3 108 v1 bb u L0):=HO.o.keep λi cs hi hc=>hS1.rest i (Array.getElem?_eq_some_iff.1 hc).1 (by have:=(World.ownsRow.lt HO.o i hi).1;omega)
    refine hK _ _ (λ_=>S1.o) ?_;clear hK K;clear hP1 hS0 hS1;refine g3a λa1 ha1=>?_
    refine R2a 3 _ (by kernel_rfl) rfl λK hK=>?_
    refine P0a rfl _ _ 1 _ rfl underlying37 (B0a lv) (by rw[ha1];refine Eq.trans ?_ BLv;kernel_rfl) ?_;intro g2 v2 q2 q3 Y2 b2;have HK2:=hI (HK1.o.over b2.o);have HO2:=hI (HO1.o.below b2.o);have HP2:=hI (HP1.o.below b2.o);have HZ2:=hI (HZ1r.o.over b2.o);have HL2:=hI (b1.o.trans (b2.o.mono b1.o.size));have hb2:bb<=v2.heap.size:=by have:=b2.o.size;omega
    refine hK _ _ (λ_=>HK2.o.at (HC17.o u)) ?_;clear hK K;refine g3a λa2 ha2=>?_
    try rw[ha1] at ha2
    have e2_23:a2.eval (.tmp 23)=u:=by rw[ha2];kernel_rfl
    have e2_25:a2.eval (.tmp 25)=.slice (some ⟨g2,0,none⟩) 1 1:=by rw[ha2];kernel_rfl
    refine R2a 4 _ (by kernel_rfl) rfl λK hK=>?_
    refine v0b rfl (.tmp 23) (.tmp 25) rfl bb u L0 g2 lv e2_23 e2_25 HO2.o Y2 (by omega) hb2 ?_;intro u3 v3 HO3 b3;have HK3:=hI (HK2.o.below b3.o hab);have HP3:=hI (HP2.o.belowAt b3.o hgb);have HZ3:=hI (HZ2.o.below b3.o hhb);have HL3:=hI (HL2.o.trans (b3.o.mono hwv));have hb3:bb<=v3.heap.size:=by have:=b3.o.size;omega
    have OU:=w8b HO3.o;refine hK _ _ (λ_=>HK3.o.at (HC17.o u)) ?_;clear hK K;refine g3a λa3 ha3=>?_
    try rw[ha2] at ha3
    have S3:Hid (v3.cell? ⟨a,17,none⟩=some u):=HK3.o.at (HC17.o u);rw[ha3];refine R2a 5 _ (by kernel_rfl) rfl λK hK=>?_
    go_simp;refine hK _ _ (λ_=>S3.o) ?_;clear hK K;refine g3a λa4 ha4=>?_
    try rw[ha3] at ha4
    have e4_27:a4.eval (.tmp 27)=.pointer (some ⟨a,17,none⟩):=by rw[ha4];kernel_rfl
    have e4_26:a4.eval (.tmp 26)=u3:=by rw[ha4];kernel_rfl
    refine R2a 6 _ (by kernel_rfl) rfl λK hK=>?_
    refine I8a rfl 37 (.tmp 27) (.tmp 26) (by kernel_rfl) a 17 e4_27 _ _ u3 e4_26 HK3 (by show 17<(C1.set 17 u).length;rw[List.length_set];have:=HL1.o;omega) (by kernel_rfl) OU ?_;intro v4 X4 O4 q4;refine hK _ _ (λh=>Bool.noConfusion (show true=false from h)) ?_;clear hK K;change Q4a _ _ _ _ _ _ _ _ a4 v4
    rw[ha4];refine z2b (by kernel_rfl) ?_ _;have HK4:Hid (Blk v4 a 39 (C1.set 17 u3)):=by have h4:=X4.o;rw[List.set_set] at h4;exact h4
    have HO4:Hid (F6a B0a 3 108 v4 bb u3 (ents (j+1)).1):=by rw[S1E.o];exact HO3.o.only O4.o hab
    have HP4:Hid (PI v4 g w.heap.size A n k xs (ents (j+1)).2):=by rw[S2E.o];exact HP3.o.only O4.o (Ne.symm hag) hwa
    have HZ4:=hI (HZ3.o.only O4.o hha);have HL4:=hI (c0a HL3.o O4.o hwa);have hb4:bb<=v4.heap.size:=by have:=O4.o.size;omega
    clear X4 O4 HK3 HP3 HZ3 HL3 HO3 S1E S2E;go_wp2;go_roundw
    case rel=>exact⟨j+1,by go_num,hlt,hb4,u3,HK4,HO4,HP4,HZ4,HL4⟩
    case measure=>simp[intOf];omega
   ·obtain rfl:j=N:=by omega
    obtain⟨uF,huF⟩:=xX u;obtain⟨C9,hC9⟩:=xX (C1.set 17 uF);have HC9:=hI hC9;have HL9:Hid (C9.length=20):=by rw[hC9,List.length_set];exact HL1.o
    rw[<-huF] at HK HO;rw[<-hC9] at HK;rw[<-HM3.o] at HP;have HOF:Hid (F6a B0a 3 108 wr bb uF (m3 xs).1):=by rw[HM3.o];exact HO.o
    clear hC9 huF;go_wp2_with fail;refine(DE.o wr g HP.o).mono ?_;rintro e ve ⟨rfl,hS⟩;have ZE:=hI (HZr.o.save hS hhg);have KE:=hI (HK.o.save hS hag);have LE:=hI (HLr.o.trans (hS.below hwg HLr.o.size));have OE:=hI (HOF.o.keep λi cs hi hc=>hS.rest i (Array.getElem?_eq_some_iff.1 hc).1 (by have:=(World.ownsRow.lt HOF.o i hi).1;omega));clear hS HP HZr HK HLr;by_cases he:er=0;rotate_left
    ·have hne:(er != 0)=true:=by simpa using he
     have HN:=hI (HE'.o he);clear he HE' HQ;go_wp2_with(first|((with_reducible refine sN 51 ?_);refine r0a rfl _ rfl zs BZ ?_)|((with_reducible refine sT 4 ?_);refine a0a rfl _ (.tmp 4) (.tmp 51) rfl h rfl _ zs zs rfl ZE 20 t0a HZ HZ HZ1 ?_;intro w10 K10 O10 hg10)|fail)
     refine bodyPost_ret (v:=.tuple #[.agg zs.toArray,.int .i64 er]) ?_ rfl (HN.o _ _ rfl (c0a LE.o O10.o (by omega)));exact j0a rfl _ _ h _ _ (0,0) _ rfl K10.o underlying39 rfl (by rw[t0a];have:=HZ.o;simp[this]) rfl
    ·subst he;have HEQ:Hid (C9=u0a (.slice none 0 0) uF { n0a with ents:=(m3 xs).1,more:=tb }):=by
      show _=_
      rw[HC9.o,HC1.o,HZS.o];rfl
     have H1C:Hid (∀v∈C9,v.oneCell'=true):=by
      show _
      rw[HEQ.o];exact N1a rfl (w8b OE.o)
     go_wp2_with(first|((with_reducible refine sN 53 ?_);refine e0a rfl _ (.tmp 6) rfl a rfl _ C9 KE 20 _ underlying39 rfl t0a HL9 ?_)|((with_reducible refine sT 4 ?_);refine a0a rfl _ (.tmp 4) (.tmp 53) rfl h rfl _ zs C9 rfl ZE 20 t0a HZ HL9 H1C ?_;intro w10 K10 O10 hg10)|fail)
     refine bodyPost_ret (v:=.tuple #[.agg C9.toArray,.int .i64 0]) ?_ rfl ?_
     ·exact j0a rfl _ _ h _ _ (0,0) _ rfl K10.o underlying39 rfl (by rw[t0a];have:=HL9.o;simp[this]) rfl
     ·have LF:BW w w10:=c0a LE.o O10.o (by omega);have VF:=F6a.only OE.o O10.o (by omega);obtain⟨Al,nl,kl,hul,hHl⟩:=F6a.holds (by decide) I4a VF;exact HQ.o C9 _ _ (by trivial) rfl ⟨none,0,0,Al,nl,kl,by rw[HEQ.o,hul],Holds.nil _ _,hHl⟩ (by rw[HEQ.o];rfl) LF (λb off s n c h=>by rw[HEQ.o] at h;have h2:some uF=some (Value.slice (some ⟨b,off,s⟩) n c):=h;injection h2 with h2;exact Nat.le_trans (by omega) (World.ownsRow.lt VF b (by rw[h2];rfl)).1)
 subst h16;have D1:Hid (IRd w A n k xs 110 [] (.int .u64 (l1 xs).1) rd0 ((l1 xs).2)):=λw' g hs h=>l3a w' g _ A n k xs _ hby h
 have D2:Hid (IRd w A n k xs 124 [] (.int .u8 (g2 xs).1) ((l1 xs).2) ((g2 xs).2)):=λw' g hs h=>i4b w' g _ A n k xs _ hby h
 have D3:Hid (IRd w A n k xs 114 [] (.bool ((g3 xs).1 != 0)) ((g2 xs).2) ((g3 xs).2)):=λw' g hs h=>c7a w' g _ A n k xs _ hby h
 have DE:=hI fun (w':World) (g:Nat) h=>r3a w' g w.heap.size A n k xs (g3 xs).2 h
 have hgp:jgP 16 xs=({ n0a with siz:=(l1 xs).1,kind:=(g2 xs).1,gone:=((g3 xs).1 != 0) },(g3 xs).2):=by unfold jgP;rw[if_neg (by decide),if_pos rfl]
 have hge:P5a 16 xs=Q0a xs (g3 xs).2:=by unfold P5a;rw[if_pos hk,hgp]
 have HQ:Hid (∀(cs:List Value) (e:Ending) (w':World),Q0a xs (g3 xs).2=0->e=.returned (.tuple #[.agg cs.toArray,.int .i64 0])->s1a w' w'.heap.size cs { n0a with siz:=(l1 xs).1,kind:=(g2 xs).1,gone:=((g3 xs).1 != 0) }->cs[15]? = some (.slice none 0 0)->BW w w'->(∀b off s n c,cs[17]? = some (.slice (some ⟨b,off,s⟩) n c)->w.heap.size<=b)->e3a w 16 xs e w'):=by
  intro cs e w' h0 h1 h2 h3 h5 h9;have ho:K0b 16 xs={ n0a with siz:=(l1 xs).1,kind:=(g2 xs).1,gone:=((g3 xs).1 != 0) }:=by unfold K0b;rw[hge,h0,if_pos rfl,hgp]
  unfold e3a;rw[hge,h0,ho];exact⟨cs,h1,h2,h3,h5,h9⟩
 have HE':=hI (HE.o _ hge);obtain⟨er,her⟩:=xX (Q0a xs (g3 xs).2);rw[<-her] at DE HQ HE';obtain⟨q1,hq1⟩:=xX (l1 xs);rw[<-hq1] at D1 D2 HQ;obtain⟨q2,hq2⟩:=xX (g2 xs);rw[<-hq2] at D2 D3 HQ;obtain⟨tb,htb⟩:=xX (((g3 xs).1 != 0));rw[<-htb] at D3 HQ;obtain⟨q3,hq3⟩:=xX ((g3 xs).2);rw[<-hq3] at D3 DE;clear HE hk hx her hge hgp hq1 hq2 htb hq3;go_wp2_with fail;refine(D1.o w4 g L4.o.size P4.o).mono ?_;rintro e v1 ⟨rfl,hP,hS⟩;obtain⟨Pc1,Zc1,Kc1,Lc1⟩:=l2a hP hS Z4 K4 L4 hhg hag hwg;clear hP hS P4 Z4 K4 L4;go_wp2_with fail;refine(D2.o v1 g Lc1.o.size Pc1.o).mono ?_;rintro e v2 ⟨rfl,hP,hS⟩;obtain⟨Pc2,Zc2,Kc2,Lc2⟩:=l2a hP hS Zc1 Kc1 Lc1 hhg hag hwg;clear hP hS Pc1 Zc1 Kc1 Lc1;go_wp2_with fail;refine(D3.o v2 g Lc2.o.size Pc2.o).mono ?_;rintro e v3 ⟨rfl,hP,hS⟩;obtain⟨Pc3,Zc3,Kc3,Lc3⟩:=l2a hP hS Zc2 Kc2 Lc2 hhg hag hwg;clear hP hS Pc2 Zc2 Kc2 Lc2;go_wp2_with(first|((with_reducible refine sT 34 ?_);refine f0a rfl _ (.tmp 34) (.tmp 31) rfl a 1 rfl _ zs (.int .u64 q1.1) rfl Kc3 HZ (by decide) (by kernel_rfl) rfl ?_;intro x1 C1 HC1 HL1 Ks1 Os1 hqs1;obtain⟨Ps1,Zs1,Ls1⟩:=C2a (Pc3.o.only Os1.o (Ne.symm hag) hwa) Zc3 Lc3 Os1 hha hwa)|((with_reducible refine sT 35 ?_);refine f0a rfl _ (.tmp 35) (.tmp 32) rfl a 14 rfl _ C1 (.int .u8 q2.1) rfl Ks1 HL1 (by decide) (by kernel_rfl) rfl ?_;intro x2 C2 HC2 HL2 Ks2 Os2 hqs2;obtain⟨Ps2,Zs2,Ls2⟩:=C2a (Ps1.o.only Os2.o (Ne.symm hag) hwa) Zs1 Ls1 Os2 hha hwa)|((with_reducible refine sT 36 ?_);refine f0a rfl _ (.tmp 36) (.tmp 33) rfl a 19 rfl _ C2 (.bool tb) rfl Ks2 HL2 (by decide) (by kernel_rfl) rfl ?_;intro wz CF HCF HLF Kz Oz hqz;obtain⟨Pz,Zz,Lz⟩:=C2a (Ps2.o.only Oz.o (Ne.symm hag) hwa) Zs2 Ls2 Oz hha hwa)|fail)
 have HEQ:Hid (CF=u0a (.slice none 0 0) (.slice none 0 0) { n0a with siz:=q1.1,kind:=q2.1,gone:=tb }):=by
  show _=_
  rw[HCF.o,HC2.o,HC1.o,HZS.o];rfl
 rotate_left;subst h17;have D1:Hid (IRd w A n k xs 112 [.int .i64 4] (.tuple #[]) rd0 (rdZ xs 4 rd0)):=λw' g hs h=>V4a w' g _ A n k xs _ 4 h (by decide) hs
 have DE:=hI fun (w':World) (g:Nat) h=>r3a w' g w.heap.size A n k xs (rdZ xs 4 rd0) h
 have hgp:jgP 17 xs=(n0a,(rdZ xs 4 rd0)):=by unfold jgP;rw[if_neg (by decide),if_neg (by decide),if_neg (by decide)]
 have hge:P5a 17 xs=Q0a xs (rdZ xs 4 rd0):=by unfold P5a;rw[if_pos hk,hgp]
 have HQ:Hid (∀(cs:List Value) (e:Ending) (w':World),Q0a xs (rdZ xs 4 rd0)=0->e=.returned (.tuple #[.agg cs.toArray,.int .i64 0])->s1a w' w'.heap.size cs n0a->cs[15]? = some (.slice none 0 0)->BW w w'->(∀b off s n c,cs[17]? = some (.slice (some ⟨b,off,s⟩) n c)->w.heap.size<=b)->e3a w 17 xs e w'):=by
  intro cs e w' h0 h1 h2 h3 h5 h9;have ho:K0b 17 xs=n0a:=by unfold K0b;rw[hge,h0,if_pos rfl,hgp]
  unfold e3a;rw[hge,h0,ho];exact⟨cs,h1,h2,h3,h5,h9⟩
 have HE':=hI (HE.o _ hge);obtain⟨er,her⟩:=xX (Q0a xs (rdZ xs 4 rd0));rw[<-her] at DE HQ HE';obtain⟨q1,hq1⟩:=xX (rdZ xs 4 rd0);rw[<-hq1] at D1 DE;clear HE hk hx her hge hgp hq1;go_wp2_with fail;refine(D1.o w4 g L4.o.size P4.o).mono ?_;rintro e wz ⟨rfl,hP,hS⟩;obtain⟨Pz,Zz,Kz,Lz⟩:=l2a hP hS Z4 K4 L4 hhg hag hwg;clear hP hS P4 Z4 K4 L4;go_wp2_with fail;obtain⟨CF,hCF⟩:=xX zs;have HLF:Hid (CF.length=20):=by rw[hCF];exact HZ.o
 have HCF:=hI hCF;rw[<-hCF] at Kz;clear hCF;have HEQ:Hid (CF=u0a (.slice none 0 0) (.slice none 0 0) n0a):=by
  show _=_
  rw[HCF.o,HZS.o]
 rotate_left;subst h18;have D1:Hid (IRd w A n k xs 116 [] (.tuple #[.int .u64 (l1 xs).1,.int .u8 (k2 xs).1]) rd0 (k3 xs)):=λw' g hs h=>Z2b w' g _ A n k xs _ hby h hs
 have DE:=hI fun (w':World) (g:Nat) h=>r3a w' g w.heap.size A n k xs (k3 xs) h
 have hgp:jgP 18 xs=({ n0a with file:=(l1 xs).1,lev:=(k2 xs).1 },(k3 xs)):=by unfold jgP;rw[if_neg (by decide),if_neg (by decide),if_pos rfl]
 have hge:P5a 18 xs=Q0a xs (k3 xs):=by unfold P5a;rw[if_pos hk,hgp]
 have HQ:Hid (∀(cs:List Value) (e:Ending) (w':World),Q0a xs (k3 xs)=0->e=.returned (.tuple #[.agg cs.toArray,.int .i64 0])->s1a w' w'.heap.size cs { n0a with file:=(l1 xs).1,lev:=(k2 xs).1 }->cs[15]? = some (.slice none 0 0)->BW w w'->(∀b off s n c,cs[17]? = some (.slice (some ⟨b,off,s⟩) n c)->w.heap.size<=b)->e3a w 18 xs e w'):=by
  intro cs e w' h0 h1 h2 h3 h5 h9;have ho:K0b 18 xs={ n0a with file:=(l1 xs).1,lev:=(k2 xs).1 }:=by unfold K0b;rw[hge,h0,if_pos rfl,hgp]
  unfold e3a;rw[hge,h0,ho];exact⟨cs,h1,h2,h3,h5,h9⟩
 have HE':=hI (HE.o _ hge);obtain⟨er,her⟩:=xX (Q0a xs (k3 xs));rw[<-her] at DE HQ HE';obtain⟨q1,hq1⟩:=xX ((l1 xs).1);rw[<-hq1] at D1 HQ;obtain⟨q2,hq2⟩:=xX ((k2 xs).1);rw[<-hq2] at D1 HQ;obtain⟨q3,hq3⟩:=xX (k3 xs);rw[<-hq3] at D1 DE;clear HE hk hx her hge hgp hq1 hq2 hq3;go_wp2_with fail;refine(D1.o w4 g L4.o.size P4.o).mono ?_;rintro e v1 ⟨rfl,hP,hS⟩;obtain⟨Pc1,Zc1,Kc1,Lc1⟩:=l2a hP hS Z4 K4 L4 hhg hag hwg;clear hP hS P4 Z4 K4 L4;go_wp2_with(first|((with_reducible refine sT 46 ?_);refine f0a rfl _ (.tmp 46) (.tmp 44) rfl a 13 rfl _ zs (.int .u64 q1) rfl Kc1 HZ (by decide) (by kernel_rfl) rfl ?_;intro x1 C1 HC1 HL1 Ks1 Os1 hqs1;obtain⟨Ps1,Zs1,Ls1⟩:=C2a (Pc1.o.only Os1.o (Ne.symm hag) hwa) Zc1 Lc1 Os1 hha hwa)|((with_reducible refine sT 47 ?_);refine f0a rfl _ (.tmp 47) (.tmp 45) rfl a 10 rfl _ C1 (.int .u8 q2) rfl Ks1 HL1 (by decide) (by kernel_rfl) rfl ?_;intro wz CF HCF HLF Kz Oz hqz;obtain⟨Pz,Zz,Lz⟩:=C2a (Ps1.o.only Oz.o (Ne.symm hag) hwa) Zs1 Ls1 Oz hha hwa)|fail)
 have HEQ:Hid (CF=u0a (.slice none 0 0) (.slice none 0 0) { n0a with file:=q1,lev:=q2 }):=by
  show _=_
  rw[HCF.o,HC1.o,HZS.o];rfl
 rotate_left;all_goals
  refine(DE.o wz g Pz.o).mono ?_;rintro e ve ⟨rfl,hS⟩;have ZE:=hI (Zz.o.save hS hhg);have KE:=hI (Kz.o.save hS hag);have LE:=hI (Lz.o.trans (hS.below hwg Lz.o.size));clear hS Pz Zz Kz Lz;by_cases he:er=0;rotate_left
  ·have hne:(er != 0)=true:=by simpa using he
   have HN:=hI (HE'.o he);clear he HE' HQ;go_wp2_with(first|((with_reducible refine sN 51 ?_);refine r0a rfl _ rfl zs BZ ?_)|((with_reducible refine sT 4 ?_);refine a0a rfl _ (.tmp 4) (.tmp 51) rfl h rfl _ zs zs rfl ZE 20 t0a HZ HZ HZ1 ?_;intro w10 K10 O10 hg10)|fail)
   refine bodyPost_ret (v:=.tuple #[.agg zs.toArray,.int .i64 er]) ?_ rfl (HN.o _ _ rfl (c0a LE.o O10.o (by omega)));exact j0a rfl _ _ h _ _ (0,0) _ rfl K10.o underlying39 rfl (by rw[t0a];have:=HZ.o;simp[this]) rfl
  ·subst he;have H1C:Hid (∀v∈CF,v.oneCell'=true):=by
    show _
    rw[HEQ.o];exact N1a rfl rfl
   go_wp2_with(first|((with_reducible refine sN 53 ?_);refine e0a rfl _ (.tmp 6) rfl a rfl _ CF KE 20 _ underlying39 rfl t0a HLF ?_)|((with_reducible refine sT 4 ?_);refine a0a rfl _ (.tmp 4) (.tmp 53) rfl h rfl _ zs CF rfl ZE 20 t0a HZ HLF H1C ?_;intro w10 K10 O10 hg10)|fail)
   refine bodyPost_ret (v:=.tuple #[.agg CF.toArray,.int .i64 0]) ?_ rfl ?_
   ·exact j0a rfl _ _ h _ _ (0,0) _ rfl K10.o underlying39 rfl (by rw[t0a];have:=HLF.o;simp[this]) rfl
   ·have LF:BW w w10:=c0a LE.o O10.o (by omega);exact HQ.o CF _ _ (by trivial) rfl ⟨none,0,0,none,0,0,by rw[HEQ.o],Holds.nil _ _,c1a.nil _ _ _ _⟩ (by rw[HEQ.o];rfl) LF (λb off s n c h=>by rw[HEQ.o] at h;have h2:some (Value.slice none 0 0)=some (Value.slice (some ⟨b,off,s⟩) n c):=h;cases h2)
structure y6c (a:l1a):Prop where
 u:a.user.size<=17592186044416/\a.share.size<=17592186044416
 n:a.name.size<=17592186044416/\a.pat.size<=17592186044416/\a.aft.size<=17592186044416
 l:a.locks.length<=4398046511104
def z6c(s:O1a):Prop:=s.ents.length<=4398046511104/\∀e∈s.ents,e.name.size<=17592186044416
theorem s2c{w:World}{c:Int}{ac:List Value}{a:l1a}(hc:0<=c/\c<=65535)(k:a.ok)(ha:g1a w w.heap.size ac a)(hf:y6c a)(hT:E8a w):B3c w c ac a:=by
 intro w' hb;unfold fPA pae pao;split
 ·exact X6a w' c ac a hc k (ha.over hb) hf.u (hT.below hb)
 ·split
  ·exact O7b w' c ac a hc k (ha.over hb) hf.u hf.n.1 hf.l (hT.below hb)
  ·exact M7b w' c ac a hc k (ha.over hb) hf.u hf.n (hT.below hb)
theorem t2c{w:World}{c:Int}{sc:List Value}{s:O1a}(hc:0<=c/\c<=65535)(k:s.ok)(hs:s1a w w.heap.size sc s)(hf:z6c s)(hT:E8a w):C3c w c sc s:=by
 intro w' hb;unfold fPS pse pso;split
 ·exact Y6a w' c sc s hc k (hs.over hb)
 ·split
  ·exact P7b w' c sc s hc k (hs.over hb)
  ·exact N7b w' c sc s hc k (hs.over hb) hf (hT.below hb)
theorem u2c{w:World}{base:Nat}{v:Value}{xs:List Int}(h:w6a w base v xs):UpV base (some v):=λb off s n c e=>by
 injection e with e
 exact(h.own.block (i:=b) (by rw[e];rfl)).1
theorem E6a{α:Type}{l:List α}(h:l.length<=0):l=[]:=List.eq_nil_of_length_eq_zero (by omega)
theorem v2c(c:Int)(xs:List Int):(o1b c xs).dial=[]:=by
 unfold o1b;split
 ·unfold fgP;split
  ·rfl
  ·split
   ·rfl
   ·split
    ·rfl
    ·split<;>rfl
 ·rfl
theorem A6b{w:World}{c:Int}{A:Option Addr}{n k:Nat}{xs:List Int}(hc:0<=c/\c<=65535)(hx:Holds w w.heap.size A n k xs):n2c w c A n k xs:=by
 intro w' hb;have hby:=hx.byte;unfold fGA gae gao;split
 ·refine(u7b w' c A n k xs hc (hx.over hb)).mono ?_;rintro e w2 ⟨vd,h1,h2,h3,h4⟩;obtain⟨n1,n2⟩:=D9b c xs;have hok:=D1c c hby;refine⟨_,h1,⟨hok,h2,⟨.inr λb off s n c e=>?_,.inl n1,.inl n2⟩,.slice none 0 0,o0a hok 12,by rw[n1];exact b1a.nil _ _ _ _⟩,h3⟩;injection e with e
  exact h4 b off s n c e
 ·split
  ·refine(i6b w' c A n k xs hc (hx.over hb)).mono ?_;rintro e w2 ⟨cs,vx,h1,h2,h3,h4,h5,h6⟩;exact⟨cs,h1,⟨M4c c hby,h2,⟨.inl (v2c c xs),.inr (by rw[h3];exact u2c h4),.inr h6⟩,vx,h3,h4⟩,h5⟩
  ·refine(R7b w' c A n k xs hc (hx.over hb)).mono ?_;rintro e w2 ⟨cs,h1,h2,h3,h4⟩;obtain⟨q1,q2,q3,_⟩:=L9b c hby;exact⟨cs,h1,⟨T4c c hby,h2,⟨.inl (E6a q1),.inl (E6a q2),.inl (E6a q3)⟩,.slice none 0 0,h3,by rw[E6a q2];exact b1a.nil _ _ _ _⟩,h4⟩
theorem B6b{w:World}{c:Int}{A:Option Addr}{n k:Nat}{xs:List Int}(hc:0<=c/\c<=65535)(hx:Holds w w.heap.size A n k xs):D3c w c A n k xs:=by
 intro w' hb;have hby:=hx.byte;unfold fGS gse gso;split
 ·refine(s9b w' c A n k xs hc (hx.over hb)).mono ?_;rintro e w2 ⟨h1,h3⟩;obtain⟨n1,n2⟩:=R3b c xs;have hok:=E1c c hby;exact⟨_,h1,⟨hok,K4c w2 _ c xs,⟨.inl n1,.inl n2⟩,.slice none 0 0,D0a hok 5,by rw[n1];exact b1a.nil _ _ _ _⟩,h3⟩
 ·split
  ·refine(A7b w' c A n k xs hc (hx.over hb)).mono ?_;rintro e w2 ⟨cs,vx,h1,h2,h3,h4,h5⟩;exact⟨cs,h1,⟨N4c c hby,h2,⟨.inr (by rw[h3];exact u2c h4),.inl (E6a (G9b c hby).2)⟩,vx,h3,h4⟩,h5⟩
  ·refine(z6b w' c A n k xs hc (hx.over hb)).mono ?_;rintro e w2 ⟨cs,h1,h2,h3,h4,h5⟩;have q1:=E6a (M9b c hby).1;exact⟨cs,h1,⟨U4c c hby,h2,⟨.inl q1,.inr h5⟩,.slice none 0 0,h3,by rw[q1];exact b1a.nil _ _ _ _⟩,h4⟩
theorem y8b(w:World)(m:W4a)(cs:List Value)(k:m.ok)(hm:G4a w w.heap.size cs m)(fa:y6c m.a)(fs:z6c m.s)(hT:E8a w) :
  Calls prog 8 #[.agg cs.toArray] w (o7a w m):=by
 obtain⟨ac,sc,rfl,ha,hs⟩:=hm;refine g4c w m ac sc k (ha.len k.a) (hs.len k.s) ha.one hs.one (r8b k) (d4c k) ?_;intro w' g hb B;exact Y3b w' g m ac sc k B (ha.over hb) (hs.over hb) fa.u (hT.below hb) (λ_=>s2c (b8a k.h) k.a (ha.over hb) fa (hT.below hb)) (λ_=>t2c (b8a k.h) k.s (hs.over hb) fs (hT.below hb))
end Go.Proofs.YtjpcifmeimcikaaGreatDoor
namespace Go.Proofs
open Go.Proofs.Tryz
open Go.Shelf
def Tryz.laysnb142_ren:Go.Shelf.Ren:=⟨fun | 142=>40 | 117=>72 | 115=>25 | n=>n,fun | 37=>31 | 4=>4 | 3=>3 | 9=>9 | 5=>5 | n=>n,fun | n=>n⟩
theorem Tryz.laysnb142:Go.Proofs.Lays.nb142 prog Tryz.laysnb142_ren:={
 mixed:=by kernel_rfl
 f115:=func25.trans (congrArg some (by kernel_rfl))
 f117:=func72.trans (congrArg some (by kernel_rfl))
 f142:=func40.trans (congrArg some (by kernel_rfl))
 t3:=underlying3
 a3:=Tryz.isAgg3
 z3:=Tryz.sizeOf3
 v3:=Tryz.zeroValue3
 t4:=underlying4
 a4:=Tryz.isAgg4
 z4:=Tryz.sizeOf4
 v4:=Tryz.zeroValue4
 t9:=underlying9
 a9:=Tryz.isAgg9
 z9:=Tryz.sizeOf9
 v9:=Tryz.zeroValue9
 t37:=underlying31
 a37:=Tryz.isAgg31
 z37:=Tryz.sizeOf31
 v37:=Tryz.zeroValue31
 t5:=underlying5
 a5:=Tryz.isAgg5
 z5:=Tryz.sizeOf5
 v5:=Tryz.zeroValue5 }
theorem Tryz.bytes_CutSuffix_all(p1 p2:Option Addr)(n c m d:Nat)(xs ys:List Int)(w:World)(hx:xs.length=n)(hy:ys.length=m)(hnc:n<=c)(hbig:n<=9223372036854775807)(h1:Lib.BytesIn w p1 n xs)(h2:Lib.BytesIn w p2 m ys) :
  Calls prog 40 #[.slice p1 n c,.slice p2 m d] w λe w'=>e=.returned (.tuple #[Lib.trimSuffixV p1 n c xs ys,.bool (Lib.hasSuffix (Lib.bytesOf xs) (Lib.bytesOf ys))])/\w'=w:=Any.bytes_CutSuffix_all Tryz.laysnb142 p1 p2 n c m d xs ys w hx hy hnc hbig h1 h2
end Go.Proofs
namespace Go.Proofs.YtjpcifmeimcikaaGreatDoor
open Go.Proofs.Tryz
open Go.RowKit
set_option maxRecDepth 100000
theorem g8a{xs:List Int}(hx:Bytes xs)(m:Nat):Lib.hasSuffix (Lib.bytesOf xs) (Lib.bytesOf (List.replicate m 0))=v7a xs m:=by
 have e0:Lib.bytesOf (List.replicate m 0)=List.replicate m (0:UInt8):=by unfold Lib.bytesOf;rw[List.map_replicate];rfl
 unfold Lib.hasSuffix v7a;rw[e0,Bool.eq_iff_iff,List.isSuffixOf_iff_suffix,List.suffix_iff_eq_drop,decide_eq_true_iff,List.length_replicate];have e1:(Lib.bytesOf xs).drop ((Lib.bytesOf xs).length-m)=(xs.drop (xs.length-m)).map (λn=>UInt8.ofNat n.toNat):=by unfold Lib.bytesOf;rw[List.length_map,List.map_drop]
 rw[e1];constructor
 ·intro h;have h2:=h.symm;rw[List.eq_replicate_iff] at h2⊢;refine⟨by simpa using h2.1,λb hb=>?_⟩;have h3:=h2.2 _ (List.mem_map.2 ⟨b,hb,rfl⟩);have h4:=hx b (List.mem_of_mem_drop hb);have h5:=congrArg UInt8.toNat h3;simp at h5;omega
 ·intro h;rw[h,List.map_replicate];rfl
theorem z8b{w:World}{B:Nat}{A:Option Addr}{n c:Nat}{xs:List Int}(h:Holds w B A n c xs):Lib.BytesIn w A n xs:=λh0=>by obtain⟨b,o,h1,_,h3⟩:=h.cells h0;exact⟨b,o,h1,h3⟩
theorem G3c(w:World)(B B':Nat)(A Z:Option Addr)(n c m d:Nat)(xs:List Int)(hx:Holds w B A n c xs)(hz:Holds w B' Z m d (List.replicate m 0)) :
  Calls prog 40 #[.slice A n c,.slice Z m d] w λe w'=>e=.returned (.tuple #[.slice A (if v7a xs m=true then n-m else n) c,.bool (v7a xs m)])/\w=w':=by
 have hl:=hx.len;have hrm:=hx.room;refine(Tryz.bytes_CutSuffix_all A Z n c m d xs (List.replicate m 0) w hl (by simp) hx.fit (by omega) (z8b hx) (z8b hz)).mono ?_;rintro e w' ⟨rfl,rfl⟩;rw[g8a hx.byte]
 suffices key:Lib.trimSuffixV A n c xs (List.replicate m 0)=.slice A (if v7a xs m=true then n-m else n) c by rw[key];exact⟨rfl,rfl⟩
 cases m with
 | zero=>
  have:Lib.trimSuffixV A n c xs (List.replicate 0 0)=.slice A n c:=by unfold Lib.trimSuffixV;rcases A with _ | ⟨b,o,_ | s⟩<;>rfl
  rw[this];simp
 | succ m=>
  by_cases h0:0<n
  ·obtain⟨b,o,rfl,_,_⟩:=hx.cells h0;show Lib.bytesTrimSuffix b o n c xs (List.replicate (m+1) 0)=_
   unfold Lib.bytesTrimSuffix;rw[g8a hx.byte,List.length_replicate];by_cases he:v7a xs (m+1)=true
   ·rw[if_pos he,if_pos he];rfl
   ·rw[if_neg he,if_neg he]
  ·obtain rfl:n=0:=by omega
   have hnil:xs=[]:=List.eq_nil_of_length_eq_zero hl;have he:v7a xs (m+1)=false:=by rw[hnil];unfold v7a;simp
   rw[he];unfold Lib.trimSuffixV;rcases A with _ | ⟨b,o,s⟩
   ·rfl
   ·rcases s with _ | s
    ·show Lib.bytesTrimSuffix b o 0 c xs (List.replicate (m+1) 0)=_
     unfold Lib.bytesTrimSuffix;rw[g8a hx.byte,he];rfl
    ·rfl
def z7:List Value:=List.replicate 7 (.int .u8 0)
theorem l5c:(prog.info? 96).map (λi=>(i.zero,i.size))=some (some (.agg z7.toArray),7):=by kernel_rfl
theorem m5c:(prog.info? 96).map (·.size)=some 7:=by kernel_rfl
theorem H3c:prog.built 96 []=some z7.toArray:=by kernel_rfl
theorem I3c{w:World}{g:Nat}{T:TypeId}(B:Blk w g T z7){m:Nat}(hm:m<=7):Holds w w.heap.size (some ⟨g,0,none⟩) m 7 (List.replicate m 0):=
 ⟨by simp,hm,by omega,Bytes.zeros m,λh=>(by cases h),λ_=>⟨g,0,rfl,B.lt,λi hi=>by
  rw[Nat.zero_add,B.cell];have h7:i<7:=by omega
  rw[show z7=List.replicate 7 (Value.int .u8 0) from rfl,List.getElem?_replicate,if_pos h7,List.getD_eq_getElem?_getD,List.getElem?_replicate,if_pos hi];rfl⟩⟩
theorem V9b{w:World}{B n c:Nat}{A:Option Addr}{xs:List Int}(h:Holds w B A n c xs){k:Nat}(hk:k<=n):Holds w B A k c (xs.take k):=
 ⟨by rw[List.length_take,h.len];omega,Nat.le_trans hk h.fit,Nat.le_trans hk h.room,h.byte.take k,h.bare,λh0=>by obtain⟨b,off,h1,h2,h3⟩:=h.cells (by omega);refine⟨b,off,h1,h2,λi hi=>?_⟩;rw[h3 i (by omega)];simp[List.getD_eq_getElem?_getD,List.getElem?_take,hi]⟩
theorem J3c{h:Hd}{xs:List Int}{n:Nat}(h8:n<8)(ht:I6b h xs n=true)(hp:∀j,j<n->I6b h xs j=false):atN h xs=some n:=by unfold atN;rw[List.find?_range_eq_some];exact⟨ht,List.mem_range.2 h8,λj hj=>by rw[hp j hj];rfl⟩
theorem K3c{h:Hd}{xs:List Int}(hp:∀j,j<8->I6b h xs j=false):atN h xs=none:=by unfold atN;rw[List.find?_eq_none];intro j hj;rw[hp j (List.mem_range.1 hj)];decide
theorem W9b(w:World)(g:Nat)(h:Hd)(ac sc:List Value)(k:h.ok)(B:Blk w g 60 (m0a h++(ac++sc)))(l1:ac.length=69)(l2:sc.length=20)(A:Option Addr)(n c:Nat)(xs:List Int)(hx:Holds w g A n c xs)(hn:h.nx≠0) :
  Calls prog 20 #[.pointer (some ⟨g,0,none⟩),.slice A n c] w (R0b w g h ac sc xs):=by
 have gl:=B.lt;have hl:=hx.len;have hrm:=hx.room;have hft:=hx.fit;have hbare:=hx.bare;have CG:Hid (∀(w':World) ac' sc' m ys,Blk w' g 60 (m0a h++(ac'++sc'))->ac'.length=69->sc'.length=20->Holds w' g A m c ys->Calls prog 39 #[.pointer (some ⟨g,0,none⟩),.slice A m c] w' (Z3b w' g h ac' sc' ys)):=λw' ac' sc' m ys b q1 q2 hy=>a4b w' g h ac' sc' k b q1 q2 A m c ys (λ_=>A6b (b8a k) (hy.mono (Nat.le_of_lt b.lt))) (λ_=>B6b (b8a k) (hy.mono (Nat.le_of_lt b.lt)))
 unfold Z3b at CG;have CK:Hid (∀(w':World) Z m d,Holds w' w'.heap.size Z m d (List.replicate m 0)->Holds w' g A n c xs->Calls prog 40 #[.slice A n c,.slice Z m d] w' λe w2=>e=.returned (.tuple #[.slice A (if v7a xs m=true then n-m else n) c,.bool (v7a xs m)])/\w'=w2):=λw' Z m d h1 h2=>G3c w' g _ A Z n c m d xs h2 h1
 have CM:Hid (∀(w:World) A n c,n<=281474976710656->Calls prog 19 #[.slice A n c] w λe w'=>e=.returned (.int .i64 (U3b n:Nat))/\w=w'):=λw A n c h=>U2b w A n c h
 have RN:Hid (∀(w':World) ac' sc',Blk w' g 60 (m0a h++(ac'++sc'))->w'.cell? ⟨g,5,none⟩=some (.int .u32 h.nx)):=λw' ac' sc' b=>Blk.cell b 5
 have hnz:(h.nx==0)=false:=by simpa using hn
 obtain⟨nx,hnx⟩:=xX h.nx;rw[<-hnx] at RN hnz;have ZH:=hI l5c;have BZ:=H3c;have HZ:Hid (z7.length=7):=rfl;have HZO:Hid (∀v∈z7,v.oneCell'=true):=by intro v hv;rw[List.eq_of_mem_replicate hv];rfl
 have HZH:Hid (∀(w':World) g6,Blk w' g6 96 z7->∀m,m<=7->Holds w' w'.heap.size (some ⟨g6,0,none⟩) m 7 (List.replicate m 0)):=λw' g6 b m hm=>I3c b hm
 obtain⟨zs,hzs⟩:=xX z7;rw[<-hzs] at ZH BZ HZ HZO HZH;have HT:Hid (∀m,I6b h xs m=(v7a xs m&&(decide (U3b (n-m)=m)&&decide (U4a h (xs.take (n-m))=0)))):=λm=>by unfold I6b;rw[hl]
 have HY:Hid (∀m ac' sc' ac2 sc2 e (w1 w2:World),m<8->I6b h xs m=true->(∀j,j<m->I6b h xs j=false)->e=.returned (.int .i64 0)->Blk w2 g 60 (m0a h++(ac2++sc2))->W0a g w w2->w.heap.size<=w1.heap.size->(P2a h.fl=true->ac'=ac)->(P2a h.fl=false->sc'=sc)->q6c w1 w2 h ac' sc' ac2 sc2 (xs.take (n-m))->R0b w g h ac sc xs e w2):=by
  intro m ac' sc' ac2 sc2 e w1 w2 h8 ht hp he hb hs hsz r1 r2 hg;have hat:=J3c h8 ht hp;have e1:q1b h xs=0:=by unfold q1b;rw[if_neg hn,hat];rfl
  have e2:q3b h xs=xs.take (n-m):=by unfold q3b;rw[if_neg hn,hat,Option.getD_some,hl]
  refine⟨ac2,sc2,by rw[e1];exact he,hb,hs,λ_=>?_⟩;rw[e2];refine⟨λhr=>?_,λhr=>?_⟩
  ·obtain⟨q1,q2⟩:=hg.1 hr;exact⟨q1.trans (r1 hr),q2.mono hsz⟩
  ·obtain⟨q1,q2⟩:=hg.2 hr;exact⟨q1.trans (r2 hr),q2.mono hsz⟩
 have HN:Hid (∀ac2 sc2 e (w2:World),(∀j,j<8->I6b h xs j=false)->e=.returned (.int .i64 (if U4a h xs=0 then 5 else U4a h xs))->Blk w2 g 60 (m0a h++(ac2++sc2))->W0a g w w2->R0b w g h ac sc xs e w2):=by
  intro ac2 sc2 e w2 hp he hb hs;have e1:q1b h xs=if U4a h xs=0 then 5 else U4a h xs:=by unfold q1b;rw[if_neg hn,K3c hp];rfl
  refine⟨ac2,sc2,by rw[e1];exact he,hb,hs,λh0=>?_⟩;rw[e1] at h0;split at h0
  ·exact absurd h0 (by decide)
  ·rename_i h2;exact absurd h0 h2
 have C1:=hI (CG.o w ac sc n xs B l1 l2 hx);obtain⟨er,her⟩:=xX (U4a h xs);rw[<-her] at C1 HN;have HX:=hI hx;clear her hzs hnx hn B hx;go_enter func20,ntmps20;go_wp2_with fail;refine C1.o.mono ?_;rintro e w1 ⟨ac1,sc1,rfl,hb1,q1,q2,hs1,hg1⟩;have gn:=RN.o _ _ _ hb1;have r1:P2a h.fl=true->ac1=ac:=λhr=>(hg1.1 hr).1
 have r2:P2a h.fl=false->sc1=sc:=λhr=>(hg1.2 hr).1
 have B1:=hI hb1;have S1:=hI hs1;have R1:=hI r1;have R2:=hI r2;have hs1z:=hs1.size;clear hb1 hs1 hg1 r1 r2 C1;go_wp2_with(first|((with_reducible refine sN 20 ?_);refine r0a rfl _ rfl zs BZ ?_)|((with_reducible refine sN 6 ?_);refine b0a rfl _ rfl zs _ ZH ?_;intro g6 w2 hg6 hg7 Z2 L2;have B2:=hI (B1.o.over L2.o);have S2:=hI (S1.o.trans (W0a.of_below L2.o g)))|((with_reducible refine sT 6 ?_);refine a0a rfl _ (.tmp 6) (.tmp 20) rfl g6 rfl _ zs zs rfl Z2 7 m5c HZ HZ HZO ?_;intro w3 Z3 O3 hg8;have hne:g≠g6:=(by omega);have B3:=hI (B2.o.only O3.o hne);have hw6:w.heap.size<=g6:=(by omega);have S3:Hid (W0a g w w3):=⟨by rw[O3.o.os];exact S2.o.os,by rw[O3.o.tape];exact S2.o.tape,by rw[O3.o.output];exact S2.o.output,Nat.le_trans S2.o.size (Nat.le_of_eq O3.o.size.symm),λj hj hg=>(O3.o.rest j (by omega)).trans (S2.o.rest j hj hg)⟩)|fail)
 clear B1 B2 S1 S2 Z2 L2 O3;go_loopw [21] (λi wr=>∃m:Nat,m<=8/\i=.int .i64 m/\∃ac' sc',Hid (Blk wr g 60 (m0a h++(ac'++sc')))/\Hid (ac'.length=69)/\Hid (sc'.length=20)/\Hid (Blk wr g6 96 zs)/\Hid (W0a g w wr)/\Hid (P2a h.fl=true->ac'=ac)/\Hid (P2a h.fl=false->sc'=sc)/\Hid (∀j,j<m->I6b h xs j=false)) (λi _=>8-(intOf i).toNat)
 case atStart=>exact⟨0,by omega,rfl,ac1,sc1,B3,q1,q2,Z3,S3,R1,R2,λj hj=>absurd hj (by omega)⟩
 case round=>
  clear B3 Z3 S3 R1 R2 q1 q2;obtain⟨m,hm8,rfl,ac',sc',BB,Q1,Q2,ZZ,SS,R1,R2,PP⟩:=hrel;by_cases hlt:m<8;rotate_left
  ·obtain rfl:m=8:=by omega
   by_cases h0:er=0
   ·have HNN:=hI (λe w2 (he:e=.returned (.int .i64 5)) hb hs=>HN.o ac' sc' e w2 PP.o (by rw[if_pos h0];exact he) hb hs);subst h0;go_wp2_with fail;go_ret;exact HNN.o _ _ rfl BB.o SS.o
   ·have hne0:(er==0)=false:=bF h0
    have HNN:=hI (λe w2 (he:e=.returned (.int .i64 er)) hb hs=>HN.o ac' sc' e w2 PP.o (by rw[if_neg h0];exact he) hb hs);clear h0;go_wp2_with fail;go_ret;exact HNN.o _ _ rfl BB.o SS.o
  have HZm:=HZH.o wr g6 ZZ.o m (by omega);have hwr:=SS.o.size;have HXr:Holds wr g A n c xs:=HX.o.below (SS.o.below (Nat.le_refl g) (Nat.le_of_lt gl));have CKm:=hI (CK.o wr _ m 7 HZm HXr);have hm7:(m:Int)<=7:=by omega
  by_cases hez:v7a xs m=true;rotate_left
  ·have hez':v7a xs m=false:=by simpa using hez
   have PN:Hid (∀j,j<m+1->I6b h xs j=false):=λj hj=>by
    by_cases hjm:j=m
    ·subst hjm;rw[HT.o,hez'];rfl
    ·exact PP.o j (by omega)
   rw[hez'] at CKm;clear hez hez' HZm HXr CK;go_wp2_with fail;refine CKm.o.mono ?_;rintro e w4 ⟨rfl,rfl⟩;go_wp2_with fail;go_roundw
   case rel=>exact⟨m+1,by omega,by go_num,ac',sc',BB,Q1,Q2,ZZ,SS,R1,R2,PN⟩
   case measure=>simp[intOf];omega
  have hmn:m<=n:=by have:=(Z4c hez).1;omega
  have CMm:=hI (CM.o wr A (n-m) c (by omega));rw[hez] at CKm;by_cases hpm:U3b (n-m)=m;rotate_left
  ·have hpi:(((U3b (n-m):Nat):Int)==(m:Int))=false:=by rw[beq_eq_false_iff_ne];omega
   have PN:Hid (∀j,j<m+1->I6b h xs j=false):=λj hj=>by
    by_cases hjm:j=m
    ·subst hjm;rw[HT.o,hez,show decide (U3b (n-j)=j)=false from decide_eq_false hpm];rfl
    ·exact PP.o j (by omega)
   obtain⟨p,hp⟩:=xX (U3b (n-m));rw[<-hp] at CMm hpi;clear hez HZm HXr CK hpm hp;go_wp2_with fail;refine CKm.o.mono ?_;rintro e w4 ⟨rfl,rfl⟩;go_wp2_with fail;refine CMm.o.mono ?_;rintro e w4 ⟨rfl,rfl⟩;go_wp2_with fail;go_roundw
   case rel=>exact⟨m+1,by omega,by go_num,ac',sc',BB,Q1,Q2,ZZ,SS,R1,R2,PN⟩
   case measure=>simp[intOf];omega
  rw[hpm] at CMm;have C2:=hI (CG.o wr ac' sc' (n-m) (xs.take (n-m)) BB.o Q1.o Q2.o (V9b HXr (by omega)));have TM:Hid (∀b,decide (U4a h (xs.take (n-m))=0)=b->I6b h xs m=b):=λb hb=>by rw[HT.o,hez,show decide (U3b (n-m)=m)=true from decide_eq_true hpm,hb];rfl
  obtain⟨e2,he2⟩:=xX (U4a h (xs.take (n-m)));rw[<-he2] at C2 TM;clear hez HZm HXr CK hpm he2;by_cases h0:e2=0
  ·subst h0;have TT:=hI (TM.o true (by simp));go_wp2_with fail;refine CKm.o.mono ?_;rintro e w4 ⟨rfl,rfl⟩;go_wp2_with fail;refine CMm.o.mono ?_;rintro e w4 ⟨rfl,rfl⟩;go_wp2_with fail;refine C2.o.mono ?_;rintro e w5 ⟨ac2,sc2,rfl,hb2,_,_,hs2,hg2⟩;have HF:=hI (HY.o m ac' sc' ac2 sc2 _ wr w5 hlt TT.o PP.o rfl hb2 (SS.o.trans hs2) hwr R1.o R2.o hg2);clear hb2 hs2 hg2;go_wp2_with fail;go_ret;exact HF.o
  ·have TT:=hI (TM.o false (decide_eq_false h0));have hne2:(e2==0)=false:=bF h0
   have PN:Hid (∀j,j<m+1->I6b h xs j=false):=λj hj=>by
    by_cases hjm:j=m
    ·subst hjm;exact TT.o
    ·exact PP.o j (by omega)
   clear h0;go_wp2_with fail;refine CKm.o.mono ?_;rintro e w4 ⟨rfl,rfl⟩;go_wp2_with fail;refine CMm.o.mono ?_;rintro e w4 ⟨rfl,rfl⟩;go_wp2_with fail;refine C2.o.mono ?_;rintro e w5 ⟨ac2,sc2,rfl,hb2,q1,q2,hs2,hg2⟩;have B5:=hI hb2;have Q15:=hI q1;have Q25:=hI q2;have S5:=hI (SS.o.trans hs2);have Z5:=hI (ZZ.o.save hs2 (by omega));have R15:Hid (P2a h.fl=true->ac2=ac):=λhr=>((hg2.1 hr).1).trans (R1.o hr)
   have R25:Hid (P2a h.fl=false->sc2=sc):=λhr=>((hg2.2 hr).1).trans (R2.o hr)
   clear hb2 q1 q2 hs2 hg2;go_wp2_with fail;go_roundw
   case rel=>exact⟨m+1,by omega,by go_num,ac2,sc2,B5,Q15,Q25,Z5,S5,R15,R25,PN⟩
   case measure=>simp[intOf];omega
theorem L3c(w:World)(A:Option Addr)(n c:Nat)(xs:List Int)(hx:Holds w w.heap.size A n c xs):Calls prog 9 #[.slice A n c] w (p7a w xs):=by
 refine h4c w A n c xs hx λh0=>?_
 intro w' g A' n' c' hb B hy;have k:=g9a xs 0 hx.byte;by_cases hn:(t1a xs 0).nx=0
 ·exact b4b w' g _ zac zsc k B s0b t0b A' n' c' _ hn (λ_=>A6b (b8a k) (hy.mono (Nat.le_of_lt B.lt))) (λ_=>B6b (b8a k) (hy.mono (Nat.le_of_lt B.lt)))
 ·exact W9b w' g _ zac zsc k B s0b t0b A' n' c' _ hy hn
theorem w2c{f:Int}(h0:0<=f)(h1:f<=4294967295):bits .or .u32 f 8=flS f:=by
 obtain⟨a,rfl⟩:=Int.eq_ofNat_of_zero_le h0;rw[show(8:Int)=((8:Nat):Int) from rfl,u32_or_nat a 8 (by omega) (by omega)];have e1:a=16*(a/16) ||| a%16:=by rw[nat_join 4 (16*(a/16)) (a%16) (by omega) (by omega)];omega
 have e2:∀r:Nat,r<16->r ||| 8=if r/8%2=1 then r else r+8:=by decide
 have e3:a ||| 8=16*(a/16)+(if a/8%2=1 then a%16 else a%16+8):=by
  rw[e1,Nat.or_assoc,e2 (a%16) (by omega),nat_join 4 (16*(a/16)) _ (by omega) (by split<;>omega),<-e1]
  congr 1
  have:a%16/8%2=a/8%2:=by omega
  rw[this]
 rw[e3];unfold flS;by_cases hb:a/8%2=1
 ·rw[if_pos hb,if_pos (by omega)];omega
 ·rw[if_neg hb,if_neg (by omega)];omega
def onM(m:W4a):W4a:=⟨flH m.h (flS m.h.fl),m.a,m.s⟩
def flC(f:Int):Int:=if f/8%2=1 then f-8 else f
def x2c(m:W4a):W4a:=⟨flH m.h (flC m.h.fl),m.a,m.s⟩
def sgM(ks:List Int)(m:W4a):W4a:=⟨sgH (flH m.h (flS m.h.fl)) (E4b ks (G5a (onM m))),m.a,m.s⟩
theorem C6b{f:Int}(h0:0<=f)(h1:f<=4294967295):0<=flS f/\flS f<=4294967295/\(flS f<16->f<16):=by unfold flS;split<;>omega
theorem y2c{f:Int}(h0:0<=f)(h1:f<16):0<=flC f/\flC f<16/\r5a (flC f)=r5a f/\flC f/8%2=0/\P2a (flC f)=P2a f/\bits .andNot .u32 f 8=flC f/\P2a (flS f)=P2a f:=by rcases W0c h0 h1 with rfl | rfl | rfl | rfl | rfl | rfl | rfl | rfl | rfl | rfl | rfl | rfl | rfl | rfl | rfl | rfl<;>decide
theorem A8b{m:W4a}(k:m.ok):(onM m).ok:=by have:=C6b k.h.fl.1 k.h.fl.2;exact⟨H5c k.h this.1 this.2.1,k.a,k.s⟩
theorem B8b{m:W4a}(he:Q3a m=0):L8a m.h=true:=by
 unfold Q3a at he;by_cases h:L8a m.h=true
 ·exact h
 ·rw[if_neg h] at he;cases he
theorem C8b{m:W4a}(k:m.ok)(he:Q3a (onM m)=0):m.h.fl<16:=by have h1:flS m.h.fl<16:=(N5b (B8b he)).2.1;exact(C6b k.h.fl.1 k.h.fl.2).2.2 h1
theorem k4c(ks:List Int){m:W4a}(k:m.ok):(sgM ks m).ok:=⟨E6c (A8b k).h (s8a _ _) (F3b _ _),k.a,k.s⟩
theorem z2c(ks:List Int){m:W4a}(he:Q3a (onM m)=0):Q3a (sgM ks m)=0:=he
theorem t6c(ks:List Int){m:W4a}(k:m.ok)(he:Q3a (onM m)=0):s7a ks (G5a (onM m))=G5a (sgM ks m):=by
 have hl:=n4a (A8b k).h.len;have e1:G5a (onM m)=X4a (onM m).h++a4a (onM m).h (R5a (onM m)):=by unfold G5a;rw[if_pos he]
 have e2:G5a (sgM ks m)=X4a (sgM ks m).h++a4a (sgM ks m).h (R5a (sgM ks m)):=by unfold G5a;rw[if_pos (z2c ks he)]
 have e3:X4a (sgM ks m).h=(X4a (onM m).h).take 48++E4b ks (G5a (onM m)):=u4c _ _;have e4:a4a (sgM ks m).h (R5a (sgM ks m))=a4a (onM m).h (R5a (onM m)):=rfl;rw[e2,e3,e4];unfold s7a;have e5:(G5a (onM m)).take 48=(X4a (onM m).h).take 48:=by rw[e1,List.take_append_of_le_length (by omega)]
 have e6:(G5a (onM m)).drop 64=a4a (onM m).h (R5a (onM m)):=by rw[e1,List.drop_left' hl]
 rw[e5,e6]
theorem H1b{m:W4a}(k:m.ok)(he:Q3a m=0):64<=(G5a m).length/\b2a (G5a m) 0=0/\t1a (G5a m) 0=m.h:=by
 have e1:G5a m=X4a m.h++a4a m.h (R5a m):=by unfold G5a;rw[if_pos he]
 have h1:=X0c k.h (B8b he) (a4a m.h (R5a m));rw[e1];exact⟨by rw[List.length_append,n4a k.h.len];omega,h1.1,h1.2⟩
theorem A2c{m:W4a}(k:m.ok)(he:Q3a (onM m)=0):(x2c m).ok/\Q3a (x2c m)=0/\(x2c m).h.fl/8%2=0/\bits .andNot .u32 m.h.fl 8=flC m.h.fl:=by
 have hs:=C8b k he;obtain⟨c1,c2,c3,c4,c5,c6,c7⟩:=y2c k.h.fl.1 hs;have f1:=M5b k.h.fl.1 hs;obtain⟨p1,p2,p3⟩:=N5b (B8b he);have hm:L8a (x2c m).h=true:=by
  unfold L8a;show(known m.h.cm&&(decide (flC m.h.fl<16)&&(if r5a (flC m.h.fl)=true then decide (m.h.tr=0) else decide (m.h.asy=0))))=true
  have p3':(if r5a (flS m.h.fl)=true then decide (m.h.tr=0) else decide (m.h.asy=0))=true:=p3;rw[f1.2.2.1] at p3';have p1':known m.h.cm=true:=p1;rw[p1',decide_eq_true c2,c3,p3'];rfl
 have hb:Q5a (x2c m)=Q5a (onM m):=by
  unfold Q5a;show(if P2a (flC m.h.fl)=true then (if h1a 13 m.a=0 then pse (if P2a (flC m.h.fl)=true/\m.h.st≠0 then 13 else m.h.cm) m.s else 2) else (if q1a 13 m.s=0 then pae (if P2a (flC m.h.fl)=true/\m.h.st≠0 then 13 else m.h.cm) m.a else 2)) =
   (if P2a (flS m.h.fl)=true then (if h1a 13 m.a=0 then pse (if P2a (flS m.h.fl)=true/\m.h.st≠0 then 13 else m.h.cm) m.s else 2) else (if q1a 13 m.s=0 then pae (if P2a (flS m.h.fl)=true/\m.h.st≠0 then 13 else m.h.cm) m.a else 2))
  rw[c5,c7]
 have h0:Q5a (onM m)=0:=by have h1:=he;unfold Q3a at h1;rw[if_pos (B8b he)] at h1;exact h1
 refine⟨⟨H5c k.h c1 (by omega),k.a,k.s⟩,?_,c4,c6⟩;unfold Q3a;rw[if_pos hm,hb,h0]
theorem u6c(x:Int)(h0:0<=x)(h1:x<=4294967295):(bits .and .u32 x 8==0)=decide (x/8%2=0):=by obtain⟨a,rfl⟩:=Int.eq_ofNat_of_zero_le h0;rw[show(8:Int)=((8:Nat):Int) from rfl,u32_and_nat a 8 (by omega) (by omega),show(8:Nat)=2^3 from rfl,nat_bit 3 a];rw[Bool.eq_iff_iff,beq_iff_eq,decide_eq_true_iff];omega
theorem a3b(h:Hd)(r:List Value)(f:Int):(m0a h++r).set 4 (.int .u32 f)=m0a (flH h f)++r:=rfl
def l4c(w:World)(ks:List Int)(m:W4a)(e:Ending)(w':World):Prop:=∃v,e=.returned (.tuple #[v,.int .i64 (Q3a (onM m))])/\Own w' w.heap.size v (if Q3a (onM m)=0 then s7a ks (G5a (onM m)) else [])/\BW w w'
theorem B2c(w:World)(m:W4a)(cs:List Value)(k:m.ok)(hm:G4a w w.heap.size cs m)(fa:y6c m.a)(fs:z6c m.s)(A:Option Addr)(n c:Nat)(ks:List Int)(hk:Holds w w.heap.size A n c ks)(hn:n<=2000000)(hT:E8a w)(hK:z0b w) :
  Calls prog 5 #[.agg cs.toArray,.slice A n c] w (l4c w ks m):=by
 have HLL:=hI (hm.len k);obtain⟨ac,sc,rfl,ha,hs⟩:=hm;have hset:=a3b m.h (ac++sc) (flS m.h.fl);have HM2:Hid (G4a w w.heap.size (m0a (flH m.h (flS m.h.fl))++(ac++sc)) (onM m)):=⟨ac,sc,rfl,ha,hs⟩;have k2:=A8b k;have HLL2:=hI (HM2.o.len k2);have CP:Hid (∀w':World,BW w w'->Calls prog 8 #[.agg (m0a (flH m.h (flS m.h.fl))++(ac++sc)).toArray] w' λe w2=>∃v,e=.returned (.tuple #[v,.int .i64 (Q3a (onM m))])/\w6a w2 w'.heap.size v (G5a (onM m))/\BW w' w2):=λw' hb=>y8b w' (onM m) _ k2 (HM2.o.over hb) fa fs (hT.below hb)
 have F4:Hid (∀(w:World) (g:Nat),Blk w g 41 (m0a m.h++(ac++sc))->w.cell? ⟨g,4,none⟩=some (.int .u32 m.h.fl)):=λw g B=>Blk.cell B 4
 have hor:=w2c k.h.fl.1 k.h.fl.2;obtain⟨f0,f1⟩:=k.h.fl;have HYB:=hI (Y4b k2);have HYL:=hI (T1c k2);have H64:Hid (Q3a (onM m)=0->64<=(G5a (onM m)).length):=λhe=>(H1b k2 he).1
 have CM:Hid (∀(w':World) (A2:Option Addr) (n2 c2:Nat),BW w w'->Holds w' w'.heap.size A2 n2 c2 (G5a (onM m))->n2<=80000->Calls prog 11 #[.slice A n c,.slice A2 n2 c2] w' (H4b w' ks (G5a (onM m)))):=λw' A2 n2 c2 hb hh h8=>f3c w' A n c ks (by omega) ((hk.below hb).mono hb.size) A2 n2 c2 _ (by omega) hh (hK.below hb)
 unfold H4b at CM;have F0:=fun (g:Nat) (w:World)=>show(Instr.fieldAt 41 (.pointer (some ⟨g,0,none⟩)) 0).run prog w=.ok (.pointer (some ⟨g,0,none⟩)) w by go_simp
 have FH:∀(g:Nat) (w:World),(Instr.fieldAt 28 (.pointer (some ⟨g,0,none⟩)) 4).run prog w=.ok (.pointer (some ⟨g,4,none⟩)) w:=λg w=>by go_simp
 have HSB:Hid (Q3a (onM m)=0->n0b (G5a (onM m)).length=0/\i2b ks (G5a (onM m))=s7a ks (G5a (onM m))):=λhe=>by have:=H64.o he;unfold n0b i2b;exact⟨by rw[if_neg (by omega)],by rw[if_neg (by omega)]⟩
 unfold l4c;obtain⟨MC,hMC⟩:=xX (m0a m.h++(ac++sc));obtain⟨M2,hM2⟩:=xX (m0a (flH m.h (flS m.h.fl))++(ac++sc));rw[<-hMC] at HLL F4 hset⊢;rw[<-hM2] at HLL2 CP hset;obtain⟨er,her⟩:=xX (Q3a (onM m));obtain⟨ys,hys⟩:=xX (G5a (onM m));rw[<-her,<-hys] at CP H64 HSB⊢;rw[<-hys] at HYB HYL CM;obtain⟨fl,hfl⟩:=xX m.h.fl;rw[<-hfl] at F4 hor f0 f1 hset;obtain⟨fo,hfo⟩:=xX (flS fl);rw[<-hfo] at hor hset;have HST:=hI hset;clear hMC hM2 her hys hfl hfo hset ha hs k k2 HM2 fa fs hT hK hk;by_cases h0:er=0;rotate_left
 ·have hne:(er != 0)=true:=by simpa using h0
  go_enter func5,ntmps5;go_wp2_with(first|((with_reducible refine sN 2 ?_);refine d0a rfl _ (.tmp 0) rfl MC rfl ?_;intro g w1 hg1 hg2 K1 L1;have gc:=F4.o _ _ K1.o)|((with_reducible refine sT 13 ?_);refine x0a rfl _ (.tmp 13) (.tmp 11) rfl g 4 rfl _ MC (.int .u32 fo) (by first | rfl | (show Value.int .u32 _=_;rw[hor])) K1 (by have:=HLL.o;show 4<_;omega) (by kernel_rfl) rfl ?_;intro w3 K3 O3 hg3;rw[HST.o] at K3;have M3:=hI (c0a L1.o O3.o hg1))|((with_reducible refine sN 15 ?_);refine e0a rfl _ (.tmp 2) rfl g rfl _ M2 K3 115 _ underlying41 rfl r1a HLL2 ?_)|fail)
  refine(CP.o w3 M3.o).mono ?_;rintro e w4 ⟨v,rfl,o4,L4⟩;go_wp2;go_ret2;exact⟨_,rfl,Own.nil _ _,step M3.o L4⟩
 subst h0;go_enter func5,ntmps5;go_wp2_with(first|((with_reducible refine sN 2 ?_);refine d0a rfl _ (.tmp 0) rfl MC rfl ?_;intro g w1 hg1 hg2 K1 L1;have gc:=F4.o _ _ K1.o)|((with_reducible refine sT 13 ?_);refine x0a rfl _ (.tmp 13) (.tmp 11) rfl g 4 rfl _ MC (.int .u32 fo) (by first | rfl | (show Value.int .u32 _=_;rw[hor])) K1 (by have:=HLL.o;show 4<_;omega) (by kernel_rfl) rfl ?_;intro w3 K3 O3 hg3;rw[HST.o] at K3;have M3:=hI (c0a L1.o O3.o hg1))|((with_reducible refine sN 15 ?_);refine e0a rfl _ (.tmp 2) rfl g rfl _ M2 K3 115 _ underlying41 rfl r1a HLL2 ?_)|fail)
 refine(CP.o w3 M3.o).mono ?_;rintro e w4 ⟨v,rfl,o4,L4⟩;obtain⟨A4,c4,rfl,hh4⟩:=b1a.holds8 o4 HYB.o (by have:=HYL.o;omega);have H4:=hI hh4;have M4:=hI (step M3.o L4);obtain⟨q,hq⟩:=xX ys.length;have hq8:q<=80000:=by rw[hq];have:=HYL.o;omega
 have HQL:=hI hq;rw[<-hq] at H4⊢;clear hh4 o4 L4 hq;go_wp2_with fail;refine(CM.o w4 A4 q c4 M4.o H4.o hq8).mono ?_;rintro e w5 ⟨v5,rfl,o5,L5⟩;have O5:=hI o5;have M5:=hI (step M4.o L5);have hz:=M4.o.size;obtain⟨s1,s2⟩:=HSB.o trivial;rw[s2] at O5;rw[s1];clear s1 s2 o5 L5;go_wp2;go_ret2;exact⟨_,rfl,O5.o.mono hz,M5.o⟩
theorem S7b(w:World)(A:Option Addr)(n c:Nat)(xs:List Int)(hx:Holds w w.heap.size A n c xs)(hn:n<=1000000)(A2:Option Addr)(n2 c2:Nat)(ks:List Int)(hk:Holds w w.heap.size A2 n2 c2 ks)(hn2:n2<=1000000)(hK:z0b w)
(h0:b2a xs 0=0)(hf:(t1a xs 0).fl/8%2=1)(hc:k5a ks xs=0) :
  Calls prog 6 #[.slice A n c,.slice A2 n2 c2] w (p7a w xs):=by
 have CG:Hid (∀w':World,BW w w'->Calls prog 12 #[.slice A n c,.int .i64 0] w' λe w2=>e=.returned (.tuple #[hv (t1a xs 0),.int .i64 0])/\BW w' w2):=λw' hb=>by have h1:=b5b w' A n c xs 0 (hx.over hb) (by omega);unfold a7a at h1;rw[h0] at h1;exact h1
 have CM:Hid (∀w':World,BW w w'->Calls prog 13 #[.slice A2 n2 c2,.slice A n c] w' λe w2=>e=.returned (.int .i64 0)/\BW w' w2):=λw' hb=>by have h1:=e1c w' A2 n2 c2 ks (by omega) (hk.over hb) A n c xs (by omega) (hx.over hb) (hK.below hb);rw[hc] at h1;exact h1
 have CT:Hid (∀w':World,BW w w'->Calls prog 9 #[.slice A n c] w' λe w2=>∃ac sc,e=.returned (.tuple #[.agg (m0a (l5b xs).h++(ac++sc)).toArray,.int .i64 (O9a xs)])/\GA w2 w'.heap.size ac (l5b xs).a/\GS w2 w'.heap.size sc (l5b xs).s/\BW w' w2):=λw' hb=>L3c w' A n c xs (hx.over hb)
 have hkh:=g9a xs 0 hx.byte;have hf8:=u6c _ hkh.fl.1 hkh.fl.2;rw[hf,show decide ((1:Int)=0)=false from rfl] at hf8;have kh:(l5b xs).h.ok:=by
  unfold l5b;split
  ·exact hkh
  ·exact Y2a
 have HL:=hI (G0a hkh);have HO:=hI (g2a (t1a xs 0));have HLG:=hI (G0a kh);have F4:Hid (∀(w:World) (g:Nat),Blk w g 28 (m0a (t1a xs 0))->w.cell? ⟨g,4,none⟩=some (.int .u32 (t1a xs 0).fl)):=λw g B=>HB.c4 B
 have HZh:=hI (G0a Y2a);have ZH:=hI C7a;have ZM:=hI R9a;have HZ:=hI I3a;unfold p7a;obtain⟨fl,hfl⟩:=xX ((t1a xs 0).fl);obtain⟨f0,f1⟩:=hkh.fl;rw[<-hfl] at hf8 F4 f0 f1;obtain⟨hs,hhs⟩:=xX (m0a (t1a xs 0));unfold hv at CG;rw[<-hhs] at HL HO F4 CG;obtain⟨mm,hmm⟩:=xX (l5b xs);rw[<-hmm] at CT HLG⊢;obtain⟨er,her⟩:=xX (O9a xs);rw[<-her] at CT⊢;obtain⟨zh,hzh⟩:=xX (m0a Q1a);rw[<-hzh] at HZh ZH;obtain⟨zm,hzm⟩:=xX E1a;rw[<-hzm] at ZM HZ;clear hfl hhs hmm her hzh hzm hkh kh hf hc hx hk hK h0;go_enter func6,ntmps6;go_wp2_with(first|((with_reducible refine sN 4 ?_);refine b0a rfl _ rfl zm _ ZM ?_;intro g0 w1 hg1 hg2 Z1 L1)|fail)
 refine(CG.o w1 L1.o).mono ?_;rintro e w2 ⟨rfl,L2⟩;have Z2:=hI (Z1.o.over L2);have M2:=hI (step L1.o L2);clear L2;go_wp2_with(first|((with_reducible refine sN 6 ?_);refine b0a rfl _ rfl zh _ ZH ?_;intro g6 w3 hg3 hg4 X3 L3;have Z3:=hI (Z2.o.over L3.o);have M3:=hI (step M2.o L3.o);have hne:g0≠g6:=(by have:=Z2.o.lt;omega))|((with_reducible refine sT 6 ?_);refine a0a rfl _ (.tmp 6) (.tmp 11) rfl g6 rfl _ zh hs rfl X3 26 K0a HZh HL HO ?_;intro w4 X4 O4 hg5;have gc:=F4.o _ _ X4.o;have Z4:=hI (Z3.o.only O4.o hne);have M4:=hI (c0a M3.o O4.o (by have:=M2.o.size;omega)))|fail)
 refine(CM.o w4 M4.o).mono ?_;rintro e w5 ⟨rfl,L5⟩;have Z5:=hI (Z4.o.over L5);have M5:=hI (step M4.o L5);clear L5;go_wp2_with fail;refine(CT.o w5 M5.o).mono ?_;rintro e w6 ⟨ac,sc,rfl,ga,gs,L6⟩;have Z6:=hI (Z5.o.over L6);have M6:=hI (step M5.o L6);have HD:Hid ((m0a mm.h++(ac++sc)).length=115):=by
  show _=_
  rw[List.length_append,List.length_append,HLG.o,ga.2.1.len ga.1,gs.2.1.len gs.1]
 have HD1:Hid (∀v∈m0a mm.h++(ac++sc),v.oneCell'=true):=by
  intro v hv;rcases List.mem_append.1 hv with h | h
  ·exact g2a _ v h
  ·rcases List.mem_append.1 h with h | h
   ·exact ga.2.1.one v h
   ·exact gs.2.1.one v h
 have hg06:g0<w5.heap.size:=Z5.o.lt;have HGA:=hI ga;have HGS:=hI gs;have hwg:w.heap.size<=g0:=hg1;clear ga gs L6;go_wp2_with(first|((with_reducible refine sT 4 ?_);refine a0a rfl _ (.tmp 4) (.tmp 30) rfl g0 rfl _ zm (m0a mm.h++(ac++sc)) rfl Z6 115 r1a HZ HD HD1 ?_;intro w7 X7 O7 hg7)|fail)
 have hsz:=M5.o.size;refine bodyPost_ret (v:=.tuple #[.agg (m0a mm.h++(ac++sc)).toArray,.int .i64 er]) ?_ rfl ⟨ac,sc,rfl,(HGA.o.only O7.o hg06).mono hsz,(HGS.o.only O7.o hg06).mono hsz,c0a M6.o O7.o hwg⟩;exact K2a rfl _ _ g0 _ _ (0,0) _ rfl X7.o underlying41 rfl (by rw[r1a];have:=HD.o;simp[this]) rfl
theorem T7b(w:World)(A:Option Addr)(n c:Nat)(xs:List Int)(hx:Holds w w.heap.size A n c xs)(A2:Option Addr)(n2 c2:Nat)
(h0:b2a xs 0=0)(hf:(t1a xs 0).fl/8%2=0) :
  Calls prog 6 #[.slice A n c,.slice A2 n2 c2] w λe w'=>e=.returned (.tuple #[.agg E1a.toArray,.int .i64 6])/\BW w w':=by
 have CG:Hid (∀w':World,BW w w'->Calls prog 12 #[.slice A n c,.int .i64 0] w' λe w2=>e=.returned (.tuple #[hv (t1a xs 0),.int .i64 0])/\BW w' w2):=λw' hb=>by have h1:=b5b w' A n c xs 0 (hx.over hb) (by omega);unfold a7a at h1;rw[h0] at h1;exact h1
 have hkh:=g9a xs 0 hx.byte;have hf8:=u6c _ hkh.fl.1 hkh.fl.2;rw[hf,show decide ((0:Int)=0)=true from rfl] at hf8;have HL:=hI (G0a hkh);have HO:=hI (g2a (t1a xs 0));have F4:Hid (∀(w:World) (g:Nat),Blk w g 28 (m0a (t1a xs 0))->w.cell? ⟨g,4,none⟩=some (.int .u32 (t1a xs 0).fl)):=λw g B=>HB.c4 B
 have HZh:=hI (G0a Y2a);have ZH:=hI C7a;have ZM:=hI R9a;have HZ:=hI I3a;have BZ:=X3b;have HZ1:Hid (∀v∈E1a,v.oneCell'=true):=(show G4a w 0 _ D7b from ⟨_,_,rfl,V1a w 0,v2a w 0⟩).one;obtain⟨fl,hfl⟩:=xX ((t1a xs 0).fl);obtain⟨f0,f1⟩:=hkh.fl;rw[<-hfl] at hf8 F4 f0 f1;obtain⟨hs,hhs⟩:=xX (m0a (t1a xs 0));unfold hv at CG;rw[<-hhs] at HL HO F4 CG;obtain⟨zh,hzh⟩:=xX (m0a Q1a);rw[<-hzh] at HZh ZH;obtain⟨zm,hzm⟩:=xX E1a;rw[<-hzm] at ZM HZ HZ1 BZ⊢;clear hfl hhs hzh hzm hkh hf hx h0;go_enter func6,ntmps6;go_wp2_with(first|((with_reducible refine sN 4 ?_);refine b0a rfl _ rfl zm _ ZM ?_;intro g0 w1 hg1 hg2 Z1 L1)|fail)
 refine(CG.o w1 L1.o).mono ?_;rintro e w2 ⟨rfl,L2⟩;have Z2:=hI (Z1.o.over L2);have M2:=hI (step L1.o L2);clear L2;go_wp2_with(first|((with_reducible refine sN 6 ?_);refine b0a rfl _ rfl zh _ ZH ?_;intro g6 w3 hg3 hg4 X3 L3;have Z3:=hI (Z2.o.over L3.o);have M3:=hI (step M2.o L3.o);have hne:g0≠g6:=(by have:=Z2.o.lt;omega))|((with_reducible refine sT 6 ?_);refine a0a rfl _ (.tmp 6) (.tmp 11) rfl g6 rfl _ zh hs rfl X3 26 K0a HZh HL HO ?_;intro w4 X4 O4 hg5;have gc:=F4.o _ _ X4.o;have Z4:=hI (Z3.o.only O4.o hne);have M4:=hI (c0a M3.o O4.o (by have:=M2.o.size;omega)))|((with_reducible refine sN 27 ?_);refine r0a rfl _ rfl zm BZ ?_)|((with_reducible refine sT 4 ?_);refine a0a rfl _ (.tmp 4) (.tmp 27) rfl g0 rfl _ zm zm rfl Z4 115 r1a HZ HZ HZ1 ?_;intro w7 X7 O7 hg7)|fail)
 refine bodyPost_ret (v:=.tuple #[.agg zm.toArray,.int .i64 6]) ?_ rfl ⟨rfl,c0a M4.o O7.o hg1⟩;exact K2a rfl _ _ g0 _ _ (0,0) _ rfl X7.o underlying41 rfl (by rw[r1a];have:=HZ.o;simp[this]) rfl
theorem D6b(w:World)(A:Option Addr)(n k:Nat)(xs:List Int)(hx:Holds w w.heap.size A n k xs) :
  Calls prog 61 #[.int .u16 13,.slice A n k] w (H1a w 13 xs):=by
 have hl:=hx.len;have hrm:=hx.room;have HX:=hI hx;have hby:=hx.byte;have ZH:=hI n8a;have ZB:=hI W5b;have BZ:=F7a;have HZ:Hid ((l0a (.slice none 0 0) (.slice none 0 0) (.slice none 0 0) i0a).length=69):=G1a h0a;have HZ1:Hid (∀v∈l0a (.slice none 0 0) (.slice none 0 0) (.slice none 0 0) i0a,v.oneCell'=true):=(V1a w 0).one;have B1:prog.built 125 [(0,.slice A n k)]=some (.slice A n k::.int .i64 0::.int .i64 0::([]:List Value)).toArray:=by kernel_rfl
 have B2:prog.built 127 [(0,.agg #[.slice A n k,.int .i64 0,.int .i64 0])]=some (.slice A n k::.int .i64 0::.int .i64 0::l0a (.slice none 0 0) (.slice none 0 0) (.slice none 0 0) i0a).toArray:=by kernel_rfl
 have HZI:Hid (∀w':World,g1a w' w'.heap.size (l0a (.slice none 0 0) (.slice none 0 0) (.slice none 0 0) i0a) i0a):=λw'=>V1a w' _
 have HE:Hid (∀er,A2a 13 xs=er->er≠0->∀e w',e=.returned (.tuple #[.agg (l0a (.slice none 0 0) (.slice none 0 0) (.slice none 0 0) i0a).toArray,.int .i64 er])->BW w w'->H1a w 13 xs e w'):=by intro er h1 h2 e w' he hb;unfold H1a N2a;rw[h1,if_neg h2];exact⟨_,he,HZI.o w',hb,λ_ _ _ _ _ h=>by cases h⟩
 obtain⟨zs,hzs⟩:=xX (l0a (.slice none 0 0) (.slice none 0 0) (.slice none 0 0) i0a);obtain⟨tl,htl⟩:=xX zs.tail;have HTL:Hid (zs=.slice none 0 0::tl):=by show _=_;rw[htl,hzs];rfl
 have HZS:=hI hzs;rw[<-hzs] at ZH ZB BZ HZ HZ1 B2 HE;clear hzs htl HZI;have HZB:Hid ((Value.slice none 0 0::Value.int .i64 0::Value.int .i64 0::zs).length=72):=by show _=_;simp only[List.length_cons,HZ.o]
 have HNB:Hid ((Value.slice A n k::Value.int .i64 0::Value.int .i64 0::zs).length=72):=by show _=_;simp only[List.length_cons,HZ.o]
 have HOB:Hid (∀v∈Value.slice A n k::Value.int .i64 0::Value.int .i64 0::zs,v.oneCell'=true):=by
  intro v hv;rcases List.mem_cons.1 hv with rfl | hv
  ·rfl
  rcases List.mem_cons.1 hv with rfl | hv
  ·rfl
  rcases List.mem_cons.1 hv with rfl | hv
  ·rfl
  exact HZ1.o v hv
 have hk:S0a 13=true:=by decide
 have hge:A2a 13 xs=Q0a xs (rdZ xs 4 rd0):=by unfold A2a T6a;rw[if_pos hk,if_neg (by omega),if_neg (by omega),if_neg (by omega)]
 have hgo:Q0a xs (rdZ xs 4 rd0)=0->N2a 13 xs=i0a:=λhe=>by unfold N2a;rw[hge,he,if_pos rfl];unfold T6a;rw[if_neg (by omega),if_neg (by omega),if_neg (by omega)]
 obtain⟨cq,hcq⟩:=xX (13:Int);rw[show H1a w 13 xs=H1a w cq xs by rw[hcq]];rw[<-hcq] at HE hk hge hgo;clear hcq;have p0:rd0.p<=n:=Nat.zero_le _;have p1:(rdZ xs 4 rd0).p<=n:=D9a hl p0;have C1:Hid (∀(w':World) (g:Nat) (rest:List Value),PRd w' g 127 A n k rd0 rest->Holds w' w'.heap.size A n k xs->Calls prog 83 #[.pointer (some ⟨g,0,none⟩),.int .i64 4] w' (l5a w' g 127 A n k (rdZ xs 4 rd0) rest)):=λw' g rest h1 h2=>R6a w' g 127 A n k xs _ 4 rest h1 h2 p0 (by decide)
 have CE:Hid (∀(w':World) (g:Nat) (rest:List Value),PRd w' g 127 A n k (rdZ xs 4 rd0) rest->Calls prog 84 #[.pointer (some ⟨g,0,none⟩)] w' λe w2=>e=.returned (.int .i64 (Q0a xs (rdZ xs 4 rd0)))/\∃j,w'.drewN j=w2):=λw' g rest h1=>S6a w' g 127 A n k xs _ rest h1 hl hrm p1
 have hre:Q0a xs (rdZ xs 4 rd0)=0->(rdZ xs 4 rd0).e=0:=P3a;by_cases he:Q0a xs (rdZ xs 4 rd0)=0;rotate_left
 ·have HQ:=hI (HE.o _ hge he);have hne:(Q0a xs (rdZ xs 4 rd0) != 0)=true:=by simpa using he
  obtain⟨z,hz⟩:=xX (rdZ xs 4 rd0);rw[<-hz] at C1 p1 CE he hre HQ hne;clear hz;obtain⟨er,her⟩:=xX (Q0a xs z);rw[<-her] at CE he HQ hne hre;clear her he hre;clear HE hx hk hge;go_enter func61,ntmps61;go_wp2_with(first|((with_reducible refine sN 4 ?_);refine b0a rfl _ rfl zs _ ZH ?_;intro h w1 hg1 hg2 Z1 L1)|((with_reducible refine sN 9 ?_);refine v0a rfl _ _ rfl (.slice A n k::.int .i64 0::.int .i64 0::[]) (by refine Eq.trans ?_ B1;kernel_rfl) ?_)|((with_reducible refine sN 10 ?_);refine v0a rfl _ _ rfl (.slice A n k::.int .i64 0::.int .i64 0::zs) (by refine Eq.trans ?_ B2;kernel_rfl) ?_)|((with_reducible refine sN 6 ?_);refine b0a rfl _ rfl (.slice none 0 0::.int .i64 0::.int .i64 0::zs) _ ZB ?_;intro g w2 hg3 hg4 P02 L2)|((with_reducible refine sT 6 ?_);refine a0a rfl _ (.tmp 6) (.tmp 10) rfl g rfl _ (.slice none 0 0::.int .i64 0::.int .i64 0::zs) (.slice A n k::.int .i64 0::.int .i64 0::zs) rfl P02 72 F9a HZB HNB HOB ?_;intro w3 P03 O3 hg5;have hsz:=L1.o.size;have hng:h≠g:=(by omega);have Z3:=hI ((Z1.o.over L2.o).only O3.o hng);have B3:Hid (BW w w3):=c0a (step L1.o L2.o) O3.o (by omega);have P3:Hid (PRd w3 g 127 A n k rd0 zs):=P03;have hwg:w.heap.size<=g:=(by omega);have hwh:w.heap.size<=h:=hg1)|fail)
  refine(C1.o w3 g _ P3.o ((HX.o.below B3.o).mono B3.o.size)).mono ?_;rintro e w4 ⟨rfl,hP,hS⟩;have P4:=hI hP;have Z4:=hI (Z3.o.save hS hng);have B4:=hI (B3.o.trans (hS.below hwg B3.o.size));clear hP hS P3 Z3 B3;obtain⟨rs,hrs⟩:=xX zs;have HRS:=hI hrs;have P4':Hid (PRd w4 g 127 A n k z rs):=by rw[hrs];exact P4.o
  clear hrs P4;have P4:=P4';clear P4';go_wp2_with fail;refine(CE.o w4 g _ P4.o).mono ?_;rintro e w99 ⟨rfl,kk,rfl⟩;have Z99:=hI (Blk.drewN Z4.o kk);have P99:=hI (Blk.drewN P4.o kk);have B99:Hid (BW w (w4.drewN kk)):=step B4.o (x3a _ kk);obtain⟨wq,hwq⟩:=xX (w4.drewN kk);rw[<-hwq] at Z99 P99 B99⊢;clear hwq P4 Z4 B4;go_wp2_with(first|((with_reducible refine sN 48 ?_);refine r0a rfl _ rfl zs BZ ?_)|((with_reducible refine sT 4 ?_);refine a0a rfl _ (.tmp 4) (.tmp 48) rfl h rfl _ zs zs rfl Z99 69 p0a HZ HZ HZ1 ?_;intro w10 K10 O10 hg10)|fail)
  refine bodyPost_ret (v:=.tuple #[.agg zs.toArray,.int .i64 er]) ?_ rfl (HQ.o _ _ rfl (c0a B99.o O10.o hwh));exact j0a rfl _ _ h _ _ (0,0) _ rfl K10.o underlying34 rfl (by rw[p0a];have:=HZ.o;simp[this]) rfl
 have HQ:Hid (∀vd e w',e=.returned (.tuple #[.agg (l0a vd (.slice none 0 0) (.slice none 0 0) (i0a)).toArray,.int .i64 0])->g1a w' w'.heap.size (l0a vd (.slice none 0 0) (.slice none 0 0) (i0a)) (i0a)->BW w w'->(∀b off s n c,vd=.slice (some ⟨b,off,s⟩) n c->w.heap.size<=b)->H1a w cq xs e w'):=by intro vd e w' h1 h2 h3 h9;have h4:=hgo he;unfold H1a;rw[h4,hge,he];exact⟨vd,h1,h2,h3,h9⟩
 obtain⟨z,hz⟩:=xX (rdZ xs 4 rd0);rw[<-hz] at C1 p1 CE he hre;clear hz;rw[he] at CE;have hre0:=hre he;clear HE hx hk hge hre he hre0;go_enter func61,ntmps61;go_wp2_with(first|((with_reducible refine sN 4 ?_);refine b0a rfl _ rfl zs _ ZH ?_;intro h w1 hg1 hg2 Z1 L1)|((with_reducible refine sN 9 ?_);refine v0a rfl _ _ rfl (.slice A n k::.int .i64 0::.int .i64 0::[]) (by refine Eq.trans ?_ B1;kernel_rfl) ?_)|((with_reducible refine sN 10 ?_);refine v0a rfl _ _ rfl (.slice A n k::.int .i64 0::.int .i64 0::zs) (by refine Eq.trans ?_ B2;kernel_rfl) ?_)|((with_reducible refine sN 6 ?_);refine b0a rfl _ rfl (.slice none 0 0::.int .i64 0::.int .i64 0::zs) _ ZB ?_;intro g w2 hg3 hg4 P02 L2)|((with_reducible refine sT 6 ?_);refine a0a rfl _ (.tmp 6) (.tmp 10) rfl g rfl _ (.slice none 0 0::.int .i64 0::.int .i64 0::zs) (.slice A n k::.int .i64 0::.int .i64 0::zs) rfl P02 72 F9a HZB HNB HOB ?_;intro w3 P03 O3 hg5;have hsz:=L1.o.size;have hng:h≠g:=(by omega);have Z3:=hI ((Z1.o.over L2.o).only O3.o hng);have B3:Hid (BW w w3):=c0a (step L1.o L2.o) O3.o (by omega);have P3:Hid (PRd w3 g 127 A n k rd0 zs):=P03;have hwg:w.heap.size<=g:=(by omega);have hwh:w.heap.size<=h:=hg1)|fail)
 refine(C1.o w3 g _ P3.o ((HX.o.below B3.o).mono B3.o.size)).mono ?_;rintro e w4 ⟨rfl,hP,hS⟩;have P4:=hI hP;have Z4:=hI (Z3.o.save hS hng);have B4:=hI (B3.o.trans (hS.below hwg B3.o.size));clear hP hS P3 Z3 B3;obtain⟨rs,hrs⟩:=xX zs;have HRS:=hI hrs;have P4':Hid (PRd w4 g 127 A n k z rs):=by rw[hrs];exact P4.o
 clear hrs P4;have P4:=P4';clear P4';go_wp2_with fail;have HEQ:Hid (rs=l0a (.slice none 0 0) (.slice none 0 0) (.slice none 0 0) (i0a)):=by
  show _=_
  rw[HRS.o,HZS.o]
 have HRL:Hid (rs.length=69):=by show _=_;rw[HEQ.o];exact G1a h0a
 have HR1:Hid (∀v∈rs,v.oneCell'=true):=by rw[HEQ.o];exact x1a rfl rfl rfl
 refine(CE.o w4 g _ P4.o).mono ?_;rintro e w99 ⟨rfl,kk,rfl⟩;have Z99:=hI (Blk.drewN Z4.o kk);have P99:=hI (Blk.drewN P4.o kk);have B99:Hid (BW w (w4.drewN kk)):=step B4.o (x3a _ kk);obtain⟨wq,hwq⟩:=xX (w4.drewN kk);rw[<-hwq] at Z99 P99 B99⊢;clear hwq P4 Z4 B4;have hrg:Hid (wq.rangeAt g 3 rs):=Blk.range P99.o 3;go_wp2_with(first|((with_reducible refine sN 51 ?_);refine q0a rfl _ (.tmp 50) rfl g 3 rfl rs _ hrg underlying34 rfl 69 p0a HRL ?_)|((with_reducible refine sT 4 ?_);refine a0a rfl _ (.tmp 4) (.tmp 51) rfl h rfl _ zs rs rfl Z99 69 p0a HZ HRL HR1 ?_;intro w10 K10 O10 hg10)|fail)
 refine bodyPost_ret (v:=.tuple #[.agg rs.toArray,.int .i64 0]) ?_ rfl ?_
 ·exact j0a rfl _ _ h _ _ (0,0) _ rfl K10.o underlying34 rfl (by rw[p0a];have:=HRL.o;simp[this]) rfl
 ·exact HQ.o (.slice none 0 0) _ w10 (congrArg (λr:List Value=>Ending.returned (.tuple #[.agg r.toArray,.int .i64 0])) HEQ.o) ⟨none,0,0,none,0,0,none,0,0,rfl,J1a.nil _ _ _,Holds.nil _ _,c1a.nil _ _ _ _⟩ (c0a B99.o O10.o hwh) (λ_ _ _ _ _ h=>by cases h)
theorem j4b{w:World}{B:Nat}{ad:Addr}{n c:Nat}{xs:List Int}(hr:Holds w B (some ad) n c xs):∀j u,(xs.map (Value.int .u8))[j]? = some u->w.cell? (ad.add j)=some u:=by
 have hl:=hr.len;intro j u hj;have hjl:j<xs.length:=by
  by_cases hj':j<xs.length
  ·exact hj'
  ·rw[List.getElem?_eq_none (by simp;omega)] at hj;cases hj
 obtain⟨b,off,he,_,hcl⟩:=hr.cells (by omega);obtain rfl:=Option.some.inj he;have e:(⟨b,off,none⟩:Addr).add j=⟨b,off+j,none⟩:=by
  by_cases hj0:j=0
  ·subst hj0;simp[Addr.add]
  ·simp[Addr.add,hj0]
 rw[e,hcl j (by omega),<-hj];simp[hjl]
theorem a0b{w:World}{ops:Array Oper}{rest:List Oper}{o:Oper}{a:Act}{Q:Exit->Act->World->Prop}(hgd:o.guard=none)(s x:Operand)
(ho:o.op=.call { callee:=.builtin .append,args:=#[s,x],argTypes:=#[31,31] })
(B:Nat)(A:Option Addr)(n c:Nat)(xs:List Int)(hs:a.eval s=.slice A n n)(hX:Holds w B A n c xs)(B':Nat)(A':Option Addr)(m c':Nat)(ys:List Int)(hx:a.eval x=.slice A' m c')
(hY:Holds w B' A' m c' ys)(hm:0<m)(hlen:n+m<=140737488355328)
(h:∀v' w',Hid (Own w' w.heap.size v' (xs++ys))->BW w w'->wpList prog ops Q rest (a.put o.dst v') w') :
  wpList prog ops Q (o::rest) a w:=by
 obtain⟨i0,hi,hz0,hz1,hz2⟩:=info_parts i3a;have hl:=hX.len;have hl':=hY.len;rcases A' with _ | ad
 ·exact absurd (hY.bare rfl) (by have:=hY.fit;omega)
 refine wpList_append_grows w hgd s x 31 ho 5 i0 (.int .u8 0) 1 1 underlying31 hi hz0 hz1 hz2 rfl (by omega) A n n (xs.map (Value.int .u8)) hs (λhA=>?_) (by simp[hl]) (λb hb=>?_)
  ad m c' (ys.map (Value.int .u8)) hx (by simp[hl']) (j4b hY) (by intro v hv;obtain⟨x,_,rfl⟩:=List.mem_map.1 hv;rfl) (by omega) (by unfold maxLen;omega) (by omega) ?_
 ·have:=hX.bare hA;have:=hX.fit;exact⟨by omega,by omega⟩
 ·subst hb;exact j4b hX
 ·intro v' w' h1 h2;refine h v' w' ?_ ((Below.refl _ _).grown h2 (Nat.le_refl _) (λk hk=>by cases hk));show w'.ownsRow w.heap.size 5 1 v' (xs++ys).length ((xs++ys).map (Value.int .u8))
  rw[List.map_append,List.length_append,hl,hl'];exact h1
def D8b(h:Hd)(s:Int):Hd:=⟨h.ch,IntKind.u32.wrap s,h.cm,0,if h.fl/4%2=1 then 5 else 1,0,h.id,0,if r5a h.fl=true then 0 else h.tr,h.se,List.replicate 16 0⟩
theorem U7b{h:Hd}(k:h.ok)(s:Int):(D8b h s).ok:=by
 refine⟨k.ch,?_,k.cm,(by decide:(0:Int)<=0/\(0:Int)<=65535),?_,(by decide:(0:Int)<=0/\(0:Int)<=4294967295),k.id,(by decide:(0:Int)<=0/\(0:Int)<=18446744073709551615),?_,k.se,by simp[D8b],Bytes.zeros 16⟩
 ·show 0<=IntKind.u32.wrap s/\IntKind.u32.wrap s<=4294967295
  have e:IntKind.u32.wrap s=s%4294967296:=by unfold IntKind.wrap;rfl
  rw[e];omega
 ·show 0<=(if h.fl/4%2=1 then (5:Int) else 1)/\(if h.fl/4%2=1 then (5:Int) else 1)<=4294967295
  split<;>omega
 ·show 0<=(if r5a h.fl=true then 0 else h.tr)/\(if r5a h.fl=true then 0 else h.tr)<=4294967295
  split
  ·decide
  ·exact k.tr
theorem M3c(x:Int)(h0:0<=x)(h1:x<=4294967295):bits .or .u32 1 (bits .and .u32 x 4)=if x/4%2=1 then 5 else 1:=by
 obtain⟨a,rfl⟩:=Int.eq_ofNat_of_zero_le h0;have e:(bits .and .u32 (a:Int) 4)=((a &&& 4:Nat):Int):=by rw[show(4:Int)=((4:Nat):Int) from rfl,u32_and_nat a 4 (by omega) (by omega)]
 rw[e];have h2:a &&& 4=if a/4%2=1 then 4 else 0:=by
  have ht:a.testBit 2=decide (a/4%2=1):=by rw[Nat.testBit_eq_decide_div_mod_eq]
  apply Nat.eq_of_testBit_eq;intro i;rw[Nat.testBit_and,show(4:Nat)=2^2 from rfl,Nat.testBit_two_pow];by_cases hi:2=i
  ·subst hi;rw[ht];by_cases h:a/4%2=1
   ·rw[if_pos h,decide_eq_true h];decide
   ·rw[if_neg h,decide_eq_false h];decide
  ·rw[decide_eq_false hi,Bool.and_false];split
   ·rw[Nat.testBit_two_pow,decide_eq_false hi]
   ·exact(Nat.zero_testBit i).symm
 rw[h2];by_cases h:a/4%2=1
 ·rw[if_pos h,if_pos (by omega)];decide
 ·rw[if_neg h,if_neg (by omega)];decide
theorem X9b(w:World)(h:Hd)(k:h.ok)(s:Int)(hs:-9223372036854775808<=s/\s<=9223372036854775807) :
  Calls prog 10 #[hv h,.int .i64 s] w λe w'=>e=.returned (hv (D8b h s))/\BW w w':=by
 have HL:=hI (G0a k);have ZH:=hI C7a;have HZ:=hI (G0a Y2a);have hfr:=M3c h.fl k.fl.1 k.fl.2;have hfa:=N1c h.fl k.fl.1 k.fl.2;have FC:Hid (∀(w:World) (g:Nat),Blk w g 28 (m0a h)->w.cell? ⟨g,0,none⟩=some (.int .u16 h.ch)/\w.cell? ⟨g,2,none⟩=some (.int .u16 h.cm)/\w.cell? ⟨g,4,none⟩=some (.int .u32 h.fl)/\w.cell? ⟨g,6,none⟩=some (.int .u64 h.id)/\w.cell? ⟨g,8,none⟩=some (.int .u32 h.tr)/\w.cell? ⟨g,9,none⟩=some (.int .u64 h.se)):=λw g B=>⟨HB.c0 B,HB.c2 B,HB.c4 B,HB.c6 B,HB.c8 B,HB.c9 B⟩
 obtain⟨st,hst⟩:=xX (IntKind.u32.wrap s);obtain⟨fr,hfre⟩:∃x:Int,x=if h.fl/4%2=1 then 5 else 1:=⟨_,rfl⟩
 rw[<-hfre] at hfr;obtain⟨za,hza⟩:=xX (r5a h.fl);rw[<-hza] at hfa;have e1:m0a (D8b h s)=m0a ⟨h.ch,st,h.cm,0,fr,0,h.id,0,if za=true then 0 else h.tr,h.se,List.replicate 16 0⟩:=by unfold D8b;rw[hst,hfre,hza]
 have BL:prog.built 28 [(0,.int .u16 h.ch),(1,.int .u32 st),(2,.int .u16 h.cm),(4,.int .u32 fr),(6,.int .u64 h.id),(8,.int .u32 h.tr),(9,.int .u64 h.se)]=some (m0a ⟨h.ch,st,h.cm,0,fr,0,h.id,0,h.tr,h.se,List.replicate 16 0⟩).toArray:=by kernel_rfl
 have HX:Hid ((m0a ⟨h.ch,st,h.cm,0,fr,0,h.id,0,h.tr,h.se,List.replicate 16 0⟩).length=26):=rfl;have HXO:=hI (g2a ⟨h.ch,st,h.cm,0,fr,0,h.id,0,h.tr,h.se,List.replicate 16 0⟩);have HY:Hid ((m0a ⟨h.ch,st,h.cm,0,fr,0,h.id,0,0,h.se,List.replicate 16 0⟩).length=26):=rfl;have HYO:=hI (g2a ⟨h.ch,st,h.cm,0,fr,0,h.id,0,0,h.se,List.replicate 16 0⟩);have HS:Hid ((m0a ⟨h.ch,st,h.cm,0,fr,0,h.id,0,h.tr,h.se,List.replicate 16 0⟩).set 8 (.int .u32 0)=m0a ⟨h.ch,st,h.cm,0,fr,0,h.id,0,0,h.se,List.replicate 16 0⟩):=rfl;unfold hv;rw[e1];obtain⟨cs,hcs⟩:=xX (m0a h);rw[<-hcs] at HL FC⊢;obtain⟨zs,hzs⟩:=xX (m0a Q1a);rw[<-hzs] at ZH HZ;obtain⟨xs,hxs⟩:=xX (m0a ⟨h.ch,st,h.cm,0,fr,0,h.id,0,h.tr,h.se,List.replicate 16 0⟩);rw[<-hxs] at BL HX HXO HS;obtain⟨ys,hys⟩:=xX (m0a ⟨h.ch,st,h.cm,0,fr,0,h.id,0,0,h.se,List.replicate 16 0⟩);rw[<-hys] at HY HYO HS;have e2:m0a ⟨h.ch,st,h.cm,0,fr,0,h.id,0,if za=true then 0 else h.tr,h.se,List.replicate 16 0⟩=if za=true then ys else xs:=by rw[hys,hxs];cases za<;>rfl
 rw[e2];obtain⟨ch,hch⟩:=xX h.ch;obtain⟨cm,hcm⟩:=xX h.cm;obtain⟨fl,hfl⟩:=xX h.fl;obtain⟨id,hid⟩:=xX h.id;obtain⟨tr,htr⟩:=xX h.tr;obtain⟨se,hse⟩:=xX h.se;rw[<-hch,<-hcm,<-hid,<-htr,<-hse] at BL;rw[<-hch,<-hcm,<-hfl,<-hid,<-htr,<-hse] at FC;rw[<-hfl] at hfr hfa;have hst':IntKind.u32.wrap s=st:=hst.symm;have hstm:s%4294967296=st:=by rw[<-hst'];rfl
 clear e1 e2 hxs hys hcs hzs hza hfre hch hcm hfl hid htr hse k hst;cases za
 ·rw[if_neg (by decide)];go_enter func10,ntmps10;go_wp2_with(first|((with_reducible refine sN 2 ?_);refine d0a rfl _ (.tmp 0) rfl cs rfl ?_;intro g w1 hg1 hg2 B1 L1;obtain⟨c0,c2,c4,c6,c8,c9⟩:=FC.o _ _ B1.o)|((with_reducible refine sN 4 ?_);refine b0a rfl _ rfl zs _ ZH ?_;intro g0 w2 hg3 hg4 Z2 L2;have B2:=hI (B1.o.over L2.o);have M2:=hI (step L1.o L2.o);obtain⟨d0,d2,d4,d6,d8,d9⟩:=FC.o _ _ B2.o)|((with_reducible refine sN 22 ?_);refine v0a rfl _ _ rfl xs (by refine Eq.trans (congrArg (prog.built 28) ?_) BL;kernel_rfl) ?_)|((with_reducible refine sN 5 ?_);refine b0a rfl _ rfl zs _ ZH ?_;intro g5 w3 hg5 hg6 X3 L3;have Z3:=hI (Z2.o.over L3.o);have B3:=hI (B2.o.over L3.o);have M3:=hI (step M2.o L3.o);have hgw:=L1.o.size)|((with_reducible refine sT 5 ?_);refine a0a rfl _ (.tmp 5) (.tmp 22) rfl g5 rfl _ zs xs rfl X3 26 K0a HZ HX HXO ?_;intro w4 X4 O4 hg7;have Z4:=hI (Z3.o.only O4.o (by have:=Z2.o.lt;omega));have B4:=hI (B3.o.only O4.o (by have:=B2.o.lt;omega));obtain⟨k0,k2,k4,k6,k8,k9⟩:=FC.o _ _ B4.o;have M4:=hI (c0a M3.o O4.o (by have:=L2.o.size;omega)))|((with_reducible refine sN 28 ?_);refine e0a rfl _ (.tmp 5) rfl g5 rfl _ xs X4 26 _ underlying28 rfl K0a HX ?_)|((with_reducible refine sT 4 ?_);refine a0a rfl _ (.tmp 4) (.tmp 28) rfl g0 rfl _ zs xs rfl Z4 26 K0a HZ HX HXO ?_;intro w5 X5 O5 hg8;clear c0 c2 c4 c6 c8 c9 d0 d2 d4 d6 d8 d9 k0 k2 k4 k6 k8 k9 hfr hfa hst' hstm FC)|fail)
  refine bodyPost_ret (v:=.agg xs.toArray) ?_ rfl ⟨rfl,c0a M4.o O5.o (by omega)⟩;exact results_cell_row rfl _ _ g0 _ _ (0,0) _ rfl X5.o underlying28 rfl (by rw[K0a];have:=HX.o;simp[this])
 ·rw[if_pos rfl];go_enter func10,ntmps10;go_wp2_with(first|((with_reducible refine sN 2 ?_);refine d0a rfl _ (.tmp 0) rfl cs rfl ?_;intro g w1 hg1 hg2 B1 L1;obtain⟨c0,c2,c4,c6,c8,c9⟩:=FC.o _ _ B1.o)|((with_reducible refine sN 4 ?_);refine b0a rfl _ rfl zs _ ZH ?_;intro g0 w2 hg3 hg4 Z2 L2;have B2:=hI (B1.o.over L2.o);have M2:=hI (step L1.o L2.o);obtain⟨d0,d2,d4,d6,d8,d9⟩:=FC.o _ _ B2.o)|((with_reducible refine sN 22 ?_);refine v0a rfl _ _ rfl xs (by refine Eq.trans (congrArg (prog.built 28) ?_) BL;kernel_rfl) ?_)|((with_reducible refine sN 5 ?_);refine b0a rfl _ rfl zs _ ZH ?_;intro g5 w3 hg5 hg6 X3 L3;have Z3:=hI (Z2.o.over L3.o);have B3:=hI (B2.o.over L3.o);have M3:=hI (step M2.o L3.o);have hgw:=L1.o.size)|((with_reducible refine sT 5 ?_);refine a0a rfl _ (.tmp 5) (.tmp 22) rfl g5 rfl _ zs xs rfl X3 26 K0a HZ HX HXO ?_;intro w4 X4 O4 hg7;have Z4:=hI (Z3.o.only O4.o (by have:=Z2.o.lt;omega));have B4:=hI (B3.o.only O4.o (by have:=B2.o.lt;omega));obtain⟨k0,k2,k4,k6,k8,k9⟩:=FC.o _ _ B4.o;have M4:=hI (c0a M3.o O4.o (by have:=L2.o.size;omega)))|((with_reducible refine sT 27 ?_);refine x0a rfl _ (.tmp 27) _ rfl g5 8 rfl _ xs (.int .u32 0) rfl X4 (hI (by have:=HX.o;omega)) (by kernel_rfl) rfl ?_;intro w6 X6 O6 hg9;rw[HS.o] at X6;have Z6:=hI (Z4.o.only O6.o (by have:=Z2.o.lt;omega));have M6:=hI (c0a M4.o O6.o (by have:=L2.o.size;omega)))|((with_reducible refine sN 28 ?_);refine e0a rfl _ (.tmp 5) rfl g5 rfl _ ys X6 26 _ underlying28 rfl K0a HY ?_)|((with_reducible refine sT 4 ?_);refine a0a rfl _ (.tmp 4) (.tmp 28) rfl g0 rfl _ zs ys rfl Z6 26 K0a HZ HY HYO ?_;intro w5 X5 O5 hg8;clear c0 c2 c4 c6 c8 c9 d0 d2 d4 d6 d8 d9 k0 k2 k4 k6 k8 k9 hfr hfa hst' hstm FC)|fail)
  refine bodyPost_ret (v:=.agg ys.toArray) ?_ rfl ⟨rfl,c0a M6.o O5.o (by omega)⟩;exact results_cell_row rfl _ _ g0 _ _ (0,0) _ rfl X5.o underlying28 rfl (by rw[K0a];have:=HY.o;simp[this])
def C2c(m:W4a):Prop:=(m.a.dial.length<=281474976710656/\m.a.data.length<=281474976710656/\m.a.locks.length<=281474976710656)/\m.s.data.length<=281474976710656/\m.s.ents.length<=281474976710656
theorem E6b(w:World)(cs ds:List Value)(a b:W4a)(ka:a.ok)(kb:b.ok)(ha:G4a w w.heap.size cs a)(hb:G4a w w.heap.size ds b)(la:C2c a)(lb:C2c b) :
  Calls prog 7 #[.agg cs.toArray,.agg ds.toArray] w λe w'=>e=.returned (.bool (decide (a.h=b.h)&&(decide (a.a=b.a)&&decide (a.s=b.s))))/\BW w w':=by
 have HLA:=hI (ha.len ka);have HLB:=hI (hb.len kb);obtain⟨ac,sc,rfl,ha1,ha2⟩:=ha;obtain⟨bc,tc,rfl,hb1,hb2⟩:=hb;have N1:=hI (G0a ka.h);have N2:=hI (G0a kb.h);have N3:=hI (ha1.len ka.a);have N4:=hI (hb1.len kb.a);have N5:=hI (ha2.len ka.s);have N6:=hI (hb2.len kb.s);have q0:∀w:World,(Op.equalIn 10000 28 (.agg (m0a a.h).toArray) (.agg (m0a b.h).toArray)).run prog w=.ok (decide (a.h=b.h)) w:=λw=>F8a a.h b.h ka.h kb.h w
 have qg:=s8b;have CA:Hid (∀w':World,BW w w'->Calls prog 14 #[.agg ac.toArray,.agg bc.toArray] w' λe w2=>e=.returned (.bool (decide (a.a=b.a)))/\BW w' w2):=λw' h=>E3c w' ac bc a.a b.a ka.a kb.a (ha1.over h) (hb1.over h) la.1 lb.1
 have CS:Hid (∀w':World,BW w w'->Calls prog 15 #[.agg sc.toArray,.agg tc.toArray] w' λe w2=>e=.returned (.bool (decide (a.s=b.s)))/\BW w' w2):=λw' h=>F3c w' sc tc a.s b.s ka.s kb.s (ha2.over h) (hb2.over h) la.2 lb.2
 have RA1:Hid (∀(w:World) g T,Blk w g T (m0a a.h++(ac++sc))->w.rangeAt g 0 (m0a a.h)):=λw g T b=>T2b b
 have RA2:Hid (∀(w:World) g T,Blk w g T (m0a a.h++(ac++sc))->w.rangeAt g 26 ac):=λw g T b=>Y8a b N1.o
 have RA3:Hid (∀(w:World) g T,Blk w g T (m0a a.h++(ac++sc))->w.rangeAt g 95 sc):=λw g T b=>Z8a b N1.o N3.o
 have RB1:Hid (∀(w:World) g T,Blk w g T (m0a b.h++(bc++tc))->w.rangeAt g 0 (m0a b.h)):=λw g T b=>T2b b
 have RB2:Hid (∀(w:World) g T,Blk w g T (m0a b.h++(bc++tc))->w.rangeAt g 26 bc):=λw g T b=>Y8a b N2.o
 have RB3:Hid (∀(w:World) g T,Blk w g T (m0a b.h++(bc++tc))->w.rangeAt g 95 tc):=λw g T b=>Z8a b N2.o N4.o
 have F1:∀(g:Nat) (w:World),(Instr.fieldAt 41 (.pointer (some ⟨g,0,none⟩)) 1).run prog w=.ok (.pointer (some ⟨g,26,none⟩)) w:=λg w=>by go_simp
 have F2:∀(g:Nat) (w:World),(Instr.fieldAt 41 (.pointer (some ⟨g,0,none⟩)) 2).run prog w=.ok (.pointer (some ⟨g,95,none⟩)) w:=λg w=>by go_simp
 obtain⟨z1,hz1⟩:=xX (decide (a.h=b.h));obtain⟨z2,hz2⟩:=xX (decide (a.a=b.a));obtain⟨z3,hz3⟩:=xX (decide (a.s=b.s));rw[<-hz1] at q0⊢;rw[<-hz2] at CA⊢;rw[<-hz3] at CS⊢;obtain⟨ca,hca⟩:=xX (m0a a.h++(ac++sc));rw[<-hca] at HLA RA1 RA2 RA3⊢;obtain⟨cb,hcb⟩:=xX (m0a b.h++(bc++tc));rw[<-hcb] at HLB RB1 RB2 RB3⊢;obtain⟨hA,hhA⟩:=xX (m0a a.h);rw[<-hhA] at q0 N1 RA1;obtain⟨hB,hhB⟩:=xX (m0a b.h);rw[<-hhB] at q0 N2 RB1;clear hz1 hz2 hz3 hca hcb hhA hhB ha1 ha2 hb1 hb2 ka kb la lb;cases z1
 ·show Calls _ _ _ _ λe w'=>e=.returned (.bool false)/\_
  go_enter func7,ntmps7;go_wp2_with(first|((with_reducible refine sN 2 ?_);refine d0a rfl _ (.tmp 0) rfl ca rfl ?_;intro g w1 hg1 hg2 B1 L1)|((with_reducible refine sN 3 ?_);refine d0a rfl _ (.tmp 1) rfl cb rfl ?_;intro g2 w2 hg3 hg4 D2 L2;have B2:=hI (B1.o.over L2.o);have M2:=hI (step L1.o L2.o))|((with_reducible refine sN 6 ?_);refine q0a rfl _ (.tmp 5) rfl g 0 rfl hA _ (hI (RA1.o _ _ _ B2.o)) underlying28 rfl 26 K0a N1 ?_)|((with_reducible refine sN 8 ?_);refine q0a rfl _ (.tmp 7) rfl g2 0 rfl hB _ (hI (RB1.o _ _ _ D2.o)) underlying28 rfl 26 K0a N2 ?_)|fail)
  go_ret;exact⟨rfl,M2.o⟩
 ·cases z2
  ·show Calls _ _ _ _ λe w'=>e=.returned (.bool false)/\_
   go_enter func7,ntmps7;go_wp2_with(first|((with_reducible refine sN 2 ?_);refine d0a rfl _ (.tmp 0) rfl ca rfl ?_;intro g w1 hg1 hg2 B1 L1)|((with_reducible refine sN 3 ?_);refine d0a rfl _ (.tmp 1) rfl cb rfl ?_;intro g2 w2 hg3 hg4 D2 L2;have B2:=hI (B1.o.over L2.o);have M2:=hI (step L1.o L2.o))|((with_reducible refine sN 6 ?_);refine q0a rfl _ (.tmp 5) rfl g 0 rfl hA _ (hI (RA1.o _ _ _ B2.o)) underlying28 rfl 26 K0a N1 ?_)|((with_reducible refine sN 8 ?_);refine q0a rfl _ (.tmp 7) rfl g2 0 rfl hB _ (hI (RB1.o _ _ _ D2.o)) underlying28 rfl 26 K0a N2 ?_)|((with_reducible refine sN 11 ?_);refine T0a (by kernel_rfl) _ (.tmp 2) 1 rfl _ _ rfl (F1 g) ?_)|((with_reducible refine sN 12 ?_);refine E0a (by kernel_rfl) _ (.tmp 11) rfl g 26 rfl ac _ (hI (RA2.o _ _ _ B2.o)) underlying34 rfl 69 p0a N3 ?_)|((with_reducible refine sN 13 ?_);refine T0a (by kernel_rfl) _ (.tmp 3) 1 rfl _ _ rfl (F1 g2) ?_)|((with_reducible refine sN 14 ?_);refine E0a (by kernel_rfl) _ (.tmp 13) rfl g2 26 rfl bc _ (hI (RB2.o _ _ _ D2.o)) underlying34 rfl 69 p0a N4 ?_)|fail)
   refine(CA.o w2 M2.o).mono ?_;rintro e w3 ⟨rfl,L3⟩;have B3:=hI (B2.o.over L3);have D3:=hI (D2.o.over L3);have M3:=hI (step M2.o L3);clear L3 CA B2 D2 M2 B1 L1 L2;go_wp2_with fail
   go_ret;exact⟨rfl,M3.o⟩
  ·show Calls _ _ _ _ λe w'=>e=.returned (.bool z3)/\_
   go_enter func7,ntmps7;go_wp2_with(first|((with_reducible refine sN 2 ?_);refine d0a rfl _ (.tmp 0) rfl ca rfl ?_;intro g w1 hg1 hg2 B1 L1)|((with_reducible refine sN 3 ?_);refine d0a rfl _ (.tmp 1) rfl cb rfl ?_;intro g2 w2 hg3 hg4 D2 L2;have B2:=hI (B1.o.over L2.o);have M2:=hI (step L1.o L2.o))|((with_reducible refine sN 6 ?_);refine q0a rfl _ (.tmp 5) rfl g 0 rfl hA _ (hI (RA1.o _ _ _ B2.o)) underlying28 rfl 26 K0a N1 ?_)|((with_reducible refine sN 8 ?_);refine q0a rfl _ (.tmp 7) rfl g2 0 rfl hB _ (hI (RB1.o _ _ _ D2.o)) underlying28 rfl 26 K0a N2 ?_)|((with_reducible refine sN 11 ?_);refine T0a (by kernel_rfl) _ (.tmp 2) 1 rfl _ _ rfl (F1 g) ?_)|((with_reducible refine sN 12 ?_);refine E0a (by kernel_rfl) _ (.tmp 11) rfl g 26 rfl ac _ (hI (RA2.o _ _ _ B2.o)) underlying34 rfl 69 p0a N3 ?_)|((with_reducible refine sN 13 ?_);refine T0a (by kernel_rfl) _ (.tmp 3) 1 rfl _ _ rfl (F1 g2) ?_)|((with_reducible refine sN 14 ?_);refine E0a (by kernel_rfl) _ (.tmp 13) rfl g2 26 rfl bc _ (hI (RB2.o _ _ _ D2.o)) underlying34 rfl 69 p0a N4 ?_)|fail)
   refine(CA.o w2 M2.o).mono ?_;rintro e w3 ⟨rfl,L3⟩;have B3:=hI (B2.o.over L3);have D3:=hI (D2.o.over L3);have M3:=hI (step M2.o L3);clear L3 CA B2 D2 M2 B1 L1 L2;go_wp2_with(first|((with_reducible refine sN 18 ?_);refine T0a (by kernel_rfl) _ (.tmp 2) 2 rfl _ _ rfl (F2 g) ?_)|((with_reducible refine sN 19 ?_);refine E0a (by kernel_rfl) _ (.tmp 18) rfl g 95 rfl sc _ (hI (RA3.o _ _ _ B3.o)) underlying39 rfl 20 t0a N5 ?_)|((with_reducible refine sN 20 ?_);refine T0a (by kernel_rfl) _ (.tmp 3) 2 rfl _ _ rfl (F2 g2) ?_)|((with_reducible refine sN 21 ?_);refine E0a (by kernel_rfl) _ (.tmp 20) rfl g2 95 rfl tc _ (hI (RB3.o _ _ _ D3.o)) underlying39 rfl 20 t0a N6 ?_)|fail)
   refine(CS.o w3 M3.o).mono ?_;rintro e w4 ⟨rfl,L4⟩;go_wp2_with fail;go_ret;exact⟨rfl,step M3.o L4⟩
end Go.Proofs.YtjpcifmeimcikaaGreatDoor
