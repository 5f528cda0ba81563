import Derived.Lib.LaidU8T
import Derived.Deep.DeepHandedRow
import Derived.Test.YtgfflnjggnadpaaGreatDoorZAG
import Derived.Test.YtgfflnjggnadpaaGreatDoorZAI
import Derived.Test.YtgfflnjggnadpaaGreatDoorS0
set_option linter.all false
set_option maxHeartbeats 8000000
set_option maxRecDepth 100000
namespace Go.Proofs.YtgfflnjggnadpaaGreatDoor
open Go.RowKit
set_option maxRecDepth 100000
theorem C6a(c:Int)(a:E1a):r1a c a=w0a↔N2a c a=a:=by
 obtain⟨a1,a2,a3,a4,a5,a6,a7,a8,a9,a10,a11,a12,a13⟩:=a;unfold r1a N2a;by_cases h0:c=0
 ·rw[if_pos h0,if_pos h0];simp only[w0a,E1a.mk.injEq];constructor<;>(intro h;obtain⟨h1,h2,h3,h4,h5,h6,h7,h8,h9,h10,h11,h12,h13⟩:=h;subst_vars;simp)
 ·rw[if_neg h0,if_neg h0];exact eq_comm
theorem p2b{c:Int}{a:E1a}:D3a c a=z1a c a:=by
 unfold D3a z1a;by_cases h:M0a c=true/\N2a c a=a
 ·obtain⟨h1,h2⟩:=h;have h3:=(C6a c a).2 h2;by_cases h0:c=0
  ·by_cases hs:a.siz<4294967296
   ·rw[if_pos ⟨h1,h2,hs⟩,if_pos ⟨h1,h3,λ_=>hs⟩]
   ·rw[if_neg (λh=>hs h.2.2),if_neg (λh=>hs (h.2.2 h0))]
  ·have hs:a.siz<4294967296:=by unfold N2a at h2;rw[if_neg h0] at h2;rw[<-h2];decide
   rw[if_pos ⟨h1,h2,hs⟩,if_pos ⟨h1,h3,λh=>absurd h h0⟩]
 ·rw[if_neg (λq=>h ⟨q.1,q.2.1⟩),if_neg (λq=>h ⟨q.1,(C6a c a).1 q.2.1⟩)]
theorem n7b{c:Int}{a:E1a}:F0b c a=O3a c a:=by unfold F0b O3a;rw[p2b];rfl
theorem a5a{P:Program}{ops:Array Oper}{rest:List Oper}{o:Oper}{a:Act}{w:World}{Q:Exit->Act->World->Prop}(hw:Region.wanted o (yielded ops a.tmps)=true)(T:TypeId)(parts:Array (Nat×Operand))(ho:o.op=.build T parts)(cs:List Value)
(hf:P.built T (parts.map fun (i,x)=>(i,a.eval x)).toList=some cs.toArray)(h:wpList P ops Q rest (a.put o.dst (.agg cs.toArray)) w):wpList P ops Q (o::rest) a w:=
 wpList_step λK hK=>by rw[if_pos hw];unfold Oper.wp execOp;simp only[ho,Sem.run_bind,run_build w T _ _ hf,Result.andThen_ok];exact hK _ _ h
def k0b(m:A5a):Int:=if T2a m.h.fl=true then (if m.h.st=0 then pse m.h.cm m.s else 0) else pae m.h.cm m.a
def m6b(m:A5a):List Int:=if T2a m.h.fl=true then (if m.h.st=0 then pso m.h.cm m.s else List.replicate 4 0) else pao m.h.cm m.a
def y4b(m:A5a):Bool:=if T2a m.h.fl=true then (!decide (m.a=k0a)||(!decide (m.h.st=0) && !decide (m.s=w0a))) else !decide (m.s=w0a)
theorem Y8b(m:A5a):u6a m=(if y4b m=true then 2 else k0b m)/\(u6a m=0->L9a m=m6b m):=by
 have a13:=@y8b m.a;have s13:=@z8b m.s;have e13:∀s:E1a,z1a 13 s=0∨z1a 13 s=2:=λs=>by unfold z1a;split;exact .inl rfl;exact .inr rfl
 have o13:z1a 13 m.s=0->O3a 13 m.s=List.replicate 4 0:=λh=>by unfold O3a;rw[if_pos h,if_neg (by decide)]
 have k13:pse 13 m.s=z1a 13 m.s/\pso 13 m.s=O3a 13 m.s:=⟨rfl,rfl⟩;unfold L9a;unfold u6a k0b m6b y4b t6a;cases hr:T2a m.h.fl
 ·simp only[Bool.false_eq_true,if_false,false_and];by_cases hs:m.s=w0a
  ·rw[if_pos (s13.2 hs),decide_eq_true hs];refine⟨rfl,λh=>?_⟩;rw[if_pos h]
  ·rw[if_neg (λh=>hs (s13.1 h)),decide_eq_false hs];exact⟨rfl,λh=>absurd h (by decide)⟩
 ·simp only[if_true,true_and];by_cases ha:m.a=k0a
  ·rw[if_pos (a13.2 ha),decide_eq_true ha];by_cases ht:m.h.st=0
   ·rw[if_neg (λh=>h ht),if_pos ht,if_pos ht,decide_eq_true ht];refine⟨rfl,λh=>?_⟩;rw[if_pos h]
   ·rw[if_pos ht,if_neg ht,if_neg ht,decide_eq_false ht,k13.1,k13.2];by_cases hs:m.s=w0a
    ·have h0:=s13.2 hs;rw[decide_eq_true hs,h0];exact⟨rfl,λ_=>by rw[if_pos rfl];exact o13 h0⟩
    ·rw[decide_eq_false hs];have h0:¬z1a 13 m.s=0:=λh=>hs (s13.1 h)
     have h2:z1a 13 m.s=2:=(e13 m.s).resolve_left h0;rw[h2];exact⟨rfl,λh=>absurd h (by decide)⟩
  ·rw[if_neg (λh=>ha (a13.1 h)),decide_eq_false ha];exact⟨rfl,λh=>absurd h (by decide)⟩
theorem e6b(g:Nat)(w:World):(Instr.fieldAt 41 (.pointer (some ⟨g,0,none⟩)) 0).run Tryz.prog w=.ok (.pointer (some ⟨g,0,none⟩)) w:=by go_simp
theorem j8b(g:Nat)(w:World):(Instr.fieldAt 41 (.pointer (some ⟨g,0,none⟩)) 1).run Tryz.prog w=.ok (.pointer (some ⟨g,26,none⟩)) w:=by go_simp
theorem k8b(g:Nat)(w:World):(Instr.fieldAt 41 (.pointer (some ⟨g,0,none⟩)) 2).run Tryz.prog w=.ok (.pointer (some ⟨g,95,none⟩)) w:=by go_simp
theorem G3b(g i:Nat)(hi:i=1∨i=2∨i=5)(w:World):(Instr.fieldAt 28 (.pointer (some ⟨g,0,none⟩)) i).run Tryz.prog w=.ok (.pointer (some ⟨g,i,none⟩)) w:=by rcases hi with rfl | rfl | rfl<;>go_simp
structure m9b (m:A5a):Prop where
 al:m.a.dial.length<=281474976710656/\m.a.data.length<=281474976710656/\m.a.locks.length<=281474976710656
 at1:m.a.user.size<=4398046511104/\m.a.share.size<=4398046511104
 at2:m.a.name.size<=4398046511104/\m.a.pat.size<=4398046511104/\m.a.aft.size<=4398046511104
 sl:m.s.data.length<=281474976710656/\m.s.ents.length<=281474976710656
 st:∀e∈m.s.ents,e.name.size<=4398046511104
def q2b(w:World)(m:A5a)(e:Ending)(w':World):Prop:=∃v,e=.returned (.tuple #[v,.int .i64 (k0b m)])/\Own w' w.heap.size v (m6b m)/\Below w.heap.size w w'
theorem f6b(w:World)(m:A5a)(cs:List Value)(k:m.ok)(h:V3a w w.heap.size cs m)(hr:m9b m) :
  Calls Tryz.prog 28 #[.agg cs.toArray] w (q2b w m):=by
 have HLL:=hI (h.len k);have H26:=hI (I0a k.h);obtain⟨ac,sc,rfl,ha,hs⟩:=h;have H69:=hI (ha.len k.a);have H20:=hI (hs.len k.s);have hcm:=k.h.cm;have CR:Hid (∀w':World,Calls Tryz.prog 25 #[hv m.h] w' λe w2=>e=.returned (.bool (T2a m.h.fl))/\Below w'.heap.size w' w2):=λw'=>K8a w' m.h k.h
 have CT:Hid (∀w':World,Calls Tryz.prog 50 #[.int .u16 m.h.cm] w' λe w2=>e=.returned (.bool (M0a m.h.cm))/\w'=w2):=λw'=>l7a w' m.h.cm
 have CF:Hid (∀w':World,Calls Tryz.prog 52 #[.int .u16 m.h.cm] w' λe w2=>e=.returned (.bool (G1a m.h.cm))/\w'=w2):=λw'=>v7a w' m.h.cm hcm
 have PST:Hid (∀w':World,Below w.heap.size w w'->M0a m.h.cm=true->Calls Tryz.prog 51 #[.int .u16 m.h.cm,.agg sc.toArray] w' λe w2=>∃v,e=.returned (.tuple #[v,.int .i64 (pse m.h.cm m.s)])/\Own w2 w'.heap.size v (pso m.h.cm m.s)/\Below w'.heap.size w' w2):=λw' hb hk=>by have h1:=h3b w' sc m.h.cm m.s hcm k.s (hs.over hb) hr.sl;unfold e3a at h1;rw[p2b,n7b] at h1;unfold pse pso;rw[if_pos hk,if_pos hk];exact h1
 have PSF:Hid (∀w':World,Below w.heap.size w w'->¬M0a m.h.cm=true->G1a m.h.cm=true->Calls Tryz.prog 53 #[.int .u16 m.h.cm,.agg sc.toArray] w' λe w2=>∃v,e=.returned (.tuple #[v,.int .i64 (pse m.h.cm m.s)])/\Own w2 w'.heap.size v (pso m.h.cm m.s)/\Below w'.heap.size w' w2):=λw' hb hk hf=>by
  have h1:=m2b w' m.h.cm sc m.s hcm k.s (hs.over hb) hr.sl;have h10:m.h.cm<=10:=by unfold G1a at hf;simp at hf;omega
  unfold pse pso;rw[if_neg hk,if_neg hk,if_pos h10,if_pos h10];exact h1
 have PSI:Hid (∀w':World,Below w.heap.size w w'->¬M0a m.h.cm=true->¬G1a m.h.cm=true->Calls Tryz.prog 54 #[.int .u16 m.h.cm,.agg sc.toArray] w' λe w2=>∃v,e=.returned (.tuple #[v,.int .i64 (pse m.h.cm m.s)])/\Own w2 w'.heap.size v (pso m.h.cm m.s)/\Below w'.heap.size w' w2):=λw' hb hk hf=>by
  have h1:=o2b w' m.h.cm sc m.s hcm k.s (hs.over hb) hr.sl hr.st;have h10:¬m.h.cm<=10:=λh=>by unfold M0a at hk;unfold G1a at hf;simp at hk hf;omega
  unfold pse pso;rw[if_neg hk,if_neg hk,if_neg h10,if_neg h10];exact h1
 have PAT:Hid (∀w':World,Below w.heap.size w w'->M0a m.h.cm=true->Calls Tryz.prog 55 #[.int .u16 m.h.cm,.agg ac.toArray] w' λe w2=>∃v,e=.returned (.tuple #[v,.int .i64 (pae m.h.cm m.a)])/\Own w2 w'.heap.size v (pao m.h.cm m.a)/\Below w'.heap.size w' w2):=λw' hb hk=>by have h1:=i3b w' m.h.cm ac m.a hcm k.a (ha.over hb) hr.al hr.at1;unfold pae pao;rw[if_pos hk,if_pos hk];exact h1
 have PAF:Hid (∀w':World,Below w.heap.size w w'->¬M0a m.h.cm=true->G1a m.h.cm=true->Calls Tryz.prog 56 #[.int .u16 m.h.cm,.agg ac.toArray] w' λe w2=>∃v,e=.returned (.tuple #[v,.int .i64 (pae m.h.cm m.a)])/\Own w2 w'.heap.size v (pao m.h.cm m.a)/\Below w'.heap.size w' w2):=λw' hb hk hf=>by
  have h1:=l2b w' m.h.cm ac m.a hcm k.a (ha.over hb) hr.al hr.at2.1;have h10:m.h.cm<=10:=by unfold G1a at hf;simp at hf;omega
  unfold pae pao;rw[if_neg hk,if_neg hk,if_pos h10,if_pos h10];exact h1
 have PAI:Hid (∀w':World,Below w.heap.size w w'->¬M0a m.h.cm=true->¬G1a m.h.cm=true->Calls Tryz.prog 57 #[.int .u16 m.h.cm,.agg ac.toArray] w' λe w2=>∃v,e=.returned (.tuple #[v,.int .i64 (pae m.h.cm m.a)])/\Own w2 w'.heap.size v (pao m.h.cm m.a)/\Below w'.heap.size w' w2):=λw' hb hk hf=>by
  have h1:=n2b w' m.h.cm ac m.a hcm k.a (ha.over hb) hr.al hr.at2;have h10:¬m.h.cm<=10:=λh=>by unfold M0a at hk;unfold G1a at hf;simp at hk hf;omega
  unfold pae pao;rw[if_neg hk,if_neg hk,if_neg h10,if_neg h10];exact h1
 have RH:Hid (∀(w:World) g T,Blk w g T (q0a m.h++(ac++sc))->w.rangeAt g 0 (q0a m.h)):=λw g T b=>x6a b
 have RA:Hid (∀(w:World) g T,Blk w g T (q0a m.h++(ac++sc))->w.rangeAt g 26 ac):=λw g T b=>p5a b H26.out
 have RS:Hid (∀(w:World) g T,Blk w g T (q0a m.h++(ac++sc))->w.rangeAt g 95 sc):=λw g T b=>q5a b H26.out H69.out
 have RC:Hid (∀(w:World) g T,Blk w g T (q0a m.h++(ac++sc))->w.cell? ⟨g,1,none⟩=some (.int .u32 m.h.st)/\w.cell? ⟨g,2,none⟩=some (.int .u16 m.h.cm)):=λw g T b=>⟨Blk.cell b 1,Blk.cell b 2⟩
 have F0:=e6b;have F1:=λg=>G3b g 1 (.inl rfl)
 have F2:=λg=>G3b g 2 (.inr (.inl rfl))
 have HP:Hid (∀v er ys e w',k0b m=er->m6b m=ys->e=.returned (.tuple #[v,.int .i64 er])->Own w' w.heap.size v ys->Below w.heap.size w w'->q2b w m e w'):=λv er ys e w' h1 h2 h3 h4 h5=>⟨v,by rw[h1];exact h3,by rw[h2];exact h4,h5⟩
 obtain⟨MC,hMC⟩:∃x,x=q0a m.h++(ac++sc):=⟨_,rfl⟩;rw[<-hMC] at HLL RH RA RS RC⊢;obtain⟨hc,hhc⟩:∃x,x=q0a m.h:=⟨_,rfl⟩;unfold hv at CR;rw[<-hhc] at H26 RH CR;unfold k0b m6b at HP;clear hMC hhc ha hs hr;obtain⟨c,hcc⟩:∃x,x=m.h.cm:=⟨_,rfl⟩;rw[<-hcc] at hcm CT CF PST PSF PSI PAT PAF PAI RC HP;obtain⟨st,hst⟩:∃x,x=m.h.st:=⟨_,rfl⟩;obtain⟨s0,s1⟩:=k.h.st;rw[<-hst] at RC HP s0 s1;obtain⟨rep,hrep⟩:∃x,x=T2a m.h.fl:=⟨_,rfl⟩;rw[<-hrep] at CR HP;obtain⟨E1,hE1⟩:∃x,x=pse c m.s:=⟨_,rfl⟩;obtain⟨Y1,hY1⟩:∃x,x=pso c m.s:=⟨_,rfl⟩;obtain⟨E2,hE2⟩:∃x,x=pae c m.a:=⟨_,rfl⟩;obtain⟨Y2,hY2⟩:∃x,x=pao c m.a:=⟨_,rfl⟩;rw[<-hE1,<-hY1] at PST PSF PSI;rw[<-hE2,<-hY2] at PAT PAF PAI;rw[<-hE1,<-hY1,<-hE2,<-hY2] at HP;clear hE1 hY1 hE2 hY2 hrep hst hcc k;cases rep
 ·have HQ:Hid (∀v e w',e=.returned (.tuple #[v,.int .i64 E2])->Own w' w.heap.size v Y2->Below w.heap.size w w'->q2b w m e w'):=λv e w' h1 h2 h3=>HP.out v E2 Y2 e w' rfl rfl h1 h2 h3
  clear HP;by_cases hkt:M0a c=true
  ·have PC:=hI (λw' hb=>PAT.out w' hb hkt);clear PST PSF PSI PAT PAF PAI;rw[hkt] at CT;go_enter Tryz.func28,Tryz.ntmps28;go_wp2_with(first
    | ((with_reducible refine sN 1 ?_);refine a0a rfl _ (.tmp 0) rfl MC rfl ?_;intro g w1 hg1 hg2 K1 L1;obtain⟨f1,f2⟩:=RC.out _ _ _ K1.out)
    | ((with_reducible refine sN 9 ?_);refine p0a rfl _ (.tmp 8) rfl g 0 rfl hc _ (hI (RH.out _ _ _ K1.out)) Tryz.underlying28 rfl 26 E0a H26 ?_)
    | fail)
   refine(CR.out w1).mono ?_;rintro e w2 ⟨rfl,L2⟩;have K2:=hI (K1.out.over L2);have M2:=hI (step L1.out L2);obtain⟨f3,f4⟩:=RC.out _ _ _ K2.out;clear L2 f1 f2;go_wp2_with fail;refine(CT.out w2).mono ?_;rintro e wq ⟨rfl,rfl⟩;go_wp2_with(first
    | ((with_reducible refine sN 45 ?_);refine p0a rfl _ (.tmp 44) rfl g 26 rfl ac _ (hI (RA.out _ _ _ K2.out)) Tryz.underlying34 rfl 69 n0a H69 ?_)
    | fail)
   refine(PC.out w2 M2.out).mono ?_;rintro e w4 ⟨v,rfl,o4,L4⟩;have O4:=hI o4;have M4:=hI (step M2.out L4);have hsz:=M2.out.size;clear L4 o4;go_wp2;go_ret2;exact HQ.out _ _ _ rfl (O4.out.mono hsz) M4.out
  have hkt:M0a c=false:=by simpa using hkt
  by_cases hkf:G1a c=true
  ·have PC:=hI (λw' hb=>PAF.out w' hb (by rw[hkt];decide) hkf);clear PST PSF PSI PAT PAF PAI;rw[hkt] at CT;rw[hkf] at CF;go_enter Tryz.func28,Tryz.ntmps28;go_wp2_with(first
    | ((with_reducible refine sN 1 ?_);refine a0a rfl _ (.tmp 0) rfl MC rfl ?_;intro g w1 hg1 hg2 K1 L1;obtain⟨f1,f2⟩:=RC.out _ _ _ K1.out)
    | ((with_reducible refine sN 9 ?_);refine p0a rfl _ (.tmp 8) rfl g 0 rfl hc _ (hI (RH.out _ _ _ K1.out)) Tryz.underlying28 rfl 26 E0a H26 ?_)
    | fail)
   refine(CR.out w1).mono ?_;rintro e w2 ⟨rfl,L2⟩;have K2:=hI (K1.out.over L2);have M2:=hI (step L1.out L2);obtain⟨f3,f4⟩:=RC.out _ _ _ K2.out;clear L2 f1 f2;go_wp2_with fail;refine(CT.out w2).mono ?_;rintro e wq ⟨rfl,rfl⟩;go_wp2_with fail;refine(CF.out w2).mono ?_;rintro e wq ⟨rfl,rfl⟩;go_wp2_with(first
    | ((with_reducible refine sN 54 ?_);refine p0a rfl _ (.tmp 53) rfl g 26 rfl ac _ (hI (RA.out _ _ _ K2.out)) Tryz.underlying34 rfl 69 n0a H69 ?_)
    | fail)
   refine(PC.out w2 M2.out).mono ?_;rintro e w4 ⟨v,rfl,o4,L4⟩;have O4:=hI o4;have M4:=hI (step M2.out L4);have hsz:=M2.out.size;clear L4 o4;go_wp2;go_ret2;exact HQ.out _ _ _ rfl (O4.out.mono hsz) M4.out
  have hkf:G1a c=false:=by simpa using hkf
  have PC:=hI (λw' hb=>PAI.out w' hb (by rw[hkt];decide) (by rw[hkf];decide));clear PST PSF PSI PAT PAF PAI;rw[hkt] at CT;rw[hkf] at CF;go_enter Tryz.func28,Tryz.ntmps28;go_wp2_with(first
   | ((with_reducible refine sN 1 ?_);refine a0a rfl _ (.tmp 0) rfl MC rfl ?_;intro g w1 hg1 hg2 K1 L1;obtain⟨f1,f2⟩:=RC.out _ _ _ K1.out)
   | ((with_reducible refine sN 9 ?_);refine p0a rfl _ (.tmp 8) rfl g 0 rfl hc _ (hI (RH.out _ _ _ K1.out)) Tryz.underlying28 rfl 26 E0a H26 ?_)
   | fail)
  refine(CR.out w1).mono ?_;rintro e w2 ⟨rfl,L2⟩;have K2:=hI (K1.out.over L2);have M2:=hI (step L1.out L2);obtain⟨f3,f4⟩:=RC.out _ _ _ K2.out;clear L2 f1 f2;go_wp2_with fail;refine(CT.out w2).mono ?_;rintro e wq ⟨rfl,rfl⟩;go_wp2_with fail;refine(CF.out w2).mono ?_;rintro e wq ⟨rfl,rfl⟩;go_wp2_with(first
   | ((with_reducible refine sN 60 ?_);refine p0a rfl _ (.tmp 59) rfl g 26 rfl ac _ (hI (RA.out _ _ _ K2.out)) Tryz.underlying34 rfl 69 n0a H69 ?_)
   | fail)
  refine(PC.out w2 M2.out).mono ?_;rintro e w4 ⟨v,rfl,o4,L4⟩;have O4:=hI o4;have M4:=hI (step M2.out L4);have hsz:=M2.out.size;clear L4 o4;go_wp2;go_ret2;exact HQ.out _ _ _ rfl (O4.out.mono hsz) M4.out
 ·by_cases ht:st=0
  ·subst ht;have HQ:Hid (∀v e w',e=.returned (.tuple #[v,.int .i64 E1])->Own w' w.heap.size v Y1->Below w.heap.size w w'->q2b w m e w'):=λv e w' h1 h2 h3=>HP.out v E1 Y1 e w' rfl rfl h1 h2 h3
   clear HP;by_cases hkt:M0a c=true
   ·have PC:=hI (λw' hb=>PST.out w' hb hkt);clear PST PSF PSI PAT PAF PAI;rw[hkt] at CT;go_enter Tryz.func28,Tryz.ntmps28;go_wp2_with(first
     | ((with_reducible refine sN 1 ?_);refine a0a rfl _ (.tmp 0) rfl MC rfl ?_;intro g w1 hg1 hg2 K1 L1;obtain⟨f1,f2⟩:=RC.out _ _ _ K1.out)
     | ((with_reducible refine sN 9 ?_);refine p0a rfl _ (.tmp 8) rfl g 0 rfl hc _ (hI (RH.out _ _ _ K1.out)) Tryz.underlying28 rfl 26 E0a H26 ?_)
     | fail)
    refine(CR.out w1).mono ?_;rintro e w2 ⟨rfl,L2⟩;have K2:=hI (K1.out.over L2);have M2:=hI (step L1.out L2);obtain⟨f3,f4⟩:=RC.out _ _ _ K2.out;clear L2 f1 f2;go_wp2_with fail;refine(CT.out w2).mono ?_;rintro e wq ⟨rfl,rfl⟩;go_wp2_with(first
     | ((with_reducible refine sN 21 ?_);refine p0a rfl _ (.tmp 20) rfl g 95 rfl sc _ (hI (RS.out _ _ _ K2.out)) Tryz.underlying39 rfl 20 v0a H20 ?_)
     | fail)
    refine(PC.out w2 M2.out).mono ?_;rintro e w4 ⟨v,rfl,o4,L4⟩;have O4:=hI o4;have M4:=hI (step M2.out L4);have hsz:=M2.out.size;clear L4 o4;go_wp2;go_ret2;exact HQ.out _ _ _ rfl (O4.out.mono hsz) M4.out
   have hkt:M0a c=false:=by simpa using hkt
   by_cases hkf:G1a c=true
   ·have PC:=hI (λw' hb=>PSF.out w' hb (by rw[hkt];decide) hkf);clear PST PSF PSI PAT PAF PAI;rw[hkt] at CT;rw[hkf] at CF;go_enter Tryz.func28,Tryz.ntmps28;go_wp2_with(first
     | ((with_reducible refine sN 1 ?_);refine a0a rfl _ (.tmp 0) rfl MC rfl ?_;intro g w1 hg1 hg2 K1 L1;obtain⟨f1,f2⟩:=RC.out _ _ _ K1.out)
     | ((with_reducible refine sN 9 ?_);refine p0a rfl _ (.tmp 8) rfl g 0 rfl hc _ (hI (RH.out _ _ _ K1.out)) Tryz.underlying28 rfl 26 E0a H26 ?_)
     | fail)
    refine(CR.out w1).mono ?_;rintro e w2 ⟨rfl,L2⟩;have K2:=hI (K1.out.over L2);have M2:=hI (step L1.out L2);obtain⟨f3,f4⟩:=RC.out _ _ _ K2.out;clear L2 f1 f2;go_wp2_with fail;refine(CT.out w2).mono ?_;rintro e wq ⟨rfl,rfl⟩;go_wp2_with fail;refine(CF.out w2).mono ?_;rintro e wq ⟨rfl,rfl⟩;go_wp2_with(first
     | ((with_reducible refine sN 30 ?_);refine p0a rfl _ (.tmp 29) rfl g 95 rfl sc _ (hI (RS.out _ _ _ K2.out)) Tryz.underlying39 rfl 20 v0a H20 ?_)
     | fail)
    refine(PC.out w2 M2.out).mono ?_;rintro e w4 ⟨v,rfl,o4,L4⟩;have O4:=hI o4;have M4:=hI (step M2.out L4);have hsz:=M2.out.size;clear L4 o4;go_wp2;go_ret2;exact HQ.out _ _ _ rfl (O4.out.mono hsz) M4.out
   have hkf:G1a c=false:=by simpa using hkf
   have PC:=hI (λw' hb=>PSI.out w' hb (by rw[hkt];decide) (by rw[hkf];decide));clear PST PSF PSI PAT PAF PAI;rw[hkt] at CT;rw[hkf] at CF;go_enter Tryz.func28,Tryz.ntmps28;go_wp2_with(first
    | ((with_reducible refine sN 1 ?_);refine a0a rfl _ (.tmp 0) rfl MC rfl ?_;intro g w1 hg1 hg2 K1 L1;obtain⟨f1,f2⟩:=RC.out _ _ _ K1.out)
    | ((with_reducible refine sN 9 ?_);refine p0a rfl _ (.tmp 8) rfl g 0 rfl hc _ (hI (RH.out _ _ _ K1.out)) Tryz.underlying28 rfl 26 E0a H26 ?_)
    | fail)
   refine(CR.out w1).mono ?_;rintro e w2 ⟨rfl,L2⟩;have K2:=hI (K1.out.over L2);have M2:=hI (step L1.out L2);obtain⟨f3,f4⟩:=RC.out _ _ _ K2.out;clear L2 f1 f2;go_wp2_with fail;refine(CT.out w2).mono ?_;rintro e wq ⟨rfl,rfl⟩;go_wp2_with fail;refine(CF.out w2).mono ?_;rintro e wq ⟨rfl,rfl⟩;go_wp2_with(first
    | ((with_reducible refine sN 36 ?_);refine p0a rfl _ (.tmp 35) rfl g 95 rfl sc _ (hI (RS.out _ _ _ K2.out)) Tryz.underlying39 rfl 20 v0a H20 ?_)
    | fail)
   refine(PC.out w2 M2.out).mono ?_;rintro e w4 ⟨v,rfl,o4,L4⟩;have O4:=hI o4;have M4:=hI (step M2.out L4);have hsz:=M2.out.size;clear L4 o4;go_wp2;go_ret2;exact HQ.out _ _ _ rfl (O4.out.mono hsz) M4.out
  ·have HQ:Hid (∀v e w',e=.returned (.tuple #[v,.int .i64 0])->Own w' w.heap.size v (List.replicate 4 0)->Below w.heap.size w w'->q2b w m e w'):=λv e w' h1 h2 h3=>HP.out v 0 (List.replicate 4 0) e w' (by rw[if_pos rfl,if_neg ht]) (by rw[if_pos rfl,if_neg ht]) h1 h2 h3
   have hst:(st != 0)=true:=by simpa using ht
   clear HP ht PST PSF PSI PAT PAF PAI CT CF;go_enter Tryz.func28,Tryz.ntmps28;go_wp2_with(first
    | ((with_reducible refine sN 1 ?_);refine a0a rfl _ (.tmp 0) rfl MC rfl ?_;intro g w1 hg1 hg2 K1 L1;obtain⟨f1,f2⟩:=RC.out _ _ _ K1.out)
    | ((with_reducible refine sN 9 ?_);refine p0a rfl _ (.tmp 8) rfl g 0 rfl hc _ (hI (RH.out _ _ _ K1.out)) Tryz.underlying28 rfl 26 E0a H26 ?_)
    | fail)
   refine(CR.out w1).mono ?_;rintro e w2 ⟨rfl,L2⟩;have K2:=hI (K1.out.over L2);have M2:=hI (step L1.out L2);obtain⟨f3,f4⟩:=RC.out _ _ _ K2.out;clear L2 f1 f2;have hb4:Below w2.heap.size w2 (w2.alloc (.cells #[.int .u8 0,.int .u8 0,.int .u8 0,.int .u8 0] 5)):=(Below.refl _ _).alloc (Nat.le_refl _) _;have M4:=hI (step M2.out hb4);have hsz:=M2.out.size;have O4:Hid (Own (w2.alloc (.cells #[.int .u8 0,.int .u8 0,.int .u8 0,.int .u8 0] 5)) w.heap.size (.slice (some ⟨w2.heap.size,0,none⟩) 4 4) (List.replicate 4 0)):=f5b (heap_alloc_new w2 _) hsz (by decide);clear hb4;go_wp2;go_ret2;exact HQ.out _ _ _ rfl O4.out M4.out
def D6a(w:World)(m:A5a)(e:Ending)(w':World):Prop:=∃v,e=.returned (.tuple #[v,.int .i64 (Z5a m)])/\Own w' w.heap.size v (i1b m)/\Below w.heap.size w w'
theorem g6b(w:World)(m:A5a)(cs:List Value)(k:m.ok)(h:V3a w w.heap.size cs m)(hr:m9b m) :
  Calls Tryz.prog 9 #[.agg cs.toArray] w (D6a w m):=by
 have HLL:=hI (h.len k);have HMM:=hI h;have H26:=hI (I0a k.h);have CB:Hid (∀w':World,Below w.heap.size w w'->Calls Tryz.prog 28 #[.agg cs.toArray] w' λe w2=>∃v,e=.returned (.tuple #[v,.int .i64 (k0b m)])/\Own w2 w'.heap.size v (m6b m)/\Below w'.heap.size w' w2):=λw' hb=>f6b w' m cs k (HMM.out.over hb) hr
 obtain⟨ac,sc,rfl,ha,hs⟩:=h;have H69:=hI (ha.len k.a);have H20:=hI (hs.len k.s);have CR:Hid (∀w':World,Calls Tryz.prog 25 #[hv m.h] w' λe w2=>e=.returned (.bool (T2a m.h.fl))/\Below w'.heap.size w' w2):=λw'=>K8a w' m.h k.h
 have zal:(k0a.dial.length<=281474976710656/\k0a.data.length<=281474976710656/\k0a.locks.length<=281474976710656):=by decide
 have CA:Hid (∀w':World,Below w.heap.size w w'->Calls Tryz.prog 26 #[.agg ac.toArray,.agg (l0a (.slice none 0 0) (.slice none 0 0) (.slice none 0 0) k0a).toArray] w' λe w2=>e=.returned (.bool (decide (m.a=k0a)))/\Below w'.heap.size w' w2):=λw' hb=>m5a w' ac _ m.a k0a k.a f0a (ha.over hb) (j2a _ _) hr.al zal
 have CS:Hid (∀w':World,Below w.heap.size w w'->Calls Tryz.prog 27 #[.agg sc.toArray,.agg (s0a (.slice none 0 0) (.slice none 0 0) w0a).toArray] w' λe w2=>e=.returned (.bool (decide (m.s=w0a)))/\Below w'.heap.size w' w2):=λw' hb=>P6a w' sc _ m.s w0a k.s C0a (hs.over hb) (R2a _ _) hr.sl (by decide)
 have BA:=q9a;have BS:=G1b;have RH:Hid (∀(w:World) g T,Blk w g T (q0a m.h++(ac++sc))->w.rangeAt g 0 (q0a m.h)):=λw g T b=>x6a b
 have RA:Hid (∀(w:World) g T,Blk w g T (q0a m.h++(ac++sc))->w.rangeAt g 26 ac):=λw g T b=>p5a b H26.out
 have RS:Hid (∀(w:World) g T,Blk w g T (q0a m.h++(ac++sc))->w.rangeAt g 95 sc):=λw g T b=>q5a b H26.out H69.out
 have RC:Hid (∀(w:World) g T,Blk w g T (q0a m.h++(ac++sc))->w.cell? ⟨g,1,none⟩=some (.int .u32 m.h.st)):=λw g T b=>Blk.cell b 1
 have RN:Hid (∀(w:World) g T,Blk w g T (q0a m.h++(ac++sc))->w.cell? ⟨g,5,none⟩=some (.int .u32 m.h.nx)):=λw g T b=>Blk.cell b 5
 have F0:=e6b;have F1:=j8b;have F2:=k8b;have FH1:=λg=>G3b g 1 (.inl rfl)
 have FH5:=λg=>G3b g 5 (.inr (.inr rfl))
 have HE:Hid (∀er,Z5a m=er->er≠0->∀e w',e=.returned (.tuple #[.slice none 0 0,.int .i64 er])->Below w.heap.size w w'->D6a w m e w'):=by intro er h1 h2 e w' h3 h4;unfold D6a i1b;rw[h1,if_neg h2];exact⟨_,h3,Own.nil _ _,h4⟩
 have HQ:Hid (Z5a m=0->∀v e w',e=.returned (.tuple #[v,.int .i64 0])->Own w' w.heap.size v (M8a m.h++v6a m.h (L9a m))->Below w.heap.size w w'->D6a w m e w'):=by intro h1 v e w' h3 h4 h5;unfold D6a i1b;rw[h1,if_pos rfl];exact⟨v,h3,h4,h5⟩
 obtain⟨n0,n1⟩:=k.h.nx;obtain⟨s0,s1⟩:=k.h.st;by_cases hm:c8a m.h=true;rotate_left
 ·have HE2:=hI (HE.out 2 (by unfold Z5a;rw[if_neg hm]) (by decide));have CH:Hid (∀w':World,Calls Tryz.prog 24 #[hv m.h] w' λe w2=>∃v,e=.returned (.tuple #[v,.int .i64 2])/\Below w'.heap.size w' w2):=λw'=>by
   have h1:=k2b w' m.h k.h;have h2:m3a m.h=2:=by unfold m3a;rw[if_neg hm]
   rw[h2] at h1;exact h1.mono λe w2 ⟨v,q1,q2,q3⟩=>⟨v,q1,q3⟩
  obtain⟨MC,hMC⟩:∃x,x=q0a m.h++(ac++sc):=⟨_,rfl⟩;rw[<-hMC] at HLL RH RA RS RC RN CB⊢;obtain⟨hc,hhc⟩:∃x,x=q0a m.h:=⟨_,rfl⟩;unfold hv at CH;rw[<-hhc] at H26 RH CH;clear HE HQ hMC hhc ha hs hr hm k CB CA CS CR BA BS RC RN RA RS HMM zal;go_enter Tryz.func9,Tryz.ntmps9;go_wp2_with(first
   | ((with_reducible refine sN 1 ?_);refine a0a rfl _ (.tmp 0) rfl MC rfl ?_;intro g w1 hg1 hg2 K1 L1)
   | ((with_reducible refine sN 10 ?_);refine p0a rfl _ (.tmp 9) rfl g 0 rfl hc _ (hI (RH.out _ _ _ K1.out)) Tryz.underlying28 rfl 26 E0a H26 ?_)
   | fail)
  refine(CH.out w1).mono ?_;rintro e w2 ⟨v,rfl,L2⟩;go_wp2;go_ret2;exact HE2.out _ _ rfl (step L1.out L2)
 have CH:Hid (∀w':World,Calls Tryz.prog 24 #[hv m.h] w' λe w2=>∃v,e=.returned (.tuple #[v,.int .i64 0])/\Own w2 w'.heap.size v (M8a m.h)/\Below w'.heap.size w' w2):=λw'=>by
  have h1:=k2b w' m.h k.h;have h2:m3a m.h=0:=by unfold m3a;rw[if_pos hm]
  have h3:q4a m.h=M8a m.h:=by unfold q4a;rw[if_pos hm]
  rw[h2,h3] at h1;exact h1
 have hme:Z5a m=u6a m:=by unfold Z5a;rw[if_pos hm]
 obtain⟨mr1,mr2⟩:=Y8b m;have HE2:Hid (y4b m=true->∀e w',e=.returned (.tuple #[.slice none 0 0,.int .i64 2])->Below w.heap.size w w'->D6a w m e w'):=λhb=>HE.out 2 (by rw[hme,mr1,if_pos hb]) (by decide)
 have HER:Hid (y4b m=false->k0b m≠0->∀e w',e=.returned (.tuple #[.slice none 0 0,.int .i64 (k0b m)])->Below w.heap.size w w'->D6a w m e w'):=λhb h0=>HE.out _ (by rw[hme,mr1,hb,if_neg (by decide)]) h0
 have HQR:Hid (y4b m=false->k0b m=0->Bytes (m6b m)/\(m6b m).length<=70000/\∀v e w',e=.returned (.tuple #[v,.int .i64 0])->Own w' w.heap.size v (M8a m.h++v6a m.h (m6b m))->Below w.heap.size w w'->D6a w m e w'):=λhb h0=>by
  have h1:u6a m=0:=by rw[mr1,hb,if_neg (by decide)];exact h0
  rw[<-mr2 h1];exact⟨p1b k,N5b k,HQ.out (by rw[hme];exact h1)⟩
 have HPL:=hI (D5a k.h.len);have HPB:=hI (s5a k.h.byte);unfold y4b at HE2 HER HQR;unfold v6a at HQR;obtain⟨MC,hMC⟩:∃x,x=q0a m.h++(ac++sc):=⟨_,rfl⟩;rw[<-hMC] at HLL RH RA RS RC RN CB⊢;obtain⟨hc,hhc⟩:∃x,x=q0a m.h:=⟨_,rfl⟩;unfold hv at CH CR;rw[<-hhc] at H26 RH CH CR;obtain⟨za,hza⟩:∃x,x=l0a (.slice none 0 0) (.slice none 0 0) (.slice none 0 0) k0a:=⟨_,rfl⟩;rw[<-hza] at CA BA;obtain⟨zs,hzs⟩:∃x,x=s0a (.slice none 0 0) (.slice none 0 0) w0a:=⟨_,rfl⟩;rw[<-hzs] at CS BS;obtain⟨ba,hba⟩:∃x,x=decide (m.a=k0a):=⟨_,rfl⟩;rw[<-hba] at CA HE2 HER HQR;obtain⟨bs,hbs⟩:∃x,x=decide (m.s=w0a):=⟨_,rfl⟩;rw[<-hbs] at CS HE2 HER HQR;obtain⟨rep,hrep⟩:∃x,x=T2a m.h.fl:=⟨_,rfl⟩;rw[<-hrep] at CR HE2 HER HQR;obtain⟨st,hst⟩:∃x,x=m.h.st:=⟨_,rfl⟩;rw[<-hst] at RC s0 s1 HE2 HER HQR;obtain⟨nx,hnx⟩:∃x,x=m.h.nx:=⟨_,rfl⟩;rw[<-hnx] at RN n0 n1 HQR;obtain⟨er,her⟩:∃x,x=k0b m:=⟨_,rfl⟩;rw[<-her] at CB HER HQR;obtain⟨ys,hys⟩:∃x,x=m6b m:=⟨_,rfl⟩;rw[<-hys] at CB HQR;obtain⟨ps,hps⟩:∃x,x=M8a m.h:=⟨_,rfl⟩;rw[<-hps] at CH HQR HPL HPB;clear HE HQ hMC hhc hza hzs hba hbs hrep hst hnx her hys hps ha hs hr hm k hme mr1 mr2 zal HMM;go_enter Tryz.func9,Tryz.ntmps9;go_wp2_with(first
  | ((with_reducible refine sN 1 ?_);refine a0a rfl _ (.tmp 0) rfl MC rfl ?_;intro g w1 hg1 hg2 K1 L1)
  | ((with_reducible refine sN 10 ?_);refine p0a rfl _ (.tmp 9) rfl g 0 rfl hc _ (hI (RH.out _ _ _ K1.out)) Tryz.underlying28 rfl 26 E0a H26 ?_)
  | fail)
 refine(CH.out w1).mono ?_;rintro e w2 ⟨vh,rfl,o2,L2⟩;have O2:=hI o2;have K2:=hI (K1.out.over L2);have M2:=hI L2;clear o2 L2 CH;go_wp2_with(first
  | ((with_reducible refine sN 17 ?_);refine p0a rfl _ (.tmp 16) rfl g 0 rfl hc _ (hI (RH.out _ _ _ K2.out)) Tryz.underlying28 rfl 26 E0a H26 ?_)
  | fail)
 refine(CR.out w2).mono ?_;rintro e w3 ⟨rfl,L3⟩;have O3:=hI (O2.out.below L3);have K3:=hI (K2.out.over L3);have M3:=hI (step M2.out L3);have W3:=hI (step L1.out M3.out);have f3:=RC.out _ _ _ K3.out;clear L3 O2 K2 M2 CR;cases rep;case' false=>
  go_wp2_with(first
   | ((with_reducible refine sN 38 ?_);refine B0a (by kernel_rfl) _ (.tmp 37) rfl g 95 rfl sc _ (hI (RS.out _ _ _ K3.out)) Tryz.underlying39 rfl 20 v0a H20 ?_)
   | ((with_reducible refine sN 39 ?_);refine a5a (by kernel_rfl) _ _ rfl zs (by refine Eq.trans ?_ BS;kernel_rfl) ?_)
   | fail)
  refine(CS.out w3 W3.out).mono ?_;rintro e w4 ⟨rfl,L4⟩;have W4:=hI (step W3.out L4);cases bs
  ·go_wp2;go_ret2;exact HE2.out rfl _ _ rfl W4.out
  have hgood:=hI (HQR.out rfl);have hbad:=hI (HER.out rfl);obtain⟨wz,hwz⟩:∃x,x=w4:=⟨_,rfl⟩;have Oz:Hid (Own wz w1.heap.size vh ps):=by rw[hwz];exact O3.out.below L4
  have Kz:Hid (Blk wz g 41 MC):=by rw[hwz];exact K3.out.over L4
  have Mz:Hid (Below w1.heap.size w1 wz):=by rw[hwz];exact step M3.out L4
  have Wz:Hid (Below w.heap.size w wz):=by rw[hwz];exact W4.out
  rw[<-hwz];clear hwz HE2 HQR HER
 case' true=>
  go_wp2_with(first
   | ((with_reducible refine sN 22 ?_);refine B0a (by kernel_rfl) _ (.tmp 21) rfl g 26 rfl ac _ (hI (RA.out _ _ _ K3.out)) Tryz.underlying34 rfl 69 n0a H69 ?_)
   | ((with_reducible refine sN 23 ?_);refine a5a (by kernel_rfl) _ _ rfl za (by refine Eq.trans ?_ BA;kernel_rfl) ?_)
   | fail)
  refine(CA.out w3 W3.out).mono ?_;rintro e w4 ⟨rfl,L4⟩;have W4:=hI (step W3.out L4);have K4:=hI (K3.out.over L4);have f4:=RC.out _ _ _ K4.out;cases ba
  ·go_wp2;go_ret2;exact HE2.out rfl _ _ rfl W4.out
  by_cases ht:st=0;case' pos=>
   subst ht;have hgood:=hI (HQR.out (by cases bs<;>rfl));have hbad:=hI (HER.out (by cases bs<;>rfl));obtain⟨wz,hwz⟩:∃x,x=w4:=⟨_,rfl⟩;have Oz:Hid (Own wz w1.heap.size vh ps):=by rw[hwz];exact O3.out.below L4
   have Kz:Hid (Blk wz g 41 MC):=by rw[hwz];exact K4.out
   have Mz:Hid (Below w1.heap.size w1 wz):=by rw[hwz];exact step M3.out L4
   have Wz:Hid (Below w.heap.size w wz):=by rw[hwz];exact W4.out
   rw[<-hwz];rw[<-hwz] at f4;clear hwz HE2 HQR HER
  case' neg=>
   have hst:(st != 0)=true:=by simpa using ht
   have hstd:decide (st=0)=false:=decide_eq_false ht;rw[hstd] at HE2 HQR HER;go_wp2_with(first
    | ((with_reducible refine sN 38 ?_);refine B0a (by kernel_rfl) _ (.tmp 37) rfl g 95 rfl sc _ (hI (RS.out _ _ _ K4.out)) Tryz.underlying39 rfl 20 v0a H20 ?_)
    | ((with_reducible refine sN 39 ?_);refine a5a (by kernel_rfl) _ _ rfl zs (by refine Eq.trans ?_ BS;kernel_rfl) ?_)
    | fail)
   refine(CS.out w4 W4.out).mono ?_;rintro e w5 ⟨rfl,L5⟩;have W5:=hI (step W4.out L5);cases bs
   ·go_wp2;go_ret2;exact HE2.out rfl _ _ rfl W5.out
   have hgood:=hI (HQR.out rfl);have hbad:=hI (HER.out rfl);obtain⟨wz,hwz⟩:∃x,x=w5:=⟨_,rfl⟩;have Oz:Hid (Own wz w1.heap.size vh ps):=by rw[hwz];exact(O3.out.below L4).below L5
   have Kz:Hid (Blk wz g 41 MC):=by rw[hwz];exact K4.out.over L5
   have Mz:Hid (Below w1.heap.size w1 wz):=by rw[hwz];exact step (step M3.out L4) L5
   have Wz:Hid (Below w.heap.size w wz):=by rw[hwz];exact W5.out
   rw[<-hwz];clear hwz HE2 HQR HER
 all_goals
  go_wp2_with(first
   | ((with_reducible refine sN 45 ?_);refine d0a rfl _ (.tmp 1) rfl g rfl _ MC Kz 115 _ Tryz.underlying41 rfl J1a HLL ?_)
   | fail)
  refine(CB.out wz Wz.out).mono ?_;rintro e w6 ⟨vb,rfl,o6,L6⟩;have W6:=hI (step Wz.out L6);by_cases h0:er=0;rotate_left
  ·have hne:(er != 0)=true:=by simpa using h0
   go_wp2;go_ret2;exact hbad.out h0 _ _ rfl W6.out
  subst h0;obtain⟨hyb,hyl,hfin⟩:=hgood.out rfl;have HF:=hI hfin;obtain⟨Ab,cb,rfl,hh6⟩:=o6.holds hyb (by omega);have H6:=hI hh6;have O6:=hI (Oz.out.below L6);have K6:=hI (Kz.out.over L6);have M6:=hI (step Mz.out L6);obtain⟨n,hn⟩:∃n,n=ys.length:=⟨_,rfl⟩;rw[<-hn] at H6 hyl⊢;have HYL:=hI hn;have hgl:=K1.out.lt;clear hgood hbad hfin hh6 o6 L6 Oz Kz Mz Wz hn CB CA CS BA BS;go_wp2_with(first
   | (at_builtin;refine D0a rfl (.tmp 52) (.tmp 53) rfl w1.heap.size _ ps rfl O6.out w6.heap.size Ab n cb ys rfl H6.out (by rw[HPL.out,<-HYL.out];omega) M6.out.size ?_;intro v7 w7 o7 b7 _)
   | fail)
  obtain⟨A7,c7,hv7⟩:=o7.out.len;have e7:(ps++ys).length=64+n:=by rw[List.length_append,HPL.out,HYL.out]
  rw[e7] at hv7;subst hv7;have E7:=hI e7;have M7:=hI (M6.out.trans b7);obtain⟨PD,hPD⟩:∃PD:Nat,PD=if nx=0 then 0 else W1b n:=⟨_,rfl⟩
  have hpd7:PD<=7:=by rw[hPD];have:=k1b n;split<;>omega
  have HP7:=hI hPD;clear hPD e7 b7 M6 K6 O6 H6;go_loopw [4] (λv wr=>∃q B' c',64+n<=q/\q<=64+n+PD/\v=.slice B' q c'/\Hid (Own wr w1.heap.size v (ps++ys++List.replicate (q-(64+n)) 0))/\Hid (Below w1.heap.size w1 wr)) (λv _=>match v with | .slice _ q _=>64+n+PD-q | _=>0)
  case atStart=>exact⟨64+n,A7,c7,Nat.le_refl _,by omega,rfl,by rw[Nat.sub_self];show Own _ _ _ _;simpa using o7.out,M7.out⟩
  case round=>
   obtain⟨q,B',c',hq1,hq2,rfl,HO,HB⟩:=hrel;have Kr:=hI (K1.out.over HB.out);have f5:=RN.out _ _ _ Kr.out;have hbs:=HB.out.size;by_cases hn0:nx=0
   ·have hP:PD=0:=by rw[HP7.out,if_pos hn0]
    have hgt:decide (0<nx)=false:=by rw[hn0];rfl
    obtain rfl:q=64+n:=by omega
    have HO':Hid (Own wr w.heap.size (.slice B' (64+n) c') (ps++if nx=0 then ys else ys++List.replicate (W1b ys.length) 0)):=by have:=HO.out;rw[Nat.sub_self,List.replicate_zero,List.append_nil] at this;rw[if_pos hn0];exact this.mono L1.out.size
    go_wp2;go_ret2;exact HF.out _ _ _ rfl HO'.out (step L1.out HB.out)
   ·have hP:PD=W1b n:=by rw[HP7.out,if_neg hn0]
    have hgt:decide (0<nx)=true:=decide_eq_true (by omega);by_cases hlt:q<64+n+PD
    ·have hne:((q:Int)%8 != 0)=true:=by rw[bne_iff_ne];rw[hP] at hlt hq2;unfold W1b at hlt hq2;omega
     have hlm:(ps++ys++List.replicate (q-(64+n)) (0:Int)).length=q:=by rw[List.length_append,E7.out,List.length_replicate];omega
     have hlen:(ps++ys++List.replicate (q-(64+n)) (0:Int)).length+[(0:Int)].length<=140737488355328:=by rw[hlm];simp;omega
     have HL:=hI hlm;clear hlm;go_wp2_with(first
      | (at_builtin;refine D0a rfl (.tmp 65) (.tmp 66) rfl w1.heap.size _ _ rfl (HO.out.alloc _) _ _ 1 1 [0] rfl (Holds.single wr 0 (by omega)) hlen (by simp;omega) ?_;intro v8 w8 ho8 hb8 hgr)
      | fail)
     have ho:=ho8.out;obtain⟨B2,c2,hv2⟩:=ho.len;have e2:(ps++ys++List.replicate (q-(64+n)) (0:Int)++[0]).length=q+1:=by rw[List.length_append,HL.out];rfl
     rw[e2] at hv2;subst hv2;have e3:ps++ys++List.replicate (q-(64+n)) (0:Int)++[0]=ps++ys++List.replicate (q+1-(64+n)) 0:=by rw[List.append_assoc (ps++ys),show q+1-(64+n)=(q-(64+n))+1 from by omega,List.replicate_succ']
     rw[e3] at ho;go_roundw
     case rel=>exact⟨q+1,B2,c2,by omega,by omega,rfl,ho,(HB.out.alloc HB.out.size _).trans hb8⟩
     case measure=>show 64+n+PD-(q+1)<64+n+PD-q;omega
    ·have hqe:q=64+n+PD:=by omega
     have hne:((q:Int)%8 != 0)=false:=by rw[hqe,hP];unfold W1b;simp;omega
     have HO':Hid (Own wr w.heap.size (.slice B' q c') (ps++if nx=0 then ys else ys++List.replicate (W1b ys.length) 0)):=by have:=HO.out;rw[show q-(64+n)=W1b ys.length from by rw[<-HYL.out,<-hP];omega,List.append_assoc] at this;rw[if_neg hn0];exact this.mono L1.out.size
     go_wp2;go_ret2;exact HF.out _ _ _ rfl HO'.out (step L1.out HB.out)
open Go.RowKit Go.ChangeShapes Go.WideShapes
section
variable {H:Type} {enc:TypeId×Value->H} {P:Program} {W:World} {base:Nat} {t e:TypeId} {v:Value} {d:DataW H} {p:List MemPlace}
theorem x1b{l:List (DataW H)}{x:DataW H}(h:x∈l):Rows.uptoBulk x<=Rows.uptoBulkAll l:=by
 induction l with
 | nil=>cases h
 | cons y r ih=>
  simp only[Rows.uptoBulkAll];rcases List.mem_cons.1 h with rfl | h
  ·omega
  ·have:=ih h;omega
theorem g9a{l:List (DataW H)}{x:DataW H}(h:x∈l):Rows.uptoBulk x<Rows.uptoBulk (.agg l):=by have:=x1b h;simp only[Rows.uptoBulk];omega
theorem Y9a{k:IntKind}{fuel:Nat}{cs:List Value}{x:DataW H×List MemPlace}(ht:P.underlying t=some (.slice e))(he:P.underlying e=some (.int k))(hc:P.cellsOf e=1)
(hf:DataW.trod enc P W 0 (λ_=>true) true fuel t cs=some x) :
  ∃A n c zs,cs=[.slice A n c]/\n<=c/\c<Rows.uptoBulk x.1/\o1a (Value.int k) W W.heap.size A c c zs/\∀z∈zs,(Lit.int k z).wf=true:=by
 rcases open_ints ht he hc hf with⟨hcs,hx⟩ | ⟨y,l,cp,zs,hcs,_,hl,hm,hz,hx,hcell,hwz⟩
 ·exact⟨none,0,0,[],hcs,Nat.le_refl _,F5a _,o1a.nil _ _ _,λz h=>by cases h⟩
 ·subst hx;simp only[if_true] at hz;refine⟨some y,l,cp,zs,hcs,hl,?_,⟨hz,Nat.le_refl _,(λhA=>by cases hA),λh0=>?_⟩,hwz⟩
  ·have h1:=Q2a (lits (H:=H) k (zs.take l));have h2:=Q2a (lits (H:=H) k (zs.drop l));rw[show(lits (H:=H) k (zs.take l)).length=(zs.take l).length from by simp[lits],List.length_take] at h1;rw[show(lits (H:=H) k (zs.drop l)).length=(zs.drop l).length from by simp[lits],List.length_drop] at h2;simp only[Rows.uptoBulk];omega
  ·obtain⟨b,off,spot⟩:=y;have h1:=hcell 0 (by omega);have hspot:spot=none:=by simpa[Addr.add] using World.cell?_spot h1
   subst hspot;refine⟨b,off,rfl,?_,λi z hi=>?_⟩
   ·have:=World.block_lt_of_cell? W _ h1;simpa[Addr.add] using this
   ·have hil:=(List.getElem?_eq_some_iff.1 hi).1;have h2:=hcell i (by omega);have ea:(⟨b,off,none⟩:Addr).add i=⟨b,off+i,none⟩:=by
     by_cases hj0:i=0
     ·subst hj0;simp[Addr.add]
     ·simp[Addr.add,hj0]
    rw[ea] at h2;rw[h2]
    congr 2
    simp[List.getD_eq_getElem?_getD,hi]
theorem h6b{α:Type}[Inhabited α]{f:α->List Value}{s:Nat}{ok:α->Prop}{fuel:Nat}{cs:List Value}{x:DataW H×List MemPlace}(ht:P.underlying t=some (.slice e))(hc:P.cellsOf e=s)(hs:0<s)(hfl:∀y,(f y).length=s)
(hel:∀(n:Nat) (cs:List Value) (x:DataW H×List MemPlace),DataW.trod enc P W 0 (λ_=>true) true n e cs=some x->∃y:α,cs=f y/\ok y)
(hf:DataW.trod enc P W 0 (λ_=>true) true fuel t cs=some x) :
  ∃A n c zs,cs=[.slice A n c]/\n<=c/\c<Rows.uptoBulk x.1/\T0a f s W W.heap.size A c c zs/\∀z∈zs,ok z:=by
 rcases Go.Deep.open_slice ht hf with⟨hcs,hx⟩ | ⟨a,len,cap,m,n,D,Pl,hcs,_,hl,hm,hmm,hx,hcell⟩
 ·exact⟨none,0,0,[],hcs,Nat.le_refl _,F5a _,T0a.nil _ _ _ _,λz h=>by cases h⟩
 ·subst hx;simp only[if_true] at hmm;subst hmm;rw[hc] at hcell;have each:∀i,i<m->∃y:α,W.cells? 0 (a.add (i*s)) s=some (f y)/\ok y:=λi hi=>by obtain⟨cs',h1,h2⟩:=hcell i hi;obtain⟨y,rfl,hy⟩:=hel _ _ _ h2;exact⟨y,h1,hy⟩
  obtain⟨Y,hY⟩:=Go.Deep.choose_lt each;refine⟨some a,len,m,(List.range m).map Y,hcs,hl,?_,⟨by simp,Nat.le_refl _,(λhA=>by cases hA),λh0=>?_⟩,λz hz=>?_⟩
  ·have h1:=Q2a ((List.range len).map D);have h2:=Q2a ((List.range (m-len)).map λj=>D (len+j));rw[List.length_map,List.length_range] at h1 h2;simp only[Rows.uptoBulk];omega
  ·obtain⟨b,off,spot⟩:=a;obtain⟨_,h01,h02⟩:=World.cells?_some (hY 0 h0).1;have hf0:0<(f (Y 0)).length:=by rw[hfl];exact hs
   have h03:=h02 0 (by omega);rw[List.getElem?_eq_getElem hf0] at h03;have hspot:spot=none:=by simpa[Addr.add] using World.cell?_spot h03
   subst hspot;have add_at:∀i,(⟨b,off,none⟩:Addr).add i=⟨b,off+i,none⟩:=λi=>by
    by_cases hj0:i=0
    ·subst hj0;simp[Addr.add]
    ·simp[Addr.add,hj0]
   have add_at2:∀i j,(⟨b,off+i,none⟩:Addr).add j=⟨b,off+(i+j),none⟩:=λi j=>by
    by_cases hj0:j=0
    ·subst hj0;simp[Addr.add]
    ·simp[Addr.add,hj0,Nat.add_assoc]
   refine⟨b,off,rfl,?_,λi z hi j u hj=>?_⟩
   ·have:=World.block_lt_of_cell? W _ h03;simpa[Addr.add] using this
   ·rw[List.getElem?_map] at hi;have him:i<m:=by
     rcases Nat.lt_or_ge i m with h | h
     ·exact h
     ·rw[List.getElem?_eq_none (by simpa using h)] at hi;cases hi
    rw[List.getElem?_range him] at hi;injection hi with hi
    subst hi;obtain⟨_,_,h2⟩:=World.cells?_some (hY i him).1;have hjl:j<s:=by rw[<-hfl (Y i)];exact(List.getElem?_eq_some_iff.1 hj).1
    have h3:=h2 j hjl;rw[add_at,add_at2,hj] at h3;exact h3
  ·obtain⟨i,hi,rfl⟩:=List.mem_map.1 hz;exact(hY i (List.mem_range.1 hi)).2
end
section
variable {H:Type} {enc:TypeId×Value->H} {W:World} {base:Nat} {v:Value} {d:DataW H} {p:List MemPlace}
instance:Inhabited m2a:=⟨⟨0,0,0,0⟩⟩
instance:Inhabited s1a:=⟨⟨.empty,0,0⟩⟩
theorem O0a{l:List Value}{i:Nat}{a:Value}(h:(l.drop i).take 1=[a]):l.drop i=a::l.drop (i+1):=by
 have e:l.drop (i+1)=(l.drop i).drop 1:=by rw[List.drop_drop]
 rw[e];cases hq:l.drop i with
 | nil=>rw[hq] at h;cases h
 | cons u r=>rw[hq] at h;simp at h;rw[h];rfl
theorem V1a{P:Program}{t:TypeId}{k:IntKind}{fuel:Nat}{cs:List Value}{y:Option (DataW H×List MemPlace)}(he:P.underlying t=some (.int k))(hy:y.isSome=true)
(hf:DataW.trod enc P W 0 (λ_=>true) true fuel t cs=y):∃x,cs=[.int k x]/\(Lit.int k x).wf=true:=by obtain⟨z,rfl⟩:=Option.isSome_iff_exists.1 hy;obtain⟨x,e0,_,wx⟩:=DataW.trod_int he hf;exact⟨x,e0,wx⟩
theorem i6b(n:Nat)(cs:List Value)(x:DataW H×List MemPlace)(hf:DataW.trod enc Tryz.prog W 0 (λ_=>true) true n 114 cs=some x):∃l:m2a,cs=P0a l/\l.ok:=by
 obtain⟨xs,m,_,_,hl,hx,hel⟩:=DataW.trod_struct Tryz.underlying114 hf;have hx4:xs.length=4:=hx;have h4:cs.length=4:=hl.trans (by kernel_rfl);have some_at:∀i,i<4->(xs[i]?).isSome=true:=λi hi=>by simp[hx4,hi]
 have c1:∀t,t=3∨t=25∨t=22->Tryz.prog.cellsOf t=1:=by rintro t (rfl | rfl | rfl)<;>kernel_rfl
 have e0:=hel 0 _ rfl;have e1:=hel 1 _ rfl;have e2:=hel 2 _ rfl;have e3:=hel 3 _ rfl;rw[c1 _ (by simp)] at e0 e1 e2 e3;obtain⟨x0,d0,w0⟩:=V1a Tryz.underlying3 (some_at 0 (by omega)) e0;obtain⟨x1,d1,w1⟩:=V1a Tryz.underlying25 (some_at 1 (by omega)) e1;obtain⟨x2,d2,w2⟩:=V1a Tryz.underlying25 (some_at 2 (by omega)) e2;obtain⟨x3,d3,w3⟩:=V1a Tryz.underlying22 (some_at 3 (by omega)) e3;refine⟨⟨x0,x1,x2,x3⟩,?_,⟨V6a w0,P1a w1,P1a w2,U1a w3⟩⟩;have f0:=O0a (i:=0) d0;have f1:=O0a (i:=1) d1;have f2:=O0a (i:=2) d2;have f3:=O0a (i:=3) d3;rw[List.drop_zero] at f0;rw[f0,f1,f2,f3,List.drop_of_length_le (by omega)];rfl
end
section
variable {H:Type} {enc:TypeId×Value->H} {P:Program} {W:World} {base:Nat} {t e:TypeId} {v:Value} {d:DataW H} {p:List MemPlace}
theorem y1b{k:IntKind}{m b fuel:Nat}{sp:Nat->Bool}{hd:Bool}{l:List Value}{x:DataW H×List MemPlace}(ht:P.underlying t=some (.array m e))(he:P.underlying e=some (.int k))(hc:P.cellsOf e=1)(hl:l.length=m)
(hf:DataW.trod enc P W b sp hd fuel t l=some x):∃xs:List Int,l=xs.map (Value.int k)/\∀x∈xs,(Lit.int k x).wf=true:=by
 obtain⟨ys,n,_,_,hlc,hyl,hel⟩:=DataW.trod_array ht hf;rw[hc] at hel;have each:∀i (h:i<l.length),∃x,l[i]=.int k x/\(Lit.int k x).wf=true:=by
  intro i hi;have h1:=hel i (by omega);rw[Nat.mul_one] at h1;rw[List.drop_eq_getElem_cons hi,List.take_succ_cons,List.take_zero] at h1;have hy:i<ys.length:=by omega
  rw[List.getElem?_eq_getElem hy] at h1;obtain⟨x,e0,_,wx⟩:=DataW.trod_int he h1;exact⟨x,by simpa using e0,wx⟩
 clear hf hel hl hlc hyl
 induction l with
 | nil=>exact⟨[],rfl,λ_ h=>by cases h⟩
 | cons u r ih=>
  obtain⟨x,hx,wx⟩:=each 0 (by simp);obtain⟨xs,hr,hw⟩:=ih λi hi=>by have:=each (i+1) (by simpa using hi);simpa using this
  refine⟨x::xs,by rw[hr];simpa using hx,λy hy=>?_⟩;rcases List.mem_cons.1 hy with rfl | hy
  ·exact wx
  ·exact hw y hy
end
section
variable {H:Type} {enc:TypeId×Value->H} {W:World} {base:Nat} {v:Value} {d:DataW H} {p:List MemPlace}
theorem G0b{w:World}{B:Nat}{A:Option Addr}{n c:Nat}{xs:List Int}(h:o1a (Value.int .u8) w B A n c xs)(hr:n<=281474976710656)(hb:Bytes xs):Holds w B A n c xs:=
 ⟨h.len,h.fit,hr,hb,h.bare,λh0=>by
  obtain⟨b,off,e1,e2,e3⟩:=h.cells h0;refine⟨b,off,e1,e2,λi hi=>?_⟩;have hil:i<xs.length:=by rw[h.len];exact hi
  rw[e3 i xs[i] (List.getElem?_eq_getElem hil)];simp[List.getD_eq_getElem?_getD,hil]⟩
end
section
variable {H:Type} {enc:TypeId×Value->H} {P:Program} {W:World} {base:Nat} {t e:TypeId} {v:Value} {d:DataW H} {p:List MemPlace}
theorem l3b{α:Type}[Inhabited α]{f:α->List Value}{s:Nat}{ok:α->Prop}{g:α->Nat}{fuel:Nat}{cs:List Value}{x:DataW H×List MemPlace}(ht:P.underlying t=some (.slice e))(hc:P.cellsOf e=s)(hs:0<s)(hfl:∀y,(f y).length=s)
(hel:∀(n:Nat) (cs:List Value) (x:DataW H×List MemPlace),DataW.trod enc P W 0 (λ_=>true) true n e cs=some x->∃y:α,cs=f y/\ok y/\g y<Rows.uptoBulk x.1)
(hf:DataW.trod enc P W 0 (λ_=>true) true fuel t cs=some x) :
  ∃A n c zs,cs=[.slice A n c]/\n<=c/\c<Rows.uptoBulk x.1/\T0a f s W W.heap.size A c c zs/\(∀z∈zs,ok z)/\∀z∈zs,g z<Rows.uptoBulk x.1:=by
 rcases Go.Deep.open_slice ht hf with⟨hcs,hx⟩ | ⟨a,len,cap,m,n,D,Pl,hcs,_,hl,hm,hmm,hx,hcell⟩
 ·exact⟨none,0,0,[],hcs,Nat.le_refl _,F5a _,T0a.nil _ _ _ _,(λz h=>by cases h),λz h=>by cases h⟩
 ·subst hx;simp only[if_true] at hmm;subst hmm;rw[hc] at hcell;have each:∀i,i<m->∃y:α,W.cells? 0 (a.add (i*s)) s=some (f y)/\ok y/\g y<Rows.uptoBulk (D i):=λi hi=>by obtain⟨cs',h1,h2⟩:=hcell i hi;obtain⟨y,rfl,hy⟩:=hel _ _ _ h2;exact⟨y,h1,hy⟩
  obtain⟨Y,hY⟩:=Go.Deep.choose_lt each;refine⟨some a,len,m,(List.range m).map Y,hcs,hl,?_,⟨by simp,Nat.le_refl _,(λhA=>by cases hA),λh0=>?_⟩,λz hz=>?_,λz hz=>?_⟩
  ·have h1:=Q2a ((List.range len).map D);have h2:=Q2a ((List.range (m-len)).map λj=>D (len+j));rw[List.length_map,List.length_range] at h1 h2;simp only[Rows.uptoBulk];omega
  ·obtain⟨b,off,spot⟩:=a;obtain⟨_,h01,h02⟩:=World.cells?_some (hY 0 h0).1;have hf0:0<(f (Y 0)).length:=by rw[hfl];exact hs
   have h03:=h02 0 (by omega);rw[List.getElem?_eq_getElem hf0] at h03;have hspot:spot=none:=by simpa[Addr.add] using World.cell?_spot h03
   subst hspot;have add_at:∀i,(⟨b,off,none⟩:Addr).add i=⟨b,off+i,none⟩:=λi=>by
    by_cases hj0:i=0
    ·subst hj0;simp[Addr.add]
    ·simp[Addr.add,hj0]
   have add_at2:∀i j,(⟨b,off+i,none⟩:Addr).add j=⟨b,off+(i+j),none⟩:=λi j=>by
    by_cases hj0:j=0
    ·subst hj0;simp[Addr.add]
    ·simp[Addr.add,hj0,Nat.add_assoc]
   refine⟨b,off,rfl,?_,λi z hi j u hj=>?_⟩
   ·have:=World.block_lt_of_cell? W _ h03;simpa[Addr.add] using this
   ·rw[List.getElem?_map] at hi;have him:i<m:=by
     rcases Nat.lt_or_ge i m with h | h
     ·exact h
     ·rw[List.getElem?_eq_none (by simpa using h)] at hi;cases hi
    rw[List.getElem?_range him] at hi;injection hi with hi
    subst hi;obtain⟨_,_,h2⟩:=World.cells?_some (hY i him).1;have hjl:j<s:=by rw[<-hfl (Y i)];exact(List.getElem?_eq_some_iff.1 hj).1
    have h3:=h2 j hjl;rw[add_at,add_at2,hj] at h3;exact h3
  ·obtain⟨i,hi,rfl⟩:=List.mem_map.1 hz;exact(hY i (List.mem_range.1 hi)).2.1
  ·obtain⟨i,hi,rfl⟩:=List.mem_map.1 hz;have hi':=List.mem_range.1 hi;have hw:=(hY i hi').2.2;simp only[Rows.uptoBulk];rcases Nat.lt_or_ge i len with h | h
   ·have:=x1b (l:=(List.range len).map D) (List.mem_map.2 ⟨i,List.mem_range.2 h,rfl⟩);omega
   ·have:=x1b (l:=(List.range (m-len)).map λj=>D (len+j)) (List.mem_map.2 ⟨i-len,List.mem_range.2 (by omega),rfl⟩);rw[show len+(i-len)=i from by omega] at this;omega
end
section
variable {H:Type} {enc:TypeId×Value->H} {W:World} {base:Nat} {v:Value} {d:DataW H} {p:List MemPlace}
theorem r2b(n:Nat)(cs:List Value)(x:DataW H×List MemPlace)(hf:DataW.trod enc Tryz.prog W 0 (λ_=>true) true n 118 cs=some x):∃l:s1a,cs=J0a l/\l.ok/\l.name.size<Rows.uptoBulk x.1:=by
 obtain⟨xs,m,_,hd,hl,hx,hel⟩:=DataW.trod_struct Tryz.underlying118 hf;have hx2:xs.length=2:=hx;have h3:cs.length=3:=hl.trans (by kernel_rfl);have e0:=hel 0 _ rfl;have e1:=hel 1 _ rfl;have cs1:Tryz.prog.cellsOf 9=1:=by kernel_rfl
 have cs2:Tryz.prog.cellsOf 116=2:=by kernel_rfl
 change DataW.trod enc Tryz.prog W 0 (λ_=>true) true m 9 ((cs.drop 0).take (Tryz.prog.cellsOf 9))=xs[0]? at e0
 change DataW.trod enc Tryz.prog W 0 (λ_=>true) true m 116 ((cs.drop 1).take (Tryz.prog.cellsOf 116))=xs[1]? at e1
 rw[cs1] at e0;rw[cs2] at e1;obtain⟨z0,hz0⟩:=Option.isSome_iff_exists.1 (show(xs[0]?).isSome=true by simp[hx2]);obtain⟨z1,hz1⟩:=Option.isSome_iff_exists.1 (show(xs[1]?).isSome=true by simp[hx2]);rw[hz0] at e0;rw[hz1] at e1;obtain⟨s,d0,q0,_⟩:=DataW.trod_string (P:=Tryz.prog) Tryz.underlying9 e0;obtain⟨ys,m2,_,_,hl2,hy,hel2⟩:=DataW.trod_struct Tryz.underlying116 e1;have hy2:ys.length=2:=hy;have g0:=hel2 0 _ rfl;have g1:=hel2 1 _ rfl;have c1:∀t,t=3∨t=36->Tryz.prog.cellsOf t=1:=by rintro t (rfl | rfl)<;>kernel_rfl
 rw[c1 _ (by simp)] at g0 g1;obtain⟨x1,d1,w1⟩:=V1a Tryz.underlying36 (by simp[hy2]) g0;obtain⟨x2,d2,w2⟩:=V1a Tryz.underlying3 (by simp[hy2]) g1;have hq:s.size<Rows.uptoBulk x.1:=by
  have hdd:x.1=.agg (xs.map (·.1)):=by rw[hd]
  have h0:=g9a (List.mem_map.2 ⟨z0,List.mem_of_getElem? hz0,rfl⟩:z0.1∈xs.map (·.1));rw[<-hdd,q0] at h0;simp only[Rows.uptoBulk] at h0;have:s.data.toList.length=s.size:=by rw[Array.length_toList];rfl
  omega
 refine⟨⟨s,x1,x2⟩,?_,⟨u1a w1,V6a w2⟩,hq⟩
 match cs,h3 with
 | [a,b,c],_=>simp at d0 d1 d2;simp[J0a,d0,d1,d2]
end
section
variable {H:Type} {enc:TypeId×Value->H} {P:Program} {W:World} {base:Nat} {t e:TypeId} {v:Value} {d:DataW H} {p:List MemPlace}
theorem o7b{k:IntKind}{m b fuel:Nat}{sp:Nat->Bool}{hd:Bool}{l:List Value}{x:DataW H×List MemPlace}(ht:P.underlying t=some (.array m e))(he:P.underlying e=some (.int k))(hc:P.cellsOf e=1)(hl:l.length=m)
(hf:DataW.trod enc P W b sp hd fuel t l=some x):∃xs:List Int,l=xs.map (Value.int k)/\∀x∈xs,(Lit.int k x).wf=true:=by
 obtain⟨ys,n,_,_,hlc,hyl,hel⟩:=DataW.trod_array ht hf;rw[hc] at hel;have each:∀i (h:i<l.length),∃x,l[i]=.int k x/\(Lit.int k x).wf=true:=by
  intro i hi;have h1:=hel i (by omega);rw[Nat.mul_one] at h1;rw[List.drop_eq_getElem_cons hi,List.take_succ_cons,List.take_zero] at h1;have hy:i<ys.length:=by omega
  rw[List.getElem?_eq_getElem hy] at h1;obtain⟨x,e0,_,wx⟩:=DataW.trod_int he h1;exact⟨x,by simpa using e0,wx⟩
 clear hf hel hl hlc hyl
 induction l with
 | nil=>exact⟨[],rfl,λ_ h=>by cases h⟩
 | cons u r ih=>
  obtain⟨x,hx,wx⟩:=each 0 (by simp);obtain⟨xs,hr,hw⟩:=ih λi hi=>by have:=each (i+1) (by simpa using hi);simpa using this
  refine⟨x::xs,by rw[hr];simpa using hx,λy hy=>?_⟩;rcases List.mem_cons.1 hy with rfl | hy
  ·exact wx
  ·exact hw y hy
theorem q8a{l:List Value}{i:Nat}{a:Value}(h:(l.drop i).take 1=[a]):l.drop i=a::l.drop (i+1):=by
 have e:l.drop (i+1)=(l.drop i).drop 1:=by rw[List.drop_drop]
 rw[e];cases hq:l.drop i with
 | nil=>rw[hq] at h;cases h
 | cons u r=>rw[hq] at h;simp at h;rw[h];rfl
theorem c4a{k:IntKind}{b fuel i:Nat}{sp:Nat->Bool}{hd:Bool}{l:List Value}{y:Option (DataW H×List MemPlace)}(he:P.underlying e=some (.int k))(hy:y.isSome=true)
(hf:DataW.trod enc P W b sp hd fuel e ((l.drop i).take 1)=y):∃x,l.drop i=.int k x::l.drop (i+1)/\(Lit.int k x).wf=true:=by obtain⟨z,rfl⟩:=Option.isSome_iff_exists.1 hy;obtain⟨x,e0,_,wx⟩:=DataW.trod_int he hf;exact⟨x,q8a e0,wx⟩
end
section
variable {H:Type} {enc:TypeId×Value->H} {W:World} {base:Nat} {v:Value} {d:DataW H} {p:List MemPlace}
theorem z4b{fuel:Nat}{l:List Value}{x:DataW H×List MemPlace}(hf:DataW.trod enc Tryz.prog W 0 (λ_=>true) true fuel 28 l=some x):∃h:Hd,h.ok/\l=q0a h:=by
 obtain⟨d,p⟩:=x;have h26:Tryz.prog.cellsOf 28=26:=by kernel_rfl
 obtain⟨xs,n,_,_,hln,hx,hel⟩:=DataW.trod_struct Tryz.underlying28 hf;rw[h26] at hln;have hx11:xs.length=11:=hx;have some_at:∀i,i<11->(xs[i]?).isSome=true:=λi hi=>by simp[hx11,hi]
 have c1:∀t,t=22∨t=23∨t=25∨t=24->Tryz.prog.cellsOf t=1:=by rintro t (rfl | rfl | rfl | rfl)<;>kernel_rfl
 have e0:=hel 0 _ rfl;have e1:=hel 1 _ rfl;have e2:=hel 2 _ rfl;have e3:=hel 3 _ rfl;have e4:=hel 4 _ rfl;have e5:=hel 5 _ rfl;have e6:=hel 6 _ rfl;have e7:=hel 7 _ rfl;have e8:=hel 8 _ rfl;have e9:=hel 9 _ rfl;have e10:=hel 10 _ rfl;rw[c1 _ (by simp)] at e0 e1 e2 e3 e4 e5 e6 e7 e8 e9;obtain⟨x0,d0,w0⟩:=c4a (i:=0) Tryz.underlying22 (some_at 0 (by omega)) e0;obtain⟨x1,d1,w1⟩:=c4a (i:=1) Tryz.underlying23 (some_at 1 (by omega)) e1;obtain⟨x2,d2,w2⟩:=c4a (i:=2) Tryz.underlying24 (some_at 2 (by omega)) e2;obtain⟨x3,d3,w3⟩:=c4a (i:=3) Tryz.underlying22 (some_at 3 (by omega)) e3;obtain⟨x4,d4,w4⟩:=c4a (i:=4) Tryz.underlying23 (some_at 4 (by omega)) e4;obtain⟨x5,d5,w5⟩:=c4a (i:=5) Tryz.underlying23 (some_at 5 (by omega)) e5;obtain⟨x6,d6,w6⟩:=c4a (i:=6) Tryz.underlying25 (some_at 6 (by omega)) e6;obtain⟨x7,d7,w7⟩:=c4a (i:=7) Tryz.underlying25 (some_at 7 (by omega)) e7;obtain⟨x8,d8,w8⟩:=c4a (i:=8) Tryz.underlying23 (some_at 8 (by omega)) e8;obtain⟨x9,d9,w9⟩:=c4a (i:=9) Tryz.underlying25 (some_at 9 (by omega)) e9;have c16:Tryz.prog.cellsOf 26=16:=by kernel_rfl
 change DataW.trod enc Tryz.prog W 0 (λ_=>true) true n 26 ((l.drop 10).take (Tryz.prog.cellsOf 26))=xs[10]? at e10
 rw[c16] at e10;obtain⟨z,hz⟩:=Option.isSome_iff_exists.1 (some_at 10 (by omega));rw[hz] at e10;have ht:(l.drop 10).take 16=l.drop 10:=List.take_of_length_le (by simp;omega);rw[ht] at e10;obtain⟨ss,hss,wss⟩:=o7b Tryz.underlying26 Tryz.underlying5 (by kernel_rfl) (by simp;omega) e10;have hsl:ss.length=16:=by have:=congrArg List.length hss;simp at this;omega
 refine⟨⟨x0,x1,x2,x3,x4,x5,x6,x7,x8,x9,ss⟩,⟨U1a w0,O1a w1,U1a w2,U1a w3,O1a w4,O1a w5,P1a w6,P1a w7,O1a w8,P1a w9,hsl,λy hy=>u1a (wss y hy)⟩,?_⟩;rw[<-List.drop_zero (l:=l),d0,d1,d2,d3,d4,d5,d6,d7,d8,d9,hss];rfl
theorem j6b{fuel:Nat}{l:List Value}{x:DataW H×List MemPlace}(hf:DataW.trod enc Tryz.prog W 0 (λ_=>true) true fuel 34 l=some x)(hu:Rows.uptoBulk x.1<=1048577):∃a:m1a,a.ok/\b1a W W.heap.size l a/\a.dial.length<=1048576/\a.data.length<=1048576/\a.locks.length<=1048576/\a.user.size<=1048576/\a.share.size<=1048576/\a.name.size<=1048576/\a.pat.size<=1048576/\a.aft.size<=1048576:=by
 obtain⟨d,p⟩:=x;change Rows.uptoBulk d<=_ at hu
 have htot:Tryz.prog.cellsOf 34=69:=by kernel_rfl
 obtain⟨xs,m,_,hd,hl,hx,hel⟩:=DataW.trod_struct Tryz.underlying34 hf;have hxl:xs.length=23:=hx;have some_at:∀i,i<23->(xs[i]?).isSome=true:=λi hi=>by simp[hxl,hi]
 have hdd:d=.agg (xs.map (·.1)):=by injection hd
 have wt:∀(i:Nat) (z:DataW H×List MemPlace),xs[i]? = some z->Rows.uptoBulk z.1<Rows.uptoBulk d:=λi z hz=>by rw[hdd];exact g9a (List.mem_map.2 ⟨z,List.mem_of_getElem? hz,rfl⟩)
 rw[htot] at hl;have e0:=hel 0 _ rfl;change DataW.trod enc Tryz.prog W 0 (λ_=>true) true m 29 ((l.drop 0).take (Tryz.prog.cellsOf 29))=xs[0]? at e0
 rw[show Tryz.prog.cellsOf 29=1 from by kernel_rfl] at e0;obtain⟨z0,hz0⟩:=Option.isSome_iff_exists.1 (some_at 0 (by omega));have wz0:=wt 0 z0 hz0;rw[hz0] at e0;obtain⟨A0,n0,k0,s0,d0,l0,b0,h0,w0⟩:=Y9a Tryz.underlying29 Tryz.underlying22 (by kernel_rfl) e0;have c0:=O0a (i:=0) d0;have e1:=hel 1 _ rfl;change DataW.trod enc Tryz.prog W 0 (λ_=>true) true m 26 ((l.drop 1).take (Tryz.prog.cellsOf 26))=xs[1]? at e1
 rw[show Tryz.prog.cellsOf 26=16 from by kernel_rfl] at e1;obtain⟨z1,hz1⟩:=Option.isSome_iff_exists.1 (some_at 1 (by omega));have wz1:=wt 1 z1 hz1;rw[hz1] at e1;obtain⟨s1,d1,w1⟩:=y1b Tryz.underlying26 Tryz.underlying5 (by kernel_rfl) (by simp;omega) e1;have t1:s1.length=16:=by have:=congrArg List.length d1;simp at this;omega
 have c1:l.drop 1=s1.map (Value.int .u8)++l.drop 17:=by rw[<-d1,show l.drop 17=(l.drop 1).drop 16 from by rw[List.drop_drop]];exact(List.take_append_drop _ _).symm
 have e2:=hel 2 _ rfl;change DataW.trod enc Tryz.prog W 0 (λ_=>true) true m 30 ((l.drop 17).take (Tryz.prog.cellsOf 30))=xs[2]? at e2
 rw[show Tryz.prog.cellsOf 30=32 from by kernel_rfl] at e2;obtain⟨z2,hz2⟩:=Option.isSome_iff_exists.1 (some_at 2 (by omega));have wz2:=wt 2 z2 hz2;rw[hz2] at e2;obtain⟨s2,d2,w2⟩:=y1b Tryz.underlying30 Tryz.underlying5 (by kernel_rfl) (by simp;omega) e2;have t2:s2.length=32:=by have:=congrArg List.length d2;simp at this;omega
 have c2:l.drop 17=s2.map (Value.int .u8)++l.drop 49:=by rw[<-d2,show l.drop 49=(l.drop 17).drop 32 from by rw[List.drop_drop]];exact(List.take_append_drop _ _).symm
 have e3:=hel 3 _ rfl;change DataW.trod enc Tryz.prog W 0 (λ_=>true) true m 9 ((l.drop 49).take (Tryz.prog.cellsOf 9))=xs[3]? at e3
 rw[show Tryz.prog.cellsOf 9=1 from by kernel_rfl] at e3;obtain⟨z3,hz3⟩:=Option.isSome_iff_exists.1 (some_at 3 (by omega));have wz3:=wt 3 z3 hz3;rw[hz3] at e3;obtain⟨x3,d3,q3,_⟩:=DataW.trod_string Tryz.underlying9 e3;have c3:=O0a (i:=49) d3;have k3:x3.size<=1048576:=by
  rw[q3] at wz3;simp only[Rows.uptoBulk] at wz3;have:x3.data.toList.length=x3.size:=by rw[Array.length_toList];rfl
  omega
 have e4:=hel 4 _ rfl;change DataW.trod enc Tryz.prog W 0 (λ_=>true) true m 9 ((l.drop 50).take (Tryz.prog.cellsOf 9))=xs[4]? at e4
 rw[show Tryz.prog.cellsOf 9=1 from by kernel_rfl] at e4;obtain⟨z4,hz4⟩:=Option.isSome_iff_exists.1 (some_at 4 (by omega));have wz4:=wt 4 z4 hz4;rw[hz4] at e4;obtain⟨x4,d4,q4,_⟩:=DataW.trod_string Tryz.underlying9 e4;have c4:=O0a (i:=50) d4;have k4:x4.size<=1048576:=by
  rw[q4] at wz4;simp only[Rows.uptoBulk] at wz4;have:x4.data.toList.length=x4.size:=by rw[Array.length_toList];rfl
  omega
 have e5:=hel 5 _ rfl;change DataW.trod enc Tryz.prog W 0 (λ_=>true) true m 23 ((l.drop 51).take (Tryz.prog.cellsOf 23))=xs[5]? at e5
 rw[show Tryz.prog.cellsOf 23=1 from by kernel_rfl] at e5;obtain⟨z5,hz5⟩:=Option.isSome_iff_exists.1 (some_at 5 (by omega));have wz5:=wt 5 z5 hz5;rw[hz5] at e5;obtain⟨x5,d5,w5⟩:=V1a (y:=some z5) Tryz.underlying23 rfl e5;have c5:=O0a (i:=51) d5;have e6:=hel 6 _ rfl;change DataW.trod enc Tryz.prog W 0 (λ_=>true) true m 23 ((l.drop 52).take (Tryz.prog.cellsOf 23))=xs[6]? at e6
 rw[show Tryz.prog.cellsOf 23=1 from by kernel_rfl] at e6;obtain⟨z6,hz6⟩:=Option.isSome_iff_exists.1 (some_at 6 (by omega));have wz6:=wt 6 z6 hz6;rw[hz6] at e6;obtain⟨x6,d6,w6⟩:=V1a (y:=some z6) Tryz.underlying23 rfl e6;have c6:=O0a (i:=52) d6;have e7:=hel 7 _ rfl;change DataW.trod enc Tryz.prog W 0 (λ_=>true) true m 23 ((l.drop 53).take (Tryz.prog.cellsOf 23))=xs[7]? at e7
 rw[show Tryz.prog.cellsOf 23=1 from by kernel_rfl] at e7;obtain⟨z7,hz7⟩:=Option.isSome_iff_exists.1 (some_at 7 (by omega));have wz7:=wt 7 z7 hz7;rw[hz7] at e7;obtain⟨x7,d7,w7⟩:=V1a (y:=some z7) Tryz.underlying23 rfl e7;have c7:=O0a (i:=53) d7;have e8:=hel 8 _ rfl;change DataW.trod enc Tryz.prog W 0 (λ_=>true) true m 23 ((l.drop 54).take (Tryz.prog.cellsOf 23))=xs[8]? at e8
 rw[show Tryz.prog.cellsOf 23=1 from by kernel_rfl] at e8;obtain⟨z8,hz8⟩:=Option.isSome_iff_exists.1 (some_at 8 (by omega));have wz8:=wt 8 z8 hz8;rw[hz8] at e8;obtain⟨x8,d8,w8⟩:=V1a (y:=some z8) Tryz.underlying23 rfl e8;have c8:=O0a (i:=54) d8;have e9:=hel 9 _ rfl;change DataW.trod enc Tryz.prog W 0 (λ_=>true) true m 5 ((l.drop 55).take (Tryz.prog.cellsOf 5))=xs[9]? at e9
 rw[show Tryz.prog.cellsOf 5=1 from by kernel_rfl] at e9;obtain⟨z9,hz9⟩:=Option.isSome_iff_exists.1 (some_at 9 (by omega));have wz9:=wt 9 z9 hz9;rw[hz9] at e9;obtain⟨x9,d9,w9⟩:=V1a (y:=some z9) Tryz.underlying5 rfl e9;have c9:=O0a (i:=55) d9;have e10:=hel 10 _ rfl;change DataW.trod enc Tryz.prog W 0 (λ_=>true) true m 5 ((l.drop 56).take (Tryz.prog.cellsOf 5))=xs[10]? at e10
 rw[show Tryz.prog.cellsOf 5=1 from by kernel_rfl] at e10;obtain⟨z10,hz10⟩:=Option.isSome_iff_exists.1 (some_at 10 (by omega));have wz10:=wt 10 z10 hz10;rw[hz10] at e10;obtain⟨x10,d10,w10⟩:=V1a (y:=some z10) Tryz.underlying5 rfl e10;have c10:=O0a (i:=56) d10;have e11:=hel 11 _ rfl;change DataW.trod enc Tryz.prog W 0 (λ_=>true) true m 25 ((l.drop 57).take (Tryz.prog.cellsOf 25))=xs[11]? at e11
 rw[show Tryz.prog.cellsOf 25=1 from by kernel_rfl] at e11;obtain⟨z11,hz11⟩:=Option.isSome_iff_exists.1 (some_at 11 (by omega));have wz11:=wt 11 z11 hz11;rw[hz11] at e11;obtain⟨x11,d11,w11⟩:=V1a (y:=some z11) Tryz.underlying25 rfl e11;have c11:=O0a (i:=57) d11;have e12:=hel 12 _ rfl;change DataW.trod enc Tryz.prog W 0 (λ_=>true) true m 9 ((l.drop 58).take (Tryz.prog.cellsOf 9))=xs[12]? at e12
 rw[show Tryz.prog.cellsOf 9=1 from by kernel_rfl] at e12;obtain⟨z12,hz12⟩:=Option.isSome_iff_exists.1 (some_at 12 (by omega));have wz12:=wt 12 z12 hz12;rw[hz12] at e12;obtain⟨x12,d12,q12,_⟩:=DataW.trod_string Tryz.underlying9 e12;have c12:=O0a (i:=58) d12;have k12:x12.size<=1048576:=by
  rw[q12] at wz12;simp only[Rows.uptoBulk] at wz12;have:x12.data.toList.length=x12.size:=by rw[Array.length_toList];rfl
  omega
 have e13:=hel 13 _ rfl;change DataW.trod enc Tryz.prog W 0 (λ_=>true) true m 25 ((l.drop 59).take (Tryz.prog.cellsOf 25))=xs[13]? at e13
 rw[show Tryz.prog.cellsOf 25=1 from by kernel_rfl] at e13;obtain⟨z13,hz13⟩:=Option.isSome_iff_exists.1 (some_at 13 (by omega));have wz13:=wt 13 z13 hz13;rw[hz13] at e13;obtain⟨x13,d13,w13⟩:=V1a (y:=some z13) Tryz.underlying25 rfl e13;have c13:=O0a (i:=59) d13;have e14:=hel 14 _ rfl;change DataW.trod enc Tryz.prog W 0 (λ_=>true) true m 23 ((l.drop 60).take (Tryz.prog.cellsOf 23))=xs[14]? at e14
 rw[show Tryz.prog.cellsOf 23=1 from by kernel_rfl] at e14;obtain⟨z14,hz14⟩:=Option.isSome_iff_exists.1 (some_at 14 (by omega));have wz14:=wt 14 z14 hz14;rw[hz14] at e14;obtain⟨x14,d14,w14⟩:=V1a (y:=some z14) Tryz.underlying23 rfl e14;have c14:=O0a (i:=60) d14;have e15:=hel 15 _ rfl;change DataW.trod enc Tryz.prog W 0 (λ_=>true) true m 31 ((l.drop 61).take (Tryz.prog.cellsOf 31))=xs[15]? at e15
 rw[show Tryz.prog.cellsOf 31=1 from by kernel_rfl] at e15;obtain⟨z15,hz15⟩:=Option.isSome_iff_exists.1 (some_at 15 (by omega));have wz15:=wt 15 z15 hz15;rw[hz15] at e15;obtain⟨A15,n15,k15,s15,d15,l15,b15,h15,w15⟩:=Y9a Tryz.underlying31 Tryz.underlying5 (by kernel_rfl) e15;have c15:=O0a (i:=61) d15;have e16:=hel 16 _ rfl;change DataW.trod enc Tryz.prog W 0 (λ_=>true) true m 32 ((l.drop 62).take (Tryz.prog.cellsOf 32))=xs[16]? at e16
 rw[show Tryz.prog.cellsOf 32=1 from by kernel_rfl] at e16;obtain⟨z16,hz16⟩:=Option.isSome_iff_exists.1 (some_at 16 (by omega));have wz16:=wt 16 z16 hz16;rw[hz16] at e16;obtain⟨A16,n16,k16,s16,d16,l16,b16,h16,w16⟩:=h6b (f:=P0a) (s:=4) (ok:=m2a.ok) Tryz.underlying32 (by kernel_rfl) (by omega) u4a i6b e16;have c16:=O0a (i:=62) d16;have e17:=hel 17 _ rfl;change DataW.trod enc Tryz.prog W 0 (λ_=>true) true m 22 ((l.drop 63).take (Tryz.prog.cellsOf 22))=xs[17]? at e17
 rw[show Tryz.prog.cellsOf 22=1 from by kernel_rfl] at e17;obtain⟨z17,hz17⟩:=Option.isSome_iff_exists.1 (some_at 17 (by omega));have wz17:=wt 17 z17 hz17;rw[hz17] at e17;obtain⟨x17,d17,w17⟩:=V1a (y:=some z17) Tryz.underlying22 rfl e17;have c17:=O0a (i:=63) d17;have e18:=hel 18 _ rfl;change DataW.trod enc Tryz.prog W 0 (λ_=>true) true m 9 ((l.drop 64).take (Tryz.prog.cellsOf 9))=xs[18]? at e18
 rw[show Tryz.prog.cellsOf 9=1 from by kernel_rfl] at e18;obtain⟨z18,hz18⟩:=Option.isSome_iff_exists.1 (some_at 18 (by omega));have wz18:=wt 18 z18 hz18;rw[hz18] at e18;obtain⟨x18,d18,q18,_⟩:=DataW.trod_string Tryz.underlying9 e18;have c18:=O0a (i:=64) d18;have k18:x18.size<=1048576:=by
  rw[q18] at wz18;simp only[Rows.uptoBulk] at wz18;have:x18.data.toList.length=x18.size:=by rw[Array.length_toList];rfl
  omega
 have e19:=hel 19 _ rfl;change DataW.trod enc Tryz.prog W 0 (λ_=>true) true m 9 ((l.drop 65).take (Tryz.prog.cellsOf 9))=xs[19]? at e19
 rw[show Tryz.prog.cellsOf 9=1 from by kernel_rfl] at e19;obtain⟨z19,hz19⟩:=Option.isSome_iff_exists.1 (some_at 19 (by omega));have wz19:=wt 19 z19 hz19;rw[hz19] at e19;obtain⟨x19,d19,q19,_⟩:=DataW.trod_string Tryz.underlying9 e19;have c19:=O0a (i:=65) d19;have k19:x19.size<=1048576:=by
  rw[q19] at wz19;simp only[Rows.uptoBulk] at wz19;have:x19.data.toList.length=x19.size:=by rw[Array.length_toList];rfl
  omega
 have e20:=hel 20 _ rfl;change DataW.trod enc Tryz.prog W 0 (λ_=>true) true m 22 ((l.drop 66).take (Tryz.prog.cellsOf 22))=xs[20]? at e20
 rw[show Tryz.prog.cellsOf 22=1 from by kernel_rfl] at e20;obtain⟨z20,hz20⟩:=Option.isSome_iff_exists.1 (some_at 20 (by omega));have wz20:=wt 20 z20 hz20;rw[hz20] at e20;obtain⟨x20,d20,w20⟩:=V1a (y:=some z20) Tryz.underlying22 rfl e20;have c20:=O0a (i:=66) d20;have e21:=hel 21 _ rfl;change DataW.trod enc Tryz.prog W 0 (λ_=>true) true m 25 ((l.drop 67).take (Tryz.prog.cellsOf 25))=xs[21]? at e21
 rw[show Tryz.prog.cellsOf 25=1 from by kernel_rfl] at e21;obtain⟨z21,hz21⟩:=Option.isSome_iff_exists.1 (some_at 21 (by omega));have wz21:=wt 21 z21 hz21;rw[hz21] at e21;obtain⟨x21,d21,w21⟩:=V1a (y:=some z21) Tryz.underlying25 rfl e21;have c21:=O0a (i:=67) d21;have e22:=hel 22 _ rfl;change DataW.trod enc Tryz.prog W 0 (λ_=>true) true m 4 ((l.drop 68).take (Tryz.prog.cellsOf 4))=xs[22]? at e22
 rw[show Tryz.prog.cellsOf 4=1 from by kernel_rfl] at e22;obtain⟨z22,hz22⟩:=Option.isSome_iff_exists.1 (some_at 22 (by omega));have wz22:=wt 22 z22 hz22;rw[hz22] at e22;obtain⟨x22,d22,_⟩:=DataW.trod_bool Tryz.underlying4 e22;have c22:=O0a (i:=68) d22;refine⟨⟨s0.take n0,s1,s2,x3,x4,x5,x6,x7,x8,x9,x10,x11,x12,x13,x14,s15.take n15,s16.take n16,x17,x18,x19,x20,x21,x22⟩,⟨λy hy=>U1a (w0 y (List.mem_of_mem_take hy)),t1,λy hy=>u1a (w1 y hy),t2,λy hy=>u1a (w2 y hy),O1a w5,O1a w6,O1a w7,O1a w8,u1a w9,u1a w10,P1a w11,P1a w13,O1a w14,λy hy=>u1a (w15 y (List.mem_of_mem_take hy)),λy hy=>w16 y (List.mem_of_mem_take hy),U1a w17,U1a w20,P1a w21⟩,⟨A0,n0,k0,A15,n15,k15,A16,n16,k16,?_,h0.head l0,(G0b h15 (by omega) (λy hy=>u1a (w15 y hy))).head l15,h16.head l16⟩,by simp;omega,by simp;omega,by simp;omega,k3,k4,k12,k18,k19⟩;have c:=c0;rw[List.drop_zero] at c;rw[c,c1,c2,c3,c4,c5,c6,c7,c8,c9,c10,c11,c12,c13,c14,c15,c16,c17,c18,c19,c20,c21,c22,List.drop_of_length_le (by omega)];rfl
theorem k6b{fuel:Nat}{l:List Value}{x:DataW H×List MemPlace}(hf:DataW.trod enc Tryz.prog W 0 (λ_=>true) true fuel 39 l=some x)(hu:Rows.uptoBulk x.1<=1048577):∃a:E1a,a.ok/\f1a W W.heap.size l a/\a.data.length<=1048576/\a.ents.length<=1048576/\∀e∈a.ents,e.name.size<=1048576:=by
 obtain⟨d,p⟩:=x;change Rows.uptoBulk d<=_ at hu
 have htot:Tryz.prog.cellsOf 39=20:=by kernel_rfl
 obtain⟨xs,m,_,hd,hl,hx,hel⟩:=DataW.trod_struct Tryz.underlying39 hf;have hxl:xs.length=13:=hx;have some_at:∀i,i<13->(xs[i]?).isSome=true:=λi hi=>by simp[hxl,hi]
 have hdd:d=.agg (xs.map (·.1)):=by injection hd
 have wt:∀(i:Nat) (z:DataW H×List MemPlace),xs[i]? = some z->Rows.uptoBulk z.1<Rows.uptoBulk d:=λi z hz=>by rw[hdd];exact g9a (List.mem_map.2 ⟨z,List.mem_of_getElem? hz,rfl⟩)
 rw[htot] at hl;have e0:=hel 0 _ rfl;change DataW.trod enc Tryz.prog W 0 (λ_=>true) true m 22 ((l.drop 0).take (Tryz.prog.cellsOf 22))=xs[0]? at e0
 rw[show Tryz.prog.cellsOf 22=1 from by kernel_rfl] at e0;obtain⟨z0,hz0⟩:=Option.isSome_iff_exists.1 (some_at 0 (by omega));have wz0:=wt 0 z0 hz0;rw[hz0] at e0;obtain⟨x0,d0,w0⟩:=V1a (y:=some z0) Tryz.underlying22 rfl e0;have c0:=O0a (i:=0) d0;have e1:=hel 1 _ rfl;change DataW.trod enc Tryz.prog W 0 (λ_=>true) true m 25 ((l.drop 1).take (Tryz.prog.cellsOf 25))=xs[1]? at e1
 rw[show Tryz.prog.cellsOf 25=1 from by kernel_rfl] at e1;obtain⟨z1,hz1⟩:=Option.isSome_iff_exists.1 (some_at 1 (by omega));have wz1:=wt 1 z1 hz1;rw[hz1] at e1;obtain⟨x1,d1,w1⟩:=V1a (y:=some z1) Tryz.underlying25 rfl e1;have c1:=O0a (i:=1) d1;have e2:=hel 2 _ rfl;change DataW.trod enc Tryz.prog W 0 (λ_=>true) true m 35 ((l.drop 2).take (Tryz.prog.cellsOf 35))=xs[2]? at e2
 rw[show Tryz.prog.cellsOf 35=8 from by kernel_rfl] at e2;obtain⟨z2,hz2⟩:=Option.isSome_iff_exists.1 (some_at 2 (by omega));have wz2:=wt 2 z2 hz2;rw[hz2] at e2;obtain⟨s2,d2,w2⟩:=y1b Tryz.underlying35 Tryz.underlying5 (by kernel_rfl) (by simp;omega) e2;have t2:s2.length=8:=by have:=congrArg List.length d2;simp at this;omega
 have c2:l.drop 2=s2.map (Value.int .u8)++l.drop 10:=by rw[<-d2,show l.drop 10=(l.drop 2).drop 8 from by rw[List.drop_drop]];exact(List.take_append_drop _ _).symm
 have e3:=hel 3 _ rfl;change DataW.trod enc Tryz.prog W 0 (λ_=>true) true m 5 ((l.drop 10).take (Tryz.prog.cellsOf 5))=xs[3]? at e3
 rw[show Tryz.prog.cellsOf 5=1 from by kernel_rfl] at e3;obtain⟨z3,hz3⟩:=Option.isSome_iff_exists.1 (some_at 3 (by omega));have wz3:=wt 3 z3 hz3;rw[hz3] at e3;obtain⟨x3,d3,w3⟩:=V1a (y:=some z3) Tryz.underlying5 rfl e3;have c3:=O0a (i:=10) d3;have e4:=hel 4 _ rfl;change DataW.trod enc Tryz.prog W 0 (λ_=>true) true m 5 ((l.drop 11).take (Tryz.prog.cellsOf 5))=xs[4]? at e4
 rw[show Tryz.prog.cellsOf 5=1 from by kernel_rfl] at e4;obtain⟨z4,hz4⟩:=Option.isSome_iff_exists.1 (some_at 4 (by omega));have wz4:=wt 4 z4 hz4;rw[hz4] at e4;obtain⟨x4,d4,w4⟩:=V1a (y:=some z4) Tryz.underlying5 rfl e4;have c4:=O0a (i:=11) d4;have e5:=hel 5 _ rfl;change DataW.trod enc Tryz.prog W 0 (λ_=>true) true m 22 ((l.drop 12).take (Tryz.prog.cellsOf 22))=xs[5]? at e5
 rw[show Tryz.prog.cellsOf 22=1 from by kernel_rfl] at e5;obtain⟨z5,hz5⟩:=Option.isSome_iff_exists.1 (some_at 5 (by omega));have wz5:=wt 5 z5 hz5;rw[hz5] at e5;obtain⟨x5,d5,w5⟩:=V1a (y:=some z5) Tryz.underlying22 rfl e5;have c5:=O0a (i:=12) d5;have e6:=hel 6 _ rfl;change DataW.trod enc Tryz.prog W 0 (λ_=>true) true m 25 ((l.drop 13).take (Tryz.prog.cellsOf 25))=xs[6]? at e6
 rw[show Tryz.prog.cellsOf 25=1 from by kernel_rfl] at e6;obtain⟨z6,hz6⟩:=Option.isSome_iff_exists.1 (some_at 6 (by omega));have wz6:=wt 6 z6 hz6;rw[hz6] at e6;obtain⟨x6,d6,w6⟩:=V1a (y:=some z6) Tryz.underlying25 rfl e6;have c6:=O0a (i:=13) d6;have e7:=hel 7 _ rfl;change DataW.trod enc Tryz.prog W 0 (λ_=>true) true m 36 ((l.drop 14).take (Tryz.prog.cellsOf 36))=xs[7]? at e7
 rw[show Tryz.prog.cellsOf 36=1 from by kernel_rfl] at e7;obtain⟨z7,hz7⟩:=Option.isSome_iff_exists.1 (some_at 7 (by omega));have wz7:=wt 7 z7 hz7;rw[hz7] at e7;obtain⟨x7,d7,w7⟩:=V1a (y:=some z7) Tryz.underlying36 rfl e7;have c7:=O0a (i:=14) d7;have e8:=hel 8 _ rfl;change DataW.trod enc Tryz.prog W 0 (λ_=>true) true m 31 ((l.drop 15).take (Tryz.prog.cellsOf 31))=xs[8]? at e8
 rw[show Tryz.prog.cellsOf 31=1 from by kernel_rfl] at e8;obtain⟨z8,hz8⟩:=Option.isSome_iff_exists.1 (some_at 8 (by omega));have wz8:=wt 8 z8 hz8;rw[hz8] at e8;obtain⟨A8,n8,k8,s8,d8,l8,b8,h8,w8⟩:=Y9a Tryz.underlying31 Tryz.underlying5 (by kernel_rfl) e8;have c8:=O0a (i:=15) d8;have e9:=hel 9 _ rfl;change DataW.trod enc Tryz.prog W 0 (λ_=>true) true m 23 ((l.drop 16).take (Tryz.prog.cellsOf 23))=xs[9]? at e9
 rw[show Tryz.prog.cellsOf 23=1 from by kernel_rfl] at e9;obtain⟨z9,hz9⟩:=Option.isSome_iff_exists.1 (some_at 9 (by omega));have wz9:=wt 9 z9 hz9;rw[hz9] at e9;obtain⟨x9,d9,w9⟩:=V1a (y:=some z9) Tryz.underlying23 rfl e9;have c9:=O0a (i:=16) d9;have e10:=hel 10 _ rfl;change DataW.trod enc Tryz.prog W 0 (λ_=>true) true m 37 ((l.drop 17).take (Tryz.prog.cellsOf 37))=xs[10]? at e10
 rw[show Tryz.prog.cellsOf 37=1 from by kernel_rfl] at e10;obtain⟨z10,hz10⟩:=Option.isSome_iff_exists.1 (some_at 10 (by omega));have wz10:=wt 10 z10 hz10;rw[hz10] at e10;obtain⟨A10,n10,k10,s10,d10,l10,b10,h10,w10,g10⟩:=l3b (g:=λy=>y.name.size) (f:=J0a) (s:=3) (ok:=s1a.ok) Tryz.underlying37 (by kernel_rfl) (by omega) Y3a r2b e10;have c10:=O0a (i:=17) d10;have e11:=hel 11 _ rfl;change DataW.trod enc Tryz.prog W 0 (λ_=>true) true m 4 ((l.drop 18).take (Tryz.prog.cellsOf 4))=xs[11]? at e11
 rw[show Tryz.prog.cellsOf 4=1 from by kernel_rfl] at e11;obtain⟨z11,hz11⟩:=Option.isSome_iff_exists.1 (some_at 11 (by omega));have wz11:=wt 11 z11 hz11;rw[hz11] at e11;obtain⟨x11,d11,_⟩:=DataW.trod_bool Tryz.underlying4 e11;have c11:=O0a (i:=18) d11;have e12:=hel 12 _ rfl;change DataW.trod enc Tryz.prog W 0 (λ_=>true) true m 4 ((l.drop 19).take (Tryz.prog.cellsOf 4))=xs[12]? at e12
 rw[show Tryz.prog.cellsOf 4=1 from by kernel_rfl] at e12;obtain⟨z12,hz12⟩:=Option.isSome_iff_exists.1 (some_at 12 (by omega));have wz12:=wt 12 z12 hz12;rw[hz12] at e12;obtain⟨x12,d12,_⟩:=DataW.trod_bool Tryz.underlying4 e12;have c12:=O0a (i:=19) d12;refine⟨⟨x0,x1,s2,x3,x4,x5,x6,x7,s8.take n8,x9,s10.take n10,x11,x12⟩,⟨U1a w0,P1a w1,t2,λy hy=>u1a (w2 y hy),u1a w3,u1a w4,U1a w5,P1a w6,u1a w7,λy hy=>u1a (w8 y (List.mem_of_mem_take hy)),O1a w9,λy hy=>w10 y (List.mem_of_mem_take hy)⟩,⟨A8,n8,k8,A10,n10,k10,?_,(G0b h8 (by omega) (λy hy=>u1a (w8 y hy))).head l8,h10.head l10⟩,by simp;omega,by simp;omega,λy hy=>by have:=g10 y (List.mem_of_mem_take hy);omega⟩;have c:=c0;rw[List.drop_zero] at c;rw[c,c1,c2,c3,c4,c5,c6,c7,c8,c9,c10,c11,c12,List.drop_of_length_le (by omega)];rfl
structure c9b (m:A5a):Prop where
 al:m.a.dial.length<=1048576/\m.a.data.length<=1048576/\m.a.locks.length<=1048576
 at_:m.a.user.size<=1048576/\m.a.share.size<=1048576/\m.a.name.size<=1048576/\m.a.pat.size<=1048576/\m.a.aft.size<=1048576
 sl:m.s.data.length<=1048576/\m.s.ents.length<=1048576/\∀e∈m.s.ents,e.name.size<=1048576
theorem p7b(hv:Value.okWide Tryz.prog W .any base 41 v)(hk:DataW.Trod enc Tryz.prog W 0 (λ_=>true) true 41 v d p)(hu:Rows.uptoBulk d<=1048577):∃(cs:List Value) (m:A5a),v=.agg cs.toArray/\m.ok/\V3a W W.heap.size cs m/\c9b m:=by
 obtain⟨cs,rfl,hsz,_⟩:∃cs,v=.agg cs/\cs.size=Tryz.prog.cellsOf 41/\Row.okWide Tryz.prog W .any base 41 cs:=by simpa[Value.okWide,Tryz.underlying41] using hv
 have htot:Tryz.prog.cellsOf 41=115:=by kernel_rfl
 obtain⟨fuel,hf⟩:=hk;obtain⟨xs,n,_,hd,hl,hx,hel⟩:=DataW.trod_struct Tryz.underlying41 hf;have hxl:xs.length=3:=hx;have some_at:∀i,i<3->(xs[i]?).isSome=true:=λi hi=>by simp[hxl,hi]
 have hdd:d=.agg (xs.map (·.1)):=by injection hd
 have wt:∀(i:Nat) (z:DataW H×List MemPlace),xs[i]? = some z->Rows.uptoBulk z.1<Rows.uptoBulk d:=λi z hz=>by rw[hdd];exact g9a (List.mem_map.2 ⟨z,List.mem_of_getElem? hz,rfl⟩)
 have hcl:(Value.agg cs).cells.toList=cs.toList:=rfl;rw[hcl] at hel hl;obtain⟨l,hll⟩:∃l,l=cs.toList:=⟨_,rfl⟩;rw[<-hll] at hel hl;rw[htot] at hl;have e0:=hel 0 _ rfl;change DataW.trod enc Tryz.prog W 0 (λ_=>true) true n 28 ((l.drop 0).take (Tryz.prog.cellsOf 28))=xs[0]? at e0
 rw[show Tryz.prog.cellsOf 28=26 from by kernel_rfl] at e0;obtain⟨z0,hz0⟩:=Option.isSome_iff_exists.1 (some_at 0 (by omega));rw[hz0] at e0;obtain⟨h,hok,hh⟩:=z4b e0;have e1:=hel 1 _ rfl;change DataW.trod enc Tryz.prog W 0 (λ_=>true) true n 34 ((l.drop 26).take (Tryz.prog.cellsOf 34))=xs[1]? at e1
 rw[show Tryz.prog.cellsOf 34=69 from by kernel_rfl] at e1;obtain⟨z1,hz1⟩:=Option.isSome_iff_exists.1 (some_at 1 (by omega));have wz1:=wt 1 z1 hz1;rw[hz1] at e1;obtain⟨a,aok,hA,a1,a2,a3,a4⟩:=j6b e1 (by omega);have e2:=hel 2 _ rfl;change DataW.trod enc Tryz.prog W 0 (λ_=>true) true n 39 ((l.drop 95).take (Tryz.prog.cellsOf 39))=xs[2]? at e2
 rw[show Tryz.prog.cellsOf 39=20 from by kernel_rfl] at e2;obtain⟨z2,hz2⟩:=Option.isSome_iff_exists.1 (some_at 2 (by omega));have wz2:=wt 2 z2 hz2;rw[hz2] at e2;obtain⟨s,sok,hS,s1,s2,s3⟩:=k6b e2 (by omega);refine⟨l,⟨h,a,s⟩,by rw[hll],⟨hok,aok,sok⟩,⟨_,_,?_,hA,hS⟩,⟨⟨a1,a2,a3⟩,a4,s1,s2,s3⟩⟩;have h95:(l.drop 95).take 20=l.drop 95:=List.take_of_length_le (by simp;omega);rw[<-hh,h95,List.drop_zero,show l.drop 95=(l.drop 26).drop 69 from by rw[List.drop_drop],List.take_append_drop,List.take_append_drop]
end
theorem c9b.fitP{m:A5a}(h:c9b m):k9b m.a/\l9b m.s/\U5b m/\m9b m:=by
 obtain⟨⟨h1,h2,h3⟩,⟨h4,h5,h6,h7,h8⟩,h9,h10,h11⟩:=h;exact⟨⟨⟨by omega,by omega⟩,⟨by omega,by omega,by omega⟩,by omega⟩,⟨by omega,λe he=>by have:=h11 e he;omega⟩,⟨⟨by omega,by omega,by omega⟩,by omega,by omega⟩,
  ⟨by omega,by omega,by omega⟩,⟨by omega,by omega⟩,⟨by omega,by omega,by omega⟩,⟨by omega,by omega⟩,λe he=>by have:=h11 e he;omega⟩
theorem walk_MsgPuts(W:World)(hT:f7a W)(cs0:List Value)(a0:A5a)(k0h:a0.ok)(h0h:V3a W W.heap.size cs0 a0)(b0:c9b a0) :
  Calls Tryz.prog 3 #[.agg cs0.toArray] W λe W'=>e=.returned (.bool true)/\Below W.heap.size W W':=by
 have HT:=hI hT;have HL:=hI (h0h.len k0h);have HA:=hI h0h;have KM:=hI k0h;obtain⟨fa,fs,sm,rm⟩:=b0.fitP;have HYB:=hI (a7b k0h);have HYL:=hI (V8b k0h);have CC:Hid (∀w:World,Below W.heap.size W w->Calls Tryz.prog 7 #[.agg cs0.toArray] w λe w'=>∃ds:List Value,e=.returned (.agg ds.toArray)/\V3a w' w'.heap.size ds a0/\Below w.heap.size w w'):=λw hb=>Y5b w cs0 a0 k0h (h0h.over hb) ⟨by have:=b0.al;omega,by have:=b0.al;omega,by have:=b0.al;omega⟩ ⟨by have:=b0.sl;omega,by have:=b0.sl;omega⟩
 have CP:Hid (∀(w:World) (ds:List Value),V3a w w.heap.size ds a0->f7a w->Calls Tryz.prog 8 #[.agg ds.toArray] w λe w'=>∃v,e=.returned (.tuple #[v,.int .i64 (Z5a a0)])/\M5a w' w.heap.size v (i1b a0)/\Below w.heap.size w w'):=λw ds hd hT=>b7b w a0 ds k0h hd fa fs hT
 have RP:Hid (∀(w:World) (ds:List Value),V3a w w.heap.size ds a0->Calls Tryz.prog 9 #[.agg ds.toArray] w λe w'=>∃v,e=.returned (.tuple #[v,.int .i64 (Z5a a0)])/\Own w' w.heap.size v (i1b a0)/\Below w.heap.size w w'):=λw ds hd=>g6b w a0 ds k0h hd rm
 have CL:Hid (∀w:World,f7a w->Calls Tryz.prog 12 #[] w λe w'=>e=.returned (.bool true)/\Below w.heap.size w w'):=t4b;have ZM:=hI a9a;have HZ:=hI z3a;have CQ:Hid (∀(w:World) (ds:List Value),V3a w w.heap.size ds a0->V3a w w.heap.size cs0 a0->Calls Tryz.prog 11 #[.agg ds.toArray,.agg cs0.toArray] w λe w'=>e=.returned (.bool true)/\Below w.heap.size w w'):=λw ds h1 h2=>by have h3:=h2b w ds cs0 a0 a0 k0h k0h h1 h2 sm sm;simpa using h3
 have CS:Hid (∀(w:World) (A A':Option Addr) (n c n' c':Nat),Holds w w.heap.size A n c (i1b a0)->Holds w w.heap.size A' n' c' (i1b a0)->Calls Tryz.prog 10 #[.slice A n c,.slice A' n' c'] w λe w'=>e=.returned (.bool true)/\∃k,w.drewN k=w'):=λw A A' n c n' c' h1 h2=>by
  have h3:=S0b w _ _ _ _ _ _ _ _ (i1b a0) (i1b a0) h1 h2
  rwa [decide_eq_true rfl] at h3
 obtain⟨ys,hys⟩:∃x,x=i1b a0:=⟨_,rfl⟩;rw[<-hys] at CP RP HYB HYL CS;obtain⟨er,her⟩:∃x,x=Z5a a0:=⟨_,rfl⟩;rw[<-her] at CP RP;have t1:(er==er)=true:=by simp
 obtain⟨zm,hzm⟩:∃x,x=L1a:=⟨_,rfl⟩;rw[<-hzm] at ZM HZ;clear hzm hys her sm fs fa rm hT h0h b0 k0h;go_enter Tryz.func3,Tryz.ntmps3;go_wp2_with(first
  | ((with_reducible refine sN 1 ?_);refine a0a rfl _ (.tmp 0) rfl cs0 rfl ?_;intro g v0 hg1 hg2 K0 M0)
  | ((with_reducible refine sN 8 ?_);refine d0a rfl _ (.tmp 1) rfl g rfl _ cs0 K0 115 _ Tryz.underlying41 rfl J1a HL ?_)
  | fail)
 refine(CC.out v0 M0.out).mono ?_;rintro e p1 ⟨pds,rfl,hd,L1⟩;have pD1:=hI hd;have pDL:=hI (hd.len KM.out);have pDO:=hI hd.one;have pM1:=hI (step M0.out L1);have pK1:=hI (K0.out.over L1);clear hd L1 CC;go_wp2_with(first
  | ((with_reducible refine sN 3 ?_);refine b0a rfl _ rfl zm _ ZM ?_;intro px p2 hg5 hg6 pZ2 pL2)
  | ((with_reducible refine sT 3 ?_);refine e0a rfl _ (.tmp 3) (.tmp 9) rfl px rfl _ zm pds rfl pZ2 115 J1a HZ pDL pDO ?_;intro p3 pX3 pO3 hg7;have pL3:=hI (c0a pL2.out pO3.out hg5);have pM3:=hI (step pM1.out pL3.out);have pD3:=hI (pD1.out.over pL3.out);have pK3:=hI (pK1.out.over pL3.out))
  | ((with_reducible refine sN 11 ?_);refine d0a rfl _ (.tmp 3) rfl px rfl _ pds pX3 115 _ Tryz.underlying41 rfl J1a pDL ?_)
  | fail)
 refine(CP.out p3 pds pD3.out (HT.out.below pM3.out)).mono ?_;rintro e p4 ⟨u4,rfl,ho4,L4⟩;obtain⟨A4,c4,rfl,hh4⟩:=ho4.holds8 HYB.out (by have:=HYL.out;omega);have pH4:=hI hh4;have pB4:=hI L4;have pM4:=hI (step pM3.out L4);have pK4:=hI (pK3.out.over L4);clear hh4 ho4 L4 CP pZ2 pL2 pO3 pL3 pM1 pK1 pD1;go_wp2_with(first
  | ((with_reducible refine sN 16 ?_);refine d0a rfl _ (.tmp 1) rfl g rfl _ cs0 pK4 115 _ Tryz.underlying41 rfl J1a HL ?_)
  | fail)
 refine(RP.out p4 cs0 (HA.out.over pM4.out)).mono ?_;rintro e p5 ⟨u5,rfl,ho5,L5⟩;obtain⟨A5,c5,rfl,hh5⟩:=ho5.holds HYB.out (by have:=HYL.out;omega);have pD5:=hI (CS.out _ _ _ _ _ _ _ (pH4.out.over L5) hh5);have pB5:=hI (step pB4.out L5);have pM5:=hI (step pM4.out L5);have pK5:=hI (pK4.out.over L5);clear hh5 ho5 L5 RP pH4 pB4 pM4 pK4 CS;go_wp2_with fail;refine pD5.out.mono ?_;rintro e p6 ⟨rfl,k6,rfl⟩;obtain⟨p6,hv6⟩:∃v,v=p5.drewN k6:=⟨_,rfl⟩;have pB6:Hid (Below p3.heap.size p3 p6):=by rw[hv6];exact step pB5.out (b6a _ _)
 have pM6:Hid (Below W.heap.size W p6):=by rw[hv6];exact step pM5.out (b6a _ _)
 have pK6:Hid (Blk p6 g 41 cs0):=by rw[hv6];exact pK5.out
 rw[<-hv6];clear hv6 pD5 pB5 pM5 pK5;have pX6:=hI (pX3.out.over pB6.out);go_wp2_with fail;refine wp_load_row 41 (.tmp 3) rfl px rfl _ _ (0,0) _ pX6.out Tryz.underlying41 rfl (by rw[J1a];have:=pDL.out;simp[this]) ?_;go_wp2_with fail;refine wp_load_row 41 (.tmp 1) rfl g rfl _ _ (0,0) _ pK6.out Tryz.underlying41 rfl (by rw[J1a];have:=HL.out;simp[this]) ?_;go_wp2_with fail;refine(CQ.out p6 pds (pD3.out.over pB6.out) (HA.out.over pM6.out)).mono ?_;rintro e p7 ⟨rfl,L7⟩;have pM7:=hI (step pM6.out L7);clear L7;go_wp2_with fail;refine(CL.out _ (HT.out.below pM7.out)).mono ?_;rintro e p8 ⟨rfl,L8⟩;go_wp2;go_ret;exact⟨rfl,step pM7.out L8⟩
open Go.RowKit Go.Shelf
theorem A4b:(Rows.laid_unicode_utf8_first:DataW Unit)=Lib.firstData:=by kernel_rfl
theorem m3b:(Rows.laid_unicode_utf8_acceptRanges:DataW Unit)=Lib.acceptData:=by kernel_rfl
theorem s2b{W:World}(hL:laidMetH Tryz.prog [("unicode/utf8.acceptRanges",Rows.laid_unicode_utf8_acceptRanges),("unicode/utf8.first",Rows.laid_unicode_utf8_first)] W):f7a W:=by rw[A4b,m3b] at hL;exact utf8Tabs_of_readsT (U8Types.of196 Tryz.lays196) ⟨by kernel_rfl,by kernel_rfl,by kernel_rfl,by kernel_rfl,by kernel_rfl,by kernel_rfl,by kernel_rfl⟩ (Lib.laidMet.reads hL (.tail _ (.head _))) (Lib.laidMet.reads hL (.head _))
noncomputable def Z9a (os:Os):World:=
 let w0:=World.holding Tryz.prog os ⟨#[],#[],[]⟩
 let put (h:Array Obj) (g:Nat) (cs:Array Value):Array Obj:=h.modify g fun
  | .cells _ t frozen=>.cells cs t frozen
  | o=>o
 let h1:=put w0.heap 0 (Lib.firstTab.map λz=>Value.int .u8 z).toArray
 let h2:=put h1 1 ((List.range 16).flatMap λi=>[Value.int .u8 (Lib.accLo i),Value.int .u8 (Lib.accHi i)]).toArray
 { w0 with heap:=h2 }
theorem q7b(os:Os)(args:Array Value):laidMet Tryz.prog [("unicode/utf8.acceptRanges",Rows.laid_unicode_utf8_acceptRanges),("unicode/utf8.first",Rows.laid_unicode_utf8_first)] ((Z9a os).forCall (λ_ _=>0) ⟨#[],args,[]⟩).memory:=laidMet_of_run' 8 (by kernel_rfl) (by kernel_rfl)
end Go.Proofs.YtgfflnjggnadpaaGreatDoor
