import Derived.Deep.OwnRows
import Derived.Test.YtjpcifmeimcikaaGreatDoorSAC
import Derived.Test.YtjpcifmeimcikaaGreatDoorS0
set_option linter.all false
set_option maxHeartbeats 8000000
set_option maxRecDepth 100000
namespace Go.Proofs.YtjpcifmeimcikaaGreatDoor
open Go.Proofs.Tryz
open Go.RowKit
set_option maxRecDepth 100000
structure Fr (N x0:Nat) (pv:Value) (a:Act):Prop where
 size:a.tmps.size=N
 df:a.defers=[]
 ptr:a.eval (.tmp x0)=pv
section
variable {P:Program} {ops:Array Oper} {rest:List Oper} {o:Oper} {a:Act} {w:World} {Q:Exit->Act->World->Prop} {N x0:Nat} {pv v:Value}
theorem K4a{d:Nat}(h:d<a.tmps.size):(a.put (some d) v).eval (.tmp d)=v:=by simp[Act.put,Act.eval,h]
theorem O5b{d t:Nat}(h:d≠t):(a.put (some d) v).eval (.tmp t)=a.eval (.tmp t):=by simp[Act.put,Act.eval,Array.getElem?_setIfInBounds_ne h]
theorem Fr.put{d:Nat}(h:Fr N x0 pv a)(hd:d≠x0):Fr N x0 pv (a.put (some d) v):=⟨by simp[Act.put,h.size],by simp[Act.put,h.df],by rw[O5b hd];exact h.ptr⟩
theorem x4c{d:Nat}(h:d<a.tmps.size):(a.put (some d) v).tmps[d]? = some v:=by simp[Act.put,h]
theorem x1b{d t:Nat}(h:d≠t):(a.put (some d) v).tmps[t]? = a.tmps[t]?:=by simp[Act.put,Array.getElem?_setIfInBounds_ne h]
theorem eval_at{t:Nat}{u:Value}(h:a.tmps[t]? = some u):a.eval (.tmp t)=u:=by simp[Act.eval,h]
theorem w9a{gi m:Nat}{b:Bool}(hgd:o.guard=some (gi,true))(hgi:(ops[gi]?.bind λx=>x.dst)=some m)(h:a.tmps[m]? = some (.bool b)):Region.wanted o (yielded ops a.tmps)=b:=by unfold Region.wanted yielded;rw[hgd];simp only[hgi,Option.bind_some,h];cases b<;>rfl
theorem P1a(hy:YieldsIf P ops (λw'=>w'=w) o v a)(h:wpList P ops Q rest (a.put o.dst v) w):wpList P ops Q (o::rest) a w:=
 wpList_step λK hK=>by
  rcases hy with⟨hw,hv⟩ | ⟨hw,rfl⟩
  ·rw[if_pos hw];unfold Oper.wp;rw[hv w rfl];exact hK _ _ h
  ·rw[if_neg (by rw[hw];decide)];exact hK _ _ h
theorem I5c{gi m:Nat}(hgi:(ops[gi]?.bind λx=>x.dst)=some m):∀(mids:List Oper) (a:Act),(∀o∈mids,o.guard=some (gi,true)/\∃d,o.dst=some d/\d≠x0/\d≠m)->Fr N x0 pv a->a.tmps[m]? = some (.bool false)->
  (∀a',Fr N x0 pv a'->a'.tmps[m]? = some (.bool false)->wpList P ops Q rest a' w)->wpList P ops Q (mids++rest) a w
 | [],a,_,hF,hm,h=>h a hF hm
 | o::mids,a,hs,hF,hm,h=>by obtain⟨hg,d,hd,h1,h2⟩:=hs o List.mem_cons_self;refine P1a (.inr ⟨w9a hg hgi hm,rfl⟩) ?_;rw[hd];exact I5c hgi mids _ (λo ho=>hs o (List.mem_cons_of_mem _ ho)) (hF.put h1) (by rw[x1b h2];exact hm) h
theorem chain{gi p m e q:Nat}{b t:Bool}{mids:List Oper}{o1 o5:Oper}(hgi:(ops[gi]?.bind λx=>x.dst)=some m)
(q1:o1.op=.move (.tmp p)/\o1.dst=some m/\o1.guard=none)(q5:o5.op=.pick (.tmp m) (.tmp e) (.const (.bool false))/\o5.dst=some q/\o5.guard=none)
(hn:m≠x0/\q≠x0/\m<N/\q<N)(hF:Fr N x0 pv a)(hp:a.eval (.tmp p)=.bool b)
(hs:∀o∈mids,o.guard=some (gi,true)/\∃d,o.dst=some d/\d≠x0/\d≠m)
(hmid:∀a1,Fr N x0 pv a1->a1.tmps[m]? = some (.bool true)->(∀a2,Fr N x0 pv a2->a2.tmps[m]? = some (.bool true)->a2.eval (.tmp e)=.bool t->wpList P ops Q (o5::rest) a2 w)->wpList P ops Q (mids++(o5::rest)) a1 w)
(h:∀a',Fr N x0 pv a'->a'.eval (.tmp q)=.bool (b&&t)->wpList P ops Q rest a' w):wpList P ops Q (o1::(mids++(o5::rest))) a w:=by
 obtain⟨n1,n2,n3,n4⟩:=hn;refine P1a (s0a (by simp[Region.wanted,q1.2.2]) (.tmp p) q1.1 (.bool b) hp) ?_;rw[q1.2.1];have hF1:Fr N x0 pv (a.put (some m) (.bool b)):=hF.put n1;have hm1:(a.put (some m) (.bool b)).tmps[m]? = some (.bool b):=x4c (by rw[hF.size];exact n3);cases b
 ·refine I5c hgi mids _ hs hF1 hm1 λa' hF' hm'=>?_
  refine P1a (v:=.bool false) (.inl ⟨by simp[Region.wanted,q5.2.2],λw _=>by have hc:a'.eval (.const (.bool false))=.bool false:=rfl;unfold execOp;simp[q5.1,eval_at hm',hc,asBool]⟩) ?_;rw[q5.2.1];exact h _ (hF'.put n2) (K4a (by rw[hF'.size];exact n4))
 ·refine hmid _ hF1 hm1 λa' hF' hm' he=>?_
  refine P1a (v:=.bool t) (.inl ⟨by simp[Region.wanted,q5.2.2],λw _=>by unfold execOp;simp[q5.1,eval_at hm',asBool,he]⟩) ?_;rw[q5.2.1];exact h _ (hF'.put n2) (K4a (by rw[hF'.size];exact n4))
theorem B5a{gi m f l i off g:Nat}{T ty:TypeId}{o2 o3:Oper}{tail:List Oper}(hgi:(ops[gi]?.bind λx=>x.dst)=some m)
(q2:o2.op=.fieldAddr T (.tmp x0) i/\o2.dst=some f/\o2.guard=some (gi,true))(q3:o3.op=.load ty (.tmp f)/\o3.dst=some l/\o3.guard=some (gi,true))
(hn:f≠x0/\l≠x0/\f≠m/\l≠m/\f<N/\l<N)
(hf:∀w,(Instr.fieldAt T pv i).run P w=.ok (.pointer (some ⟨g,off,none⟩)) w)
(hl:(Instr.loadAt ty (.pointer (some ⟨g,off,none⟩))).run P w=.ok v w)
(a1:Act)(hF:Fr N x0 pv a1)(hm:a1.tmps[m]? = some (.bool true))
(h:∀a2,Fr N x0 pv a2->a2.tmps[m]? = some (.bool true)->a2.eval (.tmp l)=v->wpList P ops Q tail a2 w):wpList P ops Q (o2::o3::tail) a1 w:=by
 obtain⟨n1,n2,n3,n4,n5,n6⟩:=hn;refine P1a (w0a (w9a q2.2.2 hgi hm) T (.tmp x0) i q2.1 pv _ hF.ptr hf) ?_;rw[q2.2.1];have hF2:Fr N x0 pv (a1.put (some f) (.pointer (some ⟨g,off,none⟩))):=hF.put n1;have hm2:(a1.put (some f) (.pointer (some ⟨g,off,none⟩))).tmps[m]? = some (.bool true):=by rw[x1b n3];exact hm
 refine P1a (v:=v) (.inl ⟨w9a q3.2.2 hgi hm2,λw' hw'=>by subst hw';unfold execOp;simp only[q3.1,K4a (show f<a1.tmps.size by rw[hF.size];exact n5),Sem.run_bind,hl,Result.andThen_ok,Sem.run_pure]⟩) ?_
 rw[q3.2.1];exact h _ (hF2.put n2) (by rw[x1b n4];exact hm2) (K4a (by rw[hF2.size];exact n6))
theorem b3a{gi m l e:Nat}{u:Value}{o4:Oper}{tail:List Oper}(hgi:(ops[gi]?.bind λx=>x.dst)=some m)
(q4:o4.dst=some e/\o4.guard=some (gi,true))(hn:e≠x0/\e≠m/\e<N)(a1:Act)(hF:Fr N x0 pv a1)(hm:a1.tmps[m]? = some (.bool true))
(hv:(execOp a1.eval o4).run P w=.ok (.value u) w)
(h:∀a2,Fr N x0 pv a2->a2.tmps[m]? = some (.bool true)->a2.eval (.tmp e)=u->(∀t,t≠e->a2.eval (.tmp t)=a1.eval (.tmp t))->wpList P ops Q tail a2 w):wpList P ops Q (o4::tail) a1 w:=by obtain⟨n1,n2,n3⟩:=hn;refine P1a (v:=u) (.inl ⟨w9a q4.2 hgi hm,λw' hw'=>by subst hw';exact hv⟩) ?_;rw[q4.1];exact h _ (hF.put n1) (by rw[x1b n2];exact hm) (K4a (by rw[hF.size];exact n3)) (λt ht=>O5b (Ne.symm ht))
theorem P6c{α:Type}{p:α->Prop}{x y z:α}(h1:p x)(h2:p y)(h3:p z):∀o∈[x,y,z],p o:=List.forall_mem_cons.2 ⟨h1,List.forall_mem_cons.2 ⟨h2,List.forall_mem_cons.2 ⟨h3,λ_ h=>by cases h⟩⟩⟩
theorem y5c{α:Type}{p:α->Prop}{u x y z:α}(h0:p u)(h1:p x)(h2:p y)(h3:p z):∀o∈[u,x,y,z],p o:=List.forall_mem_cons.2 ⟨h0,P6c h1 h2 h3⟩
theorem U2a{gi p m f l e q i off g:Nat}{T ty:TypeId}{b t:Bool}{v:Value}{o1 o2 o3 o4 o5:Oper}(hgi:(ops[gi]?.bind λx=>x.dst)=some m)
(q1:o1.op=.move (.tmp p)/\o1.dst=some m/\o1.guard=none)(q5:o5.op=.pick (.tmp m) (.tmp e) (.const (.bool false))/\o5.dst=some q/\o5.guard=none)
(q2:o2.op=.fieldAddr T (.tmp x0) i/\o2.dst=some f/\o2.guard=some (gi,true))(q3:o3.op=.load ty (.tmp f)/\o3.dst=some l/\o3.guard=some (gi,true))(q4:o4.dst=some e/\o4.guard=some (gi,true))
(hn:m≠x0/\q≠x0/\m<N/\q<N)(hd:f≠x0/\l≠x0/\f≠m/\l≠m/\f<N/\l<N)(he:e≠x0/\e≠m/\e<N)(hF:Fr N x0 pv a)(hp:a.eval (.tmp p)=.bool b)
(hf:∀w,(Instr.fieldAt T pv i).run P w=.ok (.pointer (some ⟨g,off,none⟩)) w)
(hl:(Instr.loadAt ty (.pointer (some ⟨g,off,none⟩))).run P w=.ok v w)
(hv:∀a2:Act,a2.eval (.tmp l)=v->(execOp a2.eval o4).run P w=.ok (.value (.bool t)) w)
(h:∀a',Fr N x0 pv a'->a'.eval (.tmp q)=.bool (b&&t)->wpList P ops Q rest a' w):wpList P ops Q (o1::o2::o3::o4::o5::rest) a w:=
 chain (mids:=[o2,o3,o4]) hgi q1 q5 hn hF hp (P6c ⟨q2.2.2,f,q2.2.1,hd.1,hd.2.2.1⟩ ⟨q3.2.2,l,q3.2.1,hd.2.1,hd.2.2.2.1⟩ ⟨q4.2,e,q4.1,he.1,he.2.1⟩)
  (λa1 F1 m1 hk=>B5a (tail:=_) hgi q2 q3 hd hf hl a1 F1 m1 λa2 F2 m2 e2=>b3a (l:=0) hgi q4 he a2 F2 m2 (hv a2 e2) λa4 F4 m4 e4 _=>hk a4 F4 m4 e4) h
theorem J3b(hF:Fr N x0 pv a)(h:∀a',Fr N x0 pv a'->wpList P ops Q rest a' w):wpList P ops Q rest a w:=h a hF
theorem P5b{f l i off g:Nat}{T ty:TypeId}{o2 o3:Oper}{tail:List Oper}
(q2:o2.op=.fieldAddr T (.tmp x0) i/\o2.dst=some f/\o2.guard=none)(q3:o3.op=.load ty (.tmp f)/\o3.dst=some l/\o3.guard=none)
(hn:f≠x0/\l≠x0/\f<N/\l<N)
(hf:∀w,(Instr.fieldAt T pv i).run P w=.ok (.pointer (some ⟨g,off,none⟩)) w)
(hl:(Instr.loadAt ty (.pointer (some ⟨g,off,none⟩))).run P w=.ok v w)
(a1:Act)(hF:Fr N x0 pv a1)
(h:∀a2,Fr N x0 pv a2->a2.eval (.tmp l)=v->wpList P ops Q tail a2 w):wpList P ops Q (o2::o3::tail) a1 w:=by
 obtain⟨n1,n2,n5,n6⟩:=hn;refine P1a (w0a (by simp[Region.wanted,q2.2.2]) T (.tmp x0) i q2.1 pv _ hF.ptr hf) ?_;rw[q2.2.1];have hF2:Fr N x0 pv (a1.put (some f) (.pointer (some ⟨g,off,none⟩))):=hF.put n1;refine P1a (v:=v) (.inl ⟨by simp[Region.wanted,q3.2.2],λw' hw'=>by subst hw';unfold execOp;simp only[q3.1,K4a (show f<a1.tmps.size by rw[hF.size];exact n5),Sem.run_bind,hl,Result.andThen_ok,Sem.run_pure]⟩) ?_
 rw[q3.2.1];exact h _ (hF2.put n2) (K4a (by rw[hF2.size];exact n6))
theorem x9a{e:Nat}{u:Value}{o4:Oper}{tail:List Oper}
(q4:o4.dst=some e/\o4.guard=none)(hn:e≠x0/\e<N)(a1:Act)(hF:Fr N x0 pv a1)
(hv:(execOp a1.eval o4).run P w=.ok (.value u) w)
(h:∀a2,Fr N x0 pv a2->a2.eval (.tmp e)=u->wpList P ops Q tail a2 w):wpList P ops Q (o4::tail) a1 w:=by obtain⟨n1,n3⟩:=hn;refine P1a (v:=u) (.inl ⟨by simp[Region.wanted,q4.2],λw' hw'=>by subst hw';exact hv⟩) ?_;rw[q4.1];exact h _ (hF.put n1) (K4a (by rw[hF.size];exact n3))
theorem n1a{g off:Nat}{ty:TypeId}(hc:w.cell? ⟨g,off,none⟩=some v)(d:TypeDesc)(hu:P.underlying ty=some d)(hd:(match d with | .struct _ | .array _ _=>true | _=>false)=false) :
  (Instr.loadAt ty (.pointer (some ⟨g,off,none⟩))).run P w=.ok v w:=by
 have hagg:(isAgg ty).run P w=.ok false w:=by unfold isAgg;rw[Sem.run_bind,run_underlying hu w];cases d<;>simp_all
 simp[Instr.loadAt,Instr.sureAddr,Sem.run_bind,Result.andThen_ok,loadVar,hagg,hc]
end
theorem K3b:prog.built 26 []=some ((List.replicate 16 (0:Int)).map (Value.int .u8)).toArray:=by kernel_rfl
theorem k2b:prog.built 30 []=some ((List.replicate 32 (0:Int)).map (Value.int .u8)).toArray:=by kernel_rfl
theorem L3b:prog.built 35 []=some ((List.replicate 8 (0:Int)).map (Value.int .u8)).toArray:=by kernel_rfl
theorem n7b(a:l1a):a=i0a↔a.dial=[]/\a.data=[]/\a.locks=[]/\a.guid=List.replicate 16 0/\a.proof=List.replicate 32 0/\a.user=.empty/\a.share=.empty/\a.name=.empty/\a.pat=.empty/\a.aft=.empty/\a.acc=0/\a.shr=0/\a.way=0/\a.opt=0/\a.lev=0/\a.dur=0/\a.file=0/\a.at_=0/\a.n=0/\a.most=0/\a.cls=0/\a.siz=0/\a.on=false:=by
 constructor
 ·rintro rfl;exact⟨rfl,rfl,rfl,rfl,rfl,rfl,rfl,rfl,rfl,rfl,rfl,rfl,rfl,rfl,rfl,rfl,rfl,rfl,rfl,rfl,rfl,rfl,rfl⟩
 ·rintro⟨h_dial,h_data,h_locks,h_guid,h_proof,h_user,h_share,h_name,h_pat,h_aft,h_acc,h_shr,h_way,h_opt,h_lev,h_dur,h_file,h_at_,h_n,h_most,h_cls,h_siz,h_on⟩;cases a;simp only at h_dial h_data h_locks h_guid h_proof h_user h_share h_name h_pat h_aft h_acc h_shr h_way h_opt h_lev h_dur h_file h_at_ h_n h_most h_cls h_siz h_on;subst h_dial h_data h_locks h_guid h_proof h_user h_share h_name h_pat h_aft h_acc h_shr h_way h_opt h_lev h_dur h_file h_at_ h_n h_most h_cls h_siz h_on;rfl
theorem o7b(a:O1a):a=n0a↔a.data=[]/\a.ents=[]/\a.chal=List.replicate 8 0/\a.dia=0/\a.siz=0/\a.lev=0/\a.dur=0/\a.made=0/\a.file=0/\a.kind=0/\a.n=0/\a.more=false/\a.gone=false:=by
 constructor
 ·rintro rfl;exact⟨rfl,rfl,rfl,rfl,rfl,rfl,rfl,rfl,rfl,rfl,rfl,rfl,rfl⟩
 ·rintro⟨h_data,h_ents,h_chal,h_dia,h_siz,h_lev,h_dur,h_made,h_file,h_kind,h_n,h_more,h_gone⟩;cases a;simp only at h_data h_ents h_chal h_dia h_siz h_lev h_dur h_made h_file h_kind h_n h_more h_gone;subst h_data h_ents h_chal h_dia h_siz h_lev h_dur h_made h_file h_kind h_n h_more h_gone;rfl
theorem l2b(g:Nat)(w:World):(Instr.fieldAt 34 (.pointer (some ⟨g,0,none⟩)) 0).run prog w=.ok (.pointer (some ⟨g,0,none⟩)) w:=by go_simp
theorem m2b(g:Nat)(w:World):(Instr.fieldAt 34 (.pointer (some ⟨g,0,none⟩)) 1).run prog w=.ok (.pointer (some ⟨g,1,none⟩)) w:=by go_simp
theorem n2b(g:Nat)(w:World):(Instr.fieldAt 34 (.pointer (some ⟨g,0,none⟩)) 2).run prog w=.ok (.pointer (some ⟨g,17,none⟩)) w:=by go_simp
theorem o2b(g:Nat)(w:World):(Instr.fieldAt 34 (.pointer (some ⟨g,0,none⟩)) 3).run prog w=.ok (.pointer (some ⟨g,49,none⟩)) w:=by go_simp
theorem p2b(g:Nat)(w:World):(Instr.fieldAt 34 (.pointer (some ⟨g,0,none⟩)) 4).run prog w=.ok (.pointer (some ⟨g,50,none⟩)) w:=by go_simp
theorem q2b(g:Nat)(w:World):(Instr.fieldAt 34 (.pointer (some ⟨g,0,none⟩)) 5).run prog w=.ok (.pointer (some ⟨g,51,none⟩)) w:=by go_simp
theorem r2b(g:Nat)(w:World):(Instr.fieldAt 34 (.pointer (some ⟨g,0,none⟩)) 6).run prog w=.ok (.pointer (some ⟨g,52,none⟩)) w:=by go_simp
theorem s2b(g:Nat)(w:World):(Instr.fieldAt 34 (.pointer (some ⟨g,0,none⟩)) 7).run prog w=.ok (.pointer (some ⟨g,53,none⟩)) w:=by go_simp
theorem t2b(g:Nat)(w:World):(Instr.fieldAt 34 (.pointer (some ⟨g,0,none⟩)) 8).run prog w=.ok (.pointer (some ⟨g,54,none⟩)) w:=by go_simp
theorem K7a(g:Nat)(w:World):(Instr.fieldAt 34 (.pointer (some ⟨g,0,none⟩)) 9).run prog w=.ok (.pointer (some ⟨g,55,none⟩)) w:=by go_simp
theorem j7a(g:Nat)(w:World):(Instr.fieldAt 34 (.pointer (some ⟨g,0,none⟩)) 10).run prog w=.ok (.pointer (some ⟨g,56,none⟩)) w:=by go_simp
theorem b1b(g:Nat)(w:World):(Instr.fieldAt 34 (.pointer (some ⟨g,0,none⟩)) 11).run prog w=.ok (.pointer (some ⟨g,57,none⟩)) w:=by go_simp
theorem c1b(g:Nat)(w:World):(Instr.fieldAt 34 (.pointer (some ⟨g,0,none⟩)) 12).run prog w=.ok (.pointer (some ⟨g,58,none⟩)) w:=by go_simp
theorem a5a(g:Nat)(w:World):(Instr.fieldAt 34 (.pointer (some ⟨g,0,none⟩)) 13).run prog w=.ok (.pointer (some ⟨g,59,none⟩)) w:=by go_simp
theorem k7a(g:Nat)(w:World):(Instr.fieldAt 34 (.pointer (some ⟨g,0,none⟩)) 14).run prog w=.ok (.pointer (some ⟨g,60,none⟩)) w:=by go_simp
theorem b5a(g:Nat)(w:World):(Instr.fieldAt 34 (.pointer (some ⟨g,0,none⟩)) 15).run prog w=.ok (.pointer (some ⟨g,61,none⟩)) w:=by go_simp
theorem d1b(g:Nat)(w:World):(Instr.fieldAt 34 (.pointer (some ⟨g,0,none⟩)) 16).run prog w=.ok (.pointer (some ⟨g,62,none⟩)) w:=by go_simp
theorem e1b(g:Nat)(w:World):(Instr.fieldAt 34 (.pointer (some ⟨g,0,none⟩)) 17).run prog w=.ok (.pointer (some ⟨g,63,none⟩)) w:=by go_simp
theorem f1b(g:Nat)(w:World):(Instr.fieldAt 34 (.pointer (some ⟨g,0,none⟩)) 18).run prog w=.ok (.pointer (some ⟨g,64,none⟩)) w:=by go_simp
theorem g1b(g:Nat)(w:World):(Instr.fieldAt 34 (.pointer (some ⟨g,0,none⟩)) 19).run prog w=.ok (.pointer (some ⟨g,65,none⟩)) w:=by go_simp
theorem h1b(g:Nat)(w:World):(Instr.fieldAt 34 (.pointer (some ⟨g,0,none⟩)) 20).run prog w=.ok (.pointer (some ⟨g,66,none⟩)) w:=by go_simp
theorem i1b(g:Nat)(w:World):(Instr.fieldAt 34 (.pointer (some ⟨g,0,none⟩)) 21).run prog w=.ok (.pointer (some ⟨g,67,none⟩)) w:=by go_simp
theorem j1b(g:Nat)(w:World):(Instr.fieldAt 34 (.pointer (some ⟨g,0,none⟩)) 22).run prog w=.ok (.pointer (some ⟨g,68,none⟩)) w:=by go_simp
theorem L7a(g:Nat)(w:World):(Instr.fieldAt 39 (.pointer (some ⟨g,0,none⟩)) 0).run prog w=.ok (.pointer (some ⟨g,0,none⟩)) w:=by go_simp
theorem M7a(g:Nat)(w:World):(Instr.fieldAt 39 (.pointer (some ⟨g,0,none⟩)) 1).run prog w=.ok (.pointer (some ⟨g,1,none⟩)) w:=by go_simp
theorem N7a(g:Nat)(w:World):(Instr.fieldAt 39 (.pointer (some ⟨g,0,none⟩)) 2).run prog w=.ok (.pointer (some ⟨g,2,none⟩)) w:=by go_simp
theorem O7a(g:Nat)(w:World):(Instr.fieldAt 39 (.pointer (some ⟨g,0,none⟩)) 3).run prog w=.ok (.pointer (some ⟨g,10,none⟩)) w:=by go_simp
theorem P7a(g:Nat)(w:World):(Instr.fieldAt 39 (.pointer (some ⟨g,0,none⟩)) 4).run prog w=.ok (.pointer (some ⟨g,11,none⟩)) w:=by go_simp
theorem Q7a(g:Nat)(w:World):(Instr.fieldAt 39 (.pointer (some ⟨g,0,none⟩)) 5).run prog w=.ok (.pointer (some ⟨g,12,none⟩)) w:=by go_simp
theorem R7a(g:Nat)(w:World):(Instr.fieldAt 39 (.pointer (some ⟨g,0,none⟩)) 6).run prog w=.ok (.pointer (some ⟨g,13,none⟩)) w:=by go_simp
theorem S7a(g:Nat)(w:World):(Instr.fieldAt 39 (.pointer (some ⟨g,0,none⟩)) 7).run prog w=.ok (.pointer (some ⟨g,14,none⟩)) w:=by go_simp
theorem C5a(g:Nat)(w:World):(Instr.fieldAt 39 (.pointer (some ⟨g,0,none⟩)) 8).run prog w=.ok (.pointer (some ⟨g,15,none⟩)) w:=by go_simp
theorem u2b(g:Nat)(w:World):(Instr.fieldAt 39 (.pointer (some ⟨g,0,none⟩)) 9).run prog w=.ok (.pointer (some ⟨g,16,none⟩)) w:=by go_simp
theorem k1b(g:Nat)(w:World):(Instr.fieldAt 39 (.pointer (some ⟨g,0,none⟩)) 10).run prog w=.ok (.pointer (some ⟨g,17,none⟩)) w:=by go_simp
theorem l1b(g:Nat)(w:World):(Instr.fieldAt 39 (.pointer (some ⟨g,0,none⟩)) 11).run prog w=.ok (.pointer (some ⟨g,18,none⟩)) w:=by go_simp
theorem m1b(g:Nat)(w:World):(Instr.fieldAt 39 (.pointer (some ⟨g,0,none⟩)) 12).run prog w=.ok (.pointer (some ⟨g,19,none⟩)) w:=by go_simp
theorem T7a{w:World}{g off:Nat}{cs:List Value}{ty:TypeId}{d:TypeDesc}(hc:w.rangeAt g off cs)(hu:prog.underlying ty=some d)(hd:d.isRow=true)(hs:(prog.info? ty).map (·.size)=some cs.length) :
  (Instr.loadAt ty (.pointer (some ⟨g,off,none⟩))).run prog w=.ok (.agg cs.toArray) w:=by
 have:=run_loadVar_mid (P:=prog) w g off ty cs d hc hu hd hs;simpa[Instr.loadAt,Instr.sureAddr,Sem.run_bind,Result.andThen_ok] using this
theorem q4a(s:ByteArray):s.toList.isEmpty=decide (s=.empty):=by
 rw[ByteArray.toList_eq];obtain⟨⟨l⟩⟩:=s;cases l with
 | nil=>exact(decide_eq_true rfl).symm
 | cons x l=>rw[decide_eq_false (λh=>by injection h with h;injection h with h;cases h)];rfl
theorem v2b{a:Act}{w:World}{T:TypeId}{o:Oper}{ys:Array Value}(ho:o.op=.build T #[])(hf:prog.built T []=some ys):(execOp a.eval o).run prog w=.ok (.value (.agg ys)) w:=by
 obtain⟨cs,rfl⟩:∃cs:List Value,ys=cs.toArray:=⟨ys.toList,by simp⟩;have h:=f1a (P:=prog) (ops:=#[]) (S:=λ_=>True) (op:={ o with guard:=none }) (a:=a) (by simp[Region.wanted]) T #[] ho cs (by simpa using hf);rcases h with⟨_,h⟩ | ⟨h,_⟩
 ·exact h w trivial
 ·simp[Region.wanted] at h
theorem O0a{a:Act}{t:Nat}{v:Value}(h:a.eval (.tmp t)=v):a.tmps[t]?.getD undef=v:=by rw[<-h];simp[Act.eval]
theorem J4b(w:World)(cs:List Value)(a:l1a)(ka:a.ok)(ha:g1a w w.heap.size cs a) :
  Calls prog 77 #[.agg cs.toArray] w λe w'=>e=.returned (.bool (decide (a=i0a)))/\BW w w':=by
 have HL:=hI (ha.len ka);obtain⟨D1,D2,D3,X1,X2,X3,M1,M2,M3,rfl,h_D,h_X,h_M⟩:=ha;have l_D:=h_D.len;have l_X:=h_X.len;have l_M:=h_M.len;have HT:Hid ((((((((((((((((((((((((a.dial.length==0)&&(a.data.length==0))&&(a.locks.length==0))&&(decide (a.guid=List.replicate 16 0)))&&(decide (a.proof=List.replicate 32 0)))&&(decide (a.user=.empty)))&&(decide (a.share=.empty)))&&(decide (a.name=.empty)))&&(decide (a.pat=.empty)))&&(decide (a.aft=.empty)))&&(a.acc==0))&&(a.shr==0))&&(a.way==0))&&(a.opt==0))&&(a.lev==0))&&(a.dur==0))&&(a.file==0))&&(a.at_==0))&&(a.n==0))&&(a.most==0))&&(a.cls==0))&&(a.siz==0))&&(!a.on))=decide (a=i0a)):=by
  show _=_
  rw[Bool.eq_iff_iff,decide_eq_true_iff,n7b];simp only[Bool.and_eq_true,beq_iff_eq,decide_eq_true_iff,Bool.not_eq_true',List.length_eq_zero_iff,and_assoc]
 have FA:Hid (∀(w:World) (g:Nat),Blk w g 34 (l0a (.slice D1 D2 D3) (.slice X1 X2 X3) (.slice M1 M2 M3) a)->w.cell? ⟨g,0,none⟩=some (.slice D1 D2 D3)/\w.cell? ⟨g,49,none⟩=some (.string a.user)/\w.cell? ⟨g,50,none⟩=some (.string a.share)/\w.cell? ⟨g,51,none⟩=some (.int .u32 a.acc)/\w.cell? ⟨g,52,none⟩=some (.int .u32 a.shr)/\w.cell? ⟨g,53,none⟩=some (.int .u32 a.way)/\w.cell? ⟨g,54,none⟩=some (.int .u32 a.opt)/\w.cell? ⟨g,55,none⟩=some (.int .u8 a.lev)/\w.cell? ⟨g,56,none⟩=some (.int .u8 a.dur)/\w.cell? ⟨g,57,none⟩=some (.int .u64 a.file)/\w.cell? ⟨g,58,none⟩=some (.string a.name)/\w.cell? ⟨g,59,none⟩=some (.int .u64 a.at_)/\w.cell? ⟨g,60,none⟩=some (.int .u32 a.n)/\w.cell? ⟨g,61,none⟩=some (.slice X1 X2 X3)/\w.cell? ⟨g,62,none⟩=some (.slice M1 M2 M3)/\w.cell? ⟨g,63,none⟩=some (.int .u16 a.most)/\w.cell? ⟨g,64,none⟩=some (.string a.pat)/\w.cell? ⟨g,65,none⟩=some (.string a.aft)/\w.cell? ⟨g,66,none⟩=some (.int .u16 a.cls)/\w.cell? ⟨g,67,none⟩=some (.int .u64 a.siz)/\w.cell? ⟨g,68,none⟩=some (.bool a.on)):=λw g h=>⟨h.at rfl,h.at (o0a ka 0),h.at (o0a ka 1),h.at (o0a ka 2),h.at (o0a ka 3),h.at (o0a ka 4),h.at (o0a ka 5),h.at (o0a ka 6),h.at (o0a ka 7),h.at (o0a ka 8),h.at (o0a ka 9),h.at (o0a ka 10),h.at (o0a ka 11),h.at (o0a ka 12),h.at (o0a ka 13),h.at (o0a ka 14),h.at (o0a ka 15),h.at (o0a ka 16),h.at (o0a ka 17),h.at (o0a ka 18),h.at (o0a ka 19)⟩
 have R_guid:Hid (∀(w:World) (g:Nat),Blk w g 34 (l0a (.slice D1 D2 D3) (.slice X1 X2 X3) (.slice M1 M2 M3) a)->w.rangeAt g 1 (a.guid.map (Value.int .u8))):=λw g h=>J6a h ka
 have N_guid:Hid ((a.guid.map (Value.int .u8)).length=16):=by show _=_;rw[List.length_map];exact ka.glen
 have q_guid:∀w:World,(Op.equalIn 10000 26 (.agg (a.guid.map (Value.int .u8)).toArray) (.agg ((List.replicate 16 (0:Int)).map (Value.int .u8)).toArray)).run prog w=.ok (decide (a.guid=List.replicate 16 0)) w:=λw=>y2a underlying26 underlying5 q8a _ _ ka.glen (by simp) _ w
 have R_proof:Hid (∀(w:World) (g:Nat),Blk w g 34 (l0a (.slice D1 D2 D3) (.slice X1 X2 X3) (.slice M1 M2 M3) a)->w.rangeAt g 17 (a.proof.map (Value.int .u8))):=λw g h=>V5a h ka
 have N_proof:Hid ((a.proof.map (Value.int .u8)).length=32):=by show _=_;rw[List.length_map];exact ka.plen
 have q_proof:∀w:World,(Op.equalIn 10000 30 (.agg (a.proof.map (Value.int .u8)).toArray) (.agg ((List.replicate 32 (0:Int)).map (Value.int .u8)).toArray)).run prog w=.ok (decide (a.proof=List.replicate 32 0)) w:=λw=>y2a underlying30 underlying5 q8a _ _ ka.plen (by simp) _ w
 obtain⟨z_dial,k_dial⟩:∃z,(a.dial.length==0)=z:=⟨_,rfl⟩;obtain⟨z_data,k_data⟩:∃z,(a.data.length==0)=z:=⟨_,rfl⟩;obtain⟨z_locks,k_locks⟩:∃z,(a.locks.length==0)=z:=⟨_,rfl⟩;obtain⟨z_guid,k_guid⟩:∃z,(decide (a.guid=List.replicate 16 0))=z:=⟨_,rfl⟩;obtain⟨z_proof,k_proof⟩:∃z,(decide (a.proof=List.replicate 32 0))=z:=⟨_,rfl⟩;obtain⟨z_user,k_user⟩:∃z,(decide (a.user=.empty))=z:=⟨_,rfl⟩;obtain⟨z_share,k_share⟩:∃z,(decide (a.share=.empty))=z:=⟨_,rfl⟩;obtain⟨z_name,k_name⟩:∃z,(decide (a.name=.empty))=z:=⟨_,rfl⟩;obtain⟨z_pat,k_pat⟩:∃z,(decide (a.pat=.empty))=z:=⟨_,rfl⟩;obtain⟨z_aft,k_aft⟩:∃z,(decide (a.aft=.empty))=z:=⟨_,rfl⟩;obtain⟨z_acc,k_acc⟩:∃z,(a.acc==0)=z:=⟨_,rfl⟩;obtain⟨z_shr,k_shr⟩:∃z,(a.shr==0)=z:=⟨_,rfl⟩;obtain⟨z_way,k_way⟩:∃z,(a.way==0)=z:=⟨_,rfl⟩;obtain⟨z_opt,k_opt⟩:∃z,(a.opt==0)=z:=⟨_,rfl⟩;obtain⟨z_lev,k_lev⟩:∃z,(a.lev==0)=z:=⟨_,rfl⟩;obtain⟨z_dur,k_dur⟩:∃z,(a.dur==0)=z:=⟨_,rfl⟩;obtain⟨z_file,k_file⟩:∃z,(a.file==0)=z:=⟨_,rfl⟩;obtain⟨z_at_,k_at_⟩:∃z,(a.at_==0)=z:=⟨_,rfl⟩;obtain⟨z_n,k_n⟩:∃z,(a.n==0)=z:=⟨_,rfl⟩;obtain⟨z_most,k_most⟩:∃z,(a.most==0)=z:=⟨_,rfl⟩;obtain⟨z_cls,k_cls⟩:∃z,(a.cls==0)=z:=⟨_,rfl⟩;obtain⟨z_siz,k_siz⟩:∃z,(a.siz==0)=z:=⟨_,rfl⟩;obtain⟨z_on,k_on⟩:∃z,(!a.on)=z:=⟨_,rfl⟩;rw[k_dial,k_data,k_locks,k_guid,k_proof,k_user,k_share,k_name,k_pat,k_aft,k_acc,k_shr,k_way,k_opt,k_lev,k_dur,k_file,k_at_,k_n,k_most,k_cls,k_siz,k_on] at HT;rw[l_D] at k_dial;have kk_dial:((D2:Int)==0)=z_dial:=by rw[<-k_dial];rw[Bool.eq_iff_iff];simp
 rw[l_X] at k_data;have kk_data:((X2:Int)==0)=z_data:=by rw[<-k_data];rw[Bool.eq_iff_iff];simp
 rw[l_M] at k_locks;have kk_locks:((M2:Int)==0)=z_locks:=by rw[<-k_locks];rw[Bool.eq_iff_iff];simp
 rw[k_guid] at q_guid;obtain⟨y_guid,hy⟩:=xX (((List.replicate 16 (0:Int)).map (Value.int .u8)).toArray);rw[<-hy] at q_guid;have bt_guid:prog.built 26 []=some y_guid:=by rw[hy];exact K3b
 clear hy;rw[k_proof] at q_proof;obtain⟨y_proof,hy⟩:=xX (((List.replicate 32 (0:Int)).map (Value.int .u8)).toArray);rw[<-hy] at q_proof;have bt_proof:prog.built 30 []=some y_proof:=by rw[hy];exact k2b
 clear hy;have kk_user:a.user.toList.isEmpty=z_user:=by rw[<-k_user];exact q4a _
 have kk_share:a.share.toList.isEmpty=z_share:=by rw[<-k_share];exact q4a _
 have kk_name:a.name.toList.isEmpty=z_name:=by rw[<-k_name];exact q4a _
 have kk_pat:a.pat.toList.isEmpty=z_pat:=by rw[<-k_pat];exact q4a _
 have kk_aft:a.aft.toList.isEmpty=z_aft:=by rw[<-k_aft];exact q4a _
 obtain⟨r,hr⟩:=xX (decide (a=i0a));rw[<-hr] at HT⊢;obtain⟨cs,hcs⟩:=xX (l0a (.slice D1 D2 D3) (.slice X1 X2 X3) (.slice M1 M2 M3) a);rw[<-hcs] at FA HL R_guid R_proof⊢;clear hr hcs h_D h_X h_M;go_enter func77,ntmps77;go_upto_region 1 with(first|(refine sN 1 ?_;refine d0a rfl _ (.tmp 0) rfl cs rfl ?_;intro g w1 hg1 hg2 K1 L1)|fail)
 rename_i hret;simp only[List.append_eq,List.cons_append,List.nil_append];refine wp_region_lit ?_;have HK:=K1;obtain⟨c_dial,c_user,c_share,c_acc,c_shr,c_way,c_opt,c_lev,c_dur,c_file,c_name,c_at_,c_n,c_data,c_locks,c_most,c_pat,c_aft,c_cls,c_siz,c_on⟩:=FA.o _ _ K1.o;have r_guid:=R_guid.o _ _ K1.o;have r_proof:=R_proof.o _ _ K1.o;refine J3b (N:=121) (x0:=1) (pv:=.pointer (some ⟨g,0,none⟩)) ⟨rfl,rfl,rfl⟩ λa0 F0=>?_
 refine P5b (v:=(.slice D1 D2 D3)) (f:=3) (l:=4) (i:=0) (off:=0) (g:=g) ⟨rfl,rfl,rfl⟩ ⟨rfl,rfl,rfl⟩ (by decide) (l2b g) (n1a c_dial _ underlying29 rfl) a0 F0 λa1 F1 e1=>?_
 refine x9a (e:=5) (u:=.int .i64 (D2:Int)) ⟨rfl,rfl⟩ (by decide) a1 F1 (by have e':=O0a e1;go_simp) λa2 F2 e2=>?_
 refine x9a (e:=6) (u:=.bool z_dial) ⟨rfl,rfl⟩ (by decide) a2 F2 (by have e':=O0a e2;go_simp) λb0 G0 h0=>?_
 clear F0 F1 F2 e1 e2;refine chain (gi:=4) (p:=6) (m:=7) (e:=11) (q:=12) (t:=z_data) (mids:=[_,_,_,_]) rfl ⟨rfl,rfl,rfl⟩ ⟨rfl,rfl,rfl⟩ (by decide) G0 h0 (by apply y5c<;>exact⟨rfl,_,rfl,by decide,by decide⟩) (λa1 F1 m1 hk=>?_) λb1 G1 h1=>?_
 ·refine B5a (v:=(.slice X1 X2 X3)) (f:=8) (l:=9) (i:=15) (off:=61) (g:=g) (tail:=_) (gi:=4) (m:=7) rfl ⟨rfl,rfl,rfl⟩ ⟨rfl,rfl,rfl⟩ (by decide) (b5a g) (n1a c_data _ underlying31 rfl) a1 F1 m1 λa2 F2 m2 e2=>?_
  refine b3a (l:=0) (e:=10) (u:=.int .i64 (X2:Int)) (gi:=4) (m:=7) rfl ⟨rfl,rfl⟩ (by decide) a2 F2 m2 (by have e':=O0a e2;go_simp) λa3 F3 m3 e3 _=>?_
  refine b3a (l:=0) (e:=11) (u:=.bool z_data) (gi:=4) (m:=7) rfl ⟨rfl,rfl⟩ (by decide) a3 F3 m3 (by have e':=O0a e3;go_simp) λa4 F4 m4 e4 _=>?_
  exact hk a4 F4 m4 e4
 refine chain (gi:=10) (p:=12) (m:=13) (e:=17) (q:=18) (t:=z_locks) (mids:=[_,_,_,_]) rfl ⟨rfl,rfl,rfl⟩ ⟨rfl,rfl,rfl⟩ (by decide) G1 h1 (by apply y5c<;>exact⟨rfl,_,rfl,by decide,by decide⟩) (λa1 F1 m1 hk=>?_) λb2 G2 h2=>?_
 ·refine B5a (v:=(.slice M1 M2 M3)) (f:=14) (l:=15) (i:=16) (off:=62) (g:=g) (tail:=_) (gi:=10) (m:=13) rfl ⟨rfl,rfl,rfl⟩ ⟨rfl,rfl,rfl⟩ (by decide) (d1b g) (n1a c_locks _ underlying32 rfl) a1 F1 m1 λa2 F2 m2 e2=>?_
  refine b3a (l:=0) (e:=16) (u:=.int .i64 (M2:Int)) (gi:=10) (m:=13) rfl ⟨rfl,rfl⟩ (by decide) a2 F2 m2 (by have e':=O0a e2;go_simp) λa3 F3 m3 e3 _=>?_
  refine b3a (l:=0) (e:=17) (u:=.bool z_locks) (gi:=10) (m:=13) rfl ⟨rfl,rfl⟩ (by decide) a3 F3 m3 (by have e':=O0a e3;go_simp) λa4 F4 m4 e4 _=>?_
  exact hk a4 F4 m4 e4
 clear G1 h1;refine chain (gi:=16) (p:=18) (m:=19) (e:=23) (q:=24) (t:=z_guid) (mids:=[_,_,_,_]) rfl ⟨rfl,rfl,rfl⟩ ⟨rfl,rfl,rfl⟩ (by decide) G2 h2 (by apply y5c<;>exact⟨rfl,_,rfl,by decide,by decide⟩) (λa1 F1 m1 hk=>?_) λb3 G3 h3=>?_
 ·refine B5a (v:=(.agg (a.guid.map (Value.int .u8)).toArray)) (f:=20) (l:=21) (i:=1) (off:=1) (g:=g) (tail:=_) (gi:=16) (m:=19) rfl ⟨rfl,rfl,rfl⟩ ⟨rfl,rfl,rfl⟩ (by decide) (m2b g) (T7a r_guid underlying26 rfl (by rw[n3a,N_guid.o])) a1 F1 m1 λa2 F2 m2 e2=>?_
  refine b3a (l:=0) (e:=22) (u:=.agg y_guid) (gi:=16) (m:=19) rfl ⟨rfl,rfl⟩ (by decide) a2 F2 m2 (v2b rfl bt_guid) λa3 F3 m3 e3 o3=>?_
  have e2':=(o3 21 (by decide)).trans e2;refine b3a (l:=0) (e:=23) (u:=.bool z_guid) (gi:=16) (m:=19) rfl ⟨rfl,rfl⟩ (by decide) a3 F3 m3 (by have e':=O0a e2';have e'':=O0a e3;have qg:=z3b;go_simp) λa4 F4 m4 e4 _=>?_
  exact hk a4 F4 m4 e4
 clear G2 h2;refine chain (gi:=22) (p:=24) (m:=25) (e:=29) (q:=30) (t:=z_proof) (mids:=[_,_,_,_]) rfl ⟨rfl,rfl,rfl⟩ ⟨rfl,rfl,rfl⟩ (by decide) G3 h3 (by apply y5c<;>exact⟨rfl,_,rfl,by decide,by decide⟩) (λa1 F1 m1 hk=>?_) λb4 G4 h4=>?_
 ·refine B5a (v:=(.agg (a.proof.map (Value.int .u8)).toArray)) (f:=26) (l:=27) (i:=2) (off:=17) (g:=g) (tail:=_) (gi:=22) (m:=25) rfl ⟨rfl,rfl,rfl⟩ ⟨rfl,rfl,rfl⟩ (by decide) (n2b g) (T7a r_proof underlying30 rfl (by rw[j4a,N_proof.o])) a1 F1 m1 λa2 F2 m2 e2=>?_
  refine b3a (l:=0) (e:=28) (u:=.agg y_proof) (gi:=22) (m:=25) rfl ⟨rfl,rfl⟩ (by decide) a2 F2 m2 (v2b rfl bt_proof) λa3 F3 m3 e3 o3=>?_
  have e2':=(o3 27 (by decide)).trans e2;refine b3a (l:=0) (e:=29) (u:=.bool z_proof) (gi:=22) (m:=25) rfl ⟨rfl,rfl⟩ (by decide) a3 F3 m3 (by have e':=O0a e2';have e'':=O0a e3;have qg:=Y1b;go_simp) λa4 F4 m4 e4 _=>?_
  exact hk a4 F4 m4 e4
 clear G3 h3;refine U2a (gi:=28) (p:=30) (m:=31) (f:=32) (l:=33) (e:=34) (q:=35) (t:=z_user) (v:=(.string a.user)) (i:=3) (off:=49) (g:=g) rfl ⟨rfl,rfl,rfl⟩ ⟨rfl,rfl,rfl⟩ ⟨rfl,rfl,rfl⟩ ⟨rfl,rfl,rfl⟩ ⟨rfl,rfl⟩ (by decide) (by decide) (by decide) G4 h4 (o2b g) (n1a c_user _ underlying9 rfl) (λa2 e2=>(by have e':=O0a e2;go_simp)) λb5 G5 h5=>?_
 clear G4 h4;refine U2a (gi:=33) (p:=35) (m:=36) (f:=37) (l:=38) (e:=39) (q:=40) (t:=z_share) (v:=(.string a.share)) (i:=4) (off:=50) (g:=g) rfl ⟨rfl,rfl,rfl⟩ ⟨rfl,rfl,rfl⟩ ⟨rfl,rfl,rfl⟩ ⟨rfl,rfl,rfl⟩ ⟨rfl,rfl⟩ (by decide) (by decide) (by decide) G5 h5 (p2b g) (n1a c_share _ underlying9 rfl) (λa2 e2=>(by have e':=O0a e2;go_simp)) λb6 G6 h6=>?_
 clear G5 h5;refine U2a (gi:=38) (p:=40) (m:=41) (f:=42) (l:=43) (e:=44) (q:=45) (t:=z_name) (v:=(.string a.name)) (i:=12) (off:=58) (g:=g) rfl ⟨rfl,rfl,rfl⟩ ⟨rfl,rfl,rfl⟩ ⟨rfl,rfl,rfl⟩ ⟨rfl,rfl,rfl⟩ ⟨rfl,rfl⟩ (by decide) (by decide) (by decide) G6 h6 (c1b g) (n1a c_name _ underlying9 rfl) (λa2 e2=>(by have e':=O0a e2;go_simp)) λb7 G7 h7=>?_
 clear G6 h6;refine U2a (gi:=43) (p:=45) (m:=46) (f:=47) (l:=48) (e:=49) (q:=50) (t:=z_pat) (v:=(.string a.pat)) (i:=18) (off:=64) (g:=g) rfl ⟨rfl,rfl,rfl⟩ ⟨rfl,rfl,rfl⟩ ⟨rfl,rfl,rfl⟩ ⟨rfl,rfl,rfl⟩ ⟨rfl,rfl⟩ (by decide) (by decide) (by decide) G7 h7 (f1b g) (n1a c_pat _ underlying9 rfl) (λa2 e2=>(by have e':=O0a e2;go_simp)) λb8 G8 h8=>?_
 clear G7 h7;refine U2a (gi:=48) (p:=50) (m:=51) (f:=52) (l:=53) (e:=54) (q:=55) (t:=z_aft) (v:=(.string a.aft)) (i:=19) (off:=65) (g:=g) rfl ⟨rfl,rfl,rfl⟩ ⟨rfl,rfl,rfl⟩ ⟨rfl,rfl,rfl⟩ ⟨rfl,rfl,rfl⟩ ⟨rfl,rfl⟩ (by decide) (by decide) (by decide) G8 h8 (g1b g) (n1a c_aft _ underlying9 rfl) (λa2 e2=>(by have e':=O0a e2;go_simp)) λb9 G9 h9=>?_
 clear G8 h8;refine U2a (gi:=53) (p:=55) (m:=56) (f:=57) (l:=58) (e:=59) (q:=60) (t:=z_acc) (v:=(.int .u32 a.acc)) (i:=5) (off:=51) (g:=g) rfl ⟨rfl,rfl,rfl⟩ ⟨rfl,rfl,rfl⟩ ⟨rfl,rfl,rfl⟩ ⟨rfl,rfl,rfl⟩ ⟨rfl,rfl⟩ (by decide) (by decide) (by decide) G9 h9 (q2b g) (n1a c_acc _ underlying23 rfl) (λa2 e2=>(by have e':=O0a e2;go_simp)) λb10 G10 h10=>?_
 clear G9 h9;refine U2a (gi:=58) (p:=60) (m:=61) (f:=62) (l:=63) (e:=64) (q:=65) (t:=z_shr) (v:=(.int .u32 a.shr)) (i:=6) (off:=52) (g:=g) rfl ⟨rfl,rfl,rfl⟩ ⟨rfl,rfl,rfl⟩ ⟨rfl,rfl,rfl⟩ ⟨rfl,rfl,rfl⟩ ⟨rfl,rfl⟩ (by decide) (by decide) (by decide) G10 h10 (r2b g) (n1a c_shr _ underlying23 rfl) (λa2 e2=>(by have e':=O0a e2;go_simp)) λb11 G11 h11=>?_
 clear G10 h10;refine U2a (gi:=63) (p:=65) (m:=66) (f:=67) (l:=68) (e:=69) (q:=70) (t:=z_way) (v:=(.int .u32 a.way)) (i:=7) (off:=53) (g:=g) rfl ⟨rfl,rfl,rfl⟩ ⟨rfl,rfl,rfl⟩ ⟨rfl,rfl,rfl⟩ ⟨rfl,rfl,rfl⟩ ⟨rfl,rfl⟩ (by decide) (by decide) (by decide) G11 h11 (s2b g) (n1a c_way _ underlying23 rfl) (λa2 e2=>(by have e':=O0a e2;go_simp)) λb12 G12 h12=>?_
 clear G11 h11;refine U2a (gi:=68) (p:=70) (m:=71) (f:=72) (l:=73) (e:=74) (q:=75) (t:=z_opt) (v:=(.int .u32 a.opt)) (i:=8) (off:=54) (g:=g) rfl ⟨rfl,rfl,rfl⟩ ⟨rfl,rfl,rfl⟩ ⟨rfl,rfl,rfl⟩ ⟨rfl,rfl,rfl⟩ ⟨rfl,rfl⟩ (by decide) (by decide) (by decide) G12 h12 (t2b g) (n1a c_opt _ underlying23 rfl) (λa2 e2=>(by have e':=O0a e2;go_simp)) λb13 G13 h13=>?_
 clear G12 h12;refine U2a (gi:=73) (p:=75) (m:=76) (f:=77) (l:=78) (e:=79) (q:=80) (t:=z_lev) (v:=(.int .u8 a.lev)) (i:=9) (off:=55) (g:=g) rfl ⟨rfl,rfl,rfl⟩ ⟨rfl,rfl,rfl⟩ ⟨rfl,rfl,rfl⟩ ⟨rfl,rfl,rfl⟩ ⟨rfl,rfl⟩ (by decide) (by decide) (by decide) G13 h13 (K7a g) (n1a c_lev _ underlying5 rfl) (λa2 e2=>(by have e':=O0a e2;go_simp)) λb14 G14 h14=>?_
 clear G13 h13;refine U2a (gi:=78) (p:=80) (m:=81) (f:=82) (l:=83) (e:=84) (q:=85) (t:=z_dur) (v:=(.int .u8 a.dur)) (i:=10) (off:=56) (g:=g) rfl ⟨rfl,rfl,rfl⟩ ⟨rfl,rfl,rfl⟩ ⟨rfl,rfl,rfl⟩ ⟨rfl,rfl,rfl⟩ ⟨rfl,rfl⟩ (by decide) (by decide) (by decide) G14 h14 (j7a g) (n1a c_dur _ underlying5 rfl) (λa2 e2=>(by have e':=O0a e2;go_simp)) λb15 G15 h15=>?_
 clear G14 h14;refine U2a (gi:=83) (p:=85) (m:=86) (f:=87) (l:=88) (e:=89) (q:=90) (t:=z_file) (v:=(.int .u64 a.file)) (i:=11) (off:=57) (g:=g) rfl ⟨rfl,rfl,rfl⟩ ⟨rfl,rfl,rfl⟩ ⟨rfl,rfl,rfl⟩ ⟨rfl,rfl,rfl⟩ ⟨rfl,rfl⟩ (by decide) (by decide) (by decide) G15 h15 (b1b g) (n1a c_file _ underlying25 rfl) (λa2 e2=>(by have e':=O0a e2;go_simp)) λb16 G16 h16=>?_
 clear G15 h15;refine U2a (gi:=88) (p:=90) (m:=91) (f:=92) (l:=93) (e:=94) (q:=95) (t:=z_at_) (v:=(.int .u64 a.at_)) (i:=13) (off:=59) (g:=g) rfl ⟨rfl,rfl,rfl⟩ ⟨rfl,rfl,rfl⟩ ⟨rfl,rfl,rfl⟩ ⟨rfl,rfl,rfl⟩ ⟨rfl,rfl⟩ (by decide) (by decide) (by decide) G16 h16 (a5a g) (n1a c_at_ _ underlying25 rfl) (λa2 e2=>(by have e':=O0a e2;go_simp)) λb17 G17 h17=>?_
 clear G16 h16;refine U2a (gi:=93) (p:=95) (m:=96) (f:=97) (l:=98) (e:=99) (q:=100) (t:=z_n) (v:=(.int .u32 a.n)) (i:=14) (off:=60) (g:=g) rfl ⟨rfl,rfl,rfl⟩ ⟨rfl,rfl,rfl⟩ ⟨rfl,rfl,rfl⟩ ⟨rfl,rfl,rfl⟩ ⟨rfl,rfl⟩ (by decide) (by decide) (by decide) G17 h17 (k7a g) (n1a c_n _ underlying23 rfl) (λa2 e2=>(by have e':=O0a e2;go_simp)) λb18 G18 h18=>?_
 clear G17 h17;refine U2a (gi:=98) (p:=100) (m:=101) (f:=102) (l:=103) (e:=104) (q:=105) (t:=z_most) (v:=(.int .u16 a.most)) (i:=17) (off:=63) (g:=g) rfl ⟨rfl,rfl,rfl⟩ ⟨rfl,rfl,rfl⟩ ⟨rfl,rfl,rfl⟩ ⟨rfl,rfl,rfl⟩ ⟨rfl,rfl⟩ (by decide) (by decide) (by decide) G18 h18 (e1b g) (n1a c_most _ underlying22 rfl) (λa2 e2=>(by have e':=O0a e2;go_simp)) λb19 G19 h19=>?_
 clear G18 h18;refine U2a (gi:=103) (p:=105) (m:=106) (f:=107) (l:=108) (e:=109) (q:=110) (t:=z_cls) (v:=(.int .u16 a.cls)) (i:=20) (off:=66) (g:=g) rfl ⟨rfl,rfl,rfl⟩ ⟨rfl,rfl,rfl⟩ ⟨rfl,rfl,rfl⟩ ⟨rfl,rfl,rfl⟩ ⟨rfl,rfl⟩ (by decide) (by decide) (by decide) G19 h19 (h1b g) (n1a c_cls _ underlying22 rfl) (λa2 e2=>(by have e':=O0a e2;go_simp)) λb20 G20 h20=>?_
 clear G19 h19;refine U2a (gi:=108) (p:=110) (m:=111) (f:=112) (l:=113) (e:=114) (q:=115) (t:=z_siz) (v:=(.int .u64 a.siz)) (i:=21) (off:=67) (g:=g) rfl ⟨rfl,rfl,rfl⟩ ⟨rfl,rfl,rfl⟩ ⟨rfl,rfl,rfl⟩ ⟨rfl,rfl,rfl⟩ ⟨rfl,rfl⟩ (by decide) (by decide) (by decide) G20 h20 (i1b g) (n1a c_siz _ underlying25 rfl) (λa2 e2=>(by have e':=O0a e2;go_simp)) λb21 G21 h21=>?_
 clear G20 h20;refine U2a (gi:=113) (p:=115) (m:=116) (f:=117) (l:=118) (e:=119) (q:=120) (t:=z_on) (v:=(.bool a.on)) (i:=22) (off:=68) (g:=g) rfl ⟨rfl,rfl,rfl⟩ ⟨rfl,rfl,rfl⟩ ⟨rfl,rfl,rfl⟩ ⟨rfl,rfl,rfl⟩ ⟨rfl,rfl⟩ (by decide) (by decide) (by decide) G21 h21 (j1b g) (n1a c_on _ underlying4 rfl) (λa2 e2=>(by have e':=O0a e2;go_simp)) λb22 G22 h22=>?_
 clear G21 h21;have HT1:=HT.o;rw[HT1] at h22;refine P1a (v:=.bool r) (G7a (by simp[Region.wanted]) (.tmp 120) rfl _ h22) ?_;refine wpList_nil (hret _ _ (wp_ret ?_));have F9:=G22.put (d:=2) (v:=.bool r) (by decide);refine bodyPost_ret (results_tmp rfl _ _ _) F9.df ?_;refine⟨?_,L1.o⟩;have e9:(b22.put (some 2) (.bool r)).eval (.tmp 2)=.bool r:=K4a (by rw[G22.size];decide);exact congrArg Ending.returned e9
theorem K4b(w:World)(cs:List Value)(a:O1a)(ka:a.ok)(ha:s1a w w.heap.size cs a) :
  Calls prog 86 #[.agg cs.toArray] w λe w'=>e=.returned (.bool (decide (a=n0a)))/\BW w w':=by
 have HL:=hI (ha.len ka);obtain⟨X1,X2,X3,E1,E2,E3,rfl,h_X,h_E⟩:=ha;have l_X:=h_X.len;have l_E:=h_E.len;have HT:Hid ((((((((((((((a.data.length==0)&&(a.ents.length==0))&&(decide (a.chal=List.replicate 8 0)))&&(a.dia==0))&&(a.siz==0))&&(a.lev==0))&&(a.dur==0))&&(a.made==0))&&(a.file==0))&&(a.kind==0))&&(a.n==0))&&(!a.more))&&(!a.gone))=decide (a=n0a)):=by
  show _=_
  rw[Bool.eq_iff_iff,decide_eq_true_iff,o7b];simp only[Bool.and_eq_true,beq_iff_eq,decide_eq_true_iff,Bool.not_eq_true',List.length_eq_zero_iff,and_assoc]
 have FA:Hid (∀(w:World) (g:Nat),Blk w g 39 (u0a (.slice X1 X2 X3) (.slice E1 E2 E3) a)->w.cell? ⟨g,0,none⟩=some (.int .u16 a.dia)/\w.cell? ⟨g,1,none⟩=some (.int .u64 a.siz)/\w.cell? ⟨g,10,none⟩=some (.int .u8 a.lev)/\w.cell? ⟨g,11,none⟩=some (.int .u8 a.dur)/\w.cell? ⟨g,12,none⟩=some (.int .u16 a.made)/\w.cell? ⟨g,13,none⟩=some (.int .u64 a.file)/\w.cell? ⟨g,14,none⟩=some (.int .u8 a.kind)/\w.cell? ⟨g,15,none⟩=some (.slice X1 X2 X3)/\w.cell? ⟨g,16,none⟩=some (.int .u32 a.n)/\w.cell? ⟨g,17,none⟩=some (.slice E1 E2 E3)/\w.cell? ⟨g,18,none⟩=some (.bool a.more)/\w.cell? ⟨g,19,none⟩=some (.bool a.gone)):=λw g h=>⟨h.at rfl,h.at rfl,h.at (D0a ka 0),h.at (D0a ka 1),h.at (D0a ka 2),h.at (D0a ka 3),h.at (D0a ka 4),h.at (D0a ka 5),h.at (D0a ka 6),h.at (D0a ka 7),h.at (D0a ka 8),h.at (D0a ka 9)⟩
 have R_chal:Hid (∀(w:World) (g:Nat),Blk w g 39 (u0a (.slice X1 X2 X3) (.slice E1 E2 E3) a)->w.rangeAt g 2 (a.chal.map (Value.int .u8))):=λw g h=>K6a h ka
 have N_chal:Hid ((a.chal.map (Value.int .u8)).length=8):=by show _=_;rw[List.length_map];exact ka.clen
 have q_chal:∀w:World,(Op.equalIn 10000 35 (.agg (a.chal.map (Value.int .u8)).toArray) (.agg ((List.replicate 8 (0:Int)).map (Value.int .u8)).toArray)).run prog w=.ok (decide (a.chal=List.replicate 8 0)) w:=λw=>y2a underlying35 underlying5 q8a _ _ ka.clen (by simp) _ w
 obtain⟨z_data,k_data⟩:∃z,(a.data.length==0)=z:=⟨_,rfl⟩;obtain⟨z_ents,k_ents⟩:∃z,(a.ents.length==0)=z:=⟨_,rfl⟩;obtain⟨z_chal,k_chal⟩:∃z,(decide (a.chal=List.replicate 8 0))=z:=⟨_,rfl⟩;obtain⟨z_dia,k_dia⟩:∃z,(a.dia==0)=z:=⟨_,rfl⟩;obtain⟨z_siz,k_siz⟩:∃z,(a.siz==0)=z:=⟨_,rfl⟩;obtain⟨z_lev,k_lev⟩:∃z,(a.lev==0)=z:=⟨_,rfl⟩;obtain⟨z_dur,k_dur⟩:∃z,(a.dur==0)=z:=⟨_,rfl⟩;obtain⟨z_made,k_made⟩:∃z,(a.made==0)=z:=⟨_,rfl⟩;obtain⟨z_file,k_file⟩:∃z,(a.file==0)=z:=⟨_,rfl⟩;obtain⟨z_kind,k_kind⟩:∃z,(a.kind==0)=z:=⟨_,rfl⟩;obtain⟨z_n,k_n⟩:∃z,(a.n==0)=z:=⟨_,rfl⟩;obtain⟨z_more,k_more⟩:∃z,(!a.more)=z:=⟨_,rfl⟩;obtain⟨z_gone,k_gone⟩:∃z,(!a.gone)=z:=⟨_,rfl⟩;rw[k_data,k_ents,k_chal,k_dia,k_siz,k_lev,k_dur,k_made,k_file,k_kind,k_n,k_more,k_gone] at HT;rw[l_X] at k_data;have kk_data:((X2:Int)==0)=z_data:=by rw[<-k_data];rw[Bool.eq_iff_iff];simp
 rw[l_E] at k_ents;have kk_ents:((E2:Int)==0)=z_ents:=by rw[<-k_ents];rw[Bool.eq_iff_iff];simp
 rw[k_chal] at q_chal;obtain⟨y_chal,hy⟩:=xX (((List.replicate 8 (0:Int)).map (Value.int .u8)).toArray);rw[<-hy] at q_chal;have bt_chal:prog.built 35 []=some y_chal:=by rw[hy];exact L3b
 clear hy;obtain⟨r,hr⟩:=xX (decide (a=n0a));rw[<-hr] at HT⊢;obtain⟨cs,hcs⟩:=xX (u0a (.slice X1 X2 X3) (.slice E1 E2 E3) a);rw[<-hcs] at FA HL R_chal⊢;clear hr hcs h_X h_E;go_enter func86,ntmps86;go_upto_region 1 with(first|(refine sN 1 ?_;refine d0a rfl _ (.tmp 0) rfl cs rfl ?_;intro g w1 hg1 hg2 K1 L1)|fail)
 rename_i hret;simp only[List.append_eq,List.cons_append,List.nil_append];refine wp_region_lit ?_;have HK:=K1;obtain⟨c_dia,c_siz,c_lev,c_dur,c_made,c_file,c_kind,c_data,c_n,c_ents,c_more,c_gone⟩:=FA.o _ _ K1.o;have r_chal:=R_chal.o _ _ K1.o;refine J3b (N:=69) (x0:=1) (pv:=.pointer (some ⟨g,0,none⟩)) ⟨rfl,rfl,rfl⟩ λa0 F0=>?_
 refine P5b (v:=(.slice X1 X2 X3)) (f:=3) (l:=4) (i:=8) (off:=15) (g:=g) ⟨rfl,rfl,rfl⟩ ⟨rfl,rfl,rfl⟩ (by decide) (C5a g) (n1a c_data _ underlying31 rfl) a0 F0 λa1 F1 e1=>?_
 refine x9a (e:=5) (u:=.int .i64 (X2:Int)) ⟨rfl,rfl⟩ (by decide) a1 F1 (by have e':=O0a e1;go_simp) λa2 F2 e2=>?_
 refine x9a (e:=6) (u:=.bool z_data) ⟨rfl,rfl⟩ (by decide) a2 F2 (by have e':=O0a e2;go_simp) λb0 G0 h0=>?_
 clear F0 F1 F2 e1 e2;refine chain (gi:=4) (p:=6) (m:=7) (e:=11) (q:=12) (t:=z_ents) (mids:=[_,_,_,_]) rfl ⟨rfl,rfl,rfl⟩ ⟨rfl,rfl,rfl⟩ (by decide) G0 h0 (by apply y5c<;>exact⟨rfl,_,rfl,by decide,by decide⟩) (λa1 F1 m1 hk=>?_) λb1 G1 h1=>?_
 ·refine B5a (v:=(.slice E1 E2 E3)) (f:=8) (l:=9) (i:=10) (off:=17) (g:=g) (tail:=_) (gi:=4) (m:=7) rfl ⟨rfl,rfl,rfl⟩ ⟨rfl,rfl,rfl⟩ (by decide) (k1b g) (n1a c_ents _ underlying37 rfl) a1 F1 m1 λa2 F2 m2 e2=>?_
  refine b3a (l:=0) (e:=10) (u:=.int .i64 (E2:Int)) (gi:=4) (m:=7) rfl ⟨rfl,rfl⟩ (by decide) a2 F2 m2 (by have e':=O0a e2;go_simp) λa3 F3 m3 e3 _=>?_
  refine b3a (l:=0) (e:=11) (u:=.bool z_ents) (gi:=4) (m:=7) rfl ⟨rfl,rfl⟩ (by decide) a3 F3 m3 (by have e':=O0a e3;go_simp) λa4 F4 m4 e4 _=>?_
  exact hk a4 F4 m4 e4
 refine chain (gi:=10) (p:=12) (m:=13) (e:=17) (q:=18) (t:=z_chal) (mids:=[_,_,_,_]) rfl ⟨rfl,rfl,rfl⟩ ⟨rfl,rfl,rfl⟩ (by decide) G1 h1 (by apply y5c<;>exact⟨rfl,_,rfl,by decide,by decide⟩) (λa1 F1 m1 hk=>?_) λb2 G2 h2=>?_
 ·refine B5a (v:=(.agg (a.chal.map (Value.int .u8)).toArray)) (f:=14) (l:=15) (i:=2) (off:=2) (g:=g) (tail:=_) (gi:=10) (m:=13) rfl ⟨rfl,rfl,rfl⟩ ⟨rfl,rfl,rfl⟩ (by decide) (N7a g) (T7a r_chal underlying35 rfl (by rw[O4a,N_chal.o])) a1 F1 m1 λa2 F2 m2 e2=>?_
  refine b3a (l:=0) (e:=16) (u:=.agg y_chal) (gi:=10) (m:=13) rfl ⟨rfl,rfl⟩ (by decide) a2 F2 m2 (v2b rfl bt_chal) λa3 F3 m3 e3 o3=>?_
  have e2':=(o3 15 (by decide)).trans e2;refine b3a (l:=0) (e:=17) (u:=.bool z_chal) (gi:=10) (m:=13) rfl ⟨rfl,rfl⟩ (by decide) a3 F3 m3 (by have e':=O0a e2';have e'':=O0a e3;have qg:=A3b;go_simp) λa4 F4 m4 e4 _=>?_
  exact hk a4 F4 m4 e4
 clear G1 h1;refine U2a (gi:=16) (p:=18) (m:=19) (f:=20) (l:=21) (e:=22) (q:=23) (t:=z_dia) (v:=(.int .u16 a.dia)) (i:=0) (off:=0) (g:=g) rfl ⟨rfl,rfl,rfl⟩ ⟨rfl,rfl,rfl⟩ ⟨rfl,rfl,rfl⟩ ⟨rfl,rfl,rfl⟩ ⟨rfl,rfl⟩ (by decide) (by decide) (by decide) G2 h2 (L7a g) (n1a c_dia _ underlying22 rfl) (λa2 e2=>(by have e':=O0a e2;go_simp)) λb3 G3 h3=>?_
 clear G2 h2;refine U2a (gi:=21) (p:=23) (m:=24) (f:=25) (l:=26) (e:=27) (q:=28) (t:=z_siz) (v:=(.int .u64 a.siz)) (i:=1) (off:=1) (g:=g) rfl ⟨rfl,rfl,rfl⟩ ⟨rfl,rfl,rfl⟩ ⟨rfl,rfl,rfl⟩ ⟨rfl,rfl,rfl⟩ ⟨rfl,rfl⟩ (by decide) (by decide) (by decide) G3 h3 (M7a g) (n1a c_siz _ underlying25 rfl) (λa2 e2=>(by have e':=O0a e2;go_simp)) λb4 G4 h4=>?_
 clear G3 h3;refine U2a (gi:=26) (p:=28) (m:=29) (f:=30) (l:=31) (e:=32) (q:=33) (t:=z_lev) (v:=(.int .u8 a.lev)) (i:=3) (off:=10) (g:=g) rfl ⟨rfl,rfl,rfl⟩ ⟨rfl,rfl,rfl⟩ ⟨rfl,rfl,rfl⟩ ⟨rfl,rfl,rfl⟩ ⟨rfl,rfl⟩ (by decide) (by decide) (by decide) G4 h4 (O7a g) (n1a c_lev _ underlying5 rfl) (λa2 e2=>(by have e':=O0a e2;go_simp)) λb5 G5 h5=>?_
 clear G4 h4;refine U2a (gi:=31) (p:=33) (m:=34) (f:=35) (l:=36) (e:=37) (q:=38) (t:=z_dur) (v:=(.int .u8 a.dur)) (i:=4) (off:=11) (g:=g) rfl ⟨rfl,rfl,rfl⟩ ⟨rfl,rfl,rfl⟩ ⟨rfl,rfl,rfl⟩ ⟨rfl,rfl,rfl⟩ ⟨rfl,rfl⟩ (by decide) (by decide) (by decide) G5 h5 (P7a g) (n1a c_dur _ underlying5 rfl) (λa2 e2=>(by have e':=O0a e2;go_simp)) λb6 G6 h6=>?_
 clear G5 h5;refine U2a (gi:=36) (p:=38) (m:=39) (f:=40) (l:=41) (e:=42) (q:=43) (t:=z_made) (v:=(.int .u16 a.made)) (i:=5) (off:=12) (g:=g) rfl ⟨rfl,rfl,rfl⟩ ⟨rfl,rfl,rfl⟩ ⟨rfl,rfl,rfl⟩ ⟨rfl,rfl,rfl⟩ ⟨rfl,rfl⟩ (by decide) (by decide) (by decide) G6 h6 (Q7a g) (n1a c_made _ underlying22 rfl) (λa2 e2=>(by have e':=O0a e2;go_simp)) λb7 G7 h7=>?_
 clear G6 h6;refine U2a (gi:=41) (p:=43) (m:=44) (f:=45) (l:=46) (e:=47) (q:=48) (t:=z_file) (v:=(.int .u64 a.file)) (i:=6) (off:=13) (g:=g) rfl ⟨rfl,rfl,rfl⟩ ⟨rfl,rfl,rfl⟩ ⟨rfl,rfl,rfl⟩ ⟨rfl,rfl,rfl⟩ ⟨rfl,rfl⟩ (by decide) (by decide) (by decide) G7 h7 (R7a g) (n1a c_file _ underlying25 rfl) (λa2 e2=>(by have e':=O0a e2;go_simp)) λb8 G8 h8=>?_
 clear G7 h7;refine U2a (gi:=46) (p:=48) (m:=49) (f:=50) (l:=51) (e:=52) (q:=53) (t:=z_kind) (v:=(.int .u8 a.kind)) (i:=7) (off:=14) (g:=g) rfl ⟨rfl,rfl,rfl⟩ ⟨rfl,rfl,rfl⟩ ⟨rfl,rfl,rfl⟩ ⟨rfl,rfl,rfl⟩ ⟨rfl,rfl⟩ (by decide) (by decide) (by decide) G8 h8 (S7a g) (n1a c_kind _ underlying36 rfl) (λa2 e2=>(by have e':=O0a e2;go_simp)) λb9 G9 h9=>?_
 clear G8 h8;refine U2a (gi:=51) (p:=53) (m:=54) (f:=55) (l:=56) (e:=57) (q:=58) (t:=z_n) (v:=(.int .u32 a.n)) (i:=9) (off:=16) (g:=g) rfl ⟨rfl,rfl,rfl⟩ ⟨rfl,rfl,rfl⟩ ⟨rfl,rfl,rfl⟩ ⟨rfl,rfl,rfl⟩ ⟨rfl,rfl⟩ (by decide) (by decide) (by decide) G9 h9 (u2b g) (n1a c_n _ underlying23 rfl) (λa2 e2=>(by have e':=O0a e2;go_simp)) λb10 G10 h10=>?_
 clear G9 h9;refine U2a (gi:=56) (p:=58) (m:=59) (f:=60) (l:=61) (e:=62) (q:=63) (t:=z_more) (v:=(.bool a.more)) (i:=11) (off:=18) (g:=g) rfl ⟨rfl,rfl,rfl⟩ ⟨rfl,rfl,rfl⟩ ⟨rfl,rfl,rfl⟩ ⟨rfl,rfl,rfl⟩ ⟨rfl,rfl⟩ (by decide) (by decide) (by decide) G10 h10 (l1b g) (n1a c_more _ underlying4 rfl) (λa2 e2=>(by have e':=O0a e2;go_simp)) λb11 G11 h11=>?_
 clear G10 h10;refine U2a (gi:=61) (p:=63) (m:=64) (f:=65) (l:=66) (e:=67) (q:=68) (t:=z_gone) (v:=(.bool a.gone)) (i:=12) (off:=19) (g:=g) rfl ⟨rfl,rfl,rfl⟩ ⟨rfl,rfl,rfl⟩ ⟨rfl,rfl,rfl⟩ ⟨rfl,rfl,rfl⟩ ⟨rfl,rfl⟩ (by decide) (by decide) (by decide) G11 h11 (m1b g) (n1a c_gone _ underlying4 rfl) (λa2 e2=>(by have e':=O0a e2;go_simp)) λb12 G12 h12=>?_
 clear G11 h11;have HT1:=HT.o;rw[HT1] at h12;refine P1a (v:=.bool r) (G7a (by simp[Region.wanted]) (.tmp 68) rfl _ h12) ?_;refine wpList_nil (hret _ _ (wp_ret ?_));have F9:=G12.put (d:=2) (v:=.bool r) (by decide);refine bodyPost_ret (results_tmp rfl _ _ _) F9.df ?_;refine⟨?_,L1.o⟩;have e9:(b12.put (some 2) (.bool r)).eval (.tmp 2)=.bool r:=K4a (by rw[G12.size];decide);exact congrArg Ending.returned e9
theorem World.setCells_only(g:Nat):∀(vs:List Value) (o:Nat) (w:World),s2a g w (w.setCells g o vs)
 | [],_,w=>s2a.refl g w
 | v::r,o,w=>by have h1:=d1a w g o v;have h2:=World.setCells_only g r (o+1) (w.setCell ⟨g,o,none⟩ v);exact⟨h2.os.trans h1.os,h2.tape.trans h1.tape,h2.output.trans h1.output,h2.size.trans h1.size,λi hi=>(h2.rest i hi).trans (h1.rest i hi)⟩
theorem Blk.setCells{g:Nat}{T:TypeId}:∀(vs:List Value) (o:Nat) (w:World) (cs:List Value),Blk w g T cs->o+vs.length<=cs.length->Blk (w.setCells g o vs) g T (cs.take o++(vs++cs.drop (o+vs.length)))
 | [],o,w,cs,h,_=>by
  show Blk w g T _
  rw[List.nil_append,List.length_nil,Nat.add_zero,List.take_append_drop];exact h
 | v::r,o,w,cs,h,hl=>by
  have hl':o+1+r.length<=cs.length:=by simp at hl;omega
  have h1:=h.set o v;have h2:=Blk.setCells r (o+1) _ _ h1 (by rw[List.length_set];exact hl');have e:(cs.set o v).take (o+1)++(r++(cs.set o v).drop (o+1+r.length))=cs.take o++((v::r)++cs.drop (o+(v::r).length)):=by
   have ho:o<cs.length:=by omega
   have e1:(cs.set o v).take (o+1)=cs.take o++[v]:=by rw[List.take_succ_eq_append_getElem (by rw[List.length_set];exact ho),List.take_set_of_le (Nat.le_refl o)];simp
   have e2:(cs.set o v).drop (o+1+r.length)=cs.drop (o+(v::r).length):=by
    rw[List.drop_set_of_lt (by omega),List.length_cons]
    congr 1
    omega
   rw[e1,e2];simp
  rw[e] at h2;exact h2
section
variable {P:Program} {ops:Array Oper} {rest:List Oper} {o:Oper} {a:Act} {w:World} {Q:Exit->Act->World->Prop}
theorem g1c{g:Nat}{T:TypeId}{cs:List Value}(h:Blk w g T cs)(i n:Nat)(hn:i+n<=cs.length):w.there g i n:=λj hj=>by
 refine⟨?_,h.frozen _⟩;rw[h.cell];have:i+j<cs.length:=by omega
 simp[this]
theorem n2a(hgd:o.guard=none)(ty:TypeId)(x y:Operand)(ho:o.op=.store ty x y)(g i:Nat)(hx:a.eval x=.pointer (some ⟨g,i,none⟩))(T:TypeId)(cs vs:List Value)(hy:a.eval y=.agg vs.toArray)
(hA:Hid (Blk w g T cs))(n:Nat)(hi:(P.info? ty).map (·.size)=some n)(hn:Hid (vs.length=n))(hl:Hid (i+n<=cs.length))(h1:Hid (∀v∈vs,v.oneCell'=true))
(h:∀w',Hid (Blk w' g T (cs.take i++(vs++cs.drop (i+n))))->Hid (s2a g w w')->g<w'.heap.size->wpList P ops Q rest a w')(hd:o.dst=none:=by rfl):wpList P ops Q (o::rest) a w:=by
 have hp:a.put o.dst undef=a:=by rw[hd];rfl
 have hnn:=hn.o;refine wpList_store_mid hgd ty x y ho g i vs.toArray hx hy (g1c hA.o i _ (by have:=hl.o;simp;omega)) (by rw[hi];simp[hnn]) (all_oneCell_toArray h1.o) ?_;rw[hp];have hb:=Blk.setCells vs i w cs hA.o (by have:=hl.o;omega);rw[hnn] at hb;have hO:=World.setCells_only g vs i w;refine h _ hb hO ?_;have:=hO.size;rw[show(w.setCells g i vs.toArray.toList)=w.setCells g i vs from rfl,this];exact hA.o.lt
theorem I8a{K:Act->World->Prop}{E:Prop}(hg:o.guard=none)(T:TypeId)(x y:Operand)(ho:o.op=.store T x y)(g i:Nat)(hx:a.eval x=.pointer (some ⟨g,i,none⟩))(T':TypeId)(cs:List Value)(u:Value)(hy:a.eval y=u)
(hA:Hid (Blk w g T' cs))(hi:Hid (i<cs.length))(hs:(P.info? T).map (·.size)=some 1)(h1:u.oneCell'=true)
(h:∀w',Hid (Blk w' g T' (cs.set i u))->Hid (s2a g w w')->g<w'.heap.size->K (a.put o.dst undef) w') :
  if Region.wanted o (yielded ops a.tmps)=true then Oper.wp P o a w K Q else E:=by
 have hw:Region.wanted o (yielded ops a.tmps)=true:=by simp[Region.wanted,hg]
 rw[if_pos hw];unfold Oper.wp execOp;simp only[ho,hx,hy,Instr.storeAt,Instr.sureAddr,Sem.run_bind,Sem.run_pure,Result.andThen_ok,g7a w g i T' T cs u hA.o hi.o hs h1];refine h _ (hA.o.set i u) (d1a w g i u) ?_;have:=(d1a w g i u).size;rw[this];exact hA.o.lt
end
theorem b4a{P:Program}{ops:Array Oper}{rest:List Oper}{o:Oper}{a:Act}{w:World}{Q:Exit->Act->World->Prop}(hw:Region.wanted o (yielded ops a.tmps)=true)(T:TypeId)(x:Operand)(ho:o.op=.load T x)(g:Nat)(hx:a.eval x=.pointer (some ⟨g,0,none⟩))(T':TypeId)(cs:List Value)
(hA:Hid (Blk w g T' cs))(n:Nat)(d:TypeDesc)(hu:P.underlying T=some d)(hd:(match d with | .struct _ | .array _ _=>true | _=>false)=true)(hi:(P.info? T).map (·.size)=some n)(hn:Hid (cs.length=n))
(h:wpList P ops Q rest (a.put o.dst (.agg cs.toArray)) w):wpList P ops Q (o::rest) a w:=
 wpList_step λK hK=>by rw[if_pos hw];exact wp_load_row T x ho g hx T' _ (0,0) d hA.o hu hd (by rw[hi];have:=hn.o;simp[this]) (hK _ _ h)
def pick(d:Nat×Nat):Int×Nat:=if d.1=65533/\d.2=1 then (0,0) else ((d.1:Int),d.2)
theorem d4a.holds{w:World}{base:Nat}{v:Value}{xs:List Int}(h:d4a .u8 5 w base v xs)(hx:Bytes xs)(hn:xs.length<=281474976710656) :
  ∃A c,v=.slice A xs.length c/\Holds w w.heap.size A xs.length c xs:=Own.holds (base:=base) h hx hn
def S0a(c:Int):Bool:=decide (c<=4)||c==13
theorem j0a{P:Program}{fn:Func}{p q:Tmp}{ty:TypeId}(h:fn.results=#[.cell p ty,.tmp q])(tmps:Array Value)(w:World)(g:Nat)(t:TypeId)(cs:Array Value)(fr:Nat×Nat)(d:TypeDesc)
(hp:tmps.getD p undef=.pointer (some ⟨g,0,none⟩))(hg:w.heap[g]? = some (.cells cs t fr))
(hu:P.underlying ty=some d)(hd:(match d with | .struct _ | .array _ _=>true | _=>false)=true)(hi:(P.info? ty).map (·.size)=some cs.size){v:Value}(hv:tmps.getD q undef=v) :
  (results fn tmps).run P w=.ok (.tuple #[.agg cs,v]) w:=by
 have hp':tmps[p]?.getD undef=.pointer (some ⟨g,0,none⟩):=by simpa using hp
 have hv':tmps[q]?.getD undef=v:=by simpa using hv
 simp[results,h,hp',hv',asAddr,run_loadVar_row w g t ty cs fr d hg hu hd hi]
def i1a(c:Int)(a:l1a):l1a:=if c=0 then { a with dial:=[],guid:=List.replicate 16 0 } else if c=1 then { a with proof:=List.replicate 32 0,user:=.empty } else if c=3 then { a with share:=.empty } else a
def v1a(c:Int)(s:O1a):O1a:=if c=0 then { s with dia:=0,siz:=0,chal:=List.replicate 8 0 } else s
theorem X5a{c:Int}{a:l1a}(k:a.ok):(i1a c a).ok:=by
 unfold i1a;split
 ·exact⟨λx h=>(by cases h),rfl,Bytes.zeros 16,k.plen,k.pbyte,k.acc,k.shr,k.way,k.opt,k.lev,k.dur,k.file,k.at_,k.n,k.data,k.locks,k.most,k.cls,k.siz⟩
 ·split
  ·exact⟨k.dial,k.glen,k.gbyte,rfl,Bytes.zeros 32,k.acc,k.shr,k.way,k.opt,k.lev,k.dur,k.file,k.at_,k.n,k.data,k.locks,k.most,k.cls,k.siz⟩
  ·split
   ·exact⟨k.dial,k.glen,k.gbyte,k.plen,k.pbyte,k.acc,k.shr,k.way,k.opt,k.lev,k.dur,k.file,k.at_,k.n,k.data,k.locks,k.most,k.cls,k.siz⟩
   ·exact k
theorem C0b{c:Int}{s:O1a}(k:s.ok):(v1a c s).ok:=by
 unfold v1a;split
 ·exact⟨by show(0:Int)<=0/\(0:Int)<=65535;decide,by show(0:Int)<=0/\(0:Int)<=18446744073709551615;decide,rfl,Bytes.zeros 8,k.lev,k.dur,k.made,k.file,k.kind,k.data,k.n,k.ents⟩
 ·exact k
section
variable {vd vx vl ve:Value} {a:l1a} {s:O1a}
theorem p7b(u:Value)(xs:List Int):(l0a vd vx vl a).set 0 u=l0a u vx vl { a with dial:=xs }:=rfl
theorem D0b(k:a.ok)(xs:List Int):(l0a vd vx vl a).take 1++(xs.map (Value.int .u8)++(l0a vd vx vl a).drop (1+16))=l0a vd vx vl { a with guid:=xs }:=by unfold l0a;rw[show 1+16=16+1 from rfl,List.drop_succ_cons,List.drop_left' (by rw[List.length_map];exact k.glen)];rfl
theorem y9a(k:a.ok)(xs:List Int):(l0a vd vx vl a).take 17++(xs.map (Value.int .u8)++(l0a vd vx vl a).drop (17+32))=l0a vd vx vl { a with proof:=xs }:=by unfold l0a;rw[show 17+32=48+1 from rfl,List.drop_succ_cons,show 17=16+1 from rfl,List.take_succ_cons,List.take_left' (by rw[List.length_map];exact k.glen),show 48=16+32 from rfl,<-List.drop_drop,List.drop_left' (by rw[List.length_map];exact k.glen),List.drop_left' (by rw[List.length_map];exact k.plen)];simp[p9a]
theorem w2b(k:a.ok)(u:ByteArray):(l0a vd vx vl a).set 49 (.string u)=l0a vd vx vl { a with user:=u }:=(y3b k 0 (.string u)).trans rfl
theorem E0b(k:a.ok)(u:ByteArray):(l0a vd vx vl a).set 50 (.string u)=l0a vd vx vl { a with share:=u }:=(y3b k 1 (.string u)).trans rfl
theorem p9b(x:Int):(u0a vx ve s).set 0 (.int .u16 x)=u0a vx ve { s with dia:=x }:=rfl
theorem q9b(x:Int):(u0a vx ve s).set 1 (.int .u64 x)=u0a vx ve { s with siz:=x }:=rfl
theorem F0b(k:s.ok)(xs:List Int):(u0a vx ve s).take 2++(xs.map (Value.int .u8)++(u0a vx ve s).drop (2+8))=u0a vx ve { s with chal:=xs }:=by unfold u0a;rw[show 2+8=8+1+1 from rfl,List.drop_succ_cons,List.drop_succ_cons,List.drop_left' (by rw[List.length_map];exact k.clen)];rfl
end
def z9a(w:World)(c:Int)(a:l1a)(e:Ending)(w':World):Prop:=∃ds,e=.returned (.tuple #[.agg ds.toArray,.bool (S0a c)])/\g1a w' w'.heap.size ds (if S0a c=true then i1a c a else i0a)/\BW w w'
theorem L4b(w:World)(c:Int)(cs:List Value)(a:l1a)(hc:0<=c/\c<=65535)(ka:a.ok)(ha:g1a w w.heap.size cs a) :
  Calls prog 76 #[.int .u16 c,.agg cs.toArray] w (z9a w c a):=by
 have HL:=hI (ha.len ka);have HO1:=hI ha.one;have ZH:=hI n8a;have BZ:=F7a;have HZ:Hid ((l0a (.slice none 0 0) (.slice none 0 0) (.slice none 0 0) i0a).length=69):=G1a h0a;have HZ1:Hid (∀v∈l0a (.slice none 0 0) (.slice none 0 0) (.slice none 0 0) i0a,v.oneCell'=true):=(V1a w 0).one;have HA:=hI ha;have HQ:Hid (∀e w',(∃ds,e=.returned (.tuple #[.agg ds.toArray,.bool (S0a c)])/\g1a w' w'.heap.size ds (if S0a c=true then i1a c a else i0a)/\BW w w')->z9a w c a e w'):=λ_ _ h=>h
 obtain⟨zs,hzs⟩:=xX (l0a (.slice none 0 0) (.slice none 0 0) (.slice none 0 0) i0a);have HZI:Hid (∀w':World,g1a w' w'.heap.size zs i0a):=by rw[hzs];exact λw'=>V1a w' _
 rw[<-hzs] at ZH BZ HZ HZ1;clear hzs;by_cases h0:c=0
 ·subst h0;have e0:(if S0a 0=true then i1a 0 a else i0a)={ a with dial:=[],guid:=List.replicate 16 0 }:=rfl;rw[e0,show S0a 0=true from rfl] at HQ;clear e0;obtain⟨A1,A2,A3,X1,X2,X3,M1,M2,M3,rfl,hA,hX,hM⟩:=ha;have HI:Hid (∀w':World,BW w w'->g1a w' w'.heap.size (l0a (.slice none 0 0) (.slice X1 X2 X3) (.slice M1 M2 M3) { a with dial:=[],guid:=List.replicate 16 0 }) ({ a with dial:=[],guid:=List.replicate 16 0 })):=λw' hb=>⟨none,0,0,X1,X2,X3,M1,M2,M3,rfl,J1a.nil _ _ _,hX.over hb,hM.over hb⟩
  have HN:Hid ((l0a (.slice none 0 0) (.slice X1 X2 X3) (.slice M1 M2 M3) { a with dial:=[],guid:=List.replicate 16 0 }).length=69):=G1a (by have:=X5a (c:=0) ka;exact this);have HN1:Hid (∀v∈l0a (.slice none 0 0) (.slice X1 X2 X3) (.slice M1 M2 M3) { a with dial:=[],guid:=List.replicate 16 0 },v.oneCell'=true):=x1a rfl rfl rfl;have HE0:Hid ((l0a (.slice A1 A2 A3) (.slice X1 X2 X3) (.slice M1 M2 M3) a).set 0 (.slice none 0 0)=l0a (.slice none 0 0) (.slice X1 X2 X3) (.slice M1 M2 M3) { a with dial:=[] }):=p7b _ [];have HE1:Hid ((l0a (.slice none 0 0) (.slice X1 X2 X3) (.slice M1 M2 M3) { a with dial:=[] }).take 1++((List.replicate 16 (0:Int)).map (Value.int .u8)++(l0a (.slice none 0 0) (.slice X1 X2 X3) (.slice M1 M2 M3) { a with dial:=[] }).drop (1+16))=l0a (.slice none 0 0) (.slice X1 X2 X3) (.slice M1 M2 M3) { a with dial:=[],guid:=List.replicate 16 0 }):=D0b (a:={ a with dial:=[] }) ⟨λx h=>(by cases h),ka.glen,ka.gbyte,ka.plen,ka.pbyte,ka.acc,ka.shr,ka.way,ka.opt,ka.lev,ka.dur,ka.file,ka.at_,ka.n,ka.data,ka.locks,ka.most,ka.cls,ka.siz⟩ (List.replicate 16 0);have HN0:Hid (0<(l0a (.slice A1 A2 A3) (.slice X1 X2 X3) (.slice M1 M2 M3) a).length):=by show _<_;simp[l0a,p9a,ka.glen,ka.plen]
  have HF:Hid (1+16<=(l0a (.slice none 0 0) (.slice X1 X2 X3) (.slice M1 M2 M3) { a with dial:=[] }).length):=by show _<=_;simp[l0a,p9a,ka.glen,ka.plen]
  have HLZ:Hid (((List.replicate 16 (0:Int)).map (Value.int .u8)).length=16):=by show _=_;simp
  have OZ:Hid (∀v∈(List.replicate 16 (0:Int)).map (Value.int .u8),v.oneCell'=true):=λv hv=>m8a hv
  have BL:=K3b;obtain⟨lz,hlz⟩:=xX ((List.replicate 16 (0:Int)).map (Value.int .u8));rw[<-hlz] at HLZ OZ BL HE1;clear hlz;obtain⟨cs,hcs⟩:=xX (l0a (.slice A1 A2 A3) (.slice X1 X2 X3) (.slice M1 M2 M3) a);rw[<-hcs] at HL HO1 HE0 HN0⊢;clear hcs HA hA hX hM;obtain⟨d0,hd0⟩:=xX (l0a (.slice none 0 0) (.slice X1 X2 X3) (.slice M1 M2 M3) { a with dial:=[] });rw[<-hd0] at HE0 HE1 HF;clear hd0;obtain⟨d1,hd1⟩:=xX (l0a (.slice none 0 0) (.slice X1 X2 X3) (.slice M1 M2 M3) { a with dial:=[],guid:=List.replicate 16 0 });rw[<-hd1] at HE1 HI HN HN1;clear hd1;go_enter func76,ntmps76;go_wp2_with(first|(refine sN 3 ?_;refine d0a rfl _ (.tmp 1) rfl cs rfl ?_;intro g w1 hg1 hg2 K1 L1)|(refine sN 4 ?_;refine b0a rfl _ rfl zs _ ZH ?_;intro h w2 hg3 hg4 Z2 L02;have G2:=hI (K1.o.over L02.o);have L2:=hI (step L1.o L02.o);have hgh:g≠h:=(by omega);have hhw:w.heap.size<=h:=(by have:=L1.o.size;omega))|(refine sT 11 ?_;refine x0a rfl _ (.tmp 11) (.const (.slice none 0 0)) rfl g 0 rfl _ cs (.slice none 0 0) rfl G2 HN0 (by kernel_rfl) rfl ?_;intro w3 K3 O3 q3;rw[HE0.o] at K3;have Z3:=hI (Z2.o.only O3.o (Ne.symm hgh));have L3:Hid (BW w w3):=c0a L2.o O3.o hg1)|(refine sT 12 ?_;refine n2a rfl _ (.tmp 12) (.tmp 10) rfl g 1 rfl _ d0 lz rfl K3 16 n3a HLZ HF OZ ?_;intro w4 K4 O4 q4;rw[HE1.o] at K4;have Z4:=hI (Z3.o.only O4.o (Ne.symm hgh));have L4:Hid (BW w w4):=c0a L3.o O4.o hg1)|(refine sN 10 ?_;refine r0a rfl _ rfl lz BL ?_)|(refine sN 25 ?_;refine e0a rfl _ (.tmp 3) rfl g rfl _ d1 K4 69 _ underlying34 rfl p0a HN ?_)|(refine sT 4 ?_;refine a0a rfl _ (.tmp 4) (.tmp 25) rfl h rfl _ zs d1 rfl Z4 69 p0a HZ HN HN1 ?_;intro w9 K9 O9 hg9)|fail)
  have L9:=hI (c0a L4.o O9.o hhw);refine bodyPost_ret (v:=.tuple #[.agg d1.toArray,.bool true]) ?_ rfl (HQ.o _ _ ⟨_,rfl,HI.o w9 L9.o,L9.o⟩);exact j0a rfl _ _ h _ _ (0,0) _ rfl K9.o underlying34 rfl (by rw[p0a];have:=HN.o;simp[this]) rfl
 by_cases h1:c=1
 ·subst h1;have e0:(if S0a 1=true then i1a 1 a else i0a)={ a with proof:=List.replicate 32 0,user:=.empty }:=rfl;rw[e0,show S0a 1=true from rfl] at HQ;clear e0;obtain⟨A1,A2,A3,X1,X2,X3,M1,M2,M3,rfl,hA,hX,hM⟩:=ha;have HI:Hid (∀w':World,BW w w'->g1a w' w'.heap.size (l0a (.slice A1 A2 A3) (.slice X1 X2 X3) (.slice M1 M2 M3) { a with proof:=List.replicate 32 0,user:=.empty }) ({ a with proof:=List.replicate 32 0,user:=.empty })):=λw' hb=>⟨A1,A2,A3,X1,X2,X3,M1,M2,M3,rfl,hA.over hb,hX.over hb,hM.over hb⟩
  have HN:Hid ((l0a (.slice A1 A2 A3) (.slice X1 X2 X3) (.slice M1 M2 M3) { a with proof:=List.replicate 32 0,user:=.empty }).length=69):=G1a (by have:=X5a (c:=1) ka;exact this);have HN1:Hid (∀v∈l0a (.slice A1 A2 A3) (.slice X1 X2 X3) (.slice M1 M2 M3) { a with proof:=List.replicate 32 0,user:=.empty },v.oneCell'=true):=x1a rfl rfl rfl;have HE0:Hid ((l0a (.slice A1 A2 A3) (.slice X1 X2 X3) (.slice M1 M2 M3) a).take 17++((List.replicate 32 (0:Int)).map (Value.int .u8)++(l0a (.slice A1 A2 A3) (.slice X1 X2 X3) (.slice M1 M2 M3) a).drop (17+32))=l0a (.slice A1 A2 A3) (.slice X1 X2 X3) (.slice M1 M2 M3) { a with proof:=List.replicate 32 0 }):=y9a ka (List.replicate 32 0);have HE1:Hid ((l0a (.slice A1 A2 A3) (.slice X1 X2 X3) (.slice M1 M2 M3) { a with proof:=List.replicate 32 0 }).set 49 (.string .empty)=l0a (.slice A1 A2 A3) (.slice X1 X2 X3) (.slice M1 M2 M3) { a with proof:=List.replicate 32 0,user:=.empty }):=w2b (a:={ a with proof:=List.replicate 32 0 }) ⟨ka.dial,ka.glen,ka.gbyte,rfl,Bytes.zeros 32,ka.acc,ka.shr,ka.way,ka.opt,ka.lev,ka.dur,ka.file,ka.at_,ka.n,ka.data,ka.locks,ka.most,ka.cls,ka.siz⟩ .empty;have HF:Hid (17+32<=(l0a (.slice A1 A2 A3) (.slice X1 X2 X3) (.slice M1 M2 M3) a).length):=by show _<=_;simp[l0a,p9a,ka.glen,ka.plen]
  have HN0:Hid (49<(l0a (.slice A1 A2 A3) (.slice X1 X2 X3) (.slice M1 M2 M3) { a with proof:=List.replicate 32 0 }).length):=by show _<_;simp[l0a,p9a,ka.glen]
  have HLZ:Hid (((List.replicate 32 (0:Int)).map (Value.int .u8)).length=32):=by show _=_;simp
  have OZ:Hid (∀v∈(List.replicate 32 (0:Int)).map (Value.int .u8),v.oneCell'=true):=λv hv=>m8a hv
  have BL:=k2b;obtain⟨lz,hlz⟩:=xX ((List.replicate 32 (0:Int)).map (Value.int .u8));rw[<-hlz] at HLZ OZ BL HE0;clear hlz;obtain⟨cs,hcs⟩:=xX (l0a (.slice A1 A2 A3) (.slice X1 X2 X3) (.slice M1 M2 M3) a);rw[<-hcs] at HL HO1 HE0 HF⊢;clear hcs HA hA hX hM;obtain⟨d0,hd0⟩:=xX (l0a (.slice A1 A2 A3) (.slice X1 X2 X3) (.slice M1 M2 M3) { a with proof:=List.replicate 32 0 });rw[<-hd0] at HE0 HE1 HN0;clear hd0;obtain⟨d1,hd1⟩:=xX (l0a (.slice A1 A2 A3) (.slice X1 X2 X3) (.slice M1 M2 M3) { a with proof:=List.replicate 32 0,user:=.empty });rw[<-hd1] at HE1 HI HN HN1;clear hd1;go_enter func76,ntmps76;go_wp2_with(first|(refine sN 3 ?_;refine d0a rfl _ (.tmp 1) rfl cs rfl ?_;intro g w1 hg1 hg2 K1 L1)|(refine sN 4 ?_;refine b0a rfl _ rfl zs _ ZH ?_;intro h w2 hg3 hg4 Z2 L02;have G2:=hI (K1.o.over L02.o);have L2:=hI (step L1.o L02.o);have hgh:g≠h:=(by omega);have hhw:w.heap.size<=h:=(by have:=L1.o.size;omega))|(refine sT 16 ?_;refine n2a rfl _ (.tmp 16) (.tmp 15) rfl g 17 rfl _ cs lz rfl G2 32 j4a HLZ HF OZ ?_;intro w3 K3 O3 q3;rw[HE0.o] at K3;have Z3:=hI (Z2.o.only O3.o (Ne.symm hgh));have L3:Hid (BW w w3):=c0a L2.o O3.o hg1)|(refine sT 17 ?_;refine x0a rfl _ (.tmp 17) (.const (.string .empty)) rfl g 49 rfl _ d0 (.string .empty) rfl K3 HN0 (by kernel_rfl) rfl ?_;intro w4 K4 O4 q4;rw[HE1.o] at K4;have Z4:=hI (Z3.o.only O4.o (Ne.symm hgh));have L4:Hid (BW w w4):=c0a L3.o O4.o hg1)|(refine sN 15 ?_;refine r0a rfl _ rfl lz BL ?_)|(refine sN 25 ?_;refine e0a rfl _ (.tmp 3) rfl g rfl _ d1 K4 69 _ underlying34 rfl p0a HN ?_)|(refine sT 4 ?_;refine a0a rfl _ (.tmp 4) (.tmp 25) rfl h rfl _ zs d1 rfl Z4 69 p0a HZ HN HN1 ?_;intro w9 K9 O9 hg9)|fail)
  have L9:=hI (c0a L4.o O9.o hhw);refine bodyPost_ret (v:=.tuple #[.agg d1.toArray,.bool true]) ?_ rfl (HQ.o _ _ ⟨_,rfl,HI.o w9 L9.o,L9.o⟩);exact j0a rfl _ _ h _ _ (0,0) _ rfl K9.o underlying34 rfl (by rw[p0a];have:=HN.o;simp[this]) rfl
 by_cases h3:c=3
 ·subst h3;have e0:(if S0a 3=true then i1a 3 a else i0a)={ a with share:=.empty }:=rfl;rw[e0,show S0a 3=true from rfl] at HQ;clear e0;obtain⟨A1,A2,A3,X1,X2,X3,M1,M2,M3,rfl,hA,hX,hM⟩:=ha;have HI:Hid (∀w':World,BW w w'->g1a w' w'.heap.size (l0a (.slice A1 A2 A3) (.slice X1 X2 X3) (.slice M1 M2 M3) { a with share:=.empty }) ({ a with share:=.empty })):=λw' hb=>⟨A1,A2,A3,X1,X2,X3,M1,M2,M3,rfl,hA.over hb,hX.over hb,hM.over hb⟩
  have HN:Hid ((l0a (.slice A1 A2 A3) (.slice X1 X2 X3) (.slice M1 M2 M3) { a with share:=.empty }).length=69):=G1a (by have:=X5a (c:=3) ka;exact this);have HN1:Hid (∀v∈l0a (.slice A1 A2 A3) (.slice X1 X2 X3) (.slice M1 M2 M3) { a with share:=.empty },v.oneCell'=true):=x1a rfl rfl rfl;have HE0:Hid ((l0a (.slice A1 A2 A3) (.slice X1 X2 X3) (.slice M1 M2 M3) a).set 50 (.string .empty)=l0a (.slice A1 A2 A3) (.slice X1 X2 X3) (.slice M1 M2 M3) { a with share:=.empty }):=E0b ka .empty;have HN0:Hid (50<(l0a (.slice A1 A2 A3) (.slice X1 X2 X3) (.slice M1 M2 M3) a).length):=by show _<_;simp[l0a,p9a,ka.glen,ka.plen]
  obtain⟨cs,hcs⟩:=xX (l0a (.slice A1 A2 A3) (.slice X1 X2 X3) (.slice M1 M2 M3) a);rw[<-hcs] at HL HO1 HE0 HN0⊢;clear hcs HA hA hX hM;obtain⟨d0,hd0⟩:=xX (l0a (.slice A1 A2 A3) (.slice X1 X2 X3) (.slice M1 M2 M3) { a with share:=.empty });rw[<-hd0] at HE0 HI HN HN1;clear hd0;go_enter func76,ntmps76;go_wp2_with(first|(refine sN 3 ?_;refine d0a rfl _ (.tmp 1) rfl cs rfl ?_;intro g w1 hg1 hg2 K1 L1)|(refine sN 4 ?_;refine b0a rfl _ rfl zs _ ZH ?_;intro h w2 hg3 hg4 Z2 L02;have G2:=hI (K1.o.over L02.o);have L2:=hI (step L1.o L02.o);have hgh:g≠h:=(by omega);have hhw:w.heap.size<=h:=(by have:=L1.o.size;omega))|(refine sT 20 ?_;refine x0a rfl _ (.tmp 20) (.const (.string .empty)) rfl g 50 rfl _ cs (.string .empty) rfl G2 HN0 (by kernel_rfl) rfl ?_;intro w3 K3 O3 q3;rw[HE0.o] at K3;have Z3:=hI (Z2.o.only O3.o (Ne.symm hgh));have L3:Hid (BW w w3):=c0a L2.o O3.o hg1)|(refine sN 25 ?_;refine e0a rfl _ (.tmp 3) rfl g rfl _ d0 K3 69 _ underlying34 rfl p0a HN ?_)|(refine sT 4 ?_;refine a0a rfl _ (.tmp 4) (.tmp 25) rfl h rfl _ zs d0 rfl Z3 69 p0a HZ HN HN1 ?_;intro w9 K9 O9 hg9)|fail)
  have L9:=hI (c0a L3.o O9.o hhw);refine bodyPost_ret (v:=.tuple #[.agg d0.toArray,.bool true]) ?_ rfl (HQ.o _ _ ⟨_,rfl,HI.o w9 L9.o,L9.o⟩);exact j0a rfl _ _ h _ _ (0,0) _ rfl K9.o underlying34 rfl (by rw[p0a];have:=HN.o;simp[this]) rfl
 by_cases h2:c=2
 ·subst h2;have e0:(if S0a 2=true then i1a 2 a else i0a)=a:=rfl;rw[e0,show S0a 2=true from rfl] at HQ;clear e0;obtain⟨A1,A2,A3,X1,X2,X3,M1,M2,M3,rfl,hA,hX,hM⟩:=ha;have HI:Hid (∀w':World,BW w w'->g1a w' w'.heap.size (l0a (.slice A1 A2 A3) (.slice X1 X2 X3) (.slice M1 M2 M3) a) (a)):=λw' hb=>⟨A1,A2,A3,X1,X2,X3,M1,M2,M3,rfl,hA.over hb,hX.over hb,hM.over hb⟩
  have HN:Hid ((l0a (.slice A1 A2 A3) (.slice X1 X2 X3) (.slice M1 M2 M3) a).length=69):=G1a (ka);have HN1:Hid (∀v∈l0a (.slice A1 A2 A3) (.slice X1 X2 X3) (.slice M1 M2 M3) a,v.oneCell'=true):=x1a rfl rfl rfl;obtain⟨cs,hcs⟩:=xX (l0a (.slice A1 A2 A3) (.slice X1 X2 X3) (.slice M1 M2 M3) a);rw[<-hcs] at HL HO1 HI HN HN1⊢;clear hcs HA hA hX hM;go_enter func76,ntmps76;go_wp2_with(first|(refine sN 3 ?_;refine d0a rfl _ (.tmp 1) rfl cs rfl ?_;intro g w1 hg1 hg2 K1 L1)|(refine sN 4 ?_;refine b0a rfl _ rfl zs _ ZH ?_;intro h w2 hg3 hg4 Z2 L02;have G2:=hI (K1.o.over L02.o);have L2:=hI (step L1.o L02.o);have hgh:g≠h:=(by omega);have hhw:w.heap.size<=h:=(by have:=L1.o.size;omega))|(refine sN 25 ?_;refine e0a rfl _ (.tmp 3) rfl g rfl _ cs G2 69 _ underlying34 rfl p0a HN ?_)|(refine sT 4 ?_;refine a0a rfl _ (.tmp 4) (.tmp 25) rfl h rfl _ zs cs rfl Z2 69 p0a HZ HN HN1 ?_;intro w9 K9 O9 hg9)|fail)
  have L9:=hI (c0a L2.o O9.o hhw);refine bodyPost_ret (v:=.tuple #[.agg cs.toArray,.bool true]) ?_ rfl (HQ.o _ _ ⟨_,rfl,HI.o w9 L9.o,L9.o⟩);exact j0a rfl _ _ h _ _ (0,0) _ rfl K9.o underlying34 rfl (by rw[p0a];have:=HN.o;simp[this]) rfl
 by_cases h4:c=4
 ·subst h4;have e0:(if S0a 4=true then i1a 4 a else i0a)=a:=rfl;rw[e0,show S0a 4=true from rfl] at HQ;clear e0;obtain⟨A1,A2,A3,X1,X2,X3,M1,M2,M3,rfl,hA,hX,hM⟩:=ha;have HI:Hid (∀w':World,BW w w'->g1a w' w'.heap.size (l0a (.slice A1 A2 A3) (.slice X1 X2 X3) (.slice M1 M2 M3) a) (a)):=λw' hb=>⟨A1,A2,A3,X1,X2,X3,M1,M2,M3,rfl,hA.over hb,hX.over hb,hM.over hb⟩
  have HN:Hid ((l0a (.slice A1 A2 A3) (.slice X1 X2 X3) (.slice M1 M2 M3) a).length=69):=G1a (ka);have HN1:Hid (∀v∈l0a (.slice A1 A2 A3) (.slice X1 X2 X3) (.slice M1 M2 M3) a,v.oneCell'=true):=x1a rfl rfl rfl;obtain⟨cs,hcs⟩:=xX (l0a (.slice A1 A2 A3) (.slice X1 X2 X3) (.slice M1 M2 M3) a);rw[<-hcs] at HL HO1 HI HN HN1⊢;clear hcs HA hA hX hM;go_enter func76,ntmps76;go_wp2_with(first|(refine sN 3 ?_;refine d0a rfl _ (.tmp 1) rfl cs rfl ?_;intro g w1 hg1 hg2 K1 L1)|(refine sN 4 ?_;refine b0a rfl _ rfl zs _ ZH ?_;intro h w2 hg3 hg4 Z2 L02;have G2:=hI (K1.o.over L02.o);have L2:=hI (step L1.o L02.o);have hgh:g≠h:=(by omega);have hhw:w.heap.size<=h:=(by have:=L1.o.size;omega))|(refine sN 25 ?_;refine e0a rfl _ (.tmp 3) rfl g rfl _ cs G2 69 _ underlying34 rfl p0a HN ?_)|(refine sT 4 ?_;refine a0a rfl _ (.tmp 4) (.tmp 25) rfl h rfl _ zs cs rfl Z2 69 p0a HZ HN HN1 ?_;intro w9 K9 O9 hg9)|fail)
  have L9:=hI (c0a L2.o O9.o hhw);refine bodyPost_ret (v:=.tuple #[.agg cs.toArray,.bool true]) ?_ rfl (HQ.o _ _ ⟨_,rfl,HI.o w9 L9.o,L9.o⟩);exact j0a rfl _ _ h _ _ (0,0) _ rfl K9.o underlying34 rfl (by rw[p0a];have:=HN.o;simp[this]) rfl
 by_cases h13:c=13
 ·subst h13;have e0:(if S0a 13=true then i1a 13 a else i0a)=a:=rfl;rw[e0,show S0a 13=true from rfl] at HQ;clear e0;obtain⟨A1,A2,A3,X1,X2,X3,M1,M2,M3,rfl,hA,hX,hM⟩:=ha;have HI:Hid (∀w':World,BW w w'->g1a w' w'.heap.size (l0a (.slice A1 A2 A3) (.slice X1 X2 X3) (.slice M1 M2 M3) a) (a)):=λw' hb=>⟨A1,A2,A3,X1,X2,X3,M1,M2,M3,rfl,hA.over hb,hX.over hb,hM.over hb⟩
  have HN:Hid ((l0a (.slice A1 A2 A3) (.slice X1 X2 X3) (.slice M1 M2 M3) a).length=69):=G1a (ka);have HN1:Hid (∀v∈l0a (.slice A1 A2 A3) (.slice X1 X2 X3) (.slice M1 M2 M3) a,v.oneCell'=true):=x1a rfl rfl rfl;obtain⟨cs,hcs⟩:=xX (l0a (.slice A1 A2 A3) (.slice X1 X2 X3) (.slice M1 M2 M3) a);rw[<-hcs] at HL HO1 HI HN HN1⊢;clear hcs HA hA hX hM;go_enter func76,ntmps76;go_wp2_with(first|(refine sN 3 ?_;refine d0a rfl _ (.tmp 1) rfl cs rfl ?_;intro g w1 hg1 hg2 K1 L1)|(refine sN 4 ?_;refine b0a rfl _ rfl zs _ ZH ?_;intro h w2 hg3 hg4 Z2 L02;have G2:=hI (K1.o.over L02.o);have L2:=hI (step L1.o L02.o);have hgh:g≠h:=(by omega);have hhw:w.heap.size<=h:=(by have:=L1.o.size;omega))|(refine sN 25 ?_;refine e0a rfl _ (.tmp 3) rfl g rfl _ cs G2 69 _ underlying34 rfl p0a HN ?_)|(refine sT 4 ?_;refine a0a rfl _ (.tmp 4) (.tmp 25) rfl h rfl _ zs cs rfl Z2 69 p0a HZ HN HN1 ?_;intro w9 K9 O9 hg9)|fail)
  have L9:=hI (c0a L2.o O9.o hhw);refine bodyPost_ret (v:=.tuple #[.agg cs.toArray,.bool true]) ?_ rfl (HQ.o _ _ ⟨_,rfl,HI.o w9 L9.o,L9.o⟩);exact j0a rfl _ _ h _ _ (0,0) _ rfl K9.o underlying34 rfl (by rw[p0a];have:=HN.o;simp[this]) rfl
 have hk:S0a c=false:=by unfold S0a;simp;omega
 rw[if_neg (by rw[hk];decide),hk] at HQ;have b0:(c==0)=false:=bF h0
 have b1:(c==1)=false:=bF h1
 have b3:(c==3)=false:=bF h3
 have b2:(c==2)=false:=bF h2
 have b4:(c==4)=false:=bF h4
 have b13:(c==13)=false:=bF h13
 go_enter func76,ntmps76;go_wp2_with(first|(refine sN 3 ?_;refine d0a rfl _ (.tmp 1) rfl cs rfl ?_;intro g w1 hg1 hg2 K1 L1)|(refine sN 4 ?_;refine b0a rfl _ rfl zs _ ZH ?_;intro h w2 hg3 hg4 Z2 L02;have G2:=hI (K1.o.over L02.o);have L2:=hI (step L1.o L02.o);have hgh:g≠h:=(by omega);have hhw:w.heap.size<=h:=(by have:=L1.o.size;omega))|(refine sN 7 ?_;refine r0a rfl _ rfl zs BZ ?_)|(refine sT 4 ?_;refine a0a rfl _ (.tmp 4) (.tmp 7) rfl h rfl _ zs zs rfl Z2 69 p0a HZ HZ HZ1 ?_;intro w9 K9 O9 hg9)|fail)
 have L9:=hI (c0a L2.o O9.o hhw);refine bodyPost_ret (v:=.tuple #[.agg zs.toArray,.bool false]) ?_ rfl (HQ.o _ _ ⟨_,rfl,HZI.o w9,L9.o⟩);exact j0a rfl _ _ h _ _ (0,0) _ rfl K9.o underlying34 rfl (by rw[p0a];have:=HZ.o;simp[this]) rfl
def A9a(w:World)(c:Int)(a:O1a)(e:Ending)(w':World):Prop:=∃ds,e=.returned (.tuple #[.agg ds.toArray,.bool (S0a c)])/\s1a w' w'.heap.size ds (if S0a c=true then v1a c a else n0a)/\BW w w'
theorem M4b(w:World)(c:Int)(cs:List Value)(a:O1a)(hc:0<=c/\c<=65535)(ka:a.ok)(ha:s1a w w.heap.size cs a) :
  Calls prog 85 #[.int .u16 c,.agg cs.toArray] w (A9a w c a):=by
 have HL:=hI (ha.len ka);have HO1:=hI ha.one;have ZH:=hI q9a;have BZ:=r9a;have HZ:Hid ((u0a (.slice none 0 0) (.slice none 0 0) n0a).length=20):=m2a I0a;have HZ1:Hid (∀v∈u0a (.slice none 0 0) (.slice none 0 0) n0a,v.oneCell'=true):=(v2a w 0).one;have HA:=hI ha;have HQ:Hid (∀e w',(∃ds,e=.returned (.tuple #[.agg ds.toArray,.bool (S0a c)])/\s1a w' w'.heap.size ds (if S0a c=true then v1a c a else n0a)/\BW w w')->A9a w c a e w'):=λ_ _ h=>h
 obtain⟨zs,hzs⟩:=xX (u0a (.slice none 0 0) (.slice none 0 0) n0a);have HZI:Hid (∀w':World,s1a w' w'.heap.size zs n0a):=by rw[hzs];exact λw'=>v2a w' _
 rw[<-hzs] at ZH BZ HZ HZ1;clear hzs;by_cases h0:c=0
 ·subst h0;have e0:(if S0a 0=true then v1a 0 a else n0a)={ a with dia:=0,siz:=0,chal:=List.replicate 8 0 }:=rfl;rw[e0,show S0a 0=true from rfl] at HQ;clear e0;obtain⟨X1,X2,X3,M1,M2,M3,rfl,hX,hM⟩:=ha;have HI:Hid (∀w':World,BW w w'->s1a w' w'.heap.size (u0a (.slice X1 X2 X3) (.slice M1 M2 M3) { a with dia:=0,siz:=0,chal:=List.replicate 8 0 }) ({ a with dia:=0,siz:=0,chal:=List.replicate 8 0 })):=λw' hb=>⟨X1,X2,X3,M1,M2,M3,rfl,hX.over hb,hM.over hb⟩
  have HN:Hid ((u0a (.slice X1 X2 X3) (.slice M1 M2 M3) { a with dia:=0,siz:=0,chal:=List.replicate 8 0 }).length=20):=m2a (by have:=C0b (c:=0) ka;exact this);have HN1:Hid (∀v∈u0a (.slice X1 X2 X3) (.slice M1 M2 M3) { a with dia:=0,siz:=0,chal:=List.replicate 8 0 },v.oneCell'=true):=N1a rfl rfl;have HE0:Hid ((u0a (.slice X1 X2 X3) (.slice M1 M2 M3) a).set 0 (.int .u16 0)=u0a (.slice X1 X2 X3) (.slice M1 M2 M3) { a with dia:=0 }):=p9b 0;have HE1:Hid ((u0a (.slice X1 X2 X3) (.slice M1 M2 M3) { a with dia:=0 }).set 1 (.int .u64 0)=u0a (.slice X1 X2 X3) (.slice M1 M2 M3) { a with dia:=0,siz:=0 }):=q9b 0;have HE2:Hid ((u0a (.slice X1 X2 X3) (.slice M1 M2 M3) { a with dia:=0,siz:=0 }).take 2++((List.replicate 8 (0:Int)).map (Value.int .u8)++(u0a (.slice X1 X2 X3) (.slice M1 M2 M3) { a with dia:=0,siz:=0 }).drop (2+8))=u0a (.slice X1 X2 X3) (.slice M1 M2 M3) { a with dia:=0,siz:=0,chal:=List.replicate 8 0 }):=F0b (s:={ a with dia:=0,siz:=0 }) ⟨by show(0:Int)<=0/\(0:Int)<=65535;decide,by show(0:Int)<=0/\(0:Int)<=18446744073709551615;decide,ka.clen,ka.cbyte,ka.lev,ka.dur,ka.made,ka.file,ka.kind,ka.data,ka.n,ka.ents⟩ (List.replicate 8 0);have HN0:Hid (0<(u0a (.slice X1 X2 X3) (.slice M1 M2 M3) a).length):=by show _<_;simp[u0a,A4b,ka.clen]
  have HN2:Hid (1<(u0a (.slice X1 X2 X3) (.slice M1 M2 M3) { a with dia:=0 }).length):=by show _<_;simp[u0a,A4b,ka.clen]
  have HF:Hid (2+8<=(u0a (.slice X1 X2 X3) (.slice M1 M2 M3) { a with dia:=0,siz:=0 }).length):=by show _<=_;simp[u0a,A4b,ka.clen]
  have HLZ:Hid (((List.replicate 8 (0:Int)).map (Value.int .u8)).length=8):=by show _=_;simp
  have OZ:Hid (∀v∈(List.replicate 8 (0:Int)).map (Value.int .u8),v.oneCell'=true):=λv hv=>m8a hv
  have BL:=L3b;obtain⟨lz,hlz⟩:=xX ((List.replicate 8 (0:Int)).map (Value.int .u8));rw[<-hlz] at HLZ OZ BL HE2;clear hlz;obtain⟨cs,hcs⟩:=xX (u0a (.slice X1 X2 X3) (.slice M1 M2 M3) a);rw[<-hcs] at HL HO1 HE0 HN0⊢;clear hcs HA hX hM;obtain⟨d0,hd0⟩:=xX (u0a (.slice X1 X2 X3) (.slice M1 M2 M3) { a with dia:=0 });rw[<-hd0] at HE0 HE1 HN2;clear hd0;obtain⟨d1,hd1⟩:=xX (u0a (.slice X1 X2 X3) (.slice M1 M2 M3) { a with dia:=0,siz:=0 });rw[<-hd1] at HE1 HE2 HF;clear hd1;obtain⟨d2,hd2⟩:=xX (u0a (.slice X1 X2 X3) (.slice M1 M2 M3) { a with dia:=0,siz:=0,chal:=List.replicate 8 0 });rw[<-hd2] at HE2 HI HN HN1;clear hd2;go_enter func85,ntmps85;go_wp2_with(first|(refine sN 3 ?_;refine d0a rfl _ (.tmp 1) rfl cs rfl ?_;intro g w1 hg1 hg2 K1 L1)|(refine sN 4 ?_;refine b0a rfl _ rfl zs _ ZH ?_;intro h w2 hg3 hg4 Z2 L02;have G2:=hI (K1.o.over L02.o);have L2:=hI (step L1.o L02.o);have hgh:g≠h:=(by omega);have hhw:w.heap.size<=h:=(by have:=L1.o.size;omega))|(refine sT 11 ?_;refine x0a rfl _ (.tmp 11) (.const (.int .u16 0)) rfl g 0 rfl _ cs (.int .u16 0) rfl G2 HN0 (by kernel_rfl) rfl ?_;intro w3 K3 O3 q3;rw[HE0.o] at K3;have Z3:=hI (Z2.o.only O3.o (Ne.symm hgh));have L3:Hid (BW w w3):=c0a L2.o O3.o hg1)|(refine sT 12 ?_;refine x0a rfl _ (.tmp 12) (.const (.int .u64 0)) rfl g 1 rfl _ d0 (.int .u64 0) rfl K3 HN2 (by kernel_rfl) rfl ?_;intro w4 K4 O4 q4;rw[HE1.o] at K4;have Z4:=hI (Z3.o.only O4.o (Ne.symm hgh));have L4:Hid (BW w w4):=c0a L3.o O4.o hg1)|(refine sT 13 ?_;refine n2a rfl _ (.tmp 13) (.tmp 10) rfl g 2 rfl _ d1 lz rfl K4 8 O4a HLZ HF OZ ?_;intro w5 K5 O5 q5;rw[HE2.o] at K5;have Z5:=hI (Z4.o.only O5.o (Ne.symm hgh));have L5:Hid (BW w w5):=c0a L4.o O5.o hg1)|(refine sN 10 ?_;refine r0a rfl _ rfl lz BL ?_)|(refine sN 20 ?_;refine e0a rfl _ (.tmp 3) rfl g rfl _ d2 K5 20 _ underlying39 rfl t0a HN ?_)|(refine sT 4 ?_;refine a0a rfl _ (.tmp 4) (.tmp 20) rfl h rfl _ zs d2 rfl Z5 20 t0a HZ HN HN1 ?_;intro w9 K9 O9 hg9)|fail)
  have L9:=hI (c0a L5.o O9.o hhw);refine bodyPost_ret (v:=.tuple #[.agg d2.toArray,.bool true]) ?_ rfl (HQ.o _ _ ⟨_,rfl,HI.o w9 L9.o,L9.o⟩);exact j0a rfl _ _ h _ _ (0,0) _ rfl K9.o underlying39 rfl (by rw[t0a];have:=HN.o;simp[this]) rfl
 by_cases h1:c=1
 ·subst h1;have e0:(if S0a 1=true then v1a 1 a else n0a)=a:=rfl;rw[e0,show S0a 1=true from rfl] at HQ;clear e0;obtain⟨X1,X2,X3,M1,M2,M3,rfl,hX,hM⟩:=ha;have HI:Hid (∀w':World,BW w w'->s1a w' w'.heap.size (u0a (.slice X1 X2 X3) (.slice M1 M2 M3) a) (a)):=λw' hb=>⟨X1,X2,X3,M1,M2,M3,rfl,hX.over hb,hM.over hb⟩
  have HN:Hid ((u0a (.slice X1 X2 X3) (.slice M1 M2 M3) a).length=20):=m2a (ka);have HN1:Hid (∀v∈u0a (.slice X1 X2 X3) (.slice M1 M2 M3) a,v.oneCell'=true):=N1a rfl rfl;obtain⟨cs,hcs⟩:=xX (u0a (.slice X1 X2 X3) (.slice M1 M2 M3) a);rw[<-hcs] at HL HO1 HI HN HN1⊢;clear hcs HA hX hM;go_enter func85,ntmps85;go_wp2_with(first|(refine sN 3 ?_;refine d0a rfl _ (.tmp 1) rfl cs rfl ?_;intro g w1 hg1 hg2 K1 L1)|(refine sN 4 ?_;refine b0a rfl _ rfl zs _ ZH ?_;intro h w2 hg3 hg4 Z2 L02;have G2:=hI (K1.o.over L02.o);have L2:=hI (step L1.o L02.o);have hgh:g≠h:=(by omega);have hhw:w.heap.size<=h:=(by have:=L1.o.size;omega))|(refine sN 20 ?_;refine e0a rfl _ (.tmp 3) rfl g rfl _ cs G2 20 _ underlying39 rfl t0a HN ?_)|(refine sT 4 ?_;refine a0a rfl _ (.tmp 4) (.tmp 20) rfl h rfl _ zs cs rfl Z2 20 t0a HZ HN HN1 ?_;intro w9 K9 O9 hg9)|fail)
  have L9:=hI (c0a L2.o O9.o hhw);refine bodyPost_ret (v:=.tuple #[.agg cs.toArray,.bool true]) ?_ rfl (HQ.o _ _ ⟨_,rfl,HI.o w9 L9.o,L9.o⟩);exact j0a rfl _ _ h _ _ (0,0) _ rfl K9.o underlying39 rfl (by rw[t0a];have:=HN.o;simp[this]) rfl
 by_cases h3:c=3
 ·subst h3;have e0:(if S0a 3=true then v1a 3 a else n0a)=a:=rfl;rw[e0,show S0a 3=true from rfl] at HQ;clear e0;obtain⟨X1,X2,X3,M1,M2,M3,rfl,hX,hM⟩:=ha;have HI:Hid (∀w':World,BW w w'->s1a w' w'.heap.size (u0a (.slice X1 X2 X3) (.slice M1 M2 M3) a) (a)):=λw' hb=>⟨X1,X2,X3,M1,M2,M3,rfl,hX.over hb,hM.over hb⟩
  have HN:Hid ((u0a (.slice X1 X2 X3) (.slice M1 M2 M3) a).length=20):=m2a (ka);have HN1:Hid (∀v∈u0a (.slice X1 X2 X3) (.slice M1 M2 M3) a,v.oneCell'=true):=N1a rfl rfl;obtain⟨cs,hcs⟩:=xX (u0a (.slice X1 X2 X3) (.slice M1 M2 M3) a);rw[<-hcs] at HL HO1 HI HN HN1⊢;clear hcs HA hX hM;go_enter func85,ntmps85;go_wp2_with(first|(refine sN 3 ?_;refine d0a rfl _ (.tmp 1) rfl cs rfl ?_;intro g w1 hg1 hg2 K1 L1)|(refine sN 4 ?_;refine b0a rfl _ rfl zs _ ZH ?_;intro h w2 hg3 hg4 Z2 L02;have G2:=hI (K1.o.over L02.o);have L2:=hI (step L1.o L02.o);have hgh:g≠h:=(by omega);have hhw:w.heap.size<=h:=(by have:=L1.o.size;omega))|(refine sN 20 ?_;refine e0a rfl _ (.tmp 3) rfl g rfl _ cs G2 20 _ underlying39 rfl t0a HN ?_)|(refine sT 4 ?_;refine a0a rfl _ (.tmp 4) (.tmp 20) rfl h rfl _ zs cs rfl Z2 20 t0a HZ HN HN1 ?_;intro w9 K9 O9 hg9)|fail)
  have L9:=hI (c0a L2.o O9.o hhw);refine bodyPost_ret (v:=.tuple #[.agg cs.toArray,.bool true]) ?_ rfl (HQ.o _ _ ⟨_,rfl,HI.o w9 L9.o,L9.o⟩);exact j0a rfl _ _ h _ _ (0,0) _ rfl K9.o underlying39 rfl (by rw[t0a];have:=HN.o;simp[this]) rfl
 by_cases h2:c=2
 ·subst h2;have e0:(if S0a 2=true then v1a 2 a else n0a)=a:=rfl;rw[e0,show S0a 2=true from rfl] at HQ;clear e0;obtain⟨X1,X2,X3,M1,M2,M3,rfl,hX,hM⟩:=ha;have HI:Hid (∀w':World,BW w w'->s1a w' w'.heap.size (u0a (.slice X1 X2 X3) (.slice M1 M2 M3) a) (a)):=λw' hb=>⟨X1,X2,X3,M1,M2,M3,rfl,hX.over hb,hM.over hb⟩
  have HN:Hid ((u0a (.slice X1 X2 X3) (.slice M1 M2 M3) a).length=20):=m2a (ka);have HN1:Hid (∀v∈u0a (.slice X1 X2 X3) (.slice M1 M2 M3) a,v.oneCell'=true):=N1a rfl rfl;obtain⟨cs,hcs⟩:=xX (u0a (.slice X1 X2 X3) (.slice M1 M2 M3) a);rw[<-hcs] at HL HO1 HI HN HN1⊢;clear hcs HA hX hM;go_enter func85,ntmps85;go_wp2_with(first|(refine sN 3 ?_;refine d0a rfl _ (.tmp 1) rfl cs rfl ?_;intro g w1 hg1 hg2 K1 L1)|(refine sN 4 ?_;refine b0a rfl _ rfl zs _ ZH ?_;intro h w2 hg3 hg4 Z2 L02;have G2:=hI (K1.o.over L02.o);have L2:=hI (step L1.o L02.o);have hgh:g≠h:=(by omega);have hhw:w.heap.size<=h:=(by have:=L1.o.size;omega))|(refine sN 20 ?_;refine e0a rfl _ (.tmp 3) rfl g rfl _ cs G2 20 _ underlying39 rfl t0a HN ?_)|(refine sT 4 ?_;refine a0a rfl _ (.tmp 4) (.tmp 20) rfl h rfl _ zs cs rfl Z2 20 t0a HZ HN HN1 ?_;intro w9 K9 O9 hg9)|fail)
  have L9:=hI (c0a L2.o O9.o hhw);refine bodyPost_ret (v:=.tuple #[.agg cs.toArray,.bool true]) ?_ rfl (HQ.o _ _ ⟨_,rfl,HI.o w9 L9.o,L9.o⟩);exact j0a rfl _ _ h _ _ (0,0) _ rfl K9.o underlying39 rfl (by rw[t0a];have:=HN.o;simp[this]) rfl
 by_cases h4:c=4
 ·subst h4;have e0:(if S0a 4=true then v1a 4 a else n0a)=a:=rfl;rw[e0,show S0a 4=true from rfl] at HQ;clear e0;obtain⟨X1,X2,X3,M1,M2,M3,rfl,hX,hM⟩:=ha;have HI:Hid (∀w':World,BW w w'->s1a w' w'.heap.size (u0a (.slice X1 X2 X3) (.slice M1 M2 M3) a) (a)):=λw' hb=>⟨X1,X2,X3,M1,M2,M3,rfl,hX.over hb,hM.over hb⟩
  have HN:Hid ((u0a (.slice X1 X2 X3) (.slice M1 M2 M3) a).length=20):=m2a (ka);have HN1:Hid (∀v∈u0a (.slice X1 X2 X3) (.slice M1 M2 M3) a,v.oneCell'=true):=N1a rfl rfl;obtain⟨cs,hcs⟩:=xX (u0a (.slice X1 X2 X3) (.slice M1 M2 M3) a);rw[<-hcs] at HL HO1 HI HN HN1⊢;clear hcs HA hX hM;go_enter func85,ntmps85;go_wp2_with(first|(refine sN 3 ?_;refine d0a rfl _ (.tmp 1) rfl cs rfl ?_;intro g w1 hg1 hg2 K1 L1)|(refine sN 4 ?_;refine b0a rfl _ rfl zs _ ZH ?_;intro h w2 hg3 hg4 Z2 L02;have G2:=hI (K1.o.over L02.o);have L2:=hI (step L1.o L02.o);have hgh:g≠h:=(by omega);have hhw:w.heap.size<=h:=(by have:=L1.o.size;omega))|(refine sN 20 ?_;refine e0a rfl _ (.tmp 3) rfl g rfl _ cs G2 20 _ underlying39 rfl t0a HN ?_)|(refine sT 4 ?_;refine a0a rfl _ (.tmp 4) (.tmp 20) rfl h rfl _ zs cs rfl Z2 20 t0a HZ HN HN1 ?_;intro w9 K9 O9 hg9)|fail)
  have L9:=hI (c0a L2.o O9.o hhw);refine bodyPost_ret (v:=.tuple #[.agg cs.toArray,.bool true]) ?_ rfl (HQ.o _ _ ⟨_,rfl,HI.o w9 L9.o,L9.o⟩);exact j0a rfl _ _ h _ _ (0,0) _ rfl K9.o underlying39 rfl (by rw[t0a];have:=HN.o;simp[this]) rfl
 by_cases h13:c=13
 ·subst h13;have e0:(if S0a 13=true then v1a 13 a else n0a)=a:=rfl;rw[e0,show S0a 13=true from rfl] at HQ;clear e0;obtain⟨X1,X2,X3,M1,M2,M3,rfl,hX,hM⟩:=ha;have HI:Hid (∀w':World,BW w w'->s1a w' w'.heap.size (u0a (.slice X1 X2 X3) (.slice M1 M2 M3) a) (a)):=λw' hb=>⟨X1,X2,X3,M1,M2,M3,rfl,hX.over hb,hM.over hb⟩
  have HN:Hid ((u0a (.slice X1 X2 X3) (.slice M1 M2 M3) a).length=20):=m2a (ka);have HN1:Hid (∀v∈u0a (.slice X1 X2 X3) (.slice M1 M2 M3) a,v.oneCell'=true):=N1a rfl rfl;obtain⟨cs,hcs⟩:=xX (u0a (.slice X1 X2 X3) (.slice M1 M2 M3) a);rw[<-hcs] at HL HO1 HI HN HN1⊢;clear hcs HA hX hM;go_enter func85,ntmps85;go_wp2_with(first|(refine sN 3 ?_;refine d0a rfl _ (.tmp 1) rfl cs rfl ?_;intro g w1 hg1 hg2 K1 L1)|(refine sN 4 ?_;refine b0a rfl _ rfl zs _ ZH ?_;intro h w2 hg3 hg4 Z2 L02;have G2:=hI (K1.o.over L02.o);have L2:=hI (step L1.o L02.o);have hgh:g≠h:=(by omega);have hhw:w.heap.size<=h:=(by have:=L1.o.size;omega))|(refine sN 20 ?_;refine e0a rfl _ (.tmp 3) rfl g rfl _ cs G2 20 _ underlying39 rfl t0a HN ?_)|(refine sT 4 ?_;refine a0a rfl _ (.tmp 4) (.tmp 20) rfl h rfl _ zs cs rfl Z2 20 t0a HZ HN HN1 ?_;intro w9 K9 O9 hg9)|fail)
  have L9:=hI (c0a L2.o O9.o hhw);refine bodyPost_ret (v:=.tuple #[.agg cs.toArray,.bool true]) ?_ rfl (HQ.o _ _ ⟨_,rfl,HI.o w9 L9.o,L9.o⟩);exact j0a rfl _ _ h _ _ (0,0) _ rfl K9.o underlying39 rfl (by rw[t0a];have:=HN.o;simp[this]) rfl
 have hk:S0a c=false:=by unfold S0a;simp;omega
 rw[if_neg (by rw[hk];decide),hk] at HQ;have b0:(c==0)=false:=bF h0
 have b1:(c==1)=false:=bF h1
 have b3:(c==3)=false:=bF h3
 have b2:(c==2)=false:=bF h2
 have b4:(c==4)=false:=bF h4
 have b13:(c==13)=false:=bF h13
 go_enter func85,ntmps85;go_wp2_with(first|(refine sN 3 ?_;refine d0a rfl _ (.tmp 1) rfl cs rfl ?_;intro g w1 hg1 hg2 K1 L1)|(refine sN 4 ?_;refine b0a rfl _ rfl zs _ ZH ?_;intro h w2 hg3 hg4 Z2 L02;have G2:=hI (K1.o.over L02.o);have L2:=hI (step L1.o L02.o);have hgh:g≠h:=(by omega);have hhw:w.heap.size<=h:=(by have:=L1.o.size;omega))|(refine sN 7 ?_;refine r0a rfl _ rfl zs BZ ?_)|(refine sT 4 ?_;refine a0a rfl _ (.tmp 4) (.tmp 7) rfl h rfl _ zs zs rfl Z2 20 t0a HZ HZ HZ1 ?_;intro w9 K9 O9 hg9)|fail)
 have L9:=hI (c0a L2.o O9.o hhw);refine bodyPost_ret (v:=.tuple #[.agg zs.toArray,.bool false]) ?_ rfl (HQ.o _ _ ⟨_,rfl,HZI.o w9,L9.o⟩);exact j0a rfl _ _ h _ _ (0,0) _ rfl K9.o underlying39 rfl (by rw[t0a];have:=HZ.o;simp[this]) rfl
def p1a(xs:List Int):List Int:=xs.flatMap (λd=>le d 2)
def B3a(a:l1a):List Int:=le a.dial.length 2++p1a a.dial++a.guid
theorem D4a(xs:List Int):(p1a xs).length=2*xs.length:=by
 induction xs with
 | nil=>rfl
 | cons x xs ih=>rw[show p1a (x::xs)=le x 2++p1a xs from rfl,List.length_append,g0a,ih,List.length_cons];omega
theorem G0b(xs:List Int)(x:Int):p1a (xs++[x])=p1a xs++le x 2:=by simp[p1a]
theorem N4b(xs:List Int):Bytes (p1a xs):=by
 induction xs with
 | nil=>exact Bytes.nil
 | cons x xs ih=>exact(F0a x 2).append ih
theorem x2b(w:World)(n:Int)(h0:0<=n)(h1:n<=65535) :
  Calls prog 87 #[.int .u64 n,.int .i64 2] w λe w'=>∃A',e=.returned (.slice A' 2 2)/\p2a w' w.heap.size A' (le n 2)/\BW w w':=by
 obtain⟨m,rfl⟩:=Int.eq_ofNat_of_zero_le h0;have h:=V8b w (m:Int) 2 (by omega) (by omega);unfold W6b at h;rw[(X3c m (by omega)).1,g0a] at h;exact h
theorem Q5b{vd vx vl:Value}{a:l1a}{w:World}{g:Nat}{T:TypeId}(k:a.ok)(h:Blk w g T (l0a vd vx vl a)):Holds w w.heap.size (some ⟨g,1,none⟩) 16 16 a.guid:=by
 have hr:=J6a h k;refine⟨k.glen,Nat.le_refl _,by decide,k.gbyte,λhA=>(by cases hA),λ_=>⟨g,1,rfl,h.lt,λi hi=>?_⟩⟩;rw[hr i (.int .u8 (a.guid.getD i 0)) (by
  have:i<a.guid.length:=by rw[k.glen];exact hi
  simp[List.getD_eq_getElem?_getD,this])]
theorem O4b{vd vx vl:Value}{a:l1a}{w:World}{g:Nat}{T:TypeId}(k:a.ok)(h:Blk w g T (l0a vd vx vl a)):Holds w w.heap.size (some ⟨g,17,none⟩) 32 32 a.proof:=by
 have hr:=V5a h k;refine⟨k.plen,Nat.le_refl _,by decide,k.pbyte,λhA=>(by cases hA),λ_=>⟨g,17,rfl,h.lt,λi hi=>?_⟩⟩;rw[hr i (.int .u8 (a.proof.getD i 0)) (by
  have:i<a.proof.length:=by rw[k.plen];exact hi
  simp[List.getD_eq_getElem?_getD,this])]
theorem R5b{vx ve:Value}{s:O1a}{w:World}{g:Nat}{T:TypeId}(k:s.ok)(h:Blk w g T (u0a vx ve s)):Holds w w.heap.size (some ⟨g,2,none⟩) 8 8 s.chal:=by
 have hr:=K6a h k;refine⟨k.clen,Nat.le_refl _,by decide,k.cbyte,λhA=>(by cases hA),λ_=>⟨g,2,rfl,h.lt,λi hi=>?_⟩⟩;rw[hr i (.int .u8 (s.chal.getD i 0)) (by
  have:i<s.chal.length:=by rw[k.clen];exact hi
  simp[List.getD_eq_getElem?_getD,this])]
def h1a(c:Int)(a:l1a):Int:=if S0a c=true/\i1a c a=i0a then (if c=0 then (if a.dial.length<=16 then 0 else 3) else if c=1 then z0a a.user.data.toList else if c=3 then z0a a.share.data.toList else 0) else 2
def S2a(c:Int)(a:l1a):List Int:=if h1a c a=0 then (if c=0 then B3a a else if c=1 then a.proof++C0a a.user.data.toList else if c=3 then C0a a.share.data.toList else List.replicate 4 0) else []
def q1a(c:Int)(s:O1a):Int:=if S0a c=true/\v1a c s=n0a/\(c=0->s.siz<4294967296) then 0 else 2
def V2a(c:Int)(s:O1a):List Int:=if q1a c s=0 then (if c=0 then le s.dia 2++List.replicate 2 0++le s.siz 4++s.chal else List.replicate 4 0) else []
def g3c(w:World)(c:Int)(a:l1a)(e:Ending)(w':World):Prop:=∃v,e=.returned (.tuple #[v,.int .i64 (h1a c a)])/\Own w' w.heap.size v (S2a c a)/\BW w w'
def h3c(w:World)(c:Int)(s:O1a)(e:Ending)(w':World):Prop:=∃v,e=.returned (.tuple #[v,.int .i64 (q1a c s)])/\Own w' w.heap.size v (V2a c s)/\BW w w'
theorem C3a{o:Oper}{ops:Array Oper}{a:Act}{w:World}{K:Act->World->Prop}{Q:Exit->Act->World->Prop}{E:Prop}(hg:o.guard=none)(l c:Operand)(hop:o.op=Op.makeSlice 31 l c)(n:Nat)(hl:a.eval l=.int .i64 (n:Int))(hc:a.eval c=.int .i64 (n:Int))(hn:n<=281474976710656)
(hK:∀w',Hid (Row w' w.heap.size (List.replicate n 0))->Hid (BW w w')->K (a.put o.dst (.slice (some ⟨w.heap.size,0,none⟩) n n)) w') :
  if Region.wanted o (yielded ops a.tmps)=true then Oper.wp prog o a w K Q else E:=by
 rw[if_pos (by simp[Region.wanted,hg])];have hrun:=run_make_row' (P:=prog) 31 5 (.int .u8 0) 1 underlying31 i3a rfl .i64 .i64 n (by omega) (by omega) w;unfold Oper.wp;simp[execOp,hop,hl,hc,hrun,Result.andThen];refine hK _ ?_ ((Below.refl _ _).alloc (Nat.le_refl _) _);show(w.alloc _).heap[w.heap.size]? = _
 rw[heap_alloc_new];have h:=toList_madeCells_one (.int .u8 0) n;rw[List.map_replicate,<-h]
theorem W3a.of_blk{w:World}{g:Nat}{T:TypeId}(l:List s4b)(h:Blk w g T (l.map w5b))(hh:∀p∈l,Holds w w.heap.size p.1 p.2.1 p.2.2.1 p.2.2.2):W3a w g l.length (U0b l) (e0b l) (V0b l) (T3a l):=by
 refine⟨h.lt,λi hi=>?_,λi hi=>?_⟩
 ·rw[h.cell];simp[U0b,e0b,V0b,List.getD_eq_getElem?_getD,hi,w5b]
 ·have he:l.getD i P8b=l[i]:=by simp[List.getD_eq_getElem?_getD,hi]
  have:=hh l[i] (List.getElem_mem hi);unfold U0b e0b V0b T3a;rw[he];exact this
theorem v3a(l:List UInt8):(C0a l).length<=514:=by
 unfold C0a;split
 ·rename_i h;have h2:(U1a l).length<=512:=by
   unfold z0a at h;by_cases ht:A3a l=0
   ·rw[if_pos ht] at h;by_cases hm:(U1a l).length<=512
    ·exact hm
    ·rw[if_neg hm] at h;exact absurd h (by decide)
   ·rw[if_neg ht] at h;exact absurd h ht
  rw[D0c _ (by omega)];omega
 ·simp
theorem e2a(l:List UInt8):Bytes (C0a l):=by
 unfold C0a;split
 ·exact R6b (Q1b l)
 ·exact Bytes.nil
structure Rd where
 p:Nat
 e:Int
def rdN(xs:List Int)(s:Nat)(r:Rd):Int×Rd:=if r.e=0 then (if xs.length<r.p+s then (0,⟨r.p,4⟩) else (Y0a xs r.p s,⟨r.p+s,0⟩)) else (0,r)
def a1a(xs:List Int)(s:Nat)(most er:Int)(r:Rd):Int×Rd:=if (rdN xs s r).2.e=0/\most<(rdN xs s r).1 then (0,⟨(rdN xs s r).2.p,er⟩) else rdN xs s r
def y0a(xs:List Int)(m:Nat)(r:Rd):List Int×Rd:=if r.e=0 then (if xs.length<r.p+m then ([],⟨r.p,4⟩) else ((xs.drop r.p).take m,⟨r.p+m,0⟩)) else ([],r)
def M1a(xs:List Int)(r:Rd):List UInt8×Rd:=if r.e=0 then (Y1a xs r.p,⟨if V0a xs r.p=0 then (Z0a xs r.p).toNat else r.p,V0a xs r.p⟩) else ([],r)
def Q0a(xs:List Int)(r:Rd):Int:=if r.e=0/\r.p≠xs.length then 5 else r.e
theorem y2b{P:Program}{f:FuncId}{args:Array Value}{w:World}{n:Nat}{v:Value}
(h:Calls P f args (w.drewN n) λe w'=>e=.returned v/\w.drewN n=w'):Calls P f args (w.drewN n) λe w''=>e=.returned v/\∃m,w''=w.drewN m:=h.mono λ_ _ ⟨he,hm⟩=>⟨he,n,hm.symm⟩
theorem O3a(g:Nat)(w:World)(k:Nat):W0a g w (w.drewN k):=⟨rfl,rfl,rfl,Nat.le_refl _,λ_ _ _=>rfl⟩
theorem W0a.setCell{g:Nat}{w w':World}(h:W0a g w w')(i:Nat)(v:Value):W0a g w (w'.setCell ⟨g,i,none⟩ v):=h.trans (W0a.of_only (d1a w' g i v))
theorem W0a.drewN{g:Nat}{w w':World}(h:W0a g w w')(k:Nat):W0a g w (w'.drewN k):=h.trans (O3a g w' k)
theorem q7b(g:Nat)(w:World):(Instr.fieldAt 125 (.pointer (some ⟨g,0,none⟩)) 0).run prog w=.ok (.pointer (some ⟨g,0,none⟩)) w:=by go_simp
theorem r7b(g:Nat)(w:World):(Instr.fieldAt 125 (.pointer (some ⟨g,0,none⟩)) 1).run prog w=.ok (.pointer (some ⟨g,1,none⟩)) w:=by go_simp
def PRd(w:World)(g:Nat)(T:TypeId)(A:Option Addr)(n c:Nat)(r:Rd)(rest:List Value):Prop:=Blk w g T (.slice A n c::.int .i64 r.p::.int .i64 r.e::rest)
def P4a(w:World)(g:Nat)(T:TypeId)(A:Option Addr)(n c:Nat)(q:List Int×Rd)(rest:List Value)(e:Ending)(w':World):Prop:=∃A' m,e=.returned (.slice A' m m)/\m=q.1.length/\PRd w' g T A n c q.2 rest/\p2a w' w.heap.size A' q.1/\W0a g w w'/\(¬q.2.e=0->A'=none/\m=0)
theorem p2a.onlyW{w w':World}{base g:Nat}{A:Option Addr}{xs:List Int}(h:p2a w base A xs)(hO:s2a g w w')(hg:g<base):p2a w' base A xs:=by
 rcases h with h | ⟨k,h1,h2,h3⟩
 ·exact .inl h
 ·exact .inr ⟨k,h1,h2,h3.only hO (by omega)⟩
theorem t6a{xs:List Int}{m:Nat}{r:Rd}:(y0a xs m r).1.length<=m:=by
 unfold y0a;split
 ·split
  ·simp
  ·simp;omega
 ·simp
theorem I2a{xs:List Int}(h:Bytes xs)(m:Nat)(r:Rd):Bytes (y0a xs m r).1:=by
 unfold y0a;split
 ·split
  ·exact Bytes.nil
  ·exact(h.drop _).take _
 ·exact Bytes.nil
theorem Y5a{xs:List Int}{m n:Nat}{r:Rd}(hl:xs.length=n)(h:r.p<=n):(y0a xs m r).2.p<=n:=by
 unfold y0a;split
 ·split
  ·exact h
  ·show r.p+m<=n;omega
 ·exact h
theorem P4b(w:World)(g:Nat)(T:TypeId)(A:Option Addr)(n c:Nat)(xs:List Int)(r:Rd)(m:Nat)(rest:List Value)(hB:PRd w g T A n c r rest)(hx:Holds w w.heap.size A n c xs)(hp:r.p<=n)(hm:m<=65536) :
  Calls prog 128 #[.pointer (some ⟨g,0,none⟩),.int .i64 (m:Int)] w (P4a w g T A n c (y0a xs m r) rest):=by
 obtain⟨p,er⟩:=r;change p<=n at hp
 have hl:=hx.len;have hrm:=hx.room;have hft:=hx.fit;have hlt:=hB.lt;have HR0:Hid (Blk w g T (.slice A n c::.int .i64 (p:Int)::.int .i64 er::rest)):=hB;have c2:w.cell? ⟨g,2,none⟩=some (.int .i64 er):=Blk.at hB rfl;by_cases he:er=0;rotate_left
 ·have HQ:Hid (∀e w',(∃A' m,e=.returned (.slice A' m m)/\m=0/\Blk w' g T (.slice A n c::.int .i64 (p:Int)::.int .i64 er::rest)/\p2a w' w.heap.size A' []/\W0a g w w'/\(¬er=0->A'=none/\m=0))->P4a w g T A n c (y0a xs m ⟨p,er⟩) rest e w'):=by intro e w' hh;unfold y0a;rw[if_neg he];exact hh
  have hne:(er != 0)=true:=by simpa using he
  clear hB hx hl he;go_enter func128,ntmps128;go_wp2;go_ret;exact HQ.o _ _ ⟨none,0,rfl,rfl,HR0.o,W1b _ _,W0a.refl g w,λ_=>⟨rfl,rfl⟩⟩
 subst he;have C1:=l8a w A n c xs (p:Int) (m:Int) hx (by omega) (by omega);unfold p4a at C1;have ep:R0a xs.length (p:Int) (m:Int)=if n<p+m then 4 else 0:=by
  unfold R0a;rw[hl,if_neg (by omega)];by_cases h5:n<p+m
  ·rw[if_pos h5,if_pos (by omega)]
  ·rw[if_neg h5,if_neg (by omega)]
 rw[ep] at C1;by_cases hr:n<p+m
 ·have HQ:Hid (∀e w',(∃A' m,e=.returned (.slice A' m m)/\m=0/\Blk w' g T (.slice A n c::.int .i64 (p:Int)::.int .i64 4::rest)/\p2a w' w.heap.size A' []/\W0a g w w'/\(¬(4:Int)=0->A'=none/\m=0))->P4a w g T A n c (y0a xs m ⟨p,0⟩) rest e w'):=by intro e w' hh;unfold y0a;rw[if_pos rfl,if_pos (by rw[hl];exact hr)];exact hh
  rw[if_pos hr] at C1 ep;have ep2:partOf xs (p:Int) (m:Int)=[]:=by unfold partOf;rw[ep,if_neg (by decide)]
  rw[ep2] at C1;have C1':Hid (∀k,Calls prog 23 #[.slice A n c,.int .i64 (p:Int),.int .i64 (m:Int)] (w.drewN k) λe w'=>∃A',e=.returned (.tuple #[.slice A' 0 0,.int .i64 4])/\Below (w.drewN k).heap.size (w.drewN k) w'):=λk=>by have h1:=l8a (w.drewN k) A n c xs (p:Int) (m:Int) (hx.drewN k) (by omega) (by omega);unfold p4a at h1;rw[ep,ep2] at h1;exact h1.mono λe w' ⟨A',h1,_,h3⟩=>⟨A',h1,h3⟩
  clear hB hx hl C1 ep ep2;go_enter func128,ntmps128;go_upto_region 3 with fail
  refine wp_region_held (S:=λw'=>Blk w' g T (.slice A n c::.int .i64 (p:Int)::.int .i64 0::rest)) (by kernel_rfl) ?_;change wpAnyH _ _ _ _ _ _ _ _ w.drew
  have S0:Hid (Blk w.drew g T (.slice A n c::.int .i64 (p:Int)::.int .i64 0::rest)):=HR0.o.drew;have b0:Hid (BW w w.drew):=(x3a w 1);refine tK 0 _ rfl (s0a (by kernel_rfl) (.tmp 0) rfl (.pointer (some ⟨g,0,none⟩)) (by kernel_rfl)) S0.o ?_;refine tK 1 _ rfl (J0a (by kernel_rfl) (.tmp 13) rfl ⟨g,0,none⟩ (by kernel_rfl)) S0.o ?_;refine tK 2 _ rfl (w0a (by kernel_rfl) _ (.tmp 14) 0 rfl (.pointer (some ⟨g,0,none⟩)) (.pointer (some ⟨g,0,none⟩)) (by kernel_rfl) (q7b g)) S0.o ?_;refine tK 3 _ rfl (k0a (by kernel_rfl) _ (.tmp 15) rfl g 0 (by kernel_rfl) (.slice A n c) (λw h=>h.at rfl) _ underlying31 rfl) S0.o ?_;refine tK 4 _ rfl (s0a (by kernel_rfl) (.tmp 0) rfl (.pointer (some ⟨g,0,none⟩)) (by kernel_rfl)) S0.o ?_;refine tK 5 _ rfl (J0a (by kernel_rfl) (.tmp 17) rfl ⟨g,0,none⟩ (by kernel_rfl)) S0.o ?_;refine tK 6 _ rfl (w0a (by kernel_rfl) _ (.tmp 18) 1 rfl (.pointer (some ⟨g,0,none⟩)) (.pointer (some ⟨g,1,none⟩)) (by kernel_rfl) (r7b g)) S0.o ?_;refine tK 7 _ rfl (k0a (by kernel_rfl) _ (.tmp 19) rfl g 1 (by kernel_rfl) (.int .i64 (p:Int)) (λw h=>h.at rfl) _ underlying3 rfl) S0.o ?_;refine tK 8 _ rfl (s0a (by kernel_rfl) (.tmp 1) rfl (.int .i64 (m:Int)) (by kernel_rfl)) S0.o ?_;refine oN 9 _ rfl λK hK=>?_
  go_simp;refine(C1'.o 1).mono ?_;rintro e v1 ⟨A',rfl,L1⟩;have S1:Hid (Blk v1 g T (.slice A n c::.int .i64 (p:Int)::.int .i64 0::rest)):=S0.o.over L1;have b1:Hid (BW w v1):=step b0.o L1;refine hK _ _ S1.o ?_;clear hK K L1;refine pK 10 ((.tuple #[.slice A' 0 0,.int .i64 4])) rfl S1.o ?_;refine pK 11 ((.slice A' 0 0)) rfl S1.o ?_;refine pK 12 ((.int .i64 4)) rfl S1.o ?_;refine pK 13 ((.slice A' 0 0)) rfl S1.o ?_;refine pK 14 ((.int .i64 4)) rfl S1.o ?_;refine dN ?_;have S1':=hI S1.o;have gd:v1.cell? ⟨g,2,none⟩=some (.int .i64 0):=S1.o.at rfl;have gf:=Blk.frozen S1.o 2;go_wp2;go_ret;exact HQ.o _ _ ⟨none,0,rfl,rfl,Blk.set S1'.o 2 _,W1b _ _,(W0a.of_below b1.o g).setCell 2 _,λ_=>⟨rfl,rfl⟩⟩
 ·have HQ:Hid (∀e w',(∃A' k,e=.returned (.slice A' k k)/\k=m/\Blk w' g T (.slice A n c::.int .i64 ((p:Int)+m)::.int .i64 0::rest)/\p2a w' w.heap.size A' ((xs.drop p).take m)/\W0a g w w')->P4a w g T A n c (y0a xs m ⟨p,0⟩) rest e w'):=by rintro e w' ⟨A',k,h1,h2,h3,h4,h5⟩;unfold y0a;rw[if_pos rfl,if_neg (by rw[hl];exact hr)];unfold P4a PRd;rw[show((p+m:Nat):Int)=(p:Int)+m from by omega];exact⟨A',k,h1,by show k=((xs.drop p).take m).length;rw[h2,List.length_take,List.length_drop];omega,h3,h4,h5,λh=>absurd rfl h⟩
  rw[if_neg hr] at C1 ep;have ep2:partOf xs (p:Int) (m:Int)=(xs.drop p).take m:=by unfold partOf;rw[ep,if_pos rfl];rfl
  have el:((xs.drop p).take m).length=m:=by rw[List.length_take,List.length_drop];omega
  have C1':Hid (∀k,Calls prog 23 #[.slice A n c,.int .i64 (p:Int),.int .i64 (m:Int)] (w.drewN k) λe w'=>∃A',e=.returned (.tuple #[.slice A' m m,.int .i64 0])/\p2a w' (w.drewN k).heap.size A' ((xs.drop p).take m)/\Below (w.drewN k).heap.size (w.drewN k) w'):=λk=>by have h1:=l8a (w.drewN k) A n c xs (p:Int) (m:Int) (hx.drewN k) (by omega) (by omega);unfold p4a at h1;rw[ep,ep2,el] at h1;exact h1
  obtain⟨ys,hys⟩:=xX ((xs.drop p).take m);rw[<-hys] at HQ C1';have hwr:IntKind.i64.wrap ((p:Int)+m)=(p:Int)+m:=by rw[IntKind.wrap_i64];omega
  clear hB hx hl C1 ep ep2 el hys;go_enter func128,ntmps128;go_upto_region 3 with fail
  refine wp_region_held (S:=λw'=>Blk w' g T (.slice A n c::.int .i64 (p:Int)::.int .i64 0::rest)) (by kernel_rfl) ?_;change wpAnyH _ _ _ _ _ _ _ _ w.drew
  have S0:Hid (Blk w.drew g T (.slice A n c::.int .i64 (p:Int)::.int .i64 0::rest)):=HR0.o.drew;have b0:Hid (BW w w.drew):=(x3a w 1);refine tK 0 _ rfl (s0a (by kernel_rfl) (.tmp 0) rfl (.pointer (some ⟨g,0,none⟩)) (by kernel_rfl)) S0.o ?_;refine tK 1 _ rfl (J0a (by kernel_rfl) (.tmp 13) rfl ⟨g,0,none⟩ (by kernel_rfl)) S0.o ?_;refine tK 2 _ rfl (w0a (by kernel_rfl) _ (.tmp 14) 0 rfl (.pointer (some ⟨g,0,none⟩)) (.pointer (some ⟨g,0,none⟩)) (by kernel_rfl) (q7b g)) S0.o ?_;refine tK 3 _ rfl (k0a (by kernel_rfl) _ (.tmp 15) rfl g 0 (by kernel_rfl) (.slice A n c) (λw h=>h.at rfl) _ underlying31 rfl) S0.o ?_;refine tK 4 _ rfl (s0a (by kernel_rfl) (.tmp 0) rfl (.pointer (some ⟨g,0,none⟩)) (by kernel_rfl)) S0.o ?_;refine tK 5 _ rfl (J0a (by kernel_rfl) (.tmp 17) rfl ⟨g,0,none⟩ (by kernel_rfl)) S0.o ?_;refine tK 6 _ rfl (w0a (by kernel_rfl) _ (.tmp 18) 1 rfl (.pointer (some ⟨g,0,none⟩)) (.pointer (some ⟨g,1,none⟩)) (by kernel_rfl) (r7b g)) S0.o ?_;refine tK 7 _ rfl (k0a (by kernel_rfl) _ (.tmp 19) rfl g 1 (by kernel_rfl) (.int .i64 (p:Int)) (λw h=>h.at rfl) _ underlying3 rfl) S0.o ?_;refine tK 8 _ rfl (s0a (by kernel_rfl) (.tmp 1) rfl (.int .i64 (m:Int)) (by kernel_rfl)) S0.o ?_;refine oN 9 _ rfl λK hK=>?_
  go_simp;refine(C1'.o 1).mono ?_;rintro e v1 ⟨A',rfl,hfr,L1⟩;have S1:Hid (Blk v1 g T (.slice A n c::.int .i64 (p:Int)::.int .i64 0::rest)):=S0.o.over L1;have b1:Hid (BW w v1):=step b0.o L1;have HF:Hid (p2a v1 w.heap.size A' ys):=hfr;refine hK _ _ S1.o ?_;clear hK K hfr L1;refine pK 10 ((.tuple #[.slice A' m m,.int .i64 0])) rfl S1.o ?_;refine pK 11 ((.slice A' m m)) rfl S1.o ?_;refine pK 12 ((.int .i64 0)) rfl S1.o ?_;refine pK 13 ((.slice A' m m)) rfl S1.o ?_;refine pK 14 ((.int .i64 0)) rfl S1.o ?_;refine dN ?_;have S1':=hI S1.o;have gd:v1.cell? ⟨g,2,none⟩=some (.int .i64 0):=S1.o.at rfl;have gd1:v1.cell? ⟨g,1,none⟩=some (.int .i64 (p:Int)):=S1.o.at rfl;have gf:=Blk.frozen S1.o 1;go_wp2;go_ret;exact HQ.o _ _ ⟨A',m,rfl,rfl,Blk.set S1'.o 1 _,HF.o.onlyW (d1a _ g 1 _) hlt,(W0a.of_below b1.o g).setCell 1 _⟩
theorem B9a{xs:List Int}{m n:Nat}{r:Rd}(hl:xs.length=n)(h:(y0a xs m r).2.e=0):(y0a xs m r).1.length=m:=by
 unfold y0a at h⊢;by_cases h1:r.e=0
 ·rw[if_pos h1] at h⊢;by_cases h2:xs.length<r.p+m
  ·rw[if_pos h2] at h;exact absurd (show(4:Int)=0 from h) (by decide)
  ·rw[if_neg h2];simp;omega
 ·rw[if_neg h1] at h;exact absurd h h1
theorem r9b{xs:List Int}{m:Nat}{r:Rd}(h:¬(y0a xs m r).2.e=0):(y0a xs m r).1=[]:=by
 unfold y0a at h⊢;by_cases h1:r.e=0
 ·rw[if_pos h1] at h⊢;by_cases h2:xs.length<r.p+m
  ·rw[if_pos h2]
  ·rw[if_neg h2] at h;exact absurd rfl h
 ·rw[if_neg h1]
theorem i3c{xs:List Int}{s:Nat}{r:Rd}(hs:u3a (s:Int)=true):(y0a xs s r).2=(rdN xs s r).2/\A4a (y0a xs s r).1 0 (s:Int)=(rdN xs s r).1:=by
 have hs8:1<=s/\s<=8:=by rcases S1a hs with h | h | h | h<;>omega
 have h0:A4a [] 0 (s:Int)=0:=by
  have he:t2a 0 0 (s:Int)=4:=by unfold t2a R0a;rw[if_pos hs,if_neg (by omega),if_pos (by omega)]
  show(if t2a 0 0 (s:Int)=0 then _ else _)=_
  rw[he,if_neg (by decide)]
 unfold y0a rdN;by_cases h1:r.e=0
 ·rw[if_pos h1,if_pos h1];by_cases h2:xs.length<r.p+s
  ·rw[if_pos h2,if_pos h2];exact⟨rfl,h0⟩
  ·rw[if_neg h2,if_neg h2];refine⟨rfl,?_⟩;have hl:((xs.drop r.p).take s).length=s:=by rw[List.length_take,List.length_drop];omega
   have he:t2a s 0 (s:Int)=0:=by unfold t2a R0a;rw[if_pos hs,if_neg (by omega),if_neg (by omega)]
   unfold A4a Y0a;rw[hl,he,if_pos rfl];simp[List.take_take]
 ·rw[if_neg h1,if_neg h1];exact⟨rfl,h0⟩
def Q4b(w:World)(g:Nat)(T:TypeId)(A:Option Addr)(n c:Nat)(q:Int×Rd)(rest:List Value)(e:Ending)(w':World):Prop:=e=.returned (.int .u64 q.1)/\PRd w' g T A n c q.2 rest/\W0a g w w'
theorem Q6a(w:World)(g:Nat)(T:TypeId)(A:Option Addr)(n c:Nat)(xs:List Int)(r:Rd)(s:Nat)(rest:List Value)(hB:PRd w g T A n c r rest)(hx:Holds w w.heap.size A n c xs)(hp:r.p<=n)(hs:u3a (s:Int)=true) :
  Calls prog 88 #[.pointer (some ⟨g,0,none⟩),.int .i64 (s:Int)] w (Q4b w g T A n c (rdN xs s r) rest):=by
 have hs8:1<=s/\s<=8:=by rcases S1a hs with h | h | h | h<;>omega
 obtain⟨hs1,hs8⟩:=hs8;have C1:=P4b w g T A n c xs r s rest hB hx hp (by omega);unfold P4a at C1;obtain⟨e2,e1⟩:=i3c (xs:=xs) (r:=r) hs;have CG:Hid (∀(w:World) (A:Option Addr) (m:Nat),Holds w w.heap.size A m m (y0a xs s r).1->∃er,Calls prog 44 #[.slice A m m,.int .i64 0,.int .i64 (s:Int)] w λe w'=>e=.returned (.tuple #[.int .u64 (rdN xs s r).1,.int .i64 er])/\w=w'):=λw A m hh=>by have h1:=O8a w w.heap.size A m m _ 0 (s:Int) hh (by omega) (by omega);rw[e1] at h1;exact⟨_,h1⟩
 have HQ:Hid (∀e w',(e=.returned (.int .u64 (rdN xs s r).1)/\PRd w' g T A n c (rdN xs s r).2 rest/\W0a g w w')->Q4b w g T A n c (rdN xs s r) rest e w'):=λ_ _ h=>h
 rw[e2] at C1;have HYB:=hI (I2a hx.byte s r);have hyl:(y0a xs s r).1.length<=s:=t6a;obtain⟨ys,hys⟩:=xX ((y0a xs s r).1);obtain⟨z,hz⟩:=xX ((rdN xs s r).1);obtain⟨r',hr'⟩:=xX ((rdN xs s r).2);rw[<-hys] at C1 CG HYB hyl;rw[<-hz] at CG HQ;rw[<-hr'] at C1 HQ;have C1':=hI C1;clear C1 e2 e1 hB hx hys hz hr' hp;go_enter func88,ntmps88;go_wp2_with fail;refine C1'.o.mono ?_;rintro e w1 ⟨A',m,rfl,hm,hB1,hfr,hS,_⟩;have HH:=hI (hfr.holds hm.symm HYB.o (by omega));have HB1:=hI hB1;have HS1:=hI hS;obtain⟨er,CG1⟩:=CG.o _ _ _ HH.o;have CG2:=hI CG1;clear hm hfr hB1 hS CG1 CG hyl;go_wp2_with fail;refine CG2.o.mono ?_;rintro e w2 ⟨rfl,rfl⟩;go_wp2;go_ret;exact HQ.o _ _ ⟨rfl,HB1.o,HS1.o⟩
def rdZ(xs:List Int)(m:Nat)(r:Rd):Rd:=if (y0a xs m r).2.e=0 then (if zeroOf (y0a xs m r).1 0 (m:Int)=true then (y0a xs m r).2 else ⟨(y0a xs m r).2.p,5⟩) else (y0a xs m r).2
def l5a(w:World)(g:Nat)(T:TypeId)(A:Option Addr)(n c:Nat)(r:Rd)(rest:List Value)(e:Ending)(w':World):Prop:=e=.returned (.tuple #[])/\PRd w' g T A n c r rest/\W0a g w w'
theorem R6a(w:World)(g:Nat)(T:TypeId)(A:Option Addr)(n c:Nat)(xs:List Int)(r:Rd)(m:Nat)(rest:List Value)(hB:PRd w g T A n c r rest)(hx:Holds w w.heap.size A n c xs)(hp:r.p<=n)(hm0:m<=65536) :
  Calls prog 83 #[.pointer (some ⟨g,0,none⟩),.int .i64 (m:Int)] w (l5a w g T A n c (rdZ xs m r) rest):=by
 have C1:=P4b w g T A n c xs r m rest hB hx hp hm0;unfold P4a at C1;have CZ:Hid (∀(w:World) (A:Option Addr) (k:Nat),Holds w w.heap.size A k k (y0a xs m r).1->Calls prog 130 #[.slice A k k,.int .i64 0,.int .i64 (m:Int)] w λe w'=>e=.returned (.bool (zeroOf (y0a xs m r).1 0 (m:Int)))/\w=w'):=λw A k hh=>y4b w _ A k k _ 0 (m:Int) hh (by omega) (by omega)
 have HYB:=hI (I2a hx.byte m r);have hyl:(y0a xs m r).1.length<=m:=t6a;have hQ:∀e w',(e=.returned (.tuple #[])/\PRd w' g T A n c (if (y0a xs m r).2.e=0 then (if zeroOf (y0a xs m r).1 0 (m:Int)=true then (y0a xs m r).2 else ⟨(y0a xs m r).2.p,5⟩) else (y0a xs m r).2) rest/\W0a g w w')->l5a w g T A n c (rdZ xs m r) rest e w':=λ_ _ h=>h
 obtain⟨z,hz⟩:=xX (zeroOf (y0a xs m r).1 0 (m:Int));rw[<-hz] at CZ hQ;obtain⟨ys,hys⟩:=xX ((y0a xs m r).1);rw[<-hys] at C1 CZ HYB hyl;obtain⟨q,hq⟩:=xX ((y0a xs m r).2);rw[<-hq] at C1 hQ;obtain⟨p',e'⟩:=q;have C1':=hI C1;unfold PRd at C1' hQ;clear C1 hB hx hys hz hp hq;by_cases he:e'=0
 ·subst he;cases z
  ·have HQ:Hid (∀e w',(e=.returned (.tuple #[])/\Blk w' g T (.slice A n c::.int .i64 (p':Int)::.int .i64 5::rest)/\W0a g w w')->l5a w g T A n c (rdZ xs m r) rest e w'):=by intro e w' hh;refine hQ e w' ?_;rw[if_pos rfl,if_neg (by decide)];exact hh
   clear hQ;go_enter func83,ntmps83;go_wp2_with fail;refine C1'.o.mono ?_;rintro e w1 ⟨A',k,rfl,hk,hB1,hfr,hS,_⟩;have HH:=hI (hfr.holds hk.symm HYB.o (by omega));have HB1:Hid (Blk w1 g T (.slice A n c::.int .i64 (p':Int)::.int .i64 0::rest)):=hB1;have HS1:=hI hS;have gd:w1.cell? ⟨g,2,none⟩=some (.int .i64 0):=HB1.o.at rfl;have gf:=Blk.frozen HB1.o 2;have CZ1:=hI (CZ.o _ _ _ HH.o);clear hk hfr hB1 hS CZ hyl;go_wp2_with fail;refine CZ1.o.mono ?_;rintro e w2 ⟨rfl,rfl⟩;go_wp2;go_end0;exact HQ.o _ _ ⟨rfl,Blk.set HB1.o 2 _,HS1.o.setCell 2 _⟩
  ·have HQ:Hid (∀e w',(e=.returned (.tuple #[])/\Blk w' g T (.slice A n c::.int .i64 (p':Int)::.int .i64 0::rest)/\W0a g w w')->l5a w g T A n c (rdZ xs m r) rest e w'):=by intro e w' hh;refine hQ e w' ?_;rw[if_pos rfl,if_pos rfl];exact hh
   clear hQ;go_enter func83,ntmps83;go_wp2_with fail;refine C1'.o.mono ?_;rintro e w1 ⟨A',k,rfl,hk,hB1,hfr,hS,_⟩;have HH:=hI (hfr.holds hk.symm HYB.o (by omega));have HB1:Hid (Blk w1 g T (.slice A n c::.int .i64 (p':Int)::.int .i64 0::rest)):=hB1;have HS1:=hI hS;have gd:w1.cell? ⟨g,2,none⟩=some (.int .i64 0):=HB1.o.at rfl;have CZ1:=hI (CZ.o _ _ _ HH.o);clear hk hfr hB1 hS CZ hyl;go_wp2_with fail;refine CZ1.o.mono ?_;rintro e w2 ⟨rfl,rfl⟩;go_wp2;go_end0;exact HQ.o _ _ ⟨rfl,HB1.o,HS1.o⟩
 ·have HQ:Hid (∀e w',(e=.returned (.tuple #[])/\Blk w' g T (.slice A n c::.int .i64 (p':Int)::.int .i64 e'::rest)/\W0a g w w')->l5a w g T A n c (rdZ xs m r) rest e w'):=by intro e w' hh;refine hQ e w' ?_;rw[if_neg he];exact hh
  have hne:(e'==0)=false:=by simpa using he
  clear hQ CZ he;go_enter func83,ntmps83;go_wp2_with fail;refine C1'.o.mono ?_;rintro e w1 ⟨A',k,rfl,hk,hB1,hfr,hS,_⟩;have HB1:Hid (Blk w1 g T (.slice A n c::.int .i64 (p':Int)::.int .i64 e'::rest)):=hB1;have HS1:=hI hS;have gd:w1.cell? ⟨g,2,none⟩=some (.int .i64 e'):=HB1.o.at rfl;clear hk hfr hB1 hS hyl;go_wp2;go_end0;exact HQ.o _ _ ⟨rfl,HB1.o,HS1.o⟩
theorem R4b(w:World)(g:Nat)(T:TypeId)(A:Option Addr)(n c:Nat)(xs:List Int)(r:Rd)(o m kc:Nat)(rest:List Value)(hB:PRd w g T A n c r rest)(hx:Holds w w.heap.size A n c xs)(hp:r.p<=n)(hm0:0<m)(hm1:m<=65536)(ho:o+m<=rest.length) :
  Calls prog 81 #[.pointer (some ⟨g,0,none⟩),.slice (some ⟨g,3+o,none⟩) m kc] w (l5a w g T A n c (y0a xs m r).2 (spliced rest o (y0a xs m r).1)):=by
 have C1:=P4b w g T A n c xs r m rest hB hx hp hm1;unfold P4a at C1;have HYB:=hI (I2a hx.byte m r);have hok:=B9a (m:=m) (r:=r) hx.len;have hbad:=r9b (xs:=xs) (m:=m) (r:=r);have hQ:∀e w',(e=.returned (.tuple #[])/\PRd w' g T A n c (y0a xs m r).2 (spliced rest o (y0a xs m r).1)/\W0a g w w')->l5a w g T A n c (y0a xs m r).2 (spliced rest o (y0a xs m r).1) e w':=λ_ _ h=>h
 obtain⟨ys,hys⟩:=xX ((y0a xs m r).1);rw[<-hys] at C1 HYB hok hbad hQ⊢;obtain⟨q,hq⟩:=xX ((y0a xs m r).2);rw[<-hq] at C1 hQ hok hbad⊢;obtain⟨p',e'⟩:=q;have C1':=hI C1;unfold PRd at C1' hQ;have HQ:=hI hQ;clear C1 hB hx hys hp hq hQ;by_cases he:e'=0
 ·have hyl:=hok he;have HSP:Hid (spliced (.slice A n c::.int .i64 (p':Int)::.int .i64 e'::rest) (3+o) ys=.slice A n c::.int .i64 (p':Int)::.int .i64 e'::spliced rest o ys):=by
   show _=_
   unfold spliced;rw[show 3+o=o+1+1+1 from by omega,show o+1+1+1+ys.length=(o+ys.length)+1+1+1 from by omega];rfl
  have HFIT:Hid (3+o+m<=(Value.slice A n c::Value.int .i64 (p':Int)::Value.int .i64 e'::rest).length):=by
   show _<=_
   simp only[List.length_cons];omega
  have HYL:=hI hyl;obtain⟨cur,hcur⟩:=xX (Value.slice A n c::Value.int .i64 (p':Int)::Value.int .i64 e'::rest);obtain⟨nxt,hnxt⟩:=xX (spliced rest o ys);have HC:Hid (cur=Value.slice A n c::Value.int .i64 (p':Int)::Value.int .i64 e'::rest):=hcur;rw[<-hcur] at HSP HFIT;rw[<-hnxt] at HSP HQ⊢;clear hcur hnxt hok hbad hyl he;go_enter func81,ntmps81;go_wp2_with fail;refine C1'.o.mono ?_;rintro e w1 ⟨A',k,rfl,hk,hB1,hfr,hS,_⟩;obtain rfl:k=m:=by rw[hk];exact HYL.o
  have HH:=hI (hfr.holds HYL.o HYB.o (by omega));have HB1:Hid (Blk w1 g T cur):=by rw[HC.o];exact hB1
  have HS1:=hI hS;clear hk hfr hB1 hS;go_wp2_with(first|(refine sN 9 ?_;refine B7a rfl (.tmp 4) (.tmp 8) rfl g (3+o) T k kc k k A' rfl rfl cur ys _ HB1 HH.o hm0 (Nat.le_refl _) HFIT ?_;intro w2 X2 O2)|fail)
  go_end0;refine HQ.o _ _ ⟨rfl,?_,HS1.o.trans (W0a.of_only O2.o)⟩;rw[<-HSP.o];exact X2.o
 ·have hyn:=hbad he;have HQ2:Hid (∀e w',(e=.returned (.tuple #[])/\Blk w' g T (.slice A n c::.int .i64 (p':Int)::.int .i64 e'::rest)/\W0a g w w')->l5a w g T A n c ⟨p',e'⟩ (spliced rest o ys) e w'):=by
   intro e w' hh;have e1:spliced rest o ys=rest:=by rw[hyn];unfold spliced;simp
   rw[e1] at HQ⊢;exact HQ.o e w' hh
  have HE:=hI he;clear HQ hok hbad hyn he;go_enter func81,ntmps81;go_wp2_with fail;refine C1'.o.mono ?_;rintro e w1 ⟨A',k,rfl,hk,hB1,hfr,hS,hz⟩;obtain⟨rfl,rfl⟩:=hz HE.o;have HB1:Hid (Blk w1 g T (.slice A n c::.int .i64 (p':Int)::.int .i64 e'::rest)):=hB1;have HS1:=hI hS;clear hk hfr hB1 hS hz;go_wp2_with(first|(refine sN 9 ?_;refine wpList_copy_nothing rfl (.tmp 4) (.tmp 8) 31 31 rfl 5 underlying31 (by kernel_rfl) (some ⟨g,3+o,none⟩) none m kc 0 0 rfl rfl (Nat.zero_min _) ?_)|fail)
  go_end0;exact HQ2.o _ _ ⟨rfl,HB1.o,HS1.o⟩
theorem S6a(w:World)(g:Nat)(T:TypeId)(A:Option Addr)(n c:Nat)(xs:List Int)(r:Rd)(rest:List Value)(hB:PRd w g T A n c r rest)(hl:xs.length=n)(hn:n<=281474976710656)(hp:r.p<=n) :
  Calls prog 84 #[.pointer (some ⟨g,0,none⟩)] w λe w'=>e=.returned (.int .i64 (Q0a xs r))/\∃k,w.drewN k=w':=by
 obtain⟨p,er⟩:=r;change p<=n at hp
 have c0:w.cell? ⟨g,0,none⟩=some (.slice A n c):=Blk.at hB rfl;have c1:w.cell? ⟨g,1,none⟩=some (.int .i64 (p:Int)):=Blk.at hB rfl;have c2:w.cell? ⟨g,2,none⟩=some (.int .i64 er):=Blk.at hB rfl;have hR:Q0a xs ⟨p,er⟩=if er=0/\p≠n then 5 else er:=by unfold Q0a;rw[hl]
 rw[hR];clear hB hR;by_cases he:er=0
 ·subst he;by_cases hpn:p=n
  ·rw[if_neg (λh=>h.2 hpn)];have hb:decide (p<n)=false:=by rw[hpn];simp
   have hb2:¬p<n:=by omega
   clear hpn;go_enter func84,ntmps84;go_wp2;go_quiet (fail);go_wp2;go_ret;exact⟨rfl,_,rfl⟩
  ·rw[if_pos ⟨rfl,hpn⟩];have hb2:p<n:=by omega
   have hb:decide (p<n)=true:=by rw[decide_eq_true_iff];omega
   clear hpn;go_enter func84,ntmps84;go_wp2;go_quiet (fail);go_wp2;go_ret;exact⟨rfl,_,rfl⟩
 ·rw[if_neg (λh=>he h.1)];have hb:(er==0)=false:=bF he
  clear he;go_enter func84,ntmps84;go_wp2;go_quiet (fail);go_wp2;go_ret;exact⟨rfl,_,rfl⟩
def U0a(xs:List Int)(r:Rd):List UInt8×Rd:=if r.e=0 then (Y1a xs r.p,⟨(Z0a xs r.p).toNat,V0a xs r.p⟩) else ([],r)
theorem c4a{xs:List Int}(hx:Bytes xs)(a:Int)(ha:0<=a):0<=Z0a xs a/\Z0a xs a<=xs.length:=by
 unfold Z0a;split
 ·rename_i h;unfold L3a;split
  ·rename_i h2;have:=z7a h2;have:=y5a xs hx a;omega
  ·omega
 ·omega
def t8a(w:World)(g:Nat)(T:TypeId)(A:Option Addr)(n c:Nat)(q:List UInt8×Rd)(rest:List Value)(e:Ending)(w':World):Prop:=e=.returned (.string ⟨q.1.toArray⟩)/\PRd w' g T A n c q.2 rest/\W0a g w w'
theorem S5b(w:World)(g:Nat)(T:TypeId)(A:Option Addr)(n c:Nat)(xs:List Int)(r:Rd)(rest:List Value)(hB:PRd w g T A n c r rest)(hx:Holds w w.heap.size A n c xs)(hp:r.p<=n) :
  Calls prog 82 #[.pointer (some ⟨g,0,none⟩)] w (t8a w g T A n c (U0a xs r) rest):=by
 obtain⟨p,er⟩:=r;change p<=n at hp
 have hl:=hx.len;have hrm:=hx.room;have hft:=hx.fit;have hlt:=hB.lt;have HR0:Hid (Blk w g T (.slice A n c::.int .i64 (p:Int)::.int .i64 er::rest)):=hB;have c2:w.cell? ⟨g,2,none⟩=some (.int .i64 er):=Blk.at hB rfl;by_cases he:er=0;rotate_left
 ·have HQ:Hid (∀e w',(e=.returned (.string .empty)/\Blk w' g T (.slice A n c::.int .i64 (p:Int)::.int .i64 er::rest)/\W0a g w w')->t8a w g T A n c (U0a xs ⟨p,er⟩) rest e w'):=by intro e w' hh;unfold U0a;rw[if_neg he];exact hh
  have hne:(er != 0)=true:=by simpa using he
  clear hB hx hl he;go_enter func82,ntmps82;go_wp2;go_ret;exact HQ.o _ _ ⟨rfl,HR0.o,W0a.refl g w⟩
 subst he;obtain⟨hg0,hg1⟩:=c4a hx.byte (p:Int) (by omega);have C1':Hid (∀k,Calls prog 129 #[.slice A n c,.int .i64 (p:Int)] (w.drewN k) λe w'=>e=.returned (.tuple #[.string ⟨(Y1a xs (p:Int)).toArray⟩,.int .i64 (Z0a xs (p:Int)),.int .i64 (V0a xs (p:Int))])/\Below (w.drewN k).heap.size (w.drewN k) w'):=λk=>Q8a (w.drewN k) A n c xs (p:Int) (hx.drewN k) (by omega)
 have HQ:Hid (∀e w',(e=.returned (.string ⟨(Y1a xs (p:Int)).toArray⟩)/\Blk w' g T (.slice A n c::.int .i64 (Z0a xs (p:Int))::.int .i64 (V0a xs (p:Int))::rest)/\W0a g w w')->t8a w g T A n c (U0a xs ⟨p,0⟩) rest e w'):=by
  intro e w' hh;unfold U0a;rw[if_pos rfl];unfold t8a PRd;show _/\Blk w' g T (.slice A n c::.int .i64 (((Z0a xs (p:Int)).toNat:Nat):Int)::_)/\_
  rw[Int.toNat_of_nonneg hg0];exact hh
 obtain⟨tx,htx⟩:=xX (Y1a xs (p:Int));obtain⟨nx,hnx⟩:=xX (Z0a xs (p:Int));obtain⟨ex,hex⟩:=xX (V0a xs (p:Int));rw[<-htx,<-hnx,<-hex] at C1' HQ;rw[<-hnx] at hg0 hg1;clear hB hx hl htx hnx hex;go_enter func82,ntmps82;go_upto_region 3 with fail
 refine wp_region_held (S:=λw'=>Blk w' g T (.slice A n c::.int .i64 (p:Int)::.int .i64 0::rest)) (by kernel_rfl) ?_;change wpAnyH _ _ _ _ _ _ _ _ w.drew
 have S0:Hid (Blk w.drew g T (.slice A n c::.int .i64 (p:Int)::.int .i64 0::rest)):=HR0.o.drew;have b0:Hid (BW w w.drew):=(x3a w 1);refine tK 0 _ rfl (s0a (by kernel_rfl) (.tmp 0) rfl (.pointer (some ⟨g,0,none⟩)) (by kernel_rfl)) S0.o ?_;refine tK 1 _ rfl (J0a (by kernel_rfl) (.tmp 12) rfl ⟨g,0,none⟩ (by kernel_rfl)) S0.o ?_;refine tK 2 _ rfl (w0a (by kernel_rfl) _ (.tmp 13) 0 rfl (.pointer (some ⟨g,0,none⟩)) (.pointer (some ⟨g,0,none⟩)) (by kernel_rfl) (q7b g)) S0.o ?_;refine tK 3 _ rfl (k0a (by kernel_rfl) _ (.tmp 14) rfl g 0 (by kernel_rfl) (.slice A n c) (λw h=>h.at rfl) _ underlying31 rfl) S0.o ?_;refine tK 4 _ rfl (s0a (by kernel_rfl) (.tmp 0) rfl (.pointer (some ⟨g,0,none⟩)) (by kernel_rfl)) S0.o ?_;refine tK 5 _ rfl (J0a (by kernel_rfl) (.tmp 16) rfl ⟨g,0,none⟩ (by kernel_rfl)) S0.o ?_;refine tK 6 _ rfl (w0a (by kernel_rfl) _ (.tmp 17) 1 rfl (.pointer (some ⟨g,0,none⟩)) (.pointer (some ⟨g,1,none⟩)) (by kernel_rfl) (r7b g)) S0.o ?_;refine tK 7 _ rfl (k0a (by kernel_rfl) _ (.tmp 18) rfl g 1 (by kernel_rfl) (.int .i64 (p:Int)) (λw h=>h.at rfl) _ underlying3 rfl) S0.o ?_;refine oN 8 _ rfl λK hK=>?_
 go_simp;refine(C1'.o 1).mono ?_;rintro e v1 ⟨rfl,L1⟩;have S1:Hid (Blk v1 g T (.slice A n c::.int .i64 (p:Int)::.int .i64 0::rest)):=S0.o.over L1;have b1:Hid (BW w v1):=step b0.o L1;refine hK _ _ S1.o ?_;clear hK K L1;refine pK 9 ((.tuple #[.string ⟨tx.toArray⟩,.int .i64 nx,.int .i64 ex])) rfl S1.o ?_;refine pK 10 ((.string ⟨tx.toArray⟩)) rfl S1.o ?_;refine pK 11 ((.int .i64 nx)) rfl S1.o ?_;refine pK 12 ((.int .i64 ex)) rfl S1.o ?_;refine pK 13 ((.string ⟨tx.toArray⟩)) rfl S1.o ?_;refine pK 14 ((.int .i64 nx)) rfl S1.o ?_;refine pK 15 ((.int .i64 ex)) rfl S1.o ?_;refine dN ?_;have gd1:v1.cell? ⟨g,1,none⟩=some (.int .i64 (p:Int)):=S1.o.at rfl;have gd2:v1.cell? ⟨g,2,none⟩=some (.int .i64 0):=S1.o.at rfl;have gf1:=Blk.frozen S1.o 1;have gf2:=Blk.frozen S1.o 2;have gf3:(v1.setCell ⟨g,1,none⟩ (.int .i64 nx)).frozen? ⟨g,2,none⟩=false:=Blk.frozen (Blk.set S1.o 1 _) 2;have S1':=hI S1.o;go_wp2;go_ret;exact HQ.o _ _ ⟨rfl,Blk.set (Blk.set S1'.o 1 _) 2 _,((W0a.of_below b1.o g).setCell 1 _).setCell 2 _⟩
section
variable {P:Program} {ops:Array Oper} {md:Region.Mode} {S:World->Prop} {Q:Exit->Act->World->Prop} {k:Nat}
def Q4a(P:Program)(md:Region.Mode)(ops:Array Oper)(Q:Exit->Act->World->Prop)(S:World->Prop)(k:Nat):Nat->Array Bool->Act->World->Prop
 | 0,listed,a,w=>Region.ready md ops listed=[]/\Q .normal a w
 | fuel+1,listed,a,w=>
  (Region.ready md ops listed=[]->Q .normal a w)/\
  ∀i∈Region.ready md ops listed,wpOp P ops Q i (λa' w'=>((listed.setIfInBounds i true).getD k false=false->S w')/\Q4a P md ops Q S k fuel (listed.setIfInBounds i true) a' w') a w
theorem M3b:∀(fuel:Nat) (listed:Array Bool) (a:Act) (w:World),Q4a P md ops Q S k fuel listed a w->wpAny P md ops Q fuel listed a w
 | 0,_,_,_,h=>h
 | fuel+1,_,_,_,h=>⟨h.1,λi hi=>wpOp_mono (λa' w' h'=>M3b fuel _ a' w' h'.2) (h.2 i hi)⟩
theorem T5b{i:Nat}{oi ok:Oper}{v:Value}(hi:ops[i]? = some oi)(hsel:∀(j:Nat) (o:Oper) cs b,ops[j]? = some o->o.op≠.select cs b)
(hQ:∀c a w,Q (.panic c) (a.put oi.dst v) w->Q (.panic c) a w)(hk:ops[k]? = some ok)(hke:ok.after.any (λe=>Region.binds md e&&e.on==i)=true) :
  ∀(fuel:Nat) (listed:Array Bool) (a:Act) (w:World),
   (∀j oj,ops[j]? = some oj->j≠i->listed.getD j true=false->(∀e∈oj.after,Region.binds md e=true->e.on≠i)->oi.apart ops oj=true)->
   i∈Region.ready md ops listed->YieldsIf P ops S oi v a->S w->listed.getD k false=false->i≠k->
   Q4a P md ops Q S k fuel (listed.setIfInBounds i true) (a.put oi.dst v) w->Q4a P md ops Q S k (fuel+1) listed a w:=by
 intro fuel
 induction fuel with
 | zero=>
  intro listed a w _ hr hy hS _ _ H;refine⟨λh=>(by rw[h] at hr;cases hr),λj hj=>?_⟩;by_cases hji:j=i
  ·subst hji;exact hy.wpOp hi hS ⟨λ_=>hS,H⟩
  ·have:=ready_mono hj hji;rw[H.1] at this;cases this
 | succ fuel ih=>
  intro listed a w hfree hr hy hS hkl hik H;refine⟨λh=>(by rw[h] at hr;cases hr),λj hj=>?_⟩;by_cases hji:j=i
  ·subst hji;exact hy.wpOp hi hS ⟨λ_=>hS,H⟩
  ·have h1:=H.2 j (ready_mono hj hji);obtain⟨hjun,oj,hoj,hall⟩:=mem_ready.1 hj;have hnot:∀e∈oj.after,Region.binds md e=true->e.on≠i:=λe he hb heq=>by
    have h1:=hall e he hb;have h0:=(mem_ready.1 hr).1;rw[heq] at h1;rcases Nat.lt_or_ge i listed.size with h' | h'
    ·simp[h'] at h0 h1;rw[h0] at h1;cases h1
    ·simp[Array.getElem?_eq_none h'] at h1
   have hjk:j≠k:=by
    rintro rfl;rw[hk] at hoj;injection hoj with hoj
    subst hoj;obtain⟨e,he,hb⟩:=Array.any_eq_true'.1 hke;simp only[Bool.and_eq_true,beq_iff_eq] at hb;exact hnot e he hb.1 hb.2
   have h2:=wpOp_putIf hoj (hfree j oj hoj hji hjun hnot) (λcs b=>hsel i oi cs b hi) (λcs b=>hsel j oj cs b hoj) hQ hy h1;have hfree':∀k ok,ops[k]? = some ok->k≠i->(listed.setIfInBounds j true).getD k true=false->
     (∀e∈ok.after,Region.binds md e=true->e.on≠i)->oi.apart ops ok=true:=λk ok hk hki hun hno=>by
    refine hfree k ok hk hki ?_ hno;by_cases hjk:j=k
    ·subst hjk;exact hjun
    ·rw[getD_set_ne true hjk] at hun;exact hun
   refine wpOp_mono (λa' w' h3=>?_) h2;have hSw:S w':=h3.2.1 (by rw[getD_set_ne false hjk,getD_set_ne false hik];exact hkl);refine⟨λ_=>hSw,ih (listed.setIfInBounds j true) a' w' hfree' (ready_mono hr (Ne.symm hji)) h3.1 hSw (by rw[getD_set_ne false hjk];exact hkl) hik ?_⟩;rw[Array.setIfInBounds_comm _ _ hji];exact h3.2.2
theorem z2a{i:Nat}{oi ok:Oper}{v:Value}{fuel:Nat}{listed:Array Bool}{a:Act}{w:World}(hi:ops[i]? = some oi)
(hs:Region.noSelect ops=true)(hf:Region.free md ops listed i=true)(hr:(Region.ready md ops listed).contains i=true)
(hQ:∀c a w,Q (.panic c) (a.put oi.dst v) w->Q (.panic c) a w)(hk:ops[k]? = some ok)(hke:ok.after.any (λe=>Region.binds md e&&e.on==i)=true)(hkl:listed.getD k false=false)(hik:i≠k)
(hy:YieldsIf P ops S oi v a)(hS:S w)
(h:Q4a P md ops Q S k fuel (listed.setIfInBounds i true) (a.put oi.dst v) w):Q4a P md ops Q S k (fuel+1) listed a w:=T5b hi (Region.noSelect_spec hs) hQ hk hke fuel listed a w (Region.free_spec hi hf) (by simpa using hr) hy hS hkl hik h
theorem R2a(i:Nat)(oi:Oper){fuel:Nat}{listed:Array Bool}{a:Act}{w:World}(hr:Region.ready md ops listed=[i])(hi:ops[i]? = some oi)
(h:∀K:Act->World->Prop,(∀a' w',((listed.setIfInBounds i true).getD k false=false->S w')->Q4a P md ops Q S k fuel (listed.setIfInBounds i true) a' w'->K a' w')->if Region.wanted oi (yielded ops a.tmps)=true then oi.wp P a w K Q else K (a.put oi.dst undef) w):Q4a P md ops Q S k (fuel+1) listed a w:=by
 refine⟨λh0=>(by rw[h0] at hr;cases hr),λj hj=>?_⟩;rw[hr] at hj;obtain rfl:j=i:=by simpa using hj
 have h1:=h (λa' w'=>((listed.setIfInBounds j true).getD k false=false->S w')/\Q4a P md ops Q S k fuel (listed.setIfInBounds j true) a' w') λ_ _ h2 h3=>⟨h2,h3⟩
 unfold wpOp;simp only[hi];by_cases hw:Region.wanted oi (yielded ops a.tmps)=true
 ·rw[if_pos hw] at h1⊢;exact .inl h1
 ·rw[if_neg hw] at h1⊢;exact h1
theorem z2b{listed:Array Bool}{a:Act}{w:World}(hr:Region.ready md ops listed=[])(h:Q .normal a w) :
  ∀fuel,Q4a P md ops Q S k fuel listed a w
 | 0=>⟨hr,h⟩
 | _+1=>⟨λ_=>h,by rw[hr];simp⟩
theorem g3a{fuel:Nat}{listed:Array Bool}{a:Act}{w:World}(h:∀a',a'=a->Q4a P md ops Q S k fuel listed a' w):Q4a P md ops Q S k fuel listed a w:=h a rfl
theorem U7a{id:Nat}{a:Act}{w:World}(k:Nat)(S:World->Prop)(hm:P.follows .mixedOrders=true)
(h:Q4a P .any ops Q S k ops.size (Array.replicate ops.size false) a { w with drawn:=w.drawn+1 }):(Code.region id ops true).wp P Q a w:=wp_region_any hm (M3b _ _ _ _ h)
end
theorem y4c(g:Nat)(w:World):(Instr.fieldAt 127 (.pointer (some ⟨g,0,none⟩)) 0).run prog w=.ok (.pointer (some ⟨g,0,none⟩)) w:=by go_simp
theorem z4c(g:Nat)(w:World):(Instr.fieldAt 127 (.pointer (some ⟨g,0,none⟩)) 1).run prog w=.ok (.pointer (some ⟨g,3,none⟩)) w:=by go_simp
theorem j3c(g:Nat)(w:World):(Instr.fieldAt 34 (.pointer (some ⟨g,3,none⟩)) 0).run prog w=.ok (.pointer (some ⟨g,3,none⟩)) w:=by go_simp
theorem k3c:(prog.info? 22).map (λi=>(i.zero,i.size,i.bytes))=some (some (.int .u16 0),1,2):=by kernel_rfl
theorem A2b{P:Program}{ops:Array Oper}{o:Oper}{a:Act}{w:World}{K:Act->World->Prop}{Q:Exit->Act->World->Prop}{E:Prop}(hgd:o.guard=none)(s x:Operand)(k:IntKind)(T e:TypeId)(bytes:Nat)
(ht:P.underlying T=some (.slice e))(hi:(P.info? e).map (λi=>(i.zero,i.size,i.bytes))=some (some (.int k 0),1,bytes))
(ho:o.op=.call { callee:=.builtin .append,args:=#[s,x],argTypes:=#[T,T] })
(base:Nat)(v:Value)(xs ys:List Int)(g2 m c:Nat)(hm:ys.length=m)(hs:a.eval s=v)(hx:a.eval x=.slice (some ⟨g2,0,none⟩) m c)
(hown:d4a k e w base v xs)(hY:Hid (Blk w g2 e (ys.map (Value.int k))))(hlen:(xs.length+m)*bytes<=140737488355328)(h63:xs.length+m<=9223372036854775807)(hbase:base<=w.heap.size)
(h:∀v' w',Hid (d4a k e w' base v' (xs++ys))->Hid (Below base w w')->K (a.put o.dst v') w') :
  if Region.wanted o (yielded ops a.tmps)=true then Oper.wp P o a w K Q else E:=by
 have hw:Region.wanted o (yielded ops a.tmps)=true:=by simp[Region.wanted,hgd]
 rw[if_pos hw];obtain⟨i0,hi0,hz0,hz1,hz2⟩:=info_parts hi;have hr:=hY.o;refine wp_append_own _ s x T ho base e i0 (.int k 0) 1 bytes ht hi0 hz0 hz1 hz2 rfl (by omega) v xs.length (xs.map (Value.int k)) hs hown ⟨g2,0,none⟩ m c (ys.map (Value.int k)) hx (by simp[hm]) ?_
  (by intro v hv;obtain⟨x,_,rfl⟩:=List.mem_map.1 hv;rfl) (by unfold maxLen;omega) hlen hbase ?_
 ·intro j y hj;have e1:(⟨g2,0,none⟩:Addr).add j=⟨g2,j,none⟩:=by
   by_cases hj0:j=0
   ·subst hj0;simp[Addr.add]
   ·simp[Addr.add,hj0]
  rw[e1,hr.cell j,<-hj]
 ·intro v' w' hown' hgr _;refine h v' w' ?_ ((Below.refl base w).grown hgr hbase λi hi=>(hown.block hi).1);show World.ownsRow _ _ _ _ _ _ _
  rw[List.length_append,List.map_append,hm];exact hown'
theorem W0a.thenBelow{g:Nat}{w w' w2:World}(a:W0a g w w')(b:Below w.heap.size w' w2):W0a g w w2:=⟨b.os.trans a.os,b.tape.trans a.tape,b.output.trans a.output,Nat.le_trans a.size b.size,λj hj hg=>(b.block j hj).trans (a.rest j hj hg)⟩
def Q2a(xs:List Int)(r:Rd):Nat->List Int×Rd
 | 0=>([],r)
 | k+1=>((Q2a xs r k).1++[(rdN xs 2 (Q2a xs r k).2).1],(rdN xs 2 (Q2a xs r k).2).2)
theorem V7a{xs:List Int}{s n:Nat}{r:Rd}(hl:xs.length=n)(h:r.p<=n):(rdN xs s r).2.p<=n:=by
 unfold rdN;split
 ·split
  ·exact h
  ·show r.p+s<=n;omega
 ·exact h
theorem p5a{xs:List Int}(hx:Bytes xs)(r:Rd):0<=(rdN xs 2 r).1/\(rdN xs 2 r).1<=65535:=by
 unfold rdN;split
 ·split
  ·exact⟨Int.le_refl 0,by show(0:Int)<=65535;decide⟩
  ·have:=T1a xs hx r.p 2 65536 (by decide);exact⟨this.1,by show Y0a xs r.p 2<=65535;omega⟩
 ·exact⟨Int.le_refl 0,by show(0:Int)<=65535;decide⟩
theorem H0b{xs:List Int}{n:Nat}{r:Rd}(hl:xs.length=n)(h:r.p<=n)(k:Nat):(Q2a xs r k).2.p<=n:=by
 induction k with
 | zero=>exact h
 | succ k ih=>exact V7a hl ih
theorem N3b{xs:List Int}{r:Rd}(k:Nat):(Q2a xs r k).1.length=k:=by
 induction k with
 | zero=>rfl
 | succ k ih=>simp[Q2a,ih]
def D1a(xs:List Int)(r:Rd):List Int×Rd:=if 16<(rdN xs 2 r).1 then ([],⟨(rdN xs 2 r).2.p,3⟩) else Q2a xs (rdN xs 2 r).2 (rdN xs 2 r).1.toNat
def B2b(w:World)(g:Nat)(T:TypeId)(A:Option Addr)(n c:Nat)(q:List Int×Rd)(tail:List Value)(e:Ending)(w':World):Prop:=e=.returned (.tuple #[])/\∃v,PRd w' g T A n c q.2 (v::tail)/\d4a .u16 22 w' w.heap.size v q.1/\W0a g w w'
theorem l3c(w:World)(g B:Nat)(T:TypeId)(A:Option Addr)(n c:Nat)(xs:List Int)(r:Rd)(tail:List Value)(hB:PRd w g T A n c r (.slice none 0 0::tail))(hx:Holds w B A n c xs)(hg:B<=g)(hp:r.p<=n) :
  Calls prog 80 #[.pointer (some ⟨g,0,none⟩)] w (B2b w g T A n c (D1a xs r) tail):=by
 have hlt:=hB.lt;have hBs:B<=w.heap.size:=by have:g<w.heap.size:=hlt;omega
 have C1:=Q6a w g T A n c xs r 2 (.slice none 0 0::tail) hB (hx.mono hBs) hp (by decide);unfold Q4b at C1;have hbd:=p5a hx.byte r;have hpl:=V7a (s:=2) (r:=r) hx.len hp;obtain⟨hb0,hb1⟩:=hbd;have hl:=hx.len;have HX0:=hI hx;by_cases h16:16<(rdN xs 2 r).1
 ·have HQ:Hid (∀e w',(e=.returned (.tuple #[])/\Blk w' g T (.slice A n c::.int .i64 (rdN xs 2 r).2.p::.int .i64 3::.slice none 0 0::tail)/\W0a g w w')->B2b w g T A n c (D1a xs r) tail e w'):=by rintro e w' ⟨h1,h2,h3⟩;unfold D1a;rw[if_pos h16];exact⟨h1,_,h2,d4a.nil _ _ _ _,h3⟩
  obtain⟨z,hz⟩:=xX ((rdN xs 2 r).1);obtain⟨q,hq⟩:=xX ((rdN xs 2 r).2);rw[<-hz] at C1 hb0 hb1 h16;rw[<-hq] at C1 HQ;have C1':=hI C1;clear C1 hz hq hB hx hl;go_enter func80,ntmps80;go_wp2_with fail;refine C1'.o.mono ?_;rintro e w1 ⟨rfl,hB1,hS1⟩;have HB1:Hid (Blk w1 g T (.slice A n c::.int .i64 q.p::.int .i64 q.e::.slice none 0 0::tail)):=hB1;have HS1:=hI hS1;have gd:w1.cell? ⟨g,2,none⟩=some (.int .i64 q.e):=HB1.o.at rfl;have gf:=Blk.frozen HB1.o 2;clear hB1 hS1;go_wp2;go_end0;exact HQ.o _ _ ⟨rfl,Blk.set HB1.o 2 _,HS1.o.setCell 2 _⟩
 ·have HQ:Hid (∀k:Nat,(rdN xs 2 r).1=(k:Int)->∀e w',(e=.returned (.tuple #[])/\∃v,Blk w' g T (.slice A n c::.int .i64 (Q2a xs (rdN xs 2 r).2 k).2.p::.int .i64 (Q2a xs (rdN xs 2 r).2 k).2.e::v::tail)/\d4a .u16 22 w' w.heap.size v (Q2a xs (rdN xs 2 r).2 k).1/\W0a g w w')->B2b w g T A n c (D1a xs r) tail e w'):=by rintro k hk e w' hh;unfold D1a;rw[if_neg h16,hk,Int.toNat_natCast];exact hh
  obtain⟨N,hN⟩:∃N:Nat,(rdN xs 2 r).1=(N:Int):=⟨(rdN xs 2 r).1.toNat,by omega⟩;have HQ2:=hI (HQ.o N hN);obtain⟨q,hq⟩:=xX ((rdN xs 2 r).2);rw[<-hq] at C1 HQ2 hpl;rw[hN] at C1 h16 hb1;have hN16:N<=16:=by omega
  have C1':=hI C1;have HST:Hid (∀j,(Q2a xs q (j+1)).1=(Q2a xs q j).1++[(rdN xs 2 (Q2a xs q j).2).1]/\(Q2a xs q (j+1)).2=(rdN xs 2 (Q2a xs q j).2).2):=λj=>⟨rfl,rfl⟩
  have HPL:Hid (∀j,(Q2a xs q j).2.p<=n):=λj=>H0b hl hpl j
  have HLN:Hid (∀j,(Q2a xs q j).1.length=j):=λj=>N3b j
  have CN:Hid (∀(w:World) (r':Rd) (v:Value),PRd w g T A n c r' (v::tail)->Holds w w.heap.size A n c xs->r'.p<=n->Calls prog 88 #[.pointer (some ⟨g,0,none⟩),.int .i64 2] w λe w'=>e=.returned (.int .u64 (rdN xs 2 r').1)/\PRd w' g T A n c (rdN xs 2 r').2 (v::tail)/\W0a g w w'):=λw r' v h1 h2 h3=>Q6a w g T A n c xs r' 2 (v::tail) h1 h2 h3 (by decide)
  have HBD:Hid (∀r',0<=(rdN xs 2 r').1/\(rdN xs 2 r').1<=65535):=λr'=>p5a hx.byte r'
  obtain⟨nums,hnums⟩:=xX (Q2a xs q);have H0:Hid (nums 0=([],q)):=by show _=_;rw[hnums];rfl
  rw[<-hnums] at HST HPL HLN HQ2;obtain⟨num2,hnum2⟩:=xX (rdN xs 2);rw[<-hnum2] at CN HST HBD;clear HQ hN hq hnums hnum2 hB hx hl C1 h16 hb0 hb1 hpl hp;go_enter func80,ntmps80;go_wp2_with fail;refine C1'.o.mono ?_;rintro e w1 ⟨rfl,hB1,hS1⟩;have HB1:Hid (Blk w1 g T (.slice A n c::.int .i64 q.p::.int .i64 q.e::.slice none 0 0::tail)):=hB1;have HS1:=hI hS1;clear hB1 hS1 C1';go_wp2;go_loopw [14] (λi wr=>∃j:Nat,i=.int .u64 j/\j<=N/\∃v,Hid (Blk wr g T (.slice A n c::.int .i64 (nums j).2.p::.int .i64 (nums j).2.e::v::tail))/\Hid (d4a .u16 22 wr w.heap.size v (nums j).1)/\Hid (W0a g w wr)) (λi _=>N-(intOf i).toNat)
  case atStart=>exact⟨0,rfl,Nat.zero_le _,.slice none 0 0,by rw[H0.o];exact HB1,by rw[H0.o];exact d4a.nil _ _ _ _,HS1⟩
  case round=>
   obtain⟨j,rfl,hj,v,HK,HO,HS⟩:=hrel;by_cases hlt2:j<N
   ·have HX:Hid (Holds wr wr.heap.size A n c xs):=(HX0.o.below (HS.o.below hg hBs)).mono (Nat.le_trans hBs HS.o.size);have CNj:=CN.o wr.drew (nums j).2 v HK.o.drew HX.o.drew (HPL.o j);obtain⟨e1,e2⟩:=HST.o j;rw[<-e2] at CNj;obtain⟨z0,z1⟩:=HBD.o (nums j).2;obtain⟨z,hz⟩:=xX ((num2 (nums j).2).1);rw[<-hz] at CNj e1 z0 z1;have CNJ:=hI CNj;have E1:=hI e1;have hLn:=HLN.o j;have hz16:IntKind.u16.wrap z=z:=by rw[IntKind.wrap_u16];omega
    have hsz:=HS.o.size;obtain⟨r1,hr1⟩:=xX ((nums (j+1)).2);have HR1:=hI hr1;rw[<-hr1] at CNJ;obtain⟨L,hL⟩:=xX ((nums j).1);rw[<-hL] at HO E1 hLn;clear hr1 hL hz e1 e2 CNj;go_wp2;go_upto_region 5 with fail
    refine U7a 16 (λw'=>w'.cell? ⟨g,3,none⟩=some v) (by kernel_rfl) ?_;change Q4a _ _ _ _ _ _ _ _ _ wr.drew
    have S0:Hid (wr.drew.cell? ⟨g,3,none⟩=some v):=(HK.o.at rfl);have b0:Hid (W0a g w wr.drew):=(HS.o.drewN 1);refine z2a (i:=0) (v:=_) rfl (by kernel_rfl) (by kernel_rfl) (by kernel_rfl) (λ_ _ _ h=>h) rfl (by kernel_rfl) (by kernel_rfl) (by decide) (s0a (by kernel_rfl) (.tmp 0) rfl (.pointer (some ⟨g,0,none⟩)) (by kernel_rfl)) S0.o ?_;refine z2a (i:=1) (v:=_) rfl (by kernel_rfl) (by kernel_rfl) (by kernel_rfl) (λ_ _ _ h=>h) rfl (by kernel_rfl) (by kernel_rfl) (by decide) (s0a (by kernel_rfl) (.tmp 0) rfl (.pointer (some ⟨g,0,none⟩)) (by kernel_rfl)) S0.o ?_;refine z2a (i:=2) (v:=_) rfl (by kernel_rfl) (by kernel_rfl) (by kernel_rfl) (λ_ _ _ h=>h) rfl (by kernel_rfl) (by kernel_rfl) (by decide) (J0a (by kernel_rfl) (.tmp 17) rfl ⟨g,0,none⟩ (by kernel_rfl)) S0.o ?_;refine z2a (i:=3) (v:=_) rfl (by kernel_rfl) (by kernel_rfl) (by kernel_rfl) (λ_ _ _ h=>h) rfl (by kernel_rfl) (by kernel_rfl) (by decide) (w0a (by kernel_rfl) _ (.tmp 18) 1 rfl (.pointer (some ⟨g,0,none⟩)) (.pointer (some ⟨g,3,none⟩)) (by kernel_rfl) (z4c g)) S0.o ?_;refine z2a (i:=4) (v:=_) rfl (by kernel_rfl) (by kernel_rfl) (by kernel_rfl) (λ_ _ _ h=>h) rfl (by kernel_rfl) (by kernel_rfl) (by decide) (w0a (by kernel_rfl) _ (.tmp 19) 0 rfl (.pointer (some ⟨g,3,none⟩)) (.pointer (some ⟨g,3,none⟩)) (by kernel_rfl) (j3c g)) S0.o ?_;refine z2a (i:=5) (v:=_) rfl (by kernel_rfl) (by kernel_rfl) (by kernel_rfl) (λ_ _ _ h=>h) rfl (by kernel_rfl) (by kernel_rfl) (by decide) (k0a (by kernel_rfl) _ (.tmp 20) rfl g 3 (by kernel_rfl) v (λw h=>h) _ underlying29 rfl) S0.o ?_;refine z2a (i:=6) (v:=_) rfl (by kernel_rfl) (by kernel_rfl) (by kernel_rfl) (λ_ _ _ h=>h) rfl (by kernel_rfl) (by kernel_rfl) (by decide) (s0a (by kernel_rfl) (.tmp 0) rfl (.pointer (some ⟨g,0,none⟩)) (by kernel_rfl)) S0.o ?_;refine z2a (i:=7) (v:=_) rfl (by kernel_rfl) (by kernel_rfl) (by kernel_rfl) (λ_ _ _ h=>h) rfl (by kernel_rfl) (by kernel_rfl) (by decide) (J0a (by kernel_rfl) (.tmp 22) rfl ⟨g,0,none⟩ (by kernel_rfl)) S0.o ?_;refine z2a (i:=8) (v:=_) rfl (by kernel_rfl) (by kernel_rfl) (by kernel_rfl) (λ_ _ _ h=>h) rfl (by kernel_rfl) (by kernel_rfl) (by decide) (w0a (by kernel_rfl) _ (.tmp 23) 0 rfl (.pointer (some ⟨g,0,none⟩)) (.pointer (some ⟨g,0,none⟩)) (by kernel_rfl) (y4c g)) S0.o ?_;refine R2a 9 _ (by kernel_rfl) rfl λK hK=>?_
    go_simp;refine(CNJ.o).mono ?_;rintro e v1 ⟨rfl,hB1,hS1⟩;have S1:Hid (v1.cell? ⟨g,3,none⟩=some v):=(Blk.at hB1 rfl);have b1:Hid (W0a g w v1):=b0.o.trans hS1;have HK1:Hid (Blk v1 g T (.slice A n c::.int .i64 r1.p::.int .i64 r1.e::v::tail)):=hB1;have HO1:Hid (d4a .u16 22 v1 w.heap.size v L):=HO.o.keep λi cs hi hc=>by obtain⟨hb,_⟩:=HO.o.block hi;exact hS1.rest i (Array.getElem?_eq_some_iff.1 hc).1 (by omega)
    refine hK _ _ (λ_=>S1.o) ?_;clear hK K;clear hB1 hS1;refine z2a (i:=10) (v:=(.int .u16 z)) rfl (by kernel_rfl) (by kernel_rfl) (by kernel_rfl) (λ_ _ _ h=>h) rfl (by kernel_rfl) (by kernel_rfl) (by decide) (.inl ⟨by kernel_rfl,λw _=>by go_simp⟩) S1.o ?_;refine g3a λa1 ha1=>?_
    refine R2a 11 _ (by kernel_rfl) rfl λK hK=>?_
    refine P0a rfl _ _ 1 _ rfl underlying29 [.int .u16 z] (by rw[ha1];kernel_rfl) ?_;intro g2 v2 q2 q3 Y2 b2;have hs1:=b1.o.size;have HK2:=hI (HK1.o.over b2.o);have HO2:=hI (HO1.o.below b2.o);have HS2:=hI (b1.o.trans (W0a.of_below b2.o g));refine hK _ _ (λ_=>HK2.o.at rfl) ?_;clear hK K;refine g3a λa2 ha2=>?_
    try rw[ha1] at ha2
    have e2_21:a2.eval (.tmp 21)=v:=by rw[ha2];kernel_rfl
    have e2_27:a2.eval (.tmp 27)=.slice (some ⟨g2,0,none⟩) 1 1:=by rw[ha2];kernel_rfl
    refine R2a 12 _ (by kernel_rfl) rfl λK hK=>?_
    refine A2b rfl (.tmp 21) (.tmp 27) .u16 29 22 2 underlying29 k3c rfl w.heap.size v L [z] g2 1 1 rfl e2_21 e2_27 HO2.o Y2 (by omega) (by omega) (by have:=b2.o.size;omega) ?_;intro u v3 ho3 b3;have HK3:=hI (Blk.below HK2.o b3.o hlt);have OU:u.oneCell'=true:=by obtain⟨_,_,_,rfl,_⟩:=ho3.o.open;rfl
    refine hK _ _ (λ_=>HK3.o.at rfl) ?_;clear hK K;refine g3a λa3 ha3=>?_
    try rw[ha2] at ha3
    have S3:Hid (v3.cell? ⟨g,3,none⟩=some v):=HK3.o.at rfl;rw[ha3];refine R2a 13 _ (by kernel_rfl) rfl λK hK=>?_
    go_simp;refine hK _ _ (λ_=>S3.o) ?_;clear hK K;refine R2a 14 _ (by kernel_rfl) rfl λK hK=>?_
    go_simp;refine hK _ _ (λ_=>S3.o) ?_;clear hK K;refine R2a 15 _ (by kernel_rfl) rfl λK hK=>?_
    go_simp;refine hK _ _ (λ_=>S3.o) ?_;clear hK K;refine g3a λa4 ha4=>?_
    try rw[ha3] at ha4
    have e4_31:a4.eval (.tmp 31)=.pointer (some ⟨g,3,none⟩):=by rw[ha4];kernel_rfl
    have e4_28:a4.eval (.tmp 28)=u:=by rw[ha4];kernel_rfl
    refine R2a 16 _ (by kernel_rfl) rfl λK hK=>?_
    refine I8a rfl 29 (.tmp 31) (.tmp 28) (by kernel_rfl) g 3 e4_31 T _ u e4_28 HK3 (by show 3<_;simp only[List.length_cons];omega) (by kernel_rfl) OU ?_;intro v4 X4 O4 q4;refine hK _ _ (λh=>Bool.noConfusion (show true=false from h)) ?_;clear hK K;change Q4a _ _ _ _ _ _ _ _ a4 v4
    rw[ha4];refine z2b (by kernel_rfl) ?_ _;have HB4:Hid (Blk v4 g T (.slice A n c::.int .i64 (nums (j+1)).2.p::.int .i64 (nums (j+1)).2.e::u::tail)):=by rw[<-HR1.o];exact X4.o
    have HO4:Hid (d4a .u16 22 v4 w.heap.size u (nums (j+1)).1):=by rw[E1.o];exact ho3.o.keep λi cs hi hc=>O4.o.rest i (by obtain⟨hb,_⟩:=ho3.o.block hi;omega)
    have HS4:=hI ((HS2.o.thenBelow b3.o).trans (W0a.of_only O4.o));clear X4 O4 q4 ho3 b3 HK3 HS2 HO2 HK2;go_wp2;go_roundw
    case rel=>exact⟨j+1,by go_num,hlt2,u,HB4,HO4,HS4⟩
    case measure=>simp[intOf];omega
   ·obtain rfl:j=N:=by omega
    go_wp2;go_end0;exact HQ2.o _ _ ⟨rfl,v,HK.o,HO.o,HS.o⟩
end Go.Proofs.YtjpcifmeimcikaaGreatDoor
