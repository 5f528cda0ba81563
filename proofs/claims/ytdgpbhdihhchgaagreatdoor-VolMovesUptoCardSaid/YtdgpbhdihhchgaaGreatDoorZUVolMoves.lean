/-
  PROVED HERE: 'Rows.VolMovesUptoCardSaid': for every input whose values and letters are at most 1048576 together the Go function 'refectory/refectorylaw16.VolMoves' returns true,and each argument reads afterwards as it read before. Conditions: that bound;the variables unicode/utf8.acceptRanges and unicode/utf8.first hold what the program's text lays in them (the card ties this).
-/
import Derived.Test.YtdgpbhdihhchgaaGreatDoorCards
import Derived.Test.YtdgpbhdihhchgaaGreatDoorTie
import Derived.Deep.CondSized
import Derived.Test.YtdgpbhdihhchgaaGreatDoorSAX
import Derived.Test.YtdgpbhdihhchgaaGreatDoorS0
set_option linter.all false
set_option maxHeartbeats 8000000
set_option maxRecDepth 100000
namespace Go.Proofs.YtdgpbhdihhchgaaGreatDoor.volMovesUpto
open Go.ChangeShapes Go.WideShapes Go.ChangeAt Go.RowKit
set_option maxRecDepth 100000
theorem own:ownKnob Tryz.prog.godebug=none:=by kernel_rfl
theorem laidOut:laidOutB Tryz.prog=true:=by kernel_rfl
theorem bulk_part{H:Type}{l:List (DataW H)}(hk:Rows.uptoSmall H l=true){d:DataW H}(h:d∈l):Rows.uptoBulk d<=1048576:=by
 have hall:Rows.uptoBulkAll l<=1048576:=of_decide_eq_true hk;have hp:Rows.uptoBulk d<=Rows.uptoBulkAll l:=by
  clear hk hall
  induction l with
  | nil=>cases h
  | cons x r ih=>
   simp only[Rows.uptoBulkAll];rcases List.mem_cons.1 h with e | e
   ·subst e;omega
   ·have:=ih e;omega
 omega
theorem contract(H:Type)(enc:TypeId×Value->H)(W:World)(base:Nat)(args:Array Value)(ds gs:List (DataW H))(before:List MemPlace)
(hval:∀(j:Nat) t v,Tryz.f6.params[j]? = some t->args[j]? = some v->Value.okWide Tryz.prog W .any base t v)
(hW:DataW.Whole enc Tryz.prog Tryz.f6.params.toList Rows.volMovesSpec.vars false W args.toList ds gs before)(hk:Rows.uptoSmall H (ds++gs)=true)
(hL:laidMetH Tryz.prog Rows.volMovesUptoRow.laid W)
(hsz:(DataW.weightsEach Tryz.prog (Tryz.f6.params.toList++(Rows.OpenSpec.upto Rows.volMovesSpec).bare.plain.varTypes Tryz.prog) (ds++gs)).all (·<=reachBytes)=true) :
  Calls Tryz.prog 6 args W λe W'=>∃v,e=.returned v/\Rows.volMovesSpec.post enc Tryz.prog Tryz.f6 false true false false W args v W':=by
 have hW':=hW;obtain⟨p,q,hA0,hV,rfl,hfz,hnd⟩:=hW;have hA:DataW.TrodAll enc Tryz.prog W 0 (λ_=>true) true Tryz.f6.params.toList args.toList ds p:=hA0;rw[Tryz.params6] at hA hval hsz;obtain⟨v0,vs0,d0,ds0,p0,q0,hargs,rfl,rfl,h0,r_0⟩:=trodAll_cons hA;obtain⟨v1,vs1,d1,ds1,p1,q1,rfl,rfl,rfl,h1,r_1⟩:=trodAll_cons r_0;obtain⟨v2,vs2,d2,ds2,p2,q2,rfl,rfl,rfl,h2,r_2⟩:=trodAll_cons r_1;obtain⟨v3,vs3,d3,ds3,p3,q3,rfl,rfl,rfl,h3,r_3⟩:=trodAll_cons r_2;obtain⟨v4,vs4,d4,ds4,p4,q4,rfl,rfl,rfl,h4,r_4⟩:=trodAll_cons r_3;obtain⟨v5,vs5,d5,ds5,p5,q5,rfl,rfl,rfl,h5,r_5⟩:=trodAll_cons r_4;obtain⟨rfl,rfl,rfl⟩:=trodAll_nil r_5;obtain rfl:args=#[v0,v1,v2,v3,v4,v5]:=by cases args;simp_all
 obtain⟨rfl,rfl⟩:=trodVars_none hV;have k0:=h0;have lt0:∀x∈p0,x.block<W.heap.size:=by obtain⟨m,hm⟩:=k0;exact DataW.trod_lt m _ _ _ hm
 have k1:=h1;have lt1:∀x∈p1,x.block<W.heap.size:=by obtain⟨m,hm⟩:=k1;exact DataW.trod_lt m _ _ _ hm
 have k2:=h2;have lt2:∀x∈p2,x.block<W.heap.size:=by obtain⟨m,hm⟩:=k2;exact DataW.trod_lt m _ _ _ hm
 have k3:=h3;have lt3:∀x∈p3,x.block<W.heap.size:=by obtain⟨m,hm⟩:=k3;exact DataW.trod_lt m _ _ _ hm
 have k4:=h4;have lt4:∀x∈p4,x.block<W.heap.size:=by obtain⟨m,hm⟩:=k4;exact DataW.trod_lt m _ _ _ hm
 have k5:=h5;have lt5:∀x∈p5,x.block<W.heap.size:=by obtain⟨m,hm⟩:=k5;exact DataW.trod_lt m _ _ _ hm
 obtain⟨a0,rfl,rfl,rfl,w0⟩:=open_int Tryz.underlying3 (hval 0 3 v0 rfl rfl) h0;obtain⟨A1,n1,c1,z1,rfl,l1,r1,hh1⟩:=o4a (hval 1 22 v1 rfl rfl) h1 (λm hm=>by simpa using List.all_eq_true.1 hsz _ (DataW.weights_mem_each (j:=1) rfl rfl m hm)) (by have hb:=bulk_part hk (d:=d1) (by simp);omega);obtain⟨a2,rfl,rfl,rfl,w2⟩:=open_int Tryz.underlying3 (hval 2 3 v2 rfl rfl) h2;obtain⟨a3,rfl,rfl,rfl,w3⟩:=Go.ChangeMaps.open_string Tryz.underlying9 (hval 3 9 v3 rfl rfl) h3;have r3:a3.size<=1048576:=by
  have hb:=bulk_part hk (d:=.lit (.string a3.data.toList)) (by simp);simp only[Rows.uptoBulk] at hb;have e:a3.data.toList.length=a3.size:=by rw[Array.length_toList];rfl
  omega
 obtain⟨a4,rfl,rfl,rfl⟩:=open_bool Tryz.underlying4 (hval 4 4 v4 rfl rfl) h4;obtain⟨a5,rfl,rfl,rfl,w5⟩:=Go.ChangeMaps.open_string Tryz.underlying9 (hval 5 9 v5 rfl rfl) h5;have r5:a5.size<=1048576:=by
  have hb:=bulk_part hk (d:=.lit (.string a5.data.toList)) (by simp);simp only[Rows.uptoBulk] at hb;have e:a5.data.toList.length=a5.size:=by rw[Array.length_toList];rfl
  omega
 clear hA0;refine(walk_VolMoves W (P2a hL) a0 (N0a w0) A1 n1 c1 z1 hh1 (by omega) a2 (N0a w2) a3 r3 a4 a5 r5).mono λe W' ⟨he,bel⟩=>?_
 subst he;exact⟨_,rfl,_,_,_,[],_,[],hW',trodAll_mk1 (shut_bool Tryz.underlying4 _),(trodAll_cons_mk (Below.trod laidOut (by kernel_rfl) (of_decide_eq_true (by kernel_rfl)) k0 bel lt0) (trodAll_cons_mk (Below.trod laidOut (by kernel_rfl) (of_decide_eq_true (by kernel_rfl)) k1 bel lt1) (trodAll_cons_mk (Below.trod laidOut (by kernel_rfl) (of_decide_eq_true (by kernel_rfl)) k2 bel lt2) (trodAll_cons_mk (Below.trod laidOut (by kernel_rfl) (of_decide_eq_true (by kernel_rfl)) k3 bel lt3) (trodAll_cons_mk (Below.trod laidOut (by kernel_rfl) (of_decide_eq_true (by kernel_rfl)) k4 bel lt4) (trodAll_cons_mk (Below.trod laidOut (by kernel_rfl) (of_decide_eq_true (by kernel_rfl)) k5 bel lt5) trodAll_mk0)))))),rfl,bel.frame _,λh=>by cases h⟩
theorem reads(os:Os){H:Type}(enc:TypeId×Value->H):∃places,DataW.whole enc Tryz.prog ((R1a os).forCall (λ_ _=>0) ⟨#[],#[.int .i64 0,.slice none 0 0,.int .i64 0,.string .empty,.bool false,.string .empty],[]⟩).memory Tryz.f6.params.toList Rows.volMovesSpec.vars false (#[.int .i64 0,.slice none 0 0,.int .i64 0,.string .empty,.bool false,.string .empty]:Array Value).toList 8=some ([.lit (.int .i64 0),.nil,.lit (.int .i64 0),.lit (.string []),.lit (.bool false),.lit (.string [])],[],places):=⟨[],by kernel_rfl⟩
theorem lifted(os:Os)(started:os.Started)(H:Type)(enc:TypeId×Value->H)(F:Stop.Interp) :
  ReturnsInHanded {} Tryz.checked os 6 .any ((Rows.OpenSpec.upto Rows.volMovesSpec).preRow enc Tryz.prog Tryz.f6 Rows.volMovesUptoRow.domain false Rows.volMovesUptoRow.laid) (((Rows.OpenSpec.upto Rows.volMovesSpec).at F).post enc Tryz.prog Tryz.f6 false true false false):=by
 obtain⟨places,hx⟩:=reads os enc;refine returnsInHanded_of_row (C:=Tryz.checked) (s:=Rows.OpenSpec.upto Rows.volMovesSpec) own started (by kernel_rfl) Tryz.func6
  (witness_row_at (enc:=enc) (C:=Tryz.checked) false (R1a os) #[.int .i64 0,.slice none 0 0,.int .i64 0,.string .empty,.bool false,.string .empty] rfl (by kernel_rfl) (by kernel_rfl) (by kernel_rfl)
   (OpenSpec.preRow_of_cond 8 hx (by kernel_rfl) (λk hk=>by cases hk;kernel_rfl) (by kernel_rfl) (A5a os _))) ?_
 intro W base args ds gs before hval hW _ hcond hsz hL _ _;exact contract H enc W base args ds gs before hval hW (hcond _ rfl) hL hsz
theorem row:Rows.VolMovesUptoSaid:=
 OpenClaim.holds_of_cond 6 Tryz.f6 rfl rfl rfl rfl rfl rfl rfl ⟨rfl,rfl,rfl,rfl,rfl⟩ rfl rfl rfl rfl rfl (by kernel_rfl) Tryz.func6 (by kernel_rfl)
  (of_decide_eq_true (by kernel_rfl)) (by unfold Func.isWrapper;first | (rw[if_pos (by decide +kernel)];kernel_rfl) | (rw[if_neg (by decide +kernel)];exact⟨rfl,rfl⟩))
  (λos started H enc _ F=>by rw[OpenClaim.pre_eq_preRow];exact lifted os started H enc F)
theorem looks(f:FuncId)(fn:Func)(hf:Tryz.pinned.checked.prog.funcNamed "refectory/refectorylaw16.VolMoves" = some f)(hfn:Tryz.pinned.checked.prog.funcs[f]? = some fn) :
  false=Tryz.pinned.checked.prog.looks []/\∀(j:Nat) t,fn.params[j]? = some t->Tryz.pinned.checked.prog.wantsStandIn t=false:=by
 obtain rfl:f=6:=Option.some.inj ((show Tryz.prog.funcNamed "refectory/refectorylaw16.VolMoves" = some 6 by kernel_rfl).symm.trans hf) |>.symm
 obtain rfl:fn=Tryz.f6:=(Option.some.inj (Tryz.func6.symm.trans hfn)).symm;refine⟨by kernel_rfl,λj t ht=>?_⟩;rw[Tryz.params6] at ht;have h:(#[3,22,3,9,4,9]:Array TypeId).toList.all (λt=>!Tryz.prog.wantsStandIn t)=true:=by kernel_rfl
 have:=List.all_eq_true.1 h t (Array.mem_toList_iff.2 (Array.mem_of_getElem? ht));have h0:Tryz.prog.wantsStandIn t=false:=by simpa using this
 exact h0
theorem proved:Rows.VolMovesUptoCardSaid:=Claim7.holds_tied_plain_at .later [] _ _ _ _ row (λ_ h=>by cases h) (by kernel_rfl) (λ_ h=>by cases h) volMovesUpto_row_tie rfl ⟨rfl,rfl⟩ (by kernel_rfl) rfl looks (by kernel_rfl)
end Go.Proofs.YtdgpbhdihhchgaaGreatDoor.volMovesUpto
