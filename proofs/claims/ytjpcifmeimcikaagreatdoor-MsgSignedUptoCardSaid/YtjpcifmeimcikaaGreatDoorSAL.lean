import Derived.Test.YtjpcifmeimcikaaGreatDoorSAC
import Derived.Test.YtjpcifmeimcikaaGreatDoorS0
set_option linter.all false
set_option maxHeartbeats 8000000
set_option maxRecDepth 100000
namespace Go.Proofs.YtjpcifmeimcikaaGreatDoor
open Go.RowKit
theorem E3c(w:World)(cs ds:List Value)(a b:l1a)(ka:a.ok)(kb:b.ok)(ha:g1a w w.heap.size cs a)(hb:g1a w w.heap.size ds b)(la:a.dial.length<=281474976710656/\a.data.length<=281474976710656/\a.locks.length<=281474976710656)(lb:b.dial.length<=281474976710656/\b.data.length<=281474976710656/\b.locks.length<=281474976710656) :
  Calls Tryz.prog 14 #[.agg cs.toArray,.agg ds.toArray] w λe w'=>e=.returned (.bool (decide (a=b)))/\Below w.heap.size w w':=by
 obtain⟨la1,la2,la3⟩:=la;obtain⟨lb1,lb2,lb3⟩:=lb;have HL:=hI (ha.len ka);have HM:=hI (hb.len kb);obtain⟨A1,An1,Ac1,A2,An2,Ac2,A3,An3,Ac3,rfl,hx1,hx2,hx3⟩:=ha;obtain⟨B1,Bn1,Bc1,B2,Bn2,Bc2,B3,Bn3,Bc3,rfl,hy1,hy2,hy3⟩:=hb;have bA1:An1<=281474976710656:=by have:=hx1.len;omega
 have bA2:An2<=281474976710656:=by have:=hx2.len;omega
 have bA3:An3<=281474976710656:=by have:=hx3.len;omega
 have bB1:Bn1<=281474976710656:=by have:=hy1.len;omega
 have bB2:Bn2<=281474976710656:=by have:=hy2.len;omega
 have bB3:Bn3<=281474976710656:=by have:=hy3.len;omega
 have CW:Hid (∀w':World,Below w.heap.size w w'->Calls Tryz.prog 26 #[.slice A1 An1 Ac1,.slice B1 Bn1 Bc1] w' λe v=>e=.returned (.bool (decide (a.dial=b.dial)))/\∃k,w'.drewN k=v):=λw' hb=>X6b w' _ _ _ _ _ _ _ _ _ _ (hx1.below hb) (hy1.below hb) bA1 bB1
 have CS:Hid (∀w':World,Below w.heap.size w w'->Calls Tryz.prog 27 #[.slice A2 An2 Ac2,.slice B2 Bn2 Bc2] w' λe v=>e=.returned (.bool (decide (a.data=b.data)))/\∃k,w'.drewN k=v):=λw' hb=>Y7b w' _ _ _ _ _ _ _ _ _ _ (hx2.below hb) (hy2.below hb)
 have CR:Hid (∀w':World,Below w.heap.size w w'->Calls Tryz.prog 28 #[.slice A3 An3 Ac3,.slice B3 Bn3 Bc3] w' λe v=>e=.returned (.bool (decide (a.locks=b.locks)))/\∃k,w'.drewN k=v):=λw' hb=>G0c w' _ _ _ _ _ _ _ _ _ _ (hx3.below hb) (hy3.below hb) bA3 bB3
 have f_dial:Hid (¬a.dial=b.dial->decide (a=b)=false):=λh=>decide_eq_false λhe=>h (by rw[he])
 have f_guid:Hid (¬a.guid=b.guid->decide (a=b)=false):=λh=>decide_eq_false λhe=>h (by rw[he])
 have f_proof:Hid (¬a.proof=b.proof->decide (a=b)=false):=λh=>decide_eq_false λhe=>h (by rw[he])
 have f_user:Hid (¬a.user=b.user->decide (a=b)=false):=λh=>decide_eq_false λhe=>h (by rw[he])
 have f_share:Hid (¬a.share=b.share->decide (a=b)=false):=λh=>decide_eq_false λhe=>h (by rw[he])
 have f_acc:Hid (¬a.acc=b.acc->decide (a=b)=false):=λh=>decide_eq_false λhe=>h (by rw[he])
 have f_shr:Hid (¬a.shr=b.shr->decide (a=b)=false):=λh=>decide_eq_false λhe=>h (by rw[he])
 have f_way:Hid (¬a.way=b.way->decide (a=b)=false):=λh=>decide_eq_false λhe=>h (by rw[he])
 have f_opt:Hid (¬a.opt=b.opt->decide (a=b)=false):=λh=>decide_eq_false λhe=>h (by rw[he])
 have f_lev:Hid (¬a.lev=b.lev->decide (a=b)=false):=λh=>decide_eq_false λhe=>h (by rw[he])
 have f_dur:Hid (¬a.dur=b.dur->decide (a=b)=false):=λh=>decide_eq_false λhe=>h (by rw[he])
 have f_file:Hid (¬a.file=b.file->decide (a=b)=false):=λh=>decide_eq_false λhe=>h (by rw[he])
 have f_name:Hid (¬a.name=b.name->decide (a=b)=false):=λh=>decide_eq_false λhe=>h (by rw[he])
 have f_at_:Hid (¬a.at_=b.at_->decide (a=b)=false):=λh=>decide_eq_false λhe=>h (by rw[he])
 have f_n:Hid (¬a.n=b.n->decide (a=b)=false):=λh=>decide_eq_false λhe=>h (by rw[he])
 have f_data:Hid (¬a.data=b.data->decide (a=b)=false):=λh=>decide_eq_false λhe=>h (by rw[he])
 have f_locks:Hid (¬a.locks=b.locks->decide (a=b)=false):=λh=>decide_eq_false λhe=>h (by rw[he])
 have f_most:Hid (¬a.most=b.most->decide (a=b)=false):=λh=>decide_eq_false λhe=>h (by rw[he])
 have f_pat:Hid (¬a.pat=b.pat->decide (a=b)=false):=λh=>decide_eq_false λhe=>h (by rw[he])
 have f_aft:Hid (¬a.aft=b.aft->decide (a=b)=false):=λh=>decide_eq_false λhe=>h (by rw[he])
 have f_cls:Hid (¬a.cls=b.cls->decide (a=b)=false):=λh=>decide_eq_false λhe=>h (by rw[he])
 have f_siz:Hid (¬a.siz=b.siz->decide (a=b)=false):=λh=>decide_eq_false λhe=>h (by rw[he])
 have f_on:Hid (¬a.on=b.on->decide (a=b)=false):=λh=>decide_eq_false λhe=>h (by rw[he])
 have HT:Hid (a.dial=b.dial->a.guid=b.guid->a.proof=b.proof->a.user=b.user->a.share=b.share->a.acc=b.acc->a.shr=b.shr->a.way=b.way->a.opt=b.opt->a.lev=b.lev->a.dur=b.dur->a.file=b.file->a.name=b.name->a.at_=b.at_->a.n=b.n->a.data=b.data->a.locks=b.locks->a.most=b.most->a.pat=b.pat->a.aft=b.aft->a.cls=b.cls->a.siz=b.siz->a.on=b.on->decide (a=b)=true):=by intro e0 e1 e2 e3 e4 e5 e6 e7 e8 e9 e10 e11 e12 e13 e14 e15 e16 e17 e18 e19 e20 e21 e22;rw[decide_eq_true_iff];cases a;cases b;simp only at e0 e1 e2 e3 e4 e5 e6 e7 e8 e9 e10 e11 e12 e13 e14 e15 e16 e17 e18 e19 e20 e21 e22;subst e0 e1 e2 e3 e4 e5 e6 e7 e8 e9 e10 e11 e12 e13 e14 e15 e16 e17 e18 e19 e20 e21 e22;rfl
 have q_guid:∀w:World,(Op.equalIn 10000 26 (.agg (a.guid.map (Value.int .u8)).toArray) (.agg (b.guid.map (Value.int .u8)).toArray)).run Tryz.prog w=.ok (decide (a.guid=b.guid)) w:=λw=>y2a Tryz.underlying26 Tryz.underlying5 q8a a.guid b.guid ka.glen kb.glen 9998 w
 have qg_guid:=z3b;have RA_guid:Hid (∀(w:World) (g:Nat),Blk w g 34 (l0a (.slice A1 An1 Ac1) (.slice A2 An2 Ac2) (.slice A3 An3 Ac3) a)->w.rangeAt g 1 (a.guid.map (Value.int .u8))):=λw g h=>J6a h ka
 have NA_guid:Hid ((a.guid.map (Value.int .u8)).length=16):=by show _=_;rw[List.length_map];exact ka.glen
 have RB_guid:Hid (∀(w:World) (g:Nat),Blk w g 34 (l0a (.slice B1 Bn1 Bc1) (.slice B2 Bn2 Bc2) (.slice B3 Bn3 Bc3) b)->w.rangeAt g 1 (b.guid.map (Value.int .u8))):=λw g h=>J6a h kb
 have NB_guid:Hid ((b.guid.map (Value.int .u8)).length=16):=by show _=_;rw[List.length_map];exact kb.glen
 have q_proof:∀w:World,(Op.equalIn 10000 30 (.agg (a.proof.map (Value.int .u8)).toArray) (.agg (b.proof.map (Value.int .u8)).toArray)).run Tryz.prog w=.ok (decide (a.proof=b.proof)) w:=λw=>y2a Tryz.underlying30 Tryz.underlying5 q8a a.proof b.proof ka.plen kb.plen 9998 w
 have qg_proof:=Y1b;have RA_proof:Hid (∀(w:World) (g:Nat),Blk w g 34 (l0a (.slice A1 An1 Ac1) (.slice A2 An2 Ac2) (.slice A3 An3 Ac3) a)->w.rangeAt g 17 (a.proof.map (Value.int .u8))):=λw g h=>V5a h ka
 have NA_proof:Hid ((a.proof.map (Value.int .u8)).length=32):=by show _=_;rw[List.length_map];exact ka.plen
 have RB_proof:Hid (∀(w:World) (g:Nat),Blk w g 34 (l0a (.slice B1 Bn1 Bc1) (.slice B2 Bn2 Bc2) (.slice B3 Bn3 Bc3) b)->w.rangeAt g 17 (b.proof.map (Value.int .u8))):=λw g h=>V5a h kb
 have NB_proof:Hid ((b.proof.map (Value.int .u8)).length=32):=by show _=_;rw[List.length_map];exact kb.plen
 have FA:Hid (∀(w:World) (g:Nat),Blk w g 34 (l0a (.slice A1 An1 Ac1) (.slice A2 An2 Ac2) (.slice A3 An3 Ac3) a)->w.cell? ⟨g,0,none⟩=some (.slice A1 An1 Ac1)/\w.cell? ⟨g,49,none⟩=some (.string a.user)/\w.cell? ⟨g,50,none⟩=some (.string a.share)/\w.cell? ⟨g,51,none⟩=some (.int .u32 a.acc)/\w.cell? ⟨g,52,none⟩=some (.int .u32 a.shr)/\w.cell? ⟨g,53,none⟩=some (.int .u32 a.way)/\w.cell? ⟨g,54,none⟩=some (.int .u32 a.opt)/\w.cell? ⟨g,55,none⟩=some (.int .u8 a.lev)/\w.cell? ⟨g,56,none⟩=some (.int .u8 a.dur)/\w.cell? ⟨g,57,none⟩=some (.int .u64 a.file)/\w.cell? ⟨g,58,none⟩=some (.string a.name)/\w.cell? ⟨g,59,none⟩=some (.int .u64 a.at_)/\w.cell? ⟨g,60,none⟩=some (.int .u32 a.n)/\w.cell? ⟨g,61,none⟩=some (.slice A2 An2 Ac2)/\w.cell? ⟨g,62,none⟩=some (.slice A3 An3 Ac3)/\w.cell? ⟨g,63,none⟩=some (.int .u16 a.most)/\w.cell? ⟨g,64,none⟩=some (.string a.pat)/\w.cell? ⟨g,65,none⟩=some (.string a.aft)/\w.cell? ⟨g,66,none⟩=some (.int .u16 a.cls)/\w.cell? ⟨g,67,none⟩=some (.int .u64 a.siz)/\w.cell? ⟨g,68,none⟩=some (.bool a.on)):=λw g h=>⟨h.at rfl,h.at (o0a ka 0),h.at (o0a ka 1),h.at (o0a ka 2),h.at (o0a ka 3),h.at (o0a ka 4),h.at (o0a ka 5),h.at (o0a ka 6),h.at (o0a ka 7),h.at (o0a ka 8),h.at (o0a ka 9),h.at (o0a ka 10),h.at (o0a ka 11),h.at (o0a ka 12),h.at (o0a ka 13),h.at (o0a ka 14),h.at (o0a ka 15),h.at (o0a ka 16),h.at (o0a ka 17),h.at (o0a ka 18),h.at (o0a ka 19)⟩
 have FB:Hid (∀(w:World) (g:Nat),Blk w g 34 (l0a (.slice B1 Bn1 Bc1) (.slice B2 Bn2 Bc2) (.slice B3 Bn3 Bc3) b)->w.cell? ⟨g,0,none⟩=some (.slice B1 Bn1 Bc1)/\w.cell? ⟨g,49,none⟩=some (.string b.user)/\w.cell? ⟨g,50,none⟩=some (.string b.share)/\w.cell? ⟨g,51,none⟩=some (.int .u32 b.acc)/\w.cell? ⟨g,52,none⟩=some (.int .u32 b.shr)/\w.cell? ⟨g,53,none⟩=some (.int .u32 b.way)/\w.cell? ⟨g,54,none⟩=some (.int .u32 b.opt)/\w.cell? ⟨g,55,none⟩=some (.int .u8 b.lev)/\w.cell? ⟨g,56,none⟩=some (.int .u8 b.dur)/\w.cell? ⟨g,57,none⟩=some (.int .u64 b.file)/\w.cell? ⟨g,58,none⟩=some (.string b.name)/\w.cell? ⟨g,59,none⟩=some (.int .u64 b.at_)/\w.cell? ⟨g,60,none⟩=some (.int .u32 b.n)/\w.cell? ⟨g,61,none⟩=some (.slice B2 Bn2 Bc2)/\w.cell? ⟨g,62,none⟩=some (.slice B3 Bn3 Bc3)/\w.cell? ⟨g,63,none⟩=some (.int .u16 b.most)/\w.cell? ⟨g,64,none⟩=some (.string b.pat)/\w.cell? ⟨g,65,none⟩=some (.string b.aft)/\w.cell? ⟨g,66,none⟩=some (.int .u16 b.cls)/\w.cell? ⟨g,67,none⟩=some (.int .u64 b.siz)/\w.cell? ⟨g,68,none⟩=some (.bool b.on)):=λw g h=>⟨h.at rfl,h.at (o0a kb 0),h.at (o0a kb 1),h.at (o0a kb 2),h.at (o0a kb 3),h.at (o0a kb 4),h.at (o0a kb 5),h.at (o0a kb 6),h.at (o0a kb 7),h.at (o0a kb 8),h.at (o0a kb 9),h.at (o0a kb 10),h.at (o0a kb 11),h.at (o0a kb 12),h.at (o0a kb 13),h.at (o0a kb 14),h.at (o0a kb 15),h.at (o0a kb 16),h.at (o0a kb 17),h.at (o0a kb 18),h.at (o0a kb 19)⟩
 obtain⟨z_dial,hz_dial⟩:∃z,z=decide (a.dial=b.dial):=⟨_,rfl⟩;rw[<-hz_dial] at CW;have Z_dial:=hI hz_dial;clear hz_dial;obtain⟨z_guid,hz_guid⟩:∃z,z=decide (a.guid=b.guid):=⟨_,rfl⟩;rw[<-hz_guid] at q_guid;have Z_guid:=hI hz_guid;clear hz_guid;obtain⟨la_guid,hl⟩:∃l,l=a.guid.map (Value.int .u8):=⟨_,rfl⟩;rw[<-hl] at q_guid RA_guid NA_guid;clear hl;obtain⟨lb_guid,hl⟩:∃l,l=b.guid.map (Value.int .u8):=⟨_,rfl⟩;rw[<-hl] at q_guid RB_guid NB_guid;clear hl;obtain⟨z_proof,hz_proof⟩:∃z,z=decide (a.proof=b.proof):=⟨_,rfl⟩;rw[<-hz_proof] at q_proof;have Z_proof:=hI hz_proof;clear hz_proof;obtain⟨la_proof,hl⟩:∃l,l=a.proof.map (Value.int .u8):=⟨_,rfl⟩;rw[<-hl] at q_proof RA_proof NA_proof;clear hl;obtain⟨lb_proof,hl⟩:∃l,l=b.proof.map (Value.int .u8):=⟨_,rfl⟩;rw[<-hl] at q_proof RB_proof NB_proof;clear hl;obtain⟨z_data,hz_data⟩:∃z,z=decide (a.data=b.data):=⟨_,rfl⟩;rw[<-hz_data] at CS;have Z_data:=hI hz_data;clear hz_data;obtain⟨z_locks,hz_locks⟩:∃z,z=decide (a.locks=b.locks):=⟨_,rfl⟩;rw[<-hz_locks] at CR;have Z_locks:=hI hz_locks;clear hz_locks;obtain⟨a_user,ha_user⟩:∃x,x=a.user:=⟨_,rfl⟩;rw[<-ha_user] at FA f_user HT;obtain⟨b_user,hb_user⟩:∃x,x=b.user:=⟨_,rfl⟩;rw[<-hb_user] at FB f_user HT;obtain⟨a_share,ha_share⟩:∃x,x=a.share:=⟨_,rfl⟩;rw[<-ha_share] at FA f_share HT;obtain⟨b_share,hb_share⟩:∃x,x=b.share:=⟨_,rfl⟩;rw[<-hb_share] at FB f_share HT;obtain⟨a_acc,ha_acc⟩:∃x,x=a.acc:=⟨_,rfl⟩;rw[<-ha_acc] at FA f_acc HT;obtain⟨b_acc,hb_acc⟩:∃x,x=b.acc:=⟨_,rfl⟩;rw[<-hb_acc] at FB f_acc HT;obtain⟨a_shr,ha_shr⟩:∃x,x=a.shr:=⟨_,rfl⟩;rw[<-ha_shr] at FA f_shr HT;obtain⟨b_shr,hb_shr⟩:∃x,x=b.shr:=⟨_,rfl⟩;rw[<-hb_shr] at FB f_shr HT;obtain⟨a_way,ha_way⟩:∃x,x=a.way:=⟨_,rfl⟩;rw[<-ha_way] at FA f_way HT;obtain⟨b_way,hb_way⟩:∃x,x=b.way:=⟨_,rfl⟩;rw[<-hb_way] at FB f_way HT;obtain⟨a_opt,ha_opt⟩:∃x,x=a.opt:=⟨_,rfl⟩;rw[<-ha_opt] at FA f_opt HT;obtain⟨b_opt,hb_opt⟩:∃x,x=b.opt:=⟨_,rfl⟩;rw[<-hb_opt] at FB f_opt HT;obtain⟨a_lev,ha_lev⟩:∃x,x=a.lev:=⟨_,rfl⟩;rw[<-ha_lev] at FA f_lev HT;obtain⟨b_lev,hb_lev⟩:∃x,x=b.lev:=⟨_,rfl⟩;rw[<-hb_lev] at FB f_lev HT;obtain⟨a_dur,ha_dur⟩:∃x,x=a.dur:=⟨_,rfl⟩;rw[<-ha_dur] at FA f_dur HT;obtain⟨b_dur,hb_dur⟩:∃x,x=b.dur:=⟨_,rfl⟩;rw[<-hb_dur] at FB f_dur HT;obtain⟨a_file,ha_file⟩:∃x,x=a.file:=⟨_,rfl⟩;rw[<-ha_file] at FA f_file HT;obtain⟨b_file,hb_file⟩:∃x,x=b.file:=⟨_,rfl⟩;rw[<-hb_file] at FB f_file HT;obtain⟨a_name,ha_name⟩:∃x,x=a.name:=⟨_,rfl⟩;rw[<-ha_name] at FA f_name HT;obtain⟨b_name,hb_name⟩:∃x,x=b.name:=⟨_,rfl⟩;rw[<-hb_name] at FB f_name HT;obtain⟨a_at_,ha_at_⟩:∃x,x=a.at_:=⟨_,rfl⟩;rw[<-ha_at_] at FA f_at_ HT;obtain⟨b_at_,hb_at_⟩:∃x,x=b.at_:=⟨_,rfl⟩;rw[<-hb_at_] at FB f_at_ HT;obtain⟨a_n,ha_n⟩:∃x,x=a.n:=⟨_,rfl⟩;rw[<-ha_n] at FA f_n HT;obtain⟨b_n,hb_n⟩:∃x,x=b.n:=⟨_,rfl⟩;rw[<-hb_n] at FB f_n HT;obtain⟨a_most,ha_most⟩:∃x,x=a.most:=⟨_,rfl⟩;rw[<-ha_most] at FA f_most HT;obtain⟨b_most,hb_most⟩:∃x,x=b.most:=⟨_,rfl⟩;rw[<-hb_most] at FB f_most HT;obtain⟨a_pat,ha_pat⟩:∃x,x=a.pat:=⟨_,rfl⟩;rw[<-ha_pat] at FA f_pat HT;obtain⟨b_pat,hb_pat⟩:∃x,x=b.pat:=⟨_,rfl⟩;rw[<-hb_pat] at FB f_pat HT;obtain⟨a_aft,ha_aft⟩:∃x,x=a.aft:=⟨_,rfl⟩;rw[<-ha_aft] at FA f_aft HT;obtain⟨b_aft,hb_aft⟩:∃x,x=b.aft:=⟨_,rfl⟩;rw[<-hb_aft] at FB f_aft HT;obtain⟨a_cls,ha_cls⟩:∃x,x=a.cls:=⟨_,rfl⟩;rw[<-ha_cls] at FA f_cls HT;obtain⟨b_cls,hb_cls⟩:∃x,x=b.cls:=⟨_,rfl⟩;rw[<-hb_cls] at FB f_cls HT;obtain⟨a_siz,ha_siz⟩:∃x,x=a.siz:=⟨_,rfl⟩;rw[<-ha_siz] at FA f_siz HT;obtain⟨b_siz,hb_siz⟩:∃x,x=b.siz:=⟨_,rfl⟩;rw[<-hb_siz] at FB f_siz HT;obtain⟨a_on,ha_on⟩:∃x,x=a.on:=⟨_,rfl⟩;rw[<-ha_on] at FA f_on HT;obtain⟨b_on,hb_on⟩:∃x,x=b.on:=⟨_,rfl⟩;rw[<-hb_on] at FB f_on HT;obtain⟨cs,hcs⟩:∃c,c=l0a (.slice A1 An1 Ac1) (.slice A2 An2 Ac2) (.slice A3 An3 Ac3) a:=⟨_,rfl⟩;rw[<-hcs] at FA RA_guid RA_proof HL⊢;obtain⟨ds,hds⟩:∃c,c=l0a (.slice B1 Bn1 Bc1) (.slice B2 Bn2 Bc2) (.slice B3 Bn3 Bc3) b:=⟨_,rfl⟩;rw[<-hds] at FB RB_guid RB_proof HM⊢;obtain⟨r,hr⟩:∃r,r=decide (a=b):=⟨_,rfl⟩;rw[<-hr] at HT f_dial f_guid f_proof f_user f_share f_acc f_shr f_way f_opt f_lev f_dur f_file f_name f_at_ f_n f_data f_locks f_most f_pat f_aft f_cls f_siz f_on⊢;clear hr hcs hds ka kb ha_user hb_user ha_share hb_share ha_acc hb_acc ha_shr hb_shr ha_way hb_way ha_opt hb_opt ha_lev hb_lev ha_dur hb_dur ha_file hb_file ha_name hb_name ha_at_ hb_at_ ha_n hb_n ha_most hb_most ha_pat hb_pat ha_aft hb_aft ha_cls hb_cls ha_siz hb_siz ha_on hb_on hx1 hx2 hx3 hy1 hy2 hy3 la1 la2 la3 lb1 lb2 lb3 bA1 bA2 bA3 bB1 bB2 bB3;go_enter Tryz.func14,Tryz.ntmps14;simp only[List.append_eq,List.cons_append,List.nil_append];go_wp2_with(first | ((with_reducible refine sN 2 ?_);refine d0a rfl _ (.tmp 0) rfl cs rfl ?_;intro g w1 hg1 hg2 K0 L1) | ((with_reducible refine sN 3 ?_);refine d0a rfl _ (.tmp 1) rfl ds rfl ?_;intro h w2 hg3 hg4 K2 L2';have K1:=hI (K0.out.over L2'.out);have L2:=hI (step L1.out L2'.out);obtain⟨ca_dial,ca_user,ca_share,ca_acc,ca_shr,ca_way,ca_opt,ca_lev,ca_dur,ca_file,ca_name,ca_at_,ca_n,ca_data,ca_locks,ca_most,ca_pat,ca_aft,ca_cls,ca_siz,ca_on⟩:=FA.out _ _ K1.out;obtain⟨cb_dial,cb_user,cb_share,cb_acc,cb_shr,cb_way,cb_opt,cb_lev,cb_dur,cb_file,cb_name,cb_at_,cb_n,cb_data,cb_locks,cb_most,cb_pat,cb_aft,cb_cls,cb_siz,cb_on⟩:=FB.out _ _ K2.out;have rA_guid:=hI (RA_guid.out _ _ K1.out);have rB_guid:=hI (RB_guid.out _ _ K2.out);have rA_proof:=hI (RA_proof.out _ _ K1.out);have rB_proof:=hI (RB_proof.out _ _ K2.out)) | fail);clear K0 L1 L2' ca_dial cb_dial ca_user cb_user ca_share cb_share ca_acc cb_acc ca_shr cb_shr ca_way cb_way ca_opt cb_opt ca_lev cb_lev ca_dur cb_dur ca_file cb_file ca_name cb_name ca_at_ cb_at_ ca_n cb_n ca_data cb_data ca_locks cb_locks ca_most cb_most ca_pat cb_pat ca_aft cb_aft ca_cls cb_cls ca_siz cb_siz ca_on cb_on rA_guid rB_guid rA_proof rB_proof;refine(CW.out _ L2.out).mono ?_;rintro e w' ⟨rfl,j_dial,rfl⟩;have K1_dial':=K1.out.drewN j_dial;have K2_dial':=K2.out.drewN j_dial;have L_dial':=below_drewN L2.out j_dial;obtain⟨w_dial,hw_dial⟩:∃v,v=World.drewN w2 j_dial:=⟨_,rfl⟩;rw[<-hw_dial] at K1_dial' K2_dial' L_dial'⊢;have K1_dial:=hI K1_dial';have K2_dial:=hI K2_dial';have L_dial:=hI L_dial';clear hw_dial K1_dial' K2_dial' L_dial';cases z_dial
 ·have ne:¬a.dial=b.dial:=by have:=Z_dial.out;simpa using this.symm
  have RS:=hI (f_dial.out ne);clear ne;go_wp2_with fail;go_ret;exact⟨N0a RS.out.symm,L_dial.out⟩
 ·have e_dial:Hid (a.dial=b.dial):=by have:=Z_dial.out;show _=_;simpa using this.symm
  obtain⟨ca_dial,ca_user,ca_share,ca_acc,ca_shr,ca_way,ca_opt,ca_lev,ca_dur,ca_file,ca_name,ca_at_,ca_n,ca_data,ca_locks,ca_most,ca_pat,ca_aft,ca_cls,ca_siz,ca_on⟩:=FA.out _ _ K1_dial.out;obtain⟨cb_dial,cb_user,cb_share,cb_acc,cb_shr,cb_way,cb_opt,cb_lev,cb_dur,cb_file,cb_name,cb_at_,cb_n,cb_data,cb_locks,cb_most,cb_pat,cb_aft,cb_cls,cb_siz,cb_on⟩:=FB.out _ _ K2_dial.out;have rA_guid:=hI (RA_guid.out _ _ K1_dial.out);have rB_guid:=hI (RB_guid.out _ _ K2_dial.out);have rA_proof:=hI (RA_proof.out _ _ K1_dial.out);have rB_proof:=hI (RB_proof.out _ _ K2_dial.out);cases z_guid
  ·have ne:¬a.guid=b.guid:=by have:=Z_guid.out;simpa using this.symm
   have RS:=hI (f_guid.out ne);clear ne;go_wp2_with(first | ((with_reducible refine sN 11 ?_);refine T0a (by kernel_rfl) _ (.tmp 2) 1 rfl (.pointer (some ⟨g,0,none⟩)) (.pointer (some ⟨g,1,none⟩)) (by kernel_rfl) (U5a g) ?_) | ((with_reducible refine sN 12 ?_);refine E0a (by kernel_rfl) _ (.tmp 11) rfl g 1 rfl la_guid _ rA_guid Tryz.underlying26 rfl 16 n3a NA_guid ?_) | ((with_reducible refine sN 13 ?_);refine T0a (by kernel_rfl) _ (.tmp 3) 1 rfl (.pointer (some ⟨h,0,none⟩)) (.pointer (some ⟨h,1,none⟩)) (by kernel_rfl) (U5a h) ?_) | ((with_reducible refine sN 14 ?_);refine E0a (by kernel_rfl) _ (.tmp 13) rfl h 1 rfl lb_guid _ rB_guid Tryz.underlying26 rfl 16 n3a NB_guid ?_) | fail);go_ret;exact⟨N0a RS.out.symm,L_dial.out⟩
  ·have e_guid:Hid (a.guid=b.guid):=by have:=Z_guid.out;show _=_;simpa using this.symm
   cases z_proof
   ·have ne:¬a.proof=b.proof:=by have:=Z_proof.out;simpa using this.symm
    have RS:=hI (f_proof.out ne);clear ne;go_wp2_with(first | ((with_reducible refine sN 11 ?_);refine T0a (by kernel_rfl) _ (.tmp 2) 1 rfl (.pointer (some ⟨g,0,none⟩)) (.pointer (some ⟨g,1,none⟩)) (by kernel_rfl) (U5a g) ?_) | ((with_reducible refine sN 12 ?_);refine E0a (by kernel_rfl) _ (.tmp 11) rfl g 1 rfl la_guid _ rA_guid Tryz.underlying26 rfl 16 n3a NA_guid ?_) | ((with_reducible refine sN 13 ?_);refine T0a (by kernel_rfl) _ (.tmp 3) 1 rfl (.pointer (some ⟨h,0,none⟩)) (.pointer (some ⟨h,1,none⟩)) (by kernel_rfl) (U5a h) ?_) | ((with_reducible refine sN 14 ?_);refine E0a (by kernel_rfl) _ (.tmp 13) rfl h 1 rfl lb_guid _ rB_guid Tryz.underlying26 rfl 16 n3a NB_guid ?_) | ((with_reducible refine sN 18 ?_);refine T0a (by kernel_rfl) _ (.tmp 2) 2 rfl (.pointer (some ⟨g,0,none⟩)) (.pointer (some ⟨g,17,none⟩)) (by kernel_rfl) (o8a g) ?_) | ((with_reducible refine sN 19 ?_);refine E0a (by kernel_rfl) _ (.tmp 18) rfl g 17 rfl la_proof _ rA_proof Tryz.underlying30 rfl 32 j4a NA_proof ?_) | ((with_reducible refine sN 20 ?_);refine T0a (by kernel_rfl) _ (.tmp 3) 2 rfl (.pointer (some ⟨h,0,none⟩)) (.pointer (some ⟨h,17,none⟩)) (by kernel_rfl) (o8a h) ?_) | ((with_reducible refine sN 21 ?_);refine E0a (by kernel_rfl) _ (.tmp 20) rfl h 17 rfl lb_proof _ rB_proof Tryz.underlying30 rfl 32 j4a NB_proof ?_) | fail);go_ret;exact⟨N0a RS.out.symm,L_dial.out⟩
   ·have e_proof:Hid (a.proof=b.proof):=by have:=Z_proof.out;show _=_;simpa using this.symm
    by_cases t_user:a_user=b_user;rotate_left;have nb:(a_user.toList==b_user.toList)=false:=by rw[bytes_beq];exact decide_eq_false t_user
    have RS:=hI (f_user.out t_user);clear t_user
    rotate_right
    have nb_user:(a_user.toList==b_user.toList)=true:=by rw[bytes_beq];exact decide_eq_true t_user
    have e_user:=hI t_user;clear t_user;by_cases t_share:a_share=b_share;rotate_left;have nb:(a_share.toList==b_share.toList)=false:=by rw[bytes_beq];exact decide_eq_false t_share
    have RS:=hI (f_share.out t_share);clear t_share
    rotate_right
    have nb_share:(a_share.toList==b_share.toList)=true:=by rw[bytes_beq];exact decide_eq_true t_share
    have e_share:=hI t_share;clear t_share;by_cases t_acc:a_acc=b_acc;rotate_left;have nb:(a_acc==b_acc)=false:=by simpa using t_acc
    have RS:=hI (f_acc.out t_acc);clear t_acc
    rotate_right
    have nb_acc:(a_acc==b_acc)=true:=by simpa using t_acc
    have e_acc:=hI t_acc;clear t_acc;by_cases t_shr:a_shr=b_shr;rotate_left;have nb:(a_shr==b_shr)=false:=by simpa using t_shr
    have RS:=hI (f_shr.out t_shr);clear t_shr
    rotate_right
    have nb_shr:(a_shr==b_shr)=true:=by simpa using t_shr
    have e_shr:=hI t_shr;clear t_shr;by_cases t_way:a_way=b_way;rotate_left;have nb:(a_way==b_way)=false:=by simpa using t_way
    have RS:=hI (f_way.out t_way);clear t_way
    rotate_right
    have nb_way:(a_way==b_way)=true:=by simpa using t_way
    have e_way:=hI t_way;clear t_way;by_cases t_opt:a_opt=b_opt;rotate_left;have nb:(a_opt==b_opt)=false:=by simpa using t_opt
    have RS:=hI (f_opt.out t_opt);clear t_opt
    rotate_right
    have nb_opt:(a_opt==b_opt)=true:=by simpa using t_opt
    have e_opt:=hI t_opt;clear t_opt;by_cases t_lev:a_lev=b_lev;rotate_left;have nb:(a_lev==b_lev)=false:=by simpa using t_lev
    have RS:=hI (f_lev.out t_lev);clear t_lev
    rotate_right
    have nb_lev:(a_lev==b_lev)=true:=by simpa using t_lev
    have e_lev:=hI t_lev;clear t_lev;by_cases t_dur:a_dur=b_dur;rotate_left;have nb:(a_dur==b_dur)=false:=by simpa using t_dur
    have RS:=hI (f_dur.out t_dur);clear t_dur
    rotate_right
    have nb_dur:(a_dur==b_dur)=true:=by simpa using t_dur
    have e_dur:=hI t_dur;clear t_dur;by_cases t_file:a_file=b_file;rotate_left;have nb:(a_file==b_file)=false:=by simpa using t_file
    have RS:=hI (f_file.out t_file);clear t_file
    rotate_right
    have nb_file:(a_file==b_file)=true:=by simpa using t_file
    have e_file:=hI t_file;clear t_file;by_cases t_name:a_name=b_name;rotate_left;have nb:(a_name.toList==b_name.toList)=false:=by rw[bytes_beq];exact decide_eq_false t_name
    have RS:=hI (f_name.out t_name);clear t_name
    rotate_right
    have nb_name:(a_name.toList==b_name.toList)=true:=by rw[bytes_beq];exact decide_eq_true t_name
    have e_name:=hI t_name;clear t_name;by_cases t_at_:a_at_=b_at_;rotate_left;have nb:(a_at_==b_at_)=false:=by simpa using t_at_
    have RS:=hI (f_at_.out t_at_);clear t_at_
    rotate_right
    have nb_at_:(a_at_==b_at_)=true:=by simpa using t_at_
    have e_at_:=hI t_at_;clear t_at_;by_cases t_n:a_n=b_n;rotate_left;have nb:(a_n==b_n)=false:=by simpa using t_n
    have RS:=hI (f_n.out t_n);clear t_n
    rotate_right
    have nb_n:(a_n==b_n)=true:=by simpa using t_n
    have e_n:=hI t_n;clear t_n;go_wp2_with(first | ((with_reducible refine sN 11 ?_);refine T0a (by kernel_rfl) _ (.tmp 2) 1 rfl (.pointer (some ⟨g,0,none⟩)) (.pointer (some ⟨g,1,none⟩)) (by kernel_rfl) (U5a g) ?_) | ((with_reducible refine sN 12 ?_);refine E0a (by kernel_rfl) _ (.tmp 11) rfl g 1 rfl la_guid _ rA_guid Tryz.underlying26 rfl 16 n3a NA_guid ?_) | ((with_reducible refine sN 13 ?_);refine T0a (by kernel_rfl) _ (.tmp 3) 1 rfl (.pointer (some ⟨h,0,none⟩)) (.pointer (some ⟨h,1,none⟩)) (by kernel_rfl) (U5a h) ?_) | ((with_reducible refine sN 14 ?_);refine E0a (by kernel_rfl) _ (.tmp 13) rfl h 1 rfl lb_guid _ rB_guid Tryz.underlying26 rfl 16 n3a NB_guid ?_) | ((with_reducible refine sN 18 ?_);refine T0a (by kernel_rfl) _ (.tmp 2) 2 rfl (.pointer (some ⟨g,0,none⟩)) (.pointer (some ⟨g,17,none⟩)) (by kernel_rfl) (o8a g) ?_) | ((with_reducible refine sN 19 ?_);refine E0a (by kernel_rfl) _ (.tmp 18) rfl g 17 rfl la_proof _ rA_proof Tryz.underlying30 rfl 32 j4a NA_proof ?_) | ((with_reducible refine sN 20 ?_);refine T0a (by kernel_rfl) _ (.tmp 3) 2 rfl (.pointer (some ⟨h,0,none⟩)) (.pointer (some ⟨h,17,none⟩)) (by kernel_rfl) (o8a h) ?_) | ((with_reducible refine sN 21 ?_);refine E0a (by kernel_rfl) _ (.tmp 20) rfl h 17 rfl lb_proof _ rB_proof Tryz.underlying30 rfl 32 j4a NB_proof ?_) | fail);refine(CS.out _ L_dial.out).mono ?_;rintro e w' ⟨rfl,j_data,rfl⟩;have K1_data':=K1_dial.out.drewN j_data;have K2_data':=K2_dial.out.drewN j_data;have L_data':=below_drewN L_dial.out j_data;obtain⟨w_data,hw_data⟩:∃v,v=World.drewN w_dial j_data:=⟨_,rfl⟩;rw[<-hw_data] at K1_data' K2_data' L_data'⊢;have K1_data:=hI K1_data';have K2_data:=hI K2_data';have L_data:=hI L_data';clear hw_data K1_data' K2_data' L_data' ca_dial cb_dial ca_user cb_user ca_share cb_share ca_acc cb_acc ca_shr cb_shr ca_way cb_way ca_opt cb_opt ca_lev cb_lev ca_dur cb_dur ca_file cb_file ca_name cb_name ca_at_ cb_at_ ca_n cb_n ca_data cb_data ca_locks cb_locks ca_most cb_most ca_pat cb_pat ca_aft cb_aft ca_cls cb_cls ca_siz cb_siz ca_on cb_on;clear rA_guid rB_guid rA_proof rB_proof;cases z_data
    ·have ne:¬a.data=b.data:=by have:=Z_data.out;simpa using this.symm
     have RS:=hI (f_data.out ne);clear ne;go_wp2_with fail;go_ret;exact⟨N0a RS.out.symm,L_data.out⟩
    ·have e_data:Hid (a.data=b.data):=by have:=Z_data.out;show _=_;simpa using this.symm
     obtain⟨ca_dial,ca_user,ca_share,ca_acc,ca_shr,ca_way,ca_opt,ca_lev,ca_dur,ca_file,ca_name,ca_at_,ca_n,ca_data,ca_locks,ca_most,ca_pat,ca_aft,ca_cls,ca_siz,ca_on⟩:=FA.out _ _ K1_data.out;obtain⟨cb_dial,cb_user,cb_share,cb_acc,cb_shr,cb_way,cb_opt,cb_lev,cb_dur,cb_file,cb_name,cb_at_,cb_n,cb_data,cb_locks,cb_most,cb_pat,cb_aft,cb_cls,cb_siz,cb_on⟩:=FB.out _ _ K2_data.out;have rA_guid:=hI (RA_guid.out _ _ K1_data.out);have rB_guid:=hI (RB_guid.out _ _ K2_data.out);have rA_proof:=hI (RA_proof.out _ _ K1_data.out);have rB_proof:=hI (RB_proof.out _ _ K2_data.out);go_wp2_with fail;refine(CR.out _ L_data.out).mono ?_;rintro e w' ⟨rfl,j_locks,rfl⟩;have K1_locks':=K1_data.out.drewN j_locks;have K2_locks':=K2_data.out.drewN j_locks;have L_locks':=below_drewN L_data.out j_locks;obtain⟨w_locks,hw_locks⟩:∃v,v=World.drewN w_data j_locks:=⟨_,rfl⟩;rw[<-hw_locks] at K1_locks' K2_locks' L_locks'⊢;have K1_locks:=hI K1_locks';have K2_locks:=hI K2_locks';have L_locks:=hI L_locks';clear hw_locks K1_locks' K2_locks' L_locks';cases z_locks
     ·have ne:¬a.locks=b.locks:=by have:=Z_locks.out;simpa using this.symm
      have RS:=hI (f_locks.out ne);clear ne;go_wp2_with fail;go_ret;exact⟨N0a RS.out.symm,L_locks.out⟩
     ·have e_locks:Hid (a.locks=b.locks):=by have:=Z_locks.out;show _=_;simpa using this.symm
      obtain⟨ca_dial,ca_user,ca_share,ca_acc,ca_shr,ca_way,ca_opt,ca_lev,ca_dur,ca_file,ca_name,ca_at_,ca_n,ca_data,ca_locks,ca_most,ca_pat,ca_aft,ca_cls,ca_siz,ca_on⟩:=FA.out _ _ K1_locks.out;obtain⟨cb_dial,cb_user,cb_share,cb_acc,cb_shr,cb_way,cb_opt,cb_lev,cb_dur,cb_file,cb_name,cb_at_,cb_n,cb_data,cb_locks,cb_most,cb_pat,cb_aft,cb_cls,cb_siz,cb_on⟩:=FB.out _ _ K2_locks.out;have rA_guid:=hI (RA_guid.out _ _ K1_locks.out);have rB_guid:=hI (RB_guid.out _ _ K2_locks.out);have rA_proof:=hI (RA_proof.out _ _ K1_locks.out);have rB_proof:=hI (RB_proof.out _ _ K2_locks.out);by_cases t_most:a_most=b_most;rotate_left;have nb:(a_most==b_most)=false:=by simpa using t_most
      have RS:=hI (f_most.out t_most);clear t_most
      rotate_right
      have nb_most:(a_most==b_most)=true:=by simpa using t_most
      have e_most:=hI t_most;clear t_most;by_cases t_pat:a_pat=b_pat;rotate_left;have nb:(a_pat.toList==b_pat.toList)=false:=by rw[bytes_beq];exact decide_eq_false t_pat
      have RS:=hI (f_pat.out t_pat);clear t_pat
      rotate_right
      have nb_pat:(a_pat.toList==b_pat.toList)=true:=by rw[bytes_beq];exact decide_eq_true t_pat
      have e_pat:=hI t_pat;clear t_pat;by_cases t_aft:a_aft=b_aft;rotate_left;have nb:(a_aft.toList==b_aft.toList)=false:=by rw[bytes_beq];exact decide_eq_false t_aft
      have RS:=hI (f_aft.out t_aft);clear t_aft
      rotate_right
      have nb_aft:(a_aft.toList==b_aft.toList)=true:=by rw[bytes_beq];exact decide_eq_true t_aft
      have e_aft:=hI t_aft;clear t_aft;by_cases t_cls:a_cls=b_cls;rotate_left;have nb:(a_cls==b_cls)=false:=by simpa using t_cls
      have RS:=hI (f_cls.out t_cls);clear t_cls
      rotate_right
      have nb_cls:(a_cls==b_cls)=true:=by simpa using t_cls
      have e_cls:=hI t_cls;clear t_cls;by_cases t_siz:a_siz=b_siz;rotate_left;have nb:(a_siz==b_siz)=false:=by simpa using t_siz
      have RS:=hI (f_siz.out t_siz);clear t_siz
      rotate_right
      have nb_siz:(a_siz==b_siz)=true:=by simpa using t_siz
      have e_siz:=hI t_siz;clear t_siz;by_cases t_on:a_on=b_on;rotate_left;have nb:(a_on==b_on)=false:=by simpa using t_on
      have RS:=hI (f_on.out t_on);clear t_on
      rotate_right
      have nb_on:(a_on==b_on)=true:=by simpa using t_on
      have e_on:=hI t_on;clear t_on;go_wp2_with fail;go_ret;exact⟨N0a (HT.out e_dial.out e_guid.out e_proof.out e_user.out e_share.out e_acc.out e_shr.out e_way.out e_opt.out e_lev.out e_dur.out e_file.out e_name.out e_at_.out e_n.out e_data.out e_locks.out e_most.out e_pat.out e_aft.out e_cls.out e_siz.out e_on.out).symm,L_locks.out⟩;all_goals
       go_wp2_with fail;go_ret;exact⟨N0a RS.out.symm,L_locks.out⟩
    all_goals
     go_wp2_with(first | ((with_reducible refine sN 11 ?_);refine T0a (by kernel_rfl) _ (.tmp 2) 1 rfl (.pointer (some ⟨g,0,none⟩)) (.pointer (some ⟨g,1,none⟩)) (by kernel_rfl) (U5a g) ?_) | ((with_reducible refine sN 12 ?_);refine E0a (by kernel_rfl) _ (.tmp 11) rfl g 1 rfl la_guid _ rA_guid Tryz.underlying26 rfl 16 n3a NA_guid ?_) | ((with_reducible refine sN 13 ?_);refine T0a (by kernel_rfl) _ (.tmp 3) 1 rfl (.pointer (some ⟨h,0,none⟩)) (.pointer (some ⟨h,1,none⟩)) (by kernel_rfl) (U5a h) ?_) | ((with_reducible refine sN 14 ?_);refine E0a (by kernel_rfl) _ (.tmp 13) rfl h 1 rfl lb_guid _ rB_guid Tryz.underlying26 rfl 16 n3a NB_guid ?_) | ((with_reducible refine sN 18 ?_);refine T0a (by kernel_rfl) _ (.tmp 2) 2 rfl (.pointer (some ⟨g,0,none⟩)) (.pointer (some ⟨g,17,none⟩)) (by kernel_rfl) (o8a g) ?_) | ((with_reducible refine sN 19 ?_);refine E0a (by kernel_rfl) _ (.tmp 18) rfl g 17 rfl la_proof _ rA_proof Tryz.underlying30 rfl 32 j4a NA_proof ?_) | ((with_reducible refine sN 20 ?_);refine T0a (by kernel_rfl) _ (.tmp 3) 2 rfl (.pointer (some ⟨h,0,none⟩)) (.pointer (some ⟨h,17,none⟩)) (by kernel_rfl) (o8a h) ?_) | ((with_reducible refine sN 21 ?_);refine E0a (by kernel_rfl) _ (.tmp 20) rfl h 17 rfl lb_proof _ rB_proof Tryz.underlying30 rfl 32 j4a NB_proof ?_) | fail);go_ret;exact⟨N0a RS.out.symm,L_dial.out⟩
theorem F3c(w:World)(cs ds:List Value)(a b:O1a)(ka:a.ok)(kb:b.ok)(ha:s1a w w.heap.size cs a)(hb:s1a w w.heap.size ds b)(la:a.data.length<=281474976710656/\a.ents.length<=281474976710656)(lb:b.data.length<=281474976710656/\b.ents.length<=281474976710656) :
  Calls Tryz.prog 15 #[.agg cs.toArray,.agg ds.toArray] w λe w'=>e=.returned (.bool (decide (a=b)))/\Below w.heap.size w w':=by
 obtain⟨la2,la3⟩:=la;obtain⟨lb2,lb3⟩:=lb;have HL:=hI (ha.len ka);have HM:=hI (hb.len kb);obtain⟨A2,An2,Ac2,A3,An3,Ac3,rfl,hx2,hx3⟩:=ha;obtain⟨B2,Bn2,Bc2,B3,Bn3,Bc3,rfl,hy2,hy3⟩:=hb;have bA2:An2<=281474976710656:=by have:=hx2.len;omega
 have bA3:An3<=281474976710656:=by have:=hx3.len;omega
 have bB2:Bn2<=281474976710656:=by have:=hy2.len;omega
 have bB3:Bn3<=281474976710656:=by have:=hy3.len;omega
 have CS:Hid (∀w':World,Below w.heap.size w w'->Calls Tryz.prog 27 #[.slice A2 An2 Ac2,.slice B2 Bn2 Bc2] w' λe v=>e=.returned (.bool (decide (a.data=b.data)))/\∃k,w'.drewN k=v):=λw' hb=>Y7b w' _ _ _ _ _ _ _ _ _ _ (hx2.below hb) (hy2.below hb)
 have CR:Hid (∀w':World,Below w.heap.size w w'->Calls Tryz.prog 29 #[.slice A3 An3 Ac3,.slice B3 Bn3 Bc3] w' λe v=>e=.returned (.bool (decide (a.ents=b.ents)))/\∃k,w'.drewN k=v):=λw' hb=>b7b w' _ _ _ _ _ _ _ _ _ _ (hx3.below hb) (hy3.below hb) bA3 bB3
 have f_dia:Hid (¬a.dia=b.dia->decide (a=b)=false):=λh=>decide_eq_false λhe=>h (by rw[he])
 have f_siz:Hid (¬a.siz=b.siz->decide (a=b)=false):=λh=>decide_eq_false λhe=>h (by rw[he])
 have f_chal:Hid (¬a.chal=b.chal->decide (a=b)=false):=λh=>decide_eq_false λhe=>h (by rw[he])
 have f_lev:Hid (¬a.lev=b.lev->decide (a=b)=false):=λh=>decide_eq_false λhe=>h (by rw[he])
 have f_dur:Hid (¬a.dur=b.dur->decide (a=b)=false):=λh=>decide_eq_false λhe=>h (by rw[he])
 have f_made:Hid (¬a.made=b.made->decide (a=b)=false):=λh=>decide_eq_false λhe=>h (by rw[he])
 have f_file:Hid (¬a.file=b.file->decide (a=b)=false):=λh=>decide_eq_false λhe=>h (by rw[he])
 have f_kind:Hid (¬a.kind=b.kind->decide (a=b)=false):=λh=>decide_eq_false λhe=>h (by rw[he])
 have f_data:Hid (¬a.data=b.data->decide (a=b)=false):=λh=>decide_eq_false λhe=>h (by rw[he])
 have f_n:Hid (¬a.n=b.n->decide (a=b)=false):=λh=>decide_eq_false λhe=>h (by rw[he])
 have f_ents:Hid (¬a.ents=b.ents->decide (a=b)=false):=λh=>decide_eq_false λhe=>h (by rw[he])
 have f_more:Hid (¬a.more=b.more->decide (a=b)=false):=λh=>decide_eq_false λhe=>h (by rw[he])
 have f_gone:Hid (¬a.gone=b.gone->decide (a=b)=false):=λh=>decide_eq_false λhe=>h (by rw[he])
 have HT:Hid (a.dia=b.dia->a.siz=b.siz->a.chal=b.chal->a.lev=b.lev->a.dur=b.dur->a.made=b.made->a.file=b.file->a.kind=b.kind->a.data=b.data->a.n=b.n->a.ents=b.ents->a.more=b.more->a.gone=b.gone->decide (a=b)=true):=by intro e0 e1 e2 e3 e4 e5 e6 e7 e8 e9 e10 e11 e12;rw[decide_eq_true_iff];cases a;cases b;simp only at e0 e1 e2 e3 e4 e5 e6 e7 e8 e9 e10 e11 e12;subst e0 e1 e2 e3 e4 e5 e6 e7 e8 e9 e10 e11 e12;rfl
 have q_chal:∀w:World,(Op.equalIn 10000 35 (.agg (a.chal.map (Value.int .u8)).toArray) (.agg (b.chal.map (Value.int .u8)).toArray)).run Tryz.prog w=.ok (decide (a.chal=b.chal)) w:=λw=>y2a Tryz.underlying35 Tryz.underlying5 q8a a.chal b.chal ka.clen kb.clen 9998 w
 have qg_chal:=A3b;have RA_chal:Hid (∀(w:World) (g:Nat),Blk w g 39 (u0a (.slice A2 An2 Ac2) (.slice A3 An3 Ac3) a)->w.rangeAt g 2 (a.chal.map (Value.int .u8))):=λw g h=>K6a h ka
 have NA_chal:Hid ((a.chal.map (Value.int .u8)).length=8):=by show _=_;rw[List.length_map];exact ka.clen
 have RB_chal:Hid (∀(w:World) (g:Nat),Blk w g 39 (u0a (.slice B2 Bn2 Bc2) (.slice B3 Bn3 Bc3) b)->w.rangeAt g 2 (b.chal.map (Value.int .u8))):=λw g h=>K6a h kb
 have NB_chal:Hid ((b.chal.map (Value.int .u8)).length=8):=by show _=_;rw[List.length_map];exact kb.clen
 have FA:Hid (∀(w:World) (g:Nat),Blk w g 39 (u0a (.slice A2 An2 Ac2) (.slice A3 An3 Ac3) a)->w.cell? ⟨g,0,none⟩=some (.int .u16 a.dia)/\w.cell? ⟨g,1,none⟩=some (.int .u64 a.siz)/\w.cell? ⟨g,10,none⟩=some (.int .u8 a.lev)/\w.cell? ⟨g,11,none⟩=some (.int .u8 a.dur)/\w.cell? ⟨g,12,none⟩=some (.int .u16 a.made)/\w.cell? ⟨g,13,none⟩=some (.int .u64 a.file)/\w.cell? ⟨g,14,none⟩=some (.int .u8 a.kind)/\w.cell? ⟨g,15,none⟩=some (.slice A2 An2 Ac2)/\w.cell? ⟨g,16,none⟩=some (.int .u32 a.n)/\w.cell? ⟨g,17,none⟩=some (.slice A3 An3 Ac3)/\w.cell? ⟨g,18,none⟩=some (.bool a.more)/\w.cell? ⟨g,19,none⟩=some (.bool a.gone)):=λw g h=>⟨h.at rfl,h.at rfl,h.at (D0a ka 0),h.at (D0a ka 1),h.at (D0a ka 2),h.at (D0a ka 3),h.at (D0a ka 4),h.at (D0a ka 5),h.at (D0a ka 6),h.at (D0a ka 7),h.at (D0a ka 8),h.at (D0a ka 9)⟩
 have FB:Hid (∀(w:World) (g:Nat),Blk w g 39 (u0a (.slice B2 Bn2 Bc2) (.slice B3 Bn3 Bc3) b)->w.cell? ⟨g,0,none⟩=some (.int .u16 b.dia)/\w.cell? ⟨g,1,none⟩=some (.int .u64 b.siz)/\w.cell? ⟨g,10,none⟩=some (.int .u8 b.lev)/\w.cell? ⟨g,11,none⟩=some (.int .u8 b.dur)/\w.cell? ⟨g,12,none⟩=some (.int .u16 b.made)/\w.cell? ⟨g,13,none⟩=some (.int .u64 b.file)/\w.cell? ⟨g,14,none⟩=some (.int .u8 b.kind)/\w.cell? ⟨g,15,none⟩=some (.slice B2 Bn2 Bc2)/\w.cell? ⟨g,16,none⟩=some (.int .u32 b.n)/\w.cell? ⟨g,17,none⟩=some (.slice B3 Bn3 Bc3)/\w.cell? ⟨g,18,none⟩=some (.bool b.more)/\w.cell? ⟨g,19,none⟩=some (.bool b.gone)):=λw g h=>⟨h.at rfl,h.at rfl,h.at (D0a kb 0),h.at (D0a kb 1),h.at (D0a kb 2),h.at (D0a kb 3),h.at (D0a kb 4),h.at (D0a kb 5),h.at (D0a kb 6),h.at (D0a kb 7),h.at (D0a kb 8),h.at (D0a kb 9)⟩
 obtain⟨z_chal,hz_chal⟩:∃z,z=decide (a.chal=b.chal):=⟨_,rfl⟩;rw[<-hz_chal] at q_chal;have Z_chal:=hI hz_chal;clear hz_chal;obtain⟨la_chal,hl⟩:∃l,l=a.chal.map (Value.int .u8):=⟨_,rfl⟩;rw[<-hl] at q_chal RA_chal NA_chal;clear hl;obtain⟨lb_chal,hl⟩:∃l,l=b.chal.map (Value.int .u8):=⟨_,rfl⟩;rw[<-hl] at q_chal RB_chal NB_chal;clear hl;obtain⟨z_data,hz_data⟩:∃z,z=decide (a.data=b.data):=⟨_,rfl⟩;rw[<-hz_data] at CS;have Z_data:=hI hz_data;clear hz_data;obtain⟨z_ents,hz_ents⟩:∃z,z=decide (a.ents=b.ents):=⟨_,rfl⟩;rw[<-hz_ents] at CR;have Z_ents:=hI hz_ents;clear hz_ents;obtain⟨a_dia,ha_dia⟩:∃x,x=a.dia:=⟨_,rfl⟩;rw[<-ha_dia] at FA f_dia HT;obtain⟨b_dia,hb_dia⟩:∃x,x=b.dia:=⟨_,rfl⟩;rw[<-hb_dia] at FB f_dia HT;obtain⟨a_siz,ha_siz⟩:∃x,x=a.siz:=⟨_,rfl⟩;rw[<-ha_siz] at FA f_siz HT;obtain⟨b_siz,hb_siz⟩:∃x,x=b.siz:=⟨_,rfl⟩;rw[<-hb_siz] at FB f_siz HT;obtain⟨a_lev,ha_lev⟩:∃x,x=a.lev:=⟨_,rfl⟩;rw[<-ha_lev] at FA f_lev HT;obtain⟨b_lev,hb_lev⟩:∃x,x=b.lev:=⟨_,rfl⟩;rw[<-hb_lev] at FB f_lev HT;obtain⟨a_dur,ha_dur⟩:∃x,x=a.dur:=⟨_,rfl⟩;rw[<-ha_dur] at FA f_dur HT;obtain⟨b_dur,hb_dur⟩:∃x,x=b.dur:=⟨_,rfl⟩;rw[<-hb_dur] at FB f_dur HT;obtain⟨a_made,ha_made⟩:∃x,x=a.made:=⟨_,rfl⟩;rw[<-ha_made] at FA f_made HT;obtain⟨b_made,hb_made⟩:∃x,x=b.made:=⟨_,rfl⟩;rw[<-hb_made] at FB f_made HT;obtain⟨a_file,ha_file⟩:∃x,x=a.file:=⟨_,rfl⟩;rw[<-ha_file] at FA f_file HT;obtain⟨b_file,hb_file⟩:∃x,x=b.file:=⟨_,rfl⟩;rw[<-hb_file] at FB f_file HT;obtain⟨a_kind,ha_kind⟩:∃x,x=a.kind:=⟨_,rfl⟩;rw[<-ha_kind] at FA f_kind HT;obtain⟨b_kind,hb_kind⟩:∃x,x=b.kind:=⟨_,rfl⟩;rw[<-hb_kind] at FB f_kind HT;obtain⟨a_n,ha_n⟩:∃x,x=a.n:=⟨_,rfl⟩;rw[<-ha_n] at FA f_n HT;obtain⟨b_n,hb_n⟩:∃x,x=b.n:=⟨_,rfl⟩;rw[<-hb_n] at FB f_n HT;obtain⟨a_more,ha_more⟩:∃x,x=a.more:=⟨_,rfl⟩;rw[<-ha_more] at FA f_more HT;obtain⟨b_more,hb_more⟩:∃x,x=b.more:=⟨_,rfl⟩;rw[<-hb_more] at FB f_more HT;obtain⟨a_gone,ha_gone⟩:∃x,x=a.gone:=⟨_,rfl⟩;rw[<-ha_gone] at FA f_gone HT;obtain⟨b_gone,hb_gone⟩:∃x,x=b.gone:=⟨_,rfl⟩;rw[<-hb_gone] at FB f_gone HT;obtain⟨cs,hcs⟩:∃c,c=u0a (.slice A2 An2 Ac2) (.slice A3 An3 Ac3) a:=⟨_,rfl⟩;rw[<-hcs] at FA RA_chal HL⊢;obtain⟨ds,hds⟩:∃c,c=u0a (.slice B2 Bn2 Bc2) (.slice B3 Bn3 Bc3) b:=⟨_,rfl⟩;rw[<-hds] at FB RB_chal HM⊢;obtain⟨r,hr⟩:∃r,r=decide (a=b):=⟨_,rfl⟩;rw[<-hr] at HT f_dia f_siz f_chal f_lev f_dur f_made f_file f_kind f_data f_n f_ents f_more f_gone⊢;clear hr hcs hds ka kb ha_dia hb_dia ha_siz hb_siz ha_lev hb_lev ha_dur hb_dur ha_made hb_made ha_file hb_file ha_kind hb_kind ha_n hb_n ha_more hb_more ha_gone hb_gone hx2 hx3 hy2 hy3 la2 la3 lb2 lb3 bA2 bA3 bB2 bB3;go_enter Tryz.func15,Tryz.ntmps15;simp only[List.append_eq,List.cons_append,List.nil_append];by_cases t_dia:a_dia=b_dia;rotate_left;have nb:(a_dia==b_dia)=false:=by simpa using t_dia
 have RS:=hI (f_dia.out t_dia);clear t_dia
 rotate_right
 have nb_dia:(a_dia==b_dia)=true:=by simpa using t_dia
 have e_dia:=hI t_dia;clear t_dia;by_cases t_siz:a_siz=b_siz;rotate_left;have nb:(a_siz==b_siz)=false:=by simpa using t_siz
 have RS:=hI (f_siz.out t_siz);clear t_siz
 rotate_right
 have nb_siz:(a_siz==b_siz)=true:=by simpa using t_siz
 have e_siz:=hI t_siz;clear t_siz;cases z_chal
 ·have ne:¬a.chal=b.chal:=by have:=Z_chal.out;simpa using this.symm
  have RS:=hI (f_chal.out ne);clear ne;go_wp2_with(first | ((with_reducible refine sN 2 ?_);refine d0a rfl _ (.tmp 0) rfl cs rfl ?_;intro g w1 hg1 hg2 K0 L1) | ((with_reducible refine sN 3 ?_);refine d0a rfl _ (.tmp 1) rfl ds rfl ?_;intro h w2 hg3 hg4 K2 L2';have K1:=hI (K0.out.over L2'.out);have L2:=hI (step L1.out L2'.out);obtain⟨ca_dia,ca_siz,ca_lev,ca_dur,ca_made,ca_file,ca_kind,ca_data,ca_n,ca_ents,ca_more,ca_gone⟩:=FA.out _ _ K1.out;obtain⟨cb_dia,cb_siz,cb_lev,cb_dur,cb_made,cb_file,cb_kind,cb_data,cb_n,cb_ents,cb_more,cb_gone⟩:=FB.out _ _ K2.out;have rA_chal:=hI (RA_chal.out _ _ K1.out);have rB_chal:=hI (RB_chal.out _ _ K2.out)) | (first | ((with_reducible refine sN 18 ?_);refine T0a (by kernel_rfl) _ (.tmp 2) 2 rfl (.pointer (some ⟨g,0,none⟩)) (.pointer (some ⟨g,2,none⟩)) (by kernel_rfl) (p8a g) ?_) | ((with_reducible refine sN 19 ?_);refine E0a (by kernel_rfl) _ (.tmp 18) rfl g 2 rfl la_chal _ rA_chal Tryz.underlying35 rfl 8 O4a NA_chal ?_) | ((with_reducible refine sN 20 ?_);refine T0a (by kernel_rfl) _ (.tmp 3) 2 rfl (.pointer (some ⟨h,0,none⟩)) (.pointer (some ⟨h,2,none⟩)) (by kernel_rfl) (p8a h) ?_) | ((with_reducible refine sN 21 ?_);refine E0a (by kernel_rfl) _ (.tmp 20) rfl h 2 rfl lb_chal _ rB_chal Tryz.underlying35 rfl 8 O4a NB_chal ?_) | fail));go_ret;exact⟨N0a RS.out.symm,L2.out⟩
 ·have e_chal:Hid (a.chal=b.chal):=by have:=Z_chal.out;show _=_;simpa using this.symm
  by_cases t_lev:a_lev=b_lev;rotate_left;have nb:(a_lev==b_lev)=false:=by simpa using t_lev
  have RS:=hI (f_lev.out t_lev);clear t_lev
  rotate_right
  have nb_lev:(a_lev==b_lev)=true:=by simpa using t_lev
  have e_lev:=hI t_lev;clear t_lev;by_cases t_dur:a_dur=b_dur;rotate_left;have nb:(a_dur==b_dur)=false:=by simpa using t_dur
  have RS:=hI (f_dur.out t_dur);clear t_dur
  rotate_right
  have nb_dur:(a_dur==b_dur)=true:=by simpa using t_dur
  have e_dur:=hI t_dur;clear t_dur;by_cases t_made:a_made=b_made;rotate_left;have nb:(a_made==b_made)=false:=by simpa using t_made
  have RS:=hI (f_made.out t_made);clear t_made
  rotate_right
  have nb_made:(a_made==b_made)=true:=by simpa using t_made
  have e_made:=hI t_made;clear t_made;by_cases t_file:a_file=b_file;rotate_left;have nb:(a_file==b_file)=false:=by simpa using t_file
  have RS:=hI (f_file.out t_file);clear t_file
  rotate_right
  have nb_file:(a_file==b_file)=true:=by simpa using t_file
  have e_file:=hI t_file;clear t_file;by_cases t_kind:a_kind=b_kind;rotate_left;have nb:(a_kind==b_kind)=false:=by simpa using t_kind
  have RS:=hI (f_kind.out t_kind);clear t_kind
  rotate_right
  have nb_kind:(a_kind==b_kind)=true:=by simpa using t_kind
  have e_kind:=hI t_kind;clear t_kind;go_wp2_with(first | ((with_reducible refine sN 2 ?_);refine d0a rfl _ (.tmp 0) rfl cs rfl ?_;intro g w1 hg1 hg2 K0 L1) | ((with_reducible refine sN 3 ?_);refine d0a rfl _ (.tmp 1) rfl ds rfl ?_;intro h w2 hg3 hg4 K2 L2';have K1:=hI (K0.out.over L2'.out);have L2:=hI (step L1.out L2'.out);obtain⟨ca_dia,ca_siz,ca_lev,ca_dur,ca_made,ca_file,ca_kind,ca_data,ca_n,ca_ents,ca_more,ca_gone⟩:=FA.out _ _ K1.out;obtain⟨cb_dia,cb_siz,cb_lev,cb_dur,cb_made,cb_file,cb_kind,cb_data,cb_n,cb_ents,cb_more,cb_gone⟩:=FB.out _ _ K2.out;have rA_chal:=hI (RA_chal.out _ _ K1.out);have rB_chal:=hI (RB_chal.out _ _ K2.out)) | (first | ((with_reducible refine sN 18 ?_);refine T0a (by kernel_rfl) _ (.tmp 2) 2 rfl (.pointer (some ⟨g,0,none⟩)) (.pointer (some ⟨g,2,none⟩)) (by kernel_rfl) (p8a g) ?_) | ((with_reducible refine sN 19 ?_);refine E0a (by kernel_rfl) _ (.tmp 18) rfl g 2 rfl la_chal _ rA_chal Tryz.underlying35 rfl 8 O4a NA_chal ?_) | ((with_reducible refine sN 20 ?_);refine T0a (by kernel_rfl) _ (.tmp 3) 2 rfl (.pointer (some ⟨h,0,none⟩)) (.pointer (some ⟨h,2,none⟩)) (by kernel_rfl) (p8a h) ?_) | ((with_reducible refine sN 21 ?_);refine E0a (by kernel_rfl) _ (.tmp 20) rfl h 2 rfl lb_chal _ rB_chal Tryz.underlying35 rfl 8 O4a NB_chal ?_) | fail));refine(CS.out _ L2.out).mono ?_;rintro e w' ⟨rfl,j_data,rfl⟩;have K1_data':=K1.out.drewN j_data;have K2_data':=K2.out.drewN j_data;have L_data':=below_drewN L2.out j_data;obtain⟨w_data,hw_data⟩:∃v,v=World.drewN w2 j_data:=⟨_,rfl⟩;rw[<-hw_data] at K1_data' K2_data' L_data'⊢;have K1_data:=hI K1_data';have K2_data:=hI K2_data';have L_data:=hI L_data';clear hw_data K1_data' K2_data' L_data' ca_dia cb_dia ca_siz cb_siz ca_lev cb_lev ca_dur cb_dur ca_made cb_made ca_file cb_file ca_kind cb_kind ca_data cb_data ca_n cb_n ca_ents cb_ents ca_more cb_more ca_gone cb_gone;clear rA_chal rB_chal;cases z_data
  ·have ne:¬a.data=b.data:=by have:=Z_data.out;simpa using this.symm
   have RS:=hI (f_data.out ne);clear ne;go_wp2_with fail;go_ret;exact⟨N0a RS.out.symm,L_data.out⟩
  ·have e_data:Hid (a.data=b.data):=by have:=Z_data.out;show _=_;simpa using this.symm
   obtain⟨ca_dia,ca_siz,ca_lev,ca_dur,ca_made,ca_file,ca_kind,ca_data,ca_n,ca_ents,ca_more,ca_gone⟩:=FA.out _ _ K1_data.out;obtain⟨cb_dia,cb_siz,cb_lev,cb_dur,cb_made,cb_file,cb_kind,cb_data,cb_n,cb_ents,cb_more,cb_gone⟩:=FB.out _ _ K2_data.out;have rA_chal:=hI (RA_chal.out _ _ K1_data.out);have rB_chal:=hI (RB_chal.out _ _ K2_data.out);by_cases t_n:a_n=b_n;rotate_left;have nb:(a_n==b_n)=false:=by simpa using t_n
   have RS:=hI (f_n.out t_n);clear t_n
   rotate_right
   have nb_n:(a_n==b_n)=true:=by simpa using t_n
   have e_n:=hI t_n;clear t_n;go_wp2_with fail;refine(CR.out _ L_data.out).mono ?_;rintro e w' ⟨rfl,j_ents,rfl⟩;have K1_ents':=K1_data.out.drewN j_ents;have K2_ents':=K2_data.out.drewN j_ents;have L_ents':=below_drewN L_data.out j_ents;obtain⟨w_ents,hw_ents⟩:∃v,v=World.drewN w_data j_ents:=⟨_,rfl⟩;rw[<-hw_ents] at K1_ents' K2_ents' L_ents'⊢;have K1_ents:=hI K1_ents';have K2_ents:=hI K2_ents';have L_ents:=hI L_ents';clear hw_ents K1_ents' K2_ents' L_ents' ca_dia cb_dia ca_siz cb_siz ca_lev cb_lev ca_dur cb_dur ca_made cb_made ca_file cb_file ca_kind cb_kind ca_data cb_data ca_n cb_n ca_ents cb_ents ca_more cb_more ca_gone cb_gone;clear rA_chal rB_chal;cases z_ents
   ·have ne:¬a.ents=b.ents:=by have:=Z_ents.out;simpa using this.symm
    have RS:=hI (f_ents.out ne);clear ne;go_wp2_with fail;go_ret;exact⟨N0a RS.out.symm,L_ents.out⟩
   ·have e_ents:Hid (a.ents=b.ents):=by have:=Z_ents.out;show _=_;simpa using this.symm
    obtain⟨ca_dia,ca_siz,ca_lev,ca_dur,ca_made,ca_file,ca_kind,ca_data,ca_n,ca_ents,ca_more,ca_gone⟩:=FA.out _ _ K1_ents.out;obtain⟨cb_dia,cb_siz,cb_lev,cb_dur,cb_made,cb_file,cb_kind,cb_data,cb_n,cb_ents,cb_more,cb_gone⟩:=FB.out _ _ K2_ents.out;have rA_chal:=hI (RA_chal.out _ _ K1_ents.out);have rB_chal:=hI (RB_chal.out _ _ K2_ents.out);by_cases t_more:a_more=b_more;rotate_left;have nb:(a_more==b_more)=false:=by simpa using t_more
    have RS:=hI (f_more.out t_more);clear t_more
    rotate_right
    have nb_more:(a_more==b_more)=true:=by simpa using t_more
    have e_more:=hI t_more;clear t_more;by_cases t_gone:a_gone=b_gone;rotate_left;have nb:(a_gone==b_gone)=false:=by simpa using t_gone
    have RS:=hI (f_gone.out t_gone);clear t_gone
    rotate_right
    have nb_gone:(a_gone==b_gone)=true:=by simpa using t_gone
    have e_gone:=hI t_gone;clear t_gone;go_wp2_with fail;go_ret;exact⟨N0a (HT.out e_dia.out e_siz.out e_chal.out e_lev.out e_dur.out e_made.out e_file.out e_kind.out e_data.out e_n.out e_ents.out e_more.out e_gone.out).symm,L_ents.out⟩;all_goals
     go_wp2_with fail;go_ret;exact⟨N0a RS.out.symm,L_ents.out⟩
   all_goals
    go_wp2_with fail;go_ret;exact⟨N0a RS.out.symm,L_data.out⟩
  all_goals
   go_wp2_with(first | ((with_reducible refine sN 2 ?_);refine d0a rfl _ (.tmp 0) rfl cs rfl ?_;intro g w1 hg1 hg2 K0 L1) | ((with_reducible refine sN 3 ?_);refine d0a rfl _ (.tmp 1) rfl ds rfl ?_;intro h w2 hg3 hg4 K2 L2';have K1:=hI (K0.out.over L2'.out);have L2:=hI (step L1.out L2'.out);obtain⟨ca_dia,ca_siz,ca_lev,ca_dur,ca_made,ca_file,ca_kind,ca_data,ca_n,ca_ents,ca_more,ca_gone⟩:=FA.out _ _ K1.out;obtain⟨cb_dia,cb_siz,cb_lev,cb_dur,cb_made,cb_file,cb_kind,cb_data,cb_n,cb_ents,cb_more,cb_gone⟩:=FB.out _ _ K2.out;have rA_chal:=hI (RA_chal.out _ _ K1.out);have rB_chal:=hI (RB_chal.out _ _ K2.out)) | (first | ((with_reducible refine sN 18 ?_);refine T0a (by kernel_rfl) _ (.tmp 2) 2 rfl (.pointer (some ⟨g,0,none⟩)) (.pointer (some ⟨g,2,none⟩)) (by kernel_rfl) (p8a g) ?_) | ((with_reducible refine sN 19 ?_);refine E0a (by kernel_rfl) _ (.tmp 18) rfl g 2 rfl la_chal _ rA_chal Tryz.underlying35 rfl 8 O4a NA_chal ?_) | ((with_reducible refine sN 20 ?_);refine T0a (by kernel_rfl) _ (.tmp 3) 2 rfl (.pointer (some ⟨h,0,none⟩)) (.pointer (some ⟨h,2,none⟩)) (by kernel_rfl) (p8a h) ?_) | ((with_reducible refine sN 21 ?_);refine E0a (by kernel_rfl) _ (.tmp 20) rfl h 2 rfl lb_chal _ rB_chal Tryz.underlying35 rfl 8 O4a NB_chal ?_) | fail));go_ret;exact⟨N0a RS.out.symm,L2.out⟩
 all_goals
  go_wp2_with(first | ((with_reducible refine sN 2 ?_);refine d0a rfl _ (.tmp 0) rfl cs rfl ?_;intro g w1 hg1 hg2 K0 L1) | ((with_reducible refine sN 3 ?_);refine d0a rfl _ (.tmp 1) rfl ds rfl ?_;intro h w2 hg3 hg4 K2 L2';have K1:=hI (K0.out.over L2'.out);have L2:=hI (step L1.out L2'.out);obtain⟨ca_dia,ca_siz,ca_lev,ca_dur,ca_made,ca_file,ca_kind,ca_data,ca_n,ca_ents,ca_more,ca_gone⟩:=FA.out _ _ K1.out;obtain⟨cb_dia,cb_siz,cb_lev,cb_dur,cb_made,cb_file,cb_kind,cb_data,cb_n,cb_ents,cb_more,cb_gone⟩:=FB.out _ _ K2.out;have rA_chal:=hI (RA_chal.out _ _ K1.out);have rB_chal:=hI (RB_chal.out _ _ K2.out)) | fail);go_ret;exact⟨N0a RS.out.symm,L2.out⟩
end Go.Proofs.YtjpcifmeimcikaaGreatDoor
