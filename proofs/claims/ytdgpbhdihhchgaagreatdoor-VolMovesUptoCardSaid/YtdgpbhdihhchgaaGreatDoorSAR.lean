import Derived.Test.YtdgpbhdihhchgaaGreatDoorSAI
import Derived.Test.YtdgpbhdihhchgaaGreatDoorSAJ
import Derived.Test.YtdgpbhdihhchgaaGreatDoorS0
set_option linter.all false
set_option maxHeartbeats 8000000
set_option maxRecDepth 100000
namespace Go.Proofs.YtdgpbhdihhchgaaGreatDoor
set_option maxRecDepth 100000
open Go.RowKit
theorem g0a.cellAt{S:Nat->Prop}{w w':World}{g o:Nat}{x:Value}(a:g0a S w w')(hg:¬S g)(h:w.cell? ⟨g,o,none⟩=some x):w'.cell? ⟨g,o,none⟩=some x:=by
 have hlt:g<w.heap.size:=by
  by_cases hh:g<w.heap.size
  ·exact hh
  ·unfold World.cell? at h;simp only[Array.getElem?_eq_none (Nat.le_of_not_lt hh)] at h;cases h
 rw[<-h];unfold World.cell?;rw[a.rest g hlt hg]
section
variable {Z:Bool} {w w' w4 w5 w6:World} {base q n c:Nat} {v v' v5:Value} {l r:List O2a} {y y':O2a} {xs:List Int}
end
section
variable {w w':World} {b q:Nat} {B:List Int} {Z:List Bool} {S:Nat->Prop}
theorem Holds.spar{B n c:Nat}{A:Option Addr}{xs:List Int}(h:Holds w B A n c xs)(a:g0a S w w')(hB:B<=w.heap.size)(hs:∀x,A=some x->¬S x.block):Holds w' B A n c xs:=by refine⟨h.len,h.fit,h.room,h.byte,h.bare,λh0=>?_⟩;obtain⟨g,off,e,hb,hc⟩:=h.cells h0;refine⟨g,off,e,hb,λi hi=>?_⟩;exact a.cellAt (λhg=>hs _ e hg) (hc i hi)
theorem M4c.spar{base top n c:Nat}{A:Option Addr}{l:List O2a}(h:M4c w base top A n c l)(a:g0a S w w')(hB:top<=w.heap.size)(hs:∀j,S j->j<base∨top<=j):M4c w' base top A n c l:=by
 have off:∀x:Addr,base<=x.block/\x.block<top->¬S x.block:=λx h1 h2=>by have:=hs _ h2;omega
 refine⟨⟨?_,λx hx=>(h.lst.each x hx).spar a hB λy hy=>off y (h.each x hx y hy)⟩,h.row,h.each,λx hx=>?_⟩;rotate_left
 ·rcases h.loose x hx with h0 | ⟨g,n,N,zs,h0,h1,h2,h3,h4,h5,hr⟩
  ·exact .inl h0
  ·exact .inr ⟨g,n,N,zs,h0,h1,h2,h3,h4,h5,hr.spare a λhg=>by have:=hs _ hg;omega⟩
 obtain⟨h1,h2,h3,h4⟩:=h.lst.row;refine⟨h1,h2,h3,λh0=>?_⟩;obtain⟨g,o,e,hg,hc⟩:=h4 h0;exact⟨g,o,e,hg,λi x hi j u hj=>a.cellAt (off _ (h.row _ e)) (hc i x hi j u hj)⟩
theorem y4a.spar{lo hi:Nat}{v:Value}(h:y4a w lo hi v)(a:g0a S w w')(hs:∀j,S j->j<lo∨hi<=j):y4a w' lo hi v:=by
 rcases h with h0 | ⟨g,n,N,zs,h0,h1,h2,h3,h4,h5,hr⟩
 ·exact .inl h0
 ·exact .inr ⟨g,n,N,zs,h0,h1,h2,h3,h4,h5,hr.spare a λhg=>by have:=hs _ hg;omega⟩
theorem y4a.own{lo hi i:Nat}{v:Value}(h:y4a w lo hi v)(hi':v.ownBlock=some i):lo<=i/\i<hi/\∃zs,Row w i zs:=by
 rcases h with rfl | ⟨g,n,N,zs,rfl,h1,h2,h3,h4,h5,hr⟩
 ·cases hi'
 ·cases hi';exact⟨h4,h5,zs,hr⟩
end
end Go.Proofs.YtdgpbhdihhchgaaGreatDoor
