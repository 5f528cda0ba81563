import Derived.Test.YtpodpmckdiijhaaGreatDoorZAE
import Derived.Test.YtpodpmckdiijhaaGreatDoorS0
set_option linter.all false
set_option maxHeartbeats 8000000
set_option maxRecDepth 100000
namespace Go.Proofs.YtpodpmckdiijhaaGreatDoor
open Go.RowKit
set_option maxRecDepth 100000
def UpV(lo:Nat)(o:Option Value):Prop:=∀b off s n c,o=some (.slice (some ⟨b,off,s⟩) n c)->lo<=b
def UpA(lo:Nat)(cs:List Value)(a:z1a):Prop:=(a.dial=[]∨UpV lo cs[0]?)/\(a.data=[]∨UpV lo cs[61]?)/\(a.locks=[]∨UpV lo cs[62]?)
def UpS(lo:Nat)(cs:List Value)(s:W1a):Prop:=(s.data=[]∨UpV lo cs[15]?)/\(s.ents=[]∨UpV lo cs[17]?)
theorem UpV.mono{lo lo':Nat}{o:Option Value}(h:UpV lo o)(hl:lo'<=lo):UpV lo' o:=λb off s n c e=>Nat.le_trans hl (h b off s n c e)
theorem UpA.mono{lo lo':Nat}{cs:List Value}{a:z1a}(h:UpA lo cs a)(hl:lo'<=lo):UpA lo' cs a:=⟨h.1.imp id (·.mono hl),h.2.1.imp id (·.mono hl),h.2.2.imp id (·.mono hl)⟩
theorem UpS.mono{lo lo':Nat}{cs:List Value}{s:W1a}(h:UpS lo cs s)(hl:lo'<=lo):UpS lo' cs s:=⟨h.1.imp id (·.mono hl),h.2.imp id (·.mono hl)⟩
theorem a2a.cellNe{w w':World}{g b o:Nat}(hO:a2a g w w')(hb:b≠g):w'.cell? ⟨b,o,none⟩=w.cell? ⟨b,o,none⟩:=by unfold World.cell?;rw[hO.rest b hb]
theorem L1a.onlyUp{α:Type}{f:α->Value}{w w':World}{B g lo n c:Nat}{A:Option Addr}{xs:List α}(h:L1a f w B A n c xs)(hO:a2a g w w')(hu:xs=[]∨UpV lo (some (.slice A n c)))(hg:g<lo):L1a f w' B A n c xs:=
 ⟨h.len,h.fit,h.bare,λh0=>by
  obtain⟨b,off,hA,hb,hc⟩:=h.cells h0;refine⟨b,off,hA,hb,λi x hi=>?_⟩;have hne:b≠g:=by
   rcases hu with hu | hu
   ·have:=h.len;rw[hu] at this;simp at this;omega
   ·have:=hu b off none n c (by rw[hA]);omega
  rw[hO.cellNe hne];exact hc i x hi⟩
theorem Holds.onlyUp{w w':World}{B g lo n c:Nat}{A:Option Addr}{xs:List Int}(h:Holds w B A n c xs)(hO:a2a g w w')(hu:xs=[]∨UpV lo (some (.slice A n c)))(hg:g<lo):Holds w' B A n c xs:=
 ⟨h.len,h.fit,h.room,h.byte,h.bare,λh0=>by
  obtain⟨b,off,hA,hb,hc⟩:=h.cells h0;refine⟨b,off,hA,hb,λi hi=>?_⟩;have hne:b≠g:=by
   rcases hu with hu | hu
   ·have:=h.len;rw[hu] at this;simp at this;omega
   ·have:=hu b off none n c (by rw[hA]);omega
  rw[hO.cellNe hne];exact hc i hi⟩
theorem c1a.onlyUp{α:Type}{f:α->List Value}{s:Nat}{w w':World}{B g lo n c:Nat}{A:Option Addr}{xs:List α}(h:c1a f s w B A n c xs)(hO:a2a g w w')(hu:xs=[]∨UpV lo (some (.slice A n c)))(hg:g<lo):c1a f s w' B A n c xs:=
 ⟨h.len,h.fit,h.bare,λh0=>by
  obtain⟨b,off,hA,hb,hc⟩:=h.cells h0;refine⟨b,off,hA,hb,λi x hi j u hj=>?_⟩;have hne:b≠g:=by
   rcases hu with hu | hu
   ·have:=h.len;rw[hu] at this;simp at this;omega
   ·have:=hu b off none n c (by rw[hA]);omega
  rw[hO.cellNe hne];exact hc i x hi j u hj⟩
def GA(w:World)(lo:Nat)(ac:List Value)(a:z1a):Prop:=a.ok/\j1a w w.heap.size ac a/\UpA lo ac a/\∃vx,ac[61]? = some vx/\s5a w lo vx a.data
def GS(w:World)(lo:Nat)(sc:List Value)(s:W1a):Prop:=s.ok/\w1a w w.heap.size sc s/\UpS lo sc s/\∃vx,sc[15]? = some vx/\s5a w lo vx s.data
theorem P0a.onlyLow{k:IntKind}{e:TypeId}{w w':World}{base b:Nat}{v:Value}{xs:List Int}(h:P0a k e w base v xs)(hO:a2a b w w')(hb:b<base):P0a k e w' base v xs:=
 h.keep λi cs hi hc=>hO.rest i (by obtain⟨h1,_⟩:=h.own.block hi;omega)
theorem GA.only{w w':World}{lo g:Nat}{ac:List Value}{a:z1a}(h:GA w lo ac a)(hO:a2a g w w')(hg:g<lo):GA w' lo ac a:=by
 obtain⟨k,⟨Ad,nd,cd,Ax,nx,cx,Al,nl,cl,rfl,h1,h2,h3⟩,⟨u1,u2,u3⟩,vx,hx,ho⟩:=h;rw[show(o0a (.slice Ad nd cd) (.slice Ax nx cx) (.slice Al nl cl) a)[61]? = some (.slice Ax nx cx) from r0a k 12] at u2;rw[show(o0a (.slice Ad nd cd) (.slice Ax nx cx) (.slice Al nl cl) a)[62]? = some (.slice Al nl cl) from r0a k 13] at u3;have u1':a.dial=[]∨UpV lo (some (.slice Ad nd cd)):=u1;refine⟨k,⟨Ad,nd,cd,Ax,nx,cx,Al,nl,cl,rfl,?_,?_,?_⟩,⟨u1,?_,?_⟩,vx,hx,ho.onlyLow hO hg⟩
 ·rw[hO.size];exact h1.onlyUp hO u1' hg
 ·rw[hO.size];exact h2.onlyUp hO u2 hg
 ·rw[hO.size];exact h3.onlyUp hO u3 hg
 ·rw[show(o0a (.slice Ad nd cd) (.slice Ax nx cx) (.slice Al nl cl) a)[61]? = some (.slice Ax nx cx) from r0a k 12];exact u2
 ·rw[show(o0a (.slice Ad nd cd) (.slice Ax nx cx) (.slice Al nl cl) a)[62]? = some (.slice Al nl cl) from r0a k 13];exact u3
theorem GS.only{w w':World}{lo g:Nat}{sc:List Value}{s:W1a}(h:GS w lo sc s)(hO:a2a g w w')(hg:g<lo):GS w' lo sc s:=by
 obtain⟨k,⟨Ax,nx,cx,Al,nl,cl,rfl,h2,h3⟩,⟨u2,u3⟩,vx,hx,ho⟩:=h;rw[show(y0a (.slice Ax nx cx) (.slice Al nl cl) s)[15]? = some (.slice Ax nx cx) from D0a k 5] at u2;rw[show(y0a (.slice Ax nx cx) (.slice Al nl cl) s)[17]? = some (.slice Al nl cl) from D0a k 7] at u3;refine⟨k,⟨Ax,nx,cx,Al,nl,cl,rfl,?_,?_⟩,⟨?_,?_⟩,vx,hx,ho.onlyLow hO hg⟩
 ·rw[hO.size];exact h2.onlyUp hO u2 hg
 ·rw[hO.size];exact h3.onlyUp hO u3 hg
 ·rw[show(y0a (.slice Ax nx cx) (.slice Al nl cl) s)[15]? = some (.slice Ax nx cx) from D0a k 5];exact u2
 ·rw[show(y0a (.slice Ax nx cx) (.slice Al nl cl) s)[17]? = some (.slice Al nl cl) from D0a k 7];exact u3
theorem GA.over{w w':World}{lo:Nat}{ac:List Value}{a:z1a}(h:GA w lo ac a)(hb:Below w.heap.size w w'):GA w' lo ac a:=by obtain⟨k,h1,h2,vx,hx,ho⟩:=h;exact⟨k,h1.over hb,h2,vx,hx,ho.below hb⟩
theorem GS.over{w w':World}{lo:Nat}{sc:List Value}{s:W1a}(h:GS w lo sc s)(hb:Below w.heap.size w w'):GS w' lo sc s:=by obtain⟨k,h1,h2,vx,hx,ho⟩:=h;exact⟨k,h1.over hb,h2,vx,hx,ho.below hb⟩
theorem GA.mono{w:World}{lo lo':Nat}{ac:List Value}{a:z1a}(h:GA w lo ac a)(hl:lo'<=lo):GA w lo' ac a:=by obtain⟨k,h1,h2,vx,hx,ho⟩:=h;exact⟨k,h1,h2.mono hl,vx,hx,ho.mono hl⟩
theorem GS.mono{w:World}{lo lo':Nat}{sc:List Value}{s:W1a}(h:GS w lo sc s)(hl:lo'<=lo):GS w lo' sc s:=by obtain⟨k,h1,h2,vx,hx,ho⟩:=h;exact⟨k,h1,h2.mono hl,vx,hx,ho.mono hl⟩
def zac:List Value:=o0a (.slice none 0 0) (.slice none 0 0) (.slice none 0 0) j0a
def zsc:List Value:=y0a (.slice none 0 0) (.slice none 0 0) s0a
theorem GA.zero(w:World)(lo:Nat):GA w lo zac j0a:=⟨h0a,h2a w _,⟨.inl rfl,.inl rfl,.inl rfl⟩,.slice none 0 0,rfl,P0a.nil _ _ _ _⟩
theorem GS.zero(w:World)(lo:Nat):GS w lo zsc s0a:=⟨G0a,q2a w _,⟨.inl rfl,.inl rfl⟩,.slice none 0 0,rfl,P0a.nil _ _ _ _⟩
theorem GA.len{w:World}{lo:Nat}{ac:List Value}{a:z1a}(h:GA w lo ac a):ac.length=69:=h.2.1.len h.1
theorem GS.len{w:World}{lo:Nat}{sc:List Value}{s:W1a}(h:GS w lo sc s):sc.length=20:=h.2.1.len h.1
theorem GA.one{w:World}{lo:Nat}{ac:List Value}{a:z1a}(h:GA w lo ac a):∀v∈ac,v.oneCell'=true:=h.2.1.one
theorem GS.one{w:World}{lo:Nat}{sc:List Value}{s:W1a}(h:GS w lo sc s):∀v∈sc,v.oneCell'=true:=h.2.1.one
def r7b(w:World)(c:Int)(A:Option Addr)(n k:Nat)(xs:List Int):Prop:=∀w',Below w.heap.size w w'->Calls Tryz.prog (fGA c) #[.int .u16 c,.slice A n k] w' λe w2=>∃cs,e=.returned (.tuple #[.agg cs.toArray,.int .i64 (gae c xs)])/\GA w2 w'.heap.size cs (gao c xs)/\Below w'.heap.size w' w2
def o8b(w:World)(c:Int)(A:Option Addr)(n k:Nat)(xs:List Int):Prop:=∀w',Below w.heap.size w w'->Calls Tryz.prog (fGS c) #[.int .u16 c,.slice A n k] w' λe w2=>∃cs,e=.returned (.tuple #[.agg cs.toArray,.int .i64 (gse c xs)])/\GS w2 w'.heap.size cs (gso c xs)/\Below w'.heap.size w' w2
def p0c(w w':World)(h:Hd)(ac sc ac' sc':List Value)(xs:List Int):Prop:=(e3a h.fl=true->ac'=ac/\GS w' w.heap.size sc' (gso (P5a h) xs))/\(e3a h.fl=false->sc'=sc/\GA w' w.heap.size ac' (gao (P5a h) xs))
def K1b(w:World)(g:Nat)(h:Hd)(ac sc:List Value)(xs:List Int)(e:Ending)(w':World):Prop:=∃ac' sc',e=.returned (.int .i64 (u4a h xs))/\Blk w' g 65 (q0a h++(ac'++sc'))/\ac'.length=69/\sc'.length=20/\R0a g w w'/\p0c w w' h ac sc ac' sc' xs
theorem L1b(w:World)(g:Nat)(h:Hd)(ac sc:List Value)(k:h.ok)(B:Blk w g 65 (q0a h++(ac++sc)))(l1:ac.length=69)(l2:sc.length=20)(A:Option Addr)(n c:Nat)(xs:List Int)
(CA:e3a h.fl=false->r7b w (P5a h) A n c xs)(CS:e3a h.fl=true->o8b w (P5a h) A n c xs) :
  Calls Tryz.prog 76 #[.pointer (some ⟨g,0,none⟩),.slice A n c] w (K1b w g h ac sc xs):=by
 have CR:=hI (a7b w g h k _ B);have CI:=hI (z7a w g h k _ B);have H26:=hI (O0a k);have HLL:Hid ((q0a h++(ac++sc)).length=115):=by
  show _=_
  simp only[List.length_append,H26.out,l1,l2]
 have CB:Hid (∀w',Calls Tryz.prog 58 #[.int .u16 (P5a h)] w' λe w2=>e=.returned (A3a (P5a h))/\Below w'.heap.size w' w2):=λw'=>d9a w' _ (E6a k)
 have TA:Hid (∀ac',(q0a h++(ac++sc)).take 26++(ac'++(q0a h++(ac++sc)).drop (26+69))=q0a h++(ac'++sc)):=λac'=>by rw[List.take_left' H26.out,<-List.drop_drop,List.drop_left' H26.out,List.drop_left' l1]
 have TS:Hid (∀sc',(q0a h++(ac++sc)).take 95++(sc'++(q0a h++(ac++sc)).drop (95+20))=q0a h++(ac++sc')):=λsc'=>by
  have hl:(q0a h++ac).length=95:=by rw[List.length_append,H26.out,l1]
  rw[<-List.append_assoc (q0a h),List.take_left' hl,<-List.drop_drop,List.drop_left' hl,List.drop_of_length_le (by omega)];simp
 have gl:=B.lt;have BH:=hI B;have F1:=f9a g;have F2:=g9a g;obtain⟨MC,hMC⟩:∃x,x=q0a h++(ac++sc):=⟨_,rfl⟩;rw[<-hMC] at TA TS BH HLL;obtain⟨q,hq⟩:∃x,x=P5a h:=⟨_,rfl⟩;rw[<-hq] at CR CB CA CS;clear hMC B H26;by_cases hr:e3a h.fl=true
 ·skip
  have CC:=hI (CS hr);rw[hr] at CI;have hent:=a0c q;obtain⟨fA,fB,fC,hF⟩:∃F1 F2 F3,A3a q=.agg #[F1,F2,F3,.func (.func (fGS q)) #[] #[]]:=⟨_,_,_,rfl⟩;rw[hF] at CB;unfold o8b at CC;obtain⟨fn,hfn⟩:∃x,x=fGS q:=⟨_,rfl⟩;rw[<-hfn] at CC CB hent;have HP:Hid (∀sc' e w',e=.returned (.int .i64 (u4a h xs))->Blk w' g 65 (q0a h++(ac++sc'))->R0a g w w'->GS w' w.heap.size sc' (gso q xs)->K1b w g h ac sc xs e w'):=by intro sc' e w' h1 h2 h3 h4;exact⟨ac,sc',h1,h2,l1,h4.len,h3,λ_=>⟨rfl,by rw[<-hq];exact h4⟩,λh5=>absurd h5 (by rw[hr];decide)⟩
  have hge:u4a h xs=if gse q xs=2 then 5 else gse q xs:=by unfold u4a;rw[if_pos hr,hq]
  rw[hge] at HP;obtain⟨er,her⟩:∃x,x=gse q xs:=⟨_,rfl⟩;rw[<-her] at CC HP;by_cases h2:er=2
  ·subst h2;rw[if_pos rfl] at HP;clear her hge hfn hF hr CA CS hq l1 l2 k;go_enter Tryz.func76,Tryz.ntmps76;go_wp2_with fail;refine CR.out.mono ?_;rintro e w1 ⟨rfl,rfl⟩;go_wp2_with fail;refine CI.out.mono ?_;rintro e w1 ⟨rfl,rfl⟩;go_wp2_with fail;refine(CB.out w).mono ?_;rintro e w2 ⟨rfl,L2⟩;have B2:=hI (BH.out.over L2);have M2:=hI L2;have e2:=L2.size;clear L2 BH CB CR CI;go_wp2_with(first
    | ((with_reducible refine sN 28 ?_);refine wpList_plain rfl λK hK=>?_;go_simp;refine hK _ _ ?_;clear hK K)
    | fail)
   refine(CC.out w2 M2.out).mono ?_;rintro e w3 ⟨cs,rfl,hg,L3⟩;have B3:=hI (B2.out.over L3);have M3:=hI (step M2.out L3);have GG:=hI hg;have e3:=L3.size;have HL1:=hI hg.len;have HO1:=hI hg.one;clear hg L3 B2 M2 CC;go_wp2_with(first
    | ((with_reducible refine sT 35 ?_);refine r2a rfl _ (.tmp 35) (.tmp 32) rfl g 95 rfl _ MC cs rfl B3 20 t0a HL1 (hI (by rw[HLL.out];omega)) HO1 ?_;intro w4 B4 O4 hg4;rw[TS.out] at B4;have SV:Hid (R0a g w w4):=(R0a.of_below M3.out g).trans (R0a.of_only O4.out);have G4:Hid (GS w4 w.heap.size cs (gso q xs)):=(GG.out.mono e2).only O4.out gl)
    | fail)
   go_ret;exact HP.out cs _ _ rfl B4.out SV.out G4.out
  ·rw[if_neg h2] at HP;have hne:(er==2)=false:=by simpa using h2
   clear her hge hfn hF hr CA CS hq h2 l1 l2 k;go_enter Tryz.func76,Tryz.ntmps76;go_wp2_with fail;refine CR.out.mono ?_;rintro e w1 ⟨rfl,rfl⟩;go_wp2_with fail;refine CI.out.mono ?_;rintro e w1 ⟨rfl,rfl⟩;go_wp2_with fail;refine(CB.out w).mono ?_;rintro e w2 ⟨rfl,L2⟩;have B2:=hI (BH.out.over L2);have M2:=hI L2;have e2:=L2.size;clear L2 BH CB CR CI;go_wp2_with(first
    | ((with_reducible refine sN 28 ?_);refine wpList_plain rfl λK hK=>?_;go_simp;refine hK _ _ ?_;clear hK K)
    | fail)
   refine(CC.out w2 M2.out).mono ?_;rintro e w3 ⟨cs,rfl,hg,L3⟩;have B3:=hI (B2.out.over L3);have M3:=hI (step M2.out L3);have GG:=hI hg;have e3:=L3.size;have HL1:=hI hg.len;have HO1:=hI hg.one;clear hg L3 B2 M2 CC;go_wp2_with(first
    | ((with_reducible refine sT 35 ?_);refine r2a rfl _ (.tmp 35) (.tmp 32) rfl g 95 rfl _ MC cs rfl B3 20 t0a HL1 (hI (by rw[HLL.out];omega)) HO1 ?_;intro w4 B4 O4 hg4;rw[TS.out] at B4;have SV:Hid (R0a g w w4):=(R0a.of_below M3.out g).trans (R0a.of_only O4.out);have G4:Hid (GS w4 w.heap.size cs (gso q xs)):=(GG.out.mono e2).only O4.out gl)
    | fail)
   go_ret;exact HP.out cs _ _ rfl B4.out SV.out G4.out
 ·have hr':e3a h.fl=false:=by simpa using hr
  have CC:=hI (CA hr');rw[hr'] at CI;have hent:=Y9b q;obtain⟨fA,fB,fC,hF⟩:∃F1 F2 F3,A3a q=.agg #[F1,.func (.func (fGA q)) #[] #[],F2,F3]:=⟨_,_,_,rfl⟩;rw[hF] at CB;unfold r7b at CC;obtain⟨fn,hfn⟩:∃x,x=fGA q:=⟨_,rfl⟩;rw[<-hfn] at CC CB hent;have HP:Hid (∀ac' e w',e=.returned (.int .i64 (u4a h xs))->Blk w' g 65 (q0a h++(ac'++sc))->R0a g w w'->GA w' w.heap.size ac' (gao q xs)->K1b w g h ac sc xs e w'):=by intro ac' e w' h1 h2 h3 h4;exact⟨ac',sc,h1,h2,h4.len,l2,h3,λh5=>absurd h5 (by rw[hr'];decide),λ_=>⟨rfl,by rw[<-hq];exact h4⟩⟩
  have hge:u4a h xs=gae q xs:=by unfold u4a;rw[if_neg hr,hq]
  rw[hge] at HP;obtain⟨er,her⟩:∃x,x=gae q xs:=⟨_,rfl⟩;rw[<-her] at CC HP;clear her hge hfn hF hr hr' CA CS hq l1 l2 k;go_enter Tryz.func76,Tryz.ntmps76;go_wp2_with fail;refine CR.out.mono ?_;rintro e w1 ⟨rfl,rfl⟩;go_wp2_with fail;refine CI.out.mono ?_;rintro e w1 ⟨rfl,rfl⟩;go_wp2_with fail;refine(CB.out w).mono ?_;rintro e w2 ⟨rfl,L2⟩;have B2:=hI (BH.out.over L2);have M2:=hI L2;have e2:=L2.size;clear L2 BH CB CR CI;go_wp2_with(first
   | ((with_reducible refine sN 15 ?_);refine wpList_plain rfl λK hK=>?_;go_simp;refine hK _ _ ?_;clear hK K)
   | fail)
  refine(CC.out w2 M2.out).mono ?_;rintro e w3 ⟨cs,rfl,hg,L3⟩;have B3:=hI (B2.out.over L3);have M3:=hI (step M2.out L3);have GG:=hI hg;have e3:=L3.size;have HL1:=hI hg.len;have HO1:=hI hg.one;clear hg L3 B2 M2 CC;go_wp2_with(first
   | ((with_reducible refine sT 22 ?_);refine r2a rfl _ (.tmp 22) (.tmp 19) rfl g 26 rfl _ MC cs rfl B3 69 p0a HL1 (hI (by rw[HLL.out];omega)) HO1 ?_;intro w4 B4 O4 hg4;rw[TA.out] at B4;have SV:Hid (R0a g w w4):=(R0a.of_below M3.out g).trans (R0a.of_only O4.out);have G4:Hid (GA w4 w.heap.size cs (gao q xs)):=(GG.out.mono e2).only O4.out gl)
   | fail)
  go_ret;exact HP.out cs _ _ rfl B4.out SV.out G4.out
def h9a(w:World)(g:Nat)(h:Hd)(ac sc:List Value)(xs:List Int)(e:Ending)(w':World):Prop:=∃ac' sc',e=.returned (.int .i64 (J0b h xs))/\Blk w' g 65 (q0a h++(ac'++sc'))/\R0a g w w'/\(J0b h xs=0->p0c w w' h ac sc ac' sc' (V5a h xs))
theorem M1b(w:World)(g:Nat)(h:Hd)(ac sc:List Value)(k:h.ok)(B:Blk w g 65 (q0a h++(ac++sc)))(l1:ac.length=69)(l2:sc.length=20)(A:Option Addr)(n c:Nat)(xs:List Int)(hn:h.nx=0)
(CA:e3a h.fl=false->r7b w (P5a h) A n c xs)(CS:e3a h.fl=true->o8b w (P5a h) A n c xs) :
  Calls Tryz.prog 42 #[.pointer (some ⟨g,0,none⟩),.slice A n c] w (h9a w g h ac sc xs):=by
 have CG:=hI (L1b w g h ac sc k B l1 l2 A n c xs CA CS);unfold K1b at CG;have HP:Hid (∀ac' sc' e w',e=.returned (.int .i64 (u4a h xs))->Blk w' g 65 (q0a h++(ac'++sc'))->R0a g w w'->p0c w w' h ac sc ac' sc' xs->h9a w g h ac sc xs e w'):=by intro ac' sc' e w' h1 h2 h3 h4;unfold h9a J0b V5a;rw[if_pos hn,if_pos hn];exact⟨ac',sc',h1,h2,h3,λ_=>h4⟩
 have RN:Hid (∀(w:World) ac' sc',Blk w g 65 (q0a h++(ac'++sc'))->w.cell? ⟨g,5,none⟩=some (.int .u32 0)):=λw ac' sc' b=>by rw[<-hn];exact Blk.cell b 5
 obtain⟨er,her⟩:∃x,x=u4a h xs:=⟨_,rfl⟩;rw[<-her] at CG HP;clear her hn CA CS k B;go_enter Tryz.func42,Tryz.ntmps42;go_wp2_with fail;refine CG.out.mono ?_;rintro e w1 ⟨ac',sc',rfl,hb,_,_,hs,hgm⟩;have gn:=RN.out _ _ _ hb;have HX:=hI (HP.out ac' sc' _ w1 rfl hb hs hgm);clear hb hs hgm HP CG;go_wp2;go_ret;exact HX.out
def e7a(w:World)(xs:List Int)(e:Ending)(w':World):Prop:=∃ac sc,e=.returned (.tuple #[.agg (q0a (v7a xs).h++(ac++sc)).toArray,.int .i64 (u7a xs)])/\GA w' w.heap.size ac (v7a xs).a/\GS w' w.heap.size sc (v7a xs).s/\Below w.heap.size w w'
def E0c(w:World)(h:Hd)(xs:List Int):Prop:=∀w' g A n c,Below w.heap.size w w'->Blk w' g 65 (q0a h++(zac++zsc))->Holds w' g A n c xs->Calls Tryz.prog 42 #[.pointer (some ⟨g,0,none⟩),.slice A n c] w' (h9a w' g h zac zsc xs)
theorem L8a:zac.length=69:=P1a h0a
theorem M8a:zsc.length=20:=c2a G0a
theorem O8b(w:World)(A:Option Addr)(n c:Nat)(xs:List Int)(hx:Holds w w.heap.size A n c xs)(CB:m2a xs 0=0->E0c w (Y1a xs 0) (xs.drop 64)) :
  Calls Tryz.prog 18 #[.slice A n c] w (e7a w xs):=by
 have hk:=P9a xs 0 hx.byte;have CH:Hid (∀w',Below w.heap.size w w'->Calls Tryz.prog 41 #[.slice A n c,.int .i64 0] w' λe w2=>e=.returned (.tuple #[.agg (q0a (Y1a xs 0)).toArray,.int .i64 (m2a xs 0)])/\Below w'.heap.size w' w2):=λw' hb=>l8b w' A n c xs 0 (hx.over hb) (by omega)
 have ZM:=hI v2b;have ZG:=hI c9a;have HZ:=hI X3a;have HZO:Hid (∀v∈E1a,v.oneCell'=true):=by
  intro v hv;unfold E1a at hv;rcases List.mem_append.1 hv with hv | hv
  ·exact p2a _ v hv
  ·rcases List.mem_append.1 hv with hv | hv
   ·exact B1a rfl rfl rfl v hv
   ·exact F1a rfl rfl v hv
 have BZ:=H1b;have ZH:=hI D8a;have HZH:=hI (O0a g3a);have H26:=hI (O0a hk);have HO26:=hI (p2a (Y1a xs 0));have B1:=Z6b d7a (O0a hk);have hE:Hid (∀er,u7a xs=er->er≠0->∀e w',e=.returned (.tuple #[.agg E1a.toArray,.int .i64 er])->Below w.heap.size w w'->e7a w xs e w'):=by intro er h1 h2 e w' h3 h4;unfold e7a v7a;rw[h1,if_neg h2];exact⟨zac,zsc,h3,GA.zero _ _,GS.zero _ _,h4⟩
 have HX:=hI hx;have hl:=hx.len;have hf:=hx.fit;have hrm:=hx.room;by_cases h0:m2a xs 0=0;rotate_left
 ·have HE:=hI (hE.out (m2a xs 0) (by unfold u7a;rw[if_neg h0]) h0);obtain⟨er,her⟩:∃x,x=m2a xs 0:=⟨_,rfl⟩;rw[<-her] at CH HE;have hne:(er != 0)=true:=by rw[her];simpa using h0
  obtain⟨hcs,hhc⟩:∃x,x=q0a (Y1a xs 0):=⟨_,rfl⟩;rw[<-hhc] at CH H26 HO26;obtain⟨zm,hzm⟩:∃x,x=E1a:=⟨_,rfl⟩;rw[<-hzm] at ZM HZ HZO BZ HE;obtain⟨zh,hzh⟩:∃x,x=q0a X1a:=⟨_,rfl⟩;rw[<-hzh] at ZH HZH;clear hE her h0 hhc hzm hzh CB hk B1 hx ZG;go_enter Tryz.func18,Tryz.ntmps18;go_wp2_with(first
   | ((with_reducible refine sN 2 ?_);refine a0a rfl _ rfl zm _ ZM ?_;intro g0 w1 hg1 hg2 Z1 L1)
   | fail)
  refine(CH.out w1 L1.out).mono ?_;rintro e w2 ⟨rfl,L2⟩;have Z2:=hI (Z1.out.over L2);have M2:=hI (step L1.out L2);have e2:=L2.size;clear L2 L1 Z1 CH;go_wp2_with(first
   | ((with_reducible refine sN 4 ?_);refine a0a rfl _ rfl zh _ ZH ?_;intro g3 w3 hg3 hg4 X3 L3;have M3:=hI (step M2.out L3.out);have Z3:=hI (Z2.out.over L3.out))
   | ((with_reducible refine sT 4 ?_);refine b0a rfl _ (.tmp 4) (.tmp 11) rfl g3 rfl _ zh hcs rfl X3 26 L0a HZH H26 HO26 ?_;intro w4 X4 O4 hg5;have M4:=hI (c0a M3.out O4.out (by omega));have Z4:=hI (Z3.out.only O4.out (by omega)))
   | ((with_reducible refine sN 15 ?_);refine x0a rfl _ rfl zm BZ ?_)
   | ((with_reducible refine sT 2 ?_);refine b0a rfl _ (.tmp 2) (.tmp 15) rfl g0 rfl _ zm zm rfl Z4 115 i2a HZ HZ HZO ?_;intro w5 X5 O5 hg6)
   | fail)
  refine bodyPost_ret (v:=.tuple #[.agg zm.toArray,.int .i64 er]) ?_ rfl (HE.out _ _ rfl (c0a M4.out O5.out (by omega)));exact m0a rfl _ _ g0 _ _ (0,0) _ rfl X5.out Tryz.underlying41 rfl (by rw[i2a];have:=HZ.out;simp[this]) rfl
 have hrn:64<=n:=by
  have h1:=h0;unfold m2a at h1;by_cases hp:U0a xs.length 0 64=0
  ·have:=G7a hp;omega
  ·rw[if_neg hp] at h1;exact absurd h1 hp
 have hbe:u7a xs=J0b (Y1a xs 0) (xs.drop 64):=by unfold u7a;rw[if_pos h0]
 have CB':=hI (CB h0);unfold E0c h9a at CB';rw[h0] at CH;have HQ:Hid (u7a xs=0->∀ac sc e w',e=.returned (.tuple #[.agg (q0a (Y1a xs 0)++(ac++sc)).toArray,.int .i64 0])->GA w' w.heap.size ac (gbA (Y1a xs 0) (V5a (Y1a xs 0) (xs.drop 64)))->GS w' w.heap.size sc (gbS (Y1a xs 0) (V5a (Y1a xs 0) (xs.drop 64)))->Below w.heap.size w w'->e7a w xs e w'):=by intro h1 ac sc e w' h2 h3 h4 h5;unfold e7a v7a;rw[h1,if_pos rfl];exact⟨ac,sc,h2,h3,h4,h5⟩
 have TG:Hid (∀w1 w' lo ac sc ys,lo<=w1.heap.size->p0c w1 w' (Y1a xs 0) zac zsc ac sc ys->GA w' lo ac (gbA (Y1a xs 0) ys)/\GS w' lo sc (gbS (Y1a xs 0) ys)):=by
  intro w1 w' lo ac sc ys hlo hgm;unfold gbA gbS;by_cases hr:e3a (Y1a xs 0).fl=true
  ·obtain⟨rfl,h2⟩:=hgm.1 hr;rw[if_pos hr,if_pos hr];exact⟨GA.zero _ _,h2.mono hlo⟩
  ·obtain⟨rfl,h2⟩:=hgm.2 (by simpa using hr);rw[if_neg hr,if_neg hr];exact⟨h2.mono hlo,GS.zero _ _⟩
 rw[hbe] at hE HQ;obtain⟨hh,hhe⟩:∃x,x=Y1a xs 0:=⟨_,rfl⟩;rw[<-hhe] at CH H26 HO26 B1 CB' hE HQ TG;obtain⟨er,her⟩:∃x,x=J0b hh (xs.drop 64):=⟨_,rfl⟩;rw[<-her] at CB' hE HQ;have RH:Hid (∀(w:World) g T ac sc,Blk w g T (q0a hh++(ac++sc))->w.rangeAt g 0 (q0a hh)):=λw g T ac sc b=>M0b b
 have RA:Hid (∀(w:World) g T ac sc,Blk w g T (q0a hh++(ac++sc))->w.rangeAt g 26 ac):=λw g T ac sc b=>x7a b H26.out
 have RS:Hid (∀(w:World) g T ac sc,ac.length=69->Blk w g T (q0a hh++(ac++sc))->w.rangeAt g 95 sc):=λw g T ac sc h1 b=>y7a b H26.out h1
 have HLL:Hid ((q0a hh++(zac++zsc)).length=115):=by
  show _=_
  simp only[List.length_append,H26.out,L8a,M8a]
 have HOO:Hid (∀ac sc,(∀v∈ac,v.oneCell'=true)->(∀v∈sc,v.oneCell'=true)->∀v∈q0a hh++(ac++sc),v.oneCell'=true):=by
  intro ac sc o1 o2 v hv;rcases List.mem_append.1 hv with hv | hv
  ·exact HO26.out v hv
  ·rcases List.mem_append.1 hv with hv | hv
   ·exact o1 v hv
   ·exact o2 v hv
 have HO0:Hid (∀v∈q0a hh++(zac++zsc),v.oneCell'=true):=HOO.out _ _ (B1a rfl rfl rfl) (F1a rfl rfl);have BM:Hid (∀ac sc,ac.length=69->sc.length=20->Tryz.prog.built 41 [(0,.agg (q0a hh).toArray),(1,.agg ac.toArray),(2,.agg sc.toArray)]=some (q0a hh++(ac++sc)).toArray):=λac sc h1 h2=>M8b Q6a H26.out h1 h2
 change Tryz.prog.built _ _=some (q0a hh++(zac++zsc)).toArray at B1
 obtain⟨MZ,hMZ⟩:∃x,x=q0a hh++(zac++zsc):=⟨_,rfl⟩;rw[<-hMZ] at B1 HLL HO0 CB';obtain⟨hcs,hhc⟩:∃x,x=q0a hh:=⟨_,rfl⟩;rw[<-hhc] at CH H26 HO26 B1 CB' HQ RH RA RS BM HOO;obtain⟨zm,hzm⟩:∃x,x=E1a:=⟨_,rfl⟩;rw[<-hzm] at ZM ZG HZ HZO BZ hE;obtain⟨zh,hzh⟩:∃x,x=q0a X1a:=⟨_,rfl⟩;rw[<-hzh] at ZH HZH;obtain⟨ys,hys⟩:∃x,x=xs.drop 64:=⟨_,rfl⟩;rw[<-hys] at CB' HQ;obtain⟨b,off,rfl,hbl,hcell⟩:=hx.cells (by omega);have HY:Hid (∀w' g,Below w.heap.size w w'->w.heap.size<=g->c≠64->Holds w' g (some ⟨b,off+64,none⟩) (n-64) (c-64) ys):=by intro w' g hb hg hc;have h1:=((hx.below hb).mono hg).rest (k:=64) hrn;rw[if_neg hc,<-hys] at h1;exact h1
 have HY0:Hid (∀w' g,Below w.heap.size w w'->w.heap.size<=g->c=64->Holds w' g (some ⟨b,off,none⟩) 0 0 ys):=by intro w' g hb hg hc;have h1:=((hx.below hb).mono hg).rest (k:=64) hrn;rw[if_pos hc,<-hys,show n-64=0 by omega,show c-64=0 by omega] at h1;exact h1
 clear h0 CB hk hx hMZ hhc hzm hzh hys hbe her hhe hcell HX hl;by_cases her0:er=0;rotate_left
 ·have HE:=hI (hE.out er rfl her0);have hne:(er != 0)=true:=by simpa using her0
  clear hE HQ her0 TG BM HOO RA RS RH;by_cases hc:c=64
  ·subst hc;obtain rfl:n=64:=by omega
   go_enter Tryz.func18,Tryz.ntmps18;go_wp2_with(first
    | ((with_reducible refine sN 2 ?_);refine a0a rfl _ rfl zm _ ZM ?_;intro g0 w1 hg1 hg2 Z1 L1)
    | fail)
   refine(CH.out w1 L1.out).mono ?_;rintro e w2 ⟨rfl,L2⟩;have Z2:=hI (Z1.out.over L2);have M2:=hI (step L1.out L2);have e2:=L2.size;clear L2 L1 Z1 CH;go_wp2_with(first
    | ((with_reducible refine sN 4 ?_);refine a0a rfl _ rfl zh _ ZH ?_;intro g3 w3 hg3 hg4 X3 L3;have M3:=hI (step M2.out L3.out);have Z3:=hI (Z2.out.over L3.out))
    | ((with_reducible refine sT 4 ?_);refine b0a rfl _ (.tmp 4) (.tmp 11) rfl g3 rfl _ zh hcs rfl X3 26 L0a HZH H26 HO26 ?_;intro w4 X4 O4 hg5;have M4:=hI (c0a M3.out O4.out (by omega));have Z4:=hI (Z3.out.only O4.out (by omega)))
    | ((with_reducible refine sN 17 ?_);refine f0a rfl _ (.tmp 4) rfl g3 rfl _ hcs X4 26 _ Tryz.underlying28 rfl L0a H26 ?_)
    | ((with_reducible refine sN 18 ?_);refine k0a rfl _ _ rfl MZ (by refine Eq.trans ?_ B1;kernel_rfl) ?_)
    | ((with_reducible refine sN 6 ?_);refine a0a rfl _ rfl zm _ ZG ?_;intro g w5 hg6 hg7 X5 L5;have M5:=hI (step M4.out L5.out);have Z5:=hI (Z4.out.over L5.out))
    | ((with_reducible refine sT 6 ?_);refine b0a rfl _ (.tmp 6) (.tmp 18) rfl g rfl _ zm MZ rfl X5 115 O2a HZ HLL HO0 ?_;intro w6 B6 O6 hg8;have e6:=O4.out.size;have M6:=hI (c0a M5.out O6.out (by omega));have Z6:=hI (Z5.out.only O6.out (by omega)))
    | fail)
   refine(CB'.out w6 g _ _ _ M6.out B6.out (HY0.out w6 g M6.out (by omega) (by trivial))).mono ?_;rintro e w7 ⟨ac,sc,rfl,hb7,hs7,hg7m⟩;have M7:=hI (M6.out.trans (hs7.below (by omega) M6.out.size));have Z7:=hI (Z6.out.save hs7 (by omega));clear hb7 hs7 hg7m X3 L3 X4 O4 X5 L5 B6 O6 M3 M4 M5 M6 Z2 Z3 Z4 Z5 Z6;go_wp2_with(first
    | ((with_reducible refine sN 24 ?_);refine x0a rfl _ rfl zm BZ ?_)
    | ((with_reducible refine sT 2 ?_);refine b0a rfl _ (.tmp 2) (.tmp 24) rfl g0 rfl _ zm zm rfl Z7 115 i2a HZ HZ HZO ?_;intro w8 X8 O8 hg9)
    | fail)
   refine bodyPost_ret (v:=.tuple #[.agg zm.toArray,.int .i64 er]) ?_ rfl (HE.out _ _ rfl (c0a M7.out O8.out (by omega)));exact m0a rfl _ _ g0 _ _ (0,0) _ rfl X8.out Tryz.underlying41 rfl (by rw[i2a];have:=HZ.out;simp[this]) rfl
  ·have hc1:¬((c:Int)=64):=by omega
   have hc2:(64:Int)<=(n:Int):=by omega
   have hc3:¬(c-64=0):=by omega
   go_enter Tryz.func18,Tryz.ntmps18;go_wp2_with(first
    | ((with_reducible refine sN 2 ?_);refine a0a rfl _ rfl zm _ ZM ?_;intro g0 w1 hg1 hg2 Z1 L1)
    | fail)
   refine(CH.out w1 L1.out).mono ?_;rintro e w2 ⟨rfl,L2⟩;have Z2:=hI (Z1.out.over L2);have M2:=hI (step L1.out L2);have e2:=L2.size;clear L2 L1 Z1 CH;go_wp2_with(first
    | ((with_reducible refine sN 4 ?_);refine a0a rfl _ rfl zh _ ZH ?_;intro g3 w3 hg3 hg4 X3 L3;have M3:=hI (step M2.out L3.out);have Z3:=hI (Z2.out.over L3.out))
    | ((with_reducible refine sT 4 ?_);refine b0a rfl _ (.tmp 4) (.tmp 11) rfl g3 rfl _ zh hcs rfl X3 26 L0a HZH H26 HO26 ?_;intro w4 X4 O4 hg5;have M4:=hI (c0a M3.out O4.out (by omega));have Z4:=hI (Z3.out.only O4.out (by omega)))
    | ((with_reducible refine sN 17 ?_);refine f0a rfl _ (.tmp 4) rfl g3 rfl _ hcs X4 26 _ Tryz.underlying28 rfl L0a H26 ?_)
    | ((with_reducible refine sN 18 ?_);refine k0a rfl _ _ rfl MZ (by refine Eq.trans ?_ B1;kernel_rfl) ?_)
    | ((with_reducible refine sN 6 ?_);refine a0a rfl _ rfl zm _ ZG ?_;intro g w5 hg6 hg7 X5 L5;have M5:=hI (step M4.out L5.out);have Z5:=hI (Z4.out.over L5.out))
    | ((with_reducible refine sT 6 ?_);refine b0a rfl _ (.tmp 6) (.tmp 18) rfl g rfl _ zm MZ rfl X5 115 O2a HZ HLL HO0 ?_;intro w6 B6 O6 hg8;have e6:=O4.out.size;have M6:=hI (c0a M5.out O6.out (by omega));have Z6:=hI (Z5.out.only O6.out (by omega)))
    | fail)
   refine(CB'.out w6 g _ _ _ M6.out B6.out (HY.out w6 g M6.out (by omega) hc)).mono ?_;rintro e w7 ⟨ac,sc,rfl,hb7,hs7,hg7m⟩;have M7:=hI (M6.out.trans (hs7.below (by omega) M6.out.size));have Z7:=hI (Z6.out.save hs7 (by omega));clear hb7 hs7 hg7m X3 L3 X4 O4 X5 L5 B6 O6 M3 M4 M5 M6 Z2 Z3 Z4 Z5 Z6;go_wp2_with(first
    | ((with_reducible refine sN 24 ?_);refine x0a rfl _ rfl zm BZ ?_)
    | ((with_reducible refine sT 2 ?_);refine b0a rfl _ (.tmp 2) (.tmp 24) rfl g0 rfl _ zm zm rfl Z7 115 i2a HZ HZ HZO ?_;intro w8 X8 O8 hg9)
    | fail)
   refine bodyPost_ret (v:=.tuple #[.agg zm.toArray,.int .i64 er]) ?_ rfl (HE.out _ _ rfl (c0a M7.out O8.out (by omega)));exact m0a rfl _ _ g0 _ _ (0,0) _ rfl X8.out Tryz.underlying41 rfl (by rw[i2a];have:=HZ.out;simp[this]) rfl
 subst her0;have HQ2:=hI (HQ.out rfl);clear hE HQ;by_cases hc:c=64
 ·subst hc;obtain rfl:n=64:=by omega
  go_enter Tryz.func18,Tryz.ntmps18;go_wp2_with(first
   | ((with_reducible refine sN 2 ?_);refine a0a rfl _ rfl zm _ ZM ?_;intro g0 w1 hg1 hg2 Z1 L1)
   | fail)
  refine(CH.out w1 L1.out).mono ?_;rintro e w2 ⟨rfl,L2⟩;have Z2:=hI (Z1.out.over L2);have M2:=hI (step L1.out L2);have e2:=L2.size;clear L2 L1 Z1 CH;go_wp2_with(first
   | ((with_reducible refine sN 4 ?_);refine a0a rfl _ rfl zh _ ZH ?_;intro g3 w3 hg3 hg4 X3 L3;have M3:=hI (step M2.out L3.out);have Z3:=hI (Z2.out.over L3.out))
   | ((with_reducible refine sT 4 ?_);refine b0a rfl _ (.tmp 4) (.tmp 11) rfl g3 rfl _ zh hcs rfl X3 26 L0a HZH H26 HO26 ?_;intro w4 X4 O4 hg5;have M4:=hI (c0a M3.out O4.out (by omega));have Z4:=hI (Z3.out.only O4.out (by omega)))
   | ((with_reducible refine sN 17 ?_);refine f0a rfl _ (.tmp 4) rfl g3 rfl _ hcs X4 26 _ Tryz.underlying28 rfl L0a H26 ?_)
   | ((with_reducible refine sN 18 ?_);refine k0a rfl _ _ rfl MZ (by refine Eq.trans ?_ B1;kernel_rfl) ?_)
   | ((with_reducible refine sN 6 ?_);refine a0a rfl _ rfl zm _ ZG ?_;intro g w5 hg6 hg7 X5 L5;have M5:=hI (step M4.out L5.out);have Z5:=hI (Z4.out.over L5.out))
   | ((with_reducible refine sT 6 ?_);refine b0a rfl _ (.tmp 6) (.tmp 18) rfl g rfl _ zm MZ rfl X5 115 O2a HZ HLL HO0 ?_;intro w6 B6 O6 hg8;have e6:=O4.out.size;have M6:=hI (c0a M5.out O6.out (by omega));have Z6:=hI (Z5.out.only O6.out (by omega)))
   | fail)
  refine(CB'.out w6 g _ _ _ M6.out B6.out (HY0.out w6 g M6.out (by omega) (by trivial))).mono ?_;rintro e w7 ⟨ac,sc,rfl,hb7,hs7,hg7m⟩;have M7:=hI (M6.out.trans (hs7.below (by omega) M6.out.size));have Z7:=hI (Z6.out.save hs7 (by omega));obtain⟨ga,gs⟩:=TG.out w6 w7 _ ac sc _ (Nat.le_refl _) (hg7m (by trivial));have e60:g0<w6.heap.size:=Z6.out.lt;have B7:=hI hb7;have HA7:=hI ga.len;have HS7:=hI gs.len;have BB:=BM.out ac sc HA7.out HS7.out;have HL7:Hid ((hcs++(ac++sc)).length=115):=by
   show _=_
   simp only[List.length_append,H26.out,HA7.out,HS7.out]
  have HO7:=hI (HOO.out ac sc ga.one gs.one);have ga7:=hI ga;have gs7:=hI gs;have RA7:=hI (RA.out _ _ _ _ _ hb7);have RH7:=hI (RH.out _ _ _ _ _ hb7);have RS7:=hI (RS.out _ _ _ _ _ HA7.out hb7);obtain⟨MF,hMF⟩:∃x,x=hcs++(ac++sc):=⟨_,rfl⟩;rw[<-hMF] at BB HL7 HO7;have HMF:=hI hMF;clear hMF hb7 hs7 hg7m ga gs X3 L3 X4 O4 X5 L5 B6 O6 M3 M4 M5 Z2 Z3 Z4 Z5 Z6 B7;go_wp2_with(first
   | ((with_reducible refine sN 27 ?_);refine u0a rfl _ (.tmp 26) rfl g 0 rfl hcs _ RH7 Tryz.underlying28 rfl 26 L0a H26 ?_)
   | ((with_reducible refine sN 29 ?_);refine u0a rfl _ (.tmp 28) rfl g 26 rfl ac _ RA7 Tryz.underlying34 rfl 69 p0a HA7 ?_)
   | ((with_reducible refine sN 31 ?_);refine u0a rfl _ (.tmp 30) rfl g 95 rfl sc _ RS7 Tryz.underlying39 rfl 20 t0a HS7 ?_)
   | ((with_reducible refine sN 32 ?_);refine k0a rfl _ _ rfl MF (by refine Eq.trans ?_ BB;kernel_rfl) ?_)
   | ((with_reducible refine sT 2 ?_);refine b0a rfl _ (.tmp 2) (.tmp 32) rfl g0 rfl _ zm MF rfl Z7 115 i2a HZ HL7 HO7 ?_;intro w8 X8 O8 hg9)
   | fail)
  refine bodyPost_ret (v:=.tuple #[.agg MF.toArray,.int .i64 0]) ?_ rfl (HQ2.out _ _ _ _ (by rw[HMF.out]) ((ga7.out.only O8.out e60).mono M6.out.size) ((gs7.out.only O8.out e60).mono M6.out.size) (c0a M7.out O8.out (by omega)));exact m0a rfl _ _ g0 _ _ (0,0) _ rfl X8.out Tryz.underlying41 rfl (by rw[i2a];have:=HL7.out;simp[this]) rfl
 ·have hc1:¬((c:Int)=64):=by omega
  have hc2:(64:Int)<=(n:Int):=by omega
  have hc3:¬(c-64=0):=by omega
  go_enter Tryz.func18,Tryz.ntmps18;go_wp2_with(first
   | ((with_reducible refine sN 2 ?_);refine a0a rfl _ rfl zm _ ZM ?_;intro g0 w1 hg1 hg2 Z1 L1)
   | fail)
  refine(CH.out w1 L1.out).mono ?_;rintro e w2 ⟨rfl,L2⟩;have Z2:=hI (Z1.out.over L2);have M2:=hI (step L1.out L2);have e2:=L2.size;clear L2 L1 Z1 CH;go_wp2_with(first
   | ((with_reducible refine sN 4 ?_);refine a0a rfl _ rfl zh _ ZH ?_;intro g3 w3 hg3 hg4 X3 L3;have M3:=hI (step M2.out L3.out);have Z3:=hI (Z2.out.over L3.out))
   | ((with_reducible refine sT 4 ?_);refine b0a rfl _ (.tmp 4) (.tmp 11) rfl g3 rfl _ zh hcs rfl X3 26 L0a HZH H26 HO26 ?_;intro w4 X4 O4 hg5;have M4:=hI (c0a M3.out O4.out (by omega));have Z4:=hI (Z3.out.only O4.out (by omega)))
   | ((with_reducible refine sN 17 ?_);refine f0a rfl _ (.tmp 4) rfl g3 rfl _ hcs X4 26 _ Tryz.underlying28 rfl L0a H26 ?_)
   | ((with_reducible refine sN 18 ?_);refine k0a rfl _ _ rfl MZ (by refine Eq.trans ?_ B1;kernel_rfl) ?_)
   | ((with_reducible refine sN 6 ?_);refine a0a rfl _ rfl zm _ ZG ?_;intro g w5 hg6 hg7 X5 L5;have M5:=hI (step M4.out L5.out);have Z5:=hI (Z4.out.over L5.out))
   | ((with_reducible refine sT 6 ?_);refine b0a rfl _ (.tmp 6) (.tmp 18) rfl g rfl _ zm MZ rfl X5 115 O2a HZ HLL HO0 ?_;intro w6 B6 O6 hg8;have e6:=O4.out.size;have M6:=hI (c0a M5.out O6.out (by omega));have Z6:=hI (Z5.out.only O6.out (by omega)))
   | fail)
  refine(CB'.out w6 g _ _ _ M6.out B6.out (HY.out w6 g M6.out (by omega) hc)).mono ?_;rintro e w7 ⟨ac,sc,rfl,hb7,hs7,hg7m⟩;have M7:=hI (M6.out.trans (hs7.below (by omega) M6.out.size));have Z7:=hI (Z6.out.save hs7 (by omega));obtain⟨ga,gs⟩:=TG.out w6 w7 _ ac sc _ (Nat.le_refl _) (hg7m (by trivial));have e60:g0<w6.heap.size:=Z6.out.lt;have B7:=hI hb7;have HA7:=hI ga.len;have HS7:=hI gs.len;have BB:=BM.out ac sc HA7.out HS7.out;have HL7:Hid ((hcs++(ac++sc)).length=115):=by
   show _=_
   simp only[List.length_append,H26.out,HA7.out,HS7.out]
  have HO7:=hI (HOO.out ac sc ga.one gs.one);have ga7:=hI ga;have gs7:=hI gs;have RA7:=hI (RA.out _ _ _ _ _ hb7);have RH7:=hI (RH.out _ _ _ _ _ hb7);have RS7:=hI (RS.out _ _ _ _ _ HA7.out hb7);obtain⟨MF,hMF⟩:∃x,x=hcs++(ac++sc):=⟨_,rfl⟩;rw[<-hMF] at BB HL7 HO7;have HMF:=hI hMF;clear hMF hb7 hs7 hg7m ga gs X3 L3 X4 O4 X5 L5 B6 O6 M3 M4 M5 Z2 Z3 Z4 Z5 Z6 B7;go_wp2_with(first
   | ((with_reducible refine sN 27 ?_);refine u0a rfl _ (.tmp 26) rfl g 0 rfl hcs _ RH7 Tryz.underlying28 rfl 26 L0a H26 ?_)
   | ((with_reducible refine sN 29 ?_);refine u0a rfl _ (.tmp 28) rfl g 26 rfl ac _ RA7 Tryz.underlying34 rfl 69 p0a HA7 ?_)
   | ((with_reducible refine sN 31 ?_);refine u0a rfl _ (.tmp 30) rfl g 95 rfl sc _ RS7 Tryz.underlying39 rfl 20 t0a HS7 ?_)
   | ((with_reducible refine sN 32 ?_);refine k0a rfl _ _ rfl MF (by refine Eq.trans ?_ BB;kernel_rfl) ?_)
   | ((with_reducible refine sT 2 ?_);refine b0a rfl _ (.tmp 2) (.tmp 32) rfl g0 rfl _ zm MF rfl Z7 115 i2a HZ HL7 HO7 ?_;intro w8 X8 O8 hg9)
   | fail)
  refine bodyPost_ret (v:=.tuple #[.agg MF.toArray,.int .i64 0]) ?_ rfl (HQ2.out _ _ _ _ (by rw[HMF.out]) ((ga7.out.only O8.out e60).mono M6.out.size) ((gs7.out.only O8.out e60).mono M6.out.size) (c0a M7.out O8.out (by omega)));exact m0a rfl _ _ g0 _ _ (0,0) _ rfl X8.out Tryz.underlying41 rfl (by rw[i2a];have:=HL7.out;simp[this]) rfl
theorem t3b(c:Int)(a:z1a):n2a c a=j0a↔I5b c a=a:=by
 obtain⟨a1,a2,a3,a4,a5,a6,a7,a8,a9,a10,a11,a12,a13,a14,a15,a16,a17,a18,a19,a20,a21,a22,a23⟩:=a;unfold n2a I5b;split
 ·simp only[j0a,z1a.mk.injEq];constructor<;>(intro h;obtain⟨h1,h2,h3,h4,h5,h6,h7,h8,h9,h10,h11,h12,h13,h14,h15,h16,h17,h18,h19,h20,h21,h22,h23⟩:=h;subst_vars;simp)
 ·split
  ·simp only[j0a,z1a.mk.injEq];constructor<;>(intro h;obtain⟨h1,h2,h3,h4,h5,h6,h7,h8,h9,h10,h11,h12,h13,h14,h15,h16,h17,h18,h19,h20,h21,h22,h23⟩:=h;subst_vars;simp)
  ·split
   ·split
    ·simp only[j0a,z1a.mk.injEq];constructor<;>(intro h;obtain⟨h1,h2,h3,h4,h5,h6,h7,h8,h9,h10,h11,h12,h13,h14,h15,h16,h17,h18,h19,h20,h21,h22,h23⟩:=h;subst_vars;simp)
    ·split
     ·simp only[j0a,z1a.mk.injEq];constructor<;>(intro h;obtain⟨h1,h2,h3,h4,h5,h6,h7,h8,h9,h10,h11,h12,h13,h14,h15,h16,h17,h18,h19,h20,h21,h22,h23⟩:=h;subst_vars;simp)
     ·simp only[j0a,z1a.mk.injEq];constructor<;>(intro h;obtain⟨h1,h2,h3,h4,h5,h6,h7,h8,h9,h10,h11,h12,h13,h14,h15,h16,h17,h18,h19,h20,h21,h22,h23⟩:=h;subst_vars;simp)
   ·split
    ·simp only[j0a,z1a.mk.injEq];constructor<;>(intro h;obtain⟨h1,h2,h3,h4,h5,h6,h7,h8,h9,h10,h11,h12,h13,h14,h15,h16,h17,h18,h19,h20,h21,h22,h23⟩:=h;subst_vars;simp)
    ·exact eq_comm
theorem n8a(c:Int)(s:W1a):T2a c s=s0a↔U4b c s=s:=by
 obtain⟨a1,a2,a3,a4,a5,a6,a7,a8,a9,a10,a11,a12,a13⟩:=s;unfold T2a U4b;split
 ·simp only[s0a,W1a.mk.injEq];constructor<;>(intro h;obtain⟨h1,h2,h3,h4,h5,h6,h7,h8,h9,h10,h11,h12,h13⟩:=h;subst_vars;simp)
 ·split
  ·simp only[s0a,W1a.mk.injEq];constructor<;>(intro h;obtain⟨h1,h2,h3,h4,h5,h6,h7,h8,h9,h10,h11,h12,h13⟩:=h;subst_vars;simp)
  ·split
   ·simp only[s0a,W1a.mk.injEq];constructor<;>(intro h;obtain⟨h1,h2,h3,h4,h5,h6,h7,h8,h9,h10,h11,h12,h13⟩:=h;subst_vars;simp)
   ·exact eq_comm
theorem X4b{c:Int}{s:W1a}(h:N4a c s=0):f5a c=true/\U4b c s=s/\s.kind<=2/\s.ents.all v3a=true/\s.ents.length<=64/\(c=14->x1a s.ents=0)/\n3b c s=p5a c s:=by
 have h0:=h;unfold N4a at h;by_cases h1:w3a c s=true/\s.kind<=2/\s.ents.all v3a=true
 ·rw[if_pos h1] at h;by_cases h2:s.ents.length<=64
  ·rw[if_pos h2] at h;obtain⟨h3,h4,h5⟩:=h1;unfold w3a at h3;simp only[Bool.and_eq_true,decide_eq_true_eq] at h3;exact⟨h3.1,(n8a c s).1 h3.2,h4,h5,h2,λhc=>by rw[if_pos hc] at h;exact h,by unfold n3b;rw[if_pos h0]⟩
  ·rw[if_neg h2] at h;exact absurd h (by decide)
 ·rw[if_neg h1] at h;exact absurd h (by decide)
theorem p8b{c:Int}{a:z1a}(k:a.ok):Bytes (E2b c a):=by
 unfold E2b;split
 ·unfold U5a;split
  ·exact(F0a _ _).append ((F0a _ _).append ((Bytes.zeros 2).append ((S1a _).append (S1a _))))
  ·split
   ·exact F0a _ _
   ·split
    ·split
     ·exact(F0a _ _).append ((F0a _ _).append (F0a _ _))
     ·split
      ·exact(F0a _ _).append ((F0a _ _).append (F0a _ _))
      ·exact(F0a _ _).append ((F0a _ _).append ((F0a _ _).append (S1a _)))
    ·split
     ·exact(F0a _ _).append ((F0a _ _).append (Bytes.zeros 3))
     ·exact Bytes.zeros 4
 ·exact Bytes.nil
theorem q0c{c:Int}{a:z1a}:(E2b c a).length<=70000:=by
 have h1:=c3a a.pat.data.toList;have h2:=c3a a.aft.data.toList;have h3:=c3a a.name.data.toList;unfold E2b;split
 ·unfold U5a;repeat' split
  all_goals (simp only[List.length_append,w0a,List.length_replicate];omega)
 ·simp
theorem q8b{c:Int}{a:W1a}(k:a.ok):Bytes (n3b c a):=by
 unfold n3b;split
 ·unfold p5a;split
  ·exact(F0a _ _).append ((F0a _ _).append (f1b _))
  ·split
   ·exact(F0a _ _).append ((F0a _ _).append (F0a _ _))
   ·split
    ·exact(F0a _ _).append ((F0a _ _).append (Bytes.zeros 3))
    ·exact Bytes.zeros 4
 ·exact Bytes.nil
theorem r0c{c:Int}{a:W1a}:(n3b c a).length<=70000:=by
 unfold n3b;split
 ·rename_i he;obtain⟨_,_,_,_,hl,_,_⟩:=X4b he;have h1:=I0b a.ents;unfold p5a;repeat' split
  all_goals (simp only[List.length_append,w0a,List.length_replicate];omega)
 ·simp
theorem S6a{xs:List Int}{r:Rd}(hx:Bytes xs)(h:(rdT xs r).2.e=0):r.e=0/\xs.take (rdT xs r).2.p=xs.take r.p++le (n1a ((rdT xs r).1 != 0)) 2:=by obtain⟨m1,m2,m3⟩:=o5a hx (by decide) (show(a1a xs 2 1 5 r).2.e=0 from h);obtain⟨q1,q2⟩:=K8b hx r;refine⟨m1,?_⟩;rw[R6b q1 q2];exact m3
theorem u3b{xs:List Int}{r:Rd}(hx:Bytes xs)(h:(rdK xs r).2.e=0):r.e=0/\xs.take (rdK xs r).2.p=xs.take r.p++le (rdK xs r).1 2:=by obtain⟨m1,m2,m3⟩:=o5a hx (by decide) (show(a1a xs 2 2 5 r).2.e=0 from h);exact⟨m1,m3⟩
theorem r8b{xs:List Int}{r:Rd}(hx:Bytes xs)(h:(H4a xs r).2.e=0):r.e=0/\B0a (H4a xs r).1.name.data.toList=0/\xs.take (H4a xs r).2.p=xs.take r.p++D1b (H4a xs r).1:=by
 obtain⟨t1,t2,t3⟩:=B6a hx (show(I1a xs (e3 xs r).2).2.e=0 from h);obtain⟨a1,a2,a3⟩:=o5a hx (by decide) (show(a1a xs 8 1048576 5 (e2 xs r)).2.e=0 from t1);obtain⟨z1,z2⟩:=n5a (show(rdZ xs 2 (e1 xs r).2).e=0 from a1);obtain⟨d1,d2⟩:=u3b hx (show(rdK xs r).2.e=0 from z1);refine⟨d1,t2,?_⟩;show xs.take (I1a xs (e3 xs r).2).2.p=xs.take r.p++(le (rdK xs r).1 2++(List.replicate 2 0++(le (a1a xs 8 1048576 5 (e2 xs r)).1 8++N0a (I1a xs (e3 xs r).2).1)))
 rw[t3];show xs.take (a1a xs 8 1048576 5 (e2 xs r)).2.p++_=_
 rw[a3];show xs.take (rdZ xs 2 (e1 xs r).2).p++_++_=_
 rw[z2];show xs.take (rdK xs r).2.p++_++_++_=_
 rw[d2];simp only[List.append_assoc]
theorem v3b{xs:List Int}{r:Rd}(hx:Bytes xs):∀k,(f2a xs r k).2.e=0->r.e=0/\x1a (f2a xs r k).1=0/\xs.take (f2a xs r k).2.p=xs.take r.p++t1a (f2a xs r k).1
 | 0,h=>⟨h,rfl,by show xs.take r.p=xs.take r.p++[];rw[List.append_nil]⟩
 | k+1,h=>by
  have h':(H4a xs (f2a xs r k).2).2.e=0:=h;obtain⟨l1,l2,l3⟩:=r8b hx h';obtain⟨i1,i2,i3⟩:=v3b hx k l1;refine⟨i1,?_,?_⟩
  ·show x1a ((f2a xs r k).1++[(H4a xs (f2a xs r k).2).1])=0
   rw[H0b,if_pos i2];show(if B0a (H4a xs (f2a xs r k).2).1.name.data.toList=0 then x1a [] else _)=0
   rw[if_pos l2];rfl
  ·show xs.take (H4a xs (f2a xs r k).2).2.p=xs.take r.p++t1a ((f2a xs r k).1++[(H4a xs (f2a xs r k).2).1])
   rw[l3,i3,b9a,List.append_assoc];simp only[t1a,List.append_nil]
theorem b2'{xs:List Int}(hx:Bytes xs)(r:Rd):0<=(rdN xs 2 r).1/\(rdN xs 2 r).1<=65535:=by have:=n4a hx 2 r 65536 (by decide) (by decide);exact⟨this.1,by omega⟩
theorem s7b(c:Int){xs:List Int}(hx:Bytes xs)(h:k4a c xs=0):G4a c (Y5a c xs)=0/\E2b c (Y5a c xs)=xs/\(Y5a c xs).ok:=by
 have e0:Y5a c xs=(igP c xs).1:=by unfold Y5a;rw[if_pos h]
 unfold k4a at h;by_cases hk:k8a c=true;rotate_left
 ·rw[if_neg hk] at h;exact absurd h (by decide)
 rw[if_pos hk] at h;obtain⟨h1,h2⟩:=V3a h;rw[e0];have key:∀a:z1a,I5b c a=a->(c=17->1<=a.cls/\a.cls<=3)->(c=14->B0a a.pat.data.toList=0/\B0a a.aft.data.toList=0)->(c=17->a.cls=3->B0a a.name.data.toList=0)->a.ok->U5a c a=xs->G4a c a=0/\E2b c a=xs/\a.ok:=by
  intro a w1 w2 w3 w4 w6 w7;have hn:W3a c a=true:=by
   unfold W3a a9a;rw[hk,(t3b c a).2 w1];by_cases h17:c=17
   ·obtain⟨q1,q2⟩:=w2 h17;simp[q1,q2]
   ·simp[h17]
  have e:G4a c a=0:=by
   unfold G4a;rw[if_pos hn];split
   ·rename_i h14;rw[if_pos (w3 h14).1];exact(w3 h14).2
   ·split
    ·rename_i h17;exact w4 h17.1 h17.2
    ·rfl
  exact⟨e,by unfold E2b;rw[if_pos e];exact w7,w6⟩
 have zd:=h0a;unfold igP at h1 h2⊢;rcases W4a hk with k | k | k | k | k
 ·subst k;simp only[show ¬((12:Int)=14) by decide,show ¬((12:Int)=16) by decide,show ¬((12:Int)=17) by decide,show ¬((12:Int)=18) by decide,if_false] at h1 h2⊢;obtain⟨u1,v1⟩:=n5a h1;exact key _ rfl (λh=>absurd h (by decide)) (λh=>absurd h (by decide)) (λh=>absurd h (by decide)) zd (whole (r:=rdZ xs 4 rd0) v1 h2)
 ·subst k;simp only[if_true] at h1 h2⊢;obtain⟨u5,w5,v5⟩:=B6a hx h1;obtain⟨u4,w4,v4⟩:=B6a hx u5;obtain⟨u3,v3⟩:=n5a u4;obtain⟨u2,v2⟩:=V1a hx u3;obtain⟨u1,v1⟩:=V1a hx u2;refine key _ rfl (λh=>absurd h (by decide)) (λ_=>⟨w4,w5⟩) (λh=>absurd h (by decide)) ⟨zd.dial,zd.glen,zd.gbyte,zd.plen,zd.pbyte,zd.acc,zd.shr,zd.way,zd.opt,zd.lev,zd.dur,b8 hx _,zd.at_,zd.n,zd.data,zd.locks,b2' hx _,zd.cls,zd.siz⟩ ?_;refine whole (r:=(l5 xs).2) ?_ h2;show xs.take (I1a xs (l4 xs).2).2.p=le (l1 xs).1 8++(le (l2 xs).1 2++(List.replicate 2 0++(N0a (I1a xs (l3 xs)).1++N0a (I1a xs (l4 xs).2).1)))
  rw[v5];show xs.take (I1a xs (l3 xs)).2.p++_=_
  rw[v4];show xs.take (rdZ xs 2 (l2 xs).2).p++_++_=_
  rw[v3];show xs.take (rdN xs 2 (l1 xs).2).2.p++_++_++_=_
  rw[v2];show xs.take (rdN xs 8 rd0).2.p++_++_++_++_=_
  rw[v1,show xs.take rd0.p=[] from rfl,List.nil_append];simp only[List.append_assoc];rfl
 ·subst k;simp only[show ¬((16:Int)=14) by decide,if_true,if_false] at h1 h2⊢;obtain⟨u1,v1⟩:=V1a hx h1;refine key _ rfl (λh=>absurd h (by decide)) (λh=>absurd h (by decide)) (λh=>absurd h (by decide)) ⟨zd.dial,zd.glen,zd.gbyte,zd.plen,zd.pbyte,zd.acc,zd.shr,zd.way,zd.opt,zd.lev,zd.dur,b8 hx _,zd.at_,zd.n,zd.data,zd.locks,zd.most,zd.cls,zd.siz⟩ ?_;exact whole (r:=(l1 xs).2) v1 h2
 ·subst k;simp only[show ¬((17:Int)=14) by decide,show ¬((17:Int)=16) by decide,if_true,if_false] at h1 h2⊢;have start:(l2 xs).2.e=0->xs.take (l2 xs).2.p=le (l1 xs).1 8++le (l2 xs).1 2:=by
   intro u;obtain⟨u2,v2⟩:=V1a hx u;obtain⟨u1,v1⟩:=V1a hx u2;show xs.take (rdN xs 2 (l1 xs).2).2.p=_
   rw[v2];show xs.take (rdN xs 8 rd0).2.p++_=_
   rw[v1,show xs.take rd0.p=[] from rfl,List.nil_append];rfl
  by_cases c1:(l2 xs).1=1
  ·simp only[if_pos c1] at h1 h2⊢;obtain⟨u3,v3⟩:=V1a hx h1;have v2:=start u3;refine key _ ?_ (λ_=>?_) (λh=>absurd h (by decide)) (λ_ h3=>?_) ⟨zd.dial,zd.glen,zd.gbyte,zd.plen,zd.pbyte,zd.acc,zd.shr,zd.way,zd.opt,zd.lev,zd.dur,b8 hx _,zd.at_,zd.n,zd.data,zd.locks,zd.most,b2' hx _,b8 hx _⟩ ?_
   ·unfold I5b;rw[if_neg (by decide),if_neg (by decide),if_pos rfl];show(if (l2 xs).1=1 then _ else _)=_
    rw[if_pos c1]
   ·show 1<=(l2 xs).1/\(l2 xs).1<=3
    omega
   ·have h4:(l2 xs).1=3:=h3;omega
   ·refine whole (r:=(t3 xs).2) ?_ h2;show xs.take (rdN xs 8 (l2 xs).2).2.p=if (l2 xs).1=1 then le (l1 xs).1 8++(le (l2 xs).1 2++le (rdN xs 8 (l2 xs).2).1 8) else _
    rw[if_pos c1,v3,v2];simp only[List.append_assoc]
  ·by_cases c2:(l2 xs).1=2
   ·simp only[if_neg c1,if_pos c2] at h1 h2⊢;obtain⟨u3,v3⟩:=S6a hx h1;have v2:=start u3;refine key _ ?_ (λ_=>?_) (λh=>absurd h (by decide)) (λ_ h3=>?_) ⟨zd.dial,zd.glen,zd.gbyte,zd.plen,zd.pbyte,zd.acc,zd.shr,zd.way,zd.opt,zd.lev,zd.dur,b8 hx _,zd.at_,zd.n,zd.data,zd.locks,zd.most,b2' hx _,zd.siz⟩ ?_
    ·unfold I5b;rw[if_neg (by decide),if_neg (by decide),if_pos rfl];show(if (l2 xs).1=1 then _ else if (l2 xs).1=2 then _ else _)=_
     rw[if_neg c1,if_pos c2]
    ·show 1<=(l2 xs).1/\(l2 xs).1<=3
     omega
    ·have h4:(l2 xs).1=3:=h3;omega
    ·refine whole (r:=(t4 xs).2) ?_ h2;show xs.take (rdT xs (l2 xs).2).2.p=if (l2 xs).1=1 then _ else if (l2 xs).1=2 then le (l1 xs).1 8++(le (l2 xs).1 2++le (n1a ((rdT xs (l2 xs).2).1 != 0)) 2) else _
     rw[if_neg c1,if_pos c2,v3,v2];simp only[List.append_assoc]
   ·by_cases c3:(l2 xs).1=3
    ·simp only[if_neg c1,if_neg c2,if_pos c3] at h1 h2⊢;obtain⟨u4,w4,v4⟩:=B6a hx h1;obtain⟨u3,v3⟩:=S6a hx u4;have v2:=start u3;refine key _ ?_ (λ_=>?_) (λh=>absurd h (by decide)) (λ_ h3=>?_) ⟨zd.dial,zd.glen,zd.gbyte,zd.plen,zd.pbyte,zd.acc,zd.shr,zd.way,zd.opt,zd.lev,zd.dur,b8 hx _,zd.at_,zd.n,zd.data,zd.locks,zd.most,b2' hx _,zd.siz⟩ ?_
     ·unfold I5b;rw[if_neg (by decide),if_neg (by decide),if_pos rfl];show(if (l2 xs).1=1 then _ else if (l2 xs).1=2 then _ else _)=_
      rw[if_neg c1,if_neg c2]
     ·show 1<=(l2 xs).1/\(l2 xs).1<=3
      omega
     ·exact w4
     ·refine whole (r:=(t5 xs).2) ?_ h2;show xs.take (I1a xs (t4 xs).2).2.p=if (l2 xs).1=1 then _ else if (l2 xs).1=2 then _ else le (l1 xs).1 8++(le (l2 xs).1 2++(le (n1a ((rdT xs (l2 xs).2).1 != 0)) 2++N0a (I1a xs (t4 xs).2).1))
      rw[if_neg c1,if_neg c2,v4];show xs.take (rdT xs (l2 xs).2).2.p++_=_
      rw[v3,v2];simp only[List.append_assoc]
    ·simp only[if_neg c1,if_neg c2,if_neg c3] at h1 h2⊢;unfold N2a at h1;split at h1
     ·exact absurd h1 (show ¬(5:Int)=0 by decide)
     ·rename_i hne;exact absurd h1 hne
 ·subst k;simp only[show ¬((18:Int)=14) by decide,show ¬((18:Int)=16) by decide,show ¬((18:Int)=17) by decide,if_true,if_false] at h1 h2⊢;obtain⟨u3,v3⟩:=n5a h1;obtain⟨u2,v2⟩:=V1a hx u3;obtain⟨u1,v1⟩:=V1a hx u2;refine key _ rfl (λh=>absurd h (by decide)) (λh=>absurd h (by decide)) (λh=>absurd h (by decide)) ⟨zd.dial,zd.glen,zd.gbyte,zd.plen,zd.pbyte,zd.acc,zd.shr,zd.way,zd.opt,b1' hx _,zd.dur,b8 hx _,zd.at_,zd.n,zd.data,zd.locks,zd.most,zd.cls,zd.siz⟩ ?_;refine whole (r:=k3 xs) ?_ h2;show xs.take (rdZ xs 3 (k2 xs).2).p=le (l1 xs).1 8++(le (k2 xs).1 1++List.replicate 3 0)
  rw[v3];show xs.take (rdN xs 1 (l1 xs).2).2.p++_=_
  rw[v2];show xs.take (rdN xs 8 rd0).2.p++_++_=_
  rw[v1,show xs.take rd0.p=[] from rfl,List.nil_append];simp only[List.append_assoc];rfl
theorem u4b(c:Int){xs:List Int}(hx:Bytes xs)(h:C6a c xs=0):N4a c (G9a c xs)=0/\n3b c (G9a c xs)=xs/\(G9a c xs).ok:=by
 have e0:G9a c xs=(jgP c xs).1:=by unfold G9a;rw[if_pos h]
 unfold C6a at h;by_cases hk:f5a c=true;rotate_left
 ·rw[if_neg hk] at h;exact absurd h (by decide)
 rw[if_pos hk] at h;obtain⟨h1,h2⟩:=V3a h;rw[e0];have key:∀a:W1a,U4b c a=a->a.kind<=2->a.ents.all v3a=true->a.ents.length<=64->(c=14->x1a a.ents=0)->a.ok->p5a c a=xs->N4a c a=0/\n3b c a=xs/\a.ok:=by
  intro a w1 w2 w3 w4 w5 w6 w7;have hn:w3a c a=true:=by unfold w3a;rw[hk,(n8a c a).2 w1];simp
  have e:N4a c a=0:=by
   unfold N4a;rw[if_pos ⟨hn,w2,w3⟩,if_pos w4];split
   ·rename_i h14;exact w5 h14
   ·rfl
  exact⟨e,by unfold n3b;rw[if_pos e];exact w7,w6⟩
 have zd:=G0a;have m0:=W2a hx 2 64 3 rd0 ⟨by decide,by decide⟩ (by decide);have kk:=S6b hx (l1 xs).2;have ek:=T6b hx (m2 xs).2 (m1 xs).1.toNat;have el:=E1b (xs:=xs) (r:=(m2 xs).2) (m1 xs).1.toNat;unfold jgP at h1 h2⊢;rcases t4a hk with k | k | k | k
 ·subst k;simp only[if_true] at h1 h2⊢;obtain⟨u3,w3,v3⟩:=v3b hx _ (show(f2a xs (m2 xs).2 (m1 xs).1.toNat).2.e=0 from h1);obtain⟨u2,v2⟩:=S6a hx u3;obtain⟨u1,_,v1⟩:=o5a hx (by decide) u2;have hl:((f2a xs (m2 xs).2 (m1 xs).1.toNat).1.length:Int)=(m1 xs).1:=by
   rw[el];show((a1a xs 2 64 3 rd0).1.toNat:Int)=(a1a xs 2 64 3 rd0).1
   omega
  refine key _ rfl (show(0:Int)<=2 by decide) ek.2 ?_ (λ_=>w3) ⟨zd.dia,zd.siz,zd.clen,zd.cbyte,zd.lev,zd.dur,zd.made,zd.file,zd.kind,zd.data,zd.n,ek.1⟩ ?_
  ·show(f2a xs (m2 xs).2 (m1 xs).1.toNat).1.length<=64
   have:(m1 xs).1<=64:=m0.2;omega
  ·refine whole (r:=(m3 xs).2) ?_ h2;show xs.take (f2a xs (m2 xs).2 (m1 xs).1.toNat).2.p=le ((f2a xs (m2 xs).2 (m1 xs).1.toNat).1.length:Int) 2++(le (n1a ((rdT xs (m1 xs).2).1 != 0)) 2++t1a (f2a xs (m2 xs).2 (m1 xs).1.toNat).1)
   rw[v3,hl];show xs.take (rdT xs (m1 xs).2).2.p++_=_
   rw[v2];show xs.take (a1a xs 2 64 3 rd0).2.p++_++_=_
   rw[v1,show xs.take rd0.p=[] from rfl,List.nil_append];simp only[List.append_assoc];rfl
 ·subst k;simp only[show ¬((16:Int)=14) by decide,if_true,if_false] at h1 h2⊢;obtain⟨u3,v3⟩:=S6a hx h1;obtain⟨u2,v2⟩:=u3b hx u3;obtain⟨u1,v1⟩:=V1a hx u2;refine key _ rfl kk.2 rfl (Nat.zero_le _) (λ_=>rfl) ⟨zd.dia,b8 hx _,zd.clen,zd.cbyte,zd.lev,zd.dur,zd.made,zd.file,⟨kk.1,?_⟩,zd.data,zd.n,zd.ents⟩ ?_
  ·show(rdK xs (l1 xs).2).1<=255;omega
  ·refine whole (r:=(g3 xs).2) ?_ h2;show xs.take (rdT xs (g2 xs).2).2.p=le (l1 xs).1 8++(le (rdK xs (l1 xs).2).1 2++le (n1a ((rdT xs (g2 xs).2).1 != 0)) 2)
   rw[v3];show xs.take (rdK xs (l1 xs).2).2.p++_=_
   rw[v2];show xs.take (rdN xs 8 rd0).2.p++_++_=_
   rw[v1,show xs.take rd0.p=[] from rfl,List.nil_append];simp only[List.append_assoc];rfl
 ·subst k;simp only[show ¬((17:Int)=14) by decide,show ¬((17:Int)=16) by decide,show ¬((17:Int)=18) by decide,if_false] at h1 h2⊢;obtain⟨u1,v1⟩:=n5a h1;exact key _ rfl (by decide) rfl (Nat.zero_le _) (λ_=>rfl) zd (whole (r:=rdZ xs 4 rd0) v1 h2)
 ·subst k;simp only[show ¬((18:Int)=14) by decide,show ¬((18:Int)=16) by decide,if_true,if_false] at h1 h2⊢;obtain⟨u3,v3⟩:=n5a h1;obtain⟨u2,v2⟩:=V1a hx u3;obtain⟨u1,v1⟩:=V1a hx u2;refine key _ rfl (show(0:Int)<=2 by decide) rfl (Nat.zero_le _) (λ_=>rfl) ⟨zd.dia,zd.siz,zd.clen,zd.cbyte,b1' hx _,zd.dur,zd.made,b8 hx _,zd.kind,zd.data,zd.n,zd.ents⟩ ?_;refine whole (r:=k3 xs) ?_ h2;show xs.take (rdZ xs 3 (k2 xs).2).p=le (l1 xs).1 8++(le (k2 xs).1 1++List.replicate 3 0)
  rw[v3];show xs.take (rdN xs 1 (l1 xs).2).2.p++_=_
  rw[v2];show xs.take (rdN xs 8 rd0).2.p++_++_=_
  rw[v1,show xs.take rd0.p=[] from rfl,List.nil_append];simp only[List.append_assoc];rfl
theorem n9b(c:Int){xs:List Int}(hx:Bytes xs):(Y5a c xs).ok:=by
 by_cases h:k4a c xs=0
 ·exact(s7b c hx h).2.2
 ·unfold Y5a;rw[if_neg h];exact h0a
theorem o9b(c:Int){xs:List Int}(hx:Bytes xs):(G9a c xs).ok:=by
 by_cases h:C6a c xs=0
 ·exact(u4b c hx h).2.2
 ·unfold G9a;rw[if_neg h];exact G0a
theorem Z4a{xs:List Int}(hx:Bytes xs)(r:Rd):(⟨(I1a xs r).1.toArray⟩:ByteArray).size<=262140:=by
 rw[j8a];unfold I1a;split
 ·exact I8a hx _
 ·exact Nat.zero_le _
theorem N1b(c:Int){xs:List Int}(hx:Bytes xs):(Y5a c xs).dial.length<=0/\(Y5a c xs).data.length<=0/\(Y5a c xs).locks.length<=0/\(Y5a c xs).name.size<=262140/\(Y5a c xs).pat.size<=262140/\(Y5a c xs).aft.size<=262140/\(Y5a c xs).user.size<=0/\(Y5a c xs).share.size<=0:=by
 have z:j0a.name.size<=262140/\j0a.pat.size<=262140/\j0a.aft.size<=262140/\j0a.user.size<=0/\j0a.share.size<=0:=by decide
 by_cases h:k4a c xs=0
 ·unfold Y5a;rw[if_pos h];unfold igP;split
  ·exact⟨Nat.zero_le _,Nat.zero_le _,Nat.zero_le _,z.1,Z4a hx _,Z4a hx _,z.2.2.2⟩
  ·split
   ·exact⟨Nat.zero_le _,Nat.zero_le _,Nat.zero_le _,z⟩
   ·split
    ·split
     ·exact⟨Nat.zero_le _,Nat.zero_le _,Nat.zero_le _,z⟩
     ·split
      ·exact⟨Nat.zero_le _,Nat.zero_le _,Nat.zero_le _,z⟩
      ·split
       ·exact⟨Nat.zero_le _,Nat.zero_le _,Nat.zero_le _,Z4a hx _,z.2⟩
       ·exact⟨Nat.zero_le _,Nat.zero_le _,Nat.zero_le _,z⟩
    ·split
     ·exact⟨Nat.zero_le _,Nat.zero_le _,Nat.zero_le _,z⟩
     ·exact⟨Nat.zero_le _,Nat.zero_le _,Nat.zero_le _,z⟩
 ·unfold Y5a;rw[if_neg h];exact⟨Nat.zero_le _,Nat.zero_le _,Nat.zero_le _,z⟩
theorem w3b{xs:List Int}(hx:Bytes xs)(r:Rd)(k:Nat):∀e∈(f2a xs r k).1,e.name.size<=262140:=by
 induction k with
 | zero=>intro e h;cases h
 | succ k ih=>
  intro e h;rcases List.mem_append.1 h with h | h
  ·exact ih e h
  ·rw[List.mem_singleton.1 h];exact Z4a hx _
theorem O1b(c:Int){xs:List Int}(hx:Bytes xs):(G9a c xs).data.length<=0/\(G9a c xs).ents.length<=64/\∀e∈(G9a c xs).ents,e.name.size<=262140:=by
 by_cases h:C6a c xs=0
 ·obtain⟨h1,_,_⟩:=u4b c hx h;obtain⟨_,_,_,_,hl,_⟩:=X4b h1;refine⟨?_,hl,?_⟩
  ·unfold G9a;rw[if_pos h];unfold jgP;repeat' split
   all_goals exact Nat.zero_le _
  ·unfold G9a;rw[if_pos h];unfold jgP;split
   ·exact w3b hx _ _
   ·split
    ·intro e h;cases h
    ·split
     ·intro e h;cases h
     ·intro e h;cases h
 ·unfold G9a;rw[if_neg h];exact⟨Nat.zero_le _,Nat.zero_le _,λe h=>by cases h⟩
theorem p9b{c:Int}{xs:List Int}(hx:Bytes xs)(h:gae c xs=0):pae c (gao c xs)=0/\pao c (gao c xs)=xs/\(gao c xs).ok:=by
 unfold pae pao gao;unfold gae at h;split
 ·rename_i h1;rw[if_pos h1] at h;exact a3b c hx h
 ·rename_i h1;rw[if_neg h1] at h;split
  ·rename_i h2;rw[if_pos h2] at h;exact m4b c hx h
  ·rename_i h2;rw[if_neg h2] at h;exact s7b c hx h
theorem q9b{c:Int}{xs:List Int}(hx:Bytes xs)(h:gse c xs=0):pse c (gso c xs)=0/\pso c (gso c xs)=xs/\(gso c xs).ok:=by
 unfold pse pso gso;unfold gse at h;split
 ·rename_i h1;rw[if_pos h1] at h;exact b3b c hx h
 ·rename_i h1;rw[if_neg h1] at h;split
  ·rename_i h2;rw[if_pos h2] at h;exact n4b c hx h
  ·rename_i h2;rw[if_neg h2] at h;exact u4b c hx h
theorem s8b{m:y9a}(k:m.ok):Bytes (g1b m):=by
 unfold g1b pso pao;split
 ·split
  ·split
   ·exact M6b k.s
   ·split
    ·exact f8b k.s
    ·exact q8b k.s
  ·split
   ·exact L6b k.a
   ·split
    ·exact e8b k.a
    ·exact p8b k.a
 ·exact Bytes.zeros 0
theorem s0c{m:y9a}(k:m.ok):(g1b m).length<=70000:=by
 unfold g1b pso pao;split
 ·split
  ·split
   ·exact c9b k.s
   ·split
    ·exact T9b
    ·exact r0c
  ·split
   ·exact b9b k.a
   ·split
    ·exact S9b
    ·exact q0c
 ·exact Nat.zero_le _
theorem t7b{h:Hd}{xs:List Int}(hx:Bytes xs)(he:u4a h xs=0):t7a ⟨h,gbA h xs,gbS h xs⟩=0/\g1b ⟨h,gbA h xs,gbS h xs⟩=xs/\(gbA h xs).ok/\(gbS h xs).ok:=by
 have key:t7a ⟨h,gbA h xs,gbS h xs⟩=0/\(if e3a h.fl=true then pso (P5a h) (gbS h xs) else pao (P5a h) (gbA h xs))=xs/\(gbA h xs).ok/\(gbS h xs).ok:=by
  unfold t7a gbA gbS;unfold u4a at he;by_cases hr:e3a h.fl=true
  ·simp only[if_pos hr] at he⊢;have h0:gse (P5a h) xs=0:=by
    by_cases h2:gse (P5a h) xs=2
    ·rw[if_pos h2] at he;exact absurd he (by decide)
    ·rwa [if_neg h2] at he
   obtain⟨h1,h2,h3⟩:=q9b hx h0;rw[if_pos (V9b.2 rfl)];exact⟨h1,h2,h0a,h3⟩
  ·simp only[if_neg hr] at he⊢;obtain⟨h1,h2,h3⟩:=p9b hx he;rw[if_pos (W9b.2 rfl)];exact⟨h1,h2,h3,G0a⟩
 refine⟨key.1,?_,key.2.2⟩;unfold g1b;rw[if_pos key.1];exact key.2.1
theorem u7b{xs:List Int}{n:Nat}(h:W6a xs n=true):n<=xs.length/\xs=xs.take (xs.length-n)++List.replicate n 0:=by
 unfold W6a at h;rw[decide_eq_true_iff] at h;have hl:=congrArg List.length h;rw[List.length_drop,List.length_replicate] at hl;refine⟨by omega,?_⟩
 conv=>lhs;rw[<-List.take_append_drop (xs.length-n) xs]
 rw[h]
theorem t8b{xs:List Int}(hx:Bytes xs)(he:u7a xs=0):z9a (v7a xs)=0/\g9b (v7a xs)=xs/\(v7a xs).ok:=by
 have h0:=he;unfold u7a at he;by_cases hg:m2a xs 0=0;rotate_left
 ·rw[if_neg hg] at he;exact absurd he hg
 rw[if_pos hg] at he;have hho:=P9a xs 0 hx;have hh:l1b (Y1a xs 0)=true/\X0b (Y1a xs 0)=xs.take 64:=by
  unfold Y1a;rw[if_pos hg];unfold m2a at hg;by_cases hp:U0a xs.length 0 64=0
  ·rw[if_pos hp] at hg;have hr:=G7a hp;by_cases hq:H3b ((xs.drop (Int.toNat 0)).take 64)=true
   ·have:=G2b ((hx.drop _).take _) (by simp;omega) hq;exact⟨this.2,this.1⟩
   ·rw[if_neg hq] at hg;exact absurd hg (by decide)
  ·rw[if_neg hp] at hg;exact absurd hg hp
 obtain⟨h,hhe⟩:∃h,h=Y1a xs 0:=⟨_,rfl⟩;have hmo:v7a xs=⟨h,gbA h (V5a h (xs.drop 64)),gbS h (V5a h (xs.drop 64))⟩:=by unfold v7a;rw[if_pos h0,hhe]
 rw[<-hhe] at he hho hh;rw[hmo];have key:u4a h (V5a h (xs.drop 64))=0/\F1b h (V5a h (xs.drop 64))=xs.drop 64/\Bytes (V5a h (xs.drop 64)):=by
  unfold J0b at he;unfold V5a F1b;by_cases hn:h.nx=0
  ·simp only[if_pos hn] at he⊢;exact⟨he,trivial,hx.drop _⟩
  ·simp only[if_neg hn] at he⊢;cases hat:atN h (xs.drop 64) with
   | none=>
    rw[hat] at he;simp only[Option.isSome_none,Bool.false_eq_true,if_false] at he;split at he
    ·exact absurd he (by decide)
    ·rename_i h2;exact absurd he h2
   | some n=>unfold atN at hat;rw[List.find?_range_eq_some] at hat;obtain⟨h1,h2,_⟩:=hat;unfold o4b at h1;simp only[Bool.and_eq_true,decide_eq_true_eq] at h1;obtain⟨h1a,h1b,h1c⟩:=h1;obtain⟨q1,q2⟩:=u7b h1a;rw[Option.getD_some];refine⟨h1c,?_,(hx.drop _).take _⟩;rw[List.length_take,Nat.min_eq_left (by omega),h1b];exact q2.symm
 obtain⟨k1,k2,k3⟩:=key;obtain⟨c1,c2,c3,c4⟩:=t7b k3 k1;have hpe:z9a ⟨h,gbA h (V5a h (xs.drop 64)),gbS h (V5a h (xs.drop 64))⟩=0:=by unfold z9a;rw[if_pos hh.1,c1]
 refine⟨hpe,?_,⟨hho,c3,c4⟩⟩;unfold g9b;rw[if_pos hpe,c2,hh.2,k2,List.take_append_drop]
theorem R5a{w:World}{base n:Nat}{v:Value}{xs:List Int}(h0:0<n)(hn:n<=65536)(hown:P0a .u8 5 w base v xs)(hx:xs.length<=1000000)(hbase:base<=w.heap.size)(ty:TypeId) :
  ∃v' w',(Builtin.append_ #[31,3] ty #[v,.int .i64 (n:Int)]).run Tryz.prog w=.ok v' w'/\P0a .u8 5 w' base v' (xs++List.replicate n 0)/\w.grownBy w' v.ownBlock:=by
 obtain⟨i0,hi,hz0,hz1,hz2⟩:=info_parts G3a;have hmax:maxLen=9223372036854775807:=rfl;have ht:Tryz.prog.underlying 31=some (.slice 5):=Tryz.underlying31;have htn:Tryz.prog.underlying 3=some (.int .i64):=Tryz.underlying3;have hw:IntKind.i64.wrap (n:Int)=n:=by rw[IntKind.wrap_i64];omega
 have hneg:¬((n:Int)<0):=by omega
 have h48i:¬(281474976710656<(n:Int)*(i0.bytes:Int)):=by rw[hz2];omega
 have hns:¬(n*i0.size=0):=by rw[hz1];omega
 have hn0:n≠0:=by omega
 have hOK:=hown.own;rcases hown with⟨rfl,rfl⟩ | ⟨g,z,rfl,hb,hz,hg⟩
 ·have hrun:=Lib.run_append_nil_zeros (P:=Tryz.prog) w 31 3 ty 5 i0 (.int .u8 0) .i64 .i64 ht htn hi hz0 n h0 (by omega) (by omega) (by rw[hz2];omega);refine⟨_,_,hrun,?_,⟨rfl,rfl,rfl,by simp,λj hj _=>Below.heap_alloc w.drew _ j hj⟩⟩;have:=P4a .u8 5 w base (List.replicate n 0) 0 n (by simp) hbase (by omega);rw[l3a .u8 n,List.nil_append];simpa using this
 ·by_cases hroom:xs.length+n<=xs.length+z
  ·have hst:=run_storeCells_at Tryz.prog g (xs.length*i0.size) 5 ((List.replicate n (0:Int)).map (Value.int .u8)) 0 _ w hg (by simp[hz1];omega) (by intro u hu;obtain⟨x,_,rfl⟩:=List.mem_map.1 hu;rfl);simp only[Nat.add_zero] at hst;have hzc:(Builtin.zeroCells (Value.int .u8 0).cells n).toList=(List.replicate n (0:Int)).map (Value.int .u8):=by rw[l3a];simp
   refine⟨.slice (some ⟨g,0,none⟩) (xs.length+n) (xs.length+z),w.setRow g ((xs++List.replicate n 0++List.replicate (z-n) 0).map (Value.int .u8)).toArray,?_,.inr ⟨g,z-n,by simp;omega,hb,by simp;omega,setRow_heap w g _ _ 5 _ hg⟩,?_⟩;rotate_left
   ·exact⟨rfl,rfl,rfl,by simp,λj _ hj=>setRow_other w g j _ (λe=>hj (by simp[Value.ownBlock,e]))⟩
   ·have e1:((xs++List.replicate z (0:Int)).map (Value.int .u8)).take (xs.length*i0.size)=xs.map (Value.int .u8):=by rw[hz1,Nat.mul_one,List.map_append,List.take_left' (by simp)]
    have e2:((xs++List.replicate z (0:Int)).map (Value.int .u8)).drop (xs.length*i0.size+((List.replicate n (0:Int)).map (Value.int .u8)).length)=(List.replicate (z-n) (0:Int)).map (Value.int .u8):=by rw[hz1,Nat.mul_one,List.length_map,List.length_replicate,<-List.drop_drop,List.map_append,List.drop_left' (by simp),<-List.map_drop,List.drop_replicate]
    rw[e1,e2,<-hzc] at hst;rw[List.map_append,List.map_append,<-hzc];have hroom2:n<=z:=by omega
    simp[Builtin.append_,run_underlying ht,run_underlying htn,sizeOf,typeInfo,zeroValue,hi,hz0,asInt,asIntOf,hw,hneg,hns,h48i,hroom2,Addr.add_lit,hst,hn0]
  ·have q0a:∀j y,(xs.map (Value.int .u8))[j]? = some y->w.cell? ((⟨g,0,none⟩:Addr).add j)=some y:=hOK.cells (g:=g) rfl;have hfit:=growslice_fits (need:=xs.length+n) (old:=xs.length+z) (bytes:=i0.bytes) (by omega) (by rw[hz2];omega);have h48':¬(281474976710656<Builtin.nextslicecap (xs.length+n) (xs.length+z)*i0.bytes):=by omega
   have h63':¬(9223372036854775807<((xs.length:Int)+(n:Int))):=by omega
   have hfo:=run_firstCells_some (P:=Tryz.prog) w.drew i0.size xs.length ⟨g,0,none⟩ xs.length (xs.length+z) (xs.map (Value.int .u8)) (by simp[hz1]) (by simpa using q0a);have hnr:¬n<=z:=by omega
   have:=P4a .u8 5 w base (xs++List.replicate n 0) (xs.length+z) (xs.length+n) (by simp) hbase (by omega);refine⟨.slice (some ⟨w.heap.size,0,none⟩) (xs.length+n) (grownCap w (xs.length+n) (xs.length+z) 5),_,?_,this,?_⟩;rotate_left
   ·exact⟨rfl,rfl,rfl,by simp,λj hj _=>Below.heap_alloc w.drew _ j hj⟩
   ·simp[Builtin.append_,run_underlying ht,run_underlying htn,sizeOf,typeInfo,zeroValue,hi,hz0,asInt,asIntOf,hw,hneg,hns,h48i,h48',h63',hn0,Question.forced,hfo,newRow,grownCap,hnr,l3a]
    congr 2
    apply Array.ext';simp[List.append_assoc,List.replicate_append_replicate]
theorem A7a{w:World}{ops:Array Oper}{rest:List Oper}{o:Oper}{a:Act}{Q:Exit->Act->World->Prop}(hgd:o.guard=none)(s x:Operand)
(ho:o.op=.call { callee:=.builtin .append,args:=#[s,x],argTypes:=#[31,3] })
(base n:Nat)(v:Value)(xs:List Int)(hs:a.eval s=v)(hx:a.eval x=.int .i64 (n:Int))(hown:P0a .u8 5 w base v xs)(h0:0<n)(hn:n<=65536)(hlen:xs.length<=1000000)(hbase:base<=w.heap.size)
(h:∀v' w',Hid (P0a .u8 5 w' base v' (xs++List.replicate n 0))->Hid (Below base w w')->wpList Tryz.prog ops Q rest (a.put o.dst v') w') :
  wpList Tryz.prog ops Q (o::rest) a w:=by
 have hOK:=hown.own;obtain⟨v',w',hrun,h2,h3⟩:=R5a h0 hn hown hlen hbase o.type;exact Lib.wpList_append_run w hgd s x _ _ ho _ _ hs hx v' w' hrun (h v' w' h2 ((Below.refl _ _).grown h3 hbase (λk hk=>(World.ownsRow.lt hOK k hk).1)))
def l2a(s:Nat):List Int->List Int
 | []=>[]
 | x::r=>le x s++l2a s r
theorem O5b(s:Nat)(xs:List Int)(x:Int):l2a s (xs++[x])=l2a s xs++le x s:=by
 induction xs with
 | nil=>simp[l2a]
 | cons a r ih=>simp[l2a,ih,List.append_assoc]
theorem x3b(s:Nat)(xs:List Int):(l2a s xs).length=s*xs.length:=by
 induction xs with
 | nil=>rfl
 | cons a r ih=>simp only[l2a,List.length_append,w0a,ih,List.length_cons,Nat.mul_add,Nat.mul_one];omega
theorem v4b(s:Nat)(xs:List Int):Bytes (l2a s xs):=by
 induction xs with
 | nil=>exact Bytes.nil
 | cons a r ih=>exact(F0a _ _).append ih
def J9a(w:World)(s:Nat)(vs:List Int)(e:Ending)(w':World):Prop:=∃v,e=.returned v/\P0a .u8 5 w' w.heap.size v (l2a s vs)/\Below w.heap.size w w'
theorem S0b(w:World)(gl m s:Nat)(vs:List Int)(hB:Blk w gl 25 (vs.map (Value.int .u64)))(hl:vs.length=m)(hm:m<=1000)(hs:b3a (s:Int)=true)(hv:∀x∈vs,0<=x/\x<256^s) :
  Calls Tryz.prog 152 #[.int .i64 (s:Int),.slice (some ⟨gl,0,none⟩) m m] w (J9a w s vs):=by
 have hs8:1<=s/\s<=8:=by rcases N1a hs with h | h | h | h<;>omega
 obtain⟨hs1,hs8⟩:=hs8;have hgl:=hB.lt;have HBl:=hI hB;have HL:=hI hl;have hp8:(256:Int)^s<=18446744073709551616:=by
  rcases N1a hs with h | h | h | h
  ·obtain rfl:s=1:=by omega
   decide
  ·obtain rfl:s=2:=by omega
   decide
  ·obtain rfl:s=4:=by omega
   decide
  ·obtain rfl:s=8:=by omega
   decide
 have CP:Hid (∀(w:World) (x:Int),x∈vs->Calls Tryz.prog 54 #[.int .u64 x,.int .i64 (s:Int)] w λe w'=>∃A',e=.returned (.tuple #[.slice A' s s,.int .i64 0])/\C1a w' w.heap.size A' (le x s)/\Below w.heap.size w w'):=λw x hx=>by
  obtain⟨h0,h1⟩:=hv x hx;have h:=j7a w x (s:Int) ⟨h0,by omega⟩ (by omega);unfold C4a at h;have hp:a4a x (s:Int)=true:=by unfold a4a;rw[hs,Int.toNat_natCast,decide_eq_true h1];rfl
  unfold J5a M4a at h;rw[if_pos hp,if_pos hp,Int.toNat_natCast,w0a] at h;exact h
 have HQ:Hid (∀e w',(∃v,e=.returned v/\P0a .u8 5 w' w.heap.size v (l2a s vs)/\Below w.heap.size w w')->J9a w s vs e w'):=λ_ _ h=>h
 have HLB:Hid (∀x:Int,(le x s).length=s/\Bytes (le x s)):=λx=>⟨w0a x s,F0a x s⟩
 have HNL:Hid (∀j,j<=m->(l2a s (vs.take j)).length<=8000):=λj hj=>by rw[x3b,List.length_take];have h1:s*min j vs.length<=8*1000:=Nat.mul_le_mul hs8 (by omega);omega
 have HST:Hid (∀(j:Nat) (x:Int),vs[j]? = some x->l2a s (vs.take (j+1))=l2a s (vs.take j)++le x s):=λj x hx=>by rw[List.take_add_one,hx,Option.toList_some,O5b]
 have HN:Hid (l2a s (vs.take m)=l2a s vs):=by show _=_;rw[<-hl,List.take_length]
 have H0:Hid (l2a s (vs.take 0)=[]):=by show _=_;rw[List.take_zero];rfl
 obtain⟨nb,hnb⟩:∃f:Nat->List Int,f=λj=>l2a s (vs.take j):=⟨_,rfl⟩
 have hnb2:∀j,l2a s (vs.take j)=nb j:=λj=>by rw[hnb]
 simp only[hnb2] at HNL HST HN H0;rw[<-HN.out] at HQ;obtain⟨lb,hlb⟩:∃f:Int->List Int,f=λx=>le x s:=⟨_,rfl⟩
 have hlb2:∀x,le x s=lb x:=λx=>by rw[hlb]
 simp only[hlb2] at CP HLB HST;have HMEM:Hid (∀(j:Nat) (x:Int),vs[j]? = some x->x∈vs):=λj x h=>List.mem_of_getElem? h
 have HGET:Hid (∀j,j<m->∃x,vs[j]? = some x):=λj hj=>⟨_,List.getElem?_eq_getElem (by omega)⟩
 have HCELL:Hid (∀(j:Nat) (x:Int),vs[j]? = some x->(vs.map (Value.int .u64))[j]? = some (.int .u64 x)):=λj x h=>by simp[h]
 clear hB hl hv hs hp8 hnb hnb2 hlb hlb2 HN;go_enter Tryz.func152,Tryz.ntmps152;go_wp2;go_loopw [5,12] (λv i wr=>∃j:Nat,i=.int .i64 j/\j<=m/\Hid (P0a .u8 5 wr w.heap.size v (nb j))/\Hid (Below w.heap.size w wr)) (λ_ i _=>m-(intOf i).toNat)
 case atStart=>exact⟨0,rfl,Nat.zero_le _,by rw[H0.out];exact P0a.nil _ _ _ _,Below.refl _ _⟩
 case round=>
  obtain⟨j,rfl,hj,HO,HB1⟩:=hrel;by_cases hlt2:j<m
  ·obtain⟨x,hx⟩:=HGET.out j hlt2;have HKl:=hI (HBl.out.over HB1.out);have hc:wr.cell? ⟨gl,j,none⟩=some (.int .u64 x):=(HKl.out.cell j).trans (HCELL.out j x hx);have HS:=hI (HST.out j x hx);have HM:=hI (HMEM.out j x hx);have hnl:=HNL.out j hj;have hsz:=HB1.out.size;clear hx;go_wp2_with fail;refine(CP.out wr x HM.out).mono ?_;rintro e v1 ⟨A',rfl,hf,L1⟩;have HH:=hI (hf.holds (HLB.out x).1 (HLB.out x).2 (by omega));have HO1:=hI (HO.out.below L1);have HB2:=hI (HB1.out.trans (L1.mono hsz));have hll:=(HLB.out x).1;have hsz1:=HB2.out.size;clear hf L1 hc HKl HO HB1;go_wp2_with(first
    | (at_builtin;refine E2a rfl (.tmp 22) (.tmp 23) rfl w.heap.size _ (nb j) rfl HO1.out v1.heap.size A' s s (lb x) rfl HH.out (by omega) hsz1 ?_;intro u5 v5 HO5 L5)
    | fail)
   rw[<-HS.out] at HO5;have HB5:=hI (HB2.out.trans L5);clear HO1 HB2 L5 HH HS;go_roundw
   case rel=>exact⟨j+1,by simp,by omega,HO5,HB5⟩
   case measure=>simp[intOf];omega
  ·obtain rfl:j=m:=by omega
   go_wp2;go_ret;exact HQ.out _ _ ⟨_,rfl,HO.out,HB1.out⟩
theorem v7b(w:World)(l:A2a):Calls Tryz.prog 200 #[.agg (I0a l).toArray] w λe w'=>e=.returned (.bool (l.op != 0))/\Below w.heap.size w w':=by
 obtain⟨op,at_,n,md⟩:=l;have HC:Hid (∀(w:World) (g:Nat),Blk w g 122 (I0a ⟨op,at_,n,md⟩)->w.cell? ⟨g,0,none⟩=some (.int .i64 op)):=λw g h=>h.at rfl
 obtain⟨cs,hcs⟩:∃x,x=I0a ⟨op,at_,n,md⟩:=⟨_,rfl⟩;rw[<-hcs] at HC⊢;show Calls _ _ _ _ λe w'=>e=.returned (.bool (op != 0))/\_
 clear hcs;go_enter Tryz.func200,Tryz.ntmps200;go_wp2_with(first
  | ((with_reducible refine sN 1 ?_);refine g0a rfl _ (.tmp 0) rfl cs rfl ?_;intro g w1 hg1 hg2 K1 L1;have c0:=HC.out w1 g K1.out)
  | fail)
 go_ret;exact⟨rfl,L1.out⟩
theorem P5b(w:World)(A:Option Addr)(n c:Nat)(xs:List A2a)(h:c1a I0a 4 w w.heap.size A n c xs)(hn:n<=4398046511104) :
  Calls Tryz.prog 220 #[.slice A n c,.func (.func 200) #[] #[]] w λe w'=>(∃k:Int,e=.returned (.int .i64 k)/\decide (0<=k) = !shut xs)/\Below w.heap.size w w':=by
 have HH:=hI h;have HL:=hI h.len;have hft:=h.fit;have CF:Hid (∀(w:World) (l:A2a),Calls Tryz.prog 200 #[.agg (I0a l).toArray] w λe w'=>e=.returned (.bool (l.op != 0))/\Below w.heap.size w w'):=v7b;have HQ:Hid (∀(e:Ending) (w':World),((∃k:Int,e=.returned (.int .i64 k)/\decide (0<=k) = !shut xs)/\Below w.heap.size w w')->((∃k:Int,e=.returned (.int .i64 k)/\decide (0<=k) = !shut xs)/\Below w.heap.size w w')):=λ_ _ h=>h
 have H0:Hid (shut (xs.take 0)=true):=by show _=_;rw[List.take_zero];rfl
 have HN:Hid (shut (xs.take n)=true->shut xs=true):=λh1=>by rw[<-HL.out,List.take_length] at h1;exact h1
 have HST:Hid (∀(j:Nat) (x:A2a),xs[j]? = some x->shut (xs.take j)=true->x.op=0->shut (xs.take (j+1))=true):=λj x hx h1 h2=>by rw[List.take_add_one,hx,Option.toList_some];unfold shut at h1⊢;rw[List.all_append,h1];simp[h2]
 have HBAD:Hid (∀(j:Nat) (x:A2a),xs[j]? = some x->x.op≠0->shut xs=false):=λj x hx h1=>by unfold shut;rw[List.all_eq_false];exact⟨x,List.mem_of_getElem? hx,by simpa using h1⟩
 clear h;go_enter Tryz.func220,Tryz.ntmps220;go_wp2;go_loopw [8] (λi wr=>∃j:Nat,i=.int .i64 j/\j<=n/\Hid (shut (xs.take j)=true)/\Hid (Below w.heap.size w wr)) (λi _=>n-(intOf i).toNat)
 case atStart=>exact⟨0,rfl,Nat.zero_le _,H0.out,Below.refl _ _⟩
 case round=>
  obtain⟨j,rfl,hj,HS,HB1⟩:=hrel;by_cases hlt:j<n
  ·have hh:=HH.out.below HB1.out;obtain⟨b,off,rfl,hb,hc⟩:=hh.cells (by omega);obtain⟨x,hx⟩:∃x,xs[j]? = some x:=⟨_,List.getElem?_eq_getElem (by have:=HL.out;omega)⟩;have Rx:Hid (wr.rangeAt b (off+j*4) (I0a x)):=hh.range rfl hlt hx;have LX:Hid ((I0a x).length=4):=rfl;have CX:=CF.out wr x;have HST':=hI (HST.out j x hx HS.out);have HBAD':=hI (HBAD.out j x hx);obtain⟨cx,hcx⟩:∃cx,cx=I0a x:=⟨_,rfl⟩;rw[<-hcx] at Rx LX CX;have hsz:=HB1.out.size;clear hh hc hx hcx;by_cases ho:x.op=0
   ·have hb0:(x.op != 0)=false:=by simpa using ho
    rw[hb0] at CX;have CX':=hI CX;have HS2:=hI (HST'.out ho);clear CX hb0 ho HST' HBAD' HS;go_wp2_with(first
     | ((with_reducible refine sN 15 ?_);refine u0a rfl _ (.tmp 14) rfl b (off+j*4) rfl cx _ Rx Tryz.underlying122 rfl 4 i5a LX ?_)
     | fail)
    refine CX'.out.mono ?_;rintro e v1 ⟨rfl,L1⟩;have HB2:=hI (HB1.out.trans (L1.mono hsz));clear L1 HB1 CX';go_wp2;go_roundw
    case rel=>exact⟨j+1,by simp,by omega,HS2,HB2⟩
    case measure=>simp[intOf];omega
   ·have hb0:(x.op != 0)=true:=by simpa using ho
    rw[hb0] at CX;have CX':=hI CX;have HS2:=hI (HBAD'.out ho);clear CX hb0 ho HST' HBAD' HS;go_wp2_with(first
     | ((with_reducible refine sN 15 ?_);refine u0a rfl _ (.tmp 14) rfl b (off+j*4) rfl cx _ Rx Tryz.underlying122 rfl 4 i5a LX ?_)
     | fail)
    refine CX'.out.mono ?_;rintro e v1 ⟨rfl,L1⟩;have HB2:=hI (HB1.out.trans (L1.mono hsz));clear L1 HB1 CX';go_wp2;go_ret;exact HQ.out _ _ ⟨⟨_,rfl,by rw[HS2.out];simp⟩,HB2.out⟩
  ·obtain rfl:j=n:=by omega
   have HS2:=hI (HN.out HS.out);go_wp2;go_ret;exact HQ.out _ _ ⟨⟨_,rfl,by rw[HS2.out];rfl⟩,HB1.out⟩
theorem x2b(w:World)(A:Option Addr)(n c:Nat)(xs:List A2a)(h:c1a I0a 4 w w.heap.size A n c xs)(hn:n<=4398046511104) :
  Calls Tryz.prog 199 #[.slice A n c,.func (.func 200) #[] #[]] w λe w'=>e=.returned (.bool (!shut xs))/\Below w.heap.size w w':=by
 have C1:=hI (P5b w A n c xs h hn);obtain⟨z,hz⟩:∃z,z = !shut xs:=⟨_,rfl⟩;rw[<-hz] at C1⊢;clear h hz;go_enter Tryz.func199,Tryz.ntmps199;go_wp2_with fail;refine C1.out.mono ?_;rintro e w1 ⟨⟨k,rfl,hk⟩,L1⟩;go_wp2;go_ret;exact⟨by rfl,L1⟩
section
variable {vd vx vl ve:Value} {a:z1a} {s:W1a}
theorem y1a(hg:a.guid.length=16)(hp:a.proof.length=32)(i:Nat)(u:Value):(o0a vd vx vl a).set (49+i) u=vd::(a.guid.map (Value.int .u8)++(a.proof.map (Value.int .u8)++(P7a vx vl a).set i u)):=by
 unfold o0a;rw[show 49+i=(48+i)+1 from by omega,List.set_cons_succ,List.set_append_right _ _ (by rw[List.length_map,hg];omega),List.length_map,hg,List.set_append_right _ _ (by rw[List.length_map,hp];omega),List.length_map,hp]
 congr 4
 omega
theorem D2a(hg:s.chal.length=8)(i:Nat)(u:Value):(y0a vx ve s).set (10+i) u=.int .u16 s.dia::.int .u64 s.siz::(s.chal.map (Value.int .u8)++(h2b vx ve s).set i u):=by
 unfold y0a;rw[show 10+i=(8+i)+1+1 from by omega,List.set_cons_succ,List.set_cons_succ,List.set_append_right _ _ (by rw[List.length_map,hg];omega),List.length_map,hg]
 congr 4
 omega
theorem M0c(hg:a.guid.length=16)(hp:a.proof.length=32)(x:Int):(o0a vd vx vl a).set 51 (.int .u32 x)=o0a vd vx vl { a with acc:=x }:=(y1a hg hp 2 _).trans rfl
theorem N0c(hg:a.guid.length=16)(hp:a.proof.length=32)(x:Int):(o0a vd vx vl a).set 52 (.int .u32 x)=o0a vd vx vl { a with shr:=x }:=(y1a hg hp 3 _).trans rfl
theorem O0c(hg:a.guid.length=16)(hp:a.proof.length=32)(x:Int):(o0a vd vx vl a).set 53 (.int .u32 x)=o0a vd vx vl { a with way:=x }:=(y1a hg hp 4 _).trans rfl
theorem P0c(hg:a.guid.length=16)(hp:a.proof.length=32)(x:Int):(o0a vd vx vl a).set 54 (.int .u32 x)=o0a vd vx vl { a with opt:=x }:=(y1a hg hp 5 _).trans rfl
theorem F0c(hg:a.guid.length=16)(hp:a.proof.length=32)(x:Int):(o0a vd vx vl a).set 55 (.int .u8 x)=o0a vd vx vl { a with lev:=x }:=(y1a hg hp 6 _).trans rfl
theorem Q0c(hg:a.guid.length=16)(hp:a.proof.length=32)(x:Int):(o0a vd vx vl a).set 56 (.int .u8 x)=o0a vd vx vl { a with dur:=x }:=(y1a hg hp 7 _).trans rfl
theorem Z5b(hg:a.guid.length=16)(hp:a.proof.length=32)(x:Int):(o0a vd vx vl a).set 57 (.int .u64 x)=o0a vd vx vl { a with file:=x }:=(y1a hg hp 8 _).trans rfl
theorem G0c(hg:a.guid.length=16)(hp:a.proof.length=32)(x:ByteArray):(o0a vd vx vl a).set 58 (.string x)=o0a vd vx vl { a with name:=x }:=(y1a hg hp 9 _).trans rfl
theorem H0c(hg:a.guid.length=16)(hp:a.proof.length=32)(x:Int):(o0a vd vx vl a).set 59 (.int .u64 x)=o0a vd vx vl { a with at_:=x }:=(y1a hg hp 10 _).trans rfl
theorem R0c(hg:a.guid.length=16)(hp:a.proof.length=32)(x:Int):(o0a vd vx vl a).set 60 (.int .u32 x)=o0a vd vx vl { a with n:=x }:=(y1a hg hp 11 _).trans rfl
theorem S0c(hg:a.guid.length=16)(hp:a.proof.length=32)(v:Value)(xs:List Int):(o0a vd vx vl a).set 61 v=o0a vd v vl { a with data:=xs }:=(y1a hg hp 12 _).trans rfl
theorem T0c(hg:a.guid.length=16)(hp:a.proof.length=32)(v:Value)(xs:List A2a):(o0a vd vx vl a).set 62 v=o0a vd vx v { a with locks:=xs }:=(y1a hg hp 13 _).trans rfl
theorem I0c(hg:s.chal.length=8)(x:Int):(y0a vx ve s).set 10 (.int .u8 x)=y0a vx ve { s with lev:=x }:=(D2a hg 0 _).trans rfl
theorem U0c(hg:s.chal.length=8)(x:Int):(y0a vx ve s).set 11 (.int .u8 x)=y0a vx ve { s with dur:=x }:=(D2a hg 1 _).trans rfl
theorem V0c(hg:s.chal.length=8)(x:Int):(y0a vx ve s).set 12 (.int .u16 x)=y0a vx ve { s with made:=x }:=(D2a hg 2 _).trans rfl
theorem J0c(hg:s.chal.length=8)(x:Int):(y0a vx ve s).set 13 (.int .u64 x)=y0a vx ve { s with file:=x }:=(D2a hg 3 _).trans rfl
theorem K0c(hg:s.chal.length=8)(x:Int):(y0a vx ve s).set 14 (.int .u8 x)=y0a vx ve { s with kind:=x }:=(D2a hg 4 _).trans rfl
theorem W0c(hg:s.chal.length=8)(x:Int):(y0a vx ve s).set 16 (.int .u32 x)=y0a vx ve { s with n:=x }:=(D2a hg 6 _).trans rfl
theorem sc1(hg:s.chal.length=8)(x:Int):(y0a vx ve s).set 1 (.int .u64 x)=y0a vx ve { s with siz:=x }:=rfl
theorem X0c(hg:s.chal.length=8)(v:Value)(xs:List Int):(y0a vx ve s).set 15 v=y0a v ve { s with data:=xs }:=(D2a hg 5 _).trans rfl
theorem y0c(hg:a.guid.length=16)(hp:a.proof.length=32):(o0a vd vx vl a).set 61 (.slice none 0 0)=o0a vd (.slice none 0 0) vl { a with data:=[] }:=S0c hg hp _ []
theorem z0c(hg:a.guid.length=16)(hp:a.proof.length=32):(o0a vd vx vl a).set 62 (.slice none 0 0)=o0a vd vx (.slice none 0 0) { a with locks:=[] }:=T0c hg hp _ []
theorem A0c(hg:s.chal.length=8):(y0a vx ve s).set 15 (.slice none 0 0)=y0a (.slice none 0 0) ve { s with data:=[] }:=X0c hg _ []
end
theorem zb{M:Int}(h:0<=M):(0:Int)<=0/\(0:Int)<=M:=⟨Int.le_refl 0,h⟩
theorem Q5b{c:Int}{a:z1a}(k:a.ok):(i1a c a).ok:=by
 unfold i1a;split
 ·exact⟨k.dial,k.glen,k.gbyte,k.plen,k.pbyte,zb (by decide),zb (by decide),zb (by decide),zb (by decide),zb (by decide),zb (by decide),zb (by decide),k.at_,k.n,k.data,k.locks,k.most,k.cls,k.siz⟩
 ·split
  ·exact⟨k.dial,k.glen,k.gbyte,k.plen,k.pbyte,k.acc,k.shr,k.way,k.opt,k.lev,k.dur,zb (by decide),zb (by decide),zb (by decide),k.data,k.locks,k.most,k.cls,k.siz⟩
  ·split
   ·exact⟨k.dial,k.glen,k.gbyte,k.plen,k.pbyte,k.acc,k.shr,k.way,k.opt,k.lev,k.dur,zb (by decide),zb (by decide),k.n,Bytes.nil,k.locks,k.most,k.cls,k.siz⟩
   ·split
    ·exact⟨k.dial,k.glen,k.gbyte,k.plen,k.pbyte,k.acc,k.shr,k.way,k.opt,k.lev,k.dur,zb (by decide),k.at_,k.n,k.data,(λl h=>by cases h),k.most,k.cls,k.siz⟩
    ·exact⟨k.dial,k.glen,k.gbyte,k.plen,k.pbyte,k.acc,k.shr,k.way,k.opt,k.lev,k.dur,zb (by decide),k.at_,k.n,k.data,k.locks,k.most,k.cls,k.siz⟩
theorem w4b{c:Int}{s:W1a}(k:s.ok):(m1a c s).ok:=by
 unfold m1a;split
 ·exact⟨k.dia,zb (by decide),k.clen,k.cbyte,zb (by decide),zb (by decide),zb (by decide),zb (by decide),zb (by decide),k.data,k.n,k.ents⟩
 ·split
  ·exact⟨k.dia,k.siz,k.clen,k.cbyte,k.lev,k.dur,k.made,k.file,k.kind,Bytes.nil,k.n,k.ents⟩
  ·split
   ·exact⟨k.dia,k.siz,k.clen,k.cbyte,k.lev,k.dur,k.made,k.file,k.kind,k.data,zb (by decide),k.ents⟩
   ·exact k
theorem o8a{c:Int}{a:z1a}(hk:I2a c=true)(hc:c≠10):q7a c a=decide (i1a c a=j0a):=by
 unfold q7a;rw[hk,Bool.true_and];by_cases h:i1a c a=j0a
 ·have hl:a.locks=[]:=by
   have h2:=congrArg z1a.locks h;unfold i1a at h2;rw[if_neg hc] at h2;split at h2
   ·exact h2
   ·split at h2
    ·exact h2
    ·split at h2<;>exact h2
  rw[decide_eq_true h,hl];rfl
 ·rw[decide_eq_false h,Bool.false_and]
theorem Y4b(b:z1a):(v1a 13 b==0)=decide (b=j0a):=by
 have e:g1a 13 b=b:=by unfold g1a;rw[if_neg (by decide),if_neg (by decide),if_neg (by decide)]
 unfold v1a;rw[e];by_cases h:b=j0a
 ·rw[if_pos ⟨rfl,h⟩,decide_eq_true h];rfl
 ·rw[if_neg (λh2=>h h2.2),decide_eq_false h];rfl
theorem y3b(b:W1a):(M1a 13 b==0)=decide (b=s0a):=by
 have e:u1a 13 b=b:=by unfold u1a;rw[if_neg (by decide)]
 unfold M1a;rw[e];by_cases h:b=s0a
 ·rw[if_pos ⟨rfl,h,λh0=>absurd h0 (by decide)⟩,decide_eq_true h];rfl
 ·rw[if_neg (λh2=>h h2.2.1),decide_eq_false h];rfl
section
variable {P:Program} {ops:Array Oper} {Q:Exit->Act->World->Prop}
theorem a5a{md:Region.Mode}{S:World->Prop}(i j k:Nat)(oi oj ok:Oper){fuel:Nat}{listed:Array Bool}{a:Act}{w:World}(hr:Region.ready md ops listed=[i,j,k])(hi:ops[i]? = some oi)(hj:ops[j]? = some oj)(hk:ops[k]? = some ok)
(h1:∀K:Act->World->Prop,(∀a' w',S w'->wpAnyH P md ops Q S fuel (listed.setIfInBounds i true) a' w'->K a' w')->if Region.wanted oi (yielded ops a.tmps)=true then oi.wp P a w K Q else K (a.put oi.dst undef) w)
(h2:∀K:Act->World->Prop,(∀a' w',S w'->wpAnyH P md ops Q S fuel (listed.setIfInBounds j true) a' w'->K a' w')->if Region.wanted oj (yielded ops a.tmps)=true then oj.wp P a w K Q else K (a.put oj.dst undef) w)
(h3:∀K:Act->World->Prop,(∀a' w',S w'->wpAnyH P md ops Q S fuel (listed.setIfInBounds k true) a' w'->K a' w')->if Region.wanted ok (yielded ops a.tmps)=true then ok.wp P a w K Q else K (a.put ok.dst undef) w) :
  wpAnyH P md ops Q S (fuel+1) listed a w:=by
 have one:∀(q:Nat) (oq:Oper),ops[q]? = some oq->(∀K:Act->World->Prop,(∀a' w',S w'->wpAnyH P md ops Q S fuel (listed.setIfInBounds q true) a' w'->K a' w')->if Region.wanted oq (yielded ops a.tmps)=true then oq.wp P a w K Q else K (a.put oq.dst undef) w)->
   wpOp P ops Q q (λa' w'=>S w'/\wpAnyH P md ops Q S fuel (listed.setIfInBounds q true) a' w') a w:=by
  intro q oq hq h;have h3:=h (λa' w'=>S w'/\wpAnyH P md ops Q S fuel (listed.setIfInBounds q true) a' w') λ_ _ h2 h3=>⟨h2,h3⟩
  unfold wpOp;simp only[hq];by_cases hw:Region.wanted oq (yielded ops a.tmps)=true
  ·rw[if_pos hw] at h3⊢;exact .inl h3
  ·rw[if_neg hw] at h3⊢;exact h3
 refine wpAnyH_all hr (by simp) λq hq=>?_
 rcases List.mem_cons.1 hq with rfl | hq
 ·exact one _ _ hi h1
 rcases List.mem_cons.1 hq with rfl | hq
 ·exact one _ _ hj h2
 ·obtain rfl:=List.mem_singleton.1 hq;exact one _ _ hk h3
end
theorem r9b:(Tryz.prog.info? 122).map (λi=>(i.zero,i.size))=some (some (.agg (I0a ⟨0,0,0,0⟩).toArray),4):=by kernel_rfl
theorem s9b(g:Nat)(w:World):(Instr.fieldAt 122 (.pointer (some ⟨g,0,none⟩)) 1).run Tryz.prog w=.ok (.pointer (some ⟨g,1,none⟩)) w:=by go_simp
theorem t9b(g:Nat)(w:World):(Instr.fieldAt 122 (.pointer (some ⟨g,0,none⟩)) 2).run Tryz.prog w=.ok (.pointer (some ⟨g,2,none⟩)) w:=by go_simp
theorem u9b(g:Nat)(w:World):(Instr.fieldAt 122 (.pointer (some ⟨g,0,none⟩)) 3).run Tryz.prog w=.ok (.pointer (some ⟨g,3,none⟩)) w:=by go_simp
theorem Y3a(w:World)(gl m s:Nat)(vs:List Int)(hB:Blk w gl 25 (vs.map (Value.int .u64)))(hl:vs.length=m)(hm:m<=1000)(hs:b3a (s:Int)=true)(hv:∀x∈vs,0<=x/\x<256^s) :
  Calls Tryz.prog 152 #[.int .i64 (s:Int),.slice (some ⟨gl,0,none⟩) m m] w λe w'=>∃A' c',e=.returned (.slice A' (l2a s vs).length c')/\(P0a .u8 5 w' w.heap.size (.slice A' (l2a s vs).length c') (l2a s vs)/\Holds w' w'.heap.size A' (l2a s vs).length c' (l2a s vs))/\Below w.heap.size w w':=by
 have h:=S0b w gl m s vs hB hl hm hs hv;unfold J9a at h;refine h.mono λe w' ⟨v,h1,h2,h3⟩=>?_
 have hlen:(l2a s vs).length<=281474976710656:=by
  rw[x3b,hl];have hs8:s<=8:=by rcases N1a hs with h | h | h | h<;>omega
  have h1:s*m<=8*1000:=Nat.mul_le_mul hs8 hm;omega
 obtain⟨A',c',rfl,hh⟩:=P0a.holds8 h2 (v4b s vs) hlen;exact⟨A',c',h1,⟨h2,hh⟩,h3⟩
theorem P8b(s:Nat)(x:Int):l2a s [x]=le x s:=by simp[l2a]
def Z4b(w:World)(ls:List A2a)(e:Ending)(w':World):Prop:=∃v,e=.returned v/\P0a .u8 5 w' w.heap.size v (le ls.length 2++(List.replicate 2 0++w2a ls))/\Below w.heap.size w w'
theorem z3b(w:World)(A:Option Addr)(n c:Nat)(ls:List A2a)(h:c1a I0a 4 w w.heap.size A n c ls)(hn:n<=16)(hok:∀l∈ls,l.ok) :
  Calls Tryz.prog 153 #[.slice A n c] w (Z4b w ls):=by
 have hl:=h.len;have HH:=hI h;have HOK:=hI hok;have HL:=hI hl;have hnz:IntKind.u64.wrap (n:Int)=(n:Int):=by rw[IntKind.wrap_u64];omega
 have CN0:Hid (∀(w:World) (gl:Nat),Blk w gl 25 [.int .u64 (n:Int)]->Calls Tryz.prog 152 #[.int .i64 2,.slice (some ⟨gl,0,none⟩) 1 1] w λe w'=>∃v,e=.returned v/\P0a .u8 5 w' w.heap.size v (le n 2)/\Below w.heap.size w w'):=λw gl hB=>by have h:=S0b w gl 1 2 [(n:Int)] hB rfl (by decide) (by decide) (λx hx=>by rw[List.mem_singleton.1 hx,show(256:Int)^2=65536 from by decide];omega);unfold J9a at h;rw[P8b] at h;exact h
 have CN8:Hid (∀(x y:Int),(0<=x/\x<=18446744073709551615)->(0<=y/\y<=18446744073709551615)->∀(w:World) (gl:Nat),Blk w gl 25 [.int .u64 x,.int .u64 y]->Calls Tryz.prog 152 #[.int .i64 8,.slice (some ⟨gl,0,none⟩) 2 2] w λe w'=>∃A' c',e=.returned (.slice A' 16 c')/\Holds w' w'.heap.size A' 16 c' (le x 8++le y 8)/\Below w.heap.size w w'):=λx y hx hy w gl hB=>by
  have h:=Y3a w gl 2 8 [x,y] hB rfl (by decide) (by decide) (λz hz=>by
   rw[show(256:Int)^8=18446744073709551616 from by decide];rcases List.mem_cons.1 hz with rfl | hz
   ·omega
   ·rw[List.mem_singleton.1 hz];omega)
  have e1:l2a 8 [x,y]=le x 8++le y 8:=by simp[l2a]
  rw[e1,show(le x 8++le y 8).length=16 from by rw[List.length_append,w0a,w0a]] at h;exact h.mono λe w' ⟨A',c',h1,h2,h3⟩=>⟨A',c',h1,h2.2,h3⟩
 have CN2:Hid (∀(x:Int),(0<=x/\x<=65535)->∀(w:World) (gl:Nat),Blk w gl 25 [.int .u64 x]->Calls Tryz.prog 152 #[.int .i64 2,.slice (some ⟨gl,0,none⟩) 1 1] w λe w'=>∃A' c',e=.returned (.slice A' 2 c')/\Holds w' w'.heap.size A' 2 c' (le x 2)/\Below w.heap.size w w'):=λx hx w gl hB=>by have h:=Y3a w gl 1 2 [x] hB rfl (by decide) (by decide) (λz hz=>by rw[List.mem_singleton.1 hz,show(256:Int)^2=65536 from by decide];omega);rw[P8b,w0a] at h;exact h.mono λe w' ⟨A',c',h1,h2,h3⟩=>⟨A',c',h1,h2.2,h3⟩
 have CC:Hid (∀(w:World) (gs m:Nat) (A:Nat->Option Addr) (n c:Nat->Nat) (X:Nat->List Int),f1a w gs m A n c X->m<=1000->q1b n m<=140737488355328->Calls Tryz.prog 35 #[.slice (some ⟨gs,0,none⟩) m m] w λe w'=>∃v,e=.returned v/\P0a .u8 5 w' w.heap.size v (Q3a X m)/\Below w.heap.size w w'):=R2a;have HQ:Hid (∀e w',(∃v,e=.returned v/\P0a .u8 5 w' w.heap.size v (le n 2++(List.replicate 2 0++w2a (ls.take n)))/\Below w.heap.size w w')->Z4b w ls e w'):=λe w' hh=>by rw[<-HL.out,List.take_length] at hh;exact hh
 have HST:Hid (∀(j:Nat) (l:A2a),ls[j]? = some l->w2a (ls.take (j+1))=w2a (ls.take j)++s2b l):=λj l hx=>by rw[List.take_add_one,hx,Option.toList_some,B0b]
 have HLN:Hid (∀j,j<=n->(le (n:Int) 2++(List.replicate 2 0++w2a (ls.take j))).length<=1000/\Bytes (le (n:Int) 2++(List.replicate 2 0++w2a (ls.take j)))):=λj hj=>by refine⟨?_,(F0a _ _).append ((Bytes.zeros 2).append (z6a _))⟩;rw[List.length_append,List.length_append,G8a,w0a,List.length_replicate,List.length_take];omega
 have H0:Hid (le (n:Int) 2++(List.replicate 2 0++w2a (ls.take 0))=le (n:Int) 2++List.replicate 2 0):=by show _=_;rw[List.take_zero];simp[w2a]
 obtain⟨pre,hpre⟩:∃f:Nat->List Int,f=λj=>le (n:Int) 2++(List.replicate 2 0++w2a (ls.take j)):=⟨_,rfl⟩
 have hpre2:∀j,le (n:Int) 2++(List.replicate 2 0++w2a (ls.take j))=pre j:=λj=>by rw[hpre]
 have HST2:Hid (∀(j:Nat) (l:A2a),ls[j]? = some l->pre (j+1)=pre j++s2b l):=λj l hx=>by
  rw[hpre];show le (n:Int) 2++(List.replicate 2 0++w2a (ls.take (j+1)))=(le (n:Int) 2++(List.replicate 2 0++w2a (ls.take j)))++s2b l
  rw[HST.out j l hx];simp only[List.append_assoc]
 simp only[hpre2] at HLN H0 HQ;have ZK:=hI r9b;have ZKL:Hid ((I0a ⟨0,0,0,0⟩).length=4):=rfl;obtain⟨zk,hzk⟩:∃x,x=I0a ⟨0,0,0,0⟩:=⟨_,rfl⟩;rw[<-hzk] at ZK ZKL;have hle2:(le (n:Int) 2).length=2:=w0a _ _;obtain⟨n2,hn2⟩:∃x,x=le (n:Int) 2:=⟨_,rfl⟩;rw[<-hn2] at CN0 H0 hle2;clear h hl hok hpre hpre2 HST hzk hn2 HL;go_enter Tryz.func153,Tryz.ntmps153;go_wp2_with(first
  | ((with_reducible refine sN 9 ?_);refine q1a rfl _ _ 1 _ rfl Tryz.underlying204 ([.int .u64 (n:Int)]:List Value) (by kernel_rfl) ?_;intro g1 w1 hg1 hg2 K1 L1)
  | fail)
 refine(CN0.out w1 g1 K1.out).mono ?_;rintro e w2 ⟨v2,rfl,hv2,L2⟩;have HV2:=hI (P0a.mono hv2 L1.out.size);have M2:=hI (step L1.out L2);have hs2:=M2.out.size;clear hv2 L2 L1 K1 CN0;go_wp2_with(first
  | (at_builtin;refine A7a rfl (.tmp 10) (.const (.int .i64 2)) rfl w.heap.size 2 _ n2 rfl rfl HV2.out (by decide) (by decide) (by omega) hs2 ?_;intro v3 w3 HV3 L3)
  | fail)
 rw[<-H0.out] at HV3;have M3:=hI (M2.out.trans L3.out);clear HV2 M2 L3 H0 hs2 hle2;go_loopw [3,14] (λv i wr=>∃j:Nat,i=.int .i64 j/\j<=n/\Hid (P0a .u8 5 wr w.heap.size v (pre j))/\Hid (Below w.heap.size w wr)) (λ_ i _=>n-(intOf i).toNat)
 case atStart=>exact⟨0,rfl,Nat.zero_le _,HV3,M3⟩
 case round=>
  obtain⟨j,rfl,hj,HO,HB1⟩:=hrel;by_cases hlt:j<n
  ·have hh:=HH.out.below HB1.out;obtain⟨b,off,rfl,hb,hc⟩:=hh.cells (by omega);obtain⟨l,hx⟩:∃l,ls[j]? = some l:=⟨_,List.getElem?_eq_getElem (by have:=hh.len;omega)⟩;have Rx:Hid (wr.rangeAt b (off+j*4) (I0a l)):=hh.range rfl hlt hx;have hlo:=HOK.out l (List.mem_of_getElem? hx);have HE:=hI (HST2.out j l hx);obtain⟨hln,hlb⟩:=HLN.out j hj;obtain⟨Ab,cb,rfl,hhold⟩:=P0a.holds8 HO.out hlb (by omega);have HOb:=hI hhold;obtain⟨op,x,y,z⟩:=l;have D8:=hI (CN8.out x y hlo.at_ hlo.n);have D2:=hI (CN2.out z hlo.md);obtain⟨z0,z1⟩:=hlo.md;change 0<=z at z0
   change z<=65535 at z1
   have hz:IntKind.u64.wrap z=z:=by rw[IntKind.wrap_u64];omega
   have LX:Hid ((I0a ⟨op,x,y,z⟩).length=4):=rfl;have HX1:Hid (∀v∈I0a ⟨op,x,y,z⟩,v.oneCell'=true):=O7a _;have FX:Hid (∀(w:World) (g:Nat),Blk w g 122 (I0a ⟨op,x,y,z⟩)->w.cell? ⟨g,1,none⟩=some (.int .u64 x)/\w.cell? ⟨g,2,none⟩=some (.int .u64 y)/\w.cell? ⟨g,3,none⟩=some (.int .u16 z)):=λw g h=>⟨h.at rfl,h.at rfl,h.at rfl⟩
   obtain⟨cx,hcx⟩:∃cx,cx=I0a ⟨op,x,y,z⟩:=⟨_,rfl⟩;rw[<-hcx] at Rx LX HX1 FX;have HE2:Hid (pre (j+1)=pre j++(le x 8++le y 8++(le z 2++List.replicate 2 0))):=by
    show _=_
    rw[HE.out];show pre j++(le x 8++(le y 8++(le z 2++List.replicate 2 0)))=_
    simp only[List.append_assoc]
   obtain⟨pj,hpj⟩:∃p,p=pre j:=⟨_,rfl⟩;rw[<-hpj] at HE2 HOb hln hlb⊢;obtain⟨m,hm⟩:∃m,m=pj.length:=⟨_,rfl⟩;rw[<-hm] at HOb hln⊢;obtain⟨xy,hxy⟩:∃p,p=le x 8++le y 8:=⟨_,rfl⟩;obtain⟨zz,hzz⟩:∃p,p=le z 2:=⟨_,rfl⟩;rw[<-hxy] at D8 HE2;rw[<-hzz] at D2 HE2;have hsz:=HB1.out.size;clear hh hc hx hcx hlo HE hpj hm hlb hhold HO hxy hzz;go_upto_region 5 with(first
    | ((with_reducible refine sN 17 ?_);refine u0a rfl _ (.tmp 16) rfl b (off+j*4) rfl cx _ Rx Tryz.underlying122 rfl 4 i5a LX ?_)
    | ((with_reducible refine sN 5 ?_);refine a0a rfl _ rfl zk _ ZK ?_;intro g u1 hg1 hg2 Z1 N1;have HOc:=hI (HOb.out.over N1.out);have HB2:=hI (HB1.out.trans (N1.out.mono hsz)))
    | ((with_reducible refine sT 5 ?_);refine b0a rfl _ (.tmp 5) (.tmp 17) rfl g rfl _ zk cx rfl Z1 4 i5a ZKL LX HX1 ?_;intro u2 Z2 O2 hg3;have N2:=hI (c0a N1.out O2.out hg1);have HOd:=hI (HOb.out.over N2.out);have HB3:=hI (HB1.out.trans (N2.out.mono hsz)))
    | fail)
   refine wp_region_held (S:=λw'=>Blk w' g 122 cx) (by kernel_rfl) ?_;change wpAnyH _ _ _ _ _ _ _ _ u2.drew
   have S0:Hid (Blk u2.drew g 122 cx):=Z2.out.drew;have b0:Hid (Below w.heap.size w u2.drew):=HB3.out.drew;have HB_0:=hI (HOd.out.drew);refine tK 0 _ rfl (v0a (by kernel_rfl) (.tmp 3) rfl (.slice Ab m cb) (by kernel_rfl)) S0.out ?_;refine tK 1 _ rfl (A0a (by kernel_rfl) _ (.tmp 5) 1 rfl (.pointer (some ⟨g,0,none⟩)) (.pointer (some ⟨g,1,none⟩)) (by kernel_rfl) (s9b g)) S0.out ?_;refine tK 2 _ rfl (l0a (by kernel_rfl) _ (.tmp 19) rfl g 1 (by kernel_rfl) (.int .u64 x) (λw h=>(FX.out w g h).1) _ Tryz.underlying25 rfl) S0.out ?_;refine tK 3 _ rfl (A0a (by kernel_rfl) _ (.tmp 5) 2 rfl (.pointer (some ⟨g,0,none⟩)) (.pointer (some ⟨g,2,none⟩)) (by kernel_rfl) (t9b g)) S0.out ?_;refine tK 4 _ rfl (l0a (by kernel_rfl) _ (.tmp 21) rfl g 2 (by kernel_rfl) (.int .u64 y) (λw h=>(FX.out w g h).2.1) _ Tryz.underlying25 rfl) S0.out ?_;refine tK 7 _ rfl (A0a (by kernel_rfl) _ (.tmp 5) 3 rfl (.pointer (some ⟨g,0,none⟩)) (.pointer (some ⟨g,3,none⟩)) (by kernel_rfl) (u9b g)) S0.out ?_;refine tK 8 _ rfl (l0a (by kernel_rfl) _ (.tmp 25) rfl g 3 (by kernel_rfl) (.int .u16 z) (λw h=>(FX.out w g h).2.2) _ Tryz.underlying22 rfl) S0.out ?_;refine tK 9 ((.int .u64 z)) rfl (.inl ⟨by kernel_rfl,λw _=>by go_simp⟩) S0.out ?_;refine n0a λfr1 hfr1=>?_
   refine a5a 5 10 12 _ _ _ (by kernel_rfl) rfl rfl rfl (λK hK=>?_) (λK hK=>?_) (λK hK=>?_)
   ·skip
    refine i0a rfl _ _ 2 _ rfl Tryz.underlying204 ([.int .u64 x,.int .u64 y]:List Value) (by rw[hfr1];kernel_rfl) ?_;intro g2 wt2 qa qb Y2 L2;have S2:=hI (S0.out.over L2.out);have b2:=hI (step b0.out L2.out);have HB_2:=hI (HB_0.out.over L2.out);refine hK _ _ S2.out ?_;clear hK K;subst hfr1;refine n0a λfr3 hfr3=>?_
    refine a5a 6 10 12 _ _ _ (by kernel_rfl) rfl rfl rfl (λK hK=>?_) (λK hK=>?_) (λK hK=>?_)
    ·skip
     subst hfr3;go_simp;refine(D8.out _ _ Y2.out).mono ?_;rintro e wt4 ⟨A4,c4,rfl,hY4,L04⟩;have Y4:=hI hY4;have L4:=hI L04;clear hY4 L04;have S4:=hI (S2.out.over L4.out);have b4:=hI (step b2.out L4.out);have HB_4:=hI (HB_2.out.over L4.out);refine hK _ _ S4.out ?_;clear hK K;refine n0a λfr5 hfr5=>?_
     refine k1a 10 12 _ _ (by kernel_rfl) rfl rfl (λK hK=>?_) (λK hK=>?_)
     ·skip
      refine i0a rfl _ _ 1 _ rfl Tryz.underlying204 ([.int .u64 z]:List Value) (by rw[hfr5];kernel_rfl) ?_;intro g6 wt6 qa qb Y6 L6;have S6:=hI (S4.out.over L6.out);have b6:=hI (step b4.out L6.out);have HB_6:=hI (HB_4.out.over L6.out);have xA_6:=hI (Y4.out.over L6.out);refine hK _ _ S6.out ?_;clear hK K;subst hfr5;refine n0a λfr7 hfr7=>?_
      refine k1a 11 12 _ _ (by kernel_rfl) rfl rfl (λK hK=>?_) (λK hK=>?_)
      ·skip
       subst hfr7;go_simp;refine(D2.out _ _ Y6.out).mono ?_;rintro e wt8 ⟨A8,c8,rfl,hY8,L08⟩;have Y8:=hI hY8;have L8:=hI L08;clear hY8 L08;have S8:=hI (S6.out.over L8.out);have b8:=hI (step b6.out L8.out);have HB_8:=hI (HB_6.out.over L8.out);have xA_8:=hI (xA_6.out.over L8.out);refine hK _ _ S8.out ?_;clear hK K;refine oN 12 _ rfl λK hK=>?_
       refine H0a rfl _ _ rfl 2 rfl rfl (by omega) ?_;intro wt9 R9 L9;have Y9:=hI (C1a.holds (base:=0) (.inr ⟨_,rfl,Nat.zero_le _,R9.out⟩) (by rfl:(List.replicate 2 (0:Int)).length=2) (Bytes.zeros 2) (by omega));clear R9;have S9:=hI (S8.out.over L9.out);have b9:=hI (step b8.out L9.out);have HB_9:=hI (HB_8.out.over L9.out);have xA_9:=hI (xA_8.out.over L9.out);have zC_9:=hI (Y8.out.over L9.out);refine hK _ _ S9.out ?_;clear hK K;refine n0a λfr10 hfr10=>?_
       refine oN 13 _ rfl λK hK=>?_
       refine i0a rfl _ _ 4 _ rfl Tryz.underlying99 ([.slice Ab m cb,.slice A4 16 c4,.slice A8 2 c8,.slice (some ⟨wt8.heap.size,0,none⟩) 2 2]:List Value) (by rw[hfr10];kernel_rfl) ?_;intro g11 wt11 qa qb Y011 L11;have Y11:Hid (f1a wt11 g11 4 (x2a [(Ab,m,cb,pj),(A4,16,c4,xy),(A8,2,c8,zz),((some ⟨wt8.heap.size,0,none⟩),2,2,List.replicate 2 0)]) (y2a [(Ab,m,cb,pj),(A4,16,c4,xy),(A8,2,c8,zz),((some ⟨wt8.heap.size,0,none⟩),2,2,List.replicate 2 0)]) (z2a [(Ab,m,cb,pj),(A4,16,c4,xy),(A8,2,c8,zz),((some ⟨wt8.heap.size,0,none⟩),2,2,List.replicate 2 0)]) (o1a [(Ab,m,cb,pj),(A4,16,c4,xy),(A8,2,c8,zz),((some ⟨wt8.heap.size,0,none⟩),2,2,List.replicate 2 0)])):=f1a.of_blk [(Ab,m,cb,pj),(A4,16,c4,xy),(A8,2,c8,zz),((some ⟨wt8.heap.size,0,none⟩),2,2,List.replicate 2 0)] Y011.out (List.forall_mem_cons.2 ⟨HB_9.out.over L11.out,List.forall_mem_cons.2 ⟨xA_9.out.over L11.out,List.forall_mem_cons.2 ⟨zC_9.out.over L11.out,List.forall_mem_cons.2 ⟨Y9.out.over L11.out,λ_ h=>by cases h⟩⟩⟩⟩);clear Y011;have S11:=hI (S9.out.over L11.out);have b11:=hI (step b9.out L11.out);refine hK _ _ S11.out ?_;clear hK K;subst hfr10;refine oN 14 _ rfl λK hK=>?_
       go_simp;refine(CC.out _ g11 4 _ _ _ _ Y11.out (by omega) (by show 0+m+16+2+2<=_;omega)).mono ?_;rintro e wt12 ⟨v,rfl,hY12,L012⟩;have OUT:=hI hY12;have L12:=hI L012;clear hY12 L012;have hsz0:=b11.out.size;have S12:=hI (S11.out.over L12.out);have b12:=hI (step b11.out L12.out);refine hK _ _ S12.out ?_;clear hK K;refine oN 15 _ rfl λK hK=>?_
       go_simp;refine hK _ _ S12.out ?_;clear hK K;refine dN ?_;have HO6:=hI (P0a.mono OUT.out (Nat.le_trans hsz0 (Nat.le_refl _)));have HO7:Hid (P0a .u8 5 wt12 w.heap.size v (pre (j+1))):=by
        show P0a _ _ _ _ _ _
        rw[HE2.out];have h9:=HO6.out;simpa[Q3a,o1a,List.append_assoc] using h9
       have HB9:=hI b12.out;clear OUT HO6;go_wp2;go_roundw
       case rel=>exact⟨j+1,by simp,by omega,HO7,HB9⟩
       case measure=>simp[intOf];omega
      ·skip
       subst hfr7;refine H0a rfl _ _ rfl 2 rfl rfl (by omega) ?_;intro wt14 R14 L14;have Y14:=hI (C1a.holds (base:=0) (.inr ⟨_,rfl,Nat.zero_le _,R14.out⟩) (by rfl:(List.replicate 2 (0:Int)).length=2) (Bytes.zeros 2) (by omega));clear R14;have S14:=hI (S6.out.over L14.out);have b14:=hI (step b6.out L14.out);have HB_14:=hI (HB_6.out.over L14.out);have xA_14:=hI (xA_6.out.over L14.out);have lC_14:=hI (Y6.out.over L14.out);refine hK _ _ S14.out ?_;clear hK K;refine oN 11 _ rfl λK hK=>?_
       go_simp;refine(D2.out _ _ lC_14.out).mono ?_;rintro e wt15 ⟨A15,c15,rfl,hY15,L015⟩;have Y15:=hI hY15;have L15:=hI L015;clear hY15 L015;have S15:=hI (S14.out.over L15.out);have b15:=hI (step b14.out L15.out);have HB_15:=hI (HB_14.out.over L15.out);have xA_15:=hI (xA_14.out.over L15.out);have nE_15:=hI (Y14.out.over L15.out);refine hK _ _ S15.out ?_;clear hK K;refine n0a λfr16 hfr16=>?_
       refine oN 13 _ rfl λK hK=>?_
       refine i0a rfl _ _ 4 _ rfl Tryz.underlying99 ([.slice Ab m cb,.slice A4 16 c4,.slice A15 2 c15,.slice (some ⟨wt6.heap.size,0,none⟩) 2 2]:List Value) (by rw[hfr16];kernel_rfl) ?_;intro g17 wt17 qa qb Y017 L17;have Y17:Hid (f1a wt17 g17 4 (x2a [(Ab,m,cb,pj),(A4,16,c4,xy),(A15,2,c15,zz),((some ⟨wt6.heap.size,0,none⟩),2,2,List.replicate 2 0)]) (y2a [(Ab,m,cb,pj),(A4,16,c4,xy),(A15,2,c15,zz),((some ⟨wt6.heap.size,0,none⟩),2,2,List.replicate 2 0)]) (z2a [(Ab,m,cb,pj),(A4,16,c4,xy),(A15,2,c15,zz),((some ⟨wt6.heap.size,0,none⟩),2,2,List.replicate 2 0)]) (o1a [(Ab,m,cb,pj),(A4,16,c4,xy),(A15,2,c15,zz),((some ⟨wt6.heap.size,0,none⟩),2,2,List.replicate 2 0)])):=f1a.of_blk [(Ab,m,cb,pj),(A4,16,c4,xy),(A15,2,c15,zz),((some ⟨wt6.heap.size,0,none⟩),2,2,List.replicate 2 0)] Y017.out (List.forall_mem_cons.2 ⟨HB_15.out.over L17.out,List.forall_mem_cons.2 ⟨xA_15.out.over L17.out,List.forall_mem_cons.2 ⟨Y15.out.over L17.out,List.forall_mem_cons.2 ⟨nE_15.out.over L17.out,λ_ h=>by cases h⟩⟩⟩⟩);clear Y017;have S17:=hI (S15.out.over L17.out);have b17:=hI (step b15.out L17.out);refine hK _ _ S17.out ?_;clear hK K;subst hfr16;refine oN 14 _ rfl λK hK=>?_
       go_simp;refine(CC.out _ g17 4 _ _ _ _ Y17.out (by omega) (by show 0+m+16+2+2<=_;omega)).mono ?_;rintro e wt18 ⟨v,rfl,hY18,L018⟩;have OUT:=hI hY18;have L18:=hI L018;clear hY18 L018;have hsz0:=b17.out.size;have S18:=hI (S17.out.over L18.out);have b18:=hI (step b17.out L18.out);refine hK _ _ S18.out ?_;clear hK K;refine oN 15 _ rfl λK hK=>?_
       go_simp;refine hK _ _ S18.out ?_;clear hK K;refine dN ?_;have HO6:=hI (P0a.mono OUT.out (Nat.le_trans hsz0 (Nat.le_refl _)));have HO7:Hid (P0a .u8 5 wt18 w.heap.size v (pre (j+1))):=by
        show P0a _ _ _ _ _ _
        rw[HE2.out];have h9:=HO6.out;simpa[Q3a,o1a,List.append_assoc] using h9
       have HB9:=hI b18.out;clear OUT HO6;go_wp2;go_roundw
       case rel=>exact⟨j+1,by simp,by omega,HO7,HB9⟩
       case measure=>simp[intOf];omega
     ·skip
      subst hfr5;refine H0a rfl _ _ rfl 2 rfl rfl (by omega) ?_;intro wt20 R20 L20;have Y20:=hI (C1a.holds (base:=0) (.inr ⟨_,rfl,Nat.zero_le _,R20.out⟩) (by rfl:(List.replicate 2 (0:Int)).length=2) (Bytes.zeros 2) (by omega));clear R20;have S20:=hI (S4.out.over L20.out);have b20:=hI (step b4.out L20.out);have HB_20:=hI (HB_4.out.over L20.out);have xA_20:=hI (Y4.out.over L20.out);refine hK _ _ S20.out ?_;clear hK K;refine n0a λfr21 hfr21=>?_
      refine oN 10 _ rfl λK hK=>?_
      refine i0a rfl _ _ 1 _ rfl Tryz.underlying204 ([.int .u64 z]:List Value) (by rw[hfr21];kernel_rfl) ?_;intro g22 wt22 qa qb Y22 L22;have S22:=hI (S20.out.over L22.out);have b22:=hI (step b20.out L22.out);have HB_22:=hI (HB_20.out.over L22.out);have xA_22:=hI (xA_20.out.over L22.out);have nE_22:=hI (Y20.out.over L22.out);refine hK _ _ S22.out ?_;clear hK K;subst hfr21;refine oN 11 _ rfl λK hK=>?_
      go_simp;refine(D2.out _ _ Y22.out).mono ?_;rintro e wt23 ⟨A23,c23,rfl,hY23,L023⟩;have Y23:=hI hY23;have L23:=hI L023;clear hY23 L023;have S23:=hI (S22.out.over L23.out);have b23:=hI (step b22.out L23.out);have HB_23:=hI (HB_22.out.over L23.out);have xA_23:=hI (xA_22.out.over L23.out);have nE_23:=hI (nE_22.out.over L23.out);refine hK _ _ S23.out ?_;clear hK K;refine n0a λfr24 hfr24=>?_
      refine oN 13 _ rfl λK hK=>?_
      refine i0a rfl _ _ 4 _ rfl Tryz.underlying99 ([.slice Ab m cb,.slice A4 16 c4,.slice A23 2 c23,.slice (some ⟨wt4.heap.size,0,none⟩) 2 2]:List Value) (by rw[hfr24];kernel_rfl) ?_;intro g25 wt25 qa qb Y025 L25;have Y25:Hid (f1a wt25 g25 4 (x2a [(Ab,m,cb,pj),(A4,16,c4,xy),(A23,2,c23,zz),((some ⟨wt4.heap.size,0,none⟩),2,2,List.replicate 2 0)]) (y2a [(Ab,m,cb,pj),(A4,16,c4,xy),(A23,2,c23,zz),((some ⟨wt4.heap.size,0,none⟩),2,2,List.replicate 2 0)]) (z2a [(Ab,m,cb,pj),(A4,16,c4,xy),(A23,2,c23,zz),((some ⟨wt4.heap.size,0,none⟩),2,2,List.replicate 2 0)]) (o1a [(Ab,m,cb,pj),(A4,16,c4,xy),(A23,2,c23,zz),((some ⟨wt4.heap.size,0,none⟩),2,2,List.replicate 2 0)])):=f1a.of_blk [(Ab,m,cb,pj),(A4,16,c4,xy),(A23,2,c23,zz),((some ⟨wt4.heap.size,0,none⟩),2,2,List.replicate 2 0)] Y025.out (List.forall_mem_cons.2 ⟨HB_23.out.over L25.out,List.forall_mem_cons.2 ⟨xA_23.out.over L25.out,List.forall_mem_cons.2 ⟨Y23.out.over L25.out,List.forall_mem_cons.2 ⟨nE_23.out.over L25.out,λ_ h=>by cases h⟩⟩⟩⟩);clear Y025;have S25:=hI (S23.out.over L25.out);have b25:=hI (step b23.out L25.out);refine hK _ _ S25.out ?_;clear hK K;subst hfr24;refine oN 14 _ rfl λK hK=>?_
      go_simp;refine(CC.out _ g25 4 _ _ _ _ Y25.out (by omega) (by show 0+m+16+2+2<=_;omega)).mono ?_;rintro e wt26 ⟨v,rfl,hY26,L026⟩;have OUT:=hI hY26;have L26:=hI L026;clear hY26 L026;have hsz0:=b25.out.size;have S26:=hI (S25.out.over L26.out);have b26:=hI (step b25.out L26.out);refine hK _ _ S26.out ?_;clear hK K;refine oN 15 _ rfl λK hK=>?_
      go_simp;refine hK _ _ S26.out ?_;clear hK K;refine dN ?_;have HO6:=hI (P0a.mono OUT.out (Nat.le_trans hsz0 (Nat.le_refl _)));have HO7:Hid (P0a .u8 5 wt26 w.heap.size v (pre (j+1))):=by
       show P0a _ _ _ _ _ _
       rw[HE2.out];have h9:=HO6.out;simpa[Q3a,o1a,List.append_assoc] using h9
      have HB9:=hI b26.out;clear OUT HO6;go_wp2;go_roundw
      case rel=>exact⟨j+1,by simp,by omega,HO7,HB9⟩
      case measure=>simp[intOf];omega
    ·skip
     refine i0a rfl _ _ 1 _ rfl Tryz.underlying204 ([.int .u64 z]:List Value) (by rw[hfr3];kernel_rfl) ?_;intro g28 wt28 qa qb Y28 L28;have S28:=hI (S2.out.over L28.out);have b28:=hI (step b2.out L28.out);have HB_28:=hI (HB_2.out.over L28.out);have lA_28:=hI (Y2.out.over L28.out);refine hK _ _ S28.out ?_;clear hK K;subst hfr3;refine n0a λfr29 hfr29=>?_
     refine k1a 6 12 _ _ (by kernel_rfl) rfl rfl (λK hK=>?_) (λK hK=>?_)
     ·skip
      subst hfr29;go_simp;refine(D8.out _ _ lA_28.out).mono ?_;rintro e wt30 ⟨A30,c30,rfl,hY30,L030⟩;have Y30:=hI hY30;have L30:=hI L030;clear hY30 L030;have S30:=hI (S28.out.over L30.out);have b30:=hI (step b28.out L30.out);have HB_30:=hI (HB_28.out.over L30.out);have lC_30:=hI (Y28.out.over L30.out);refine hK _ _ S30.out ?_;clear hK K;refine n0a λfr31 hfr31=>?_
      refine k1a 11 12 _ _ (by kernel_rfl) rfl rfl (λK hK=>?_) (λK hK=>?_)
      ·skip
       subst hfr31;go_simp;refine(D2.out _ _ lC_30.out).mono ?_;rintro e wt32 ⟨A32,c32,rfl,hY32,L032⟩;have Y32:=hI hY32;have L32:=hI L032;clear hY32 L032;have S32:=hI (S30.out.over L32.out);have b32:=hI (step b30.out L32.out);have HB_32:=hI (HB_30.out.over L32.out);have xA_32:=hI (Y30.out.over L32.out);refine hK _ _ S32.out ?_;clear hK K;refine oN 12 _ rfl λK hK=>?_
       refine H0a rfl _ _ rfl 2 rfl rfl (by omega) ?_;intro wt33 R33 L33;have Y33:=hI (C1a.holds (base:=0) (.inr ⟨_,rfl,Nat.zero_le _,R33.out⟩) (by rfl:(List.replicate 2 (0:Int)).length=2) (Bytes.zeros 2) (by omega));clear R33;have S33:=hI (S32.out.over L33.out);have b33:=hI (step b32.out L33.out);have HB_33:=hI (HB_32.out.over L33.out);have xA_33:=hI (xA_32.out.over L33.out);have zC_33:=hI (Y32.out.over L33.out);refine hK _ _ S33.out ?_;clear hK K;refine n0a λfr34 hfr34=>?_
       refine oN 13 _ rfl λK hK=>?_
       refine i0a rfl _ _ 4 _ rfl Tryz.underlying99 ([.slice Ab m cb,.slice A30 16 c30,.slice A32 2 c32,.slice (some ⟨wt32.heap.size,0,none⟩) 2 2]:List Value) (by rw[hfr34];kernel_rfl) ?_;intro g35 wt35 qa qb Y035 L35;have Y35:Hid (f1a wt35 g35 4 (x2a [(Ab,m,cb,pj),(A30,16,c30,xy),(A32,2,c32,zz),((some ⟨wt32.heap.size,0,none⟩),2,2,List.replicate 2 0)]) (y2a [(Ab,m,cb,pj),(A30,16,c30,xy),(A32,2,c32,zz),((some ⟨wt32.heap.size,0,none⟩),2,2,List.replicate 2 0)]) (z2a [(Ab,m,cb,pj),(A30,16,c30,xy),(A32,2,c32,zz),((some ⟨wt32.heap.size,0,none⟩),2,2,List.replicate 2 0)]) (o1a [(Ab,m,cb,pj),(A30,16,c30,xy),(A32,2,c32,zz),((some ⟨wt32.heap.size,0,none⟩),2,2,List.replicate 2 0)])):=f1a.of_blk [(Ab,m,cb,pj),(A30,16,c30,xy),(A32,2,c32,zz),((some ⟨wt32.heap.size,0,none⟩),2,2,List.replicate 2 0)] Y035.out (List.forall_mem_cons.2 ⟨HB_33.out.over L35.out,List.forall_mem_cons.2 ⟨xA_33.out.over L35.out,List.forall_mem_cons.2 ⟨zC_33.out.over L35.out,List.forall_mem_cons.2 ⟨Y33.out.over L35.out,λ_ h=>by cases h⟩⟩⟩⟩);clear Y035;have S35:=hI (S33.out.over L35.out);have b35:=hI (step b33.out L35.out);refine hK _ _ S35.out ?_;clear hK K;subst hfr34;refine oN 14 _ rfl λK hK=>?_
       go_simp;refine(CC.out _ g35 4 _ _ _ _ Y35.out (by omega) (by show 0+m+16+2+2<=_;omega)).mono ?_;rintro e wt36 ⟨v,rfl,hY36,L036⟩;have OUT:=hI hY36;have L36:=hI L036;clear hY36 L036;have hsz0:=b35.out.size;have S36:=hI (S35.out.over L36.out);have b36:=hI (step b35.out L36.out);refine hK _ _ S36.out ?_;clear hK K;refine oN 15 _ rfl λK hK=>?_
       go_simp;refine hK _ _ S36.out ?_;clear hK K;refine dN ?_;have HO6:=hI (P0a.mono OUT.out (Nat.le_trans hsz0 (Nat.le_refl _)));have HO7:Hid (P0a .u8 5 wt36 w.heap.size v (pre (j+1))):=by
        show P0a _ _ _ _ _ _
        rw[HE2.out];have h9:=HO6.out;simpa[Q3a,o1a,List.append_assoc] using h9
       have HB9:=hI b36.out;clear OUT HO6;go_wp2;go_roundw
       case rel=>exact⟨j+1,by simp,by omega,HO7,HB9⟩
       case measure=>simp[intOf];omega
      ·skip
       subst hfr31;refine H0a rfl _ _ rfl 2 rfl rfl (by omega) ?_;intro wt38 R38 L38;have Y38:=hI (C1a.holds (base:=0) (.inr ⟨_,rfl,Nat.zero_le _,R38.out⟩) (by rfl:(List.replicate 2 (0:Int)).length=2) (Bytes.zeros 2) (by omega));clear R38;have S38:=hI (S30.out.over L38.out);have b38:=hI (step b30.out L38.out);have HB_38:=hI (HB_30.out.over L38.out);have lC_38:=hI (lC_30.out.over L38.out);have xA_38:=hI (Y30.out.over L38.out);refine hK _ _ S38.out ?_;clear hK K;refine oN 11 _ rfl λK hK=>?_
       go_simp;refine(D2.out _ _ lC_38.out).mono ?_;rintro e wt39 ⟨A39,c39,rfl,hY39,L039⟩;have Y39:=hI hY39;have L39:=hI L039;clear hY39 L039;have S39:=hI (S38.out.over L39.out);have b39:=hI (step b38.out L39.out);have HB_39:=hI (HB_38.out.over L39.out);have xA_39:=hI (xA_38.out.over L39.out);have nE_39:=hI (Y38.out.over L39.out);refine hK _ _ S39.out ?_;clear hK K;refine n0a λfr40 hfr40=>?_
       refine oN 13 _ rfl λK hK=>?_
       refine i0a rfl _ _ 4 _ rfl Tryz.underlying99 ([.slice Ab m cb,.slice A30 16 c30,.slice A39 2 c39,.slice (some ⟨wt30.heap.size,0,none⟩) 2 2]:List Value) (by rw[hfr40];kernel_rfl) ?_;intro g41 wt41 qa qb Y041 L41;have Y41:Hid (f1a wt41 g41 4 (x2a [(Ab,m,cb,pj),(A30,16,c30,xy),(A39,2,c39,zz),((some ⟨wt30.heap.size,0,none⟩),2,2,List.replicate 2 0)]) (y2a [(Ab,m,cb,pj),(A30,16,c30,xy),(A39,2,c39,zz),((some ⟨wt30.heap.size,0,none⟩),2,2,List.replicate 2 0)]) (z2a [(Ab,m,cb,pj),(A30,16,c30,xy),(A39,2,c39,zz),((some ⟨wt30.heap.size,0,none⟩),2,2,List.replicate 2 0)]) (o1a [(Ab,m,cb,pj),(A30,16,c30,xy),(A39,2,c39,zz),((some ⟨wt30.heap.size,0,none⟩),2,2,List.replicate 2 0)])):=f1a.of_blk [(Ab,m,cb,pj),(A30,16,c30,xy),(A39,2,c39,zz),((some ⟨wt30.heap.size,0,none⟩),2,2,List.replicate 2 0)] Y041.out (List.forall_mem_cons.2 ⟨HB_39.out.over L41.out,List.forall_mem_cons.2 ⟨xA_39.out.over L41.out,List.forall_mem_cons.2 ⟨Y39.out.over L41.out,List.forall_mem_cons.2 ⟨nE_39.out.over L41.out,λ_ h=>by cases h⟩⟩⟩⟩);clear Y041;have S41:=hI (S39.out.over L41.out);have b41:=hI (step b39.out L41.out);refine hK _ _ S41.out ?_;clear hK K;subst hfr40;refine oN 14 _ rfl λK hK=>?_
       go_simp;refine(CC.out _ g41 4 _ _ _ _ Y41.out (by omega) (by show 0+m+16+2+2<=_;omega)).mono ?_;rintro e wt42 ⟨v,rfl,hY42,L042⟩;have OUT:=hI hY42;have L42:=hI L042;clear hY42 L042;have hsz0:=b41.out.size;have S42:=hI (S41.out.over L42.out);have b42:=hI (step b41.out L42.out);refine hK _ _ S42.out ?_;clear hK K;refine oN 15 _ rfl λK hK=>?_
       go_simp;refine hK _ _ S42.out ?_;clear hK K;refine dN ?_;have HO6:=hI (P0a.mono OUT.out (Nat.le_trans hsz0 (Nat.le_refl _)));have HO7:Hid (P0a .u8 5 wt42 w.heap.size v (pre (j+1))):=by
        show P0a _ _ _ _ _ _
        rw[HE2.out];have h9:=HO6.out;simpa[Q3a,o1a,List.append_assoc] using h9
       have HB9:=hI b42.out;clear OUT HO6;go_wp2;go_roundw
       case rel=>exact⟨j+1,by simp,by omega,HO7,HB9⟩
       case measure=>simp[intOf];omega
     ·skip
      subst hfr29;refine H0a rfl _ _ rfl 2 rfl rfl (by omega) ?_;intro wt44 R44 L44;have Y44:=hI (C1a.holds (base:=0) (.inr ⟨_,rfl,Nat.zero_le _,R44.out⟩) (by rfl:(List.replicate 2 (0:Int)).length=2) (Bytes.zeros 2) (by omega));clear R44;have S44:=hI (S28.out.over L44.out);have b44:=hI (step b28.out L44.out);have HB_44:=hI (HB_28.out.over L44.out);have lA_44:=hI (lA_28.out.over L44.out);have lC_44:=hI (Y28.out.over L44.out);refine hK _ _ S44.out ?_;clear hK K;refine oN 6 _ rfl λK hK=>?_
      go_simp;refine(D8.out _ _ lA_44.out).mono ?_;rintro e wt45 ⟨A45,c45,rfl,hY45,L045⟩;have Y45:=hI hY45;have L45:=hI L045;clear hY45 L045;have S45:=hI (S44.out.over L45.out);have b45:=hI (step b44.out L45.out);have HB_45:=hI (HB_44.out.over L45.out);have lC_45:=hI (lC_44.out.over L45.out);have nE_45:=hI (Y44.out.over L45.out);refine hK _ _ S45.out ?_;clear hK K;refine oN 11 _ rfl λK hK=>?_
      go_simp;refine(D2.out _ _ lC_45.out).mono ?_;rintro e wt46 ⟨A46,c46,rfl,hY46,L046⟩;have Y46:=hI hY46;have L46:=hI L046;clear hY46 L046;have S46:=hI (S45.out.over L46.out);have b46:=hI (step b45.out L46.out);have HB_46:=hI (HB_45.out.over L46.out);have nE_46:=hI (nE_45.out.over L46.out);have xA_46:=hI (Y45.out.over L46.out);refine hK _ _ S46.out ?_;clear hK K;refine n0a λfr47 hfr47=>?_
      refine oN 13 _ rfl λK hK=>?_
      refine i0a rfl _ _ 4 _ rfl Tryz.underlying99 ([.slice Ab m cb,.slice A45 16 c45,.slice A46 2 c46,.slice (some ⟨wt28.heap.size,0,none⟩) 2 2]:List Value) (by rw[hfr47];kernel_rfl) ?_;intro g48 wt48 qa qb Y048 L48;have Y48:Hid (f1a wt48 g48 4 (x2a [(Ab,m,cb,pj),(A45,16,c45,xy),(A46,2,c46,zz),((some ⟨wt28.heap.size,0,none⟩),2,2,List.replicate 2 0)]) (y2a [(Ab,m,cb,pj),(A45,16,c45,xy),(A46,2,c46,zz),((some ⟨wt28.heap.size,0,none⟩),2,2,List.replicate 2 0)]) (z2a [(Ab,m,cb,pj),(A45,16,c45,xy),(A46,2,c46,zz),((some ⟨wt28.heap.size,0,none⟩),2,2,List.replicate 2 0)]) (o1a [(Ab,m,cb,pj),(A45,16,c45,xy),(A46,2,c46,zz),((some ⟨wt28.heap.size,0,none⟩),2,2,List.replicate 2 0)])):=f1a.of_blk [(Ab,m,cb,pj),(A45,16,c45,xy),(A46,2,c46,zz),((some ⟨wt28.heap.size,0,none⟩),2,2,List.replicate 2 0)] Y048.out (List.forall_mem_cons.2 ⟨HB_46.out.over L48.out,List.forall_mem_cons.2 ⟨xA_46.out.over L48.out,List.forall_mem_cons.2 ⟨Y46.out.over L48.out,List.forall_mem_cons.2 ⟨nE_46.out.over L48.out,λ_ h=>by cases h⟩⟩⟩⟩);clear Y048;have S48:=hI (S46.out.over L48.out);have b48:=hI (step b46.out L48.out);refine hK _ _ S48.out ?_;clear hK K;subst hfr47;refine oN 14 _ rfl λK hK=>?_
      go_simp;refine(CC.out _ g48 4 _ _ _ _ Y48.out (by omega) (by show 0+m+16+2+2<=_;omega)).mono ?_;rintro e wt49 ⟨v,rfl,hY49,L049⟩;have OUT:=hI hY49;have L49:=hI L049;clear hY49 L049;have hsz0:=b48.out.size;have S49:=hI (S48.out.over L49.out);have b49:=hI (step b48.out L49.out);refine hK _ _ S49.out ?_;clear hK K;refine oN 15 _ rfl λK hK=>?_
      go_simp;refine hK _ _ S49.out ?_;clear hK K;refine dN ?_;have HO6:=hI (P0a.mono OUT.out (Nat.le_trans hsz0 (Nat.le_refl _)));have HO7:Hid (P0a .u8 5 wt49 w.heap.size v (pre (j+1))):=by
       show P0a _ _ _ _ _ _
       rw[HE2.out];have h9:=HO6.out;simpa[Q3a,o1a,List.append_assoc] using h9
      have HB9:=hI b49.out;clear OUT HO6;go_wp2;go_roundw
      case rel=>exact⟨j+1,by simp,by omega,HO7,HB9⟩
      case measure=>simp[intOf];omega
    ·skip
     subst hfr3;refine H0a rfl _ _ rfl 2 rfl rfl (by omega) ?_;intro wt51 R51 L51;have Y51:=hI (C1a.holds (base:=0) (.inr ⟨_,rfl,Nat.zero_le _,R51.out⟩) (by rfl:(List.replicate 2 (0:Int)).length=2) (Bytes.zeros 2) (by omega));clear R51;have S51:=hI (S2.out.over L51.out);have b51:=hI (step b2.out L51.out);have HB_51:=hI (HB_2.out.over L51.out);have lA_51:=hI (Y2.out.over L51.out);refine hK _ _ S51.out ?_;clear hK K;refine n0a λfr52 hfr52=>?_
     refine k1a 6 10 _ _ (by kernel_rfl) rfl rfl (λK hK=>?_) (λK hK=>?_)
     ·skip
      subst hfr52;go_simp;refine(D8.out _ _ lA_51.out).mono ?_;rintro e wt53 ⟨A53,c53,rfl,hY53,L053⟩;have Y53:=hI hY53;have L53:=hI L053;clear hY53 L053;have S53:=hI (S51.out.over L53.out);have b53:=hI (step b51.out L53.out);have HB_53:=hI (HB_51.out.over L53.out);have nE_53:=hI (Y51.out.over L53.out);refine hK _ _ S53.out ?_;clear hK K;refine n0a λfr54 hfr54=>?_
      refine oN 10 _ rfl λK hK=>?_
      refine i0a rfl _ _ 1 _ rfl Tryz.underlying204 ([.int .u64 z]:List Value) (by rw[hfr54];kernel_rfl) ?_;intro g55 wt55 qa qb Y55 L55;have S55:=hI (S53.out.over L55.out);have b55:=hI (step b53.out L55.out);have HB_55:=hI (HB_53.out.over L55.out);have nE_55:=hI (nE_53.out.over L55.out);have xA_55:=hI (Y53.out.over L55.out);refine hK _ _ S55.out ?_;clear hK K;subst hfr54;refine oN 11 _ rfl λK hK=>?_
      go_simp;refine(D2.out _ _ Y55.out).mono ?_;rintro e wt56 ⟨A56,c56,rfl,hY56,L056⟩;have Y56:=hI hY56;have L56:=hI L056;clear hY56 L056;have S56:=hI (S55.out.over L56.out);have b56:=hI (step b55.out L56.out);have HB_56:=hI (HB_55.out.over L56.out);have nE_56:=hI (nE_55.out.over L56.out);have xA_56:=hI (xA_55.out.over L56.out);refine hK _ _ S56.out ?_;clear hK K;refine n0a λfr57 hfr57=>?_
      refine oN 13 _ rfl λK hK=>?_
      refine i0a rfl _ _ 4 _ rfl Tryz.underlying99 ([.slice Ab m cb,.slice A53 16 c53,.slice A56 2 c56,.slice (some ⟨wt2.heap.size,0,none⟩) 2 2]:List Value) (by rw[hfr57];kernel_rfl) ?_;intro g58 wt58 qa qb Y058 L58;have Y58:Hid (f1a wt58 g58 4 (x2a [(Ab,m,cb,pj),(A53,16,c53,xy),(A56,2,c56,zz),((some ⟨wt2.heap.size,0,none⟩),2,2,List.replicate 2 0)]) (y2a [(Ab,m,cb,pj),(A53,16,c53,xy),(A56,2,c56,zz),((some ⟨wt2.heap.size,0,none⟩),2,2,List.replicate 2 0)]) (z2a [(Ab,m,cb,pj),(A53,16,c53,xy),(A56,2,c56,zz),((some ⟨wt2.heap.size,0,none⟩),2,2,List.replicate 2 0)]) (o1a [(Ab,m,cb,pj),(A53,16,c53,xy),(A56,2,c56,zz),((some ⟨wt2.heap.size,0,none⟩),2,2,List.replicate 2 0)])):=f1a.of_blk [(Ab,m,cb,pj),(A53,16,c53,xy),(A56,2,c56,zz),((some ⟨wt2.heap.size,0,none⟩),2,2,List.replicate 2 0)] Y058.out (List.forall_mem_cons.2 ⟨HB_56.out.over L58.out,List.forall_mem_cons.2 ⟨xA_56.out.over L58.out,List.forall_mem_cons.2 ⟨Y56.out.over L58.out,List.forall_mem_cons.2 ⟨nE_56.out.over L58.out,λ_ h=>by cases h⟩⟩⟩⟩);clear Y058;have S58:=hI (S56.out.over L58.out);have b58:=hI (step b56.out L58.out);refine hK _ _ S58.out ?_;clear hK K;subst hfr57;refine oN 14 _ rfl λK hK=>?_
      go_simp;refine(CC.out _ g58 4 _ _ _ _ Y58.out (by omega) (by show 0+m+16+2+2<=_;omega)).mono ?_;rintro e wt59 ⟨v,rfl,hY59,L059⟩;have OUT:=hI hY59;have L59:=hI L059;clear hY59 L059;have hsz0:=b58.out.size;have S59:=hI (S58.out.over L59.out);have b59:=hI (step b58.out L59.out);refine hK _ _ S59.out ?_;clear hK K;refine oN 15 _ rfl λK hK=>?_
      go_simp;refine hK _ _ S59.out ?_;clear hK K;refine dN ?_;have HO6:=hI (P0a.mono OUT.out (Nat.le_trans hsz0 (Nat.le_refl _)));have HO7:Hid (P0a .u8 5 wt59 w.heap.size v (pre (j+1))):=by
       show P0a _ _ _ _ _ _
       rw[HE2.out];have h9:=HO6.out;simpa[Q3a,o1a,List.append_assoc] using h9
      have HB9:=hI b59.out;clear OUT HO6;go_wp2;go_roundw
      case rel=>exact⟨j+1,by simp,by omega,HO7,HB9⟩
      case measure=>simp[intOf];omega
     ·skip
      refine i0a rfl _ _ 1 _ rfl Tryz.underlying204 ([.int .u64 z]:List Value) (by rw[hfr52];kernel_rfl) ?_;intro g61 wt61 qa qb Y61 L61;have S61:=hI (S51.out.over L61.out);have b61:=hI (step b51.out L61.out);have HB_61:=hI (HB_51.out.over L61.out);have lA_61:=hI (lA_51.out.over L61.out);have nE_61:=hI (Y51.out.over L61.out);refine hK _ _ S61.out ?_;clear hK K;subst hfr52;refine oN 6 _ rfl λK hK=>?_
      go_simp;refine(D8.out _ _ lA_61.out).mono ?_;rintro e wt62 ⟨A62,c62,rfl,hY62,L062⟩;have Y62:=hI hY62;have L62:=hI L062;clear hY62 L062;have S62:=hI (S61.out.over L62.out);have b62:=hI (step b61.out L62.out);have HB_62:=hI (HB_61.out.over L62.out);have nE_62:=hI (nE_61.out.over L62.out);have lC_62:=hI (Y61.out.over L62.out);refine hK _ _ S62.out ?_;clear hK K;refine oN 11 _ rfl λK hK=>?_
      go_simp;refine(D2.out _ _ lC_62.out).mono ?_;rintro e wt63 ⟨A63,c63,rfl,hY63,L063⟩;have Y63:=hI hY63;have L63:=hI L063;clear hY63 L063;have S63:=hI (S62.out.over L63.out);have b63:=hI (step b62.out L63.out);have HB_63:=hI (HB_62.out.over L63.out);have nE_63:=hI (nE_62.out.over L63.out);have xA_63:=hI (Y62.out.over L63.out);refine hK _ _ S63.out ?_;clear hK K;refine n0a λfr64 hfr64=>?_
      refine oN 13 _ rfl λK hK=>?_
      refine i0a rfl _ _ 4 _ rfl Tryz.underlying99 ([.slice Ab m cb,.slice A62 16 c62,.slice A63 2 c63,.slice (some ⟨wt2.heap.size,0,none⟩) 2 2]:List Value) (by rw[hfr64];kernel_rfl) ?_;intro g65 wt65 qa qb Y065 L65;have Y65:Hid (f1a wt65 g65 4 (x2a [(Ab,m,cb,pj),(A62,16,c62,xy),(A63,2,c63,zz),((some ⟨wt2.heap.size,0,none⟩),2,2,List.replicate 2 0)]) (y2a [(Ab,m,cb,pj),(A62,16,c62,xy),(A63,2,c63,zz),((some ⟨wt2.heap.size,0,none⟩),2,2,List.replicate 2 0)]) (z2a [(Ab,m,cb,pj),(A62,16,c62,xy),(A63,2,c63,zz),((some ⟨wt2.heap.size,0,none⟩),2,2,List.replicate 2 0)]) (o1a [(Ab,m,cb,pj),(A62,16,c62,xy),(A63,2,c63,zz),((some ⟨wt2.heap.size,0,none⟩),2,2,List.replicate 2 0)])):=f1a.of_blk [(Ab,m,cb,pj),(A62,16,c62,xy),(A63,2,c63,zz),((some ⟨wt2.heap.size,0,none⟩),2,2,List.replicate 2 0)] Y065.out (List.forall_mem_cons.2 ⟨HB_63.out.over L65.out,List.forall_mem_cons.2 ⟨xA_63.out.over L65.out,List.forall_mem_cons.2 ⟨Y63.out.over L65.out,List.forall_mem_cons.2 ⟨nE_63.out.over L65.out,λ_ h=>by cases h⟩⟩⟩⟩);clear Y065;have S65:=hI (S63.out.over L65.out);have b65:=hI (step b63.out L65.out);refine hK _ _ S65.out ?_;clear hK K;subst hfr64;refine oN 14 _ rfl λK hK=>?_
      go_simp;refine(CC.out _ g65 4 _ _ _ _ Y65.out (by omega) (by show 0+m+16+2+2<=_;omega)).mono ?_;rintro e wt66 ⟨v,rfl,hY66,L066⟩;have OUT:=hI hY66;have L66:=hI L066;clear hY66 L066;have hsz0:=b65.out.size;have S66:=hI (S65.out.over L66.out);have b66:=hI (step b65.out L66.out);refine hK _ _ S66.out ?_;clear hK K;refine oN 15 _ rfl λK hK=>?_
      go_simp;refine hK _ _ S66.out ?_;clear hK K;refine dN ?_;have HO6:=hI (P0a.mono OUT.out (Nat.le_trans hsz0 (Nat.le_refl _)));have HO7:Hid (P0a .u8 5 wt66 w.heap.size v (pre (j+1))):=by
       show P0a _ _ _ _ _ _
       rw[HE2.out];have h9:=HO6.out;simpa[Q3a,o1a,List.append_assoc] using h9
      have HB9:=hI b66.out;clear OUT HO6;go_wp2;go_roundw
      case rel=>exact⟨j+1,by simp,by omega,HO7,HB9⟩
      case measure=>simp[intOf];omega
   ·skip
    refine i0a rfl _ _ 1 _ rfl Tryz.underlying204 ([.int .u64 z]:List Value) (by rw[hfr1];kernel_rfl) ?_;intro g68 wt68 qa qb Y68 L68;have S68:=hI (S0.out.over L68.out);have b68:=hI (step b0.out L68.out);have HB_68:=hI (HB_0.out.over L68.out);refine hK _ _ S68.out ?_;clear hK K;subst hfr1;refine n0a λfr69 hfr69=>?_
    refine k1a 5 12 _ _ (by kernel_rfl) rfl rfl (λK hK=>?_) (λK hK=>?_)
    ·skip
     refine i0a rfl _ _ 2 _ rfl Tryz.underlying204 ([.int .u64 x,.int .u64 y]:List Value) (by rw[hfr69];kernel_rfl) ?_;intro g70 wt70 qa qb Y70 L70;have S70:=hI (S68.out.over L70.out);have b70:=hI (step b68.out L70.out);have HB_70:=hI (HB_68.out.over L70.out);have lC_70:=hI (Y68.out.over L70.out);refine hK _ _ S70.out ?_;clear hK K;subst hfr69;refine n0a λfr71 hfr71=>?_
     refine k1a 6 12 _ _ (by kernel_rfl) rfl rfl (λK hK=>?_) (λK hK=>?_)
     ·skip
      subst hfr71;go_simp;refine(D8.out _ _ Y70.out).mono ?_;rintro e wt72 ⟨A72,c72,rfl,hY72,L072⟩;have Y72:=hI hY72;have L72:=hI L072;clear hY72 L072;have S72:=hI (S70.out.over L72.out);have b72:=hI (step b70.out L72.out);have HB_72:=hI (HB_70.out.over L72.out);have lC_72:=hI (lC_70.out.over L72.out);refine hK _ _ S72.out ?_;clear hK K;refine n0a λfr73 hfr73=>?_
      refine k1a 11 12 _ _ (by kernel_rfl) rfl rfl (λK hK=>?_) (λK hK=>?_)
      ·skip
       subst hfr73;go_simp;refine(D2.out _ _ lC_72.out).mono ?_;rintro e wt74 ⟨A74,c74,rfl,hY74,L074⟩;have Y74:=hI hY74;have L74:=hI L074;clear hY74 L074;have S74:=hI (S72.out.over L74.out);have b74:=hI (step b72.out L74.out);have HB_74:=hI (HB_72.out.over L74.out);have xA_74:=hI (Y72.out.over L74.out);refine hK _ _ S74.out ?_;clear hK K;refine oN 12 _ rfl λK hK=>?_
       refine H0a rfl _ _ rfl 2 rfl rfl (by omega) ?_;intro wt75 R75 L75;have Y75:=hI (C1a.holds (base:=0) (.inr ⟨_,rfl,Nat.zero_le _,R75.out⟩) (by rfl:(List.replicate 2 (0:Int)).length=2) (Bytes.zeros 2) (by omega));clear R75;have S75:=hI (S74.out.over L75.out);have b75:=hI (step b74.out L75.out);have HB_75:=hI (HB_74.out.over L75.out);have xA_75:=hI (xA_74.out.over L75.out);have zC_75:=hI (Y74.out.over L75.out);refine hK _ _ S75.out ?_;clear hK K;refine n0a λfr76 hfr76=>?_
       refine oN 13 _ rfl λK hK=>?_
       refine i0a rfl _ _ 4 _ rfl Tryz.underlying99 ([.slice Ab m cb,.slice A72 16 c72,.slice A74 2 c74,.slice (some ⟨wt74.heap.size,0,none⟩) 2 2]:List Value) (by rw[hfr76];kernel_rfl) ?_;intro g77 wt77 qa qb Y077 L77;have Y77:Hid (f1a wt77 g77 4 (x2a [(Ab,m,cb,pj),(A72,16,c72,xy),(A74,2,c74,zz),((some ⟨wt74.heap.size,0,none⟩),2,2,List.replicate 2 0)]) (y2a [(Ab,m,cb,pj),(A72,16,c72,xy),(A74,2,c74,zz),((some ⟨wt74.heap.size,0,none⟩),2,2,List.replicate 2 0)]) (z2a [(Ab,m,cb,pj),(A72,16,c72,xy),(A74,2,c74,zz),((some ⟨wt74.heap.size,0,none⟩),2,2,List.replicate 2 0)]) (o1a [(Ab,m,cb,pj),(A72,16,c72,xy),(A74,2,c74,zz),((some ⟨wt74.heap.size,0,none⟩),2,2,List.replicate 2 0)])):=f1a.of_blk [(Ab,m,cb,pj),(A72,16,c72,xy),(A74,2,c74,zz),((some ⟨wt74.heap.size,0,none⟩),2,2,List.replicate 2 0)] Y077.out (List.forall_mem_cons.2 ⟨HB_75.out.over L77.out,List.forall_mem_cons.2 ⟨xA_75.out.over L77.out,List.forall_mem_cons.2 ⟨zC_75.out.over L77.out,List.forall_mem_cons.2 ⟨Y75.out.over L77.out,λ_ h=>by cases h⟩⟩⟩⟩);clear Y077;have S77:=hI (S75.out.over L77.out);have b77:=hI (step b75.out L77.out);refine hK _ _ S77.out ?_;clear hK K;subst hfr76;refine oN 14 _ rfl λK hK=>?_
       go_simp;refine(CC.out _ g77 4 _ _ _ _ Y77.out (by omega) (by show 0+m+16+2+2<=_;omega)).mono ?_;rintro e wt78 ⟨v,rfl,hY78,L078⟩;have OUT:=hI hY78;have L78:=hI L078;clear hY78 L078;have hsz0:=b77.out.size;have S78:=hI (S77.out.over L78.out);have b78:=hI (step b77.out L78.out);refine hK _ _ S78.out ?_;clear hK K;refine oN 15 _ rfl λK hK=>?_
       go_simp;refine hK _ _ S78.out ?_;clear hK K;refine dN ?_;have HO6:=hI (P0a.mono OUT.out (Nat.le_trans hsz0 (Nat.le_refl _)));have HO7:Hid (P0a .u8 5 wt78 w.heap.size v (pre (j+1))):=by
        show P0a _ _ _ _ _ _
        rw[HE2.out];have h9:=HO6.out;simpa[Q3a,o1a,List.append_assoc] using h9
       have HB9:=hI b78.out;clear OUT HO6;go_wp2;go_roundw
       case rel=>exact⟨j+1,by simp,by omega,HO7,HB9⟩
       case measure=>simp[intOf];omega
      ·skip
       subst hfr73;refine H0a rfl _ _ rfl 2 rfl rfl (by omega) ?_;intro wt80 R80 L80;have Y80:=hI (C1a.holds (base:=0) (.inr ⟨_,rfl,Nat.zero_le _,R80.out⟩) (by rfl:(List.replicate 2 (0:Int)).length=2) (Bytes.zeros 2) (by omega));clear R80;have S80:=hI (S72.out.over L80.out);have b80:=hI (step b72.out L80.out);have HB_80:=hI (HB_72.out.over L80.out);have lC_80:=hI (lC_72.out.over L80.out);have xA_80:=hI (Y72.out.over L80.out);refine hK _ _ S80.out ?_;clear hK K;refine oN 11 _ rfl λK hK=>?_
       go_simp;refine(D2.out _ _ lC_80.out).mono ?_;rintro e wt81 ⟨A81,c81,rfl,hY81,L081⟩;have Y81:=hI hY81;have L81:=hI L081;clear hY81 L081;have S81:=hI (S80.out.over L81.out);have b81:=hI (step b80.out L81.out);have HB_81:=hI (HB_80.out.over L81.out);have xA_81:=hI (xA_80.out.over L81.out);have nE_81:=hI (Y80.out.over L81.out);refine hK _ _ S81.out ?_;clear hK K;refine n0a λfr82 hfr82=>?_
       refine oN 13 _ rfl λK hK=>?_
       refine i0a rfl _ _ 4 _ rfl Tryz.underlying99 ([.slice Ab m cb,.slice A72 16 c72,.slice A81 2 c81,.slice (some ⟨wt72.heap.size,0,none⟩) 2 2]:List Value) (by rw[hfr82];kernel_rfl) ?_;intro g83 wt83 qa qb Y083 L83;have Y83:Hid (f1a wt83 g83 4 (x2a [(Ab,m,cb,pj),(A72,16,c72,xy),(A81,2,c81,zz),((some ⟨wt72.heap.size,0,none⟩),2,2,List.replicate 2 0)]) (y2a [(Ab,m,cb,pj),(A72,16,c72,xy),(A81,2,c81,zz),((some ⟨wt72.heap.size,0,none⟩),2,2,List.replicate 2 0)]) (z2a [(Ab,m,cb,pj),(A72,16,c72,xy),(A81,2,c81,zz),((some ⟨wt72.heap.size,0,none⟩),2,2,List.replicate 2 0)]) (o1a [(Ab,m,cb,pj),(A72,16,c72,xy),(A81,2,c81,zz),((some ⟨wt72.heap.size,0,none⟩),2,2,List.replicate 2 0)])):=f1a.of_blk [(Ab,m,cb,pj),(A72,16,c72,xy),(A81,2,c81,zz),((some ⟨wt72.heap.size,0,none⟩),2,2,List.replicate 2 0)] Y083.out (List.forall_mem_cons.2 ⟨HB_81.out.over L83.out,List.forall_mem_cons.2 ⟨xA_81.out.over L83.out,List.forall_mem_cons.2 ⟨Y81.out.over L83.out,List.forall_mem_cons.2 ⟨nE_81.out.over L83.out,λ_ h=>by cases h⟩⟩⟩⟩);clear Y083;have S83:=hI (S81.out.over L83.out);have b83:=hI (step b81.out L83.out);refine hK _ _ S83.out ?_;clear hK K;subst hfr82;refine oN 14 _ rfl λK hK=>?_
       go_simp;refine(CC.out _ g83 4 _ _ _ _ Y83.out (by omega) (by show 0+m+16+2+2<=_;omega)).mono ?_;rintro e wt84 ⟨v,rfl,hY84,L084⟩;have OUT:=hI hY84;have L84:=hI L084;clear hY84 L084;have hsz0:=b83.out.size;have S84:=hI (S83.out.over L84.out);have b84:=hI (step b83.out L84.out);refine hK _ _ S84.out ?_;clear hK K;refine oN 15 _ rfl λK hK=>?_
       go_simp;refine hK _ _ S84.out ?_;clear hK K;refine dN ?_;have HO6:=hI (P0a.mono OUT.out (Nat.le_trans hsz0 (Nat.le_refl _)));have HO7:Hid (P0a .u8 5 wt84 w.heap.size v (pre (j+1))):=by
        show P0a _ _ _ _ _ _
        rw[HE2.out];have h9:=HO6.out;simpa[Q3a,o1a,List.append_assoc] using h9
       have HB9:=hI b84.out;clear OUT HO6;go_wp2;go_roundw
       case rel=>exact⟨j+1,by simp,by omega,HO7,HB9⟩
       case measure=>simp[intOf];omega
     ·skip
      subst hfr71;refine H0a rfl _ _ rfl 2 rfl rfl (by omega) ?_;intro wt86 R86 L86;have Y86:=hI (C1a.holds (base:=0) (.inr ⟨_,rfl,Nat.zero_le _,R86.out⟩) (by rfl:(List.replicate 2 (0:Int)).length=2) (Bytes.zeros 2) (by omega));clear R86;have S86:=hI (S70.out.over L86.out);have b86:=hI (step b70.out L86.out);have HB_86:=hI (HB_70.out.over L86.out);have lC_86:=hI (lC_70.out.over L86.out);have lA_86:=hI (Y70.out.over L86.out);refine hK _ _ S86.out ?_;clear hK K;refine oN 6 _ rfl λK hK=>?_
      go_simp;refine(D8.out _ _ lA_86.out).mono ?_;rintro e wt87 ⟨A87,c87,rfl,hY87,L087⟩;have Y87:=hI hY87;have L87:=hI L087;clear hY87 L087;have S87:=hI (S86.out.over L87.out);have b87:=hI (step b86.out L87.out);have HB_87:=hI (HB_86.out.over L87.out);have lC_87:=hI (lC_86.out.over L87.out);have nE_87:=hI (Y86.out.over L87.out);refine hK _ _ S87.out ?_;clear hK K;refine oN 11 _ rfl λK hK=>?_
      go_simp;refine(D2.out _ _ lC_87.out).mono ?_;rintro e wt88 ⟨A88,c88,rfl,hY88,L088⟩;have Y88:=hI hY88;have L88:=hI L088;clear hY88 L088;have S88:=hI (S87.out.over L88.out);have b88:=hI (step b87.out L88.out);have HB_88:=hI (HB_87.out.over L88.out);have nE_88:=hI (nE_87.out.over L88.out);have xA_88:=hI (Y87.out.over L88.out);refine hK _ _ S88.out ?_;clear hK K;refine n0a λfr89 hfr89=>?_
      refine oN 13 _ rfl λK hK=>?_
      refine i0a rfl _ _ 4 _ rfl Tryz.underlying99 ([.slice Ab m cb,.slice A87 16 c87,.slice A88 2 c88,.slice (some ⟨wt70.heap.size,0,none⟩) 2 2]:List Value) (by rw[hfr89];kernel_rfl) ?_;intro g90 wt90 qa qb Y090 L90;have Y90:Hid (f1a wt90 g90 4 (x2a [(Ab,m,cb,pj),(A87,16,c87,xy),(A88,2,c88,zz),((some ⟨wt70.heap.size,0,none⟩),2,2,List.replicate 2 0)]) (y2a [(Ab,m,cb,pj),(A87,16,c87,xy),(A88,2,c88,zz),((some ⟨wt70.heap.size,0,none⟩),2,2,List.replicate 2 0)]) (z2a [(Ab,m,cb,pj),(A87,16,c87,xy),(A88,2,c88,zz),((some ⟨wt70.heap.size,0,none⟩),2,2,List.replicate 2 0)]) (o1a [(Ab,m,cb,pj),(A87,16,c87,xy),(A88,2,c88,zz),((some ⟨wt70.heap.size,0,none⟩),2,2,List.replicate 2 0)])):=f1a.of_blk [(Ab,m,cb,pj),(A87,16,c87,xy),(A88,2,c88,zz),((some ⟨wt70.heap.size,0,none⟩),2,2,List.replicate 2 0)] Y090.out (List.forall_mem_cons.2 ⟨HB_88.out.over L90.out,List.forall_mem_cons.2 ⟨xA_88.out.over L90.out,List.forall_mem_cons.2 ⟨Y88.out.over L90.out,List.forall_mem_cons.2 ⟨nE_88.out.over L90.out,λ_ h=>by cases h⟩⟩⟩⟩);clear Y090;have S90:=hI (S88.out.over L90.out);have b90:=hI (step b88.out L90.out);refine hK _ _ S90.out ?_;clear hK K;subst hfr89;refine oN 14 _ rfl λK hK=>?_
      go_simp;refine(CC.out _ g90 4 _ _ _ _ Y90.out (by omega) (by show 0+m+16+2+2<=_;omega)).mono ?_;rintro e wt91 ⟨v,rfl,hY91,L091⟩;have OUT:=hI hY91;have L91:=hI L091;clear hY91 L091;have hsz0:=b90.out.size;have S91:=hI (S90.out.over L91.out);have b91:=hI (step b90.out L91.out);refine hK _ _ S91.out ?_;clear hK K;refine oN 15 _ rfl λK hK=>?_
      go_simp;refine hK _ _ S91.out ?_;clear hK K;refine dN ?_;have HO6:=hI (P0a.mono OUT.out (Nat.le_trans hsz0 (Nat.le_refl _)));have HO7:Hid (P0a .u8 5 wt91 w.heap.size v (pre (j+1))):=by
       show P0a _ _ _ _ _ _
       rw[HE2.out];have h9:=HO6.out;simpa[Q3a,o1a,List.append_assoc] using h9
      have HB9:=hI b91.out;clear OUT HO6;go_wp2;go_roundw
      case rel=>exact⟨j+1,by simp,by omega,HO7,HB9⟩
      case measure=>simp[intOf];omega
    ·skip
     subst hfr69;refine H0a rfl _ _ rfl 2 rfl rfl (by omega) ?_;intro wt93 R93 L93;have Y93:=hI (C1a.holds (base:=0) (.inr ⟨_,rfl,Nat.zero_le _,R93.out⟩) (by rfl:(List.replicate 2 (0:Int)).length=2) (Bytes.zeros 2) (by omega));clear R93;have S93:=hI (S68.out.over L93.out);have b93:=hI (step b68.out L93.out);have HB_93:=hI (HB_68.out.over L93.out);have lC_93:=hI (Y68.out.over L93.out);refine hK _ _ S93.out ?_;clear hK K;refine n0a λfr94 hfr94=>?_
     refine oN 5 _ rfl λK hK=>?_
     refine i0a rfl _ _ 2 _ rfl Tryz.underlying204 ([.int .u64 x,.int .u64 y]:List Value) (by rw[hfr94];kernel_rfl) ?_;intro g95 wt95 qa qb Y95 L95;have S95:=hI (S93.out.over L95.out);have b95:=hI (step b93.out L95.out);have HB_95:=hI (HB_93.out.over L95.out);have lC_95:=hI (lC_93.out.over L95.out);have nE_95:=hI (Y93.out.over L95.out);refine hK _ _ S95.out ?_;clear hK K;subst hfr94;refine oN 6 _ rfl λK hK=>?_
     go_simp;refine(D8.out _ _ Y95.out).mono ?_;rintro e wt96 ⟨A96,c96,rfl,hY96,L096⟩;have Y96:=hI hY96;have L96:=hI L096;clear hY96 L096;have S96:=hI (S95.out.over L96.out);have b96:=hI (step b95.out L96.out);have HB_96:=hI (HB_95.out.over L96.out);have lC_96:=hI (lC_95.out.over L96.out);have nE_96:=hI (nE_95.out.over L96.out);refine hK _ _ S96.out ?_;clear hK K;refine oN 11 _ rfl λK hK=>?_
     go_simp;refine(D2.out _ _ lC_96.out).mono ?_;rintro e wt97 ⟨A97,c97,rfl,hY97,L097⟩;have Y97:=hI hY97;have L97:=hI L097;clear hY97 L097;have S97:=hI (S96.out.over L97.out);have b97:=hI (step b96.out L97.out);have HB_97:=hI (HB_96.out.over L97.out);have nE_97:=hI (nE_96.out.over L97.out);have xA_97:=hI (Y96.out.over L97.out);refine hK _ _ S97.out ?_;clear hK K;refine n0a λfr98 hfr98=>?_
     refine oN 13 _ rfl λK hK=>?_
     refine i0a rfl _ _ 4 _ rfl Tryz.underlying99 ([.slice Ab m cb,.slice A96 16 c96,.slice A97 2 c97,.slice (some ⟨wt68.heap.size,0,none⟩) 2 2]:List Value) (by rw[hfr98];kernel_rfl) ?_;intro g99 wt99 qa qb Y099 L99;have Y99:Hid (f1a wt99 g99 4 (x2a [(Ab,m,cb,pj),(A96,16,c96,xy),(A97,2,c97,zz),((some ⟨wt68.heap.size,0,none⟩),2,2,List.replicate 2 0)]) (y2a [(Ab,m,cb,pj),(A96,16,c96,xy),(A97,2,c97,zz),((some ⟨wt68.heap.size,0,none⟩),2,2,List.replicate 2 0)]) (z2a [(Ab,m,cb,pj),(A96,16,c96,xy),(A97,2,c97,zz),((some ⟨wt68.heap.size,0,none⟩),2,2,List.replicate 2 0)]) (o1a [(Ab,m,cb,pj),(A96,16,c96,xy),(A97,2,c97,zz),((some ⟨wt68.heap.size,0,none⟩),2,2,List.replicate 2 0)])):=f1a.of_blk [(Ab,m,cb,pj),(A96,16,c96,xy),(A97,2,c97,zz),((some ⟨wt68.heap.size,0,none⟩),2,2,List.replicate 2 0)] Y099.out (List.forall_mem_cons.2 ⟨HB_97.out.over L99.out,List.forall_mem_cons.2 ⟨xA_97.out.over L99.out,List.forall_mem_cons.2 ⟨Y97.out.over L99.out,List.forall_mem_cons.2 ⟨nE_97.out.over L99.out,λ_ h=>by cases h⟩⟩⟩⟩);clear Y099;have S99:=hI (S97.out.over L99.out);have b99:=hI (step b97.out L99.out);refine hK _ _ S99.out ?_;clear hK K;subst hfr98;refine oN 14 _ rfl λK hK=>?_
     go_simp;refine(CC.out _ g99 4 _ _ _ _ Y99.out (by omega) (by show 0+m+16+2+2<=_;omega)).mono ?_;rintro e wt100 ⟨v,rfl,hY100,L0100⟩;have OUT:=hI hY100;have L100:=hI L0100;clear hY100 L0100;have hsz0:=b99.out.size;have S100:=hI (S99.out.over L100.out);have b100:=hI (step b99.out L100.out);refine hK _ _ S100.out ?_;clear hK K;refine oN 15 _ rfl λK hK=>?_
     go_simp;refine hK _ _ S100.out ?_;clear hK K;refine dN ?_;have HO6:=hI (P0a.mono OUT.out (Nat.le_trans hsz0 (Nat.le_refl _)));have HO7:Hid (P0a .u8 5 wt100 w.heap.size v (pre (j+1))):=by
      show P0a _ _ _ _ _ _
      rw[HE2.out];have h9:=HO6.out;simpa[Q3a,o1a,List.append_assoc] using h9
     have HB9:=hI b100.out;clear OUT HO6;go_wp2;go_roundw
     case rel=>exact⟨j+1,by simp,by omega,HO7,HB9⟩
     case measure=>simp[intOf];omega
   ·skip
    subst hfr1;refine H0a rfl _ _ rfl 2 rfl rfl (by omega) ?_;intro wt102 R102 L102;have Y102:=hI (C1a.holds (base:=0) (.inr ⟨_,rfl,Nat.zero_le _,R102.out⟩) (by rfl:(List.replicate 2 (0:Int)).length=2) (Bytes.zeros 2) (by omega));clear R102;have S102:=hI (S0.out.over L102.out);have b102:=hI (step b0.out L102.out);have HB_102:=hI (HB_0.out.over L102.out);refine hK _ _ S102.out ?_;clear hK K;refine n0a λfr103 hfr103=>?_
    refine k1a 5 10 _ _ (by kernel_rfl) rfl rfl (λK hK=>?_) (λK hK=>?_)
    ·skip
     refine i0a rfl _ _ 2 _ rfl Tryz.underlying204 ([.int .u64 x,.int .u64 y]:List Value) (by rw[hfr103];kernel_rfl) ?_;intro g104 wt104 qa qb Y104 L104;have S104:=hI (S102.out.over L104.out);have b104:=hI (step b102.out L104.out);have HB_104:=hI (HB_102.out.over L104.out);have nE_104:=hI (Y102.out.over L104.out);refine hK _ _ S104.out ?_;clear hK K;subst hfr103;refine n0a λfr105 hfr105=>?_
     refine k1a 6 10 _ _ (by kernel_rfl) rfl rfl (λK hK=>?_) (λK hK=>?_)
     ·skip
      subst hfr105;go_simp;refine(D8.out _ _ Y104.out).mono ?_;rintro e wt106 ⟨A106,c106,rfl,hY106,L0106⟩;have Y106:=hI hY106;have L106:=hI L0106;clear hY106 L0106;have S106:=hI (S104.out.over L106.out);have b106:=hI (step b104.out L106.out);have HB_106:=hI (HB_104.out.over L106.out);have nE_106:=hI (nE_104.out.over L106.out);refine hK _ _ S106.out ?_;clear hK K;refine n0a λfr107 hfr107=>?_
      refine oN 10 _ rfl λK hK=>?_
      refine i0a rfl _ _ 1 _ rfl Tryz.underlying204 ([.int .u64 z]:List Value) (by rw[hfr107];kernel_rfl) ?_;intro g108 wt108 qa qb Y108 L108;have S108:=hI (S106.out.over L108.out);have b108:=hI (step b106.out L108.out);have HB_108:=hI (HB_106.out.over L108.out);have nE_108:=hI (nE_106.out.over L108.out);have xA_108:=hI (Y106.out.over L108.out);refine hK _ _ S108.out ?_;clear hK K;subst hfr107;refine oN 11 _ rfl λK hK=>?_
      go_simp;refine(D2.out _ _ Y108.out).mono ?_;rintro e wt109 ⟨A109,c109,rfl,hY109,L0109⟩;have Y109:=hI hY109;have L109:=hI L0109;clear hY109 L0109;have S109:=hI (S108.out.over L109.out);have b109:=hI (step b108.out L109.out);have HB_109:=hI (HB_108.out.over L109.out);have nE_109:=hI (nE_108.out.over L109.out);have xA_109:=hI (xA_108.out.over L109.out);refine hK _ _ S109.out ?_;clear hK K;refine n0a λfr110 hfr110=>?_
      refine oN 13 _ rfl λK hK=>?_
      refine i0a rfl _ _ 4 _ rfl Tryz.underlying99 ([.slice Ab m cb,.slice A106 16 c106,.slice A109 2 c109,.slice (some ⟨u2.drew.heap.size,0,none⟩) 2 2]:List Value) (by rw[hfr110];kernel_rfl) ?_;intro g111 wt111 qa qb Y0111 L111;have Y111:Hid (f1a wt111 g111 4 (x2a [(Ab,m,cb,pj),(A106,16,c106,xy),(A109,2,c109,zz),((some ⟨u2.drew.heap.size,0,none⟩),2,2,List.replicate 2 0)]) (y2a [(Ab,m,cb,pj),(A106,16,c106,xy),(A109,2,c109,zz),((some ⟨u2.drew.heap.size,0,none⟩),2,2,List.replicate 2 0)]) (z2a [(Ab,m,cb,pj),(A106,16,c106,xy),(A109,2,c109,zz),((some ⟨u2.drew.heap.size,0,none⟩),2,2,List.replicate 2 0)]) (o1a [(Ab,m,cb,pj),(A106,16,c106,xy),(A109,2,c109,zz),((some ⟨u2.drew.heap.size,0,none⟩),2,2,List.replicate 2 0)])):=f1a.of_blk [(Ab,m,cb,pj),(A106,16,c106,xy),(A109,2,c109,zz),((some ⟨u2.drew.heap.size,0,none⟩),2,2,List.replicate 2 0)] Y0111.out (List.forall_mem_cons.2 ⟨HB_109.out.over L111.out,List.forall_mem_cons.2 ⟨xA_109.out.over L111.out,List.forall_mem_cons.2 ⟨Y109.out.over L111.out,List.forall_mem_cons.2 ⟨nE_109.out.over L111.out,λ_ h=>by cases h⟩⟩⟩⟩);clear Y0111;have S111:=hI (S109.out.over L111.out);have b111:=hI (step b109.out L111.out);refine hK _ _ S111.out ?_;clear hK K;subst hfr110;refine oN 14 _ rfl λK hK=>?_
      go_simp;refine(CC.out _ g111 4 _ _ _ _ Y111.out (by omega) (by show 0+m+16+2+2<=_;omega)).mono ?_;rintro e wt112 ⟨v,rfl,hY112,L0112⟩;have OUT:=hI hY112;have L112:=hI L0112;clear hY112 L0112;have hsz0:=b111.out.size;have S112:=hI (S111.out.over L112.out);have b112:=hI (step b111.out L112.out);refine hK _ _ S112.out ?_;clear hK K;refine oN 15 _ rfl λK hK=>?_
      go_simp;refine hK _ _ S112.out ?_;clear hK K;refine dN ?_;have HO6:=hI (P0a.mono OUT.out (Nat.le_trans hsz0 (Nat.le_refl _)));have HO7:Hid (P0a .u8 5 wt112 w.heap.size v (pre (j+1))):=by
       show P0a _ _ _ _ _ _
       rw[HE2.out];have h9:=HO6.out;simpa[Q3a,o1a,List.append_assoc] using h9
      have HB9:=hI b112.out;clear OUT HO6;go_wp2;go_roundw
      case rel=>exact⟨j+1,by simp,by omega,HO7,HB9⟩
      case measure=>simp[intOf];omega
     ·skip
      refine i0a rfl _ _ 1 _ rfl Tryz.underlying204 ([.int .u64 z]:List Value) (by rw[hfr105];kernel_rfl) ?_;intro g114 wt114 qa qb Y114 L114;have S114:=hI (S104.out.over L114.out);have b114:=hI (step b104.out L114.out);have HB_114:=hI (HB_104.out.over L114.out);have nE_114:=hI (nE_104.out.over L114.out);have lA_114:=hI (Y104.out.over L114.out);refine hK _ _ S114.out ?_;clear hK K;subst hfr105;refine oN 6 _ rfl λK hK=>?_
      go_simp;refine(D8.out _ _ lA_114.out).mono ?_;rintro e wt115 ⟨A115,c115,rfl,hY115,L0115⟩;have Y115:=hI hY115;have L115:=hI L0115;clear hY115 L0115;have S115:=hI (S114.out.over L115.out);have b115:=hI (step b114.out L115.out);have HB_115:=hI (HB_114.out.over L115.out);have nE_115:=hI (nE_114.out.over L115.out);have lC_115:=hI (Y114.out.over L115.out);refine hK _ _ S115.out ?_;clear hK K;refine oN 11 _ rfl λK hK=>?_
      go_simp;refine(D2.out _ _ lC_115.out).mono ?_;rintro e wt116 ⟨A116,c116,rfl,hY116,L0116⟩;have Y116:=hI hY116;have L116:=hI L0116;clear hY116 L0116;have S116:=hI (S115.out.over L116.out);have b116:=hI (step b115.out L116.out);have HB_116:=hI (HB_115.out.over L116.out);have nE_116:=hI (nE_115.out.over L116.out);have xA_116:=hI (Y115.out.over L116.out);refine hK _ _ S116.out ?_;clear hK K;refine n0a λfr117 hfr117=>?_
      refine oN 13 _ rfl λK hK=>?_
      refine i0a rfl _ _ 4 _ rfl Tryz.underlying99 ([.slice Ab m cb,.slice A115 16 c115,.slice A116 2 c116,.slice (some ⟨u2.drew.heap.size,0,none⟩) 2 2]:List Value) (by rw[hfr117];kernel_rfl) ?_;intro g118 wt118 qa qb Y0118 L118;have Y118:Hid (f1a wt118 g118 4 (x2a [(Ab,m,cb,pj),(A115,16,c115,xy),(A116,2,c116,zz),((some ⟨u2.drew.heap.size,0,none⟩),2,2,List.replicate 2 0)]) (y2a [(Ab,m,cb,pj),(A115,16,c115,xy),(A116,2,c116,zz),((some ⟨u2.drew.heap.size,0,none⟩),2,2,List.replicate 2 0)]) (z2a [(Ab,m,cb,pj),(A115,16,c115,xy),(A116,2,c116,zz),((some ⟨u2.drew.heap.size,0,none⟩),2,2,List.replicate 2 0)]) (o1a [(Ab,m,cb,pj),(A115,16,c115,xy),(A116,2,c116,zz),((some ⟨u2.drew.heap.size,0,none⟩),2,2,List.replicate 2 0)])):=f1a.of_blk [(Ab,m,cb,pj),(A115,16,c115,xy),(A116,2,c116,zz),((some ⟨u2.drew.heap.size,0,none⟩),2,2,List.replicate 2 0)] Y0118.out (List.forall_mem_cons.2 ⟨HB_116.out.over L118.out,List.forall_mem_cons.2 ⟨xA_116.out.over L118.out,List.forall_mem_cons.2 ⟨Y116.out.over L118.out,List.forall_mem_cons.2 ⟨nE_116.out.over L118.out,λ_ h=>by cases h⟩⟩⟩⟩);clear Y0118;have S118:=hI (S116.out.over L118.out);have b118:=hI (step b116.out L118.out);refine hK _ _ S118.out ?_;clear hK K;subst hfr117;refine oN 14 _ rfl λK hK=>?_
      go_simp;refine(CC.out _ g118 4 _ _ _ _ Y118.out (by omega) (by show 0+m+16+2+2<=_;omega)).mono ?_;rintro e wt119 ⟨v,rfl,hY119,L0119⟩;have OUT:=hI hY119;have L119:=hI L0119;clear hY119 L0119;have hsz0:=b118.out.size;have S119:=hI (S118.out.over L119.out);have b119:=hI (step b118.out L119.out);refine hK _ _ S119.out ?_;clear hK K;refine oN 15 _ rfl λK hK=>?_
      go_simp;refine hK _ _ S119.out ?_;clear hK K;refine dN ?_;have HO6:=hI (P0a.mono OUT.out (Nat.le_trans hsz0 (Nat.le_refl _)));have HO7:Hid (P0a .u8 5 wt119 w.heap.size v (pre (j+1))):=by
       show P0a _ _ _ _ _ _
       rw[HE2.out];have h9:=HO6.out;simpa[Q3a,o1a,List.append_assoc] using h9
      have HB9:=hI b119.out;clear OUT HO6;go_wp2;go_roundw
      case rel=>exact⟨j+1,by simp,by omega,HO7,HB9⟩
      case measure=>simp[intOf];omega
    ·skip
     refine i0a rfl _ _ 1 _ rfl Tryz.underlying204 ([.int .u64 z]:List Value) (by rw[hfr103];kernel_rfl) ?_;intro g121 wt121 qa qb Y121 L121;have S121:=hI (S102.out.over L121.out);have b121:=hI (step b102.out L121.out);have HB_121:=hI (HB_102.out.over L121.out);have nE_121:=hI (Y102.out.over L121.out);refine hK _ _ S121.out ?_;clear hK K;subst hfr103;refine n0a λfr122 hfr122=>?_
     refine oN 5 _ rfl λK hK=>?_
     refine i0a rfl _ _ 2 _ rfl Tryz.underlying204 ([.int .u64 x,.int .u64 y]:List Value) (by rw[hfr122];kernel_rfl) ?_;intro g123 wt123 qa qb Y123 L123;have S123:=hI (S121.out.over L123.out);have b123:=hI (step b121.out L123.out);have HB_123:=hI (HB_121.out.over L123.out);have nE_123:=hI (nE_121.out.over L123.out);have lC_123:=hI (Y121.out.over L123.out);refine hK _ _ S123.out ?_;clear hK K;subst hfr122;refine oN 6 _ rfl λK hK=>?_
     go_simp;refine(D8.out _ _ Y123.out).mono ?_;rintro e wt124 ⟨A124,c124,rfl,hY124,L0124⟩;have Y124:=hI hY124;have L124:=hI L0124;clear hY124 L0124;have S124:=hI (S123.out.over L124.out);have b124:=hI (step b123.out L124.out);have HB_124:=hI (HB_123.out.over L124.out);have nE_124:=hI (nE_123.out.over L124.out);have lC_124:=hI (lC_123.out.over L124.out);refine hK _ _ S124.out ?_;clear hK K;refine oN 11 _ rfl λK hK=>?_
     go_simp;refine(D2.out _ _ lC_124.out).mono ?_;rintro e wt125 ⟨A125,c125,rfl,hY125,L0125⟩;have Y125:=hI hY125;have L125:=hI L0125;clear hY125 L0125;have S125:=hI (S124.out.over L125.out);have b125:=hI (step b124.out L125.out);have HB_125:=hI (HB_124.out.over L125.out);have nE_125:=hI (nE_124.out.over L125.out);have xA_125:=hI (Y124.out.over L125.out);refine hK _ _ S125.out ?_;clear hK K;refine n0a λfr126 hfr126=>?_
     refine oN 13 _ rfl λK hK=>?_
     refine i0a rfl _ _ 4 _ rfl Tryz.underlying99 ([.slice Ab m cb,.slice A124 16 c124,.slice A125 2 c125,.slice (some ⟨u2.drew.heap.size,0,none⟩) 2 2]:List Value) (by rw[hfr126];kernel_rfl) ?_;intro g127 wt127 qa qb Y0127 L127;have Y127:Hid (f1a wt127 g127 4 (x2a [(Ab,m,cb,pj),(A124,16,c124,xy),(A125,2,c125,zz),((some ⟨u2.drew.heap.size,0,none⟩),2,2,List.replicate 2 0)]) (y2a [(Ab,m,cb,pj),(A124,16,c124,xy),(A125,2,c125,zz),((some ⟨u2.drew.heap.size,0,none⟩),2,2,List.replicate 2 0)]) (z2a [(Ab,m,cb,pj),(A124,16,c124,xy),(A125,2,c125,zz),((some ⟨u2.drew.heap.size,0,none⟩),2,2,List.replicate 2 0)]) (o1a [(Ab,m,cb,pj),(A124,16,c124,xy),(A125,2,c125,zz),((some ⟨u2.drew.heap.size,0,none⟩),2,2,List.replicate 2 0)])):=f1a.of_blk [(Ab,m,cb,pj),(A124,16,c124,xy),(A125,2,c125,zz),((some ⟨u2.drew.heap.size,0,none⟩),2,2,List.replicate 2 0)] Y0127.out (List.forall_mem_cons.2 ⟨HB_125.out.over L127.out,List.forall_mem_cons.2 ⟨xA_125.out.over L127.out,List.forall_mem_cons.2 ⟨Y125.out.over L127.out,List.forall_mem_cons.2 ⟨nE_125.out.over L127.out,λ_ h=>by cases h⟩⟩⟩⟩);clear Y0127;have S127:=hI (S125.out.over L127.out);have b127:=hI (step b125.out L127.out);refine hK _ _ S127.out ?_;clear hK K;subst hfr126;refine oN 14 _ rfl λK hK=>?_
     go_simp;refine(CC.out _ g127 4 _ _ _ _ Y127.out (by omega) (by show 0+m+16+2+2<=_;omega)).mono ?_;rintro e wt128 ⟨v,rfl,hY128,L0128⟩;have OUT:=hI hY128;have L128:=hI L0128;clear hY128 L0128;have hsz0:=b127.out.size;have S128:=hI (S127.out.over L128.out);have b128:=hI (step b127.out L128.out);refine hK _ _ S128.out ?_;clear hK K;refine oN 15 _ rfl λK hK=>?_
     go_simp;refine hK _ _ S128.out ?_;clear hK K;refine dN ?_;have HO6:=hI (P0a.mono OUT.out (Nat.le_trans hsz0 (Nat.le_refl _)));have HO7:Hid (P0a .u8 5 wt128 w.heap.size v (pre (j+1))):=by
      show P0a _ _ _ _ _ _
      rw[HE2.out];have h9:=HO6.out;simpa[Q3a,o1a,List.append_assoc] using h9
     have HB9:=hI b128.out;clear OUT HO6;go_wp2;go_roundw
     case rel=>exact⟨j+1,by simp,by omega,HO7,HB9⟩
     case measure=>simp[intOf];omega
  ·obtain rfl:j=n:=by omega
   go_wp2;go_ret;exact HQ.out _ _ ⟨_,rfl,HO.out,HB1.out⟩
theorem i1b(w:World)(c:Int)(cs:List Value)(a:z1a)(hc:0<=c/\c<=65535)(ka:a.ok)(ha:j1a w w.heap.size cs a)(hu:a.user.size<=17592186044416/\a.share.size<=17592186044416)(hn:a.locks.length<=4398046511104)(hT:K7a w) :
  Calls Tryz.prog 151 #[.int .u16 c,.agg cs.toArray] w λe w'=>e=.returned (.bool (q7a c a))/\Below w.heap.size w w':=by
 have HL:=hI (ha.len ka);have HT:=hI hT;have hgl:=ka.glen;have hpl:=ka.plen;obtain⟨hu0,hu1⟩:=hu;have CP:Hid (∀(w':World) (ds:List Value) (b:z1a),b.ok->b.user=a.user->b.share=a.share->j1a w' w'.heap.size ds b->Below w.heap.size w w'->Calls Tryz.prog 103 #[.int .u16 13,.agg ds.toArray] w' λe w2=>(∃v er,e=.returned (.tuple #[v,.int .i64 er])/\(er==0)=decide (b=j0a))/\Below w'.heap.size w' w2):=λw' ds b kb h1 h2 hb hL=>by have h:=C0b w' 13 ds b (by decide) kb hb ⟨by rw[h1];exact hu0,by rw[h2];exact hu1⟩ (HT.out.below hL);exact h.mono λe w2 ⟨v,h1,_,h3⟩=>⟨⟨v,_,h1,Y4b b⟩,h3⟩
 have kb:=Q5b (c:=c) ka;by_cases hk:I2a c=true;rotate_left
 ·have hn0:q7a c a=false:=by unfold q7a;rw[show I2a c=false from by simpa using hk];rfl
  have hk':c≠5/\c≠6/\c≠7/\c≠8/\c≠9/\c≠10:=by refine⟨?_,?_,?_,?_,?_,?_⟩<;>(rintro rfl;exact hk (by decide))
  obtain⟨h5,h6,h7,h8,h9,h10⟩:=hk';have b5:(c==5)=false:=by simpa using h5
  have b6:(c==6)=false:=by simpa using h6
  have b7:(c==7)=false:=by simpa using h7
  have b8:(c==8)=false:=by simpa using h8
  have b9:(c==9)=false:=by simpa using h9
  have b10:(c==10)=false:=by simpa using h10
  rw[hn0];clear hk hn0 h5 h6 h7 h8 h9 h10 ha ka kb CP;go_enter Tryz.func151,Tryz.ntmps151;go_wp2_with(first
   | ((with_reducible refine sN 3 ?_);refine g0a rfl _ (.tmp 1) rfl cs rfl ?_;intro g w1 hg1 hg2 K1 L1)
   | fail)
  go_ret;exact⟨rfl,L1.out⟩
 have hcs:c=5∨c=6∨c=7∨c=8∨c=9∨c=10:=by unfold I2a at hk;simp at hk;omega
 obtain⟨A1,A2,A3,X1,X2,X3,M1,M2,M3,rfl,hA,hX,hM⟩:=ha;have FL:Hid (∀(w:World) (g:Nat),Blk w g 34 (o0a (.slice A1 A2 A3) (.slice X1 X2 X3) (.slice M1 M2 M3) a)->w.cell? ⟨g,62,none⟩=some (.slice M1 M2 M3)):=λw g h=>h.at (r0a ka 13)
 have HM:=hI hM;have hml:M2<=4398046511104:=by rw[<-hM.len];exact hn
 obtain⟨C0,hC0⟩:∃x,x=o0a (.slice A1 A2 A3) (.slice X1 X2 X3) (.slice M1 M2 M3) a:=⟨_,rfl⟩;have HC0:=hI hC0;rw[<-hC0] at HL FL⊢;clear hC0;rcases hcs with h5 | h6 | h7 | h8 | h9 | h10
 ·subst h5;have HI:Hid (∀w':World,Below w.heap.size w w'->j1a w' w'.heap.size (o0a (.slice A1 A2 A3) (.slice X1 X2 X3) (.slice M1 M2 M3) (i1a 5 a)) (i1a 5 a)):=λw' hb=>⟨A1,A2,A3,X1,X2,X3,M1,M2,M3,rfl,hA.over hb,hX.over hb,hM.over hb⟩
  have HEQ:Hid (((((((((C0).set 51 (.int .u32 0)).set 52 (.int .u32 0)).set 53 (.int .u32 0)).set 54 (.int .u32 0)).set 55 (.int .u8 0)).set 56 (.int .u8 0)).set 58 (.string .empty)).set 57 (.int .u64 0)=o0a (.slice A1 A2 A3) (.slice X1 X2 X3) (.slice M1 M2 M3) (i1a 5 a)):=by
   show _=_
   rw[HC0.out];simp only[M0c,N0c,O0c,P0c,F0c,Q0c,G0c,Z5b,hgl,hpl];try rfl
  have hbu:(i1a 5 a).user=a.user/\(i1a 5 a).share=a.share:=⟨rfl,rfl⟩;obtain⟨hbu1,hbu2⟩:=hbu;rw[o8a hk (by decide)];obtain⟨b,hb⟩:∃x,x=i1a 5 a:=⟨_,rfl⟩;rw[<-hb] at HI HEQ kb hbu1 hbu2⊢;obtain⟨D,hD⟩:∃x,x=o0a (.slice A1 A2 A3) (.slice X1 X2 X3) (.slice M1 M2 M3) b:=⟨_,rfl⟩;rw[<-hD] at HI HEQ;clear hb hD hk ka;go_enter Tryz.func151,Tryz.ntmps151;go_wp2_with(first
   | ((with_reducible refine sN 3 ?_);refine g0a rfl _ (.tmp 1) rfl C0 rfl ?_;intro g w1 hg1 hg2 K1 L1)
   | ((with_reducible refine sT 10 ?_);refine d0a rfl _ (.tmp 10) (.const (.int .u32 0)) rfl g 51 rfl _ C0 (.int .u32 0) rfl K1 (hI (by have:=HL.out;omega)) (by kernel_rfl) rfl ?_;intro w2 K2 O2 hq2;obtain⟨C1,hC1⟩:∃x,x=C0.set 51 (.int .u32 0):=⟨_,rfl⟩;have HC1:=hI hC1;have HL1:Hid (C1.length=69):=(by rw[hC1,List.length_set];exact HL.out);rw[<-hC1] at K2;have L2:=hI (c0a L1.out O2.out hg1);clear hC1)
   | ((with_reducible refine sT 11 ?_);refine d0a rfl _ (.tmp 11) (.const (.int .u32 0)) rfl g 52 rfl _ C1 (.int .u32 0) rfl K2 (hI (by have:=HL1.out;omega)) (by kernel_rfl) rfl ?_;intro w3 K3 O3 hq3;obtain⟨C2,hC2⟩:∃x,x=C1.set 52 (.int .u32 0):=⟨_,rfl⟩;have HC2:=hI hC2;have HL2:Hid (C2.length=69):=(by rw[hC2,List.length_set];exact HL1.out);rw[<-hC2] at K3;have L3:=hI (c0a L2.out O3.out hg1);clear hC2)
   | ((with_reducible refine sT 12 ?_);refine d0a rfl _ (.tmp 12) (.const (.int .u32 0)) rfl g 53 rfl _ C2 (.int .u32 0) rfl K3 (hI (by have:=HL2.out;omega)) (by kernel_rfl) rfl ?_;intro w4 K4 O4 hq4;obtain⟨C3,hC3⟩:∃x,x=C2.set 53 (.int .u32 0):=⟨_,rfl⟩;have HC3:=hI hC3;have HL3:Hid (C3.length=69):=(by rw[hC3,List.length_set];exact HL2.out);rw[<-hC3] at K4;have L4:=hI (c0a L3.out O4.out hg1);clear hC3)
   | ((with_reducible refine sT 13 ?_);refine d0a rfl _ (.tmp 13) (.const (.int .u32 0)) rfl g 54 rfl _ C3 (.int .u32 0) rfl K4 (hI (by have:=HL3.out;omega)) (by kernel_rfl) rfl ?_;intro w5 K5 O5 hq5;obtain⟨C4,hC4⟩:∃x,x=C3.set 54 (.int .u32 0):=⟨_,rfl⟩;have HC4:=hI hC4;have HL4:Hid (C4.length=69):=(by rw[hC4,List.length_set];exact HL3.out);rw[<-hC4] at K5;have L5:=hI (c0a L4.out O5.out hg1);clear hC4)
   | ((with_reducible refine sT 14 ?_);refine d0a rfl _ (.tmp 14) (.const (.int .u8 0)) rfl g 55 rfl _ C4 (.int .u8 0) rfl K5 (hI (by have:=HL4.out;omega)) (by kernel_rfl) rfl ?_;intro w6 K6 O6 hq6;obtain⟨C5,hC5⟩:∃x,x=C4.set 55 (.int .u8 0):=⟨_,rfl⟩;have HC5:=hI hC5;have HL5:Hid (C5.length=69):=(by rw[hC5,List.length_set];exact HL4.out);rw[<-hC5] at K6;have L6:=hI (c0a L5.out O6.out hg1);clear hC5)
   | ((with_reducible refine sT 15 ?_);refine d0a rfl _ (.tmp 15) (.const (.int .u8 0)) rfl g 56 rfl _ C5 (.int .u8 0) rfl K6 (hI (by have:=HL5.out;omega)) (by kernel_rfl) rfl ?_;intro w7 K7 O7 hq7;obtain⟨C6,hC6⟩:∃x,x=C5.set 56 (.int .u8 0):=⟨_,rfl⟩;have HC6:=hI hC6;have HL6:Hid (C6.length=69):=(by rw[hC6,List.length_set];exact HL5.out);rw[<-hC6] at K7;have L7:=hI (c0a L6.out O7.out hg1);clear hC6)
   | ((with_reducible refine sT 16 ?_);refine d0a rfl _ (.tmp 16) (.const (.string .empty)) rfl g 58 rfl _ C6 (.string .empty) rfl K7 (hI (by have:=HL6.out;omega)) (by kernel_rfl) rfl ?_;intro w8 K8 O8 hq8;obtain⟨C7,hC7⟩:∃x,x=C6.set 58 (.string .empty):=⟨_,rfl⟩;have HC7:=hI hC7;have HL7:Hid (C7.length=69):=(by rw[hC7,List.length_set];exact HL6.out);rw[<-hC7] at K8;have L8:=hI (c0a L7.out O8.out hg1);clear hC7)
   | ((with_reducible refine sT 34 ?_);refine d0a rfl _ (.tmp 34) (.const (.int .u64 0)) rfl g 57 rfl _ C7 (.int .u64 0) rfl K8 (hI (by have:=HL7.out;omega)) (by kernel_rfl) rfl ?_;intro w9 K9 O9 hq9;obtain⟨C8,hC8⟩:∃x,x=C7.set 57 (.int .u64 0):=⟨_,rfl⟩;have HC8:=hI hC8;have HL8:Hid (C8.length=69):=(by rw[hC8,List.length_set];exact HL7.out);rw[<-hC8] at K9;have L9:=hI (c0a L8.out O9.out hg1);clear hC8)
   | ((with_reducible refine sN 36 ?_);refine f0a rfl _ (.tmp 3) rfl g rfl _ C8 K9 69 _ Tryz.underlying34 rfl p0a HL8 ?_)
   | fail)
  have HF:Hid (C8=D):=by
   show _=_
   rw[HC8.out,HC7.out,HC6.out,HC5.out,HC4.out,HC3.out,HC2.out,HC1.out];exact HEQ.out
  rw[HF.out];refine(CP.out _ D b kb hbu1 hbu2 (HI.out _ L9.out) L9.out).mono ?_;rintro e v1 ⟨⟨v,er,rfl,her⟩,LQ⟩;have HER:=hI her;have L99:=hI (step L9.out LQ);clear her LQ;go_wp2;go_ret;exact⟨K0a HER.out,L99.out⟩
 ·subst h6;have HI:Hid (∀w':World,Below w.heap.size w w'->j1a w' w'.heap.size (o0a (.slice A1 A2 A3) (.slice X1 X2 X3) (.slice M1 M2 M3) (i1a 6 a)) (i1a 6 a)):=λw' hb=>⟨A1,A2,A3,X1,X2,X3,M1,M2,M3,rfl,hA.over hb,hX.over hb,hM.over hb⟩
  have HEQ:Hid ((C0).set 57 (.int .u64 0)=o0a (.slice A1 A2 A3) (.slice X1 X2 X3) (.slice M1 M2 M3) (i1a 6 a)):=by
   show _=_
   rw[HC0.out];simp only[Z5b,hgl,hpl];try rfl
  have hbu:(i1a 6 a).user=a.user/\(i1a 6 a).share=a.share:=⟨rfl,rfl⟩;obtain⟨hbu1,hbu2⟩:=hbu;rw[o8a hk (by decide)];obtain⟨b,hb⟩:∃x,x=i1a 6 a:=⟨_,rfl⟩;rw[<-hb] at HI HEQ kb hbu1 hbu2⊢;obtain⟨D,hD⟩:∃x,x=o0a (.slice A1 A2 A3) (.slice X1 X2 X3) (.slice M1 M2 M3) b:=⟨_,rfl⟩;rw[<-hD] at HI HEQ;clear hb hD hk ka;go_enter Tryz.func151,Tryz.ntmps151;go_wp2_with(first
   | ((with_reducible refine sN 3 ?_);refine g0a rfl _ (.tmp 1) rfl C0 rfl ?_;intro g w1 hg1 hg2 K1 L1)
   | ((with_reducible refine sT 34 ?_);refine d0a rfl _ (.tmp 34) (.const (.int .u64 0)) rfl g 57 rfl _ C0 (.int .u64 0) rfl K1 (hI (by have:=HL.out;omega)) (by kernel_rfl) rfl ?_;intro w2 K2 O2 hq2;obtain⟨C1,hC1⟩:∃x,x=C0.set 57 (.int .u64 0):=⟨_,rfl⟩;have HC1:=hI hC1;have HL1:Hid (C1.length=69):=(by rw[hC1,List.length_set];exact HL.out);rw[<-hC1] at K2;have L2:=hI (c0a L1.out O2.out hg1);clear hC1)
   | ((with_reducible refine sN 36 ?_);refine f0a rfl _ (.tmp 3) rfl g rfl _ C1 K2 69 _ Tryz.underlying34 rfl p0a HL1 ?_)
   | fail)
  have HF:Hid (C1=D):=by
   show _=_
   rw[HC1.out];exact HEQ.out
  rw[HF.out];refine(CP.out _ D b kb hbu1 hbu2 (HI.out _ L2.out) L2.out).mono ?_;rintro e v1 ⟨⟨v,er,rfl,her⟩,LQ⟩;have HER:=hI her;have L99:=hI (step L2.out LQ);clear her LQ;go_wp2;go_ret;exact⟨K0a HER.out,L99.out⟩
 ·subst h7;have HI:Hid (∀w':World,Below w.heap.size w w'->j1a w' w'.heap.size (o0a (.slice A1 A2 A3) (.slice X1 X2 X3) (.slice M1 M2 M3) (i1a 7 a)) (i1a 7 a)):=λw' hb=>⟨A1,A2,A3,X1,X2,X3,M1,M2,M3,rfl,hA.over hb,hX.over hb,hM.over hb⟩
  have HEQ:Hid ((C0).set 57 (.int .u64 0)=o0a (.slice A1 A2 A3) (.slice X1 X2 X3) (.slice M1 M2 M3) (i1a 7 a)):=by
   show _=_
   rw[HC0.out];simp only[Z5b,hgl,hpl];try rfl
  have hbu:(i1a 7 a).user=a.user/\(i1a 7 a).share=a.share:=⟨rfl,rfl⟩;obtain⟨hbu1,hbu2⟩:=hbu;rw[o8a hk (by decide)];obtain⟨b,hb⟩:∃x,x=i1a 7 a:=⟨_,rfl⟩;rw[<-hb] at HI HEQ kb hbu1 hbu2⊢;obtain⟨D,hD⟩:∃x,x=o0a (.slice A1 A2 A3) (.slice X1 X2 X3) (.slice M1 M2 M3) b:=⟨_,rfl⟩;rw[<-hD] at HI HEQ;clear hb hD hk ka;go_enter Tryz.func151,Tryz.ntmps151;go_wp2_with(first
   | ((with_reducible refine sN 3 ?_);refine g0a rfl _ (.tmp 1) rfl C0 rfl ?_;intro g w1 hg1 hg2 K1 L1)
   | ((with_reducible refine sT 34 ?_);refine d0a rfl _ (.tmp 34) (.const (.int .u64 0)) rfl g 57 rfl _ C0 (.int .u64 0) rfl K1 (hI (by have:=HL.out;omega)) (by kernel_rfl) rfl ?_;intro w2 K2 O2 hq2;obtain⟨C1,hC1⟩:∃x,x=C0.set 57 (.int .u64 0):=⟨_,rfl⟩;have HC1:=hI hC1;have HL1:Hid (C1.length=69):=(by rw[hC1,List.length_set];exact HL.out);rw[<-hC1] at K2;have L2:=hI (c0a L1.out O2.out hg1);clear hC1)
   | ((with_reducible refine sN 36 ?_);refine f0a rfl _ (.tmp 3) rfl g rfl _ C1 K2 69 _ Tryz.underlying34 rfl p0a HL1 ?_)
   | fail)
  have HF:Hid (C1=D):=by
   show _=_
   rw[HC1.out];exact HEQ.out
  rw[HF.out];refine(CP.out _ D b kb hbu1 hbu2 (HI.out _ L2.out) L2.out).mono ?_;rintro e v1 ⟨⟨v,er,rfl,her⟩,LQ⟩;have HER:=hI her;have L99:=hI (step L2.out LQ);clear her LQ;go_wp2;go_ret;exact⟨K0a HER.out,L99.out⟩
 ·subst h8;have HI:Hid (∀w':World,Below w.heap.size w w'->j1a w' w'.heap.size (o0a (.slice A1 A2 A3) (.slice X1 X2 X3) (.slice M1 M2 M3) (i1a 8 a)) (i1a 8 a)):=λw' hb=>⟨A1,A2,A3,X1,X2,X3,M1,M2,M3,rfl,hA.over hb,hX.over hb,hM.over hb⟩
  have HEQ:Hid ((((C0).set 59 (.int .u64 0)).set 60 (.int .u32 0)).set 57 (.int .u64 0)=o0a (.slice A1 A2 A3) (.slice X1 X2 X3) (.slice M1 M2 M3) (i1a 8 a)):=by
   show _=_
   rw[HC0.out];simp only[H0c,R0c,Z5b,hgl,hpl];try rfl
  have hbu:(i1a 8 a).user=a.user/\(i1a 8 a).share=a.share:=⟨rfl,rfl⟩;obtain⟨hbu1,hbu2⟩:=hbu;rw[o8a hk (by decide)];obtain⟨b,hb⟩:∃x,x=i1a 8 a:=⟨_,rfl⟩;rw[<-hb] at HI HEQ kb hbu1 hbu2⊢;obtain⟨D,hD⟩:∃x,x=o0a (.slice A1 A2 A3) (.slice X1 X2 X3) (.slice M1 M2 M3) b:=⟨_,rfl⟩;rw[<-hD] at HI HEQ;clear hb hD hk ka;go_enter Tryz.func151,Tryz.ntmps151;go_wp2_with(first
   | ((with_reducible refine sN 3 ?_);refine g0a rfl _ (.tmp 1) rfl C0 rfl ?_;intro g w1 hg1 hg2 K1 L1)
   | ((with_reducible refine sT 22 ?_);refine d0a rfl _ (.tmp 22) (.const (.int .u64 0)) rfl g 59 rfl _ C0 (.int .u64 0) rfl K1 (hI (by have:=HL.out;omega)) (by kernel_rfl) rfl ?_;intro w2 K2 O2 hq2;obtain⟨C1,hC1⟩:∃x,x=C0.set 59 (.int .u64 0):=⟨_,rfl⟩;have HC1:=hI hC1;have HL1:Hid (C1.length=69):=(by rw[hC1,List.length_set];exact HL.out);rw[<-hC1] at K2;have L2:=hI (c0a L1.out O2.out hg1);clear hC1)
   | ((with_reducible refine sT 23 ?_);refine d0a rfl _ (.tmp 23) (.const (.int .u32 0)) rfl g 60 rfl _ C1 (.int .u32 0) rfl K2 (hI (by have:=HL1.out;omega)) (by kernel_rfl) rfl ?_;intro w3 K3 O3 hq3;obtain⟨C2,hC2⟩:∃x,x=C1.set 60 (.int .u32 0):=⟨_,rfl⟩;have HC2:=hI hC2;have HL2:Hid (C2.length=69):=(by rw[hC2,List.length_set];exact HL1.out);rw[<-hC2] at K3;have L3:=hI (c0a L2.out O3.out hg1);clear hC2)
   | ((with_reducible refine sT 34 ?_);refine d0a rfl _ (.tmp 34) (.const (.int .u64 0)) rfl g 57 rfl _ C2 (.int .u64 0) rfl K3 (hI (by have:=HL2.out;omega)) (by kernel_rfl) rfl ?_;intro w4 K4 O4 hq4;obtain⟨C3,hC3⟩:∃x,x=C2.set 57 (.int .u64 0):=⟨_,rfl⟩;have HC3:=hI hC3;have HL3:Hid (C3.length=69):=(by rw[hC3,List.length_set];exact HL2.out);rw[<-hC3] at K4;have L4:=hI (c0a L3.out O4.out hg1);clear hC3)
   | ((with_reducible refine sN 36 ?_);refine f0a rfl _ (.tmp 3) rfl g rfl _ C3 K4 69 _ Tryz.underlying34 rfl p0a HL3 ?_)
   | fail)
  have HF:Hid (C3=D):=by
   show _=_
   rw[HC3.out,HC2.out,HC1.out];exact HEQ.out
  rw[HF.out];refine(CP.out _ D b kb hbu1 hbu2 (HI.out _ L4.out) L4.out).mono ?_;rintro e v1 ⟨⟨v,er,rfl,her⟩,LQ⟩;have HER:=hI her;have L99:=hI (step L4.out LQ);clear her LQ;go_wp2;go_ret;exact⟨K0a HER.out,L99.out⟩
 ·subst h9;have HI:Hid (∀w':World,Below w.heap.size w w'->j1a w' w'.heap.size (o0a (.slice A1 A2 A3) (.slice none 0 0) (.slice M1 M2 M3) (i1a 9 a)) (i1a 9 a)):=λw' hb=>⟨A1,A2,A3,none,0,0,M1,M2,M3,rfl,hA.over hb,Holds.nil _ _,hM.over hb⟩
  have HEQ:Hid ((((C0).set 59 (.int .u64 0)).set 61 (.slice none 0 0)).set 57 (.int .u64 0)=o0a (.slice A1 A2 A3) (.slice none 0 0) (.slice M1 M2 M3) (i1a 9 a)):=by
   show _=_
   rw[HC0.out];simp only[H0c,y0c,Z5b,hgl,hpl];try rfl
  have hbu:(i1a 9 a).user=a.user/\(i1a 9 a).share=a.share:=⟨rfl,rfl⟩;obtain⟨hbu1,hbu2⟩:=hbu;rw[o8a hk (by decide)];obtain⟨b,hb⟩:∃x,x=i1a 9 a:=⟨_,rfl⟩;rw[<-hb] at HI HEQ kb hbu1 hbu2⊢;obtain⟨D,hD⟩:∃x,x=o0a (.slice A1 A2 A3) (.slice none 0 0) (.slice M1 M2 M3) b:=⟨_,rfl⟩;rw[<-hD] at HI HEQ;clear hb hD hk ka;go_enter Tryz.func151,Tryz.ntmps151;go_wp2_with(first
   | ((with_reducible refine sN 3 ?_);refine g0a rfl _ (.tmp 1) rfl C0 rfl ?_;intro g w1 hg1 hg2 K1 L1)
   | ((with_reducible refine sT 26 ?_);refine d0a rfl _ (.tmp 26) (.const (.int .u64 0)) rfl g 59 rfl _ C0 (.int .u64 0) rfl K1 (hI (by have:=HL.out;omega)) (by kernel_rfl) rfl ?_;intro w2 K2 O2 hq2;obtain⟨C1,hC1⟩:∃x,x=C0.set 59 (.int .u64 0):=⟨_,rfl⟩;have HC1:=hI hC1;have HL1:Hid (C1.length=69):=(by rw[hC1,List.length_set];exact HL.out);rw[<-hC1] at K2;have L2:=hI (c0a L1.out O2.out hg1);clear hC1)
   | ((with_reducible refine sT 27 ?_);refine d0a rfl _ (.tmp 27) (.const (.slice none 0 0)) rfl g 61 rfl _ C1 (.slice none 0 0) rfl K2 (hI (by have:=HL1.out;omega)) (by kernel_rfl) rfl ?_;intro w3 K3 O3 hq3;obtain⟨C2,hC2⟩:∃x,x=C1.set 61 (.slice none 0 0):=⟨_,rfl⟩;have HC2:=hI hC2;have HL2:Hid (C2.length=69):=(by rw[hC2,List.length_set];exact HL1.out);rw[<-hC2] at K3;have L3:=hI (c0a L2.out O3.out hg1);clear hC2)
   | ((with_reducible refine sT 34 ?_);refine d0a rfl _ (.tmp 34) (.const (.int .u64 0)) rfl g 57 rfl _ C2 (.int .u64 0) rfl K3 (hI (by have:=HL2.out;omega)) (by kernel_rfl) rfl ?_;intro w4 K4 O4 hq4;obtain⟨C3,hC3⟩:∃x,x=C2.set 57 (.int .u64 0):=⟨_,rfl⟩;have HC3:=hI hC3;have HL3:Hid (C3.length=69):=(by rw[hC3,List.length_set];exact HL2.out);rw[<-hC3] at K4;have L4:=hI (c0a L3.out O4.out hg1);clear hC3)
   | ((with_reducible refine sN 36 ?_);refine f0a rfl _ (.tmp 3) rfl g rfl _ C3 K4 69 _ Tryz.underlying34 rfl p0a HL3 ?_)
   | fail)
  have HF:Hid (C3=D):=by
   show _=_
   rw[HC3.out,HC2.out,HC1.out];exact HEQ.out
  rw[HF.out];refine(CP.out _ D b kb hbu1 hbu2 (HI.out _ L4.out) L4.out).mono ?_;rintro e v1 ⟨⟨v,er,rfl,her⟩,LQ⟩;have HER:=hI her;have L99:=hI (step L4.out LQ);clear her LQ;go_wp2;go_ret;exact⟨K0a HER.out,L99.out⟩
 ·subst h10;have HI:Hid (∀w':World,Below w.heap.size w w'->j1a w' w'.heap.size (o0a (.slice A1 A2 A3) (.slice X1 X2 X3) (.slice none 0 0) (i1a 10 a)) (i1a 10 a)):=λw' hb=>⟨A1,A2,A3,X1,X2,X3,none,0,0,rfl,hA.over hb,hX.over hb,c1a.nil _ _ _ _⟩
  have HEQ:Hid (((C0).set 62 (.slice none 0 0)).set 57 (.int .u64 0)=o0a (.slice A1 A2 A3) (.slice X1 X2 X3) (.slice none 0 0) (i1a 10 a)):=by
   show _=_
   rw[HC0.out];simp only[z0c,Z5b,hgl,hpl];try rfl
  have hbu:(i1a 10 a).user=a.user/\(i1a 10 a).share=a.share:=⟨rfl,rfl⟩;obtain⟨hbu1,hbu2⟩:=hbu;have CC:Hid (∀w',Below w.heap.size w w'->Calls Tryz.prog 199 #[.slice M1 M2 M3,.func (.func 200) #[] #[]] w' λe w2=>e=.returned (.bool (!shut a.locks))/\Below w'.heap.size w' w2):=λw' hb=>x2b w' M1 M2 M3 a.locks (HM.out.over hb) hml
  have hnf:q7a 10 a=(decide (i1a 10 a=j0a)&&shut a.locks):=by unfold q7a;rw[hk,Bool.true_and]
  rw[hnf];obtain⟨b,hb⟩:∃x,x=i1a 10 a:=⟨_,rfl⟩;rw[<-hb] at HI HEQ kb hbu1 hbu2⊢;obtain⟨D,hD⟩:∃x,x=o0a (.slice A1 A2 A3) (.slice X1 X2 X3) (.slice none 0 0) b:=⟨_,rfl⟩;rw[<-hD] at HI HEQ;clear hb hD hk ka;by_cases hs:shut a.locks=true;rotate_left
  ·have hsf:shut a.locks=false:=by simpa using hs
   rw[hsf,Bool.and_false];rw[hsf] at CC;clear hs hsf;go_enter Tryz.func151,Tryz.ntmps151;go_wp2_with(first
    | ((with_reducible refine sN 3 ?_);refine g0a rfl _ (.tmp 1) rfl C0 rfl ?_;intro g w1 hg1 hg2 K1 L1;have cl:=FL.out w1 g K1.out)
    | fail)
   refine(CC.out w1 L1.out).mono ?_;rintro e v1 ⟨rfl,L9⟩;go_wp2;go_ret;exact⟨rfl,step L1.out L9⟩
  ·rw[hs,Bool.and_true];rw[hs] at CC;clear hs;go_enter Tryz.func151,Tryz.ntmps151;go_wp2_with(first
    | ((with_reducible refine sN 3 ?_);refine g0a rfl _ (.tmp 1) rfl C0 rfl ?_;intro g w1 hg1 hg2 K1 L1;have cl:=FL.out w1 g K1.out)
    | fail)
   refine(CC.out w1 L1.out).mono ?_;rintro e v0 ⟨rfl,L9⟩;have Kx:=hI (K1.out.over L9);have Lx:=hI (step L1.out L9);clear L9 cl K1 L1;have K1:=Kx;have L1:=Lx;clear Kx Lx;go_wp2_with(first
    | ((with_reducible refine sT 33 ?_);refine d0a rfl _ (.tmp 33) (.const (.slice none 0 0)) rfl g 62 rfl _ C0 (.slice none 0 0) rfl K1 (hI (by have:=HL.out;omega)) (by kernel_rfl) rfl ?_;intro w2 K2 O2 hq2;obtain⟨C1,hC1⟩:∃x,x=C0.set 62 (.slice none 0 0):=⟨_,rfl⟩;have HC1:=hI hC1;have HL1:Hid (C1.length=69):=(by rw[hC1,List.length_set];exact HL.out);rw[<-hC1] at K2;have L2:=hI (c0a L1.out O2.out hg1);clear hC1)
    | ((with_reducible refine sT 34 ?_);refine d0a rfl _ (.tmp 34) (.const (.int .u64 0)) rfl g 57 rfl _ C1 (.int .u64 0) rfl K2 (hI (by have:=HL1.out;omega)) (by kernel_rfl) rfl ?_;intro w3 K3 O3 hq3;obtain⟨C2,hC2⟩:∃x,x=C1.set 57 (.int .u64 0):=⟨_,rfl⟩;have HC2:=hI hC2;have HL2:Hid (C2.length=69):=(by rw[hC2,List.length_set];exact HL1.out);rw[<-hC2] at K3;have L3:=hI (c0a L2.out O3.out hg1);clear hC2)
    | ((with_reducible refine sN 36 ?_);refine f0a rfl _ (.tmp 3) rfl g rfl _ C2 K3 69 _ Tryz.underlying34 rfl p0a HL2 ?_)
    | fail)
   have HF:Hid (C2=D):=by
    show _=_
    rw[HC2.out,HC1.out];exact HEQ.out
   rw[HF.out];refine(CP.out _ D b kb hbu1 hbu2 (HI.out _ L3.out) L3.out).mono ?_;rintro e v1 ⟨⟨v,er,rfl,her⟩,LQ⟩;have HER:=hI her;have L99:=hI (step L3.out LQ);clear her LQ;go_wp2;go_ret;exact⟨K0a HER.out,L99.out⟩
end Go.Proofs.YtpodpmckdiijhaaGreatDoor
