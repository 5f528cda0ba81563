import Derived.Deep.OwnRows
import Derived.Test.YtgfflnjggnadpaaGreatDoorZAA
import Derived.Test.YtgfflnjggnadpaaGreatDoorS0
set_option linter.all false
set_option maxHeartbeats 8000000
set_option maxRecDepth 100000
namespace Go.Proofs.YtgfflnjggnadpaaGreatDoor
open Go.RowKit
set_option maxRecDepth 100000
theorem H5a{α:Type}{xs ys:List α}{k:Nat}{x:α}(hx:xs[k]? = some x)(hy:ys[k]? = some x)(h:xs.take k=ys.take k):xs.take (k+1)=ys.take (k+1):=by obtain⟨h1,e1⟩:=List.getElem?_eq_some_iff.1 hx;obtain⟨h2,e2⟩:=List.getElem?_eq_some_iff.1 hy;rw[List.take_succ_eq_append_getElem h1,List.take_succ_eq_append_getElem h2,h,e1,e2]
theorem h8a{α:Type}[DecidableEq α]{xs ys:List α}{k:Nat}{x y:α}(hx:xs[k]? = some x)(hy:ys[k]? = some y)(h:x≠y):decide (xs=ys)=false:=by
 rw[decide_eq_false_iff_not];rintro rfl;rw[hx] at hy;injection hy with hy
 exact h hy
theorem j7a{α:Type}[DecidableEq α]{xs ys:List α}{n:Nat}(hx:xs.length=n)(hy:ys.length=n)(h:xs.take n=ys.take n):decide (xs=ys)=true:=by
 rw[decide_eq_true_iff]
 rwa [List.take_of_length_le (by omega),List.take_of_length_le (by omega)] at h
theorem F2b(w:World)(B B':Nat)(A A':Option Addr)(n c n' c':Nat)(xs ys:List Int)(h:o1a (Value.int .u16) w B A n c xs)(h':o1a (Value.int .u16) w B' A' n' c' ys)(hr:n<=281474976710656)(hr':n'<=281474976710656) :
  Calls Tryz.prog 47 #[.slice A n c,.slice A' n' c'] w λe w'=>e=.returned (.bool (decide (xs=ys)))/\∃k,w.drewN k=w':=by
 have hl:=h.len;have hl':=h'.len;have hf:=h.fit;have hf':=h'.fit;by_cases hn:n=n'
 ·subst hn;have HL:=hI hl;have HL':=hI hl';clear hl hl';go_enter Tryz.func47,Tryz.ntmps47;go_wp2;go_loopw [5] (λi wr=>∃k:Nat,k<=n/\i=.int .i64 k/\Hid (xs.take k=ys.take k)/\∃j,wr=w.drewN j) (λi _=>n-(intOf i).toNat)
  case atStart=>exact⟨0,Nat.zero_le _,rfl,by simp[Hid],0,rfl⟩
  case round=>
   obtain⟨k,hk,rfl,HT,j,rfl⟩:=hrel;by_cases hlt:k<n
   ·obtain⟨b,off,rfl,hb,hc⟩:=h.cells (by omega);obtain⟨b',off',rfl,hb',hc'⟩:=h'.cells (by omega);obtain⟨x,hx⟩:∃x,xs[k]? = some x:=⟨_,List.getElem?_eq_getElem (by have:=HL.out;omega)⟩;obtain⟨y,hy⟩:∃y,ys[k]? = some y:=⟨_,List.getElem?_eq_getElem (by have:=HL'.out;omega)⟩;have gc:=hc k x hx;have gc':=hc' k y hy;clear hc hc';have HX:=hI hx;have HY:=hI hy;clear hx hy;by_cases he:x=y
    ·have hS:Hid (xs.take (k+1)=ys.take (k+1)):=H5a HX.out (by rw[HY.out,he]) HT.out;clear HX HY HT;subst he;have hb0:(x != x)=false:=by simp
     go_wp2;go_quiet (fail);go_wp2;go_roundw
     case rel=>exact⟨k+1,by omega,by go_num,hS,_,rfl⟩
     case measure=>simp[intOf];omega
    ·have hS:=hI (h8a HX.out HY.out he);clear HX HY HT;have hb0:(x != y)=true:=by simpa using he
     clear he;go_wp2;go_quiet (fail);go_wp2;go_ret;exact⟨H0a hS.out.symm,_,(World.drewN_drewN ..).symm⟩
   ·have hS:=hI (j7a (n:=n) HL.out HL'.out (by have:=HT.out;rwa [show k=n from by omega] at this));clear HT;go_wp2;go_ret;exact⟨H0a hS.out.symm,_,rfl⟩
 ·have e1:decide (xs=ys)=false:=by rw[decide_eq_false_iff_not];rintro rfl;omega
  have hne:((n:Int)==(n':Int))=false:=by simp;omega
  have hne':((n:Int) != (n':Int))=true:=by simp;omega
  rw[e1];clear e1 hl hl';go_enter Tryz.func47,Tryz.ntmps47;go_wp2;go_ret;exact⟨rfl,0,rfl⟩
section
variable {P:Program} {w:World} {d:Nat} {xs ys:Array Value} {r:List (Bool×TypeId×Nat)} {q:Bool}
theorem bytes_beq(a b:ByteArray):(a.toList==b.toList)=decide (a=b):=by rw[Bool.eq_iff_iff,beq_iff_eq,decide_eq_true_iff,ByteArray.toList_eq,ByteArray.toList_eq];obtain⟨⟨x⟩⟩:=a;obtain⟨⟨y⟩⟩:=b;simp
theorem Q3b(t:TypeId)(o:Nat)(x y:ByteArray)(ht:P.underlying t=some .string)(hx:xs[o]? = some (.string x))(hy:ys[o]? = some (.string y))(hr:(r4a (d+1) xs ys r).run P w=.ok q w) :
  (r4a (d+1) xs ys ((false,t,o)::r)).run P w=.ok (decide (x=y)&&q) w:=by
 have p1:(part t xs o).run P w=.ok (.string x) w:=by simp[part,isAgg,run_underlying ht,hx]
 have p2:(part t ys o).run P w=.ok (.string y) w:=by simp[part,isAgg,run_underlying ht,hy]
 simp only[r4a,Bool.false_eq_true,if_false,Sem.run_bind,p1,p2,Result.andThen_ok,run_equalIn_string w d t _ _ ht,bytes_beq];by_cases h:x=y
 ·subst h;simpa using hr
 ·simp[h]
end
theorem G2b:(Tryz.prog.fieldsOf 114).toList.map (λf=>(decide (f.name = "_"),f.type,f.offset))=[(false,3,0),(false,25,1),(false,25,2),(false,22,3)]:=by kernel_rfl
theorem P8a(a b:m2a)(w:World):(Op.equalIn 10000 114 (.agg (P0a a).toArray) (.agg (P0a b).toArray)).run Tryz.prog w=.ok (decide (a=b)) w:=by
 rw[show(10000:Nat)=9999+1 from rfl,run_equalIn_struct w 9999 114 _ _ Tryz.underlying114 (by kernel_rfl),w4a,G2b];have h:=Q1a (P:=Tryz.prog) (w:=w) (d:=9998) (xs:=(P0a a).toArray) (ys:=(P0a b).toArray) 3 .i64 0 a.op b.op Tryz.underlying3 rfl rfl
  (Q1a 25 .u64 1 a.at_ b.at_ Tryz.underlying25 rfl rfl
  (Q1a 25 .u64 2 a.n b.n Tryz.underlying25 rfl rfl
  (Q1a (r:=[]) (q:=true) 22 .u16 3 a.md b.md Tryz.underlying22 rfl rfl (by simp[r4a]))))
 refine h.trans ?_
 congr 1
 obtain⟨a0,a1,a2,a3⟩:=a;obtain⟨b0,b1,b2,b3⟩:=b;rw[Bool.eq_iff_iff];simp
theorem R3b:Tryz.prog.eqGuardType Tryz.prog.depth 114=false:=by kernel_rfl
theorem u5a:(Tryz.prog.info? 114).map (·.size)=some 4:=by kernel_rfl
theorem W4b(w:World)(B B':Nat)(A A':Option Addr)(n c n' c':Nat)(xs ys:List m2a)(h:T0a P0a 4 w B A n c xs)(h':T0a P0a 4 w B' A' n' c' ys)(hr:n<=281474976710656)(hr':n'<=281474976710656) :
  Calls Tryz.prog 48 #[.slice A n c,.slice A' n' c'] w λe w'=>e=.returned (.bool (decide (xs=ys)))/\∃k,w.drewN k=w':=by
 have hl:=h.len;have hl':=h'.len;have hf:=h.fit;have hf':=h'.fit;by_cases hn:n=n'
 ·subst hn;have HL:=hI hl;have HL':=hI hl';clear hl hl';go_enter Tryz.func48,Tryz.ntmps48;go_wp2;go_loopw [5] (λi wr=>∃k:Nat,k<=n/\i=.int .i64 k/\Hid (xs.take k=ys.take k)/\∃j,wr=w.drewN j) (λi _=>n-(intOf i).toNat)
  case atStart=>exact⟨0,Nat.zero_le _,rfl,by simp[Hid],0,rfl⟩
  case round=>
   obtain⟨k,hk,rfl,HT,j,rfl⟩:=hrel;by_cases hlt:k<n
   ·obtain⟨b,off,rfl,hb,hc⟩:=h.cells (by omega);obtain⟨b',off',rfl,hb',hc'⟩:=h'.cells (by omega);obtain⟨x,hx⟩:∃x,xs[k]? = some x:=⟨_,List.getElem?_eq_getElem (by have:=HL.out;omega)⟩;obtain⟨y,hy⟩:∃y,ys[k]? = some y:=⟨_,List.getElem?_eq_getElem (by have:=HL'.out;omega)⟩;have rx:=h.range rfl hlt hx;have ry:=h'.range rfl hlt hy;clear hc hc';have HX:=hI hx;have HY:=hI hy;have q0:∀w:World,(Op.equalIn 10000 114 (.agg (P0a x).toArray) (.agg (P0a y).toArray)).run Tryz.prog w=.ok (decide (x=y)) w:=λw=>P8a x y w
    have qg:=R3b;obtain⟨wj,hwj⟩:∃wj,wj=w.drewN j:=⟨_,rfl⟩;have Rx:Hid (wj.rangeAt b (off+k*4) (P0a x)):=by rw[hwj];exact rx
    have Ry:Hid (wj.rangeAt b' (off'+k*4) (P0a y)):=by rw[hwj];exact ry
    rw[<-hwj];have HW:=hI hwj;have LX:Hid ((P0a x).length=4):=rfl;have LY:Hid ((P0a y).length=4):=rfl;obtain⟨cx,hcx⟩:∃cx,cx=P0a x:=⟨_,rfl⟩;obtain⟨cy,hcy⟩:∃cy,cy=P0a y:=⟨_,rfl⟩;rw[<-hcx] at Rx LX q0;rw[<-hcy] at Ry LY q0;obtain⟨z,hz⟩:∃z,z=decide (x=y):=⟨_,rfl⟩;rw[<-hz] at q0;have HZ:=hI hz;clear hx hy hwj rx ry hcx hcy hz;go_upto_region 6 with fail
    refine wp_region_held (S:=λw'=>World.rangeAt w' b (off+k*4) cx/\World.rangeAt w' b' (off'+k*4) cy) (by kernel_rfl) ?_;change wpAnyH _ _ _ _ _ _ _ _ wj.drew
    have S0:Hid (World.rangeAt wj.drew b (off+k*4) cx/\World.rangeAt wj.drew b' (off'+k*4) cy):=⟨Rx.out,Ry.out⟩;have b0:Hid (Below w.heap.size w wj.drew):=by rw[HW.out];exact b6a w (j+1)
    refine tK 0 _ rfl (t0a (by kernel_rfl) (.tmp 0) rfl (.slice (some ⟨b,off,none⟩) n c) (by kernel_rfl)) S0.out ?_;refine tK 1 _ rfl (t0a (by kernel_rfl) (.tmp 5) rfl (.int .i64 k) (by kernel_rfl)) S0.out ?_;refine tK 2 (.pointer (some ⟨b,off+k*4,none⟩)) rfl (.inl ⟨by kernel_rfl,λw _=>by go_simp⟩) S0.out ?_;refine tK 3 _ rfl (yieldsIf_load_mid (by kernel_rfl) _ (.tmp 19) rfl b (off+k*4) (by kernel_rfl) cx _ (λ_ h=>h.1) Tryz.underlying114 rfl (by rw[u5a,LX.out])) S0.out ?_;refine tK 4 _ rfl (t0a (by kernel_rfl) (.tmp 1) rfl (.slice (some ⟨b',off',none⟩) n c') (by kernel_rfl)) S0.out ?_;refine tK 5 _ rfl (t0a (by kernel_rfl) (.tmp 5) rfl (.int .i64 k) (by kernel_rfl)) S0.out ?_;refine tK 6 (.pointer (some ⟨b',off'+k*4,none⟩)) rfl (.inl ⟨by kernel_rfl,λw _=>by go_simp⟩) S0.out ?_;refine tK 7 _ rfl (yieldsIf_load_mid (by kernel_rfl) _ (.tmp 23) rfl b' (off'+k*4) (by kernel_rfl) cy _ (λ_ h=>h.2) Tryz.underlying114 rfl (by rw[u5a,LY.out])) S0.out ?_;refine oN 8 _ rfl λK hK=>?_
    go_simp;refine hK _ _ S0.out ?_;clear hK K;refine dN ?_;have HE:Hid (wj.drew=w.drewN (j+1)):=by show _=_;rw[HW.out];exact World.drewN_drewN w j 1
    cases z
    ·have hS:=hI (h8a HX.out HY.out (by have:=HZ.out;simpa using this.symm));go_wp2_with fail;go_ret;exact⟨H0a hS.out.symm,_,HE.out.symm⟩
    ·have hxy:x=y:=by have:=HZ.out;simpa using this.symm
     have hS:Hid (xs.take (k+1)=ys.take (k+1)):=H5a HX.out (by rw[HY.out,hxy]) HT.out;clear hxy;go_wp2_with fail;go_roundw
     case rel=>exact⟨k+1,by omega,by go_num,hS,_,HE.out⟩
     case measure=>simp[intOf];omega
   ·have hS:=hI (j7a (n:=n) HL.out HL'.out (by have:=HT.out;rwa [show k=n from by omega] at this));clear HT;go_wp2;go_ret;exact⟨H0a hS.out.symm,_,rfl⟩
 ·have e1:decide (xs=ys)=false:=by rw[decide_eq_false_iff_not];rintro rfl;omega
  have hne:((n:Int)==(n':Int))=false:=by simp;omega
  have hne':((n:Int) != (n':Int))=true:=by simp;omega
  rw[e1];clear e1 hl hl';go_enter Tryz.func48,Tryz.ntmps48;go_wp2;go_ret;exact⟨rfl,0,rfl⟩
theorem H2b:(Tryz.prog.fieldsOf 116).toList.map (λf=>(decide (f.name = "_"),f.type,f.offset))=[(false,36,0),(false,3,1)]:=by kernel_rfl
theorem H1b:(Tryz.prog.fieldsOf 118).toList.map (λf=>(decide (f.name = "_"),f.type,f.offset))=[(false,9,0),(false,116,1)]:=by kernel_rfl
theorem F2a:(Tryz.prog.info? 116).map (·.size)=some 2:=by kernel_rfl
theorem Q8a(a b c d:Int)(w:World):(Op.equalIn 9999 116 (.agg #[.int .u8 a,.int .i64 b]) (.agg #[.int .u8 c,.int .i64 d])).run Tryz.prog w=.ok (decide (a=c/\b=d)) w:=by
 rw[show(9999:Nat)=9998+1 from rfl,run_equalIn_struct w 9998 116 _ _ Tryz.underlying116 (by kernel_rfl),w4a,H2b];have h:=Q1a (P:=Tryz.prog) (w:=w) (d:=9997) (xs:=#[.int .u8 a,.int .i64 b]) (ys:=#[.int .u8 c,.int .i64 d]) 36 .u8 0 a c Tryz.underlying36 rfl rfl
  (Q1a (r:=[]) (q:=true) 3 .i64 1 b d Tryz.underlying3 rfl rfl (by simp[r4a]))
 refine h.trans ?_
 congr 1
 rw[Bool.eq_iff_iff];simp
theorem i8a(a b:s1a)(w:World):(Op.equalIn 10000 118 (.agg (J0a a).toArray) (.agg (J0a b).toArray)).run Tryz.prog w=.ok (decide (a=b)) w:=by
 rw[show(10000:Nat)=9999+1 from rfl,run_equalIn_struct w 9999 118 _ _ Tryz.underlying118 (by kernel_rfl),w4a,H1b];have hs:(r4a 9999 (J0a a).toArray (J0a b).toArray [(false,116,1)]).run Tryz.prog w=.ok (decide (a.kind=b.kind/\a.size=b.size)) w:=by
  obtain⟨j,hj,hj1⟩:∃j,Tryz.prog.info? 116=some j/\j.size=2:=by
   have h2:=F2a;cases hq:Tryz.prog.info? 116 with
   | none=>rw[hq] at h2;cases h2
   | some j=>exact⟨j,rfl,by rw[hq] at h2;simpa using h2⟩
  have p1:∀c:s1a,(part 116 (J0a c).toArray 1).run Tryz.prog w=.ok (.agg #[.int .u8 c.kind,.int .i64 c.size]) w:=λc=>by simp[part,isAgg,run_underlying Tryz.underlying116,sizeOf,typeInfo,hj,hj1,J0a]
  simp only[r4a,Bool.false_eq_true,if_false,Sem.run_bind,p1,Result.andThen_ok,Q8a];by_cases h:a.kind=b.kind/\a.size=b.size
  ·simp[h]
  ·simp[h]
 have h:=Q3b (P:=Tryz.prog) (w:=w) (d:=9998) (xs:=(J0a a).toArray) (ys:=(J0a b).toArray) 9 0 a.name b.name Tryz.underlying9 rfl rfl hs;refine h.trans ?_
 congr 1
 obtain⟨a0,a1,a2⟩:=a;obtain⟨b0,b1,b2⟩:=b;rw[Bool.eq_iff_iff];simp
theorem I2b:Tryz.prog.eqGuardType Tryz.prog.depth 118=false:=by kernel_rfl
theorem A4a:(Tryz.prog.info? 118).map (·.size)=some 3:=by kernel_rfl
theorem J2b(w:World)(B B':Nat)(A A':Option Addr)(n c n' c':Nat)(xs ys:List s1a)(h:T0a J0a 3 w B A n c xs)(h':T0a J0a 3 w B' A' n' c' ys)(hr:n<=281474976710656)(hr':n'<=281474976710656) :
  Calls Tryz.prog 49 #[.slice A n c,.slice A' n' c'] w λe w'=>e=.returned (.bool (decide (xs=ys)))/\∃k,w.drewN k=w':=by
 have hl:=h.len;have hl':=h'.len;have hf:=h.fit;have hf':=h'.fit;by_cases hn:n=n'
 ·subst hn;have HL:=hI hl;have HL':=hI hl';clear hl hl';go_enter Tryz.func49,Tryz.ntmps49;go_wp2;go_loopw [5] (λi wr=>∃k:Nat,k<=n/\i=.int .i64 k/\Hid (xs.take k=ys.take k)/\∃j,wr=w.drewN j) (λi _=>n-(intOf i).toNat)
  case atStart=>exact⟨0,Nat.zero_le _,rfl,by simp[Hid],0,rfl⟩
  case round=>
   obtain⟨k,hk,rfl,HT,j,rfl⟩:=hrel;by_cases hlt:k<n
   ·obtain⟨b,off,rfl,hb,hc⟩:=h.cells (by omega);obtain⟨b',off',rfl,hb',hc'⟩:=h'.cells (by omega);obtain⟨x,hx⟩:∃x,xs[k]? = some x:=⟨_,List.getElem?_eq_getElem (by have:=HL.out;omega)⟩;obtain⟨y,hy⟩:∃y,ys[k]? = some y:=⟨_,List.getElem?_eq_getElem (by have:=HL'.out;omega)⟩;have rx:=h.range rfl hlt hx;have ry:=h'.range rfl hlt hy;clear hc hc';have HX:=hI hx;have HY:=hI hy;have q0:∀w:World,(Op.equalIn 10000 118 (.agg (J0a x).toArray) (.agg (J0a y).toArray)).run Tryz.prog w=.ok (decide (x=y)) w:=λw=>i8a x y w
    have qg:=I2b;obtain⟨wj,hwj⟩:∃wj,wj=w.drewN j:=⟨_,rfl⟩;have Rx:Hid (wj.rangeAt b (off+k*3) (J0a x)):=by rw[hwj];exact rx
    have Ry:Hid (wj.rangeAt b' (off'+k*3) (J0a y)):=by rw[hwj];exact ry
    rw[<-hwj];have HW:=hI hwj;have LX:Hid ((J0a x).length=3):=rfl;have LY:Hid ((J0a y).length=3):=rfl;obtain⟨cx,hcx⟩:∃cx,cx=J0a x:=⟨_,rfl⟩;obtain⟨cy,hcy⟩:∃cy,cy=J0a y:=⟨_,rfl⟩;rw[<-hcx] at Rx LX q0;rw[<-hcy] at Ry LY q0;obtain⟨z,hz⟩:∃z,z=decide (x=y):=⟨_,rfl⟩;rw[<-hz] at q0;have HZ:=hI hz;clear hx hy hwj rx ry hcx hcy hz;go_upto_region 6 with fail
    refine wp_region_held (S:=λw'=>World.rangeAt w' b (off+k*3) cx/\World.rangeAt w' b' (off'+k*3) cy) (by kernel_rfl) ?_;change wpAnyH _ _ _ _ _ _ _ _ wj.drew
    have S0:Hid (World.rangeAt wj.drew b (off+k*3) cx/\World.rangeAt wj.drew b' (off'+k*3) cy):=⟨Rx.out,Ry.out⟩;have b0:Hid (Below w.heap.size w wj.drew):=by rw[HW.out];exact b6a w (j+1)
    refine tK 0 _ rfl (t0a (by kernel_rfl) (.tmp 0) rfl (.slice (some ⟨b,off,none⟩) n c) (by kernel_rfl)) S0.out ?_;refine tK 1 _ rfl (t0a (by kernel_rfl) (.tmp 5) rfl (.int .i64 k) (by kernel_rfl)) S0.out ?_;refine tK 2 (.pointer (some ⟨b,off+k*3,none⟩)) rfl (.inl ⟨by kernel_rfl,λw _=>by go_simp⟩) S0.out ?_;refine tK 3 _ rfl (yieldsIf_load_mid (by kernel_rfl) _ (.tmp 19) rfl b (off+k*3) (by kernel_rfl) cx _ (λ_ h=>h.1) Tryz.underlying118 rfl (by rw[A4a,LX.out])) S0.out ?_;refine tK 4 _ rfl (t0a (by kernel_rfl) (.tmp 1) rfl (.slice (some ⟨b',off',none⟩) n c') (by kernel_rfl)) S0.out ?_;refine tK 5 _ rfl (t0a (by kernel_rfl) (.tmp 5) rfl (.int .i64 k) (by kernel_rfl)) S0.out ?_;refine tK 6 (.pointer (some ⟨b',off'+k*3,none⟩)) rfl (.inl ⟨by kernel_rfl,λw _=>by go_simp⟩) S0.out ?_;refine tK 7 _ rfl (yieldsIf_load_mid (by kernel_rfl) _ (.tmp 23) rfl b' (off'+k*3) (by kernel_rfl) cy _ (λ_ h=>h.2) Tryz.underlying118 rfl (by rw[A4a,LY.out])) S0.out ?_;refine oN 8 _ rfl λK hK=>?_
    go_simp;refine hK _ _ S0.out ?_;clear hK K;refine dN ?_;have HE:Hid (wj.drew=w.drewN (j+1)):=by show _=_;rw[HW.out];exact World.drewN_drewN w j 1
    cases z
    ·have hS:=hI (h8a HX.out HY.out (by have:=HZ.out;simpa using this.symm));go_wp2_with fail;go_ret;exact⟨H0a hS.out.symm,_,HE.out.symm⟩
    ·have hxy:x=y:=by have:=HZ.out;simpa using this.symm
     have hS:Hid (xs.take (k+1)=ys.take (k+1)):=H5a HX.out (by rw[HY.out,hxy]) HT.out;clear hxy;go_wp2_with fail;go_roundw
     case rel=>exact⟨k+1,by omega,by go_num,hS,_,HE.out⟩
     case measure=>simp[intOf];omega
   ·have hS:=hI (j7a (n:=n) HL.out HL'.out (by have:=HT.out;rwa [show k=n from by omega] at this));clear HT;go_wp2;go_ret;exact⟨H0a hS.out.symm,_,rfl⟩
 ·have e1:decide (xs=ys)=false:=by rw[decide_eq_false_iff_not];rintro rfl;omega
  have hne:((n:Int)==(n':Int))=false:=by simp;omega
  have hne':((n:Int) != (n':Int))=true:=by simp;omega
  rw[e1];clear e1 hl hl';go_enter Tryz.func49,Tryz.ntmps49;go_wp2;go_ret;exact⟨rfl,0,rfl⟩
theorem X4b:(Tryz.prog.info? 114).map (λi=>(i.zero,i.size,i.bytes))=some (some (.agg (P0a ⟨0,0,0,0⟩).toArray),4,32):=by kernel_rfl
theorem S3b:(Tryz.prog.info? 118).map (λi=>(i.zero,i.size,i.bytes))=some (some (.agg (J0a ⟨.empty,0,0⟩).toArray),3,32):=by kernel_rfl
theorem U0b(w:World)(A:Option Addr)(n c:Nat)(xs:List m2a)(h:T0a P0a 4 w w.heap.size A n c xs)(hn:n<=4398046511103) :
  Calls Tryz.prog 34 #[.slice A n c] w λe w'=>∃v,e=.returned v/\O8a P0a 4 114 w' w.heap.size v xs/\Below w.heap.size w w':=by
 have hxl:xs.length<=4398046511103:=by have:=h.len;omega
 go_enter Tryz.func34,Tryz.ntmps34;go_wp2_with(at_builtin;refine C4a rfl (.tmp 4) (.tmp 5) P0a 4 (by omega) u4a F7a _ rfl 32 114 32 Tryz.underlying32 X4b rfl w.heap.size _ [] rfl (O8a.nil _ _ _ _ _) w.heap.size A n c xs rfl h (by simp;omega) (by simp;omega) (Nat.le_refl _) ?_;intro v1 w1 ho1 hb1);have ho:=ho1.out;rw[List.nil_append] at ho;go_ret;exact⟨_,rfl,ho,hb1.out⟩
theorem Y4b:(Tryz.prog.info? 22).map (λi=>(i.zero,i.size,i.bytes))=some (some (.int .u16 0),1,2):=by kernel_rfl
section
variable {a:m1a} {s:E1a} {vd vx vl ve v:Value}
theorem A6b:(l0a vd vx vl a).set 0 v=l0a v vx vl a:=rfl
theorem B6b(k:a.ok):(l0a vd vx vl a).set 61 v=l0a vd v vl a:=H6a k 12 v
theorem C6b(k:a.ok):(l0a vd vx vl a).set 62 v=l0a vd vx v a:=H6a k 13 v
theorem p0b(k:s.ok)(i:Nat)(u:Value):(s0a vx ve s).set (10+i) u=.int .u16 s.dia::.int .u64 s.siz::(s.chal.map (Value.int .u8)++(f0b vx ve s).set i u):=by
 unfold s0a;rw[show 10+i=(8+i)+1+1 from by omega,List.set_cons_succ,List.set_cons_succ,List.set_append_right _ _ (by rw[List.length_map,k.clen];omega),List.length_map,k.clen]
 congr 4
 omega
theorem D6b(k:s.ok):(s0a vx ve s).set 15 v=s0a v ve s:=p0b k 5 v
theorem E6b(k:s.ok):(s0a vx ve s).set 17 v=s0a vx v s:=p0b k 7 v
end
def o5a(lo:Nat)(o:Option Value):Prop:=∀b off s n c,o=some (.slice (some ⟨b,off,s⟩) n c)->lo<=b
theorem k6a{w:World}{base lo:Nat}{e:TypeId}{s n:Nat}{v:Value}{xs:List Value}(h:w.ownsRow base e s v n xs)(hl:lo<=base):o5a lo (some v):=λb off t m c hq=>by
 rcases h.2 with⟨rfl,_⟩ | ⟨g,cap,cur,rfl,h1,_⟩
 ·cases hq
 ·cases hq;omega
theorem I1b(w:World)(cs:List Value)(a:m1a)(k:a.ok)(h:b1a w w.heap.size cs a)(hb:a.dial.length<=70368744177663/\a.data.length<=140737488355328/\a.locks.length<=4398046511103) :
  Calls Tryz.prog 18 #[.agg cs.toArray] w λe w'=>∃cs',e=.returned (.agg cs'.toArray)/\b1a w' w'.heap.size cs' a/\Below w.heap.size w w'/\(o5a w.heap.size cs'[0]?/\o5a w.heap.size cs'[61]?/\o5a w.heap.size cs'[62]?):=by
 obtain⟨hbd,hbx,hbl⟩:=hb;have HL:=hI (h.len k);have HO:=hI h.one;obtain⟨Ad,nd,cd,Ax,nx,cx,Al,nl,cl,rfl,hd,hx,hl⟩:=h;have HD:=hI hd;have HX:=hI hx;have HLK:=hI hl;have hnx:nx<=140737488355328:=by have:=hx.len;omega
 have hnl:nl<=4398046511103:=by have:=hl.len;omega
 have E0:Hid ((l0a (.slice Ad nd cd) (.slice Ax nx cx) (.slice Al nl cl) a)[0]? = some (.slice Ad nd cd)):=rfl;have E1:Hid (∀v,(l0a v (.slice Ax nx cx) (.slice Al nl cl) a)[61]? = some (.slice Ax nx cx)):=λv=>j0a k 12
 have E2:Hid (∀v u,(l0a v u (.slice Al nl cl) a)[62]? = some (.slice Al nl cl)):=λv u=>j0a k 13
 have S0:Hid (∀v,(l0a (.slice Ad nd cd) (.slice Ax nx cx) (.slice Al nl cl) a).set 0 v=l0a v (.slice Ax nx cx) (.slice Al nl cl) a):=λv=>A6b
 have S1:Hid (∀v u,(l0a v (.slice Ax nx cx) (.slice Al nl cl) a).set 61 u=l0a v u (.slice Al nl cl) a):=λv u=>B6b k
 have S2:Hid (∀v u t,(l0a v u (.slice Al nl cl) a).set 62 t=l0a v u t a):=λv u t=>C6b k
 have LN:Hid (∀v u t,(l0a v u t a).length=69):=λv u t=>h1a k
 have ON:Hid (∀v u t,v.oneCell'=true->u.oneCell'=true->t.oneCell'=true->∀x∈l0a v u t a,x.oneCell'=true):=λv u t h1 h2 h3=>D1a h1 h2 h3
 have G1:Hid (∀v u t,(l0a v u t a)[61]? = some u):=λv u t=>j0a k 12
 have G2:Hid (∀v u t,(l0a v u t a)[62]? = some t):=λv u t=>j0a k 13
 have ZH:=hI G5a;have HZ:Hid ((l0a (.slice none 0 0) (.slice none 0 0) (.slice none 0 0) k0a).length=69):=h1a f0a;obtain⟨zs,hzs⟩:∃zs,zs=l0a (.slice none 0 0) (.slice none 0 0) (.slice none 0 0) k0a:=⟨_,rfl⟩;rw[<-hzs] at ZH HZ;obtain⟨cs,hcs⟩:∃cs,cs=l0a (.slice Ad nd cd) (.slice Ax nx cx) (.slice Al nl cl) a:=⟨_,rfl⟩;obtain⟨c1,hc1⟩:∃c1:Value->List Value,c1=λv=>l0a v (.slice Ax nx cx) (.slice Al nl cl) a:=⟨_,rfl⟩
 obtain⟨c2,hc2⟩:∃c2:Value->Value->List Value,c2=λv u=>l0a v u (.slice Al nl cl) a:=⟨_,rfl⟩
 have T0:Hid (∀v,cs.set 0 v=c1 v):=by intro v;rw[hcs,hc1];exact S0.out v
 have T1:Hid (∀v u,(c1 v).set 61 u=c2 v u):=by intro v u;rw[hc1,hc2];exact S1.out v u
 have T2:Hid (∀v u t,(c2 v u).set 62 t=l0a v u t a):=by intro v u t;rw[hc2];exact S2.out v u t
 have F1:Hid (∀v,(c1 v)[61]? = some (.slice Ax nx cx)):=by intro v;rw[hc1];exact E1.out v
 have F2:Hid (∀v u,(c2 v u)[62]? = some (.slice Al nl cl)):=by intro v u;rw[hc2];exact E2.out v u
 have N1:Hid (∀v,(c1 v).length=69):=by intro v;rw[hc1];exact LN.out _ _ _
 have N2:Hid (∀v u,(c2 v u).length=69):=by intro v u;rw[hc2];exact LN.out _ _ _
 rw[<-hcs] at E0 HL HO⊢;have hdl:=hd.len;clear hd hx hl k hzs hcs hc1 hc2 E1 E2 S0 S1 S2;go_enter Tryz.func18,Tryz.ntmps18;go_wp2_with(first
  | ((with_reducible refine sN 1 ?_);refine a0a rfl _ (.tmp 0) rfl cs rfl ?_;intro g w1 hg1 hg2 B1 L1)
  | ((with_reducible refine sN 2 ?_);refine b0a rfl _ rfl zs _ ZH ?_;intro g2 w2 hg3 hg4 Z2 L2;have B2:=hI (B1.out.over L2.out);have L12:=hI (step L1.out L2.out);have g0:=B2.out.at E0.out)
  | (at_builtin;refine h7a rfl (.tmp 4) (.tmp 6) (Value.int .u16) (λ_=>rfl) (.int .u16 0) rfl 29 22 2 Tryz.underlying29 Y4b rfl w2.heap.size _ [] rfl (b5a.nil _ _ _ _) w.heap.size Ad nd cd a.dial rfl (HD.out.below L12.out) (by simp;omega) (by simp;omega) (Nat.le_refl _) ?_;intro v3 w3 O3 L3;have B3:=hI (B2.out.over L3.out);have hv3:=O3.out.oneCell)
  | ((with_reducible refine sT 8 ?_);refine h0a rfl _ (.tmp 8) (.tmp 7) rfl g 0 rfl _ cs v3 rfl B3 (by have:=HL.out;show 0<_;omega) (by kernel_rfl) hv3 ?_;intro w4 B4 P4 hg5;rw[T0.out] at B4;have g61:=B4.out.at (F1.out v3))
  | fail)
 have hgw2:=B2.out.lt;have L14:Hid (Below w.heap.size w w4):=c0a (L12.out.trans (L3.out.mono (by have:=L12.out.size;omega))) P4.out hg1;have hzg:g2≠g:=by have:=B1.out.lt;omega
 have Z4:Hid (Blk w4 g2 34 zs):=(Z2.out.over L3.out).only P4.out hzg;have O4:Hid (b5a (Value.int .u16) 22 w4 w2.heap.size v3 a.dial):=by have:=O3.out;rw[List.nil_append] at this;exact this.keep λi _ hi _=>P4.out.rest i (by have:=(this.block hi).1;omega)
 clear O3 B3 P4 Z2 B1 B2 L1 L2 L3 L12 g0;refine(q3b w4 Ax nx cx a.data (HX.out.over L14.out) hnx).mono ?_;rintro e w5 ⟨v5,rfl,O5,L5⟩;have B5:=hI (B4.out.over L5);have Z5:=hI (Z4.out.over L5);have O45:=hI (O4.out.below L5);have L15:=hI (step L14.out L5);have O5':=hI O5;have hv5:v5.oneCell'=true:=by obtain⟨A1,c1,rfl⟩:=O5.len;rfl
 have hgw4:=B4.out.lt;have hzw4:=Z4.out.lt;have hs45:=L14.out.size;clear B4 Z4 O4 L14 O5 g61;go_wp2_with(first
  | ((with_reducible refine sT 12 ?_);refine h0a rfl _ (.tmp 12) (.tmp 11) rfl g 61 rfl _ (c1 v3) v5 rfl B5 (by have:=N1.out v3;show 61<_;omega) (by kernel_rfl) hv5 ?_;intro w6 B6 P6 hg6;rw[T1.out] at B6;have g62:=B6.out.at (F2.out v3 v5))
  | fail)
 have L16:Hid (Below w.heap.size w w6):=c0a L15.out P6.out hg1;have Z6:Hid (Blk w6 g2 34 zs):=Z5.out.only P6.out hzg;have O46:Hid (b5a (Value.int .u16) 22 w6 w2.heap.size v3 a.dial):=O45.out.keep λi _ hi _=>P6.out.rest i (by have:=(O45.out.block hi).1;omega)
 have O56:Hid (Own w6 w4.heap.size v5 a.data):=by
  refine⟨O5'.out.1,?_⟩;rcases O5'.out.2 with h0 | ⟨q,cap,cur,rfl,h1,hq,rest⟩
  ·exact .inl h0
  ·exact .inr ⟨q,cap,cur,rfl,h1,(P6.out.rest q (by omega)).trans hq,rest⟩
 clear B5 Z5 O45 L15 O5' P6;refine(U0b w6 Al nl cl a.locks (HLK.out.over L16.out) hnl).mono ?_;rintro e w7 ⟨v7,rfl,O7,L7⟩;have B7:=hI (B6.out.over L7);have Z7:=hI (Z6.out.over L7);have O47:=hI (O46.out.below L7);have O57:=hI (O56.out.below L7);have L17:=hI (step L16.out L7);have O7':=hI O7;have hv7:v7.oneCell'=true:=by obtain⟨A1,n1,c1,rfl,_⟩:=O7.holds (by omega) u4a;rfl
 have hgw6:=B6.out.lt;have hzw6:=Z6.out.lt;clear B6 Z6 O46 O56 L16 O7 g62;have HN3:Hid ((l0a v3 v5 v7 a).length=69):=LN.out _ _ _;have HO3:Hid (∀x∈l0a v3 v5 v7 a,x.oneCell'=true):=ON.out _ _ _ hv3 hv5 hv7;obtain⟨c3,hc3⟩:∃c3,c3=l0a v3 v5 v7 a:=⟨_,rfl⟩;have T3:Hid ((c2 v3 v5).set 62 v7=c3):=by show _=_;rw[hc3];exact T2.out _ _ _
 rw[<-hc3] at HN3 HO3;have HC3:=hI hc3;clear hc3;go_wp2_with(first
  | ((with_reducible refine sT 16 ?_);refine h0a rfl _ (.tmp 16) (.tmp 15) rfl g 62 rfl _ (c2 v3 v5) v7 rfl B7 (by have:=N2.out v3 v5;show 62<_;omega) (by kernel_rfl) hv7 ?_;intro w8 B8 P8 hg8;rw[T3.out] at B8;have Z8:Hid (Blk w8 g2 34 zs):=Z7.out.only P8.out hzg)
  | ((with_reducible refine sN 17 ?_);refine d0a rfl _ (.tmp 1) rfl g rfl _ c3 B8 69 _ Tryz.underlying34 rfl n0a HN3 ?_)
  | ((with_reducible refine sT 2 ?_);refine e0a rfl _ (.tmp 2) (.tmp 17) rfl g2 rfl _ zs c3 rfl Z8 69 n0a HZ HN3 HO3 ?_;intro w9 Z9 P9 hg9)
  | fail)
 have hg2w:w.heap.size<=g2:=by have:=L17.out.size;omega
 have L19:Below w.heap.size w w9:=c0a (c0a L17.out P8.out hg1) P9.out hg2w;refine bodyPost_ret (v:=.agg c3.toArray) ?_ rfl ⟨c3,rfl,?_⟩
 ·exact results_cell_row rfl _ _ g2 _ _ (0,0) _ rfl Z9.out Tryz.underlying34 rfl (by rw[n0a];have:=HN3.out;simp[this])
 ·have keep:∀i,i≠g->i≠g2->w9.heap[i]? = w7.heap[i]?:=λi h1 h2=>(P9.out.rest i h2).trans (P8.out.rest i h1)
  have hs9:w9.heap.size=w7.heap.size:=by rw[P9.out.size,P8.out.size]
  have D9:b5a (Value.int .u16) 22 w9 w2.heap.size v3 a.dial:=O47.out.keep λi _ hi _=>keep i (by have:=(O47.out.block hi).1;omega) (by have:=(O47.out.block hi).1;omega)
  have X9:Own w9 w4.heap.size v5 a.data:=by
   refine⟨O57.out.1,?_⟩;rcases O57.out.2 with h0 | ⟨q,cap,cur,rfl,h1,hq,rest⟩
   ·exact .inl h0
   ·exact .inr ⟨q,cap,cur,rfl,h1,(keep q (by omega) (by omega)).trans hq,rest⟩
  have K9:O8a P0a 4 114 w9 w6.heap.size v7 a.locks:=O7'.out.keep λi cs hi hcs=>keep i (by
   rcases O7'.out.2 with⟨h0,_⟩ | ⟨q,cap,cur,h0,h1,_⟩
   ·rw[h0] at hi;cases hi
   ·rw[h0] at hi;simp only[Value.ownBlock,Option.some.injEq] at hi;omega) (by
   rcases O7'.out.2 with⟨h0,_⟩ | ⟨q,cap,cur,h0,h1,_⟩
   ·rw[h0] at hi;cases hi
   ·rw[h0] at hi;simp only[Value.ownBlock,Option.some.injEq] at hi;omega)
  have u3:=k6a (lo:=w.heap.size) D9 (by omega);have u5:=k6a (lo:=w.heap.size) X9 (by omega);have u7:=k6a (lo:=w.heap.size) K9 (by omega);obtain⟨A3,n3,k3,rfl,H3⟩:=D9.holds;obtain⟨A5,k5,rfl,H5⟩:=X9.holds HX.out.byte (by omega);obtain⟨A7,n7,k7,rfl,H7⟩:=K9.holds (by omega) u4a;refine⟨⟨A3,n3,k3,A5,_,k5,A7,n7,k7,HC3.out,H3,H5,H7⟩,L19,?_,?_,?_⟩
  ·rw[HC3.out];exact u3
  ·rw[HC3.out,G1.out];exact u5
  ·rw[HC3.out,G2.out];exact u7
theorem B0a{P:Program}{ops:Array Oper}{rest:List Oper}{o:Oper}{a:Act}{w:World}{Q:Exit->Act->World->Prop}(hw:Region.wanted o (yielded ops a.tmps)=true)(ty:TypeId)(x:Operand)(ho:o.op=.load ty x)
(b i:Nat)(hx:a.eval x=.pointer (some ⟨b,i,none⟩))(cs:List Value)(d:TypeDesc)(hc:Hid (w.rangeAt b i cs))(hu:P.underlying ty=some d)(hd:d.isRow=true)(n:Nat)(hi:(P.info? ty).map (·.size)=some n)(hn:Hid (cs.length=n))
(h:wpList P ops Q rest (a.put o.dst (.agg cs.toArray)) w):wpList P ops Q (o::rest) a w:=
 wpList_step λK hK=>by rw[if_pos hw];exact wp_load_mid ty x ho b i hx cs d hc.out hu hd (by rw[hi,hn.out]) (hK _ _ h)
theorem p0a{P:Program}{ops:Array Oper}{rest:List Oper}{o:Oper}{a:Act}{w:World}{Q:Exit->Act->World->Prop}(hg:o.guard=none)(ty:TypeId)(x:Operand)(ho:o.op=.load ty x)
(b i:Nat)(hx:a.eval x=.pointer (some ⟨b,i,none⟩))(cs:List Value)(d:TypeDesc)(hc:Hid (w.rangeAt b i cs))(hu:P.underlying ty=some d)(hd:d.isRow=true)(n:Nat)(hi:(P.info? ty).map (·.size)=some n)(hn:Hid (cs.length=n))
(h:wpList P ops Q rest (a.put o.dst (.agg cs.toArray)) w):wpList P ops Q (o::rest) a w:=wpList_load_mid hg ty x ho b i hx cs d hc.out hu hd (by rw[hi,hn.out]) h
theorem R0a{P:Program}{ops:Array Oper}{rest:List Oper}{o:Oper}{a:Act}{w:World}{Q:Exit->Act->World->Prop}(hw:Region.wanted o (yielded ops a.tmps)=true)(T:TypeId)(x:Operand)(i:Nat)(ho:o.op=.fieldAddr T x i)(u v:Value)
(hx:a.eval x=u)(hf:∀w,(Instr.fieldAt T u i).run P w=.ok v w)(h:wpList P ops Q rest (a.put o.dst v) w):wpList P ops Q (o::rest) a w:=
 wpList_step λK hK=>by rw[if_pos hw];unfold Oper.wp execOp;simp only[ho,hx,Sem.run_bind,hf,Result.andThen_ok];exact hK _ _ h
theorem g5a(g:Nat)(w:World):(Instr.fieldAt 34 (.pointer (some ⟨g,0,none⟩)) 1).run Tryz.prog w=.ok (.pointer (some ⟨g,1,none⟩)) w:=by go_simp
theorem J6a(g:Nat)(w:World):(Instr.fieldAt 34 (.pointer (some ⟨g,0,none⟩)) 2).run Tryz.prog w=.ok (.pointer (some ⟨g,17,none⟩)) w:=by go_simp
theorem K6a(g:Nat)(w:World):(Instr.fieldAt 39 (.pointer (some ⟨g,0,none⟩)) 2).run Tryz.prog w=.ok (.pointer (some ⟨g,2,none⟩)) w:=by go_simp
theorem c2a:(Tryz.prog.info? 26).map (·.size)=some 16:=by kernel_rfl
theorem W1a:(Tryz.prog.info? 30).map (·.size)=some 32:=by kernel_rfl
theorem d2a:(Tryz.prog.info? 35).map (·.size)=some 8:=by kernel_rfl
theorem q0b:Tryz.prog.eqGuardType Tryz.prog.depth 26=false:=by kernel_rfl
theorem r9a:Tryz.prog.eqGuardType Tryz.prog.depth 30=false:=by kernel_rfl
theorem r0b:Tryz.prog.eqGuardType Tryz.prog.depth 35=false:=by kernel_rfl
theorem L6a:(Tryz.prog.info? 5).map (·.size)=some 1:=by kernel_rfl
theorem D4a{vd vx vl:Value}{a:m1a}{w:World}{g:Nat}{T:TypeId}(h:Blk w g T (l0a vd vx vl a))(k:a.ok):w.rangeAt g 1 (a.guid.map (Value.int .u8)):=λj v hj=>by
 rw[h.cell,show 1+j=j+1 from by omega];show(a.guid.map (Value.int .u8)++(a.proof.map (Value.int .u8)++G7a vx vl a))[j]? = some v
 rw[List.getElem?_append_left (List.getElem?_eq_some_iff.1 hj).1,hj]
theorem f4a{vd vx vl:Value}{a:m1a}{w:World}{g:Nat}{T:TypeId}(h:Blk w g T (l0a vd vx vl a))(k:a.ok):w.rangeAt g 17 (a.proof.map (Value.int .u8)):=λj v hj=>by
 rw[h.cell,show 17+j=(16+j)+1 from by omega];show(a.guid.map (Value.int .u8)++(a.proof.map (Value.int .u8)++G7a vx vl a))[16+j]? = some v
 rw[List.getElem?_append_right (by rw[List.length_map,k.glen];omega),List.length_map,k.glen,show 16+j-16=j from by omega,List.getElem?_append_left (List.getElem?_eq_some_iff.1 hj).1,hj]
theorem E4a{vx ve:Value}{a:E1a}{w:World}{g:Nat}{T:TypeId}(h:Blk w g T (s0a vx ve a))(k:a.ok):w.rangeAt g 2 (a.chal.map (Value.int .u8)):=λj v hj=>by
 rw[h.cell,show 2+j=j+1+1 from by omega];show(a.chal.map (Value.int .u8)++f0b vx ve a)[j]? = some v
 rw[List.getElem?_append_left (List.getElem?_eq_some_iff.1 hj).1,hj]
structure Fr (N x0:Nat) (pv:Value) (a:Act):Prop where
 size:a.tmps.size=N
 df:a.defers=[]
 ptr:a.eval (.tmp x0)=pv
section
variable {P:Program} {ops:Array Oper} {rest:List Oper} {o:Oper} {a:Act} {w:World} {Q:Exit->Act->World->Prop} {N x0:Nat} {pv v:Value}
theorem Z3a{d:Nat}(h:d<a.tmps.size):(a.put (some d) v).eval (.tmp d)=v:=by simp[Act.put,Act.eval,h]
theorem J1b{d t:Nat}(h:d≠t):(a.put (some d) v).eval (.tmp t)=a.eval (.tmp t):=by simp[Act.put,Act.eval,Array.getElem?_setIfInBounds_ne h]
theorem Fr.put{d:Nat}(h:Fr N x0 pv a)(hd:d≠x0):Fr N x0 pv (a.put (some d) v):=⟨by simp[Act.put,h.size],by simp[Act.put,h.df],by rw[J1b hd];exact h.ptr⟩
theorem G7b{d:Nat}(h:d<a.tmps.size):(a.put (some d) v).tmps[d]? = some v:=by simp[Act.put,h]
theorem X8a{d t:Nat}(h:d≠t):(a.put (some d) v).tmps[t]? = a.tmps[t]?:=by simp[Act.put,Array.getElem?_setIfInBounds_ne h]
theorem eval_at{t:Nat}{u:Value}(h:a.tmps[t]? = some u):a.eval (.tmp t)=u:=by simp[Act.eval,h]
theorem H7a{gi m:Nat}{b:Bool}(hgd:o.guard=some (gi,true))(hgi:(ops[gi]?.bind λx=>x.dst)=some m)(h:a.tmps[m]? = some (.bool b)):Region.wanted o (yielded ops a.tmps)=b:=by unfold Region.wanted yielded;rw[hgd];simp only[hgi,Option.bind_some,h];cases b<;>rfl
theorem I1a(hy:YieldsIf P ops (λw'=>w'=w) o v a)(h:wpList P ops Q rest (a.put o.dst v) w):wpList P ops Q (o::rest) a w:=
 wpList_step λK hK=>by
  rcases hy with⟨hw,hv⟩ | ⟨hw,rfl⟩
  ·rw[if_pos hw];unfold Oper.wp;rw[hv w rfl];exact hK _ _ h
  ·rw[if_neg (by rw[hw];decide)];exact hK _ _ h
theorem n8b{gi m:Nat}(hgi:(ops[gi]?.bind λx=>x.dst)=some m):∀(mids:List Oper) (a:Act),(∀o∈mids,o.guard=some (gi,true)/\∃d,o.dst=some d/\d≠x0/\d≠m)->Fr N x0 pv a->a.tmps[m]? = some (.bool false)->
  (∀a',Fr N x0 pv a'->a'.tmps[m]? = some (.bool false)->wpList P ops Q rest a' w)->wpList P ops Q (mids++rest) a w
 | [],a,_,hF,hm,h=>h a hF hm
 | o::mids,a,hs,hF,hm,h=>by obtain⟨hg,d,hd,h1,h2⟩:=hs o List.mem_cons_self;refine I1a (.inr ⟨H7a hg hgi hm,rfl⟩) ?_;rw[hd];exact n8b hgi mids _ (λo ho=>hs o (List.mem_cons_of_mem _ ho)) (hF.put h1) (by rw[X8a h2];exact hm) h
theorem chain{gi p m e q:Nat}{b t:Bool}{mids:List Oper}{o1 o5:Oper}(hgi:(ops[gi]?.bind λx=>x.dst)=some m)
(q1:o1.op=.move (.tmp p)/\o1.dst=some m/\o1.guard=none)(q5:o5.op=.pick (.tmp m) (.tmp e) (.const (.bool false))/\o5.dst=some q/\o5.guard=none)
(hn:m≠x0/\q≠x0/\m<N/\q<N)(hF:Fr N x0 pv a)(hp:a.eval (.tmp p)=.bool b)
(hs:∀o∈mids,o.guard=some (gi,true)/\∃d,o.dst=some d/\d≠x0/\d≠m)
(hmid:∀a1,Fr N x0 pv a1->a1.tmps[m]? = some (.bool true)->(∀a2,Fr N x0 pv a2->a2.tmps[m]? = some (.bool true)->a2.eval (.tmp e)=.bool t->wpList P ops Q (o5::rest) a2 w)->wpList P ops Q (mids++(o5::rest)) a1 w)
(h:∀a',Fr N x0 pv a'->a'.eval (.tmp q)=.bool (b&&t)->wpList P ops Q rest a' w):wpList P ops Q (o1::(mids++(o5::rest))) a w:=by
 obtain⟨n1,n2,n3,n4⟩:=hn;refine I1a (t0a (by simp[Region.wanted,q1.2.2]) (.tmp p) q1.1 (.bool b) hp) ?_;rw[q1.2.1];have hF1:Fr N x0 pv (a.put (some m) (.bool b)):=hF.put n1;have hm1:(a.put (some m) (.bool b)).tmps[m]? = some (.bool b):=G7b (by rw[hF.size];exact n3);cases b
 ·refine n8b hgi mids _ hs hF1 hm1 λa' hF' hm'=>?_
  refine I1a (v:=.bool false) (.inl ⟨by simp[Region.wanted,q5.2.2],λw _=>by have hc:a'.eval (.const (.bool false))=.bool false:=rfl;unfold execOp;simp[q5.1,eval_at hm',hc,asBool]⟩) ?_;rw[q5.2.1];exact h _ (hF'.put n2) (Z3a (by rw[hF'.size];exact n4))
 ·refine hmid _ hF1 hm1 λa' hF' hm' he=>?_
  refine I1a (v:=.bool t) (.inl ⟨by simp[Region.wanted,q5.2.2],λw _=>by unfold execOp;simp[q5.1,eval_at hm',asBool,he]⟩) ?_;rw[q5.2.1];exact h _ (hF'.put n2) (Z3a (by rw[hF'.size];exact n4))
theorem V0a{gi m f l i off g:Nat}{T ty:TypeId}{o2 o3:Oper}{tail:List Oper}(hgi:(ops[gi]?.bind λx=>x.dst)=some m)
(q2:o2.op=.fieldAddr T (.tmp x0) i/\o2.dst=some f/\o2.guard=some (gi,true))(q3:o3.op=.load ty (.tmp f)/\o3.dst=some l/\o3.guard=some (gi,true))
(hn:f≠x0/\l≠x0/\f≠m/\l≠m/\f<N/\l<N)
(hf:∀w,(Instr.fieldAt T pv i).run P w=.ok (.pointer (some ⟨g,off,none⟩)) w)
(hl:(Instr.loadAt ty (.pointer (some ⟨g,off,none⟩))).run P w=.ok v w)
(a1:Act)(hF:Fr N x0 pv a1)(hm:a1.tmps[m]? = some (.bool true))
(h:∀a2,Fr N x0 pv a2->a2.tmps[m]? = some (.bool true)->a2.eval (.tmp l)=v->wpList P ops Q tail a2 w):wpList P ops Q (o2::o3::tail) a1 w:=by
 obtain⟨n1,n2,n3,n4,n5,n6⟩:=hn;refine I1a (g0a (H7a q2.2.2 hgi hm) T (.tmp x0) i q2.1 pv _ hF.ptr hf) ?_;rw[q2.2.1];have hF2:Fr N x0 pv (a1.put (some f) (.pointer (some ⟨g,off,none⟩))):=hF.put n1;have hm2:(a1.put (some f) (.pointer (some ⟨g,off,none⟩))).tmps[m]? = some (.bool true):=by rw[X8a n3];exact hm
 refine I1a (v:=v) (.inl ⟨H7a q3.2.2 hgi hm2,λw' hw'=>by subst hw';unfold execOp;simp only[q3.1,Z3a (show f<a1.tmps.size by rw[hF.size];exact n5),Sem.run_bind,hl,Result.andThen_ok,Sem.run_pure]⟩) ?_
 rw[q3.2.1];exact h _ (hF2.put n2) (by rw[X8a n4];exact hm2) (Z3a (by rw[hF2.size];exact n6))
theorem Q0a{gi m l e:Nat}{u:Value}{o4:Oper}{tail:List Oper}(hgi:(ops[gi]?.bind λx=>x.dst)=some m)
(q4:o4.dst=some e/\o4.guard=some (gi,true))(hn:e≠x0/\e≠m/\e<N)(a1:Act)(hF:Fr N x0 pv a1)(hm:a1.tmps[m]? = some (.bool true))
(hv:(execOp a1.eval o4).run P w=.ok (.value u) w)
(h:∀a2,Fr N x0 pv a2->a2.tmps[m]? = some (.bool true)->a2.eval (.tmp e)=u->(∀t,t≠e->a2.eval (.tmp t)=a1.eval (.tmp t))->wpList P ops Q tail a2 w):wpList P ops Q (o4::tail) a1 w:=by obtain⟨n1,n2,n3⟩:=hn;refine I1a (v:=u) (.inl ⟨H7a q4.2 hgi hm,λw' hw'=>by subst hw';exact hv⟩) ?_;rw[q4.1];exact h _ (hF.put n1) (by rw[X8a n2];exact hm) (Z3a (by rw[hF.size];exact n3)) (λt ht=>J1b (Ne.symm ht))
theorem s0b(hF:Fr N x0 pv a)(h:∀a',Fr N x0 pv a'->wpList P ops Q rest a' w):wpList P ops Q rest a w:=h a hF
theorem K1b{f l i off g:Nat}{T ty:TypeId}{o2 o3:Oper}{tail:List Oper}
(q2:o2.op=.fieldAddr T (.tmp x0) i/\o2.dst=some f/\o2.guard=none)(q3:o3.op=.load ty (.tmp f)/\o3.dst=some l/\o3.guard=none)
(hn:f≠x0/\l≠x0/\f<N/\l<N)
(hf:∀w,(Instr.fieldAt T pv i).run P w=.ok (.pointer (some ⟨g,off,none⟩)) w)
(hl:(Instr.loadAt ty (.pointer (some ⟨g,off,none⟩))).run P w=.ok v w)
(a1:Act)(hF:Fr N x0 pv a1)
(h:∀a2,Fr N x0 pv a2->a2.eval (.tmp l)=v->wpList P ops Q tail a2 w):wpList P ops Q (o2::o3::tail) a1 w:=by
 obtain⟨n1,n2,n5,n6⟩:=hn;refine I1a (g0a (by simp[Region.wanted,q2.2.2]) T (.tmp x0) i q2.1 pv _ hF.ptr hf) ?_;rw[q2.2.1];have hF2:Fr N x0 pv (a1.put (some f) (.pointer (some ⟨g,off,none⟩))):=hF.put n1;refine I1a (v:=v) (.inl ⟨by simp[Region.wanted,q3.2.2],λw' hw'=>by subst hw';unfold execOp;simp only[q3.1,Z3a (show f<a1.tmps.size by rw[hF.size];exact n5),Sem.run_bind,hl,Result.andThen_ok,Sem.run_pure]⟩) ?_
 rw[q3.2.1];exact h _ (hF2.put n2) (Z3a (by rw[hF2.size];exact n6))
theorem I7a{e:Nat}{u:Value}{o4:Oper}{tail:List Oper}
(q4:o4.dst=some e/\o4.guard=none)(hn:e≠x0/\e<N)(a1:Act)(hF:Fr N x0 pv a1)
(hv:(execOp a1.eval o4).run P w=.ok (.value u) w)
(h:∀a2,Fr N x0 pv a2->a2.eval (.tmp e)=u->wpList P ops Q tail a2 w):wpList P ops Q (o4::tail) a1 w:=by obtain⟨n1,n3⟩:=hn;refine I1a (v:=u) (.inl ⟨by simp[Region.wanted,q4.2],λw' hw'=>by subst hw';exact hv⟩) ?_;rw[q4.1];exact h _ (hF.put n1) (Z3a (by rw[hF.size];exact n3))
theorem k1a{g off:Nat}{ty:TypeId}(hc:w.cell? ⟨g,off,none⟩=some v)(d:TypeDesc)(hu:P.underlying ty=some d)(hd:(match d with | .struct _ | .array _ _=>true | _=>false)=false) :
  (Instr.loadAt ty (.pointer (some ⟨g,off,none⟩))).run P w=.ok v w:=by
 have hagg:(isAgg ty).run P w=.ok false w:=by unfold isAgg;rw[Sem.run_bind,run_underlying hu w];cases d<;>simp_all
 simp[Instr.loadAt,Instr.sureAddr,Sem.run_bind,Result.andThen_ok,loadVar,hagg,hc]
end
theorem t0b:Tryz.prog.built 26 []=some ((List.replicate 16 (0:Int)).map (Value.int .u8)).toArray:=by kernel_rfl
theorem s9a:Tryz.prog.built 30 []=some ((List.replicate 32 (0:Int)).map (Value.int .u8)).toArray:=by kernel_rfl
theorem u0b:Tryz.prog.built 35 []=some ((List.replicate 8 (0:Int)).map (Value.int .u8)).toArray:=by kernel_rfl
theorem K2b(a:m1a):a=k0a↔a.dial=[]/\a.data=[]/\a.locks=[]/\a.guid=List.replicate 16 0/\a.proof=List.replicate 32 0/\a.user=.empty/\a.share=.empty/\a.name=.empty/\a.pat=.empty/\a.aft=.empty/\a.acc=0/\a.shr=0/\a.way=0/\a.opt=0/\a.lev=0/\a.dur=0/\a.file=0/\a.at_=0/\a.n=0/\a.most=0/\a.cls=0/\a.siz=0/\a.on=false:=by
 constructor
 ·rintro rfl;exact⟨rfl,rfl,rfl,rfl,rfl,rfl,rfl,rfl,rfl,rfl,rfl,rfl,rfl,rfl,rfl,rfl,rfl,rfl,rfl,rfl,rfl,rfl,rfl⟩
 ·rintro⟨h_dial,h_data,h_locks,h_guid,h_proof,h_user,h_share,h_name,h_pat,h_aft,h_acc,h_shr,h_way,h_opt,h_lev,h_dur,h_file,h_at_,h_n,h_most,h_cls,h_siz,h_on⟩;cases a;simp only at h_dial h_data h_locks h_guid h_proof h_user h_share h_name h_pat h_aft h_acc h_shr h_way h_opt h_lev h_dur h_file h_at_ h_n h_most h_cls h_siz h_on;subst h_dial h_data h_locks h_guid h_proof h_user h_share h_name h_pat h_aft h_acc h_shr h_way h_opt h_lev h_dur h_file h_at_ h_n h_most h_cls h_siz h_on;rfl
theorem L2b(a:E1a):a=w0a↔a.data=[]/\a.ents=[]/\a.chal=List.replicate 8 0/\a.dia=0/\a.siz=0/\a.lev=0/\a.dur=0/\a.made=0/\a.file=0/\a.kind=0/\a.n=0/\a.more=false/\a.gone=false:=by
 constructor
 ·rintro rfl;exact⟨rfl,rfl,rfl,rfl,rfl,rfl,rfl,rfl,rfl,rfl,rfl,rfl,rfl⟩
 ·rintro⟨h_data,h_ents,h_chal,h_dia,h_siz,h_lev,h_dur,h_made,h_file,h_kind,h_n,h_more,h_gone⟩;cases a;simp only at h_data h_ents h_chal h_dia h_siz h_lev h_dur h_made h_file h_kind h_n h_more h_gone;subst h_data h_ents h_chal h_dia h_siz h_lev h_dur h_made h_file h_kind h_n h_more h_gone;rfl
theorem t9a(g:Nat)(w:World):(Instr.fieldAt 34 (.pointer (some ⟨g,0,none⟩)) 0).run Tryz.prog w=.ok (.pointer (some ⟨g,0,none⟩)) w:=by go_simp
theorem u9a(g:Nat)(w:World):(Instr.fieldAt 34 (.pointer (some ⟨g,0,none⟩)) 1).run Tryz.prog w=.ok (.pointer (some ⟨g,1,none⟩)) w:=by go_simp
theorem v9a(g:Nat)(w:World):(Instr.fieldAt 34 (.pointer (some ⟨g,0,none⟩)) 2).run Tryz.prog w=.ok (.pointer (some ⟨g,17,none⟩)) w:=by go_simp
theorem w9a(g:Nat)(w:World):(Instr.fieldAt 34 (.pointer (some ⟨g,0,none⟩)) 3).run Tryz.prog w=.ok (.pointer (some ⟨g,49,none⟩)) w:=by go_simp
theorem x9a(g:Nat)(w:World):(Instr.fieldAt 34 (.pointer (some ⟨g,0,none⟩)) 4).run Tryz.prog w=.ok (.pointer (some ⟨g,50,none⟩)) w:=by go_simp
theorem F4a(g:Nat)(w:World):(Instr.fieldAt 34 (.pointer (some ⟨g,0,none⟩)) 5).run Tryz.prog w=.ok (.pointer (some ⟨g,51,none⟩)) w:=by go_simp
theorem G4a(g:Nat)(w:World):(Instr.fieldAt 34 (.pointer (some ⟨g,0,none⟩)) 6).run Tryz.prog w=.ok (.pointer (some ⟨g,52,none⟩)) w:=by go_simp
theorem H4a(g:Nat)(w:World):(Instr.fieldAt 34 (.pointer (some ⟨g,0,none⟩)) 7).run Tryz.prog w=.ok (.pointer (some ⟨g,53,none⟩)) w:=by go_simp
theorem I4a(g:Nat)(w:World):(Instr.fieldAt 34 (.pointer (some ⟨g,0,none⟩)) 8).run Tryz.prog w=.ok (.pointer (some ⟨g,54,none⟩)) w:=by go_simp
theorem H3a(g:Nat)(w:World):(Instr.fieldAt 34 (.pointer (some ⟨g,0,none⟩)) 9).run Tryz.prog w=.ok (.pointer (some ⟨g,55,none⟩)) w:=by go_simp
theorem s3a(g:Nat)(w:World):(Instr.fieldAt 34 (.pointer (some ⟨g,0,none⟩)) 10).run Tryz.prog w=.ok (.pointer (some ⟨g,56,none⟩)) w:=by go_simp
theorem R8a(g:Nat)(w:World):(Instr.fieldAt 34 (.pointer (some ⟨g,0,none⟩)) 11).run Tryz.prog w=.ok (.pointer (some ⟨g,57,none⟩)) w:=by go_simp
theorem i4a(g:Nat)(w:World):(Instr.fieldAt 34 (.pointer (some ⟨g,0,none⟩)) 12).run Tryz.prog w=.ok (.pointer (some ⟨g,58,none⟩)) w:=by go_simp
theorem a2a(g:Nat)(w:World):(Instr.fieldAt 34 (.pointer (some ⟨g,0,none⟩)) 13).run Tryz.prog w=.ok (.pointer (some ⟨g,59,none⟩)) w:=by go_simp
theorem t3a(g:Nat)(w:World):(Instr.fieldAt 34 (.pointer (some ⟨g,0,none⟩)) 14).run Tryz.prog w=.ok (.pointer (some ⟨g,60,none⟩)) w:=by go_simp
theorem O2a(g:Nat)(w:World):(Instr.fieldAt 34 (.pointer (some ⟨g,0,none⟩)) 15).run Tryz.prog w=.ok (.pointer (some ⟨g,61,none⟩)) w:=by go_simp
theorem S8a(g:Nat)(w:World):(Instr.fieldAt 34 (.pointer (some ⟨g,0,none⟩)) 16).run Tryz.prog w=.ok (.pointer (some ⟨g,62,none⟩)) w:=by go_simp
theorem j4a(g:Nat)(w:World):(Instr.fieldAt 34 (.pointer (some ⟨g,0,none⟩)) 17).run Tryz.prog w=.ok (.pointer (some ⟨g,63,none⟩)) w:=by go_simp
theorem k4a(g:Nat)(w:World):(Instr.fieldAt 34 (.pointer (some ⟨g,0,none⟩)) 18).run Tryz.prog w=.ok (.pointer (some ⟨g,64,none⟩)) w:=by go_simp
theorem l4a(g:Nat)(w:World):(Instr.fieldAt 34 (.pointer (some ⟨g,0,none⟩)) 19).run Tryz.prog w=.ok (.pointer (some ⟨g,65,none⟩)) w:=by go_simp
theorem A1a(g:Nat)(w:World):(Instr.fieldAt 34 (.pointer (some ⟨g,0,none⟩)) 20).run Tryz.prog w=.ok (.pointer (some ⟨g,66,none⟩)) w:=by go_simp
theorem T8a(g:Nat)(w:World):(Instr.fieldAt 34 (.pointer (some ⟨g,0,none⟩)) 21).run Tryz.prog w=.ok (.pointer (some ⟨g,67,none⟩)) w:=by go_simp
theorem U8a(g:Nat)(w:World):(Instr.fieldAt 34 (.pointer (some ⟨g,0,none⟩)) 22).run Tryz.prog w=.ok (.pointer (some ⟨g,68,none⟩)) w:=by go_simp
theorem l6a(g:Nat)(w:World):(Instr.fieldAt 39 (.pointer (some ⟨g,0,none⟩)) 0).run Tryz.prog w=.ok (.pointer (some ⟨g,0,none⟩)) w:=by go_simp
theorem I3a(g:Nat)(w:World):(Instr.fieldAt 39 (.pointer (some ⟨g,0,none⟩)) 1).run Tryz.prog w=.ok (.pointer (some ⟨g,1,none⟩)) w:=by go_simp
theorem m6a(g:Nat)(w:World):(Instr.fieldAt 39 (.pointer (some ⟨g,0,none⟩)) 2).run Tryz.prog w=.ok (.pointer (some ⟨g,2,none⟩)) w:=by go_simp
theorem J3a(g:Nat)(w:World):(Instr.fieldAt 39 (.pointer (some ⟨g,0,none⟩)) 3).run Tryz.prog w=.ok (.pointer (some ⟨g,10,none⟩)) w:=by go_simp
theorem n6a(g:Nat)(w:World):(Instr.fieldAt 39 (.pointer (some ⟨g,0,none⟩)) 4).run Tryz.prog w=.ok (.pointer (some ⟨g,11,none⟩)) w:=by go_simp
theorem o6a(g:Nat)(w:World):(Instr.fieldAt 39 (.pointer (some ⟨g,0,none⟩)) 5).run Tryz.prog w=.ok (.pointer (some ⟨g,12,none⟩)) w:=by go_simp
theorem K3a(g:Nat)(w:World):(Instr.fieldAt 39 (.pointer (some ⟨g,0,none⟩)) 6).run Tryz.prog w=.ok (.pointer (some ⟨g,13,none⟩)) w:=by go_simp
theorem L3a(g:Nat)(w:World):(Instr.fieldAt 39 (.pointer (some ⟨g,0,none⟩)) 7).run Tryz.prog w=.ok (.pointer (some ⟨g,14,none⟩)) w:=by go_simp
theorem J4a(g:Nat)(w:World):(Instr.fieldAt 39 (.pointer (some ⟨g,0,none⟩)) 8).run Tryz.prog w=.ok (.pointer (some ⟨g,15,none⟩)) w:=by go_simp
theorem y9a(g:Nat)(w:World):(Instr.fieldAt 39 (.pointer (some ⟨g,0,none⟩)) 9).run Tryz.prog w=.ok (.pointer (some ⟨g,16,none⟩)) w:=by go_simp
theorem m4a(g:Nat)(w:World):(Instr.fieldAt 39 (.pointer (some ⟨g,0,none⟩)) 10).run Tryz.prog w=.ok (.pointer (some ⟨g,17,none⟩)) w:=by go_simp
theorem n4a(g:Nat)(w:World):(Instr.fieldAt 39 (.pointer (some ⟨g,0,none⟩)) 11).run Tryz.prog w=.ok (.pointer (some ⟨g,18,none⟩)) w:=by go_simp
theorem o4a(g:Nat)(w:World):(Instr.fieldAt 39 (.pointer (some ⟨g,0,none⟩)) 12).run Tryz.prog w=.ok (.pointer (some ⟨g,19,none⟩)) w:=by go_simp
theorem p6a{w:World}{g off:Nat}{cs:List Value}{ty:TypeId}{d:TypeDesc}(hc:w.rangeAt g off cs)(hu:Tryz.prog.underlying ty=some d)(hd:d.isRow=true)(hs:(Tryz.prog.info? ty).map (·.size)=some cs.length) :
  (Instr.loadAt ty (.pointer (some ⟨g,off,none⟩))).run Tryz.prog w=.ok (.agg cs.toArray) w:=by
 have:=run_loadVar_mid (P:=Tryz.prog) w g off ty cs d hc hu hd hs;simpa[Instr.loadAt,Instr.sureAddr,Sem.run_bind,Result.andThen_ok] using this
theorem M3a(s:ByteArray):s.toList.isEmpty=decide (s=.empty):=by
 rw[ByteArray.toList_eq];obtain⟨⟨l⟩⟩:=s;cases l with
 | nil=>exact(decide_eq_true rfl).symm
 | cons x l=>rw[decide_eq_false (λh=>by injection h with h;injection h with h;cases h)];rfl
theorem z9a{a:Act}{w:World}{T:TypeId}{o:Oper}{ys:Array Value}(ho:o.op=.build T #[])(hf:Tryz.prog.built T []=some ys):(execOp a.eval o).run Tryz.prog w=.ok (.value (.agg ys)) w:=by
 obtain⟨cs,rfl⟩:∃cs:List Value,ys=cs.toArray:=⟨ys.toList,by simp⟩;have h:=X0a (P:=Tryz.prog) (ops:=#[]) (S:=λ_=>True) (op:={ o with guard:=none }) (a:=a) (by simp[Region.wanted]) T #[] ho cs (by simpa using hf);rcases h with⟨_,h⟩ | ⟨h,_⟩
 ·exact h w trivial
 ·simp[Region.wanted] at h
theorem N0a{a:Act}{t:Nat}{v:Value}(h:a.eval (.tmp t)=v):a.tmps[t]?.getD undef=v:=by rw[<-h];simp[Act.eval]
theorem V0b(w:World)(cs:List Value)(a:m1a)(ka:a.ok)(ha:b1a w w.heap.size cs a) :
  Calls Tryz.prog 108 #[.agg cs.toArray] w λe w'=>e=.returned (.bool (decide (a=k0a)))/\Below w.heap.size w w':=by
 have HL:=hI (ha.len ka);obtain⟨D1,D2,D3,X1,X2,X3,M1,M2,M3,rfl,h_D,h_X,h_M⟩:=ha;have l_D:=h_D.len;have l_X:=h_X.len;have l_M:=h_M.len;have HT:Hid ((((((((((((((((((((((((a.dial.length==0)&&(a.data.length==0))&&(a.locks.length==0))&&(decide (a.guid=List.replicate 16 0)))&&(decide (a.proof=List.replicate 32 0)))&&(decide (a.user=.empty)))&&(decide (a.share=.empty)))&&(decide (a.name=.empty)))&&(decide (a.pat=.empty)))&&(decide (a.aft=.empty)))&&(a.acc==0))&&(a.shr==0))&&(a.way==0))&&(a.opt==0))&&(a.lev==0))&&(a.dur==0))&&(a.file==0))&&(a.at_==0))&&(a.n==0))&&(a.most==0))&&(a.cls==0))&&(a.siz==0))&&(!a.on))=decide (a=k0a)):=by
  show _=_
  rw[Bool.eq_iff_iff,decide_eq_true_iff,K2b];simp only[Bool.and_eq_true,beq_iff_eq,decide_eq_true_iff,Bool.not_eq_true',List.length_eq_zero_iff,and_assoc]
 have FA:Hid (∀(w:World) (g:Nat),Blk w g 34 (l0a (.slice D1 D2 D3) (.slice X1 X2 X3) (.slice M1 M2 M3) a)->w.cell? ⟨g,0,none⟩=some (.slice D1 D2 D3)/\w.cell? ⟨g,49,none⟩=some (.string a.user)/\w.cell? ⟨g,50,none⟩=some (.string a.share)/\w.cell? ⟨g,51,none⟩=some (.int .u32 a.acc)/\w.cell? ⟨g,52,none⟩=some (.int .u32 a.shr)/\w.cell? ⟨g,53,none⟩=some (.int .u32 a.way)/\w.cell? ⟨g,54,none⟩=some (.int .u32 a.opt)/\w.cell? ⟨g,55,none⟩=some (.int .u8 a.lev)/\w.cell? ⟨g,56,none⟩=some (.int .u8 a.dur)/\w.cell? ⟨g,57,none⟩=some (.int .u64 a.file)/\w.cell? ⟨g,58,none⟩=some (.string a.name)/\w.cell? ⟨g,59,none⟩=some (.int .u64 a.at_)/\w.cell? ⟨g,60,none⟩=some (.int .u32 a.n)/\w.cell? ⟨g,61,none⟩=some (.slice X1 X2 X3)/\w.cell? ⟨g,62,none⟩=some (.slice M1 M2 M3)/\w.cell? ⟨g,63,none⟩=some (.int .u16 a.most)/\w.cell? ⟨g,64,none⟩=some (.string a.pat)/\w.cell? ⟨g,65,none⟩=some (.string a.aft)/\w.cell? ⟨g,66,none⟩=some (.int .u16 a.cls)/\w.cell? ⟨g,67,none⟩=some (.int .u64 a.siz)/\w.cell? ⟨g,68,none⟩=some (.bool a.on)):=λw g h=>⟨h.at rfl,h.at (j0a ka 0),h.at (j0a ka 1),h.at (j0a ka 2),h.at (j0a ka 3),h.at (j0a ka 4),h.at (j0a ka 5),h.at (j0a ka 6),h.at (j0a ka 7),h.at (j0a ka 8),h.at (j0a ka 9),h.at (j0a ka 10),h.at (j0a ka 11),h.at (j0a ka 12),h.at (j0a ka 13),h.at (j0a ka 14),h.at (j0a ka 15),h.at (j0a ka 16),h.at (j0a ka 17),h.at (j0a ka 18),h.at (j0a ka 19)⟩
 have R_guid:Hid (∀(w:World) (g:Nat),Blk w g 34 (l0a (.slice D1 D2 D3) (.slice X1 X2 X3) (.slice M1 M2 M3) a)->w.rangeAt g 1 (a.guid.map (Value.int .u8))):=λw g h=>D4a h ka
 have N_guid:Hid ((a.guid.map (Value.int .u8)).length=16):=by show _=_;rw[List.length_map];exact ka.glen
 have q_guid:∀w:World,(Op.equalIn 10000 26 (.agg (a.guid.map (Value.int .u8)).toArray) (.agg ((List.replicate 16 (0:Int)).map (Value.int .u8)).toArray)).run Tryz.prog w=.ok (decide (a.guid=List.replicate 16 0)) w:=λw=>Z1a Tryz.underlying26 Tryz.underlying5 L6a _ _ ka.glen (by simp) _ w
 have R_proof:Hid (∀(w:World) (g:Nat),Blk w g 34 (l0a (.slice D1 D2 D3) (.slice X1 X2 X3) (.slice M1 M2 M3) a)->w.rangeAt g 17 (a.proof.map (Value.int .u8))):=λw g h=>f4a h ka
 have N_proof:Hid ((a.proof.map (Value.int .u8)).length=32):=by show _=_;rw[List.length_map];exact ka.plen
 have q_proof:∀w:World,(Op.equalIn 10000 30 (.agg (a.proof.map (Value.int .u8)).toArray) (.agg ((List.replicate 32 (0:Int)).map (Value.int .u8)).toArray)).run Tryz.prog w=.ok (decide (a.proof=List.replicate 32 0)) w:=λw=>Z1a Tryz.underlying30 Tryz.underlying5 L6a _ _ ka.plen (by simp) _ w
 obtain⟨z_dial,k_dial⟩:∃z,(a.dial.length==0)=z:=⟨_,rfl⟩;obtain⟨z_data,k_data⟩:∃z,(a.data.length==0)=z:=⟨_,rfl⟩;obtain⟨z_locks,k_locks⟩:∃z,(a.locks.length==0)=z:=⟨_,rfl⟩;obtain⟨z_guid,k_guid⟩:∃z,(decide (a.guid=List.replicate 16 0))=z:=⟨_,rfl⟩;obtain⟨z_proof,k_proof⟩:∃z,(decide (a.proof=List.replicate 32 0))=z:=⟨_,rfl⟩;obtain⟨z_user,k_user⟩:∃z,(decide (a.user=.empty))=z:=⟨_,rfl⟩;obtain⟨z_share,k_share⟩:∃z,(decide (a.share=.empty))=z:=⟨_,rfl⟩;obtain⟨z_name,k_name⟩:∃z,(decide (a.name=.empty))=z:=⟨_,rfl⟩;obtain⟨z_pat,k_pat⟩:∃z,(decide (a.pat=.empty))=z:=⟨_,rfl⟩;obtain⟨z_aft,k_aft⟩:∃z,(decide (a.aft=.empty))=z:=⟨_,rfl⟩;obtain⟨z_acc,k_acc⟩:∃z,(a.acc==0)=z:=⟨_,rfl⟩;obtain⟨z_shr,k_shr⟩:∃z,(a.shr==0)=z:=⟨_,rfl⟩;obtain⟨z_way,k_way⟩:∃z,(a.way==0)=z:=⟨_,rfl⟩;obtain⟨z_opt,k_opt⟩:∃z,(a.opt==0)=z:=⟨_,rfl⟩;obtain⟨z_lev,k_lev⟩:∃z,(a.lev==0)=z:=⟨_,rfl⟩;obtain⟨z_dur,k_dur⟩:∃z,(a.dur==0)=z:=⟨_,rfl⟩;obtain⟨z_file,k_file⟩:∃z,(a.file==0)=z:=⟨_,rfl⟩;obtain⟨z_at_,k_at_⟩:∃z,(a.at_==0)=z:=⟨_,rfl⟩;obtain⟨z_n,k_n⟩:∃z,(a.n==0)=z:=⟨_,rfl⟩;obtain⟨z_most,k_most⟩:∃z,(a.most==0)=z:=⟨_,rfl⟩;obtain⟨z_cls,k_cls⟩:∃z,(a.cls==0)=z:=⟨_,rfl⟩;obtain⟨z_siz,k_siz⟩:∃z,(a.siz==0)=z:=⟨_,rfl⟩;obtain⟨z_on,k_on⟩:∃z,(!a.on)=z:=⟨_,rfl⟩;rw[k_dial,k_data,k_locks,k_guid,k_proof,k_user,k_share,k_name,k_pat,k_aft,k_acc,k_shr,k_way,k_opt,k_lev,k_dur,k_file,k_at_,k_n,k_most,k_cls,k_siz,k_on] at HT;rw[l_D] at k_dial;have kk_dial:((D2:Int)==0)=z_dial:=by rw[<-k_dial];rw[Bool.eq_iff_iff];simp
 rw[l_X] at k_data;have kk_data:((X2:Int)==0)=z_data:=by rw[<-k_data];rw[Bool.eq_iff_iff];simp
 rw[l_M] at k_locks;have kk_locks:((M2:Int)==0)=z_locks:=by rw[<-k_locks];rw[Bool.eq_iff_iff];simp
 rw[k_guid] at q_guid;obtain⟨y_guid,hy⟩:∃y,y=((List.replicate 16 (0:Int)).map (Value.int .u8)).toArray:=⟨_,rfl⟩;rw[<-hy] at q_guid;have bt_guid:Tryz.prog.built 26 []=some y_guid:=by rw[hy];exact t0b
 clear hy;rw[k_proof] at q_proof;obtain⟨y_proof,hy⟩:∃y,y=((List.replicate 32 (0:Int)).map (Value.int .u8)).toArray:=⟨_,rfl⟩;rw[<-hy] at q_proof;have bt_proof:Tryz.prog.built 30 []=some y_proof:=by rw[hy];exact s9a
 clear hy;have kk_user:a.user.toList.isEmpty=z_user:=by rw[<-k_user];exact M3a _
 have kk_share:a.share.toList.isEmpty=z_share:=by rw[<-k_share];exact M3a _
 have kk_name:a.name.toList.isEmpty=z_name:=by rw[<-k_name];exact M3a _
 have kk_pat:a.pat.toList.isEmpty=z_pat:=by rw[<-k_pat];exact M3a _
 have kk_aft:a.aft.toList.isEmpty=z_aft:=by rw[<-k_aft];exact M3a _
 obtain⟨r,hr⟩:∃r,r=decide (a=k0a):=⟨_,rfl⟩;rw[<-hr] at HT⊢;obtain⟨cs,hcs⟩:∃c,c=l0a (.slice D1 D2 D3) (.slice X1 X2 X3) (.slice M1 M2 M3) a:=⟨_,rfl⟩;rw[<-hcs] at FA HL R_guid R_proof⊢;clear hr hcs h_D h_X h_M;go_enter Tryz.func108,Tryz.ntmps108;go_upto_region 1 with(first
  | ((with_reducible refine sN 1 ?_);refine a0a rfl _ (.tmp 0) rfl cs rfl ?_;intro g w1 hg1 hg2 K1 L1)
  | fail)
 rename_i hret;simp only[List.append_eq,List.cons_append,List.nil_append];refine wp_region_lit ?_;have HK:=K1;obtain⟨c_dial,c_user,c_share,c_acc,c_shr,c_way,c_opt,c_lev,c_dur,c_file,c_name,c_at_,c_n,c_data,c_locks,c_most,c_pat,c_aft,c_cls,c_siz,c_on⟩:=FA.out _ _ K1.out;have r_guid:=R_guid.out _ _ K1.out;have r_proof:=R_proof.out _ _ K1.out;refine s0b (N:=121) (x0:=1) (pv:=.pointer (some ⟨g,0,none⟩)) ⟨rfl,rfl,rfl⟩ λa0 F0=>?_
 refine K1b (v:=(.slice D1 D2 D3)) (f:=3) (l:=4) (i:=0) (off:=0) (g:=g) ⟨rfl,rfl,rfl⟩ ⟨rfl,rfl,rfl⟩ (by decide) (t9a g) (k1a c_dial _ Tryz.underlying29 rfl) a0 F0 λa1 F1 e1=>?_
 refine I7a (e:=5) (u:=.int .i64 (D2:Int)) ⟨rfl,rfl⟩ (by decide) a1 F1 (by have e':=N0a e1;go_simp) λa2 F2 e2=>?_
 refine I7a (e:=6) (u:=.bool z_dial) ⟨rfl,rfl⟩ (by decide) a2 F2 (by have e':=N0a e2;go_simp) λb0 G0 h0=>?_
 clear F0 F1 F2 e1 e2;refine chain (gi:=4) (p:=6) (m:=7) (e:=11) (q:=12) (t:=z_data) (mids:=[_,_,_,_]) rfl ⟨rfl,rfl,rfl⟩ ⟨rfl,rfl,rfl⟩ (by decide) G0 h0 (by
  intro o ho;simp only[List.mem_cons,List.not_mem_nil,or_false] at ho;rcases ho with rfl | rfl | rfl | rfl
  all_goals exact⟨rfl,_,rfl,by decide,by decide⟩) (λa1 F1 m1 hk=>?_) λb1 G1 h1=>?_
 ·refine V0a (v:=(.slice X1 X2 X3)) (f:=8) (l:=9) (i:=15) (off:=61) (g:=g) (tail:=_) (gi:=4) (m:=7) rfl ⟨rfl,rfl,rfl⟩ ⟨rfl,rfl,rfl⟩ (by decide) (O2a g) (k1a c_data _ Tryz.underlying31 rfl) a1 F1 m1 λa2 F2 m2 e2=>?_
  refine Q0a (l:=0) (e:=10) (u:=.int .i64 (X2:Int)) (gi:=4) (m:=7) rfl ⟨rfl,rfl⟩ (by decide) a2 F2 m2 (by have e':=N0a e2;go_simp) λa3 F3 m3 e3 _=>?_
  refine Q0a (l:=0) (e:=11) (u:=.bool z_data) (gi:=4) (m:=7) rfl ⟨rfl,rfl⟩ (by decide) a3 F3 m3 (by have e':=N0a e3;go_simp) λa4 F4 m4 e4 _=>?_
  exact hk a4 F4 m4 e4
 refine chain (gi:=10) (p:=12) (m:=13) (e:=17) (q:=18) (t:=z_locks) (mids:=[_,_,_,_]) rfl ⟨rfl,rfl,rfl⟩ ⟨rfl,rfl,rfl⟩ (by decide) G1 h1 (by
  intro o ho;simp only[List.mem_cons,List.not_mem_nil,or_false] at ho;rcases ho with rfl | rfl | rfl | rfl
  all_goals exact⟨rfl,_,rfl,by decide,by decide⟩) (λa1 F1 m1 hk=>?_) λb2 G2 h2=>?_
 ·refine V0a (v:=(.slice M1 M2 M3)) (f:=14) (l:=15) (i:=16) (off:=62) (g:=g) (tail:=_) (gi:=10) (m:=13) rfl ⟨rfl,rfl,rfl⟩ ⟨rfl,rfl,rfl⟩ (by decide) (S8a g) (k1a c_locks _ Tryz.underlying32 rfl) a1 F1 m1 λa2 F2 m2 e2=>?_
  refine Q0a (l:=0) (e:=16) (u:=.int .i64 (M2:Int)) (gi:=10) (m:=13) rfl ⟨rfl,rfl⟩ (by decide) a2 F2 m2 (by have e':=N0a e2;go_simp) λa3 F3 m3 e3 _=>?_
  refine Q0a (l:=0) (e:=17) (u:=.bool z_locks) (gi:=10) (m:=13) rfl ⟨rfl,rfl⟩ (by decide) a3 F3 m3 (by have e':=N0a e3;go_simp) λa4 F4 m4 e4 _=>?_
  exact hk a4 F4 m4 e4
 clear G1 h1;refine chain (gi:=16) (p:=18) (m:=19) (e:=23) (q:=24) (t:=z_guid) (mids:=[_,_,_,_]) rfl ⟨rfl,rfl,rfl⟩ ⟨rfl,rfl,rfl⟩ (by decide) G2 h2 (by
  intro o ho;simp only[List.mem_cons,List.not_mem_nil,or_false] at ho;rcases ho with rfl | rfl | rfl | rfl
  all_goals exact⟨rfl,_,rfl,by decide,by decide⟩) (λa1 F1 m1 hk=>?_) λb3 G3 h3=>?_
 ·refine V0a (v:=(.agg (a.guid.map (Value.int .u8)).toArray)) (f:=20) (l:=21) (i:=1) (off:=1) (g:=g) (tail:=_) (gi:=16) (m:=19) rfl ⟨rfl,rfl,rfl⟩ ⟨rfl,rfl,rfl⟩ (by decide) (u9a g) (p6a r_guid Tryz.underlying26 rfl (by rw[c2a,N_guid.out])) a1 F1 m1 λa2 F2 m2 e2=>?_
  refine Q0a (l:=0) (e:=22) (u:=.agg y_guid) (gi:=16) (m:=19) rfl ⟨rfl,rfl⟩ (by decide) a2 F2 m2 (z9a rfl bt_guid) λa3 F3 m3 e3 o3=>?_
  have e2':=(o3 21 (by decide)).trans e2;refine Q0a (l:=0) (e:=23) (u:=.bool z_guid) (gi:=16) (m:=19) rfl ⟨rfl,rfl⟩ (by decide) a3 F3 m3 (by have e':=N0a e2';have e'':=N0a e3;have qg:=q0b;go_simp) λa4 F4 m4 e4 _=>?_
  exact hk a4 F4 m4 e4
 clear G2 h2;refine chain (gi:=22) (p:=24) (m:=25) (e:=29) (q:=30) (t:=z_proof) (mids:=[_,_,_,_]) rfl ⟨rfl,rfl,rfl⟩ ⟨rfl,rfl,rfl⟩ (by decide) G3 h3 (by
  intro o ho;simp only[List.mem_cons,List.not_mem_nil,or_false] at ho;rcases ho with rfl | rfl | rfl | rfl
  all_goals exact⟨rfl,_,rfl,by decide,by decide⟩) (λa1 F1 m1 hk=>?_) λb4 G4 h4=>?_
 ·refine V0a (v:=(.agg (a.proof.map (Value.int .u8)).toArray)) (f:=26) (l:=27) (i:=2) (off:=17) (g:=g) (tail:=_) (gi:=22) (m:=25) rfl ⟨rfl,rfl,rfl⟩ ⟨rfl,rfl,rfl⟩ (by decide) (v9a g) (p6a r_proof Tryz.underlying30 rfl (by rw[W1a,N_proof.out])) a1 F1 m1 λa2 F2 m2 e2=>?_
  refine Q0a (l:=0) (e:=28) (u:=.agg y_proof) (gi:=22) (m:=25) rfl ⟨rfl,rfl⟩ (by decide) a2 F2 m2 (z9a rfl bt_proof) λa3 F3 m3 e3 o3=>?_
  have e2':=(o3 27 (by decide)).trans e2;refine Q0a (l:=0) (e:=29) (u:=.bool z_proof) (gi:=22) (m:=25) rfl ⟨rfl,rfl⟩ (by decide) a3 F3 m3 (by have e':=N0a e2';have e'':=N0a e3;have qg:=r9a;go_simp) λa4 F4 m4 e4 _=>?_
  exact hk a4 F4 m4 e4
 clear G3 h3;refine chain (gi:=28) (p:=30) (m:=31) (e:=34) (q:=35) (t:=z_user) (mids:=[_,_,_]) rfl ⟨rfl,rfl,rfl⟩ ⟨rfl,rfl,rfl⟩ (by decide) G4 h4 (by
  intro o ho;simp only[List.mem_cons,List.not_mem_nil,or_false] at ho;rcases ho with rfl | rfl | rfl
  all_goals exact⟨rfl,_,rfl,by decide,by decide⟩) (λa1 F1 m1 hk=>?_) λb5 G5 h5=>?_
 ·refine V0a (v:=(.string a.user)) (f:=32) (l:=33) (i:=3) (off:=49) (g:=g) (tail:=_) (gi:=28) (m:=31) rfl ⟨rfl,rfl,rfl⟩ ⟨rfl,rfl,rfl⟩ (by decide) (w9a g) (k1a c_user _ Tryz.underlying9 rfl) a1 F1 m1 λa2 F2 m2 e2=>?_
  refine Q0a (l:=0) (e:=34) (u:=.bool z_user) (gi:=28) (m:=31) rfl ⟨rfl,rfl⟩ (by decide) a2 F2 m2 (by have e':=N0a e2;go_simp) λa4 F4 m4 e4 _=>?_
  exact hk a4 F4 m4 e4
 clear G4 h4;refine chain (gi:=33) (p:=35) (m:=36) (e:=39) (q:=40) (t:=z_share) (mids:=[_,_,_]) rfl ⟨rfl,rfl,rfl⟩ ⟨rfl,rfl,rfl⟩ (by decide) G5 h5 (by
  intro o ho;simp only[List.mem_cons,List.not_mem_nil,or_false] at ho;rcases ho with rfl | rfl | rfl
  all_goals exact⟨rfl,_,rfl,by decide,by decide⟩) (λa1 F1 m1 hk=>?_) λb6 G6 h6=>?_
 ·refine V0a (v:=(.string a.share)) (f:=37) (l:=38) (i:=4) (off:=50) (g:=g) (tail:=_) (gi:=33) (m:=36) rfl ⟨rfl,rfl,rfl⟩ ⟨rfl,rfl,rfl⟩ (by decide) (x9a g) (k1a c_share _ Tryz.underlying9 rfl) a1 F1 m1 λa2 F2 m2 e2=>?_
  refine Q0a (l:=0) (e:=39) (u:=.bool z_share) (gi:=33) (m:=36) rfl ⟨rfl,rfl⟩ (by decide) a2 F2 m2 (by have e':=N0a e2;go_simp) λa4 F4 m4 e4 _=>?_
  exact hk a4 F4 m4 e4
 clear G5 h5;refine chain (gi:=38) (p:=40) (m:=41) (e:=44) (q:=45) (t:=z_name) (mids:=[_,_,_]) rfl ⟨rfl,rfl,rfl⟩ ⟨rfl,rfl,rfl⟩ (by decide) G6 h6 (by
  intro o ho;simp only[List.mem_cons,List.not_mem_nil,or_false] at ho;rcases ho with rfl | rfl | rfl
  all_goals exact⟨rfl,_,rfl,by decide,by decide⟩) (λa1 F1 m1 hk=>?_) λb7 G7 h7=>?_
 ·refine V0a (v:=(.string a.name)) (f:=42) (l:=43) (i:=12) (off:=58) (g:=g) (tail:=_) (gi:=38) (m:=41) rfl ⟨rfl,rfl,rfl⟩ ⟨rfl,rfl,rfl⟩ (by decide) (i4a g) (k1a c_name _ Tryz.underlying9 rfl) a1 F1 m1 λa2 F2 m2 e2=>?_
  refine Q0a (l:=0) (e:=44) (u:=.bool z_name) (gi:=38) (m:=41) rfl ⟨rfl,rfl⟩ (by decide) a2 F2 m2 (by have e':=N0a e2;go_simp) λa4 F4 m4 e4 _=>?_
  exact hk a4 F4 m4 e4
 clear G6 h6;refine chain (gi:=43) (p:=45) (m:=46) (e:=49) (q:=50) (t:=z_pat) (mids:=[_,_,_]) rfl ⟨rfl,rfl,rfl⟩ ⟨rfl,rfl,rfl⟩ (by decide) G7 h7 (by
  intro o ho;simp only[List.mem_cons,List.not_mem_nil,or_false] at ho;rcases ho with rfl | rfl | rfl
  all_goals exact⟨rfl,_,rfl,by decide,by decide⟩) (λa1 F1 m1 hk=>?_) λb8 G8 h8=>?_
 ·refine V0a (v:=(.string a.pat)) (f:=47) (l:=48) (i:=18) (off:=64) (g:=g) (tail:=_) (gi:=43) (m:=46) rfl ⟨rfl,rfl,rfl⟩ ⟨rfl,rfl,rfl⟩ (by decide) (k4a g) (k1a c_pat _ Tryz.underlying9 rfl) a1 F1 m1 λa2 F2 m2 e2=>?_
  refine Q0a (l:=0) (e:=49) (u:=.bool z_pat) (gi:=43) (m:=46) rfl ⟨rfl,rfl⟩ (by decide) a2 F2 m2 (by have e':=N0a e2;go_simp) λa4 F4 m4 e4 _=>?_
  exact hk a4 F4 m4 e4
 clear G7 h7;refine chain (gi:=48) (p:=50) (m:=51) (e:=54) (q:=55) (t:=z_aft) (mids:=[_,_,_]) rfl ⟨rfl,rfl,rfl⟩ ⟨rfl,rfl,rfl⟩ (by decide) G8 h8 (by
  intro o ho;simp only[List.mem_cons,List.not_mem_nil,or_false] at ho;rcases ho with rfl | rfl | rfl
  all_goals exact⟨rfl,_,rfl,by decide,by decide⟩) (λa1 F1 m1 hk=>?_) λb9 G9 h9=>?_
 ·refine V0a (v:=(.string a.aft)) (f:=52) (l:=53) (i:=19) (off:=65) (g:=g) (tail:=_) (gi:=48) (m:=51) rfl ⟨rfl,rfl,rfl⟩ ⟨rfl,rfl,rfl⟩ (by decide) (l4a g) (k1a c_aft _ Tryz.underlying9 rfl) a1 F1 m1 λa2 F2 m2 e2=>?_
  refine Q0a (l:=0) (e:=54) (u:=.bool z_aft) (gi:=48) (m:=51) rfl ⟨rfl,rfl⟩ (by decide) a2 F2 m2 (by have e':=N0a e2;go_simp) λa4 F4 m4 e4 _=>?_
  exact hk a4 F4 m4 e4
 clear G8 h8;refine chain (gi:=53) (p:=55) (m:=56) (e:=59) (q:=60) (t:=z_acc) (mids:=[_,_,_]) rfl ⟨rfl,rfl,rfl⟩ ⟨rfl,rfl,rfl⟩ (by decide) G9 h9 (by
  intro o ho;simp only[List.mem_cons,List.not_mem_nil,or_false] at ho;rcases ho with rfl | rfl | rfl
  all_goals exact⟨rfl,_,rfl,by decide,by decide⟩) (λa1 F1 m1 hk=>?_) λb10 G10 h10=>?_
 ·refine V0a (v:=(.int .u32 a.acc)) (f:=57) (l:=58) (i:=5) (off:=51) (g:=g) (tail:=_) (gi:=53) (m:=56) rfl ⟨rfl,rfl,rfl⟩ ⟨rfl,rfl,rfl⟩ (by decide) (F4a g) (k1a c_acc _ Tryz.underlying23 rfl) a1 F1 m1 λa2 F2 m2 e2=>?_
  refine Q0a (l:=0) (e:=59) (u:=.bool z_acc) (gi:=53) (m:=56) rfl ⟨rfl,rfl⟩ (by decide) a2 F2 m2 (by have e':=N0a e2;go_simp) λa4 F4 m4 e4 _=>?_
  exact hk a4 F4 m4 e4
 clear G9 h9;refine chain (gi:=58) (p:=60) (m:=61) (e:=64) (q:=65) (t:=z_shr) (mids:=[_,_,_]) rfl ⟨rfl,rfl,rfl⟩ ⟨rfl,rfl,rfl⟩ (by decide) G10 h10 (by
  intro o ho;simp only[List.mem_cons,List.not_mem_nil,or_false] at ho;rcases ho with rfl | rfl | rfl
  all_goals exact⟨rfl,_,rfl,by decide,by decide⟩) (λa1 F1 m1 hk=>?_) λb11 G11 h11=>?_
 ·refine V0a (v:=(.int .u32 a.shr)) (f:=62) (l:=63) (i:=6) (off:=52) (g:=g) (tail:=_) (gi:=58) (m:=61) rfl ⟨rfl,rfl,rfl⟩ ⟨rfl,rfl,rfl⟩ (by decide) (G4a g) (k1a c_shr _ Tryz.underlying23 rfl) a1 F1 m1 λa2 F2 m2 e2=>?_
  refine Q0a (l:=0) (e:=64) (u:=.bool z_shr) (gi:=58) (m:=61) rfl ⟨rfl,rfl⟩ (by decide) a2 F2 m2 (by have e':=N0a e2;go_simp) λa4 F4 m4 e4 _=>?_
  exact hk a4 F4 m4 e4
 clear G10 h10;refine chain (gi:=63) (p:=65) (m:=66) (e:=69) (q:=70) (t:=z_way) (mids:=[_,_,_]) rfl ⟨rfl,rfl,rfl⟩ ⟨rfl,rfl,rfl⟩ (by decide) G11 h11 (by
  intro o ho;simp only[List.mem_cons,List.not_mem_nil,or_false] at ho;rcases ho with rfl | rfl | rfl
  all_goals exact⟨rfl,_,rfl,by decide,by decide⟩) (λa1 F1 m1 hk=>?_) λb12 G12 h12=>?_
 ·refine V0a (v:=(.int .u32 a.way)) (f:=67) (l:=68) (i:=7) (off:=53) (g:=g) (tail:=_) (gi:=63) (m:=66) rfl ⟨rfl,rfl,rfl⟩ ⟨rfl,rfl,rfl⟩ (by decide) (H4a g) (k1a c_way _ Tryz.underlying23 rfl) a1 F1 m1 λa2 F2 m2 e2=>?_
  refine Q0a (l:=0) (e:=69) (u:=.bool z_way) (gi:=63) (m:=66) rfl ⟨rfl,rfl⟩ (by decide) a2 F2 m2 (by have e':=N0a e2;go_simp) λa4 F4 m4 e4 _=>?_
  exact hk a4 F4 m4 e4
 clear G11 h11;refine chain (gi:=68) (p:=70) (m:=71) (e:=74) (q:=75) (t:=z_opt) (mids:=[_,_,_]) rfl ⟨rfl,rfl,rfl⟩ ⟨rfl,rfl,rfl⟩ (by decide) G12 h12 (by
  intro o ho;simp only[List.mem_cons,List.not_mem_nil,or_false] at ho;rcases ho with rfl | rfl | rfl
  all_goals exact⟨rfl,_,rfl,by decide,by decide⟩) (λa1 F1 m1 hk=>?_) λb13 G13 h13=>?_
 ·refine V0a (v:=(.int .u32 a.opt)) (f:=72) (l:=73) (i:=8) (off:=54) (g:=g) (tail:=_) (gi:=68) (m:=71) rfl ⟨rfl,rfl,rfl⟩ ⟨rfl,rfl,rfl⟩ (by decide) (I4a g) (k1a c_opt _ Tryz.underlying23 rfl) a1 F1 m1 λa2 F2 m2 e2=>?_
  refine Q0a (l:=0) (e:=74) (u:=.bool z_opt) (gi:=68) (m:=71) rfl ⟨rfl,rfl⟩ (by decide) a2 F2 m2 (by have e':=N0a e2;go_simp) λa4 F4 m4 e4 _=>?_
  exact hk a4 F4 m4 e4
 clear G12 h12;refine chain (gi:=73) (p:=75) (m:=76) (e:=79) (q:=80) (t:=z_lev) (mids:=[_,_,_]) rfl ⟨rfl,rfl,rfl⟩ ⟨rfl,rfl,rfl⟩ (by decide) G13 h13 (by
  intro o ho;simp only[List.mem_cons,List.not_mem_nil,or_false] at ho;rcases ho with rfl | rfl | rfl
  all_goals exact⟨rfl,_,rfl,by decide,by decide⟩) (λa1 F1 m1 hk=>?_) λb14 G14 h14=>?_
 ·refine V0a (v:=(.int .u8 a.lev)) (f:=77) (l:=78) (i:=9) (off:=55) (g:=g) (tail:=_) (gi:=73) (m:=76) rfl ⟨rfl,rfl,rfl⟩ ⟨rfl,rfl,rfl⟩ (by decide) (H3a g) (k1a c_lev _ Tryz.underlying5 rfl) a1 F1 m1 λa2 F2 m2 e2=>?_
  refine Q0a (l:=0) (e:=79) (u:=.bool z_lev) (gi:=73) (m:=76) rfl ⟨rfl,rfl⟩ (by decide) a2 F2 m2 (by have e':=N0a e2;go_simp) λa4 F4 m4 e4 _=>?_
  exact hk a4 F4 m4 e4
 clear G13 h13;refine chain (gi:=78) (p:=80) (m:=81) (e:=84) (q:=85) (t:=z_dur) (mids:=[_,_,_]) rfl ⟨rfl,rfl,rfl⟩ ⟨rfl,rfl,rfl⟩ (by decide) G14 h14 (by
  intro o ho;simp only[List.mem_cons,List.not_mem_nil,or_false] at ho;rcases ho with rfl | rfl | rfl
  all_goals exact⟨rfl,_,rfl,by decide,by decide⟩) (λa1 F1 m1 hk=>?_) λb15 G15 h15=>?_
 ·refine V0a (v:=(.int .u8 a.dur)) (f:=82) (l:=83) (i:=10) (off:=56) (g:=g) (tail:=_) (gi:=78) (m:=81) rfl ⟨rfl,rfl,rfl⟩ ⟨rfl,rfl,rfl⟩ (by decide) (s3a g) (k1a c_dur _ Tryz.underlying5 rfl) a1 F1 m1 λa2 F2 m2 e2=>?_
  refine Q0a (l:=0) (e:=84) (u:=.bool z_dur) (gi:=78) (m:=81) rfl ⟨rfl,rfl⟩ (by decide) a2 F2 m2 (by have e':=N0a e2;go_simp) λa4 F4 m4 e4 _=>?_
  exact hk a4 F4 m4 e4
 clear G14 h14;refine chain (gi:=83) (p:=85) (m:=86) (e:=89) (q:=90) (t:=z_file) (mids:=[_,_,_]) rfl ⟨rfl,rfl,rfl⟩ ⟨rfl,rfl,rfl⟩ (by decide) G15 h15 (by
  intro o ho;simp only[List.mem_cons,List.not_mem_nil,or_false] at ho;rcases ho with rfl | rfl | rfl
  all_goals exact⟨rfl,_,rfl,by decide,by decide⟩) (λa1 F1 m1 hk=>?_) λb16 G16 h16=>?_
 ·refine V0a (v:=(.int .u64 a.file)) (f:=87) (l:=88) (i:=11) (off:=57) (g:=g) (tail:=_) (gi:=83) (m:=86) rfl ⟨rfl,rfl,rfl⟩ ⟨rfl,rfl,rfl⟩ (by decide) (R8a g) (k1a c_file _ Tryz.underlying25 rfl) a1 F1 m1 λa2 F2 m2 e2=>?_
  refine Q0a (l:=0) (e:=89) (u:=.bool z_file) (gi:=83) (m:=86) rfl ⟨rfl,rfl⟩ (by decide) a2 F2 m2 (by have e':=N0a e2;go_simp) λa4 F4 m4 e4 _=>?_
  exact hk a4 F4 m4 e4
 clear G15 h15;refine chain (gi:=88) (p:=90) (m:=91) (e:=94) (q:=95) (t:=z_at_) (mids:=[_,_,_]) rfl ⟨rfl,rfl,rfl⟩ ⟨rfl,rfl,rfl⟩ (by decide) G16 h16 (by
  intro o ho;simp only[List.mem_cons,List.not_mem_nil,or_false] at ho;rcases ho with rfl | rfl | rfl
  all_goals exact⟨rfl,_,rfl,by decide,by decide⟩) (λa1 F1 m1 hk=>?_) λb17 G17 h17=>?_
 ·refine V0a (v:=(.int .u64 a.at_)) (f:=92) (l:=93) (i:=13) (off:=59) (g:=g) (tail:=_) (gi:=88) (m:=91) rfl ⟨rfl,rfl,rfl⟩ ⟨rfl,rfl,rfl⟩ (by decide) (a2a g) (k1a c_at_ _ Tryz.underlying25 rfl) a1 F1 m1 λa2 F2 m2 e2=>?_
  refine Q0a (l:=0) (e:=94) (u:=.bool z_at_) (gi:=88) (m:=91) rfl ⟨rfl,rfl⟩ (by decide) a2 F2 m2 (by have e':=N0a e2;go_simp) λa4 F4 m4 e4 _=>?_
  exact hk a4 F4 m4 e4
 clear G16 h16;refine chain (gi:=93) (p:=95) (m:=96) (e:=99) (q:=100) (t:=z_n) (mids:=[_,_,_]) rfl ⟨rfl,rfl,rfl⟩ ⟨rfl,rfl,rfl⟩ (by decide) G17 h17 (by
  intro o ho;simp only[List.mem_cons,List.not_mem_nil,or_false] at ho;rcases ho with rfl | rfl | rfl
  all_goals exact⟨rfl,_,rfl,by decide,by decide⟩) (λa1 F1 m1 hk=>?_) λb18 G18 h18=>?_
 ·refine V0a (v:=(.int .u32 a.n)) (f:=97) (l:=98) (i:=14) (off:=60) (g:=g) (tail:=_) (gi:=93) (m:=96) rfl ⟨rfl,rfl,rfl⟩ ⟨rfl,rfl,rfl⟩ (by decide) (t3a g) (k1a c_n _ Tryz.underlying23 rfl) a1 F1 m1 λa2 F2 m2 e2=>?_
  refine Q0a (l:=0) (e:=99) (u:=.bool z_n) (gi:=93) (m:=96) rfl ⟨rfl,rfl⟩ (by decide) a2 F2 m2 (by have e':=N0a e2;go_simp) λa4 F4 m4 e4 _=>?_
  exact hk a4 F4 m4 e4
 clear G17 h17;refine chain (gi:=98) (p:=100) (m:=101) (e:=104) (q:=105) (t:=z_most) (mids:=[_,_,_]) rfl ⟨rfl,rfl,rfl⟩ ⟨rfl,rfl,rfl⟩ (by decide) G18 h18 (by
  intro o ho;simp only[List.mem_cons,List.not_mem_nil,or_false] at ho;rcases ho with rfl | rfl | rfl
  all_goals exact⟨rfl,_,rfl,by decide,by decide⟩) (λa1 F1 m1 hk=>?_) λb19 G19 h19=>?_
 ·refine V0a (v:=(.int .u16 a.most)) (f:=102) (l:=103) (i:=17) (off:=63) (g:=g) (tail:=_) (gi:=98) (m:=101) rfl ⟨rfl,rfl,rfl⟩ ⟨rfl,rfl,rfl⟩ (by decide) (j4a g) (k1a c_most _ Tryz.underlying22 rfl) a1 F1 m1 λa2 F2 m2 e2=>?_
  refine Q0a (l:=0) (e:=104) (u:=.bool z_most) (gi:=98) (m:=101) rfl ⟨rfl,rfl⟩ (by decide) a2 F2 m2 (by have e':=N0a e2;go_simp) λa4 F4 m4 e4 _=>?_
  exact hk a4 F4 m4 e4
 clear G18 h18;refine chain (gi:=103) (p:=105) (m:=106) (e:=109) (q:=110) (t:=z_cls) (mids:=[_,_,_]) rfl ⟨rfl,rfl,rfl⟩ ⟨rfl,rfl,rfl⟩ (by decide) G19 h19 (by
  intro o ho;simp only[List.mem_cons,List.not_mem_nil,or_false] at ho;rcases ho with rfl | rfl | rfl
  all_goals exact⟨rfl,_,rfl,by decide,by decide⟩) (λa1 F1 m1 hk=>?_) λb20 G20 h20=>?_
 ·refine V0a (v:=(.int .u16 a.cls)) (f:=107) (l:=108) (i:=20) (off:=66) (g:=g) (tail:=_) (gi:=103) (m:=106) rfl ⟨rfl,rfl,rfl⟩ ⟨rfl,rfl,rfl⟩ (by decide) (A1a g) (k1a c_cls _ Tryz.underlying22 rfl) a1 F1 m1 λa2 F2 m2 e2=>?_
  refine Q0a (l:=0) (e:=109) (u:=.bool z_cls) (gi:=103) (m:=106) rfl ⟨rfl,rfl⟩ (by decide) a2 F2 m2 (by have e':=N0a e2;go_simp) λa4 F4 m4 e4 _=>?_
  exact hk a4 F4 m4 e4
 clear G19 h19;refine chain (gi:=108) (p:=110) (m:=111) (e:=114) (q:=115) (t:=z_siz) (mids:=[_,_,_]) rfl ⟨rfl,rfl,rfl⟩ ⟨rfl,rfl,rfl⟩ (by decide) G20 h20 (by
  intro o ho;simp only[List.mem_cons,List.not_mem_nil,or_false] at ho;rcases ho with rfl | rfl | rfl
  all_goals exact⟨rfl,_,rfl,by decide,by decide⟩) (λa1 F1 m1 hk=>?_) λb21 G21 h21=>?_
 ·refine V0a (v:=(.int .u64 a.siz)) (f:=112) (l:=113) (i:=21) (off:=67) (g:=g) (tail:=_) (gi:=108) (m:=111) rfl ⟨rfl,rfl,rfl⟩ ⟨rfl,rfl,rfl⟩ (by decide) (T8a g) (k1a c_siz _ Tryz.underlying25 rfl) a1 F1 m1 λa2 F2 m2 e2=>?_
  refine Q0a (l:=0) (e:=114) (u:=.bool z_siz) (gi:=108) (m:=111) rfl ⟨rfl,rfl⟩ (by decide) a2 F2 m2 (by have e':=N0a e2;go_simp) λa4 F4 m4 e4 _=>?_
  exact hk a4 F4 m4 e4
 clear G20 h20;refine chain (gi:=113) (p:=115) (m:=116) (e:=119) (q:=120) (t:=z_on) (mids:=[_,_,_]) rfl ⟨rfl,rfl,rfl⟩ ⟨rfl,rfl,rfl⟩ (by decide) G21 h21 (by
  intro o ho;simp only[List.mem_cons,List.not_mem_nil,or_false] at ho;rcases ho with rfl | rfl | rfl
  all_goals exact⟨rfl,_,rfl,by decide,by decide⟩) (λa1 F1 m1 hk=>?_) λb22 G22 h22=>?_
 ·refine V0a (v:=(.bool a.on)) (f:=117) (l:=118) (i:=22) (off:=68) (g:=g) (tail:=_) (gi:=113) (m:=116) rfl ⟨rfl,rfl,rfl⟩ ⟨rfl,rfl,rfl⟩ (by decide) (U8a g) (k1a c_on _ Tryz.underlying4 rfl) a1 F1 m1 λa2 F2 m2 e2=>?_
  refine Q0a (l:=0) (e:=119) (u:=.bool z_on) (gi:=113) (m:=116) rfl ⟨rfl,rfl⟩ (by decide) a2 F2 m2 (by have e':=N0a e2;go_simp) λa4 F4 m4 e4 _=>?_
  exact hk a4 F4 m4 e4
 clear G21 h21;have HT1:=HT.out;rw[HT1] at h22;refine I1a (v:=.bool r) (j6a (by simp[Region.wanted]) (.tmp 120) rfl _ h22) ?_;refine wpList_nil (hret _ _ (wp_ret ?_));have F9:=G22.put (d:=2) (v:=.bool r) (by decide);refine bodyPost_ret (results_tmp rfl _ _ _) F9.df ?_;refine⟨?_,L1.out⟩;have e9:(b22.put (some 2) (.bool r)).eval (.tmp 2)=.bool r:=Z3a (by rw[G22.size];decide);exact congrArg Ending.returned e9
theorem W0b(w:World)(cs:List Value)(a:E1a)(ka:a.ok)(ha:f1a w w.heap.size cs a) :
  Calls Tryz.prog 117 #[.agg cs.toArray] w λe w'=>e=.returned (.bool (decide (a=w0a)))/\Below w.heap.size w w':=by
 have HL:=hI (ha.len ka);obtain⟨X1,X2,X3,E1,E2,E3,rfl,h_X,h_E⟩:=ha;have l_X:=h_X.len;have l_E:=h_E.len;have HT:Hid ((((((((((((((a.data.length==0)&&(a.ents.length==0))&&(decide (a.chal=List.replicate 8 0)))&&(a.dia==0))&&(a.siz==0))&&(a.lev==0))&&(a.dur==0))&&(a.made==0))&&(a.file==0))&&(a.kind==0))&&(a.n==0))&&(!a.more))&&(!a.gone))=decide (a=w0a)):=by
  show _=_
  rw[Bool.eq_iff_iff,decide_eq_true_iff,L2b];simp only[Bool.and_eq_true,beq_iff_eq,decide_eq_true_iff,Bool.not_eq_true',List.length_eq_zero_iff,and_assoc]
 have FA:Hid (∀(w:World) (g:Nat),Blk w g 39 (s0a (.slice X1 X2 X3) (.slice E1 E2 E3) a)->w.cell? ⟨g,0,none⟩=some (.int .u16 a.dia)/\w.cell? ⟨g,1,none⟩=some (.int .u64 a.siz)/\w.cell? ⟨g,10,none⟩=some (.int .u8 a.lev)/\w.cell? ⟨g,11,none⟩=some (.int .u8 a.dur)/\w.cell? ⟨g,12,none⟩=some (.int .u16 a.made)/\w.cell? ⟨g,13,none⟩=some (.int .u64 a.file)/\w.cell? ⟨g,14,none⟩=some (.int .u8 a.kind)/\w.cell? ⟨g,15,none⟩=some (.slice X1 X2 X3)/\w.cell? ⟨g,16,none⟩=some (.int .u32 a.n)/\w.cell? ⟨g,17,none⟩=some (.slice E1 E2 E3)/\w.cell? ⟨g,18,none⟩=some (.bool a.more)/\w.cell? ⟨g,19,none⟩=some (.bool a.gone)):=λw g h=>⟨h.at rfl,h.at rfl,h.at (z0a ka 0),h.at (z0a ka 1),h.at (z0a ka 2),h.at (z0a ka 3),h.at (z0a ka 4),h.at (z0a ka 5),h.at (z0a ka 6),h.at (z0a ka 7),h.at (z0a ka 8),h.at (z0a ka 9)⟩
 have R_chal:Hid (∀(w:World) (g:Nat),Blk w g 39 (s0a (.slice X1 X2 X3) (.slice E1 E2 E3) a)->w.rangeAt g 2 (a.chal.map (Value.int .u8))):=λw g h=>E4a h ka
 have N_chal:Hid ((a.chal.map (Value.int .u8)).length=8):=by show _=_;rw[List.length_map];exact ka.clen
 have q_chal:∀w:World,(Op.equalIn 10000 35 (.agg (a.chal.map (Value.int .u8)).toArray) (.agg ((List.replicate 8 (0:Int)).map (Value.int .u8)).toArray)).run Tryz.prog w=.ok (decide (a.chal=List.replicate 8 0)) w:=λw=>Z1a Tryz.underlying35 Tryz.underlying5 L6a _ _ ka.clen (by simp) _ w
 obtain⟨z_data,k_data⟩:∃z,(a.data.length==0)=z:=⟨_,rfl⟩;obtain⟨z_ents,k_ents⟩:∃z,(a.ents.length==0)=z:=⟨_,rfl⟩;obtain⟨z_chal,k_chal⟩:∃z,(decide (a.chal=List.replicate 8 0))=z:=⟨_,rfl⟩;obtain⟨z_dia,k_dia⟩:∃z,(a.dia==0)=z:=⟨_,rfl⟩;obtain⟨z_siz,k_siz⟩:∃z,(a.siz==0)=z:=⟨_,rfl⟩;obtain⟨z_lev,k_lev⟩:∃z,(a.lev==0)=z:=⟨_,rfl⟩;obtain⟨z_dur,k_dur⟩:∃z,(a.dur==0)=z:=⟨_,rfl⟩;obtain⟨z_made,k_made⟩:∃z,(a.made==0)=z:=⟨_,rfl⟩;obtain⟨z_file,k_file⟩:∃z,(a.file==0)=z:=⟨_,rfl⟩;obtain⟨z_kind,k_kind⟩:∃z,(a.kind==0)=z:=⟨_,rfl⟩;obtain⟨z_n,k_n⟩:∃z,(a.n==0)=z:=⟨_,rfl⟩;obtain⟨z_more,k_more⟩:∃z,(!a.more)=z:=⟨_,rfl⟩;obtain⟨z_gone,k_gone⟩:∃z,(!a.gone)=z:=⟨_,rfl⟩;rw[k_data,k_ents,k_chal,k_dia,k_siz,k_lev,k_dur,k_made,k_file,k_kind,k_n,k_more,k_gone] at HT;rw[l_X] at k_data;have kk_data:((X2:Int)==0)=z_data:=by rw[<-k_data];rw[Bool.eq_iff_iff];simp
 rw[l_E] at k_ents;have kk_ents:((E2:Int)==0)=z_ents:=by rw[<-k_ents];rw[Bool.eq_iff_iff];simp
 rw[k_chal] at q_chal;obtain⟨y_chal,hy⟩:∃y,y=((List.replicate 8 (0:Int)).map (Value.int .u8)).toArray:=⟨_,rfl⟩;rw[<-hy] at q_chal;have bt_chal:Tryz.prog.built 35 []=some y_chal:=by rw[hy];exact u0b
 clear hy;obtain⟨r,hr⟩:∃r,r=decide (a=w0a):=⟨_,rfl⟩;rw[<-hr] at HT⊢;obtain⟨cs,hcs⟩:∃c,c=s0a (.slice X1 X2 X3) (.slice E1 E2 E3) a:=⟨_,rfl⟩;rw[<-hcs] at FA HL R_chal⊢;clear hr hcs h_X h_E;go_enter Tryz.func117,Tryz.ntmps117;go_upto_region 1 with(first
  | ((with_reducible refine sN 1 ?_);refine a0a rfl _ (.tmp 0) rfl cs rfl ?_;intro g w1 hg1 hg2 K1 L1)
  | fail)
 rename_i hret;simp only[List.append_eq,List.cons_append,List.nil_append];refine wp_region_lit ?_;have HK:=K1;obtain⟨c_dia,c_siz,c_lev,c_dur,c_made,c_file,c_kind,c_data,c_n,c_ents,c_more,c_gone⟩:=FA.out _ _ K1.out;have r_chal:=R_chal.out _ _ K1.out;refine s0b (N:=69) (x0:=1) (pv:=.pointer (some ⟨g,0,none⟩)) ⟨rfl,rfl,rfl⟩ λa0 F0=>?_
 refine K1b (v:=(.slice X1 X2 X3)) (f:=3) (l:=4) (i:=8) (off:=15) (g:=g) ⟨rfl,rfl,rfl⟩ ⟨rfl,rfl,rfl⟩ (by decide) (J4a g) (k1a c_data _ Tryz.underlying31 rfl) a0 F0 λa1 F1 e1=>?_
 refine I7a (e:=5) (u:=.int .i64 (X2:Int)) ⟨rfl,rfl⟩ (by decide) a1 F1 (by have e':=N0a e1;go_simp) λa2 F2 e2=>?_
 refine I7a (e:=6) (u:=.bool z_data) ⟨rfl,rfl⟩ (by decide) a2 F2 (by have e':=N0a e2;go_simp) λb0 G0 h0=>?_
 clear F0 F1 F2 e1 e2;refine chain (gi:=4) (p:=6) (m:=7) (e:=11) (q:=12) (t:=z_ents) (mids:=[_,_,_,_]) rfl ⟨rfl,rfl,rfl⟩ ⟨rfl,rfl,rfl⟩ (by decide) G0 h0 (by
  intro o ho;simp only[List.mem_cons,List.not_mem_nil,or_false] at ho;rcases ho with rfl | rfl | rfl | rfl
  all_goals exact⟨rfl,_,rfl,by decide,by decide⟩) (λa1 F1 m1 hk=>?_) λb1 G1 h1=>?_
 ·refine V0a (v:=(.slice E1 E2 E3)) (f:=8) (l:=9) (i:=10) (off:=17) (g:=g) (tail:=_) (gi:=4) (m:=7) rfl ⟨rfl,rfl,rfl⟩ ⟨rfl,rfl,rfl⟩ (by decide) (m4a g) (k1a c_ents _ Tryz.underlying37 rfl) a1 F1 m1 λa2 F2 m2 e2=>?_
  refine Q0a (l:=0) (e:=10) (u:=.int .i64 (E2:Int)) (gi:=4) (m:=7) rfl ⟨rfl,rfl⟩ (by decide) a2 F2 m2 (by have e':=N0a e2;go_simp) λa3 F3 m3 e3 _=>?_
  refine Q0a (l:=0) (e:=11) (u:=.bool z_ents) (gi:=4) (m:=7) rfl ⟨rfl,rfl⟩ (by decide) a3 F3 m3 (by have e':=N0a e3;go_simp) λa4 F4 m4 e4 _=>?_
  exact hk a4 F4 m4 e4
 refine chain (gi:=10) (p:=12) (m:=13) (e:=17) (q:=18) (t:=z_chal) (mids:=[_,_,_,_]) rfl ⟨rfl,rfl,rfl⟩ ⟨rfl,rfl,rfl⟩ (by decide) G1 h1 (by
  intro o ho;simp only[List.mem_cons,List.not_mem_nil,or_false] at ho;rcases ho with rfl | rfl | rfl | rfl
  all_goals exact⟨rfl,_,rfl,by decide,by decide⟩) (λa1 F1 m1 hk=>?_) λb2 G2 h2=>?_
 ·refine V0a (v:=(.agg (a.chal.map (Value.int .u8)).toArray)) (f:=14) (l:=15) (i:=2) (off:=2) (g:=g) (tail:=_) (gi:=10) (m:=13) rfl ⟨rfl,rfl,rfl⟩ ⟨rfl,rfl,rfl⟩ (by decide) (m6a g) (p6a r_chal Tryz.underlying35 rfl (by rw[d2a,N_chal.out])) a1 F1 m1 λa2 F2 m2 e2=>?_
  refine Q0a (l:=0) (e:=16) (u:=.agg y_chal) (gi:=10) (m:=13) rfl ⟨rfl,rfl⟩ (by decide) a2 F2 m2 (z9a rfl bt_chal) λa3 F3 m3 e3 o3=>?_
  have e2':=(o3 15 (by decide)).trans e2;refine Q0a (l:=0) (e:=17) (u:=.bool z_chal) (gi:=10) (m:=13) rfl ⟨rfl,rfl⟩ (by decide) a3 F3 m3 (by have e':=N0a e2';have e'':=N0a e3;have qg:=r0b;go_simp) λa4 F4 m4 e4 _=>?_
  exact hk a4 F4 m4 e4
 clear G1 h1;refine chain (gi:=16) (p:=18) (m:=19) (e:=22) (q:=23) (t:=z_dia) (mids:=[_,_,_]) rfl ⟨rfl,rfl,rfl⟩ ⟨rfl,rfl,rfl⟩ (by decide) G2 h2 (by
  intro o ho;simp only[List.mem_cons,List.not_mem_nil,or_false] at ho;rcases ho with rfl | rfl | rfl
  all_goals exact⟨rfl,_,rfl,by decide,by decide⟩) (λa1 F1 m1 hk=>?_) λb3 G3 h3=>?_
 ·refine V0a (v:=(.int .u16 a.dia)) (f:=20) (l:=21) (i:=0) (off:=0) (g:=g) (tail:=_) (gi:=16) (m:=19) rfl ⟨rfl,rfl,rfl⟩ ⟨rfl,rfl,rfl⟩ (by decide) (l6a g) (k1a c_dia _ Tryz.underlying22 rfl) a1 F1 m1 λa2 F2 m2 e2=>?_
  refine Q0a (l:=0) (e:=22) (u:=.bool z_dia) (gi:=16) (m:=19) rfl ⟨rfl,rfl⟩ (by decide) a2 F2 m2 (by have e':=N0a e2;go_simp) λa4 F4 m4 e4 _=>?_
  exact hk a4 F4 m4 e4
 clear G2 h2;refine chain (gi:=21) (p:=23) (m:=24) (e:=27) (q:=28) (t:=z_siz) (mids:=[_,_,_]) rfl ⟨rfl,rfl,rfl⟩ ⟨rfl,rfl,rfl⟩ (by decide) G3 h3 (by
  intro o ho;simp only[List.mem_cons,List.not_mem_nil,or_false] at ho;rcases ho with rfl | rfl | rfl
  all_goals exact⟨rfl,_,rfl,by decide,by decide⟩) (λa1 F1 m1 hk=>?_) λb4 G4 h4=>?_
 ·refine V0a (v:=(.int .u64 a.siz)) (f:=25) (l:=26) (i:=1) (off:=1) (g:=g) (tail:=_) (gi:=21) (m:=24) rfl ⟨rfl,rfl,rfl⟩ ⟨rfl,rfl,rfl⟩ (by decide) (I3a g) (k1a c_siz _ Tryz.underlying25 rfl) a1 F1 m1 λa2 F2 m2 e2=>?_
  refine Q0a (l:=0) (e:=27) (u:=.bool z_siz) (gi:=21) (m:=24) rfl ⟨rfl,rfl⟩ (by decide) a2 F2 m2 (by have e':=N0a e2;go_simp) λa4 F4 m4 e4 _=>?_
  exact hk a4 F4 m4 e4
 clear G3 h3;refine chain (gi:=26) (p:=28) (m:=29) (e:=32) (q:=33) (t:=z_lev) (mids:=[_,_,_]) rfl ⟨rfl,rfl,rfl⟩ ⟨rfl,rfl,rfl⟩ (by decide) G4 h4 (by
  intro o ho;simp only[List.mem_cons,List.not_mem_nil,or_false] at ho;rcases ho with rfl | rfl | rfl
  all_goals exact⟨rfl,_,rfl,by decide,by decide⟩) (λa1 F1 m1 hk=>?_) λb5 G5 h5=>?_
 ·refine V0a (v:=(.int .u8 a.lev)) (f:=30) (l:=31) (i:=3) (off:=10) (g:=g) (tail:=_) (gi:=26) (m:=29) rfl ⟨rfl,rfl,rfl⟩ ⟨rfl,rfl,rfl⟩ (by decide) (J3a g) (k1a c_lev _ Tryz.underlying5 rfl) a1 F1 m1 λa2 F2 m2 e2=>?_
  refine Q0a (l:=0) (e:=32) (u:=.bool z_lev) (gi:=26) (m:=29) rfl ⟨rfl,rfl⟩ (by decide) a2 F2 m2 (by have e':=N0a e2;go_simp) λa4 F4 m4 e4 _=>?_
  exact hk a4 F4 m4 e4
 clear G4 h4;refine chain (gi:=31) (p:=33) (m:=34) (e:=37) (q:=38) (t:=z_dur) (mids:=[_,_,_]) rfl ⟨rfl,rfl,rfl⟩ ⟨rfl,rfl,rfl⟩ (by decide) G5 h5 (by
  intro o ho;simp only[List.mem_cons,List.not_mem_nil,or_false] at ho;rcases ho with rfl | rfl | rfl
  all_goals exact⟨rfl,_,rfl,by decide,by decide⟩) (λa1 F1 m1 hk=>?_) λb6 G6 h6=>?_
 ·refine V0a (v:=(.int .u8 a.dur)) (f:=35) (l:=36) (i:=4) (off:=11) (g:=g) (tail:=_) (gi:=31) (m:=34) rfl ⟨rfl,rfl,rfl⟩ ⟨rfl,rfl,rfl⟩ (by decide) (n6a g) (k1a c_dur _ Tryz.underlying5 rfl) a1 F1 m1 λa2 F2 m2 e2=>?_
  refine Q0a (l:=0) (e:=37) (u:=.bool z_dur) (gi:=31) (m:=34) rfl ⟨rfl,rfl⟩ (by decide) a2 F2 m2 (by have e':=N0a e2;go_simp) λa4 F4 m4 e4 _=>?_
  exact hk a4 F4 m4 e4
 clear G5 h5;refine chain (gi:=36) (p:=38) (m:=39) (e:=42) (q:=43) (t:=z_made) (mids:=[_,_,_]) rfl ⟨rfl,rfl,rfl⟩ ⟨rfl,rfl,rfl⟩ (by decide) G6 h6 (by
  intro o ho;simp only[List.mem_cons,List.not_mem_nil,or_false] at ho;rcases ho with rfl | rfl | rfl
  all_goals exact⟨rfl,_,rfl,by decide,by decide⟩) (λa1 F1 m1 hk=>?_) λb7 G7 h7=>?_
 ·refine V0a (v:=(.int .u16 a.made)) (f:=40) (l:=41) (i:=5) (off:=12) (g:=g) (tail:=_) (gi:=36) (m:=39) rfl ⟨rfl,rfl,rfl⟩ ⟨rfl,rfl,rfl⟩ (by decide) (o6a g) (k1a c_made _ Tryz.underlying22 rfl) a1 F1 m1 λa2 F2 m2 e2=>?_
  refine Q0a (l:=0) (e:=42) (u:=.bool z_made) (gi:=36) (m:=39) rfl ⟨rfl,rfl⟩ (by decide) a2 F2 m2 (by have e':=N0a e2;go_simp) λa4 F4 m4 e4 _=>?_
  exact hk a4 F4 m4 e4
 clear G6 h6;refine chain (gi:=41) (p:=43) (m:=44) (e:=47) (q:=48) (t:=z_file) (mids:=[_,_,_]) rfl ⟨rfl,rfl,rfl⟩ ⟨rfl,rfl,rfl⟩ (by decide) G7 h7 (by
  intro o ho;simp only[List.mem_cons,List.not_mem_nil,or_false] at ho;rcases ho with rfl | rfl | rfl
  all_goals exact⟨rfl,_,rfl,by decide,by decide⟩) (λa1 F1 m1 hk=>?_) λb8 G8 h8=>?_
 ·refine V0a (v:=(.int .u64 a.file)) (f:=45) (l:=46) (i:=6) (off:=13) (g:=g) (tail:=_) (gi:=41) (m:=44) rfl ⟨rfl,rfl,rfl⟩ ⟨rfl,rfl,rfl⟩ (by decide) (K3a g) (k1a c_file _ Tryz.underlying25 rfl) a1 F1 m1 λa2 F2 m2 e2=>?_
  refine Q0a (l:=0) (e:=47) (u:=.bool z_file) (gi:=41) (m:=44) rfl ⟨rfl,rfl⟩ (by decide) a2 F2 m2 (by have e':=N0a e2;go_simp) λa4 F4 m4 e4 _=>?_
  exact hk a4 F4 m4 e4
 clear G7 h7;refine chain (gi:=46) (p:=48) (m:=49) (e:=52) (q:=53) (t:=z_kind) (mids:=[_,_,_]) rfl ⟨rfl,rfl,rfl⟩ ⟨rfl,rfl,rfl⟩ (by decide) G8 h8 (by
  intro o ho;simp only[List.mem_cons,List.not_mem_nil,or_false] at ho;rcases ho with rfl | rfl | rfl
  all_goals exact⟨rfl,_,rfl,by decide,by decide⟩) (λa1 F1 m1 hk=>?_) λb9 G9 h9=>?_
 ·refine V0a (v:=(.int .u8 a.kind)) (f:=50) (l:=51) (i:=7) (off:=14) (g:=g) (tail:=_) (gi:=46) (m:=49) rfl ⟨rfl,rfl,rfl⟩ ⟨rfl,rfl,rfl⟩ (by decide) (L3a g) (k1a c_kind _ Tryz.underlying36 rfl) a1 F1 m1 λa2 F2 m2 e2=>?_
  refine Q0a (l:=0) (e:=52) (u:=.bool z_kind) (gi:=46) (m:=49) rfl ⟨rfl,rfl⟩ (by decide) a2 F2 m2 (by have e':=N0a e2;go_simp) λa4 F4 m4 e4 _=>?_
  exact hk a4 F4 m4 e4
 clear G8 h8;refine chain (gi:=51) (p:=53) (m:=54) (e:=57) (q:=58) (t:=z_n) (mids:=[_,_,_]) rfl ⟨rfl,rfl,rfl⟩ ⟨rfl,rfl,rfl⟩ (by decide) G9 h9 (by
  intro o ho;simp only[List.mem_cons,List.not_mem_nil,or_false] at ho;rcases ho with rfl | rfl | rfl
  all_goals exact⟨rfl,_,rfl,by decide,by decide⟩) (λa1 F1 m1 hk=>?_) λb10 G10 h10=>?_
 ·refine V0a (v:=(.int .u32 a.n)) (f:=55) (l:=56) (i:=9) (off:=16) (g:=g) (tail:=_) (gi:=51) (m:=54) rfl ⟨rfl,rfl,rfl⟩ ⟨rfl,rfl,rfl⟩ (by decide) (y9a g) (k1a c_n _ Tryz.underlying23 rfl) a1 F1 m1 λa2 F2 m2 e2=>?_
  refine Q0a (l:=0) (e:=57) (u:=.bool z_n) (gi:=51) (m:=54) rfl ⟨rfl,rfl⟩ (by decide) a2 F2 m2 (by have e':=N0a e2;go_simp) λa4 F4 m4 e4 _=>?_
  exact hk a4 F4 m4 e4
 clear G9 h9;refine chain (gi:=56) (p:=58) (m:=59) (e:=62) (q:=63) (t:=z_more) (mids:=[_,_,_]) rfl ⟨rfl,rfl,rfl⟩ ⟨rfl,rfl,rfl⟩ (by decide) G10 h10 (by
  intro o ho;simp only[List.mem_cons,List.not_mem_nil,or_false] at ho;rcases ho with rfl | rfl | rfl
  all_goals exact⟨rfl,_,rfl,by decide,by decide⟩) (λa1 F1 m1 hk=>?_) λb11 G11 h11=>?_
 ·refine V0a (v:=(.bool a.more)) (f:=60) (l:=61) (i:=11) (off:=18) (g:=g) (tail:=_) (gi:=56) (m:=59) rfl ⟨rfl,rfl,rfl⟩ ⟨rfl,rfl,rfl⟩ (by decide) (n4a g) (k1a c_more _ Tryz.underlying4 rfl) a1 F1 m1 λa2 F2 m2 e2=>?_
  refine Q0a (l:=0) (e:=62) (u:=.bool z_more) (gi:=56) (m:=59) rfl ⟨rfl,rfl⟩ (by decide) a2 F2 m2 (by have e':=N0a e2;go_simp) λa4 F4 m4 e4 _=>?_
  exact hk a4 F4 m4 e4
 clear G10 h10;refine chain (gi:=61) (p:=63) (m:=64) (e:=67) (q:=68) (t:=z_gone) (mids:=[_,_,_]) rfl ⟨rfl,rfl,rfl⟩ ⟨rfl,rfl,rfl⟩ (by decide) G11 h11 (by
  intro o ho;simp only[List.mem_cons,List.not_mem_nil,or_false] at ho;rcases ho with rfl | rfl | rfl
  all_goals exact⟨rfl,_,rfl,by decide,by decide⟩) (λa1 F1 m1 hk=>?_) λb12 G12 h12=>?_
 ·refine V0a (v:=(.bool a.gone)) (f:=65) (l:=66) (i:=12) (off:=19) (g:=g) (tail:=_) (gi:=61) (m:=64) rfl ⟨rfl,rfl,rfl⟩ ⟨rfl,rfl,rfl⟩ (by decide) (o4a g) (k1a c_gone _ Tryz.underlying4 rfl) a1 F1 m1 λa2 F2 m2 e2=>?_
  refine Q0a (l:=0) (e:=67) (u:=.bool z_gone) (gi:=61) (m:=64) rfl ⟨rfl,rfl⟩ (by decide) a2 F2 m2 (by have e':=N0a e2;go_simp) λa4 F4 m4 e4 _=>?_
  exact hk a4 F4 m4 e4
 clear G11 h11;have HT1:=HT.out;rw[HT1] at h12;refine I1a (v:=.bool r) (j6a (by simp[Region.wanted]) (.tmp 68) rfl _ h12) ?_;refine wpList_nil (hret _ _ (wp_ret ?_));have F9:=G12.put (d:=2) (v:=.bool r) (by decide);refine bodyPost_ret (results_tmp rfl _ _ _) F9.df ?_;refine⟨?_,L1.out⟩;have e9:(b12.put (some 2) (.bool r)).eval (.tmp 2)=.bool r:=Z3a (by rw[G12.size];decide);exact congrArg Ending.returned e9
theorem World.setCells_only(g:Nat):∀(vs:List Value) (o:Nat) (w:World),p3a g w (w.setCells g o vs)
 | [],_,w=>p3a.refl g w
 | v::r,o,w=>by have h1:=a3a w g o v;have h2:=World.setCells_only g r (o+1) (w.setCell ⟨g,o,none⟩ v);exact⟨h2.os.trans h1.os,h2.tape.trans h1.tape,h2.output.trans h1.output,h2.size.trans h1.size,λi hi=>(h2.rest i hi).trans (h1.rest i hi)⟩
theorem Blk.setCells{g:Nat}{T:TypeId}:∀(vs:List Value) (o:Nat) (w:World) (cs:List Value),Blk w g T cs->o+vs.length<=cs.length->Blk (w.setCells g o vs) g T (cs.take o++(vs++cs.drop (o+vs.length)))
 | [],o,w,cs,h,_=>by
  show Blk w g T _
  rw[List.nil_append,List.length_nil,Nat.add_zero,List.take_append_drop];exact h
 | v::r,o,w,cs,h,hl=>by
  have hl':o+1+r.length<=cs.length:=by simp at hl;omega
  have h1:=h.set o v;have h2:=Blk.setCells r (o+1) _ _ h1 (by rw[List.length_set];exact hl');have e:(cs.set o v).take (o+1)++(r++(cs.set o v).drop (o+1+r.length))=cs.take o++((v::r)++cs.drop (o+(v::r).length)):=by
   have ho:o<cs.length:=by omega
   have e1:(cs.set o v).take (o+1)=cs.take o++[v]:=by rw[List.take_succ_eq_append_getElem (by rw[List.length_set];exact ho),List.take_set_of_le (Nat.le_refl o)];simp
   have e2:(cs.set o v).drop (o+1+r.length)=cs.drop (o+(v::r).length):=by
    rw[List.drop_set_of_lt (by omega),List.length_cons]
    congr 1
    omega
   rw[e1,e2];simp
  rw[e] at h2;exact h2
section
variable {P:Program} {ops:Array Oper} {rest:List Oper} {o:Oper} {a:Act} {w:World} {Q:Exit->Act->World->Prop}
theorem L1b{g:Nat}{T:TypeId}{cs:List Value}(h:Blk w g T cs)(i n:Nat)(hn:i+n<=cs.length):w.there g i n:=λj hj=>by
 refine⟨?_,h.frozen _⟩;rw[h.cell];have:i+j<cs.length:=by omega
 simp[this]
theorem k2a(hgd:o.guard=none)(ty:TypeId)(x y:Operand)(ho:o.op=.store ty x y)(g i:Nat)(hx:a.eval x=.pointer (some ⟨g,i,none⟩))(T:TypeId)(cs vs:List Value)(hy:a.eval y=.agg vs.toArray)
(hA:Hid (Blk w g T cs))(n:Nat)(hi:(P.info? ty).map (·.size)=some n)(hn:Hid (vs.length=n))(hl:Hid (i+n<=cs.length))(h1:Hid (∀v∈vs,v.oneCell'=true))
(h:∀w',Hid (Blk w' g T (cs.take i++(vs++cs.drop (i+n))))->Hid (p3a g w w')->g<w'.heap.size->wpList P ops Q rest a w')(hd:o.dst=none:=by rfl):wpList P ops Q (o::rest) a w:=by
 have hp:a.put o.dst undef=a:=by rw[hd];rfl
 have hnn:=hn.out;refine wpList_store_mid hgd ty x y ho g i vs.toArray hx hy (L1b hA.out i _ (by have:=hl.out;simp;omega)) (by rw[hi];simp[hnn]) (all_oneCell_toArray h1.out) ?_;rw[hp];have hb:=Blk.setCells vs i w cs hA.out (by have:=hl.out;omega);rw[hnn] at hb;have hO:=World.setCells_only g vs i w;refine h _ hb hO ?_;have:=hO.size;rw[show(w.setCells g i vs.toArray.toList)=w.setCells g i vs from rfl,this];exact hA.out.lt
theorem y1a{K:Act->World->Prop}{E:Prop}(hg:o.guard=none)(ty:TypeId)(x y:Operand)(ho:o.op=.store ty x y)(g i:Nat)(hx:a.eval x=.pointer (some ⟨g,i,none⟩))(T:TypeId)(cs vs:List Value)(hy:a.eval y=.agg vs.toArray)
(hA:Hid (Blk w g T cs))(n:Nat)(hi:(P.info? ty).map (·.size)=some n)(hn:Hid (vs.length=n))(hl:Hid (i+n<=cs.length))(h1:Hid (∀v∈vs,v.oneCell'=true))
(h:∀w',Hid (Blk w' g T (cs.take i++(vs++cs.drop (i+n))))->Hid (p3a g w w')->g<w'.heap.size->K (a.put o.dst undef) w') :
  if Region.wanted o (yielded ops a.tmps)=true then Oper.wp P o a w K Q else E:=by
 have hw:Region.wanted o (yielded ops a.tmps)=true:=by simp[Region.wanted,hg]
 rw[if_pos hw];have hnn:=hn.out;refine wp_store_mid ty x y ho g i vs.toArray hx hy (L1b hA.out i _ (by have:=hl.out;simp;omega)) (by rw[hi];simp[hnn]) (all_oneCell_toArray h1.out) ?_;have hb:=Blk.setCells vs i w cs hA.out (by have:=hl.out;omega);rw[hnn] at hb;have hO:=World.setCells_only g vs i w;refine h _ hb hO ?_;have:=hO.size;rw[show(w.setCells g i vs.toArray.toList)=w.setCells g i vs from rfl,this];exact hA.out.lt
theorem A0a{K:Act->World->Prop}{E:Prop}(hg:o.guard=none)(T:TypeId)(x y:Operand)(ho:o.op=.store T x y)(g i:Nat)(hx:a.eval x=.pointer (some ⟨g,i,none⟩))(T':TypeId)(cs:List Value)(u:Value)(hy:a.eval y=u)
(hA:Hid (Blk w g T' cs))(hi:Hid (i<cs.length))(hs:(P.info? T).map (·.size)=some 1)(h1:u.oneCell'=true)
(h:∀w',Hid (Blk w' g T' (cs.set i u))->Hid (p3a g w w')->g<w'.heap.size->K (a.put o.dst undef) w') :
  if Region.wanted o (yielded ops a.tmps)=true then Oper.wp P o a w K Q else E:=by
 have hw:Region.wanted o (yielded ops a.tmps)=true:=by simp[Region.wanted,hg]
 rw[if_pos hw];unfold Oper.wp execOp;simp only[ho,hx,hy,Instr.storeAt,Instr.sureAddr,Sem.run_bind,Sem.run_pure,Result.andThen_ok,T5a w g i T' T cs u hA.out hi.out hs h1];refine h _ (hA.out.set i u) (a3a w g i u) ?_;have:=(a3a w g i u).size;rw[this];exact hA.out.lt
end
theorem o0a{P:Program}{ops:Array Oper}{rest:List Oper}{o:Oper}{a:Act}{w:World}{Q:Exit->Act->World->Prop}(hw:Region.wanted o (yielded ops a.tmps)=true)(T:TypeId)(x:Operand)(ho:o.op=.load T x)(g:Nat)(hx:a.eval x=.pointer (some ⟨g,0,none⟩))(T':TypeId)(cs:List Value)
(hA:Hid (Blk w g T' cs))(n:Nat)(d:TypeDesc)(hu:P.underlying T=some d)(hd:(match d with | .struct _ | .array _ _=>true | _=>false)=true)(hi:(P.info? T).map (·.size)=some n)(hn:Hid (cs.length=n))
(h:wpList P ops Q rest (a.put o.dst (.agg cs.toArray)) w):wpList P ops Q (o::rest) a w:=
 wpList_step λK hK=>by rw[if_pos hw];exact wp_load_row T x ho g hx T' _ (0,0) d hA.out hu hd (by rw[hi];have:=hn.out;simp[this]) (hK _ _ h)
theorem F6b(s:ByteArray)(pos:Nat)(h:pos<s.size):(s.data.toList.drop pos).getD 0 0=s[pos]'h:=by have e:s.data[pos]? = some (s[pos]'h):=Array.getElem?_eq_getElem h;rw[List.getD_eq_getElem?_getD,List.getElem?_drop,Nat.add_zero,Array.getElem?_toList,e];rfl
theorem H7b(s:ByteArray)(pos:Nat)(h:pos<s.size) :
  ((Utf8.decode s pos).1=65533/\(Utf8.decode s pos).2=1/\d5a (s.data.toList.drop pos)=1114112+((s[pos]'h).toNat:Int))∨
  (¬((Utf8.decode s pos).1=65533/\(Utf8.decode s pos).2=1)/\d5a (s.data.toList.drop pos)=((Utf8.decode s pos).1:Int)/\p2a ((Utf8.decode s pos).1:Int)):=by
 have hl:s.data.toList.drop pos≠[]:=by intro e;have:=congrArg List.length e;rw[List.length_drop,<-Lib.size_eq] at this;simp at this;omega
 rcases F6a _ hl with⟨h0,h1,h2⟩ | ⟨h0,h1,h2,_⟩
 ·rw[Lib.decodeL_drop] at h0 h1 h2;exact .inr ⟨h0,h1,h2⟩
 ·rw[Lib.decodeL_drop] at h0 h1;rw[F6b s pos h] at h2;exact .inl ⟨h0,h1,h2⟩
def n2a(n:Int):Bool:=decide (0<=n)&&decide (n<=1114111)&&(decide (n<55296)||decide (57343<n))
theorem T3b(w:World)(n:Int)(_hn:-9223372036854775808<=n/\n<=9223372036854775807) :
  Calls Tryz.prog 191 #[.int .i64 n] w λe w'=>e=.returned (.bool (n2a n))/\w=w':=by
 by_cases h1:0<=n
 ·by_cases h2:n<=1114111
  ·by_cases h3:n<55296
   ·have e:n2a n=true:=by simp[n2a,h1,h2,h3]
    rw[e];clear e;go_enter Tryz.func191,Tryz.ntmps191;go_wp2;go_ret;exact⟨rfl,rfl⟩
   ·by_cases h4:57343<n
    ·have e:n2a n=true:=by simp[n2a,h1,h2,h4]
     rw[e];clear e;go_enter Tryz.func191,Tryz.ntmps191;go_wp2;go_ret;exact⟨rfl,rfl⟩
    ·have e:n2a n=false:=by simp[n2a,h3,h4]
     rw[e];clear e;go_enter Tryz.func191,Tryz.ntmps191;go_wp2;go_ret;exact⟨rfl,rfl⟩
  ·have e:n2a n=false:=by simp[n2a,h2]
   rw[e];clear e;go_enter Tryz.func191,Tryz.ntmps191;go_wp2;go_ret;exact⟨rfl,rfl⟩
 ·have e:n2a n=false:=by simp[n2a,h1]
  rw[e];clear e;go_enter Tryz.func191,Tryz.ntmps191;go_wp2;go_ret;exact⟨rfl,rfl⟩
def x4a(b:Int):Nat:=if b<128 then 1 else if b<192 then 0 else if b<224 then 2 else if b<240 then 3 else if b<248 then 4 else 0
def A9a(b:Int):Int:=if b<128 then b else if b<192 then 0 else if b<224 then b-192 else if b<240 then b-224 else if b<248 then b-240 else 0
def k7a(b:Int):Int:=if b<128 then 0 else if b<192 then 0 else if b<224 then 128 else if b<240 then 2048 else if b<248 then 65536 else 0
theorem G6b(w:World)(b:Int)(hb:0<=b/\b<=255) :
  Calls Tryz.prog 190 #[.int .u8 b] w λe w'=>e=.returned (.tuple #[.int .i64 (x4a b),.int .i64 (A9a b),.int .i64 (k7a b)])/\w=w':=by
 obtain⟨hb0,hb1⟩:=hb;unfold x4a A9a k7a;by_cases h1:b<128
 ·rw[if_pos h1,if_pos h1,if_pos h1];go_enter Tryz.func190,Tryz.ntmps190;go_wp2;go_ret3;exact⟨rfl,rfl⟩
 rw[if_neg h1,if_neg h1,if_neg h1];by_cases h2:b<192
 ·rw[if_pos h2,if_pos h2,if_pos h2];go_enter Tryz.func190,Tryz.ntmps190;go_wp2;go_ret3;exact⟨rfl,rfl⟩
 rw[if_neg h2,if_neg h2,if_neg h2];by_cases h3:b<224
 ·rw[if_pos h3,if_pos h3,if_pos h3];go_enter Tryz.func190,Tryz.ntmps190;go_wp2;go_ret3;exact⟨rfl,rfl⟩
 rw[if_neg h3,if_neg h3,if_neg h3];by_cases h4:b<240
 ·rw[if_pos h4,if_pos h4,if_pos h4];go_enter Tryz.func190,Tryz.ntmps190;go_wp2;go_ret3;exact⟨rfl,rfl⟩
 rw[if_neg h4,if_neg h4,if_neg h4];by_cases h5:b<248
 ·rw[if_pos h5,if_pos h5,if_pos h5];go_enter Tryz.func190,Tryz.ntmps190;go_wp2;go_ret3;exact⟨rfl,rfl⟩
 ·rw[if_neg h5,if_neg h5,if_neg h5];go_enter Tryz.func190,Tryz.ntmps190;go_wp2;go_ret3;exact⟨rfl,rfl⟩
def gB(l:List UInt8)(i:Nat):Int:=((l.getD i 0).toNat:Int)
def Y6a(l:List UInt8):Nat->Int
 | 0=>A9a (gB l 0)
 | k+1=>64*Y6a l k+gB l (k+1)-128
def y4a(x:Int):Bool:=decide (128<=x)&&decide (x<192)
def x2a(l:List UInt8):Nat->Bool
 | 0=>true
 | k+1=>x2a l k&&y4a (gB l (k+1))
def S2a(l:List UInt8):Int×Nat:=
 if x4a (gB l 0)=0∨l.length<x4a (gB l 0) then (0,0)
 else if x2a l (x4a (gB l 0)-1)=false then (0,0)
 else if Y6a l (x4a (gB l 0)-1)<k7a (gB l 0)∨n2a (Y6a l (x4a (gB l 0)-1))=false then (0,0)
 else (Y6a l (x4a (gB l 0)-1),x4a (gB l 0))
theorem B9a(l:List UInt8)(i:Nat):0<=gB l i/\gB l i<=255:=by have:=(l.getD i 0).toNat_lt;unfold gB;omega
theorem H6b(b:Int):x4a b<=4:=by
 unfold x4a;repeat' split
 all_goals omega
theorem s8a{b:Int}(h:0<=b/\b<=255):0<=A9a b/\A9a b<=127:=by unfold A9a;repeat' split<;>omega
theorem M1b(b:Int):0<=k7a b/\k7a b<=65536:=by unfold k7a;repeat' split<;>omega
theorem e2a(x:Int):y4a x=true↔128<=x/\x<192:=by simp[y4a]
theorem M2b(l:List UInt8){k:Nat}(h:x2a l k=false):∀j,k<=j->x2a l j=false:=by
 intro j hj
 induction j with
 | zero=>
  obtain rfl:k=0:=by omega
  exact h
 | succ j ih=>
  by_cases e:k=j+1
  ·rw[<-e];exact h
  ·rw[x2a,ih (by omega)];rfl
theorem N2b(l:List UInt8)(k:Nat)(hk:k<=3)(hc:x2a l k=true):0<=Y6a l k/\Y6a l k<=67108864:=by
 have h0:=s8a (B9a l 0);have hcase:k=0∨k=1∨k=2∨k=3:=by omega
 rcases hcase with rfl | rfl | rfl | rfl
 ·simp only[Y6a];omega
 ·simp only[x2a,Bool.and_eq_true,e2a,true_and] at hc;simp only[Y6a];omega
 ·simp only[x2a,Bool.and_eq_true,e2a,true_and] at hc;simp only[Y6a];omega
 ·simp only[x2a,Bool.and_eq_true,e2a,true_and] at hc;simp only[Y6a];omega
theorem K4a(n:Int):n2a n=true↔p2a n:=by unfold n2a p2a;simp only[Bool.and_eq_true,Bool.or_eq_true,decide_eq_true_eq];omega
theorem J7a(n:Int):n2a n=false↔¬p2a n:=by rw[<-K4a];simp
def pick(d:Nat×Nat):Int×Nat:=if d.1=65533/\d.2=1 then (0,0) else ((d.1:Int),d.2)
theorem h5a:pick (65533,1)=(0,0):=rfl
theorem X0b(x w:Nat)(h:¬(x=65533/\w=1)):pick (x,w)=((x:Int),w):=if_neg h
theorem Z4b(l:List UInt8):(if (Lib.decodeL l).1=65533/\(Lib.decodeL l).2=1 then ((0:Int),0) else (d5a l,(Lib.decodeL l).2))=pick (Lib.decodeL l):=by
 unfold pick;by_cases c:(Lib.decodeL l).1=65533/\(Lib.decodeL l).2=1
 ·rw[if_pos c,if_pos c]
 ·rw[if_neg c,if_neg c];unfold d5a;rw[if_neg c]
theorem N1b(l:List UInt8)(hne:l≠[]) :
  S2a l=if (Lib.decodeL l).1=65533/\(Lib.decodeL l).2=1 then (0,0) else (d5a l,(Lib.decodeL l).2):=by
 have hl:0<l.length:=List.length_pos_iff.2 hne;have k0:=(l.getD 0 0).toNat_lt;have k1:=(l.getD 1 0).toNat_lt;have k2:=(l.getD 2 0).toNat_lt;have k3:=(l.getD 3 0).toNat_lt;rw[Z4b,Lib.decodeL_N];have g0:gB l 0=((l.getD 0 0).toNat:Int):=rfl;have g1:gB l 1=((l.getD 1 0).toNat:Int):=rfl;have g2:gB l 2=((l.getD 2 0).toNat:Int):=rfl;have g3:gB l 3=((l.getD 3 0).toNat:Int):=rfl;unfold S2a;generalize (l.getD 0 0).toNat=b0 at *;generalize (l.getD 1 0).toNat=b1 at *;generalize (l.getD 2 0).toNat=b2 at *;generalize (l.getD 3 0).toNat=b3 at *;generalize l.length=n at *;by_cases c1:b0<128
 ·have e1:x4a (gB l 0)=1:=by rw[g0];unfold x4a;rw[if_pos (by omega)]
  have e2:k7a (gB l 0)=0:=by rw[g0];unfold k7a;rw[if_pos (by omega)]
  have e3:Y6a l 0=b0:=by rw[Y6a,g0];unfold A9a;rw[if_pos (by omega)]
  have e4:n2a (b0:Int)=true:=by rw[K4a];exact⟨by omega,by omega,by omega⟩
  rw[Lib.decodeN_ascii _ _ _ _ _ c1,X0b _ _ (by omega),e1,e2,Nat.sub_self,if_neg (by omega),x2a,if_neg (by decide),e3,e4,if_neg (by simp)]
 by_cases c2:b0<192
 ·have e1:x4a (gB l 0)=0:=by rw[g0];unfold x4a;rw[if_neg (by omega),if_pos (by omega)]
  have hd:Lib.decodeN n b0 b1 b2 b3=(65533,1):=by unfold Lib.decodeN;rw[if_neg c1,if_neg (by omega),if_neg (by omega),if_neg (by omega)]
  rw[hd,h5a,if_pos (.inl e1)]
 by_cases c3:b0<224
 ·have e1:x4a (gB l 0)=2:=by rw[g0];unfold x4a;rw[if_neg (by omega),if_neg (by omega),if_pos (by omega)]
  have e2:k7a (gB l 0)=128:=by rw[g0];unfold k7a;rw[if_neg (by omega),if_neg (by omega),if_pos (by omega)]
  have e3:Y6a l 1=64*(b0-192)+b1-128:=by rw[Y6a,Y6a,g0,g1];unfold A9a;rw[if_neg (by omega),if_neg (by omega),if_pos (by omega)]
  have e4:x2a l 1=y4a (gB l 1):=by rw[x2a,x2a,Bool.true_and]
  by_cases d1:1<n/\b1/64=2
  ·have f1:y4a (b1:Int)=true:=by rw[e2a];omega
   by_cases d2:b0%32*64+b1%64≥128
   ·have hd:Lib.decodeN n b0 b1 b2 b3=(b0%32*64+b1%64,2):=by unfold Lib.decodeN;rw[if_neg c1,if_pos ⟨by omega,d1⟩,if_pos d2]
    have e5:n2a (64*((b0:Int)-192)+b1-128)=true:=by rw[K4a];exact⟨by omega,by omega,by omega⟩
    rw[hd,X0b _ _ (by omega),e1,e2,show 2-1=1 from rfl,e3,e4,g1,f1,e5,if_neg (by omega),if_neg (by decide),if_neg (by simp;omega)];exact Prod.ext (by dsimp only;omega) rfl
   ·have hd:Lib.decodeN n b0 b1 b2 b3=(65533,1):=by unfold Lib.decodeN;rw[if_neg c1,if_pos ⟨by omega,d1⟩,if_neg d2]
    rw[hd,h5a,e1,e2,show 2-1=1 from rfl,e3,e4,g1,f1,if_neg (by omega),if_neg (by decide),if_pos (.inl (by omega))]
  ·have hd:Lib.decodeN n b0 b1 b2 b3=(65533,1):=by unfold Lib.decodeN;rw[if_neg c1,if_neg (λh=>d1 h.2),if_neg (by omega),if_neg (by omega)]
   rw[hd,h5a,e1,show 2-1=1 from rfl,e4,g1];by_cases d2:n<2
   ·rw[if_pos (.inr d2)]
   ·have f1:y4a (b1:Int)=false:=by rw[Bool.eq_false_iff,Ne,e2a];omega
    rw[if_neg (by omega),f1,if_pos rfl]
 by_cases c4:b0<240
 ·have e1:x4a (gB l 0)=3:=by rw[g0];unfold x4a;rw[if_neg (by omega),if_neg (by omega),if_neg (by omega),if_pos (by omega)]
  have e2:k7a (gB l 0)=2048:=by rw[g0];unfold k7a;rw[if_neg (by omega),if_neg (by omega),if_neg (by omega),if_pos (by omega)]
  have e3:Y6a l 2=64*(64*(b0-224)+b1-128)+b2-128:=by rw[Y6a,Y6a,Y6a,g0,g1,g2];unfold A9a;rw[if_neg (by omega),if_neg (by omega),if_neg (by omega),if_pos (by omega)]
  have e4:x2a l 2=(y4a (gB l 1)&&y4a (gB l 2)):=by rw[x2a,x2a,x2a,Bool.true_and]
  by_cases d1:(1<n/\b1/64=2)/\(2<n/\b2/64=2)
  ·have f1:y4a (b1:Int)=true:=by rw[e2a];omega
   have f2:y4a (b2:Int)=true:=by rw[e2a];omega
   by_cases d2:b0%16*4096+b1%64*64+b2%64≥2048/\(b0%16*4096+b1%64*64+b2%64<55296∨(57344<=b0%16*4096+b1%64*64+b2%64/\b0%16*4096+b1%64*64+b2%64<=1114111))
   ·have hd:Lib.decodeN n b0 b1 b2 b3=(b0%16*4096+b1%64*64+b2%64,3):=by unfold Lib.decodeN;rw[if_neg c1,if_neg (by omega),if_pos ⟨by omega,d1⟩,if_pos d2]
    have e5:n2a (64*(64*((b0:Int)-224)+b1-128)+b2-128)=true:=by rw[K4a];exact⟨by omega,by omega,by omega⟩
    rw[hd,X0b _ _ (by omega),e1,e2,show 3-1=2 from rfl,e3,e4,g1,g2,f1,f2,e5,if_neg (by omega),if_neg (by decide),if_neg (by simp;omega)];exact Prod.ext (by dsimp only;omega) rfl
   ·have hd:Lib.decodeN n b0 b1 b2 b3=(65533,1):=by unfold Lib.decodeN;rw[if_neg c1,if_neg (by omega),if_pos ⟨by omega,d1⟩,if_neg d2]
    rw[hd,h5a,e1,e2,show 3-1=2 from rfl,e3,e4,g1,g2,f1,f2,if_neg (by omega),if_neg (by decide),if_pos];rw[J7a];unfold p2a;omega
  ·have hd:Lib.decodeN n b0 b1 b2 b3=(65533,1):=by unfold Lib.decodeN;rw[if_neg c1,if_neg (by omega),if_neg (λh=>d1 h.2),if_neg (by omega)]
   rw[hd,h5a,e1,show 3-1=2 from rfl,e4,g1,g2];by_cases d2:n<3
   ·rw[if_pos (.inr d2)]
   ·have f1:(y4a (b1:Int)&&y4a (b2:Int))=false:=by rw[Bool.eq_false_iff,Ne,Bool.and_eq_true,e2a,e2a];omega
    rw[if_neg (by omega),f1,if_pos rfl]
 by_cases c5:b0<248
 ·have e1:x4a (gB l 0)=4:=by rw[g0];unfold x4a;rw[if_neg (by omega),if_neg (by omega),if_neg (by omega),if_neg (by omega),if_pos (by omega)]
  have e2:k7a (gB l 0)=65536:=by rw[g0];unfold k7a;rw[if_neg (by omega),if_neg (by omega),if_neg (by omega),if_neg (by omega),if_pos (by omega)]
  have e3:Y6a l 3=64*(64*(64*(b0-240)+b1-128)+b2-128)+b3-128:=by rw[Y6a,Y6a,Y6a,Y6a,g0,g1,g2,g3];unfold A9a;rw[if_neg (by omega),if_neg (by omega),if_neg (by omega),if_neg (by omega),if_pos (by omega)]
  have e4:x2a l 3=(y4a (gB l 1)&&y4a (gB l 2)&&y4a (gB l 3)):=by rw[x2a,x2a,x2a,x2a,Bool.true_and]
  by_cases d1:(1<n/\b1/64=2)/\(2<n/\b2/64=2)/\(3<n/\b3/64=2)
  ·have f1:y4a (b1:Int)=true:=by rw[e2a];omega
   have f2:y4a (b2:Int)=true:=by rw[e2a];omega
   have f3:y4a (b3:Int)=true:=by rw[e2a];omega
   by_cases d2:b0%8*262144+b1%64*4096+b2%64*64+b3%64≥65536/\(b0%8*262144+b1%64*4096+b2%64*64+b3%64<55296∨(57344<=b0%8*262144+b1%64*4096+b2%64*64+b3%64/\b0%8*262144+b1%64*4096+b2%64*64+b3%64<=1114111))
   ·have hd:Lib.decodeN n b0 b1 b2 b3=(b0%8*262144+b1%64*4096+b2%64*64+b3%64,4):=by unfold Lib.decodeN;rw[if_neg c1,if_neg (by omega),if_neg (by omega),if_pos ⟨by omega,d1⟩,if_pos d2]
    have e5:n2a (64*(64*(64*((b0:Int)-240)+b1-128)+b2-128)+b3-128)=true:=by rw[K4a];exact⟨by omega,by omega,by omega⟩
    rw[hd,X0b _ _ (by omega),e1,e2,show 4-1=3 from rfl,e3,e4,g1,g2,g3,f1,f2,f3,e5,if_neg (by omega),if_neg (by decide),if_neg (by simp;omega)];exact Prod.ext (by dsimp only;omega) rfl
   ·have hd:Lib.decodeN n b0 b1 b2 b3=(65533,1):=by unfold Lib.decodeN;rw[if_neg c1,if_neg (by omega),if_neg (by omega),if_pos ⟨by omega,d1⟩,if_neg d2]
    rw[hd,h5a,e1,e2,show 4-1=3 from rfl,e3,e4,g1,g2,g3,f1,f2,f3,if_neg (by omega),if_neg (by decide),if_pos];rw[J7a];unfold p2a;omega
  ·have hd:Lib.decodeN n b0 b1 b2 b3=(65533,1):=by unfold Lib.decodeN;rw[if_neg c1,if_neg (by omega),if_neg (by omega),if_neg (λh=>d1 h.2)]
   rw[hd,h5a,e1,show 4-1=3 from rfl,e4,g1,g2,g3];by_cases d2:n<4
   ·rw[if_pos (.inr d2)]
   ·have f1:(y4a (b1:Int)&&y4a (b2:Int)&&y4a (b3:Int))=false:=by rw[Bool.eq_false_iff,Ne,Bool.and_eq_true,Bool.and_eq_true,e2a,e2a,e2a];omega
    rw[if_neg (by omega),f1,if_pos rfl]
 ·have e1:x4a (gB l 0)=0:=by rw[g0];unfold x4a;rw[if_neg (by omega),if_neg (by omega),if_neg (by omega),if_neg (by omega),if_neg (by omega)]
  have hd:Lib.decodeN n b0 b1 b2 b3=(65533,1):=by unfold Lib.decodeN;rw[if_neg c1,if_neg (by omega),if_neg (by omega),if_neg (by omega)]
  rw[hd,h5a,if_pos (.inl e1)]
theorem a5b(s:ByteArray)(pos i:Nat)(h:pos+i<s.size):gB (s.data.toList.drop pos) i=((s[pos+i]'h).toNat:Int):=by unfold gB;have e:s.data[pos+i]? = some (s[pos+i]'h):=Array.getElem?_eq_getElem h;rw[List.getD_eq_getElem?_getD,List.getElem?_drop,Array.getElem?_toList,e];rfl
theorem b5b(s:ByteArray)(pos:Nat)(w:World)(hp:pos<s.size)(hs:s.size<=4398046511104) :
  Calls Tryz.prog 183 #[.string s,.int .i64 pos] w λe w'=>e=.returned (.tuple #[.int .i64 (S2a (s.data.toList.drop pos)).1,.int .i64 (S2a (s.data.toList.drop pos)).2])/\w=w':=by
 obtain⟨l,hl⟩:∃l,l=s.data.toList.drop pos:=⟨_,rfl⟩;have hll:l.length=s.size-pos:=by rw[hl,List.length_drop,<-Lib.size_eq]
 have hb0:=B9a l 0;have hg0:gB (s.data.toList.drop pos) 0=((s[pos]'hp).toNat:Int):=a5b s pos 0 (by omega);have hge:∀i,(h:pos+i<s.size)->gB l i=((s[pos+i]'h).toNat:Int):=λi h=>by rw[hl];exact a5b s pos i h
 have hq:∀r:Int×Nat,S2a l=r->∀(e:Ending) (w':World),(e=.returned (.tuple #[.int .i64 r.1,.int .i64 r.2])/\w=w')->(e=.returned (.tuple #[.int .i64 (S2a l).1,.int .i64 (S2a l).2])/\w=w'):=λr hr e w' h=>by rw[hr];exact h
 rw[<-hl];rw[<-hl] at hg0;have HQ:=hI hq;have c1:=G6b w (gB l 0) hb0;have hN4:=H6b (gB l 0);have hL:=M1b (gB l 0);have hV:=s8a hb0;have hf:∀r,S2a l=r↔S2a l=r:=λ_=>Iff.rfl
 unfold S2a at hf;obtain⟨N,hN⟩:∃N,N=x4a (gB l 0):=⟨_,rfl⟩;obtain⟨M,hM⟩:∃M,M=k7a (gB l 0):=⟨_,rfl⟩;obtain⟨V,hVV⟩:∃V,V=A9a (gB l 0):=⟨_,rfl⟩;rw[<-hN,<-hM,<-hVV] at c1;rw[<-hN] at hN4;rw[<-hM] at hL;rw[<-hVV] at hV;rw[hg0] at c1;obtain⟨hL0,hL1⟩:=hL;obtain⟨hV0,hV1⟩:=hV;have C1:=hI c1;have HN:=hI hN;have HM:=hI hM;have HV:=hI hVV;have HG:=hI hge;have HLL:=hI hll;have hf0:(N=0∨l.length<N)->S2a l=(0,0):=λh=>by unfold S2a;rw[<-HN.out,if_pos h]
 have hf1:¬(N=0∨l.length<N)->x2a l (N-1)=false->S2a l=(0,0):=λh h1=>by unfold S2a;rw[<-HN.out,if_neg h,if_pos h1]
 have hf2:¬(N=0∨l.length<N)->x2a l (N-1)=true->(Y6a l (N-1)<M∨n2a (Y6a l (N-1))=false)->S2a l=(0,0):=λh h1 h2=>by unfold S2a;rw[<-HN.out,<-HM.out,if_neg h,if_neg (by rw[h1];decide),if_pos h2]
 have hf3:¬(N=0∨l.length<N)->x2a l (N-1)=true->¬(Y6a l (N-1)<M∨n2a (Y6a l (N-1))=false)->S2a l=(Y6a l (N-1),N):=λh h1 h2=>by unfold S2a;rw[<-HN.out,<-HM.out,if_neg h,if_neg (by rw[h1];decide),if_neg h2]
 have HF0:=hI hf0;have HF1:=hI hf1;have HF2:=hI hf2;have HF3:=hI hf3;clear hl hb0 hg0 hge hq c1 hf hN hM hVV hll hf0 hf1 hf2 hf3;by_cases h0:N=0
 ·have HE:=hI (HF0.out (.inl h0));subst h0;go_enter Tryz.func183,Tryz.ntmps183;go_wp2_with fail;refine C1.out.mono ?_;rintro e w' ⟨rfl,rfl⟩;go_wp2;go_ret2;exact HQ.out _ HE.out _ _ ⟨rfl,rfl⟩
 have h0b:((N:Int)==0)=false:=by rw[beq_eq_false_iff_ne];omega
 by_cases hlen:s.size<pos+N
 ·have HE:=hI (HF0.out (.inr (by rw[HLL.out];omega)));go_enter Tryz.func183,Tryz.ntmps183;go_wp2_with fail;refine C1.out.mono ?_;rintro e w' ⟨rfl,rfl⟩;go_wp2;go_ret2;exact HQ.out _ HE.out _ _ ⟨rfl,rfl⟩
 have HNN:Hid (¬(N=0∨l.length<N)):=by show ¬_;rw[HLL.out];omega
 have cL:=λw n h=>hI (T3b w n h)
 go_enter Tryz.func183,Tryz.ntmps183;go_wp2_with fail;refine C1.out.mono ?_;rintro e w' ⟨rfl,rfl⟩;clear C1;go_wp2;go_loop [7,9,10] (λn i _=>∃k:Nat,i=.int .i64 (k+1:Nat)/\k+1<=N/\Hid (x2a l k=true)/\∃z:Int,n=.int .i64 z/\Hid (z=Y6a l k)) (λ_ i _=>N-(intOf i).toNat)
 case atStart=>exact⟨0,rfl,by omega,rfl,V,rfl,HV.out⟩
 case round=>
  obtain⟨k,rfl,hk,HC,z,rfl,HZ⟩:=hrel;have hzb:=N2b l k (by omega) HC.out;rw[<-HZ.out] at hzb;obtain⟨hz0,hz1⟩:=hzb;by_cases hlt:k+1<N
  ·have hi:pos+(k+1)<s.size:=by omega
   have hx:=HG.out (k+1) hi;have hxb:=B9a l (k+1);obtain⟨x,hxx⟩:∃x,x=gB l (k+1):=⟨_,rfl⟩;rw[<-hxx] at hx hxb;have HX:=hI hxx;have hxv:((s[pos+(k+1)]'hi).toNat:Int)=x:=hx.symm;have hmc:=λh=>M2b l (k:=k+1) h (N-1) (by omega)
   have hcs:x2a l (k+1)=(x2a l k&&y4a (gB l (k+1))):=rfl;rw[HC.out,Bool.true_and,<-HX.out] at hcs;obtain⟨hx0,hx1⟩:=hxb;by_cases hb1:x<128
   ·have HE:=hI (HF1.out HNN.out (hmc (by rw[hcs];simp[y4a];omega)));clear hxx hmc hcs hx;go_wp2;go_ret2;exact HQ.out _ HE.out _ _ ⟨rfl,rfl⟩
   by_cases hb2:192<=x
   ·have HE:=hI (HF1.out HNN.out (hmc (by rw[hcs];simp[y4a];omega)));clear hxx hmc hcs hx;go_wp2;go_ret2;exact HQ.out _ HE.out _ _ ⟨rfl,rfl⟩
   ·have HC':Hid (x2a l (k+1)=true):=by show _=_;rw[hcs,e2a];omega
    have HZ':Hid (64*z+x-128=Y6a l (k+1)):=by show _=_;rw[Y6a,<-HX.out,<-HZ.out]
    clear hxx hmc hcs hx;go_wp2;go_round
    case rel=>exact⟨k+1,by go_num,hlt,HC',_,by go_num,HZ'⟩
    case measure=>simp[intOf];omega
  ·obtain rfl:N=k+1:=by omega
   rw[Nat.add_sub_cancel] at HF1 HF2 HF3;by_cases hm:z<M
   ·have HE:=hI (HF2.out HNN.out HC.out (.inl (by rw[<-HZ.out];exact hm)));go_wp2;go_ret2;exact HQ.out _ HE.out _ _ ⟨rfl,rfl⟩
   ·by_cases hlb:n2a z=true
    ·have HE:=hI (HF3.out HNN.out HC.out (by rw[<-HZ.out,hlb];simp;omega));have c2:=(cL w z (by omega)).out;rw[hlb] at c2;have C2:=hI c2;clear c2 cL hlb;go_wp2_with fail;refine C2.out.mono ?_;rintro e w' ⟨rfl,rfl⟩;go_wp2;go_ret2;exact HQ.out _ HE.out _ _ ⟨by rw[HZ.out];rfl,rfl⟩
    ·have hlb':n2a z=false:=by simpa using hlb
     have HE:=hI (HF2.out HNN.out HC.out (.inr (by rw[<-HZ.out];exact hlb')));have c2:=(cL w z (by omega)).out;rw[hlb'] at c2;have C2:=hI c2;clear c2 cL hlb hlb';go_wp2_with fail;refine C2.out.mono ?_;rintro e w' ⟨rfl,rfl⟩;go_wp2;go_ret2;exact HQ.out _ HE.out _ _ ⟨rfl,rfl⟩
def I5a(w:World)(l:List UInt8)(e:Ending)(w':World):Prop:=∃v,e=.returned (.tuple #[v,.bool (w2a l)])/\X2a .i64 3 w' w.heap.size v (q1a l)/\Below w.heap.size w w'
theorem O2b(s:ByteArray)(w:World)(hs:s.size<=4398046511104) :
  Calls Tryz.prog 175 #[.string s] w (I5a w s.data.toList):=by
 have hq:∀b,w2a s.data.toList=b->∀(e:Ending) (w':World),(∃v,e=.returned (.tuple #[v,.bool b])/\X2a .i64 3 w' w.heap.size v (q1a s.data.toList)/\Below w.heap.size w w')->I5a w s.data.toList e w':=λb hb e w' h=>by unfold I5a;rw[hb];exact h
 have HQ:=hI hq;have HS:=hI (Lib.size_eq s);clear hq;go_enter Tryz.func175,Tryz.ntmps175;go_wp2;go_loopw [4,5,6,7,8] (λv b i _ _ wr=>∃(pos:Nat) (zs:List Int) (t:Bool),i=.int .i64 pos/\b=.bool t/\Hid (X2a .i64 3 wr w.heap.size v zs)/\Below w.heap.size w wr/\Hid (zs++q1a (s.data.toList.drop pos)=q1a s.data.toList)/\Hid ((t&&w2a (s.data.toList.drop pos))=w2a s.data.toList)/\zs.length<=pos/\pos<=s.size) (λ_ _ i _ _ _=>s.size-(intOf i).toNat)
 case atStart=>
  refine⟨0,[],true,rfl,rfl,X2a.nil _ _ _ _,Below.refl _ _,?_,?_,by simp,by omega⟩
  ·show _=_;rw[List.drop_zero,List.nil_append]
  ·show _=_;rw[List.drop_zero,Bool.true_and]
 case round=>
  obtain⟨pos,zs,t,rfl,rfl,HO,hb,HE,HT,hzl,hps⟩:=hrel;have hbs:=hb.size;by_cases hp:pos<s.size
  ·have hne:s.data.toList.drop pos≠[]:=by intro e;have:=congrArg List.length e;rw[List.length_drop,<-HS.out] at this;simp at this;omega
   obtain⟨n1,n2,n3⟩:=L0b s pos hp;have hfd:=N1b _ hne;have hts:=c7a _ hne;rw[Lib.decodeL_drop] at hfd hts;rw[List.drop_drop] at hts;have c1:=b5b s pos wr hp hs;have hh:=H7b s pos hp;obtain⟨h,hh0⟩:∃h,h=d5a (s.data.toList.drop pos):=⟨_,rfl⟩;rw[<-hh0] at n1 hfd hts hh;obtain⟨Z,hZ⟩:∃Z,Z=(Utf8.decode s pos).2:=⟨_,rfl⟩;rw[<-hZ] at n1 n2 n3 hfd hts hh;rcases hh with⟨h1,h2,h3⟩ | ⟨h1,h2,h3⟩
   ·rw[if_pos ⟨h1,h2⟩] at hfd;rw[hfd] at c1;have C1:=hI c1;subst h2;have HN:Hid (zs++[1114112+((s[pos]'hp).toNat:Int)]++q1a (s.data.toList.drop (pos+1))=q1a s.data.toList):=by
     show _=_
     rw[<-HE.out,n1,h3];simp
    have HT':Hid ((false&&w2a (s.data.toList.drop (pos+1)))=w2a s.data.toList):=by
     show _=_
     rw[<-HT.out,hts,h3,decide_eq_false (by omega)];simp
    have hbyte:0<=((s[pos]'hp).toNat:Int)/\((s[pos]'hp).toNat:Int)<=255:=by have:=(s[pos]'hp).toNat_lt;omega
    obtain⟨hy0,hy1⟩:=hbyte;clear hne hfd hts c1 hh0 hZ n1 h1 h3 HE HT;go_wp2_with fail;refine C1.out.mono ?_;rintro e w' ⟨rfl,rfl⟩;go_wp2_with(at_builtin;go_loud (refine t5a rfl (.tmp 21) (.tmp 27) .i64 199 3 8 Tryz.underlying199 o3b rfl w.heap.size _ zs [1114112+((s[pos]'hp).toNat:Int)] _ rfl 1 1 rfl rfl rfl HO.out (by omega) (by omega) hbs ?_;intro v5 w5 ho5 hg5));have hb5:=hg5.out.below HO.out hbs;clear hg5;go_roundw
    case rel=>exact⟨pos+1,_,false,by go_num,rfl,ho5,hb.trans hb5,HN,HT',by simp;omega,by omega⟩
    case measure=>simp[intOf];omega
   ·rw[if_neg h1] at hfd;rw[hfd] at c1;have C1:=hI c1;have HN:Hid (zs++[h]++q1a (s.data.toList.drop (pos+Z))=q1a s.data.toList):=by
     show _=_
     rw[<-HE.out,n1];simp
    have HT':Hid ((t&&w2a (s.data.toList.drop (pos+Z)))=w2a s.data.toList):=by
     show _=_
     have:=h3.2.1;rw[<-HT.out,hts,h2,decide_eq_true (by omega),Bool.true_and]
    have hZb:((Z:Int)==0)=false:=by rw[beq_eq_false_iff_ne];omega
    have hbd:0<=h/\h<=1114111:=by rw[h2];exact⟨h3.1,h3.2.1⟩
    obtain⟨hy0,hy1⟩:=hbd;clear hne hfd hts c1 hh0 hZ n1 h1 h2 h3 HE HT;go_wp2_with fail;refine C1.out.mono ?_;rintro e w' ⟨rfl,rfl⟩;go_wp2_with(at_builtin;go_loud (refine t5a rfl (.tmp 31) (.tmp 33) .i64 199 3 8 Tryz.underlying199 o3b rfl w.heap.size _ zs [h] _ rfl 1 1 rfl rfl rfl HO.out (by omega) (by omega) hbs ?_;intro v5 w5 ho5 hg5));have hb5:=hg5.out.below HO.out hbs;clear hg5;go_roundw
    case rel=>exact⟨pos+Z,_,t,by go_num,rfl,ho5,hb.trans hb5,HN,HT',by simp;omega,n3⟩
    case measure=>simp[intOf];omega
  ·obtain rfl:pos=s.size:=by omega
   have HEE:Hid (zs=q1a s.data.toList):=by have:=HE.out;rw[M0b s _ hp,List.append_nil] at this;exact this
   have HTT:Hid (w2a s.data.toList=t):=by
    show _=_
    rw[<-HT.out,List.drop_of_length_le (by rw[<-HS.out];omega),I3b,Bool.and_true]
   clear HE HT;go_wp2;go_ret2;refine HQ.out t HTT.out _ _ ⟨_,rfl,?_,hb⟩;rw[<-HEE.out];exact HO.out
def a4a(r:Int):List Int:=if r<65536 then [r] else [55296+(r-65536)/1024,56320+(r-65536)%1024]
def N3a(u:Int):List Int:=[u%256,u/256]
theorem Y0b(r:Int):G3a r=(a4a r).flatMap N3a:=by unfold G3a a4a N3a;split<;>rfl
theorem C9a{r:Int}(h:p2a r):∀u∈a4a r,0<=u/\u<=65535:=by
 obtain⟨h0,h1,_⟩:=h;intro u hu;unfold a4a at hu;split at hu
 ·simp at hu;omega
 ·simp at hu;omega
theorem q6a(us:List Int):(us.flatMap N3a).length=2*us.length:=by
 induction us with
 | nil=>rfl
 | cons a q ih=>
  rw[List.flatMap_cons,List.length_append,ih,List.length_cons];show 2+_=_
  omega
theorem D9a(r:Int):(a4a r).length<=2:=by unfold a4a;split<;>simp
theorem c5b(w:World)(r:Int)(hr:p2a r) :
  Calls Tryz.prog 176 #[.int .i64 r] w λe w'=>∃v,e=.returned v/\X2a .i64 3 w' w.heap.size v (a4a r)/\Below w.heap.size w w':=by
 obtain⟨r0,r1,_⟩:=hr;unfold a4a;by_cases h:r<65536
 ·rw[if_pos h];have hO:=hI (X2a.lit .i64 3 w [r] #[.int .i64 r] 1 rfl rfl (by decide));go_enter Tryz.func176,Tryz.ntmps176;go_wp2;go_ret;exact⟨_,rfl,hO.out,(Below.refl _ _).alloc (Nat.le_refl _) _⟩
 ·rw[if_neg h];have hO:=hI (X2a.lit .i64 3 w [55296+(r-65536)/1024,56320+(r-65536)%1024] #[.int .i64 (55296+(r-65536)/1024),.int .i64 (56320+(r-65536)%1024)] 2 rfl rfl (by decide));have q1:(r-65536).tdiv 1024=(r-65536)/1024:=Int.tdiv_eq_ediv_of_nonneg (by omega);have q2:(r-65536).tmod 1024=(r-65536)%1024:=Int.tmod_eq_emod_of_nonneg (by omega);go_enter Tryz.func176,Tryz.ntmps176;go_wp2;go_ret;exact⟨_,rfl,hO.out,(Below.refl _ _).alloc (Nat.le_refl _) _⟩
def E9a(w:World)(l:List UInt8)(e:Ending)(w':World):Prop:=∃v,e=.returned (.tuple #[v,.int .i64 (s2a l)])/\X2a .u8 5 w' w.heap.size v (R1a l)/\Below w.heap.size w w'
theorem d5b(s:ByteArray)(w:World)(hs:s.size<=4398046511104) :
  Calls Tryz.prog 157 #[.string s] w (E9a w s.data.toList):=by
 have hq:∀(e:Ending) (w':World),(∃v,e=.returned (.tuple #[v,.int .i64 (s2a s.data.toList)])/\X2a .u8 5 w' w.heap.size v (R1a s.data.toList)/\Below w.heap.size w w')->E9a w s.data.toList e w':=λ_ _ h=>h
 have c1:=O2b s w hs;unfold I5a at c1;by_cases ht:w2a s.data.toList=true
 ·have e2:s2a s.data.toList=0:=if_pos ht;have e3:R1a s.data.toList=H1a (q1a s.data.toList):=if_pos ht;have hlet:=U6a ht;have hlen:=n0b s.data.toList;rw[<-Lib.size_eq] at hlen;obtain⟨L,hL⟩:∃L,L=q1a s.data.toList:=⟨_,rfl⟩;rw[e2,e3,<-hL] at hq;rw[ht,<-hL] at c1;rw[<-hL] at hlet hlen;have HQ:=hI hq;have C1:=hI c1;have HLE:=hI hlet;clear e2 e3 hq c1 hL ht hlet;go_enter Tryz.func157,Tryz.ntmps157;go_wp2_with fail;refine C1.out.mono ?_;rintro e w1 ⟨v1,rfl,ho1,hb1⟩;have HO1:=hI ho1;obtain⟨A1,n1,m1,rfl,hn1,hnm1,hn63,_,_⟩:=ho1.open;have HN1:=hI hn1;have hn4:n1<=4398046511104:=by omega
  clear ho1 hn1 C1 hlen;go_wp2;go_loopw [6,7,8,9] (λv i _ _ wr=>∃k:Nat,i=.int .i64 k/\k<=n1/\Hid (X2a .u8 5 wr w.heap.size v (H1a (L.take k)))/\Hid (X2a .i64 3 wr w.heap.size (.slice A1 n1 m1) L)/\Hid ((H1a (L.take k)).length<=4*k)/\Below w.heap.size w wr) (λ_ i _ _ _=>n1-(intOf i).toNat)
  case atStart=>exact⟨0,rfl,Nat.zero_le _,X2a.nil _ _ _ _,HO1,(by show _<=_;simp[H1a]),hb1⟩
  case round=>
   obtain⟨k,rfl,hk,HO,HR,HL4,hb⟩:=hrel;have hbs:=hb.size;by_cases hlt:k<n1
   ·obtain⟨A3,n3,m3,he3,_,_,_,_,hc3⟩:=HR.out.open;cases he3;obtain⟨g,rfl,_,_,hc⟩:=hc3 (by omega);have gc:=hc k hlt;have hrL:=HLE.out (L.getD k 0) (by have:=HN1.out;rw[List.getD_eq_getElem?_getD,List.getElem?_eq_getElem (by omega)];exact List.getElem_mem _)
    have htk:L.take (k+1)=L.take k++[L.getD k 0]:=by have:=HN1.out;rw[List.take_succ_eq_append_getElem (by omega)];simp[List.getD_eq_getElem?_getD,show k<L.length by omega]
    obtain⟨r,hrr⟩:∃r,r=L.getD k 0:=⟨_,rfl⟩;rw[<-hrr] at gc hrL htk;have hfl:H1a (L.take (k+1))=H1a (L.take k)++(a4a r).flatMap N3a:=by rw[htk,i9a,<-Y0b];simp[H1a]
    have hub:=C9a hrL;have hul:=D9a r;have c2:=hI (c5b wr r hrL);obtain⟨U,hU⟩:∃U,U=a4a r:=⟨_,rfl⟩;rw[<-hU] at c2 hfl hub hul;obtain⟨P,hP⟩:∃P,P=H1a (L.take k):=⟨_,rfl⟩;rw[<-hP] at hfl HO HL4;have HFL:=hI hfl;have HUB:=hI hub;have HUL:=hI hul;clear hc hc3 htk hrr hrL hfl hub hul hU hP;go_wp2_with fail;refine c2.out.mono ?_;rintro e w2 ⟨v2,rfl,ho2,hb2⟩;have HU2:=hI (ho2.mono hbs);obtain⟨A2,n2,m2,rfl,hn2,hnm2,hn263,_,_⟩:=ho2.open;have HN2:=hI hn2;have hn22:n2<=2:=by have:=HUL.out;omega
    have HO2:=hI (HO.out.below hb2);have HR2:=hI (HR.out.below hb2);have hbb:Below w.heap.size w w2:=hb.trans (hb2.mono hbs);clear ho2 hn2 c2 hb2;go_wp2;go_loopw [6,9] (λv i wr=>∃j:Nat,i=.int .i64 j/\j<=n2/\Hid (X2a .u8 5 wr w.heap.size v (P++(U.take j).flatMap N3a))/\Hid (X2a .i64 3 wr w.heap.size (.slice (some ⟨g,0,none⟩) n1 m1) L)/\Hid (X2a .i64 3 wr w.heap.size (.slice A2 n2 m2) U)/\Below w.heap.size w wr) (λ_ i _=>n2-(intOf i).toNat)
    case atStart=>exact⟨0,rfl,Nat.zero_le _,(by show X2a _ _ _ _ _ _;simpa using HO2.out),HR2,HU2,hbb⟩
    case round=>
     obtain⟨j,rfl,hj,HO,HR,HU,hb⟩:=hrel;have hbs:=hb.size;by_cases hlt2:j<n2
     ·obtain⟨A4,n4,m4,he4,_,_,_,_,hc4⟩:=HU.out.open;cases he4;obtain⟨g2,rfl,_,_,hcc⟩:=hc4 (by omega);have gx:=hcc j hlt2;have hxb:=HUB.out (U.getD j 0) (by have:=HN2.out;rw[List.getD_eq_getElem?_getD,List.getElem?_eq_getElem (by omega)];exact List.getElem_mem _)
      have htk2:U.take (j+1)=U.take j++[U.getD j 0]:=by have:=HN2.out;rw[List.take_succ_eq_append_getElem (by omega)];simp[List.getD_eq_getElem?_getD,show j<U.length by omega]
      obtain⟨x,hx⟩:∃x,x=U.getD j 0:=⟨_,rfl⟩;rw[<-hx] at gx hxb htk2;have HF2:Hid (P++(U.take (j+1)).flatMap N3a=P++(U.take j).flatMap N3a++[x%256,x/256]):=by
       show _=_
       rw[htk2];simp[N3a]
      have hlen2:(P++(U.take j).flatMap N3a).length<=4*4398046511104+8:=by
       have h1:=HL4.out;have h2:=q6a (U.take j);have h3:(U.take j).length<=2:=by have:=HUL.out;rw[List.length_take];omega
       rw[List.length_append];omega
      obtain⟨hx0,hx1⟩:=hxb;have q1:x.tmod 256=x%256:=Int.tmod_eq_emod_of_nonneg hx0;have q2:x.tdiv 256=x/256:=Int.tdiv_eq_ediv_of_nonneg hx0;have q3:IntKind.u8.wrap (x%256)=x%256:=by rw[IntKind.wrap_u8'];omega
      have q4:IntKind.u8.wrap (x/256)=x/256:=by rw[IntKind.wrap_u8'];omega
      have q5:IntKind.i64.wrap (x/256)=x/256:=by rw[IntKind.wrap_i64];omega
      have q6:IntKind.i64.wrap (x%256)=x%256:=by rw[IntKind.wrap_i64];omega
      have hj0:(0:Int)<=(j:Int):=Int.natCast_nonneg _;have hj1:(j:Int)<(n2:Int):=by omega
      clear hx htk2 hcc hc4;go_wp2;go_region_law ((refine k9a rfl (.tmp 34) (.tmp 47) .u8 31 5 1 Tryz.underlying31 v3a rfl w.heap.size _ _ [x%256,x/256] _ rfl 2 2 rfl rfl rfl HO.out (by omega) (by omega) hbs ?_;intro v5 w5 ho5 hg5));all_goals
       have hb5:=hg5.out.below HO.out hbs;have HR5:=hI (hg5.out.other HO.out HR.out (by decide));have HU5:=hI (hg5.out.other HO.out HU.out (by decide));have HO5:Hid (X2a .u8 5 w5 w.heap.size v5 (P++(U.take (j+1)).flatMap N3a)):=by rw[HF2.out];exact ho5.out
       clear ho5 hg5 q1 q2 q3 q4 q5 q6;go_wp2;go_roundw
       case rel=>exact⟨j+1,by go_num,hlt2,HO5,HR5,HU5,hb.trans hb5⟩
       case measure=>simp[intOf];omega
     ·obtain rfl:j=n2:=by omega
      have HTK:Hid (P++(U.take j).flatMap N3a=H1a (L.take (k+1))):=by
       show _=_
       rw[HFL.out,List.take_of_length_le (by have:=HN2.out;omega)]
      have HLEN:Hid ((H1a (L.take (k+1))).length<=4*(k+1)):=by
       show _<=_
       have h1:=HL4.out;have h2:=HUL.out;rw[HFL.out,List.length_append,q6a];omega
      have ho6:=HO.out;rw[HTK.out] at ho6;have HO6:=hI ho6;clear HTK HO HU ho6;go_wp2;go_roundw
      case rel=>exact⟨k+1,by go_num,hlt,HO6,HR,HLEN,hb⟩
      case measure=>simp[intOf];omega
   ·obtain rfl:k=n1:=by omega
    have HTK:Hid (L.take k=L):=by
     show _=_
     exact List.take_of_length_le (by have:=HN1.out;omega)
    go_wp2;go_ret2;refine HQ.out _ _ ⟨_,rfl,?_,hb⟩;rw[<-HTK.out];exact HO.out
 ·have ht':w2a s.data.toList=false:=by simpa using ht
  have e2:s2a s.data.toList=5:=if_neg ht;have e3:R1a s.data.toList=[]:=if_neg ht;rw[e2,e3] at hq;rw[ht'] at c1;have HQ:=hI hq;have C1:=hI c1;clear e2 e3 hq c1 ht ht';go_enter Tryz.func157,Tryz.ntmps157;go_wp2_with fail;refine C1.out.mono ?_;rintro e w1 ⟨v1,rfl,ho1,hb1⟩;go_wp2;go_ret2;exact HQ.out _ _ ⟨_,rfl,X2a.nil _ _ _ _,hb1⟩
theorem X2a.holds{w:World}{base:Nat}{v:Value}{xs:List Int}(h:X2a .u8 5 w base v xs)(hx:Bytes xs)(hn:xs.length<=281474976710656) :
  ∃A c,v=.slice A xs.length c/\Holds w w.heap.size A xs.length c xs:=Own.holds (base:=base) h hx hn
theorem e5b(w:World)(s:Int):Calls Tryz.prog 156 #[.int .i64 s] w λe w'=>e=.returned (.bool (B2a s))/\w=w':=by
 by_cases h1:s=1
 ·subst h1;go_enter Tryz.func156,Tryz.ntmps156;go_wp2;go_ret;exact⟨rfl,rfl⟩
 by_cases h2:s=2
 ·subst h2;go_enter Tryz.func156,Tryz.ntmps156;go_wp2;go_ret;exact⟨rfl,rfl⟩
 by_cases h4:s=4
 ·subst h4;go_enter Tryz.func156,Tryz.ntmps156;go_wp2;go_ret;exact⟨rfl,rfl⟩
 by_cases h8:s=8
 ·subst h8;go_enter Tryz.func156,Tryz.ntmps156;go_wp2;go_ret;exact⟨rfl,rfl⟩
 ·have e:B2a s=false:=by simp[B2a,h1,h2,h4,h8]
  have b1:(s==1)=false:=by simpa using h1
  have b2:(s==2)=false:=by simpa using h2
  have b4:(s==4)=false:=by simpa using h4
  have b8:(s==8)=false:=by simpa using h8
  rw[e];clear e h1 h2 h4 h8;go_enter Tryz.func156,Tryz.ntmps156;go_wp2;go_ret;exact⟨rfl,rfl⟩
def b4a(w:World)(n s:Int)(e:Ending)(w':World):Prop:=∃v,e=.returned (.tuple #[v,.int .i64 (d4a n s)])/\Own w' w.heap.size v (v2a n s)/\Below w.heap.size w w'
theorem I7b(n:Int)(k:Nat):le n (k+1)=le n k++[n/256^k%256]:=by
 have hk:k<(le n (k+1)).length:=by rw[m0a];omega
 have h1:=List.take_succ_eq_append_getElem hk;rw[o0b n (k+1) k (by omega) hk,List.take_of_length_le (by rw[m0a];omega)] at h1;rw[h1]
 congr 1
 clear h1 hk
 induction k generalizing n with
 | zero=>rfl
 | succ k ih=>rw[show le n (k+1+1)=n%256::le (n/256) (k+1) from rfl,List.take_succ_cons,ih];rfl
theorem Z0b(w:World)(n s:Int)(hn:0<=n/\n<=18446744073709551615) :
  Calls Tryz.prog 93 #[.int .u64 n,.int .i64 s] w (b4a w n s):=by
 have c1:=e5b w s;obtain⟨hn0,hn1⟩:=hn;by_cases hz:B2a s=true
 ·have hs8:1<=s/\s<=8:=by rcases F1a hz with e | e | e | e<;>omega
  obtain⟨hs1,hs8⟩:=hs8;obtain⟨j,rfl⟩:=Int.eq_ofNat_of_zero_le (show 0<=s by omega);have hq0:n/256^j=0->∀e w',(∃v,e=.returned (.tuple #[v,.int .i64 0])/\Own w' w.heap.size v (le n j)/\Below w.heap.size w w')->b4a w n j e w':=by
   intro h0 e w' hh;have hp:V2a n j=true:=by have:=G6a n j (256^j) hz rfl hn0 (Int.pow_pos (by omega));rw[<-this,h0];rfl
   unfold b4a d4a v2a;rw[if_pos hp,if_pos hp,Int.toNat_natCast];exact hh
  have hq1:0<n/256^j->∀e w',(∃v,e=.returned (.tuple #[v,.int .i64 2])/\Own w' w.heap.size v []/\Below w.heap.size w w')->b4a w n j e w':=by
   intro h0 e w' hh;have hp:¬V2a n j=true:=by have:=G6a n j (256^j) hz rfl hn0 (Int.pow_pos (by omega));rw[<-this,beq_iff_eq];omega
   unfold b4a d4a v2a;rw[if_neg hp,if_neg hp];exact hh
  rw[hz] at c1;have C1:=hI c1;have HQ0:=hI hq0;have HQ1:=hI hq1;clear c1 hz hq0 hq1;go_enter Tryz.func93,Tryz.ntmps93;go_wp2_with fail;refine C1.out.mono ?_;rintro e w' ⟨rfl,rfl⟩;go_wp2_with fail;go_loopw [0,6,7] (λnv v i wr=>∃k:Nat,k<=j/\i=.int .i64 k/\∃z,nv=.int .u64 z/\Hid (z=n/256^k)/\0<=z/\z<=18446744073709551615/\Hid (Own wr w.heap.size v (le n k))/\Below w.heap.size w wr) (λ_ _ i _=>j-(intOf i).toNat)
  case atStart=>exact⟨0,Nat.zero_le _,rfl,n,rfl,by show n=_;simp,hn0,hn1,Own.nil _ _,Below.refl _ _⟩
  case round=>
   obtain⟨k,hk,rfl,z,rfl,HZ,hz0,hz1,HO,hb⟩:=hrel;by_cases hlt:k<j
   ·have hm:=Int.emod_nonneg z (show(256:Int)≠0 by omega);have hm2:=Int.emod_lt_of_pos z (show(0:Int)<256 by omega);have hlen:(le n k).length+[z%256].length<=140737488355328:=by rw[m0a];simp;omega
    have hbs:=hb.size;have hS1:Hid (z/256=n/256^(k+1)):=by
     show _=_
     rw[HZ.out,Int.pow_succ,Int.ediv_ediv_of_nonneg (Int.le_of_lt (Int.pow_pos (by omega)))]
    have hS2:Hid (le n k++[z%256]=le n (k+1)):=by
     show _=_
     rw[I7b,HZ.out]
    go_wp2_with(at_builtin;refine D0a rfl (.tmp 16) (.tmp 20) rfl w.heap.size _ _ rfl (HO.out.alloc _) _ _ 1 1 [z%256] rfl (Holds.single wr (z%256) (by omega)) hlen (by simp;omega) ?_;intro v2 w2 ho2 hb2 hgr);have ho:=ho2.out;rw[hS2.out] at ho;go_roundw
    case rel=>exact⟨k+1,by omega,by go_num,_,rfl,hS1,by omega,by omega,ho,(hb.alloc hb.size _).trans hb2⟩
    case measure=>simp[intOf];omega
   ·obtain rfl:k=j:=by omega
    by_cases h0:0<z
    ·have hS:=HQ1.out (by rw[<-HZ.out];exact h0);have HS:=hI hS;clear hS HZ HO;go_wp2;go_ret2;exact HS.out _ _ ⟨_,rfl,Own.nil _ _,hb⟩
    ·have hS:=HQ0.out (by rw[<-HZ.out];omega);have HS:=hI hS;clear hS HZ;go_wp2;go_ret2;exact HS.out _ _ ⟨_,rfl,HO.out,hb⟩
 ·have hz':B2a s=false:=by simpa using hz
  have hp:¬V2a n s=true:=by unfold V2a;rw[hz'];simp
  have hq:∀e w',(∃v,e=.returned (.tuple #[v,.int .i64 2])/\Own w' w.heap.size v []/\Below w.heap.size w w')->b4a w n s e w':=by intro e w' hh;unfold b4a d4a v2a;rw[if_neg hp,if_neg hp];exact hh
  have HQ:=hI hq;rw[hz'] at c1;have C1:=hI c1;clear c1 hz hz' hp hq;go_enter Tryz.func93,Tryz.ntmps93;go_wp2_with fail;refine C1.out.mono ?_;rintro e w' ⟨rfl,rfl⟩;go_wp2;go_ret2;exact HQ.out _ _ ⟨_,rfl,Own.nil _ _,Below.refl _ _⟩
def M0a(c:Int):Bool:=decide (c<=4)||c==13
theorem l7a(w:World)(c:Int):Calls Tryz.prog 50 #[.int .u16 c] w λe w'=>e=.returned (.bool (M0a c))/\w=w':=by
 by_cases h:c<=4
 ·have e:M0a c=true:=by unfold M0a;rw[decide_eq_true h];rfl
  rw[e];clear e;go_enter Tryz.func50,Tryz.ntmps50;go_wp2;go_ret;exact⟨rfl,rfl⟩
 ·have e:M0a c=(c==13):=by unfold M0a;rw[decide_eq_false h];rfl
  rw[e];clear e;go_enter Tryz.func50,Tryz.ntmps50;go_wp2;go_ret;exact⟨rfl,rfl⟩
def Y8a(w:World)(base:Nat)(xs:List Int)(n s:Int)(e:Ending)(w':World):Prop:=∃v,e=.returned v/\Own w' base v (xs++v2a n s)/\Below base w w'
theorem s3b(w:World)(base:Nat)(v:Value)(xs:List Int)(n s:Int)(hn:0<=n/\n<=18446744073709551615)(ho:Own w base v xs)(hxl:xs.length<=1000000)(hps:(v2a n s).length<=8)(hpb:Bytes (v2a n s))(hb:base<=w.heap.size) :
  Calls Tryz.prog 94 #[v,.int .u64 n,.int .i64 s] w (Y8a w base xs n s):=by
 have C1:=hI (Z0b w n s hn);have HO:=hI ho;have HQ:Hid (∀e w',(∃v,e=.returned v/\Own w' base v (xs++v2a n s)/\Below base w w')->Y8a w base xs n s e w'):=λ_ _ hh=>hh
 have HPB:=hI hpb;obtain⟨A0,c0,hv0⟩:=ho.len;obtain⟨ys,hys⟩:∃ys,ys=v2a n s:=⟨_,rfl⟩;unfold b4a at C1;rw[<-hys] at C1 HQ hps HPB;have hlen:xs.length+ys.length<=140737488355328:=by omega
 clear hys hn hpb ho;subst hv0;go_enter Tryz.func94,Tryz.ntmps94;go_wp2_with fail;refine C1.out.mono ?_;rintro e w1 ⟨x,rfl,hx,L1⟩;obtain⟨A1,c1,rfl,hh⟩:=hx.holds HPB.out (by omega);have HO1:=HO.out.below L1;have hs1:=L1.size;obtain⟨m,hm⟩:∃m,m=ys.length:=⟨_,rfl⟩;rw[<-hm] at hh⊢;have HH:=hI hh;obtain⟨m0,hm0⟩:∃m,m=xs.length:=⟨_,rfl⟩;have HO1':=hI HO1;have HLEN:=hI hlen;rw[<-hm0] at HO1'⊢;clear hm hm0 hh hx HO HO1 hlen;go_wp2_with(at_builtin;refine D0a rfl (.tmp 15) (.tmp 16) rfl base _ xs rfl HO1'.out _ A1 m c1 ys rfl HH.out HLEN.out (by omega) ?_;intro v2 w2 ho2 hb2 hgr);go_ret;exact HQ.out _ _ ⟨_,rfl,ho2.out,(L1.mono hb).trans hb2⟩
def m7a(w:World)(xs:List Int)(e:Ending)(w':World):Prop:=∃v,e=.returned (.tuple #[v,.int .i64 (g6a xs.length)])/\Own w' w.heap.size v (rowOf xs)/\Below w.heap.size w w'
theorem P2b(w:World)(A:Option Addr)(n c:Nat)(xs:List Int)(h:Holds w w.heap.size A n c xs) :
  Calls Tryz.prog 158 #[.slice A n c] w (m7a w xs):=by
 have hl:=h.len;have hr:=h.room;by_cases hn:n<=65535
 ·have e0:v2a (n:Int) 2=le n 2:=by unfold v2a V2a;rw[show B2a 2=true from rfl,show((2:Int).toNat)=2 from rfl,show(256:Int)^2=65536 from by decide,decide_eq_true (by omega:(n:Int)<65536)];rfl
  have HQ:Hid (∀e w',(∃v,e=.returned (.tuple #[v,.int .i64 0])/\Own w' w.heap.size v (le n 2++xs)/\Below w.heap.size w w')->m7a w xs e w'):=by intro e w' hh;unfold m7a g6a rowOf;rw[hl,if_pos hn,if_pos hn];exact hh
  have C1:=Z0b w (n:Int) 2 (by omega);unfold b4a at C1;rw[e0] at C1;have hle:=m0a (n:Int) 2;obtain⟨ls,hls⟩:∃ls,ls=le (n:Int) 2:=⟨_,rfl⟩;obtain⟨er,her⟩:∃er,er=d4a (n:Int) 2:=⟨_,rfl⟩;rw[<-hls] at C1 HQ hle;rw[<-her] at C1;have C1':=hI C1;have HX:=hI h;have HLEN:Hid (ls.length+xs.length<=140737488355328):=by show _<=_;omega
  have hz:IntKind.u64.wrap (n:Int)=n:=by rw[IntKind.wrap_u64];omega
  clear C1 hls her e0 hl h hle;go_enter Tryz.func158,Tryz.ntmps158;go_wp2_with fail;refine C1'.out.mono ?_;rintro e w1 ⟨x,rfl,hx,L1⟩;obtain⟨A1,c1,rfl⟩:=hx.len;have HO:=hI hx;have HX1:=hI (HX.out.below L1);have hs1:=L1.size;have L1':=hI L1;clear hx C1' L1;go_wp2_with(at_builtin;refine D0a rfl (.tmp 16) (.tmp 17) rfl w.heap.size _ ls rfl HO.out w.heap.size A n c xs rfl HX1.out HLEN.out hs1 ?_;intro v2 w2 ho2 hb2 hgr);go_ret2;exact HQ.out _ _ ⟨_,rfl,ho2.out,L1'.out.trans hb2⟩
 ·have HQ:Hid (∀e w',(∃v,e=.returned (.tuple #[v,.int .i64 3])/\Own w' w.heap.size v []/\Below w.heap.size w w')->m7a w xs e w'):=by intro e w' hh;unfold m7a g6a rowOf;rw[hl,if_neg hn,if_neg hn];exact hh
  clear h hl;go_enter Tryz.func158,Tryz.ntmps158;go_wp2;go_ret2;exact HQ.out _ _ ⟨_,rfl,Own.nil _ _,Below.refl _ _⟩
def M4a(w:World)(l:List UInt8)(e:Ending)(w':World):Prop:=∃v,e=.returned (.tuple #[v,.int .i64 (u0a l)])/\Own w' w.heap.size v (G0a l)/\Below w.heap.size w w'
theorem i5a(s:ByteArray)(w:World)(hs:s.size<=4398046511104) :
  Calls Tryz.prog 98 #[.string s] w (M4a w s.data.toList):=by
 have C1:=d5b s w hs;unfold E9a at C1;obtain⟨l,hl⟩:∃l,l=s.data.toList:=⟨_,rfl⟩;rw[<-hl] at C1⊢;have hlen:(R1a l).length<=4*s.size:=by
  rw[hl];have:=z7a s.data.toList;have:=e7a s.data.toList;have e:s.data.toList.length=s.size:=by rw[Array.length_toList];rfl
  omega
 have hby:Bytes (R1a l):=d7a l;have HBY:=hI hby;by_cases ht:s2a l=0
 ·by_cases hm:(R1a l).length<=512
  ·have HQ:Hid (∀e w',(∃v,e=.returned (.tuple #[v,.int .i64 (g6a (R1a l).length)])/\Own w' w.heap.size v (rowOf (R1a l))/\Below w.heap.size w w')->M4a w l e w'):=by
    intro e w' hh;have e0:u0a l=0:=by unfold u0a;rw[if_pos ht,if_pos hm]
    unfold M4a G0a;rw[e0,if_pos rfl];unfold g6a at hh
    rwa [if_pos (by omega:(R1a l).length<=65535)] at hh
   have CR:Hid (∀(w:World) (A:Option Addr) (n c:Nat),Holds w w.heap.size A n c (R1a l)->Calls Tryz.prog 158 #[.slice A n c] w (m7a w (R1a l))):=λw A n c hh=>P2b w A n c _ hh
   rw[ht] at C1;unfold m7a at CR;obtain⟨ps,hps⟩:∃ps,ps=R1a l:=⟨_,rfl⟩;rw[<-hps] at C1 HQ CR hm HBY hlen;obtain⟨m,hml⟩:∃m,m=ps.length:=⟨_,rfl⟩;rw[<-hml] at hm hlen HQ CR;have HM:Hid (ps.length=m):=hml.symm;have C1':=hI C1;clear C1 hl ht hps hml hby;go_enter Tryz.func98,Tryz.ntmps98;go_wp2_with fail;refine C1'.out.mono ?_;rintro e w1 ⟨x,rfl,hx,L1⟩;obtain⟨A1,c1,rfl,hh⟩:=Own.holds (w:=w1) (base:=w.heap.size) (v:=x) (xs:=ps) hx HBY.out (by have:=HM.out;omega);rw[HM.out] at hh⊢;have HH:=hI hh;have L1':=hI L1;clear hx C1' L1 hh;go_wp2_with fail;refine(CR.out w1 A1 m c1 HH.out).mono ?_;rintro e w2 ⟨v,rfl,ho,L2⟩;go_wp2;go_ret2;exact HQ.out _ _ ⟨_,rfl,ho.mono L1'.out.size,step L1'.out L2⟩
  ·have HQ:Hid (∀e w',(∃v,e=.returned (.tuple #[v,.int .i64 3])/\Own w' w.heap.size v []/\Below w.heap.size w w')->M4a w l e w'):=by
    intro e w' hh;have e0:u0a l=3:=by unfold u0a;rw[if_pos ht,if_neg hm]
    unfold M4a G0a;rw[e0,if_neg (by decide)];exact hh
   rw[ht] at C1;obtain⟨ps,hps⟩:∃ps,ps=R1a l:=⟨_,rfl⟩;rw[<-hps] at C1 hm HBY hlen;obtain⟨m,hml⟩:∃m,m=ps.length:=⟨_,rfl⟩;rw[<-hml] at hm hlen;have HM:Hid (ps.length=m):=hml.symm;have C1':=hI C1;clear C1 hl ht hps hml hby;go_enter Tryz.func98,Tryz.ntmps98;go_wp2_with fail;refine C1'.out.mono ?_;rintro e w1 ⟨x,rfl,hx,L1⟩;obtain⟨A1,c1,rfl,hh⟩:=Own.holds (w:=w1) (base:=w.heap.size) (v:=x) (xs:=ps) hx HBY.out (by have:=HM.out;omega);rw[HM.out] at⊢;have L1':=hI L1;clear hx C1' L1 hh;go_wp2;go_ret2;exact HQ.out _ _ ⟨_,rfl,Own.nil _ _,L1'.out⟩
 ·have HQ:Hid (∀e w',(∃v,e=.returned (.tuple #[v,.int .i64 (s2a l)])/\Own w' w.heap.size v []/\Below w.heap.size w w')->M4a w l e w'):=by
   intro e w' hh;have e0:u0a l=s2a l:=by unfold u0a;rw[if_neg ht]
   unfold M4a G0a;rw[e0,if_neg ht];exact hh
  obtain⟨er,her⟩:∃er,er=s2a l:=⟨_,rfl⟩;rw[<-her] at C1 HQ ht;have C1':=hI C1;clear C1 hl her hby hlen;go_enter Tryz.func98,Tryz.ntmps98;go_wp2_with fail;refine C1'.out.mono ?_;rintro e w1 ⟨x,rfl,hx,L1⟩;go_wp2;go_ret2;exact HQ.out _ _ ⟨_,rfl,Own.nil _ _,L1⟩
theorem L0a{P:Program}{fn:Func}{p q:Tmp}{ty:TypeId}(h:fn.results=#[.cell p ty,.tmp q])(tmps:Array Value)(w:World)(g:Nat)(t:TypeId)(cs:Array Value)(fr:Nat×Nat)(d:TypeDesc)
(hp:tmps.getD p undef=.pointer (some ⟨g,0,none⟩))(hg:w.heap[g]? = some (.cells cs t fr))
(hu:P.underlying ty=some d)(hd:(match d with | .struct _ | .array _ _=>true | _=>false)=true)(hi:(P.info? ty).map (·.size)=some cs.size){v:Value}(hv:tmps.getD q undef=v) :
  (results fn tmps).run P w=.ok (.tuple #[.agg cs,v]) w:=by
 have hp':tmps[p]?.getD undef=.pointer (some ⟨g,0,none⟩):=by simpa using hp
 have hv':tmps[q]?.getD undef=v:=by simpa using hv
 simp[results,h,hp',hv',asAddr,run_loadVar_row w g t ty cs fr d hg hu hd hi]
def j1a(c:Int)(a:m1a):m1a:=if c=0 then { a with dial:=[],guid:=List.replicate 16 0 } else if c=1 then { a with proof:=List.replicate 32 0,user:=.empty } else if c=3 then { a with share:=.empty } else a
def r1a(c:Int)(s:E1a):E1a:=if c=0 then { s with dia:=0,siz:=0,chal:=List.replicate 8 0 } else s
theorem j5a{c:Int}{a:m1a}(k:a.ok):(j1a c a).ok:=by
 unfold j1a;split
 ·exact⟨λx h=>(by cases h),rfl,Bytes.zeros 16,k.plen,k.pbyte,k.acc,k.shr,k.way,k.opt,k.lev,k.dur,k.file,k.at_,k.n,k.data,k.locks,k.most,k.cls,k.siz⟩
 ·split
  ·exact⟨k.dial,k.glen,k.gbyte,rfl,Bytes.zeros 32,k.acc,k.shr,k.way,k.opt,k.lev,k.dur,k.file,k.at_,k.n,k.data,k.locks,k.most,k.cls,k.siz⟩
  ·split
   ·exact⟨k.dial,k.glen,k.gbyte,k.plen,k.pbyte,k.acc,k.shr,k.way,k.opt,k.lev,k.dur,k.file,k.at_,k.n,k.data,k.locks,k.most,k.cls,k.siz⟩
   ·exact k
theorem t8a{c:Int}{s:E1a}(k:s.ok):(r1a c s).ok:=by
 unfold r1a;split
 ·exact⟨by show(0:Int)<=0/\(0:Int)<=65535;decide,by show(0:Int)<=0/\(0:Int)<=18446744073709551615;decide,rfl,Bytes.zeros 8,k.lev,k.dur,k.made,k.file,k.kind,k.data,k.n,k.ents⟩
 ·exact k
section
variable {vd vx vl ve:Value} {a:m1a} {s:E1a}
theorem F9a(u:Value)(xs:List Int):(l0a vd vx vl a).set 0 u=l0a u vx vl { a with dial:=xs }:=rfl
theorem u8a(k:a.ok)(xs:List Int):(l0a vd vx vl a).take 1++(xs.map (Value.int .u8)++(l0a vd vx vl a).drop (1+16))=l0a vd vx vl { a with guid:=xs }:=by unfold l0a;rw[show 1+16=16+1 from rfl,List.drop_succ_cons,List.drop_left' (by rw[List.length_map];exact k.glen)];rfl
theorem K7a(k:a.ok)(xs:List Int):(l0a vd vx vl a).take 17++(xs.map (Value.int .u8)++(l0a vd vx vl a).drop (17+32))=l0a vd vx vl { a with proof:=xs }:=by unfold l0a;rw[show 17+32=48+1 from rfl,List.drop_succ_cons,show 17=16+1 from rfl,List.take_succ_cons,List.take_left' (by rw[List.length_map];exact k.glen),show 48=16+32 from rfl,<-List.drop_drop,List.drop_left' (by rw[List.length_map];exact k.glen),List.drop_left' (by rw[List.length_map];exact k.plen)];simp[G7a]
theorem G9a(k:a.ok)(u:ByteArray):(l0a vd vx vl a).set 49 (.string u)=l0a vd vx vl { a with user:=u }:=(H6a k 0 (.string u)).trans rfl
theorem v8a(k:a.ok)(u:ByteArray):(l0a vd vx vl a).set 50 (.string u)=l0a vd vx vl { a with share:=u }:=(H6a k 1 (.string u)).trans rfl
theorem U3b(x:Int):(s0a vx ve s).set 0 (.int .u16 x)=s0a vx ve { s with dia:=x }:=rfl
theorem V3b(x:Int):(s0a vx ve s).set 1 (.int .u64 x)=s0a vx ve { s with siz:=x }:=rfl
theorem O1b(k:s.ok)(xs:List Int):(s0a vx ve s).take 2++(xs.map (Value.int .u8)++(s0a vx ve s).drop (2+8))=s0a vx ve { s with chal:=xs }:=by unfold s0a;rw[show 2+8=8+1+1 from rfl,List.drop_succ_cons,List.drop_succ_cons,List.drop_left' (by rw[List.length_map];exact k.clen)];rfl
end
def L7a(w:World)(c:Int)(a:m1a)(e:Ending)(w':World):Prop:=∃ds,e=.returned (.tuple #[.agg ds.toArray,.bool (M0a c)])/\b1a w' w'.heap.size ds (if M0a c=true then j1a c a else k0a)/\Below w.heap.size w w'
theorem a1b(w:World)(c:Int)(cs:List Value)(a:m1a)(hc:0<=c/\c<=65535)(ka:a.ok)(ha:b1a w w.heap.size cs a) :
  Calls Tryz.prog 107 #[.int .u16 c,.agg cs.toArray] w (L7a w c a):=by
 have HL:=hI (ha.len ka);have HO1:=hI ha.one;have ZH:=hI G5a;have BZ:=q9a;have HZ:Hid ((l0a (.slice none 0 0) (.slice none 0 0) (.slice none 0 0) k0a).length=69):=h1a f0a;have HZ1:Hid (∀v∈l0a (.slice none 0 0) (.slice none 0 0) (.slice none 0 0) k0a,v.oneCell'=true):=(j2a w 0).one;have HA:=hI ha;have HQ:Hid (∀e w',(∃ds,e=.returned (.tuple #[.agg ds.toArray,.bool (M0a c)])/\b1a w' w'.heap.size ds (if M0a c=true then j1a c a else k0a)/\Below w.heap.size w w')->L7a w c a e w'):=λ_ _ h=>h
 obtain⟨zs,hzs⟩:∃zs,zs=l0a (.slice none 0 0) (.slice none 0 0) (.slice none 0 0) k0a:=⟨_,rfl⟩;have HZI:Hid (∀w':World,b1a w' w'.heap.size zs k0a):=by rw[hzs];exact λw'=>j2a w' _
 rw[<-hzs] at ZH BZ HZ HZ1;clear hzs;by_cases h0:c=0
 ·subst h0;have e0:(if M0a 0=true then j1a 0 a else k0a)={ a with dial:=[],guid:=List.replicate 16 0 }:=rfl;rw[e0,show M0a 0=true from rfl] at HQ;clear e0;obtain⟨A1,A2,A3,X1,X2,X3,M1,M2,M3,rfl,hA,hX,hM⟩:=ha;have HI:Hid (∀w':World,Below w.heap.size w w'->b1a w' w'.heap.size (l0a (.slice none 0 0) (.slice X1 X2 X3) (.slice M1 M2 M3) { a with dial:=[],guid:=List.replicate 16 0 }) ({ a with dial:=[],guid:=List.replicate 16 0 })):=λw' hb=>⟨none,0,0,X1,X2,X3,M1,M2,M3,rfl,o1a.nil _ _ _,hX.over hb,hM.over hb⟩
  have HN:Hid ((l0a (.slice none 0 0) (.slice X1 X2 X3) (.slice M1 M2 M3) { a with dial:=[],guid:=List.replicate 16 0 }).length=69):=h1a (by have:=j5a (c:=0) ka;exact this);have HN1:Hid (∀v∈l0a (.slice none 0 0) (.slice X1 X2 X3) (.slice M1 M2 M3) { a with dial:=[],guid:=List.replicate 16 0 },v.oneCell'=true):=D1a rfl rfl rfl;have HE0:Hid ((l0a (.slice A1 A2 A3) (.slice X1 X2 X3) (.slice M1 M2 M3) a).set 0 (.slice none 0 0)=l0a (.slice none 0 0) (.slice X1 X2 X3) (.slice M1 M2 M3) { a with dial:=[] }):=F9a _ [];have HE1:Hid ((l0a (.slice none 0 0) (.slice X1 X2 X3) (.slice M1 M2 M3) { a with dial:=[] }).take 1++((List.replicate 16 (0:Int)).map (Value.int .u8)++(l0a (.slice none 0 0) (.slice X1 X2 X3) (.slice M1 M2 M3) { a with dial:=[] }).drop (1+16))=l0a (.slice none 0 0) (.slice X1 X2 X3) (.slice M1 M2 M3) { a with dial:=[],guid:=List.replicate 16 0 }):=u8a (a:={ a with dial:=[] }) ⟨λx h=>(by cases h),ka.glen,ka.gbyte,ka.plen,ka.pbyte,ka.acc,ka.shr,ka.way,ka.opt,ka.lev,ka.dur,ka.file,ka.at_,ka.n,ka.data,ka.locks,ka.most,ka.cls,ka.siz⟩ (List.replicate 16 0);have HN0:Hid (0<(l0a (.slice A1 A2 A3) (.slice X1 X2 X3) (.slice M1 M2 M3) a).length):=by show _<_;simp[l0a,G7a,ka.glen,ka.plen]
  have HF:Hid (1+16<=(l0a (.slice none 0 0) (.slice X1 X2 X3) (.slice M1 M2 M3) { a with dial:=[] }).length):=by show _<=_;simp[l0a,G7a,ka.glen,ka.plen]
  have HLZ:Hid (((List.replicate 16 (0:Int)).map (Value.int .u8)).length=16):=by show _=_;simp
  have OZ:Hid (∀v∈(List.replicate 16 (0:Int)).map (Value.int .u8),v.oneCell'=true):=λv hv=>v4a hv
  have BL:=t0b;obtain⟨lz,hlz⟩:∃z,z=(List.replicate 16 (0:Int)).map (Value.int .u8):=⟨_,rfl⟩;rw[<-hlz] at HLZ OZ BL HE1;clear hlz;obtain⟨cs,hcs⟩:∃c,c=l0a (.slice A1 A2 A3) (.slice X1 X2 X3) (.slice M1 M2 M3) a:=⟨_,rfl⟩;rw[<-hcs] at HL HO1 HE0 HN0⊢;clear hcs HA hA hX hM;obtain⟨d0,hd0⟩:∃c,c=l0a (.slice none 0 0) (.slice X1 X2 X3) (.slice M1 M2 M3) { a with dial:=[] }:=⟨_,rfl⟩;rw[<-hd0] at HE0 HE1 HF;clear hd0;obtain⟨d1,hd1⟩:∃c,c=l0a (.slice none 0 0) (.slice X1 X2 X3) (.slice M1 M2 M3) { a with dial:=[],guid:=List.replicate 16 0 }:=⟨_,rfl⟩;rw[<-hd1] at HE1 HI HN HN1;clear hd1;go_enter Tryz.func107,Tryz.ntmps107;go_wp2_with(first
   | ((with_reducible refine sN 3 ?_);refine a0a rfl _ (.tmp 1) rfl cs rfl ?_;intro g w1 hg1 hg2 K1 L1)
   | ((with_reducible refine sN 4 ?_);refine b0a rfl _ rfl zs _ ZH ?_;intro h w2 hg3 hg4 Z2 L02;have G2:=hI (K1.out.over L02.out);have L2:=hI (step L1.out L02.out);have hgh:g≠h:=(by omega);have hhw:w.heap.size<=h:=(by have:=L1.out.size;omega))
   | ((with_reducible refine sT 11 ?_);refine h0a rfl _ (.tmp 11) (.const (.slice none 0 0)) rfl g 0 rfl _ cs (.slice none 0 0) rfl G2 HN0 (by kernel_rfl) rfl ?_;intro w3 K3 O3 q3;rw[HE0.out] at K3;have Z3:=hI (Z2.out.only O3.out (Ne.symm hgh));have L3:Hid (Below w.heap.size w w3):=c0a L2.out O3.out hg1)
   | ((with_reducible refine sT 12 ?_);refine k2a rfl _ (.tmp 12) (.tmp 10) rfl g 1 rfl _ d0 lz rfl K3 16 c2a HLZ HF OZ ?_;intro w4 K4 O4 q4;rw[HE1.out] at K4;have Z4:=hI (Z3.out.only O4.out (Ne.symm hgh));have L4:Hid (Below w.heap.size w w4):=c0a L3.out O4.out hg1)
   | ((with_reducible refine sN 10 ?_);refine W0a rfl _ rfl lz BL ?_)
   | ((with_reducible refine sN 25 ?_);refine d0a rfl _ (.tmp 3) rfl g rfl _ d1 K4 69 _ Tryz.underlying34 rfl n0a HN ?_)
   | ((with_reducible refine sT 4 ?_);refine e0a rfl _ (.tmp 4) (.tmp 25) rfl h rfl _ zs d1 rfl Z4 69 n0a HZ HN HN1 ?_;intro w9 K9 O9 hg9)
   | fail)
  have L9:=hI (c0a L4.out O9.out hhw);refine bodyPost_ret (v:=.tuple #[.agg d1.toArray,.bool true]) ?_ rfl (HQ.out _ _ ⟨_,rfl,HI.out w9 L9.out,L9.out⟩);exact L0a rfl _ _ h _ _ (0,0) _ rfl K9.out Tryz.underlying34 rfl (by rw[n0a];have:=HN.out;simp[this]) rfl
 by_cases h1:c=1
 ·subst h1;have e0:(if M0a 1=true then j1a 1 a else k0a)={ a with proof:=List.replicate 32 0,user:=.empty }:=rfl;rw[e0,show M0a 1=true from rfl] at HQ;clear e0;obtain⟨A1,A2,A3,X1,X2,X3,M1,M2,M3,rfl,hA,hX,hM⟩:=ha;have HI:Hid (∀w':World,Below w.heap.size w w'->b1a w' w'.heap.size (l0a (.slice A1 A2 A3) (.slice X1 X2 X3) (.slice M1 M2 M3) { a with proof:=List.replicate 32 0,user:=.empty }) ({ a with proof:=List.replicate 32 0,user:=.empty })):=λw' hb=>⟨A1,A2,A3,X1,X2,X3,M1,M2,M3,rfl,hA.over hb,hX.over hb,hM.over hb⟩
  have HN:Hid ((l0a (.slice A1 A2 A3) (.slice X1 X2 X3) (.slice M1 M2 M3) { a with proof:=List.replicate 32 0,user:=.empty }).length=69):=h1a (by have:=j5a (c:=1) ka;exact this);have HN1:Hid (∀v∈l0a (.slice A1 A2 A3) (.slice X1 X2 X3) (.slice M1 M2 M3) { a with proof:=List.replicate 32 0,user:=.empty },v.oneCell'=true):=D1a rfl rfl rfl;have HE0:Hid ((l0a (.slice A1 A2 A3) (.slice X1 X2 X3) (.slice M1 M2 M3) a).take 17++((List.replicate 32 (0:Int)).map (Value.int .u8)++(l0a (.slice A1 A2 A3) (.slice X1 X2 X3) (.slice M1 M2 M3) a).drop (17+32))=l0a (.slice A1 A2 A3) (.slice X1 X2 X3) (.slice M1 M2 M3) { a with proof:=List.replicate 32 0 }):=K7a ka (List.replicate 32 0);have HE1:Hid ((l0a (.slice A1 A2 A3) (.slice X1 X2 X3) (.slice M1 M2 M3) { a with proof:=List.replicate 32 0 }).set 49 (.string .empty)=l0a (.slice A1 A2 A3) (.slice X1 X2 X3) (.slice M1 M2 M3) { a with proof:=List.replicate 32 0,user:=.empty }):=G9a (a:={ a with proof:=List.replicate 32 0 }) ⟨ka.dial,ka.glen,ka.gbyte,rfl,Bytes.zeros 32,ka.acc,ka.shr,ka.way,ka.opt,ka.lev,ka.dur,ka.file,ka.at_,ka.n,ka.data,ka.locks,ka.most,ka.cls,ka.siz⟩ .empty;have HF:Hid (17+32<=(l0a (.slice A1 A2 A3) (.slice X1 X2 X3) (.slice M1 M2 M3) a).length):=by show _<=_;simp[l0a,G7a,ka.glen,ka.plen]
  have HN0:Hid (49<(l0a (.slice A1 A2 A3) (.slice X1 X2 X3) (.slice M1 M2 M3) { a with proof:=List.replicate 32 0 }).length):=by show _<_;simp[l0a,G7a,ka.glen]
  have HLZ:Hid (((List.replicate 32 (0:Int)).map (Value.int .u8)).length=32):=by show _=_;simp
  have OZ:Hid (∀v∈(List.replicate 32 (0:Int)).map (Value.int .u8),v.oneCell'=true):=λv hv=>v4a hv
  have BL:=s9a;obtain⟨lz,hlz⟩:∃z,z=(List.replicate 32 (0:Int)).map (Value.int .u8):=⟨_,rfl⟩;rw[<-hlz] at HLZ OZ BL HE0;clear hlz;obtain⟨cs,hcs⟩:∃c,c=l0a (.slice A1 A2 A3) (.slice X1 X2 X3) (.slice M1 M2 M3) a:=⟨_,rfl⟩;rw[<-hcs] at HL HO1 HE0 HF⊢;clear hcs HA hA hX hM;obtain⟨d0,hd0⟩:∃c,c=l0a (.slice A1 A2 A3) (.slice X1 X2 X3) (.slice M1 M2 M3) { a with proof:=List.replicate 32 0 }:=⟨_,rfl⟩;rw[<-hd0] at HE0 HE1 HN0;clear hd0;obtain⟨d1,hd1⟩:∃c,c=l0a (.slice A1 A2 A3) (.slice X1 X2 X3) (.slice M1 M2 M3) { a with proof:=List.replicate 32 0,user:=.empty }:=⟨_,rfl⟩;rw[<-hd1] at HE1 HI HN HN1;clear hd1;go_enter Tryz.func107,Tryz.ntmps107;go_wp2_with(first
   | ((with_reducible refine sN 3 ?_);refine a0a rfl _ (.tmp 1) rfl cs rfl ?_;intro g w1 hg1 hg2 K1 L1)
   | ((with_reducible refine sN 4 ?_);refine b0a rfl _ rfl zs _ ZH ?_;intro h w2 hg3 hg4 Z2 L02;have G2:=hI (K1.out.over L02.out);have L2:=hI (step L1.out L02.out);have hgh:g≠h:=(by omega);have hhw:w.heap.size<=h:=(by have:=L1.out.size;omega))
   | ((with_reducible refine sT 16 ?_);refine k2a rfl _ (.tmp 16) (.tmp 15) rfl g 17 rfl _ cs lz rfl G2 32 W1a HLZ HF OZ ?_;intro w3 K3 O3 q3;rw[HE0.out] at K3;have Z3:=hI (Z2.out.only O3.out (Ne.symm hgh));have L3:Hid (Below w.heap.size w w3):=c0a L2.out O3.out hg1)
   | ((with_reducible refine sT 17 ?_);refine h0a rfl _ (.tmp 17) (.const (.string .empty)) rfl g 49 rfl _ d0 (.string .empty) rfl K3 HN0 (by kernel_rfl) rfl ?_;intro w4 K4 O4 q4;rw[HE1.out] at K4;have Z4:=hI (Z3.out.only O4.out (Ne.symm hgh));have L4:Hid (Below w.heap.size w w4):=c0a L3.out O4.out hg1)
   | ((with_reducible refine sN 15 ?_);refine W0a rfl _ rfl lz BL ?_)
   | ((with_reducible refine sN 25 ?_);refine d0a rfl _ (.tmp 3) rfl g rfl _ d1 K4 69 _ Tryz.underlying34 rfl n0a HN ?_)
   | ((with_reducible refine sT 4 ?_);refine e0a rfl _ (.tmp 4) (.tmp 25) rfl h rfl _ zs d1 rfl Z4 69 n0a HZ HN HN1 ?_;intro w9 K9 O9 hg9)
   | fail)
  have L9:=hI (c0a L4.out O9.out hhw);refine bodyPost_ret (v:=.tuple #[.agg d1.toArray,.bool true]) ?_ rfl (HQ.out _ _ ⟨_,rfl,HI.out w9 L9.out,L9.out⟩);exact L0a rfl _ _ h _ _ (0,0) _ rfl K9.out Tryz.underlying34 rfl (by rw[n0a];have:=HN.out;simp[this]) rfl
 by_cases h3:c=3
 ·subst h3;have e0:(if M0a 3=true then j1a 3 a else k0a)={ a with share:=.empty }:=rfl;rw[e0,show M0a 3=true from rfl] at HQ;clear e0;obtain⟨A1,A2,A3,X1,X2,X3,M1,M2,M3,rfl,hA,hX,hM⟩:=ha;have HI:Hid (∀w':World,Below w.heap.size w w'->b1a w' w'.heap.size (l0a (.slice A1 A2 A3) (.slice X1 X2 X3) (.slice M1 M2 M3) { a with share:=.empty }) ({ a with share:=.empty })):=λw' hb=>⟨A1,A2,A3,X1,X2,X3,M1,M2,M3,rfl,hA.over hb,hX.over hb,hM.over hb⟩
  have HN:Hid ((l0a (.slice A1 A2 A3) (.slice X1 X2 X3) (.slice M1 M2 M3) { a with share:=.empty }).length=69):=h1a (by have:=j5a (c:=3) ka;exact this);have HN1:Hid (∀v∈l0a (.slice A1 A2 A3) (.slice X1 X2 X3) (.slice M1 M2 M3) { a with share:=.empty },v.oneCell'=true):=D1a rfl rfl rfl;have HE0:Hid ((l0a (.slice A1 A2 A3) (.slice X1 X2 X3) (.slice M1 M2 M3) a).set 50 (.string .empty)=l0a (.slice A1 A2 A3) (.slice X1 X2 X3) (.slice M1 M2 M3) { a with share:=.empty }):=v8a ka .empty;have HN0:Hid (50<(l0a (.slice A1 A2 A3) (.slice X1 X2 X3) (.slice M1 M2 M3) a).length):=by show _<_;simp[l0a,G7a,ka.glen,ka.plen]
  obtain⟨cs,hcs⟩:∃c,c=l0a (.slice A1 A2 A3) (.slice X1 X2 X3) (.slice M1 M2 M3) a:=⟨_,rfl⟩;rw[<-hcs] at HL HO1 HE0 HN0⊢;clear hcs HA hA hX hM;obtain⟨d0,hd0⟩:∃c,c=l0a (.slice A1 A2 A3) (.slice X1 X2 X3) (.slice M1 M2 M3) { a with share:=.empty }:=⟨_,rfl⟩;rw[<-hd0] at HE0 HI HN HN1;clear hd0;go_enter Tryz.func107,Tryz.ntmps107;go_wp2_with(first
   | ((with_reducible refine sN 3 ?_);refine a0a rfl _ (.tmp 1) rfl cs rfl ?_;intro g w1 hg1 hg2 K1 L1)
   | ((with_reducible refine sN 4 ?_);refine b0a rfl _ rfl zs _ ZH ?_;intro h w2 hg3 hg4 Z2 L02;have G2:=hI (K1.out.over L02.out);have L2:=hI (step L1.out L02.out);have hgh:g≠h:=(by omega);have hhw:w.heap.size<=h:=(by have:=L1.out.size;omega))
   | ((with_reducible refine sT 20 ?_);refine h0a rfl _ (.tmp 20) (.const (.string .empty)) rfl g 50 rfl _ cs (.string .empty) rfl G2 HN0 (by kernel_rfl) rfl ?_;intro w3 K3 O3 q3;rw[HE0.out] at K3;have Z3:=hI (Z2.out.only O3.out (Ne.symm hgh));have L3:Hid (Below w.heap.size w w3):=c0a L2.out O3.out hg1)
   | ((with_reducible refine sN 25 ?_);refine d0a rfl _ (.tmp 3) rfl g rfl _ d0 K3 69 _ Tryz.underlying34 rfl n0a HN ?_)
   | ((with_reducible refine sT 4 ?_);refine e0a rfl _ (.tmp 4) (.tmp 25) rfl h rfl _ zs d0 rfl Z3 69 n0a HZ HN HN1 ?_;intro w9 K9 O9 hg9)
   | fail)
  have L9:=hI (c0a L3.out O9.out hhw);refine bodyPost_ret (v:=.tuple #[.agg d0.toArray,.bool true]) ?_ rfl (HQ.out _ _ ⟨_,rfl,HI.out w9 L9.out,L9.out⟩);exact L0a rfl _ _ h _ _ (0,0) _ rfl K9.out Tryz.underlying34 rfl (by rw[n0a];have:=HN.out;simp[this]) rfl
 by_cases h2:c=2
 ·subst h2;have e0:(if M0a 2=true then j1a 2 a else k0a)=a:=rfl;rw[e0,show M0a 2=true from rfl] at HQ;clear e0;obtain⟨A1,A2,A3,X1,X2,X3,M1,M2,M3,rfl,hA,hX,hM⟩:=ha;have HI:Hid (∀w':World,Below w.heap.size w w'->b1a w' w'.heap.size (l0a (.slice A1 A2 A3) (.slice X1 X2 X3) (.slice M1 M2 M3) a) (a)):=λw' hb=>⟨A1,A2,A3,X1,X2,X3,M1,M2,M3,rfl,hA.over hb,hX.over hb,hM.over hb⟩
  have HN:Hid ((l0a (.slice A1 A2 A3) (.slice X1 X2 X3) (.slice M1 M2 M3) a).length=69):=h1a (ka);have HN1:Hid (∀v∈l0a (.slice A1 A2 A3) (.slice X1 X2 X3) (.slice M1 M2 M3) a,v.oneCell'=true):=D1a rfl rfl rfl;obtain⟨cs,hcs⟩:∃c,c=l0a (.slice A1 A2 A3) (.slice X1 X2 X3) (.slice M1 M2 M3) a:=⟨_,rfl⟩;rw[<-hcs] at HL HO1 HI HN HN1⊢;clear hcs HA hA hX hM;go_enter Tryz.func107,Tryz.ntmps107;go_wp2_with(first
   | ((with_reducible refine sN 3 ?_);refine a0a rfl _ (.tmp 1) rfl cs rfl ?_;intro g w1 hg1 hg2 K1 L1)
   | ((with_reducible refine sN 4 ?_);refine b0a rfl _ rfl zs _ ZH ?_;intro h w2 hg3 hg4 Z2 L02;have G2:=hI (K1.out.over L02.out);have L2:=hI (step L1.out L02.out);have hgh:g≠h:=(by omega);have hhw:w.heap.size<=h:=(by have:=L1.out.size;omega))
   | ((with_reducible refine sN 25 ?_);refine d0a rfl _ (.tmp 3) rfl g rfl _ cs G2 69 _ Tryz.underlying34 rfl n0a HN ?_)
   | ((with_reducible refine sT 4 ?_);refine e0a rfl _ (.tmp 4) (.tmp 25) rfl h rfl _ zs cs rfl Z2 69 n0a HZ HN HN1 ?_;intro w9 K9 O9 hg9)
   | fail)
  have L9:=hI (c0a L2.out O9.out hhw);refine bodyPost_ret (v:=.tuple #[.agg cs.toArray,.bool true]) ?_ rfl (HQ.out _ _ ⟨_,rfl,HI.out w9 L9.out,L9.out⟩);exact L0a rfl _ _ h _ _ (0,0) _ rfl K9.out Tryz.underlying34 rfl (by rw[n0a];have:=HN.out;simp[this]) rfl
 by_cases h4:c=4
 ·subst h4;have e0:(if M0a 4=true then j1a 4 a else k0a)=a:=rfl;rw[e0,show M0a 4=true from rfl] at HQ;clear e0;obtain⟨A1,A2,A3,X1,X2,X3,M1,M2,M3,rfl,hA,hX,hM⟩:=ha;have HI:Hid (∀w':World,Below w.heap.size w w'->b1a w' w'.heap.size (l0a (.slice A1 A2 A3) (.slice X1 X2 X3) (.slice M1 M2 M3) a) (a)):=λw' hb=>⟨A1,A2,A3,X1,X2,X3,M1,M2,M3,rfl,hA.over hb,hX.over hb,hM.over hb⟩
  have HN:Hid ((l0a (.slice A1 A2 A3) (.slice X1 X2 X3) (.slice M1 M2 M3) a).length=69):=h1a (ka);have HN1:Hid (∀v∈l0a (.slice A1 A2 A3) (.slice X1 X2 X3) (.slice M1 M2 M3) a,v.oneCell'=true):=D1a rfl rfl rfl;obtain⟨cs,hcs⟩:∃c,c=l0a (.slice A1 A2 A3) (.slice X1 X2 X3) (.slice M1 M2 M3) a:=⟨_,rfl⟩;rw[<-hcs] at HL HO1 HI HN HN1⊢;clear hcs HA hA hX hM;go_enter Tryz.func107,Tryz.ntmps107;go_wp2_with(first
   | ((with_reducible refine sN 3 ?_);refine a0a rfl _ (.tmp 1) rfl cs rfl ?_;intro g w1 hg1 hg2 K1 L1)
   | ((with_reducible refine sN 4 ?_);refine b0a rfl _ rfl zs _ ZH ?_;intro h w2 hg3 hg4 Z2 L02;have G2:=hI (K1.out.over L02.out);have L2:=hI (step L1.out L02.out);have hgh:g≠h:=(by omega);have hhw:w.heap.size<=h:=(by have:=L1.out.size;omega))
   | ((with_reducible refine sN 25 ?_);refine d0a rfl _ (.tmp 3) rfl g rfl _ cs G2 69 _ Tryz.underlying34 rfl n0a HN ?_)
   | ((with_reducible refine sT 4 ?_);refine e0a rfl _ (.tmp 4) (.tmp 25) rfl h rfl _ zs cs rfl Z2 69 n0a HZ HN HN1 ?_;intro w9 K9 O9 hg9)
   | fail)
  have L9:=hI (c0a L2.out O9.out hhw);refine bodyPost_ret (v:=.tuple #[.agg cs.toArray,.bool true]) ?_ rfl (HQ.out _ _ ⟨_,rfl,HI.out w9 L9.out,L9.out⟩);exact L0a rfl _ _ h _ _ (0,0) _ rfl K9.out Tryz.underlying34 rfl (by rw[n0a];have:=HN.out;simp[this]) rfl
 by_cases h13:c=13
 ·subst h13;have e0:(if M0a 13=true then j1a 13 a else k0a)=a:=rfl;rw[e0,show M0a 13=true from rfl] at HQ;clear e0;obtain⟨A1,A2,A3,X1,X2,X3,M1,M2,M3,rfl,hA,hX,hM⟩:=ha;have HI:Hid (∀w':World,Below w.heap.size w w'->b1a w' w'.heap.size (l0a (.slice A1 A2 A3) (.slice X1 X2 X3) (.slice M1 M2 M3) a) (a)):=λw' hb=>⟨A1,A2,A3,X1,X2,X3,M1,M2,M3,rfl,hA.over hb,hX.over hb,hM.over hb⟩
  have HN:Hid ((l0a (.slice A1 A2 A3) (.slice X1 X2 X3) (.slice M1 M2 M3) a).length=69):=h1a (ka);have HN1:Hid (∀v∈l0a (.slice A1 A2 A3) (.slice X1 X2 X3) (.slice M1 M2 M3) a,v.oneCell'=true):=D1a rfl rfl rfl;obtain⟨cs,hcs⟩:∃c,c=l0a (.slice A1 A2 A3) (.slice X1 X2 X3) (.slice M1 M2 M3) a:=⟨_,rfl⟩;rw[<-hcs] at HL HO1 HI HN HN1⊢;clear hcs HA hA hX hM;go_enter Tryz.func107,Tryz.ntmps107;go_wp2_with(first
   | ((with_reducible refine sN 3 ?_);refine a0a rfl _ (.tmp 1) rfl cs rfl ?_;intro g w1 hg1 hg2 K1 L1)
   | ((with_reducible refine sN 4 ?_);refine b0a rfl _ rfl zs _ ZH ?_;intro h w2 hg3 hg4 Z2 L02;have G2:=hI (K1.out.over L02.out);have L2:=hI (step L1.out L02.out);have hgh:g≠h:=(by omega);have hhw:w.heap.size<=h:=(by have:=L1.out.size;omega))
   | ((with_reducible refine sN 25 ?_);refine d0a rfl _ (.tmp 3) rfl g rfl _ cs G2 69 _ Tryz.underlying34 rfl n0a HN ?_)
   | ((with_reducible refine sT 4 ?_);refine e0a rfl _ (.tmp 4) (.tmp 25) rfl h rfl _ zs cs rfl Z2 69 n0a HZ HN HN1 ?_;intro w9 K9 O9 hg9)
   | fail)
  have L9:=hI (c0a L2.out O9.out hhw);refine bodyPost_ret (v:=.tuple #[.agg cs.toArray,.bool true]) ?_ rfl (HQ.out _ _ ⟨_,rfl,HI.out w9 L9.out,L9.out⟩);exact L0a rfl _ _ h _ _ (0,0) _ rfl K9.out Tryz.underlying34 rfl (by rw[n0a];have:=HN.out;simp[this]) rfl
 have hk:M0a c=false:=by unfold M0a;simp;omega
 rw[if_neg (by rw[hk];decide),hk] at HQ;have b0:(c==0)=false:=by simpa using h0
 have b1:(c==1)=false:=by simpa using h1
 have b3:(c==3)=false:=by simpa using h3
 have b2:(c==2)=false:=by simpa using h2
 have b4:(c==4)=false:=by simpa using h4
 have b13:(c==13)=false:=by simpa using h13
 go_enter Tryz.func107,Tryz.ntmps107;go_wp2_with(first
  | ((with_reducible refine sN 3 ?_);refine a0a rfl _ (.tmp 1) rfl cs rfl ?_;intro g w1 hg1 hg2 K1 L1)
  | ((with_reducible refine sN 4 ?_);refine b0a rfl _ rfl zs _ ZH ?_;intro h w2 hg3 hg4 Z2 L02;have G2:=hI (K1.out.over L02.out);have L2:=hI (step L1.out L02.out);have hgh:g≠h:=(by omega);have hhw:w.heap.size<=h:=(by have:=L1.out.size;omega))
  | ((with_reducible refine sN 7 ?_);refine W0a rfl _ rfl zs BZ ?_)
  | ((with_reducible refine sT 4 ?_);refine e0a rfl _ (.tmp 4) (.tmp 7) rfl h rfl _ zs zs rfl Z2 69 n0a HZ HZ HZ1 ?_;intro w9 K9 O9 hg9)
  | fail)
 have L9:=hI (c0a L2.out O9.out hhw);refine bodyPost_ret (v:=.tuple #[.agg zs.toArray,.bool false]) ?_ rfl (HQ.out _ _ ⟨_,rfl,HZI.out w9,L9.out⟩);exact L0a rfl _ _ h _ _ (0,0) _ rfl K9.out Tryz.underlying34 rfl (by rw[n0a];have:=HZ.out;simp[this]) rfl
def M7a(w:World)(c:Int)(a:E1a)(e:Ending)(w':World):Prop:=∃ds,e=.returned (.tuple #[.agg ds.toArray,.bool (M0a c)])/\f1a w' w'.heap.size ds (if M0a c=true then r1a c a else w0a)/\Below w.heap.size w w'
theorem b1b(w:World)(c:Int)(cs:List Value)(a:E1a)(hc:0<=c/\c<=65535)(ka:a.ok)(ha:f1a w w.heap.size cs a) :
  Calls Tryz.prog 116 #[.int .u16 c,.agg cs.toArray] w (M7a w c a):=by
 have HL:=hI (ha.len ka);have HO1:=hI ha.one;have ZH:=hI I6a;have BZ:=G1b;have HZ:Hid ((s0a (.slice none 0 0) (.slice none 0 0) w0a).length=20):=C1a C0a;have HZ1:Hid (∀v∈s0a (.slice none 0 0) (.slice none 0 0) w0a,v.oneCell'=true):=(R2a w 0).one;have HA:=hI ha;have HQ:Hid (∀e w',(∃ds,e=.returned (.tuple #[.agg ds.toArray,.bool (M0a c)])/\f1a w' w'.heap.size ds (if M0a c=true then r1a c a else w0a)/\Below w.heap.size w w')->M7a w c a e w'):=λ_ _ h=>h
 obtain⟨zs,hzs⟩:∃zs,zs=s0a (.slice none 0 0) (.slice none 0 0) w0a:=⟨_,rfl⟩;have HZI:Hid (∀w':World,f1a w' w'.heap.size zs w0a):=by rw[hzs];exact λw'=>R2a w' _
 rw[<-hzs] at ZH BZ HZ HZ1;clear hzs;by_cases h0:c=0
 ·subst h0;have e0:(if M0a 0=true then r1a 0 a else w0a)={ a with dia:=0,siz:=0,chal:=List.replicate 8 0 }:=rfl;rw[e0,show M0a 0=true from rfl] at HQ;clear e0;obtain⟨X1,X2,X3,M1,M2,M3,rfl,hX,hM⟩:=ha;have HI:Hid (∀w':World,Below w.heap.size w w'->f1a w' w'.heap.size (s0a (.slice X1 X2 X3) (.slice M1 M2 M3) { a with dia:=0,siz:=0,chal:=List.replicate 8 0 }) ({ a with dia:=0,siz:=0,chal:=List.replicate 8 0 })):=λw' hb=>⟨X1,X2,X3,M1,M2,M3,rfl,hX.over hb,hM.over hb⟩
  have HN:Hid ((s0a (.slice X1 X2 X3) (.slice M1 M2 M3) { a with dia:=0,siz:=0,chal:=List.replicate 8 0 }).length=20):=C1a (by have:=t8a (c:=0) ka;exact this);have HN1:Hid (∀v∈s0a (.slice X1 X2 X3) (.slice M1 M2 M3) { a with dia:=0,siz:=0,chal:=List.replicate 8 0 },v.oneCell'=true):=u2a rfl rfl;have HE0:Hid ((s0a (.slice X1 X2 X3) (.slice M1 M2 M3) a).set 0 (.int .u16 0)=s0a (.slice X1 X2 X3) (.slice M1 M2 M3) { a with dia:=0 }):=U3b 0;have HE1:Hid ((s0a (.slice X1 X2 X3) (.slice M1 M2 M3) { a with dia:=0 }).set 1 (.int .u64 0)=s0a (.slice X1 X2 X3) (.slice M1 M2 M3) { a with dia:=0,siz:=0 }):=V3b 0;have HE2:Hid ((s0a (.slice X1 X2 X3) (.slice M1 M2 M3) { a with dia:=0,siz:=0 }).take 2++((List.replicate 8 (0:Int)).map (Value.int .u8)++(s0a (.slice X1 X2 X3) (.slice M1 M2 M3) { a with dia:=0,siz:=0 }).drop (2+8))=s0a (.slice X1 X2 X3) (.slice M1 M2 M3) { a with dia:=0,siz:=0,chal:=List.replicate 8 0 }):=O1b (s:={ a with dia:=0,siz:=0 }) ⟨by show(0:Int)<=0/\(0:Int)<=65535;decide,by show(0:Int)<=0/\(0:Int)<=18446744073709551615;decide,ka.clen,ka.cbyte,ka.lev,ka.dur,ka.made,ka.file,ka.kind,ka.data,ka.n,ka.ents⟩ (List.replicate 8 0);have HN0:Hid (0<(s0a (.slice X1 X2 X3) (.slice M1 M2 M3) a).length):=by show _<_;simp[s0a,f0b,ka.clen]
  have HN2:Hid (1<(s0a (.slice X1 X2 X3) (.slice M1 M2 M3) { a with dia:=0 }).length):=by show _<_;simp[s0a,f0b,ka.clen]
  have HF:Hid (2+8<=(s0a (.slice X1 X2 X3) (.slice M1 M2 M3) { a with dia:=0,siz:=0 }).length):=by show _<=_;simp[s0a,f0b,ka.clen]
  have HLZ:Hid (((List.replicate 8 (0:Int)).map (Value.int .u8)).length=8):=by show _=_;simp
  have OZ:Hid (∀v∈(List.replicate 8 (0:Int)).map (Value.int .u8),v.oneCell'=true):=λv hv=>v4a hv
  have BL:=u0b;obtain⟨lz,hlz⟩:∃z,z=(List.replicate 8 (0:Int)).map (Value.int .u8):=⟨_,rfl⟩;rw[<-hlz] at HLZ OZ BL HE2;clear hlz;obtain⟨cs,hcs⟩:∃c,c=s0a (.slice X1 X2 X3) (.slice M1 M2 M3) a:=⟨_,rfl⟩;rw[<-hcs] at HL HO1 HE0 HN0⊢;clear hcs HA hX hM;obtain⟨d0,hd0⟩:∃c,c=s0a (.slice X1 X2 X3) (.slice M1 M2 M3) { a with dia:=0 }:=⟨_,rfl⟩;rw[<-hd0] at HE0 HE1 HN2;clear hd0;obtain⟨d1,hd1⟩:∃c,c=s0a (.slice X1 X2 X3) (.slice M1 M2 M3) { a with dia:=0,siz:=0 }:=⟨_,rfl⟩;rw[<-hd1] at HE1 HE2 HF;clear hd1;obtain⟨d2,hd2⟩:∃c,c=s0a (.slice X1 X2 X3) (.slice M1 M2 M3) { a with dia:=0,siz:=0,chal:=List.replicate 8 0 }:=⟨_,rfl⟩;rw[<-hd2] at HE2 HI HN HN1;clear hd2;go_enter Tryz.func116,Tryz.ntmps116;go_wp2_with(first
   | ((with_reducible refine sN 3 ?_);refine a0a rfl _ (.tmp 1) rfl cs rfl ?_;intro g w1 hg1 hg2 K1 L1)
   | ((with_reducible refine sN 4 ?_);refine b0a rfl _ rfl zs _ ZH ?_;intro h w2 hg3 hg4 Z2 L02;have G2:=hI (K1.out.over L02.out);have L2:=hI (step L1.out L02.out);have hgh:g≠h:=(by omega);have hhw:w.heap.size<=h:=(by have:=L1.out.size;omega))
   | ((with_reducible refine sT 11 ?_);refine h0a rfl _ (.tmp 11) (.const (.int .u16 0)) rfl g 0 rfl _ cs (.int .u16 0) rfl G2 HN0 (by kernel_rfl) rfl ?_;intro w3 K3 O3 q3;rw[HE0.out] at K3;have Z3:=hI (Z2.out.only O3.out (Ne.symm hgh));have L3:Hid (Below w.heap.size w w3):=c0a L2.out O3.out hg1)
   | ((with_reducible refine sT 12 ?_);refine h0a rfl _ (.tmp 12) (.const (.int .u64 0)) rfl g 1 rfl _ d0 (.int .u64 0) rfl K3 HN2 (by kernel_rfl) rfl ?_;intro w4 K4 O4 q4;rw[HE1.out] at K4;have Z4:=hI (Z3.out.only O4.out (Ne.symm hgh));have L4:Hid (Below w.heap.size w w4):=c0a L3.out O4.out hg1)
   | ((with_reducible refine sT 13 ?_);refine k2a rfl _ (.tmp 13) (.tmp 10) rfl g 2 rfl _ d1 lz rfl K4 8 d2a HLZ HF OZ ?_;intro w5 K5 O5 q5;rw[HE2.out] at K5;have Z5:=hI (Z4.out.only O5.out (Ne.symm hgh));have L5:Hid (Below w.heap.size w w5):=c0a L4.out O5.out hg1)
   | ((with_reducible refine sN 10 ?_);refine W0a rfl _ rfl lz BL ?_)
   | ((with_reducible refine sN 20 ?_);refine d0a rfl _ (.tmp 3) rfl g rfl _ d2 K5 20 _ Tryz.underlying39 rfl v0a HN ?_)
   | ((with_reducible refine sT 4 ?_);refine e0a rfl _ (.tmp 4) (.tmp 20) rfl h rfl _ zs d2 rfl Z5 20 v0a HZ HN HN1 ?_;intro w9 K9 O9 hg9)
   | fail)
  have L9:=hI (c0a L5.out O9.out hhw);refine bodyPost_ret (v:=.tuple #[.agg d2.toArray,.bool true]) ?_ rfl (HQ.out _ _ ⟨_,rfl,HI.out w9 L9.out,L9.out⟩);exact L0a rfl _ _ h _ _ (0,0) _ rfl K9.out Tryz.underlying39 rfl (by rw[v0a];have:=HN.out;simp[this]) rfl
 by_cases h1:c=1
 ·subst h1;have e0:(if M0a 1=true then r1a 1 a else w0a)=a:=rfl;rw[e0,show M0a 1=true from rfl] at HQ;clear e0;obtain⟨X1,X2,X3,M1,M2,M3,rfl,hX,hM⟩:=ha;have HI:Hid (∀w':World,Below w.heap.size w w'->f1a w' w'.heap.size (s0a (.slice X1 X2 X3) (.slice M1 M2 M3) a) (a)):=λw' hb=>⟨X1,X2,X3,M1,M2,M3,rfl,hX.over hb,hM.over hb⟩
  have HN:Hid ((s0a (.slice X1 X2 X3) (.slice M1 M2 M3) a).length=20):=C1a (ka);have HN1:Hid (∀v∈s0a (.slice X1 X2 X3) (.slice M1 M2 M3) a,v.oneCell'=true):=u2a rfl rfl;obtain⟨cs,hcs⟩:∃c,c=s0a (.slice X1 X2 X3) (.slice M1 M2 M3) a:=⟨_,rfl⟩;rw[<-hcs] at HL HO1 HI HN HN1⊢;clear hcs HA hX hM;go_enter Tryz.func116,Tryz.ntmps116;go_wp2_with(first
   | ((with_reducible refine sN 3 ?_);refine a0a rfl _ (.tmp 1) rfl cs rfl ?_;intro g w1 hg1 hg2 K1 L1)
   | ((with_reducible refine sN 4 ?_);refine b0a rfl _ rfl zs _ ZH ?_;intro h w2 hg3 hg4 Z2 L02;have G2:=hI (K1.out.over L02.out);have L2:=hI (step L1.out L02.out);have hgh:g≠h:=(by omega);have hhw:w.heap.size<=h:=(by have:=L1.out.size;omega))
   | ((with_reducible refine sN 20 ?_);refine d0a rfl _ (.tmp 3) rfl g rfl _ cs G2 20 _ Tryz.underlying39 rfl v0a HN ?_)
   | ((with_reducible refine sT 4 ?_);refine e0a rfl _ (.tmp 4) (.tmp 20) rfl h rfl _ zs cs rfl Z2 20 v0a HZ HN HN1 ?_;intro w9 K9 O9 hg9)
   | fail)
  have L9:=hI (c0a L2.out O9.out hhw);refine bodyPost_ret (v:=.tuple #[.agg cs.toArray,.bool true]) ?_ rfl (HQ.out _ _ ⟨_,rfl,HI.out w9 L9.out,L9.out⟩);exact L0a rfl _ _ h _ _ (0,0) _ rfl K9.out Tryz.underlying39 rfl (by rw[v0a];have:=HN.out;simp[this]) rfl
 by_cases h3:c=3
 ·subst h3;have e0:(if M0a 3=true then r1a 3 a else w0a)=a:=rfl;rw[e0,show M0a 3=true from rfl] at HQ;clear e0;obtain⟨X1,X2,X3,M1,M2,M3,rfl,hX,hM⟩:=ha;have HI:Hid (∀w':World,Below w.heap.size w w'->f1a w' w'.heap.size (s0a (.slice X1 X2 X3) (.slice M1 M2 M3) a) (a)):=λw' hb=>⟨X1,X2,X3,M1,M2,M3,rfl,hX.over hb,hM.over hb⟩
  have HN:Hid ((s0a (.slice X1 X2 X3) (.slice M1 M2 M3) a).length=20):=C1a (ka);have HN1:Hid (∀v∈s0a (.slice X1 X2 X3) (.slice M1 M2 M3) a,v.oneCell'=true):=u2a rfl rfl;obtain⟨cs,hcs⟩:∃c,c=s0a (.slice X1 X2 X3) (.slice M1 M2 M3) a:=⟨_,rfl⟩;rw[<-hcs] at HL HO1 HI HN HN1⊢;clear hcs HA hX hM;go_enter Tryz.func116,Tryz.ntmps116;go_wp2_with(first
   | ((with_reducible refine sN 3 ?_);refine a0a rfl _ (.tmp 1) rfl cs rfl ?_;intro g w1 hg1 hg2 K1 L1)
   | ((with_reducible refine sN 4 ?_);refine b0a rfl _ rfl zs _ ZH ?_;intro h w2 hg3 hg4 Z2 L02;have G2:=hI (K1.out.over L02.out);have L2:=hI (step L1.out L02.out);have hgh:g≠h:=(by omega);have hhw:w.heap.size<=h:=(by have:=L1.out.size;omega))
   | ((with_reducible refine sN 20 ?_);refine d0a rfl _ (.tmp 3) rfl g rfl _ cs G2 20 _ Tryz.underlying39 rfl v0a HN ?_)
   | ((with_reducible refine sT 4 ?_);refine e0a rfl _ (.tmp 4) (.tmp 20) rfl h rfl _ zs cs rfl Z2 20 v0a HZ HN HN1 ?_;intro w9 K9 O9 hg9)
   | fail)
  have L9:=hI (c0a L2.out O9.out hhw);refine bodyPost_ret (v:=.tuple #[.agg cs.toArray,.bool true]) ?_ rfl (HQ.out _ _ ⟨_,rfl,HI.out w9 L9.out,L9.out⟩);exact L0a rfl _ _ h _ _ (0,0) _ rfl K9.out Tryz.underlying39 rfl (by rw[v0a];have:=HN.out;simp[this]) rfl
 by_cases h2:c=2
 ·subst h2;have e0:(if M0a 2=true then r1a 2 a else w0a)=a:=rfl;rw[e0,show M0a 2=true from rfl] at HQ;clear e0;obtain⟨X1,X2,X3,M1,M2,M3,rfl,hX,hM⟩:=ha;have HI:Hid (∀w':World,Below w.heap.size w w'->f1a w' w'.heap.size (s0a (.slice X1 X2 X3) (.slice M1 M2 M3) a) (a)):=λw' hb=>⟨X1,X2,X3,M1,M2,M3,rfl,hX.over hb,hM.over hb⟩
  have HN:Hid ((s0a (.slice X1 X2 X3) (.slice M1 M2 M3) a).length=20):=C1a (ka);have HN1:Hid (∀v∈s0a (.slice X1 X2 X3) (.slice M1 M2 M3) a,v.oneCell'=true):=u2a rfl rfl;obtain⟨cs,hcs⟩:∃c,c=s0a (.slice X1 X2 X3) (.slice M1 M2 M3) a:=⟨_,rfl⟩;rw[<-hcs] at HL HO1 HI HN HN1⊢;clear hcs HA hX hM;go_enter Tryz.func116,Tryz.ntmps116;go_wp2_with(first
   | ((with_reducible refine sN 3 ?_);refine a0a rfl _ (.tmp 1) rfl cs rfl ?_;intro g w1 hg1 hg2 K1 L1)
   | ((with_reducible refine sN 4 ?_);refine b0a rfl _ rfl zs _ ZH ?_;intro h w2 hg3 hg4 Z2 L02;have G2:=hI (K1.out.over L02.out);have L2:=hI (step L1.out L02.out);have hgh:g≠h:=(by omega);have hhw:w.heap.size<=h:=(by have:=L1.out.size;omega))
   | ((with_reducible refine sN 20 ?_);refine d0a rfl _ (.tmp 3) rfl g rfl _ cs G2 20 _ Tryz.underlying39 rfl v0a HN ?_)
   | ((with_reducible refine sT 4 ?_);refine e0a rfl _ (.tmp 4) (.tmp 20) rfl h rfl _ zs cs rfl Z2 20 v0a HZ HN HN1 ?_;intro w9 K9 O9 hg9)
   | fail)
  have L9:=hI (c0a L2.out O9.out hhw);refine bodyPost_ret (v:=.tuple #[.agg cs.toArray,.bool true]) ?_ rfl (HQ.out _ _ ⟨_,rfl,HI.out w9 L9.out,L9.out⟩);exact L0a rfl _ _ h _ _ (0,0) _ rfl K9.out Tryz.underlying39 rfl (by rw[v0a];have:=HN.out;simp[this]) rfl
 by_cases h4:c=4
 ·subst h4;have e0:(if M0a 4=true then r1a 4 a else w0a)=a:=rfl;rw[e0,show M0a 4=true from rfl] at HQ;clear e0;obtain⟨X1,X2,X3,M1,M2,M3,rfl,hX,hM⟩:=ha;have HI:Hid (∀w':World,Below w.heap.size w w'->f1a w' w'.heap.size (s0a (.slice X1 X2 X3) (.slice M1 M2 M3) a) (a)):=λw' hb=>⟨X1,X2,X3,M1,M2,M3,rfl,hX.over hb,hM.over hb⟩
  have HN:Hid ((s0a (.slice X1 X2 X3) (.slice M1 M2 M3) a).length=20):=C1a (ka);have HN1:Hid (∀v∈s0a (.slice X1 X2 X3) (.slice M1 M2 M3) a,v.oneCell'=true):=u2a rfl rfl;obtain⟨cs,hcs⟩:∃c,c=s0a (.slice X1 X2 X3) (.slice M1 M2 M3) a:=⟨_,rfl⟩;rw[<-hcs] at HL HO1 HI HN HN1⊢;clear hcs HA hX hM;go_enter Tryz.func116,Tryz.ntmps116;go_wp2_with(first
   | ((with_reducible refine sN 3 ?_);refine a0a rfl _ (.tmp 1) rfl cs rfl ?_;intro g w1 hg1 hg2 K1 L1)
   | ((with_reducible refine sN 4 ?_);refine b0a rfl _ rfl zs _ ZH ?_;intro h w2 hg3 hg4 Z2 L02;have G2:=hI (K1.out.over L02.out);have L2:=hI (step L1.out L02.out);have hgh:g≠h:=(by omega);have hhw:w.heap.size<=h:=(by have:=L1.out.size;omega))
   | ((with_reducible refine sN 20 ?_);refine d0a rfl _ (.tmp 3) rfl g rfl _ cs G2 20 _ Tryz.underlying39 rfl v0a HN ?_)
   | ((with_reducible refine sT 4 ?_);refine e0a rfl _ (.tmp 4) (.tmp 20) rfl h rfl _ zs cs rfl Z2 20 v0a HZ HN HN1 ?_;intro w9 K9 O9 hg9)
   | fail)
  have L9:=hI (c0a L2.out O9.out hhw);refine bodyPost_ret (v:=.tuple #[.agg cs.toArray,.bool true]) ?_ rfl (HQ.out _ _ ⟨_,rfl,HI.out w9 L9.out,L9.out⟩);exact L0a rfl _ _ h _ _ (0,0) _ rfl K9.out Tryz.underlying39 rfl (by rw[v0a];have:=HN.out;simp[this]) rfl
 by_cases h13:c=13
 ·subst h13;have e0:(if M0a 13=true then r1a 13 a else w0a)=a:=rfl;rw[e0,show M0a 13=true from rfl] at HQ;clear e0;obtain⟨X1,X2,X3,M1,M2,M3,rfl,hX,hM⟩:=ha;have HI:Hid (∀w':World,Below w.heap.size w w'->f1a w' w'.heap.size (s0a (.slice X1 X2 X3) (.slice M1 M2 M3) a) (a)):=λw' hb=>⟨X1,X2,X3,M1,M2,M3,rfl,hX.over hb,hM.over hb⟩
  have HN:Hid ((s0a (.slice X1 X2 X3) (.slice M1 M2 M3) a).length=20):=C1a (ka);have HN1:Hid (∀v∈s0a (.slice X1 X2 X3) (.slice M1 M2 M3) a,v.oneCell'=true):=u2a rfl rfl;obtain⟨cs,hcs⟩:∃c,c=s0a (.slice X1 X2 X3) (.slice M1 M2 M3) a:=⟨_,rfl⟩;rw[<-hcs] at HL HO1 HI HN HN1⊢;clear hcs HA hX hM;go_enter Tryz.func116,Tryz.ntmps116;go_wp2_with(first
   | ((with_reducible refine sN 3 ?_);refine a0a rfl _ (.tmp 1) rfl cs rfl ?_;intro g w1 hg1 hg2 K1 L1)
   | ((with_reducible refine sN 4 ?_);refine b0a rfl _ rfl zs _ ZH ?_;intro h w2 hg3 hg4 Z2 L02;have G2:=hI (K1.out.over L02.out);have L2:=hI (step L1.out L02.out);have hgh:g≠h:=(by omega);have hhw:w.heap.size<=h:=(by have:=L1.out.size;omega))
   | ((with_reducible refine sN 20 ?_);refine d0a rfl _ (.tmp 3) rfl g rfl _ cs G2 20 _ Tryz.underlying39 rfl v0a HN ?_)
   | ((with_reducible refine sT 4 ?_);refine e0a rfl _ (.tmp 4) (.tmp 20) rfl h rfl _ zs cs rfl Z2 20 v0a HZ HN HN1 ?_;intro w9 K9 O9 hg9)
   | fail)
  have L9:=hI (c0a L2.out O9.out hhw);refine bodyPost_ret (v:=.tuple #[.agg cs.toArray,.bool true]) ?_ rfl (HQ.out _ _ ⟨_,rfl,HI.out w9 L9.out,L9.out⟩);exact L0a rfl _ _ h _ _ (0,0) _ rfl K9.out Tryz.underlying39 rfl (by rw[v0a];have:=HN.out;simp[this]) rfl
 have hk:M0a c=false:=by unfold M0a;simp;omega
 rw[if_neg (by rw[hk];decide),hk] at HQ;have b0:(c==0)=false:=by simpa using h0
 have b1:(c==1)=false:=by simpa using h1
 have b3:(c==3)=false:=by simpa using h3
 have b2:(c==2)=false:=by simpa using h2
 have b4:(c==4)=false:=by simpa using h4
 have b13:(c==13)=false:=by simpa using h13
 go_enter Tryz.func116,Tryz.ntmps116;go_wp2_with(first
  | ((with_reducible refine sN 3 ?_);refine a0a rfl _ (.tmp 1) rfl cs rfl ?_;intro g w1 hg1 hg2 K1 L1)
  | ((with_reducible refine sN 4 ?_);refine b0a rfl _ rfl zs _ ZH ?_;intro h w2 hg3 hg4 Z2 L02;have G2:=hI (K1.out.over L02.out);have L2:=hI (step L1.out L02.out);have hgh:g≠h:=(by omega);have hhw:w.heap.size<=h:=(by have:=L1.out.size;omega))
  | ((with_reducible refine sN 7 ?_);refine W0a rfl _ rfl zs BZ ?_)
  | ((with_reducible refine sT 4 ?_);refine e0a rfl _ (.tmp 4) (.tmp 7) rfl h rfl _ zs zs rfl Z2 20 v0a HZ HZ HZ1 ?_;intro w9 K9 O9 hg9)
  | fail)
 have L9:=hI (c0a L2.out O9.out hhw);refine bodyPost_ret (v:=.tuple #[.agg zs.toArray,.bool false]) ?_ rfl (HQ.out _ _ ⟨_,rfl,HZI.out w9,L9.out⟩);exact L0a rfl _ _ h _ _ (0,0) _ rfl K9.out Tryz.underlying39 rfl (by rw[v0a];have:=HZ.out;simp[this]) rfl
def K1a(xs:List Int):List Int:=xs.flatMap (λd=>le d 2)
def n7a(a:m1a):List Int:=le a.dial.length 2++K1a a.dial++a.guid
theorem N4a(xs:List Int):(K1a xs).length=2*xs.length:=by
 induction xs with
 | nil=>rfl
 | cons x xs ih=>rw[show K1a (x::xs)=le x 2++K1a xs from rfl,List.length_append,m0a,ih,List.length_cons];omega
theorem w8a(xs:List Int)(x:Int):K1a (xs++[x])=K1a xs++le x 2:=by simp[K1a]
theorem c1b(xs:List Int):Bytes (K1a xs):=by
 induction xs with
 | nil=>exact Bytes.nil
 | cons x xs ih=>exact(F0a x 2).append ih
theorem H9a(w:World)(n:Int)(h0:0<=n)(h1:n<=65535) :
  Calls Tryz.prog 118 #[.int .u64 n,.int .i64 2] w λe w'=>∃A',e=.returned (.slice A' 2 2)/\Y1a w' w.heap.size A' (le n 2)/\Below w.heap.size w w':=by
 obtain⟨m,rfl⟩:=Int.eq_ofNat_of_zero_le h0;have h:=O3b w (m:Int) 2 (by omega) (by omega);unfold E2b at h;rw[(s7b m (by omega)).1,m0a] at h;exact h
theorem x8a{vd vx vl:Value}{a:m1a}{w:World}{g:Nat}{T:TypeId}(k:a.ok)(h:Blk w g T (l0a vd vx vl a)):Holds w w.heap.size (some ⟨g,1,none⟩) 16 16 a.guid:=by
 have hr:=D4a h k;refine⟨k.glen,Nat.le_refl _,by decide,k.gbyte,λhA=>(by cases hA),λ_=>⟨g,1,rfl,h.lt,λi hi=>?_⟩⟩;rw[hr i (.int .u8 (a.guid.getD i 0)) (by
  have:i<a.guid.length:=by rw[k.glen];exact hi
  simp[List.getD_eq_getElem?_getD,this])]
theorem N7a{vd vx vl:Value}{a:m1a}{w:World}{g:Nat}{T:TypeId}(k:a.ok)(h:Blk w g T (l0a vd vx vl a)):Holds w w.heap.size (some ⟨g,17,none⟩) 32 32 a.proof:=by
 have hr:=f4a h k;refine⟨k.plen,Nat.le_refl _,by decide,k.pbyte,λhA=>(by cases hA),λ_=>⟨g,17,rfl,h.lt,λi hi=>?_⟩⟩;rw[hr i (.int .u8 (a.proof.getD i 0)) (by
  have:i<a.proof.length:=by rw[k.plen];exact hi
  simp[List.getD_eq_getElem?_getD,this])]
theorem P1b{vx ve:Value}{s:E1a}{w:World}{g:Nat}{T:TypeId}(k:s.ok)(h:Blk w g T (s0a vx ve s)):Holds w w.heap.size (some ⟨g,2,none⟩) 8 8 s.chal:=by
 have hr:=E4a h k;refine⟨k.clen,Nat.le_refl _,by decide,k.cbyte,λhA=>(by cases hA),λ_=>⟨g,2,rfl,h.lt,λi hi=>?_⟩⟩;rw[hr i (.int .u8 (s.chal.getD i 0)) (by
  have:i<s.chal.length:=by rw[k.clen];exact hi
  simp[List.getD_eq_getElem?_getD,this])]
section
variable {P:Program} {ops:Array Oper} {Q:Exit->Act->World->Prop}
theorem W3b{md:Region.Mode}{S:World->Prop}(i j:Nat)(oi oj:Oper){fuel:Nat}{listed:Array Bool}{a:Act}{w:World}(hr:Region.ready md ops listed=[i,j])(hi:ops[i]? = some oi)(hj:ops[j]? = some oj)
(h1:∀K:Act->World->Prop,(∀a' w',S w'->wpAnyH P md ops Q S fuel (listed.setIfInBounds i true) a' w'->K a' w')->if Region.wanted oi (yielded ops a.tmps)=true then oi.wp P a w K Q else K (a.put oi.dst undef) w)
(h2:∀K:Act->World->Prop,(∀a' w',S w'->wpAnyH P md ops Q S fuel (listed.setIfInBounds j true) a' w'->K a' w')->if Region.wanted oj (yielded ops a.tmps)=true then oj.wp P a w K Q else K (a.put oj.dst undef) w) :
  wpAnyH P md ops Q S (fuel+1) listed a w:=by
 refine wpAnyH_all hr (by simp) λq hq=>?_
 rcases List.mem_cons.1 hq with rfl | hq
 ·have h3:=h1 (λa' w'=>S w'/\wpAnyH P md ops Q S fuel (listed.setIfInBounds q true) a' w') λ_ _ h2 h3=>⟨h2,h3⟩
  unfold wpOp;simp only[hi];by_cases hw:Region.wanted oi (yielded ops a.tmps)=true
  ·rw[if_pos hw] at h3⊢;exact .inl h3
  ·rw[if_neg hw] at h3⊢;exact h3
 ·obtain rfl:=List.mem_singleton.1 hq;have h3:=h2 (λa' w'=>S w'/\wpAnyH P md ops Q S fuel (listed.setIfInBounds q true) a' w') λ_ _ h2 h3=>⟨h2,h3⟩
  unfold wpOp;simp only[hj];by_cases hw:Region.wanted oj (yielded ops a.tmps)=true
  ·rw[if_pos hw] at h3⊢;exact .inl h3
  ·rw[if_neg hw] at h3⊢;exact h3
end
def g1a(c:Int)(a:m1a):Int:=if M0a c=true/\j1a c a=k0a then (if c=0 then (if a.dial.length<=16 then 0 else 3) else if c=1 then u0a a.user.data.toList else if c=3 then u0a a.share.data.toList else 0) else 2
def q3a(c:Int)(a:m1a):List Int:=if g1a c a=0 then (if c=0 then n7a a else if c=1 then a.proof++G0a a.user.data.toList else if c=3 then G0a a.share.data.toList else List.replicate 4 0) else []
def z1a(c:Int)(s:E1a):Int:=if M0a c=true/\r1a c s=w0a/\(c=0->s.siz<4294967296) then 0 else 2
def O3a(c:Int)(s:E1a):List Int:=if z1a c s=0 then (if c=0 then le s.dia 2++List.replicate 2 0++le s.siz 4++s.chal else List.replicate 4 0) else []
def y2a(w:World)(c:Int)(a:m1a)(e:Ending)(w':World):Prop:=∃v,e=.returned (.tuple #[v,.int .i64 (g1a c a)])/\Own w' w.heap.size v (q3a c a)/\Below w.heap.size w w'
def I6b(w:World)(c:Int)(s:E1a)(e:Ending)(w':World):Prop:=∃v,e=.returned (.tuple #[v,.int .i64 (z1a c s)])/\Own w' w.heap.size v (O3a c s)/\Below w.heap.size w w'
theorem f5b{w:World}{g base n:Nat}(h:Row w g (List.replicate n 0))(hb:base<=g)(hn:n<=281474976710656):Own w base (.slice (some ⟨g,0,none⟩) n n) (List.replicate n 0):=Y1a.own (.inr ⟨g,rfl,hb,h⟩) (by simp) hn
theorem b3a{o:Oper}{ops:Array Oper}{a:Act}{w:World}{K:Act->World->Prop}{Q:Exit->Act->World->Prop}{E:Prop}(hg:o.guard=none)(l c:Operand)(hop:o.op=Op.makeSlice 31 l c)(n:Nat)(hl:a.eval l=.int .i64 (n:Int))(hc:a.eval c=.int .i64 (n:Int))(hn:n<=281474976710656)
(hK:∀w',Hid (Row w' w.heap.size (List.replicate n 0))->Hid (Below w.heap.size w w')->K (a.put o.dst (.slice (some ⟨w.heap.size,0,none⟩) n n)) w') :
  if Region.wanted o (yielded ops a.tmps)=true then Oper.wp Tryz.prog o a w K Q else E:=by
 rw[if_pos (by simp[Region.wanted,hg])];have hrun:=run_make_row' (P:=Tryz.prog) 31 5 (.int .u8 0) 1 Tryz.underlying31 v3a rfl .i64 .i64 n (by omega) (by omega) w;unfold Oper.wp;simp[execOp,hop,hl,hc,hrun,Result.andThen];refine hK _ ?_ ((Below.refl _ _).alloc (Nat.le_refl _) _);show(w.alloc _).heap[w.heap.size]? = _
 rw[heap_alloc_new];have h:=toList_madeCells_one (.int .u8 0) n;rw[List.map_replicate,<-h]
theorem S3a.of_blk{w:World}{g:Nat}{T:TypeId}(l:List R0b)(h:Blk w g T (l.map D1b))(hh:∀p∈l,Holds w w.heap.size p.1 p.2.1 p.2.2.1 p.2.2.2):S3a w g l.length (c0b l) (m9a l) (d0b l) (T3a l):=by
 refine⟨h.lt,λi hi=>?_,λi hi=>?_⟩
 ·rw[h.cell];simp[c0b,m9a,d0b,List.getD_eq_getElem?_getD,hi,D1b]
 ·have he:l.getD i L3b=l[i]:=by simp[List.getD_eq_getElem?_getD,hi]
  have:=hh l[i] (List.getElem_mem hi);unfold c0b m9a d0b T3a;rw[he];exact this
theorem q2a(l:List UInt8):(G0a l).length<=514:=by
 unfold G0a;split
 ·rename_i h;have h2:(R1a l).length<=512:=by
   unfold u0a at h;by_cases ht:s2a l=0
   ·rw[if_pos ht] at h;by_cases hm:(R1a l).length<=512
    ·exact hm
    ·rw[if_neg hm] at h;exact absurd h (by decide)
   ·rw[if_neg ht] at h;exact absurd h ht
  rw[Q4b _ (by omega)];omega
 ·simp
theorem v1a(l:List UInt8):Bytes (G0a l):=by
 unfold G0a;split
 ·exact A2b (d7a l)
 ·exact Bytes.nil
end Go.Proofs.YtgfflnjggnadpaaGreatDoor
