import Derived.Test.YtdgpbhdihhchgaaGreatDoorSAN
import Derived.Test.YtdgpbhdihhchgaaGreatDoorSAO
import Derived.Test.YtdgpbhdihhchgaaGreatDoorSAP
import Derived.Test.YtdgpbhdihhchgaaGreatDoorSAQ
import Derived.Test.YtdgpbhdihhchgaaGreatDoorS0
set_option linter.all false
set_option maxHeartbeats 8000000
set_option maxRecDepth 100000
namespace Go.Proofs.YtdgpbhdihhchgaaGreatDoor
set_option maxRecDepth 100000
open Go.RowKit
theorem S7b(w:World)(v:Value)(h:NoV w v)(n:Int)(s t:ByteArray)(k:Int):Calls Tryz.prog 19 #[v,.int .i64 n,.string s,.string t,.int .i64 k] w λe w'=>e=.returned (.tuple #[.slice none 0 0,.bool false,.int .i64 1])/\Below w.heap.size w w':=by have H:=hI (h.node (Below.refl _ _) n);clear h;go_enter Tryz.func19,Tryz.ntmps19;go_wp2_with fail;refine H.out.mono ?_;rintro e w1 ⟨rfl,rfl⟩;go_wp2_with fail;go_ret3;exact⟨rfl,Below.refl _ _⟩
theorem C5b(w:World)(v:Value)(h:NoV w v)(n a:Int):Calls Tryz.prog 30 #[v,.int .i64 n,.int .i64 a,.slice none 0 0] w λe w'=>e=.returned (.int .i64 1)/\Below w.heap.size w w':=by
 have hmf:∀(fn:Fn) (first cap:Array Value) (w:World),(Instr.makeFunc fn first cap).run Tryz.prog w=.ok (.func fn first cap) w:=λ_ _ _ _=>rfl
 have CC:Hid (∀w' f,Below w.heap.size w w'->Calls Tryz.prog 74 #[v,.int .i64 n,f] w' λe w2=>e=.returned (.int .i64 1)/\w'=w2):=λw' f hb=>h.change hb n f
 clear h;go_enter Tryz.func30,Tryz.ntmps30;go_wp2_with(first
  | ((with_reducible refine sN 6 ?_);refine w0a rfl _ (.tmp 2) rfl (.int .i64 a) rfl rfl ?_;intro p6 w1 g1 g2 B1 L1)
  | ((with_reducible refine sN 7 ?_);refine w0a rfl _ (.tmp 3) rfl (.slice none 0 0) rfl rfl ?_;intro p7 w2 g3 g4 B2 L2;have L12:=hI (step L1.out L2.out))
  | fail)
 refine(CC.out w2 _ L12.out).mono ?_;rintro e w3 ⟨rfl,rfl⟩;go_wp2_with fail;go_ret;exact⟨rfl,L12.out⟩
theorem c2c(w:World)(v:Value)(h:NoV w v)(n a:Int):Calls Tryz.prog 31 #[v,.int .i64 n,.int .i64 a] w λe w'=>e=.returned (.int .i64 1)/\Below w.heap.size w w':=by
 have hmf:∀(fn:Fn) (first cap:Array Value) (w:World),(Instr.makeFunc fn first cap).run Tryz.prog w=.ok (.func fn first cap) w:=λ_ _ _ _=>rfl
 have CC:Hid (∀w' f,Below w.heap.size w w'->Calls Tryz.prog 74 #[v,.int .i64 n,f] w' λe w2=>e=.returned (.int .i64 1)/\w'=w2):=λw' f hb=>h.change hb n f
 clear h;go_enter Tryz.func31,Tryz.ntmps31;go_wp2_with(first
  | ((with_reducible refine sN 5 ?_);refine w0a rfl _ (.tmp 2) rfl (.int .i64 a) rfl rfl ?_;intro p6 w1 g1 g2 B1 L1)
  | fail)
 refine(CC.out w1 _ L1.out).mono ?_;rintro e w3 ⟨rfl,rfl⟩;go_wp2_with fail;go_ret;exact⟨rfl,L1.out⟩
theorem U3c:Tryz.prog.built 71 []=some (#[.int .i64 0,.map none,.int .i64 0]:Array Value):=by kernel_rfl
theorem w9b(I:e0b)(W:World)(htb:I.tb W.heap.size W)(s:ByteArray)(n a:Int)(b:Bool) :
  Calls Tryz.prog 10 #[.string s,.int .i64 n,.int .i64 a,.bool b] W λe w'=>e=.returned (.bool true)/\Below W.heap.size W w':=by
 have hem:((⟨#[]⟩:ByteArray).toList==[])=true:=by rw[b4a];rfl
 cases b
 ·have h1:NoV W (.pointer none):=.inl rfl;have L1:Below W.heap.size W W:=Below.refl _ _;go_enter Tryz.func10,Tryz.ntmps10;go_wp2_with fail;refine(a4b _ _ h1 s).mono ?_;rintro e w2 ⟨rfl,l2⟩;have h2:=h1.below l2;have L2:=L1.trans (l2.mono L1.size);go_wp2_with fail;refine(e4b _ _ h2 s 2).mono ?_;rintro e w3 ⟨rfl,l3⟩;have h3:=h2.below l3;have L3:=L2.trans (l3.mono L2.size);go_wp2_with fail;refine(d4b _ _ h3 n).mono ?_;rintro e w4 ⟨rfl,l4⟩;have h4:=h3.below l4;have L4:=L3.trans (l4.mono L3.size);go_wp2_with(first
   | ((with_reducible refine sN 14 ?_);refine i0a rfl _ rfl [.int .u8 0,.int .i64 0] 2 w2a ?_;intro b v0 hb1 hb2 X0 L0)
   | ((with_reducible refine sT 14 ?_);go_loud (refine l0a rfl _ (.tmp 14) (.tmp 42) rfl b rfl _ _ [.int .u8 0,.int .i64 0] rfl X0 2 J0a rfl rfl (by intro u hu;simp only[List.mem_cons,List.not_mem_nil,or_false] at hu;rcases hu with rfl | rfl<;>rfl) ?_);intro v2 X2 O2 hg2)
   | fail)
  have l5:=r0a L0.out O2.out hb1;have h5:=h4.below l5;have L5:=L4.trans (l5.mono L4.size);clear X0 X2 O2 L0;refine(o9a _ _ h5 n).mono ?_;rintro e w6 ⟨rfl,l6⟩;have h6:=h5.below l6;have L6:=L5.trans (l6.mono L5.size);go_wp2_with fail;refine(c4b _ _ h6 n a 1).mono ?_;rintro e w7 ⟨rfl,l7⟩;have h7:=h6.below l7;have L7:=L6.trans (l7.mono L6.size);go_wp2_with fail;refine(S7b _ _ h7 n s s a).mono ?_;rintro e w8 ⟨rfl,l8⟩;have h8:=h7.below l8;have L8:=L7.trans (l8.mono L7.size);go_wp2_with fail;refine(Y9a _ _ h8 n).mono ?_;rintro e w9 ⟨rfl,l9⟩;have h9:=h8.below l9;have L9:=L8.trans (l9.mono L8.size);go_wp2_with fail;refine(b4b _ _ h9 n s true).mono ?_;rintro e w10 ⟨rfl,l10⟩;have h10:=h9.below l10;have L10:=L9.trans (l10.mono L9.size);go_wp2_with fail;refine(C5b _ _ h10 n a).mono ?_;rintro e w11 ⟨rfl,l11⟩;have h11:=h10.below l11;have L11:=L10.trans (l11.mono L10.size);go_wp2_with fail;refine(c2c _ _ h11 n a).mono ?_;rintro e w12 ⟨rfl,l12⟩;have h12:=h11.below l12;have L12:=L11.trans (l12.mono L11.size);go_wp2_with fail;refine(W3b _ _ h12).mono ?_;rintro e w13 ⟨rfl,l13⟩;have h13:=h12.below l13;have L13:=L12.trans (l13.mono L12.size);go_wp2_with fail;refine(n7a _ _ h13).mono ?_;rintro e w14 ⟨rfl,l14⟩;have L14:=L13.trans (l14.mono L13.size);go_wp2_with fail;refine(U2a I w14 (I.tbUp (I.tbNext htb L14) L14.size)).mono ?_;rintro e w15 ⟨rfl,l15⟩;have L15:=L14.trans (l15.mono L14.size);go_wp2_with fail;go_ret;exact⟨rfl,L15⟩
 ·go_enter Tryz.func10,Tryz.ntmps10;go_wp2_with(first
   | ((with_reducible refine sN 24 ?_);refine J2a rfl _ rfl [.int .i64 0,.map none,.int .i64 0] U3c ?_)
   | ((with_reducible refine sN 25 ?_);refine v0a rfl _ (.tmp 24) rfl [.int .i64 0,.map none,.int .i64 0] rfl ?_;intro g v1 hg1 hg2 B1 L1';have h1:NoV _ (.pointer (some ⟨g,0,none⟩)):=.inr ⟨_,rfl,B1.out⟩;have L1:=L1'.out)
   | fail)
  go_wp2_with fail;refine(a4b _ _ h1 s).mono ?_;rintro e w2 ⟨rfl,l2⟩;have h2:=h1.below l2;have L2:=L1.trans (l2.mono L1.size);go_wp2_with fail;refine(e4b _ _ h2 s 2).mono ?_;rintro e w3 ⟨rfl,l3⟩;have h3:=h2.below l3;have L3:=L2.trans (l3.mono L2.size);go_wp2_with fail;refine(d4b _ _ h3 n).mono ?_;rintro e w4 ⟨rfl,l4⟩;have h4:=h3.below l4;have L4:=L3.trans (l4.mono L3.size);go_wp2_with(first
   | ((with_reducible refine sN 14 ?_);refine i0a rfl _ rfl [.int .u8 0,.int .i64 0] 2 w2a ?_;intro b v0 hb1 hb2 X0 L0)
   | ((with_reducible refine sT 14 ?_);go_loud (refine l0a rfl _ (.tmp 14) (.tmp 42) rfl b rfl _ _ [.int .u8 0,.int .i64 0] rfl X0 2 J0a rfl rfl (by intro u hu;simp only[List.mem_cons,List.not_mem_nil,or_false] at hu;rcases hu with rfl | rfl<;>rfl) ?_);intro v2 X2 O2 hg2)
   | fail)
  have l5:=r0a L0.out O2.out hb1;have h5:=h4.below l5;have L5:=L4.trans (l5.mono L4.size);clear X0 X2 O2 L0;refine(o9a _ _ h5 n).mono ?_;rintro e w6 ⟨rfl,l6⟩;have h6:=h5.below l6;have L6:=L5.trans (l6.mono L5.size);go_wp2_with fail;refine(c4b _ _ h6 n a 1).mono ?_;rintro e w7 ⟨rfl,l7⟩;have h7:=h6.below l7;have L7:=L6.trans (l7.mono L6.size);go_wp2_with fail;refine(S7b _ _ h7 n s s a).mono ?_;rintro e w8 ⟨rfl,l8⟩;have h8:=h7.below l8;have L8:=L7.trans (l8.mono L7.size);go_wp2_with fail;refine(Y9a _ _ h8 n).mono ?_;rintro e w9 ⟨rfl,l9⟩;have h9:=h8.below l9;have L9:=L8.trans (l9.mono L8.size);go_wp2_with fail;refine(b4b _ _ h9 n s true).mono ?_;rintro e w10 ⟨rfl,l10⟩;have h10:=h9.below l10;have L10:=L9.trans (l10.mono L9.size);go_wp2_with fail;refine(C5b _ _ h10 n a).mono ?_;rintro e w11 ⟨rfl,l11⟩;have h11:=h10.below l11;have L11:=L10.trans (l11.mono L10.size);go_wp2_with fail;refine(c2c _ _ h11 n a).mono ?_;rintro e w12 ⟨rfl,l12⟩;have h12:=h11.below l12;have L12:=L11.trans (l12.mono L11.size);go_wp2_with fail;refine(W3b _ _ h12).mono ?_;rintro e w13 ⟨rfl,l13⟩;have h13:=h12.below l13;have L13:=L12.trans (l13.mono L12.size);go_wp2_with fail;refine(n7a _ _ h13).mono ?_;rintro e w14 ⟨rfl,l14⟩;have L14:=L13.trans (l14.mono L13.size);go_wp2_with fail;refine(U2a I w14 (I.tbUp (I.tbNext htb L14) L14.size)).mono ?_;rintro e w15 ⟨rfl,l15⟩;have L15:=L14.trans (l15.mono L14.size);go_wp2_with fail;go_ret;exact⟨rfl,L15⟩
theorem walk_VolNil(W:World)(hT:k5a W)(a0:ByteArray)(w0:a0.size<=140737488351232)(a1:Int)(w1:-9223372036854775808<=a1/\a1<=9223372036854775807)(a2:Int)(w2:-9223372036854775808<=a2/\a2<=9223372036854775807)(a3:Bool) :
  Calls Tryz.prog 10 #[.string a0,.int .i64 a1,.int .i64 a2,.bool a3] W λe w'=>e=.returned (.bool true)/\Below W.heap.size W w':=w9b j7a W (F2a.of hT) a0 a1 a2 a3
end Go.Proofs.YtdgpbhdihhchgaaGreatDoor
