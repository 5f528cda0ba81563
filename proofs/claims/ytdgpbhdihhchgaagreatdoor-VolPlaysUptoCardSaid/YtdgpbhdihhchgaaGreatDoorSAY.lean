import Derived.Test.YtdgpbhdihhchgaaGreatDoorSAI
import Derived.Test.YtdgpbhdihhchgaaGreatDoorS0
set_option linter.all false
set_option maxHeartbeats 8000000
set_option maxRecDepth 100000
namespace Go.Proofs.YtdgpbhdihhchgaaGreatDoor
set_option maxRecDepth 100000
open Go.RowKit
theorem w5b(I:e0b)(W:World)(htb:I.tb W.heap.size W)(k:Int)(hk:c2a k)(A:Option Addr)(n c:Nat)(l:List M2a)(hl:e4a W W.heap.size A n c l)(hn:n<=1048576) :
  Calls Tryz.prog 3 #[.int .i64 k,.slice A n c] W λe w'=>e=.returned (.bool true)/\Below W.heap.size W w':=by
 have C1:=hI (R3a I W k hk A n c l hl hn htb);have HTB:=hI htb;have CW:Hid (∀w1,Below W.heap.size W w1->_):=λw1 (h:Below W.heap.size W w1)=>U2a I w1 (I.tbUp (I.tbNext htb h) h.size)
 clear hl htb;go_enter Tryz.func3,Tryz.ntmps3;go_wp2_with fail;refine C1.out.mono ?_;rintro e w1 ⟨h1,h2⟩;by_cases hE:O3a k=0
 ·obtain⟨q,g,S,v,M,rfl,_,l1⟩:=h2 hE;have L1:=hI l1;clear h1 h2 l1 C1;go_wp2_with fail;refine(CW.out _ L1.out).mono ?_;rintro e w2 ⟨rfl,l2⟩;go_wp2_with fail;go_ret;exact⟨rfl,L1.out.trans (l2.mono L1.out.size)⟩
 ·obtain⟨rfl,l1⟩:=h1 hE;have L1:=hI l1;clear h1 h2 l1 C1;go_wp2_with fail;refine(CW.out _ L1.out).mono ?_;rintro e w2 ⟨rfl,l2⟩;go_wp2_with fail;go_ret;exact⟨rfl,L1.out.trans (l2.mono L1.out.size)⟩
theorem walk_VolPlays(W:World)(hT:k5a W)(a0:Int)(w0:-9223372036854775808<=a0/\a0<=9223372036854775807)(A1:Option Addr)(n1 c1:Nat)(z1:List M2a)(h1:e4a W W.heap.size A1 n1 c1 z1)(r1:n1<=1048576) :
  Calls Tryz.prog 3 #[.int .i64 a0,.slice A1 n1 c1] W λe w'=>e=.returned (.bool true)/\Below W.heap.size W w':=
 w5b j7a W (F2a.of hT) a0 w0 A1 n1 c1 z1 h1 r1
end Go.Proofs.YtdgpbhdihhchgaaGreatDoor
