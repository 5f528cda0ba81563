import Derived.Test.YtdgpbhdihhchgaaGreatDoorSAK
import Derived.Test.YtdgpbhdihhchgaaGreatDoorSAL
import Derived.Test.YtdgpbhdihhchgaaGreatDoorS0
set_option linter.all false
set_option maxHeartbeats 8000000
set_option maxRecDepth 100000
namespace Go.Proofs.YtdgpbhdihhchgaaGreatDoor
set_option maxRecDepth 100000
open Go.RowKit
theorem a4b(w:World)(v:Value)(h:NoV w v)(s:ByteArray):Calls Tryz.prog 13 #[v,.string s] w λe w'=>e=.returned (.tuple #[.int .i64 0,.int .i64 1])/\Below w.heap.size w w':=by have H:=hI (h.non (Below.refl _ _));clear h;go_enter Tryz.func13,Tryz.ntmps13;go_wp2;go_step3;go_wp2_with fail;refine H.out.mono ?_;rintro e w1 ⟨rfl,rfl⟩;go_wp2_with fail;rw[Exit.noGoto_ret];go_ret2;exact⟨rfl,Below.refl _ _⟩
theorem b4b(w:World)(v:Value)(h:NoV w v)(n:Int)(s:ByteArray)(o:Bool):Calls Tryz.prog 26 #[v,.int .i64 n,.string s,.bool o] w λe w'=>e=.returned (.int .i64 1)/\Below w.heap.size w w':=by have H:=hI (h.low (Below.refl _ _) n);clear h;go_enter Tryz.func26,Tryz.ntmps26;go_wp2_with fail;refine H.out.mono ?_;rintro e w1 ⟨rfl,rfl⟩;go_wp2_with fail;go_ret;exact⟨rfl,Below.refl _ _⟩
theorem c4b(w:World)(v:Value)(h:NoV w v)(n a k:Int):Calls Tryz.prog 25 #[v,.int .i64 n,.int .i64 a,.int .i64 k] w λe w'=>e=.returned (.tuple #[.slice none 0 0,.int .i64 1])/\Below w.heap.size w w':=by have H:=hI (h.file (Below.refl _ _) n);clear h;go_enter Tryz.func25,Tryz.ntmps25;go_wp2_with fail;refine H.out.mono ?_;rintro e w1 ⟨rfl,rfl⟩;go_wp2_with fail;go_ret2;exact⟨rfl,Below.refl _ _⟩
theorem d4b(w:World)(v:Value)(h:NoV w v)(n:Int):Calls Tryz.prog 15 #[v,.int .i64 n] w λe w'=>e=.returned (.tuple #[.agg #[.int .u8 0,.int .i64 0],.int .i64 1])/\Below w.heap.size w w':=by
 have CN:Hid (∀w',Below w.heap.size w w'->Calls Tryz.prog 46 #[v,.int .i64 n] w' λe w2=>e=.returned (.tuple #[.pointer none,.int .i64 1])/\w'=w2):=λw' hb=>h.node hb n
 have ZN:Hid ((Tryz.prog.info? 34).map (λi=>(i.zero,i.size))=some (some (.agg ([.int .u8 0,.int .i64 0]:List Value).toArray),2)):=w2a;clear h;go_enter Tryz.func15,Tryz.ntmps15;go_wp2_with(first
  | ((with_reducible refine sN 4 ?_);refine i0a rfl _ rfl [.int .u8 0,.int .i64 0] 2 ZN ?_;intro b w0 hb1 hb2 X0 L0)
  | fail)
 refine(CN.out w0 L0.out).mono ?_;rintro e w1 ⟨rfl,rfl⟩;go_wp2_with(first
  | ((with_reducible refine sN 16 ?_);go_loud (refine J2a rfl _ rfl [.int .u8 0,.int .i64 0] (by kernel_rfl) ?_))
  | ((with_reducible refine sT 4 ?_);go_loud (refine l0a rfl _ (.tmp 4) (.tmp 16) rfl b rfl _ _ [.int .u8 0,.int .i64 0] rfl X0 2 J0a rfl rfl (by intro u hu;simp only[List.mem_cons,List.not_mem_nil,or_false] at hu;rcases hu with rfl | rfl<;>rfl) ?_);intro w2 X2 O2 hg2)
  | fail)
 refine bodyPost_ret (v:=.tuple #[.agg #[.int .u8 0,.int .i64 0],.int .i64 1]) ?_ rfl ⟨rfl,r0a L0.out O2.out hb1⟩;exact d2a rfl _ _ b _ _ (0,0) _ rfl X2.out Tryz.underlying34 rfl (by rw[J0a];rfl) rfl
end Go.Proofs.YtdgpbhdihhchgaaGreatDoor
