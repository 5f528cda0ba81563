import Derived.WalkKit
import Derived.Deep.Draws
import Derived.Laws.Rows
import Derived.Laws.OwnMore
import Derived.Lib.RuneBytes
import Derived.Lib.ValidLaws
import Derived.Test.YtangkcedgelegaaDoorRows
import Derived.Laws.CopyOwn
import Derived.Laws.AppendOwnNone
import Derived.Lib.Hide
import Derived.Laws.AppendOwn
import Derived.OwnWalk
import Derived.Lib.OthersKept
import Derived.Laws.BytesArg
import Derived.Shelf.Utf8.AppendRunePlain
import Derived.Shelf.Utf8.RuneCount
import Derived.Shelf.LaysM
import Derived.Shelf.Strconv.Clone
import Derived.Shelf.Unicode.DecodeSlow
import Derived.Shelf.Unicode.DecodeAny
import Derived.Shelf.Slices.Turned
import Derived.Shelf.Unicode.ValidAny
import Derived.Test.YtangkcedgelegaaDoorProg
import Derived.WalkSpells
import Derived.WalkLawsBesides
import Derived.Deep.QuietTactic
import Derived.BigQuiet
import Derived.Laws.Bits64
import Derived.Laws.BitsAllLaws
import Derived.Laws.Tables
import Derived.Laws.NewFold
import Derived.Deep.WholeRow
import Derived.Deep.DeepCutAuto
import Derived.Laws.IdiomStrings
import Derived.Laws.Cover4
import Derived.Lib.RuneCount
import Derived.Lib.IndexLaws
import Derived.OneCell
import Derived.StillTailTactics
import Derived.WalkMore
import Derived.ProofKit
import Derived.OpenShut
import Derived.ShutString
import Derived.SizedLaws
import Derived.ChangeOld
import Derived.Deep.Strs
import Derived.Lib.Join
import Derived.Deep.RegionLaw
import Derived.Deep.CutBlock
import Derived.Deep.MidRow
import Derived.Lib.AppendZeros
import Derived.Deep.RegionWith
import Derived.Great.Walk
import Derived.Deep.Slices
import Derived.Lib.SliceRun
import Derived.Maps.AppendAt
import Derived.Lib.Overlaps
import Derived.OrdersHeld
import Derived.Laws.StructEq
import Derived.ChangeKeysEq
import Derived.Maps.OwnSet
import Derived.StringKeys
import Derived.Laws.Externs
import Derived.RangeFuncNested
import Derived.RangeFuncBound
import Derived.RangeFuncCalls
import Derived.RangeFuncLeaves
import Derived.Shelf.Abstract
import Derived.Shelf.RegionOpen
import Derived.OwnWalkIn
import Derived.TacticsInMore
import Derived.LoopNIn
import Derived.LoopIn
import Derived.RangeFuncFrom
import Derived.Test.YtangkcedgelegaaDoorWAC
import Derived.Test.YtangkcedgelegaaDoorWAD
import Derived.Test.YtangkcedgelegaaDoorWAG
namespace Go.Proofs.YtangkcedgelegaaDoor
set_option linter.all false
set_option maxRecDepth 100000
open Go.RowKit
set_option linter.unusedVariables false
set_option maxHeartbeats 2000000 in
theorem law_DirLists (I : DirI) (W : World) (A : Option Addr) (n c : Nat) (l : List DActV) (hl : LDAct 1048576 W W.heap.size A n c l) (hn : n ≤ 140737488355328) (htb : I.tb W.heap.size W) (p a : ByteArray) (hp : p.size ≤ 1048576) (ha : a.size ≤ 1048576) (m : Int) (hm : I64D m) :
    Calls Tryd.prog 4 #[.slice A n c, .string p, .string a, .int .i64 m] W fun e w' => e = .returned (.bool true) ∧ Below W.heap.size W w' := by
  have CP := Lib.hid (DPlayed_any I W A n c l hl hn htb)
  clear hl htb
  obtain ⟨L, hL⟩ : ∃ L, L = dActs l (min n 60) := ⟨_, rfl⟩
  have hLl : L.length ≤ 60 := by rw [hL]; have := dActs_le (l := l) (min n 60); omega
  unfold DPlayPost at CP
  rw [← hL] at CP
  obtain ⟨X, hX⟩ : ∃ X, X = dListN L p a m := ⟨_, rfl⟩
  have hXl : X.length ≤ 60 := by rw [hX]; have := dListN_le (L := L) (p := p) (a := a) (m := m); omega
  obtain ⟨M, hM⟩ : ∃ M, M = dListM L p a m := ⟨_, rfl⟩
  obtain ⟨E, hE⟩ : ∃ E, E = dListE L p a m := ⟨_, rfl⟩
  have HXe := Lib.hid hX
  have HMe := Lib.hid hM
  have HEe := Lib.hid hE
  clear hL hLl hX hM hE
  go_enter Tryd.func4, Tryd.ntmps4
  go_wp2_with fail
  refine CP.out.mono ?_
  rintro e w1 ⟨q, g, S, v, rfl, t1, l1⟩
  have C2 : Hid (Calls Tryd.prog 12 #[ptrD q, .string p, .string a, .int .i64 m] w1 (LsPost w1 X M E)) := by rw [HXe.out, HMe.out, HEe.out]; exact I.list t1.x t1.tb t1.hb hp ha hm
  have C3 : Hid (∀ w2, Below w1.heap.size w1 w2 → Calls Tryd.prog 13 #[.pointer (some ⟨g, 0, none⟩), .string p, .string a, .int .i64 m] w2 (LsPost w2 X M E)) := fun w2 l2 => by rw [HXe.out, HMe.out, HEe.out]; exact RList_any w2 W.heap.size g v L (t1.r.below l2) p a (by omega) (by omega) m
  have TB : Hid (∀ w2, Below w1.heap.size w1 w2 → I.tb w2.heap.size w2) := fun w2 l2 => I.tbUp (I.tbNext t1.tb (l2.mono t1.hb)) (Nat.le_trans l1.size l2.size)
  have L1 := Lib.hid l1
  clear t1 l1 CP
  unfold ptrD at C2 ⊢
  go_wp2_with fail
  refine C2.out.mono ?_
  rintro e w2 ⟨v2, rfl, o2, l2⟩
  obtain ⟨A2, n2, c2, rfl, h2⟩ := o2.txts.holds
  have H2 := Lib.hid h2
  have L2 := Lib.hid l2
  clear o2 h2 l2 C2
  go_wp2_with fail
  refine (C3.out _ L2.out).mono ?_
  rintro e w3 ⟨v3, rfl, o3, l3⟩
  obtain ⟨A3, n3, c3, rfl, h3⟩ := o3.txts.holds
  have H3 := Lib.hid h3
  have H2' : Hid (HoldsF strV w3 w2.heap.size A2 n2 c2 (txtL X)) := H2.out.below l3
  have L3 := Lib.hid (L2.out.trans (l3.mono L2.out.size))
  have N2 : n2 ≤ 60 := by have := H2.out.len; rw [← this]; unfold txtL; rw [List.length_map]; exact hXl
  have N3 : n3 ≤ 60 := by have := h3.len; rw [← this]; unfold txtL; rw [List.length_map]; exact hXl
  have CT := Lib.hid (Texts_any w3 _ _ _ _ _ _ _ _ _ _ H2'.out H3.out (by omega) (by omega))
  have hdt : decide (txtL X = txtL X) = true := decide_eq_true rfl
  rw [hdt] at CT
  have CW : Hid (∀ k, Calls Tryd.prog 11 #[] (w3.drewN k) fun e w' => e = .returned (.bool true) ∧ Below (w3.drewN k).heap.size (w3.drewN k) w') := fun k => works15_any I (w3.drewN k) (TB.out _ (L3.out.trans ((drewed w3 k).mono L3.out.size)))
  clear o3 h3 l3 C3 hdt H2 H3 H2'
  have hMM : (M == M) = true := beq_self_eq_true M
  go_wp2_with fail
  refine CT.out.mono ?_
  rintro e w4 ⟨rfl, k, rfl⟩
  have hk : Hid (Below w3.heap.size w3 (w3.drewN k)) := drewed w3 k
  go_wp2_with fail
  refine (CW.out k).mono ?_
  rintro e w5 ⟨rfl, l5⟩
  have L5 := Lib.hid ((L1.out.trans ((L3.out.trans (hk.out.mono L3.out.size)).mono L1.out.size)).trans (l5.mono (Nat.le_trans L1.out.size (Nat.le_trans L3.out.size hk.out.size))))
  clear l5 CW
  go_wp2_with fail
  go_ret
  exact ⟨by simp, L5.out⟩
end Go.Proofs.YtangkcedgelegaaDoor

namespace Go.Proofs.YtangkcedgelegaaDoor
set_option linter.all false
open Go.RowKit
set_option linter.unusedVariables false
theorem walk_DirLists (W : World) (hT : Tabs W) (A0 : Option Addr) (n0 c0 : Nat) (l0 : List DActV) (h0 : LDAct 1048576 W W.heap.size A0 n0 c0 l0) (r0 : n0 ≤ 140737488355328) (a1 : ByteArray) (w1 : a1.size ≤ 1048576) (a2 : ByteArray) (w2 : a2.size ≤ 1048576) (a3 : Int) (w3 : -9223372036854775808 ≤ a3 ∧ a3 ≤ 9223372036854775807) :
    Calls Tryd.prog 4 #[.slice A0 n0 c0, .string a1, .string a2, .int .i64 a3] W fun e w' => e = .returned (.bool true) ∧ Below W.heap.size W w' := law_DirLists theDir W A0 n0 c0 l0 h0 r0 (TabsD.of hT) a1 a2 w1 w2 a3 w3
end Go.Proofs.YtangkcedgelegaaDoor
