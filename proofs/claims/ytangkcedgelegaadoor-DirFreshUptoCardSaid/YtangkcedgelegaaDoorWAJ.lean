import Derived.WalkKit
import Derived.Deep.Draws
import Derived.Laws.Rows
import Derived.Laws.OwnMore
import Derived.Lib.RuneBytes
import Derived.Lib.ValidLaws
import Derived.Test.YtangkcedgelegaaDoorRows
import Derived.Laws.CopyOwn
import Derived.Laws.AppendOwnNone
import Derived.Lib.Hide
import Derived.Laws.AppendOwn
import Derived.OwnWalk
import Derived.Lib.OthersKept
import Derived.Laws.BytesArg
import Derived.Shelf.Utf8.AppendRunePlain
import Derived.Shelf.Utf8.RuneCount
import Derived.Shelf.LaysM
import Derived.Shelf.Strconv.Clone
import Derived.Shelf.Unicode.DecodeSlow
import Derived.Shelf.Unicode.DecodeAny
import Derived.Shelf.Slices.Turned
import Derived.Shelf.Unicode.ValidAny
import Derived.Test.YtangkcedgelegaaDoorProg
import Derived.WalkSpells
import Derived.WalkLawsBesides
import Derived.Deep.QuietTactic
import Derived.BigQuiet
import Derived.Laws.Bits64
import Derived.Laws.BitsAllLaws
import Derived.Laws.Tables
import Derived.Laws.NewFold
import Derived.Deep.WholeRow
import Derived.Deep.DeepCutAuto
import Derived.Laws.IdiomStrings
import Derived.Laws.Cover4
import Derived.Lib.RuneCount
import Derived.Lib.IndexLaws
import Derived.OneCell
import Derived.StillTailTactics
import Derived.WalkMore
import Derived.ProofKit
import Derived.OpenShut
import Derived.ShutString
import Derived.SizedLaws
import Derived.ChangeOld
import Derived.Deep.Strs
import Derived.Lib.Join
import Derived.Deep.RegionLaw
import Derived.Deep.CutBlock
import Derived.Deep.MidRow
import Derived.Lib.AppendZeros
import Derived.Deep.RegionWith
import Derived.Great.Walk
import Derived.Deep.Slices
import Derived.Lib.SliceRun
import Derived.Maps.AppendAt
import Derived.Lib.Overlaps
import Derived.OrdersHeld
import Derived.Laws.StructEq
import Derived.ChangeKeysEq
import Derived.Maps.OwnSet
import Derived.StringKeys
import Derived.Laws.Externs
import Derived.RangeFuncNested
import Derived.RangeFuncBound
import Derived.RangeFuncCalls
import Derived.RangeFuncLeaves
import Derived.Shelf.Abstract
import Derived.Shelf.RegionOpen
import Derived.OwnWalkIn
import Derived.TacticsInMore
import Derived.LoopNIn
import Derived.LoopIn
import Derived.RangeFuncFrom
import Derived.Test.YtangkcedgelegaaDoorWAC
import Derived.Test.YtangkcedgelegaaDoorWAD
import Derived.Test.YtangkcedgelegaaDoorWAG
namespace Go.Proofs.YtangkcedgelegaaDoor
set_option linter.all false
set_option maxRecDepth 100000
open Go.RowKit
set_option linter.unusedVariables false
set_option maxHeartbeats 2000000 in
theorem law_DirFresh (I : DirI) (W : World) (A : Option Addr) (n c : Nat) (l : List DActV) (hl : LDAct 1048576 W W.heap.size A n c l) (hn : n ≤ 140737488355328) (htb : I.tb W.heap.size W) :
    Calls Tryd.prog 8 #[.slice A n c] W fun e w' => e = .returned (.bool true) ∧ Below W.heap.size W w' := by
  have CP := Lib.hid (DPlayed_any I W A n c l hl hn htb)
  clear hl htb
  obtain ⟨L, hL⟩ : ∃ L, L = dActs l (min n 60) := ⟨_, rfl⟩
  have hLl : L.length ≤ 60 := by rw [hL]; have := dActs_le (l := l) (min n 60); omega
  unfold DPlayPost at CP
  rw [← hL] at CP
  obtain ⟨X, hX⟩ : ∃ X, X = dListN L ⟨#[42]⟩ ⟨#[]⟩ 1048576 := ⟨_, rfl⟩
  have hXl : X.length ≤ 60 := by rw [hX]; have := dListN_le (L := L) (p := ⟨#[42]⟩) (a := ⟨#[]⟩) (m := 1048576); omega
  obtain ⟨M, hM⟩ : ∃ M, M = dListM L ⟨#[42]⟩ ⟨#[]⟩ 1048576 := ⟨_, rfl⟩
  obtain ⟨E, hE⟩ : ∃ E, E = dListE L ⟨#[42]⟩ ⟨#[]⟩ 1048576 := ⟨_, rfl⟩
  have HXe := Lib.hid hX
  have HMe := Lib.hid hM
  have HEe := Lib.hid hE
  clear hL hLl hX hM hE
  go_enter Tryd.func8, Tryd.ntmps8
  go_wp2_with fail
  refine CP.out.mono ?_
  rintro e w1 ⟨q, g, S, v, rfl, t1, l1⟩
  have C2 : Hid (∀ w2, Below w1.heap.size w1 w2 → Calls Tryd.prog 12 #[ptrD q, .string ⟨#[42]⟩, .string ⟨#[]⟩, .int .i64 1048576] w2 (LsPost w2 X M E)) := fun w2 l2 => by rw [HXe.out, HMe.out, HEe.out]; exact I.list (I.below t1.x l2) (I.tbNext t1.tb (l2.mono t1.hb)) (Nat.le_trans t1.hb l2.size) (by decide) (by decide) (by unfold I64D; omega)
  have C3 : Hid (∀ w2, Below w1.heap.size w1 w2 → Calls Tryd.prog 13 #[.pointer (some ⟨g, 0, none⟩), .string ⟨#[42]⟩, .string ⟨#[]⟩, .int .i64 1048576] w2 (LsPost w2 X M E)) := fun w2 l2 => by rw [HXe.out, HMe.out, HEe.out]; exact RList_any w2 W.heap.size g v L (t1.r.below l2) ⟨#[42]⟩ ⟨#[]⟩ (by decide) (by decide) 1048576
  have TB : Hid (∀ w2, Below w1.heap.size w1 w2 → I.tb w2.heap.size w2) := fun w2 l2 => I.tbUp (I.tbNext t1.tb (l2.mono t1.hb)) (Nat.le_trans l1.size l2.size)
  have L1 := Lib.hid l1
  clear t1 l1 CP
  unfold ptrD at C2 ⊢
  go_wp2_with fail
  refine (C2.out w1 (Below.refl _ _)).mono ?_
  rintro e w2 ⟨v2, rfl, o2, l2⟩
  have h2 := o2.txts
  obtain ⟨A2, n2, c2, rfl, hn2, hnc, h63, _, _⟩ := h2.open
  have O2 := Lib.hid h2
  have L2 := Lib.hid l2
  have hn60 : n2 ≤ 60 := by rw [← hn2]; unfold txtL; rw [List.length_map]; exact hXl
  clear o2 h2 l2
  go_wp2_with fail
  go_loopw [9] (fun i wr => ∃ (k : Nat) (ps : List (List UInt8)), i = .int .i64 k ∧ k ≤ n2 ∧ Hid (OwnF strV 9 wr w1.heap.size (.slice A2 n2 c2) ps) ∧ Hid (Below w1.heap.size w1 wr)) (fun i _ => n2 - (intOf i).toNat)
  case atStart => exact ⟨0, txtL X, rfl, Nat.zero_le _, O2, L2⟩
  case round =>
    obtain ⟨k, ps, rfl, hk, HP, HBl⟩ := hrel
    clear O2 L2
    by_cases hlt : k < n2
    · obtain ⟨A', n', c', he, hn', _, _, _, hcc⟩ := HP.out.open
      cases he
      obtain ⟨y, rfl, hbg, hgw, hcx⟩ := hcc (by omega)
      have hkp : k < ps.length := by omega
      obtain ⟨p, hp⟩ : ∃ p, ps[k]? = some p := ⟨_, List.getElem?_eq_getElem hkp⟩
      have gc := HP.out.cell (i := k) hp
      have gf := HP.out.frozen k
      have hset := HP.out.set k [120]
      unfold strV at gc
      have HS := Lib.hid hset
      have HB2 : Hid (Below w1.heap.size w1 (wr.setCell ⟨y, k, none⟩ (.string ⟨#[120]⟩))) := HBl.out.setCell hbg _
      clear hcc hcx hn' hset hkp hp
      go_wp2
      go_roundw
      case rel => exact ⟨k + 1, _, by go_num, hlt, HS, HB2⟩
      case measure => simp [intOf]; omega
    · clear HP
      go_wp2_with fail
      refine (C2.out _ HBl.out).mono ?_
      rintro e w3 ⟨v3, rfl, o3, l3⟩
      obtain ⟨A3, n3, c3, rfl, h3⟩ := o3.txts.holds
      have H3 := Lib.hid h3
      have L3 := Lib.hid (HBl.out.trans (l3.mono HBl.out.size))
      clear o3 h3 l3 C2
      go_wp2_with fail
      refine (C3.out _ L3.out).mono ?_
      rintro e w4 ⟨v4, rfl, o4, l4⟩
      obtain ⟨A4, n4, c4, rfl, h4⟩ := o4.txts.holds
      have H4 := Lib.hid h4
      have H3' : Hid (HoldsF strV w4 w3.heap.size A3 n3 c3 (txtL X)) := H3.out.below l4
      have L4 := Lib.hid (L3.out.trans (l4.mono L3.out.size))
      have N3 : n3 ≤ 60 := by have := H3.out.len; rw [← this]; unfold txtL; rw [List.length_map]; exact hXl
      have N4 : n4 ≤ 60 := by have := h4.len; rw [← this]; unfold txtL; rw [List.length_map]; exact hXl
      have CT := Lib.hid (Texts_any w4 _ _ _ _ _ _ _ _ _ _ H3'.out H4.out (by omega) (by omega))
      have hdt : decide (txtL X = txtL X) = true := decide_eq_true rfl
      rw [hdt] at CT
      have CW : Hid (∀ k, Calls Tryd.prog 11 #[] (w4.drewN k) fun e w' => e = .returned (.bool true) ∧ Below (w4.drewN k).heap.size (w4.drewN k) w') := fun k => works15_any I (w4.drewN k) (TB.out _ (L4.out.trans ((drewed w4 k).mono L4.out.size)))
      clear o4 h4 l4 C3 hdt H3 H4 H3' HBl
      go_wp2_with fail
      refine CT.out.mono ?_
      rintro e w5 ⟨rfl, k5, rfl⟩
      have hk5 : Hid (Below w4.heap.size w4 (w4.drewN k5)) := drewed w4 k5
      go_wp2_with fail
      refine (CW.out k5).mono ?_
      rintro e w6 ⟨rfl, l6⟩
      have L6 := Lib.hid ((L1.out.trans ((L4.out.trans (hk5.out.mono L4.out.size)).mono L1.out.size)).trans (l6.mono (Nat.le_trans L1.out.size (Nat.le_trans L4.out.size hk5.out.size))))
      clear l6 CW
      go_wp2_with fail
      go_ret
      exact ⟨by simp, L6.out⟩
end Go.Proofs.YtangkcedgelegaaDoor

namespace Go.Proofs.YtangkcedgelegaaDoor
set_option linter.all false
open Go.RowKit
set_option linter.unusedVariables false
theorem walk_DirFresh (W : World) (hT : Tabs W) (A0 : Option Addr) (n0 c0 : Nat) (l0 : List DActV) (h0 : LDAct 1048576 W W.heap.size A0 n0 c0 l0) (r0 : n0 ≤ 140737488355328) :
    Calls Tryd.prog 8 #[.slice A0 n0 c0] W fun e w' => e = .returned (.bool true) ∧ Below W.heap.size W w' := law_DirFresh theDir W A0 n0 c0 l0 h0 r0 (TabsD.of hT)
end Go.Proofs.YtangkcedgelegaaDoor
