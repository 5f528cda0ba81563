import Derived.WalkKit
import Derived.Deep.Draws
import Derived.Laws.Rows
import Derived.Laws.OwnMore
import Derived.Lib.RuneBytes
import Derived.Lib.ValidLaws
import Derived.Test.YtangkcedgelegaaDoorRows
import Derived.Laws.CopyOwn
import Derived.Laws.AppendOwnNone
import Derived.Lib.Hide
import Derived.Laws.AppendOwn
import Derived.OwnWalk
import Derived.Lib.OthersKept
import Derived.Laws.BytesArg
import Derived.Shelf.Utf8.AppendRunePlain
import Derived.Shelf.Utf8.RuneCount
import Derived.Shelf.LaysM
import Derived.Shelf.Strconv.Clone
import Derived.Shelf.Unicode.DecodeSlow
import Derived.Shelf.Unicode.DecodeAny
import Derived.Shelf.Slices.Turned
import Derived.Shelf.Unicode.ValidAny
import Derived.Test.YtangkcedgelegaaDoorProg
import Derived.WalkSpells
import Derived.WalkLawsBesides
import Derived.Deep.QuietTactic
import Derived.BigQuiet
import Derived.Laws.Bits64
import Derived.Laws.BitsAllLaws
import Derived.Laws.Tables
import Derived.Laws.NewFold
import Derived.Deep.WholeRow
import Derived.Deep.DeepCutAuto
import Derived.Laws.IdiomStrings
import Derived.Laws.Cover4
import Derived.Lib.RuneCount
import Derived.Lib.IndexLaws
import Derived.OneCell
import Derived.StillTailTactics
import Derived.WalkMore
import Derived.Maps.OwnSet
import Derived.ProofKit
import Derived.OpenShut
import Derived.ShutString
import Derived.SizedLaws
import Derived.ChangeOld
import Derived.Deep.Strs
import Derived.Lib.Join
import Derived.Deep.RegionLaw
import Derived.Deep.CutBlock
import Derived.Deep.MidRow
import Derived.Lib.AppendZeros
import Derived.Deep.RegionWith
import Derived.Great.Walk
import Derived.Deep.Slices
import Derived.Lib.SliceRun
import Derived.Maps.AppendAt
import Derived.Lib.Overlaps
import Derived.OrdersHeld
import Derived.Laws.StructEq
import Derived.ChangeKeysEq
import Derived.StringKeys
import Derived.Laws.Externs
import Derived.RangeFuncNested
import Derived.RangeFuncBound
import Derived.RangeFuncCalls
import Derived.RangeFuncLeaves
import Derived.Shelf.Abstract
import Derived.Shelf.RegionOpen
import Derived.OwnWalkIn
import Derived.TacticsInMore
import Derived.LoopNIn
import Derived.LoopIn
import Derived.RangeFuncFrom
import Derived.Lib.LaidIn
import Derived.Lib.LaidU8T
import Derived.Deep.DeepHandedRow
import Derived.Test.YtangkcedgelegaaDoorWAB
namespace Go.Proofs.YtangkcedgelegaaDoor
set_option linter.all false
set_option maxRecDepth 100000
open Go.RowKit
set_option linter.unusedVariables false
theorem owns_look1 {w : World} {m N : Nat} {D : DataW Unit} (h : w.ownsMap Tryd.prog 9 (plainElem Tryd.prog 3) m N D) (s : ByteArray) (hs : s.size ≤ 1048576) : (Instr.lookup 46 (.map (some m)) (.string (foldT s)) false).run Tryd.prog w = .ok (.int .i64 (numD D s)) w := by
  obtain ⟨u, ps, hrun, hu⟩ := h.lookup dir_keyed Tryd.underlying46 (dir_zero w) (plainElem_int (H := Unit) Tryd.underlying3 (a := 0) (by decide)) (dir_key hs)
  obtain ⟨c, rfl, hc, _⟩ := plainElem_int_inv Tryd.underlying3 hu
  rw [hrun, numD_of (congrArg Prod.fst hc)]
theorem owns_wf {w : World} {m N : Nat} {D : DataW Unit} (h : w.ownsMap Tryd.prog 9 (plainElem Tryd.prog 3) m N D) (s : ByteArray) (hs : s.size ≤ 1048576) : I64D (numD D s) := by
  obtain ⟨u, ps, hrun, hu⟩ := h.lookup dir_keyed Tryd.underlying46 (dir_zero w) (plainElem_int (H := Unit) Tryd.underlying3 (a := 0) (by decide)) (dir_key hs)
  obtain ⟨c, rfl, hc, hw⟩ := plainElem_int_inv Tryd.underlying3 hu
  rw [numD_of (congrArg Prod.fst hc)]
  unfold I64D
  simp [Lit.wf, IntKind.min, IntKind.max, IntKind.signed, IntKind.bits] at hw
  omega
structure MpC (w : World) (q m N : Nat) (D : DataW Unit) : Prop where
  c1 : w.cell? ⟨q, 1, none⟩ = some (.map (some m))
  map : w.ownsMap Tryd.prog 9 (plainElem Tryd.prog 3) m N D
theorem MpC.below {w w' : World} {q m N : Nat} {D : DataW Unit} (h : MpC w q m N D) (hb : Below w.heap.size w w') : MpC w' q m N D := ⟨(hb.cell (lt_of_cellD h.c1)).trans h.c1, owns_same h.map (hb.block m h.map.lt)⟩
structure FnC (w : World) (q g n c k : Nat) (x : ByteArray) (m N : Nat) (D : DataW Unit) : Prop where
  c0 : w.cell? ⟨q, 0, none⟩ = some (.slice (some ⟨g, 0, none⟩) n c)
  c1 : w.cell? ⟨q, 1, none⟩ = some (.map (some m))
  c4 : w.cell? ⟨g, k, none⟩ = some (.string x)
  map : w.ownsMap Tryd.prog 9 (plainElem Tryd.prog 3) m N D
theorem FnC.below {w w' : World} {q g n c k : Nat} {x : ByteArray} {m N : Nat} {D : DataW Unit} (h : FnC w q g n c k x m N D) (hb : Below w.heap.size w w') : FnC w' q g n c k x m N D :=
  ⟨(hb.cell (lt_of_cellD h.c0)).trans h.c0, (hb.cell (lt_of_cellD h.c1)).trans h.c1, (hb.cell (lt_of_cellD h.c4)).trans h.c4, owns_same h.map (hb.block m h.map.lt)⟩
theorem Turned15.over {w w2 w' : World} {base q m : Nat} {v v' : Value} {L' : List DItem} {D' : DataW Unit} (t : Turned15 w2 base q m v L' w' v' D') (hb : Below w.heap.size w w2) : Turned15 w base q m v L' w' v' D' :=
  ⟨t.d, (Spare.of_over (pdrS q m v) hb).trans t.a fun j _ h => h, fun j hj => by
    rcases t.n j hj with h | h
    · exact .inl h
    · exact .inr (Nat.le_trans hb.size h)⟩
set_option maxHeartbeats 4000000 in
theorem DFind_any (w : World) (base q : Nat) (v : Value) (m : Nat) (D : DataW Unit) (L : List DItem) (d : PDr w base q v m D L) (hb : base ≤ w.heap.size) (htb : TabsD base w) (s : ByteArray) (hs : s.size ≤ 1048576) :
    Calls Tryd.prog 18 #[.pointer (some ⟨q, 0, none⟩), .string s] w fun e w' => e = .returned (.tuple #[.int .i64 (dFind L s).2, .string (dFind L s).1, .int .i64 (dFindE L s)]) ∧ Below w.heap.size w w' := by
  have hE : dFindE L s = if dBad s = true then 5 else if dHas L s = true then 0 else 7 := rfl
  have hF : dFindE L s ≠ 0 → dFind L s = (.empty, 0) := dFind_no
  have CN := Lib.hid (DNone_any w q m d.c1)
  have TB : Hid (∀ w', Below w.heap.size w w' → Tabs w') := fun w' hb' => htb.at hb' hb
  have CM : Hid (∀ w', Below w.heap.size w w' → Calls Tryd.prog 35 #[.string s] w' fun e w2 => e = .returned (.bool (!dBad s)) ∧ Below w'.heap.size w' w2) := fun w' hb' => DName_any s w' hs (htb.at hb' hb)
  have CH : Hid (∀ w', Below w.heap.size w w' → Calls Tryd.prog 36 #[.pointer (some ⟨q, 0, none⟩), .string s] w' fun e w2 => e = .returned (.bool (dHas L s)) ∧ Below w'.heap.size w' w2) := fun w' hb' => DHas_any w' base q v m D L (d.below hb') (Nat.le_trans hb hb'.size) (htb.next (hb'.mono hb)) s hs
  have SAME : Hid (∀ w', Below w.heap.size w w' → ∃ v' D', Turned15 w base q m v L w' v' D') := fun w' h => ⟨v, D, d.below h, Spare.of_over _ h, fun j hj => .inl hj⟩
  have D0 := Lib.hid d
  obtain ⟨b, hbb⟩ : ∃ b, b = dBad s := ⟨_, rfl⟩
  obtain ⟨z, hz⟩ : ∃ z, z = dHas L s := ⟨_, rfl⟩
  rw [← hbb] at hE CM
  rw [← hz] at hE CH
  cases b with
  | true =>
    rw [if_pos rfl] at hE
    rw [hF (by rw [hE]; decide), hE]
    clear hE hF d hbb htb hz
    go_enter Tryd.func18, Tryd.ntmps18
    go_wp2_with fail
    refine CN.out.mono ?_
    rintro e w0 ⟨rfl, rfl⟩
    go_wp2_with fail
    refine (CM.out _ (Below.refl _ _)).mono ?_
    rintro e w1 ⟨rfl, l1⟩
    have L1 := Lib.hid (l1)
    clear l1
    go_wp2_with fail
    go_ret3
    exact ⟨rfl, L1.out⟩
  | false =>
    rw [if_neg (by decide)] at hE
    cases z with
    | false =>
      rw [if_neg (by decide)] at hE
      rw [hF (by rw [hE]; decide), hE]
      clear hE hF d hbb htb hz
      go_enter Tryd.func18, Tryd.ntmps18
      go_wp2_with fail
      refine CN.out.mono ?_
      rintro e w0 ⟨rfl, rfl⟩
      go_wp2_with fail
      refine (CM.out _ (Below.refl _ _)).mono ?_
      rintro e w1 ⟨rfl, l1⟩
      have L1 := Lib.hid (l1)
      clear l1
      go_wp2_with fail
      refine (CH.out _ L1.out).mono ?_
      rintro e w2 ⟨rfl, l1⟩
      have L2 := Lib.hid ((L1.out).trans (l1.mono (Below.size L1.out)))
      clear l1
      go_wp2_with fail
      go_ret3
      exact ⟨rfl, L2.out⟩
    | true =>
      rw [if_pos rfl] at hE
      have hlt := dPl_lt d.ok hE
      have hfd := dFind_pl d.ok hE
      have hnm := d.num hE
      obtain ⟨g, c, rfl, _, _, k4⟩ := d.at hlt
      have hx : (L[dPl L s]'hlt).1.size ≤ 1048576 := d.text _ (List.getElem_mem hlt)
      have CP : Hid (∀ w', Below w.heap.size w w' → Calls Tryd.prog 38 #[.pointer (some ⟨q, 0, none⟩), .string s] w' fun e w2 => e = .returned (.int .i64 (dPl L s : Nat)) ∧ Below w'.heap.size w' w2) := fun w' hb' => DPlace_any w' base q _ m D L (d.below hb') (Nat.le_trans hb hb'.size) (htb.next (hb'.mono hb)) s hs
      rw [hE, ← hnm, hfd]
      have FC0 : FnC w q g L.length c (dPl L s) (L[dPl L s]'hlt).1 m L.length D := ⟨d.c0, d.c1, k4, d.map⟩
      have hsm := d.small
      obtain ⟨x, hxx⟩ : ∃ x, x = (L[dPl L s]'hlt).1 := ⟨_, rfl⟩
      rw [← hxx] at FC0 hx ⊢
      clear hxx hfd k4 hnm
      obtain ⟨n, hn⟩ : ∃ n, n = L.length := ⟨_, rfl⟩
      obtain ⟨k, hk⟩ : ∃ k, k = dPl L s := ⟨_, rfl⟩
      rw [← hn, ← hk] at FC0 hlt
      rw [← hk] at CP
      rw [← hn] at hsm
      have FC : Hid (∀ w', Below w.heap.size w w' → FnC w' q g n c k x m n D) := fun w' h => FC0.below h
      clear hE hF d hbb htb hz hn hk FC0 SAME D0
      go_enter Tryd.func18, Tryd.ntmps18
      go_wp2_with fail
      refine CN.out.mono ?_
      rintro e w0 ⟨rfl, rfl⟩
      go_wp2_with fail
      refine (CM.out _ (Below.refl _ _)).mono ?_
      rintro e w1 ⟨rfl, l1⟩
      have L1 := Lib.hid (l1)
      clear l1
      go_wp2_with fail
      refine (CH.out _ L1.out).mono ?_
      rintro e w2 ⟨rfl, l1⟩
      have L2 := Lib.hid ((L1.out).trans (l1.mono (Below.size L1.out)))
      clear l1
      go_upto_region 7 with fail
      refine wp_region_held (S := fun w' => FnC w' q g n c k x m n D) (by kernel_rfl) ?_
      change wpAnyH _ _ _ _ _ _ _ _ w2.drew
      have Sr0 : Hid (FnC w2.drew q g n c k x m n D) := (FC.out _ L2.out).below (Below.refl _ _).drew
      have br0 : Hid (Below w.heap.size w w2.drew) := L2.out.drew
      refine wpAnyH_take (i := 0) (v := _) rfl (by kernel_rfl) (by kernel_rfl) (by kernel_rfl) (fun _ _ _ h => h) (yieldsIf_move (by kernel_rfl) (.tmp 0) rfl (.pointer (some ⟨q, 0, none⟩)) (by kernel_rfl)) Sr0.out ?_
      refine wpAnyH_take (i := 1) (v := _) rfl (by kernel_rfl) (by kernel_rfl) (by kernel_rfl) (fun _ _ _ h => h) (yieldsIf_nil (by kernel_rfl) (.tmp 19) rfl ⟨q, 0, none⟩ (by kernel_rfl)) Sr0.out ?_
      refine wpAnyH_take (i := 2) (v := _) rfl (by kernel_rfl) (by kernel_rfl) (by kernel_rfl) (fun _ _ _ h => h) (yieldsIf_fld (by kernel_rfl) _ (.tmp 20) 1 rfl (.pointer (some ⟨q, 0, none⟩)) (.pointer (some ⟨q, 1, none⟩)) (by kernel_rfl) (fun w => by go_simp)) Sr0.out ?_
      refine wpAnyH_take (i := 3) (v := _) rfl (by kernel_rfl) (by kernel_rfl) (by kernel_rfl) (fun _ _ _ h => h) (yieldsIf_load_one (by kernel_rfl) _ (.tmp 21) rfl q (1) (by kernel_rfl) (.map (some m)) (fun _ h => h.c1) _ Tryd.underlying46 rfl) Sr0.out ?_
      refine wpAnyH_take (i := 4) (v := _) rfl (by kernel_rfl) (by kernel_rfl) (by kernel_rfl) (fun _ _ _ h => h) (yieldsIf_move (by kernel_rfl) (.tmp 1) rfl (.string s) (by kernel_rfl)) Sr0.out ?_
      refine wpAnyH_take (i := 7) (v := _) rfl (by kernel_rfl) (by kernel_rfl) (by kernel_rfl) (fun _ _ _ h => h) (yieldsIf_move (by kernel_rfl) (.tmp 0) rfl (.pointer (some ⟨q, 0, none⟩)) (by kernel_rfl)) Sr0.out ?_
      refine wpAnyH_take (i := 8) (v := _) rfl (by kernel_rfl) (by kernel_rfl) (by kernel_rfl) (fun _ _ _ h => h) (yieldsIf_nil (by kernel_rfl) (.tmp 26) rfl ⟨q, 0, none⟩ (by kernel_rfl)) Sr0.out ?_
      refine wpAnyH_take (i := 9) (v := _) rfl (by kernel_rfl) (by kernel_rfl) (by kernel_rfl) (fun _ _ _ h => h) (yieldsIf_fld (by kernel_rfl) _ (.tmp 27) 0 rfl (.pointer (some ⟨q, 0, none⟩)) (.pointer (some ⟨q, 0, none⟩)) (by kernel_rfl) (fun w => by go_simp)) Sr0.out ?_
      refine wpAnyH_take (i := 10) (v := _) rfl (by kernel_rfl) (by kernel_rfl) (by kernel_rfl) (fun _ _ _ h => h) (yieldsIf_load_one (by kernel_rfl) _ (.tmp 28) rfl q (0) (by kernel_rfl) (.slice (some ⟨g, 0, none⟩) n c) (fun _ h => h.c0) _ Tryd.underlying29 rfl) Sr0.out ?_
      refine wpAnyH_take (i := 11) (v := _) rfl (by kernel_rfl) (by kernel_rfl) (by kernel_rfl) (fun _ _ _ h => h) (yieldsIf_move (by kernel_rfl) (.tmp 0) rfl (.pointer (some ⟨q, 0, none⟩)) (by kernel_rfl)) Sr0.out ?_
      refine wpAnyH_take (i := 12) (v := _) rfl (by kernel_rfl) (by kernel_rfl) (by kernel_rfl) (fun _ _ _ h => h) (yieldsIf_move (by kernel_rfl) (.tmp 1) rfl (.string s) (by kernel_rfl)) Sr0.out ?_
      refine wpAnyH_one 5 _ (by kernel_rfl) rfl fun K hK => ?_
      go_simp
      refine (Fold1_any s _ hs (TB.out _ br0.out)).mono ?_
      rintro e vr1 ⟨rfl, l1⟩
      have Sr1 : Hid (FnC vr1 q g n c k x m n D) := FnC.below Sr0.out l1
      have br1 : Hid (Below w.heap.size w vr1) := Below.trans br0.out (l1.mono (Below.size br0.out))
      refine hK _ _ Sr1.out ?_
      clear hK K l1
      refine wpAnyH_take (i := 6) (v := .int .i64 (numD D s)) rfl (by kernel_rfl) (by kernel_rfl) (by kernel_rfl) (fun _ _ _ h => h) (yieldsIf_look (by kernel_rfl) _ (.tmp 22) (.tmp 24) false rfl (.map (some m)) (.string (foldT s)) (by kernel_rfl) (by kernel_rfl) (fun w' h => owns_look1 h.map s hs)) Sr1.out ?_
      refine wpAnyH_one 13 _ (by kernel_rfl) rfl fun K hK => ?_
      go_simp
      refine (CP.out _ br1.out).mono ?_
      rintro e vr2 ⟨rfl, l1⟩
      have Sr2 : Hid (FnC vr2 q g n c k x m n D) := FnC.below Sr1.out l1
      have br2 : Hid (Below w.heap.size w vr2) := Below.trans br1.out (l1.mono (Below.size br1.out))
      refine hK _ _ Sr2.out ?_
      clear hK K l1
      refine wpAnyH_take (i := 14) (v := .pointer (some ⟨g, k, none⟩)) rfl (by kernel_rfl) (by kernel_rfl) (by kernel_rfl) (fun _ _ _ h => h) (.inl ⟨by kernel_rfl, fun w _ => by go_simp⟩) Sr2.out ?_
      refine wpAnyH_take (i := 15) (v := _) rfl (by kernel_rfl) (by kernel_rfl) (by kernel_rfl) (fun _ _ _ h => h) (yieldsIf_load_one (by kernel_rfl) _ (.tmp 33) rfl g (k) (by kernel_rfl) (.string x) (fun _ h => h.c4) _ Tryd.underlying9 rfl) Sr2.out ?_
      refine wpAnyH_one 16 _ (by kernel_rfl) rfl fun K hK => ?_
      go_simp
      refine (SClone_any x _ hx).mono ?_
      rintro e vr3 ⟨rfl, l1⟩
      have Sr3 : Hid (FnC vr3 q g n c k x m n D) := FnC.below Sr2.out l1
      have br3 : Hid (Below w.heap.size w vr3) := Below.trans br2.out (l1.mono (Below.size br2.out))
      refine hK _ _ Sr3.out ?_
      clear hK K l1
      refine wpAnyH_take (i := 17) (v := _) rfl (by kernel_rfl) (by kernel_rfl) (by kernel_rfl) (fun _ _ _ h => h) (yieldsIf_asg (by kernel_rfl) (.tmp 25) rfl (.int .i64 (numD D s)) (by kernel_rfl)) Sr3.out ?_
      refine wpAnyH_take (i := 18) (v := _) rfl (by kernel_rfl) (by kernel_rfl) (by kernel_rfl) (fun _ _ _ h => h) (yieldsIf_asg (by kernel_rfl) (.tmp 35) rfl (.string x) (by kernel_rfl)) Sr3.out ?_
      refine wpAnyH_one 19 _ (by kernel_rfl) rfl fun K hK => ?_
      go_simp
      refine hK _ _ Sr3.out ?_
      clear hK K
      refine wpAnyH_done (by kernel_rfl) ?_ _
      go_wp2_with fail
      go_ret3
      exact ⟨rfl, br3.out⟩
set_option maxHeartbeats 4000000 in
theorem DAdd_any (w : World) (base q : Nat) (v : Value) (m : Nat) (D : DataW Unit) (L : List DItem) (d : PDr w base q v m D L) (hb : base ≤ w.heap.size) (htb : TabsD base w) (s : ByteArray) (hs : s.size ≤ 1048576) (n : Int) (hn : I64D n) (hL : L.length < 4096) :
    Calls Tryd.prog 17 #[.pointer (some ⟨q, 0, none⟩), .string s, .int .i64 n] w (TPost15 w base q m v (dAdd L s n) (.int .i64 (dAddE L s))) := by
  have hE : dAddE L s = if dBad s = true then 5 else if dHas L s = true then 8 else 0 := rfl
  have hF : dAddE L s ≠ 0 → dAdd L s n = L := fun h => if_neg h
  unfold TPost15
  have CN := Lib.hid (DNone_any w q m d.c1)
  have TB : Hid (∀ w', Below w.heap.size w w' → Tabs w') := fun w' hb' => htb.at hb' hb
  have CM : Hid (∀ w', Below w.heap.size w w' → Calls Tryd.prog 35 #[.string s] w' fun e w2 => e = .returned (.bool (!dBad s)) ∧ Below w'.heap.size w' w2) := fun w' hb' => DName_any s w' hs (htb.at hb' hb)
  have CH : Hid (∀ w', Below w.heap.size w w' → Calls Tryd.prog 36 #[.pointer (some ⟨q, 0, none⟩), .string s] w' fun e w2 => e = .returned (.bool (dHas L s)) ∧ Below w'.heap.size w' w2) := fun w' hb' => DHas_any w' base q v m D L (d.below hb') (Nat.le_trans hb hb'.size) (htb.next (hb'.mono hb)) s hs
  have SAME : Hid (∀ w', Below w.heap.size w w' → ∃ v' D', Turned15 w base q m v L w' v' D') := fun w' h => ⟨v, D, d.below h, Spare.of_over _ h, fun j hj => .inl hj⟩
  have D0 := Lib.hid d
  obtain ⟨b, hbb⟩ : ∃ b, b = dBad s := ⟨_, rfl⟩
  obtain ⟨z, hz⟩ : ∃ z, z = dHas L s := ⟨_, rfl⟩
  rw [← hbb] at hE CM
  rw [← hz] at hE CH
  cases b with
  | true =>
    rw [if_pos rfl] at hE
    rw [hF (by rw [hE]; decide), hE]
    clear hE hF d hbb htb hz
    go_enter Tryd.func17, Tryd.ntmps17
    go_wp2_with fail
    refine CN.out.mono ?_
    rintro e w0 ⟨rfl, rfl⟩
    go_wp2_with fail
    refine (CM.out _ (Below.refl _ _)).mono ?_
    rintro e w1 ⟨rfl, l1⟩
    have L1 := Lib.hid (l1)
    clear l1
    go_wp2_with fail
    go_ret
    exact ⟨rfl, SAME.out _ L1.out⟩
  | false =>
    rw [if_neg (by decide)] at hE
    cases z with
    | true =>
      rw [if_pos rfl] at hE
      rw [hF (by rw [hE]; decide), hE]
      clear hE hF d hbb htb hz
      go_enter Tryd.func17, Tryd.ntmps17
      go_wp2_with fail
      refine CN.out.mono ?_
      rintro e w0 ⟨rfl, rfl⟩
      go_wp2_with fail
      refine (CM.out _ (Below.refl _ _)).mono ?_
      rintro e w1 ⟨rfl, l1⟩
      have L1 := Lib.hid (l1)
      clear l1
      go_wp2_with fail
      refine (CH.out _ L1.out).mono ?_
      rintro e w2 ⟨rfl, l1⟩
      have L2 := Lib.hid ((L1.out).trans (l1.mono (Below.size L1.out)))
      clear l1
      go_wp2_with fail
      go_ret
      exact ⟨rfl, SAME.out _ L2.out⟩
    | false =>
      rw [if_neg (by decide)] at hE
      have hA : dAdd L s n = dPut L s n := by unfold dAdd; rw [if_pos hE]
      rw [hE, hA]
      have CU : Hid (∀ w', Below w.heap.size w w' → Calls Tryd.prog 37 #[.pointer (some ⟨q, 0, none⟩), .string s, .int .i64 n] w' (TPost15 w' base q m v (dPut L s n) (.tuple #[]))) := fun w' hb' => DPut_any w' base q v m D L (d.below hb') (Nat.le_trans hb hb'.size) (htb.next (hb'.mono hb)) s hs n hn hbb.symm hz.symm hL
      obtain ⟨L', hL'⟩ : ∃ L', L' = dPut L s n := ⟨_, rfl⟩
      rw [← hL'] at CU ⊢
      clear hE hF hA d hbb htb hz hL' SAME D0
      go_enter Tryd.func17, Tryd.ntmps17
      go_wp2_with fail
      refine CN.out.mono ?_
      rintro e w0 ⟨rfl, rfl⟩
      go_wp2_with fail
      refine (CM.out _ (Below.refl _ _)).mono ?_
      rintro e w1 ⟨rfl, l1⟩
      have L1 := Lib.hid (l1)
      clear l1
      go_wp2_with fail
      refine (CH.out _ L1.out).mono ?_
      rintro e w2 ⟨rfl, l1⟩
      have L2 := Lib.hid ((L1.out).trans (l1.mono (Below.size L1.out)))
      clear l1
      go_wp2_with fail
      refine (CU.out _ L2.out).mono ?_
      rintro e w3 ⟨rfl, v', D', t⟩
      have TT := Lib.hid t
      clear t
      go_wp2_with fail
      go_ret
      exact ⟨rfl, v', D', TT.out.over L2.out⟩
set_option maxHeartbeats 4000000 in
theorem DRemove_any (w : World) (base q : Nat) (v : Value) (m : Nat) (D : DataW Unit) (L : List DItem) (d : PDr w base q v m D L) (hb : base ≤ w.heap.size) (htb : TabsD base w) (s : ByteArray) (hs : s.size ≤ 1048576) :
    Calls Tryd.prog 21 #[.pointer (some ⟨q, 0, none⟩), .string s] w (TPost15 w base q m v (dRem L s) (.int .i64 (dFindE L s))) := by
  have hE : dFindE L s = if dBad s = true then 5 else if dHas L s = true then 0 else 7 := rfl
  have hF : dFindE L s ≠ 0 → dRem L s = L := fun h => if_neg h
  unfold TPost15
  have CN := Lib.hid (DNone_any w q m d.c1)
  have TB : Hid (∀ w', Below w.heap.size w w' → Tabs w') := fun w' hb' => htb.at hb' hb
  have CM : Hid (∀ w', Below w.heap.size w w' → Calls Tryd.prog 35 #[.string s] w' fun e w2 => e = .returned (.bool (!dBad s)) ∧ Below w'.heap.size w' w2) := fun w' hb' => DName_any s w' hs (htb.at hb' hb)
  have CH : Hid (∀ w', Below w.heap.size w w' → Calls Tryd.prog 36 #[.pointer (some ⟨q, 0, none⟩), .string s] w' fun e w2 => e = .returned (.bool (dHas L s)) ∧ Below w'.heap.size w' w2) := fun w' hb' => DHas_any w' base q v m D L (d.below hb') (Nat.le_trans hb hb'.size) (htb.next (hb'.mono hb)) s hs
  have SAME : Hid (∀ w', Below w.heap.size w w' → ∃ v' D', Turned15 w base q m v L w' v' D') := fun w' h => ⟨v, D, d.below h, Spare.of_over _ h, fun j hj => .inl hj⟩
  have D0 := Lib.hid d
  obtain ⟨b, hbb⟩ : ∃ b, b = dBad s := ⟨_, rfl⟩
  obtain ⟨z, hz⟩ : ∃ z, z = dHas L s := ⟨_, rfl⟩
  rw [← hbb] at hE CM
  rw [← hz] at hE CH
  cases b with
  | true =>
    rw [if_pos rfl] at hE
    rw [hF (by rw [hE]; decide), hE]
    clear hE hF d hbb htb hz
    go_enter Tryd.func21, Tryd.ntmps21
    go_wp2_with fail
    refine CN.out.mono ?_
    rintro e w0 ⟨rfl, rfl⟩
    go_wp2_with fail
    refine (CM.out _ (Below.refl _ _)).mono ?_
    rintro e w1 ⟨rfl, l1⟩
    have L1 := Lib.hid (l1)
    clear l1
    go_wp2_with fail
    go_ret
    exact ⟨rfl, SAME.out _ L1.out⟩
  | false =>
    rw [if_neg (by decide)] at hE
    cases z with
    | false =>
      rw [if_neg (by decide)] at hE
      rw [hF (by rw [hE]; decide), hE]
      clear hE hF d hbb htb hz
      go_enter Tryd.func21, Tryd.ntmps21
      go_wp2_with fail
      refine CN.out.mono ?_
      rintro e w0 ⟨rfl, rfl⟩
      go_wp2_with fail
      refine (CM.out _ (Below.refl _ _)).mono ?_
      rintro e w1 ⟨rfl, l1⟩
      have L1 := Lib.hid (l1)
      clear l1
      go_wp2_with fail
      refine (CH.out _ L1.out).mono ?_
      rintro e w2 ⟨rfl, l1⟩
      have L2 := Lib.hid ((L1.out).trans (l1.mono (Below.size L1.out)))
      clear l1
      go_wp2_with fail
      go_ret
      exact ⟨rfl, SAME.out _ L2.out⟩
    | true =>
      rw [if_pos rfl] at hE
      have CU : Hid (∀ w', Below w.heap.size w w' → Calls Tryd.prog 40 #[.pointer (some ⟨q, 0, none⟩), .string s] w' (TPost15 w' base q m v (dRem L s) (.tuple #[]))) := fun w' hb' => DDrop_any w' base q v m D L (d.below hb') (Nat.le_trans hb hb'.size) (htb.next (hb'.mono hb)) s hs hE
      rw [hE]
      obtain ⟨L', hL'⟩ : ∃ L', L' = dRem L s := ⟨_, rfl⟩
      rw [← hL'] at CU ⊢
      clear hE hF d hbb htb hz hL' SAME D0
      go_enter Tryd.func21, Tryd.ntmps21
      go_wp2_with fail
      refine CN.out.mono ?_
      rintro e w0 ⟨rfl, rfl⟩
      go_wp2_with fail
      refine (CM.out _ (Below.refl _ _)).mono ?_
      rintro e w1 ⟨rfl, l1⟩
      have L1 := Lib.hid (l1)
      clear l1
      go_wp2_with fail
      refine (CH.out _ L1.out).mono ?_
      rintro e w2 ⟨rfl, l1⟩
      have L2 := Lib.hid ((L1.out).trans (l1.mono (Below.size L1.out)))
      clear l1
      go_wp2_with fail
      refine (CU.out _ L2.out).mono ?_
      rintro e w3 ⟨rfl, v', D', t⟩
      have TT := Lib.hid t
      clear t
      go_wp2_with fail
      go_ret
      exact ⟨rfl, v', D', TT.out.over L2.out⟩
set_option maxHeartbeats 8000000 in
theorem DRename_any (w : World) (base q : Nat) (v : Value) (m : Nat) (D : DataW Unit) (L : List DItem) (d : PDr w base q v m D L) (hb : base ≤ w.heap.size) (htb : TabsD base w) (s t : ByteArray) (hs : s.size ≤ 1048576) (ht : t.size ≤ 1048576) :
    Calls Tryd.prog 22 #[.pointer (some ⟨q, 0, none⟩), .string s, .string t] w (TPost15 w base q m v (dRen L s t) (.int .i64 (dRenE L s t))) := by
  have hC : dRenC L s t = if dBad s = true ∨ dBad t = true then 5 else if dHas L s = false then 7 else if dHas L t = true ∧ alk (dFind L s).1 t = false then 8 else 0 := rfl
  have hE : dRenE L s t = dRenC L s t := by
    unfold dRenE
    split
    · rename_i h
      rw [d.ok.renE h, h]
    · rfl
  have hF : dRenC L s t ≠ 0 → dRen L s t = L := fun h => if_neg h
  have hR : dRenC L s t = 0 → dAddE (dRem L s) t = 0 := d.ok.renE
  have hQ : dRenC L s t = 0 → dRen L s t = dAdd (dRem L s) t (dFind L s).2 := fun h => if_pos h
  rw [hE]
  unfold TPost15
  have CN := Lib.hid (DNone_any w q m d.c1)
  have TB : Hid (∀ w', Below w.heap.size w w' → Tabs w') := fun w' hb' => htb.at hb' hb
  have CM : Hid (∀ w', Below w.heap.size w w' → Calls Tryd.prog 35 #[.string s] w' fun e w2 => e = .returned (.bool (!dBad s)) ∧ Below w'.heap.size w' w2) := fun w' hb' => DName_any s w' hs (htb.at hb' hb)
  have CH : Hid (∀ w', Below w.heap.size w w' → Calls Tryd.prog 36 #[.pointer (some ⟨q, 0, none⟩), .string s] w' fun e w2 => e = .returned (.bool (dHas L s)) ∧ Below w'.heap.size w' w2) := fun w' hb' => DHas_any w' base q v m D L (d.below hb') (Nat.le_trans hb hb'.size) (htb.next (hb'.mono hb)) s hs
  have SAME : Hid (∀ w', Below w.heap.size w w' → ∃ v' D', Turned15 w base q m v L w' v' D') := fun w' h => ⟨v, D, d.below h, Spare.of_over _ h, fun j hj => .inl hj⟩
  have D0 := Lib.hid d
  obtain ⟨b, hbb⟩ : ∃ b, b = dBad s := ⟨_, rfl⟩
  obtain ⟨z, hz⟩ : ∃ z, z = dHas L s := ⟨_, rfl⟩
  obtain ⟨b2, hb2⟩ : ∃ b, b = dBad t := ⟨_, rfl⟩
  obtain ⟨z2, hz2⟩ : ∃ z, z = dHas L t := ⟨_, rfl⟩
  have CM2 : Hid (∀ w', Below w.heap.size w w' → Calls Tryd.prog 35 #[.string t] w' fun e w2 => e = .returned (.bool (!b2)) ∧ Below w'.heap.size w' w2) := fun w' hb' => by rw [hb2]; exact DName_any t w' ht (htb.at hb' hb)
  have CH2 : Hid (∀ w', Below w.heap.size w w' → Calls Tryd.prog 36 #[.pointer (some ⟨q, 0, none⟩), .string t] w' fun e w2 => e = .returned (.bool z2) ∧ Below w'.heap.size w' w2) := fun w' hb' => by rw [hz2]; exact DHas_any w' base q v m D L (d.below hb') (Nat.le_trans hb hb'.size) (htb.next (hb'.mono hb)) t ht
  obtain ⟨y, hy⟩ : ∃ y, y = alk s t := ⟨_, rfl⟩
  have CA : Hid (∀ w', Below w.heap.size w w' → Calls Tryd.prog 20 #[.string s, .string t] w' fun e w2 => e = .returned (.bool y) ∧ Below w'.heap.size w' w2) := fun w' hb' => by rw [hy]; exact Alike1_any s t w' hs ht (htb.at hb' hb)
  rw [← hbb] at hC CM
  rw [← hb2] at hC
  rw [← hz] at hC CH
  rw [← hz2] at hC
  cases b with
  | true =>
    rw [if_pos (.inl rfl)] at hC
    rw [hF (by rw [hC]; decide), hC]
    clear hC hE hF hR hQ d hbb htb hz hb2 hz2 hy CM2 CH2 CA
    go_enter Tryd.func22, Tryd.ntmps22
    go_wp2_with fail
    refine CN.out.mono ?_
    rintro e w0 ⟨rfl, rfl⟩
    go_wp2_with fail
    refine (CM.out _ (Below.refl _ _)).mono ?_
    rintro e w1 ⟨rfl, l1⟩
    have L1 := Lib.hid (l1)
    clear l1
    go_wp2_with fail
    go_ret
    exact ⟨rfl, SAME.out _ L1.out⟩
  | false =>
    cases b2 with
    | true =>
      rw [if_pos (.inr rfl)] at hC
      rw [hF (by rw [hC]; decide), hC]
      clear hC hE hF hR hQ d hbb htb hz hb2 hz2 hy CH2 CA
      go_enter Tryd.func22, Tryd.ntmps22
      go_wp2_with fail
      refine CN.out.mono ?_
      rintro e w0 ⟨rfl, rfl⟩
      go_wp2_with fail
      refine (CM.out _ (Below.refl _ _)).mono ?_
      rintro e w1 ⟨rfl, l1⟩
      have L1 := Lib.hid (l1)
      clear l1
      go_wp2_with fail
      refine (CM2.out _ L1.out).mono ?_
      rintro e w2 ⟨rfl, l1⟩
      have L2 := Lib.hid ((L1.out).trans (l1.mono (Below.size L1.out)))
      clear l1
      go_wp2_with fail
      go_ret
      exact ⟨rfl, SAME.out _ L2.out⟩
    | false =>
      rw [if_neg (by decide)] at hC
      cases z with
      | false =>
        rw [if_pos rfl] at hC
        rw [hF (by rw [hC]; decide), hC]
        clear hC hE hF hR hQ d hbb htb hz hb2 hz2 hy CH2 CA
        go_enter Tryd.func22, Tryd.ntmps22
        go_wp2_with fail
        refine CN.out.mono ?_
        rintro e w0 ⟨rfl, rfl⟩
        go_wp2_with fail
        refine (CM.out _ (Below.refl _ _)).mono ?_
        rintro e w1 ⟨rfl, l1⟩
        have L1 := Lib.hid (l1)
        clear l1
        go_wp2_with fail
        refine (CM2.out _ L1.out).mono ?_
        rintro e w2 ⟨rfl, l1⟩
        have L2 := Lib.hid ((L1.out).trans (l1.mono (Below.size L1.out)))
        clear l1
        go_wp2_with fail
        refine (CH.out _ L2.out).mono ?_
        rintro e w3 ⟨rfl, l1⟩
        have L3 := Lib.hid ((L2.out).trans (l1.mono (Below.size L2.out)))
        clear l1
        go_wp2_with fail
        go_ret
        exact ⟨rfl, SAME.out _ L3.out⟩
      | true =>
        rw [if_neg (by decide)] at hC
        obtain ⟨f1, f2, f3⟩ := dFind_ok hbb.symm hz.symm
        have hay : alk (dFind L s).1 t = y := by
          rw [hy]
          cases hq : alk s t with
          | true => exact alk_trans f3 hq
          | false =>
            cases hp : alk (dFind L s).1 t with
            | false => rfl
            | true =>
              rw [alk_trans (alk_symm f3) hp] at hq
              cases hq
        rw [hay] at hC
        by_cases hno : z2 = true ∧ y = false
        · rw [if_pos hno] at hC
          rw [hF (by rw [hC]; decide), hC]
          obtain ⟨e1, e2⟩ := hno
          clear hC hE hF hR hQ d hbb htb hz hb2 hz2 hy hay f1 f2 f3
          subst e1 e2
          go_enter Tryd.func22, Tryd.ntmps22
          go_wp2_with fail
          refine CN.out.mono ?_
          rintro e w0 ⟨rfl, rfl⟩
          go_wp2_with fail
          refine (CM.out _ (Below.refl _ _)).mono ?_
          rintro e w1 ⟨rfl, l1⟩
          have L1 := Lib.hid (l1)
          clear l1
          go_wp2_with fail
          refine (CM2.out _ L1.out).mono ?_
          rintro e w2 ⟨rfl, l1⟩
          have L2 := Lib.hid ((L1.out).trans (l1.mono (Below.size L1.out)))
          clear l1
          go_wp2_with fail
          refine (CH.out _ L2.out).mono ?_
          rintro e w3 ⟨rfl, l1⟩
          have L3 := Lib.hid ((L2.out).trans (l1.mono (Below.size L2.out)))
          clear l1
          go_wp2_with fail
          refine (CH2.out _ L3.out).mono ?_
          rintro e w4 ⟨rfl, l1⟩
          have L4 := Lib.hid ((L3.out).trans (l1.mono (Below.size L3.out)))
          clear l1
          go_wp2_with fail
          refine (CA.out _ L4.out).mono ?_
          rintro e w5 ⟨rfl, l1⟩
          have L5 := Lib.hid ((L4.out).trans (l1.mono (Below.size L4.out)))
          clear l1
          go_wp2_with fail
          go_ret
          exact ⟨rfl, SAME.out _ L5.out⟩
        · rw [if_neg hno] at hC
          have hadd := hR hC
          have hq2 := hQ hC
          have hp2 : dAdd (dRem L s) t (dFind L s).2 = dPut (dRem L s) t (dFind L s).2 := if_pos hadd
          have hbt : dBad t = false := hb2.symm
          have hnt : dHas (dRem L s) t = false := by
            unfold dAddE at hadd
            rw [if_neg (by rw [hbt]; decide)] at hadd
            cases hq : dHas (dRem L s) t with
            | false => rfl
            | true => rw [hq, if_pos rfl] at hadd; cases hadd
          have hrl := dRem_len f1
          have hsm := d.small
          have hnum := d.num f1
          rw [hq2, hp2, hC, ← hnum]
          have MC : Hid (∀ w', Below w.heap.size w w' → MpC w' q m L.length D) := fun w' h => MpC.below ⟨d.c1, d.map⟩ h
          have CD : Hid (∀ w', Below w.heap.size w w' → Calls Tryd.prog 40 #[.pointer (some ⟨q, 0, none⟩), .string s] w' (TPost15 w' base q m v (dRem L s) (.tuple #[]))) := fun w' hb' => DDrop_any w' base q v m D L (d.below hb') (Nat.le_trans hb hb'.size) (htb.next (hb'.mono hb)) s hs f1
          have hwf := owns_wf d.map s hs
          have CU : Hid (∀ w6 w7 v' D', Below w.heap.size w w6 → Turned15 w6 base q m v (dRem L s) w7 v' D' → Calls Tryd.prog 37 #[.pointer (some ⟨q, 0, none⟩), .string t, .int .i64 (numD D s)] w7 (TPost15 w7 base q m v' (dPut (dRem L s) t (numD D s)) (.tuple #[]))) := fun w6 w7 v' D' b6 tt => by
            have s6 := Nat.le_trans hb b6.size
            have b7 : Below base w6 w7 := tt.a.below (fun j hj => ((d.below b6).set_lt j hj).1) s6
            exact DPut_any w7 base q v' m D' _ tt.d (Nat.le_trans s6 tt.a.size) (htb.next ((b6.mono hb).trans b7)) t ht _ hwf hbt hnt (by omega)
          have UP : Hid (∀ w6 w7 v' D' w8 v2 D2, Below w.heap.size w w6 → Turned15 w6 base q m v (dRem L s) w7 v' D' → Turned15 w7 base q m v' (dPut (dRem L s) t (numD D s)) w8 v2 D2 → Turned15 w base q m v (dPut (dRem L s) t (numD D s)) w8 v2 D2) := fun w6 w7 v' D' w8 v2 D2 b6 t1 t2 => by
            refine Turned15.over ⟨t2.d, t1.a.trans t2.a fun j hj hs' => ?_, fun j hj => ?_⟩ b6
            · rcases t1.n j hs' with h | h
              · exact h
              · omega
            · rcases t2.n j hj with h | h
              · exact t1.n j h
              · exact .inr (Nat.le_trans t1.a.size h)
          obtain ⟨n, hn⟩ : ∃ n, n = numD D s := ⟨_, rfl⟩
          obtain ⟨N, hN⟩ : ∃ N, N = L.length := ⟨_, rfl⟩
          obtain ⟨L1, hL1⟩ : ∃ L1, L1 = dRem L s := ⟨_, rfl⟩
          obtain ⟨L2, hL2⟩ : ∃ L2, L2 = dPut (dRem L s) t (numD D s) := ⟨_, rfl⟩
          rw [← hL2] at CU UP ⊢
          rw [← hL1] at CD CU UP
          rw [← hN] at MC
          clear hC hE hF hR hQ d hbb htb hz hb2 hz2 hy hay f1 f2 f3 hadd hq2 hp2 hbt hnt hrl hnum hL1 hL2 hN hwf SAME D0 hsm hn n
          cases z2 with
          | false =>
            go_enter Tryd.func22, Tryd.ntmps22
            go_wp2_with fail
            refine CN.out.mono ?_
            rintro e w0 ⟨rfl, rfl⟩
            go_wp2_with fail
            refine (CM.out _ (Below.refl _ _)).mono ?_
            rintro e w1 ⟨rfl, l1⟩
            have L1 := Lib.hid (l1)
            clear l1
            go_wp2_with fail
            refine (CM2.out _ L1.out).mono ?_
            rintro e w2 ⟨rfl, l1⟩
            have L2 := Lib.hid ((L1.out).trans (l1.mono (Below.size L1.out)))
            clear l1
            go_wp2_with fail
            refine (CH.out _ L2.out).mono ?_
            rintro e w3 ⟨rfl, l1⟩
            have L3 := Lib.hid ((L2.out).trans (l1.mono (Below.size L2.out)))
            clear l1
            go_wp2_with fail
            refine (CH2.out _ L3.out).mono ?_
            rintro e w4 ⟨rfl, l1⟩
            have L4 := Lib.hid ((L3.out).trans (l1.mono (Below.size L3.out)))
            clear l1
            go_upto_region 10 with fail
            refine wp_region_held (S := fun w' => MpC w' q m N D) (by kernel_rfl) ?_
            change wpAnyH _ _ _ _ _ _ _ _ w4.drew
            have Sr0 : Hid (MpC w4.drew q m N D) := (MC.out _ L4.out).below (Below.refl _ _).drew
            have br0 : Hid (Below w.heap.size w w4.drew) := L4.out.drew
            refine wpAnyH_take (i := 0) (v := _) rfl (by kernel_rfl) (by kernel_rfl) (by kernel_rfl) (fun _ _ _ h => h) (yieldsIf_move (by kernel_rfl) (.tmp 0) rfl (.pointer (some ⟨q, 0, none⟩)) (by kernel_rfl)) Sr0.out ?_
            refine wpAnyH_take (i := 1) (v := _) rfl (by kernel_rfl) (by kernel_rfl) (by kernel_rfl) (fun _ _ _ h => h) (yieldsIf_nil (by kernel_rfl) (.tmp 33) rfl ⟨q, 0, none⟩ (by kernel_rfl)) Sr0.out ?_
            refine wpAnyH_take (i := 2) (v := _) rfl (by kernel_rfl) (by kernel_rfl) (by kernel_rfl) (fun _ _ _ h => h) (yieldsIf_fld (by kernel_rfl) _ (.tmp 34) 1 rfl (.pointer (some ⟨q, 0, none⟩)) (.pointer (some ⟨q, 1, none⟩)) (by kernel_rfl) (fun w => by go_simp)) Sr0.out ?_
            refine wpAnyH_take (i := 3) (v := _) rfl (by kernel_rfl) (by kernel_rfl) (by kernel_rfl) (fun _ _ _ h => h) (yieldsIf_load_one (by kernel_rfl) _ (.tmp 35) rfl q (1) (by kernel_rfl) (.map (some m)) (fun _ h => h.c1) _ Tryd.underlying46 rfl) Sr0.out ?_
            refine wpAnyH_take (i := 4) (v := _) rfl (by kernel_rfl) (by kernel_rfl) (by kernel_rfl) (fun _ _ _ h => h) (yieldsIf_move (by kernel_rfl) (.tmp 1) rfl (.string s) (by kernel_rfl)) Sr0.out ?_
            refine wpAnyH_one 5 _ (by kernel_rfl) rfl fun K hK => ?_
            go_simp
            refine (Fold1_any s _ hs (TB.out _ br0.out)).mono ?_
            rintro e vr1 ⟨rfl, l1⟩
            have Sr1 : Hid (MpC vr1 q m N D) := MpC.below Sr0.out l1
            have br1 : Hid (Below w.heap.size w vr1) := Below.trans br0.out (l1.mono (Below.size br0.out))
            refine hK _ _ Sr1.out ?_
            clear hK K l1
            refine wpAnyH_take (i := 6) (v := .int .i64 (numD D s)) rfl (by kernel_rfl) (by kernel_rfl) (by kernel_rfl) (fun _ _ _ h => h) (yieldsIf_look (by kernel_rfl) _ (.tmp 36) (.tmp 38) false rfl (.map (some m)) (.string (foldT s)) (by kernel_rfl) (by kernel_rfl) (fun w' h => owns_look1 h.map s hs)) Sr1.out ?_
            refine wpAnyH_take (i := 7) (v := _) rfl (by kernel_rfl) (by kernel_rfl) (by kernel_rfl) (fun _ _ _ h => h) (yieldsIf_asg (by kernel_rfl) (.tmp 39) rfl (.int .i64 (numD D s)) (by kernel_rfl)) Sr1.out ?_
            refine wpAnyH_done (by kernel_rfl) ?_ _
            go_wp2_with fail
            refine (CD.out _ br1.out).mono ?_
            rintro e w6 ⟨rfl, v', D', t1⟩
            have T1 := Lib.hid t1
            clear t1
            go_wp2_with fail
            refine (CU.out _ _ _ _ br1.out T1.out).mono ?_
            rintro e w7 ⟨rfl, v2, D2, t2⟩
            have T2 := Lib.hid t2
            clear t2
            go_wp2_with fail
            go_ret
            exact ⟨rfl, v2, D2, UP.out _ _ _ _ _ _ _ br1.out T1.out T2.out⟩
          | true =>
            have hy1 : y = true := by
              cases y with
              | true => rfl
              | false => exact absurd ⟨rfl, rfl⟩ hno
            subst hy1
            go_enter Tryd.func22, Tryd.ntmps22
            go_wp2_with fail
            refine CN.out.mono ?_
            rintro e w0 ⟨rfl, rfl⟩
            go_wp2_with fail
            refine (CM.out _ (Below.refl _ _)).mono ?_
            rintro e w1 ⟨rfl, l1⟩
            have L1 := Lib.hid (l1)
            clear l1
            go_wp2_with fail
            refine (CM2.out _ L1.out).mono ?_
            rintro e w2 ⟨rfl, l1⟩
            have L2 := Lib.hid ((L1.out).trans (l1.mono (Below.size L1.out)))
            clear l1
            go_wp2_with fail
            refine (CH.out _ L2.out).mono ?_
            rintro e w3 ⟨rfl, l1⟩
            have L3 := Lib.hid ((L2.out).trans (l1.mono (Below.size L2.out)))
            clear l1
            go_wp2_with fail
            refine (CH2.out _ L3.out).mono ?_
            rintro e w4 ⟨rfl, l1⟩
            have L4 := Lib.hid ((L3.out).trans (l1.mono (Below.size L3.out)))
            clear l1
            go_wp2_with fail
            refine (CA.out _ L4.out).mono ?_
            rintro e w5 ⟨rfl, l1⟩
            have L5 := Lib.hid ((L4.out).trans (l1.mono (Below.size L4.out)))
            clear l1
            go_upto_region 10 with fail
            refine wp_region_held (S := fun w' => MpC w' q m N D) (by kernel_rfl) ?_
            change wpAnyH _ _ _ _ _ _ _ _ w5.drew
            have Sr0 : Hid (MpC w5.drew q m N D) := (MC.out _ L5.out).below (Below.refl _ _).drew
            have br0 : Hid (Below w.heap.size w w5.drew) := L5.out.drew
            refine wpAnyH_take (i := 0) (v := _) rfl (by kernel_rfl) (by kernel_rfl) (by kernel_rfl) (fun _ _ _ h => h) (yieldsIf_move (by kernel_rfl) (.tmp 0) rfl (.pointer (some ⟨q, 0, none⟩)) (by kernel_rfl)) Sr0.out ?_
            refine wpAnyH_take (i := 1) (v := _) rfl (by kernel_rfl) (by kernel_rfl) (by kernel_rfl) (fun _ _ _ h => h) (yieldsIf_nil (by kernel_rfl) (.tmp 33) rfl ⟨q, 0, none⟩ (by kernel_rfl)) Sr0.out ?_
            refine wpAnyH_take (i := 2) (v := _) rfl (by kernel_rfl) (by kernel_rfl) (by kernel_rfl) (fun _ _ _ h => h) (yieldsIf_fld (by kernel_rfl) _ (.tmp 34) 1 rfl (.pointer (some ⟨q, 0, none⟩)) (.pointer (some ⟨q, 1, none⟩)) (by kernel_rfl) (fun w => by go_simp)) Sr0.out ?_
            refine wpAnyH_take (i := 3) (v := _) rfl (by kernel_rfl) (by kernel_rfl) (by kernel_rfl) (fun _ _ _ h => h) (yieldsIf_load_one (by kernel_rfl) _ (.tmp 35) rfl q (1) (by kernel_rfl) (.map (some m)) (fun _ h => h.c1) _ Tryd.underlying46 rfl) Sr0.out ?_
            refine wpAnyH_take (i := 4) (v := _) rfl (by kernel_rfl) (by kernel_rfl) (by kernel_rfl) (fun _ _ _ h => h) (yieldsIf_move (by kernel_rfl) (.tmp 1) rfl (.string s) (by kernel_rfl)) Sr0.out ?_
            refine wpAnyH_one 5 _ (by kernel_rfl) rfl fun K hK => ?_
            go_simp
            refine (Fold1_any s _ hs (TB.out _ br0.out)).mono ?_
            rintro e vr1 ⟨rfl, l1⟩
            have Sr1 : Hid (MpC vr1 q m N D) := MpC.below Sr0.out l1
            have br1 : Hid (Below w.heap.size w vr1) := Below.trans br0.out (l1.mono (Below.size br0.out))
            refine hK _ _ Sr1.out ?_
            clear hK K l1
            refine wpAnyH_take (i := 6) (v := .int .i64 (numD D s)) rfl (by kernel_rfl) (by kernel_rfl) (by kernel_rfl) (fun _ _ _ h => h) (yieldsIf_look (by kernel_rfl) _ (.tmp 36) (.tmp 38) false rfl (.map (some m)) (.string (foldT s)) (by kernel_rfl) (by kernel_rfl) (fun w' h => owns_look1 h.map s hs)) Sr1.out ?_
            refine wpAnyH_take (i := 7) (v := _) rfl (by kernel_rfl) (by kernel_rfl) (by kernel_rfl) (fun _ _ _ h => h) (yieldsIf_asg (by kernel_rfl) (.tmp 39) rfl (.int .i64 (numD D s)) (by kernel_rfl)) Sr1.out ?_
            refine wpAnyH_done (by kernel_rfl) ?_ _
            go_wp2_with fail
            refine (CD.out _ br1.out).mono ?_
            rintro e w6 ⟨rfl, v', D', t1⟩
            have T1 := Lib.hid t1
            clear t1
            go_wp2_with fail
            refine (CU.out _ _ _ _ br1.out T1.out).mono ?_
            rintro e w7 ⟨rfl, v2, D2, t2⟩
            have T2 := Lib.hid t2
            clear t2
            go_wp2_with fail
            go_ret
            exact ⟨rfl, v2, D2, UP.out _ _ _ _ _ _ _ br1.out T1.out T2.out⟩
end Go.Proofs.YtangkcedgelegaaDoor

namespace Go.Proofs.YtangkcedgelegaaDoor
set_option linter.all false
set_option maxRecDepth 100000
open Go.RowKit
set_option linter.unusedVariables false
section
variable {P : Program} {w : World} {ops : Array Oper} {rest : List Oper} {o : Oper} {a : Act} {Q : Exit → Act → World → Prop}
theorem wpList_alloc_oneD (hg : o.guard = none) (T : TypeId) (ho : o.op = .alloc T) (z : Value) (hi : (P.info? T).map (fun i => (i.zero, i.size)) = some (some z, 1)) (hz : z.cells = #[z])
    (h : ∀ g w', w.heap.size ≤ g → g < w'.heap.size → Hid (Blk w' g T [z]) → Hid (Below w.heap.size w w') → wpList P ops Q rest (a.put o.dst (.pointer (some ⟨g, 0, none⟩))) w') : wpList P ops Q (o :: rest) a w := by
  refine wpList_plain hg fun K hK => ?_
  unfold Oper.wp execOp
  have hz0 := (zero_of_info hi).1
  simp only [ho, Sem.run_bind, Instr.alloc, hz0, newVar, newRow, hz, run_newObj_alloc, Sem.run_pure, Result.andThen_ok]
  refine hK _ _ (h _ _ (Nat.le_refl _) (by simp) ?_ ((Below.refl _ _).alloc (Nat.le_refl _) _))
  exact Blk.new w T [z]
end
theorem boxes4 {w w1 w2 w3 w4 : World} {p7 p8 p9 p10 : Nat} {T7 T8 T9 T10 : TypeId} {a7 a8 a9 a10 : List Value} {ad : Addr} {u : Value} (g7 : w.heap.size ≤ p7) (h7 : p7 < w1.heap.size) (B7 : Hid (Blk w1 p7 T7 a7)) (L1 : Hid (Below w.heap.size w w1)) (g8 : w1.heap.size ≤ p8) (h8 : p8 < w2.heap.size) (B8 : Hid (Blk w2 p8 T8 a8)) (L2 : Hid (Below w1.heap.size w1 w2))
    (g9 : w2.heap.size ≤ p9) (h9 : p9 < w3.heap.size) (B9 : Hid (Blk w3 p9 T9 a9)) (L3 : Hid (Below w2.heap.size w2 w3)) (g10 : w3.heap.size ≤ p10) (h10 : p10 < w4.heap.size) (B10 : Hid (Blk w4 p10 T10 a10)) (L4 : Hid (Below w3.heap.size w3 w4)) (k0 : w.cell? ad = some u) :
    Hid (Below w.heap.size w w4) ∧ Hid (Blk w4 p7 T7 a7) ∧ Hid (Blk w4 p8 T8 a8) ∧ Hid (Blk w4 p9 T9 a9) ∧ Hid (Blk w4 p10 T10 a10) ∧ Hid (p9 ≠ p8 ∧ p10 ≠ p8 ∧ p7 ≠ p8) ∧ Hid (p8 ≠ p9 ∧ p10 ≠ p9 ∧ p7 ≠ p9) ∧ Hid (p8 ≠ p10 ∧ p9 ≠ p10 ∧ p7 ≠ p10) ∧ Hid (w4.cell? ad = some u) := by
  have q2 := L1.out.trans (L2.out.mono L1.out.size)
  have q3 := q2.trans (L3.out.mono q2.size)
  have q4 := q3.trans (L4.out.mono q3.size)
  have s2 := L2.out.size
  have s3 := L3.out.size
  exact ⟨q4, ((B7.out.over L2.out).over L3.out).over L4.out, (B8.out.over L3.out).over L4.out, B9.out.over L4.out, B10.out, (by show _ ∧ _ ∧ _; omega), (by show _ ∧ _ ∧ _; omega), (by show _ ∧ _ ∧ _; omega), (q4.cell (lt_of_cellD k0)).trans k0⟩
theorem below_three {w v v1 v2 v3 : World} {p8 p9 p10 : Nat} (h : Below w.heap.size w v) (P1 : Only p8 v v1) (P2 : Only p9 v1 v2) (P3 : Only p10 v2 v3) (h8 : w.heap.size ≤ p8) (h9 : w.heap.size ≤ p9) (h10 : w.heap.size ≤ p10) : Below w.heap.size w v3 :=
  h.trans (((P1.below h8).trans (P2.below h9)).trans (P3.below h10))
set_option maxHeartbeats 8000000 in
theorem DList_err (w : World) (base q : Nat) (v : Value) (m : Nat) (D : DataW Unit) (L : List DItem) (d : PDr w base q v m D L) (hb : base ≤ w.heap.size) (htb : TabsD base w) (p a : ByteArray) (hp : p.size ≤ 1048576) (ha : a.size ≤ 1048576) (mo : Int) (E : Int) (hE : dListE L p a mo = E) (h0 : E ≠ 0) :
    Calls Tryd.prog 12 #[.pointer (some ⟨q, 0, none⟩), .string p, .string a, .int .i64 mo] w (LsPost w [] false E) := by
  rw [dListE_glob] at hE
  have k0 : w.cell? ⟨q, 1, none⟩ = some (.map (some m)) := d.c1
  have CN : Hid (∀ w', Below w.heap.size w w' → Calls Tryd.prog 25 #[.pointer (some ⟨q, 0, none⟩)] w' fun e w2 => e = .returned (.bool false) ∧ w' = w2) := fun w' h => DNone_any w' q m (d.below h).c1
  have CG : Hid (∀ w', Below w.heap.size w w' → Calls Tryd.prog 26 #[.pointer (some ⟨q, 0, none⟩), .string p] w' fun e w2 => e = .returned (.int .i64 (dGlobE L p)) ∧ Below w'.heap.size w' w2) := fun w' h => DGlobs_any w' base q v m D L (d.below h) (Nat.le_trans hb h.size) (htb.next (h.mono hb)) p hp
  have CT : Hid (∀ w', Below w.heap.size w w' → Calls Tryd.prog 27 #[.string a] w' fun e w2 => e = .returned (.bool (isText a.data.toList)) ∧ Below w'.heap.size w' w2) := fun w' h => DText_any a w' ha (htb.at h hb)
  have E0 : Hid (∀ v0 v1 v2 v3 (p8 p9 p10 : Nat) (w1 w2 w3 : World), Below w.heap.size w v0 → Only p8 v0 v1 → Only p9 v1 v2 → Only p10 v2 v3 → w.heap.size ≤ w1.heap.size → w1.heap.size ≤ p8 → w1.heap.size ≤ w2.heap.size → w2.heap.size ≤ p9 → w2.heap.size ≤ w3.heap.size → w3.heap.size ≤ p10 → Below w.heap.size w v3) := fun v0 v1 v2 v3 p8 p9 p10 w1 w2 w3 a1 a2 a3 a4 a5 a6 a7 a8 a9 a10 => below_three a1 a2 a3 a4 (by omega) (by omega) (by omega)
  by_cases h1 : mo < 0
  · rw [if_pos h1] at hE
    subst hE
    clear d htb CG CT
    go_enter Tryd.func12, Tryd.ntmps12
    go_wp2_with (first
      | ((with_reducible show wpList _ _ _ (⟨some 7, _, _, _, _, _⟩ :: _) _ _); refine wpList_box_one rfl _ (.tmp 3) rfl (.int .i64 mo) rfl rfl ?_; intro p7 w1 g7 h7 B7 L1)
      | ((with_reducible show wpList _ _ _ (⟨some 8, _, _, _, _, _⟩ :: _) _ _); refine wpList_alloc_oneD rfl 29 rfl (.slice none 0 0) (by kernel_rfl) rfl ?_; intro p8 w2 g8 h8 B8 L2)
      | ((with_reducible show wpList _ _ _ (⟨some 9, _, _, _, _, _⟩ :: _) _ _); refine wpList_alloc_oneD rfl 4 rfl (.bool false) (by kernel_rfl) rfl ?_; intro p9 w3 g9 h9 B9 L3)
      | ((with_reducible show wpList _ _ _ (⟨some 10, _, _, _, _, _⟩ :: _) _ _); refine wpList_alloc_oneD rfl 30 rfl (.int .i64 0) (by kernel_rfl) rfl ?_; intro p10 w4 g10 h10 B10 L4; go_loud (obtain ⟨K4, C7, C8, C9, C10, E1, E2, E3, Q0⟩ := boxes4 g7 h7 B7 L1 g8 h8 B8 L2 g9 h9 B9 L3 g10 h10 B10 L4 k0); go_loud (have c7 := C7.out.cell 0; have c8 := C8.out.cell 0; have c9 := C9.out.cell 0; have c10 := C10.out.cell 0))
      | fail)
    refine (CN.out w4 K4.out).mono ?_
    rintro e w0 ⟨rfl, rfl⟩
    have X8 := C8
    have X9 := C9
    have X10 := C10
    go_wp2_with (first
      | ((with_reducible show wpList _ _ _ (⟨none, .store _ (.tmp 8) _, _, _, _, _⟩ :: _) _ _); go_loud (refine wpList_store_fld rfl 29 _ _ rfl p8 0 rfl 29 [.slice none 0 0] (.slice none 0 0) rfl X8 (show 0 < 1 by omega) (by kernel_rfl) rfl ?_); intro v1 Y8 P1 _; have Y9 := Lib.hid (X9.out.only P1.out E1.out.1); have Y10 := Lib.hid (X10.out.only P1.out E1.out.2.1))
      | ((with_reducible show wpList _ _ _ (⟨none, .store _ (.tmp 9) _, _, _, _, _⟩ :: _) _ _); go_loud (refine wpList_store_fld rfl 4 _ _ rfl p9 0 rfl 4 [.bool false] (.bool false) rfl Y9 (show 0 < 1 by omega) (by kernel_rfl) rfl ?_); intro v2 Z9 P2 _; have Z8 := Lib.hid (Y8.out.only P2.out E2.out.1); have Z10 := Lib.hid (Y10.out.only P2.out E2.out.2.1))
      | ((with_reducible show wpList _ _ _ (⟨none, .store _ (.tmp 10) _, _, _, _, _⟩ :: _) _ _); go_loud (refine wpList_store_fld rfl 30 _ _ rfl p10 0 rfl 30 [.int .i64 0] (.int .i64 2) rfl Z10 (show 0 < 1 by omega) (by kernel_rfl) rfl ?_); intro v3 U10 P3 _; have U8 := Lib.hid (Z8.out.only P3.out E3.out.1); have U9 := Lib.hid (Z9.out.only P3.out E3.out.2.1))
      | fail)
    refine bodyPost_ret (results_cell3 rfl _ _ _ ⟨p8, 0, none⟩ ⟨p9, 0, none⟩ ⟨p10, 0, none⟩ (.slice none 0 0) (.bool false) (.int .i64 2) rfl rfl rfl (run_load_plain _ _ _ (U8.out.cell 0) _ _ Tryd.underlying29 rfl) (run_load_plain _ _ _ (U9.out.cell 0) _ _ Tryd.underlying4 rfl) (run_load_plain _ _ _ (U10.out.cell 0) _ _ Tryd.underlying30 rfl)) rfl ?_
    exact LsPost.err (E0.out _ _ _ _ p8 p9 p10 w1 w2 w3 K4.out P1.out P2.out P3.out L1.out.size g8 L2.out.size g9 L3.out.size g10)
  · rw [if_neg h1] at hE
    obtain ⟨G, hG⟩ : ∃ G, G = dGlobE L p := ⟨_, rfl⟩
    rw [← hG] at hE CG
    by_cases h2 : G = 0
    · rw [if_neg (fun q => q h2)] at hE
      cases ht : isText a.data.toList with
      | true =>
        rw [ht, if_pos rfl] at hE
        exact absurd hE.symm h0
      | false =>
        rw [ht, if_neg (by decide)] at hE
        rw [ht] at CT
        subst hE
        rw [h2] at CG
        clear d htb ht hG h2 G
        go_enter Tryd.func12, Tryd.ntmps12
        go_wp2_with (first
          | ((with_reducible show wpList _ _ _ (⟨some 7, _, _, _, _, _⟩ :: _) _ _); refine wpList_box_one rfl _ (.tmp 3) rfl (.int .i64 mo) rfl rfl ?_; intro p7 w1 g7 h7 B7 L1)
          | ((with_reducible show wpList _ _ _ (⟨some 8, _, _, _, _, _⟩ :: _) _ _); refine wpList_alloc_oneD rfl 29 rfl (.slice none 0 0) (by kernel_rfl) rfl ?_; intro p8 w2 g8 h8 B8 L2)
          | ((with_reducible show wpList _ _ _ (⟨some 9, _, _, _, _, _⟩ :: _) _ _); refine wpList_alloc_oneD rfl 4 rfl (.bool false) (by kernel_rfl) rfl ?_; intro p9 w3 g9 h9 B9 L3)
          | ((with_reducible show wpList _ _ _ (⟨some 10, _, _, _, _, _⟩ :: _) _ _); refine wpList_alloc_oneD rfl 30 rfl (.int .i64 0) (by kernel_rfl) rfl ?_; intro p10 w4 g10 h10 B10 L4; go_loud (obtain ⟨K4, C7, C8, C9, C10, E1, E2, E3, Q0⟩ := boxes4 g7 h7 B7 L1 g8 h8 B8 L2 g9 h9 B9 L3 g10 h10 B10 L4 k0); go_loud (have c7 := C7.out.cell 0; have c8 := C8.out.cell 0; have c9 := C9.out.cell 0; have c10 := C10.out.cell 0))
          | fail)
        refine (CN.out w4 K4.out).mono ?_
        rintro e w0 ⟨rfl, rfl⟩
        go_wp2_with fail
        refine (CG.out w4 K4.out).mono ?_
        rintro e w5 ⟨rfl, l1⟩
        have K5 := Lib.hid (K4.out.trans (l1.mono (Below.size K4.out)))
        have D7 := Lib.hid (C7.out.over l1)
        have D8 := Lib.hid (C8.out.over l1)
        have D9 := Lib.hid (C9.out.over l1)
        have D10 := Lib.hid (C10.out.over l1)
        have c7 := D7.out.cell 0
        clear l1
        go_wp2_with fail
        refine (CT.out w5 K5.out).mono ?_
        rintro e w6 ⟨rfl, l1⟩
        have K6 := Lib.hid (K5.out.trans (l1.mono (Below.size K5.out)))
        have E7 := Lib.hid (D7.out.over l1)
        have E8 := Lib.hid (D8.out.over l1)
        have E9 := Lib.hid (D9.out.over l1)
        have E10 := Lib.hid (D10.out.over l1)
        have c7 := E7.out.cell 0
        clear l1
        have X8 := E8
        have X9 := E9
        have X10 := E10
        go_wp2_with (first
          | ((with_reducible show wpList _ _ _ (⟨none, .store _ (.tmp 8) _, _, _, _, _⟩ :: _) _ _); go_loud (refine wpList_store_fld rfl 29 _ _ rfl p8 0 rfl 29 [.slice none 0 0] (.slice none 0 0) rfl X8 (show 0 < 1 by omega) (by kernel_rfl) rfl ?_); intro v1 Y8 P1 _; have Y9 := Lib.hid (X9.out.only P1.out E1.out.1); have Y10 := Lib.hid (X10.out.only P1.out E1.out.2.1))
          | ((with_reducible show wpList _ _ _ (⟨none, .store _ (.tmp 9) _, _, _, _, _⟩ :: _) _ _); go_loud (refine wpList_store_fld rfl 4 _ _ rfl p9 0 rfl 4 [.bool false] (.bool false) rfl Y9 (show 0 < 1 by omega) (by kernel_rfl) rfl ?_); intro v2 Z9 P2 _; have Z8 := Lib.hid (Y8.out.only P2.out E2.out.1); have Z10 := Lib.hid (Y10.out.only P2.out E2.out.2.1))
          | ((with_reducible show wpList _ _ _ (⟨none, .store _ (.tmp 10) _, _, _, _, _⟩ :: _) _ _); go_loud (refine wpList_store_fld rfl 30 _ _ rfl p10 0 rfl 30 [.int .i64 0] (.int .i64 5) rfl Z10 (show 0 < 1 by omega) (by kernel_rfl) rfl ?_); intro v3 U10 P3 _; have U8 := Lib.hid (Z8.out.only P3.out E3.out.1); have U9 := Lib.hid (Z9.out.only P3.out E3.out.2.1))
          | fail)
        refine bodyPost_ret (results_cell3 rfl _ _ _ ⟨p8, 0, none⟩ ⟨p9, 0, none⟩ ⟨p10, 0, none⟩ (.slice none 0 0) (.bool false) (.int .i64 5) rfl rfl rfl (run_load_plain _ _ _ (U8.out.cell 0) _ _ Tryd.underlying29 rfl) (run_load_plain _ _ _ (U9.out.cell 0) _ _ Tryd.underlying4 rfl) (run_load_plain _ _ _ (U10.out.cell 0) _ _ Tryd.underlying30 rfl)) rfl ?_
        exact LsPost.err (E0.out _ _ _ _ p8 p9 p10 w1 w2 w3 K6.out P1.out P2.out P3.out L1.out.size g8 L2.out.size g9 L3.out.size g10)
    · rw [if_pos h2] at hE
      subst hE
      clear d htb CT hG
      go_enter Tryd.func12, Tryd.ntmps12
      go_wp2_with (first
        | ((with_reducible show wpList _ _ _ (⟨some 7, _, _, _, _, _⟩ :: _) _ _); refine wpList_box_one rfl _ (.tmp 3) rfl (.int .i64 mo) rfl rfl ?_; intro p7 w1 g7 h7 B7 L1)
        | ((with_reducible show wpList _ _ _ (⟨some 8, _, _, _, _, _⟩ :: _) _ _); refine wpList_alloc_oneD rfl 29 rfl (.slice none 0 0) (by kernel_rfl) rfl ?_; intro p8 w2 g8 h8 B8 L2)
        | ((with_reducible show wpList _ _ _ (⟨some 9, _, _, _, _, _⟩ :: _) _ _); refine wpList_alloc_oneD rfl 4 rfl (.bool false) (by kernel_rfl) rfl ?_; intro p9 w3 g9 h9 B9 L3)
        | ((with_reducible show wpList _ _ _ (⟨some 10, _, _, _, _, _⟩ :: _) _ _); refine wpList_alloc_oneD rfl 30 rfl (.int .i64 0) (by kernel_rfl) rfl ?_; intro p10 w4 g10 h10 B10 L4; go_loud (obtain ⟨K4, C7, C8, C9, C10, E1, E2, E3, Q0⟩ := boxes4 g7 h7 B7 L1 g8 h8 B8 L2 g9 h9 B9 L3 g10 h10 B10 L4 k0); go_loud (have c7 := C7.out.cell 0; have c8 := C8.out.cell 0; have c9 := C9.out.cell 0; have c10 := C10.out.cell 0))
        | fail)
      refine (CN.out w4 K4.out).mono ?_
      rintro e w0 ⟨rfl, rfl⟩
      go_wp2_with fail
      refine (CG.out w4 K4.out).mono ?_
      rintro e w5 ⟨rfl, l1⟩
      have K5 := Lib.hid (K4.out.trans (l1.mono (Below.size K4.out)))
      have D7 := Lib.hid (C7.out.over l1)
      have D8 := Lib.hid (C8.out.over l1)
      have D9 := Lib.hid (C9.out.over l1)
      have D10 := Lib.hid (C10.out.over l1)
      have c7 := D7.out.cell 0
      clear l1
      have X8 := D8
      have X9 := D9
      have X10 := D10
      go_wp2_with (first
        | ((with_reducible show wpList _ _ _ (⟨none, .store _ (.tmp 8) _, _, _, _, _⟩ :: _) _ _); go_loud (refine wpList_store_fld rfl 29 _ _ rfl p8 0 rfl 29 [.slice none 0 0] (.slice none 0 0) rfl X8 (show 0 < 1 by omega) (by kernel_rfl) rfl ?_); intro v1 Y8 P1 _; have Y9 := Lib.hid (X9.out.only P1.out E1.out.1); have Y10 := Lib.hid (X10.out.only P1.out E1.out.2.1))
        | ((with_reducible show wpList _ _ _ (⟨none, .store _ (.tmp 9) _, _, _, _, _⟩ :: _) _ _); go_loud (refine wpList_store_fld rfl 4 _ _ rfl p9 0 rfl 4 [.bool false] (.bool false) rfl Y9 (show 0 < 1 by omega) (by kernel_rfl) rfl ?_); intro v2 Z9 P2 _; have Z8 := Lib.hid (Y8.out.only P2.out E2.out.1); have Z10 := Lib.hid (Y10.out.only P2.out E2.out.2.1))
        | ((with_reducible show wpList _ _ _ (⟨none, .store _ (.tmp 10) _, _, _, _, _⟩ :: _) _ _); go_loud (refine wpList_store_fld rfl 30 _ _ rfl p10 0 rfl 30 [.int .i64 0] (.int .i64 G) rfl Z10 (show 0 < 1 by omega) (by kernel_rfl) rfl ?_); intro v3 U10 P3 _; have U8 := Lib.hid (Z8.out.only P3.out E3.out.1); have U9 := Lib.hid (Z9.out.only P3.out E3.out.2.1))
        | fail)
      refine bodyPost_ret (results_cell3 rfl _ _ _ ⟨p8, 0, none⟩ ⟨p9, 0, none⟩ ⟨p10, 0, none⟩ (.slice none 0 0) (.bool false) (.int .i64 G) rfl rfl rfl (run_load_plain _ _ _ (U8.out.cell 0) _ _ Tryd.underlying29 rfl) (run_load_plain _ _ _ (U9.out.cell 0) _ _ Tryd.underlying4 rfl) (run_load_plain _ _ _ (U10.out.cell 0) _ _ Tryd.underlying30 rfl)) rfl ?_
      exact LsPost.err (E0.out _ _ _ _ p8 p9 p10 w1 w2 w3 K5.out P1.out P2.out P3.out L1.out.size g8 L2.out.size g9 L3.out.size g10)
theorem fit_stops (n : Nat) (w : World) (base q : Nat) (v : Value) (m : Nat) (D : DataW Unit) (L : List DItem) (d : PDr w base q v m D L) (hb : base ≤ w.heap.size) (htb : TabsD base w) (p a : ByteArray) (hp : p.size ≤ 1048576) (ha : a.size ≤ 1048576) (T : Nat → Prop) (pd pp pa : Nat) (W0 : World) (it : ItD w T q pd pp pa p a W0) :
    SeqStopsK Fence.wide (n + 1) Tryd.prog 47 #[.pointer (some ⟨pd, 0, none⟩), .pointer (some ⟨pa, 0, none⟩), .pointer (some ⟨pp, 0, none⟩)] (fun x : NmD => #[.string x.1]) (fun W W' => Spare (fun j => ¬ T j) W W')
      (fun xs => xs.map (·.1) = dNames L p a) (fun pre => pre.map (·.1) <+: dNames L p a) 4096 W0 := fun l J Jx W hW hJ _ hY h0 =>
  fitIt_any n w base q v m D L d hb htb p a hp ha T pd pp pa l J Jx W hJ (it.below hW) hY h0
/-- what the loop's body looks at, and leaves: the names told so far in a row of the call's own -/
structure LiD (w : World) (T : Nat → Prop) (q pd pp pa : Nat) (p a : ByteArray) (B p7 p8 p9 p10 : Nat) (mo : Int) (v : Value) (z : Bool) (xs : List ByteArray) (W : World) : Prop where
  it : ItD w T q pd pp pa p a W
  b7 : Blk W p7 3 [.int .i64 mo]
  b8 : Blk W p8 29 [v]
  b9 : Blk W p9 4 [.bool z]
  b10 : Blk W p10 30 [.int .i64 0]
  row : OwnS txtCells 1 9 W B v xs
  hB : B ≤ W.heap.size
theorem LiD.turn {w : World} {T : Nat → Prop} {q pd pp pa : Nat} {p a : ByteArray} {B p7 p8 p9 p10 : Nat} {mo : Int} {v : Value} {z : Bool} {xs : List ByteArray} {W W' : World} {S : Nat → Prop} (h : LiD w T q pd pp pa p a B p7 p8 p9 p10 mo v z xs W) (s : Spare S W W') (hT : ∀ j, T j → ¬ S j) (h7 : ¬ S p7) (h8 : ¬ S p8) (h9 : ¬ S p9) (h10 : ¬ S p10) (hv : ∀ i, v.ownBlock = some i → ¬ S i) :
    LiD w T q pd pp pa p a B p7 p8 p9 p10 mo v z xs W' :=
  ⟨h.it.stay (s.mono fun j _ hs ht => hT j ht hs), h.b7.spare s h7, h.b8.spare s h8, h.b9.spare s h9, h.b10.spare s h10, h.row.sparS s hv, Nat.le_trans h.hB s.size⟩
/-- a block that holds no cells -/
theorem not_cells {W : World} {g : Nat} {T : TypeId} {cs : List Value} (h : Blk W g T cs) : ¬ ∃ o : Obj, W.heap[g]? = some o ∧ o.isCells = false := fun ⟨o, h1, h2⟩ => by
  rw [show W.heap[g]? = _ from h] at h1
  injection h1 with h1
  subst h1
  cases h2
theorem LiD.row' {w : World} {T : Nat → Prop} {q pd pp pa : Nat} {p a : ByteArray} {B B' p7 p8 p9 p10 : Nat} {mo : Int} {v : Value} {z : Bool} {xs : List ByteArray} {W W' : World} {row : Option Nat} (h : LiD w T q pd pp pa p a B p7 p8 p9 p10 mo v z xs W) (hg : W.grownBy W' row) (hr : ∀ r, row = some r → B' ≤ r ∧ ∃ o : Obj, W.heap[r]? = some o ∧ o.isCells = false) (hT : ∀ j, T j → j < B') :
    LiD w T q pd pp pa p a B p7 p8 p9 p10 mo v z xs W' :=
  h.turn (Spare.of_row hg hr) (fun j ht hs => by have := hT j ht; omega) (fun hs => not_cells h.b7 hs.2) (fun hs => not_cells h.b8 hs.2) (fun hs => not_cells h.b9 hs.2) (fun hs => not_cells h.b10 hs.2) fun i hi hs => by
    obtain ⟨_, cs, hcs⟩ := h.row.block hi
    obtain ⟨_, o, ho, hf⟩ := hs
    rw [hcs] at ho
    injection ho with ho
    subst ho
    cases hf
theorem ownS_F {e : TypeId} {w : World} {base : Nat} {v : Value} {xs : List ByteArray} : OwnS txtCells 1 e w base v xs ↔ OwnF Value.string e w base v xs := by
  unfold OwnS OwnF
  rw [flat1]
section
variable {w : World} {T : Nat → Prop} {q pd pp pa : Nat} {p a : ByteArray} {B p7 p8 p9 p10 : Nat} {mo : Int} {v v' : Value} {z : Bool} {xs ys : List ByteArray} {W W' w3 w4 w5 : World}
theorem LiD.below (h : LiD w T q pd pp pa p a B p7 p8 p9 p10 mo v z xs W) (hb : Below W.heap.size W W') : LiD w T q pd pp pa p a B p7 p8 p9 p10 mo v z xs W' :=
  h.turn (Spare.of_over (fun _ => False) hb) (fun _ _ h => h) (fun h => h) (fun h => h) (fun h => h) (fun h => h) fun _ _ h => h
theorem LiD.cellsS (h : LiD w T q pd pp pa p a B p7 p8 p9 p10 mo v z xs W) : ∀ j o, (v.ownBlock = some j ∨ j = p8 ∨ j = p9 ∨ j = p10) → W.heap[j]? = some o → o.isCells = true := fun j o hj ho => by
  have bl : ∀ {g T' cs}, Blk W g T' cs → W.heap[g]? = some o → o.isCells = true := fun b ho => by
    rw [show W.heap[_]? = _ from b] at ho
    injection ho with ho
    subst ho
    rfl
  rcases hj with hj | rfl | rfl | rfl
  · obtain ⟨_, cs, hcs⟩ := h.row.block hj
    rw [hcs] at ho
    injection ho with ho
    subst ho
    rfl
  · exact bl h.b8 ho
  · exact bl h.b9 ho
  · exact bl h.b10 ho
theorem LiD.grow (h : LiD w T q pd pp pa p a B p7 p8 p9 p10 mo v z xs W) (hT : ∀ j, T j → j < B) (q7 : p7 < B) (q8 : p8 < B) (q9 : p9 < B) (q10 : p10 < B) (hT8 : ¬ T p8) (n7 : p7 ≠ p8) (n9 : p9 ≠ p8) (n10 : p10 ≠ p8) (L3 : Below W.heap.size W w3) (O4 : OwnS txtCells 1 9 w4 B v' ys) (S4 : Spare (fun j => v.ownBlock = some j) w3 w4)
    (B5 : Blk w5 p8 29 [v']) (P5 : Only p8 w4 w5) : KeepsOthers W w5 ∧ Spare (fun j => ¬ T j) W w5 ∧ LiD w T q pd pp pa p a B p7 p8 p9 p10 mo v' z ys w5 := by
  have h3 := h.below L3
  have hv : ∀ i, v.ownBlock = some i → B ≤ i := fun i hi => (h3.row.block hi).1
  have hv' : ∀ i, v'.ownBlock = some i → B ≤ i := fun i hi => (O4.block hi).1
  have nv : ∀ j, j < B → ¬ v.ownBlock = some j := fun j hj e => by have := hv j e; omega
  have P : Spare (fun j => j = p8) w4 w5 := Spare.of_only P5
  have i5 := (h3.it.stay (S4.mono fun j _ e ht => nv j (hT j ht) e)).stay (P.mono fun j _ e ht => hT8 (by rw [← e]; exact ht))
  have all : Spare (fun j => v.ownBlock = some j ∨ j = p8 ∨ j = p9 ∨ j = p10) W w5 := ((Spare.of_over _ L3).trans (S4.mono fun j _ e => .inl e) fun j _ h => h).trans (P.mono fun j _ e => .inr (.inl e)) fun j _ h => h
  have allT : Spare (fun j => ¬ T j) W w5 := ((Spare.of_over (fun j => ¬ T j) L3).trans (S4.mono (S' := fun j => ¬ T j) fun j _ e ht => nv j (hT j ht) e) fun j _ h => h).trans (P.mono (S' := fun j => ¬ T j) fun j _ e ht => hT8 (by rw [← e]; exact ht)) fun j _ h => h
  exact ⟨KeepsOthers.of_spare all h.cellsS, allT, i5, (h3.b7.spare S4 (nv _ q7)).spare P n7, B5, (h3.b9.spare S4 (nv _ q9)).spare P n9, (h3.b10.spare S4 (nv _ q10)).spare P n10, O4.sparS P fun i hi e => by have := hv' i hi; omega, Nat.le_trans h3.hB (Nat.le_trans S4.size (Nat.le_of_eq P5.size.symm))⟩
/-- the three results stored as they are, but for whether there are more -/
theorem LiD.tell (h : LiD w T q pd pp pa p a B p7 p8 p9 p10 mo v z xs W) (z' : Bool) (hT : ∀ j, T j → j < B) (q7 : p7 < B) (q8 : p8 < B) (q9 : p9 < B) (q10 : p10 < B) (t8 : ¬ T p8) (t9 : ¬ T p9) (t10 : ¬ T p10) (n1 : p9 ≠ p8 ∧ p10 ≠ p8 ∧ p7 ≠ p8) (n2 : p8 ≠ p9 ∧ p10 ≠ p9 ∧ p7 ≠ p9) (n3 : p8 ≠ p10 ∧ p9 ≠ p10 ∧ p7 ≠ p10) :
    KeepsOthers W (((W.setCell ⟨p8, 0, none⟩ v).setCell ⟨p9, 0, none⟩ (.bool z')).setCell ⟨p10, 0, none⟩ (.int .i64 0)) ∧ LiD w T q pd pp pa p a B p7 p8 p9 p10 mo v z' xs (((W.setCell ⟨p8, 0, none⟩ v).setCell ⟨p9, 0, none⟩ (.bool z')).setCell ⟨p10, 0, none⟩ (.int .i64 0)) := by
  have nv : ∀ j, j < B → ¬ v.ownBlock = some j := fun j hj e => by have := (h.row.block e).1; omega
  have s1 : Spare (fun j => j = p8) W (W.setCell ⟨p8, 0, none⟩ v) := spare_setCell W p8 0 v rfl
  obtain ⟨W1, hW1⟩ : ∃ W1, W1 = W.setCell ⟨p8, 0, none⟩ v := ⟨_, rfl⟩
  have b81 : Blk W1 p8 29 [v] := by rw [hW1]; exact h.b8.set 0 v
  have s2 : Spare (fun j => j = p9) W1 (W1.setCell ⟨p9, 0, none⟩ (.bool z')) := spare_setCell W1 p9 0 _ rfl
  rw [← hW1] at s1 ⊢
  obtain ⟨W2, hW2⟩ : ∃ W2, W2 = W1.setCell ⟨p9, 0, none⟩ (.bool z') := ⟨_, rfl⟩
  have b91 : Blk W1 p9 4 [.bool z] := h.b9.spare s1 n1.1
  have b92 : Blk W2 p9 4 [.bool z'] := by rw [hW2]; exact b91.set 0 (.bool z')
  rw [← hW2] at s2 ⊢
  have s3 : Spare (fun j => j = p10) W2 (W2.setCell ⟨p10, 0, none⟩ (.int .i64 0)) := spare_setCell W2 p10 0 _ rfl
  have b102 : Blk W2 p10 30 [.int .i64 0] := (h.b10.spare s1 n1.2.1).spare s2 n2.2.1
  have b103 : Blk (W2.setCell ⟨p10, 0, none⟩ (.int .i64 0)) p10 30 [.int .i64 0] := b102.set 0 (.int .i64 0)
  have all : Spare (fun j => v.ownBlock = some j ∨ j = p8 ∨ j = p9 ∨ j = p10) W (W2.setCell ⟨p10, 0, none⟩ (.int .i64 0)) :=
    ((s1.mono fun j _ e => .inr (.inl e)).trans (s2.mono (S' := fun j => v.ownBlock = some j ∨ j = p8 ∨ j = p9 ∨ j = p10) fun j _ e => .inr (.inr (.inl e))) fun j _ h => h).trans (s3.mono fun j _ e => .inr (.inr (.inr e))) fun j _ h => h
  have cut : ∀ {u : Nat} {A C : World}, u < B → ¬ T u → ItD w T q pd pp pa p a A → Spare (fun j => j = u) A C → ItD w T q pd pp pa p a C := fun _ ht i s => i.stay (s.mono fun j _ e ht' => ht (by rw [← e]; exact ht'))
  have row3 := ((h.row.sparS s1 fun i hi e => nv p8 q8 (by rw [← e]; exact hi)).sparS s2 fun i hi e => nv p9 q9 (by rw [← e]; exact hi)).sparS s3 fun i hi e => nv p10 q10 (by rw [← e]; exact hi)
  exact ⟨KeepsOthers.of_spare all h.cellsS, cut q10 t10 (cut q9 t9 (cut q8 t8 h.it s1) s2) s3, ((h.b7.spare s1 n1.2.2).spare s2 n2.2.2).spare s3 n3.2.2, (b81.spare s2 n2.1).spare s3 n3.1, b92.spare s3 n3.2.1, b103, row3, Nat.le_trans h.hB (Nat.le_trans s1.size (Nat.le_trans s2.size s3.size))⟩
theorem LiD.len (h : LiD w T q pd pp pa p a B p7 p8 p9 p10 mo v z xs W) : ∃ A c, v = .slice A xs.length c := by
  rcases h.row.2 with ⟨h1, h2⟩ | ⟨g, cap, cur, h1, _⟩
  · exact ⟨none, 0, by rw [h1, h2]⟩
  · exact ⟨_, _, h1⟩
/-- behind the loop's own book-keeping -/
theorem LiD.taken (h : LiD w T q pd pp pa p a B p7 p8 p9 p10 mo v z xs W) (hT : ∀ j, T j → j < B) (q7 : p7 < B) (q8 : p8 < B) (q9 : p9 < B) (q10 : p10 < B) {D : Nat} {o : Obj} (hD : B ≤ D) (hK : W.heap[D]? = some o) (ho : o.isCells = false) (o' : Obj) : LiD w T q pd pp pa p a B p7 p8 p9 p10 mo v z xs (W.putObj D o') :=
  h.turn (S := fun j => j = D) (spare_putObj W D o' rfl) (fun j ht e => by have := hT j ht; omega) (by omega) (by omega) (by omega) (by omega) fun i hi e => by
    have := h.cellsS i o (.inl hi) (by rw [e]; exact hK)
    rw [ho] at this
    cases this
/-- the results, and what they are worth -/
theorem LiD.post (h : LiD w T q pd pp pa p a B p7 p8 p9 p10 mo v z xs W) (hw : w.heap.size ≤ B) : LsPost w xs z 0 (.returned (.tuple #[v, .bool z, .int .i64 0])) W := ⟨v, rfl, h.row.mono hw, h.it.b⟩
theorem LiD.results (h : LiD w T q pd pp pa p a B p7 p8 p9 p10 mo v z xs W) {fn : Func} {r1 r2 r3 : Tmp} (hf : fn.results = #[.cell r1 29, .cell r2 4, .cell r3 30]) (tmps : Array Value)
    (e1 : tmps.getD r1 undef = .pointer (some ⟨p8, 0, none⟩)) (e2 : tmps.getD r2 undef = .pointer (some ⟨p9, 0, none⟩)) (e3 : tmps.getD r3 undef = .pointer (some ⟨p10, 0, none⟩)) : (results fn tmps).run Tryd.prog W = .ok (.tuple #[v, .bool z, .int .i64 0]) W :=
  results_cell3 hf tmps _ _ _ _ _ _ _ _ e1 e2 e3 (run_load_plain _ _ _ (h.b8.cell 0) _ _ Tryd.underlying29 rfl) (run_load_plain _ _ _ (h.b9.cell 0) _ _ Tryd.underlying4 rfl) (run_load_plain _ _ _ (h.b10.cell 0) _ _ Tryd.underlying30 rfl)
end
attribute [local go_sem] Oper.semAt_some
set_option maxHeartbeats 8000000 in
theorem DList_ok (w : World) (base q : Nat) (v : Value) (m : Nat) (D : DataW Unit) (L : List DItem) (d : PDr w base q v m D L) (hb : base ≤ w.heap.size) (htb : TabsD base w) (p a : ByteArray) (hp : p.size ≤ 1048576) (ha : a.size ≤ 1048576) (mx : Nat) (hmx : I64D (mx : Int)) (hE : dListE L p a (mx : Int) = 0) :
    Calls Tryd.prog 12 #[.pointer (some ⟨q, 0, none⟩), .string p, .string a, .int .i64 (mx : Int)] w (LsPost w ((dNames L p a).take mx) (decide ((mx : Int) < ((dNames L p a).length : Int))) 0) := by
  rw [dListE_glob, if_neg (by omega)] at hE
  have k0 : w.cell? ⟨q, 1, none⟩ = some (.map (some m)) := d.c1
  have CN : Hid (∀ w', Below w.heap.size w w' → Calls Tryd.prog 25 #[.pointer (some ⟨q, 0, none⟩)] w' fun e w2 => e = .returned (.bool false) ∧ w' = w2) := fun w' h => DNone_any w' q m (d.below h).c1
  have CG : Hid (∀ w', Below w.heap.size w w' → Calls Tryd.prog 26 #[.pointer (some ⟨q, 0, none⟩), .string p] w' fun e w2 => e = .returned (.int .i64 (dGlobE L p)) ∧ Below w'.heap.size w' w2) := fun w' h => DGlobs_any w' base q v m D L (d.below h) (Nat.le_trans hb h.size) (htb.next (h.mono hb)) p hp
  have CT : Hid (∀ w', Below w.heap.size w w' → Calls Tryd.prog 27 #[.string a] w' fun e w2 => e = .returned (.bool (isText a.data.toList)) ∧ Below w'.heap.size w' w2) := fun w' h => DText_any a w' ha (htb.at h hb)
  obtain ⟨G, hG⟩ : ∃ G, G = dGlobE L p := ⟨_, rfl⟩
  rw [← hG] at hE CG
  have h2 : G = 0 := by
    by_cases q : G = 0
    · exact q
    · rw [if_pos q] at hE
      exact absurd hE q
  have ht : isText a.data.toList = true := by
    rw [if_neg (fun q => q h2)] at hE
    cases q : isText a.data.toList with
    | true => rfl
    | false => rw [q, if_neg (by decide)] at hE; cases hE
  rw [h2] at CG
  rw [ht] at CT
  have D0 := Lib.hid d
  have TB0 := Lib.hid htb
  have HB0 := Lib.hid hb
  obtain ⟨mo, hmo⟩ : ∃ mo : Int, mo = (mx : Int) := ⟨_, rfl⟩
  have hmo0 : 0 ≤ mo := by omega
  rw [← hmo]
  have HM := Lib.hid hmo
  clear d htb hb hE ht hG h2 G hmo
  refine (callsIn_wide (n := 9)).1 ?_
  refine callsIn_of_wp_marks Tryd.func12 rfl trivial ?_ rfl
  simp only [Tryd.ntmps12, List.size_toArray, List.length_cons, List.length_nil, Nat.reduceAdd, Nat.reduceSub, Array.replicate_succ, Array.replicate_zero, List.push_toArray, List.append_toArray, List.nil_append, List.cons_append]
  refine wpIn_wide.2 ?_
  go_wp2_with (first
    | ((with_reducible show wpList _ _ _ (⟨some 7, _, _, _, _, _⟩ :: _) _ _); refine wpList_box_one rfl _ (.tmp 3) rfl (.int .i64 mo) rfl rfl ?_; intro p7 w1 g7 h7 B7 L1)
    | ((with_reducible show wpList _ _ _ (⟨some 8, _, _, _, _, _⟩ :: _) _ _); refine wpList_alloc_oneD rfl 29 rfl (.slice none 0 0) (by kernel_rfl) rfl ?_; intro p8 w2 g8 h8 B8 L2)
    | ((with_reducible show wpList _ _ _ (⟨some 9, _, _, _, _, _⟩ :: _) _ _); refine wpList_alloc_oneD rfl 4 rfl (.bool false) (by kernel_rfl) rfl ?_; intro p9 w3 g9 h9 B9 L3)
    | ((with_reducible show wpList _ _ _ (⟨some 10, _, _, _, _, _⟩ :: _) _ _); refine wpList_alloc_oneD rfl 30 rfl (.int .i64 0) (by kernel_rfl) rfl ?_; intro p10 w4 g10 h10 B10 L4; go_loud (obtain ⟨K4, C7, C8, C9, C10, E1, E2, E3, Q0⟩ := boxes4 g7 h7 B7 L1 g8 h8 B8 L2 g9 h9 B9 L3 g10 h10 B10 L4 k0); go_loud (have c7 := C7.out.cell 0; have c8 := C8.out.cell 0; have c9 := C9.out.cell 0; have c10 := C10.out.cell 0))
    | fail)
  refine (CN.out w4 K4.out).mono ?_
  rintro e w0 ⟨rfl, rfl⟩
  go_wp2_with fail
  refine (CG.out w4 K4.out).mono ?_
  rintro e w5 ⟨rfl, l1⟩
  have K5 := Lib.hid (K4.out.trans (l1.mono (Below.size K4.out)))
  have D7 := Lib.hid (C7.out.over l1)
  have D8 := Lib.hid (C8.out.over l1)
  have D9 := Lib.hid (C9.out.over l1)
  have D10 := Lib.hid (C10.out.over l1)
  have c7 := D7.out.cell 0
  clear l1
  go_wp2_with fail
  refine (CT.out w5 K5.out).mono ?_
  rintro e w6 ⟨rfl, l1⟩
  have K6 := Lib.hid (K5.out.trans (l1.mono (Below.size K5.out)))
  have E7 := Lib.hid (D7.out.over l1)
  have E8 := Lib.hid (D8.out.over l1)
  have E9 := Lib.hid (D9.out.over l1)
  have E10 := Lib.hid (D10.out.over l1)
  have c7 := E7.out.cell 0
  clear l1
  go_wp2_with fail
  refine (DFitting_any w6 q p a).mono ?_
  rintro e w7 ⟨pd, pp, pa, rfl, gd, gp, ga, cd, cp, ca, l1⟩
  have K7 := Lib.hid (K6.out.trans (l1.mono (Below.size K6.out)))
  have F7 := Lib.hid (E7.out.over l1)
  have F8 := Lib.hid (E8.out.over l1)
  have F9 := Lib.hid (E9.out.over l1)
  have F10 := Lib.hid (E10.out.over l1)
  go_wp2_with fail
  obtain ⟨T, hT⟩ : ∃ T : Nat → Prop, T = fun j => j < w.heap.size ∨ j = pd ∨ j = pp ∨ j = pa := ⟨_, rfl⟩
  have hTd : T pd := by rw [hT]; exact .inr (.inl rfl)
  have hTp : T pp := by rw [hT]; exact .inr (.inr (.inl rfl))
  have hTa : T pa := by rw [hT]; exact .inr (.inr (.inr rfl))
  have hTw : ∀ j, j < w.heap.size → T j := fun j hj => by rw [hT]; exact .inl hj
  have hTB : ∀ j, T j → j < w7.heap.size := fun j hj => by
    rw [hT] at hj
    have := K7.out.size
    rcases hj with h | rfl | rfl | rfl
    · omega
    · exact lt_of_cellD cd
    · exact lt_of_cellD cp
    · exact lt_of_cellD ca
  have q7 := E7.out.lt
  have q8 := E8.out.lt
  have q9 := E9.out.lt
  have q10 := E10.out.lt
  have s1 := L1.out.size
  have s2 := L2.out.size
  have s3 := L3.out.size
  have s4 := L4.out.size
  have s6 := Below.size K6.out
  have r7 : p7 < w7.heap.size := F7.out.lt
  have r8 : p8 < w7.heap.size := F8.out.lt
  have r9 : p9 < w7.heap.size := F9.out.lt
  have r10 : p10 < w7.heap.size := F10.out.lt
  have hT7 : ¬ T p7 := by rw [hT]; rintro (h | h | h | h) <;> omega
  have hT8 : ¬ T p8 := by rw [hT]; rintro (h | h | h | h) <;> omega
  have hT9 : ¬ T p9 := by rw [hT]; rintro (h | h | h | h) <;> omega
  have hT10 : ¬ T p10 := by rw [hT]; rintro (h | h | h | h) <;> omega
  have it7 : ItD w T q pd pp pa p a w7 := ⟨K7.out, hTd, hTp, hTa, hTw, cd, cp, ca⟩
  have lid7 : LiD w T q pd pp pa p a w7.heap.size p7 p8 p9 p10 mo (.slice none 0 0) false [] w7 := ⟨it7, F7.out, F8.out, F9.out, F10.out, OwnS.nil _ _ _ _ _, Nat.le_refl _⟩
  refine (wpIn_wide (n := 9)).1 ?_
  refine wpIn_rangeFunc_ownF (F := Fence.wide) (n := 9) rfl (by decide) (gf := 47) (lb := #[.pointer (some ⟨pd, 0, none⟩), .pointer (some ⟨pa, 0, none⟩), .pointer (some ⟨pp, 0, none⟩)]) rfl trivial (enters_of Tryd.func47 (by kernel_rfl) rfl)
    (fit_stops 7 w base q v m D L D0.out HB0.out TB0.out p a hp ha T pd pp pa w7 it7) (fun h k => h.trans k fun j _ hs => hs) (fun W l o o' hl _ _ _ => spare_putObj W l o' fun ht => by have := hTB l ht; omega) (Below.refl _ _) (fun _ => rfl)
    (fun pre W => pre.length ≤ mx ∧ ∃ v, LiD w T q pd pp pa p a w7.heap.size p7 p8 p9 p10 mo v false (pre.map (·.1)) W)
    (fun c pre W => c = .ret ∧ ∃ v x0 pre0, pre = pre0 ++ [x0] ∧ pre0.length = mx ∧ LiD w T q pd pp pa p a w7.heap.size p7 p8 p9 p10 mo v true (pre0.map (·.1)) W)
    (fun pre W W' row hs hg hr => ⟨hs.1, by obtain ⟨_, v, h⟩ := hs; exact ⟨v, h.row' hg hr hTB⟩⟩)
    (fun c pre W W' row hs hg hr => by
      obtain ⟨rfl, v, x0, pre0, h1, h2, h⟩ := hs
      exact ⟨rfl, v, x0, pre0, h1, h2, h.row' hg hr hTB⟩)
    ⟨Nat.zero_le _, _, lid7⟩
    (fun x => { tmps := #[.pointer (some ⟨q, 0, none⟩), .string p, .string a, .int .i64 mo, undef, undef, undef, .pointer (some ⟨p7, 0, none⟩), .pointer (some ⟨p8, 0, none⟩), .pointer (some ⟨p9, 0, none⟩), .pointer (some ⟨p10, 0, none⟩), .int .i64 0, .string x.1, .bool false, .pointer (some ⟨q, 0, none⟩), .bool false, .bool (decide (mo < 0)), .int .i64 mo, .bool (decide (mo < 0)), .pointer (some ⟨q, 0, none⟩), .string p, .int .i64 0, .int .i64 0, .bool false, undef, .string a, .bool true, .bool false, .pointer (some ⟨q, 0, none⟩), .string p, .string a, .func (.func 47) #[] #[.pointer (some ⟨pd, 0, none⟩), .pointer (some ⟨pa, 0, none⟩), .pointer (some ⟨pp, 0, none⟩)], .string x.1, undef, undef, undef, undef, undef, undef, undef, undef, undef, undef, undef], defers := [] }) ?assign ?body ?done ?stop
  case assign =>
    intro l x W K hK
    gi_wp2
    exact hK
  case body =>
    rintro l pre x W ⟨hle, v, h⟩ hlen
    obtain ⟨A, c, rfl⟩ := h.len
    rw [List.length_map] at h
    have c7 := h.b7.cell 0
    have c8 := h.b8.cell 0
    have c9 := h.b9.cell 0
    have c10 := h.b10.cell 0
    have f8 := h.b8.frozen 0
    have f9 := h.b9.frozen 0
    have f10 := h.b10.frozen 0
    simp only [List.getElem?_cons_zero] at c7 c8 c9 c10
    obtain ⟨n, hn⟩ : ∃ n, n = pre.length := ⟨_, rfl⟩
    rw [← hn] at h c8 hle hlen
    have HN := Lib.hid hn
    have HH := Lib.hid h
    clear hn h
    by_cases hnm : n = mx
    · have hq : ((n : Int) == mo) = true := by rw [HM.out, hnm]; exact beq_self_eq_true _
      have RT := HH.out.tell true hTB r7 r8 r9 r10 hT8 hT9 hT10 E1.out E2.out E3.out
      have RT' := Lib.hid RT
      clear RT
      subst hnm
      gi_wp2_with fail
      exact ⟨RT'.out.1, rfl, _, x, pre, rfl, HN.out.symm, RT'.out.2⟩
    · have hq : ((n : Int) == mo) = false := by rw [HM.out]; simp only [beq_eq_false_iff_ne, ne_eq]; omega
      gi_wp2_with fail
      refine wpIn_region_heldKR 5 (fun w' => w'.cell? ⟨p8, 0, none⟩ = some (.slice A n c)) (by kernel_rfl) (by kernel_rfl) (fun ⟨_, _, h0⟩ => h0) ?_
      change wpAnyK _ _ _ _ _ _ _ _ _ W.drew
      have Sr0 : Hid (W.drew.cell? ⟨p8, 0, none⟩ = some (.slice A n c)) := c8
      have br0 : Hid (True) := trivial
      have K0 : Hid (Below W.heap.size W W.drew) := (Below.refl _ _).drew
      obtain ⟨XS, hXS⟩ : ∃ XS, XS = List.map (fun x : NmD => x.val) pre := ⟨_, rfl⟩
      have HXS := Lib.hid hXS
      have hXL : XS.length = n := by rw [hXS, List.length_map]; exact HN.out.symm
      rw [← hXS] at HH
      clear hXS
      refine wpAnyK_take (i := 0) (v := _) rfl (by kernel_rfl) (by kernel_rfl) (by kernel_rfl) (fun _ _ _ h => h) rfl (by kernel_rfl) (by kernel_rfl) (by decide) (yieldsIf_load_one (by kernel_rfl) _ (.tmp 8) rfl p8 (0) (by kernel_rfl) (.slice A n c) (fun _ h => h) _ Tryd.underlying29 rfl) Sr0.out ?_
      refine wpAnyK_take (i := 1) (v := _) rfl (by kernel_rfl) (by kernel_rfl) (by kernel_rfl) (fun _ _ _ h => h) rfl (by kernel_rfl) (by kernel_rfl) (by decide) (yieldsIf_move (by kernel_rfl) (.tmp 12) rfl (.string x.1) (by kernel_rfl)) Sr0.out ?_
      refine wpAnyK_one 2 _ (by kernel_rfl) rfl fun K hK => ?_
      go_simp
      refine (SClone_any x.1 _ x.2).mono ?_
      rintro e vr1 ⟨rfl, l1⟩
      have Sr1 : Hid (vr1.cell? ⟨p8, 0, none⟩ = some (.slice A n c)) := (l1.cell (lt_of_cellD Sr0.out)).trans Sr0.out
      have br1 : Hid (True) := trivial
      have K1 := Lib.hid (K0.out.trans (l1.mono K0.out.size))
      refine hK _ _ (fun _ => Sr1.out) ?_
      clear hK K
      clear l1
      refine wpAnyK_one 3 _ (by kernel_rfl) rfl fun K hK => ?_
      refine step_slice_blk rfl _ _ _ _ rfl Tryd.underlying29 [.string x.1] (by kernel_rfl) ?_
      intro gv w3' hgv hgv2 V3 l3
      have K3 := Lib.hid (K1.out.trans (l3.out.mono K1.out.size))
      have Sr3 : Hid (w3'.cell? ⟨p8, 0, none⟩ = some (.slice A n c)) := (l3.out.cell (lt_of_cellD Sr1.out)).trans Sr1.out
      have O3 : Hid (OwnF Value.string 9 w3' w7.heap.size (.slice A n c) XS) := ownS_F.1 (HH.out.row.below K3.out)
      have hb3 : w7.heap.size ≤ w3'.heap.size := Nat.le_trans HH.out.hB K3.out.size
      clear l3
      refine hK _ _ (fun _ => Sr3.out) ?_
      clear hK K
      refine wpAnyK_one 4 _ (by kernel_rfl) rfl fun K hK => ?_
      refine step_append_any Value.string (fun _ => rfl) (.string ⟨#[]⟩) rfl 29 9 16 rfl (.tmp 38) (.tmp 41) Tryd.underlying29 info_str rfl w7.heap.size _ XS [x.1] 1 1 gv rfl (by kernel_rfl) (by kernel_rfl) V3.out O3.out (by omega) (by omega) hb3 ?_
      intro v' w4' O4 S4 N4
      have n8 : Hid (¬ (Value.slice A n c).ownBlock = some p8) := fun e => by have := (HH.out.row.block e).1; omega
      have Sr4 : Hid (w4'.cell? ⟨p8, 0, none⟩ = some (.slice A n c)) := (spare_cellD S4.out n8.out (lt_of_cellD Sr3.out)).trans Sr3.out
      refine hK _ _ (fun _ => Sr4.out) ?_
      clear hK K
      refine wpAnyK_frame fun a1 ha1 => ?_
      have e1_8 : a1.eval (.tmp 8) = .pointer (some ⟨p8, 0, none⟩) := by rw [ha1]; kernel_rfl
      have e1_42 : a1.eval (.tmp 42) = v' := by rw [ha1]; kernel_rfl
      refine wpAnyK_one 5 _ (by kernel_rfl) rfl fun K hK => ?_
      have B84 : Hid (Blk w4' p8 29 [.slice A n c]) := (HH.out.b8.over K3.out).spare S4.out n8.out
      refine step_store_fld (by kernel_rfl) 29 (.tmp 8) (.tmp 42) (by kernel_rfl) p8 0 e1_8 29 [.slice A n c] v' e1_42 B84 (show 0 < 1 by omega) (by kernel_rfl) (ownS_F.2 O4.out).oneCD ?_
      intro w5' BQ5 P5 hq5
      refine hK _ _ (fun h => Bool.noConfusion (show true = false from h)) ?_
      clear hK K
      rw [ha1]
      refine wpAnyK_done (by kernel_rfl) ?_ _
      obtain ⟨r1, r2, r3⟩ := HH.out.grow hTB r7 r8 r9 r10 hT8 E1.out.2.2 E1.out.1 E1.out.2.1 K3.out (ownS_F.2 O4.out) S4.out BQ5.out P5.out
      refine ⟨r1, r2, by rw [List.length_append, ← HN.out]; show n + 1 ≤ mx; omega, v', ?_⟩
      rw [List.map_append, ← HXS.out]
      exact r3
  case done =>
    rintro DD xs W hD hxs ⟨hle, v, h⟩ hK
    obtain ⟨A, c, rfl⟩ := h.len
    have c8 := h.b8.cell 0
    have c9 := h.b9.cell 0
    have c10 := h.b10.cell 0
    have f8 := h.b8.frozen 0
    have f9 := h.b9.frozen 0
    have f10 := h.b10.frozen 0
    simp only [List.getElem?_cons_zero] at c8 c9 c10
    obtain ⟨n, hn⟩ : ∃ n, n = (List.map (fun x : NmD => x.val) xs).length := ⟨_, rfl⟩
    rw [← hn] at h c8
    have RT := Lib.hid (h.tell false hTB r7 r8 r9 r10 hT8 hT9 hT10 E1.out E2.out E3.out)
    have HXX := Lib.hid hxs
    have HLE : Hid ((List.map (fun x : NmD => x.val) xs).length ≤ mx) := by show _ ≤ _; rw [List.length_map]; exact hle
    have HK := Lib.hid hK
    clear h hxs hle hn hK
    go_wp2_with fail
    have hK' := RT.out.1.same DD _ HK.out rfl
    have t := RT.out.2.taken hTB r7 r8 r9 r10 hD hK' rfl (.deferred none)
    refine ⟨by simp, .inl ⟨_, _, rfl, run_takeDeferred hK', ?_⟩⟩
    refine ⟨_, t.results rfl _ rfl rfl rfl, ?_⟩
    have h1 := HXX.out
    have h2 := HLE.out
    have e1 : (dNames L p a).take mx = List.map (fun x : NmD => x.val) xs := by rw [← h1]; exact List.take_of_length_le h2
    have e2 : decide (mo < ((dNames L p a).length : Int)) = false := by rw [← h1, HM.out]; exact decide_eq_false (by omega)
    rw [e1, e2]
    exact t.post K7.out.size
  case stop =>
    rintro DD cc pre W hD hpre ⟨rfl, v, x0, pre0, hpp, hlen, h⟩ hK
    have t := h.taken hTB r7 r8 r9 r10 hD hK rfl (.deferred none)
    have TT := Lib.hid t
    have HK := Lib.hid hK
    have HP := Lib.hid hpre
    have HPP := Lib.hid hpp
    have HL := Lib.hid hlen
    clear h t hK hpre hpp hlen
    gi_wp2_with fail
    refine ⟨by simp, .inl ⟨_, _, rfl, run_takeDeferred HK.out, ?_⟩⟩
    refine ⟨_, TT.out.results rfl _ rfl rfl rfl, ?_⟩
    obtain ⟨rest, hr⟩ := HP.out
    rw [HPP.out, List.map_append] at hr
    have hl : (List.map (fun x : NmD => x.val) pre0).length = mx := by rw [List.length_map]; exact HL.out
    have e1 : (dNames L p a).take mx = List.map (fun x : NmD => x.val) pre0 := by rw [← hr, List.append_assoc]; exact List.take_left' hl
    have e2 : decide (mo < ((dNames L p a).length : Int)) = true := by
      rw [← hr, HM.out]
      refine decide_eq_true ?_
      rw [List.length_append, List.length_append, hl]
      simp
      omega
    rw [e1, e2]
    exact TT.out.post K7.out.size
end Go.Proofs.YtangkcedgelegaaDoor

namespace Go.Proofs.YtangkcedgelegaaDoor
set_option linter.all false
set_option maxRecDepth 100000
open Go.RowKit
set_option linter.unusedVariables false
/-- the program's directory alone -/
structure HasD (I : DirI) (w : World) (b q : Nat) (L : List DItem) : Prop where
  x : ∃ S, I.is w b q L S
  hb : b ≤ w.heap.size
  tb : I.tb b w
section
variable {I : DirI} {w w' : World} {b q : Nat} {L : List DItem}
theorem TwoD.has {g : Nat} {S : Nat → Prop} {v : Value} {M : List DItem} (h : TwoD I w b q S g v L M) : HasD I w b q L := ⟨⟨S, h.x⟩, h.hb, h.tb⟩
theorem HasD.over (h : HasD I w b q L) (hb : Below w.heap.size w w') : HasD I w' b q L := by
  obtain ⟨⟨S, x⟩, h2, h3⟩ := h
  exact ⟨⟨S, I.below x hb⟩, Nat.le_trans h2 hb.size, I.tbNext h3 (hb.mono h2)⟩
theorem HasD.ok (h : HasD I w b q L) : Dok L ∧ L.length ≤ 4096 ∧ ∀ x ∈ L, x.1.size ≤ 1048576 := by
  obtain ⟨⟨S, x⟩, _, _⟩ := h
  exact I.ok x
/-- what is answered, the directory as it was -/
def StillD (I : DirI) (w : World) (b q : Nat) (L : List DItem) (v : Value) (e : Ending) (w' : World) : Prop := e = .returned v ∧ HasD I w' b q L ∧ Below b w w'
theorem HasD.still (h : HasD I w b q L) {v : Value} {e : Ending} (he : e = .returned v ∧ Below w.heap.size w w') : StillD I w b q L v e w' := ⟨he.1, h.over he.2, he.2.mono h.hb⟩
theorem HasD.len (h : HasD I w b q L) : Calls Tryd.prog 15 #[.pointer (some ⟨q, 0, none⟩)] w (StillD I w b q L (.int .i64 (L.length : Nat))) := by
  obtain ⟨S, x⟩ := h.x
  refine (I.len x).mono ?_
  rintro e w' ⟨rfl, k, rfl⟩
  exact h.still ⟨rfl, drewed w k⟩
theorem HasD.find (h : HasD I w b q L) {s : ByteArray} (hs : s.size ≤ 1048576) : Calls Tryd.prog 18 #[.pointer (some ⟨q, 0, none⟩), .string s] w (StillD I w b q L (.tuple #[.int .i64 (dFind L s).2, .string (dFind L s).1, .int .i64 (dFindE L s)])) := by
  obtain ⟨S, x⟩ := h.x
  exact (I.find x h.tb h.hb hs).mono fun e w' he => h.still he
theorem HasD.turn {E : Int} {L' : List DItem} {S : Nat → Prop} {e : Ending} (h : HasD I w b q L) (x : I.is w b q L S) (he : DTurn I.is w b q S E L' e w') : StillD I w b q L (.int .i64 E) e w' ∨ (e = .returned (.int .i64 E) ∧ HasD I w' b q L' ∧ Below b w w') := by
  obtain ⟨rfl, S', x', a, n⟩ := he
  have hb := a.below (fun j hj => (I.ge x j hj).1) h.hb
  exact .inr ⟨rfl, ⟨⟨S', x'⟩, Nat.le_trans h.hb a.size, I.tbNext h.tb hb⟩, hb⟩
def TurnedD (I : DirI) (w : World) (b q : Nat) (L' : List DItem) (E : Int) (e : Ending) (w' : World) : Prop := e = .returned (.int .i64 E) ∧ HasD I w' b q L' ∧ Below b w w'
theorem HasD.turned {E : Int} {L' : List DItem} {S : Nat → Prop} {e : Ending} (h : HasD I w b q L) (x : I.is w b q L S) (he : DTurn I.is w b q S E L' e w') : TurnedD I w b q L' E e w' := by
  obtain ⟨rfl, S', x', a, n⟩ := he
  have hb := a.below (fun j hj => (I.ge x j hj).1) h.hb
  exact ⟨rfl, ⟨⟨S', x'⟩, Nat.le_trans h.hb a.size, I.tbNext h.tb hb⟩, hb⟩
theorem HasD.add (h : HasD I w b q L) {s : ByteArray} {n : Int} (hs : s.size ≤ 1048576) (hn : I64D n) (hL : L.length < 4096) : Calls Tryd.prog 17 #[.pointer (some ⟨q, 0, none⟩), .string s, .int .i64 n] w (TurnedD I w b q (dAdd L s n) (dAddE L s)) := by
  obtain ⟨S, x⟩ := h.x
  exact (I.add x h.tb h.hb hs hn hL).mono fun e w' he => h.turned x he
theorem HasD.remove (h : HasD I w b q L) {s : ByteArray} (hs : s.size ≤ 1048576) : Calls Tryd.prog 21 #[.pointer (some ⟨q, 0, none⟩), .string s] w (TurnedD I w b q (dRem L s) (dFindE L s)) := by
  obtain ⟨S, x⟩ := h.x
  exact (I.remove x h.tb h.hb hs).mono fun e w' he => h.turned x he
theorem HasD.rename (h : HasD I w b q L) {s t : ByteArray} (hs : s.size ≤ 1048576) (ht : t.size ≤ 1048576) : Calls Tryd.prog 22 #[.pointer (some ⟨q, 0, none⟩), .string s, .string t] w (TurnedD I w b q (dRen L s t) (dRenE L s t)) := by
  obtain ⟨S, x⟩ := h.x
  exact (I.rename x h.tb h.hb hs ht).mono fun e w' he => h.turned x he
end
end Go.Proofs.YtangkcedgelegaaDoor

namespace Go.Proofs.YtangkcedgelegaaDoor
set_option linter.all false
set_option maxRecDepth 100000
open Go.RowKit
set_option linter.unusedVariables false
def IsDir (w : World) (b q : Nat) (L : List DItem) (S : Nat → Prop) : Prop := ∃ v m D, PDr w b q v m D L ∧ ∀ j, S j ↔ pdrS q m v j
theorem IsDir.turn {w w' : World} {b q m : Nat} {v : Value} {S : Nat → Prop} {E : Int} {L' : List DItem} {e : Ending} (hS : ∀ j, S j ↔ pdrS q m v j) (h : TPost15 w b q m v L' (.int .i64 E) e w') : DTurn IsDir w b q S E L' e w' := by
  obtain ⟨rfl, v', D', t⟩ := h
  exact ⟨rfl, pdrS q m v', ⟨v', m, D', t.d, fun j => Iff.rfl⟩, t.a.mono fun j _ h => (hS j).2 h, fun j h => by
    rcases t.n j h with h | h
    · exact .inl ((hS j).2 h)
    · exact .inr h⟩
theorem dir_list (w : World) (b q : Nat) (L : List DItem) (v : Value) (m : Nat) (D : DataW Unit) (d : PDr w b q v m D L) (tb : TabsD b w) (hb : b ≤ w.heap.size) (p a : ByteArray) (mo : Int) (hp : p.size ≤ 1048576) (ha : a.size ≤ 1048576) (hm : I64D mo) :
    Calls Tryd.prog 12 #[.pointer (some ⟨q, 0, none⟩), .string p, .string a, .int .i64 mo] w (LsPost w (dListN L p a mo) (dListM L p a mo) (dListE L p a mo)) := by
  by_cases h0 : dListE L p a mo = 0
  · have hpos : 0 ≤ mo := by
      rcases Int.lt_or_le mo 0 with h | h
      · rw [dListE_glob, if_pos h] at h0
        cases h0
      · exact h
    have e1 : dListN L p a mo = (dNames L p a).take mo.toNat := if_pos h0
    have e2 : dListM L p a mo = decide (mo < ((dNames L p a).length : Int)) := if_pos h0
    have e3 : ((mo.toNat : Nat) : Int) = mo := Int.toNat_of_nonneg hpos
    rw [e1, e2, h0]
    have := DList_ok w b q v m D L d hb tb p a hp ha mo.toNat (by rw [e3]; exact hm) (by rw [e3]; exact h0)
    rw [e3] at this
    exact this
  · have e1 : dListN L p a mo = [] := if_neg h0
    have e2 : dListM L p a mo = false := if_neg h0
    rw [e1, e2]
    exact DList_err w b q v m D L d hb tb p a hp ha mo _ rfl h0
noncomputable def theDir : DirI where
  tb := TabsD
  tbNext h hb := TabsD.next h hb
  tbUp h hb := TabsD.up h hb
  is := IsDir
  ge := by
    rintro w b q L S ⟨v, m, D, d, hS⟩ j hj
    exact d.set_lt j ((hS j).1 hj)
  ok := by
    rintro w b q L S ⟨v, m, D, d, hS⟩
    exact ⟨d.ok, d.small, d.text⟩
  keep := by
    rintro w w' b q L S S' ⟨v, m, D, d, hS⟩ a hs
    exact ⟨v, m, D, d.spare a fun j hj => hs j ((hS j).2 hj), hS⟩
  mono := by
    rintro w b b' q L S ⟨v, m, D, d, hS⟩ hb
    exact ⟨v, m, D, d.mono hb, hS⟩
  new := by
    intro w b _ _
    refine (DNew_any w).mono ?_
    rintro e w' ⟨q, m, rfl, d, hb⟩
    exact ⟨q, _, rfl, ⟨_, m, _, d, fun j => Iff.rfl⟩, hb⟩
  len := by
    rintro w b q L S ⟨v, m, D, d, hS⟩
    obtain ⟨A, c, rfl⟩ := d.len
    refine (DLen_any w q L.length c A d.c0).mono ?_
    rintro e w' ⟨rfl, rfl⟩
    exact ⟨rfl, 0, rfl⟩
  find := by
    rintro w b q L S ⟨v, m, D, d, hS⟩ tb hb s hs
    exact DFind_any w b q v m D L d hb tb s hs
  add := by
    rintro w b q L S ⟨v, m, D, d, hS⟩ tb hb s n hs hn hL
    exact (DAdd_any w b q v m D L d hb tb s hs n hn hL).mono fun e w' h => IsDir.turn hS h
  remove := by
    rintro w b q L S ⟨v, m, D, d, hS⟩ tb hb s hs
    exact (DRemove_any w b q v m D L d hb tb s hs).mono fun e w' h => IsDir.turn hS h
  rename := by
    rintro w b q L S ⟨v, m, D, d, hS⟩ tb hb s t hs ht
    exact (DRename_any w b q v m D L d hb tb s t hs ht).mono fun e w' h => IsDir.turn hS h
  list := by
    rintro w b q L S ⟨v, m, D, d, hS⟩ tb hb p a mo hp ha hm
    exact dir_list w b q L v m D d tb hb p a mo hp ha hm
end Go.Proofs.YtangkcedgelegaaDoor

namespace Go.Proofs.YtangkcedgelegaaDoor
set_option linter.all false
open Go.RowKit Go.Shelf
theorem first_data : (Rows.laid_unicode_utf8_first : DataW Unit) = Lib.firstData := by kernel_rfl
theorem accept_data : (Rows.laid_unicode_utf8_acceptRanges : DataW Unit) = Lib.acceptData := by kernel_rfl
theorem tabs_of_laid {W : World} (hL : laidMetH Tryd.prog [("unicode/utf8.acceptRanges", Rows.laid_unicode_utf8_acceptRanges), ("unicode/utf8.first", Rows.laid_unicode_utf8_first)] W) : Tabs W := by
  rw [first_data, accept_data] at hL
  exact utf8Tabs_of_readsT (U8Types.of196 Tryd.lays196) ⟨by kernel_rfl, by kernel_rfl, by kernel_rfl, by kernel_rfl, by kernel_rfl, by kernel_rfl, by kernel_rfl⟩ (Lib.laidMet.reads hL (.tail _ (.head _))) (Lib.laidMet.reads hL (.head _))
/-- A WORLD FOR THE WITNESS: the settled one, the two variables holding what their initialisers lay. -/
noncomputable def laidWorld (os : Os) : World :=
  let w0 := World.holding Tryd.prog os ⟨#[], #[], []⟩
  let put (h : Array Obj) (g : Nat) (cs : Array Value) : Array Obj := h.modify g fun
    | .cells _ t frozen => .cells cs t frozen
    | o => o
  let h1 := put w0.heap 0 (Lib.firstTab.map fun z => Value.int .u8 z).toArray
  let h2 := put h1 1 ((List.range 16).flatMap fun i => [Value.int .u8 (Lib.accLo i), Value.int .u8 (Lib.accHi i)]).toArray
  { w0 with heap := h2 }
theorem laid_met (os : Os) (args : Array Value) : laidMet Tryd.prog [("unicode/utf8.acceptRanges", Rows.laid_unicode_utf8_acceptRanges), ("unicode/utf8.first", Rows.laid_unicode_utf8_first)] ((laidWorld os).forCall (fun _ _ => 0) ⟨#[], args, []⟩).memory :=
  laidMet_of_run' 8 (by kernel_rfl) (by kernel_rfl)
end Go.Proofs.YtangkcedgelegaaDoor
