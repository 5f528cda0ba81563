import Derived.WalkKit
import Derived.Deep.Draws
import Derived.Laws.Rows
import Derived.Laws.OwnMore
import Derived.Laws.Bits64
import Derived.Laws.BitsAllLaws
import Derived.OpenShut
import Derived.Test.YtgfflnjggnadpaaDoorRows
import Derived.Lib.Hide
import Derived.BigQuiet
import Derived.Deep.QuietTactic
import Derived.Laws.CopyOwn
import Derived.Laws.AppendOwnNone
import Derived.Laws.Tables
import Derived.Laws.NewFold
import Derived.Deep.WholeRow
import Derived.StillTailTactics
import Derived.Deep.RegionLaw
import Derived.WalkSpells
import Derived.WalkLawsBesides
import Derived.Lib.AppendZeros
import Derived.Deep.RegionWith
import Derived.Deep.DeepCutAuto
import Derived.OrdersHeld
import Derived.Laws.StructEq
import Derived.ChangeKeysEq
import Derived.Laws.AppendOwn
import Derived.OwnWalk
import Derived.Lib.OthersKept
import Derived.Laws.BytesArg
import Derived.Laws.IdiomStrings
import Derived.ProofKit
import Derived.ShutString
import Derived.SizedLaws
import Derived.ChangeOld
import Derived.Great.Walk
import Derived.Deep.MidRow
import Derived.Lib.SliceRun
import Derived.OneCell
import Derived.Deep.Strs
import Derived.Deep.Slices
import Derived.Laws.MakeOwn
import Derived.Test.YtgfflnjggnadpaaDoorWAC
import Derived.Test.YtgfflnjggnadpaaDoorWAD
import Derived.Test.YtgfflnjggnadpaaDoorWAE
import Derived.Test.YtgfflnjggnadpaaDoorWAF
import Derived.Test.YtgfflnjggnadpaaDoorWAI
import Derived.Test.YtgfflnjggnadpaaDoorWAJ
import Derived.Test.YtgfflnjggnadpaaDoorWAK
import Derived.Test.YtgfflnjggnadpaaDoorWAM
import Derived.Test.YtgfflnjggnadpaaDoorWAP
namespace Go.Proofs.YtgfflnjggnadpaaDoor
set_option linter.all false
set_option maxRecDepth 100000
open Go.RowKit
set_option linter.unusedVariables false
section
variable {w w' : World} {base : Nat} {v : Value} {rs : List PartT} {gb gv n c k : Nat} {p s : PartT}
end
set_option maxHeartbeats 2000000 in
theorem RJoin_anyC (w : World) (A : Option Addr) (n c : Nat) (ps : List PartT) (h : Lst w w.heap.size A n c ps) (hn : n ≤ 1048576) (hs : ∀ p ∈ ps, p.2.1 ≤ 4294967000) :
    Calls Tryd.prog 12 #[.slice A n c] w (SealPost w [] (rowsL ps)) := by
  have CPS := parts_any w A n c ps h hn hs
  unfold PartsPost at CPS
  unfold SealPost
  have hl : (rowsL ps).length = n := by rw [rowsL, List.length_map]; exact h.row.len
  have hby : ∀ m ∈ rowsL ps, Bytes m ∧ m.length ≤ 4294967000 := fun m hm => by
    obtain ⟨p, hp, rfl⟩ := List.mem_map.1 hm
    have h1 := h.each p hp
    exact ⟨h1.byte, by rw [h1.len]; exact hs p hp⟩
  by_cases he : chainErr (rowsL ps) = 0
  · have hsf := seal_flat [] _ he
    have hsm := seal_small [] _ he hby
    have hfb : ((List.range (rowsL ps).length).map (sealX [] (rowsL ps))).flatten.length ≤ 140737488355328 := by
      have h8 := (chainErr_ok he).2.1
      have h1 := flatten_bound (l := (List.range (rowsL ps).length).map (sealX [] (rowsL ps))) (B := 4294967100) (fun x hx => by
        obtain ⟨i, hi, rfl⟩ := List.mem_map.1 hx
        exact (hsm i (List.mem_range.1 hi)).2.1)
      rw [List.length_map, List.length_range] at h1
      have : (rowsL ps).length * 4294967100 ≤ 8 * 4294967100 := Nat.mul_le_mul_right _ h8
      omega
    rw [he, hsf]
    have HFB := Lib.hid hfb
    have HC : Hid (Calls Tryd.prog 30 #[.slice A n c] w fun e w' => (∃ v qs, e = .returned (.tuple #[v, .int .i64 0]) ∧ OLst false w' w.heap.size v qs ∧ rowsL qs = (List.range (rowsL ps).length).map (sealX [] (rowsL ps))) ∧ Below w.heap.size w w') := by
      refine CPS.mono ?_
      rintro e w' ⟨hh | ⟨_, h1⟩, hb⟩
      · exact absurd he hh.1
      · exact ⟨h1, hb⟩
    obtain ⟨R, hR⟩ : ∃ R, R = (List.range (rowsL ps).length).map (sealX [] (rowsL ps)) := ⟨_, rfl⟩
    rw [← hR] at HC HFB ⊢
    have hRl : R.length = n := by rw [hR, List.length_map, List.length_range, hl]
    clear CPS h hs hby he hsf hsm hfb hR
    go_enter Tryd.func12, Tryd.ntmps12
    go_wp2_with fail
    refine HC.out.mono ?_
    rintro e w1 ⟨⟨v1, qs, rfl, o1, hq1⟩, b1⟩
    obtain ⟨A1, n1, c1, rfl, l1⟩ := o1.lst
    have hn1 : n1 = n := by
      have h1 := l1.row.len
      have h2 := congrArg List.length hq1
      rw [rowsL, List.length_map] at h2
      omega
    have CJ := joined_any w1 A1 n1 c1 qs l1 (by omega) (by rw [hq1]; exact HFB.out)
    unfold JoinedPost at CJ
    rw [hq1] at CJ
    have CJ' := Lib.hid CJ
    have B1 := Lib.hid b1
    clear CJ l1 o1 hq1 b1 HC hn1
    go_wp2_with fail
    refine CJ'.out.mono ?_
    rintro e w2 ⟨v2, rfl, o2, b2⟩
    have O2 := Lib.hid (o2.mono B1.out.size)
    have L2 := Lib.hid (step B1.out b2)
    clear o2 b2
    go_wp2_with fail
    go_ret2
    exact ⟨_, rfl, O2.out, L2.out⟩
  · have HC : Hid (Calls Tryd.prog 30 #[.slice A n c] w fun e w' => e = .returned (.tuple #[.slice none 0 0, .int .i64 (chainErr (rowsL ps))]) ∧ Below w.heap.size w w') := by
      refine CPS.mono ?_
      rintro e w' ⟨⟨_, h1⟩ | hh, hb⟩
      · exact ⟨h1, hb⟩
      · exact absurd hh.1 he
    have hso : sealOf [] (rowsL ps) = [] := by unfold sealOf; rw [if_neg he]
    rw [hso]
    obtain ⟨er, her⟩ : ∃ er, er = chainErr (rowsL ps) := ⟨_, rfl⟩
    rw [← her] at HC ⊢
    have CJ := fun (w : World) => Lib.hid (joined_any w none 0 0 [] (Lst.nil w _) (by omega) (by simp [rowsL]))
    unfold JoinedPost at CJ
    clear CPS h hs hby he her hso hl
    go_enter Tryd.func12, Tryd.ntmps12
    go_wp2_with fail
    refine HC.out.mono ?_
    rintro e w1 ⟨rfl, b1⟩
    have B1 := Lib.hid b1
    clear b1 HC
    go_wp2_with fail
    refine (CJ w1).out.mono ?_
    rintro e w2 ⟨v2, rfl, o2, b2⟩
    have O2 := Lib.hid (o2.mono B1.out.size)
    have L2 := Lib.hid (step B1.out b2)
    clear o2 b2
    go_wp2_with fail
    go_ret2
    exact ⟨_, rfl, O2.out, L2.out⟩
end Go.Proofs.YtgfflnjggnadpaaDoor

namespace Go.Proofs.YtgfflnjggnadpaaDoor
set_option linter.all false
set_option maxRecDepth 100000
open Go.RowKit
set_option linter.unusedVariables false
set_option maxHeartbeats 4000000 in
theorem walk_ChainJoins (W : World) (hT : KTab W) (A0 : Option Addr) (n0 c0 : Nat) (z0 : List PartT) (l0 : n0 ≤ c0) (r0 : c0 ≤ 1048576 ∧ ∀ y ∈ z0, y.2.2.1 ≤ 1048576) (h0 : Lst W W.heap.size A0 c0 c0 z0) :
    Calls Tryd.prog 3 #[.slice A0 n0 c0] W fun e W' => e = .returned (.bool true) ∧ Below W.heap.size W W' := by
  obtain ⟨hx, hn, hs⟩ := lst_facts l0 r0 h0
  obtain ⟨ps, hps⟩ : ∃ ps, ps = z0.take n0 := ⟨_, rfl⟩
  rw [← hps] at hx hs
  have hb := rows_bytes hx hs
  have hl : (rowsL ps).length = n0 := by rw [rowsL, List.length_map]; exact hx.row.len
  have cc := copied_any W A0 n0 c0 ps hx (by omega) (fun p hp => by have := hs p hp; omega)
  unfold CopiedPost at cc
  have cj := fun (w : World) A n c qs (h : Lst w w.heap.size A n c qs) (hr : rowsL qs = rowsL ps) hK => Join_anyC w A n c qs h (by rw [(sizes_of h hr hb).2, hl]; exact hn) (fun p hp => by have := (sizes_of h hr hb).1 p hp; omega) hK
  have cr := fun (w : World) (hbl : Below W.heap.size W w) => RJoin_anyC w A0 n0 c0 ps (hx.over hbl) hn (fun p hp => by have := hs p hp; omega)
  have cl := fun (w : World) A n c qs (h : Lst w w.heap.size A n c qs) (hr : rowsL qs = rowsL ps) (hbl : Below W.heap.size W w) => lists_any w w.heap.size w.heap.size A A0 n c n0 c0 qs ps h (hx.over hbl) (by rw [(sizes_of h hr hb).2, hl]; omega) (by omega)
  have hso := sealOf_small [] (rowsL ps) (fun m hm => ⟨(hb m hm).1, by have := (hb m hm).2; omega⟩)
  unfold SealPost at cj cr
  obtain ⟨L, hL⟩ : ∃ L, L = rowsL ps := ⟨_, rfl⟩
  rw [← hL] at cc hso
  simp only [← hL] at cj cr cl
  have CJ := fun w A n c qs h (hr : rowsL qs = L) hK => Lib.hid (by have := cj w A n c qs h hr hK; rw [hr] at this; exact this)
  have CL := fun w A n c qs h (hr : rowsL qs = L) hbl => Lib.hid (by have := cl w A n c qs h hr hbl; rw [hr, decide_eq_true rfl] at this; exact this)
  have CR := fun w hbl => Lib.hid (cr w hbl)
  have CC := Lib.hid cc
  obtain ⟨B, hB⟩ : ∃ B, B = sealOf [] L := ⟨_, rfl⟩
  obtain ⟨E, hE⟩ : ∃ E, E = chainErr L := ⟨_, rfl⟩
  rw [← hB] at hso
  simp only [← hB, ← hE] at CJ CR
  have CS := fun (w : World) A c A' c' (h : Holds w w.heap.size A B.length c B) (h' : Holds w w.heap.size A' B.length c' B) => Lib.hid (Same_any w _ _ A A' _ c _ c' B B h h')
  simp only [decide_eq_true] at CS
  have HSO := Lib.hid hso
  have CV := fun w hK => Lib.hid (livesC_any w hK)
  have HT := Lib.hid hT
  have t3 : (E == E) = true := by simp
  obtain ⟨M, hM⟩ : ∃ M, M = B.length := ⟨_, rfl⟩
  simp only [← hM] at CS
  have HM := Lib.hid hM
  clear hx hn hs hps hb hl cc cj cr cl hso hL hB hE h0 hT hM
  go_enter Tryd.func3, Tryd.ntmps3
  go_wp2_with fail
  refine CC.out.mono ?_
  rintro e w1 ⟨v1, qs, rfl, o1, q1, b1⟩
  obtain ⟨A1, n1, c1, rfl, l1⟩ := o1.lst
  have HL1 := Lib.hid l1
  have HQ1 := Lib.hid q1
  have B1 := Lib.hid b1
  clear o1 l1 q1 b1 CC
  go_wp2_with fail
  refine (CJ w1 A1 n1 c1 qs HL1.out HQ1.out (HT.out.below B1.out)).out.mono ?_
  rintro e w2 ⟨v2, rfl, o2, b2⟩
  obtain ⟨A2, c2, rfl, h2⟩ := Own.holds (show Own _ _ _ _ from o2.own) HSO.out.2 (by have := HSO.out.1; omega)
  rw [← HM.out] at h2 ⊢
  have H2 := Lib.hid h2
  have L2 := Lib.hid (HL1.out.over b2)
  have B2 := Lib.hid (step B1.out b2)
  clear o2 h2 b2 HL1 B1 CJ
  go_wp2_with fail
  refine (CR w2 B2.out).out.mono ?_
  rintro e w3 ⟨v3, rfl, o3, b3⟩
  obtain ⟨A3, c3, rfl, h3⟩ := Own.holds (show Own _ _ _ _ from o3.own) HSO.out.2 (by have := HSO.out.1; omega)
  rw [← HM.out] at h3 ⊢
  have H3 := Lib.hid h3
  have H23 := Lib.hid (H2.out.over b3)
  have L3 := Lib.hid (L2.out.over b3)
  have B3 := Lib.hid (step B2.out b3)
  clear o3 h3 b3 H2 L2 B2 CR
  have CSa := CS w3 A2 c2 A3 c3 H23.out H3.out
  clear CS
  go_wp2_with fail
  refine CSa.out.mono ?_
  rintro e w4 ⟨rfl, j, rfl⟩
  have L4 := Lib.hid (L3.out.drewN j)
  have B4 : Hid (Below W.heap.size W (w3.drewN j)) := below_drewN B3.out j
  obtain ⟨w4, hw4⟩ : ∃ w, w = w3.drewN j := ⟨_, rfl⟩
  have L4' : Hid (Lst w4 w4.heap.size A1 n1 c1 qs) := by rw [hw4]; exact L4.out
  rw [← hw4] at B4 ⊢
  clear L4 L3 B3 CSa hw4 H23 H3
  go_wp2_with fail
  refine (CL w4 A1 n1 c1 qs L4'.out HQ1.out B4.out).out.mono ?_
  rintro e w5 ⟨rfl, j5, rfl⟩
  have B5 : Hid (Below W.heap.size W (w4.drewN j5)) := below_drewN B4.out j5
  obtain ⟨w5, hw5⟩ : ∃ w, w = w4.drewN j5 := ⟨_, rfl⟩
  rw [← hw5] at B5 ⊢
  clear L4' B4 CL hw5
  go_wp2_with fail
  refine (CV w5 (HT.out.below B5.out)).out.mono ?_
  rintro e w6 ⟨rfl, b6⟩
  go_wp2
  go_ret
  exact ⟨rfl, step B5.out b6⟩
end Go.Proofs.YtgfflnjggnadpaaDoor
