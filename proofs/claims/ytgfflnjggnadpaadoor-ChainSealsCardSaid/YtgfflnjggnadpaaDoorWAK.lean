import Derived.WalkKit
import Derived.Deep.Draws
import Derived.Laws.Rows
import Derived.Laws.OwnMore
import Derived.Laws.Bits64
import Derived.Laws.BitsAllLaws
import Derived.OpenShut
import Derived.Test.YtgfflnjggnadpaaDoorRows
import Derived.Lib.Hide
import Derived.BigQuiet
import Derived.Deep.QuietTactic
import Derived.Laws.CopyOwn
import Derived.Laws.AppendOwnNone
import Derived.Laws.Tables
import Derived.Laws.NewFold
import Derived.Deep.WholeRow
import Derived.StillTailTactics
import Derived.Deep.RegionLaw
import Derived.WalkSpells
import Derived.WalkLawsBesides
import Derived.Lib.AppendZeros
import Derived.Deep.RegionWith
import Derived.Deep.DeepCutAuto
import Derived.OrdersHeld
import Derived.Laws.StructEq
import Derived.ChangeKeysEq
import Derived.Laws.AppendOwn
import Derived.OwnWalk
import Derived.Lib.OthersKept
import Derived.Laws.BytesArg
import Derived.Laws.IdiomStrings
import Derived.ProofKit
import Derived.ShutString
import Derived.SizedLaws
import Derived.ChangeOld
import Derived.Great.Walk
import Derived.Deep.MidRow
import Derived.Lib.SliceRun
import Derived.OneCell
import Derived.Deep.Strs
import Derived.Deep.Slices
import Derived.Laws.MakeOwn
import Derived.Test.YtgfflnjggnadpaaDoorWAC
import Derived.Test.YtgfflnjggnadpaaDoorWAD
import Derived.Test.YtgfflnjggnadpaaDoorWAF
import Derived.Test.YtgfflnjggnadpaaDoorWAI
namespace Go.Proofs.YtgfflnjggnadpaaDoor
set_option linter.all false
set_option maxRecDepth 100000
open Go.RowKit
set_option linter.unusedVariables false
/-- what copied answers -/
def CopiedPost (w : World) (L : List (List Int)) (e : Ending) (w' : World) : Prop := ∃ v ps, e = .returned v ∧ OLst false w' w.heap.size v ps ∧ rowsL ps = L ∧ Below w.heap.size w w'
theorem rowsL_take_succ {ps : List PartT} {k : Nat} {p : PartT} (h : ps[k]? = some p) : (rowsL ps).take (k + 1) = (rowsL ps).take k ++ [p.2.2.2] := by
  have hl : k < (rowsL ps).length := by rw [rowsL, List.length_map]; exact (List.getElem?_eq_some_iff.1 h).1
  rw [List.take_succ_eq_append_getElem hl]
  congr 2
  obtain ⟨h1, h2⟩ := List.getElem?_eq_some_iff.1 h
  simp [rowsL, h2]
set_option maxHeartbeats 2000000 in
theorem copied_any (w : World) (A : Option Addr) (n c : Nat) (ps : List PartT) (h : Lst w w.heap.size A n c ps) (hn : n ≤ 5864062014634) (hs : ∀ p ∈ ps, p.2.1 ≤ 140737488355328) :
    Calls Tryd.prog 10 #[.slice A n c] w (CopiedPost w (rowsL ps)) := by
  have HH := Lib.hid h
  have HS := Lib.hid hs
  have hl : (rowsL ps).length = n := by rw [rowsL, List.length_map]; exact h.row.len
  have HLn := Lib.hid hl
  clear h hs hl
  go_enter Tryd.func10, Tryd.ntmps10
  go_wp2_with fail
  go_loopw [3, 4] (fun v i wr => ∃ k : Nat, k ≤ n ∧ i = .int .i64 k ∧ (∃ qs, Hid (OLst false wr w.heap.size v qs) ∧ Hid (rowsL qs = (rowsL ps).take k)) ∧ Below w.heap.size w wr) (fun _ i _ => n - (intOf i).toNat)
  case atStart => exact ⟨0, by omega, rfl, ⟨[], OLst.nil _ _ _, rfl⟩, Below.refl _ _⟩
  case round =>
    obtain ⟨k, hk, rfl, ⟨qs, hO, hq⟩, hb⟩ := hrel
    by_cases hlt : k < n
    · obtain ⟨b, off, p, rfl, hbb, hp, hcell, hhp⟩ := (HH.out.below hb).at hlt
      have hpn := HS.out p (List.mem_of_getElem? hp)
      have hsz := hb.size
      have C1 := Lib.hid (Copy_any wr p.1 p.2.1 p.2.2.1 p.2.2.2 (hhp.mono hsz) hpn)
      have hpl : p.2.2.2.length ≤ 140737488355328 := by rw [hhp.len]; exact hpn
      have hpb := Lib.hid hhp.byte
      have HN : Hid (rowsL qs ++ [p.2.2.2] = (rowsL ps).take (k + 1)) := by show _ = _; rw [rowsL_take_succ hp, hq.out]
      have hql : qs.length ≤ 5864062014800 := by
        have h1 := congrArg List.length hq.out
        rw [List.length_take, HLn.out] at h1
        rw [rowsL, List.length_map] at h1
        omega
      obtain ⟨⟨pA, pn, pc, px⟩, hpe⟩ : ∃ q, q = p := ⟨_, rfl⟩
      rw [← hpe] at hcell C1 hpl hpb HN
      clear hhp hp hpe hpn
      dsimp only at hcell C1 hpl hpb HN
      have HQL := Lib.hid hql
      have HPL := Lib.hid hpl
      clear hql hpl
      go_wp2_with fail
      refine C1.out.mono ?_
      rintro e w1 ⟨v1, rfl, ho1, hb1⟩
      obtain ⟨A1, c1, rfl⟩ := ho1.len
      have HB1 := Lib.hid hb1
      have HO1 : Hid (OwnB false w1 wr.heap.size (partV (A1, px.length, c1, px)) px) := OwnB.of_k ho1
      have HSZ := Lib.hid hsz
      clear ho1 hb1 hsz
      go_wp2_with (first
        | (at_builtin; refine wpList_append_row rfl (.tmp 11) (.tmp 17) rfl false w.heap.size _ qs (A1, px.length, c1, px) _ rfl rfl rfl hO.out HB1.out HO1.out hpb.out HPL.out HQL.out HSZ.out ?_; intro v2 w2 ho2 hb2)
        | fail)
      go_roundw
      case rel => exact ⟨k + 1, by omega, by go_num, ⟨_, ho2, by show _ = _; rw [← HN.out]; simp [rowsL]⟩, (hb.trans (HB1.out.mono HSZ.out)).trans hb2.out⟩
      case measure => simp [intOf]; omega
    · obtain rfl : k = n := by omega
      have e1 : (rowsL ps).take k = rowsL ps := List.take_of_length_le (by rw [HLn.out]; omega)
      go_wp2_with fail
      go_ret
      exact ⟨_, qs, rfl, hO.out, by rw [hq.out, e1], hb⟩
end Go.Proofs.YtgfflnjggnadpaaDoor

namespace Go.Proofs.YtgfflnjggnadpaaDoor
set_option linter.all false
set_option maxRecDepth 100000
open Go.RowKit
set_option linter.unusedVariables false
theorem own_partK {w : World} {base : Nat} {v : Value} {xs : List Int} (ho : OwnK .u8 5 w base v xs) (hx : Bytes xs) (h0 : 0 < xs.length) (hl : xs.length ≤ 281474976710656) :
    ∃ g c, v = .slice (some ⟨g, 0, none⟩) xs.length c ∧ base ≤ g ∧ g < w.heap.size ∧ Holds w w.heap.size (some ⟨g, 0, none⟩) xs.length c xs := by
  obtain ⟨A, n, c, rfl, hn, _, _, _, hc⟩ := ho.open
  obtain ⟨g, rfl, hg, hg2, _⟩ := hc (by omega)
  obtain ⟨A1, c1, e, hh⟩ := Own.holds (show Own w base _ xs from ho) hx hl
  injection e with e1 e2 e3
  subst e1 e2 e3
  exact ⟨g, c, rfl, hg, hg2, hh⟩
end Go.Proofs.YtgfflnjggnadpaaDoor

namespace Go.Proofs.YtgfflnjggnadpaaDoor
set_option linter.all false
set_option maxRecDepth 100000
open Go.RowKit
set_option linter.unusedVariables false
/-- a list of rows that another one reads as -/
theorem sizes_of {w : World} {B M : Nat} {A : Option Addr} {n c : Nat} {qs : List PartT} {L : List (List Int)} (h : Lst w B A n c qs) (hr : rowsL qs = L) (hL : ∀ m ∈ L, Bytes m ∧ m.length ≤ M) : (∀ p ∈ qs, p.2.1 ≤ M) ∧ n = L.length := by
  refine ⟨fun p hp => ?_, ?_⟩
  · have h1 := (h.each p hp).len
    have h2 : p.2.2.2 ∈ L := by rw [← hr]; exact List.mem_map.2 ⟨p, hp, rfl⟩
    rw [← h1]
    exact (hL _ h2).2
  · rw [← hr, rowsL, List.length_map]
    exact h.row.len.symm
end Go.Proofs.YtgfflnjggnadpaaDoor
