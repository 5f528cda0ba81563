import Derived.WalkKit
import Derived.Deep.Draws
import Derived.Laws.Rows
import Derived.Laws.OwnMore
import Derived.Lib.RuneBytes
import Derived.Lib.ValidLaws
import Derived.Test.YtangkcedgelegaaDoorRows
import Derived.Laws.CopyOwn
import Derived.Laws.AppendOwnNone
import Derived.Lib.Hide
import Derived.Laws.AppendOwn
import Derived.OwnWalk
import Derived.Lib.OthersKept
import Derived.Laws.BytesArg
import Derived.Shelf.Utf8.AppendRunePlain
import Derived.Shelf.Utf8.RuneCount
import Derived.Shelf.LaysM
import Derived.Shelf.Strconv.Clone
import Derived.Shelf.Unicode.DecodeSlow
import Derived.Shelf.Unicode.DecodeAny
import Derived.Shelf.Slices.Turned
import Derived.Shelf.Unicode.ValidAny
import Derived.Test.YtangkcedgelegaaDoorProg
import Derived.WalkSpells
import Derived.WalkLawsBesides
import Derived.Deep.QuietTactic
import Derived.BigQuiet
import Derived.Laws.Bits64
import Derived.Laws.BitsAllLaws
import Derived.Laws.Tables
import Derived.Laws.NewFold
import Derived.Deep.WholeRow
import Derived.Deep.DeepCutAuto
import Derived.Laws.IdiomStrings
import Derived.Laws.Cover4
import Derived.Lib.RuneCount
import Derived.Lib.IndexLaws
import Derived.OneCell
import Derived.StillTailTactics
import Derived.WalkMore
import Derived.ProofKit
import Derived.OpenShut
import Derived.ShutString
import Derived.SizedLaws
import Derived.ChangeOld
import Derived.Deep.Strs
import Derived.Lib.Join
import Derived.Deep.RegionLaw
import Derived.Deep.CutBlock
import Derived.Deep.MidRow
import Derived.Lib.AppendZeros
import Derived.Deep.RegionWith
import Derived.Great.Walk
import Derived.Deep.Slices
import Derived.Lib.SliceRun
import Derived.Maps.AppendAt
import Derived.Lib.Overlaps
import Derived.OrdersHeld
import Derived.Laws.StructEq
import Derived.ChangeKeysEq
import Derived.Maps.OwnSet
import Derived.StringKeys
import Derived.Laws.Externs
import Derived.RangeFuncNested
import Derived.RangeFuncBound
import Derived.RangeFuncCalls
import Derived.RangeFuncLeaves
import Derived.Shelf.Abstract
import Derived.Shelf.RegionOpen
import Derived.OwnWalkIn
import Derived.TacticsInMore
import Derived.LoopNIn
import Derived.LoopIn
import Derived.RangeFuncFrom
import Derived.Test.YtangkcedgelegaaDoorWAC
import Derived.Test.YtangkcedgelegaaDoorWAD
import Derived.Test.YtangkcedgelegaaDoorWAE
import Derived.Test.YtangkcedgelegaaDoorWAF
namespace Go.Proofs.YtangkcedgelegaaDoor
set_option linter.all false
open Go.RowKit Go.Lib
set_option linter.unusedVariables false
section
variable {L : List DItem} {s t u : ByteArray} {n : Int} {x y : DItem}
theorem Dok.ren (h : Dok L) : Dok (dRen L s t) := by
  unfold dRen
  split
  · exact h.rem.add
  · exact h
end
end Go.Proofs.YtangkcedgelegaaDoor

namespace Go.Proofs.YtangkcedgelegaaDoor
set_option linter.all false
open Go.RowKit
set_option linter.unusedVariables false
section
variable {L : List DItem} {s t u : ByteArray} {n : Int}
/-- of a name that is not renamed all stays -/
theorem ren_no (h : Dok L) (he : dRenE L s t ≠ 0) : dRen L s t = L := by
  unfold dRen
  rw [if_neg]
  intro hc
  apply he
  unfold dRenE
  rw [if_pos hc]
  exact h.renE hc
theorem ren_zero (h : Dok L) (he : dRenE L s t = 0) : dRenC L s t = 0 ∧ dBad s = false ∧ dBad t = false ∧ dHas L s = true ∧ (dHas L t = true → alk (dFind L s).1 t = true) := by
  have hc : dRenC L s t = 0 := by
    by_cases hc : dRenC L s t = 0
    · exact hc
    · unfold dRenE at he
      rw [if_neg hc] at he
      exact he
  have hc' := hc
  unfold dRenC at hc'
  split at hc'
  · exact absurd hc' (by decide)
  · rename_i h1
    split at hc'
    · exact absurd hc' (by decide)
    · rename_i h2
      split at hc'
      · exact absurd hc' (by decide)
      · rename_i h3
        exact ⟨hc, by simpa using fun h => h1 (.inl h), by simpa using fun h => h1 (.inr h), by simpa using h2, fun hh => by
          cases ha : alk (dFind L s).1 t with
          | true => rfl
          | false => exact absurd ⟨hh, ha⟩ h3⟩
/-- a name that is renamed keeps its number -/
theorem ren_to (h : Dok L) (he : dRenE L s t = 0) : dFindE L s = 0 ∧ dFindE (dRen L s t) t = 0 ∧ dFind (dRen L s t) t = (t, (dFind L s).2) ∧ (dFindE L t = 0 → alk s t = true) := by
  obtain ⟨hc, hs, ht, hh, hx⟩ := ren_zero h he
  obtain ⟨k1, k2, k3⟩ := dFind_ok (L := L) (s := s) hs hh
  have e : dRen L s t = dAdd (dRem L s) t (dFind L s).2 := by unfold dRen; rw [if_pos hc]
  have ha : dAddE (dRem L s) t = 0 := h.renE hc
  obtain ⟨j1, j2, _⟩ := back_new (n := (dFind L s).2) h.rem ha (alk_refl t) ht
  rw [e]
  exact ⟨k1, j1, j2, fun hf => alk_trans (alk_symm k3) (hx (dFindE_zero.1 hf).2)⟩
/-- and no other one changes -/
theorem ren_other (h : Dok L) (he : dRenE L s t = 0) (hf : dFindE L u = 0) (hu : alk u s = false) : dFindE (dRen L s t) u = 0 ∧ dFind (dRen L s t) u = dFind L u := by
  obtain ⟨hc, hs, ht, hh, hx⟩ := ren_zero h he
  obtain ⟨hb, hhu⟩ := dFindE_zero.1 hf
  obtain ⟨_, k2, k3⟩ := dFind_ok (L := L) (s := u) hb hhu
  have e : dRen L s t = dAdd (dRem L s) t (dFind L s).2 := by unfold dRen; rw [if_pos hc]
  have ha : dAddE (dRem L s) t = 0 := h.renE hc
  have hm : dFind L u ∈ dRen L s t := by
    rw [e]
    unfold dAdd
    rw [if_pos ha]
    refine dPut_mem.2 (.inr ((dRem_mem h).2 ⟨k2, .inr ?_⟩))
    cases hy : alk (dFind L u).1 s with
    | false => rfl
    | true =>
      rw [alk_trans (alk_symm k3) hy] at hu
      cases hu
  exact (h.ren (s := s) (t := t)).found hm k3 hb
end
section
variable {L : List DItem} {i : Nat}
end
end Go.Proofs.YtangkcedgelegaaDoor

namespace Go.Proofs.YtangkcedgelegaaDoor
set_option linter.all false
set_option maxRecDepth 100000
open Go.RowKit
set_option linter.unusedVariables false
set_option maxHeartbeats 8000000 in
theorem law_DirRenames (I : DirI) (U : UtfI I) (W : World) (A : Option Addr) (n c : Nat) (l : List DActV) (hl : LDAct 1048576 W W.heap.size A n c l) (hn : n ≤ 140737488355328) (htb : I.tb W.heap.size W) (s t u : ByteArray) (hs : s.size ≤ 1048576) (ht : t.size ≤ 1048576) (hu : u.size ≤ 1048576) :
    Calls Tryd.prog 7 #[.slice A n c, .string s, .string t, .string u] W fun e w' => e = .returned (.bool true) ∧ Below W.heap.size W w' := by
  have CP := Lib.hid (playedD I W A n c l hl hn htb)
  clear hl htb
  obtain ⟨L, hL⟩ : ∃ L, L = dActs l (min n 60) := ⟨_, rfl⟩
  rw [← hL] at CP
  clear hL
  obtain ⟨E, hE⟩ : ∃ x, x = dFindE L s := ⟨_, rfl⟩
  obtain ⟨sn, hsn⟩ : ∃ x, x = (dFind L s).2 := ⟨_, rfl⟩
  obtain ⟨so, hso⟩ : ∃ x, x = (dFind L s).1 := ⟨_, rfl⟩
  obtain ⟨F, hFe⟩ : ∃ x, x = dFindE L u := ⟨_, rfl⟩
  obtain ⟨un, hun⟩ : ∃ x, x = (dFind L u).2 := ⟨_, rfl⟩
  obtain ⟨uo, huo⟩ : ∃ x, x = (dFind L u).1 := ⟨_, rfl⟩
  obtain ⟨T, hT⟩ : ∃ x, x = dFindE L t := ⟨_, rfl⟩
  obtain ⟨tn, htn⟩ : ∃ x, x = (dFind L t).2 := ⟨_, rfl⟩
  obtain ⟨tw, hto⟩ : ∃ x, x = (dFind L t).1 := ⟨_, rfl⟩
  obtain ⟨G, hG⟩ : ∃ x, x = dRenE L s t := ⟨_, rfl⟩
  obtain ⟨M, hM⟩ : ∃ x, x = dRen L s t := ⟨_, rfl⟩
  have CS : Hid (∀ w b q, HasD I w b q L → Calls Tryd.prog 18 #[.pointer (some ⟨q, 0, none⟩), .string s] w (StillD I w b q L (.tuple #[.int .i64 sn, .string so, .int .i64 E]))) := fun w b q h => by rw [hsn, hso, hE]; exact h.find hs
  have CU : Hid (∀ w b q, HasD I w b q L → Calls Tryd.prog 18 #[.pointer (some ⟨q, 0, none⟩), .string u] w (StillD I w b q L (.tuple #[.int .i64 un, .string uo, .int .i64 F]))) := fun w b q h => by rw [hun, huo, hFe]; exact h.find hu
  have CT : Hid (∀ w b q, HasD I w b q L → Calls Tryd.prog 18 #[.pointer (some ⟨q, 0, none⟩), .string t] w (StillD I w b q L (.tuple #[.int .i64 tn, .string tw, .int .i64 T]))) := fun w b q h => by rw [htn, hto, hT]; exact h.find ht
  have CR : Hid (∀ w b q, HasD I w b q L → Calls Tryd.prog 22 #[.pointer (some ⟨q, 0, none⟩), .string s, .string t] w (TurnedD I w b q M G)) := fun w b q h => by rw [hM, hG]; exact h.rename hs ht
  have NO : Hid (Dok L → G ≠ 0 → M = L) := fun h hg => by rw [hM]; exact ren_no h (by rw [← hG]; exact hg)
  have TO : Hid (Dok L → G = 0 → E = 0 ∧ dFindE M t = 0 ∧ dFind M t = (t, sn) ∧ (T = 0 → alk s t = true)) := fun h hg => by rw [hM, hE, hsn, hT]; exact ren_to h (by rw [← hG]; exact hg)
  have OT : Hid (Dok L → G = 0 → F = 0 → alk u s = false → dFindE M u = 0 ∧ dFind M u = (uo, un)) := fun h hg hf ha => by
    obtain ⟨k1, k2⟩ := ren_other h (t := t) (u := u) (s := s) (by rw [← hG]; exact hg) (by rw [← hFe]; exact hf) ha
    rw [hM, huo, hun]
    exact ⟨k1, k2⟩
  clear hE hsn hso hFe hun huo hT htn hto hG hM
  go_enter Tryd.func7, Tryd.ntmps7
  go_wp2_with fail
  refine CP.out.mono ?_
  rintro e w1 ⟨q, g, rfl, x1, l1⟩
  have DK := Lib.hid x1.ok.1
  clear CP
  by_cases hg : G = 0
  · obtain ⟨k1, k2, k3, k4⟩ := TO.out DK.out hg
    have MT : Hid (∀ w b q, HasD I w b q M → Calls Tryd.prog 18 #[.pointer (some ⟨q, 0, none⟩), .string t] w (StillD I w b q M (.tuple #[.int .i64 sn, .string t, .int .i64 0]))) := fun w b q h => by
      have := h.find ht
      rw [k2, k3] at this
      exact this
    have MU : Hid (F = 0 → alk u s = false → ∀ w b q, HasD I w b q M → Calls Tryd.prog 18 #[.pointer (some ⟨q, 0, none⟩), .string u] w (StillD I w b q M (.tuple #[.int .i64 un, .string uo, .int .i64 0]))) := fun hf ha w b q h => by
      obtain ⟨j1, j2⟩ := OT.out DK.out hg hf ha
      have := h.find hu
      rw [j1, j2] at this
      exact this
    have htt : (t.toList == t.toList) = true := beq_self_eq_true _
    subst hg k1
    have K4 := Lib.hid k4
    clear k2 k3 k4 NO TO OT
    by_cases hT0 : T = 0
    · have ha := K4.out hT0
      subst hT0
      go_wp2_with fail
      refine (CS.out _ _ _ x1).mono ?_
      rintro e w2 ⟨rfl, x2, l2⟩
      go_wp2_with fail
      refine (CU.out _ _ _ x2).mono ?_
      rintro e w3 ⟨rfl, x3, l3⟩
      go_wp2_with fail
      refine (CT.out _ _ _ x3).mono ?_
      rintro e w4 ⟨rfl, x4, l4⟩
      go_wp2_with fail
      refine (CR.out _ _ _ x4).mono ?_
      rintro e w5 ⟨rfl, x5, l5⟩
      have L5 := Lib.hid ((((l1.trans l2).trans l3).trans l4).trans l5)
      clear l2 l3 l4 l5 x2 x3 x4 CU CT CR
      go_wp2_with fail
      refine (MT.out _ _ _ x5).mono ?_
      rintro e w6 ⟨rfl, x6, l6⟩
      have CK := Lib.hid (x6.alike U hs ht)
      rw [ha] at CK
      clear ha
      go_wp2_with fail
      refine CK.out.mono ?_
      rintro e wa ⟨rfl, xa, la⟩
      have La := Lib.hid ((L5.out.trans l6).trans la)
      clear CK l6 la x6 x5 L5
      by_cases hF : F = 0
      · obtain ⟨z, hz⟩ : ∃ z, z = alk u s := ⟨_, rfl⟩
        have CK := Lib.hid (xa.alike U hu hs)
        rw [← hz] at CK
        have CMU : Hid (z = false → ∀ w b q, HasD I w b q M → Calls Tryd.prog 18 #[.pointer (some ⟨q, 0, none⟩), .string u] w (StillD I w b q M (.tuple #[.int .i64 un, .string uo, .int .i64 0]))) := fun hzf => MU.out hF (by rw [← hz]; exact hzf)
        clear hz
        subst hF
        go_wp2_with fail
        refine CK.out.mono ?_
        rintro e w8 ⟨rfl, x8, l8⟩
        have L8 := Lib.hid (La.out.trans l8)
        clear CK l8 xa
        cases z with
        | true =>
          clear CMU
          go_wp2_with fail
          refine (x8.works).mono ?_
          rintro e w9 ⟨rfl, x9, l9⟩
          go_wp2_with fail
          go_ret
          exact ⟨rfl, L8.out.trans l9⟩
        | false =>
          go_wp2_with fail
          refine (CMU.out (by first | trivial | rfl) _ _ _ x8).mono ?_
          rintro e w9 ⟨rfl, x9, l9⟩
          have huo : (uo.toList == uo.toList) = true := beq_self_eq_true _
          go_wp2_with fail
          refine (x9.works).mono ?_
          rintro e w10 ⟨rfl, x10, l10⟩
          go_wp2_with fail
          go_ret
          exact ⟨rfl, (L8.out.trans l9).trans l10⟩
      · have hne : (F != 0) = true := by simpa using hF
        have hne2 : (F == 0) = false := by simpa using hF
        go_wp2_with fail
        refine (xa.works).mono ?_
        rintro e w9 ⟨rfl, x9, l9⟩
        go_wp2_with fail
        go_ret
        exact ⟨rfl, La.out.trans l9⟩
    · have hne : (T != 0) = true := by simpa using hT0
      have hne2 : (T == 0) = false := by simpa using hT0
      go_wp2_with fail
      refine (CS.out _ _ _ x1).mono ?_
      rintro e w2 ⟨rfl, x2, l2⟩
      go_wp2_with fail
      refine (CU.out _ _ _ x2).mono ?_
      rintro e w3 ⟨rfl, x3, l3⟩
      go_wp2_with fail
      refine (CT.out _ _ _ x3).mono ?_
      rintro e w4 ⟨rfl, x4, l4⟩
      go_wp2_with fail
      refine (CR.out _ _ _ x4).mono ?_
      rintro e w5 ⟨rfl, x5, l5⟩
      have L5 := Lib.hid ((((l1.trans l2).trans l3).trans l4).trans l5)
      clear l2 l3 l4 l5 x2 x3 x4 CU CT CR
      go_wp2_with fail
      refine (MT.out _ _ _ x5).mono ?_
      rintro e wa ⟨rfl, xa, l6⟩
      have La := Lib.hid (L5.out.trans l6)
      clear l6 x5 L5
      by_cases hF : F = 0
      · obtain ⟨z, hz⟩ : ∃ z, z = alk u s := ⟨_, rfl⟩
        have CK := Lib.hid (xa.alike U hu hs)
        rw [← hz] at CK
        have CMU : Hid (z = false → ∀ w b q, HasD I w b q M → Calls Tryd.prog 18 #[.pointer (some ⟨q, 0, none⟩), .string u] w (StillD I w b q M (.tuple #[.int .i64 un, .string uo, .int .i64 0]))) := fun hzf => MU.out hF (by rw [← hz]; exact hzf)
        clear hz
        subst hF
        go_wp2_with fail
        refine CK.out.mono ?_
        rintro e w8 ⟨rfl, x8, l8⟩
        have L8 := Lib.hid (La.out.trans l8)
        clear CK l8 xa
        cases z with
        | true =>
          clear CMU
          go_wp2_with fail
          refine (x8.works).mono ?_
          rintro e w9 ⟨rfl, x9, l9⟩
          go_wp2_with fail
          go_ret
          exact ⟨rfl, L8.out.trans l9⟩
        | false =>
          go_wp2_with fail
          refine (CMU.out (by first | trivial | rfl) _ _ _ x8).mono ?_
          rintro e w9 ⟨rfl, x9, l9⟩
          have huo : (uo.toList == uo.toList) = true := beq_self_eq_true _
          go_wp2_with fail
          refine (x9.works).mono ?_
          rintro e w10 ⟨rfl, x10, l10⟩
          go_wp2_with fail
          go_ret
          exact ⟨rfl, (L8.out.trans l9).trans l10⟩
      · have hne : (F != 0) = true := by simpa using hF
        have hne2 : (F == 0) = false := by simpa using hF
        go_wp2_with fail
        refine (xa.works).mono ?_
        rintro e w9 ⟨rfl, x9, l9⟩
        go_wp2_with fail
        go_ret
        exact ⟨rfl, La.out.trans l9⟩
  · have hml := NO.out DK.out hg
    rw [hml] at CR
    have hne : (G != 0) = true := by simpa using hg
    have hne2 : (G == 0) = false := by simpa using hg
    clear hml NO TO OT
    by_cases hE0 : E = 0
    · subst hE0
      go_wp2_with fail
      refine (CS.out _ _ _ x1).mono ?_
      rintro e w2 ⟨rfl, x2, l2⟩
      go_wp2_with fail
      refine (CU.out _ _ _ x2).mono ?_
      rintro e w3 ⟨rfl, x3, l3⟩
      go_wp2_with fail
      refine (CT.out _ _ _ x3).mono ?_
      rintro e w4 ⟨rfl, x4, l4⟩
      go_wp2_with fail
      refine (CR.out _ _ _ x4).mono ?_
      rintro e w5 ⟨rfl, x5, l5⟩
      have L5 := Lib.hid ((((l1.trans l2).trans l3).trans l4).trans l5)
      clear l2 l3 l4 l5 x2 x3 x4 CU CT CR
      go_wp2_with fail
      refine (CS.out _ _ _ x5).mono ?_
      rintro e w6 ⟨rfl, x6, l6⟩
      go_wp2_with fail
      refine (x6.works).mono ?_
      rintro e w7 ⟨rfl, x7, l7⟩
      go_wp2_with fail
      go_ret
      exact ⟨rfl, (L5.out.trans l6).trans l7⟩
    · have hme : (E != 0) = true := by simpa using hE0
      have hme2 : (E == 0) = false := by simpa using hE0
      go_wp2_with fail
      refine (CS.out _ _ _ x1).mono ?_
      rintro e w2 ⟨rfl, x2, l2⟩
      go_wp2_with fail
      refine (CU.out _ _ _ x2).mono ?_
      rintro e w3 ⟨rfl, x3, l3⟩
      go_wp2_with fail
      refine (CT.out _ _ _ x3).mono ?_
      rintro e w4 ⟨rfl, x4, l4⟩
      go_wp2_with fail
      refine (CR.out _ _ _ x4).mono ?_
      rintro e w5 ⟨rfl, x5, l5⟩
      have L5 := Lib.hid ((((l1.trans l2).trans l3).trans l4).trans l5)
      clear l2 l3 l4 l5 x2 x3 x4 CU CT CR
      go_wp2_with fail
      refine (CS.out _ _ _ x5).mono ?_
      rintro e w6 ⟨rfl, x6, l6⟩
      go_wp2_with fail
      refine (x6.works).mono ?_
      rintro e w7 ⟨rfl, x7, l7⟩
      go_wp2_with fail
      go_ret
      exact ⟨rfl, (L5.out.trans l6).trans l7⟩
end Go.Proofs.YtangkcedgelegaaDoor

namespace Go.Proofs.YtangkcedgelegaaDoor
set_option linter.all false
open Go.RowKit
set_option linter.unusedVariables false
theorem walk_DirRenames (W : World) (hT : Tabs W) (A0 : Option Addr) (n0 c0 : Nat) (l0 : List DActV) (h0 : LDAct 1048576 W W.heap.size A0 n0 c0 l0) (r0 : n0 ≤ 140737488355328) (a1 : ByteArray) (w1 : a1.size ≤ 1048576) (a2 : ByteArray) (w2 : a2.size ≤ 1048576) (a3 : ByteArray) (w3 : a3.size ≤ 1048576) :
    Calls Tryd.prog 7 #[.slice A0 n0 c0, .string a1, .string a2, .string a3] W fun e w' => e = .returned (.bool true) ∧ Below W.heap.size W w' := law_DirRenames theDir theUtf W A0 n0 c0 l0 h0 r0 (TabsD.of hT) a1 a2 a3 w1 w2 w3
end Go.Proofs.YtangkcedgelegaaDoor
