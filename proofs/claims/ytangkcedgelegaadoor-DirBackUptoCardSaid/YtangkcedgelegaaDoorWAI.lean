import Derived.WalkKit
import Derived.Deep.Draws
import Derived.Laws.Rows
import Derived.Laws.OwnMore
import Derived.Lib.RuneBytes
import Derived.Lib.ValidLaws
import Derived.Test.YtangkcedgelegaaDoorRows
import Derived.Laws.CopyOwn
import Derived.Laws.AppendOwnNone
import Derived.Lib.Hide
import Derived.Laws.AppendOwn
import Derived.OwnWalk
import Derived.Lib.OthersKept
import Derived.Laws.BytesArg
import Derived.Shelf.Utf8.AppendRunePlain
import Derived.Shelf.Utf8.RuneCount
import Derived.Shelf.LaysM
import Derived.Shelf.Strconv.Clone
import Derived.Shelf.Unicode.DecodeSlow
import Derived.Shelf.Unicode.DecodeAny
import Derived.Shelf.Slices.Turned
import Derived.Shelf.Unicode.ValidAny
import Derived.Test.YtangkcedgelegaaDoorProg
import Derived.WalkSpells
import Derived.WalkLawsBesides
import Derived.Deep.QuietTactic
import Derived.BigQuiet
import Derived.Laws.Bits64
import Derived.Laws.BitsAllLaws
import Derived.Laws.Tables
import Derived.Laws.NewFold
import Derived.Deep.WholeRow
import Derived.Deep.DeepCutAuto
import Derived.Laws.IdiomStrings
import Derived.Laws.Cover4
import Derived.Lib.RuneCount
import Derived.Lib.IndexLaws
import Derived.OneCell
import Derived.StillTailTactics
import Derived.WalkMore
import Derived.ProofKit
import Derived.OpenShut
import Derived.ShutString
import Derived.SizedLaws
import Derived.ChangeOld
import Derived.Deep.Strs
import Derived.Lib.Join
import Derived.Deep.RegionLaw
import Derived.Deep.CutBlock
import Derived.Deep.MidRow
import Derived.Lib.AppendZeros
import Derived.Deep.RegionWith
import Derived.Great.Walk
import Derived.Deep.Slices
import Derived.Lib.SliceRun
import Derived.Maps.AppendAt
import Derived.Lib.Overlaps
import Derived.OrdersHeld
import Derived.Laws.StructEq
import Derived.ChangeKeysEq
import Derived.Maps.OwnSet
import Derived.StringKeys
import Derived.Laws.Externs
import Derived.RangeFuncNested
import Derived.RangeFuncBound
import Derived.RangeFuncCalls
import Derived.RangeFuncLeaves
import Derived.Shelf.Abstract
import Derived.Shelf.RegionOpen
import Derived.OwnWalkIn
import Derived.TacticsInMore
import Derived.LoopNIn
import Derived.LoopIn
import Derived.RangeFuncFrom
import Derived.Test.YtangkcedgelegaaDoorWAC
import Derived.Test.YtangkcedgelegaaDoorWAD
import Derived.Test.YtangkcedgelegaaDoorWAE
import Derived.Test.YtangkcedgelegaaDoorWAF
namespace Go.Proofs.YtangkcedgelegaaDoor
set_option linter.all false
open Go.Lib
theorem foldB_twice (l : List UInt8) : foldB (foldB l) = foldB l := by
  unfold foldB
  rw [List.map_map]
  apply List.map_congr_left
  intro b _
  have h1 := lowB_toNat b
  have h2 := lowB_toNat (lowB b)
  apply UInt8.toNat_inj.1
  show (lowB (lowB b)).toNat = (lowB b).toNat
  rw [h2, h1]
  unfold lowN
  repeat' split
  all_goals omega
end Go.Proofs.YtangkcedgelegaaDoor

namespace Go.Proofs.YtangkcedgelegaaDoor
set_option linter.all false
open Go.RowKit Go.Lib
set_option linter.unusedVariables false
theorem alk_alk {s t u : ByteArray} (h : alk s t = true) : alk u s = alk u t := by
  rw [Bool.eq_iff_iff, alk_iff, alk_iff, alk_iff.1 h]
section
variable {L : List DItem} {s t u : ByteArray} {n : Int} {x y : DItem}
theorem dHas_alk (h : alk s t = true) : dHas L s = dHas L t := by
  unfold dHas
  congr 1
  funext y
  exact alk_alk h
end
end Go.Proofs.YtangkcedgelegaaDoor

namespace Go.Proofs.YtangkcedgelegaaDoor
set_option linter.all false
open Go.RowKit
set_option linter.unusedVariables false
theorem foldT_alk (s : ByteArray) : alk (foldT s) s = true := by
  unfold alk alikeOf
  rw [foldT_list, decide_eq_true_iff]
  exact foldB_twice _
section
variable {L : List DItem} {s t u : ByteArray} {n : Int}
theorem dFindE_seven (hb : dBad s = false) (h : dHas L s = false) : dFindE L s = 7 := by
  unfold dFindE
  rw [hb, h]
  rfl
theorem dAddE_cases : dAddE L s = 5 ∧ dBad s = true ∨ dAddE L s = 8 ∧ dBad s = false ∧ dHas L s = true ∨ dAddE L s = 0 ∧ dBad s = false ∧ dHas L s = false := by
  unfold dAddE
  cases hb : dBad s with
  | true => exact .inl ⟨rfl, rfl⟩
  | false =>
    cases hh : dHas L s with
    | true => exact .inr (.inl ⟨rfl, rfl, rfl⟩)
    | false => exact .inr (.inr ⟨rfl, rfl, rfl⟩)
theorem back_old (h : Dok L) (he : dAddE L s = 8) (ha : alk s t = true) (hb : dBad t = false) : dFindE (dAdd L s n) t = 0 ∧ alk (dFind (dAdd L s n) t).1 s = true ∧ dAdd L s n = L := by
  have e : dAdd L s n = L := by
    unfold dAdd
    rw [if_neg (by rw [he]; decide)]
  rw [e]
  rcases dAddE_cases (L := L) (s := s) with ⟨h1, _⟩ | ⟨_, h2, h3⟩ | ⟨h1, _⟩
  · rw [he] at h1; exact absurd h1 (by decide)
  · obtain ⟨k1, k2, k3⟩ := dFind_ok (L := L) (s := t) hb (by rw [← dHas_alk ha]; exact h3)
    exact ⟨k1, alk_trans k3 (alk_symm ha), rfl⟩
  · rw [he] at h1; exact absurd h1 (by decide)
/-- what was removed is not found -/
theorem gone (h : Dok L) (he : dFindE L s = 0) : dFindE (dRem L s) s = 7 := by
  obtain ⟨hb, _⟩ := dFindE_zero.1 he
  refine dFindE_seven hb ?_
  cases hh : dHas (dRem L s) s with
  | false => rfl
  | true =>
    obtain ⟨x, hx, ha⟩ := dHas_iff.1 hh
    rcases ((dRem_mem h).1 hx).2 with h1 | h1
    · rw [hb] at h1; cases h1
    · rw [ha] at h1; cases h1
end
section
variable {L : List DItem} {i : Nat}
end
end Go.Proofs.YtangkcedgelegaaDoor

namespace Go.Proofs.YtangkcedgelegaaDoor
set_option linter.all false
set_option maxRecDepth 100000
open Go.RowKit
set_option linter.unusedVariables false
section
variable {I : DirI} {w w' : World} {b q : Nat} {L : List DItem}
end
theorem foldT_size (s : ByteArray) : (foldT s).size = s.size := by
  rw [Lib.size_eq, Lib.size_eq, foldT_list]
  unfold foldB
  exact List.length_map _
theorem foldT_bad {s : ByteArray} (h : dBad s = false) : dBad (foldT s) = false := by
  unfold dBad at h ⊢
  rw [foldT_size, foldT_list]
  have e : isText (foldB s.data.toList) = isText s.data.toList := by
    unfold isText
    have := foldedOf_eq s.data.toList
    rw [← this]
    unfold foldedOf
    rw [List.all_map]
    congr 1
    funext r
    show decide (foldR r < 1114112) = decide (r < 1114112)
    rw [decide_eq_decide]
    unfold foldR
    split <;> omega
  rw [e]
  exact h
end Go.Proofs.YtangkcedgelegaaDoor

namespace Go.Proofs.YtangkcedgelegaaDoor
set_option linter.all false
set_option maxRecDepth 100000
open Go.RowKit
set_option linter.unusedVariables false
set_option maxHeartbeats 4000000 in
theorem law_DirBack (I : DirI) (U : UtfI I) (W : World) (A : Option Addr) (n c : Nat) (l : List DActV) (hl : LDAct 1048576 W W.heap.size A n c l) (hn : n ≤ 140737488355328) (htb : I.tb W.heap.size W) (s : ByteArray) (hs : s.size ≤ 1048576) (m : Int) (hm : I64D m) :
    Calls Tryd.prog 6 #[.slice A n c, .string s, .int .i64 m] W fun e w' => e = .returned (.bool true) ∧ Below W.heap.size W w' := by
  have CP := Lib.hid (playedD I W A n c l hl hn htb)
  clear hl htb
  obtain ⟨L, hL⟩ : ∃ L, L = dActs l (min n 60) := ⟨_, rfl⟩
  have hLl : L.length ≤ 60 := by rw [hL]; have := dActs_le (l := l) (min n 60); omega
  rw [← hL] at CP
  clear hL
  obtain ⟨k, hk⟩ : ∃ k, k = L.length := ⟨_, rfl⟩
  rw [← hk] at hLl
  have HK := Lib.hid hk
  clear hk
  obtain ⟨E, hE⟩ : ∃ E, E = dAddE L s := ⟨_, rfl⟩
  obtain ⟨M, hM⟩ : ∃ M, M = dAdd L s m := ⟨_, rfl⟩
  have CA : Hid (∀ w b q, HasD I w b q L → Calls Tryd.prog 17 #[.pointer (some ⟨q, 0, none⟩), .string s, .int .i64 m] w (TurnedD I w b q M E)) := fun w b q h => by
    rw [hE, hM]
    exact h.add hs hm (by have := HK.out; omega)
  have CL : Hid (∀ w b q, HasD I w b q L → Calls Tryd.prog 15 #[.pointer (some ⟨q, 0, none⟩)] w (StillD I w b q L (.int .i64 (k : Nat)))) := fun w b q h => by rw [HK.out]; exact h.len
  have HSF : Hid ((foldT s).size ≤ 1048576) := by show _ ≤ _; rw [foldT_size]; exact hs
  rcases dAddE_cases (L := L) (s := s) with ⟨h1, h2⟩ | ⟨h1, h2, h3⟩ | ⟨h1, h2, h3⟩
  · have hML : M = L := by rw [hM]; unfold dAdd; rw [if_neg (by rw [h1]; decide)]
    rw [hE, h1, hML] at CA
    clear hE hM h1 h2 hML
    go_enter Tryd.func6, Tryd.ntmps6
    go_wp2_with fail
    refine CP.out.mono ?_
    rintro e w1 ⟨q, g, rfl, x1, l1⟩
    clear CP
    go_wp2_with fail
    refine (CL.out _ _ _ x1).mono ?_
    rintro e w2 ⟨rfl, x2, l2⟩
    go_wp2_with fail
    refine (CA.out _ _ _ x2).mono ?_
    rintro e w3 ⟨rfl, x3, l3⟩
    go_wp2_with fail
    refine (CL.out _ _ _ x3).mono ?_
    rintro e w4 ⟨rfl, x4, l4⟩
    go_wp2_with fail
    refine (x4.works).mono ?_
    rintro e w5 ⟨rfl, x5, l5⟩
    go_wp2_with fail
    go_ret
    exact ⟨by simp, (((l1.trans l2).trans l3).trans l4).trans l5⟩
  · have hD : Dok L → Dok M := fun h => by rw [hM]; exact h.add
    have BK : Hid (Dok L → dFindE M (foldT s) = 0 ∧ alk (dFind M (foldT s)).1 s = true) := fun h => by
      rw [hM]
      obtain ⟨k1, k2, _⟩ := back_old (n := m) h h1 (alk_symm (foldT_alk s)) (foldT_bad h2)
      exact ⟨k1, k2⟩
    have hML : M = L := by rw [hM]; unfold dAdd; rw [if_neg (by rw [h1]; decide)]
    have RM : Hid (dFindE M s = 0) := by show _ = _; rw [hML]; exact dFindE_zero.2 ⟨h2, h3⟩
    rw [hE, h1] at CA
    clear hE hM h1 h2 h3 hML
    go_enter Tryd.func6, Tryd.ntmps6
    go_wp2_with fail
    refine CP.out.mono ?_
    rintro e w1 ⟨q, g, rfl, x1, l1⟩
    clear CP
    go_wp2_with fail
    refine (CL.out _ _ _ x1).mono ?_
    rintro e w2 ⟨rfl, x2, l2⟩
    go_wp2_with fail
    refine (CA.out _ _ _ x2).mono ?_
    rintro e w3 ⟨rfl, x3, l3⟩
    obtain ⟨b1, b2⟩ := BK.out x2.ok.1
    have GN := Lib.hid (gone x3.ok.1 RM.out)
    have B2 := Lib.hid b2
    obtain ⟨o1, ho1⟩ : ∃ x, x = (dFind M (foldT s)).1 := ⟨_, rfl⟩
    obtain ⟨o2, ho2⟩ : ∃ x, x = (dFind M (foldT s)).2 := ⟨_, rfl⟩
    have OS : Hid (o1.size ≤ 1048576) := by
      obtain ⟨c1, c2⟩ := dFindE_zero.1 b1
      have := x3.ok.2.2 _ (dFind_ok c1 c2).2.1
      show _ ≤ _
      rw [ho1]
      exact this
    have CF : Hid (∀ w b q, HasD I w b q M → Calls Tryd.prog 18 #[.pointer (some ⟨q, 0, none⟩), .string (foldT s)] w (StillD I w b q M (.tuple #[.int .i64 o2, .string o1, .int .i64 0]))) := fun w b q h => by rw [ho1, ho2, ← b1]; exact h.find HSF.out
    rw [← ho1] at B2
    clear b1 b2 ho1 ho2 CA CL
    go_wp2_with fail
    refine (x3.fold U hs).mono ?_
    rintro e w4 ⟨rfl, x4, l4⟩
    go_wp2_with fail
    refine (CF.out _ _ _ x4).mono ?_
    rintro e w5 ⟨rfl, x5, l5⟩
    have CK := Lib.hid (x5.alike U OS.out hs)
    rw [B2.out] at CK
    go_wp2_with fail
    refine CK.out.mono ?_
    rintro e w6 ⟨rfl, x6, l6⟩
    have CR := Lib.hid (x6.remove hs)
    rw [RM.out] at CR
    clear CK CF
    go_wp2_with fail
    refine CR.out.mono ?_
    rintro e w7 ⟨rfl, x7, l7⟩
    have CG := Lib.hid (x7.find hs)
    rw [GN.out, dFind_no (by rw [GN.out]; decide)] at CG
    clear CR
    go_wp2_with fail
    refine CG.out.mono ?_
    rintro e w8 ⟨rfl, x8, l8⟩
    clear CG
    go_wp2_with fail
    refine (x8.works).mono ?_
    rintro e w9 ⟨rfl, x9, l9⟩
    go_wp2_with fail
    go_ret
    exact ⟨rfl, (((((((l1.trans l2).trans l3).trans l4).trans l5).trans l6).trans l7).trans l8).trans l9⟩
  · have BK : Hid (Dok L → dFindE M (foldT s) = 0 ∧ dFind M (foldT s) = (s, m) ∧ M.length = L.length + 1) := fun h => by
      rw [hM]
      exact back_new (n := m) h h1 (alk_symm (foldT_alk s)) (foldT_bad h2)
    have RN : Hid (Dok L → dFindE M s = 0) := fun h => by
      rw [hM]
      exact (back_new (n := m) h h1 (alk_refl s) h2).1
    rw [hE, h1] at CA
    clear hE hM h1 h2 h3
    have hss : (s.toList == s.toList) = true := beq_self_eq_true _
    go_enter Tryd.func6, Tryd.ntmps6
    go_wp2_with fail
    refine CP.out.mono ?_
    rintro e w1 ⟨q, g, rfl, x1, l1⟩
    clear CP
    go_wp2_with fail
    refine (CL.out _ _ _ x1).mono ?_
    rintro e w2 ⟨rfl, x2, l2⟩
    go_wp2_with fail
    refine (CA.out _ _ _ x2).mono ?_
    rintro e w3 ⟨rfl, x3, l3⟩
    obtain ⟨b1, b2, b3⟩ := BK.out x2.ok.1
    have rm := RN.out x2.ok.1
    have GN := Lib.hid (gone x3.ok.1 rm)
    have RM := Lib.hid rm
    have CF : Hid (∀ w b q, HasD I w b q M → Calls Tryd.prog 18 #[.pointer (some ⟨q, 0, none⟩), .string (foldT s)] w (StillD I w b q M (.tuple #[.int .i64 m, .string s, .int .i64 0]))) := fun w b q h => by
      have := h.find HSF.out
      rw [b1, b2] at this
      exact this
    have CM : Hid (∀ w b q, HasD I w b q M → Calls Tryd.prog 15 #[.pointer (some ⟨q, 0, none⟩)] w (StillD I w b q M (.int .i64 ((k + 1 : Nat) : Int)))) := fun w b q h => by rw [HK.out, ← b3]; exact h.len
    clear b1 b2 b3 rm CA CL BK RN
    go_wp2_with fail
    refine (x3.fold U hs).mono ?_
    rintro e w4 ⟨rfl, x4, l4⟩
    go_wp2_with fail
    refine (CF.out _ _ _ x4).mono ?_
    rintro e w5 ⟨rfl, x5, l5⟩
    clear CF
    go_wp2_with fail
    refine (CM.out _ _ _ x5).mono ?_
    rintro e w6 ⟨rfl, x6, l6⟩
    have CR := Lib.hid (x6.remove hs)
    rw [RM.out] at CR
    clear CM
    go_wp2_with fail
    refine CR.out.mono ?_
    rintro e w7 ⟨rfl, x7, l7⟩
    have CG := Lib.hid (x7.find hs)
    rw [GN.out, dFind_no (by rw [GN.out]; decide)] at CG
    clear CR
    go_wp2_with fail
    refine CG.out.mono ?_
    rintro e w8 ⟨rfl, x8, l8⟩
    clear CG
    go_wp2_with fail
    refine (x8.works).mono ?_
    rintro e w9 ⟨rfl, x9, l9⟩
    go_wp2_with fail
    go_ret
    exact ⟨rfl, (((((((l1.trans l2).trans l3).trans l4).trans l5).trans l6).trans l7).trans l8).trans l9⟩
end Go.Proofs.YtangkcedgelegaaDoor

namespace Go.Proofs.YtangkcedgelegaaDoor
set_option linter.all false
open Go.RowKit
set_option linter.unusedVariables false
theorem walk_DirBack (W : World) (hT : Tabs W) (A0 : Option Addr) (n0 c0 : Nat) (l0 : List DActV) (h0 : LDAct 1048576 W W.heap.size A0 n0 c0 l0) (r0 : n0 ≤ 140737488355328) (a1 : ByteArray) (w1 : a1.size ≤ 1048576) (a2 : Int) (w2 : -9223372036854775808 ≤ a2 ∧ a2 ≤ 9223372036854775807) :
    Calls Tryd.prog 6 #[.slice A0 n0 c0, .string a1, .int .i64 a2] W fun e w' => e = .returned (.bool true) ∧ Below W.heap.size W w' := law_DirBack theDir theUtf W A0 n0 c0 l0 h0 r0 (TabsD.of hT) a1 w1 a2 w2
end Go.Proofs.YtangkcedgelegaaDoor
