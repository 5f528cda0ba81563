import Derived.WalkKit
import Derived.Deep.Draws
import Derived.Laws.Rows
import Derived.Laws.OwnMore
import Derived.Lib.RuneBytes
import Derived.Lib.ValidLaws
import Derived.Test.YtbbjmmooemmeiaaDoorRows
import Derived.Laws.CopyOwn
import Derived.Laws.AppendOwnNone
import Derived.Lib.Hide
import Derived.Laws.AppendOwn
import Derived.OwnWalk
import Derived.Lib.OthersKept
import Derived.Laws.BytesArg
import Derived.Shelf.Utf8.AppendRunePlain
import Derived.Shelf.Unicode.ValidAny
import Derived.Test.YtbbjmmooemmeiaaDoorProg
import Derived.WalkSpells
import Derived.WalkLawsBesides
import Derived.Deep.QuietTactic
import Derived.BigQuiet
import Derived.Laws.Bits64
import Derived.Laws.BitsAllLaws
import Derived.ProofKit
import Derived.OpenShut
import Derived.ShutString
import Derived.SizedLaws
import Derived.ChangeOld
import Derived.Lib.AppendZeros
import Derived.Deep.RegionWith
import Derived.Deep.DeepCutAuto
import Derived.Great.Walk
import Derived.Laws.Tables
import Derived.Laws.NewFold
import Derived.Deep.WholeRow
import Derived.Deep.MidRow
import Derived.OneCell
import Derived.Deep.Strs
import Derived.OrdersHeld
import Derived.Laws.StructEq
import Derived.ChangeKeysEq
import Derived.Deep.RegionLaw
import Derived.Deep.OwnRows
import Derived.Test.YtbbjmmooemmeiaaDoorWAD
import Derived.Test.YtbbjmmooemmeiaaDoorWAE
import Derived.Test.YtbbjmmooemmeiaaDoorWAG
import Derived.Test.YtbbjmmooemmeiaaDoorWAH
import Derived.Test.YtbbjmmooemmeiaaDoorWAI
import Derived.Test.YtbbjmmooemmeiaaDoorWAK
namespace Go.Proofs.YtbbjmmooemmeiaaDoor
set_option linter.all false
set_option linter.unusedVariables false
set_option linter.unusedSimpArgs false
set_option maxRecDepth 100000
theorem ip_parts {c : Int} {a : AskV} (h : ipErr c a = 0) : knownI c = true ∧ wantI c a = a ∧ (c = 17 → 1 ≤ a.cls ∧ a.cls ≤ 3) ∧ (c = 14 → ptextErr a.pat.data.toList = 0 ∧ ptextErr a.aft.data.toList = 0) ∧ (c = 17 → a.cls = 3 → ptextErr a.name.data.toList = 0) ∧ ipOf c a = bodyI c a := by
  have h0 := h
  unfold ipErr at h
  by_cases h1 : nameI c a = true
  · rw [if_pos h1] at h
    unfold nameI at h1
    simp only [Bool.and_eq_true, Bool.or_eq_true, Bool.not_eq_true', decide_eq_false_iff_not, decide_eq_true_eq, classI] at h1
    obtain ⟨k1, k2, k3⟩ := h1
    refine ⟨k1, (besideI_want c a).1 k3, fun hc => ?_, fun hc => ?_, fun hc hs => ?_, by unfold ipOf; rw [if_pos h0]⟩
    · rcases k2 with k2 | k2
      · exact absurd hc k2
      · exact k2
    · rw [if_pos hc] at h
      by_cases h2 : ptextErr a.pat.data.toList = 0
      · rw [if_pos h2] at h; exact ⟨h2, h⟩
      · rw [if_neg h2] at h; exact absurd h h2
    · rw [if_neg (by omega), if_pos ⟨hc, hs⟩] at h; exact h
  · rw [if_neg h1] at h; exact absurd h (by decide)
end Go.Proofs.YtbbjmmooemmeiaaDoor
