import Derived.WalkKit
import Derived.Deep.Draws
import Derived.Laws.Rows
import Derived.Laws.OwnMore
import Derived.Lib.RuneBytes
import Derived.Lib.ValidLaws
import Derived.Test.YtdlcjobahdmapaaDoorRows
import Derived.Laws.CopyOwn
import Derived.Laws.AppendOwnNone
import Derived.Lib.Hide
import Derived.Laws.AppendOwn
import Derived.OwnWalk
import Derived.Lib.OthersKept
import Derived.Laws.BytesArg
import Derived.Shelf.Utf8.AppendRunePlain
import Derived.Shelf.Unicode.ValidAny
import Derived.Test.YtdlcjobahdmapaaDoorProg
import Derived.WalkSpells
import Derived.WalkLawsBesides
import Derived.Deep.QuietTactic
import Derived.BigQuiet
import Derived.Laws.Bits64
import Derived.Laws.BitsAllLaws
import Derived.ProofKit
import Derived.OpenShut
import Derived.ShutString
import Derived.SizedLaws
import Derived.ChangeOld
import Derived.Lib.AppendZeros
import Derived.Deep.RegionWith
import Derived.Deep.DeepCutAuto
import Derived.Great.Walk
import Derived.Laws.Tables
import Derived.Laws.NewFold
import Derived.Deep.WholeRow
import Derived.Deep.MidRow
import Derived.OneCell
import Derived.Deep.Strs
import Derived.OrdersHeld
import Derived.Laws.StructEq
import Derived.ChangeKeysEq
import Derived.Deep.RegionLaw
import Derived.Deep.OwnRows
import Derived.Test.YtdlcjobahdmapaaDoorWAD
import Derived.Test.YtdlcjobahdmapaaDoorWAE
import Derived.Test.YtdlcjobahdmapaaDoorWAF
import Derived.Test.YtdlcjobahdmapaaDoorWAH
import Derived.Test.YtdlcjobahdmapaaDoorWAI
import Derived.Test.YtdlcjobahdmapaaDoorWAJ
import Derived.Test.YtdlcjobahdmapaaDoorWAM
namespace Go.Proofs.YtdlcjobahdmapaaDoor
set_option linter.all false
set_option linter.unusedVariables false
set_option linter.unusedSimpArgs false
set_option maxRecDepth 100000
theorem fp_some {c : Int} {a : AskV} (he : fpErr c a = 0) : 1 ≤ (fpOf c a).length := by
  obtain ⟨hkn, _, _, _, _, _, hb⟩ := fp_parts he
  rw [hb]
  unfold bodyF
  rcases known_cases hkn with k5 | k6 | k7 | k8 | k9 | k10
  · subst k5; simp only [if_true, List.length_append, le_length]; omega
  · subst k6; simp [le_length]
  · subst k7; simp [le_length]
  · subst k8; simp only [show ¬ ((8 : Int) = 5) by decide, if_true, if_false, List.length_append, le_length]; omega
  · subst k9; simp only [show ¬ ((9 : Int) = 5) by decide, show ¬ ((9 : Int) = 8) by decide, if_true, if_false, List.length_append, le_length]; omega
  · subst k10; simp only [show ¬ ((10 : Int) = 5) by decide, show ¬ ((10 : Int) = 8) by decide, show ¬ ((10 : Int) = 9) by decide, if_true, if_false, List.length_append, le_length]; omega
end Go.Proofs.YtdlcjobahdmapaaDoor
