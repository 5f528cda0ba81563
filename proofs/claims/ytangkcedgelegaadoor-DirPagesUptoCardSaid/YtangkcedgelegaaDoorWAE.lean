import Derived.WalkKit
import Derived.Deep.Draws
import Derived.Laws.Rows
import Derived.Laws.OwnMore
import Derived.Lib.RuneBytes
import Derived.Lib.ValidLaws
import Derived.Test.YtangkcedgelegaaDoorRows
import Derived.Laws.CopyOwn
import Derived.Laws.AppendOwnNone
import Derived.Lib.Hide
import Derived.Laws.AppendOwn
import Derived.OwnWalk
import Derived.Lib.OthersKept
import Derived.Laws.BytesArg
import Derived.Shelf.Utf8.AppendRunePlain
import Derived.Shelf.Utf8.RuneCount
import Derived.Shelf.LaysM
import Derived.Shelf.Strconv.Clone
import Derived.Shelf.Unicode.DecodeSlow
import Derived.Shelf.Unicode.DecodeAny
import Derived.Shelf.Slices.Turned
import Derived.Shelf.Unicode.ValidAny
import Derived.Test.YtangkcedgelegaaDoorProg
import Derived.WalkSpells
import Derived.WalkLawsBesides
import Derived.Deep.QuietTactic
import Derived.BigQuiet
import Derived.Laws.Bits64
import Derived.Laws.BitsAllLaws
import Derived.Laws.Tables
import Derived.Laws.NewFold
import Derived.Deep.WholeRow
import Derived.Deep.DeepCutAuto
import Derived.Laws.IdiomStrings
import Derived.Laws.Cover4
import Derived.Lib.RuneCount
import Derived.Lib.IndexLaws
import Derived.OneCell
import Derived.StillTailTactics
import Derived.WalkMore
import Derived.Maps.OwnSet
import Derived.ProofKit
import Derived.OpenShut
import Derived.ShutString
import Derived.SizedLaws
import Derived.ChangeOld
import Derived.Deep.Strs
import Derived.Lib.Join
import Derived.Deep.RegionLaw
import Derived.Deep.CutBlock
import Derived.Deep.MidRow
import Derived.Lib.AppendZeros
import Derived.Deep.RegionWith
import Derived.Great.Walk
import Derived.Deep.Slices
import Derived.Lib.SliceRun
import Derived.Maps.AppendAt
import Derived.Lib.Overlaps
import Derived.OrdersHeld
import Derived.Laws.StructEq
import Derived.ChangeKeysEq
import Derived.StringKeys
import Derived.Laws.Externs
import Derived.RangeFuncNested
import Derived.RangeFuncBound
import Derived.RangeFuncCalls
import Derived.RangeFuncLeaves
import Derived.Shelf.Abstract
import Derived.Shelf.RegionOpen
import Derived.OwnWalkIn
import Derived.TacticsInMore
import Derived.LoopNIn
import Derived.LoopIn
import Derived.RangeFuncFrom
import Derived.Test.YtangkcedgelegaaDoorWAC
import Derived.Test.YtangkcedgelegaaDoorWAD
namespace Go.Proofs.YtangkcedgelegaaDoor
set_option linter.all false
set_option maxRecDepth 100000
open Go.RowKit
set_option linter.unusedVariables false
theorem TabsD.tabs {base : Nat} {w : World} (h : TabsD base w) : Tabs w := h w (Below.refl _ _)
section
variable {P : Program} {ops : Array Oper} {S : World → Prop}
end
section
variable {w w' : World} {base base' q m : Nat} {v : Value} {D : DataW Unit} {L : List DItem} {S : Nat → Prop}
end
end Go.Proofs.YtangkcedgelegaaDoor

namespace Go.Proofs.YtangkcedgelegaaDoor
set_option linter.all false
set_option maxRecDepth 100000
open Go.RowKit
set_option linter.unusedVariables false
structure UtfI (I : DirI) where
  fold : ∀ {w : World} {b : Nat}, I.tb b w → b ≤ w.heap.size → ∀ {s : ByteArray}, s.size ≤ 1048576 → Calls Tryd.prog 19 #[.string s] w fun e w' => e = .returned (.string (foldT s)) ∧ Below w.heap.size w w'
  alike : ∀ {w : World} {b : Nat}, I.tb b w → b ≤ w.heap.size → ∀ {s t : ByteArray}, s.size ≤ 1048576 → t.size ≤ 1048576 → Calls Tryd.prog 20 #[.string s, .string t] w fun e w' => e = .returned (.bool (alk s t)) ∧ Below w.heap.size w w'
  ahead : ∀ {w : World} {b : Nat}, I.tb b w → b ≤ w.heap.size → ∀ {s t : ByteArray}, s.size ≤ 1048576 → t.size ≤ 1048576 → Calls Tryd.prog 16 #[.string s, .string t] w fun e w' => e = .returned (.bool (ahd s t)) ∧ Below w.heap.size w w'
section
variable {I : DirI} {w w' : World} {b q : Nat} {L : List DItem}
theorem HasD.works (h : HasD I w b q L) : Calls Tryd.prog 11 #[] w (StillD I w b q L (.bool true)) :=
  (works15_any I w (I.tbUp h.tb h.hb)).mono fun e w' he => h.still he
theorem HasD.fold (U : UtfI I) (h : HasD I w b q L) {s : ByteArray} (hs : s.size ≤ 1048576) : Calls Tryd.prog 19 #[.string s] w (StillD I w b q L (.string (foldT s))) :=
  (U.fold h.tb h.hb hs).mono fun e w' he => h.still he
theorem HasD.alike (U : UtfI I) (h : HasD I w b q L) {s t : ByteArray} (hs : s.size ≤ 1048576) (ht : t.size ≤ 1048576) : Calls Tryd.prog 20 #[.string s, .string t] w (StillD I w b q L (.bool (alk s t))) :=
  (U.alike h.tb h.hb hs ht).mono fun e w' he => h.still he
theorem HasD.ahead (U : UtfI I) (h : HasD I w b q L) {s t : ByteArray} (hs : s.size ≤ 1048576) (ht : t.size ≤ 1048576) : Calls Tryd.prog 16 #[.string s, .string t] w (StillD I w b q L (.bool (ahd s t))) :=
  (U.ahead h.tb h.hb hs ht).mono fun e w' he => h.still he
/-- a directory that was played -/
def PlayedD (I : DirI) (w : World) (L : List DItem) (e : Ending) (w' : World) : Prop :=
  ∃ q g, e = .returned (.tuple #[.pointer (some ⟨q, 0, none⟩), .pointer (some ⟨g, 0, none⟩), .bool true]) ∧ HasD I w' w.heap.size q L ∧ Below w.heap.size w w'
theorem playedD (I : DirI) (w : World) (A : Option Addr) (n c : Nat) (l : List DActV) (hl : LDAct 1048576 w w.heap.size A n c l) (hn : n ≤ 140737488355328) (htb : I.tb w.heap.size w) :
    Calls Tryd.prog 10 #[.slice A n c] w (PlayedD I w (dActs l (min n 60))) := by
  refine (DPlayed_any I w A n c l hl hn htb).mono ?_
  rintro e w' ⟨q, g, S, v, rfl, t, hb⟩
  exact ⟨q, g, rfl, t.has, hb⟩
end
end Go.Proofs.YtangkcedgelegaaDoor

namespace Go.Proofs.YtangkcedgelegaaDoor
set_option linter.all false
set_option maxRecDepth 100000
open Go.RowKit
set_option linter.unusedVariables false
theorem theUtf : UtfI theDir where
  fold := by
    intro w b tb hb s hs
    exact Fold1_any s w hs (TabsD.tabs tb)
  alike := by
    intro w b tb hb s t hs ht
    exact Alike1_any s t w hs ht (TabsD.tabs tb)
  ahead := by
    intro w b tb hb s t hs ht
    exact Ahead1_any s t w hs ht (TabsD.tabs tb)
end Go.Proofs.YtangkcedgelegaaDoor
