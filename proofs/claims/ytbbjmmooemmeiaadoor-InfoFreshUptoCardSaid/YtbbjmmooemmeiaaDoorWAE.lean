import Derived.WalkKit
import Derived.Deep.Draws
import Derived.Laws.Rows
import Derived.Laws.OwnMore
import Derived.Lib.RuneBytes
import Derived.Lib.ValidLaws
import Derived.Test.YtbbjmmooemmeiaaDoorRows
import Derived.Laws.CopyOwn
import Derived.Laws.AppendOwnNone
import Derived.Lib.Hide
import Derived.Laws.AppendOwn
import Derived.OwnWalk
import Derived.Lib.OthersKept
import Derived.Laws.BytesArg
import Derived.Shelf.Utf8.AppendRunePlain
import Derived.Shelf.Unicode.ValidAny
import Derived.Test.YtbbjmmooemmeiaaDoorProg
import Derived.WalkSpells
import Derived.WalkLawsBesides
import Derived.Deep.QuietTactic
import Derived.BigQuiet
import Derived.Laws.Bits64
import Derived.Laws.BitsAllLaws
import Derived.ProofKit
import Derived.OpenShut
import Derived.ShutString
import Derived.SizedLaws
import Derived.ChangeOld
import Derived.Lib.AppendZeros
import Derived.Deep.RegionWith
import Derived.Deep.DeepCutAuto
import Derived.Great.Walk
import Derived.Laws.Tables
import Derived.Laws.NewFold
import Derived.Deep.WholeRow
import Derived.Deep.MidRow
import Derived.OneCell
import Derived.Deep.Strs
import Derived.OrdersHeld
import Derived.Laws.StructEq
import Derived.ChangeKeysEq
import Derived.Deep.RegionLaw
import Derived.Deep.OwnRows
import Derived.Test.YtbbjmmooemmeiaaDoorWAD
namespace Go.Proofs.YtbbjmmooemmeiaaDoor
set_option linter.all false
set_option linter.unusedVariables false
set_option linter.unusedSimpArgs false
set_option maxRecDepth 100000
/-- an Ask with just what its command's row names -/
def wantI (c : Int) (a : AskV) : AskV :=
  if c = 14 then { zeroAsk with file := a.file, most := a.most, pat := a.pat, aft := a.aft }
  else if c = 16 then { zeroAsk with file := a.file }
  else if c = 17 then (if a.cls = 1 then { zeroAsk with file := a.file, cls := a.cls, siz := a.siz } else if a.cls = 2 then { zeroAsk with file := a.file, cls := a.cls, on := a.on } else { zeroAsk with file := a.file, cls := a.cls, on := a.on, name := a.name })
  else if c = 18 then { zeroAsk with file := a.file, lev := a.lev }
  else zeroAsk
end Go.Proofs.YtbbjmmooemmeiaaDoor

namespace Go.Proofs.YtbbjmmooemmeiaaDoor
set_option linter.all false
set_option linter.unusedVariables false
set_option linter.unusedSimpArgs false
set_option maxRecDepth 100000
/-! ### what is not named is zero -/
theorem besideI_want (c : Int) (a : AskV) : besideI c a = zeroAsk ↔ wantI c a = a := by
  obtain ⟨a1, a2, a3, a4, a5, a6, a7, a8, a9, a10, a11, a12, a13, a14, a15, a16, a17, a18, a19, a20, a21, a22, a23⟩ := a
  unfold besideI wantI
  split
  · simp only [zeroAsk, AskV.mk.injEq]
    constructor <;> (intro h; obtain ⟨h1, h2, h3, h4, h5, h6, h7, h8, h9, h10, h11, h12, h13, h14, h15, h16, h17, h18, h19, h20, h21, h22, h23⟩ := h; subst_vars; simp)
  · split
    · simp only [zeroAsk, AskV.mk.injEq]
      constructor <;> (intro h; obtain ⟨h1, h2, h3, h4, h5, h6, h7, h8, h9, h10, h11, h12, h13, h14, h15, h16, h17, h18, h19, h20, h21, h22, h23⟩ := h; subst_vars; simp)
    · split
      · split
        · simp only [zeroAsk, AskV.mk.injEq]
          constructor <;> (intro h; obtain ⟨h1, h2, h3, h4, h5, h6, h7, h8, h9, h10, h11, h12, h13, h14, h15, h16, h17, h18, h19, h20, h21, h22, h23⟩ := h; subst_vars; simp)
        · split
          · simp only [zeroAsk, AskV.mk.injEq]
            constructor <;> (intro h; obtain ⟨h1, h2, h3, h4, h5, h6, h7, h8, h9, h10, h11, h12, h13, h14, h15, h16, h17, h18, h19, h20, h21, h22, h23⟩ := h; subst_vars; simp)
          · simp only [zeroAsk, AskV.mk.injEq]
            constructor <;> (intro h; obtain ⟨h1, h2, h3, h4, h5, h6, h7, h8, h9, h10, h11, h12, h13, h14, h15, h16, h17, h18, h19, h20, h21, h22, h23⟩ := h; subst_vars; simp)
      · split
        · simp only [zeroAsk, AskV.mk.injEq]
          constructor <;> (intro h; obtain ⟨h1, h2, h3, h4, h5, h6, h7, h8, h9, h10, h11, h12, h13, h14, h15, h16, h17, h18, h19, h20, h21, h22, h23⟩ := h; subst_vars; simp)
        · exact eq_comm
end Go.Proofs.YtbbjmmooemmeiaaDoor
