import Derived.WalkKit
import Derived.Deep.Draws
import Derived.Laws.Rows
import Derived.Laws.OwnMore
import Derived.Lib.RuneBytes
import Derived.Lib.ValidLaws
import Derived.Test.YtdlcjobahdmapaaDoorRows
import Derived.Laws.CopyOwn
import Derived.Laws.AppendOwnNone
import Derived.Lib.Hide
import Derived.Laws.AppendOwn
import Derived.OwnWalk
import Derived.Lib.OthersKept
import Derived.Laws.BytesArg
import Derived.Shelf.Utf8.AppendRunePlain
import Derived.Shelf.Unicode.ValidAny
import Derived.Test.YtdlcjobahdmapaaDoorProg
import Derived.WalkSpells
import Derived.WalkLawsBesides
import Derived.Deep.QuietTactic
import Derived.BigQuiet
import Derived.Laws.Bits64
import Derived.Laws.BitsAllLaws
import Derived.ProofKit
import Derived.OpenShut
import Derived.ShutString
import Derived.SizedLaws
import Derived.ChangeOld
import Derived.Lib.AppendZeros
import Derived.Deep.RegionWith
import Derived.Deep.DeepCutAuto
import Derived.Great.Walk
import Derived.Laws.Tables
import Derived.Laws.NewFold
import Derived.Deep.WholeRow
import Derived.Deep.MidRow
import Derived.OneCell
import Derived.Deep.Strs
import Derived.OrdersHeld
import Derived.Laws.StructEq
import Derived.ChangeKeysEq
import Derived.Deep.RegionLaw
import Derived.Deep.OwnRows
import Derived.Test.YtdlcjobahdmapaaDoorWAD
namespace Go.Proofs.YtdlcjobahdmapaaDoor
set_option linter.all false
set_option linter.unusedVariables false
set_option maxRecDepth 100000
/-- an Ask with just what its command's row names -/
def wantF (c : Int) (a : AskV) : AskV :=
  if c = 5 then { zeroAsk with acc := a.acc, shr := a.shr, way := a.way, opt := a.opt, lev := a.lev, dur := a.dur, name := a.name, file := a.file }
  else if c = 8 then { zeroAsk with at_ := a.at_, n := a.n, file := a.file }
  else if c = 9 then { zeroAsk with at_ := a.at_, data := a.data, file := a.file }
  else if c = 10 then { zeroAsk with locks := a.locks, file := a.file }
  else { zeroAsk with file := a.file }
end Go.Proofs.YtdlcjobahdmapaaDoor

namespace Go.Proofs.YtdlcjobahdmapaaDoor
set_option linter.all false
open Go.RowKit
set_option linter.unusedVariables false
set_option maxRecDepth 100000
/-! ### what is not named is zero -/
theorem besideF_want (c : Int) (a : AskV) : besideF c a = zeroAsk ↔ wantF c a = a := by
  obtain ⟨a1, a2, a3, a4, a5, a6, a7, a8, a9, a10, a11, a12, a13, a14, a15, a16, a17, a18, a19, a20, a21, a22, a23⟩ := a
  unfold besideF wantF
  split
  · simp only [zeroAsk, AskV.mk.injEq]
    constructor <;> (intro h; obtain ⟨h1, h2, h3, h4, h5, h6, h7, h8, h9, h10, h11, h12, h13, h14, h15, h16, h17, h18, h19, h20, h21, h22, h23⟩ := h; subst_vars; simp)
  · split
    · simp only [zeroAsk, AskV.mk.injEq]
      constructor <;> (intro h; obtain ⟨h1, h2, h3, h4, h5, h6, h7, h8, h9, h10, h11, h12, h13, h14, h15, h16, h17, h18, h19, h20, h21, h22, h23⟩ := h; subst_vars; simp)
    · split
      · simp only [zeroAsk, AskV.mk.injEq]
        constructor <;> (intro h; obtain ⟨h1, h2, h3, h4, h5, h6, h7, h8, h9, h10, h11, h12, h13, h14, h15, h16, h17, h18, h19, h20, h21, h22, h23⟩ := h; subst_vars; simp)
      · split
        · simp only [zeroAsk, AskV.mk.injEq]
          constructor <;> (intro h; obtain ⟨h1, h2, h3, h4, h5, h6, h7, h8, h9, h10, h11, h12, h13, h14, h15, h16, h17, h18, h19, h20, h21, h22, h23⟩ := h; subst_vars; simp)
        · simp only [zeroAsk, AskV.mk.injEq]
          constructor <;> (intro h; obtain ⟨h1, h2, h3, h4, h5, h6, h7, h8, h9, h10, h11, h12, h13, h14, h15, h16, h17, h18, h19, h20, h21, h22, h23⟩ := h; subst_vars; simp)
theorem fp_parts {c : Int} {a : AskV} (h : fpErr c a = 0) : knownF c = true ∧ wantF c a = a ∧ shut a.locks = true ∧ a.data.length ≤ 32768 ∧ a.locks.length ≤ 16 ∧ (c = 5 → ptextErr a.name.data.toList = 0) ∧ fpOf c a = bodyF c a := by
  have h0 := h
  unfold fpErr at h
  by_cases h1 : nameF c a = true
  · rw [if_pos h1] at h
    by_cases h2 : a.data.length ≤ 32768 ∧ a.locks.length ≤ 16
    · rw [if_pos h2] at h
      unfold nameF at h1
      simp only [Bool.and_eq_true, decide_eq_true_eq] at h1
      refine ⟨h1.1, (besideF_want c a).1 h1.2.1, h1.2.2, h2.1, h2.2, fun h5 => by rw [if_pos h5] at h; exact h, by unfold fpOf; rw [if_pos h0]⟩
    · rw [if_neg h2] at h; exact absurd h (by decide)
  · rw [if_neg h1] at h; exact absurd h (by decide)
end Go.Proofs.YtdlcjobahdmapaaDoor
