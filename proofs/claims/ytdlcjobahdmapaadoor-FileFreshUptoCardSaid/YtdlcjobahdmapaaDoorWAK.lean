import Derived.WalkKit
import Derived.Deep.Draws
import Derived.Laws.Rows
import Derived.Laws.OwnMore
import Derived.Test.YtdlcjobahdmapaaDoorRows
import Derived.Laws.CopyOwn
import Derived.Laws.AppendOwnNone
import Derived.Lib.Hide
import Derived.Laws.AppendOwn
import Derived.OwnWalk
import Derived.Lib.OthersKept
import Derived.Laws.BytesArg
import Derived.Laws.Tables
import Derived.Laws.NewFold
import Derived.Deep.WholeRow
import Derived.Deep.DeepCutAuto
import Derived.OneCell
import Derived.ProofKit
import Derived.OpenShut
import Derived.ShutString
import Derived.SizedLaws
import Derived.ChangeOld
import Derived.Deep.Strs
import Derived.Deep.MidRow
import Derived.Great.Walk
import Derived.OrdersHeld
import Derived.Laws.StructEq
import Derived.ChangeKeysEq
import Derived.Laws.Bits64
import Derived.Laws.BitsAllLaws
import Derived.WalkSpells
import Derived.WalkLawsBesides
import Derived.Deep.QuietTactic
import Derived.BigQuiet
import Derived.Lib.RuneBytes
import Derived.Lib.ValidLaws
import Derived.Shelf.Utf8.AppendRunePlain
import Derived.Shelf.Unicode.ValidAny
import Derived.Test.YtdlcjobahdmapaaDoorProg
import Derived.Lib.AppendZeros
import Derived.Deep.RegionWith
import Derived.Deep.RegionLaw
import Derived.Deep.OwnRows
import Derived.Test.YtdlcjobahdmapaaDoorWAD
import Derived.Test.YtdlcjobahdmapaaDoorWAF
import Derived.Test.YtdlcjobahdmapaaDoorWAG
import Derived.Test.YtdlcjobahdmapaaDoorWAH
namespace Go.Proofs.YtdlcjobahdmapaaDoor
set_option linter.all false
open Go.RowKit
section
variable {w w' : World} {B B' g : Nat} {T : TypeId} {cs : List Value} {a : AskV} {s : SayV} {vd vx vl ve : Value}
theorem scells_get (k : s.ok) (i : Nat) : (scells vx ve s)[10 + i]? = (stail vx ve s)[i]? := by
  unfold scells
  rw [show 10 + i = (8 + i) + 1 + 1 from by omega, List.getElem?_cons_succ, List.getElem?_cons_succ, List.getElem?_append_right (by rw [List.length_map, k.clen]; omega), List.length_map, k.clen]
  congr 1
  omega
end
end Go.Proofs.YtdlcjobahdmapaaDoor

namespace Go.Proofs.YtdlcjobahdmapaaDoor
set_option linter.all false
open Go.RowKit
set_option linter.unusedVariables false
theorem size_chal : (Tryd.prog.info? 41).map (·.size) = some 8 := by kernel_rfl
theorem guard_chal : Tryd.prog.eqGuardType Tryd.prog.depth 41 = false := by kernel_rfl
theorem scells_chal {vx ve : Value} {a : SayV} {w : World} {g : Nat} {T : TypeId} (h : Blk w g T (scells vx ve a)) (k : a.ok) : w.rangeAt g 2 (a.chal.map (Value.int .u8)) := fun j v hj => by
  rw [h.cell, show 2 + j = j + 1 + 1 from by omega]
  show (a.chal.map (Value.int .u8) ++ stail vx ve a)[j]? = some v
  rw [List.getElem?_append_left (List.getElem?_eq_some_iff.1 hj).1, hj]
end Go.Proofs.YtdlcjobahdmapaaDoor

namespace Go.Proofs.YtdlcjobahdmapaaDoor
set_option linter.all false
set_option linter.unusedVariables false
set_option maxRecDepth 100000
def besideFS (c : Int) (s : SayV) : SayV :=
  if c = 5 then { s with lev := 0, dur := 0, made := 0, file := 0, siz := 0, kind := 0 }
  else if c = 8 then { s with data := [] }
  else if c = 9 then { s with n := 0 }
  else s
def wantFS (c : Int) (s : SayV) : SayV :=
  if c = 5 then { zeroSay with lev := s.lev, dur := s.dur, made := s.made, file := s.file, siz := s.siz, kind := s.kind }
  else if c = 8 then { zeroSay with data := s.data }
  else if c = 9 then { zeroSay with n := s.n }
  else zeroSay
def nameFS (c : Int) (s : SayV) : Bool := knownF c && decide (besideFS c s = zeroSay)
def fsErr (c : Int) (s : SayV) : Int := if nameFS c s = true ∧ s.made ≤ 2 ∧ s.kind ≤ 2 then (if s.data.length ≤ 32768 then 0 else 3) else 2
def bodyFS (c : Int) (s : SayV) : List Int :=
  if c = 5 then le s.lev 1 ++ (le s.dur 1 ++ (le s.made 2 ++ (le s.file 8 ++ (le s.siz 8 ++ (le s.kind 2 ++ List.replicate 2 0)))))
  else if c = 8 then le s.data.length 4 ++ s.data
  else if c = 9 then le s.n 4
  else List.replicate 4 0
def fsOf (c : Int) (s : SayV) : List Int := if fsErr c s = 0 then bodyFS c s else []
end Go.Proofs.YtdlcjobahdmapaaDoor

namespace Go.Proofs.YtdlcjobahdmapaaDoor
set_option linter.all false
open Go.RowKit
set_option linter.unusedVariables false
set_option maxRecDepth 100000
theorem besideFS_want (c : Int) (s : SayV) : besideFS c s = zeroSay ↔ wantFS c s = s := by
  obtain ⟨a1, a2, a3, a4, a5, a6, a7, a8, a9, a10, a11, a12, a13⟩ := s
  unfold besideFS wantFS
  split
  · simp only [zeroSay, SayV.mk.injEq]
    constructor <;> (intro h; obtain ⟨h1, h2, h3, h4, h5, h6, h7, h8, h9, h10, h11, h12, h13⟩ := h; subst_vars; simp)
  · split
    · simp only [zeroSay, SayV.mk.injEq]
      constructor <;> (intro h; obtain ⟨h1, h2, h3, h4, h5, h6, h7, h8, h9, h10, h11, h12, h13⟩ := h; subst_vars; simp)
    · split
      · simp only [zeroSay, SayV.mk.injEq]
        constructor <;> (intro h; obtain ⟨h1, h2, h3, h4, h5, h6, h7, h8, h9, h10, h11, h12, h13⟩ := h; subst_vars; simp)
      · exact eq_comm
end Go.Proofs.YtdlcjobahdmapaaDoor
