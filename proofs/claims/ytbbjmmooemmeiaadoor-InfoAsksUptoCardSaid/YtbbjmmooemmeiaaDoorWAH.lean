import Derived.WalkKit
import Derived.Deep.Draws
import Derived.Laws.Rows
import Derived.Laws.OwnMore
import Derived.Test.YtbbjmmooemmeiaaDoorRows
import Derived.ProofKit
import Derived.OpenShut
import Derived.ShutString
import Derived.SizedLaws
import Derived.ChangeOld
import Derived.Lib.RuneBytes
import Derived.Lib.ValidLaws
import Derived.Laws.CopyOwn
import Derived.Laws.AppendOwnNone
import Derived.Lib.Hide
import Derived.Laws.AppendOwn
import Derived.OwnWalk
import Derived.Lib.OthersKept
import Derived.Laws.BytesArg
import Derived.Shelf.Utf8.AppendRunePlain
import Derived.Shelf.Unicode.ValidAny
import Derived.Test.YtbbjmmooemmeiaaDoorProg
import Derived.WalkSpells
import Derived.WalkLawsBesides
import Derived.Deep.QuietTactic
import Derived.BigQuiet
import Derived.Laws.Bits64
import Derived.Laws.BitsAllLaws
import Derived.Lib.AppendZeros
import Derived.Deep.RegionWith
import Derived.Deep.DeepCutAuto
import Derived.Great.Walk
import Derived.Laws.Tables
import Derived.Laws.NewFold
import Derived.Deep.WholeRow
import Derived.Deep.MidRow
import Derived.OneCell
import Derived.Deep.Strs
import Derived.OrdersHeld
import Derived.Laws.StructEq
import Derived.ChangeKeysEq
import Derived.Deep.RegionLaw
import Derived.Deep.OwnRows
import Derived.Test.YtbbjmmooemmeiaaDoorWAD
namespace Go.Proofs.YtbbjmmooemmeiaaDoor
set_option linter.all false
open Go.RowKit Go.ChangeShapes Go.WideShapes
section
variable {H : Type} {enc : TypeId × Value → H} {P : Program} {W : World} {base : Nat} {t e : TypeId} {v : Value} {d : DataW H} {p : List MemPlace}
theorem int_bounds_u8 {x : Int} (h : (Lit.int .u8 x).wf = true) : 0 ≤ x ∧ x ≤ 255 := by simpa [Lit.wf, IntKind.min, IntKind.max, IntKind.signed, IntKind.bits] using h
theorem int_bounds_u32 {x : Int} (h : (Lit.int .u32 x).wf = true) : 0 ≤ x ∧ x ≤ 4294967295 := by simpa [Lit.wf, IntKind.min, IntKind.max, IntKind.signed, IntKind.bits] using h
theorem int_bounds_u64 {x : Int} (h : (Lit.int .u64 x).wf = true) : 0 ≤ x ∧ x ≤ 18446744073709551615 := by simpa [Lit.wf, IntKind.min, IntKind.max, IntKind.signed, IntKind.bits] using h
theorem int_bounds_i64 {x : Int} (h : (Lit.int .i64 x).wf = true) : -9223372036854775808 ≤ x ∧ x ≤ 9223372036854775807 := by simpa [Lit.wf, IntKind.min, IntKind.max, IntKind.signed, IntKind.bits] using h
end
end Go.Proofs.YtbbjmmooemmeiaaDoor

namespace Go.Proofs.YtbbjmmooemmeiaaDoor
set_option linter.all false
set_option linter.unusedVariables false
set_option maxRecDepth 100000
def c8 (xs : List Int) := rdN xs 8 (c7 xs)
def c9 (xs : List Int) := rdText xs (c8 xs).2
end Go.Proofs.YtbbjmmooemmeiaaDoor

namespace Go.Proofs.YtbbjmmooemmeiaaDoor
set_option linter.all false
open Go.RowKit Go.ChangeShapes Go.WideShapes
set_option linter.unusedVariables false
section
variable {H : Type} {enc : TypeId × Value → H} {P : Program} {W : World} {base : Nat} {t e : TypeId} {v : Value} {d : DataW H} {p : List MemPlace}
theorem bulk_mem {l : List (DataW H)} {x : DataW H} (h : x ∈ l) : Rows.uptoBulk x ≤ Rows.uptoBulkAll l := by
  induction l with
  | nil => cases h
  | cons y r ih =>
    simp only [Rows.uptoBulkAll]
    rcases List.mem_cons.1 h with rfl | h
    · omega
    · have := ih h; omega
theorem bulk_agg {l : List (DataW H)} {x : DataW H} (h : x ∈ l) : Rows.uptoBulk x < Rows.uptoBulk (.agg l) := by
  have := bulk_mem h
  simp only [Rows.uptoBulk]
  omega
/-- a slice of numbers among the cells: all of its room -/
theorem trod_ints {k : IntKind} {fuel : Nat} {cs : List Value} {x : DataW H × List MemPlace} (ht : P.underlying t = some (.slice e)) (he : P.underlying e = some (.int k)) (hc : P.cellsOf e = 1)
    (hf : DataW.trod enc P W 0 (fun _ => true) true fuel t cs = some x) :
    ∃ A n c zs, cs = [.slice A n c] ∧ n ≤ c ∧ c < Rows.uptoBulk x.1 ∧ HoldsF (Value.int k) W W.heap.size A c c zs ∧ ∀ z ∈ zs, (Lit.int k z).wf = true := by
  rcases open_ints ht he hc hf with ⟨hcs, hx⟩ | ⟨y, l, cp, zs, hcs, _, hl, hm, hz, hx, hcell, hwz⟩
  · exact ⟨none, 0, 0, [], hcs, Nat.le_refl _, bulk_one_le _, HoldsF.nil _ _ _, fun z h => by cases h⟩
  · subst hx
    simp only [if_true] at hz
    refine ⟨some y, l, cp, zs, hcs, hl, ?_, ⟨hz, Nat.le_refl _, (fun hA => by cases hA), fun h0 => ?_⟩, hwz⟩
    · have h1 := bulk_length_le (lits (H := H) k (zs.take l))
      have h2 := bulk_length_le (lits (H := H) k (zs.drop l))
      rw [show (lits (H := H) k (zs.take l)).length = (zs.take l).length from by simp [lits], List.length_take] at h1
      rw [show (lits (H := H) k (zs.drop l)).length = (zs.drop l).length from by simp [lits], List.length_drop] at h2
      simp only [Rows.uptoBulk]
      omega
    · obtain ⟨b, off, spot⟩ := y
      have h1 := hcell 0 (by omega)
      have hspot : spot = none := by simpa [Addr.add] using World.cell?_spot h1
      subst hspot
      refine ⟨b, off, rfl, ?_, fun i z hi => ?_⟩
      · have := World.block_lt_of_cell? W _ h1
        simpa [Addr.add] using this
      · have hil := (List.getElem?_eq_some_iff.1 hi).1
        have h2 := hcell i (by omega)
        have ea : (⟨b, off, none⟩ : Addr).add i = ⟨b, off + i, none⟩ := by
          by_cases hj0 : i = 0
          · subst hj0; simp [Addr.add]
          · simp [Addr.add, hj0]
        rw [ea] at h2
        rw [h2]
        congr 2
        simp [List.getD_eq_getElem?_getD, hi]
end
end Go.Proofs.YtbbjmmooemmeiaaDoor

namespace Go.Proofs.YtbbjmmooemmeiaaDoor
set_option linter.all false
open Go.RowKit Go.ChangeShapes Go.WideShapes
set_option linter.unusedVariables false
set_option maxRecDepth 100000
section
variable {H : Type} {enc : TypeId × Value → H} {W : World} {base : Nat} {v : Value} {d : DataW H} {p : List MemPlace}
instance : Inhabited LockV := ⟨⟨0, 0, 0, 0⟩⟩
instance : Inhabited EntryV := ⟨⟨.empty, 0, 0⟩⟩
theorem drop_cons1 {l : List Value} {i : Nat} {a : Value} (h : (l.drop i).take 1 = [a]) : l.drop i = a :: l.drop (i + 1) := by
  have e : l.drop (i + 1) = (l.drop i).drop 1 := by rw [List.drop_drop]
  rw [e]
  cases hq : l.drop i with
  | nil => rw [hq] at h; cases h
  | cons u r => rw [hq] at h; simp at h; rw [h]; rfl
theorem one_num {P : Program} {t : TypeId} {k : IntKind} {fuel : Nat} {cs : List Value} {y : Option (DataW H × List MemPlace)} (he : P.underlying t = some (.int k)) (hy : y.isSome = true)
    (hf : DataW.trod enc P W 0 (fun _ => true) true fuel t cs = y) : ∃ x, cs = [.int k x] ∧ (Lit.int k x).wf = true := by
  obtain ⟨z, rfl⟩ := Option.isSome_iff_exists.1 hy
  obtain ⟨x, e0, _, wx⟩ := DataW.trod_int he hf
  exact ⟨x, e0, wx⟩
end
end Go.Proofs.YtbbjmmooemmeiaaDoor

namespace Go.Proofs.YtbbjmmooemmeiaaDoor
set_option linter.all false
open Go.RowKit Go.ChangeShapes Go.WideShapes
section
variable {H : Type} {enc : TypeId × Value → H} {P : Program} {W : World} {base : Nat} {t e : TypeId} {v : Value} {d : DataW H} {p : List MemPlace}
/-- the cells of an array of numbers -/
theorem trod_arr {k : IntKind} {m b fuel : Nat} {sp : Nat → Bool} {hd : Bool} {l : List Value} {x : DataW H × List MemPlace} (ht : P.underlying t = some (.array m e)) (he : P.underlying e = some (.int k)) (hc : P.cellsOf e = 1) (hl : l.length = m)
    (hf : DataW.trod enc P W b sp hd fuel t l = some x) : ∃ xs : List Int, l = xs.map (Value.int k) ∧ ∀ x ∈ xs, (Lit.int k x).wf = true := by
  obtain ⟨ys, n, _, _, hlc, hyl, hel⟩ := DataW.trod_array ht hf
  rw [hc] at hel
  have each : ∀ i (h : i < l.length), ∃ x, l[i] = .int k x ∧ (Lit.int k x).wf = true := by
    intro i hi
    have h1 := hel i (by omega)
    rw [Nat.mul_one] at h1
    rw [List.drop_eq_getElem_cons hi, List.take_succ_cons, List.take_zero] at h1
    have hy : i < ys.length := by omega
    rw [List.getElem?_eq_getElem hy] at h1
    obtain ⟨x, e0, _, wx⟩ := DataW.trod_int he h1
    exact ⟨x, by simpa using e0, wx⟩
  clear hf hel hl hlc hyl
  induction l with
  | nil => exact ⟨[], rfl, fun _ h => by cases h⟩
  | cons u r ih =>
    obtain ⟨x, hx, wx⟩ := each 0 (by simp)
    obtain ⟨xs, hr, hw⟩ := ih fun i hi => by
      have := each (i + 1) (by simpa using hi)
      simpa using this
    refine ⟨x :: xs, by rw [hr]; simpa using hx, fun y hy => ?_⟩
    rcases List.mem_cons.1 hy with rfl | hy
    · exact wx
    · exact hw y hy
end
end Go.Proofs.YtbbjmmooemmeiaaDoor

namespace Go.Proofs.YtbbjmmooemmeiaaDoor
set_option linter.all false
open Go.RowKit Go.ChangeShapes Go.WideShapes
set_option linter.unusedVariables false
section
variable {H : Type} {enc : TypeId × Value → H} {W : World} {base : Nat} {v : Value} {d : DataW H} {p : List MemPlace}
theorem holds_of_F {w : World} {B : Nat} {A : Option Addr} {n c : Nat} {xs : List Int} (h : HoldsF (Value.int .u8) w B A n c xs) (hr : n ≤ 281474976710656) (hb : Bytes xs) : Holds w B A n c xs :=
  ⟨h.len, h.fit, hr, hb, h.bare, fun h0 => by
    obtain ⟨b, off, e1, e2, e3⟩ := h.cells h0
    refine ⟨b, off, e1, e2, fun i hi => ?_⟩
    have hil : i < xs.length := by rw [h.len]; exact hi
    rw [e3 i xs[i] (List.getElem?_eq_getElem hil)]
    simp [List.getD_eq_getElem?_getD, hil]⟩
end
end Go.Proofs.YtbbjmmooemmeiaaDoor
