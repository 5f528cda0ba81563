import Derived.WalkKit
import Derived.Deep.Draws
import Derived.Laws.Rows
import Derived.Laws.OwnMore
import Derived.Test.YtdlcjobahdmapaaDoorRows
import Derived.Laws.CopyOwn
import Derived.Laws.AppendOwnNone
import Derived.Lib.Hide
import Derived.Laws.AppendOwn
import Derived.OwnWalk
import Derived.Lib.OthersKept
import Derived.Laws.BytesArg
import Derived.ProofKit
import Derived.OpenShut
import Derived.ShutString
import Derived.SizedLaws
import Derived.ChangeOld
import Derived.Lib.AppendZeros
import Derived.Deep.RegionWith
import Derived.Deep.DeepCutAuto
import Derived.Great.Walk
import Derived.WalkSpells
import Derived.WalkLawsBesides
import Derived.Deep.QuietTactic
import Derived.BigQuiet
import Derived.Laws.Tables
import Derived.Laws.NewFold
import Derived.Deep.WholeRow
import Derived.Deep.MidRow
import Derived.OneCell
import Derived.Deep.Strs
import Derived.Lib.RuneBytes
import Derived.Lib.ValidLaws
import Derived.Shelf.Utf8.AppendRunePlain
import Derived.Shelf.Unicode.ValidAny
import Derived.Test.YtdlcjobahdmapaaDoorProg
import Derived.Laws.Bits64
import Derived.Laws.BitsAllLaws
import Derived.Deep.RegionLaw
import Derived.Test.YtdlcjobahdmapaaDoorWAD
import Derived.Test.YtdlcjobahdmapaaDoorWAF
namespace Go.Proofs.YtdlcjobahdmapaaDoor
set_option linter.all false
open Go.RowKit
section
variable {w w' : World} {B B' : Nat} {A : Option Addr} {n c : Nat} {xs : List Int}
theorem Holds.drewN (h : Holds w B A n c xs) (k : Nat) : Holds (w.drewN k) B A n c xs := h.keep fun _ _ => rfl
end
theorem drewed (w : World) (k : Nat) : Below w.heap.size w (w.drewN k) := ⟨rfl, rfl, rfl, Nat.le_refl _, fun _ _ => rfl⟩
end Go.Proofs.YtdlcjobahdmapaaDoor

namespace Go.Proofs.YtdlcjobahdmapaaDoor
set_option linter.all false
open Go.RowKit
section
variable {w w' : World} {g B base : Nat} {xs : List Int}
theorem Row.drewN (h : Row w g xs) (k : Nat) : Row (w.drewN k) g xs := h
end
end Go.Proofs.YtdlcjobahdmapaaDoor

namespace Go.Proofs.YtdlcjobahdmapaaDoor
set_option linter.all false
open Go.RowKit
set_option maxRecDepth 100000
theorem Parts.drewN {w : World} {gs m : Nat} {A : Nat → Option Addr} {n c : Nat → Nat} {X : Nat → List Int} (h : Parts w gs m A n c X) (d : Nat) : Parts (w.drewN d) gs m A n c X := h.over (drewed w d)
section
variable {ops : Array Oper} {rest : List Oper} {o : Oper} {a : Act} {w : World} {Q : Exit → Act → World → Prop}
end
end Go.Proofs.YtdlcjobahdmapaaDoor

namespace Go.Proofs.YtdlcjobahdmapaaDoor
set_option linter.all false
open Go.RowKit
theorem take_eq_step {xs ys : List Int} {k : Nat} (hx : k < xs.length) (hy : k < ys.length) (h : xs.take k = ys.take k) (he : xs.getD k 0 = ys.getD k 0) : xs.take (k + 1) = ys.take (k + 1) := by
  rw [List.take_succ_eq_append_getElem hx, List.take_succ_eq_append_getElem hy, h]
  have e : xs[k] = ys[k] := by simpa [List.getD_eq_getElem?_getD, hx, hy] using he
  rw [e]
theorem ne_of_getD {xs ys : List Int} {k : Nat} (he : ¬ xs.getD k 0 = ys.getD k 0) : decide (xs = ys) = false := by
  rw [decide_eq_false_iff_not]
  rintro rfl
  exact he rfl
theorem eq_of_take {xs ys : List Int} {n : Nat} (hx : xs.length = n) (hy : ys.length = n) (h : xs.take n = ys.take n) : decide (xs = ys) = true := by
  rw [decide_eq_true_iff]
  rwa [List.take_of_length_le (by omega), List.take_of_length_le (by omega)] at h
set_option maxHeartbeats 400000 in
theorem Same_any (w : World) (B B' : Nat) (A A' : Option Addr) (n c n' c' : Nat) (xs ys : List Int) (h : Holds w B A n c xs) (h' : Holds w B' A' n' c' ys) :
    Calls Tryd.prog 14 #[.slice A n c, .slice A' n' c'] w fun e w' => e = .returned (.bool (decide (xs = ys))) ∧ ∃ k, w.drewN k = w' := by
  have hl := h.len
  have hl' := h'.len
  have hf := h.fit
  have hr := h.room
  have hf' := h'.fit
  have hr' := h'.room
  by_cases hn : n = n'
  · subst hn
    have HL := Lib.hid hl
    have HL' := Lib.hid hl'
    clear hl hl'
    go_enter Tryd.func14, Tryd.ntmps14
    go_wp2
    go_loopw [5] (fun i wr => ∃ k : Nat, k ≤ n ∧ i = .int .i64 k ∧ Hid (xs.take k = ys.take k) ∧ ∃ j, wr = w.drewN j) (fun i _ => n - (intOf i).toNat)
    case atStart => exact ⟨0, Nat.zero_le _, rfl, by simp [Hid], 0, rfl⟩
    case round =>
      obtain ⟨k, hk, rfl, HT, j, rfl⟩ := hrel
      by_cases hlt : k < n
      · obtain ⟨b, off, rfl, hb, hc⟩ := h.cells (by omega)
        obtain ⟨b', off', rfl, hb', hc'⟩ := h'.cells (by omega)
        have gc := hc k hlt
        have gc' := hc' k hlt
        clear hc hc'
        obtain ⟨x, hx⟩ : ∃ x, x = xs.getD k 0 := ⟨_, rfl⟩
        obtain ⟨y, hy⟩ : ∃ y, y = ys.getD k 0 := ⟨_, rfl⟩
        rw [← hx] at gc
        rw [← hy] at gc'
        have HX := Lib.hid hx
        have HY := Lib.hid hy
        clear hx hy
        by_cases he : x = y
        · have hS : Hid (xs.take (k + 1) = ys.take (k + 1)) := take_eq_step (by have := HL.out; omega) (by have := HL'.out; omega) HT.out (by rw [← HX.out, ← HY.out, he])
          clear HX HY HT
          subst he
          have hb0 : (x != x) = false := by simp
          go_wp2
          go_quiet (fail)
          go_wp2
          go_roundw
          case rel => exact ⟨k + 1, by omega, by go_num, hS, _, rfl⟩
          case measure => simp [intOf]; omega
        · have hS := Lib.hid (ne_of_getD (xs := xs) (ys := ys) (k := k) (by rw [← HX.out, ← HY.out]; exact he))
          clear HX HY HT
          have hb0 : (x != y) = true := by simpa using he
          clear he
          go_wp2
          go_quiet (fail)
          go_wp2
          go_ret
          exact ⟨ret_bool hS.out.symm, _, (World.drewN_drewN ..).symm⟩
      · have hS := Lib.hid (eq_of_take (n := n) HL.out HL'.out (by have := HT.out; rwa [show k = n from by omega] at this))
        clear HT
        go_wp2
        go_ret
        exact ⟨ret_bool hS.out.symm, _, rfl⟩
  · have e1 : decide (xs = ys) = false := by
      rw [decide_eq_false_iff_not]
      rintro rfl
      omega
    have hne : ((n : Int) == (n' : Int)) = false := by simp; omega
    have hne' : ((n : Int) != (n' : Int)) = true := by simp; omega
    rw [e1]
    clear e1 hl hl'
    go_enter Tryd.func14, Tryd.ntmps14
    go_wp2
    go_ret
    exact ⟨rfl, 0, rfl⟩
end Go.Proofs.YtdlcjobahdmapaaDoor

namespace Go.Proofs.YtdlcjobahdmapaaDoor
set_option linter.all false
open Go.RowKit
section
variable {w w' w2 : World} {g h B : Nat} {k k' : IntKind} {T T' : TypeId} {xs ys : List Int}
theorem Only.drewN (a : Only g w w') (n : Nat) : Only g w (w'.drewN n) := a.trans ⟨rfl, rfl, rfl, rfl, fun _ _ => rfl⟩
theorem Arr.drewN (h : Arr w g k T xs) (n : Nat) : Arr (w.drewN n) g k T xs := h
end
section
variable {P : Program} {ops : Array Oper} {rest : List Oper} {o : Oper} {a : Act} {w : World} {Q : Exit → Act → World → Prop}
end
end Go.Proofs.YtdlcjobahdmapaaDoor

namespace Go.Proofs.YtdlcjobahdmapaaDoor
set_option linter.all false
open Go.RowKit
section
variable {w w' w2 : World} {g g' B : Nat} {T T' : TypeId} {cs cs' : List Value} {h h' : Hd} {k : IntKind} {xs : List Int}
theorem Blk.drewN (a : Blk w g T cs) (n : Nat) : Blk (w.drewN n) g T cs := a
end
section
variable {P : Program} {ops : Array Oper} {rest : List Oper} {o : Oper} {a : Act} {w : World} {Q : Exit → Act → World → Prop}
end
end Go.Proofs.YtdlcjobahdmapaaDoor

namespace Go.Proofs.YtdlcjobahdmapaaDoor
set_option linter.all false
open Go.RowKit Go.ChangeShapes Go.WideShapes
section
variable {α : Type} {f : α → List Value} {s : Nat} {w w' w2 : World} {B B' base base' b : Nat} {A : Option Addr} {n c : Nat} {xs ys : List α} {e e' T : TypeId} {v v' u : Value}
theorem HoldsS.drewN (h : HoldsS f s w B A n c xs) (k : Nat) : HoldsS f s (w.drewN k) B A n c xs := h.keep fun _ _ => rfl
theorem HoldsF.drewN {f : α → Value} (h : HoldsF f w B A n c xs) (k : Nat) : HoldsF f (w.drewN k) B A n c xs := h.keep fun _ _ => rfl
end
section
variable {α : Type} {f : α → List Value} {s : Nat} {P : Program} {w : World} {ops : Array Oper} {rest : List Oper} {o : Oper} {a : Act} {Q : Exit → Act → World → Prop}
end
end Go.Proofs.YtdlcjobahdmapaaDoor

namespace Go.Proofs.YtdlcjobahdmapaaDoor
set_option linter.all false
open Go.RowKit
section
variable {w w' : World} {B B' g : Nat} {T : TypeId} {cs : List Value} {a : AskV} {s : SayV} {vd vx vl ve : Value}
theorem AskIs.drewN (h : AskIs w B cs a) (k : Nat) : AskIs (w.drewN k) B cs a := h.keep fun _ _ => rfl
theorem SayIs.drewN (h : SayIs w B cs s) (k : Nat) : SayIs (w.drewN k) B cs s := h.keep fun _ _ => rfl
end
end Go.Proofs.YtdlcjobahdmapaaDoor

namespace Go.Proofs.YtdlcjobahdmapaaDoor
set_option linter.all false
open Go.RowKit
set_option linter.unusedVariables false
theorem save_drewN (g : Nat) (w : World) (k : Nat) : Save g w (w.drewN k) := ⟨rfl, rfl, rfl, Nat.le_refl _, fun _ _ _ => rfl⟩
theorem Save.drewN {g : Nat} {w w' : World} (h : Save g w w') (k : Nat) : Save g w (w'.drewN k) := h.trans (save_drewN g w' k)
end Go.Proofs.YtdlcjobahdmapaaDoor
