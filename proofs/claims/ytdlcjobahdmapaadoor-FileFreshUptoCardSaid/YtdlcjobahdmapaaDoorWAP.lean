import Derived.WalkKit
import Derived.Deep.Draws
import Derived.Laws.Rows
import Derived.Laws.OwnMore
import Derived.Test.YtdlcjobahdmapaaDoorRows
import Derived.WalkSpells
import Derived.WalkLawsBesides
import Derived.Deep.QuietTactic
import Derived.BigQuiet
import Derived.Lib.Hide
import Derived.Laws.CopyOwn
import Derived.Laws.AppendOwnNone
import Derived.Laws.Tables
import Derived.Laws.NewFold
import Derived.Deep.WholeRow
import Derived.Deep.MidRow
import Derived.Great.Walk
import Derived.Test.YtdlcjobahdmapaaDoorWAD
import Derived.Test.YtdlcjobahdmapaaDoorWAF
import Derived.Test.YtdlcjobahdmapaaDoorWAG
import Derived.Test.YtdlcjobahdmapaaDoorWAL
namespace Go.Proofs.YtdlcjobahdmapaaDoor
set_option linter.all false
open Go.RowKit
set_option maxHeartbeats 400000 in
theorem Copy_any (w : World) (A : Option Addr) (n c : Nat) (xs : List Int) (h : Holds w w.heap.size A n c xs) (hn : n ≤ 140737488355328) :
    Calls Tryd.prog 27 #[.slice A n c] w fun e w' => ∃ v, e = .returned v ∧ Own w' w.heap.size v xs ∧ Below w.heap.size w w' := by
  have hxl : xs.length ≤ 140737488355328 := by have := h.len; omega
  go_enter Tryd.func27, Tryd.ntmps27
  go_wp2_with (at_builtin; refine wpList_append_bytes rfl (.tmp 4) (.tmp 5) rfl w.heap.size _ [] rfl (Own.nil _ _) w.heap.size A n c xs rfl h (by simpa using hxl) (Nat.le_refl _) ?_; intro v1 w1 ho1 hb1 hgr)
  have ho := ho1.out
  rw [List.nil_append] at ho
  go_ret
  exact ⟨_, rfl, ho, hb1⟩
end Go.Proofs.YtdlcjobahdmapaaDoor
