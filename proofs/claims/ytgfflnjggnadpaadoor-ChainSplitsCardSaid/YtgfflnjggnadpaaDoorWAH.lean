import Derived.WalkKit
import Derived.Deep.Draws
import Derived.Laws.Rows
import Derived.Laws.OwnMore
import Derived.Laws.Bits64
import Derived.Laws.BitsAllLaws
import Derived.OpenShut
import Derived.Test.YtgfflnjggnadpaaDoorRows
import Derived.Lib.Hide
import Derived.BigQuiet
import Derived.Deep.QuietTactic
import Derived.Laws.CopyOwn
import Derived.Laws.AppendOwnNone
import Derived.Laws.Tables
import Derived.Laws.NewFold
import Derived.Deep.WholeRow
import Derived.StillTailTactics
import Derived.Deep.RegionLaw
import Derived.WalkSpells
import Derived.WalkLawsBesides
import Derived.Lib.AppendZeros
import Derived.Deep.RegionWith
import Derived.Deep.DeepCutAuto
import Derived.OrdersHeld
import Derived.Laws.StructEq
import Derived.ChangeKeysEq
import Derived.Laws.AppendOwn
import Derived.OwnWalk
import Derived.Lib.OthersKept
import Derived.Laws.BytesArg
import Derived.Laws.IdiomStrings
import Derived.ProofKit
import Derived.ShutString
import Derived.SizedLaws
import Derived.ChangeOld
import Derived.Great.Walk
import Derived.Deep.MidRow
import Derived.Lib.SliceRun
import Derived.Test.YtgfflnjggnadpaaDoorWAC
import Derived.Test.YtgfflnjggnadpaaDoorWAE
namespace Go.Proofs.YtgfflnjggnadpaaDoor
set_option linter.all false
set_option maxRecDepth 100000
open Go.RowKit
set_option linter.unusedVariables false
set_option maxHeartbeats 400000 in
theorem RHasF_any (w : World) (h : Hd) (k : h.ok) (f : Int) (hf : 1 ≤ f ∧ f ≤ 8) :
    Calls Tryd.prog 26 #[hv h, .int .u32 f] w fun e w' => e = .returned (.bool (decide (h.fl / f % 2 = 1))) ∧ Below w.heap.size w w' := by
  have h1 := k.fl
  have hb : Hid ((h.fl / f % 2 == 1) = decide (h.fl / f % 2 = 1)) := by
    show _ = _
    rw [Bool.eq_iff_iff, beq_iff_eq, decide_eq_true_iff]
  obtain ⟨z, hz⟩ : ∃ z, z = decide (h.fl / f % 2 = 1) := ⟨_, rfl⟩
  rw [← hz] at hb ⊢
  have F4 : Hid (∀ (w : World) (g : Nat), Blk w g 49 (hcells h) → w.cell? ⟨g, 4, none⟩ = some (.int .u32 h.fl)) := fun w g B => HB.c4 B
  obtain ⟨fl, hfl⟩ : ∃ fl, fl = h.fl := ⟨_, rfl⟩
  rw [← hfl] at h1 hb F4
  obtain ⟨cs, hcs⟩ : ∃ cs, cs = hcells h := ⟨_, rfl⟩
  unfold hv
  rw [← hcs] at F4 ⊢
  obtain ⟨h0, h1⟩ := h1
  obtain ⟨f0, f1⟩ := hf
  have hq : fl.tdiv f = fl / f := Int.tdiv_eq_ediv_of_nonneg h0
  have hd0 : 0 ≤ fl / f := Int.ediv_nonneg h0 (by omega)
  have hd1 : fl / f ≤ fl := Int.ediv_le_self _ h0
  have hm : (fl / f).tmod 2 = fl / f % 2 := Int.tmod_eq_emod_of_nonneg hd0
  have hfz : (f == 0) = false := by rw [beq_eq_false_iff_ne]; omega
  have hfn : f ≠ 0 := by omega
  have hb' := hb.out
  clear hz k hfl hcs hb
  go_enter Tryd.func26, Tryd.ntmps26
  go_wp2_with (((with_reducible show wpList _ _ _ (⟨some 2, _, _, _, _, _⟩ :: _) _ _); refine wpList_box_blk rfl _ (.tmp 0) rfl cs rfl ?_; intro g w1 hg1 hg2 B1 L1; have gc := F4.out _ _ B1.out))
  go_ret
  exact ⟨rfl, L1.out⟩
end Go.Proofs.YtgfflnjggnadpaaDoor
