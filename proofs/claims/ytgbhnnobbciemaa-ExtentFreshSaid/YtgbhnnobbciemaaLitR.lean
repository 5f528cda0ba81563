/-
  A slice literal of bytes that are reckoned. No function of the program is named here.
-/
import Derived.Test.YtgbhnnobbciemaaCat
import Derived.Lib.SlBytesConst
namespace Go.Proofs.Ytgbhnnobbciemaa
open Go.RowKit
set_option linter.unusedVariables false

section
variable {ops : Array Oper} {rest : List Oper} {o : Oper} {a : Act} {w : World} {Q : Exit → Act → World → Prop}
/-- a literal of bytes that are reckoned -/
theorem wpList_litRow (hg : o.guard = none) (n : Nat) (parts : Array (Nat × Operand)) (ho : o.op = .buildSlice 29 n parts) (zs : List Int) (hl : zs.length = n) (hz : Bytes zs) (hn : n ≤ 281474976710656)
    (hf : Try.prog.builtSlice 5 n (parts.map fun (i, x) => (i, a.eval x)).toList = some (zs.map (Value.int .u8)).toArray)
    (h : ∀ g w', w.heap.size = g → Hid (Row w' g zs) → Hid (Holds w' w'.heap.size (some ⟨g, 0, none⟩) n n zs) → Hid (Below w.heap.size w w') → wpList Try.prog ops Q rest (a.put o.dst (.slice (some ⟨g, 0, none⟩) n n)) w') :
    wpList Try.prog ops Q (o :: rest) a w := by
  refine Great.wpList_buildSliceTo hg _ _ _ parts ho w.heap.size rfl _ rfl Try.underlying29 _ hf (h _ _ rfl (heap_alloc_new w _) ?_ ((Below.refl _ _).alloc (Nat.le_refl _) _))
  exact (Holds.lit w zs _ _ n rfl rfl hl hz hn).mono (by simp)
theorem Holds.litM (w : World) (xs : List Int) (fr : Nat × Nat) (T : TypeId) (n : Nat) (hl : xs.length = n) (hx : Bytes xs) (hn : n ≤ 281474976710656) :
    Holds (w.alloc (.cells (xs.map (Value.int .u8)).toArray T fr)) (w.heap.size + 1) (some ⟨w.heap.size, 0, none⟩) n n xs := by
  subst hl
  exact ⟨rfl, Nat.le_refl _, hn, hx, fun hA => (by cases hA), fun _ => ⟨w.heap.size, 0, rfl, by omega, fun i hi => by
    have hr : (w.alloc (.cells (xs.map (Value.int .u8)).toArray T fr)).heap[w.heap.size]? = some (.cells (xs.map (Value.int .u8)).toArray T fr) := heap_alloc_new w _
    rw [Nat.zero_add, cell_of_row _ w.heap.size i _ T fr hr]
    simp [hi]⟩⟩
/-- []byte("..") of a constant: a literal and its conversion -/
theorem wpList_constRow {o2 : Oper} (hg : o.guard = none) (hg2 : o2.guard = none) (n : Nat) (parts : Array (Nat × Operand)) (ho : o.op = .buildSlice 29 n parts) (x2 : Operand) (ho2 : o2.op = .convert 29 29 x2) (hx2 : ∀ v, (a.put o.dst v).eval x2 = v)
    (zs : List Int) (hl : zs.length = n) (hz : Bytes zs) (hn : n ≤ 281474976710656)
    (hf : Try.prog.builtSlice 5 n (parts.map fun (i, x) => (i, a.eval x)).toList = some (zs.map (Value.int .u8)).toArray)
    (h : ∀ g w', w.heap.size = g → Hid (Holds w' w'.heap.size (some ⟨g, 0, none⟩) n n zs) → Hid (Below w.heap.size w w') → wpList Try.prog ops Q rest ((a.put o.dst (.slice (some ⟨g, 0, none⟩) n n)).put o2.dst (.slice (some ⟨g, 0, none⟩) n n)) w') :
    wpList Try.prog ops Q (o :: o2 :: rest) a w := by
  refine Great.wpList_buildSliceTo hg _ _ _ parts ho w.heap.size rfl _ rfl Try.underlying29 _ hf ?_
  refine wpList_plain hg2 fun K hK => ?_
  unfold Oper.wp execOp
  simp only [ho2, hx2, Sem.run_bind, Lib.run_convert_bytes_const w 29 5 _ n n Try.underlying29 Try.underlying5, Sem.run_pure, Result.andThen_ok]
  refine hK _ _ (h _ _ rfl ?_ ((Below.refl _ _).alloc (Nat.le_refl _) _))
  exact (Holds.litM w zs _ _ n hl hz hn).mono (by simp)
end
end Go.Proofs.Ytgbhnnobbciemaa
