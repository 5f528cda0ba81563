/-
  Contract of the library's slices.Clone of bytes.
-/
import Derived.Test.YtgbhnnobbciemaaCat
import Derived.Lib.SliceRun
namespace Go.Proofs.Ytgbhnnobbciemaa
set_option maxRecDepth 100000
open Go.RowKit
set_option linter.unusedVariables false

set_option maxHeartbeats 1000000 in
theorem Clone_any (w : World) (A : Option Addr) (n c : Nat) (xs : List Int) (h : Holds w w.heap.size A n c xs) (hn : n ≤ 140737488355328) :
    Calls Try.prog 47 #[.slice A n c] w fun e w' => ∃ v, e = .returned v ∧ OwnZ .u8 5 w' w.heap.size v xs ∧ Below w.heap.size w w' := by
  have q24 : ∀ (w : World) (a : Option Addr) (n c n' c' : Nat), (binOp .eql 29 (.slice a n c) (.slice none n' c')).run Try.prog w = .ok (.bool a.isNone) w := fun w a n c n' c' => Lib.run_eql_slice_nil w _ _ a n c n' c' Try.underlying29
  rcases A with _ | ad
  · have hc := h.bare rfl
    have hf := h.fit
    have hl := h.len
    obtain rfl : n = 0 := by omega
    subst hc
    obtain rfl : xs = [] := List.eq_nil_of_length_eq_zero hl
    clear h hf hl hn
    go_enter Try.func47, Try.ntmps47
    go_wp2_with fail
    go_ret
    exact ⟨_, rfl, OwnZ.nil _ _ _ _, Below.refl _ _⟩
  · have HL := Lib.hid h.len
    have ho : Hid (OwnZ .u8 5 (w.alloc (.cells #[] 5)) w.heap.size (.slice (some ⟨w.heap.size, 0, none⟩) 0 0) []) := .inr ⟨w.heap.size, 0, rfl, Nat.le_refl _, by simp, heap_alloc_new w _⟩
    have hb : Hid (Below w.heap.size w (w.alloc (.cells #[] 5))) := (Below.refl _ w).alloc (Nat.le_refl _) _
    have HH : Hid (Holds (w.alloc (.cells #[] 5)) w.heap.size (some ad) n c xs) := h.below hb.out
    have hs : Hid (w.heap.size ≤ (w.alloc (.cells #[] 5)).heap.size) := by show _ ≤ _; simp
    clear h
    go_enter Try.func47, Try.ntmps47
    go_wp2_with (first
      | (at_builtin; refine wpList_append_bytesZ rfl (.tmp 5) (.tmp 6) rfl w.heap.size _ [] rfl ho.out w.heap.size (some ad) n c xs rfl HH.out (by rw [HL.out]; simpa using hn) hs.out ?_; intro v2 w2 ho2 hb2)
      | fail)
    go_ret
    exact ⟨_, rfl, by have := ho2.out; simpa using this, hb.out.trans hb2⟩
end Go.Proofs.Ytgbhnnobbciemaa
