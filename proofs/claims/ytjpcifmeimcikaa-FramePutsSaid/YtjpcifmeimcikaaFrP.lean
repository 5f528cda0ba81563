/-
  Layer 13 (frame): Put, the program's and the document's.
-/
import Derived.Test.YtjpcifmeimcikaaFr1
import Derived.Test.YtjpcifmeimcikaaCat
namespace Go.Proofs.Ytjpcifmeimcikaa
set_option maxRecDepth 100000
open Go.RowKit
set_option linter.unusedVariables false

section
variable {ops : Array Oper} {rest : List Oper} {o : Oper} {a : Act} {w : World} {Q : Exit → Act → World → Prop}
/-- a literal of bytes that are reckoned -/
theorem wpList_litRow (hg : o.guard = none) (n : Nat) (parts : Array (Nat × Operand)) (ho : o.op = .buildSlice 22 n parts) (zs : List Int) (hl : zs.length = n) (hz : Bytes zs) (hn : n ≤ 281474976710656)
    (hf : Try.prog.builtSlice 5 n (parts.map fun (i, x) => (i, a.eval x)).toList = some (zs.map (Value.int .u8)).toArray)
    (h : ∀ g w', w.heap.size = g → Hid (Row w' g zs) → Hid (Holds w' w'.heap.size (some ⟨g, 0, none⟩) n n zs) → Hid (Below w.heap.size w w') → wpList Try.prog ops Q rest (a.put o.dst (.slice (some ⟨g, 0, none⟩) n n)) w') :
    wpList Try.prog ops Q (o :: rest) a w := by
  refine Great.wpList_buildSliceTo hg _ _ _ parts ho w.heap.size rfl _ rfl Try.underlying22 _ hf (h _ _ rfl (heap_alloc_new w _) ?_ ((Below.refl _ _).alloc (Nat.le_refl _) _))
  exact (Holds.lit w zs _ _ n rfl rfl hl hz hn).mono (by simp)
end

/-- what Put answers -/
def PutFPost (w : World) (xs : List Int) (e : Ending) (w' : World) : Prop := ∃ v, e = .returned (.tuple #[v, .int .i64 (frPE xs)]) ∧ OwnZ .u8 5 w' w.heap.size v (frPO xs) ∧ Below w.heap.size w w'

theorem frHead_len (n : Nat) : (frHead n).length = 4 := rfl

set_option maxHeartbeats 1000000 in
theorem PutF_any (w : World) (A : Option Addr) (n c : Nat) (xs : List Int) (h : Holds w w.heap.size A n c xs) :
    Calls Try.prog 8 #[.slice A n c] w (PutFPost w xs) := by
  have hl := h.len
  have hr := h.room
  have hf := h.fit
  have hE : frPE xs = if n = 0 then 5 else if 65536 < n then 3 else 0 := by unfold frPE; rw [hl]
  have hO : frPO xs = if frPE xs = 0 then frHead n ++ xs else [] := by unfold frPO; rw [hl]
  unfold PutFPost
  rw [hO, hE]
  clear hO hE
  by_cases h0 : n = 0
  · subst h0
    rw [if_pos rfl, if_neg (by decide)]
    clear h hl
    go_enter Try.func8, Try.ntmps8
    go_wp2
    go_ret2
    exact ⟨_, rfl, OwnZ.nil _ _ _ _, Below.refl _ _⟩
  · rw [if_neg h0]
    by_cases hb : 65536 < n
    · rw [if_pos hb, if_neg (by decide)]
      clear h hl
      go_enter Try.func8, Try.ntmps8
      go_wp2
      go_ret2
      exact ⟨_, rfl, OwnZ.nil _ _ _ _, Below.refl _ _⟩
    · rw [if_neg hb, if_pos rfl]
      have HX := Lib.hid h
      clear h hl
      go_enter Try.func8, Try.ntmps8
      go_wp2_with (first
        | ((with_reducible show wpList _ _ _ (⟨some 21, _, _, _, _, _⟩ :: _) _ _); refine wpList_litRow rfl 4 _ rfl (frHead n) rfl (frHead_bytes (by omega)) (by omega) (by kernel_rfl) ?_; intro g1 w1 hg1 R1 H1 b1; have HX1 := Lib.hid (HX.out.over b1.out))
        | ((with_reducible show wpList _ _ _ (⟨some 23, _, _, _, _, _⟩ :: _) _ _); refine wpList_litParts rfl 2 _ rfl [(some ⟨g1, 0, none⟩, 4, 4, frHead n), (A, n, c, xs)] rfl (by kernel_rfl) (List.forall_mem_cons.2 ⟨H1.out, List.forall_mem_cons.2 ⟨HX1.out, fun _ h => by cases h⟩⟩) ?_; intro g2 w2 P2 b2)
        | fail)
      refine (ConcatZ_any _ g2 2 _ _ _ _ P2.out (by omega) (by show 0 + 4 + n ≤ _; omega)).mono ?_
      rintro e w3 ⟨v, rfl, ho, b3⟩
      have B2 := Lib.hid (step b1.out b2.out)
      have B3 := Lib.hid (step B2.out b3)
      have HO := Lib.hid (ho.mono B2.out.size)
      clear ho b3
      go_wp2
      go_ret2
      exact ⟨_, rfl, HO.out, B3.out⟩

set_option maxHeartbeats 1000000 in
/-- the document's -/
theorem RPutF_any (w : World) (A : Option Addr) (n c : Nat) (xs : List Int) (h : Holds w w.heap.size A n c xs) :
    Calls Try.prog 9 #[.slice A n c] w fun e w' => ∃ v, e = .returned (.tuple #[v, .int .i64 (frPE xs)]) ∧ Own w' w.heap.size v (frPO xs) ∧ Below w.heap.size w w' := by
  have hl := h.len
  have hr := h.room
  have hf := h.fit
  have hE : frPE xs = if n = 0 then 5 else if 65536 < n then 3 else 0 := by unfold frPE; rw [hl]
  have hO : frPO xs = if frPE xs = 0 then frHead n ++ xs else [] := by unfold frPO; rw [hl]
  rw [hO, hE]
  clear hO hE
  by_cases h0 : n = 0
  · subst h0
    rw [if_pos rfl, if_neg (by decide)]
    clear h hl
    go_enter Try.func9, Try.ntmps9
    go_wp2
    go_ret2
    exact ⟨_, rfl, Own.nil _ _, Below.refl _ _⟩
  · rw [if_neg h0]
    by_cases hb : 65536 < n
    · rw [if_pos hb, if_neg (by decide)]
      clear h hl
      go_enter Try.func9, Try.ntmps9
      go_wp2
      go_ret2
      exact ⟨_, rfl, Own.nil _ _, Below.refl _ _⟩
    · rw [if_neg hb, if_pos rfl]
      have HX := Lib.hid h
      have HL : Hid ((frHead n).length + xs.length ≤ 140737488355328) := by show _ ≤ _; rw [frHead_len, hl]; omega
      have t1 : (n : Int).tdiv 65536 = (n : Int) / 65536 := Int.tdiv_eq_ediv_of_nonneg (by omega)
      have t2 : (n : Int).tdiv 256 = (n : Int) / 256 := Int.tdiv_eq_ediv_of_nonneg (by omega)
      have t3 : ((n : Int) / 256).tmod 256 = (n : Int) / 256 % 256 := Int.tmod_eq_emod_of_nonneg (by omega)
      have t4 : (n : Int).tmod 256 = (n : Int) % 256 := Int.tmod_eq_emod_of_nonneg (by omega)
      clear h hl
      go_enter Try.func9, Try.ntmps9
      go_wp2_with (first
        | ((with_reducible show wpList _ _ _ (⟨some 24, _, _, _, _, _⟩ :: _) _ _); refine wpList_litRow rfl 4 _ rfl (frHead n) rfl (frHead_bytes (by omega)) (by omega) (by kernel_rfl) ?_; intro g1 w1 hg1 R1 H1 b1; have HX1 := Lib.hid (HX.out.over b1.out); have HO1 : Hid (Own w1 w.heap.size (.slice (some ⟨g1, 0, none⟩) 4 4) (frHead n)) := Fresh.own (.inr ⟨g1, rfl, by omega, R1.out⟩) rfl (by omega); have hs1 := Lib.hid b1.out.size)
        | (at_builtin; refine wpList_append_bytes rfl (.tmp 25) (.tmp 26) rfl w.heap.size _ (frHead n) rfl HO1.out w1.heap.size A n c xs rfl HX1.out HL.out hs1.out ?_; intro v2 w2 ho2 hb2 hgr)
        | fail)
      go_ret2
      exact ⟨_, rfl, ho2.out, b1.out.trans hb2⟩
end Go.Proofs.Ytjpcifmeimcikaa
