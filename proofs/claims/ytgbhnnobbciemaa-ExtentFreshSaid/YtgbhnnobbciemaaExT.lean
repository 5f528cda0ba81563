/-
  Layer 14 (extent): none, Size and New of the program's file; where extents end behind a place, begin at one (written by tools/gen_ext.py).
-/
import Derived.Test.YtgbhnnobbciemaaExS
namespace Go.Proofs.Ytgbhnnobbciemaa
set_option maxRecDepth 100000
open Go.RowKit
set_option linter.unusedVariables false

def P_ending (l : List ExtV) (a : Int) (i : Nat) : Bool := match l[i]? with
  | some x => decide (a < ((x.1 + x.2.2.1 : Nat) : Int))
  | none => false
def P_begin (l : List ExtV) (a : Int) (i : Nat) : Bool := match l[i]? with
  | some x => decide (a ≤ (x.1 : Int))
  | none => false

theorem none_any (w : World) (q : Nat) (h : w.cell? ⟨q, 0, none⟩ = some (.bool true)) : Calls Try.prog 28 #[.pointer (some ⟨q, 0, none⟩)] w fun e w' => e = .returned (.bool false) ∧ w = w' := by
  go_enter Try.func28, Try.ntmps28
  go_wp2_with fail
  go_ret
  exact ⟨rfl, rfl⟩
theorem none_zero (w : World) (q : Nat) (h : w.cell? ⟨q, 0, none⟩ = some (.bool false)) : Calls Try.prog 28 #[.pointer (some ⟨q, 0, none⟩)] w fun e w' => e = .returned (.bool true) ∧ w = w' := by
  go_enter Try.func28, Try.ntmps28
  go_wp2_with fail
  go_ret
  exact ⟨rfl, rfl⟩
theorem none_nil (w : World) : Calls Try.prog 28 #[.pointer none] w fun e w' => e = .returned (.bool true) ∧ w = w' := by
  go_enter Try.func28, Try.ntmps28
  go_wp2_with fail
  go_ret
  exact ⟨rfl, rfl⟩
theorem size_any (w : World) (q n : Nat) (h : w.cell? ⟨q, 1, none⟩ = some (.int .i64 (n : Nat))) : Calls Try.prog 17 #[.pointer (some ⟨q, 0, none⟩)] w fun e w' => e = .returned (.int .i64 (n : Nat)) ∧ ∃ k, w.drewN k = w' := by
  go_enter Try.func17, Try.ntmps17
  go_wp2_with fail
  go_ret
  exact ⟨rfl, 0, rfl⟩
theorem built_new : Try.prog.built 49 [(0, .bool true)] = some ([.bool true, .int .i64 0, .slice none 0 0] : List Value).toArray := by kernel_rfl
theorem new_any (w : World) : Calls Try.prog 25 #[] w fun e w' => ∃ q, e = .returned (ptr q) ∧ PDat w' w.heap.size q (.slice none 0 0) [] [] [] ∧ Below w.heap.size w w' := by
  go_enter Try.func25, Try.ntmps25
  go_wp2_with (first
    | ((with_reducible show wpList _ _ _ (⟨some 1, _, _, _, _, _⟩ :: _) _ _); refine wpList_build_blk rfl _ _ rfl [.bool true, .int .i64 0, .slice none 0 0] built_new ?_)
    | ((with_reducible show wpList _ _ _ (⟨some 2, _, _, _, _, _⟩ :: _) _ _); refine wpList_box_blk rfl _ (.tmp 1) rfl [.bool true, .int .i64 0, .slice none 0 0] rfl ?_; intro q w1 hg1 hg2 B1 L1)
    | fail)
  go_ret
  exact ⟨q, rfl, ⟨hg1, B1.out, OwnS.nil _ _ _ _ _, (fun x h => by cases h), ⟨(fun e h => by cases h), (fun e h => by cases h), (fun e h => by cases h), List.Pairwise.nil, fun i => ⟨(fun h => by cases h), (fun ⟨e, h, _⟩ => by cases h)⟩⟩, (fun i _ => rfl), rfl, by simp, Bytes.nil⟩, L1.out⟩

set_option maxHeartbeats 4000000 in
theorem ending_any (w : World) (base q : Nat) (v : Value) (l : List ExtV) (B : List Int) (Z : List Bool) (h : PDat w base q v l B Z) (a : Int) (k : Nat) (hk : k ≤ l.length)
    (h0 : ∀ (i : Nat) x, i < k → l[i]? = some x → ¬ a < ((x.1 + x.2.2.1 : Nat) : Int)) (h1 : ∀ (i : Nat) x, k ≤ i → l[i]? = some x → a < ((x.1 + x.2.2.1 : Nat) : Int)) :
    Calls Try.prog 29 #[ptr q, .int .i64 a] w fun e w' => e = .returned (.int .i64 (k : Nat)) ∧ Below w.heap.size w w' := by
  have hmf : ∀ (fn : Fn) (first cap : Array Value) (w : World), (Instr.makeFunc fn first cap).run Try.prog w = .ok (.func fn first cap) w := fun _ _ _ _ => rfl
  have hsm := h.lenS
  obtain ⟨A, n, c, rfl, hx⟩ := h.lst
  have hn : l.length = n := hx.len
  have k2 : w.cell? ⟨q, 2, none⟩ = some (.slice A n c) := h.blk.cell 2
  have HX := Lib.hid hx
  have CS : Hid (∀ w1 p1 p2, Below w.heap.size w w1 → w1.cell? ⟨p1, 0, none⟩ = some (ptr q) → w1.cell? ⟨p2, 0, none⟩ = some (.int .i64 a) → Calls Try.prog 40 #[.int .i64 (n : Nat), .func (.func 41) #[] #[.pointer (some ⟨p1, 0, none⟩), .pointer (some ⟨p2, 0, none⟩)]] w1 fun e w' => e = .returned (.int .i64 (k : Nat)) ∧ Below w1.heap.size w1 w') := fun w1 p1 p2 hb e1 e2 => by
    refine Search_any w1 41 (enters_of Try.func41 (by kernel_rfl) rfl) _ _ n k (P_ending l a) (by omega) (by omega) (fun i hi => ?_) (fun i hi hin => ?_) fun w2 i hb2 hi => ?_
    · have hl : l[i]? = some l[i] := List.getElem?_eq_getElem (by omega)
      unfold P_ending
      rw [hl]
      exact decide_eq_false (h0 i _ hi hl)
    · have hl : l[i]? = some l[i] := List.getElem?_eq_getElem (by omega)
      unfold P_ending
      rw [hl]
      exact decide_eq_true (h1 i _ hi hl)
    · obtain ⟨g, c', hg⟩ := h.row.form (show 0 < l.length by omega)
      · injection hg with hg _ _
        subst hg
        obtain ⟨b, off, x, e, _, hl, f1, f2, hy⟩ := HX.out.at hi
        injection e with e
        injection e with e3 e4
        subst e3 e4
        rw [Nat.zero_add] at f1 f2
        have hb3 : Below w.heap.size w w2 := hb.trans (hb2.mono hb.size)
        have hm : (x.1, x.2.2.2.2) ∈ extsL l := List.mem_map.2 ⟨x, List.mem_of_getElem? hl, rfl⟩
        have h5 := h.can.ends (x.1, x.2.2.2.2) hm
        have h6 := h.small
        have h7 := hy.len
        simp only at h5
        have hE : EdC w2 p1 p2 q g n c i a x.1 x.2.1 x.2.2.1 x.2.2.2.1 := ⟨(hb2.cell (lt_of_cell e1)).trans e1, (hb2.cell (lt_of_cell e2)).trans e2, (hb3.cell (lt_of_cell k2)).trans k2, (hb3.cell (lt_of_cell f1)).trans f1, (hb3.cell (lt_of_cell f2)).trans f2⟩
        have hp : P_ending l a i = decide (a < ((x.1 + x.2.2.1 : Nat) : Int)) := by
          unfold P_ending
          rw [hl]
        rw [hp]
        exact endC_any w2 p1 p2 q g n c i a x.1 x.2.1 x.2.2.1 x.2.2.2.1 hE hi (by omega) (by omega)
  clear h h0 h1 hx HX
  unfold ptr at CS ⊢
  go_enter Try.func29, Try.ntmps29
  go_wp2_with (first
    | ((with_reducible show wpList _ _ _ (⟨some 2, _, _, _, _, _⟩ :: _) _ _); refine wpList_box_one rfl _ (.tmp 0) rfl (.pointer (some ⟨q, 0, none⟩)) rfl rfl ?_; intro p1 w1 hg1 hg2 B1 L1)
    | ((with_reducible show wpList _ _ _ (⟨some 3, _, _, _, _, _⟩ :: _) _ _); refine wpList_box_one rfl _ (.tmp 1) rfl (.int .i64 a) rfl rfl ?_; intro p2 w2 hg3 hg4 B2 L2; have L3 := Lib.hid (L1.out.trans (L2.out.mono L1.out.size)); have c1 : w2.cell? ⟨p1, 0, none⟩ = some (.pointer (some ⟨q, 0, none⟩)) := (B1.out.over L2.out).cell 0; have c2 : w2.cell? ⟨p2, 0, none⟩ = some (.int .i64 a) := B2.out.cell 0; have c3 : w2.cell? ⟨q, 2, none⟩ = some (.slice A n c) := (L3.out.cell (lt_of_cell k2)).trans k2)
    | fail)
  refine (CS.out w2 p1 p2 L3.out c1 c2).mono ?_
  rintro e w3 ⟨rfl, l3⟩
  have L4 := Lib.hid (L3.out.trans (l3.mono L3.out.size))
  clear l3
  go_wp2_with fail
  go_ret
  exact ⟨rfl, L4.out⟩

set_option maxHeartbeats 4000000 in
theorem begin_any (w : World) (base q : Nat) (v : Value) (l : List ExtV) (B : List Int) (Z : List Bool) (h : PDat w base q v l B Z) (a : Int) (k : Nat) (hk : k ≤ l.length)
    (h0 : ∀ (i : Nat) x, i < k → l[i]? = some x → ¬ a ≤ (x.1 : Int)) (h1 : ∀ (i : Nat) x, k ≤ i → l[i]? = some x → a ≤ (x.1 : Int)) :
    Calls Try.prog 30 #[ptr q, .int .i64 a] w fun e w' => e = .returned (.int .i64 (k : Nat)) ∧ Below w.heap.size w w' := by
  have hmf : ∀ (fn : Fn) (first cap : Array Value) (w : World), (Instr.makeFunc fn first cap).run Try.prog w = .ok (.func fn first cap) w := fun _ _ _ _ => rfl
  have hsm := h.lenS
  obtain ⟨A, n, c, rfl, hx⟩ := h.lst
  have hn : l.length = n := hx.len
  have k2 : w.cell? ⟨q, 2, none⟩ = some (.slice A n c) := h.blk.cell 2
  have HX := Lib.hid hx
  have CS : Hid (∀ w1 p1 p2, Below w.heap.size w w1 → w1.cell? ⟨p1, 0, none⟩ = some (ptr q) → w1.cell? ⟨p2, 0, none⟩ = some (.int .i64 a) → Calls Try.prog 40 #[.int .i64 (n : Nat), .func (.func 42) #[] #[.pointer (some ⟨p1, 0, none⟩), .pointer (some ⟨p2, 0, none⟩)]] w1 fun e w' => e = .returned (.int .i64 (k : Nat)) ∧ Below w1.heap.size w1 w') := fun w1 p1 p2 hb e1 e2 => by
    refine Search_any w1 42 (enters_of Try.func42 (by kernel_rfl) rfl) _ _ n k (P_begin l a) (by omega) (by omega) (fun i hi => ?_) (fun i hi hin => ?_) fun w2 i hb2 hi => ?_
    · have hl : l[i]? = some l[i] := List.getElem?_eq_getElem (by omega)
      unfold P_begin
      rw [hl]
      exact decide_eq_false (h0 i _ hi hl)
    · have hl : l[i]? = some l[i] := List.getElem?_eq_getElem (by omega)
      unfold P_begin
      rw [hl]
      exact decide_eq_true (h1 i _ hi hl)
    · obtain ⟨g, c', hg⟩ := h.row.form (show 0 < l.length by omega)
      · injection hg with hg _ _
        subst hg
        obtain ⟨b, off, x, e, _, hl, f1, f2, hy⟩ := HX.out.at hi
        injection e with e
        injection e with e3 e4
        subst e3 e4
        rw [Nat.zero_add] at f1 f2
        have hb3 : Below w.heap.size w w2 := hb.trans (hb2.mono hb.size)
        have hm : (x.1, x.2.2.2.2) ∈ extsL l := List.mem_map.2 ⟨x, List.mem_of_getElem? hl, rfl⟩
        have h5 := h.can.ends (x.1, x.2.2.2.2) hm
        have h6 := h.small
        have h7 := hy.len
        simp only at h5
        have hE : EdC w2 p1 p2 q g n c i a x.1 x.2.1 x.2.2.1 x.2.2.2.1 := ⟨(hb2.cell (lt_of_cell e1)).trans e1, (hb2.cell (lt_of_cell e2)).trans e2, (hb3.cell (lt_of_cell k2)).trans k2, (hb3.cell (lt_of_cell f1)).trans f1, (hb3.cell (lt_of_cell f2)).trans f2⟩
        have hp : P_begin l a i = decide (a ≤ (x.1 : Int)) := by
          unfold P_begin
          rw [hl]
        rw [hp]
        exact begC_any w2 p1 p2 q g n c i a x.1 x.2.1 x.2.2.1 x.2.2.2.1 hE hi
  clear h h0 h1 hx HX
  unfold ptr at CS ⊢
  go_enter Try.func30, Try.ntmps30
  go_wp2_with (first
    | ((with_reducible show wpList _ _ _ (⟨some 2, _, _, _, _, _⟩ :: _) _ _); refine wpList_box_one rfl _ (.tmp 0) rfl (.pointer (some ⟨q, 0, none⟩)) rfl rfl ?_; intro p1 w1 hg1 hg2 B1 L1)
    | ((with_reducible show wpList _ _ _ (⟨some 3, _, _, _, _, _⟩ :: _) _ _); refine wpList_box_one rfl _ (.tmp 1) rfl (.int .i64 a) rfl rfl ?_; intro p2 w2 hg3 hg4 B2 L2; have L3 := Lib.hid (L1.out.trans (L2.out.mono L1.out.size)); have c1 : w2.cell? ⟨p1, 0, none⟩ = some (.pointer (some ⟨q, 0, none⟩)) := (B1.out.over L2.out).cell 0; have c2 : w2.cell? ⟨p2, 0, none⟩ = some (.int .i64 a) := B2.out.cell 0; have c3 : w2.cell? ⟨q, 2, none⟩ = some (.slice A n c) := (L3.out.cell (lt_of_cell k2)).trans k2)
    | fail)
  refine (CS.out w2 p1 p2 L3.out c1 c2).mono ?_
  rintro e w3 ⟨rfl, l3⟩
  have L4 := Lib.hid (L3.out.trans (l3.mono L3.out.size))
  clear l3
  go_wp2_with fail
  go_ret
  exact ⟨rfl, L4.out⟩
end Go.Proofs.Ytgbhnnobbciemaa
