/-
  Laws at slice literals (bytes; slices of bytes) and at '[]byte(s)'; are two arrays the same. Contracts of the program's layer 4 (mac): Mac, Derive, Proof, signature, Sign, Check.
-/
import Derived.Test.YtomdgiikjnghcaaDoorMacC
import Derived.Great.Walk
namespace Go.Proofs.YtomdgiikjnghcaaDoor
open Go.RowKit

/-! ### slice literals, as parts -/

abbrev PartT := Option Addr × Nat × Nat × List Int
def partV (p : PartT) : Value := .slice p.1 p.2.1 p.2.2.1
def part0 : PartT := (none, 0, 0, [])
def partA (l : List PartT) (i : Nat) : Option Addr := (l.getD i part0).1
def partN (l : List PartT) (i : Nat) : Nat := (l.getD i part0).2.1
def partC (l : List PartT) (i : Nat) : Nat := (l.getD i part0).2.2.1
def partX (l : List PartT) (i : Nat) : List Int := (l.getD i part0).2.2.2

theorem Parts.lit (w : World) (l : List PartT) (T : TypeId) (hh : ∀ p ∈ l, Holds w w.heap.size p.1 p.2.1 p.2.2.1 p.2.2.2) :
    Parts (w.alloc (.cells (l.map partV).toArray T)) w.heap.size l.length (partA l) (partN l) (partC l) (partX l) := by
  have hb : Below w.heap.size w (w.alloc (.cells (l.map partV).toArray T)) := (Below.refl _ _).alloc (Nat.le_refl _) _
  refine ⟨by simp, fun i hi => ?_, fun i hi => ?_⟩
  · have hr : (w.alloc (.cells (l.map partV).toArray T)).heap[w.heap.size]? = some (.cells (l.map partV).toArray T (0, 0)) := heap_alloc_new w _
    rw [cell_of_row _ w.heap.size i _ T (0, 0) hr]
    simp [partA, partN, partC, List.getD_eq_getElem?_getD, hi, partV]
  · have he : l.getD i part0 = l[i] := by simp [List.getD_eq_getElem?_getD, hi]
    have := hh l[i] (List.getElem_mem hi)
    unfold partA partN partC partX
    rw [he]
    exact this.over hb

section
variable {ops : Array Oper} {rest : List Oper} {o : Oper} {a : Act} {w : World} {Q : Exit → Act → World → Prop}

theorem wpList_litParts (hg : o.guard = none) (n : Nat) (parts : Array (Nat × Operand)) (ho : o.op = .buildSlice 49 n parts) (l : List PartT) (hl : l.length = n)
    (hf : Tryd.prog.builtSlice 22 n (parts.map fun (i, x) => (i, a.eval x)).toList = some (l.map partV).toArray) (hh : ∀ p ∈ l, Holds w w.heap.size p.1 p.2.1 p.2.2.1 p.2.2.2)
    (h : ∀ g w', Hid (Parts w' g n (partA l) (partN l) (partC l) (partX l)) → Hid (Below w.heap.size w w') → wpList Tryd.prog ops Q rest (a.put o.dst (.slice (some ⟨g, 0, none⟩) n n)) w') :
    wpList Tryd.prog ops Q (o :: rest) a w := by
  subst hl
  exact Great.wpList_buildSliceTo hg _ _ _ parts ho w.heap.size rfl _ rfl Tryd.underlying49 _ hf (h _ _ (Parts.lit w l _ hh) ((Below.refl _ _).alloc (Nat.le_refl _) _))

theorem wpList_lit8 (hg : o.guard = none) (n : Nat) (parts : Array (Nat × Operand)) (ho : o.op = .buildSlice 22 n parts) (zs : List Int) (hn : n = zs.length) (hpos : 0 < n) (hsmall : n ≤ 2 ^ 24) (hz : Bytes zs)
    (hparts : parts.toList = (zs.zipIdx 0).map fun x => (x.2, Operand.const (Value.int .u8 x.1)))
    (h : ∀ g w', Hid (Holds w' w'.heap.size (some ⟨g, 0, none⟩) n n zs) → Hid (Below w.heap.size w w') → wpList Tryd.prog ops Q rest (a.put o.dst (.slice (some ⟨g, 0, none⟩) n n)) w') :
    wpList Tryd.prog ops Q (o :: rest) a w := by
  refine wpList_buildFlat hg _ 5 n parts ho .u8 zs Tryd.underlying22 one_u8 (by kernel_rfl) hn hpos hsmall hparts (h _ _ ?_ ((Below.refl _ _).alloc (Nat.le_refl _) _))
  exact (Holds.lit w zs _ _ n rfl rfl hn.symm hz (by omega)).mono (by simp)

theorem wpList_text (hg : o.guard = none) (x : Operand) (ho : o.op = .convert 9 22 x) (s : ByteArray) (hx : a.eval x = .string s) (hn : s.size ≤ 281474976710656)
    (h : ∀ g C w', Hid (Holds w' w'.heap.size (some ⟨g, 0, none⟩) s.size C (textL s)) → Hid (Below w.heap.size w w') → wpList Tryd.prog ops Q rest (a.put o.dst (.slice (some ⟨g, 0, none⟩) s.size C)) w') :
    wpList Tryd.prog ops Q (o :: rest) a w := by
  refine wpList_plain hg fun K hK => ?_
  unfold Oper.wp execOp
  simp only [ho, hx, run_bytes_of_string w 9 22 5 s Tryd.underlying9 Tryd.underlying22 Tryd.underlying5, Sem.run_bind, Result.andThen_ok, Sem.run_pure]
  refine hK _ _ (h _ _ _ ?_ (((Below.refl _ _).drew).alloc (Nat.le_refl _) _))
  have hc := grownCap_ge w s.size 0 5
  exact (Holds.text w.drew s _ _ _ hc hn).mono (by simp)
end

/-! ### are two arrays the same -/

theorem run_equalIn_arr2 {P : Program} {T e : TypeId} {n : Nat} {k : IntKind} (hu : P.underlying T = some (.array n e)) (he : P.underlying e = some (.int k)) (hs : (P.info? e).map (·.size) = some 1) (xs ys : List Int) (hl : xs.length = n) (hm : ys.length = n) (d : Nat) (w : World) :
    (Op.equalIn (d + 2) T (.agg (xs.map (Value.int k)).toArray) (.agg (ys.map (Value.int k)).toArray)).run P w = .ok (decide (xs = ys)) w := by
  obtain ⟨j, hj, hj1⟩ : ∃ j, P.info? e = some j ∧ j.size = 1 := by
    cases hq : P.info? e with
    | none => simp [hq] at hs
    | some j => exact ⟨j, rfl, by simpa [hq] using hs⟩
  have hc : P.cellsOf e = 1 := by unfold Program.cellsOf; rw [hj]; simpa using hj1
  rw [show d + 2 = (d + 1) + 1 from rfl, run_equalIn_array w (d + 1) _ _ hu hj, hc]
  have key : ∀ is : List Nat, (∀ i ∈ is, i < n) → (Op.eqItems (d + 1) e 1 (xs.map (Value.int k)).toArray (ys.map (Value.int k)).toArray is).run P w = .ok (is.all fun i => xs.getD i 0 == ys.getD i 0) w := by
    intro is
    induction is with
    | nil => intro _; simp [Op.eqItems]
    | cons i is ih =>
      intro hi
      have hil : i < n := hi i List.mem_cons_self
      have hx : i < xs.length := by omega
      have hy : i < ys.length := by omega
      have hp : (part e (xs.map (Value.int k)).toArray (i * 1)).run P w = .ok (.int k xs[i]) w := by simp [part, isAgg, run_underlying he, hx]
      have hp2 : (part e (ys.map (Value.int k)).toArray (i * 1)).run P w = .ok (.int k ys[i]) w := by simp [part, isAgg, run_underlying he, hy]
      simp only [Op.eqItems, Sem.run_bind, hp, hp2, Result.andThen_ok, run_equalIn_int w d e k k _ _ he]
      have e1 : xs.getD i 0 = xs[i] := by simp [List.getD_eq_getElem?_getD, hx]
      have e2 : ys.getD i 0 = ys[i] := by simp [List.getD_eq_getElem?_getD, hy]
      rw [List.all_cons, e1, e2]
      by_cases hq : xs[i] = ys[i]
      · rw [hq]
        simp only [beq_self_eq_true, Bool.not_true, Bool.false_eq_true, if_false, Bool.true_and]
        exact ih fun i h => hi i (List.mem_cons_of_mem _ h)
      · have hb : (xs[i] == ys[i]) = false := by simpa using hq
        simp [hb]
  rw [key _ fun i h => List.mem_range.1 h]
  congr 1
  by_cases hq : xs = ys
  · subst hq
    simp
  · rw [decide_eq_false hq, List.all_eq_false]
    have hne : ¬ ∀ i, i < n → xs.getD i 0 = ys.getD i 0 := fun hall => hq (by
      apply List.ext_getElem (by omega)
      intro i h1 h2
      have := hall i (by omega)
      simpa [List.getD_eq_getElem?_getD, h1, h2] using this)
    obtain ⟨i, hi⟩ := Classical.not_forall.1 hne
    obtain ⟨hi1, hi2⟩ := Classical.not_imp.1 hi
    exact ⟨i, List.mem_range.2 hi1, by simpa using hi2⟩

/-! ### the program's calls -/

set_option maxRecDepth 100000 in
set_option maxHeartbeats 2000000 in
theorem Mac_any (w : World) (A : Option Addr) (n c : Nat) (ks : List Int) (hn : n ≤ 140737488355100) (h : Holds w w.heap.size A n c ks) (A2 : Option Addr) (n2 c2 : Nat) (xs : List Int) (hn2 : n2 ≤ 140737488355100) (h2 : Holds w w.heap.size A2 n2 c2 xs) (hK : KTab w) :
    Calls Tryd.prog 10 #[.slice A n c, .slice A2 n2 c2] w fun e w' => e = .returned (.agg ((macL ks xs).map (Value.int .u8)).toArray) ∧ Below w.heap.size w w' := by
  have cm := fun w h gs hP hK => Lib.hid (macOf_any w A n c ks (by omega) h gs 1 (partA [(A2, n2, c2, xs)]) (partN [(A2, n2, c2, xs)]) (partC [(A2, n2, c2, xs)]) (partX [(A2, n2, c2, xs)]) hP (by omega) (show 0 + n2 ≤ _ by omega) hK)
  rw [show catL (partX [(A2, n2, c2, xs)]) 1 = xs from rfl] at cm
  have HR : Hid ((macL ks xs).length = 32) := macL_len _ _
  obtain ⟨R, hR⟩ : ∃ R, R = macL ks xs := ⟨_, rfl⟩
  rw [← hR] at cm HR ⊢
  obtain ⟨X, hX⟩ : ∃ Z : List Int, Z = List.replicate 32 0 := ⟨_, rfl⟩
  have HX := len0 32
  have hx1 := zero_m
  rw [← hX] at HX hx1
  have HX1 := Lib.hid hx1
  have HH := Lib.hid h
  have HH2 := Lib.hid h2
  have HT := Lib.hid hK
  clear hR hx1 hX h h2 hK
  go_enter Tryd.func10, Tryd.ntmps10
  go_wp2_with (first
    | ((with_reducible show wpList _ _ _ (⟨some 4, _, _, _, _, _⟩ :: _) _ _); refine wpList_alloc_arr rfl _ rfl .u8 X 32 HX1 ?_; intro g4 w4 e4 s4 A4 b4)
    | ((with_reducible show wpList _ _ _ (⟨some 7, _, _, _, _, _⟩ :: _) _ _); refine wpList_litParts rfl 1 _ rfl [(A2, n2, c2, xs)] rfl (by kernel_rfl) (List.forall_mem_cons.2 ⟨HH2.out.over b4.out, fun _ h => by cases h⟩) ?_; intro g5 w5 P5 b5)
    | fail)
  have B5 : Hid (Below w.heap.size w w5) := step b4.out b5.out
  refine (cm _ (HH.out.over B5.out) g5 P5.out (HT.out.below B5.out)).out.mono ?_
  rintro e w6 ⟨rfl, b6⟩
  have A46 : Hid (Arr w6 g4 .u8 24 X) := (A4.out.over b5.out).over b6
  have B6 : Hid (Below w.heap.size w w6) := step B5.out b6
  clear A4 b4 b5 b6 s4 HH HH2 P5 B5
  go_wp2_with (first
    | ((with_reducible show wpList _ _ _ (⟨none, .store _ (.tmp 4) _, _, _, _, _⟩ :: _) _ _); refine wpList_store_arr rfl _ (.tmp 4) (.tmp 8) rfl g4 rfl .u8 _ _ R rfl A46 32 size_o HX HR ?_; intro w9 A9 o9 s9)
    | fail)
  refine bodyPost_ret (v := .agg (R.map (Value.int .u8)).toArray) ?_ rfl ⟨rfl, B6.out.trans (o9.out.below e4)⟩
  exact results_cell_row rfl _ _ g4 _ _ (0, 0) _ rfl A9.out Tryd.underlying24 rfl (by rw [size_o]; have := HR.out; simp [this])

theorem len16 (xs : List Int) (h : xs.length = 32) : (xs.take 16).length = 16 := by rw [List.length_take]; omega

set_option maxRecDepth 100000 in
set_option maxHeartbeats 2000000 in
theorem Derive_any (w : World) (A : Option Addr) (n c : Nat) (ks : List Int) (hn : n ≤ 140737488355100) (h : Holds w w.heap.size A n c ks) (l k : ByteArray) (hs : l.size + k.size ≤ 140737488355000) (hK : KTab w) :
    Calls Tryd.prog 12 #[.slice A n c, .string l, .string k] w fun e w' => e = .returned (.agg ((deriveL ks (textL l) (textL k)).map (Value.int .u8)).toArray) ∧ Below w.heap.size w w' := by
  have cm := fun w g1 g2 c2 g3 g4 c4 g5 h gs hP hK =>
    let L : List PartT := [(some ⟨g1, 0, none⟩, 4, 4, [0, 0, 0, 1]), (some ⟨g2, 0, none⟩, l.size, c2, textL l), (some ⟨g3, 0, none⟩, 1, 1, [0]), (some ⟨g4, 0, none⟩, k.size, c4, textL k), (some ⟨g5, 0, none⟩, 4, 4, [0, 0, 0, 128])]
    (macOf_any w A n c ks (by omega) h gs 5 (partA L) (partN L) (partC L) (partX L) hP (by omega) (show 0 + 4 + l.size + 1 + k.size + 4 ≤ _ by omega) hK)
  have cm2 : ∀ w g1 g2 c2 g3 g4 c4 g5, Holds w w.heap.size A n c ks → ∀ gs, Parts w gs 5 (partA [(some ⟨g1, 0, none⟩, 4, 4, [0, 0, 0, 1]), (some ⟨g2, 0, none⟩, l.size, c2, textL l), (some ⟨g3, 0, none⟩, 1, 1, [0]), (some ⟨g4, 0, none⟩, k.size, c4, textL k), (some ⟨g5, 0, none⟩, 4, 4, [0, 0, 0, 128])])
      (partN [(some ⟨g1, 0, none⟩, 4, 4, [0, 0, 0, 1]), (some ⟨g2, 0, none⟩, l.size, c2, textL l), (some ⟨g3, 0, none⟩, 1, 1, [0]), (some ⟨g4, 0, none⟩, k.size, c4, textL k), (some ⟨g5, 0, none⟩, 4, 4, [0, 0, 0, 128])])
      (partC [(some ⟨g1, 0, none⟩, 4, 4, [0, 0, 0, 1]), (some ⟨g2, 0, none⟩, l.size, c2, textL l), (some ⟨g3, 0, none⟩, 1, 1, [0]), (some ⟨g4, 0, none⟩, k.size, c4, textL k), (some ⟨g5, 0, none⟩, 4, 4, [0, 0, 0, 128])])
      (partX [(some ⟨g1, 0, none⟩, 4, 4, [0, 0, 0, 1]), (some ⟨g2, 0, none⟩, l.size, c2, textL l), (some ⟨g3, 0, none⟩, 1, 1, [0]), (some ⟨g4, 0, none⟩, k.size, c4, textL k), (some ⟨g5, 0, none⟩, 4, 4, [0, 0, 0, 128])]) → KTab w →
      Calls Tryd.prog 25 #[.slice A n c, .slice (some ⟨gs, 0, none⟩) 5 5] w fun e w' => e = .returned (.agg ((macL ks (deriveB (textL l) (textL k))).map (Value.int .u8)).toArray) ∧ Below w.heap.size w w' :=
    fun w g1 g2 c2 g3 g4 c4 g5 h gs hP hK => cm w g1 g2 c2 g3 g4 c4 g5 h gs hP hK
  have hml := macL_len ks (deriveB (textL l) (textL k))
  have hde : deriveL ks (textL l) (textL k) = (macL ks (deriveB (textL l) (textL k))).take 16 := rfl
  obtain ⟨M, hM⟩ : ∃ M, M = macL ks (deriveB (textL l) (textL k)) := ⟨_, rfl⟩
  rw [← hM] at cm2 hml hde
  have CM := fun w g1 g2 c2 g3 g4 c4 g5 h gs hP hK => Lib.hid (cm2 w g1 g2 c2 g3 g4 c4 g5 h gs hP hK)
  have csh := fun w => Lib.hid (short_any w M hml)
  have HR : Hid ((M.take 16).length = 16) := len16 M hml
  obtain ⟨R, hR⟩ : ∃ R, R = M.take 16 := ⟨_, rfl⟩
  rw [hde, ← hR]
  rw [← hR] at csh HR
  obtain ⟨X, hX⟩ : ∃ Z : List Int, Z = List.replicate 16 0 := ⟨_, rfl⟩
  have HX := len0 16
  have hx1 := zero_g
  rw [← hX] at HX hx1
  have HX1 := Lib.hid hx1
  have HH := Lib.hid h
  have HT := Lib.hid hK
  clear hR hx1 hX h hK cm cm2 hM hml hde
  go_enter Tryd.func12, Tryd.ntmps12
  go_wp2_with (first
    | ((with_reducible show wpList _ _ _ (⟨some 6, _, _, _, _, _⟩ :: _) _ _); refine wpList_alloc_arr rfl _ rfl .u8 X 16 HX1 ?_; intro g6 w6 e6 s6 A6 b6)
    | ((with_reducible show wpList _ _ _ (⟨some 8, _, _, _, _, _⟩ :: _) _ _); refine wpList_lit8 rfl 4 _ rfl [0, 0, 0, 1] rfl (by omega) (by omega) (Bytes.of_all rfl) rfl ?_; intro g8 w8 H8 b8)
    | ((with_reducible show wpList _ _ _ (⟨some 10, _, _, _, _, _⟩ :: _) _ _); refine wpList_text rfl (.tmp 9) rfl l rfl (by omega) ?_; intro g10 C10 w10 H10 b10)
    | ((with_reducible show wpList _ _ _ (⟨some 11, _, _, _, _, _⟩ :: _) _ _); refine wpList_lit8 rfl 1 _ rfl [0] rfl (by omega) (by omega) (Bytes.of_all rfl) rfl ?_; intro g11 w11 H11 b11)
    | ((with_reducible show wpList _ _ _ (⟨some 13, _, _, _, _, _⟩ :: _) _ _); refine wpList_text rfl (.tmp 12) rfl k rfl (by omega) ?_; intro g13 C13 w13 H13 b13)
    | ((with_reducible show wpList _ _ _ (⟨some 14, _, _, _, _, _⟩ :: _) _ _); refine wpList_lit8 rfl 4 _ rfl [0, 0, 0, 128] rfl (by omega) (by omega) (Bytes.of_all rfl) rfl ?_; intro g14 w14 H14 b14)
    | ((with_reducible show wpList _ _ _ (⟨some 15, _, _, _, _, _⟩ :: _) _ _); refine wpList_litParts rfl 5 _ rfl [(some ⟨g8, 0, none⟩, 4, 4, [0, 0, 0, 1]), (some ⟨g10, 0, none⟩, l.size, C10, textL l), (some ⟨g11, 0, none⟩, 1, 1, [0]), (some ⟨g13, 0, none⟩, k.size, C13, textL k), (some ⟨g14, 0, none⟩, 4, 4, [0, 0, 0, 128])] rfl (by kernel_rfl) (List.forall_mem_cons.2 ⟨(((H8.out.over b10.out).over b11.out).over b13.out).over b14.out, List.forall_mem_cons.2 ⟨((H10.out.over b11.out).over b13.out).over b14.out, List.forall_mem_cons.2 ⟨(H11.out.over b13.out).over b14.out, List.forall_mem_cons.2 ⟨H13.out.over b14.out, List.forall_mem_cons.2 ⟨H14.out, fun _ h => by cases h⟩⟩⟩⟩⟩) ?_; intro g15 w15 P15 b15)
    | fail)
  have B14 : Hid (Below w6.heap.size w6 w15) := step (step (step (step (step b8.out b10.out) b11.out) b13.out) b14.out) b15.out
  have B15 : Hid (Below w.heap.size w w15) := step b6.out B14.out
  refine (CM _ g8 g10 C10 g11 g13 C13 g14 (HH.out.over B15.out) g15 P15.out (HT.out.below B15.out)).out.mono ?_
  rintro e w16 ⟨rfl, b16⟩
  have A616 : Hid (Arr w16 g6 .u8 26 X) := (A6.out.over B14.out).over b16
  have B16 : Hid (Below w.heap.size w w16) := step B15.out b16
  clear H8 H10 H11 H13 H14 P15 b8 b10 b11 b13 b14 b15 b16 B14 B15 HH A6 b6 s6 CM
  go_wp2_with fail
  refine (csh _).out.mono ?_
  rintro e w17 ⟨rfl, b17⟩
  have A617 : Hid (Arr w17 g6 .u8 26 X) := A616.out.over b17
  have B17 : Hid (Below w.heap.size w w17) := step B16.out b17
  clear b17 A616 B16
  go_wp2_with (first
    | ((with_reducible show wpList _ _ _ (⟨none, .store _ (.tmp 6) _, _, _, _, _⟩ :: _) _ _); refine wpList_store_arr rfl _ (.tmp 6) (.tmp 17) rfl g6 rfl .u8 _ _ R rfl A617 16 size_g HX HR ?_; intro w19 A19 o19 s19)
    | fail)
  refine bodyPost_ret (v := .agg (R.map (Value.int .u8)).toArray) ?_ rfl ⟨rfl, B17.out.trans (o19.out.below e6)⟩
  exact results_cell_row rfl _ _ g6 _ _ (0, 0) _ rfl A19.out Tryd.underlying26 rfl (by rw [size_g]; have := HR.out; simp [this])

set_option maxRecDepth 100000 in
set_option maxHeartbeats 2000000 in
theorem Proof_any (w : World) (l : ByteArray) (hl : l.size ≤ 140737488355000) (xs : List Int) (hx : xs.length = 8) (hb : Bytes xs) (hK : KTab w) :
    Calls Tryd.prog 14 #[.string l, .agg (xs.map (Value.int .u8)).toArray] w fun e w' => e = .returned (.agg ((macL (textL l) xs).map (Value.int .u8)).toArray) ∧ Below w.heap.size w w' := by
  have cm := fun w g2 c2 g1 h gs hP hK => macOf_any w (some ⟨g2, 0, none⟩) l.size c2 (textL l) (by omega) h gs 1 (partA [(some ⟨g1, 0, none⟩, 8, 8, xs)]) (partN [(some ⟨g1, 0, none⟩, 8, 8, xs)]) (partC [(some ⟨g1, 0, none⟩, 8, 8, xs)]) (partX [(some ⟨g1, 0, none⟩, 8, 8, xs)]) hP (by omega) (show 0 + 8 ≤ _ by omega) hK
  have hcx : ∀ g1 : Nat, catL (partX [(some ⟨g1, 0, none⟩, 8, 8, xs)]) 1 = xs := fun _ => rfl
  simp only [hcx] at cm
  have HR : Hid ((macL (textL l) xs).length = 32) := macL_len _ _
  obtain ⟨R, hR⟩ : ∃ R, R = macL (textL l) xs := ⟨_, rfl⟩
  rw [← hR] at cm HR ⊢
  have CM := fun w g2 c2 g1 h gs hP hK => Lib.hid (cm w g2 c2 g1 h gs hP hK)
  obtain ⟨X, hX⟩ : ∃ Z : List Int, Z = List.replicate 32 0 := ⟨_, rfl⟩
  have HX := len0 32
  have hx1 := zero_m
  rw [← hX] at HX hx1
  have HX1 := Lib.hid hx1
  have HT := Lib.hid hK
  have HXL := Lib.hid hx
  clear hR hx1 hX hK cm hx
  go_enter Tryd.func14, Tryd.ntmps14
  go_wp2_with (first
    | ((with_reducible show wpList _ _ _ (⟨some 3, _, _, _, _, _⟩ :: _) _ _); refine wpList_box_arr rfl _ (.tmp 1) rfl .u8 xs rfl ?_; intro g3 w3 e3 s3 A3 b3)
    | ((with_reducible show wpList _ _ _ (⟨some 4, _, _, _, _, _⟩ :: _) _ _); refine wpList_alloc_arr rfl _ rfl .u8 X 32 HX1 ?_; intro g4 w4 e4 s4 A4 b4)
    | ((with_reducible show wpList _ _ _ (⟨some 6, _, _, _, _, _⟩ :: _) _ _); refine wpList_text rfl (.tmp 5) rfl l rfl (by omega) ?_; intro g6 C6 w6 H6 b6)
    | ((with_reducible show wpList _ _ _ (⟨some 8, _, _, _, _, _⟩ :: _) _ _); refine wpList_litParts rfl 1 _ rfl [(some ⟨g3, 0, none⟩, 8, 8, xs)] rfl (by kernel_rfl) (List.forall_mem_cons.2 ⟨((A3.out.over b4.out).over b6.out).holds (n := 8) HXL.out hb (by omega), fun _ h => by cases h⟩) ?_; intro g8 w8 P8 b8)
    | fail)
  have hs3 := b3.out.size
  have B8 : Hid (Below w.heap.size w w8) := step (step (step b3.out b4.out) b6.out) b8.out
  refine (CM _ g6 C6 g3 (H6.out.over b8.out) g8 P8.out (HT.out.below B8.out)).out.mono ?_
  rintro e w9 ⟨rfl, b9⟩
  have A49 : Hid (Arr w9 g4 .u8 24 X) := ((A4.out.over b6.out).over b8.out).over b9
  have B9 : Hid (Below w.heap.size w w9) := step B8.out b9
  have l4 : w.heap.size ≤ g4 := by omega
  clear A3 A4 H6 P8 b3 b4 b6 b8 b9 B8 e3 s3 e4 s4 hs3
  go_wp2_with (first
    | ((with_reducible show wpList _ _ _ (⟨none, .store _ (.tmp 4) _, _, _, _, _⟩ :: _) _ _); refine wpList_store_arr rfl _ (.tmp 4) (.tmp 9) rfl g4 rfl .u8 _ _ R rfl A49 32 size_o HX HR ?_; intro w19 A19 o19 s19)
    | fail)
  refine bodyPost_ret (v := .agg (R.map (Value.int .u8)).toArray) ?_ rfl ⟨rfl, B9.out.trans (o19.out.below l4)⟩
  exact results_cell_row rfl _ _ g4 _ _ (0, 0) _ rfl A19.out Tryd.underlying24 rfl (by rw [size_o]; have := HR.out; simp [this])
end Go.Proofs.YtomdgiikjnghcaaDoor
