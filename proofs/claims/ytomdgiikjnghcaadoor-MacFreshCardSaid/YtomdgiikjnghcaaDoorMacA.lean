/-
  Layer 4 (mac), words: keys that are laid into a block, what is summed behind them, signatures; and laws that its walks need: parts of arrays, copies into an array, steps of a region that draws. No function of the program is named here.
-/
import Derived.Test.YtomdgiikjnghcaaDoorShaG
import Derived.Test.YtomdgiikjnghcaaDoorHeld
import Derived.Test.YtomdgiikjnghcaaDoorNums
import Derived.Laws.IdiomStrings
namespace Go.Proofs.YtomdgiikjnghcaaDoor
open Go.RowKit

/-! ### what the document says -/

theorem wf8 {x : Int} (h : (Lit.int .u8 x).wf = true) : 0 ≤ x ∧ x ≤ 255 := by simpa [Lit.wf, IntKind.min, IntKind.max, IntKind.signed, IntKind.bits] using h
theorem bits8 (op : BinOp) (x y : Int) : 0 ≤ bits op .u8 x y ∧ bits op .u8 x y ≤ 255 := wf8 (wf_bits op .u8 x y)

/-- each byte against c -/
def xorL (c : Int) (xs : List Int) : List Int := xs.map fun y => bits .xor .u8 y c
theorem xorL_len (c : Int) (xs : List Int) : (xorL c xs).length = xs.length := by simp [xorL]
theorem xorL_bytes (c : Int) (xs : List Int) : Bytes (xorL c xs) := fun x hx => by
  obtain ⟨j, _, rfl⟩ := List.mem_map.1 hx
  exact bits8 _ _ _
/-- bytes with noughts behind them to 64 -/
def padK (l : List Int) : List Int := l ++ List.replicate (64 - l.length) 0
/-- a key, laid into a block -/
def keyL (k : List Int) : List Int := padK (if 64 < k.length then sumOf k else k)
def macL (k b : List Int) : List Int := sumOf (xorL 92 (keyL k) ++ sumOf (xorL 54 (keyL k) ++ b))
def deriveB (l c : List Int) : List Int := [0, 0, 0, 1] ++ l ++ [0] ++ c ++ [0, 0, 0, 128]
def deriveL (k l c : List Int) : List Int := (macL k (deriveB l c)).take 16
/-- a message whose signature is noughts -/
def blankL (m : List Int) : List Int := m.take 48 ++ List.replicate 16 0 ++ m.drop 64
def sigL (k m : List Int) : List Int := (macL k (blankL m)).take 16
def signL (k m : List Int) : List Int := m.take 48 ++ sigL k m ++ m.drop 64
/-- is it signed -/
def signedL (k m : List Int) : Bool := decide ((m.drop 48).take 16 = sigL k m)

theorem padK_len (l : List Int) (h : l.length ≤ 64) : (padK l).length = 64 := by simp [padK]; omega
theorem padK_bytes (l : List Int) (h : Bytes l) : Bytes (padK l) := h.append (Bytes.zeros _)
theorem sumOf_len (xs : List Int) : (sumOf xs).length = 32 := outOf_len _
theorem sumOf_bytes (xs : List Int) : Bytes (sumOf xs) := outOf_bytes _
theorem keyL_len (k : List Int) : (keyL k).length = 64 := by
  unfold keyL
  split
  · exact padK_len _ (by rw [sumOf_len]; omega)
  · exact padK_len _ (by omega)
theorem keyL_bytes (k : List Int) (h : Bytes k) : Bytes (keyL k) := by
  unfold keyL
  split
  · exact padK_bytes _ (sumOf_bytes _)
  · exact padK_bytes _ h
theorem macL_len (k b : List Int) : (macL k b).length = 32 := sumOf_len _
theorem macL_bytes (k b : List Int) : Bytes (macL k b) := sumOf_bytes _
theorem sigL_len (k m : List Int) : (sigL k m).length = 16 := by simp [sigL, macL_len]
theorem sigL_bytes (k m : List Int) : Bytes (sigL k m) := (macL_bytes _ _).take _
theorem deriveL_len (k l c : List Int) : (deriveL k l c).length = 16 := by simp [deriveL, macL_len]
theorem blankL_len (m : List Int) (h : 64 ≤ m.length) : (blankL m).length = m.length := by simp [blankL]; omega
theorem blankL_bytes (m : List Int) (h : Bytes m) : Bytes (blankL m) := ((h.take _).append (Bytes.zeros _)).append (h.drop _)
theorem signL_len (k m : List Int) (h : 64 ≤ m.length) : (signL k m).length = m.length := by simp [signL, sigL_len]; omega
theorem signL_bytes (k m : List Int) (h : Bytes m) : Bytes (signL k m) := ((h.take _).append (sigL_bytes _ _)).append (h.drop _)

section
variable {k m : List Int}
theorem signL_head (h : 64 ≤ m.length) : (signL k m).take 48 = m.take 48 := by
  unfold signL
  rw [List.append_assoc, List.take_left' (by simp; omega)]
theorem signL_tail (h : 64 ≤ m.length) : (signL k m).drop 64 = m.drop 64 := by
  unfold signL
  rw [List.drop_left' (by simp [sigL_len]; omega)]
theorem signL_mid (h : 64 ≤ m.length) : ((signL k m).drop 48).take 16 = sigL k m := by
  unfold signL
  rw [List.append_assoc, List.drop_left' (by simp; omega), List.take_left' (sigL_len _ _)]
theorem blankL_sign (h : 64 ≤ m.length) : blankL (signL k m) = blankL m := by
  unfold blankL
  rw [signL_head h, signL_tail h]
theorem sigL_sign (h : 64 ≤ m.length) : sigL k (signL k m) = sigL k m := by unfold sigL; rw [blankL_sign h]
theorem signL_sign (h : 64 ≤ m.length) : signL k (signL k m) = signL k m := by
  show (signL k m).take 48 ++ sigL k (signL k m) ++ (signL k m).drop 64 = _
  rw [signL_head h, signL_tail h, sigL_sign h]
  rfl
theorem signedL_sign (h : 64 ≤ m.length) : signedL k (signL k m) = true := by
  unfold signedL
  rw [decide_eq_true_iff, signL_mid h, sigL_sign h]
end

/-! ### arrays -/

section
variable {w w' : World} {g B : Nat} {k : IntKind} {T : TypeId} {xs : List Int}
/-- what an array in a block reads as, sliced whole -/
theorem Arr.holds (h : Arr w g .u8 T xs) {n : Nat} (hn : xs.length = n) (hx : Bytes xs) (hb : n ≤ 281474976710656) : Holds w w.heap.size (some ⟨g, 0, none⟩) n n xs :=
  ⟨hn, Nat.le_refl _, hb, hx, fun hA => (by cases hA), fun _ => ⟨g, 0, rfl, h.lt, fun i hi => by rw [Nat.zero_add]; exact h.cell (by omega)⟩⟩
end

section
variable {P : Program} {ops : Array Oper} {rest : List Oper} {o : Oper} {a : Act} {w : World} {Q : Exit → Act → World → Prop}

theorem run_loadVar_part {w : World} {T e : TypeId} {n : Nat} (k : IntKind) (b off : Nat) (xs : List Int) (hu : P.underlying T = some (.array n e)) (hi : (P.info? T).map (·.size) = some n) (hn : xs.length = n)
    (hc : ∀ i, i < n → w.cell? ⟨b, off + i, none⟩ = some (.int k (xs.getD i 0))) : (loadVar T ⟨b, off, none⟩).run P w = .ok (.agg (xs.map (Value.int k)).toArray) w := by
  have hl := run_loadCells_list (P := P) (w := w) ⟨b, off, none⟩ (xs.map (Value.int k)) (fun j v hj => by
    have hjl : j < xs.length := by
      by_cases hj' : j < xs.length
      · exact hj'
      · rw [List.getElem?_eq_none (by simp; omega)] at hj
        cases hj
    have e1 : (⟨b, off, none⟩ : Addr).add j = ⟨b, off + j, none⟩ := by
      by_cases hj0 : j = 0
      · subst hj0; simp [Addr.add]
      · simp [Addr.add, hj0]
    rw [e1, hc j (by omega), ← hj]
    simp [hjl])
  rw [List.length_map, hn] at hl
  obtain ⟨j, hj, hj1⟩ : ∃ j, P.info? T = some j ∧ j.size = n := by
    cases hq : P.info? T with
    | none => simp [hq] at hi
    | some j => exact ⟨j, rfl, by simpa [hq] using hi⟩
  have hagg : (isAgg T).run P w = .ok true w := by
    unfold isAgg
    rw [Sem.run_bind, run_underlying hu w]
    rfl
  unfold loadVar
  simp [Sem.run_bind, hagg, sizeOf, typeInfo, hj, hj1, hl]

/-- an array out of a run of cells (behind '[16]byte(slice)') -/
theorem wpList_load_part (hg : o.guard = none) (T : TypeId) (x : Operand) (ho : o.op = .load T x) (b off : Nat) (hx : a.eval x = .pointer (some ⟨b, off, none⟩)) (k : IntKind) (xs : List Int) (n : Nat) (e : TypeId)
    (hu : P.underlying T = some (.array n e)) (hi : (P.info? T).map (·.size) = some n) (hn : Hid (xs.length = n)) (hc : Hid (∀ i, i < n → w.cell? ⟨b, off + i, none⟩ = some (.int k (xs.getD i 0))))
    (h : wpList P ops Q rest (a.put o.dst (.agg (xs.map (Value.int k)).toArray)) w) : wpList P ops Q (o :: rest) a w := by
  refine wpList_plain hg fun K hK => ?_
  unfold Oper.wp execOp
  have hr := run_loadVar_part (P := P) (w := w) k b off xs hu hi hn.out hc.out
  simp only [ho, hx, Instr.loadAt, Instr.sureAddr, Sem.run_bind, Sem.run_pure, Result.andThen_ok, hr]
  exact hK _ _ h

theorem wpList_s2ap (hg : o.guard = none) (T : TypeId) (x : Operand) (ho : o.op = .sliceToArrayPointer T x) (n m c : Nat) (e : TypeId) (ad : Addr) (hx : a.eval x = .slice (some ad) m c) (hu : P.underlying T = some (.array n e)) (hm : n ≤ m)
    (h : wpList P ops Q rest (a.put o.dst (.pointer (some ad))) w) : wpList P ops Q (o :: rest) a w := by
  refine wpList_plain hg fun K hK => ?_
  unfold Oper.wp execOp
  have hlt : ¬ m < n := by omega
  simp only [ho, hx, Instr.arrayAt, Sem.run_bind, run_underlying hu, Sem.run_pure, Result.andThen_ok, hlt, if_false]
  exact hK _ _ h

theorem yieldsIf_s2ap {S : World → Prop} {op : Oper} (hw : Region.wanted op (yielded ops a.tmps) = true) (T : TypeId) (x : Operand) (ho : op.op = .sliceToArrayPointer T x) (n m c : Nat) (e : TypeId) (ad : Addr) (hx : a.eval x = .slice (some ad) m c)
    (hu : P.underlying T = some (.array n e)) (hm : n ≤ m) : YieldsIf P ops S op (.pointer (some ad)) a :=
  .inl ⟨hw, fun w _ => by
    have hlt : ¬ m < n := by omega
    unfold execOp
    simp only [ho, hx, Instr.arrayAt, Sem.run_bind, run_underlying hu, Sem.run_pure, Result.andThen_ok, hlt, if_false]⟩

theorem yieldsIf_load_part {S : World → Prop} {op : Oper} (hw : Region.wanted op (yielded ops a.tmps) = true) (T : TypeId) (x : Operand) (ho : op.op = .load T x) (b off : Nat) (hx : a.eval x = .pointer (some ⟨b, off, none⟩)) (k : IntKind) (xs : List Int) (n : Nat) (e : TypeId)
    (hS : ∀ w, S w → ∀ i, i < n → w.cell? ⟨b, off + i, none⟩ = some (.int k (xs.getD i 0))) (hu : P.underlying T = some (.array n e)) (hi : (P.info? T).map (·.size) = some n) (hn : Hid (xs.length = n)) : YieldsIf P ops S op (.agg (xs.map (Value.int k)).toArray) a :=
  .inl ⟨hw, fun w hw' => by
    have hr := run_loadVar_part (P := P) (w := w) k b off xs hu hi hn.out (hS w hw')
    unfold execOp
    simp only [ho, hx, Instr.loadAt, Instr.sureAddr, Sem.run_bind, Sem.run_pure, Result.andThen_ok, hr]⟩

/-! ### steps of a region that draws, by hand -/

section
variable {K : Act → World → Prop} {E : Prop}
theorem step_alloc_arr (hg : o.guard = none) (T : TypeId) (ho : o.op = .alloc T) (k : IntKind) (zs : List Int) (n : Nat) (hi : Hid ((P.info? T).map (fun i => (i.zero, i.size)) = some (some (.agg (zs.map (Value.int k)).toArray), n)))
    (h : ∀ g w', w.heap.size ≤ g → g < w'.heap.size → Hid (Arr w' g k T zs) → Hid (Below w.heap.size w w') → K (a.put o.dst (.pointer (some ⟨g, 0, none⟩))) w') :
    if Region.wanted o (yielded ops a.tmps) = true then Oper.wp P o a w K Q else E := by
  have hw : Region.wanted o (yielded ops a.tmps) = true := by simp [Region.wanted, hg]
  rw [if_pos hw]
  unfold Oper.wp execOp
  have hz := (zero_of_info hi.out).1
  simp only [ho, Sem.run_bind, Instr.alloc, hz, newVar, newRow, run_newObj_alloc, Sem.run_pure, Result.andThen_ok]
  exact h _ _ (Nat.le_refl _) (by simp) (Arr.new w k T _) ((Below.refl _ _).alloc (Nat.le_refl _) _)

theorem step_store_arr (hg : o.guard = none) (T : TypeId) (x y : Operand) (ho : o.op = .store T x y) (g : Nat) (hx : a.eval x = .pointer (some ⟨g, 0, none⟩)) (k : IntKind) (T' : TypeId) (xs ys : List Int) (hy : a.eval y = .agg (ys.map (Value.int k)).toArray)
    (hA : Hid (Arr w g k T' xs)) (n : Nat) (hi : (P.info? T).map (·.size) = some n) (hn : Hid (xs.length = n)) (hm : Hid (ys.length = n))
    (h : ∀ w', Hid (Arr w' g k T' ys) → Hid (Only g w w') → g < w'.heap.size → K (a.put o.dst undef) w') :
    if Region.wanted o (yielded ops a.tmps) = true then Oper.wp P o a w K Q else E := by
  have hw : Region.wanted o (yielded ops a.tmps) = true := by simp [Region.wanted, hg]
  rw [if_pos hw]
  refine wp_store_row T x y ho g _ hx hy T' _ hA.out (by rw [hi]; have := hm.out; simp [this]) (by have := hm.out; have := hn.out; simp_all) ?_ (h _ ?_ ((Only.refl g w).setRow _) (by rw [size_setRow]; exact hA.out.lt))
  · apply Array.all_eq_true_iff_forall_mem.2
    intro v hv
    have hv' : v ∈ ys.map (Value.int k) := by simpa using hv
    obtain ⟨z, _, rfl⟩ := List.mem_map.1 hv'
    rfl
  · exact setRow_heap w g _ _ T' (0, 0) hA.out
end

/-- one of two operations may come up -/
theorem wpAnyH_two {md : Region.Mode} {S : World → Prop} (i j : Nat) (oi oj : Oper) {fuel : Nat} {listed : Array Bool} {a : Act} {w : World} (hr : Region.ready md ops listed = [i, j]) (hi : ops[i]? = some oi) (hj : ops[j]? = some oj)
    (h1 : ∀ K : Act → World → Prop, (∀ a' w', S w' → wpAnyH P md ops Q S fuel (listed.setIfInBounds i true) a' w' → K a' w') → if Region.wanted oi (yielded ops a.tmps) = true then oi.wp P a w K Q else K (a.put oi.dst undef) w)
    (h2 : ∀ K : Act → World → Prop, (∀ a' w', S w' → wpAnyH P md ops Q S fuel (listed.setIfInBounds j true) a' w' → K a' w') → if Region.wanted oj (yielded ops a.tmps) = true then oj.wp P a w K Q else K (a.put oj.dst undef) w) :
    wpAnyH P md ops Q S (fuel + 1) listed a w := by
  refine wpAnyH_all hr (by simp) fun q hq => ?_
  rcases List.mem_cons.1 hq with rfl | hq
  · have h3 := h1 (fun a' w' => S w' ∧ wpAnyH P md ops Q S fuel (listed.setIfInBounds q true) a' w') fun _ _ h2 h3 => ⟨h2, h3⟩
    unfold wpOp
    simp only [hi]
    by_cases hw : Region.wanted oi (yielded ops a.tmps) = true
    · rw [if_pos hw] at h3 ⊢
      exact .inl h3
    · rw [if_neg hw] at h3 ⊢
      exact h3
  · obtain rfl := List.mem_singleton.1 hq
    have h3 := h2 (fun a' w' => S w' ∧ wpAnyH P md ops Q S fuel (listed.setIfInBounds q true) a' w') fun _ _ h2 h3 => ⟨h2, h3⟩
    unfold wpOp
    simp only [hj]
    by_cases hw : Region.wanted oj (yielded ops a.tmps) = true
    · rw [if_pos hw] at h3 ⊢
      exact .inl h3
    · rw [if_neg hw] at h3 ⊢
      exact h3
end

/-- copy(array[:], src), all of src fitting in -/
theorem wpList_copy_into {w : World} {ops : Array Oper} {rest : List Oper} {o : Oper} {a : Act} {Q : Exit → Act → World → Prop} (hgd : o.guard = none) (d s : Operand)
    (ho : o.op = .call { callee := .builtin .copy, args := #[d, s], argTypes := #[22, 22] })
    (g : Nat) (T : TypeId) (dLen dCap n c : Nat) (A : Option Addr) (hd : a.eval d = .slice (some ⟨g, 0, none⟩) dLen dCap) (hs : a.eval s = .slice A n c)
    (cur xs : List Int) (B : Nat) (hrow : Hid (Arr w g .u8 T cur)) (hx : Holds w B A n c xs) (hn : n ≤ dLen) (hfit : n ≤ cur.length)
    (h : ∀ w', Hid (Arr w' g .u8 T (xs ++ cur.drop n)) → Hid (Below g w w') → wpList Tryd.prog ops Q rest (a.put o.dst (goInt n)) w') :
    wpList Tryd.prog ops Q (o :: rest) a w := by
  have hl := hx.len
  obtain ⟨i0, hi, hz0, hz1, hz2⟩ := info_parts info_u8
  refine wpList_copy_splice hgd d s 22 22 ho 5 Tryd.underlying22 (by rw [hi]; simp [hz1]) (some ⟨g, 0, none⟩) A dLen dCap n c hd hs g 0 (cur.map (Value.int .u8)) T hrow.out (xs.map (Value.int .u8)) (by rw [List.length_map, hl]; exact (Nat.min_eq_left hn).symm) ?_ (by simp; omega)
    (by intro v hv; obtain ⟨x, _, rfl⟩ := List.mem_map.1 hv; rfl) g w (Below.refl _ _) (Nat.le_refl _) ?_
  · intro h0
    refine ⟨rfl, ?_⟩
    obtain ⟨b, off, rfl, _, hc⟩ := hx.cells (by simp at h0; omega)
    refine ⟨⟨b, off, none⟩, rfl, fun j v hj => ?_⟩
    have hjl : j < xs.length := by
      by_cases hj' : j < xs.length
      · exact hj'
      · rw [List.getElem?_eq_none (by simp; omega)] at hj
        cases hj
    have e : (⟨b, off, none⟩ : Addr).add j = ⟨b, off + j, none⟩ := by
      by_cases hj0 : j = 0
      · subst hj0; simp [Addr.add]
      · simp [Addr.add, hj0]
    rw [e, hc j (by omega), ← hj]
    simp [hjl]
  · intro w' hr hb
    have e : (splice (cur.map (Value.int .u8)) 0 (xs.map (Value.int .u8))) = (xs ++ cur.drop n).map (Value.int .u8) := by
      simp [splice, hl]
    have hr' := hr.out
    rw [e] at hr'
    rw [List.length_map, hl] at *
    exact h w' hr' hb

/-- the bytes of a text -/
def textL (s : ByteArray) : List Int := s.data.toList.map fun b => (b.toNat : Int)
theorem textL_len (s : ByteArray) : (textL s).length = s.size := by
  unfold textL
  rw [List.length_map, Array.length_toList]
  rfl
theorem textL_bytes (s : ByteArray) : Bytes (textL s) := fun x hx => by
  obtain ⟨b, _, rfl⟩ := List.mem_map.1 hx
  have := b.toNat_lt
  omega
/-- '[]byte(s)': the row that it lays -/
theorem Holds.text (w : World) (s : ByteArray) (C : Nat) (fr : Nat × Nat) (T : TypeId) (hC : s.size ≤ C) (hn : s.size ≤ 281474976710656) :
    Holds (w.alloc (.cells (bytesRow s C) T fr)) (w.heap.size + 1) (some ⟨w.heap.size, 0, none⟩) s.size C (textL s) :=
  ⟨textL_len s, hC, hn, textL_bytes s, fun hA => (by cases hA), fun _ => ⟨w.heap.size, 0, rfl, by omega, fun i hi => by
    have hr : (w.alloc (.cells (bytesRow s C) T fr)).heap[w.heap.size]? = some (.cells (bytesRow s C) T fr) := heap_alloc_new w _
    have hi' : i < s.data.size := hi
    rw [Nat.zero_add, cell_of_row _ w.heap.size i _ T fr hr]
    unfold bytesRow textL
    rw [Array.getElem?_append_left (by simp; omega)]
    simp only [List.getD_eq_getElem?_getD, List.getElem?_map, Array.getElem?_toList, Array.getElem?_map, Array.getElem?_eq_getElem hi']
    rfl⟩⟩
end Go.Proofs.YtomdgiikjnghcaaDoor
