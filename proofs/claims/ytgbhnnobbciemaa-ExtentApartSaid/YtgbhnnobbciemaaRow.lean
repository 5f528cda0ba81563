/-
  Rows of bytes that a call has made ('Row', 'Fresh'), and the laws at make, copy and a store over them.
-/
import Derived.Test.YtgbhnnobbciemaaWords
import Derived.Test.YtgbhnnobbciemaaRows
import Derived.Laws.CopyOwn
import Derived.Laws.AppendOwnNone
import Derived.Lib.Hide
namespace Go.Proofs.Ytgbhnnobbciemaa
open Go.RowKit

/-- block g is a whole row of bytes, none frozen -/
def Row (w : World) (g : Nat) (xs : List Int) : Prop := w.heap[g]? = some (.cells (xs.map (Value.int .u8)).toArray 5 (0, 0))

/-- the slice '.slice A n n' is nil, or the whole of a row in a block from 'base' on -/
def Fresh (w : World) (base : Nat) (A : Option Addr) (xs : List Int) : Prop := (A = none ∧ xs = []) ∨ ∃ g, A = some ⟨g, 0, none⟩ ∧ base ≤ g ∧ Row w g xs

section
variable {w w' : World} {g B base : Nat} {xs : List Int}
theorem Row.lt (h : Row w g xs) : g < w.heap.size := (Array.getElem?_eq_some_iff.1 h).1
theorem Row.cell (h : Row w g xs) {i : Nat} (hi : i < xs.length) : w.cell? ⟨g, i, none⟩ = some (.int .u8 (xs.getD i 0)) := by
  rw [cell_of_row w g i _ 5 (0, 0) h]
  simp [hi]
theorem Row.frozen (h : Row w g xs) (i : Nat) : w.frozen? ⟨g, i, none⟩ = false := frozen_of_row w g i _ 5 h
theorem Row.below (h : Row w g xs) (hb : Below B w w') (hg : g < B) : Row w' g xs := (hb.block g hg).trans h
theorem Row.set (h : Row w g xs) (i : Nat) (u : Int) : Row (w.setCell ⟨g, i, none⟩ (.int .u8 u)) g (xs.set i u) := by
  have h1 := heap_setCell_same w g i _ 5 (.int .u8 u) h
  unfold Row
  rw [h1]
  simp [List.map_set]
theorem Row.drewN (h : Row w g xs) (k : Nat) : Row (w.drewN k) g xs := h

theorem Fresh.holds {A : Option Addr} {n : Nat} (h : Fresh w base A xs) (hn : xs.length = n) (hx : Bytes xs) (hc : n ≤ 281474976710656) : Holds w w.heap.size A n n xs := by
  refine ⟨hn, Nat.le_refl _, hc, hx, fun hA => ?_, fun h0 => ?_⟩
  · rcases h with ⟨_, rfl⟩ | ⟨g, rfl, _, hr⟩
    · exact hn.symm
    · cases hA
  rcases h with ⟨_, rfl⟩ | ⟨g, rfl, _, hr⟩
  · simp at hn; omega
  · exact ⟨g, 0, rfl, hr.lt, fun i hi => by rw [Nat.zero_add]; exact hr.cell (by omega)⟩
theorem Fresh.keep {A : Option Addr} {row : Option Nat} (h : Fresh w base A xs) (hg : w.grownBy w' row) (hr : ∀ k, row = some k → k < base) : Fresh w' base A xs := by
  rcases h with h | ⟨g, rfl, hb, hrow⟩
  · exact .inl h
  · exact .inr ⟨g, rfl, hb, (hg.block g hrow.lt (fun e => by have := hr g e.symm; omega)).trans hrow⟩
theorem Fresh.len0 {A : Option Addr} (h : Fresh w base A xs) (hA : A = none) : xs = [] := by
  rcases h with ⟨_, h⟩ | ⟨g, rfl, _⟩
  · exact h
  · cases hA
theorem Fresh.below {A : Option Addr} (h : Fresh w base A xs) (hb : Below w.heap.size w w') : Fresh w' base A xs := by
  rcases h with h | ⟨g, rfl, hg, hr⟩
  · exact .inl h
  · exact .inr ⟨g, rfl, hg, hr.below hb hr.lt⟩
end

theorem info_u8 : (Try.prog.info? 5).map (fun i => (i.zero, i.size, i.bytes)) = some (some (.int .u8 0), 1, 1) := by kernel_rfl

/-- make([]byte, n) -/
theorem wpList_make_bytes (w : World) {ops : Array Oper} {rest : List Oper} {o : Oper} {a : Act} {Q : Exit → Act → World → Prop}
    (hg : o.guard = none) (l c : Operand) (hop : o.op = Op.makeSlice 29 l c) (L C : Int) (n : Nat) (hl : a.eval l = .int .i64 L) (hc : a.eval c = .int .i64 C) (hL : L = (n : Int)) (hC : C = (n : Int)) (hn : n ≤ 281474976710656)
    (hK : ∀ w', Hid (Row w' w.heap.size (List.replicate n 0)) → Below w.heap.size w w' → wpList Try.prog ops Q rest (a.put o.dst (.slice (some ⟨w.heap.size, 0, none⟩) n n)) w') :
    wpList Try.prog ops Q (o :: rest) a w := by
  obtain ⟨i0, hi, hz0, hz1, hz2⟩ := info_parts info_u8
  refine wpList_make_full w hg l c 29 hop w.heap.size 5 i0 (.int .u8 0) 1 Try.underlying29 hi hz0 hz1 .i64 .i64 L C n hl hc hL hC (by rw [hz2]; omega) (by unfold maxLen; omega) (Nat.le_refl _) ?_
  intro w' hown hgr
  refine hK w' ?_ ((Below.refl _ _).grown hgr (Nat.le_refl _) (fun k hk => by cases hk))
  rcases hown.2 with ⟨h0, _⟩ | ⟨g, cap, cur, hv, _, hh, _, _, hcs, htk⟩
  · cases h0
  · simp only [Value.slice.injEq, Option.some.injEq, Addr.mk.injEq, and_true, true_and] at hv
    obtain ⟨rfl, rfl⟩ := hv
    show w'.heap[_]? = _
    rw [hh]
    have e : cur.toList = List.replicate n (.int .u8 0) := by
      have h1 : cur.toList.take (n * 1) = cur.toList := List.take_of_length_le (by simp [hcs])
      rw [← h1, htk]
      rw [Nat.mul_one]
      exact toList_madeCells_one (.int .u8 0) n
    rw [List.map_replicate, ← e]

/-- copy(dst, src), dst the head of a made row, all of src fitting in -/
theorem wpList_copy_bytes {w : World} {ops : Array Oper} {rest : List Oper} {o : Oper} {a : Act} {Q : Exit → Act → World → Prop} (hgd : o.guard = none) (d s : Operand)
    (ho : o.op = .call { callee := .builtin .copy, args := #[d, s], argTypes := #[29, 29] })
    (g dLen dCap n c : Nat) (A : Option Addr) (hd : a.eval d = .slice (some ⟨g, 0, none⟩) dLen dCap) (hs : a.eval s = .slice A n c)
    (cur xs : List Int) (B : Nat) (hrow : Hid (Row w g cur)) (hx : Holds w B A n c xs) (hn : n ≤ dLen) (hfit : n ≤ cur.length)
    (h : ∀ w', Hid (Row w' g (xs ++ cur.drop n)) → Below g w w' → wpList Try.prog ops Q rest (a.put o.dst (goInt n)) w') :
    wpList Try.prog ops Q (o :: rest) a w := by
  have hl := hx.len
  obtain ⟨i0, hi, hz0, hz1, hz2⟩ := info_parts info_u8
  refine wpList_copy_splice hgd d s 29 29 ho 5 Try.underlying29 (by rw [hi]; simp [hz1]) (some ⟨g, 0, none⟩) A dLen dCap n c hd hs g 0 (cur.map (Value.int .u8)) 5 hrow.out (xs.map (Value.int .u8)) (by rw [List.length_map, hl]; exact (Nat.min_eq_left hn).symm) ?_ (by simp; omega)
    (by intro v hv; obtain ⟨x, _, rfl⟩ := List.mem_map.1 hv; rfl) g w (Below.refl _ _) (Nat.le_refl _) ?_
  · intro h0
    refine ⟨rfl, ?_⟩
    obtain ⟨b, off, rfl, _, hc⟩ := hx.cells (by simp at h0; omega)
    refine ⟨⟨b, off, none⟩, rfl, fun j v hj => ?_⟩
    have hjl : j < xs.length := by
      by_cases hj' : j < xs.length
      · exact hj'
      · rw [List.getElem?_eq_none (by simp; omega)] at hj
        cases hj
    have e : (⟨b, off, none⟩ : Addr).add j = ⟨b, off + j, none⟩ := by
      by_cases hj0 : j = 0
      · subst hj0; simp [Addr.add]
      · simp [Addr.add, hj0]
    rw [e, hc j (by omega), ← hj]
    simp [hjl]
  · intro w' hr hb
    have e : (splice (cur.map (Value.int .u8)) 0 (xs.map (Value.int .u8))) = (xs ++ cur.drop n).map (Value.int .u8) := by
      simp [splice, hl]
    have hr' := hr.out
    rw [e] at hr'
    rw [List.length_map, hl] at *
    exact h w' hr' hb

/-! ### append onto a row of the call's own -/

/-- the slice value v is nil, or heads a row in a block from 'base' on that begins with the bytes xs (and may have room behind them) -/
def Own (w : World) (base : Nat) (v : Value) (xs : List Int) : Prop := w.ownsRow base 5 1 v xs.length (xs.map (Value.int .u8))

theorem Own.nil (w : World) (base : Nat) : Own w base (.slice none 0 0) [] := World.ownsRow_nil w base 5 1
theorem Own.holds {w : World} {base : Nat} {v : Value} {xs : List Int} (h : Own w base v xs) (hx : Bytes xs) (hn : xs.length ≤ 281474976710656) :
    ∃ A c, v = .slice A xs.length c ∧ Holds w w.heap.size A xs.length c xs := by
  rcases h.2 with ⟨rfl, h0⟩ | ⟨g, cap, cur, rfl, hb, hg, hnc, hcm, hcs, htk⟩
  · have : xs = [] := List.eq_nil_of_length_eq_zero h0
    subst this
    exact ⟨none, 0, rfl, Holds.nil _ _⟩
  · refine ⟨_, _, rfl, rfl, hnc, hn, hx, fun hA => (by cases hA), fun h0 => ⟨g, 0, rfl, (Array.getElem?_eq_some_iff.1 hg).1, fun i hi => ?_⟩⟩
    rw [Nat.zero_add, cell_of_row w g i cur 5 (0, 0) hg]
    have e : cur[i]? = (cur.toList.take (xs.length * 1))[i]? := by
      rw [List.getElem?_take, if_pos (by omega), Array.getElem?_toList]
    rw [e, htk]
    simp [hi]
theorem Own.below {w w' : World} {base : Nat} {v : Value} {xs : List Int} (h : Own w base v xs) (hb : Below w.heap.size w w') : Own w' base v xs := by
  refine ⟨h.1, ?_⟩
  rcases h.2 with h0 | ⟨g, cap, cur, rfl, h1, hg, rest⟩
  · exact .inl h0
  · exact .inr ⟨g, cap, cur, rfl, h1, (hb.block g (Array.getElem?_eq_some_iff.1 hg).1).trans hg, rest⟩
theorem Own.mono {w : World} {base base' : Nat} {v : Value} {xs : List Int} (h : Own w base v xs) (hb : base' ≤ base) : Own w base' v xs := by
  refine ⟨h.1, ?_⟩
  rcases h.2 with h0 | ⟨g, cap, cur, rfl, h1, rest⟩
  · exact .inl h0
  · exact .inr ⟨g, cap, cur, rfl, by omega, rest⟩

theorem Own.alloc {w : World} {base : Nat} {v : Value} {xs : List Int} (h : Own w base v xs) (o : Obj) : Own (w.alloc o) base v xs := World.ownsRow.alloc h o
/-- a byte that is laid in a block of its own, to be appended -/
theorem Holds.single (w : World) (x : Int) (h : 0 ≤ x ∧ x ≤ 255) : Holds (w.alloc (.cells #[.int .u8 x] 5)) (w.heap.size + 1) (some ⟨w.heap.size, 0, none⟩) 1 1 [x] := by
  refine ⟨rfl, Nat.le_refl _, by omega, fun y hy => ?_, fun hA => (by cases hA), fun _ => ⟨w.heap.size, 0, rfl, by omega, fun i hi => ?_⟩⟩
  · rcases List.mem_singleton.1 hy with rfl
    exact h
  · obtain rfl : i = 0 := by omega
    simp
/-- a block of bytes that has just been laid (a literal; a boxed array), as the walk spells it -/
theorem Holds.lit (w : World) (xs : List Int) (cs : Array Value) (S n : Nat) (hcs : cs = (xs.map (Value.int .u8)).toArray) (hS : w.heap.size = S) (hl : xs.length = n) (hx : Bytes xs) (hn : n ≤ 281474976710656) (T : TypeId := 5) :
    Holds (w.alloc (.cells cs T)) (S + 1) (some ⟨S, 0, none⟩) n n xs := by
  subst hcs
  subst hS
  subst hl
  exact ⟨rfl, Nat.le_refl _, hn, hx, fun hA => (by cases hA), fun _ => ⟨w.heap.size, 0, rfl, by omega, fun i hi => by
    have hr : (w.alloc (.cells (xs.map (Value.int .u8)).toArray T)).heap[w.heap.size]? = some (.cells (xs.map (Value.int .u8)).toArray T (0, 0)) := heap_alloc_new w _
    rw [Nat.zero_add, cell_of_row _ w.heap.size i _ T (0, 0) hr]
    simp [hi]⟩⟩
theorem Own.len {w : World} {base : Nat} {v : Value} {xs : List Int} (h : Own w base v xs) : ∃ A c, v = .slice A xs.length c := by
  rcases h.2 with ⟨rfl, h0⟩ | ⟨g, cap, cur, rfl, _⟩
  · exact ⟨none, 0, by rw [h0]⟩
  · exact ⟨_, _, rfl⟩

theorem Fresh.own {w : World} {base n : Nat} {A : Option Addr} {xs : List Int} (h : Fresh w base A xs) (hn : xs.length = n) (hc : n ≤ 281474976710656) : Own w base (.slice A n n) xs := by
  refine ⟨by simp, ?_⟩
  rcases h with ⟨rfl, rfl⟩ | ⟨g, rfl, hg, hr⟩
  · obtain rfl : n = 0 := by simpa using hn.symm
    exact .inl ⟨rfl, rfl⟩
  · subst hn
    exact .inr ⟨g, xs.length, _, rfl, hg, hr, Nat.le_refl _, by unfold maxLen; omega, by simp, by rw [List.take_of_length_le (by simp)]⟩

/-- append(out, src...), out the call's own, src whatever reads as bytes -/
theorem wpList_append_bytes {w : World} {ops : Array Oper} {rest : List Oper} {o : Oper} {a : Act} {Q : Exit → Act → World → Prop} (hgd : o.guard = none) (s x : Operand)
    (ho : o.op = .call { callee := .builtin .append, args := #[s, x], argTypes := #[29, 29] })
    (base : Nat) (v : Value) (xs : List Int) (hs : a.eval s = v) (hown : Own w base v xs) (B : Nat) (A : Option Addr) (m c : Nat) (ys : List Int) (hx : a.eval x = .slice A m c)
    (hr : Holds w B A m c ys) (hlen : xs.length + ys.length ≤ 140737488355328) (hbase : base ≤ w.heap.size)
    (h : ∀ v' w', Hid (Own w' base v' (xs ++ ys)) → Below base w w' → w.grownBy w' v.ownBlock → wpList Try.prog ops Q rest (a.put o.dst v') w') :
    wpList Try.prog ops Q (o :: rest) a w := by
  obtain ⟨i0, hi, hz0, hz1, hz2⟩ := info_parts info_u8
  have hl := hr.len
  rcases A with _ | ad
  · have hc := hr.bare rfl
    have hf := hr.fit
    have hm : m = 0 := by omega
    subst hm
    subst hc
    have : ys = [] := List.eq_nil_of_length_eq_zero hl
    subst this
    refine wpList_append_own_none hgd s x 29 ho base 5 i0 1 Try.underlying29 hi v xs.length _ hs hown hx ?_
    exact h v w (by rw [List.append_nil]; exact hown) (Below.refl _ _) (World.grownBy.refl w _)
  · refine wpList_append_own w hgd s x 29 ho base 5 i0 (.int .u8 0) 1 1 Try.underlying29 hi hz0 hz1 hz2 rfl (by omega) v xs.length _ hs hown ad m c (ys.map (Value.int .u8)) hx (by simp [hl]) ?_
      (by intro v hv; obtain ⟨x, _, rfl⟩ := List.mem_map.1 hv; rfl) (by unfold maxLen; omega) (by omega) hbase ?_
    · intro j u hj
      have hjl : j < ys.length := by
        by_cases hj' : j < ys.length
        · exact hj'
        · rw [List.getElem?_eq_none (by simp; omega)] at hj
          cases hj
      obtain ⟨b, off, he, _, hcl⟩ := hr.cells (by omega)
      obtain rfl := Option.some.inj he
      have e : (⟨b, off, none⟩ : Addr).add j = ⟨b, off + j, none⟩ := by
        by_cases hj0 : j = 0
        · subst hj0; simp [Addr.add]
        · simp [Addr.add, hj0]
      rw [e, hcl j (by omega), ← hj]
      simp [hjl]
    · intro v' w' hown' hgr _
      refine h v' w' ?_ ((Below.refl _ _).grown hgr hbase (fun k hk => (hown.lt k hk).1)) hgr
      show World.ownsRow _ _ _ _ _ _ _
      rw [List.length_append, List.map_append, hl]
      exact hown'
end Go.Proofs.Ytgbhnnobbciemaa
