/-
  Layer 14 (extent), memory: rows of structs copied, cleared, appended within their room and beyond it, whole blocks told ('Blk', 'splice'). No function of the program is named here.
-/
import Derived.Test.YtgbhnnobbciemaaRowT
import Derived.Test.YtgbhnnobbciemaaHeadM
import Derived.Laws.CopyOwn
import Derived.Lib.AppendZeros
import Derived.Lib.SliceRun
import Derived.Maps.AppendAt
import Derived.Lib.Overlaps
namespace Go.Proofs.Ytgbhnnobbciemaa
set_option maxRecDepth 100000
open Go.RowKit
set_option linter.unusedVariables false

section
variable {P : Program} {w : World} {ops : Array Oper} {rest : List Oper} {o : Oper} {a : Act} {Q : Exit → Act → World → Prop}

theorem run_copy_blk (w : World) (dT sT ty elem : TypeId) (s g off dLen dCap : Nat) (ad : Addr) (sLen sCap : Nat) (cur : List Value) (t : TypeId) (cs : List Value)
    (hu : P.underlying dT = some (.slice elem)) (hs : (P.info? elem).map (·.size) = some s) (hg : Blk w g t cur) (hn : cs.length = Nat.min sLen dLen * s)
    (hsrc : ∀ j v, cs[j]? = some v → w.cell? (ad.add j) = some v) (hfit : off + cs.length ≤ cur.length) (h1 : ∀ v ∈ cs, v.oneCell' = true) :
    (Builtin.copy_ #[dT, sT] ty #[.slice (some ⟨g, off, none⟩) dLen dCap, .slice (some ad) sLen sCap]).run P w = .ok (goInt (Nat.min sLen dLen)) (w.setRow g (splice cur off cs).toArray) := by
  have hl := run_loadCells_list (P := P) w ad cs hsrc
  have hst := run_storeCells_at P g off t cs 0 cur.toArray w hg (by simpa using hfit) h1
  cases hq : P.info? elem with
  | none => simp [hq] at hs
  | some i =>
    have hi : i.size = s := by simpa [hq] using hs
    simp [Builtin.copy_, run_underlying hu, Builtin.lenOf, Builtin.firstCells, sizeOf, typeInfo, hq, hi, ← hn, hl, hst, splice]

/-- copy(dst, src) of structs of s cells, dst in a block that is known whole, src anywhere (in that block, too); as many go over as src has, or dst -/
theorem wpList_copy_blk (hgd : o.guard = none) (d x : Operand) (dT elem t : TypeId) (s k : Nat)
    (ho : o.op = .call { callee := .builtin .copy, args := #[d, x], argTypes := #[dT, dT] }) (hu : P.underlying dT = some (.slice elem)) (hs : (P.info? elem).map (·.size) = some s)
    (g off dLen dCap : Nat) (b so sLen sCap : Nat) (hd : a.eval d = .slice (some ⟨g, off, none⟩) dLen dCap) (hx : a.eval x = .slice (some ⟨b, so, none⟩) sLen sCap)
    (cur cs : List Value) (hg : Blk w g t cur) (hk : Nat.min sLen dLen = k) (hn : cs.length = k * s) (hsrc : ∀ j v, cs[j]? = some v → w.cell? ⟨b, so + j, none⟩ = some v) (hfit : off + k * s ≤ cur.length) (h1 : ∀ v ∈ cs, v.oneCell' = true)
    (h : ∀ w', Hid (Blk w' g t (splice cur off cs)) → Hid (Only g w w') → wpList P ops Q rest (a.put o.dst (goInt k)) w') : wpList P ops Q (o :: rest) a w := by
  have hrun := run_copy_blk (P := P) w dT dT o.type elem s g off dLen dCap ⟨b, so, none⟩ sLen sCap cur t cs hu hs hg (by rw [hk]; exact hn) (fun j v hj => by rw [Addr.add_mid]; exact hsrc j v hj) (by rw [hn]; exact hfit) h1
  rw [hk] at hrun
  refine wpList_plain hgd fun K hK => ?_
  unfold Oper.wp execOp
  simp only [ho, resolve, invoke, builtin, Sem.run_bind, Sem.run_pure, Result.andThen_ok, List.map_toArray, List.map_cons, List.map_nil, hd, hx, hrun]
  exact hK _ _ (h _ (setRow_heap w g _ _ t (0, 0) hg) ((Only.refl g w).setRow _))

/-- clear(x), x a slice of n structs of s cells in a block that is known whole -/
theorem wpList_clear_blk (hgd : o.guard = none) (x : Operand) (T elem t : TypeId) (s : Nat) (z : Value) (zs : List Value)
    (ho : o.op = .call { callee := .builtin .clear, args := #[x], argTypes := #[T] }) (hu : P.underlying T = some (.slice elem)) (hi : (P.info? elem).map (fun i => (i.zero, i.size)) = some (some z, s)) (hz : z.cells.size = s) (hz1 : ∀ v ∈ z.cells, v.oneCell' = true) (hs0 : 0 < s)
    (g off n c : Nat) (A : Option Addr) (hx : a.eval x = .slice A n c) (hA : 0 < n → A = some ⟨g, off, none⟩)
    (cur : List Value) (hg : Blk w g t cur) (hfit : off + n * s ≤ cur.length)
    (h : ∀ w' cs, Hid (cs.length = n * s) → Hid (Blk w' g t (splice cur off cs)) → Hid (Only g w w') → wpList P ops Q rest (a.put o.dst (.tuple #[])) w') : wpList P ops Q (o :: rest) a w := by
  have hzv := (zero_of_info hi).1
  rcases Nat.eq_zero_or_pos n with h0 | h0
  · subst h0
    have hrun : (Builtin.clear_ #[T] o.type #[.slice A 0 c]).run P w = .ok (.tuple #[]) w := by
      cases A <;> simp [Builtin.clear_, run_underlying hu]
    refine wpList_plain hgd fun K hK => ?_
    unfold Oper.wp execOp
    simp only [ho, resolve, invoke, builtin, Sem.run_bind, Sem.run_pure, Result.andThen_ok, List.map_toArray, List.map_cons, List.map_nil, hx, hrun]
    refine hK _ _ (h w [] (by show _ = _; simp) ?_ (Only.refl g w))
    show Blk w g t _
    simpa [splice] using hg
  · obtain rfl := hA h0
    obtain ⟨m, rfl⟩ : ∃ m, n = m + 1 := ⟨n - 1, by omega⟩
    have hl : (Builtin.zeroCells z.cells (m + 1)).toList.length = (m + 1) * s := by rw [Array.length_toList, size_zeroCells, hz]
    have h1 : ∀ v ∈ (Builtin.zeroCells z.cells (m + 1)).toList, v.oneCell' = true := by
      intro v hv
      simp only [Builtin.zeroCells, Array.toList_map, List.mem_map] at hv
      obtain ⟨i, _, rfl⟩ := hv
      have hlt : i % z.cells.size < z.cells.size := Nat.mod_lt _ (by omega)
      rw [getElem!_pos z.cells _ hlt]
      exact hz1 _ (Array.getElem_mem hlt)
    have hst := run_storeCells_at P g off t _ 0 cur.toArray w hg (by rw [hl]; simpa using hfit) h1
    have hrun : (Builtin.clear_ #[T] o.type #[.slice (some ⟨g, off, none⟩) (m + 1) c]).run P w = .ok (.tuple #[]) (w.setRow g (splice cur off (Builtin.zeroCells z.cells (m + 1)).toList).toArray) := by
      simp only [Nat.add_zero] at hst
      simp [Builtin.clear_, run_underlying hu, hzv, splice]
      simp at hst
      rw [hst]
      rfl
    refine wpList_plain hgd fun K hK => ?_
    unfold Oper.wp execOp
    simp only [ho, resolve, invoke, builtin, Sem.run_bind, Sem.run_pure, Result.andThen_ok, List.map_toArray, List.map_cons, List.map_nil, hx, hrun]
    exact hK _ _ (h _ _ hl (setRow_heap w g _ _ t (0, 0) hg) ((Only.refl g w).setRow _))

/-- append(s[:i], v...) where there is room: the block turns in place -/
theorem wpList_append_room (hgd : o.guard = none) (l x : Operand) (T elem : TypeId) (s : Nat)
    (ho : o.op = .call { callee := .builtin .append, args := #[l, x], argTypes := #[T, T] }) (hu : P.underlying T = some (.slice elem)) (hs : (P.info? elem).map (·.size) = some s)
    (g sLen sCap b so m c : Nat) (hl : a.eval l = .slice (some ⟨g, 0, none⟩) sLen sCap) (hx : a.eval x = .slice (some ⟨b, so, none⟩) m c)
    (cur cs : List Value) (hg : Blk w g elem cur) (hn : cs.length = m * s) (hsrc : ∀ j v, cs[j]? = some v → w.cell? ⟨b, so + j, none⟩ = some v) (hroom : sLen + m ≤ sCap) (hfit : sLen * s + m * s ≤ cur.length) (h1 : ∀ v ∈ cs, v.oneCell' = true)
    (h : ∀ w', Hid (Blk w' g elem (splice cur (sLen * s) cs)) → Hid (Only g w w') → wpList P ops Q rest (a.put o.dst (.slice (some ⟨g, 0, none⟩) (sLen + m) sCap)) w') : wpList P ops Q (o :: rest) a w := by
  cases hq : P.info? elem with
  | none => simp [hq] at hs
  | some i =>
    have hi : i.size = s := by simpa [hq] using hs
    have hrun := run_append_room (P := P) w T o.type elem i hu hq g sLen sCap cur.toArray hg ⟨b, so, none⟩ m c cs (by rw [hi, hn]) (fun j v hj => by rw [Addr.add_mid]; exact hsrc j v hj) h1 hroom (by rw [hi, hn]; simpa using hfit)
    rw [hi] at hrun
    refine wpList_plain hgd fun K hK => ?_
    unfold Oper.wp execOp
    simp only [ho, resolve, invoke, builtin, Sem.run_bind, Sem.run_pure, Result.andThen_ok, List.map_toArray, List.map_cons, List.map_nil, hl, hx, hrun]
    refine hK _ _ (h _ ?_ ((Only.refl g w).setRow _))
    have := setRow_heap w g cur.toArray (splice cur (sLen * s) cs).toArray elem (0, 0) hg
    show Blk _ _ _ _
    unfold Blk
    simpa [splice] using this

/-- append(s[:i], make([]T, k)...) where there is no room: a new block, all behind the old ones zero (not told), the old block as it was -/
theorem wpList_append_more (hgd : o.guard = none) (l x : Operand) (T tn elem t : TypeId) (s bytes : Nat) (z : Value) (kn : IntKind)
    (ho : o.op = .call { callee := .builtin .append, args := #[l, x], argTypes := #[T, tn] }) (hu : P.underlying T = some (.slice elem)) (htn : P.underlying tn = some (.int kn)) (hi : (P.info? elem).map (fun i => (i.zero, i.size, i.bytes)) = some (some z, s, bytes)) (hz : z.cells.size = s) (hs0 : 0 < s)
    (g sLen sCap k : Nat) (hl : a.eval l = .slice (some ⟨g, 0, none⟩) sLen sCap) (kk : IntKind) (C : Int) (hx : a.eval x = .int kk C) (hC : C = (k : Int))
    (cur : List Value) (hg : Blk w g t cur) (hfit : sLen * s ≤ cur.length) (hgrow : sCap < sLen + k) (h0 : 0 < k) (hlen : (sLen + k) * bytes ≤ 140737488355328) (h63 : sLen + k ≤ 9223372036854775807)
    (h : ∀ w' h' cap cs, Hid (w.heap.size ≤ h' ∧ h' < w'.heap.size) → Hid (Blk w' h' elem (cur.take (sLen * s) ++ cs)) → Hid ((cur.take (sLen * s) ++ cs).length = cap * s) → sLen + k ≤ cap → cap ≤ maxLen → Hid (Below w.heap.size w w') →
      wpList P ops Q rest (a.put o.dst (.slice (some ⟨h', 0, none⟩) (sLen + k) cap)) w') : wpList P ops Q (o :: rest) a w := by
  subst hC
  obtain ⟨i, hq, hz0, hz1, hz2⟩ := info_parts hi
  have hold : (Builtin.firstCells i.size sLen (.slice (some ⟨g, 0, none⟩) sLen sCap)).run P w.drew = .ok (cur.take (sLen * s)).toArray w.drew := by
    refine run_firstCells_some w.drew i.size sLen ⟨g, 0, none⟩ sLen sCap _ (by rw [hz1, List.length_take]; omega) fun j v hj => ?_
    rw [Addr.add_mid, Nat.zero_add]
    have := (Blk.cell (Blk.drew hg) j)
    rw [this, ← hj, List.getElem?_take]
    rw [List.getElem?_take] at hj
    split
    · rfl
    · rename_i hlt
      rw [if_neg hlt] at hj
      cases hj
  have hn : ¬ (sLen + k ≤ sCap) := by omega
  have hk0 : k ≠ 0 := by omega
  have hw : IntKind.i64.wrap (k : Int) = k := by rw [IntKind.wrap_i64]; omega
  have hneg : ¬ ((k : Int) < 0) := by omega
  have h63' : ¬ (9223372036854775807 < ((sLen : Int) + (k : Int))) := by omega
  have hb : k * i.bytes ≤ 140737488355328 := by rw [hz2]; exact Nat.le_trans (Nat.mul_le_mul_right _ (by omega)) hlen
  have h48 : ¬ (281474976710656 < (k : Int) * (i.bytes : Int)) := by rw [← Int.natCast_mul]; omega
  have h48' : ¬ (281474976710656 < Builtin.nextslicecap (sLen + k) sCap * i.bytes) := by have := growslice_fits (bytes := i.bytes) hgrow (by rw [hz2]; exact hlen); omega
  have hns : ¬ (k * i.size = 0) := Nat.mul_ne_zero hk0 (by omega)
  have hrun : (Builtin.append_ #[T, tn] o.type #[.slice (some ⟨g, 0, none⟩) sLen sCap, .int kk k]).run P w =
      .ok (.slice (some ⟨w.heap.size, 0, none⟩) (sLen + k) (grownCap w (sLen + k) sCap elem)) (w.drew.alloc (.cells ((cur.take (sLen * s)).toArray ++ Builtin.zeroCells z.cells k ++ Builtin.zeroCells z.cells (grownCap w (sLen + k) sCap elem - (sLen + k))) elem)) := by
    simp [Builtin.append_, run_underlying hu, run_underlying htn, sizeOf, typeInfo, zeroValue, hq, hz0, asInt, asIntOf, hw, hneg, h48, hn, h63', h48', hns, Question.forced, hold, newRow, grownCap]
  have hge := grownCap_ge w (sLen + k) sCap elem
  have hcm : grownCap w (sLen + k) sCap elem ≤ maxLen := grownCap_le_maxLen w (sLen + k) sCap elem (by unfold maxLen; omega)
  obtain ⟨cap, hcap⟩ : ∃ cap, cap = grownCap w (sLen + k) sCap elem := ⟨_, rfl⟩
  rw [← hcap] at hrun hge hcm
  refine wpList_plain hgd fun K hK => ?_
  unfold Oper.wp execOp
  simp only [ho, resolve, invoke, builtin, Sem.run_bind, Sem.run_pure, Result.andThen_ok, List.map_toArray, List.map_cons, List.map_nil, hl, hx, hrun]
  refine hK _ _ (h _ w.heap.size cap ((Builtin.zeroCells z.cells k).toList ++ (Builtin.zeroCells z.cells (cap - (sLen + k))).toList) ⟨Nat.le_refl _, by simp⟩ ?_ ?_ hge hcm ?_)
  · refine (heap_alloc_new w.drew _).trans ?_
    simp
  · have e1 : (Builtin.zeroCells z.cells k).toList.length = k * s := by rw [Array.length_toList, size_zeroCells, hz]
    have e2 : (Builtin.zeroCells z.cells (cap - (sLen + k))).toList.length = (cap - (sLen + k)) * s := by rw [Array.length_toList, size_zeroCells, hz]
    show _ = _
    rw [List.length_append, List.length_append, List.length_take, e1, e2, Nat.min_eq_left hfit, ← Nat.add_mul, ← Nat.add_mul]
    congr 1
    omega
  · exact (Below.refl _ _).drew.alloc (Nat.le_refl _) _

/-- append(l, x...), l the call's own row of structs, x such as lie anywhere: where the new slice heads is told -/
theorem wpList_append_holdSW {α : Type} (hgd : o.guard = none) (l x : Operand) (f : α → List Value) (s : Nat) (hs0 : 0 < s) (hfl : ∀ y, (f y).length = s) (hf : ∀ y, ∀ u ∈ f y, u.oneCell' = true) (z : Value) (hzc : z.cells.size = s) (T e : TypeId) (bytes : Nat)
    (ht : P.underlying T = some (.slice e)) (hi : (P.info? e).map (fun i => (i.zero, i.size, i.bytes)) = some (some z, s, bytes))
    (ho : o.op = .call { callee := .builtin .append, args := #[l, x], argTypes := #[T, T] })
    (base : Nat) (v : Value) (xs : List α) (hs : a.eval l = v) (hown : OwnS f s e w base v xs) (b so m c : Nat) (ys : List α) (hx : a.eval x = .slice (some ⟨b, so, none⟩) m c)
    (hm : ys.length = m) (hsrc : ∀ j u, (ys.flatMap f)[j]? = some u → w.cell? ⟨b, so + j, none⟩ = some u) (hlen : (xs.length + ys.length) * bytes ≤ 140737488355328) (h63 : xs.length + ys.length ≤ 9223372036854775807) (hbase : base ≤ w.heap.size)
    (h : ∀ v' w', Hid (OwnS f s e w' base v' (xs ++ ys)) → Hid (Spare (fun j => v.ownBlock = some j) w w') → Hid (Wander w v v') → wpList P ops Q rest (a.put o.dst v') w') :
    wpList P ops Q (o :: rest) a w := by
  obtain ⟨i0, hi0, hz0, hz1, hz2⟩ := info_parts hi
  obtain ⟨v', w', hrun, ho', hg', _, hwh⟩ := run_append_own_at (P := P) w base T o.type e i0 z s bytes ht hi0 hz0 hz1 hz2 hzc hs0 v xs.length (xs.flatMap f) hown ⟨b, so, none⟩ m c (ys.flatMap f) (by rw [flatMap_len hfl, hm])
    (fun j u hj => by rw [Addr.add_mid]; exact hsrc j u hj) (by intro u hu; obtain ⟨y, _, hy⟩ := List.mem_flatMap.1 hu; exact hf y u hy) (by unfold maxLen; omega) (by rw [← hm]; exact hlen) hbase
  refine wpList_plain hgd fun K hK => ?_
  unfold Oper.wp execOp
  simp only [ho, resolve, invoke, builtin, Sem.run_bind, Sem.run_pure, Result.andThen_ok, List.map_toArray, List.map_cons, List.map_nil, hs, hx, hrun]
  refine hK _ _ (h v' w' ?_ (Spare.of_grown hg') ?_)
  · show World.ownsRow _ _ _ _ _ _ _
    rw [List.length_append, List.flatMap_append, hm]
    exact ho'
  · intro i hi
    rcases hwh with h1 | h1
    · exact .inl (h1 ▸ hi)
    · rw [h1] at hi
      injection hi with hi
      exact .inr (by omega)
end

section
variable {α : Type} {f : α → List Value} {s : Nat} {w w' : World} {base q n c : Nat} {e : TypeId} {xs : List α} {v : Value} {A : Option Addr}
/-- such a row, and the block that bears it -/
theorem OwnS.blk (h : OwnS f s e w base (.slice (some ⟨q, 0, none⟩) n c) xs) : base ≤ q ∧ xs.length = n ∧ n ≤ c ∧ c ≤ maxLen ∧ ∃ cs, Blk w q e cs ∧ cs.length = c * s ∧ cs.take (n * s) = xs.flatMap f := by
  obtain ⟨hb, hn, cur, hg, _, htk, hnc, hcm, hcs⟩ := h.heap
  exact ⟨hb, hn, hnc, hcm, cur.toList, by unfold Blk; rw [hg], by rw [Array.length_toList, hcs], htk⟩
theorem OwnS.of_blk (hf : ∀ x, (f x).length = s) {cs : List Value} (hb : base ≤ q) (hB : Blk w q e cs) (hc : cs.length = c * s) (hcm : c ≤ maxLen) (hn : xs.length = n) (hnc : n ≤ c) (ht : cs.take (n * s) = xs.flatMap f) : OwnS f s e w base (.slice (some ⟨q, 0, none⟩) n c) xs :=
  ⟨by rw [flatMap_len hf], .inr ⟨q, c, cs.toArray, by rw [hn], hb, hB, by rw [hn]; exact hnc, hcm, by simpa using hc, by rw [hn]; simpa using ht⟩⟩
theorem OwnS.cutTo (hf : ∀ x, (f x).length = s) {m : Nat} (h : OwnS f s e w base (.slice A n c) xs) (hm : m ≤ n) : OwnS f s e w base (.slice A m c) (xs.take m) := by
  rcases h.2 with ⟨h1, h2⟩ | ⟨q, cap, cur, h1, hb, hg, hnc, hcm, hcs, htk⟩
  · cases h1
    obtain rfl : m = 0 := by omega
    exact ⟨by simp, .inl ⟨rfl, by simp⟩⟩
  · have hl : xs.length = n := by injection h1 with _ h3 _; exact h3.symm
    cases h1
    have hml : (xs.take m).length = m := by rw [List.length_take]; omega
    refine ⟨by rw [flatMap_len hf], .inr ⟨q, c, cur, by rw [hml], hb, hg, by omega, hcm, hcs, ?_⟩⟩
    rw [hml]
    have hle : m * s ≤ xs.length * s := Nat.mul_le_mul_right s (by omega)
    have := congrArg (List.take (m * s)) htk
    rw [List.take_take, Nat.min_eq_left hle] at this
    rw [this]
    conv => lhs; rw [← List.take_append_drop m xs]
    rw [List.flatMap_append, List.take_left' (by rw [flatMap_len hf, hml])]
end
end Go.Proofs.Ytgbhnnobbciemaa
