/-
  Two rows that grow side by side: rows that lie apart ('Apart'), where an append's answer heads ('Whither'), the append that tells it. No function of the program is named here.
-/
import Derived.Test.YtgbhnnobbciemaaNums
import Derived.Test.YtgbhnnobbciemaaArr
import Derived.Deep.DeepCutAuto
namespace Go.Proofs.Ytgbhnnobbciemaa
open Go.RowKit

/-! ### two rows of one kind, in blocks of their own -/

/-- the two slices head different blocks -/
def Apart (v u : Value) : Prop := ∀ i, v.ownBlock = some i → u.ownBlock ≠ some i
theorem Apart.nil (u : Value) : Apart (.slice none 0 0) u := fun i h => by cases h
theorem Apart.nil' (v : Value) : Apart v (.slice none 0 0) := fun i _ h => by cases h
theorem Apart.symm {v u : Value} (h : Apart v u) : Apart u v := fun i hu hv => h i hv hu

section
variable {k k' : IntKind} {e e' : TypeId} {w w' : World} {base base' : Nat} {v v' u : Value} {xs ys : List Int}
theorem OwnK.lt (h : OwnK k e w base v xs) {i : Nat} (hi : v.ownBlock = some i) : i < w.heap.size := (World.ownsRow.lt h i hi).2
theorem Grew.apart (hg : Grew w w' v) (h' : OwnK k' e' w base' u ys) (ha : Apart v u) : OwnK k' e' w' base' u ys :=
  h'.keep fun i cs hi hcs => by rw [hg.block hcs fun hv => ha i hv hi, hcs]
theorem OwnK.grown (h' : OwnK k' e' w base' u ys) (hg : w.grownBy w' v.ownBlock) (ha : Apart v u) : OwnK k' e' w' base' u ys :=
  h'.keep fun i _ hi hcs => hg.block i (Array.getElem?_eq_some_iff.1 hcs).1 fun he => ha i he.symm hi
theorem Arr.grew {g : Nat} {T : TypeId} {zs : List Int} (a : Arr w g k' T zs) (hg : Grew w w' v) (h : OwnK k e w base v xs) (hT : T ≠ e) : Arr w' g k' T zs :=
  hg.block a fun hv => by
    obtain ⟨_, cs, hcs⟩ := h.block hv
    unfold Arr at a
    rw [hcs] at a
    simp only [Option.some.injEq, Obj.cells.injEq] at a
    exact hT a.2.1.symm
/-- where the new slice heads: the old block, or a new one -/
def Whither (w : World) (v v' : Value) : Prop := v'.ownBlock = v.ownBlock ∨ ∃ g, v'.ownBlock = some g ∧ w.heap.size ≤ g
theorem Apart.whither (ha : Apart v u) (hw : Whither w v v') (hu : OwnK k e w base u ys) : Apart v' u := fun i hi hui => by
  rcases hw with h | ⟨g, hg, hge⟩
  · exact ha i (h ▸ hi) hui
  · rw [hg] at hi
    injection hi with hi
    subst hi
    have := hu.lt hui
    omega
end

theorem run_append_whither {P : Program} (w : World) (t ty e : TypeId) (i : TypeInfo) (z : Value) (bytes : Nat) (ht : P.underlying t = some (.slice e)) (hi : P.info? e = some i) (hz : i.zero = some z) (hsize : i.size = 1) (hby : i.bytes = bytes) (hzs : z.cells.size = 1)
    (base : Nat) (v : Value) (n : Nat) (xs : List Value) (hown : w.ownsRow base e 1 v n xs) (a : Addr) (m c : Nat) (news : List Value) (hl : news.length = m * 1) (hnews : ∀ j u, news[j]? = some u → w.cell? (a.add j) = some u) (h1 : ∀ u ∈ news, u.oneCell' = true)
    (h63 : n + m ≤ maxLen) (hbytes : (n + m) * bytes ≤ 140737488355328) (hbase : base ≤ w.heap.size) :
    ∃ v' w', (Builtin.append_ #[t, t] ty #[v, .slice (some a) m c]).run P w = .ok v' w' ∧ w'.ownsRow base e 1 v' (n + m) (xs ++ news) ∧ w.grownBy w' v.ownBlock ∧ Whither w v v' := by
  obtain ⟨v', w', hr, ho, hg, hnil⟩ := run_append_own (P := P) w base t ty e i z 1 bytes ht hi hz hsize hby hzs (by omega) v n xs hown a m c news hl hnews h1 h63 hbytes hbase
  refine ⟨v', w', hr, ho, hg, ?_⟩
  have hsmall : n + m ≤ 9223372036854775807 := by simp only [maxLen] at h63; omega
  rcases hown.2 with ⟨rfl, rfl⟩ | ⟨g, cap, cur, rfl, hbg, hgg, hnc, hcm, hcs, htake⟩
  · have hx : xs = [] := List.eq_nil_of_length_eq_zero (by simpa using hown.1)
    subst hx
    obtain ⟨v2, w2, hr2, ho2, _, _⟩ := run_append_own (P := P) w w.heap.size t ty e i z 1 bytes ht hi hz hsize hby hzs (by omega) (.slice none 0 0) 0 [] (World.ownsRow_nil w _ e 1) a m c news hl hnews h1 h63 hbytes (Nat.le_refl _)
    rw [hr] at hr2
    injection hr2 with e1 e2
    subst e1 e2
    rcases ho2.2 with ⟨rfl, _⟩ | ⟨g, cap, cur, rfl, hb, _⟩
    · exact .inl rfl
    · exact .inr ⟨g, rfl, hb⟩
  · by_cases hroom : n + m ≤ cap
    · have hfit : n * i.size + news.length ≤ cur.size := by rw [hl, hcs, hsize]; omega
      have hr2 := run_append_room (P := P) w t ty e i ht hi g n cap cur hgg a m c news (by rw [hl, hsize]) hnews h1 hroom hfit
      rw [hr] at hr2
      injection hr2 with e1 e2
      subst e1
      exact .inl rfl
    · have holds : ∀ j u, xs[j]? = some u → w.cell? ((⟨g, 0, none⟩ : Addr).add j) = some u := hown.cells (g := g) rfl
      have hr2 := run_append_grow (P := P) w t ty e i z ht hi hz ⟨g, 0, none⟩ n cap xs (by rw [hsize]; exact hown.1) holds a m c news (by rw [hl, hsize]) hnews (by omega) (by omega) (growslice_fits (by omega) (by rw [hby]; exact hbytes))
      rw [hr] at hr2
      injection hr2 with e1 e2
      subst e1
      exact .inr ⟨_, rfl, Nat.le_refl _⟩

/-- append(l, xs..), the new ones lying in a block of their own that has just been laid, onto a row of the call's own; where the new slice heads is told -/
theorem wpList_append_litW {P : Program} {w : World} {ops : Array Oper} {rest : List Oper} {o : Oper} {a : Act} {Q : Exit → Act → World → Prop} (hgd : o.guard = none) (s x : Operand) (k : IntKind) (T e : TypeId) (bytes : Nat)
    (ht : P.underlying T = some (.slice e)) (hi : (P.info? e).map (fun i => (i.zero, i.size, i.bytes)) = some (some (.int k 0), 1, bytes))
    (ho : o.op = .call { callee := .builtin .append, args := #[s, x], argTypes := #[T, T] })
    (base : Nat) (v : Value) (xs ys : List Int) (cs : Array Value) (hcs : cs = (ys.map (Value.int k)).toArray) (m c : Nat) (hm : ys.length = m) (hs : a.eval s = v) (hx : a.eval x = .slice (some ⟨w.heap.size, 0, none⟩) m c)
    (hown : OwnK k e w base v xs) (hlen : (xs.length + m) * bytes ≤ 140737488355328) (h63 : xs.length + m ≤ 9223372036854775807) (hbase : base ≤ w.heap.size)
    (h : ∀ v' w', Hid (OwnK k e w' base v' (xs ++ ys)) → Hid (Grew w w' v) → Hid (Whither w v v') → wpList P ops Q rest (a.put o.dst v') w') :
    wpList P ops Q (o :: rest) a (w.alloc (.cells cs e)) := by
  obtain ⟨i0, hi0, hz0, hz1, hz2⟩ := info_parts hi
  subst hcs
  have hr : (w.alloc (.cells (ys.map (Value.int k)).toArray e)).heap[w.heap.size]? = some (.cells (ys.map (Value.int k)).toArray e (0, 0)) := heap_alloc_new w _
  obtain ⟨v', w', hrun, ho', hg', hwh⟩ := run_append_whither (P := P) (w.alloc (.cells (ys.map (Value.int k)).toArray e)) T o.type e i0 (.int k 0) bytes ht hi0 hz0 hz1 hz2 rfl base v xs.length (xs.map (Value.int k)) (OwnK.alloc hown _) ⟨w.heap.size, 0, none⟩ m c (ys.map (Value.int k)) (by simp [hm])
    (fun j y hj => by
      have e1 : (⟨w.heap.size, 0, none⟩ : Addr).add j = ⟨w.heap.size, j, none⟩ := by
        by_cases hj0 : j = 0
        · subst hj0; simp [Addr.add]
        · simp [Addr.add, hj0]
      rw [e1, cell_of_row _ w.heap.size j _ e (0, 0) hr, ← hj]
      simp)
    (by intro v hv; obtain ⟨x, _, rfl⟩ := List.mem_map.1 hv; rfl) (by unfold maxLen; omega) hlen (by simp; omega)
  refine wpList_plain hgd fun K hK => ?_
  unfold Oper.wp execOp
  simp only [ho, resolve, invoke, builtin, Sem.run_bind, Sem.run_pure, Result.andThen_ok, List.map_toArray, List.map_cons, List.map_nil, hs, hx, hrun]
  refine hK _ _ (h v' w' ?_ ⟨_, hg'⟩ ?_)
  · show World.ownsRow _ _ _ _ _ _ _
    rw [List.length_append, List.map_append, hm]
    exact ho'
  · rcases hwh with h1 | ⟨g, h1, h2⟩
    · exact .inl h1
    · exact .inr ⟨g, h1, by simp at h2; omega⟩
end Go.Proofs.Ytgbhnnobbciemaa
