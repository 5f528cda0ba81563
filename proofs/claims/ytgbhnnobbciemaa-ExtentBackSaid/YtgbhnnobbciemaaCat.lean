/-
  Contracts: the library's slices.Grow of nil and slices.Concat of however many parts ('Parts'); a slice literal of slices, as parts.
-/
import Derived.Test.YtgbhnnobbciemaaNums
import Derived.Test.YtgbhnnobbciemaaOpen
import Derived.Lib.AppendZeros
import Derived.Deep.RegionWith
import Derived.Deep.DeepCutAuto
import Derived.Great.Walk
namespace Go.Proofs.Ytgbhnnobbciemaa
open Go.RowKit
set_option maxRecDepth 100000

/-- what is put together of the first k parts -/
def catL (X : Nat → List Int) : Nat → List Int
  | 0 => []
  | k + 1 => catL X k ++ X k
def sumN (n : Nat → Nat) : Nat → Nat
  | 0 => 0
  | k + 1 => sumN n k + n k
theorem sumN_le (n : Nat → Nat) {k m : Nat} (h : k ≤ m) : sumN n k ≤ sumN n m := by
  induction m with
  | zero => obtain rfl : k = 0 := by omega
            exact Nat.le_refl _
  | succ m ih =>
    by_cases he : k = m + 1
    · subst he; exact Nat.le_refl _
    · have := ih (by omega)
      simp only [sumN]
      omega
theorem catL_len {X : Nat → List Int} {n : Nat → Nat} {m : Nat} (h : ∀ i, i < m → (X i).length = n i) {k : Nat} (hk : k ≤ m) : (catL X k).length = sumN n k := by
  induction k with
  | zero => rfl
  | succ k ih => simp only [catL, sumN, List.length_append, ih (by omega), h k (by omega)]
theorem catL_bytes {X : Nat → List Int} {m : Nat} (h : ∀ i, i < m → Bytes (X i)) {k : Nat} (hk : k ≤ m) : Bytes (catL X k) := by
  induction k with
  | zero => exact Bytes.nil
  | succ k ih => exact (ih (by omega)).append (h k (by omega))

/-- block gs is a row of m slices, each of which reads as bytes -/
structure Parts (w : World) (gs m : Nat) (A : Nat → Option Addr) (n c : Nat → Nat) (X : Nat → List Int) : Prop where
  lt : gs < w.heap.size
  cell : ∀ i, i < m → w.cell? ⟨gs, i, none⟩ = some (.slice (A i) (n i) (c i))
  holds : ∀ i, i < m → Holds w w.heap.size (A i) (n i) (c i) (X i)
theorem Parts.over {w w' : World} {gs m : Nat} {A : Nat → Option Addr} {n c : Nat → Nat} {X : Nat → List Int} (h : Parts w gs m A n c X) (hb : Below w.heap.size w w') : Parts w' gs m A n c X :=
  ⟨Nat.lt_of_lt_of_le h.lt hb.size, fun i hi => by rw [← h.cell i hi]; exact hb.cell (p := ⟨gs, i, none⟩) h.lt, fun i hi => (h.holds i hi).over hb⟩
theorem Parts.drewN {w : World} {gs m : Nat} {A : Nat → Option Addr} {n c : Nat → Nat} {X : Nat → List Int} (h : Parts w gs m A n c X) (d : Nat) : Parts (w.drewN d) gs m A n c X := h.over (drewed w d)

/-- append(out, src...), out the call's own with noughts behind it, src whatever reads as bytes -/
theorem wpList_append_bytesZ {w : World} {ops : Array Oper} {rest : List Oper} {o : Oper} {a : Act} {Q : Exit → Act → World → Prop} (hgd : o.guard = none) (s x : Operand)
    (ho : o.op = .call { callee := .builtin .append, args := #[s, x], argTypes := #[29, 29] })
    (base : Nat) (v : Value) (xs : List Int) (hs : a.eval s = v) (hown : OwnZ .u8 5 w base v xs) (B : Nat) (A : Option Addr) (m c : Nat) (ys : List Int) (hx : a.eval x = .slice A m c)
    (hr : Holds w B A m c ys) (hlen : xs.length + ys.length ≤ 140737488355328) (hbase : base ≤ w.heap.size)
    (h : ∀ v' w', Hid (OwnZ .u8 5 w' base v' (xs ++ ys)) → Below base w w' → wpList Try.prog ops Q rest (a.put o.dst v') w') :
    wpList Try.prog ops Q (o :: rest) a w := by
  obtain ⟨i0, hi0, hz0, hz1, hz2⟩ := info_parts info_u8
  have hl := hr.len
  have hOK := hown.own
  rcases A with _ | ad
  · have hc := hr.bare rfl
    have hf := hr.fit
    have hm : m = 0 := by omega
    subst hm
    subst hc
    have : ys = [] := List.eq_nil_of_length_eq_zero hl
    subst this
    refine wpList_append_own_none hgd s x 29 ho base 5 i0 1 Try.underlying29 hi0 v xs.length _ hs hOK hx ?_
    exact h v w (by rw [List.append_nil]; exact hown) (Below.refl _ _)
  · have hnews : ∀ j y, (ys.map (Value.int .u8))[j]? = some y → w.cell? (ad.add j) = some y := by
      intro j u hj
      have hjl : j < ys.length := by
        by_cases hj' : j < ys.length
        · exact hj'
        · rw [List.getElem?_eq_none (by simp; omega)] at hj
          cases hj
      obtain ⟨b, off, he, _, hcl⟩ := hr.cells (by omega)
      obtain rfl := Option.some.inj he
      have e : (⟨b, off, none⟩ : Addr).add j = ⟨b, off + j, none⟩ := by
        by_cases hj0 : j = 0
        · subst hj0; simp [Addr.add]
        · simp [Addr.add, hj0]
      rw [e, hcl j (by omega), ← hj]
      simp [hjl]
    have h1 : ∀ y ∈ ys.map (Value.int .u8), y.oneCell' = true := by intro v hv; obtain ⟨x, _, rfl⟩ := List.mem_map.1 hv; rfl
    have hmax : maxLen = 9223372036854775807 := rfl
    have key : ∀ ty, ∃ v' w', (Builtin.append_ #[29, 29] ty #[v, .slice (some ad) m c]).run Try.prog w = .ok v' w' ∧ OwnZ .u8 5 w' base v' (xs ++ ys) ∧ w.grownBy w' v.ownBlock := by
      intro ty
      rcases hown with ⟨rfl, rfl⟩ | ⟨g, z, rfl, hb, hz, hg⟩
      · by_cases hm0 : m = 0
        · subst hm0
          have : ys = [] := List.eq_nil_of_length_eq_zero hl
          subst this
          obtain ⟨v', w', hrun, _, hgr, hnil⟩ := run_append_own (P := Try.prog) w base 29 ty 5 i0 (.int .u8 0) 1 1 Try.underlying29 hi0 hz0 hz1 hz2 rfl (by omega) (.slice none 0 0) 0 [] (World.ownsRow_nil w base _ 1) ad 0 c [] rfl (fun j u hj => by cases hj) (fun u hu => by cases hu) (by omega) (by omega) hbase
          obtain rfl := hnil.2 ⟨rfl, rfl⟩
          exact ⟨_, _, hrun, OwnZ.nil _ _ _ _, hgr⟩
        · have hrun := run_append_nil (P := Try.prog) w 29 ty 5 i0 (.int .u8 0) Try.underlying29 hi0 hz0 ad m c (ys.map (Value.int .u8)) (by simp [hl, hz1]) hnews (by omega) (by omega) (by rw [hz2]; simp at hlen; omega)
          exact ⟨_, _, hrun, by simpa using grew_new .u8 5 w base ys 0 m hl hbase (by omega), ⟨rfl, rfl, rfl, by simp, fun j hj _ => Below.heap_alloc w.drew _ j hj⟩⟩
      · by_cases hroom : xs.length + m ≤ xs.length + z
        · have hrun := run_append_room (P := Try.prog) w 29 ty 5 i0 Try.underlying29 hi0 g xs.length (xs.length + z) _ hg ad m c (ys.map (Value.int .u8)) (by simp [hl, hz1]) hnews h1 hroom (by simp [hz1]; omega)
          refine ⟨_, _, hrun, .inr ⟨g, z - m, by simp [hl]; omega, hb, by simp; omega, ?_⟩, ⟨rfl, rfl, rfl, by simp, fun j _ hj => setRow_other w g j _ (fun e => hj (by simp [Value.ownBlock, e]))⟩⟩
          rw [setRow_heap w g _ _ 5 _ hg]
          congr 2
          have e1 : ((xs ++ List.replicate z 0).map (Value.int .u8)).take (xs.length * i0.size) = xs.map (Value.int .u8) := by
            rw [hz1, Nat.mul_one, List.map_append, List.take_left' (by simp)]
          have e2 : ((xs ++ List.replicate z 0).map (Value.int .u8)).drop (xs.length * i0.size + (ys.map (Value.int .u8)).length) = (List.replicate (z - m) 0).map (Value.int .u8) := by
            rw [hz1, Nat.mul_one, List.length_map, hl, ← List.drop_drop, List.map_append, List.drop_left' (by simp), ← List.map_drop, List.drop_replicate]
          rw [e1, e2]
          simp
        · have hcells : ∀ j y, (xs.map (Value.int .u8))[j]? = some y → w.cell? ((⟨g, 0, none⟩ : Addr).add j) = some y := hOK.cells (g := g) rfl
          have hrun := run_append_grow (P := Try.prog) w 29 ty 5 i0 (.int .u8 0) Try.underlying29 hi0 hz0 ⟨g, 0, none⟩ xs.length (xs.length + z) (xs.map (Value.int .u8)) (by simp [hz1]) hcells ad m c (ys.map (Value.int .u8)) (by simp [hl, hz1]) hnews (by omega) (by omega) (growslice_fits (by omega) (by rw [hz2]; omega))
          refine ⟨_, _, hrun, ?_, ⟨rfl, rfl, rfl, by simp, fun j hj _ => Below.heap_alloc w.drew _ j hj⟩⟩
          have := grew_new .u8 5 w base (xs ++ ys) (xs.length + z) (xs.length + m) (by simp [hl]) hbase (by omega)
          simpa using this
    refine wpList_plain hgd fun K hK' => ?_
    obtain ⟨v', w', hrun, h2, h3⟩ := key o.type
    unfold Oper.wp execOp
    simp only [ho, resolve, invoke, builtin, Sem.run_bind, Sem.run_pure, Result.andThen_ok, List.map_toArray, List.map_cons, List.map_nil, hs, hx, hrun]
    exact hK' _ _ (h v' w' h2 ((Below.refl _ _).grown h3 hbase (fun k hk => (World.ownsRow.lt hOK k hk).1)))

/-! ### slice literals, as parts -/

abbrev PartT := Option Addr × Nat × Nat × List Int
def partV (p : PartT) : Value := .slice p.1 p.2.1 p.2.2.1
def part0 : PartT := (none, 0, 0, [])
def partA (l : List PartT) (i : Nat) : Option Addr := (l.getD i part0).1
def partN (l : List PartT) (i : Nat) : Nat := (l.getD i part0).2.1
def partC (l : List PartT) (i : Nat) : Nat := (l.getD i part0).2.2.1
def partX (l : List PartT) (i : Nat) : List Int := (l.getD i part0).2.2.2

theorem Parts.lit (w : World) (l : List PartT) (T : TypeId) (hh : ∀ p ∈ l, Holds w w.heap.size p.1 p.2.1 p.2.2.1 p.2.2.2) :
    Parts (w.alloc (.cells (l.map partV).toArray T)) w.heap.size l.length (partA l) (partN l) (partC l) (partX l) := by
  have hb : Below w.heap.size w (w.alloc (.cells (l.map partV).toArray T)) := (Below.refl _ _).alloc (Nat.le_refl _) _
  refine ⟨by simp, fun i hi => ?_, fun i hi => ?_⟩
  · have hr : (w.alloc (.cells (l.map partV).toArray T)).heap[w.heap.size]? = some (.cells (l.map partV).toArray T (0, 0)) := heap_alloc_new w _
    rw [cell_of_row _ w.heap.size i _ T (0, 0) hr]
    simp [partA, partN, partC, List.getD_eq_getElem?_getD, hi, partV]
  · have he : l.getD i part0 = l[i] := by simp [List.getD_eq_getElem?_getD, hi]
    have := hh l[i] (List.getElem_mem hi)
    unfold partA partN partC partX
    rw [he]
    exact this.over hb

section
variable {ops : Array Oper} {rest : List Oper} {o : Oper} {a : Act} {w : World} {Q : Exit → Act → World → Prop}

end
end Go.Proofs.Ytgbhnnobbciemaa
