/-
  Layer 14 (extent): a list of acts that came in, opened by reach and by bulk ('open_acts').
-/
import Derived.Test.YtgbhnnobbciemaaOpenR
namespace Go.Proofs.Ytgbhnnobbciemaa
open Go.RowKit Go.ChangeShapes Go.WideShapes
set_option linter.unusedVariables false
set_option maxRecDepth 100000

/-- an act: what, where, how much, its bytes -/
structure ActV where
  act : Int
  pos : Int
  num : Int
  row : PartT
deriving Inhabited
def actCells (a : ActV) : List Value := [.int .i64 a.act, .int .i64 a.pos, .int .i64 a.num, partV a.row]
theorem actCells_len (a : ActV) : (actCells a).length = 4 := rfl
theorem actCells_one (a : ActV) : ∀ u ∈ actCells a, u.oneCell' = true := by
  intro u hu
  simp only [actCells, List.mem_cons, List.not_mem_nil, or_false] at hu
  rcases hu with rfl | rfl | rfl | rfl <;> rfl
def I64 (x : Int) : Prop := -9223372036854775808 ≤ x ∧ x ≤ 9223372036854775807
/-- its numbers are numbers, its bytes lie below block B -/
structure ActOk (w : World) (B : Nat) (a : ActV) : Prop where
  act : I64 a.act
  pos : I64 a.pos
  num : I64 a.num
  row : Holds w B a.row.1 a.row.2.1 a.row.2.2.1 a.row.2.2.2
  cap : a.row.2.2.1 ≤ 140737488351232
theorem ActOk.below {w w' : World} {B : Nat} {a : ActV} (h : ActOk w B a) (hb : Below B w w') : ActOk w' B a := ⟨h.act, h.pos, h.num, h.row.below hb, h.cap⟩
theorem ActOk.mono {w : World} {B B' : Nat} {a : ActV} (h : ActOk w B a) (hB : B ≤ B') : ActOk w B' a := ⟨h.act, h.pos, h.num, h.row.mono hB, h.cap⟩
/-- the slice value '.slice A n c' holds acts, in memory below block B -/
structure LAct (w : World) (B : Nat) (A : Option Addr) (n c : Nat) (l : List ActV) : Prop where
  row : HoldsS actCells 4 w B A n c l
  each : ∀ x ∈ l, ActOk w B x
section
variable {w w' : World} {B B' : Nat} {A : Option Addr} {n c : Nat} {l : List ActV}
theorem LAct.below (h : LAct w B A n c l) (hb : Below B w w') : LAct w' B A n c l := ⟨h.row.below hb, fun x hx => (h.each x hx).below hb⟩
theorem LAct.mono (h : LAct w B A n c l) (hB : B ≤ B') : LAct w B' A n c l := ⟨h.row.mono hB, fun x hx => (h.each x hx).mono hB⟩
theorem LAct.over (h : LAct w w.heap.size A n c l) (hb : Below w.heap.size w w') : LAct w' w'.heap.size A n c l := (h.below hb).mono hb.size
theorem LAct.len (h : LAct w B A n c l) : l.length = n := h.row.len
theorem LAct.head (h : LAct w B A c c l) (hn : n ≤ c) : LAct w B A n c (l.take n) := ⟨h.row.head hn, fun x hx => h.each x (List.mem_of_mem_take hx)⟩
/-- the cells of one act -/
theorem LAct.at (h : LAct w B A n c l) {i : Nat} (hi : i < n) : ∃ b off x, A = some ⟨b, off, none⟩ ∧ b < B ∧ l[i]? = some x ∧ ActOk w B x ∧ w.rangeAt b (off + i * 4) (actCells x) := by
  obtain ⟨b, off, e, hb, hc⟩ := h.row.cells (by omega)
  have hl := h.row.len
  have hx : l[i]? = some l[i] := List.getElem?_eq_getElem (by omega)
  exact ⟨b, off, l[i], e, hb, hx, h.each _ (List.getElem_mem _), h.row.range e hi hx⟩
end

section
variable {H : Type} {enc : TypeId × Value → H} {W : World} {base : Nat} {v : Value} {d : DataW H} {p : List MemPlace}
theorem trod_act (n : Nat) (cs : List Value) (x : DataW H × List MemPlace) (hf : DataW.trod enc Try.prog W 0 (fun _ => true) true n 56 cs = some x) (hw : ∀ k ∈ x.1.weights Try.prog 56, k ≤ reachBytes) :
    ∃ l : ActV, cs = actCells l ∧ ActOk W W.heap.size l ∧ l.row.2.2.1 < Rows.uptoBulk x.1 := by
  obtain ⟨xs, m, _, hd, hl, hx, hel⟩ := DataW.trod_struct Try.underlying56 hf
  have hx4 : xs.length = 4 := hx
  have h4 : cs.length = 4 := hl.trans (by kernel_rfl)
  have some_at : ∀ i, i < 4 → ∃ z, xs[i]? = some z := fun i hi => ⟨xs[i], List.getElem?_eq_getElem (by omega)⟩
  have ci : Try.prog.cellsOf 3 = 1 := by kernel_rfl
  have cb : Try.prog.cellsOf 29 = 1 := by kernel_rfl
  have e0 := hel 0 _ rfl
  have e1 := hel 1 _ rfl
  have e2 := hel 2 _ rfl
  have e3 := hel 3 _ rfl
  change DataW.trod enc Try.prog W 0 (fun _ => true) true m 3 ((cs.drop 0).take (Try.prog.cellsOf 3)) = xs[0]? at e0
  change DataW.trod enc Try.prog W 0 (fun _ => true) true m 3 ((cs.drop 1).take (Try.prog.cellsOf 3)) = xs[1]? at e1
  change DataW.trod enc Try.prog W 0 (fun _ => true) true m 3 ((cs.drop 2).take (Try.prog.cellsOf 3)) = xs[2]? at e2
  change DataW.trod enc Try.prog W 0 (fun _ => true) true m 29 ((cs.drop 3).take (Try.prog.cellsOf 29)) = xs[3]? at e3
  rw [ci] at e0 e1 e2
  rw [cb] at e3
  obtain ⟨z0, q0⟩ := some_at 0 (by omega)
  obtain ⟨z1, q1⟩ := some_at 1 (by omega)
  obtain ⟨z2, q2⟩ := some_at 2 (by omega)
  obtain ⟨z3, q3⟩ := some_at 3 (by omega)
  rw [q0] at e0
  rw [q1] at e1
  rw [q2] at e2
  rw [q3] at e3
  obtain ⟨x0, d0, _, w0⟩ := DataW.trod_int Try.underlying3 e0
  obtain ⟨x1, d1, _, w1⟩ := DataW.trod_int Try.underlying3 e1
  obtain ⟨x2, d2, _, w2⟩ := DataW.trod_int Try.underlying3 e2
  have hxd : x.1 = .agg (xs.map (·.1)) := by rw [hd]
  have g3 : (xs.map (·.1))[3]? = some z3.1 := by rw [List.getElem?_map, q3]; rfl
  obtain ⟨y, d3, hy, hy1, hy2⟩ := trod_bytes Try.underlying29 Try.underlying5 (by kernel_rfl) (by kernel_rfl) e3 (fun k hk => hw k (by
    rw [hxd]
    simp only [DataW.weights, Try.underlying56]
    exact weights_fld (i := 3) hk rfl g3))
  refine ⟨⟨x0, x1, x2, y⟩, ?_, ⟨int_bounds_i64 w0, int_bounds_i64 w1, int_bounds_i64 w2, hy, hy1⟩, ?_⟩
  · match cs, h4 with
    | [a, b, c, d], _ =>
      cases d0
      cases d1
      cases d2
      cases d3
      rfl
  · show y.2.2.1 < _
    have := bulk_fld (List.mem_of_getElem? g3)
    rw [← hxd] at this
    omega
/-- a list of acts that came in -/
theorem open_acts (hv : Value.okWide Try.prog W .any base 22 v) (hk : DataW.Trod enc Try.prog W 0 (fun _ => true) true 22 v d p) (hw : ∀ n ∈ d.weights Try.prog 22, n ≤ reachBytes) :
    ∃ A n c l, v = .slice A n c ∧ n ≤ c ∧ c * 48 ≤ 140737488351232 ∧ c < Rows.uptoBulk d ∧ LAct W W.heap.size A n c l ∧ ∀ z ∈ l, z.row.2.2.1 < Rows.uptoBulk d := by
  obtain ⟨A, n, c, zs, rfl, h1, h2, h3, h4, h5⟩ := open_rows (f := actCells) (s := 4) (q := 48) (ok := ActOk W W.heap.size) (g := fun z => z.row.2.2.1) Try.underlying22 (by kernel_rfl) (by omega) (by kernel_rfl) actCells_len trod_act hv hk hw
  exact ⟨A, n, c, zs.take n, rfl, h1, h2, h3, ⟨h4.head h1, fun x hx => (h5 x (List.mem_of_mem_take hx)).1⟩, fun z hz => (h5 z (List.mem_of_mem_take hz)).2⟩
end
end Go.Proofs.Ytgbhnnobbciemaa
