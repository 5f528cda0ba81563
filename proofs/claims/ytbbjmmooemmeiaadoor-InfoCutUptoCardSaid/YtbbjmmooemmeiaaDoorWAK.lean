import Derived.WalkKit
import Derived.Deep.Draws
import Derived.Laws.Rows
import Derived.Laws.OwnMore
import Derived.Test.YtbbjmmooemmeiaaDoorRows
import Derived.Laws.CopyOwn
import Derived.Laws.AppendOwnNone
import Derived.Lib.Hide
import Derived.Laws.AppendOwn
import Derived.OwnWalk
import Derived.Lib.OthersKept
import Derived.Laws.BytesArg
import Derived.Laws.Tables
import Derived.Laws.NewFold
import Derived.Deep.WholeRow
import Derived.Deep.DeepCutAuto
import Derived.OneCell
import Derived.ProofKit
import Derived.OpenShut
import Derived.ShutString
import Derived.SizedLaws
import Derived.ChangeOld
import Derived.Deep.Strs
import Derived.Deep.MidRow
import Derived.Great.Walk
import Derived.Lib.RuneBytes
import Derived.Lib.ValidLaws
import Derived.Shelf.Utf8.AppendRunePlain
import Derived.Shelf.Unicode.ValidAny
import Derived.Test.YtbbjmmooemmeiaaDoorProg
import Derived.WalkSpells
import Derived.WalkLawsBesides
import Derived.Deep.QuietTactic
import Derived.BigQuiet
import Derived.Laws.Bits64
import Derived.Laws.BitsAllLaws
import Derived.Lib.AppendZeros
import Derived.Deep.RegionWith
import Derived.OrdersHeld
import Derived.Laws.StructEq
import Derived.ChangeKeysEq
import Derived.Deep.RegionLaw
import Derived.Deep.OwnRows
import Derived.Test.YtbbjmmooemmeiaaDoorWAD
import Derived.Test.YtbbjmmooemmeiaaDoorWAE
import Derived.Test.YtbbjmmooemmeiaaDoorWAH
namespace Go.Proofs.YtbbjmmooemmeiaaDoor
set_option linter.all false
open Go.RowKit
theorem lockCells_len (l : LockV) : (lockCells l).length = 4 := rfl
section
variable {w w' : World} {B B' g : Nat} {T : TypeId} {cs : List Value} {a : AskV} {s : SayV} {vd vx vl ve : Value}
end
end Go.Proofs.YtbbjmmooemmeiaaDoor

namespace Go.Proofs.YtbbjmmooemmeiaaDoor
set_option linter.all false
set_option linter.unusedVariables false
set_option linter.unusedSimpArgs false
set_option maxRecDepth 100000
theorem ip_bytes {c : Int} {a : AskV} (k : a.ok) : Bytes (ipOf c a) := by
  unfold ipOf
  split
  · unfold bodyI
    split
    · exact (le_bytes _ _).append ((le_bytes _ _).append ((Bytes.zeros 2).append ((ptextOf_bytes _).append (ptextOf_bytes _))))
    · split
      · exact le_bytes _ _
      · split
        · split
          · exact (le_bytes _ _).append ((le_bytes _ _).append (le_bytes _ _))
          · split
            · exact (le_bytes _ _).append ((le_bytes _ _).append (le_bytes _ _))
            · exact (le_bytes _ _).append ((le_bytes _ _).append ((le_bytes _ _).append (ptextOf_bytes _)))
        · split
          · exact (le_bytes _ _).append ((le_bytes _ _).append (Bytes.zeros 3))
          · exact Bytes.zeros 4
  · exact Bytes.nil
theorem ip_len {c : Int} {a : AskV} : (ipOf c a).length ≤ 70000 := by
  have h1 := rowOf_le a.pat.data.toList
  have h2 := rowOf_le a.aft.data.toList
  have h3 := rowOf_le a.name.data.toList
  unfold ipOf
  split
  · unfold bodyI
    repeat' split
    all_goals (simp only [List.length_append, le_length, List.length_replicate]; omega)
  · simp
end Go.Proofs.YtbbjmmooemmeiaaDoor

namespace Go.Proofs.YtbbjmmooemmeiaaDoor
set_option linter.all false
open Go.RowKit Go.ChangeShapes Go.WideShapes
set_option linter.unusedVariables false
section
variable {H : Type} {enc : TypeId × Value → H} {P : Program} {W : World} {base : Nat} {t e : TypeId} {v : Value} {d : DataW H} {p : List MemPlace}
/-- a slice of structs among the cells: all of its room -/
theorem trod_rows {α : Type} [Inhabited α] {f : α → List Value} {s : Nat} {ok : α → Prop} {fuel : Nat} {cs : List Value} {x : DataW H × List MemPlace} (ht : P.underlying t = some (.slice e)) (hc : P.cellsOf e = s) (hs : 0 < s) (hfl : ∀ y, (f y).length = s)
    (hel : ∀ (n : Nat) (cs : List Value) (x : DataW H × List MemPlace), DataW.trod enc P W 0 (fun _ => true) true n e cs = some x → ∃ y : α, cs = f y ∧ ok y)
    (hf : DataW.trod enc P W 0 (fun _ => true) true fuel t cs = some x) :
    ∃ A n c zs, cs = [.slice A n c] ∧ n ≤ c ∧ c < Rows.uptoBulk x.1 ∧ HoldsS f s W W.heap.size A c c zs ∧ ∀ z ∈ zs, ok z := by
  rcases Go.Deep.open_slice ht hf with ⟨hcs, hx⟩ | ⟨a, len, cap, m, n, D, Pl, hcs, _, hl, hm, hmm, hx, hcell⟩
  · exact ⟨none, 0, 0, [], hcs, Nat.le_refl _, bulk_one_le _, HoldsS.nil _ _ _ _, fun z h => by cases h⟩
  · subst hx
    simp only [if_true] at hmm
    subst hmm
    rw [hc] at hcell
    have each : ∀ i, i < m → ∃ y : α, W.cells? 0 (a.add (i * s)) s = some (f y) ∧ ok y := fun i hi => by
      obtain ⟨cs', h1, h2⟩ := hcell i hi
      obtain ⟨y, rfl, hy⟩ := hel _ _ _ h2
      exact ⟨y, h1, hy⟩
    obtain ⟨Y, hY⟩ := Go.Deep.choose_lt each
    refine ⟨some a, len, m, (List.range m).map Y, hcs, hl, ?_, ⟨by simp, Nat.le_refl _, (fun hA => by cases hA), fun h0 => ?_⟩, fun z hz => ?_⟩
    · have h1 := bulk_length_le ((List.range len).map D)
      have h2 := bulk_length_le ((List.range (m - len)).map fun j => D (len + j))
      rw [List.length_map, List.length_range] at h1 h2
      simp only [Rows.uptoBulk]
      omega
    · obtain ⟨b, off, spot⟩ := a
      obtain ⟨_, h01, h02⟩ := World.cells?_some (hY 0 h0).1
      have hf0 : 0 < (f (Y 0)).length := by rw [hfl]; exact hs
      have h03 := h02 0 (by omega)
      rw [List.getElem?_eq_getElem hf0] at h03
      have hspot : spot = none := by simpa [Addr.add] using World.cell?_spot h03
      subst hspot
      have add_at : ∀ i, (⟨b, off, none⟩ : Addr).add i = ⟨b, off + i, none⟩ := fun i => by
        by_cases hj0 : i = 0
        · subst hj0; simp [Addr.add]
        · simp [Addr.add, hj0]
      have add_at2 : ∀ i j, (⟨b, off + i, none⟩ : Addr).add j = ⟨b, off + (i + j), none⟩ := fun i j => by
        by_cases hj0 : j = 0
        · subst hj0; simp [Addr.add]
        · simp [Addr.add, hj0, Nat.add_assoc]
      refine ⟨b, off, rfl, ?_, fun i z hi j u hj => ?_⟩
      · have := World.block_lt_of_cell? W _ h03
        simpa [Addr.add] using this
      · rw [List.getElem?_map] at hi
        have him : i < m := by
          rcases Nat.lt_or_ge i m with h | h
          · exact h
          · rw [List.getElem?_eq_none (by simpa using h)] at hi; cases hi
        rw [List.getElem?_range him] at hi
        injection hi with hi
        subst hi
        obtain ⟨_, _, h2⟩ := World.cells?_some (hY i him).1
        have hjl : j < s := by rw [← hfl (Y i)]; exact (List.getElem?_eq_some_iff.1 hj).1
        have h3 := h2 j hjl
        rw [add_at, add_at2, hj] at h3
        exact h3
    · obtain ⟨i, hi, rfl⟩ := List.mem_map.1 hz
      exact (hY i (List.mem_range.1 hi)).2
end
end Go.Proofs.YtbbjmmooemmeiaaDoor

namespace Go.Proofs.YtbbjmmooemmeiaaDoor
set_option linter.all false
open Go.RowKit Go.ChangeShapes Go.WideShapes
set_option linter.unusedVariables false
set_option maxRecDepth 100000
section
variable {H : Type} {enc : TypeId × Value → H} {W : World} {base : Nat} {v : Value} {d : DataW H} {p : List MemPlace}
theorem trod_lock (n : Nat) (cs : List Value) (x : DataW H × List MemPlace) (hf : DataW.trod enc Tryd.prog W 0 (fun _ => true) true n 108 cs = some x) : ∃ l : LockV, cs = lockCells l ∧ l.ok := by
  obtain ⟨xs, m, _, _, hl, hx, hel⟩ := DataW.trod_struct Tryd.underlying108 hf
  have hx4 : xs.length = 4 := hx
  have h4 : cs.length = 4 := hl.trans (by kernel_rfl)
  have some_at : ∀ i, i < 4 → (xs[i]?).isSome = true := fun i hi => by simp [hx4, hi]
  have c1 : ∀ t, t = 3 ∨ t = 28 ∨ t = 22 → Tryd.prog.cellsOf t = 1 := by
    rintro t (rfl | rfl | rfl) <;> kernel_rfl
  have e0 := hel 0 _ rfl
  have e1 := hel 1 _ rfl
  have e2 := hel 2 _ rfl
  have e3 := hel 3 _ rfl
  rw [c1 _ (by simp)] at e0 e1 e2 e3
  obtain ⟨x0, d0, w0⟩ := one_num Tryd.underlying3 (some_at 0 (by omega)) e0
  obtain ⟨x1, d1, w1⟩ := one_num Tryd.underlying28 (some_at 1 (by omega)) e1
  obtain ⟨x2, d2, w2⟩ := one_num Tryd.underlying28 (some_at 2 (by omega)) e2
  obtain ⟨x3, d3, w3⟩ := one_num Tryd.underlying22 (some_at 3 (by omega)) e3
  refine ⟨⟨x0, x1, x2, x3⟩, ?_, ⟨int_bounds_i64 w0, int_bounds_u64 w1, int_bounds_u64 w2, int_bounds_u16 w3⟩⟩
  have f0 := drop_cons1 (i := 0) d0
  have f1 := drop_cons1 (i := 1) d1
  have f2 := drop_cons1 (i := 2) d2
  have f3 := drop_cons1 (i := 3) d3
  rw [List.drop_zero] at f0
  rw [f0, f1, f2, f3, List.drop_of_length_le (by omega)]
  rfl
end
end Go.Proofs.YtbbjmmooemmeiaaDoor

namespace Go.Proofs.YtbbjmmooemmeiaaDoor
set_option linter.all false
open Go.RowKit Go.ChangeShapes Go.WideShapes
set_option linter.unusedVariables false
section
variable {H : Type} {enc : TypeId × Value → H} {W : World} {base : Nat} {v : Value} {d : DataW H} {p : List MemPlace}
set_option maxRecDepth 100000 in
set_option maxHeartbeats 2000000 in
theorem open_ask (hv : Value.okWide Tryd.prog W .any base 32 v) (hk : DataW.Trod enc Tryd.prog W 0 (fun _ => true) true 32 v d p) (hu : Rows.uptoBulk d ≤ 1048577) : ∃ (cs : List Value) (a : AskV), v = .agg cs.toArray ∧ a.ok ∧ AskIs W W.heap.size cs a ∧ a.dial.length ≤ 1048576 ∧ a.data.length ≤ 1048576 ∧ a.locks.length ≤ 1048576 ∧ a.user.size ≤ 1048576 ∧ a.share.size ≤ 1048576 ∧ a.name.size ≤ 1048576 ∧ a.pat.size ≤ 1048576 ∧ a.aft.size ≤ 1048576 := by
  obtain ⟨cs, rfl, hsz, _⟩ : ∃ cs, v = .agg cs ∧ cs.size = Tryd.prog.cellsOf 32 ∧ Row.okWide Tryd.prog W .any base 32 cs := by
    simpa [Value.okWide, Tryd.underlying32] using hv
  have htot : Tryd.prog.cellsOf 32 = 69 := by kernel_rfl
  rw [htot] at hsz
  obtain ⟨fuel, hf⟩ := hk
  obtain ⟨xs, m, _, hd, hl, hx, hel⟩ := DataW.trod_struct Tryd.underlying32 hf
  have hxl : xs.length = 23 := hx
  have some_at : ∀ i, i < 23 → (xs[i]?).isSome = true := fun i hi => by simp [hxl, hi]
  have hdd : d = .agg (xs.map (·.1)) := by injection hd
  have wt : ∀ (i : Nat) (z : DataW H × List MemPlace), xs[i]? = some z → Rows.uptoBulk z.1 < Rows.uptoBulk d := fun i z hz => by
    rw [hdd]
    exact bulk_agg (List.mem_map.2 ⟨z, List.mem_of_getElem? hz, rfl⟩)
  have hcl : (Value.agg cs).cells.toList = cs.toList := rfl
  rw [hcl] at hel hl
  obtain ⟨l, hll⟩ : ∃ l, l = cs.toList := ⟨_, rfl⟩
  rw [← hll] at hel hl
  rw [htot] at hl
  have e0 := hel 0 _ rfl
  change DataW.trod enc Tryd.prog W 0 (fun _ => true) true m 24 ((l.drop 0).take (Tryd.prog.cellsOf 24)) = xs[0]? at e0
  rw [show Tryd.prog.cellsOf 24 = 1 from by kernel_rfl] at e0
  obtain ⟨z0, hz0⟩ := Option.isSome_iff_exists.1 (some_at 0 (by omega))
  have wz0 := wt 0 z0 hz0
  rw [hz0] at e0
  obtain ⟨A0, n0, k0, s0, d0, l0, b0, h0, w0⟩ := trod_ints Tryd.underlying24 Tryd.underlying22 (by kernel_rfl) e0
  have c0 := drop_cons1 (i := 0) d0
  have e1 := hel 1 _ rfl
  change DataW.trod enc Tryd.prog W 0 (fun _ => true) true m 25 ((l.drop 1).take (Tryd.prog.cellsOf 25)) = xs[1]? at e1
  rw [show Tryd.prog.cellsOf 25 = 16 from by kernel_rfl] at e1
  obtain ⟨z1, hz1⟩ := Option.isSome_iff_exists.1 (some_at 1 (by omega))
  have wz1 := wt 1 z1 hz1
  rw [hz1] at e1
  obtain ⟨s1, d1, w1⟩ := trod_arr Tryd.underlying25 Tryd.underlying5 (by kernel_rfl) (by simp; omega) e1
  have t1 : s1.length = 16 := by have := congrArg List.length d1; simp at this; omega
  have c1 : l.drop 1 = s1.map (Value.int .u8) ++ l.drop 17 := by
    rw [← d1, show l.drop 17 = (l.drop 1).drop 16 from by rw [List.drop_drop]]
    exact (List.take_append_drop _ _).symm
  have e2 := hel 2 _ rfl
  change DataW.trod enc Tryd.prog W 0 (fun _ => true) true m 26 ((l.drop 17).take (Tryd.prog.cellsOf 26)) = xs[2]? at e2
  rw [show Tryd.prog.cellsOf 26 = 32 from by kernel_rfl] at e2
  obtain ⟨z2, hz2⟩ := Option.isSome_iff_exists.1 (some_at 2 (by omega))
  have wz2 := wt 2 z2 hz2
  rw [hz2] at e2
  obtain ⟨s2, d2, w2⟩ := trod_arr Tryd.underlying26 Tryd.underlying5 (by kernel_rfl) (by simp; omega) e2
  have t2 : s2.length = 32 := by have := congrArg List.length d2; simp at this; omega
  have c2 : l.drop 17 = s2.map (Value.int .u8) ++ l.drop 49 := by
    rw [← d2, show l.drop 49 = (l.drop 17).drop 32 from by rw [List.drop_drop]]
    exact (List.take_append_drop _ _).symm
  have e3 := hel 3 _ rfl
  change DataW.trod enc Tryd.prog W 0 (fun _ => true) true m 9 ((l.drop 49).take (Tryd.prog.cellsOf 9)) = xs[3]? at e3
  rw [show Tryd.prog.cellsOf 9 = 1 from by kernel_rfl] at e3
  obtain ⟨z3, hz3⟩ := Option.isSome_iff_exists.1 (some_at 3 (by omega))
  have wz3 := wt 3 z3 hz3
  rw [hz3] at e3
  obtain ⟨x3, d3, q3, _⟩ := DataW.trod_string Tryd.underlying9 e3
  have c3 := drop_cons1 (i := 49) d3
  have k3 : x3.size ≤ 1048576 := by
    rw [q3] at wz3
    simp only [Rows.uptoBulk] at wz3
    have : x3.data.toList.length = x3.size := by rw [Array.length_toList]; rfl
    omega
  have e4 := hel 4 _ rfl
  change DataW.trod enc Tryd.prog W 0 (fun _ => true) true m 9 ((l.drop 50).take (Tryd.prog.cellsOf 9)) = xs[4]? at e4
  rw [show Tryd.prog.cellsOf 9 = 1 from by kernel_rfl] at e4
  obtain ⟨z4, hz4⟩ := Option.isSome_iff_exists.1 (some_at 4 (by omega))
  have wz4 := wt 4 z4 hz4
  rw [hz4] at e4
  obtain ⟨x4, d4, q4, _⟩ := DataW.trod_string Tryd.underlying9 e4
  have c4 := drop_cons1 (i := 50) d4
  have k4 : x4.size ≤ 1048576 := by
    rw [q4] at wz4
    simp only [Rows.uptoBulk] at wz4
    have : x4.data.toList.length = x4.size := by rw [Array.length_toList]; rfl
    omega
  have e5 := hel 5 _ rfl
  change DataW.trod enc Tryd.prog W 0 (fun _ => true) true m 27 ((l.drop 51).take (Tryd.prog.cellsOf 27)) = xs[5]? at e5
  rw [show Tryd.prog.cellsOf 27 = 1 from by kernel_rfl] at e5
  obtain ⟨z5, hz5⟩ := Option.isSome_iff_exists.1 (some_at 5 (by omega))
  have wz5 := wt 5 z5 hz5
  rw [hz5] at e5
  obtain ⟨x5, d5, w5⟩ := one_num (y := some z5) Tryd.underlying27 rfl e5
  have c5 := drop_cons1 (i := 51) d5
  have e6 := hel 6 _ rfl
  change DataW.trod enc Tryd.prog W 0 (fun _ => true) true m 27 ((l.drop 52).take (Tryd.prog.cellsOf 27)) = xs[6]? at e6
  rw [show Tryd.prog.cellsOf 27 = 1 from by kernel_rfl] at e6
  obtain ⟨z6, hz6⟩ := Option.isSome_iff_exists.1 (some_at 6 (by omega))
  have wz6 := wt 6 z6 hz6
  rw [hz6] at e6
  obtain ⟨x6, d6, w6⟩ := one_num (y := some z6) Tryd.underlying27 rfl e6
  have c6 := drop_cons1 (i := 52) d6
  have e7 := hel 7 _ rfl
  change DataW.trod enc Tryd.prog W 0 (fun _ => true) true m 27 ((l.drop 53).take (Tryd.prog.cellsOf 27)) = xs[7]? at e7
  rw [show Tryd.prog.cellsOf 27 = 1 from by kernel_rfl] at e7
  obtain ⟨z7, hz7⟩ := Option.isSome_iff_exists.1 (some_at 7 (by omega))
  have wz7 := wt 7 z7 hz7
  rw [hz7] at e7
  obtain ⟨x7, d7, w7⟩ := one_num (y := some z7) Tryd.underlying27 rfl e7
  have c7 := drop_cons1 (i := 53) d7
  have e8 := hel 8 _ rfl
  change DataW.trod enc Tryd.prog W 0 (fun _ => true) true m 27 ((l.drop 54).take (Tryd.prog.cellsOf 27)) = xs[8]? at e8
  rw [show Tryd.prog.cellsOf 27 = 1 from by kernel_rfl] at e8
  obtain ⟨z8, hz8⟩ := Option.isSome_iff_exists.1 (some_at 8 (by omega))
  have wz8 := wt 8 z8 hz8
  rw [hz8] at e8
  obtain ⟨x8, d8, w8⟩ := one_num (y := some z8) Tryd.underlying27 rfl e8
  have c8 := drop_cons1 (i := 54) d8
  have e9 := hel 9 _ rfl
  change DataW.trod enc Tryd.prog W 0 (fun _ => true) true m 5 ((l.drop 55).take (Tryd.prog.cellsOf 5)) = xs[9]? at e9
  rw [show Tryd.prog.cellsOf 5 = 1 from by kernel_rfl] at e9
  obtain ⟨z9, hz9⟩ := Option.isSome_iff_exists.1 (some_at 9 (by omega))
  have wz9 := wt 9 z9 hz9
  rw [hz9] at e9
  obtain ⟨x9, d9, w9⟩ := one_num (y := some z9) Tryd.underlying5 rfl e9
  have c9 := drop_cons1 (i := 55) d9
  have e10 := hel 10 _ rfl
  change DataW.trod enc Tryd.prog W 0 (fun _ => true) true m 5 ((l.drop 56).take (Tryd.prog.cellsOf 5)) = xs[10]? at e10
  rw [show Tryd.prog.cellsOf 5 = 1 from by kernel_rfl] at e10
  obtain ⟨z10, hz10⟩ := Option.isSome_iff_exists.1 (some_at 10 (by omega))
  have wz10 := wt 10 z10 hz10
  rw [hz10] at e10
  obtain ⟨x10, d10, w10⟩ := one_num (y := some z10) Tryd.underlying5 rfl e10
  have c10 := drop_cons1 (i := 56) d10
  have e11 := hel 11 _ rfl
  change DataW.trod enc Tryd.prog W 0 (fun _ => true) true m 28 ((l.drop 57).take (Tryd.prog.cellsOf 28)) = xs[11]? at e11
  rw [show Tryd.prog.cellsOf 28 = 1 from by kernel_rfl] at e11
  obtain ⟨z11, hz11⟩ := Option.isSome_iff_exists.1 (some_at 11 (by omega))
  have wz11 := wt 11 z11 hz11
  rw [hz11] at e11
  obtain ⟨x11, d11, w11⟩ := one_num (y := some z11) Tryd.underlying28 rfl e11
  have c11 := drop_cons1 (i := 57) d11
  have e12 := hel 12 _ rfl
  change DataW.trod enc Tryd.prog W 0 (fun _ => true) true m 9 ((l.drop 58).take (Tryd.prog.cellsOf 9)) = xs[12]? at e12
  rw [show Tryd.prog.cellsOf 9 = 1 from by kernel_rfl] at e12
  obtain ⟨z12, hz12⟩ := Option.isSome_iff_exists.1 (some_at 12 (by omega))
  have wz12 := wt 12 z12 hz12
  rw [hz12] at e12
  obtain ⟨x12, d12, q12, _⟩ := DataW.trod_string Tryd.underlying9 e12
  have c12 := drop_cons1 (i := 58) d12
  have k12 : x12.size ≤ 1048576 := by
    rw [q12] at wz12
    simp only [Rows.uptoBulk] at wz12
    have : x12.data.toList.length = x12.size := by rw [Array.length_toList]; rfl
    omega
  have e13 := hel 13 _ rfl
  change DataW.trod enc Tryd.prog W 0 (fun _ => true) true m 28 ((l.drop 59).take (Tryd.prog.cellsOf 28)) = xs[13]? at e13
  rw [show Tryd.prog.cellsOf 28 = 1 from by kernel_rfl] at e13
  obtain ⟨z13, hz13⟩ := Option.isSome_iff_exists.1 (some_at 13 (by omega))
  have wz13 := wt 13 z13 hz13
  rw [hz13] at e13
  obtain ⟨x13, d13, w13⟩ := one_num (y := some z13) Tryd.underlying28 rfl e13
  have c13 := drop_cons1 (i := 59) d13
  have e14 := hel 14 _ rfl
  change DataW.trod enc Tryd.prog W 0 (fun _ => true) true m 27 ((l.drop 60).take (Tryd.prog.cellsOf 27)) = xs[14]? at e14
  rw [show Tryd.prog.cellsOf 27 = 1 from by kernel_rfl] at e14
  obtain ⟨z14, hz14⟩ := Option.isSome_iff_exists.1 (some_at 14 (by omega))
  have wz14 := wt 14 z14 hz14
  rw [hz14] at e14
  obtain ⟨x14, d14, w14⟩ := one_num (y := some z14) Tryd.underlying27 rfl e14
  have c14 := drop_cons1 (i := 60) d14
  have e15 := hel 15 _ rfl
  change DataW.trod enc Tryd.prog W 0 (fun _ => true) true m 29 ((l.drop 61).take (Tryd.prog.cellsOf 29)) = xs[15]? at e15
  rw [show Tryd.prog.cellsOf 29 = 1 from by kernel_rfl] at e15
  obtain ⟨z15, hz15⟩ := Option.isSome_iff_exists.1 (some_at 15 (by omega))
  have wz15 := wt 15 z15 hz15
  rw [hz15] at e15
  obtain ⟨A15, n15, k15, s15, d15, l15, b15, h15, w15⟩ := trod_ints Tryd.underlying29 Tryd.underlying5 (by kernel_rfl) e15
  have c15 := drop_cons1 (i := 61) d15
  have e16 := hel 16 _ rfl
  change DataW.trod enc Tryd.prog W 0 (fun _ => true) true m 30 ((l.drop 62).take (Tryd.prog.cellsOf 30)) = xs[16]? at e16
  rw [show Tryd.prog.cellsOf 30 = 1 from by kernel_rfl] at e16
  obtain ⟨z16, hz16⟩ := Option.isSome_iff_exists.1 (some_at 16 (by omega))
  have wz16 := wt 16 z16 hz16
  rw [hz16] at e16
  obtain ⟨A16, n16, k16, s16, d16, l16, b16, h16, w16⟩ := trod_rows (f := lockCells) (s := 4) (ok := LockV.ok) Tryd.underlying30 (by kernel_rfl) (by omega) lockCells_len trod_lock e16
  have c16 := drop_cons1 (i := 62) d16
  have e17 := hel 17 _ rfl
  change DataW.trod enc Tryd.prog W 0 (fun _ => true) true m 22 ((l.drop 63).take (Tryd.prog.cellsOf 22)) = xs[17]? at e17
  rw [show Tryd.prog.cellsOf 22 = 1 from by kernel_rfl] at e17
  obtain ⟨z17, hz17⟩ := Option.isSome_iff_exists.1 (some_at 17 (by omega))
  have wz17 := wt 17 z17 hz17
  rw [hz17] at e17
  obtain ⟨x17, d17, w17⟩ := one_num (y := some z17) Tryd.underlying22 rfl e17
  have c17 := drop_cons1 (i := 63) d17
  have e18 := hel 18 _ rfl
  change DataW.trod enc Tryd.prog W 0 (fun _ => true) true m 9 ((l.drop 64).take (Tryd.prog.cellsOf 9)) = xs[18]? at e18
  rw [show Tryd.prog.cellsOf 9 = 1 from by kernel_rfl] at e18
  obtain ⟨z18, hz18⟩ := Option.isSome_iff_exists.1 (some_at 18 (by omega))
  have wz18 := wt 18 z18 hz18
  rw [hz18] at e18
  obtain ⟨x18, d18, q18, _⟩ := DataW.trod_string Tryd.underlying9 e18
  have c18 := drop_cons1 (i := 64) d18
  have k18 : x18.size ≤ 1048576 := by
    rw [q18] at wz18
    simp only [Rows.uptoBulk] at wz18
    have : x18.data.toList.length = x18.size := by rw [Array.length_toList]; rfl
    omega
  have e19 := hel 19 _ rfl
  change DataW.trod enc Tryd.prog W 0 (fun _ => true) true m 9 ((l.drop 65).take (Tryd.prog.cellsOf 9)) = xs[19]? at e19
  rw [show Tryd.prog.cellsOf 9 = 1 from by kernel_rfl] at e19
  obtain ⟨z19, hz19⟩ := Option.isSome_iff_exists.1 (some_at 19 (by omega))
  have wz19 := wt 19 z19 hz19
  rw [hz19] at e19
  obtain ⟨x19, d19, q19, _⟩ := DataW.trod_string Tryd.underlying9 e19
  have c19 := drop_cons1 (i := 65) d19
  have k19 : x19.size ≤ 1048576 := by
    rw [q19] at wz19
    simp only [Rows.uptoBulk] at wz19
    have : x19.data.toList.length = x19.size := by rw [Array.length_toList]; rfl
    omega
  have e20 := hel 20 _ rfl
  change DataW.trod enc Tryd.prog W 0 (fun _ => true) true m 22 ((l.drop 66).take (Tryd.prog.cellsOf 22)) = xs[20]? at e20
  rw [show Tryd.prog.cellsOf 22 = 1 from by kernel_rfl] at e20
  obtain ⟨z20, hz20⟩ := Option.isSome_iff_exists.1 (some_at 20 (by omega))
  have wz20 := wt 20 z20 hz20
  rw [hz20] at e20
  obtain ⟨x20, d20, w20⟩ := one_num (y := some z20) Tryd.underlying22 rfl e20
  have c20 := drop_cons1 (i := 66) d20
  have e21 := hel 21 _ rfl
  change DataW.trod enc Tryd.prog W 0 (fun _ => true) true m 28 ((l.drop 67).take (Tryd.prog.cellsOf 28)) = xs[21]? at e21
  rw [show Tryd.prog.cellsOf 28 = 1 from by kernel_rfl] at e21
  obtain ⟨z21, hz21⟩ := Option.isSome_iff_exists.1 (some_at 21 (by omega))
  have wz21 := wt 21 z21 hz21
  rw [hz21] at e21
  obtain ⟨x21, d21, w21⟩ := one_num (y := some z21) Tryd.underlying28 rfl e21
  have c21 := drop_cons1 (i := 67) d21
  have e22 := hel 22 _ rfl
  change DataW.trod enc Tryd.prog W 0 (fun _ => true) true m 4 ((l.drop 68).take (Tryd.prog.cellsOf 4)) = xs[22]? at e22
  rw [show Tryd.prog.cellsOf 4 = 1 from by kernel_rfl] at e22
  obtain ⟨z22, hz22⟩ := Option.isSome_iff_exists.1 (some_at 22 (by omega))
  have wz22 := wt 22 z22 hz22
  rw [hz22] at e22
  obtain ⟨x22, d22, _⟩ := DataW.trod_bool Tryd.underlying4 e22
  have c22 := drop_cons1 (i := 68) d22
  refine ⟨l, ⟨s0.take n0, s1, s2, x3, x4, x5, x6, x7, x8, x9, x10, x11, x12, x13, x14, s15.take n15, s16.take n16, x17, x18, x19, x20, x21, x22⟩, by rw [hll], ⟨fun y hy => int_bounds_u16 (w0 y (List.mem_of_mem_take hy)), t1, fun y hy => int_bounds_u8 (w1 y hy), t2, fun y hy => int_bounds_u8 (w2 y hy), int_bounds_u32 w5, int_bounds_u32 w6, int_bounds_u32 w7, int_bounds_u32 w8, int_bounds_u8 w9, int_bounds_u8 w10, int_bounds_u64 w11, int_bounds_u64 w13, int_bounds_u32 w14, fun y hy => int_bounds_u8 (w15 y (List.mem_of_mem_take hy)), fun y hy => w16 y (List.mem_of_mem_take hy), int_bounds_u16 w17, int_bounds_u16 w20, int_bounds_u64 w21⟩, ⟨A0, n0, k0, A15, n15, k15, A16, n16, k16, ?_, h0.head l0, (holds_of_F h15 (by omega) (fun y hy => int_bounds_u8 (w15 y hy))).head l15, h16.head l16⟩, by simp; omega, by simp; omega, by simp; omega, k3, k4, k12, k18, k19⟩
  have c := c0
  rw [List.drop_zero] at c
  rw [c, c1, c2, c3, c4, c5, c6, c7, c8, c9, c10, c11, c12, c13, c14, c15, c16, c17, c18, c19, c20, c21, c22, List.drop_of_length_le (by omega)]
  rfl
end
end Go.Proofs.YtbbjmmooemmeiaaDoor
