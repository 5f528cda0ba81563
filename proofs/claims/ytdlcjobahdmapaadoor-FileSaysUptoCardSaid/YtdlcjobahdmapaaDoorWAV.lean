import Derived.WalkKit
import Derived.Deep.Draws
import Derived.Laws.Rows
import Derived.Laws.OwnMore
import Derived.Test.YtdlcjobahdmapaaDoorRows
import Derived.Laws.CopyOwn
import Derived.Laws.AppendOwnNone
import Derived.Lib.Hide
import Derived.Laws.AppendOwn
import Derived.OwnWalk
import Derived.Lib.OthersKept
import Derived.Laws.BytesArg
import Derived.Laws.Tables
import Derived.Laws.NewFold
import Derived.Deep.WholeRow
import Derived.Deep.DeepCutAuto
import Derived.OneCell
import Derived.ProofKit
import Derived.OpenShut
import Derived.ShutString
import Derived.SizedLaws
import Derived.ChangeOld
import Derived.Deep.Strs
import Derived.Deep.MidRow
import Derived.Great.Walk
import Derived.Lib.RuneBytes
import Derived.Lib.ValidLaws
import Derived.Shelf.Utf8.AppendRunePlain
import Derived.Shelf.Unicode.ValidAny
import Derived.Test.YtdlcjobahdmapaaDoorProg
import Derived.WalkSpells
import Derived.WalkLawsBesides
import Derived.Deep.QuietTactic
import Derived.BigQuiet
import Derived.Laws.Bits64
import Derived.Laws.BitsAllLaws
import Derived.Lib.AppendZeros
import Derived.Deep.RegionWith
import Derived.OrdersHeld
import Derived.Laws.StructEq
import Derived.ChangeKeysEq
import Derived.Deep.RegionLaw
import Derived.Deep.OwnRows
import Derived.Test.YtdlcjobahdmapaaDoorWAD
import Derived.Test.YtdlcjobahdmapaaDoorWAF
import Derived.Test.YtdlcjobahdmapaaDoorWAG
import Derived.Test.YtdlcjobahdmapaaDoorWAH
import Derived.Test.YtdlcjobahdmapaaDoorWAI
import Derived.Test.YtdlcjobahdmapaaDoorWAK
import Derived.Test.YtdlcjobahdmapaaDoorWAL
import Derived.Test.YtdlcjobahdmapaaDoorWAQ
import Derived.Test.YtdlcjobahdmapaaDoorWAR
namespace Go.Proofs.YtdlcjobahdmapaaDoor
set_option linter.all false
open Go.RowKit
theorem entryCells_len (l : EntryV) : (entryCells l).length = 3 := rfl
section
variable {w w' : World} {B B' g : Nat} {T : TypeId} {cs : List Value} {a : AskV} {s : SayV} {vd vx vl ve : Value}
end
end Go.Proofs.YtdlcjobahdmapaaDoor

namespace Go.Proofs.YtdlcjobahdmapaaDoor
set_option linter.all false
set_option linter.unusedVariables false
set_option linter.unusedSimpArgs false
set_option maxRecDepth 100000
theorem fs_bytes {c : Int} {a : SayV} (k : a.ok) : Bytes (fsOf c a) := by
  unfold fsOf
  split
  · unfold bodyFS
    split
    · exact (le_bytes _ _).append ((le_bytes _ _).append ((le_bytes _ _).append ((le_bytes _ _).append ((le_bytes _ _).append ((le_bytes _ _).append (Bytes.zeros 2))))))
    · split
      · exact (le_bytes _ _).append k.data
      · split
        · exact le_bytes _ _
        · exact Bytes.zeros 4
  · exact Bytes.nil
theorem fs_len {c : Int} {a : SayV} : (fsOf c a).length ≤ 70000 := by
  unfold fsOf
  split
  · rename_i he
    obtain ⟨_, _, _, _, hd, _⟩ := fs_parts he
    unfold bodyFS
    split
    · simp only [List.length_append, le_length, List.length_replicate]; omega
    · split
      · simp only [List.length_append, le_length]; omega
      · split
        · simp only [le_length]; omega
        · simp
  · simp
end Go.Proofs.YtdlcjobahdmapaaDoor

namespace Go.Proofs.YtdlcjobahdmapaaDoor
set_option linter.all false
open Go.RowKit Go.ChangeShapes Go.WideShapes
set_option linter.unusedVariables false
set_option maxRecDepth 100000
section
variable {H : Type} {enc : TypeId × Value → H} {W : World} {base : Nat} {v : Value} {d : DataW H} {p : List MemPlace}
theorem trod_entry (n : Nat) (cs : List Value) (x : DataW H × List MemPlace) (hf : DataW.trod enc Tryd.prog W 0 (fun _ => true) true n 101 cs = some x) : ∃ l : EntryV, cs = entryCells l ∧ l.ok := by
  obtain ⟨xs, m, _, _, hl, hx, hel⟩ := DataW.trod_struct Tryd.underlying101 hf
  have hx2 : xs.length = 2 := hx
  have h3 : cs.length = 3 := hl.trans (by kernel_rfl)
  have e0 := hel 0 _ rfl
  have e1 := hel 1 _ rfl
  have cs1 : Tryd.prog.cellsOf 9 = 1 := by kernel_rfl
  have cs2 : Tryd.prog.cellsOf 99 = 2 := by kernel_rfl
  change DataW.trod enc Tryd.prog W 0 (fun _ => true) true m 9 ((cs.drop 0).take (Tryd.prog.cellsOf 9)) = xs[0]? at e0
  change DataW.trod enc Tryd.prog W 0 (fun _ => true) true m 99 ((cs.drop 1).take (Tryd.prog.cellsOf 99)) = xs[1]? at e1
  rw [cs1] at e0
  rw [cs2] at e1
  obtain ⟨z0, hz0⟩ := Option.isSome_iff_exists.1 (show (xs[0]?).isSome = true by simp [hx2])
  obtain ⟨z1, hz1⟩ := Option.isSome_iff_exists.1 (show (xs[1]?).isSome = true by simp [hx2])
  rw [hz0] at e0
  rw [hz1] at e1
  obtain ⟨s, d0, _, _⟩ := DataW.trod_string (P := Tryd.prog) Tryd.underlying9 e0
  obtain ⟨ys, m2, _, _, hl2, hy, hel2⟩ := DataW.trod_struct Tryd.underlying99 e1
  have hy2 : ys.length = 2 := hy
  have g0 := hel2 0 _ rfl
  have g1 := hel2 1 _ rfl
  have c1 : ∀ t, t = 3 ∨ t = 42 → Tryd.prog.cellsOf t = 1 := by
    rintro t (rfl | rfl) <;> kernel_rfl
  rw [c1 _ (by simp)] at g0 g1
  obtain ⟨x1, d1, w1⟩ := one_num Tryd.underlying42 (by simp [hy2]) g0
  obtain ⟨x2, d2, w2⟩ := one_num Tryd.underlying3 (by simp [hy2]) g1
  refine ⟨⟨s, x1, x2⟩, ?_, ⟨int_bounds_u8 w1, int_bounds_i64 w2⟩⟩
  match cs, h3 with
  | [a, b, c], _ =>
    simp at d0 d1 d2
    simp [entryCells, d0, d1, d2]
end
end Go.Proofs.YtdlcjobahdmapaaDoor

namespace Go.Proofs.YtdlcjobahdmapaaDoor
set_option linter.all false
open Go.RowKit Go.ChangeShapes Go.WideShapes
set_option linter.unusedVariables false
section
variable {H : Type} {enc : TypeId × Value → H} {W : World} {base : Nat} {v : Value} {d : DataW H} {p : List MemPlace}
set_option maxRecDepth 100000 in
set_option maxHeartbeats 2000000 in
theorem open_say (hv : Value.okWide Tryd.prog W .any base 45 v) (hk : DataW.Trod enc Tryd.prog W 0 (fun _ => true) true 45 v d p) (hu : Rows.uptoBulk d ≤ 1048577) : ∃ (cs : List Value) (a : SayV), v = .agg cs.toArray ∧ a.ok ∧ SayIs W W.heap.size cs a ∧ a.data.length ≤ 1048576 ∧ a.ents.length ≤ 1048576 := by
  obtain ⟨cs, rfl, hsz, _⟩ : ∃ cs, v = .agg cs ∧ cs.size = Tryd.prog.cellsOf 45 ∧ Row.okWide Tryd.prog W .any base 45 cs := by
    simpa [Value.okWide, Tryd.underlying45] using hv
  have htot : Tryd.prog.cellsOf 45 = 20 := by kernel_rfl
  rw [htot] at hsz
  obtain ⟨fuel, hf⟩ := hk
  obtain ⟨xs, m, _, hd, hl, hx, hel⟩ := DataW.trod_struct Tryd.underlying45 hf
  have hxl : xs.length = 13 := hx
  have some_at : ∀ i, i < 13 → (xs[i]?).isSome = true := fun i hi => by simp [hxl, hi]
  have hdd : d = .agg (xs.map (·.1)) := by injection hd
  have wt : ∀ (i : Nat) (z : DataW H × List MemPlace), xs[i]? = some z → Rows.uptoBulk z.1 < Rows.uptoBulk d := fun i z hz => by
    rw [hdd]
    exact bulk_agg (List.mem_map.2 ⟨z, List.mem_of_getElem? hz, rfl⟩)
  have hcl : (Value.agg cs).cells.toList = cs.toList := rfl
  rw [hcl] at hel hl
  obtain ⟨l, hll⟩ : ∃ l, l = cs.toList := ⟨_, rfl⟩
  rw [← hll] at hel hl
  rw [htot] at hl
  have e0 := hel 0 _ rfl
  change DataW.trod enc Tryd.prog W 0 (fun _ => true) true m 22 ((l.drop 0).take (Tryd.prog.cellsOf 22)) = xs[0]? at e0
  rw [show Tryd.prog.cellsOf 22 = 1 from by kernel_rfl] at e0
  obtain ⟨z0, hz0⟩ := Option.isSome_iff_exists.1 (some_at 0 (by omega))
  have wz0 := wt 0 z0 hz0
  rw [hz0] at e0
  obtain ⟨x0, d0, w0⟩ := one_num (y := some z0) Tryd.underlying22 rfl e0
  have c0 := drop_cons1 (i := 0) d0
  have e1 := hel 1 _ rfl
  change DataW.trod enc Tryd.prog W 0 (fun _ => true) true m 28 ((l.drop 1).take (Tryd.prog.cellsOf 28)) = xs[1]? at e1
  rw [show Tryd.prog.cellsOf 28 = 1 from by kernel_rfl] at e1
  obtain ⟨z1, hz1⟩ := Option.isSome_iff_exists.1 (some_at 1 (by omega))
  have wz1 := wt 1 z1 hz1
  rw [hz1] at e1
  obtain ⟨x1, d1, w1⟩ := one_num (y := some z1) Tryd.underlying28 rfl e1
  have c1 := drop_cons1 (i := 1) d1
  have e2 := hel 2 _ rfl
  change DataW.trod enc Tryd.prog W 0 (fun _ => true) true m 41 ((l.drop 2).take (Tryd.prog.cellsOf 41)) = xs[2]? at e2
  rw [show Tryd.prog.cellsOf 41 = 8 from by kernel_rfl] at e2
  obtain ⟨z2, hz2⟩ := Option.isSome_iff_exists.1 (some_at 2 (by omega))
  have wz2 := wt 2 z2 hz2
  rw [hz2] at e2
  obtain ⟨s2, d2, w2⟩ := trod_arr Tryd.underlying41 Tryd.underlying5 (by kernel_rfl) (by simp; omega) e2
  have t2 : s2.length = 8 := by have := congrArg List.length d2; simp at this; omega
  have c2 : l.drop 2 = s2.map (Value.int .u8) ++ l.drop 10 := by
    rw [← d2, show l.drop 10 = (l.drop 2).drop 8 from by rw [List.drop_drop]]
    exact (List.take_append_drop _ _).symm
  have e3 := hel 3 _ rfl
  change DataW.trod enc Tryd.prog W 0 (fun _ => true) true m 5 ((l.drop 10).take (Tryd.prog.cellsOf 5)) = xs[3]? at e3
  rw [show Tryd.prog.cellsOf 5 = 1 from by kernel_rfl] at e3
  obtain ⟨z3, hz3⟩ := Option.isSome_iff_exists.1 (some_at 3 (by omega))
  have wz3 := wt 3 z3 hz3
  rw [hz3] at e3
  obtain ⟨x3, d3, w3⟩ := one_num (y := some z3) Tryd.underlying5 rfl e3
  have c3 := drop_cons1 (i := 10) d3
  have e4 := hel 4 _ rfl
  change DataW.trod enc Tryd.prog W 0 (fun _ => true) true m 5 ((l.drop 11).take (Tryd.prog.cellsOf 5)) = xs[4]? at e4
  rw [show Tryd.prog.cellsOf 5 = 1 from by kernel_rfl] at e4
  obtain ⟨z4, hz4⟩ := Option.isSome_iff_exists.1 (some_at 4 (by omega))
  have wz4 := wt 4 z4 hz4
  rw [hz4] at e4
  obtain ⟨x4, d4, w4⟩ := one_num (y := some z4) Tryd.underlying5 rfl e4
  have c4 := drop_cons1 (i := 11) d4
  have e5 := hel 5 _ rfl
  change DataW.trod enc Tryd.prog W 0 (fun _ => true) true m 22 ((l.drop 12).take (Tryd.prog.cellsOf 22)) = xs[5]? at e5
  rw [show Tryd.prog.cellsOf 22 = 1 from by kernel_rfl] at e5
  obtain ⟨z5, hz5⟩ := Option.isSome_iff_exists.1 (some_at 5 (by omega))
  have wz5 := wt 5 z5 hz5
  rw [hz5] at e5
  obtain ⟨x5, d5, w5⟩ := one_num (y := some z5) Tryd.underlying22 rfl e5
  have c5 := drop_cons1 (i := 12) d5
  have e6 := hel 6 _ rfl
  change DataW.trod enc Tryd.prog W 0 (fun _ => true) true m 28 ((l.drop 13).take (Tryd.prog.cellsOf 28)) = xs[6]? at e6
  rw [show Tryd.prog.cellsOf 28 = 1 from by kernel_rfl] at e6
  obtain ⟨z6, hz6⟩ := Option.isSome_iff_exists.1 (some_at 6 (by omega))
  have wz6 := wt 6 z6 hz6
  rw [hz6] at e6
  obtain ⟨x6, d6, w6⟩ := one_num (y := some z6) Tryd.underlying28 rfl e6
  have c6 := drop_cons1 (i := 13) d6
  have e7 := hel 7 _ rfl
  change DataW.trod enc Tryd.prog W 0 (fun _ => true) true m 42 ((l.drop 14).take (Tryd.prog.cellsOf 42)) = xs[7]? at e7
  rw [show Tryd.prog.cellsOf 42 = 1 from by kernel_rfl] at e7
  obtain ⟨z7, hz7⟩ := Option.isSome_iff_exists.1 (some_at 7 (by omega))
  have wz7 := wt 7 z7 hz7
  rw [hz7] at e7
  obtain ⟨x7, d7, w7⟩ := one_num (y := some z7) Tryd.underlying42 rfl e7
  have c7 := drop_cons1 (i := 14) d7
  have e8 := hel 8 _ rfl
  change DataW.trod enc Tryd.prog W 0 (fun _ => true) true m 29 ((l.drop 15).take (Tryd.prog.cellsOf 29)) = xs[8]? at e8
  rw [show Tryd.prog.cellsOf 29 = 1 from by kernel_rfl] at e8
  obtain ⟨z8, hz8⟩ := Option.isSome_iff_exists.1 (some_at 8 (by omega))
  have wz8 := wt 8 z8 hz8
  rw [hz8] at e8
  obtain ⟨A8, n8, k8, s8, d8, l8, b8, h8, w8⟩ := trod_ints Tryd.underlying29 Tryd.underlying5 (by kernel_rfl) e8
  have c8 := drop_cons1 (i := 15) d8
  have e9 := hel 9 _ rfl
  change DataW.trod enc Tryd.prog W 0 (fun _ => true) true m 27 ((l.drop 16).take (Tryd.prog.cellsOf 27)) = xs[9]? at e9
  rw [show Tryd.prog.cellsOf 27 = 1 from by kernel_rfl] at e9
  obtain ⟨z9, hz9⟩ := Option.isSome_iff_exists.1 (some_at 9 (by omega))
  have wz9 := wt 9 z9 hz9
  rw [hz9] at e9
  obtain ⟨x9, d9, w9⟩ := one_num (y := some z9) Tryd.underlying27 rfl e9
  have c9 := drop_cons1 (i := 16) d9
  have e10 := hel 10 _ rfl
  change DataW.trod enc Tryd.prog W 0 (fun _ => true) true m 43 ((l.drop 17).take (Tryd.prog.cellsOf 43)) = xs[10]? at e10
  rw [show Tryd.prog.cellsOf 43 = 1 from by kernel_rfl] at e10
  obtain ⟨z10, hz10⟩ := Option.isSome_iff_exists.1 (some_at 10 (by omega))
  have wz10 := wt 10 z10 hz10
  rw [hz10] at e10
  obtain ⟨A10, n10, k10, s10, d10, l10, b10, h10, w10⟩ := trod_rows (f := entryCells) (s := 3) (ok := EntryV.ok) Tryd.underlying43 (by kernel_rfl) (by omega) entryCells_len trod_entry e10
  have c10 := drop_cons1 (i := 17) d10
  have e11 := hel 11 _ rfl
  change DataW.trod enc Tryd.prog W 0 (fun _ => true) true m 4 ((l.drop 18).take (Tryd.prog.cellsOf 4)) = xs[11]? at e11
  rw [show Tryd.prog.cellsOf 4 = 1 from by kernel_rfl] at e11
  obtain ⟨z11, hz11⟩ := Option.isSome_iff_exists.1 (some_at 11 (by omega))
  have wz11 := wt 11 z11 hz11
  rw [hz11] at e11
  obtain ⟨x11, d11, _⟩ := DataW.trod_bool Tryd.underlying4 e11
  have c11 := drop_cons1 (i := 18) d11
  have e12 := hel 12 _ rfl
  change DataW.trod enc Tryd.prog W 0 (fun _ => true) true m 4 ((l.drop 19).take (Tryd.prog.cellsOf 4)) = xs[12]? at e12
  rw [show Tryd.prog.cellsOf 4 = 1 from by kernel_rfl] at e12
  obtain ⟨z12, hz12⟩ := Option.isSome_iff_exists.1 (some_at 12 (by omega))
  have wz12 := wt 12 z12 hz12
  rw [hz12] at e12
  obtain ⟨x12, d12, _⟩ := DataW.trod_bool Tryd.underlying4 e12
  have c12 := drop_cons1 (i := 19) d12
  refine ⟨l, ⟨x0, x1, s2, x3, x4, x5, x6, x7, s8.take n8, x9, s10.take n10, x11, x12⟩, by rw [hll], ⟨int_bounds_u16 w0, int_bounds_u64 w1, t2, fun y hy => int_bounds_u8 (w2 y hy), int_bounds_u8 w3, int_bounds_u8 w4, int_bounds_u16 w5, int_bounds_u64 w6, int_bounds_u8 w7, fun y hy => int_bounds_u8 (w8 y (List.mem_of_mem_take hy)), int_bounds_u32 w9, fun y hy => w10 y (List.mem_of_mem_take hy)⟩, ⟨A8, n8, k8, A10, n10, k10, ?_, (holds_of_F h8 (by omega) (fun y hy => int_bounds_u8 (w8 y hy))).head l8, h10.head l10⟩, by simp; omega, by simp; omega⟩
  have c := c0
  rw [List.drop_zero] at c
  rw [c, c1, c2, c3, c4, c5, c6, c7, c8, c9, c10, c11, c12, List.drop_of_length_le (by omega)]
  rfl
end
end Go.Proofs.YtdlcjobahdmapaaDoor
