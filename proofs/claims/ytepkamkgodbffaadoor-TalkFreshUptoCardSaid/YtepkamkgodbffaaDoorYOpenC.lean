/-
  An argument that is an Ask, a Say, opened field by field ('open_ask', 'open_say'), with what each list and text weighs (written by tools/gen_openc.py).
-/
import Derived.Test.YtepkamkgodbffaaDoorYOpenB
import Derived.Test.YtepkamkgodbffaaDoorYOpenArr
namespace Go.Proofs.YtepkamkgodbffaaDoor
open Go.RowKit Go.ChangeShapes Go.WideShapes
set_option linter.unusedVariables false

section
variable {H : Type} {enc : TypeId × Value → H} {W : World} {base : Nat} {v : Value} {d : DataW H} {p : List MemPlace}

theorem holds_of_F {w : World} {B : Nat} {A : Option Addr} {n c : Nat} {xs : List Int} (h : HoldsF (Value.int .u8) w B A n c xs) (hr : n ≤ 281474976710656) (hb : Bytes xs) : Holds w B A n c xs :=
  ⟨h.len, h.fit, hr, hb, h.bare, fun h0 => by
    obtain ⟨b, off, e1, e2, e3⟩ := h.cells h0
    refine ⟨b, off, e1, e2, fun i hi => ?_⟩
    have hil : i < xs.length := by rw [h.len]; exact hi
    rw [e3 i xs[i] (List.getElem?_eq_getElem hil)]
    simp [List.getD_eq_getElem?_getD, hil]⟩

set_option maxRecDepth 100000 in
set_option maxHeartbeats 2000000 in
theorem open_ask (hv : Value.okWide Tryd.prog W .any base 32 v) (hk : DataW.Trod enc Tryd.prog W 0 (fun _ => true) true 32 v d p) (hu : Rows.uptoBulk d ≤ 1048577) : ∃ (cs : List Value) (a : AskV), v = .agg cs.toArray ∧ a.ok ∧ AskIs W W.heap.size cs a ∧ a.dial.length ≤ 1048576 ∧ a.data.length ≤ 1048576 ∧ a.locks.length ≤ 1048576 ∧ a.user.size ≤ 1048576 ∧ a.share.size ≤ 1048576 ∧ a.name.size ≤ 1048576 ∧ a.pat.size ≤ 1048576 ∧ a.aft.size ≤ 1048576 := by
  obtain ⟨cs, rfl, hsz, _⟩ : ∃ cs, v = .agg cs ∧ cs.size = Tryd.prog.cellsOf 32 ∧ Row.okWide Tryd.prog W .any base 32 cs := by
    simpa [Value.okWide, Tryd.underlying32] using hv
  have htot : Tryd.prog.cellsOf 32 = 69 := by kernel_rfl
  rw [htot] at hsz
  obtain ⟨fuel, hf⟩ := hk
  obtain ⟨xs, m, _, hd, hl, hx, hel⟩ := DataW.trod_struct Tryd.underlying32 hf
  have hxl : xs.length = 23 := hx
  have some_at : ∀ i, i < 23 → (xs[i]?).isSome = true := fun i hi => by simp [hxl, hi]
  have hdd : d = .agg (xs.map (·.1)) := by injection hd
  have wt : ∀ (i : Nat) (z : DataW H × List MemPlace), xs[i]? = some z → Rows.uptoBulk z.1 < Rows.uptoBulk d := fun i z hz => by
    rw [hdd]
    exact bulk_agg (List.mem_map.2 ⟨z, List.mem_of_getElem? hz, rfl⟩)
  have hcl : (Value.agg cs).cells.toList = cs.toList := rfl
  rw [hcl] at hel hl
  obtain ⟨l, hll⟩ : ∃ l, l = cs.toList := ⟨_, rfl⟩
  rw [← hll] at hel hl
  rw [htot] at hl
  have e0 := hel 0 _ rfl
  change DataW.trod enc Tryd.prog W 0 (fun _ => true) true m 24 ((l.drop 0).take (Tryd.prog.cellsOf 24)) = xs[0]? at e0
  rw [show Tryd.prog.cellsOf 24 = 1 from by kernel_rfl] at e0
  obtain ⟨z0, hz0⟩ := Option.isSome_iff_exists.1 (some_at 0 (by omega))
  have wz0 := wt 0 z0 hz0
  rw [hz0] at e0
  obtain ⟨A0, n0, k0, s0, d0, l0, b0, h0, w0⟩ := trod_ints Tryd.underlying24 Tryd.underlying22 (by kernel_rfl) e0
  have c0 := drop_cons1 (i := 0) d0
  have e1 := hel 1 _ rfl
  change DataW.trod enc Tryd.prog W 0 (fun _ => true) true m 25 ((l.drop 1).take (Tryd.prog.cellsOf 25)) = xs[1]? at e1
  rw [show Tryd.prog.cellsOf 25 = 16 from by kernel_rfl] at e1
  obtain ⟨z1, hz1⟩ := Option.isSome_iff_exists.1 (some_at 1 (by omega))
  have wz1 := wt 1 z1 hz1
  rw [hz1] at e1
  obtain ⟨s1, d1, w1⟩ := trod_arr Tryd.underlying25 Tryd.underlying5 (by kernel_rfl) (by simp; omega) e1
  have t1 : s1.length = 16 := by have := congrArg List.length d1; simp at this; omega
  have c1 : l.drop 1 = s1.map (Value.int .u8) ++ l.drop 17 := by
    rw [← d1, show l.drop 17 = (l.drop 1).drop 16 from by rw [List.drop_drop]]
    exact (List.take_append_drop _ _).symm
  have e2 := hel 2 _ rfl
  change DataW.trod enc Tryd.prog W 0 (fun _ => true) true m 26 ((l.drop 17).take (Tryd.prog.cellsOf 26)) = xs[2]? at e2
  rw [show Tryd.prog.cellsOf 26 = 32 from by kernel_rfl] at e2
  obtain ⟨z2, hz2⟩ := Option.isSome_iff_exists.1 (some_at 2 (by omega))
  have wz2 := wt 2 z2 hz2
  rw [hz2] at e2
  obtain ⟨s2, d2, w2⟩ := trod_arr Tryd.underlying26 Tryd.underlying5 (by kernel_rfl) (by simp; omega) e2
  have t2 : s2.length = 32 := by have := congrArg List.length d2; simp at this; omega
  have c2 : l.drop 17 = s2.map (Value.int .u8) ++ l.drop 49 := by
    rw [← d2, show l.drop 49 = (l.drop 17).drop 32 from by rw [List.drop_drop]]
    exact (List.take_append_drop _ _).symm
  have e3 := hel 3 _ rfl
  change DataW.trod enc Tryd.prog W 0 (fun _ => true) true m 9 ((l.drop 49).take (Tryd.prog.cellsOf 9)) = xs[3]? at e3
  rw [show Tryd.prog.cellsOf 9 = 1 from by kernel_rfl] at e3
  obtain ⟨z3, hz3⟩ := Option.isSome_iff_exists.1 (some_at 3 (by omega))
  have wz3 := wt 3 z3 hz3
  rw [hz3] at e3
  obtain ⟨x3, d3, q3, _⟩ := DataW.trod_string Tryd.underlying9 e3
  have c3 := drop_cons1 (i := 49) d3
  have k3 : x3.size ≤ 1048576 := by
    rw [q3] at wz3
    simp only [Rows.uptoBulk] at wz3
    have : x3.data.toList.length = x3.size := by rw [Array.length_toList]; rfl
    omega
  have e4 := hel 4 _ rfl
  change DataW.trod enc Tryd.prog W 0 (fun _ => true) true m 9 ((l.drop 50).take (Tryd.prog.cellsOf 9)) = xs[4]? at e4
  rw [show Tryd.prog.cellsOf 9 = 1 from by kernel_rfl] at e4
  obtain ⟨z4, hz4⟩ := Option.isSome_iff_exists.1 (some_at 4 (by omega))
  have wz4 := wt 4 z4 hz4
  rw [hz4] at e4
  obtain ⟨x4, d4, q4, _⟩ := DataW.trod_string Tryd.underlying9 e4
  have c4 := drop_cons1 (i := 50) d4
  have k4 : x4.size ≤ 1048576 := by
    rw [q4] at wz4
    simp only [Rows.uptoBulk] at wz4
    have : x4.data.toList.length = x4.size := by rw [Array.length_toList]; rfl
    omega
  have e5 := hel 5 _ rfl
  change DataW.trod enc Tryd.prog W 0 (fun _ => true) true m 27 ((l.drop 51).take (Tryd.prog.cellsOf 27)) = xs[5]? at e5
  rw [show Tryd.prog.cellsOf 27 = 1 from by kernel_rfl] at e5
  obtain ⟨z5, hz5⟩ := Option.isSome_iff_exists.1 (some_at 5 (by omega))
  have wz5 := wt 5 z5 hz5
  rw [hz5] at e5
  obtain ⟨x5, d5, w5⟩ := one_num (y := some z5) Tryd.underlying27 rfl e5
  have c5 := drop_cons1 (i := 51) d5
  have e6 := hel 6 _ rfl
  change DataW.trod enc Tryd.prog W 0 (fun _ => true) true m 27 ((l.drop 52).take (Tryd.prog.cellsOf 27)) = xs[6]? at e6
  rw [show Tryd.prog.cellsOf 27 = 1 from by kernel_rfl] at e6
  obtain ⟨z6, hz6⟩ := Option.isSome_iff_exists.1 (some_at 6 (by omega))
  have wz6 := wt 6 z6 hz6
  rw [hz6] at e6
  obtain ⟨x6, d6, w6⟩ := one_num (y := some z6) Tryd.underlying27 rfl e6
  have c6 := drop_cons1 (i := 52) d6
  have e7 := hel 7 _ rfl
  change DataW.trod enc Tryd.prog W 0 (fun _ => true) true m 27 ((l.drop 53).take (Tryd.prog.cellsOf 27)) = xs[7]? at e7
  rw [show Tryd.prog.cellsOf 27 = 1 from by kernel_rfl] at e7
  obtain ⟨z7, hz7⟩ := Option.isSome_iff_exists.1 (some_at 7 (by omega))
  have wz7 := wt 7 z7 hz7
  rw [hz7] at e7
  obtain ⟨x7, d7, w7⟩ := one_num (y := some z7) Tryd.underlying27 rfl e7
  have c7 := drop_cons1 (i := 53) d7
  have e8 := hel 8 _ rfl
  change DataW.trod enc Tryd.prog W 0 (fun _ => true) true m 27 ((l.drop 54).take (Tryd.prog.cellsOf 27)) = xs[8]? at e8
  rw [show Tryd.prog.cellsOf 27 = 1 from by kernel_rfl] at e8
  obtain ⟨z8, hz8⟩ := Option.isSome_iff_exists.1 (some_at 8 (by omega))
  have wz8 := wt 8 z8 hz8
  rw [hz8] at e8
  obtain ⟨x8, d8, w8⟩ := one_num (y := some z8) Tryd.underlying27 rfl e8
  have c8 := drop_cons1 (i := 54) d8
  have e9 := hel 9 _ rfl
  change DataW.trod enc Tryd.prog W 0 (fun _ => true) true m 5 ((l.drop 55).take (Tryd.prog.cellsOf 5)) = xs[9]? at e9
  rw [show Tryd.prog.cellsOf 5 = 1 from by kernel_rfl] at e9
  obtain ⟨z9, hz9⟩ := Option.isSome_iff_exists.1 (some_at 9 (by omega))
  have wz9 := wt 9 z9 hz9
  rw [hz9] at e9
  obtain ⟨x9, d9, w9⟩ := one_num (y := some z9) Tryd.underlying5 rfl e9
  have c9 := drop_cons1 (i := 55) d9
  have e10 := hel 10 _ rfl
  change DataW.trod enc Tryd.prog W 0 (fun _ => true) true m 5 ((l.drop 56).take (Tryd.prog.cellsOf 5)) = xs[10]? at e10
  rw [show Tryd.prog.cellsOf 5 = 1 from by kernel_rfl] at e10
  obtain ⟨z10, hz10⟩ := Option.isSome_iff_exists.1 (some_at 10 (by omega))
  have wz10 := wt 10 z10 hz10
  rw [hz10] at e10
  obtain ⟨x10, d10, w10⟩ := one_num (y := some z10) Tryd.underlying5 rfl e10
  have c10 := drop_cons1 (i := 56) d10
  have e11 := hel 11 _ rfl
  change DataW.trod enc Tryd.prog W 0 (fun _ => true) true m 28 ((l.drop 57).take (Tryd.prog.cellsOf 28)) = xs[11]? at e11
  rw [show Tryd.prog.cellsOf 28 = 1 from by kernel_rfl] at e11
  obtain ⟨z11, hz11⟩ := Option.isSome_iff_exists.1 (some_at 11 (by omega))
  have wz11 := wt 11 z11 hz11
  rw [hz11] at e11
  obtain ⟨x11, d11, w11⟩ := one_num (y := some z11) Tryd.underlying28 rfl e11
  have c11 := drop_cons1 (i := 57) d11
  have e12 := hel 12 _ rfl
  change DataW.trod enc Tryd.prog W 0 (fun _ => true) true m 9 ((l.drop 58).take (Tryd.prog.cellsOf 9)) = xs[12]? at e12
  rw [show Tryd.prog.cellsOf 9 = 1 from by kernel_rfl] at e12
  obtain ⟨z12, hz12⟩ := Option.isSome_iff_exists.1 (some_at 12 (by omega))
  have wz12 := wt 12 z12 hz12
  rw [hz12] at e12
  obtain ⟨x12, d12, q12, _⟩ := DataW.trod_string Tryd.underlying9 e12
  have c12 := drop_cons1 (i := 58) d12
  have k12 : x12.size ≤ 1048576 := by
    rw [q12] at wz12
    simp only [Rows.uptoBulk] at wz12
    have : x12.data.toList.length = x12.size := by rw [Array.length_toList]; rfl
    omega
  have e13 := hel 13 _ rfl
  change DataW.trod enc Tryd.prog W 0 (fun _ => true) true m 28 ((l.drop 59).take (Tryd.prog.cellsOf 28)) = xs[13]? at e13
  rw [show Tryd.prog.cellsOf 28 = 1 from by kernel_rfl] at e13
  obtain ⟨z13, hz13⟩ := Option.isSome_iff_exists.1 (some_at 13 (by omega))
  have wz13 := wt 13 z13 hz13
  rw [hz13] at e13
  obtain ⟨x13, d13, w13⟩ := one_num (y := some z13) Tryd.underlying28 rfl e13
  have c13 := drop_cons1 (i := 59) d13
  have e14 := hel 14 _ rfl
  change DataW.trod enc Tryd.prog W 0 (fun _ => true) true m 27 ((l.drop 60).take (Tryd.prog.cellsOf 27)) = xs[14]? at e14
  rw [show Tryd.prog.cellsOf 27 = 1 from by kernel_rfl] at e14
  obtain ⟨z14, hz14⟩ := Option.isSome_iff_exists.1 (some_at 14 (by omega))
  have wz14 := wt 14 z14 hz14
  rw [hz14] at e14
  obtain ⟨x14, d14, w14⟩ := one_num (y := some z14) Tryd.underlying27 rfl e14
  have c14 := drop_cons1 (i := 60) d14
  have e15 := hel 15 _ rfl
  change DataW.trod enc Tryd.prog W 0 (fun _ => true) true m 29 ((l.drop 61).take (Tryd.prog.cellsOf 29)) = xs[15]? at e15
  rw [show Tryd.prog.cellsOf 29 = 1 from by kernel_rfl] at e15
  obtain ⟨z15, hz15⟩ := Option.isSome_iff_exists.1 (some_at 15 (by omega))
  have wz15 := wt 15 z15 hz15
  rw [hz15] at e15
  obtain ⟨A15, n15, k15, s15, d15, l15, b15, h15, w15⟩ := trod_ints Tryd.underlying29 Tryd.underlying5 (by kernel_rfl) e15
  have c15 := drop_cons1 (i := 61) d15
  have e16 := hel 16 _ rfl
  change DataW.trod enc Tryd.prog W 0 (fun _ => true) true m 30 ((l.drop 62).take (Tryd.prog.cellsOf 30)) = xs[16]? at e16
  rw [show Tryd.prog.cellsOf 30 = 1 from by kernel_rfl] at e16
  obtain ⟨z16, hz16⟩ := Option.isSome_iff_exists.1 (some_at 16 (by omega))
  have wz16 := wt 16 z16 hz16
  rw [hz16] at e16
  obtain ⟨A16, n16, k16, s16, d16, l16, b16, h16, w16⟩ := trod_rows (f := lockCells) (s := 4) (ok := LockV.ok) Tryd.underlying30 (by kernel_rfl) (by omega) lockCells_len trod_lock e16
  have c16 := drop_cons1 (i := 62) d16
  have e17 := hel 17 _ rfl
  change DataW.trod enc Tryd.prog W 0 (fun _ => true) true m 22 ((l.drop 63).take (Tryd.prog.cellsOf 22)) = xs[17]? at e17
  rw [show Tryd.prog.cellsOf 22 = 1 from by kernel_rfl] at e17
  obtain ⟨z17, hz17⟩ := Option.isSome_iff_exists.1 (some_at 17 (by omega))
  have wz17 := wt 17 z17 hz17
  rw [hz17] at e17
  obtain ⟨x17, d17, w17⟩ := one_num (y := some z17) Tryd.underlying22 rfl e17
  have c17 := drop_cons1 (i := 63) d17
  have e18 := hel 18 _ rfl
  change DataW.trod enc Tryd.prog W 0 (fun _ => true) true m 9 ((l.drop 64).take (Tryd.prog.cellsOf 9)) = xs[18]? at e18
  rw [show Tryd.prog.cellsOf 9 = 1 from by kernel_rfl] at e18
  obtain ⟨z18, hz18⟩ := Option.isSome_iff_exists.1 (some_at 18 (by omega))
  have wz18 := wt 18 z18 hz18
  rw [hz18] at e18
  obtain ⟨x18, d18, q18, _⟩ := DataW.trod_string Tryd.underlying9 e18
  have c18 := drop_cons1 (i := 64) d18
  have k18 : x18.size ≤ 1048576 := by
    rw [q18] at wz18
    simp only [Rows.uptoBulk] at wz18
    have : x18.data.toList.length = x18.size := by rw [Array.length_toList]; rfl
    omega
  have e19 := hel 19 _ rfl
  change DataW.trod enc Tryd.prog W 0 (fun _ => true) true m 9 ((l.drop 65).take (Tryd.prog.cellsOf 9)) = xs[19]? at e19
  rw [show Tryd.prog.cellsOf 9 = 1 from by kernel_rfl] at e19
  obtain ⟨z19, hz19⟩ := Option.isSome_iff_exists.1 (some_at 19 (by omega))
  have wz19 := wt 19 z19 hz19
  rw [hz19] at e19
  obtain ⟨x19, d19, q19, _⟩ := DataW.trod_string Tryd.underlying9 e19
  have c19 := drop_cons1 (i := 65) d19
  have k19 : x19.size ≤ 1048576 := by
    rw [q19] at wz19
    simp only [Rows.uptoBulk] at wz19
    have : x19.data.toList.length = x19.size := by rw [Array.length_toList]; rfl
    omega
  have e20 := hel 20 _ rfl
  change DataW.trod enc Tryd.prog W 0 (fun _ => true) true m 22 ((l.drop 66).take (Tryd.prog.cellsOf 22)) = xs[20]? at e20
  rw [show Tryd.prog.cellsOf 22 = 1 from by kernel_rfl] at e20
  obtain ⟨z20, hz20⟩ := Option.isSome_iff_exists.1 (some_at 20 (by omega))
  have wz20 := wt 20 z20 hz20
  rw [hz20] at e20
  obtain ⟨x20, d20, w20⟩ := one_num (y := some z20) Tryd.underlying22 rfl e20
  have c20 := drop_cons1 (i := 66) d20
  have e21 := hel 21 _ rfl
  change DataW.trod enc Tryd.prog W 0 (fun _ => true) true m 28 ((l.drop 67).take (Tryd.prog.cellsOf 28)) = xs[21]? at e21
  rw [show Tryd.prog.cellsOf 28 = 1 from by kernel_rfl] at e21
  obtain ⟨z21, hz21⟩ := Option.isSome_iff_exists.1 (some_at 21 (by omega))
  have wz21 := wt 21 z21 hz21
  rw [hz21] at e21
  obtain ⟨x21, d21, w21⟩ := one_num (y := some z21) Tryd.underlying28 rfl e21
  have c21 := drop_cons1 (i := 67) d21
  have e22 := hel 22 _ rfl
  change DataW.trod enc Tryd.prog W 0 (fun _ => true) true m 4 ((l.drop 68).take (Tryd.prog.cellsOf 4)) = xs[22]? at e22
  rw [show Tryd.prog.cellsOf 4 = 1 from by kernel_rfl] at e22
  obtain ⟨z22, hz22⟩ := Option.isSome_iff_exists.1 (some_at 22 (by omega))
  have wz22 := wt 22 z22 hz22
  rw [hz22] at e22
  obtain ⟨x22, d22, _⟩ := DataW.trod_bool Tryd.underlying4 e22
  have c22 := drop_cons1 (i := 68) d22
  refine ⟨l, ⟨s0.take n0, s1, s2, x3, x4, x5, x6, x7, x8, x9, x10, x11, x12, x13, x14, s15.take n15, s16.take n16, x17, x18, x19, x20, x21, x22⟩, by rw [hll], ⟨fun y hy => int_bounds_u16 (w0 y (List.mem_of_mem_take hy)), t1, fun y hy => int_bounds_u8 (w1 y hy), t2, fun y hy => int_bounds_u8 (w2 y hy), int_bounds_u32 w5, int_bounds_u32 w6, int_bounds_u32 w7, int_bounds_u32 w8, int_bounds_u8 w9, int_bounds_u8 w10, int_bounds_u64 w11, int_bounds_u64 w13, int_bounds_u32 w14, fun y hy => int_bounds_u8 (w15 y (List.mem_of_mem_take hy)), fun y hy => w16 y (List.mem_of_mem_take hy), int_bounds_u16 w17, int_bounds_u16 w20, int_bounds_u64 w21⟩, ⟨A0, n0, k0, A15, n15, k15, A16, n16, k16, ?_, h0.head l0, (holds_of_F h15 (by omega) (fun y hy => int_bounds_u8 (w15 y hy))).head l15, h16.head l16⟩, by simp; omega, by simp; omega, by simp; omega, k3, k4, k12, k18, k19⟩
  have c := c0
  rw [List.drop_zero] at c
  rw [c, c1, c2, c3, c4, c5, c6, c7, c8, c9, c10, c11, c12, c13, c14, c15, c16, c17, c18, c19, c20, c21, c22, List.drop_of_length_le (by omega)]
  rfl

set_option maxRecDepth 100000 in
set_option maxHeartbeats 2000000 in
theorem open_say (hv : Value.okWide Tryd.prog W .any base 45 v) (hk : DataW.Trod enc Tryd.prog W 0 (fun _ => true) true 45 v d p) (hu : Rows.uptoBulk d ≤ 1048577) : ∃ (cs : List Value) (a : SayV), v = .agg cs.toArray ∧ a.ok ∧ SayIs W W.heap.size cs a ∧ a.data.length ≤ 1048576 ∧ a.ents.length ≤ 1048576 := by
  obtain ⟨cs, rfl, hsz, _⟩ : ∃ cs, v = .agg cs ∧ cs.size = Tryd.prog.cellsOf 45 ∧ Row.okWide Tryd.prog W .any base 45 cs := by
    simpa [Value.okWide, Tryd.underlying45] using hv
  have htot : Tryd.prog.cellsOf 45 = 20 := by kernel_rfl
  rw [htot] at hsz
  obtain ⟨fuel, hf⟩ := hk
  obtain ⟨xs, m, _, hd, hl, hx, hel⟩ := DataW.trod_struct Tryd.underlying45 hf
  have hxl : xs.length = 13 := hx
  have some_at : ∀ i, i < 13 → (xs[i]?).isSome = true := fun i hi => by simp [hxl, hi]
  have hdd : d = .agg (xs.map (·.1)) := by injection hd
  have wt : ∀ (i : Nat) (z : DataW H × List MemPlace), xs[i]? = some z → Rows.uptoBulk z.1 < Rows.uptoBulk d := fun i z hz => by
    rw [hdd]
    exact bulk_agg (List.mem_map.2 ⟨z, List.mem_of_getElem? hz, rfl⟩)
  have hcl : (Value.agg cs).cells.toList = cs.toList := rfl
  rw [hcl] at hel hl
  obtain ⟨l, hll⟩ : ∃ l, l = cs.toList := ⟨_, rfl⟩
  rw [← hll] at hel hl
  rw [htot] at hl
  have e0 := hel 0 _ rfl
  change DataW.trod enc Tryd.prog W 0 (fun _ => true) true m 22 ((l.drop 0).take (Tryd.prog.cellsOf 22)) = xs[0]? at e0
  rw [show Tryd.prog.cellsOf 22 = 1 from by kernel_rfl] at e0
  obtain ⟨z0, hz0⟩ := Option.isSome_iff_exists.1 (some_at 0 (by omega))
  have wz0 := wt 0 z0 hz0
  rw [hz0] at e0
  obtain ⟨x0, d0, w0⟩ := one_num (y := some z0) Tryd.underlying22 rfl e0
  have c0 := drop_cons1 (i := 0) d0
  have e1 := hel 1 _ rfl
  change DataW.trod enc Tryd.prog W 0 (fun _ => true) true m 28 ((l.drop 1).take (Tryd.prog.cellsOf 28)) = xs[1]? at e1
  rw [show Tryd.prog.cellsOf 28 = 1 from by kernel_rfl] at e1
  obtain ⟨z1, hz1⟩ := Option.isSome_iff_exists.1 (some_at 1 (by omega))
  have wz1 := wt 1 z1 hz1
  rw [hz1] at e1
  obtain ⟨x1, d1, w1⟩ := one_num (y := some z1) Tryd.underlying28 rfl e1
  have c1 := drop_cons1 (i := 1) d1
  have e2 := hel 2 _ rfl
  change DataW.trod enc Tryd.prog W 0 (fun _ => true) true m 41 ((l.drop 2).take (Tryd.prog.cellsOf 41)) = xs[2]? at e2
  rw [show Tryd.prog.cellsOf 41 = 8 from by kernel_rfl] at e2
  obtain ⟨z2, hz2⟩ := Option.isSome_iff_exists.1 (some_at 2 (by omega))
  have wz2 := wt 2 z2 hz2
  rw [hz2] at e2
  obtain ⟨s2, d2, w2⟩ := trod_arr Tryd.underlying41 Tryd.underlying5 (by kernel_rfl) (by simp; omega) e2
  have t2 : s2.length = 8 := by have := congrArg List.length d2; simp at this; omega
  have c2 : l.drop 2 = s2.map (Value.int .u8) ++ l.drop 10 := by
    rw [← d2, show l.drop 10 = (l.drop 2).drop 8 from by rw [List.drop_drop]]
    exact (List.take_append_drop _ _).symm
  have e3 := hel 3 _ rfl
  change DataW.trod enc Tryd.prog W 0 (fun _ => true) true m 5 ((l.drop 10).take (Tryd.prog.cellsOf 5)) = xs[3]? at e3
  rw [show Tryd.prog.cellsOf 5 = 1 from by kernel_rfl] at e3
  obtain ⟨z3, hz3⟩ := Option.isSome_iff_exists.1 (some_at 3 (by omega))
  have wz3 := wt 3 z3 hz3
  rw [hz3] at e3
  obtain ⟨x3, d3, w3⟩ := one_num (y := some z3) Tryd.underlying5 rfl e3
  have c3 := drop_cons1 (i := 10) d3
  have e4 := hel 4 _ rfl
  change DataW.trod enc Tryd.prog W 0 (fun _ => true) true m 5 ((l.drop 11).take (Tryd.prog.cellsOf 5)) = xs[4]? at e4
  rw [show Tryd.prog.cellsOf 5 = 1 from by kernel_rfl] at e4
  obtain ⟨z4, hz4⟩ := Option.isSome_iff_exists.1 (some_at 4 (by omega))
  have wz4 := wt 4 z4 hz4
  rw [hz4] at e4
  obtain ⟨x4, d4, w4⟩ := one_num (y := some z4) Tryd.underlying5 rfl e4
  have c4 := drop_cons1 (i := 11) d4
  have e5 := hel 5 _ rfl
  change DataW.trod enc Tryd.prog W 0 (fun _ => true) true m 22 ((l.drop 12).take (Tryd.prog.cellsOf 22)) = xs[5]? at e5
  rw [show Tryd.prog.cellsOf 22 = 1 from by kernel_rfl] at e5
  obtain ⟨z5, hz5⟩ := Option.isSome_iff_exists.1 (some_at 5 (by omega))
  have wz5 := wt 5 z5 hz5
  rw [hz5] at e5
  obtain ⟨x5, d5, w5⟩ := one_num (y := some z5) Tryd.underlying22 rfl e5
  have c5 := drop_cons1 (i := 12) d5
  have e6 := hel 6 _ rfl
  change DataW.trod enc Tryd.prog W 0 (fun _ => true) true m 28 ((l.drop 13).take (Tryd.prog.cellsOf 28)) = xs[6]? at e6
  rw [show Tryd.prog.cellsOf 28 = 1 from by kernel_rfl] at e6
  obtain ⟨z6, hz6⟩ := Option.isSome_iff_exists.1 (some_at 6 (by omega))
  have wz6 := wt 6 z6 hz6
  rw [hz6] at e6
  obtain ⟨x6, d6, w6⟩ := one_num (y := some z6) Tryd.underlying28 rfl e6
  have c6 := drop_cons1 (i := 13) d6
  have e7 := hel 7 _ rfl
  change DataW.trod enc Tryd.prog W 0 (fun _ => true) true m 42 ((l.drop 14).take (Tryd.prog.cellsOf 42)) = xs[7]? at e7
  rw [show Tryd.prog.cellsOf 42 = 1 from by kernel_rfl] at e7
  obtain ⟨z7, hz7⟩ := Option.isSome_iff_exists.1 (some_at 7 (by omega))
  have wz7 := wt 7 z7 hz7
  rw [hz7] at e7
  obtain ⟨x7, d7, w7⟩ := one_num (y := some z7) Tryd.underlying42 rfl e7
  have c7 := drop_cons1 (i := 14) d7
  have e8 := hel 8 _ rfl
  change DataW.trod enc Tryd.prog W 0 (fun _ => true) true m 29 ((l.drop 15).take (Tryd.prog.cellsOf 29)) = xs[8]? at e8
  rw [show Tryd.prog.cellsOf 29 = 1 from by kernel_rfl] at e8
  obtain ⟨z8, hz8⟩ := Option.isSome_iff_exists.1 (some_at 8 (by omega))
  have wz8 := wt 8 z8 hz8
  rw [hz8] at e8
  obtain ⟨A8, n8, k8, s8, d8, l8, b8, h8, w8⟩ := trod_ints Tryd.underlying29 Tryd.underlying5 (by kernel_rfl) e8
  have c8 := drop_cons1 (i := 15) d8
  have e9 := hel 9 _ rfl
  change DataW.trod enc Tryd.prog W 0 (fun _ => true) true m 27 ((l.drop 16).take (Tryd.prog.cellsOf 27)) = xs[9]? at e9
  rw [show Tryd.prog.cellsOf 27 = 1 from by kernel_rfl] at e9
  obtain ⟨z9, hz9⟩ := Option.isSome_iff_exists.1 (some_at 9 (by omega))
  have wz9 := wt 9 z9 hz9
  rw [hz9] at e9
  obtain ⟨x9, d9, w9⟩ := one_num (y := some z9) Tryd.underlying27 rfl e9
  have c9 := drop_cons1 (i := 16) d9
  have e10 := hel 10 _ rfl
  change DataW.trod enc Tryd.prog W 0 (fun _ => true) true m 43 ((l.drop 17).take (Tryd.prog.cellsOf 43)) = xs[10]? at e10
  rw [show Tryd.prog.cellsOf 43 = 1 from by kernel_rfl] at e10
  obtain ⟨z10, hz10⟩ := Option.isSome_iff_exists.1 (some_at 10 (by omega))
  have wz10 := wt 10 z10 hz10
  rw [hz10] at e10
  obtain ⟨A10, n10, k10, s10, d10, l10, b10, h10, w10⟩ := trod_rows (f := entryCells) (s := 3) (ok := EntryV.ok) Tryd.underlying43 (by kernel_rfl) (by omega) entryCells_len trod_entry e10
  have c10 := drop_cons1 (i := 17) d10
  have e11 := hel 11 _ rfl
  change DataW.trod enc Tryd.prog W 0 (fun _ => true) true m 4 ((l.drop 18).take (Tryd.prog.cellsOf 4)) = xs[11]? at e11
  rw [show Tryd.prog.cellsOf 4 = 1 from by kernel_rfl] at e11
  obtain ⟨z11, hz11⟩ := Option.isSome_iff_exists.1 (some_at 11 (by omega))
  have wz11 := wt 11 z11 hz11
  rw [hz11] at e11
  obtain ⟨x11, d11, _⟩ := DataW.trod_bool Tryd.underlying4 e11
  have c11 := drop_cons1 (i := 18) d11
  have e12 := hel 12 _ rfl
  change DataW.trod enc Tryd.prog W 0 (fun _ => true) true m 4 ((l.drop 19).take (Tryd.prog.cellsOf 4)) = xs[12]? at e12
  rw [show Tryd.prog.cellsOf 4 = 1 from by kernel_rfl] at e12
  obtain ⟨z12, hz12⟩ := Option.isSome_iff_exists.1 (some_at 12 (by omega))
  have wz12 := wt 12 z12 hz12
  rw [hz12] at e12
  obtain ⟨x12, d12, _⟩ := DataW.trod_bool Tryd.underlying4 e12
  have c12 := drop_cons1 (i := 19) d12
  refine ⟨l, ⟨x0, x1, s2, x3, x4, x5, x6, x7, s8.take n8, x9, s10.take n10, x11, x12⟩, by rw [hll], ⟨int_bounds_u16 w0, int_bounds_u64 w1, t2, fun y hy => int_bounds_u8 (w2 y hy), int_bounds_u8 w3, int_bounds_u8 w4, int_bounds_u16 w5, int_bounds_u64 w6, int_bounds_u8 w7, fun y hy => int_bounds_u8 (w8 y (List.mem_of_mem_take hy)), int_bounds_u32 w9, fun y hy => w10 y (List.mem_of_mem_take hy)⟩, ⟨A8, n8, k8, A10, n10, k10, ?_, (holds_of_F h8 (by omega) (fun y hy => int_bounds_u8 (w8 y hy))).head l8, h10.head l10⟩, by simp; omega, by simp; omega⟩
  have c := c0
  rw [List.drop_zero] at c
  rw [c, c1, c2, c3, c4, c5, c6, c7, c8, c9, c10, c11, c12, List.drop_of_length_le (by omega)]
  rfl

end
end Go.Proofs.YtepkamkgodbffaaDoor
