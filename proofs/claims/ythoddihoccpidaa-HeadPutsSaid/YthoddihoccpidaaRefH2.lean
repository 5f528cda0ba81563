/-
  Contract of the document's answer for layer 7 (refectoryref07): Put.
-/
import Derived.Test.YthoddihoccpidaaRefH1
namespace Go.Proofs.Ythoddihoccpidaa
open Go.RowKit

theorem le_shift (t : Int) (s : Nat) : le (t * 256 ^ s) s = le 0 s := by
  induction s with
  | zero => rfl
  | succ s ih =>
    have e : t * 256 ^ (s + 1) = 256 * (t * 256 ^ s) := by rw [Int.pow_succ, ← Int.mul_assoc, Int.mul_comm]
    simp only [le]
    rw [e, show 256 * (t * 256 ^ s) % 256 = 0 from by omega, show 256 * (t * 256 ^ s) / 256 = t * 256 ^ s from by omega, ih]
    rfl
theorem le_tree (t : Int) : le (t * 4294967296) 8 = le 0 4 ++ le t 4 := by
  have h := le_append (t * 256 ^ 4) 4 4
  rw [le_shift, show (256 : Int) ^ 4 = 4294967296 from by decide] at h
  rw [show (8 : Nat) = 4 + 4 from rfl, h, show t * 4294967296 / 4294967296 = t from by omega]
theorem putOf_fits (n : Int) (s : Nat) (hs : sizeOk (s : Int) = true) (h : n < 256 ^ s) : putOf n (s : Int) = le n s := by
  unfold putOf putOk
  rw [hs, Int.toNat_natCast, decide_eq_true h]
  rfl
theorem lay_le (w : World) (base : Nat) (v : Value) (xs : List Int) (n : Int) (s : Nat) (h0 : 0 ≤ n) (h1 : n < 256 ^ s) (hs : sizeOk (s : Int) = true) (ho : Own w base v xs) (hxl : xs.length ≤ 1000) (hb : base ≤ w.heap.size) :
    Calls Try.prog 26 #[v, .int .u64 n, .int .i64 (s : Int)] w fun e w' => ∃ v, e = .returned v ∧ Own w' base v (xs ++ le n s) ∧ Below base w w' := by
  have e := putOf_fits n s hs h1
  have hs8 : s ≤ 8 := by
    rcases sizeOk_cases hs with h | h | h | h <;> omega
  have e8 : (256 : Int) ^ s ≤ 18446744073709551616 := by
    rcases sizeOk_cases hs with h | h | h | h
    · obtain rfl : s = 1 := by omega
      decide
    · obtain rfl : s = 2 := by omega
      decide
    · obtain rfl : s = 4 := by omega
      decide
    · obtain rfl : s = 8 := by omega
      decide
  have h2 := lay_any w base v xs n (s : Int) ⟨h0, by omega⟩ ho hxl (by rw [e, le_length]; exact hs8) (by rw [e]; exact le_bytes _ _) hb
  unfold LayPost at h2
  rw [e] at h2
  exact h2

set_option maxRecDepth 100000 in
set_option maxHeartbeats 800000 in
theorem RPutH_any (w : World) (h : Hd) (k : h.ok) :
    Calls Try.prog 11 #[hv h] w fun e w' => ∃ v, e = .returned (.tuple #[v, .int .i64 (putErrH h)]) ∧ Own w' w.heap.size v (putOfH h) ∧ Below w.heap.size w w' := by
  have CM : Hid (∀ w : World, Calls Try.prog 14 #[hv h] w fun e w' => e = .returned (.bool (mayP h)) ∧ Below w.heap.size w w') := fun w => RMay_any w h k
  have HL := Lib.hid (hcells_len k)
  by_cases hm : mayP h = true
  · have HQ : Hid (∀ (e : Ending) (w' : World), (∃ v, e = .returned (.tuple #[v, .int .i64 0]) ∧ Own w' w.heap.size v (pre h 11 ++ h.sg) ∧ Below w.heap.size w w') → ∃ v, e = .returned (.tuple #[v, .int .i64 (putErrH h)]) ∧ Own w' w.heap.size v (putOfH h) ∧ Below w.heap.size w w') := by
      intro e w' hh
      unfold putOfH putErrH
      rw [if_pos hm, if_pos hm]
      exact hh
    have CA : Hid (∀ w : World, Calls Try.prog 27 #[hv h, .int .u32 2] w fun e w' => e = .returned (.bool (isAs h.fl)) ∧ Below w.heap.size w w') := fun w => RHas_any w h k
    have e2 : (256 : Int) ^ 2 = 65536 := by decide
    have e4 : (256 : Int) ^ 4 = 4294967296 := by decide
    have e8 : (256 : Int) ^ 8 = 18446744073709551616 := by decide
    have C1 : Hid (∀ (w : World) (base : Nat) (v : Value) (xs : List Int), Own w base v xs → xs.length ≤ 1000 → base ≤ w.heap.size → Calls Try.prog 26 #[v, .int .u64 64, .int .i64 2] w fun e w' => ∃ v, e = .returned v ∧ Own w' base v (xs ++ le 64 2) ∧ Below base w w') := fun w base v xs ho hx hb => lay_le w base v xs 64 2 (by decide) (by decide) (by decide) ho hx hb
    have C2 : Hid (∀ (w : World) (base : Nat) (v : Value) (xs : List Int), Own w base v xs → xs.length ≤ 1000 → base ≤ w.heap.size → Calls Try.prog 26 #[v, .int .u64 (h.ch), .int .i64 2] w fun e w' => ∃ v, e = .returned v ∧ Own w' base v (xs ++ le (h.ch) 2) ∧ Below base w w') := fun w base v xs ho hx hb => lay_le w base v xs (h.ch) 2 k.ch.1 (by have := k.ch; omega) (by decide) ho hx hb
    have C3 : Hid (∀ (w : World) (base : Nat) (v : Value) (xs : List Int), Own w base v xs → xs.length ≤ 1000 → base ≤ w.heap.size → Calls Try.prog 26 #[v, .int .u64 (h.st), .int .i64 4] w fun e w' => ∃ v, e = .returned v ∧ Own w' base v (xs ++ le (h.st) 4) ∧ Below base w w') := fun w base v xs ho hx hb => lay_le w base v xs (h.st) 4 k.st.1 (by have := k.st; omega) (by decide) ho hx hb
    have C4 : Hid (∀ (w : World) (base : Nat) (v : Value) (xs : List Int), Own w base v xs → xs.length ≤ 1000 → base ≤ w.heap.size → Calls Try.prog 26 #[v, .int .u64 (h.cm), .int .i64 2] w fun e w' => ∃ v, e = .returned v ∧ Own w' base v (xs ++ le (h.cm) 2) ∧ Below base w w') := fun w base v xs ho hx hb => lay_le w base v xs (h.cm) 2 k.cm.1 (by have := k.cm; omega) (by decide) ho hx hb
    have C5 : Hid (∀ (w : World) (base : Nat) (v : Value) (xs : List Int), Own w base v xs → xs.length ≤ 1000 → base ≤ w.heap.size → Calls Try.prog 26 #[v, .int .u64 (h.cr), .int .i64 2] w fun e w' => ∃ v, e = .returned v ∧ Own w' base v (xs ++ le (h.cr) 2) ∧ Below base w w') := fun w base v xs ho hx hb => lay_le w base v xs (h.cr) 2 k.cr.1 (by have := k.cr; omega) (by decide) ho hx hb
    have C6 : Hid (∀ (w : World) (base : Nat) (v : Value) (xs : List Int), Own w base v xs → xs.length ≤ 1000 → base ≤ w.heap.size → Calls Try.prog 26 #[v, .int .u64 (h.fl), .int .i64 4] w fun e w' => ∃ v, e = .returned v ∧ Own w' base v (xs ++ le (h.fl) 4) ∧ Below base w w') := fun w base v xs ho hx hb => lay_le w base v xs (h.fl) 4 k.fl.1 (by have := k.fl; omega) (by decide) ho hx hb
    have C7 : Hid (∀ (w : World) (base : Nat) (v : Value) (xs : List Int), Own w base v xs → xs.length ≤ 1000 → base ≤ w.heap.size → Calls Try.prog 26 #[v, .int .u64 (h.nx), .int .i64 4] w fun e w' => ∃ v, e = .returned v ∧ Own w' base v (xs ++ le (h.nx) 4) ∧ Below base w w') := fun w base v xs ho hx hb => lay_le w base v xs (h.nx) 4 k.nx.1 (by have := k.nx; omega) (by decide) ho hx hb
    have C8 : Hid (∀ (w : World) (base : Nat) (v : Value) (xs : List Int), Own w base v xs → xs.length ≤ 1000 → base ≤ w.heap.size → Calls Try.prog 26 #[v, .int .u64 (h.id), .int .i64 8] w fun e w' => ∃ v, e = .returned v ∧ Own w' base v (xs ++ le (h.id) 8) ∧ Below base w w') := fun w base v xs ho hx hb => lay_le w base v xs (h.id) 8 k.id.1 (by have := k.id; omega) (by decide) ho hx hb
    have CS : Hid (∀ (w : World) (base : Nat) (v : Value) (xs : List Int), Own w base v xs → xs.length ≤ 1000 → base ≤ w.heap.size → Calls Try.prog 26 #[v, .int .u64 (h.asy), .int .i64 8] w fun e w' => ∃ v, e = .returned v ∧ Own w' base v (xs ++ le (h.asy) 8) ∧ Below base w w') := fun w base v xs ho hx hb => lay_le w base v xs (h.asy) 8 k.asy.1 (by have := k.asy; omega) (by decide) ho hx hb
    have CZ : Hid (∀ (w : World) (base : Nat) (v : Value) (xs : List Int), Own w base v xs → xs.length ≤ 1000 → base ≤ w.heap.size → Calls Try.prog 26 #[v, .int .u64 0, .int .i64 4] w fun e w' => ∃ v, e = .returned v ∧ Own w' base v (xs ++ le 0 4) ∧ Below base w w') := fun w base v xs ho hx hb => lay_le w base v xs 0 4 (by decide) (by decide) (by decide) ho hx hb
    have CT : Hid (∀ (w : World) (base : Nat) (v : Value) (xs : List Int), Own w base v xs → xs.length ≤ 1000 → base ≤ w.heap.size → Calls Try.prog 26 #[v, .int .u64 (h.tr), .int .i64 4] w fun e w' => ∃ v, e = .returned v ∧ Own w' base v (xs ++ le (h.tr) 4) ∧ Below base w w') := fun w base v xs ho hx hb => lay_le w base v xs (h.tr) 4 k.tr.1 (by have := k.tr; omega) (by decide) ho hx hb
    have CE : Hid (∀ (w : World) (base : Nat) (v : Value) (xs : List Int), Own w base v xs → xs.length ≤ 1000 → base ≤ w.heap.size → Calls Try.prog 26 #[v, .int .u64 (h.se), .int .i64 8] w fun e w' => ∃ v, e = .returned v ∧ Own w' base v (xs ++ le (h.se) 8) ∧ Below base w w') := fun w base v xs ho hx hb => lay_le w base v xs (h.se) 8 k.se.1 (by have := k.se; omega) (by decide) ho hx hb
    have P0 : Hid (pre h 1 = [254, 83, 77, 66]) := by show [] ++ le 1112364030 4 = _; decide
    have P1 : Hid (pre h 1 ++ le (64) 2 = pre h 2) := rfl
    have P2 : Hid (pre h 2 ++ le (h.ch) 2 = pre h 3) := rfl
    have P3 : Hid (pre h 3 ++ le (h.st) 4 = pre h 4) := rfl
    have P4 : Hid (pre h 4 ++ le (h.cm) 2 = pre h 5) := rfl
    have P5 : Hid (pre h 5 ++ le (h.cr) 2 = pre h 6) := rfl
    have P6 : Hid (pre h 6 ++ le (h.fl) 4 = pre h 7) := rfl
    have P7 : Hid (pre h 7 ++ le (h.nx) 4 = pre h 8) := rfl
    have P8 : Hid (pre h 8 ++ le (h.id) 8 = pre h 9) := rfl
    have PS : isAs h.fl = true → pre h 9 ++ le h.asy 8 = pre h 10 := fun hi => by
      rw [show pre h 10 = pre h 9 ++ le (aot h) 8 from rfl]
      unfold aot
      rw [if_pos hi]
    have PT : isAs h.fl = false → pre h 9 ++ le 0 4 ++ le h.tr 4 = pre h 10 := fun hi => by
      rw [show pre h 10 = pre h 9 ++ le (aot h) 8 from rfl]
      unfold aot
      rw [if_neg (by rw [hi]; decide), le_tree, List.append_assoc]
    have PE : Hid (pre h 10 ++ le h.se 8 = pre h 11) := rfl
    have PL : Hid (∀ j, j ≤ 11 → (pre h j).length ≤ 48) := fun j hj => by
      rw [pre_len h j hj]
      revert hj
      revert j
      decide
    have FB : Hid (∀ (w : World) (g : Nat), Blk w g 28 (hcells h) → w.cell? ⟨g, 0, none⟩ = some (.int .u16 h.ch) ∧ w.cell? ⟨g, 1, none⟩ = some (.int .u32 h.st) ∧ w.cell? ⟨g, 2, none⟩ = some (.int .u16 h.cm) ∧ w.cell? ⟨g, 3, none⟩ = some (.int .u16 h.cr) ∧
      w.cell? ⟨g, 4, none⟩ = some (.int .u32 h.fl) ∧ w.cell? ⟨g, 5, none⟩ = some (.int .u32 h.nx) ∧ w.cell? ⟨g, 6, none⟩ = some (.int .u64 h.id) ∧ w.cell? ⟨g, 7, none⟩ = some (.int .u64 h.asy) ∧ w.cell? ⟨g, 8, none⟩ = some (.int .u32 h.tr) ∧ w.cell? ⟨g, 9, none⟩ = some (.int .u64 h.se)) :=
      fun w g B => ⟨HB.c0 B, HB.c1 B, HB.c2 B, HB.c3 B, HB.c4 B, HB.c5 B, HB.c6 B, HB.c7 B, HB.c8 B, HB.c9 B⟩
    have FS : Hid (∀ (w : World) (g : Nat), Blk w g 28 (hcells h) → ∀ i, i < 16 → w.cell? ⟨g, 10 + i, none⟩ = some (.int .u8 (h.sg.getD i 0))) := fun w g B i hi => HB.sgc B (by rw [k.len]; exact hi)
    have HSL := Lib.hid k.len
    have HSB := Lib.hid k.byte
    have bn0 := k.ch
    have bn1 := k.st
    have bn2 := k.cm
    have bn3 := k.cr
    have bn4 := k.fl
    have bn5 := k.nx
    have bn8 := k.tr
    obtain ⟨n0, hn0⟩ : ∃ n, n = h.ch := ⟨_, rfl⟩
    obtain ⟨n1, hn1⟩ : ∃ n, n = h.st := ⟨_, rfl⟩
    obtain ⟨n2, hn2⟩ : ∃ n, n = h.cm := ⟨_, rfl⟩
    obtain ⟨n3, hn3⟩ : ∃ n, n = h.cr := ⟨_, rfl⟩
    obtain ⟨n4, hn4⟩ : ∃ n, n = h.fl := ⟨_, rfl⟩
    obtain ⟨n5, hn5⟩ : ∃ n, n = h.nx := ⟨_, rfl⟩
    obtain ⟨n6, hn6⟩ : ∃ n, n = h.id := ⟨_, rfl⟩
    obtain ⟨n7, hn7⟩ : ∃ n, n = h.asy := ⟨_, rfl⟩
    obtain ⟨n8, hn8⟩ : ∃ n, n = h.tr := ⟨_, rfl⟩
    obtain ⟨n9, hn9⟩ : ∃ n, n = h.se := ⟨_, rfl⟩
    rw [← hn0] at FB C2 P2 bn0
    rw [← hn1] at FB C3 P3 bn1
    rw [← hn2] at FB C4 P4 bn2
    rw [← hn3] at FB C5 P5 bn3
    rw [← hn4] at FB C6 P6 PS PT CA bn4
    rw [← hn5] at FB C7 P7 bn5
    rw [← hn6] at FB C8 P8
    rw [← hn7] at FB CS PS
    rw [← hn8] at FB CT PT bn8
    rw [← hn9] at FB CE PE
    obtain ⟨bn00, bn01⟩ := bn0
    obtain ⟨bn10, bn11⟩ := bn1
    obtain ⟨bn20, bn21⟩ := bn2
    obtain ⟨bn30, bn31⟩ := bn3
    obtain ⟨bn40, bn41⟩ := bn4
    obtain ⟨bn50, bn51⟩ := bn5
    obtain ⟨bn80, bn81⟩ := bn8
    have zn0 : IntKind.u64.wrap n0 = n0 := by rw [IntKind.wrap_u64]; omega
    have zn1 : IntKind.u64.wrap n1 = n1 := by rw [IntKind.wrap_u64]; omega
    have zn2 : IntKind.u64.wrap n2 = n2 := by rw [IntKind.wrap_u64]; omega
    have zn3 : IntKind.u64.wrap n3 = n3 := by rw [IntKind.wrap_u64]; omega
    have zn4 : IntKind.u64.wrap n4 = n4 := by rw [IntKind.wrap_u64]; omega
    have zn5 : IntKind.u64.wrap n5 = n5 := by rw [IntKind.wrap_u64]; omega
    have zn8 : IntKind.u64.wrap n8 = n8 := by rw [IntKind.wrap_u64]; omega
    obtain ⟨q1, hq1⟩ : ∃ q, q = pre h 1 := ⟨_, rfl⟩
    have hPL : (pre h 1).length ≤ 48 ∧ (pre h 2).length ≤ 48 ∧ (pre h 3).length ≤ 48 ∧ (pre h 4).length ≤ 48 ∧ (pre h 5).length ≤ 48 ∧ (pre h 6).length ≤ 48 ∧ (pre h 7).length ≤ 48 ∧ (pre h 8).length ≤ 48 ∧ (pre h 9).length ≤ 48 ∧ (pre h 10).length ≤ 48 ∧ (pre h 11).length ≤ 48 :=
      ⟨PL.out 1 (by omega), PL.out 2 (by omega), PL.out 3 (by omega), PL.out 4 (by omega), PL.out 5 (by omega), PL.out 6 (by omega), PL.out 7 (by omega), PL.out 8 (by omega), PL.out 9 (by omega), PL.out 10 (by omega), PL.out 11 (by omega)⟩
    obtain ⟨q2, hq2⟩ : ∃ q, q = pre h 2 := ⟨_, rfl⟩
    obtain ⟨q3, hq3⟩ : ∃ q, q = pre h 3 := ⟨_, rfl⟩
    obtain ⟨q4, hq4⟩ : ∃ q, q = pre h 4 := ⟨_, rfl⟩
    obtain ⟨q5, hq5⟩ : ∃ q, q = pre h 5 := ⟨_, rfl⟩
    obtain ⟨q6, hq6⟩ : ∃ q, q = pre h 6 := ⟨_, rfl⟩
    obtain ⟨q7, hq7⟩ : ∃ q, q = pre h 7 := ⟨_, rfl⟩
    obtain ⟨q8, hq8⟩ : ∃ q, q = pre h 8 := ⟨_, rfl⟩
    obtain ⟨q9, hq9⟩ : ∃ q, q = pre h 9 := ⟨_, rfl⟩
    obtain ⟨q10, hq10⟩ : ∃ q, q = pre h 10 := ⟨_, rfl⟩
    obtain ⟨q11, hq11⟩ : ∃ q, q = pre h 11 := ⟨_, rfl⟩
    rw [← hq1] at P0 P1 hPL
    rw [← hq2] at P1 P2 hPL
    rw [← hq3] at P2 P3 hPL
    rw [← hq4] at P3 P4 hPL
    rw [← hq5] at P4 P5 hPL
    rw [← hq6] at P5 P6 hPL
    rw [← hq7] at P6 P7 hPL
    rw [← hq8] at P7 P8 hPL
    rw [← hq9] at P8 PS PT hPL
    rw [← hq10] at PS PT PE hPL
    rw [← hq11] at PE HQ hPL
    obtain ⟨l1, l2, l3, l4, l5, l6, l7, l8, l9, l10, l11⟩ := hPL
    have LQ1 := Lib.hid l1
    have LQ2 := Lib.hid l2
    have LQ3 := Lib.hid l3
    have LQ4 := Lib.hid l4
    have LQ5 := Lib.hid l5
    have LQ6 := Lib.hid l6
    have LQ7 := Lib.hid l7
    have LQ8 := Lib.hid l8
    have LQ9 := Lib.hid l9
    have LQ10 := Lib.hid l10
    have LQ11 := Lib.hid l11
    obtain ⟨sg, hsg⟩ : ∃ sg, sg = h.sg := ⟨_, rfl⟩
    rw [← hsg] at FS HSL HSB HQ
    obtain ⟨cs, hcs⟩ : ∃ cs, cs = hcells h := ⟨_, rfl⟩
    unfold hv at CM CA ⊢
    rw [hm] at CM
    rw [← hcs] at CM CA HL FB FS ⊢
    clear hm k hcs hsg PL l1 l2 l3 l4 l5 l6 l7 l8 l9 l10 l11 e2 e4 e8 hn0 hn1 hn2 hn3 hn4 hn5 hn6 hn7 hn8 hn9 hq1 hq2 hq3 hq4 hq5 hq6 hq7 hq8 hq9 hq10 hq11
    go_enter Try.func11, Try.ntmps11
    go_wp2_with (first
      | ((with_reducible show wpList _ _ _ (⟨some 1, _, _, _, _, _⟩ :: _) _ _); refine wpList_box_blk rfl _ (.tmp 0) rfl cs rfl ?_; intro g w1 hg1 hg2 B1 L1)
      | ((with_reducible show wpList _ _ _ (⟨some 6, _, _, _, _, _⟩ :: _) _ _); refine wpList_load_blk rfl _ (.tmp 1) rfl g rfl _ cs B1 26 _ Try.underlying28 rfl size_hd HL ?_)
      | fail)
    refine (CM.out _).mono ?_
    rintro e w2 ⟨rfl, L2⟩
    have B2 := Lib.hid (B1.out.over L2)
    have L12 := Lib.hid (step L1.out L2)
    have hgl := B2.out.lt
    clear B1 L1 L2 CM
    go_wp2_with (first
      | ((with_reducible show wpList _ _ _ (⟨some 9, _, _, _, _, _⟩ :: _) _ _); refine wpList_slice_blk rfl _ _ 4 _ rfl Try.underlying29 [.int .u8 254, .int .u8 83, .int .u8 77, .int .u8 66] (by kernel_rfl) ?_; intro gb w3 hb1 hb2 R3 L3)
      | fail)
    have hgw2 := L12.out.size
    have O3 : Hid (Own w3 gb (.slice (some ⟨gb, 0, none⟩) 4 4) q1) := by
      rw [P0.out]
      exact Fresh.own (.inr ⟨gb, rfl, Nat.le_refl _, R3.out⟩) rfl (by decide)
    have B3 := Lib.hid (B2.out.over L3.out)
    have L13 := Lib.hid (step L12.out L3.out)
    have hgb : g < gb := by omega
    have hwb : w.heap.size ≤ gb := by omega
    have hS3 : gb ≤ w3.heap.size := by omega
    clear R3 L3 B2 L12 hgl hgw2 hb1 hb2 P0
    go_wp2_with fail
    refine (C1.out _ gb _ q1 O3.out (by have := LQ1.out; omega) hS3).mono ?_
    rintro e w4 ⟨v4, rfl, ho, L⟩
    rw [P1.out] at ho
    have O4 := Lib.hid ho
    have B4 := Lib.hid (B3.out.below L hgb)
    have L14 := Lib.hid (L13.out.trans (L.mono hwb))
    have hS4 : gb ≤ w4.heap.size := Nat.le_trans hS3 L.size
    clear ho L O3 B3 L13 C1 P1
    have gd := (FB.out _ _ B4.out).1
    go_wp2_with fail
    refine (C2.out _ gb _ q2 O4.out (by have := LQ2.out; omega) hS4).mono ?_
    rintro e w5 ⟨v5, rfl, ho, L⟩
    rw [P2.out] at ho
    have O5 := Lib.hid ho
    have B5 := Lib.hid (B4.out.below L hgb)
    have L15 := Lib.hid (L14.out.trans (L.mono hwb))
    have hS5 : gb ≤ w5.heap.size := Nat.le_trans hS4 L.size
    clear ho L O4 B4 L14 C2 P2
    clear gd
    have gd := (FB.out _ _ B5.out).2.1
    go_wp2_with fail
    refine (C3.out _ gb _ q3 O5.out (by have := LQ3.out; omega) hS5).mono ?_
    rintro e w6 ⟨v6, rfl, ho, L⟩
    rw [P3.out] at ho
    have O6 := Lib.hid ho
    have B6 := Lib.hid (B5.out.below L hgb)
    have L16 := Lib.hid (L15.out.trans (L.mono hwb))
    have hS6 : gb ≤ w6.heap.size := Nat.le_trans hS5 L.size
    clear ho L O5 B5 L15 C3 P3
    clear gd
    have gd := (FB.out _ _ B6.out).2.2.1
    go_wp2_with fail
    refine (C4.out _ gb _ q4 O6.out (by have := LQ4.out; omega) hS6).mono ?_
    rintro e w7 ⟨v7, rfl, ho, L⟩
    rw [P4.out] at ho
    have O7 := Lib.hid ho
    have B7 := Lib.hid (B6.out.below L hgb)
    have L17 := Lib.hid (L16.out.trans (L.mono hwb))
    have hS7 : gb ≤ w7.heap.size := Nat.le_trans hS6 L.size
    clear ho L O6 B6 L16 C4 P4
    clear gd
    have gd := (FB.out _ _ B7.out).2.2.2.1
    go_wp2_with fail
    refine (C5.out _ gb _ q5 O7.out (by have := LQ5.out; omega) hS7).mono ?_
    rintro e w8 ⟨v8, rfl, ho, L⟩
    rw [P5.out] at ho
    have O8 := Lib.hid ho
    have B8 := Lib.hid (B7.out.below L hgb)
    have L18 := Lib.hid (L17.out.trans (L.mono hwb))
    have hS8 : gb ≤ w8.heap.size := Nat.le_trans hS7 L.size
    clear ho L O7 B7 L17 C5 P5
    clear gd
    have gd := (FB.out _ _ B8.out).2.2.2.2.1
    go_wp2_with fail
    refine (C6.out _ gb _ q6 O8.out (by have := LQ6.out; omega) hS8).mono ?_
    rintro e w9 ⟨v9, rfl, ho, L⟩
    rw [P6.out] at ho
    have O9 := Lib.hid ho
    have B9 := Lib.hid (B8.out.below L hgb)
    have L19 := Lib.hid (L18.out.trans (L.mono hwb))
    have hS9 : gb ≤ w9.heap.size := Nat.le_trans hS8 L.size
    clear ho L O8 B8 L18 C6 P6
    clear gd
    have gd := (FB.out _ _ B9.out).2.2.2.2.2.1
    go_wp2_with fail
    refine (C7.out _ gb _ q7 O9.out (by have := LQ7.out; omega) hS9).mono ?_
    rintro e w10 ⟨v10, rfl, ho, L⟩
    rw [P7.out] at ho
    have O10 := Lib.hid ho
    have B10 := Lib.hid (B9.out.below L hgb)
    have L110 := Lib.hid (L19.out.trans (L.mono hwb))
    have hS10 : gb ≤ w10.heap.size := Nat.le_trans hS9 L.size
    clear ho L O9 B9 L19 C7 P7
    clear gd
    have gd := (FB.out _ _ B10.out).2.2.2.2.2.2.1
    go_wp2_with fail
    refine (C8.out _ gb _ q8 O10.out (by have := LQ8.out; omega) hS10).mono ?_
    rintro e w11 ⟨v11, rfl, ho, L⟩
    rw [P8.out] at ho
    have O11 := Lib.hid ho
    have B11 := Lib.hid (B10.out.below L hgb)
    have L111 := Lib.hid (L110.out.trans (L.mono hwb))
    have hS11 : gb ≤ w11.heap.size := Nat.le_trans hS10 L.size
    clear ho L O10 B10 L110 C8 P8
    clear gd
    by_cases hi : isAs n4 = true
    · have PS' := Lib.hid (PS hi)
      rw [hi] at CA
      clear hi PS PT CZ CT
      go_wp2_with (first
        | ((with_reducible show wpList _ _ _ (⟨some 46, _, _, _, _, _⟩ :: _) _ _); refine wpList_load_blk rfl _ (.tmp 1) rfl g rfl _ cs B11 26 _ Try.underlying28 rfl size_hd HL ?_)
        | fail)
      refine (CA.out _).mono ?_
      rintro e w12 ⟨rfl, L⟩
      have O12 := Lib.hid (O11.out.below L)
      have B12 := Lib.hid (B11.out.over L)
      have L112 := Lib.hid (step L111.out L)
      have hS12 : gb ≤ w12.heap.size := Nat.le_trans hS11 L.size
      clear O11 B11 L111 L CA
      have gd := (FB.out _ _ B12.out).2.2.2.2.2.2.2.1
      go_wp2_with fail
      refine (CS.out _ gb _ q9 O12.out (by have := LQ9.out; omega) hS12).mono ?_
      rintro e w13 ⟨v13, rfl, ho, L⟩
      rw [PS'.out] at ho
      have O13 := Lib.hid ho
      have B13 := Lib.hid (B12.out.below L hgb)
      have L113 := Lib.hid (L112.out.trans (L.mono hwb))
      have hS13 : gb ≤ w13.heap.size := Nat.le_trans hS12 L.size
      clear ho L O12 B12 L112 CS
      clear gd
      have gd := (FB.out _ _ B13.out).2.2.2.2.2.2.2.2.2
      go_wp2_with fail
      refine (CE.out _ gb _ q10 O13.out (by have := LQ10.out; omega) hS13).mono ?_
      rintro e w14 ⟨v14, rfl, ho, L⟩
      rw [PE.out] at ho
      have O14 := Lib.hid ho
      have B14 := Lib.hid (B13.out.below L hgb)
      have L114 := Lib.hid (L113.out.trans (L.mono hwb))
      have hS14 : gb ≤ w14.heap.size := Nat.le_trans hS13 L.size
      clear ho L O13 B13 L113 CE
      clear gd
      go_wp2_with fail
      go_loopw [4, 5] (fun v i wr => ∃ k : Nat, k ≤ 16 ∧ i = .int .i64 k ∧ Hid (Own wr gb v (q11 ++ sg.take k)) ∧ Hid (Blk wr g 28 cs) ∧ Hid (Below w.heap.size w wr) ∧ gb ≤ wr.heap.size) (fun _ i _ => 16 - (intOf i).toNat)
      case atStart => exact ⟨0, Nat.zero_le _, rfl, by show Own _ _ _ _; simpa using O14.out, B14, L114, hS14⟩
      case round =>
        clear O14 B14 L114 hS14
        obtain ⟨k, hk, rfl, HO, HB1, HL1, hs⟩ := hrel
        by_cases hlt : k < 16
        · have gc := FS.out _ _ HB1.out k hlt
          have hy1 := HSB.out.getD k
          have hS : Hid (∀ y, y = sg.getD k 0 → q11 ++ sg.take k ++ [y] = q11 ++ sg.take (k + 1)) := fun y hy => by
            have h16 := HSL.out
            rw [List.append_assoc, List.take_succ_eq_append_getElem (by omega), hy]
            simp [show k < sg.length by omega]
          have HLN : Hid ((q11 ++ sg.take k).length ≤ 100) := by
            show _ ≤ _
            have h11 := LQ11.out
            rw [List.length_append, List.length_take]
            omega
          obtain ⟨y, hy⟩ : ∃ y, y = sg.getD k 0 := ⟨_, rfl⟩
          rw [← hy] at gc hy1
          have HY := Lib.hid (hS.out y hy)
          obtain ⟨rs, hrs⟩ : ∃ rs, rs = q11 ++ sg.take k := ⟨_, rfl⟩
          rw [← hrs] at HO HY HLN
          have HLM : Hid (rs.length + [y].length ≤ 140737488355328) := by
            show _ ≤ _
            have := HLN.out
            simp
            omega
          have HBY : Hid (Bytes [y]) := fun x hx => by rcases List.mem_singleton.1 hx with rfl; exact hy1
          clear hy hrs hS hy1
          go_wp2_with (first
            | ((with_reducible show wpList _ _ _ (⟨some 72, _, _, _, _, _⟩ :: _) _ _); refine wpList_slice_blk rfl _ _ 1 _ rfl Try.underlying29 [.int .u8 y] (by kernel_rfl) ?_; intro gx wx hx1 hx2 RX LX; have HX : Hid (Holds wx wx.heap.size (some ⟨gx, 0, none⟩) 1 1 [y]) := Fresh.holds (base := gx) (xs := [y]) (.inr ⟨gx, rfl, Nat.le_refl _, RX.out⟩) rfl HBY.out (by decide); have HOX := Lib.hid (HO.out.below LX.out); have hsx := LX.out.size)
            | (at_builtin; refine wpList_append_bytes rfl (.tmp 67) (.tmp 72) rfl gb _ rs rfl HOX.out _ (some ⟨gx, 0, none⟩) 1 1 [y] rfl HX.out HLM.out (by omega) ?_; intro v2 w2 ho2 hb2 hgr))
          rw [HY.out] at ho2
          have B2 : Hid (Blk w2 g 28 cs) := (HB1.out.over LX.out).below hb2 hgb
          have L2 : Hid (Below w.heap.size w w2) := (step HL1.out LX.out).trans (hb2.mono hwb)
          have hs2 := hb2.size
          go_roundw
          case rel => exact ⟨k + 1, by omega, by go_num, ho2, B2, L2, by omega⟩
          case measure => simp [intOf]; omega
        · obtain rfl : k = 16 := by omega
          have hE : sg.take 16 = sg := List.take_of_length_le (by rw [HSL.out]; omega)
          rw [hE] at HO
          clear hE
          go_wp2
          go_ret2
          exact HQ.out _ _ ⟨_, rfl, HO.out.mono hwb, HL1.out⟩
    · have hi' : isAs n4 = false := by simpa using hi
      have PT' := Lib.hid (PT hi')
      rw [hi'] at CA
      clear hi hi' PS PT CS
      go_wp2_with (first
        | ((with_reducible show wpList _ _ _ (⟨some 46, _, _, _, _, _⟩ :: _) _ _); refine wpList_load_blk rfl _ (.tmp 1) rfl g rfl _ cs B11 26 _ Try.underlying28 rfl size_hd HL ?_)
        | fail)
      refine (CA.out _).mono ?_
      rintro e w12 ⟨rfl, L⟩
      have O12 := Lib.hid (O11.out.below L)
      have B12 := Lib.hid (B11.out.over L)
      have L112 := Lib.hid (step L111.out L)
      have hS12 : gb ≤ w12.heap.size := Nat.le_trans hS11 L.size
      clear O11 B11 L111 L CA
      go_wp2_with fail
      refine (CZ.out _ gb _ q9 O12.out (by have := LQ9.out; omega) hS12).mono ?_
      rintro e w13 ⟨v13, rfl, ho, L⟩
      have O13 := Lib.hid ho
      have B13 := Lib.hid (B12.out.below L hgb)
      have L113 := Lib.hid (L112.out.trans (L.mono hwb))
      have hS13 : gb ≤ w13.heap.size := Nat.le_trans hS12 L.size
      clear ho L O12 B12 L112 CZ
      have hr9 : (q9 ++ le 0 4).length ≤ 1000 := by have := LQ9.out; rw [List.length_append, le_length]; omega
      obtain ⟨r9, hr⟩ : ∃ r9, r9 = q9 ++ le 0 4 := ⟨_, rfl⟩
      rw [← hr] at O13 PT' hr9
      have gd := (FB.out _ _ B13.out).2.2.2.2.2.2.2.2.1
      clear hr
      go_wp2_with fail
      refine (CT.out _ gb _ r9 O13.out (by exact hr9) hS13).mono ?_
      rintro e w14 ⟨v14, rfl, ho, L⟩
      rw [PT'.out] at ho
      have O14 := Lib.hid ho
      have B14 := Lib.hid (B13.out.below L hgb)
      have L114 := Lib.hid (L113.out.trans (L.mono hwb))
      have hS14 : gb ≤ w14.heap.size := Nat.le_trans hS13 L.size
      clear ho L O13 B13 L113 CT
      clear gd
      have gd := (FB.out _ _ B14.out).2.2.2.2.2.2.2.2.2
      go_wp2_with fail
      refine (CE.out _ gb _ q10 O14.out (by have := LQ10.out; omega) hS14).mono ?_
      rintro e w15 ⟨v15, rfl, ho, L⟩
      rw [PE.out] at ho
      have O15 := Lib.hid ho
      have B15 := Lib.hid (B14.out.below L hgb)
      have L115 := Lib.hid (L114.out.trans (L.mono hwb))
      have hS15 : gb ≤ w15.heap.size := Nat.le_trans hS14 L.size
      clear ho L O14 B14 L114 CE
      clear gd
      go_wp2_with fail
      go_loopw [4, 5] (fun v i wr => ∃ k : Nat, k ≤ 16 ∧ i = .int .i64 k ∧ Hid (Own wr gb v (q11 ++ sg.take k)) ∧ Hid (Blk wr g 28 cs) ∧ Hid (Below w.heap.size w wr) ∧ gb ≤ wr.heap.size) (fun _ i _ => 16 - (intOf i).toNat)
      case atStart => exact ⟨0, Nat.zero_le _, rfl, by show Own _ _ _ _; simpa using O15.out, B15, L115, hS15⟩
      case round =>
        clear O15 B15 L115 hS15
        obtain ⟨k, hk, rfl, HO, HB1, HL1, hs⟩ := hrel
        by_cases hlt : k < 16
        · have gc := FS.out _ _ HB1.out k hlt
          have hy1 := HSB.out.getD k
          have hS : Hid (∀ y, y = sg.getD k 0 → q11 ++ sg.take k ++ [y] = q11 ++ sg.take (k + 1)) := fun y hy => by
            have h16 := HSL.out
            rw [List.append_assoc, List.take_succ_eq_append_getElem (by omega), hy]
            simp [show k < sg.length by omega]
          have HLN : Hid ((q11 ++ sg.take k).length ≤ 100) := by
            show _ ≤ _
            have h11 := LQ11.out
            rw [List.length_append, List.length_take]
            omega
          obtain ⟨y, hy⟩ : ∃ y, y = sg.getD k 0 := ⟨_, rfl⟩
          rw [← hy] at gc hy1
          have HY := Lib.hid (hS.out y hy)
          obtain ⟨rs, hrs⟩ : ∃ rs, rs = q11 ++ sg.take k := ⟨_, rfl⟩
          rw [← hrs] at HO HY HLN
          have HLM : Hid (rs.length + [y].length ≤ 140737488355328) := by
            show _ ≤ _
            have := HLN.out
            simp
            omega
          have HBY : Hid (Bytes [y]) := fun x hx => by rcases List.mem_singleton.1 hx with rfl; exact hy1
          clear hy hrs hS hy1
          go_wp2_with (first
            | ((with_reducible show wpList _ _ _ (⟨some 72, _, _, _, _, _⟩ :: _) _ _); refine wpList_slice_blk rfl _ _ 1 _ rfl Try.underlying29 [.int .u8 y] (by kernel_rfl) ?_; intro gx wx hx1 hx2 RX LX; have HX : Hid (Holds wx wx.heap.size (some ⟨gx, 0, none⟩) 1 1 [y]) := Fresh.holds (base := gx) (xs := [y]) (.inr ⟨gx, rfl, Nat.le_refl _, RX.out⟩) rfl HBY.out (by decide); have HOX := Lib.hid (HO.out.below LX.out); have hsx := LX.out.size)
            | (at_builtin; refine wpList_append_bytes rfl (.tmp 67) (.tmp 72) rfl gb _ rs rfl HOX.out _ (some ⟨gx, 0, none⟩) 1 1 [y] rfl HX.out HLM.out (by omega) ?_; intro v2 w2 ho2 hb2 hgr))
          rw [HY.out] at ho2
          have B2 : Hid (Blk w2 g 28 cs) := (HB1.out.over LX.out).below hb2 hgb
          have L2 : Hid (Below w.heap.size w w2) := (step HL1.out LX.out).trans (hb2.mono hwb)
          have hs2 := hb2.size
          go_roundw
          case rel => exact ⟨k + 1, by omega, by go_num, ho2, B2, L2, by omega⟩
          case measure => simp [intOf]; omega
        · obtain rfl : k = 16 := by omega
          have hE : sg.take 16 = sg := List.take_of_length_le (by rw [HSL.out]; omega)
          rw [hE] at HO
          clear hE
          go_wp2
          go_ret2
          exact HQ.out _ _ ⟨_, rfl, HO.out.mono hwb, HL1.out⟩
  · have hm' : mayP h = false := by simpa using hm
    have HQ : Hid (∀ (e : Ending) (w' : World), (e = .returned (.tuple #[.slice none 0 0, .int .i64 2]) ∧ Below w.heap.size w w') → ∃ v, e = .returned (.tuple #[v, .int .i64 (putErrH h)]) ∧ Own w' w.heap.size v (putOfH h) ∧ Below w.heap.size w w') := by
      rintro e w' ⟨rfl, hb⟩
      unfold putOfH putErrH
      rw [if_neg hm, if_neg hm]
      exact ⟨_, rfl, Own.nil _ _, hb⟩
    rw [hm'] at CM
    obtain ⟨cs, hcs⟩ : ∃ cs, cs = hcells h := ⟨_, rfl⟩
    unfold hv at CM ⊢
    rw [← hcs] at CM HL ⊢
    clear hm hm' k hcs
    go_enter Try.func11, Try.ntmps11
    go_wp2_with (first
      | ((with_reducible show wpList _ _ _ (⟨some 1, _, _, _, _, _⟩ :: _) _ _); refine wpList_box_blk rfl _ (.tmp 0) rfl cs rfl ?_; intro g w1 hg1 hg2 B1 L1)
      | ((with_reducible show wpList _ _ _ (⟨some 6, _, _, _, _, _⟩ :: _) _ _); refine wpList_load_blk rfl _ (.tmp 1) rfl g rfl _ cs B1 26 _ Try.underlying28 rfl size_hd HL ?_)
      | fail)
    refine (CM.out _).mono ?_
    rintro e w2 ⟨rfl, L2⟩
    go_wp2
    go_ret2
    exact HQ.out _ _ ⟨rfl, step L1.out L2⟩
end Go.Proofs.Ythoddihoccpidaa
