/-
  Layer 14 (extent): the program's file as an object ('PDat'); end; where the extents that end behind a place, begin at one, stand: by halves (written by tools/gen_exs.py).
-/
import Derived.Test.YtgbhnnobbciemaaExP
import Derived.Test.YtgbhnnobbciemaaExC
import Derived.Test.YtgbhnnobbciemaaExM
import Derived.Test.YtgbhnnobbciemaaBox
import Derived.BigQuiet
namespace Go.Proofs.Ytgbhnnobbciemaa
set_option maxRecDepth 100000
open Go.RowKit
set_option linter.unusedVariables false

/-- block q is the program's file: its size, its pieces in a row that v heads, all in blocks from base on -/
structure PDat (w : World) (base q : Nat) (v : Value) (l : List ExtV) (B : List Int) (Z : List Bool) : Prop where
  ge : base ≤ q
  blk : Blk w q 49 [.bool true, .int .i64 (B.length : Nat), v]
  row : OwnS extCells 2 41 w base v l
  each : ∀ x ∈ l, OwnB false w base (partV x.2) x.2.2.2.2
  can : Can B (mark Z) (extsL l)
  zero : ∀ i, ¬ mark Z i → B.getD i 0 = 0
  len : B.length = Z.length
  small : B.length ≤ 65536
  byte : Bytes B
def pdS (q : Nat) (v : Value) (l : List ExtV) : Nat → Prop := fun j => j = q ∨ v.ownBlock = some j ∨ ∃ x ∈ l, (partV x.2).ownBlock = some j

theorem Can.count {B : List Int} {P : Nat → Prop} {l : List (Nat × List Int)} (h : Can B P l) {i : Nat} {e : Nat × List Int} (he : l[i]? = some e) : i ≤ e.1 := by
  induction i generalizing e with
  | zero => exact Nat.zero_le _
  | succ i ih =>
    have hl := (List.getElem?_eq_some_iff.1 he).1
    have h3 : l[i]? = some l[i] := List.getElem?_eq_getElem (by omega)
    have h1 := ih h3
    have h2 := h.lt h3 he (by omega)
    omega
theorem Can.len_le {B : List Int} {P : Nat → Prop} {l : List (Nat × List Int)} (h : Can B P l) : l.length ≤ B.length := by
  rcases Nat.eq_zero_or_pos l.length with h0 | h0
  · omega
  · have hlt : l.length - 1 < l.length := by omega
    have h3 : l[l.length - 1]? = some l[l.length - 1] := List.getElem?_eq_getElem hlt
    have h1 := h.count h3
    have h2 := h.ends _ (List.mem_of_getElem? h3)
    have h4 : 0 < l[l.length - 1].2.length := List.length_pos_iff.2 (h.full _ (List.mem_of_getElem? h3))
    omega
/-- a test that once true stays true -/
theorem halves {α : Type} (p : α → Bool) : ∀ (l : List α), (∀ (i j : Nat) x y, i < j → l[i]? = some x → l[j]? = some y → p x = true → p y = true) → ∃ k, k ≤ l.length ∧ (∀ (i : Nat) x, i < k → l[i]? = some x → p x = false) ∧ (∀ (i : Nat) x, k ≤ i → l[i]? = some x → p x = true)
  | [], _ => ⟨0, Nat.le_refl _, fun i _ (h : i < 0) => absurd h (Nat.not_lt_zero i), fun _ _ _ h => by cases h⟩
  | x :: r, h => by
    cases hx : p x with
    | true =>
      refine ⟨0, Nat.zero_le _, fun i _ (h : i < 0) => absurd h (Nat.not_lt_zero i), fun i y _ hy => ?_⟩
      cases i with
      | zero => injection hy with hy; subst hy; exact hx
      | succ i => exact h 0 (i + 1) x y (by omega) rfl hy hx
    | false =>
      obtain ⟨k, h1, h2, h3⟩ := halves p r fun i j x y hij hi hj => h (i + 1) (j + 1) x y (by omega) hi hj
      refine ⟨k + 1, by simp; omega, fun i y hi hy => ?_, fun i y hi hy => ?_⟩
      · cases i with
        | zero => injection hy with hy; subst hy; exact hx
        | succ i => exact h2 i y (by omega) hy
      · cases i with
        | zero => omega
        | succ i => exact h3 i y (by omega) hy

section
variable {w w' : World} {base base' q : Nat} {v : Value} {l : List ExtV} {B : List Int} {Z : List Bool} {S : Nat → Prop}
theorem PDat.spare (h : PDat w base q v l B Z) (a : Spare S w w') (hs : ∀ j, pdS q v l j → ¬ S j) : PDat w' base q v l B Z :=
  ⟨h.ge, h.blk.spare a (hs q (.inl rfl)), h.row.sparS a fun i hi => hs i (.inr (.inl hi)), fun x hx => (h.each x hx).spare a fun i hi => hs i (.inr (.inr ⟨x, hx, hi⟩)), h.can, h.zero, h.len, h.small, h.byte⟩
theorem PDat.below (h : PDat w base q v l B Z) (hb : Below w.heap.size w w') : PDat w' base q v l B Z := h.spare (Spare.of_over (fun _ => False) hb) fun _ _ h => h
theorem PDat.mono (h : PDat w base q v l B Z) (hb : base' ≤ base) : PDat w base' q v l B Z := ⟨Nat.le_trans hb h.ge, h.blk, h.row.mono hb, fun x hx => (h.each x hx).mono hb, h.can, h.zero, h.len, h.small, h.byte⟩
theorem PDat.set_ge (h : PDat w base q v l B Z) : ∀ j, pdS q v l j → base ≤ j ∧ j < w.heap.size := fun j hj => by
  rcases hj with rfl | hj | ⟨x, hx, hj⟩
  · exact ⟨h.ge, h.blk.lt⟩
  · exact ⟨(h.row.block hj).1, h.row.lt hj⟩
  · obtain ⟨h1, cs, h2⟩ := (h.each x hx).1.block hj
    exact ⟨h1, (Array.getElem?_eq_some_iff.1 h2).1⟩
theorem PDat.lenS (h : PDat w base q v l B Z) : l.length ≤ 65536 := by
  have h1 := h.can.len_le
  rw [extsL_len] at h1
  have := h.small
  omega
theorem PDat.lst (h : PDat w base q v l B Z) : ∃ A n c, v = .slice A n c ∧ LExt w w.heap.size A n c l := by
  obtain ⟨A, n, c, rfl, hh⟩ := h.row.holds (by decide) extCells_len
  refine ⟨A, n, c, rfl, hh, fun x hx => (h.each x hx).holds ?_ ?_⟩
  · have := h.can.have_ (x.1, x.2.2.2.2) (List.mem_map.2 ⟨x, hx, rfl⟩)
    simp only at this
    rw [this]
    exact (h.byte.drop _).take _
  · have := h.can.ends (x.1, x.2.2.2.2) (List.mem_map.2 ⟨x, hx, rfl⟩)
    have h2 := h.small
    simp only at this
    omega
end

theorem end_any (w : World) (a n c : Nat) (A : Option Addr) (ha : a ≤ 4611686018427387903) (hn : n ≤ 4611686018427387903) :
    Calls Try.prog 32 #[.agg #[.int .i64 (a : Nat), .slice A n c]] w fun e w' => e = .returned (.int .i64 ((a + n : Nat) : Int)) ∧ Below w.heap.size w w' := by
  obtain ⟨t, ht⟩ : ∃ t, t = a + n := ⟨_, rfl⟩
  have hadd : IntKind.i64.wrap ((a : Int) + (n : Int)) = (t : Int) := by rw [IntKind.wrap_i64]; omega
  rw [← ht]
  clear ht
  go_enter Try.func32, Try.ntmps32
  go_wp2_with (first
    | ((with_reducible show wpList _ _ _ (⟨some 1, _, _, _, _, _⟩ :: _) _ _); refine wpList_box_blk rfl _ (.tmp 0) rfl [.int .i64 (a : Nat), .slice A n c] rfl ?_; intro g w1 hg1 hg2 B1 L1; have c0 : w1.cell? ⟨g, 0, none⟩ = some (.int .i64 (a : Nat)) := B1.out.cell 0; have c1 : w1.cell? ⟨g, 1, none⟩ = some (.slice A n c) := B1.out.cell 1)
    | fail)
  go_ret
  exact ⟨rfl, L1.out⟩

theorem lt_of_cell {w : World} {p : Addr} {v : Value} (h : w.cell? p = some v) : p.block < w.heap.size := by
  rcases Nat.lt_or_ge p.block w.heap.size with h' | h'
  · exact h'
  · simp [World.cell?, Array.getElem?_eq_none h'] at h
/-- what the closures look at -/
structure EdC (w : World) (p1 p2 q g n c i : Nat) (a : Int) (xa : Nat) (xA : Option Addr) (xn xc : Nat) : Prop where
  c1 : w.cell? ⟨p1, 0, none⟩ = some (ptr q)
  c2 : w.cell? ⟨p2, 0, none⟩ = some (.int .i64 a)
  c3 : w.cell? ⟨q, 2, none⟩ = some (.slice (some ⟨g, 0, none⟩) n c)
  c4 : w.cell? ⟨g, i * 2, none⟩ = some (.int .i64 (xa : Nat))
  c5 : w.cell? ⟨g, i * 2 + 1, none⟩ = some (.slice xA xn xc)
theorem EdC.below {w w' : World} {p1 p2 q g n c i xa xn xc : Nat} {a : Int} {xA : Option Addr} (h : EdC w p1 p2 q g n c i a xa xA xn xc) (hb : Below w.heap.size w w') : EdC w' p1 p2 q g n c i a xa xA xn xc :=
  ⟨(hb.cell (lt_of_cell h.c1)).trans h.c1, (hb.cell (lt_of_cell h.c2)).trans h.c2, (hb.cell (lt_of_cell h.c3)).trans h.c3, (hb.cell (lt_of_cell h.c4)).trans h.c4, (hb.cell (lt_of_cell h.c5)).trans h.c5⟩
theorem EdC.range {w : World} {p1 p2 q g n c i xa xn xc : Nat} {a : Int} {xA : Option Addr} (h : EdC w p1 p2 q g n c i a xa xA xn xc) : w.rangeAt g (i * 2) [.int .i64 (xa : Nat), .slice xA xn xc] := fun j u hj => by
  match j, hj with
  | 0, hj => injection hj with hj; subst hj; exact h.c4
  | 1, hj => injection hj with hj; subst hj; exact h.c5

set_option maxHeartbeats 4000000 in
theorem endC_any (w : World) (p1 p2 q g n c i : Nat) (a : Int) (xa : Nat) (xA : Option Addr) (xn xc : Nat) (h : EdC w p1 p2 q g n c i a xa xA xn xc) (hi : i < n) (hxa : xa ≤ 4611686018427387903) (hxn : xn ≤ 4611686018427387903) :
    Calls Try.prog 41 #[.int .i64 (i : Nat), .pointer (some ⟨p1, 0, none⟩), .pointer (some ⟨p2, 0, none⟩)] w fun e w' => e = .returned (.bool (decide (a < ((xa + xn : Nat) : Int)))) ∧ Below w.heap.size w w' := by
  go_enter Try.func41, Try.ntmps41
  go_upto_region 1 with fail
  refine wp_region_held (S := fun w' => EdC w' p1 p2 q g n c i a xa xA xn xc) (by kernel_rfl) ?_
  change wpAnyH _ _ _ _ _ _ _ _ w.drew
  have Sr0 : Hid (EdC w.drew p1 p2 q g n c i a xa xA xn xc) := h.below (Below.refl _ _).drew
  have br0 : Hid (True) := trivial
  refine wpAnyH_take (i := 0) (v := _) rfl (by kernel_rfl) (by kernel_rfl) (by kernel_rfl) (fun _ _ _ h => h) (yieldsIf_load_one (by kernel_rfl) _ (.tmp 1) rfl p1 (0) (by kernel_rfl) (ptr q) (fun _ h => h.c1) _ Try.underlying23 rfl) Sr0.out ?_
  refine wpAnyH_take (i := 1) (v := _) rfl (by kernel_rfl) (by kernel_rfl) (by kernel_rfl) (fun _ _ _ h => h) (yieldsIf_nil (by kernel_rfl) (.tmp 5) rfl ⟨q, 0, none⟩ (by kernel_rfl)) Sr0.out ?_
  refine wpAnyH_take (i := 2) (v := _) rfl (by kernel_rfl) (by kernel_rfl) (by kernel_rfl) (fun _ _ _ h => h) (yieldsIf_fld (by kernel_rfl) _ (.tmp 6) 2 rfl (.pointer (some ⟨q, 0, none⟩)) (.pointer (some ⟨q, 2, none⟩)) (by kernel_rfl) (fun w => by go_simp)) Sr0.out ?_
  refine wpAnyH_take (i := 3) (v := _) rfl (by kernel_rfl) (by kernel_rfl) (by kernel_rfl) (fun _ _ _ h => h) (yieldsIf_load_one (by kernel_rfl) _ (.tmp 7) rfl q (2) (by kernel_rfl) (.slice (some ⟨g, 0, none⟩) n c) (fun _ h => h.c3) _ Try.underlying38 rfl) Sr0.out ?_
  refine wpAnyH_take (i := 4) (v := _) rfl (by kernel_rfl) (by kernel_rfl) (by kernel_rfl) (fun _ _ _ h => h) (yieldsIf_move (by kernel_rfl) (.tmp 0) rfl (.int .i64 (i : Nat)) (by kernel_rfl)) Sr0.out ?_
  refine wpAnyH_take (i := 5) (v := .pointer (some ⟨g, i * 2, none⟩)) rfl (by kernel_rfl) (by kernel_rfl) (by kernel_rfl) (fun _ _ _ h => h) (.inl ⟨by kernel_rfl, fun w _ => by go_simp⟩) Sr0.out ?_
  refine wpAnyH_take (i := 6) (v := _) rfl (by kernel_rfl) (by kernel_rfl) (by kernel_rfl) (fun _ _ _ h => h) (yieldsIf_load_range (by kernel_rfl) _ (.tmp 10) rfl g (i * 2) (by kernel_rfl) [.int .i64 (xa : Nat), .slice xA xn xc] (fun _ h => h.range) 2 _ Try.underlying41 rfl size_ext (rfl : Hid ([Value.int .i64 (xa : Nat), .slice xA xn xc].length = 2))) Sr0.out ?_
  refine wpAnyH_take (i := 8) (v := _) rfl (by kernel_rfl) (by kernel_rfl) (by kernel_rfl) (fun _ _ _ h => h) (yieldsIf_load_one (by kernel_rfl) _ (.tmp 2) rfl p2 (0) (by kernel_rfl) (.int .i64 a) (fun _ h => h.c2) _ Try.underlying3 rfl) Sr0.out ?_
  refine wpAnyH_one 7 _ (by kernel_rfl) rfl fun K hK => ?_
  go_simp
  refine (end_any _ xa xn xc xA hxa hxn).mono ?_
  rintro e vr1 ⟨rfl, l1⟩
  have Sr1 : Hid (EdC vr1 p1 p2 q g n c i a xa xA xn xc) := Sr0.out.below l1
  have br1 : Hid (True) := trivial
  have L1 := Lib.hid l1
  clear l1
  refine hK _ _ Sr1.out ?_
  clear hK K 
  refine wpAnyH_take (i := 9) (v := .bool (decide (a < ((xa + xn : Nat) : Int)))) rfl (by kernel_rfl) (by kernel_rfl) (by kernel_rfl) (fun _ _ _ h => h) (.inl ⟨by kernel_rfl, fun w _ => by go_simp⟩) Sr1.out ?_
  refine wpAnyH_one 10 _ (by kernel_rfl) rfl fun K hK => ?_
  go_simp
  refine hK _ _ Sr1.out ?_
  clear hK K
  refine wpAnyH_done (by kernel_rfl) ?_ _
  go_wp2_with fail
  go_ret
  exact ⟨rfl, ((Below.refl w.heap.size w).drew).trans L1.out⟩

set_option maxHeartbeats 4000000 in
theorem begC_any (w : World) (p1 p2 q g n c i : Nat) (a : Int) (xa : Nat) (xA : Option Addr) (xn xc : Nat) (h : EdC w p1 p2 q g n c i a xa xA xn xc) (hi : i < n) :
    Calls Try.prog 42 #[.int .i64 (i : Nat), .pointer (some ⟨p1, 0, none⟩), .pointer (some ⟨p2, 0, none⟩)] w fun e w' => e = .returned (.bool (decide (a ≤ (xa : Int)))) ∧ Below w.heap.size w w' := by
  have c1 := h.c1
  have c2 := h.c2
  have c3 := h.c3
  have c4 := h.c4
  unfold ptr at c1
  clear h
  go_enter Try.func42, Try.ntmps42
  go_upto_region 1 with fail
  go_quiet (fail)
  go_wp2_with fail
  go_ret
  exact ⟨rfl, drewed w _⟩

set_option maxHeartbeats 4000000 in
theorem Search_any (w : World) (F : Nat) (hent : ∀ (args : Array Value) (w : World), (callFunc F args).run Try.prog w = .ok (.enter F args) w) (x y : Value) (n k : Nat) (p : Nat → Bool) (hk : k ≤ n) (hn : n ≤ 4611686018427387903)
    (h0 : ∀ i, i < k → p i = false) (h1 : ∀ i, k ≤ i → i < n → p i = true)
    (hf : ∀ w1 i, Below w.heap.size w w1 → i < n → Calls Try.prog F #[.int .i64 (i : Nat), x, y] w1 fun e w' => e = .returned (.bool (p i)) ∧ Below w1.heap.size w1 w') :
    Calls Try.prog 40 #[.int .i64 (n : Nat), .func (.func F) #[] #[x, y]] w fun e w' => e = .returned (.int .i64 (k : Nat)) ∧ Below w.heap.size w w' := by
  have HF := Lib.hid hf
  have H0 := Lib.hid h0
  have H1 := Lib.hid h1
  clear hf h0 h1
  go_enter Try.func40, Try.ntmps40
  go_wp2_with fail
  go_loopw [5, 6, 7] (fun I J _ wr => ∃ i j : Nat, i ≤ k ∧ k ≤ j ∧ j ≤ n ∧ I = .int .i64 (i : Nat) ∧ J = .int .i64 (j : Nat) ∧ Hid (Below w.heap.size w wr)) (fun I J _ _ => (intOf J).toNat - (intOf I).toNat)
  case atStart => exact ⟨0, n, Nat.zero_le _, hk, Nat.le_refl _, rfl, rfl, Below.refl _ _⟩
  case round =>
    obtain ⟨i, j, hi, hj, hjn, rfl, rfl, LR⟩ := hrel
    by_cases hlt : i < j
    · obtain ⟨m, hm⟩ : ∃ m, m = (i + j) / 2 := ⟨_, rfl⟩
      have hadd : IntKind.i64.wrap ((i : Int) + (j : Int)) = (i : Int) + (j : Int) := by rw [IntKind.wrap_i64]; omega
      have hcv : IntKind.u64.wrap ((i : Int) + (j : Int)) = (i : Int) + (j : Int) := by rw [IntKind.wrap_u64]; omega
      have hsh : ((i : Int) + (j : Int)) / 2 = (m : Int) := by omega
      have him : i ≤ m := by omega
      have hmj : m < j := by omega
      have CF := Lib.hid (HF.out wr m LR.out (by omega))
      obtain ⟨z, hz⟩ : ∃ z, z = p m := ⟨_, rfl⟩
      rw [← hz] at CF
      have HZ := Lib.hid hz
      clear hz hm
      go_wp2_with fail
      refine CF.out.mono ?_
      rintro e w1 ⟨rfl, l1⟩
      have L1 := Lib.hid (LR.out.trans (l1.mono LR.out.size))
      clear l1 CF
      cases z with
      | false =>
        go_wp2_with fail
        go_roundw
        case rel =>
          refine ⟨m + 1, j, ?_, hj, hjn, by go_num, rfl, L1⟩
          rcases Nat.lt_or_ge m k with h | h
          · exact h
          · have := H1.out m h (by omega)
            rw [← HZ.out] at this
            cases this
        case measure => simp [intOf]; omega
      | true =>
        go_wp2_with fail
        go_roundw
        case rel =>
          refine ⟨i, m, hi, ?_, by omega, rfl, rfl, L1⟩
          rcases Nat.lt_or_ge m k with h | h
          · have := H0.out m h
            rw [← HZ.out] at this
            cases this
          · exact h
        case measure => simp [intOf]; omega
    · obtain rfl : i = k := by omega
      obtain rfl : j = i := by omega
      go_wp2_with fail
      go_ret
      exact ⟨rfl, LR.out⟩
end Go.Proofs.Ytgbhnnobbciemaa
