/-
  Layer 14 (extent): Write of the program's file (written by tools/gen_exy.py).
-/
import Derived.Test.YtgbhnnobbciemaaExX
import Derived.Test.YtgbhnnobbciemaaExR
import Derived.Test.YtgbhnnobbciemaaHeldK
namespace Go.Proofs.Ytgbhnnobbciemaa
set_option maxRecDepth 100000
open Go.RowKit
set_option linter.unusedVariables false

theorem OwnS.oneC {α : Type} {f : α → List Value} {s : Nat} {e : TypeId} {w : World} {base : Nat} {v : Value} {xs : List α} (h : OwnS f s e w base v xs) : v.oneCell' = true := by
  rcases h.2 with ⟨rfl, _⟩ | ⟨_, _, _, rfl, _⟩ <;> rfl
theorem spare_cell {S : Nat → Prop} {w w' : World} {p : Addr} (a : Spare S w w') (hp : ¬ S p.block) (hlt : p.block < w.heap.size) : w'.cell? p = w.cell? p := by
  unfold World.cell?
  rw [a.rest p.block hlt hp]
theorem range_spare {S : Nat → Prop} {w w' : World} {b i : Nat} {cs : List Value} (h : w.rangeAt b i cs) (a : Spare S w w') (hp : ¬ S b) (hlt : b < w.heap.size) : w'.rangeAt b i cs := fun j v hj => by
  rw [spare_cell a (by exact hp) (by exact hlt)]
  exact h j v hj
/-- a block of one type is not another's -/
theorem Blk.ne_own {α : Type} {f : α → List Value} {s : Nat} {e T : TypeId} {w : World} {base g : Nat} {v : Value} {xs : List α} {cs : List Value} (h : Blk w g T cs) (o : OwnS f s e w base v xs) (hT : T ≠ e) : v.ownBlock ≠ some g := fun hv => by
  obtain ⟨_, cs', hcs⟩ := o.block hv
  rw [show w.heap[g]? = _ from h] at hcs
  simp only [Option.some.injEq, Obj.cells.injEq] at hcs
  exact hT hcs.2.1
theorem OwnB.ne_blk {Z : Bool} {T : TypeId} {w : World} {base g : Nat} {v : Value} {xs : List Int} {cs : List Value} (o : OwnB Z w base v xs) (h : Blk w g T cs) (hT : T ≠ 5) : v.ownBlock ≠ some g := fun hv => by
  obtain ⟨_, cs', hcs⟩ := o.1.block hv
  rw [show w.heap[g]? = _ from h] at hcs
  simp only [Option.some.injEq, Obj.cells.injEq] at hcs
  exact hT hcs.2.1
theorem OwnB.ne_own {α : Type} {f : α → List Value} {s : Nat} {e : TypeId} {Z : Bool} {w : World} {base base' i : Nat} {v u : Value} {xs : List Int} {ys : List α} (o : OwnB Z w base v xs) (h : OwnS f s e w base' u ys) (hT : e ≠ 5) (hi : v.ownBlock = some i) : u.ownBlock ≠ some i := fun hu => by
  obtain ⟨_, cs1, h1⟩ := o.1.block hi
  obtain ⟨_, cs2, h2⟩ := h.block hu
  rw [h1] at h2
  simp only [Option.some.injEq, Obj.cells.injEq] at h2
  exact hT h2.2.1.symm

def PWrPost (w : World) (base q : Nat) (v : Value) (l : List ExtV) (B : List Int) (Z : List Bool) (a : Int) (xs : List Int) (e : Ending) (w' : World) : Prop :=
  e = .returned (.int .i64 (exWrE a xs.length)) ∧ ∃ v' l', PDat w' base q v' l' (exWr 0 B a xs) (exWr false Z a (List.replicate xs.length true)) ∧ Spare (pdS q v l) w w' ∧ ∀ j, pdS q v' l' j → pdS q v l j ∨ w.heap.size ≤ j

/-- what is known of the file behind a Write -/
theorem PDat.wrote {w w8 w9 w12 : World} {base q : Nat} {v v' : Value} {l : List ExtV} {B : List Int} {Z : List Bool} (d : PDat w base q v l B Z) {p n f h a t hj M : Nat} {xs : List Int} (r : WrOk l p n f h a t) (hn : xs.length = n) (h0 : 0 < n) (hp : p + n ≤ 65536) (hx : Bytes xs) (hb : base ≤ w.heap.size)
    (hM : M = max B.length (p + n)) (L8 : Below w.heap.size w w8) (hjw : w.heap.size ≤ hj) (RJ : Row w8 hj (layB (joinB a (t - a) ((l.take h).drop f) (h - f)) (p - a) xs))
    (O9 : OwnS extCells 2 41 w9 base v' (l.take f ++ [((a, some ⟨hj, 0, none⟩, t - a, t - a, layB (joinB a (t - a) ((l.take h).drop f) (h - f)) (p - a) xs) : ExtV)] ++ l.drop h)) (S9 : Spare (fun k => v.ownBlock = some k) w8 w9) (N9 : Wander w8 v v') (P12 : Spare (fun k => k = q) w9 w12) (BQ : Blk w12 q 49 [.bool true, .int .i64 (M : Nat), v']) :
    ∃ l', PDat w12 base q v' l' (layAt 0 B p xs) (layAt false Z p (List.replicate n true)) ∧ Spare (pdS q v l) w w12 ∧ ∀ j, pdS q v' l' j → pdS q v l j ∨ w.heap.size ≤ j := by
  obtain ⟨hcan, hXl⟩ := r.can d.can d.lens d.zero d.len hn h0 (some ⟨hj, 0, none⟩) (t - a) (t - a)
  obtain ⟨X, hX⟩ : ∃ X, X = layB (joinB a (t - a) ((l.take h).drop f) (h - f)) (p - a) xs := ⟨_, rfl⟩
  rw [← hX] at hcan hXl RJ O9
  have hd8 := d.below L8
  have hq9 : Blk w9 q 49 [.bool true, .int .i64 (B.length : Nat), v] := hd8.blk.spare S9 fun e => hd8.blk.ne_own hd8.row (by decide) e
  have hv'q : v'.ownBlock ≠ some q := hq9.ne_own O9 (by decide)
  have htn : t - a ≤ maxLen := by
    have h1 := hcan.ends (a, X) (by unfold extsL; simp)
    rw [layAt_len, hn] at h1
    have h2 := d.small
    have h1 : a + X.length ≤ _ := h1
    unfold maxLen
    omega
  have hJ8 : OwnB false w8 base (.slice (some ⟨hj, 0, none⟩) (t - a) (t - a)) X := OwnB.of_z ((RJ.ownZ hjw hXl htn).mono hb) false
  have each9 : ∀ x ∈ l.take f ++ [((a, some ⟨hj, 0, none⟩, t - a, t - a, X) : ExtV)] ++ l.drop h, OwnB false w8 base (partV x.2) x.2.2.2.2 ∧ ∀ i, (partV x.2).ownBlock = some i → pdS q v l i ∨ w.heap.size ≤ i := fun x hx => by
    rcases List.mem_append.1 hx with hx | hx
    · rcases List.mem_append.1 hx with hx | hx
      · have hm := List.mem_of_mem_take hx
        exact ⟨hd8.each x hm, fun i hi => .inl (.inr (.inr ⟨x, hm, hi⟩))⟩
      · rw [List.mem_singleton.1 hx]
        exact ⟨hJ8, fun i hi => .inr (by injection hi with hi; rw [← hi]; exact hjw)⟩
    · have hm := List.mem_of_mem_drop hx
      exact ⟨hd8.each x hm, fun i hi => .inl (.inr (.inr ⟨x, hm, hi⟩))⟩
  refine ⟨_, ⟨d.ge, ?_, O9.sparS P12 (fun i hi e => hv'q (by rw [hi, e])), fun x hx => ?_, hcan, lay_zero hn d.zero, ?_, ?_, layAt_bytes d.byte hx p⟩, ?_, fun j hj' => ?_⟩
  · rw [layAt_len, hn, ← hM]
    exact BQ
  · obtain ⟨h1, _⟩ := each9 x hx
    have h2 := h1.spare S9 fun i hi e => h1.ne_own hd8.row (by decide) hi e
    exact h2.spare P12 fun i hi e => h2.ne_blk hq9 (by decide) (by rw [hi, e])
  · rw [layAt_len, layAt_len, List.length_replicate, hn, d.len]
  · rw [layAt_len, hn]
    have := d.small
    omega
  · refine ((Spare.of_over (pdS q v l) L8).trans (S9.mono (S' := pdS q v l) fun j _ hj => .inr (.inl hj)) fun j _ h => h).trans (P12.mono (S' := pdS q v l) fun j _ hj => .inl hj) fun j _ h => h
  · rcases hj' with rfl | hj' | ⟨x, hx, hj'⟩
    · exact .inl (.inl rfl)
    · rcases N9 j hj' with h1 | h1
      · exact .inl (.inr (.inl h1))
      · exact .inr (Nat.le_trans L8.size h1)
    · exact (each9 x hx).2 j hj'

set_option maxHeartbeats 8000000 in
theorem PWrite_any (w : World) (base q : Nat) (v : Value) (l : List ExtV) (B : List Int) (Z : List Bool) (d : PDat w base q v l B Z) (a0 : Int) (ha : -9223372036854775808 ≤ a0 ∧ a0 ≤ 9223372036854775807) (A : Option Addr) (n c : Nat) (xs : List Int) (hx : Holds w w.heap.size A n c xs) (hc : c ≤ 140737488355328) (hb : base ≤ w.heap.size) :
    Calls Try.prog 16 #[ptr q, .int .i64 a0, .slice A n c] w (PWrPost w base q v l B Z a0 xs) := by
  unfold PWrPost ptr
  have hsm := d.small
  have hxl := hx.len
  have hnc := hx.fit
  have q0 : w.cell? ⟨q, 0, none⟩ = some (.bool true) := d.blk.cell 0
  have q1 : w.cell? ⟨q, 1, none⟩ = some (.int .i64 (B.length : Nat)) := d.blk.cell 1
  have CN := Lib.hid (none_any w q q0)
  have hE : exWrE a0 n = if a0 < 0 then 2 else if n = 0 then 0 else if 65536 < a0 + n then 3 else 0 := rfl
  have same : exWrE a0 n ≠ 0 ∨ n = 0 → (exWr 0 B a0 xs) = B ∧ exWr false Z a0 (List.replicate n true) = Z := fun h => by
    unfold exWr
    rw [List.length_replicate, hxl]
    rcases h with h | h
    · rw [if_neg (fun e => h e.1), if_neg (fun e => h e.1)]
      exact ⟨rfl, rfl⟩
    · subst h
      obtain rfl : xs = [] := List.eq_nil_of_length_eq_zero hxl
      rw [if_neg (fun e => e.2 rfl), if_neg (fun e => e.2 rfl)]
      exact ⟨rfl, rfl⟩
  rw [hxl]
  obtain ⟨ha0, ha1⟩ := ha
  have D := Lib.hid d
  have HX := Lib.hid hx
  have SAME := Lib.hid same
  clear d hx same
  by_cases h1 : a0 < 0
  · rw [if_pos h1] at hE
    have hs := SAME.out (.inl (by rw [hE]; decide))
    rw [hE, hs.1, hs.2]
    clear hE hs
    go_enter Try.func16, Try.ntmps16
    go_wp2_with fail
    refine CN.out.mono ?_
    rintro e w1 ⟨rfl, rfl⟩
    go_wp2_with fail
    go_ret
    exact ⟨rfl, _, _, D.out, Spare.refl _ _, fun j hj => .inl hj⟩
  · rw [if_neg h1] at hE
    by_cases h2 : n = 0
    · rw [if_pos h2] at hE
      have hs := SAME.out (.inr h2)
      rw [hE, hs.1, hs.2]
      clear hE hs
      have h2' : ((n : Int) == 0) = true := by simpa using h2
      go_enter Try.func16, Try.ntmps16
      go_wp2_with fail
      refine CN.out.mono ?_
      rintro e w1 ⟨rfl, rfl⟩
      go_wp2_with fail
      go_ret
      exact ⟨rfl, _, _, D.out, Spare.refl _ _, fun j hj => .inl hj⟩
    · rw [if_neg h2] at hE
      have h2' : ((n : Int) == 0) = false := by simpa using h2
      by_cases h3 : 65536 < a0 + n
      · rw [if_pos h3] at hE
        have hs := SAME.out (.inl (by rw [hE]; decide))
        rw [hE, hs.1, hs.2]
        clear hE hs
        have h3' : decide ((65536 : Int) - (n : Int) < a0) = true := decide_eq_true (by omega)
        go_enter Try.func16, Try.ntmps16
        go_wp2_with fail
        refine CN.out.mono ?_
        rintro e w1 ⟨rfl, rfl⟩
        go_wp2_with fail
        go_ret
        exact ⟨rfl, _, _, D.out, Spare.refl _ _, fun j hj => .inl hj⟩
      · rw [if_neg h3] at hE
        have h3' : decide ((65536 : Int) - (n : Int) < a0) = false := decide_eq_false (by omega)
        obtain ⟨p, rfl⟩ := Int.eq_ofNat_of_zero_le (show 0 ≤ a0 by omega)
        have hpn : p + n ≤ 65536 := by omega
        have hB' : exWr 0 B (p : Int) xs = layAt 0 B p xs ∧ exWr false Z (p : Int) (List.replicate n true) = layAt false Z p (List.replicate n true) := by
          have hne : xs ≠ [] := fun e => h2 (by rw [← hxl, e]; rfl)
          have hne2 : List.replicate n true ≠ [] := fun e => h2 (by have := congrArg List.length e; simpa using this)
          unfold exWr
          rw [List.length_replicate, hxl, hE, if_pos ⟨rfl, hne⟩, if_pos ⟨rfl, hne2⟩, Int.toNat_natCast]
          exact ⟨rfl, rfl⟩
        rw [hE, hB'.1, hB'.2]
        clear hE hB'
        have hw1 : IntKind.i64.wrap ((p : Int) - 1) = (p : Int) - 1 := by rw [IntKind.wrap_i64]; omega
        have hw2 : IntKind.i64.wrap ((p : Int) + (n : Int) + 1) = (p : Int) + (n : Int) + 1 := by rw [IntKind.wrap_i64]; omega
        obtain ⟨f, hf, f0, f1⟩ := D.out.halfE ((p : Int) - 1)
        obtain ⟨h, hh, g0, g1⟩ := D.out.halfB ((p : Int) + (n : Int) + 1)
        have CF : Hid (∀ w2, Below w.heap.size w w2 → Calls Try.prog 29 #[.pointer (some ⟨q, 0, none⟩), .int .i64 ((p : Int) - 1)] w2 fun e w' => e = .returned (.int .i64 (f : Nat)) ∧ Below w2.heap.size w2 w') := fun w2 hb => ending_any w2 base q v l B Z (D.out.below hb) _ f hf f0 f1
        have CH : Hid (∀ w2, Below w.heap.size w w2 → Calls Try.prog 30 #[.pointer (some ⟨q, 0, none⟩), .int .i64 ((p : Int) + (n : Int) + 1)] w2 fun e w' => e = .returned (.int .i64 (h : Nat)) ∧ Below w2.heap.size w2 w') := fun w2 hb => begin_any w2 base q v l B Z (D.out.below hb) _ h hh g0 g1
        obtain ⟨a, t, WR⟩ := wr_ok D.out.can D.out.lens (show 0 < n by omega) hf hh f0 f1 (fun i x hi hx => by have := g0 i x hi hx; omega) (fun i x hi hx => by have := g1 i x hi hx; omega)
        obtain ⟨Av, nv, cv, rfl, hv⟩ := D.out.lst
        have hnl := hv.len
        have q2 : w.cell? ⟨q, 2, none⟩ = some (.slice Av nv cv) := D.out.blk.cell 2
        have hcm : cv ≤ maxLen := by
          rcases D.out.row.2 with ⟨e1, _⟩ | ⟨_, cap, _, e1, _, _, _, e2, _⟩
          · injection e1 with _ _ e3
            rw [e3]
            exact Nat.zero_le _
          · injection e1 with _ _ e3
            rw [e3]
            exact e2
        have hap := WR.ap
        have hpt := WR.pt
        have ht65 : t ≤ 65536 := by
          rcases Nat.eq_zero_or_pos (h - f) with h0 | h0
          · have := (WR.none h0).2
            omega
          · obtain ⟨y, hy⟩ : ∃ y, ((l.take h).drop f)[h - f - 1]? = some y := ⟨_, List.getElem?_eq_getElem (show h - f - 1 < _ by rw [sub_len hh]; omega)⟩
            have e1 := WR.lst _ h0 hy
            have e2 := D.out.ends y (List.mem_of_getElem? (sub_at hy).2)
            omega
        obtain ⟨A5, c5, hsl, hlo⟩ := slice_ext w w.heap.size Av nv cv f h l hv WR.fh (by omega) hcm
        have HSL := Lib.hid hsl
        obtain ⟨X, hX⟩ : ∃ X, X = layB (joinB a (t - a) ((l.take h).drop f) (h - f)) (p - a) xs := ⟨_, rfl⟩
        have hn65 : nv ≤ 65536 := by have := D.out.lenS; omega
        have CJ : Hid (∀ w2, Below w.heap.size w w2 → Calls Try.prog 34 #[.slice A5 (h - f) c5, .agg #[.int .i64 (p : Nat), .slice A n c]] w2 fun e w' => ∃ hj, e = .returned (.agg #[.int .i64 (a : Nat), .slice (some ⟨hj, 0, none⟩) (t - a) (t - a)]) ∧ w2.heap.size ≤ hj ∧ Row w' hj X ∧ Below w2.heap.size w2 w') := fun w2 hb2 => by
          rw [hX]
          exact joined_any w2 A5 (h - f) c5 ((l.take h).drop f) ((hlo.below hb2).mono hb2.size) (by omega) p n c a t A xs ((HX.out.below hb2).mono hb2.size) (by omega) hpn ht65 WR.none WR.fst WR.lst WR.fit
        have hvq : Hid ((Value.slice Av nv cv).ownBlock ≠ some q) := D.out.blk.ne_own D.out.row (by decide)
        have hvlt : Hid (∀ i, (Value.slice Av nv cv).ownBlock = some i → i < w.heap.size) := fun i hi => D.out.row.lt hi
        have RPL : Hid (∀ w8, Below w.heap.size w w8 → ∀ gv hj, w.heap.size ≤ gv → Blk w8 gv 41 [.int .i64 (a : Nat), .slice (some ⟨hj, 0, none⟩) (t - a) (t - a)] → Calls Try.prog 33 #[.slice Av nv cv, .int .i64 (f : Nat), .int .i64 (h : Nat), .slice (some ⟨gv, 0, none⟩) 1 1] w8 (PutPostX w8 base (.slice Av nv cv) l f h (a, some ⟨hj, 0, none⟩, t - a, t - a, X))) := fun w8 hb8 gv hj hgv hV =>
          Replace_any w8 base Av nv cv f h gv l (a, some ⟨hj, 0, none⟩, t - a, t - a, X) (D.out.row.below hb8) WR.fh (by omega) hnl hn65 (Nat.le_trans hb hb8.size) hV (fun e => by have := hvlt.out gv e; omega)
        unfold PutPostX at RPL
        obtain ⟨N, hN⟩ : ∃ N, N = t - a := ⟨_, rfl⟩
        have HWR := Lib.hid WR
        have HXX := Lib.hid hX
        have HNN := Lib.hid hN
        have BQ := Lib.hid D.out.blk
        obtain ⟨L, hL⟩ : ∃ n, n = B.length := ⟨_, rfl⟩
        have HLL := Lib.hid hL
        obtain ⟨M, hM⟩ : ∃ m, m = max L (p + n) := ⟨_, rfl⟩
        have hmax : max (L : Int) ((p + n : Nat) : Int) = (M : Int) := by omega
        have hmax2 : max (L : Int) ((p : Int) + (n : Int)) = (M : Int) := by omega
        have HMM : Hid (M = max B.length (p + n)) := by show _ = _; rw [← hL]; exact hM
        rw [← hN] at CJ RPL
        rw [← hL] at BQ q1 hsm
        have hpn2 : p ≤ 4611686018427387903 := by omega
        have hfh := WR.fh
        clear hsl hlo hv hX hN hL hM f0 f1 g0 g1 WR hf hh hap hpt
        go_enter Try.func16, Try.ntmps16
        go_wp2_with fail
        refine CN.out.mono ?_
        rintro e w1 ⟨rfl, rfl⟩
        have ZX := Lib.hid zero_ext2
        go_upto_region 10 with (first
          | ((with_reducible show wpList _ _ _ (⟨some 28, _, _, _, _, _⟩ :: _) _ _); go_loud (refine wpList_build_blk rfl _ _ rfl [.int .i64 (p : Nat), .slice A n c] (by kernel_rfl) ?_))
          | ((with_reducible show wpList _ _ _ (⟨some 7, _, _, _, _, _⟩ :: _) _ _); go_loud (refine wpList_alloc_blk rfl _ rfl [.int .i64 0, .slice none 0 0] _ ZX ?_); intro g7 w1 hg71 hg72 B1 L1)
          | ((with_reducible show wpList _ _ _ (⟨none, .store _ _ _, _, _, _, _⟩ :: _) _ _); go_loud (refine wpList_store_blk rfl _ (.tmp 7) (.tmp 28) rfl g7 rfl _ [.int .i64 0, .slice none 0 0] [.int .i64 (p : Nat), .slice A n c] rfl B1 2 size_ext rfl rfl (ext_one _ _ rfl) ?_); intro w2 B2 O2 hg7')
          | fail)
        have hg7 : Hid (g7 < w2.heap.size) := hg7'
        have L2 := Lib.hid (below_only L1.out O2.out hg71)
        clear L1 B1 O2 hg7'
        refine wp_region_held (S := fun w' => w'.rangeAt g7 0 [.int .i64 (p : Nat), .slice A n c]) (by kernel_rfl) ?_
        change wpAnyH _ _ _ _ _ _ _ _ w2.drew
        have Sr0 : Hid (w2.drew.rangeAt g7 0 [.int .i64 (p : Nat), .slice A n c]) := fun j v h => (B2.out.range 0) j v h
        have br0 : Hid (True) := trivial
        refine wpAnyH_take (i := 0) (v := _) rfl (by kernel_rfl) (by kernel_rfl) (by kernel_rfl) (fun _ _ _ h => h) (yieldsIf_move (by kernel_rfl) (.tmp 0) rfl (.pointer (some ⟨q, 0, none⟩)) (by kernel_rfl)) Sr0.out ?_
        refine wpAnyH_take (i := 1) (v := _) rfl (by kernel_rfl) (by kernel_rfl) (by kernel_rfl) (fun _ _ _ h => h) (yieldsIf_move (by kernel_rfl) (.tmp 1) rfl (.int .i64 (p : Nat)) (by kernel_rfl)) Sr0.out ?_
        refine wpAnyH_take (i := 2) (v := .int .i64 ((p : Int) - 1)) rfl (by kernel_rfl) (by kernel_rfl) (by kernel_rfl) (fun _ _ _ h => h) (.inl ⟨by kernel_rfl, fun w _ => by go_simp⟩) Sr0.out ?_
        refine wpAnyH_take (i := 4) (v := _) rfl (by kernel_rfl) (by kernel_rfl) (by kernel_rfl) (fun _ _ _ h => h) (yieldsIf_move (by kernel_rfl) (.tmp 0) rfl (.pointer (some ⟨q, 0, none⟩)) (by kernel_rfl)) Sr0.out ?_
        refine wpAnyH_take (i := 5) (v := _) rfl (by kernel_rfl) (by kernel_rfl) (by kernel_rfl) (fun _ _ _ h => h) (yieldsIf_load_range (by kernel_rfl) _ (.tmp 7) rfl g7 0 (by kernel_rfl) [.int .i64 (p : Nat), .slice A n c] (fun _ h => h) 2 _ Try.underlying41 rfl size_ext (rfl : Hid (([.int .i64 (p : Nat), .slice A n c] : List Value).length = 2))) Sr0.out ?_
        refine wpAnyH_one 3 _ (by kernel_rfl) rfl fun K hK => ?_
        go_simp
        refine (CF.out _ L2.out.drew).mono ?_
        rintro e vr1 ⟨rfl, l3⟩
        have Sr1 : Hid (vr1.rangeAt g7 0 [.int .i64 (p : Nat), .slice A n c]) := range_below Sr0.out l3 hg7.out
        have br1 : Hid (True) := trivial
        have L3 := Lib.hid (L2.out.drew.trans (l3.mono L2.out.drew.size))
        have K3 := Lib.hid ((Below.refl w2.heap.size w2).drew.trans l3)
        have g73 : Hid (g7 < vr1.heap.size) := Nat.lt_of_lt_of_le hg7.out K3.out.size
        clear l3
        refine hK _ _ Sr1.out ?_
        clear hK K 
        refine wpAnyH_one 6 _ (by kernel_rfl) rfl fun K hK => ?_
        go_simp
        refine (end_any _ p n c A (by omega) (by omega)).mono ?_
        rintro e vr2 ⟨rfl, l4⟩
        have Sr2 : Hid (vr2.rangeAt g7 0 [.int .i64 (p : Nat), .slice A n c]) := range_below Sr1.out l4 g73.out
        have br2 : Hid (True) := trivial
        have L4 := Lib.hid (L3.out.trans (l4.mono L3.out.size))
        have K4 := Lib.hid (K3.out.trans (l4.mono K3.out.size))
        have g74 : Hid (g7 < vr2.heap.size) := Nat.lt_of_lt_of_le hg7.out K4.out.size
        clear l4
        refine hK _ _ Sr2.out ?_
        clear hK K 
        refine wpAnyH_take (i := 7) (v := .int .i64 ((p : Int) + (n : Int) + 1)) rfl (by kernel_rfl) (by kernel_rfl) (by kernel_rfl) (fun _ _ _ h => h) (.inl ⟨by kernel_rfl, fun w _ => by go_simp⟩) Sr2.out ?_
        refine wpAnyH_one 8 _ (by kernel_rfl) rfl fun K hK => ?_
        go_simp
        refine (CH.out _ L4.out).mono ?_
        rintro e vr3 ⟨rfl, l5⟩
        have Sr3 : Hid (vr3.rangeAt g7 0 [.int .i64 (p : Nat), .slice A n c]) := range_below Sr2.out l5 g74.out
        have br3 : Hid (True) := trivial
        have L5 := Lib.hid (L4.out.trans (l5.mono L4.out.size))
        have K5 := Lib.hid (K4.out.trans (l5.mono K4.out.size))
        clear l5
        refine hK _ _ Sr3.out ?_
        clear hK K 
        refine wpAnyH_one 9 _ (by kernel_rfl) rfl fun K hK => ?_
        go_simp
        refine hK _ _ Sr3.out ?_
        clear hK K
        refine wpAnyH_one 10 _ (by kernel_rfl) rfl fun K hK => ?_
        go_simp
        refine hK _ _ Sr3.out ?_
        clear hK K
        refine wpAnyH_done (by kernel_rfl) ?_ _
        have B6 := Lib.hid (B2.out.below K5.out hg7.out)
        have hvg : Hid ((Value.slice Av nv cv).ownBlock ≠ some g7) := fun e => by have := hvlt.out g7 e; omega
        obtain ⟨w6, hw6⟩ : ∃ x, x = vr3 := ⟨_, rfl⟩
        rw [← hw6] at L5 B6 K5 ⊢
        have L6 := L5
        have k2 : w6.cell? ⟨q, 2, none⟩ = some (.slice Av nv cv) := (L6.out.cell (lt_of_cell q2)).trans q2
        have hg76 : Hid (g7 < w6.heap.size) := B6.out.lt
        clear hw6 L3 L4 L5 K3 K4 K5 Sr1 Sr2 Sr3 g73 g74 B2 L2 hg7
        go_upto_region 11 with fail
        refine wp_region_heldK 18 (fun w' => w'.cell? ⟨q, 2, none⟩ = some (.slice Av nv cv) ∧ w'.rangeAt g7 0 [.int .i64 (p : Nat), .slice A n c]) (by kernel_rfl) ?_
        change wpAnyK _ _ _ _ _ _ _ _ _ w6.drew
        have Ss0 : Hid (w6.drew.cell? ⟨q, 2, none⟩ = some (.slice Av nv cv) ∧ w6.drew.rangeAt g7 0 [.int .i64 (p : Nat), .slice A n c]) := ⟨k2, fun j v h => (B6.out.range 0) j v h⟩
        have bs0 : Hid (True) := trivial
        refine wpAnyK_take (i := 0) (v := _) rfl (by kernel_rfl) (by kernel_rfl) (by kernel_rfl) (fun _ _ _ h => h) rfl (by kernel_rfl) (by kernel_rfl) (by decide) (yieldsIf_move (by kernel_rfl) (.tmp 0) rfl (.pointer (some ⟨q, 0, none⟩)) (by kernel_rfl)) Ss0.out ?_
        refine wpAnyK_take (i := 1) (v := _) rfl (by kernel_rfl) (by kernel_rfl) (by kernel_rfl) (fun _ _ _ h => h) rfl (by kernel_rfl) (by kernel_rfl) (by decide) (yieldsIf_move (by kernel_rfl) (.tmp 0) rfl (.pointer (some ⟨q, 0, none⟩)) (by kernel_rfl)) Ss0.out ?_
        refine wpAnyK_take (i := 2) (v := _) rfl (by kernel_rfl) (by kernel_rfl) (by kernel_rfl) (fun _ _ _ h => h) rfl (by kernel_rfl) (by kernel_rfl) (by decide) (yieldsIf_nil (by kernel_rfl) (.tmp 39) rfl ⟨q, 0, none⟩ (by kernel_rfl)) Ss0.out ?_
        refine wpAnyK_take (i := 3) (v := _) rfl (by kernel_rfl) (by kernel_rfl) (by kernel_rfl) (fun _ _ _ h => h) rfl (by kernel_rfl) (by kernel_rfl) (by decide) (yieldsIf_fld (by kernel_rfl) _ (.tmp 40) 2 rfl (.pointer (some ⟨q, 0, none⟩)) (.pointer (some ⟨q, 2, none⟩)) (by kernel_rfl) (fun w => by go_simp)) Ss0.out ?_
        refine wpAnyK_take (i := 4) (v := _) rfl (by kernel_rfl) (by kernel_rfl) (by kernel_rfl) (fun _ _ _ h => h) rfl (by kernel_rfl) (by kernel_rfl) (by decide) (yieldsIf_load_one (by kernel_rfl) _ (.tmp 41) rfl q (2) (by kernel_rfl) (.slice Av nv cv) (fun _ h => h.1) _ Try.underlying38 rfl) Ss0.out ?_
        refine wpAnyK_take (i := 5) (v := _) rfl (by kernel_rfl) (by kernel_rfl) (by kernel_rfl) (fun _ _ _ h => h) rfl (by kernel_rfl) (by kernel_rfl) (by decide) (yieldsIf_move (by kernel_rfl) (.tmp 8) rfl (.int .i64 (f : Nat)) (by kernel_rfl)) Ss0.out ?_
        refine wpAnyK_take (i := 6) (v := _) rfl (by kernel_rfl) (by kernel_rfl) (by kernel_rfl) (fun _ _ _ h => h) rfl (by kernel_rfl) (by kernel_rfl) (by decide) (yieldsIf_move (by kernel_rfl) (.tmp 9) rfl (.int .i64 (h : Nat)) (by kernel_rfl)) Ss0.out ?_
        refine wpAnyK_take (i := 7) (v := _) rfl (by kernel_rfl) (by kernel_rfl) (by kernel_rfl) (fun _ _ _ h => h) rfl (by kernel_rfl) (by kernel_rfl) (by decide) (yieldsIf_move (by kernel_rfl) (.tmp 0) rfl (.pointer (some ⟨q, 0, none⟩)) (by kernel_rfl)) Ss0.out ?_
        refine wpAnyK_take (i := 8) (v := _) rfl (by kernel_rfl) (by kernel_rfl) (by kernel_rfl) (fun _ _ _ h => h) rfl (by kernel_rfl) (by kernel_rfl) (by decide) (yieldsIf_nil (by kernel_rfl) (.tmp 45) rfl ⟨q, 0, none⟩ (by kernel_rfl)) Ss0.out ?_
        refine wpAnyK_take (i := 9) (v := _) rfl (by kernel_rfl) (by kernel_rfl) (by kernel_rfl) (fun _ _ _ h => h) rfl (by kernel_rfl) (by kernel_rfl) (by decide) (yieldsIf_fld (by kernel_rfl) _ (.tmp 46) 2 rfl (.pointer (some ⟨q, 0, none⟩)) (.pointer (some ⟨q, 2, none⟩)) (by kernel_rfl) (fun w => by go_simp)) Ss0.out ?_
        refine wpAnyK_take (i := 10) (v := _) rfl (by kernel_rfl) (by kernel_rfl) (by kernel_rfl) (fun _ _ _ h => h) rfl (by kernel_rfl) (by kernel_rfl) (by decide) (yieldsIf_load_one (by kernel_rfl) _ (.tmp 47) rfl q (2) (by kernel_rfl) (.slice Av nv cv) (fun _ h => h.1) _ Try.underlying38 rfl) Ss0.out ?_
        refine wpAnyK_take (i := 11) (v := _) rfl (by kernel_rfl) (by kernel_rfl) (by kernel_rfl) (fun _ _ _ h => h) rfl (by kernel_rfl) (by kernel_rfl) (by decide) (yieldsIf_move (by kernel_rfl) (.tmp 8) rfl (.int .i64 (f : Nat)) (by kernel_rfl)) Ss0.out ?_
        refine wpAnyK_take (i := 12) (v := _) rfl (by kernel_rfl) (by kernel_rfl) (by kernel_rfl) (fun _ _ _ h => h) rfl (by kernel_rfl) (by kernel_rfl) (by decide) (yieldsIf_move (by kernel_rfl) (.tmp 9) rfl (.int .i64 (h : Nat)) (by kernel_rfl)) Ss0.out ?_
        refine wpAnyK_take (i := 13) (v := _) rfl (by kernel_rfl) (by kernel_rfl) (by kernel_rfl) (fun _ _ _ h => h) rfl (by kernel_rfl) (by kernel_rfl) (by decide) (yieldsIf_slice (by kernel_rfl) _ (.tmp 48) (.tmp 49) (.tmp 50) rfl (.slice Av nv cv) (.int .i64 (f : Nat)) (.int .i64 (h : Nat)) (.slice A5 (h - f) c5) (by kernel_rfl) (by kernel_rfl) (by kernel_rfl) HSL.out) Ss0.out ?_
        refine wpAnyK_take (i := 14) (v := _) rfl (by kernel_rfl) (by kernel_rfl) (by kernel_rfl) (fun _ _ _ h => h) rfl (by kernel_rfl) (by kernel_rfl) (by decide) (yieldsIf_load_range (by kernel_rfl) _ (.tmp 7) rfl g7 0 (by kernel_rfl) [.int .i64 (p : Nat), .slice A n c] (fun _ h => h.2) 2 _ Try.underlying41 rfl size_ext (rfl : Hid (([.int .i64 (p : Nat), .slice A n c] : List Value).length = 2))) Ss0.out ?_
        refine wpAnyK_one 15 _ (by kernel_rfl) rfl fun K hK => ?_
        go_simp
        refine (CJ.out _ L6.out.drew).mono ?_
        rintro e vs1 ⟨hj, rfl, hjw, rj, l7⟩
        have Ss1 : Hid (vs1.cell? ⟨q, 2, none⟩ = some (.slice Av nv cv) ∧ vs1.rangeAt g7 0 [.int .i64 (p : Nat), .slice A n c]) := ⟨(l7.cell (lt_of_cell Ss0.out.1)).trans Ss0.out.1, range_below Ss0.out.2 l7 hg76.out⟩
        have bs1 : Hid (True) := trivial
        have L7 := Lib.hid (L6.out.drew.trans (l7.mono L6.out.drew.size))
        have K7 := Lib.hid ((Below.refl w6.heap.size w6).drew.trans l7)
        have RJ := Lib.hid rj
        have hjw' : Hid (w.heap.size ≤ hj) := Nat.le_trans L6.out.size hjw
        clear rj l7 hjw
        refine hK _ _ (fun _ => Ss1.out) ?_
        clear hK K
        refine wpAnyK_one 16 _ (by kernel_rfl) rfl fun K hK => ?_
        refine step_slice_blk rfl _ _ _ _ rfl Try.underlying38 [.int .i64 (a : Nat), .slice (some ⟨hj, 0, none⟩) N N] (by kernel_rfl) ?_
        intro gv w8 hgv hgv2 V8 l8
        have L8 := Lib.hid (L7.out.trans (l8.out.mono L7.out.size))
        have K8 := Lib.hid (K7.out.trans (l8.out.mono K7.out.size))
        have RJ8 := Lib.hid (RJ.out.over l8.out)
        have Ss2 : Hid (w8.cell? ⟨q, 2, none⟩ = some (.slice Av nv cv) ∧ w8.rangeAt g7 0 [.int .i64 (p : Nat), .slice A n c]) := ⟨(l8.out.cell (lt_of_cell Ss1.out.1)).trans Ss1.out.1, range_below Ss1.out.2 l8.out (Nat.lt_of_lt_of_le hg76.out K7.out.size)⟩
        clear l8 RJ
        have CR := Lib.hid (RPL.out w8 L8.out gv hj (Nat.le_trans L7.out.size hgv) V8.out)
        refine hK _ _ (fun _ => Ss2.out) ?_
        clear hK K
        refine wpAnyK_one 17 _ (by kernel_rfl) rfl fun K hK => ?_
        go_simp
        refine (CR.out).mono ?_
        rintro e vs3 ⟨v', rfl, o9, s9, n9⟩
        have Ss3 : Hid (vs3.cell? ⟨q, 2, none⟩ = some (.slice Av nv cv) ∧ vs3.rangeAt g7 0 [.int .i64 (p : Nat), .slice A n c]) := ⟨(spare_cell s9 (fun e => hvq.out e) (lt_of_cell Ss2.out.1)).trans Ss2.out.1, range_spare Ss2.out.2 s9 (fun e => hvg.out e) (Nat.lt_of_lt_of_le hg76.out K8.out.size)⟩
        have bs3 : Hid (True) := trivial
        have O9 := Lib.hid o9
        have S9 := Lib.hid s9
        have N9 := Lib.hid n9
        clear o9 s9 n9
        refine hK _ _ (fun _ => Ss3.out) ?_
        clear hK K
        refine wpAnyK_one 18 _ (by kernel_rfl) rfl fun K hK => ?_
        go_simp
        refine hK _ _ (fun h => Bool.noConfusion (show true = false from h)) ?_
        clear hK K
        refine wpAnyK_one 19 _ (by kernel_rfl) rfl fun K hK => ?_
        go_simp
        refine hK _ _ (fun h => Bool.noConfusion (show true = false from h)) ?_
        clear hK K
        refine wpAnyK_frame fun a1 ha1 => ?_
        have e1_57 : a1.eval (.tmp 57) = .pointer (some ⟨q, 2, none⟩) := by rw [ha1]; kernel_rfl
        have e1_55 : a1.eval (.tmp 55) = v' := by rw [ha1]; kernel_rfl
        refine wpAnyK_one 20 _ (by kernel_rfl) rfl fun K hK => ?_
        have BQ9 : Hid (Blk vs3 q 49 [.bool true, .int .i64 (L : Nat), .slice Av nv cv]) := (BQ.out.below (L8.out.mono (Nat.le_refl _)) BQ.out.lt).spare S9.out (fun e => hvq.out e)
        refine step_store_fld (by kernel_rfl) 38 (.tmp 57) (.tmp 55) (by kernel_rfl) q 2 e1_57 49 [.bool true, .int .i64 (L : Nat), .slice Av nv cv] v' e1_55 BQ9 (show 2 < 3 by omega) (by kernel_rfl) O9.out.oneC ?_
        intro w10 BQ10 P10 hq10
        refine hK _ _ (fun h => Bool.noConfusion (show true = false from h)) ?_
        clear hK K
        rw [ha1]
        refine wpAnyK_done (by kernel_rfl) ?_ _
        have hqg : Hid (g7 ≠ q) := by have := lt_of_cell q1; show _ ≠ _; have h8 : q < w.heap.size := this; omega
        have B10 := Lib.hid (((B6.out.below K8.out hg76.out).spare S9.out (fun e => hvg.out e)).only P10.out hqg.out)
        have BQ10' : Hid (Blk w10 q 49 [.bool true, .int .i64 (L : Nat), v']) := BQ10.out
        have j1 : w10.cell? ⟨q, 1, none⟩ = some (.int .i64 (L : Nat)) := BQ10'.out.cell 1
        clear Ss0 Ss1 Ss2 Ss3 K7 L7 V8 CR k2 BQ10 BQ9 B6 q2 q1
        go_upto_region 12 with fail
        refine wp_region_heldK 8 (fun w' => w'.cell? ⟨q, 1, none⟩ = some (.int .i64 (L : Nat)) ∧ w'.rangeAt g7 0 [.int .i64 (p : Nat), .slice A n c]) (by kernel_rfl) ?_
        change wpAnyK _ _ _ _ _ _ _ _ _ w10.drew
        have St0 : Hid (w10.drew.cell? ⟨q, 1, none⟩ = some (.int .i64 (L : Nat)) ∧ w10.drew.rangeAt g7 0 [.int .i64 (p : Nat), .slice A n c]) := ⟨j1, fun j v h => (B10.out.range 0) j v h⟩
        have bt0 : Hid (True) := trivial
        refine wpAnyK_take (i := 0) (v := _) rfl (by kernel_rfl) (by kernel_rfl) (by kernel_rfl) (fun _ _ _ h => h) rfl (by kernel_rfl) (by kernel_rfl) (by decide) (yieldsIf_move (by kernel_rfl) (.tmp 0) rfl (.pointer (some ⟨q, 0, none⟩)) (by kernel_rfl)) St0.out ?_
        refine wpAnyK_take (i := 1) (v := _) rfl (by kernel_rfl) (by kernel_rfl) (by kernel_rfl) (fun _ _ _ h => h) rfl (by kernel_rfl) (by kernel_rfl) (by decide) (yieldsIf_move (by kernel_rfl) (.tmp 0) rfl (.pointer (some ⟨q, 0, none⟩)) (by kernel_rfl)) St0.out ?_
        refine wpAnyK_take (i := 2) (v := _) rfl (by kernel_rfl) (by kernel_rfl) (by kernel_rfl) (fun _ _ _ h => h) rfl (by kernel_rfl) (by kernel_rfl) (by decide) (yieldsIf_nil (by kernel_rfl) (.tmp 59) rfl ⟨q, 0, none⟩ (by kernel_rfl)) St0.out ?_
        refine wpAnyK_take (i := 3) (v := _) rfl (by kernel_rfl) (by kernel_rfl) (by kernel_rfl) (fun _ _ _ h => h) rfl (by kernel_rfl) (by kernel_rfl) (by decide) (yieldsIf_fld (by kernel_rfl) _ (.tmp 60) 1 rfl (.pointer (some ⟨q, 0, none⟩)) (.pointer (some ⟨q, 1, none⟩)) (by kernel_rfl) (fun w => by go_simp)) St0.out ?_
        refine wpAnyK_take (i := 4) (v := _) rfl (by kernel_rfl) (by kernel_rfl) (by kernel_rfl) (fun _ _ _ h => h) rfl (by kernel_rfl) (by kernel_rfl) (by decide) (yieldsIf_load_one (by kernel_rfl) _ (.tmp 61) rfl q (1) (by kernel_rfl) (.int .i64 (L : Nat)) (fun _ h => h.1) _ Try.underlying3 rfl) St0.out ?_
        refine wpAnyK_take (i := 5) (v := _) rfl (by kernel_rfl) (by kernel_rfl) (by kernel_rfl) (fun _ _ _ h => h) rfl (by kernel_rfl) (by kernel_rfl) (by decide) (yieldsIf_load_range (by kernel_rfl) _ (.tmp 7) rfl g7 0 (by kernel_rfl) [.int .i64 (p : Nat), .slice A n c] (fun _ h => h.2) 2 _ Try.underlying41 rfl size_ext (rfl : Hid (([.int .i64 (p : Nat), .slice A n c] : List Value).length = 2))) St0.out ?_
        refine wpAnyK_one 6 _ (by kernel_rfl) rfl fun K hK => ?_
        go_simp
        refine (end_any _ p n c A (by omega) (by omega)).mono ?_
        rintro e vt1 ⟨rfl, l11⟩
        have St1 : Hid (vt1.cell? ⟨q, 1, none⟩ = some (.int .i64 (L : Nat)) ∧ vt1.rangeAt g7 0 [.int .i64 (p : Nat), .slice A n c]) := ⟨(l11.cell (lt_of_cell St0.out.1)).trans St0.out.1, range_below St0.out.2 l11 B10.out.lt⟩
        have bt1 : Hid (True) := trivial
        have K11 := Lib.hid ((Below.refl w10.heap.size w10).drew.trans l11)
        clear l11
        refine hK _ _ (fun _ => St1.out) ?_
        clear hK K
        refine wpAnyK_take (i := 7) (v := .int .i64 (M : Nat)) rfl (by kernel_rfl) (by kernel_rfl) (by kernel_rfl) (fun _ _ _ h => h) rfl (by kernel_rfl) (by kernel_rfl) (by decide) (.inl ⟨by kernel_rfl, fun w _ => by go_simp⟩) St1.out ?_
        refine wpAnyK_one 8 _ (by kernel_rfl) rfl fun K hK => ?_
        go_simp
        refine hK _ _ (fun h => Bool.noConfusion (show true = false from h)) ?_
        clear hK K
        refine wpAnyK_one 9 _ (by kernel_rfl) rfl fun K hK => ?_
        go_simp
        refine hK _ _ (fun h => Bool.noConfusion (show true = false from h)) ?_
        clear hK K
        refine wpAnyK_frame fun a1 ha1 => ?_
        have e1_67 : a1.eval (.tmp 67) = .pointer (some ⟨q, 1, none⟩) := by rw [ha1]; kernel_rfl
        have e1_65 : a1.eval (.tmp 65) = .int .i64 (M : Nat) := by rw [ha1]; kernel_rfl
        refine wpAnyK_one 10 _ (by kernel_rfl) rfl fun K hK => ?_
        refine step_store_fld (by kernel_rfl) 3 (.tmp 67) (.tmp 65) (by kernel_rfl) q 1 e1_67 49 [.bool true, .int .i64 (L : Nat), v'] (.int .i64 (M : Nat)) e1_65 (BQ10'.out.over K11.out) (show 1 < 3 by omega) (by kernel_rfl) rfl ?_
        intro w12 BQ12 P12 hq12
        refine hK _ _ (fun h => Bool.noConfusion (show true = false from h)) ?_
        clear hK K
        rw [ha1]
        refine wpAnyK_done (by kernel_rfl) ?_ _
        go_wp2_with fail
        go_ret
        have P1 : Spare (fun k => k = q) vs3 w12 := ((Spare.of_only P10.out).trans ((Spare.of_over (fun k => k = q) K11.out).trans (Spare.of_only P12.out) fun j _ h => h) fun j _ h => h)
        have hL8 := L8.out
        refine ⟨rfl, v', PDat.wrote (w := w) (w8 := w8) (w9 := vs3) (w12 := w12) (hj := hj) D.out HWR.out hxl (by omega) hpn HX.out.byte hb HMM.out L8.out hjw'.out ?_ ?_ S9.out N9.out P1 BQ12.out⟩
        · rw [← HXX.out]
          exact RJ8.out
        · rw [← HXX.out, ← HNN.out]
          exact O9.out
end Go.Proofs.Ytgbhnnobbciemaa
