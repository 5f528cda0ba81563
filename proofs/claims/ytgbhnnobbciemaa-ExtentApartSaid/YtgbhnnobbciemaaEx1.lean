/-
  Layer 14 (extent): the document's file as an object: Read, Cut, Write.
-/
import Derived.Test.YtgbhnnobbciemaaEx0
import Derived.Test.YtgbhnnobbciemaaSpare2
import Derived.Test.YtgbhnnobbciemaaMem
import Derived.StillTailTactics
import Derived.WalkMore
import Derived.Deep.DeepCutAuto
namespace Go.Proofs.Ytgbhnnobbciemaa
set_option maxRecDepth 100000
open Go.RowKit
set_option linter.unusedVariables false

/-- block g is the document's file, its bytes and what was written in rows that vB and vZ head, in blocks from base on -/
structure RDat (w : World) (base g : Nat) (vB vZ : Value) (B : List Int) (Z : List Bool) : Prop where
  ge : base ≤ g
  blk : Blk w g 53 [vB, vZ]
  rowB : OwnF (Value.int .u8) 5 w base vB B
  rowZ : OwnF Value.bool 4 w base vZ Z
  len : B.length = Z.length
  small : B.length ≤ 65536
  byte : Bytes B
def rdS (g : Nat) (vB vZ : Value) : Nat → Prop := fun j => j = g ∨ vB.ownBlock = some j ∨ vZ.ownBlock = some j

section
variable {w w' : World} {base base' g : Nat} {vB vZ : Value} {B : List Int} {Z : List Bool} {S : Nat → Prop}
theorem RDat.spare (h : RDat w base g vB vZ B Z) (a : Spare S w w') (hs : ∀ j, rdS g vB vZ j → ¬ S j) : RDat w' base g vB vZ B Z :=
  ⟨h.ge, h.blk.spare a (hs g (.inl rfl)), h.rowB.sparS a fun i hi => hs i (.inr (.inl hi)), h.rowZ.sparS a fun i hi => hs i (.inr (.inr hi)), h.len, h.small, h.byte⟩
theorem RDat.below (h : RDat w base g vB vZ B Z) (hb : Below w.heap.size w w') : RDat w' base g vB vZ B Z := ⟨h.ge, h.blk.over hb, h.rowB.below hb, h.rowZ.below hb, h.len, h.small, h.byte⟩
theorem RDat.set_ge (h : RDat w base g vB vZ B Z) : ∀ j, rdS g vB vZ j → base ≤ j := fun j hj => by
  rcases hj with rfl | hj | hj
  · exact h.ge
  · exact (h.rowB.block hj).1
  · exact (h.rowZ.block hj).1
theorem RDat.set_lt (h : RDat w base g vB vZ B Z) : ∀ j, rdS g vB vZ j → j < w.heap.size := fun j hj => by
  rcases hj with rfl | hj | hj
  · exact h.blk.lt
  · exact h.rowB.lt hj
  · exact h.rowZ.lt hj
theorem RDat.holds (h : RDat w base g vB vZ B Z) : ∃ A c, vB = .slice A B.length c ∧ Holds w w.heap.size A B.length c B := Own.holds (show Own w base vB B from h.rowB) h.byte (by have := h.small; omega)
end

theorem Holds.amidE {w : World} {B b off n c p N : Nat} {xs : List Int} (h : Holds w B (some ⟨b, off, none⟩) n c xs) (hN : p + N ≤ n) (h0 : 0 < N) (C : Nat) (hC : N ≤ C) : Holds w B (some ⟨b, off + p, none⟩) N C ((xs.drop p).take N) := by
  have hl := h.len
  have hf := h.fit
  have hr := h.room
  refine ⟨by simp; omega, hC, by omega, (h.byte.drop _).take _, (fun hA => by cases hA), fun _ => ?_⟩
  obtain ⟨b1, off1, e, hb, hc⟩ := h.cells (by omega)
  injection e with e
  injection e with e1 e2
  subst e1 e2
  refine ⟨b, off + p, rfl, hb, fun i hi => ?_⟩
  rw [Nat.add_assoc, hc (p + i) (by omega)]
  simp [List.getD_eq_getElem?_getD, hi]
theorem exRd_err {B : List Int} {a k : Int} (h : exRdE B.length a k ≠ 0) : exRd B a k = [] := by unfold exRd; rw [if_neg h]

set_option maxHeartbeats 2000000 in
theorem RExRead_any (w : World) (base g : Nat) (vB vZ : Value) (B : List Int) (Z : List Bool) (h : RDat w base g vB vZ B Z) (a k : Int) (ha : -9223372036854775808 ≤ a ∧ a ≤ 9223372036854775807) (hk : -9223372036854775808 ≤ k ∧ k ≤ 9223372036854775807) :
    Calls Try.prog 14 #[.pointer (some ⟨g, 0, none⟩), .int .i64 a, .int .i64 k] w fun e w' => ∃ v, e = .returned (.tuple #[v, .int .i64 (exRdE B.length a k)]) ∧ Own w' w.heap.size v (exRd B a k) ∧ Below w.heap.size w w' := by
  obtain ⟨A, c, rfl, hh⟩ := h.holds
  have hsm := h.small
  have c0 : w.cell? ⟨g, 0, none⟩ = some (.slice A B.length c) := h.blk.cell 0
  have hE : exRdE B.length a k = if a < 0 ∨ k < 0 then 2 else if k = 0 then 0 else if (B.length : Int) ≤ a then 22 else 0 := rfl
  have hO : exRd B a k = if exRdE B.length a k = 0 then (B.drop a.toNat).take k.toNat else [] := rfl
  obtain ⟨a0, a1⟩ := ha
  obtain ⟨k0, k1⟩ := hk
  obtain ⟨n, hn⟩ : ∃ n, n = B.length := ⟨_, rfl⟩
  rw [← hn] at hE hO c0 hh hsm
  rw [hO, hn, ← hn]
  have HH := Lib.hid hh
  have HN := Lib.hid hn
  clear h hh hO hn
  by_cases h1 : a < 0
  · rw [if_pos (.inl h1)] at hE
    rw [hE, if_neg (by decide)]
    clear hE
    go_enter Try.func14, Try.ntmps14
    go_wp2
    go_ret2
    exact ⟨_, rfl, Own.nil _ _, Below.refl _ _⟩
  · by_cases h2 : k < 0
    · rw [if_pos (.inr h2)] at hE
      rw [hE, if_neg (by decide)]
      clear hE
      go_enter Try.func14, Try.ntmps14
      go_wp2
      go_ret2
      exact ⟨_, rfl, Own.nil _ _, Below.refl _ _⟩
    · rw [if_neg (by omega)] at hE
      by_cases h3 : k = 0
      · subst h3
        rw [if_pos rfl] at hE
        rw [hE, if_pos rfl]
        clear hE
        have hq : (B.drop a.toNat).take (0 : Int).toNat = [] := by simp
        rw [hq]
        go_enter Try.func14, Try.ntmps14
        go_wp2
        go_ret2
        exact ⟨_, rfl, Own.nil _ _, Below.refl _ _⟩
      · rw [if_neg h3] at hE
        have hk3 : (k == 0) = false := by simpa using h3
        by_cases h4 : (n : Int) ≤ a
        · rw [if_pos h4] at hE
          rw [hE, if_neg (by decide)]
          clear hE
          go_enter Try.func14, Try.ntmps14
          go_wp2
          go_ret2
          exact ⟨_, rfl, Own.nil _ _, Below.refl _ _⟩
        · rw [if_neg h4] at hE
          rw [hE, if_pos rfl]
          clear hE
          obtain ⟨p, rfl⟩ := Int.eq_ofNat_of_zero_le (show 0 ≤ a by omega)
          obtain ⟨q, rfl⟩ := Int.eq_ofNat_of_zero_le (show 0 ≤ k by omega)
          rw [Int.toNat_natCast, Int.toNat_natCast]
          obtain ⟨b, off, rfl, hbb, hcells⟩ := HH.out.cells (by omega)
          have hfit := HH.out.fit
          obtain ⟨m, hm⟩ : ∃ m, m = min q (n - p) := ⟨_, rfl⟩
          obtain ⟨r, hr⟩ : ∃ r, r = n - p := ⟨_, rfl⟩
          obtain ⟨t, ht⟩ : ∃ t, t = p + m := ⟨_, rfl⟩
          have hsub : IntKind.i64.wrap ((n : Int) - (p : Int)) = (r : Int) := by rw [IntKind.wrap_i64]; omega
          have hmin : min (q : Int) (r : Int) = (m : Int) := by omega
          have hadd : IntKind.i64.wrap ((p : Int) + (m : Int)) = (t : Int) := by rw [IntKind.wrap_i64]; omega
          have hpt : p ≤ t := by omega
          have htc : t ≤ c := by omega
          have htm : t - p = m := by omega
          have hcp : ¬ c = p := by omega
          have hm0 : 0 < m := by omega
          have hmn : p + m ≤ n := by omega
          have hXH : Hid (∀ w2, Below w.heap.size w w2 → Holds w2 w.heap.size (some ⟨b, off + p, none⟩) m (c - p) ((B.drop p).take q)) := fun w2 hb => by
            have h1 := (HH.out.amidE (p := p) (N := m) hmn hm0 (c - p) (by omega)).below hb
            have e : (B.drop p).take m = (B.drop p).take q := by
              rw [hm]
              by_cases hq : q ≤ n - p
              · rw [Nat.min_eq_left hq]
              · rw [Nat.min_eq_right (by omega), List.take_of_length_le (by rw [List.length_drop]; have := HN.out; omega), List.take_of_length_le (by rw [List.length_drop]; have := HN.out; omega)]
            rwa [e] at h1
          have hXL : Hid (((B.drop p).take q).length ≤ 140737488355328) := by show _ ≤ _; rw [List.length_take, List.length_drop]; have := HN.out; omega
          obtain ⟨X, hX⟩ : ∃ X, X = (B.drop p).take q := ⟨_, rfl⟩
          rw [← hX] at hXH hXL ⊢
          clear hcells hm hX hr ht
          go_enter Try.func14, Try.ntmps14
          go_wp2_with fail
          go_still_tail 18, (by kernel_rfl)
          change wpList _ _ _ _ _ w.drew
          have hd : Hid (Below w.heap.size w w.drew) := (Below.refl _ _).drew
          have hds : w.drew.heap.size = w.heap.size := rfl
          have HXd := Lib.hid (hXH.out w.drew hd.out)
          go_wp2_with (first
            | (at_builtin; refine wpList_append_bytes rfl (.tmp 24) (.tmp 41) rfl w.heap.size (.slice none 0 0) [] rfl (Own.nil _ _) w.heap.size (some ⟨b, off + p, none⟩) m (c - p) X rfl HXd.out (by simpa using hXL.out) (Nat.le_of_eq hds.symm) ?_; intro v1 w1 o1 b1 g1; rw [List.nil_append] at o1)
            | fail)
          go_ret2
          exact ⟨_, rfl, o1.out, hd.out.trans b1⟩

/-! ### Cut -/
theorem padTo_snoc {α : Type} {z : α} {l : List α} {k : Nat} (h : l.length ≤ k) : padTo z l k ++ [z] = padTo z l (k + 1) := by
  unfold padTo
  rw [List.take_of_length_le h, List.take_of_length_le (by omega), List.append_assoc, ← List.replicate_succ', show k + 1 - l.length = k - l.length + 1 by omega]
theorem padTo_take {α : Type} {z : α} {l : List α} {k : Nat} (h : k ≤ l.length) : padTo z l k = l.take k := by
  unfold padTo
  rw [show k - l.length = 0 by omega, List.replicate_zero, List.append_nil]
/-- how long a slice is that lies in a cell -/
def cellLen (w : World) (g i : Nat) : Nat := match w.cell? ⟨g, i, none⟩ with | some (.slice _ n _) => n | _ => 0
theorem cellLen_of {w : World} {g i n c : Nat} {A : Option Addr} (h : w.cell? ⟨g, i, none⟩ = some (.slice A n c)) : cellLen w g i = n := by unfold cellLen; rw [h]
theorem size_bools : (Try.prog.info? 51).map (·.size) = some 1 := by kernel_rfl
theorem size_bytes : (Try.prog.info? 29).map (·.size) = some 1 := by kernel_rfl
theorem info_bool : (Try.prog.info? 4).map (fun i => (i.zero, i.size, i.bytes)) = some (some (.bool false), 1, 1) := by kernel_rfl

theorem exCut_of {α : Type} {z : α} {l : List α} {s : Nat} (h : s ≤ 65536) : exCut z l (s : Int) = padTo z l s ∧ exCutE (s : Int) = 0 := by
  have e : exCutE (s : Int) = 0 := by unfold exCutE; rw [if_neg (by omega), if_neg (by omega)]
  exact ⟨by unfold exCut; rw [if_pos e, Int.toNat_natCast], e⟩
theorem exCut_err {α : Type} {z : α} {l : List α} {s : Int} (h : exCutE s ≠ 0) : exCut z l s = l := by unfold exCut; rw [if_neg h]

set_option maxHeartbeats 4000000 in
theorem RExCut_any (w : World) (base g : Nat) (vB vZ : Value) (B : List Int) (Z : List Bool) (h : RDat w base g vB vZ B Z) (s : Int) (hs : -9223372036854775808 ≤ s ∧ s ≤ 9223372036854775807) (hbase : base ≤ w.heap.size) :
    Calls Try.prog 39 #[.pointer (some ⟨g, 0, none⟩), .int .i64 s] w fun e w' => e = .returned (.int .i64 (exCutE s)) ∧ ∃ vB' vZ', RDat w' base g vB' vZ' (exCut 0 B s) (exCut false Z s) ∧ Spare (rdS g vB vZ) w w' ∧ Wander w vB vB' ∧ Wander w vZ vZ' := by
  obtain ⟨s0, s1⟩ := hs
  by_cases h1 : s < 0
  · have hE : exCutE s = 2 := by unfold exCutE; rw [if_pos h1]
    rw [exCut_err (by rw [hE]; decide), exCut_err (by rw [hE]; decide), hE]
    go_enter Try.func39, Try.ntmps39
    go_wp2
    go_ret
    exact ⟨rfl, vB, vZ, h, Spare.refl _ _, Wander.refl _ _, Wander.refl _ _⟩
  · by_cases h2 : 65536 < s
    · have hE : exCutE s = 3 := by unfold exCutE; rw [if_neg h1, if_pos h2]
      rw [exCut_err (by rw [hE]; decide), exCut_err (by rw [hE]; decide), hE]
      go_enter Try.func39, Try.ntmps39
      go_wp2
      go_ret
      exact ⟨rfl, vB, vZ, h, Spare.refl _ _, Wander.refl _ _, Wander.refl _ _⟩
    · obtain ⟨t, rfl⟩ := Int.eq_ofNat_of_zero_le (show 0 ≤ s by omega)
      have ht : t ≤ 65536 := by omega
      rw [(exCut_of (z := (0 : Int)) (l := B) ht).2, (exCut_of ht).1, (exCut_of ht).1]
      obtain ⟨AB, n, cB, rfl, hBl, hBf, _, _, _⟩ := h.rowB.open
      obtain ⟨AZ, nZ, cZ, rfl, hZl, hZf, _, _, _⟩ := h.rowZ.open
      obtain rfl : n = nZ := by have := h.len; omega
      obtain ⟨m, hm⟩ : ∃ m, m = min n t := ⟨_, rfl⟩
      have hmin : min (n : Int) (t : Int) = (m : Int) := by omega
      have hmn : m ≤ n := by omega
      have hmt : m ≤ t := by omega
      have hmB : m ≤ cB := by omega
      have hmZ : m ≤ cZ := by omega
      have c0 : w.cell? ⟨g, 0, none⟩ = some (.slice AB n cB) := h.blk.cell 0
      have c1 : w.cell? ⟨g, 1, none⟩ = some (.slice AZ n cZ) := h.blk.cell 1
      have hgb := h.ge
      have HR := Lib.hid h
      have HBL := Lib.hid hBl
      have HZL := Lib.hid hZl
      have HM : Hid (m < t → n ≤ m) := by show _ → _; omega
      have hnsm : n ≤ 65536 := by have := h.small; omega
      clear h hBl hZl hm
      go_enter Try.func39, Try.ntmps39
      go_wp2_with fail
      go_still_tail 15, (by kernel_rfl)
      change wpList _ _ _ _ _ w.drew
      have B0 := HR.out.blk
      go_wp2_with (first
        | ((with_reducible show wpList _ _ _ (⟨none, .store _ (.tmp 23) _, _, _, _, _⟩ :: _) _ _); refine wpList_store_fld rfl _ (.tmp 23) (.tmp 21) rfl g 0 rfl _ [.slice AB n cB, .slice AZ n cZ] (.slice AB m cB) rfl (show Hid (Blk w.drew g _ _) from B0) (by decide : 0 < 2) size_bytes rfl ?_; intro w1 X1 O1 hg1)
        | fail)
      have X1' : Hid (Blk w1 g 53 [.slice AB m cB, .slice AZ n cZ]) := X1
      have k0 : w1.cell? ⟨g, 0, none⟩ = some (.slice AB m cB) := X1'.out.cell 0
      have k1 : w1.cell? ⟨g, 1, none⟩ = some (.slice AZ n cZ) := X1'.out.cell 1
      have fB := HR.out.rowB.offBlk HR.out.blk (by decide)
      have fZ := HR.out.rowZ.offBlk HR.out.blk (by decide)
      have O1' : Only g w w1 := ⟨O1.out.os, O1.out.tape, O1.out.output, O1.out.size, O1.out.rest⟩
      have RB1 := Lib.hid (HR.out.rowB.sparS (Spare.of_only O1') (fun i hi hj => fB (by rw [hi, hj])))
      have RZ1 := Lib.hid (HR.out.rowZ.sparS (Spare.of_only O1') (fun i hi hj => fZ (by rw [hi, hj])))
      have S1 := Lib.hid (Spare.of_only O1')
      clear X1 O1 c0 c1
      go_still_tail 13, (by kernel_rfl)
      change wpList _ _ _ _ _ w1.drew
      go_wp2_with (first
        | ((with_reducible show wpList _ _ _ (⟨none, .store _ (.tmp 36) _, _, _, _, _⟩ :: _) _ _); refine wpList_store_fld rfl _ (.tmp 36) (.tmp 34) rfl g 1 rfl _ [.slice AB m cB, .slice AZ n cZ] (.slice AZ m cZ) rfl (show Hid (Blk w1.drew g _ _) from X1'.out) (by decide : 1 < 2) size_bools rfl ?_; intro w2 X2 O2 hg2)
        | fail)
      have X2' : Hid (Blk w2 g 53 [.slice AB m cB, .slice AZ m cZ]) := X2
      have O2' : Only g w1 w2 := ⟨O2.out.os, O2.out.tape, O2.out.output, O2.out.size, O2.out.rest⟩
      have RB2 := Lib.hid ((RB1.out.sparS (Spare.of_only O2') (fun i hi hj => fB (by rw [hi, hj]))).cutTo hmn)
      have RZ2 := Lib.hid ((RZ1.out.sparS (Spare.of_only O2') (fun i hi hj => fZ (by rw [hi, hj]))).cutTo hmn)
      have S2 : Hid (Spare (rdS g (.slice AB n cB) (.slice AZ n cZ)) w w2) := (S1.out.trans (Spare.of_only O2') (fun _ _ h => h)).mono (fun j _ h => .inl h)
      have W2B : Hid (Wander w (.slice AB n cB) (.slice AB m cB)) := Wander.cut w
      have W2Z : Hid (Wander w (.slice AZ n cZ) (.slice AZ m cZ)) := Wander.cut w
      have hs2 : base ≤ w2.heap.size := by have := S2.out.size; omega
      clear X1' O1' RB1 RZ1 S1 X2 O2 O2' k0 k1
      go_loopw [41] (fun _ wr => ∃ (m' cB' cZ' : Nat) (AB' AZ' : Option Addr), m' ≤ t ∧ base ≤ wr.heap.size ∧ Hid (m' < t → n ≤ m') ∧ Hid (Blk wr g 53 [.slice AB' m' cB', .slice AZ' m' cZ']) ∧ Hid (OwnF (Value.int .u8) 5 wr base (.slice AB' m' cB') (padTo 0 B m')) ∧ Hid (OwnF Value.bool 4 wr base (.slice AZ' m' cZ') (padTo false Z m')) ∧ Hid (Spare (rdS g (.slice AB n cB) (.slice AZ n cZ)) w wr) ∧ Hid (Wander w (.slice AB n cB) (.slice AB' m' cB')) ∧ Hid (Wander w (.slice AZ n cZ) (.slice AZ' m' cZ'))) (fun _ wr => t - cellLen wr g 0)
      case atStart => exact ⟨m, cB, cZ, AB, AZ, hmt, hs2, HM, X2', by rw [padTo_take (by rw [HBL.out]; exact hmn)]; exact RB2, by rw [padTo_take (by rw [HZL.out]; exact hmn)]; exact RZ2, S2, W2B, W2Z⟩
      case round =>
        clear RB2 RZ2 S2 W2B W2Z X2' HM hs2 hmin hmn hmt hmB hmZ
        obtain ⟨m', cB', cZ', AB', AZ', hmt, hbs, HM, X2, RB2, RZ2, S2, W2B, W2Z⟩ := hrel
        have k0 : wr.cell? ⟨g, 0, none⟩ = some (.slice AB' m' cB') := X2.out.cell 0
        have k1 : wr.cell? ⟨g, 1, none⟩ = some (.slice AZ' m' cZ') := X2.out.cell 1
        by_cases hlt : m' < t
        · have hnm := HM.out hlt
          have fB2 := Lib.hid (RB2.out.offBlk X2.out (by decide))
          have fZ2 := Lib.hid (RZ2.out.offBlk X2.out (by decide))
          have uZB := Lib.hid (RZ2.out.unlike RB2.out (by decide))
          have HLB : Hid (((padTo 0 B m').length + 1) * 1 ≤ 140737488355328 ∧ (padTo 0 B m').length + 1 ≤ 9223372036854775807) := by show _ ∧ _; rw [padTo_len]; omega
          have HLZ : Hid (((padTo false Z m').length + 1) * 1 ≤ 140737488355328 ∧ (padTo false Z m').length + 1 ≤ 9223372036854775807) := by show _ ∧ _; rw [padTo_len]; omega
          have HPB : Hid (padTo 0 B m' ++ [0] = padTo 0 B (m' + 1)) := padTo_snoc (by rw [HBL.out]; exact hnm)
          have HPZ : Hid (padTo false Z m' ++ [false] = padTo false Z (m' + 1)) := padTo_snoc (by rw [HZL.out]; exact hnm)
          clear hnm
          go_wp2_with (first
            | (at_builtin; refine wpList_append_litF rfl (.tmp 48) (.tmp 49) (Value.int .u8) (fun _ => rfl) (.int .u8 0) rfl 29 5 1 Try.underlying29 info_u8 rfl base (.slice AB' m' cB') (padTo 0 B m') [0] _ rfl 1 1 rfl rfl rfl RB2.out HLB.out.1 HLB.out.2 hbs ?_; intro v3 w3 o3 g3 n3; rw [HPB.out] at o3; have B3 := Lib.hid (X2.out.spare (Spare.of_grew g3.out) fB2.out); have RZ3 := Lib.hid (RZ2.out.sparS (Spare.of_grew g3.out) uZB.out); have s3 := Lib.hid (Spare.of_grew g3.out); obtain ⟨A3, m3, c3, rfl, hl3, _⟩ := o3.out.open; rw [padTo_len] at hl3; obtain rfl : m3 = m' + 1 := hl3.symm; have f3 := Lib.hid (o3.out.offBlk B3.out (by decide)); have fZ3 := Lib.hid (RZ3.out.offBlk B3.out (by decide)); have uZ3 := Lib.hid (RZ3.out.unlike o3.out (by decide)); have uB3 := Lib.hid (o3.out.unlike RZ3.out (by decide)))
            | ((with_reducible show wpList _ _ _ (⟨none, .store _ (.tmp 52) _, _, _, _, _⟩ :: _) _ _); refine wpList_store_fld rfl _ (.tmp 52) (.tmp 50) rfl g 0 rfl _ [.slice AB' m' cB', .slice AZ' m' cZ'] (.slice A3 (m' + 1) c3) rfl B3 (by decide : 0 < 2) size_bytes rfl ?_; intro w4 X4 O4 hg4; have X4' : Hid (Blk w4 g 53 [.slice A3 (m' + 1) c3, .slice AZ' m' cZ']) := X4; have k4 : w4.cell? ⟨g, 1, none⟩ = some (.slice AZ' m' cZ') := X4'.out.cell 1; have RB4 := Lib.hid (o3.out.sparS (Spare.of_only O4.out) (fun i hi hj => f3.out (by rw [hi, hj]))); have RZ4 := Lib.hid (RZ3.out.sparS (Spare.of_only O4.out) (fun i hi hj => fZ3.out (by rw [hi, hj]))); have s4 := Lib.hid ((s3.out.mono (S' := fun j => j = g ∨ (Value.slice AB' m' cB').ownBlock = some j) (fun _ _ h => .inr h)).trans (Spare.of_only O4.out) (fun _ _ h => .inl h)); have hb4 : base ≤ w4.heap.size := (by have := s4.out.size; omega); have f4 := Lib.hid (RB4.out.offBlk X4'.out (by decide)); have fZ4 := Lib.hid (RZ4.out.offBlk X4'.out (by decide)); have uB4 := Lib.hid (RB4.out.unlike RZ4.out (by decide)))
            | (at_builtin; refine wpList_append_litF rfl (.tmp 57) (.tmp 58) Value.bool (fun _ => rfl) (.bool false) rfl 51 4 1 Try.underlying51 info_bool rfl base (.slice AZ' m' cZ') (padTo false Z m') [false] _ rfl 1 1 rfl rfl rfl RZ4.out HLZ.out.1 HLZ.out.2 hb4 ?_; intro v5 w5 o5 g5 n5; rw [HPZ.out] at o5; have X5 := Lib.hid (X4'.out.spare (Spare.of_grew g5.out) fZ4.out); have RB5 := Lib.hid (RB4.out.sparS (Spare.of_grew g5.out) uB4.out); have s5 := Lib.hid (Spare.of_grew g5.out); obtain ⟨A5, m5, c5, rfl, hl5, _⟩ := o5.out.open; rw [padTo_len] at hl5; obtain rfl : m5 = m' + 1 := hl5.symm; have f5 := Lib.hid (RB5.out.offBlk X5.out (by decide)); have fZ5 := Lib.hid (o5.out.offBlk X5.out (by decide)))
            | ((with_reducible show wpList _ _ _ (⟨none, .store _ (.tmp 61) _, _, _, _, _⟩ :: _) _ _); refine wpList_store_fld rfl _ (.tmp 61) (.tmp 59) rfl g 1 rfl _ [.slice A3 (m' + 1) c3, .slice AZ' m' cZ'] (.slice A5 (m' + 1) c5) rfl X5 (by decide : 1 < 2) size_bools rfl ?_; intro w6 X6 O6 hg6)
            | fail)
          have X6' : Hid (Blk w6 g 53 [.slice A3 (m' + 1) c3, .slice A5 (m' + 1) c5]) := X6
          have RB6 := Lib.hid (RB5.out.sparS (Spare.of_only O6.out) (fun i hi hj => f5.out (by rw [hi, hj])))
          have RZ6 := Lib.hid (o5.out.sparS (Spare.of_only O6.out) (fun i hi hj => fZ5.out (by rw [hi, hj])))
          have sr : Hid (Spare (fun j => j = g ∨ (Value.slice AB' m' cB').ownBlock = some j ∨ (Value.slice AZ' m' cZ').ownBlock = some j) wr w6) :=
            ((((s4.out.mono (fun j _ h => h.elim .inl fun h => .inr (.inl h))).trans s5.out (fun j _ h => .inr (.inr h))).trans (Spare.of_only O6.out) (fun j _ h => .inl h)))
          have S6 : Hid (Spare (rdS g (.slice AB n cB) (.slice AZ n cZ)) w w6) := S2.out.trans sr.out (fun j hj h => by
            rcases h with h | h | h
            · exact .inl h
            · rcases W2B.out j h with h | h
              · exact .inr (.inl h)
              · omega
            · rcases W2Z.out j h with h | h
              · exact .inr (.inr h)
              · omega)
          have hws := S2.out.size
          have hs4 := s3.out.size
          have W6B : Hid (Wander w (.slice AB n cB) (.slice A3 (m' + 1) c3)) := W2B.out.trans (Wander.of_whither n3.out) hws
          have W6Z : Hid (Wander w (.slice AZ n cZ) (.slice A5 (m' + 1) c5)) := W2Z.out.trans (Wander.of_whither n5.out) (by have := s4.out.size; omega)
          have hb6 : base ≤ w6.heap.size := by have := sr.out.size; omega
          have HM6 : Hid (m' + 1 < t → n ≤ m' + 1) := fun _ => by have := HM.out hlt; omega
          have k6 : cellLen w6 g 0 = m' + 1 := cellLen_of (X6'.out.cell 0)
          have kr : cellLen wr g 0 = m' := cellLen_of k0
          go_roundw
          case rel => exact ⟨m' + 1, c3, c5, A3, A5, hlt, hb6, HM6, X6', RB6, RZ6, S6, W6B, W6Z⟩
          case measure => rw [k6, kr]; omega
        · obtain rfl : m' = t := by omega
          have HD : RDat wr base g (.slice AB' m' cB') (.slice AZ' m' cZ') (padTo 0 B m') (padTo false Z m') :=
            ⟨hgb, X2.out, RB2.out, RZ2.out, by rw [padTo_len, padTo_len], by rw [padTo_len]; exact ht, padTo_bytes HR.out.byte _⟩
          have HD' := Lib.hid HD
          clear HD
          go_wp2_with fail
          go_ret
          exact ⟨rfl, _, _, HD'.out, S2.out, W2B.out, W2Z.out⟩
end Go.Proofs.Ytgbhnnobbciemaa
