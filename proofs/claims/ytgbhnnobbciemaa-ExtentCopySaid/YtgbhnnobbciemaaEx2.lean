/-
  Layer 14 (extent): the document's Write.
-/
import Derived.Test.YtgbhnnobbciemaaEx1
namespace Go.Proofs.Ytgbhnnobbciemaa
set_option maxRecDepth 100000
open Go.RowKit
set_option linter.unusedVariables false

/-- the row behind k of the rounds of a Write -/
def wrPart {α : Type} (l : List α) (p : Nat) (ys : List α) (k : Nat) : List α := l.take p ++ (ys.take k ++ l.drop (p + k))
theorem wrPart_len {α : Type} {l ys : List α} {p k : Nat} (h : p + ys.length ≤ l.length) (hk : k ≤ ys.length) : (wrPart l p ys k).length = l.length := by
  unfold wrPart
  rw [List.length_append, List.length_append, List.length_take, List.length_take, List.length_drop]
  omega
theorem wrPart_zero {α : Type} (l : List α) (p : Nat) (ys : List α) : wrPart l p ys 0 = l := by simp [wrPart]
theorem wrPart_set {α : Type} {l ys : List α} {p k : Nat} (h : p + ys.length ≤ l.length) (hk : k < ys.length) (u : α) (hu : ys[k]? = some u) : (wrPart l p ys k).set (p + k) u = wrPart l p ys (k + 1) := by
  unfold wrPart
  have h1 : (l.take p).length = p := by rw [List.length_take]; omega
  have h2 : (ys.take k).length = k := by rw [List.length_take]; omega
  have h3 : l.drop (p + k) = l[p + k]'(by omega) :: l.drop (p + k + 1) := List.drop_eq_getElem_cons (by omega)
  obtain ⟨_, hu⟩ := List.getElem?_eq_some_iff.1 hu
  rw [List.set_append_right _ _ (by omega), h1, Nat.add_sub_cancel_left, List.set_append_right _ _ (by omega), h2, Nat.sub_self, h3, List.set_cons_zero, List.take_succ_eq_append_getElem hk, hu, List.append_assoc, ← Nat.add_assoc]
  rfl
theorem padTo_max {α : Type} {z : α} {l : List α} {t : Nat} : (padTo z l (max l.length t)).drop t = l.drop t := by
  by_cases h : t ≤ l.length
  · rw [Nat.max_eq_left h, padTo_self]
  · rw [Nat.max_eq_right (by omega), List.drop_of_length_le (by rw [padTo_len]; exact Nat.le_refl _), List.drop_of_length_le (by omega)]
theorem wrPart_full {α : Type} {z : α} {l ys : List α} {p : Nat} : wrPart (padTo z l (max l.length (p + ys.length))) p ys ys.length = layAt z l p ys := by
  unfold wrPart layAt
  rw [List.take_length, padTo_max, List.append_assoc]
theorem exWr_err {α : Type} {z : α} {l ys : List α} {a : Int} (h : exWrE a ys.length ≠ 0 ∨ ys = []) : exWr z l a ys = l := by
  unfold exWr
  rw [if_neg]
  rintro ⟨h1, h2⟩
  rcases h with h | h
  · exact h h1
  · exact h2 h
theorem exWr_of {α : Type} {z : α} {l ys : List α} {p : Nat} (h0 : 0 < ys.length) (h : p + ys.length ≤ 65536) : exWr z l (p : Int) ys = layAt z l p ys ∧ exWrE (p : Int) ys.length = 0 := by
  have e : exWrE (p : Int) ys.length = 0 := by unfold exWrE; rw [if_neg (by omega), if_neg (by omega), if_neg (by omega)]
  unfold exWr
  rw [if_pos ⟨e, List.length_pos_iff.1 h0⟩, Int.toNat_natCast]
  exact ⟨rfl, e⟩

/-- what Write answers -/
def RWrPost (w : World) (base g : Nat) (vB vZ : Value) (B : List Int) (Z : List Bool) (a : Int) (xs : List Int) (e : Ending) (w' : World) : Prop :=
  e = .returned (.int .i64 (exWrE a xs.length)) ∧ ∃ vB' vZ', RDat w' base g vB' vZ' (exWr 0 B a xs) (exWr false Z a (List.replicate xs.length true)) ∧ Spare (rdS g vB vZ) w w' ∧ Wander w vB vB' ∧ Wander w vZ vZ'

set_option maxHeartbeats 4000000 in
theorem RExWrite_any (w : World) (base g : Nat) (vB vZ : Value) (B : List Int) (Z : List Bool) (h : RDat w base g vB vZ B Z) (a : Int) (ha : -9223372036854775808 ≤ a ∧ a ≤ 9223372036854775807) (hbase : base ≤ w.heap.size)
    (A : Option Addr) (n c : Nat) (xs : List Int) (hx : Holds w base A n c xs) :
    Calls Try.prog 38 #[.pointer (some ⟨g, 0, none⟩), .int .i64 a, .slice A n c] w (RWrPost w base g vB vZ B Z a xs) := by
  obtain ⟨a0, a1⟩ := ha
  have hxl := hx.len
  have hxr := hx.room
  have HQ0 : Hid (∀ E e w', exWrE a n = E → (E ≠ 0 ∨ n = 0) → e = .returned (.int .i64 E) → w = w' → RWrPost w base g vB vZ B Z a xs e w') := by
    intro E e w' h1 h2 h3 h4
    unfold RWrPost
    subst h4
    have e1 : exWr 0 B a xs = B := exWr_err (by rw [hxl, h1]; exact h2.elim .inl fun h2 => .inr (List.eq_nil_of_length_eq_zero (by omega)))
    have e2 : exWr false Z a (List.replicate xs.length true) = Z := exWr_err (by rw [List.length_replicate, hxl, h1]; exact h2.elim .inl fun h2 => .inr (by rw [h2]; rfl))
    rw [e1, e2, hxl, h1]
    exact ⟨h3, vB, vZ, h, Spare.refl _ _, Wander.refl _ _, Wander.refl _ _⟩
  by_cases h1 : a < 0
  · have hE : exWrE a n = 2 := by unfold exWrE; rw [if_pos h1]
    have HQ1 := Lib.hid (fun e w' => HQ0.out 2 e w' hE (.inl (by decide)))
    clear hE HQ0 h hx hxl
    go_enter Try.func38, Try.ntmps38
    go_wp2
    go_ret
    exact HQ1.out _ _ rfl rfl
  · by_cases h2 : n = 0
    · subst h2
      have hE : exWrE a 0 = 0 := by unfold exWrE; rw [if_neg h1, if_pos rfl]
      have HQ1 := Lib.hid (fun e w' => HQ0.out 0 e w' hE (.inr rfl))
      clear hE HQ0 h hx hxl
      go_enter Try.func38, Try.ntmps38
      go_wp2
      go_ret
      exact HQ1.out _ _ rfl rfl
    · have hn0 : ((n : Int) == 0) = false := by simpa using h2
      by_cases h3 : 65536 < a + n
      · have hE : exWrE a n = 3 := by unfold exWrE; rw [if_neg h1, if_neg h2, if_pos h3]
        have HQ1 := Lib.hid (fun e w' => HQ0.out 3 e w' hE (.inl (by decide)))
        clear hE HQ0 h hx hxl
        by_cases h4 : 65536 < a
        · go_enter Try.func38, Try.ntmps38
          go_wp2
          go_ret
          exact HQ1.out _ _ rfl rfl
        · go_enter Try.func38, Try.ntmps38
          go_wp2
          go_ret
          exact HQ1.out _ _ rfl rfl
      · obtain ⟨p, rfl⟩ := Int.eq_ofNat_of_zero_le (show 0 ≤ a by omega)
        obtain ⟨t, ht⟩ : ∃ t, t = p + n := ⟨_, rfl⟩
        have hn6 : n ≤ 65536 := by omega
        have hp6 : decide ((65536 : Int) < (p : Int)) = false := by rw [decide_eq_false_iff_not]; omega
        have ht6 : t ≤ 65536 := by omega
        have hpt : p < t := by omega
        have HQ1 : Hid (∀ e w' vB' vZ', e = .returned (.int .i64 0) → RDat w' base g vB' vZ' (layAt 0 B p xs) (layAt false Z p (List.replicate n true)) → Spare (rdS g vB vZ) w w' → Wander w vB vB' → Wander w vZ vZ' → RWrPost w base g vB vZ B Z (p : Int) xs e w') := by
          intro e w' vB' vZ' h1 h2 h3 h4 h5
          unfold RWrPost
          have e1 := exWr_of (z := (0 : Int)) (l := B) (ys := xs) (p := p) (by omega) (by omega)
          have e2 := exWr_of (z := false) (l := Z) (ys := List.replicate n true) (p := p) (by rw [List.length_replicate]; omega) (by rw [List.length_replicate]; omega)
          rw [e1.1, e1.2, hxl, e2.1]
          exact ⟨h1, vB', vZ', h2, h3, h4, h5⟩
        obtain ⟨AB, nB, cB, rfl, hBl, hBf, _, _, _⟩ := h.rowB.open
        have c0 : w.cell? ⟨g, 0, none⟩ = some (.slice AB nB cB) := h.blk.cell 0
        have cc := RExCut_any w base g (.slice AB nB cB) vZ B Z h (t : Int) (by omega) hbase
        rw [(exCut_of (z := (0 : Int)) (l := B) ht6).2, (exCut_of ht6).1, (exCut_of ht6).1, show ((t : Nat) : Int) = (p : Int) + (n : Int) by omega] at cc
        have CC := Lib.hid cc
        have HR := Lib.hid h
        have HX := Lib.hid hx
        have HXL := Lib.hid hxl
        have HBL := Lib.hid hBl
        have HZL := Lib.hid h.len
        have hgb := h.ge
        have HMB : Hid (nB < t → padTo (0 : Int) B (max B.length t) = padTo 0 B t ∧ padTo false Z (max Z.length t) = padTo false Z t) := fun hh => by
          have h1 := h.len
          rw [Nat.max_eq_right (by omega), Nat.max_eq_right (by omega)]
          exact ⟨rfl, rfl⟩
        have HMC : Hid (¬ nB < t → padTo (0 : Int) B (max B.length t) = B ∧ padTo false Z (max Z.length t) = Z) := fun hh => by
          have h1 := h.len
          rw [Nat.max_eq_left (by omega), Nat.max_eq_left (by omega), padTo_self, padTo_self]
          exact ⟨rfl, rfl⟩
        clear h hx hxl hBl HQ0 cc
        go_enter Try.func38, Try.ntmps38
        go_upto_if 31 with fail
        go_cut [32] (fun _ wx => ∃ vB1 vZ1, Hid (RDat wx base g vB1 vZ1 (padTo 0 B (max B.length t)) (padTo false Z (max Z.length t))) ∧ Hid (Spare (rdS g (.slice AB nB cB) vZ) w wx) ∧ Hid (Wander w (.slice AB nB cB) vB1) ∧ Hid (Wander w vZ vZ1))
        case first =>
          by_cases hlt : nB < t
          · have hlt' : (nB : Int) < (p : Int) + (n : Int) := by omega
            go_wp2_with fail
            refine CC.out.mono ?_
            rintro e w1 ⟨rfl, vB1, vZ1, r1, s1, n1, m1⟩
            obtain ⟨e1, e2⟩ := HMB.out hlt
            have R1 : Hid (RDat w1 base g vB1 vZ1 (padTo 0 B (max B.length t)) (padTo false Z (max Z.length t))) := by rw [e1, e2]; exact r1
            have S1 := Lib.hid s1
            have N1 := Lib.hid n1
            have M1 := Lib.hid m1
            clear e1 e2 r1 s1 n1 m1
            go_wp2_with fail
            go_meet
            exact ⟨vB1, vZ1, R1, S1, N1, M1⟩
          · have hlt' : ¬ (nB : Int) < (p : Int) + (n : Int) := by omega
            obtain ⟨e1, e2⟩ := HMC.out hlt
            have R1 : Hid (RDat w base g (.slice AB nB cB) vZ (padTo 0 B (max B.length t)) (padTo false Z (max Z.length t))) := by rw [e1, e2]; exact HR
            clear e1 e2
            go_wp2_with fail
            go_meet
            exact ⟨_, _, R1, Spare.refl _ _, Wander.refl _ _, Wander.refl _ _⟩
        case rest =>
          obtain ⟨vB1, vZ1, R1, S1, N1, M1⟩ := hcut
          clear HMB HMC CC c0
          go_wp2_with fail
          have hl1 : (padTo (0 : Int) B (max B.length t)).length = max B.length t := padTo_len
          have hl2 : (padTo false Z (max Z.length t)).length = max Z.length t := padTo_len
          have hf1 : wrPart (padTo (0 : Int) B (max B.length (p + xs.length))) p xs xs.length = layAt 0 B p xs := wrPart_full
          have hf2 : wrPart (padTo false Z (max Z.length (p + (List.replicate n true).length))) p (List.replicate n true) (List.replicate n true).length = layAt false Z p (List.replicate n true) := wrPart_full
          rw [HXL.out, ← ht] at hf1
          rw [List.length_replicate, ← ht] at hf2
          have hZB := HZL.out
          obtain ⟨N, hN⟩ : ∃ N, N = max B.length t := ⟨_, rfl⟩
          rw [← hZB, ← hN] at hf2 hl2
          rw [← hN] at hf1 hl1
          have r1 := R1.out
          rw [← hZB, ← hN] at r1
          obtain ⟨B1, hB1⟩ : ∃ X, X = padTo (0 : Int) B N := ⟨_, rfl⟩
          obtain ⟨Z1, hZ1⟩ : ∃ X, X = padTo false Z N := ⟨_, rfl⟩
          rw [← hB1] at hf1 hl1 r1
          rw [← hZ1] at hf2 hl2 r1
          have htN : t ≤ N := by omega
          obtain ⟨AB1, n2, cB1, rfl, hBl1, hBf1, _, _, hBc⟩ := r1.rowB.open
          obtain ⟨AZ1, n3, cZ1, rfl, hZl1, hZf1, _, _, hZc⟩ := r1.rowZ.open
          obtain rfl : N = n2 := by omega
          obtain rfl : N = n3 := by omega
          obtain ⟨qb, rfl, _, _, _⟩ := hBc (by omega)
          obtain ⟨qz, rfl, _, _, _⟩ := hZc (by omega)
          obtain ⟨b, off, rfl, hbb, hxc⟩ := HX.out.cells (by omega)
          have HF1 := Lib.hid hf1
          have HF2 := Lib.hid hf2
          have HR1 := Lib.hid r1
          have HBL1 := Lib.hid hl1
          have HZL1 := Lib.hid hl2
          have HXC := Lib.hid hxc
          have HGE := Lib.hid HR.out.set_ge
          have HRB := Lib.hid r1.rowB
          have HRZ := Lib.hid r1.rowZ
          have HRX : Hid (Blk wc g 53 [.slice (some ⟨qb, 0, none⟩) N cB1, .slice (some ⟨qz, 0, none⟩) N cZ1]) := r1.blk
          have hqb : qb ≠ g := fun h => r1.rowB.offBlk r1.blk (by decide) (by rw [h]; rfl)
          have hqz : qz ≠ g := fun h => r1.rowZ.offBlk r1.blk (by decide) (by rw [h]; rfl)
          have hqq : qz ≠ qb := fun h => r1.rowZ.unlike r1.rowB (by decide) qz rfl (by rw [h]; rfl)
          have hbz : base ≤ qb ∧ base ≤ qz := ⟨(r1.rowB.block rfl).1, (r1.rowZ.block rfl).1⟩
          have hlen : Hid (Bytes B1) := r1.byte
          have hNs : N ≤ 65536 := by have := r1.small; omega
          clear hf1 hf2 r1 hl1 hl2 hBc hZc hxc hBl1 hZl1 hB1 hZ1 hN hZB R1
          go_loopw [7] (fun i wr => ∃ k : Nat, k ≤ n ∧ i = .int .i64 k ∧ Hid (OwnF (Value.int .u8) 5 wr base (.slice (some ⟨qb, 0, none⟩) N cB1) (wrPart B1 p xs k)) ∧ Hid (OwnF Value.bool 4 wr base (.slice (some ⟨qz, 0, none⟩) N cZ1) (wrPart Z1 p (List.replicate n true) k)) ∧ Hid (Blk wr g 53 [.slice (some ⟨qb, 0, none⟩) N cB1, .slice (some ⟨qz, 0, none⟩) N cZ1]) ∧ Hid (Spare (rdS g (.slice AB nB cB) vZ) w wr)) (fun i _ => n - (intOf i).toNat)
          case atStart => exact ⟨0, Nat.zero_le _, rfl, by rw [wrPart_zero]; exact HRB, by rw [wrPart_zero]; exact HRZ, HRX, S1⟩
          case round =>
            clear HRB HRZ HRX S1
            obtain ⟨k, hk, rfl, HRB, HRZ, HRX, S1⟩ := hrel
            by_cases hlt : k < n
            · have hbw := S1.out.below HGE.out hbase
              have hcx := hbw.cell (p := ⟨b, off + k, none⟩) hbb
              rw [HXC.out k hlt] at hcx
              have k0 : wr.cell? ⟨g, 0, none⟩ = some (.slice (some ⟨qb, 0, none⟩) N cB1) := HRX.out.cell 0
              have hxk : xs[k]? = some (xs.getD k 0) := by
                rw [List.getD_eq_getElem?_getD, List.getElem?_eq_getElem (show k < xs.length by rw [HXL.out]; exact hlt)]
                rfl
              have hxk2 : (List.replicate n true)[k]? = some true := by rw [List.getElem?_replicate, if_pos hlt]
              obtain ⟨x, hx⟩ : ∃ x, x = xs.getD k 0 := ⟨_, rfl⟩
              rw [← hx] at hcx hxk
              obtain ⟨s, hs⟩ : ∃ s, s = p + k := ⟨_, rfl⟩
              have hw : IntKind.i64.wrap ((p : Int) + (k : Int)) = (s : Int) := by rw [IntKind.wrap_i64]; omega
              have hsN : s < N := by omega
              have e1 : (wrPart B1 p xs k).set s x = wrPart B1 p xs (k + 1) := by
                rw [hs]
                exact wrPart_set (by rw [HXL.out, HBL1.out]; omega) (by rw [HXL.out]; exact hlt) x hxk
              have e2 : (wrPart Z1 p (List.replicate n true) k).set s true = wrPart Z1 p (List.replicate n true) (k + 1) := by
                rw [hs]
                exact wrPart_set (by rw [List.length_replicate, HZL1.out]; omega) (by rw [List.length_replicate]; exact hlt) true hxk2
              have E1 := Lib.hid e1
              have E2 := Lib.hid e2
              clear hbw hx hxk hxk2 e1 e2 hs ht
              go_wp2_with fail
              go_still_tail 12, (by kernel_rfl)
              change wpList _ _ _ _ _ wr.drew
              have D1 : Hid (OwnF (Value.int .u8) 5 wr.drew base (.slice (some ⟨qb, 0, none⟩) N cB1) (wrPart B1 p xs k)) := HRB
              go_wp2_with (first
                | ((with_reducible show wpList _ _ _ (⟨none, .store _ (.tmp 55) _, _, _, _, _⟩ :: _) _ _); refine wpList_store_rowF rfl _ (.tmp 55) (.tmp 54) rfl qb s N cB1 base 5 rfl (Value.int .u8) (wrPart B1 p xs k) x rfl D1.out hsN (by kernel_rfl) rfl ?_; intro w3 o3 O3; rw [E1.out] at o3; have k3 : w3.cell? ⟨g, 1, none⟩ = some (.slice (some ⟨qz, 0, none⟩) N cZ1) := ((HRX.out.only (g' := qb) (w' := w3) ⟨O3.out.os, O3.out.tape, O3.out.output, O3.out.size, O3.out.rest⟩ (Ne.symm hqb)).cell 1); have O3' : Hid (Only qb wr w3) := ⟨O3.out.os, O3.out.tape, O3.out.output, O3.out.size, O3.out.rest⟩; have HRZ3 : Hid (OwnF Value.bool 4 w3 base (.slice (some ⟨qz, 0, none⟩) N cZ1) (wrPart Z1 p (List.replicate n true) k)) := HRZ.out.sparS (Spare.of_only O3'.out) (fun i hi hj => hqq (by injection hi with hi; exact hi.trans hj)))
                | ((with_reducible show wpList _ _ _ (⟨none, .store _ (.tmp 63) _, _, _, _, _⟩ :: _) _ _); refine wpList_store_rowF rfl _ (.tmp 63) (.const (.bool true)) rfl qz s N cZ1 base 4 rfl Value.bool (wrPart Z1 p (List.replicate n true) k) true rfl HRZ3.out hsN (by kernel_rfl) rfl ?_; intro w4 o4 O4; rw [E2.out] at o4)
                | fail)
              have HRX4 := Lib.hid ((HRX.out.only O3'.out (Ne.symm hqb)).only O4.out (Ne.symm hqz))
              have HRB4 := Lib.hid (o3.out.sparS (Spare.of_only O4.out) (fun i hi hj => hqq (by injection hi with hi; exact hj.symm.trans hi.symm)))
              have S4 : Hid (Spare (rdS g (.slice AB nB cB) vZ) w w4) := by
                refine (S1.out.trans (Spare.of_only O3'.out) fun j hj h => ?_).trans (Spare.of_only O4.out) fun j hj h => ?_
                · have hq : j = qb := h
                  rcases N1.out qb rfl with h1 | h1
                  · rw [hq]; exact .inr (.inl h1)
                  · omega
                · have hq : j = qz := h
                  rcases M1.out qz rfl with h1 | h1
                  · rw [hq]; exact .inr (.inr h1)
                  · omega
              go_roundw
              case rel => exact ⟨k + 1, by omega, by go_num, HRB4, o4, HRX4, S4⟩
              case measure => simp [intOf]; omega
            · obtain rfl : k = n := by omega
              have HD : RDat wr base g (.slice (some ⟨qb, 0, none⟩) N cB1) (.slice (some ⟨qz, 0, none⟩) N cZ1) (layAt 0 B p xs) (layAt false Z p (List.replicate k true)) := by
                have hb := HRB.out
                have hz := HRZ.out
                rw [HF1.out] at hb
                rw [HF2.out] at hz
                have h1 := hb.1
                refine ⟨hgb, HRX.out, hb, hz, ?_, ?_, layAt_bytes HR.out.byte HX.out.byte _⟩
                · rw [layAt_len, layAt_len, List.length_replicate, HXL.out, HZL.out]
                · rw [layAt_len, HXL.out]
                  have := HR.out.small
                  omega
              have HD' := Lib.hid HD
              clear HD HRB HRZ HRX
              go_wp2_with fail
              go_ret
              exact HQ1.out _ _ _ _ rfl HD'.out S1.out N1.out M1.out
end Go.Proofs.Ytgbhnnobbciemaa
