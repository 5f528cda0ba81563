import Derived.WalkKit
import Derived.Deep.Draws
import Derived.Laws.Rows
import Derived.Laws.OwnMore
import Derived.Laws.Bits64
import Derived.Laws.BitsAllLaws
import Derived.OpenShut
import Derived.Test.YtgfflnjggnadpaaDoorRows
import Derived.Lib.Hide
import Derived.BigQuiet
import Derived.Deep.QuietTactic
import Derived.Laws.CopyOwn
import Derived.Laws.AppendOwnNone
import Derived.Laws.Tables
import Derived.Laws.NewFold
import Derived.Deep.WholeRow
import Derived.StillTailTactics
import Derived.Deep.RegionLaw
import Derived.WalkSpells
import Derived.WalkLawsBesides
import Derived.Lib.AppendZeros
import Derived.Deep.RegionWith
import Derived.Deep.DeepCutAuto
import Derived.OrdersHeld
import Derived.Laws.StructEq
import Derived.ChangeKeysEq
import Derived.Laws.AppendOwn
import Derived.OwnWalk
import Derived.Lib.OthersKept
import Derived.Laws.BytesArg
import Derived.Laws.IdiomStrings
import Derived.ProofKit
import Derived.ShutString
import Derived.SizedLaws
import Derived.ChangeOld
import Derived.Great.Walk
import Derived.Deep.MidRow
import Derived.Lib.SliceRun
import Derived.OneCell
import Derived.Deep.Strs
import Derived.Deep.Slices
import Derived.Laws.MakeOwn
import Derived.Lib.SlBytesConst
import Derived.Test.YtgfflnjggnadpaaDoorWAC
import Derived.Test.YtgfflnjggnadpaaDoorWAD
import Derived.Test.YtgfflnjggnadpaaDoorWAF
import Derived.Test.YtgfflnjggnadpaaDoorWAI
import Derived.Test.YtgfflnjggnadpaaDoorWAK
import Derived.Test.YtgfflnjggnadpaaDoorWAL
import Derived.Test.YtgfflnjggnadpaaDoorWAM
import Derived.Test.YtgfflnjggnadpaaDoorWAO
namespace Go.Proofs.YtgfflnjggnadpaaDoor
set_option linter.all false
set_option maxRecDepth 100000
open Go.RowKit
set_option linter.unusedVariables false
/-- a whole row of bytes of the call's own, whatever they are -/
def MyRow (w : World) (base : Nat) (v : Value) : Prop := ∃ (g n N : Nat) (ys : List Int), v = .slice (some ⟨g, 0, none⟩) n N ∧ base ≤ g ∧ n ≤ N ∧ N ≤ 9223372036854775807 ∧ ys.length = N ∧ Row w g ys
theorem MyRow.of_own {w : World} {base : Nat} {v : Value} {xs : List Int} (h : OwnZ .u8 5 w base v xs) (h0 : 0 < xs.length) : MyRow w base v := by
  rcases h with ⟨_, rfl⟩ | ⟨g, m, rfl, hb, hm, hg⟩
  · simp at h0
  · rw [maxLen_eq] at hm
    exact ⟨g, xs.length, xs.length + m, xs ++ List.replicate m 0, rfl, hb, by omega, hm, by simp, hg⟩
theorem row_len {w : World} {g : Nat} {xs ys : List Int} (h : Row w g xs) (h' : Row w g ys) : xs.length = ys.length := by
  unfold Row at h h'
  rw [h] at h'
  simp only [Option.some.injEq, Obj.cells.injEq] at h'
  have := congrArg Array.size h'.1
  simpa using this
theorem MyRow.spoiled {w w' : World} {base g : Nat} {v : Value} {ys zs : List Int} (h : MyRow w base v) (hO : Only g w w') (hr : Row w g ys) (hr' : Row w' g zs) (hl : zs.length = ys.length) : MyRow w' base v := by
  obtain ⟨g1, n, N, us, rfl, hb, hn, hN, hu, hg⟩ := h
  by_cases e : g1 = g
  · subst e
    exact ⟨g1, n, N, zs, rfl, hb, hn, hN, by rw [hl, ← row_len hg hr, hu], hr'⟩
  · exact ⟨g1, n, N, us, rfl, hb, hn, hN, hu, (hO.rest g1 e).trans hg⟩
theorem HoldsF.onlyRow {w w' : World} {B n c g : Nat} {A : Option Addr} {ps : List PartT} {ys : List Int} (h : HoldsF partV w B A n c ps) (hr : Row w g ys) (hO : Only g w w') : HoldsF partV w' B A n c ps :=
  ⟨h.len, h.fit, h.bare, fun hn => by
    obtain ⟨b, off, e, hb, hc⟩ := h.cells hn
    have hne : b ≠ g := by
      rintro rfl
      have hl := h.len
      have h1 := hc 0 ps[0] (List.getElem?_eq_getElem (by omega))
      rw [cell_of_row w b (off + 0) _ 5 (0, 0) hr] at h1
      simp only [List.getElem?_toArray, List.getElem?_map] at h1
      cases hq : ys[off + 0]? with
      | none => rw [hq] at h1; cases h1
      | some y => rw [hq] at h1; cases h1
    refine ⟨b, off, e, hb, fun i x hi => ?_⟩
    rw [← hc i x hi]
    exact World.cell?_of_block (hO.rest b hne)⟩
set_option maxHeartbeats 400000 in
theorem SpoilM_any (w : World) (g n N : Nat) (xs : List Int) (hnN : n ≤ N) (hm63 : N ≤ 9223372036854775807) (hl : xs.length = N) (by_ : Int) (h0 : 0 ≤ by_ ∧ by_ ≤ 255) (hr : Row w g xs) :
    Calls Tryd.prog 29 #[.slice (some ⟨g, 0, none⟩) n N, .int .u8 by_] w fun e w' => e = .returned (.tuple #[]) ∧ Only g w w' ∧ ∃ ys : List Int, ys.length = xs.length ∧ Row w' g ys := by
  obtain ⟨h00, h01⟩ := h0
  have HL : Hid (xs.length = N) := hl
  have HR : Hid (Row w g xs) := hr
  clear hr hl
  go_enter Tryd.func29, Tryd.ntmps29
  go_wp2
  go_loopw [4] (fun i wr => ∃ k : Nat, k ≤ N ∧ i = .int .i64 k ∧ (∃ ys : List Int, Hid (ys.length = N) ∧ Hid (Row wr g ys)) ∧ Hid (Only g w wr)) (fun i _ => N - (intOf i).toNat)
  case atStart => exact ⟨0, Nat.zero_le _, rfl, ⟨_, HL, HR⟩, Only.refl _ _⟩
  case round =>
    obtain ⟨k, hk, rfl, ⟨ys, HY, hR⟩, hb⟩ := hrel
    by_cases hlt : k < N
    · have hc := hR.out.cell (i := k) (by have := HY.out; omega)
      have hz := hR.out.frozen k
      obtain ⟨old, hold⟩ : ∃ old, old = ys.getD k 0 := ⟨_, rfl⟩
      rw [← hold] at hc
      clear hold
      go_wp2
      go_roundw
      case rel => exact ⟨k + 1, by omega, by go_num, ⟨_, (by show _ = _; rw [List.length_set]; exact HY.out), hR.out.set k _⟩, hb.out.setCell _ _⟩
      case measure => simp [intOf]; omega
    · go_wp2
      go_end0
      exact ⟨rfl, hb.out, ys, by rw [HY.out, HL.out], hR.out⟩
theorem spl_long (f : Nat) (r : List Int) (hb : Bytes r) : ∀ x ∈ (spl f r).2, 64 ≤ x.length := by
  induction f generalizing r with
  | zero =>
    intro x hx
    unfold spl at hx
    split at hx <;> cases hx
  | succ f ih =>
    intro x hx
    by_cases h0 : partE r = 0
    · have h64 := (head_of hb (partE_ok h0).1).1
      by_cases h1 : nxt r = 0
      · rw [spl_last h0 h1] at hx
        obtain rfl := List.mem_singleton.1 hx
        exact h64
      · rw [spl_step h0 h1] at hx
        unfold ahead at hx
        split at hx
        · rcases List.mem_append.1 hx with h2 | h2
          · obtain rfl := List.mem_singleton.1 h2
            have := nxt_le h0
            rw [List.length_take]
            omega
          · exact ih _ (hb.drop _) x h2
        · cases hx
    · rw [spl_bad h0] at hx
      cases hx
theorem splD_flat' (b : List Int) (hb : Bytes b) : ∀ x ∈ (splD b).2, 64 ≤ x.length := by
  intro x hx
  unfold splD at hx
  split at hx
  · split at hx
    · cases hx
    · exact spl_long 8 b hb x hx
  · cases hx
theorem spl_count (f : Nat) (r : List Int) : (spl f r).2.length ≤ f := by
  induction f generalizing r with
  | zero =>
    unfold spl
    split <;> simp
  | succ f ih =>
    by_cases h0 : partE r = 0
    · by_cases h1 : nxt r = 0
      · rw [spl_last h0 h1]
        simp
      · rw [spl_step h0 h1]
        unfold ahead
        have := ih (r.drop (nxt r))
        split
        · simp only [List.length_append, List.length_cons, List.length_nil]
          omega
        · simp
    · rw [spl_bad h0]
      simp
theorem splD_count (b : List Int) : (splD b).2.length ≤ 8 := by
  have := spl_count 8 b
  unfold splD
  split
  · split
    · simp
    · exact this
  · simp
theorem cut_flatten {ks : List Int} {L : List (List Int)} (he : chainErr L = 0) (hb : ∀ m ∈ L, Bytes m ∧ m.length ≤ 4294967000) : 64 ≤ (sealOf ks L).length := by
  have h := chain_facts ks he hb
  have h2 := (head_of (sealOf_small ks L hb).2 (partE_ok h.2.2.1).1).1
  exact h2
set_option maxHeartbeats 8000000 in
theorem walk_ChainFresh (W : World) (hT : KTab W) (A0 : Option Addr) (n0 c0 : Nat) (z0 : List PartT) (l0 : n0 ≤ c0) (r0 : c0 ≤ 1048576 ∧ ∀ y ∈ z0, y.2.2.1 ≤ 1048576) (h0 : Lst W W.heap.size A0 c0 c0 z0) :
    Calls Tryd.prog 9 #[.slice A0 n0 c0] W fun e W' => e = .returned (.bool true) ∧ Below W.heap.size W W' := by
  obtain ⟨hx, hn, hs⟩ := lst_facts l0 r0 h0
  obtain ⟨ps, hps⟩ : ∃ ps, ps = z0.take n0 := ⟨_, rfl⟩
  rw [← hps] at hx hs
  have hb := rows_bytes hx hs
  have hb2 : ∀ m ∈ rowsL ps, Bytes m ∧ m.length ≤ 4294967000 := fun m hm => ⟨(hb m hm).1, by have := (hb m hm).2; omega⟩
  have hl : (rowsL ps).length = n0 := by rw [rowsL, List.length_map]; exact hx.row.len
  have cc := copied_any W A0 n0 c0 ps hx (by omega) (fun p hp => by have := hs p hp; omega)
  unfold CopiedPost at cc
  have cj := fun (w : World) A n c qs (h : Lst w w.heap.size A n c qs) (hr : rowsL qs = rowsL ps) hK => Join_anyC w A n c qs h (by rw [(sizes_of h hr hb).2, hl]; exact hn) (fun p hp => by have := (sizes_of h hr hb).1 p hp; omega) hK
  have cl := fun (w : World) A n c qs (h : Lst w w.heap.size A n c qs) (hr : rowsL qs = rowsL ps) (hbl : Below W.heap.size W w) => lists_any w w.heap.size w.heap.size A A0 n c n0 c0 qs ps h (hx.over hbl) (by rw [(sizes_of h hr hb).2, hl]; omega) (by omega)
  have hso := sealOf_small [] (rowsL ps) hb2
  unfold SealPost at cj
  have CV := fun w hK => Lib.hid (livesC_any w hK)
  have HT := Lib.hid hT
  by_cases he : chainErr (rowsL ps) = 0
  · have h64 := cut_flatten (ks := []) he hb2
    have hcf := (chain_facts [] he hb2).2.2.2.2.2
    have hfl := splD_flat' (sealOf [] (rowsL ps)) hso.2
    obtain ⟨L, hL⟩ : ∃ L, L = rowsL ps := ⟨_, rfl⟩
    rw [← hL] at cc hso h64 hcf hfl he
    simp only [← hL] at cj cl
    have CJ := Lib.hid (fun w A n c qs h (hr : rowsL qs = L) hK => by have := cj w A n c qs h hr hK; rw [hr, he] at this; exact this)
    have CL := fun w A n c qs h (hr : rowsL qs = L) hbl => Lib.hid (by have := cl w A n c qs h hr hbl; rw [hr, decide_eq_true rfl] at this; exact this)
    have CC := Lib.hid cc
    obtain ⟨B, hB⟩ : ∃ B, B = sealOf [] L := ⟨_, rfl⟩
    rw [← hB] at hso h64 hcf hfl
    simp only [← hB] at CJ
    obtain ⟨M, hM⟩ : ∃ M, M = B.length := ⟨_, rfl⟩
    rw [← hM] at h64
    have CS := fun (w : World) A c A' c' (h : Holds w w.heap.size A M c B) (h' : Holds w w.heap.size A' M c' B) => Lib.hid (Same_any w _ _ A A' _ c _ c' B B h h')
    simp only [decide_eq_true] at CS
    have csp := fun (w : World) A c (h : Holds w w.heap.size A M c B) => Split_any w A M c B h (by rw [hM]; have := hso.1; omega)
    unfold SplitPost at csp
    have hcnt := splD_count B
    have hE5 : (splD B).1 = 0 ∨ (splD B).1 = 5 := by
      rw [hcf]
      split
      · exact .inr rfl
      · exact .inl rfl
    obtain ⟨⟨E, PL⟩, hq⟩ : ∃ q, q = splD B := ⟨_, rfl⟩
    rw [← hq] at hE5 hfl hcnt
    simp only [← hq] at csp
    dsimp only at hE5 hfl hcnt
    have CSP := Lib.hid csp
    have HSO := Lib.hid hso
    have HM := Lib.hid hM
    have HFL := Lib.hid hfl
    have HE5 := Lib.hid hE5
    clear hx hn hs hps hb hb2 hl cc cj cl hso hL hB he h0 hT hM hcf hfl hE5 hq csp
    go_enter Tryd.func9, Tryd.ntmps9
    go_wp2_with fail
    refine CC.out.mono ?_
    rintro e w1 ⟨v1, qs, rfl, o1, q1, b1⟩
    obtain ⟨A1, n1, c1, rfl, l1⟩ := o1.lst
    have HL1 := Lib.hid l1
    have HQ1 := Lib.hid q1
    have B1 := Lib.hid b1
    clear o1 l1 q1 b1 CC
    go_wp2_with fail
    refine (CJ.out w1 A1 n1 c1 qs HL1.out HQ1.out (HT.out.below B1.out)).mono ?_
    rintro e w2 ⟨v2, rfl, o2, b2⟩
    have hmy := MyRow.of_own o2 (by rw [← HM.out]; omega)
    obtain ⟨g2, c2, rfl, hg2, h2⟩ := own_part o2 HSO.out.2 (by rw [← HM.out]; omega) (by have := HSO.out.1; omega)
    rw [← HM.out] at h2 hmy ⊢
    have H2 := Lib.hid h2
    have HMY := Lib.hid hmy
    have HG2 : Hid (w1.heap.size ≤ g2 ∧ g2 < w2.heap.size) := ⟨hg2, by obtain ⟨b, off, e, hb, _⟩ := h2.cells (by omega); injection e with e; injection e with e1 e2; rw [e1]; exact hb⟩
    have S2 : Hid (Below w1.heap.size w1 w2) := b2
    have B2 := Lib.hid (step B1.out b2)
    clear o2 h2 b2 hmy hg2
    go_wp2_with fail
    refine (Copy_any w2 _ M c2 B H2.out (by have := HSO.out.1; rw [HM.out]; omega)).mono ?_
    rintro e w3 ⟨v3, rfl, o3, b3⟩
    obtain ⟨g3, c3, rfl, hg3, hg32, h3⟩ := own_partK (show OwnK .u8 5 _ _ _ _ from o3) HSO.out.2 (by rw [← HM.out]; omega) (by have := HSO.out.1; omega)
    rw [← HM.out] at h3 ⊢
    have H3 := Lib.hid h3
    have HG3 : Hid (g2 ≠ g3) := by have := HG2.out.2; show _ ≠ _; omega
    have H23 := Lib.hid (H2.out.over b3)
    have HMY3 : Hid (MyRow w3 w1.heap.size (.slice (some ⟨g2, 0, none⟩) M c2)) := by
      obtain ⟨g, n, N, ys, e, h1, h4, h5, h6, h7⟩ := HMY.out
      exact ⟨g, n, N, ys, e, h1, h4, h5, h6, h7.below b3 h7.lt⟩
    have S3 : Hid (Below w1.heap.size w1 w3) := step S2.out b3
    have B3 := Lib.hid (step B2.out b3)
    clear o3 h3 b3 H2 HMY B2 S2 hg3 hg32
    go_wp2_with fail
    refine (CSP.out w3 _ c2 H23.out).mono ?_
    rintro e w4 ⟨v4, rs, rfl, o4, q4, b4⟩
    obtain ⟨A4, n4, c4, rfl, l4⟩ := o4.lst
    have hn48 : n4 ≤ 8 := by
      have h1 := l4.row.len
      have h2 := congrArg List.length q4
      rw [rowsL, List.length_map] at h2
      omega
    have HR4 : Hid (HoldsF partV w4 w4.heap.size A4 n4 c4 rs) := l4.row
    have HM4 : Hid (∀ p ∈ rs, MyRow w4 w3.heap.size (partV p)) := fun p hp => by
      have h1 := o4.each p hp
      refine MyRow.of_own (h1.1.2 rfl) ?_
      have h2 : p.2.2.2 ∈ PL := by rw [← q4]; exact List.mem_map.2 ⟨p, hp, rfl⟩
      have := HFL.out _ h2
      omega
    have B4 := Lib.hid b4
    clear o4 l4 q4 b4 CSP
    go_wp2_with fail
    have HS43 := Lib.hid B4.out.size
    go_loopw [9] (fun i wr => ∃ k : Nat, k ≤ n4 ∧ i = .int .i64 k ∧ Hid (HoldsF partV wr w4.heap.size A4 n4 c4 rs) ∧ Hid (∀ p ∈ rs, MyRow wr w3.heap.size (partV p)) ∧ Hid (Below w3.heap.size w3 wr)) (fun i _ => n4 - (intOf i).toNat)
    case atStart => exact ⟨0, by omega, rfl, HR4, HM4, B4⟩
    case round =>
      clear HR4 HM4 B4
      obtain ⟨k, hk, rfl, HR, HMR, HB⟩ := hrel
      by_cases hlt : k < n4
      · obtain ⟨b, off, rfl, hbb, hcc⟩ := HR.out.cells (by omega)
        have hkl : k < rs.length := by rw [HR.out.len]; exact hlt
        have hcell := hcc k rs[k] (List.getElem?_eq_getElem hkl)
        obtain ⟨g, m, N, ys, hpv, hg, hmN, hN, hyl, hrow⟩ := HMR.out rs[k] (List.getElem_mem hkl)
        rw [hpv] at hcell
        have CSM := Lib.hid (SpoilM_any wr g m N ys hmN hN hyl 9 (by omega) hrow)
        have HRW := Lib.hid hrow
        have HGG : Hid (w3.heap.size ≤ g) := hg
        clear hcc hkl hpv hg hyl hrow
        go_wp2_with fail
        refine CSM.out.mono ?_
        rintro e w5 ⟨rfl, hO5, zs, hz, hrz⟩
        have R5 := Lib.hid (HR.out.onlyRow HRW.out hO5)
        have M5 : Hid (∀ p ∈ rs, MyRow w5 w3.heap.size (partV p)) := fun p hp => (HMR.out p hp).spoiled hO5 HRW.out hrz hz
        have B5 := Lib.hid (HB.out.trans (hO5.below HGG.out))
        clear hO5 hz hrz CSM HRW hcell
        go_wp2_with fail
        go_roundw
        case rel => exact ⟨k + 1, by omega, by go_num, R5, M5, B5⟩
        case measure => simp [intOf]; omega
      · obtain rfl : k = n4 := by omega
        have H2r := Lib.hid (H23.out.over HB.out)
        have H3r := Lib.hid (H3.out.over HB.out)
        have HMYr : Hid (MyRow wr w1.heap.size (.slice (some ⟨g2, 0, none⟩) M c2)) := by
          obtain ⟨g, n, N, ys, e, h1, h4, h5, h6, h7⟩ := HMY3.out
          exact ⟨g, n, N, ys, e, h1, h4, h5, h6, h7.below HB.out h7.lt⟩
        have Sr : Hid (Below w1.heap.size w1 wr) := S3.out.trans (HB.out.mono S3.out.size)
        have Br := Lib.hid (step B3.out HB.out)
        have CSa := CS wr _ c2 _ c3 H2r.out H3r.out
        clear HR HMR HB H23 H3 HMY3 S3 B3
        go_wp2_with fail
        refine CSa.out.mono ?_
        rintro e w6 ⟨rfl, j, rfl⟩
        obtain ⟨w6, hw6⟩ : ∃ w, w = wr.drewN j := ⟨_, rfl⟩
        have H36 : Hid (Holds w6 w6.heap.size (some ⟨g3, 0, none⟩) M c3 B) := by rw [hw6]; exact H3r.out.drewN j
        have HMY6 : Hid (MyRow w6 w1.heap.size (.slice (some ⟨g2, 0, none⟩) M c2)) := by rw [hw6]; exact HMYr.out
        have S6 : Hid (Below w1.heap.size w1 w6) := by rw [hw6]; exact below_drewN Sr.out j
        have B6 : Hid (Below W.heap.size W w6) := by rw [hw6]; exact below_drewN Br.out j
        rw [← hw6]
        clear CSa hw6 H2r H3r HMYr Sr Br
        obtain ⟨g, m, N, ys, hpv, hg, hmN, hN, hyl, hrow⟩ := HMY6.out
        injection hpv with e1 e2 e3
        injection e1 with e1
        injection e1 with e1
        subst e1 e2 e3
        have CSM := Lib.hid (SpoilM_any w6 g2 M c2 ys hmN hN hyl 9 (by omega) hrow)
        clear hg hyl hrow HMY6
        go_wp2_with fail
        refine CSM.out.mono ?_
        rintro e w7 ⟨rfl, hO7, zs, hz, hrz⟩
        have H37 : Hid (Holds w7 w7.heap.size (some ⟨g3, 0, none⟩) M c3 B) := by
          show Holds _ _ _ _ _ _
          rw [hO7.size]
          exact H36.out.onlyNe hO7 (fun a ha => by injection ha with ha; subst ha; exact fun e => HG3.out e.symm)
        have S7 := Lib.hid (S6.out.trans (hO7.below HG2.out.1))
        have hg2W : W.heap.size ≤ g2 := Nat.le_trans B1.out.size HG2.out.1
        have B7 := Lib.hid (B6.out.trans (hO7.below hg2W))
        have HL7 := Lib.hid (HL1.out.over S7.out)
        clear hO7 hz hrz CSM H36 S6 B6 hg2W
        go_wp2_with fail
        refine (CJ.out w7 A1 n1 c1 qs HL7.out HQ1.out (HT.out.below B7.out)).mono ?_
        rintro e w8 ⟨v8, rfl, o8, b8⟩
        obtain ⟨A8, c8, rfl, h8⟩ := Own.holds (show Own _ _ _ _ from o8.own) HSO.out.2 (by have := HSO.out.1; omega)
        rw [← HM.out] at h8 ⊢
        have H8 := Lib.hid h8
        have H38 := Lib.hid (H37.out.over b8)
        have HL8 := Lib.hid (HL7.out.over b8)
        have B8 := Lib.hid (step B7.out b8)
        have CSb := CS w8 A8 c8 _ c3 H8.out H38.out
        have HE := HE5.out
        clear o8 h8 b8 H37 HL7 B7 S7 HFL HE5
        rcases HE with rfl | rfl
        all_goals
          go_wp2_with fail
          refine CSb.out.mono ?_
          rintro e w9 ⟨rfl, j9, rfl⟩
          obtain ⟨w9, hw9⟩ : ∃ w, w = w8.drewN j9 := ⟨_, rfl⟩
          have HL9 : Hid (Lst w9 w9.heap.size A1 n1 c1 qs) := by rw [hw9]; exact HL8.out.drewN j9
          have B9 : Hid (Below W.heap.size W w9) := by rw [hw9]; exact below_drewN B8.out j9
          rw [← hw9]
          clear CSb hw9 HL8 B8
          go_wp2_with fail
          refine (CL w9 A1 n1 c1 qs HL9.out HQ1.out B9.out).out.mono ?_
          rintro e w10 ⟨rfl, j10, rfl⟩
          have B10 : Hid (Below W.heap.size W (w9.drewN j10)) := below_drewN B9.out j10
          obtain ⟨w10, hw10⟩ : ∃ w, w = w9.drewN j10 := ⟨_, rfl⟩
          rw [← hw10] at B10 ⊢
          clear HL9 B9 CL hw10
          go_wp2_with fail
          refine (CV w10 (HT.out.below B10.out)).out.mono ?_
          rintro e w11 ⟨rfl, b11⟩
          go_wp2
          go_ret
          exact ⟨rfl, step B10.out b11⟩
  · obtain ⟨L, hL⟩ : ∃ L, L = rowsL ps := ⟨_, rfl⟩
    rw [← hL] at cc he
    simp only [← hL] at cj
    obtain ⟨E, hE⟩ : ∃ E, E = chainErr L := ⟨_, rfl⟩
    rw [← hE] at he
    have CJ := Lib.hid (fun w A n c qs h (hr : rowsL qs = L) hK => by have := cj w A n c qs h hr hK; rw [hr, ← hE] at this; exact this)
    have CC := Lib.hid cc
    have hne : (E != 0) = true := by simpa using he
    clear hx hn hs hps hb hb2 hl cc cj cl hso hL he h0 hT hE
    go_enter Tryd.func9, Tryd.ntmps9
    go_wp2_with fail
    refine CC.out.mono ?_
    rintro e w1 ⟨v1, qs, rfl, o1, q1, b1⟩
    obtain ⟨A1, n1, c1, rfl, l1⟩ := o1.lst
    have HL1 := Lib.hid l1
    have HQ1 := Lib.hid q1
    have B1 := Lib.hid b1
    clear o1 l1 q1 b1 CC
    go_wp2_with fail
    refine (CJ.out w1 A1 n1 c1 qs HL1.out HQ1.out (HT.out.below B1.out)).mono ?_
    rintro e w2 ⟨v2, rfl, o2, b2⟩
    have B2 := Lib.hid (step B1.out b2)
    clear o2 b2
    go_wp2_with fail
    refine (CV w2 (HT.out.below B2.out)).out.mono ?_
    rintro e w11 ⟨rfl, b11⟩
    go_wp2
    go_ret
    exact ⟨rfl, step B2.out b11⟩
end Go.Proofs.YtgfflnjggnadpaaDoor
