/-
  Layer 14 (extent): the document's Extents (written by tools/gen_ex4.py).
-/
import Derived.Test.YtgbhnnobbciemaaEx3
import Derived.Test.YtgbhnnobbciemaaRowT
import Derived.Test.YtgbhnnobbciemaaStM
import Derived.Test.YtgbhnnobbciemaaHeldK
import Derived.Test.YtgbhnnobbciemaaHeadQ
namespace Go.Proofs.Ytgbhnnobbciemaa
set_option maxRecDepth 100000
open Go.RowKit
set_option linter.unusedVariables false

theorem size_ext : (Try.prog.info? 41).map (·.size) = some 2 := by kernel_rfl
theorem info_ext : (Try.prog.info? 41).map (fun i => (i.zero, i.size, i.bytes)) = some (some (.agg #[.int .i64 0, .slice none 0 0]), 2, 32) := by kernel_rfl
/-- what Extents answers -/
def ExtPost (w : World) (L : List (Nat × List Int)) (e : Ending) (w' : World) : Prop := ∃ v l, e = .returned v ∧ OExt false w' w.heap.size v l ∧ extsL l = L ∧ Below w.heap.size w w'
theorem extN_skip {B : List Int} {Z : List Bool} {i : Nat} (h : Z.getD i false = false) : extN B Z (i + 1) = extN B Z i := by
  show (if _ then (if _ then _ else _) else _) = _
  rw [if_neg (by rw [h]; decide)]
theorem extN_new {B : List Int} {Z : List Bool} {i : Nat} (h : Z.getD i false = true) (hp : i = 0 ∨ Z.getD (i - 1) false = false) : extN B Z (i + 1) = extN B Z i ++ [(i, [B.getD i 0])] := by
  show (if _ then (if _ then _ else _) else _) = _
  rw [if_pos h, if_pos hp]
theorem extN_grow {B : List Int} {Z : List Bool} {i : Nat} (h : Z.getD i false = true) (hp : ¬ (i = 0 ∨ Z.getD (i - 1) false = false)) (hi : i ≤ B.length) : ∃ r a bs, extN B Z i = r ++ [(a, bs)] ∧ extN B Z (i + 1) = r ++ [(a, bs ++ [B.getD i 0])] := by
  have hzi : Z.getD (i - 1) false = true := by
    cases hq : Z.getD (i - 1) false
    · exact absurd (.inr hq) hp
    · rfl
  obtain ⟨r, a, bs, hr, _⟩ := (extN_ok B Z i hi).2.1 (by omega) hzi
  refine ⟨r, a, bs, hr, ?_⟩
  show (if _ then (if _ then _ else _) else _) = _
  rw [if_pos h, if_neg hp, hr]
  simp

theorem Spare.cellAt {S : Nat → Prop} {w w' : World} {g o : Nat} {x : Value} (a : Spare S w w') (hg : ¬ S g) (h : w.cell? ⟨g, o, none⟩ = some x) : w'.cell? ⟨g, o, none⟩ = some x := by
  have hlt : g < w.heap.size := by
    by_cases hh : g < w.heap.size
    · exact hh
    · unfold World.cell? at h
      simp only [Array.getElem?_eq_none (Nat.le_of_not_lt hh)] at h
      cases h
  rw [← h]
  unfold World.cell?
  rw [a.rest g hlt hg]
theorem OwnS.form {α : Type} {f : α → List Value} {s : Nat} {e : TypeId} {w : World} {base : Nat} {v : Value} {xs : List α} (h : OwnS f s e w base v xs) (hn : 0 < xs.length) : ∃ q c, v = .slice (some ⟨q, 0, none⟩) xs.length c := by
  rcases h.2 with ⟨_, h0⟩ | ⟨g', cap, cur, hv, _⟩
  · omega
  · exact ⟨g', _, hv⟩
section
variable {Z : Bool} {w w' w4 w5 w6 : World} {base q n c : Nat} {v v' v5 : Value} {l r : List ExtV} {y y' : ExtV} {xs : List Int}
/-- a piece's row is not the row of the extents -/
theorem OExt.off (h : OExt Z w base v l) {x : ExtV} (hx : x ∈ l) {i : Nat} (hi : (partV x.2).ownBlock = some i) : v.ownBlock ≠ some i := fun hv => by
  obtain ⟨_, cs, h1⟩ := h.row.block hv
  obtain ⟨_, cs', h2⟩ := (h.each x hx).1.1.block hi
  rw [h1] at h2
  simp only [Option.some.injEq, Obj.cells.injEq] at h2
  exact absurd h2.2.1 (by decide)
/-- a new one with no bytes yet -/
theorem OExt.push (h : OExt Z w base v l) (ho : OwnS extCells 2 41 w' base v' (l ++ [y])) (a : Spare (fun j => v.ownBlock = some j) w w') (hy : y.2 = (none, 0, 0, [])) : OExt Z w' base v' (l ++ [y]) := by
  refine ⟨ho, fun x hx => ?_, ?_⟩
  · rcases List.mem_append.1 hx with hx | hx
    · exact ⟨(h.each x hx).1.spare a fun i hi hv => h.off hx hi hv, (h.each x hx).2⟩
    · obtain rfl := List.mem_singleton.1 hx
      rw [hy]
      exact ⟨.of_z (.inl ⟨rfl, rfl⟩) Z, (fun _ h => by cases h), Nat.zero_le _⟩
  · refine List.pairwise_append.2 ⟨h.apart, List.pairwise_singleton _ _, fun x _ z hz i _ hzi => ?_⟩
    obtain rfl := List.mem_singleton.1 hz
    rw [hy] at hzi
    cases hzi
/-- the last one's bytes are others -/
theorem OExt.regrow (h : OExt false w base (.slice (some ⟨q, 0, none⟩) n c) (r ++ [y])) (hw : Below w.heap.size w w4) (o5 : OwnF (Value.int .u8) 5 w5 base v5 xs) (hx : Bytes xs) (hl : xs.length ≤ 140737488355328)
    (s5 : Spare (fun j => (partV y.2).ownBlock = some j) w4 w5) (n5 : Wander w4 (partV y.2) v5) (o6 : OwnS extCells 2 41 w6 base (.slice (some ⟨q, 0, none⟩) n c) (r ++ [y'])) (h6 : Only q w5 w6) (h1 : partV y'.2 = v5) (h2 : y'.2.2.2.2 = xs) :
    OExt false w6 base (.slice (some ⟨q, 0, none⟩) n c) (r ++ [y']) := by
  have hap := List.pairwise_append.1 h.apart
  have hq : ∀ x ∈ r ++ [y], ∀ i, (partV x.2).ownBlock = some i → i ≠ q := fun x hx i hi hiq => h.off hx hi (by rw [hiq]; rfl)
  have hty : y ∈ r ++ [y] := List.mem_append_right _ (List.mem_singleton_self _)
  have o5' : OwnB false w5 base v5 xs := .of_k o5
  refine ⟨o6, fun x hx' => ?_, ?_⟩
  · rcases List.mem_append.1 hx' with hx' | hx'
    · have hxm := List.mem_append_left [y] hx'
      have b1 := (h.each x hxm).1.below hw
      have b2 := b1.spare s5 fun i hi hyi => hap.2.2 x hx' y (List.mem_singleton_self _) i hi hyi
      exact ⟨b2.spare (Spare.of_only h6) fun i hi hiq => hq x hxm i hi hiq, (h.each x hxm).2⟩
    · obtain rfl := List.mem_singleton.1 hx'
      rw [h1, h2]
      refine ⟨o5'.spare (Spare.of_only h6) fun i hi hiq => ?_, hx, hl⟩
      rcases n5 i hi with h3 | h3
      · exact hq y hty i h3 hiq
      · have := h.row.lt (i := q) rfl
        have := hw.size
        omega
  · refine List.pairwise_append.2 ⟨hap.1, List.pairwise_singleton _ _, fun x hx z hz i hi hzi => ?_⟩
    obtain rfl := List.mem_singleton.1 hz
    rw [h1] at hzi
    rcases n5 i hzi with h3 | h3
    · exact hap.2.2 x hx y (List.mem_singleton_self _) i hi h3
    · obtain ⟨_, cs, h4⟩ := (h.each x (List.mem_append_left _ hx)).1.1.block hi
      have := (Array.getElem?_eq_some_iff.1 h4).1
      have := hw.size
      omega
end

theorem extN_count (B : List Int) (Z : List Bool) (i : Nat) : (extN B Z i).length ≤ i := by
  induction i with
  | zero => exact Nat.le_refl _
  | succ i ih =>
    show (if _ then (if _ then _ else _) else _ : List (Nat × List Int)).length ≤ _
    split
    · split
      · rw [List.length_append, List.length_singleton]; omega
      · rw [List.length_append, List.length_singleton, List.length_dropLast]; omega
    · omega

set_option maxHeartbeats 4000000 in
theorem RExExtents_any (w : World) (base g : Nat) (vB vZ : Value) (B : List Int) (Z : List Bool) (h : RDat w base g vB vZ B Z) :
    Calls Try.prog 27 #[.pointer (some ⟨g, 0, none⟩)] w (ExtPost w (exts B Z)) := by
  obtain ⟨AB, n, cB, rfl, hBl, hBf, _, _, hBc⟩ := h.rowB.open
  obtain ⟨AZ, nZ, cZ, rfl, hZl, hZf, _, _, hZc⟩ := h.rowZ.open
  obtain rfl : n = nZ := by have := h.len; omega
  have c0 : w.cell? ⟨g, 0, none⟩ = some (.slice AB n cB) := h.blk.cell 0
  have c1 : w.cell? ⟨g, 1, none⟩ = some (.slice AZ n cZ) := h.blk.cell 1
  have hgw := h.blk.lt
  have hn6 : n ≤ 65536 := by have := h.small; omega
  have HR := Lib.hid h
  have HBL := Lib.hid hBl
  have HZL := Lib.hid hZl
  have HBC := Lib.hid hBc
  have HZC := Lib.hid hZc
  have HEX : Hid (extN B Z n = exts B Z) := by show _ = _; unfold exts; rw [hBl]
  clear h hBl hZl hBc hZc
  go_enter Try.func27, Try.ntmps27
  go_wp2_with fail
  go_loopw [3, 4] (fun v I wr => ∃ (i : Nat) (l : List ExtV), i ≤ n ∧ I = .int .i64 (i : Nat) ∧ Hid (OExt false wr w.heap.size v l) ∧ Hid (extsL l = extN B Z i) ∧ Hid (Below w.heap.size w wr)) (fun _ I _ => n - (intOf I).toNat)
  case atStart => exact ⟨0, [], Nat.zero_le _, rfl, OExt.nil _ _ _, rfl, Below.refl _ _⟩
  case round =>
    obtain ⟨i, l, hi, rfl, HO, HL, LW⟩ := hrel
    have k0 : wr.cell? ⟨g, 0, none⟩ = some (.slice AB n cB) := (LW.out.cell (p := ⟨g, 0, none⟩) hgw).trans c0
    have k1 : wr.cell? ⟨g, 1, none⟩ = some (.slice AZ n cZ) := (LW.out.cell (p := ⟨g, 1, none⟩) hgw).trans c1
    by_cases hlt : i < n
    · obtain ⟨qz, rfl, _, hqzw, hzc⟩ := HZC.out (by omega)
      obtain ⟨qb, rfl, _, hqbw, hbc⟩ := HBC.out (by omega)
      have hzat : ∀ t, t < n → wr.cell? ⟨qz, t, none⟩ = some (.bool (Z.getD t false)) := fun t ht => by
        rw [LW.out.cell (p := ⟨qz, t, none⟩) hqzw]
        refine hzc t _ ?_
        rw [List.getD_eq_getElem?_getD, List.getElem?_eq_getElem (show t < Z.length by rw [HZL.out]; exact ht)]
        rfl
      have hcz := hzat i hlt
      have hcb : wr.cell? ⟨qb, i, none⟩ = some (.int .u8 (B.getD i 0)) := by
        rw [LW.out.cell (p := ⟨qb, i, none⟩) hqbw]
        refine hbc i _ ?_
        rw [List.getD_eq_getElem?_getD, List.getElem?_eq_getElem (show i < B.length by rw [HBL.out]; exact hlt)]
        rfl
      have hxb := HR.out.byte.getD i
      have hsk := extN_skip (B := B) (Z := Z) (i := i)
      have hnw := extN_new (B := B) (Z := Z) (i := i)
      have hgrw := extN_grow (B := B) (Z := Z) (i := i)
      obtain ⟨x, hx⟩ : ∃ x, x = B.getD i 0 := ⟨_, rfl⟩
      rw [← hx] at hcb hxb hnw
      simp only [← hx] at hgrw
      obtain ⟨z, hz⟩ : ∃ z, z = Z.getD i false := ⟨_, rfl⟩
      rw [← hz] at hcz hsk hnw hgrw
      cases z
      · have HL' : Hid (extsL l = extN B Z (i + 1)) := by show _ = _; rw [hsk rfl]; exact HL.out
        clear hsk hnw hgrw hx hz hzat hzc hbc
        go_wp2_with fail
        go_roundw
        case rel => exact ⟨i + 1, l, hlt, by go_num, HO, HL', LW⟩
        case measure => simp [intOf]; omega
      · have hlen : l.length ≤ i := by
          have h1 := congrArg List.length HL.out
          rw [extsL_len] at h1
          have : (extN B Z i).length ≤ i := extN_count B Z i
          omega
        have hstep : ∃ (r : List (Nat × List Int)) (a : Nat) (bs : List Int), extN B Z (i + 1) = r ++ [(a, bs ++ [x])] ∧ ((i = 0 ∨ Z.getD (i - 1) false = false) → r = extN B Z i ∧ a = i ∧ bs = []) ∧ (¬ (i = 0 ∨ Z.getD (i - 1) false = false) → extN B Z i = r ++ [(a, bs)]) := by
          by_cases hq : i = 0 ∨ Z.getD (i - 1) false = false
          · exact ⟨extN B Z i, i, [], hnw rfl hq, fun _ => ⟨rfl, rfl, rfl⟩, fun h => absurd hq h⟩
          · obtain ⟨r, a, bs, h1, h2⟩ := hgrw rfl hq (by rw [HBL.out]; omega)
            exact ⟨r, a, bs, h2, fun h => absurd h hq, fun _ => h1⟩
        obtain ⟨r, a, bs, hE, hN1, hN2⟩ := hstep
        have HE := Lib.hid hE
        have HN1 := Lib.hid hN1
        have HN2 := Lib.hid hN2
        have HXB := Lib.hid hxb
        have hsw := LW.out.size
        have HZP : Hid (i ≠ 0 → wr.cell? ⟨qz, i - 1, none⟩ = some (.bool (Z.getD (i - 1) false))) := fun h => hzat (i - 1) (by omega)
        clear hE hN1 hN2 hsk hnw hgrw hx hxb hzat hzc hbc hz
        go_upto_region 6 with fail
        go_cut [35] (fun t wx => t = .bool (decide (i = 0 ∨ Z.getD (i - 1) false = false)) ∧ wx = wr)
        case first =>
          by_cases h0 : i = 0
          · have h0' : (i : Int) = 0 := by omega
            go_wp2_with fail
            go_meet
            exact ⟨by rw [decide_eq_true (Or.inl h0)], rfl⟩
          · have hc1 := HZP.out h0
            have h0' : ¬ (i : Int) = 0 := by omega
            have hdz : decide (i = 0 ∨ Z.getD (i - 1) false = false) = ((i : Int) == 0 || !Z.getD (i - 1) false) := by
              rw [show ((i : Int) == 0) = false from beq_false_of_ne h0']
              simp [h0]
            obtain ⟨zp, hzp⟩ : ∃ z, z = Z.getD (i - 1) false := ⟨_, rfl⟩
            have HDZ : Hid (decide (i = 0 ∨ Z.getD (i - 1) false = false) = ((i : Int) == 0 || !zp)) := by rw [hzp]; exact hdz
            rw [← hzp] at hc1
            clear hdz hzp
            go_wp2_with fail
            go_meet
            exact ⟨by rw [HDZ.out], rfl⟩
        case rest =>
          obtain ⟨rfl, rfl⟩ := hcut
          go_upto_if 35 with fail
          go_cut [3] (fun s3 wx => ∃ l2 y, Hid (OExt false wx w.heap.size s3 (l2 ++ [y])) ∧ Hid (extsL l2 = r) ∧ Hid (y.1 = a ∧ y.2.2.2.2 = bs) ∧ Hid (l2.length ≤ i) ∧ Hid (Below w.heap.size w wx))
          case first =>
            by_cases hq : i = 0 ∨ Z.getD (i - 1) false = false
            · rw [decide_eq_true hq]
              obtain ⟨q1, q2, q3⟩ := HN1.out hq
              have HQ := Lib.hid (And.intro q2 q3)
              have HQ1 : Hid (extsL l = r) := by show _ = _; rw [HL.out, q1]
              clear q1 q2 q3
              go_wp2_with (first
                | (at_builtin; refine wpList_append_litS extCells 2 (by omega) extCells_len extCells_one (.agg #[.int .i64 0, .slice none 0 0]) rfl 38 41 32 rfl (.tmp 36) (.tmp 39) Try.underlying38 info_ext rfl w.heap.size _ l (i, (none, 0, 0, [])) _ rfl rfl rfl HO.out.row (by omega) (by omega) hsw ?_; intro v7 w7 o7 s7)
                | fail)
              go_meet
              exact ⟨l, _, HO.out.push o7.out s7.out rfl, HQ1, ⟨HQ.out.1.symm, HQ.out.2.symm⟩, hlen, LW.out.trans (s7.out.below (fun j hj => (HO.out.row.block hj).1) hsw)⟩
            · rw [decide_eq_false hq]
              have q1 := HN2.out hq
              have q2 : extsL l = r ++ [(a, bs)] := HL.out.trans q1
              obtain ⟨l2, y, rfl, q3, q4, q5⟩ : ∃ l2 y, l = l2 ++ [y] ∧ extsL l2 = r ∧ y.1 = a ∧ y.2.2.2.2 = bs := by
                unfold extsL at q2
                obtain ⟨l2, t, rfl, h1, h2⟩ := List.map_eq_append_iff.1 q2
                obtain ⟨y, rfl, h3⟩ := List.map_eq_singleton_iff.1 h2
                cases h3
                exact ⟨l2, y, rfl, h1, rfl, rfl⟩
              rw [List.length_append, List.length_singleton] at hlen
              have hl2 : l2.length ≤ i := by omega
              have HQ := Lib.hid (And.intro q4 q5)
              have HQ3 := Lib.hid q3
              clear q1 q2 q3 q4 q5
              go_wp2_with fail
              go_meet
              exact ⟨l2, y, HO, HQ3, HQ, hl2, LW⟩
          case rest =>
            obtain ⟨l2, y, HO2, HL2, HY, HLN, LW2⟩ := hcut
            obtain ⟨M, hM⟩ : ∃ M, M = l2.length := ⟨_, rfl⟩
            have hl1 : (l2 ++ [y]).length = M + 1 := by rw [hM, List.length_append, List.length_singleton]
            obtain ⟨q, cN, hv⟩ := HO2.out.row.form (by omega)
            rw [hl1] at hv
            subst hv
            obtain ⟨A', n', c', e1, hls⟩ := HO2.out.lst
            cases e1
            obtain ⟨b', off, y', e1, _, hy', hd0, hd1, hh⟩ := hls.at (i := M) (by omega)
            cases e1
            have hyy : (l2 ++ [y])[M]? = some y := by rw [hM]; exact List.getElem?_concat_length
            obtain rfl : y' = y := by rw [hyy] at hy'; exact (Option.some.inj hy').symm
            simp only [Nat.zero_add] at hd0 hd1
            obtain ⟨ya, pA, pn, pc, px⟩ := y'
            have hMi := HLN.out
            have HM := Lib.hid hM
            have HMK := Lib.hid hyy
            rw [← hM] at hMi
            have hM6 : M ≤ 65536 := by omega
            have hMM : ¬ ((M : Int) + 1 ≤ (M : Int)) := by omega
            clear hl1 hls hh hyy hy' hM
            have hwA : w.heap.size ≤ wc.heap.size := LW2.out.size
            have kA : wc.cell? ⟨g, 0, none⟩ = some (.slice (some ⟨qb, 0, none⟩) n cB) := (LW2.out.cell (p := ⟨g, 0, none⟩) hgw).trans c0
            have kB : wc.cell? ⟨q, M * 2 + 1, none⟩ = some (.slice pA pn pc) := hd1
            have kC : wc.cell? ⟨qb, i, none⟩ = some (.int .u8 x) := (LW2.out.cell (p := ⟨qb, i, none⟩) hqbw).trans ((LW.out.cell (p := ⟨qb, i, none⟩) hqbw).symm.trans hcb)
            have hyt : ((ya, pA, pn, pc, px) : ExtV) ∈ l2 ++ [(ya, pA, pn, pc, px)] := List.mem_append_right _ (List.mem_singleton_self _)
            have hOE := HO2.out.each _ hyt
            have OP : Hid (OwnF (Value.int .u8) 5 wc w.heap.size (.slice pA pn pc) px) := hOE.1.1
            have fq := HO2.out.off hyt (i := q)
            have hqv : w.heap.size ≤ q := (HO2.out.row.block (i := q) rfl).1
            have hqw : q < wc.heap.size := HO2.out.row.lt (i := q) rfl
            have fP : Hid (∀ j, (Value.slice pA pn pc).ownBlock = some j → w.heap.size ≤ j ∧ j ≠ q) := fun j hj => ⟨(hOE.1.1.block hj).1, fun e => fq (by rw [← e]; exact hj) rfl⟩
            have SL : Hid (∀ {w' : World}, Below wc.heap.size wc w' → w'.cell? ⟨g, 0, none⟩ = some (.slice (some ⟨qb, 0, none⟩) n cB) ∧ w'.cell? ⟨q, M * 2 + 1, none⟩ = some (.slice pA pn pc) ∧ w'.cell? ⟨qb, i, none⟩ = some (.int .u8 x)) := fun hb =>
              ⟨(hb.cell (p := ⟨g, 0, none⟩) (by show g < _; omega)).trans kA, (hb.cell (p := ⟨q, M * 2 + 1, none⟩) hqw).trans kB, (hb.cell (p := ⟨qb, i, none⟩) (by show qb < _; omega)).trans kC⟩
            have SP : Hid (∀ {w4 w5 : World}, Below wc.heap.size wc w4 → Spare (fun j => (Value.slice pA pn pc).ownBlock = some j) w4 w5 → w5.cell? ⟨g, 0, none⟩ = some (.slice (some ⟨qb, 0, none⟩) n cB) ∧ w5.cell? ⟨q, M * 2 + 1, none⟩ = some (.slice pA pn pc) ∧ w5.cell? ⟨qb, i, none⟩ = some (.int .u8 x)) := fun hb hs =>
              ⟨hs.cellAt (fun h => by have := (fP.out g h).1; omega) (SL.out hb).1, hs.cellAt (fun h => (fP.out q h).2 rfl) (SL.out hb).2.1, hs.cellAt (fun h => by have := (fP.out qb h).1; omega) (SL.out hb).2.2⟩
            have hpl : px.length ≤ i := by
              have h1 := (extN_ok B Z (i + 1) (by rw [HBL.out]; omega)).1.ends (a, bs ++ [x]) (by rw [HE.out]; exact List.mem_append_right _ (List.mem_singleton_self _))
              have h2 : px = bs := HY.out.2
              simp only [List.length_append, List.length_singleton, ← h2] at h1
              omega
            have HPL : Hid ((px.length + 1) * 1 ≤ 140737488355328 ∧ px.length + 1 ≤ 9223372036854775807) := ⟨by omega, by omega⟩
            have HPB : Hid (Bytes (px ++ [x])) := fun z hz => by
              rcases List.mem_append.1 hz with hz | hz
              · exact hOE.2.1 z hz
              · obtain rfl := List.mem_singleton.1 hz
                exact HXB.out
            have HPX : Hid ((px ++ [x]).length ≤ 140737488355328) := by show _ ≤ _; rw [List.length_append, List.length_singleton]; omega
            have HMK : Hid ((l2 ++ [((ya, pA, pn, pc, px) : ExtV)])[M]? = some (ya, pA, pn, pc, px)) := HMK
            have HSET : Hid (∀ z : ExtV, (l2 ++ [((ya, pA, pn, pc, px) : ExtV)]).set M z = l2 ++ [z]) := fun z => by rw [HM.out]; simp
            have HEX2 : Hid (∀ (A5 : Option Addr) (n5 c5 : Nat), extsL (l2 ++ [(ya, A5, n5, c5, px ++ [x])]) = extN B Z (i + 1)) := fun A5 n5 c5 => by
              have h1 : ya = a := HY.out.1
              have h2 : px = bs := HY.out.2
              rw [HE.out, ← HL2.out, ← h1, ← h2]
              unfold extsL
              rw [List.map_append]
              rfl
            clear hyt hOE fq hd0 hd1 hpl HE HY HL2 HN1 HN2 HO HL HZP HM hcb hcz k0 k1
            go_upto_region 9 with fail
            refine wp_region_heldK 17 (fun w' => w'.cell? ⟨g, 0, none⟩ = some (.slice (some ⟨qb, 0, none⟩) n cB) ∧ w'.cell? ⟨q, M * 2 + 1, none⟩ = some (.slice pA pn pc) ∧ w'.cell? ⟨qb, i, none⟩ = some (.int .u8 x)) (by kernel_rfl) ?_
            change wpAnyK _ _ _ _ _ _ _ _ _ wc.drew
            have Sr0 : Hid (wc.drew.cell? ⟨g, 0, none⟩ = some (.slice (some ⟨qb, 0, none⟩) n cB) ∧ wc.drew.cell? ⟨q, M * 2 + 1, none⟩ = some (.slice pA pn pc) ∧ wc.drew.cell? ⟨qb, i, none⟩ = some (.int .u8 x)) := ⟨kA, kB, kC⟩
            have br0 : Hid (True) := trivial
            refine wpAnyK_take (i := 0) (v := _) rfl (by kernel_rfl) (by kernel_rfl) (by kernel_rfl) (fun _ _ _ h => h) rfl (by kernel_rfl) (by kernel_rfl) (by decide) (yieldsIf_move (by kernel_rfl) (.tmp 3) rfl (.slice (some ⟨q, 0, none⟩) (M + 1) cN) (by kernel_rfl)) Sr0.out ?_
            refine wpAnyK_take (i := 1) (v := _) rfl (by kernel_rfl) (by kernel_rfl) (by kernel_rfl) (fun _ _ _ h => h) rfl (by kernel_rfl) (by kernel_rfl) (by decide) (yieldsIf_move (by kernel_rfl) (.tmp 5) rfl (.int .i64 (M : Nat)) (by kernel_rfl)) Sr0.out ?_
            refine wpAnyK_take (i := 2) (v := _) rfl (by kernel_rfl) (by kernel_rfl) (by kernel_rfl) (fun _ _ _ h => h) rfl (by kernel_rfl) (by kernel_rfl) (by decide) (yieldsIf_move (by kernel_rfl) (.tmp 3) rfl (.slice (some ⟨q, 0, none⟩) (M + 1) cN) (by kernel_rfl)) Sr0.out ?_
            refine wpAnyK_take (i := 3) (v := _) rfl (by kernel_rfl) (by kernel_rfl) (by kernel_rfl) (fun _ _ _ h => h) rfl (by kernel_rfl) (by kernel_rfl) (by decide) (yieldsIf_move (by kernel_rfl) (.tmp 5) rfl (.int .i64 (M : Nat)) (by kernel_rfl)) Sr0.out ?_
            refine wpAnyK_take (i := 4) (v := .pointer (some ⟨q, M * 2, none⟩)) rfl (by kernel_rfl) (by kernel_rfl) (by kernel_rfl) (fun _ _ _ h => h) rfl (by kernel_rfl) (by kernel_rfl) (by decide) (.inl ⟨by kernel_rfl, fun w _ => by go_simp⟩) Sr0.out ?_
            refine wpAnyK_take (i := 5) (v := _) rfl (by kernel_rfl) (by kernel_rfl) (by kernel_rfl) (fun _ _ _ h => h) rfl (by kernel_rfl) (by kernel_rfl) (by decide) (yieldsIf_fld (by kernel_rfl) _ (.tmp 48) 1 rfl (.pointer (some ⟨q, M * 2, none⟩)) (.pointer (some ⟨q, M * 2 + 1, none⟩)) (by kernel_rfl) (fun w => by go_simp)) Sr0.out ?_
            refine wpAnyK_take (i := 6) (v := _) rfl (by kernel_rfl) (by kernel_rfl) (by kernel_rfl) (fun _ _ _ h => h) rfl (by kernel_rfl) (by kernel_rfl) (by decide) (yieldsIf_load_one (by kernel_rfl) _ (.tmp 49) rfl q (M * 2 + 1) (by kernel_rfl) (.slice pA pn pc) (fun _ h => h.2.1) _ Try.underlying29 rfl) Sr0.out ?_
            refine wpAnyK_take (i := 7) (v := _) rfl (by kernel_rfl) (by kernel_rfl) (by kernel_rfl) (fun _ _ _ h => h) rfl (by kernel_rfl) (by kernel_rfl) (by decide) (yieldsIf_move (by kernel_rfl) (.tmp 0) rfl (.pointer (some ⟨g, 0, none⟩)) (by kernel_rfl)) Sr0.out ?_
            refine wpAnyK_take (i := 8) (v := _) rfl (by kernel_rfl) (by kernel_rfl) (by kernel_rfl) (fun _ _ _ h => h) rfl (by kernel_rfl) (by kernel_rfl) (by decide) (yieldsIf_nil (by kernel_rfl) (.tmp 51) rfl ⟨g, 0, none⟩ (by kernel_rfl)) Sr0.out ?_
            refine wpAnyK_take (i := 9) (v := _) rfl (by kernel_rfl) (by kernel_rfl) (by kernel_rfl) (fun _ _ _ h => h) rfl (by kernel_rfl) (by kernel_rfl) (by decide) (yieldsIf_fld (by kernel_rfl) _ (.tmp 52) 0 rfl (.pointer (some ⟨g, 0, none⟩)) (.pointer (some ⟨g, 0, none⟩)) (by kernel_rfl) (fun w => by go_simp)) Sr0.out ?_
            refine wpAnyK_take (i := 10) (v := _) rfl (by kernel_rfl) (by kernel_rfl) (by kernel_rfl) (fun _ _ _ h => h) rfl (by kernel_rfl) (by kernel_rfl) (by decide) (yieldsIf_load_one (by kernel_rfl) _ (.tmp 53) rfl g (0) (by kernel_rfl) (.slice (some ⟨qb, 0, none⟩) n cB) (fun _ h => h.1) _ Try.underlying29 rfl) Sr0.out ?_
            refine wpAnyK_take (i := 11) (v := _) rfl (by kernel_rfl) (by kernel_rfl) (by kernel_rfl) (fun _ _ _ h => h) rfl (by kernel_rfl) (by kernel_rfl) (by decide) (yieldsIf_move (by kernel_rfl) (.tmp 4) rfl (.int .i64 (i : Nat)) (by kernel_rfl)) Sr0.out ?_
            refine wpAnyK_take (i := 12) (v := .pointer (some ⟨qb, i, none⟩)) rfl (by kernel_rfl) (by kernel_rfl) (by kernel_rfl) (fun _ _ _ h => h) rfl (by kernel_rfl) (by kernel_rfl) (by decide) (.inl ⟨by kernel_rfl, fun w _ => by go_simp⟩) Sr0.out ?_
            refine wpAnyK_take (i := 13) (v := _) rfl (by kernel_rfl) (by kernel_rfl) (by kernel_rfl) (fun _ _ _ h => h) rfl (by kernel_rfl) (by kernel_rfl) (by decide) (yieldsIf_load_one (by kernel_rfl) _ (.tmp 56) rfl qb (i) (by kernel_rfl) (.int .u8 x) (fun _ h => h.2.2) _ Try.underlying5 rfl) Sr0.out ?_
            refine wpAnyK_one 14 _ (by kernel_rfl) rfl fun K hK => ?_
            refine step_slice_blk rfl _ _ _ _ rfl Try.underlying29 [.int .u8 x] (by kernel_rfl) ?_
            intro g4 w4 hg41 hg42 X4 L4
            have LA4 : Hid (Below wc.heap.size wc w4) := ⟨L4.out.os, L4.out.tape, L4.out.output, L4.out.size, L4.out.block⟩
            have Sr1 : Hid (w4.cell? ⟨g, 0, none⟩ = some (.slice (some ⟨qb, 0, none⟩) n cB) ∧ w4.cell? ⟨q, M * 2 + 1, none⟩ = some (.slice pA pn pc) ∧ w4.cell? ⟨qb, i, none⟩ = some (.int .u8 x)) := SL.out LA4.out
            refine hK _ _ (fun _ => Sr1.out) ?_
            clear hK K
            refine wpAnyK_one 15 _ (by kernel_rfl) rfl fun K hK => ?_
            have OP4 := Lib.hid (OP.out.below LA4.out)
            refine step_append_any (Value.int .u8) (fun _ => rfl) (.int .u8 0) rfl 29 5 1 rfl (.tmp 50) (.tmp 58) Try.underlying29 info_u8 rfl w.heap.size (.slice pA pn pc) px [x] 1 1 g4 rfl (by kernel_rfl) (by kernel_rfl) X4.out OP4.out HPL.out.1 HPL.out.2 (Nat.le_trans hwA LA4.out.size) ?_
            intro v5 w5 o5 s5 n5
            obtain ⟨A5, n5', c5, e5, _⟩ := o5.out.open
            subst e5
            have Sr2 : Hid (w5.cell? ⟨g, 0, none⟩ = some (.slice (some ⟨qb, 0, none⟩) n cB) ∧ w5.cell? ⟨q, M * 2 + 1, none⟩ = some (.slice pA pn pc) ∧ w5.cell? ⟨qb, i, none⟩ = some (.int .u8 x)) := SP.out LA4.out s5.out
            refine hK _ _ (fun _ => Sr2.out) ?_
            clear hK K
            refine wpAnyK_take (i := 16) (v := .pointer (some ⟨q, M * 2, none⟩)) rfl (by kernel_rfl) (by kernel_rfl) (by kernel_rfl) (fun _ _ _ h => h) rfl (by kernel_rfl) (by kernel_rfl) (by decide) (.inl ⟨by kernel_rfl, fun w _ => by go_simp⟩) Sr2.out ?_
            refine wpAnyK_frame fun a1 ha1 => ?_
            have e1_60 : a1.eval (.tmp 60) = .pointer (some ⟨q, M * 2, none⟩) := by rw [ha1]; kernel_rfl
            refine wpAnyK_one 17 _ (by kernel_rfl) rfl fun K hK => ?_
            go_simp
            refine hK _ _ (fun h => Bool.noConfusion (show true = false from h)) ?_
            clear hK K
            refine wpAnyK_frame fun a2 ha2 => ?_
            try rw [ha1] at ha2
            have e2_61 : a2.eval (.tmp 61) = .pointer (some ⟨q, M * 2 + 1, none⟩) := by rw [ha2]; kernel_rfl
            have e2_59 : a2.eval (.tmp 59) = .slice A5 n5' c5 := by rw [ha2]; kernel_rfl
            refine wpAnyK_one 18 _ (by kernel_rfl) rfl fun K hK => ?_
            have OR5 := Lib.hid (((HO2.out.row.below LA4.out).sparS s5.out fun j hj hs => (fP.out j hs).2 (by cases hj; rfl)))
            refine step_store_rowS extCells 2 (by omega) extCells_len rfl 29 (.tmp 61) (.tmp 59) (by kernel_rfl) q M 1 (M + 1) cN w.heap.size 41 e2_61 (l2 ++ [((ya, pA, pn, pc, px) : ExtV)]) (ya, pA, pn, pc, px) (ya, A5, n5', c5, px ++ [x]) (.slice A5 n5' c5) e2_59 OR5.out HMK.out (by omega) rfl (by kernel_rfl) rfl ?_
            intro w6 o6 h6
            rw [HSET.out] at o6
            refine hK _ _ (fun h => Bool.noConfusion (show true = false from h)) ?_
            clear hK K
            rw [ha2]
            refine wpAnyK_done (by kernel_rfl) ?_ _
            have O6 : Hid (OExt false w6 w.heap.size (.slice (some ⟨q, 0, none⟩) (M + 1) cN) (l2 ++ [((ya, A5, n5', c5, px ++ [x]) : ExtV)])) := HO2.out.regrow LA4.out o5.out HPB.out HPX.out s5.out n5.out o6.out h6.out rfl rfl
            have LW6 : Hid (Below w.heap.size w w6) := ((LW2.out.trans (LA4.out.mono hwA)).trans (s5.out.below (fun j hj => (fP.out j hj).1) (Nat.le_trans hwA LA4.out.size))).trans ((Spare.of_only h6.out).below (fun j hj => by rw [hj]; exact hqv) (Nat.le_trans hwA (Nat.le_trans LA4.out.size s5.out.size)))
            have HE6 := Lib.hid (HEX2.out A5 n5' c5)
            clear OR5 o5 s5 n5 o6 h6 LA4 X4 L4 OP4 HO2 LW2 LW
            go_wp2_with fail
            go_roundw
            case rel => exact ⟨i + 1, _, hlt, by go_num, O6, HE6, LW6⟩
            case measure => simp [intOf]; omega
    · obtain rfl : i = n := by omega
      go_wp2_with fail
      go_ret
      exact ⟨_, l, rfl, HO.out, by rw [HL.out, HEX.out], LW.out⟩
end Go.Proofs.Ytgbhnnobbciemaa
