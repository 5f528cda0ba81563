import Derived.WalkKit
import Derived.Deep.Draws
import Derived.Laws.Rows
import Derived.Laws.OwnMore
import Derived.Laws.Bits64
import Derived.Laws.BitsAllLaws
import Derived.OpenShut
import Derived.Test.YtgfflnjggnadpaaDoorRows
import Derived.Lib.Hide
import Derived.BigQuiet
import Derived.Deep.QuietTactic
import Derived.Laws.CopyOwn
import Derived.Laws.AppendOwnNone
import Derived.Laws.Tables
import Derived.Laws.NewFold
import Derived.Deep.WholeRow
import Derived.StillTailTactics
import Derived.Deep.RegionLaw
import Derived.WalkSpells
import Derived.WalkLawsBesides
import Derived.Lib.AppendZeros
import Derived.Deep.RegionWith
import Derived.Deep.DeepCutAuto
import Derived.OrdersHeld
import Derived.Laws.StructEq
import Derived.ChangeKeysEq
import Derived.Laws.AppendOwn
import Derived.OwnWalk
import Derived.Lib.OthersKept
import Derived.Laws.BytesArg
import Derived.Laws.IdiomStrings
import Derived.ProofKit
import Derived.ShutString
import Derived.SizedLaws
import Derived.ChangeOld
import Derived.Great.Walk
import Derived.Deep.MidRow
import Derived.Lib.SliceRun
import Derived.OneCell
import Derived.Deep.Strs
import Derived.Deep.Slices
import Derived.Laws.MakeOwn
import Derived.Lib.SlBytesConst
import Derived.Test.YtgfflnjggnadpaaDoorWAC
import Derived.Test.YtgfflnjggnadpaaDoorWAE
import Derived.Test.YtgfflnjggnadpaaDoorWAF
import Derived.Test.YtgfflnjggnadpaaDoorWAH
import Derived.Test.YtgfflnjggnadpaaDoorWAL
import Derived.Test.YtgfflnjggnadpaaDoorWAM
namespace Go.Proofs.YtgfflnjggnadpaaDoor
set_option linter.all false
set_option maxRecDepth 100000
open Go.RowKit
set_option linter.unusedVariables false
theorem setNx_get (ys : List Int) (n : Int) (k : Nat) (hl : 24 ≤ ys.length) (hk : k < 20 ∨ 23 < k) : (setNx ys n).getD k 0 = ys.getD k 0 := by
  unfold setNx
  have h1 : (ys.take 20 ++ le n 4).length = 24 := by rw [List.length_append, List.length_take, le_length]; omega
  rcases hk with hk | hk
  · rw [List.getD_eq_getElem?_getD, List.getD_eq_getElem?_getD, List.append_assoc, List.getElem?_append_left (by rw [List.length_take]; omega), List.getElem?_take, if_pos hk]
  · rw [List.getD_eq_getElem?_getD, List.getD_eq_getElem?_getD, List.getElem?_append_right (by omega), h1, List.getElem?_drop, show 24 + (k - 24) = k from by omega]
theorem back_facts (last : Bool) {m : List Int} (hb : Bytes m) (h : msgOk m = true) (hs : padLen m.length ≤ 4294967295) :
    m.length ≤ (rawC last m).length ∧ (rawC last m).length ≤ m.length + 7 ∧ (last = false → (rawC last m).length % 8 = 0) ∧ (∀ k, k < m.length → (k < 20 ∨ 23 < k) → (rawC last m).getD k 0 = m.getD k 0) ∧
      getErrH (rawC last m) 0 = 0 ∧ (getOfH (rawC last m) 0).nx = (if last = true then 0 else ((rawC last m).length : Int)) ∧ Bytes (rawC last m) := by
  have h64 := (msg_of hb h).1
  have hl := rawC_len last m h64
  have hpf := pad_facts m.length
  have hp := part_begin [] last hb h hs [] (fun _ => rfl)
  rw [List.append_nil] at hp
  have e : sealC [] last m = rawC last m := by unfold sealC; rw [if_pos rfl]
  rw [e] at hp
  have hok := partE_ok hp.1
  refine ⟨by rw [hl]; split <;> omega, by rw [hl]; split <;> omega, fun hf => by rw [hl, if_neg (by rw [hf]; decide)]; omega, fun k hk hk2 => ?_, hok.1, ?_, rawC_bytes last hb⟩
  · unfold rawC
    cases last
    · rw [if_neg (by decide), setNx_get _ _ _ (by rw [padOf_len]; omega) hk2]
      unfold padOf
      rw [List.getD_eq_getElem?_getD, List.getD_eq_getElem?_getD, List.getElem?_append_left hk]
    · rfl
  · have h2 := hp.2.1
    unfold nxt at h2
    have h3 := (getOfH_ok (rawC last m) 0 (rawC_bytes last hb)).nx.1
    cases last
    · simp only [Bool.false_eq_true, if_false] at h2 ⊢
      omega
    · simp only [if_true] at h2 ⊢
      omega
set_option maxHeartbeats 16000000 in
theorem walk_ChainBack (W : World) (hT : KTab W) (A0 : Option Addr) (n0 c0 : Nat) (z0 : List PartT) (l0 : n0 ≤ c0) (r0 : c0 ≤ 1048576 ∧ ∀ y ∈ z0, y.2.2.1 ≤ 1048576) (h0 : Lst W W.heap.size A0 c0 c0 z0) :
    Calls Tryd.prog 6 #[.slice A0 n0 c0] W fun e W' => e = .returned (.bool true) ∧ Below W.heap.size W W' := by
  obtain ⟨hx, hn, hs⟩ := lst_facts l0 r0 h0
  obtain ⟨ps, hps⟩ : ∃ ps, ps = z0.take n0 := ⟨_, rfl⟩
  rw [← hps] at hx hs
  have hb := rows_bytes hx hs
  have hb2 : ∀ m ∈ rowsL ps, Bytes m ∧ m.length ≤ 4294967000 := fun m hm => ⟨(hb m hm).1, by have := (hb m hm).2; omega⟩
  have hl : (rowsL ps).length = n0 := by rw [rowsL, List.length_map]; exact hx.row.len
  have cj := Join_anyC W A0 n0 c0 ps hx hn (fun p hp => by have := hs p hp; omega) hT
  unfold SealPost at cj
  have hso := sealOf_small [] (rowsL ps) hb2
  have CV := fun w hK => Lib.hid (livesC_any w hK)
  have HT := Lib.hid hT
  by_cases he : chainErr (rowsL ps) = 0
  · have hcf := chain_facts [] he hb2
    obtain ⟨_, _, hall2⟩ := chainErr_ok he
    have HPF : Hid (∀ (i : Nat) (x : List Int), (sealL [] (rowsL ps))[i]? = some x → ∃ m : List Int, (rowsL ps)[i]? = some m ∧ m.length ≤ 1048576 ∧ Bytes m ∧ x = rawC (decide (i + 1 = n0)) m ∧
        m.length ≤ x.length ∧ x.length ≤ m.length + 7 ∧ (decide (i + 1 = n0) = false → x.length % 8 = 0) ∧ (∀ k, k < m.length → (k < 20 ∨ 23 < k) → x.getD k 0 = m.getD k 0) ∧
        getErrH x 0 = 0 ∧ (getOfH x 0).nx = (if decide (i + 1 = n0) = true then 0 else (x.length : Int))) := by
      intro i x hi
      have hil : i < (rowsL ps).length := by have := (List.getElem?_eq_some_iff.1 hi).1; rwa [sealL_len] at this
      rw [sealL_get [] _ i hil] at hi
      have hgi : (rowsL ps)[i]? = some ((rowsL ps).getD i []) := by rw [List.getD_eq_getElem?_getD, List.getElem?_eq_getElem hil]; rfl
      have hm : (rowsL ps).getD i [] ∈ rowsL ps := List.mem_of_getElem? hgi
      have h2 := hb _ hm
      have hpf := pad_facts ((rowsL ps).getD i []).length
      have hx1 : sealC [] (decide (i + 1 = (rowsL ps).length)) ((rowsL ps).getD i []) = x := Option.some.inj hi
      unfold sealC at hx1
      rw [if_pos rfl, hl] at hx1
      have h3 := back_facts (decide (i + 1 = n0)) h2.1 (hall2 _ hm) (by omega)
      rw [hx1] at h3
      exact ⟨_, hgi, h2.2, h2.1, hx1.symm, h3.1, h3.2.1, h3.2.2.1, h3.2.2.2.1, h3.2.2.2.2.1, h3.2.2.2.2.2.1⟩
    obtain ⟨B, hB⟩ : ∃ B, B = sealOf [] (rowsL ps) := ⟨_, rfl⟩
    obtain ⟨PL, hPL⟩ : ∃ PL, PL = sealL [] (rowsL ps) := ⟨_, rfl⟩
    have hPLl : PL.length = n0 := by rw [hPL, sealL_len, hl]
    rw [he, ← hB] at cj
    rw [← hB] at hcf hso
    rw [← hPL] at hcf HPF
    obtain ⟨_, _, hbeg, hn1, _, hsp⟩ := hcf
    obtain ⟨M, hM⟩ : ∃ M, M = B.length := ⟨_, rfl⟩
    have csp := fun (w : World) A c (h : Holds w w.heap.size A M c B) => Split_any w A M c B h (by rw [hM]; have := hso.1; omega)
    unfold SplitPost at csp
    have cg := fun (w : World) A c (h : Holds w w.heap.size A M c B) => RGetH_any w A M c B 0 h (by omega)
    unfold GetHPost at cg
    have hgk := getOfH_ok B 0 hso.2
    have hge := (partE_ok hbeg).1
    have CJ := Lib.hid cj
    have HSO := Lib.hid hso
    have HM := Lib.hid hM
    have HPL := Lib.hid hPLl
    have HX := Lib.hid hx
    have HRL : Hid ((rowsL ps).length = n0) := hl
    obtain ⟨g, hg⟩ : ∃ g, g = getOfH B 0 := ⟨_, rfl⟩
    rw [← hg] at hgk hsp
    simp only [← hg, hge] at cg
    have cha := fun (w : World) => RHasF_any w g hgk 4 (by omega)
    have hrl : decide (g.fl / 4 % 2 = 1) = isRel g.fl := rfl
    simp only [hrl] at cha
    obtain ⟨z, hz⟩ : ∃ z, z = isRel g.fl := ⟨_, rfl⟩
    rw [← hz] at hsp
    simp only [← hz] at cha
    have HL := Lib.hid (hcells_len hgk)
    have HO := Lib.hid (hcells_one g)
    have HZ := Lib.hid (hcells_len zeroHd_ok)
    have ZH := Lib.hid zero_hd
    obtain ⟨cs, hcs⟩ : ∃ cs, cs = hcells g := ⟨_, rfl⟩
    obtain ⟨zs, hzs⟩ : ∃ zs, zs = hcells zeroHd := ⟨_, rfl⟩
    unfold hv at cg cha
    rw [← hzs] at HZ ZH
    rw [← hcs] at HL HO
    simp only [← hcs] at cg cha
    have CG := Lib.hid cg
    have CHA := Lib.hid cha
    simp only [hsp] at csp
    rw [hl] at hn1
    clear hx hs hps hb hb2 hl cj hso he hall2 hB hPL hPLl hbeg hsp hM cg hgk hge hg cha hrl hz hcs hzs h0 hT
    cases z
    · simp only [Bool.false_eq_true, if_false] at csp
      have CSP := Lib.hid csp
      clear csp
      go_enter Tryd.func6, Tryd.ntmps6
      go_wp2_with fail
      refine CJ.out.mono ?_
      rintro e w1 ⟨v1, rfl, o1, b1⟩
      obtain ⟨A2, c2, rfl, h2⟩ := Own.holds (show Own _ _ _ _ from o1.own) HSO.out.2 (by have := HSO.out.1; omega)
      rw [← HM.out] at h2 ⊢
      have H2 := Lib.hid h2
      have B1 := Lib.hid b1
      clear o1 h2 b1 CJ
      go_wp2_with fail
      refine (CG.out w1 A2 c2 H2.out).mono ?_
      rintro e w2 ⟨rfl, b2⟩
      have H3 := Lib.hid (H2.out.over b2)
      have B2 := Lib.hid (step B1.out b2)
      clear b2 H2 B1 CG
      go_wp2_with (first
        | ((with_reducible show wpList _ _ _ (⟨some 5, _, _, _, _, _⟩ :: _) _ _); refine wpList_alloc_blk rfl _ rfl zs _ ZH ?_; intro g4 w5 hg41 hg42 X4 L5)
        | ((with_reducible show wpList _ _ _ (⟨none, .store _ (.tmp 5) _, _, _, _, _⟩ :: _) _ _); refine wpList_store_blk rfl _ (.tmp 5) (.tmp 29) rfl g4 rfl _ zs cs rfl X4 26 size_hd HZ HL HO ?_; intro w6 X6 O6 hg6)
        | fail)
      have L26 := Lib.hid (below_only L5.out O6.out hg41)
      refine (CSP.out w6 A2 c2 (H3.out.over L26.out)).mono ?_
      rintro e w7 ⟨v2, qs, rfl, o2, q2, b7⟩
      obtain ⟨A3, n3, c3, rfl, l3⟩ := o2.lst
      obtain rfl : n3 = n0 := by
        have h1 := l3.row.len
        have h2 := congrArg List.length q2
        rw [rowsL, List.length_map] at h2
        have := HPL.out
        omega
      have HL7 := Lib.hid l3
      have HQ7 := Lib.hid q2
      have X7 := Lib.hid (X6.out.over b7)
      have B7 := Lib.hid (step (step B2.out L26.out) b7)
      clear o2 l3 q2 b7 H3 B2 CSP L5 O6 X4 X6 L26 hg41 hg42 hg6
      go_wp2_with (first
        | ((with_reducible show wpList _ _ _ (⟨some 36, _, _, _, _, _⟩ :: _) _ _); refine wpList_load_blk rfl _ (.tmp 5) rfl g4 rfl _ cs X7 26 _ Tryd.underlying49 rfl size_hd HL ?_)
        | fail)
      refine (CHA.out w7).mono ?_
      rintro e w8 ⟨rfl, b8⟩
      have HL8 := Lib.hid (HL7.out.over b8)
      have B8 := Lib.hid (step B7.out b8)
      have HX8 := Lib.hid (HX.out.over B8.out)
      have hwn : IntKind.i64.wrap ((n3 : Int) - 1) = (n3 : Int) - 1 := by rw [IntKind.wrap_i64]; omega
      clear b8 HL7 B7 X7 CHA HX
      go_wp2_with fail
      go_loopw [9] (fun i wr => ∃ k : Nat, k ≤ n3 ∧ i = .int .i64 k ∧ Hid (Below w8.heap.size w8 wr)) (fun i _ => n3 - (intOf i).toNat)
      case atStart => exact ⟨0, by omega, rfl, Below.refl _ _⟩
      case round =>
        obtain ⟨k, hk, rfl, hb⟩ := hrel
        have LWR := Lib.hid (step B8.out hb.out)
        by_cases hlt : k < n3
        · obtain ⟨b, off, p, rfl, hbb, hp, hcell, hhp⟩ := (HL8.out.over hb.out).at hlt
          obtain ⟨bl, offl, q, rfl, hbbl, hq, hcelll, hhq⟩ := (HX8.out.over hb.out).at hlt
          have hxk : PL[k]? = some p.2.2.2 := by rw [← HQ7.out, rowsL, List.getElem?_map, hp]; rfl
          obtain ⟨m, hm, f1, f2, f3, f4, f5, f6, f7, f8, f9⟩ := HPF.out k _ hxk
          have hqm : q.2.2.2 = m := by
            rw [rowsL, List.getElem?_map, hq] at hm
            exact Option.some.inj hm
          subst hqm
          have cnx := fun (w : World) (h : Holds w w.heap.size p.1 p.2.1 p.2.2.1 p.2.2.2) => NextC_any w _ _ _ _ h
          unfold NextPost at cnx
          simp only [f8, f9] at cnx
          have hpl := hhp.len
          have hql := hhq.len
          rw [hpl] at f4 f5 f6
          rw [hql] at f1 f4 f5
          simp only [hql] at f7
          simp only [hpl] at cnx
          obtain ⟨⟨pA, pn, pc, px⟩, hpe⟩ : ∃ r, r = p := ⟨_, rfl⟩
          obtain ⟨⟨qA, qn, qc, qx⟩, hqe⟩ : ∃ r, r = q := ⟨_, rfl⟩
          rw [← hpe] at hcell cnx hhp f4 f5 f6 f7
          rw [← hqe] at hcelll hhq f1 f4 f5 f7
          dsimp only at hcell cnx hhp f4 f5 f6 f7 hcelll hhq f1
          have HP := Lib.hid hhp
          have HQc := Lib.hid hhq
          have F7 := Lib.hid f7
          have q1 : decide (pn < qn) = false := decide_eq_false (by omega)
          have q1' : decide ((pn : Int) < (qn : Int)) = false := decide_eq_false (by omega)
          have hw7 : IntKind.i64.wrap ((qn : Int) + 7) = (qn : Int) + 7 := by rw [IntKind.wrap_i64]; omega
          have q2 : decide ((qn : Int) + 7 < (pn : Int)) = false := decide_eq_false (by omega)
          have q2' : decide (qn + 7 < pn) = false := decide_eq_false (by omega)
          clear hp hq hxk hm f2 f3 f7 f8 f9 hpl hql hpe hqe hhp hhq
          by_cases hla : k + 1 = n3
          · have q3 : decide ((k : Int) < (n3 : Int) - 1) = false := decide_eq_false (by omega)
            rw [decide_eq_true hla] at cnx
            simp only [if_true] at cnx
            have CNX := Lib.hid cnx
            have hki : (k : Int) < (n3 : Int) := by omega
            clear cnx f6
            go_wp2_with fail
            go_big_quiet (fail)
            go_wp2_with fail
            have HPo := Lib.hid (HP.out.drewN nq)
            have HQo := Lib.hid (HQc.out.drewN nq)
            have hco : (wr.drewN nq).cell? ⟨b, off + k, none⟩ = some (.slice pA pn pc) := hcell
            have hcol : (wr.drewN nq).cell? ⟨bl, offl + k, none⟩ = some (.slice qA qn qc) := hcelll
            have hbo : Hid (Below w8.heap.size w8 (wr.drewN nq)) := below_drewN hb.out nq
            obtain ⟨wo, hwo⟩ : ∃ wo, wo = wr.drewN nq := ⟨_, rfl⟩
            change Hid (Holds (wr.drewN nq) (wr.drewN nq).heap.size pA pn pc px) at HPo
            change Hid (Holds (wr.drewN nq) (wr.drewN nq).heap.size qA qn qc qx) at HQo
            rw [← hwo] at HPo HQo hco hcol hbo ⊢
            clear hwo hcell hcelll HP HQc hb LWR
            go_loopw [10] (fun i wr => ∃ j : Nat, j ≤ qn ∧ i = .int .i64 j ∧ ∃ d, Hid (wr = wo.drewN d)) (fun i _ => qn - (intOf i).toNat)
            case atStart => exact ⟨0, by omega, rfl, 0, rfl⟩
            case round =>
              obtain ⟨j, hj, rfl, d, hwd⟩ := hrel
              have gco : wr.cell? ⟨b, off + k, none⟩ = some (.slice pA pn pc) := by rw [hwd.out]; exact hco
              have gcol : wr.cell? ⟨bl, offl + k, none⟩ = some (.slice qA qn qc) := by rw [hwd.out]; exact hcol
              have HPx : Hid (Holds wr wr.heap.size pA pn pc px) := by rw [hwd.out]; exact HPo.out.drewN d
              have HQx : Hid (Holds wr wr.heap.size qA qn qc qx) := by rw [hwd.out]; exact HQo.out.drewN d
              by_cases hlj : j < qn
              · have hlji : (j : Int) < (qn : Int) := by omega
                by_cases hj1 : j < 20
                · have hbe := F7.out j hlj (.inl hj1)
                  obtain ⟨b1, o1, rfl, _, hc1⟩ := HPx.out.cells (by omega)
                  obtain ⟨b2, o2, rfl, _, hc2⟩ := HQx.out.cells (by omega)
                  have y1 := hc1 j (by omega)
                  have y2 := hc2 j (by omega)
                  rw [hbe] at y1
                  obtain ⟨y, hy⟩ : ∃ y, y = qx.getD j 0 := ⟨_, rfl⟩
                  rw [← hy] at y1 y2
                  have hyy : (y != y) = false := by simp
                  have hjp : (j : Int) < (pn : Int) := by omega
                  have hjq : (j : Int) < (qn : Int) := by omega
                  clear hc1 hc2 hbe hy
                  have d1 : decide ((j : Int) < 20) = true := decide_eq_true (by omega)
                  have d1' : decide (j < 20) = true := decide_eq_true (by omega)
                  go_wp2_with fail
                  go_big_quiet (fail)
                  go_wp2_with fail
                  go_roundw
                  case rel => exact ⟨j + 1, by omega, by go_num, d + _, by rw [hwd.out]; exact World.drewN_drewN ..⟩
                  case measure => simp [intOf]; omega
                · by_cases hj2 : 23 < j
                  · have hbe := F7.out j hlj (.inr (by omega))
                    obtain ⟨b1, o1, rfl, _, hc1⟩ := HPx.out.cells (by omega)
                    obtain ⟨b2, o2, rfl, _, hc2⟩ := HQx.out.cells (by omega)
                    have y1 := hc1 j (by omega)
                    have y2 := hc2 j (by omega)
                    rw [hbe] at y1
                    obtain ⟨y, hy⟩ : ∃ y, y = qx.getD j 0 := ⟨_, rfl⟩
                    rw [← hy] at y1 y2
                    have hyy : (y != y) = false := by simp
                    have hjp : (j : Int) < (pn : Int) := by omega
                    have hjq : (j : Int) < (qn : Int) := by omega
                    clear hc1 hc2 hbe hy
                    have d1 : decide ((j : Int) < 20) = false := decide_eq_false (by omega)
                    have d2 : decide ((23 : Int) < (j : Int)) = true := decide_eq_true (by omega)
                    have d1' : decide (j < 20) = false := decide_eq_false (by omega)
                    have d2' : decide (23 < j) = true := decide_eq_true (by omega)
                    go_wp2_with fail
                    go_big_quiet (fail)
                    go_wp2_with fail
                    go_roundw
                    case rel => exact ⟨j + 1, by omega, by go_num, d + _, by rw [hwd.out]; exact World.drewN_drewN ..⟩
                    case measure => simp [intOf]; omega
                  · have d1 : decide ((j : Int) < 20) = false := decide_eq_false (by omega)
                    have d2 : decide ((23 : Int) < (j : Int)) = false := decide_eq_false (by omega)
                    have d1' : decide (j < 20) = false := decide_eq_false (by omega)
                    have d2' : decide (23 < j) = false := decide_eq_false (by omega)
                    go_wp2_with fail
                    go_big_quiet (fail)
                    go_wp2_with fail
                    go_roundw
                    case rel => exact ⟨j + 1, by omega, by go_num, d + _, by rw [hwd.out]; exact World.drewN_drewN ..⟩
                    case measure => simp [intOf]; omega
              · obtain rfl : j = qn := by omega
                have LX : Hid (Below w8.heap.size w8 wr) := by show Below _ _ _; rw [hwd.out]; exact below_drewN hbo.out d
                have hnlt : ¬ (j : Int) < (j : Int) := by omega
                have HBx : Hid (b < wr.heap.size) := by rw [hwd.out]; exact World.block_lt_of_cell? _ _ hco
                clear HPo HQo hco hcol hbo HQx
                go_wp2_with fail
                refine (CNX.out wr HPx.out).mono ?_
                rintro e w9 ⟨rfl, b9⟩
                have gc9 : w9.cell? ⟨b, off + k, none⟩ = some (.slice pA pn pc) := by rw [← gco]; exact b9.cell HBx.out
                have L9 := Lib.hid (step LX.out b9)
                have q5 : ((k : Int) == (n3 : Int) - 1) = true := by simp; omega
                clear b9 gco LX
                go_wp2_with fail
                go_roundw
                case rel => exact ⟨k + 1, by omega, by go_num, L9⟩
                case measure => simp [intOf]; omega
          · have q3 : decide ((k : Int) < (n3 : Int) - 1) = true := decide_eq_true (by omega)
            rw [decide_eq_false hla] at cnx f6
            simp only [Bool.false_eq_true, if_false] at cnx
            have f6 := f6 rfl
            have q4 : (pn : Int).tmod 8 = 0 := by rw [Int.tmod_eq_emod_of_nonneg (by omega)]; omega
            have CNX := Lib.hid cnx
            have hki : (k : Int) < (n3 : Int) := by omega
            clear cnx f6
            go_wp2_with fail
            go_big_quiet (fail)
            go_wp2_with fail
            have HPo := Lib.hid (HP.out.drewN nq)
            have HQo := Lib.hid (HQc.out.drewN nq)
            have hco : (wr.drewN nq).cell? ⟨b, off + k, none⟩ = some (.slice pA pn pc) := hcell
            have hcol : (wr.drewN nq).cell? ⟨bl, offl + k, none⟩ = some (.slice qA qn qc) := hcelll
            have hbo : Hid (Below w8.heap.size w8 (wr.drewN nq)) := below_drewN hb.out nq
            obtain ⟨wo, hwo⟩ : ∃ wo, wo = wr.drewN nq := ⟨_, rfl⟩
            change Hid (Holds (wr.drewN nq) (wr.drewN nq).heap.size pA pn pc px) at HPo
            change Hid (Holds (wr.drewN nq) (wr.drewN nq).heap.size qA qn qc qx) at HQo
            rw [← hwo] at HPo HQo hco hcol hbo ⊢
            clear hwo hcell hcelll HP HQc hb LWR
            go_loopw [10] (fun i wr => ∃ j : Nat, j ≤ qn ∧ i = .int .i64 j ∧ ∃ d, Hid (wr = wo.drewN d)) (fun i _ => qn - (intOf i).toNat)
            case atStart => exact ⟨0, by omega, rfl, 0, rfl⟩
            case round =>
              obtain ⟨j, hj, rfl, d, hwd⟩ := hrel
              have gco : wr.cell? ⟨b, off + k, none⟩ = some (.slice pA pn pc) := by rw [hwd.out]; exact hco
              have gcol : wr.cell? ⟨bl, offl + k, none⟩ = some (.slice qA qn qc) := by rw [hwd.out]; exact hcol
              have HPx : Hid (Holds wr wr.heap.size pA pn pc px) := by rw [hwd.out]; exact HPo.out.drewN d
              have HQx : Hid (Holds wr wr.heap.size qA qn qc qx) := by rw [hwd.out]; exact HQo.out.drewN d
              by_cases hlj : j < qn
              · have hlji : (j : Int) < (qn : Int) := by omega
                by_cases hj1 : j < 20
                · have hbe := F7.out j hlj (.inl hj1)
                  obtain ⟨b1, o1, rfl, _, hc1⟩ := HPx.out.cells (by omega)
                  obtain ⟨b2, o2, rfl, _, hc2⟩ := HQx.out.cells (by omega)
                  have y1 := hc1 j (by omega)
                  have y2 := hc2 j (by omega)
                  rw [hbe] at y1
                  obtain ⟨y, hy⟩ : ∃ y, y = qx.getD j 0 := ⟨_, rfl⟩
                  rw [← hy] at y1 y2
                  have hyy : (y != y) = false := by simp
                  have hjp : (j : Int) < (pn : Int) := by omega
                  have hjq : (j : Int) < (qn : Int) := by omega
                  clear hc1 hc2 hbe hy
                  have d1 : decide ((j : Int) < 20) = true := decide_eq_true (by omega)
                  have d1' : decide (j < 20) = true := decide_eq_true (by omega)
                  go_wp2_with fail
                  go_big_quiet (fail)
                  go_wp2_with fail
                  go_roundw
                  case rel => exact ⟨j + 1, by omega, by go_num, d + _, by rw [hwd.out]; exact World.drewN_drewN ..⟩
                  case measure => simp [intOf]; omega
                · by_cases hj2 : 23 < j
                  · have hbe := F7.out j hlj (.inr (by omega))
                    obtain ⟨b1, o1, rfl, _, hc1⟩ := HPx.out.cells (by omega)
                    obtain ⟨b2, o2, rfl, _, hc2⟩ := HQx.out.cells (by omega)
                    have y1 := hc1 j (by omega)
                    have y2 := hc2 j (by omega)
                    rw [hbe] at y1
                    obtain ⟨y, hy⟩ : ∃ y, y = qx.getD j 0 := ⟨_, rfl⟩
                    rw [← hy] at y1 y2
                    have hyy : (y != y) = false := by simp
                    have hjp : (j : Int) < (pn : Int) := by omega
                    have hjq : (j : Int) < (qn : Int) := by omega
                    clear hc1 hc2 hbe hy
                    have d1 : decide ((j : Int) < 20) = false := decide_eq_false (by omega)
                    have d2 : decide ((23 : Int) < (j : Int)) = true := decide_eq_true (by omega)
                    have d1' : decide (j < 20) = false := decide_eq_false (by omega)
                    have d2' : decide (23 < j) = true := decide_eq_true (by omega)
                    go_wp2_with fail
                    go_big_quiet (fail)
                    go_wp2_with fail
                    go_roundw
                    case rel => exact ⟨j + 1, by omega, by go_num, d + _, by rw [hwd.out]; exact World.drewN_drewN ..⟩
                    case measure => simp [intOf]; omega
                  · have d1 : decide ((j : Int) < 20) = false := decide_eq_false (by omega)
                    have d2 : decide ((23 : Int) < (j : Int)) = false := decide_eq_false (by omega)
                    have d1' : decide (j < 20) = false := decide_eq_false (by omega)
                    have d2' : decide (23 < j) = false := decide_eq_false (by omega)
                    go_wp2_with fail
                    go_big_quiet (fail)
                    go_wp2_with fail
                    go_roundw
                    case rel => exact ⟨j + 1, by omega, by go_num, d + _, by rw [hwd.out]; exact World.drewN_drewN ..⟩
                    case measure => simp [intOf]; omega
              · obtain rfl : j = qn := by omega
                have LX : Hid (Below w8.heap.size w8 wr) := by show Below _ _ _; rw [hwd.out]; exact below_drewN hbo.out d
                have hnlt : ¬ (j : Int) < (j : Int) := by omega
                have HBx : Hid (b < wr.heap.size) := by rw [hwd.out]; exact World.block_lt_of_cell? _ _ hco
                clear HPo HQo hco hcol hbo HQx
                go_wp2_with fail
                refine (CNX.out wr HPx.out).mono ?_
                rintro e w9 ⟨rfl, b9⟩
                have gc9 : w9.cell? ⟨b, off + k, none⟩ = some (.slice pA pn pc) := by rw [← gco]; exact b9.cell HBx.out
                have L9 := Lib.hid (step LX.out b9)
                have q5 : ((k : Int) == (n3 : Int) - 1) = false := by simp; omega
                have q6 : ((pn : Int) != (pn : Int)) = false := by simp
                clear b9 gco LX
                go_wp2_with fail
                go_roundw
                case rel => exact ⟨k + 1, by omega, by go_num, L9⟩
                case measure => simp [intOf]; omega
        · obtain rfl : k = n3 := by omega
          go_wp2_with fail
          refine (CV wr (HT.out.below LWR.out)).out.mono ?_
          rintro e w6 ⟨rfl, b6⟩
          go_wp2
          go_ret
          exact ⟨rfl, step LWR.out b6⟩
    · simp only [if_true] at csp
      have CSP := Lib.hid csp
      clear csp
      go_enter Tryd.func6, Tryd.ntmps6
      go_wp2_with fail
      refine CJ.out.mono ?_
      rintro e w1 ⟨v1, rfl, o1, b1⟩
      obtain ⟨A2, c2, rfl, h2⟩ := Own.holds (show Own _ _ _ _ from o1.own) HSO.out.2 (by have := HSO.out.1; omega)
      rw [← HM.out] at h2 ⊢
      have H2 := Lib.hid h2
      have B1 := Lib.hid b1
      clear o1 h2 b1 CJ
      go_wp2_with fail
      refine (CG.out w1 A2 c2 H2.out).mono ?_
      rintro e w2 ⟨rfl, b2⟩
      have H3 := Lib.hid (H2.out.over b2)
      have B2 := Lib.hid (step B1.out b2)
      clear b2 H2 B1 CG
      go_wp2_with (first
        | ((with_reducible show wpList _ _ _ (⟨some 5, _, _, _, _, _⟩ :: _) _ _); refine wpList_alloc_blk rfl _ rfl zs _ ZH ?_; intro g4 w5 hg41 hg42 X4 L5)
        | ((with_reducible show wpList _ _ _ (⟨none, .store _ (.tmp 5) _, _, _, _, _⟩ :: _) _ _); refine wpList_store_blk rfl _ (.tmp 5) (.tmp 29) rfl g4 rfl _ zs cs rfl X4 26 size_hd HZ HL HO ?_; intro w6 X6 O6 hg6)
        | fail)
      have L26 := Lib.hid (below_only L5.out O6.out hg41)
      refine (CSP.out w6 A2 c2 (H3.out.over L26.out)).mono ?_
      rintro e w7 ⟨v2, qs, rfl, o2, q2, b7⟩
      have X7 := Lib.hid (X6.out.over b7)
      have B7 := Lib.hid (step (step B2.out L26.out) b7)
      clear o2 q2 b7 H3 B2 CSP L5 O6 X4 X6 L26 hg41 hg42 hg6
      go_wp2_with (first
        | ((with_reducible show wpList _ _ _ (⟨some 36, _, _, _, _, _⟩ :: _) _ _); refine wpList_load_blk rfl _ (.tmp 5) rfl g4 rfl _ cs X7 26 _ Tryd.underlying49 rfl size_hd HL ?_)
        | fail)
      refine (CHA.out w7).mono ?_
      rintro e w8 ⟨rfl, b8⟩
      have B8 := Lib.hid (step B7.out b8)
      clear b8 B7 X7 CHA
      go_wp2_with fail
      refine (CV w8 (HT.out.below B8.out)).out.mono ?_
      rintro e w9 ⟨rfl, b9⟩
      go_wp2
      go_ret
      exact ⟨rfl, step B8.out b9⟩
  · have hnil : sealOf [] (rowsL ps) = [] := by unfold sealOf; rw [if_neg he]
    rw [hnil] at cj
    obtain ⟨E, hE⟩ : ∃ E, E = chainErr (rowsL ps) := ⟨_, rfl⟩
    rw [← hE] at cj he
    have hne : (E != 0) = true := by simpa using he
    have CJ := Lib.hid cj
    clear hx hs hps hb hb2 hl cj hso he hE hnil h0 hT
    go_enter Tryd.func6, Tryd.ntmps6
    go_wp2_with fail
    refine CJ.out.mono ?_
    rintro e w1 ⟨v1, rfl, o1, b1⟩
    obtain ⟨A2, c2, rfl, h2⟩ := Own.holds (show Own _ _ _ _ from o1.own) Bytes.nil (by simp)
    have B1 := Lib.hid b1
    clear o1 h2 b1 CJ
    go_wp2_with fail
    refine (CV w1 (HT.out.below B1.out)).out.mono ?_
    rintro e w8 ⟨rfl, b8⟩
    go_wp2
    go_ret
    exact ⟨rfl, step B1.out b8⟩
end Go.Proofs.YtgfflnjggnadpaaDoor
