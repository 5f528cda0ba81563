import Derived.WalkKit
import Derived.Deep.Draws
import Derived.Laws.Rows
import Derived.Laws.OwnMore
import Derived.Test.YtdlcjobahdmapaaDoorRows
import Derived.Laws.CopyOwn
import Derived.Laws.AppendOwnNone
import Derived.Lib.Hide
import Derived.Laws.AppendOwn
import Derived.OwnWalk
import Derived.Lib.OthersKept
import Derived.Laws.BytesArg
import Derived.Laws.Tables
import Derived.Laws.NewFold
import Derived.Deep.WholeRow
import Derived.Deep.DeepCutAuto
import Derived.OneCell
import Derived.ProofKit
import Derived.OpenShut
import Derived.ShutString
import Derived.SizedLaws
import Derived.ChangeOld
import Derived.Deep.Strs
import Derived.Deep.MidRow
import Derived.Great.Walk
import Derived.OrdersHeld
import Derived.Laws.StructEq
import Derived.ChangeKeysEq
import Derived.Laws.Bits64
import Derived.Laws.BitsAllLaws
import Derived.WalkSpells
import Derived.WalkLawsBesides
import Derived.Deep.QuietTactic
import Derived.BigQuiet
import Derived.Lib.RuneBytes
import Derived.Lib.ValidLaws
import Derived.Shelf.Utf8.AppendRunePlain
import Derived.Shelf.Unicode.ValidAny
import Derived.Test.YtdlcjobahdmapaaDoorProg
import Derived.Deep.RegionLaw
import Derived.Lib.AppendZeros
import Derived.Deep.RegionWith
import Derived.Deep.OwnRows
import Derived.Test.YtdlcjobahdmapaaDoorWAD
import Derived.Test.YtdlcjobahdmapaaDoorWAF
import Derived.Test.YtdlcjobahdmapaaDoorWAG
import Derived.Test.YtdlcjobahdmapaaDoorWAH
import Derived.Test.YtdlcjobahdmapaaDoorWAK
namespace Go.Proofs.YtdlcjobahdmapaaDoor
set_option linter.all false
open Go.RowKit
set_option linter.unusedVariables false
set_option maxRecDepth 100000
theorem built_chal : Tryd.prog.built 41 [] = some ((List.replicate 8 (0 : Int)).map (Value.int .u8)).toArray := by kernel_rfl
theorem zeroSay_iff (a : SayV) : a = zeroSay ↔ a.data = [] ∧ a.ents = [] ∧ a.chal = List.replicate 8 0 ∧ a.dia = 0 ∧ a.siz = 0 ∧ a.lev = 0 ∧ a.dur = 0 ∧ a.made = 0 ∧ a.file = 0 ∧ a.kind = 0 ∧ a.n = 0 ∧ a.more = false ∧ a.gone = false := by
  constructor
  · rintro rfl
    exact ⟨rfl, rfl, rfl, rfl, rfl, rfl, rfl, rfl, rfl, rfl, rfl, rfl, rfl⟩
  · rintro ⟨h_data, h_ents, h_chal, h_dia, h_siz, h_lev, h_dur, h_made, h_file, h_kind, h_n, h_more, h_gone⟩
    cases a
    simp only at h_data h_ents h_chal h_dia h_siz h_lev h_dur h_made h_file h_kind h_n h_more h_gone
    subst h_data h_ents h_chal h_dia h_siz h_lev h_dur h_made h_file h_kind h_n h_more h_gone
    rfl
theorem fld_isZeroSay_0 (g : Nat) (w : World) : (Instr.fieldAt 45 (.pointer (some ⟨g, 0, none⟩)) 0).run Tryd.prog w = .ok (.pointer (some ⟨g, 0, none⟩)) w := by go_simp
theorem fld_isZeroSay_1 (g : Nat) (w : World) : (Instr.fieldAt 45 (.pointer (some ⟨g, 0, none⟩)) 1).run Tryd.prog w = .ok (.pointer (some ⟨g, 1, none⟩)) w := by go_simp
theorem fld_isZeroSay_2 (g : Nat) (w : World) : (Instr.fieldAt 45 (.pointer (some ⟨g, 0, none⟩)) 2).run Tryd.prog w = .ok (.pointer (some ⟨g, 2, none⟩)) w := by go_simp
theorem fld_isZeroSay_3 (g : Nat) (w : World) : (Instr.fieldAt 45 (.pointer (some ⟨g, 0, none⟩)) 3).run Tryd.prog w = .ok (.pointer (some ⟨g, 10, none⟩)) w := by go_simp
theorem fld_isZeroSay_4 (g : Nat) (w : World) : (Instr.fieldAt 45 (.pointer (some ⟨g, 0, none⟩)) 4).run Tryd.prog w = .ok (.pointer (some ⟨g, 11, none⟩)) w := by go_simp
theorem fld_isZeroSay_5 (g : Nat) (w : World) : (Instr.fieldAt 45 (.pointer (some ⟨g, 0, none⟩)) 5).run Tryd.prog w = .ok (.pointer (some ⟨g, 12, none⟩)) w := by go_simp
theorem fld_isZeroSay_6 (g : Nat) (w : World) : (Instr.fieldAt 45 (.pointer (some ⟨g, 0, none⟩)) 6).run Tryd.prog w = .ok (.pointer (some ⟨g, 13, none⟩)) w := by go_simp
theorem fld_isZeroSay_7 (g : Nat) (w : World) : (Instr.fieldAt 45 (.pointer (some ⟨g, 0, none⟩)) 7).run Tryd.prog w = .ok (.pointer (some ⟨g, 14, none⟩)) w := by go_simp
theorem fld_isZeroSay_8 (g : Nat) (w : World) : (Instr.fieldAt 45 (.pointer (some ⟨g, 0, none⟩)) 8).run Tryd.prog w = .ok (.pointer (some ⟨g, 15, none⟩)) w := by go_simp
theorem fld_isZeroSay_9 (g : Nat) (w : World) : (Instr.fieldAt 45 (.pointer (some ⟨g, 0, none⟩)) 9).run Tryd.prog w = .ok (.pointer (some ⟨g, 16, none⟩)) w := by go_simp
theorem fld_isZeroSay_10 (g : Nat) (w : World) : (Instr.fieldAt 45 (.pointer (some ⟨g, 0, none⟩)) 10).run Tryd.prog w = .ok (.pointer (some ⟨g, 17, none⟩)) w := by go_simp
theorem fld_isZeroSay_11 (g : Nat) (w : World) : (Instr.fieldAt 45 (.pointer (some ⟨g, 0, none⟩)) 11).run Tryd.prog w = .ok (.pointer (some ⟨g, 18, none⟩)) w := by go_simp
theorem fld_isZeroSay_12 (g : Nat) (w : World) : (Instr.fieldAt 45 (.pointer (some ⟨g, 0, none⟩)) 12).run Tryd.prog w = .ok (.pointer (some ⟨g, 19, none⟩)) w := by go_simp
set_option maxHeartbeats 4000000 in
theorem isZeroSay_any (w : World) (cs : List Value) (a : SayV) (ka : a.ok) (ha : SayIs w w.heap.size cs a) :
    Calls Tryd.prog 90 #[.agg cs.toArray] w fun e w' => e = .returned (.bool (decide (a = zeroSay))) ∧ Below w.heap.size w w' := by
  have HL := Lib.hid (ha.len ka)
  obtain ⟨X1, X2, X3, E1, E2, E3, rfl, h_X, h_E⟩ := ha
  have l_X := h_X.len
  have l_E := h_E.len
  have HT : Hid ((((((((((((((a.data.length == 0) && (a.ents.length == 0)) && (decide (a.chal = List.replicate 8 0))) && (a.dia == 0)) && (a.siz == 0)) && (a.lev == 0)) && (a.dur == 0)) && (a.made == 0)) && (a.file == 0)) && (a.kind == 0)) && (a.n == 0)) && (!a.more)) && (!a.gone)) = decide (a = zeroSay)) := by
    show _ = _
    rw [Bool.eq_iff_iff, decide_eq_true_iff, zeroSay_iff]
    simp only [Bool.and_eq_true, beq_iff_eq, decide_eq_true_iff, Bool.not_eq_true', List.length_eq_zero_iff, and_assoc]
  have FA : Hid (∀ (w : World) (g : Nat), Blk w g 45 (scells (.slice X1 X2 X3) (.slice E1 E2 E3) a) → w.cell? ⟨g, 0, none⟩ = some (.int .u16 a.dia) ∧ w.cell? ⟨g, 1, none⟩ = some (.int .u64 a.siz) ∧ w.cell? ⟨g, 10, none⟩ = some (.int .u8 a.lev) ∧ w.cell? ⟨g, 11, none⟩ = some (.int .u8 a.dur) ∧ w.cell? ⟨g, 12, none⟩ = some (.int .u16 a.made) ∧ w.cell? ⟨g, 13, none⟩ = some (.int .u64 a.file) ∧ w.cell? ⟨g, 14, none⟩ = some (.int .u8 a.kind) ∧ w.cell? ⟨g, 15, none⟩ = some (.slice X1 X2 X3) ∧ w.cell? ⟨g, 16, none⟩ = some (.int .u32 a.n) ∧ w.cell? ⟨g, 17, none⟩ = some (.slice E1 E2 E3) ∧ w.cell? ⟨g, 18, none⟩ = some (.bool a.more) ∧ w.cell? ⟨g, 19, none⟩ = some (.bool a.gone)) := fun w g h =>
    ⟨h.at rfl, h.at rfl, h.at (scells_get ka 0), h.at (scells_get ka 1), h.at (scells_get ka 2), h.at (scells_get ka 3), h.at (scells_get ka 4), h.at (scells_get ka 5), h.at (scells_get ka 6), h.at (scells_get ka 7), h.at (scells_get ka 8), h.at (scells_get ka 9)⟩
  have R_chal : Hid (∀ (w : World) (g : Nat), Blk w g 45 (scells (.slice X1 X2 X3) (.slice E1 E2 E3) a) → w.rangeAt g 2 (a.chal.map (Value.int .u8))) := fun w g h => scells_chal h ka
  have N_chal : Hid ((a.chal.map (Value.int .u8)).length = 8) := by show _ = _; rw [List.length_map]; exact ka.clen
  have q_chal : ∀ w : World, (Op.equalIn 10000 41 (.agg (a.chal.map (Value.int .u8)).toArray) (.agg ((List.replicate 8 (0 : Int)).map (Value.int .u8)).toArray)).run Tryd.prog w = .ok (decide (a.chal = List.replicate 8 0)) w := fun w => run_equalIn_arr3 Tryd.underlying41 Tryd.underlying5 size_u8e _ _ ka.clen (by simp) _ w
  obtain ⟨z_data, k_data⟩ : ∃ z, (a.data.length == 0) = z := ⟨_, rfl⟩
  obtain ⟨z_ents, k_ents⟩ : ∃ z, (a.ents.length == 0) = z := ⟨_, rfl⟩
  obtain ⟨z_chal, k_chal⟩ : ∃ z, (decide (a.chal = List.replicate 8 0)) = z := ⟨_, rfl⟩
  obtain ⟨z_dia, k_dia⟩ : ∃ z, (a.dia == 0) = z := ⟨_, rfl⟩
  obtain ⟨z_siz, k_siz⟩ : ∃ z, (a.siz == 0) = z := ⟨_, rfl⟩
  obtain ⟨z_lev, k_lev⟩ : ∃ z, (a.lev == 0) = z := ⟨_, rfl⟩
  obtain ⟨z_dur, k_dur⟩ : ∃ z, (a.dur == 0) = z := ⟨_, rfl⟩
  obtain ⟨z_made, k_made⟩ : ∃ z, (a.made == 0) = z := ⟨_, rfl⟩
  obtain ⟨z_file, k_file⟩ : ∃ z, (a.file == 0) = z := ⟨_, rfl⟩
  obtain ⟨z_kind, k_kind⟩ : ∃ z, (a.kind == 0) = z := ⟨_, rfl⟩
  obtain ⟨z_n, k_n⟩ : ∃ z, (a.n == 0) = z := ⟨_, rfl⟩
  obtain ⟨z_more, k_more⟩ : ∃ z, (!a.more) = z := ⟨_, rfl⟩
  obtain ⟨z_gone, k_gone⟩ : ∃ z, (!a.gone) = z := ⟨_, rfl⟩
  rw [k_data, k_ents, k_chal, k_dia, k_siz, k_lev, k_dur, k_made, k_file, k_kind, k_n, k_more, k_gone] at HT
  rw [l_X] at k_data
  have kk_data : ((X2 : Int) == 0) = z_data := by rw [← k_data]; rw [Bool.eq_iff_iff]; simp
  rw [l_E] at k_ents
  have kk_ents : ((E2 : Int) == 0) = z_ents := by rw [← k_ents]; rw [Bool.eq_iff_iff]; simp
  rw [k_chal] at q_chal
  obtain ⟨y_chal, hy⟩ : ∃ y, y = ((List.replicate 8 (0 : Int)).map (Value.int .u8)).toArray := ⟨_, rfl⟩
  rw [← hy] at q_chal
  have bt_chal : Tryd.prog.built 41 [] = some y_chal := by rw [hy]; exact built_chal
  clear hy
  obtain ⟨r, hr⟩ : ∃ r, r = decide (a = zeroSay) := ⟨_, rfl⟩
  rw [← hr] at HT ⊢
  obtain ⟨cs, hcs⟩ : ∃ c, c = scells (.slice X1 X2 X3) (.slice E1 E2 E3) a := ⟨_, rfl⟩
  rw [← hcs] at FA HL R_chal ⊢
  clear hr hcs h_X h_E
  go_enter Tryd.func90, Tryd.ntmps90
  go_upto_region 1 with (first
    | ((with_reducible show wpList _ _ _ (⟨some 1, _, _, _, _, _⟩ :: _) _ _); refine wpList_box_blk rfl _ (.tmp 0) rfl cs rfl ?_; intro g w1 hg1 hg2 K1 L1)
    | fail)
  rename_i hret
  simp only [List.append_eq, List.cons_append, List.nil_append]
  refine wp_region_lit ?_
  have HK := K1
  obtain ⟨c_dia, c_siz, c_lev, c_dur, c_made, c_file, c_kind, c_data, c_n, c_ents, c_more, c_gone⟩ := FA.out _ _ K1.out
  have r_chal := R_chal.out _ _ K1.out
  refine wpList_abs (N := 69) (x0 := 1) (pv := .pointer (some ⟨g, 0, none⟩)) ⟨rfl, rfl, rfl⟩ fun a0 F0 => ?_
  refine head_load (v := (.slice X1 X2 X3)) (f := 3) (l := 4) (i := 8) (off := 15) (g := g) ⟨rfl, rfl, rfl⟩ ⟨rfl, rfl, rfl⟩ (by decide) (fld_isZeroSay_8 g) (load_one c_data _ Tryd.underlying29 rfl) a0 F0 fun a1 F1 e1 => ?_
  refine head_next (e := 5) (u := .int .i64 (X2 : Int)) ⟨rfl, rfl⟩ (by decide) a1 F1 (by have e' := eval_getD e1; go_simp) fun a2 F2 e2 => ?_
  refine head_next (e := 6) (u := .bool z_data) ⟨rfl, rfl⟩ (by decide) a2 F2 (by have e' := eval_getD e2; go_simp) fun b0 G0 h0 => ?_
  clear F0 F1 F2 e1 e2
  refine chain (gi := 4) (p := 6) (m := 7) (e := 11) (q := 12) (t := z_ents) (mids := [_, _, _, _]) rfl ⟨rfl, rfl, rfl⟩ ⟨rfl, rfl, rfl⟩ (by decide) G0 h0 (by
    intro o ho
    simp only [List.mem_cons, List.not_mem_nil, or_false] at ho
    rcases ho with rfl | rfl | rfl | rfl
    all_goals exact ⟨rfl, _, rfl, by decide, by decide⟩) (fun a1 F1 m1 hk => ?_) fun b1 G1 h1 => ?_
  · refine mids_load (v := (.slice E1 E2 E3)) (f := 8) (l := 9) (i := 10) (off := 17) (g := g) (tail := _) (gi := 4) (m := 7) rfl ⟨rfl, rfl, rfl⟩ ⟨rfl, rfl, rfl⟩ (by decide) (fld_isZeroSay_10 g) (load_one c_ents _ Tryd.underlying43 rfl) a1 F1 m1 fun a2 F2 m2 e2 => ?_
    refine mids_next (l := 0) (e := 10) (u := .int .i64 (E2 : Int)) (gi := 4) (m := 7) rfl ⟨rfl, rfl⟩ (by decide) a2 F2 m2 (by have e' := eval_getD e2; go_simp) fun a3 F3 m3 e3 _ => ?_
    refine mids_next (l := 0) (e := 11) (u := .bool z_ents) (gi := 4) (m := 7) rfl ⟨rfl, rfl⟩ (by decide) a3 F3 m3 (by have e' := eval_getD e3; go_simp) fun a4 F4 m4 e4 _ => ?_
    exact hk a4 F4 m4 e4
  refine chain (gi := 10) (p := 12) (m := 13) (e := 17) (q := 18) (t := z_chal) (mids := [_, _, _, _]) rfl ⟨rfl, rfl, rfl⟩ ⟨rfl, rfl, rfl⟩ (by decide) G1 h1 (by
    intro o ho
    simp only [List.mem_cons, List.not_mem_nil, or_false] at ho
    rcases ho with rfl | rfl | rfl | rfl
    all_goals exact ⟨rfl, _, rfl, by decide, by decide⟩) (fun a1 F1 m1 hk => ?_) fun b2 G2 h2 => ?_
  · refine mids_load (v := (.agg (a.chal.map (Value.int .u8)).toArray)) (f := 14) (l := 15) (i := 2) (off := 2) (g := g) (tail := _) (gi := 10) (m := 13) rfl ⟨rfl, rfl, rfl⟩ ⟨rfl, rfl, rfl⟩ (by decide) (fld_isZeroSay_2 g) (load_mid_run r_chal Tryd.underlying41 rfl (by rw [size_chal, N_chal.out])) a1 F1 m1 fun a2 F2 m2 e2 => ?_
    refine mids_next (l := 0) (e := 16) (u := .agg y_chal) (gi := 10) (m := 13) rfl ⟨rfl, rfl⟩ (by decide) a2 F2 m2 (build_run rfl bt_chal) fun a3 F3 m3 e3 o3 => ?_
    have e2' := (o3 15 (by decide)).trans e2
    refine mids_next (l := 0) (e := 17) (u := .bool z_chal) (gi := 10) (m := 13) rfl ⟨rfl, rfl⟩ (by decide) a3 F3 m3 (by have e' := eval_getD e2'; have e'' := eval_getD e3; have qg := guard_chal; go_simp) fun a4 F4 m4 e4 _ => ?_
    exact hk a4 F4 m4 e4
  clear G1 h1
  refine chain (gi := 16) (p := 18) (m := 19) (e := 22) (q := 23) (t := z_dia) (mids := [_, _, _]) rfl ⟨rfl, rfl, rfl⟩ ⟨rfl, rfl, rfl⟩ (by decide) G2 h2 (by
    intro o ho
    simp only [List.mem_cons, List.not_mem_nil, or_false] at ho
    rcases ho with rfl | rfl | rfl
    all_goals exact ⟨rfl, _, rfl, by decide, by decide⟩) (fun a1 F1 m1 hk => ?_) fun b3 G3 h3 => ?_
  · refine mids_load (v := (.int .u16 a.dia)) (f := 20) (l := 21) (i := 0) (off := 0) (g := g) (tail := _) (gi := 16) (m := 19) rfl ⟨rfl, rfl, rfl⟩ ⟨rfl, rfl, rfl⟩ (by decide) (fld_isZeroSay_0 g) (load_one c_dia _ Tryd.underlying22 rfl) a1 F1 m1 fun a2 F2 m2 e2 => ?_
    refine mids_next (l := 0) (e := 22) (u := .bool z_dia) (gi := 16) (m := 19) rfl ⟨rfl, rfl⟩ (by decide) a2 F2 m2 (by have e' := eval_getD e2; go_simp) fun a4 F4 m4 e4 _ => ?_
    exact hk a4 F4 m4 e4
  clear G2 h2
  refine chain (gi := 21) (p := 23) (m := 24) (e := 27) (q := 28) (t := z_siz) (mids := [_, _, _]) rfl ⟨rfl, rfl, rfl⟩ ⟨rfl, rfl, rfl⟩ (by decide) G3 h3 (by
    intro o ho
    simp only [List.mem_cons, List.not_mem_nil, or_false] at ho
    rcases ho with rfl | rfl | rfl
    all_goals exact ⟨rfl, _, rfl, by decide, by decide⟩) (fun a1 F1 m1 hk => ?_) fun b4 G4 h4 => ?_
  · refine mids_load (v := (.int .u64 a.siz)) (f := 25) (l := 26) (i := 1) (off := 1) (g := g) (tail := _) (gi := 21) (m := 24) rfl ⟨rfl, rfl, rfl⟩ ⟨rfl, rfl, rfl⟩ (by decide) (fld_isZeroSay_1 g) (load_one c_siz _ Tryd.underlying28 rfl) a1 F1 m1 fun a2 F2 m2 e2 => ?_
    refine mids_next (l := 0) (e := 27) (u := .bool z_siz) (gi := 21) (m := 24) rfl ⟨rfl, rfl⟩ (by decide) a2 F2 m2 (by have e' := eval_getD e2; go_simp) fun a4 F4 m4 e4 _ => ?_
    exact hk a4 F4 m4 e4
  clear G3 h3
  refine chain (gi := 26) (p := 28) (m := 29) (e := 32) (q := 33) (t := z_lev) (mids := [_, _, _]) rfl ⟨rfl, rfl, rfl⟩ ⟨rfl, rfl, rfl⟩ (by decide) G4 h4 (by
    intro o ho
    simp only [List.mem_cons, List.not_mem_nil, or_false] at ho
    rcases ho with rfl | rfl | rfl
    all_goals exact ⟨rfl, _, rfl, by decide, by decide⟩) (fun a1 F1 m1 hk => ?_) fun b5 G5 h5 => ?_
  · refine mids_load (v := (.int .u8 a.lev)) (f := 30) (l := 31) (i := 3) (off := 10) (g := g) (tail := _) (gi := 26) (m := 29) rfl ⟨rfl, rfl, rfl⟩ ⟨rfl, rfl, rfl⟩ (by decide) (fld_isZeroSay_3 g) (load_one c_lev _ Tryd.underlying5 rfl) a1 F1 m1 fun a2 F2 m2 e2 => ?_
    refine mids_next (l := 0) (e := 32) (u := .bool z_lev) (gi := 26) (m := 29) rfl ⟨rfl, rfl⟩ (by decide) a2 F2 m2 (by have e' := eval_getD e2; go_simp) fun a4 F4 m4 e4 _ => ?_
    exact hk a4 F4 m4 e4
  clear G4 h4
  refine chain (gi := 31) (p := 33) (m := 34) (e := 37) (q := 38) (t := z_dur) (mids := [_, _, _]) rfl ⟨rfl, rfl, rfl⟩ ⟨rfl, rfl, rfl⟩ (by decide) G5 h5 (by
    intro o ho
    simp only [List.mem_cons, List.not_mem_nil, or_false] at ho
    rcases ho with rfl | rfl | rfl
    all_goals exact ⟨rfl, _, rfl, by decide, by decide⟩) (fun a1 F1 m1 hk => ?_) fun b6 G6 h6 => ?_
  · refine mids_load (v := (.int .u8 a.dur)) (f := 35) (l := 36) (i := 4) (off := 11) (g := g) (tail := _) (gi := 31) (m := 34) rfl ⟨rfl, rfl, rfl⟩ ⟨rfl, rfl, rfl⟩ (by decide) (fld_isZeroSay_4 g) (load_one c_dur _ Tryd.underlying5 rfl) a1 F1 m1 fun a2 F2 m2 e2 => ?_
    refine mids_next (l := 0) (e := 37) (u := .bool z_dur) (gi := 31) (m := 34) rfl ⟨rfl, rfl⟩ (by decide) a2 F2 m2 (by have e' := eval_getD e2; go_simp) fun a4 F4 m4 e4 _ => ?_
    exact hk a4 F4 m4 e4
  clear G5 h5
  refine chain (gi := 36) (p := 38) (m := 39) (e := 42) (q := 43) (t := z_made) (mids := [_, _, _]) rfl ⟨rfl, rfl, rfl⟩ ⟨rfl, rfl, rfl⟩ (by decide) G6 h6 (by
    intro o ho
    simp only [List.mem_cons, List.not_mem_nil, or_false] at ho
    rcases ho with rfl | rfl | rfl
    all_goals exact ⟨rfl, _, rfl, by decide, by decide⟩) (fun a1 F1 m1 hk => ?_) fun b7 G7 h7 => ?_
  · refine mids_load (v := (.int .u16 a.made)) (f := 40) (l := 41) (i := 5) (off := 12) (g := g) (tail := _) (gi := 36) (m := 39) rfl ⟨rfl, rfl, rfl⟩ ⟨rfl, rfl, rfl⟩ (by decide) (fld_isZeroSay_5 g) (load_one c_made _ Tryd.underlying22 rfl) a1 F1 m1 fun a2 F2 m2 e2 => ?_
    refine mids_next (l := 0) (e := 42) (u := .bool z_made) (gi := 36) (m := 39) rfl ⟨rfl, rfl⟩ (by decide) a2 F2 m2 (by have e' := eval_getD e2; go_simp) fun a4 F4 m4 e4 _ => ?_
    exact hk a4 F4 m4 e4
  clear G6 h6
  refine chain (gi := 41) (p := 43) (m := 44) (e := 47) (q := 48) (t := z_file) (mids := [_, _, _]) rfl ⟨rfl, rfl, rfl⟩ ⟨rfl, rfl, rfl⟩ (by decide) G7 h7 (by
    intro o ho
    simp only [List.mem_cons, List.not_mem_nil, or_false] at ho
    rcases ho with rfl | rfl | rfl
    all_goals exact ⟨rfl, _, rfl, by decide, by decide⟩) (fun a1 F1 m1 hk => ?_) fun b8 G8 h8 => ?_
  · refine mids_load (v := (.int .u64 a.file)) (f := 45) (l := 46) (i := 6) (off := 13) (g := g) (tail := _) (gi := 41) (m := 44) rfl ⟨rfl, rfl, rfl⟩ ⟨rfl, rfl, rfl⟩ (by decide) (fld_isZeroSay_6 g) (load_one c_file _ Tryd.underlying28 rfl) a1 F1 m1 fun a2 F2 m2 e2 => ?_
    refine mids_next (l := 0) (e := 47) (u := .bool z_file) (gi := 41) (m := 44) rfl ⟨rfl, rfl⟩ (by decide) a2 F2 m2 (by have e' := eval_getD e2; go_simp) fun a4 F4 m4 e4 _ => ?_
    exact hk a4 F4 m4 e4
  clear G7 h7
  refine chain (gi := 46) (p := 48) (m := 49) (e := 52) (q := 53) (t := z_kind) (mids := [_, _, _]) rfl ⟨rfl, rfl, rfl⟩ ⟨rfl, rfl, rfl⟩ (by decide) G8 h8 (by
    intro o ho
    simp only [List.mem_cons, List.not_mem_nil, or_false] at ho
    rcases ho with rfl | rfl | rfl
    all_goals exact ⟨rfl, _, rfl, by decide, by decide⟩) (fun a1 F1 m1 hk => ?_) fun b9 G9 h9 => ?_
  · refine mids_load (v := (.int .u8 a.kind)) (f := 50) (l := 51) (i := 7) (off := 14) (g := g) (tail := _) (gi := 46) (m := 49) rfl ⟨rfl, rfl, rfl⟩ ⟨rfl, rfl, rfl⟩ (by decide) (fld_isZeroSay_7 g) (load_one c_kind _ Tryd.underlying42 rfl) a1 F1 m1 fun a2 F2 m2 e2 => ?_
    refine mids_next (l := 0) (e := 52) (u := .bool z_kind) (gi := 46) (m := 49) rfl ⟨rfl, rfl⟩ (by decide) a2 F2 m2 (by have e' := eval_getD e2; go_simp) fun a4 F4 m4 e4 _ => ?_
    exact hk a4 F4 m4 e4
  clear G8 h8
  refine chain (gi := 51) (p := 53) (m := 54) (e := 57) (q := 58) (t := z_n) (mids := [_, _, _]) rfl ⟨rfl, rfl, rfl⟩ ⟨rfl, rfl, rfl⟩ (by decide) G9 h9 (by
    intro o ho
    simp only [List.mem_cons, List.not_mem_nil, or_false] at ho
    rcases ho with rfl | rfl | rfl
    all_goals exact ⟨rfl, _, rfl, by decide, by decide⟩) (fun a1 F1 m1 hk => ?_) fun b10 G10 h10 => ?_
  · refine mids_load (v := (.int .u32 a.n)) (f := 55) (l := 56) (i := 9) (off := 16) (g := g) (tail := _) (gi := 51) (m := 54) rfl ⟨rfl, rfl, rfl⟩ ⟨rfl, rfl, rfl⟩ (by decide) (fld_isZeroSay_9 g) (load_one c_n _ Tryd.underlying27 rfl) a1 F1 m1 fun a2 F2 m2 e2 => ?_
    refine mids_next (l := 0) (e := 57) (u := .bool z_n) (gi := 51) (m := 54) rfl ⟨rfl, rfl⟩ (by decide) a2 F2 m2 (by have e' := eval_getD e2; go_simp) fun a4 F4 m4 e4 _ => ?_
    exact hk a4 F4 m4 e4
  clear G9 h9
  refine chain (gi := 56) (p := 58) (m := 59) (e := 62) (q := 63) (t := z_more) (mids := [_, _, _]) rfl ⟨rfl, rfl, rfl⟩ ⟨rfl, rfl, rfl⟩ (by decide) G10 h10 (by
    intro o ho
    simp only [List.mem_cons, List.not_mem_nil, or_false] at ho
    rcases ho with rfl | rfl | rfl
    all_goals exact ⟨rfl, _, rfl, by decide, by decide⟩) (fun a1 F1 m1 hk => ?_) fun b11 G11 h11 => ?_
  · refine mids_load (v := (.bool a.more)) (f := 60) (l := 61) (i := 11) (off := 18) (g := g) (tail := _) (gi := 56) (m := 59) rfl ⟨rfl, rfl, rfl⟩ ⟨rfl, rfl, rfl⟩ (by decide) (fld_isZeroSay_11 g) (load_one c_more _ Tryd.underlying4 rfl) a1 F1 m1 fun a2 F2 m2 e2 => ?_
    refine mids_next (l := 0) (e := 62) (u := .bool z_more) (gi := 56) (m := 59) rfl ⟨rfl, rfl⟩ (by decide) a2 F2 m2 (by have e' := eval_getD e2; go_simp) fun a4 F4 m4 e4 _ => ?_
    exact hk a4 F4 m4 e4
  clear G10 h10
  refine chain (gi := 61) (p := 63) (m := 64) (e := 67) (q := 68) (t := z_gone) (mids := [_, _, _]) rfl ⟨rfl, rfl, rfl⟩ ⟨rfl, rfl, rfl⟩ (by decide) G11 h11 (by
    intro o ho
    simp only [List.mem_cons, List.not_mem_nil, or_false] at ho
    rcases ho with rfl | rfl | rfl
    all_goals exact ⟨rfl, _, rfl, by decide, by decide⟩) (fun a1 F1 m1 hk => ?_) fun b12 G12 h12 => ?_
  · refine mids_load (v := (.bool a.gone)) (f := 65) (l := 66) (i := 12) (off := 19) (g := g) (tail := _) (gi := 61) (m := 64) rfl ⟨rfl, rfl, rfl⟩ ⟨rfl, rfl, rfl⟩ (by decide) (fld_isZeroSay_12 g) (load_one c_gone _ Tryd.underlying4 rfl) a1 F1 m1 fun a2 F2 m2 e2 => ?_
    refine mids_next (l := 0) (e := 67) (u := .bool z_gone) (gi := 61) (m := 64) rfl ⟨rfl, rfl⟩ (by decide) a2 F2 m2 (by have e' := eval_getD e2; go_simp) fun a4 F4 m4 e4 _ => ?_
    exact hk a4 F4 m4 e4
  clear G11 h11
  have HT1 := HT.out
  rw [HT1] at h12
  refine wpList_yields (v := .bool r) (yieldsIf_asg (by simp [Region.wanted]) (.tmp 68) rfl _ h12) ?_
  refine wpList_nil (hret _ _ (wp_ret ?_))
  have F9 := G12.put (d := 2) (v := .bool r) (by decide)
  refine bodyPost_ret (results_tmp rfl _ _ _) F9.df ?_
  refine ⟨?_, L1.out⟩
  have e9 : (b12.put (some 2) (.bool r)).eval (.tmp 2) = .bool r := put_self (by rw [G12.size]; decide)
  exact congrArg Ending.returned e9
end Go.Proofs.YtdlcjobahdmapaaDoor

namespace Go.Proofs.YtdlcjobahdmapaaDoor
set_option linter.all false
open Go.RowKit
set_option linter.unusedVariables false
set_option maxRecDepth 100000
def besideSay (c : Int) (s : SayV) : SayV := if c = 0 then { s with dia := 0, siz := 0, chal := List.replicate 8 0 } else s
theorem besideSay_ok {c : Int} {s : SayV} (k : s.ok) : (besideSay c s).ok := by
  unfold besideSay
  split
  · exact ⟨by show (0 : Int) ≤ 0 ∧ (0 : Int) ≤ 65535; decide, by show (0 : Int) ≤ 0 ∧ (0 : Int) ≤ 18446744073709551615; decide, rfl, Bytes.zeros 8, k.lev, k.dur, k.made, k.file, k.kind, k.data, k.n, k.ents⟩
  · exact k
section
variable {vd vx vl ve : Value} {a : AskV} {s : SayV}
theorem scells_dia (x : Int) : (scells vx ve s).set 0 (.int .u16 x) = scells vx ve { s with dia := x } := rfl
theorem scells_siz (x : Int) : (scells vx ve s).set 1 (.int .u64 x) = scells vx ve { s with siz := x } := rfl
theorem scells_chalS (k : s.ok) (xs : List Int) : (scells vx ve s).take 2 ++ (xs.map (Value.int .u8) ++ (scells vx ve s).drop (2 + 8)) = scells vx ve { s with chal := xs } := by
  unfold scells
  rw [show 2 + 8 = 8 + 1 + 1 from rfl, List.drop_succ_cons, List.drop_succ_cons, List.drop_left' (by rw [List.length_map]; exact k.clen)]
  rfl
end
def sayBesidePost (w : World) (c : Int) (a : SayV) (e : Ending) (w' : World) : Prop := ∃ ds, e = .returned (.tuple #[.agg ds.toArray, .bool (knownT c)]) ∧ SayIs w' w'.heap.size ds (if knownT c = true then besideSay c a else zeroSay) ∧ Below w.heap.size w w'
set_option maxHeartbeats 4000000 in
theorem sayBeside_any (w : World) (c : Int) (cs : List Value) (a : SayV) (hc : 0 ≤ c ∧ c ≤ 65535) (ka : a.ok) (ha : SayIs w w.heap.size cs a) :
    Calls Tryd.prog 89 #[.int .u16 c, .agg cs.toArray] w (sayBesidePost w c a) := by
  have HL := Lib.hid (ha.len ka)
  have HO1 := Lib.hid ha.one
  have ZH := Lib.hid zero_say
  have BZ := built_say
  have HZ : Hid ((scells (.slice none 0 0) (.slice none 0 0) zeroSay).length = 20) := scells_len zeroSay_ok
  have HZ1 : Hid (∀ v ∈ scells (.slice none 0 0) (.slice none 0 0) zeroSay, v.oneCell' = true) := (zeroSay_is w 0).one
  have HA := Lib.hid ha
  have HQ : Hid (∀ e w', (∃ ds, e = .returned (.tuple #[.agg ds.toArray, .bool (knownT c)]) ∧ SayIs w' w'.heap.size ds (if knownT c = true then besideSay c a else zeroSay) ∧ Below w.heap.size w w') → sayBesidePost w c a e w') := fun _ _ h => h
  obtain ⟨zs, hzs⟩ : ∃ zs, zs = scells (.slice none 0 0) (.slice none 0 0) zeroSay := ⟨_, rfl⟩
  have HZI : Hid (∀ w' : World, SayIs w' w'.heap.size zs zeroSay) := by rw [hzs]; exact fun w' => zeroSay_is w' _
  rw [← hzs] at ZH BZ HZ HZ1
  clear hzs
  by_cases h0 : c = 0
  · subst h0
    have e0 : (if knownT 0 = true then besideSay 0 a else zeroSay) = { a with dia := 0, siz := 0, chal := List.replicate 8 0 } := rfl
    rw [e0, show knownT 0 = true from rfl] at HQ
    clear e0
    obtain ⟨X1, X2, X3, M1, M2, M3, rfl, hX, hM⟩ := ha
    have HI : Hid (∀ w' : World, Below w.heap.size w w' → SayIs w' w'.heap.size (scells (.slice X1 X2 X3) (.slice M1 M2 M3) { a with dia := 0, siz := 0, chal := List.replicate 8 0 }) ({ a with dia := 0, siz := 0, chal := List.replicate 8 0 })) := fun w' hb => ⟨X1, X2, X3, M1, M2, M3, rfl, hX.over hb, hM.over hb⟩
    have HN : Hid ((scells (.slice X1 X2 X3) (.slice M1 M2 M3) { a with dia := 0, siz := 0, chal := List.replicate 8 0 }).length = 20) := scells_len (by have := besideSay_ok (c := 0) ka; exact this)
    have HN1 : Hid (∀ v ∈ scells (.slice X1 X2 X3) (.slice M1 M2 M3) { a with dia := 0, siz := 0, chal := List.replicate 8 0 }, v.oneCell' = true) := scells_one rfl rfl
    have HE0 : Hid ((scells (.slice X1 X2 X3) (.slice M1 M2 M3) a).set 0 (.int .u16 0) = scells (.slice X1 X2 X3) (.slice M1 M2 M3) { a with dia := 0 }) := scells_dia 0
    have HE1 : Hid ((scells (.slice X1 X2 X3) (.slice M1 M2 M3) { a with dia := 0 }).set 1 (.int .u64 0) = scells (.slice X1 X2 X3) (.slice M1 M2 M3) { a with dia := 0, siz := 0 }) := scells_siz 0
    have HE2 : Hid ((scells (.slice X1 X2 X3) (.slice M1 M2 M3) { a with dia := 0, siz := 0 }).take 2 ++ ((List.replicate 8 (0 : Int)).map (Value.int .u8) ++ (scells (.slice X1 X2 X3) (.slice M1 M2 M3) { a with dia := 0, siz := 0 }).drop (2 + 8)) = scells (.slice X1 X2 X3) (.slice M1 M2 M3) { a with dia := 0, siz := 0, chal := List.replicate 8 0 }) := scells_chalS (s := { a with dia := 0, siz := 0 }) ⟨by show (0 : Int) ≤ 0 ∧ (0 : Int) ≤ 65535; decide, by show (0 : Int) ≤ 0 ∧ (0 : Int) ≤ 18446744073709551615; decide, ka.clen, ka.cbyte, ka.lev, ka.dur, ka.made, ka.file, ka.kind, ka.data, ka.n, ka.ents⟩ (List.replicate 8 0)
    have HN0 : Hid (0 < (scells (.slice X1 X2 X3) (.slice M1 M2 M3) a).length) := by show _ < _; simp [scells, stail, ka.clen]
    have HN2 : Hid (1 < (scells (.slice X1 X2 X3) (.slice M1 M2 M3) { a with dia := 0 }).length) := by show _ < _; simp [scells, stail, ka.clen]
    have HF : Hid (2 + 8 ≤ (scells (.slice X1 X2 X3) (.slice M1 M2 M3) { a with dia := 0, siz := 0 }).length) := by show _ ≤ _; simp [scells, stail, ka.clen]
    have HLZ : Hid (((List.replicate 8 (0 : Int)).map (Value.int .u8)).length = 8) := by show _ = _; simp
    have OZ : Hid (∀ v ∈ (List.replicate 8 (0 : Int)).map (Value.int .u8), v.oneCell' = true) := fun v hv => mem_nums hv
    have BL := built_chal
    obtain ⟨lz, hlz⟩ : ∃ z, z = (List.replicate 8 (0 : Int)).map (Value.int .u8) := ⟨_, rfl⟩
    rw [← hlz] at HLZ OZ BL HE2
    clear hlz
    obtain ⟨cs, hcs⟩ : ∃ c, c = scells (.slice X1 X2 X3) (.slice M1 M2 M3) a := ⟨_, rfl⟩
    rw [← hcs] at HL HO1 HE0 HN0 ⊢
    clear hcs HA hX hM
    obtain ⟨d0, hd0⟩ : ∃ c, c = scells (.slice X1 X2 X3) (.slice M1 M2 M3) { a with dia := 0 } := ⟨_, rfl⟩
    rw [← hd0] at HE0 HE1 HN2
    clear hd0
    obtain ⟨d1, hd1⟩ : ∃ c, c = scells (.slice X1 X2 X3) (.slice M1 M2 M3) { a with dia := 0, siz := 0 } := ⟨_, rfl⟩
    rw [← hd1] at HE1 HE2 HF
    clear hd1
    obtain ⟨d2, hd2⟩ : ∃ c, c = scells (.slice X1 X2 X3) (.slice M1 M2 M3) { a with dia := 0, siz := 0, chal := List.replicate 8 0 } := ⟨_, rfl⟩
    rw [← hd2] at HE2 HI HN HN1
    clear hd2
    go_enter Tryd.func89, Tryd.ntmps89
    go_wp2_with (first
      | ((with_reducible show wpList _ _ _ (⟨some 3, _, _, _, _, _⟩ :: _) _ _); refine wpList_box_blk rfl _ (.tmp 1) rfl cs rfl ?_; intro g w1 hg1 hg2 K1 L1)
      | ((with_reducible show wpList _ _ _ (⟨some 4, _, _, _, _, _⟩ :: _) _ _); refine wpList_alloc_blk rfl _ rfl zs _ ZH ?_; intro h w2 hg3 hg4 Z2 L02; have G2 := Lib.hid (K1.out.over L02.out); have L2 := Lib.hid (step L1.out L02.out); have hgh : g ≠ h := (by omega); have hhw : w.heap.size ≤ h := (by have := L1.out.size; omega))
      | ((with_reducible show wpList _ _ _ (⟨none, .store _ (.tmp 11) _, _, _, _, _⟩ :: _) _ _); refine wpList_store_fld rfl _ (.tmp 11) (.const (.int .u16 0)) rfl g 0 rfl _ cs (.int .u16 0) rfl G2 HN0 (by kernel_rfl) rfl ?_; intro w3 K3 O3 q3; rw [HE0.out] at K3; have Z3 := Lib.hid (Z2.out.only O3.out (Ne.symm hgh)); have L3 : Hid (Below w.heap.size w w3) := below_only L2.out O3.out hg1)
      | ((with_reducible show wpList _ _ _ (⟨none, .store _ (.tmp 12) _, _, _, _, _⟩ :: _) _ _); refine wpList_store_fld rfl _ (.tmp 12) (.const (.int .u64 0)) rfl g 1 rfl _ d0 (.int .u64 0) rfl K3 HN2 (by kernel_rfl) rfl ?_; intro w4 K4 O4 q4; rw [HE1.out] at K4; have Z4 := Lib.hid (Z3.out.only O4.out (Ne.symm hgh)); have L4 : Hid (Below w.heap.size w w4) := below_only L3.out O4.out hg1)
      | ((with_reducible show wpList _ _ _ (⟨none, .store _ (.tmp 13) _, _, _, _, _⟩ :: _) _ _); refine wpList_store_midb rfl _ (.tmp 13) (.tmp 10) rfl g 2 rfl _ d1 lz rfl K4 8 size_chal HLZ HF OZ ?_; intro w5 K5 O5 q5; rw [HE2.out] at K5; have Z5 := Lib.hid (Z4.out.only O5.out (Ne.symm hgh)); have L5 : Hid (Below w.heap.size w w5) := below_only L4.out O5.out hg1)
      | ((with_reducible show wpList _ _ _ (⟨some 10, _, _, _, _, _⟩ :: _) _ _); refine wpList_build_none rfl _ rfl lz BL ?_)
      | ((with_reducible show wpList _ _ _ (⟨some 20, _, _, _, _, _⟩ :: _) _ _); refine wpList_load_blk rfl _ (.tmp 3) rfl g rfl _ d2 K5 20 _ Tryd.underlying45 rfl size_say HN ?_)
      | ((with_reducible show wpList _ _ _ (⟨none, .store _ (.tmp 4) _, _, _, _, _⟩ :: _) _ _); refine wpList_store_blk rfl _ (.tmp 4) (.tmp 20) rfl h rfl _ zs d2 rfl Z5 20 size_say HZ HN HN1 ?_; intro w9 K9 O9 hg9)
      | fail)
    have L9 := Lib.hid (below_only L5.out O9.out hhw)
    refine bodyPost_ret (v := .tuple #[.agg d2.toArray, .bool true]) ?_ rfl (HQ.out _ _ ⟨_, rfl, HI.out w9 L9.out, L9.out⟩)
    exact results_cell_two rfl _ _ h _ _ (0, 0) _ rfl K9.out Tryd.underlying45 rfl (by rw [size_say]; have := HN.out; simp [this]) rfl
  by_cases h1 : c = 1
  · subst h1
    have e0 : (if knownT 1 = true then besideSay 1 a else zeroSay) = a := rfl
    rw [e0, show knownT 1 = true from rfl] at HQ
    clear e0
    obtain ⟨X1, X2, X3, M1, M2, M3, rfl, hX, hM⟩ := ha
    have HI : Hid (∀ w' : World, Below w.heap.size w w' → SayIs w' w'.heap.size (scells (.slice X1 X2 X3) (.slice M1 M2 M3) a) (a)) := fun w' hb => ⟨X1, X2, X3, M1, M2, M3, rfl, hX.over hb, hM.over hb⟩
    have HN : Hid ((scells (.slice X1 X2 X3) (.slice M1 M2 M3) a).length = 20) := scells_len (ka)
    have HN1 : Hid (∀ v ∈ scells (.slice X1 X2 X3) (.slice M1 M2 M3) a, v.oneCell' = true) := scells_one rfl rfl
    obtain ⟨cs, hcs⟩ : ∃ c, c = scells (.slice X1 X2 X3) (.slice M1 M2 M3) a := ⟨_, rfl⟩
    rw [← hcs] at HL HO1 HI HN HN1 ⊢
    clear hcs HA hX hM
    go_enter Tryd.func89, Tryd.ntmps89
    go_wp2_with (first
      | ((with_reducible show wpList _ _ _ (⟨some 3, _, _, _, _, _⟩ :: _) _ _); refine wpList_box_blk rfl _ (.tmp 1) rfl cs rfl ?_; intro g w1 hg1 hg2 K1 L1)
      | ((with_reducible show wpList _ _ _ (⟨some 4, _, _, _, _, _⟩ :: _) _ _); refine wpList_alloc_blk rfl _ rfl zs _ ZH ?_; intro h w2 hg3 hg4 Z2 L02; have G2 := Lib.hid (K1.out.over L02.out); have L2 := Lib.hid (step L1.out L02.out); have hgh : g ≠ h := (by omega); have hhw : w.heap.size ≤ h := (by have := L1.out.size; omega))
      | ((with_reducible show wpList _ _ _ (⟨some 20, _, _, _, _, _⟩ :: _) _ _); refine wpList_load_blk rfl _ (.tmp 3) rfl g rfl _ cs G2 20 _ Tryd.underlying45 rfl size_say HN ?_)
      | ((with_reducible show wpList _ _ _ (⟨none, .store _ (.tmp 4) _, _, _, _, _⟩ :: _) _ _); refine wpList_store_blk rfl _ (.tmp 4) (.tmp 20) rfl h rfl _ zs cs rfl Z2 20 size_say HZ HN HN1 ?_; intro w9 K9 O9 hg9)
      | fail)
    have L9 := Lib.hid (below_only L2.out O9.out hhw)
    refine bodyPost_ret (v := .tuple #[.agg cs.toArray, .bool true]) ?_ rfl (HQ.out _ _ ⟨_, rfl, HI.out w9 L9.out, L9.out⟩)
    exact results_cell_two rfl _ _ h _ _ (0, 0) _ rfl K9.out Tryd.underlying45 rfl (by rw [size_say]; have := HN.out; simp [this]) rfl
  by_cases h3 : c = 3
  · subst h3
    have e0 : (if knownT 3 = true then besideSay 3 a else zeroSay) = a := rfl
    rw [e0, show knownT 3 = true from rfl] at HQ
    clear e0
    obtain ⟨X1, X2, X3, M1, M2, M3, rfl, hX, hM⟩ := ha
    have HI : Hid (∀ w' : World, Below w.heap.size w w' → SayIs w' w'.heap.size (scells (.slice X1 X2 X3) (.slice M1 M2 M3) a) (a)) := fun w' hb => ⟨X1, X2, X3, M1, M2, M3, rfl, hX.over hb, hM.over hb⟩
    have HN : Hid ((scells (.slice X1 X2 X3) (.slice M1 M2 M3) a).length = 20) := scells_len (ka)
    have HN1 : Hid (∀ v ∈ scells (.slice X1 X2 X3) (.slice M1 M2 M3) a, v.oneCell' = true) := scells_one rfl rfl
    obtain ⟨cs, hcs⟩ : ∃ c, c = scells (.slice X1 X2 X3) (.slice M1 M2 M3) a := ⟨_, rfl⟩
    rw [← hcs] at HL HO1 HI HN HN1 ⊢
    clear hcs HA hX hM
    go_enter Tryd.func89, Tryd.ntmps89
    go_wp2_with (first
      | ((with_reducible show wpList _ _ _ (⟨some 3, _, _, _, _, _⟩ :: _) _ _); refine wpList_box_blk rfl _ (.tmp 1) rfl cs rfl ?_; intro g w1 hg1 hg2 K1 L1)
      | ((with_reducible show wpList _ _ _ (⟨some 4, _, _, _, _, _⟩ :: _) _ _); refine wpList_alloc_blk rfl _ rfl zs _ ZH ?_; intro h w2 hg3 hg4 Z2 L02; have G2 := Lib.hid (K1.out.over L02.out); have L2 := Lib.hid (step L1.out L02.out); have hgh : g ≠ h := (by omega); have hhw : w.heap.size ≤ h := (by have := L1.out.size; omega))
      | ((with_reducible show wpList _ _ _ (⟨some 20, _, _, _, _, _⟩ :: _) _ _); refine wpList_load_blk rfl _ (.tmp 3) rfl g rfl _ cs G2 20 _ Tryd.underlying45 rfl size_say HN ?_)
      | ((with_reducible show wpList _ _ _ (⟨none, .store _ (.tmp 4) _, _, _, _, _⟩ :: _) _ _); refine wpList_store_blk rfl _ (.tmp 4) (.tmp 20) rfl h rfl _ zs cs rfl Z2 20 size_say HZ HN HN1 ?_; intro w9 K9 O9 hg9)
      | fail)
    have L9 := Lib.hid (below_only L2.out O9.out hhw)
    refine bodyPost_ret (v := .tuple #[.agg cs.toArray, .bool true]) ?_ rfl (HQ.out _ _ ⟨_, rfl, HI.out w9 L9.out, L9.out⟩)
    exact results_cell_two rfl _ _ h _ _ (0, 0) _ rfl K9.out Tryd.underlying45 rfl (by rw [size_say]; have := HN.out; simp [this]) rfl
  by_cases h2 : c = 2
  · subst h2
    have e0 : (if knownT 2 = true then besideSay 2 a else zeroSay) = a := rfl
    rw [e0, show knownT 2 = true from rfl] at HQ
    clear e0
    obtain ⟨X1, X2, X3, M1, M2, M3, rfl, hX, hM⟩ := ha
    have HI : Hid (∀ w' : World, Below w.heap.size w w' → SayIs w' w'.heap.size (scells (.slice X1 X2 X3) (.slice M1 M2 M3) a) (a)) := fun w' hb => ⟨X1, X2, X3, M1, M2, M3, rfl, hX.over hb, hM.over hb⟩
    have HN : Hid ((scells (.slice X1 X2 X3) (.slice M1 M2 M3) a).length = 20) := scells_len (ka)
    have HN1 : Hid (∀ v ∈ scells (.slice X1 X2 X3) (.slice M1 M2 M3) a, v.oneCell' = true) := scells_one rfl rfl
    obtain ⟨cs, hcs⟩ : ∃ c, c = scells (.slice X1 X2 X3) (.slice M1 M2 M3) a := ⟨_, rfl⟩
    rw [← hcs] at HL HO1 HI HN HN1 ⊢
    clear hcs HA hX hM
    go_enter Tryd.func89, Tryd.ntmps89
    go_wp2_with (first
      | ((with_reducible show wpList _ _ _ (⟨some 3, _, _, _, _, _⟩ :: _) _ _); refine wpList_box_blk rfl _ (.tmp 1) rfl cs rfl ?_; intro g w1 hg1 hg2 K1 L1)
      | ((with_reducible show wpList _ _ _ (⟨some 4, _, _, _, _, _⟩ :: _) _ _); refine wpList_alloc_blk rfl _ rfl zs _ ZH ?_; intro h w2 hg3 hg4 Z2 L02; have G2 := Lib.hid (K1.out.over L02.out); have L2 := Lib.hid (step L1.out L02.out); have hgh : g ≠ h := (by omega); have hhw : w.heap.size ≤ h := (by have := L1.out.size; omega))
      | ((with_reducible show wpList _ _ _ (⟨some 20, _, _, _, _, _⟩ :: _) _ _); refine wpList_load_blk rfl _ (.tmp 3) rfl g rfl _ cs G2 20 _ Tryd.underlying45 rfl size_say HN ?_)
      | ((with_reducible show wpList _ _ _ (⟨none, .store _ (.tmp 4) _, _, _, _, _⟩ :: _) _ _); refine wpList_store_blk rfl _ (.tmp 4) (.tmp 20) rfl h rfl _ zs cs rfl Z2 20 size_say HZ HN HN1 ?_; intro w9 K9 O9 hg9)
      | fail)
    have L9 := Lib.hid (below_only L2.out O9.out hhw)
    refine bodyPost_ret (v := .tuple #[.agg cs.toArray, .bool true]) ?_ rfl (HQ.out _ _ ⟨_, rfl, HI.out w9 L9.out, L9.out⟩)
    exact results_cell_two rfl _ _ h _ _ (0, 0) _ rfl K9.out Tryd.underlying45 rfl (by rw [size_say]; have := HN.out; simp [this]) rfl
  by_cases h4 : c = 4
  · subst h4
    have e0 : (if knownT 4 = true then besideSay 4 a else zeroSay) = a := rfl
    rw [e0, show knownT 4 = true from rfl] at HQ
    clear e0
    obtain ⟨X1, X2, X3, M1, M2, M3, rfl, hX, hM⟩ := ha
    have HI : Hid (∀ w' : World, Below w.heap.size w w' → SayIs w' w'.heap.size (scells (.slice X1 X2 X3) (.slice M1 M2 M3) a) (a)) := fun w' hb => ⟨X1, X2, X3, M1, M2, M3, rfl, hX.over hb, hM.over hb⟩
    have HN : Hid ((scells (.slice X1 X2 X3) (.slice M1 M2 M3) a).length = 20) := scells_len (ka)
    have HN1 : Hid (∀ v ∈ scells (.slice X1 X2 X3) (.slice M1 M2 M3) a, v.oneCell' = true) := scells_one rfl rfl
    obtain ⟨cs, hcs⟩ : ∃ c, c = scells (.slice X1 X2 X3) (.slice M1 M2 M3) a := ⟨_, rfl⟩
    rw [← hcs] at HL HO1 HI HN HN1 ⊢
    clear hcs HA hX hM
    go_enter Tryd.func89, Tryd.ntmps89
    go_wp2_with (first
      | ((with_reducible show wpList _ _ _ (⟨some 3, _, _, _, _, _⟩ :: _) _ _); refine wpList_box_blk rfl _ (.tmp 1) rfl cs rfl ?_; intro g w1 hg1 hg2 K1 L1)
      | ((with_reducible show wpList _ _ _ (⟨some 4, _, _, _, _, _⟩ :: _) _ _); refine wpList_alloc_blk rfl _ rfl zs _ ZH ?_; intro h w2 hg3 hg4 Z2 L02; have G2 := Lib.hid (K1.out.over L02.out); have L2 := Lib.hid (step L1.out L02.out); have hgh : g ≠ h := (by omega); have hhw : w.heap.size ≤ h := (by have := L1.out.size; omega))
      | ((with_reducible show wpList _ _ _ (⟨some 20, _, _, _, _, _⟩ :: _) _ _); refine wpList_load_blk rfl _ (.tmp 3) rfl g rfl _ cs G2 20 _ Tryd.underlying45 rfl size_say HN ?_)
      | ((with_reducible show wpList _ _ _ (⟨none, .store _ (.tmp 4) _, _, _, _, _⟩ :: _) _ _); refine wpList_store_blk rfl _ (.tmp 4) (.tmp 20) rfl h rfl _ zs cs rfl Z2 20 size_say HZ HN HN1 ?_; intro w9 K9 O9 hg9)
      | fail)
    have L9 := Lib.hid (below_only L2.out O9.out hhw)
    refine bodyPost_ret (v := .tuple #[.agg cs.toArray, .bool true]) ?_ rfl (HQ.out _ _ ⟨_, rfl, HI.out w9 L9.out, L9.out⟩)
    exact results_cell_two rfl _ _ h _ _ (0, 0) _ rfl K9.out Tryd.underlying45 rfl (by rw [size_say]; have := HN.out; simp [this]) rfl
  by_cases h13 : c = 13
  · subst h13
    have e0 : (if knownT 13 = true then besideSay 13 a else zeroSay) = a := rfl
    rw [e0, show knownT 13 = true from rfl] at HQ
    clear e0
    obtain ⟨X1, X2, X3, M1, M2, M3, rfl, hX, hM⟩ := ha
    have HI : Hid (∀ w' : World, Below w.heap.size w w' → SayIs w' w'.heap.size (scells (.slice X1 X2 X3) (.slice M1 M2 M3) a) (a)) := fun w' hb => ⟨X1, X2, X3, M1, M2, M3, rfl, hX.over hb, hM.over hb⟩
    have HN : Hid ((scells (.slice X1 X2 X3) (.slice M1 M2 M3) a).length = 20) := scells_len (ka)
    have HN1 : Hid (∀ v ∈ scells (.slice X1 X2 X3) (.slice M1 M2 M3) a, v.oneCell' = true) := scells_one rfl rfl
    obtain ⟨cs, hcs⟩ : ∃ c, c = scells (.slice X1 X2 X3) (.slice M1 M2 M3) a := ⟨_, rfl⟩
    rw [← hcs] at HL HO1 HI HN HN1 ⊢
    clear hcs HA hX hM
    go_enter Tryd.func89, Tryd.ntmps89
    go_wp2_with (first
      | ((with_reducible show wpList _ _ _ (⟨some 3, _, _, _, _, _⟩ :: _) _ _); refine wpList_box_blk rfl _ (.tmp 1) rfl cs rfl ?_; intro g w1 hg1 hg2 K1 L1)
      | ((with_reducible show wpList _ _ _ (⟨some 4, _, _, _, _, _⟩ :: _) _ _); refine wpList_alloc_blk rfl _ rfl zs _ ZH ?_; intro h w2 hg3 hg4 Z2 L02; have G2 := Lib.hid (K1.out.over L02.out); have L2 := Lib.hid (step L1.out L02.out); have hgh : g ≠ h := (by omega); have hhw : w.heap.size ≤ h := (by have := L1.out.size; omega))
      | ((with_reducible show wpList _ _ _ (⟨some 20, _, _, _, _, _⟩ :: _) _ _); refine wpList_load_blk rfl _ (.tmp 3) rfl g rfl _ cs G2 20 _ Tryd.underlying45 rfl size_say HN ?_)
      | ((with_reducible show wpList _ _ _ (⟨none, .store _ (.tmp 4) _, _, _, _, _⟩ :: _) _ _); refine wpList_store_blk rfl _ (.tmp 4) (.tmp 20) rfl h rfl _ zs cs rfl Z2 20 size_say HZ HN HN1 ?_; intro w9 K9 O9 hg9)
      | fail)
    have L9 := Lib.hid (below_only L2.out O9.out hhw)
    refine bodyPost_ret (v := .tuple #[.agg cs.toArray, .bool true]) ?_ rfl (HQ.out _ _ ⟨_, rfl, HI.out w9 L9.out, L9.out⟩)
    exact results_cell_two rfl _ _ h _ _ (0, 0) _ rfl K9.out Tryd.underlying45 rfl (by rw [size_say]; have := HN.out; simp [this]) rfl
  have hk : knownT c = false := by unfold knownT; simp; omega
  rw [if_neg (by rw [hk]; decide), hk] at HQ
  have b0 : (c == 0) = false := by simpa using h0
  have b1 : (c == 1) = false := by simpa using h1
  have b3 : (c == 3) = false := by simpa using h3
  have b2 : (c == 2) = false := by simpa using h2
  have b4 : (c == 4) = false := by simpa using h4
  have b13 : (c == 13) = false := by simpa using h13
  go_enter Tryd.func89, Tryd.ntmps89
  go_wp2_with (first
    | ((with_reducible show wpList _ _ _ (⟨some 3, _, _, _, _, _⟩ :: _) _ _); refine wpList_box_blk rfl _ (.tmp 1) rfl cs rfl ?_; intro g w1 hg1 hg2 K1 L1)
    | ((with_reducible show wpList _ _ _ (⟨some 4, _, _, _, _, _⟩ :: _) _ _); refine wpList_alloc_blk rfl _ rfl zs _ ZH ?_; intro h w2 hg3 hg4 Z2 L02; have G2 := Lib.hid (K1.out.over L02.out); have L2 := Lib.hid (step L1.out L02.out); have hgh : g ≠ h := (by omega); have hhw : w.heap.size ≤ h := (by have := L1.out.size; omega))
    | ((with_reducible show wpList _ _ _ (⟨some 7, _, _, _, _, _⟩ :: _) _ _); refine wpList_build_none rfl _ rfl zs BZ ?_)
    | ((with_reducible show wpList _ _ _ (⟨none, .store _ (.tmp 4) _, _, _, _, _⟩ :: _) _ _); refine wpList_store_blk rfl _ (.tmp 4) (.tmp 7) rfl h rfl _ zs zs rfl Z2 20 size_say HZ HZ HZ1 ?_; intro w9 K9 O9 hg9)
    | fail)
  have L9 := Lib.hid (below_only L2.out O9.out hhw)
  refine bodyPost_ret (v := .tuple #[.agg zs.toArray, .bool false]) ?_ rfl (HQ.out _ _ ⟨_, rfl, HZI.out w9, L9.out⟩)
  exact results_cell_two rfl _ _ h _ _ (0, 0) _ rfl K9.out Tryd.underlying45 rfl (by rw [size_say]; have := HZ.out; simp [this]) rfl
end Go.Proofs.YtdlcjobahdmapaaDoor

namespace Go.Proofs.YtdlcjobahdmapaaDoor
set_option linter.all false
open Go.RowKit
set_option linter.unusedVariables false
set_option maxRecDepth 100000
theorem scells_chalH {vx ve : Value} {s : SayV} {w : World} {g : Nat} {T : TypeId} (k : s.ok) (h : Blk w g T (scells vx ve s)) : Holds w w.heap.size (some ⟨g, 2, none⟩) 8 8 s.chal := by
  have hr := scells_chal h k
  refine ⟨k.clen, Nat.le_refl _, by decide, k.cbyte, fun hA => (by cases hA), fun _ => ⟨g, 2, rfl, h.lt, fun i hi => ?_⟩⟩
  rw [hr i (.int .u8 (s.chal.getD i 0)) (by
    have : i < s.chal.length := by rw [k.clen]; exact hi
    simp [List.getD_eq_getElem?_getD, this])]
end Go.Proofs.YtdlcjobahdmapaaDoor

namespace Go.Proofs.YtdlcjobahdmapaaDoor
set_option linter.all false
open Go.RowKit
set_option linter.unusedVariables false
set_option maxRecDepth 100000
def sayErrP (c : Int) (s : SayV) : Int := if knownT c = true ∧ besideSay c s = zeroSay ∧ (c = 0 → s.siz < 4294967296) then 0 else 2
def sayOfP (c : Int) (s : SayV) : List Int := if sayErrP c s = 0 then (if c = 0 then le s.dia 2 ++ List.replicate 2 0 ++ le s.siz 4 ++ s.chal else List.replicate 4 0) else []
def PSayPost (w : World) (c : Int) (s : SayV) (e : Ending) (w' : World) : Prop := ∃ v, e = .returned (.tuple #[v, .int .i64 (sayErrP c s)]) ∧ Own w' w.heap.size v (sayOfP c s) ∧ Below w.heap.size w w'
set_option maxHeartbeats 4000000 in
theorem PutSay_any (w : World) (c : Int) (cs : List Value) (a : SayV) (hc : 0 ≤ c ∧ c ≤ 65535) (ka : a.ok) (ha : SayIs w w.heap.size cs a) :
    Calls Tryd.prog 69 #[.int .u16 c, .agg cs.toArray] w (PSayPost w c a) := by
  have HL := Lib.hid (ha.len ka)
  have HO1 := Lib.hid ha.one
  have ZH := Lib.hid zero_say
  have HZ : Hid ((scells (.slice none 0 0) (.slice none 0 0) zeroSay).length = 20) := scells_len zeroSay_ok
  have HA := Lib.hid ha
  have CB : Hid (∀ w' : World, Below w.heap.size w w' → Calls Tryd.prog 89 #[.int .u16 c, .agg cs.toArray] w' fun e w2 => ∃ ds, e = .returned (.tuple #[.agg ds.toArray, .bool (knownT c)]) ∧ SayIs w2 w2.heap.size ds (if knownT c = true then besideSay c a else zeroSay) ∧ Below w'.heap.size w' w2) := fun w' hb => sayBeside_any w' c cs a hc ka (ha.over hb)
  obtain ⟨zs, hzs⟩ : ∃ zs, zs = scells (.slice none 0 0) (.slice none 0 0) zeroSay := ⟨_, rfl⟩
  rw [← hzs] at ZH HZ
  clear hzs
  by_cases hk : knownT c = true
  rotate_left
  · have hk' : knownT c = false := by simpa using hk
    have HQ : Hid (∀ e w', e = .returned (.tuple #[.slice none 0 0, .int .i64 2]) → Below w.heap.size w w' → PSayPost w c a e w') := by
      intro e w' he hb
      have h2 : sayErrP c a = 2 := by unfold sayErrP; rw [if_neg (fun h => hk h.1)]
      unfold PSayPost sayOfP
      rw [h2, if_neg (by decide)]
      exact ⟨_, he, Own.nil _ _, hb⟩
    rw [if_neg hk, hk'] at CB
    have kb := zeroSay_ok
    clear hk hk' HA ka ha
    go_enter Tryd.func69, Tryd.ntmps69
    go_wp2_with (first
      | ((with_reducible show wpList _ _ _ (⟨some 3, _, _, _, _, _⟩ :: _) _ _); refine wpList_box_blk rfl _ (.tmp 1) rfl cs rfl ?_; intro g w1 hg1 hg2 K1 L1)
      | ((with_reducible show wpList _ _ _ (⟨some 12, _, _, _, _, _⟩ :: _) _ _); refine wpList_load_blk rfl _ (.tmp 3) rfl g rfl _ cs K1 20 _ Tryd.underlying45 rfl size_say HL ?_)
      | fail)
    refine (CB.out w1 L1.out).mono ?_
    rintro e w2 ⟨ds, rfl, hds, L2⟩
    have HD := Lib.hid hds
    have HDL := Lib.hid (hds.len kb)
    have HDO := Lib.hid hds.one
    have K2 := Lib.hid (K1.out.over L2)
    have M2 := Lib.hid (step L1.out L2)
    clear hds L2 K1
    go_wp2_with (first
      | ((with_reducible show wpList _ _ _ (⟨some 6, _, _, _, _, _⟩ :: _) _ _); refine wpList_alloc_blk rfl _ rfl zs _ ZH ?_; intro h w3 hg3 hg4 Z3 L3)
      | ((with_reducible show wpList _ _ _ (⟨none, .store _ (.tmp 6) _, _, _, _, _⟩ :: _) _ _); refine wpList_store_blk rfl _ (.tmp 6) (.tmp 14) rfl h rfl _ zs ds rfl Z3 20 size_say HZ HDL HDO ?_; intro w4 X4 O4 hg5; have L4 := Lib.hid (below_only L3.out O4.out hg3); have M4 := Lib.hid (step M2.out L4.out); have K4 := Lib.hid (K2.out.over L4.out); have HD4 := Lib.hid (HD.out.over L4.out))
      | fail)
    go_ret2
    exact HQ.out _ _ rfl M4.out
  rw [if_pos hk, hk] at CB
  have kb := besideSay_ok (c := c) ka
  have CZ : Hid (∀ (w' : World) (ds : List Value), SayIs w' w'.heap.size ds (besideSay c a) → Calls Tryd.prog 90 #[.agg ds.toArray] w' fun e w2 => e = .returned (.bool (decide (besideSay c a = zeroSay))) ∧ Below w'.heap.size w' w2) := fun w' ds hds => isZeroSay_any w' ds _ kb hds
  by_cases hz : besideSay c a = zeroSay
  rotate_left
  · rw [decide_eq_false hz] at CZ
    have HQ : Hid (∀ e w', e = .returned (.tuple #[.slice none 0 0, .int .i64 2]) → Below w.heap.size w w' → PSayPost w c a e w') := by
      intro e w' he hb
      have h2 : sayErrP c a = 2 := by unfold sayErrP; rw [if_neg (fun h => hz h.2.1)]
      unfold PSayPost sayOfP
      rw [h2, if_neg (by decide)]
      exact ⟨_, he, Own.nil _ _, hb⟩
    obtain ⟨b, hb⟩ : ∃ b, b = besideSay c a := ⟨_, rfl⟩
    rw [← hb] at CB CZ kb
    clear hk hz HA ka ha hb
    go_enter Tryd.func69, Tryd.ntmps69
    go_wp2_with (first
      | ((with_reducible show wpList _ _ _ (⟨some 3, _, _, _, _, _⟩ :: _) _ _); refine wpList_box_blk rfl _ (.tmp 1) rfl cs rfl ?_; intro g w1 hg1 hg2 K1 L1)
      | ((with_reducible show wpList _ _ _ (⟨some 12, _, _, _, _, _⟩ :: _) _ _); refine wpList_load_blk rfl _ (.tmp 3) rfl g rfl _ cs K1 20 _ Tryd.underlying45 rfl size_say HL ?_)
      | fail)
    refine (CB.out w1 L1.out).mono ?_
    rintro e w2 ⟨ds, rfl, hds, L2⟩
    have HD := Lib.hid hds
    have HDL := Lib.hid (hds.len kb)
    have HDO := Lib.hid hds.one
    have K2 := Lib.hid (K1.out.over L2)
    have M2 := Lib.hid (step L1.out L2)
    clear hds L2 K1
    go_wp2_with (first
      | ((with_reducible show wpList _ _ _ (⟨some 6, _, _, _, _, _⟩ :: _) _ _); refine wpList_alloc_blk rfl _ rfl zs _ ZH ?_; intro h w3 hg3 hg4 Z3 L3)
      | ((with_reducible show wpList _ _ _ (⟨none, .store _ (.tmp 6) _, _, _, _, _⟩ :: _) _ _); refine wpList_store_blk rfl _ (.tmp 6) (.tmp 14) rfl h rfl _ zs ds rfl Z3 20 size_say HZ HDL HDO ?_; intro w4 X4 O4 hg5; have L4 := Lib.hid (below_only L3.out O4.out hg3); have M4 := Lib.hid (step M2.out L4.out); have K4 := Lib.hid (K2.out.over L4.out); have HD4 := Lib.hid (HD.out.over L4.out))
      | ((with_reducible show wpList _ _ _ (⟨some 19, _, _, _, _, _⟩ :: _) _ _); refine wpList_load_want (by kernel_rfl) _ (.tmp 6) rfl h rfl _ ds X4 20 _ Tryd.underlying45 rfl size_say HDL ?_)
      | fail)
    refine (CZ.out w4 ds HD4.out).mono ?_
    rintro e w5 ⟨rfl, L5⟩
    have M5 := Lib.hid (step M4.out L5)
    have K5 := Lib.hid (K4.out.over L5)
    have hs5 := M5.out.size
    clear L5 K4 HD4 HD CZ CB X4 O4 Z3 L3 L4 M4 M2 K2
    go_wp2
    go_ret2
    exact HQ.out _ _ rfl M5.out
  rw [decide_eq_true hz] at CZ
  by_cases h0 : c = 0
  rotate_left
  · have h2 : sayErrP c a = 0 := by unfold sayErrP; rw [if_pos ⟨hk, hz, fun h => absurd h h0⟩]
    have HQ : Hid (∀ e w', (∃ v, e = .returned (.tuple #[v, .int .i64 0]) ∧ Own w' w.heap.size v (List.replicate 4 0) ∧ Below w.heap.size w w') → PSayPost w c a e w') := by
      intro e w' hh
      unfold PSayPost sayOfP
      rw [h2, if_pos rfl, if_neg h0]
      exact hh
    have b0 : (c != 0) = true := by simpa using h0
    obtain ⟨b, hb⟩ : ∃ b, b = besideSay c a := ⟨_, rfl⟩
    rw [← hb] at CB CZ kb
    clear hk hz HA ka ha h2 h0 hb
    go_enter Tryd.func69, Tryd.ntmps69
    go_wp2_with (first
      | ((with_reducible show wpList _ _ _ (⟨some 3, _, _, _, _, _⟩ :: _) _ _); refine wpList_box_blk rfl _ (.tmp 1) rfl cs rfl ?_; intro g w1 hg1 hg2 K1 L1)
      | ((with_reducible show wpList _ _ _ (⟨some 12, _, _, _, _, _⟩ :: _) _ _); refine wpList_load_blk rfl _ (.tmp 3) rfl g rfl _ cs K1 20 _ Tryd.underlying45 rfl size_say HL ?_)
      | fail)
    refine (CB.out w1 L1.out).mono ?_
    rintro e w2 ⟨ds, rfl, hds, L2⟩
    have HD := Lib.hid hds
    have HDL := Lib.hid (hds.len kb)
    have HDO := Lib.hid hds.one
    have K2 := Lib.hid (K1.out.over L2)
    have M2 := Lib.hid (step L1.out L2)
    clear hds L2 K1
    go_wp2_with (first
      | ((with_reducible show wpList _ _ _ (⟨some 6, _, _, _, _, _⟩ :: _) _ _); refine wpList_alloc_blk rfl _ rfl zs _ ZH ?_; intro h w3 hg3 hg4 Z3 L3)
      | ((with_reducible show wpList _ _ _ (⟨none, .store _ (.tmp 6) _, _, _, _, _⟩ :: _) _ _); refine wpList_store_blk rfl _ (.tmp 6) (.tmp 14) rfl h rfl _ zs ds rfl Z3 20 size_say HZ HDL HDO ?_; intro w4 X4 O4 hg5; have L4 := Lib.hid (below_only L3.out O4.out hg3); have M4 := Lib.hid (step M2.out L4.out); have K4 := Lib.hid (K2.out.over L4.out); have HD4 := Lib.hid (HD.out.over L4.out))
      | ((with_reducible show wpList _ _ _ (⟨some 19, _, _, _, _, _⟩ :: _) _ _); refine wpList_load_want (by kernel_rfl) _ (.tmp 6) rfl h rfl _ ds X4 20 _ Tryd.underlying45 rfl size_say HDL ?_)
      | fail)
    refine (CZ.out w4 ds HD4.out).mono ?_
    rintro e w5 ⟨rfl, L5⟩
    have M5 := Lib.hid (step M4.out L5)
    have K5 := Lib.hid (K4.out.over L5)
    have hs5 := M5.out.size
    clear L5 K4 HD4 HD CZ CB X4 O4 Z3 L3 L4 M4 M2 K2
    go_wp2_with (at_make; refine wpList_make_bytes _ rfl _ _ rfl _ _ 4 rfl rfl rfl rfl (by omega) ?_; intro w6 R6 L6)
    go_ret2
    exact HQ.out _ _ ⟨_, rfl, row_zeros R6.out hs5 (by omega), step M5.out L6⟩
  have b0 : (c != 0) = false := by simpa using h0
  have FA : Hid (∀ (w : World) (g : Nat), Blk w g 45 cs → w.cell? ⟨g, 0, none⟩ = some (.int .u16 a.dia) ∧ w.cell? ⟨g, 1, none⟩ = some (.int .u64 a.siz) ∧ Holds w w.heap.size (some ⟨g, 2, none⟩) 8 8 a.chal) := by
    intro w g h
    obtain ⟨X1, X2, X3, M1, M2, M3, rfl, _⟩ := HA.out
    exact ⟨h.at rfl, h.at rfl, scells_chalH ka h⟩
  obtain ⟨s0, s1⟩ := ka.siz
  obtain ⟨d0, d1⟩ := ka.dia
  by_cases hs : a.siz < 4294967296
  rotate_left
  · have h2 : sayErrP c a = 2 := by unfold sayErrP; rw [if_neg (fun h => hs (h.2.2 h0))]
    have HQ : Hid (∀ e w', e = .returned (.tuple #[.slice none 0 0, .int .i64 2]) → Below w.heap.size w w' → PSayPost w c a e w') := by
      intro e w' he hb
      unfold PSayPost sayOfP
      rw [h2, if_neg (by decide)]
      exact ⟨_, he, Own.nil _ _, hb⟩
    have CP : Hid (∀ w' : World, Calls Tryd.prog 62 #[.int .u64 a.siz, .int .i64 4] w' fun e w2 => ∃ A', e = .returned (.tuple #[.slice A' 0 0, .int .i64 2]) ∧ Below w'.heap.size w' w2) := fun w' => by
      have h := Put_any w' a.siz 4 ⟨s0, s1⟩ (by omega)
      unfold PutPost at h
      have hp : putOk a.siz 4 = false := by unfold putOk; rw [show ((4 : Int).toNat) = 4 from rfl, show (256 : Int) ^ 4 = 4294967296 from by decide, decide_eq_false hs]; simp
      unfold putErr putOf at h
      rw [if_neg (by rw [hp]; decide), if_neg (by rw [hp]; decide)] at h
      exact h.mono fun e w2 ⟨A', h1, _, h3⟩ => ⟨A', h1, h3⟩
    obtain ⟨sz, hsz⟩ : ∃ x, x = a.siz := ⟨_, rfl⟩
    rw [← hsz] at FA CP
    obtain ⟨b, hb⟩ : ∃ b, b = besideSay c a := ⟨_, rfl⟩
    rw [← hb] at CB CZ kb
    clear hk hz HA ka ha h2 h0 hb hs s0 s1 hsz
    go_enter Tryd.func69, Tryd.ntmps69
    go_wp2_with (first
      | ((with_reducible show wpList _ _ _ (⟨some 3, _, _, _, _, _⟩ :: _) _ _); refine wpList_box_blk rfl _ (.tmp 1) rfl cs rfl ?_; intro g w1 hg1 hg2 K1 L1)
      | ((with_reducible show wpList _ _ _ (⟨some 12, _, _, _, _, _⟩ :: _) _ _); refine wpList_load_blk rfl _ (.tmp 3) rfl g rfl _ cs K1 20 _ Tryd.underlying45 rfl size_say HL ?_)
      | fail)
    refine (CB.out w1 L1.out).mono ?_
    rintro e w2 ⟨ds, rfl, hds, L2⟩
    have HD := Lib.hid hds
    have HDL := Lib.hid (hds.len kb)
    have HDO := Lib.hid hds.one
    have K2 := Lib.hid (K1.out.over L2)
    have M2 := Lib.hid (step L1.out L2)
    clear hds L2 K1
    go_wp2_with (first
      | ((with_reducible show wpList _ _ _ (⟨some 6, _, _, _, _, _⟩ :: _) _ _); refine wpList_alloc_blk rfl _ rfl zs _ ZH ?_; intro h w3 hg3 hg4 Z3 L3)
      | ((with_reducible show wpList _ _ _ (⟨none, .store _ (.tmp 6) _, _, _, _, _⟩ :: _) _ _); refine wpList_store_blk rfl _ (.tmp 6) (.tmp 14) rfl h rfl _ zs ds rfl Z3 20 size_say HZ HDL HDO ?_; intro w4 X4 O4 hg5; have L4 := Lib.hid (below_only L3.out O4.out hg3); have M4 := Lib.hid (step M2.out L4.out); have K4 := Lib.hid (K2.out.over L4.out); have HD4 := Lib.hid (HD.out.over L4.out))
      | ((with_reducible show wpList _ _ _ (⟨some 19, _, _, _, _, _⟩ :: _) _ _); refine wpList_load_want (by kernel_rfl) _ (.tmp 6) rfl h rfl _ ds X4 20 _ Tryd.underlying45 rfl size_say HDL ?_)
      | fail)
    refine (CZ.out w4 ds HD4.out).mono ?_
    rintro e w5 ⟨rfl, L5⟩
    have M5 := Lib.hid (step M4.out L5)
    have K5 := Lib.hid (K4.out.over L5)
    have hs5 := M5.out.size
    clear L5 K4 HD4 HD CZ CB X4 O4 Z3 L3 L4 M4 M2 K2
    obtain ⟨_, gd, _⟩ := FA.out _ _ K5.out
    go_wp2_with fail
    refine (CP.out w5).mono ?_
    rintro e w6 ⟨A', rfl, L6⟩
    go_wp2
    go_ret2
    exact HQ.out _ _ rfl (step M5.out L6)
  have h2 : sayErrP c a = 0 := by unfold sayErrP; rw [if_pos ⟨hk, hz, fun _ => hs⟩]
  have HQ : Hid (∀ e w', (∃ v, e = .returned (.tuple #[v, .int .i64 0]) ∧ Own w' w.heap.size v (le a.dia 2 ++ List.replicate 2 0 ++ le a.siz 4 ++ a.chal) ∧ Below w.heap.size w w') → PSayPost w c a e w') := by
    intro e w' hh
    unfold PSayPost sayOfP
    rw [h2, if_pos rfl, if_pos h0]
    exact hh
  have CP : Hid (∀ w' : World, Calls Tryd.prog 62 #[.int .u64 a.siz, .int .i64 4] w' fun e w2 => ∃ A', e = .returned (.tuple #[.slice A' 4 4, .int .i64 0]) ∧ Fresh w2 w'.heap.size A' (le a.siz 4) ∧ Below w'.heap.size w' w2) := fun w' => by
    have h := Put_any w' a.siz 4 ⟨s0, s1⟩ (by omega)
    unfold PutPost at h
    have hp : putOk a.siz 4 = true := by unfold putOk; rw [show ((4 : Int).toNat) = 4 from rfl, show (256 : Int) ^ 4 = 4294967296 from by decide, decide_eq_true hs]; rfl
    unfold putErr putOf at h
    rw [if_pos hp, if_pos hp, show ((4 : Int).toNat) = 4 from rfl, le_length] at h
    exact h
  have CD : Hid (∀ w' : World, Calls Tryd.prog 91 #[.int .u64 a.dia, .int .i64 2] w' fun e w2 => ∃ A', e = .returned (.slice A' 2 2) ∧ Fresh w2 w'.heap.size A' (le a.dia 2) ∧ Below w'.heap.size w' w2) := fun w' => number_le w' a.dia d0 d1
  have CC : Hid (∀ (w : World) (gs m : Nat) (A : Nat → Option Addr) (n c : Nat → Nat) (X : Nat → List Int), Parts w gs m A n c X → m ≤ 1000 → sumN n m ≤ 140737488355328 → Calls Tryd.prog 35 #[.slice (some ⟨gs, 0, none⟩) m m] w fun e w' => ∃ v, e = .returned v ∧ Own w' w.heap.size v (catL X m) ∧ Below w.heap.size w w') := ConcatN_any
  have hdz : IntKind.u64.wrap a.dia = a.dia := by rw [IntKind.wrap_u64]; omega
  have HLS : Hid ((le a.siz 4).length = 4) := le_length _ _
  have HBS : Hid (Bytes (le a.siz 4)) := le_bytes _ _
  have HLD : Hid ((le a.dia 2).length = 2) := le_length _ _
  have HBD : Hid (Bytes (le a.dia 2)) := le_bytes _ _
  obtain ⟨ls, hls⟩ : ∃ x, x = le a.siz 4 := ⟨_, rfl⟩
  obtain ⟨ld, hld⟩ : ∃ x, x = le a.dia 2 := ⟨_, rfl⟩
  rw [← hls, ← hld] at HQ
  rw [← hls] at CP HLS HBS
  rw [← hld] at CD HLD HBD
  obtain ⟨sz, hsz⟩ : ∃ x, x = a.siz := ⟨_, rfl⟩
  obtain ⟨dz, hdz'⟩ : ∃ x, x = a.dia := ⟨_, rfl⟩
  obtain ⟨ch, hch⟩ : ∃ x, x = a.chal := ⟨_, rfl⟩
  rw [← hsz, ← hdz', ← hch] at FA
  rw [← hsz] at CP
  rw [← hdz'] at CD hdz
  rw [← hch] at HQ
  obtain ⟨b, hb⟩ : ∃ b, b = besideSay c a := ⟨_, rfl⟩
  rw [← hb] at CB CZ kb
  clear hk hz HA ka ha h2 h0 hb hs s0 s1 d0 d1 hsz hdz' hch hls hld
  go_enter Tryd.func69, Tryd.ntmps69
  go_wp2_with (first
    | ((with_reducible show wpList _ _ _ (⟨some 3, _, _, _, _, _⟩ :: _) _ _); refine wpList_box_blk rfl _ (.tmp 1) rfl cs rfl ?_; intro g w1 hg1 hg2 K1 L1)
    | ((with_reducible show wpList _ _ _ (⟨some 12, _, _, _, _, _⟩ :: _) _ _); refine wpList_load_blk rfl _ (.tmp 3) rfl g rfl _ cs K1 20 _ Tryd.underlying45 rfl size_say HL ?_)
    | fail)
  refine (CB.out w1 L1.out).mono ?_
  rintro e w2 ⟨ds, rfl, hds, L2⟩
  have HD := Lib.hid hds
  have HDL := Lib.hid (hds.len kb)
  have HDO := Lib.hid hds.one
  have K2 := Lib.hid (K1.out.over L2)
  have M2 := Lib.hid (step L1.out L2)
  clear hds L2 K1
  go_wp2_with (first
    | ((with_reducible show wpList _ _ _ (⟨some 6, _, _, _, _, _⟩ :: _) _ _); refine wpList_alloc_blk rfl _ rfl zs _ ZH ?_; intro h w3 hg3 hg4 Z3 L3)
    | ((with_reducible show wpList _ _ _ (⟨none, .store _ (.tmp 6) _, _, _, _, _⟩ :: _) _ _); refine wpList_store_blk rfl _ (.tmp 6) (.tmp 14) rfl h rfl _ zs ds rfl Z3 20 size_say HZ HDL HDO ?_; intro w4 X4 O4 hg5; have L4 := Lib.hid (below_only L3.out O4.out hg3); have M4 := Lib.hid (step M2.out L4.out); have K4 := Lib.hid (K2.out.over L4.out); have HD4 := Lib.hid (HD.out.over L4.out))
    | ((with_reducible show wpList _ _ _ (⟨some 19, _, _, _, _, _⟩ :: _) _ _); refine wpList_load_want (by kernel_rfl) _ (.tmp 6) rfl h rfl _ ds X4 20 _ Tryd.underlying45 rfl size_say HDL ?_)
    | fail)
  refine (CZ.out w4 ds HD4.out).mono ?_
  rintro e w5 ⟨rfl, L5⟩
  have M5 := Lib.hid (step M4.out L5)
  have K5 := Lib.hid (K4.out.over L5)
  have hs5 := M5.out.size
  clear L5 K4 HD4 HD CZ CB X4 O4 Z3 L3 L4 M4 M2 K2
  obtain ⟨_, gd, _⟩ := FA.out _ _ K5.out
  go_wp2_with fail
  refine (CP.out w5).mono ?_
  rintro e w6 ⟨A6, rfl, hf6, L6⟩
  have K6 := Lib.hid (K5.out.over L6)
  have M6 := Lib.hid (step M5.out L6)
  have HF6 := Lib.hid (hf6.holds HLS.out HBS.out (by omega))
  clear hf6 L6 gd CP K5
  go_upto_region 9 with fail
  refine wp_region_held (S := fun w' => Blk w' g 45 cs) (by kernel_rfl) ?_
  change wpAnyH _ _ _ _ _ _ _ _ w6.drew
  have S0 : Hid (Blk w6.drew g 45 cs) := K6.out.drew
  have b0 : Hid (Below w.heap.size w w6.drew) := M6.out.drew
  refine wpAnyH_take (i := 0) (v := _) rfl (by kernel_rfl) (by kernel_rfl) (by kernel_rfl) (fun _ _ _ h => h) (yieldsIf_fld (by kernel_rfl) _ (.tmp 3) 0 rfl (.pointer (some ⟨g, 0, none⟩)) (.pointer (some ⟨g, 0, none⟩)) (by kernel_rfl) (fld_isZeroSay_0 g)) S0.out ?_
  refine wpAnyH_take (i := 1) (v := _) rfl (by kernel_rfl) (by kernel_rfl) (by kernel_rfl) (fun _ _ _ h => h) (yieldsIf_load_one (by kernel_rfl) _ (.tmp 35) rfl g 0 (by kernel_rfl) (.int .u16 dz) (fun w h => (FA.out w g h).1) _ Tryd.underlying22 rfl) S0.out ?_
  refine wpAnyH_take (i := 2) (v := (.int .u64 dz)) rfl (by kernel_rfl) (by kernel_rfl) (by kernel_rfl) (fun _ _ _ h => h) (.inl ⟨by kernel_rfl, fun w _ => by go_simp⟩) S0.out ?_
  refine wpAnyH_take (i := 5) (v := _) rfl (by kernel_rfl) (by kernel_rfl) (by kernel_rfl) (fun _ _ _ h => h) (yieldsIf_move (by kernel_rfl) (.tmp 8) rfl (.slice A6 4 4) (by kernel_rfl)) S0.out ?_
  refine wpAnyH_take (i := 6) (v := _) rfl (by kernel_rfl) (by kernel_rfl) (by kernel_rfl) (fun _ _ _ h => h) (yieldsIf_fld (by kernel_rfl) _ (.tmp 3) 2 rfl (.pointer (some ⟨g, 0, none⟩)) (.pointer (some ⟨g, 2, none⟩)) (by kernel_rfl) (fld_isZeroSay_2 g)) S0.out ?_
  refine wpAnyH_take (i := 7) (v := (.slice (some ⟨g, 2, none⟩) 8 8)) rfl (by kernel_rfl) (by kernel_rfl) (by kernel_rfl) (fun _ _ _ h => h) (.inl ⟨by kernel_rfl, fun w _ => by go_simp⟩) S0.out ?_
  refine wpAnyH_two 3 4 _ _ (by kernel_rfl) rfl rfl (fun K hK => ?_) (fun K hK => ?_)
  · go_simp
    refine (CD.out _).mono ?_
    rintro e v1 ⟨A3, rfl, hf3, L3⟩
    have S1 := Lib.hid (S0.out.over L3)
    have b1 := Lib.hid (step b0.out L3)
    have HN1 := Lib.hid (hf3.holds HLD.out HBD.out (by omega))
    have HS1 := Lib.hid (HF6.out.drew.over L3)
    refine hK _ _ S1.out ?_
    clear hK K hf3 L3
    refine wpAnyH_one 4 _ (by kernel_rfl) rfl fun K hK => ?_
    refine step_make_bytes rfl _ _ rfl 2 rfl rfl (by omega) ?_
    intro v2 R2 b2'
    have S2 := Lib.hid (S1.out.over b2'.out)
    have b2 := Lib.hid (step b1.out b2'.out)
    have HN2 := Lib.hid (HN1.out.over b2'.out)
    have HS2 := Lib.hid (HS1.out.over b2'.out)
    have HZ2 : Hid (Holds v2 v2.heap.size (some ⟨v1.heap.size, 0, none⟩) 2 2 (List.replicate 2 0)) := Fresh.holds (base := 0) (.inr ⟨_, rfl, Nat.zero_le _, R2.out⟩) rfl (Bytes.zeros 2) (by omega)
    refine hK _ _ S2.out ?_
    clear hK K
    refine wpAnyH_frame fun a1 ha1 => ?_
    refine wpAnyH_one 8 _ (by kernel_rfl) rfl fun K hK => ?_
    refine step_slice_blk rfl _ _ 4 _ rfl Tryd.underlying96 [.slice A3 2 2, .slice (some ⟨v1.heap.size, 0, none⟩) 2 2, .slice A6 4 4, .slice (some ⟨g, 2, none⟩) 8 8] (by rw [ha1]; kernel_rfl) ?_
    intro g9 v3 q2 q3 Y3 b3'
    have S3 := Lib.hid (S2.out.over b3'.out)
    have b3 := Lib.hid (step b2.out b3'.out)
    obtain ⟨_, _, hch⟩ := FA.out _ _ S3.out
    have PP : Hid (Parts v3 g9 4 (partA [(A3, 2, 2, ld), (some ⟨v1.heap.size, 0, none⟩, 2, 2, List.replicate 2 0), (A6, 4, 4, ls), (some ⟨g, 2, none⟩, 8, 8, ch)]) (partN [(A3, 2, 2, ld), (some ⟨v1.heap.size, 0, none⟩, 2, 2, List.replicate 2 0), (A6, 4, 4, ls), (some ⟨g, 2, none⟩, 8, 8, ch)]) (partC [(A3, 2, 2, ld), (some ⟨v1.heap.size, 0, none⟩, 2, 2, List.replicate 2 0), (A6, 4, 4, ls), (some ⟨g, 2, none⟩, 8, 8, ch)]) (partX [(A3, 2, 2, ld), (some ⟨v1.heap.size, 0, none⟩, 2, 2, List.replicate 2 0), (A6, 4, 4, ls), (some ⟨g, 2, none⟩, 8, 8, ch)])) :=
      Parts.of_blk [(A3, 2, 2, ld), (some ⟨v1.heap.size, 0, none⟩, 2, 2, List.replicate 2 0), (A6, 4, 4, ls), (some ⟨g, 2, none⟩, 8, 8, ch)] Y3.out (List.forall_mem_cons.2 ⟨HN2.out.over b3'.out, List.forall_mem_cons.2 ⟨HZ2.out.over b3'.out, List.forall_mem_cons.2 ⟨HS2.out.over b3'.out, List.forall_mem_cons.2 ⟨hch, fun _ h => by cases h⟩⟩⟩⟩)
    refine hK _ _ S3.out ?_
    clear hK K hch
    rw [ha1]
    clear ha1 a1
    refine wpAnyH_one 9 _ (by kernel_rfl) rfl fun K hK => ?_
    go_simp
    refine (CC.out v3 g9 4 _ _ _ _ PP.out (by omega) (by show 0 + 2 + 2 + 4 + 8 ≤ _; omega)).mono ?_
    rintro e v4 ⟨v, rfl, ho, L4⟩
    have HOUT := Lib.hid ho
    have S4 := Lib.hid (S3.out.over L4)
    have b4 := Lib.hid (step b3.out L4)
    refine hK _ _ S4.out ?_
    clear hK K ho L4
    refine wpAnyH_one 10 _ (by kernel_rfl) rfl fun K hK => ?_
    go_simp
    refine hK _ _ S4.out ?_
    clear hK K
    refine wpAnyH_one 11 _ (by kernel_rfl) rfl fun K hK => ?_
    go_simp
    refine hK _ _ S4.out ?_
    clear hK K
    refine wpAnyH_done (by kernel_rfl) ?_ _
    go_wp2
    go_ret2
    refine HQ.out _ _ ⟨_, rfl, ?_, b4.out⟩
    have h9 := HOUT.out.mono (base' := w.heap.size) b3.out.size
    simpa [catL, partX, List.append_assoc] using h9
  · refine step_make_bytes rfl _ _ rfl 2 rfl rfl (by omega) ?_
    intro v1 R1 b1'
    have S1 := Lib.hid (S0.out.over b1'.out)
    have b1 := Lib.hid (step b0.out b1'.out)
    have HS1 := Lib.hid (HF6.out.drew.over b1'.out)
    have HZ1 : Hid (Holds v1 v1.heap.size (some ⟨w6.drew.heap.size, 0, none⟩) 2 2 (List.replicate 2 0)) := Fresh.holds (base := 0) (.inr ⟨_, rfl, Nat.zero_le _, R1.out⟩) rfl (Bytes.zeros 2) (by omega)
    refine hK _ _ S1.out ?_
    clear hK K
    refine wpAnyH_one 3 _ (by kernel_rfl) rfl fun K hK => ?_
    go_simp
    refine (CD.out _).mono ?_
    rintro e v2 ⟨A3, rfl, hf3, L3⟩
    have S2 := Lib.hid (S1.out.over L3)
    have b2 := Lib.hid (step b1.out L3)
    have HN2 := Lib.hid (hf3.holds HLD.out HBD.out (by omega))
    have HS2 := Lib.hid (HS1.out.over L3)
    have HZ2 := Lib.hid (HZ1.out.over L3)
    refine hK _ _ S2.out ?_
    clear hK K hf3 L3
    refine wpAnyH_frame fun a1 ha1 => ?_
    refine wpAnyH_one 8 _ (by kernel_rfl) rfl fun K hK => ?_
    refine step_slice_blk rfl _ _ 4 _ rfl Tryd.underlying96 [.slice A3 2 2, .slice (some ⟨w6.drew.heap.size, 0, none⟩) 2 2, .slice A6 4 4, .slice (some ⟨g, 2, none⟩) 8 8] (by rw [ha1]; kernel_rfl) ?_
    intro g9 v3 q2 q3 Y3 b3'
    have S3 := Lib.hid (S2.out.over b3'.out)
    have b3 := Lib.hid (step b2.out b3'.out)
    obtain ⟨_, _, hch⟩ := FA.out _ _ S3.out
    have PP : Hid (Parts v3 g9 4 (partA [(A3, 2, 2, ld), (some ⟨w6.drew.heap.size, 0, none⟩, 2, 2, List.replicate 2 0), (A6, 4, 4, ls), (some ⟨g, 2, none⟩, 8, 8, ch)]) (partN [(A3, 2, 2, ld), (some ⟨w6.drew.heap.size, 0, none⟩, 2, 2, List.replicate 2 0), (A6, 4, 4, ls), (some ⟨g, 2, none⟩, 8, 8, ch)]) (partC [(A3, 2, 2, ld), (some ⟨w6.drew.heap.size, 0, none⟩, 2, 2, List.replicate 2 0), (A6, 4, 4, ls), (some ⟨g, 2, none⟩, 8, 8, ch)]) (partX [(A3, 2, 2, ld), (some ⟨w6.drew.heap.size, 0, none⟩, 2, 2, List.replicate 2 0), (A6, 4, 4, ls), (some ⟨g, 2, none⟩, 8, 8, ch)])) :=
      Parts.of_blk [(A3, 2, 2, ld), (some ⟨w6.drew.heap.size, 0, none⟩, 2, 2, List.replicate 2 0), (A6, 4, 4, ls), (some ⟨g, 2, none⟩, 8, 8, ch)] Y3.out (List.forall_mem_cons.2 ⟨HN2.out.over b3'.out, List.forall_mem_cons.2 ⟨HZ2.out.over b3'.out, List.forall_mem_cons.2 ⟨HS2.out.over b3'.out, List.forall_mem_cons.2 ⟨hch, fun _ h => by cases h⟩⟩⟩⟩)
    refine hK _ _ S3.out ?_
    clear hK K hch
    rw [ha1]
    clear ha1 a1
    refine wpAnyH_one 9 _ (by kernel_rfl) rfl fun K hK => ?_
    go_simp
    refine (CC.out v3 g9 4 _ _ _ _ PP.out (by omega) (by show 0 + 2 + 2 + 4 + 8 ≤ _; omega)).mono ?_
    rintro e v4 ⟨v, rfl, ho, L4⟩
    have HOUT := Lib.hid ho
    have S4 := Lib.hid (S3.out.over L4)
    have b4 := Lib.hid (step b3.out L4)
    refine hK _ _ S4.out ?_
    clear hK K ho L4
    refine wpAnyH_one 10 _ (by kernel_rfl) rfl fun K hK => ?_
    go_simp
    refine hK _ _ S4.out ?_
    clear hK K
    refine wpAnyH_one 11 _ (by kernel_rfl) rfl fun K hK => ?_
    go_simp
    refine hK _ _ S4.out ?_
    clear hK K
    refine wpAnyH_done (by kernel_rfl) ?_ _
    go_wp2
    go_ret2
    refine HQ.out _ _ ⟨_, rfl, ?_, b4.out⟩
    have h9 := HOUT.out.mono (base' := w.heap.size) b3.out.size
    simpa [catL, partX, List.append_assoc] using h9
end Go.Proofs.YtdlcjobahdmapaaDoor

namespace Go.Proofs.YtdlcjobahdmapaaDoor
set_option linter.all false
open Go.RowKit
set_option linter.unusedVariables false
set_option maxRecDepth 100000
theorem Fresh.ownB {w : World} {base n : Nat} {A : Option Addr} {xs : List Int} (h : Fresh w base A xs) (hl : xs.length = n) (hn : n ≤ 281474976710656) : OwnZ .u8 5 w base (.slice A n n) xs := by
  rcases h with ⟨rfl, rfl⟩ | ⟨g, rfl, hb, hr⟩
  · obtain rfl : n = 0 := hl.symm
    exact OwnZ.nil _ _ _ _
  · refine .inr ⟨g, 0, by rw [hl, Nat.add_zero], hb, by unfold maxLen; omega, ?_⟩
    rw [List.replicate_zero, List.append_nil]
    exact hr
theorem row_zerosB {w : World} {g base n : Nat} (h : Row w g (List.replicate n 0)) (hb : base ≤ g) (hn : n ≤ 281474976710656) : OwnZ .u8 5 w base (.slice (some ⟨g, 0, none⟩) n n) (List.replicate n 0) :=
  Fresh.ownB (.inr ⟨g, rfl, hb, h⟩) (by simp) hn
end Go.Proofs.YtdlcjobahdmapaaDoor

namespace Go.Proofs.YtdlcjobahdmapaaDoor
set_option linter.all false
open Go.RowKit
set_option linter.unusedVariables false
set_option maxRecDepth 100000
section
variable {vd vx vl ve : Value} {a : AskV} {s : SayV}
theorem scells_setG (hg : s.chal.length = 8) (i : Nat) (u : Value) : (scells vx ve s).set (10 + i) u = .int .u16 s.dia :: .int .u64 s.siz :: (s.chal.map (Value.int .u8) ++ (stail vx ve s).set i u) := by
  unfold scells
  rw [show 10 + i = (8 + i) + 1 + 1 from by omega, List.set_cons_succ, List.set_cons_succ, List.set_append_right _ _ (by rw [List.length_map, hg]; omega), List.length_map, hg]
  congr 4
  omega
theorem sc10 (hg : s.chal.length = 8) (x : Int) : (scells vx ve s).set 10 (.int .u8 x) = scells vx ve { s with lev := x } := (scells_setG hg 0 _).trans rfl
theorem sc11 (hg : s.chal.length = 8) (x : Int) : (scells vx ve s).set 11 (.int .u8 x) = scells vx ve { s with dur := x } := (scells_setG hg 1 _).trans rfl
theorem sc12 (hg : s.chal.length = 8) (x : Int) : (scells vx ve s).set 12 (.int .u16 x) = scells vx ve { s with made := x } := (scells_setG hg 2 _).trans rfl
theorem sc13 (hg : s.chal.length = 8) (x : Int) : (scells vx ve s).set 13 (.int .u64 x) = scells vx ve { s with file := x } := (scells_setG hg 3 _).trans rfl
theorem sc14 (hg : s.chal.length = 8) (x : Int) : (scells vx ve s).set 14 (.int .u8 x) = scells vx ve { s with kind := x } := (scells_setG hg 4 _).trans rfl
theorem sc16 (hg : s.chal.length = 8) (x : Int) : (scells vx ve s).set 16 (.int .u32 x) = scells vx ve { s with n := x } := (scells_setG hg 6 _).trans rfl
theorem sc1 (hg : s.chal.length = 8) (x : Int) : (scells vx ve s).set 1 (.int .u64 x) = scells vx ve { s with siz := x } := rfl
theorem sc15 (hg : s.chal.length = 8) (v : Value) (xs : List Int) : (scells vx ve s).set 15 v = scells v ve { s with data := xs } := (scells_setG hg 5 _).trans rfl
theorem sc15n (hg : s.chal.length = 8) : (scells vx ve s).set 15 (.slice none 0 0) = scells (.slice none 0 0) ve { s with data := [] } := sc15 hg _ []
end
theorem besideFS_ok {c : Int} {s : SayV} (k : s.ok) : (besideFS c s).ok := by
  unfold besideFS
  split
  · exact ⟨k.dia, zb (by decide), k.clen, k.cbyte, zb (by decide), zb (by decide), zb (by decide), zb (by decide), zb (by decide), k.data, k.n, k.ents⟩
  · split
    · exact ⟨k.dia, k.siz, k.clen, k.cbyte, k.lev, k.dur, k.made, k.file, k.kind, Bytes.nil, k.n, k.ents⟩
    · split
      · exact ⟨k.dia, k.siz, k.clen, k.cbyte, k.lev, k.dur, k.made, k.file, k.kind, k.data, zb (by decide), k.ents⟩
      · exact k
theorem echo_errS (b : SayV) : (sayErrP 13 b == 0) = decide (b = zeroSay) := by
  have e : besideSay 13 b = b := by unfold besideSay; rw [if_neg (by decide)]
  unfold sayErrP
  rw [e]
  by_cases h : b = zeroSay
  · rw [if_pos ⟨rfl, h, fun h0 => absurd h0 (by decide)⟩, decide_eq_true h]
    rfl
  · rw [if_neg (fun h2 => h h2.2.1), decide_eq_false h]
    rfl
end Go.Proofs.YtdlcjobahdmapaaDoor

namespace Go.Proofs.YtdlcjobahdmapaaDoor
set_option linter.all false
open Go.RowKit
set_option linter.unusedVariables false
set_option maxRecDepth 100000
set_option maxHeartbeats 1000000 in
theorem isNamedSay_any (w : World) (c : Int) (cs : List Value) (a : SayV) (hc : 0 ≤ c ∧ c ≤ 65535) (ka : a.ok) (ha : SayIs w w.heap.size cs a) :
    Calls Tryd.prog 43 #[.int .u16 c, .agg cs.toArray] w fun e w' => e = .returned (.bool (nameFS c a)) ∧ Below w.heap.size w w' := by
  have HL := Lib.hid (ha.len ka)
  have hcl := ka.clen
  have CP : Hid (∀ (w' : World) (ds : List Value) (b : SayV), b.ok → SayIs w' w'.heap.size ds b → Calls Tryd.prog 69 #[.int .u16 13, .agg ds.toArray] w' fun e w2 => (∃ v er, e = .returned (.tuple #[v, .int .i64 er]) ∧ (er == 0) = decide (b = zeroSay)) ∧ Below w'.heap.size w' w2) := fun w' ds b kb hb => by
    have h := PutSay_any w' 13 ds b (by decide) kb hb
    exact h.mono fun e w2 ⟨v, h1, _, h3⟩ => ⟨⟨v, _, h1, echo_errS b⟩, h3⟩
  have kb := besideFS_ok (c := c) ka
  by_cases hk : knownF c = true
  rotate_left
  · have hn0 : nameFS c a = false := by unfold nameFS; rw [show knownF c = false from by simpa using hk]; rfl
    have hk' : c ≠ 5 ∧ c ≠ 6 ∧ c ≠ 7 ∧ c ≠ 8 ∧ c ≠ 9 ∧ c ≠ 10 := by
      refine ⟨?_, ?_, ?_, ?_, ?_, ?_⟩ <;> (rintro rfl; exact hk (by decide))
    obtain ⟨h5, h6, h7, h8, h9, h10⟩ := hk'
    have b5 : (c == 5) = false := by simpa using h5
    have b6 : (c == 6) = false := by simpa using h6
    have b7 : (c == 7) = false := by simpa using h7
    have b8 : (c == 8) = false := by simpa using h8
    have b9 : (c == 9) = false := by simpa using h9
    have b10 : (c == 10) = false := by simpa using h10
    rw [hn0]
    clear hk hn0 h5 h6 h7 h8 h9 h10 ha ka kb CP
    go_enter Tryd.func43, Tryd.ntmps43
    go_wp2_with (first
      | ((with_reducible show wpList _ _ _ (⟨some 3, _, _, _, _, _⟩ :: _) _ _); refine wpList_box_blk rfl _ (.tmp 1) rfl cs rfl ?_; intro g w1 hg1 hg2 K1 L1)
      | fail)
    go_ret
    exact ⟨rfl, L1.out⟩
  have hcs : c = 5 ∨ c = 6 ∨ c = 7 ∨ c = 8 ∨ c = 9 ∨ c = 10 := by unfold knownF at hk; simp at hk; omega
  obtain ⟨X1, X2, X3, M1, M2, M3, rfl, hX, hM⟩ := ha
  obtain ⟨C0, hC0⟩ : ∃ x, x = scells (.slice X1 X2 X3) (.slice M1 M2 M3) a := ⟨_, rfl⟩
  have HC0 := Lib.hid hC0
  rw [← hC0] at HL  ⊢
  clear hC0
  rcases hcs with h5 | h6 | h7 | h8 | h9 | h10
  · subst h5
    have HI : Hid (∀ w' : World, Below w.heap.size w w' → SayIs w' w'.heap.size (scells (.slice X1 X2 X3) (.slice M1 M2 M3) (besideFS 5 a)) (besideFS 5 a)) := fun w' hb => ⟨X1, X2, X3, M1, M2, M3, rfl, hX.over hb, hM.over hb⟩
    have HEQ : Hid (((((((C0).set 10 (.int .u8 0)).set 11 (.int .u8 0)).set 12 (.int .u16 0)).set 13 (.int .u64 0)).set 1 (.int .u64 0)).set 14 (.int .u8 0) = scells (.slice X1 X2 X3) (.slice M1 M2 M3) (besideFS 5 a)) := by
      show _ = _
      rw [HC0.out]
      simp only [sc10, sc11, sc12, sc13, sc1, sc14, hcl]
      try rfl
    have hnf : nameFS 5 a = decide (besideFS 5 a = zeroSay) := by unfold nameFS; rw [hk, Bool.true_and]
    rw [hnf]
    obtain ⟨b, hb⟩ : ∃ x, x = besideFS 5 a := ⟨_, rfl⟩
    rw [← hb] at HI HEQ kb  ⊢
    obtain ⟨D, hD⟩ : ∃ x, x = scells (.slice X1 X2 X3) (.slice M1 M2 M3) b := ⟨_, rfl⟩
    rw [← hD] at HI HEQ
    clear hb hD hk ka
    go_enter Tryd.func43, Tryd.ntmps43
    go_wp2_with (first
      | ((with_reducible show wpList _ _ _ (⟨some 3, _, _, _, _, _⟩ :: _) _ _); refine wpList_box_blk rfl _ (.tmp 1) rfl C0 rfl ?_; intro g w1 hg1 hg2 K1 L1)
      | ((with_reducible show wpList _ _ _ (⟨none, .store _ (.tmp 10) _, _, _, _, _⟩ :: _) _ _); refine wpList_store_fld rfl _ (.tmp 10) (.const (.int .u8 0)) rfl g 10 rfl _ C0 (.int .u8 0) rfl K1 (Lib.hid (by have := HL.out; omega)) (by kernel_rfl) rfl ?_; intro w2 K2 O2 hq2; obtain ⟨C1, hC1⟩ : ∃ x, x = C0.set 10 (.int .u8 0) := ⟨_, rfl⟩; have HC1 := Lib.hid hC1; have HL1 : Hid (C1.length = 20) := (by rw [hC1, List.length_set]; exact HL.out); rw [← hC1] at K2; have L2 := Lib.hid (below_only L1.out O2.out hg1); clear hC1)
      | ((with_reducible show wpList _ _ _ (⟨none, .store _ (.tmp 11) _, _, _, _, _⟩ :: _) _ _); refine wpList_store_fld rfl _ (.tmp 11) (.const (.int .u8 0)) rfl g 11 rfl _ C1 (.int .u8 0) rfl K2 (Lib.hid (by have := HL1.out; omega)) (by kernel_rfl) rfl ?_; intro w3 K3 O3 hq3; obtain ⟨C2, hC2⟩ : ∃ x, x = C1.set 11 (.int .u8 0) := ⟨_, rfl⟩; have HC2 := Lib.hid hC2; have HL2 : Hid (C2.length = 20) := (by rw [hC2, List.length_set]; exact HL1.out); rw [← hC2] at K3; have L3 := Lib.hid (below_only L2.out O3.out hg1); clear hC2)
      | ((with_reducible show wpList _ _ _ (⟨none, .store _ (.tmp 12) _, _, _, _, _⟩ :: _) _ _); refine wpList_store_fld rfl _ (.tmp 12) (.const (.int .u16 0)) rfl g 12 rfl _ C2 (.int .u16 0) rfl K3 (Lib.hid (by have := HL2.out; omega)) (by kernel_rfl) rfl ?_; intro w4 K4 O4 hq4; obtain ⟨C3, hC3⟩ : ∃ x, x = C2.set 12 (.int .u16 0) := ⟨_, rfl⟩; have HC3 := Lib.hid hC3; have HL3 : Hid (C3.length = 20) := (by rw [hC3, List.length_set]; exact HL2.out); rw [← hC3] at K4; have L4 := Lib.hid (below_only L3.out O4.out hg1); clear hC3)
      | ((with_reducible show wpList _ _ _ (⟨none, .store _ (.tmp 13) _, _, _, _, _⟩ :: _) _ _); refine wpList_store_fld rfl _ (.tmp 13) (.const (.int .u64 0)) rfl g 13 rfl _ C3 (.int .u64 0) rfl K4 (Lib.hid (by have := HL3.out; omega)) (by kernel_rfl) rfl ?_; intro w5 K5 O5 hq5; obtain ⟨C4, hC4⟩ : ∃ x, x = C3.set 13 (.int .u64 0) := ⟨_, rfl⟩; have HC4 := Lib.hid hC4; have HL4 : Hid (C4.length = 20) := (by rw [hC4, List.length_set]; exact HL3.out); rw [← hC4] at K5; have L5 := Lib.hid (below_only L4.out O5.out hg1); clear hC4)
      | ((with_reducible show wpList _ _ _ (⟨none, .store _ (.tmp 14) _, _, _, _, _⟩ :: _) _ _); refine wpList_store_fld rfl _ (.tmp 14) (.const (.int .u64 0)) rfl g 1 rfl _ C4 (.int .u64 0) rfl K5 (Lib.hid (by have := HL4.out; omega)) (by kernel_rfl) rfl ?_; intro w6 K6 O6 hq6; obtain ⟨C5, hC5⟩ : ∃ x, x = C4.set 1 (.int .u64 0) := ⟨_, rfl⟩; have HC5 := Lib.hid hC5; have HL5 : Hid (C5.length = 20) := (by rw [hC5, List.length_set]; exact HL4.out); rw [← hC5] at K6; have L6 := Lib.hid (below_only L5.out O6.out hg1); clear hC5)
      | ((with_reducible show wpList _ _ _ (⟨none, .store _ (.tmp 15) _, _, _, _, _⟩ :: _) _ _); refine wpList_store_fld rfl _ (.tmp 15) (.const (.int .u8 0)) rfl g 14 rfl _ C5 (.int .u8 0) rfl K6 (Lib.hid (by have := HL5.out; omega)) (by kernel_rfl) rfl ?_; intro w7 K7 O7 hq7; obtain ⟨C6, hC6⟩ : ∃ x, x = C5.set 14 (.int .u8 0) := ⟨_, rfl⟩; have HC6 := Lib.hid hC6; have HL6 : Hid (C6.length = 20) := (by rw [hC6, List.length_set]; exact HL5.out); rw [← hC6] at K7; have L7 := Lib.hid (below_only L6.out O7.out hg1); clear hC6)
      | ((with_reducible show wpList _ _ _ (⟨some 27, _, _, _, _, _⟩ :: _) _ _); refine wpList_load_blk rfl _ (.tmp 3) rfl g rfl _ C6 K7 20 _ Tryd.underlying45 rfl size_say HL6 ?_)
      | fail)
    have HF : Hid (C6 = D) := by
      show _ = _
      rw [HC6.out, HC5.out, HC4.out, HC3.out, HC2.out, HC1.out]
      exact HEQ.out
    rw [HF.out]
    refine (CP.out _ D b kb (HI.out _ L7.out)).mono ?_
    rintro e v1 ⟨⟨v, er, rfl, her⟩, LQ⟩
    have HER := Lib.hid her
    have L99 := Lib.hid (step L7.out LQ)
    clear her LQ
    go_wp2
    go_ret
    exact ⟨ret_bool HER.out, L99.out⟩
  · subst h6
    have HI : Hid (∀ w' : World, Below w.heap.size w w' → SayIs w' w'.heap.size (scells (.slice X1 X2 X3) (.slice M1 M2 M3) (besideFS 6 a)) (besideFS 6 a)) := fun w' hb => ⟨X1, X2, X3, M1, M2, M3, rfl, hX.over hb, hM.over hb⟩
    have HEQ : Hid (C0 = scells (.slice X1 X2 X3) (.slice M1 M2 M3) (besideFS 6 a)) := by
      show _ = _
      exact HC0.out
    have hnf : nameFS 6 a = decide (besideFS 6 a = zeroSay) := by unfold nameFS; rw [hk, Bool.true_and]
    rw [hnf]
    obtain ⟨b, hb⟩ : ∃ x, x = besideFS 6 a := ⟨_, rfl⟩
    rw [← hb] at HI HEQ kb  ⊢
    obtain ⟨D, hD⟩ : ∃ x, x = scells (.slice X1 X2 X3) (.slice M1 M2 M3) b := ⟨_, rfl⟩
    rw [← hD] at HI HEQ
    clear hb hD hk ka
    go_enter Tryd.func43, Tryd.ntmps43
    go_wp2_with (first
      | ((with_reducible show wpList _ _ _ (⟨some 3, _, _, _, _, _⟩ :: _) _ _); refine wpList_box_blk rfl _ (.tmp 1) rfl C0 rfl ?_; intro g w1 hg1 hg2 K1 L1)
      | ((with_reducible show wpList _ _ _ (⟨some 27, _, _, _, _, _⟩ :: _) _ _); refine wpList_load_blk rfl _ (.tmp 3) rfl g rfl _ C0 K1 20 _ Tryd.underlying45 rfl size_say HL ?_)
      | fail)
    have HF : Hid (C0 = D) := by
      show _ = _
      exact HEQ.out
    rw [HF.out]
    refine (CP.out _ D b kb (HI.out _ L1.out)).mono ?_
    rintro e v1 ⟨⟨v, er, rfl, her⟩, LQ⟩
    have HER := Lib.hid her
    have L99 := Lib.hid (step L1.out LQ)
    clear her LQ
    go_wp2
    go_ret
    exact ⟨ret_bool HER.out, L99.out⟩
  · subst h7
    have HI : Hid (∀ w' : World, Below w.heap.size w w' → SayIs w' w'.heap.size (scells (.slice X1 X2 X3) (.slice M1 M2 M3) (besideFS 7 a)) (besideFS 7 a)) := fun w' hb => ⟨X1, X2, X3, M1, M2, M3, rfl, hX.over hb, hM.over hb⟩
    have HEQ : Hid (C0 = scells (.slice X1 X2 X3) (.slice M1 M2 M3) (besideFS 7 a)) := by
      show _ = _
      exact HC0.out
    have hnf : nameFS 7 a = decide (besideFS 7 a = zeroSay) := by unfold nameFS; rw [hk, Bool.true_and]
    rw [hnf]
    obtain ⟨b, hb⟩ : ∃ x, x = besideFS 7 a := ⟨_, rfl⟩
    rw [← hb] at HI HEQ kb  ⊢
    obtain ⟨D, hD⟩ : ∃ x, x = scells (.slice X1 X2 X3) (.slice M1 M2 M3) b := ⟨_, rfl⟩
    rw [← hD] at HI HEQ
    clear hb hD hk ka
    go_enter Tryd.func43, Tryd.ntmps43
    go_wp2_with (first
      | ((with_reducible show wpList _ _ _ (⟨some 3, _, _, _, _, _⟩ :: _) _ _); refine wpList_box_blk rfl _ (.tmp 1) rfl C0 rfl ?_; intro g w1 hg1 hg2 K1 L1)
      | ((with_reducible show wpList _ _ _ (⟨some 27, _, _, _, _, _⟩ :: _) _ _); refine wpList_load_blk rfl _ (.tmp 3) rfl g rfl _ C0 K1 20 _ Tryd.underlying45 rfl size_say HL ?_)
      | fail)
    have HF : Hid (C0 = D) := by
      show _ = _
      exact HEQ.out
    rw [HF.out]
    refine (CP.out _ D b kb (HI.out _ L1.out)).mono ?_
    rintro e v1 ⟨⟨v, er, rfl, her⟩, LQ⟩
    have HER := Lib.hid her
    have L99 := Lib.hid (step L1.out LQ)
    clear her LQ
    go_wp2
    go_ret
    exact ⟨ret_bool HER.out, L99.out⟩
  · subst h8
    have HI : Hid (∀ w' : World, Below w.heap.size w w' → SayIs w' w'.heap.size (scells (.slice none 0 0) (.slice M1 M2 M3) (besideFS 8 a)) (besideFS 8 a)) := fun w' hb => ⟨none, 0, 0, M1, M2, M3, rfl, Holds.nil _ _, hM.over hb⟩
    have HEQ : Hid ((C0).set 15 (.slice none 0 0) = scells (.slice none 0 0) (.slice M1 M2 M3) (besideFS 8 a)) := by
      show _ = _
      rw [HC0.out]
      simp only [sc15n, hcl]
      try rfl
    have hnf : nameFS 8 a = decide (besideFS 8 a = zeroSay) := by unfold nameFS; rw [hk, Bool.true_and]
    rw [hnf]
    obtain ⟨b, hb⟩ : ∃ x, x = besideFS 8 a := ⟨_, rfl⟩
    rw [← hb] at HI HEQ kb  ⊢
    obtain ⟨D, hD⟩ : ∃ x, x = scells (.slice none 0 0) (.slice M1 M2 M3) b := ⟨_, rfl⟩
    rw [← hD] at HI HEQ
    clear hb hD hk ka
    go_enter Tryd.func43, Tryd.ntmps43
    go_wp2_with (first
      | ((with_reducible show wpList _ _ _ (⟨some 3, _, _, _, _, _⟩ :: _) _ _); refine wpList_box_blk rfl _ (.tmp 1) rfl C0 rfl ?_; intro g w1 hg1 hg2 K1 L1)
      | ((with_reducible show wpList _ _ _ (⟨none, .store _ (.tmp 18) _, _, _, _, _⟩ :: _) _ _); refine wpList_store_fld rfl _ (.tmp 18) (.const (.slice none 0 0)) rfl g 15 rfl _ C0 (.slice none 0 0) rfl K1 (Lib.hid (by have := HL.out; omega)) (by kernel_rfl) rfl ?_; intro w2 K2 O2 hq2; obtain ⟨C1, hC1⟩ : ∃ x, x = C0.set 15 (.slice none 0 0) := ⟨_, rfl⟩; have HC1 := Lib.hid hC1; have HL1 : Hid (C1.length = 20) := (by rw [hC1, List.length_set]; exact HL.out); rw [← hC1] at K2; have L2 := Lib.hid (below_only L1.out O2.out hg1); clear hC1)
      | ((with_reducible show wpList _ _ _ (⟨some 27, _, _, _, _, _⟩ :: _) _ _); refine wpList_load_blk rfl _ (.tmp 3) rfl g rfl _ C1 K2 20 _ Tryd.underlying45 rfl size_say HL1 ?_)
      | fail)
    have HF : Hid (C1 = D) := by
      show _ = _
      rw [HC1.out]
      exact HEQ.out
    rw [HF.out]
    refine (CP.out _ D b kb (HI.out _ L2.out)).mono ?_
    rintro e v1 ⟨⟨v, er, rfl, her⟩, LQ⟩
    have HER := Lib.hid her
    have L99 := Lib.hid (step L2.out LQ)
    clear her LQ
    go_wp2
    go_ret
    exact ⟨ret_bool HER.out, L99.out⟩
  · subst h9
    have HI : Hid (∀ w' : World, Below w.heap.size w w' → SayIs w' w'.heap.size (scells (.slice X1 X2 X3) (.slice M1 M2 M3) (besideFS 9 a)) (besideFS 9 a)) := fun w' hb => ⟨X1, X2, X3, M1, M2, M3, rfl, hX.over hb, hM.over hb⟩
    have HEQ : Hid ((C0).set 16 (.int .u32 0) = scells (.slice X1 X2 X3) (.slice M1 M2 M3) (besideFS 9 a)) := by
      show _ = _
      rw [HC0.out]
      simp only [sc16, hcl]
      try rfl
    have hnf : nameFS 9 a = decide (besideFS 9 a = zeroSay) := by unfold nameFS; rw [hk, Bool.true_and]
    rw [hnf]
    obtain ⟨b, hb⟩ : ∃ x, x = besideFS 9 a := ⟨_, rfl⟩
    rw [← hb] at HI HEQ kb  ⊢
    obtain ⟨D, hD⟩ : ∃ x, x = scells (.slice X1 X2 X3) (.slice M1 M2 M3) b := ⟨_, rfl⟩
    rw [← hD] at HI HEQ
    clear hb hD hk ka
    go_enter Tryd.func43, Tryd.ntmps43
    go_wp2_with (first
      | ((with_reducible show wpList _ _ _ (⟨some 3, _, _, _, _, _⟩ :: _) _ _); refine wpList_box_blk rfl _ (.tmp 1) rfl C0 rfl ?_; intro g w1 hg1 hg2 K1 L1)
      | ((with_reducible show wpList _ _ _ (⟨none, .store _ (.tmp 21) _, _, _, _, _⟩ :: _) _ _); refine wpList_store_fld rfl _ (.tmp 21) (.const (.int .u32 0)) rfl g 16 rfl _ C0 (.int .u32 0) rfl K1 (Lib.hid (by have := HL.out; omega)) (by kernel_rfl) rfl ?_; intro w2 K2 O2 hq2; obtain ⟨C1, hC1⟩ : ∃ x, x = C0.set 16 (.int .u32 0) := ⟨_, rfl⟩; have HC1 := Lib.hid hC1; have HL1 : Hid (C1.length = 20) := (by rw [hC1, List.length_set]; exact HL.out); rw [← hC1] at K2; have L2 := Lib.hid (below_only L1.out O2.out hg1); clear hC1)
      | ((with_reducible show wpList _ _ _ (⟨some 27, _, _, _, _, _⟩ :: _) _ _); refine wpList_load_blk rfl _ (.tmp 3) rfl g rfl _ C1 K2 20 _ Tryd.underlying45 rfl size_say HL1 ?_)
      | fail)
    have HF : Hid (C1 = D) := by
      show _ = _
      rw [HC1.out]
      exact HEQ.out
    rw [HF.out]
    refine (CP.out _ D b kb (HI.out _ L2.out)).mono ?_
    rintro e v1 ⟨⟨v, er, rfl, her⟩, LQ⟩
    have HER := Lib.hid her
    have L99 := Lib.hid (step L2.out LQ)
    clear her LQ
    go_wp2
    go_ret
    exact ⟨ret_bool HER.out, L99.out⟩
  · subst h10
    have HI : Hid (∀ w' : World, Below w.heap.size w w' → SayIs w' w'.heap.size (scells (.slice X1 X2 X3) (.slice M1 M2 M3) (besideFS 10 a)) (besideFS 10 a)) := fun w' hb => ⟨X1, X2, X3, M1, M2, M3, rfl, hX.over hb, hM.over hb⟩
    have HEQ : Hid (C0 = scells (.slice X1 X2 X3) (.slice M1 M2 M3) (besideFS 10 a)) := by
      show _ = _
      exact HC0.out
    have hnf : nameFS 10 a = decide (besideFS 10 a = zeroSay) := by unfold nameFS; rw [hk, Bool.true_and]
    rw [hnf]
    obtain ⟨b, hb⟩ : ∃ x, x = besideFS 10 a := ⟨_, rfl⟩
    rw [← hb] at HI HEQ kb  ⊢
    obtain ⟨D, hD⟩ : ∃ x, x = scells (.slice X1 X2 X3) (.slice M1 M2 M3) b := ⟨_, rfl⟩
    rw [← hD] at HI HEQ
    clear hb hD hk ka
    go_enter Tryd.func43, Tryd.ntmps43
    go_wp2_with (first
      | ((with_reducible show wpList _ _ _ (⟨some 3, _, _, _, _, _⟩ :: _) _ _); refine wpList_box_blk rfl _ (.tmp 1) rfl C0 rfl ?_; intro g w1 hg1 hg2 K1 L1)
      | ((with_reducible show wpList _ _ _ (⟨some 27, _, _, _, _, _⟩ :: _) _ _); refine wpList_load_blk rfl _ (.tmp 3) rfl g rfl _ C0 K1 20 _ Tryd.underlying45 rfl size_say HL ?_)
      | fail)
    have HF : Hid (C0 = D) := by
      show _ = _
      exact HEQ.out
    rw [HF.out]
    refine (CP.out _ D b kb (HI.out _ L1.out)).mono ?_
    rintro e v1 ⟨⟨v, er, rfl, her⟩, LQ⟩
    have HER := Lib.hid her
    have L99 := Lib.hid (step L1.out LQ)
    clear her LQ
    go_wp2
    go_ret
    exact ⟨ret_bool HER.out, L99.out⟩
end Go.Proofs.YtdlcjobahdmapaaDoor

namespace Go.Proofs.YtdlcjobahdmapaaDoor
set_option linter.all false
open Go.RowKit
set_option linter.unusedVariables false
set_option maxRecDepth 100000
def FSayPost (w : World) (c : Int) (a : SayV) (e : Ending) (w' : World) : Prop := ∃ v, e = .returned (.tuple #[v, .int .i64 (fsErr c a)]) ∧ OwnZ .u8 5 w' w.heap.size v (fsOf c a) ∧ Below w.heap.size w w'
set_option maxHeartbeats 4000000 in
theorem FPutSay_any (w : World) (c : Int) (cs : List Value) (a : SayV) (hc : 0 ≤ c ∧ c ≤ 65535) (ka : a.ok) (ha : SayIs w w.heap.size cs a) :
    Calls Tryd.prog 18 #[.int .u16 c, .agg cs.toArray] w (FSayPost w c a) := by
  have HL := Lib.hid (ha.len ka)
  have HA := Lib.hid ha
  have CN : Hid (∀ w', Below w.heap.size w w' → Calls Tryd.prog 43 #[.int .u16 c, .agg cs.toArray] w' fun e w2 => e = .returned (.bool (nameFS c a)) ∧ Below w'.heap.size w' w2) := fun w' hb => isNamedSay_any w' c cs a hc ka (HA.out.over hb)
  obtain ⟨X1, X2, X3, M1, M2, M3, hcs, hX, hM⟩ := ha
  have FL : Hid (∀ (w : World) (g : Nat), Blk w g 45 cs → w.cell? ⟨g, 15, none⟩ = some (.slice X1 X2 X3) ∧ w.cell? ⟨g, 12, none⟩ = some (.int .u16 a.made) ∧ w.cell? ⟨g, 14, none⟩ = some (.int .u8 a.kind)) := fun w g h => by
    rw [hcs] at h
    exact ⟨h.at (scells_get ka 5), h.at (scells_get ka 2), h.at (scells_get ka 4)⟩
  have hxl : a.data.length = X2 := hX.len
  have hxr := hX.room
  have HE : Hid (∀ er, fsErr c a = er → er ≠ 0 → ∀ v e w', e = .returned (.tuple #[v, .int .i64 er]) → v = .slice none 0 0 → Below w.heap.size w w' → FSayPost w c a e w') := by
    intro er h1 h2 v e w' he hv hb
    unfold FSayPost fsOf
    rw [h1, if_neg h2]
    exact ⟨_, he, by rw [hv]; exact OwnZ.nil _ _ _ _, hb⟩
  by_cases hnf : nameFS c a = true
  rotate_left
  · have hnb : nameFS c a = false := by simpa using hnf
    have HQ := Lib.hid (HE.out 2 (by unfold fsErr; rw [if_neg (fun h => hnf h.1)]) (by decide))
    rw [hnb] at CN
    clear hnf hnb HE hX hM ka HA hcs hxl
    go_enter Tryd.func18, Tryd.ntmps18
    go_wp2_with (first
      | ((with_reducible show wpList _ _ _ (⟨some 3, _, _, _, _, _⟩ :: _) _ _); refine wpList_box_blk rfl _ (.tmp 1) rfl cs rfl ?_; intro g w1 hg1 hg2 K1 L1)
      | ((with_reducible show wpList _ _ _ (⟨some 9, _, _, _, _, _⟩ :: _) _ _); refine wpList_load_blk rfl _ (.tmp 3) rfl g rfl _ cs K1 20 _ Tryd.underlying45 rfl size_say HL ?_)
      | fail)
    refine (CN.out w1 L1.out).mono ?_
    rintro e w2 ⟨rfl, L2⟩
    have K2 := Lib.hid (K1.out.over L2)
    have M2' := Lib.hid (step L1.out L2)
    obtain ⟨c15, c12, c14⟩ := FL.out w2 g K2.out
    clear L2 K1 L1 CN
    go_wp2
    go_ret2
    exact HQ.out _ _ _ rfl rfl M2'.out
  rw [hnf] at CN
  by_cases hmd : a.made ≤ 2
  rotate_left
  · have HQ := Lib.hid (HE.out 2 (by unfold fsErr; rw [if_neg (fun h => hmd h.2.1)]) (by decide))
    have hb1 : decide (2 < a.made) = true := by rw [decide_eq_true_iff]; omega
    clear hnf HE hX hM ka HA hcs hxl
    go_enter Tryd.func18, Tryd.ntmps18
    go_wp2_with (first
      | ((with_reducible show wpList _ _ _ (⟨some 3, _, _, _, _, _⟩ :: _) _ _); refine wpList_box_blk rfl _ (.tmp 1) rfl cs rfl ?_; intro g w1 hg1 hg2 K1 L1)
      | ((with_reducible show wpList _ _ _ (⟨some 9, _, _, _, _, _⟩ :: _) _ _); refine wpList_load_blk rfl _ (.tmp 3) rfl g rfl _ cs K1 20 _ Tryd.underlying45 rfl size_say HL ?_)
      | fail)
    refine (CN.out w1 L1.out).mono ?_
    rintro e w2 ⟨rfl, L2⟩
    have K2 := Lib.hid (K1.out.over L2)
    have M2' := Lib.hid (step L1.out L2)
    obtain ⟨c15, c12, c14⟩ := FL.out w2 g K2.out
    clear L2 K1 L1 CN
    go_wp2
    go_ret2
    exact HQ.out _ _ _ rfl rfl M2'.out
  by_cases hkd : a.kind ≤ 2
  rotate_left
  · have HQ := Lib.hid (HE.out 2 (by unfold fsErr; rw [if_neg (fun h => hkd h.2.2)]) (by decide))
    have hb1 : decide (2 < a.made) = false := by rw [decide_eq_false_iff_not]; omega
    have hb2 : decide (2 < a.kind) = true := by rw [decide_eq_true_iff]; omega
    clear hnf HE hX hM ka HA hcs hxl
    go_enter Tryd.func18, Tryd.ntmps18
    go_wp2_with (first
      | ((with_reducible show wpList _ _ _ (⟨some 3, _, _, _, _, _⟩ :: _) _ _); refine wpList_box_blk rfl _ (.tmp 1) rfl cs rfl ?_; intro g w1 hg1 hg2 K1 L1)
      | ((with_reducible show wpList _ _ _ (⟨some 9, _, _, _, _, _⟩ :: _) _ _); refine wpList_load_blk rfl _ (.tmp 3) rfl g rfl _ cs K1 20 _ Tryd.underlying45 rfl size_say HL ?_)
      | fail)
    refine (CN.out w1 L1.out).mono ?_
    rintro e w2 ⟨rfl, L2⟩
    have K2 := Lib.hid (K1.out.over L2)
    have M2' := Lib.hid (step L1.out L2)
    obtain ⟨c15, c12, c14⟩ := FL.out w2 g K2.out
    clear L2 K1 L1 CN
    go_wp2
    go_ret2
    exact HQ.out _ _ _ rfl rfl M2'.out
  have hb1 : decide (2 < a.made) = false := by rw [decide_eq_false_iff_not]; omega
  have hb2 : decide (2 < a.kind) = false := by rw [decide_eq_false_iff_not]; omega
  by_cases hx3 : X2 ≤ 32768
  rotate_left
  · have HQ := Lib.hid (HE.out 3 (by unfold fsErr; rw [if_pos ⟨hnf, hmd, hkd⟩, hxl, if_neg hx3]) (by decide))
    clear hnf HE hX hM ka HA hcs hxl
    go_enter Tryd.func18, Tryd.ntmps18
    go_wp2_with (first
      | ((with_reducible show wpList _ _ _ (⟨some 3, _, _, _, _, _⟩ :: _) _ _); refine wpList_box_blk rfl _ (.tmp 1) rfl cs rfl ?_; intro g w1 hg1 hg2 K1 L1)
      | ((with_reducible show wpList _ _ _ (⟨some 9, _, _, _, _, _⟩ :: _) _ _); refine wpList_load_blk rfl _ (.tmp 3) rfl g rfl _ cs K1 20 _ Tryd.underlying45 rfl size_say HL ?_)
      | fail)
    refine (CN.out w1 L1.out).mono ?_
    rintro e w2 ⟨rfl, L2⟩
    have K2 := Lib.hid (K1.out.over L2)
    have M2' := Lib.hid (step L1.out L2)
    obtain ⟨c15, c12, c14⟩ := FL.out w2 g K2.out
    clear L2 K1 L1 CN
    go_wp2
    go_ret2
    exact HQ.out _ _ _ rfl rfl M2'.out
  have hk : knownF c = true := by
    unfold nameFS at hnf
    cases h : knownF c
    · rw [h, Bool.false_and] at hnf; exact absurd hnf (by decide)
    · rfl
  have hcc : c = 5 ∨ c = 6 ∨ c = 7 ∨ c = 8 ∨ c = 9 ∨ c = 10 := by unfold knownF at hk; simp at hk; omega
  have HQ0 : Hid (∀ v e w', e = .returned (.tuple #[v, .int .i64 0]) → OwnZ .u8 5 w' w.heap.size v (bodyFS c a) → Below w.heap.size w w' → FSayPost w c a e w') := by
    have h : fsErr c a = 0 := by unfold fsErr; rw [if_pos ⟨hnf, hmd, hkd⟩, hxl, if_pos hx3]
    intro v e w' he hv hb
    unfold FSayPost fsOf
    rw [h, if_pos rfl]
    exact ⟨_, he, hv, hb⟩
  obtain ⟨l_lev, u_lev⟩ := ka.lev
  obtain ⟨l_dur, u_dur⟩ := ka.dur
  obtain ⟨l_made, u_made⟩ := ka.made
  obtain ⟨l_file, u_file⟩ := ka.file
  obtain ⟨l_siz, u_siz⟩ := ka.siz
  obtain ⟨l_kind, u_kind⟩ := ka.kind
  obtain ⟨l_n, u_n⟩ := ka.n
  have z_made : IntKind.u64.wrap a.made = a.made := by rw [IntKind.wrap_u64]; omega
  have z_kind : IntKind.u64.wrap a.kind = a.kind := by rw [IntKind.wrap_u64]; omega
  have z_n : IntKind.u64.wrap a.n = a.n := by rw [IntKind.wrap_u64]; omega
  have z_x : IntKind.u64.wrap (X2 : Int) = (X2 : Int) := by rw [IntKind.wrap_u64]; omega
  have FC : Hid (∀ (w : World) (g : Nat), Blk w g 45 cs → w.cell? ⟨g, 1, none⟩ = some (.int .u64 a.siz) ∧ w.cell? ⟨g, 10, none⟩ = some (.int .u8 a.lev) ∧ w.cell? ⟨g, 11, none⟩ = some (.int .u8 a.dur) ∧ w.cell? ⟨g, 12, none⟩ = some (.int .u16 a.made) ∧ w.cell? ⟨g, 13, none⟩ = some (.int .u64 a.file) ∧ w.cell? ⟨g, 14, none⟩ = some (.int .u8 a.kind) ∧ w.cell? ⟨g, 16, none⟩ = some (.int .u32 a.n)) := fun w g h => by
    rw [hcs] at h
    exact ⟨h.at rfl, h.at (scells_get ka 0), h.at (scells_get ka 1), h.at (scells_get ka 2), h.at (scells_get ka 3), h.at (scells_get ka 4), h.at (scells_get ka 6)⟩
  have CC : Hid (∀ (w : World) (gs m : Nat) (A : Nat → Option Addr) (n c : Nat → Nat) (X : Nat → List Int), Parts w gs m A n c X → m ≤ 1000 → sumN n m ≤ 140737488355328 → Calls Tryd.prog 35 #[.slice (some ⟨gs, 0, none⟩) m m] w fun e w' => ∃ v, e = .returned v ∧ OwnZ .u8 5 w' w.heap.size v (catL X m) ∧ Below w.heap.size w w') := ConcatZ_any
  have HX := Lib.hid hX
  clear HE hX hM HA hcs hnf hxl hk hmd hkd
  rcases hcc with h5 | h6 | h7 | h8 | h9 | h10
  · subst h5
    have HQ := HQ0
    have hb5 : bodyFS 5 a = [a.lev, a.dur] ++ (le a.made 2 ++ ((le a.file 8 ++ le a.siz 8) ++ (le a.kind 2 ++ List.replicate 2 0))) := by
      unfold bodyFS
      rw [if_pos rfl, le1 a.lev l_lev u_lev, le1 a.dur l_dur u_dur]
      simp only [List.append_assoc, List.cons_append, List.nil_append]
    rw [hb5] at HQ
    have CM2 : Hid (∀ (w : World) (gl : Nat), Blk w gl 28 [.int .u64 a.made] → Calls Tryd.prog 33 #[.int .i64 2, .slice (some ⟨gl, 0, none⟩) 1 1] w fun e w' => ∃ A' c', e = .returned (.slice A' 2 c') ∧ (OwnZ .u8 5 w' w.heap.size (.slice A' 2 c') (le a.made 2) ∧ Holds w' w'.heap.size A' 2 c' (le a.made 2)) ∧ Below w.heap.size w w') := fun w gl hB => by
      have h := nums_at w gl 1 2 ([a.made] : List Int) hB rfl (by decide) (by decide) (fun z hz => by
        rw [show (256 : Int) ^ 2 = 65536 from by decide]
        simp only [List.mem_cons, List.not_mem_nil, or_false] at hz
        rw [hz]; omega)
      have e1 : numsB 2 ([a.made] : List Int) = le a.made 2 := by simp [numsB]
      rw [e1] at h
      have e2 : (le a.made 2).length = 2 := by simp [le_length]
      rw [e2] at h
      exact h
    have CK2 : Hid (∀ (w : World) (gl : Nat), Blk w gl 28 [.int .u64 a.kind] → Calls Tryd.prog 33 #[.int .i64 2, .slice (some ⟨gl, 0, none⟩) 1 1] w fun e w' => ∃ A' c', e = .returned (.slice A' 2 c') ∧ (OwnZ .u8 5 w' w.heap.size (.slice A' 2 c') (le a.kind 2) ∧ Holds w' w'.heap.size A' 2 c' (le a.kind 2)) ∧ Below w.heap.size w w') := fun w gl hB => by
      have h := nums_at w gl 1 2 ([a.kind] : List Int) hB rfl (by decide) (by decide) (fun z hz => by
        rw [show (256 : Int) ^ 2 = 65536 from by decide]
        simp only [List.mem_cons, List.not_mem_nil, or_false] at hz
        rw [hz]; omega)
      have e1 : numsB 2 ([a.kind] : List Int) = le a.kind 2 := by simp [numsB]
      rw [e1] at h
      have e2 : (le a.kind 2).length = 2 := by simp [le_length]
      rw [e2] at h
      exact h
    have CF16 : Hid (∀ (w : World) (gl : Nat), Blk w gl 28 [.int .u64 a.file, .int .u64 a.siz] → Calls Tryd.prog 33 #[.int .i64 8, .slice (some ⟨gl, 0, none⟩) 2 2] w fun e w' => ∃ A' c', e = .returned (.slice A' 16 c') ∧ (OwnZ .u8 5 w' w.heap.size (.slice A' 16 c') (le a.file 8 ++ le a.siz 8) ∧ Holds w' w'.heap.size A' 16 c' (le a.file 8 ++ le a.siz 8)) ∧ Below w.heap.size w w') := fun w gl hB => by
      have h := nums_at w gl 2 8 ([a.file, a.siz] : List Int) hB rfl (by decide) (by decide) (fun z hz => by
        rw [show (256 : Int) ^ 8 = 18446744073709551616 from by decide]
        simp only [List.mem_cons, List.not_mem_nil, or_false] at hz
        rcases hz with hz | hz <;> omega)
      have e1 : numsB 8 ([a.file, a.siz] : List Int) = le a.file 8 ++ le a.siz 8 := by simp [numsB]
      rw [e1] at h
      have e2 : (le a.file 8 ++ le a.siz 8).length = 16 := by simp [le_length]
      rw [e2] at h
      exact h
    have hld : Bytes [a.lev, a.dur] := by
      intro x hx
      simp only [List.mem_cons, List.not_mem_nil, or_false] at hx
      rcases hx with hx | hx <;> omega
    have HLD := Lib.hid hld
    obtain ⟨m2, hm2⟩ : ∃ x, x = le a.made 2 := ⟨_, rfl⟩
    rw [← hm2] at CM2 HQ
    obtain ⟨k2, hk2⟩ : ∃ x, x = le a.kind 2 := ⟨_, rfl⟩
    rw [← hk2] at CK2 HQ
    obtain ⟨fs, hfs⟩ : ∃ x, x = le a.file 8 ++ le a.siz 8 := ⟨_, rfl⟩
    rw [← hfs] at CF16 HQ
    clear hm2 hk2 hfs HQ0 hb5 hld
    go_enter Tryd.func18, Tryd.ntmps18
    go_wp2_with (first
      | ((with_reducible show wpList _ _ _ (⟨some 3, _, _, _, _, _⟩ :: _) _ _); refine wpList_box_blk rfl _ (.tmp 1) rfl cs rfl ?_; intro g w1 hg1 hg2 K1 L1)
      | ((with_reducible show wpList _ _ _ (⟨some 9, _, _, _, _, _⟩ :: _) _ _); refine wpList_load_blk rfl _ (.tmp 3) rfl g rfl _ cs K1 20 _ Tryd.underlying45 rfl size_say HL ?_)
      | fail)
    refine (CN.out w1 L1.out).mono ?_
    rintro e w2 ⟨rfl, L2⟩
    have K2 := Lib.hid (K1.out.over L2)
    have M2' := Lib.hid (step L1.out L2)
    obtain ⟨c15, c12, c14⟩ := FL.out w2 g K2.out
    clear L2 K1 L1 CN
    go_upto_region 7 with fail
    go_cut [6, 7] (fun s6 s7 wx => ∃ Ap cp Aq cq, s6 = .slice Ap 2 cp ∧ s7 = .slice Aq 2 cq ∧ Hid (Holds wx wx.heap.size Ap 2 cp m2) ∧ Hid (Holds wx wx.heap.size Aq 2 cq k2) ∧ Hid (Blk wx g 45 cs) ∧ Hid (Below w.heap.size w wx))
    case first =>
      refine wp_region_held (S := fun w' => Blk w' g 45 cs) (by kernel_rfl) ?_
      change wpAnyH _ _ _ _ _ _ _ _ w2.drew
      have S0 : Hid (Blk w2.drew g 45 cs) := K2.out.drew
      have b0 : Hid (Below w.heap.size w w2.drew) := M2'.out.drew
      refine wpAnyH_take (i := 0) (v := _) rfl (by kernel_rfl) (by kernel_rfl) (by kernel_rfl) (fun _ _ _ h => h) (yieldsIf_fld (by kernel_rfl) _ (.tmp 3) 5 rfl (.pointer (some ⟨g, 0, none⟩)) (.pointer (some ⟨g, 12, none⟩)) (by kernel_rfl) (fld_isZeroSay_5 g)) S0.out ?_
      refine wpAnyH_take (i := 1) (v := _) rfl (by kernel_rfl) (by kernel_rfl) (by kernel_rfl) (fun _ _ _ h => h) (yieldsIf_load_one (by kernel_rfl) _ (.tmp 29) rfl g 12 (by kernel_rfl) (.int .u16 a.made) (fun w h => (FC.out w g h).2.2.2.1) _ Tryd.underlying22 rfl) S0.out ?_
      refine wpAnyH_take (i := 2) (v := (.int .u64 a.made)) rfl (by kernel_rfl) (by kernel_rfl) (by kernel_rfl) (fun _ _ _ h => h) (.inl ⟨by kernel_rfl, fun w _ => by go_simp⟩) S0.out ?_
      refine wpAnyH_take (i := 5) (v := _) rfl (by kernel_rfl) (by kernel_rfl) (by kernel_rfl) (fun _ _ _ h => h) (yieldsIf_fld (by kernel_rfl) _ (.tmp 3) 7 rfl (.pointer (some ⟨g, 0, none⟩)) (.pointer (some ⟨g, 14, none⟩)) (by kernel_rfl) (fld_isZeroSay_7 g)) S0.out ?_
      refine wpAnyH_take (i := 6) (v := _) rfl (by kernel_rfl) (by kernel_rfl) (by kernel_rfl) (fun _ _ _ h => h) (yieldsIf_load_one (by kernel_rfl) _ (.tmp 34) rfl g 14 (by kernel_rfl) (.int .u8 a.kind) (fun w h => (FC.out w g h).2.2.2.2.2.1) _ Tryd.underlying42 rfl) S0.out ?_
      refine wpAnyH_take (i := 7) (v := (.int .u64 a.kind)) rfl (by kernel_rfl) (by kernel_rfl) (by kernel_rfl) (fun _ _ _ h => h) (.inl ⟨by kernel_rfl, fun w _ => by go_simp⟩) S0.out ?_
      refine wpAnyH_frame fun fr1 hfr1 => ?_
      refine wpAnyH_two 3 8 _ _ (by kernel_rfl) rfl rfl (fun K hK => ?_) (fun K hK => ?_)
      · skip
        refine step_slice_blk rfl _ _ 1 _ rfl Tryd.underlying93 ([.int .u64 a.made] : List Value) (by rw [hfr1]; kernel_rfl) ?_
        intro g2 wt2 qa qb Y2 L2
        have S2 := Lib.hid (S0.out.over L2.out)
        have b2 := Lib.hid (step b0.out L2.out)
        refine hK _ _ S2.out ?_
        clear hK K
        subst hfr1
        refine wpAnyH_frame fun fr3 hfr3 => ?_
        refine wpAnyH_two 4 8 _ _ (by kernel_rfl) rfl rfl (fun K hK => ?_) (fun K hK => ?_)
        · skip
          subst hfr3
          go_simp
          refine (CM2.out _ _ Y2.out).mono ?_
          rintro e wt4 ⟨A4, c4, rfl, ⟨_, hY4⟩, L04⟩
          have Y4 := Lib.hid hY4
          have L4 := Lib.hid L04
          clear hY4 L04
          have S4 := Lib.hid (S2.out.over L4.out)
          have b4 := Lib.hid (step b2.out L4.out)
          refine hK _ _ S4.out ?_
          clear hK K
          refine wpAnyH_frame fun fr5 hfr5 => ?_
          refine wpAnyH_one 8 _ (by kernel_rfl) rfl fun K hK => ?_
          refine step_slice_blk rfl _ _ 1 _ rfl Tryd.underlying93 ([.int .u64 a.kind] : List Value) (by rw [hfr5]; kernel_rfl) ?_
          intro g6 wt6 qa qb Y6 L6
          have S6 := Lib.hid (S4.out.over L6.out)
          have b6 := Lib.hid (step b4.out L6.out)
          have mM_6 := Lib.hid (Y4.out.over L6.out)
          refine hK _ _ S6.out ?_
          clear hK K
          subst hfr5
          refine wpAnyH_one 9 _ (by kernel_rfl) rfl fun K hK => ?_
          go_simp
          refine (CK2.out _ _ Y6.out).mono ?_
          rintro e wt7 ⟨A7, c7, rfl, ⟨_, hY7⟩, L07⟩
          have Y7 := Lib.hid hY7
          have L7 := Lib.hid L07
          clear hY7 L07
          have S7 := Lib.hid (S6.out.over L7.out)
          have b7 := Lib.hid (step b6.out L7.out)
          have mM_7 := Lib.hid (mM_6.out.over L7.out)
          refine hK _ _ S7.out ?_
          clear hK K
          refine wpAnyH_one 10 _ (by kernel_rfl) rfl fun K hK => ?_
          go_simp
          refine hK _ _ S7.out ?_
          clear hK K
          refine wpAnyH_one 11 _ (by kernel_rfl) rfl fun K hK => ?_
          go_simp
          refine hK _ _ S7.out ?_
          clear hK K
          refine wpAnyH_done (by kernel_rfl) ?_ _
          go_wp2_with fail
          go_meet
          exact ⟨_, _, _, _, rfl, rfl, mM_7, Y7, S7, b7⟩
        · skip
          refine step_slice_blk rfl _ _ 1 _ rfl Tryd.underlying93 ([.int .u64 a.kind] : List Value) (by rw [hfr3]; kernel_rfl) ?_
          intro g10 wt10 qa qb Y10 L10
          have S10 := Lib.hid (S2.out.over L10.out)
          have b10 := Lib.hid (step b2.out L10.out)
          have lA_10 := Lib.hid (Y2.out.over L10.out)
          refine hK _ _ S10.out ?_
          clear hK K
          subst hfr3
          refine wpAnyH_one 4 _ (by kernel_rfl) rfl fun K hK => ?_
          go_simp
          refine (CM2.out _ _ lA_10.out).mono ?_
          rintro e wt11 ⟨A11, c11, rfl, ⟨_, hY11⟩, L011⟩
          have Y11 := Lib.hid hY11
          have L11 := Lib.hid L011
          clear hY11 L011
          have S11 := Lib.hid (S10.out.over L11.out)
          have b11 := Lib.hid (step b10.out L11.out)
          have lC_11 := Lib.hid (Y10.out.over L11.out)
          refine hK _ _ S11.out ?_
          clear hK K
          refine wpAnyH_one 9 _ (by kernel_rfl) rfl fun K hK => ?_
          go_simp
          refine (CK2.out _ _ lC_11.out).mono ?_
          rintro e wt12 ⟨A12, c12, rfl, ⟨_, hY12⟩, L012⟩
          have Y12 := Lib.hid hY12
          have L12 := Lib.hid L012
          clear hY12 L012
          have S12 := Lib.hid (S11.out.over L12.out)
          have b12 := Lib.hid (step b11.out L12.out)
          have mM_12 := Lib.hid (Y11.out.over L12.out)
          refine hK _ _ S12.out ?_
          clear hK K
          refine wpAnyH_one 10 _ (by kernel_rfl) rfl fun K hK => ?_
          go_simp
          refine hK _ _ S12.out ?_
          clear hK K
          refine wpAnyH_one 11 _ (by kernel_rfl) rfl fun K hK => ?_
          go_simp
          refine hK _ _ S12.out ?_
          clear hK K
          refine wpAnyH_done (by kernel_rfl) ?_ _
          go_wp2_with fail
          go_meet
          exact ⟨_, _, _, _, rfl, rfl, mM_12, Y12, S12, b12⟩
      · skip
        refine step_slice_blk rfl _ _ 1 _ rfl Tryd.underlying93 ([.int .u64 a.kind] : List Value) (by rw [hfr1]; kernel_rfl) ?_
        intro g15 wt15 qa qb Y15 L15
        have S15 := Lib.hid (S0.out.over L15.out)
        have b15 := Lib.hid (step b0.out L15.out)
        refine hK _ _ S15.out ?_
        clear hK K
        subst hfr1
        refine wpAnyH_frame fun fr16 hfr16 => ?_
        refine wpAnyH_one 3 _ (by kernel_rfl) rfl fun K hK => ?_
        refine step_slice_blk rfl _ _ 1 _ rfl Tryd.underlying93 ([.int .u64 a.made] : List Value) (by rw [hfr16]; kernel_rfl) ?_
        intro g17 wt17 qa qb Y17 L17
        have S17 := Lib.hid (S15.out.over L17.out)
        have b17 := Lib.hid (step b15.out L17.out)
        have lC_17 := Lib.hid (Y15.out.over L17.out)
        refine hK _ _ S17.out ?_
        clear hK K
        subst hfr16
        refine wpAnyH_one 4 _ (by kernel_rfl) rfl fun K hK => ?_
        go_simp
        refine (CM2.out _ _ Y17.out).mono ?_
        rintro e wt18 ⟨A18, c18, rfl, ⟨_, hY18⟩, L018⟩
        have Y18 := Lib.hid hY18
        have L18 := Lib.hid L018
        clear hY18 L018
        have S18 := Lib.hid (S17.out.over L18.out)
        have b18 := Lib.hid (step b17.out L18.out)
        have lC_18 := Lib.hid (lC_17.out.over L18.out)
        refine hK _ _ S18.out ?_
        clear hK K
        refine wpAnyH_one 9 _ (by kernel_rfl) rfl fun K hK => ?_
        go_simp
        refine (CK2.out _ _ lC_18.out).mono ?_
        rintro e wt19 ⟨A19, c19, rfl, ⟨_, hY19⟩, L019⟩
        have Y19 := Lib.hid hY19
        have L19 := Lib.hid L019
        clear hY19 L019
        have S19 := Lib.hid (S18.out.over L19.out)
        have b19 := Lib.hid (step b18.out L19.out)
        have mM_19 := Lib.hid (Y18.out.over L19.out)
        refine hK _ _ S19.out ?_
        clear hK K
        refine wpAnyH_one 10 _ (by kernel_rfl) rfl fun K hK => ?_
        go_simp
        refine hK _ _ S19.out ?_
        clear hK K
        refine wpAnyH_one 11 _ (by kernel_rfl) rfl fun K hK => ?_
        go_simp
        refine hK _ _ S19.out ?_
        clear hK K
        refine wpAnyH_done (by kernel_rfl) ?_ _
        go_wp2_with fail
        go_meet
        exact ⟨_, _, _, _, rfl, rfl, mM_19, Y19, S19, b19⟩
    case rest =>
      obtain ⟨Ap, cp, Aq, cq, rfl, rfl, HM6, HK7, KX, MX⟩ := hcut
      go_upto_region 8 with fail
      refine wp_region_held (S := fun w' => Blk w' g 45 cs) (by kernel_rfl) ?_
      change wpAnyH _ _ _ _ _ _ _ _ wc.drew
      have S0 : Hid (Blk wc.drew g 45 cs) := KX.out.drew
      have b0 : Hid (Below w.heap.size w wc.drew) := MX.out.drew
      have mM_0 := Lib.hid (HM6.out.drew)
      have kK_0 := Lib.hid (HK7.out.drew)
      refine wpAnyH_take (i := 0) (v := _) rfl (by kernel_rfl) (by kernel_rfl) (by kernel_rfl) (fun _ _ _ h => h) (yieldsIf_fld (by kernel_rfl) _ (.tmp 3) 3 rfl (.pointer (some ⟨g, 0, none⟩)) (.pointer (some ⟨g, 10, none⟩)) (by kernel_rfl) (fld_isZeroSay_3 g)) S0.out ?_
      refine wpAnyH_take (i := 1) (v := _) rfl (by kernel_rfl) (by kernel_rfl) (by kernel_rfl) (fun _ _ _ h => h) (yieldsIf_load_one (by kernel_rfl) _ (.tmp 39) rfl g 10 (by kernel_rfl) (.int .u8 a.lev) (fun w h => (FC.out w g h).2.1) _ Tryd.underlying5 rfl) S0.out ?_
      refine wpAnyH_take (i := 2) (v := _) rfl (by kernel_rfl) (by kernel_rfl) (by kernel_rfl) (fun _ _ _ h => h) (yieldsIf_fld (by kernel_rfl) _ (.tmp 3) 4 rfl (.pointer (some ⟨g, 0, none⟩)) (.pointer (some ⟨g, 11, none⟩)) (by kernel_rfl) (fld_isZeroSay_4 g)) S0.out ?_
      refine wpAnyH_take (i := 3) (v := _) rfl (by kernel_rfl) (by kernel_rfl) (by kernel_rfl) (fun _ _ _ h => h) (yieldsIf_load_one (by kernel_rfl) _ (.tmp 41) rfl g 11 (by kernel_rfl) (.int .u8 a.dur) (fun w h => (FC.out w g h).2.2.1) _ Tryd.underlying5 rfl) S0.out ?_
      refine wpAnyH_take (i := 5) (v := _) rfl (by kernel_rfl) (by kernel_rfl) (by kernel_rfl) (fun _ _ _ h => h) (yieldsIf_move (by kernel_rfl) (.tmp 6) rfl (.slice Ap 2 cp) (by kernel_rfl)) S0.out ?_
      refine wpAnyH_take (i := 6) (v := _) rfl (by kernel_rfl) (by kernel_rfl) (by kernel_rfl) (fun _ _ _ h => h) (yieldsIf_fld (by kernel_rfl) _ (.tmp 3) 6 rfl (.pointer (some ⟨g, 0, none⟩)) (.pointer (some ⟨g, 13, none⟩)) (by kernel_rfl) (fld_isZeroSay_6 g)) S0.out ?_
      refine wpAnyH_take (i := 7) (v := _) rfl (by kernel_rfl) (by kernel_rfl) (by kernel_rfl) (fun _ _ _ h => h) (yieldsIf_load_one (by kernel_rfl) _ (.tmp 45) rfl g 13 (by kernel_rfl) (.int .u64 a.file) (fun w h => (FC.out w g h).2.2.2.2.1) _ Tryd.underlying28 rfl) S0.out ?_
      refine wpAnyH_take (i := 8) (v := _) rfl (by kernel_rfl) (by kernel_rfl) (by kernel_rfl) (fun _ _ _ h => h) (yieldsIf_fld (by kernel_rfl) _ (.tmp 3) 1 rfl (.pointer (some ⟨g, 0, none⟩)) (.pointer (some ⟨g, 1, none⟩)) (by kernel_rfl) (fld_isZeroSay_1 g)) S0.out ?_
      refine wpAnyH_take (i := 9) (v := _) rfl (by kernel_rfl) (by kernel_rfl) (by kernel_rfl) (fun _ _ _ h => h) (yieldsIf_load_one (by kernel_rfl) _ (.tmp 47) rfl g 1 (by kernel_rfl) (.int .u64 a.siz) (fun w h => (FC.out w g h).1) _ Tryd.underlying28 rfl) S0.out ?_
      refine wpAnyH_take (i := 12) (v := _) rfl (by kernel_rfl) (by kernel_rfl) (by kernel_rfl) (fun _ _ _ h => h) (yieldsIf_move (by kernel_rfl) (.tmp 7) rfl (.slice Aq 2 cq) (by kernel_rfl)) S0.out ?_
      refine wpAnyH_frame fun fr1 hfr1 => ?_
      refine wpAnyH_three 4 10 13 _ _ _ (by kernel_rfl) rfl rfl rfl (fun K hK => ?_) (fun K hK => ?_) (fun K hK => ?_)
      · skip
        refine step_slice_blk rfl _ _ 2 _ rfl Tryd.underlying29 ([.int .u8 a.lev, .int .u8 a.dur] : List Value) (by rw [hfr1]; kernel_rfl) ?_
        intro g2 wt2 qa qb Y02 L2
        have Y2 := Lib.hid (Holds.of_lit (xs := [a.lev, a.dur]) Y02.out HLD.out)
        clear Y02
        have S2 := Lib.hid (S0.out.over L2.out)
        have b2 := Lib.hid (step b0.out L2.out)
        have mM_2 := Lib.hid (mM_0.out.over L2.out)
        have kK_2 := Lib.hid (kK_0.out.over L2.out)
        refine hK _ _ S2.out ?_
        clear hK K
        subst hfr1
        refine wpAnyH_frame fun fr3 hfr3 => ?_
        refine wpAnyH_two 10 13 _ _ (by kernel_rfl) rfl rfl (fun K hK => ?_) (fun K hK => ?_)
        · skip
          refine step_slice_blk rfl _ _ 2 _ rfl Tryd.underlying93 ([.int .u64 a.file, .int .u64 a.siz] : List Value) (by rw [hfr3]; kernel_rfl) ?_
          intro g4 wt4 qa qb Y4 L4
          have S4 := Lib.hid (S2.out.over L4.out)
          have b4 := Lib.hid (step b2.out L4.out)
          have mM_4 := Lib.hid (mM_2.out.over L4.out)
          have kK_4 := Lib.hid (kK_2.out.over L4.out)
          have u2_4 := Lib.hid (Y2.out.over L4.out)
          refine hK _ _ S4.out ?_
          clear hK K
          subst hfr3
          refine wpAnyH_frame fun fr5 hfr5 => ?_
          refine wpAnyH_two 11 13 _ _ (by kernel_rfl) rfl rfl (fun K hK => ?_) (fun K hK => ?_)
          · skip
            subst hfr5
            go_simp
            refine (CF16.out _ _ Y4.out).mono ?_
            rintro e wt6 ⟨A6, c6, rfl, ⟨_, hY6⟩, L06⟩
            have Y6 := Lib.hid hY6
            have L6 := Lib.hid L06
            clear hY6 L06
            have S6 := Lib.hid (S4.out.over L6.out)
            have b6 := Lib.hid (step b4.out L6.out)
            have mM_6 := Lib.hid (mM_4.out.over L6.out)
            have kK_6 := Lib.hid (kK_4.out.over L6.out)
            have u2_6 := Lib.hid (u2_4.out.over L6.out)
            refine hK _ _ S6.out ?_
            clear hK K
            refine wpAnyH_one 13 _ (by kernel_rfl) rfl fun K hK => ?_
            refine step_make_bytes rfl _ _ rfl 2 rfl rfl (by omega) ?_
            intro wt7 R7 L7
            have Y7 := Lib.hid (Fresh.holds (base := 0) (.inr ⟨_, rfl, Nat.zero_le _, R7.out⟩) (by rfl : (List.replicate 2 (0 : Int)).length = 2) (Bytes.zeros 2) (by omega))
            clear R7
            have S7 := Lib.hid (S6.out.over L7.out)
            have b7 := Lib.hid (step b6.out L7.out)
            have mM_7 := Lib.hid (mM_6.out.over L7.out)
            have kK_7 := Lib.hid (kK_6.out.over L7.out)
            have u2_7 := Lib.hid (u2_6.out.over L7.out)
            have xA_7 := Lib.hid (Y6.out.over L7.out)
            refine hK _ _ S7.out ?_
            clear hK K
            refine wpAnyH_frame fun fr8 hfr8 => ?_
            refine wpAnyH_one 14 _ (by kernel_rfl) rfl fun K hK => ?_
            refine step_slice_blk rfl _ _ 5 _ rfl Tryd.underlying96 ([.slice (some ⟨g2, 0, none⟩) 2 2, .slice Ap 2 cp, .slice A6 16 c6, .slice Aq 2 cq, .slice (some ⟨wt6.heap.size, 0, none⟩) 2 2] : List Value) (by rw [hfr8]; kernel_rfl) ?_
            intro g9 wt9 qa qb Y09 L9
            have Y9 : Hid (Parts wt9 g9 5 (partA [((some ⟨g2, 0, none⟩), 2, 2, [a.lev, a.dur]), (Ap, 2, cp, m2), (A6, 16, c6, fs), (Aq, 2, cq, k2), ((some ⟨wt6.heap.size, 0, none⟩), 2, 2, List.replicate 2 0)]) (partN [((some ⟨g2, 0, none⟩), 2, 2, [a.lev, a.dur]), (Ap, 2, cp, m2), (A6, 16, c6, fs), (Aq, 2, cq, k2), ((some ⟨wt6.heap.size, 0, none⟩), 2, 2, List.replicate 2 0)]) (partC [((some ⟨g2, 0, none⟩), 2, 2, [a.lev, a.dur]), (Ap, 2, cp, m2), (A6, 16, c6, fs), (Aq, 2, cq, k2), ((some ⟨wt6.heap.size, 0, none⟩), 2, 2, List.replicate 2 0)]) (partX [((some ⟨g2, 0, none⟩), 2, 2, [a.lev, a.dur]), (Ap, 2, cp, m2), (A6, 16, c6, fs), (Aq, 2, cq, k2), ((some ⟨wt6.heap.size, 0, none⟩), 2, 2, List.replicate 2 0)])) := Parts.of_blk [((some ⟨g2, 0, none⟩), 2, 2, [a.lev, a.dur]), (Ap, 2, cp, m2), (A6, 16, c6, fs), (Aq, 2, cq, k2), ((some ⟨wt6.heap.size, 0, none⟩), 2, 2, List.replicate 2 0)] Y09.out (List.forall_mem_cons.2 ⟨u2_7.out.over L9.out, List.forall_mem_cons.2 ⟨mM_7.out.over L9.out, List.forall_mem_cons.2 ⟨xA_7.out.over L9.out, List.forall_mem_cons.2 ⟨kK_7.out.over L9.out, List.forall_mem_cons.2 ⟨Y7.out.over L9.out, fun _ h => by cases h⟩⟩⟩⟩⟩)
            clear Y09
            have S9 := Lib.hid (S7.out.over L9.out)
            have b9 := Lib.hid (step b7.out L9.out)
            refine hK _ _ S9.out ?_
            clear hK K
            subst hfr8
            refine wpAnyH_one 15 _ (by kernel_rfl) rfl fun K hK => ?_
            go_simp
            refine (CC.out _ g9 5 _ _ _ _ Y9.out (by omega) (by show 0 + 2 + 2 + 16 + 2 + 2 ≤ _; omega)).mono ?_
            rintro e wt10 ⟨v, rfl, hY10, L010⟩
            have OUT := Lib.hid hY10
            have L10 := Lib.hid L010
            clear hY10 L010
            have hsz0 := b9.out.size
            have S10 := Lib.hid (S9.out.over L10.out)
            have b10 := Lib.hid (step b9.out L10.out)
            refine hK _ _ S10.out ?_
            clear hK K
            refine wpAnyH_one 16 _ (by kernel_rfl) rfl fun K hK => ?_
            go_simp
            refine hK _ _ S10.out ?_
            clear hK K
            refine wpAnyH_one 17 _ (by kernel_rfl) rfl fun K hK => ?_
            go_simp
            refine hK _ _ S10.out ?_
            clear hK K
            refine wpAnyH_done (by kernel_rfl) ?_ _
            have HO6 := Lib.hid (OwnZ.mono OUT.out (Nat.le_trans (hsz0) (Nat.le_refl _)))
            go_wp2
            go_ret2
            refine HQ.out _ _ _ rfl ?_ b10.out
            have h9 := HO6.out
            simpa [catL, partX, List.append_assoc] using h9
          · skip
            subst hfr5
            refine step_make_bytes rfl _ _ rfl 2 rfl rfl (by omega) ?_
            intro wt13 R13 L13
            have Y13 := Lib.hid (Fresh.holds (base := 0) (.inr ⟨_, rfl, Nat.zero_le _, R13.out⟩) (by rfl : (List.replicate 2 (0 : Int)).length = 2) (Bytes.zeros 2) (by omega))
            clear R13
            have S13 := Lib.hid (S4.out.over L13.out)
            have b13 := Lib.hid (step b4.out L13.out)
            have mM_13 := Lib.hid (mM_4.out.over L13.out)
            have kK_13 := Lib.hid (kK_4.out.over L13.out)
            have u2_13 := Lib.hid (u2_4.out.over L13.out)
            have lA_13 := Lib.hid (Y4.out.over L13.out)
            refine hK _ _ S13.out ?_
            clear hK K
            refine wpAnyH_one 11 _ (by kernel_rfl) rfl fun K hK => ?_
            go_simp
            refine (CF16.out _ _ lA_13.out).mono ?_
            rintro e wt14 ⟨A14, c14, rfl, ⟨_, hY14⟩, L014⟩
            have Y14 := Lib.hid hY14
            have L14 := Lib.hid L014
            clear hY14 L014
            have S14 := Lib.hid (S13.out.over L14.out)
            have b14 := Lib.hid (step b13.out L14.out)
            have mM_14 := Lib.hid (mM_13.out.over L14.out)
            have kK_14 := Lib.hid (kK_13.out.over L14.out)
            have u2_14 := Lib.hid (u2_13.out.over L14.out)
            have nE_14 := Lib.hid (Y13.out.over L14.out)
            refine hK _ _ S14.out ?_
            clear hK K
            refine wpAnyH_frame fun fr15 hfr15 => ?_
            refine wpAnyH_one 14 _ (by kernel_rfl) rfl fun K hK => ?_
            refine step_slice_blk rfl _ _ 5 _ rfl Tryd.underlying96 ([.slice (some ⟨g2, 0, none⟩) 2 2, .slice Ap 2 cp, .slice A14 16 c14, .slice Aq 2 cq, .slice (some ⟨wt4.heap.size, 0, none⟩) 2 2] : List Value) (by rw [hfr15]; kernel_rfl) ?_
            intro g16 wt16 qa qb Y016 L16
            have Y16 : Hid (Parts wt16 g16 5 (partA [((some ⟨g2, 0, none⟩), 2, 2, [a.lev, a.dur]), (Ap, 2, cp, m2), (A14, 16, c14, fs), (Aq, 2, cq, k2), ((some ⟨wt4.heap.size, 0, none⟩), 2, 2, List.replicate 2 0)]) (partN [((some ⟨g2, 0, none⟩), 2, 2, [a.lev, a.dur]), (Ap, 2, cp, m2), (A14, 16, c14, fs), (Aq, 2, cq, k2), ((some ⟨wt4.heap.size, 0, none⟩), 2, 2, List.replicate 2 0)]) (partC [((some ⟨g2, 0, none⟩), 2, 2, [a.lev, a.dur]), (Ap, 2, cp, m2), (A14, 16, c14, fs), (Aq, 2, cq, k2), ((some ⟨wt4.heap.size, 0, none⟩), 2, 2, List.replicate 2 0)]) (partX [((some ⟨g2, 0, none⟩), 2, 2, [a.lev, a.dur]), (Ap, 2, cp, m2), (A14, 16, c14, fs), (Aq, 2, cq, k2), ((some ⟨wt4.heap.size, 0, none⟩), 2, 2, List.replicate 2 0)])) := Parts.of_blk [((some ⟨g2, 0, none⟩), 2, 2, [a.lev, a.dur]), (Ap, 2, cp, m2), (A14, 16, c14, fs), (Aq, 2, cq, k2), ((some ⟨wt4.heap.size, 0, none⟩), 2, 2, List.replicate 2 0)] Y016.out (List.forall_mem_cons.2 ⟨u2_14.out.over L16.out, List.forall_mem_cons.2 ⟨mM_14.out.over L16.out, List.forall_mem_cons.2 ⟨Y14.out.over L16.out, List.forall_mem_cons.2 ⟨kK_14.out.over L16.out, List.forall_mem_cons.2 ⟨nE_14.out.over L16.out, fun _ h => by cases h⟩⟩⟩⟩⟩)
            clear Y016
            have S16 := Lib.hid (S14.out.over L16.out)
            have b16 := Lib.hid (step b14.out L16.out)
            refine hK _ _ S16.out ?_
            clear hK K
            subst hfr15
            refine wpAnyH_one 15 _ (by kernel_rfl) rfl fun K hK => ?_
            go_simp
            refine (CC.out _ g16 5 _ _ _ _ Y16.out (by omega) (by show 0 + 2 + 2 + 16 + 2 + 2 ≤ _; omega)).mono ?_
            rintro e wt17 ⟨v, rfl, hY17, L017⟩
            have OUT := Lib.hid hY17
            have L17 := Lib.hid L017
            clear hY17 L017
            have hsz0 := b16.out.size
            have S17 := Lib.hid (S16.out.over L17.out)
            have b17 := Lib.hid (step b16.out L17.out)
            refine hK _ _ S17.out ?_
            clear hK K
            refine wpAnyH_one 16 _ (by kernel_rfl) rfl fun K hK => ?_
            go_simp
            refine hK _ _ S17.out ?_
            clear hK K
            refine wpAnyH_one 17 _ (by kernel_rfl) rfl fun K hK => ?_
            go_simp
            refine hK _ _ S17.out ?_
            clear hK K
            refine wpAnyH_done (by kernel_rfl) ?_ _
            have HO6 := Lib.hid (OwnZ.mono OUT.out (Nat.le_trans (hsz0) (Nat.le_refl _)))
            go_wp2
            go_ret2
            refine HQ.out _ _ _ rfl ?_ b17.out
            have h9 := HO6.out
            simpa [catL, partX, List.append_assoc] using h9
        · skip
          subst hfr3
          refine step_make_bytes rfl _ _ rfl 2 rfl rfl (by omega) ?_
          intro wt20 R20 L20
          have Y20 := Lib.hid (Fresh.holds (base := 0) (.inr ⟨_, rfl, Nat.zero_le _, R20.out⟩) (by rfl : (List.replicate 2 (0 : Int)).length = 2) (Bytes.zeros 2) (by omega))
          clear R20
          have S20 := Lib.hid (S2.out.over L20.out)
          have b20 := Lib.hid (step b2.out L20.out)
          have mM_20 := Lib.hid (mM_2.out.over L20.out)
          have kK_20 := Lib.hid (kK_2.out.over L20.out)
          have u2_20 := Lib.hid (Y2.out.over L20.out)
          refine hK _ _ S20.out ?_
          clear hK K
          refine wpAnyH_frame fun fr21 hfr21 => ?_
          refine wpAnyH_one 10 _ (by kernel_rfl) rfl fun K hK => ?_
          refine step_slice_blk rfl _ _ 2 _ rfl Tryd.underlying93 ([.int .u64 a.file, .int .u64 a.siz] : List Value) (by rw [hfr21]; kernel_rfl) ?_
          intro g22 wt22 qa qb Y22 L22
          have S22 := Lib.hid (S20.out.over L22.out)
          have b22 := Lib.hid (step b20.out L22.out)
          have mM_22 := Lib.hid (mM_20.out.over L22.out)
          have kK_22 := Lib.hid (kK_20.out.over L22.out)
          have u2_22 := Lib.hid (u2_20.out.over L22.out)
          have nE_22 := Lib.hid (Y20.out.over L22.out)
          refine hK _ _ S22.out ?_
          clear hK K
          subst hfr21
          refine wpAnyH_one 11 _ (by kernel_rfl) rfl fun K hK => ?_
          go_simp
          refine (CF16.out _ _ Y22.out).mono ?_
          rintro e wt23 ⟨A23, c23, rfl, ⟨_, hY23⟩, L023⟩
          have Y23 := Lib.hid hY23
          have L23 := Lib.hid L023
          clear hY23 L023
          have S23 := Lib.hid (S22.out.over L23.out)
          have b23 := Lib.hid (step b22.out L23.out)
          have mM_23 := Lib.hid (mM_22.out.over L23.out)
          have kK_23 := Lib.hid (kK_22.out.over L23.out)
          have u2_23 := Lib.hid (u2_22.out.over L23.out)
          have nE_23 := Lib.hid (nE_22.out.over L23.out)
          refine hK _ _ S23.out ?_
          clear hK K
          refine wpAnyH_frame fun fr24 hfr24 => ?_
          refine wpAnyH_one 14 _ (by kernel_rfl) rfl fun K hK => ?_
          refine step_slice_blk rfl _ _ 5 _ rfl Tryd.underlying96 ([.slice (some ⟨g2, 0, none⟩) 2 2, .slice Ap 2 cp, .slice A23 16 c23, .slice Aq 2 cq, .slice (some ⟨wt2.heap.size, 0, none⟩) 2 2] : List Value) (by rw [hfr24]; kernel_rfl) ?_
          intro g25 wt25 qa qb Y025 L25
          have Y25 : Hid (Parts wt25 g25 5 (partA [((some ⟨g2, 0, none⟩), 2, 2, [a.lev, a.dur]), (Ap, 2, cp, m2), (A23, 16, c23, fs), (Aq, 2, cq, k2), ((some ⟨wt2.heap.size, 0, none⟩), 2, 2, List.replicate 2 0)]) (partN [((some ⟨g2, 0, none⟩), 2, 2, [a.lev, a.dur]), (Ap, 2, cp, m2), (A23, 16, c23, fs), (Aq, 2, cq, k2), ((some ⟨wt2.heap.size, 0, none⟩), 2, 2, List.replicate 2 0)]) (partC [((some ⟨g2, 0, none⟩), 2, 2, [a.lev, a.dur]), (Ap, 2, cp, m2), (A23, 16, c23, fs), (Aq, 2, cq, k2), ((some ⟨wt2.heap.size, 0, none⟩), 2, 2, List.replicate 2 0)]) (partX [((some ⟨g2, 0, none⟩), 2, 2, [a.lev, a.dur]), (Ap, 2, cp, m2), (A23, 16, c23, fs), (Aq, 2, cq, k2), ((some ⟨wt2.heap.size, 0, none⟩), 2, 2, List.replicate 2 0)])) := Parts.of_blk [((some ⟨g2, 0, none⟩), 2, 2, [a.lev, a.dur]), (Ap, 2, cp, m2), (A23, 16, c23, fs), (Aq, 2, cq, k2), ((some ⟨wt2.heap.size, 0, none⟩), 2, 2, List.replicate 2 0)] Y025.out (List.forall_mem_cons.2 ⟨u2_23.out.over L25.out, List.forall_mem_cons.2 ⟨mM_23.out.over L25.out, List.forall_mem_cons.2 ⟨Y23.out.over L25.out, List.forall_mem_cons.2 ⟨kK_23.out.over L25.out, List.forall_mem_cons.2 ⟨nE_23.out.over L25.out, fun _ h => by cases h⟩⟩⟩⟩⟩)
          clear Y025
          have S25 := Lib.hid (S23.out.over L25.out)
          have b25 := Lib.hid (step b23.out L25.out)
          refine hK _ _ S25.out ?_
          clear hK K
          subst hfr24
          refine wpAnyH_one 15 _ (by kernel_rfl) rfl fun K hK => ?_
          go_simp
          refine (CC.out _ g25 5 _ _ _ _ Y25.out (by omega) (by show 0 + 2 + 2 + 16 + 2 + 2 ≤ _; omega)).mono ?_
          rintro e wt26 ⟨v, rfl, hY26, L026⟩
          have OUT := Lib.hid hY26
          have L26 := Lib.hid L026
          clear hY26 L026
          have hsz0 := b25.out.size
          have S26 := Lib.hid (S25.out.over L26.out)
          have b26 := Lib.hid (step b25.out L26.out)
          refine hK _ _ S26.out ?_
          clear hK K
          refine wpAnyH_one 16 _ (by kernel_rfl) rfl fun K hK => ?_
          go_simp
          refine hK _ _ S26.out ?_
          clear hK K
          refine wpAnyH_one 17 _ (by kernel_rfl) rfl fun K hK => ?_
          go_simp
          refine hK _ _ S26.out ?_
          clear hK K
          refine wpAnyH_done (by kernel_rfl) ?_ _
          have HO6 := Lib.hid (OwnZ.mono OUT.out (Nat.le_trans (hsz0) (Nat.le_refl _)))
          go_wp2
          go_ret2
          refine HQ.out _ _ _ rfl ?_ b26.out
          have h9 := HO6.out
          simpa [catL, partX, List.append_assoc] using h9
      · skip
        refine step_slice_blk rfl _ _ 2 _ rfl Tryd.underlying93 ([.int .u64 a.file, .int .u64 a.siz] : List Value) (by rw [hfr1]; kernel_rfl) ?_
        intro g29 wt29 qa qb Y29 L29
        have S29 := Lib.hid (S0.out.over L29.out)
        have b29 := Lib.hid (step b0.out L29.out)
        have mM_29 := Lib.hid (mM_0.out.over L29.out)
        have kK_29 := Lib.hid (kK_0.out.over L29.out)
        refine hK _ _ S29.out ?_
        clear hK K
        subst hfr1
        refine wpAnyH_frame fun fr30 hfr30 => ?_
        refine wpAnyH_three 4 11 13 _ _ _ (by kernel_rfl) rfl rfl rfl (fun K hK => ?_) (fun K hK => ?_) (fun K hK => ?_)
        · skip
          refine step_slice_blk rfl _ _ 2 _ rfl Tryd.underlying29 ([.int .u8 a.lev, .int .u8 a.dur] : List Value) (by rw [hfr30]; kernel_rfl) ?_
          intro g31 wt31 qa qb Y031 L31
          have Y31 := Lib.hid (Holds.of_lit (xs := [a.lev, a.dur]) Y031.out HLD.out)
          clear Y031
          have S31 := Lib.hid (S29.out.over L31.out)
          have b31 := Lib.hid (step b29.out L31.out)
          have mM_31 := Lib.hid (mM_29.out.over L31.out)
          have kK_31 := Lib.hid (kK_29.out.over L31.out)
          have lA_31 := Lib.hid (Y29.out.over L31.out)
          refine hK _ _ S31.out ?_
          clear hK K
          subst hfr30
          refine wpAnyH_frame fun fr32 hfr32 => ?_
          refine wpAnyH_two 11 13 _ _ (by kernel_rfl) rfl rfl (fun K hK => ?_) (fun K hK => ?_)
          · skip
            subst hfr32
            go_simp
            refine (CF16.out _ _ lA_31.out).mono ?_
            rintro e wt33 ⟨A33, c33, rfl, ⟨_, hY33⟩, L033⟩
            have Y33 := Lib.hid hY33
            have L33 := Lib.hid L033
            clear hY33 L033
            have S33 := Lib.hid (S31.out.over L33.out)
            have b33 := Lib.hid (step b31.out L33.out)
            have mM_33 := Lib.hid (mM_31.out.over L33.out)
            have kK_33 := Lib.hid (kK_31.out.over L33.out)
            have u2_33 := Lib.hid (Y31.out.over L33.out)
            refine hK _ _ S33.out ?_
            clear hK K
            refine wpAnyH_one 13 _ (by kernel_rfl) rfl fun K hK => ?_
            refine step_make_bytes rfl _ _ rfl 2 rfl rfl (by omega) ?_
            intro wt34 R34 L34
            have Y34 := Lib.hid (Fresh.holds (base := 0) (.inr ⟨_, rfl, Nat.zero_le _, R34.out⟩) (by rfl : (List.replicate 2 (0 : Int)).length = 2) (Bytes.zeros 2) (by omega))
            clear R34
            have S34 := Lib.hid (S33.out.over L34.out)
            have b34 := Lib.hid (step b33.out L34.out)
            have mM_34 := Lib.hid (mM_33.out.over L34.out)
            have kK_34 := Lib.hid (kK_33.out.over L34.out)
            have u2_34 := Lib.hid (u2_33.out.over L34.out)
            have xA_34 := Lib.hid (Y33.out.over L34.out)
            refine hK _ _ S34.out ?_
            clear hK K
            refine wpAnyH_frame fun fr35 hfr35 => ?_
            refine wpAnyH_one 14 _ (by kernel_rfl) rfl fun K hK => ?_
            refine step_slice_blk rfl _ _ 5 _ rfl Tryd.underlying96 ([.slice (some ⟨g31, 0, none⟩) 2 2, .slice Ap 2 cp, .slice A33 16 c33, .slice Aq 2 cq, .slice (some ⟨wt33.heap.size, 0, none⟩) 2 2] : List Value) (by rw [hfr35]; kernel_rfl) ?_
            intro g36 wt36 qa qb Y036 L36
            have Y36 : Hid (Parts wt36 g36 5 (partA [((some ⟨g31, 0, none⟩), 2, 2, [a.lev, a.dur]), (Ap, 2, cp, m2), (A33, 16, c33, fs), (Aq, 2, cq, k2), ((some ⟨wt33.heap.size, 0, none⟩), 2, 2, List.replicate 2 0)]) (partN [((some ⟨g31, 0, none⟩), 2, 2, [a.lev, a.dur]), (Ap, 2, cp, m2), (A33, 16, c33, fs), (Aq, 2, cq, k2), ((some ⟨wt33.heap.size, 0, none⟩), 2, 2, List.replicate 2 0)]) (partC [((some ⟨g31, 0, none⟩), 2, 2, [a.lev, a.dur]), (Ap, 2, cp, m2), (A33, 16, c33, fs), (Aq, 2, cq, k2), ((some ⟨wt33.heap.size, 0, none⟩), 2, 2, List.replicate 2 0)]) (partX [((some ⟨g31, 0, none⟩), 2, 2, [a.lev, a.dur]), (Ap, 2, cp, m2), (A33, 16, c33, fs), (Aq, 2, cq, k2), ((some ⟨wt33.heap.size, 0, none⟩), 2, 2, List.replicate 2 0)])) := Parts.of_blk [((some ⟨g31, 0, none⟩), 2, 2, [a.lev, a.dur]), (Ap, 2, cp, m2), (A33, 16, c33, fs), (Aq, 2, cq, k2), ((some ⟨wt33.heap.size, 0, none⟩), 2, 2, List.replicate 2 0)] Y036.out (List.forall_mem_cons.2 ⟨u2_34.out.over L36.out, List.forall_mem_cons.2 ⟨mM_34.out.over L36.out, List.forall_mem_cons.2 ⟨xA_34.out.over L36.out, List.forall_mem_cons.2 ⟨kK_34.out.over L36.out, List.forall_mem_cons.2 ⟨Y34.out.over L36.out, fun _ h => by cases h⟩⟩⟩⟩⟩)
            clear Y036
            have S36 := Lib.hid (S34.out.over L36.out)
            have b36 := Lib.hid (step b34.out L36.out)
            refine hK _ _ S36.out ?_
            clear hK K
            subst hfr35
            refine wpAnyH_one 15 _ (by kernel_rfl) rfl fun K hK => ?_
            go_simp
            refine (CC.out _ g36 5 _ _ _ _ Y36.out (by omega) (by show 0 + 2 + 2 + 16 + 2 + 2 ≤ _; omega)).mono ?_
            rintro e wt37 ⟨v, rfl, hY37, L037⟩
            have OUT := Lib.hid hY37
            have L37 := Lib.hid L037
            clear hY37 L037
            have hsz0 := b36.out.size
            have S37 := Lib.hid (S36.out.over L37.out)
            have b37 := Lib.hid (step b36.out L37.out)
            refine hK _ _ S37.out ?_
            clear hK K
            refine wpAnyH_one 16 _ (by kernel_rfl) rfl fun K hK => ?_
            go_simp
            refine hK _ _ S37.out ?_
            clear hK K
            refine wpAnyH_one 17 _ (by kernel_rfl) rfl fun K hK => ?_
            go_simp
            refine hK _ _ S37.out ?_
            clear hK K
            refine wpAnyH_done (by kernel_rfl) ?_ _
            have HO6 := Lib.hid (OwnZ.mono OUT.out (Nat.le_trans (hsz0) (Nat.le_refl _)))
            go_wp2
            go_ret2
            refine HQ.out _ _ _ rfl ?_ b37.out
            have h9 := HO6.out
            simpa [catL, partX, List.append_assoc] using h9
          · skip
            subst hfr32
            refine step_make_bytes rfl _ _ rfl 2 rfl rfl (by omega) ?_
            intro wt40 R40 L40
            have Y40 := Lib.hid (Fresh.holds (base := 0) (.inr ⟨_, rfl, Nat.zero_le _, R40.out⟩) (by rfl : (List.replicate 2 (0 : Int)).length = 2) (Bytes.zeros 2) (by omega))
            clear R40
            have S40 := Lib.hid (S31.out.over L40.out)
            have b40 := Lib.hid (step b31.out L40.out)
            have mM_40 := Lib.hid (mM_31.out.over L40.out)
            have kK_40 := Lib.hid (kK_31.out.over L40.out)
            have lA_40 := Lib.hid (lA_31.out.over L40.out)
            have u2_40 := Lib.hid (Y31.out.over L40.out)
            refine hK _ _ S40.out ?_
            clear hK K
            refine wpAnyH_one 11 _ (by kernel_rfl) rfl fun K hK => ?_
            go_simp
            refine (CF16.out _ _ lA_40.out).mono ?_
            rintro e wt41 ⟨A41, c41, rfl, ⟨_, hY41⟩, L041⟩
            have Y41 := Lib.hid hY41
            have L41 := Lib.hid L041
            clear hY41 L041
            have S41 := Lib.hid (S40.out.over L41.out)
            have b41 := Lib.hid (step b40.out L41.out)
            have mM_41 := Lib.hid (mM_40.out.over L41.out)
            have kK_41 := Lib.hid (kK_40.out.over L41.out)
            have u2_41 := Lib.hid (u2_40.out.over L41.out)
            have nE_41 := Lib.hid (Y40.out.over L41.out)
            refine hK _ _ S41.out ?_
            clear hK K
            refine wpAnyH_frame fun fr42 hfr42 => ?_
            refine wpAnyH_one 14 _ (by kernel_rfl) rfl fun K hK => ?_
            refine step_slice_blk rfl _ _ 5 _ rfl Tryd.underlying96 ([.slice (some ⟨g31, 0, none⟩) 2 2, .slice Ap 2 cp, .slice A41 16 c41, .slice Aq 2 cq, .slice (some ⟨wt31.heap.size, 0, none⟩) 2 2] : List Value) (by rw [hfr42]; kernel_rfl) ?_
            intro g43 wt43 qa qb Y043 L43
            have Y43 : Hid (Parts wt43 g43 5 (partA [((some ⟨g31, 0, none⟩), 2, 2, [a.lev, a.dur]), (Ap, 2, cp, m2), (A41, 16, c41, fs), (Aq, 2, cq, k2), ((some ⟨wt31.heap.size, 0, none⟩), 2, 2, List.replicate 2 0)]) (partN [((some ⟨g31, 0, none⟩), 2, 2, [a.lev, a.dur]), (Ap, 2, cp, m2), (A41, 16, c41, fs), (Aq, 2, cq, k2), ((some ⟨wt31.heap.size, 0, none⟩), 2, 2, List.replicate 2 0)]) (partC [((some ⟨g31, 0, none⟩), 2, 2, [a.lev, a.dur]), (Ap, 2, cp, m2), (A41, 16, c41, fs), (Aq, 2, cq, k2), ((some ⟨wt31.heap.size, 0, none⟩), 2, 2, List.replicate 2 0)]) (partX [((some ⟨g31, 0, none⟩), 2, 2, [a.lev, a.dur]), (Ap, 2, cp, m2), (A41, 16, c41, fs), (Aq, 2, cq, k2), ((some ⟨wt31.heap.size, 0, none⟩), 2, 2, List.replicate 2 0)])) := Parts.of_blk [((some ⟨g31, 0, none⟩), 2, 2, [a.lev, a.dur]), (Ap, 2, cp, m2), (A41, 16, c41, fs), (Aq, 2, cq, k2), ((some ⟨wt31.heap.size, 0, none⟩), 2, 2, List.replicate 2 0)] Y043.out (List.forall_mem_cons.2 ⟨u2_41.out.over L43.out, List.forall_mem_cons.2 ⟨mM_41.out.over L43.out, List.forall_mem_cons.2 ⟨Y41.out.over L43.out, List.forall_mem_cons.2 ⟨kK_41.out.over L43.out, List.forall_mem_cons.2 ⟨nE_41.out.over L43.out, fun _ h => by cases h⟩⟩⟩⟩⟩)
            clear Y043
            have S43 := Lib.hid (S41.out.over L43.out)
            have b43 := Lib.hid (step b41.out L43.out)
            refine hK _ _ S43.out ?_
            clear hK K
            subst hfr42
            refine wpAnyH_one 15 _ (by kernel_rfl) rfl fun K hK => ?_
            go_simp
            refine (CC.out _ g43 5 _ _ _ _ Y43.out (by omega) (by show 0 + 2 + 2 + 16 + 2 + 2 ≤ _; omega)).mono ?_
            rintro e wt44 ⟨v, rfl, hY44, L044⟩
            have OUT := Lib.hid hY44
            have L44 := Lib.hid L044
            clear hY44 L044
            have hsz0 := b43.out.size
            have S44 := Lib.hid (S43.out.over L44.out)
            have b44 := Lib.hid (step b43.out L44.out)
            refine hK _ _ S44.out ?_
            clear hK K
            refine wpAnyH_one 16 _ (by kernel_rfl) rfl fun K hK => ?_
            go_simp
            refine hK _ _ S44.out ?_
            clear hK K
            refine wpAnyH_one 17 _ (by kernel_rfl) rfl fun K hK => ?_
            go_simp
            refine hK _ _ S44.out ?_
            clear hK K
            refine wpAnyH_done (by kernel_rfl) ?_ _
            have HO6 := Lib.hid (OwnZ.mono OUT.out (Nat.le_trans (hsz0) (Nat.le_refl _)))
            go_wp2
            go_ret2
            refine HQ.out _ _ _ rfl ?_ b44.out
            have h9 := HO6.out
            simpa [catL, partX, List.append_assoc] using h9
        · skip
          subst hfr30
          go_simp
          refine (CF16.out _ _ Y29.out).mono ?_
          rintro e wt47 ⟨A47, c47, rfl, ⟨_, hY47⟩, L047⟩
          have Y47 := Lib.hid hY47
          have L47 := Lib.hid L047
          clear hY47 L047
          have S47 := Lib.hid (S29.out.over L47.out)
          have b47 := Lib.hid (step b29.out L47.out)
          have mM_47 := Lib.hid (mM_29.out.over L47.out)
          have kK_47 := Lib.hid (kK_29.out.over L47.out)
          refine hK _ _ S47.out ?_
          clear hK K
          refine wpAnyH_frame fun fr48 hfr48 => ?_
          refine wpAnyH_two 4 13 _ _ (by kernel_rfl) rfl rfl (fun K hK => ?_) (fun K hK => ?_)
          · skip
            refine step_slice_blk rfl _ _ 2 _ rfl Tryd.underlying29 ([.int .u8 a.lev, .int .u8 a.dur] : List Value) (by rw [hfr48]; kernel_rfl) ?_
            intro g49 wt49 qa qb Y049 L49
            have Y49 := Lib.hid (Holds.of_lit (xs := [a.lev, a.dur]) Y049.out HLD.out)
            clear Y049
            have S49 := Lib.hid (S47.out.over L49.out)
            have b49 := Lib.hid (step b47.out L49.out)
            have mM_49 := Lib.hid (mM_47.out.over L49.out)
            have kK_49 := Lib.hid (kK_47.out.over L49.out)
            have xA_49 := Lib.hid (Y47.out.over L49.out)
            refine hK _ _ S49.out ?_
            clear hK K
            subst hfr48
            refine wpAnyH_one 13 _ (by kernel_rfl) rfl fun K hK => ?_
            refine step_make_bytes rfl _ _ rfl 2 rfl rfl (by omega) ?_
            intro wt50 R50 L50
            have Y50 := Lib.hid (Fresh.holds (base := 0) (.inr ⟨_, rfl, Nat.zero_le _, R50.out⟩) (by rfl : (List.replicate 2 (0 : Int)).length = 2) (Bytes.zeros 2) (by omega))
            clear R50
            have S50 := Lib.hid (S49.out.over L50.out)
            have b50 := Lib.hid (step b49.out L50.out)
            have mM_50 := Lib.hid (mM_49.out.over L50.out)
            have kK_50 := Lib.hid (kK_49.out.over L50.out)
            have xA_50 := Lib.hid (xA_49.out.over L50.out)
            have u2_50 := Lib.hid (Y49.out.over L50.out)
            refine hK _ _ S50.out ?_
            clear hK K
            refine wpAnyH_frame fun fr51 hfr51 => ?_
            refine wpAnyH_one 14 _ (by kernel_rfl) rfl fun K hK => ?_
            refine step_slice_blk rfl _ _ 5 _ rfl Tryd.underlying96 ([.slice (some ⟨g49, 0, none⟩) 2 2, .slice Ap 2 cp, .slice A47 16 c47, .slice Aq 2 cq, .slice (some ⟨wt49.heap.size, 0, none⟩) 2 2] : List Value) (by rw [hfr51]; kernel_rfl) ?_
            intro g52 wt52 qa qb Y052 L52
            have Y52 : Hid (Parts wt52 g52 5 (partA [((some ⟨g49, 0, none⟩), 2, 2, [a.lev, a.dur]), (Ap, 2, cp, m2), (A47, 16, c47, fs), (Aq, 2, cq, k2), ((some ⟨wt49.heap.size, 0, none⟩), 2, 2, List.replicate 2 0)]) (partN [((some ⟨g49, 0, none⟩), 2, 2, [a.lev, a.dur]), (Ap, 2, cp, m2), (A47, 16, c47, fs), (Aq, 2, cq, k2), ((some ⟨wt49.heap.size, 0, none⟩), 2, 2, List.replicate 2 0)]) (partC [((some ⟨g49, 0, none⟩), 2, 2, [a.lev, a.dur]), (Ap, 2, cp, m2), (A47, 16, c47, fs), (Aq, 2, cq, k2), ((some ⟨wt49.heap.size, 0, none⟩), 2, 2, List.replicate 2 0)]) (partX [((some ⟨g49, 0, none⟩), 2, 2, [a.lev, a.dur]), (Ap, 2, cp, m2), (A47, 16, c47, fs), (Aq, 2, cq, k2), ((some ⟨wt49.heap.size, 0, none⟩), 2, 2, List.replicate 2 0)])) := Parts.of_blk [((some ⟨g49, 0, none⟩), 2, 2, [a.lev, a.dur]), (Ap, 2, cp, m2), (A47, 16, c47, fs), (Aq, 2, cq, k2), ((some ⟨wt49.heap.size, 0, none⟩), 2, 2, List.replicate 2 0)] Y052.out (List.forall_mem_cons.2 ⟨u2_50.out.over L52.out, List.forall_mem_cons.2 ⟨mM_50.out.over L52.out, List.forall_mem_cons.2 ⟨xA_50.out.over L52.out, List.forall_mem_cons.2 ⟨kK_50.out.over L52.out, List.forall_mem_cons.2 ⟨Y50.out.over L52.out, fun _ h => by cases h⟩⟩⟩⟩⟩)
            clear Y052
            have S52 := Lib.hid (S50.out.over L52.out)
            have b52 := Lib.hid (step b50.out L52.out)
            refine hK _ _ S52.out ?_
            clear hK K
            subst hfr51
            refine wpAnyH_one 15 _ (by kernel_rfl) rfl fun K hK => ?_
            go_simp
            refine (CC.out _ g52 5 _ _ _ _ Y52.out (by omega) (by show 0 + 2 + 2 + 16 + 2 + 2 ≤ _; omega)).mono ?_
            rintro e wt53 ⟨v, rfl, hY53, L053⟩
            have OUT := Lib.hid hY53
            have L53 := Lib.hid L053
            clear hY53 L053
            have hsz0 := b52.out.size
            have S53 := Lib.hid (S52.out.over L53.out)
            have b53 := Lib.hid (step b52.out L53.out)
            refine hK _ _ S53.out ?_
            clear hK K
            refine wpAnyH_one 16 _ (by kernel_rfl) rfl fun K hK => ?_
            go_simp
            refine hK _ _ S53.out ?_
            clear hK K
            refine wpAnyH_one 17 _ (by kernel_rfl) rfl fun K hK => ?_
            go_simp
            refine hK _ _ S53.out ?_
            clear hK K
            refine wpAnyH_done (by kernel_rfl) ?_ _
            have HO6 := Lib.hid (OwnZ.mono OUT.out (Nat.le_trans (hsz0) (Nat.le_refl _)))
            go_wp2
            go_ret2
            refine HQ.out _ _ _ rfl ?_ b53.out
            have h9 := HO6.out
            simpa [catL, partX, List.append_assoc] using h9
          · skip
            subst hfr48
            refine step_make_bytes rfl _ _ rfl 2 rfl rfl (by omega) ?_
            intro wt56 R56 L56
            have Y56 := Lib.hid (Fresh.holds (base := 0) (.inr ⟨_, rfl, Nat.zero_le _, R56.out⟩) (by rfl : (List.replicate 2 (0 : Int)).length = 2) (Bytes.zeros 2) (by omega))
            clear R56
            have S56 := Lib.hid (S47.out.over L56.out)
            have b56 := Lib.hid (step b47.out L56.out)
            have mM_56 := Lib.hid (mM_47.out.over L56.out)
            have kK_56 := Lib.hid (kK_47.out.over L56.out)
            have xA_56 := Lib.hid (Y47.out.over L56.out)
            refine hK _ _ S56.out ?_
            clear hK K
            refine wpAnyH_frame fun fr57 hfr57 => ?_
            refine wpAnyH_one 4 _ (by kernel_rfl) rfl fun K hK => ?_
            refine step_slice_blk rfl _ _ 2 _ rfl Tryd.underlying29 ([.int .u8 a.lev, .int .u8 a.dur] : List Value) (by rw [hfr57]; kernel_rfl) ?_
            intro g58 wt58 qa qb Y058 L58
            have Y58 := Lib.hid (Holds.of_lit (xs := [a.lev, a.dur]) Y058.out HLD.out)
            clear Y058
            have S58 := Lib.hid (S56.out.over L58.out)
            have b58 := Lib.hid (step b56.out L58.out)
            have mM_58 := Lib.hid (mM_56.out.over L58.out)
            have kK_58 := Lib.hid (kK_56.out.over L58.out)
            have xA_58 := Lib.hid (xA_56.out.over L58.out)
            have nE_58 := Lib.hid (Y56.out.over L58.out)
            refine hK _ _ S58.out ?_
            clear hK K
            subst hfr57
            refine wpAnyH_frame fun fr59 hfr59 => ?_
            refine wpAnyH_one 14 _ (by kernel_rfl) rfl fun K hK => ?_
            refine step_slice_blk rfl _ _ 5 _ rfl Tryd.underlying96 ([.slice (some ⟨g58, 0, none⟩) 2 2, .slice Ap 2 cp, .slice A47 16 c47, .slice Aq 2 cq, .slice (some ⟨wt47.heap.size, 0, none⟩) 2 2] : List Value) (by rw [hfr59]; kernel_rfl) ?_
            intro g60 wt60 qa qb Y060 L60
            have Y60 : Hid (Parts wt60 g60 5 (partA [((some ⟨g58, 0, none⟩), 2, 2, [a.lev, a.dur]), (Ap, 2, cp, m2), (A47, 16, c47, fs), (Aq, 2, cq, k2), ((some ⟨wt47.heap.size, 0, none⟩), 2, 2, List.replicate 2 0)]) (partN [((some ⟨g58, 0, none⟩), 2, 2, [a.lev, a.dur]), (Ap, 2, cp, m2), (A47, 16, c47, fs), (Aq, 2, cq, k2), ((some ⟨wt47.heap.size, 0, none⟩), 2, 2, List.replicate 2 0)]) (partC [((some ⟨g58, 0, none⟩), 2, 2, [a.lev, a.dur]), (Ap, 2, cp, m2), (A47, 16, c47, fs), (Aq, 2, cq, k2), ((some ⟨wt47.heap.size, 0, none⟩), 2, 2, List.replicate 2 0)]) (partX [((some ⟨g58, 0, none⟩), 2, 2, [a.lev, a.dur]), (Ap, 2, cp, m2), (A47, 16, c47, fs), (Aq, 2, cq, k2), ((some ⟨wt47.heap.size, 0, none⟩), 2, 2, List.replicate 2 0)])) := Parts.of_blk [((some ⟨g58, 0, none⟩), 2, 2, [a.lev, a.dur]), (Ap, 2, cp, m2), (A47, 16, c47, fs), (Aq, 2, cq, k2), ((some ⟨wt47.heap.size, 0, none⟩), 2, 2, List.replicate 2 0)] Y060.out (List.forall_mem_cons.2 ⟨Y58.out.over L60.out, List.forall_mem_cons.2 ⟨mM_58.out.over L60.out, List.forall_mem_cons.2 ⟨xA_58.out.over L60.out, List.forall_mem_cons.2 ⟨kK_58.out.over L60.out, List.forall_mem_cons.2 ⟨nE_58.out.over L60.out, fun _ h => by cases h⟩⟩⟩⟩⟩)
            clear Y060
            have S60 := Lib.hid (S58.out.over L60.out)
            have b60 := Lib.hid (step b58.out L60.out)
            refine hK _ _ S60.out ?_
            clear hK K
            subst hfr59
            refine wpAnyH_one 15 _ (by kernel_rfl) rfl fun K hK => ?_
            go_simp
            refine (CC.out _ g60 5 _ _ _ _ Y60.out (by omega) (by show 0 + 2 + 2 + 16 + 2 + 2 ≤ _; omega)).mono ?_
            rintro e wt61 ⟨v, rfl, hY61, L061⟩
            have OUT := Lib.hid hY61
            have L61 := Lib.hid L061
            clear hY61 L061
            have hsz0 := b60.out.size
            have S61 := Lib.hid (S60.out.over L61.out)
            have b61 := Lib.hid (step b60.out L61.out)
            refine hK _ _ S61.out ?_
            clear hK K
            refine wpAnyH_one 16 _ (by kernel_rfl) rfl fun K hK => ?_
            go_simp
            refine hK _ _ S61.out ?_
            clear hK K
            refine wpAnyH_one 17 _ (by kernel_rfl) rfl fun K hK => ?_
            go_simp
            refine hK _ _ S61.out ?_
            clear hK K
            refine wpAnyH_done (by kernel_rfl) ?_ _
            have HO6 := Lib.hid (OwnZ.mono OUT.out (Nat.le_trans (hsz0) (Nat.le_refl _)))
            go_wp2
            go_ret2
            refine HQ.out _ _ _ rfl ?_ b61.out
            have h9 := HO6.out
            simpa [catL, partX, List.append_assoc] using h9
        · skip
          subst hfr30
          refine step_make_bytes rfl _ _ rfl 2 rfl rfl (by omega) ?_
          intro wt64 R64 L64
          have Y64 := Lib.hid (Fresh.holds (base := 0) (.inr ⟨_, rfl, Nat.zero_le _, R64.out⟩) (by rfl : (List.replicate 2 (0 : Int)).length = 2) (Bytes.zeros 2) (by omega))
          clear R64
          have S64 := Lib.hid (S29.out.over L64.out)
          have b64 := Lib.hid (step b29.out L64.out)
          have mM_64 := Lib.hid (mM_29.out.over L64.out)
          have kK_64 := Lib.hid (kK_29.out.over L64.out)
          have lA_64 := Lib.hid (Y29.out.over L64.out)
          refine hK _ _ S64.out ?_
          clear hK K
          refine wpAnyH_frame fun fr65 hfr65 => ?_
          refine wpAnyH_two 4 11 _ _ (by kernel_rfl) rfl rfl (fun K hK => ?_) (fun K hK => ?_)
          · skip
            refine step_slice_blk rfl _ _ 2 _ rfl Tryd.underlying29 ([.int .u8 a.lev, .int .u8 a.dur] : List Value) (by rw [hfr65]; kernel_rfl) ?_
            intro g66 wt66 qa qb Y066 L66
            have Y66 := Lib.hid (Holds.of_lit (xs := [a.lev, a.dur]) Y066.out HLD.out)
            clear Y066
            have S66 := Lib.hid (S64.out.over L66.out)
            have b66 := Lib.hid (step b64.out L66.out)
            have mM_66 := Lib.hid (mM_64.out.over L66.out)
            have kK_66 := Lib.hid (kK_64.out.over L66.out)
            have lA_66 := Lib.hid (lA_64.out.over L66.out)
            have nE_66 := Lib.hid (Y64.out.over L66.out)
            refine hK _ _ S66.out ?_
            clear hK K
            subst hfr65
            refine wpAnyH_one 11 _ (by kernel_rfl) rfl fun K hK => ?_
            go_simp
            refine (CF16.out _ _ lA_66.out).mono ?_
            rintro e wt67 ⟨A67, c67, rfl, ⟨_, hY67⟩, L067⟩
            have Y67 := Lib.hid hY67
            have L67 := Lib.hid L067
            clear hY67 L067
            have S67 := Lib.hid (S66.out.over L67.out)
            have b67 := Lib.hid (step b66.out L67.out)
            have mM_67 := Lib.hid (mM_66.out.over L67.out)
            have kK_67 := Lib.hid (kK_66.out.over L67.out)
            have nE_67 := Lib.hid (nE_66.out.over L67.out)
            have u2_67 := Lib.hid (Y66.out.over L67.out)
            refine hK _ _ S67.out ?_
            clear hK K
            refine wpAnyH_frame fun fr68 hfr68 => ?_
            refine wpAnyH_one 14 _ (by kernel_rfl) rfl fun K hK => ?_
            refine step_slice_blk rfl _ _ 5 _ rfl Tryd.underlying96 ([.slice (some ⟨g66, 0, none⟩) 2 2, .slice Ap 2 cp, .slice A67 16 c67, .slice Aq 2 cq, .slice (some ⟨wt29.heap.size, 0, none⟩) 2 2] : List Value) (by rw [hfr68]; kernel_rfl) ?_
            intro g69 wt69 qa qb Y069 L69
            have Y69 : Hid (Parts wt69 g69 5 (partA [((some ⟨g66, 0, none⟩), 2, 2, [a.lev, a.dur]), (Ap, 2, cp, m2), (A67, 16, c67, fs), (Aq, 2, cq, k2), ((some ⟨wt29.heap.size, 0, none⟩), 2, 2, List.replicate 2 0)]) (partN [((some ⟨g66, 0, none⟩), 2, 2, [a.lev, a.dur]), (Ap, 2, cp, m2), (A67, 16, c67, fs), (Aq, 2, cq, k2), ((some ⟨wt29.heap.size, 0, none⟩), 2, 2, List.replicate 2 0)]) (partC [((some ⟨g66, 0, none⟩), 2, 2, [a.lev, a.dur]), (Ap, 2, cp, m2), (A67, 16, c67, fs), (Aq, 2, cq, k2), ((some ⟨wt29.heap.size, 0, none⟩), 2, 2, List.replicate 2 0)]) (partX [((some ⟨g66, 0, none⟩), 2, 2, [a.lev, a.dur]), (Ap, 2, cp, m2), (A67, 16, c67, fs), (Aq, 2, cq, k2), ((some ⟨wt29.heap.size, 0, none⟩), 2, 2, List.replicate 2 0)])) := Parts.of_blk [((some ⟨g66, 0, none⟩), 2, 2, [a.lev, a.dur]), (Ap, 2, cp, m2), (A67, 16, c67, fs), (Aq, 2, cq, k2), ((some ⟨wt29.heap.size, 0, none⟩), 2, 2, List.replicate 2 0)] Y069.out (List.forall_mem_cons.2 ⟨u2_67.out.over L69.out, List.forall_mem_cons.2 ⟨mM_67.out.over L69.out, List.forall_mem_cons.2 ⟨Y67.out.over L69.out, List.forall_mem_cons.2 ⟨kK_67.out.over L69.out, List.forall_mem_cons.2 ⟨nE_67.out.over L69.out, fun _ h => by cases h⟩⟩⟩⟩⟩)
            clear Y069
            have S69 := Lib.hid (S67.out.over L69.out)
            have b69 := Lib.hid (step b67.out L69.out)
            refine hK _ _ S69.out ?_
            clear hK K
            subst hfr68
            refine wpAnyH_one 15 _ (by kernel_rfl) rfl fun K hK => ?_
            go_simp
            refine (CC.out _ g69 5 _ _ _ _ Y69.out (by omega) (by show 0 + 2 + 2 + 16 + 2 + 2 ≤ _; omega)).mono ?_
            rintro e wt70 ⟨v, rfl, hY70, L070⟩
            have OUT := Lib.hid hY70
            have L70 := Lib.hid L070
            clear hY70 L070
            have hsz0 := b69.out.size
            have S70 := Lib.hid (S69.out.over L70.out)
            have b70 := Lib.hid (step b69.out L70.out)
            refine hK _ _ S70.out ?_
            clear hK K
            refine wpAnyH_one 16 _ (by kernel_rfl) rfl fun K hK => ?_
            go_simp
            refine hK _ _ S70.out ?_
            clear hK K
            refine wpAnyH_one 17 _ (by kernel_rfl) rfl fun K hK => ?_
            go_simp
            refine hK _ _ S70.out ?_
            clear hK K
            refine wpAnyH_done (by kernel_rfl) ?_ _
            have HO6 := Lib.hid (OwnZ.mono OUT.out (Nat.le_trans (hsz0) (Nat.le_refl _)))
            go_wp2
            go_ret2
            refine HQ.out _ _ _ rfl ?_ b70.out
            have h9 := HO6.out
            simpa [catL, partX, List.append_assoc] using h9
          · skip
            subst hfr65
            go_simp
            refine (CF16.out _ _ lA_64.out).mono ?_
            rintro e wt73 ⟨A73, c73, rfl, ⟨_, hY73⟩, L073⟩
            have Y73 := Lib.hid hY73
            have L73 := Lib.hid L073
            clear hY73 L073
            have S73 := Lib.hid (S64.out.over L73.out)
            have b73 := Lib.hid (step b64.out L73.out)
            have mM_73 := Lib.hid (mM_64.out.over L73.out)
            have kK_73 := Lib.hid (kK_64.out.over L73.out)
            have nE_73 := Lib.hid (Y64.out.over L73.out)
            refine hK _ _ S73.out ?_
            clear hK K
            refine wpAnyH_frame fun fr74 hfr74 => ?_
            refine wpAnyH_one 4 _ (by kernel_rfl) rfl fun K hK => ?_
            refine step_slice_blk rfl _ _ 2 _ rfl Tryd.underlying29 ([.int .u8 a.lev, .int .u8 a.dur] : List Value) (by rw [hfr74]; kernel_rfl) ?_
            intro g75 wt75 qa qb Y075 L75
            have Y75 := Lib.hid (Holds.of_lit (xs := [a.lev, a.dur]) Y075.out HLD.out)
            clear Y075
            have S75 := Lib.hid (S73.out.over L75.out)
            have b75 := Lib.hid (step b73.out L75.out)
            have mM_75 := Lib.hid (mM_73.out.over L75.out)
            have kK_75 := Lib.hid (kK_73.out.over L75.out)
            have nE_75 := Lib.hid (nE_73.out.over L75.out)
            have xA_75 := Lib.hid (Y73.out.over L75.out)
            refine hK _ _ S75.out ?_
            clear hK K
            subst hfr74
            refine wpAnyH_frame fun fr76 hfr76 => ?_
            refine wpAnyH_one 14 _ (by kernel_rfl) rfl fun K hK => ?_
            refine step_slice_blk rfl _ _ 5 _ rfl Tryd.underlying96 ([.slice (some ⟨g75, 0, none⟩) 2 2, .slice Ap 2 cp, .slice A73 16 c73, .slice Aq 2 cq, .slice (some ⟨wt29.heap.size, 0, none⟩) 2 2] : List Value) (by rw [hfr76]; kernel_rfl) ?_
            intro g77 wt77 qa qb Y077 L77
            have Y77 : Hid (Parts wt77 g77 5 (partA [((some ⟨g75, 0, none⟩), 2, 2, [a.lev, a.dur]), (Ap, 2, cp, m2), (A73, 16, c73, fs), (Aq, 2, cq, k2), ((some ⟨wt29.heap.size, 0, none⟩), 2, 2, List.replicate 2 0)]) (partN [((some ⟨g75, 0, none⟩), 2, 2, [a.lev, a.dur]), (Ap, 2, cp, m2), (A73, 16, c73, fs), (Aq, 2, cq, k2), ((some ⟨wt29.heap.size, 0, none⟩), 2, 2, List.replicate 2 0)]) (partC [((some ⟨g75, 0, none⟩), 2, 2, [a.lev, a.dur]), (Ap, 2, cp, m2), (A73, 16, c73, fs), (Aq, 2, cq, k2), ((some ⟨wt29.heap.size, 0, none⟩), 2, 2, List.replicate 2 0)]) (partX [((some ⟨g75, 0, none⟩), 2, 2, [a.lev, a.dur]), (Ap, 2, cp, m2), (A73, 16, c73, fs), (Aq, 2, cq, k2), ((some ⟨wt29.heap.size, 0, none⟩), 2, 2, List.replicate 2 0)])) := Parts.of_blk [((some ⟨g75, 0, none⟩), 2, 2, [a.lev, a.dur]), (Ap, 2, cp, m2), (A73, 16, c73, fs), (Aq, 2, cq, k2), ((some ⟨wt29.heap.size, 0, none⟩), 2, 2, List.replicate 2 0)] Y077.out (List.forall_mem_cons.2 ⟨Y75.out.over L77.out, List.forall_mem_cons.2 ⟨mM_75.out.over L77.out, List.forall_mem_cons.2 ⟨xA_75.out.over L77.out, List.forall_mem_cons.2 ⟨kK_75.out.over L77.out, List.forall_mem_cons.2 ⟨nE_75.out.over L77.out, fun _ h => by cases h⟩⟩⟩⟩⟩)
            clear Y077
            have S77 := Lib.hid (S75.out.over L77.out)
            have b77 := Lib.hid (step b75.out L77.out)
            refine hK _ _ S77.out ?_
            clear hK K
            subst hfr76
            refine wpAnyH_one 15 _ (by kernel_rfl) rfl fun K hK => ?_
            go_simp
            refine (CC.out _ g77 5 _ _ _ _ Y77.out (by omega) (by show 0 + 2 + 2 + 16 + 2 + 2 ≤ _; omega)).mono ?_
            rintro e wt78 ⟨v, rfl, hY78, L078⟩
            have OUT := Lib.hid hY78
            have L78 := Lib.hid L078
            clear hY78 L078
            have hsz0 := b77.out.size
            have S78 := Lib.hid (S77.out.over L78.out)
            have b78 := Lib.hid (step b77.out L78.out)
            refine hK _ _ S78.out ?_
            clear hK K
            refine wpAnyH_one 16 _ (by kernel_rfl) rfl fun K hK => ?_
            go_simp
            refine hK _ _ S78.out ?_
            clear hK K
            refine wpAnyH_one 17 _ (by kernel_rfl) rfl fun K hK => ?_
            go_simp
            refine hK _ _ S78.out ?_
            clear hK K
            refine wpAnyH_done (by kernel_rfl) ?_ _
            have HO6 := Lib.hid (OwnZ.mono OUT.out (Nat.le_trans (hsz0) (Nat.le_refl _)))
            go_wp2
            go_ret2
            refine HQ.out _ _ _ rfl ?_ b78.out
            have h9 := HO6.out
            simpa [catL, partX, List.append_assoc] using h9
      · skip
        subst hfr1
        refine step_make_bytes rfl _ _ rfl 2 rfl rfl (by omega) ?_
        intro wt81 R81 L81
        have Y81 := Lib.hid (Fresh.holds (base := 0) (.inr ⟨_, rfl, Nat.zero_le _, R81.out⟩) (by rfl : (List.replicate 2 (0 : Int)).length = 2) (Bytes.zeros 2) (by omega))
        clear R81
        have S81 := Lib.hid (S0.out.over L81.out)
        have b81 := Lib.hid (step b0.out L81.out)
        have mM_81 := Lib.hid (mM_0.out.over L81.out)
        have kK_81 := Lib.hid (kK_0.out.over L81.out)
        refine hK _ _ S81.out ?_
        clear hK K
        refine wpAnyH_frame fun fr82 hfr82 => ?_
        refine wpAnyH_two 4 10 _ _ (by kernel_rfl) rfl rfl (fun K hK => ?_) (fun K hK => ?_)
        · skip
          refine step_slice_blk rfl _ _ 2 _ rfl Tryd.underlying29 ([.int .u8 a.lev, .int .u8 a.dur] : List Value) (by rw [hfr82]; kernel_rfl) ?_
          intro g83 wt83 qa qb Y083 L83
          have Y83 := Lib.hid (Holds.of_lit (xs := [a.lev, a.dur]) Y083.out HLD.out)
          clear Y083
          have S83 := Lib.hid (S81.out.over L83.out)
          have b83 := Lib.hid (step b81.out L83.out)
          have mM_83 := Lib.hid (mM_81.out.over L83.out)
          have kK_83 := Lib.hid (kK_81.out.over L83.out)
          have nE_83 := Lib.hid (Y81.out.over L83.out)
          refine hK _ _ S83.out ?_
          clear hK K
          subst hfr82
          refine wpAnyH_frame fun fr84 hfr84 => ?_
          refine wpAnyH_one 10 _ (by kernel_rfl) rfl fun K hK => ?_
          refine step_slice_blk rfl _ _ 2 _ rfl Tryd.underlying93 ([.int .u64 a.file, .int .u64 a.siz] : List Value) (by rw [hfr84]; kernel_rfl) ?_
          intro g85 wt85 qa qb Y85 L85
          have S85 := Lib.hid (S83.out.over L85.out)
          have b85 := Lib.hid (step b83.out L85.out)
          have mM_85 := Lib.hid (mM_83.out.over L85.out)
          have kK_85 := Lib.hid (kK_83.out.over L85.out)
          have nE_85 := Lib.hid (nE_83.out.over L85.out)
          have u2_85 := Lib.hid (Y83.out.over L85.out)
          refine hK _ _ S85.out ?_
          clear hK K
          subst hfr84
          refine wpAnyH_one 11 _ (by kernel_rfl) rfl fun K hK => ?_
          go_simp
          refine (CF16.out _ _ Y85.out).mono ?_
          rintro e wt86 ⟨A86, c86, rfl, ⟨_, hY86⟩, L086⟩
          have Y86 := Lib.hid hY86
          have L86 := Lib.hid L086
          clear hY86 L086
          have S86 := Lib.hid (S85.out.over L86.out)
          have b86 := Lib.hid (step b85.out L86.out)
          have mM_86 := Lib.hid (mM_85.out.over L86.out)
          have kK_86 := Lib.hid (kK_85.out.over L86.out)
          have nE_86 := Lib.hid (nE_85.out.over L86.out)
          have u2_86 := Lib.hid (u2_85.out.over L86.out)
          refine hK _ _ S86.out ?_
          clear hK K
          refine wpAnyH_frame fun fr87 hfr87 => ?_
          refine wpAnyH_one 14 _ (by kernel_rfl) rfl fun K hK => ?_
          refine step_slice_blk rfl _ _ 5 _ rfl Tryd.underlying96 ([.slice (some ⟨g83, 0, none⟩) 2 2, .slice Ap 2 cp, .slice A86 16 c86, .slice Aq 2 cq, .slice (some ⟨wc.drew.heap.size, 0, none⟩) 2 2] : List Value) (by rw [hfr87]; kernel_rfl) ?_
          intro g88 wt88 qa qb Y088 L88
          have Y88 : Hid (Parts wt88 g88 5 (partA [((some ⟨g83, 0, none⟩), 2, 2, [a.lev, a.dur]), (Ap, 2, cp, m2), (A86, 16, c86, fs), (Aq, 2, cq, k2), ((some ⟨wc.drew.heap.size, 0, none⟩), 2, 2, List.replicate 2 0)]) (partN [((some ⟨g83, 0, none⟩), 2, 2, [a.lev, a.dur]), (Ap, 2, cp, m2), (A86, 16, c86, fs), (Aq, 2, cq, k2), ((some ⟨wc.drew.heap.size, 0, none⟩), 2, 2, List.replicate 2 0)]) (partC [((some ⟨g83, 0, none⟩), 2, 2, [a.lev, a.dur]), (Ap, 2, cp, m2), (A86, 16, c86, fs), (Aq, 2, cq, k2), ((some ⟨wc.drew.heap.size, 0, none⟩), 2, 2, List.replicate 2 0)]) (partX [((some ⟨g83, 0, none⟩), 2, 2, [a.lev, a.dur]), (Ap, 2, cp, m2), (A86, 16, c86, fs), (Aq, 2, cq, k2), ((some ⟨wc.drew.heap.size, 0, none⟩), 2, 2, List.replicate 2 0)])) := Parts.of_blk [((some ⟨g83, 0, none⟩), 2, 2, [a.lev, a.dur]), (Ap, 2, cp, m2), (A86, 16, c86, fs), (Aq, 2, cq, k2), ((some ⟨wc.drew.heap.size, 0, none⟩), 2, 2, List.replicate 2 0)] Y088.out (List.forall_mem_cons.2 ⟨u2_86.out.over L88.out, List.forall_mem_cons.2 ⟨mM_86.out.over L88.out, List.forall_mem_cons.2 ⟨Y86.out.over L88.out, List.forall_mem_cons.2 ⟨kK_86.out.over L88.out, List.forall_mem_cons.2 ⟨nE_86.out.over L88.out, fun _ h => by cases h⟩⟩⟩⟩⟩)
          clear Y088
          have S88 := Lib.hid (S86.out.over L88.out)
          have b88 := Lib.hid (step b86.out L88.out)
          refine hK _ _ S88.out ?_
          clear hK K
          subst hfr87
          refine wpAnyH_one 15 _ (by kernel_rfl) rfl fun K hK => ?_
          go_simp
          refine (CC.out _ g88 5 _ _ _ _ Y88.out (by omega) (by show 0 + 2 + 2 + 16 + 2 + 2 ≤ _; omega)).mono ?_
          rintro e wt89 ⟨v, rfl, hY89, L089⟩
          have OUT := Lib.hid hY89
          have L89 := Lib.hid L089
          clear hY89 L089
          have hsz0 := b88.out.size
          have S89 := Lib.hid (S88.out.over L89.out)
          have b89 := Lib.hid (step b88.out L89.out)
          refine hK _ _ S89.out ?_
          clear hK K
          refine wpAnyH_one 16 _ (by kernel_rfl) rfl fun K hK => ?_
          go_simp
          refine hK _ _ S89.out ?_
          clear hK K
          refine wpAnyH_one 17 _ (by kernel_rfl) rfl fun K hK => ?_
          go_simp
          refine hK _ _ S89.out ?_
          clear hK K
          refine wpAnyH_done (by kernel_rfl) ?_ _
          have HO6 := Lib.hid (OwnZ.mono OUT.out (Nat.le_trans (hsz0) (Nat.le_refl _)))
          go_wp2
          go_ret2
          refine HQ.out _ _ _ rfl ?_ b89.out
          have h9 := HO6.out
          simpa [catL, partX, List.append_assoc] using h9
        · skip
          refine step_slice_blk rfl _ _ 2 _ rfl Tryd.underlying93 ([.int .u64 a.file, .int .u64 a.siz] : List Value) (by rw [hfr82]; kernel_rfl) ?_
          intro g92 wt92 qa qb Y92 L92
          have S92 := Lib.hid (S81.out.over L92.out)
          have b92 := Lib.hid (step b81.out L92.out)
          have mM_92 := Lib.hid (mM_81.out.over L92.out)
          have kK_92 := Lib.hid (kK_81.out.over L92.out)
          have nE_92 := Lib.hid (Y81.out.over L92.out)
          refine hK _ _ S92.out ?_
          clear hK K
          subst hfr82
          refine wpAnyH_frame fun fr93 hfr93 => ?_
          refine wpAnyH_two 4 11 _ _ (by kernel_rfl) rfl rfl (fun K hK => ?_) (fun K hK => ?_)
          · skip
            refine step_slice_blk rfl _ _ 2 _ rfl Tryd.underlying29 ([.int .u8 a.lev, .int .u8 a.dur] : List Value) (by rw [hfr93]; kernel_rfl) ?_
            intro g94 wt94 qa qb Y094 L94
            have Y94 := Lib.hid (Holds.of_lit (xs := [a.lev, a.dur]) Y094.out HLD.out)
            clear Y094
            have S94 := Lib.hid (S92.out.over L94.out)
            have b94 := Lib.hid (step b92.out L94.out)
            have mM_94 := Lib.hid (mM_92.out.over L94.out)
            have kK_94 := Lib.hid (kK_92.out.over L94.out)
            have nE_94 := Lib.hid (nE_92.out.over L94.out)
            have lA_94 := Lib.hid (Y92.out.over L94.out)
            refine hK _ _ S94.out ?_
            clear hK K
            subst hfr93
            refine wpAnyH_one 11 _ (by kernel_rfl) rfl fun K hK => ?_
            go_simp
            refine (CF16.out _ _ lA_94.out).mono ?_
            rintro e wt95 ⟨A95, c95, rfl, ⟨_, hY95⟩, L095⟩
            have Y95 := Lib.hid hY95
            have L95 := Lib.hid L095
            clear hY95 L095
            have S95 := Lib.hid (S94.out.over L95.out)
            have b95 := Lib.hid (step b94.out L95.out)
            have mM_95 := Lib.hid (mM_94.out.over L95.out)
            have kK_95 := Lib.hid (kK_94.out.over L95.out)
            have nE_95 := Lib.hid (nE_94.out.over L95.out)
            have u2_95 := Lib.hid (Y94.out.over L95.out)
            refine hK _ _ S95.out ?_
            clear hK K
            refine wpAnyH_frame fun fr96 hfr96 => ?_
            refine wpAnyH_one 14 _ (by kernel_rfl) rfl fun K hK => ?_
            refine step_slice_blk rfl _ _ 5 _ rfl Tryd.underlying96 ([.slice (some ⟨g94, 0, none⟩) 2 2, .slice Ap 2 cp, .slice A95 16 c95, .slice Aq 2 cq, .slice (some ⟨wc.drew.heap.size, 0, none⟩) 2 2] : List Value) (by rw [hfr96]; kernel_rfl) ?_
            intro g97 wt97 qa qb Y097 L97
            have Y97 : Hid (Parts wt97 g97 5 (partA [((some ⟨g94, 0, none⟩), 2, 2, [a.lev, a.dur]), (Ap, 2, cp, m2), (A95, 16, c95, fs), (Aq, 2, cq, k2), ((some ⟨wc.drew.heap.size, 0, none⟩), 2, 2, List.replicate 2 0)]) (partN [((some ⟨g94, 0, none⟩), 2, 2, [a.lev, a.dur]), (Ap, 2, cp, m2), (A95, 16, c95, fs), (Aq, 2, cq, k2), ((some ⟨wc.drew.heap.size, 0, none⟩), 2, 2, List.replicate 2 0)]) (partC [((some ⟨g94, 0, none⟩), 2, 2, [a.lev, a.dur]), (Ap, 2, cp, m2), (A95, 16, c95, fs), (Aq, 2, cq, k2), ((some ⟨wc.drew.heap.size, 0, none⟩), 2, 2, List.replicate 2 0)]) (partX [((some ⟨g94, 0, none⟩), 2, 2, [a.lev, a.dur]), (Ap, 2, cp, m2), (A95, 16, c95, fs), (Aq, 2, cq, k2), ((some ⟨wc.drew.heap.size, 0, none⟩), 2, 2, List.replicate 2 0)])) := Parts.of_blk [((some ⟨g94, 0, none⟩), 2, 2, [a.lev, a.dur]), (Ap, 2, cp, m2), (A95, 16, c95, fs), (Aq, 2, cq, k2), ((some ⟨wc.drew.heap.size, 0, none⟩), 2, 2, List.replicate 2 0)] Y097.out (List.forall_mem_cons.2 ⟨u2_95.out.over L97.out, List.forall_mem_cons.2 ⟨mM_95.out.over L97.out, List.forall_mem_cons.2 ⟨Y95.out.over L97.out, List.forall_mem_cons.2 ⟨kK_95.out.over L97.out, List.forall_mem_cons.2 ⟨nE_95.out.over L97.out, fun _ h => by cases h⟩⟩⟩⟩⟩)
            clear Y097
            have S97 := Lib.hid (S95.out.over L97.out)
            have b97 := Lib.hid (step b95.out L97.out)
            refine hK _ _ S97.out ?_
            clear hK K
            subst hfr96
            refine wpAnyH_one 15 _ (by kernel_rfl) rfl fun K hK => ?_
            go_simp
            refine (CC.out _ g97 5 _ _ _ _ Y97.out (by omega) (by show 0 + 2 + 2 + 16 + 2 + 2 ≤ _; omega)).mono ?_
            rintro e wt98 ⟨v, rfl, hY98, L098⟩
            have OUT := Lib.hid hY98
            have L98 := Lib.hid L098
            clear hY98 L098
            have hsz0 := b97.out.size
            have S98 := Lib.hid (S97.out.over L98.out)
            have b98 := Lib.hid (step b97.out L98.out)
            refine hK _ _ S98.out ?_
            clear hK K
            refine wpAnyH_one 16 _ (by kernel_rfl) rfl fun K hK => ?_
            go_simp
            refine hK _ _ S98.out ?_
            clear hK K
            refine wpAnyH_one 17 _ (by kernel_rfl) rfl fun K hK => ?_
            go_simp
            refine hK _ _ S98.out ?_
            clear hK K
            refine wpAnyH_done (by kernel_rfl) ?_ _
            have HO6 := Lib.hid (OwnZ.mono OUT.out (Nat.le_trans (hsz0) (Nat.le_refl _)))
            go_wp2
            go_ret2
            refine HQ.out _ _ _ rfl ?_ b98.out
            have h9 := HO6.out
            simpa [catL, partX, List.append_assoc] using h9
          · skip
            subst hfr93
            go_simp
            refine (CF16.out _ _ Y92.out).mono ?_
            rintro e wt101 ⟨A101, c101, rfl, ⟨_, hY101⟩, L0101⟩
            have Y101 := Lib.hid hY101
            have L101 := Lib.hid L0101
            clear hY101 L0101
            have S101 := Lib.hid (S92.out.over L101.out)
            have b101 := Lib.hid (step b92.out L101.out)
            have mM_101 := Lib.hid (mM_92.out.over L101.out)
            have kK_101 := Lib.hid (kK_92.out.over L101.out)
            have nE_101 := Lib.hid (nE_92.out.over L101.out)
            refine hK _ _ S101.out ?_
            clear hK K
            refine wpAnyH_frame fun fr102 hfr102 => ?_
            refine wpAnyH_one 4 _ (by kernel_rfl) rfl fun K hK => ?_
            refine step_slice_blk rfl _ _ 2 _ rfl Tryd.underlying29 ([.int .u8 a.lev, .int .u8 a.dur] : List Value) (by rw [hfr102]; kernel_rfl) ?_
            intro g103 wt103 qa qb Y0103 L103
            have Y103 := Lib.hid (Holds.of_lit (xs := [a.lev, a.dur]) Y0103.out HLD.out)
            clear Y0103
            have S103 := Lib.hid (S101.out.over L103.out)
            have b103 := Lib.hid (step b101.out L103.out)
            have mM_103 := Lib.hid (mM_101.out.over L103.out)
            have kK_103 := Lib.hid (kK_101.out.over L103.out)
            have nE_103 := Lib.hid (nE_101.out.over L103.out)
            have xA_103 := Lib.hid (Y101.out.over L103.out)
            refine hK _ _ S103.out ?_
            clear hK K
            subst hfr102
            refine wpAnyH_frame fun fr104 hfr104 => ?_
            refine wpAnyH_one 14 _ (by kernel_rfl) rfl fun K hK => ?_
            refine step_slice_blk rfl _ _ 5 _ rfl Tryd.underlying96 ([.slice (some ⟨g103, 0, none⟩) 2 2, .slice Ap 2 cp, .slice A101 16 c101, .slice Aq 2 cq, .slice (some ⟨wc.drew.heap.size, 0, none⟩) 2 2] : List Value) (by rw [hfr104]; kernel_rfl) ?_
            intro g105 wt105 qa qb Y0105 L105
            have Y105 : Hid (Parts wt105 g105 5 (partA [((some ⟨g103, 0, none⟩), 2, 2, [a.lev, a.dur]), (Ap, 2, cp, m2), (A101, 16, c101, fs), (Aq, 2, cq, k2), ((some ⟨wc.drew.heap.size, 0, none⟩), 2, 2, List.replicate 2 0)]) (partN [((some ⟨g103, 0, none⟩), 2, 2, [a.lev, a.dur]), (Ap, 2, cp, m2), (A101, 16, c101, fs), (Aq, 2, cq, k2), ((some ⟨wc.drew.heap.size, 0, none⟩), 2, 2, List.replicate 2 0)]) (partC [((some ⟨g103, 0, none⟩), 2, 2, [a.lev, a.dur]), (Ap, 2, cp, m2), (A101, 16, c101, fs), (Aq, 2, cq, k2), ((some ⟨wc.drew.heap.size, 0, none⟩), 2, 2, List.replicate 2 0)]) (partX [((some ⟨g103, 0, none⟩), 2, 2, [a.lev, a.dur]), (Ap, 2, cp, m2), (A101, 16, c101, fs), (Aq, 2, cq, k2), ((some ⟨wc.drew.heap.size, 0, none⟩), 2, 2, List.replicate 2 0)])) := Parts.of_blk [((some ⟨g103, 0, none⟩), 2, 2, [a.lev, a.dur]), (Ap, 2, cp, m2), (A101, 16, c101, fs), (Aq, 2, cq, k2), ((some ⟨wc.drew.heap.size, 0, none⟩), 2, 2, List.replicate 2 0)] Y0105.out (List.forall_mem_cons.2 ⟨Y103.out.over L105.out, List.forall_mem_cons.2 ⟨mM_103.out.over L105.out, List.forall_mem_cons.2 ⟨xA_103.out.over L105.out, List.forall_mem_cons.2 ⟨kK_103.out.over L105.out, List.forall_mem_cons.2 ⟨nE_103.out.over L105.out, fun _ h => by cases h⟩⟩⟩⟩⟩)
            clear Y0105
            have S105 := Lib.hid (S103.out.over L105.out)
            have b105 := Lib.hid (step b103.out L105.out)
            refine hK _ _ S105.out ?_
            clear hK K
            subst hfr104
            refine wpAnyH_one 15 _ (by kernel_rfl) rfl fun K hK => ?_
            go_simp
            refine (CC.out _ g105 5 _ _ _ _ Y105.out (by omega) (by show 0 + 2 + 2 + 16 + 2 + 2 ≤ _; omega)).mono ?_
            rintro e wt106 ⟨v, rfl, hY106, L0106⟩
            have OUT := Lib.hid hY106
            have L106 := Lib.hid L0106
            clear hY106 L0106
            have hsz0 := b105.out.size
            have S106 := Lib.hid (S105.out.over L106.out)
            have b106 := Lib.hid (step b105.out L106.out)
            refine hK _ _ S106.out ?_
            clear hK K
            refine wpAnyH_one 16 _ (by kernel_rfl) rfl fun K hK => ?_
            go_simp
            refine hK _ _ S106.out ?_
            clear hK K
            refine wpAnyH_one 17 _ (by kernel_rfl) rfl fun K hK => ?_
            go_simp
            refine hK _ _ S106.out ?_
            clear hK K
            refine wpAnyH_done (by kernel_rfl) ?_ _
            have HO6 := Lib.hid (OwnZ.mono OUT.out (Nat.le_trans (hsz0) (Nat.le_refl _)))
            go_wp2
            go_ret2
            refine HQ.out _ _ _ rfl ?_ b106.out
            have h9 := HO6.out
            simpa [catL, partX, List.append_assoc] using h9
  · subst h6
    have HQ := HQ0
    have hb0 : bodyFS 6 a = List.replicate 4 0 := rfl
    rw [hb0] at HQ
    clear HQ0 hb0
    go_enter Tryd.func18, Tryd.ntmps18
    go_wp2_with (first
      | ((with_reducible show wpList _ _ _ (⟨some 3, _, _, _, _, _⟩ :: _) _ _); refine wpList_box_blk rfl _ (.tmp 1) rfl cs rfl ?_; intro g w1 hg1 hg2 K1 L1)
      | ((with_reducible show wpList _ _ _ (⟨some 9, _, _, _, _, _⟩ :: _) _ _); refine wpList_load_blk rfl _ (.tmp 3) rfl g rfl _ cs K1 20 _ Tryd.underlying45 rfl size_say HL ?_)
      | fail)
    refine (CN.out w1 L1.out).mono ?_
    rintro e w2 ⟨rfl, L2⟩
    have K2 := Lib.hid (K1.out.over L2)
    have M2' := Lib.hid (step L1.out L2)
    obtain ⟨c15, c12, c14⟩ := FL.out w2 g K2.out
    clear L2 K1 L1 CN
    go_wp2_with (at_make; refine wpList_make_bytes _ rfl _ _ rfl _ _ 4 rfl rfl rfl rfl (by omega) ?_; intro w6 R6 L6)
    go_ret2
    exact HQ.out _ _ _ rfl (row_zerosB R6.out M2'.out.size (by omega)) (step M2'.out L6)
  · subst h7
    have HQ := HQ0
    have hb0 : bodyFS 7 a = List.replicate 4 0 := rfl
    rw [hb0] at HQ
    clear HQ0 hb0
    go_enter Tryd.func18, Tryd.ntmps18
    go_wp2_with (first
      | ((with_reducible show wpList _ _ _ (⟨some 3, _, _, _, _, _⟩ :: _) _ _); refine wpList_box_blk rfl _ (.tmp 1) rfl cs rfl ?_; intro g w1 hg1 hg2 K1 L1)
      | ((with_reducible show wpList _ _ _ (⟨some 9, _, _, _, _, _⟩ :: _) _ _); refine wpList_load_blk rfl _ (.tmp 3) rfl g rfl _ cs K1 20 _ Tryd.underlying45 rfl size_say HL ?_)
      | fail)
    refine (CN.out w1 L1.out).mono ?_
    rintro e w2 ⟨rfl, L2⟩
    have K2 := Lib.hid (K1.out.over L2)
    have M2' := Lib.hid (step L1.out L2)
    obtain ⟨c15, c12, c14⟩ := FL.out w2 g K2.out
    clear L2 K1 L1 CN
    go_wp2_with (at_make; refine wpList_make_bytes _ rfl _ _ rfl _ _ 4 rfl rfl rfl rfl (by omega) ?_; intro w6 R6 L6)
    go_ret2
    exact HQ.out _ _ _ rfl (row_zerosB R6.out M2'.out.size (by omega)) (step M2'.out L6)
  · subst h8
    have HQ := HQ0
    have hb0 : bodyFS 8 a = le (X2 : Int) 4 ++ a.data := by unfold bodyFS; rw [if_neg (by decide), if_pos rfl, HX.out.len]
    rw [hb0] at HQ
    have CN4 : Hid (∀ (w : World) (gl : Nat), Blk w gl 28 [.int .u64 (X2 : Int)] → Calls Tryd.prog 33 #[.int .i64 4, .slice (some ⟨gl, 0, none⟩) 1 1] w fun e w' => ∃ A' c', e = .returned (.slice A' 4 c') ∧ (OwnZ .u8 5 w' w.heap.size (.slice A' 4 c') (le (X2 : Int) 4) ∧ Holds w' w'.heap.size A' 4 c' (le (X2 : Int) 4)) ∧ Below w.heap.size w w') := fun w gl hB => by
      have h := nums_at w gl 1 4 ([(X2 : Int)] : List Int) hB rfl (by decide) (by decide) (fun z hz => by
        rw [show (256 : Int) ^ 4 = 4294967296 from by decide]
        simp only [List.mem_cons, List.not_mem_nil, or_false] at hz
        rw [hz]; omega)
      have e1 : numsB 4 ([(X2 : Int)] : List Int) = le (X2 : Int) 4 := by simp [numsB]
      rw [e1] at h
      have e2 : (le (X2 : Int) 4).length = 4 := by simp [le_length]
      rw [e2] at h
      exact h
    obtain ⟨n4, hn4⟩ : ∃ x, x = le (X2 : Int) 4 := ⟨_, rfl⟩
    rw [← hn4] at CN4 HQ
    clear hn4 HQ0 hb0
    go_enter Tryd.func18, Tryd.ntmps18
    go_wp2_with (first
      | ((with_reducible show wpList _ _ _ (⟨some 3, _, _, _, _, _⟩ :: _) _ _); refine wpList_box_blk rfl _ (.tmp 1) rfl cs rfl ?_; intro g w1 hg1 hg2 K1 L1)
      | ((with_reducible show wpList _ _ _ (⟨some 9, _, _, _, _, _⟩ :: _) _ _); refine wpList_load_blk rfl _ (.tmp 3) rfl g rfl _ cs K1 20 _ Tryd.underlying45 rfl size_say HL ?_)
      | fail)
    refine (CN.out w1 L1.out).mono ?_
    rintro e w2 ⟨rfl, L2⟩
    have K2 := Lib.hid (K1.out.over L2)
    have M2' := Lib.hid (step L1.out L2)
    obtain ⟨c15, c12, c14⟩ := FL.out w2 g K2.out
    clear L2 K1 L1 CN
    have HXD := Lib.hid (HX.out.over M2'.out)
    go_upto_region 10 with fail
    refine wp_region_held (S := fun w' => Blk w' g 45 cs) (by kernel_rfl) ?_
    change wpAnyH _ _ _ _ _ _ _ _ w2.drew
    have S0 : Hid (Blk w2.drew g 45 cs) := K2.out.drew
    have b0 : Hid (Below w.heap.size w w2.drew) := M2'.out.drew
    have HD_0 := Lib.hid (HXD.out.drew)
    refine wpAnyH_take (i := 0) (v := _) rfl (by kernel_rfl) (by kernel_rfl) (by kernel_rfl) (fun _ _ _ h => h) (yieldsIf_fld (by kernel_rfl) _ (.tmp 3) 8 rfl (.pointer (some ⟨g, 0, none⟩)) (.pointer (some ⟨g, 15, none⟩)) (by kernel_rfl) (fld_isZeroSay_8 g)) S0.out ?_
    refine wpAnyH_take (i := 1) (v := _) rfl (by kernel_rfl) (by kernel_rfl) (by kernel_rfl) (fun _ _ _ h => h) (yieldsIf_load_one (by kernel_rfl) _ (.tmp 57) rfl g 15 (by kernel_rfl) (.slice X1 X2 X3) (fun w h => (FL.out w g h).1) _ Tryd.underlying29 rfl) S0.out ?_
    refine wpAnyH_take (i := 2) (v := (.int .i64 (X2 : Int))) rfl (by kernel_rfl) (by kernel_rfl) (by kernel_rfl) (fun _ _ _ h => h) (.inl ⟨by kernel_rfl, fun w _ => by go_simp⟩) S0.out ?_
    refine wpAnyH_take (i := 3) (v := (.int .u64 (X2 : Int))) rfl (by kernel_rfl) (by kernel_rfl) (by kernel_rfl) (fun _ _ _ h => h) (.inl ⟨by kernel_rfl, fun w _ => by go_simp⟩) S0.out ?_
    refine wpAnyH_take (i := 6) (v := _) rfl (by kernel_rfl) (by kernel_rfl) (by kernel_rfl) (fun _ _ _ h => h) (yieldsIf_fld (by kernel_rfl) _ (.tmp 3) 8 rfl (.pointer (some ⟨g, 0, none⟩)) (.pointer (some ⟨g, 15, none⟩)) (by kernel_rfl) (fld_isZeroSay_8 g)) S0.out ?_
    refine wpAnyH_take (i := 7) (v := _) rfl (by kernel_rfl) (by kernel_rfl) (by kernel_rfl) (fun _ _ _ h => h) (yieldsIf_load_one (by kernel_rfl) _ (.tmp 63) rfl g 15 (by kernel_rfl) (.slice X1 X2 X3) (fun w h => (FL.out w g h).1) _ Tryd.underlying29 rfl) S0.out ?_
    refine wpAnyH_frame fun fr1 hfr1 => ?_
    refine wpAnyH_one 4 _ (by kernel_rfl) rfl fun K hK => ?_
    refine step_slice_blk rfl _ _ 1 _ rfl Tryd.underlying93 ([.int .u64 (X2 : Int)] : List Value) (by rw [hfr1]; kernel_rfl) ?_
    intro g2 wt2 qa qb Y2 L2
    have S2 := Lib.hid (S0.out.over L2.out)
    have b2 := Lib.hid (step b0.out L2.out)
    have HD_2 := Lib.hid (HD_0.out.over L2.out)
    refine hK _ _ S2.out ?_
    clear hK K
    subst hfr1
    refine wpAnyH_one 5 _ (by kernel_rfl) rfl fun K hK => ?_
    go_simp
    refine (CN4.out _ _ Y2.out).mono ?_
    rintro e wt3 ⟨A3, c3, rfl, ⟨_, hY3⟩, L03⟩
    have Y3 := Lib.hid hY3
    have L3 := Lib.hid L03
    clear hY3 L03
    have S3 := Lib.hid (S2.out.over L3.out)
    have b3 := Lib.hid (step b2.out L3.out)
    have HD_3 := Lib.hid (HD_2.out.over L3.out)
    refine hK _ _ S3.out ?_
    clear hK K
    refine wpAnyH_frame fun fr4 hfr4 => ?_
    refine wpAnyH_one 8 _ (by kernel_rfl) rfl fun K hK => ?_
    refine step_slice_blk rfl _ _ 2 _ rfl Tryd.underlying96 ([.slice A3 4 c3, .slice X1 X2 X3] : List Value) (by rw [hfr4]; kernel_rfl) ?_
    intro g5 wt5 qa qb Y05 L5
    have Y5 : Hid (Parts wt5 g5 2 (partA [(A3, 4, c3, n4), (X1, X2, X3, a.data)]) (partN [(A3, 4, c3, n4), (X1, X2, X3, a.data)]) (partC [(A3, 4, c3, n4), (X1, X2, X3, a.data)]) (partX [(A3, 4, c3, n4), (X1, X2, X3, a.data)])) := Parts.of_blk [(A3, 4, c3, n4), (X1, X2, X3, a.data)] Y05.out (List.forall_mem_cons.2 ⟨Y3.out.over L5.out, List.forall_mem_cons.2 ⟨HD_3.out.over L5.out, fun _ h => by cases h⟩⟩)
    clear Y05
    have S5 := Lib.hid (S3.out.over L5.out)
    have b5 := Lib.hid (step b3.out L5.out)
    refine hK _ _ S5.out ?_
    clear hK K
    subst hfr4
    refine wpAnyH_one 9 _ (by kernel_rfl) rfl fun K hK => ?_
    go_simp
    refine (CC.out _ g5 2 _ _ _ _ Y5.out (by omega) (by show 0 + 4 + X2 ≤ _; omega)).mono ?_
    rintro e wt6 ⟨v, rfl, hY6, L06⟩
    have OUT := Lib.hid hY6
    have L6 := Lib.hid L06
    clear hY6 L06
    have hsz0 := b5.out.size
    have S6 := Lib.hid (S5.out.over L6.out)
    have b6 := Lib.hid (step b5.out L6.out)
    refine hK _ _ S6.out ?_
    clear hK K
    refine wpAnyH_one 10 _ (by kernel_rfl) rfl fun K hK => ?_
    go_simp
    refine hK _ _ S6.out ?_
    clear hK K
    refine wpAnyH_one 11 _ (by kernel_rfl) rfl fun K hK => ?_
    go_simp
    refine hK _ _ S6.out ?_
    clear hK K
    refine wpAnyH_done (by kernel_rfl) ?_ _
    have HO6 := Lib.hid (OwnZ.mono OUT.out (Nat.le_trans (hsz0) (Nat.le_refl _)))
    go_wp2
    go_ret2
    refine HQ.out _ _ _ rfl ?_ b6.out
    have h9 := HO6.out
    simpa [catL, partX, List.append_assoc] using h9
  · subst h9
    have HQ := HQ0
    have hb0 : bodyFS 9 a = le a.n 4 := rfl
    rw [hb0] at HQ
    have CN4 : Hid (∀ (w : World) (gl : Nat), Blk w gl 28 [.int .u64 a.n] → Calls Tryd.prog 33 #[.int .i64 4, .slice (some ⟨gl, 0, none⟩) 1 1] w fun e w' => ∃ A' c', e = .returned (.slice A' 4 c') ∧ (OwnZ .u8 5 w' w.heap.size (.slice A' 4 c') (le a.n 4) ∧ Holds w' w'.heap.size A' 4 c' (le a.n 4)) ∧ Below w.heap.size w w') := fun w gl hB => by
      have h := nums_at w gl 1 4 ([a.n] : List Int) hB rfl (by decide) (by decide) (fun z hz => by
        rw [show (256 : Int) ^ 4 = 4294967296 from by decide]
        simp only [List.mem_cons, List.not_mem_nil, or_false] at hz
        rw [hz]; omega)
      have e1 : numsB 4 ([a.n] : List Int) = le a.n 4 := by simp [numsB]
      rw [e1] at h
      have e2 : (le a.n 4).length = 4 := by simp [le_length]
      rw [e2] at h
      exact h
    obtain ⟨n4, hn4⟩ : ∃ x, x = le a.n 4 := ⟨_, rfl⟩
    rw [← hn4] at CN4 HQ
    clear hn4 HQ0 hb0
    go_enter Tryd.func18, Tryd.ntmps18
    go_wp2_with (first
      | ((with_reducible show wpList _ _ _ (⟨some 3, _, _, _, _, _⟩ :: _) _ _); refine wpList_box_blk rfl _ (.tmp 1) rfl cs rfl ?_; intro g w1 hg1 hg2 K1 L1)
      | ((with_reducible show wpList _ _ _ (⟨some 9, _, _, _, _, _⟩ :: _) _ _); refine wpList_load_blk rfl _ (.tmp 3) rfl g rfl _ cs K1 20 _ Tryd.underlying45 rfl size_say HL ?_)
      | fail)
    refine (CN.out w1 L1.out).mono ?_
    rintro e w2 ⟨rfl, L2⟩
    have K2 := Lib.hid (K1.out.over L2)
    have M2' := Lib.hid (step L1.out L2)
    obtain ⟨c15, c12, c14⟩ := FL.out w2 g K2.out
    clear L2 K1 L1 CN
    obtain ⟨e1, e10, e11, e12, e13, e14, e16⟩ := FC.out w2 g K2.out
    go_wp2_with (first
      | ((with_reducible show wpList _ _ _ (⟨some 72, _, _, _, _, _⟩ :: _) _ _); refine wpList_slice_blk rfl _ _ 1 _ rfl Tryd.underlying93 ([.int .u64 a.n] : List Value) (by kernel_rfl) ?_; intro g3 w3 hg5 hg6 Y3 L3)
      | fail)
    refine (CN4.out w3 g3 Y3.out).mono ?_
    rintro e w4 ⟨Af, cf, rfl, ⟨hOf, hHf⟩, L4⟩
    have OF := Lib.hid (OwnZ.mono hOf (Nat.le_trans M2'.out.size L3.out.size))
    have M4 := Lib.hid (step (step M2'.out L3.out) L4)
    clear hOf hHf L4 L3 Y3
    go_wp2
    go_ret2
    exact HQ.out _ _ _ rfl OF.out M4.out
  · subst h10
    have HQ := HQ0
    have hb0 : bodyFS 10 a = List.replicate 4 0 := rfl
    rw [hb0] at HQ
    clear HQ0 hb0
    go_enter Tryd.func18, Tryd.ntmps18
    go_wp2_with (first
      | ((with_reducible show wpList _ _ _ (⟨some 3, _, _, _, _, _⟩ :: _) _ _); refine wpList_box_blk rfl _ (.tmp 1) rfl cs rfl ?_; intro g w1 hg1 hg2 K1 L1)
      | ((with_reducible show wpList _ _ _ (⟨some 9, _, _, _, _, _⟩ :: _) _ _); refine wpList_load_blk rfl _ (.tmp 3) rfl g rfl _ cs K1 20 _ Tryd.underlying45 rfl size_say HL ?_)
      | fail)
    refine (CN.out w1 L1.out).mono ?_
    rintro e w2 ⟨rfl, L2⟩
    have K2 := Lib.hid (K1.out.over L2)
    have M2' := Lib.hid (step L1.out L2)
    obtain ⟨c15, c12, c14⟩ := FL.out w2 g K2.out
    clear L2 K1 L1 CN
    go_wp2_with (at_make; refine wpList_make_bytes _ rfl _ _ rfl _ _ 4 rfl rfl rfl rfl (by omega) ?_; intro w6 R6 L6)
    go_ret2
    exact HQ.out _ _ _ rfl (row_zerosB R6.out M2'.out.size (by omega)) (step M2'.out L6)
end Go.Proofs.YtdlcjobahdmapaaDoor
