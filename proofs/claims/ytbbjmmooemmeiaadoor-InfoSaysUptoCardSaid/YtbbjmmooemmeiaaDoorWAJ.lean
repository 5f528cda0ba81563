import Derived.WalkKit
import Derived.Deep.Draws
import Derived.Laws.Rows
import Derived.Laws.OwnMore
import Derived.Test.YtbbjmmooemmeiaaDoorRows
import Derived.Laws.CopyOwn
import Derived.Laws.AppendOwnNone
import Derived.Lib.Hide
import Derived.Laws.AppendOwn
import Derived.OwnWalk
import Derived.Lib.OthersKept
import Derived.Laws.BytesArg
import Derived.Laws.Tables
import Derived.Laws.NewFold
import Derived.Deep.WholeRow
import Derived.Deep.DeepCutAuto
import Derived.OneCell
import Derived.ProofKit
import Derived.OpenShut
import Derived.ShutString
import Derived.SizedLaws
import Derived.ChangeOld
import Derived.Deep.Strs
import Derived.Deep.MidRow
import Derived.Great.Walk
import Derived.OrdersHeld
import Derived.Laws.StructEq
import Derived.ChangeKeysEq
import Derived.Laws.Bits64
import Derived.Laws.BitsAllLaws
import Derived.WalkSpells
import Derived.WalkLawsBesides
import Derived.Deep.QuietTactic
import Derived.BigQuiet
import Derived.Lib.RuneBytes
import Derived.Lib.ValidLaws
import Derived.Shelf.Utf8.AppendRunePlain
import Derived.Shelf.Unicode.ValidAny
import Derived.Test.YtbbjmmooemmeiaaDoorProg
import Derived.Deep.RegionLaw
import Derived.Lib.AppendZeros
import Derived.Deep.RegionWith
import Derived.Deep.OwnRows
import Derived.Test.YtbbjmmooemmeiaaDoorWAD
import Derived.Test.YtbbjmmooemmeiaaDoorWAF
import Derived.Test.YtbbjmmooemmeiaaDoorWAG
namespace Go.Proofs.YtbbjmmooemmeiaaDoor
set_option linter.all false
open Go.RowKit
section
variable {w w' : World} {B B' g : Nat} {T : TypeId} {cs : List Value} {a : AskV} {s : SayV} {vd vx vl ve : Value}
theorem scells_get (k : s.ok) (i : Nat) : (scells vx ve s)[10 + i]? = (stail vx ve s)[i]? := by
  unfold scells
  rw [show 10 + i = (8 + i) + 1 + 1 from by omega, List.getElem?_cons_succ, List.getElem?_cons_succ, List.getElem?_append_right (by rw [List.length_map, k.clen]; omega), List.length_map, k.clen]
  congr 1
  omega
end
end Go.Proofs.YtbbjmmooemmeiaaDoor

namespace Go.Proofs.YtbbjmmooemmeiaaDoor
set_option linter.all false
open Go.RowKit
set_option linter.unusedVariables false
theorem wpList_load_midu {P : Program} {ops : Array Oper} {rest : List Oper} {o : Oper} {a : Act} {w : World} {Q : Exit → Act → World → Prop} (hg : o.guard = none) (ty : TypeId) (x : Operand) (ho : o.op = .load ty x)
    (b i : Nat) (hx : a.eval x = .pointer (some ⟨b, i, none⟩)) (cs : List Value) (d : TypeDesc) (hc : Hid (w.rangeAt b i cs)) (hu : P.underlying ty = some d) (hd : d.isRow = true) (n : Nat) (hi : (P.info? ty).map (·.size) = some n) (hn : Hid (cs.length = n))
    (h : wpList P ops Q rest (a.put o.dst (.agg cs.toArray)) w) : wpList P ops Q (o :: rest) a w :=
  wpList_load_mid hg ty x ho b i hx cs d hc.out hu hd (by rw [hi, hn.out]) h
theorem size_chal : (Tryd.prog.info? 41).map (·.size) = some 8 := by kernel_rfl
theorem guard_chal : Tryd.prog.eqGuardType Tryd.prog.depth 41 = false := by kernel_rfl
theorem scells_chal {vx ve : Value} {a : SayV} {w : World} {g : Nat} {T : TypeId} (h : Blk w g T (scells vx ve a)) (k : a.ok) : w.rangeAt g 2 (a.chal.map (Value.int .u8)) := fun j v hj => by
  rw [h.cell, show 2 + j = j + 1 + 1 from by omega]
  show (a.chal.map (Value.int .u8) ++ stail vx ve a)[j]? = some v
  rw [List.getElem?_append_left (List.getElem?_eq_some_iff.1 hj).1, hj]
end Go.Proofs.YtbbjmmooemmeiaaDoor

namespace Go.Proofs.YtbbjmmooemmeiaaDoor
set_option linter.all false
open Go.RowKit
set_option linter.unusedVariables false
set_option maxRecDepth 100000
theorem built_chal : Tryd.prog.built 41 [] = some ((List.replicate 8 (0 : Int)).map (Value.int .u8)).toArray := by kernel_rfl
theorem zeroSay_iff (a : SayV) : a = zeroSay ↔ a.data = [] ∧ a.ents = [] ∧ a.chal = List.replicate 8 0 ∧ a.dia = 0 ∧ a.siz = 0 ∧ a.lev = 0 ∧ a.dur = 0 ∧ a.made = 0 ∧ a.file = 0 ∧ a.kind = 0 ∧ a.n = 0 ∧ a.more = false ∧ a.gone = false := by
  constructor
  · rintro rfl
    exact ⟨rfl, rfl, rfl, rfl, rfl, rfl, rfl, rfl, rfl, rfl, rfl, rfl, rfl⟩
  · rintro ⟨h_data, h_ents, h_chal, h_dia, h_siz, h_lev, h_dur, h_made, h_file, h_kind, h_n, h_more, h_gone⟩
    cases a
    simp only at h_data h_ents h_chal h_dia h_siz h_lev h_dur h_made h_file h_kind h_n h_more h_gone
    subst h_data h_ents h_chal h_dia h_siz h_lev h_dur h_made h_file h_kind h_n h_more h_gone
    rfl
theorem fld_isZeroSay_0 (g : Nat) (w : World) : (Instr.fieldAt 45 (.pointer (some ⟨g, 0, none⟩)) 0).run Tryd.prog w = .ok (.pointer (some ⟨g, 0, none⟩)) w := by go_simp
theorem fld_isZeroSay_1 (g : Nat) (w : World) : (Instr.fieldAt 45 (.pointer (some ⟨g, 0, none⟩)) 1).run Tryd.prog w = .ok (.pointer (some ⟨g, 1, none⟩)) w := by go_simp
theorem fld_isZeroSay_2 (g : Nat) (w : World) : (Instr.fieldAt 45 (.pointer (some ⟨g, 0, none⟩)) 2).run Tryd.prog w = .ok (.pointer (some ⟨g, 2, none⟩)) w := by go_simp
theorem fld_isZeroSay_3 (g : Nat) (w : World) : (Instr.fieldAt 45 (.pointer (some ⟨g, 0, none⟩)) 3).run Tryd.prog w = .ok (.pointer (some ⟨g, 10, none⟩)) w := by go_simp
theorem fld_isZeroSay_4 (g : Nat) (w : World) : (Instr.fieldAt 45 (.pointer (some ⟨g, 0, none⟩)) 4).run Tryd.prog w = .ok (.pointer (some ⟨g, 11, none⟩)) w := by go_simp
theorem fld_isZeroSay_5 (g : Nat) (w : World) : (Instr.fieldAt 45 (.pointer (some ⟨g, 0, none⟩)) 5).run Tryd.prog w = .ok (.pointer (some ⟨g, 12, none⟩)) w := by go_simp
theorem fld_isZeroSay_6 (g : Nat) (w : World) : (Instr.fieldAt 45 (.pointer (some ⟨g, 0, none⟩)) 6).run Tryd.prog w = .ok (.pointer (some ⟨g, 13, none⟩)) w := by go_simp
theorem fld_isZeroSay_7 (g : Nat) (w : World) : (Instr.fieldAt 45 (.pointer (some ⟨g, 0, none⟩)) 7).run Tryd.prog w = .ok (.pointer (some ⟨g, 14, none⟩)) w := by go_simp
theorem fld_isZeroSay_8 (g : Nat) (w : World) : (Instr.fieldAt 45 (.pointer (some ⟨g, 0, none⟩)) 8).run Tryd.prog w = .ok (.pointer (some ⟨g, 15, none⟩)) w := by go_simp
theorem fld_isZeroSay_9 (g : Nat) (w : World) : (Instr.fieldAt 45 (.pointer (some ⟨g, 0, none⟩)) 9).run Tryd.prog w = .ok (.pointer (some ⟨g, 16, none⟩)) w := by go_simp
theorem fld_isZeroSay_10 (g : Nat) (w : World) : (Instr.fieldAt 45 (.pointer (some ⟨g, 0, none⟩)) 10).run Tryd.prog w = .ok (.pointer (some ⟨g, 17, none⟩)) w := by go_simp
theorem fld_isZeroSay_11 (g : Nat) (w : World) : (Instr.fieldAt 45 (.pointer (some ⟨g, 0, none⟩)) 11).run Tryd.prog w = .ok (.pointer (some ⟨g, 18, none⟩)) w := by go_simp
theorem fld_isZeroSay_12 (g : Nat) (w : World) : (Instr.fieldAt 45 (.pointer (some ⟨g, 0, none⟩)) 12).run Tryd.prog w = .ok (.pointer (some ⟨g, 19, none⟩)) w := by go_simp
set_option maxHeartbeats 4000000 in
theorem isZeroSay_any (w : World) (cs : List Value) (a : SayV) (ka : a.ok) (ha : SayIs w w.heap.size cs a) :
    Calls Tryd.prog 88 #[.agg cs.toArray] w fun e w' => e = .returned (.bool (decide (a = zeroSay))) ∧ Below w.heap.size w w' := by
  have HL := Lib.hid (ha.len ka)
  obtain ⟨X1, X2, X3, E1, E2, E3, rfl, h_X, h_E⟩ := ha
  have l_X := h_X.len
  have l_E := h_E.len
  have HT : Hid ((((((((((((((a.data.length == 0) && (a.ents.length == 0)) && (decide (a.chal = List.replicate 8 0))) && (a.dia == 0)) && (a.siz == 0)) && (a.lev == 0)) && (a.dur == 0)) && (a.made == 0)) && (a.file == 0)) && (a.kind == 0)) && (a.n == 0)) && (!a.more)) && (!a.gone)) = decide (a = zeroSay)) := by
    show _ = _
    rw [Bool.eq_iff_iff, decide_eq_true_iff, zeroSay_iff]
    simp only [Bool.and_eq_true, beq_iff_eq, decide_eq_true_iff, Bool.not_eq_true', List.length_eq_zero_iff, and_assoc]
  have FA : Hid (∀ (w : World) (g : Nat), Blk w g 45 (scells (.slice X1 X2 X3) (.slice E1 E2 E3) a) → w.cell? ⟨g, 0, none⟩ = some (.int .u16 a.dia) ∧ w.cell? ⟨g, 1, none⟩ = some (.int .u64 a.siz) ∧ w.cell? ⟨g, 10, none⟩ = some (.int .u8 a.lev) ∧ w.cell? ⟨g, 11, none⟩ = some (.int .u8 a.dur) ∧ w.cell? ⟨g, 12, none⟩ = some (.int .u16 a.made) ∧ w.cell? ⟨g, 13, none⟩ = some (.int .u64 a.file) ∧ w.cell? ⟨g, 14, none⟩ = some (.int .u8 a.kind) ∧ w.cell? ⟨g, 15, none⟩ = some (.slice X1 X2 X3) ∧ w.cell? ⟨g, 16, none⟩ = some (.int .u32 a.n) ∧ w.cell? ⟨g, 17, none⟩ = some (.slice E1 E2 E3) ∧ w.cell? ⟨g, 18, none⟩ = some (.bool a.more) ∧ w.cell? ⟨g, 19, none⟩ = some (.bool a.gone)) := fun w g h =>
    ⟨h.at rfl, h.at rfl, h.at (scells_get ka 0), h.at (scells_get ka 1), h.at (scells_get ka 2), h.at (scells_get ka 3), h.at (scells_get ka 4), h.at (scells_get ka 5), h.at (scells_get ka 6), h.at (scells_get ka 7), h.at (scells_get ka 8), h.at (scells_get ka 9)⟩
  have R_chal : Hid (∀ (w : World) (g : Nat), Blk w g 45 (scells (.slice X1 X2 X3) (.slice E1 E2 E3) a) → w.rangeAt g 2 (a.chal.map (Value.int .u8))) := fun w g h => scells_chal h ka
  have N_chal : Hid ((a.chal.map (Value.int .u8)).length = 8) := by show _ = _; rw [List.length_map]; exact ka.clen
  have q_chal : ∀ w : World, (Op.equalIn 10000 41 (.agg (a.chal.map (Value.int .u8)).toArray) (.agg ((List.replicate 8 (0 : Int)).map (Value.int .u8)).toArray)).run Tryd.prog w = .ok (decide (a.chal = List.replicate 8 0)) w := fun w => run_equalIn_arr3 Tryd.underlying41 Tryd.underlying5 size_u8e _ _ ka.clen (by simp) _ w
  obtain ⟨z_data, k_data⟩ : ∃ z, (a.data.length == 0) = z := ⟨_, rfl⟩
  obtain ⟨z_ents, k_ents⟩ : ∃ z, (a.ents.length == 0) = z := ⟨_, rfl⟩
  obtain ⟨z_chal, k_chal⟩ : ∃ z, (decide (a.chal = List.replicate 8 0)) = z := ⟨_, rfl⟩
  obtain ⟨z_dia, k_dia⟩ : ∃ z, (a.dia == 0) = z := ⟨_, rfl⟩
  obtain ⟨z_siz, k_siz⟩ : ∃ z, (a.siz == 0) = z := ⟨_, rfl⟩
  obtain ⟨z_lev, k_lev⟩ : ∃ z, (a.lev == 0) = z := ⟨_, rfl⟩
  obtain ⟨z_dur, k_dur⟩ : ∃ z, (a.dur == 0) = z := ⟨_, rfl⟩
  obtain ⟨z_made, k_made⟩ : ∃ z, (a.made == 0) = z := ⟨_, rfl⟩
  obtain ⟨z_file, k_file⟩ : ∃ z, (a.file == 0) = z := ⟨_, rfl⟩
  obtain ⟨z_kind, k_kind⟩ : ∃ z, (a.kind == 0) = z := ⟨_, rfl⟩
  obtain ⟨z_n, k_n⟩ : ∃ z, (a.n == 0) = z := ⟨_, rfl⟩
  obtain ⟨z_more, k_more⟩ : ∃ z, (!a.more) = z := ⟨_, rfl⟩
  obtain ⟨z_gone, k_gone⟩ : ∃ z, (!a.gone) = z := ⟨_, rfl⟩
  rw [k_data, k_ents, k_chal, k_dia, k_siz, k_lev, k_dur, k_made, k_file, k_kind, k_n, k_more, k_gone] at HT
  rw [l_X] at k_data
  have kk_data : ((X2 : Int) == 0) = z_data := by rw [← k_data]; rw [Bool.eq_iff_iff]; simp
  rw [l_E] at k_ents
  have kk_ents : ((E2 : Int) == 0) = z_ents := by rw [← k_ents]; rw [Bool.eq_iff_iff]; simp
  rw [k_chal] at q_chal
  obtain ⟨y_chal, hy⟩ : ∃ y, y = ((List.replicate 8 (0 : Int)).map (Value.int .u8)).toArray := ⟨_, rfl⟩
  rw [← hy] at q_chal
  have bt_chal : Tryd.prog.built 41 [] = some y_chal := by rw [hy]; exact built_chal
  clear hy
  obtain ⟨r, hr⟩ : ∃ r, r = decide (a = zeroSay) := ⟨_, rfl⟩
  rw [← hr] at HT ⊢
  obtain ⟨cs, hcs⟩ : ∃ c, c = scells (.slice X1 X2 X3) (.slice E1 E2 E3) a := ⟨_, rfl⟩
  rw [← hcs] at FA HL R_chal ⊢
  clear hr hcs h_X h_E
  go_enter Tryd.func88, Tryd.ntmps88
  go_upto_region 1 with (first
    | ((with_reducible show wpList _ _ _ (⟨some 1, _, _, _, _, _⟩ :: _) _ _); refine wpList_box_blk rfl _ (.tmp 0) rfl cs rfl ?_; intro g w1 hg1 hg2 K1 L1)
    | fail)
  rename_i hret
  simp only [List.append_eq, List.cons_append, List.nil_append]
  refine wp_region_lit ?_
  have HK := K1
  obtain ⟨c_dia, c_siz, c_lev, c_dur, c_made, c_file, c_kind, c_data, c_n, c_ents, c_more, c_gone⟩ := FA.out _ _ K1.out
  have r_chal := R_chal.out _ _ K1.out
  refine wpList_abs (N := 69) (x0 := 1) (pv := .pointer (some ⟨g, 0, none⟩)) ⟨rfl, rfl, rfl⟩ fun a0 F0 => ?_
  refine head_load (v := (.slice X1 X2 X3)) (f := 3) (l := 4) (i := 8) (off := 15) (g := g) ⟨rfl, rfl, rfl⟩ ⟨rfl, rfl, rfl⟩ (by decide) (fld_isZeroSay_8 g) (load_one c_data _ Tryd.underlying29 rfl) a0 F0 fun a1 F1 e1 => ?_
  refine head_next (e := 5) (u := .int .i64 (X2 : Int)) ⟨rfl, rfl⟩ (by decide) a1 F1 (by have e' := eval_getD e1; go_simp) fun a2 F2 e2 => ?_
  refine head_next (e := 6) (u := .bool z_data) ⟨rfl, rfl⟩ (by decide) a2 F2 (by have e' := eval_getD e2; go_simp) fun b0 G0 h0 => ?_
  clear F0 F1 F2 e1 e2
  refine chain (gi := 4) (p := 6) (m := 7) (e := 11) (q := 12) (t := z_ents) (mids := [_, _, _, _]) rfl ⟨rfl, rfl, rfl⟩ ⟨rfl, rfl, rfl⟩ (by decide) G0 h0 (by
    intro o ho
    simp only [List.mem_cons, List.not_mem_nil, or_false] at ho
    rcases ho with rfl | rfl | rfl | rfl
    all_goals exact ⟨rfl, _, rfl, by decide, by decide⟩) (fun a1 F1 m1 hk => ?_) fun b1 G1 h1 => ?_
  · refine mids_load (v := (.slice E1 E2 E3)) (f := 8) (l := 9) (i := 10) (off := 17) (g := g) (tail := _) (gi := 4) (m := 7) rfl ⟨rfl, rfl, rfl⟩ ⟨rfl, rfl, rfl⟩ (by decide) (fld_isZeroSay_10 g) (load_one c_ents _ Tryd.underlying43 rfl) a1 F1 m1 fun a2 F2 m2 e2 => ?_
    refine mids_next (l := 0) (e := 10) (u := .int .i64 (E2 : Int)) (gi := 4) (m := 7) rfl ⟨rfl, rfl⟩ (by decide) a2 F2 m2 (by have e' := eval_getD e2; go_simp) fun a3 F3 m3 e3 _ => ?_
    refine mids_next (l := 0) (e := 11) (u := .bool z_ents) (gi := 4) (m := 7) rfl ⟨rfl, rfl⟩ (by decide) a3 F3 m3 (by have e' := eval_getD e3; go_simp) fun a4 F4 m4 e4 _ => ?_
    exact hk a4 F4 m4 e4
  refine chain (gi := 10) (p := 12) (m := 13) (e := 17) (q := 18) (t := z_chal) (mids := [_, _, _, _]) rfl ⟨rfl, rfl, rfl⟩ ⟨rfl, rfl, rfl⟩ (by decide) G1 h1 (by
    intro o ho
    simp only [List.mem_cons, List.not_mem_nil, or_false] at ho
    rcases ho with rfl | rfl | rfl | rfl
    all_goals exact ⟨rfl, _, rfl, by decide, by decide⟩) (fun a1 F1 m1 hk => ?_) fun b2 G2 h2 => ?_
  · refine mids_load (v := (.agg (a.chal.map (Value.int .u8)).toArray)) (f := 14) (l := 15) (i := 2) (off := 2) (g := g) (tail := _) (gi := 10) (m := 13) rfl ⟨rfl, rfl, rfl⟩ ⟨rfl, rfl, rfl⟩ (by decide) (fld_isZeroSay_2 g) (load_mid_run r_chal Tryd.underlying41 rfl (by rw [size_chal, N_chal.out])) a1 F1 m1 fun a2 F2 m2 e2 => ?_
    refine mids_next (l := 0) (e := 16) (u := .agg y_chal) (gi := 10) (m := 13) rfl ⟨rfl, rfl⟩ (by decide) a2 F2 m2 (build_run rfl bt_chal) fun a3 F3 m3 e3 o3 => ?_
    have e2' := (o3 15 (by decide)).trans e2
    refine mids_next (l := 0) (e := 17) (u := .bool z_chal) (gi := 10) (m := 13) rfl ⟨rfl, rfl⟩ (by decide) a3 F3 m3 (by have e' := eval_getD e2'; have e'' := eval_getD e3; have qg := guard_chal; go_simp) fun a4 F4 m4 e4 _ => ?_
    exact hk a4 F4 m4 e4
  clear G1 h1
  refine chain (gi := 16) (p := 18) (m := 19) (e := 22) (q := 23) (t := z_dia) (mids := [_, _, _]) rfl ⟨rfl, rfl, rfl⟩ ⟨rfl, rfl, rfl⟩ (by decide) G2 h2 (by
    intro o ho
    simp only [List.mem_cons, List.not_mem_nil, or_false] at ho
    rcases ho with rfl | rfl | rfl
    all_goals exact ⟨rfl, _, rfl, by decide, by decide⟩) (fun a1 F1 m1 hk => ?_) fun b3 G3 h3 => ?_
  · refine mids_load (v := (.int .u16 a.dia)) (f := 20) (l := 21) (i := 0) (off := 0) (g := g) (tail := _) (gi := 16) (m := 19) rfl ⟨rfl, rfl, rfl⟩ ⟨rfl, rfl, rfl⟩ (by decide) (fld_isZeroSay_0 g) (load_one c_dia _ Tryd.underlying22 rfl) a1 F1 m1 fun a2 F2 m2 e2 => ?_
    refine mids_next (l := 0) (e := 22) (u := .bool z_dia) (gi := 16) (m := 19) rfl ⟨rfl, rfl⟩ (by decide) a2 F2 m2 (by have e' := eval_getD e2; go_simp) fun a4 F4 m4 e4 _ => ?_
    exact hk a4 F4 m4 e4
  clear G2 h2
  refine chain (gi := 21) (p := 23) (m := 24) (e := 27) (q := 28) (t := z_siz) (mids := [_, _, _]) rfl ⟨rfl, rfl, rfl⟩ ⟨rfl, rfl, rfl⟩ (by decide) G3 h3 (by
    intro o ho
    simp only [List.mem_cons, List.not_mem_nil, or_false] at ho
    rcases ho with rfl | rfl | rfl
    all_goals exact ⟨rfl, _, rfl, by decide, by decide⟩) (fun a1 F1 m1 hk => ?_) fun b4 G4 h4 => ?_
  · refine mids_load (v := (.int .u64 a.siz)) (f := 25) (l := 26) (i := 1) (off := 1) (g := g) (tail := _) (gi := 21) (m := 24) rfl ⟨rfl, rfl, rfl⟩ ⟨rfl, rfl, rfl⟩ (by decide) (fld_isZeroSay_1 g) (load_one c_siz _ Tryd.underlying28 rfl) a1 F1 m1 fun a2 F2 m2 e2 => ?_
    refine mids_next (l := 0) (e := 27) (u := .bool z_siz) (gi := 21) (m := 24) rfl ⟨rfl, rfl⟩ (by decide) a2 F2 m2 (by have e' := eval_getD e2; go_simp) fun a4 F4 m4 e4 _ => ?_
    exact hk a4 F4 m4 e4
  clear G3 h3
  refine chain (gi := 26) (p := 28) (m := 29) (e := 32) (q := 33) (t := z_lev) (mids := [_, _, _]) rfl ⟨rfl, rfl, rfl⟩ ⟨rfl, rfl, rfl⟩ (by decide) G4 h4 (by
    intro o ho
    simp only [List.mem_cons, List.not_mem_nil, or_false] at ho
    rcases ho with rfl | rfl | rfl
    all_goals exact ⟨rfl, _, rfl, by decide, by decide⟩) (fun a1 F1 m1 hk => ?_) fun b5 G5 h5 => ?_
  · refine mids_load (v := (.int .u8 a.lev)) (f := 30) (l := 31) (i := 3) (off := 10) (g := g) (tail := _) (gi := 26) (m := 29) rfl ⟨rfl, rfl, rfl⟩ ⟨rfl, rfl, rfl⟩ (by decide) (fld_isZeroSay_3 g) (load_one c_lev _ Tryd.underlying5 rfl) a1 F1 m1 fun a2 F2 m2 e2 => ?_
    refine mids_next (l := 0) (e := 32) (u := .bool z_lev) (gi := 26) (m := 29) rfl ⟨rfl, rfl⟩ (by decide) a2 F2 m2 (by have e' := eval_getD e2; go_simp) fun a4 F4 m4 e4 _ => ?_
    exact hk a4 F4 m4 e4
  clear G4 h4
  refine chain (gi := 31) (p := 33) (m := 34) (e := 37) (q := 38) (t := z_dur) (mids := [_, _, _]) rfl ⟨rfl, rfl, rfl⟩ ⟨rfl, rfl, rfl⟩ (by decide) G5 h5 (by
    intro o ho
    simp only [List.mem_cons, List.not_mem_nil, or_false] at ho
    rcases ho with rfl | rfl | rfl
    all_goals exact ⟨rfl, _, rfl, by decide, by decide⟩) (fun a1 F1 m1 hk => ?_) fun b6 G6 h6 => ?_
  · refine mids_load (v := (.int .u8 a.dur)) (f := 35) (l := 36) (i := 4) (off := 11) (g := g) (tail := _) (gi := 31) (m := 34) rfl ⟨rfl, rfl, rfl⟩ ⟨rfl, rfl, rfl⟩ (by decide) (fld_isZeroSay_4 g) (load_one c_dur _ Tryd.underlying5 rfl) a1 F1 m1 fun a2 F2 m2 e2 => ?_
    refine mids_next (l := 0) (e := 37) (u := .bool z_dur) (gi := 31) (m := 34) rfl ⟨rfl, rfl⟩ (by decide) a2 F2 m2 (by have e' := eval_getD e2; go_simp) fun a4 F4 m4 e4 _ => ?_
    exact hk a4 F4 m4 e4
  clear G5 h5
  refine chain (gi := 36) (p := 38) (m := 39) (e := 42) (q := 43) (t := z_made) (mids := [_, _, _]) rfl ⟨rfl, rfl, rfl⟩ ⟨rfl, rfl, rfl⟩ (by decide) G6 h6 (by
    intro o ho
    simp only [List.mem_cons, List.not_mem_nil, or_false] at ho
    rcases ho with rfl | rfl | rfl
    all_goals exact ⟨rfl, _, rfl, by decide, by decide⟩) (fun a1 F1 m1 hk => ?_) fun b7 G7 h7 => ?_
  · refine mids_load (v := (.int .u16 a.made)) (f := 40) (l := 41) (i := 5) (off := 12) (g := g) (tail := _) (gi := 36) (m := 39) rfl ⟨rfl, rfl, rfl⟩ ⟨rfl, rfl, rfl⟩ (by decide) (fld_isZeroSay_5 g) (load_one c_made _ Tryd.underlying22 rfl) a1 F1 m1 fun a2 F2 m2 e2 => ?_
    refine mids_next (l := 0) (e := 42) (u := .bool z_made) (gi := 36) (m := 39) rfl ⟨rfl, rfl⟩ (by decide) a2 F2 m2 (by have e' := eval_getD e2; go_simp) fun a4 F4 m4 e4 _ => ?_
    exact hk a4 F4 m4 e4
  clear G6 h6
  refine chain (gi := 41) (p := 43) (m := 44) (e := 47) (q := 48) (t := z_file) (mids := [_, _, _]) rfl ⟨rfl, rfl, rfl⟩ ⟨rfl, rfl, rfl⟩ (by decide) G7 h7 (by
    intro o ho
    simp only [List.mem_cons, List.not_mem_nil, or_false] at ho
    rcases ho with rfl | rfl | rfl
    all_goals exact ⟨rfl, _, rfl, by decide, by decide⟩) (fun a1 F1 m1 hk => ?_) fun b8 G8 h8 => ?_
  · refine mids_load (v := (.int .u64 a.file)) (f := 45) (l := 46) (i := 6) (off := 13) (g := g) (tail := _) (gi := 41) (m := 44) rfl ⟨rfl, rfl, rfl⟩ ⟨rfl, rfl, rfl⟩ (by decide) (fld_isZeroSay_6 g) (load_one c_file _ Tryd.underlying28 rfl) a1 F1 m1 fun a2 F2 m2 e2 => ?_
    refine mids_next (l := 0) (e := 47) (u := .bool z_file) (gi := 41) (m := 44) rfl ⟨rfl, rfl⟩ (by decide) a2 F2 m2 (by have e' := eval_getD e2; go_simp) fun a4 F4 m4 e4 _ => ?_
    exact hk a4 F4 m4 e4
  clear G7 h7
  refine chain (gi := 46) (p := 48) (m := 49) (e := 52) (q := 53) (t := z_kind) (mids := [_, _, _]) rfl ⟨rfl, rfl, rfl⟩ ⟨rfl, rfl, rfl⟩ (by decide) G8 h8 (by
    intro o ho
    simp only [List.mem_cons, List.not_mem_nil, or_false] at ho
    rcases ho with rfl | rfl | rfl
    all_goals exact ⟨rfl, _, rfl, by decide, by decide⟩) (fun a1 F1 m1 hk => ?_) fun b9 G9 h9 => ?_
  · refine mids_load (v := (.int .u8 a.kind)) (f := 50) (l := 51) (i := 7) (off := 14) (g := g) (tail := _) (gi := 46) (m := 49) rfl ⟨rfl, rfl, rfl⟩ ⟨rfl, rfl, rfl⟩ (by decide) (fld_isZeroSay_7 g) (load_one c_kind _ Tryd.underlying42 rfl) a1 F1 m1 fun a2 F2 m2 e2 => ?_
    refine mids_next (l := 0) (e := 52) (u := .bool z_kind) (gi := 46) (m := 49) rfl ⟨rfl, rfl⟩ (by decide) a2 F2 m2 (by have e' := eval_getD e2; go_simp) fun a4 F4 m4 e4 _ => ?_
    exact hk a4 F4 m4 e4
  clear G8 h8
  refine chain (gi := 51) (p := 53) (m := 54) (e := 57) (q := 58) (t := z_n) (mids := [_, _, _]) rfl ⟨rfl, rfl, rfl⟩ ⟨rfl, rfl, rfl⟩ (by decide) G9 h9 (by
    intro o ho
    simp only [List.mem_cons, List.not_mem_nil, or_false] at ho
    rcases ho with rfl | rfl | rfl
    all_goals exact ⟨rfl, _, rfl, by decide, by decide⟩) (fun a1 F1 m1 hk => ?_) fun b10 G10 h10 => ?_
  · refine mids_load (v := (.int .u32 a.n)) (f := 55) (l := 56) (i := 9) (off := 16) (g := g) (tail := _) (gi := 51) (m := 54) rfl ⟨rfl, rfl, rfl⟩ ⟨rfl, rfl, rfl⟩ (by decide) (fld_isZeroSay_9 g) (load_one c_n _ Tryd.underlying27 rfl) a1 F1 m1 fun a2 F2 m2 e2 => ?_
    refine mids_next (l := 0) (e := 57) (u := .bool z_n) (gi := 51) (m := 54) rfl ⟨rfl, rfl⟩ (by decide) a2 F2 m2 (by have e' := eval_getD e2; go_simp) fun a4 F4 m4 e4 _ => ?_
    exact hk a4 F4 m4 e4
  clear G9 h9
  refine chain (gi := 56) (p := 58) (m := 59) (e := 62) (q := 63) (t := z_more) (mids := [_, _, _]) rfl ⟨rfl, rfl, rfl⟩ ⟨rfl, rfl, rfl⟩ (by decide) G10 h10 (by
    intro o ho
    simp only [List.mem_cons, List.not_mem_nil, or_false] at ho
    rcases ho with rfl | rfl | rfl
    all_goals exact ⟨rfl, _, rfl, by decide, by decide⟩) (fun a1 F1 m1 hk => ?_) fun b11 G11 h11 => ?_
  · refine mids_load (v := (.bool a.more)) (f := 60) (l := 61) (i := 11) (off := 18) (g := g) (tail := _) (gi := 56) (m := 59) rfl ⟨rfl, rfl, rfl⟩ ⟨rfl, rfl, rfl⟩ (by decide) (fld_isZeroSay_11 g) (load_one c_more _ Tryd.underlying4 rfl) a1 F1 m1 fun a2 F2 m2 e2 => ?_
    refine mids_next (l := 0) (e := 62) (u := .bool z_more) (gi := 56) (m := 59) rfl ⟨rfl, rfl⟩ (by decide) a2 F2 m2 (by have e' := eval_getD e2; go_simp) fun a4 F4 m4 e4 _ => ?_
    exact hk a4 F4 m4 e4
  clear G10 h10
  refine chain (gi := 61) (p := 63) (m := 64) (e := 67) (q := 68) (t := z_gone) (mids := [_, _, _]) rfl ⟨rfl, rfl, rfl⟩ ⟨rfl, rfl, rfl⟩ (by decide) G11 h11 (by
    intro o ho
    simp only [List.mem_cons, List.not_mem_nil, or_false] at ho
    rcases ho with rfl | rfl | rfl
    all_goals exact ⟨rfl, _, rfl, by decide, by decide⟩) (fun a1 F1 m1 hk => ?_) fun b12 G12 h12 => ?_
  · refine mids_load (v := (.bool a.gone)) (f := 65) (l := 66) (i := 12) (off := 19) (g := g) (tail := _) (gi := 61) (m := 64) rfl ⟨rfl, rfl, rfl⟩ ⟨rfl, rfl, rfl⟩ (by decide) (fld_isZeroSay_12 g) (load_one c_gone _ Tryd.underlying4 rfl) a1 F1 m1 fun a2 F2 m2 e2 => ?_
    refine mids_next (l := 0) (e := 67) (u := .bool z_gone) (gi := 61) (m := 64) rfl ⟨rfl, rfl⟩ (by decide) a2 F2 m2 (by have e' := eval_getD e2; go_simp) fun a4 F4 m4 e4 _ => ?_
    exact hk a4 F4 m4 e4
  clear G11 h11
  have HT1 := HT.out
  rw [HT1] at h12
  refine wpList_yields (v := .bool r) (yieldsIf_asg (by simp [Region.wanted]) (.tmp 68) rfl _ h12) ?_
  refine wpList_nil (hret _ _ (wp_ret ?_))
  have F9 := G12.put (d := 2) (v := .bool r) (by decide)
  refine bodyPost_ret (results_tmp rfl _ _ _) F9.df ?_
  refine ⟨?_, L1.out⟩
  have e9 : (b12.put (some 2) (.bool r)).eval (.tmp 2) = .bool r := put_self (by rw [G12.size]; decide)
  exact congrArg Ending.returned e9
end Go.Proofs.YtbbjmmooemmeiaaDoor

namespace Go.Proofs.YtbbjmmooemmeiaaDoor
set_option linter.all false
open Go.RowKit
set_option linter.unusedVariables false
set_option maxRecDepth 100000
def besideSay (c : Int) (s : SayV) : SayV := if c = 0 then { s with dia := 0, siz := 0, chal := List.replicate 8 0 } else s
theorem besideSay_ok {c : Int} {s : SayV} (k : s.ok) : (besideSay c s).ok := by
  unfold besideSay
  split
  · exact ⟨by show (0 : Int) ≤ 0 ∧ (0 : Int) ≤ 65535; decide, by show (0 : Int) ≤ 0 ∧ (0 : Int) ≤ 18446744073709551615; decide, rfl, Bytes.zeros 8, k.lev, k.dur, k.made, k.file, k.kind, k.data, k.n, k.ents⟩
  · exact k
section
variable {vd vx vl ve : Value} {a : AskV} {s : SayV}
theorem scells_dia (x : Int) : (scells vx ve s).set 0 (.int .u16 x) = scells vx ve { s with dia := x } := rfl
theorem scells_siz (x : Int) : (scells vx ve s).set 1 (.int .u64 x) = scells vx ve { s with siz := x } := rfl
theorem scells_chalS (k : s.ok) (xs : List Int) : (scells vx ve s).take 2 ++ (xs.map (Value.int .u8) ++ (scells vx ve s).drop (2 + 8)) = scells vx ve { s with chal := xs } := by
  unfold scells
  rw [show 2 + 8 = 8 + 1 + 1 from rfl, List.drop_succ_cons, List.drop_succ_cons, List.drop_left' (by rw [List.length_map]; exact k.clen)]
  rfl
end
def sayBesidePost (w : World) (c : Int) (a : SayV) (e : Ending) (w' : World) : Prop := ∃ ds, e = .returned (.tuple #[.agg ds.toArray, .bool (knownT c)]) ∧ SayIs w' w'.heap.size ds (if knownT c = true then besideSay c a else zeroSay) ∧ Below w.heap.size w w'
set_option maxHeartbeats 4000000 in
theorem sayBeside_any (w : World) (c : Int) (cs : List Value) (a : SayV) (hc : 0 ≤ c ∧ c ≤ 65535) (ka : a.ok) (ha : SayIs w w.heap.size cs a) :
    Calls Tryd.prog 87 #[.int .u16 c, .agg cs.toArray] w (sayBesidePost w c a) := by
  have HL := Lib.hid (ha.len ka)
  have HO1 := Lib.hid ha.one
  have ZH := Lib.hid zero_say
  have BZ := built_say
  have HZ : Hid ((scells (.slice none 0 0) (.slice none 0 0) zeroSay).length = 20) := scells_len zeroSay_ok
  have HZ1 : Hid (∀ v ∈ scells (.slice none 0 0) (.slice none 0 0) zeroSay, v.oneCell' = true) := (zeroSay_is w 0).one
  have HA := Lib.hid ha
  have HQ : Hid (∀ e w', (∃ ds, e = .returned (.tuple #[.agg ds.toArray, .bool (knownT c)]) ∧ SayIs w' w'.heap.size ds (if knownT c = true then besideSay c a else zeroSay) ∧ Below w.heap.size w w') → sayBesidePost w c a e w') := fun _ _ h => h
  obtain ⟨zs, hzs⟩ : ∃ zs, zs = scells (.slice none 0 0) (.slice none 0 0) zeroSay := ⟨_, rfl⟩
  have HZI : Hid (∀ w' : World, SayIs w' w'.heap.size zs zeroSay) := by rw [hzs]; exact fun w' => zeroSay_is w' _
  rw [← hzs] at ZH BZ HZ HZ1
  clear hzs
  by_cases h0 : c = 0
  · subst h0
    have e0 : (if knownT 0 = true then besideSay 0 a else zeroSay) = { a with dia := 0, siz := 0, chal := List.replicate 8 0 } := rfl
    rw [e0, show knownT 0 = true from rfl] at HQ
    clear e0
    obtain ⟨X1, X2, X3, M1, M2, M3, rfl, hX, hM⟩ := ha
    have HI : Hid (∀ w' : World, Below w.heap.size w w' → SayIs w' w'.heap.size (scells (.slice X1 X2 X3) (.slice M1 M2 M3) { a with dia := 0, siz := 0, chal := List.replicate 8 0 }) ({ a with dia := 0, siz := 0, chal := List.replicate 8 0 })) := fun w' hb => ⟨X1, X2, X3, M1, M2, M3, rfl, hX.over hb, hM.over hb⟩
    have HN : Hid ((scells (.slice X1 X2 X3) (.slice M1 M2 M3) { a with dia := 0, siz := 0, chal := List.replicate 8 0 }).length = 20) := scells_len (by have := besideSay_ok (c := 0) ka; exact this)
    have HN1 : Hid (∀ v ∈ scells (.slice X1 X2 X3) (.slice M1 M2 M3) { a with dia := 0, siz := 0, chal := List.replicate 8 0 }, v.oneCell' = true) := scells_one rfl rfl
    have HE0 : Hid ((scells (.slice X1 X2 X3) (.slice M1 M2 M3) a).set 0 (.int .u16 0) = scells (.slice X1 X2 X3) (.slice M1 M2 M3) { a with dia := 0 }) := scells_dia 0
    have HE1 : Hid ((scells (.slice X1 X2 X3) (.slice M1 M2 M3) { a with dia := 0 }).set 1 (.int .u64 0) = scells (.slice X1 X2 X3) (.slice M1 M2 M3) { a with dia := 0, siz := 0 }) := scells_siz 0
    have HE2 : Hid ((scells (.slice X1 X2 X3) (.slice M1 M2 M3) { a with dia := 0, siz := 0 }).take 2 ++ ((List.replicate 8 (0 : Int)).map (Value.int .u8) ++ (scells (.slice X1 X2 X3) (.slice M1 M2 M3) { a with dia := 0, siz := 0 }).drop (2 + 8)) = scells (.slice X1 X2 X3) (.slice M1 M2 M3) { a with dia := 0, siz := 0, chal := List.replicate 8 0 }) := scells_chalS (s := { a with dia := 0, siz := 0 }) ⟨by show (0 : Int) ≤ 0 ∧ (0 : Int) ≤ 65535; decide, by show (0 : Int) ≤ 0 ∧ (0 : Int) ≤ 18446744073709551615; decide, ka.clen, ka.cbyte, ka.lev, ka.dur, ka.made, ka.file, ka.kind, ka.data, ka.n, ka.ents⟩ (List.replicate 8 0)
    have HN0 : Hid (0 < (scells (.slice X1 X2 X3) (.slice M1 M2 M3) a).length) := by show _ < _; simp [scells, stail, ka.clen]
    have HN2 : Hid (1 < (scells (.slice X1 X2 X3) (.slice M1 M2 M3) { a with dia := 0 }).length) := by show _ < _; simp [scells, stail, ka.clen]
    have HF : Hid (2 + 8 ≤ (scells (.slice X1 X2 X3) (.slice M1 M2 M3) { a with dia := 0, siz := 0 }).length) := by show _ ≤ _; simp [scells, stail, ka.clen]
    have HLZ : Hid (((List.replicate 8 (0 : Int)).map (Value.int .u8)).length = 8) := by show _ = _; simp
    have OZ : Hid (∀ v ∈ (List.replicate 8 (0 : Int)).map (Value.int .u8), v.oneCell' = true) := fun v hv => mem_nums hv
    have BL := built_chal
    obtain ⟨lz, hlz⟩ : ∃ z, z = (List.replicate 8 (0 : Int)).map (Value.int .u8) := ⟨_, rfl⟩
    rw [← hlz] at HLZ OZ BL HE2
    clear hlz
    obtain ⟨cs, hcs⟩ : ∃ c, c = scells (.slice X1 X2 X3) (.slice M1 M2 M3) a := ⟨_, rfl⟩
    rw [← hcs] at HL HO1 HE0 HN0 ⊢
    clear hcs HA hX hM
    obtain ⟨d0, hd0⟩ : ∃ c, c = scells (.slice X1 X2 X3) (.slice M1 M2 M3) { a with dia := 0 } := ⟨_, rfl⟩
    rw [← hd0] at HE0 HE1 HN2
    clear hd0
    obtain ⟨d1, hd1⟩ : ∃ c, c = scells (.slice X1 X2 X3) (.slice M1 M2 M3) { a with dia := 0, siz := 0 } := ⟨_, rfl⟩
    rw [← hd1] at HE1 HE2 HF
    clear hd1
    obtain ⟨d2, hd2⟩ : ∃ c, c = scells (.slice X1 X2 X3) (.slice M1 M2 M3) { a with dia := 0, siz := 0, chal := List.replicate 8 0 } := ⟨_, rfl⟩
    rw [← hd2] at HE2 HI HN HN1
    clear hd2
    go_enter Tryd.func87, Tryd.ntmps87
    go_wp2_with (first
      | ((with_reducible show wpList _ _ _ (⟨some 3, _, _, _, _, _⟩ :: _) _ _); refine wpList_box_blk rfl _ (.tmp 1) rfl cs rfl ?_; intro g w1 hg1 hg2 K1 L1)
      | ((with_reducible show wpList _ _ _ (⟨some 4, _, _, _, _, _⟩ :: _) _ _); refine wpList_alloc_blk rfl _ rfl zs _ ZH ?_; intro h w2 hg3 hg4 Z2 L02; have G2 := Lib.hid (K1.out.over L02.out); have L2 := Lib.hid (step L1.out L02.out); have hgh : g ≠ h := (by omega); have hhw : w.heap.size ≤ h := (by have := L1.out.size; omega))
      | ((with_reducible show wpList _ _ _ (⟨none, .store _ (.tmp 11) _, _, _, _, _⟩ :: _) _ _); refine wpList_store_fld rfl _ (.tmp 11) (.const (.int .u16 0)) rfl g 0 rfl _ cs (.int .u16 0) rfl G2 HN0 (by kernel_rfl) rfl ?_; intro w3 K3 O3 q3; rw [HE0.out] at K3; have Z3 := Lib.hid (Z2.out.only O3.out (Ne.symm hgh)); have L3 : Hid (Below w.heap.size w w3) := below_only L2.out O3.out hg1)
      | ((with_reducible show wpList _ _ _ (⟨none, .store _ (.tmp 12) _, _, _, _, _⟩ :: _) _ _); refine wpList_store_fld rfl _ (.tmp 12) (.const (.int .u64 0)) rfl g 1 rfl _ d0 (.int .u64 0) rfl K3 HN2 (by kernel_rfl) rfl ?_; intro w4 K4 O4 q4; rw [HE1.out] at K4; have Z4 := Lib.hid (Z3.out.only O4.out (Ne.symm hgh)); have L4 : Hid (Below w.heap.size w w4) := below_only L3.out O4.out hg1)
      | ((with_reducible show wpList _ _ _ (⟨none, .store _ (.tmp 13) _, _, _, _, _⟩ :: _) _ _); refine wpList_store_midb rfl _ (.tmp 13) (.tmp 10) rfl g 2 rfl _ d1 lz rfl K4 8 size_chal HLZ HF OZ ?_; intro w5 K5 O5 q5; rw [HE2.out] at K5; have Z5 := Lib.hid (Z4.out.only O5.out (Ne.symm hgh)); have L5 : Hid (Below w.heap.size w w5) := below_only L4.out O5.out hg1)
      | ((with_reducible show wpList _ _ _ (⟨some 10, _, _, _, _, _⟩ :: _) _ _); refine wpList_build_none rfl _ rfl lz BL ?_)
      | ((with_reducible show wpList _ _ _ (⟨some 20, _, _, _, _, _⟩ :: _) _ _); refine wpList_load_blk rfl _ (.tmp 3) rfl g rfl _ d2 K5 20 _ Tryd.underlying45 rfl size_say HN ?_)
      | ((with_reducible show wpList _ _ _ (⟨none, .store _ (.tmp 4) _, _, _, _, _⟩ :: _) _ _); refine wpList_store_blk rfl _ (.tmp 4) (.tmp 20) rfl h rfl _ zs d2 rfl Z5 20 size_say HZ HN HN1 ?_; intro w9 K9 O9 hg9)
      | fail)
    have L9 := Lib.hid (below_only L5.out O9.out hhw)
    refine bodyPost_ret (v := .tuple #[.agg d2.toArray, .bool true]) ?_ rfl (HQ.out _ _ ⟨_, rfl, HI.out w9 L9.out, L9.out⟩)
    exact results_cell_two rfl _ _ h _ _ (0, 0) _ rfl K9.out Tryd.underlying45 rfl (by rw [size_say]; have := HN.out; simp [this]) rfl
  by_cases h1 : c = 1
  · subst h1
    have e0 : (if knownT 1 = true then besideSay 1 a else zeroSay) = a := rfl
    rw [e0, show knownT 1 = true from rfl] at HQ
    clear e0
    obtain ⟨X1, X2, X3, M1, M2, M3, rfl, hX, hM⟩ := ha
    have HI : Hid (∀ w' : World, Below w.heap.size w w' → SayIs w' w'.heap.size (scells (.slice X1 X2 X3) (.slice M1 M2 M3) a) (a)) := fun w' hb => ⟨X1, X2, X3, M1, M2, M3, rfl, hX.over hb, hM.over hb⟩
    have HN : Hid ((scells (.slice X1 X2 X3) (.slice M1 M2 M3) a).length = 20) := scells_len (ka)
    have HN1 : Hid (∀ v ∈ scells (.slice X1 X2 X3) (.slice M1 M2 M3) a, v.oneCell' = true) := scells_one rfl rfl
    obtain ⟨cs, hcs⟩ : ∃ c, c = scells (.slice X1 X2 X3) (.slice M1 M2 M3) a := ⟨_, rfl⟩
    rw [← hcs] at HL HO1 HI HN HN1 ⊢
    clear hcs HA hX hM
    go_enter Tryd.func87, Tryd.ntmps87
    go_wp2_with (first
      | ((with_reducible show wpList _ _ _ (⟨some 3, _, _, _, _, _⟩ :: _) _ _); refine wpList_box_blk rfl _ (.tmp 1) rfl cs rfl ?_; intro g w1 hg1 hg2 K1 L1)
      | ((with_reducible show wpList _ _ _ (⟨some 4, _, _, _, _, _⟩ :: _) _ _); refine wpList_alloc_blk rfl _ rfl zs _ ZH ?_; intro h w2 hg3 hg4 Z2 L02; have G2 := Lib.hid (K1.out.over L02.out); have L2 := Lib.hid (step L1.out L02.out); have hgh : g ≠ h := (by omega); have hhw : w.heap.size ≤ h := (by have := L1.out.size; omega))
      | ((with_reducible show wpList _ _ _ (⟨some 20, _, _, _, _, _⟩ :: _) _ _); refine wpList_load_blk rfl _ (.tmp 3) rfl g rfl _ cs G2 20 _ Tryd.underlying45 rfl size_say HN ?_)
      | ((with_reducible show wpList _ _ _ (⟨none, .store _ (.tmp 4) _, _, _, _, _⟩ :: _) _ _); refine wpList_store_blk rfl _ (.tmp 4) (.tmp 20) rfl h rfl _ zs cs rfl Z2 20 size_say HZ HN HN1 ?_; intro w9 K9 O9 hg9)
      | fail)
    have L9 := Lib.hid (below_only L2.out O9.out hhw)
    refine bodyPost_ret (v := .tuple #[.agg cs.toArray, .bool true]) ?_ rfl (HQ.out _ _ ⟨_, rfl, HI.out w9 L9.out, L9.out⟩)
    exact results_cell_two rfl _ _ h _ _ (0, 0) _ rfl K9.out Tryd.underlying45 rfl (by rw [size_say]; have := HN.out; simp [this]) rfl
  by_cases h3 : c = 3
  · subst h3
    have e0 : (if knownT 3 = true then besideSay 3 a else zeroSay) = a := rfl
    rw [e0, show knownT 3 = true from rfl] at HQ
    clear e0
    obtain ⟨X1, X2, X3, M1, M2, M3, rfl, hX, hM⟩ := ha
    have HI : Hid (∀ w' : World, Below w.heap.size w w' → SayIs w' w'.heap.size (scells (.slice X1 X2 X3) (.slice M1 M2 M3) a) (a)) := fun w' hb => ⟨X1, X2, X3, M1, M2, M3, rfl, hX.over hb, hM.over hb⟩
    have HN : Hid ((scells (.slice X1 X2 X3) (.slice M1 M2 M3) a).length = 20) := scells_len (ka)
    have HN1 : Hid (∀ v ∈ scells (.slice X1 X2 X3) (.slice M1 M2 M3) a, v.oneCell' = true) := scells_one rfl rfl
    obtain ⟨cs, hcs⟩ : ∃ c, c = scells (.slice X1 X2 X3) (.slice M1 M2 M3) a := ⟨_, rfl⟩
    rw [← hcs] at HL HO1 HI HN HN1 ⊢
    clear hcs HA hX hM
    go_enter Tryd.func87, Tryd.ntmps87
    go_wp2_with (first
      | ((with_reducible show wpList _ _ _ (⟨some 3, _, _, _, _, _⟩ :: _) _ _); refine wpList_box_blk rfl _ (.tmp 1) rfl cs rfl ?_; intro g w1 hg1 hg2 K1 L1)
      | ((with_reducible show wpList _ _ _ (⟨some 4, _, _, _, _, _⟩ :: _) _ _); refine wpList_alloc_blk rfl _ rfl zs _ ZH ?_; intro h w2 hg3 hg4 Z2 L02; have G2 := Lib.hid (K1.out.over L02.out); have L2 := Lib.hid (step L1.out L02.out); have hgh : g ≠ h := (by omega); have hhw : w.heap.size ≤ h := (by have := L1.out.size; omega))
      | ((with_reducible show wpList _ _ _ (⟨some 20, _, _, _, _, _⟩ :: _) _ _); refine wpList_load_blk rfl _ (.tmp 3) rfl g rfl _ cs G2 20 _ Tryd.underlying45 rfl size_say HN ?_)
      | ((with_reducible show wpList _ _ _ (⟨none, .store _ (.tmp 4) _, _, _, _, _⟩ :: _) _ _); refine wpList_store_blk rfl _ (.tmp 4) (.tmp 20) rfl h rfl _ zs cs rfl Z2 20 size_say HZ HN HN1 ?_; intro w9 K9 O9 hg9)
      | fail)
    have L9 := Lib.hid (below_only L2.out O9.out hhw)
    refine bodyPost_ret (v := .tuple #[.agg cs.toArray, .bool true]) ?_ rfl (HQ.out _ _ ⟨_, rfl, HI.out w9 L9.out, L9.out⟩)
    exact results_cell_two rfl _ _ h _ _ (0, 0) _ rfl K9.out Tryd.underlying45 rfl (by rw [size_say]; have := HN.out; simp [this]) rfl
  by_cases h2 : c = 2
  · subst h2
    have e0 : (if knownT 2 = true then besideSay 2 a else zeroSay) = a := rfl
    rw [e0, show knownT 2 = true from rfl] at HQ
    clear e0
    obtain ⟨X1, X2, X3, M1, M2, M3, rfl, hX, hM⟩ := ha
    have HI : Hid (∀ w' : World, Below w.heap.size w w' → SayIs w' w'.heap.size (scells (.slice X1 X2 X3) (.slice M1 M2 M3) a) (a)) := fun w' hb => ⟨X1, X2, X3, M1, M2, M3, rfl, hX.over hb, hM.over hb⟩
    have HN : Hid ((scells (.slice X1 X2 X3) (.slice M1 M2 M3) a).length = 20) := scells_len (ka)
    have HN1 : Hid (∀ v ∈ scells (.slice X1 X2 X3) (.slice M1 M2 M3) a, v.oneCell' = true) := scells_one rfl rfl
    obtain ⟨cs, hcs⟩ : ∃ c, c = scells (.slice X1 X2 X3) (.slice M1 M2 M3) a := ⟨_, rfl⟩
    rw [← hcs] at HL HO1 HI HN HN1 ⊢
    clear hcs HA hX hM
    go_enter Tryd.func87, Tryd.ntmps87
    go_wp2_with (first
      | ((with_reducible show wpList _ _ _ (⟨some 3, _, _, _, _, _⟩ :: _) _ _); refine wpList_box_blk rfl _ (.tmp 1) rfl cs rfl ?_; intro g w1 hg1 hg2 K1 L1)
      | ((with_reducible show wpList _ _ _ (⟨some 4, _, _, _, _, _⟩ :: _) _ _); refine wpList_alloc_blk rfl _ rfl zs _ ZH ?_; intro h w2 hg3 hg4 Z2 L02; have G2 := Lib.hid (K1.out.over L02.out); have L2 := Lib.hid (step L1.out L02.out); have hgh : g ≠ h := (by omega); have hhw : w.heap.size ≤ h := (by have := L1.out.size; omega))
      | ((with_reducible show wpList _ _ _ (⟨some 20, _, _, _, _, _⟩ :: _) _ _); refine wpList_load_blk rfl _ (.tmp 3) rfl g rfl _ cs G2 20 _ Tryd.underlying45 rfl size_say HN ?_)
      | ((with_reducible show wpList _ _ _ (⟨none, .store _ (.tmp 4) _, _, _, _, _⟩ :: _) _ _); refine wpList_store_blk rfl _ (.tmp 4) (.tmp 20) rfl h rfl _ zs cs rfl Z2 20 size_say HZ HN HN1 ?_; intro w9 K9 O9 hg9)
      | fail)
    have L9 := Lib.hid (below_only L2.out O9.out hhw)
    refine bodyPost_ret (v := .tuple #[.agg cs.toArray, .bool true]) ?_ rfl (HQ.out _ _ ⟨_, rfl, HI.out w9 L9.out, L9.out⟩)
    exact results_cell_two rfl _ _ h _ _ (0, 0) _ rfl K9.out Tryd.underlying45 rfl (by rw [size_say]; have := HN.out; simp [this]) rfl
  by_cases h4 : c = 4
  · subst h4
    have e0 : (if knownT 4 = true then besideSay 4 a else zeroSay) = a := rfl
    rw [e0, show knownT 4 = true from rfl] at HQ
    clear e0
    obtain ⟨X1, X2, X3, M1, M2, M3, rfl, hX, hM⟩ := ha
    have HI : Hid (∀ w' : World, Below w.heap.size w w' → SayIs w' w'.heap.size (scells (.slice X1 X2 X3) (.slice M1 M2 M3) a) (a)) := fun w' hb => ⟨X1, X2, X3, M1, M2, M3, rfl, hX.over hb, hM.over hb⟩
    have HN : Hid ((scells (.slice X1 X2 X3) (.slice M1 M2 M3) a).length = 20) := scells_len (ka)
    have HN1 : Hid (∀ v ∈ scells (.slice X1 X2 X3) (.slice M1 M2 M3) a, v.oneCell' = true) := scells_one rfl rfl
    obtain ⟨cs, hcs⟩ : ∃ c, c = scells (.slice X1 X2 X3) (.slice M1 M2 M3) a := ⟨_, rfl⟩
    rw [← hcs] at HL HO1 HI HN HN1 ⊢
    clear hcs HA hX hM
    go_enter Tryd.func87, Tryd.ntmps87
    go_wp2_with (first
      | ((with_reducible show wpList _ _ _ (⟨some 3, _, _, _, _, _⟩ :: _) _ _); refine wpList_box_blk rfl _ (.tmp 1) rfl cs rfl ?_; intro g w1 hg1 hg2 K1 L1)
      | ((with_reducible show wpList _ _ _ (⟨some 4, _, _, _, _, _⟩ :: _) _ _); refine wpList_alloc_blk rfl _ rfl zs _ ZH ?_; intro h w2 hg3 hg4 Z2 L02; have G2 := Lib.hid (K1.out.over L02.out); have L2 := Lib.hid (step L1.out L02.out); have hgh : g ≠ h := (by omega); have hhw : w.heap.size ≤ h := (by have := L1.out.size; omega))
      | ((with_reducible show wpList _ _ _ (⟨some 20, _, _, _, _, _⟩ :: _) _ _); refine wpList_load_blk rfl _ (.tmp 3) rfl g rfl _ cs G2 20 _ Tryd.underlying45 rfl size_say HN ?_)
      | ((with_reducible show wpList _ _ _ (⟨none, .store _ (.tmp 4) _, _, _, _, _⟩ :: _) _ _); refine wpList_store_blk rfl _ (.tmp 4) (.tmp 20) rfl h rfl _ zs cs rfl Z2 20 size_say HZ HN HN1 ?_; intro w9 K9 O9 hg9)
      | fail)
    have L9 := Lib.hid (below_only L2.out O9.out hhw)
    refine bodyPost_ret (v := .tuple #[.agg cs.toArray, .bool true]) ?_ rfl (HQ.out _ _ ⟨_, rfl, HI.out w9 L9.out, L9.out⟩)
    exact results_cell_two rfl _ _ h _ _ (0, 0) _ rfl K9.out Tryd.underlying45 rfl (by rw [size_say]; have := HN.out; simp [this]) rfl
  by_cases h13 : c = 13
  · subst h13
    have e0 : (if knownT 13 = true then besideSay 13 a else zeroSay) = a := rfl
    rw [e0, show knownT 13 = true from rfl] at HQ
    clear e0
    obtain ⟨X1, X2, X3, M1, M2, M3, rfl, hX, hM⟩ := ha
    have HI : Hid (∀ w' : World, Below w.heap.size w w' → SayIs w' w'.heap.size (scells (.slice X1 X2 X3) (.slice M1 M2 M3) a) (a)) := fun w' hb => ⟨X1, X2, X3, M1, M2, M3, rfl, hX.over hb, hM.over hb⟩
    have HN : Hid ((scells (.slice X1 X2 X3) (.slice M1 M2 M3) a).length = 20) := scells_len (ka)
    have HN1 : Hid (∀ v ∈ scells (.slice X1 X2 X3) (.slice M1 M2 M3) a, v.oneCell' = true) := scells_one rfl rfl
    obtain ⟨cs, hcs⟩ : ∃ c, c = scells (.slice X1 X2 X3) (.slice M1 M2 M3) a := ⟨_, rfl⟩
    rw [← hcs] at HL HO1 HI HN HN1 ⊢
    clear hcs HA hX hM
    go_enter Tryd.func87, Tryd.ntmps87
    go_wp2_with (first
      | ((with_reducible show wpList _ _ _ (⟨some 3, _, _, _, _, _⟩ :: _) _ _); refine wpList_box_blk rfl _ (.tmp 1) rfl cs rfl ?_; intro g w1 hg1 hg2 K1 L1)
      | ((with_reducible show wpList _ _ _ (⟨some 4, _, _, _, _, _⟩ :: _) _ _); refine wpList_alloc_blk rfl _ rfl zs _ ZH ?_; intro h w2 hg3 hg4 Z2 L02; have G2 := Lib.hid (K1.out.over L02.out); have L2 := Lib.hid (step L1.out L02.out); have hgh : g ≠ h := (by omega); have hhw : w.heap.size ≤ h := (by have := L1.out.size; omega))
      | ((with_reducible show wpList _ _ _ (⟨some 20, _, _, _, _, _⟩ :: _) _ _); refine wpList_load_blk rfl _ (.tmp 3) rfl g rfl _ cs G2 20 _ Tryd.underlying45 rfl size_say HN ?_)
      | ((with_reducible show wpList _ _ _ (⟨none, .store _ (.tmp 4) _, _, _, _, _⟩ :: _) _ _); refine wpList_store_blk rfl _ (.tmp 4) (.tmp 20) rfl h rfl _ zs cs rfl Z2 20 size_say HZ HN HN1 ?_; intro w9 K9 O9 hg9)
      | fail)
    have L9 := Lib.hid (below_only L2.out O9.out hhw)
    refine bodyPost_ret (v := .tuple #[.agg cs.toArray, .bool true]) ?_ rfl (HQ.out _ _ ⟨_, rfl, HI.out w9 L9.out, L9.out⟩)
    exact results_cell_two rfl _ _ h _ _ (0, 0) _ rfl K9.out Tryd.underlying45 rfl (by rw [size_say]; have := HN.out; simp [this]) rfl
  have hk : knownT c = false := by unfold knownT; simp; omega
  rw [if_neg (by rw [hk]; decide), hk] at HQ
  have b0 : (c == 0) = false := by simpa using h0
  have b1 : (c == 1) = false := by simpa using h1
  have b3 : (c == 3) = false := by simpa using h3
  have b2 : (c == 2) = false := by simpa using h2
  have b4 : (c == 4) = false := by simpa using h4
  have b13 : (c == 13) = false := by simpa using h13
  go_enter Tryd.func87, Tryd.ntmps87
  go_wp2_with (first
    | ((with_reducible show wpList _ _ _ (⟨some 3, _, _, _, _, _⟩ :: _) _ _); refine wpList_box_blk rfl _ (.tmp 1) rfl cs rfl ?_; intro g w1 hg1 hg2 K1 L1)
    | ((with_reducible show wpList _ _ _ (⟨some 4, _, _, _, _, _⟩ :: _) _ _); refine wpList_alloc_blk rfl _ rfl zs _ ZH ?_; intro h w2 hg3 hg4 Z2 L02; have G2 := Lib.hid (K1.out.over L02.out); have L2 := Lib.hid (step L1.out L02.out); have hgh : g ≠ h := (by omega); have hhw : w.heap.size ≤ h := (by have := L1.out.size; omega))
    | ((with_reducible show wpList _ _ _ (⟨some 7, _, _, _, _, _⟩ :: _) _ _); refine wpList_build_none rfl _ rfl zs BZ ?_)
    | ((with_reducible show wpList _ _ _ (⟨none, .store _ (.tmp 4) _, _, _, _, _⟩ :: _) _ _); refine wpList_store_blk rfl _ (.tmp 4) (.tmp 7) rfl h rfl _ zs zs rfl Z2 20 size_say HZ HZ HZ1 ?_; intro w9 K9 O9 hg9)
    | fail)
  have L9 := Lib.hid (below_only L2.out O9.out hhw)
  refine bodyPost_ret (v := .tuple #[.agg zs.toArray, .bool false]) ?_ rfl (HQ.out _ _ ⟨_, rfl, HZI.out w9, L9.out⟩)
  exact results_cell_two rfl _ _ h _ _ (0, 0) _ rfl K9.out Tryd.underlying45 rfl (by rw [size_say]; have := HZ.out; simp [this]) rfl
end Go.Proofs.YtbbjmmooemmeiaaDoor

namespace Go.Proofs.YtbbjmmooemmeiaaDoor
set_option linter.all false
open Go.RowKit
set_option linter.unusedVariables false
set_option maxRecDepth 100000
theorem scells_chalH {vx ve : Value} {s : SayV} {w : World} {g : Nat} {T : TypeId} (k : s.ok) (h : Blk w g T (scells vx ve s)) : Holds w w.heap.size (some ⟨g, 2, none⟩) 8 8 s.chal := by
  have hr := scells_chal h k
  refine ⟨k.clen, Nat.le_refl _, by decide, k.cbyte, fun hA => (by cases hA), fun _ => ⟨g, 2, rfl, h.lt, fun i hi => ?_⟩⟩
  rw [hr i (.int .u8 (s.chal.getD i 0)) (by
    have : i < s.chal.length := by rw [k.clen]; exact hi
    simp [List.getD_eq_getElem?_getD, this])]
end Go.Proofs.YtbbjmmooemmeiaaDoor

namespace Go.Proofs.YtbbjmmooemmeiaaDoor
set_option linter.all false
open Go.RowKit
section
variable {P : Program} {ops : Array Oper} {Q : Exit → Act → World → Prop}
theorem wpAnyH_two {md : Region.Mode} {S : World → Prop} (i j : Nat) (oi oj : Oper) {fuel : Nat} {listed : Array Bool} {a : Act} {w : World} (hr : Region.ready md ops listed = [i, j]) (hi : ops[i]? = some oi) (hj : ops[j]? = some oj)
    (h1 : ∀ K : Act → World → Prop, (∀ a' w', S w' → wpAnyH P md ops Q S fuel (listed.setIfInBounds i true) a' w' → K a' w') → if Region.wanted oi (yielded ops a.tmps) = true then oi.wp P a w K Q else K (a.put oi.dst undef) w)
    (h2 : ∀ K : Act → World → Prop, (∀ a' w', S w' → wpAnyH P md ops Q S fuel (listed.setIfInBounds j true) a' w' → K a' w') → if Region.wanted oj (yielded ops a.tmps) = true then oj.wp P a w K Q else K (a.put oj.dst undef) w) :
    wpAnyH P md ops Q S (fuel + 1) listed a w := by
  refine wpAnyH_all hr (by simp) fun q hq => ?_
  rcases List.mem_cons.1 hq with rfl | hq
  · have h3 := h1 (fun a' w' => S w' ∧ wpAnyH P md ops Q S fuel (listed.setIfInBounds q true) a' w') fun _ _ h2 h3 => ⟨h2, h3⟩
    unfold wpOp
    simp only [hi]
    by_cases hw : Region.wanted oi (yielded ops a.tmps) = true
    · rw [if_pos hw] at h3 ⊢
      exact .inl h3
    · rw [if_neg hw] at h3 ⊢
      exact h3
  · obtain rfl := List.mem_singleton.1 hq
    have h3 := h2 (fun a' w' => S w' ∧ wpAnyH P md ops Q S fuel (listed.setIfInBounds q true) a' w') fun _ _ h2 h3 => ⟨h2, h3⟩
    unfold wpOp
    simp only [hj]
    by_cases hw : Region.wanted oj (yielded ops a.tmps) = true
    · rw [if_pos hw] at h3 ⊢
      exact .inl h3
    · rw [if_neg hw] at h3 ⊢
      exact h3
end
end Go.Proofs.YtbbjmmooemmeiaaDoor

namespace Go.Proofs.YtbbjmmooemmeiaaDoor
set_option linter.all false
open Go.RowKit
set_option linter.unusedVariables false
set_option maxRecDepth 100000
def sayErrP (c : Int) (s : SayV) : Int := if knownT c = true ∧ besideSay c s = zeroSay ∧ (c = 0 → s.siz < 4294967296) then 0 else 2
def sayOfP (c : Int) (s : SayV) : List Int := if sayErrP c s = 0 then (if c = 0 then le s.dia 2 ++ List.replicate 2 0 ++ le s.siz 4 ++ s.chal else List.replicate 4 0) else []
def PSayPost (w : World) (c : Int) (s : SayV) (e : Ending) (w' : World) : Prop := ∃ v, e = .returned (.tuple #[v, .int .i64 (sayErrP c s)]) ∧ Own w' w.heap.size v (sayOfP c s) ∧ Below w.heap.size w w'
theorem step_make_bytes {o : Oper} {ops : Array Oper} {a : Act} {w : World} {K : Act → World → Prop} {Q : Exit → Act → World → Prop} {E : Prop} (hg : o.guard = none) (l c : Operand) (hop : o.op = Op.makeSlice 29 l c) (n : Nat) (hl : a.eval l = .int .i64 (n : Int)) (hc : a.eval c = .int .i64 (n : Int)) (hn : n ≤ 281474976710656)
    (hK : ∀ w', Hid (Row w' w.heap.size (List.replicate n 0)) → Hid (Below w.heap.size w w') → K (a.put o.dst (.slice (some ⟨w.heap.size, 0, none⟩) n n)) w') :
    if Region.wanted o (yielded ops a.tmps) = true then Oper.wp Tryd.prog o a w K Q else E := by
  rw [if_pos (by simp [Region.wanted, hg])]
  have hrun := run_make_row' (P := Tryd.prog) 29 5 (.int .u8 0) 1 Tryd.underlying29 info_u8 rfl .i64 .i64 n (by omega) (by omega) w
  unfold Oper.wp
  simp [execOp, hop, hl, hc, hrun, Result.andThen]
  refine hK _ ?_ ((Below.refl _ _).alloc (Nat.le_refl _) _)
  show (w.alloc _).heap[w.heap.size]? = _
  rw [heap_alloc_new]
  have h := toList_madeCells_one (.int .u8 0) n
  rw [List.map_replicate, ← h]
theorem Parts.of_blk {w : World} {g : Nat} {T : TypeId} (l : List PartT) (h : Blk w g T (l.map partV)) (hh : ∀ p ∈ l, Holds w w.heap.size p.1 p.2.1 p.2.2.1 p.2.2.2) : Parts w g l.length (partA l) (partN l) (partC l) (partX l) := by
  refine ⟨h.lt, fun i hi => ?_, fun i hi => ?_⟩
  · rw [h.cell]
    simp [partA, partN, partC, List.getD_eq_getElem?_getD, hi, partV]
  · have he : l.getD i part0 = l[i] := by simp [List.getD_eq_getElem?_getD, hi]
    have := hh l[i] (List.getElem_mem hi)
    unfold partA partN partC partX
    rw [he]
    exact this
set_option maxHeartbeats 4000000 in
theorem PutSay_any (w : World) (c : Int) (cs : List Value) (a : SayV) (hc : 0 ≤ c ∧ c ≤ 65535) (ka : a.ok) (ha : SayIs w w.heap.size cs a) :
    Calls Tryd.prog 69 #[.int .u16 c, .agg cs.toArray] w (PSayPost w c a) := by
  have HL := Lib.hid (ha.len ka)
  have HO1 := Lib.hid ha.one
  have ZH := Lib.hid zero_say
  have HZ : Hid ((scells (.slice none 0 0) (.slice none 0 0) zeroSay).length = 20) := scells_len zeroSay_ok
  have HA := Lib.hid ha
  have CB : Hid (∀ w' : World, Below w.heap.size w w' → Calls Tryd.prog 87 #[.int .u16 c, .agg cs.toArray] w' fun e w2 => ∃ ds, e = .returned (.tuple #[.agg ds.toArray, .bool (knownT c)]) ∧ SayIs w2 w2.heap.size ds (if knownT c = true then besideSay c a else zeroSay) ∧ Below w'.heap.size w' w2) := fun w' hb => sayBeside_any w' c cs a hc ka (ha.over hb)
  obtain ⟨zs, hzs⟩ : ∃ zs, zs = scells (.slice none 0 0) (.slice none 0 0) zeroSay := ⟨_, rfl⟩
  rw [← hzs] at ZH HZ
  clear hzs
  by_cases hk : knownT c = true
  rotate_left
  · have hk' : knownT c = false := by simpa using hk
    have HQ : Hid (∀ e w', e = .returned (.tuple #[.slice none 0 0, .int .i64 2]) → Below w.heap.size w w' → PSayPost w c a e w') := by
      intro e w' he hb
      have h2 : sayErrP c a = 2 := by unfold sayErrP; rw [if_neg (fun h => hk h.1)]
      unfold PSayPost sayOfP
      rw [h2, if_neg (by decide)]
      exact ⟨_, he, Own.nil _ _, hb⟩
    rw [if_neg hk, hk'] at CB
    have kb := zeroSay_ok
    clear hk hk' HA ka ha
    go_enter Tryd.func69, Tryd.ntmps69
    go_wp2_with (first
      | ((with_reducible show wpList _ _ _ (⟨some 3, _, _, _, _, _⟩ :: _) _ _); refine wpList_box_blk rfl _ (.tmp 1) rfl cs rfl ?_; intro g w1 hg1 hg2 K1 L1)
      | ((with_reducible show wpList _ _ _ (⟨some 12, _, _, _, _, _⟩ :: _) _ _); refine wpList_load_blk rfl _ (.tmp 3) rfl g rfl _ cs K1 20 _ Tryd.underlying45 rfl size_say HL ?_)
      | fail)
    refine (CB.out w1 L1.out).mono ?_
    rintro e w2 ⟨ds, rfl, hds, L2⟩
    have HD := Lib.hid hds
    have HDL := Lib.hid (hds.len kb)
    have HDO := Lib.hid hds.one
    have K2 := Lib.hid (K1.out.over L2)
    have M2 := Lib.hid (step L1.out L2)
    clear hds L2 K1
    go_wp2_with (first
      | ((with_reducible show wpList _ _ _ (⟨some 6, _, _, _, _, _⟩ :: _) _ _); refine wpList_alloc_blk rfl _ rfl zs _ ZH ?_; intro h w3 hg3 hg4 Z3 L3)
      | ((with_reducible show wpList _ _ _ (⟨none, .store _ (.tmp 6) _, _, _, _, _⟩ :: _) _ _); refine wpList_store_blk rfl _ (.tmp 6) (.tmp 14) rfl h rfl _ zs ds rfl Z3 20 size_say HZ HDL HDO ?_; intro w4 X4 O4 hg5; have L4 := Lib.hid (below_only L3.out O4.out hg3); have M4 := Lib.hid (step M2.out L4.out); have K4 := Lib.hid (K2.out.over L4.out); have HD4 := Lib.hid (HD.out.over L4.out))
      | fail)
    go_ret2
    exact HQ.out _ _ rfl M4.out
  rw [if_pos hk, hk] at CB
  have kb := besideSay_ok (c := c) ka
  have CZ : Hid (∀ (w' : World) (ds : List Value), SayIs w' w'.heap.size ds (besideSay c a) → Calls Tryd.prog 88 #[.agg ds.toArray] w' fun e w2 => e = .returned (.bool (decide (besideSay c a = zeroSay))) ∧ Below w'.heap.size w' w2) := fun w' ds hds => isZeroSay_any w' ds _ kb hds
  by_cases hz : besideSay c a = zeroSay
  rotate_left
  · rw [decide_eq_false hz] at CZ
    have HQ : Hid (∀ e w', e = .returned (.tuple #[.slice none 0 0, .int .i64 2]) → Below w.heap.size w w' → PSayPost w c a e w') := by
      intro e w' he hb
      have h2 : sayErrP c a = 2 := by unfold sayErrP; rw [if_neg (fun h => hz h.2.1)]
      unfold PSayPost sayOfP
      rw [h2, if_neg (by decide)]
      exact ⟨_, he, Own.nil _ _, hb⟩
    obtain ⟨b, hb⟩ : ∃ b, b = besideSay c a := ⟨_, rfl⟩
    rw [← hb] at CB CZ kb
    clear hk hz HA ka ha hb
    go_enter Tryd.func69, Tryd.ntmps69
    go_wp2_with (first
      | ((with_reducible show wpList _ _ _ (⟨some 3, _, _, _, _, _⟩ :: _) _ _); refine wpList_box_blk rfl _ (.tmp 1) rfl cs rfl ?_; intro g w1 hg1 hg2 K1 L1)
      | ((with_reducible show wpList _ _ _ (⟨some 12, _, _, _, _, _⟩ :: _) _ _); refine wpList_load_blk rfl _ (.tmp 3) rfl g rfl _ cs K1 20 _ Tryd.underlying45 rfl size_say HL ?_)
      | fail)
    refine (CB.out w1 L1.out).mono ?_
    rintro e w2 ⟨ds, rfl, hds, L2⟩
    have HD := Lib.hid hds
    have HDL := Lib.hid (hds.len kb)
    have HDO := Lib.hid hds.one
    have K2 := Lib.hid (K1.out.over L2)
    have M2 := Lib.hid (step L1.out L2)
    clear hds L2 K1
    go_wp2_with (first
      | ((with_reducible show wpList _ _ _ (⟨some 6, _, _, _, _, _⟩ :: _) _ _); refine wpList_alloc_blk rfl _ rfl zs _ ZH ?_; intro h w3 hg3 hg4 Z3 L3)
      | ((with_reducible show wpList _ _ _ (⟨none, .store _ (.tmp 6) _, _, _, _, _⟩ :: _) _ _); refine wpList_store_blk rfl _ (.tmp 6) (.tmp 14) rfl h rfl _ zs ds rfl Z3 20 size_say HZ HDL HDO ?_; intro w4 X4 O4 hg5; have L4 := Lib.hid (below_only L3.out O4.out hg3); have M4 := Lib.hid (step M2.out L4.out); have K4 := Lib.hid (K2.out.over L4.out); have HD4 := Lib.hid (HD.out.over L4.out))
      | ((with_reducible show wpList _ _ _ (⟨some 19, _, _, _, _, _⟩ :: _) _ _); refine wpList_load_want (by kernel_rfl) _ (.tmp 6) rfl h rfl _ ds X4 20 _ Tryd.underlying45 rfl size_say HDL ?_)
      | fail)
    refine (CZ.out w4 ds HD4.out).mono ?_
    rintro e w5 ⟨rfl, L5⟩
    have M5 := Lib.hid (step M4.out L5)
    have K5 := Lib.hid (K4.out.over L5)
    have hs5 := M5.out.size
    clear L5 K4 HD4 HD CZ CB X4 O4 Z3 L3 L4 M4 M2 K2
    go_wp2
    go_ret2
    exact HQ.out _ _ rfl M5.out
  rw [decide_eq_true hz] at CZ
  by_cases h0 : c = 0
  rotate_left
  · have h2 : sayErrP c a = 0 := by unfold sayErrP; rw [if_pos ⟨hk, hz, fun h => absurd h h0⟩]
    have HQ : Hid (∀ e w', (∃ v, e = .returned (.tuple #[v, .int .i64 0]) ∧ Own w' w.heap.size v (List.replicate 4 0) ∧ Below w.heap.size w w') → PSayPost w c a e w') := by
      intro e w' hh
      unfold PSayPost sayOfP
      rw [h2, if_pos rfl, if_neg h0]
      exact hh
    have b0 : (c != 0) = true := by simpa using h0
    obtain ⟨b, hb⟩ : ∃ b, b = besideSay c a := ⟨_, rfl⟩
    rw [← hb] at CB CZ kb
    clear hk hz HA ka ha h2 h0 hb
    go_enter Tryd.func69, Tryd.ntmps69
    go_wp2_with (first
      | ((with_reducible show wpList _ _ _ (⟨some 3, _, _, _, _, _⟩ :: _) _ _); refine wpList_box_blk rfl _ (.tmp 1) rfl cs rfl ?_; intro g w1 hg1 hg2 K1 L1)
      | ((with_reducible show wpList _ _ _ (⟨some 12, _, _, _, _, _⟩ :: _) _ _); refine wpList_load_blk rfl _ (.tmp 3) rfl g rfl _ cs K1 20 _ Tryd.underlying45 rfl size_say HL ?_)
      | fail)
    refine (CB.out w1 L1.out).mono ?_
    rintro e w2 ⟨ds, rfl, hds, L2⟩
    have HD := Lib.hid hds
    have HDL := Lib.hid (hds.len kb)
    have HDO := Lib.hid hds.one
    have K2 := Lib.hid (K1.out.over L2)
    have M2 := Lib.hid (step L1.out L2)
    clear hds L2 K1
    go_wp2_with (first
      | ((with_reducible show wpList _ _ _ (⟨some 6, _, _, _, _, _⟩ :: _) _ _); refine wpList_alloc_blk rfl _ rfl zs _ ZH ?_; intro h w3 hg3 hg4 Z3 L3)
      | ((with_reducible show wpList _ _ _ (⟨none, .store _ (.tmp 6) _, _, _, _, _⟩ :: _) _ _); refine wpList_store_blk rfl _ (.tmp 6) (.tmp 14) rfl h rfl _ zs ds rfl Z3 20 size_say HZ HDL HDO ?_; intro w4 X4 O4 hg5; have L4 := Lib.hid (below_only L3.out O4.out hg3); have M4 := Lib.hid (step M2.out L4.out); have K4 := Lib.hid (K2.out.over L4.out); have HD4 := Lib.hid (HD.out.over L4.out))
      | ((with_reducible show wpList _ _ _ (⟨some 19, _, _, _, _, _⟩ :: _) _ _); refine wpList_load_want (by kernel_rfl) _ (.tmp 6) rfl h rfl _ ds X4 20 _ Tryd.underlying45 rfl size_say HDL ?_)
      | fail)
    refine (CZ.out w4 ds HD4.out).mono ?_
    rintro e w5 ⟨rfl, L5⟩
    have M5 := Lib.hid (step M4.out L5)
    have K5 := Lib.hid (K4.out.over L5)
    have hs5 := M5.out.size
    clear L5 K4 HD4 HD CZ CB X4 O4 Z3 L3 L4 M4 M2 K2
    go_wp2_with (at_make; refine wpList_make_bytes _ rfl _ _ rfl _ _ 4 rfl rfl rfl rfl (by omega) ?_; intro w6 R6 L6)
    go_ret2
    exact HQ.out _ _ ⟨_, rfl, row_zeros R6.out hs5 (by omega), step M5.out L6⟩
  have b0 : (c != 0) = false := by simpa using h0
  have FA : Hid (∀ (w : World) (g : Nat), Blk w g 45 cs → w.cell? ⟨g, 0, none⟩ = some (.int .u16 a.dia) ∧ w.cell? ⟨g, 1, none⟩ = some (.int .u64 a.siz) ∧ Holds w w.heap.size (some ⟨g, 2, none⟩) 8 8 a.chal) := by
    intro w g h
    obtain ⟨X1, X2, X3, M1, M2, M3, rfl, _⟩ := HA.out
    exact ⟨h.at rfl, h.at rfl, scells_chalH ka h⟩
  obtain ⟨s0, s1⟩ := ka.siz
  obtain ⟨d0, d1⟩ := ka.dia
  by_cases hs : a.siz < 4294967296
  rotate_left
  · have h2 : sayErrP c a = 2 := by unfold sayErrP; rw [if_neg (fun h => hs (h.2.2 h0))]
    have HQ : Hid (∀ e w', e = .returned (.tuple #[.slice none 0 0, .int .i64 2]) → Below w.heap.size w w' → PSayPost w c a e w') := by
      intro e w' he hb
      unfold PSayPost sayOfP
      rw [h2, if_neg (by decide)]
      exact ⟨_, he, Own.nil _ _, hb⟩
    have CP : Hid (∀ w' : World, Calls Tryd.prog 81 #[.int .u64 a.siz, .int .i64 4] w' fun e w2 => ∃ A', e = .returned (.tuple #[.slice A' 0 0, .int .i64 2]) ∧ Below w'.heap.size w' w2) := fun w' => by
      have h := Put_any w' a.siz 4 ⟨s0, s1⟩ (by omega)
      unfold PutPost at h
      have hp : putOk a.siz 4 = false := by unfold putOk; rw [show ((4 : Int).toNat) = 4 from rfl, show (256 : Int) ^ 4 = 4294967296 from by decide, decide_eq_false hs]; simp
      unfold putErr putOf at h
      rw [if_neg (by rw [hp]; decide), if_neg (by rw [hp]; decide)] at h
      exact h.mono fun e w2 ⟨A', h1, _, h3⟩ => ⟨A', h1, h3⟩
    obtain ⟨sz, hsz⟩ : ∃ x, x = a.siz := ⟨_, rfl⟩
    rw [← hsz] at FA CP
    obtain ⟨b, hb⟩ : ∃ b, b = besideSay c a := ⟨_, rfl⟩
    rw [← hb] at CB CZ kb
    clear hk hz HA ka ha h2 h0 hb hs s0 s1 hsz
    go_enter Tryd.func69, Tryd.ntmps69
    go_wp2_with (first
      | ((with_reducible show wpList _ _ _ (⟨some 3, _, _, _, _, _⟩ :: _) _ _); refine wpList_box_blk rfl _ (.tmp 1) rfl cs rfl ?_; intro g w1 hg1 hg2 K1 L1)
      | ((with_reducible show wpList _ _ _ (⟨some 12, _, _, _, _, _⟩ :: _) _ _); refine wpList_load_blk rfl _ (.tmp 3) rfl g rfl _ cs K1 20 _ Tryd.underlying45 rfl size_say HL ?_)
      | fail)
    refine (CB.out w1 L1.out).mono ?_
    rintro e w2 ⟨ds, rfl, hds, L2⟩
    have HD := Lib.hid hds
    have HDL := Lib.hid (hds.len kb)
    have HDO := Lib.hid hds.one
    have K2 := Lib.hid (K1.out.over L2)
    have M2 := Lib.hid (step L1.out L2)
    clear hds L2 K1
    go_wp2_with (first
      | ((with_reducible show wpList _ _ _ (⟨some 6, _, _, _, _, _⟩ :: _) _ _); refine wpList_alloc_blk rfl _ rfl zs _ ZH ?_; intro h w3 hg3 hg4 Z3 L3)
      | ((with_reducible show wpList _ _ _ (⟨none, .store _ (.tmp 6) _, _, _, _, _⟩ :: _) _ _); refine wpList_store_blk rfl _ (.tmp 6) (.tmp 14) rfl h rfl _ zs ds rfl Z3 20 size_say HZ HDL HDO ?_; intro w4 X4 O4 hg5; have L4 := Lib.hid (below_only L3.out O4.out hg3); have M4 := Lib.hid (step M2.out L4.out); have K4 := Lib.hid (K2.out.over L4.out); have HD4 := Lib.hid (HD.out.over L4.out))
      | ((with_reducible show wpList _ _ _ (⟨some 19, _, _, _, _, _⟩ :: _) _ _); refine wpList_load_want (by kernel_rfl) _ (.tmp 6) rfl h rfl _ ds X4 20 _ Tryd.underlying45 rfl size_say HDL ?_)
      | fail)
    refine (CZ.out w4 ds HD4.out).mono ?_
    rintro e w5 ⟨rfl, L5⟩
    have M5 := Lib.hid (step M4.out L5)
    have K5 := Lib.hid (K4.out.over L5)
    have hs5 := M5.out.size
    clear L5 K4 HD4 HD CZ CB X4 O4 Z3 L3 L4 M4 M2 K2
    obtain ⟨_, gd, _⟩ := FA.out _ _ K5.out
    go_wp2_with fail
    refine (CP.out w5).mono ?_
    rintro e w6 ⟨A', rfl, L6⟩
    go_wp2
    go_ret2
    exact HQ.out _ _ rfl (step M5.out L6)
  have h2 : sayErrP c a = 0 := by unfold sayErrP; rw [if_pos ⟨hk, hz, fun _ => hs⟩]
  have HQ : Hid (∀ e w', (∃ v, e = .returned (.tuple #[v, .int .i64 0]) ∧ Own w' w.heap.size v (le a.dia 2 ++ List.replicate 2 0 ++ le a.siz 4 ++ a.chal) ∧ Below w.heap.size w w') → PSayPost w c a e w') := by
    intro e w' hh
    unfold PSayPost sayOfP
    rw [h2, if_pos rfl, if_pos h0]
    exact hh
  have CP : Hid (∀ w' : World, Calls Tryd.prog 81 #[.int .u64 a.siz, .int .i64 4] w' fun e w2 => ∃ A', e = .returned (.tuple #[.slice A' 4 4, .int .i64 0]) ∧ Fresh w2 w'.heap.size A' (le a.siz 4) ∧ Below w'.heap.size w' w2) := fun w' => by
    have h := Put_any w' a.siz 4 ⟨s0, s1⟩ (by omega)
    unfold PutPost at h
    have hp : putOk a.siz 4 = true := by unfold putOk; rw [show ((4 : Int).toNat) = 4 from rfl, show (256 : Int) ^ 4 = 4294967296 from by decide, decide_eq_true hs]; rfl
    unfold putErr putOf at h
    rw [if_pos hp, if_pos hp, show ((4 : Int).toNat) = 4 from rfl, le_length] at h
    exact h
  have CD : Hid (∀ w' : World, Calls Tryd.prog 89 #[.int .u64 a.dia, .int .i64 2] w' fun e w2 => ∃ A', e = .returned (.slice A' 2 2) ∧ Fresh w2 w'.heap.size A' (le a.dia 2) ∧ Below w'.heap.size w' w2) := fun w' => number_le w' a.dia d0 d1
  have CC : Hid (∀ (w : World) (gs m : Nat) (A : Nat → Option Addr) (n c : Nat → Nat) (X : Nat → List Int), Parts w gs m A n c X → m ≤ 1000 → sumN n m ≤ 140737488355328 → Calls Tryd.prog 80 #[.slice (some ⟨gs, 0, none⟩) m m] w fun e w' => ∃ v, e = .returned v ∧ Own w' w.heap.size v (catL X m) ∧ Below w.heap.size w w') := ConcatN_any
  have hdz : IntKind.u64.wrap a.dia = a.dia := by rw [IntKind.wrap_u64]; omega
  have HLS : Hid ((le a.siz 4).length = 4) := le_length _ _
  have HBS : Hid (Bytes (le a.siz 4)) := le_bytes _ _
  have HLD : Hid ((le a.dia 2).length = 2) := le_length _ _
  have HBD : Hid (Bytes (le a.dia 2)) := le_bytes _ _
  obtain ⟨ls, hls⟩ : ∃ x, x = le a.siz 4 := ⟨_, rfl⟩
  obtain ⟨ld, hld⟩ : ∃ x, x = le a.dia 2 := ⟨_, rfl⟩
  rw [← hls, ← hld] at HQ
  rw [← hls] at CP HLS HBS
  rw [← hld] at CD HLD HBD
  obtain ⟨sz, hsz⟩ : ∃ x, x = a.siz := ⟨_, rfl⟩
  obtain ⟨dz, hdz'⟩ : ∃ x, x = a.dia := ⟨_, rfl⟩
  obtain ⟨ch, hch⟩ : ∃ x, x = a.chal := ⟨_, rfl⟩
  rw [← hsz, ← hdz', ← hch] at FA
  rw [← hsz] at CP
  rw [← hdz'] at CD hdz
  rw [← hch] at HQ
  obtain ⟨b, hb⟩ : ∃ b, b = besideSay c a := ⟨_, rfl⟩
  rw [← hb] at CB CZ kb
  clear hk hz HA ka ha h2 h0 hb hs s0 s1 d0 d1 hsz hdz' hch hls hld
  go_enter Tryd.func69, Tryd.ntmps69
  go_wp2_with (first
    | ((with_reducible show wpList _ _ _ (⟨some 3, _, _, _, _, _⟩ :: _) _ _); refine wpList_box_blk rfl _ (.tmp 1) rfl cs rfl ?_; intro g w1 hg1 hg2 K1 L1)
    | ((with_reducible show wpList _ _ _ (⟨some 12, _, _, _, _, _⟩ :: _) _ _); refine wpList_load_blk rfl _ (.tmp 3) rfl g rfl _ cs K1 20 _ Tryd.underlying45 rfl size_say HL ?_)
    | fail)
  refine (CB.out w1 L1.out).mono ?_
  rintro e w2 ⟨ds, rfl, hds, L2⟩
  have HD := Lib.hid hds
  have HDL := Lib.hid (hds.len kb)
  have HDO := Lib.hid hds.one
  have K2 := Lib.hid (K1.out.over L2)
  have M2 := Lib.hid (step L1.out L2)
  clear hds L2 K1
  go_wp2_with (first
    | ((with_reducible show wpList _ _ _ (⟨some 6, _, _, _, _, _⟩ :: _) _ _); refine wpList_alloc_blk rfl _ rfl zs _ ZH ?_; intro h w3 hg3 hg4 Z3 L3)
    | ((with_reducible show wpList _ _ _ (⟨none, .store _ (.tmp 6) _, _, _, _, _⟩ :: _) _ _); refine wpList_store_blk rfl _ (.tmp 6) (.tmp 14) rfl h rfl _ zs ds rfl Z3 20 size_say HZ HDL HDO ?_; intro w4 X4 O4 hg5; have L4 := Lib.hid (below_only L3.out O4.out hg3); have M4 := Lib.hid (step M2.out L4.out); have K4 := Lib.hid (K2.out.over L4.out); have HD4 := Lib.hid (HD.out.over L4.out))
    | ((with_reducible show wpList _ _ _ (⟨some 19, _, _, _, _, _⟩ :: _) _ _); refine wpList_load_want (by kernel_rfl) _ (.tmp 6) rfl h rfl _ ds X4 20 _ Tryd.underlying45 rfl size_say HDL ?_)
    | fail)
  refine (CZ.out w4 ds HD4.out).mono ?_
  rintro e w5 ⟨rfl, L5⟩
  have M5 := Lib.hid (step M4.out L5)
  have K5 := Lib.hid (K4.out.over L5)
  have hs5 := M5.out.size
  clear L5 K4 HD4 HD CZ CB X4 O4 Z3 L3 L4 M4 M2 K2
  obtain ⟨_, gd, _⟩ := FA.out _ _ K5.out
  go_wp2_with fail
  refine (CP.out w5).mono ?_
  rintro e w6 ⟨A6, rfl, hf6, L6⟩
  have K6 := Lib.hid (K5.out.over L6)
  have M6 := Lib.hid (step M5.out L6)
  have HF6 := Lib.hid (hf6.holds HLS.out HBS.out (by omega))
  clear hf6 L6 gd CP K5
  go_upto_region 9 with fail
  refine wp_region_held (S := fun w' => Blk w' g 45 cs) (by kernel_rfl) ?_
  change wpAnyH _ _ _ _ _ _ _ _ w6.drew
  have S0 : Hid (Blk w6.drew g 45 cs) := K6.out.drew
  have b0 : Hid (Below w.heap.size w w6.drew) := M6.out.drew
  refine wpAnyH_take (i := 0) (v := _) rfl (by kernel_rfl) (by kernel_rfl) (by kernel_rfl) (fun _ _ _ h => h) (yieldsIf_fld (by kernel_rfl) _ (.tmp 3) 0 rfl (.pointer (some ⟨g, 0, none⟩)) (.pointer (some ⟨g, 0, none⟩)) (by kernel_rfl) (fld_isZeroSay_0 g)) S0.out ?_
  refine wpAnyH_take (i := 1) (v := _) rfl (by kernel_rfl) (by kernel_rfl) (by kernel_rfl) (fun _ _ _ h => h) (yieldsIf_load_one (by kernel_rfl) _ (.tmp 35) rfl g 0 (by kernel_rfl) (.int .u16 dz) (fun w h => (FA.out w g h).1) _ Tryd.underlying22 rfl) S0.out ?_
  refine wpAnyH_take (i := 2) (v := (.int .u64 dz)) rfl (by kernel_rfl) (by kernel_rfl) (by kernel_rfl) (fun _ _ _ h => h) (.inl ⟨by kernel_rfl, fun w _ => by go_simp⟩) S0.out ?_
  refine wpAnyH_take (i := 5) (v := _) rfl (by kernel_rfl) (by kernel_rfl) (by kernel_rfl) (fun _ _ _ h => h) (yieldsIf_move (by kernel_rfl) (.tmp 8) rfl (.slice A6 4 4) (by kernel_rfl)) S0.out ?_
  refine wpAnyH_take (i := 6) (v := _) rfl (by kernel_rfl) (by kernel_rfl) (by kernel_rfl) (fun _ _ _ h => h) (yieldsIf_fld (by kernel_rfl) _ (.tmp 3) 2 rfl (.pointer (some ⟨g, 0, none⟩)) (.pointer (some ⟨g, 2, none⟩)) (by kernel_rfl) (fld_isZeroSay_2 g)) S0.out ?_
  refine wpAnyH_take (i := 7) (v := (.slice (some ⟨g, 2, none⟩) 8 8)) rfl (by kernel_rfl) (by kernel_rfl) (by kernel_rfl) (fun _ _ _ h => h) (.inl ⟨by kernel_rfl, fun w _ => by go_simp⟩) S0.out ?_
  refine wpAnyH_two 3 4 _ _ (by kernel_rfl) rfl rfl (fun K hK => ?_) (fun K hK => ?_)
  · go_simp
    refine (CD.out _).mono ?_
    rintro e v1 ⟨A3, rfl, hf3, L3⟩
    have S1 := Lib.hid (S0.out.over L3)
    have b1 := Lib.hid (step b0.out L3)
    have HN1 := Lib.hid (hf3.holds HLD.out HBD.out (by omega))
    have HS1 := Lib.hid (HF6.out.drew.over L3)
    refine hK _ _ S1.out ?_
    clear hK K hf3 L3
    refine wpAnyH_one 4 _ (by kernel_rfl) rfl fun K hK => ?_
    refine step_make_bytes rfl _ _ rfl 2 rfl rfl (by omega) ?_
    intro v2 R2 b2'
    have S2 := Lib.hid (S1.out.over b2'.out)
    have b2 := Lib.hid (step b1.out b2'.out)
    have HN2 := Lib.hid (HN1.out.over b2'.out)
    have HS2 := Lib.hid (HS1.out.over b2'.out)
    have HZ2 : Hid (Holds v2 v2.heap.size (some ⟨v1.heap.size, 0, none⟩) 2 2 (List.replicate 2 0)) := Fresh.holds (base := 0) (.inr ⟨_, rfl, Nat.zero_le _, R2.out⟩) rfl (Bytes.zeros 2) (by omega)
    refine hK _ _ S2.out ?_
    clear hK K
    refine wpAnyH_frame fun a1 ha1 => ?_
    refine wpAnyH_one 8 _ (by kernel_rfl) rfl fun K hK => ?_
    refine step_slice_blk rfl _ _ 4 _ rfl Tryd.underlying132 [.slice A3 2 2, .slice (some ⟨v1.heap.size, 0, none⟩) 2 2, .slice A6 4 4, .slice (some ⟨g, 2, none⟩) 8 8] (by rw [ha1]; kernel_rfl) ?_
    intro g9 v3 q2 q3 Y3 b3'
    have S3 := Lib.hid (S2.out.over b3'.out)
    have b3 := Lib.hid (step b2.out b3'.out)
    obtain ⟨_, _, hch⟩ := FA.out _ _ S3.out
    have PP : Hid (Parts v3 g9 4 (partA [(A3, 2, 2, ld), (some ⟨v1.heap.size, 0, none⟩, 2, 2, List.replicate 2 0), (A6, 4, 4, ls), (some ⟨g, 2, none⟩, 8, 8, ch)]) (partN [(A3, 2, 2, ld), (some ⟨v1.heap.size, 0, none⟩, 2, 2, List.replicate 2 0), (A6, 4, 4, ls), (some ⟨g, 2, none⟩, 8, 8, ch)]) (partC [(A3, 2, 2, ld), (some ⟨v1.heap.size, 0, none⟩, 2, 2, List.replicate 2 0), (A6, 4, 4, ls), (some ⟨g, 2, none⟩, 8, 8, ch)]) (partX [(A3, 2, 2, ld), (some ⟨v1.heap.size, 0, none⟩, 2, 2, List.replicate 2 0), (A6, 4, 4, ls), (some ⟨g, 2, none⟩, 8, 8, ch)])) :=
      Parts.of_blk [(A3, 2, 2, ld), (some ⟨v1.heap.size, 0, none⟩, 2, 2, List.replicate 2 0), (A6, 4, 4, ls), (some ⟨g, 2, none⟩, 8, 8, ch)] Y3.out (List.forall_mem_cons.2 ⟨HN2.out.over b3'.out, List.forall_mem_cons.2 ⟨HZ2.out.over b3'.out, List.forall_mem_cons.2 ⟨HS2.out.over b3'.out, List.forall_mem_cons.2 ⟨hch, fun _ h => by cases h⟩⟩⟩⟩)
    refine hK _ _ S3.out ?_
    clear hK K hch
    rw [ha1]
    clear ha1 a1
    refine wpAnyH_one 9 _ (by kernel_rfl) rfl fun K hK => ?_
    go_simp
    refine (CC.out v3 g9 4 _ _ _ _ PP.out (by omega) (by show 0 + 2 + 2 + 4 + 8 ≤ _; omega)).mono ?_
    rintro e v4 ⟨v, rfl, ho, L4⟩
    have HOUT := Lib.hid ho
    have S4 := Lib.hid (S3.out.over L4)
    have b4 := Lib.hid (step b3.out L4)
    refine hK _ _ S4.out ?_
    clear hK K ho L4
    refine wpAnyH_one 10 _ (by kernel_rfl) rfl fun K hK => ?_
    go_simp
    refine hK _ _ S4.out ?_
    clear hK K
    refine wpAnyH_one 11 _ (by kernel_rfl) rfl fun K hK => ?_
    go_simp
    refine hK _ _ S4.out ?_
    clear hK K
    refine wpAnyH_done (by kernel_rfl) ?_ _
    go_wp2
    go_ret2
    refine HQ.out _ _ ⟨_, rfl, ?_, b4.out⟩
    have h9 := HOUT.out.mono (base' := w.heap.size) b3.out.size
    simpa [catL, partX, List.append_assoc] using h9
  · refine step_make_bytes rfl _ _ rfl 2 rfl rfl (by omega) ?_
    intro v1 R1 b1'
    have S1 := Lib.hid (S0.out.over b1'.out)
    have b1 := Lib.hid (step b0.out b1'.out)
    have HS1 := Lib.hid (HF6.out.drew.over b1'.out)
    have HZ1 : Hid (Holds v1 v1.heap.size (some ⟨w6.drew.heap.size, 0, none⟩) 2 2 (List.replicate 2 0)) := Fresh.holds (base := 0) (.inr ⟨_, rfl, Nat.zero_le _, R1.out⟩) rfl (Bytes.zeros 2) (by omega)
    refine hK _ _ S1.out ?_
    clear hK K
    refine wpAnyH_one 3 _ (by kernel_rfl) rfl fun K hK => ?_
    go_simp
    refine (CD.out _).mono ?_
    rintro e v2 ⟨A3, rfl, hf3, L3⟩
    have S2 := Lib.hid (S1.out.over L3)
    have b2 := Lib.hid (step b1.out L3)
    have HN2 := Lib.hid (hf3.holds HLD.out HBD.out (by omega))
    have HS2 := Lib.hid (HS1.out.over L3)
    have HZ2 := Lib.hid (HZ1.out.over L3)
    refine hK _ _ S2.out ?_
    clear hK K hf3 L3
    refine wpAnyH_frame fun a1 ha1 => ?_
    refine wpAnyH_one 8 _ (by kernel_rfl) rfl fun K hK => ?_
    refine step_slice_blk rfl _ _ 4 _ rfl Tryd.underlying132 [.slice A3 2 2, .slice (some ⟨w6.drew.heap.size, 0, none⟩) 2 2, .slice A6 4 4, .slice (some ⟨g, 2, none⟩) 8 8] (by rw [ha1]; kernel_rfl) ?_
    intro g9 v3 q2 q3 Y3 b3'
    have S3 := Lib.hid (S2.out.over b3'.out)
    have b3 := Lib.hid (step b2.out b3'.out)
    obtain ⟨_, _, hch⟩ := FA.out _ _ S3.out
    have PP : Hid (Parts v3 g9 4 (partA [(A3, 2, 2, ld), (some ⟨w6.drew.heap.size, 0, none⟩, 2, 2, List.replicate 2 0), (A6, 4, 4, ls), (some ⟨g, 2, none⟩, 8, 8, ch)]) (partN [(A3, 2, 2, ld), (some ⟨w6.drew.heap.size, 0, none⟩, 2, 2, List.replicate 2 0), (A6, 4, 4, ls), (some ⟨g, 2, none⟩, 8, 8, ch)]) (partC [(A3, 2, 2, ld), (some ⟨w6.drew.heap.size, 0, none⟩, 2, 2, List.replicate 2 0), (A6, 4, 4, ls), (some ⟨g, 2, none⟩, 8, 8, ch)]) (partX [(A3, 2, 2, ld), (some ⟨w6.drew.heap.size, 0, none⟩, 2, 2, List.replicate 2 0), (A6, 4, 4, ls), (some ⟨g, 2, none⟩, 8, 8, ch)])) :=
      Parts.of_blk [(A3, 2, 2, ld), (some ⟨w6.drew.heap.size, 0, none⟩, 2, 2, List.replicate 2 0), (A6, 4, 4, ls), (some ⟨g, 2, none⟩, 8, 8, ch)] Y3.out (List.forall_mem_cons.2 ⟨HN2.out.over b3'.out, List.forall_mem_cons.2 ⟨HZ2.out.over b3'.out, List.forall_mem_cons.2 ⟨HS2.out.over b3'.out, List.forall_mem_cons.2 ⟨hch, fun _ h => by cases h⟩⟩⟩⟩)
    refine hK _ _ S3.out ?_
    clear hK K hch
    rw [ha1]
    clear ha1 a1
    refine wpAnyH_one 9 _ (by kernel_rfl) rfl fun K hK => ?_
    go_simp
    refine (CC.out v3 g9 4 _ _ _ _ PP.out (by omega) (by show 0 + 2 + 2 + 4 + 8 ≤ _; omega)).mono ?_
    rintro e v4 ⟨v, rfl, ho, L4⟩
    have HOUT := Lib.hid ho
    have S4 := Lib.hid (S3.out.over L4)
    have b4 := Lib.hid (step b3.out L4)
    refine hK _ _ S4.out ?_
    clear hK K ho L4
    refine wpAnyH_one 10 _ (by kernel_rfl) rfl fun K hK => ?_
    go_simp
    refine hK _ _ S4.out ?_
    clear hK K
    refine wpAnyH_one 11 _ (by kernel_rfl) rfl fun K hK => ?_
    go_simp
    refine hK _ _ S4.out ?_
    clear hK K
    refine wpAnyH_done (by kernel_rfl) ?_ _
    go_wp2
    go_ret2
    refine HQ.out _ _ ⟨_, rfl, ?_, b4.out⟩
    have h9 := HOUT.out.mono (base' := w.heap.size) b3.out.size
    simpa [catL, partX, List.append_assoc] using h9
end Go.Proofs.YtbbjmmooemmeiaaDoor

namespace Go.Proofs.YtbbjmmooemmeiaaDoor
set_option linter.all false
set_option linter.unusedVariables false
set_option linter.unusedSimpArgs false
set_option maxRecDepth 100000
/-- an Entry's bytes -/
def entryB (e : EntryV) : List Int := le e.kind 2 ++ (List.replicate 2 0 ++ (le e.size 8 ++ ptextOf e.name.data.toList))
def entriesB : List EntryV → List Int
  | [] => []
  | e :: r => entryB e ++ entriesB r
/-- the first error of names -/
def entsErr : List EntryV → Int
  | [] => 0
  | e :: r => if ptextErr e.name.data.toList = 0 then entsErr r else ptextErr e.name.data.toList
def entOk (e : EntryV) : Bool := decide (e.kind ≤ 2) && (decide (0 ≤ e.size) && decide (e.size ≤ 1048576))
def besideIS (c : Int) (s : SayV) : SayV :=
  if c = 14 then { s with ents := [], more := false }
  else if c = 16 then { s with siz := 0, kind := 0, gone := false }
  else if c = 18 then { s with file := 0, lev := 0 }
  else s
def wantIS (c : Int) (s : SayV) : SayV :=
  if c = 14 then { zeroSay with ents := s.ents, more := s.more }
  else if c = 16 then { zeroSay with siz := s.siz, kind := s.kind, gone := s.gone }
  else if c = 18 then { zeroSay with file := s.file, lev := s.lev }
  else zeroSay
def nameIS (c : Int) (s : SayV) : Bool := knownIS c && decide (besideIS c s = zeroSay)
def jpErr (c : Int) (s : SayV) : Int := if nameIS c s = true ∧ s.kind ≤ 2 ∧ s.ents.all entOk = true then (if s.ents.length ≤ 64 then (if c = 14 then entsErr s.ents else 0) else 3) else 2
def bodyIS (c : Int) (s : SayV) : List Int :=
  if c = 14 then le s.ents.length 2 ++ (le (truthI s.more) 2 ++ entriesB s.ents)
  else if c = 16 then le s.siz 8 ++ (le s.kind 2 ++ le (truthI s.gone) 2)
  else if c = 18 then le s.file 8 ++ (le s.lev 1 ++ List.replicate 3 0)
  else List.replicate 4 0
def jpOf (c : Int) (s : SayV) : List Int := if jpErr c s = 0 then bodyIS c s else []
theorem entriesB_app (a b : List EntryV) : entriesB (a ++ b) = entriesB a ++ entriesB b := by
  induction a with
  | nil => rfl
  | cons x r ih => simp only [List.cons_append, entriesB, ih, List.append_assoc]
theorem entsErr_app (a b : List EntryV) : entsErr (a ++ b) = if entsErr a = 0 then entsErr b else entsErr a := by
  induction a with
  | nil => rfl
  | cons x r ih =>
    by_cases h : ptextErr x.name.data.toList = 0
    · have e1 : entsErr (x :: r) = entsErr r := by show (if _ then _ else _) = _; rw [if_pos h]
      have e2 : entsErr (x :: (r ++ b)) = entsErr (r ++ b) := by show (if _ then _ else _) = _; rw [if_pos h]
      rw [List.cons_append, e1, e2, ih]
    · have e1 : entsErr (x :: r) = ptextErr x.name.data.toList := by show (if _ then _ else _) = _; rw [if_neg h]
      have e2 : entsErr (x :: (r ++ b)) = ptextErr x.name.data.toList := by show (if _ then _ else _) = _; rw [if_neg h]
      rw [List.cons_append, e1, e2, if_neg h]
theorem entryB_le (e : EntryV) : (entryB e).length ≤ 600 := by
  have := rowOf_le e.name.data.toList
  unfold entryB
  simp only [List.length_append, le_length, List.length_replicate]
  omega
theorem entriesB_le (l : List EntryV) : (entriesB l).length ≤ 600 * l.length := by
  induction l with
  | nil => exact Nat.le_refl _
  | cons a r ih =>
    have := entryB_le a
    simp only [entriesB, List.length_append, List.length_cons]
    omega
end Go.Proofs.YtbbjmmooemmeiaaDoor

namespace Go.Proofs.YtbbjmmooemmeiaaDoor
set_option linter.all false
open Go.RowKit
set_option linter.unusedVariables false
set_option maxRecDepth 100000
section
variable {w w' w2 : World} {g base : Nat} {xs : List Int} {er : Int} {v : Value} {cs : List Value} {T : TypeId}
theorem WKeep.onlyNew {h : Nat} (a : WKeep g base w w') (hO : Only h w' w2) (h1 : w.heap.size ≤ h) (h2 : base ≤ h) : WKeep g base w w2 :=
  ⟨a.below.trans (hO.below h2), fun k cs T q1 q2 q3 => (hO.rest k (fun e => by have := (Array.getElem?_eq_some_iff.1 q3).1; omega)).trans (a.rest k cs T q1 q2 q3)⟩
theorem WI.onlyT {k : Nat} (h : WI w g base xs er) (hB : Blk w k T cs) (hT : T ≠ 5) (hO : Only k w w') (hk : k ≠ g) : WI w' g base xs er := by
  obtain ⟨h1, v, hBv, hOv⟩ := h
  refine ⟨h1, v, hBv.only hO (fun e => hk e.symm), hOv.keep fun i c hi hc => hO.rest i (fun e => ?_)⟩
  subst e
  rw [show w.heap[i]? = _ from hB] at hc
  cases hc
  exact hT rfl
end
/-- what an Entry is that the writer takes -/
def EntIn (e : EntryV) : Prop := e.ok ∧ entOk e = true ∧ e.name.size ≤ 17592186044416
set_option maxHeartbeats 2000000 in
theorem wentries_any (w : World) (g base : Nat) (xs : List Int) (A : Option Addr) (n c : Nat) (es : List EntryV) (hW : WI w g base xs 0) (hE : HoldsS entryCells 3 w base A n c es) (hn : n ≤ 64) (hi : ∀ e ∈ es, EntIn e) (hT : TabsB base w) (hl : xs.length ≤ 100000) :
    Calls Tryd.prog 47 #[.pointer (some ⟨g, 0, none⟩), .slice A n c] w (WPost w g base (xs ++ entriesB es) (entsErr es)) := by
  have hsz := hW.size
  have HW := Lib.hid hW
  have HE := Lib.hid hE
  have HT := Lib.hid hT
  have HLE := Lib.hid hE.len
  have hft := hE.fit
  have HQ : Hid (∀ e w', (e = .returned (.tuple #[]) ∧ WI w' g base (xs ++ entriesB es) (entsErr es) ∧ WKeep g base w w') → WPost w g base (xs ++ entriesB es) (entsErr es) e w') := fun _ _ h => h
  have H0 : Hid (xs ++ entriesB (es.take 0) = xs ∧ entsErr (es.take 0) = 0) := by
    refine ⟨?_, ?_⟩
    · rw [List.take_zero]; exact List.append_nil _
    · rw [List.take_zero]; rfl
  have HN : Hid (xs ++ entriesB (es.take n) = xs ++ entriesB es ∧ entsErr (es.take n) = entsErr es) := by
    have h1 : es.take n = es := by rw [← hE.len, List.take_length]
    exact ⟨by rw [h1], by rw [h1]⟩
  have HX : Hid (∀ j, j < n → ∃ x, es[j]? = some x ∧ EntIn x) := fun j hj => ⟨_, List.getElem?_eq_getElem (by have := hE.len; omega), hi _ (List.getElem_mem _)⟩
  have HST : Hid (∀ (j : Nat) (x : EntryV), es[j]? = some x → xs ++ entriesB (es.take j) ++ le x.kind 2 ++ List.replicate 2 0 ++ le x.size 8 ++ ptextOf x.name.data.toList = xs ++ entriesB (es.take (j + 1)) ∧ (if entsErr (es.take j) = 0 then ptextErr x.name.data.toList else entsErr (es.take j)) = entsErr (es.take (j + 1))) := fun j x hx => by
    rw [List.take_add_one, hx, Option.toList_some, entriesB_app, entsErr_app]
    refine ⟨by simp only [entriesB, entryB, List.append_nil, List.append_assoc], ?_⟩
    have e1 : entsErr [x] = ptextErr x.name.data.toList := by
      show (if ptextErr x.name.data.toList = 0 then (0 : Int) else ptextErr x.name.data.toList) = _
      split
      · rename_i h; exact h.symm
      · rfl
    rw [e1]
  have HLEN : Hid (∀ j, j ≤ n → (xs ++ entriesB (es.take j)).length ≤ 200000) := fun j hj => by
    have h1 := entriesB_le (es.take j)
    rw [List.length_take] at h1
    rw [List.length_append]
    omega
  obtain ⟨YS, hYS⟩ : ∃ f : Nat → List Int, f = fun j => xs ++ entriesB (es.take j) := ⟨_, rfl⟩
  have hYS2 : ∀ j, xs ++ entriesB (es.take j) = YS j := fun j => by rw [hYS]
  obtain ⟨ER, hER⟩ : ∃ f : Nat → Int, f = fun j => entsErr (es.take j) := ⟨_, rfl⟩
  have hER2 : ∀ j, entsErr (es.take j) = ER j := fun j => by rw [hER]
  simp only [hYS2, hER2] at H0 HN HST HLEN
  rw [← HN.out.1, ← HN.out.2] at HQ ⊢
  clear hYS hYS2 hER hER2 hW hE hT hi HN
  have hzk := zero_entry
  obtain ⟨zk, hzk2⟩ : ∃ zk, zk = ([.string .empty, .int .u8 0, .int .i64 0] : List Value) := ⟨_, rfl⟩
  have ZKL : Hid (zk.length = 3) := by rw [hzk2]; rfl
  rw [← hzk2] at hzk
  have HZK := Lib.hid hzk
  clear hzk hzk2
  go_enter Tryd.func47, Tryd.ntmps47
  go_wp2
  go_loopw [8] (fun i wr => ∃ j : Nat, i = .int .i64 j ∧ j ≤ n ∧ Hid (WI wr g base (YS j) (ER j)) ∧ Hid (WKeep g base w wr)) (fun i _ => n - (intOf i).toNat)
  case atStart => exact ⟨0, rfl, Nat.zero_le _, (by rw [H0.out.1, H0.out.2]; exact HW.out), WKeep.refl _ _ _⟩
  case round =>
    obtain ⟨j, rfl, hj, HW1, HK1⟩ := hrel
    by_cases hlt : j < n
    · have hh := HE.out.below HK1.out.below
      obtain ⟨b, off, rfl, hb, hc⟩ := hh.cells (by omega)
      obtain ⟨x, hx, hin⟩ := HX.out j hlt
      have Rx : Hid (wr.rangeAt b (off + j * 3) (entryCells x)) := hh.range rfl hlt hx
      have LX : Hid ((entryCells x).length = 3) := rfl
      have HX1 : Hid (∀ v ∈ entryCells x, v.oneCell' = true) := entryCells_one x
      have HS := Lib.hid (HST.out j x hx)
      have HLJ := HLEN.out j hj
      obtain ⟨x1, x2, x3⟩ := hin
      have hk1 := x1.kind
      obtain ⟨hk0, hk1⟩ := hk1
      have hs1 : 0 ≤ x.size ∧ x.size ≤ 1048576 := by
        unfold entOk at x2
        simp only [Bool.and_eq_true, decide_eq_true_eq] at x2
        exact x2.2
      obtain ⟨hs0, hs1⟩ := hs1
      have HTr := Lib.hid (HT.out.next HK1.out.below)
      have hwsz := HW1.out.size
      have hwgr := HK1.out.below.size
      have hwlt := HW1.out.lt
      have C1 : Hid (∀ w', WI w' g base (YS j) (ER j) → Calls Tryd.prog 31 #[.pointer (some ⟨g, 0, none⟩), .int .u64 x.kind] w' fun e w2 => e = .returned (.tuple #[]) ∧ WI w2 g base (YS j ++ le x.kind 2) (ER j) ∧ WKeep g base w' w2) := fun w' h => wtwo_any w' g base _ _ x.kind h ⟨hk0, by omega⟩ (by omega)
      have C2 : Hid (∀ w', WI w' g base (YS j ++ le x.kind 2) (ER j) → Calls Tryd.prog 32 #[.pointer (some ⟨g, 0, none⟩), .int .i64 2] w' fun e w2 => e = .returned (.tuple #[]) ∧ WI w2 g base (YS j ++ le x.kind 2 ++ List.replicate 2 0) (ER j) ∧ WKeep g base w' w2) := fun w' h => wnought_any w' g base _ _ 2 h (by decide) (by decide) (by rw [List.length_append, le_length]; omega)
      have C3 : Hid (∀ w', WI w' g base (YS j ++ le x.kind 2 ++ List.replicate 2 0) (ER j) → Calls Tryd.prog 30 #[.pointer (some ⟨g, 0, none⟩), .int .u64 x.size] w' fun e w2 => e = .returned (.tuple #[]) ∧ WI w2 g base (YS j ++ le x.kind 2 ++ List.replicate 2 0 ++ le x.size 8) (ER j) ∧ WKeep g base w' w2) := fun w' h => weight_any w' g base _ _ x.size h ⟨hs0, by omega⟩ (by rw [List.length_append, List.length_append, le_length, List.length_replicate]; omega)
      have C4 : Hid (∀ w', TabsB base w' → WI w' g base (YS j ++ le x.kind 2 ++ List.replicate 2 0 ++ le x.size 8) (ER j) → Calls Tryd.prog 33 #[.pointer (some ⟨g, 0, none⟩), .string x.name] w' fun e w2 => e = .returned (.tuple #[]) ∧ WI w2 g base (YS (j + 1)) (ER (j + 1)) ∧ WKeep g base w' w2) := fun w' ht h => by
        have h1 := wtext_any w' g base _ _ x.name h x3 ht (by rw [List.length_append, List.length_append, List.length_append, le_length, le_length, List.length_replicate]; omega)
        rw [HS.out.1, HS.out.2] at h1
        exact h1
      obtain ⟨y3, hy3⟩ : ∃ y, y = YS j ++ le x.kind 2 ++ List.replicate 2 0 ++ le x.size 8 := ⟨_, rfl⟩
      rw [← hy3] at C3 C4
      obtain ⟨y2, hy2⟩ : ∃ y, y = YS j ++ le x.kind 2 ++ List.replicate 2 0 := ⟨_, rfl⟩
      rw [← hy2] at C2 C3
      obtain ⟨y1, hy1⟩ : ∃ y, y = YS j ++ le x.kind 2 := ⟨_, rfl⟩
      rw [← hy1] at C1 C2
      have FK : Hid (∀ (w : World) (h : Nat), Blk w h 82 (entryCells x) → w.cell? ⟨h, 0, none⟩ = some (.string x.name) ∧ w.cell? ⟨h, 1, none⟩ = some (.int .u8 x.kind) ∧ w.cell? ⟨h, 2, none⟩ = some (.int .i64 x.size)) := fun w h hb => ⟨hb.at rfl, hb.at rfl, hb.at rfl⟩
      obtain ⟨cx, hcx⟩ : ∃ cx, cx = entryCells x := ⟨_, rfl⟩
      rw [← hcx] at Rx LX HX1 FK
      have hwr8 : IntKind.u64.wrap x.size = x.size := by rw [IntKind.wrap_u64]; omega
      have hwk8 : IntKind.u64.wrap x.kind = x.kind := by rw [IntKind.wrap_u64]; omega
      obtain ⟨kd, hkd⟩ : ∃ z, z = x.kind := ⟨_, rfl⟩
      obtain ⟨sz, hszx⟩ : ∃ z, z = x.size := ⟨_, rfl⟩
      obtain ⟨nm, hnm⟩ : ∃ z, z = x.name := ⟨_, rfl⟩
      rw [← hkd, ← hszx, ← hnm] at FK
      rw [← hkd] at C1 hk0 hk1 hwk8
      rw [← hszx] at C3 hs0 hs1 hwr8
      rw [← hnm] at C4
      clear hh hc hx hcx hy1 hy2 hy3 x1 x2 x3 HS hkd hszx hnm
      go_wp2_with (first
        | ((with_reducible show wpList _ _ _ (⟨some 11, _, _, _, _, _⟩ :: _) _ _); refine wpList_load_midu rfl _ (.tmp 10) rfl b (off + j * 3) rfl cx _ Rx Tryd.underlying82 rfl 3 size_entry LX ?_)
        | ((with_reducible show wpList _ _ _ (⟨some 5, _, _, _, _, _⟩ :: _) _ _); refine wpList_alloc_blk rfl _ rfl zk _ HZK ?_; intro h u1 hg1 hg2 Z1 N1; have V1 := Lib.hid (HW1.out.below N1.out); have hhg : h ≠ g := (by omega); have KA : Hid (WKeep g base w u1) := (HK1.out.trans (WKeep.of_below N1.out hwsz)))
        | ((with_reducible show wpList _ _ _ (⟨none, .store _ (.tmp 5) _, _, _, _, _⟩ :: _) _ _); refine wpList_store_blk rfl _ (.tmp 5) (.tmp 11) rfl h rfl _ zk cx rfl Z1 3 size_entry ZKL LX HX1 ?_; intro u2 Z2 P2 hg3; have V2 : Hid (WI u2 g base (YS j) (ER j)) := (V1.out.onlyT Z1.out (by decide) P2.out hhg); have KB : Hid (WKeep g base w u2) := (KA.out.onlyNew P2.out (by omega) (by omega)); have q0 := FK.out u2 h Z2.out)
        | fail)
      obtain ⟨q1, q2, q3⟩ := q0
      go_wp2_with fail
      refine (C1.out u2 V2.out).mono ?_
      rintro e u3 ⟨rfl, h1, h2⟩
      have D2 := Lib.hid (C2.out u3 h1)
      have Z3 := Lib.hid (h2.blk Z2.out (by decide) hhg)
      have KC := Lib.hid (KB.out.trans h2)
      obtain ⟨r1, r2, r3⟩ := FK.out u3 h Z3.out
      clear h1 h2 C1 C2 q1 q2 q3
      go_wp2_with fail
      refine D2.out.mono ?_
      rintro e u4 ⟨rfl, h1, h2⟩
      have D3 := Lib.hid (C3.out u4 h1)
      have Z4 := Lib.hid (h2.blk Z3.out (by decide) hhg)
      have KD := Lib.hid (KC.out.trans h2)
      obtain ⟨s1, s2, s3⟩ := FK.out u4 h Z4.out
      clear h1 h2 D2 C3 r1 r2 r3
      go_wp2_with fail
      refine D3.out.mono ?_
      rintro e u5 ⟨rfl, h1, h2⟩
      have KE := Lib.hid (KD.out.trans h2)
      have D4 := Lib.hid (C4.out u5 (HT.out.next KE.out.below) h1)
      have Z5 := Lib.hid (h2.blk Z4.out (by decide) hhg)
      obtain ⟨t1, t2, t3⟩ := FK.out u5 h Z5.out
      clear h1 h2 D3 C4 s1 s2 s3
      go_wp2_with fail
      refine D4.out.mono ?_
      rintro e u6 ⟨rfl, h1, h2⟩
      have HWn := Lib.hid h1
      have KF := Lib.hid (KE.out.trans h2)
      clear h1 h2 D4 t1 t2 t3
      go_wp2
      go_roundw
      case rel => exact ⟨j + 1, by simp, by omega, HWn, KF⟩
      case measure => simp [intOf]; omega
    · obtain rfl : j = n := by omega
      go_wp2
      go_end0
      exact HQ.out _ _ ⟨rfl, HW1.out, HK1.out⟩
end Go.Proofs.YtbbjmmooemmeiaaDoor

namespace Go.Proofs.YtbbjmmooemmeiaaDoor
set_option linter.all false
open Go.RowKit
set_option linter.unusedVariables false
set_option maxRecDepth 100000
section
variable {vd vx vl ve : Value} {a : AskV} {s : SayV}
theorem scells_setG (hg : s.chal.length = 8) (i : Nat) (u : Value) : (scells vx ve s).set (10 + i) u = .int .u16 s.dia :: .int .u64 s.siz :: (s.chal.map (Value.int .u8) ++ (stail vx ve s).set i u) := by
  unfold scells
  rw [show 10 + i = (8 + i) + 1 + 1 from by omega, List.set_cons_succ, List.set_cons_succ, List.set_append_right _ _ (by rw [List.length_map, hg]; omega), List.length_map, hg]
  congr 4
  omega
theorem sc10 (hg : s.chal.length = 8) (x : Int) : (scells vx ve s).set 10 (.int .u8 x) = scells vx ve { s with lev := x } := (scells_setG hg 0 _).trans rfl
theorem sc13 (hg : s.chal.length = 8) (x : Int) : (scells vx ve s).set 13 (.int .u64 x) = scells vx ve { s with file := x } := (scells_setG hg 3 _).trans rfl
theorem sc14 (hg : s.chal.length = 8) (x : Int) : (scells vx ve s).set 14 (.int .u8 x) = scells vx ve { s with kind := x } := (scells_setG hg 4 _).trans rfl
theorem sc1 (hg : s.chal.length = 8) (x : Int) : (scells vx ve s).set 1 (.int .u64 x) = scells vx ve { s with siz := x } := rfl
end
theorem echo_errS (b : SayV) : (sayErrP 13 b == 0) = decide (b = zeroSay) := by
  have e : besideSay 13 b = b := by unfold besideSay; rw [if_neg (by decide)]
  unfold sayErrP
  rw [e]
  by_cases h : b = zeroSay
  · rw [if_pos ⟨rfl, h, fun h0 => absurd h0 (by decide)⟩, decide_eq_true h]
    rfl
  · rw [if_neg (fun h2 => h h2.2.1), decide_eq_false h]
    rfl
end Go.Proofs.YtbbjmmooemmeiaaDoor

namespace Go.Proofs.YtbbjmmooemmeiaaDoor
set_option linter.all false
open Go.RowKit
set_option linter.unusedVariables false
set_option linter.unusedSimpArgs false
set_option maxRecDepth 100000
section
variable {vd vx vl ve : Value} {a : AskV} {s : SayV}
theorem sc17 (hg : s.chal.length = 8) (v : Value) (xs : List EntryV) : (scells vx ve s).set 17 v = scells vx v { s with ents := xs } := (scells_setG hg 7 _).trans rfl
theorem sc17n (hg : s.chal.length = 8) : (scells vx ve s).set 17 (.slice none 0 0) = scells vx (.slice none 0 0) { s with ents := [] } := sc17 hg _ []
theorem sc18 (hg : s.chal.length = 8) (x : Bool) : (scells vx ve s).set 18 (.bool x) = scells vx ve { s with more := x } := (scells_setG hg 8 _).trans rfl
theorem sc19 (hg : s.chal.length = 8) (x : Bool) : (scells vx ve s).set 19 (.bool x) = scells vx ve { s with gone := x } := (scells_setG hg 9 _).trans rfl
end
set_option maxHeartbeats 1000000 in
theorem inoent_any (w : World) (l : EntryV) : Calls Tryd.prog 46 #[.agg (entryCells l).toArray] w fun e w' => e = .returned (.bool (!entOk l)) ∧ Below w.heap.size w w' := by
  obtain ⟨nm, kd, sz⟩ := l
  have HC : Hid (∀ (w : World) (g : Nat), Blk w g 82 (entryCells ⟨nm, kd, sz⟩) → w.cell? ⟨g, 1, none⟩ = some (.int .u8 kd) ∧ w.cell? ⟨g, 2, none⟩ = some (.int .i64 sz)) := fun w g h => ⟨h.at rfl, h.at rfl⟩
  obtain ⟨cs, hcs⟩ : ∃ x, x = entryCells ⟨nm, kd, sz⟩ := ⟨_, rfl⟩
  rw [← hcs] at HC ⊢
  have hok : entOk ⟨nm, kd, sz⟩ = (decide (kd ≤ 2) && (decide (0 ≤ sz) && decide (sz ≤ 1048576))) := rfl
  rw [hok]
  obtain ⟨z, hz⟩ : ∃ z, z = !(decide (kd ≤ 2) && (decide (0 ≤ sz) && decide (sz ≤ 1048576))) := ⟨_, rfl⟩
  rw [← hz]
  have HZ := Lib.hid hz
  clear hcs hok hz
  by_cases h1 : kd ≤ 2
  · have q1 : ¬ (2 : Int) < kd := by omega
    by_cases h2 : 0 ≤ sz
    · have q2 : ¬ sz < 0 := by omega
      by_cases h3 : sz ≤ 1048576
      · have q3 : ¬ (1048576 : Int) < sz := by omega
        have HR : Hid (z = false) := by show _ = _; rw [HZ.out, decide_eq_true h1, decide_eq_true h2, decide_eq_true h3]; rfl
        clear h1 h2 h3
        go_enter Tryd.func46, Tryd.ntmps46
        go_wp2_with (first
          | ((with_reducible show wpList _ _ _ (⟨some 1, _, _, _, _, _⟩ :: _) _ _); refine wpList_box_blk rfl _ (.tmp 0) rfl cs rfl ?_; intro g w1 hg1 hg2 K1 L1; obtain ⟨c1, c2⟩ := HC.out w1 g K1.out)
          | fail)
        go_wp2
        go_ret
        exact ⟨ret_bool HR.out.symm, L1.out⟩
      · have q3 : (1048576 : Int) < sz := by omega
        have HR : Hid (z = true) := by show _ = _; rw [HZ.out, decide_eq_true h1, decide_eq_true h2, decide_eq_false h3]; rfl
        clear h1 h2 h3
        go_enter Tryd.func46, Tryd.ntmps46
        go_wp2_with (first
          | ((with_reducible show wpList _ _ _ (⟨some 1, _, _, _, _, _⟩ :: _) _ _); refine wpList_box_blk rfl _ (.tmp 0) rfl cs rfl ?_; intro g w1 hg1 hg2 K1 L1; obtain ⟨c1, c2⟩ := HC.out w1 g K1.out)
          | fail)
        go_wp2
        go_ret
        exact ⟨ret_bool HR.out.symm, L1.out⟩
    · have q2 : sz < 0 := by omega
      have HR : Hid (z = true) := by show _ = _; rw [HZ.out, decide_eq_true h1, decide_eq_false h2]; rfl
      clear h1 h2
      go_enter Tryd.func46, Tryd.ntmps46
      go_wp2_with (first
        | ((with_reducible show wpList _ _ _ (⟨some 1, _, _, _, _, _⟩ :: _) _ _); refine wpList_box_blk rfl _ (.tmp 0) rfl cs rfl ?_; intro g w1 hg1 hg2 K1 L1; obtain ⟨c1, c2⟩ := HC.out w1 g K1.out)
        | fail)
      go_wp2
      go_ret
      exact ⟨ret_bool HR.out.symm, L1.out⟩
  · have q1 : (2 : Int) < kd := by omega
    have HR : Hid (z = true) := by show _ = _; rw [HZ.out, decide_eq_false h1]; rfl
    clear h1
    go_enter Tryd.func46, Tryd.ntmps46
    go_wp2_with (first
      | ((with_reducible show wpList _ _ _ (⟨some 1, _, _, _, _, _⟩ :: _) _ _); refine wpList_box_blk rfl _ (.tmp 0) rfl cs rfl ?_; intro g w1 hg1 hg2 K1 L1; obtain ⟨c1, c2⟩ := HC.out w1 g K1.out)
      | fail)
    go_wp2
    go_ret
    exact ⟨ret_bool HR.out.symm, L1.out⟩
set_option maxHeartbeats 1000000 in
theorem iindex_any (w : World) (A : Option Addr) (n c : Nat) (xs : List EntryV) (h : HoldsS entryCells 3 w w.heap.size A n c xs) (hn : n ≤ 4398046511104) :
    Calls Tryd.prog 70 #[.slice A n c, .func (.func 46) #[] #[]] w fun e w' => (∃ k : Int, e = .returned (.int .i64 k) ∧ decide (0 ≤ k) = !xs.all entOk) ∧ Below w.heap.size w w' := by
  have HH := Lib.hid h
  have HL := Lib.hid h.len
  have hft := h.fit
  have CF : Hid (∀ (w : World) (l : EntryV), Calls Tryd.prog 46 #[.agg (entryCells l).toArray] w fun e w' => e = .returned (.bool (!entOk l)) ∧ Below w.heap.size w w') := inoent_any
  have HQ : Hid (∀ (e : Ending) (w' : World), ((∃ k : Int, e = .returned (.int .i64 k) ∧ decide (0 ≤ k) = !xs.all entOk) ∧ Below w.heap.size w w') → ((∃ k : Int, e = .returned (.int .i64 k) ∧ decide (0 ≤ k) = !xs.all entOk) ∧ Below w.heap.size w w')) := fun _ _ h => h
  have H0 : Hid ((xs.take 0).all entOk = true) := by show _ = _; rw [List.take_zero]; rfl
  have HN : Hid ((xs.take n).all entOk = true → xs.all entOk = true) := fun h1 => by rw [← HL.out, List.take_length] at h1; exact h1
  have HST : Hid (∀ (j : Nat) (x : EntryV), xs[j]? = some x → (xs.take j).all entOk = true → entOk x = true → (xs.take (j + 1)).all entOk = true) := fun j x hx h1 h2 => by
    rw [List.take_add_one, hx, Option.toList_some, List.all_append, h1]
    simp [h2]
  have HBAD : Hid (∀ (j : Nat) (x : EntryV), xs[j]? = some x → ¬ entOk x = true → xs.all entOk = false) := fun j x hx h1 => by
    rw [List.all_eq_false]
    exact ⟨x, List.mem_of_getElem? hx, h1⟩
  clear h
  go_enter Tryd.func70, Tryd.ntmps70
  go_wp2
  go_loopw [8] (fun i wr => ∃ j : Nat, i = .int .i64 j ∧ j ≤ n ∧ Hid ((xs.take j).all entOk = true) ∧ Hid (Below w.heap.size w wr)) (fun i _ => n - (intOf i).toNat)
  case atStart => exact ⟨0, rfl, Nat.zero_le _, H0.out, Below.refl _ _⟩
  case round =>
    obtain ⟨j, rfl, hj, HS, HB1⟩ := hrel
    by_cases hlt : j < n
    · have hh := HH.out.below HB1.out
      obtain ⟨b, off, rfl, hb, hc⟩ := hh.cells (by omega)
      obtain ⟨x, hx⟩ : ∃ x, xs[j]? = some x := ⟨_, List.getElem?_eq_getElem (by have := HL.out; omega)⟩
      have Rx : Hid (wr.rangeAt b (off + j * 3) (entryCells x)) := hh.range rfl hlt hx
      have LX : Hid ((entryCells x).length = 3) := rfl
      have CX := CF.out wr x
      have HST' := Lib.hid (HST.out j x hx HS.out)
      have HBAD' := Lib.hid (HBAD.out j x hx)
      obtain ⟨cx, hcx⟩ : ∃ cx, cx = entryCells x := ⟨_, rfl⟩
      rw [← hcx] at Rx LX CX
      have hsz := HB1.out.size
      obtain ⟨z, hz⟩ : ∃ z, z = entOk x := ⟨_, rfl⟩
      rw [← hz] at CX HST' HBAD'
      clear hh hc hx hcx hz
      cases z
      · have CX' : Hid (Calls Tryd.prog 46 #[.agg cx.toArray] wr fun e w' => e = .returned (.bool true) ∧ Below wr.heap.size wr w') := CX
        have HS2 := Lib.hid (HBAD'.out (by decide))
        clear CX HST' HBAD' HS
        go_wp2_with (first
          | ((with_reducible show wpList _ _ _ (⟨some 15, _, _, _, _, _⟩ :: _) _ _); refine wpList_load_midu rfl _ (.tmp 14) rfl b (off + j * 3) rfl cx _ Rx Tryd.underlying82 rfl 3 size_entry LX ?_)
          | fail)
        refine CX'.out.mono ?_
        rintro e v1 ⟨rfl, L1⟩
        have HB2 := Lib.hid (HB1.out.trans (L1.mono hsz))
        clear L1 HB1 CX'
        go_wp2
        go_ret
        exact HQ.out _ _ ⟨⟨_, rfl, by rw [HS2.out]; simp⟩, HB2.out⟩
      · have CX' : Hid (Calls Tryd.prog 46 #[.agg cx.toArray] wr fun e w' => e = .returned (.bool false) ∧ Below wr.heap.size wr w') := CX
        have HS2 := Lib.hid (HST'.out rfl)
        clear CX HST' HBAD' HS
        go_wp2_with (first
          | ((with_reducible show wpList _ _ _ (⟨some 15, _, _, _, _, _⟩ :: _) _ _); refine wpList_load_midu rfl _ (.tmp 14) rfl b (off + j * 3) rfl cx _ Rx Tryd.underlying82 rfl 3 size_entry LX ?_)
          | fail)
        refine CX'.out.mono ?_
        rintro e v1 ⟨rfl, L1⟩
        have HB2 := Lib.hid (HB1.out.trans (L1.mono hsz))
        clear L1 HB1 CX'
        go_wp2
        go_roundw
        case rel => exact ⟨j + 1, by simp, by omega, HS2, HB2⟩
        case measure => simp [intOf]; omega
    · obtain rfl : j = n := by omega
      have HS2 := Lib.hid (HN.out HS.out)
      go_wp2
      go_ret
      exact HQ.out _ _ ⟨⟨_, rfl, by rw [HS2.out]; rfl⟩, HB1.out⟩
theorem icontains_any (w : World) (A : Option Addr) (n c : Nat) (xs : List EntryV) (h : HoldsS entryCells 3 w w.heap.size A n c xs) (hn : n ≤ 4398046511104) :
    Calls Tryd.prog 45 #[.slice A n c, .func (.func 46) #[] #[]] w fun e w' => e = .returned (.bool (!xs.all entOk)) ∧ Below w.heap.size w w' := by
  have C1 := Lib.hid (iindex_any w A n c xs h hn)
  obtain ⟨z, hz⟩ : ∃ z, z = !xs.all entOk := ⟨_, rfl⟩
  rw [← hz] at C1 ⊢
  clear h hz
  go_enter Tryd.func45, Tryd.ntmps45
  go_wp2_with fail
  refine C1.out.mono ?_
  rintro e w1 ⟨⟨k, rfl, hk⟩, L1⟩
  go_wp2
  go_ret
  exact ⟨by rfl, L1⟩
end Go.Proofs.YtbbjmmooemmeiaaDoor

namespace Go.Proofs.YtbbjmmooemmeiaaDoor
set_option linter.all false
set_option linter.unusedVariables false
set_option linter.unusedSimpArgs false
set_option maxRecDepth 100000
theorem besideIS_want (c : Int) (s : SayV) : besideIS c s = zeroSay ↔ wantIS c s = s := by
  obtain ⟨a1, a2, a3, a4, a5, a6, a7, a8, a9, a10, a11, a12, a13⟩ := s
  unfold besideIS wantIS
  split
  · simp only [zeroSay, SayV.mk.injEq]
    constructor <;> (intro h; obtain ⟨h1, h2, h3, h4, h5, h6, h7, h8, h9, h10, h11, h12, h13⟩ := h; subst_vars; simp)
  · split
    · simp only [zeroSay, SayV.mk.injEq]
      constructor <;> (intro h; obtain ⟨h1, h2, h3, h4, h5, h6, h7, h8, h9, h10, h11, h12, h13⟩ := h; subst_vars; simp)
    · split
      · simp only [zeroSay, SayV.mk.injEq]
        constructor <;> (intro h; obtain ⟨h1, h2, h3, h4, h5, h6, h7, h8, h9, h10, h11, h12, h13⟩ := h; subst_vars; simp)
      · exact eq_comm
theorem jp_parts {c : Int} {s : SayV} (h : jpErr c s = 0) : knownIS c = true ∧ wantIS c s = s ∧ s.kind ≤ 2 ∧ s.ents.all entOk = true ∧ s.ents.length ≤ 64 ∧ (c = 14 → entsErr s.ents = 0) ∧ jpOf c s = bodyIS c s := by
  have h0 := h
  unfold jpErr at h
  by_cases h1 : nameIS c s = true ∧ s.kind ≤ 2 ∧ s.ents.all entOk = true
  · rw [if_pos h1] at h
    by_cases h2 : s.ents.length ≤ 64
    · rw [if_pos h2] at h
      obtain ⟨h3, h4, h5⟩ := h1
      unfold nameIS at h3
      simp only [Bool.and_eq_true, decide_eq_true_eq] at h3
      exact ⟨h3.1, (besideIS_want c s).1 h3.2, h4, h5, h2, fun hc => by rw [if_pos hc] at h; exact h, by unfold jpOf; rw [if_pos h0]⟩
    · rw [if_neg h2] at h; exact absurd h (by decide)
  · rw [if_neg h1] at h; exact absurd h (by decide)
end Go.Proofs.YtbbjmmooemmeiaaDoor

namespace Go.Proofs.YtbbjmmooemmeiaaDoor
set_option linter.all false
open Go.RowKit
set_option linter.unusedVariables false
set_option linter.unusedSimpArgs false
set_option maxRecDepth 100000
set_option maxHeartbeats 1000000 in
theorem iNamedSay_any (w : World) (c : Int) (cs : List Value) (a : SayV) (hc : 0 ≤ c ∧ c ≤ 65535) (ka : a.ok) (ha : SayIs w w.heap.size cs a) :
    Calls Tryd.prog 44 #[.int .u16 c, .agg cs.toArray] w fun e w' => e = .returned (.bool (nameIS c a)) ∧ Below w.heap.size w w' := by
  have HL := Lib.hid (ha.len ka)
  have hcl := ka.clen
  have CP : Hid (∀ (w' : World) (ds : List Value) (b : SayV), b.ok → SayIs w' w'.heap.size ds b → Calls Tryd.prog 69 #[.int .u16 13, .agg ds.toArray] w' fun e w2 => (∃ v er, e = .returned (.tuple #[v, .int .i64 er]) ∧ (er == 0) = decide (b = zeroSay)) ∧ Below w'.heap.size w' w2) := fun w' ds b kb hb => by
    exact (PutSay_any w' 13 ds b (by decide) kb hb).mono fun e w2 ⟨v, h1, _, h3⟩ => ⟨⟨v, _, h1, echo_errS b⟩, h3⟩
  by_cases hk : knownIS c = true
  rotate_left
  · have hn0 : nameIS c a = false := by unfold nameIS; rw [show knownIS c = false from by simpa using hk]; rfl
    have hk' : c ≠ 14 ∧ c ≠ 16 ∧ c ≠ 17 ∧ c ≠ 18 := by
      refine ⟨?_, ?_, ?_, ?_⟩ <;> (rintro rfl; exact hk (by decide))
    obtain ⟨h14, h16, h17, h18⟩ := hk'
    have b14 : (c == 14) = false := by simpa using h14
    have b16 : (c == 16) = false := by simpa using h16
    have b17 : (c == 17) = false := by simpa using h17
    have b18 : (c == 18) = false := by simpa using h18
    rw [hn0]
    clear hk hn0 h14 h16 h17 h18 ha ka CP
    go_enter Tryd.func44, Tryd.ntmps44
    go_wp2_with (first
      | ((with_reducible show wpList _ _ _ (⟨some 3, _, _, _, _, _⟩ :: _) _ _); refine wpList_box_blk rfl _ (.tmp 1) rfl cs rfl ?_; intro g w1 hg1 hg2 K1 L1)
      | fail)
    go_ret
    exact ⟨rfl, L1.out⟩
  have hcs := knownIS_cases hk
  obtain ⟨X1, X2, X3, M1, M2, M3, rfl, hX, hM⟩ := ha
  obtain ⟨C0, hC0⟩ : ∃ x, x = scells (.slice X1 X2 X3) (.slice M1 M2 M3) a := ⟨_, rfl⟩
  have HC0 := Lib.hid hC0
  rw [← hC0] at HL  ⊢
  clear hC0
  rcases hcs with h14 | h16 | h17 | h18
  · subst h14
    have hbe : besideIS 14 a = { a with ents := [], more := false } := by unfold besideIS; rw [if_pos rfl]
    have hnf : nameIS 14 a = decide (besideIS 14 a = zeroSay) := by unfold nameIS; rw [hk, Bool.true_and]
    rw [hnf, hbe]
    have kb : ({ a with ents := [], more := false } : SayV).ok := ⟨ka.dia, ka.siz, ka.clen, ka.cbyte, ka.lev, ka.dur, ka.made, ka.file, ka.kind, ka.data, ka.n, (fun l h => by cases h)⟩
    have HI : Hid (∀ w' : World, Below w.heap.size w w' → SayIs w' w'.heap.size (scells (.slice X1 X2 X3) (.slice none 0 0) ({ a with ents := [], more := false })) ({ a with ents := [], more := false })) := fun w' hb => ⟨X1, X2, X3, none, 0, 0, rfl, hX.over hb, HoldsS.nil _ _ _ _⟩
    have HEQ : Hid (((C0).set 17 (.slice none 0 0)).set 18 (.bool false) = scells (.slice X1 X2 X3) (.slice none 0 0) ({ a with ents := [], more := false })) := by
      show _ = _
      rw [HC0.out]
      simp only [sc17n, sc18, hcl]
      try rfl
    obtain ⟨b, hb⟩ : ∃ x : SayV, x = { a with ents := [], more := false } := ⟨_, rfl⟩
    rw [← hb] at HI HEQ kb  ⊢
    obtain ⟨D, hD⟩ : ∃ x, x = scells (.slice X1 X2 X3) (.slice none 0 0) b := ⟨_, rfl⟩
    rw [← hD] at HI HEQ
    clear hb hD hk ka hbe hnf
    go_enter Tryd.func44, Tryd.ntmps44
    go_wp2_with (first
      | ((with_reducible show wpList _ _ _ (⟨some 3, _, _, _, _, _⟩ :: _) _ _); refine wpList_box_blk rfl _ (.tmp 1) rfl C0 rfl ?_; intro g w1 hg1 hg2 K1 L1)
      | ((with_reducible show wpList _ _ _ (⟨none, .store _ (.tmp 10) _, _, _, _, _⟩ :: _) _ _); refine wpList_store_fld rfl _ (.tmp 10) (.const (.slice none 0 0)) rfl g 17 rfl _ C0 (.slice none 0 0) rfl K1 (Lib.hid (by have := HL.out; omega)) (by kernel_rfl) rfl ?_; intro w2 K2 O2 hq2; obtain ⟨C1, hC1⟩ : ∃ x, x = C0.set 17 (.slice none 0 0) := ⟨_, rfl⟩; have HC1 := Lib.hid hC1; have HL1 : Hid (C1.length = 20) := (by rw [hC1, List.length_set]; exact HL.out); rw [← hC1] at K2; have L2 := Lib.hid (below_only L1.out O2.out hg1); clear hC1)
      | ((with_reducible show wpList _ _ _ (⟨none, .store _ (.tmp 11) _, _, _, _, _⟩ :: _) _ _); refine wpList_store_fld rfl _ (.tmp 11) (.const (.bool false)) rfl g 18 rfl _ C1 (.bool false) rfl K2 (Lib.hid (by have := HL1.out; omega)) (by kernel_rfl) rfl ?_; intro w3 K3 O3 hq3; obtain ⟨C2, hC2⟩ : ∃ x, x = C1.set 18 (.bool false) := ⟨_, rfl⟩; have HC2 := Lib.hid hC2; have HL2 : Hid (C2.length = 20) := (by rw [hC2, List.length_set]; exact HL1.out); rw [← hC2] at K3; have L3 := Lib.hid (below_only L2.out O3.out hg1); clear hC2)
      | ((with_reducible show wpList _ _ _ (⟨some 24, _, _, _, _, _⟩ :: _) _ _); refine wpList_load_blk rfl _ (.tmp 3) rfl g rfl _ C2 K3 20 _ Tryd.underlying45 rfl size_say HL2 ?_)
      | fail)
    have HF : Hid (C2 = D) := by
      show _ = _
      rw [HC2.out, HC1.out]
      exact HEQ.out
    rw [HF.out]
    refine (CP.out _ D b kb (HI.out _ L3.out)).mono ?_
    rintro e v1 ⟨⟨v, er, rfl, her⟩, LQ⟩
    have HER := Lib.hid her
    have L99 := Lib.hid (step L3.out LQ)
    clear her LQ
    go_wp2
    go_ret
    exact ⟨ret_bool HER.out, L99.out⟩
  · subst h16
    have hbe : besideIS 16 a = { a with siz := 0, kind := 0, gone := false } := by unfold besideIS; rw [if_neg (by decide), if_pos rfl]
    have hnf : nameIS 16 a = decide (besideIS 16 a = zeroSay) := by unfold nameIS; rw [hk, Bool.true_and]
    rw [hnf, hbe]
    have kb : ({ a with siz := 0, kind := 0, gone := false } : SayV).ok := ⟨ka.dia, zb (by decide), ka.clen, ka.cbyte, ka.lev, ka.dur, ka.made, ka.file, zb (by decide), ka.data, ka.n, ka.ents⟩
    have HI : Hid (∀ w' : World, Below w.heap.size w w' → SayIs w' w'.heap.size (scells (.slice X1 X2 X3) (.slice M1 M2 M3) ({ a with siz := 0, kind := 0, gone := false })) ({ a with siz := 0, kind := 0, gone := false })) := fun w' hb => ⟨X1, X2, X3, M1, M2, M3, rfl, hX.over hb, hM.over hb⟩
    have HEQ : Hid ((((C0).set 1 (.int .u64 0)).set 14 (.int .u8 0)).set 19 (.bool false) = scells (.slice X1 X2 X3) (.slice M1 M2 M3) ({ a with siz := 0, kind := 0, gone := false })) := by
      show _ = _
      rw [HC0.out]
      simp only [sc1, sc14, sc19, hcl]
      try rfl
    obtain ⟨b, hb⟩ : ∃ x : SayV, x = { a with siz := 0, kind := 0, gone := false } := ⟨_, rfl⟩
    rw [← hb] at HI HEQ kb  ⊢
    obtain ⟨D, hD⟩ : ∃ x, x = scells (.slice X1 X2 X3) (.slice M1 M2 M3) b := ⟨_, rfl⟩
    rw [← hD] at HI HEQ
    clear hb hD hk ka hbe hnf
    go_enter Tryd.func44, Tryd.ntmps44
    go_wp2_with (first
      | ((with_reducible show wpList _ _ _ (⟨some 3, _, _, _, _, _⟩ :: _) _ _); refine wpList_box_blk rfl _ (.tmp 1) rfl C0 rfl ?_; intro g w1 hg1 hg2 K1 L1)
      | ((with_reducible show wpList _ _ _ (⟨none, .store _ (.tmp 14) _, _, _, _, _⟩ :: _) _ _); refine wpList_store_fld rfl _ (.tmp 14) (.const (.int .u64 0)) rfl g 1 rfl _ C0 (.int .u64 0) rfl K1 (Lib.hid (by have := HL.out; omega)) (by kernel_rfl) rfl ?_; intro w2 K2 O2 hq2; obtain ⟨C1, hC1⟩ : ∃ x, x = C0.set 1 (.int .u64 0) := ⟨_, rfl⟩; have HC1 := Lib.hid hC1; have HL1 : Hid (C1.length = 20) := (by rw [hC1, List.length_set]; exact HL.out); rw [← hC1] at K2; have L2 := Lib.hid (below_only L1.out O2.out hg1); clear hC1)
      | ((with_reducible show wpList _ _ _ (⟨none, .store _ (.tmp 15) _, _, _, _, _⟩ :: _) _ _); refine wpList_store_fld rfl _ (.tmp 15) (.const (.int .u8 0)) rfl g 14 rfl _ C1 (.int .u8 0) rfl K2 (Lib.hid (by have := HL1.out; omega)) (by kernel_rfl) rfl ?_; intro w3 K3 O3 hq3; obtain ⟨C2, hC2⟩ : ∃ x, x = C1.set 14 (.int .u8 0) := ⟨_, rfl⟩; have HC2 := Lib.hid hC2; have HL2 : Hid (C2.length = 20) := (by rw [hC2, List.length_set]; exact HL1.out); rw [← hC2] at K3; have L3 := Lib.hid (below_only L2.out O3.out hg1); clear hC2)
      | ((with_reducible show wpList _ _ _ (⟨none, .store _ (.tmp 16) _, _, _, _, _⟩ :: _) _ _); refine wpList_store_fld rfl _ (.tmp 16) (.const (.bool false)) rfl g 19 rfl _ C2 (.bool false) rfl K3 (Lib.hid (by have := HL2.out; omega)) (by kernel_rfl) rfl ?_; intro w4 K4 O4 hq4; obtain ⟨C3, hC3⟩ : ∃ x, x = C2.set 19 (.bool false) := ⟨_, rfl⟩; have HC3 := Lib.hid hC3; have HL3 : Hid (C3.length = 20) := (by rw [hC3, List.length_set]; exact HL2.out); rw [← hC3] at K4; have L4 := Lib.hid (below_only L3.out O4.out hg1); clear hC3)
      | ((with_reducible show wpList _ _ _ (⟨some 24, _, _, _, _, _⟩ :: _) _ _); refine wpList_load_blk rfl _ (.tmp 3) rfl g rfl _ C3 K4 20 _ Tryd.underlying45 rfl size_say HL3 ?_)
      | fail)
    have HF : Hid (C3 = D) := by
      show _ = _
      rw [HC3.out, HC2.out, HC1.out]
      exact HEQ.out
    rw [HF.out]
    refine (CP.out _ D b kb (HI.out _ L4.out)).mono ?_
    rintro e v1 ⟨⟨v, er, rfl, her⟩, LQ⟩
    have HER := Lib.hid her
    have L99 := Lib.hid (step L4.out LQ)
    clear her LQ
    go_wp2
    go_ret
    exact ⟨ret_bool HER.out, L99.out⟩
  · subst h17
    have hbe : besideIS 17 a = a := by unfold besideIS; rw [if_neg (by decide), if_neg (by decide), if_neg (by decide)]
    have hnf : nameIS 17 a = decide (besideIS 17 a = zeroSay) := by unfold nameIS; rw [hk, Bool.true_and]
    rw [hnf, hbe]
    have kb : (a : SayV).ok := ⟨ka.dia, ka.siz, ka.clen, ka.cbyte, ka.lev, ka.dur, ka.made, ka.file, ka.kind, ka.data, ka.n, ka.ents⟩
    have HI : Hid (∀ w' : World, Below w.heap.size w w' → SayIs w' w'.heap.size (scells (.slice X1 X2 X3) (.slice M1 M2 M3) (a)) (a)) := fun w' hb => ⟨X1, X2, X3, M1, M2, M3, rfl, hX.over hb, hM.over hb⟩
    have HEQ : Hid (C0 = scells (.slice X1 X2 X3) (.slice M1 M2 M3) (a)) := by
      show _ = _
      exact HC0.out
    obtain ⟨b, hb⟩ : ∃ x : SayV, x = a := ⟨_, rfl⟩
    rw [← hb] at HI HEQ kb  ⊢
    obtain ⟨D, hD⟩ : ∃ x, x = scells (.slice X1 X2 X3) (.slice M1 M2 M3) b := ⟨_, rfl⟩
    rw [← hD] at HI HEQ
    clear hb hD hk ka hbe hnf
    go_enter Tryd.func44, Tryd.ntmps44
    go_wp2_with (first
      | ((with_reducible show wpList _ _ _ (⟨some 3, _, _, _, _, _⟩ :: _) _ _); refine wpList_box_blk rfl _ (.tmp 1) rfl C0 rfl ?_; intro g w1 hg1 hg2 K1 L1)
      | ((with_reducible show wpList _ _ _ (⟨some 24, _, _, _, _, _⟩ :: _) _ _); refine wpList_load_blk rfl _ (.tmp 3) rfl g rfl _ C0 K1 20 _ Tryd.underlying45 rfl size_say HL ?_)
      | fail)
    have HF : Hid (C0 = D) := by
      show _ = _
      exact HEQ.out
    rw [HF.out]
    refine (CP.out _ D b kb (HI.out _ L1.out)).mono ?_
    rintro e v1 ⟨⟨v, er, rfl, her⟩, LQ⟩
    have HER := Lib.hid her
    have L99 := Lib.hid (step L1.out LQ)
    clear her LQ
    go_wp2
    go_ret
    exact ⟨ret_bool HER.out, L99.out⟩
  · subst h18
    have hbe : besideIS 18 a = { a with file := 0, lev := 0 } := by unfold besideIS; rw [if_neg (by decide), if_neg (by decide), if_pos rfl]
    have hnf : nameIS 18 a = decide (besideIS 18 a = zeroSay) := by unfold nameIS; rw [hk, Bool.true_and]
    rw [hnf, hbe]
    have kb : ({ a with file := 0, lev := 0 } : SayV).ok := ⟨ka.dia, ka.siz, ka.clen, ka.cbyte, zb (by decide), ka.dur, ka.made, zb (by decide), ka.kind, ka.data, ka.n, ka.ents⟩
    have HI : Hid (∀ w' : World, Below w.heap.size w w' → SayIs w' w'.heap.size (scells (.slice X1 X2 X3) (.slice M1 M2 M3) ({ a with file := 0, lev := 0 })) ({ a with file := 0, lev := 0 })) := fun w' hb => ⟨X1, X2, X3, M1, M2, M3, rfl, hX.over hb, hM.over hb⟩
    have HEQ : Hid (((C0).set 13 (.int .u64 0)).set 10 (.int .u8 0) = scells (.slice X1 X2 X3) (.slice M1 M2 M3) ({ a with file := 0, lev := 0 })) := by
      show _ = _
      rw [HC0.out]
      simp only [sc13, sc10, hcl]
      try rfl
    obtain ⟨b, hb⟩ : ∃ x : SayV, x = { a with file := 0, lev := 0 } := ⟨_, rfl⟩
    rw [← hb] at HI HEQ kb  ⊢
    obtain ⟨D, hD⟩ : ∃ x, x = scells (.slice X1 X2 X3) (.slice M1 M2 M3) b := ⟨_, rfl⟩
    rw [← hD] at HI HEQ
    clear hb hD hk ka hbe hnf
    go_enter Tryd.func44, Tryd.ntmps44
    go_wp2_with (first
      | ((with_reducible show wpList _ _ _ (⟨some 3, _, _, _, _, _⟩ :: _) _ _); refine wpList_box_blk rfl _ (.tmp 1) rfl C0 rfl ?_; intro g w1 hg1 hg2 K1 L1)
      | ((with_reducible show wpList _ _ _ (⟨none, .store _ (.tmp 21) _, _, _, _, _⟩ :: _) _ _); refine wpList_store_fld rfl _ (.tmp 21) (.const (.int .u64 0)) rfl g 13 rfl _ C0 (.int .u64 0) rfl K1 (Lib.hid (by have := HL.out; omega)) (by kernel_rfl) rfl ?_; intro w2 K2 O2 hq2; obtain ⟨C1, hC1⟩ : ∃ x, x = C0.set 13 (.int .u64 0) := ⟨_, rfl⟩; have HC1 := Lib.hid hC1; have HL1 : Hid (C1.length = 20) := (by rw [hC1, List.length_set]; exact HL.out); rw [← hC1] at K2; have L2 := Lib.hid (below_only L1.out O2.out hg1); clear hC1)
      | ((with_reducible show wpList _ _ _ (⟨none, .store _ (.tmp 22) _, _, _, _, _⟩ :: _) _ _); refine wpList_store_fld rfl _ (.tmp 22) (.const (.int .u8 0)) rfl g 10 rfl _ C1 (.int .u8 0) rfl K2 (Lib.hid (by have := HL1.out; omega)) (by kernel_rfl) rfl ?_; intro w3 K3 O3 hq3; obtain ⟨C2, hC2⟩ : ∃ x, x = C1.set 10 (.int .u8 0) := ⟨_, rfl⟩; have HC2 := Lib.hid hC2; have HL2 : Hid (C2.length = 20) := (by rw [hC2, List.length_set]; exact HL1.out); rw [← hC2] at K3; have L3 := Lib.hid (below_only L2.out O3.out hg1); clear hC2)
      | ((with_reducible show wpList _ _ _ (⟨some 24, _, _, _, _, _⟩ :: _) _ _); refine wpList_load_blk rfl _ (.tmp 3) rfl g rfl _ C2 K3 20 _ Tryd.underlying45 rfl size_say HL2 ?_)
      | fail)
    have HF : Hid (C2 = D) := by
      show _ = _
      rw [HC2.out, HC1.out]
      exact HEQ.out
    rw [HF.out]
    refine (CP.out _ D b kb (HI.out _ L3.out)).mono ?_
    rintro e v1 ⟨⟨v, er, rfl, her⟩, LQ⟩
    have HER := Lib.hid her
    have L99 := Lib.hid (step L3.out LQ)
    clear her LQ
    go_wp2
    go_ret
    exact ⟨ret_bool HER.out, L99.out⟩
end Go.Proofs.YtbbjmmooemmeiaaDoor

namespace Go.Proofs.YtbbjmmooemmeiaaDoor
set_option linter.all false
open Go.RowKit
set_option linter.unusedVariables false
set_option linter.unusedSimpArgs false
set_option maxRecDepth 100000
def IPSayPost (w : World) (c : Int) (a : SayV) (e : Ending) (w' : World) : Prop := ∃ v, e = .returned (.tuple #[v, .int .i64 (jpErr c a)]) ∧ OwnZ .u8 5 w' w.heap.size v (jpOf c a) ∧ Below w.heap.size w w'
set_option maxHeartbeats 4000000 in
theorem IPutSay_any (w : World) (c : Int) (cs : List Value) (a : SayV) (hc : 0 ≤ c ∧ c ≤ 65535) (ka : a.ok) (ha : SayIs w w.heap.size cs a) (hn : a.ents.length ≤ 4398046511104 ∧ ∀ e ∈ a.ents, e.name.size ≤ 17592186044416) (hT : Tabs w) :
    Calls Tryd.prog 17 #[.int .u16 c, .agg cs.toArray] w (IPSayPost w c a) := by
  have HL := Lib.hid (ha.len ka)
  have HA := Lib.hid ha
  have HT : Hid (TabsB w.heap.size w) := TabsB.of hT
  obtain ⟨hn1, hn2⟩ := hn
  have CN : Hid (∀ w', Below w.heap.size w w' → Calls Tryd.prog 44 #[.int .u16 c, .agg cs.toArray] w' fun e w2 => e = .returned (.bool (nameIS c a)) ∧ Below w'.heap.size w' w2) := fun w' hb => iNamedSay_any w' c cs a hc ka (HA.out.over hb)
  have CT : Hid (∀ (w : World) (b : Bool), Calls Tryd.prog 34 #[.bool b] w fun e w' => e = .returned (.int .u64 (truthI b)) ∧ w = w') := wtruth_any
  obtain ⟨X1, X2, X3, M1, M2, M3, hcs, hX, hM⟩ := ha
  have hml := hM.len
  have CC : Hid (∀ w', Below w.heap.size w w' → Calls Tryd.prog 45 #[.slice M1 M2 M3, .func (.func 46) #[] #[]] w' fun e w2 => e = .returned (.bool (!a.ents.all entOk)) ∧ Below w'.heap.size w' w2) := fun w' hb => icontains_any w' M1 M2 M3 a.ents (hM.over hb) (by omega)
  have FL : Hid (∀ (w : World) (g : Nat), Blk w g 45 cs → w.cell? ⟨g, 17, none⟩ = some (.slice M1 M2 M3) ∧ w.cell? ⟨g, 18, none⟩ = some (.bool a.more) ∧ w.cell? ⟨g, 1, none⟩ = some (.int .u64 a.siz) ∧ w.cell? ⟨g, 14, none⟩ = some (.int .u8 a.kind) ∧ w.cell? ⟨g, 19, none⟩ = some (.bool a.gone) ∧ w.cell? ⟨g, 13, none⟩ = some (.int .u64 a.file) ∧ w.cell? ⟨g, 10, none⟩ = some (.int .u8 a.lev)) := by
    rw [hcs]
    exact fun w g h => ⟨h.at (scells_get ka 7), h.at (scells_get ka 8), h.at rfl, h.at (scells_get ka 4), h.at (scells_get ka 9), h.at (scells_get ka 3), h.at (scells_get ka 0)⟩
  have ZW := Lib.hid zero_wr
  have b1 := ka.siz; have b2 := ka.kind; have b3 := ka.file; have b5 := ka.lev
  have hents := ka.ents
  have HE : Hid (∀ er, jpErr c a = er → er ≠ 0 → ∀ (e : Ending) (w' : World), e = .returned (.tuple #[.slice none 0 0, .int .i64 er]) → Below w.heap.size w w' → IPSayPost w c a e w') := by
    intro er h0 h1 e w' h2 h3
    refine ⟨_, by rw [h0]; exact h2, ?_, h3⟩
    unfold jpOf
    rw [h0, if_neg h1]
    exact OwnZ.nil _ _ _ _
  clear hcs HA hX
  by_cases hnm : nameIS c a = true
  rotate_left
  · have hnf : nameIS c a = false := by simpa using hnm
    have HQ := Lib.hid (HE.out 2 (by unfold jpErr; rw [if_neg (fun h => hnm h.1)]) (by decide))
    rw [hnf] at CN
    clear hnm hnf hM ka hT hc CT ZW CC HE
    go_enter Tryd.func17, Tryd.ntmps17
    go_wp2_with (first
      | ((with_reducible show wpList _ _ _ (⟨some 3, _, _, _, _, _⟩ :: _) _ _); refine wpList_box_blk rfl _ (.tmp 1) rfl cs rfl ?_; intro z w1 hz1 hz2 Z1 L1; obtain ⟨c1, c2, c3, c4, c5, c6, c7⟩ := FL.out _ _ Z1.out)
      | ((with_reducible show wpList _ _ _ (⟨some 8, _, _, _, _, _⟩ :: _) _ _); refine wpList_load_blk rfl _ (.tmp 3) rfl z rfl _ cs Z1 20 _ Tryd.underlying45 rfl size_say HL ?_)
      | fail)
    refine (CN.out w1 L1.out).mono ?_
    rintro e w2 ⟨rfl, L2⟩
    have L22 := Lib.hid (step L1.out L2)
    clear L2
    go_wp2
    go_ret2
    exact HQ.out _ _ rfl L22.out
  rw [hnm] at CN
  by_cases hkd : a.kind ≤ 2
  rotate_left
  · have HQ := Lib.hid (HE.out 2 (by unfold jpErr; rw [if_neg (fun h => hkd h.2.1)]) (by decide))
    have q1 : (2 : Int) < a.kind := by omega
    clear hnm hM ka hT hc CT ZW CC HE hkd
    go_enter Tryd.func17, Tryd.ntmps17
    go_wp2_with (first
      | ((with_reducible show wpList _ _ _ (⟨some 3, _, _, _, _, _⟩ :: _) _ _); refine wpList_box_blk rfl _ (.tmp 1) rfl cs rfl ?_; intro z w1 hz1 hz2 Z1 L1; obtain ⟨c1, c2, c3, c4, c5, c6, c7⟩ := FL.out _ _ Z1.out)
      | ((with_reducible show wpList _ _ _ (⟨some 8, _, _, _, _, _⟩ :: _) _ _); refine wpList_load_blk rfl _ (.tmp 3) rfl z rfl _ cs Z1 20 _ Tryd.underlying45 rfl size_say HL ?_)
      | fail)
    refine (CN.out w1 L1.out).mono ?_
    rintro e w2 ⟨rfl, L2⟩
    obtain ⟨d1, d2, d3, d4, d5, d6, d7⟩ := FL.out _ _ (Z1.out.over L2)
    have L22 := Lib.hid (step L1.out L2)
    clear L2
    go_wp2
    go_ret2
    exact HQ.out _ _ rfl L22.out
  have q1 : ¬ (2 : Int) < a.kind := by omega
  by_cases hall : a.ents.all entOk = true
  rotate_left
  · have HQ := Lib.hid (HE.out 2 (by unfold jpErr; rw [if_neg (fun h => hall h.2.2)]) (by decide))
    have hf : a.ents.all entOk = false := by simpa using hall
    rw [hf] at CC
    have CC1 : Hid (∀ w', Below w.heap.size w w' → Calls Tryd.prog 45 #[.slice M1 M2 M3, .func (.func 46) #[] #[]] w' fun e w2 => e = .returned (.bool true) ∧ Below w'.heap.size w' w2) := CC.out
    clear hnm hM ka hT hc CT ZW HE hall hf CC
    go_enter Tryd.func17, Tryd.ntmps17
    go_wp2_with (first
      | ((with_reducible show wpList _ _ _ (⟨some 3, _, _, _, _, _⟩ :: _) _ _); refine wpList_box_blk rfl _ (.tmp 1) rfl cs rfl ?_; intro z w1 hz1 hz2 Z1 L1; obtain ⟨c1, c2, c3, c4, c5, c6, c7⟩ := FL.out _ _ Z1.out)
      | ((with_reducible show wpList _ _ _ (⟨some 8, _, _, _, _, _⟩ :: _) _ _); refine wpList_load_blk rfl _ (.tmp 3) rfl z rfl _ cs Z1 20 _ Tryd.underlying45 rfl size_say HL ?_)
      | fail)
    refine (CN.out w1 L1.out).mono ?_
    rintro e w2 ⟨rfl, L2⟩
    obtain ⟨d1, d2, d3, d4, d5, d6, d7⟩ := FL.out _ _ (Z1.out.over L2)
    have L22 := Lib.hid (step L1.out L2)
    clear L2
    go_wp2_with fail
    refine (CC1.out w2 L22.out).mono ?_
    rintro e w3 ⟨rfl, L3⟩
    have L33 := Lib.hid (step L22.out L3)
    clear L3
    go_wp2
    go_ret2
    exact HQ.out _ _ rfl L33.out
  rw [hall] at CC
  have CC1 : Hid (∀ w', Below w.heap.size w w' → Calls Tryd.prog 45 #[.slice M1 M2 M3, .func (.func 46) #[] #[]] w' fun e w2 => e = .returned (.bool false) ∧ Below w'.heap.size w' w2) := CC.out
  clear CC
  by_cases hlen : a.ents.length ≤ 64
  rotate_left
  · have HQ := Lib.hid (HE.out 3 (by unfold jpErr; rw [if_pos ⟨hnm, hkd, hall⟩, if_neg hlen]) (by decide))
    have q2 : (64 : Int) < (M2 : Int) := by omega
    clear hnm hM ka hT hc CT ZW HE hall
    go_enter Tryd.func17, Tryd.ntmps17
    go_wp2_with (first
      | ((with_reducible show wpList _ _ _ (⟨some 3, _, _, _, _, _⟩ :: _) _ _); refine wpList_box_blk rfl _ (.tmp 1) rfl cs rfl ?_; intro z w1 hz1 hz2 Z1 L1; obtain ⟨c1, c2, c3, c4, c5, c6, c7⟩ := FL.out _ _ Z1.out)
      | ((with_reducible show wpList _ _ _ (⟨some 8, _, _, _, _, _⟩ :: _) _ _); refine wpList_load_blk rfl _ (.tmp 3) rfl z rfl _ cs Z1 20 _ Tryd.underlying45 rfl size_say HL ?_)
      | fail)
    refine (CN.out w1 L1.out).mono ?_
    rintro e w2 ⟨rfl, L2⟩
    obtain ⟨d1, d2, d3, d4, d5, d6, d7⟩ := FL.out _ _ (Z1.out.over L2)
    have Z2 := Lib.hid (Z1.out.over L2)
    have L22 := Lib.hid (step L1.out L2)
    clear L2
    go_wp2_with fail
    refine (CC1.out w2 L22.out).mono ?_
    rintro e w3 ⟨rfl, L3⟩
    obtain ⟨e1, e2, e3, e4, e5, e6, e7⟩ := FL.out _ _ (Z2.out.over L3)
    have L33 := Lib.hid (step L22.out L3)
    clear L3
    go_wp2
    go_ret2
    exact HQ.out _ _ rfl L33.out
  have q2 : ¬ (64 : Int) < (M2 : Int) := by omega
  have hml64 : M2 ≤ 64 := by omega
  have hin : ∀ e ∈ a.ents, EntIn e := fun e he => ⟨hents e he, List.all_eq_true.1 hall e he, hn2 e he⟩
  have hk : knownIS c = true := by unfold nameIS at hnm; simp only [Bool.and_eq_true] at hnm; exact hnm.1
  have hpos : nameIS c a = true ∧ a.kind ≤ 2 ∧ a.ents.all entOk = true := ⟨hnm, hkd, hall⟩
  have hw1 : IntKind.u64.wrap (M2 : Int) = (M2 : Int) := by rw [IntKind.wrap_u64]; omega
  have hw2 : IntKind.u64.wrap a.kind = a.kind := by rw [IntKind.wrap_u64]; omega
  obtain ⟨b10, b11⟩ := b1; obtain ⟨b20, b21⟩ := b2; obtain ⟨b30, b31⟩ := b3; obtain ⟨b50, b51⟩ := b5
  have bf : 0 ≤ a.file ∧ a.file ≤ 18446744073709551615 := ⟨b30, b31⟩
  have bs : 0 ≤ a.siz ∧ a.siz ≤ 18446744073709551615 := ⟨b10, b11⟩
  have bk : 0 ≤ a.kind ∧ a.kind ≤ 65535 := by omega
  have bl : 0 ≤ a.lev ∧ a.lev ≤ 255 := ⟨b50, b51⟩
  have bn : 0 ≤ (M2 : Int) ∧ (M2 : Int) ≤ 65535 := by omega
  have bo : 0 ≤ truthI a.more ∧ truthI a.more ≤ 65535 := by have := truthI_le a.more; omega
  have bg : 0 ≤ truthI a.gone ∧ truthI a.gone ≤ 65535 := by have := truthI_le a.gone; omega
  clear HE
  rcases knownIS_cases hk with h14 | h16 | h17 | h18
  · subst h14
    have D1 : Hid (∀ (w' : World) (g : Nat), WI w' g w.heap.size ([]) (0) → Calls Tryd.prog 31 #[.pointer (some ⟨g, 0, none⟩), .int .u64 (M2 : Int)] w' fun e w2 => e = .returned (.tuple #[]) ∧ WI w2 g w.heap.size ([] ++ le (M2 : Int) 2) (0) ∧ WKeep g w.heap.size w' w2) := fun w' g h => wtwo_any w' g _ _ _ (M2 : Int) h bn (by simp only [List.length_append, le_length, List.length_replicate, List.length_nil]; omega)
    have D2 : Hid (∀ (w' : World) (g : Nat), WI w' g w.heap.size ([] ++ le (M2 : Int) 2) (0) → Calls Tryd.prog 31 #[.pointer (some ⟨g, 0, none⟩), .int .u64 (truthI a.more)] w' fun e w2 => e = .returned (.tuple #[]) ∧ WI w2 g w.heap.size ([] ++ le (M2 : Int) 2 ++ le (truthI a.more) 2) (0) ∧ WKeep g w.heap.size w' w2) := fun w' g h => wtwo_any w' g _ _ _ (truthI a.more) h bo (by simp only [List.length_append, le_length, List.length_replicate, List.length_nil]; omega)
    have D3 : Hid (∀ (w' : World) (g : Nat), Below w.heap.size w w' → TabsB w.heap.size w' → WI w' g w.heap.size ([] ++ le (M2 : Int) 2 ++ le (truthI a.more) 2) (0) → Calls Tryd.prog 47 #[.pointer (some ⟨g, 0, none⟩), .slice M1 M2 M3] w' fun e w2 => e = .returned (.tuple #[]) ∧ WI w2 g w.heap.size ([] ++ le (M2 : Int) 2 ++ le (truthI a.more) 2 ++ entriesB a.ents) (entsErr a.ents) ∧ WKeep g w.heap.size w' w2) := fun w' g hb ht h => wentries_any w' g _ _ M1 M2 M3 a.ents h (hM.below hb) hml64 hin ht (by simp only [List.length_append, le_length, List.length_replicate, List.length_nil]; omega)
    have DE : Hid (∀ (w' : World) (g : Nat), WI w' g w.heap.size ([] ++ le (M2 : Int) 2 ++ le (truthI a.more) 2 ++ entriesB a.ents) (entsErr a.ents) → Calls Tryd.prog 36 #[.pointer (some ⟨g, 0, none⟩)] w' fun e w2 => ∃ v, e = .returned (.tuple #[v, .int .i64 (entsErr a.ents)]) ∧ OwnZ .u8 5 w2 w.heap.size v (if (entsErr a.ents) = 0 then [] ++ le (M2 : Int) 2 ++ le (truthI a.more) 2 ++ entriesB a.ents else []) ∧ Below w'.heap.size w' w2) := fun w' g h => wend_any w' g w.heap.size _ _ h
    have hbd : [] ++ le (M2 : Int) 2 ++ le (truthI a.more) 2 ++ entriesB a.ents = bodyIS 14 a := by unfold bodyIS; rw [if_pos rfl, hml]; simp only [List.nil_append, List.append_assoc]
    have her : jpErr 14 a = (entsErr a.ents) := by unfold jpErr; rw [if_pos hpos, if_pos hlen, if_pos rfl]
    have HQ : Hid (∀ (v : Value) (e : Ending) (w' : World), e = .returned (.tuple #[v, .int .i64 (entsErr a.ents)]) → OwnZ .u8 5 w' w.heap.size v (if (entsErr a.ents) = 0 then [] ++ le (M2 : Int) 2 ++ le (truthI a.more) 2 ++ entriesB a.ents else []) → Below w.heap.size w w' → IPSayPost w 14 a e w') := by
      intro v e w' h1 h2 h3
      refine ⟨v, by rw [her]; exact h1, ?_, h3⟩
      unfold jpOf
      rw [her, ← hbd]
      exact h2
    obtain ⟨y3, hy3⟩ : ∃ y : List Int, y = [] ++ le (M2 : Int) 2 ++ le (truthI a.more) 2 ++ entriesB a.ents := ⟨_, rfl⟩
    rw [← hy3] at D3 DE HQ
    obtain ⟨y2, hy2⟩ : ∃ y : List Int, y = [] ++ le (M2 : Int) 2 ++ le (truthI a.more) 2 := ⟨_, rfl⟩
    rw [← hy2] at D2 D3
    obtain ⟨y1, hy1⟩ : ∃ y : List Int, y = [] ++ le (M2 : Int) 2 := ⟨_, rfl⟩
    rw [← hy1] at D1 D2
    obtain ⟨er3, her3⟩ : ∃ y : Int, y = (entsErr a.ents) := ⟨_, rfl⟩
    try rw [← her3] at D3
    try rw [← her3] at DE
    try rw [← her3] at HQ
    clear her3
    clear hy1
    clear hy2
    clear hy3
    clear hk hnm hpos hall hkd her hbd ka hT hc hin hents hn2
    go_enter Tryd.func17, Tryd.ntmps17
    go_wp2_with (first
      | ((with_reducible show wpList _ _ _ (⟨some 3, _, _, _, _, _⟩ :: _) _ _); refine wpList_box_blk rfl _ (.tmp 1) rfl cs rfl ?_; intro z w1 hz1 hz2 Z1 L1; obtain ⟨c1, c2, c3, c4, c5, c6, c7⟩ := FL.out _ _ Z1.out)
      | ((with_reducible show wpList _ _ _ (⟨some 8, _, _, _, _, _⟩ :: _) _ _); refine wpList_load_blk rfl _ (.tmp 3) rfl z rfl _ cs Z1 20 _ Tryd.underlying45 rfl size_say HL ?_)
      | fail)
    refine (CN.out w1 L1.out).mono ?_
    rintro e w2 ⟨rfl, L2⟩
    obtain ⟨d1, d2, d3, d4, d5, d6, d7⟩ := FL.out _ _ (Z1.out.over L2)
    have Z2 := Lib.hid (Z1.out.over L2)
    have L22 := Lib.hid (step L1.out L2)
    clear L2 Z1 L1 CN c1 c2 c3 c4 c5 c6 c7
    go_wp2_with fail
    refine (CC1.out w2 L22.out).mono ?_
    rintro e w3 ⟨rfl, L3⟩
    have Z3 := Lib.hid (Z2.out.over L3)
    have L33 := Lib.hid (step L22.out L3)
    have hzs : z < w3.heap.size := Z3.out.lt
    clear L3 Z2 L22 CC1 d1 d2 d3 d4 d5 d6 d7
    have hws := L33.out.size
    obtain ⟨f1, f2, f3, f4, f5, f6, f7⟩ := FL.out _ _ Z3.out
    go_wp2_with (first
      | ((with_reducible show wpList _ _ _ (⟨some 6, _, _, _, _, _⟩ :: _) _ _); refine wpList_alloc_blk rfl _ rfl _ _ ZW ?_; intro g u0 hg1 hg2 G0 N0; have hzg : z ≠ g := (by omega); have Z0 := Lib.hid (Z3.out.over N0.out); have K0 : Hid (WKeep g w.heap.size w u0) := (WKeep.of_below (L33.out.trans (N0.out.mono hws)) (Nat.le_refl _)); have V0 : Hid (WI u0 g w.heap.size [] 0) := ⟨by omega, _, G0.out, OwnZ.nil _ _ _ _⟩; clear f1 f2 f3 f4 f5 f6 f7; obtain ⟨f1, f2, f3, f4, f5, f6, f7⟩ := FL.out _ _ Z0.out)
      | fail)
    have F1 := Lib.hid (D1.out _ _ V0.out)
    go_wp2_with fail
    refine F1.out.mono ?_
    rintro e u1 ⟨rfl, p1, p2⟩
    have V1 := Lib.hid p1
    have K1 := Lib.hid (K0.out.trans p2)
    have Z1 := Lib.hid (p2.blk Z0.out (by decide) hzg)
    obtain ⟨g1_1, g1_2, g1_3, g1_4, g1_5, g1_6, g1_7⟩ := FL.out _ _ Z1.out
    clear p1 p2 F1 V0
    go_wp2_with fail
    refine (CT.out _ _).mono ?_
    rintro e wt ⟨rfl, rfl⟩
    have F2 := Lib.hid (D2.out _ _ V1.out)
    go_wp2_with fail
    refine F2.out.mono ?_
    rintro e u2 ⟨rfl, p1, p2⟩
    have V2 := Lib.hid p1
    have K2 := Lib.hid (K1.out.trans p2)
    have Z2 := Lib.hid (p2.blk Z1.out (by decide) hzg)
    obtain ⟨g2_1, g2_2, g2_3, g2_4, g2_5, g2_6, g2_7⟩ := FL.out _ _ Z2.out
    clear p1 p2 F2 V1
    have F3 := Lib.hid (D3.out _ _ (K2.out.below) (HT.out.next K2.out.below) V2.out)
    go_wp2_with fail
    refine F3.out.mono ?_
    rintro e u3 ⟨rfl, p1, p2⟩
    have V3 := Lib.hid p1
    have K3 := Lib.hid (K2.out.trans p2)
    have Z3 := Lib.hid (p2.blk Z2.out (by decide) hzg)
    obtain ⟨g3_1, g3_2, g3_3, g3_4, g3_5, g3_6, g3_7⟩ := FL.out _ _ Z3.out
    clear p1 p2 F3 V2
    have FE := Lib.hid (DE.out _ _ V3.out)
    go_wp2_with fail
    refine FE.out.mono ?_
    rintro e ue ⟨v, rfl, p1, p2⟩
    have OE := Lib.hid p1
    have LE := Lib.hid (K3.out.below.trans (p2.mono (by have := K3.out.below.size; omega)))
    clear p1 p2 FE
    go_wp2
    go_ret2
    exact HQ.out _ _ _ rfl OE.out LE.out
  · subst h16
    have D1 : Hid (∀ (w' : World) (g : Nat), WI w' g w.heap.size ([]) (0) → Calls Tryd.prog 30 #[.pointer (some ⟨g, 0, none⟩), .int .u64 a.siz] w' fun e w2 => e = .returned (.tuple #[]) ∧ WI w2 g w.heap.size ([] ++ le a.siz 8) (0) ∧ WKeep g w.heap.size w' w2) := fun w' g h => weight_any w' g _ _ _ a.siz h bs (by simp only [List.length_append, le_length, List.length_replicate, List.length_nil]; omega)
    have D2 : Hid (∀ (w' : World) (g : Nat), WI w' g w.heap.size ([] ++ le a.siz 8) (0) → Calls Tryd.prog 31 #[.pointer (some ⟨g, 0, none⟩), .int .u64 a.kind] w' fun e w2 => e = .returned (.tuple #[]) ∧ WI w2 g w.heap.size ([] ++ le a.siz 8 ++ le a.kind 2) (0) ∧ WKeep g w.heap.size w' w2) := fun w' g h => wtwo_any w' g _ _ _ a.kind h bk (by simp only [List.length_append, le_length, List.length_replicate, List.length_nil]; omega)
    have D3 : Hid (∀ (w' : World) (g : Nat), WI w' g w.heap.size ([] ++ le a.siz 8 ++ le a.kind 2) (0) → Calls Tryd.prog 31 #[.pointer (some ⟨g, 0, none⟩), .int .u64 (truthI a.gone)] w' fun e w2 => e = .returned (.tuple #[]) ∧ WI w2 g w.heap.size ([] ++ le a.siz 8 ++ le a.kind 2 ++ le (truthI a.gone) 2) (0) ∧ WKeep g w.heap.size w' w2) := fun w' g h => wtwo_any w' g _ _ _ (truthI a.gone) h bg (by simp only [List.length_append, le_length, List.length_replicate, List.length_nil]; omega)
    have DE : Hid (∀ (w' : World) (g : Nat), WI w' g w.heap.size ([] ++ le a.siz 8 ++ le a.kind 2 ++ le (truthI a.gone) 2) 0 → Calls Tryd.prog 36 #[.pointer (some ⟨g, 0, none⟩)] w' fun e w2 => ∃ v, e = .returned (.tuple #[v, .int .i64 0]) ∧ OwnZ .u8 5 w2 w.heap.size v (if 0 = 0 then [] ++ le a.siz 8 ++ le a.kind 2 ++ le (truthI a.gone) 2 else []) ∧ Below w'.heap.size w' w2) := fun w' g h => wend_any w' g w.heap.size _ _ h
    have hbd : [] ++ le a.siz 8 ++ le a.kind 2 ++ le (truthI a.gone) 2 = bodyIS 16 a := by unfold bodyIS; rw [if_neg (by decide), if_pos rfl]; simp only [List.nil_append, List.append_assoc]
    have her : jpErr 16 a = 0 := by unfold jpErr; rw [if_pos hpos, if_pos hlen, if_neg (by decide)]
    have HQ : Hid (∀ (v : Value) (e : Ending) (w' : World), e = .returned (.tuple #[v, .int .i64 0]) → OwnZ .u8 5 w' w.heap.size v (if 0 = 0 then [] ++ le a.siz 8 ++ le a.kind 2 ++ le (truthI a.gone) 2 else []) → Below w.heap.size w w' → IPSayPost w 16 a e w') := by
      intro v e w' h1 h2 h3
      refine ⟨v, by rw [her]; exact h1, ?_, h3⟩
      unfold jpOf
      rw [her, ← hbd]
      exact h2
    obtain ⟨y3, hy3⟩ : ∃ y : List Int, y = [] ++ le a.siz 8 ++ le a.kind 2 ++ le (truthI a.gone) 2 := ⟨_, rfl⟩
    rw [← hy3] at D3 DE HQ
    obtain ⟨y2, hy2⟩ : ∃ y : List Int, y = [] ++ le a.siz 8 ++ le a.kind 2 := ⟨_, rfl⟩
    rw [← hy2] at D2 D3
    obtain ⟨y1, hy1⟩ : ∃ y : List Int, y = [] ++ le a.siz 8 := ⟨_, rfl⟩
    rw [← hy1] at D1 D2
    clear hy1
    clear hy2
    clear hy3
    clear hk hnm hpos hall hkd her hbd ka hT hc hin hents hn2
    go_enter Tryd.func17, Tryd.ntmps17
    go_wp2_with (first
      | ((with_reducible show wpList _ _ _ (⟨some 3, _, _, _, _, _⟩ :: _) _ _); refine wpList_box_blk rfl _ (.tmp 1) rfl cs rfl ?_; intro z w1 hz1 hz2 Z1 L1; obtain ⟨c1, c2, c3, c4, c5, c6, c7⟩ := FL.out _ _ Z1.out)
      | ((with_reducible show wpList _ _ _ (⟨some 8, _, _, _, _, _⟩ :: _) _ _); refine wpList_load_blk rfl _ (.tmp 3) rfl z rfl _ cs Z1 20 _ Tryd.underlying45 rfl size_say HL ?_)
      | fail)
    refine (CN.out w1 L1.out).mono ?_
    rintro e w2 ⟨rfl, L2⟩
    obtain ⟨d1, d2, d3, d4, d5, d6, d7⟩ := FL.out _ _ (Z1.out.over L2)
    have Z2 := Lib.hid (Z1.out.over L2)
    have L22 := Lib.hid (step L1.out L2)
    clear L2 Z1 L1 CN c1 c2 c3 c4 c5 c6 c7
    go_wp2_with fail
    refine (CC1.out w2 L22.out).mono ?_
    rintro e w3 ⟨rfl, L3⟩
    have Z3 := Lib.hid (Z2.out.over L3)
    have L33 := Lib.hid (step L22.out L3)
    have hzs : z < w3.heap.size := Z3.out.lt
    clear L3 Z2 L22 CC1 d1 d2 d3 d4 d5 d6 d7
    have hws := L33.out.size
    obtain ⟨f1, f2, f3, f4, f5, f6, f7⟩ := FL.out _ _ Z3.out
    go_wp2_with (first
      | ((with_reducible show wpList _ _ _ (⟨some 6, _, _, _, _, _⟩ :: _) _ _); refine wpList_alloc_blk rfl _ rfl _ _ ZW ?_; intro g u0 hg1 hg2 G0 N0; have hzg : z ≠ g := (by omega); have Z0 := Lib.hid (Z3.out.over N0.out); have K0 : Hid (WKeep g w.heap.size w u0) := (WKeep.of_below (L33.out.trans (N0.out.mono hws)) (Nat.le_refl _)); have V0 : Hid (WI u0 g w.heap.size [] 0) := ⟨by omega, _, G0.out, OwnZ.nil _ _ _ _⟩; clear f1 f2 f3 f4 f5 f6 f7; obtain ⟨f1, f2, f3, f4, f5, f6, f7⟩ := FL.out _ _ Z0.out)
      | fail)
    have F1 := Lib.hid (D1.out _ _ V0.out)
    go_wp2_with fail
    refine F1.out.mono ?_
    rintro e u1 ⟨rfl, p1, p2⟩
    have V1 := Lib.hid p1
    have K1 := Lib.hid (K0.out.trans p2)
    have Z1 := Lib.hid (p2.blk Z0.out (by decide) hzg)
    obtain ⟨g1_1, g1_2, g1_3, g1_4, g1_5, g1_6, g1_7⟩ := FL.out _ _ Z1.out
    clear p1 p2 F1 V0
    have F2 := Lib.hid (D2.out _ _ V1.out)
    go_wp2_with fail
    refine F2.out.mono ?_
    rintro e u2 ⟨rfl, p1, p2⟩
    have V2 := Lib.hid p1
    have K2 := Lib.hid (K1.out.trans p2)
    have Z2 := Lib.hid (p2.blk Z1.out (by decide) hzg)
    obtain ⟨g2_1, g2_2, g2_3, g2_4, g2_5, g2_6, g2_7⟩ := FL.out _ _ Z2.out
    clear p1 p2 F2 V1
    go_wp2_with fail
    refine (CT.out _ _).mono ?_
    rintro e wt ⟨rfl, rfl⟩
    have F3 := Lib.hid (D3.out _ _ V2.out)
    go_wp2_with fail
    refine F3.out.mono ?_
    rintro e u3 ⟨rfl, p1, p2⟩
    have V3 := Lib.hid p1
    have K3 := Lib.hid (K2.out.trans p2)
    have Z3 := Lib.hid (p2.blk Z2.out (by decide) hzg)
    obtain ⟨g3_1, g3_2, g3_3, g3_4, g3_5, g3_6, g3_7⟩ := FL.out _ _ Z3.out
    clear p1 p2 F3 V2
    have FE := Lib.hid (DE.out _ _ V3.out)
    go_wp2_with fail
    refine FE.out.mono ?_
    rintro e ue ⟨v, rfl, p1, p2⟩
    have OE := Lib.hid p1
    have LE := Lib.hid (K3.out.below.trans (p2.mono (by have := K3.out.below.size; omega)))
    clear p1 p2 FE
    go_wp2
    go_ret2
    exact HQ.out _ _ _ rfl OE.out LE.out
  · subst h17
    have D1 : Hid (∀ (w' : World) (g : Nat), WI w' g w.heap.size ([]) (0) → Calls Tryd.prog 32 #[.pointer (some ⟨g, 0, none⟩), .int .i64 4] w' fun e w2 => e = .returned (.tuple #[]) ∧ WI w2 g w.heap.size ([] ++ List.replicate 4 0) (0) ∧ WKeep g w.heap.size w' w2) := fun w' g h => wnought_any w' g _ _ _ 4 h (by decide) (by decide) (by simp only [List.length_append, le_length, List.length_replicate, List.length_nil]; omega)
    have DE : Hid (∀ (w' : World) (g : Nat), WI w' g w.heap.size ([] ++ List.replicate 4 0) 0 → Calls Tryd.prog 36 #[.pointer (some ⟨g, 0, none⟩)] w' fun e w2 => ∃ v, e = .returned (.tuple #[v, .int .i64 0]) ∧ OwnZ .u8 5 w2 w.heap.size v (if 0 = 0 then [] ++ List.replicate 4 0 else []) ∧ Below w'.heap.size w' w2) := fun w' g h => wend_any w' g w.heap.size _ _ h
    have hbd : [] ++ List.replicate 4 0 = bodyIS 17 a := by unfold bodyIS; rw [if_neg (by decide), if_neg (by decide), if_neg (by decide), List.nil_append]
    have her : jpErr 17 a = 0 := by unfold jpErr; rw [if_pos hpos, if_pos hlen, if_neg (by decide)]
    have HQ : Hid (∀ (v : Value) (e : Ending) (w' : World), e = .returned (.tuple #[v, .int .i64 0]) → OwnZ .u8 5 w' w.heap.size v (if 0 = 0 then [] ++ List.replicate 4 0 else []) → Below w.heap.size w w' → IPSayPost w 17 a e w') := by
      intro v e w' h1 h2 h3
      refine ⟨v, by rw [her]; exact h1, ?_, h3⟩
      unfold jpOf
      rw [her, ← hbd]
      exact h2
    obtain ⟨y1, hy1⟩ : ∃ y : List Int, y = [] ++ List.replicate 4 0 := ⟨_, rfl⟩
    rw [← hy1] at D1 DE HQ
    clear hy1
    clear hk hnm hpos hall hkd her hbd ka hT hc hin hents hn2
    go_enter Tryd.func17, Tryd.ntmps17
    go_wp2_with (first
      | ((with_reducible show wpList _ _ _ (⟨some 3, _, _, _, _, _⟩ :: _) _ _); refine wpList_box_blk rfl _ (.tmp 1) rfl cs rfl ?_; intro z w1 hz1 hz2 Z1 L1; obtain ⟨c1, c2, c3, c4, c5, c6, c7⟩ := FL.out _ _ Z1.out)
      | ((with_reducible show wpList _ _ _ (⟨some 8, _, _, _, _, _⟩ :: _) _ _); refine wpList_load_blk rfl _ (.tmp 3) rfl z rfl _ cs Z1 20 _ Tryd.underlying45 rfl size_say HL ?_)
      | fail)
    refine (CN.out w1 L1.out).mono ?_
    rintro e w2 ⟨rfl, L2⟩
    obtain ⟨d1, d2, d3, d4, d5, d6, d7⟩ := FL.out _ _ (Z1.out.over L2)
    have Z2 := Lib.hid (Z1.out.over L2)
    have L22 := Lib.hid (step L1.out L2)
    clear L2 Z1 L1 CN c1 c2 c3 c4 c5 c6 c7
    go_wp2_with fail
    refine (CC1.out w2 L22.out).mono ?_
    rintro e w3 ⟨rfl, L3⟩
    have Z3 := Lib.hid (Z2.out.over L3)
    have L33 := Lib.hid (step L22.out L3)
    have hzs : z < w3.heap.size := Z3.out.lt
    clear L3 Z2 L22 CC1 d1 d2 d3 d4 d5 d6 d7
    have hws := L33.out.size
    obtain ⟨f1, f2, f3, f4, f5, f6, f7⟩ := FL.out _ _ Z3.out
    go_wp2_with (first
      | ((with_reducible show wpList _ _ _ (⟨some 6, _, _, _, _, _⟩ :: _) _ _); refine wpList_alloc_blk rfl _ rfl _ _ ZW ?_; intro g u0 hg1 hg2 G0 N0; have hzg : z ≠ g := (by omega); have Z0 := Lib.hid (Z3.out.over N0.out); have K0 : Hid (WKeep g w.heap.size w u0) := (WKeep.of_below (L33.out.trans (N0.out.mono hws)) (Nat.le_refl _)); have V0 : Hid (WI u0 g w.heap.size [] 0) := ⟨by omega, _, G0.out, OwnZ.nil _ _ _ _⟩; clear f1 f2 f3 f4 f5 f6 f7; obtain ⟨f1, f2, f3, f4, f5, f6, f7⟩ := FL.out _ _ Z0.out)
      | fail)
    have F1 := Lib.hid (D1.out _ _ V0.out)
    go_wp2_with fail
    refine F1.out.mono ?_
    rintro e u1 ⟨rfl, p1, p2⟩
    have V1 := Lib.hid p1
    have K1 := Lib.hid (K0.out.trans p2)
    have Z1 := Lib.hid (p2.blk Z0.out (by decide) hzg)
    obtain ⟨g1_1, g1_2, g1_3, g1_4, g1_5, g1_6, g1_7⟩ := FL.out _ _ Z1.out
    clear p1 p2 F1 V0
    have FE := Lib.hid (DE.out _ _ V1.out)
    go_wp2_with fail
    refine FE.out.mono ?_
    rintro e ue ⟨v, rfl, p1, p2⟩
    have OE := Lib.hid p1
    have LE := Lib.hid (K1.out.below.trans (p2.mono (by have := K1.out.below.size; omega)))
    clear p1 p2 FE
    go_wp2
    go_ret2
    exact HQ.out _ _ _ rfl OE.out LE.out
  · subst h18
    have D1 : Hid (∀ (w' : World) (g : Nat), WI w' g w.heap.size ([]) (0) → Calls Tryd.prog 35 #[.pointer (some ⟨g, 0, none⟩), .int .u64 a.file, .int .u8 a.lev] w' fun e w2 => e = .returned (.tuple #[]) ∧ WI w2 g w.heap.size ([] ++ (le a.file 8 ++ (le a.lev 1 ++ List.replicate 3 0))) (0) ∧ WKeep g w.heap.size w' w2) := fun w' g h => wlevel_any w' g _ _ _ a.file a.lev h bf bl (by simp only [List.length_append, le_length, List.length_replicate, List.length_nil]; omega)
    have DE : Hid (∀ (w' : World) (g : Nat), WI w' g w.heap.size ([] ++ (le a.file 8 ++ (le a.lev 1 ++ List.replicate 3 0))) 0 → Calls Tryd.prog 36 #[.pointer (some ⟨g, 0, none⟩)] w' fun e w2 => ∃ v, e = .returned (.tuple #[v, .int .i64 0]) ∧ OwnZ .u8 5 w2 w.heap.size v (if 0 = 0 then [] ++ (le a.file 8 ++ (le a.lev 1 ++ List.replicate 3 0)) else []) ∧ Below w'.heap.size w' w2) := fun w' g h => wend_any w' g w.heap.size _ _ h
    have hbd : [] ++ (le a.file 8 ++ (le a.lev 1 ++ List.replicate 3 0)) = bodyIS 18 a := by unfold bodyIS; rw [if_neg (by decide), if_neg (by decide), if_pos rfl, List.nil_append]
    have her : jpErr 18 a = 0 := by unfold jpErr; rw [if_pos hpos, if_pos hlen, if_neg (by decide)]
    have HQ : Hid (∀ (v : Value) (e : Ending) (w' : World), e = .returned (.tuple #[v, .int .i64 0]) → OwnZ .u8 5 w' w.heap.size v (if 0 = 0 then [] ++ (le a.file 8 ++ (le a.lev 1 ++ List.replicate 3 0)) else []) → Below w.heap.size w w' → IPSayPost w 18 a e w') := by
      intro v e w' h1 h2 h3
      refine ⟨v, by rw [her]; exact h1, ?_, h3⟩
      unfold jpOf
      rw [her, ← hbd]
      exact h2
    obtain ⟨y1, hy1⟩ : ∃ y : List Int, y = [] ++ (le a.file 8 ++ (le a.lev 1 ++ List.replicate 3 0)) := ⟨_, rfl⟩
    rw [← hy1] at D1 DE HQ
    clear hy1
    clear hk hnm hpos hall hkd her hbd ka hT hc hin hents hn2
    go_enter Tryd.func17, Tryd.ntmps17
    go_wp2_with (first
      | ((with_reducible show wpList _ _ _ (⟨some 3, _, _, _, _, _⟩ :: _) _ _); refine wpList_box_blk rfl _ (.tmp 1) rfl cs rfl ?_; intro z w1 hz1 hz2 Z1 L1; obtain ⟨c1, c2, c3, c4, c5, c6, c7⟩ := FL.out _ _ Z1.out)
      | ((with_reducible show wpList _ _ _ (⟨some 8, _, _, _, _, _⟩ :: _) _ _); refine wpList_load_blk rfl _ (.tmp 3) rfl z rfl _ cs Z1 20 _ Tryd.underlying45 rfl size_say HL ?_)
      | fail)
    refine (CN.out w1 L1.out).mono ?_
    rintro e w2 ⟨rfl, L2⟩
    obtain ⟨d1, d2, d3, d4, d5, d6, d7⟩ := FL.out _ _ (Z1.out.over L2)
    have Z2 := Lib.hid (Z1.out.over L2)
    have L22 := Lib.hid (step L1.out L2)
    clear L2 Z1 L1 CN c1 c2 c3 c4 c5 c6 c7
    go_wp2_with fail
    refine (CC1.out w2 L22.out).mono ?_
    rintro e w3 ⟨rfl, L3⟩
    have Z3 := Lib.hid (Z2.out.over L3)
    have L33 := Lib.hid (step L22.out L3)
    have hzs : z < w3.heap.size := Z3.out.lt
    clear L3 Z2 L22 CC1 d1 d2 d3 d4 d5 d6 d7
    have hws := L33.out.size
    obtain ⟨f1, f2, f3, f4, f5, f6, f7⟩ := FL.out _ _ Z3.out
    go_wp2_with (first
      | ((with_reducible show wpList _ _ _ (⟨some 6, _, _, _, _, _⟩ :: _) _ _); refine wpList_alloc_blk rfl _ rfl _ _ ZW ?_; intro g u0 hg1 hg2 G0 N0; have hzg : z ≠ g := (by omega); have Z0 := Lib.hid (Z3.out.over N0.out); have K0 : Hid (WKeep g w.heap.size w u0) := (WKeep.of_below (L33.out.trans (N0.out.mono hws)) (Nat.le_refl _)); have V0 : Hid (WI u0 g w.heap.size [] 0) := ⟨by omega, _, G0.out, OwnZ.nil _ _ _ _⟩; clear f1 f2 f3 f4 f5 f6 f7; obtain ⟨f1, f2, f3, f4, f5, f6, f7⟩ := FL.out _ _ Z0.out)
      | fail)
    have F1 := Lib.hid (D1.out _ _ V0.out)
    go_wp2_with fail
    refine F1.out.mono ?_
    rintro e u1 ⟨rfl, p1, p2⟩
    have V1 := Lib.hid p1
    have K1 := Lib.hid (K0.out.trans p2)
    have Z1 := Lib.hid (p2.blk Z0.out (by decide) hzg)
    obtain ⟨g1_1, g1_2, g1_3, g1_4, g1_5, g1_6, g1_7⟩ := FL.out _ _ Z1.out
    clear p1 p2 F1 V0
    have FE := Lib.hid (DE.out _ _ V1.out)
    go_wp2_with fail
    refine FE.out.mono ?_
    rintro e ue ⟨v, rfl, p1, p2⟩
    have OE := Lib.hid p1
    have LE := Lib.hid (K1.out.below.trans (p2.mono (by have := K1.out.below.size; omega)))
    clear p1 p2 FE
    go_wp2
    go_ret2
    exact HQ.out _ _ _ rfl OE.out LE.out
end Go.Proofs.YtbbjmmooemmeiaaDoor
