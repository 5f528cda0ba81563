import Derived.WalkKit
import Derived.Deep.Draws
import Derived.Laws.Rows
import Derived.Laws.OwnMore
import Derived.Test.YtpodpmckdiijhaaGreatDoorRows
import Derived.Laws.CopyOwn
import Derived.Laws.AppendOwnNone
import Derived.Lib.Hide
import Derived.Laws.AppendOwn
import Derived.OwnWalk
import Derived.Lib.OthersKept
import Derived.Laws.BytesArg
import Derived.Laws.Tables
import Derived.Laws.NewFold
import Derived.Deep.WholeRow
import Derived.Deep.DeepCutAuto
import Derived.OneCell
import Derived.ProofKit
import Derived.OpenShut
import Derived.ShutString
import Derived.SizedLaws
import Derived.ChangeOld
import Derived.Deep.Strs
import Derived.Deep.MidRow
import Derived.Great.Walk
import Derived.OrdersHeld
import Derived.Laws.StructEq
import Derived.ChangeKeysEq
import Derived.Laws.Bits64
import Derived.Laws.BitsAllLaws
import Derived.WalkSpells
import Derived.WalkLawsBesides
import Derived.Deep.QuietTactic
import Derived.BigQuiet
import Derived.ArgAppend
import Derived.Lib.RuneBytes
import Derived.Lib.ValidLaws
import Derived.Shelf.Utf8.AppendRunePlain
import Derived.Shelf.Unicode.ValidAny
import Derived.Test.YtpodpmckdiijhaaGreatDoorProg
import Derived.Lib.AppendZeros
import Derived.Deep.RegionWith
import Derived.Deep.RegionLaw
import Derived.Deep.OwnRows
import Derived.Shelf.Abstract
import Derived.Lib.LaidIn
import Derived.Lib.LaidU8T
import Derived.Deep.DeepHandedRow
import Derived.Test.YtpodpmckdiijhaaGreatDoorWAD
namespace Go.Proofs.YtpodpmckdiijhaaGreatDoor
set_option linter.all false
open Go.RowKit
set_option linter.unusedVariables false
set_option maxRecDepth 100000 in
set_option maxHeartbeats 8000000 in
theorem Says_any (w : World) (cs ds : List Value) (a b : SayV) (ka : a.ok) (kb : b.ok) (ha : SayIs w w.heap.size cs a) (hb : SayIs w w.heap.size ds b) (la : a.data.length ≤ 281474976710656 ∧ a.ents.length ≤ 281474976710656) (lb : b.data.length ≤ 281474976710656 ∧ b.ents.length ≤ 281474976710656) :
    Calls Tryz.prog 39 #[.agg cs.toArray, .agg ds.toArray] w fun e w' => e = .returned (.bool (decide (a = b))) ∧ Below w.heap.size w w' := by
  obtain ⟨la2, la3⟩ := la
  obtain ⟨lb2, lb3⟩ := lb
  have HL := Lib.hid (ha.len ka)
  have HM := Lib.hid (hb.len kb)
  obtain ⟨A2, An2, Ac2, A3, An3, Ac3, rfl, hx2, hx3⟩ := ha
  obtain ⟨B2, Bn2, Bc2, B3, Bn3, Bc3, rfl, hy2, hy3⟩ := hb
  have bA2 : An2 ≤ 281474976710656 := by have := hx2.len; omega
  have bA3 : An3 ≤ 281474976710656 := by have := hx3.len; omega
  have bB2 : Bn2 ≤ 281474976710656 := by have := hy2.len; omega
  have bB3 : Bn3 ≤ 281474976710656 := by have := hy3.len; omega
  have CS : Hid (∀ w' : World, Below w.heap.size w w' → Calls Tryz.prog 14 #[.slice A2 An2 Ac2, .slice B2 Bn2 Bc2] w' fun e v => e = .returned (.bool (decide (a.data = b.data))) ∧ ∃ k, w'.drewN k = v) := fun w' hb => Same_any w' _ _ _ _ _ _ _ _ _ _ (hx2.below hb) (hy2.below hb)
  have CR : Hid (∀ w' : World, Below w.heap.size w w' → Calls Tryz.prog 64 #[.slice A3 An3 Ac3, .slice B3 Bn3 Bc3] w' fun e v => e = .returned (.bool (decide (a.ents = b.ents))) ∧ ∃ k, w'.drewN k = v) := fun w' hb => Entries_any w' _ _ _ _ _ _ _ _ _ _ (hx3.below hb) (hy3.below hb) bA3 bB3
  have f_dia : Hid (¬ a.dia = b.dia → decide (a = b) = false) := fun h => decide_eq_false fun he => h (by rw [he])
  have f_siz : Hid (¬ a.siz = b.siz → decide (a = b) = false) := fun h => decide_eq_false fun he => h (by rw [he])
  have f_chal : Hid (¬ a.chal = b.chal → decide (a = b) = false) := fun h => decide_eq_false fun he => h (by rw [he])
  have f_lev : Hid (¬ a.lev = b.lev → decide (a = b) = false) := fun h => decide_eq_false fun he => h (by rw [he])
  have f_dur : Hid (¬ a.dur = b.dur → decide (a = b) = false) := fun h => decide_eq_false fun he => h (by rw [he])
  have f_made : Hid (¬ a.made = b.made → decide (a = b) = false) := fun h => decide_eq_false fun he => h (by rw [he])
  have f_file : Hid (¬ a.file = b.file → decide (a = b) = false) := fun h => decide_eq_false fun he => h (by rw [he])
  have f_kind : Hid (¬ a.kind = b.kind → decide (a = b) = false) := fun h => decide_eq_false fun he => h (by rw [he])
  have f_data : Hid (¬ a.data = b.data → decide (a = b) = false) := fun h => decide_eq_false fun he => h (by rw [he])
  have f_n : Hid (¬ a.n = b.n → decide (a = b) = false) := fun h => decide_eq_false fun he => h (by rw [he])
  have f_ents : Hid (¬ a.ents = b.ents → decide (a = b) = false) := fun h => decide_eq_false fun he => h (by rw [he])
  have f_more : Hid (¬ a.more = b.more → decide (a = b) = false) := fun h => decide_eq_false fun he => h (by rw [he])
  have f_gone : Hid (¬ a.gone = b.gone → decide (a = b) = false) := fun h => decide_eq_false fun he => h (by rw [he])
  have HT : Hid (a.dia = b.dia → a.siz = b.siz → a.chal = b.chal → a.lev = b.lev → a.dur = b.dur → a.made = b.made → a.file = b.file → a.kind = b.kind → a.data = b.data → a.n = b.n → a.ents = b.ents → a.more = b.more → a.gone = b.gone → decide (a = b) = true) := by
    intro e0 e1 e2 e3 e4 e5 e6 e7 e8 e9 e10 e11 e12
    rw [decide_eq_true_iff]
    cases a; cases b
    simp only at e0 e1 e2 e3 e4 e5 e6 e7 e8 e9 e10 e11 e12
    subst e0 e1 e2 e3 e4 e5 e6 e7 e8 e9 e10 e11 e12
    rfl
  have q_chal : ∀ w : World, (Op.equalIn 10000 35 (.agg (a.chal.map (Value.int .u8)).toArray) (.agg (b.chal.map (Value.int .u8)).toArray)).run Tryz.prog w = .ok (decide (a.chal = b.chal)) w := fun w => run_equalIn_arr3 Tryz.underlying35 Tryz.underlying5 size_u8e a.chal b.chal ka.clen kb.clen 9998 w
  have qg_chal := guard_chal
  have RA_chal : Hid (∀ (w : World) (g : Nat), Blk w g 39 (scells (.slice A2 An2 Ac2) (.slice A3 An3 Ac3) a) → w.rangeAt g 2 (a.chal.map (Value.int .u8))) := fun w g h => scells_chal h ka
  have NA_chal : Hid ((a.chal.map (Value.int .u8)).length = 8) := by show _ = _; rw [List.length_map]; exact ka.clen
  have RB_chal : Hid (∀ (w : World) (g : Nat), Blk w g 39 (scells (.slice B2 Bn2 Bc2) (.slice B3 Bn3 Bc3) b) → w.rangeAt g 2 (b.chal.map (Value.int .u8))) := fun w g h => scells_chal h kb
  have NB_chal : Hid ((b.chal.map (Value.int .u8)).length = 8) := by show _ = _; rw [List.length_map]; exact kb.clen
  have FA : Hid (∀ (w : World) (g : Nat), Blk w g 39 (scells (.slice A2 An2 Ac2) (.slice A3 An3 Ac3) a) → w.cell? ⟨g, 0, none⟩ = some (.int .u16 a.dia) ∧ w.cell? ⟨g, 1, none⟩ = some (.int .u64 a.siz) ∧ w.cell? ⟨g, 10, none⟩ = some (.int .u8 a.lev) ∧ w.cell? ⟨g, 11, none⟩ = some (.int .u8 a.dur) ∧ w.cell? ⟨g, 12, none⟩ = some (.int .u16 a.made) ∧ w.cell? ⟨g, 13, none⟩ = some (.int .u64 a.file) ∧ w.cell? ⟨g, 14, none⟩ = some (.int .u8 a.kind) ∧ w.cell? ⟨g, 15, none⟩ = some (.slice A2 An2 Ac2) ∧ w.cell? ⟨g, 16, none⟩ = some (.int .u32 a.n) ∧ w.cell? ⟨g, 17, none⟩ = some (.slice A3 An3 Ac3) ∧ w.cell? ⟨g, 18, none⟩ = some (.bool a.more) ∧ w.cell? ⟨g, 19, none⟩ = some (.bool a.gone)) := fun w g h =>
    ⟨h.at rfl, h.at rfl, h.at (scells_get ka 0), h.at (scells_get ka 1), h.at (scells_get ka 2), h.at (scells_get ka 3), h.at (scells_get ka 4), h.at (scells_get ka 5), h.at (scells_get ka 6), h.at (scells_get ka 7), h.at (scells_get ka 8), h.at (scells_get ka 9)⟩
  have FB : Hid (∀ (w : World) (g : Nat), Blk w g 39 (scells (.slice B2 Bn2 Bc2) (.slice B3 Bn3 Bc3) b) → w.cell? ⟨g, 0, none⟩ = some (.int .u16 b.dia) ∧ w.cell? ⟨g, 1, none⟩ = some (.int .u64 b.siz) ∧ w.cell? ⟨g, 10, none⟩ = some (.int .u8 b.lev) ∧ w.cell? ⟨g, 11, none⟩ = some (.int .u8 b.dur) ∧ w.cell? ⟨g, 12, none⟩ = some (.int .u16 b.made) ∧ w.cell? ⟨g, 13, none⟩ = some (.int .u64 b.file) ∧ w.cell? ⟨g, 14, none⟩ = some (.int .u8 b.kind) ∧ w.cell? ⟨g, 15, none⟩ = some (.slice B2 Bn2 Bc2) ∧ w.cell? ⟨g, 16, none⟩ = some (.int .u32 b.n) ∧ w.cell? ⟨g, 17, none⟩ = some (.slice B3 Bn3 Bc3) ∧ w.cell? ⟨g, 18, none⟩ = some (.bool b.more) ∧ w.cell? ⟨g, 19, none⟩ = some (.bool b.gone)) := fun w g h =>
    ⟨h.at rfl, h.at rfl, h.at (scells_get kb 0), h.at (scells_get kb 1), h.at (scells_get kb 2), h.at (scells_get kb 3), h.at (scells_get kb 4), h.at (scells_get kb 5), h.at (scells_get kb 6), h.at (scells_get kb 7), h.at (scells_get kb 8), h.at (scells_get kb 9)⟩
  obtain ⟨z_chal, hz_chal⟩ : ∃ z, z = decide (a.chal = b.chal) := ⟨_, rfl⟩
  rw [← hz_chal] at q_chal
  have Z_chal := Lib.hid hz_chal
  clear hz_chal
  obtain ⟨la_chal, hl⟩ : ∃ l, l = a.chal.map (Value.int .u8) := ⟨_, rfl⟩
  rw [← hl] at q_chal RA_chal NA_chal
  clear hl
  obtain ⟨lb_chal, hl⟩ : ∃ l, l = b.chal.map (Value.int .u8) := ⟨_, rfl⟩
  rw [← hl] at q_chal RB_chal NB_chal
  clear hl
  obtain ⟨z_data, hz_data⟩ : ∃ z, z = decide (a.data = b.data) := ⟨_, rfl⟩
  rw [← hz_data] at CS
  have Z_data := Lib.hid hz_data
  clear hz_data
  obtain ⟨z_ents, hz_ents⟩ : ∃ z, z = decide (a.ents = b.ents) := ⟨_, rfl⟩
  rw [← hz_ents] at CR
  have Z_ents := Lib.hid hz_ents
  clear hz_ents
  obtain ⟨a_dia, ha_dia⟩ : ∃ x, x = a.dia := ⟨_, rfl⟩
  rw [← ha_dia] at FA f_dia HT
  obtain ⟨b_dia, hb_dia⟩ : ∃ x, x = b.dia := ⟨_, rfl⟩
  rw [← hb_dia] at FB f_dia HT
  obtain ⟨a_siz, ha_siz⟩ : ∃ x, x = a.siz := ⟨_, rfl⟩
  rw [← ha_siz] at FA f_siz HT
  obtain ⟨b_siz, hb_siz⟩ : ∃ x, x = b.siz := ⟨_, rfl⟩
  rw [← hb_siz] at FB f_siz HT
  obtain ⟨a_lev, ha_lev⟩ : ∃ x, x = a.lev := ⟨_, rfl⟩
  rw [← ha_lev] at FA f_lev HT
  obtain ⟨b_lev, hb_lev⟩ : ∃ x, x = b.lev := ⟨_, rfl⟩
  rw [← hb_lev] at FB f_lev HT
  obtain ⟨a_dur, ha_dur⟩ : ∃ x, x = a.dur := ⟨_, rfl⟩
  rw [← ha_dur] at FA f_dur HT
  obtain ⟨b_dur, hb_dur⟩ : ∃ x, x = b.dur := ⟨_, rfl⟩
  rw [← hb_dur] at FB f_dur HT
  obtain ⟨a_made, ha_made⟩ : ∃ x, x = a.made := ⟨_, rfl⟩
  rw [← ha_made] at FA f_made HT
  obtain ⟨b_made, hb_made⟩ : ∃ x, x = b.made := ⟨_, rfl⟩
  rw [← hb_made] at FB f_made HT
  obtain ⟨a_file, ha_file⟩ : ∃ x, x = a.file := ⟨_, rfl⟩
  rw [← ha_file] at FA f_file HT
  obtain ⟨b_file, hb_file⟩ : ∃ x, x = b.file := ⟨_, rfl⟩
  rw [← hb_file] at FB f_file HT
  obtain ⟨a_kind, ha_kind⟩ : ∃ x, x = a.kind := ⟨_, rfl⟩
  rw [← ha_kind] at FA f_kind HT
  obtain ⟨b_kind, hb_kind⟩ : ∃ x, x = b.kind := ⟨_, rfl⟩
  rw [← hb_kind] at FB f_kind HT
  obtain ⟨a_n, ha_n⟩ : ∃ x, x = a.n := ⟨_, rfl⟩
  rw [← ha_n] at FA f_n HT
  obtain ⟨b_n, hb_n⟩ : ∃ x, x = b.n := ⟨_, rfl⟩
  rw [← hb_n] at FB f_n HT
  obtain ⟨a_more, ha_more⟩ : ∃ x, x = a.more := ⟨_, rfl⟩
  rw [← ha_more] at FA f_more HT
  obtain ⟨b_more, hb_more⟩ : ∃ x, x = b.more := ⟨_, rfl⟩
  rw [← hb_more] at FB f_more HT
  obtain ⟨a_gone, ha_gone⟩ : ∃ x, x = a.gone := ⟨_, rfl⟩
  rw [← ha_gone] at FA f_gone HT
  obtain ⟨b_gone, hb_gone⟩ : ∃ x, x = b.gone := ⟨_, rfl⟩
  rw [← hb_gone] at FB f_gone HT
  obtain ⟨cs, hcs⟩ : ∃ c, c = scells (.slice A2 An2 Ac2) (.slice A3 An3 Ac3) a := ⟨_, rfl⟩
  rw [← hcs] at FA RA_chal HL ⊢
  obtain ⟨ds, hds⟩ : ∃ c, c = scells (.slice B2 Bn2 Bc2) (.slice B3 Bn3 Bc3) b := ⟨_, rfl⟩
  rw [← hds] at FB RB_chal HM ⊢
  obtain ⟨r, hr⟩ : ∃ r, r = decide (a = b) := ⟨_, rfl⟩
  rw [← hr] at HT f_dia f_siz f_chal f_lev f_dur f_made f_file f_kind f_data f_n f_ents f_more f_gone ⊢
  clear hr hcs hds ka kb ha_dia hb_dia ha_siz hb_siz ha_lev hb_lev ha_dur hb_dur ha_made hb_made ha_file hb_file ha_kind hb_kind ha_n hb_n ha_more hb_more ha_gone hb_gone hx2 hx3 hy2 hy3 la2 la3 lb2 lb3 bA2 bA3 bB2 bB3
  go_enter Tryz.func39, Tryz.ntmps39
  simp only [List.append_eq, List.cons_append, List.nil_append]
  by_cases t_dia : a_dia = b_dia
  rotate_left
  have nb : (a_dia == b_dia) = false := by simpa using t_dia
  have RS := Lib.hid (f_dia.out t_dia)
  clear t_dia
  rotate_right
  have nb_dia : (a_dia == b_dia) = true := by simpa using t_dia
  have e_dia := Lib.hid t_dia
  clear t_dia
  by_cases t_siz : a_siz = b_siz
  rotate_left
  have nb : (a_siz == b_siz) = false := by simpa using t_siz
  have RS := Lib.hid (f_siz.out t_siz)
  clear t_siz
  rotate_right
  have nb_siz : (a_siz == b_siz) = true := by simpa using t_siz
  have e_siz := Lib.hid t_siz
  clear t_siz
  cases z_chal
  · have ne : ¬ a.chal = b.chal := by have := Z_chal.out; simpa using this.symm
    have RS := Lib.hid (f_chal.out ne)
    clear ne
    go_wp2_with (first | ((with_reducible show wpList _ _ _ (⟨some 2, _, _, _, _, _⟩ :: _) _ _); refine wpList_box_blk rfl _ (.tmp 0) rfl cs rfl ?_; intro g w1 hg1 hg2 K0 L1) | ((with_reducible show wpList _ _ _ (⟨some 3, _, _, _, _, _⟩ :: _) _ _); refine wpList_box_blk rfl _ (.tmp 1) rfl ds rfl ?_; intro h w2 hg3 hg4 K2 L2'; have K1 := Lib.hid (K0.out.over L2'.out); have L2 := Lib.hid (step L1.out L2'.out); obtain ⟨ca_dia, ca_siz, ca_lev, ca_dur, ca_made, ca_file, ca_kind, ca_data, ca_n, ca_ents, ca_more, ca_gone⟩ := FA.out _ _ K1.out; obtain ⟨cb_dia, cb_siz, cb_lev, cb_dur, cb_made, cb_file, cb_kind, cb_data, cb_n, cb_ents, cb_more, cb_gone⟩ := FB.out _ _ K2.out; have rA_chal := Lib.hid (RA_chal.out _ _ K1.out); have rB_chal := Lib.hid (RB_chal.out _ _ K2.out)) | (first | ((with_reducible show wpList _ _ _ (⟨some 18, _, _, _, _, _⟩ :: _) _ _); refine wpList_fld_w (by kernel_rfl) _ (.tmp 2) 2 rfl (.pointer (some ⟨g, 0, none⟩)) (.pointer (some ⟨g, 2, none⟩)) (by kernel_rfl) (fld_say2 g) ?_) | ((with_reducible show wpList _ _ _ (⟨some 19, _, _, _, _, _⟩ :: _) _ _); refine wpList_load_midw (by kernel_rfl) _ (.tmp 18) rfl g 2 rfl la_chal _ rA_chal Tryz.underlying35 rfl 8 size_chal NA_chal ?_) | ((with_reducible show wpList _ _ _ (⟨some 20, _, _, _, _, _⟩ :: _) _ _); refine wpList_fld_w (by kernel_rfl) _ (.tmp 3) 2 rfl (.pointer (some ⟨h, 0, none⟩)) (.pointer (some ⟨h, 2, none⟩)) (by kernel_rfl) (fld_say2 h) ?_) | ((with_reducible show wpList _ _ _ (⟨some 21, _, _, _, _, _⟩ :: _) _ _); refine wpList_load_midw (by kernel_rfl) _ (.tmp 20) rfl h 2 rfl lb_chal _ rB_chal Tryz.underlying35 rfl 8 size_chal NB_chal ?_) | fail))
    go_ret
    exact ⟨ret_bool RS.out.symm, L2.out⟩
  · have e_chal : Hid (a.chal = b.chal) := by have := Z_chal.out; show _ = _; simpa using this.symm
    by_cases t_lev : a_lev = b_lev
    rotate_left
    have nb : (a_lev == b_lev) = false := by simpa using t_lev
    have RS := Lib.hid (f_lev.out t_lev)
    clear t_lev
    rotate_right
    have nb_lev : (a_lev == b_lev) = true := by simpa using t_lev
    have e_lev := Lib.hid t_lev
    clear t_lev
    by_cases t_dur : a_dur = b_dur
    rotate_left
    have nb : (a_dur == b_dur) = false := by simpa using t_dur
    have RS := Lib.hid (f_dur.out t_dur)
    clear t_dur
    rotate_right
    have nb_dur : (a_dur == b_dur) = true := by simpa using t_dur
    have e_dur := Lib.hid t_dur
    clear t_dur
    by_cases t_made : a_made = b_made
    rotate_left
    have nb : (a_made == b_made) = false := by simpa using t_made
    have RS := Lib.hid (f_made.out t_made)
    clear t_made
    rotate_right
    have nb_made : (a_made == b_made) = true := by simpa using t_made
    have e_made := Lib.hid t_made
    clear t_made
    by_cases t_file : a_file = b_file
    rotate_left
    have nb : (a_file == b_file) = false := by simpa using t_file
    have RS := Lib.hid (f_file.out t_file)
    clear t_file
    rotate_right
    have nb_file : (a_file == b_file) = true := by simpa using t_file
    have e_file := Lib.hid t_file
    clear t_file
    by_cases t_kind : a_kind = b_kind
    rotate_left
    have nb : (a_kind == b_kind) = false := by simpa using t_kind
    have RS := Lib.hid (f_kind.out t_kind)
    clear t_kind
    rotate_right
    have nb_kind : (a_kind == b_kind) = true := by simpa using t_kind
    have e_kind := Lib.hid t_kind
    clear t_kind
    go_wp2_with (first | ((with_reducible show wpList _ _ _ (⟨some 2, _, _, _, _, _⟩ :: _) _ _); refine wpList_box_blk rfl _ (.tmp 0) rfl cs rfl ?_; intro g w1 hg1 hg2 K0 L1) | ((with_reducible show wpList _ _ _ (⟨some 3, _, _, _, _, _⟩ :: _) _ _); refine wpList_box_blk rfl _ (.tmp 1) rfl ds rfl ?_; intro h w2 hg3 hg4 K2 L2'; have K1 := Lib.hid (K0.out.over L2'.out); have L2 := Lib.hid (step L1.out L2'.out); obtain ⟨ca_dia, ca_siz, ca_lev, ca_dur, ca_made, ca_file, ca_kind, ca_data, ca_n, ca_ents, ca_more, ca_gone⟩ := FA.out _ _ K1.out; obtain ⟨cb_dia, cb_siz, cb_lev, cb_dur, cb_made, cb_file, cb_kind, cb_data, cb_n, cb_ents, cb_more, cb_gone⟩ := FB.out _ _ K2.out; have rA_chal := Lib.hid (RA_chal.out _ _ K1.out); have rB_chal := Lib.hid (RB_chal.out _ _ K2.out)) | (first | ((with_reducible show wpList _ _ _ (⟨some 18, _, _, _, _, _⟩ :: _) _ _); refine wpList_fld_w (by kernel_rfl) _ (.tmp 2) 2 rfl (.pointer (some ⟨g, 0, none⟩)) (.pointer (some ⟨g, 2, none⟩)) (by kernel_rfl) (fld_say2 g) ?_) | ((with_reducible show wpList _ _ _ (⟨some 19, _, _, _, _, _⟩ :: _) _ _); refine wpList_load_midw (by kernel_rfl) _ (.tmp 18) rfl g 2 rfl la_chal _ rA_chal Tryz.underlying35 rfl 8 size_chal NA_chal ?_) | ((with_reducible show wpList _ _ _ (⟨some 20, _, _, _, _, _⟩ :: _) _ _); refine wpList_fld_w (by kernel_rfl) _ (.tmp 3) 2 rfl (.pointer (some ⟨h, 0, none⟩)) (.pointer (some ⟨h, 2, none⟩)) (by kernel_rfl) (fld_say2 h) ?_) | ((with_reducible show wpList _ _ _ (⟨some 21, _, _, _, _, _⟩ :: _) _ _); refine wpList_load_midw (by kernel_rfl) _ (.tmp 20) rfl h 2 rfl lb_chal _ rB_chal Tryz.underlying35 rfl 8 size_chal NB_chal ?_) | fail))
    refine (CS.out _ L2.out).mono ?_
    rintro e w' ⟨rfl, j_data, rfl⟩
    have K1_data' := K1.out.drewN j_data
    have K2_data' := K2.out.drewN j_data
    have L_data' := below_drewN L2.out j_data
    obtain ⟨w_data, hw_data⟩ : ∃ v, v = World.drewN w2 j_data := ⟨_, rfl⟩
    rw [← hw_data] at K1_data' K2_data' L_data' ⊢
    have K1_data := Lib.hid K1_data'
    have K2_data := Lib.hid K2_data'
    have L_data := Lib.hid L_data'
    clear hw_data K1_data' K2_data' L_data' ca_dia cb_dia ca_siz cb_siz ca_lev cb_lev ca_dur cb_dur ca_made cb_made ca_file cb_file ca_kind cb_kind ca_data cb_data ca_n cb_n ca_ents cb_ents ca_more cb_more ca_gone cb_gone
    clear rA_chal rB_chal
    cases z_data
    · have ne : ¬ a.data = b.data := by have := Z_data.out; simpa using this.symm
      have RS := Lib.hid (f_data.out ne)
      clear ne
      go_wp2_with fail
      go_ret
      exact ⟨ret_bool RS.out.symm, L_data.out⟩
    · have e_data : Hid (a.data = b.data) := by have := Z_data.out; show _ = _; simpa using this.symm
      obtain ⟨ca_dia, ca_siz, ca_lev, ca_dur, ca_made, ca_file, ca_kind, ca_data, ca_n, ca_ents, ca_more, ca_gone⟩ := FA.out _ _ K1_data.out
      obtain ⟨cb_dia, cb_siz, cb_lev, cb_dur, cb_made, cb_file, cb_kind, cb_data, cb_n, cb_ents, cb_more, cb_gone⟩ := FB.out _ _ K2_data.out
      have rA_chal := Lib.hid (RA_chal.out _ _ K1_data.out)
      have rB_chal := Lib.hid (RB_chal.out _ _ K2_data.out)
      by_cases t_n : a_n = b_n
      rotate_left
      have nb : (a_n == b_n) = false := by simpa using t_n
      have RS := Lib.hid (f_n.out t_n)
      clear t_n
      rotate_right
      have nb_n : (a_n == b_n) = true := by simpa using t_n
      have e_n := Lib.hid t_n
      clear t_n
      go_wp2_with fail
      refine (CR.out _ L_data.out).mono ?_
      rintro e w' ⟨rfl, j_ents, rfl⟩
      have K1_ents' := K1_data.out.drewN j_ents
      have K2_ents' := K2_data.out.drewN j_ents
      have L_ents' := below_drewN L_data.out j_ents
      obtain ⟨w_ents, hw_ents⟩ : ∃ v, v = World.drewN w_data j_ents := ⟨_, rfl⟩
      rw [← hw_ents] at K1_ents' K2_ents' L_ents' ⊢
      have K1_ents := Lib.hid K1_ents'
      have K2_ents := Lib.hid K2_ents'
      have L_ents := Lib.hid L_ents'
      clear hw_ents K1_ents' K2_ents' L_ents' ca_dia cb_dia ca_siz cb_siz ca_lev cb_lev ca_dur cb_dur ca_made cb_made ca_file cb_file ca_kind cb_kind ca_data cb_data ca_n cb_n ca_ents cb_ents ca_more cb_more ca_gone cb_gone
      clear rA_chal rB_chal
      cases z_ents
      · have ne : ¬ a.ents = b.ents := by have := Z_ents.out; simpa using this.symm
        have RS := Lib.hid (f_ents.out ne)
        clear ne
        go_wp2_with fail
        go_ret
        exact ⟨ret_bool RS.out.symm, L_ents.out⟩
      · have e_ents : Hid (a.ents = b.ents) := by have := Z_ents.out; show _ = _; simpa using this.symm
        obtain ⟨ca_dia, ca_siz, ca_lev, ca_dur, ca_made, ca_file, ca_kind, ca_data, ca_n, ca_ents, ca_more, ca_gone⟩ := FA.out _ _ K1_ents.out
        obtain ⟨cb_dia, cb_siz, cb_lev, cb_dur, cb_made, cb_file, cb_kind, cb_data, cb_n, cb_ents, cb_more, cb_gone⟩ := FB.out _ _ K2_ents.out
        have rA_chal := Lib.hid (RA_chal.out _ _ K1_ents.out)
        have rB_chal := Lib.hid (RB_chal.out _ _ K2_ents.out)
        by_cases t_more : a_more = b_more
        rotate_left
        have nb : (a_more == b_more) = false := by simpa using t_more
        have RS := Lib.hid (f_more.out t_more)
        clear t_more
        rotate_right
        have nb_more : (a_more == b_more) = true := by simpa using t_more
        have e_more := Lib.hid t_more
        clear t_more
        by_cases t_gone : a_gone = b_gone
        rotate_left
        have nb : (a_gone == b_gone) = false := by simpa using t_gone
        have RS := Lib.hid (f_gone.out t_gone)
        clear t_gone
        rotate_right
        have nb_gone : (a_gone == b_gone) = true := by simpa using t_gone
        have e_gone := Lib.hid t_gone
        clear t_gone
        go_wp2_with fail
        go_ret
        exact ⟨ret_bool (HT.out e_dia.out e_siz.out e_chal.out e_lev.out e_dur.out e_made.out e_file.out e_kind.out e_data.out e_n.out e_ents.out e_more.out e_gone.out).symm, L_ents.out⟩
        all_goals
          go_wp2_with fail
          go_ret
          exact ⟨ret_bool RS.out.symm, L_ents.out⟩
      all_goals
        go_wp2_with fail
        go_ret
        exact ⟨ret_bool RS.out.symm, L_data.out⟩
    all_goals
      go_wp2_with (first | ((with_reducible show wpList _ _ _ (⟨some 2, _, _, _, _, _⟩ :: _) _ _); refine wpList_box_blk rfl _ (.tmp 0) rfl cs rfl ?_; intro g w1 hg1 hg2 K0 L1) | ((with_reducible show wpList _ _ _ (⟨some 3, _, _, _, _, _⟩ :: _) _ _); refine wpList_box_blk rfl _ (.tmp 1) rfl ds rfl ?_; intro h w2 hg3 hg4 K2 L2'; have K1 := Lib.hid (K0.out.over L2'.out); have L2 := Lib.hid (step L1.out L2'.out); obtain ⟨ca_dia, ca_siz, ca_lev, ca_dur, ca_made, ca_file, ca_kind, ca_data, ca_n, ca_ents, ca_more, ca_gone⟩ := FA.out _ _ K1.out; obtain ⟨cb_dia, cb_siz, cb_lev, cb_dur, cb_made, cb_file, cb_kind, cb_data, cb_n, cb_ents, cb_more, cb_gone⟩ := FB.out _ _ K2.out; have rA_chal := Lib.hid (RA_chal.out _ _ K1.out); have rB_chal := Lib.hid (RB_chal.out _ _ K2.out)) | (first | ((with_reducible show wpList _ _ _ (⟨some 18, _, _, _, _, _⟩ :: _) _ _); refine wpList_fld_w (by kernel_rfl) _ (.tmp 2) 2 rfl (.pointer (some ⟨g, 0, none⟩)) (.pointer (some ⟨g, 2, none⟩)) (by kernel_rfl) (fld_say2 g) ?_) | ((with_reducible show wpList _ _ _ (⟨some 19, _, _, _, _, _⟩ :: _) _ _); refine wpList_load_midw (by kernel_rfl) _ (.tmp 18) rfl g 2 rfl la_chal _ rA_chal Tryz.underlying35 rfl 8 size_chal NA_chal ?_) | ((with_reducible show wpList _ _ _ (⟨some 20, _, _, _, _, _⟩ :: _) _ _); refine wpList_fld_w (by kernel_rfl) _ (.tmp 3) 2 rfl (.pointer (some ⟨h, 0, none⟩)) (.pointer (some ⟨h, 2, none⟩)) (by kernel_rfl) (fld_say2 h) ?_) | ((with_reducible show wpList _ _ _ (⟨some 21, _, _, _, _, _⟩ :: _) _ _); refine wpList_load_midw (by kernel_rfl) _ (.tmp 20) rfl h 2 rfl lb_chal _ rB_chal Tryz.underlying35 rfl 8 size_chal NB_chal ?_) | fail))
      go_ret
      exact ⟨ret_bool RS.out.symm, L2.out⟩
  all_goals
    go_wp2_with (first | ((with_reducible show wpList _ _ _ (⟨some 2, _, _, _, _, _⟩ :: _) _ _); refine wpList_box_blk rfl _ (.tmp 0) rfl cs rfl ?_; intro g w1 hg1 hg2 K0 L1) | ((with_reducible show wpList _ _ _ (⟨some 3, _, _, _, _, _⟩ :: _) _ _); refine wpList_box_blk rfl _ (.tmp 1) rfl ds rfl ?_; intro h w2 hg3 hg4 K2 L2'; have K1 := Lib.hid (K0.out.over L2'.out); have L2 := Lib.hid (step L1.out L2'.out); obtain ⟨ca_dia, ca_siz, ca_lev, ca_dur, ca_made, ca_file, ca_kind, ca_data, ca_n, ca_ents, ca_more, ca_gone⟩ := FA.out _ _ K1.out; obtain ⟨cb_dia, cb_siz, cb_lev, cb_dur, cb_made, cb_file, cb_kind, cb_data, cb_n, cb_ents, cb_more, cb_gone⟩ := FB.out _ _ K2.out; have rA_chal := Lib.hid (RA_chal.out _ _ K1.out); have rB_chal := Lib.hid (RB_chal.out _ _ K2.out)) | fail)
    go_ret
    exact ⟨ret_bool RS.out.symm, L2.out⟩
end Go.Proofs.YtpodpmckdiijhaaGreatDoor

namespace Go.Proofs.YtpodpmckdiijhaaGreatDoor
set_option linter.all false
set_option maxRecDepth 100000
open Go.RowKit
def cmdCells : List Value := commands.map (Value.int .u16)
set_option maxHeartbeats 1000000 in
theorem RKnown_any (w : World) (c : Int) :
    Calls Tryz.prog 50 #[.int .u16 c] w fun e w' => e = .returned (.bool (known c)) ∧ Below w.heap.size w w' := by
  have HK : Hid (∀ k, k < 17 → commands.getD k 0 = c → known c = true) := fun k hk he => by
    rw [← he]
    have h17 : k < commands.length := hk
    exact List.contains_iff_mem.2 (by rw [List.getD_eq_getElem?_getD, List.getElem?_eq_getElem h17]; exact List.getElem_mem h17)
  have HN : Hid ((∀ k, k < 17 → ¬ commands.getD k 0 = c) → known c = false) := fun hn => by
    rw [Bool.eq_false_iff]
    intro h
    obtain ⟨i, hi, he⟩ := List.mem_iff_getElem.1 (List.contains_iff_mem.1 h)
    exact hn i hi (by rw [List.getD_eq_getElem?_getD, List.getElem?_eq_getElem hi]; exact he)
  have HC : Hid (∀ k, k < 17 → cmdCells[k]? = some (.int .u16 (commands.getD k 0))) := fun k hk => by
    have h17 : k < commands.length := hk
    simp [cmdCells, h17]
  obtain ⟨z, hz⟩ : ∃ z, z = known c := ⟨_, rfl⟩
  rw [← hz] at HK HN ⊢
  have hcs : Tryz.prog.builtSlice 24 17 [(0, .int .u16 0), (1, .int .u16 1), (2, .int .u16 2), (3, .int .u16 3), (4, .int .u16 4), (5, .int .u16 5), (6, .int .u16 6), (7, .int .u16 7), (8, .int .u16 8), (9, .int .u16 9), (10, .int .u16 10), (11, .int .u16 12), (12, .int .u16 13), (13, .int .u16 14), (14, .int .u16 16), (15, .int .u16 17), (16, .int .u16 18)] = some cmdCells.toArray := by kernel_rfl
  obtain ⟨cs, hc⟩ : ∃ cs, cs = cmdCells := ⟨_, rfl⟩
  obtain ⟨cl, hcl⟩ : ∃ cl, cl = commands := ⟨_, rfl⟩
  rw [← hc] at HC hcs
  rw [← hcl] at HC HK HN
  clear hz hc hcl
  go_enter Tryz.func50, Tryz.ntmps50
  go_wp2_with (((with_reducible show wpList _ _ _ (⟨some 5, _, _, _, _, _⟩ :: _) _ _); refine wpList_slice_blk rfl _ _ 17 _ rfl Tryz.underlying116 cs (by refine Eq.trans ?_ hcs; kernel_rfl) ?_; intro g w1 hg1 hg2 B1 L1))
  go_loop [4] (fun i => ∃ k : Nat, k ≤ 17 ∧ i = .int .i64 k ∧ Hid (∀ j, j < k → ¬ cl.getD j 0 = c)) (fun i => 17 - (intOf i).toNat)
  case atStart => exact ⟨0, Nat.zero_le _, rfl, fun j hj => absurd hj (by omega)⟩
  case round =>
    obtain ⟨k, hk, rfl, HT⟩ := hrel
    by_cases hlt : k < 17
    · have gc := (B1.out.cell k).trans (HC.out k hlt)
      have hK := HK.out k hlt
      have hT := HT.out
      obtain ⟨y, hy⟩ : ∃ y, y = cl.getD k 0 := ⟨_, rfl⟩
      rw [← hy] at gc hK
      have HY := Lib.hid hy
      clear hy
      by_cases he : y = c
      · have hS := Lib.hid (hK he)
        have hb : (y == c) = true := by simpa using he
        clear hK hT HT he
        go_wp2
        go_ret
        exact ⟨ret_bool hS.out.symm, L1.out⟩
      · have hS : Hid (∀ j, j < k + 1 → ¬ cl.getD j 0 = c) := fun j hj => by
          by_cases hjk : j < k
          · exact hT j hjk
          · obtain rfl : j = k := by omega
            rw [← HY.out]
            exact he
        have hb : (y == c) = false := by simpa using he
        clear hK hT HT he
        go_wp2
        go_round
        case rel => exact ⟨k + 1, by omega, by go_num, hS⟩
        case measure => simp [intOf]; omega
    · obtain rfl : k = 17 := by omega
      have hS := Lib.hid (HN.out HT.out)
      clear HT HN HK
      go_wp2
      go_ret
      exact ⟨ret_bool hS.out.symm, L1.out⟩
set_option maxHeartbeats 400000 in
theorem RHas_any (w : World) (h : Hd) (k : h.ok) :
    Calls Tryz.prog 46 #[hv h, .int .u32 2] w fun e w' => e = .returned (.bool (isAs h.fl)) ∧ Below w.heap.size w w' := by
  have h1 := k.fl
  have hb : Hid ((h.fl / 2 % 2 == 1) = isAs h.fl) := by
    show _ = _
    unfold isAs
    rw [Bool.eq_iff_iff, beq_iff_eq, decide_eq_true_iff]
  obtain ⟨z, hz⟩ : ∃ z, z = isAs h.fl := ⟨_, rfl⟩
  rw [← hz] at hb ⊢
  have F4 : Hid (∀ (w : World) (g : Nat), Blk w g 28 (hcells h) → w.cell? ⟨g, 4, none⟩ = some (.int .u32 h.fl)) := fun w g B => HB.c4 B
  obtain ⟨fl, hfl⟩ : ∃ fl, fl = h.fl := ⟨_, rfl⟩
  rw [← hfl] at h1 hb F4
  obtain ⟨cs, hcs⟩ : ∃ cs, cs = hcells h := ⟨_, rfl⟩
  unfold hv
  rw [← hcs] at F4 ⊢
  obtain ⟨h0, h1⟩ := h1
  have hq : fl.tdiv 2 = fl / 2 := Int.tdiv_eq_ediv_of_nonneg h0
  have hm : (fl / 2).tmod 2 = fl / 2 % 2 := Int.tmod_eq_emod_of_nonneg (by omega)
  have hb' := hb.out
  clear hz k hfl hcs hb
  go_enter Tryz.func46, Tryz.ntmps46
  go_wp2_with (((with_reducible show wpList _ _ _ (⟨some 2, _, _, _, _, _⟩ :: _) _ _); refine wpList_box_blk rfl _ (.tmp 0) rfl cs rfl ?_; intro g w1 hg1 hg2 B1 L1; have gc := F4.out _ _ B1.out))
  go_ret
  exact ⟨rfl, L1.out⟩
set_option maxHeartbeats 400000 in
theorem RMay_any (w : World) (h : Hd) (k : h.ok) :
    Calls Tryz.prog 27 #[hv h] w fun e w' => e = .returned (.bool (mayP h)) ∧ Below w.heap.size w w' := by
  have CK : Hid (∀ w : World, Calls Tryz.prog 50 #[.int .u16 h.cm] w fun e w' => e = .returned (.bool (known h.cm)) ∧ Below w.heap.size w w') := fun w => RKnown_any w h.cm
  have CH : Hid (∀ w : World, Calls Tryz.prog 46 #[hv h, .int .u32 2] w fun e w' => e = .returned (.bool (isAs h.fl)) ∧ Below w.heap.size w w') := fun w => RHas_any w h k
  have HL := Lib.hid (hcells_len k)
  obtain ⟨f0, f1⟩ := k.fl
  have FB : Hid (∀ (w : World) (g : Nat), Blk w g 28 (hcells h) → w.cell? ⟨g, 2, none⟩ = some (.int .u16 h.cm) ∧ w.cell? ⟨g, 4, none⟩ = some (.int .u32 h.fl) ∧ w.cell? ⟨g, 7, none⟩ = some (.int .u64 h.asy) ∧ w.cell? ⟨g, 8, none⟩ = some (.int .u32 h.tr)) := fun w g B => ⟨HB.c2 B, HB.c4 B, HB.c7 B, HB.c8 B⟩
  have HM : Hid (mayP h = (known h.cm && (decide (h.fl < 16) && (if isAs h.fl = true then decide (h.tr = 0) else decide (h.asy = 0))))) := rfl
  obtain ⟨fl, hfl⟩ : ∃ fl, fl = h.fl := ⟨_, rfl⟩
  obtain ⟨cm, hcm⟩ : ∃ cm, cm = h.cm := ⟨_, rfl⟩
  obtain ⟨tr, htr⟩ : ∃ tr, tr = h.tr := ⟨_, rfl⟩
  obtain ⟨asy, hasy⟩ : ∃ asy, asy = h.asy := ⟨_, rfl⟩
  obtain ⟨cs, hcs⟩ : ∃ cs, cs = hcells h := ⟨_, rfl⟩
  rw [← hfl] at FB HM CH f0 f1
  rw [← hcm] at FB HM CK
  rw [← htr, ← hasy] at FB HM
  unfold hv at CH ⊢
  rw [← hcs] at FB CH HL ⊢
  clear hfl hcm htr hasy hcs k
  by_cases hk : known cm = true
  · rw [hk] at CK HM
    by_cases h16 : fl < 16
    · rw [decide_eq_true h16] at HM
      have hd : decide (16 ≤ fl) = false := by rw [decide_eq_false_iff_not]; omega
      by_cases hi : isAs fl = true
      · rw [hi] at CH HM
        rw [show mayP h = (tr == 0) from by
          rw [HM.out, if_pos rfl, Bool.true_and, Bool.true_and, Bool.eq_iff_iff, beq_iff_eq, decide_eq_true_iff]]
        clear hk hi HM
        go_enter Tryz.func27, Tryz.ntmps27
        go_wp2_with (first
          | ((with_reducible show wpList _ _ _ (⟨some 1, _, _, _, _, _⟩ :: _) _ _); refine wpList_box_blk rfl _ (.tmp 0) rfl cs rfl ?_; intro g w1 hg1 hg2 B1 L1; have ga := (FB.out _ _ B1.out).1)
          | fail)
        refine (CK.out _).mono ?_
        rintro e w2 ⟨rfl, L2⟩
        have B2 := Lib.hid (B1.out.over L2)
        have gb := (FB.out _ _ B2.out).2.1
        have L12 := Lib.hid (step L1.out L2)
        clear B1 L1 L2 ga CK
        go_wp2_with (first
          | ((with_reducible show wpList _ _ _ (⟨some 12, _, _, _, _, _⟩ :: _) _ _); refine wpList_load_blk rfl _ (.tmp 1) rfl g rfl _ _ B2 26 _ Tryz.underlying28 rfl size_hd HL ?_)
          | fail)
        refine (CH.out _).mono ?_
        rintro e w3 ⟨rfl, L3⟩
        have gd := (FB.out _ _ (B2.out.over L3)).2.2.2
        clear CH B2 gb
        go_wp2
        go_ret
        exact ⟨rfl, step L12.out L3⟩
      · have hi' : isAs fl = false := by simpa using hi
        rw [hi'] at CH HM
        rw [show mayP h = (asy == 0) from by
          rw [HM.out, if_neg (by decide), Bool.true_and, Bool.true_and, Bool.eq_iff_iff, beq_iff_eq, decide_eq_true_iff]]
        clear hk hi hi' HM
        go_enter Tryz.func27, Tryz.ntmps27
        go_wp2_with (first
          | ((with_reducible show wpList _ _ _ (⟨some 1, _, _, _, _, _⟩ :: _) _ _); refine wpList_box_blk rfl _ (.tmp 0) rfl cs rfl ?_; intro g w1 hg1 hg2 B1 L1; have ga := (FB.out _ _ B1.out).1)
          | fail)
        refine (CK.out _).mono ?_
        rintro e w2 ⟨rfl, L2⟩
        have B2 := Lib.hid (B1.out.over L2)
        have gb := (FB.out _ _ B2.out).2.1
        have L12 := Lib.hid (step L1.out L2)
        clear B1 L1 L2 ga CK
        go_wp2_with (first
          | ((with_reducible show wpList _ _ _ (⟨some 12, _, _, _, _, _⟩ :: _) _ _); refine wpList_load_blk rfl _ (.tmp 1) rfl g rfl _ _ B2 26 _ Tryz.underlying28 rfl size_hd HL ?_)
          | fail)
        refine (CH.out _).mono ?_
        rintro e w3 ⟨rfl, L3⟩
        have gd := (FB.out _ _ (B2.out.over L3)).2.2.1
        clear CH B2 gb
        go_wp2
        go_ret
        exact ⟨rfl, step L12.out L3⟩
    · rw [decide_eq_false h16] at HM
      have hd : decide (16 ≤ fl) = true := by rw [decide_eq_true_iff]; omega
      rw [show mayP h = false from by rw [HM.out]; simp]
      clear hk HM CH
      go_enter Tryz.func27, Tryz.ntmps27
      go_wp2_with (first
        | ((with_reducible show wpList _ _ _ (⟨some 1, _, _, _, _, _⟩ :: _) _ _); refine wpList_box_blk rfl _ (.tmp 0) rfl cs rfl ?_; intro g w1 hg1 hg2 B1 L1; have ga := (FB.out _ _ B1.out).1)
        | fail)
      refine (CK.out _).mono ?_
      rintro e w2 ⟨rfl, L2⟩
      have gb := (FB.out _ _ (B1.out.over L2)).2.1
      clear ga CK
      go_wp2
      go_ret
      exact ⟨rfl, step L1.out L2⟩
  · have hk' : known cm = false := by simpa using hk
    rw [hk'] at CK HM
    rw [show mayP h = false from by rw [HM.out]; simp]
    clear hk hk' HM CH
    go_enter Tryz.func27, Tryz.ntmps27
    go_wp2_with (first
      | ((with_reducible show wpList _ _ _ (⟨some 1, _, _, _, _, _⟩ :: _) _ _); refine wpList_box_blk rfl _ (.tmp 0) rfl cs rfl ?_; intro g w1 hg1 hg2 B1 L1; have ga := (FB.out _ _ B1.out).1)
      | fail)
    refine (CK.out _).mono ?_
    rintro e w2 ⟨rfl, L2⟩
    clear ga CK
    go_wp2
    go_ret
    exact ⟨rfl, step L1.out L2⟩
end Go.Proofs.YtpodpmckdiijhaaGreatDoor

namespace Go.Proofs.YtpodpmckdiijhaaGreatDoor
set_option linter.all false
open Go.RowKit
set_option linter.unusedVariables false
set_option maxRecDepth 100000
theorem holds_news {w : World} {B : Nat} {ad : Addr} {n c : Nat} {xs : List Int} (hr : Holds w B (some ad) n c xs) : ∀ j u, (xs.map (Value.int .u8))[j]? = some u → w.cell? (ad.add j) = some u := by
  have hl := hr.len
  intro j u hj
  have hjl : j < xs.length := by
    by_cases hj' : j < xs.length
    · exact hj'
    · rw [List.getElem?_eq_none (by simp; omega)] at hj
      cases hj
  obtain ⟨b, off, he, _, hcl⟩ := hr.cells (by omega)
  obtain rfl := Option.some.inj he
  have e : (⟨b, off, none⟩ : Addr).add j = ⟨b, off + j, none⟩ := by
    by_cases hj0 : j = 0
    · subst hj0; simp [Addr.add]
    · simp [Addr.add, hj0]
  rw [e, hcl j (by omega), ← hj]
  simp [hjl]
theorem wpList_append_full {w : World} {ops : Array Oper} {rest : List Oper} {o : Oper} {a : Act} {Q : Exit → Act → World → Prop} (hgd : o.guard = none) (s x : Operand)
    (ho : o.op = .call { callee := .builtin .append, args := #[s, x], argTypes := #[31, 31] })
    (B : Nat) (A : Option Addr) (n c : Nat) (xs : List Int) (hs : a.eval s = .slice A n n) (hX : Holds w B A n c xs) (B' : Nat) (A' : Option Addr) (m c' : Nat) (ys : List Int) (hx : a.eval x = .slice A' m c')
    (hY : Holds w B' A' m c' ys) (hm : 0 < m) (hlen : n + m ≤ 140737488355328)
    (h : ∀ v' w', Hid (Own w' w.heap.size v' (xs ++ ys)) → Below w.heap.size w w' → wpList Tryz.prog ops Q rest (a.put o.dst v') w') :
    wpList Tryz.prog ops Q (o :: rest) a w := by
  obtain ⟨i0, hi, hz0, hz1, hz2⟩ := info_parts info_u8
  have hl := hX.len
  have hl' := hY.len
  rcases A' with _ | ad
  · exact absurd (hY.bare rfl) (by have := hY.fit; omega)
  refine wpList_append_grows w hgd s x 31 ho 5 i0 (.int .u8 0) 1 1 Tryz.underlying31 hi hz0 hz1 hz2 rfl (by omega) A n n (xs.map (Value.int .u8)) hs (fun hA => ?_) (by simp [hl]) (fun b hb => ?_)
    ad m c' (ys.map (Value.int .u8)) hx (by simp [hl']) (holds_news hY) (by intro v hv; obtain ⟨x, _, rfl⟩ := List.mem_map.1 hv; rfl) (by omega) (by unfold maxLen; omega) (by omega) ?_
  · have := hX.bare hA
    have := hX.fit
    exact ⟨by omega, by omega⟩
  · subst hb
    exact holds_news hX
  · intro v' w' h1 h2
    refine h v' w' ?_ ((Below.refl _ _).grown h2 (Nat.le_refl _) (fun k hk => by cases hk))
    show w'.ownsRow w.heap.size 5 1 v' (xs ++ ys).length ((xs ++ ys).map (Value.int .u8))
    rw [List.map_append, List.length_append, hl, hl']
    exact h1
end Go.Proofs.YtpodpmckdiijhaaGreatDoor

namespace Go.Proofs.YtpodpmckdiijhaaGreatDoor
set_option linter.all false
open Go.RowKit
set_option linter.unusedVariables false
set_option linter.unusedSimpArgs false
set_option maxRecDepth 100000
/-! ### heads -/
set_option maxHeartbeats 400000 in
theorem RHasN_any (w : World) (h : Hd) (k : h.ok) (f : Int) (hf : 1 ≤ f ∧ f ≤ 8) :
    Calls Tryz.prog 46 #[hv h, .int .u32 f] w fun e w' => e = .returned (.bool (decide (h.fl / f % 2 = 1))) ∧ Below w.heap.size w w' := by
  have h1 := k.fl
  have hb : Hid ((h.fl / f % 2 == 1) = decide (h.fl / f % 2 = 1)) := by
    show _ = _
    rw [Bool.eq_iff_iff, beq_iff_eq, decide_eq_true_iff]
  obtain ⟨z, hz⟩ : ∃ z, z = decide (h.fl / f % 2 = 1) := ⟨_, rfl⟩
  rw [← hz] at hb ⊢
  have F4 : Hid (∀ (w : World) (g : Nat), Blk w g 28 (hcells h) → w.cell? ⟨g, 4, none⟩ = some (.int .u32 h.fl)) := fun w g B => HB.c4 B
  obtain ⟨fl, hfl⟩ : ∃ fl, fl = h.fl := ⟨_, rfl⟩
  rw [← hfl] at h1 hb F4
  obtain ⟨cs, hcs⟩ : ∃ cs, cs = hcells h := ⟨_, rfl⟩
  unfold hv
  rw [← hcs] at F4 ⊢
  obtain ⟨h0, h1⟩ := h1
  obtain ⟨f0, f1⟩ := hf
  have hq : fl.tdiv f = fl / f := Int.tdiv_eq_ediv_of_nonneg h0
  have hd0 : 0 ≤ fl / f := Int.ediv_nonneg h0 (by omega)
  have hd1 : fl / f ≤ fl := Int.ediv_le_self _ h0
  have hm : (fl / f).tmod 2 = fl / f % 2 := Int.tmod_eq_emod_of_nonneg hd0
  have hfz : (f == 0) = false := by rw [beq_eq_false_iff_ne]; omega
  have hfn : f ≠ 0 := by omega
  have hb' := hb.out
  clear hz k hfl hcs hb
  go_enter Tryz.func46, Tryz.ntmps46
  go_wp2_with (((with_reducible show wpList _ _ _ (⟨some 2, _, _, _, _, _⟩ :: _) _ _); refine wpList_box_blk rfl _ (.tmp 0) rfl cs rfl ?_; intro g w1 hg1 hg2 B1 L1; have gc := F4.out _ _ B1.out))
  go_ret
  exact ⟨rfl, L1.out⟩
theorem RIsReply_any (w : World) (h : Hd) (k : h.ok) :
    Calls Tryz.prog 28 #[hv h] w fun e w' => e = .returned (.bool (isRep h.fl)) ∧ Below w.heap.size w w' := by
  have HL := Lib.hid (hcells_len k)
  have CH : Hid (∀ w' : World, Calls Tryz.prog 46 #[hv h, .int .u32 1] w' fun e w2 => e = .returned (.bool (isRep h.fl)) ∧ Below w'.heap.size w' w2) := fun w' => by
    have h1 := RHasN_any w' h k 1 (by decide)
    rw [Int.ediv_one] at h1
    exact h1
  unfold hv at CH ⊢
  obtain ⟨cs, hcs⟩ : ∃ cs, cs = hcells h := ⟨_, rfl⟩
  rw [← hcs] at CH HL ⊢
  obtain ⟨z, hz⟩ : ∃ z, z = isRep h.fl := ⟨_, rfl⟩
  rw [← hz] at CH ⊢
  clear hz hcs k
  go_enter Tryz.func28, Tryz.ntmps28
  go_wp2_with (first
    | ((with_reducible show wpList _ _ _ (⟨some 1, _, _, _, _, _⟩ :: _) _ _); refine wpList_box_blk rfl _ (.tmp 0) rfl cs rfl ?_; intro g w1 hg1 hg2 B1 L1)
    | ((with_reducible show wpList _ _ _ (⟨some 3, _, _, _, _, _⟩ :: _) _ _); refine wpList_load_blk rfl _ (.tmp 1) rfl g rfl _ cs B1 26 _ Tryz.underlying28 rfl size_hd HL ?_)
    | fail)
  refine (CH.out w1).mono ?_
  rintro e w2 ⟨rfl, L2⟩
  go_wp2
  go_ret
  exact ⟨rfl, step L1.out L2⟩
/-- the head of a Reply -/
def ansH (h : Hd) (s : Int) : Hd := ⟨h.ch, IntKind.u32.wrap s, h.cm, 0, if h.fl / 4 % 2 = 1 then 5 else 1, 0, h.id, 0, if isAs h.fl = true then 0 else h.tr, h.se, List.replicate 16 0⟩
theorem ansH_ok {h : Hd} (k : h.ok) (s : Int) : (ansH h s).ok := by
  refine ⟨k.ch, ?_, k.cm, (by decide : (0 : Int) ≤ 0 ∧ (0 : Int) ≤ 65535), ?_, (by decide : (0 : Int) ≤ 0 ∧ (0 : Int) ≤ 4294967295), k.id, (by decide : (0 : Int) ≤ 0 ∧ (0 : Int) ≤ 18446744073709551615), ?_, k.se, by simp [ansH], Bytes.zeros 16⟩
  · show 0 ≤ IntKind.u32.wrap s ∧ IntKind.u32.wrap s ≤ 4294967295
    have e : IntKind.u32.wrap s = s % 4294967296 := by
      unfold IntKind.wrap
      rfl
    rw [e]
    omega
  · show 0 ≤ (if h.fl / 4 % 2 = 1 then (5 : Int) else 1) ∧ (if h.fl / 4 % 2 = 1 then (5 : Int) else 1) ≤ 4294967295
    split <;> omega
  · show 0 ≤ (if isAs h.fl = true then 0 else h.tr) ∧ (if isAs h.fl = true then 0 else h.tr) ≤ 4294967295
    split
    · decide
    · exact k.tr
theorem ansH_may {h : Hd} (s : Int) (hm : mayP h = true) : mayP (ansH h s) = true := by
  unfold mayP at hm ⊢
  simp only [Bool.and_eq_true, decide_eq_true_eq] at hm ⊢
  refine ⟨hm.1, ?_⟩
  show (if h.fl / 4 % 2 = 1 then (5 : Int) else 1) < 16 ∧ (if isAs (if h.fl / 4 % 2 = 1 then 5 else 1) = true then decide ((if isAs h.fl = true then 0 else h.tr) = 0) else decide ((0 : Int) = 0)) = true
  by_cases h4 : h.fl / 4 % 2 = 1
  · rw [if_pos h4, show isAs 5 = false by decide]; exact ⟨by decide, rfl⟩
  · rw [if_neg h4, show isAs 1 = false by decide]; exact ⟨by decide, rfl⟩
theorem ansH_rep (h : Hd) (s : Int) : isRep (ansH h s).fl = true := by
  show isRep (if h.fl / 4 % 2 = 1 then 5 else 1) = true
  split <;> decide
theorem flag_rel (x : Int) (h0 : 0 ≤ x) (h1 : x ≤ 4294967295) : bits .or .u32 1 (bits .and .u32 x 4) = if x / 4 % 2 = 1 then 5 else 1 := by
  obtain ⟨a, rfl⟩ := Int.eq_ofNat_of_zero_le h0
  have e : (bits .and .u32 (a : Int) 4) = ((a &&& 4 : Nat) : Int) := by
    rw [show (4 : Int) = ((4 : Nat) : Int) from rfl, u32_and_nat a 4 (by omega) (by omega)]
  rw [e]
  have h2 : a &&& 4 = if a / 4 % 2 = 1 then 4 else 0 := by
    have ht : a.testBit 2 = decide (a / 4 % 2 = 1) := by rw [Nat.testBit_eq_decide_div_mod_eq]
    apply Nat.eq_of_testBit_eq
    intro i
    rw [Nat.testBit_and, show (4 : Nat) = 2 ^ 2 from rfl, Nat.testBit_two_pow]
    by_cases hi : 2 = i
    · subst hi
      rw [ht]
      by_cases h : a / 4 % 2 = 1
      · rw [if_pos h, decide_eq_true h]; decide
      · rw [if_neg h, decide_eq_false h]; decide
    · rw [decide_eq_false hi, Bool.and_false]
      split
      · rw [Nat.testBit_two_pow, decide_eq_false hi]
      · exact (Nat.zero_testBit i).symm
  rw [h2]
  by_cases h : a / 4 % 2 = 1
  · rw [if_pos h, if_pos (by omega)]; decide
  · rw [if_neg h, if_neg (by omega)]; decide
set_option maxHeartbeats 2000000 in
theorem Answer_any (w : World) (h : Hd) (k : h.ok) (s : Int) (hs : -9223372036854775808 ≤ s ∧ s ≤ 9223372036854775807) :
    Calls Tryz.prog 25 #[hv h, .int .i64 s] w fun e w' => e = .returned (hv (ansH h s)) ∧ Below w.heap.size w w' := by
  have HL := Lib.hid (hcells_len k)
  have ZH := Lib.hid zero_hd
  have HZ := Lib.hid (hcells_len zeroHd_ok)
  have hfr := flag_rel h.fl k.fl.1 k.fl.2
  have hfa := flag_as h.fl k.fl.1 k.fl.2
  have FC : Hid (∀ (w : World) (g : Nat), Blk w g 28 (hcells h) → w.cell? ⟨g, 0, none⟩ = some (.int .u16 h.ch) ∧ w.cell? ⟨g, 2, none⟩ = some (.int .u16 h.cm) ∧ w.cell? ⟨g, 4, none⟩ = some (.int .u32 h.fl) ∧ w.cell? ⟨g, 6, none⟩ = some (.int .u64 h.id) ∧ w.cell? ⟨g, 8, none⟩ = some (.int .u32 h.tr) ∧ w.cell? ⟨g, 9, none⟩ = some (.int .u64 h.se)) :=
    fun w g B => ⟨HB.c0 B, HB.c2 B, HB.c4 B, HB.c6 B, HB.c8 B, HB.c9 B⟩
  obtain ⟨st, hst⟩ : ∃ x, x = IntKind.u32.wrap s := ⟨_, rfl⟩
  obtain ⟨fr, hfre⟩ : ∃ x : Int, x = if h.fl / 4 % 2 = 1 then 5 else 1 := ⟨_, rfl⟩
  rw [← hfre] at hfr
  obtain ⟨za, hza⟩ : ∃ x, x = isAs h.fl := ⟨_, rfl⟩
  rw [← hza] at hfa
  have e1 : hcells (ansH h s) = hcells ⟨h.ch, st, h.cm, 0, fr, 0, h.id, 0, if za = true then 0 else h.tr, h.se, List.replicate 16 0⟩ := by
    unfold ansH
    rw [hst, hfre, hza]
  have BL : Tryz.prog.built 28 [(0, .int .u16 h.ch), (1, .int .u32 st), (2, .int .u16 h.cm), (4, .int .u32 fr), (6, .int .u64 h.id), (8, .int .u32 h.tr), (9, .int .u64 h.se)] = some (hcells ⟨h.ch, st, h.cm, 0, fr, 0, h.id, 0, h.tr, h.se, List.replicate 16 0⟩).toArray := by kernel_rfl
  have HX : Hid ((hcells ⟨h.ch, st, h.cm, 0, fr, 0, h.id, 0, h.tr, h.se, List.replicate 16 0⟩).length = 26) := rfl
  have HXO := Lib.hid (hcells_one ⟨h.ch, st, h.cm, 0, fr, 0, h.id, 0, h.tr, h.se, List.replicate 16 0⟩)
  have HY : Hid ((hcells ⟨h.ch, st, h.cm, 0, fr, 0, h.id, 0, 0, h.se, List.replicate 16 0⟩).length = 26) := rfl
  have HYO := Lib.hid (hcells_one ⟨h.ch, st, h.cm, 0, fr, 0, h.id, 0, 0, h.se, List.replicate 16 0⟩)
  have HS : Hid ((hcells ⟨h.ch, st, h.cm, 0, fr, 0, h.id, 0, h.tr, h.se, List.replicate 16 0⟩).set 8 (.int .u32 0) = hcells ⟨h.ch, st, h.cm, 0, fr, 0, h.id, 0, 0, h.se, List.replicate 16 0⟩) := rfl
  unfold hv
  rw [e1]
  obtain ⟨cs, hcs⟩ : ∃ cs, cs = hcells h := ⟨_, rfl⟩
  rw [← hcs] at HL FC ⊢
  obtain ⟨zs, hzs⟩ : ∃ zs, zs = hcells zeroHd := ⟨_, rfl⟩
  rw [← hzs] at ZH HZ
  obtain ⟨xs, hxs⟩ : ∃ x, x = hcells ⟨h.ch, st, h.cm, 0, fr, 0, h.id, 0, h.tr, h.se, List.replicate 16 0⟩ := ⟨_, rfl⟩
  rw [← hxs] at BL HX HXO HS
  obtain ⟨ys, hys⟩ : ∃ x, x = hcells ⟨h.ch, st, h.cm, 0, fr, 0, h.id, 0, 0, h.se, List.replicate 16 0⟩ := ⟨_, rfl⟩
  rw [← hys] at HY HYO HS
  have e2 : hcells ⟨h.ch, st, h.cm, 0, fr, 0, h.id, 0, if za = true then 0 else h.tr, h.se, List.replicate 16 0⟩ = if za = true then ys else xs := by
    rw [hys, hxs]
    cases za <;> rfl
  rw [e2]
  obtain ⟨ch, hch⟩ : ∃ x, x = h.ch := ⟨_, rfl⟩
  obtain ⟨cm, hcm⟩ : ∃ x, x = h.cm := ⟨_, rfl⟩
  obtain ⟨fl, hfl⟩ : ∃ x, x = h.fl := ⟨_, rfl⟩
  obtain ⟨id, hid⟩ : ∃ x, x = h.id := ⟨_, rfl⟩
  obtain ⟨tr, htr⟩ : ∃ x, x = h.tr := ⟨_, rfl⟩
  obtain ⟨se, hse⟩ : ∃ x, x = h.se := ⟨_, rfl⟩
  rw [← hch, ← hcm, ← hid, ← htr, ← hse] at BL
  rw [← hch, ← hcm, ← hfl, ← hid, ← htr, ← hse] at FC
  rw [← hfl] at hfr hfa
  have hst' : IntKind.u32.wrap s = st := hst.symm
  have hstm : s % 4294967296 = st := by rw [← hst']; rfl
  clear e1 e2 hxs hys hcs hzs hza hfre hch hcm hfl hid htr hse k hst
  cases za
  · rw [if_neg (by decide)]
    go_enter Tryz.func25, Tryz.ntmps25
    go_wp2_with (first
      | ((with_reducible show wpList _ _ _ (⟨some 2, _, _, _, _, _⟩ :: _) _ _); refine wpList_box_blk rfl _ (.tmp 0) rfl cs rfl ?_; intro g w1 hg1 hg2 B1 L1; obtain ⟨c0, c2, c4, c6, c8, c9⟩ := FC.out _ _ B1.out)
      | ((with_reducible show wpList _ _ _ (⟨some 4, _, _, _, _, _⟩ :: _) _ _); refine wpList_alloc_blk rfl _ rfl zs _ ZH ?_; intro g0 w2 hg3 hg4 Z2 L2; have B2 := Lib.hid (B1.out.over L2.out); have M2 := Lib.hid (step L1.out L2.out); obtain ⟨d0, d2, d4, d6, d8, d9⟩ := FC.out _ _ B2.out)
      | ((with_reducible show wpList _ _ _ (⟨some 22, _, _, _, _, _⟩ :: _) _ _); refine wpList_build_blk rfl _ _ rfl xs (by refine Eq.trans (congrArg (Tryz.prog.built 28) ?_) BL; kernel_rfl) ?_)
      | ((with_reducible show wpList _ _ _ (⟨some 5, _, _, _, _, _⟩ :: _) _ _); refine wpList_alloc_blk rfl _ rfl zs _ ZH ?_; intro g5 w3 hg5 hg6 X3 L3; have Z3 := Lib.hid (Z2.out.over L3.out); have B3 := Lib.hid (B2.out.over L3.out); have M3 := Lib.hid (step M2.out L3.out); have hgw := L1.out.size)
      | ((with_reducible show wpList _ _ _ (⟨none, .store _ (.tmp 5) _, _, _, _, _⟩ :: _) _ _); refine wpList_store_blk rfl _ (.tmp 5) (.tmp 22) rfl g5 rfl _ zs xs rfl X3 26 size_hd HZ HX HXO ?_; intro w4 X4 O4 hg7; have Z4 := Lib.hid (Z3.out.only O4.out (by have := Z2.out.lt; omega)); have B4 := Lib.hid (B3.out.only O4.out (by have := B2.out.lt; omega)); obtain ⟨k0, k2, k4, k6, k8, k9⟩ := FC.out _ _ B4.out; have M4 := Lib.hid (below_only M3.out O4.out (by have := L2.out.size; omega)))
      | ((with_reducible show wpList _ _ _ (⟨some 28, _, _, _, _, _⟩ :: _) _ _); refine wpList_load_blk rfl _ (.tmp 5) rfl g5 rfl _ xs X4 26 _ Tryz.underlying28 rfl size_hd HX ?_)
      | ((with_reducible show wpList _ _ _ (⟨none, .store _ (.tmp 4) _, _, _, _, _⟩ :: _) _ _); refine wpList_store_blk rfl _ (.tmp 4) (.tmp 28) rfl g0 rfl _ zs xs rfl Z4 26 size_hd HZ HX HXO ?_; intro w5 X5 O5 hg8; clear c0 c2 c4 c6 c8 c9 d0 d2 d4 d6 d8 d9 k0 k2 k4 k6 k8 k9 hfr hfa hst' hstm FC)
      | fail)
    refine bodyPost_ret (v := .agg xs.toArray) ?_ rfl ⟨rfl, below_only M4.out O5.out (by omega)⟩
    exact results_cell_row rfl _ _ g0 _ _ (0, 0) _ rfl X5.out Tryz.underlying28 rfl (by rw [size_hd]; have := HX.out; simp [this])
  · rw [if_pos rfl]
    go_enter Tryz.func25, Tryz.ntmps25
    go_wp2_with (first
      | ((with_reducible show wpList _ _ _ (⟨some 2, _, _, _, _, _⟩ :: _) _ _); refine wpList_box_blk rfl _ (.tmp 0) rfl cs rfl ?_; intro g w1 hg1 hg2 B1 L1; obtain ⟨c0, c2, c4, c6, c8, c9⟩ := FC.out _ _ B1.out)
      | ((with_reducible show wpList _ _ _ (⟨some 4, _, _, _, _, _⟩ :: _) _ _); refine wpList_alloc_blk rfl _ rfl zs _ ZH ?_; intro g0 w2 hg3 hg4 Z2 L2; have B2 := Lib.hid (B1.out.over L2.out); have M2 := Lib.hid (step L1.out L2.out); obtain ⟨d0, d2, d4, d6, d8, d9⟩ := FC.out _ _ B2.out)
      | ((with_reducible show wpList _ _ _ (⟨some 22, _, _, _, _, _⟩ :: _) _ _); refine wpList_build_blk rfl _ _ rfl xs (by refine Eq.trans (congrArg (Tryz.prog.built 28) ?_) BL; kernel_rfl) ?_)
      | ((with_reducible show wpList _ _ _ (⟨some 5, _, _, _, _, _⟩ :: _) _ _); refine wpList_alloc_blk rfl _ rfl zs _ ZH ?_; intro g5 w3 hg5 hg6 X3 L3; have Z3 := Lib.hid (Z2.out.over L3.out); have B3 := Lib.hid (B2.out.over L3.out); have M3 := Lib.hid (step M2.out L3.out); have hgw := L1.out.size)
      | ((with_reducible show wpList _ _ _ (⟨none, .store _ (.tmp 5) _, _, _, _, _⟩ :: _) _ _); refine wpList_store_blk rfl _ (.tmp 5) (.tmp 22) rfl g5 rfl _ zs xs rfl X3 26 size_hd HZ HX HXO ?_; intro w4 X4 O4 hg7; have Z4 := Lib.hid (Z3.out.only O4.out (by have := Z2.out.lt; omega)); have B4 := Lib.hid (B3.out.only O4.out (by have := B2.out.lt; omega)); obtain ⟨k0, k2, k4, k6, k8, k9⟩ := FC.out _ _ B4.out; have M4 := Lib.hid (below_only M3.out O4.out (by have := L2.out.size; omega)))
      | ((with_reducible show wpList _ _ _ (⟨none, .store _ (.tmp 27) _, _, _, _, _⟩ :: _) _ _); refine wpList_store_fld rfl _ (.tmp 27) _ rfl g5 8 rfl _ xs (.int .u32 0) rfl X4 (Lib.hid (by have := HX.out; omega)) (by kernel_rfl) rfl ?_; intro w6 X6 O6 hg9; rw [HS.out] at X6; have Z6 := Lib.hid (Z4.out.only O6.out (by have := Z2.out.lt; omega)); have M6 := Lib.hid (below_only M4.out O6.out (by have := L2.out.size; omega)))
      | ((with_reducible show wpList _ _ _ (⟨some 28, _, _, _, _, _⟩ :: _) _ _); refine wpList_load_blk rfl _ (.tmp 5) rfl g5 rfl _ ys X6 26 _ Tryz.underlying28 rfl size_hd HY ?_)
      | ((with_reducible show wpList _ _ _ (⟨none, .store _ (.tmp 4) _, _, _, _, _⟩ :: _) _ _); refine wpList_store_blk rfl _ (.tmp 4) (.tmp 28) rfl g0 rfl _ zs ys rfl Z6 26 size_hd HZ HY HYO ?_; intro w5 X5 O5 hg8; clear c0 c2 c4 c6 c8 c9 d0 d2 d4 d6 d8 d9 k0 k2 k4 k6 k8 k9 hfr hfa hst' hstm FC)
      | fail)
    refine bodyPost_ret (v := .agg ys.toArray) ?_ rfl ⟨rfl, below_only M6.out O5.out (by omega)⟩
    exact results_cell_row rfl _ _ g0 _ _ (0, 0) _ rfl X5.out Tryz.underlying28 rfl (by rw [size_hd]; have := HY.out; simp [this])
end Go.Proofs.YtpodpmckdiijhaaGreatDoor

namespace Go.Proofs.YtpodpmckdiijhaaGreatDoor
set_option linter.all false
open Go.RowKit
set_option linter.unusedVariables false
set_option linter.unusedSimpArgs false
set_option maxRecDepth 100000
set_option maxHeartbeats 4000000 in
theorem RAnswer_any (w : World) (h : Hd) (k : h.ok) (s : Int) (hs : -9223372036854775808 ≤ s ∧ s ≤ 9223372036854775807) :
    Calls Tryz.prog 26 #[hv h, .int .i64 s] w fun e w' => e = .returned (hv (ansH h s)) ∧ Below w.heap.size w w' := by
  have HL := Lib.hid (hcells_len k)
  have ZH := Lib.hid zero_hd
  have HZ := Lib.hid (hcells_len zeroHd_ok)
  have C4 : Hid (∀ w' : World, Calls Tryz.prog 46 #[hv h, .int .u32 4] w' fun e w2 => e = .returned (.bool (decide (h.fl / 4 % 2 = 1))) ∧ Below w'.heap.size w' w2) := fun w' => RHasN_any w' h k 4 (by decide)
  have C2 : Hid (∀ w' : World, Calls Tryz.prog 46 #[hv h, .int .u32 2] w' fun e w2 => e = .returned (.bool (isAs h.fl)) ∧ Below w'.heap.size w' w2) := fun w' => RHasN_any w' h k 2 (by decide)
  have FC : Hid (∀ (w : World) (g : Nat), Blk w g 28 (hcells h) → w.cell? ⟨g, 0, none⟩ = some (.int .u16 h.ch) ∧ w.cell? ⟨g, 2, none⟩ = some (.int .u16 h.cm) ∧ w.cell? ⟨g, 6, none⟩ = some (.int .u64 h.id) ∧ w.cell? ⟨g, 8, none⟩ = some (.int .u32 h.tr) ∧ w.cell? ⟨g, 9, none⟩ = some (.int .u64 h.se)) :=
    fun w g B => ⟨HB.c0 B, HB.c2 B, HB.c6 B, HB.c8 B, HB.c9 B⟩
  obtain ⟨st, hst⟩ : ∃ x, x = IntKind.u32.wrap s := ⟨_, rfl⟩
  have hst' : IntKind.u32.wrap s = st := hst.symm
  have hstm : s % 4294967296 = st := by rw [← hst']; rfl
  have HF : Hid (∀ fl tr, (((((((hcells zeroHd).set 2 (.int .u16 h.cm)).set 6 (.int .u64 h.id)).set 9 (.int .u64 h.se)).set 0 (.int .u16 h.ch)).set 1 (.int .u32 st)).set 4 (.int .u32 fl)).set 8 (.int .u32 tr) = hcells ⟨h.ch, st, h.cm, 0, fl, 0, h.id, 0, tr, h.se, List.replicate 16 0⟩) := fun _ _ => rfl
  have HF5 : Hid (∀ tr, ((((((((hcells zeroHd).set 2 (.int .u16 h.cm)).set 6 (.int .u64 h.id)).set 9 (.int .u64 h.se)).set 0 (.int .u16 h.ch)).set 1 (.int .u32 st)).set 4 (.int .u32 1)).set 4 (.int .u32 5)).set 8 (.int .u32 tr) = hcells ⟨h.ch, st, h.cm, 0, 5, 0, h.id, 0, tr, h.se, List.replicate 16 0⟩) := fun _ => rfl
  have HE1 : Hid (((((((hcells zeroHd).set 2 (.int .u16 h.cm)).set 6 (.int .u64 h.id)).set 9 (.int .u64 h.se)).set 0 (.int .u16 h.ch)).set 1 (.int .u32 st)).set 4 (.int .u32 1) = hcells ⟨h.ch, st, h.cm, 0, 1, 0, h.id, 0, 0, h.se, List.replicate 16 0⟩) := rfl
  have HE5 : Hid ((((((((hcells zeroHd).set 2 (.int .u16 h.cm)).set 6 (.int .u64 h.id)).set 9 (.int .u64 h.se)).set 0 (.int .u16 h.ch)).set 1 (.int .u32 st)).set 4 (.int .u32 1)).set 4 (.int .u32 5) = hcells ⟨h.ch, st, h.cm, 0, 5, 0, h.id, 0, 0, h.se, List.replicate 16 0⟩) := rfl
  have HA : Hid (∀ fl tr, (if h.fl / 4 % 2 = 1 then (5 : Int) else 1) = fl → (if isAs h.fl = true then 0 else h.tr) = tr → hcells (ansH h s) = hcells ⟨h.ch, st, h.cm, 0, fl, 0, h.id, 0, tr, h.se, List.replicate 16 0⟩) := by
    rintro fl tr rfl rfl
    unfold ansH
    rw [hst]
  have HOO : Hid (∀ fl tr, ∀ v ∈ hcells ⟨h.ch, st, h.cm, 0, fl, 0, h.id, 0, tr, h.se, List.replicate 16 0⟩, v.oneCell' = true) := fun _ _ => hcells_one _
  have HLL : Hid (∀ fl tr, (hcells ⟨h.ch, st, h.cm, 0, fl, 0, h.id, 0, tr, h.se, List.replicate 16 0⟩).length = 26) := fun _ _ => rfl
  unfold hv at C4 C2 ⊢
  clear hst
  by_cases h4 : h.fl / 4 % 2 = 1
  · by_cases ha : isAs h.fl = true
    · skip
      rw [HA.out 5 (0) (by rw [if_pos h4]) (by rw [if_pos ha])]
      rw [show decide (h.fl / 4 % 2 = 1) = true from decide_eq_true h4] at C4
      rw [show isAs h.fl = true from ha] at C2
      have HFX := Lib.hid (HE5.out)
      have HXL := Lib.hid (HLL.out 5 (0))
      have HXO := Lib.hid (HOO.out 5 (0))
      obtain ⟨xs, hxs⟩ : ∃ x, x = hcells ⟨h.ch, st, h.cm, 0, 5, 0, h.id, 0, 0, h.se, List.replicate 16 0⟩ := ⟨_, rfl⟩
      rw [← hxs] at HFX HXL HXO ⊢
      obtain ⟨zs, hzs⟩ : ∃ zs, zs = hcells zeroHd := ⟨_, rfl⟩
      rw [← hzs] at ZH HZ HFX
      obtain ⟨cs, hcs⟩ : ∃ cs, cs = hcells h := ⟨_, rfl⟩
      rw [← hcs] at HL FC C4 C2 ⊢
      clear hxs hzs hcs HA HF HF5 HE1 HE5 HOO HLL h4 ha
      go_enter Tryz.func26, Tryz.ntmps26
      go_wp2_with (first
        | ((with_reducible show wpList _ _ _ (⟨some 2, _, _, _, _, _⟩ :: _) _ _); refine wpList_box_blk rfl _ (.tmp 0) rfl cs rfl ?_; intro g w1 hg1 hg2 B1 L1)
        | ((with_reducible show wpList _ _ _ (⟨some 4, _, _, _, _, _⟩ :: _) _ _); refine wpList_alloc_blk rfl _ rfl zs _ ZH ?_; intro g0 w2 hg3 hg4 Z2 L2; have B2 := Lib.hid (B1.out.over L2.out); have M2 := Lib.hid (step L1.out L2.out); have hgw := L1.out.size)
        | ((with_reducible show wpList _ _ _ (⟨some 5, _, _, _, _, _⟩ :: _) _ _); refine wpList_alloc_blk rfl _ rfl zs _ ZH ?_; intro g5 v0 hg5 hg6 X0 L3; have Z0 := Lib.hid (Z2.out.over L3.out); have B0 := Lib.hid (B2.out.over L3.out); have M0 := Lib.hid (step M2.out L3.out); have hne0 : g0 ≠ g5 := (by have := Z2.out.lt; omega); have hne : g ≠ g5 := (by have := B2.out.lt; omega); have hgw5 : w.heap.size ≤ g5 := (by have := L2.out.size; omega); obtain ⟨f0, f2, f6, f8, f9⟩ := FC.out _ _ B0.out; have HL0 := HZ)
        | ((with_reducible show wpList _ _ _ (⟨none, .store _ (.tmp 8) _, _, _, _, _⟩ :: _) _ _); refine wpList_store_fld rfl _ (.tmp 8) (.tmp 7) rfl g5 2 rfl _ zs (.int .u16 h.cm) rfl X0 (Lib.hid (by have := HL0.out; omega)) (by kernel_rfl) rfl ?_; intro v1 X1 O1 hs1; have Z1 := Lib.hid (Z0.out.only O1.out hne0); have B1 := Lib.hid (B0.out.only O1.out hne); have M1 := Lib.hid (below_only M0.out O1.out hgw5); have HL1 : Hid ((zs.set 2 (.int .u16 h.cm)).length = 26) := (by show _ = _; rw [List.length_set]; exact HL0.out); clear f0 f2 f6 f8 f9; obtain ⟨f0, f2, f6, f8, f9⟩ := FC.out _ _ B1.out)
        | ((with_reducible show wpList _ _ _ (⟨none, .store _ (.tmp 11) _, _, _, _, _⟩ :: _) _ _); refine wpList_store_fld rfl _ (.tmp 11) (.tmp 10) rfl g5 6 rfl _ (zs.set 2 (.int .u16 h.cm)) (.int .u64 h.id) rfl X1 (Lib.hid (by have := HL1.out; omega)) (by kernel_rfl) rfl ?_; intro v2 X2 O2 hs2; have Z2 := Lib.hid (Z1.out.only O2.out hne0); have B2 := Lib.hid (B1.out.only O2.out hne); have M2 := Lib.hid (below_only M1.out O2.out hgw5); have HL2 : Hid ((((zs.set 2 (.int .u16 h.cm))).set 6 (.int .u64 h.id)).length = 26) := (by show _ = _; rw [List.length_set]; exact HL1.out); clear f0 f2 f6 f8 f9; obtain ⟨f0, f2, f6, f8, f9⟩ := FC.out _ _ B2.out)
        | ((with_reducible show wpList _ _ _ (⟨none, .store _ (.tmp 14) _, _, _, _, _⟩ :: _) _ _); refine wpList_store_fld rfl _ (.tmp 14) (.tmp 13) rfl g5 9 rfl _ ((zs.set 2 (.int .u16 h.cm)).set 6 (.int .u64 h.id)) (.int .u64 h.se) rfl X2 (Lib.hid (by have := HL2.out; omega)) (by kernel_rfl) rfl ?_; intro v3 X3 O3 hs3; have Z3 := Lib.hid (Z2.out.only O3.out hne0); have B3 := Lib.hid (B2.out.only O3.out hne); have M3 := Lib.hid (below_only M2.out O3.out hgw5); have HL3 : Hid (((((zs.set 2 (.int .u16 h.cm)).set 6 (.int .u64 h.id))).set 9 (.int .u64 h.se)).length = 26) := (by show _ = _; rw [List.length_set]; exact HL2.out); clear f0 f2 f6 f8 f9; obtain ⟨f0, f2, f6, f8, f9⟩ := FC.out _ _ B3.out)
        | ((with_reducible show wpList _ _ _ (⟨none, .store _ (.tmp 17) _, _, _, _, _⟩ :: _) _ _); refine wpList_store_fld rfl _ (.tmp 17) (.tmp 16) rfl g5 0 rfl _ (((zs.set 2 (.int .u16 h.cm)).set 6 (.int .u64 h.id)).set 9 (.int .u64 h.se)) (.int .u16 h.ch) rfl X3 (Lib.hid (by have := HL3.out; omega)) (by kernel_rfl) rfl ?_; intro v4 X4 O4 hs4; have Z4 := Lib.hid (Z3.out.only O4.out hne0); have B4 := Lib.hid (B3.out.only O4.out hne); have M4 := Lib.hid (below_only M3.out O4.out hgw5); have HL4 : Hid ((((((zs.set 2 (.int .u16 h.cm)).set 6 (.int .u64 h.id)).set 9 (.int .u64 h.se))).set 0 (.int .u16 h.ch)).length = 26) := (by show _ = _; rw [List.length_set]; exact HL3.out); clear f0 f2 f6 f8 f9; obtain ⟨f0, f2, f6, f8, f9⟩ := FC.out _ _ B4.out)
        | ((with_reducible show wpList _ _ _ (⟨none, .store _ (.tmp 20) _, _, _, _, _⟩ :: _) _ _); refine wpList_store_fld rfl _ (.tmp 20) (.tmp 19) rfl g5 1 rfl _ ((((zs.set 2 (.int .u16 h.cm)).set 6 (.int .u64 h.id)).set 9 (.int .u64 h.se)).set 0 (.int .u16 h.ch)) (.int .u32 st) rfl X4 (Lib.hid (by have := HL4.out; omega)) (by kernel_rfl) rfl ?_; intro v5 X5 O5 hs5; have Z5 := Lib.hid (Z4.out.only O5.out hne0); have B5 := Lib.hid (B4.out.only O5.out hne); have M5 := Lib.hid (below_only M4.out O5.out hgw5); have HL5 : Hid (((((((zs.set 2 (.int .u16 h.cm)).set 6 (.int .u64 h.id)).set 9 (.int .u64 h.se)).set 0 (.int .u16 h.ch))).set 1 (.int .u32 st)).length = 26) := (by show _ = _; rw [List.length_set]; exact HL4.out); clear f0 f2 f6 f8 f9; obtain ⟨f0, f2, f6, f8, f9⟩ := FC.out _ _ B5.out)
        | ((with_reducible show wpList _ _ _ (⟨none, .store _ (.tmp 21) _, _, _, _, _⟩ :: _) _ _); refine wpList_store_fld rfl _ (.tmp 21) _ rfl g5 4 rfl _ (((((zs.set 2 (.int .u16 h.cm)).set 6 (.int .u64 h.id)).set 9 (.int .u64 h.se)).set 0 (.int .u16 h.ch)).set 1 (.int .u32 st)) (.int .u32 1) rfl X5 (Lib.hid (by have := HL5.out; omega)) (by kernel_rfl) rfl ?_; intro v6 X6 O6 hs6; have Z6 := Lib.hid (Z5.out.only O6.out hne0); have B6 := Lib.hid (B5.out.only O6.out hne); have M6 := Lib.hid (below_only M5.out O6.out hgw5); have HL6 : Hid ((((((((zs.set 2 (.int .u16 h.cm)).set 6 (.int .u64 h.id)).set 9 (.int .u64 h.se)).set 0 (.int .u16 h.ch)).set 1 (.int .u32 st))).set 4 (.int .u32 1)).length = 26) := (by show _ = _; rw [List.length_set]; exact HL5.out); clear f0 f2 f6 f8 f9; obtain ⟨f0, f2, f6, f8, f9⟩ := FC.out _ _ B6.out)
        | ((with_reducible show wpList _ _ _ (⟨some 22, _, _, _, _, _⟩ :: _) _ _); refine wpList_load_blk rfl _ (.tmp 2) rfl g rfl _ cs B6 26 _ Tryz.underlying28 rfl size_hd HL ?_)
        | fail)
      refine (C4.out v6).mono ?_
      rintro e v7 ⟨rfl, L7⟩
      have B7 := Lib.hid (B6.out.over L7)
      have X7 := Lib.hid (X6.out.over L7)
      have Z7 := Lib.hid (Z6.out.over L7)
      have M7 := Lib.hid (step M6.out L7)
      have HL7 := HL6
      clear f0 f2 f6 f8 f9 B6 X6 Z6 M6 L7 C4 X0 X1 X2 X3 X4 X5 B0 B1 B2 B3 B4 B5 Z0 Z2 Z3 Z4 Z5 M0 M1 M2 M3 M4 M5 HL1 HL2 HL3 HL4 HL5 HL6 O1 O2 O3 O4 O5 O6
      go_wp2_with (first
        | ((with_reducible show wpList _ _ _ (⟨none, .store _ (.tmp 24) _, _, _, _, _⟩ :: _) _ _); refine wpList_store_fld rfl _ (.tmp 24) _ rfl g5 4 rfl _ ((((((zs.set 2 (.int .u16 h.cm)).set 6 (.int .u64 h.id)).set 9 (.int .u64 h.se)).set 0 (.int .u16 h.ch)).set 1 (.int .u32 st)).set 4 (.int .u32 1)) (.int .u32 5) rfl X7 (Lib.hid (by have := HL7.out; omega)) (by kernel_rfl) rfl ?_; intro v8 X8 O8 hs8; have Z8 := Lib.hid (Z7.out.only O8.out hne0); have B8 := Lib.hid (B7.out.only O8.out hne); have M8 := Lib.hid (below_only M7.out O8.out hgw5); have HL8 : Hid ((((((((zs.set 2 (.int .u16 h.cm)).set 6 (.int .u64 h.id)).set 9 (.int .u64 h.se)).set 0 (.int .u16 h.ch)).set 1 (.int .u32 st)).set 4 (.int .u32 1)).set 4 (.int .u32 5)).length = 26) := (by show _ = _; rw [List.length_set]; exact HL7.out))
        | ((with_reducible show wpList _ _ _ (⟨some 25, _, _, _, _, _⟩ :: _) _ _); refine wpList_load_blk rfl _ (.tmp 2) rfl g rfl _ cs B8 26 _ Tryz.underlying28 rfl size_hd HL ?_)
        | fail)
      refine (C2.out v8).mono ?_
      rintro e v9 ⟨rfl, L9⟩
      have B9 := Lib.hid (B8.out.over L9)
      have X9 := Lib.hid (X8.out.over L9)
      have Z9 := Lib.hid (Z8.out.over L9)
      have M9 := Lib.hid (step M8.out L9)
      obtain ⟨_, _, _, f8, _⟩ := FC.out _ _ B9.out
      rw [HFX.out] at X9
      clear f8 B9 FC
      go_wp2_with (first
        | ((with_reducible show wpList _ _ _ (⟨some 31, _, _, _, _, _⟩ :: _) _ _); refine wpList_load_blk rfl _ (.tmp 5) rfl g5 rfl _ xs X9 26 _ Tryz.underlying28 rfl size_hd HXL ?_)
        | ((with_reducible show wpList _ _ _ (⟨none, .store _ (.tmp 4) _, _, _, _, _⟩ :: _) _ _); refine wpList_store_blk rfl _ (.tmp 4) (.tmp 31) rfl g0 rfl _ zs xs rfl Z9 26 size_hd HZ HXL HXO ?_; intro w5 X11 O11 hg8)
        | fail)
      refine bodyPost_ret (v := .agg xs.toArray) ?_ rfl ⟨rfl, below_only M9.out O11.out (by omega)⟩
      exact results_cell_row rfl _ _ g0 _ _ (0, 0) _ rfl X11.out Tryz.underlying28 rfl (by rw [size_hd]; have := HXL.out; simp [this])
    · skip
      rw [HA.out 5 (h.tr) (by rw [if_pos h4]) (by rw [if_neg ha])]
      rw [show decide (h.fl / 4 % 2 = 1) = true from decide_eq_true h4] at C4
      rw [show isAs h.fl = false from by simpa using ha] at C2
      have HFX := Lib.hid (HF5.out h.tr)
      have HXL := Lib.hid (HLL.out 5 (h.tr))
      have HXO := Lib.hid (HOO.out 5 (h.tr))
      obtain ⟨xs, hxs⟩ : ∃ x, x = hcells ⟨h.ch, st, h.cm, 0, 5, 0, h.id, 0, h.tr, h.se, List.replicate 16 0⟩ := ⟨_, rfl⟩
      rw [← hxs] at HFX HXL HXO ⊢
      obtain ⟨zs, hzs⟩ : ∃ zs, zs = hcells zeroHd := ⟨_, rfl⟩
      rw [← hzs] at ZH HZ HFX
      obtain ⟨cs, hcs⟩ : ∃ cs, cs = hcells h := ⟨_, rfl⟩
      rw [← hcs] at HL FC C4 C2 ⊢
      clear hxs hzs hcs HA HF HF5 HE1 HE5 HOO HLL h4 ha
      go_enter Tryz.func26, Tryz.ntmps26
      go_wp2_with (first
        | ((with_reducible show wpList _ _ _ (⟨some 2, _, _, _, _, _⟩ :: _) _ _); refine wpList_box_blk rfl _ (.tmp 0) rfl cs rfl ?_; intro g w1 hg1 hg2 B1 L1)
        | ((with_reducible show wpList _ _ _ (⟨some 4, _, _, _, _, _⟩ :: _) _ _); refine wpList_alloc_blk rfl _ rfl zs _ ZH ?_; intro g0 w2 hg3 hg4 Z2 L2; have B2 := Lib.hid (B1.out.over L2.out); have M2 := Lib.hid (step L1.out L2.out); have hgw := L1.out.size)
        | ((with_reducible show wpList _ _ _ (⟨some 5, _, _, _, _, _⟩ :: _) _ _); refine wpList_alloc_blk rfl _ rfl zs _ ZH ?_; intro g5 v0 hg5 hg6 X0 L3; have Z0 := Lib.hid (Z2.out.over L3.out); have B0 := Lib.hid (B2.out.over L3.out); have M0 := Lib.hid (step M2.out L3.out); have hne0 : g0 ≠ g5 := (by have := Z2.out.lt; omega); have hne : g ≠ g5 := (by have := B2.out.lt; omega); have hgw5 : w.heap.size ≤ g5 := (by have := L2.out.size; omega); obtain ⟨f0, f2, f6, f8, f9⟩ := FC.out _ _ B0.out; have HL0 := HZ)
        | ((with_reducible show wpList _ _ _ (⟨none, .store _ (.tmp 8) _, _, _, _, _⟩ :: _) _ _); refine wpList_store_fld rfl _ (.tmp 8) (.tmp 7) rfl g5 2 rfl _ zs (.int .u16 h.cm) rfl X0 (Lib.hid (by have := HL0.out; omega)) (by kernel_rfl) rfl ?_; intro v1 X1 O1 hs1; have Z1 := Lib.hid (Z0.out.only O1.out hne0); have B1 := Lib.hid (B0.out.only O1.out hne); have M1 := Lib.hid (below_only M0.out O1.out hgw5); have HL1 : Hid ((zs.set 2 (.int .u16 h.cm)).length = 26) := (by show _ = _; rw [List.length_set]; exact HL0.out); clear f0 f2 f6 f8 f9; obtain ⟨f0, f2, f6, f8, f9⟩ := FC.out _ _ B1.out)
        | ((with_reducible show wpList _ _ _ (⟨none, .store _ (.tmp 11) _, _, _, _, _⟩ :: _) _ _); refine wpList_store_fld rfl _ (.tmp 11) (.tmp 10) rfl g5 6 rfl _ (zs.set 2 (.int .u16 h.cm)) (.int .u64 h.id) rfl X1 (Lib.hid (by have := HL1.out; omega)) (by kernel_rfl) rfl ?_; intro v2 X2 O2 hs2; have Z2 := Lib.hid (Z1.out.only O2.out hne0); have B2 := Lib.hid (B1.out.only O2.out hne); have M2 := Lib.hid (below_only M1.out O2.out hgw5); have HL2 : Hid ((((zs.set 2 (.int .u16 h.cm))).set 6 (.int .u64 h.id)).length = 26) := (by show _ = _; rw [List.length_set]; exact HL1.out); clear f0 f2 f6 f8 f9; obtain ⟨f0, f2, f6, f8, f9⟩ := FC.out _ _ B2.out)
        | ((with_reducible show wpList _ _ _ (⟨none, .store _ (.tmp 14) _, _, _, _, _⟩ :: _) _ _); refine wpList_store_fld rfl _ (.tmp 14) (.tmp 13) rfl g5 9 rfl _ ((zs.set 2 (.int .u16 h.cm)).set 6 (.int .u64 h.id)) (.int .u64 h.se) rfl X2 (Lib.hid (by have := HL2.out; omega)) (by kernel_rfl) rfl ?_; intro v3 X3 O3 hs3; have Z3 := Lib.hid (Z2.out.only O3.out hne0); have B3 := Lib.hid (B2.out.only O3.out hne); have M3 := Lib.hid (below_only M2.out O3.out hgw5); have HL3 : Hid (((((zs.set 2 (.int .u16 h.cm)).set 6 (.int .u64 h.id))).set 9 (.int .u64 h.se)).length = 26) := (by show _ = _; rw [List.length_set]; exact HL2.out); clear f0 f2 f6 f8 f9; obtain ⟨f0, f2, f6, f8, f9⟩ := FC.out _ _ B3.out)
        | ((with_reducible show wpList _ _ _ (⟨none, .store _ (.tmp 17) _, _, _, _, _⟩ :: _) _ _); refine wpList_store_fld rfl _ (.tmp 17) (.tmp 16) rfl g5 0 rfl _ (((zs.set 2 (.int .u16 h.cm)).set 6 (.int .u64 h.id)).set 9 (.int .u64 h.se)) (.int .u16 h.ch) rfl X3 (Lib.hid (by have := HL3.out; omega)) (by kernel_rfl) rfl ?_; intro v4 X4 O4 hs4; have Z4 := Lib.hid (Z3.out.only O4.out hne0); have B4 := Lib.hid (B3.out.only O4.out hne); have M4 := Lib.hid (below_only M3.out O4.out hgw5); have HL4 : Hid ((((((zs.set 2 (.int .u16 h.cm)).set 6 (.int .u64 h.id)).set 9 (.int .u64 h.se))).set 0 (.int .u16 h.ch)).length = 26) := (by show _ = _; rw [List.length_set]; exact HL3.out); clear f0 f2 f6 f8 f9; obtain ⟨f0, f2, f6, f8, f9⟩ := FC.out _ _ B4.out)
        | ((with_reducible show wpList _ _ _ (⟨none, .store _ (.tmp 20) _, _, _, _, _⟩ :: _) _ _); refine wpList_store_fld rfl _ (.tmp 20) (.tmp 19) rfl g5 1 rfl _ ((((zs.set 2 (.int .u16 h.cm)).set 6 (.int .u64 h.id)).set 9 (.int .u64 h.se)).set 0 (.int .u16 h.ch)) (.int .u32 st) rfl X4 (Lib.hid (by have := HL4.out; omega)) (by kernel_rfl) rfl ?_; intro v5 X5 O5 hs5; have Z5 := Lib.hid (Z4.out.only O5.out hne0); have B5 := Lib.hid (B4.out.only O5.out hne); have M5 := Lib.hid (below_only M4.out O5.out hgw5); have HL5 : Hid (((((((zs.set 2 (.int .u16 h.cm)).set 6 (.int .u64 h.id)).set 9 (.int .u64 h.se)).set 0 (.int .u16 h.ch))).set 1 (.int .u32 st)).length = 26) := (by show _ = _; rw [List.length_set]; exact HL4.out); clear f0 f2 f6 f8 f9; obtain ⟨f0, f2, f6, f8, f9⟩ := FC.out _ _ B5.out)
        | ((with_reducible show wpList _ _ _ (⟨none, .store _ (.tmp 21) _, _, _, _, _⟩ :: _) _ _); refine wpList_store_fld rfl _ (.tmp 21) _ rfl g5 4 rfl _ (((((zs.set 2 (.int .u16 h.cm)).set 6 (.int .u64 h.id)).set 9 (.int .u64 h.se)).set 0 (.int .u16 h.ch)).set 1 (.int .u32 st)) (.int .u32 1) rfl X5 (Lib.hid (by have := HL5.out; omega)) (by kernel_rfl) rfl ?_; intro v6 X6 O6 hs6; have Z6 := Lib.hid (Z5.out.only O6.out hne0); have B6 := Lib.hid (B5.out.only O6.out hne); have M6 := Lib.hid (below_only M5.out O6.out hgw5); have HL6 : Hid ((((((((zs.set 2 (.int .u16 h.cm)).set 6 (.int .u64 h.id)).set 9 (.int .u64 h.se)).set 0 (.int .u16 h.ch)).set 1 (.int .u32 st))).set 4 (.int .u32 1)).length = 26) := (by show _ = _; rw [List.length_set]; exact HL5.out); clear f0 f2 f6 f8 f9; obtain ⟨f0, f2, f6, f8, f9⟩ := FC.out _ _ B6.out)
        | ((with_reducible show wpList _ _ _ (⟨some 22, _, _, _, _, _⟩ :: _) _ _); refine wpList_load_blk rfl _ (.tmp 2) rfl g rfl _ cs B6 26 _ Tryz.underlying28 rfl size_hd HL ?_)
        | fail)
      refine (C4.out v6).mono ?_
      rintro e v7 ⟨rfl, L7⟩
      have B7 := Lib.hid (B6.out.over L7)
      have X7 := Lib.hid (X6.out.over L7)
      have Z7 := Lib.hid (Z6.out.over L7)
      have M7 := Lib.hid (step M6.out L7)
      have HL7 := HL6
      clear f0 f2 f6 f8 f9 B6 X6 Z6 M6 L7 C4 X0 X1 X2 X3 X4 X5 B0 B1 B2 B3 B4 B5 Z0 Z2 Z3 Z4 Z5 M0 M1 M2 M3 M4 M5 HL1 HL2 HL3 HL4 HL5 HL6 O1 O2 O3 O4 O5 O6
      go_wp2_with (first
        | ((with_reducible show wpList _ _ _ (⟨none, .store _ (.tmp 24) _, _, _, _, _⟩ :: _) _ _); refine wpList_store_fld rfl _ (.tmp 24) _ rfl g5 4 rfl _ ((((((zs.set 2 (.int .u16 h.cm)).set 6 (.int .u64 h.id)).set 9 (.int .u64 h.se)).set 0 (.int .u16 h.ch)).set 1 (.int .u32 st)).set 4 (.int .u32 1)) (.int .u32 5) rfl X7 (Lib.hid (by have := HL7.out; omega)) (by kernel_rfl) rfl ?_; intro v8 X8 O8 hs8; have Z8 := Lib.hid (Z7.out.only O8.out hne0); have B8 := Lib.hid (B7.out.only O8.out hne); have M8 := Lib.hid (below_only M7.out O8.out hgw5); have HL8 : Hid ((((((((zs.set 2 (.int .u16 h.cm)).set 6 (.int .u64 h.id)).set 9 (.int .u64 h.se)).set 0 (.int .u16 h.ch)).set 1 (.int .u32 st)).set 4 (.int .u32 1)).set 4 (.int .u32 5)).length = 26) := (by show _ = _; rw [List.length_set]; exact HL7.out))
        | ((with_reducible show wpList _ _ _ (⟨some 25, _, _, _, _, _⟩ :: _) _ _); refine wpList_load_blk rfl _ (.tmp 2) rfl g rfl _ cs B8 26 _ Tryz.underlying28 rfl size_hd HL ?_)
        | fail)
      refine (C2.out v8).mono ?_
      rintro e v9 ⟨rfl, L9⟩
      have B9 := Lib.hid (B8.out.over L9)
      have X9 := Lib.hid (X8.out.over L9)
      have Z9 := Lib.hid (Z8.out.over L9)
      have M9 := Lib.hid (step M8.out L9)
      obtain ⟨_, _, _, f8, _⟩ := FC.out _ _ B9.out
      go_wp2_with (first
        | ((with_reducible show wpList _ _ _ (⟨none, .store _ (.tmp 30) _, _, _, _, _⟩ :: _) _ _); refine wpList_store_fld rfl _ (.tmp 30) (.tmp 29) rfl g5 8 rfl _ (((((((zs.set 2 (.int .u16 h.cm)).set 6 (.int .u64 h.id)).set 9 (.int .u64 h.se)).set 0 (.int .u16 h.ch)).set 1 (.int .u32 st)).set 4 (.int .u32 1)).set 4 (.int .u32 5)) (.int .u32 h.tr) rfl X9 (Lib.hid (by have := HL8.out; omega)) (by kernel_rfl) rfl ?_; intro v10 X10 O10 hs10; rw [HFX.out] at X10; have Z10 := Lib.hid (Z9.out.only O10.out hne0); have M10 := Lib.hid (below_only M9.out O10.out hgw5); clear f8 B9 FC)
        | ((with_reducible show wpList _ _ _ (⟨some 31, _, _, _, _, _⟩ :: _) _ _); refine wpList_load_blk rfl _ (.tmp 5) rfl g5 rfl _ xs X10 26 _ Tryz.underlying28 rfl size_hd HXL ?_)
        | ((with_reducible show wpList _ _ _ (⟨none, .store _ (.tmp 4) _, _, _, _, _⟩ :: _) _ _); refine wpList_store_blk rfl _ (.tmp 4) (.tmp 31) rfl g0 rfl _ zs xs rfl Z10 26 size_hd HZ HXL HXO ?_; intro w5 X11 O11 hg8)
        | fail)
      refine bodyPost_ret (v := .agg xs.toArray) ?_ rfl ⟨rfl, below_only M10.out O11.out (by omega)⟩
      exact results_cell_row rfl _ _ g0 _ _ (0, 0) _ rfl X11.out Tryz.underlying28 rfl (by rw [size_hd]; have := HXL.out; simp [this])
  · by_cases ha : isAs h.fl = true
    · skip
      rw [HA.out 1 (0) (by rw [if_neg h4]) (by rw [if_pos ha])]
      rw [show decide (h.fl / 4 % 2 = 1) = false from decide_eq_false h4] at C4
      rw [show isAs h.fl = true from ha] at C2
      have HFX := Lib.hid (HE1.out)
      have HXL := Lib.hid (HLL.out 1 (0))
      have HXO := Lib.hid (HOO.out 1 (0))
      obtain ⟨xs, hxs⟩ : ∃ x, x = hcells ⟨h.ch, st, h.cm, 0, 1, 0, h.id, 0, 0, h.se, List.replicate 16 0⟩ := ⟨_, rfl⟩
      rw [← hxs] at HFX HXL HXO ⊢
      obtain ⟨zs, hzs⟩ : ∃ zs, zs = hcells zeroHd := ⟨_, rfl⟩
      rw [← hzs] at ZH HZ HFX
      obtain ⟨cs, hcs⟩ : ∃ cs, cs = hcells h := ⟨_, rfl⟩
      rw [← hcs] at HL FC C4 C2 ⊢
      clear hxs hzs hcs HA HF HF5 HE1 HE5 HOO HLL h4 ha
      go_enter Tryz.func26, Tryz.ntmps26
      go_wp2_with (first
        | ((with_reducible show wpList _ _ _ (⟨some 2, _, _, _, _, _⟩ :: _) _ _); refine wpList_box_blk rfl _ (.tmp 0) rfl cs rfl ?_; intro g w1 hg1 hg2 B1 L1)
        | ((with_reducible show wpList _ _ _ (⟨some 4, _, _, _, _, _⟩ :: _) _ _); refine wpList_alloc_blk rfl _ rfl zs _ ZH ?_; intro g0 w2 hg3 hg4 Z2 L2; have B2 := Lib.hid (B1.out.over L2.out); have M2 := Lib.hid (step L1.out L2.out); have hgw := L1.out.size)
        | ((with_reducible show wpList _ _ _ (⟨some 5, _, _, _, _, _⟩ :: _) _ _); refine wpList_alloc_blk rfl _ rfl zs _ ZH ?_; intro g5 v0 hg5 hg6 X0 L3; have Z0 := Lib.hid (Z2.out.over L3.out); have B0 := Lib.hid (B2.out.over L3.out); have M0 := Lib.hid (step M2.out L3.out); have hne0 : g0 ≠ g5 := (by have := Z2.out.lt; omega); have hne : g ≠ g5 := (by have := B2.out.lt; omega); have hgw5 : w.heap.size ≤ g5 := (by have := L2.out.size; omega); obtain ⟨f0, f2, f6, f8, f9⟩ := FC.out _ _ B0.out; have HL0 := HZ)
        | ((with_reducible show wpList _ _ _ (⟨none, .store _ (.tmp 8) _, _, _, _, _⟩ :: _) _ _); refine wpList_store_fld rfl _ (.tmp 8) (.tmp 7) rfl g5 2 rfl _ zs (.int .u16 h.cm) rfl X0 (Lib.hid (by have := HL0.out; omega)) (by kernel_rfl) rfl ?_; intro v1 X1 O1 hs1; have Z1 := Lib.hid (Z0.out.only O1.out hne0); have B1 := Lib.hid (B0.out.only O1.out hne); have M1 := Lib.hid (below_only M0.out O1.out hgw5); have HL1 : Hid ((zs.set 2 (.int .u16 h.cm)).length = 26) := (by show _ = _; rw [List.length_set]; exact HL0.out); clear f0 f2 f6 f8 f9; obtain ⟨f0, f2, f6, f8, f9⟩ := FC.out _ _ B1.out)
        | ((with_reducible show wpList _ _ _ (⟨none, .store _ (.tmp 11) _, _, _, _, _⟩ :: _) _ _); refine wpList_store_fld rfl _ (.tmp 11) (.tmp 10) rfl g5 6 rfl _ (zs.set 2 (.int .u16 h.cm)) (.int .u64 h.id) rfl X1 (Lib.hid (by have := HL1.out; omega)) (by kernel_rfl) rfl ?_; intro v2 X2 O2 hs2; have Z2 := Lib.hid (Z1.out.only O2.out hne0); have B2 := Lib.hid (B1.out.only O2.out hne); have M2 := Lib.hid (below_only M1.out O2.out hgw5); have HL2 : Hid ((((zs.set 2 (.int .u16 h.cm))).set 6 (.int .u64 h.id)).length = 26) := (by show _ = _; rw [List.length_set]; exact HL1.out); clear f0 f2 f6 f8 f9; obtain ⟨f0, f2, f6, f8, f9⟩ := FC.out _ _ B2.out)
        | ((with_reducible show wpList _ _ _ (⟨none, .store _ (.tmp 14) _, _, _, _, _⟩ :: _) _ _); refine wpList_store_fld rfl _ (.tmp 14) (.tmp 13) rfl g5 9 rfl _ ((zs.set 2 (.int .u16 h.cm)).set 6 (.int .u64 h.id)) (.int .u64 h.se) rfl X2 (Lib.hid (by have := HL2.out; omega)) (by kernel_rfl) rfl ?_; intro v3 X3 O3 hs3; have Z3 := Lib.hid (Z2.out.only O3.out hne0); have B3 := Lib.hid (B2.out.only O3.out hne); have M3 := Lib.hid (below_only M2.out O3.out hgw5); have HL3 : Hid (((((zs.set 2 (.int .u16 h.cm)).set 6 (.int .u64 h.id))).set 9 (.int .u64 h.se)).length = 26) := (by show _ = _; rw [List.length_set]; exact HL2.out); clear f0 f2 f6 f8 f9; obtain ⟨f0, f2, f6, f8, f9⟩ := FC.out _ _ B3.out)
        | ((with_reducible show wpList _ _ _ (⟨none, .store _ (.tmp 17) _, _, _, _, _⟩ :: _) _ _); refine wpList_store_fld rfl _ (.tmp 17) (.tmp 16) rfl g5 0 rfl _ (((zs.set 2 (.int .u16 h.cm)).set 6 (.int .u64 h.id)).set 9 (.int .u64 h.se)) (.int .u16 h.ch) rfl X3 (Lib.hid (by have := HL3.out; omega)) (by kernel_rfl) rfl ?_; intro v4 X4 O4 hs4; have Z4 := Lib.hid (Z3.out.only O4.out hne0); have B4 := Lib.hid (B3.out.only O4.out hne); have M4 := Lib.hid (below_only M3.out O4.out hgw5); have HL4 : Hid ((((((zs.set 2 (.int .u16 h.cm)).set 6 (.int .u64 h.id)).set 9 (.int .u64 h.se))).set 0 (.int .u16 h.ch)).length = 26) := (by show _ = _; rw [List.length_set]; exact HL3.out); clear f0 f2 f6 f8 f9; obtain ⟨f0, f2, f6, f8, f9⟩ := FC.out _ _ B4.out)
        | ((with_reducible show wpList _ _ _ (⟨none, .store _ (.tmp 20) _, _, _, _, _⟩ :: _) _ _); refine wpList_store_fld rfl _ (.tmp 20) (.tmp 19) rfl g5 1 rfl _ ((((zs.set 2 (.int .u16 h.cm)).set 6 (.int .u64 h.id)).set 9 (.int .u64 h.se)).set 0 (.int .u16 h.ch)) (.int .u32 st) rfl X4 (Lib.hid (by have := HL4.out; omega)) (by kernel_rfl) rfl ?_; intro v5 X5 O5 hs5; have Z5 := Lib.hid (Z4.out.only O5.out hne0); have B5 := Lib.hid (B4.out.only O5.out hne); have M5 := Lib.hid (below_only M4.out O5.out hgw5); have HL5 : Hid (((((((zs.set 2 (.int .u16 h.cm)).set 6 (.int .u64 h.id)).set 9 (.int .u64 h.se)).set 0 (.int .u16 h.ch))).set 1 (.int .u32 st)).length = 26) := (by show _ = _; rw [List.length_set]; exact HL4.out); clear f0 f2 f6 f8 f9; obtain ⟨f0, f2, f6, f8, f9⟩ := FC.out _ _ B5.out)
        | ((with_reducible show wpList _ _ _ (⟨none, .store _ (.tmp 21) _, _, _, _, _⟩ :: _) _ _); refine wpList_store_fld rfl _ (.tmp 21) _ rfl g5 4 rfl _ (((((zs.set 2 (.int .u16 h.cm)).set 6 (.int .u64 h.id)).set 9 (.int .u64 h.se)).set 0 (.int .u16 h.ch)).set 1 (.int .u32 st)) (.int .u32 1) rfl X5 (Lib.hid (by have := HL5.out; omega)) (by kernel_rfl) rfl ?_; intro v6 X6 O6 hs6; have Z6 := Lib.hid (Z5.out.only O6.out hne0); have B6 := Lib.hid (B5.out.only O6.out hne); have M6 := Lib.hid (below_only M5.out O6.out hgw5); have HL6 : Hid ((((((((zs.set 2 (.int .u16 h.cm)).set 6 (.int .u64 h.id)).set 9 (.int .u64 h.se)).set 0 (.int .u16 h.ch)).set 1 (.int .u32 st))).set 4 (.int .u32 1)).length = 26) := (by show _ = _; rw [List.length_set]; exact HL5.out); clear f0 f2 f6 f8 f9; obtain ⟨f0, f2, f6, f8, f9⟩ := FC.out _ _ B6.out)
        | ((with_reducible show wpList _ _ _ (⟨some 22, _, _, _, _, _⟩ :: _) _ _); refine wpList_load_blk rfl _ (.tmp 2) rfl g rfl _ cs B6 26 _ Tryz.underlying28 rfl size_hd HL ?_)
        | fail)
      refine (C4.out v6).mono ?_
      rintro e v7 ⟨rfl, L7⟩
      have B7 := Lib.hid (B6.out.over L7)
      have X7 := Lib.hid (X6.out.over L7)
      have Z7 := Lib.hid (Z6.out.over L7)
      have M7 := Lib.hid (step M6.out L7)
      have HL7 := HL6
      clear f0 f2 f6 f8 f9 B6 X6 Z6 M6 L7 C4 X0 X1 X2 X3 X4 X5 B0 B1 B2 B3 B4 B5 Z0 Z2 Z3 Z4 Z5 M0 M1 M2 M3 M4 M5 HL1 HL2 HL3 HL4 HL5 HL6 O1 O2 O3 O4 O5 O6
      go_wp2_with (first
        | ((with_reducible show wpList _ _ _ (⟨some 25, _, _, _, _, _⟩ :: _) _ _); refine wpList_load_blk rfl _ (.tmp 2) rfl g rfl _ cs B7 26 _ Tryz.underlying28 rfl size_hd HL ?_)
        | fail)
      refine (C2.out v7).mono ?_
      rintro e v9 ⟨rfl, L9⟩
      have B9 := Lib.hid (B7.out.over L9)
      have X9 := Lib.hid (X7.out.over L9)
      have Z9 := Lib.hid (Z7.out.over L9)
      have M9 := Lib.hid (step M7.out L9)
      obtain ⟨_, _, _, f8, _⟩ := FC.out _ _ B9.out
      rw [HFX.out] at X9
      clear f8 B9 FC
      go_wp2_with (first
        | ((with_reducible show wpList _ _ _ (⟨some 31, _, _, _, _, _⟩ :: _) _ _); refine wpList_load_blk rfl _ (.tmp 5) rfl g5 rfl _ xs X9 26 _ Tryz.underlying28 rfl size_hd HXL ?_)
        | ((with_reducible show wpList _ _ _ (⟨none, .store _ (.tmp 4) _, _, _, _, _⟩ :: _) _ _); refine wpList_store_blk rfl _ (.tmp 4) (.tmp 31) rfl g0 rfl _ zs xs rfl Z9 26 size_hd HZ HXL HXO ?_; intro w5 X11 O11 hg8)
        | fail)
      refine bodyPost_ret (v := .agg xs.toArray) ?_ rfl ⟨rfl, below_only M9.out O11.out (by omega)⟩
      exact results_cell_row rfl _ _ g0 _ _ (0, 0) _ rfl X11.out Tryz.underlying28 rfl (by rw [size_hd]; have := HXL.out; simp [this])
    · skip
      rw [HA.out 1 (h.tr) (by rw [if_neg h4]) (by rw [if_neg ha])]
      rw [show decide (h.fl / 4 % 2 = 1) = false from decide_eq_false h4] at C4
      rw [show isAs h.fl = false from by simpa using ha] at C2
      have HFX := Lib.hid (HF.out 1 h.tr)
      have HXL := Lib.hid (HLL.out 1 (h.tr))
      have HXO := Lib.hid (HOO.out 1 (h.tr))
      obtain ⟨xs, hxs⟩ : ∃ x, x = hcells ⟨h.ch, st, h.cm, 0, 1, 0, h.id, 0, h.tr, h.se, List.replicate 16 0⟩ := ⟨_, rfl⟩
      rw [← hxs] at HFX HXL HXO ⊢
      obtain ⟨zs, hzs⟩ : ∃ zs, zs = hcells zeroHd := ⟨_, rfl⟩
      rw [← hzs] at ZH HZ HFX
      obtain ⟨cs, hcs⟩ : ∃ cs, cs = hcells h := ⟨_, rfl⟩
      rw [← hcs] at HL FC C4 C2 ⊢
      clear hxs hzs hcs HA HF HF5 HE1 HE5 HOO HLL h4 ha
      go_enter Tryz.func26, Tryz.ntmps26
      go_wp2_with (first
        | ((with_reducible show wpList _ _ _ (⟨some 2, _, _, _, _, _⟩ :: _) _ _); refine wpList_box_blk rfl _ (.tmp 0) rfl cs rfl ?_; intro g w1 hg1 hg2 B1 L1)
        | ((with_reducible show wpList _ _ _ (⟨some 4, _, _, _, _, _⟩ :: _) _ _); refine wpList_alloc_blk rfl _ rfl zs _ ZH ?_; intro g0 w2 hg3 hg4 Z2 L2; have B2 := Lib.hid (B1.out.over L2.out); have M2 := Lib.hid (step L1.out L2.out); have hgw := L1.out.size)
        | ((with_reducible show wpList _ _ _ (⟨some 5, _, _, _, _, _⟩ :: _) _ _); refine wpList_alloc_blk rfl _ rfl zs _ ZH ?_; intro g5 v0 hg5 hg6 X0 L3; have Z0 := Lib.hid (Z2.out.over L3.out); have B0 := Lib.hid (B2.out.over L3.out); have M0 := Lib.hid (step M2.out L3.out); have hne0 : g0 ≠ g5 := (by have := Z2.out.lt; omega); have hne : g ≠ g5 := (by have := B2.out.lt; omega); have hgw5 : w.heap.size ≤ g5 := (by have := L2.out.size; omega); obtain ⟨f0, f2, f6, f8, f9⟩ := FC.out _ _ B0.out; have HL0 := HZ)
        | ((with_reducible show wpList _ _ _ (⟨none, .store _ (.tmp 8) _, _, _, _, _⟩ :: _) _ _); refine wpList_store_fld rfl _ (.tmp 8) (.tmp 7) rfl g5 2 rfl _ zs (.int .u16 h.cm) rfl X0 (Lib.hid (by have := HL0.out; omega)) (by kernel_rfl) rfl ?_; intro v1 X1 O1 hs1; have Z1 := Lib.hid (Z0.out.only O1.out hne0); have B1 := Lib.hid (B0.out.only O1.out hne); have M1 := Lib.hid (below_only M0.out O1.out hgw5); have HL1 : Hid ((zs.set 2 (.int .u16 h.cm)).length = 26) := (by show _ = _; rw [List.length_set]; exact HL0.out); clear f0 f2 f6 f8 f9; obtain ⟨f0, f2, f6, f8, f9⟩ := FC.out _ _ B1.out)
        | ((with_reducible show wpList _ _ _ (⟨none, .store _ (.tmp 11) _, _, _, _, _⟩ :: _) _ _); refine wpList_store_fld rfl _ (.tmp 11) (.tmp 10) rfl g5 6 rfl _ (zs.set 2 (.int .u16 h.cm)) (.int .u64 h.id) rfl X1 (Lib.hid (by have := HL1.out; omega)) (by kernel_rfl) rfl ?_; intro v2 X2 O2 hs2; have Z2 := Lib.hid (Z1.out.only O2.out hne0); have B2 := Lib.hid (B1.out.only O2.out hne); have M2 := Lib.hid (below_only M1.out O2.out hgw5); have HL2 : Hid ((((zs.set 2 (.int .u16 h.cm))).set 6 (.int .u64 h.id)).length = 26) := (by show _ = _; rw [List.length_set]; exact HL1.out); clear f0 f2 f6 f8 f9; obtain ⟨f0, f2, f6, f8, f9⟩ := FC.out _ _ B2.out)
        | ((with_reducible show wpList _ _ _ (⟨none, .store _ (.tmp 14) _, _, _, _, _⟩ :: _) _ _); refine wpList_store_fld rfl _ (.tmp 14) (.tmp 13) rfl g5 9 rfl _ ((zs.set 2 (.int .u16 h.cm)).set 6 (.int .u64 h.id)) (.int .u64 h.se) rfl X2 (Lib.hid (by have := HL2.out; omega)) (by kernel_rfl) rfl ?_; intro v3 X3 O3 hs3; have Z3 := Lib.hid (Z2.out.only O3.out hne0); have B3 := Lib.hid (B2.out.only O3.out hne); have M3 := Lib.hid (below_only M2.out O3.out hgw5); have HL3 : Hid (((((zs.set 2 (.int .u16 h.cm)).set 6 (.int .u64 h.id))).set 9 (.int .u64 h.se)).length = 26) := (by show _ = _; rw [List.length_set]; exact HL2.out); clear f0 f2 f6 f8 f9; obtain ⟨f0, f2, f6, f8, f9⟩ := FC.out _ _ B3.out)
        | ((with_reducible show wpList _ _ _ (⟨none, .store _ (.tmp 17) _, _, _, _, _⟩ :: _) _ _); refine wpList_store_fld rfl _ (.tmp 17) (.tmp 16) rfl g5 0 rfl _ (((zs.set 2 (.int .u16 h.cm)).set 6 (.int .u64 h.id)).set 9 (.int .u64 h.se)) (.int .u16 h.ch) rfl X3 (Lib.hid (by have := HL3.out; omega)) (by kernel_rfl) rfl ?_; intro v4 X4 O4 hs4; have Z4 := Lib.hid (Z3.out.only O4.out hne0); have B4 := Lib.hid (B3.out.only O4.out hne); have M4 := Lib.hid (below_only M3.out O4.out hgw5); have HL4 : Hid ((((((zs.set 2 (.int .u16 h.cm)).set 6 (.int .u64 h.id)).set 9 (.int .u64 h.se))).set 0 (.int .u16 h.ch)).length = 26) := (by show _ = _; rw [List.length_set]; exact HL3.out); clear f0 f2 f6 f8 f9; obtain ⟨f0, f2, f6, f8, f9⟩ := FC.out _ _ B4.out)
        | ((with_reducible show wpList _ _ _ (⟨none, .store _ (.tmp 20) _, _, _, _, _⟩ :: _) _ _); refine wpList_store_fld rfl _ (.tmp 20) (.tmp 19) rfl g5 1 rfl _ ((((zs.set 2 (.int .u16 h.cm)).set 6 (.int .u64 h.id)).set 9 (.int .u64 h.se)).set 0 (.int .u16 h.ch)) (.int .u32 st) rfl X4 (Lib.hid (by have := HL4.out; omega)) (by kernel_rfl) rfl ?_; intro v5 X5 O5 hs5; have Z5 := Lib.hid (Z4.out.only O5.out hne0); have B5 := Lib.hid (B4.out.only O5.out hne); have M5 := Lib.hid (below_only M4.out O5.out hgw5); have HL5 : Hid (((((((zs.set 2 (.int .u16 h.cm)).set 6 (.int .u64 h.id)).set 9 (.int .u64 h.se)).set 0 (.int .u16 h.ch))).set 1 (.int .u32 st)).length = 26) := (by show _ = _; rw [List.length_set]; exact HL4.out); clear f0 f2 f6 f8 f9; obtain ⟨f0, f2, f6, f8, f9⟩ := FC.out _ _ B5.out)
        | ((with_reducible show wpList _ _ _ (⟨none, .store _ (.tmp 21) _, _, _, _, _⟩ :: _) _ _); refine wpList_store_fld rfl _ (.tmp 21) _ rfl g5 4 rfl _ (((((zs.set 2 (.int .u16 h.cm)).set 6 (.int .u64 h.id)).set 9 (.int .u64 h.se)).set 0 (.int .u16 h.ch)).set 1 (.int .u32 st)) (.int .u32 1) rfl X5 (Lib.hid (by have := HL5.out; omega)) (by kernel_rfl) rfl ?_; intro v6 X6 O6 hs6; have Z6 := Lib.hid (Z5.out.only O6.out hne0); have B6 := Lib.hid (B5.out.only O6.out hne); have M6 := Lib.hid (below_only M5.out O6.out hgw5); have HL6 : Hid ((((((((zs.set 2 (.int .u16 h.cm)).set 6 (.int .u64 h.id)).set 9 (.int .u64 h.se)).set 0 (.int .u16 h.ch)).set 1 (.int .u32 st))).set 4 (.int .u32 1)).length = 26) := (by show _ = _; rw [List.length_set]; exact HL5.out); clear f0 f2 f6 f8 f9; obtain ⟨f0, f2, f6, f8, f9⟩ := FC.out _ _ B6.out)
        | ((with_reducible show wpList _ _ _ (⟨some 22, _, _, _, _, _⟩ :: _) _ _); refine wpList_load_blk rfl _ (.tmp 2) rfl g rfl _ cs B6 26 _ Tryz.underlying28 rfl size_hd HL ?_)
        | fail)
      refine (C4.out v6).mono ?_
      rintro e v7 ⟨rfl, L7⟩
      have B7 := Lib.hid (B6.out.over L7)
      have X7 := Lib.hid (X6.out.over L7)
      have Z7 := Lib.hid (Z6.out.over L7)
      have M7 := Lib.hid (step M6.out L7)
      have HL7 := HL6
      clear f0 f2 f6 f8 f9 B6 X6 Z6 M6 L7 C4 X0 X1 X2 X3 X4 X5 B0 B1 B2 B3 B4 B5 Z0 Z2 Z3 Z4 Z5 M0 M1 M2 M3 M4 M5 HL1 HL2 HL3 HL4 HL5 HL6 O1 O2 O3 O4 O5 O6
      go_wp2_with (first
        | ((with_reducible show wpList _ _ _ (⟨some 25, _, _, _, _, _⟩ :: _) _ _); refine wpList_load_blk rfl _ (.tmp 2) rfl g rfl _ cs B7 26 _ Tryz.underlying28 rfl size_hd HL ?_)
        | fail)
      refine (C2.out v7).mono ?_
      rintro e v9 ⟨rfl, L9⟩
      have B9 := Lib.hid (B7.out.over L9)
      have X9 := Lib.hid (X7.out.over L9)
      have Z9 := Lib.hid (Z7.out.over L9)
      have M9 := Lib.hid (step M7.out L9)
      obtain ⟨_, _, _, f8, _⟩ := FC.out _ _ B9.out
      go_wp2_with (first
        | ((with_reducible show wpList _ _ _ (⟨none, .store _ (.tmp 30) _, _, _, _, _⟩ :: _) _ _); refine wpList_store_fld rfl _ (.tmp 30) (.tmp 29) rfl g5 8 rfl _ ((((((zs.set 2 (.int .u16 h.cm)).set 6 (.int .u64 h.id)).set 9 (.int .u64 h.se)).set 0 (.int .u16 h.ch)).set 1 (.int .u32 st)).set 4 (.int .u32 1)) (.int .u32 h.tr) rfl X9 (Lib.hid (by have := HL7.out; omega)) (by kernel_rfl) rfl ?_; intro v10 X10 O10 hs10; rw [HFX.out] at X10; have Z10 := Lib.hid (Z9.out.only O10.out hne0); have M10 := Lib.hid (below_only M9.out O10.out hgw5); clear f8 B9 FC)
        | ((with_reducible show wpList _ _ _ (⟨some 31, _, _, _, _, _⟩ :: _) _ _); refine wpList_load_blk rfl _ (.tmp 5) rfl g5 rfl _ xs X10 26 _ Tryz.underlying28 rfl size_hd HXL ?_)
        | ((with_reducible show wpList _ _ _ (⟨none, .store _ (.tmp 4) _, _, _, _, _⟩ :: _) _ _); refine wpList_store_blk rfl _ (.tmp 4) (.tmp 31) rfl g0 rfl _ zs xs rfl Z10 26 size_hd HZ HXL HXO ?_; intro w5 X11 O11 hg8)
        | fail)
      refine bodyPost_ret (v := .agg xs.toArray) ?_ rfl ⟨rfl, below_only M10.out O11.out (by omega)⟩
      exact results_cell_row rfl _ _ g0 _ _ (0, 0) _ rfl X11.out Tryz.underlying28 rfl (by rw [size_hd]; have := HXL.out; simp [this])
/-! ### Same -/
def smallM (m : MsgV) : Prop := (m.a.dial.length ≤ 281474976710656 ∧ m.a.data.length ≤ 281474976710656 ∧ m.a.locks.length ≤ 281474976710656) ∧ m.s.data.length ≤ 281474976710656 ∧ m.s.ents.length ≤ 281474976710656
set_option maxHeartbeats 4000000 in
theorem mSame_any (w : World) (cs ds : List Value) (a b : MsgV) (ka : a.ok) (kb : b.ok) (ha : MsgIs w w.heap.size cs a) (hb : MsgIs w w.heap.size ds b) (la : smallM a) (lb : smallM b) :
    Calls Tryz.prog 15 #[.agg cs.toArray, .agg ds.toArray] w fun e w' => e = .returned (.bool (decide (a.h = b.h) && (decide (a.a = b.a) && decide (a.s = b.s)))) ∧ Below w.heap.size w w' := by
  have HLA := Lib.hid (ha.len ka)
  have HLB := Lib.hid (hb.len kb)
  obtain ⟨ac, sc, rfl, ha1, ha2⟩ := ha
  obtain ⟨bc, tc, rfl, hb1, hb2⟩ := hb
  have N1 := Lib.hid (hcells_len ka.h)
  have N2 := Lib.hid (hcells_len kb.h)
  have N3 := Lib.hid (ha1.len ka.a)
  have N4 := Lib.hid (hb1.len kb.a)
  have N5 := Lib.hid (ha2.len ka.s)
  have N6 := Lib.hid (hb2.len kb.s)
  have q0 : ∀ w : World, (Op.equalIn 10000 28 (.agg (hcells a.h).toArray) (.agg (hcells b.h).toArray)).run Tryz.prog w = .ok (decide (a.h = b.h)) w := fun w => run_equalIn_hd a.h b.h ka.h kb.h w
  have qg := guard_hd
  have CA : Hid (∀ w' : World, Below w.heap.size w w' → Calls Tryz.prog 38 #[.agg ac.toArray, .agg bc.toArray] w' fun e w2 => e = .returned (.bool (decide (a.a = b.a))) ∧ Below w'.heap.size w' w2) := fun w' h => Asks_any w' ac bc a.a b.a ka.a kb.a (ha1.over h) (hb1.over h) la.1 lb.1
  have CS : Hid (∀ w' : World, Below w.heap.size w w' → Calls Tryz.prog 39 #[.agg sc.toArray, .agg tc.toArray] w' fun e w2 => e = .returned (.bool (decide (a.s = b.s))) ∧ Below w'.heap.size w' w2) := fun w' h => Says_any w' sc tc a.s b.s ka.s kb.s (ha2.over h) (hb2.over h) la.2 lb.2
  have RA1 : Hid (∀ (w : World) g T, Blk w g T (hcells a.h ++ (ac ++ sc)) → w.rangeAt g 0 (hcells a.h)) := fun w g T b => range_h b
  have RA2 : Hid (∀ (w : World) g T, Blk w g T (hcells a.h ++ (ac ++ sc)) → w.rangeAt g 26 ac) := fun w g T b => range_a b N1.out
  have RA3 : Hid (∀ (w : World) g T, Blk w g T (hcells a.h ++ (ac ++ sc)) → w.rangeAt g 95 sc) := fun w g T b => range_s b N1.out N3.out
  have RB1 : Hid (∀ (w : World) g T, Blk w g T (hcells b.h ++ (bc ++ tc)) → w.rangeAt g 0 (hcells b.h)) := fun w g T b => range_h b
  have RB2 : Hid (∀ (w : World) g T, Blk w g T (hcells b.h ++ (bc ++ tc)) → w.rangeAt g 26 bc) := fun w g T b => range_a b N2.out
  have RB3 : Hid (∀ (w : World) g T, Blk w g T (hcells b.h ++ (bc ++ tc)) → w.rangeAt g 95 tc) := fun w g T b => range_s b N2.out N4.out
  have F1 : ∀ (g : Nat) (w : World), (Instr.fieldAt 41 (.pointer (some ⟨g, 0, none⟩)) 1).run Tryz.prog w = .ok (.pointer (some ⟨g, 26, none⟩)) w := fun g w => by go_simp
  have F2 : ∀ (g : Nat) (w : World), (Instr.fieldAt 41 (.pointer (some ⟨g, 0, none⟩)) 2).run Tryz.prog w = .ok (.pointer (some ⟨g, 95, none⟩)) w := fun g w => by go_simp
  obtain ⟨z1, hz1⟩ : ∃ x, x = decide (a.h = b.h) := ⟨_, rfl⟩
  obtain ⟨z2, hz2⟩ : ∃ x, x = decide (a.a = b.a) := ⟨_, rfl⟩
  obtain ⟨z3, hz3⟩ : ∃ x, x = decide (a.s = b.s) := ⟨_, rfl⟩
  rw [← hz1] at q0 ⊢
  rw [← hz2] at CA ⊢
  rw [← hz3] at CS ⊢
  obtain ⟨ca, hca⟩ : ∃ x, x = hcells a.h ++ (ac ++ sc) := ⟨_, rfl⟩
  rw [← hca] at HLA RA1 RA2 RA3 ⊢
  obtain ⟨cb, hcb⟩ : ∃ x, x = hcells b.h ++ (bc ++ tc) := ⟨_, rfl⟩
  rw [← hcb] at HLB RB1 RB2 RB3 ⊢
  obtain ⟨hA, hhA⟩ : ∃ x, x = hcells a.h := ⟨_, rfl⟩
  rw [← hhA] at q0 N1 RA1
  obtain ⟨hB, hhB⟩ : ∃ x, x = hcells b.h := ⟨_, rfl⟩
  rw [← hhB] at q0 N2 RB1
  clear hz1 hz2 hz3 hca hcb hhA hhB ha1 ha2 hb1 hb2 ka kb la lb
  cases z1
  · show Calls _ _ _ _ fun e w' => e = .returned (.bool false) ∧ _
    go_enter Tryz.func15, Tryz.ntmps15
    go_wp2_with (first
      | ((with_reducible show wpList _ _ _ (⟨some 2, _, _, _, _, _⟩ :: _) _ _); refine wpList_box_blk rfl _ (.tmp 0) rfl ca rfl ?_; intro g w1 hg1 hg2 B1 L1)
      | ((with_reducible show wpList _ _ _ (⟨some 3, _, _, _, _, _⟩ :: _) _ _); refine wpList_box_blk rfl _ (.tmp 1) rfl cb rfl ?_; intro g2 w2 hg3 hg4 D2 L2; have B2 := Lib.hid (B1.out.over L2.out); have M2 := Lib.hid (step L1.out L2.out))
      | ((with_reducible show wpList _ _ _ (⟨some 6, _, _, _, _, _⟩ :: _) _ _); refine wpList_load_midu rfl _ (.tmp 5) rfl g 0 rfl hA _ (Lib.hid (RA1.out _ _ _ B2.out)) Tryz.underlying28 rfl 26 size_hd N1 ?_)
      | ((with_reducible show wpList _ _ _ (⟨some 8, _, _, _, _, _⟩ :: _) _ _); refine wpList_load_midu rfl _ (.tmp 7) rfl g2 0 rfl hB _ (Lib.hid (RB1.out _ _ _ D2.out)) Tryz.underlying28 rfl 26 size_hd N2 ?_)
      | fail)
    go_ret
    exact ⟨rfl, M2.out⟩
  · cases z2
    · show Calls _ _ _ _ fun e w' => e = .returned (.bool false) ∧ _
      go_enter Tryz.func15, Tryz.ntmps15
      go_wp2_with (first
        | ((with_reducible show wpList _ _ _ (⟨some 2, _, _, _, _, _⟩ :: _) _ _); refine wpList_box_blk rfl _ (.tmp 0) rfl ca rfl ?_; intro g w1 hg1 hg2 B1 L1)
        | ((with_reducible show wpList _ _ _ (⟨some 3, _, _, _, _, _⟩ :: _) _ _); refine wpList_box_blk rfl _ (.tmp 1) rfl cb rfl ?_; intro g2 w2 hg3 hg4 D2 L2; have B2 := Lib.hid (B1.out.over L2.out); have M2 := Lib.hid (step L1.out L2.out))
        | ((with_reducible show wpList _ _ _ (⟨some 6, _, _, _, _, _⟩ :: _) _ _); refine wpList_load_midu rfl _ (.tmp 5) rfl g 0 rfl hA _ (Lib.hid (RA1.out _ _ _ B2.out)) Tryz.underlying28 rfl 26 size_hd N1 ?_)
        | ((with_reducible show wpList _ _ _ (⟨some 8, _, _, _, _, _⟩ :: _) _ _); refine wpList_load_midu rfl _ (.tmp 7) rfl g2 0 rfl hB _ (Lib.hid (RB1.out _ _ _ D2.out)) Tryz.underlying28 rfl 26 size_hd N2 ?_)
        | ((with_reducible show wpList _ _ _ (⟨some 11, _, _, _, _, _⟩ :: _) _ _); refine wpList_fld_w (by kernel_rfl) _ (.tmp 2) 1 rfl _ _ rfl (F1 g) ?_)
        | ((with_reducible show wpList _ _ _ (⟨some 12, _, _, _, _, _⟩ :: _) _ _); refine wpList_load_midw (by kernel_rfl) _ (.tmp 11) rfl g 26 rfl ac _ (Lib.hid (RA2.out _ _ _ B2.out)) Tryz.underlying34 rfl 69 size_ask N3 ?_)
        | ((with_reducible show wpList _ _ _ (⟨some 13, _, _, _, _, _⟩ :: _) _ _); refine wpList_fld_w (by kernel_rfl) _ (.tmp 3) 1 rfl _ _ rfl (F1 g2) ?_)
        | ((with_reducible show wpList _ _ _ (⟨some 14, _, _, _, _, _⟩ :: _) _ _); refine wpList_load_midw (by kernel_rfl) _ (.tmp 13) rfl g2 26 rfl bc _ (Lib.hid (RB2.out _ _ _ D2.out)) Tryz.underlying34 rfl 69 size_ask N4 ?_)
        | fail)
      refine (CA.out w2 M2.out).mono ?_
      rintro e w3 ⟨rfl, L3⟩
      have B3 := Lib.hid (B2.out.over L3)
      have D3 := Lib.hid (D2.out.over L3)
      have M3 := Lib.hid (step M2.out L3)
      clear L3 CA B2 D2 M2 B1 L1 L2
      go_wp2_with (first
        | fail)
      go_ret
      exact ⟨rfl, M3.out⟩
    · show Calls _ _ _ _ fun e w' => e = .returned (.bool z3) ∧ _
      go_enter Tryz.func15, Tryz.ntmps15
      go_wp2_with (first
        | ((with_reducible show wpList _ _ _ (⟨some 2, _, _, _, _, _⟩ :: _) _ _); refine wpList_box_blk rfl _ (.tmp 0) rfl ca rfl ?_; intro g w1 hg1 hg2 B1 L1)
        | ((with_reducible show wpList _ _ _ (⟨some 3, _, _, _, _, _⟩ :: _) _ _); refine wpList_box_blk rfl _ (.tmp 1) rfl cb rfl ?_; intro g2 w2 hg3 hg4 D2 L2; have B2 := Lib.hid (B1.out.over L2.out); have M2 := Lib.hid (step L1.out L2.out))
        | ((with_reducible show wpList _ _ _ (⟨some 6, _, _, _, _, _⟩ :: _) _ _); refine wpList_load_midu rfl _ (.tmp 5) rfl g 0 rfl hA _ (Lib.hid (RA1.out _ _ _ B2.out)) Tryz.underlying28 rfl 26 size_hd N1 ?_)
        | ((with_reducible show wpList _ _ _ (⟨some 8, _, _, _, _, _⟩ :: _) _ _); refine wpList_load_midu rfl _ (.tmp 7) rfl g2 0 rfl hB _ (Lib.hid (RB1.out _ _ _ D2.out)) Tryz.underlying28 rfl 26 size_hd N2 ?_)
        | ((with_reducible show wpList _ _ _ (⟨some 11, _, _, _, _, _⟩ :: _) _ _); refine wpList_fld_w (by kernel_rfl) _ (.tmp 2) 1 rfl _ _ rfl (F1 g) ?_)
        | ((with_reducible show wpList _ _ _ (⟨some 12, _, _, _, _, _⟩ :: _) _ _); refine wpList_load_midw (by kernel_rfl) _ (.tmp 11) rfl g 26 rfl ac _ (Lib.hid (RA2.out _ _ _ B2.out)) Tryz.underlying34 rfl 69 size_ask N3 ?_)
        | ((with_reducible show wpList _ _ _ (⟨some 13, _, _, _, _, _⟩ :: _) _ _); refine wpList_fld_w (by kernel_rfl) _ (.tmp 3) 1 rfl _ _ rfl (F1 g2) ?_)
        | ((with_reducible show wpList _ _ _ (⟨some 14, _, _, _, _, _⟩ :: _) _ _); refine wpList_load_midw (by kernel_rfl) _ (.tmp 13) rfl g2 26 rfl bc _ (Lib.hid (RB2.out _ _ _ D2.out)) Tryz.underlying34 rfl 69 size_ask N4 ?_)
        | fail)
      refine (CA.out w2 M2.out).mono ?_
      rintro e w3 ⟨rfl, L3⟩
      have B3 := Lib.hid (B2.out.over L3)
      have D3 := Lib.hid (D2.out.over L3)
      have M3 := Lib.hid (step M2.out L3)
      clear L3 CA B2 D2 M2 B1 L1 L2
      go_wp2_with (first
        | ((with_reducible show wpList _ _ _ (⟨some 18, _, _, _, _, _⟩ :: _) _ _); refine wpList_fld_w (by kernel_rfl) _ (.tmp 2) 2 rfl _ _ rfl (F2 g) ?_)
        | ((with_reducible show wpList _ _ _ (⟨some 19, _, _, _, _, _⟩ :: _) _ _); refine wpList_load_midw (by kernel_rfl) _ (.tmp 18) rfl g 95 rfl sc _ (Lib.hid (RA3.out _ _ _ B3.out)) Tryz.underlying39 rfl 20 size_say N5 ?_)
        | ((with_reducible show wpList _ _ _ (⟨some 20, _, _, _, _, _⟩ :: _) _ _); refine wpList_fld_w (by kernel_rfl) _ (.tmp 3) 2 rfl _ _ rfl (F2 g2) ?_)
        | ((with_reducible show wpList _ _ _ (⟨some 21, _, _, _, _, _⟩ :: _) _ _); refine wpList_load_midw (by kernel_rfl) _ (.tmp 20) rfl g2 95 rfl tc _ (Lib.hid (RB3.out _ _ _ D3.out)) Tryz.underlying39 rfl 20 size_say N6 ?_)
        | fail)
      refine (CS.out w3 M3.out).mono ?_
      rintro e w4 ⟨rfl, L4⟩
      go_wp2_with fail
      go_ret
      exact ⟨rfl, step M3.out L4⟩
end Go.Proofs.YtpodpmckdiijhaaGreatDoor

namespace Go.Proofs.YtpodpmckdiijhaaGreatDoor
set_option linter.all false
open Go.RowKit
set_option linter.unusedVariables false
set_option linter.unusedSimpArgs false
set_option maxRecDepth 100000
theorem putsA13 {w : World} {ac : List Value} {a : AskV} (k : a.ok) (ha : AskIs w w.heap.size ac a) (hu : a.user.size ≤ 17592186044416 ∧ a.share.size ≤ 17592186044416) (hT : Tabs w) : PutsA w 13 ac a := by
  intro w' hb
  show Calls Tryz.prog 103 _ _ fun e w2 => ∃ v, e = .returned (.tuple #[v, .int .i64 (askErrP 13 a)]) ∧ OwnB w2 w'.heap.size v (askOfP 13 a) ∧ Below w'.heap.size w' w2
  exact PutAskB_any w' 13 ac a (by decide) k (ha.over hb) hu (hT.below hb)
theorem putsS13 {w : World} {sc : List Value} {s : SayV} (k : s.ok) (hs : SayIs w w.heap.size sc s) : PutsS w 13 sc s := by
  intro w' hb
  show Calls Tryz.prog 105 _ _ fun e w2 => ∃ v, e = .returned (.tuple #[v, .int .i64 (sayErrP 13 s)]) ∧ OwnB w2 w'.heap.size v (sayOfP 13 s) ∧ Below w'.heap.size w' w2
  exact PutSayB_any w' 13 sc s (by decide) k (hs.over hb)
theorem getsA13 {w : World} {A : Option Addr} {n c : Nat} {xs : List Int} (hx : Holds w w.heap.size A n c xs) : GetsA w 13 A n c xs := by
  intro w' hb
  show Calls Tryz.prog 104 _ _ fun e w2 => ∃ cs, e = .returned (.tuple #[.agg cs.toArray, .int .i64 (gaskErr 13 xs)]) ∧ GA w2 w'.heap.size cs (gaskOf 13 xs) ∧ Below w'.heap.size w' w2
  refine (GetAsk_any w' 13 A n c xs (by decide) (hx.over hb)).mono ?_
  rintro e w2 ⟨vd, h1, h2, h3⟩
  have hz : gaskOf 13 xs = zeroAsk := by
    unfold gaskOf
    split
    · unfold gaskP; rw [if_neg (by decide), if_neg (by decide), if_neg (by decide)]
    · rfl
  rw [hz] at h1 h2 ⊢
  exact ⟨_, h1, ⟨zeroAsk_ok, h2, ⟨.inl rfl, .inl rfl, .inl rfl⟩, .slice none 0 0, rfl, OwnZ.nil _ _ _ _⟩, h3⟩
def echoM : MsgV := ⟨{ zeroHd with cm := 13, id := 1 }, zeroAsk, zeroSay⟩
def echoR : MsgV := ⟨ansH { zeroHd with cm := 13, id := 1 } 15, zeroAsk, zeroSay⟩
def echoB : List Int := putH echoM.h ++ [0, 0, 0, 0]
theorem echoM_h : echoM.h.ok := ⟨by decide, by decide, by decide, by decide, by decide, by decide, by decide, by decide, by decide, by decide, by decide, Bytes.zeros 16⟩
theorem echoM_ok : echoM.ok := ⟨echoM_h, zeroAsk_ok, zeroSay_ok⟩
theorem echoR_ok : echoR.ok := ⟨ansH_ok echoM_h 15, zeroAsk_ok, zeroSay_ok⟩
theorem echo1 : mpErr echoM = 0 ∧ mpOf echoM = echoB ∧ mbOf echoM = [0, 0, 0, 0] := by decide +kernel
theorem echo2 : mpErr echoR = 0 ∧ (mpOf echoR).length = 68 ∧ mbOf echoR = [0, 0, 0, 0] := by decide +kernel
theorem echo3 : getErrH echoB 0 = 0 ∧ getOfH echoB 0 = echoM.h ∧ mgErr echoB = 0 := by decide +kernel
theorem echo4 : getErrH (echoB ++ [0]) 0 = 0 ∧ getOfH (echoB ++ [0]) 0 = echoM.h ∧ mgErr (echoB ++ [0]) = 5 := by decide +kernel
theorem echo5 : (mgOf echoB).h = echoM.h ∧ (mgOf echoB).a = zeroAsk ∧ (mgOf echoB).s = zeroSay := by decide +kernel
theorem echo6 : echoB.length = 68 := by decide +kernel
theorem echoB_bytes : Bytes echoB := (putH_bytes echoM_h.byte).append (Bytes.of_all (by decide))
theorem echo_put (w : World) (hT : Tabs w) (m : MsgV) (k : m.ok) (ha : m.a = zeroAsk) (hs : m.s = zeroSay) (h13 : rowM m.h = 13) (hb : mbOf m = [0, 0, 0, 0]) :
    Calls Tryz.prog 12 #[.agg (hcells m.h ++ (zac ++ zsc)).toArray] w (MPPost w m) := by
  refine Put_of w m zac zsc k zac_len zsc_len (acells_one rfl rfl rfl) (scells_one rfl rfl) (by rw [hb]; exact Bytes.zeros 4) (by rw [hb]; decide) ?_
  intro w' g hbl B
  refine putBody_of w' g m zac zsc k B (by rw [ha]; exact zeroAsk_is w' _) (by rw [hs]; exact zeroSay_is w' _) (by rw [ha]; decide) (hT.below hbl) (fun _ => ?_) (fun _ => ?_)
  · rw [h13, ha]; exact putsA13 zeroAsk_ok (zeroAsk_is w' _) (by decide) (hT.below hbl)
  · rw [h13, hs]; exact putsS13 zeroSay_ok (zeroSay_is w' _)
theorem echo_get (w : World) (A : Option Addr) (n c : Nat) (xs : List Int) (hx : Holds w w.heap.size A n c xs) (hh : getErrH xs 0 = 0 → getOfH xs 0 = echoM.h) :
    Calls Tryz.prog 18 #[.slice A n c] w (MGPost w xs) := by
  refine Get_of w A n c xs hx fun h0 => ?_
  rw [hh h0]
  intro w' g A' n' c' hb B hy
  exact behind0_of w' g echoM.h zac zsc echoM_h B zac_len zsc_len A' n' c' _ rfl (fun _ => getsA13 hy) (fun h => absurd h (by decide))
theorem live_put (w : World) (hT : Tabs w) : Calls Tryz.prog 12 #[.agg (hcells echoM.h ++ (zac ++ zsc)).toArray] w fun e w' => (∃ A c, e = .returned (.tuple #[.slice A 68 c, .int .i64 0]) ∧ Holds w' w'.heap.size A 68 c echoB) ∧ Below w.heap.size w w' := by
  have h := echo_put w hT echoM echoM_ok rfl rfl (by decide) echo1.2.2
  unfold MPPost at h
  rw [echo1.1, echo1.2.1] at h
  refine h.mono fun e w' ⟨v, h1, h2, h3⟩ => ?_
  obtain ⟨A, c, rfl, hh⟩ := OwnZ.holds8 h2 echoB_bytes (by rw [echo6]; decide)
  rw [echo6] at h1 hh
  exact ⟨⟨A, c, h1, hh⟩, h3⟩
theorem live_put2 (w : World) (hT : Tabs w) : Calls Tryz.prog 12 #[.agg (hcells (ansH echoM.h 15) ++ (zac ++ zsc)).toArray] w fun e w' => (∃ A c, e = .returned (.tuple #[.slice A 68 c, .int .i64 0])) ∧ Below w.heap.size w w' := by
  have h := echo_put w hT echoR echoR_ok rfl rfl (by decide) echo2.2.2
  unfold MPPost at h
  rw [echo2.1] at h
  refine h.mono fun e w' ⟨v, h1, h2, h3⟩ => ?_
  obtain ⟨A, c, rfl⟩ := h2.own8.len
  rw [echo2.2.1] at h1
  exact ⟨⟨A, c, h1⟩, h3⟩
theorem live_get (w : World) (A : Option Addr) (c : Nat) (hx : Holds w w.heap.size A 68 c echoB) : Calls Tryz.prog 18 #[.slice A 68 c] w fun e w' => (∃ cs : List Value, e = .returned (.tuple #[.agg cs.toArray, .int .i64 0]) ∧ MsgIs w' w'.heap.size cs echoM) ∧ Below w.heap.size w w' := by
  have h := echo_get w A 68 c _ hx (fun _ => echo3.2.1)
  unfold MGPost at h
  rw [echo3.2.2, echo5.1, echo5.2.1, echo5.2.2] at h
  exact h.mono fun e w' ⟨ac, sc, h1, h2, h3, h4⟩ => ⟨⟨_, h1, ac, sc, rfl, h2.2.1, h3.2.1⟩, h4⟩
theorem live_get2 (w : World) (A : Option Addr) (c : Nat) (hx : Holds w w.heap.size A 69 c (echoB ++ [0])) : Calls Tryz.prog 18 #[.slice A 69 c] w fun e w' => (∃ cs : List Value, e = .returned (.tuple #[.agg cs.toArray, .int .i64 5]) ∧ cs.length = 115 ∧ ∀ v ∈ cs, v.oneCell' = true) ∧ Below w.heap.size w w' := by
  have h := echo_get w A 69 c _ hx (fun _ => echo4.2.1)
  unfold MGPost at h
  rw [echo4.2.2] at h
  refine h.mono fun e w' ⟨ac, sc, h1, h2, h3, h4⟩ => ⟨⟨_, h1, ?_, ?_⟩, h4⟩
  · have hz : (mgOf (echoB ++ [0])).h = zeroHd := by unfold mgOf; rw [echo4.2.2, if_neg (by decide)]; rfl
    rw [hz]
    simp only [List.length_append, hcells_len zeroHd_ok, h2.len, h3.len]
  · intro v hv
    rcases List.mem_append.1 hv with hv | hv
    · exact hcells_one _ v hv
    · rcases List.mem_append.1 hv with hv | hv
      · exact h2.one v hv
      · exact h3.one v hv
theorem lbuilt1 : Tryz.prog.built 28 [(2, .int .u16 13), (6, .int .u64 1)] = some (hcells echoM.h).toArray := by kernel_rfl
theorem ansE0 : (hcells (ansH echoM.h 15))[1]? = some (.int .u32 15) ∧ (hcells (ansH echoM.h 15))[6]? = some (.int .u64 1) := by
  constructor
  · show some (Value.int .u32 (IntKind.u32.wrap 15)) = _
    rw [show IntKind.u32.wrap 15 = 15 by decide]
  · rfl
set_option maxHeartbeats 4000000 in
theorem mlives_any (w : World) (hT : Tabs w) : Calls Tryz.prog 16 #[] w fun e w' => e = .returned (.bool true) ∧ Below w.heap.size w w' := by
  have HT := Lib.hid hT
  have C1 := Lib.hid live_put
  have C2 := Lib.hid live_get
  have C3 := Lib.hid live_get2
  have C4 := Lib.hid live_put2
  have CA : Hid (∀ w' : World, Calls Tryz.prog 25 #[hv echoM.h, .int .i64 15] w' fun e w2 => e = .returned (hv (ansH echoM.h 15)) ∧ Below w'.heap.size w' w2) := fun w' => Answer_any w' _ echoM_h 15 (by decide)
  have CS : Hid (∀ (w' : World) cs, MsgIs w' w'.heap.size cs echoM → Calls Tryz.prog 15 #[.agg cs.toArray, .agg (hcells echoM.h ++ (zac ++ zsc)).toArray] w' fun e w2 => e = .returned (.bool true) ∧ Below w'.heap.size w' w2) := fun w' cs h => by
    have h1 := mSame_any w' cs (hcells echoM.h ++ (zac ++ zsc)) echoM echoM echoM_ok echoM_ok h ⟨zac, zsc, rfl, zeroAsk_is w' _, zeroSay_is w' _⟩ ⟨by decide, by decide⟩ ⟨by decide, by decide⟩
    simpa using h1
  have B1 := lbuilt1
  have B2 := built1 placed_msg (hcells_len echoM_h)
  have B3 := built1 placed_msg (hcells_len (ansH_ok echoM_h 15))
  have N1 := Lib.hid (hcells_len echoM_h)
  have N2 := Lib.hid (hcells_len (ansH_ok echoM_h 15))
  have O2 := Lib.hid (hcells_one (ansH echoM.h 15))
  have A1 := Lib.hid ansE0.1
  have A6 := Lib.hid ansE0.2
  have ZM := Lib.hid zero_msg
  have HZ := Lib.hid zmcells_len
  have ZH := Lib.hid zero_hd
  have HZH := Lib.hid (hcells_len zeroHd_ok)
  have HLM : Hid (∀ (w' : World) cs, MsgIs w' w'.heap.size cs echoM → cs.length = 115 ∧ ∀ v ∈ cs, v.oneCell' = true) := fun w' cs h => ⟨h.len echoM_ok, h.one⟩
  have HM1 : Hid ((hcells echoM.h ++ (zac ++ zsc)).length = 115) := by
    show _ = _
    simp only [List.length_append, N1.out, zac_len, zsc_len]
  have HM2 : Hid (∀ v ∈ hcells echoM.h ++ (zac ++ zsc), v.oneCell' = true) := (show MsgIs w w.heap.size _ echoM from ⟨zac, zsc, rfl, zeroAsk_is w _, zeroSay_is w _⟩).one
  have RH : Hid (∀ (w : World) g T, Blk w g T (hcells echoM.h ++ (zac ++ zsc)) → w.rangeAt g 0 (hcells echoM.h)) := fun w g T b => range_h b
  change Tryz.prog.built _ _ = some (hcells echoM.h ++ (zac ++ zsc)).toArray at B2
  change Tryz.prog.built _ _ = some (hcells (ansH echoM.h 15) ++ (zac ++ zsc)).toArray at B3
  have HB := Lib.hid echoB_bytes
  have HBL := Lib.hid echo6
  unfold hv at CA
  obtain ⟨M1, hM1⟩ : ∃ x, x = hcells echoM.h ++ (zac ++ zsc) := ⟨_, rfl⟩
  rw [← hM1] at C1 CS B2 HM1 HM2 RH
  obtain ⟨M2, hM2⟩ : ∃ x, x = hcells (ansH echoM.h 15) ++ (zac ++ zsc) := ⟨_, rfl⟩
  rw [← hM2] at C4 B3
  obtain ⟨h1, hh1⟩ : ∃ x, x = hcells echoM.h := ⟨_, rfl⟩
  rw [← hh1] at CA B1 B2 N1 RH
  obtain ⟨h2, hh2⟩ : ∃ x, x = hcells (ansH echoM.h 15) := ⟨_, rfl⟩
  rw [← hh2] at CA B3 N2 O2 A1 A6
  obtain ⟨bs, hbs⟩ : ∃ x, x = echoB := ⟨_, rfl⟩
  rw [← hbs] at C1 C2 C3 HB HBL
  obtain ⟨em, hem⟩ : ∃ x, x = echoM := ⟨_, rfl⟩
  rw [← hem] at C2 CS HLM
  obtain ⟨zm, hzm⟩ : ∃ x, x = zmcells := ⟨_, rfl⟩
  rw [← hzm] at ZM HZ
  obtain ⟨zh, hzh⟩ : ∃ x, x = hcells zeroHd := ⟨_, rfl⟩
  rw [← hzh] at ZH HZH
  clear hM1 hM2 hh1 hh2 hbs hem hzm hzh hT
  go_enter Tryz.func16, Tryz.ntmps16
  go_wp2_with (first
    | ((with_reducible show wpList _ _ _ (⟨some 11, _, _, _, _, _⟩ :: _) _ _); refine wpList_build_blk rfl _ _ rfl h1 (by refine Eq.trans ?_ B1; kernel_rfl) ?_)
    | ((with_reducible show wpList _ _ _ (⟨some 12, _, _, _, _, _⟩ :: _) _ _); refine wpList_build_blk rfl _ _ rfl M1 (by refine Eq.trans ?_ B2; kernel_rfl) ?_)
    | ((with_reducible show wpList _ _ _ (⟨some 1, _, _, _, _, _⟩ :: _) _ _); refine wpList_alloc_blk rfl _ rfl zm _ ZM ?_; intro g1 w1 hg1 hg2 Z1 L1)
    | ((with_reducible show wpList _ _ _ (⟨none, .store _ (.tmp 1) _, _, _, _, _⟩ :: _) _ _); refine wpList_store_blk rfl _ (.tmp 1) (.tmp 12) rfl g1 rfl _ zm M1 rfl Z1 115 size_msg HZ HM1 HM2 ?_; intro w2 X2 P2 hg3; have M2' := Lib.hid (below_only L1.out P2.out hg1))
    | ((with_reducible show wpList _ _ _ (⟨some 14, _, _, _, _, _⟩ :: _) _ _); refine wpList_load_blk rfl _ (.tmp 1) rfl g1 rfl _ M1 X2 115 _ Tryz.underlying41 rfl size_msg HM1 ?_)
    | fail)
  refine (C1.out w2 (HT.out.below M2'.out)).mono ?_
  rintro e w3 ⟨⟨A3, c3, rfl, hh3⟩, L3⟩
  have H3 := Lib.hid hh3
  have hc3 : 68 ≤ c3 := hh3.fit
  have hc4 : (68 : Int) ≤ (c3 : Int) := by omega
  have X3 := Lib.hid (X2.out.over L3)
  have M3 := Lib.hid (step M2'.out L3)
  clear hh3 L3 C1 Z1 L1 P2 M2' X2
  go_wp2_with fail
  refine (C2.out w3 A3 c3 H3.out).mono ?_
  rintro e w4 ⟨⟨cs, rfl, hcs⟩, L4⟩
  have H4 := Lib.hid (H3.out.over L4)
  have X4 := Lib.hid (X3.out.over L4)
  have M4 := Lib.hid (step M3.out L4)
  have K4 := Lib.hid hcs
  have KL := Lib.hid (HLM.out _ _ hcs).1
  have KO := Lib.hid (HLM.out _ _ hcs).2
  clear hcs L4 C2 H3 X3 M3
  go_wp2_with (first
    | ((with_reducible show wpList _ _ _ (⟨some 4, _, _, _, _, _⟩ :: _) _ _); refine wpList_alloc_blk rfl _ rfl zm _ ZM ?_; intro g5 w5 hg5 hg6 Z5 L5; have M5 := Lib.hid (step M4.out L5.out))
    | ((with_reducible show wpList _ _ _ (⟨none, .store _ (.tmp 4) _, _, _, _, _⟩ :: _) _ _); refine wpList_store_blk rfl _ (.tmp 4) (.tmp 21) rfl g5 rfl _ zm cs rfl Z5 115 size_msg HZ KL KO ?_; intro w6 X6 P6 hg7; have L6 := Lib.hid (below_only L5.out P6.out hg5); have M6 := Lib.hid (step M4.out L6.out); have H6 := Lib.hid (H4.out.over L6.out); have Y6 := Lib.hid (X4.out.over L6.out); have K6 := Lib.hid (K4.out.over L6.out))
    | ((with_reducible show wpList _ _ _ (⟨some 30, _, _, _, _, _⟩ :: _) _ _); refine wpList_slice_blk rfl _ _ 1 _ rfl Tryz.underlying31 ([.int .u8 0] : List Value) (by kernel_rfl) ?_; intro g7 w7 q3 q4 Y7 L7; have M7 := Lib.hid (step M6.out L7.out); have H7 := Lib.hid (H6.out.over L7.out); have X7 := Lib.hid (Y6.out.over L7.out); have K7 := Lib.hid (K6.out.over L7.out); have D7 := Lib.hid (X6.out.over L7.out); have HX7 : Hid (Holds w7 w7.heap.size (some ⟨g7, 0, none⟩) 1 1 [0]) := Holds.of_lit (xs := [0]) Y7.out (Bytes.of_all (by decide)))
    | ((with_reducible show wpList _ _ _ (⟨some 31, _, _, _, _, _⟩ :: _) _ _); refine wpList_append_full rfl (.tmp 29) (.tmp 30) rfl w7.heap.size A3 68 c3 bs rfl H7.out w7.heap.size (some ⟨g7, 0, none⟩) 1 1 [0] rfl HX7.out (by decide) (by decide) ?_; intro u8 w8 O8 L8)
    | fail)
  obtain ⟨A8, c8, rfl, hh8⟩ := O8.out.holds (HB.out.append (Bytes.of_all (by decide))) (by rw [List.length_append, HBL.out]; decide)
  rw [List.length_append, HBL.out] at hh8 ⊢
  have H8 := Lib.hid hh8
  have M8 := Lib.hid (step M7.out L8)
  have X8 := Lib.hid (X7.out.over L8)
  have K8 := Lib.hid (K7.out.over L8)
  have D8 := Lib.hid (D7.out.over L8)
  clear hh8 L8 O8 M7 X7 K7 D7 H7 HX7 Y7 L7 M6 H6 Y6 K6 L6 X6 P6 Z5 L5 M5 M4 H4 X4 K4
  go_wp2_with fail
  refine (C3.out w8 A8 c8 H8.out).mono ?_
  rintro e w9 ⟨⟨ds, rfl, hd1, hd2⟩, L9⟩
  have DL := Lib.hid hd1
  have DO := Lib.hid hd2
  have M9 := Lib.hid (step M8.out L9)
  have X9 := Lib.hid (X8.out.over L9)
  have K9 := Lib.hid (K8.out.over L9)
  have D9 := Lib.hid (D8.out.over L9)
  clear hd1 hd2 L9 M8 X8 K8 D8 H8 C3
  go_wp2_with (first
    | ((with_reducible show wpList _ _ _ (⟨some 6, _, _, _, _, _⟩ :: _) _ _); refine wpList_alloc_blk rfl _ rfl zm _ ZM ?_; intro g10 w10 hg10 hg11 Z10 L10)
    | ((with_reducible show wpList _ _ _ (⟨none, .store _ (.tmp 6) _, _, _, _, _⟩ :: _) _ _); refine wpList_store_blk rfl _ (.tmp 6) (.tmp 33) rfl g10 rfl _ zm ds rfl Z10 115 size_msg HZ DL DO ?_; intro w11 X11 P11 hg12; have L11 := Lib.hid (below_only L10.out P11.out hg10); have M11 := Lib.hid (step M9.out L11.out); have Y11 := Lib.hid (X9.out.over L11.out); have K11 := Lib.hid (K9.out.over L11.out); have D11 := Lib.hid (D9.out.over L11.out))
    | ((with_reducible show wpList _ _ _ (⟨some 36, _, _, _, _, _⟩ :: _) _ _); refine wpList_load_midu rfl _ (.tmp 35) rfl g1 0 rfl h1 _ (Lib.hid (RH.out _ _ _ Y11.out)) Tryz.underlying28 rfl 26 size_hd N1 ?_)
    | fail)
  refine (CA.out w11).mono ?_
  rintro e w12 ⟨rfl, L12⟩
  have M12 := Lib.hid (step M11.out L12)
  have Y12 := Lib.hid (Y11.out.over L12)
  have K12 := Lib.hid (K11.out.over L12)
  have D12 := Lib.hid (D11.out.over L12)
  clear L12 M11 Y11 K11 D11 L11 X11 P11 Z10 L10 M9 X9 K9 D9 CA
  go_wp2_with (first
    | ((with_reducible show wpList _ _ _ (⟨some 8, _, _, _, _, _⟩ :: _) _ _); refine wpList_alloc_blk rfl _ rfl zh _ ZH ?_; intro g13 w13 hg13 hg14 Z13 L13)
    | ((with_reducible show wpList _ _ _ (⟨none, .store _ (.tmp 8) _, _, _, _, _⟩ :: _) _ _); refine wpList_store_blk rfl _ (.tmp 8) (.tmp 37) rfl g13 rfl _ zh h2 rfl Z13 26 size_hd HZH N2 O2 ?_; intro w14 X14 P14 hg15; have L14 := Lib.hid (below_only L13.out P14.out hg13); have M14 := Lib.hid (step M12.out L14.out); have Y14 := Lib.hid (Y12.out.over L14.out); have K14 := Lib.hid (K12.out.over L14.out); have D14 := Lib.hid (D12.out.over L14.out))
    | ((with_reducible show wpList _ _ _ (⟨some 39, _, _, _, _, _⟩ :: _) _ _); refine wpList_load_blk rfl _ (.tmp 8) rfl g13 rfl _ h2 X14 26 _ Tryz.underlying28 rfl size_hd N2 ?_)
    | ((with_reducible show wpList _ _ _ (⟨some 40, _, _, _, _, _⟩ :: _) _ _); refine wpList_build_blk rfl _ _ rfl M2 (by refine Eq.trans ?_ B3; kernel_rfl) ?_)
    | fail)
  refine (C4.out w14 (HT.out.below M14.out)).mono ?_
  rintro e w15 ⟨⟨A15, c15, rfl⟩, L15⟩
  have M15 := Lib.hid (step M14.out L15)
  have Y15 := Lib.hid (Y14.out.over L15)
  have K15 := Lib.hid (K14.out.over L15)
  have D15 := Lib.hid (D14.out.over L15)
  have X15 := Lib.hid (X14.out.over L15)
  clear L15 M14 Y14 K14 D14 X14 L14 P14 Z13 L13 M12 Y12 K12 D12 C4
  go_wp2_with (first
    | ((with_reducible show wpList _ _ _ (⟨some 56, _, _, _, _, _⟩ :: _) _ _); refine wpList_load_want (by kernel_rfl) _ (.tmp 4) rfl g5 rfl _ cs D15 115 _ Tryz.underlying41 rfl size_msg KL ?_)
    | ((with_reducible show wpList _ _ _ (⟨some 57, _, _, _, _, _⟩ :: _) _ _); refine wpList_load_want (by kernel_rfl) _ (.tmp 1) rfl g1 rfl _ M1 Y15 115 _ Tryz.underlying41 rfl size_msg HM1 ?_)
    | fail)
  refine (CS.out w15 cs K15.out).mono ?_
  rintro e w16 ⟨rfl, L16⟩
  have M16 := Lib.hid (step M15.out L16)
  have d1 : w16.cell? ⟨g13, 1, none⟩ = some (.int .u32 15) := (X15.out.over L16).at A1.out
  have d2 : w16.cell? ⟨g13, 6, none⟩ = some (.int .u64 1) := (X15.out.over L16).at A6.out
  clear L16 M15 Y15 K15 D15 X15 CS
  go_wp2
  go_ret
  exact ⟨rfl, M16.out⟩
end Go.Proofs.YtpodpmckdiijhaaGreatDoor

namespace Go.Proofs.YtpodpmckdiijhaaGreatDoor
set_option linter.all false
set_option maxRecDepth 100000
open Go.RowKit Go.ChangeShapes Go.WideShapes
section
variable {H : Type} {enc : TypeId × Value → H} {P : Program} {W : World} {base : Nat} {t e : TypeId} {v : Value} {d : DataW H} {p : List MemPlace}
/-- the cells of an array of numbers -/
theorem trod_row {k : IntKind} {m b fuel : Nat} {sp : Nat → Bool} {hd : Bool} {l : List Value} {x : DataW H × List MemPlace} (ht : P.underlying t = some (.array m e)) (he : P.underlying e = some (.int k)) (hc : P.cellsOf e = 1) (hl : l.length = m)
    (hf : DataW.trod enc P W b sp hd fuel t l = some x) : ∃ xs : List Int, l = xs.map (Value.int k) ∧ ∀ x ∈ xs, (Lit.int k x).wf = true := by
  obtain ⟨ys, n, _, _, hlc, hyl, hel⟩ := DataW.trod_array ht hf
  rw [hc] at hel
  have each : ∀ i (h : i < l.length), ∃ x, l[i] = .int k x ∧ (Lit.int k x).wf = true := by
    intro i hi
    have h1 := hel i (by omega)
    rw [Nat.mul_one] at h1
    rw [List.drop_eq_getElem_cons hi, List.take_succ_cons, List.take_zero] at h1
    have hy : i < ys.length := by omega
    rw [List.getElem?_eq_getElem hy] at h1
    obtain ⟨x, e0, _, wx⟩ := DataW.trod_int he h1
    exact ⟨x, by simpa using e0, wx⟩
  clear hf hel hl hlc hyl
  induction l with
  | nil => exact ⟨[], rfl, fun _ h => by cases h⟩
  | cons u r ih =>
    obtain ⟨x, hx, wx⟩ := each 0 (by simp)
    obtain ⟨xs, hr, hw⟩ := ih fun i hi => by
      have := each (i + 1) (by simpa using hi)
      simpa using this
    refine ⟨x :: xs, by rw [hr]; simpa using hx, fun y hy => ?_⟩
    rcases List.mem_cons.1 hy with rfl | hy
    · exact wx
    · exact hw y hy
theorem drop_cons_of_take {l : List Value} {i : Nat} {a : Value} (h : (l.drop i).take 1 = [a]) : l.drop i = a :: l.drop (i + 1) := by
  have e : l.drop (i + 1) = (l.drop i).drop 1 := by rw [List.drop_drop]
  rw [e]
  cases hq : l.drop i with
  | nil => rw [hq] at h; cases h
  | cons u r => rw [hq] at h; simp at h; rw [h]; rfl
/-- one number among the cells -/
theorem trod_num {k : IntKind} {b fuel i : Nat} {sp : Nat → Bool} {hd : Bool} {l : List Value} {y : Option (DataW H × List MemPlace)} (he : P.underlying e = some (.int k)) (hy : y.isSome = true)
    (hf : DataW.trod enc P W b sp hd fuel e ((l.drop i).take 1) = y) : ∃ x, l.drop i = .int k x :: l.drop (i + 1) ∧ (Lit.int k x).wf = true := by
  obtain ⟨z, rfl⟩ := Option.isSome_iff_exists.1 hy
  obtain ⟨x, e0, _, wx⟩ := DataW.trod_int he hf
  exact ⟨x, drop_cons_of_take e0, wx⟩
/-- a head by value -/
theorem open_head (hv : Value.okWide Tryz.prog W .any base 28 v) (hk : DataW.Trod enc Tryz.prog W 0 (fun _ => true) true 28 v d p) : ∃ h : Hd, h.ok ∧ v = Go.Proofs.YtpodpmckdiijhaaGreatDoor.hv h := by
  obtain ⟨cs, rfl, hsz, _⟩ : ∃ cs, v = .agg cs ∧ cs.size = Tryz.prog.cellsOf 28 ∧ Row.okWide Tryz.prog W .any base 28 cs := by
    simpa [Value.okWide, Tryz.underlying28] using hv
  have h26 : Tryz.prog.cellsOf 28 = 26 := by kernel_rfl
  rw [h26] at hsz
  obtain ⟨fuel, hf⟩ := hk
  obtain ⟨xs, n, _, _, hl, hx, hel⟩ := DataW.trod_struct Tryz.underlying28 hf
  have hx11 : xs.length = 11 := hx
  have some_at : ∀ i, i < 11 → (xs[i]?).isSome = true := fun i hi => by simp [hx11, hi]
  have hcl : (Value.agg cs).cells.toList = cs.toList := rfl
  rw [hcl] at hel
  obtain ⟨l, hll⟩ : ∃ l, l = cs.toList := ⟨_, rfl⟩
  rw [← hll] at hel
  have hln : l.length = 26 := by rw [hll]; simpa using hsz
  have c1 : ∀ t, t = 22 ∨ t = 23 ∨ t = 25 ∨ t = 24 → Tryz.prog.cellsOf t = 1 := by
    rintro t (rfl | rfl | rfl | rfl) <;> kernel_rfl
  have e0 := hel 0 _ rfl
  have e1 := hel 1 _ rfl
  have e2 := hel 2 _ rfl
  have e3 := hel 3 _ rfl
  have e4 := hel 4 _ rfl
  have e5 := hel 5 _ rfl
  have e6 := hel 6 _ rfl
  have e7 := hel 7 _ rfl
  have e8 := hel 8 _ rfl
  have e9 := hel 9 _ rfl
  have e10 := hel 10 _ rfl
  rw [c1 _ (by simp)] at e0 e1 e2 e3 e4 e5 e6 e7 e8 e9
  obtain ⟨x0, d0, w0⟩ := trod_num (i := 0) Tryz.underlying22 (some_at 0 (by omega)) e0
  obtain ⟨x1, d1, w1⟩ := trod_num (i := 1) Tryz.underlying23 (some_at 1 (by omega)) e1
  obtain ⟨x2, d2, w2⟩ := trod_num (i := 2) Tryz.underlying24 (some_at 2 (by omega)) e2
  obtain ⟨x3, d3, w3⟩ := trod_num (i := 3) Tryz.underlying22 (some_at 3 (by omega)) e3
  obtain ⟨x4, d4, w4⟩ := trod_num (i := 4) Tryz.underlying23 (some_at 4 (by omega)) e4
  obtain ⟨x5, d5, w5⟩ := trod_num (i := 5) Tryz.underlying23 (some_at 5 (by omega)) e5
  obtain ⟨x6, d6, w6⟩ := trod_num (i := 6) Tryz.underlying25 (some_at 6 (by omega)) e6
  obtain ⟨x7, d7, w7⟩ := trod_num (i := 7) Tryz.underlying25 (some_at 7 (by omega)) e7
  obtain ⟨x8, d8, w8⟩ := trod_num (i := 8) Tryz.underlying23 (some_at 8 (by omega)) e8
  obtain ⟨x9, d9, w9⟩ := trod_num (i := 9) Tryz.underlying25 (some_at 9 (by omega)) e9
  have c16 : Tryz.prog.cellsOf 26 = 16 := by kernel_rfl
  change DataW.trod enc Tryz.prog W 0 (fun _ => true) true n 26 ((l.drop 10).take (Tryz.prog.cellsOf 26)) = xs[10]? at e10
  rw [c16] at e10
  obtain ⟨z, hz⟩ := Option.isSome_iff_exists.1 (some_at 10 (by omega))
  rw [hz] at e10
  have ht : (l.drop 10).take 16 = l.drop 10 := List.take_of_length_le (by simp; omega)
  rw [ht] at e10
  obtain ⟨ss, hss, wss⟩ := trod_row Tryz.underlying26 Tryz.underlying5 (by kernel_rfl) (by simp; omega) e10
  have hsl : ss.length = 16 := by
    have := congrArg List.length hss
    simp at this
    omega
  refine ⟨⟨x0, x1, x2, x3, x4, x5, x6, x7, x8, x9, ss⟩, ⟨int_bounds_u16 w0, int_bounds_u32 w1, int_bounds_u16 w2, int_bounds_u16 w3, int_bounds_u32 w4, int_bounds_u32 w5, int_bounds_u64 w6, int_bounds_u64 w7, int_bounds_u32 w8, int_bounds_u64 w9, hsl, fun y hy => int_bounds_u8 (wss y hy)⟩, ?_⟩
  show Value.agg cs = .agg _
  congr 1
  have h0 : l = hcells ⟨x0, x1, x2, x3, x4, x5, x6, x7, x8, x9, ss⟩ := by
    rw [← List.drop_zero (l := l), d0, d1, d2, d3, d4, d5, d6, d7, d8, d9, hss]
    rfl
  rw [← h0, hll]
end
end Go.Proofs.YtpodpmckdiijhaaGreatDoor

namespace Go.Proofs.YtpodpmckdiijhaaGreatDoor
set_option linter.all false
open Go.RowKit
set_option linter.unusedVariables false
set_option linter.unusedSimpArgs false
set_option maxRecDepth 100000
set_option maxHeartbeats 4000000 in
theorem walk_MsgAnswers (W : World) (hT : Tabs W) (a0 : Hd) (k0 : a0.ok) (a1 : Int) (w1 : -9223372036854775808 ≤ a1 ∧ a1 ≤ 9223372036854775807) :
    Calls Tryz.prog 6 #[hv a0, .int .i64 a1] W fun e W' => e = .returned (.bool true) ∧ Below W.heap.size W W' := by
  have HT := Lib.hid hT
  have HL := Lib.hid (hcells_len k0)
  have kx := ansH_ok k0 a1
  have HX := Lib.hid (hcells_len kx)
  have HXO := Lib.hid (hcells_one (ansH a0 a1))
  have ZH := Lib.hid zero_hd
  have HZ := Lib.hid (hcells_len zeroHd_ok)
  have q0 : ∀ w : World, (Op.equalIn 10000 28 (.agg (hcells (ansH a0 a1)).toArray) (.agg (hcells (ansH a0 a1)).toArray)).run Tryz.prog w = .ok true w := fun w => by
    rw [run_equalIn_hd _ _ kx kx w, decide_eq_true rfl]
  have qg := guard_hd
  have CA : Hid (∀ w : World, Calls Tryz.prog 25 #[hv a0, .int .i64 a1] w fun e w' => e = .returned (hv (ansH a0 a1)) ∧ Below w.heap.size w w') := fun w => Answer_any w a0 k0 a1 w1
  have CB : Hid (∀ w : World, Calls Tryz.prog 26 #[hv a0, .int .i64 a1] w fun e w' => e = .returned (hv (ansH a0 a1)) ∧ Below w.heap.size w w') := fun w => RAnswer_any w a0 k0 a1 w1
  have CM : Hid (∀ w : World, Calls Tryz.prog 27 #[hv a0] w fun e w' => e = .returned (.bool (mayP a0)) ∧ Below w.heap.size w w') := fun w => RMay_any w a0 k0
  have CN : Hid (∀ w : World, Calls Tryz.prog 27 #[hv (ansH a0 a1)] w fun e w' => e = .returned (.bool (mayP (ansH a0 a1))) ∧ Below w.heap.size w w') := fun w => RMay_any w _ kx
  have CR : Hid (∀ w : World, Calls Tryz.prog 28 #[hv (ansH a0 a1)] w fun e w' => e = .returned (.bool true) ∧ Below w.heap.size w w') := fun w => by
    have h1 := RIsReply_any w _ kx
    rw [ansH_rep] at h1
    exact h1
  have CL : Hid (∀ w : World, Below W.heap.size W w → Calls Tryz.prog 16 #[] w fun e w' => e = .returned (.bool true) ∧ Below w.heap.size w w') := fun w hb => mlives_any w (hT.below hb)
  have HM : Hid (mayP a0 = true → mayP (ansH a0 a1) = true) := ansH_may a1
  unfold hv at CA CB CM CN CR ⊢
  obtain ⟨cs, hcs⟩ : ∃ cs, cs = hcells a0 := ⟨_, rfl⟩
  rw [← hcs] at HL CA CB CM ⊢
  obtain ⟨xs, hxs⟩ : ∃ xs, xs = hcells (ansH a0 a1) := ⟨_, rfl⟩
  rw [← hxs] at HX HXO q0 CA CB CN CR
  obtain ⟨zs, hzs⟩ : ∃ zs, zs = hcells zeroHd := ⟨_, rfl⟩
  rw [← hzs] at ZH HZ
  clear hcs hxs hzs k0 kx hT
  by_cases hm : mayP a0 = true
  · skip
    rw [hm] at CM
    rw [HM.out hm] at CN
    clear hm HM
    go_enter Tryz.func6, Tryz.ntmps6
    go_wp2_with (first
      | ((with_reducible show wpList _ _ _ (⟨some 2, _, _, _, _, _⟩ :: _) _ _); refine wpList_box_blk rfl _ (.tmp 0) rfl cs rfl ?_; intro g v1 hg1 hg2 B1 L1)
      | ((with_reducible show wpList _ _ _ (⟨some 6, _, _, _, _, _⟩ :: _) _ _); refine wpList_load_blk rfl _ (.tmp 2) rfl g rfl _ cs B1 26 _ Tryz.underlying28 rfl size_hd HL ?_)
      | fail)
    refine (CA.out v1).mono ?_
    rintro e v2 ⟨rfl, L2⟩
    have B2 := Lib.hid (B1.out.over L2)
    have M2 := Lib.hid (step L1.out L2)
    clear L2 B1 L1 CA
    go_upto_region 22 with (first
      | ((with_reducible show wpList _ _ _ (⟨some 5, _, _, _, _, _⟩ :: _) _ _); refine wpList_alloc_blk rfl _ rfl zs _ ZH ?_; intro g5 v3 hg5 hg6 X3 L3)
      | ((with_reducible show wpList _ _ _ (⟨none, .store _ (.tmp 5) _, _, _, _, _⟩ :: _) _ _); refine wpList_store_blk rfl _ (.tmp 5) (.tmp 8) rfl g5 rfl _ zs xs rfl X3 26 size_hd HZ HX HXO ?_; intro v4 X4 O4 hg7; have L4 := Lib.hid (below_only L3.out O4.out hg5); have M4 := Lib.hid (step M2.out L4.out); have B4 := Lib.hid (B2.out.over L4.out))
      | fail)
    clear X3 L3 O4 L4 M2 B2
    refine wp_region_held (S := fun w' => Blk w' g 28 cs ∧ Blk w' g5 28 xs) (by kernel_rfl) ?_
    change wpAnyH _ _ _ _ _ _ _ _ v4.drew
    have S0 : Hid (Blk v4.drew g 28 cs ∧ Blk v4.drew g5 28 xs) := ⟨B4.out.drew, X4.out.drew⟩
    have b0 : Hid (Below W.heap.size W v4.drew) := M4.out.drew
    refine wpAnyH_take (i := 0) (v := _) rfl (by kernel_rfl) (by kernel_rfl) (by kernel_rfl) (fun _ _ _ h => h) (yieldsIf_load_blk (by kernel_rfl) _ (.tmp 5) rfl g5 (by kernel_rfl) _ xs (fun _ h => h.2) 26 _ Tryz.underlying28 rfl size_hd HX) S0.out ?_
    refine wpAnyH_take (i := 1) (v := _) rfl (by kernel_rfl) (by kernel_rfl) (by kernel_rfl) (fun _ _ _ h => h) (yieldsIf_load_blk (by kernel_rfl) _ (.tmp 2) rfl g (by kernel_rfl) _ cs (fun _ h => h.1) 26 _ Tryz.underlying28 rfl size_hd HL) S0.out ?_
    refine wpAnyH_take (i := 2) (v := _) rfl (by kernel_rfl) (by kernel_rfl) (by kernel_rfl) (fun _ _ _ h => h) (yieldsIf_move (by kernel_rfl) (.tmp 1) rfl (.int .i64 a1) (by kernel_rfl)) S0.out ?_
    refine wpAnyH_one 3 _ (by kernel_rfl) rfl fun K hK => ?_
    go_simp
    refine (CB.out _).mono ?_
    rintro e v1 ⟨rfl, b⟩
    have S1 : Hid (Blk v1 g 28 cs ∧ Blk v1 g5 28 xs) := ⟨S0.out.1.over b, S0.out.2.over b⟩
    have b1 : Hid (Below W.heap.size W v1) := Lib.hid (step b0.out b)
    refine hK _ _ S1.out ?_
    clear hK K b
    refine wpAnyH_one 4 _ (by kernel_rfl) rfl fun K hK => ?_
    go_simp
    refine hK _ _ S1.out ?_
    clear hK K
    refine wpAnyH_one 5 _ (by kernel_rfl) rfl fun K hK => ?_
    go_simp
    refine hK _ _ S1.out ?_
    clear hK K
    refine wpAnyH_take (i := 6) (v := _) rfl (by kernel_rfl) (by kernel_rfl) (by kernel_rfl) (fun _ _ _ h => h) (yieldsIf_load_blk (by kernel_rfl) _ (.tmp 2) rfl g (by kernel_rfl) _ cs (fun _ h => h.1) 26 _ Tryz.underlying28 rfl size_hd HL) S1.out ?_
    refine wpAnyH_one 7 _ (by kernel_rfl) rfl fun K hK => ?_
    go_simp
    refine (CM.out _).mono ?_
    rintro e v2 ⟨rfl, b⟩
    have S2 : Hid (Blk v2 g 28 cs ∧ Blk v2 g5 28 xs) := ⟨S1.out.1.over b, S1.out.2.over b⟩
    have b2 : Hid (Below W.heap.size W v2) := Lib.hid (step b1.out b)
    refine hK _ _ S2.out ?_
    clear hK K b
    refine wpAnyH_one 8 _ (by kernel_rfl) rfl fun K hK => ?_
    go_simp
    refine hK _ _ S2.out ?_
    clear hK K
    refine wpAnyH_one 9 _ (by kernel_rfl) rfl fun K hK => ?_
    go_simp
    refine hK _ _ S2.out ?_
    clear hK K
    refine wpAnyH_take (i := 10) (v := _) rfl (by kernel_rfl) (by kernel_rfl) (by kernel_rfl) (fun _ _ _ h => h) (yieldsIf_load_blk (by kernel_rfl) _ (.tmp 5) rfl g5 (by kernel_rfl) _ xs (fun _ h => h.2) 26 _ Tryz.underlying28 rfl size_hd HX) S2.out ?_
    refine wpAnyH_one 11 _ (by kernel_rfl) rfl fun K hK => ?_
    go_simp
    refine (CN.out _).mono ?_
    rintro e v3 ⟨rfl, b⟩
    have S3 : Hid (Blk v3 g 28 cs ∧ Blk v3 g5 28 xs) := ⟨S2.out.1.over b, S2.out.2.over b⟩
    have b3 : Hid (Below W.heap.size W v3) := Lib.hid (step b2.out b)
    refine hK _ _ S3.out ?_
    clear hK K b
    refine wpAnyH_one 12 _ (by kernel_rfl) rfl fun K hK => ?_
    go_simp
    refine hK _ _ S3.out ?_
    clear hK K
    refine wpAnyH_one 13 _ (by kernel_rfl) rfl fun K hK => ?_
    go_simp
    refine hK _ _ S3.out ?_
    clear hK K
    refine wpAnyH_one 14 _ (by kernel_rfl) rfl fun K hK => ?_
    go_simp
    refine hK _ _ S3.out ?_
    clear hK K
    refine wpAnyH_take (i := 15) (v := _) rfl (by kernel_rfl) (by kernel_rfl) (by kernel_rfl) (fun _ _ _ h => h) (yieldsIf_load_blk (by kernel_rfl) _ (.tmp 5) rfl g5 (by kernel_rfl) _ xs (fun _ h => h.2) 26 _ Tryz.underlying28 rfl size_hd HX) S3.out ?_
    refine wpAnyH_one 16 _ (by kernel_rfl) rfl fun K hK => ?_
    go_simp
    refine (CR.out _).mono ?_
    rintro e v4 ⟨rfl, b⟩
    have S4 : Hid (Blk v4 g 28 cs ∧ Blk v4 g5 28 xs) := ⟨S3.out.1.over b, S3.out.2.over b⟩
    have b4 : Hid (Below W.heap.size W v4) := Lib.hid (step b3.out b)
    refine hK _ _ S4.out ?_
    clear hK K b
    refine wpAnyH_one 17 _ (by kernel_rfl) rfl fun K hK => ?_
    go_simp
    refine hK _ _ S4.out ?_
    clear hK K
    refine wpAnyH_one 18 _ (by kernel_rfl) rfl fun K hK => ?_
    go_simp
    refine hK _ _ S4.out ?_
    clear hK K
    refine wpAnyH_one 19 _ (by kernel_rfl) rfl fun K hK => ?_
    go_simp
    refine (CL.out _ b4.out).mono ?_
    rintro e v5 ⟨rfl, b⟩
    have S5 : Hid (Blk v5 g 28 cs ∧ Blk v5 g5 28 xs) := ⟨S4.out.1.over b, S4.out.2.over b⟩
    have b5 : Hid (Below W.heap.size W v5) := Lib.hid (step b4.out b)
    refine hK _ _ S5.out ?_
    clear hK K b
    refine wpAnyH_one 20 _ (by kernel_rfl) rfl fun K hK => ?_
    go_simp
    refine hK _ _ S5.out ?_
    clear hK K
    refine wpAnyH_one 21 _ (by kernel_rfl) rfl fun K hK => ?_
    go_simp
    refine hK _ _ S5.out ?_
    clear hK K
    refine wpAnyH_done (by kernel_rfl) ?_ _
    go_wp2_with fail
    go_ret
    exact ⟨rfl, b5.out⟩
  · skip
    rw [show mayP a0 = false by simpa using hm] at CM
    clear hm HM
    go_enter Tryz.func6, Tryz.ntmps6
    go_wp2_with (first
      | ((with_reducible show wpList _ _ _ (⟨some 2, _, _, _, _, _⟩ :: _) _ _); refine wpList_box_blk rfl _ (.tmp 0) rfl cs rfl ?_; intro g v1 hg1 hg2 B1 L1)
      | ((with_reducible show wpList _ _ _ (⟨some 6, _, _, _, _, _⟩ :: _) _ _); refine wpList_load_blk rfl _ (.tmp 2) rfl g rfl _ cs B1 26 _ Tryz.underlying28 rfl size_hd HL ?_)
      | fail)
    refine (CA.out v1).mono ?_
    rintro e v2 ⟨rfl, L2⟩
    have B2 := Lib.hid (B1.out.over L2)
    have M2 := Lib.hid (step L1.out L2)
    clear L2 B1 L1 CA
    go_upto_region 22 with (first
      | ((with_reducible show wpList _ _ _ (⟨some 5, _, _, _, _, _⟩ :: _) _ _); refine wpList_alloc_blk rfl _ rfl zs _ ZH ?_; intro g5 v3 hg5 hg6 X3 L3)
      | ((with_reducible show wpList _ _ _ (⟨none, .store _ (.tmp 5) _, _, _, _, _⟩ :: _) _ _); refine wpList_store_blk rfl _ (.tmp 5) (.tmp 8) rfl g5 rfl _ zs xs rfl X3 26 size_hd HZ HX HXO ?_; intro v4 X4 O4 hg7; have L4 := Lib.hid (below_only L3.out O4.out hg5); have M4 := Lib.hid (step M2.out L4.out); have B4 := Lib.hid (B2.out.over L4.out))
      | fail)
    clear X3 L3 O4 L4 M2 B2
    refine wp_region_held (S := fun w' => Blk w' g 28 cs ∧ Blk w' g5 28 xs) (by kernel_rfl) ?_
    change wpAnyH _ _ _ _ _ _ _ _ v4.drew
    have S0 : Hid (Blk v4.drew g 28 cs ∧ Blk v4.drew g5 28 xs) := ⟨B4.out.drew, X4.out.drew⟩
    have b0 : Hid (Below W.heap.size W v4.drew) := M4.out.drew
    refine wpAnyH_take (i := 0) (v := _) rfl (by kernel_rfl) (by kernel_rfl) (by kernel_rfl) (fun _ _ _ h => h) (yieldsIf_load_blk (by kernel_rfl) _ (.tmp 5) rfl g5 (by kernel_rfl) _ xs (fun _ h => h.2) 26 _ Tryz.underlying28 rfl size_hd HX) S0.out ?_
    refine wpAnyH_take (i := 1) (v := _) rfl (by kernel_rfl) (by kernel_rfl) (by kernel_rfl) (fun _ _ _ h => h) (yieldsIf_load_blk (by kernel_rfl) _ (.tmp 2) rfl g (by kernel_rfl) _ cs (fun _ h => h.1) 26 _ Tryz.underlying28 rfl size_hd HL) S0.out ?_
    refine wpAnyH_take (i := 2) (v := _) rfl (by kernel_rfl) (by kernel_rfl) (by kernel_rfl) (fun _ _ _ h => h) (yieldsIf_move (by kernel_rfl) (.tmp 1) rfl (.int .i64 a1) (by kernel_rfl)) S0.out ?_
    refine wpAnyH_one 3 _ (by kernel_rfl) rfl fun K hK => ?_
    go_simp
    refine (CB.out _).mono ?_
    rintro e v1 ⟨rfl, b⟩
    have S1 : Hid (Blk v1 g 28 cs ∧ Blk v1 g5 28 xs) := ⟨S0.out.1.over b, S0.out.2.over b⟩
    have b1 : Hid (Below W.heap.size W v1) := Lib.hid (step b0.out b)
    refine hK _ _ S1.out ?_
    clear hK K b
    refine wpAnyH_one 4 _ (by kernel_rfl) rfl fun K hK => ?_
    go_simp
    refine hK _ _ S1.out ?_
    clear hK K
    refine wpAnyH_one 5 _ (by kernel_rfl) rfl fun K hK => ?_
    go_simp
    refine hK _ _ S1.out ?_
    clear hK K
    refine wpAnyH_take (i := 6) (v := _) rfl (by kernel_rfl) (by kernel_rfl) (by kernel_rfl) (fun _ _ _ h => h) (yieldsIf_load_blk (by kernel_rfl) _ (.tmp 2) rfl g (by kernel_rfl) _ cs (fun _ h => h.1) 26 _ Tryz.underlying28 rfl size_hd HL) S1.out ?_
    refine wpAnyH_one 7 _ (by kernel_rfl) rfl fun K hK => ?_
    go_simp
    refine (CM.out _).mono ?_
    rintro e v2 ⟨rfl, b⟩
    have S2 : Hid (Blk v2 g 28 cs ∧ Blk v2 g5 28 xs) := ⟨S1.out.1.over b, S1.out.2.over b⟩
    have b2 : Hid (Below W.heap.size W v2) := Lib.hid (step b1.out b)
    refine hK _ _ S2.out ?_
    clear hK K b
    refine wpAnyH_one 8 _ (by kernel_rfl) rfl fun K hK => ?_
    go_simp
    refine hK _ _ S2.out ?_
    clear hK K
    refine wpAnyH_one 9 _ (by kernel_rfl) rfl fun K hK => ?_
    go_simp
    refine hK _ _ S2.out ?_
    clear hK K
    refine wpAnyH_one 10 _ (by kernel_rfl) rfl fun K hK => ?_
    go_simp
    refine hK _ _ S2.out ?_
    clear hK K
    refine wpAnyH_one 11 _ (by kernel_rfl) rfl fun K hK => ?_
    go_simp
    refine hK _ _ S2.out ?_
    clear hK K
    refine wpAnyH_one 12 _ (by kernel_rfl) rfl fun K hK => ?_
    go_simp
    refine hK _ _ S2.out ?_
    clear hK K
    refine wpAnyH_one 13 _ (by kernel_rfl) rfl fun K hK => ?_
    go_simp
    refine hK _ _ S2.out ?_
    clear hK K
    refine wpAnyH_one 14 _ (by kernel_rfl) rfl fun K hK => ?_
    go_simp
    refine hK _ _ S2.out ?_
    clear hK K
    refine wpAnyH_take (i := 15) (v := _) rfl (by kernel_rfl) (by kernel_rfl) (by kernel_rfl) (fun _ _ _ h => h) (yieldsIf_load_blk (by kernel_rfl) _ (.tmp 5) rfl g5 (by kernel_rfl) _ xs (fun _ h => h.2) 26 _ Tryz.underlying28 rfl size_hd HX) S2.out ?_
    refine wpAnyH_one 16 _ (by kernel_rfl) rfl fun K hK => ?_
    go_simp
    refine (CR.out _).mono ?_
    rintro e v3 ⟨rfl, b⟩
    have S3 : Hid (Blk v3 g 28 cs ∧ Blk v3 g5 28 xs) := ⟨S2.out.1.over b, S2.out.2.over b⟩
    have b3 : Hid (Below W.heap.size W v3) := Lib.hid (step b2.out b)
    refine hK _ _ S3.out ?_
    clear hK K b
    refine wpAnyH_one 17 _ (by kernel_rfl) rfl fun K hK => ?_
    go_simp
    refine hK _ _ S3.out ?_
    clear hK K
    refine wpAnyH_one 18 _ (by kernel_rfl) rfl fun K hK => ?_
    go_simp
    refine hK _ _ S3.out ?_
    clear hK K
    refine wpAnyH_one 19 _ (by kernel_rfl) rfl fun K hK => ?_
    go_simp
    refine (CL.out _ b3.out).mono ?_
    rintro e v4 ⟨rfl, b⟩
    have S4 : Hid (Blk v4 g 28 cs ∧ Blk v4 g5 28 xs) := ⟨S3.out.1.over b, S3.out.2.over b⟩
    have b4 : Hid (Below W.heap.size W v4) := Lib.hid (step b3.out b)
    refine hK _ _ S4.out ?_
    clear hK K b
    refine wpAnyH_one 20 _ (by kernel_rfl) rfl fun K hK => ?_
    go_simp
    refine hK _ _ S4.out ?_
    clear hK K
    refine wpAnyH_one 21 _ (by kernel_rfl) rfl fun K hK => ?_
    go_simp
    refine hK _ _ S4.out ?_
    clear hK K
    refine wpAnyH_done (by kernel_rfl) ?_ _
    go_wp2_with fail
    go_ret
    exact ⟨rfl, b4.out⟩
end Go.Proofs.YtpodpmckdiijhaaGreatDoor

namespace Go.Proofs.YtpodpmckdiijhaaGreatDoor
set_option linter.all false
open Go.RowKit Go.Shelf
theorem first_data : (Rows.laid_unicode_utf8_first : DataW Unit) = Lib.firstData := by kernel_rfl
theorem accept_data : (Rows.laid_unicode_utf8_acceptRanges : DataW Unit) = Lib.acceptData := by kernel_rfl
theorem tabs_of_laid {W : World} (hL : laidMetH Tryz.prog [("unicode/utf8.acceptRanges", Rows.laid_unicode_utf8_acceptRanges), ("unicode/utf8.first", Rows.laid_unicode_utf8_first)] W) : Tabs W := by
  rw [first_data, accept_data] at hL
  exact utf8Tabs_of_readsT (U8Types.of196 Tryz.lays196) ⟨by kernel_rfl, by kernel_rfl, by kernel_rfl, by kernel_rfl, by kernel_rfl, by kernel_rfl, by kernel_rfl⟩ (Lib.laidMet.reads hL (.tail _ (.head _))) (Lib.laidMet.reads hL (.head _))
/-- A WORLD FOR THE WITNESS: the settled one, the two variables holding what their initialisers lay. -/
noncomputable def laidWorld (os : Os) : World :=
  let w0 := World.holding Tryz.prog os ⟨#[], #[], []⟩
  let put (h : Array Obj) (g : Nat) (cs : Array Value) : Array Obj := h.modify g fun
    | .cells _ t frozen => .cells cs t frozen
    | o => o
  let h1 := put w0.heap 0 (Lib.firstTab.map fun z => Value.int .u8 z).toArray
  let h2 := put h1 1 ((List.range 16).flatMap fun i => [Value.int .u8 (Lib.accLo i), Value.int .u8 (Lib.accHi i)]).toArray
  { w0 with heap := h2 }
theorem laid_met (os : Os) (args : Array Value) : laidMet Tryz.prog [("unicode/utf8.acceptRanges", Rows.laid_unicode_utf8_acceptRanges), ("unicode/utf8.first", Rows.laid_unicode_utf8_first)] ((laidWorld os).forCall (fun _ _ => 0) ⟨#[], args, []⟩).memory :=
  laidMet_of_run' 8 (by kernel_rfl) (by kernel_rfl)
end Go.Proofs.YtpodpmckdiijhaaGreatDoor
