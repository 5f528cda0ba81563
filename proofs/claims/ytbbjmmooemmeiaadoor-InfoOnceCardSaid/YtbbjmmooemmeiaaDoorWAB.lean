import Derived.WalkKit
import Derived.Deep.Draws
import Derived.Laws.Rows
import Derived.Laws.OwnMore
import Derived.Test.YtbbjmmooemmeiaaDoorRows
import Derived.Laws.CopyOwn
import Derived.Laws.AppendOwnNone
import Derived.Lib.Hide
import Derived.Laws.AppendOwn
import Derived.OwnWalk
import Derived.Lib.OthersKept
import Derived.Laws.BytesArg
import Derived.Laws.Tables
import Derived.Laws.NewFold
import Derived.Deep.WholeRow
import Derived.Deep.DeepCutAuto
import Derived.OneCell
import Derived.ProofKit
import Derived.OpenShut
import Derived.ShutString
import Derived.SizedLaws
import Derived.ChangeOld
import Derived.Deep.Strs
import Derived.Deep.MidRow
import Derived.Great.Walk
import Derived.OrdersHeld
import Derived.Laws.StructEq
import Derived.ChangeKeysEq
import Derived.Laws.Bits64
import Derived.Laws.BitsAllLaws
import Derived.WalkSpells
import Derived.WalkLawsBesides
import Derived.Deep.QuietTactic
import Derived.BigQuiet
import Derived.Lib.RuneBytes
import Derived.Lib.ValidLaws
import Derived.Shelf.Utf8.AppendRunePlain
import Derived.Shelf.Unicode.ValidAny
import Derived.Test.YtbbjmmooemmeiaaDoorProg
import Derived.Deep.RegionLaw
import Derived.Lib.AppendZeros
import Derived.Deep.RegionWith
import Derived.Deep.OwnRows
import Derived.Test.YtbbjmmooemmeiaaDoorWAA
namespace Go.Proofs.YtbbjmmooemmeiaaDoor
set_option linter.all false
open Go.RowKit
set_option linter.unusedVariables false
set_option maxRecDepth 100000
theorem built_guid : Tryd.prog.built 25 [] = some ((List.replicate 16 (0 : Int)).map (Value.int .u8)).toArray := by kernel_rfl
theorem built_proof : Tryd.prog.built 26 [] = some ((List.replicate 32 (0 : Int)).map (Value.int .u8)).toArray := by kernel_rfl
theorem zeroAsk_iff (a : AskV) : a = zeroAsk ↔ a.dial = [] ∧ a.data = [] ∧ a.locks = [] ∧ a.guid = List.replicate 16 0 ∧ a.proof = List.replicate 32 0 ∧ a.user = .empty ∧ a.share = .empty ∧ a.name = .empty ∧ a.pat = .empty ∧ a.aft = .empty ∧ a.acc = 0 ∧ a.shr = 0 ∧ a.way = 0 ∧ a.opt = 0 ∧ a.lev = 0 ∧ a.dur = 0 ∧ a.file = 0 ∧ a.at_ = 0 ∧ a.n = 0 ∧ a.most = 0 ∧ a.cls = 0 ∧ a.siz = 0 ∧ a.on = false := by
  constructor
  · rintro rfl
    exact ⟨rfl, rfl, rfl, rfl, rfl, rfl, rfl, rfl, rfl, rfl, rfl, rfl, rfl, rfl, rfl, rfl, rfl, rfl, rfl, rfl, rfl, rfl, rfl⟩
  · rintro ⟨h_dial, h_data, h_locks, h_guid, h_proof, h_user, h_share, h_name, h_pat, h_aft, h_acc, h_shr, h_way, h_opt, h_lev, h_dur, h_file, h_at_, h_n, h_most, h_cls, h_siz, h_on⟩
    cases a
    simp only at h_dial h_data h_locks h_guid h_proof h_user h_share h_name h_pat h_aft h_acc h_shr h_way h_opt h_lev h_dur h_file h_at_ h_n h_most h_cls h_siz h_on
    subst h_dial h_data h_locks h_guid h_proof h_user h_share h_name h_pat h_aft h_acc h_shr h_way h_opt h_lev h_dur h_file h_at_ h_n h_most h_cls h_siz h_on
    rfl
theorem fld_isZeroAsk_0 (g : Nat) (w : World) : (Instr.fieldAt 32 (.pointer (some ⟨g, 0, none⟩)) 0).run Tryd.prog w = .ok (.pointer (some ⟨g, 0, none⟩)) w := by go_simp
theorem fld_isZeroAsk_1 (g : Nat) (w : World) : (Instr.fieldAt 32 (.pointer (some ⟨g, 0, none⟩)) 1).run Tryd.prog w = .ok (.pointer (some ⟨g, 1, none⟩)) w := by go_simp
theorem fld_isZeroAsk_2 (g : Nat) (w : World) : (Instr.fieldAt 32 (.pointer (some ⟨g, 0, none⟩)) 2).run Tryd.prog w = .ok (.pointer (some ⟨g, 17, none⟩)) w := by go_simp
theorem fld_isZeroAsk_3 (g : Nat) (w : World) : (Instr.fieldAt 32 (.pointer (some ⟨g, 0, none⟩)) 3).run Tryd.prog w = .ok (.pointer (some ⟨g, 49, none⟩)) w := by go_simp
theorem fld_isZeroAsk_4 (g : Nat) (w : World) : (Instr.fieldAt 32 (.pointer (some ⟨g, 0, none⟩)) 4).run Tryd.prog w = .ok (.pointer (some ⟨g, 50, none⟩)) w := by go_simp
theorem fld_isZeroAsk_5 (g : Nat) (w : World) : (Instr.fieldAt 32 (.pointer (some ⟨g, 0, none⟩)) 5).run Tryd.prog w = .ok (.pointer (some ⟨g, 51, none⟩)) w := by go_simp
theorem fld_isZeroAsk_6 (g : Nat) (w : World) : (Instr.fieldAt 32 (.pointer (some ⟨g, 0, none⟩)) 6).run Tryd.prog w = .ok (.pointer (some ⟨g, 52, none⟩)) w := by go_simp
theorem fld_isZeroAsk_7 (g : Nat) (w : World) : (Instr.fieldAt 32 (.pointer (some ⟨g, 0, none⟩)) 7).run Tryd.prog w = .ok (.pointer (some ⟨g, 53, none⟩)) w := by go_simp
theorem fld_isZeroAsk_8 (g : Nat) (w : World) : (Instr.fieldAt 32 (.pointer (some ⟨g, 0, none⟩)) 8).run Tryd.prog w = .ok (.pointer (some ⟨g, 54, none⟩)) w := by go_simp
theorem fld_isZeroAsk_9 (g : Nat) (w : World) : (Instr.fieldAt 32 (.pointer (some ⟨g, 0, none⟩)) 9).run Tryd.prog w = .ok (.pointer (some ⟨g, 55, none⟩)) w := by go_simp
theorem fld_isZeroAsk_10 (g : Nat) (w : World) : (Instr.fieldAt 32 (.pointer (some ⟨g, 0, none⟩)) 10).run Tryd.prog w = .ok (.pointer (some ⟨g, 56, none⟩)) w := by go_simp
theorem fld_isZeroAsk_11 (g : Nat) (w : World) : (Instr.fieldAt 32 (.pointer (some ⟨g, 0, none⟩)) 11).run Tryd.prog w = .ok (.pointer (some ⟨g, 57, none⟩)) w := by go_simp
theorem fld_isZeroAsk_12 (g : Nat) (w : World) : (Instr.fieldAt 32 (.pointer (some ⟨g, 0, none⟩)) 12).run Tryd.prog w = .ok (.pointer (some ⟨g, 58, none⟩)) w := by go_simp
theorem fld_isZeroAsk_13 (g : Nat) (w : World) : (Instr.fieldAt 32 (.pointer (some ⟨g, 0, none⟩)) 13).run Tryd.prog w = .ok (.pointer (some ⟨g, 59, none⟩)) w := by go_simp
theorem fld_isZeroAsk_14 (g : Nat) (w : World) : (Instr.fieldAt 32 (.pointer (some ⟨g, 0, none⟩)) 14).run Tryd.prog w = .ok (.pointer (some ⟨g, 60, none⟩)) w := by go_simp
theorem fld_isZeroAsk_15 (g : Nat) (w : World) : (Instr.fieldAt 32 (.pointer (some ⟨g, 0, none⟩)) 15).run Tryd.prog w = .ok (.pointer (some ⟨g, 61, none⟩)) w := by go_simp
theorem fld_isZeroAsk_16 (g : Nat) (w : World) : (Instr.fieldAt 32 (.pointer (some ⟨g, 0, none⟩)) 16).run Tryd.prog w = .ok (.pointer (some ⟨g, 62, none⟩)) w := by go_simp
theorem fld_isZeroAsk_17 (g : Nat) (w : World) : (Instr.fieldAt 32 (.pointer (some ⟨g, 0, none⟩)) 17).run Tryd.prog w = .ok (.pointer (some ⟨g, 63, none⟩)) w := by go_simp
theorem fld_isZeroAsk_18 (g : Nat) (w : World) : (Instr.fieldAt 32 (.pointer (some ⟨g, 0, none⟩)) 18).run Tryd.prog w = .ok (.pointer (some ⟨g, 64, none⟩)) w := by go_simp
theorem fld_isZeroAsk_19 (g : Nat) (w : World) : (Instr.fieldAt 32 (.pointer (some ⟨g, 0, none⟩)) 19).run Tryd.prog w = .ok (.pointer (some ⟨g, 65, none⟩)) w := by go_simp
theorem fld_isZeroAsk_20 (g : Nat) (w : World) : (Instr.fieldAt 32 (.pointer (some ⟨g, 0, none⟩)) 20).run Tryd.prog w = .ok (.pointer (some ⟨g, 66, none⟩)) w := by go_simp
theorem fld_isZeroAsk_21 (g : Nat) (w : World) : (Instr.fieldAt 32 (.pointer (some ⟨g, 0, none⟩)) 21).run Tryd.prog w = .ok (.pointer (some ⟨g, 67, none⟩)) w := by go_simp
theorem fld_isZeroAsk_22 (g : Nat) (w : World) : (Instr.fieldAt 32 (.pointer (some ⟨g, 0, none⟩)) 22).run Tryd.prog w = .ok (.pointer (some ⟨g, 68, none⟩)) w := by go_simp
theorem load_mid_run {w : World} {g off : Nat} {cs : List Value} {ty : TypeId} {d : TypeDesc} (hc : w.rangeAt g off cs) (hu : Tryd.prog.underlying ty = some d) (hd : d.isRow = true) (hs : (Tryd.prog.info? ty).map (·.size) = some cs.length) :
    (Instr.loadAt ty (.pointer (some ⟨g, off, none⟩))).run Tryd.prog w = .ok (.agg cs.toArray) w := by
  have := run_loadVar_mid (P := Tryd.prog) w g off ty cs d hc hu hd hs
  simpa [Instr.loadAt, Instr.sureAddr, Sem.run_bind, Result.andThen_ok] using this
theorem bytes_isEmpty (s : ByteArray) : s.toList.isEmpty = decide (s = .empty) := by
  rw [ByteArray.toList_eq]
  obtain ⟨⟨l⟩⟩ := s
  cases l with
  | nil => exact (decide_eq_true rfl).symm
  | cons x l => rw [decide_eq_false (fun h => by injection h with h; injection h with h; cases h)]; rfl
theorem build_run {a : Act} {w : World} {T : TypeId} {o : Oper} {ys : Array Value} (ho : o.op = .build T #[]) (hf : Tryd.prog.built T [] = some ys) : (execOp a.eval o).run Tryd.prog w = .ok (.value (.agg ys)) w := by
  obtain ⟨cs, rfl⟩ : ∃ cs : List Value, ys = cs.toArray := ⟨ys.toList, by simp⟩
  have h := yieldsIf_build_blk (P := Tryd.prog) (ops := #[]) (S := fun _ => True) (op := { o with guard := none }) (a := a) (by simp [Region.wanted]) T #[] ho cs (by simpa using hf)
  rcases h with ⟨_, h⟩ | ⟨h, _⟩
  · exact h w trivial
  · simp [Region.wanted] at h
theorem eval_getD {a : Act} {t : Nat} {v : Value} (h : a.eval (.tmp t) = v) : a.tmps[t]?.getD undef = v := by rw [← h]; simp [Act.eval]
set_option maxHeartbeats 4000000 in
theorem isZeroAsk_any (w : World) (cs : List Value) (a : AskV) (ka : a.ok) (ha : AskIs w w.heap.size cs a) :
    Calls Tryd.prog 78 #[.agg cs.toArray] w fun e w' => e = .returned (.bool (decide (a = zeroAsk))) ∧ Below w.heap.size w w' := by
  have HL := Lib.hid (ha.len ka)
  obtain ⟨D1, D2, D3, X1, X2, X3, M1, M2, M3, rfl, h_D, h_X, h_M⟩ := ha
  have l_D := h_D.len
  have l_X := h_X.len
  have l_M := h_M.len
  have HT : Hid ((((((((((((((((((((((((a.dial.length == 0) && (a.data.length == 0)) && (a.locks.length == 0)) && (decide (a.guid = List.replicate 16 0))) && (decide (a.proof = List.replicate 32 0))) && (decide (a.user = .empty))) && (decide (a.share = .empty))) && (decide (a.name = .empty))) && (decide (a.pat = .empty))) && (decide (a.aft = .empty))) && (a.acc == 0)) && (a.shr == 0)) && (a.way == 0)) && (a.opt == 0)) && (a.lev == 0)) && (a.dur == 0)) && (a.file == 0)) && (a.at_ == 0)) && (a.n == 0)) && (a.most == 0)) && (a.cls == 0)) && (a.siz == 0)) && (!a.on)) = decide (a = zeroAsk)) := by
    show _ = _
    rw [Bool.eq_iff_iff, decide_eq_true_iff, zeroAsk_iff]
    simp only [Bool.and_eq_true, beq_iff_eq, decide_eq_true_iff, Bool.not_eq_true', List.length_eq_zero_iff, and_assoc]
  have FA : Hid (∀ (w : World) (g : Nat), Blk w g 32 (acells (.slice D1 D2 D3) (.slice X1 X2 X3) (.slice M1 M2 M3) a) → w.cell? ⟨g, 0, none⟩ = some (.slice D1 D2 D3) ∧ w.cell? ⟨g, 49, none⟩ = some (.string a.user) ∧ w.cell? ⟨g, 50, none⟩ = some (.string a.share) ∧ w.cell? ⟨g, 51, none⟩ = some (.int .u32 a.acc) ∧ w.cell? ⟨g, 52, none⟩ = some (.int .u32 a.shr) ∧ w.cell? ⟨g, 53, none⟩ = some (.int .u32 a.way) ∧ w.cell? ⟨g, 54, none⟩ = some (.int .u32 a.opt) ∧ w.cell? ⟨g, 55, none⟩ = some (.int .u8 a.lev) ∧ w.cell? ⟨g, 56, none⟩ = some (.int .u8 a.dur) ∧ w.cell? ⟨g, 57, none⟩ = some (.int .u64 a.file) ∧ w.cell? ⟨g, 58, none⟩ = some (.string a.name) ∧ w.cell? ⟨g, 59, none⟩ = some (.int .u64 a.at_) ∧ w.cell? ⟨g, 60, none⟩ = some (.int .u32 a.n) ∧ w.cell? ⟨g, 61, none⟩ = some (.slice X1 X2 X3) ∧ w.cell? ⟨g, 62, none⟩ = some (.slice M1 M2 M3) ∧ w.cell? ⟨g, 63, none⟩ = some (.int .u16 a.most) ∧ w.cell? ⟨g, 64, none⟩ = some (.string a.pat) ∧ w.cell? ⟨g, 65, none⟩ = some (.string a.aft) ∧ w.cell? ⟨g, 66, none⟩ = some (.int .u16 a.cls) ∧ w.cell? ⟨g, 67, none⟩ = some (.int .u64 a.siz) ∧ w.cell? ⟨g, 68, none⟩ = some (.bool a.on)) := fun w g h =>
    ⟨h.at rfl, h.at (acells_get ka 0), h.at (acells_get ka 1), h.at (acells_get ka 2), h.at (acells_get ka 3), h.at (acells_get ka 4), h.at (acells_get ka 5), h.at (acells_get ka 6), h.at (acells_get ka 7), h.at (acells_get ka 8), h.at (acells_get ka 9), h.at (acells_get ka 10), h.at (acells_get ka 11), h.at (acells_get ka 12), h.at (acells_get ka 13), h.at (acells_get ka 14), h.at (acells_get ka 15), h.at (acells_get ka 16), h.at (acells_get ka 17), h.at (acells_get ka 18), h.at (acells_get ka 19)⟩
  have R_guid : Hid (∀ (w : World) (g : Nat), Blk w g 32 (acells (.slice D1 D2 D3) (.slice X1 X2 X3) (.slice M1 M2 M3) a) → w.rangeAt g 1 (a.guid.map (Value.int .u8))) := fun w g h => acells_guid h ka
  have N_guid : Hid ((a.guid.map (Value.int .u8)).length = 16) := by show _ = _; rw [List.length_map]; exact ka.glen
  have q_guid : ∀ w : World, (Op.equalIn 10000 25 (.agg (a.guid.map (Value.int .u8)).toArray) (.agg ((List.replicate 16 (0 : Int)).map (Value.int .u8)).toArray)).run Tryd.prog w = .ok (decide (a.guid = List.replicate 16 0)) w := fun w => run_equalIn_arr3 Tryd.underlying25 Tryd.underlying5 size_u8e _ _ ka.glen (by simp) _ w
  have R_proof : Hid (∀ (w : World) (g : Nat), Blk w g 32 (acells (.slice D1 D2 D3) (.slice X1 X2 X3) (.slice M1 M2 M3) a) → w.rangeAt g 17 (a.proof.map (Value.int .u8))) := fun w g h => acells_proof h ka
  have N_proof : Hid ((a.proof.map (Value.int .u8)).length = 32) := by show _ = _; rw [List.length_map]; exact ka.plen
  have q_proof : ∀ w : World, (Op.equalIn 10000 26 (.agg (a.proof.map (Value.int .u8)).toArray) (.agg ((List.replicate 32 (0 : Int)).map (Value.int .u8)).toArray)).run Tryd.prog w = .ok (decide (a.proof = List.replicate 32 0)) w := fun w => run_equalIn_arr3 Tryd.underlying26 Tryd.underlying5 size_u8e _ _ ka.plen (by simp) _ w
  obtain ⟨z_dial, k_dial⟩ : ∃ z, (a.dial.length == 0) = z := ⟨_, rfl⟩
  obtain ⟨z_data, k_data⟩ : ∃ z, (a.data.length == 0) = z := ⟨_, rfl⟩
  obtain ⟨z_locks, k_locks⟩ : ∃ z, (a.locks.length == 0) = z := ⟨_, rfl⟩
  obtain ⟨z_guid, k_guid⟩ : ∃ z, (decide (a.guid = List.replicate 16 0)) = z := ⟨_, rfl⟩
  obtain ⟨z_proof, k_proof⟩ : ∃ z, (decide (a.proof = List.replicate 32 0)) = z := ⟨_, rfl⟩
  obtain ⟨z_user, k_user⟩ : ∃ z, (decide (a.user = .empty)) = z := ⟨_, rfl⟩
  obtain ⟨z_share, k_share⟩ : ∃ z, (decide (a.share = .empty)) = z := ⟨_, rfl⟩
  obtain ⟨z_name, k_name⟩ : ∃ z, (decide (a.name = .empty)) = z := ⟨_, rfl⟩
  obtain ⟨z_pat, k_pat⟩ : ∃ z, (decide (a.pat = .empty)) = z := ⟨_, rfl⟩
  obtain ⟨z_aft, k_aft⟩ : ∃ z, (decide (a.aft = .empty)) = z := ⟨_, rfl⟩
  obtain ⟨z_acc, k_acc⟩ : ∃ z, (a.acc == 0) = z := ⟨_, rfl⟩
  obtain ⟨z_shr, k_shr⟩ : ∃ z, (a.shr == 0) = z := ⟨_, rfl⟩
  obtain ⟨z_way, k_way⟩ : ∃ z, (a.way == 0) = z := ⟨_, rfl⟩
  obtain ⟨z_opt, k_opt⟩ : ∃ z, (a.opt == 0) = z := ⟨_, rfl⟩
  obtain ⟨z_lev, k_lev⟩ : ∃ z, (a.lev == 0) = z := ⟨_, rfl⟩
  obtain ⟨z_dur, k_dur⟩ : ∃ z, (a.dur == 0) = z := ⟨_, rfl⟩
  obtain ⟨z_file, k_file⟩ : ∃ z, (a.file == 0) = z := ⟨_, rfl⟩
  obtain ⟨z_at_, k_at_⟩ : ∃ z, (a.at_ == 0) = z := ⟨_, rfl⟩
  obtain ⟨z_n, k_n⟩ : ∃ z, (a.n == 0) = z := ⟨_, rfl⟩
  obtain ⟨z_most, k_most⟩ : ∃ z, (a.most == 0) = z := ⟨_, rfl⟩
  obtain ⟨z_cls, k_cls⟩ : ∃ z, (a.cls == 0) = z := ⟨_, rfl⟩
  obtain ⟨z_siz, k_siz⟩ : ∃ z, (a.siz == 0) = z := ⟨_, rfl⟩
  obtain ⟨z_on, k_on⟩ : ∃ z, (!a.on) = z := ⟨_, rfl⟩
  rw [k_dial, k_data, k_locks, k_guid, k_proof, k_user, k_share, k_name, k_pat, k_aft, k_acc, k_shr, k_way, k_opt, k_lev, k_dur, k_file, k_at_, k_n, k_most, k_cls, k_siz, k_on] at HT
  rw [l_D] at k_dial
  have kk_dial : ((D2 : Int) == 0) = z_dial := by rw [← k_dial]; rw [Bool.eq_iff_iff]; simp
  rw [l_X] at k_data
  have kk_data : ((X2 : Int) == 0) = z_data := by rw [← k_data]; rw [Bool.eq_iff_iff]; simp
  rw [l_M] at k_locks
  have kk_locks : ((M2 : Int) == 0) = z_locks := by rw [← k_locks]; rw [Bool.eq_iff_iff]; simp
  rw [k_guid] at q_guid
  obtain ⟨y_guid, hy⟩ : ∃ y, y = ((List.replicate 16 (0 : Int)).map (Value.int .u8)).toArray := ⟨_, rfl⟩
  rw [← hy] at q_guid
  have bt_guid : Tryd.prog.built 25 [] = some y_guid := by rw [hy]; exact built_guid
  clear hy
  rw [k_proof] at q_proof
  obtain ⟨y_proof, hy⟩ : ∃ y, y = ((List.replicate 32 (0 : Int)).map (Value.int .u8)).toArray := ⟨_, rfl⟩
  rw [← hy] at q_proof
  have bt_proof : Tryd.prog.built 26 [] = some y_proof := by rw [hy]; exact built_proof
  clear hy
  have kk_user : a.user.toList.isEmpty = z_user := by rw [← k_user]; exact bytes_isEmpty _
  have kk_share : a.share.toList.isEmpty = z_share := by rw [← k_share]; exact bytes_isEmpty _
  have kk_name : a.name.toList.isEmpty = z_name := by rw [← k_name]; exact bytes_isEmpty _
  have kk_pat : a.pat.toList.isEmpty = z_pat := by rw [← k_pat]; exact bytes_isEmpty _
  have kk_aft : a.aft.toList.isEmpty = z_aft := by rw [← k_aft]; exact bytes_isEmpty _
  obtain ⟨r, hr⟩ : ∃ r, r = decide (a = zeroAsk) := ⟨_, rfl⟩
  rw [← hr] at HT ⊢
  obtain ⟨cs, hcs⟩ : ∃ c, c = acells (.slice D1 D2 D3) (.slice X1 X2 X3) (.slice M1 M2 M3) a := ⟨_, rfl⟩
  rw [← hcs] at FA HL R_guid R_proof ⊢
  clear hr hcs h_D h_X h_M
  go_enter Tryd.func78, Tryd.ntmps78
  go_upto_region 1 with (first
    | ((with_reducible show wpList _ _ _ (⟨some 1, _, _, _, _, _⟩ :: _) _ _); refine wpList_box_blk rfl _ (.tmp 0) rfl cs rfl ?_; intro g w1 hg1 hg2 K1 L1)
    | fail)
  rename_i hret
  simp only [List.append_eq, List.cons_append, List.nil_append]
  refine wp_region_lit ?_
  have HK := K1
  obtain ⟨c_dial, c_user, c_share, c_acc, c_shr, c_way, c_opt, c_lev, c_dur, c_file, c_name, c_at_, c_n, c_data, c_locks, c_most, c_pat, c_aft, c_cls, c_siz, c_on⟩ := FA.out _ _ K1.out
  have r_guid := R_guid.out _ _ K1.out
  have r_proof := R_proof.out _ _ K1.out
  refine wpList_abs (N := 121) (x0 := 1) (pv := .pointer (some ⟨g, 0, none⟩)) ⟨rfl, rfl, rfl⟩ fun a0 F0 => ?_
  refine head_load (v := (.slice D1 D2 D3)) (f := 3) (l := 4) (i := 0) (off := 0) (g := g) ⟨rfl, rfl, rfl⟩ ⟨rfl, rfl, rfl⟩ (by decide) (fld_isZeroAsk_0 g) (load_one c_dial _ Tryd.underlying24 rfl) a0 F0 fun a1 F1 e1 => ?_
  refine head_next (e := 5) (u := .int .i64 (D2 : Int)) ⟨rfl, rfl⟩ (by decide) a1 F1 (by have e' := eval_getD e1; go_simp) fun a2 F2 e2 => ?_
  refine head_next (e := 6) (u := .bool z_dial) ⟨rfl, rfl⟩ (by decide) a2 F2 (by have e' := eval_getD e2; go_simp) fun b0 G0 h0 => ?_
  clear F0 F1 F2 e1 e2
  refine chain (gi := 4) (p := 6) (m := 7) (e := 11) (q := 12) (t := z_data) (mids := [_, _, _, _]) rfl ⟨rfl, rfl, rfl⟩ ⟨rfl, rfl, rfl⟩ (by decide) G0 h0 (by
    intro o ho
    simp only [List.mem_cons, List.not_mem_nil, or_false] at ho
    rcases ho with rfl | rfl | rfl | rfl
    all_goals exact ⟨rfl, _, rfl, by decide, by decide⟩) (fun a1 F1 m1 hk => ?_) fun b1 G1 h1 => ?_
  · refine mids_load (v := (.slice X1 X2 X3)) (f := 8) (l := 9) (i := 15) (off := 61) (g := g) (tail := _) (gi := 4) (m := 7) rfl ⟨rfl, rfl, rfl⟩ ⟨rfl, rfl, rfl⟩ (by decide) (fld_isZeroAsk_15 g) (load_one c_data _ Tryd.underlying29 rfl) a1 F1 m1 fun a2 F2 m2 e2 => ?_
    refine mids_next (l := 0) (e := 10) (u := .int .i64 (X2 : Int)) (gi := 4) (m := 7) rfl ⟨rfl, rfl⟩ (by decide) a2 F2 m2 (by have e' := eval_getD e2; go_simp) fun a3 F3 m3 e3 _ => ?_
    refine mids_next (l := 0) (e := 11) (u := .bool z_data) (gi := 4) (m := 7) rfl ⟨rfl, rfl⟩ (by decide) a3 F3 m3 (by have e' := eval_getD e3; go_simp) fun a4 F4 m4 e4 _ => ?_
    exact hk a4 F4 m4 e4
  refine chain (gi := 10) (p := 12) (m := 13) (e := 17) (q := 18) (t := z_locks) (mids := [_, _, _, _]) rfl ⟨rfl, rfl, rfl⟩ ⟨rfl, rfl, rfl⟩ (by decide) G1 h1 (by
    intro o ho
    simp only [List.mem_cons, List.not_mem_nil, or_false] at ho
    rcases ho with rfl | rfl | rfl | rfl
    all_goals exact ⟨rfl, _, rfl, by decide, by decide⟩) (fun a1 F1 m1 hk => ?_) fun b2 G2 h2 => ?_
  · refine mids_load (v := (.slice M1 M2 M3)) (f := 14) (l := 15) (i := 16) (off := 62) (g := g) (tail := _) (gi := 10) (m := 13) rfl ⟨rfl, rfl, rfl⟩ ⟨rfl, rfl, rfl⟩ (by decide) (fld_isZeroAsk_16 g) (load_one c_locks _ Tryd.underlying30 rfl) a1 F1 m1 fun a2 F2 m2 e2 => ?_
    refine mids_next (l := 0) (e := 16) (u := .int .i64 (M2 : Int)) (gi := 10) (m := 13) rfl ⟨rfl, rfl⟩ (by decide) a2 F2 m2 (by have e' := eval_getD e2; go_simp) fun a3 F3 m3 e3 _ => ?_
    refine mids_next (l := 0) (e := 17) (u := .bool z_locks) (gi := 10) (m := 13) rfl ⟨rfl, rfl⟩ (by decide) a3 F3 m3 (by have e' := eval_getD e3; go_simp) fun a4 F4 m4 e4 _ => ?_
    exact hk a4 F4 m4 e4
  clear G1 h1
  refine chain (gi := 16) (p := 18) (m := 19) (e := 23) (q := 24) (t := z_guid) (mids := [_, _, _, _]) rfl ⟨rfl, rfl, rfl⟩ ⟨rfl, rfl, rfl⟩ (by decide) G2 h2 (by
    intro o ho
    simp only [List.mem_cons, List.not_mem_nil, or_false] at ho
    rcases ho with rfl | rfl | rfl | rfl
    all_goals exact ⟨rfl, _, rfl, by decide, by decide⟩) (fun a1 F1 m1 hk => ?_) fun b3 G3 h3 => ?_
  · refine mids_load (v := (.agg (a.guid.map (Value.int .u8)).toArray)) (f := 20) (l := 21) (i := 1) (off := 1) (g := g) (tail := _) (gi := 16) (m := 19) rfl ⟨rfl, rfl, rfl⟩ ⟨rfl, rfl, rfl⟩ (by decide) (fld_isZeroAsk_1 g) (load_mid_run r_guid Tryd.underlying25 rfl (by rw [size_guid, N_guid.out])) a1 F1 m1 fun a2 F2 m2 e2 => ?_
    refine mids_next (l := 0) (e := 22) (u := .agg y_guid) (gi := 16) (m := 19) rfl ⟨rfl, rfl⟩ (by decide) a2 F2 m2 (build_run rfl bt_guid) fun a3 F3 m3 e3 o3 => ?_
    have e2' := (o3 21 (by decide)).trans e2
    refine mids_next (l := 0) (e := 23) (u := .bool z_guid) (gi := 16) (m := 19) rfl ⟨rfl, rfl⟩ (by decide) a3 F3 m3 (by have e' := eval_getD e2'; have e'' := eval_getD e3; have qg := guard_guid; go_simp) fun a4 F4 m4 e4 _ => ?_
    exact hk a4 F4 m4 e4
  clear G2 h2
  refine chain (gi := 22) (p := 24) (m := 25) (e := 29) (q := 30) (t := z_proof) (mids := [_, _, _, _]) rfl ⟨rfl, rfl, rfl⟩ ⟨rfl, rfl, rfl⟩ (by decide) G3 h3 (by
    intro o ho
    simp only [List.mem_cons, List.not_mem_nil, or_false] at ho
    rcases ho with rfl | rfl | rfl | rfl
    all_goals exact ⟨rfl, _, rfl, by decide, by decide⟩) (fun a1 F1 m1 hk => ?_) fun b4 G4 h4 => ?_
  · refine mids_load (v := (.agg (a.proof.map (Value.int .u8)).toArray)) (f := 26) (l := 27) (i := 2) (off := 17) (g := g) (tail := _) (gi := 22) (m := 25) rfl ⟨rfl, rfl, rfl⟩ ⟨rfl, rfl, rfl⟩ (by decide) (fld_isZeroAsk_2 g) (load_mid_run r_proof Tryd.underlying26 rfl (by rw [size_proof, N_proof.out])) a1 F1 m1 fun a2 F2 m2 e2 => ?_
    refine mids_next (l := 0) (e := 28) (u := .agg y_proof) (gi := 22) (m := 25) rfl ⟨rfl, rfl⟩ (by decide) a2 F2 m2 (build_run rfl bt_proof) fun a3 F3 m3 e3 o3 => ?_
    have e2' := (o3 27 (by decide)).trans e2
    refine mids_next (l := 0) (e := 29) (u := .bool z_proof) (gi := 22) (m := 25) rfl ⟨rfl, rfl⟩ (by decide) a3 F3 m3 (by have e' := eval_getD e2'; have e'' := eval_getD e3; have qg := guard_proof; go_simp) fun a4 F4 m4 e4 _ => ?_
    exact hk a4 F4 m4 e4
  clear G3 h3
  refine chain (gi := 28) (p := 30) (m := 31) (e := 34) (q := 35) (t := z_user) (mids := [_, _, _]) rfl ⟨rfl, rfl, rfl⟩ ⟨rfl, rfl, rfl⟩ (by decide) G4 h4 (by
    intro o ho
    simp only [List.mem_cons, List.not_mem_nil, or_false] at ho
    rcases ho with rfl | rfl | rfl
    all_goals exact ⟨rfl, _, rfl, by decide, by decide⟩) (fun a1 F1 m1 hk => ?_) fun b5 G5 h5 => ?_
  · refine mids_load (v := (.string a.user)) (f := 32) (l := 33) (i := 3) (off := 49) (g := g) (tail := _) (gi := 28) (m := 31) rfl ⟨rfl, rfl, rfl⟩ ⟨rfl, rfl, rfl⟩ (by decide) (fld_isZeroAsk_3 g) (load_one c_user _ Tryd.underlying9 rfl) a1 F1 m1 fun a2 F2 m2 e2 => ?_
    refine mids_next (l := 0) (e := 34) (u := .bool z_user) (gi := 28) (m := 31) rfl ⟨rfl, rfl⟩ (by decide) a2 F2 m2 (by have e' := eval_getD e2; go_simp) fun a4 F4 m4 e4 _ => ?_
    exact hk a4 F4 m4 e4
  clear G4 h4
  refine chain (gi := 33) (p := 35) (m := 36) (e := 39) (q := 40) (t := z_share) (mids := [_, _, _]) rfl ⟨rfl, rfl, rfl⟩ ⟨rfl, rfl, rfl⟩ (by decide) G5 h5 (by
    intro o ho
    simp only [List.mem_cons, List.not_mem_nil, or_false] at ho
    rcases ho with rfl | rfl | rfl
    all_goals exact ⟨rfl, _, rfl, by decide, by decide⟩) (fun a1 F1 m1 hk => ?_) fun b6 G6 h6 => ?_
  · refine mids_load (v := (.string a.share)) (f := 37) (l := 38) (i := 4) (off := 50) (g := g) (tail := _) (gi := 33) (m := 36) rfl ⟨rfl, rfl, rfl⟩ ⟨rfl, rfl, rfl⟩ (by decide) (fld_isZeroAsk_4 g) (load_one c_share _ Tryd.underlying9 rfl) a1 F1 m1 fun a2 F2 m2 e2 => ?_
    refine mids_next (l := 0) (e := 39) (u := .bool z_share) (gi := 33) (m := 36) rfl ⟨rfl, rfl⟩ (by decide) a2 F2 m2 (by have e' := eval_getD e2; go_simp) fun a4 F4 m4 e4 _ => ?_
    exact hk a4 F4 m4 e4
  clear G5 h5
  refine chain (gi := 38) (p := 40) (m := 41) (e := 44) (q := 45) (t := z_name) (mids := [_, _, _]) rfl ⟨rfl, rfl, rfl⟩ ⟨rfl, rfl, rfl⟩ (by decide) G6 h6 (by
    intro o ho
    simp only [List.mem_cons, List.not_mem_nil, or_false] at ho
    rcases ho with rfl | rfl | rfl
    all_goals exact ⟨rfl, _, rfl, by decide, by decide⟩) (fun a1 F1 m1 hk => ?_) fun b7 G7 h7 => ?_
  · refine mids_load (v := (.string a.name)) (f := 42) (l := 43) (i := 12) (off := 58) (g := g) (tail := _) (gi := 38) (m := 41) rfl ⟨rfl, rfl, rfl⟩ ⟨rfl, rfl, rfl⟩ (by decide) (fld_isZeroAsk_12 g) (load_one c_name _ Tryd.underlying9 rfl) a1 F1 m1 fun a2 F2 m2 e2 => ?_
    refine mids_next (l := 0) (e := 44) (u := .bool z_name) (gi := 38) (m := 41) rfl ⟨rfl, rfl⟩ (by decide) a2 F2 m2 (by have e' := eval_getD e2; go_simp) fun a4 F4 m4 e4 _ => ?_
    exact hk a4 F4 m4 e4
  clear G6 h6
  refine chain (gi := 43) (p := 45) (m := 46) (e := 49) (q := 50) (t := z_pat) (mids := [_, _, _]) rfl ⟨rfl, rfl, rfl⟩ ⟨rfl, rfl, rfl⟩ (by decide) G7 h7 (by
    intro o ho
    simp only [List.mem_cons, List.not_mem_nil, or_false] at ho
    rcases ho with rfl | rfl | rfl
    all_goals exact ⟨rfl, _, rfl, by decide, by decide⟩) (fun a1 F1 m1 hk => ?_) fun b8 G8 h8 => ?_
  · refine mids_load (v := (.string a.pat)) (f := 47) (l := 48) (i := 18) (off := 64) (g := g) (tail := _) (gi := 43) (m := 46) rfl ⟨rfl, rfl, rfl⟩ ⟨rfl, rfl, rfl⟩ (by decide) (fld_isZeroAsk_18 g) (load_one c_pat _ Tryd.underlying9 rfl) a1 F1 m1 fun a2 F2 m2 e2 => ?_
    refine mids_next (l := 0) (e := 49) (u := .bool z_pat) (gi := 43) (m := 46) rfl ⟨rfl, rfl⟩ (by decide) a2 F2 m2 (by have e' := eval_getD e2; go_simp) fun a4 F4 m4 e4 _ => ?_
    exact hk a4 F4 m4 e4
  clear G7 h7
  refine chain (gi := 48) (p := 50) (m := 51) (e := 54) (q := 55) (t := z_aft) (mids := [_, _, _]) rfl ⟨rfl, rfl, rfl⟩ ⟨rfl, rfl, rfl⟩ (by decide) G8 h8 (by
    intro o ho
    simp only [List.mem_cons, List.not_mem_nil, or_false] at ho
    rcases ho with rfl | rfl | rfl
    all_goals exact ⟨rfl, _, rfl, by decide, by decide⟩) (fun a1 F1 m1 hk => ?_) fun b9 G9 h9 => ?_
  · refine mids_load (v := (.string a.aft)) (f := 52) (l := 53) (i := 19) (off := 65) (g := g) (tail := _) (gi := 48) (m := 51) rfl ⟨rfl, rfl, rfl⟩ ⟨rfl, rfl, rfl⟩ (by decide) (fld_isZeroAsk_19 g) (load_one c_aft _ Tryd.underlying9 rfl) a1 F1 m1 fun a2 F2 m2 e2 => ?_
    refine mids_next (l := 0) (e := 54) (u := .bool z_aft) (gi := 48) (m := 51) rfl ⟨rfl, rfl⟩ (by decide) a2 F2 m2 (by have e' := eval_getD e2; go_simp) fun a4 F4 m4 e4 _ => ?_
    exact hk a4 F4 m4 e4
  clear G8 h8
  refine chain (gi := 53) (p := 55) (m := 56) (e := 59) (q := 60) (t := z_acc) (mids := [_, _, _]) rfl ⟨rfl, rfl, rfl⟩ ⟨rfl, rfl, rfl⟩ (by decide) G9 h9 (by
    intro o ho
    simp only [List.mem_cons, List.not_mem_nil, or_false] at ho
    rcases ho with rfl | rfl | rfl
    all_goals exact ⟨rfl, _, rfl, by decide, by decide⟩) (fun a1 F1 m1 hk => ?_) fun b10 G10 h10 => ?_
  · refine mids_load (v := (.int .u32 a.acc)) (f := 57) (l := 58) (i := 5) (off := 51) (g := g) (tail := _) (gi := 53) (m := 56) rfl ⟨rfl, rfl, rfl⟩ ⟨rfl, rfl, rfl⟩ (by decide) (fld_isZeroAsk_5 g) (load_one c_acc _ Tryd.underlying27 rfl) a1 F1 m1 fun a2 F2 m2 e2 => ?_
    refine mids_next (l := 0) (e := 59) (u := .bool z_acc) (gi := 53) (m := 56) rfl ⟨rfl, rfl⟩ (by decide) a2 F2 m2 (by have e' := eval_getD e2; go_simp) fun a4 F4 m4 e4 _ => ?_
    exact hk a4 F4 m4 e4
  clear G9 h9
  refine chain (gi := 58) (p := 60) (m := 61) (e := 64) (q := 65) (t := z_shr) (mids := [_, _, _]) rfl ⟨rfl, rfl, rfl⟩ ⟨rfl, rfl, rfl⟩ (by decide) G10 h10 (by
    intro o ho
    simp only [List.mem_cons, List.not_mem_nil, or_false] at ho
    rcases ho with rfl | rfl | rfl
    all_goals exact ⟨rfl, _, rfl, by decide, by decide⟩) (fun a1 F1 m1 hk => ?_) fun b11 G11 h11 => ?_
  · refine mids_load (v := (.int .u32 a.shr)) (f := 62) (l := 63) (i := 6) (off := 52) (g := g) (tail := _) (gi := 58) (m := 61) rfl ⟨rfl, rfl, rfl⟩ ⟨rfl, rfl, rfl⟩ (by decide) (fld_isZeroAsk_6 g) (load_one c_shr _ Tryd.underlying27 rfl) a1 F1 m1 fun a2 F2 m2 e2 => ?_
    refine mids_next (l := 0) (e := 64) (u := .bool z_shr) (gi := 58) (m := 61) rfl ⟨rfl, rfl⟩ (by decide) a2 F2 m2 (by have e' := eval_getD e2; go_simp) fun a4 F4 m4 e4 _ => ?_
    exact hk a4 F4 m4 e4
  clear G10 h10
  refine chain (gi := 63) (p := 65) (m := 66) (e := 69) (q := 70) (t := z_way) (mids := [_, _, _]) rfl ⟨rfl, rfl, rfl⟩ ⟨rfl, rfl, rfl⟩ (by decide) G11 h11 (by
    intro o ho
    simp only [List.mem_cons, List.not_mem_nil, or_false] at ho
    rcases ho with rfl | rfl | rfl
    all_goals exact ⟨rfl, _, rfl, by decide, by decide⟩) (fun a1 F1 m1 hk => ?_) fun b12 G12 h12 => ?_
  · refine mids_load (v := (.int .u32 a.way)) (f := 67) (l := 68) (i := 7) (off := 53) (g := g) (tail := _) (gi := 63) (m := 66) rfl ⟨rfl, rfl, rfl⟩ ⟨rfl, rfl, rfl⟩ (by decide) (fld_isZeroAsk_7 g) (load_one c_way _ Tryd.underlying27 rfl) a1 F1 m1 fun a2 F2 m2 e2 => ?_
    refine mids_next (l := 0) (e := 69) (u := .bool z_way) (gi := 63) (m := 66) rfl ⟨rfl, rfl⟩ (by decide) a2 F2 m2 (by have e' := eval_getD e2; go_simp) fun a4 F4 m4 e4 _ => ?_
    exact hk a4 F4 m4 e4
  clear G11 h11
  refine chain (gi := 68) (p := 70) (m := 71) (e := 74) (q := 75) (t := z_opt) (mids := [_, _, _]) rfl ⟨rfl, rfl, rfl⟩ ⟨rfl, rfl, rfl⟩ (by decide) G12 h12 (by
    intro o ho
    simp only [List.mem_cons, List.not_mem_nil, or_false] at ho
    rcases ho with rfl | rfl | rfl
    all_goals exact ⟨rfl, _, rfl, by decide, by decide⟩) (fun a1 F1 m1 hk => ?_) fun b13 G13 h13 => ?_
  · refine mids_load (v := (.int .u32 a.opt)) (f := 72) (l := 73) (i := 8) (off := 54) (g := g) (tail := _) (gi := 68) (m := 71) rfl ⟨rfl, rfl, rfl⟩ ⟨rfl, rfl, rfl⟩ (by decide) (fld_isZeroAsk_8 g) (load_one c_opt _ Tryd.underlying27 rfl) a1 F1 m1 fun a2 F2 m2 e2 => ?_
    refine mids_next (l := 0) (e := 74) (u := .bool z_opt) (gi := 68) (m := 71) rfl ⟨rfl, rfl⟩ (by decide) a2 F2 m2 (by have e' := eval_getD e2; go_simp) fun a4 F4 m4 e4 _ => ?_
    exact hk a4 F4 m4 e4
  clear G12 h12
  refine chain (gi := 73) (p := 75) (m := 76) (e := 79) (q := 80) (t := z_lev) (mids := [_, _, _]) rfl ⟨rfl, rfl, rfl⟩ ⟨rfl, rfl, rfl⟩ (by decide) G13 h13 (by
    intro o ho
    simp only [List.mem_cons, List.not_mem_nil, or_false] at ho
    rcases ho with rfl | rfl | rfl
    all_goals exact ⟨rfl, _, rfl, by decide, by decide⟩) (fun a1 F1 m1 hk => ?_) fun b14 G14 h14 => ?_
  · refine mids_load (v := (.int .u8 a.lev)) (f := 77) (l := 78) (i := 9) (off := 55) (g := g) (tail := _) (gi := 73) (m := 76) rfl ⟨rfl, rfl, rfl⟩ ⟨rfl, rfl, rfl⟩ (by decide) (fld_isZeroAsk_9 g) (load_one c_lev _ Tryd.underlying5 rfl) a1 F1 m1 fun a2 F2 m2 e2 => ?_
    refine mids_next (l := 0) (e := 79) (u := .bool z_lev) (gi := 73) (m := 76) rfl ⟨rfl, rfl⟩ (by decide) a2 F2 m2 (by have e' := eval_getD e2; go_simp) fun a4 F4 m4 e4 _ => ?_
    exact hk a4 F4 m4 e4
  clear G13 h13
  refine chain (gi := 78) (p := 80) (m := 81) (e := 84) (q := 85) (t := z_dur) (mids := [_, _, _]) rfl ⟨rfl, rfl, rfl⟩ ⟨rfl, rfl, rfl⟩ (by decide) G14 h14 (by
    intro o ho
    simp only [List.mem_cons, List.not_mem_nil, or_false] at ho
    rcases ho with rfl | rfl | rfl
    all_goals exact ⟨rfl, _, rfl, by decide, by decide⟩) (fun a1 F1 m1 hk => ?_) fun b15 G15 h15 => ?_
  · refine mids_load (v := (.int .u8 a.dur)) (f := 82) (l := 83) (i := 10) (off := 56) (g := g) (tail := _) (gi := 78) (m := 81) rfl ⟨rfl, rfl, rfl⟩ ⟨rfl, rfl, rfl⟩ (by decide) (fld_isZeroAsk_10 g) (load_one c_dur _ Tryd.underlying5 rfl) a1 F1 m1 fun a2 F2 m2 e2 => ?_
    refine mids_next (l := 0) (e := 84) (u := .bool z_dur) (gi := 78) (m := 81) rfl ⟨rfl, rfl⟩ (by decide) a2 F2 m2 (by have e' := eval_getD e2; go_simp) fun a4 F4 m4 e4 _ => ?_
    exact hk a4 F4 m4 e4
  clear G14 h14
  refine chain (gi := 83) (p := 85) (m := 86) (e := 89) (q := 90) (t := z_file) (mids := [_, _, _]) rfl ⟨rfl, rfl, rfl⟩ ⟨rfl, rfl, rfl⟩ (by decide) G15 h15 (by
    intro o ho
    simp only [List.mem_cons, List.not_mem_nil, or_false] at ho
    rcases ho with rfl | rfl | rfl
    all_goals exact ⟨rfl, _, rfl, by decide, by decide⟩) (fun a1 F1 m1 hk => ?_) fun b16 G16 h16 => ?_
  · refine mids_load (v := (.int .u64 a.file)) (f := 87) (l := 88) (i := 11) (off := 57) (g := g) (tail := _) (gi := 83) (m := 86) rfl ⟨rfl, rfl, rfl⟩ ⟨rfl, rfl, rfl⟩ (by decide) (fld_isZeroAsk_11 g) (load_one c_file _ Tryd.underlying28 rfl) a1 F1 m1 fun a2 F2 m2 e2 => ?_
    refine mids_next (l := 0) (e := 89) (u := .bool z_file) (gi := 83) (m := 86) rfl ⟨rfl, rfl⟩ (by decide) a2 F2 m2 (by have e' := eval_getD e2; go_simp) fun a4 F4 m4 e4 _ => ?_
    exact hk a4 F4 m4 e4
  clear G15 h15
  refine chain (gi := 88) (p := 90) (m := 91) (e := 94) (q := 95) (t := z_at_) (mids := [_, _, _]) rfl ⟨rfl, rfl, rfl⟩ ⟨rfl, rfl, rfl⟩ (by decide) G16 h16 (by
    intro o ho
    simp only [List.mem_cons, List.not_mem_nil, or_false] at ho
    rcases ho with rfl | rfl | rfl
    all_goals exact ⟨rfl, _, rfl, by decide, by decide⟩) (fun a1 F1 m1 hk => ?_) fun b17 G17 h17 => ?_
  · refine mids_load (v := (.int .u64 a.at_)) (f := 92) (l := 93) (i := 13) (off := 59) (g := g) (tail := _) (gi := 88) (m := 91) rfl ⟨rfl, rfl, rfl⟩ ⟨rfl, rfl, rfl⟩ (by decide) (fld_isZeroAsk_13 g) (load_one c_at_ _ Tryd.underlying28 rfl) a1 F1 m1 fun a2 F2 m2 e2 => ?_
    refine mids_next (l := 0) (e := 94) (u := .bool z_at_) (gi := 88) (m := 91) rfl ⟨rfl, rfl⟩ (by decide) a2 F2 m2 (by have e' := eval_getD e2; go_simp) fun a4 F4 m4 e4 _ => ?_
    exact hk a4 F4 m4 e4
  clear G16 h16
  refine chain (gi := 93) (p := 95) (m := 96) (e := 99) (q := 100) (t := z_n) (mids := [_, _, _]) rfl ⟨rfl, rfl, rfl⟩ ⟨rfl, rfl, rfl⟩ (by decide) G17 h17 (by
    intro o ho
    simp only [List.mem_cons, List.not_mem_nil, or_false] at ho
    rcases ho with rfl | rfl | rfl
    all_goals exact ⟨rfl, _, rfl, by decide, by decide⟩) (fun a1 F1 m1 hk => ?_) fun b18 G18 h18 => ?_
  · refine mids_load (v := (.int .u32 a.n)) (f := 97) (l := 98) (i := 14) (off := 60) (g := g) (tail := _) (gi := 93) (m := 96) rfl ⟨rfl, rfl, rfl⟩ ⟨rfl, rfl, rfl⟩ (by decide) (fld_isZeroAsk_14 g) (load_one c_n _ Tryd.underlying27 rfl) a1 F1 m1 fun a2 F2 m2 e2 => ?_
    refine mids_next (l := 0) (e := 99) (u := .bool z_n) (gi := 93) (m := 96) rfl ⟨rfl, rfl⟩ (by decide) a2 F2 m2 (by have e' := eval_getD e2; go_simp) fun a4 F4 m4 e4 _ => ?_
    exact hk a4 F4 m4 e4
  clear G17 h17
  refine chain (gi := 98) (p := 100) (m := 101) (e := 104) (q := 105) (t := z_most) (mids := [_, _, _]) rfl ⟨rfl, rfl, rfl⟩ ⟨rfl, rfl, rfl⟩ (by decide) G18 h18 (by
    intro o ho
    simp only [List.mem_cons, List.not_mem_nil, or_false] at ho
    rcases ho with rfl | rfl | rfl
    all_goals exact ⟨rfl, _, rfl, by decide, by decide⟩) (fun a1 F1 m1 hk => ?_) fun b19 G19 h19 => ?_
  · refine mids_load (v := (.int .u16 a.most)) (f := 102) (l := 103) (i := 17) (off := 63) (g := g) (tail := _) (gi := 98) (m := 101) rfl ⟨rfl, rfl, rfl⟩ ⟨rfl, rfl, rfl⟩ (by decide) (fld_isZeroAsk_17 g) (load_one c_most _ Tryd.underlying22 rfl) a1 F1 m1 fun a2 F2 m2 e2 => ?_
    refine mids_next (l := 0) (e := 104) (u := .bool z_most) (gi := 98) (m := 101) rfl ⟨rfl, rfl⟩ (by decide) a2 F2 m2 (by have e' := eval_getD e2; go_simp) fun a4 F4 m4 e4 _ => ?_
    exact hk a4 F4 m4 e4
  clear G18 h18
  refine chain (gi := 103) (p := 105) (m := 106) (e := 109) (q := 110) (t := z_cls) (mids := [_, _, _]) rfl ⟨rfl, rfl, rfl⟩ ⟨rfl, rfl, rfl⟩ (by decide) G19 h19 (by
    intro o ho
    simp only [List.mem_cons, List.not_mem_nil, or_false] at ho
    rcases ho with rfl | rfl | rfl
    all_goals exact ⟨rfl, _, rfl, by decide, by decide⟩) (fun a1 F1 m1 hk => ?_) fun b20 G20 h20 => ?_
  · refine mids_load (v := (.int .u16 a.cls)) (f := 107) (l := 108) (i := 20) (off := 66) (g := g) (tail := _) (gi := 103) (m := 106) rfl ⟨rfl, rfl, rfl⟩ ⟨rfl, rfl, rfl⟩ (by decide) (fld_isZeroAsk_20 g) (load_one c_cls _ Tryd.underlying22 rfl) a1 F1 m1 fun a2 F2 m2 e2 => ?_
    refine mids_next (l := 0) (e := 109) (u := .bool z_cls) (gi := 103) (m := 106) rfl ⟨rfl, rfl⟩ (by decide) a2 F2 m2 (by have e' := eval_getD e2; go_simp) fun a4 F4 m4 e4 _ => ?_
    exact hk a4 F4 m4 e4
  clear G19 h19
  refine chain (gi := 108) (p := 110) (m := 111) (e := 114) (q := 115) (t := z_siz) (mids := [_, _, _]) rfl ⟨rfl, rfl, rfl⟩ ⟨rfl, rfl, rfl⟩ (by decide) G20 h20 (by
    intro o ho
    simp only [List.mem_cons, List.not_mem_nil, or_false] at ho
    rcases ho with rfl | rfl | rfl
    all_goals exact ⟨rfl, _, rfl, by decide, by decide⟩) (fun a1 F1 m1 hk => ?_) fun b21 G21 h21 => ?_
  · refine mids_load (v := (.int .u64 a.siz)) (f := 112) (l := 113) (i := 21) (off := 67) (g := g) (tail := _) (gi := 108) (m := 111) rfl ⟨rfl, rfl, rfl⟩ ⟨rfl, rfl, rfl⟩ (by decide) (fld_isZeroAsk_21 g) (load_one c_siz _ Tryd.underlying28 rfl) a1 F1 m1 fun a2 F2 m2 e2 => ?_
    refine mids_next (l := 0) (e := 114) (u := .bool z_siz) (gi := 108) (m := 111) rfl ⟨rfl, rfl⟩ (by decide) a2 F2 m2 (by have e' := eval_getD e2; go_simp) fun a4 F4 m4 e4 _ => ?_
    exact hk a4 F4 m4 e4
  clear G20 h20
  refine chain (gi := 113) (p := 115) (m := 116) (e := 119) (q := 120) (t := z_on) (mids := [_, _, _]) rfl ⟨rfl, rfl, rfl⟩ ⟨rfl, rfl, rfl⟩ (by decide) G21 h21 (by
    intro o ho
    simp only [List.mem_cons, List.not_mem_nil, or_false] at ho
    rcases ho with rfl | rfl | rfl
    all_goals exact ⟨rfl, _, rfl, by decide, by decide⟩) (fun a1 F1 m1 hk => ?_) fun b22 G22 h22 => ?_
  · refine mids_load (v := (.bool a.on)) (f := 117) (l := 118) (i := 22) (off := 68) (g := g) (tail := _) (gi := 113) (m := 116) rfl ⟨rfl, rfl, rfl⟩ ⟨rfl, rfl, rfl⟩ (by decide) (fld_isZeroAsk_22 g) (load_one c_on _ Tryd.underlying4 rfl) a1 F1 m1 fun a2 F2 m2 e2 => ?_
    refine mids_next (l := 0) (e := 119) (u := .bool z_on) (gi := 113) (m := 116) rfl ⟨rfl, rfl⟩ (by decide) a2 F2 m2 (by have e' := eval_getD e2; go_simp) fun a4 F4 m4 e4 _ => ?_
    exact hk a4 F4 m4 e4
  clear G21 h21
  have HT1 := HT.out
  rw [HT1] at h22
  refine wpList_yields (v := .bool r) (yieldsIf_asg (by simp [Region.wanted]) (.tmp 120) rfl _ h22) ?_
  refine wpList_nil (hret _ _ (wp_ret ?_))
  have F9 := G22.put (d := 2) (v := .bool r) (by decide)
  refine bodyPost_ret (results_tmp rfl _ _ _) F9.df ?_
  refine ⟨?_, L1.out⟩
  have e9 : (b22.put (some 2) (.bool r)).eval (.tmp 2) = .bool r := put_self (by rw [G22.size]; decide)
  exact congrArg Ending.returned e9
end Go.Proofs.YtbbjmmooemmeiaaDoor

namespace Go.Proofs.YtbbjmmooemmeiaaDoor
set_option linter.all false
open Go.RowKit
theorem World.setCells_only (g : Nat) : ∀ (vs : List Value) (o : Nat) (w : World), Only g w (w.setCells g o vs)
  | [], _, w => Only.refl g w
  | v :: r, o, w => by
    have h1 := only_setCell w g o v
    have h2 := World.setCells_only g r (o + 1) (w.setCell ⟨g, o, none⟩ v)
    exact ⟨h2.os.trans h1.os, h2.tape.trans h1.tape, h2.output.trans h1.output, h2.size.trans h1.size, fun i hi => (h2.rest i hi).trans (h1.rest i hi)⟩
theorem Blk.setCells {g : Nat} {T : TypeId} : ∀ (vs : List Value) (o : Nat) (w : World) (cs : List Value), Blk w g T cs → o + vs.length ≤ cs.length → Blk (w.setCells g o vs) g T (cs.take o ++ (vs ++ cs.drop (o + vs.length)))
  | [], o, w, cs, h, _ => by
    show Blk w g T _
    rw [List.nil_append, List.length_nil, Nat.add_zero, List.take_append_drop]
    exact h
  | v :: r, o, w, cs, h, hl => by
    have hl' : o + 1 + r.length ≤ cs.length := by simp at hl; omega
    have h1 := h.set o v
    have h2 := Blk.setCells r (o + 1) _ _ h1 (by rw [List.length_set]; exact hl')
    have e : (cs.set o v).take (o + 1) ++ (r ++ (cs.set o v).drop (o + 1 + r.length)) = cs.take o ++ ((v :: r) ++ cs.drop (o + (v :: r).length)) := by
      have ho : o < cs.length := by omega
      have e1 : (cs.set o v).take (o + 1) = cs.take o ++ [v] := by
        rw [List.take_succ_eq_append_getElem (by rw [List.length_set]; exact ho), List.take_set_of_le (Nat.le_refl o)]
        simp
      have e2 : (cs.set o v).drop (o + 1 + r.length) = cs.drop (o + (v :: r).length) := by
        rw [List.drop_set_of_lt (by omega), List.length_cons]
        congr 1
        omega
      rw [e1, e2]
      simp
    rw [e] at h2
    exact h2
section
variable {P : Program} {ops : Array Oper} {rest : List Oper} {o : Oper} {a : Act} {w : World} {Q : Exit → Act → World → Prop}
theorem there_blk {g : Nat} {T : TypeId} {cs : List Value} (h : Blk w g T cs) (i n : Nat) (hn : i + n ≤ cs.length) : w.there g i n := fun j hj => by
  refine ⟨?_, h.frozen _⟩
  rw [h.cell]
  have : i + j < cs.length := by omega
  simp [this]
/-- an array into the midst -/
theorem wpList_store_midb (hgd : o.guard = none) (ty : TypeId) (x y : Operand) (ho : o.op = .store ty x y) (g i : Nat) (hx : a.eval x = .pointer (some ⟨g, i, none⟩)) (T : TypeId) (cs vs : List Value) (hy : a.eval y = .agg vs.toArray)
    (hA : Hid (Blk w g T cs)) (n : Nat) (hi : (P.info? ty).map (·.size) = some n) (hn : Hid (vs.length = n)) (hl : Hid (i + n ≤ cs.length)) (h1 : Hid (∀ v ∈ vs, v.oneCell' = true))
    (h : ∀ w', Hid (Blk w' g T (cs.take i ++ (vs ++ cs.drop (i + n)))) → Hid (Only g w w') → g < w'.heap.size → wpList P ops Q rest a w') (hd : o.dst = none := by rfl) : wpList P ops Q (o :: rest) a w := by
  have hp : a.put o.dst undef = a := by rw [hd]; rfl
  have hnn := hn.out
  refine wpList_store_mid hgd ty x y ho g i vs.toArray hx hy (there_blk hA.out i _ (by have := hl.out; simp; omega)) (by rw [hi]; simp [hnn]) (all_oneCell_toArray h1.out) ?_
  rw [hp]
  have hb := Blk.setCells vs i w cs hA.out (by have := hl.out; omega)
  rw [hnn] at hb
  have hO := World.setCells_only g vs i w
  refine h _ hb hO ?_
  have := hO.size
  rw [show (w.setCells g i vs.toArray.toList) = w.setCells g i vs from rfl, this]
  exact hA.out.lt
/-- one cell, as a step of a region that draws its order -/
theorem step_store_fld {K : Act → World → Prop} {E : Prop} (hg : o.guard = none) (T : TypeId) (x y : Operand) (ho : o.op = .store T x y) (g i : Nat) (hx : a.eval x = .pointer (some ⟨g, i, none⟩)) (T' : TypeId) (cs : List Value) (u : Value) (hy : a.eval y = u)
    (hA : Hid (Blk w g T' cs)) (hi : Hid (i < cs.length)) (hs : (P.info? T).map (·.size) = some 1) (h1 : u.oneCell' = true)
    (h : ∀ w', Hid (Blk w' g T' (cs.set i u)) → Hid (Only g w w') → g < w'.heap.size → K (a.put o.dst undef) w') :
    if Region.wanted o (yielded ops a.tmps) = true then Oper.wp P o a w K Q else E := by
  have hw : Region.wanted o (yielded ops a.tmps) = true := by simp [Region.wanted, hg]
  rw [if_pos hw]
  unfold Oper.wp execOp
  simp only [ho, hx, hy, Instr.storeAt, Instr.sureAddr, Sem.run_bind, Sem.run_pure, Result.andThen_ok, run_storeVar_fld w g i T' T cs u hA.out hi.out hs h1]
  refine h _ (hA.out.set i u) (only_setCell w g i u) ?_
  have := (only_setCell w g i u).size
  rw [this]
  exact hA.out.lt
end
/-- the whole of a variable out of its block, where the operation's guard is met -/
theorem wpList_load_want {P : Program} {ops : Array Oper} {rest : List Oper} {o : Oper} {a : Act} {w : World} {Q : Exit → Act → World → Prop} (hw : Region.wanted o (yielded ops a.tmps) = true) (T : TypeId) (x : Operand) (ho : o.op = .load T x) (g : Nat) (hx : a.eval x = .pointer (some ⟨g, 0, none⟩)) (T' : TypeId) (cs : List Value)
    (hA : Hid (Blk w g T' cs)) (n : Nat) (d : TypeDesc) (hu : P.underlying T = some d) (hd : (match d with | .struct _ | .array _ _ => true | _ => false) = true) (hi : (P.info? T).map (·.size) = some n) (hn : Hid (cs.length = n))
    (h : wpList P ops Q rest (a.put o.dst (.agg cs.toArray)) w) : wpList P ops Q (o :: rest) a w :=
  wpList_step fun K hK => by
    rw [if_pos hw]
    exact wp_load_row T x ho g hx T' _ (0, 0) d hA.out hu hd (by rw [hi]; have := hn.out; simp [this]) (hK _ _ h)
end Go.Proofs.YtbbjmmooemmeiaaDoor

namespace Go.Proofs.YtbbjmmooemmeiaaDoor
set_option linter.all false
open Go.RowKit
def pick (d : Nat × Nat) : Int × Nat := if d.1 = 65533 ∧ d.2 = 1 then (0, 0) else ((d.1 : Int), d.2)
end Go.Proofs.YtbbjmmooemmeiaaDoor

namespace Go.Proofs.YtbbjmmooemmeiaaDoor
set_option linter.all false
open Go.RowKit
theorem OwnK.holds {w : World} {base : Nat} {v : Value} {xs : List Int} (h : OwnK .u8 5 w base v xs) (hx : Bytes xs) (hn : xs.length ≤ 281474976710656) :
    ∃ A c, v = .slice A xs.length c ∧ Holds w w.heap.size A xs.length c xs := Own.holds (base := base) h hx hn
end Go.Proofs.YtbbjmmooemmeiaaDoor

namespace Go.Proofs.YtbbjmmooemmeiaaDoor
set_option linter.all false
open Go.RowKit
/-- two places of a row of bytes, as they are read -/
theorem Holds.two {w : World} {B n c : Nat} {A : Option Addr} {xs : List Int} (h : Holds w B A n c xs) {k : Nat} (hk : k < n) :
    ∃ b off, A = some ⟨b, off, none⟩ ∧ b < B ∧ ∀ i, i < n → w.cell? ⟨b, off + i, none⟩ = some (.int .u8 (xs.getD i 0)) := h.cells (by omega)
end Go.Proofs.YtbbjmmooemmeiaaDoor

namespace Go.Proofs.YtbbjmmooemmeiaaDoor
set_option linter.all false
open Go.RowKit
set_option linter.unusedVariables false
def knownT (c : Int) : Bool := decide (c ≤ 4) || c == 13
end Go.Proofs.YtbbjmmooemmeiaaDoor

namespace Go.Proofs.YtbbjmmooemmeiaaDoor
set_option linter.all false
open Go.RowKit
set_option linter.unusedVariables false
set_option maxRecDepth 100000
theorem results_cell_two {P : Program} {fn : Func} {p q : Tmp} {ty : TypeId} (h : fn.results = #[.cell p ty, .tmp q]) (tmps : Array Value) (w : World) (g : Nat) (t : TypeId) (cs : Array Value) (fr : Nat × Nat) (d : TypeDesc)
    (hp : tmps.getD p undef = .pointer (some ⟨g, 0, none⟩)) (hg : w.heap[g]? = some (.cells cs t fr))
    (hu : P.underlying ty = some d) (hd : (match d with | .struct _ | .array _ _ => true | _ => false) = true) (hi : (P.info? ty).map (·.size) = some cs.size) {v : Value} (hv : tmps.getD q undef = v) :
    (results fn tmps).run P w = .ok (.tuple #[.agg cs, v]) w := by
  have hp' : tmps[p]?.getD undef = .pointer (some ⟨g, 0, none⟩) := by simpa using hp
  have hv' : tmps[q]?.getD undef = v := by simpa using hv
  simp [results, h, hp', hv', asAddr, run_loadVar_row w g t ty cs fr d hg hu hd hi]
def besideAsk (c : Int) (a : AskV) : AskV := if c = 0 then { a with dial := [], guid := List.replicate 16 0 } else if c = 1 then { a with proof := List.replicate 32 0, user := .empty } else if c = 3 then { a with share := .empty } else a
theorem besideAsk_ok {c : Int} {a : AskV} (k : a.ok) : (besideAsk c a).ok := by
  unfold besideAsk
  split
  · exact ⟨fun x h => (by cases h), rfl, Bytes.zeros 16, k.plen, k.pbyte, k.acc, k.shr, k.way, k.opt, k.lev, k.dur, k.file, k.at_, k.n, k.data, k.locks, k.most, k.cls, k.siz⟩
  · split
    · exact ⟨k.dial, k.glen, k.gbyte, rfl, Bytes.zeros 32, k.acc, k.shr, k.way, k.opt, k.lev, k.dur, k.file, k.at_, k.n, k.data, k.locks, k.most, k.cls, k.siz⟩
    · split
      · exact ⟨k.dial, k.glen, k.gbyte, k.plen, k.pbyte, k.acc, k.shr, k.way, k.opt, k.lev, k.dur, k.file, k.at_, k.n, k.data, k.locks, k.most, k.cls, k.siz⟩
      · exact k
section
variable {vd vx vl ve : Value} {a : AskV} {s : SayV}
theorem acells_dial (u : Value) (xs : List Int) : (acells vd vx vl a).set 0 u = acells u vx vl { a with dial := xs } := rfl
theorem acells_guidS (k : a.ok) (xs : List Int) : (acells vd vx vl a).take 1 ++ (xs.map (Value.int .u8) ++ (acells vd vx vl a).drop (1 + 16)) = acells vd vx vl { a with guid := xs } := by
  unfold acells
  rw [show 1 + 16 = 16 + 1 from rfl, List.drop_succ_cons, List.drop_left' (by rw [List.length_map]; exact k.glen)]
  rfl
theorem acells_proofS (k : a.ok) (xs : List Int) : (acells vd vx vl a).take 17 ++ (xs.map (Value.int .u8) ++ (acells vd vx vl a).drop (17 + 32)) = acells vd vx vl { a with proof := xs } := by
  unfold acells
  rw [show 17 + 32 = 48 + 1 from rfl, List.drop_succ_cons, show 17 = 16 + 1 from rfl, List.take_succ_cons, List.take_left' (by rw [List.length_map]; exact k.glen), show 48 = 16 + 32 from rfl, ← List.drop_drop, List.drop_left' (by rw [List.length_map]; exact k.glen), List.drop_left' (by rw [List.length_map]; exact k.plen)]
  simp [atail]
theorem acells_user (k : a.ok) (u : ByteArray) : (acells vd vx vl a).set 49 (.string u) = acells vd vx vl { a with user := u } := (acells_set k 0 (.string u)).trans rfl
theorem acells_share (k : a.ok) (u : ByteArray) : (acells vd vx vl a).set 50 (.string u) = acells vd vx vl { a with share := u } := (acells_set k 1 (.string u)).trans rfl
end
def askBesidePost (w : World) (c : Int) (a : AskV) (e : Ending) (w' : World) : Prop := ∃ ds, e = .returned (.tuple #[.agg ds.toArray, .bool (knownT c)]) ∧ AskIs w' w'.heap.size ds (if knownT c = true then besideAsk c a else zeroAsk) ∧ Below w.heap.size w w'
set_option maxHeartbeats 4000000 in
theorem askBeside_any (w : World) (c : Int) (cs : List Value) (a : AskV) (hc : 0 ≤ c ∧ c ≤ 65535) (ka : a.ok) (ha : AskIs w w.heap.size cs a) :
    Calls Tryd.prog 77 #[.int .u16 c, .agg cs.toArray] w (askBesidePost w c a) := by
  have HL := Lib.hid (ha.len ka)
  have HO1 := Lib.hid ha.one
  have ZH := Lib.hid zero_ask
  have BZ := built_ask
  have HZ : Hid ((acells (.slice none 0 0) (.slice none 0 0) (.slice none 0 0) zeroAsk).length = 69) := acells_len zeroAsk_ok
  have HZ1 : Hid (∀ v ∈ acells (.slice none 0 0) (.slice none 0 0) (.slice none 0 0) zeroAsk, v.oneCell' = true) := (zeroAsk_is w 0).one
  have HA := Lib.hid ha
  have HQ : Hid (∀ e w', (∃ ds, e = .returned (.tuple #[.agg ds.toArray, .bool (knownT c)]) ∧ AskIs w' w'.heap.size ds (if knownT c = true then besideAsk c a else zeroAsk) ∧ Below w.heap.size w w') → askBesidePost w c a e w') := fun _ _ h => h
  obtain ⟨zs, hzs⟩ : ∃ zs, zs = acells (.slice none 0 0) (.slice none 0 0) (.slice none 0 0) zeroAsk := ⟨_, rfl⟩
  have HZI : Hid (∀ w' : World, AskIs w' w'.heap.size zs zeroAsk) := by rw [hzs]; exact fun w' => zeroAsk_is w' _
  rw [← hzs] at ZH BZ HZ HZ1
  clear hzs
  by_cases h0 : c = 0
  · subst h0
    have e0 : (if knownT 0 = true then besideAsk 0 a else zeroAsk) = { a with dial := [], guid := List.replicate 16 0 } := rfl
    rw [e0, show knownT 0 = true from rfl] at HQ
    clear e0
    obtain ⟨A1, A2, A3, X1, X2, X3, M1, M2, M3, rfl, hA, hX, hM⟩ := ha
    have HI : Hid (∀ w' : World, Below w.heap.size w w' → AskIs w' w'.heap.size (acells (.slice none 0 0) (.slice X1 X2 X3) (.slice M1 M2 M3) { a with dial := [], guid := List.replicate 16 0 }) ({ a with dial := [], guid := List.replicate 16 0 })) := fun w' hb => ⟨none, 0, 0, X1, X2, X3, M1, M2, M3, rfl, HoldsF.nil _ _ _, hX.over hb, hM.over hb⟩
    have HN : Hid ((acells (.slice none 0 0) (.slice X1 X2 X3) (.slice M1 M2 M3) { a with dial := [], guid := List.replicate 16 0 }).length = 69) := acells_len (by have := besideAsk_ok (c := 0) ka; exact this)
    have HN1 : Hid (∀ v ∈ acells (.slice none 0 0) (.slice X1 X2 X3) (.slice M1 M2 M3) { a with dial := [], guid := List.replicate 16 0 }, v.oneCell' = true) := acells_one rfl rfl rfl
    have HE0 : Hid ((acells (.slice A1 A2 A3) (.slice X1 X2 X3) (.slice M1 M2 M3) a).set 0 (.slice none 0 0) = acells (.slice none 0 0) (.slice X1 X2 X3) (.slice M1 M2 M3) { a with dial := [] }) := acells_dial _ []
    have HE1 : Hid ((acells (.slice none 0 0) (.slice X1 X2 X3) (.slice M1 M2 M3) { a with dial := [] }).take 1 ++ ((List.replicate 16 (0 : Int)).map (Value.int .u8) ++ (acells (.slice none 0 0) (.slice X1 X2 X3) (.slice M1 M2 M3) { a with dial := [] }).drop (1 + 16)) = acells (.slice none 0 0) (.slice X1 X2 X3) (.slice M1 M2 M3) { a with dial := [], guid := List.replicate 16 0 }) := acells_guidS (a := { a with dial := [] }) ⟨fun x h => (by cases h), ka.glen, ka.gbyte, ka.plen, ka.pbyte, ka.acc, ka.shr, ka.way, ka.opt, ka.lev, ka.dur, ka.file, ka.at_, ka.n, ka.data, ka.locks, ka.most, ka.cls, ka.siz⟩ (List.replicate 16 0)
    have HN0 : Hid (0 < (acells (.slice A1 A2 A3) (.slice X1 X2 X3) (.slice M1 M2 M3) a).length) := by show _ < _; simp [acells, atail, ka.glen, ka.plen]
    have HF : Hid (1 + 16 ≤ (acells (.slice none 0 0) (.slice X1 X2 X3) (.slice M1 M2 M3) { a with dial := [] }).length) := by show _ ≤ _; simp [acells, atail, ka.glen, ka.plen]
    have HLZ : Hid (((List.replicate 16 (0 : Int)).map (Value.int .u8)).length = 16) := by show _ = _; simp
    have OZ : Hid (∀ v ∈ (List.replicate 16 (0 : Int)).map (Value.int .u8), v.oneCell' = true) := fun v hv => mem_nums hv
    have BL := built_guid
    obtain ⟨lz, hlz⟩ : ∃ z, z = (List.replicate 16 (0 : Int)).map (Value.int .u8) := ⟨_, rfl⟩
    rw [← hlz] at HLZ OZ BL HE1
    clear hlz
    obtain ⟨cs, hcs⟩ : ∃ c, c = acells (.slice A1 A2 A3) (.slice X1 X2 X3) (.slice M1 M2 M3) a := ⟨_, rfl⟩
    rw [← hcs] at HL HO1 HE0 HN0 ⊢
    clear hcs HA hA hX hM
    obtain ⟨d0, hd0⟩ : ∃ c, c = acells (.slice none 0 0) (.slice X1 X2 X3) (.slice M1 M2 M3) { a with dial := [] } := ⟨_, rfl⟩
    rw [← hd0] at HE0 HE1 HF
    clear hd0
    obtain ⟨d1, hd1⟩ : ∃ c, c = acells (.slice none 0 0) (.slice X1 X2 X3) (.slice M1 M2 M3) { a with dial := [], guid := List.replicate 16 0 } := ⟨_, rfl⟩
    rw [← hd1] at HE1 HI HN HN1
    clear hd1
    go_enter Tryd.func77, Tryd.ntmps77
    go_wp2_with (first
      | ((with_reducible show wpList _ _ _ (⟨some 3, _, _, _, _, _⟩ :: _) _ _); refine wpList_box_blk rfl _ (.tmp 1) rfl cs rfl ?_; intro g w1 hg1 hg2 K1 L1)
      | ((with_reducible show wpList _ _ _ (⟨some 4, _, _, _, _, _⟩ :: _) _ _); refine wpList_alloc_blk rfl _ rfl zs _ ZH ?_; intro h w2 hg3 hg4 Z2 L02; have G2 := Lib.hid (K1.out.over L02.out); have L2 := Lib.hid (step L1.out L02.out); have hgh : g ≠ h := (by omega); have hhw : w.heap.size ≤ h := (by have := L1.out.size; omega))
      | ((with_reducible show wpList _ _ _ (⟨none, .store _ (.tmp 11) _, _, _, _, _⟩ :: _) _ _); refine wpList_store_fld rfl _ (.tmp 11) (.const (.slice none 0 0)) rfl g 0 rfl _ cs (.slice none 0 0) rfl G2 HN0 (by kernel_rfl) rfl ?_; intro w3 K3 O3 q3; rw [HE0.out] at K3; have Z3 := Lib.hid (Z2.out.only O3.out (Ne.symm hgh)); have L3 : Hid (Below w.heap.size w w3) := below_only L2.out O3.out hg1)
      | ((with_reducible show wpList _ _ _ (⟨none, .store _ (.tmp 12) _, _, _, _, _⟩ :: _) _ _); refine wpList_store_midb rfl _ (.tmp 12) (.tmp 10) rfl g 1 rfl _ d0 lz rfl K3 16 size_guid HLZ HF OZ ?_; intro w4 K4 O4 q4; rw [HE1.out] at K4; have Z4 := Lib.hid (Z3.out.only O4.out (Ne.symm hgh)); have L4 : Hid (Below w.heap.size w w4) := below_only L3.out O4.out hg1)
      | ((with_reducible show wpList _ _ _ (⟨some 10, _, _, _, _, _⟩ :: _) _ _); refine wpList_build_none rfl _ rfl lz BL ?_)
      | ((with_reducible show wpList _ _ _ (⟨some 25, _, _, _, _, _⟩ :: _) _ _); refine wpList_load_blk rfl _ (.tmp 3) rfl g rfl _ d1 K4 69 _ Tryd.underlying32 rfl size_ask HN ?_)
      | ((with_reducible show wpList _ _ _ (⟨none, .store _ (.tmp 4) _, _, _, _, _⟩ :: _) _ _); refine wpList_store_blk rfl _ (.tmp 4) (.tmp 25) rfl h rfl _ zs d1 rfl Z4 69 size_ask HZ HN HN1 ?_; intro w9 K9 O9 hg9)
      | fail)
    have L9 := Lib.hid (below_only L4.out O9.out hhw)
    refine bodyPost_ret (v := .tuple #[.agg d1.toArray, .bool true]) ?_ rfl (HQ.out _ _ ⟨_, rfl, HI.out w9 L9.out, L9.out⟩)
    exact results_cell_two rfl _ _ h _ _ (0, 0) _ rfl K9.out Tryd.underlying32 rfl (by rw [size_ask]; have := HN.out; simp [this]) rfl
  by_cases h1 : c = 1
  · subst h1
    have e0 : (if knownT 1 = true then besideAsk 1 a else zeroAsk) = { a with proof := List.replicate 32 0, user := .empty } := rfl
    rw [e0, show knownT 1 = true from rfl] at HQ
    clear e0
    obtain ⟨A1, A2, A3, X1, X2, X3, M1, M2, M3, rfl, hA, hX, hM⟩ := ha
    have HI : Hid (∀ w' : World, Below w.heap.size w w' → AskIs w' w'.heap.size (acells (.slice A1 A2 A3) (.slice X1 X2 X3) (.slice M1 M2 M3) { a with proof := List.replicate 32 0, user := .empty }) ({ a with proof := List.replicate 32 0, user := .empty })) := fun w' hb => ⟨A1, A2, A3, X1, X2, X3, M1, M2, M3, rfl, hA.over hb, hX.over hb, hM.over hb⟩
    have HN : Hid ((acells (.slice A1 A2 A3) (.slice X1 X2 X3) (.slice M1 M2 M3) { a with proof := List.replicate 32 0, user := .empty }).length = 69) := acells_len (by have := besideAsk_ok (c := 1) ka; exact this)
    have HN1 : Hid (∀ v ∈ acells (.slice A1 A2 A3) (.slice X1 X2 X3) (.slice M1 M2 M3) { a with proof := List.replicate 32 0, user := .empty }, v.oneCell' = true) := acells_one rfl rfl rfl
    have HE0 : Hid ((acells (.slice A1 A2 A3) (.slice X1 X2 X3) (.slice M1 M2 M3) a).take 17 ++ ((List.replicate 32 (0 : Int)).map (Value.int .u8) ++ (acells (.slice A1 A2 A3) (.slice X1 X2 X3) (.slice M1 M2 M3) a).drop (17 + 32)) = acells (.slice A1 A2 A3) (.slice X1 X2 X3) (.slice M1 M2 M3) { a with proof := List.replicate 32 0 }) := acells_proofS ka (List.replicate 32 0)
    have HE1 : Hid ((acells (.slice A1 A2 A3) (.slice X1 X2 X3) (.slice M1 M2 M3) { a with proof := List.replicate 32 0 }).set 49 (.string .empty) = acells (.slice A1 A2 A3) (.slice X1 X2 X3) (.slice M1 M2 M3) { a with proof := List.replicate 32 0, user := .empty }) := acells_user (a := { a with proof := List.replicate 32 0 }) ⟨ka.dial, ka.glen, ka.gbyte, rfl, Bytes.zeros 32, ka.acc, ka.shr, ka.way, ka.opt, ka.lev, ka.dur, ka.file, ka.at_, ka.n, ka.data, ka.locks, ka.most, ka.cls, ka.siz⟩ .empty
    have HF : Hid (17 + 32 ≤ (acells (.slice A1 A2 A3) (.slice X1 X2 X3) (.slice M1 M2 M3) a).length) := by show _ ≤ _; simp [acells, atail, ka.glen, ka.plen]
    have HN0 : Hid (49 < (acells (.slice A1 A2 A3) (.slice X1 X2 X3) (.slice M1 M2 M3) { a with proof := List.replicate 32 0 }).length) := by show _ < _; simp [acells, atail, ka.glen]
    have HLZ : Hid (((List.replicate 32 (0 : Int)).map (Value.int .u8)).length = 32) := by show _ = _; simp
    have OZ : Hid (∀ v ∈ (List.replicate 32 (0 : Int)).map (Value.int .u8), v.oneCell' = true) := fun v hv => mem_nums hv
    have BL := built_proof
    obtain ⟨lz, hlz⟩ : ∃ z, z = (List.replicate 32 (0 : Int)).map (Value.int .u8) := ⟨_, rfl⟩
    rw [← hlz] at HLZ OZ BL HE0
    clear hlz
    obtain ⟨cs, hcs⟩ : ∃ c, c = acells (.slice A1 A2 A3) (.slice X1 X2 X3) (.slice M1 M2 M3) a := ⟨_, rfl⟩
    rw [← hcs] at HL HO1 HE0 HF ⊢
    clear hcs HA hA hX hM
    obtain ⟨d0, hd0⟩ : ∃ c, c = acells (.slice A1 A2 A3) (.slice X1 X2 X3) (.slice M1 M2 M3) { a with proof := List.replicate 32 0 } := ⟨_, rfl⟩
    rw [← hd0] at HE0 HE1 HN0
    clear hd0
    obtain ⟨d1, hd1⟩ : ∃ c, c = acells (.slice A1 A2 A3) (.slice X1 X2 X3) (.slice M1 M2 M3) { a with proof := List.replicate 32 0, user := .empty } := ⟨_, rfl⟩
    rw [← hd1] at HE1 HI HN HN1
    clear hd1
    go_enter Tryd.func77, Tryd.ntmps77
    go_wp2_with (first
      | ((with_reducible show wpList _ _ _ (⟨some 3, _, _, _, _, _⟩ :: _) _ _); refine wpList_box_blk rfl _ (.tmp 1) rfl cs rfl ?_; intro g w1 hg1 hg2 K1 L1)
      | ((with_reducible show wpList _ _ _ (⟨some 4, _, _, _, _, _⟩ :: _) _ _); refine wpList_alloc_blk rfl _ rfl zs _ ZH ?_; intro h w2 hg3 hg4 Z2 L02; have G2 := Lib.hid (K1.out.over L02.out); have L2 := Lib.hid (step L1.out L02.out); have hgh : g ≠ h := (by omega); have hhw : w.heap.size ≤ h := (by have := L1.out.size; omega))
      | ((with_reducible show wpList _ _ _ (⟨none, .store _ (.tmp 16) _, _, _, _, _⟩ :: _) _ _); refine wpList_store_midb rfl _ (.tmp 16) (.tmp 15) rfl g 17 rfl _ cs lz rfl G2 32 size_proof HLZ HF OZ ?_; intro w3 K3 O3 q3; rw [HE0.out] at K3; have Z3 := Lib.hid (Z2.out.only O3.out (Ne.symm hgh)); have L3 : Hid (Below w.heap.size w w3) := below_only L2.out O3.out hg1)
      | ((with_reducible show wpList _ _ _ (⟨none, .store _ (.tmp 17) _, _, _, _, _⟩ :: _) _ _); refine wpList_store_fld rfl _ (.tmp 17) (.const (.string .empty)) rfl g 49 rfl _ d0 (.string .empty) rfl K3 HN0 (by kernel_rfl) rfl ?_; intro w4 K4 O4 q4; rw [HE1.out] at K4; have Z4 := Lib.hid (Z3.out.only O4.out (Ne.symm hgh)); have L4 : Hid (Below w.heap.size w w4) := below_only L3.out O4.out hg1)
      | ((with_reducible show wpList _ _ _ (⟨some 15, _, _, _, _, _⟩ :: _) _ _); refine wpList_build_none rfl _ rfl lz BL ?_)
      | ((with_reducible show wpList _ _ _ (⟨some 25, _, _, _, _, _⟩ :: _) _ _); refine wpList_load_blk rfl _ (.tmp 3) rfl g rfl _ d1 K4 69 _ Tryd.underlying32 rfl size_ask HN ?_)
      | ((with_reducible show wpList _ _ _ (⟨none, .store _ (.tmp 4) _, _, _, _, _⟩ :: _) _ _); refine wpList_store_blk rfl _ (.tmp 4) (.tmp 25) rfl h rfl _ zs d1 rfl Z4 69 size_ask HZ HN HN1 ?_; intro w9 K9 O9 hg9)
      | fail)
    have L9 := Lib.hid (below_only L4.out O9.out hhw)
    refine bodyPost_ret (v := .tuple #[.agg d1.toArray, .bool true]) ?_ rfl (HQ.out _ _ ⟨_, rfl, HI.out w9 L9.out, L9.out⟩)
    exact results_cell_two rfl _ _ h _ _ (0, 0) _ rfl K9.out Tryd.underlying32 rfl (by rw [size_ask]; have := HN.out; simp [this]) rfl
  by_cases h3 : c = 3
  · subst h3
    have e0 : (if knownT 3 = true then besideAsk 3 a else zeroAsk) = { a with share := .empty } := rfl
    rw [e0, show knownT 3 = true from rfl] at HQ
    clear e0
    obtain ⟨A1, A2, A3, X1, X2, X3, M1, M2, M3, rfl, hA, hX, hM⟩ := ha
    have HI : Hid (∀ w' : World, Below w.heap.size w w' → AskIs w' w'.heap.size (acells (.slice A1 A2 A3) (.slice X1 X2 X3) (.slice M1 M2 M3) { a with share := .empty }) ({ a with share := .empty })) := fun w' hb => ⟨A1, A2, A3, X1, X2, X3, M1, M2, M3, rfl, hA.over hb, hX.over hb, hM.over hb⟩
    have HN : Hid ((acells (.slice A1 A2 A3) (.slice X1 X2 X3) (.slice M1 M2 M3) { a with share := .empty }).length = 69) := acells_len (by have := besideAsk_ok (c := 3) ka; exact this)
    have HN1 : Hid (∀ v ∈ acells (.slice A1 A2 A3) (.slice X1 X2 X3) (.slice M1 M2 M3) { a with share := .empty }, v.oneCell' = true) := acells_one rfl rfl rfl
    have HE0 : Hid ((acells (.slice A1 A2 A3) (.slice X1 X2 X3) (.slice M1 M2 M3) a).set 50 (.string .empty) = acells (.slice A1 A2 A3) (.slice X1 X2 X3) (.slice M1 M2 M3) { a with share := .empty }) := acells_share ka .empty
    have HN0 : Hid (50 < (acells (.slice A1 A2 A3) (.slice X1 X2 X3) (.slice M1 M2 M3) a).length) := by show _ < _; simp [acells, atail, ka.glen, ka.plen]
    obtain ⟨cs, hcs⟩ : ∃ c, c = acells (.slice A1 A2 A3) (.slice X1 X2 X3) (.slice M1 M2 M3) a := ⟨_, rfl⟩
    rw [← hcs] at HL HO1 HE0 HN0 ⊢
    clear hcs HA hA hX hM
    obtain ⟨d0, hd0⟩ : ∃ c, c = acells (.slice A1 A2 A3) (.slice X1 X2 X3) (.slice M1 M2 M3) { a with share := .empty } := ⟨_, rfl⟩
    rw [← hd0] at HE0 HI HN HN1
    clear hd0
    go_enter Tryd.func77, Tryd.ntmps77
    go_wp2_with (first
      | ((with_reducible show wpList _ _ _ (⟨some 3, _, _, _, _, _⟩ :: _) _ _); refine wpList_box_blk rfl _ (.tmp 1) rfl cs rfl ?_; intro g w1 hg1 hg2 K1 L1)
      | ((with_reducible show wpList _ _ _ (⟨some 4, _, _, _, _, _⟩ :: _) _ _); refine wpList_alloc_blk rfl _ rfl zs _ ZH ?_; intro h w2 hg3 hg4 Z2 L02; have G2 := Lib.hid (K1.out.over L02.out); have L2 := Lib.hid (step L1.out L02.out); have hgh : g ≠ h := (by omega); have hhw : w.heap.size ≤ h := (by have := L1.out.size; omega))
      | ((with_reducible show wpList _ _ _ (⟨none, .store _ (.tmp 20) _, _, _, _, _⟩ :: _) _ _); refine wpList_store_fld rfl _ (.tmp 20) (.const (.string .empty)) rfl g 50 rfl _ cs (.string .empty) rfl G2 HN0 (by kernel_rfl) rfl ?_; intro w3 K3 O3 q3; rw [HE0.out] at K3; have Z3 := Lib.hid (Z2.out.only O3.out (Ne.symm hgh)); have L3 : Hid (Below w.heap.size w w3) := below_only L2.out O3.out hg1)
      | ((with_reducible show wpList _ _ _ (⟨some 25, _, _, _, _, _⟩ :: _) _ _); refine wpList_load_blk rfl _ (.tmp 3) rfl g rfl _ d0 K3 69 _ Tryd.underlying32 rfl size_ask HN ?_)
      | ((with_reducible show wpList _ _ _ (⟨none, .store _ (.tmp 4) _, _, _, _, _⟩ :: _) _ _); refine wpList_store_blk rfl _ (.tmp 4) (.tmp 25) rfl h rfl _ zs d0 rfl Z3 69 size_ask HZ HN HN1 ?_; intro w9 K9 O9 hg9)
      | fail)
    have L9 := Lib.hid (below_only L3.out O9.out hhw)
    refine bodyPost_ret (v := .tuple #[.agg d0.toArray, .bool true]) ?_ rfl (HQ.out _ _ ⟨_, rfl, HI.out w9 L9.out, L9.out⟩)
    exact results_cell_two rfl _ _ h _ _ (0, 0) _ rfl K9.out Tryd.underlying32 rfl (by rw [size_ask]; have := HN.out; simp [this]) rfl
  by_cases h2 : c = 2
  · subst h2
    have e0 : (if knownT 2 = true then besideAsk 2 a else zeroAsk) = a := rfl
    rw [e0, show knownT 2 = true from rfl] at HQ
    clear e0
    obtain ⟨A1, A2, A3, X1, X2, X3, M1, M2, M3, rfl, hA, hX, hM⟩ := ha
    have HI : Hid (∀ w' : World, Below w.heap.size w w' → AskIs w' w'.heap.size (acells (.slice A1 A2 A3) (.slice X1 X2 X3) (.slice M1 M2 M3) a) (a)) := fun w' hb => ⟨A1, A2, A3, X1, X2, X3, M1, M2, M3, rfl, hA.over hb, hX.over hb, hM.over hb⟩
    have HN : Hid ((acells (.slice A1 A2 A3) (.slice X1 X2 X3) (.slice M1 M2 M3) a).length = 69) := acells_len (ka)
    have HN1 : Hid (∀ v ∈ acells (.slice A1 A2 A3) (.slice X1 X2 X3) (.slice M1 M2 M3) a, v.oneCell' = true) := acells_one rfl rfl rfl
    obtain ⟨cs, hcs⟩ : ∃ c, c = acells (.slice A1 A2 A3) (.slice X1 X2 X3) (.slice M1 M2 M3) a := ⟨_, rfl⟩
    rw [← hcs] at HL HO1 HI HN HN1 ⊢
    clear hcs HA hA hX hM
    go_enter Tryd.func77, Tryd.ntmps77
    go_wp2_with (first
      | ((with_reducible show wpList _ _ _ (⟨some 3, _, _, _, _, _⟩ :: _) _ _); refine wpList_box_blk rfl _ (.tmp 1) rfl cs rfl ?_; intro g w1 hg1 hg2 K1 L1)
      | ((with_reducible show wpList _ _ _ (⟨some 4, _, _, _, _, _⟩ :: _) _ _); refine wpList_alloc_blk rfl _ rfl zs _ ZH ?_; intro h w2 hg3 hg4 Z2 L02; have G2 := Lib.hid (K1.out.over L02.out); have L2 := Lib.hid (step L1.out L02.out); have hgh : g ≠ h := (by omega); have hhw : w.heap.size ≤ h := (by have := L1.out.size; omega))
      | ((with_reducible show wpList _ _ _ (⟨some 25, _, _, _, _, _⟩ :: _) _ _); refine wpList_load_blk rfl _ (.tmp 3) rfl g rfl _ cs G2 69 _ Tryd.underlying32 rfl size_ask HN ?_)
      | ((with_reducible show wpList _ _ _ (⟨none, .store _ (.tmp 4) _, _, _, _, _⟩ :: _) _ _); refine wpList_store_blk rfl _ (.tmp 4) (.tmp 25) rfl h rfl _ zs cs rfl Z2 69 size_ask HZ HN HN1 ?_; intro w9 K9 O9 hg9)
      | fail)
    have L9 := Lib.hid (below_only L2.out O9.out hhw)
    refine bodyPost_ret (v := .tuple #[.agg cs.toArray, .bool true]) ?_ rfl (HQ.out _ _ ⟨_, rfl, HI.out w9 L9.out, L9.out⟩)
    exact results_cell_two rfl _ _ h _ _ (0, 0) _ rfl K9.out Tryd.underlying32 rfl (by rw [size_ask]; have := HN.out; simp [this]) rfl
  by_cases h4 : c = 4
  · subst h4
    have e0 : (if knownT 4 = true then besideAsk 4 a else zeroAsk) = a := rfl
    rw [e0, show knownT 4 = true from rfl] at HQ
    clear e0
    obtain ⟨A1, A2, A3, X1, X2, X3, M1, M2, M3, rfl, hA, hX, hM⟩ := ha
    have HI : Hid (∀ w' : World, Below w.heap.size w w' → AskIs w' w'.heap.size (acells (.slice A1 A2 A3) (.slice X1 X2 X3) (.slice M1 M2 M3) a) (a)) := fun w' hb => ⟨A1, A2, A3, X1, X2, X3, M1, M2, M3, rfl, hA.over hb, hX.over hb, hM.over hb⟩
    have HN : Hid ((acells (.slice A1 A2 A3) (.slice X1 X2 X3) (.slice M1 M2 M3) a).length = 69) := acells_len (ka)
    have HN1 : Hid (∀ v ∈ acells (.slice A1 A2 A3) (.slice X1 X2 X3) (.slice M1 M2 M3) a, v.oneCell' = true) := acells_one rfl rfl rfl
    obtain ⟨cs, hcs⟩ : ∃ c, c = acells (.slice A1 A2 A3) (.slice X1 X2 X3) (.slice M1 M2 M3) a := ⟨_, rfl⟩
    rw [← hcs] at HL HO1 HI HN HN1 ⊢
    clear hcs HA hA hX hM
    go_enter Tryd.func77, Tryd.ntmps77
    go_wp2_with (first
      | ((with_reducible show wpList _ _ _ (⟨some 3, _, _, _, _, _⟩ :: _) _ _); refine wpList_box_blk rfl _ (.tmp 1) rfl cs rfl ?_; intro g w1 hg1 hg2 K1 L1)
      | ((with_reducible show wpList _ _ _ (⟨some 4, _, _, _, _, _⟩ :: _) _ _); refine wpList_alloc_blk rfl _ rfl zs _ ZH ?_; intro h w2 hg3 hg4 Z2 L02; have G2 := Lib.hid (K1.out.over L02.out); have L2 := Lib.hid (step L1.out L02.out); have hgh : g ≠ h := (by omega); have hhw : w.heap.size ≤ h := (by have := L1.out.size; omega))
      | ((with_reducible show wpList _ _ _ (⟨some 25, _, _, _, _, _⟩ :: _) _ _); refine wpList_load_blk rfl _ (.tmp 3) rfl g rfl _ cs G2 69 _ Tryd.underlying32 rfl size_ask HN ?_)
      | ((with_reducible show wpList _ _ _ (⟨none, .store _ (.tmp 4) _, _, _, _, _⟩ :: _) _ _); refine wpList_store_blk rfl _ (.tmp 4) (.tmp 25) rfl h rfl _ zs cs rfl Z2 69 size_ask HZ HN HN1 ?_; intro w9 K9 O9 hg9)
      | fail)
    have L9 := Lib.hid (below_only L2.out O9.out hhw)
    refine bodyPost_ret (v := .tuple #[.agg cs.toArray, .bool true]) ?_ rfl (HQ.out _ _ ⟨_, rfl, HI.out w9 L9.out, L9.out⟩)
    exact results_cell_two rfl _ _ h _ _ (0, 0) _ rfl K9.out Tryd.underlying32 rfl (by rw [size_ask]; have := HN.out; simp [this]) rfl
  by_cases h13 : c = 13
  · subst h13
    have e0 : (if knownT 13 = true then besideAsk 13 a else zeroAsk) = a := rfl
    rw [e0, show knownT 13 = true from rfl] at HQ
    clear e0
    obtain ⟨A1, A2, A3, X1, X2, X3, M1, M2, M3, rfl, hA, hX, hM⟩ := ha
    have HI : Hid (∀ w' : World, Below w.heap.size w w' → AskIs w' w'.heap.size (acells (.slice A1 A2 A3) (.slice X1 X2 X3) (.slice M1 M2 M3) a) (a)) := fun w' hb => ⟨A1, A2, A3, X1, X2, X3, M1, M2, M3, rfl, hA.over hb, hX.over hb, hM.over hb⟩
    have HN : Hid ((acells (.slice A1 A2 A3) (.slice X1 X2 X3) (.slice M1 M2 M3) a).length = 69) := acells_len (ka)
    have HN1 : Hid (∀ v ∈ acells (.slice A1 A2 A3) (.slice X1 X2 X3) (.slice M1 M2 M3) a, v.oneCell' = true) := acells_one rfl rfl rfl
    obtain ⟨cs, hcs⟩ : ∃ c, c = acells (.slice A1 A2 A3) (.slice X1 X2 X3) (.slice M1 M2 M3) a := ⟨_, rfl⟩
    rw [← hcs] at HL HO1 HI HN HN1 ⊢
    clear hcs HA hA hX hM
    go_enter Tryd.func77, Tryd.ntmps77
    go_wp2_with (first
      | ((with_reducible show wpList _ _ _ (⟨some 3, _, _, _, _, _⟩ :: _) _ _); refine wpList_box_blk rfl _ (.tmp 1) rfl cs rfl ?_; intro g w1 hg1 hg2 K1 L1)
      | ((with_reducible show wpList _ _ _ (⟨some 4, _, _, _, _, _⟩ :: _) _ _); refine wpList_alloc_blk rfl _ rfl zs _ ZH ?_; intro h w2 hg3 hg4 Z2 L02; have G2 := Lib.hid (K1.out.over L02.out); have L2 := Lib.hid (step L1.out L02.out); have hgh : g ≠ h := (by omega); have hhw : w.heap.size ≤ h := (by have := L1.out.size; omega))
      | ((with_reducible show wpList _ _ _ (⟨some 25, _, _, _, _, _⟩ :: _) _ _); refine wpList_load_blk rfl _ (.tmp 3) rfl g rfl _ cs G2 69 _ Tryd.underlying32 rfl size_ask HN ?_)
      | ((with_reducible show wpList _ _ _ (⟨none, .store _ (.tmp 4) _, _, _, _, _⟩ :: _) _ _); refine wpList_store_blk rfl _ (.tmp 4) (.tmp 25) rfl h rfl _ zs cs rfl Z2 69 size_ask HZ HN HN1 ?_; intro w9 K9 O9 hg9)
      | fail)
    have L9 := Lib.hid (below_only L2.out O9.out hhw)
    refine bodyPost_ret (v := .tuple #[.agg cs.toArray, .bool true]) ?_ rfl (HQ.out _ _ ⟨_, rfl, HI.out w9 L9.out, L9.out⟩)
    exact results_cell_two rfl _ _ h _ _ (0, 0) _ rfl K9.out Tryd.underlying32 rfl (by rw [size_ask]; have := HN.out; simp [this]) rfl
  have hk : knownT c = false := by unfold knownT; simp; omega
  rw [if_neg (by rw [hk]; decide), hk] at HQ
  have b0 : (c == 0) = false := by simpa using h0
  have b1 : (c == 1) = false := by simpa using h1
  have b3 : (c == 3) = false := by simpa using h3
  have b2 : (c == 2) = false := by simpa using h2
  have b4 : (c == 4) = false := by simpa using h4
  have b13 : (c == 13) = false := by simpa using h13
  go_enter Tryd.func77, Tryd.ntmps77
  go_wp2_with (first
    | ((with_reducible show wpList _ _ _ (⟨some 3, _, _, _, _, _⟩ :: _) _ _); refine wpList_box_blk rfl _ (.tmp 1) rfl cs rfl ?_; intro g w1 hg1 hg2 K1 L1)
    | ((with_reducible show wpList _ _ _ (⟨some 4, _, _, _, _, _⟩ :: _) _ _); refine wpList_alloc_blk rfl _ rfl zs _ ZH ?_; intro h w2 hg3 hg4 Z2 L02; have G2 := Lib.hid (K1.out.over L02.out); have L2 := Lib.hid (step L1.out L02.out); have hgh : g ≠ h := (by omega); have hhw : w.heap.size ≤ h := (by have := L1.out.size; omega))
    | ((with_reducible show wpList _ _ _ (⟨some 7, _, _, _, _, _⟩ :: _) _ _); refine wpList_build_none rfl _ rfl zs BZ ?_)
    | ((with_reducible show wpList _ _ _ (⟨none, .store _ (.tmp 4) _, _, _, _, _⟩ :: _) _ _); refine wpList_store_blk rfl _ (.tmp 4) (.tmp 7) rfl h rfl _ zs zs rfl Z2 69 size_ask HZ HZ HZ1 ?_; intro w9 K9 O9 hg9)
    | fail)
  have L9 := Lib.hid (below_only L2.out O9.out hhw)
  refine bodyPost_ret (v := .tuple #[.agg zs.toArray, .bool false]) ?_ rfl (HQ.out _ _ ⟨_, rfl, HZI.out w9, L9.out⟩)
  exact results_cell_two rfl _ _ h _ _ (0, 0) _ rfl K9.out Tryd.underlying32 rfl (by rw [size_ask]; have := HZ.out; simp [this]) rfl
end Go.Proofs.YtbbjmmooemmeiaaDoor

namespace Go.Proofs.YtbbjmmooemmeiaaDoor
set_option linter.all false
open Go.RowKit
set_option linter.unusedVariables false
set_option maxRecDepth 100000
def dialsOf (xs : List Int) : List Int := xs.flatMap (fun d => le d 2)
def offerOf (a : AskV) : List Int := le a.dial.length 2 ++ dialsOf a.dial ++ a.guid
theorem dialsOf_len (xs : List Int) : (dialsOf xs).length = 2 * xs.length := by
  induction xs with
  | nil => rfl
  | cons x xs ih => rw [show dialsOf (x :: xs) = le x 2 ++ dialsOf xs from rfl, List.length_append, le_length, ih, List.length_cons]; omega
theorem dialsOf_snoc (xs : List Int) (x : Int) : dialsOf (xs ++ [x]) = dialsOf xs ++ le x 2 := by simp [dialsOf]
theorem number_le (w : World) (n : Int) (h0 : 0 ≤ n) (h1 : n ≤ 65535) :
    Calls Tryd.prog 89 #[.int .u64 n, .int .i64 2] w fun e w' => ∃ A', e = .returned (.slice A' 2 2) ∧ Fresh w' w.heap.size A' (le n 2) ∧ Below w.heap.size w w' := by
  obtain ⟨m, rfl⟩ := Int.eq_ofNat_of_zero_le h0
  have h := number_any w (m : Int) 2 (by omega) (by omega)
  unfold NumPost at h
  rw [(putOf2 m (by omega)).1, le_length] at h
  exact h
theorem acells_guidH {vd vx vl : Value} {a : AskV} {w : World} {g : Nat} {T : TypeId} (k : a.ok) (h : Blk w g T (acells vd vx vl a)) : Holds w w.heap.size (some ⟨g, 1, none⟩) 16 16 a.guid := by
  have hr := acells_guid h k
  refine ⟨k.glen, Nat.le_refl _, by decide, k.gbyte, fun hA => (by cases hA), fun _ => ⟨g, 1, rfl, h.lt, fun i hi => ?_⟩⟩
  rw [hr i (.int .u8 (a.guid.getD i 0)) (by
    have : i < a.guid.length := by rw [k.glen]; exact hi
    simp [List.getD_eq_getElem?_getD, this])]
theorem acells_proofH {vd vx vl : Value} {a : AskV} {w : World} {g : Nat} {T : TypeId} (k : a.ok) (h : Blk w g T (acells vd vx vl a)) : Holds w w.heap.size (some ⟨g, 17, none⟩) 32 32 a.proof := by
  have hr := acells_proof h k
  refine ⟨k.plen, Nat.le_refl _, by decide, k.pbyte, fun hA => (by cases hA), fun _ => ⟨g, 17, rfl, h.lt, fun i hi => ?_⟩⟩
  rw [hr i (.int .u8 (a.proof.getD i 0)) (by
    have : i < a.proof.length := by rw [k.plen]; exact hi
    simp [List.getD_eq_getElem?_getD, this])]
def OfferPost (w : World) (a : AskV) (e : Ending) (w' : World) : Prop := ∃ v, e = .returned (.tuple #[v, .int .i64 (if a.dial.length ≤ 16 then 0 else 3)]) ∧ Own w' w.heap.size v (if a.dial.length ≤ 16 then offerOf a else []) ∧ Below w.heap.size w w'
set_option maxHeartbeats 2000000 in
theorem putOffer_any (w : World) (cs : List Value) (a : AskV) (ka : a.ok) (ha : AskIs w w.heap.size cs a) :
    Calls Tryd.prog 79 #[.agg cs.toArray] w (OfferPost w a) := by
  obtain ⟨D1, D2, D3, X1, X2, X3, M1, M2, M3, rfl, hD, hX, hM⟩ := ha
  have hl := hD.len
  have FA : Hid (∀ (w : World) (g : Nat), Blk w g 32 (acells (.slice D1 D2 D3) (.slice X1 X2 X3) (.slice M1 M2 M3) a) → w.cell? ⟨g, 0, none⟩ = some (.slice D1 D2 D3)) := fun w g h => h.at rfl
  have RG : Hid (∀ (w : World) (g : Nat), Blk w g 32 (acells (.slice D1 D2 D3) (.slice X1 X2 X3) (.slice M1 M2 M3) a) → Holds w w.heap.size (some ⟨g, 1, none⟩) 16 16 a.guid) := fun w g h => acells_guidH ka h
  have HDB := Lib.hid ka.dial
  have HGL := Lib.hid ka.glen
  obtain ⟨cs, hcs⟩ : ∃ c, c = acells (.slice D1 D2 D3) (.slice X1 X2 X3) (.slice M1 M2 M3) a := ⟨_, rfl⟩
  rw [← hcs] at FA RG ⊢
  clear hcs hX hM ka
  by_cases hn : D2 ≤ 16
  rotate_left
  · have HQ : Hid (∀ e w', e = .returned (.tuple #[.slice none 0 0, .int .i64 3]) → Below w.heap.size w w' → OfferPost w a e w') := by
      intro e w' he hb
      unfold OfferPost
      rw [hl, if_neg hn, if_neg hn]
      exact ⟨_, he, Own.nil _ _, hb⟩
    have hn' : 16 < D2 := by omega
    clear hl hD
    go_enter Tryd.func79, Tryd.ntmps79
    go_wp2_with (first
      | ((with_reducible show wpList _ _ _ (⟨some 1, _, _, _, _, _⟩ :: _) _ _); refine wpList_box_blk rfl _ (.tmp 0) rfl cs rfl ?_; intro g w1 hg1 hg2 K1 L1; have gd := FA.out _ _ K1.out)
      | fail)
    go_ret2
    exact HQ.out _ _ rfl L1.out
  have HQ : Hid (∀ e w', (∃ v, e = .returned (.tuple #[v, .int .i64 0]) ∧ Own w' w.heap.size v (le D2 2 ++ dialsOf a.dial ++ a.guid) ∧ Below w.heap.size w w') → OfferPost w a e w') := by
    intro e w' hh
    unfold OfferPost offerOf
    rw [hl, if_pos hn, if_pos hn]
    exact hh
  have HDL := Lib.hid hl
  have HD := Lib.hid hD
  have HF := Lib.hid hD.fit
  have hz : IntKind.u64.wrap (D2 : Int) = D2 := by rw [IntKind.wrap_u64]; omega
  obtain ⟨ds, hds⟩ : ∃ d, d = a.dial := ⟨_, rfl⟩
  obtain ⟨gs, hgs⟩ : ∃ d, d = a.guid := ⟨_, rfl⟩
  rw [← hds] at HQ HDL HD HDB
  rw [← hgs] at HQ RG HGL
  clear hl hD hds hgs
  go_enter Tryd.func79, Tryd.ntmps79
  go_wp2_with (first
    | ((with_reducible show wpList _ _ _ (⟨some 1, _, _, _, _, _⟩ :: _) _ _); refine wpList_box_blk rfl _ (.tmp 0) rfl cs rfl ?_; intro g w1 hg1 hg2 K1 L1; have gd := FA.out _ _ K1.out)
    | fail)
  refine (number_le w1 (D2 : Int) (by omega) (by omega)).mono ?_
  rintro e w2 ⟨A', rfl, hf2, L2⟩
  have gd2 := FA.out _ _ (K1.out.over L2)
  have HO2 := Lib.hid (hf2.own (n := 2) (by rw [le_length]) (by omega))
  have M2 := Lib.hid L2
  have hs2 := L2.size
  clear gd hf2 L2
  go_wp2
  go_loopw [4, 19] (fun v i wr => ∃ j : Nat, i = .int .i64 j ∧ j ≤ D2 ∧ Hid (Own wr w1.heap.size v (le D2 2 ++ dialsOf (ds.take j))) ∧ Hid (Below w1.heap.size w1 wr)) (fun _ i _ => D2 - (intOf i).toNat)
  case atStart => exact ⟨0, rfl, Nat.zero_le _, (by show Own _ _ _ _; simpa [dialsOf] using HO2.out), M2⟩
  case round =>
    obtain ⟨j, rfl, hj, HO, HL⟩ := hrel
    have hsr := HL.out.size
    by_cases hlt : j < D2
    · have HDr := HD.out.over (step L1.out HL.out)
      have hft := HF.out
      obtain ⟨b, off, rfl, hb, hc⟩ := HDr.cells (by omega)
      obtain ⟨x, hx⟩ : ∃ x, ds[j]? = some x := ⟨_, List.getElem?_eq_getElem (by have := HDL.out; omega)⟩
      have gc := hc j x hx
      obtain ⟨x0, x1⟩ := HDB.out x (List.mem_of_getElem? hx)
      have E1 : Hid (le D2 2 ++ dialsOf (ds.take (j + 1)) = le D2 2 ++ dialsOf (ds.take j) ++ le x 2) := by
        show _ = _
        rw [List.take_add_one, hx, Option.toList_some, dialsOf_snoc, List.append_assoc]
      have HLEN : Hid ((le (D2 : Int) 2 ++ dialsOf (ds.take j)).length + (le x 2).length ≤ 140737488355328) := by
        show _ ≤ _
        rw [List.length_append, le_length, le_length, dialsOf_len, List.length_take]
        omega
      have HXB : Hid (Bytes (le x 2)) := le_bytes _ _
      have HXL : Hid ((le x 2).length = 2) := le_length _ _
      have hxz : IntKind.u64.wrap x = x := by rw [IntKind.wrap_u64]; omega
      obtain ⟨P, hP⟩ : ∃ P, P = le (D2 : Int) 2 ++ dialsOf (ds.take j) := ⟨_, rfl⟩
      rw [← hP] at E1 HLEN HO
      have CN : Hid (∀ w : World, Calls Tryd.prog 89 #[.int .u64 x, .int .i64 2] w fun e w' => ∃ A', e = .returned (.slice A' 2 2) ∧ Fresh w' w.heap.size A' (le x 2) ∧ Below w.heap.size w w') := fun w => number_le w x x0 x1
      obtain ⟨lx, hlx⟩ : ∃ P, P = le x 2 := ⟨_, rfl⟩
      rw [← hlx] at E1 HLEN HXB HXL CN
      clear hc hx hP hlx HDr
      go_wp2_with fail
      refine (CN.out wr).mono ?_
      rintro e w3 ⟨A3, rfl, hf3, L3⟩
      have HH := Lib.hid (hf3.holds HXL.out HXB.out (by omega))
      have HO3 := Lib.hid (HO.out.below L3)
      have M3 := Lib.hid (HL.out.trans (L3.mono hsr))
      have hs3 := M3.out.size
      clear hf3 L3 HO CN gc
      go_wp2_with (first
        | (at_builtin; refine wpList_append_bytes rfl (.tmp 23) (.tmp 26) rfl w1.heap.size _ P rfl HO3.out w3.heap.size A3 2 2 lx rfl HH.out HLEN.out hs3 ?_; intro v4 w4 ho4 hb4 hgr)
        | fail)
      have HO4 : Hid (Own w4 w1.heap.size v4 (le D2 2 ++ dialsOf (ds.take (j + 1)))) := by rw [E1.out]; exact ho4.out
      have M4 := Lib.hid (M3.out.trans hb4)
      clear ho4 hb4 hgr HH HO3 M3
      go_wp2
      go_roundw
      case rel => exact ⟨j + 1, by go_num, hlt, HO4, M4⟩
      case measure => simp [intOf]; omega
    · obtain rfl : j = D2 := by omega
      have HO5 : Hid (Own wr w1.heap.size u4 (le (j : Int) 2 ++ dialsOf ds)) := by
        have h := HO.out
        rwa [List.take_of_length_le (by have := HDL.out; omega)] at h
      have HG := Lib.hid (RG.out _ _ (K1.out.over HL.out))
      have HLEN : Hid ((le (j : Int) 2 ++ dialsOf ds).length + gs.length ≤ 140737488355328) := by
        show _ ≤ _
        have h1 := HGL.out
        have h2 := HDL.out
        rw [List.length_append, le_length, dialsOf_len]
        omega
      have hs1 := L1.out.size
      obtain ⟨P, hP⟩ : ∃ P, P = le (j : Int) 2 ++ dialsOf ds := ⟨_, rfl⟩
      rw [← hP] at HO5 HLEN HQ
      clear HO hP
      go_wp2_with (first
        | (at_builtin; refine wpList_append_bytes rfl (.tmp 29) (.tmp 31) rfl w1.heap.size _ P rfl HO5.out wr.heap.size (some ⟨g, 1, none⟩) 16 16 gs rfl HG.out HLEN.out hsr ?_; intro v4 w4 ho4 hb4 hgr)
        | fail)
      go_ret2
      exact HQ.out _ _ ⟨_, rfl, ho4.out.mono hs1, L1.out.trans ((HL.out.trans hb4).mono hs1)⟩
end Go.Proofs.YtbbjmmooemmeiaaDoor

namespace Go.Proofs.YtbbjmmooemmeiaaDoor
set_option linter.all false
open Go.RowKit
set_option linter.unusedVariables false
set_option maxRecDepth 100000
def askErrP (c : Int) (a : AskV) : Int :=
  if knownT c = true ∧ besideAsk c a = zeroAsk then (if c = 0 then (if a.dial.length ≤ 16 then 0 else 3) else if c = 1 then ptextErr a.user.data.toList else if c = 3 then ptextErr a.share.data.toList else 0) else 2
def askOfP (c : Int) (a : AskV) : List Int :=
  if askErrP c a = 0 then (if c = 0 then offerOf a else if c = 1 then a.proof ++ ptextOf a.user.data.toList else if c = 3 then ptextOf a.share.data.toList else List.replicate 4 0) else []
def PAskPost (w : World) (c : Int) (a : AskV) (e : Ending) (w' : World) : Prop := ∃ v, e = .returned (.tuple #[v, .int .i64 (askErrP c a)]) ∧ Own w' w.heap.size v (askOfP c a) ∧ Below w.heap.size w w'
theorem row_zeros {w : World} {g base n : Nat} (h : Row w g (List.replicate n 0)) (hb : base ≤ g) (hn : n ≤ 281474976710656) : Own w base (.slice (some ⟨g, 0, none⟩) n n) (List.replicate n 0) :=
  Fresh.own (.inr ⟨g, rfl, hb, h⟩) (by simp) hn
theorem rowOf_le (l : List UInt8) : (ptextOf l).length ≤ 514 := by
  unfold ptextOf
  split
  · rename_i h
    have h2 : (putOfL l).length ≤ 512 := by
      unfold ptextErr at h
      by_cases ht : textErr l = 0
      · rw [if_pos ht] at h
        by_cases hm : (putOfL l).length ≤ 512
        · exact hm
        · rw [if_neg hm] at h; exact absurd h (by decide)
      · rw [if_neg ht] at h; exact absurd h ht
    rw [rowOf_len _ (by omega)]
    omega
  · simp
theorem ptextOf_bytes (l : List UInt8) : Bytes (ptextOf l) := by
  unfold ptextOf
  split
  · exact rowOf_bytes (putOfL_byte l)
  · exact Bytes.nil
set_option maxHeartbeats 4000000 in
theorem PutAsk_any (w : World) (c : Int) (cs : List Value) (a : AskV) (hc : 0 ≤ c ∧ c ≤ 65535) (ka : a.ok) (ha : AskIs w w.heap.size cs a) (hu : a.user.size ≤ 17592186044416 ∧ a.share.size ≤ 17592186044416) (hT : Tabs w) :
    Calls Tryd.prog 64 #[.int .u16 c, .agg cs.toArray] w (PAskPost w c a) := by
  have HL := Lib.hid (ha.len ka)
  have HO1 := Lib.hid ha.one
  have ZH := Lib.hid zero_ask
  have HZ : Hid ((acells (.slice none 0 0) (.slice none 0 0) (.slice none 0 0) zeroAsk).length = 69) := acells_len zeroAsk_ok
  have HA := Lib.hid ha
  have HT := Lib.hid hT
  obtain ⟨hu0, hu1⟩ := hu
  have CB : Hid (∀ w' : World, Below w.heap.size w w' → Calls Tryd.prog 77 #[.int .u16 c, .agg cs.toArray] w' fun e w2 => ∃ ds, e = .returned (.tuple #[.agg ds.toArray, .bool (knownT c)]) ∧ AskIs w2 w2.heap.size ds (if knownT c = true then besideAsk c a else zeroAsk) ∧ Below w'.heap.size w' w2) := fun w' hb => askBeside_any w' c cs a hc ka (ha.over hb)
  obtain ⟨zs, hzs⟩ : ∃ zs, zs = acells (.slice none 0 0) (.slice none 0 0) (.slice none 0 0) zeroAsk := ⟨_, rfl⟩
  rw [← hzs] at ZH HZ
  clear hzs
  by_cases hk : knownT c = true
  rotate_left
  · have hk' : knownT c = false := by simpa using hk
    have HQ : Hid (∀ e w', e = .returned (.tuple #[.slice none 0 0, .int .i64 2]) → Below w.heap.size w w' → PAskPost w c a e w') := by
      intro e w' he hb
      have h2 : askErrP c a = 2 := by unfold askErrP; rw [if_neg (fun h => hk h.1)]
      unfold PAskPost askOfP
      rw [h2, if_neg (by decide)]
      exact ⟨_, he, Own.nil _ _, hb⟩
    rw [if_neg hk, hk'] at CB
    have kb := zeroAsk_ok
    clear hk hk' HA ka ha
    go_enter Tryd.func64, Tryd.ntmps64
    go_wp2_with (first
      | ((with_reducible show wpList _ _ _ (⟨some 3, _, _, _, _, _⟩ :: _) _ _); refine wpList_box_blk rfl _ (.tmp 1) rfl cs rfl ?_; intro g w1 hg1 hg2 K1 L1)
      | ((with_reducible show wpList _ _ _ (⟨some 12, _, _, _, _, _⟩ :: _) _ _); refine wpList_load_blk rfl _ (.tmp 3) rfl g rfl _ cs K1 69 _ Tryd.underlying32 rfl size_ask HL ?_)
      | fail)
    refine (CB.out w1 L1.out).mono ?_
    rintro e w2 ⟨ds, rfl, hds, L2⟩
    have HD := Lib.hid hds
    have HDL := Lib.hid (hds.len kb)
    have HDO := Lib.hid hds.one
    have K2 := Lib.hid (K1.out.over L2)
    have M2 := Lib.hid (step L1.out L2)
    clear hds L2 K1
    go_wp2_with (first
      | ((with_reducible show wpList _ _ _ (⟨some 6, _, _, _, _, _⟩ :: _) _ _); refine wpList_alloc_blk rfl _ rfl zs _ ZH ?_; intro h w3 hg3 hg4 Z3 L3)
      | ((with_reducible show wpList _ _ _ (⟨none, .store _ (.tmp 6) _, _, _, _, _⟩ :: _) _ _); refine wpList_store_blk rfl _ (.tmp 6) (.tmp 14) rfl h rfl _ zs ds rfl Z3 69 size_ask HZ HDL HDO ?_; intro w4 X4 O4 hg5; have L4 := Lib.hid (below_only L3.out O4.out hg3); have M4 := Lib.hid (step M2.out L4.out); have K4 := Lib.hid (K2.out.over L4.out); have HD4 := Lib.hid (HD.out.over L4.out))
      | fail)
    go_ret2
    exact HQ.out _ _ rfl M4.out
  rw [if_pos hk, hk] at CB
  have kb := besideAsk_ok (c := c) ka
  have CZ : Hid (∀ (w' : World) (ds : List Value), AskIs w' w'.heap.size ds (besideAsk c a) → Calls Tryd.prog 78 #[.agg ds.toArray] w' fun e w2 => e = .returned (.bool (decide (besideAsk c a = zeroAsk))) ∧ Below w'.heap.size w' w2) := fun w' ds hds => isZeroAsk_any w' ds _ kb hds
  by_cases hz : besideAsk c a = zeroAsk
  rotate_left
  · rw [decide_eq_false hz] at CZ
    have HQ : Hid (∀ e w', e = .returned (.tuple #[.slice none 0 0, .int .i64 2]) → Below w.heap.size w w' → PAskPost w c a e w') := by
      intro e w' he hb
      have h2 : askErrP c a = 2 := by unfold askErrP; rw [if_neg (fun h => hz h.2)]
      unfold PAskPost askOfP
      rw [h2, if_neg (by decide)]
      exact ⟨_, he, Own.nil _ _, hb⟩
    obtain ⟨b, hb⟩ : ∃ b, b = besideAsk c a := ⟨_, rfl⟩
    rw [← hb] at CB CZ kb
    clear hk hz HA ka ha hb
    go_enter Tryd.func64, Tryd.ntmps64
    go_wp2_with (first
      | ((with_reducible show wpList _ _ _ (⟨some 3, _, _, _, _, _⟩ :: _) _ _); refine wpList_box_blk rfl _ (.tmp 1) rfl cs rfl ?_; intro g w1 hg1 hg2 K1 L1)
      | ((with_reducible show wpList _ _ _ (⟨some 12, _, _, _, _, _⟩ :: _) _ _); refine wpList_load_blk rfl _ (.tmp 3) rfl g rfl _ cs K1 69 _ Tryd.underlying32 rfl size_ask HL ?_)
      | fail)
    refine (CB.out w1 L1.out).mono ?_
    rintro e w2 ⟨ds, rfl, hds, L2⟩
    have HD := Lib.hid hds
    have HDL := Lib.hid (hds.len kb)
    have HDO := Lib.hid hds.one
    have K2 := Lib.hid (K1.out.over L2)
    have M2 := Lib.hid (step L1.out L2)
    clear hds L2 K1
    go_wp2_with (first
      | ((with_reducible show wpList _ _ _ (⟨some 6, _, _, _, _, _⟩ :: _) _ _); refine wpList_alloc_blk rfl _ rfl zs _ ZH ?_; intro h w3 hg3 hg4 Z3 L3)
      | ((with_reducible show wpList _ _ _ (⟨none, .store _ (.tmp 6) _, _, _, _, _⟩ :: _) _ _); refine wpList_store_blk rfl _ (.tmp 6) (.tmp 14) rfl h rfl _ zs ds rfl Z3 69 size_ask HZ HDL HDO ?_; intro w4 X4 O4 hg5; have L4 := Lib.hid (below_only L3.out O4.out hg3); have M4 := Lib.hid (step M2.out L4.out); have K4 := Lib.hid (K2.out.over L4.out); have HD4 := Lib.hid (HD.out.over L4.out))
      | ((with_reducible show wpList _ _ _ (⟨some 19, _, _, _, _, _⟩ :: _) _ _); refine wpList_load_want (by kernel_rfl) _ (.tmp 6) rfl h rfl _ ds X4 69 _ Tryd.underlying32 rfl size_ask HDL ?_)
      | fail)
    refine (CZ.out w4 ds HD4.out).mono ?_
    rintro e w5 ⟨rfl, L5⟩
    have M5 := Lib.hid (step M4.out L5)
    have K5 := Lib.hid (K4.out.over L5)
    have hs5 := M5.out.size
    clear L5 K4 HD4 HD CZ CB X4 O4 Z3 L3 L4 M4 M2 K2
    go_wp2
    go_ret2
    exact HQ.out _ _ rfl M5.out
  rw [decide_eq_true hz] at CZ
  by_cases h0 : c = 0
  · have h2 : askErrP c a = if a.dial.length ≤ 16 then 0 else 3 := by unfold askErrP; rw [if_pos ⟨hk, hz⟩, if_pos h0]
    have HQ : Hid (∀ e w', (∃ v, e = .returned (.tuple #[v, .int .i64 (if a.dial.length ≤ 16 then 0 else 3)]) ∧ Own w' w.heap.size v (if a.dial.length ≤ 16 then offerOf a else []) ∧ Below w.heap.size w w') → PAskPost w c a e w') := by
      intro e w' hh
      unfold PAskPost askOfP
      rw [h2, if_pos h0]
      by_cases hd : a.dial.length ≤ 16
      · rw [if_pos hd, if_pos hd] at hh; rw [if_pos hd, if_pos rfl]; exact hh
      · rw [if_neg hd, if_neg hd] at hh; rw [if_neg hd, if_neg (by decide)]; exact hh
    have CO : Hid (∀ w' : World, Below w.heap.size w w' → Calls Tryd.prog 79 #[.agg cs.toArray] w' fun e w2 => ∃ v, e = .returned (.tuple #[v, .int .i64 (if a.dial.length ≤ 16 then 0 else 3)]) ∧ Own w2 w'.heap.size v (if a.dial.length ≤ 16 then offerOf a else []) ∧ Below w'.heap.size w' w2) := fun w' hb => putOffer_any w' cs a ka (HA.out.over hb)
    obtain ⟨er, her⟩ : ∃ x : Int, x = if a.dial.length ≤ 16 then 0 else 3 := ⟨_, rfl⟩
    obtain ⟨ys, hys⟩ : ∃ x, x = if a.dial.length ≤ 16 then offerOf a else [] := ⟨_, rfl⟩
    rw [← her, ← hys] at HQ CO
    have c0 : (c == 0) = true := by simpa using h0
    obtain ⟨b, hb⟩ : ∃ b, b = besideAsk c a := ⟨_, rfl⟩
    rw [← hb] at CB CZ kb
    clear hk hz HA ka ha h2 her hys h0 hb
    go_enter Tryd.func64, Tryd.ntmps64
    go_wp2_with (first
      | ((with_reducible show wpList _ _ _ (⟨some 3, _, _, _, _, _⟩ :: _) _ _); refine wpList_box_blk rfl _ (.tmp 1) rfl cs rfl ?_; intro g w1 hg1 hg2 K1 L1)
      | ((with_reducible show wpList _ _ _ (⟨some 12, _, _, _, _, _⟩ :: _) _ _); refine wpList_load_blk rfl _ (.tmp 3) rfl g rfl _ cs K1 69 _ Tryd.underlying32 rfl size_ask HL ?_)
      | fail)
    refine (CB.out w1 L1.out).mono ?_
    rintro e w2 ⟨ds, rfl, hds, L2⟩
    have HD := Lib.hid hds
    have HDL := Lib.hid (hds.len kb)
    have HDO := Lib.hid hds.one
    have K2 := Lib.hid (K1.out.over L2)
    have M2 := Lib.hid (step L1.out L2)
    clear hds L2 K1
    go_wp2_with (first
      | ((with_reducible show wpList _ _ _ (⟨some 6, _, _, _, _, _⟩ :: _) _ _); refine wpList_alloc_blk rfl _ rfl zs _ ZH ?_; intro h w3 hg3 hg4 Z3 L3)
      | ((with_reducible show wpList _ _ _ (⟨none, .store _ (.tmp 6) _, _, _, _, _⟩ :: _) _ _); refine wpList_store_blk rfl _ (.tmp 6) (.tmp 14) rfl h rfl _ zs ds rfl Z3 69 size_ask HZ HDL HDO ?_; intro w4 X4 O4 hg5; have L4 := Lib.hid (below_only L3.out O4.out hg3); have M4 := Lib.hid (step M2.out L4.out); have K4 := Lib.hid (K2.out.over L4.out); have HD4 := Lib.hid (HD.out.over L4.out))
      | ((with_reducible show wpList _ _ _ (⟨some 19, _, _, _, _, _⟩ :: _) _ _); refine wpList_load_want (by kernel_rfl) _ (.tmp 6) rfl h rfl _ ds X4 69 _ Tryd.underlying32 rfl size_ask HDL ?_)
      | fail)
    refine (CZ.out w4 ds HD4.out).mono ?_
    rintro e w5 ⟨rfl, L5⟩
    have M5 := Lib.hid (step M4.out L5)
    have K5 := Lib.hid (K4.out.over L5)
    have hs5 := M5.out.size
    clear L5 K4 HD4 HD CZ CB X4 O4 Z3 L3 L4 M4 M2 K2
    go_wp2_with (first
      | ((with_reducible show wpList _ _ _ (⟨some 26, _, _, _, _, _⟩ :: _) _ _); refine wpList_load_blk rfl _ (.tmp 3) rfl g rfl _ cs K5 69 _ Tryd.underlying32 rfl size_ask HL ?_)
      | fail)
    refine (CO.out w5 M5.out).mono ?_
    rintro e w6 ⟨v, rfl, ho, L6⟩
    have HO := Lib.hid ho
    have L6' := Lib.hid L6
    clear ho L6
    go_wp2
    go_ret2
    exact HQ.out _ _ ⟨_, rfl, HO.out.mono hs5, step M5.out L6'.out⟩
  have b0 : (c == 0) = false := by simpa using h0
  have FA : Hid (∀ (w : World) (g : Nat), Blk w g 32 cs → w.cell? ⟨g, 49, none⟩ = some (.string a.user) ∧ w.cell? ⟨g, 50, none⟩ = some (.string a.share) ∧ Holds w w.heap.size (some ⟨g, 17, none⟩) 32 32 a.proof) := by
    intro w g h
    obtain ⟨D1, D2, D3, X1, X2, X3, M1, M2, M3, rfl, _⟩ := HA.out
    exact ⟨h.at (acells_get ka 0), h.at (acells_get ka 1), acells_proofH ka h⟩
  by_cases h1 : c = 1
  · have CT : Hid (∀ w' : World, Below w.heap.size w w' → Calls Tryd.prog 66 #[.string a.user] w' fun e w2 => ∃ v, e = .returned (.tuple #[v, .int .i64 (ptextErr a.user.data.toList)]) ∧ Own w2 w'.heap.size v (ptextOf a.user.data.toList) ∧ Below w'.heap.size w' w2) := fun w' hb => PutText_any a.user w' hu0 (HT.out.below hb)
    have h2 : askErrP c a = ptextErr a.user.data.toList := by unfold askErrP; rw [if_pos ⟨hk, hz⟩, if_neg h0, if_pos h1]
    have c1 : (c == 1) = true := by simpa using h1
    have HPB := Lib.hid (ptextOf_bytes a.user.data.toList)
    have hpl := rowOf_le a.user.data.toList
    by_cases hp : ptextErr a.user.data.toList = 0
    · have HQ : Hid (∀ e w', (∃ v, e = .returned (.tuple #[v, .int .i64 0]) ∧ Own w' w.heap.size v (a.proof ++ ptextOf a.user.data.toList) ∧ Below w.heap.size w w') → PAskPost w c a e w') := by
        intro e w' hh
        unfold PAskPost askOfP
        rw [h2, hp, if_pos rfl, if_neg h0, if_pos h1]
        exact hh
      rw [hp] at CT
      obtain ⟨ys, hys⟩ : ∃ x, x = ptextOf a.user.data.toList := ⟨_, rfl⟩
      rw [← hys] at HQ CT HPB hpl
      obtain ⟨tx, htx⟩ : ∃ x, x = a.user := ⟨_, rfl⟩
      obtain ⟨px, hpx⟩ : ∃ x, x = a.proof := ⟨_, rfl⟩
      rw [← htx, ← hpx] at FA
      rw [← htx] at CT
      rw [← hpx] at HQ
      obtain ⟨b, hb⟩ : ∃ b, b = besideAsk c a := ⟨_, rfl⟩
      rw [← hb] at CB CZ kb
      clear hk hz HA ka ha h2 hys htx hpx h0 h1 hb hu0 hu1 hp
      go_enter Tryd.func64, Tryd.ntmps64
      go_wp2_with (first
        | ((with_reducible show wpList _ _ _ (⟨some 3, _, _, _, _, _⟩ :: _) _ _); refine wpList_box_blk rfl _ (.tmp 1) rfl cs rfl ?_; intro g w1 hg1 hg2 K1 L1)
        | ((with_reducible show wpList _ _ _ (⟨some 12, _, _, _, _, _⟩ :: _) _ _); refine wpList_load_blk rfl _ (.tmp 3) rfl g rfl _ cs K1 69 _ Tryd.underlying32 rfl size_ask HL ?_)
        | fail)
      refine (CB.out w1 L1.out).mono ?_
      rintro e w2 ⟨ds, rfl, hds, L2⟩
      have HD := Lib.hid hds
      have HDL := Lib.hid (hds.len kb)
      have HDO := Lib.hid hds.one
      have K2 := Lib.hid (K1.out.over L2)
      have M2 := Lib.hid (step L1.out L2)
      clear hds L2 K1
      go_wp2_with (first
        | ((with_reducible show wpList _ _ _ (⟨some 6, _, _, _, _, _⟩ :: _) _ _); refine wpList_alloc_blk rfl _ rfl zs _ ZH ?_; intro h w3 hg3 hg4 Z3 L3)
        | ((with_reducible show wpList _ _ _ (⟨none, .store _ (.tmp 6) _, _, _, _, _⟩ :: _) _ _); refine wpList_store_blk rfl _ (.tmp 6) (.tmp 14) rfl h rfl _ zs ds rfl Z3 69 size_ask HZ HDL HDO ?_; intro w4 X4 O4 hg5; have L4 := Lib.hid (below_only L3.out O4.out hg3); have M4 := Lib.hid (step M2.out L4.out); have K4 := Lib.hid (K2.out.over L4.out); have HD4 := Lib.hid (HD.out.over L4.out))
        | ((with_reducible show wpList _ _ _ (⟨some 19, _, _, _, _, _⟩ :: _) _ _); refine wpList_load_want (by kernel_rfl) _ (.tmp 6) rfl h rfl _ ds X4 69 _ Tryd.underlying32 rfl size_ask HDL ?_)
        | fail)
      refine (CZ.out w4 ds HD4.out).mono ?_
      rintro e w5 ⟨rfl, L5⟩
      have M5 := Lib.hid (step M4.out L5)
      have K5 := Lib.hid (K4.out.over L5)
      have hs5 := M5.out.size
      clear L5 K4 HD4 HD CZ CB X4 O4 Z3 L3 L4 M4 M2 K2
      obtain ⟨gd, _, _⟩ := FA.out _ _ K5.out
      go_wp2_with fail
      refine (CT.out w5 M5.out).mono ?_
      rintro e w6 ⟨v, rfl, ho, L6⟩
      obtain ⟨Av, cv, rfl, hh⟩ := ho.holds HPB.out (by omega)
      have HH := Lib.hid hh
      obtain ⟨_, _, hpr⟩ := FA.out _ _ (K5.out.over L6)
      have HPR := Lib.hid hpr
      have M6 := Lib.hid (step M5.out L6)
      obtain ⟨m, hm⟩ : ∃ m, m = ys.length := ⟨_, rfl⟩
      rw [← hm] at HH hpl ⊢
      clear ho hh hpr L6 gd hm
      go_wp2_with (first
        | ((with_reducible show wpList _ _ _ (⟨some 44, _, _, _, _, _⟩ :: _) _ _); refine wpList_litParts rfl 2 _ rfl [(some ⟨g, 17, none⟩, 32, 32, px), (Av, m, cv, ys)] rfl (by kernel_rfl) (List.forall_mem_cons.2 ⟨HPR.out, List.forall_mem_cons.2 ⟨HH.out, fun _ h => by cases h⟩⟩) ?_; intro g7 w7 P7 b7)
        | fail)
      refine (ConcatN_any _ g7 2 _ _ _ _ P7.out (by omega) (by show 0 + 32 + m ≤ _; omega)).mono ?_
      rintro e w8 ⟨v, rfl, ho, L8⟩
      have HO := Lib.hid ho
      have L8' := Lib.hid L8
      clear ho L8
      go_wp2
      go_ret2
      have M7 := step M6.out b7.out
      refine HQ.out _ _ ⟨_, rfl, ?_, step M7 L8'.out⟩
      have h9 := HO.out.mono (base' := w.heap.size) M7.size
      simpa [catL, partX] using h9
    · have HQ : Hid (∀ e w', e = .returned (.tuple #[.slice none 0 0, .int .i64 (ptextErr a.user.data.toList)]) → Below w.heap.size w w' → PAskPost w c a e w') := by
        intro e w' he hb
        unfold PAskPost askOfP
        rw [h2, if_neg hp]
        exact ⟨_, he, Own.nil _ _, hb⟩
      have hne : (ptextErr a.user.data.toList != 0) = true := by simpa using hp
      obtain ⟨ys, hys⟩ : ∃ x, x = ptextOf a.user.data.toList := ⟨_, rfl⟩
      obtain ⟨er, her⟩ : ∃ x, x = ptextErr a.user.data.toList := ⟨_, rfl⟩
      rw [← hys, ← her] at CT
      rw [← her] at HQ hne
      rw [← hys] at HPB hpl
      obtain ⟨tx, htx⟩ : ∃ x, x = a.user := ⟨_, rfl⟩
      rw [← htx] at FA CT
      obtain ⟨b, hb⟩ : ∃ b, b = besideAsk c a := ⟨_, rfl⟩
      rw [← hb] at CB CZ kb
      clear hk hz HA ka ha h2 hys her htx h0 h1 hb hu0 hu1 hp
      go_enter Tryd.func64, Tryd.ntmps64
      go_wp2_with (first
        | ((with_reducible show wpList _ _ _ (⟨some 3, _, _, _, _, _⟩ :: _) _ _); refine wpList_box_blk rfl _ (.tmp 1) rfl cs rfl ?_; intro g w1 hg1 hg2 K1 L1)
        | ((with_reducible show wpList _ _ _ (⟨some 12, _, _, _, _, _⟩ :: _) _ _); refine wpList_load_blk rfl _ (.tmp 3) rfl g rfl _ cs K1 69 _ Tryd.underlying32 rfl size_ask HL ?_)
        | fail)
      refine (CB.out w1 L1.out).mono ?_
      rintro e w2 ⟨ds, rfl, hds, L2⟩
      have HD := Lib.hid hds
      have HDL := Lib.hid (hds.len kb)
      have HDO := Lib.hid hds.one
      have K2 := Lib.hid (K1.out.over L2)
      have M2 := Lib.hid (step L1.out L2)
      clear hds L2 K1
      go_wp2_with (first
        | ((with_reducible show wpList _ _ _ (⟨some 6, _, _, _, _, _⟩ :: _) _ _); refine wpList_alloc_blk rfl _ rfl zs _ ZH ?_; intro h w3 hg3 hg4 Z3 L3)
        | ((with_reducible show wpList _ _ _ (⟨none, .store _ (.tmp 6) _, _, _, _, _⟩ :: _) _ _); refine wpList_store_blk rfl _ (.tmp 6) (.tmp 14) rfl h rfl _ zs ds rfl Z3 69 size_ask HZ HDL HDO ?_; intro w4 X4 O4 hg5; have L4 := Lib.hid (below_only L3.out O4.out hg3); have M4 := Lib.hid (step M2.out L4.out); have K4 := Lib.hid (K2.out.over L4.out); have HD4 := Lib.hid (HD.out.over L4.out))
        | ((with_reducible show wpList _ _ _ (⟨some 19, _, _, _, _, _⟩ :: _) _ _); refine wpList_load_want (by kernel_rfl) _ (.tmp 6) rfl h rfl _ ds X4 69 _ Tryd.underlying32 rfl size_ask HDL ?_)
        | fail)
      refine (CZ.out w4 ds HD4.out).mono ?_
      rintro e w5 ⟨rfl, L5⟩
      have M5 := Lib.hid (step M4.out L5)
      have K5 := Lib.hid (K4.out.over L5)
      have hs5 := M5.out.size
      clear L5 K4 HD4 HD CZ CB X4 O4 Z3 L3 L4 M4 M2 K2
      obtain ⟨gd, _, _⟩ := FA.out _ _ K5.out
      go_wp2_with fail
      refine (CT.out w5 M5.out).mono ?_
      rintro e w6 ⟨v, rfl, ho, L6⟩
      obtain ⟨Av, cv, rfl⟩ := ho.len
      clear ho
      go_wp2
      go_ret2
      exact HQ.out _ _ rfl (step M5.out L6)
  have b1 : (c == 1) = false := by simpa using h1
  by_cases h3 : c = 3
  · have CT : Hid (∀ w' : World, Below w.heap.size w w' → Calls Tryd.prog 66 #[.string a.share] w' fun e w2 => ∃ v, e = .returned (.tuple #[v, .int .i64 (ptextErr a.share.data.toList)]) ∧ Own w2 w'.heap.size v (ptextOf a.share.data.toList) ∧ Below w'.heap.size w' w2) := fun w' hb => PutText_any a.share w' hu1 (HT.out.below hb)
    have h2 : askErrP c a = ptextErr a.share.data.toList := by unfold askErrP; rw [if_pos ⟨hk, hz⟩, if_neg h0, if_neg h1, if_pos h3]
    have c3 : (c == 3) = true := by simpa using h3
    have HQ : Hid (∀ e w', (∃ v, e = .returned (.tuple #[v, .int .i64 (ptextErr a.share.data.toList)]) ∧ Own w' w.heap.size v (ptextOf a.share.data.toList) ∧ Below w.heap.size w w') → PAskPost w c a e w') := by
      intro e w' hh
      unfold PAskPost askOfP
      rw [h2, if_neg h0, if_neg h1, if_pos h3]
      by_cases hp : ptextErr a.share.data.toList = 0
      · rw [if_pos hp]; exact hh
      · rw [if_neg hp]; unfold ptextOf at hh; rw [if_neg hp] at hh; exact hh
    obtain ⟨er, her⟩ : ∃ x, x = ptextErr a.share.data.toList := ⟨_, rfl⟩
    obtain ⟨ys, hys⟩ : ∃ x, x = ptextOf a.share.data.toList := ⟨_, rfl⟩
    rw [← her, ← hys] at HQ CT
    obtain ⟨tx, htx⟩ : ∃ x, x = a.share := ⟨_, rfl⟩
    rw [← htx] at FA CT
    obtain ⟨b, hb⟩ : ∃ b, b = besideAsk c a := ⟨_, rfl⟩
    rw [← hb] at CB CZ kb
    clear hk hz HA ka ha h2 her hys htx h0 h1 h3 hb hu0 hu1
    have b1 : (c == 1) = false := by have h := c3; simp only [beq_iff_eq] at h; subst h; rfl
    go_enter Tryd.func64, Tryd.ntmps64
    go_wp2_with (first
      | ((with_reducible show wpList _ _ _ (⟨some 3, _, _, _, _, _⟩ :: _) _ _); refine wpList_box_blk rfl _ (.tmp 1) rfl cs rfl ?_; intro g w1 hg1 hg2 K1 L1)
      | ((with_reducible show wpList _ _ _ (⟨some 12, _, _, _, _, _⟩ :: _) _ _); refine wpList_load_blk rfl _ (.tmp 3) rfl g rfl _ cs K1 69 _ Tryd.underlying32 rfl size_ask HL ?_)
      | fail)
    refine (CB.out w1 L1.out).mono ?_
    rintro e w2 ⟨ds, rfl, hds, L2⟩
    have HD := Lib.hid hds
    have HDL := Lib.hid (hds.len kb)
    have HDO := Lib.hid hds.one
    have K2 := Lib.hid (K1.out.over L2)
    have M2 := Lib.hid (step L1.out L2)
    clear hds L2 K1
    go_wp2_with (first
      | ((with_reducible show wpList _ _ _ (⟨some 6, _, _, _, _, _⟩ :: _) _ _); refine wpList_alloc_blk rfl _ rfl zs _ ZH ?_; intro h w3 hg3 hg4 Z3 L3)
      | ((with_reducible show wpList _ _ _ (⟨none, .store _ (.tmp 6) _, _, _, _, _⟩ :: _) _ _); refine wpList_store_blk rfl _ (.tmp 6) (.tmp 14) rfl h rfl _ zs ds rfl Z3 69 size_ask HZ HDL HDO ?_; intro w4 X4 O4 hg5; have L4 := Lib.hid (below_only L3.out O4.out hg3); have M4 := Lib.hid (step M2.out L4.out); have K4 := Lib.hid (K2.out.over L4.out); have HD4 := Lib.hid (HD.out.over L4.out))
      | ((with_reducible show wpList _ _ _ (⟨some 19, _, _, _, _, _⟩ :: _) _ _); refine wpList_load_want (by kernel_rfl) _ (.tmp 6) rfl h rfl _ ds X4 69 _ Tryd.underlying32 rfl size_ask HDL ?_)
      | fail)
    refine (CZ.out w4 ds HD4.out).mono ?_
    rintro e w5 ⟨rfl, L5⟩
    have M5 := Lib.hid (step M4.out L5)
    have K5 := Lib.hid (K4.out.over L5)
    have hs5 := M5.out.size
    clear L5 K4 HD4 HD CZ CB X4 O4 Z3 L3 L4 M4 M2 K2
    obtain ⟨_, gd, _⟩ := FA.out _ _ K5.out
    go_wp2_with fail
    refine (CT.out w5 M5.out).mono ?_
    rintro e w6 ⟨v, rfl, ho, L6⟩
    have HO := Lib.hid ho
    have L6' := Lib.hid L6
    clear ho L6
    go_wp2
    go_ret2
    exact HQ.out _ _ ⟨_, rfl, HO.out.mono hs5, step M5.out L6'.out⟩
  have b3 : (c == 3) = false := by simpa using h3
  have h2 : askErrP c a = 0 := by unfold askErrP; rw [if_pos ⟨hk, hz⟩, if_neg h0, if_neg h1, if_neg h3]
  have HQ : Hid (∀ e w', (∃ v, e = .returned (.tuple #[v, .int .i64 0]) ∧ Own w' w.heap.size v (List.replicate 4 0) ∧ Below w.heap.size w w') → PAskPost w c a e w') := by
    intro e w' hh
    unfold PAskPost askOfP
    rw [h2, if_pos rfl, if_neg h0, if_neg h1, if_neg h3]
    exact hh
  obtain ⟨b, hb⟩ : ∃ b, b = besideAsk c a := ⟨_, rfl⟩
  rw [← hb] at CB CZ kb
  clear hk hz HA ka ha h2 h0 h1 h3 hb hu0 hu1
  go_enter Tryd.func64, Tryd.ntmps64
  go_wp2_with (first
    | ((with_reducible show wpList _ _ _ (⟨some 3, _, _, _, _, _⟩ :: _) _ _); refine wpList_box_blk rfl _ (.tmp 1) rfl cs rfl ?_; intro g w1 hg1 hg2 K1 L1)
    | ((with_reducible show wpList _ _ _ (⟨some 12, _, _, _, _, _⟩ :: _) _ _); refine wpList_load_blk rfl _ (.tmp 3) rfl g rfl _ cs K1 69 _ Tryd.underlying32 rfl size_ask HL ?_)
    | fail)
  refine (CB.out w1 L1.out).mono ?_
  rintro e w2 ⟨ds, rfl, hds, L2⟩
  have HD := Lib.hid hds
  have HDL := Lib.hid (hds.len kb)
  have HDO := Lib.hid hds.one
  have K2 := Lib.hid (K1.out.over L2)
  have M2 := Lib.hid (step L1.out L2)
  clear hds L2 K1
  go_wp2_with (first
    | ((with_reducible show wpList _ _ _ (⟨some 6, _, _, _, _, _⟩ :: _) _ _); refine wpList_alloc_blk rfl _ rfl zs _ ZH ?_; intro h w3 hg3 hg4 Z3 L3)
    | ((with_reducible show wpList _ _ _ (⟨none, .store _ (.tmp 6) _, _, _, _, _⟩ :: _) _ _); refine wpList_store_blk rfl _ (.tmp 6) (.tmp 14) rfl h rfl _ zs ds rfl Z3 69 size_ask HZ HDL HDO ?_; intro w4 X4 O4 hg5; have L4 := Lib.hid (below_only L3.out O4.out hg3); have M4 := Lib.hid (step M2.out L4.out); have K4 := Lib.hid (K2.out.over L4.out); have HD4 := Lib.hid (HD.out.over L4.out))
    | ((with_reducible show wpList _ _ _ (⟨some 19, _, _, _, _, _⟩ :: _) _ _); refine wpList_load_want (by kernel_rfl) _ (.tmp 6) rfl h rfl _ ds X4 69 _ Tryd.underlying32 rfl size_ask HDL ?_)
    | fail)
  refine (CZ.out w4 ds HD4.out).mono ?_
  rintro e w5 ⟨rfl, L5⟩
  have M5 := Lib.hid (step M4.out L5)
  have K5 := Lib.hid (K4.out.over L5)
  have hs5 := M5.out.size
  clear L5 K4 HD4 HD CZ CB X4 O4 Z3 L3 L4 M4 M2 K2
  go_wp2_with (at_make; refine wpList_make_bytes _ rfl _ _ rfl _ _ 4 rfl rfl rfl rfl (by omega) ?_; intro w6 R6 L6)
  go_ret2
  exact HQ.out _ _ ⟨_, rfl, row_zeros R6.out hs5 (by omega), step M5.out L6⟩
end Go.Proofs.YtbbjmmooemmeiaaDoor

namespace Go.Proofs.YtbbjmmooemmeiaaDoor
set_option linter.all false
open Go.RowKit
set_option linter.unusedVariables false
/-- a reader: its place, and its first error -/
structure Rd where
  p : Nat
  e : Int
def rdN (xs : List Int) (s : Nat) (r : Rd) : Int × Rd := if r.e = 0 then (if xs.length < r.p + s then (0, ⟨r.p, 4⟩) else (numAt xs r.p s, ⟨r.p + s, 0⟩)) else (0, r)
def rdMost (xs : List Int) (s : Nat) (most er : Int) (r : Rd) : Int × Rd := if (rdN xs s r).2.e = 0 ∧ most < (rdN xs s r).1 then (0, ⟨(rdN xs s r).2.p, er⟩) else rdN xs s r
def rdPart (xs : List Int) (m : Nat) (r : Rd) : List Int × Rd := if r.e = 0 then (if xs.length < r.p + m then ([], ⟨r.p, 4⟩) else ((xs.drop r.p).take m, ⟨r.p + m, 0⟩)) else ([], r)
def rdText (xs : List Int) (r : Rd) : List UInt8 × Rd := if r.e = 0 then (gtextOf xs r.p, ⟨if gtextErr xs r.p = 0 then (gtextNext xs r.p).toNat else r.p, gtextErr xs r.p⟩) else ([], r)
def rdEnd (xs : List Int) (r : Rd) : Int := if r.e = 0 ∧ r.p ≠ xs.length then 5 else r.e
theorem rq_same {P : Program} {f : FuncId} {args : Array Value} {w : World} {n : Nat} {v : Value}
    (h : Calls P f args (w.drewN n) fun e w' => e = .returned v ∧ w.drewN n = w') : Calls P f args (w.drewN n) fun e w'' => e = .returned v ∧ ∃ m, w'' = w.drewN m :=
  h.mono fun _ _ ⟨he, hm⟩ => ⟨he, n, hm.symm⟩
theorem save_drewN (g : Nat) (w : World) (k : Nat) : Save g w (w.drewN k) := ⟨rfl, rfl, rfl, Nat.le_refl _, fun _ _ _ => rfl⟩
theorem Save.setCell {g : Nat} {w w' : World} (h : Save g w w') (i : Nat) (v : Value) : Save g w (w'.setCell ⟨g, i, none⟩ v) := h.trans (Save.of_only (only_setCell w' g i v))
theorem Save.drewN {g : Nat} {w w' : World} (h : Save g w w') (k : Nat) : Save g w (w'.drewN k) := h.trans (save_drewN g w' k)
end Go.Proofs.YtbbjmmooemmeiaaDoor

namespace Go.Proofs.YtbbjmmooemmeiaaDoor
set_option linter.all false
open Go.RowKit
set_option linter.unusedVariables false
set_option maxRecDepth 100000
/-- what 'noughts' leaves -/
def rdZ (xs : List Int) (m : Nat) (r : Rd) : Rd := if (rdPart xs m r).2.e = 0 then (if zeroOf (rdPart xs m r).1 0 (m : Int) = true then (rdPart xs m r).2 else ⟨(rdPart xs m r).2.p, 5⟩) else (rdPart xs m r).2
theorem gtextNext_nonneg {xs : List Int} (hx : Bytes xs) (a : Int) (ha : 0 ≤ a) : 0 ≤ gtextNext xs a ∧ gtextNext xs a ≤ xs.length := by
  unfold gtextNext
  split
  · rename_i h
    unfold growNext
    split
    · rename_i h2
      have := growErr_room h2
      have := rowN_bounds xs hx a
      omega
    · omega
  · omega
end Go.Proofs.YtbbjmmooemmeiaaDoor

namespace Go.Proofs.YtbbjmmooemmeiaaDoor
set_option linter.all false
open Go.RowKit
section
variable {P : Program} {ops : Array Oper} {md : Region.Mode} {S : World → Prop} {Q : Exit → Act → World → Prop} {k : Nat}
def wpAnyK (P : Program) (md : Region.Mode) (ops : Array Oper) (Q : Exit → Act → World → Prop) (S : World → Prop) (k : Nat) : Nat → Array Bool → Act → World → Prop
  | 0, listed, a, w => Region.ready md ops listed = [] ∧ Q .normal a w
  | fuel + 1, listed, a, w =>
    (Region.ready md ops listed = [] → Q .normal a w) ∧
    ∀ i ∈ Region.ready md ops listed, wpOp P ops Q i (fun a' w' => ((listed.setIfInBounds i true).getD k false = false → S w') ∧ wpAnyK P md ops Q S k fuel (listed.setIfInBounds i true) a' w') a w
theorem wpAny_of_K : ∀ (fuel : Nat) (listed : Array Bool) (a : Act) (w : World), wpAnyK P md ops Q S k fuel listed a w → wpAny P md ops Q fuel listed a w
  | 0, _, _, _, h => h
  | fuel + 1, _, _, _, h => ⟨h.1, fun i hi => wpOp_mono (fun a' w' h' => wpAny_of_K fuel _ a' w' h'.2) (h.2 i hi)⟩
theorem wpAnyK_first {i : Nat} {oi ok : Oper} {v : Value} (hi : ops[i]? = some oi) (hsel : ∀ (j : Nat) (o : Oper) cs b, ops[j]? = some o → o.op ≠ .select cs b)
    (hQ : ∀ c a w, Q (.panic c) (a.put oi.dst v) w → Q (.panic c) a w) (hk : ops[k]? = some ok) (hke : ok.after.any (fun e => Region.binds md e && e.on == i) = true) :
    ∀ (fuel : Nat) (listed : Array Bool) (a : Act) (w : World),
      (∀ j oj, ops[j]? = some oj → j ≠ i → listed.getD j true = false → (∀ e ∈ oj.after, Region.binds md e = true → e.on ≠ i) → oi.apart ops oj = true) →
      i ∈ Region.ready md ops listed → YieldsIf P ops S oi v a → S w → listed.getD k false = false → i ≠ k →
      wpAnyK P md ops Q S k fuel (listed.setIfInBounds i true) (a.put oi.dst v) w → wpAnyK P md ops Q S k (fuel + 1) listed a w := by
  intro fuel
  induction fuel with
  | zero =>
    intro listed a w _ hr hy hS _ _ H
    refine ⟨fun h => (by rw [h] at hr; cases hr), fun j hj => ?_⟩
    by_cases hji : j = i
    · subst hji; exact hy.wpOp hi hS ⟨fun _ => hS, H⟩
    · have := ready_mono hj hji
      rw [H.1] at this
      cases this
  | succ fuel ih =>
    intro listed a w hfree hr hy hS hkl hik H
    refine ⟨fun h => (by rw [h] at hr; cases hr), fun j hj => ?_⟩
    by_cases hji : j = i
    · subst hji; exact hy.wpOp hi hS ⟨fun _ => hS, H⟩
    · have h1 := H.2 j (ready_mono hj hji)
      obtain ⟨hjun, oj, hoj, hall⟩ := mem_ready.1 hj
      have hnot : ∀ e ∈ oj.after, Region.binds md e = true → e.on ≠ i := fun e he hb heq => by
        have h1 := hall e he hb
        have h0 := (mem_ready.1 hr).1
        rw [heq] at h1
        rcases Nat.lt_or_ge i listed.size with h' | h'
        · simp [h'] at h0 h1; rw [h0] at h1; cases h1
        · simp [Array.getElem?_eq_none h'] at h1
      have hjk : j ≠ k := by
        rintro rfl
        rw [hk] at hoj
        injection hoj with hoj
        subst hoj
        obtain ⟨e, he, hb⟩ := Array.any_eq_true'.1 hke
        simp only [Bool.and_eq_true, beq_iff_eq] at hb
        exact hnot e he hb.1 hb.2
      have h2 := wpOp_putIf hoj (hfree j oj hoj hji hjun hnot) (fun cs b => hsel i oi cs b hi) (fun cs b => hsel j oj cs b hoj) hQ hy h1
      have hfree' : ∀ k ok, ops[k]? = some ok → k ≠ i → (listed.setIfInBounds j true).getD k true = false →
          (∀ e ∈ ok.after, Region.binds md e = true → e.on ≠ i) → oi.apart ops ok = true := fun k ok hk hki hun hno => by
        refine hfree k ok hk hki ?_ hno
        by_cases hjk : j = k
        · subst hjk; exact hjun
        · rw [getD_set_ne true hjk] at hun; exact hun
      refine wpOp_mono (fun a' w' h3 => ?_) h2
      have hSw : S w' := h3.2.1 (by rw [getD_set_ne false hjk, getD_set_ne false hik]; exact hkl)
      refine ⟨fun _ => hSw, ih (listed.setIfInBounds j true) a' w' hfree' (ready_mono hr (Ne.symm hji)) h3.1 hSw (by rw [getD_set_ne false hjk]; exact hkl) hik ?_⟩
      rw [Array.setIfInBounds_comm _ _ hji]
      exact h3.2.2
theorem wpAnyK_take {i : Nat} {oi ok : Oper} {v : Value} {fuel : Nat} {listed : Array Bool} {a : Act} {w : World} (hi : ops[i]? = some oi)
    (hs : Region.noSelect ops = true) (hf : Region.free md ops listed i = true) (hr : (Region.ready md ops listed).contains i = true)
    (hQ : ∀ c a w, Q (.panic c) (a.put oi.dst v) w → Q (.panic c) a w) (hk : ops[k]? = some ok) (hke : ok.after.any (fun e => Region.binds md e && e.on == i) = true) (hkl : listed.getD k false = false) (hik : i ≠ k)
    (hy : YieldsIf P ops S oi v a) (hS : S w)
    (h : wpAnyK P md ops Q S k fuel (listed.setIfInBounds i true) (a.put oi.dst v) w) : wpAnyK P md ops Q S k (fuel + 1) listed a w :=
  wpAnyK_first hi (Region.noSelect_spec hs) hQ hk hke fuel listed a w (Region.free_spec hi hf) (by simpa using hr) hy hS hkl hik h
theorem wpAnyK_one (i : Nat) (oi : Oper) {fuel : Nat} {listed : Array Bool} {a : Act} {w : World} (hr : Region.ready md ops listed = [i]) (hi : ops[i]? = some oi)
    (h : ∀ K : Act → World → Prop, (∀ a' w', ((listed.setIfInBounds i true).getD k false = false → S w') → wpAnyK P md ops Q S k fuel (listed.setIfInBounds i true) a' w' → K a' w') → if Region.wanted oi (yielded ops a.tmps) = true then oi.wp P a w K Q else K (a.put oi.dst undef) w) : wpAnyK P md ops Q S k (fuel + 1) listed a w := by
  refine ⟨fun h0 => (by rw [h0] at hr; cases hr), fun j hj => ?_⟩
  rw [hr] at hj
  obtain rfl : j = i := by simpa using hj
  have h1 := h (fun a' w' => ((listed.setIfInBounds j true).getD k false = false → S w') ∧ wpAnyK P md ops Q S k fuel (listed.setIfInBounds j true) a' w') fun _ _ h2 h3 => ⟨h2, h3⟩
  unfold wpOp
  simp only [hi]
  by_cases hw : Region.wanted oi (yielded ops a.tmps) = true
  · rw [if_pos hw] at h1 ⊢
    exact .inl h1
  · rw [if_neg hw] at h1 ⊢
    exact h1
theorem wpAnyK_done {listed : Array Bool} {a : Act} {w : World} (hr : Region.ready md ops listed = []) (h : Q .normal a w) :
    ∀ fuel, wpAnyK P md ops Q S k fuel listed a w
  | 0 => ⟨hr, h⟩
  | _ + 1 => ⟨fun _ => h, by rw [hr]; simp⟩
theorem wpAnyK_frame {fuel : Nat} {listed : Array Bool} {a : Act} {w : World} (h : ∀ a', a' = a → wpAnyK P md ops Q S k fuel listed a' w) : wpAnyK P md ops Q S k fuel listed a w := h a rfl
theorem wp_region_heldK {id : Nat} {a : Act} {w : World} (k : Nat) (S : World → Prop) (hm : P.follows .mixedOrders = true)
    (h : wpAnyK P .any ops Q S k ops.size (Array.replicate ops.size false) a { w with drawn := w.drawn + 1 }) : (Code.region id ops true).wp P Q a w :=
  wp_region_any hm (wpAny_of_K _ _ _ _ h)
end
end Go.Proofs.YtbbjmmooemmeiaaDoor

namespace Go.Proofs.YtbbjmmooemmeiaaDoor
set_option linter.all false
open Go.RowKit
set_option linter.unusedVariables false
set_option maxRecDepth 100000
theorem Save.thenBelow {g : Nat} {w w' w2 : World} (a : Save g w w') (b : Below w.heap.size w' w2) : Save g w w2 :=
  ⟨b.os.trans a.os, b.tape.trans a.tape, b.output.trans a.output, Nat.le_trans a.size b.size, fun j hj hg => (b.block j hj).trans (a.rest j hj hg)⟩
end Go.Proofs.YtbbjmmooemmeiaaDoor

namespace Go.Proofs.YtbbjmmooemmeiaaDoor
set_option linter.all false
open Go.RowKit
set_option linter.unusedVariables false
set_option maxRecDepth 100000
def rd0 : Rd := ⟨0, 0⟩
theorem OwnK.save {k : IntKind} {e : TypeId} {w w' : World} {base g : Nat} {v : Value} {xs : List Int} (h : OwnK k e w base v xs) (hS : Save g w w') (hg : g < base) : OwnK k e w' base v xs :=
  h.keep fun i cs hi hc => hS.rest i (Array.getElem?_eq_some_iff.1 hc).1 (by obtain ⟨hb, _⟩ := h.block hi; omega)
end Go.Proofs.YtbbjmmooemmeiaaDoor

namespace Go.Proofs.YtbbjmmooemmeiaaDoor
set_option linter.all false
open Go.RowKit
set_option linter.unusedVariables false
set_option maxRecDepth 100000
theorem rdN_fits {xs : List Int} {s : Nat} {r : Rd} (h0 : r.e = 0) (h : ¬ xs.length < r.p + s) : rdN xs s r = (numAt xs r.p s, ⟨r.p + s, 0⟩) := by unfold rdN; rw [if_pos h0, if_neg h]
/-! ### no beginning of a body is one -/
theorem rdPart_stick {xs : List Int} {m : Nat} {r : Rd} (h : ¬ r.e = 0) : (rdPart xs m r).2 = r := by unfold rdPart; rw [if_neg h]
theorem rdN_short {xs : List Int} {s : Nat} {r : Rd} (h0 : r.e = 0) (h : xs.length < r.p + s) : rdN xs s r = (0, ⟨r.p, 4⟩) := by unfold rdN; rw [if_pos h0, if_pos h]
theorem rdPart_short {xs : List Int} {m : Nat} {r : Rd} (h0 : r.e = 0) (h : xs.length < r.p + m) : (rdPart xs m r).2 = ⟨r.p, 4⟩ := by unfold rdPart; rw [if_pos h0, if_pos h]
end Go.Proofs.YtbbjmmooemmeiaaDoor

namespace Go.Proofs.YtbbjmmooemmeiaaDoor
set_option linter.all false
set_option linter.unusedVariables false
set_option maxRecDepth 100000
def rdData (xs : List Int) (r : Rd) : List Int × Rd := rdPart xs (rdMost xs 4 32768 3 r).1.toNat (rdMost xs 4 32768 3 r).2
def rdLock (xs : List Int) (r : Rd) : LockV × Rd :=
  (⟨0, (rdN xs 8 r).1, (rdN xs 8 (rdN xs 8 r).2).1, (rdN xs 2 (rdN xs 8 (rdN xs 8 r).2).2).1⟩, rdZ xs 2 (rdN xs 2 (rdN xs 8 (rdN xs 8 r).2).2).2)
/-- k locks: as a loop that never ends early -/
def rdLocks (xs : List Int) (r : Rd) : Nat → List LockV × Rd
  | 0 => ([], r)
  | k + 1 => ((rdLocks xs r k).1 ++ [(rdLock xs (rdLocks xs r k).2).1], (rdLock xs (rdLocks xs r k).2).2)
def rdAll (xs : List Int) (r : Rd) : List LockV × Rd := rdLocks xs (rdZ xs 2 (rdMost xs 2 16 3 r).2) (rdMost xs 2 16 3 r).1.toNat
/-- the nine steps of a Create -/
def c1 (xs : List Int) := rdN xs 4 rd0
def c2 (xs : List Int) := rdN xs 4 (c1 xs).2
def c3 (xs : List Int) := rdN xs 4 (c2 xs).2
def c4 (xs : List Int) := rdN xs 4 (c3 xs).2
def c5 (xs : List Int) := rdN xs 1 (c4 xs).2
def c6 (xs : List Int) := rdN xs 1 (c5 xs).2
def c7 (xs : List Int) := rdZ xs 2 (c6 xs).2
/-- of the others: File, At, N, Data, Locks -/
def o1 (xs : List Int) := rdN xs 8 rd0
def o2 (xs : List Int) := rdN xs 8 (o1 xs).2
def o3 (xs : List Int) := rdN xs 4 (o2 xs).2
def o4 (xs : List Int) := rdData xs (o2 xs).2
def o5 (xs : List Int) := rdAll xs (o1 xs).2
/-- the steps of what is said -/
def s1 (xs : List Int) := rdN xs 1 rd0
def s2 (xs : List Int) := rdN xs 1 (s1 xs).2
/-! ### their bounds -/
theorem rdN_lt {xs : List Int} (hx : Bytes xs) (s : Nat) (r : Rd) (M : Int) (hM : (256 : Int) ^ s = M) (h1 : 1 ≤ M) : 0 ≤ (rdN xs s r).1 ∧ (rdN xs s r).1 ≤ M - 1 := by
  unfold rdN
  split
  · split
    · exact ⟨Int.le_refl 0, by show (0 : Int) ≤ M - 1; omega⟩
    · exact numAt_bounds xs hx r.p s M hM
  · exact ⟨Int.le_refl 0, by show (0 : Int) ≤ M - 1; omega⟩
theorem rdMost_lt {xs : List Int} (hx : Bytes xs) (s : Nat) (most er : Int) (r : Rd) (hs : 1 ≤ s ∧ s ≤ 8) (hm : 0 ≤ most) : 0 ≤ (rdMost xs s most er r).1 ∧ (rdMost xs s most er r).1 ≤ most := by
  have h0 : 0 ≤ (rdN xs s r).1 := by
    unfold rdN
    split
    · split
      · exact Int.le_refl 0
      · exact (numAt_bounds xs hx r.p s _ rfl).1
    · exact Int.le_refl 0
  unfold rdMost
  split
  · exact ⟨Int.le_refl 0, hm⟩
  · rename_i h1
    by_cases h2 : (rdN xs s r).2.e = 0
    · refine ⟨h0, ?_⟩
      by_cases h3 : most < (rdN xs s r).1
      · exact absurd ⟨h2, h3⟩ h1
      · omega
    · refine ⟨h0, ?_⟩
      unfold rdN at h2 ⊢
      split
      · rename_i h4
        split
        · exact hm
        · rename_i h5
          rw [if_pos h4, if_neg h5] at h2
          exact absurd rfl h2
      · exact hm
theorem rdZ_stick {xs : List Int} {m : Nat} {r : Rd} (h : ¬ r.e = 0) : rdZ xs m r = r := by
  have := rdPart_stick (xs := xs) (m := m) h
  unfold rdZ
  rw [if_neg (by rw [this]; exact h), this]
end Go.Proofs.YtbbjmmooemmeiaaDoor

namespace Go.Proofs.YtbbjmmooemmeiaaDoor
set_option linter.all false
open Go.RowKit
set_option linter.unusedVariables false
set_option maxRecDepth 100000
/-- what is left behind k more -/
theorem Holds.rest {w : World} {B : Nat} {A : Option Addr} {n c k : Nat} {xs : List Int} (h : Holds w B A n c xs) (hk : k ≤ n) : Holds w B (if c = k then A else A.map (·.add k)) (n - k) (c - k) (xs.drop k) := by
  have hl := h.len
  have hf := h.fit
  refine ⟨by simp; omega, by omega, by have := h.room; omega, h.byte.drop k, fun hA => ?_, fun hn => ?_⟩
  · by_cases hc : c = k
    · omega
    · rw [if_neg hc] at hA
      have : A = none := by cases A <;> simp_all
      have := h.bare this
      omega
  · obtain ⟨b, off, rfl, hb, hcl⟩ := h.cells (by omega)
    rw [if_neg (by omega)]
    refine ⟨b, off + k, ?_, hb, fun i hi => ?_⟩
    · by_cases hk0 : k = 0
      · subst hk0; simp [Addr.add]
      · simp [Addr.add, hk0]
    · rw [Nat.add_assoc, hcl (k + i) (by omega)]
      simp [List.getD_eq_getElem?_getD, List.getElem?_drop]
end Go.Proofs.YtbbjmmooemmeiaaDoor

namespace Go.Proofs.YtbbjmmooemmeiaaDoor
set_option linter.all false
open Go.RowKit
set_option linter.unusedVariables false
set_option maxRecDepth 100000
abbrev OwnB (w : World) (base : Nat) (v : Value) (xs : List Int) : Prop := OwnZ .u8 5 w base v xs
theorem OwnZ.own8 {w : World} {base : Nat} {v : Value} {xs : List Int} (h : OwnZ .u8 5 w base v xs) : Own w base v xs := h.own
theorem OwnZ.holds8 {w : World} {base : Nat} {v : Value} {xs : List Int} (h : OwnZ .u8 5 w base v xs) (hx : Bytes xs) (hn : xs.length ≤ 281474976710656) :
    ∃ A c, v = .slice A xs.length c ∧ Holds w w.heap.size A xs.length c xs := h.own8.holds hx hn
def PRowPostB (w : World) (xs : List Int) (e : Ending) (w' : World) : Prop := ∃ v, e = .returned (.tuple #[v, .int .i64 (rowErr xs.length)]) ∧ OwnB w' w.heap.size v (rowOf xs) ∧ Below w.heap.size w w'
def PPTextPostB (w : World) (l : List UInt8) (e : Ending) (w' : World) : Prop := ∃ v, e = .returned (.tuple #[v, .int .i64 (ptextErr l)]) ∧ OwnB w' w.heap.size v (ptextOf l) ∧ Below w.heap.size w w'
set_option maxHeartbeats 1000000 in
theorem PutRowB_any (w : World) (A : Option Addr) (n c : Nat) (xs : List Int) (h : Holds w w.heap.size A n c xs) :
    Calls Tryd.prog 83 #[.slice A n c] w (PRowPostB w xs) := by
  have hl := h.len
  have hr := h.room
  have hf := h.fit
  have C1 := Put_any w (n : Int) 2 (by omega) (by omega)
  unfold PutPost at C1
  have hz : IntKind.u64.wrap (n : Int) = n := by rw [IntKind.wrap_u64]; omega
  by_cases hn : n ≤ 65535
  · obtain ⟨e0, e1⟩ := putOf2 n hn
    rw [e0, e1, le_length] at C1
    have HQ : Hid (∀ e w', (∃ v, e = .returned (.tuple #[v, .int .i64 0]) ∧ OwnB w' w.heap.size v (le n 2 ++ xs) ∧ Below w.heap.size w w') → PRowPostB w xs e w') := by
      intro e w' hh
      unfold PRowPostB rowErr rowOf
      rw [hl, if_pos hn, if_pos hn]
      exact hh
    have HLB : Hid (Bytes (le (n : Int) 2)) := le_bytes _ _
    have HLL : Hid ((le (n : Int) 2).length = 2) := le_length _ _
    obtain ⟨ls, hls⟩ : ∃ ls, ls = le (n : Int) 2 := ⟨_, rfl⟩
    rw [← hls] at C1 HQ HLB HLL
    have C1' := Lib.hid C1
    have HX := Lib.hid h
    clear C1 hls e0 e1 h hl
    go_enter Tryd.func83, Tryd.ntmps83
    go_wp2_with fail
    refine C1'.out.mono ?_
    rintro e w1 ⟨A', rfl, hfr, L1⟩
    have H1 := Lib.hid (hfr.holds (n := 2) HLL.out HLB.out (by omega))
    have HX1 := Lib.hid (HX.out.over L1)
    have M1 := Lib.hid L1
    clear hfr L1 C1' HX
    go_wp2_with (first
      | ((with_reducible show wpList _ _ _ (⟨some 17, _, _, _, _, _⟩ :: _) _ _); refine wpList_litParts rfl 2 _ rfl [(A', 2, 2, ls), (A, n, c, xs)] rfl (by kernel_rfl) (List.forall_mem_cons.2 ⟨H1.out, List.forall_mem_cons.2 ⟨HX1.out, fun _ h => by cases h⟩⟩) ?_; intro g2 w2 P2 b2)
      | fail)
    refine (ConcatZ_any _ g2 2 _ _ _ _ P2.out (by omega) (by show 0 + 2 + n ≤ _; omega)).mono ?_
    rintro e w3 ⟨v, rfl, ho, L3⟩
    have HO := Lib.hid ho
    have L3' := Lib.hid L3
    clear ho L3
    go_wp2
    go_ret2
    refine HQ.out _ _ ⟨_, rfl, ?_, step (step M1.out b2.out) L3'.out⟩
    have := HO.out.mono (base' := w.heap.size) (step M1.out b2.out).size
    simpa [catL, partX] using this
  · obtain ⟨e1, e0⟩ := putErr2 n hn
    rw [e0, e1] at C1
    have HQ : Hid (∀ e w', (∃ v, e = .returned (.tuple #[v, .int .i64 3]) ∧ OwnB w' w.heap.size v [] ∧ Below w.heap.size w w') → PRowPostB w xs e w') := by
      intro e w' hh
      unfold PRowPostB rowErr rowOf
      rw [hl, if_neg hn, if_neg hn]
      exact hh
    have C1' := Lib.hid C1
    clear C1 e0 e1 h hl
    go_enter Tryd.func83, Tryd.ntmps83
    go_wp2_with fail
    refine C1'.out.mono ?_
    rintro e w1 ⟨A', rfl, hfr, L1⟩
    clear hfr C1'
    go_wp2
    go_ret2
    exact HQ.out _ _ ⟨_, rfl, OwnZ.nil _ _ _ _, L1⟩
set_option maxHeartbeats 1000000 in
theorem PutTextB_any (s : ByteArray) (w : World) (hs : s.size ≤ 17592186044416) (hT : Tabs w) :
    Calls Tryd.prog 66 #[.string s] w (PPTextPostB w s.data.toList) := by
  have C1 := TPut_any s w hs hT
  unfold TPutPost at C1
  obtain ⟨l, hl⟩ : ∃ l, l = s.data.toList := ⟨_, rfl⟩
  rw [← hl] at C1 ⊢
  have hlen : (putOfL l).length ≤ 4 * s.size := by
    rw [hl]
    have := putOfL_length s.data.toList
    have := unitsOfL_le s.data.toList
    have e : s.data.toList.length = s.size := by rw [Array.length_toList]; rfl
    omega
  have HBY := Lib.hid (putOfL_byte l)
  by_cases ht : textErr l = 0
  rotate_left
  · have HQ : Hid (∀ e w', e = .returned (.tuple #[.slice none 0 0, .int .i64 (textErr l)]) → Below w.heap.size w w' → PPTextPostB w l e w') := by
      intro e w' he hb
      unfold PPTextPostB ptextOf ptextErr
      rw [if_neg ht, if_neg ht]
      exact ⟨_, he, OwnZ.nil _ _ _ _, hb⟩
    have hne : (textErr l != 0) = true := by simpa using ht
    obtain ⟨er, her⟩ : ∃ er, er = textErr l := ⟨_, rfl⟩
    obtain ⟨ys, hys⟩ : ∃ ys, ys = putOfL l := ⟨_, rfl⟩
    rw [← her] at HQ C1 hne
    rw [← hys] at C1
    have C1' := Lib.hid C1
    clear C1 her ht hl hlen HBY hys
    go_enter Tryd.func66, Tryd.ntmps66
    go_wp2_with fail
    refine C1'.out.mono ?_
    rintro e w1 ⟨v, rfl, ho, L1⟩
    have ho' : Own w1 w.heap.size v ys := ho.own
    obtain ⟨Av, cv, rfl⟩ := ho'.len
    clear ho'
    go_wp2
    go_ret2
    exact HQ.out _ _ rfl L1
  rw [ht] at C1
  by_cases hm : (putOfL l).length ≤ 512
  · have HQ : Hid (∀ e w', (∃ v, e = .returned (.tuple #[v, .int .i64 (rowErr (putOfL l).length)]) ∧ OwnB w' w.heap.size v (rowOf (putOfL l)) ∧ Below w.heap.size w w') → PPTextPostB w l e w') := by
      intro e w' hh
      have e0 : ptextErr l = 0 := by unfold ptextErr; rw [if_pos ht, if_pos hm]
      unfold PPTextPostB ptextOf
      rw [e0, if_pos rfl]
      unfold rowErr at hh
      rwa [if_pos (by omega : (putOfL l).length ≤ 65535)] at hh
    have CR : Hid (∀ (w : World) (A : Option Addr) (n c : Nat), Holds w w.heap.size A n c (putOfL l) → Calls Tryd.prog 83 #[.slice A n c] w (PRowPostB w (putOfL l))) := fun w A n c hh => PutRowB_any w A n c _ hh
    unfold PRowPostB at CR
    obtain ⟨er, her⟩ : ∃ er, er = rowErr (putOfL l).length := ⟨_, rfl⟩
    obtain ⟨rs, hrs⟩ : ∃ rs, rs = rowOf (putOfL l) := ⟨_, rfl⟩
    rw [← her, ← hrs] at HQ CR
    obtain ⟨ys, hys⟩ : ∃ ys, ys = putOfL l := ⟨_, rfl⟩
    rw [← hys] at C1 CR HBY hm
    obtain ⟨m, hm'⟩ : ∃ m, m = ys.length := ⟨_, rfl⟩
    have HM := Lib.hid hm'
    rw [← hm'] at hm
    have C1' := Lib.hid C1
    clear C1 her hrs ht hl hlen hys hm'
    go_enter Tryd.func66, Tryd.ntmps66
    go_wp2_with fail
    refine C1'.out.mono ?_
    rintro e w1 ⟨v, rfl, ho, L1⟩
    have ho' : Own w1 w.heap.size v ys := ho.own
    obtain ⟨Av, cv, rfl, hh⟩ := ho'.holds HBY.out (by have := HM.out; omega)
    rw [← HM.out] at hh ⊢
    have HH := Lib.hid hh
    have M1 := Lib.hid L1
    clear ho ho' hh L1 C1'
    go_wp2_with fail
    refine (CR.out _ _ _ _ HH.out).mono ?_
    rintro e w2 ⟨v, rfl, ho, L2⟩
    have HO := Lib.hid ho
    have L2' := Lib.hid L2
    clear ho L2
    go_wp2
    go_ret2
    exact HQ.out _ _ ⟨_, rfl, HO.out.mono M1.out.size, step M1.out L2'.out⟩
  · have HQ : Hid (∀ e w', e = .returned (.tuple #[.slice none 0 0, .int .i64 3]) → Below w.heap.size w w' → PPTextPostB w l e w') := by
      intro e w' he hb
      unfold PPTextPostB ptextOf ptextErr
      rw [if_pos ht, if_neg hm]
      exact ⟨_, he, OwnZ.nil _ _ _ _, hb⟩
    obtain ⟨ys, hys⟩ : ∃ ys, ys = putOfL l := ⟨_, rfl⟩
    rw [← hys] at C1 HBY hm hlen
    obtain ⟨m, hm'⟩ : ∃ m, m = ys.length := ⟨_, rfl⟩
    have HM := Lib.hid hm'
    rw [← hm'] at hm hlen
    have C1' := Lib.hid C1
    clear C1 ht hl hys hm'
    go_enter Tryd.func66, Tryd.ntmps66
    go_wp2_with fail
    refine C1'.out.mono ?_
    rintro e w1 ⟨v, rfl, ho, L1⟩
    have ho' : Own w1 w.heap.size v ys := ho.own
    obtain ⟨Av, cv, rfl, hh⟩ := ho'.holds HBY.out (by have := HM.out; omega)
    rw [← HM.out]
    clear ho ho' hh C1'
    go_wp2
    go_ret2
    exact HQ.out _ _ rfl L1
end Go.Proofs.YtbbjmmooemmeiaaDoor

namespace Go.Proofs.YtbbjmmooemmeiaaDoor
set_option linter.all false
open Go.RowKit
set_option linter.unusedVariables false
set_option maxRecDepth 100000
theorem OwnZ.onlyAt {k : IntKind} {e : TypeId} {w w' : World} {base b : Nat} {v : Value} {xs : List Int} (h : OwnZ k e w base v xs) (hO : Only b w w') (hb : b < base) : OwnZ k e w' base v xs :=
  h.keep fun i cs hi hc => hO.rest i (by
    obtain ⟨h1, _⟩ := h.own.block hi
    omega)
theorem ownZ_one {w : World} {base : Nat} {v : Value} {xs : List Int} (h : OwnZ .u8 5 w base v xs) : v.oneCell' = true := by
  rcases h with ⟨rfl, _⟩ | ⟨g, m, rfl, _⟩ <;> rfl
end Go.Proofs.YtbbjmmooemmeiaaDoor

namespace Go.Proofs.YtbbjmmooemmeiaaDoor
set_option linter.all false
set_option linter.unusedVariables false
set_option linter.unusedSimpArgs false
set_option maxRecDepth 100000
theorem b4 {xs : List Int} (hx : Bytes xs) (r : Rd) : 0 ≤ (rdN xs 4 r).1 ∧ (rdN xs 4 r).1 ≤ 4294967295 := by
  have := rdN_lt hx 4 r 4294967296 (by decide) (by decide); exact ⟨this.1, by omega⟩
theorem b8 {xs : List Int} (hx : Bytes xs) (r : Rd) : 0 ≤ (rdN xs 8 r).1 ∧ (rdN xs 8 r).1 ≤ 18446744073709551615 := by
  have := rdN_lt hx 8 r 18446744073709551616 (by decide) (by decide); exact ⟨this.1, by omega⟩
theorem whole {xs ys : List Int} {r : Rd} (h : xs.take r.p = ys) (h2 : r.p = xs.length) : ys = xs := by
  rw [← h, h2, List.take_of_length_le (Nat.le_refl _)]
end Go.Proofs.YtbbjmmooemmeiaaDoor

namespace Go.Proofs.YtbbjmmooemmeiaaDoor
set_option linter.all false
set_option linter.unusedVariables false
set_option linter.unusedSimpArgs false
set_option maxRecDepth 100000
def knownI (c : Int) : Bool := decide (c = 12) || (decide (c = 14) || (decide (16 ≤ c) && decide (c ≤ 18)))
def knownIS (c : Int) : Bool := decide (c = 14) || (decide (16 ≤ c) && decide (c ≤ 18))
def truthI (b : Bool) : Int := if b = true then 1 else 0
def classI (a : AskV) : Bool := decide (1 ≤ a.cls) && decide (a.cls ≤ 3)
/-- an Ask without what its command's row names -/
def besideI (c : Int) (a : AskV) : AskV :=
  if c = 14 then { a with file := 0, most := 0, pat := .empty, aft := .empty }
  else if c = 16 then { a with file := 0 }
  else if c = 17 then (if a.cls = 1 then { a with siz := 0, file := 0, cls := 0 } else if a.cls = 2 then { a with on := false, file := 0, cls := 0 } else { a with on := false, name := .empty, file := 0, cls := 0 })
  else if c = 18 then { a with file := 0, lev := 0 }
  else a
def nameI (c : Int) (a : AskV) : Bool := knownI c && ((!decide (c = 17) || classI a) && decide (besideI c a = zeroAsk))
def ipErr (c : Int) (a : AskV) : Int :=
  if nameI c a = true then (if c = 14 then (if ptextErr a.pat.data.toList = 0 then ptextErr a.aft.data.toList else ptextErr a.pat.data.toList) else if c = 17 ∧ a.cls = 3 then ptextErr a.name.data.toList else 0) else 2
def bodyI (c : Int) (a : AskV) : List Int :=
  if c = 14 then le a.file 8 ++ (le a.most 2 ++ (List.replicate 2 0 ++ (ptextOf a.pat.data.toList ++ ptextOf a.aft.data.toList)))
  else if c = 16 then le a.file 8
  else if c = 17 then (if a.cls = 1 then le a.file 8 ++ (le a.cls 2 ++ le a.siz 8) else if a.cls = 2 then le a.file 8 ++ (le a.cls 2 ++ le (truthI a.on) 2) else le a.file 8 ++ (le a.cls 2 ++ (le (truthI a.on) 2 ++ ptextOf a.name.data.toList)))
  else if c = 18 then le a.file 8 ++ (le a.lev 1 ++ List.replicate 3 0)
  else List.replicate 4 0
def ipOf (c : Int) (a : AskV) : List Int := if ipErr c a = 0 then bodyI c a else []
/-! ### reading -/
def rdT (xs : List Int) (r : Rd) : Int × Rd := rdMost xs 2 1 5 r
def rdK (xs : List Int) (r : Rd) : Int × Rd := rdMost xs 2 2 5 r
/-- an error that is kept if it is the first one -/
def rdFail (e : Int) (r : Rd) : Rd := if r.e = 0 then ⟨r.p, e⟩ else r
def e1 (xs : List Int) (r : Rd) := rdK xs r
def e2 (xs : List Int) (r : Rd) := rdZ xs 2 (e1 xs r).2
def e3 (xs : List Int) (r : Rd) := rdMost xs 8 1048576 5 (e2 xs r)
def e4 (xs : List Int) (r : Rd) := rdText xs (e3 xs r).2
def rdEnt (xs : List Int) (r : Rd) : EntryV × Rd := (⟨⟨(e4 xs r).1.toArray⟩, (e1 xs r).1, (e3 xs r).1⟩, (e4 xs r).2)
/-- k Entries: as a loop that never ends early -/
def rdEnts (xs : List Int) (r : Rd) : Nat → List EntryV × Rd
  | 0 => ([], r)
  | k + 1 => ((rdEnts xs r k).1 ++ [(rdEnt xs (rdEnts xs r k).2).1], (rdEnt xs (rdEnts xs r k).2).2)
/-- what is asked: of a List -/
def l1 (xs : List Int) := rdN xs 8 rd0
def l2 (xs : List Int) := rdN xs 2 (l1 xs).2
def l3 (xs : List Int) := rdZ xs 2 (l2 xs).2
def l4 (xs : List Int) := rdText xs (l3 xs)
def l5 (xs : List Int) := rdText xs (l4 xs).2
/-- of a Set (File, Class as of a List: l1, l2): Size, On, Name -/
def t3 (xs : List Int) := rdN xs 8 (l2 xs).2
def t4 (xs : List Int) := rdT xs (l2 xs).2
def t5 (xs : List Int) := rdText xs (t4 xs).2
/-- of a Break: Level, three noughts -/
def k2 (xs : List Int) := rdN xs 1 (l1 xs).2
def k3 (xs : List Int) := rdZ xs 3 (k2 xs).2
def igP (c : Int) (xs : List Int) : AskV × Rd :=
  if c = 14 then ({ zeroAsk with file := (l1 xs).1, most := (l2 xs).1, pat := ⟨(l4 xs).1.toArray⟩, aft := ⟨(l5 xs).1.toArray⟩ }, (l5 xs).2)
  else if c = 16 then ({ zeroAsk with file := (l1 xs).1 }, (l1 xs).2)
  else if c = 17 then (if (l2 xs).1 = 1 then ({ zeroAsk with file := (l1 xs).1, cls := (l2 xs).1, siz := (t3 xs).1 }, (t3 xs).2)
    else if (l2 xs).1 = 2 then ({ zeroAsk with file := (l1 xs).1, cls := (l2 xs).1, on := (t4 xs).1 != 0 }, (t4 xs).2)
    else if (l2 xs).1 = 3 then ({ zeroAsk with file := (l1 xs).1, cls := (l2 xs).1, on := (t4 xs).1 != 0, name := ⟨(t5 xs).1.toArray⟩ }, (t5 xs).2)
    else ({ zeroAsk with file := (l1 xs).1, cls := (l2 xs).1 }, rdFail 5 (l2 xs).2))
  else if c = 18 then ({ zeroAsk with file := (l1 xs).1, lev := (k2 xs).1 }, k3 xs)
  else (zeroAsk, rdZ xs 4 rd0)
def igErr (c : Int) (xs : List Int) : Int := if knownI c = true then rdEnd xs (igP c xs).2 else 2
def igOf (c : Int) (xs : List Int) : AskV := if igErr c xs = 0 then (igP c xs).1 else zeroAsk
/-- what is said: of a List -/
def m1 (xs : List Int) := rdMost xs 2 64 3 rd0
def m2 (xs : List Int) := rdT xs (m1 xs).2
def m3 (xs : List Int) := rdEnts xs (m2 xs).2 (m1 xs).1.toNat
/-- of a Query (Size as File: l1): Kind, Gone -/
def g2 (xs : List Int) := rdK xs (l1 xs).2
def g3 (xs : List Int) := rdT xs (g2 xs).2
def jgP (c : Int) (xs : List Int) : SayV × Rd :=
  if c = 14 then ({ zeroSay with ents := (m3 xs).1, more := (m2 xs).1 != 0 }, (m3 xs).2)
  else if c = 16 then ({ zeroSay with siz := (l1 xs).1, kind := (g2 xs).1, gone := (g3 xs).1 != 0 }, (g3 xs).2)
  else if c = 18 then ({ zeroSay with file := (l1 xs).1, lev := (k2 xs).1 }, k3 xs)
  else (zeroSay, rdZ xs 4 rd0)
def jgErr (c : Int) (xs : List Int) : Int := if knownIS c = true then rdEnd xs (jgP c xs).2 else 2
def jgOf (c : Int) (xs : List Int) : SayV := if jgErr c xs = 0 then (jgP c xs).1 else zeroSay
theorem knownI_cases {c : Int} (h : knownI c = true) : c = 12 ∨ c = 14 ∨ c = 16 ∨ c = 17 ∨ c = 18 := by unfold knownI at h; simp at h; omega
theorem knownIS_cases {c : Int} (h : knownIS c = true) : c = 14 ∨ c = 16 ∨ c = 17 ∨ c = 18 := by unfold knownIS at h; simp at h; omega
theorem truthI_le (b : Bool) : 0 ≤ truthI b ∧ truthI b ≤ 1 := by cases b <;> decide
theorem rdEnts_len {xs : List Int} {r : Rd} (k : Nat) : (rdEnts xs r k).1.length = k := by
  induction k with
  | zero => rfl
  | succ k ih => simp [rdEnts, ih]
theorem rdT_lt {xs : List Int} (hx : Bytes xs) (r : Rd) : 0 ≤ (rdT xs r).1 ∧ (rdT xs r).1 ≤ 1 := rdMost_lt hx 2 1 5 r (by decide) (by decide)
theorem rdK_lt {xs : List Int} (hx : Bytes xs) (r : Rd) : 0 ≤ (rdK xs r).1 ∧ (rdK xs r).1 ≤ 2 := rdMost_lt hx 2 2 5 r (by decide) (by decide)
end Go.Proofs.YtbbjmmooemmeiaaDoor

namespace Go.Proofs.YtbbjmmooemmeiaaDoor
set_option linter.all false
open Go.RowKit
set_option linter.unusedVariables false
set_option linter.unusedSimpArgs false
set_option maxRecDepth 100000
theorem run_append_zeros {w : World} {base n : Nat} {v : Value} {xs : List Int} (h0 : 0 < n) (hn : n ≤ 65536) (hown : OwnZ .u8 5 w base v xs) (hx : xs.length ≤ 1000000) (hbase : base ≤ w.heap.size) (ty : TypeId) :
    ∃ v' w', (Builtin.append_ #[29, 3] ty #[v, .int .i64 (n : Int)]).run Tryd.prog w = .ok v' w' ∧ OwnZ .u8 5 w' base v' (xs ++ List.replicate n 0) ∧ w.grownBy w' v.ownBlock := by
  obtain ⟨i0, hi, hz0, hz1, hz2⟩ := info_parts info_u8
  have hmax : maxLen = 9223372036854775807 := rfl
  have ht : Tryd.prog.underlying 29 = some (.slice 5) := Tryd.underlying29
  have htn : Tryd.prog.underlying 3 = some (.int .i64) := Tryd.underlying3
  have hw : IntKind.i64.wrap (n : Int) = n := by rw [IntKind.wrap_i64]; omega
  have hneg : ¬ ((n : Int) < 0) := by omega
  have h48i : ¬ (281474976710656 < (n : Int) * (i0.bytes : Int)) := by rw [hz2]; omega
  have hns : ¬ (n * i0.size = 0) := by rw [hz1]; omega
  have hn0 : n ≠ 0 := by omega
  have hOK := hown.own
  rcases hown with ⟨rfl, rfl⟩ | ⟨g, z, rfl, hb, hz, hg⟩
  · have hrun := Lib.run_append_nil_zeros (P := Tryd.prog) w 29 3 ty 5 i0 (.int .u8 0) .i64 .i64 ht htn hi hz0 n h0 (by omega) (by omega) (by rw [hz2]; omega)
    refine ⟨_, _, hrun, ?_, ⟨rfl, rfl, rfl, by simp, fun j hj _ => Below.heap_alloc w.drew _ j hj⟩⟩
    have := grew_new .u8 5 w base (List.replicate n 0) 0 n (by simp) hbase (by omega)
    rw [zeroCells_int .u8 n, List.nil_append]
    simpa using this
  · by_cases hroom : xs.length + n ≤ xs.length + z
    · have hst := run_storeCells_at Tryd.prog g (xs.length * i0.size) 5 ((List.replicate n (0 : Int)).map (Value.int .u8)) 0 _ w hg (by simp [hz1]; omega) (by intro u hu; obtain ⟨x, _, rfl⟩ := List.mem_map.1 hu; rfl)
      simp only [Nat.add_zero] at hst
      have hzc : (Builtin.zeroCells (Value.int .u8 0).cells n).toList = (List.replicate n (0 : Int)).map (Value.int .u8) := by rw [zeroCells_int]; simp
      refine ⟨.slice (some ⟨g, 0, none⟩) (xs.length + n) (xs.length + z), w.setRow g ((xs ++ List.replicate n 0 ++ List.replicate (z - n) 0).map (Value.int .u8)).toArray, ?_, .inr ⟨g, z - n, by simp; omega, hb, by simp; omega, setRow_heap w g _ _ 5 _ hg⟩, ?_⟩
      rotate_left
      · exact ⟨rfl, rfl, rfl, by simp, fun j _ hj => setRow_other w g j _ (fun e => hj (by simp [Value.ownBlock, e]))⟩
      · have e1 : ((xs ++ List.replicate z (0 : Int)).map (Value.int .u8)).take (xs.length * i0.size) = xs.map (Value.int .u8) := by
          rw [hz1, Nat.mul_one, List.map_append, List.take_left' (by simp)]
        have e2 : ((xs ++ List.replicate z (0 : Int)).map (Value.int .u8)).drop (xs.length * i0.size + ((List.replicate n (0 : Int)).map (Value.int .u8)).length) = (List.replicate (z - n) (0 : Int)).map (Value.int .u8) := by
          rw [hz1, Nat.mul_one, List.length_map, List.length_replicate, ← List.drop_drop, List.map_append, List.drop_left' (by simp), ← List.map_drop, List.drop_replicate]
        rw [e1, e2, ← hzc] at hst
        rw [List.map_append, List.map_append, ← hzc]
        have hroom2 : n ≤ z := by omega
        simp [Builtin.append_, run_underlying ht, run_underlying htn, sizeOf, typeInfo, zeroValue, hi, hz0, asInt, asIntOf, hw, hneg, hns, h48i, hroom2, Addr.add_lit, hst, hn0]
    · have hcells : ∀ j y, (xs.map (Value.int .u8))[j]? = some y → w.cell? ((⟨g, 0, none⟩ : Addr).add j) = some y := hOK.cells (g := g) rfl
      have hfit := growslice_fits (need := xs.length + n) (old := xs.length + z) (bytes := i0.bytes) (by omega) (by rw [hz2]; omega)
      have h48' : ¬ (281474976710656 < Builtin.nextslicecap (xs.length + n) (xs.length + z) * i0.bytes) := by omega
      have h63' : ¬ (9223372036854775807 < ((xs.length : Int) + (n : Int))) := by omega
      have hfo := run_firstCells_some (P := Tryd.prog) w.drew i0.size xs.length ⟨g, 0, none⟩ xs.length (xs.length + z) (xs.map (Value.int .u8)) (by simp [hz1]) (by simpa using hcells)
      have hnr : ¬ n ≤ z := by omega
      have := grew_new .u8 5 w base (xs ++ List.replicate n 0) (xs.length + z) (xs.length + n) (by simp) hbase (by omega)
      refine ⟨.slice (some ⟨w.heap.size, 0, none⟩) (xs.length + n) (grownCap w (xs.length + n) (xs.length + z) 5), _, ?_, this, ?_⟩
      rotate_left
      · exact ⟨rfl, rfl, rfl, by simp, fun j hj _ => Below.heap_alloc w.drew _ j hj⟩
      · simp [Builtin.append_, run_underlying ht, run_underlying htn, sizeOf, typeInfo, zeroValue, hi, hz0, asInt, asIntOf, hw, hneg, hns, h48i, h48', h63', hn0, Question.forced, hfo, newRow, grownCap, hnr, zeroCells_int]
        congr 2
        apply Array.ext'
        simp [List.append_assoc, List.replicate_append_replicate]
end Go.Proofs.YtbbjmmooemmeiaaDoor

namespace Go.Proofs.YtbbjmmooemmeiaaDoor
set_option linter.all false
open Go.RowKit
set_option linter.unusedVariables false
set_option maxRecDepth 100000
/-- the program's writer in block g: what was laid, and the first error; its own rows lie from block base on -/
def WI (w : World) (g base : Nat) (xs : List Int) (e : Int) : Prop := base ≤ g ∧ ∃ v, Blk w g 62 [v, .int .i64 e] ∧ OwnZ .u8 5 w base v xs
/-- what the writer leaves as it was: all below base; of the rest all blocks but its own one and rows of bytes -/
structure WKeep (g base : Nat) (w w' : World) : Prop where
  below : Below base w w'
  rest : ∀ k cs T, T ≠ 5 → k ≠ g → w.heap[k]? = some (.cells cs T (0, 0)) → w'.heap[k]? = some (.cells cs T (0, 0))
def WPost (w : World) (g base : Nat) (xs : List Int) (er : Int) (e : Ending) (w' : World) : Prop := e = .returned (.tuple #[]) ∧ WI w' g base xs er ∧ WKeep g base w w'
/-- the two tables stay over whatever turns nothing below base -/
def TabsB (base : Nat) (w : World) : Prop := ∀ w', Below base w w' → Tabs w'
theorem TabsB.of {w : World} (h : Tabs w) : TabsB w.heap.size w := fun w' hb => h.below hb
theorem TabsB.next {base : Nat} {w w' : World} (h : TabsB base w) (hb : Below base w w') : TabsB base w' := fun w2 h2 => h w2 (hb.trans h2)
theorem TabsB.tabs {base : Nat} {w : World} (h : TabsB base w) : Tabs w := h w (Below.refl _ _)
section
variable {w w' w2 : World} {g base : Nat} {xs : List Int} {er : Int} {v : Value} {cs : List Value} {T : TypeId}
theorem WKeep.refl (g base : Nat) (w : World) : WKeep g base w w := ⟨Below.refl _ _, fun _ _ _ _ _ h => h⟩
theorem WKeep.trans (a : WKeep g base w w') (b : WKeep g base w' w2) : WKeep g base w w2 := ⟨a.below.trans b.below, fun k cs T h1 h2 h3 => b.rest k cs T h1 h2 (a.rest k cs T h1 h2 h3)⟩
theorem WKeep.of_below (hb : Below w.heap.size w w') (h : base ≤ w.heap.size) : WKeep g base w w' := ⟨hb.mono h, fun k cs T _ _ h3 => (hb.block k (Array.getElem?_eq_some_iff.1 h3).1).trans h3⟩
theorem WKeep.of_only (hO : Only g w w') (h : base ≤ g) : WKeep g base w w' := ⟨hO.below h, fun k cs T _ h2 h3 => (hO.rest k h2).trans h3⟩
theorem WKeep.of_grown (hg : w.grownBy w' v.ownBlock) (ho : OwnZ .u8 5 w base v xs) (h : base ≤ w.heap.size) : WKeep g base w w' := by
  refine ⟨(Below.refl _ _).grown hg h (fun k hk => (World.ownsRow.lt ho.own k hk).1), fun k cs T h1 h2 h3 => ?_⟩
  rw [hg.block k (Array.getElem?_eq_some_iff.1 h3).1 (fun e => ?_), h3]
  obtain ⟨_, cs', hc⟩ := ho.own.block e.symm
  rw [hc] at h3
  cases h3
  exact h1 rfl
theorem WKeep.blk {k : Nat} (a : WKeep g base w w') (h : Blk w k T cs) (h1 : T ≠ 5) (h2 : k ≠ g) : Blk w' k T cs := a.rest k _ T h1 h2 h
theorem WI.lt (h : WI w g base xs er) : g < w.heap.size := by obtain ⟨_, v, hB, _⟩ := h; exact hB.lt
theorem WI.size (h : WI w g base xs er) : base ≤ w.heap.size := by have := h.lt; have := h.1; omega
theorem WI.below (h : WI w g base xs er) (hb : Below w.heap.size w w') : WI w' g base xs er := by
  obtain ⟨h1, v, hB, hO⟩ := h
  exact ⟨h1, v, hB.over hb, hO.below hb⟩
theorem own_holds {A : Option Addr} {n c : Nat} (h : OwnZ .u8 5 w base (.slice A n c) xs) (hx : Bytes xs) (hn : xs.length ≤ 281474976710656) : Holds w w.heap.size A n c xs := by
  obtain ⟨A', c', e, h1⟩ := OwnZ.holds8 h hx hn
  cases e
  exact h1
theorem own_only (h : OwnZ .u8 5 w base v xs) (hB : Blk w g 62 cs) (hO : Only g w w') : OwnZ .u8 5 w' base v xs :=
  h.keep fun i c hi hc => hO.rest i (fun e => by
    subst e
    rw [show w.heap[i]? = _ from hB] at hc
    cases hc)
theorem blk_grown (hB : Blk w g 62 cs) (h : OwnZ .u8 5 w base v xs) (hg : w.grownBy w' v.ownBlock) : Blk w' g 62 cs := by
  show w'.heap[g]? = _
  rw [hg.block g hB.lt (fun e => ?_)]
  · exact hB
  · obtain ⟨_, c, hc⟩ := h.own.block e.symm
    rw [show w.heap[g]? = _ from hB] at hc
    cases hc
end
/-- append(out, src...): of all else nothing turns but out's own row -/
theorem run_append_bytesG {w : World} {base : Nat} {v : Value} {xs ys : List Int} {B m c : Nat} {ad : Addr} (hown : OwnZ .u8 5 w base v xs) (hr : Holds w B (some ad) m c ys) (hlen : xs.length + ys.length ≤ 140737488355328) (hbase : base ≤ w.heap.size) (ty : TypeId) :
    ∃ v' w', (Builtin.append_ #[29, 29] ty #[v, .slice (some ad) m c]).run Tryd.prog w = .ok v' w' ∧ OwnZ .u8 5 w' base v' (xs ++ ys) ∧ w.grownBy w' v.ownBlock := by
  obtain ⟨i0, hi0, hz0, hz1, hz2⟩ := info_parts info_u8
  have hl := hr.len
  have hOK := hown.own
  have hnews : ∀ j y, (ys.map (Value.int .u8))[j]? = some y → w.cell? (ad.add j) = some y := by
    intro j u hj
    have hjl : j < ys.length := by
      by_cases hj' : j < ys.length
      · exact hj'
      · rw [List.getElem?_eq_none (by simp; omega)] at hj
        cases hj
    obtain ⟨b, off, he, _, hcl⟩ := hr.cells (by omega)
    obtain rfl := Option.some.inj he
    have e : (⟨b, off, none⟩ : Addr).add j = ⟨b, off + j, none⟩ := by
      by_cases hj0 : j = 0
      · subst hj0; simp [Addr.add]
      · simp [Addr.add, hj0]
    rw [e, hcl j (by omega), ← hj]
    simp [hjl]
  have h1 : ∀ y ∈ ys.map (Value.int .u8), y.oneCell' = true := by intro v hv; obtain ⟨x, _, rfl⟩ := List.mem_map.1 hv; rfl
  have hmax : maxLen = 9223372036854775807 := rfl
  have key : ∀ ty, ∃ v' w', (Builtin.append_ #[29, 29] ty #[v, .slice (some ad) m c]).run Tryd.prog w = .ok v' w' ∧ OwnZ .u8 5 w' base v' (xs ++ ys) ∧ w.grownBy w' v.ownBlock := by
    intro ty
    rcases hown with ⟨rfl, rfl⟩ | ⟨g, z, rfl, hb, hz, hg⟩
    · by_cases hm0 : m = 0
      · subst hm0
        have : ys = [] := List.eq_nil_of_length_eq_zero hl
        subst this
        obtain ⟨v', w', hrun, _, hgr, hnil⟩ := run_append_own (P := Tryd.prog) w base 29 ty 5 i0 (.int .u8 0) 1 1 Tryd.underlying29 hi0 hz0 hz1 hz2 rfl (by omega) (.slice none 0 0) 0 [] (World.ownsRow_nil w base _ 1) ad 0 c [] rfl (fun j u hj => by cases hj) (fun u hu => by cases hu) (by omega) (by omega) hbase
        obtain rfl := hnil.2 ⟨rfl, rfl⟩
        exact ⟨_, _, hrun, OwnZ.nil _ _ _ _, hgr⟩
      · have hrun := run_append_nil (P := Tryd.prog) w 29 ty 5 i0 (.int .u8 0) Tryd.underlying29 hi0 hz0 ad m c (ys.map (Value.int .u8)) (by simp [hl, hz1]) hnews (by omega) (by omega) (by rw [hz2]; simp at hlen; omega)
        exact ⟨_, _, hrun, by simpa using grew_new .u8 5 w base ys 0 m hl hbase (by omega), ⟨rfl, rfl, rfl, by simp, fun j hj _ => Below.heap_alloc w.drew _ j hj⟩⟩
    · by_cases hroom : xs.length + m ≤ xs.length + z
      · have hrun := run_append_room (P := Tryd.prog) w 29 ty 5 i0 Tryd.underlying29 hi0 g xs.length (xs.length + z) _ hg ad m c (ys.map (Value.int .u8)) (by simp [hl, hz1]) hnews h1 hroom (by simp [hz1]; omega)
        refine ⟨_, _, hrun, .inr ⟨g, z - m, by simp [hl]; omega, hb, by simp; omega, ?_⟩, ⟨rfl, rfl, rfl, by simp, fun j _ hj => setRow_other w g j _ (fun e => hj (by simp [Value.ownBlock, e]))⟩⟩
        rw [setRow_heap w g _ _ 5 _ hg]
        congr 2
        have e1 : ((xs ++ List.replicate z 0).map (Value.int .u8)).take (xs.length * i0.size) = xs.map (Value.int .u8) := by
          rw [hz1, Nat.mul_one, List.map_append, List.take_left' (by simp)]
        have e2 : ((xs ++ List.replicate z 0).map (Value.int .u8)).drop (xs.length * i0.size + (ys.map (Value.int .u8)).length) = (List.replicate (z - m) 0).map (Value.int .u8) := by
          rw [hz1, Nat.mul_one, List.length_map, hl, ← List.drop_drop, List.map_append, List.drop_left' (by simp), ← List.map_drop, List.drop_replicate]
        rw [e1, e2]
        simp
      · have hcells : ∀ j y, (xs.map (Value.int .u8))[j]? = some y → w.cell? ((⟨g, 0, none⟩ : Addr).add j) = some y := hOK.cells (g := g) rfl
        have hrun := run_append_grow (P := Tryd.prog) w 29 ty 5 i0 (.int .u8 0) Tryd.underlying29 hi0 hz0 ⟨g, 0, none⟩ xs.length (xs.length + z) (xs.map (Value.int .u8)) (by simp [hz1]) hcells ad m c (ys.map (Value.int .u8)) (by simp [hl, hz1]) hnews (by omega) (by omega) (growslice_fits (by omega) (by rw [hz2]; omega))
        refine ⟨_, _, hrun, ?_, ⟨rfl, rfl, rfl, by simp, fun j hj _ => Below.heap_alloc w.drew _ j hj⟩⟩
        have := grew_new .u8 5 w base (xs ++ ys) (xs.length + z) (xs.length + m) (by simp [hl]) hbase (by omega)
        simpa using this
  exact key ty
theorem wpList_append_bytesG {w : World} {ops : Array Oper} {rest : List Oper} {o : Oper} {a : Act} {Q : Exit → Act → World → Prop} (hgd : o.guard = none) (s x : Operand)
    (ho : o.op = .call { callee := .builtin .append, args := #[s, x], argTypes := #[29, 29] })
    (base : Nat) (v : Value) (xs : List Int) (hs : a.eval s = v) (hown : OwnZ .u8 5 w base v xs) (B : Nat) (A : Option Addr) (m c : Nat) (ys : List Int) (hx : a.eval x = .slice A m c)
    (hr : Holds w B A m c ys) (hlen : xs.length + ys.length ≤ 140737488355328) (hbase : base ≤ w.heap.size)
    (h : ∀ v' w', Hid (OwnZ .u8 5 w' base v' (xs ++ ys)) → Hid (w.grownBy w' v.ownBlock) → wpList Tryd.prog ops Q rest (a.put o.dst v') w') :
    wpList Tryd.prog ops Q (o :: rest) a w := by
  have hl := hr.len
  rcases A with _ | ad
  · have hc := hr.bare rfl
    have hf := hr.fit
    have hm : m = 0 := by omega
    subst hm
    subst hc
    have : ys = [] := List.eq_nil_of_length_eq_zero hl
    subst this
    obtain ⟨i0, hi0, hz0, hz1, hz2⟩ := info_parts info_u8
    refine wpList_append_own_none hgd s x 29 ho base 5 i0 1 Tryd.underlying29 hi0 v xs.length _ hs hown.own hx ?_
    exact h v w (by rw [List.append_nil]; exact hown) (World.grownBy.refl w _)
  · obtain ⟨v', w', hrun, h2, h3⟩ := run_append_bytesG hown hr hlen hbase o.type
    exact Lib.wpList_append_run w hgd s x _ _ ho _ _ hs hx v' w' hrun (h v' w' h2 h3)
/-- append(out, make([]byte, n)...), likewise -/
theorem wpList_append_zerosG {w : World} {ops : Array Oper} {rest : List Oper} {o : Oper} {a : Act} {Q : Exit → Act → World → Prop} (hgd : o.guard = none) (s x : Operand)
    (ho : o.op = .call { callee := .builtin .append, args := #[s, x], argTypes := #[29, 3] })
    (base n : Nat) (v : Value) (xs : List Int) (hs : a.eval s = v) (hx : a.eval x = .int .i64 (n : Int)) (hown : OwnZ .u8 5 w base v xs) (h0 : 0 < n) (hn : n ≤ 65536) (hlen : xs.length ≤ 1000000) (hbase : base ≤ w.heap.size)
    (h : ∀ v' w', Hid (OwnZ .u8 5 w' base v' (xs ++ List.replicate n 0)) → Hid (w.grownBy w' v.ownBlock) → wpList Tryd.prog ops Q rest (a.put o.dst v') w') :
    wpList Tryd.prog ops Q (o :: rest) a w := by
  obtain ⟨v', w', hrun, h2, h3⟩ := run_append_zeros h0 hn hown hlen hbase o.type
  exact Lib.wpList_append_run w hgd s x _ _ ho _ _ hs hx v' w' hrun (h v' w' h2 h3)
theorem size_sl8 : (Tryd.prog.info? 29).map (·.size) = some 1 := by kernel_rfl
theorem wtruth_any (w : World) (b : Bool) : Calls Tryd.prog 34 #[.bool b] w fun e w' => e = .returned (.int .u64 (truthI b)) ∧ w = w' := by
  cases b
  · go_enter Tryd.func34, Tryd.ntmps34
    go_wp2
    go_ret
    exact ⟨rfl, rfl⟩
  · go_enter Tryd.func34, Tryd.ntmps34
    go_wp2
    go_ret
    exact ⟨rfl, rfl⟩
set_option maxHeartbeats 1000000 in
theorem wnum_any (w : World) (g base : Nat) (xs : List Int) (er n : Int) (s : Nat) (hW : WI w g base xs er) (hs : sizeOk (s : Int) = true) (hn : 0 ≤ n ∧ n < 256 ^ s) (hl : xs.length ≤ 1000000) :
    Calls Tryd.prog 65 #[.pointer (some ⟨g, 0, none⟩), .int .u64 n, .int .i64 (s : Int)] w (WPost w g base (xs ++ le n s) er) := by
  have hs8 : 1 ≤ s ∧ s ≤ 8 := by rcases sizeOk_cases hs with h | h | h | h <;> omega
  obtain ⟨hs1, hs8⟩ := hs8
  have hp8 : (256 : Int) ^ s ≤ 18446744073709551616 := by
    rcases sizeOk_cases hs with h | h | h | h
    · obtain rfl : s = 1 := by omega
      decide
    · obtain rfl : s = 2 := by omega
      decide
    · obtain rfl : s = 4 := by omega
      decide
    · obtain rfl : s = 8 := by omega
      decide
  have CP : Hid (Calls Tryd.prog 81 #[.int .u64 n, .int .i64 (s : Int)] w fun e w' => ∃ A', e = .returned (.tuple #[.slice A' s s, .int .i64 0]) ∧ Fresh w' w.heap.size A' (le n s) ∧ Below w.heap.size w w') := by
    obtain ⟨h0, h1⟩ := hn
    have h := Put_any w n (s : Int) ⟨h0, by omega⟩ (by omega)
    unfold PutPost at h
    have hp : putOk n (s : Int) = true := by unfold putOk; rw [hs, Int.toNat_natCast, decide_eq_true h1]; rfl
    unfold putErr putOf at h
    rw [if_pos hp, if_pos hp, Int.toNat_natCast, le_length] at h
    exact h
  have hsz := hW.size
  have hgb := hW.1
  have HLN : Hid ((le n s).length = s ∧ Bytes (le n s)) := ⟨le_length _ _, le_bytes _ _⟩
  obtain ⟨_, v, hB, hO⟩ := hW
  have HBw := Lib.hid hB
  have HO := Lib.hid hO
  have HQ : Hid (∀ e w', (e = .returned (.tuple #[]) ∧ (∃ u, Blk w' g 62 [u, .int .i64 er] ∧ OwnZ .u8 5 w' base u (xs ++ le n s)) ∧ WKeep g base w w') → WPost w g base (xs ++ le n s) er e w') := fun e w' ⟨h1, h2, h3⟩ => ⟨h1, ⟨hgb, h2⟩, h3⟩
  obtain ⟨ys, hys⟩ : ∃ ys, ys = le n s := ⟨_, rfl⟩
  rw [← hys] at CP HQ HLN ⊢
  clear hB hO hys hn hp8 hs
  go_enter Tryd.func65, Tryd.ntmps65
  go_wp2_with fail
  refine CP.out.mono ?_
  rintro e w1 ⟨A', rfl, hF, L1⟩
  have HH := Lib.hid (hF.holds HLN.out.1 HLN.out.2 (by omega))
  have hyl := HLN.out.1
  have B1 := Lib.hid (HBw.out.over L1)
  have O1 := Lib.hid (HO.out.below L1)
  have K1 : Hid (WKeep g base w w1) := WKeep.of_below L1 hsz
  have hsz1 : base ≤ w1.heap.size := by have := L1.size; omega
  have c0 : w1.cell? ⟨g, 0, none⟩ = some v := B1.out.at rfl
  clear hF L1 CP HBw HO
  go_wp2_with (first
    | ((with_reducible show wpList _ _ _ (⟨some 20, _, _, _, _, _⟩ :: _) _ _); refine wpList_append_bytesG rfl (.tmp 18) (.tmp 19) rfl base v xs rfl O1.out w1.heap.size A' s s ys rfl HH.out (by omega) hsz1 ?_; intro u w2 O2 G2; have B2 := Lib.hid (blk_grown B1.out O1.out G2.out); have K2 : Hid (WKeep g base w w2) := (K1.out.trans (WKeep.of_grown G2.out O1.out hsz1)); have HU := Lib.hid (ownZ_one O2.out))
    | ((with_reducible show wpList _ _ _ (⟨none, .store _ (.tmp 22) _, _, _, _, _⟩ :: _) _ _); refine wpList_store_fld rfl _ (.tmp 22) (.tmp 20) rfl g 0 rfl _ [v, .int .i64 er] u rfl B2 (Lib.hid (by show 0 < 2; decide)) size_sl8 HU.out ?_; intro w3 B3 P3 hg3; have O3 := Lib.hid (own_only O2.out B2.out P3.out); have K3 : Hid (WKeep g base w w3) := (K2.out.trans (WKeep.of_only P3.out hgb)))
    | fail)
  go_end0
  exact HQ.out _ _ ⟨rfl, ⟨u, B3.out, O3.out⟩, K3.out⟩
theorem wtwo_any (w : World) (g base : Nat) (xs : List Int) (er n : Int) (hW : WI w g base xs er) (hn : 0 ≤ n ∧ n ≤ 65535) (hl : xs.length ≤ 1000000) :
    Calls Tryd.prog 31 #[.pointer (some ⟨g, 0, none⟩), .int .u64 n] w (WPost w g base (xs ++ le n 2) er) := by
  have C1 := Lib.hid (wnum_any w g base xs er n 2 hW (by decide) ⟨hn.1, by have := hn.2; rw [show (256 : Int) ^ 2 = 65536 from by decide]; omega⟩ hl)
  have HQ : Hid (∀ e w', (e = .returned (.tuple #[]) ∧ WI w' g base (xs ++ le n 2) er ∧ WKeep g base w w') → WPost w g base (xs ++ le n 2) er e w') := fun _ _ h => h
  unfold WPost at C1
  obtain ⟨ys, hys⟩ : ∃ ys, ys = xs ++ le n 2 := ⟨_, rfl⟩
  rw [← hys] at C1 HQ ⊢
  clear hys hW hn
  go_enter Tryd.func31, Tryd.ntmps31
  go_wp2_with fail
  refine C1.out.mono ?_
  rintro e w1 ⟨rfl, h1, h2⟩
  have H1 := Lib.hid h1
  have H2 := Lib.hid h2
  clear h1 h2
  go_wp2
  go_end0
  exact HQ.out _ _ ⟨rfl, H1.out, H2.out⟩
theorem weight_any (w : World) (g base : Nat) (xs : List Int) (er n : Int) (hW : WI w g base xs er) (hn : 0 ≤ n ∧ n ≤ 18446744073709551615) (hl : xs.length ≤ 1000000) :
    Calls Tryd.prog 30 #[.pointer (some ⟨g, 0, none⟩), .int .u64 n] w (WPost w g base (xs ++ le n 8) er) := by
  have C1 := Lib.hid (wnum_any w g base xs er n 8 hW (by decide) ⟨hn.1, by have := hn.2; rw [show (256 : Int) ^ 8 = 18446744073709551616 from by decide]; omega⟩ hl)
  have HQ : Hid (∀ e w', (e = .returned (.tuple #[]) ∧ WI w' g base (xs ++ le n 8) er ∧ WKeep g base w w') → WPost w g base (xs ++ le n 8) er e w') := fun _ _ h => h
  unfold WPost at C1
  obtain ⟨ys, hys⟩ : ∃ ys, ys = xs ++ le n 8 := ⟨_, rfl⟩
  rw [← hys] at C1 HQ ⊢
  clear hys hW hn
  go_enter Tryd.func30, Tryd.ntmps30
  go_wp2_with fail
  refine C1.out.mono ?_
  rintro e w1 ⟨rfl, h1, h2⟩
  have H1 := Lib.hid h1
  have H2 := Lib.hid h2
  clear h1 h2
  go_wp2
  go_end0
  exact HQ.out _ _ ⟨rfl, H1.out, H2.out⟩
set_option maxHeartbeats 1000000 in
theorem wnought_any (w : World) (g base : Nat) (xs : List Int) (er : Int) (n : Nat) (hW : WI w g base xs er) (h0 : 0 < n) (hn : n ≤ 65536) (hl : xs.length ≤ 1000000) :
    Calls Tryd.prog 32 #[.pointer (some ⟨g, 0, none⟩), .int .i64 (n : Int)] w (WPost w g base (xs ++ List.replicate n 0) er) := by
  have hsz := hW.size
  have hgb := hW.1
  obtain ⟨_, v, hB, hO⟩ := hW
  have HBw := Lib.hid hB
  have HO := Lib.hid hO
  have HQ : Hid (∀ e w', (e = .returned (.tuple #[]) ∧ (∃ u, Blk w' g 62 [u, .int .i64 er] ∧ OwnZ .u8 5 w' base u (xs ++ List.replicate n 0)) ∧ WKeep g base w w') → WPost w g base (xs ++ List.replicate n 0) er e w') := fun e w' ⟨h1, h2, h3⟩ => ⟨h1, ⟨hgb, h2⟩, h3⟩
  have c0 : w.cell? ⟨g, 0, none⟩ = some v := hB.at rfl
  clear hB hO
  go_enter Tryd.func32, Tryd.ntmps32
  go_wp2_with (first
    | ((with_reducible show wpList _ _ _ (⟨some 10, _, _, _, _, _⟩ :: _) _ _); refine wpList_append_zerosG rfl (.tmp 8) (.tmp 9) rfl base n v xs rfl rfl HO.out h0 hn hl hsz ?_; intro u w2 O2 G2; have B2 := Lib.hid (blk_grown HBw.out HO.out G2.out); have K2 : Hid (WKeep g base w w2) := (WKeep.of_grown G2.out HO.out hsz); have HU := Lib.hid (ownZ_one O2.out))
    | ((with_reducible show wpList _ _ _ (⟨none, .store _ (.tmp 12) _, _, _, _, _⟩ :: _) _ _); refine wpList_store_fld rfl _ (.tmp 12) (.tmp 10) rfl g 0 rfl _ [v, .int .i64 er] u rfl B2 (Lib.hid (by show 0 < 2; decide)) size_sl8 HU.out ?_; intro w3 B3 P3 hg3; have O3 := Lib.hid (own_only O2.out B2.out P3.out); have K3 : Hid (WKeep g base w w3) := (K2.out.trans (WKeep.of_only P3.out hgb)))
    | fail)
  go_end0
  exact HQ.out _ _ ⟨rfl, ⟨u, B3.out, O3.out⟩, K3.out⟩
set_option maxHeartbeats 1000000 in
theorem wtext_any (w : World) (g base : Nat) (xs : List Int) (er : Int) (s : ByteArray) (hW : WI w g base xs er) (hs : s.size ≤ 17592186044416) (hT : TabsB base w) (hl : xs.length ≤ 1000000) :
    Calls Tryd.prog 33 #[.pointer (some ⟨g, 0, none⟩), .string s] w (WPost w g base (xs ++ ptextOf s.data.toList) (if er = 0 then ptextErr s.data.toList else er)) := by
  have hsz := hW.size
  have hgb := hW.1
  have CP : Hid (Calls Tryd.prog 66 #[.string s] w fun e w' => ∃ A m c, e = .returned (.tuple #[.slice A m c, .int .i64 (ptextErr s.data.toList)]) ∧ m ≤ 1000 ∧ OwnZ .u8 5 w' w.heap.size (.slice A m c) (ptextOf s.data.toList) ∧ Below w.heap.size w w') := by
    refine (PutTextB_any s w hs hT.tabs).mono fun e w' ⟨v, h1, h2, h3⟩ => ?_
    have hle : (ptextOf s.data.toList).length ≤ 514 := rowOf_le _
    obtain ⟨A, c, rfl, h4⟩ := OwnZ.holds8 h2 (ptextOf_bytes _) (by omega)
    exact ⟨A, _, c, h1, by omega, h2, h3⟩
  obtain ⟨_, v, hB, hO⟩ := hW
  have HBw := Lib.hid hB
  have HO := Lib.hid hO
  have HQ : Hid (∀ e w', (e = .returned (.tuple #[]) ∧ (∃ u, Blk w' g 62 [u, .int .i64 (if er = 0 then ptextErr s.data.toList else er)] ∧ OwnZ .u8 5 w' base u (xs ++ ptextOf s.data.toList)) ∧ WKeep g base w w') → WPost w g base (xs ++ ptextOf s.data.toList) (if er = 0 then ptextErr s.data.toList else er) e w') := fun e w' ⟨h1, h2, h3⟩ => ⟨h1, ⟨hgb, h2⟩, h3⟩
  have HYB : Hid (Bytes (ptextOf s.data.toList) ∧ (ptextOf s.data.toList).length ≤ 514) := ⟨ptextOf_bytes _, rowOf_le _⟩
  obtain ⟨ys, hys⟩ : ∃ ys, ys = ptextOf s.data.toList := ⟨_, rfl⟩
  obtain ⟨et, het⟩ : ∃ ys, ys = ptextErr s.data.toList := ⟨_, rfl⟩
  rw [← hys, ← het] at CP HQ ⊢
  rw [← hys] at HYB
  have hgw : g < w.heap.size := hB.lt
  clear hB hO hys het
  by_cases he : er = 0
  · subst he
    rw [if_pos rfl] at HQ ⊢
    go_enter Tryd.func33, Tryd.ntmps33
    go_wp2_with fail
    refine CP.out.mono ?_
    rintro e w1 ⟨A', m, c, rfl, hm, hh, L1⟩
    have HYL := HYB.out.2
    have HOT := Lib.hid hh
    have HH := Lib.hid (own_holds hh HYB.out.1 (by omega))
    have hyl := HH.out.len
    have B1 := Lib.hid (HBw.out.over L1)
    have O1 := Lib.hid (HO.out.below L1)
    have K1 : Hid (WKeep g base w w1) := WKeep.of_below L1 hsz
    have hsz1 : base ≤ w1.heap.size := by have := L1.size; omega
    have c0 : w1.cell? ⟨g, 0, none⟩ = some v := B1.out.at rfl
    have c1 : w1.cell? ⟨g, 1, none⟩ = some (.int .i64 0) := B1.out.at rfl
    clear hh L1 CP HBw HO
    go_wp2_with (first
      | ((with_reducible show wpList _ _ _ (⟨none, .store _ (.tmp 19) _, _, _, _, _⟩ :: _) _ _); refine wpList_store_fld rfl _ (.tmp 19) (.tmp 17) rfl g 1 rfl _ [v, .int .i64 0] (.int .i64 et) rfl B1 (Lib.hid (by show 1 < 2; decide)) (by kernel_rfl) rfl ?_; intro w2 B2 P2 hg2; have O2 := Lib.hid (own_only O1.out B1.out P2.out); have K2 : Hid (WKeep g base w w2) := (K1.out.trans (WKeep.of_only P2.out hgb)); have HH2 := Lib.hid (own_holds (HOT.out.onlyAt P2.out hgw) HYB.out.1 (by omega)); have hsz2 : base ≤ w2.heap.size := (by have := P2.out.size; omega); have d0 : w2.cell? ⟨g, 0, none⟩ = some v := B2.out.at rfl)
      | ((with_reducible show wpList _ _ _ (⟨some 26, _, _, _, _, _⟩ :: _) _ _); refine wpList_append_bytesG rfl (.tmp 24) (.tmp 25) rfl base v xs rfl O2.out _ A' m c ys rfl HH2.out (by omega) hsz2 ?_; intro u w3 O3 G3; have B3 := Lib.hid (blk_grown B2.out O2.out G3.out); have K3 : Hid (WKeep g base w w3) := (K2.out.trans (WKeep.of_grown G3.out O2.out hsz2)); have HU := Lib.hid (ownZ_one O3.out))
      | ((with_reducible show wpList _ _ _ (⟨none, .store _ (.tmp 28) _, _, _, _, _⟩ :: _) _ _); refine wpList_store_fld rfl _ (.tmp 28) (.tmp 26) rfl g 0 rfl _ [v, .int .i64 et] u rfl B3 (Lib.hid (by show 0 < 2; decide)) size_sl8 HU.out ?_; intro w4 B4 P4 hg4; have O4 := Lib.hid (own_only O3.out B3.out P4.out); have K4 : Hid (WKeep g base w w4) := (K3.out.trans (WKeep.of_only P4.out hgb)))
      | fail)
    go_end0
    exact HQ.out _ _ ⟨rfl, ⟨u, B4.out, O4.out⟩, K4.out⟩
  · rw [if_neg he] at HQ ⊢
    have hne : (er == 0) = false := by simpa using he
    clear he
    go_enter Tryd.func33, Tryd.ntmps33
    go_wp2_with fail
    refine CP.out.mono ?_
    rintro e w1 ⟨A', m, c, rfl, hm, hh, L1⟩
    have HYL := HYB.out.2
    have HOT := Lib.hid hh
    have HH := Lib.hid (own_holds hh HYB.out.1 (by omega))
    have hyl := HH.out.len
    have B1 := Lib.hid (HBw.out.over L1)
    have O1 := Lib.hid (HO.out.below L1)
    have K1 : Hid (WKeep g base w w1) := WKeep.of_below L1 hsz
    have hsz1 : base ≤ w1.heap.size := by have := L1.size; omega
    have c0 : w1.cell? ⟨g, 0, none⟩ = some v := B1.out.at rfl
    have c1 : w1.cell? ⟨g, 1, none⟩ = some (.int .i64 er) := B1.out.at rfl
    clear hh L1 CP HBw HO
    go_wp2_with (first
      | ((with_reducible show wpList _ _ _ (⟨some 26, _, _, _, _, _⟩ :: _) _ _); refine wpList_append_bytesG rfl (.tmp 24) (.tmp 25) rfl base v xs rfl O1.out _ A' m c ys rfl HH.out (by omega) hsz1 ?_; intro u w3 O3 G3; have B3 := Lib.hid (blk_grown B1.out O1.out G3.out); have K3 : Hid (WKeep g base w w3) := (K1.out.trans (WKeep.of_grown G3.out O1.out hsz1)); have HU := Lib.hid (ownZ_one O3.out))
      | ((with_reducible show wpList _ _ _ (⟨none, .store _ (.tmp 28) _, _, _, _, _⟩ :: _) _ _); refine wpList_store_fld rfl _ (.tmp 28) (.tmp 26) rfl g 0 rfl _ [v, .int .i64 er] u rfl B3 (Lib.hid (by show 0 < 2; decide)) size_sl8 HU.out ?_; intro w4 B4 P4 hg4; have O4 := Lib.hid (own_only O3.out B3.out P4.out); have K4 : Hid (WKeep g base w w4) := (K3.out.trans (WKeep.of_only P4.out hgb)))
      | fail)
    go_end0
    exact HQ.out _ _ ⟨rfl, ⟨u, B4.out, O4.out⟩, K4.out⟩
set_option maxHeartbeats 1000000 in
theorem wlevel_any (w : World) (g base : Nat) (xs : List Int) (er f v : Int) (hW : WI w g base xs er) (hf : 0 ≤ f ∧ f ≤ 18446744073709551615) (hv : 0 ≤ v ∧ v ≤ 255) (hl : xs.length ≤ 900000) :
    Calls Tryd.prog 35 #[.pointer (some ⟨g, 0, none⟩), .int .u64 f, .int .u8 v] w (WPost w g base (xs ++ (le f 8 ++ (le v 1 ++ List.replicate 3 0))) er) := by
  obtain ⟨hv0, hv1⟩ := hv
  have C1 := Lib.hid (weight_any w g base xs er f hW hf (by omega))
  have C2 : Hid (∀ w' : World, WI w' g base (xs ++ le f 8) er → Calls Tryd.prog 65 #[.pointer (some ⟨g, 0, none⟩), .int .u64 v, .int .i64 1] w' fun e w2 => e = .returned (.tuple #[]) ∧ WI w2 g base (xs ++ le f 8 ++ le v 1) er ∧ WKeep g base w' w2) := fun w' h => wnum_any w' g base _ er v 1 h (by decide) ⟨hv0, by rw [show (256 : Int) ^ 1 = 256 from by decide]; omega⟩ (by rw [List.length_append, le_length]; omega)
  have C3 : Hid (∀ w' : World, WI w' g base (xs ++ le f 8 ++ le v 1) er → Calls Tryd.prog 32 #[.pointer (some ⟨g, 0, none⟩), .int .i64 3] w' fun e w2 => e = .returned (.tuple #[]) ∧ WI w2 g base (xs ++ le f 8 ++ le v 1 ++ List.replicate 3 0) er ∧ WKeep g base w' w2) := fun w' h => wnought_any w' g base _ er 3 h (by decide) (by decide) (by rw [List.length_append, List.length_append, le_length, le_length]; omega)
  have HQ : Hid (∀ e w', (e = .returned (.tuple #[]) ∧ WI w' g base (xs ++ le f 8 ++ le v 1 ++ List.replicate 3 0) er ∧ WKeep g base w w') → WPost w g base (xs ++ (le f 8 ++ (le v 1 ++ List.replicate 3 0))) er e w') := fun e w' h => by
    rw [show xs ++ (le f 8 ++ (le v 1 ++ List.replicate 3 0)) = xs ++ le f 8 ++ le v 1 ++ List.replicate 3 0 from by simp only [List.append_assoc]]
    exact h
  unfold WPost at C1
  obtain ⟨y3, hy3⟩ : ∃ ys, ys = xs ++ le f 8 ++ le v 1 ++ List.replicate 3 0 := ⟨_, rfl⟩
  rw [← hy3] at C3 HQ
  obtain ⟨y2, hy2⟩ : ∃ ys, ys = xs ++ le f 8 ++ le v 1 := ⟨_, rfl⟩
  rw [← hy2] at C2 C3
  obtain ⟨y1, hy1⟩ : ∃ ys, ys = xs ++ le f 8 := ⟨_, rfl⟩
  rw [← hy1] at C1 C2
  clear hy1 hy2 hy3 hW hf
  go_enter Tryd.func35, Tryd.ntmps35
  go_wp2_with fail
  refine C1.out.mono ?_
  rintro e w1 ⟨rfl, h1, h2⟩
  have D2 := Lib.hid (C2.out w1 h1)
  have K1 := Lib.hid h2
  clear h1 h2 C1 C2
  go_wp2_with fail
  refine D2.out.mono ?_
  rintro e w2 ⟨rfl, h1, h2⟩
  have D3 := Lib.hid (C3.out w2 h1)
  have K2 := Lib.hid (K1.out.trans h2)
  clear h1 h2 D2 C3
  go_wp2_with fail
  refine D3.out.mono ?_
  rintro e w3 ⟨rfl, h1, h2⟩
  have H3 := Lib.hid h1
  have K3 := Lib.hid (K2.out.trans h2)
  clear h1 h2 D3
  go_wp2
  go_end0
  exact HQ.out _ _ ⟨rfl, H3.out, K3.out⟩
def WEndPost (w : World) (base : Nat) (xs : List Int) (er : Int) (e : Ending) (w' : World) : Prop := ∃ v, e = .returned (.tuple #[v, .int .i64 er]) ∧ OwnZ .u8 5 w' base v (if er = 0 then xs else []) ∧ Below w.heap.size w w'
set_option maxHeartbeats 1000000 in
theorem wend_any (w : World) (g base : Nat) (xs : List Int) (er : Int) (hW : WI w g base xs er) :
    Calls Tryd.prog 36 #[.pointer (some ⟨g, 0, none⟩)] w (WEndPost w base xs er) := by
  obtain ⟨_, v, hB, hO⟩ := hW
  have HO := Lib.hid hO
  have HV := Lib.hid (ownZ_one hO)
  have c0 : w.cell? ⟨g, 0, none⟩ = some v := hB.at rfl
  have c1 : w.cell? ⟨g, 1, none⟩ = some (.int .i64 er) := hB.at rfl
  have HBw := Lib.hid hB
  by_cases he : er = 0
  · subst he
    have HQ : Hid (∀ e w', (e = .returned (.tuple #[v, .int .i64 0]) ∧ OwnZ .u8 5 w' base v xs ∧ Below w.heap.size w w') → WEndPost w base xs 0 e w') := fun e w' ⟨h1, h2, h3⟩ => ⟨v, h1, by rw [if_pos rfl]; exact h2, h3⟩
    clear hB hO
    go_enter Tryd.func36, Tryd.ntmps36
    go_wp2
    go_ret2
    exact HQ.out _ _ ⟨rfl, HO.out, Below.refl _ _⟩
  · have HQ : Hid (∀ e w', (e = .returned (.tuple #[.slice none 0 0, .int .i64 er]) ∧ Below w.heap.size w w') → WEndPost w base xs er e w') := fun e w' ⟨h1, h2⟩ => ⟨_, h1, by rw [if_neg he]; exact OwnZ.nil _ _ _ _, h2⟩
    have hne : (er != 0) = true := by simpa using he
    clear hB hO he
    go_enter Tryd.func36, Tryd.ntmps36
    go_wp2
    go_quiet (fail)
    go_wp2
    go_ret2
    exact HQ.out _ _ ⟨rfl, drewed w _⟩
theorem zero_entry : (Tryd.prog.info? 82).map (fun i => (i.zero, i.size)) = some (some (.agg ([.string .empty, .int .u8 0, .int .i64 0] : List Value).toArray), 3) := by kernel_rfl
end Go.Proofs.YtbbjmmooemmeiaaDoor

namespace Go.Proofs.YtbbjmmooemmeiaaDoor
set_option linter.all false
open Go.RowKit
set_option linter.unusedVariables false
set_option maxRecDepth 100000
section
variable {vd vx vl ve : Value} {a : AskV} {s : SayV}
theorem acells_setG (hg : a.guid.length = 16) (hp : a.proof.length = 32) (i : Nat) (u : Value) : (acells vd vx vl a).set (49 + i) u = vd :: (a.guid.map (Value.int .u8) ++ (a.proof.map (Value.int .u8) ++ (atail vx vl a).set i u)) := by
  unfold acells
  rw [show 49 + i = (48 + i) + 1 from by omega, List.set_cons_succ, List.set_append_right _ _ (by rw [List.length_map, hg]; omega), List.length_map, hg, List.set_append_right _ _ (by rw [List.length_map, hp]; omega), List.length_map, hp]
  congr 4
  omega
theorem ac55 (hg : a.guid.length = 16) (hp : a.proof.length = 32) (x : Int) : (acells vd vx vl a).set 55 (.int .u8 x) = acells vd vx vl { a with lev := x } := (acells_setG hg hp 6 _).trans rfl
theorem ac57 (hg : a.guid.length = 16) (hp : a.proof.length = 32) (x : Int) : (acells vd vx vl a).set 57 (.int .u64 x) = acells vd vx vl { a with file := x } := (acells_setG hg hp 8 _).trans rfl
theorem ac58 (hg : a.guid.length = 16) (hp : a.proof.length = 32) (x : ByteArray) : (acells vd vx vl a).set 58 (.string x) = acells vd vx vl { a with name := x } := (acells_setG hg hp 9 _).trans rfl
end
theorem zb {M : Int} (h : 0 ≤ M) : (0 : Int) ≤ 0 ∧ (0 : Int) ≤ M := ⟨Int.le_refl 0, h⟩
theorem echo_err (b : AskV) : (askErrP 13 b == 0) = decide (b = zeroAsk) := by
  have e : besideAsk 13 b = b := by unfold besideAsk; rw [if_neg (by decide), if_neg (by decide), if_neg (by decide)]
  unfold askErrP
  rw [e]
  by_cases h : b = zeroAsk
  · rw [if_pos ⟨rfl, h⟩, decide_eq_true h]
    rfl
  · rw [if_neg (fun h2 => h h2.2), decide_eq_false h]
    rfl
end Go.Proofs.YtbbjmmooemmeiaaDoor

namespace Go.Proofs.YtbbjmmooemmeiaaDoor
set_option linter.all false
open Go.RowKit
set_option linter.unusedVariables false
set_option linter.unusedSimpArgs false
set_option maxRecDepth 100000
section
variable {vd vx vl ve : Value} {a : AskV} {s : SayV}
theorem ac63 (hg : a.guid.length = 16) (hp : a.proof.length = 32) (x : Int) : (acells vd vx vl a).set 63 (.int .u16 x) = acells vd vx vl { a with most := x } := (acells_setG hg hp 14 _).trans rfl
theorem ac64 (hg : a.guid.length = 16) (hp : a.proof.length = 32) (x : ByteArray) : (acells vd vx vl a).set 64 (.string x) = acells vd vx vl { a with pat := x } := (acells_setG hg hp 15 _).trans rfl
theorem ac65 (hg : a.guid.length = 16) (hp : a.proof.length = 32) (x : ByteArray) : (acells vd vx vl a).set 65 (.string x) = acells vd vx vl { a with aft := x } := (acells_setG hg hp 16 _).trans rfl
theorem ac66 (hg : a.guid.length = 16) (hp : a.proof.length = 32) (x : Int) : (acells vd vx vl a).set 66 (.int .u16 x) = acells vd vx vl { a with cls := x } := (acells_setG hg hp 17 _).trans rfl
theorem ac67 (hg : a.guid.length = 16) (hp : a.proof.length = 32) (x : Int) : (acells vd vx vl a).set 67 (.int .u64 x) = acells vd vx vl { a with siz := x } := (acells_setG hg hp 18 _).trans rfl
theorem ac68 (hg : a.guid.length = 16) (hp : a.proof.length = 32) (x : Bool) : (acells vd vx vl a).set 68 (.bool x) = acells vd vx vl { a with on := x } := (acells_setG hg hp 19 _).trans rfl
end
end Go.Proofs.YtbbjmmooemmeiaaDoor

namespace Go.Proofs.YtbbjmmooemmeiaaDoor
set_option linter.all false
open Go.RowKit
set_option linter.unusedVariables false
set_option linter.unusedSimpArgs false
set_option maxRecDepth 100000
set_option maxHeartbeats 1000000 in
theorem iNamedAsk_any (w : World) (c : Int) (cs : List Value) (a : AskV) (hc : 0 ≤ c ∧ c ≤ 65535) (ka : a.ok) (ha : AskIs w w.heap.size cs a) (hu : a.user.size ≤ 17592186044416 ∧ a.share.size ≤ 17592186044416) (hT : Tabs w) :
    Calls Tryd.prog 29 #[.int .u16 c, .agg cs.toArray] w fun e w' => e = .returned (.bool (nameI c a)) ∧ Below w.heap.size w w' := by
  have HL := Lib.hid (ha.len ka)
  have HT := Lib.hid hT
  have hgl := ka.glen
  have hpl := ka.plen
  obtain ⟨hu0, hu1⟩ := hu
  have CP : Hid (∀ (w' : World) (ds : List Value) (b : AskV), b.ok → b.user = a.user → b.share = a.share → AskIs w' w'.heap.size ds b → Below w.heap.size w w' → Calls Tryd.prog 64 #[.int .u16 13, .agg ds.toArray] w' fun e w2 => (∃ v er, e = .returned (.tuple #[v, .int .i64 er]) ∧ (er == 0) = decide (b = zeroAsk)) ∧ Below w'.heap.size w' w2) := fun w' ds b kb h1 h2 hb hL => by
    have h := PutAsk_any w' 13 ds b (by decide) kb hb ⟨by rw [h1]; exact hu0, by rw [h2]; exact hu1⟩ (HT.out.below hL)
    exact h.mono fun e w2 ⟨v, h1, _, h3⟩ => ⟨⟨v, _, h1, echo_err b⟩, h3⟩
  by_cases hk : knownI c = true
  rotate_left
  · have hn0 : nameI c a = false := by unfold nameI; rw [show knownI c = false from by simpa using hk]; rfl
    have hk' : c ≠ 12 ∧ c ≠ 14 ∧ c ≠ 16 ∧ c ≠ 17 ∧ c ≠ 18 := by
      refine ⟨?_, ?_, ?_, ?_, ?_⟩ <;> (rintro rfl; exact hk (by decide))
    obtain ⟨h12, h14, h16, h17, h18⟩ := hk'
    have b12 : (c == 12) = false := by simpa using h12
    have b14 : (c == 14) = false := by simpa using h14
    have b16 : (c == 16) = false := by simpa using h16
    have b17 : (c == 17) = false := by simpa using h17
    have b18 : (c == 18) = false := by simpa using h18
    rw [hn0]
    clear hk hn0 h12 h14 h16 h17 h18 ha ka CP
    go_enter Tryd.func29, Tryd.ntmps29
    go_wp2_with (first
      | ((with_reducible show wpList _ _ _ (⟨some 3, _, _, _, _, _⟩ :: _) _ _); refine wpList_box_blk rfl _ (.tmp 1) rfl cs rfl ?_; intro g w1 hg1 hg2 K1 L1)
      | fail)
    go_ret
    exact ⟨rfl, L1.out⟩
  have hcs := knownI_cases hk
  obtain ⟨A1, A2, A3, X1, X2, X3, M1, M2, M3, rfl, hA, hX, hM⟩ := ha
  have FL : Hid (∀ (w : World) (g : Nat), Blk w g 32 (acells (.slice A1 A2 A3) (.slice X1 X2 X3) (.slice M1 M2 M3) a) → w.cell? ⟨g, 66, none⟩ = some (.int .u16 a.cls)) := fun w g h => h.at (acells_get ka 17)
  obtain ⟨C0, hC0⟩ : ∃ x, x = acells (.slice A1 A2 A3) (.slice X1 X2 X3) (.slice M1 M2 M3) a := ⟨_, rfl⟩
  have HC0 := Lib.hid hC0
  rw [← hC0] at HL FL ⊢
  clear hC0
  rcases hcs with h12 | h14 | h16 | h17 | h18
  · subst h12
    have hbe : besideI 12 a = a := by unfold besideI; rw [if_neg (by decide), if_neg (by decide), if_neg (by decide), if_neg (by decide)]
    have hnf : nameI 12 a = decide (besideI 12 a = zeroAsk) := by unfold nameI; rw [hk]; simp
    rw [hnf, hbe]
    have kb : (a : AskV).ok := ⟨ka.dial, ka.glen, ka.gbyte, ka.plen, ka.pbyte, ka.acc, ka.shr, ka.way, ka.opt, ka.lev, ka.dur, ka.file, ka.at_, ka.n, ka.data, ka.locks, ka.most, ka.cls, ka.siz⟩
    have HI : Hid (∀ w' : World, Below w.heap.size w w' → AskIs w' w'.heap.size (acells (.slice A1 A2 A3) (.slice X1 X2 X3) (.slice M1 M2 M3) (a)) (a)) := fun w' hb => ⟨A1, A2, A3, X1, X2, X3, M1, M2, M3, rfl, hA.over hb, hX.over hb, hM.over hb⟩
    have hbu1 : (a : AskV).user = a.user := rfl
    have hbu2 : (a : AskV).share = a.share := rfl
    have HEQ : Hid (C0 = acells (.slice A1 A2 A3) (.slice X1 X2 X3) (.slice M1 M2 M3) (a)) := by
      show _ = _
      exact HC0.out
    obtain ⟨D, hD⟩ : ∃ x, x = acells (.slice A1 A2 A3) (.slice X1 X2 X3) (.slice M1 M2 M3) a := ⟨_, rfl⟩
    rw [← hD] at HI HEQ
    clear hD hk ka hbe hnf hbu1 hbu2
    go_enter Tryd.func29, Tryd.ntmps29
    go_wp2_with (first
      | ((with_reducible show wpList _ _ _ (⟨some 3, _, _, _, _, _⟩ :: _) _ _); refine wpList_box_blk rfl _ (.tmp 1) rfl C0 rfl ?_; intro g w1 hg1 hg2 K1 L1)
      | ((with_reducible show wpList _ _ _ (⟨some 40, _, _, _, _, _⟩ :: _) _ _); refine wpList_load_blk rfl _ (.tmp 3) rfl g rfl _ C0 K1 69 _ Tryd.underlying32 rfl size_ask HL ?_)
      | fail)
    have HF : Hid (C0 = D) := by
      show _ = _
      exact HEQ.out
    rw [HF.out]
    refine (CP.out _ D a kb rfl rfl (HI.out _ L1.out) L1.out).mono ?_
    rintro e v1 ⟨⟨v, er, rfl, her⟩, LQ⟩
    have HER := Lib.hid her
    have L99 := Lib.hid (step L1.out LQ)
    clear her LQ
    go_wp2
    go_ret
    exact ⟨ret_bool HER.out, L99.out⟩
  · subst h14
    have hbe : besideI 14 a = { a with file := 0, most := 0, pat := .empty, aft := .empty } := by unfold besideI; rw [if_pos rfl]
    have hnf : nameI 14 a = decide (besideI 14 a = zeroAsk) := by unfold nameI; rw [hk]; simp
    rw [hnf, hbe]
    have kb : ({ a with file := 0, most := 0, pat := .empty, aft := .empty } : AskV).ok := ⟨ka.dial, ka.glen, ka.gbyte, ka.plen, ka.pbyte, ka.acc, ka.shr, ka.way, ka.opt, ka.lev, ka.dur, zb (by decide), ka.at_, ka.n, ka.data, ka.locks, zb (by decide), ka.cls, ka.siz⟩
    have HI : Hid (∀ w' : World, Below w.heap.size w w' → AskIs w' w'.heap.size (acells (.slice A1 A2 A3) (.slice X1 X2 X3) (.slice M1 M2 M3) ({ a with file := 0, most := 0, pat := .empty, aft := .empty })) ({ a with file := 0, most := 0, pat := .empty, aft := .empty })) := fun w' hb => ⟨A1, A2, A3, X1, X2, X3, M1, M2, M3, rfl, hA.over hb, hX.over hb, hM.over hb⟩
    have hbu1 : ({ a with file := 0, most := 0, pat := .empty, aft := .empty } : AskV).user = a.user := rfl
    have hbu2 : ({ a with file := 0, most := 0, pat := .empty, aft := .empty } : AskV).share = a.share := rfl
    have HEQ : Hid (((((C0).set 57 (.int .u64 0)).set 63 (.int .u16 0)).set 64 (.string .empty)).set 65 (.string .empty) = acells (.slice A1 A2 A3) (.slice X1 X2 X3) (.slice M1 M2 M3) ({ a with file := 0, most := 0, pat := .empty, aft := .empty })) := by
      show _ = _
      rw [HC0.out]
      simp only [ac57, ac63, ac64, ac65, hgl, hpl]
      try rfl
    obtain ⟨b, hb⟩ : ∃ x : AskV, x = { a with file := 0, most := 0, pat := .empty, aft := .empty } := ⟨_, rfl⟩
    rw [← hb] at HI HEQ kb hbu1 hbu2 ⊢
    obtain ⟨D, hD⟩ : ∃ x, x = acells (.slice A1 A2 A3) (.slice X1 X2 X3) (.slice M1 M2 M3) b := ⟨_, rfl⟩
    rw [← hD] at HI HEQ
    clear hb hD hk ka hbe hnf
    go_enter Tryd.func29, Tryd.ntmps29
    go_wp2_with (first
      | ((with_reducible show wpList _ _ _ (⟨some 3, _, _, _, _, _⟩ :: _) _ _); refine wpList_box_blk rfl _ (.tmp 1) rfl C0 rfl ?_; intro g w1 hg1 hg2 K1 L1)
      | ((with_reducible show wpList _ _ _ (⟨none, .store _ (.tmp 10) _, _, _, _, _⟩ :: _) _ _); refine wpList_store_fld rfl _ (.tmp 10) (.const (.int .u64 0)) rfl g 57 rfl _ C0 (.int .u64 0) rfl K1 (Lib.hid (by have := HL.out; omega)) (by kernel_rfl) rfl ?_; intro w2 K2 O2 hq2; obtain ⟨C1, hC1⟩ : ∃ x, x = C0.set 57 (.int .u64 0) := ⟨_, rfl⟩; have HC1 := Lib.hid hC1; have HL1 : Hid (C1.length = 69) := (by rw [hC1, List.length_set]; exact HL.out); rw [← hC1] at K2; have L2 := Lib.hid (below_only L1.out O2.out hg1); clear hC1)
      | ((with_reducible show wpList _ _ _ (⟨none, .store _ (.tmp 11) _, _, _, _, _⟩ :: _) _ _); refine wpList_store_fld rfl _ (.tmp 11) (.const (.int .u16 0)) rfl g 63 rfl _ C1 (.int .u16 0) rfl K2 (Lib.hid (by have := HL1.out; omega)) (by kernel_rfl) rfl ?_; intro w3 K3 O3 hq3; obtain ⟨C2, hC2⟩ : ∃ x, x = C1.set 63 (.int .u16 0) := ⟨_, rfl⟩; have HC2 := Lib.hid hC2; have HL2 : Hid (C2.length = 69) := (by rw [hC2, List.length_set]; exact HL1.out); rw [← hC2] at K3; have L3 := Lib.hid (below_only L2.out O3.out hg1); clear hC2)
      | ((with_reducible show wpList _ _ _ (⟨none, .store _ (.tmp 12) _, _, _, _, _⟩ :: _) _ _); refine wpList_store_fld rfl _ (.tmp 12) (.const (.string .empty)) rfl g 64 rfl _ C2 (.string .empty) rfl K3 (Lib.hid (by have := HL2.out; omega)) (by kernel_rfl) rfl ?_; intro w4 K4 O4 hq4; obtain ⟨C3, hC3⟩ : ∃ x, x = C2.set 64 (.string .empty) := ⟨_, rfl⟩; have HC3 := Lib.hid hC3; have HL3 : Hid (C3.length = 69) := (by rw [hC3, List.length_set]; exact HL2.out); rw [← hC3] at K4; have L4 := Lib.hid (below_only L3.out O4.out hg1); clear hC3)
      | ((with_reducible show wpList _ _ _ (⟨none, .store _ (.tmp 13) _, _, _, _, _⟩ :: _) _ _); refine wpList_store_fld rfl _ (.tmp 13) (.const (.string .empty)) rfl g 65 rfl _ C3 (.string .empty) rfl K4 (Lib.hid (by have := HL3.out; omega)) (by kernel_rfl) rfl ?_; intro w5 K5 O5 hq5; obtain ⟨C4, hC4⟩ : ∃ x, x = C3.set 65 (.string .empty) := ⟨_, rfl⟩; have HC4 := Lib.hid hC4; have HL4 : Hid (C4.length = 69) := (by rw [hC4, List.length_set]; exact HL3.out); rw [← hC4] at K5; have L5 := Lib.hid (below_only L4.out O5.out hg1); clear hC4)
      | ((with_reducible show wpList _ _ _ (⟨some 40, _, _, _, _, _⟩ :: _) _ _); refine wpList_load_blk rfl _ (.tmp 3) rfl g rfl _ C4 K5 69 _ Tryd.underlying32 rfl size_ask HL4 ?_)
      | fail)
    have HF : Hid (C4 = D) := by
      show _ = _
      rw [HC4.out, HC3.out, HC2.out, HC1.out]
      exact HEQ.out
    rw [HF.out]
    refine (CP.out _ D b kb hbu1 hbu2 (HI.out _ L5.out) L5.out).mono ?_
    rintro e v1 ⟨⟨v, er, rfl, her⟩, LQ⟩
    have HER := Lib.hid her
    have L99 := Lib.hid (step L5.out LQ)
    clear her LQ
    go_wp2
    go_ret
    exact ⟨ret_bool HER.out, L99.out⟩
  · subst h16
    have hbe : besideI 16 a = { a with file := 0 } := by unfold besideI; rw [if_neg (by decide), if_pos rfl]
    have hnf : nameI 16 a = decide (besideI 16 a = zeroAsk) := by unfold nameI; rw [hk]; simp
    rw [hnf, hbe]
    have kb : ({ a with file := 0 } : AskV).ok := ⟨ka.dial, ka.glen, ka.gbyte, ka.plen, ka.pbyte, ka.acc, ka.shr, ka.way, ka.opt, ka.lev, ka.dur, zb (by decide), ka.at_, ka.n, ka.data, ka.locks, ka.most, ka.cls, ka.siz⟩
    have HI : Hid (∀ w' : World, Below w.heap.size w w' → AskIs w' w'.heap.size (acells (.slice A1 A2 A3) (.slice X1 X2 X3) (.slice M1 M2 M3) ({ a with file := 0 })) ({ a with file := 0 })) := fun w' hb => ⟨A1, A2, A3, X1, X2, X3, M1, M2, M3, rfl, hA.over hb, hX.over hb, hM.over hb⟩
    have hbu1 : ({ a with file := 0 } : AskV).user = a.user := rfl
    have hbu2 : ({ a with file := 0 } : AskV).share = a.share := rfl
    have HEQ : Hid ((C0).set 57 (.int .u64 0) = acells (.slice A1 A2 A3) (.slice X1 X2 X3) (.slice M1 M2 M3) ({ a with file := 0 })) := by
      show _ = _
      rw [HC0.out]
      simp only [ac57, hgl, hpl]
      try rfl
    obtain ⟨b, hb⟩ : ∃ x : AskV, x = { a with file := 0 } := ⟨_, rfl⟩
    rw [← hb] at HI HEQ kb hbu1 hbu2 ⊢
    obtain ⟨D, hD⟩ : ∃ x, x = acells (.slice A1 A2 A3) (.slice X1 X2 X3) (.slice M1 M2 M3) b := ⟨_, rfl⟩
    rw [← hD] at HI HEQ
    clear hb hD hk ka hbe hnf
    go_enter Tryd.func29, Tryd.ntmps29
    go_wp2_with (first
      | ((with_reducible show wpList _ _ _ (⟨some 3, _, _, _, _, _⟩ :: _) _ _); refine wpList_box_blk rfl _ (.tmp 1) rfl C0 rfl ?_; intro g w1 hg1 hg2 K1 L1)
      | ((with_reducible show wpList _ _ _ (⟨none, .store _ (.tmp 16) _, _, _, _, _⟩ :: _) _ _); refine wpList_store_fld rfl _ (.tmp 16) (.const (.int .u64 0)) rfl g 57 rfl _ C0 (.int .u64 0) rfl K1 (Lib.hid (by have := HL.out; omega)) (by kernel_rfl) rfl ?_; intro w2 K2 O2 hq2; obtain ⟨C1, hC1⟩ : ∃ x, x = C0.set 57 (.int .u64 0) := ⟨_, rfl⟩; have HC1 := Lib.hid hC1; have HL1 : Hid (C1.length = 69) := (by rw [hC1, List.length_set]; exact HL.out); rw [← hC1] at K2; have L2 := Lib.hid (below_only L1.out O2.out hg1); clear hC1)
      | ((with_reducible show wpList _ _ _ (⟨some 40, _, _, _, _, _⟩ :: _) _ _); refine wpList_load_blk rfl _ (.tmp 3) rfl g rfl _ C1 K2 69 _ Tryd.underlying32 rfl size_ask HL1 ?_)
      | fail)
    have HF : Hid (C1 = D) := by
      show _ = _
      rw [HC1.out]
      exact HEQ.out
    rw [HF.out]
    refine (CP.out _ D b kb hbu1 hbu2 (HI.out _ L2.out) L2.out).mono ?_
    rintro e v1 ⟨⟨v, er, rfl, her⟩, LQ⟩
    have HER := Lib.hid her
    have L99 := Lib.hid (step L2.out LQ)
    clear her LQ
    go_wp2
    go_ret
    exact ⟨ret_bool HER.out, L99.out⟩
  · subst h17
    by_cases q1 : a.cls = 1
    · rw [q1] at FL
      have hbe : besideI 17 a = { a with siz := 0, file := 0, cls := 0 } := by unfold besideI; rw [if_neg (by decide), if_neg (by decide), if_pos rfl, if_pos q1]
      have hnf : nameI 17 a = decide (besideI 17 a = zeroAsk) := by unfold nameI classI; rw [hk, q1]; simp
      rw [hnf, hbe]
      have kb : ({ a with siz := 0, file := 0, cls := 0 } : AskV).ok := ⟨ka.dial, ka.glen, ka.gbyte, ka.plen, ka.pbyte, ka.acc, ka.shr, ka.way, ka.opt, ka.lev, ka.dur, zb (by decide), ka.at_, ka.n, ka.data, ka.locks, ka.most, zb (by decide), zb (by decide)⟩
      have HI : Hid (∀ w' : World, Below w.heap.size w w' → AskIs w' w'.heap.size (acells (.slice A1 A2 A3) (.slice X1 X2 X3) (.slice M1 M2 M3) ({ a with siz := 0, file := 0, cls := 0 })) ({ a with siz := 0, file := 0, cls := 0 })) := fun w' hb => ⟨A1, A2, A3, X1, X2, X3, M1, M2, M3, rfl, hA.over hb, hX.over hb, hM.over hb⟩
      have hbu1 : ({ a with siz := 0, file := 0, cls := 0 } : AskV).user = a.user := rfl
      have hbu2 : ({ a with siz := 0, file := 0, cls := 0 } : AskV).share = a.share := rfl
      have HEQ : Hid ((((C0).set 67 (.int .u64 0)).set 57 (.int .u64 0)).set 66 (.int .u16 0) = acells (.slice A1 A2 A3) (.slice X1 X2 X3) (.slice M1 M2 M3) ({ a with siz := 0, file := 0, cls := 0 })) := by
        show _ = _
        rw [HC0.out]
        simp only [ac67, ac57, ac66, hgl, hpl]
        try rfl
      obtain ⟨b, hb⟩ : ∃ x : AskV, x = { a with siz := 0, file := 0, cls := 0 } := ⟨_, rfl⟩
      rw [← hb] at HI HEQ kb hbu1 hbu2 ⊢
      obtain ⟨D, hD⟩ : ∃ x, x = acells (.slice A1 A2 A3) (.slice X1 X2 X3) (.slice M1 M2 M3) b := ⟨_, rfl⟩
      rw [← hD] at HI HEQ
      clear hb hD hk ka hbe hnf
      go_enter Tryd.func29, Tryd.ntmps29
      go_wp2_with (first
        | ((with_reducible show wpList _ _ _ (⟨some 3, _, _, _, _, _⟩ :: _) _ _); refine wpList_box_blk rfl _ (.tmp 1) rfl C0 rfl ?_; intro g w1 hg1 hg2 K1 L1; have cl := FL.out w1 g K1.out)
        | ((with_reducible show wpList _ _ _ (⟨none, .store _ (.tmp 23) _, _, _, _, _⟩ :: _) _ _); refine wpList_store_fld rfl _ (.tmp 23) (.const (.int .u64 0)) rfl g 67 rfl _ C0 (.int .u64 0) rfl K1 (Lib.hid (by have := HL.out; omega)) (by kernel_rfl) rfl ?_; intro w2 K2 O2 hq2; obtain ⟨C1, hC1⟩ : ∃ x, x = C0.set 67 (.int .u64 0) := ⟨_, rfl⟩; have HC1 := Lib.hid hC1; have HL1 : Hid (C1.length = 69) := (by rw [hC1, List.length_set]; exact HL.out); rw [← hC1] at K2; have L2 := Lib.hid (below_only L1.out O2.out hg1); clear hC1)
        | ((with_reducible show wpList _ _ _ (⟨none, .store _ (.tmp 31) _, _, _, _, _⟩ :: _) _ _); refine wpList_store_fld rfl _ (.tmp 31) (.const (.int .u64 0)) rfl g 57 rfl _ C1 (.int .u64 0) rfl K2 (Lib.hid (by have := HL1.out; omega)) (by kernel_rfl) rfl ?_; intro w3 K3 O3 hq3; obtain ⟨C2, hC2⟩ : ∃ x, x = C1.set 57 (.int .u64 0) := ⟨_, rfl⟩; have HC2 := Lib.hid hC2; have HL2 : Hid (C2.length = 69) := (by rw [hC2, List.length_set]; exact HL1.out); rw [← hC2] at K3; have L3 := Lib.hid (below_only L2.out O3.out hg1); clear hC2)
        | ((with_reducible show wpList _ _ _ (⟨none, .store _ (.tmp 32) _, _, _, _, _⟩ :: _) _ _); refine wpList_store_fld rfl _ (.tmp 32) (.const (.int .u16 0)) rfl g 66 rfl _ C2 (.int .u16 0) rfl K3 (Lib.hid (by have := HL2.out; omega)) (by kernel_rfl) rfl ?_; intro w4 K4 O4 hq4; obtain ⟨C3, hC3⟩ : ∃ x, x = C2.set 66 (.int .u16 0) := ⟨_, rfl⟩; have HC3 := Lib.hid hC3; have HL3 : Hid (C3.length = 69) := (by rw [hC3, List.length_set]; exact HL2.out); rw [← hC3] at K4; have L4 := Lib.hid (below_only L3.out O4.out hg1); clear hC3)
        | ((with_reducible show wpList _ _ _ (⟨some 40, _, _, _, _, _⟩ :: _) _ _); refine wpList_load_blk rfl _ (.tmp 3) rfl g rfl _ C3 K4 69 _ Tryd.underlying32 rfl size_ask HL3 ?_)
        | fail)
      have HF : Hid (C3 = D) := by
        show _ = _
        rw [HC3.out, HC2.out, HC1.out]
        exact HEQ.out
      rw [HF.out]
      refine (CP.out _ D b kb hbu1 hbu2 (HI.out _ L4.out) L4.out).mono ?_
      rintro e v1 ⟨⟨v, er, rfl, her⟩, LQ⟩
      have HER := Lib.hid her
      have L99 := Lib.hid (step L4.out LQ)
      clear her LQ
      go_wp2
      go_ret
      exact ⟨ret_bool HER.out, L99.out⟩
    · by_cases q2 : a.cls = 2
      · rw [q2] at FL
        have hbe : besideI 17 a = { a with on := false, file := 0, cls := 0 } := by unfold besideI; rw [if_neg (by decide), if_neg (by decide), if_pos rfl, if_neg q1, if_pos q2]
        have hnf : nameI 17 a = decide (besideI 17 a = zeroAsk) := by unfold nameI classI; rw [hk, q2]; simp
        rw [hnf, hbe]
        have kb : ({ a with on := false, file := 0, cls := 0 } : AskV).ok := ⟨ka.dial, ka.glen, ka.gbyte, ka.plen, ka.pbyte, ka.acc, ka.shr, ka.way, ka.opt, ka.lev, ka.dur, zb (by decide), ka.at_, ka.n, ka.data, ka.locks, ka.most, zb (by decide), ka.siz⟩
        have HI : Hid (∀ w' : World, Below w.heap.size w w' → AskIs w' w'.heap.size (acells (.slice A1 A2 A3) (.slice X1 X2 X3) (.slice M1 M2 M3) ({ a with on := false, file := 0, cls := 0 })) ({ a with on := false, file := 0, cls := 0 })) := fun w' hb => ⟨A1, A2, A3, X1, X2, X3, M1, M2, M3, rfl, hA.over hb, hX.over hb, hM.over hb⟩
        have hbu1 : ({ a with on := false, file := 0, cls := 0 } : AskV).user = a.user := rfl
        have hbu2 : ({ a with on := false, file := 0, cls := 0 } : AskV).share = a.share := rfl
        have HEQ : Hid ((((C0).set 68 (.bool false)).set 57 (.int .u64 0)).set 66 (.int .u16 0) = acells (.slice A1 A2 A3) (.slice X1 X2 X3) (.slice M1 M2 M3) ({ a with on := false, file := 0, cls := 0 })) := by
          show _ = _
          rw [HC0.out]
          simp only [ac68, ac57, ac66, hgl, hpl]
          try rfl
        obtain ⟨b, hb⟩ : ∃ x : AskV, x = { a with on := false, file := 0, cls := 0 } := ⟨_, rfl⟩
        rw [← hb] at HI HEQ kb hbu1 hbu2 ⊢
        obtain ⟨D, hD⟩ : ∃ x, x = acells (.slice A1 A2 A3) (.slice X1 X2 X3) (.slice M1 M2 M3) b := ⟨_, rfl⟩
        rw [← hD] at HI HEQ
        clear hb hD hk ka hbe hnf
        go_enter Tryd.func29, Tryd.ntmps29
        go_wp2_with (first
          | ((with_reducible show wpList _ _ _ (⟨some 3, _, _, _, _, _⟩ :: _) _ _); refine wpList_box_blk rfl _ (.tmp 1) rfl C0 rfl ?_; intro g w1 hg1 hg2 K1 L1; have cl := FL.out w1 g K1.out)
          | ((with_reducible show wpList _ _ _ (⟨none, .store _ (.tmp 26) _, _, _, _, _⟩ :: _) _ _); refine wpList_store_fld rfl _ (.tmp 26) (.const (.bool false)) rfl g 68 rfl _ C0 (.bool false) rfl K1 (Lib.hid (by have := HL.out; omega)) (by kernel_rfl) rfl ?_; intro w2 K2 O2 hq2; obtain ⟨C1, hC1⟩ : ∃ x, x = C0.set 68 (.bool false) := ⟨_, rfl⟩; have HC1 := Lib.hid hC1; have HL1 : Hid (C1.length = 69) := (by rw [hC1, List.length_set]; exact HL.out); rw [← hC1] at K2; have L2 := Lib.hid (below_only L1.out O2.out hg1); clear hC1)
          | ((with_reducible show wpList _ _ _ (⟨none, .store _ (.tmp 31) _, _, _, _, _⟩ :: _) _ _); refine wpList_store_fld rfl _ (.tmp 31) (.const (.int .u64 0)) rfl g 57 rfl _ C1 (.int .u64 0) rfl K2 (Lib.hid (by have := HL1.out; omega)) (by kernel_rfl) rfl ?_; intro w3 K3 O3 hq3; obtain ⟨C2, hC2⟩ : ∃ x, x = C1.set 57 (.int .u64 0) := ⟨_, rfl⟩; have HC2 := Lib.hid hC2; have HL2 : Hid (C2.length = 69) := (by rw [hC2, List.length_set]; exact HL1.out); rw [← hC2] at K3; have L3 := Lib.hid (below_only L2.out O3.out hg1); clear hC2)
          | ((with_reducible show wpList _ _ _ (⟨none, .store _ (.tmp 32) _, _, _, _, _⟩ :: _) _ _); refine wpList_store_fld rfl _ (.tmp 32) (.const (.int .u16 0)) rfl g 66 rfl _ C2 (.int .u16 0) rfl K3 (Lib.hid (by have := HL2.out; omega)) (by kernel_rfl) rfl ?_; intro w4 K4 O4 hq4; obtain ⟨C3, hC3⟩ : ∃ x, x = C2.set 66 (.int .u16 0) := ⟨_, rfl⟩; have HC3 := Lib.hid hC3; have HL3 : Hid (C3.length = 69) := (by rw [hC3, List.length_set]; exact HL2.out); rw [← hC3] at K4; have L4 := Lib.hid (below_only L3.out O4.out hg1); clear hC3)
          | ((with_reducible show wpList _ _ _ (⟨some 40, _, _, _, _, _⟩ :: _) _ _); refine wpList_load_blk rfl _ (.tmp 3) rfl g rfl _ C3 K4 69 _ Tryd.underlying32 rfl size_ask HL3 ?_)
          | fail)
        have HF : Hid (C3 = D) := by
          show _ = _
          rw [HC3.out, HC2.out, HC1.out]
          exact HEQ.out
        rw [HF.out]
        refine (CP.out _ D b kb hbu1 hbu2 (HI.out _ L4.out) L4.out).mono ?_
        rintro e v1 ⟨⟨v, er, rfl, her⟩, LQ⟩
        have HER := Lib.hid her
        have L99 := Lib.hid (step L4.out LQ)
        clear her LQ
        go_wp2
        go_ret
        exact ⟨ret_bool HER.out, L99.out⟩
      · by_cases q3 : a.cls = 3
        · rw [q3] at FL
          have hbe : besideI 17 a = { a with on := false, name := .empty, file := 0, cls := 0 } := by unfold besideI; rw [if_neg (by decide), if_neg (by decide), if_pos rfl, if_neg q1, if_neg q2]
          have hnf : nameI 17 a = decide (besideI 17 a = zeroAsk) := by unfold nameI classI; rw [hk, q3]; simp
          rw [hnf, hbe]
          have kb : ({ a with on := false, name := .empty, file := 0, cls := 0 } : AskV).ok := ⟨ka.dial, ka.glen, ka.gbyte, ka.plen, ka.pbyte, ka.acc, ka.shr, ka.way, ka.opt, ka.lev, ka.dur, zb (by decide), ka.at_, ka.n, ka.data, ka.locks, ka.most, zb (by decide), ka.siz⟩
          have HI : Hid (∀ w' : World, Below w.heap.size w w' → AskIs w' w'.heap.size (acells (.slice A1 A2 A3) (.slice X1 X2 X3) (.slice M1 M2 M3) ({ a with on := false, name := .empty, file := 0, cls := 0 })) ({ a with on := false, name := .empty, file := 0, cls := 0 })) := fun w' hb => ⟨A1, A2, A3, X1, X2, X3, M1, M2, M3, rfl, hA.over hb, hX.over hb, hM.over hb⟩
          have hbu1 : ({ a with on := false, name := .empty, file := 0, cls := 0 } : AskV).user = a.user := rfl
          have hbu2 : ({ a with on := false, name := .empty, file := 0, cls := 0 } : AskV).share = a.share := rfl
          have HEQ : Hid (((((C0).set 68 (.bool false)).set 58 (.string .empty)).set 57 (.int .u64 0)).set 66 (.int .u16 0) = acells (.slice A1 A2 A3) (.slice X1 X2 X3) (.slice M1 M2 M3) ({ a with on := false, name := .empty, file := 0, cls := 0 })) := by
            show _ = _
            rw [HC0.out]
            simp only [ac68, ac58, ac57, ac66, hgl, hpl]
            try rfl
          obtain ⟨b, hb⟩ : ∃ x : AskV, x = { a with on := false, name := .empty, file := 0, cls := 0 } := ⟨_, rfl⟩
          rw [← hb] at HI HEQ kb hbu1 hbu2 ⊢
          obtain ⟨D, hD⟩ : ∃ x, x = acells (.slice A1 A2 A3) (.slice X1 X2 X3) (.slice M1 M2 M3) b := ⟨_, rfl⟩
          rw [← hD] at HI HEQ
          clear hb hD hk ka hbe hnf
          go_enter Tryd.func29, Tryd.ntmps29
          go_wp2_with (first
            | ((with_reducible show wpList _ _ _ (⟨some 3, _, _, _, _, _⟩ :: _) _ _); refine wpList_box_blk rfl _ (.tmp 1) rfl C0 rfl ?_; intro g w1 hg1 hg2 K1 L1; have cl := FL.out w1 g K1.out)
            | ((with_reducible show wpList _ _ _ (⟨none, .store _ (.tmp 29) _, _, _, _, _⟩ :: _) _ _); refine wpList_store_fld rfl _ (.tmp 29) (.const (.bool false)) rfl g 68 rfl _ C0 (.bool false) rfl K1 (Lib.hid (by have := HL.out; omega)) (by kernel_rfl) rfl ?_; intro w2 K2 O2 hq2; obtain ⟨C1, hC1⟩ : ∃ x, x = C0.set 68 (.bool false) := ⟨_, rfl⟩; have HC1 := Lib.hid hC1; have HL1 : Hid (C1.length = 69) := (by rw [hC1, List.length_set]; exact HL.out); rw [← hC1] at K2; have L2 := Lib.hid (below_only L1.out O2.out hg1); clear hC1)
            | ((with_reducible show wpList _ _ _ (⟨none, .store _ (.tmp 30) _, _, _, _, _⟩ :: _) _ _); refine wpList_store_fld rfl _ (.tmp 30) (.const (.string .empty)) rfl g 58 rfl _ C1 (.string .empty) rfl K2 (Lib.hid (by have := HL1.out; omega)) (by kernel_rfl) rfl ?_; intro w3 K3 O3 hq3; obtain ⟨C2, hC2⟩ : ∃ x, x = C1.set 58 (.string .empty) := ⟨_, rfl⟩; have HC2 := Lib.hid hC2; have HL2 : Hid (C2.length = 69) := (by rw [hC2, List.length_set]; exact HL1.out); rw [← hC2] at K3; have L3 := Lib.hid (below_only L2.out O3.out hg1); clear hC2)
            | ((with_reducible show wpList _ _ _ (⟨none, .store _ (.tmp 31) _, _, _, _, _⟩ :: _) _ _); refine wpList_store_fld rfl _ (.tmp 31) (.const (.int .u64 0)) rfl g 57 rfl _ C2 (.int .u64 0) rfl K3 (Lib.hid (by have := HL2.out; omega)) (by kernel_rfl) rfl ?_; intro w4 K4 O4 hq4; obtain ⟨C3, hC3⟩ : ∃ x, x = C2.set 57 (.int .u64 0) := ⟨_, rfl⟩; have HC3 := Lib.hid hC3; have HL3 : Hid (C3.length = 69) := (by rw [hC3, List.length_set]; exact HL2.out); rw [← hC3] at K4; have L4 := Lib.hid (below_only L3.out O4.out hg1); clear hC3)
            | ((with_reducible show wpList _ _ _ (⟨none, .store _ (.tmp 32) _, _, _, _, _⟩ :: _) _ _); refine wpList_store_fld rfl _ (.tmp 32) (.const (.int .u16 0)) rfl g 66 rfl _ C3 (.int .u16 0) rfl K4 (Lib.hid (by have := HL3.out; omega)) (by kernel_rfl) rfl ?_; intro w5 K5 O5 hq5; obtain ⟨C4, hC4⟩ : ∃ x, x = C3.set 66 (.int .u16 0) := ⟨_, rfl⟩; have HC4 := Lib.hid hC4; have HL4 : Hid (C4.length = 69) := (by rw [hC4, List.length_set]; exact HL3.out); rw [← hC4] at K5; have L5 := Lib.hid (below_only L4.out O5.out hg1); clear hC4)
            | ((with_reducible show wpList _ _ _ (⟨some 40, _, _, _, _, _⟩ :: _) _ _); refine wpList_load_blk rfl _ (.tmp 3) rfl g rfl _ C4 K5 69 _ Tryd.underlying32 rfl size_ask HL4 ?_)
            | fail)
          have HF : Hid (C4 = D) := by
            show _ = _
            rw [HC4.out, HC3.out, HC2.out, HC1.out]
            exact HEQ.out
          rw [HF.out]
          refine (CP.out _ D b kb hbu1 hbu2 (HI.out _ L5.out) L5.out).mono ?_
          rintro e v1 ⟨⟨v, er, rfl, her⟩, LQ⟩
          have HER := Lib.hid her
          have L99 := Lib.hid (step L5.out LQ)
          clear her LQ
          go_wp2
          go_ret
          exact ⟨ret_bool HER.out, L99.out⟩
        · have hcf : classI a = false := by unfold classI; by_cases z1 : 1 ≤ a.cls <;> by_cases z2 : a.cls ≤ 3 <;> simp [z1, z2] <;> omega
          have hn0 : nameI 17 a = false := by unfold nameI; rw [hk, hcf]; rfl
          rw [hn0]
          obtain ⟨q, hq⟩ : ∃ q, q = a.cls := ⟨_, rfl⟩
          rw [← hq] at FL q1 q2 q3
          have b1 : (q == 1) = false := by simpa using q1
          have b2 : (q == 2) = false := by simpa using q2
          have b3 : (q == 3) = false := by simpa using q3
          clear hk hcf hn0 q1 q2 q3 ka CP hq
          go_enter Tryd.func29, Tryd.ntmps29
          go_wp2_with (first
            | ((with_reducible show wpList _ _ _ (⟨some 3, _, _, _, _, _⟩ :: _) _ _); refine wpList_box_blk rfl _ (.tmp 1) rfl C0 rfl ?_; intro g w1 hg1 hg2 K1 L1; have cl := FL.out w1 g K1.out)
            | fail)
          go_ret
          exact ⟨rfl, L1.out⟩
  · subst h18
    have hbe : besideI 18 a = { a with file := 0, lev := 0 } := by unfold besideI; rw [if_neg (by decide), if_neg (by decide), if_neg (by decide), if_pos rfl]
    have hnf : nameI 18 a = decide (besideI 18 a = zeroAsk) := by unfold nameI; rw [hk]; simp
    rw [hnf, hbe]
    have kb : ({ a with file := 0, lev := 0 } : AskV).ok := ⟨ka.dial, ka.glen, ka.gbyte, ka.plen, ka.pbyte, ka.acc, ka.shr, ka.way, ka.opt, zb (by decide), ka.dur, zb (by decide), ka.at_, ka.n, ka.data, ka.locks, ka.most, ka.cls, ka.siz⟩
    have HI : Hid (∀ w' : World, Below w.heap.size w w' → AskIs w' w'.heap.size (acells (.slice A1 A2 A3) (.slice X1 X2 X3) (.slice M1 M2 M3) ({ a with file := 0, lev := 0 })) ({ a with file := 0, lev := 0 })) := fun w' hb => ⟨A1, A2, A3, X1, X2, X3, M1, M2, M3, rfl, hA.over hb, hX.over hb, hM.over hb⟩
    have hbu1 : ({ a with file := 0, lev := 0 } : AskV).user = a.user := rfl
    have hbu2 : ({ a with file := 0, lev := 0 } : AskV).share = a.share := rfl
    have HEQ : Hid (((C0).set 57 (.int .u64 0)).set 55 (.int .u8 0) = acells (.slice A1 A2 A3) (.slice X1 X2 X3) (.slice M1 M2 M3) ({ a with file := 0, lev := 0 })) := by
      show _ = _
      rw [HC0.out]
      simp only [ac57, ac55, hgl, hpl]
      try rfl
    obtain ⟨b, hb⟩ : ∃ x : AskV, x = { a with file := 0, lev := 0 } := ⟨_, rfl⟩
    rw [← hb] at HI HEQ kb hbu1 hbu2 ⊢
    obtain ⟨D, hD⟩ : ∃ x, x = acells (.slice A1 A2 A3) (.slice X1 X2 X3) (.slice M1 M2 M3) b := ⟨_, rfl⟩
    rw [← hD] at HI HEQ
    clear hb hD hk ka hbe hnf
    go_enter Tryd.func29, Tryd.ntmps29
    go_wp2_with (first
      | ((with_reducible show wpList _ _ _ (⟨some 3, _, _, _, _, _⟩ :: _) _ _); refine wpList_box_blk rfl _ (.tmp 1) rfl C0 rfl ?_; intro g w1 hg1 hg2 K1 L1)
      | ((with_reducible show wpList _ _ _ (⟨none, .store _ (.tmp 35) _, _, _, _, _⟩ :: _) _ _); refine wpList_store_fld rfl _ (.tmp 35) (.const (.int .u64 0)) rfl g 57 rfl _ C0 (.int .u64 0) rfl K1 (Lib.hid (by have := HL.out; omega)) (by kernel_rfl) rfl ?_; intro w2 K2 O2 hq2; obtain ⟨C1, hC1⟩ : ∃ x, x = C0.set 57 (.int .u64 0) := ⟨_, rfl⟩; have HC1 := Lib.hid hC1; have HL1 : Hid (C1.length = 69) := (by rw [hC1, List.length_set]; exact HL.out); rw [← hC1] at K2; have L2 := Lib.hid (below_only L1.out O2.out hg1); clear hC1)
      | ((with_reducible show wpList _ _ _ (⟨none, .store _ (.tmp 36) _, _, _, _, _⟩ :: _) _ _); refine wpList_store_fld rfl _ (.tmp 36) (.const (.int .u8 0)) rfl g 55 rfl _ C1 (.int .u8 0) rfl K2 (Lib.hid (by have := HL1.out; omega)) (by kernel_rfl) rfl ?_; intro w3 K3 O3 hq3; obtain ⟨C2, hC2⟩ : ∃ x, x = C1.set 55 (.int .u8 0) := ⟨_, rfl⟩; have HC2 := Lib.hid hC2; have HL2 : Hid (C2.length = 69) := (by rw [hC2, List.length_set]; exact HL1.out); rw [← hC2] at K3; have L3 := Lib.hid (below_only L2.out O3.out hg1); clear hC2)
      | ((with_reducible show wpList _ _ _ (⟨some 40, _, _, _, _, _⟩ :: _) _ _); refine wpList_load_blk rfl _ (.tmp 3) rfl g rfl _ C2 K3 69 _ Tryd.underlying32 rfl size_ask HL2 ?_)
      | fail)
    have HF : Hid (C2 = D) := by
      show _ = _
      rw [HC2.out, HC1.out]
      exact HEQ.out
    rw [HF.out]
    refine (CP.out _ D b kb hbu1 hbu2 (HI.out _ L3.out) L3.out).mono ?_
    rintro e v1 ⟨⟨v, er, rfl, her⟩, LQ⟩
    have HER := Lib.hid her
    have L99 := Lib.hid (step L3.out LQ)
    clear her LQ
    go_wp2
    go_ret
    exact ⟨ret_bool HER.out, L99.out⟩
end Go.Proofs.YtbbjmmooemmeiaaDoor
