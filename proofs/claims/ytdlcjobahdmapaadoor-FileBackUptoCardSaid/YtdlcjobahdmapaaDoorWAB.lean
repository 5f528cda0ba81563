import Derived.WalkKit
import Derived.Deep.Draws
import Derived.Laws.Rows
import Derived.Laws.OwnMore
import Derived.Test.YtdlcjobahdmapaaDoorRows
import Derived.Laws.CopyOwn
import Derived.Laws.AppendOwnNone
import Derived.Lib.Hide
import Derived.Laws.AppendOwn
import Derived.OwnWalk
import Derived.Lib.OthersKept
import Derived.Laws.BytesArg
import Derived.Laws.Tables
import Derived.Laws.NewFold
import Derived.Deep.WholeRow
import Derived.Deep.DeepCutAuto
import Derived.OneCell
import Derived.ProofKit
import Derived.OpenShut
import Derived.ShutString
import Derived.SizedLaws
import Derived.ChangeOld
import Derived.Deep.Strs
import Derived.Deep.MidRow
import Derived.Great.Walk
import Derived.OrdersHeld
import Derived.Laws.StructEq
import Derived.ChangeKeysEq
import Derived.Laws.Bits64
import Derived.Laws.BitsAllLaws
import Derived.WalkSpells
import Derived.WalkLawsBesides
import Derived.Deep.QuietTactic
import Derived.BigQuiet
import Derived.Lib.RuneBytes
import Derived.Lib.ValidLaws
import Derived.Shelf.Utf8.AppendRunePlain
import Derived.Shelf.Unicode.ValidAny
import Derived.Test.YtdlcjobahdmapaaDoorProg
import Derived.Deep.RegionLaw
import Derived.Lib.AppendZeros
import Derived.Deep.RegionWith
import Derived.Deep.OwnRows
import Derived.Test.YtdlcjobahdmapaaDoorWAA
namespace Go.Proofs.YtdlcjobahdmapaaDoor
set_option linter.all false
open Go.RowKit
set_option linter.unusedVariables false
set_option maxRecDepth 100000
theorem built_guid : Tryd.prog.built 25 [] = some ((List.replicate 16 (0 : Int)).map (Value.int .u8)).toArray := by kernel_rfl
theorem built_proof : Tryd.prog.built 26 [] = some ((List.replicate 32 (0 : Int)).map (Value.int .u8)).toArray := by kernel_rfl
theorem zeroAsk_iff (a : AskV) : a = zeroAsk ↔ a.dial = [] ∧ a.data = [] ∧ a.locks = [] ∧ a.guid = List.replicate 16 0 ∧ a.proof = List.replicate 32 0 ∧ a.user = .empty ∧ a.share = .empty ∧ a.name = .empty ∧ a.pat = .empty ∧ a.aft = .empty ∧ a.acc = 0 ∧ a.shr = 0 ∧ a.way = 0 ∧ a.opt = 0 ∧ a.lev = 0 ∧ a.dur = 0 ∧ a.file = 0 ∧ a.at_ = 0 ∧ a.n = 0 ∧ a.most = 0 ∧ a.cls = 0 ∧ a.siz = 0 ∧ a.on = false := by
  constructor
  · rintro rfl
    exact ⟨rfl, rfl, rfl, rfl, rfl, rfl, rfl, rfl, rfl, rfl, rfl, rfl, rfl, rfl, rfl, rfl, rfl, rfl, rfl, rfl, rfl, rfl, rfl⟩
  · rintro ⟨h_dial, h_data, h_locks, h_guid, h_proof, h_user, h_share, h_name, h_pat, h_aft, h_acc, h_shr, h_way, h_opt, h_lev, h_dur, h_file, h_at_, h_n, h_most, h_cls, h_siz, h_on⟩
    cases a
    simp only at h_dial h_data h_locks h_guid h_proof h_user h_share h_name h_pat h_aft h_acc h_shr h_way h_opt h_lev h_dur h_file h_at_ h_n h_most h_cls h_siz h_on
    subst h_dial h_data h_locks h_guid h_proof h_user h_share h_name h_pat h_aft h_acc h_shr h_way h_opt h_lev h_dur h_file h_at_ h_n h_most h_cls h_siz h_on
    rfl
theorem fld_isZeroAsk_0 (g : Nat) (w : World) : (Instr.fieldAt 32 (.pointer (some ⟨g, 0, none⟩)) 0).run Tryd.prog w = .ok (.pointer (some ⟨g, 0, none⟩)) w := by go_simp
theorem fld_isZeroAsk_1 (g : Nat) (w : World) : (Instr.fieldAt 32 (.pointer (some ⟨g, 0, none⟩)) 1).run Tryd.prog w = .ok (.pointer (some ⟨g, 1, none⟩)) w := by go_simp
theorem fld_isZeroAsk_2 (g : Nat) (w : World) : (Instr.fieldAt 32 (.pointer (some ⟨g, 0, none⟩)) 2).run Tryd.prog w = .ok (.pointer (some ⟨g, 17, none⟩)) w := by go_simp
theorem fld_isZeroAsk_3 (g : Nat) (w : World) : (Instr.fieldAt 32 (.pointer (some ⟨g, 0, none⟩)) 3).run Tryd.prog w = .ok (.pointer (some ⟨g, 49, none⟩)) w := by go_simp
theorem fld_isZeroAsk_4 (g : Nat) (w : World) : (Instr.fieldAt 32 (.pointer (some ⟨g, 0, none⟩)) 4).run Tryd.prog w = .ok (.pointer (some ⟨g, 50, none⟩)) w := by go_simp
theorem fld_isZeroAsk_5 (g : Nat) (w : World) : (Instr.fieldAt 32 (.pointer (some ⟨g, 0, none⟩)) 5).run Tryd.prog w = .ok (.pointer (some ⟨g, 51, none⟩)) w := by go_simp
theorem fld_isZeroAsk_6 (g : Nat) (w : World) : (Instr.fieldAt 32 (.pointer (some ⟨g, 0, none⟩)) 6).run Tryd.prog w = .ok (.pointer (some ⟨g, 52, none⟩)) w := by go_simp
theorem fld_isZeroAsk_7 (g : Nat) (w : World) : (Instr.fieldAt 32 (.pointer (some ⟨g, 0, none⟩)) 7).run Tryd.prog w = .ok (.pointer (some ⟨g, 53, none⟩)) w := by go_simp
theorem fld_isZeroAsk_8 (g : Nat) (w : World) : (Instr.fieldAt 32 (.pointer (some ⟨g, 0, none⟩)) 8).run Tryd.prog w = .ok (.pointer (some ⟨g, 54, none⟩)) w := by go_simp
theorem fld_isZeroAsk_9 (g : Nat) (w : World) : (Instr.fieldAt 32 (.pointer (some ⟨g, 0, none⟩)) 9).run Tryd.prog w = .ok (.pointer (some ⟨g, 55, none⟩)) w := by go_simp
theorem fld_isZeroAsk_10 (g : Nat) (w : World) : (Instr.fieldAt 32 (.pointer (some ⟨g, 0, none⟩)) 10).run Tryd.prog w = .ok (.pointer (some ⟨g, 56, none⟩)) w := by go_simp
theorem fld_isZeroAsk_11 (g : Nat) (w : World) : (Instr.fieldAt 32 (.pointer (some ⟨g, 0, none⟩)) 11).run Tryd.prog w = .ok (.pointer (some ⟨g, 57, none⟩)) w := by go_simp
theorem fld_isZeroAsk_12 (g : Nat) (w : World) : (Instr.fieldAt 32 (.pointer (some ⟨g, 0, none⟩)) 12).run Tryd.prog w = .ok (.pointer (some ⟨g, 58, none⟩)) w := by go_simp
theorem fld_isZeroAsk_13 (g : Nat) (w : World) : (Instr.fieldAt 32 (.pointer (some ⟨g, 0, none⟩)) 13).run Tryd.prog w = .ok (.pointer (some ⟨g, 59, none⟩)) w := by go_simp
theorem fld_isZeroAsk_14 (g : Nat) (w : World) : (Instr.fieldAt 32 (.pointer (some ⟨g, 0, none⟩)) 14).run Tryd.prog w = .ok (.pointer (some ⟨g, 60, none⟩)) w := by go_simp
theorem fld_isZeroAsk_15 (g : Nat) (w : World) : (Instr.fieldAt 32 (.pointer (some ⟨g, 0, none⟩)) 15).run Tryd.prog w = .ok (.pointer (some ⟨g, 61, none⟩)) w := by go_simp
theorem fld_isZeroAsk_16 (g : Nat) (w : World) : (Instr.fieldAt 32 (.pointer (some ⟨g, 0, none⟩)) 16).run Tryd.prog w = .ok (.pointer (some ⟨g, 62, none⟩)) w := by go_simp
theorem fld_isZeroAsk_17 (g : Nat) (w : World) : (Instr.fieldAt 32 (.pointer (some ⟨g, 0, none⟩)) 17).run Tryd.prog w = .ok (.pointer (some ⟨g, 63, none⟩)) w := by go_simp
theorem fld_isZeroAsk_18 (g : Nat) (w : World) : (Instr.fieldAt 32 (.pointer (some ⟨g, 0, none⟩)) 18).run Tryd.prog w = .ok (.pointer (some ⟨g, 64, none⟩)) w := by go_simp
theorem fld_isZeroAsk_19 (g : Nat) (w : World) : (Instr.fieldAt 32 (.pointer (some ⟨g, 0, none⟩)) 19).run Tryd.prog w = .ok (.pointer (some ⟨g, 65, none⟩)) w := by go_simp
theorem fld_isZeroAsk_20 (g : Nat) (w : World) : (Instr.fieldAt 32 (.pointer (some ⟨g, 0, none⟩)) 20).run Tryd.prog w = .ok (.pointer (some ⟨g, 66, none⟩)) w := by go_simp
theorem fld_isZeroAsk_21 (g : Nat) (w : World) : (Instr.fieldAt 32 (.pointer (some ⟨g, 0, none⟩)) 21).run Tryd.prog w = .ok (.pointer (some ⟨g, 67, none⟩)) w := by go_simp
theorem fld_isZeroAsk_22 (g : Nat) (w : World) : (Instr.fieldAt 32 (.pointer (some ⟨g, 0, none⟩)) 22).run Tryd.prog w = .ok (.pointer (some ⟨g, 68, none⟩)) w := by go_simp
theorem load_mid_run {w : World} {g off : Nat} {cs : List Value} {ty : TypeId} {d : TypeDesc} (hc : w.rangeAt g off cs) (hu : Tryd.prog.underlying ty = some d) (hd : d.isRow = true) (hs : (Tryd.prog.info? ty).map (·.size) = some cs.length) :
    (Instr.loadAt ty (.pointer (some ⟨g, off, none⟩))).run Tryd.prog w = .ok (.agg cs.toArray) w := by
  have := run_loadVar_mid (P := Tryd.prog) w g off ty cs d hc hu hd hs
  simpa [Instr.loadAt, Instr.sureAddr, Sem.run_bind, Result.andThen_ok] using this
theorem bytes_isEmpty (s : ByteArray) : s.toList.isEmpty = decide (s = .empty) := by
  rw [ByteArray.toList_eq]
  obtain ⟨⟨l⟩⟩ := s
  cases l with
  | nil => exact (decide_eq_true rfl).symm
  | cons x l => rw [decide_eq_false (fun h => by injection h with h; injection h with h; cases h)]; rfl
theorem build_run {a : Act} {w : World} {T : TypeId} {o : Oper} {ys : Array Value} (ho : o.op = .build T #[]) (hf : Tryd.prog.built T [] = some ys) : (execOp a.eval o).run Tryd.prog w = .ok (.value (.agg ys)) w := by
  obtain ⟨cs, rfl⟩ : ∃ cs : List Value, ys = cs.toArray := ⟨ys.toList, by simp⟩
  have h := yieldsIf_build_blk (P := Tryd.prog) (ops := #[]) (S := fun _ => True) (op := { o with guard := none }) (a := a) (by simp [Region.wanted]) T #[] ho cs (by simpa using hf)
  rcases h with ⟨_, h⟩ | ⟨h, _⟩
  · exact h w trivial
  · simp [Region.wanted] at h
theorem eval_getD {a : Act} {t : Nat} {v : Value} (h : a.eval (.tmp t) = v) : a.tmps[t]?.getD undef = v := by rw [← h]; simp [Act.eval]
set_option maxHeartbeats 4000000 in
theorem isZeroAsk_any (w : World) (cs : List Value) (a : AskV) (ka : a.ok) (ha : AskIs w w.heap.size cs a) :
    Calls Tryd.prog 81 #[.agg cs.toArray] w fun e w' => e = .returned (.bool (decide (a = zeroAsk))) ∧ Below w.heap.size w w' := by
  have HL := Lib.hid (ha.len ka)
  obtain ⟨D1, D2, D3, X1, X2, X3, M1, M2, M3, rfl, h_D, h_X, h_M⟩ := ha
  have l_D := h_D.len
  have l_X := h_X.len
  have l_M := h_M.len
  have HT : Hid ((((((((((((((((((((((((a.dial.length == 0) && (a.data.length == 0)) && (a.locks.length == 0)) && (decide (a.guid = List.replicate 16 0))) && (decide (a.proof = List.replicate 32 0))) && (decide (a.user = .empty))) && (decide (a.share = .empty))) && (decide (a.name = .empty))) && (decide (a.pat = .empty))) && (decide (a.aft = .empty))) && (a.acc == 0)) && (a.shr == 0)) && (a.way == 0)) && (a.opt == 0)) && (a.lev == 0)) && (a.dur == 0)) && (a.file == 0)) && (a.at_ == 0)) && (a.n == 0)) && (a.most == 0)) && (a.cls == 0)) && (a.siz == 0)) && (!a.on)) = decide (a = zeroAsk)) := by
    show _ = _
    rw [Bool.eq_iff_iff, decide_eq_true_iff, zeroAsk_iff]
    simp only [Bool.and_eq_true, beq_iff_eq, decide_eq_true_iff, Bool.not_eq_true', List.length_eq_zero_iff, and_assoc]
  have FA : Hid (∀ (w : World) (g : Nat), Blk w g 32 (acells (.slice D1 D2 D3) (.slice X1 X2 X3) (.slice M1 M2 M3) a) → w.cell? ⟨g, 0, none⟩ = some (.slice D1 D2 D3) ∧ w.cell? ⟨g, 49, none⟩ = some (.string a.user) ∧ w.cell? ⟨g, 50, none⟩ = some (.string a.share) ∧ w.cell? ⟨g, 51, none⟩ = some (.int .u32 a.acc) ∧ w.cell? ⟨g, 52, none⟩ = some (.int .u32 a.shr) ∧ w.cell? ⟨g, 53, none⟩ = some (.int .u32 a.way) ∧ w.cell? ⟨g, 54, none⟩ = some (.int .u32 a.opt) ∧ w.cell? ⟨g, 55, none⟩ = some (.int .u8 a.lev) ∧ w.cell? ⟨g, 56, none⟩ = some (.int .u8 a.dur) ∧ w.cell? ⟨g, 57, none⟩ = some (.int .u64 a.file) ∧ w.cell? ⟨g, 58, none⟩ = some (.string a.name) ∧ w.cell? ⟨g, 59, none⟩ = some (.int .u64 a.at_) ∧ w.cell? ⟨g, 60, none⟩ = some (.int .u32 a.n) ∧ w.cell? ⟨g, 61, none⟩ = some (.slice X1 X2 X3) ∧ w.cell? ⟨g, 62, none⟩ = some (.slice M1 M2 M3) ∧ w.cell? ⟨g, 63, none⟩ = some (.int .u16 a.most) ∧ w.cell? ⟨g, 64, none⟩ = some (.string a.pat) ∧ w.cell? ⟨g, 65, none⟩ = some (.string a.aft) ∧ w.cell? ⟨g, 66, none⟩ = some (.int .u16 a.cls) ∧ w.cell? ⟨g, 67, none⟩ = some (.int .u64 a.siz) ∧ w.cell? ⟨g, 68, none⟩ = some (.bool a.on)) := fun w g h =>
    ⟨h.at rfl, h.at (acells_get ka 0), h.at (acells_get ka 1), h.at (acells_get ka 2), h.at (acells_get ka 3), h.at (acells_get ka 4), h.at (acells_get ka 5), h.at (acells_get ka 6), h.at (acells_get ka 7), h.at (acells_get ka 8), h.at (acells_get ka 9), h.at (acells_get ka 10), h.at (acells_get ka 11), h.at (acells_get ka 12), h.at (acells_get ka 13), h.at (acells_get ka 14), h.at (acells_get ka 15), h.at (acells_get ka 16), h.at (acells_get ka 17), h.at (acells_get ka 18), h.at (acells_get ka 19)⟩
  have R_guid : Hid (∀ (w : World) (g : Nat), Blk w g 32 (acells (.slice D1 D2 D3) (.slice X1 X2 X3) (.slice M1 M2 M3) a) → w.rangeAt g 1 (a.guid.map (Value.int .u8))) := fun w g h => acells_guid h ka
  have N_guid : Hid ((a.guid.map (Value.int .u8)).length = 16) := by show _ = _; rw [List.length_map]; exact ka.glen
  have q_guid : ∀ w : World, (Op.equalIn 10000 25 (.agg (a.guid.map (Value.int .u8)).toArray) (.agg ((List.replicate 16 (0 : Int)).map (Value.int .u8)).toArray)).run Tryd.prog w = .ok (decide (a.guid = List.replicate 16 0)) w := fun w => run_equalIn_arr3 Tryd.underlying25 Tryd.underlying5 size_u8e _ _ ka.glen (by simp) _ w
  have R_proof : Hid (∀ (w : World) (g : Nat), Blk w g 32 (acells (.slice D1 D2 D3) (.slice X1 X2 X3) (.slice M1 M2 M3) a) → w.rangeAt g 17 (a.proof.map (Value.int .u8))) := fun w g h => acells_proof h ka
  have N_proof : Hid ((a.proof.map (Value.int .u8)).length = 32) := by show _ = _; rw [List.length_map]; exact ka.plen
  have q_proof : ∀ w : World, (Op.equalIn 10000 26 (.agg (a.proof.map (Value.int .u8)).toArray) (.agg ((List.replicate 32 (0 : Int)).map (Value.int .u8)).toArray)).run Tryd.prog w = .ok (decide (a.proof = List.replicate 32 0)) w := fun w => run_equalIn_arr3 Tryd.underlying26 Tryd.underlying5 size_u8e _ _ ka.plen (by simp) _ w
  obtain ⟨z_dial, k_dial⟩ : ∃ z, (a.dial.length == 0) = z := ⟨_, rfl⟩
  obtain ⟨z_data, k_data⟩ : ∃ z, (a.data.length == 0) = z := ⟨_, rfl⟩
  obtain ⟨z_locks, k_locks⟩ : ∃ z, (a.locks.length == 0) = z := ⟨_, rfl⟩
  obtain ⟨z_guid, k_guid⟩ : ∃ z, (decide (a.guid = List.replicate 16 0)) = z := ⟨_, rfl⟩
  obtain ⟨z_proof, k_proof⟩ : ∃ z, (decide (a.proof = List.replicate 32 0)) = z := ⟨_, rfl⟩
  obtain ⟨z_user, k_user⟩ : ∃ z, (decide (a.user = .empty)) = z := ⟨_, rfl⟩
  obtain ⟨z_share, k_share⟩ : ∃ z, (decide (a.share = .empty)) = z := ⟨_, rfl⟩
  obtain ⟨z_name, k_name⟩ : ∃ z, (decide (a.name = .empty)) = z := ⟨_, rfl⟩
  obtain ⟨z_pat, k_pat⟩ : ∃ z, (decide (a.pat = .empty)) = z := ⟨_, rfl⟩
  obtain ⟨z_aft, k_aft⟩ : ∃ z, (decide (a.aft = .empty)) = z := ⟨_, rfl⟩
  obtain ⟨z_acc, k_acc⟩ : ∃ z, (a.acc == 0) = z := ⟨_, rfl⟩
  obtain ⟨z_shr, k_shr⟩ : ∃ z, (a.shr == 0) = z := ⟨_, rfl⟩
  obtain ⟨z_way, k_way⟩ : ∃ z, (a.way == 0) = z := ⟨_, rfl⟩
  obtain ⟨z_opt, k_opt⟩ : ∃ z, (a.opt == 0) = z := ⟨_, rfl⟩
  obtain ⟨z_lev, k_lev⟩ : ∃ z, (a.lev == 0) = z := ⟨_, rfl⟩
  obtain ⟨z_dur, k_dur⟩ : ∃ z, (a.dur == 0) = z := ⟨_, rfl⟩
  obtain ⟨z_file, k_file⟩ : ∃ z, (a.file == 0) = z := ⟨_, rfl⟩
  obtain ⟨z_at_, k_at_⟩ : ∃ z, (a.at_ == 0) = z := ⟨_, rfl⟩
  obtain ⟨z_n, k_n⟩ : ∃ z, (a.n == 0) = z := ⟨_, rfl⟩
  obtain ⟨z_most, k_most⟩ : ∃ z, (a.most == 0) = z := ⟨_, rfl⟩
  obtain ⟨z_cls, k_cls⟩ : ∃ z, (a.cls == 0) = z := ⟨_, rfl⟩
  obtain ⟨z_siz, k_siz⟩ : ∃ z, (a.siz == 0) = z := ⟨_, rfl⟩
  obtain ⟨z_on, k_on⟩ : ∃ z, (!a.on) = z := ⟨_, rfl⟩
  rw [k_dial, k_data, k_locks, k_guid, k_proof, k_user, k_share, k_name, k_pat, k_aft, k_acc, k_shr, k_way, k_opt, k_lev, k_dur, k_file, k_at_, k_n, k_most, k_cls, k_siz, k_on] at HT
  rw [l_D] at k_dial
  have kk_dial : ((D2 : Int) == 0) = z_dial := by rw [← k_dial]; rw [Bool.eq_iff_iff]; simp
  rw [l_X] at k_data
  have kk_data : ((X2 : Int) == 0) = z_data := by rw [← k_data]; rw [Bool.eq_iff_iff]; simp
  rw [l_M] at k_locks
  have kk_locks : ((M2 : Int) == 0) = z_locks := by rw [← k_locks]; rw [Bool.eq_iff_iff]; simp
  rw [k_guid] at q_guid
  obtain ⟨y_guid, hy⟩ : ∃ y, y = ((List.replicate 16 (0 : Int)).map (Value.int .u8)).toArray := ⟨_, rfl⟩
  rw [← hy] at q_guid
  have bt_guid : Tryd.prog.built 25 [] = some y_guid := by rw [hy]; exact built_guid
  clear hy
  rw [k_proof] at q_proof
  obtain ⟨y_proof, hy⟩ : ∃ y, y = ((List.replicate 32 (0 : Int)).map (Value.int .u8)).toArray := ⟨_, rfl⟩
  rw [← hy] at q_proof
  have bt_proof : Tryd.prog.built 26 [] = some y_proof := by rw [hy]; exact built_proof
  clear hy
  have kk_user : a.user.toList.isEmpty = z_user := by rw [← k_user]; exact bytes_isEmpty _
  have kk_share : a.share.toList.isEmpty = z_share := by rw [← k_share]; exact bytes_isEmpty _
  have kk_name : a.name.toList.isEmpty = z_name := by rw [← k_name]; exact bytes_isEmpty _
  have kk_pat : a.pat.toList.isEmpty = z_pat := by rw [← k_pat]; exact bytes_isEmpty _
  have kk_aft : a.aft.toList.isEmpty = z_aft := by rw [← k_aft]; exact bytes_isEmpty _
  obtain ⟨r, hr⟩ : ∃ r, r = decide (a = zeroAsk) := ⟨_, rfl⟩
  rw [← hr] at HT ⊢
  obtain ⟨cs, hcs⟩ : ∃ c, c = acells (.slice D1 D2 D3) (.slice X1 X2 X3) (.slice M1 M2 M3) a := ⟨_, rfl⟩
  rw [← hcs] at FA HL R_guid R_proof ⊢
  clear hr hcs h_D h_X h_M
  go_enter Tryd.func81, Tryd.ntmps81
  go_upto_region 1 with (first
    | ((with_reducible show wpList _ _ _ (⟨some 1, _, _, _, _, _⟩ :: _) _ _); refine wpList_box_blk rfl _ (.tmp 0) rfl cs rfl ?_; intro g w1 hg1 hg2 K1 L1)
    | fail)
  rename_i hret
  simp only [List.append_eq, List.cons_append, List.nil_append]
  refine wp_region_lit ?_
  have HK := K1
  obtain ⟨c_dial, c_user, c_share, c_acc, c_shr, c_way, c_opt, c_lev, c_dur, c_file, c_name, c_at_, c_n, c_data, c_locks, c_most, c_pat, c_aft, c_cls, c_siz, c_on⟩ := FA.out _ _ K1.out
  have r_guid := R_guid.out _ _ K1.out
  have r_proof := R_proof.out _ _ K1.out
  refine wpList_abs (N := 121) (x0 := 1) (pv := .pointer (some ⟨g, 0, none⟩)) ⟨rfl, rfl, rfl⟩ fun a0 F0 => ?_
  refine head_load (v := (.slice D1 D2 D3)) (f := 3) (l := 4) (i := 0) (off := 0) (g := g) ⟨rfl, rfl, rfl⟩ ⟨rfl, rfl, rfl⟩ (by decide) (fld_isZeroAsk_0 g) (load_one c_dial _ Tryd.underlying24 rfl) a0 F0 fun a1 F1 e1 => ?_
  refine head_next (e := 5) (u := .int .i64 (D2 : Int)) ⟨rfl, rfl⟩ (by decide) a1 F1 (by have e' := eval_getD e1; go_simp) fun a2 F2 e2 => ?_
  refine head_next (e := 6) (u := .bool z_dial) ⟨rfl, rfl⟩ (by decide) a2 F2 (by have e' := eval_getD e2; go_simp) fun b0 G0 h0 => ?_
  clear F0 F1 F2 e1 e2
  refine chain (gi := 4) (p := 6) (m := 7) (e := 11) (q := 12) (t := z_data) (mids := [_, _, _, _]) rfl ⟨rfl, rfl, rfl⟩ ⟨rfl, rfl, rfl⟩ (by decide) G0 h0 (by
    intro o ho
    simp only [List.mem_cons, List.not_mem_nil, or_false] at ho
    rcases ho with rfl | rfl | rfl | rfl
    all_goals exact ⟨rfl, _, rfl, by decide, by decide⟩) (fun a1 F1 m1 hk => ?_) fun b1 G1 h1 => ?_
  · refine mids_load (v := (.slice X1 X2 X3)) (f := 8) (l := 9) (i := 15) (off := 61) (g := g) (tail := _) (gi := 4) (m := 7) rfl ⟨rfl, rfl, rfl⟩ ⟨rfl, rfl, rfl⟩ (by decide) (fld_isZeroAsk_15 g) (load_one c_data _ Tryd.underlying29 rfl) a1 F1 m1 fun a2 F2 m2 e2 => ?_
    refine mids_next (l := 0) (e := 10) (u := .int .i64 (X2 : Int)) (gi := 4) (m := 7) rfl ⟨rfl, rfl⟩ (by decide) a2 F2 m2 (by have e' := eval_getD e2; go_simp) fun a3 F3 m3 e3 _ => ?_
    refine mids_next (l := 0) (e := 11) (u := .bool z_data) (gi := 4) (m := 7) rfl ⟨rfl, rfl⟩ (by decide) a3 F3 m3 (by have e' := eval_getD e3; go_simp) fun a4 F4 m4 e4 _ => ?_
    exact hk a4 F4 m4 e4
  refine chain (gi := 10) (p := 12) (m := 13) (e := 17) (q := 18) (t := z_locks) (mids := [_, _, _, _]) rfl ⟨rfl, rfl, rfl⟩ ⟨rfl, rfl, rfl⟩ (by decide) G1 h1 (by
    intro o ho
    simp only [List.mem_cons, List.not_mem_nil, or_false] at ho
    rcases ho with rfl | rfl | rfl | rfl
    all_goals exact ⟨rfl, _, rfl, by decide, by decide⟩) (fun a1 F1 m1 hk => ?_) fun b2 G2 h2 => ?_
  · refine mids_load (v := (.slice M1 M2 M3)) (f := 14) (l := 15) (i := 16) (off := 62) (g := g) (tail := _) (gi := 10) (m := 13) rfl ⟨rfl, rfl, rfl⟩ ⟨rfl, rfl, rfl⟩ (by decide) (fld_isZeroAsk_16 g) (load_one c_locks _ Tryd.underlying30 rfl) a1 F1 m1 fun a2 F2 m2 e2 => ?_
    refine mids_next (l := 0) (e := 16) (u := .int .i64 (M2 : Int)) (gi := 10) (m := 13) rfl ⟨rfl, rfl⟩ (by decide) a2 F2 m2 (by have e' := eval_getD e2; go_simp) fun a3 F3 m3 e3 _ => ?_
    refine mids_next (l := 0) (e := 17) (u := .bool z_locks) (gi := 10) (m := 13) rfl ⟨rfl, rfl⟩ (by decide) a3 F3 m3 (by have e' := eval_getD e3; go_simp) fun a4 F4 m4 e4 _ => ?_
    exact hk a4 F4 m4 e4
  clear G1 h1
  refine chain (gi := 16) (p := 18) (m := 19) (e := 23) (q := 24) (t := z_guid) (mids := [_, _, _, _]) rfl ⟨rfl, rfl, rfl⟩ ⟨rfl, rfl, rfl⟩ (by decide) G2 h2 (by
    intro o ho
    simp only [List.mem_cons, List.not_mem_nil, or_false] at ho
    rcases ho with rfl | rfl | rfl | rfl
    all_goals exact ⟨rfl, _, rfl, by decide, by decide⟩) (fun a1 F1 m1 hk => ?_) fun b3 G3 h3 => ?_
  · refine mids_load (v := (.agg (a.guid.map (Value.int .u8)).toArray)) (f := 20) (l := 21) (i := 1) (off := 1) (g := g) (tail := _) (gi := 16) (m := 19) rfl ⟨rfl, rfl, rfl⟩ ⟨rfl, rfl, rfl⟩ (by decide) (fld_isZeroAsk_1 g) (load_mid_run r_guid Tryd.underlying25 rfl (by rw [size_guid, N_guid.out])) a1 F1 m1 fun a2 F2 m2 e2 => ?_
    refine mids_next (l := 0) (e := 22) (u := .agg y_guid) (gi := 16) (m := 19) rfl ⟨rfl, rfl⟩ (by decide) a2 F2 m2 (build_run rfl bt_guid) fun a3 F3 m3 e3 o3 => ?_
    have e2' := (o3 21 (by decide)).trans e2
    refine mids_next (l := 0) (e := 23) (u := .bool z_guid) (gi := 16) (m := 19) rfl ⟨rfl, rfl⟩ (by decide) a3 F3 m3 (by have e' := eval_getD e2'; have e'' := eval_getD e3; have qg := guard_guid; go_simp) fun a4 F4 m4 e4 _ => ?_
    exact hk a4 F4 m4 e4
  clear G2 h2
  refine chain (gi := 22) (p := 24) (m := 25) (e := 29) (q := 30) (t := z_proof) (mids := [_, _, _, _]) rfl ⟨rfl, rfl, rfl⟩ ⟨rfl, rfl, rfl⟩ (by decide) G3 h3 (by
    intro o ho
    simp only [List.mem_cons, List.not_mem_nil, or_false] at ho
    rcases ho with rfl | rfl | rfl | rfl
    all_goals exact ⟨rfl, _, rfl, by decide, by decide⟩) (fun a1 F1 m1 hk => ?_) fun b4 G4 h4 => ?_
  · refine mids_load (v := (.agg (a.proof.map (Value.int .u8)).toArray)) (f := 26) (l := 27) (i := 2) (off := 17) (g := g) (tail := _) (gi := 22) (m := 25) rfl ⟨rfl, rfl, rfl⟩ ⟨rfl, rfl, rfl⟩ (by decide) (fld_isZeroAsk_2 g) (load_mid_run r_proof Tryd.underlying26 rfl (by rw [size_proof, N_proof.out])) a1 F1 m1 fun a2 F2 m2 e2 => ?_
    refine mids_next (l := 0) (e := 28) (u := .agg y_proof) (gi := 22) (m := 25) rfl ⟨rfl, rfl⟩ (by decide) a2 F2 m2 (build_run rfl bt_proof) fun a3 F3 m3 e3 o3 => ?_
    have e2' := (o3 27 (by decide)).trans e2
    refine mids_next (l := 0) (e := 29) (u := .bool z_proof) (gi := 22) (m := 25) rfl ⟨rfl, rfl⟩ (by decide) a3 F3 m3 (by have e' := eval_getD e2'; have e'' := eval_getD e3; have qg := guard_proof; go_simp) fun a4 F4 m4 e4 _ => ?_
    exact hk a4 F4 m4 e4
  clear G3 h3
  refine chain (gi := 28) (p := 30) (m := 31) (e := 34) (q := 35) (t := z_user) (mids := [_, _, _]) rfl ⟨rfl, rfl, rfl⟩ ⟨rfl, rfl, rfl⟩ (by decide) G4 h4 (by
    intro o ho
    simp only [List.mem_cons, List.not_mem_nil, or_false] at ho
    rcases ho with rfl | rfl | rfl
    all_goals exact ⟨rfl, _, rfl, by decide, by decide⟩) (fun a1 F1 m1 hk => ?_) fun b5 G5 h5 => ?_
  · refine mids_load (v := (.string a.user)) (f := 32) (l := 33) (i := 3) (off := 49) (g := g) (tail := _) (gi := 28) (m := 31) rfl ⟨rfl, rfl, rfl⟩ ⟨rfl, rfl, rfl⟩ (by decide) (fld_isZeroAsk_3 g) (load_one c_user _ Tryd.underlying9 rfl) a1 F1 m1 fun a2 F2 m2 e2 => ?_
    refine mids_next (l := 0) (e := 34) (u := .bool z_user) (gi := 28) (m := 31) rfl ⟨rfl, rfl⟩ (by decide) a2 F2 m2 (by have e' := eval_getD e2; go_simp) fun a4 F4 m4 e4 _ => ?_
    exact hk a4 F4 m4 e4
  clear G4 h4
  refine chain (gi := 33) (p := 35) (m := 36) (e := 39) (q := 40) (t := z_share) (mids := [_, _, _]) rfl ⟨rfl, rfl, rfl⟩ ⟨rfl, rfl, rfl⟩ (by decide) G5 h5 (by
    intro o ho
    simp only [List.mem_cons, List.not_mem_nil, or_false] at ho
    rcases ho with rfl | rfl | rfl
    all_goals exact ⟨rfl, _, rfl, by decide, by decide⟩) (fun a1 F1 m1 hk => ?_) fun b6 G6 h6 => ?_
  · refine mids_load (v := (.string a.share)) (f := 37) (l := 38) (i := 4) (off := 50) (g := g) (tail := _) (gi := 33) (m := 36) rfl ⟨rfl, rfl, rfl⟩ ⟨rfl, rfl, rfl⟩ (by decide) (fld_isZeroAsk_4 g) (load_one c_share _ Tryd.underlying9 rfl) a1 F1 m1 fun a2 F2 m2 e2 => ?_
    refine mids_next (l := 0) (e := 39) (u := .bool z_share) (gi := 33) (m := 36) rfl ⟨rfl, rfl⟩ (by decide) a2 F2 m2 (by have e' := eval_getD e2; go_simp) fun a4 F4 m4 e4 _ => ?_
    exact hk a4 F4 m4 e4
  clear G5 h5
  refine chain (gi := 38) (p := 40) (m := 41) (e := 44) (q := 45) (t := z_name) (mids := [_, _, _]) rfl ⟨rfl, rfl, rfl⟩ ⟨rfl, rfl, rfl⟩ (by decide) G6 h6 (by
    intro o ho
    simp only [List.mem_cons, List.not_mem_nil, or_false] at ho
    rcases ho with rfl | rfl | rfl
    all_goals exact ⟨rfl, _, rfl, by decide, by decide⟩) (fun a1 F1 m1 hk => ?_) fun b7 G7 h7 => ?_
  · refine mids_load (v := (.string a.name)) (f := 42) (l := 43) (i := 12) (off := 58) (g := g) (tail := _) (gi := 38) (m := 41) rfl ⟨rfl, rfl, rfl⟩ ⟨rfl, rfl, rfl⟩ (by decide) (fld_isZeroAsk_12 g) (load_one c_name _ Tryd.underlying9 rfl) a1 F1 m1 fun a2 F2 m2 e2 => ?_
    refine mids_next (l := 0) (e := 44) (u := .bool z_name) (gi := 38) (m := 41) rfl ⟨rfl, rfl⟩ (by decide) a2 F2 m2 (by have e' := eval_getD e2; go_simp) fun a4 F4 m4 e4 _ => ?_
    exact hk a4 F4 m4 e4
  clear G6 h6
  refine chain (gi := 43) (p := 45) (m := 46) (e := 49) (q := 50) (t := z_pat) (mids := [_, _, _]) rfl ⟨rfl, rfl, rfl⟩ ⟨rfl, rfl, rfl⟩ (by decide) G7 h7 (by
    intro o ho
    simp only [List.mem_cons, List.not_mem_nil, or_false] at ho
    rcases ho with rfl | rfl | rfl
    all_goals exact ⟨rfl, _, rfl, by decide, by decide⟩) (fun a1 F1 m1 hk => ?_) fun b8 G8 h8 => ?_
  · refine mids_load (v := (.string a.pat)) (f := 47) (l := 48) (i := 18) (off := 64) (g := g) (tail := _) (gi := 43) (m := 46) rfl ⟨rfl, rfl, rfl⟩ ⟨rfl, rfl, rfl⟩ (by decide) (fld_isZeroAsk_18 g) (load_one c_pat _ Tryd.underlying9 rfl) a1 F1 m1 fun a2 F2 m2 e2 => ?_
    refine mids_next (l := 0) (e := 49) (u := .bool z_pat) (gi := 43) (m := 46) rfl ⟨rfl, rfl⟩ (by decide) a2 F2 m2 (by have e' := eval_getD e2; go_simp) fun a4 F4 m4 e4 _ => ?_
    exact hk a4 F4 m4 e4
  clear G7 h7
  refine chain (gi := 48) (p := 50) (m := 51) (e := 54) (q := 55) (t := z_aft) (mids := [_, _, _]) rfl ⟨rfl, rfl, rfl⟩ ⟨rfl, rfl, rfl⟩ (by decide) G8 h8 (by
    intro o ho
    simp only [List.mem_cons, List.not_mem_nil, or_false] at ho
    rcases ho with rfl | rfl | rfl
    all_goals exact ⟨rfl, _, rfl, by decide, by decide⟩) (fun a1 F1 m1 hk => ?_) fun b9 G9 h9 => ?_
  · refine mids_load (v := (.string a.aft)) (f := 52) (l := 53) (i := 19) (off := 65) (g := g) (tail := _) (gi := 48) (m := 51) rfl ⟨rfl, rfl, rfl⟩ ⟨rfl, rfl, rfl⟩ (by decide) (fld_isZeroAsk_19 g) (load_one c_aft _ Tryd.underlying9 rfl) a1 F1 m1 fun a2 F2 m2 e2 => ?_
    refine mids_next (l := 0) (e := 54) (u := .bool z_aft) (gi := 48) (m := 51) rfl ⟨rfl, rfl⟩ (by decide) a2 F2 m2 (by have e' := eval_getD e2; go_simp) fun a4 F4 m4 e4 _ => ?_
    exact hk a4 F4 m4 e4
  clear G8 h8
  refine chain (gi := 53) (p := 55) (m := 56) (e := 59) (q := 60) (t := z_acc) (mids := [_, _, _]) rfl ⟨rfl, rfl, rfl⟩ ⟨rfl, rfl, rfl⟩ (by decide) G9 h9 (by
    intro o ho
    simp only [List.mem_cons, List.not_mem_nil, or_false] at ho
    rcases ho with rfl | rfl | rfl
    all_goals exact ⟨rfl, _, rfl, by decide, by decide⟩) (fun a1 F1 m1 hk => ?_) fun b10 G10 h10 => ?_
  · refine mids_load (v := (.int .u32 a.acc)) (f := 57) (l := 58) (i := 5) (off := 51) (g := g) (tail := _) (gi := 53) (m := 56) rfl ⟨rfl, rfl, rfl⟩ ⟨rfl, rfl, rfl⟩ (by decide) (fld_isZeroAsk_5 g) (load_one c_acc _ Tryd.underlying27 rfl) a1 F1 m1 fun a2 F2 m2 e2 => ?_
    refine mids_next (l := 0) (e := 59) (u := .bool z_acc) (gi := 53) (m := 56) rfl ⟨rfl, rfl⟩ (by decide) a2 F2 m2 (by have e' := eval_getD e2; go_simp) fun a4 F4 m4 e4 _ => ?_
    exact hk a4 F4 m4 e4
  clear G9 h9
  refine chain (gi := 58) (p := 60) (m := 61) (e := 64) (q := 65) (t := z_shr) (mids := [_, _, _]) rfl ⟨rfl, rfl, rfl⟩ ⟨rfl, rfl, rfl⟩ (by decide) G10 h10 (by
    intro o ho
    simp only [List.mem_cons, List.not_mem_nil, or_false] at ho
    rcases ho with rfl | rfl | rfl
    all_goals exact ⟨rfl, _, rfl, by decide, by decide⟩) (fun a1 F1 m1 hk => ?_) fun b11 G11 h11 => ?_
  · refine mids_load (v := (.int .u32 a.shr)) (f := 62) (l := 63) (i := 6) (off := 52) (g := g) (tail := _) (gi := 58) (m := 61) rfl ⟨rfl, rfl, rfl⟩ ⟨rfl, rfl, rfl⟩ (by decide) (fld_isZeroAsk_6 g) (load_one c_shr _ Tryd.underlying27 rfl) a1 F1 m1 fun a2 F2 m2 e2 => ?_
    refine mids_next (l := 0) (e := 64) (u := .bool z_shr) (gi := 58) (m := 61) rfl ⟨rfl, rfl⟩ (by decide) a2 F2 m2 (by have e' := eval_getD e2; go_simp) fun a4 F4 m4 e4 _ => ?_
    exact hk a4 F4 m4 e4
  clear G10 h10
  refine chain (gi := 63) (p := 65) (m := 66) (e := 69) (q := 70) (t := z_way) (mids := [_, _, _]) rfl ⟨rfl, rfl, rfl⟩ ⟨rfl, rfl, rfl⟩ (by decide) G11 h11 (by
    intro o ho
    simp only [List.mem_cons, List.not_mem_nil, or_false] at ho
    rcases ho with rfl | rfl | rfl
    all_goals exact ⟨rfl, _, rfl, by decide, by decide⟩) (fun a1 F1 m1 hk => ?_) fun b12 G12 h12 => ?_
  · refine mids_load (v := (.int .u32 a.way)) (f := 67) (l := 68) (i := 7) (off := 53) (g := g) (tail := _) (gi := 63) (m := 66) rfl ⟨rfl, rfl, rfl⟩ ⟨rfl, rfl, rfl⟩ (by decide) (fld_isZeroAsk_7 g) (load_one c_way _ Tryd.underlying27 rfl) a1 F1 m1 fun a2 F2 m2 e2 => ?_
    refine mids_next (l := 0) (e := 69) (u := .bool z_way) (gi := 63) (m := 66) rfl ⟨rfl, rfl⟩ (by decide) a2 F2 m2 (by have e' := eval_getD e2; go_simp) fun a4 F4 m4 e4 _ => ?_
    exact hk a4 F4 m4 e4
  clear G11 h11
  refine chain (gi := 68) (p := 70) (m := 71) (e := 74) (q := 75) (t := z_opt) (mids := [_, _, _]) rfl ⟨rfl, rfl, rfl⟩ ⟨rfl, rfl, rfl⟩ (by decide) G12 h12 (by
    intro o ho
    simp only [List.mem_cons, List.not_mem_nil, or_false] at ho
    rcases ho with rfl | rfl | rfl
    all_goals exact ⟨rfl, _, rfl, by decide, by decide⟩) (fun a1 F1 m1 hk => ?_) fun b13 G13 h13 => ?_
  · refine mids_load (v := (.int .u32 a.opt)) (f := 72) (l := 73) (i := 8) (off := 54) (g := g) (tail := _) (gi := 68) (m := 71) rfl ⟨rfl, rfl, rfl⟩ ⟨rfl, rfl, rfl⟩ (by decide) (fld_isZeroAsk_8 g) (load_one c_opt _ Tryd.underlying27 rfl) a1 F1 m1 fun a2 F2 m2 e2 => ?_
    refine mids_next (l := 0) (e := 74) (u := .bool z_opt) (gi := 68) (m := 71) rfl ⟨rfl, rfl⟩ (by decide) a2 F2 m2 (by have e' := eval_getD e2; go_simp) fun a4 F4 m4 e4 _ => ?_
    exact hk a4 F4 m4 e4
  clear G12 h12
  refine chain (gi := 73) (p := 75) (m := 76) (e := 79) (q := 80) (t := z_lev) (mids := [_, _, _]) rfl ⟨rfl, rfl, rfl⟩ ⟨rfl, rfl, rfl⟩ (by decide) G13 h13 (by
    intro o ho
    simp only [List.mem_cons, List.not_mem_nil, or_false] at ho
    rcases ho with rfl | rfl | rfl
    all_goals exact ⟨rfl, _, rfl, by decide, by decide⟩) (fun a1 F1 m1 hk => ?_) fun b14 G14 h14 => ?_
  · refine mids_load (v := (.int .u8 a.lev)) (f := 77) (l := 78) (i := 9) (off := 55) (g := g) (tail := _) (gi := 73) (m := 76) rfl ⟨rfl, rfl, rfl⟩ ⟨rfl, rfl, rfl⟩ (by decide) (fld_isZeroAsk_9 g) (load_one c_lev _ Tryd.underlying5 rfl) a1 F1 m1 fun a2 F2 m2 e2 => ?_
    refine mids_next (l := 0) (e := 79) (u := .bool z_lev) (gi := 73) (m := 76) rfl ⟨rfl, rfl⟩ (by decide) a2 F2 m2 (by have e' := eval_getD e2; go_simp) fun a4 F4 m4 e4 _ => ?_
    exact hk a4 F4 m4 e4
  clear G13 h13
  refine chain (gi := 78) (p := 80) (m := 81) (e := 84) (q := 85) (t := z_dur) (mids := [_, _, _]) rfl ⟨rfl, rfl, rfl⟩ ⟨rfl, rfl, rfl⟩ (by decide) G14 h14 (by
    intro o ho
    simp only [List.mem_cons, List.not_mem_nil, or_false] at ho
    rcases ho with rfl | rfl | rfl
    all_goals exact ⟨rfl, _, rfl, by decide, by decide⟩) (fun a1 F1 m1 hk => ?_) fun b15 G15 h15 => ?_
  · refine mids_load (v := (.int .u8 a.dur)) (f := 82) (l := 83) (i := 10) (off := 56) (g := g) (tail := _) (gi := 78) (m := 81) rfl ⟨rfl, rfl, rfl⟩ ⟨rfl, rfl, rfl⟩ (by decide) (fld_isZeroAsk_10 g) (load_one c_dur _ Tryd.underlying5 rfl) a1 F1 m1 fun a2 F2 m2 e2 => ?_
    refine mids_next (l := 0) (e := 84) (u := .bool z_dur) (gi := 78) (m := 81) rfl ⟨rfl, rfl⟩ (by decide) a2 F2 m2 (by have e' := eval_getD e2; go_simp) fun a4 F4 m4 e4 _ => ?_
    exact hk a4 F4 m4 e4
  clear G14 h14
  refine chain (gi := 83) (p := 85) (m := 86) (e := 89) (q := 90) (t := z_file) (mids := [_, _, _]) rfl ⟨rfl, rfl, rfl⟩ ⟨rfl, rfl, rfl⟩ (by decide) G15 h15 (by
    intro o ho
    simp only [List.mem_cons, List.not_mem_nil, or_false] at ho
    rcases ho with rfl | rfl | rfl
    all_goals exact ⟨rfl, _, rfl, by decide, by decide⟩) (fun a1 F1 m1 hk => ?_) fun b16 G16 h16 => ?_
  · refine mids_load (v := (.int .u64 a.file)) (f := 87) (l := 88) (i := 11) (off := 57) (g := g) (tail := _) (gi := 83) (m := 86) rfl ⟨rfl, rfl, rfl⟩ ⟨rfl, rfl, rfl⟩ (by decide) (fld_isZeroAsk_11 g) (load_one c_file _ Tryd.underlying28 rfl) a1 F1 m1 fun a2 F2 m2 e2 => ?_
    refine mids_next (l := 0) (e := 89) (u := .bool z_file) (gi := 83) (m := 86) rfl ⟨rfl, rfl⟩ (by decide) a2 F2 m2 (by have e' := eval_getD e2; go_simp) fun a4 F4 m4 e4 _ => ?_
    exact hk a4 F4 m4 e4
  clear G15 h15
  refine chain (gi := 88) (p := 90) (m := 91) (e := 94) (q := 95) (t := z_at_) (mids := [_, _, _]) rfl ⟨rfl, rfl, rfl⟩ ⟨rfl, rfl, rfl⟩ (by decide) G16 h16 (by
    intro o ho
    simp only [List.mem_cons, List.not_mem_nil, or_false] at ho
    rcases ho with rfl | rfl | rfl
    all_goals exact ⟨rfl, _, rfl, by decide, by decide⟩) (fun a1 F1 m1 hk => ?_) fun b17 G17 h17 => ?_
  · refine mids_load (v := (.int .u64 a.at_)) (f := 92) (l := 93) (i := 13) (off := 59) (g := g) (tail := _) (gi := 88) (m := 91) rfl ⟨rfl, rfl, rfl⟩ ⟨rfl, rfl, rfl⟩ (by decide) (fld_isZeroAsk_13 g) (load_one c_at_ _ Tryd.underlying28 rfl) a1 F1 m1 fun a2 F2 m2 e2 => ?_
    refine mids_next (l := 0) (e := 94) (u := .bool z_at_) (gi := 88) (m := 91) rfl ⟨rfl, rfl⟩ (by decide) a2 F2 m2 (by have e' := eval_getD e2; go_simp) fun a4 F4 m4 e4 _ => ?_
    exact hk a4 F4 m4 e4
  clear G16 h16
  refine chain (gi := 93) (p := 95) (m := 96) (e := 99) (q := 100) (t := z_n) (mids := [_, _, _]) rfl ⟨rfl, rfl, rfl⟩ ⟨rfl, rfl, rfl⟩ (by decide) G17 h17 (by
    intro o ho
    simp only [List.mem_cons, List.not_mem_nil, or_false] at ho
    rcases ho with rfl | rfl | rfl
    all_goals exact ⟨rfl, _, rfl, by decide, by decide⟩) (fun a1 F1 m1 hk => ?_) fun b18 G18 h18 => ?_
  · refine mids_load (v := (.int .u32 a.n)) (f := 97) (l := 98) (i := 14) (off := 60) (g := g) (tail := _) (gi := 93) (m := 96) rfl ⟨rfl, rfl, rfl⟩ ⟨rfl, rfl, rfl⟩ (by decide) (fld_isZeroAsk_14 g) (load_one c_n _ Tryd.underlying27 rfl) a1 F1 m1 fun a2 F2 m2 e2 => ?_
    refine mids_next (l := 0) (e := 99) (u := .bool z_n) (gi := 93) (m := 96) rfl ⟨rfl, rfl⟩ (by decide) a2 F2 m2 (by have e' := eval_getD e2; go_simp) fun a4 F4 m4 e4 _ => ?_
    exact hk a4 F4 m4 e4
  clear G17 h17
  refine chain (gi := 98) (p := 100) (m := 101) (e := 104) (q := 105) (t := z_most) (mids := [_, _, _]) rfl ⟨rfl, rfl, rfl⟩ ⟨rfl, rfl, rfl⟩ (by decide) G18 h18 (by
    intro o ho
    simp only [List.mem_cons, List.not_mem_nil, or_false] at ho
    rcases ho with rfl | rfl | rfl
    all_goals exact ⟨rfl, _, rfl, by decide, by decide⟩) (fun a1 F1 m1 hk => ?_) fun b19 G19 h19 => ?_
  · refine mids_load (v := (.int .u16 a.most)) (f := 102) (l := 103) (i := 17) (off := 63) (g := g) (tail := _) (gi := 98) (m := 101) rfl ⟨rfl, rfl, rfl⟩ ⟨rfl, rfl, rfl⟩ (by decide) (fld_isZeroAsk_17 g) (load_one c_most _ Tryd.underlying22 rfl) a1 F1 m1 fun a2 F2 m2 e2 => ?_
    refine mids_next (l := 0) (e := 104) (u := .bool z_most) (gi := 98) (m := 101) rfl ⟨rfl, rfl⟩ (by decide) a2 F2 m2 (by have e' := eval_getD e2; go_simp) fun a4 F4 m4 e4 _ => ?_
    exact hk a4 F4 m4 e4
  clear G18 h18
  refine chain (gi := 103) (p := 105) (m := 106) (e := 109) (q := 110) (t := z_cls) (mids := [_, _, _]) rfl ⟨rfl, rfl, rfl⟩ ⟨rfl, rfl, rfl⟩ (by decide) G19 h19 (by
    intro o ho
    simp only [List.mem_cons, List.not_mem_nil, or_false] at ho
    rcases ho with rfl | rfl | rfl
    all_goals exact ⟨rfl, _, rfl, by decide, by decide⟩) (fun a1 F1 m1 hk => ?_) fun b20 G20 h20 => ?_
  · refine mids_load (v := (.int .u16 a.cls)) (f := 107) (l := 108) (i := 20) (off := 66) (g := g) (tail := _) (gi := 103) (m := 106) rfl ⟨rfl, rfl, rfl⟩ ⟨rfl, rfl, rfl⟩ (by decide) (fld_isZeroAsk_20 g) (load_one c_cls _ Tryd.underlying22 rfl) a1 F1 m1 fun a2 F2 m2 e2 => ?_
    refine mids_next (l := 0) (e := 109) (u := .bool z_cls) (gi := 103) (m := 106) rfl ⟨rfl, rfl⟩ (by decide) a2 F2 m2 (by have e' := eval_getD e2; go_simp) fun a4 F4 m4 e4 _ => ?_
    exact hk a4 F4 m4 e4
  clear G19 h19
  refine chain (gi := 108) (p := 110) (m := 111) (e := 114) (q := 115) (t := z_siz) (mids := [_, _, _]) rfl ⟨rfl, rfl, rfl⟩ ⟨rfl, rfl, rfl⟩ (by decide) G20 h20 (by
    intro o ho
    simp only [List.mem_cons, List.not_mem_nil, or_false] at ho
    rcases ho with rfl | rfl | rfl
    all_goals exact ⟨rfl, _, rfl, by decide, by decide⟩) (fun a1 F1 m1 hk => ?_) fun b21 G21 h21 => ?_
  · refine mids_load (v := (.int .u64 a.siz)) (f := 112) (l := 113) (i := 21) (off := 67) (g := g) (tail := _) (gi := 108) (m := 111) rfl ⟨rfl, rfl, rfl⟩ ⟨rfl, rfl, rfl⟩ (by decide) (fld_isZeroAsk_21 g) (load_one c_siz _ Tryd.underlying28 rfl) a1 F1 m1 fun a2 F2 m2 e2 => ?_
    refine mids_next (l := 0) (e := 114) (u := .bool z_siz) (gi := 108) (m := 111) rfl ⟨rfl, rfl⟩ (by decide) a2 F2 m2 (by have e' := eval_getD e2; go_simp) fun a4 F4 m4 e4 _ => ?_
    exact hk a4 F4 m4 e4
  clear G20 h20
  refine chain (gi := 113) (p := 115) (m := 116) (e := 119) (q := 120) (t := z_on) (mids := [_, _, _]) rfl ⟨rfl, rfl, rfl⟩ ⟨rfl, rfl, rfl⟩ (by decide) G21 h21 (by
    intro o ho
    simp only [List.mem_cons, List.not_mem_nil, or_false] at ho
    rcases ho with rfl | rfl | rfl
    all_goals exact ⟨rfl, _, rfl, by decide, by decide⟩) (fun a1 F1 m1 hk => ?_) fun b22 G22 h22 => ?_
  · refine mids_load (v := (.bool a.on)) (f := 117) (l := 118) (i := 22) (off := 68) (g := g) (tail := _) (gi := 113) (m := 116) rfl ⟨rfl, rfl, rfl⟩ ⟨rfl, rfl, rfl⟩ (by decide) (fld_isZeroAsk_22 g) (load_one c_on _ Tryd.underlying4 rfl) a1 F1 m1 fun a2 F2 m2 e2 => ?_
    refine mids_next (l := 0) (e := 119) (u := .bool z_on) (gi := 113) (m := 116) rfl ⟨rfl, rfl⟩ (by decide) a2 F2 m2 (by have e' := eval_getD e2; go_simp) fun a4 F4 m4 e4 _ => ?_
    exact hk a4 F4 m4 e4
  clear G21 h21
  have HT1 := HT.out
  rw [HT1] at h22
  refine wpList_yields (v := .bool r) (yieldsIf_asg (by simp [Region.wanted]) (.tmp 120) rfl _ h22) ?_
  refine wpList_nil (hret _ _ (wp_ret ?_))
  have F9 := G22.put (d := 2) (v := .bool r) (by decide)
  refine bodyPost_ret (results_tmp rfl _ _ _) F9.df ?_
  refine ⟨?_, L1.out⟩
  have e9 : (b22.put (some 2) (.bool r)).eval (.tmp 2) = .bool r := put_self (by rw [G22.size]; decide)
  exact congrArg Ending.returned e9
end Go.Proofs.YtdlcjobahdmapaaDoor

namespace Go.Proofs.YtdlcjobahdmapaaDoor
set_option linter.all false
open Go.RowKit
theorem World.setCells_only (g : Nat) : ∀ (vs : List Value) (o : Nat) (w : World), Only g w (w.setCells g o vs)
  | [], _, w => Only.refl g w
  | v :: r, o, w => by
    have h1 := only_setCell w g o v
    have h2 := World.setCells_only g r (o + 1) (w.setCell ⟨g, o, none⟩ v)
    exact ⟨h2.os.trans h1.os, h2.tape.trans h1.tape, h2.output.trans h1.output, h2.size.trans h1.size, fun i hi => (h2.rest i hi).trans (h1.rest i hi)⟩
theorem Blk.setCells {g : Nat} {T : TypeId} : ∀ (vs : List Value) (o : Nat) (w : World) (cs : List Value), Blk w g T cs → o + vs.length ≤ cs.length → Blk (w.setCells g o vs) g T (cs.take o ++ (vs ++ cs.drop (o + vs.length)))
  | [], o, w, cs, h, _ => by
    show Blk w g T _
    rw [List.nil_append, List.length_nil, Nat.add_zero, List.take_append_drop]
    exact h
  | v :: r, o, w, cs, h, hl => by
    have hl' : o + 1 + r.length ≤ cs.length := by simp at hl; omega
    have h1 := h.set o v
    have h2 := Blk.setCells r (o + 1) _ _ h1 (by rw [List.length_set]; exact hl')
    have e : (cs.set o v).take (o + 1) ++ (r ++ (cs.set o v).drop (o + 1 + r.length)) = cs.take o ++ ((v :: r) ++ cs.drop (o + (v :: r).length)) := by
      have ho : o < cs.length := by omega
      have e1 : (cs.set o v).take (o + 1) = cs.take o ++ [v] := by
        rw [List.take_succ_eq_append_getElem (by rw [List.length_set]; exact ho), List.take_set_of_le (Nat.le_refl o)]
        simp
      have e2 : (cs.set o v).drop (o + 1 + r.length) = cs.drop (o + (v :: r).length) := by
        rw [List.drop_set_of_lt (by omega), List.length_cons]
        congr 1
        omega
      rw [e1, e2]
      simp
    rw [e] at h2
    exact h2
section
variable {P : Program} {ops : Array Oper} {rest : List Oper} {o : Oper} {a : Act} {w : World} {Q : Exit → Act → World → Prop}
theorem there_blk {g : Nat} {T : TypeId} {cs : List Value} (h : Blk w g T cs) (i n : Nat) (hn : i + n ≤ cs.length) : w.there g i n := fun j hj => by
  refine ⟨?_, h.frozen _⟩
  rw [h.cell]
  have : i + j < cs.length := by omega
  simp [this]
/-- an array into the midst -/
theorem wpList_store_midb (hgd : o.guard = none) (ty : TypeId) (x y : Operand) (ho : o.op = .store ty x y) (g i : Nat) (hx : a.eval x = .pointer (some ⟨g, i, none⟩)) (T : TypeId) (cs vs : List Value) (hy : a.eval y = .agg vs.toArray)
    (hA : Hid (Blk w g T cs)) (n : Nat) (hi : (P.info? ty).map (·.size) = some n) (hn : Hid (vs.length = n)) (hl : Hid (i + n ≤ cs.length)) (h1 : Hid (∀ v ∈ vs, v.oneCell' = true))
    (h : ∀ w', Hid (Blk w' g T (cs.take i ++ (vs ++ cs.drop (i + n)))) → Hid (Only g w w') → g < w'.heap.size → wpList P ops Q rest a w') (hd : o.dst = none := by rfl) : wpList P ops Q (o :: rest) a w := by
  have hp : a.put o.dst undef = a := by rw [hd]; rfl
  have hnn := hn.out
  refine wpList_store_mid hgd ty x y ho g i vs.toArray hx hy (there_blk hA.out i _ (by have := hl.out; simp; omega)) (by rw [hi]; simp [hnn]) (all_oneCell_toArray h1.out) ?_
  rw [hp]
  have hb := Blk.setCells vs i w cs hA.out (by have := hl.out; omega)
  rw [hnn] at hb
  have hO := World.setCells_only g vs i w
  refine h _ hb hO ?_
  have := hO.size
  rw [show (w.setCells g i vs.toArray.toList) = w.setCells g i vs from rfl, this]
  exact hA.out.lt
end
/-- the whole of a variable out of its block, where the operation's guard is met -/
theorem wpList_load_want {P : Program} {ops : Array Oper} {rest : List Oper} {o : Oper} {a : Act} {w : World} {Q : Exit → Act → World → Prop} (hw : Region.wanted o (yielded ops a.tmps) = true) (T : TypeId) (x : Operand) (ho : o.op = .load T x) (g : Nat) (hx : a.eval x = .pointer (some ⟨g, 0, none⟩)) (T' : TypeId) (cs : List Value)
    (hA : Hid (Blk w g T' cs)) (n : Nat) (d : TypeDesc) (hu : P.underlying T = some d) (hd : (match d with | .struct _ | .array _ _ => true | _ => false) = true) (hi : (P.info? T).map (·.size) = some n) (hn : Hid (cs.length = n))
    (h : wpList P ops Q rest (a.put o.dst (.agg cs.toArray)) w) : wpList P ops Q (o :: rest) a w :=
  wpList_step fun K hK => by
    rw [if_pos hw]
    exact wp_load_row T x ho g hx T' _ (0, 0) d hA.out hu hd (by rw [hi]; have := hn.out; simp [this]) (hK _ _ h)
end Go.Proofs.YtdlcjobahdmapaaDoor

namespace Go.Proofs.YtdlcjobahdmapaaDoor
set_option linter.all false
open Go.RowKit
def pick (d : Nat × Nat) : Int × Nat := if d.1 = 65533 ∧ d.2 = 1 then (0, 0) else ((d.1 : Int), d.2)
end Go.Proofs.YtdlcjobahdmapaaDoor

namespace Go.Proofs.YtdlcjobahdmapaaDoor
set_option linter.all false
open Go.RowKit
theorem OwnK.holds {w : World} {base : Nat} {v : Value} {xs : List Int} (h : OwnK .u8 5 w base v xs) (hx : Bytes xs) (hn : xs.length ≤ 281474976710656) :
    ∃ A c, v = .slice A xs.length c ∧ Holds w w.heap.size A xs.length c xs := Own.holds (base := base) h hx hn
end Go.Proofs.YtdlcjobahdmapaaDoor

namespace Go.Proofs.YtdlcjobahdmapaaDoor
set_option linter.all false
open Go.RowKit
/-- two places of a row of bytes, as they are read -/
theorem Holds.two {w : World} {B n c : Nat} {A : Option Addr} {xs : List Int} (h : Holds w B A n c xs) {k : Nat} (hk : k < n) :
    ∃ b off, A = some ⟨b, off, none⟩ ∧ b < B ∧ ∀ i, i < n → w.cell? ⟨b, off + i, none⟩ = some (.int .u8 (xs.getD i 0)) := h.cells (by omega)
end Go.Proofs.YtdlcjobahdmapaaDoor

namespace Go.Proofs.YtdlcjobahdmapaaDoor
set_option linter.all false
open Go.RowKit
set_option linter.unusedVariables false
def knownT (c : Int) : Bool := decide (c ≤ 4) || c == 13
end Go.Proofs.YtdlcjobahdmapaaDoor

namespace Go.Proofs.YtdlcjobahdmapaaDoor
set_option linter.all false
open Go.RowKit
set_option linter.unusedVariables false
set_option maxRecDepth 100000
theorem results_cell_two {P : Program} {fn : Func} {p q : Tmp} {ty : TypeId} (h : fn.results = #[.cell p ty, .tmp q]) (tmps : Array Value) (w : World) (g : Nat) (t : TypeId) (cs : Array Value) (fr : Nat × Nat) (d : TypeDesc)
    (hp : tmps.getD p undef = .pointer (some ⟨g, 0, none⟩)) (hg : w.heap[g]? = some (.cells cs t fr))
    (hu : P.underlying ty = some d) (hd : (match d with | .struct _ | .array _ _ => true | _ => false) = true) (hi : (P.info? ty).map (·.size) = some cs.size) {v : Value} (hv : tmps.getD q undef = v) :
    (results fn tmps).run P w = .ok (.tuple #[.agg cs, v]) w := by
  have hp' : tmps[p]?.getD undef = .pointer (some ⟨g, 0, none⟩) := by simpa using hp
  have hv' : tmps[q]?.getD undef = v := by simpa using hv
  simp [results, h, hp', hv', asAddr, run_loadVar_row w g t ty cs fr d hg hu hd hi]
def besideAsk (c : Int) (a : AskV) : AskV := if c = 0 then { a with dial := [], guid := List.replicate 16 0 } else if c = 1 then { a with proof := List.replicate 32 0, user := .empty } else if c = 3 then { a with share := .empty } else a
theorem besideAsk_ok {c : Int} {a : AskV} (k : a.ok) : (besideAsk c a).ok := by
  unfold besideAsk
  split
  · exact ⟨fun x h => (by cases h), rfl, Bytes.zeros 16, k.plen, k.pbyte, k.acc, k.shr, k.way, k.opt, k.lev, k.dur, k.file, k.at_, k.n, k.data, k.locks, k.most, k.cls, k.siz⟩
  · split
    · exact ⟨k.dial, k.glen, k.gbyte, rfl, Bytes.zeros 32, k.acc, k.shr, k.way, k.opt, k.lev, k.dur, k.file, k.at_, k.n, k.data, k.locks, k.most, k.cls, k.siz⟩
    · split
      · exact ⟨k.dial, k.glen, k.gbyte, k.plen, k.pbyte, k.acc, k.shr, k.way, k.opt, k.lev, k.dur, k.file, k.at_, k.n, k.data, k.locks, k.most, k.cls, k.siz⟩
      · exact k
section
variable {vd vx vl ve : Value} {a : AskV} {s : SayV}
theorem acells_dial (u : Value) (xs : List Int) : (acells vd vx vl a).set 0 u = acells u vx vl { a with dial := xs } := rfl
theorem acells_guidS (k : a.ok) (xs : List Int) : (acells vd vx vl a).take 1 ++ (xs.map (Value.int .u8) ++ (acells vd vx vl a).drop (1 + 16)) = acells vd vx vl { a with guid := xs } := by
  unfold acells
  rw [show 1 + 16 = 16 + 1 from rfl, List.drop_succ_cons, List.drop_left' (by rw [List.length_map]; exact k.glen)]
  rfl
theorem acells_proofS (k : a.ok) (xs : List Int) : (acells vd vx vl a).take 17 ++ (xs.map (Value.int .u8) ++ (acells vd vx vl a).drop (17 + 32)) = acells vd vx vl { a with proof := xs } := by
  unfold acells
  rw [show 17 + 32 = 48 + 1 from rfl, List.drop_succ_cons, show 17 = 16 + 1 from rfl, List.take_succ_cons, List.take_left' (by rw [List.length_map]; exact k.glen), show 48 = 16 + 32 from rfl, ← List.drop_drop, List.drop_left' (by rw [List.length_map]; exact k.glen), List.drop_left' (by rw [List.length_map]; exact k.plen)]
  simp [atail]
theorem acells_user (k : a.ok) (u : ByteArray) : (acells vd vx vl a).set 49 (.string u) = acells vd vx vl { a with user := u } := (acells_set k 0 (.string u)).trans rfl
theorem acells_share (k : a.ok) (u : ByteArray) : (acells vd vx vl a).set 50 (.string u) = acells vd vx vl { a with share := u } := (acells_set k 1 (.string u)).trans rfl
end
def askBesidePost (w : World) (c : Int) (a : AskV) (e : Ending) (w' : World) : Prop := ∃ ds, e = .returned (.tuple #[.agg ds.toArray, .bool (knownT c)]) ∧ AskIs w' w'.heap.size ds (if knownT c = true then besideAsk c a else zeroAsk) ∧ Below w.heap.size w w'
set_option maxHeartbeats 4000000 in
theorem askBeside_any (w : World) (c : Int) (cs : List Value) (a : AskV) (hc : 0 ≤ c ∧ c ≤ 65535) (ka : a.ok) (ha : AskIs w w.heap.size cs a) :
    Calls Tryd.prog 80 #[.int .u16 c, .agg cs.toArray] w (askBesidePost w c a) := by
  have HL := Lib.hid (ha.len ka)
  have HO1 := Lib.hid ha.one
  have ZH := Lib.hid zero_ask
  have BZ := built_ask
  have HZ : Hid ((acells (.slice none 0 0) (.slice none 0 0) (.slice none 0 0) zeroAsk).length = 69) := acells_len zeroAsk_ok
  have HZ1 : Hid (∀ v ∈ acells (.slice none 0 0) (.slice none 0 0) (.slice none 0 0) zeroAsk, v.oneCell' = true) := (zeroAsk_is w 0).one
  have HA := Lib.hid ha
  have HQ : Hid (∀ e w', (∃ ds, e = .returned (.tuple #[.agg ds.toArray, .bool (knownT c)]) ∧ AskIs w' w'.heap.size ds (if knownT c = true then besideAsk c a else zeroAsk) ∧ Below w.heap.size w w') → askBesidePost w c a e w') := fun _ _ h => h
  obtain ⟨zs, hzs⟩ : ∃ zs, zs = acells (.slice none 0 0) (.slice none 0 0) (.slice none 0 0) zeroAsk := ⟨_, rfl⟩
  have HZI : Hid (∀ w' : World, AskIs w' w'.heap.size zs zeroAsk) := by rw [hzs]; exact fun w' => zeroAsk_is w' _
  rw [← hzs] at ZH BZ HZ HZ1
  clear hzs
  by_cases h0 : c = 0
  · subst h0
    have e0 : (if knownT 0 = true then besideAsk 0 a else zeroAsk) = { a with dial := [], guid := List.replicate 16 0 } := rfl
    rw [e0, show knownT 0 = true from rfl] at HQ
    clear e0
    obtain ⟨A1, A2, A3, X1, X2, X3, M1, M2, M3, rfl, hA, hX, hM⟩ := ha
    have HI : Hid (∀ w' : World, Below w.heap.size w w' → AskIs w' w'.heap.size (acells (.slice none 0 0) (.slice X1 X2 X3) (.slice M1 M2 M3) { a with dial := [], guid := List.replicate 16 0 }) ({ a with dial := [], guid := List.replicate 16 0 })) := fun w' hb => ⟨none, 0, 0, X1, X2, X3, M1, M2, M3, rfl, HoldsF.nil _ _ _, hX.over hb, hM.over hb⟩
    have HN : Hid ((acells (.slice none 0 0) (.slice X1 X2 X3) (.slice M1 M2 M3) { a with dial := [], guid := List.replicate 16 0 }).length = 69) := acells_len (by have := besideAsk_ok (c := 0) ka; exact this)
    have HN1 : Hid (∀ v ∈ acells (.slice none 0 0) (.slice X1 X2 X3) (.slice M1 M2 M3) { a with dial := [], guid := List.replicate 16 0 }, v.oneCell' = true) := acells_one rfl rfl rfl
    have HE0 : Hid ((acells (.slice A1 A2 A3) (.slice X1 X2 X3) (.slice M1 M2 M3) a).set 0 (.slice none 0 0) = acells (.slice none 0 0) (.slice X1 X2 X3) (.slice M1 M2 M3) { a with dial := [] }) := acells_dial _ []
    have HE1 : Hid ((acells (.slice none 0 0) (.slice X1 X2 X3) (.slice M1 M2 M3) { a with dial := [] }).take 1 ++ ((List.replicate 16 (0 : Int)).map (Value.int .u8) ++ (acells (.slice none 0 0) (.slice X1 X2 X3) (.slice M1 M2 M3) { a with dial := [] }).drop (1 + 16)) = acells (.slice none 0 0) (.slice X1 X2 X3) (.slice M1 M2 M3) { a with dial := [], guid := List.replicate 16 0 }) := acells_guidS (a := { a with dial := [] }) ⟨fun x h => (by cases h), ka.glen, ka.gbyte, ka.plen, ka.pbyte, ka.acc, ka.shr, ka.way, ka.opt, ka.lev, ka.dur, ka.file, ka.at_, ka.n, ka.data, ka.locks, ka.most, ka.cls, ka.siz⟩ (List.replicate 16 0)
    have HN0 : Hid (0 < (acells (.slice A1 A2 A3) (.slice X1 X2 X3) (.slice M1 M2 M3) a).length) := by show _ < _; simp [acells, atail, ka.glen, ka.plen]
    have HF : Hid (1 + 16 ≤ (acells (.slice none 0 0) (.slice X1 X2 X3) (.slice M1 M2 M3) { a with dial := [] }).length) := by show _ ≤ _; simp [acells, atail, ka.glen, ka.plen]
    have HLZ : Hid (((List.replicate 16 (0 : Int)).map (Value.int .u8)).length = 16) := by show _ = _; simp
    have OZ : Hid (∀ v ∈ (List.replicate 16 (0 : Int)).map (Value.int .u8), v.oneCell' = true) := fun v hv => mem_nums hv
    have BL := built_guid
    obtain ⟨lz, hlz⟩ : ∃ z, z = (List.replicate 16 (0 : Int)).map (Value.int .u8) := ⟨_, rfl⟩
    rw [← hlz] at HLZ OZ BL HE1
    clear hlz
    obtain ⟨cs, hcs⟩ : ∃ c, c = acells (.slice A1 A2 A3) (.slice X1 X2 X3) (.slice M1 M2 M3) a := ⟨_, rfl⟩
    rw [← hcs] at HL HO1 HE0 HN0 ⊢
    clear hcs HA hA hX hM
    obtain ⟨d0, hd0⟩ : ∃ c, c = acells (.slice none 0 0) (.slice X1 X2 X3) (.slice M1 M2 M3) { a with dial := [] } := ⟨_, rfl⟩
    rw [← hd0] at HE0 HE1 HF
    clear hd0
    obtain ⟨d1, hd1⟩ : ∃ c, c = acells (.slice none 0 0) (.slice X1 X2 X3) (.slice M1 M2 M3) { a with dial := [], guid := List.replicate 16 0 } := ⟨_, rfl⟩
    rw [← hd1] at HE1 HI HN HN1
    clear hd1
    go_enter Tryd.func80, Tryd.ntmps80
    go_wp2_with (first
      | ((with_reducible show wpList _ _ _ (⟨some 3, _, _, _, _, _⟩ :: _) _ _); refine wpList_box_blk rfl _ (.tmp 1) rfl cs rfl ?_; intro g w1 hg1 hg2 K1 L1)
      | ((with_reducible show wpList _ _ _ (⟨some 4, _, _, _, _, _⟩ :: _) _ _); refine wpList_alloc_blk rfl _ rfl zs _ ZH ?_; intro h w2 hg3 hg4 Z2 L02; have G2 := Lib.hid (K1.out.over L02.out); have L2 := Lib.hid (step L1.out L02.out); have hgh : g ≠ h := (by omega); have hhw : w.heap.size ≤ h := (by have := L1.out.size; omega))
      | ((with_reducible show wpList _ _ _ (⟨none, .store _ (.tmp 11) _, _, _, _, _⟩ :: _) _ _); refine wpList_store_fld rfl _ (.tmp 11) (.const (.slice none 0 0)) rfl g 0 rfl _ cs (.slice none 0 0) rfl G2 HN0 (by kernel_rfl) rfl ?_; intro w3 K3 O3 q3; rw [HE0.out] at K3; have Z3 := Lib.hid (Z2.out.only O3.out (Ne.symm hgh)); have L3 : Hid (Below w.heap.size w w3) := below_only L2.out O3.out hg1)
      | ((with_reducible show wpList _ _ _ (⟨none, .store _ (.tmp 12) _, _, _, _, _⟩ :: _) _ _); refine wpList_store_midb rfl _ (.tmp 12) (.tmp 10) rfl g 1 rfl _ d0 lz rfl K3 16 size_guid HLZ HF OZ ?_; intro w4 K4 O4 q4; rw [HE1.out] at K4; have Z4 := Lib.hid (Z3.out.only O4.out (Ne.symm hgh)); have L4 : Hid (Below w.heap.size w w4) := below_only L3.out O4.out hg1)
      | ((with_reducible show wpList _ _ _ (⟨some 10, _, _, _, _, _⟩ :: _) _ _); refine wpList_build_none rfl _ rfl lz BL ?_)
      | ((with_reducible show wpList _ _ _ (⟨some 25, _, _, _, _, _⟩ :: _) _ _); refine wpList_load_blk rfl _ (.tmp 3) rfl g rfl _ d1 K4 69 _ Tryd.underlying32 rfl size_ask HN ?_)
      | ((with_reducible show wpList _ _ _ (⟨none, .store _ (.tmp 4) _, _, _, _, _⟩ :: _) _ _); refine wpList_store_blk rfl _ (.tmp 4) (.tmp 25) rfl h rfl _ zs d1 rfl Z4 69 size_ask HZ HN HN1 ?_; intro w9 K9 O9 hg9)
      | fail)
    have L9 := Lib.hid (below_only L4.out O9.out hhw)
    refine bodyPost_ret (v := .tuple #[.agg d1.toArray, .bool true]) ?_ rfl (HQ.out _ _ ⟨_, rfl, HI.out w9 L9.out, L9.out⟩)
    exact results_cell_two rfl _ _ h _ _ (0, 0) _ rfl K9.out Tryd.underlying32 rfl (by rw [size_ask]; have := HN.out; simp [this]) rfl
  by_cases h1 : c = 1
  · subst h1
    have e0 : (if knownT 1 = true then besideAsk 1 a else zeroAsk) = { a with proof := List.replicate 32 0, user := .empty } := rfl
    rw [e0, show knownT 1 = true from rfl] at HQ
    clear e0
    obtain ⟨A1, A2, A3, X1, X2, X3, M1, M2, M3, rfl, hA, hX, hM⟩ := ha
    have HI : Hid (∀ w' : World, Below w.heap.size w w' → AskIs w' w'.heap.size (acells (.slice A1 A2 A3) (.slice X1 X2 X3) (.slice M1 M2 M3) { a with proof := List.replicate 32 0, user := .empty }) ({ a with proof := List.replicate 32 0, user := .empty })) := fun w' hb => ⟨A1, A2, A3, X1, X2, X3, M1, M2, M3, rfl, hA.over hb, hX.over hb, hM.over hb⟩
    have HN : Hid ((acells (.slice A1 A2 A3) (.slice X1 X2 X3) (.slice M1 M2 M3) { a with proof := List.replicate 32 0, user := .empty }).length = 69) := acells_len (by have := besideAsk_ok (c := 1) ka; exact this)
    have HN1 : Hid (∀ v ∈ acells (.slice A1 A2 A3) (.slice X1 X2 X3) (.slice M1 M2 M3) { a with proof := List.replicate 32 0, user := .empty }, v.oneCell' = true) := acells_one rfl rfl rfl
    have HE0 : Hid ((acells (.slice A1 A2 A3) (.slice X1 X2 X3) (.slice M1 M2 M3) a).take 17 ++ ((List.replicate 32 (0 : Int)).map (Value.int .u8) ++ (acells (.slice A1 A2 A3) (.slice X1 X2 X3) (.slice M1 M2 M3) a).drop (17 + 32)) = acells (.slice A1 A2 A3) (.slice X1 X2 X3) (.slice M1 M2 M3) { a with proof := List.replicate 32 0 }) := acells_proofS ka (List.replicate 32 0)
    have HE1 : Hid ((acells (.slice A1 A2 A3) (.slice X1 X2 X3) (.slice M1 M2 M3) { a with proof := List.replicate 32 0 }).set 49 (.string .empty) = acells (.slice A1 A2 A3) (.slice X1 X2 X3) (.slice M1 M2 M3) { a with proof := List.replicate 32 0, user := .empty }) := acells_user (a := { a with proof := List.replicate 32 0 }) ⟨ka.dial, ka.glen, ka.gbyte, rfl, Bytes.zeros 32, ka.acc, ka.shr, ka.way, ka.opt, ka.lev, ka.dur, ka.file, ka.at_, ka.n, ka.data, ka.locks, ka.most, ka.cls, ka.siz⟩ .empty
    have HF : Hid (17 + 32 ≤ (acells (.slice A1 A2 A3) (.slice X1 X2 X3) (.slice M1 M2 M3) a).length) := by show _ ≤ _; simp [acells, atail, ka.glen, ka.plen]
    have HN0 : Hid (49 < (acells (.slice A1 A2 A3) (.slice X1 X2 X3) (.slice M1 M2 M3) { a with proof := List.replicate 32 0 }).length) := by show _ < _; simp [acells, atail, ka.glen]
    have HLZ : Hid (((List.replicate 32 (0 : Int)).map (Value.int .u8)).length = 32) := by show _ = _; simp
    have OZ : Hid (∀ v ∈ (List.replicate 32 (0 : Int)).map (Value.int .u8), v.oneCell' = true) := fun v hv => mem_nums hv
    have BL := built_proof
    obtain ⟨lz, hlz⟩ : ∃ z, z = (List.replicate 32 (0 : Int)).map (Value.int .u8) := ⟨_, rfl⟩
    rw [← hlz] at HLZ OZ BL HE0
    clear hlz
    obtain ⟨cs, hcs⟩ : ∃ c, c = acells (.slice A1 A2 A3) (.slice X1 X2 X3) (.slice M1 M2 M3) a := ⟨_, rfl⟩
    rw [← hcs] at HL HO1 HE0 HF ⊢
    clear hcs HA hA hX hM
    obtain ⟨d0, hd0⟩ : ∃ c, c = acells (.slice A1 A2 A3) (.slice X1 X2 X3) (.slice M1 M2 M3) { a with proof := List.replicate 32 0 } := ⟨_, rfl⟩
    rw [← hd0] at HE0 HE1 HN0
    clear hd0
    obtain ⟨d1, hd1⟩ : ∃ c, c = acells (.slice A1 A2 A3) (.slice X1 X2 X3) (.slice M1 M2 M3) { a with proof := List.replicate 32 0, user := .empty } := ⟨_, rfl⟩
    rw [← hd1] at HE1 HI HN HN1
    clear hd1
    go_enter Tryd.func80, Tryd.ntmps80
    go_wp2_with (first
      | ((with_reducible show wpList _ _ _ (⟨some 3, _, _, _, _, _⟩ :: _) _ _); refine wpList_box_blk rfl _ (.tmp 1) rfl cs rfl ?_; intro g w1 hg1 hg2 K1 L1)
      | ((with_reducible show wpList _ _ _ (⟨some 4, _, _, _, _, _⟩ :: _) _ _); refine wpList_alloc_blk rfl _ rfl zs _ ZH ?_; intro h w2 hg3 hg4 Z2 L02; have G2 := Lib.hid (K1.out.over L02.out); have L2 := Lib.hid (step L1.out L02.out); have hgh : g ≠ h := (by omega); have hhw : w.heap.size ≤ h := (by have := L1.out.size; omega))
      | ((with_reducible show wpList _ _ _ (⟨none, .store _ (.tmp 16) _, _, _, _, _⟩ :: _) _ _); refine wpList_store_midb rfl _ (.tmp 16) (.tmp 15) rfl g 17 rfl _ cs lz rfl G2 32 size_proof HLZ HF OZ ?_; intro w3 K3 O3 q3; rw [HE0.out] at K3; have Z3 := Lib.hid (Z2.out.only O3.out (Ne.symm hgh)); have L3 : Hid (Below w.heap.size w w3) := below_only L2.out O3.out hg1)
      | ((with_reducible show wpList _ _ _ (⟨none, .store _ (.tmp 17) _, _, _, _, _⟩ :: _) _ _); refine wpList_store_fld rfl _ (.tmp 17) (.const (.string .empty)) rfl g 49 rfl _ d0 (.string .empty) rfl K3 HN0 (by kernel_rfl) rfl ?_; intro w4 K4 O4 q4; rw [HE1.out] at K4; have Z4 := Lib.hid (Z3.out.only O4.out (Ne.symm hgh)); have L4 : Hid (Below w.heap.size w w4) := below_only L3.out O4.out hg1)
      | ((with_reducible show wpList _ _ _ (⟨some 15, _, _, _, _, _⟩ :: _) _ _); refine wpList_build_none rfl _ rfl lz BL ?_)
      | ((with_reducible show wpList _ _ _ (⟨some 25, _, _, _, _, _⟩ :: _) _ _); refine wpList_load_blk rfl _ (.tmp 3) rfl g rfl _ d1 K4 69 _ Tryd.underlying32 rfl size_ask HN ?_)
      | ((with_reducible show wpList _ _ _ (⟨none, .store _ (.tmp 4) _, _, _, _, _⟩ :: _) _ _); refine wpList_store_blk rfl _ (.tmp 4) (.tmp 25) rfl h rfl _ zs d1 rfl Z4 69 size_ask HZ HN HN1 ?_; intro w9 K9 O9 hg9)
      | fail)
    have L9 := Lib.hid (below_only L4.out O9.out hhw)
    refine bodyPost_ret (v := .tuple #[.agg d1.toArray, .bool true]) ?_ rfl (HQ.out _ _ ⟨_, rfl, HI.out w9 L9.out, L9.out⟩)
    exact results_cell_two rfl _ _ h _ _ (0, 0) _ rfl K9.out Tryd.underlying32 rfl (by rw [size_ask]; have := HN.out; simp [this]) rfl
  by_cases h3 : c = 3
  · subst h3
    have e0 : (if knownT 3 = true then besideAsk 3 a else zeroAsk) = { a with share := .empty } := rfl
    rw [e0, show knownT 3 = true from rfl] at HQ
    clear e0
    obtain ⟨A1, A2, A3, X1, X2, X3, M1, M2, M3, rfl, hA, hX, hM⟩ := ha
    have HI : Hid (∀ w' : World, Below w.heap.size w w' → AskIs w' w'.heap.size (acells (.slice A1 A2 A3) (.slice X1 X2 X3) (.slice M1 M2 M3) { a with share := .empty }) ({ a with share := .empty })) := fun w' hb => ⟨A1, A2, A3, X1, X2, X3, M1, M2, M3, rfl, hA.over hb, hX.over hb, hM.over hb⟩
    have HN : Hid ((acells (.slice A1 A2 A3) (.slice X1 X2 X3) (.slice M1 M2 M3) { a with share := .empty }).length = 69) := acells_len (by have := besideAsk_ok (c := 3) ka; exact this)
    have HN1 : Hid (∀ v ∈ acells (.slice A1 A2 A3) (.slice X1 X2 X3) (.slice M1 M2 M3) { a with share := .empty }, v.oneCell' = true) := acells_one rfl rfl rfl
    have HE0 : Hid ((acells (.slice A1 A2 A3) (.slice X1 X2 X3) (.slice M1 M2 M3) a).set 50 (.string .empty) = acells (.slice A1 A2 A3) (.slice X1 X2 X3) (.slice M1 M2 M3) { a with share := .empty }) := acells_share ka .empty
    have HN0 : Hid (50 < (acells (.slice A1 A2 A3) (.slice X1 X2 X3) (.slice M1 M2 M3) a).length) := by show _ < _; simp [acells, atail, ka.glen, ka.plen]
    obtain ⟨cs, hcs⟩ : ∃ c, c = acells (.slice A1 A2 A3) (.slice X1 X2 X3) (.slice M1 M2 M3) a := ⟨_, rfl⟩
    rw [← hcs] at HL HO1 HE0 HN0 ⊢
    clear hcs HA hA hX hM
    obtain ⟨d0, hd0⟩ : ∃ c, c = acells (.slice A1 A2 A3) (.slice X1 X2 X3) (.slice M1 M2 M3) { a with share := .empty } := ⟨_, rfl⟩
    rw [← hd0] at HE0 HI HN HN1
    clear hd0
    go_enter Tryd.func80, Tryd.ntmps80
    go_wp2_with (first
      | ((with_reducible show wpList _ _ _ (⟨some 3, _, _, _, _, _⟩ :: _) _ _); refine wpList_box_blk rfl _ (.tmp 1) rfl cs rfl ?_; intro g w1 hg1 hg2 K1 L1)
      | ((with_reducible show wpList _ _ _ (⟨some 4, _, _, _, _, _⟩ :: _) _ _); refine wpList_alloc_blk rfl _ rfl zs _ ZH ?_; intro h w2 hg3 hg4 Z2 L02; have G2 := Lib.hid (K1.out.over L02.out); have L2 := Lib.hid (step L1.out L02.out); have hgh : g ≠ h := (by omega); have hhw : w.heap.size ≤ h := (by have := L1.out.size; omega))
      | ((with_reducible show wpList _ _ _ (⟨none, .store _ (.tmp 20) _, _, _, _, _⟩ :: _) _ _); refine wpList_store_fld rfl _ (.tmp 20) (.const (.string .empty)) rfl g 50 rfl _ cs (.string .empty) rfl G2 HN0 (by kernel_rfl) rfl ?_; intro w3 K3 O3 q3; rw [HE0.out] at K3; have Z3 := Lib.hid (Z2.out.only O3.out (Ne.symm hgh)); have L3 : Hid (Below w.heap.size w w3) := below_only L2.out O3.out hg1)
      | ((with_reducible show wpList _ _ _ (⟨some 25, _, _, _, _, _⟩ :: _) _ _); refine wpList_load_blk rfl _ (.tmp 3) rfl g rfl _ d0 K3 69 _ Tryd.underlying32 rfl size_ask HN ?_)
      | ((with_reducible show wpList _ _ _ (⟨none, .store _ (.tmp 4) _, _, _, _, _⟩ :: _) _ _); refine wpList_store_blk rfl _ (.tmp 4) (.tmp 25) rfl h rfl _ zs d0 rfl Z3 69 size_ask HZ HN HN1 ?_; intro w9 K9 O9 hg9)
      | fail)
    have L9 := Lib.hid (below_only L3.out O9.out hhw)
    refine bodyPost_ret (v := .tuple #[.agg d0.toArray, .bool true]) ?_ rfl (HQ.out _ _ ⟨_, rfl, HI.out w9 L9.out, L9.out⟩)
    exact results_cell_two rfl _ _ h _ _ (0, 0) _ rfl K9.out Tryd.underlying32 rfl (by rw [size_ask]; have := HN.out; simp [this]) rfl
  by_cases h2 : c = 2
  · subst h2
    have e0 : (if knownT 2 = true then besideAsk 2 a else zeroAsk) = a := rfl
    rw [e0, show knownT 2 = true from rfl] at HQ
    clear e0
    obtain ⟨A1, A2, A3, X1, X2, X3, M1, M2, M3, rfl, hA, hX, hM⟩ := ha
    have HI : Hid (∀ w' : World, Below w.heap.size w w' → AskIs w' w'.heap.size (acells (.slice A1 A2 A3) (.slice X1 X2 X3) (.slice M1 M2 M3) a) (a)) := fun w' hb => ⟨A1, A2, A3, X1, X2, X3, M1, M2, M3, rfl, hA.over hb, hX.over hb, hM.over hb⟩
    have HN : Hid ((acells (.slice A1 A2 A3) (.slice X1 X2 X3) (.slice M1 M2 M3) a).length = 69) := acells_len (ka)
    have HN1 : Hid (∀ v ∈ acells (.slice A1 A2 A3) (.slice X1 X2 X3) (.slice M1 M2 M3) a, v.oneCell' = true) := acells_one rfl rfl rfl
    obtain ⟨cs, hcs⟩ : ∃ c, c = acells (.slice A1 A2 A3) (.slice X1 X2 X3) (.slice M1 M2 M3) a := ⟨_, rfl⟩
    rw [← hcs] at HL HO1 HI HN HN1 ⊢
    clear hcs HA hA hX hM
    go_enter Tryd.func80, Tryd.ntmps80
    go_wp2_with (first
      | ((with_reducible show wpList _ _ _ (⟨some 3, _, _, _, _, _⟩ :: _) _ _); refine wpList_box_blk rfl _ (.tmp 1) rfl cs rfl ?_; intro g w1 hg1 hg2 K1 L1)
      | ((with_reducible show wpList _ _ _ (⟨some 4, _, _, _, _, _⟩ :: _) _ _); refine wpList_alloc_blk rfl _ rfl zs _ ZH ?_; intro h w2 hg3 hg4 Z2 L02; have G2 := Lib.hid (K1.out.over L02.out); have L2 := Lib.hid (step L1.out L02.out); have hgh : g ≠ h := (by omega); have hhw : w.heap.size ≤ h := (by have := L1.out.size; omega))
      | ((with_reducible show wpList _ _ _ (⟨some 25, _, _, _, _, _⟩ :: _) _ _); refine wpList_load_blk rfl _ (.tmp 3) rfl g rfl _ cs G2 69 _ Tryd.underlying32 rfl size_ask HN ?_)
      | ((with_reducible show wpList _ _ _ (⟨none, .store _ (.tmp 4) _, _, _, _, _⟩ :: _) _ _); refine wpList_store_blk rfl _ (.tmp 4) (.tmp 25) rfl h rfl _ zs cs rfl Z2 69 size_ask HZ HN HN1 ?_; intro w9 K9 O9 hg9)
      | fail)
    have L9 := Lib.hid (below_only L2.out O9.out hhw)
    refine bodyPost_ret (v := .tuple #[.agg cs.toArray, .bool true]) ?_ rfl (HQ.out _ _ ⟨_, rfl, HI.out w9 L9.out, L9.out⟩)
    exact results_cell_two rfl _ _ h _ _ (0, 0) _ rfl K9.out Tryd.underlying32 rfl (by rw [size_ask]; have := HN.out; simp [this]) rfl
  by_cases h4 : c = 4
  · subst h4
    have e0 : (if knownT 4 = true then besideAsk 4 a else zeroAsk) = a := rfl
    rw [e0, show knownT 4 = true from rfl] at HQ
    clear e0
    obtain ⟨A1, A2, A3, X1, X2, X3, M1, M2, M3, rfl, hA, hX, hM⟩ := ha
    have HI : Hid (∀ w' : World, Below w.heap.size w w' → AskIs w' w'.heap.size (acells (.slice A1 A2 A3) (.slice X1 X2 X3) (.slice M1 M2 M3) a) (a)) := fun w' hb => ⟨A1, A2, A3, X1, X2, X3, M1, M2, M3, rfl, hA.over hb, hX.over hb, hM.over hb⟩
    have HN : Hid ((acells (.slice A1 A2 A3) (.slice X1 X2 X3) (.slice M1 M2 M3) a).length = 69) := acells_len (ka)
    have HN1 : Hid (∀ v ∈ acells (.slice A1 A2 A3) (.slice X1 X2 X3) (.slice M1 M2 M3) a, v.oneCell' = true) := acells_one rfl rfl rfl
    obtain ⟨cs, hcs⟩ : ∃ c, c = acells (.slice A1 A2 A3) (.slice X1 X2 X3) (.slice M1 M2 M3) a := ⟨_, rfl⟩
    rw [← hcs] at HL HO1 HI HN HN1 ⊢
    clear hcs HA hA hX hM
    go_enter Tryd.func80, Tryd.ntmps80
    go_wp2_with (first
      | ((with_reducible show wpList _ _ _ (⟨some 3, _, _, _, _, _⟩ :: _) _ _); refine wpList_box_blk rfl _ (.tmp 1) rfl cs rfl ?_; intro g w1 hg1 hg2 K1 L1)
      | ((with_reducible show wpList _ _ _ (⟨some 4, _, _, _, _, _⟩ :: _) _ _); refine wpList_alloc_blk rfl _ rfl zs _ ZH ?_; intro h w2 hg3 hg4 Z2 L02; have G2 := Lib.hid (K1.out.over L02.out); have L2 := Lib.hid (step L1.out L02.out); have hgh : g ≠ h := (by omega); have hhw : w.heap.size ≤ h := (by have := L1.out.size; omega))
      | ((with_reducible show wpList _ _ _ (⟨some 25, _, _, _, _, _⟩ :: _) _ _); refine wpList_load_blk rfl _ (.tmp 3) rfl g rfl _ cs G2 69 _ Tryd.underlying32 rfl size_ask HN ?_)
      | ((with_reducible show wpList _ _ _ (⟨none, .store _ (.tmp 4) _, _, _, _, _⟩ :: _) _ _); refine wpList_store_blk rfl _ (.tmp 4) (.tmp 25) rfl h rfl _ zs cs rfl Z2 69 size_ask HZ HN HN1 ?_; intro w9 K9 O9 hg9)
      | fail)
    have L9 := Lib.hid (below_only L2.out O9.out hhw)
    refine bodyPost_ret (v := .tuple #[.agg cs.toArray, .bool true]) ?_ rfl (HQ.out _ _ ⟨_, rfl, HI.out w9 L9.out, L9.out⟩)
    exact results_cell_two rfl _ _ h _ _ (0, 0) _ rfl K9.out Tryd.underlying32 rfl (by rw [size_ask]; have := HN.out; simp [this]) rfl
  by_cases h13 : c = 13
  · subst h13
    have e0 : (if knownT 13 = true then besideAsk 13 a else zeroAsk) = a := rfl
    rw [e0, show knownT 13 = true from rfl] at HQ
    clear e0
    obtain ⟨A1, A2, A3, X1, X2, X3, M1, M2, M3, rfl, hA, hX, hM⟩ := ha
    have HI : Hid (∀ w' : World, Below w.heap.size w w' → AskIs w' w'.heap.size (acells (.slice A1 A2 A3) (.slice X1 X2 X3) (.slice M1 M2 M3) a) (a)) := fun w' hb => ⟨A1, A2, A3, X1, X2, X3, M1, M2, M3, rfl, hA.over hb, hX.over hb, hM.over hb⟩
    have HN : Hid ((acells (.slice A1 A2 A3) (.slice X1 X2 X3) (.slice M1 M2 M3) a).length = 69) := acells_len (ka)
    have HN1 : Hid (∀ v ∈ acells (.slice A1 A2 A3) (.slice X1 X2 X3) (.slice M1 M2 M3) a, v.oneCell' = true) := acells_one rfl rfl rfl
    obtain ⟨cs, hcs⟩ : ∃ c, c = acells (.slice A1 A2 A3) (.slice X1 X2 X3) (.slice M1 M2 M3) a := ⟨_, rfl⟩
    rw [← hcs] at HL HO1 HI HN HN1 ⊢
    clear hcs HA hA hX hM
    go_enter Tryd.func80, Tryd.ntmps80
    go_wp2_with (first
      | ((with_reducible show wpList _ _ _ (⟨some 3, _, _, _, _, _⟩ :: _) _ _); refine wpList_box_blk rfl _ (.tmp 1) rfl cs rfl ?_; intro g w1 hg1 hg2 K1 L1)
      | ((with_reducible show wpList _ _ _ (⟨some 4, _, _, _, _, _⟩ :: _) _ _); refine wpList_alloc_blk rfl _ rfl zs _ ZH ?_; intro h w2 hg3 hg4 Z2 L02; have G2 := Lib.hid (K1.out.over L02.out); have L2 := Lib.hid (step L1.out L02.out); have hgh : g ≠ h := (by omega); have hhw : w.heap.size ≤ h := (by have := L1.out.size; omega))
      | ((with_reducible show wpList _ _ _ (⟨some 25, _, _, _, _, _⟩ :: _) _ _); refine wpList_load_blk rfl _ (.tmp 3) rfl g rfl _ cs G2 69 _ Tryd.underlying32 rfl size_ask HN ?_)
      | ((with_reducible show wpList _ _ _ (⟨none, .store _ (.tmp 4) _, _, _, _, _⟩ :: _) _ _); refine wpList_store_blk rfl _ (.tmp 4) (.tmp 25) rfl h rfl _ zs cs rfl Z2 69 size_ask HZ HN HN1 ?_; intro w9 K9 O9 hg9)
      | fail)
    have L9 := Lib.hid (below_only L2.out O9.out hhw)
    refine bodyPost_ret (v := .tuple #[.agg cs.toArray, .bool true]) ?_ rfl (HQ.out _ _ ⟨_, rfl, HI.out w9 L9.out, L9.out⟩)
    exact results_cell_two rfl _ _ h _ _ (0, 0) _ rfl K9.out Tryd.underlying32 rfl (by rw [size_ask]; have := HN.out; simp [this]) rfl
  have hk : knownT c = false := by unfold knownT; simp; omega
  rw [if_neg (by rw [hk]; decide), hk] at HQ
  have b0 : (c == 0) = false := by simpa using h0
  have b1 : (c == 1) = false := by simpa using h1
  have b3 : (c == 3) = false := by simpa using h3
  have b2 : (c == 2) = false := by simpa using h2
  have b4 : (c == 4) = false := by simpa using h4
  have b13 : (c == 13) = false := by simpa using h13
  go_enter Tryd.func80, Tryd.ntmps80
  go_wp2_with (first
    | ((with_reducible show wpList _ _ _ (⟨some 3, _, _, _, _, _⟩ :: _) _ _); refine wpList_box_blk rfl _ (.tmp 1) rfl cs rfl ?_; intro g w1 hg1 hg2 K1 L1)
    | ((with_reducible show wpList _ _ _ (⟨some 4, _, _, _, _, _⟩ :: _) _ _); refine wpList_alloc_blk rfl _ rfl zs _ ZH ?_; intro h w2 hg3 hg4 Z2 L02; have G2 := Lib.hid (K1.out.over L02.out); have L2 := Lib.hid (step L1.out L02.out); have hgh : g ≠ h := (by omega); have hhw : w.heap.size ≤ h := (by have := L1.out.size; omega))
    | ((with_reducible show wpList _ _ _ (⟨some 7, _, _, _, _, _⟩ :: _) _ _); refine wpList_build_none rfl _ rfl zs BZ ?_)
    | ((with_reducible show wpList _ _ _ (⟨none, .store _ (.tmp 4) _, _, _, _, _⟩ :: _) _ _); refine wpList_store_blk rfl _ (.tmp 4) (.tmp 7) rfl h rfl _ zs zs rfl Z2 69 size_ask HZ HZ HZ1 ?_; intro w9 K9 O9 hg9)
    | fail)
  have L9 := Lib.hid (below_only L2.out O9.out hhw)
  refine bodyPost_ret (v := .tuple #[.agg zs.toArray, .bool false]) ?_ rfl (HQ.out _ _ ⟨_, rfl, HZI.out w9, L9.out⟩)
  exact results_cell_two rfl _ _ h _ _ (0, 0) _ rfl K9.out Tryd.underlying32 rfl (by rw [size_ask]; have := HZ.out; simp [this]) rfl
end Go.Proofs.YtdlcjobahdmapaaDoor

namespace Go.Proofs.YtdlcjobahdmapaaDoor
set_option linter.all false
open Go.RowKit
set_option linter.unusedVariables false
set_option maxRecDepth 100000
def dialsOf (xs : List Int) : List Int := xs.flatMap (fun d => le d 2)
def offerOf (a : AskV) : List Int := le a.dial.length 2 ++ dialsOf a.dial ++ a.guid
theorem dialsOf_len (xs : List Int) : (dialsOf xs).length = 2 * xs.length := by
  induction xs with
  | nil => rfl
  | cons x xs ih => rw [show dialsOf (x :: xs) = le x 2 ++ dialsOf xs from rfl, List.length_append, le_length, ih, List.length_cons]; omega
theorem dialsOf_snoc (xs : List Int) (x : Int) : dialsOf (xs ++ [x]) = dialsOf xs ++ le x 2 := by simp [dialsOf]
theorem number_le (w : World) (n : Int) (h0 : 0 ≤ n) (h1 : n ≤ 65535) :
    Calls Tryd.prog 91 #[.int .u64 n, .int .i64 2] w fun e w' => ∃ A', e = .returned (.slice A' 2 2) ∧ Fresh w' w.heap.size A' (le n 2) ∧ Below w.heap.size w w' := by
  obtain ⟨m, rfl⟩ := Int.eq_ofNat_of_zero_le h0
  have h := number_any w (m : Int) 2 (by omega) (by omega)
  unfold NumPost at h
  rw [(putOf2 m (by omega)).1, le_length] at h
  exact h
theorem acells_guidH {vd vx vl : Value} {a : AskV} {w : World} {g : Nat} {T : TypeId} (k : a.ok) (h : Blk w g T (acells vd vx vl a)) : Holds w w.heap.size (some ⟨g, 1, none⟩) 16 16 a.guid := by
  have hr := acells_guid h k
  refine ⟨k.glen, Nat.le_refl _, by decide, k.gbyte, fun hA => (by cases hA), fun _ => ⟨g, 1, rfl, h.lt, fun i hi => ?_⟩⟩
  rw [hr i (.int .u8 (a.guid.getD i 0)) (by
    have : i < a.guid.length := by rw [k.glen]; exact hi
    simp [List.getD_eq_getElem?_getD, this])]
theorem acells_proofH {vd vx vl : Value} {a : AskV} {w : World} {g : Nat} {T : TypeId} (k : a.ok) (h : Blk w g T (acells vd vx vl a)) : Holds w w.heap.size (some ⟨g, 17, none⟩) 32 32 a.proof := by
  have hr := acells_proof h k
  refine ⟨k.plen, Nat.le_refl _, by decide, k.pbyte, fun hA => (by cases hA), fun _ => ⟨g, 17, rfl, h.lt, fun i hi => ?_⟩⟩
  rw [hr i (.int .u8 (a.proof.getD i 0)) (by
    have : i < a.proof.length := by rw [k.plen]; exact hi
    simp [List.getD_eq_getElem?_getD, this])]
def OfferPost (w : World) (a : AskV) (e : Ending) (w' : World) : Prop := ∃ v, e = .returned (.tuple #[v, .int .i64 (if a.dial.length ≤ 16 then 0 else 3)]) ∧ Own w' w.heap.size v (if a.dial.length ≤ 16 then offerOf a else []) ∧ Below w.heap.size w w'
set_option maxHeartbeats 2000000 in
theorem putOffer_any (w : World) (cs : List Value) (a : AskV) (ka : a.ok) (ha : AskIs w w.heap.size cs a) :
    Calls Tryd.prog 82 #[.agg cs.toArray] w (OfferPost w a) := by
  obtain ⟨D1, D2, D3, X1, X2, X3, M1, M2, M3, rfl, hD, hX, hM⟩ := ha
  have hl := hD.len
  have FA : Hid (∀ (w : World) (g : Nat), Blk w g 32 (acells (.slice D1 D2 D3) (.slice X1 X2 X3) (.slice M1 M2 M3) a) → w.cell? ⟨g, 0, none⟩ = some (.slice D1 D2 D3)) := fun w g h => h.at rfl
  have RG : Hid (∀ (w : World) (g : Nat), Blk w g 32 (acells (.slice D1 D2 D3) (.slice X1 X2 X3) (.slice M1 M2 M3) a) → Holds w w.heap.size (some ⟨g, 1, none⟩) 16 16 a.guid) := fun w g h => acells_guidH ka h
  have HDB := Lib.hid ka.dial
  have HGL := Lib.hid ka.glen
  obtain ⟨cs, hcs⟩ : ∃ c, c = acells (.slice D1 D2 D3) (.slice X1 X2 X3) (.slice M1 M2 M3) a := ⟨_, rfl⟩
  rw [← hcs] at FA RG ⊢
  clear hcs hX hM ka
  by_cases hn : D2 ≤ 16
  rotate_left
  · have HQ : Hid (∀ e w', e = .returned (.tuple #[.slice none 0 0, .int .i64 3]) → Below w.heap.size w w' → OfferPost w a e w') := by
      intro e w' he hb
      unfold OfferPost
      rw [hl, if_neg hn, if_neg hn]
      exact ⟨_, he, Own.nil _ _, hb⟩
    have hn' : 16 < D2 := by omega
    clear hl hD
    go_enter Tryd.func82, Tryd.ntmps82
    go_wp2_with (first
      | ((with_reducible show wpList _ _ _ (⟨some 1, _, _, _, _, _⟩ :: _) _ _); refine wpList_box_blk rfl _ (.tmp 0) rfl cs rfl ?_; intro g w1 hg1 hg2 K1 L1; have gd := FA.out _ _ K1.out)
      | fail)
    go_ret2
    exact HQ.out _ _ rfl L1.out
  have HQ : Hid (∀ e w', (∃ v, e = .returned (.tuple #[v, .int .i64 0]) ∧ Own w' w.heap.size v (le D2 2 ++ dialsOf a.dial ++ a.guid) ∧ Below w.heap.size w w') → OfferPost w a e w') := by
    intro e w' hh
    unfold OfferPost offerOf
    rw [hl, if_pos hn, if_pos hn]
    exact hh
  have HDL := Lib.hid hl
  have HD := Lib.hid hD
  have HF := Lib.hid hD.fit
  have hz : IntKind.u64.wrap (D2 : Int) = D2 := by rw [IntKind.wrap_u64]; omega
  obtain ⟨ds, hds⟩ : ∃ d, d = a.dial := ⟨_, rfl⟩
  obtain ⟨gs, hgs⟩ : ∃ d, d = a.guid := ⟨_, rfl⟩
  rw [← hds] at HQ HDL HD HDB
  rw [← hgs] at HQ RG HGL
  clear hl hD hds hgs
  go_enter Tryd.func82, Tryd.ntmps82
  go_wp2_with (first
    | ((with_reducible show wpList _ _ _ (⟨some 1, _, _, _, _, _⟩ :: _) _ _); refine wpList_box_blk rfl _ (.tmp 0) rfl cs rfl ?_; intro g w1 hg1 hg2 K1 L1; have gd := FA.out _ _ K1.out)
    | fail)
  refine (number_le w1 (D2 : Int) (by omega) (by omega)).mono ?_
  rintro e w2 ⟨A', rfl, hf2, L2⟩
  have gd2 := FA.out _ _ (K1.out.over L2)
  have HO2 := Lib.hid (hf2.own (n := 2) (by rw [le_length]) (by omega))
  have M2 := Lib.hid L2
  have hs2 := L2.size
  clear gd hf2 L2
  go_wp2
  go_loopw [4, 19] (fun v i wr => ∃ j : Nat, i = .int .i64 j ∧ j ≤ D2 ∧ Hid (Own wr w1.heap.size v (le D2 2 ++ dialsOf (ds.take j))) ∧ Hid (Below w1.heap.size w1 wr)) (fun _ i _ => D2 - (intOf i).toNat)
  case atStart => exact ⟨0, rfl, Nat.zero_le _, (by show Own _ _ _ _; simpa [dialsOf] using HO2.out), M2⟩
  case round =>
    obtain ⟨j, rfl, hj, HO, HL⟩ := hrel
    have hsr := HL.out.size
    by_cases hlt : j < D2
    · have HDr := HD.out.over (step L1.out HL.out)
      have hft := HF.out
      obtain ⟨b, off, rfl, hb, hc⟩ := HDr.cells (by omega)
      obtain ⟨x, hx⟩ : ∃ x, ds[j]? = some x := ⟨_, List.getElem?_eq_getElem (by have := HDL.out; omega)⟩
      have gc := hc j x hx
      obtain ⟨x0, x1⟩ := HDB.out x (List.mem_of_getElem? hx)
      have E1 : Hid (le D2 2 ++ dialsOf (ds.take (j + 1)) = le D2 2 ++ dialsOf (ds.take j) ++ le x 2) := by
        show _ = _
        rw [List.take_add_one, hx, Option.toList_some, dialsOf_snoc, List.append_assoc]
      have HLEN : Hid ((le (D2 : Int) 2 ++ dialsOf (ds.take j)).length + (le x 2).length ≤ 140737488355328) := by
        show _ ≤ _
        rw [List.length_append, le_length, le_length, dialsOf_len, List.length_take]
        omega
      have HXB : Hid (Bytes (le x 2)) := le_bytes _ _
      have HXL : Hid ((le x 2).length = 2) := le_length _ _
      have hxz : IntKind.u64.wrap x = x := by rw [IntKind.wrap_u64]; omega
      obtain ⟨P, hP⟩ : ∃ P, P = le (D2 : Int) 2 ++ dialsOf (ds.take j) := ⟨_, rfl⟩
      rw [← hP] at E1 HLEN HO
      have CN : Hid (∀ w : World, Calls Tryd.prog 91 #[.int .u64 x, .int .i64 2] w fun e w' => ∃ A', e = .returned (.slice A' 2 2) ∧ Fresh w' w.heap.size A' (le x 2) ∧ Below w.heap.size w w') := fun w => number_le w x x0 x1
      obtain ⟨lx, hlx⟩ : ∃ P, P = le x 2 := ⟨_, rfl⟩
      rw [← hlx] at E1 HLEN HXB HXL CN
      clear hc hx hP hlx HDr
      go_wp2_with fail
      refine (CN.out wr).mono ?_
      rintro e w3 ⟨A3, rfl, hf3, L3⟩
      have HH := Lib.hid (hf3.holds HXL.out HXB.out (by omega))
      have HO3 := Lib.hid (HO.out.below L3)
      have M3 := Lib.hid (HL.out.trans (L3.mono hsr))
      have hs3 := M3.out.size
      clear hf3 L3 HO CN gc
      go_wp2_with (first
        | (at_builtin; refine wpList_append_bytes rfl (.tmp 23) (.tmp 26) rfl w1.heap.size _ P rfl HO3.out w3.heap.size A3 2 2 lx rfl HH.out HLEN.out hs3 ?_; intro v4 w4 ho4 hb4 hgr)
        | fail)
      have HO4 : Hid (Own w4 w1.heap.size v4 (le D2 2 ++ dialsOf (ds.take (j + 1)))) := by rw [E1.out]; exact ho4.out
      have M4 := Lib.hid (M3.out.trans hb4)
      clear ho4 hb4 hgr HH HO3 M3
      go_wp2
      go_roundw
      case rel => exact ⟨j + 1, by go_num, hlt, HO4, M4⟩
      case measure => simp [intOf]; omega
    · obtain rfl : j = D2 := by omega
      have HO5 : Hid (Own wr w1.heap.size u4 (le (j : Int) 2 ++ dialsOf ds)) := by
        have h := HO.out
        rwa [List.take_of_length_le (by have := HDL.out; omega)] at h
      have HG := Lib.hid (RG.out _ _ (K1.out.over HL.out))
      have HLEN : Hid ((le (j : Int) 2 ++ dialsOf ds).length + gs.length ≤ 140737488355328) := by
        show _ ≤ _
        have h1 := HGL.out
        have h2 := HDL.out
        rw [List.length_append, le_length, dialsOf_len]
        omega
      have hs1 := L1.out.size
      obtain ⟨P, hP⟩ : ∃ P, P = le (j : Int) 2 ++ dialsOf ds := ⟨_, rfl⟩
      rw [← hP] at HO5 HLEN HQ
      clear HO hP
      go_wp2_with (first
        | (at_builtin; refine wpList_append_bytes rfl (.tmp 29) (.tmp 31) rfl w1.heap.size _ P rfl HO5.out wr.heap.size (some ⟨g, 1, none⟩) 16 16 gs rfl HG.out HLEN.out hsr ?_; intro v4 w4 ho4 hb4 hgr)
        | fail)
      go_ret2
      exact HQ.out _ _ ⟨_, rfl, ho4.out.mono hs1, L1.out.trans ((HL.out.trans hb4).mono hs1)⟩
end Go.Proofs.YtdlcjobahdmapaaDoor

namespace Go.Proofs.YtdlcjobahdmapaaDoor
set_option linter.all false
open Go.RowKit
section
variable {P : Program} {ops : Array Oper} {Q : Exit → Act → World → Prop}
theorem wpAnyH_two {md : Region.Mode} {S : World → Prop} (i j : Nat) (oi oj : Oper) {fuel : Nat} {listed : Array Bool} {a : Act} {w : World} (hr : Region.ready md ops listed = [i, j]) (hi : ops[i]? = some oi) (hj : ops[j]? = some oj)
    (h1 : ∀ K : Act → World → Prop, (∀ a' w', S w' → wpAnyH P md ops Q S fuel (listed.setIfInBounds i true) a' w' → K a' w') → if Region.wanted oi (yielded ops a.tmps) = true then oi.wp P a w K Q else K (a.put oi.dst undef) w)
    (h2 : ∀ K : Act → World → Prop, (∀ a' w', S w' → wpAnyH P md ops Q S fuel (listed.setIfInBounds j true) a' w' → K a' w') → if Region.wanted oj (yielded ops a.tmps) = true then oj.wp P a w K Q else K (a.put oj.dst undef) w) :
    wpAnyH P md ops Q S (fuel + 1) listed a w := by
  refine wpAnyH_all hr (by simp) fun q hq => ?_
  rcases List.mem_cons.1 hq with rfl | hq
  · have h3 := h1 (fun a' w' => S w' ∧ wpAnyH P md ops Q S fuel (listed.setIfInBounds q true) a' w') fun _ _ h2 h3 => ⟨h2, h3⟩
    unfold wpOp
    simp only [hi]
    by_cases hw : Region.wanted oi (yielded ops a.tmps) = true
    · rw [if_pos hw] at h3 ⊢
      exact .inl h3
    · rw [if_neg hw] at h3 ⊢
      exact h3
  · obtain rfl := List.mem_singleton.1 hq
    have h3 := h2 (fun a' w' => S w' ∧ wpAnyH P md ops Q S fuel (listed.setIfInBounds q true) a' w') fun _ _ h2 h3 => ⟨h2, h3⟩
    unfold wpOp
    simp only [hj]
    by_cases hw : Region.wanted oj (yielded ops a.tmps) = true
    · rw [if_pos hw] at h3 ⊢
      exact .inl h3
    · rw [if_neg hw] at h3 ⊢
      exact h3
end
end Go.Proofs.YtdlcjobahdmapaaDoor

namespace Go.Proofs.YtdlcjobahdmapaaDoor
set_option linter.all false
open Go.RowKit
set_option linter.unusedVariables false
set_option maxRecDepth 100000
def askErrP (c : Int) (a : AskV) : Int :=
  if knownT c = true ∧ besideAsk c a = zeroAsk then (if c = 0 then (if a.dial.length ≤ 16 then 0 else 3) else if c = 1 then ptextErr a.user.data.toList else if c = 3 then ptextErr a.share.data.toList else 0) else 2
def askOfP (c : Int) (a : AskV) : List Int :=
  if askErrP c a = 0 then (if c = 0 then offerOf a else if c = 1 then a.proof ++ ptextOf a.user.data.toList else if c = 3 then ptextOf a.share.data.toList else List.replicate 4 0) else []
def PAskPost (w : World) (c : Int) (a : AskV) (e : Ending) (w' : World) : Prop := ∃ v, e = .returned (.tuple #[v, .int .i64 (askErrP c a)]) ∧ Own w' w.heap.size v (askOfP c a) ∧ Below w.heap.size w w'
theorem row_zeros {w : World} {g base n : Nat} (h : Row w g (List.replicate n 0)) (hb : base ≤ g) (hn : n ≤ 281474976710656) : Own w base (.slice (some ⟨g, 0, none⟩) n n) (List.replicate n 0) :=
  Fresh.own (.inr ⟨g, rfl, hb, h⟩) (by simp) hn
theorem step_make_bytes {o : Oper} {ops : Array Oper} {a : Act} {w : World} {K : Act → World → Prop} {Q : Exit → Act → World → Prop} {E : Prop} (hg : o.guard = none) (l c : Operand) (hop : o.op = Op.makeSlice 29 l c) (n : Nat) (hl : a.eval l = .int .i64 (n : Int)) (hc : a.eval c = .int .i64 (n : Int)) (hn : n ≤ 281474976710656)
    (hK : ∀ w', Hid (Row w' w.heap.size (List.replicate n 0)) → Hid (Below w.heap.size w w') → K (a.put o.dst (.slice (some ⟨w.heap.size, 0, none⟩) n n)) w') :
    if Region.wanted o (yielded ops a.tmps) = true then Oper.wp Tryd.prog o a w K Q else E := by
  rw [if_pos (by simp [Region.wanted, hg])]
  have hrun := run_make_row' (P := Tryd.prog) 29 5 (.int .u8 0) 1 Tryd.underlying29 info_u8 rfl .i64 .i64 n (by omega) (by omega) w
  unfold Oper.wp
  simp [execOp, hop, hl, hc, hrun, Result.andThen]
  refine hK _ ?_ ((Below.refl _ _).alloc (Nat.le_refl _) _)
  show (w.alloc _).heap[w.heap.size]? = _
  rw [heap_alloc_new]
  have h := toList_madeCells_one (.int .u8 0) n
  rw [List.map_replicate, ← h]
theorem Parts.of_blk {w : World} {g : Nat} {T : TypeId} (l : List PartT) (h : Blk w g T (l.map partV)) (hh : ∀ p ∈ l, Holds w w.heap.size p.1 p.2.1 p.2.2.1 p.2.2.2) : Parts w g l.length (partA l) (partN l) (partC l) (partX l) := by
  refine ⟨h.lt, fun i hi => ?_, fun i hi => ?_⟩
  · rw [h.cell]
    simp [partA, partN, partC, List.getD_eq_getElem?_getD, hi, partV]
  · have he : l.getD i part0 = l[i] := by simp [List.getD_eq_getElem?_getD, hi]
    have := hh l[i] (List.getElem_mem hi)
    unfold partA partN partC partX
    rw [he]
    exact this
theorem rowOf_le (l : List UInt8) : (ptextOf l).length ≤ 514 := by
  unfold ptextOf
  split
  · rename_i h
    have h2 : (putOfL l).length ≤ 512 := by
      unfold ptextErr at h
      by_cases ht : textErr l = 0
      · rw [if_pos ht] at h
        by_cases hm : (putOfL l).length ≤ 512
        · exact hm
        · rw [if_neg hm] at h; exact absurd h (by decide)
      · rw [if_neg ht] at h; exact absurd h ht
    rw [rowOf_len _ (by omega)]
    omega
  · simp
theorem ptextOf_bytes (l : List UInt8) : Bytes (ptextOf l) := by
  unfold ptextOf
  split
  · exact rowOf_bytes (putOfL_byte l)
  · exact Bytes.nil
set_option maxHeartbeats 4000000 in
theorem PutAsk_any (w : World) (c : Int) (cs : List Value) (a : AskV) (hc : 0 ≤ c ∧ c ≤ 65535) (ka : a.ok) (ha : AskIs w w.heap.size cs a) (hu : a.user.size ≤ 17592186044416 ∧ a.share.size ≤ 17592186044416) (hT : Tabs w) :
    Calls Tryd.prog 61 #[.int .u16 c, .agg cs.toArray] w (PAskPost w c a) := by
  have HL := Lib.hid (ha.len ka)
  have HO1 := Lib.hid ha.one
  have ZH := Lib.hid zero_ask
  have HZ : Hid ((acells (.slice none 0 0) (.slice none 0 0) (.slice none 0 0) zeroAsk).length = 69) := acells_len zeroAsk_ok
  have HA := Lib.hid ha
  have HT := Lib.hid hT
  obtain ⟨hu0, hu1⟩ := hu
  have CB : Hid (∀ w' : World, Below w.heap.size w w' → Calls Tryd.prog 80 #[.int .u16 c, .agg cs.toArray] w' fun e w2 => ∃ ds, e = .returned (.tuple #[.agg ds.toArray, .bool (knownT c)]) ∧ AskIs w2 w2.heap.size ds (if knownT c = true then besideAsk c a else zeroAsk) ∧ Below w'.heap.size w' w2) := fun w' hb => askBeside_any w' c cs a hc ka (ha.over hb)
  obtain ⟨zs, hzs⟩ : ∃ zs, zs = acells (.slice none 0 0) (.slice none 0 0) (.slice none 0 0) zeroAsk := ⟨_, rfl⟩
  rw [← hzs] at ZH HZ
  clear hzs
  by_cases hk : knownT c = true
  rotate_left
  · have hk' : knownT c = false := by simpa using hk
    have HQ : Hid (∀ e w', e = .returned (.tuple #[.slice none 0 0, .int .i64 2]) → Below w.heap.size w w' → PAskPost w c a e w') := by
      intro e w' he hb
      have h2 : askErrP c a = 2 := by unfold askErrP; rw [if_neg (fun h => hk h.1)]
      unfold PAskPost askOfP
      rw [h2, if_neg (by decide)]
      exact ⟨_, he, Own.nil _ _, hb⟩
    rw [if_neg hk, hk'] at CB
    have kb := zeroAsk_ok
    clear hk hk' HA ka ha
    go_enter Tryd.func61, Tryd.ntmps61
    go_wp2_with (first
      | ((with_reducible show wpList _ _ _ (⟨some 3, _, _, _, _, _⟩ :: _) _ _); refine wpList_box_blk rfl _ (.tmp 1) rfl cs rfl ?_; intro g w1 hg1 hg2 K1 L1)
      | ((with_reducible show wpList _ _ _ (⟨some 12, _, _, _, _, _⟩ :: _) _ _); refine wpList_load_blk rfl _ (.tmp 3) rfl g rfl _ cs K1 69 _ Tryd.underlying32 rfl size_ask HL ?_)
      | fail)
    refine (CB.out w1 L1.out).mono ?_
    rintro e w2 ⟨ds, rfl, hds, L2⟩
    have HD := Lib.hid hds
    have HDL := Lib.hid (hds.len kb)
    have HDO := Lib.hid hds.one
    have K2 := Lib.hid (K1.out.over L2)
    have M2 := Lib.hid (step L1.out L2)
    clear hds L2 K1
    go_wp2_with (first
      | ((with_reducible show wpList _ _ _ (⟨some 6, _, _, _, _, _⟩ :: _) _ _); refine wpList_alloc_blk rfl _ rfl zs _ ZH ?_; intro h w3 hg3 hg4 Z3 L3)
      | ((with_reducible show wpList _ _ _ (⟨none, .store _ (.tmp 6) _, _, _, _, _⟩ :: _) _ _); refine wpList_store_blk rfl _ (.tmp 6) (.tmp 14) rfl h rfl _ zs ds rfl Z3 69 size_ask HZ HDL HDO ?_; intro w4 X4 O4 hg5; have L4 := Lib.hid (below_only L3.out O4.out hg3); have M4 := Lib.hid (step M2.out L4.out); have K4 := Lib.hid (K2.out.over L4.out); have HD4 := Lib.hid (HD.out.over L4.out))
      | fail)
    go_ret2
    exact HQ.out _ _ rfl M4.out
  rw [if_pos hk, hk] at CB
  have kb := besideAsk_ok (c := c) ka
  have CZ : Hid (∀ (w' : World) (ds : List Value), AskIs w' w'.heap.size ds (besideAsk c a) → Calls Tryd.prog 81 #[.agg ds.toArray] w' fun e w2 => e = .returned (.bool (decide (besideAsk c a = zeroAsk))) ∧ Below w'.heap.size w' w2) := fun w' ds hds => isZeroAsk_any w' ds _ kb hds
  by_cases hz : besideAsk c a = zeroAsk
  rotate_left
  · rw [decide_eq_false hz] at CZ
    have HQ : Hid (∀ e w', e = .returned (.tuple #[.slice none 0 0, .int .i64 2]) → Below w.heap.size w w' → PAskPost w c a e w') := by
      intro e w' he hb
      have h2 : askErrP c a = 2 := by unfold askErrP; rw [if_neg (fun h => hz h.2)]
      unfold PAskPost askOfP
      rw [h2, if_neg (by decide)]
      exact ⟨_, he, Own.nil _ _, hb⟩
    obtain ⟨b, hb⟩ : ∃ b, b = besideAsk c a := ⟨_, rfl⟩
    rw [← hb] at CB CZ kb
    clear hk hz HA ka ha hb
    go_enter Tryd.func61, Tryd.ntmps61
    go_wp2_with (first
      | ((with_reducible show wpList _ _ _ (⟨some 3, _, _, _, _, _⟩ :: _) _ _); refine wpList_box_blk rfl _ (.tmp 1) rfl cs rfl ?_; intro g w1 hg1 hg2 K1 L1)
      | ((with_reducible show wpList _ _ _ (⟨some 12, _, _, _, _, _⟩ :: _) _ _); refine wpList_load_blk rfl _ (.tmp 3) rfl g rfl _ cs K1 69 _ Tryd.underlying32 rfl size_ask HL ?_)
      | fail)
    refine (CB.out w1 L1.out).mono ?_
    rintro e w2 ⟨ds, rfl, hds, L2⟩
    have HD := Lib.hid hds
    have HDL := Lib.hid (hds.len kb)
    have HDO := Lib.hid hds.one
    have K2 := Lib.hid (K1.out.over L2)
    have M2 := Lib.hid (step L1.out L2)
    clear hds L2 K1
    go_wp2_with (first
      | ((with_reducible show wpList _ _ _ (⟨some 6, _, _, _, _, _⟩ :: _) _ _); refine wpList_alloc_blk rfl _ rfl zs _ ZH ?_; intro h w3 hg3 hg4 Z3 L3)
      | ((with_reducible show wpList _ _ _ (⟨none, .store _ (.tmp 6) _, _, _, _, _⟩ :: _) _ _); refine wpList_store_blk rfl _ (.tmp 6) (.tmp 14) rfl h rfl _ zs ds rfl Z3 69 size_ask HZ HDL HDO ?_; intro w4 X4 O4 hg5; have L4 := Lib.hid (below_only L3.out O4.out hg3); have M4 := Lib.hid (step M2.out L4.out); have K4 := Lib.hid (K2.out.over L4.out); have HD4 := Lib.hid (HD.out.over L4.out))
      | ((with_reducible show wpList _ _ _ (⟨some 19, _, _, _, _, _⟩ :: _) _ _); refine wpList_load_want (by kernel_rfl) _ (.tmp 6) rfl h rfl _ ds X4 69 _ Tryd.underlying32 rfl size_ask HDL ?_)
      | fail)
    refine (CZ.out w4 ds HD4.out).mono ?_
    rintro e w5 ⟨rfl, L5⟩
    have M5 := Lib.hid (step M4.out L5)
    have K5 := Lib.hid (K4.out.over L5)
    have hs5 := M5.out.size
    clear L5 K4 HD4 HD CZ CB X4 O4 Z3 L3 L4 M4 M2 K2
    go_wp2
    go_ret2
    exact HQ.out _ _ rfl M5.out
  rw [decide_eq_true hz] at CZ
  by_cases h0 : c = 0
  · have h2 : askErrP c a = if a.dial.length ≤ 16 then 0 else 3 := by unfold askErrP; rw [if_pos ⟨hk, hz⟩, if_pos h0]
    have HQ : Hid (∀ e w', (∃ v, e = .returned (.tuple #[v, .int .i64 (if a.dial.length ≤ 16 then 0 else 3)]) ∧ Own w' w.heap.size v (if a.dial.length ≤ 16 then offerOf a else []) ∧ Below w.heap.size w w') → PAskPost w c a e w') := by
      intro e w' hh
      unfold PAskPost askOfP
      rw [h2, if_pos h0]
      by_cases hd : a.dial.length ≤ 16
      · rw [if_pos hd, if_pos hd] at hh; rw [if_pos hd, if_pos rfl]; exact hh
      · rw [if_neg hd, if_neg hd] at hh; rw [if_neg hd, if_neg (by decide)]; exact hh
    have CO : Hid (∀ w' : World, Below w.heap.size w w' → Calls Tryd.prog 82 #[.agg cs.toArray] w' fun e w2 => ∃ v, e = .returned (.tuple #[v, .int .i64 (if a.dial.length ≤ 16 then 0 else 3)]) ∧ Own w2 w'.heap.size v (if a.dial.length ≤ 16 then offerOf a else []) ∧ Below w'.heap.size w' w2) := fun w' hb => putOffer_any w' cs a ka (HA.out.over hb)
    obtain ⟨er, her⟩ : ∃ x : Int, x = if a.dial.length ≤ 16 then 0 else 3 := ⟨_, rfl⟩
    obtain ⟨ys, hys⟩ : ∃ x, x = if a.dial.length ≤ 16 then offerOf a else [] := ⟨_, rfl⟩
    rw [← her, ← hys] at HQ CO
    have c0 : (c == 0) = true := by simpa using h0
    obtain ⟨b, hb⟩ : ∃ b, b = besideAsk c a := ⟨_, rfl⟩
    rw [← hb] at CB CZ kb
    clear hk hz HA ka ha h2 her hys h0 hb
    go_enter Tryd.func61, Tryd.ntmps61
    go_wp2_with (first
      | ((with_reducible show wpList _ _ _ (⟨some 3, _, _, _, _, _⟩ :: _) _ _); refine wpList_box_blk rfl _ (.tmp 1) rfl cs rfl ?_; intro g w1 hg1 hg2 K1 L1)
      | ((with_reducible show wpList _ _ _ (⟨some 12, _, _, _, _, _⟩ :: _) _ _); refine wpList_load_blk rfl _ (.tmp 3) rfl g rfl _ cs K1 69 _ Tryd.underlying32 rfl size_ask HL ?_)
      | fail)
    refine (CB.out w1 L1.out).mono ?_
    rintro e w2 ⟨ds, rfl, hds, L2⟩
    have HD := Lib.hid hds
    have HDL := Lib.hid (hds.len kb)
    have HDO := Lib.hid hds.one
    have K2 := Lib.hid (K1.out.over L2)
    have M2 := Lib.hid (step L1.out L2)
    clear hds L2 K1
    go_wp2_with (first
      | ((with_reducible show wpList _ _ _ (⟨some 6, _, _, _, _, _⟩ :: _) _ _); refine wpList_alloc_blk rfl _ rfl zs _ ZH ?_; intro h w3 hg3 hg4 Z3 L3)
      | ((with_reducible show wpList _ _ _ (⟨none, .store _ (.tmp 6) _, _, _, _, _⟩ :: _) _ _); refine wpList_store_blk rfl _ (.tmp 6) (.tmp 14) rfl h rfl _ zs ds rfl Z3 69 size_ask HZ HDL HDO ?_; intro w4 X4 O4 hg5; have L4 := Lib.hid (below_only L3.out O4.out hg3); have M4 := Lib.hid (step M2.out L4.out); have K4 := Lib.hid (K2.out.over L4.out); have HD4 := Lib.hid (HD.out.over L4.out))
      | ((with_reducible show wpList _ _ _ (⟨some 19, _, _, _, _, _⟩ :: _) _ _); refine wpList_load_want (by kernel_rfl) _ (.tmp 6) rfl h rfl _ ds X4 69 _ Tryd.underlying32 rfl size_ask HDL ?_)
      | fail)
    refine (CZ.out w4 ds HD4.out).mono ?_
    rintro e w5 ⟨rfl, L5⟩
    have M5 := Lib.hid (step M4.out L5)
    have K5 := Lib.hid (K4.out.over L5)
    have hs5 := M5.out.size
    clear L5 K4 HD4 HD CZ CB X4 O4 Z3 L3 L4 M4 M2 K2
    go_wp2_with (first
      | ((with_reducible show wpList _ _ _ (⟨some 26, _, _, _, _, _⟩ :: _) _ _); refine wpList_load_blk rfl _ (.tmp 3) rfl g rfl _ cs K5 69 _ Tryd.underlying32 rfl size_ask HL ?_)
      | fail)
    refine (CO.out w5 M5.out).mono ?_
    rintro e w6 ⟨v, rfl, ho, L6⟩
    have HO := Lib.hid ho
    have L6' := Lib.hid L6
    clear ho L6
    go_wp2
    go_ret2
    exact HQ.out _ _ ⟨_, rfl, HO.out.mono hs5, step M5.out L6'.out⟩
  have b0 : (c == 0) = false := by simpa using h0
  have FA : Hid (∀ (w : World) (g : Nat), Blk w g 32 cs → w.cell? ⟨g, 49, none⟩ = some (.string a.user) ∧ w.cell? ⟨g, 50, none⟩ = some (.string a.share) ∧ Holds w w.heap.size (some ⟨g, 17, none⟩) 32 32 a.proof) := by
    intro w g h
    obtain ⟨D1, D2, D3, X1, X2, X3, M1, M2, M3, rfl, _⟩ := HA.out
    exact ⟨h.at (acells_get ka 0), h.at (acells_get ka 1), acells_proofH ka h⟩
  by_cases h1 : c = 1
  · have CT : Hid (∀ w' : World, Below w.heap.size w w' → Calls Tryd.prog 34 #[.string a.user] w' fun e w2 => ∃ v, e = .returned (.tuple #[v, .int .i64 (ptextErr a.user.data.toList)]) ∧ Own w2 w'.heap.size v (ptextOf a.user.data.toList) ∧ Below w'.heap.size w' w2) := fun w' hb => PutText_any a.user w' hu0 (HT.out.below hb)
    have h2 : askErrP c a = ptextErr a.user.data.toList := by unfold askErrP; rw [if_pos ⟨hk, hz⟩, if_neg h0, if_pos h1]
    have c1 : (c == 1) = true := by simpa using h1
    have HPB := Lib.hid (ptextOf_bytes a.user.data.toList)
    have hpl := rowOf_le a.user.data.toList
    by_cases hp : ptextErr a.user.data.toList = 0
    · have HQ : Hid (∀ e w', (∃ v, e = .returned (.tuple #[v, .int .i64 0]) ∧ Own w' w.heap.size v (a.proof ++ ptextOf a.user.data.toList) ∧ Below w.heap.size w w') → PAskPost w c a e w') := by
        intro e w' hh
        unfold PAskPost askOfP
        rw [h2, hp, if_pos rfl, if_neg h0, if_pos h1]
        exact hh
      rw [hp] at CT
      obtain ⟨ys, hys⟩ : ∃ x, x = ptextOf a.user.data.toList := ⟨_, rfl⟩
      rw [← hys] at HQ CT HPB hpl
      obtain ⟨tx, htx⟩ : ∃ x, x = a.user := ⟨_, rfl⟩
      obtain ⟨px, hpx⟩ : ∃ x, x = a.proof := ⟨_, rfl⟩
      rw [← htx, ← hpx] at FA
      rw [← htx] at CT
      rw [← hpx] at HQ
      obtain ⟨b, hb⟩ : ∃ b, b = besideAsk c a := ⟨_, rfl⟩
      rw [← hb] at CB CZ kb
      clear hk hz HA ka ha h2 hys htx hpx h0 h1 hb hu0 hu1 hp
      go_enter Tryd.func61, Tryd.ntmps61
      go_wp2_with (first
        | ((with_reducible show wpList _ _ _ (⟨some 3, _, _, _, _, _⟩ :: _) _ _); refine wpList_box_blk rfl _ (.tmp 1) rfl cs rfl ?_; intro g w1 hg1 hg2 K1 L1)
        | ((with_reducible show wpList _ _ _ (⟨some 12, _, _, _, _, _⟩ :: _) _ _); refine wpList_load_blk rfl _ (.tmp 3) rfl g rfl _ cs K1 69 _ Tryd.underlying32 rfl size_ask HL ?_)
        | fail)
      refine (CB.out w1 L1.out).mono ?_
      rintro e w2 ⟨ds, rfl, hds, L2⟩
      have HD := Lib.hid hds
      have HDL := Lib.hid (hds.len kb)
      have HDO := Lib.hid hds.one
      have K2 := Lib.hid (K1.out.over L2)
      have M2 := Lib.hid (step L1.out L2)
      clear hds L2 K1
      go_wp2_with (first
        | ((with_reducible show wpList _ _ _ (⟨some 6, _, _, _, _, _⟩ :: _) _ _); refine wpList_alloc_blk rfl _ rfl zs _ ZH ?_; intro h w3 hg3 hg4 Z3 L3)
        | ((with_reducible show wpList _ _ _ (⟨none, .store _ (.tmp 6) _, _, _, _, _⟩ :: _) _ _); refine wpList_store_blk rfl _ (.tmp 6) (.tmp 14) rfl h rfl _ zs ds rfl Z3 69 size_ask HZ HDL HDO ?_; intro w4 X4 O4 hg5; have L4 := Lib.hid (below_only L3.out O4.out hg3); have M4 := Lib.hid (step M2.out L4.out); have K4 := Lib.hid (K2.out.over L4.out); have HD4 := Lib.hid (HD.out.over L4.out))
        | ((with_reducible show wpList _ _ _ (⟨some 19, _, _, _, _, _⟩ :: _) _ _); refine wpList_load_want (by kernel_rfl) _ (.tmp 6) rfl h rfl _ ds X4 69 _ Tryd.underlying32 rfl size_ask HDL ?_)
        | fail)
      refine (CZ.out w4 ds HD4.out).mono ?_
      rintro e w5 ⟨rfl, L5⟩
      have M5 := Lib.hid (step M4.out L5)
      have K5 := Lib.hid (K4.out.over L5)
      have hs5 := M5.out.size
      clear L5 K4 HD4 HD CZ CB X4 O4 Z3 L3 L4 M4 M2 K2
      obtain ⟨gd, _, _⟩ := FA.out _ _ K5.out
      go_wp2_with fail
      refine (CT.out w5 M5.out).mono ?_
      rintro e w6 ⟨v, rfl, ho, L6⟩
      obtain ⟨Av, cv, rfl, hh⟩ := ho.holds HPB.out (by omega)
      have HH := Lib.hid hh
      obtain ⟨_, _, hpr⟩ := FA.out _ _ (K5.out.over L6)
      have HPR := Lib.hid hpr
      have M6 := Lib.hid (step M5.out L6)
      obtain ⟨m, hm⟩ : ∃ m, m = ys.length := ⟨_, rfl⟩
      rw [← hm] at HH hpl ⊢
      clear ho hh hpr L6 gd hm
      go_wp2_with (first
        | ((with_reducible show wpList _ _ _ (⟨some 44, _, _, _, _, _⟩ :: _) _ _); refine wpList_litParts rfl 2 _ rfl [(some ⟨g, 17, none⟩, 32, 32, px), (Av, m, cv, ys)] rfl (by kernel_rfl) (List.forall_mem_cons.2 ⟨HPR.out, List.forall_mem_cons.2 ⟨HH.out, fun _ h => by cases h⟩⟩) ?_; intro g7 w7 P7 b7)
        | fail)
      refine (ConcatN_any _ g7 2 _ _ _ _ P7.out (by omega) (by show 0 + 32 + m ≤ _; omega)).mono ?_
      rintro e w8 ⟨v, rfl, ho, L8⟩
      have HO := Lib.hid ho
      have L8' := Lib.hid L8
      clear ho L8
      go_wp2
      go_ret2
      have M7 := step M6.out b7.out
      refine HQ.out _ _ ⟨_, rfl, ?_, step M7 L8'.out⟩
      have h9 := HO.out.mono (base' := w.heap.size) M7.size
      simpa [catL, partX] using h9
    · have HQ : Hid (∀ e w', e = .returned (.tuple #[.slice none 0 0, .int .i64 (ptextErr a.user.data.toList)]) → Below w.heap.size w w' → PAskPost w c a e w') := by
        intro e w' he hb
        unfold PAskPost askOfP
        rw [h2, if_neg hp]
        exact ⟨_, he, Own.nil _ _, hb⟩
      have hne : (ptextErr a.user.data.toList != 0) = true := by simpa using hp
      obtain ⟨ys, hys⟩ : ∃ x, x = ptextOf a.user.data.toList := ⟨_, rfl⟩
      obtain ⟨er, her⟩ : ∃ x, x = ptextErr a.user.data.toList := ⟨_, rfl⟩
      rw [← hys, ← her] at CT
      rw [← her] at HQ hne
      rw [← hys] at HPB hpl
      obtain ⟨tx, htx⟩ : ∃ x, x = a.user := ⟨_, rfl⟩
      rw [← htx] at FA CT
      obtain ⟨b, hb⟩ : ∃ b, b = besideAsk c a := ⟨_, rfl⟩
      rw [← hb] at CB CZ kb
      clear hk hz HA ka ha h2 hys her htx h0 h1 hb hu0 hu1 hp
      go_enter Tryd.func61, Tryd.ntmps61
      go_wp2_with (first
        | ((with_reducible show wpList _ _ _ (⟨some 3, _, _, _, _, _⟩ :: _) _ _); refine wpList_box_blk rfl _ (.tmp 1) rfl cs rfl ?_; intro g w1 hg1 hg2 K1 L1)
        | ((with_reducible show wpList _ _ _ (⟨some 12, _, _, _, _, _⟩ :: _) _ _); refine wpList_load_blk rfl _ (.tmp 3) rfl g rfl _ cs K1 69 _ Tryd.underlying32 rfl size_ask HL ?_)
        | fail)
      refine (CB.out w1 L1.out).mono ?_
      rintro e w2 ⟨ds, rfl, hds, L2⟩
      have HD := Lib.hid hds
      have HDL := Lib.hid (hds.len kb)
      have HDO := Lib.hid hds.one
      have K2 := Lib.hid (K1.out.over L2)
      have M2 := Lib.hid (step L1.out L2)
      clear hds L2 K1
      go_wp2_with (first
        | ((with_reducible show wpList _ _ _ (⟨some 6, _, _, _, _, _⟩ :: _) _ _); refine wpList_alloc_blk rfl _ rfl zs _ ZH ?_; intro h w3 hg3 hg4 Z3 L3)
        | ((with_reducible show wpList _ _ _ (⟨none, .store _ (.tmp 6) _, _, _, _, _⟩ :: _) _ _); refine wpList_store_blk rfl _ (.tmp 6) (.tmp 14) rfl h rfl _ zs ds rfl Z3 69 size_ask HZ HDL HDO ?_; intro w4 X4 O4 hg5; have L4 := Lib.hid (below_only L3.out O4.out hg3); have M4 := Lib.hid (step M2.out L4.out); have K4 := Lib.hid (K2.out.over L4.out); have HD4 := Lib.hid (HD.out.over L4.out))
        | ((with_reducible show wpList _ _ _ (⟨some 19, _, _, _, _, _⟩ :: _) _ _); refine wpList_load_want (by kernel_rfl) _ (.tmp 6) rfl h rfl _ ds X4 69 _ Tryd.underlying32 rfl size_ask HDL ?_)
        | fail)
      refine (CZ.out w4 ds HD4.out).mono ?_
      rintro e w5 ⟨rfl, L5⟩
      have M5 := Lib.hid (step M4.out L5)
      have K5 := Lib.hid (K4.out.over L5)
      have hs5 := M5.out.size
      clear L5 K4 HD4 HD CZ CB X4 O4 Z3 L3 L4 M4 M2 K2
      obtain ⟨gd, _, _⟩ := FA.out _ _ K5.out
      go_wp2_with fail
      refine (CT.out w5 M5.out).mono ?_
      rintro e w6 ⟨v, rfl, ho, L6⟩
      obtain ⟨Av, cv, rfl⟩ := ho.len
      clear ho
      go_wp2
      go_ret2
      exact HQ.out _ _ rfl (step M5.out L6)
  have b1 : (c == 1) = false := by simpa using h1
  by_cases h3 : c = 3
  · have CT : Hid (∀ w' : World, Below w.heap.size w w' → Calls Tryd.prog 34 #[.string a.share] w' fun e w2 => ∃ v, e = .returned (.tuple #[v, .int .i64 (ptextErr a.share.data.toList)]) ∧ Own w2 w'.heap.size v (ptextOf a.share.data.toList) ∧ Below w'.heap.size w' w2) := fun w' hb => PutText_any a.share w' hu1 (HT.out.below hb)
    have h2 : askErrP c a = ptextErr a.share.data.toList := by unfold askErrP; rw [if_pos ⟨hk, hz⟩, if_neg h0, if_neg h1, if_pos h3]
    have c3 : (c == 3) = true := by simpa using h3
    have HQ : Hid (∀ e w', (∃ v, e = .returned (.tuple #[v, .int .i64 (ptextErr a.share.data.toList)]) ∧ Own w' w.heap.size v (ptextOf a.share.data.toList) ∧ Below w.heap.size w w') → PAskPost w c a e w') := by
      intro e w' hh
      unfold PAskPost askOfP
      rw [h2, if_neg h0, if_neg h1, if_pos h3]
      by_cases hp : ptextErr a.share.data.toList = 0
      · rw [if_pos hp]; exact hh
      · rw [if_neg hp]; unfold ptextOf at hh; rw [if_neg hp] at hh; exact hh
    obtain ⟨er, her⟩ : ∃ x, x = ptextErr a.share.data.toList := ⟨_, rfl⟩
    obtain ⟨ys, hys⟩ : ∃ x, x = ptextOf a.share.data.toList := ⟨_, rfl⟩
    rw [← her, ← hys] at HQ CT
    obtain ⟨tx, htx⟩ : ∃ x, x = a.share := ⟨_, rfl⟩
    rw [← htx] at FA CT
    obtain ⟨b, hb⟩ : ∃ b, b = besideAsk c a := ⟨_, rfl⟩
    rw [← hb] at CB CZ kb
    clear hk hz HA ka ha h2 her hys htx h0 h1 h3 hb hu0 hu1
    have b1 : (c == 1) = false := by have h := c3; simp only [beq_iff_eq] at h; subst h; rfl
    go_enter Tryd.func61, Tryd.ntmps61
    go_wp2_with (first
      | ((with_reducible show wpList _ _ _ (⟨some 3, _, _, _, _, _⟩ :: _) _ _); refine wpList_box_blk rfl _ (.tmp 1) rfl cs rfl ?_; intro g w1 hg1 hg2 K1 L1)
      | ((with_reducible show wpList _ _ _ (⟨some 12, _, _, _, _, _⟩ :: _) _ _); refine wpList_load_blk rfl _ (.tmp 3) rfl g rfl _ cs K1 69 _ Tryd.underlying32 rfl size_ask HL ?_)
      | fail)
    refine (CB.out w1 L1.out).mono ?_
    rintro e w2 ⟨ds, rfl, hds, L2⟩
    have HD := Lib.hid hds
    have HDL := Lib.hid (hds.len kb)
    have HDO := Lib.hid hds.one
    have K2 := Lib.hid (K1.out.over L2)
    have M2 := Lib.hid (step L1.out L2)
    clear hds L2 K1
    go_wp2_with (first
      | ((with_reducible show wpList _ _ _ (⟨some 6, _, _, _, _, _⟩ :: _) _ _); refine wpList_alloc_blk rfl _ rfl zs _ ZH ?_; intro h w3 hg3 hg4 Z3 L3)
      | ((with_reducible show wpList _ _ _ (⟨none, .store _ (.tmp 6) _, _, _, _, _⟩ :: _) _ _); refine wpList_store_blk rfl _ (.tmp 6) (.tmp 14) rfl h rfl _ zs ds rfl Z3 69 size_ask HZ HDL HDO ?_; intro w4 X4 O4 hg5; have L4 := Lib.hid (below_only L3.out O4.out hg3); have M4 := Lib.hid (step M2.out L4.out); have K4 := Lib.hid (K2.out.over L4.out); have HD4 := Lib.hid (HD.out.over L4.out))
      | ((with_reducible show wpList _ _ _ (⟨some 19, _, _, _, _, _⟩ :: _) _ _); refine wpList_load_want (by kernel_rfl) _ (.tmp 6) rfl h rfl _ ds X4 69 _ Tryd.underlying32 rfl size_ask HDL ?_)
      | fail)
    refine (CZ.out w4 ds HD4.out).mono ?_
    rintro e w5 ⟨rfl, L5⟩
    have M5 := Lib.hid (step M4.out L5)
    have K5 := Lib.hid (K4.out.over L5)
    have hs5 := M5.out.size
    clear L5 K4 HD4 HD CZ CB X4 O4 Z3 L3 L4 M4 M2 K2
    obtain ⟨_, gd, _⟩ := FA.out _ _ K5.out
    go_wp2_with fail
    refine (CT.out w5 M5.out).mono ?_
    rintro e w6 ⟨v, rfl, ho, L6⟩
    have HO := Lib.hid ho
    have L6' := Lib.hid L6
    clear ho L6
    go_wp2
    go_ret2
    exact HQ.out _ _ ⟨_, rfl, HO.out.mono hs5, step M5.out L6'.out⟩
  have b3 : (c == 3) = false := by simpa using h3
  have h2 : askErrP c a = 0 := by unfold askErrP; rw [if_pos ⟨hk, hz⟩, if_neg h0, if_neg h1, if_neg h3]
  have HQ : Hid (∀ e w', (∃ v, e = .returned (.tuple #[v, .int .i64 0]) ∧ Own w' w.heap.size v (List.replicate 4 0) ∧ Below w.heap.size w w') → PAskPost w c a e w') := by
    intro e w' hh
    unfold PAskPost askOfP
    rw [h2, if_pos rfl, if_neg h0, if_neg h1, if_neg h3]
    exact hh
  obtain ⟨b, hb⟩ : ∃ b, b = besideAsk c a := ⟨_, rfl⟩
  rw [← hb] at CB CZ kb
  clear hk hz HA ka ha h2 h0 h1 h3 hb hu0 hu1
  go_enter Tryd.func61, Tryd.ntmps61
  go_wp2_with (first
    | ((with_reducible show wpList _ _ _ (⟨some 3, _, _, _, _, _⟩ :: _) _ _); refine wpList_box_blk rfl _ (.tmp 1) rfl cs rfl ?_; intro g w1 hg1 hg2 K1 L1)
    | ((with_reducible show wpList _ _ _ (⟨some 12, _, _, _, _, _⟩ :: _) _ _); refine wpList_load_blk rfl _ (.tmp 3) rfl g rfl _ cs K1 69 _ Tryd.underlying32 rfl size_ask HL ?_)
    | fail)
  refine (CB.out w1 L1.out).mono ?_
  rintro e w2 ⟨ds, rfl, hds, L2⟩
  have HD := Lib.hid hds
  have HDL := Lib.hid (hds.len kb)
  have HDO := Lib.hid hds.one
  have K2 := Lib.hid (K1.out.over L2)
  have M2 := Lib.hid (step L1.out L2)
  clear hds L2 K1
  go_wp2_with (first
    | ((with_reducible show wpList _ _ _ (⟨some 6, _, _, _, _, _⟩ :: _) _ _); refine wpList_alloc_blk rfl _ rfl zs _ ZH ?_; intro h w3 hg3 hg4 Z3 L3)
    | ((with_reducible show wpList _ _ _ (⟨none, .store _ (.tmp 6) _, _, _, _, _⟩ :: _) _ _); refine wpList_store_blk rfl _ (.tmp 6) (.tmp 14) rfl h rfl _ zs ds rfl Z3 69 size_ask HZ HDL HDO ?_; intro w4 X4 O4 hg5; have L4 := Lib.hid (below_only L3.out O4.out hg3); have M4 := Lib.hid (step M2.out L4.out); have K4 := Lib.hid (K2.out.over L4.out); have HD4 := Lib.hid (HD.out.over L4.out))
    | ((with_reducible show wpList _ _ _ (⟨some 19, _, _, _, _, _⟩ :: _) _ _); refine wpList_load_want (by kernel_rfl) _ (.tmp 6) rfl h rfl _ ds X4 69 _ Tryd.underlying32 rfl size_ask HDL ?_)
    | fail)
  refine (CZ.out w4 ds HD4.out).mono ?_
  rintro e w5 ⟨rfl, L5⟩
  have M5 := Lib.hid (step M4.out L5)
  have K5 := Lib.hid (K4.out.over L5)
  have hs5 := M5.out.size
  clear L5 K4 HD4 HD CZ CB X4 O4 Z3 L3 L4 M4 M2 K2
  go_wp2_with (at_make; refine wpList_make_bytes _ rfl _ _ rfl _ _ 4 rfl rfl rfl rfl (by omega) ?_; intro w6 R6 L6)
  go_ret2
  exact HQ.out _ _ ⟨_, rfl, row_zeros R6.out hs5 (by omega), step M5.out L6⟩
end Go.Proofs.YtdlcjobahdmapaaDoor

namespace Go.Proofs.YtdlcjobahdmapaaDoor
set_option linter.all false
open Go.RowKit
set_option linter.unusedVariables false
set_option maxRecDepth 100000
abbrev OwnB (w : World) (base : Nat) (v : Value) (xs : List Int) : Prop := OwnZ .u8 5 w base v xs
theorem OwnZ.own8 {w : World} {base : Nat} {v : Value} {xs : List Int} (h : OwnZ .u8 5 w base v xs) : Own w base v xs := h.own
theorem OwnZ.holds8 {w : World} {base : Nat} {v : Value} {xs : List Int} (h : OwnZ .u8 5 w base v xs) (hx : Bytes xs) (hn : xs.length ≤ 281474976710656) :
    ∃ A c, v = .slice A xs.length c ∧ Holds w w.heap.size A xs.length c xs := h.own8.holds hx hn
def PRowPostB (w : World) (xs : List Int) (e : Ending) (w' : World) : Prop := ∃ v, e = .returned (.tuple #[v, .int .i64 (rowErr xs.length)]) ∧ OwnB w' w.heap.size v (rowOf xs) ∧ Below w.heap.size w w'
def PPTextPostB (w : World) (l : List UInt8) (e : Ending) (w' : World) : Prop := ∃ v, e = .returned (.tuple #[v, .int .i64 (ptextErr l)]) ∧ OwnB w' w.heap.size v (ptextOf l) ∧ Below w.heap.size w w'
set_option maxHeartbeats 1000000 in
theorem PutRowB_any (w : World) (A : Option Addr) (n c : Nat) (xs : List Int) (h : Holds w w.heap.size A n c xs) :
    Calls Tryd.prog 64 #[.slice A n c] w (PRowPostB w xs) := by
  have hl := h.len
  have hr := h.room
  have hf := h.fit
  have C1 := Put_any w (n : Int) 2 (by omega) (by omega)
  unfold PutPost at C1
  have hz : IntKind.u64.wrap (n : Int) = n := by rw [IntKind.wrap_u64]; omega
  by_cases hn : n ≤ 65535
  · obtain ⟨e0, e1⟩ := putOf2 n hn
    rw [e0, e1, le_length] at C1
    have HQ : Hid (∀ e w', (∃ v, e = .returned (.tuple #[v, .int .i64 0]) ∧ OwnB w' w.heap.size v (le n 2 ++ xs) ∧ Below w.heap.size w w') → PRowPostB w xs e w') := by
      intro e w' hh
      unfold PRowPostB rowErr rowOf
      rw [hl, if_pos hn, if_pos hn]
      exact hh
    have HLB : Hid (Bytes (le (n : Int) 2)) := le_bytes _ _
    have HLL : Hid ((le (n : Int) 2).length = 2) := le_length _ _
    obtain ⟨ls, hls⟩ : ∃ ls, ls = le (n : Int) 2 := ⟨_, rfl⟩
    rw [← hls] at C1 HQ HLB HLL
    have C1' := Lib.hid C1
    have HX := Lib.hid h
    clear C1 hls e0 e1 h hl
    go_enter Tryd.func64, Tryd.ntmps64
    go_wp2_with fail
    refine C1'.out.mono ?_
    rintro e w1 ⟨A', rfl, hfr, L1⟩
    have H1 := Lib.hid (hfr.holds (n := 2) HLL.out HLB.out (by omega))
    have HX1 := Lib.hid (HX.out.over L1)
    have M1 := Lib.hid L1
    clear hfr L1 C1' HX
    go_wp2_with (first
      | ((with_reducible show wpList _ _ _ (⟨some 17, _, _, _, _, _⟩ :: _) _ _); refine wpList_litParts rfl 2 _ rfl [(A', 2, 2, ls), (A, n, c, xs)] rfl (by kernel_rfl) (List.forall_mem_cons.2 ⟨H1.out, List.forall_mem_cons.2 ⟨HX1.out, fun _ h => by cases h⟩⟩) ?_; intro g2 w2 P2 b2)
      | fail)
    refine (ConcatZ_any _ g2 2 _ _ _ _ P2.out (by omega) (by show 0 + 2 + n ≤ _; omega)).mono ?_
    rintro e w3 ⟨v, rfl, ho, L3⟩
    have HO := Lib.hid ho
    have L3' := Lib.hid L3
    clear ho L3
    go_wp2
    go_ret2
    refine HQ.out _ _ ⟨_, rfl, ?_, step (step M1.out b2.out) L3'.out⟩
    have := HO.out.mono (base' := w.heap.size) (step M1.out b2.out).size
    simpa [catL, partX] using this
  · obtain ⟨e1, e0⟩ := putErr2 n hn
    rw [e0, e1] at C1
    have HQ : Hid (∀ e w', (∃ v, e = .returned (.tuple #[v, .int .i64 3]) ∧ OwnB w' w.heap.size v [] ∧ Below w.heap.size w w') → PRowPostB w xs e w') := by
      intro e w' hh
      unfold PRowPostB rowErr rowOf
      rw [hl, if_neg hn, if_neg hn]
      exact hh
    have C1' := Lib.hid C1
    clear C1 e0 e1 h hl
    go_enter Tryd.func64, Tryd.ntmps64
    go_wp2_with fail
    refine C1'.out.mono ?_
    rintro e w1 ⟨A', rfl, hfr, L1⟩
    clear hfr C1'
    go_wp2
    go_ret2
    exact HQ.out _ _ ⟨_, rfl, OwnZ.nil _ _ _ _, L1⟩
set_option maxHeartbeats 1000000 in
theorem PutTextB_any (s : ByteArray) (w : World) (hs : s.size ≤ 17592186044416) (hT : Tabs w) :
    Calls Tryd.prog 34 #[.string s] w (PPTextPostB w s.data.toList) := by
  have C1 := TPut_any s w hs hT
  unfold TPutPost at C1
  obtain ⟨l, hl⟩ : ∃ l, l = s.data.toList := ⟨_, rfl⟩
  rw [← hl] at C1 ⊢
  have hlen : (putOfL l).length ≤ 4 * s.size := by
    rw [hl]
    have := putOfL_length s.data.toList
    have := unitsOfL_le s.data.toList
    have e : s.data.toList.length = s.size := by rw [Array.length_toList]; rfl
    omega
  have HBY := Lib.hid (putOfL_byte l)
  by_cases ht : textErr l = 0
  rotate_left
  · have HQ : Hid (∀ e w', e = .returned (.tuple #[.slice none 0 0, .int .i64 (textErr l)]) → Below w.heap.size w w' → PPTextPostB w l e w') := by
      intro e w' he hb
      unfold PPTextPostB ptextOf ptextErr
      rw [if_neg ht, if_neg ht]
      exact ⟨_, he, OwnZ.nil _ _ _ _, hb⟩
    have hne : (textErr l != 0) = true := by simpa using ht
    obtain ⟨er, her⟩ : ∃ er, er = textErr l := ⟨_, rfl⟩
    obtain ⟨ys, hys⟩ : ∃ ys, ys = putOfL l := ⟨_, rfl⟩
    rw [← her] at HQ C1 hne
    rw [← hys] at C1
    have C1' := Lib.hid C1
    clear C1 her ht hl hlen HBY hys
    go_enter Tryd.func34, Tryd.ntmps34
    go_wp2_with fail
    refine C1'.out.mono ?_
    rintro e w1 ⟨v, rfl, ho, L1⟩
    have ho' : Own w1 w.heap.size v ys := ho.own
    obtain ⟨Av, cv, rfl⟩ := ho'.len
    clear ho'
    go_wp2
    go_ret2
    exact HQ.out _ _ rfl L1
  rw [ht] at C1
  by_cases hm : (putOfL l).length ≤ 512
  · have HQ : Hid (∀ e w', (∃ v, e = .returned (.tuple #[v, .int .i64 (rowErr (putOfL l).length)]) ∧ OwnB w' w.heap.size v (rowOf (putOfL l)) ∧ Below w.heap.size w w') → PPTextPostB w l e w') := by
      intro e w' hh
      have e0 : ptextErr l = 0 := by unfold ptextErr; rw [if_pos ht, if_pos hm]
      unfold PPTextPostB ptextOf
      rw [e0, if_pos rfl]
      unfold rowErr at hh
      rwa [if_pos (by omega : (putOfL l).length ≤ 65535)] at hh
    have CR : Hid (∀ (w : World) (A : Option Addr) (n c : Nat), Holds w w.heap.size A n c (putOfL l) → Calls Tryd.prog 64 #[.slice A n c] w (PRowPostB w (putOfL l))) := fun w A n c hh => PutRowB_any w A n c _ hh
    unfold PRowPostB at CR
    obtain ⟨er, her⟩ : ∃ er, er = rowErr (putOfL l).length := ⟨_, rfl⟩
    obtain ⟨rs, hrs⟩ : ∃ rs, rs = rowOf (putOfL l) := ⟨_, rfl⟩
    rw [← her, ← hrs] at HQ CR
    obtain ⟨ys, hys⟩ : ∃ ys, ys = putOfL l := ⟨_, rfl⟩
    rw [← hys] at C1 CR HBY hm
    obtain ⟨m, hm'⟩ : ∃ m, m = ys.length := ⟨_, rfl⟩
    have HM := Lib.hid hm'
    rw [← hm'] at hm
    have C1' := Lib.hid C1
    clear C1 her hrs ht hl hlen hys hm'
    go_enter Tryd.func34, Tryd.ntmps34
    go_wp2_with fail
    refine C1'.out.mono ?_
    rintro e w1 ⟨v, rfl, ho, L1⟩
    have ho' : Own w1 w.heap.size v ys := ho.own
    obtain ⟨Av, cv, rfl, hh⟩ := ho'.holds HBY.out (by have := HM.out; omega)
    rw [← HM.out] at hh ⊢
    have HH := Lib.hid hh
    have M1 := Lib.hid L1
    clear ho ho' hh L1 C1'
    go_wp2_with fail
    refine (CR.out _ _ _ _ HH.out).mono ?_
    rintro e w2 ⟨v, rfl, ho, L2⟩
    have HO := Lib.hid ho
    have L2' := Lib.hid L2
    clear ho L2
    go_wp2
    go_ret2
    exact HQ.out _ _ ⟨_, rfl, HO.out.mono M1.out.size, step M1.out L2'.out⟩
  · have HQ : Hid (∀ e w', e = .returned (.tuple #[.slice none 0 0, .int .i64 3]) → Below w.heap.size w w' → PPTextPostB w l e w') := by
      intro e w' he hb
      unfold PPTextPostB ptextOf ptextErr
      rw [if_pos ht, if_neg hm]
      exact ⟨_, he, OwnZ.nil _ _ _ _, hb⟩
    obtain ⟨ys, hys⟩ : ∃ ys, ys = putOfL l := ⟨_, rfl⟩
    rw [← hys] at C1 HBY hm hlen
    obtain ⟨m, hm'⟩ : ∃ m, m = ys.length := ⟨_, rfl⟩
    have HM := Lib.hid hm'
    rw [← hm'] at hm hlen
    have C1' := Lib.hid C1
    clear C1 ht hl hys hm'
    go_enter Tryd.func34, Tryd.ntmps34
    go_wp2_with fail
    refine C1'.out.mono ?_
    rintro e w1 ⟨v, rfl, ho, L1⟩
    have ho' : Own w1 w.heap.size v ys := ho.own
    obtain ⟨Av, cv, rfl, hh⟩ := ho'.holds HBY.out (by have := HM.out; omega)
    rw [← HM.out]
    clear ho ho' hh C1'
    go_wp2
    go_ret2
    exact HQ.out _ _ rfl L1
end Go.Proofs.YtdlcjobahdmapaaDoor

namespace Go.Proofs.YtdlcjobahdmapaaDoor
set_option linter.all false
open Go.RowKit
set_option linter.unusedVariables false
/-- a reader: its place, and its first error -/
structure Rd where
  p : Nat
  e : Int
def rdN (xs : List Int) (s : Nat) (r : Rd) : Int × Rd := if r.e = 0 then (if xs.length < r.p + s then (0, ⟨r.p, 4⟩) else (numAt xs r.p s, ⟨r.p + s, 0⟩)) else (0, r)
def rdMost (xs : List Int) (s : Nat) (most er : Int) (r : Rd) : Int × Rd := if (rdN xs s r).2.e = 0 ∧ most < (rdN xs s r).1 then (0, ⟨(rdN xs s r).2.p, er⟩) else rdN xs s r
def rdPart (xs : List Int) (m : Nat) (r : Rd) : List Int × Rd := if r.e = 0 then (if xs.length < r.p + m then ([], ⟨r.p, 4⟩) else ((xs.drop r.p).take m, ⟨r.p + m, 0⟩)) else ([], r)
def rdText (xs : List Int) (r : Rd) : List UInt8 × Rd := if r.e = 0 then (gtextOf xs r.p, ⟨if gtextErr xs r.p = 0 then (gtextNext xs r.p).toNat else r.p, gtextErr xs r.p⟩) else ([], r)
def rdEnd (xs : List Int) (r : Rd) : Int := if r.e = 0 ∧ r.p ≠ xs.length then 5 else r.e
theorem Save.setCell {g : Nat} {w w' : World} (h : Save g w w') (i : Nat) (v : Value) : Save g w (w'.setCell ⟨g, i, none⟩ v) := h.trans (Save.of_only (only_setCell w' g i v))
end Go.Proofs.YtdlcjobahdmapaaDoor

namespace Go.Proofs.YtdlcjobahdmapaaDoor
set_option linter.all false
open Go.RowKit
set_option linter.unusedVariables false
set_option maxRecDepth 100000
theorem rdPart_len {xs : List Int} {m : Nat} {r : Rd} : (rdPart xs m r).1.length ≤ m := by
  unfold rdPart
  split
  · split
    · simp
    · simp; omega
  · simp
theorem rdPart_bytes {xs : List Int} (h : Bytes xs) (m : Nat) (r : Rd) : Bytes (rdPart xs m r).1 := by
  unfold rdPart
  split
  · split
    · exact Bytes.nil
    · exact (h.drop _).take _
  · exact Bytes.nil
/-- what 'noughts' leaves -/
def rdZ (xs : List Int) (m : Nat) (r : Rd) : Rd := if (rdPart xs m r).2.e = 0 then (if zeroOf (rdPart xs m r).1 0 (m : Int) = true then (rdPart xs m r).2 else ⟨(rdPart xs m r).2.p, 5⟩) else (rdPart xs m r).2
theorem gtextNext_nonneg {xs : List Int} (hx : Bytes xs) (a : Int) (ha : 0 ≤ a) : 0 ≤ gtextNext xs a ∧ gtextNext xs a ≤ xs.length := by
  unfold gtextNext
  split
  · rename_i h
    unfold growNext
    split
    · rename_i h2
      have := growErr_room h2
      have := rowN_bounds xs hx a
      omega
    · omega
  · omega
end Go.Proofs.YtdlcjobahdmapaaDoor

namespace Go.Proofs.YtdlcjobahdmapaaDoor
set_option linter.all false
open Go.RowKit
set_option linter.unusedVariables false
set_option maxRecDepth 100000
theorem Save.thenBelow {g : Nat} {w w' w2 : World} (a : Save g w w') (b : Below w.heap.size w' w2) : Save g w w2 :=
  ⟨b.os.trans a.os, b.tape.trans a.tape, b.output.trans a.output, Nat.le_trans a.size b.size, fun j hj hg => (b.block j hj).trans (a.rest j hj hg)⟩
end Go.Proofs.YtdlcjobahdmapaaDoor

namespace Go.Proofs.YtdlcjobahdmapaaDoor
set_option linter.all false
open Go.RowKit
set_option linter.unusedVariables false
set_option maxRecDepth 100000
def rd0 : Rd := ⟨0, 0⟩
theorem rdEnd_zero {xs : List Int} {r : Rd} (h : rdEnd xs r = 0) : r.e = 0 := by
  unfold rdEnd at h
  split at h
  · exact absurd h (by decide)
  · exact h
theorem OwnK.save {k : IntKind} {e : TypeId} {w w' : World} {base g : Nat} {v : Value} {xs : List Int} (h : OwnK k e w base v xs) (hS : Save g w w') (hg : g < base) : OwnK k e w' base v xs :=
  h.keep fun i cs hi hc => hS.rest i (Array.getElem?_eq_some_iff.1 hc).1 (by obtain ⟨hb, _⟩ := h.block hi; omega)
end Go.Proofs.YtdlcjobahdmapaaDoor

namespace Go.Proofs.YtdlcjobahdmapaaDoor
set_option linter.all false
open Go.RowKit
set_option linter.unusedVariables false
set_option maxRecDepth 100000
/-! ### no beginning of a body is one -/
theorem rdPart_stick {xs : List Int} {m : Nat} {r : Rd} (h : ¬ r.e = 0) : (rdPart xs m r).2 = r := by unfold rdPart; rw [if_neg h]
end Go.Proofs.YtdlcjobahdmapaaDoor

namespace Go.Proofs.YtdlcjobahdmapaaDoor
set_option linter.all false
set_option linter.unusedVariables false
set_option maxRecDepth 100000
def knownF (c : Int) : Bool := decide (5 ≤ c) && decide (c ≤ 10)
/-- a lock's twenty bytes -/
def lockB (l : LockV) : List Int := le l.at_ 8 ++ (le l.n 8 ++ (le l.md 2 ++ List.replicate 2 0))
def locksB : List LockV → List Int
  | [] => []
  | l :: r => lockB l ++ locksB r
/-- an Ask without what its command's row names -/
def besideF (c : Int) (a : AskV) : AskV :=
  if c = 5 then { a with acc := 0, shr := 0, way := 0, opt := 0, lev := 0, dur := 0, name := .empty, file := 0 }
  else if c = 8 then { a with at_ := 0, n := 0, file := 0 }
  else if c = 9 then { a with at_ := 0, data := [], file := 0 }
  else if c = 10 then { a with locks := [], file := 0 }
  else { a with file := 0 }
def shut (ls : List LockV) : Bool := ls.all (fun l => l.op == 0)
def nameF (c : Int) (a : AskV) : Bool := knownF c && (decide (besideF c a = zeroAsk) && shut a.locks)
def fpErr (c : Int) (a : AskV) : Int :=
  if nameF c a = true then (if a.data.length ≤ 32768 ∧ a.locks.length ≤ 16 then (if c = 5 then ptextErr a.name.data.toList else 0) else 3) else 2
def bodyF (c : Int) (a : AskV) : List Int :=
  if c = 5 then le a.acc 4 ++ (le a.shr 4 ++ (le a.way 4 ++ (le a.opt 4 ++ (le a.lev 1 ++ (le a.dur 1 ++ (List.replicate 2 0 ++ (le a.file 8 ++ ptextOf a.name.data.toList)))))))
  else if c = 8 then le a.file 8 ++ (le a.at_ 8 ++ le a.n 4)
  else if c = 9 then le a.file 8 ++ (le a.at_ 8 ++ (le a.data.length 4 ++ a.data))
  else if c = 10 then le a.file 8 ++ (le a.locks.length 2 ++ (List.replicate 2 0 ++ locksB a.locks))
  else le a.file 8
def fpOf (c : Int) (a : AskV) : List Int := if fpErr c a = 0 then bodyF c a else []
/-- what Charge tells -/
def chargeF (c : Int) (a : AskV) : Int :=
  if c = 9 then (max (a.data.length : Int) 1 + 8191) / 8192 else if c = 8 then (max a.n 1 + 8191) / 8192 else 1
/-! ### reading -/
def rdUp (xs : List Int) (most : Int) (r : Rd) : Int × Rd := if (rdN xs 2 r).2.e = 0 ∧ most < (rdN xs 2 r).1 then ((rdN xs 2 r).1, ⟨(rdN xs 2 r).2.p, 5⟩) else rdN xs 2 r
def rdData (xs : List Int) (r : Rd) : List Int × Rd := rdPart xs (rdMost xs 4 32768 3 r).1.toNat (rdMost xs 4 32768 3 r).2
def rdLock (xs : List Int) (r : Rd) : LockV × Rd :=
  (⟨0, (rdN xs 8 r).1, (rdN xs 8 (rdN xs 8 r).2).1, (rdN xs 2 (rdN xs 8 (rdN xs 8 r).2).2).1⟩, rdZ xs 2 (rdN xs 2 (rdN xs 8 (rdN xs 8 r).2).2).2)
/-- k locks: as a loop that never ends early -/
def rdLocks (xs : List Int) (r : Rd) : Nat → List LockV × Rd
  | 0 => ([], r)
  | k + 1 => ((rdLocks xs r k).1 ++ [(rdLock xs (rdLocks xs r k).2).1], (rdLock xs (rdLocks xs r k).2).2)
def rdAll (xs : List Int) (r : Rd) : List LockV × Rd := rdLocks xs (rdZ xs 2 (rdMost xs 2 16 3 r).2) (rdMost xs 2 16 3 r).1.toNat
/-- the nine steps of a Create -/
def c1 (xs : List Int) := rdN xs 4 rd0
def c2 (xs : List Int) := rdN xs 4 (c1 xs).2
def c3 (xs : List Int) := rdN xs 4 (c2 xs).2
def c4 (xs : List Int) := rdN xs 4 (c3 xs).2
def c5 (xs : List Int) := rdN xs 1 (c4 xs).2
def c6 (xs : List Int) := rdN xs 1 (c5 xs).2
def c7 (xs : List Int) := rdZ xs 2 (c6 xs).2
def c8 (xs : List Int) := rdN xs 8 (c7 xs)
def c9 (xs : List Int) := rdText xs (c8 xs).2
/-- of the others: File, At, N, Data, Locks -/
def o1 (xs : List Int) := rdN xs 8 rd0
def o2 (xs : List Int) := rdN xs 8 (o1 xs).2
def o3 (xs : List Int) := rdN xs 4 (o2 xs).2
def o4 (xs : List Int) := rdData xs (o2 xs).2
def o5 (xs : List Int) := rdAll xs (o1 xs).2
def fgP (c : Int) (xs : List Int) : AskV × Rd :=
  if c = 5 then ({ zeroAsk with acc := (c1 xs).1, shr := (c2 xs).1, way := (c3 xs).1, opt := (c4 xs).1, lev := (c5 xs).1, dur := (c6 xs).1, file := (c8 xs).1, name := ⟨(c9 xs).1.toArray⟩ }, (c9 xs).2)
  else if c = 8 then ({ zeroAsk with file := (o1 xs).1, at_ := (o2 xs).1, n := (o3 xs).1 }, (o3 xs).2)
  else if c = 9 then ({ zeroAsk with file := (o1 xs).1, at_ := (o2 xs).1, data := (o4 xs).1 }, (o4 xs).2)
  else if c = 10 then ({ zeroAsk with file := (o1 xs).1, locks := (o5 xs).1 }, (o5 xs).2)
  else ({ zeroAsk with file := (o1 xs).1 }, (o1 xs).2)
def fgErr (c : Int) (xs : List Int) : Int := if knownF c = true then rdEnd xs (fgP c xs).2 else 2
def fgOf (c : Int) (xs : List Int) : AskV := if fgErr c xs = 0 then (fgP c xs).1 else zeroAsk
/-- the steps of what is said -/
def s1 (xs : List Int) := rdN xs 1 rd0
def s2 (xs : List Int) := rdN xs 1 (s1 xs).2
def s3 (xs : List Int) := rdUp xs 2 (s2 xs).2
def s4 (xs : List Int) := rdN xs 8 (s3 xs).2
def s5 (xs : List Int) := rdN xs 8 (s4 xs).2
def s6 (xs : List Int) := rdUp xs 2 (s5 xs).2
def s7 (xs : List Int) := rdZ xs 2 (s6 xs).2
def s8 (xs : List Int) := rdData xs rd0
def s9 (xs : List Int) := rdN xs 4 rd0
def sgP (c : Int) (xs : List Int) : SayV × Rd :=
  if c = 5 then ({ zeroSay with lev := (s1 xs).1, dur := (s2 xs).1, made := (s3 xs).1, file := (s4 xs).1, siz := (s5 xs).1, kind := (s6 xs).1 }, s7 xs)
  else if c = 8 then ({ zeroSay with data := (s8 xs).1 }, (s8 xs).2)
  else if c = 9 then ({ zeroSay with n := (s9 xs).1 }, (s9 xs).2)
  else (zeroSay, rdZ xs 4 rd0)
def sgErr (c : Int) (xs : List Int) : Int := if knownF c = true then rdEnd xs (sgP c xs).2 else 2
def sgOf (c : Int) (xs : List Int) : SayV := if sgErr c xs = 0 then (sgP c xs).1 else zeroSay
/-! ### their bounds -/
theorem rdN_lt {xs : List Int} (hx : Bytes xs) (s : Nat) (r : Rd) (M : Int) (hM : (256 : Int) ^ s = M) (h1 : 1 ≤ M) : 0 ≤ (rdN xs s r).1 ∧ (rdN xs s r).1 ≤ M - 1 := by
  unfold rdN
  split
  · split
    · exact ⟨Int.le_refl 0, by show (0 : Int) ≤ M - 1; omega⟩
    · exact numAt_bounds xs hx r.p s M hM
  · exact ⟨Int.le_refl 0, by show (0 : Int) ≤ M - 1; omega⟩
theorem rdUp_lt {xs : List Int} (hx : Bytes xs) (most : Int) (r : Rd) : 0 ≤ (rdUp xs most r).1 ∧ (rdUp xs most r).1 ≤ 65535 := by
  have := rdN_lt hx 2 r 65536 (by decide) (by decide)
  unfold rdUp
  split
  · exact ⟨this.1, by show (rdN xs 2 r).1 ≤ _; omega⟩
  · exact ⟨this.1, by omega⟩
theorem rdUp_ok {xs : List Int} {most : Int} {r : Rd} (h : (rdUp xs most r).2.e = 0) : (rdN xs 2 r).2.e = 0 ∧ (rdN xs 2 r).1 ≤ most ∧ rdUp xs most r = rdN xs 2 r := by
  unfold rdUp at h ⊢
  split
  · rename_i h1
    rw [if_pos h1] at h
    exact absurd h (show ¬ (5 : Int) = 0 by decide)
  · rename_i h1
    rw [if_neg h1] at h
    refine ⟨h, ?_, rfl⟩
    by_cases h2 : (rdN xs 2 r).1 ≤ most
    · exact h2
    · exact absurd ⟨h, by omega⟩ h1
/-- the two ways to say that a number is at most so great end alike -/
theorem rdUp_most (xs : List Int) (most : Int) (r : Rd) : (rdMost xs 2 most 5 r).2 = (rdUp xs most r).2 ∧ ((rdUp xs most r).2.e = 0 → (rdMost xs 2 most 5 r).1 = (rdUp xs most r).1) := by
  unfold rdMost rdUp
  split
  · exact ⟨rfl, fun h => absurd h (show ¬ (5 : Int) = 0 by decide)⟩
  · exact ⟨rfl, fun _ => rfl⟩
theorem rdMost_lt {xs : List Int} (hx : Bytes xs) (s : Nat) (most er : Int) (r : Rd) (hs : 1 ≤ s ∧ s ≤ 8) (hm : 0 ≤ most) : 0 ≤ (rdMost xs s most er r).1 ∧ (rdMost xs s most er r).1 ≤ most := by
  have h0 : 0 ≤ (rdN xs s r).1 := by
    unfold rdN
    split
    · split
      · exact Int.le_refl 0
      · exact (numAt_bounds xs hx r.p s _ rfl).1
    · exact Int.le_refl 0
  unfold rdMost
  split
  · exact ⟨Int.le_refl 0, hm⟩
  · rename_i h1
    by_cases h2 : (rdN xs s r).2.e = 0
    · refine ⟨h0, ?_⟩
      by_cases h3 : most < (rdN xs s r).1
      · exact absurd ⟨h2, h3⟩ h1
      · omega
    · refine ⟨h0, ?_⟩
      unfold rdN at h2 ⊢
      split
      · rename_i h4
        split
        · exact hm
        · rename_i h5
          rw [if_pos h4, if_neg h5] at h2
          exact absurd rfl h2
      · exact hm
/-! ### the two loops over locks -/
theorem rdN_stick {xs : List Int} {s : Nat} {r : Rd} (h : ¬ r.e = 0) : (rdN xs s r).2 = r := by unfold rdN; rw [if_neg h]
theorem rdZ_stick {xs : List Int} {m : Nat} {r : Rd} (h : ¬ r.e = 0) : rdZ xs m r = r := by
  have := rdPart_stick (xs := xs) (m := m) h
  unfold rdZ
  rw [if_neg (by rw [this]; exact h), this]
theorem rdMost_stick {xs : List Int} {s : Nat} {most er : Int} {r : Rd} (h : ¬ r.e = 0) : (rdMost xs s most er r).2 = r := by
  have := rdN_stick (xs := xs) (s := s) h
  unfold rdMost
  rw [if_neg (fun h1 => h (by rw [← this]; exact h1.1)), this]
theorem rdUp_stick {xs : List Int} {most : Int} {r : Rd} (h : ¬ r.e = 0) : (rdUp xs most r).2 = r := by
  rw [← (rdUp_most xs most r).1]; exact rdMost_stick h
theorem rdLocks_len {xs : List Int} {r : Rd} (k : Nat) : (rdLocks xs r k).1.length = k := by
  induction k with
  | zero => rfl
  | succ k ih => simp [rdLocks, ih]
theorem locksB_snoc (ls : List LockV) (l : LockV) : locksB (ls ++ [l]) = locksB ls ++ lockB l := by
  induction ls with
  | nil => simp [locksB]
  | cons a r ih => simp [locksB, ih, List.append_assoc]
theorem lockB_len (l : LockV) : (lockB l).length = 20 := by simp [lockB, le_length]
theorem locksB_len (ls : List LockV) : (locksB ls).length = 20 * ls.length := by
  induction ls with
  | nil => rfl
  | cons a r ih => simp only [locksB, List.length_append, lockB_len, ih, List.length_cons]; omega
theorem lockB_bytes (l : LockV) : Bytes (lockB l) := (le_bytes _ _).append ((le_bytes _ _).append ((le_bytes _ _).append (Bytes.zeros 2)))
theorem locksB_bytes (ls : List LockV) : Bytes (locksB ls) := by
  induction ls with
  | nil => exact Bytes.nil
  | cons a r ih => exact (lockB_bytes a).append ih
end Go.Proofs.YtdlcjobahdmapaaDoor

namespace Go.Proofs.YtdlcjobahdmapaaDoor
set_option linter.all false
open Go.RowKit
set_option linter.unusedVariables false
set_option maxRecDepth 100000
theorem run_append_zeros {w : World} {base n : Nat} {v : Value} {xs : List Int} (h0 : 0 < n) (hn : n ≤ 65536) (hown : OwnZ .u8 5 w base v xs) (hx : xs.length ≤ 1000000) (hbase : base ≤ w.heap.size) (ty : TypeId) :
    ∃ v' w', (Builtin.append_ #[29, 3] ty #[v, .int .i64 (n : Int)]).run Tryd.prog w = .ok v' w' ∧ OwnZ .u8 5 w' base v' (xs ++ List.replicate n 0) ∧ w.grownBy w' v.ownBlock := by
  obtain ⟨i0, hi, hz0, hz1, hz2⟩ := info_parts info_u8
  have hmax : maxLen = 9223372036854775807 := rfl
  have ht : Tryd.prog.underlying 29 = some (.slice 5) := Tryd.underlying29
  have htn : Tryd.prog.underlying 3 = some (.int .i64) := Tryd.underlying3
  have hw : IntKind.i64.wrap (n : Int) = n := by rw [IntKind.wrap_i64]; omega
  have hneg : ¬ ((n : Int) < 0) := by omega
  have h48i : ¬ (281474976710656 < (n : Int) * (i0.bytes : Int)) := by rw [hz2]; omega
  have hns : ¬ (n * i0.size = 0) := by rw [hz1]; omega
  have hn0 : n ≠ 0 := by omega
  have hOK := hown.own
  rcases hown with ⟨rfl, rfl⟩ | ⟨g, z, rfl, hb, hz, hg⟩
  · have hrun := Lib.run_append_nil_zeros (P := Tryd.prog) w 29 3 ty 5 i0 (.int .u8 0) .i64 .i64 ht htn hi hz0 n h0 (by omega) (by omega) (by rw [hz2]; omega)
    refine ⟨_, _, hrun, ?_, ⟨rfl, rfl, rfl, by simp, fun j hj _ => Below.heap_alloc w.drew _ j hj⟩⟩
    have := grew_new .u8 5 w base (List.replicate n 0) 0 n (by simp) hbase (by omega)
    rw [zeroCells_int .u8 n, List.nil_append]
    simpa using this
  · by_cases hroom : xs.length + n ≤ xs.length + z
    · have hst := run_storeCells_at Tryd.prog g (xs.length * i0.size) 5 ((List.replicate n (0 : Int)).map (Value.int .u8)) 0 _ w hg (by simp [hz1]; omega) (by intro u hu; obtain ⟨x, _, rfl⟩ := List.mem_map.1 hu; rfl)
      simp only [Nat.add_zero] at hst
      have hzc : (Builtin.zeroCells (Value.int .u8 0).cells n).toList = (List.replicate n (0 : Int)).map (Value.int .u8) := by rw [zeroCells_int]; simp
      refine ⟨.slice (some ⟨g, 0, none⟩) (xs.length + n) (xs.length + z), w.setRow g ((xs ++ List.replicate n 0 ++ List.replicate (z - n) 0).map (Value.int .u8)).toArray, ?_, .inr ⟨g, z - n, by simp; omega, hb, by simp; omega, setRow_heap w g _ _ 5 _ hg⟩, ?_⟩
      rotate_left
      · exact ⟨rfl, rfl, rfl, by simp, fun j _ hj => setRow_other w g j _ (fun e => hj (by simp [Value.ownBlock, e]))⟩
      · have e1 : ((xs ++ List.replicate z (0 : Int)).map (Value.int .u8)).take (xs.length * i0.size) = xs.map (Value.int .u8) := by
          rw [hz1, Nat.mul_one, List.map_append, List.take_left' (by simp)]
        have e2 : ((xs ++ List.replicate z (0 : Int)).map (Value.int .u8)).drop (xs.length * i0.size + ((List.replicate n (0 : Int)).map (Value.int .u8)).length) = (List.replicate (z - n) (0 : Int)).map (Value.int .u8) := by
          rw [hz1, Nat.mul_one, List.length_map, List.length_replicate, ← List.drop_drop, List.map_append, List.drop_left' (by simp), ← List.map_drop, List.drop_replicate]
        rw [e1, e2, ← hzc] at hst
        rw [List.map_append, List.map_append, ← hzc]
        have hroom2 : n ≤ z := by omega
        simp [Builtin.append_, run_underlying ht, run_underlying htn, sizeOf, typeInfo, zeroValue, hi, hz0, asInt, asIntOf, hw, hneg, hns, h48i, hroom2, Addr.add_lit, hst, hn0]
    · have hcells : ∀ j y, (xs.map (Value.int .u8))[j]? = some y → w.cell? ((⟨g, 0, none⟩ : Addr).add j) = some y := hOK.cells (g := g) rfl
      have hfit := growslice_fits (need := xs.length + n) (old := xs.length + z) (bytes := i0.bytes) (by omega) (by rw [hz2]; omega)
      have h48' : ¬ (281474976710656 < Builtin.nextslicecap (xs.length + n) (xs.length + z) * i0.bytes) := by omega
      have h63' : ¬ (9223372036854775807 < ((xs.length : Int) + (n : Int))) := by omega
      have hfo := run_firstCells_some (P := Tryd.prog) w.drew i0.size xs.length ⟨g, 0, none⟩ xs.length (xs.length + z) (xs.map (Value.int .u8)) (by simp [hz1]) (by simpa using hcells)
      have hnr : ¬ n ≤ z := by omega
      have := grew_new .u8 5 w base (xs ++ List.replicate n 0) (xs.length + z) (xs.length + n) (by simp) hbase (by omega)
      refine ⟨.slice (some ⟨w.heap.size, 0, none⟩) (xs.length + n) (grownCap w (xs.length + n) (xs.length + z) 5), _, ?_, this, ?_⟩
      rotate_left
      · exact ⟨rfl, rfl, rfl, by simp, fun j hj _ => Below.heap_alloc w.drew _ j hj⟩
      · simp [Builtin.append_, run_underlying ht, run_underlying htn, sizeOf, typeInfo, zeroValue, hi, hz0, asInt, asIntOf, hw, hneg, hns, h48i, h48', h63', hn0, Question.forced, hfo, newRow, grownCap, hnr, zeroCells_int]
        congr 2
        apply Array.ext'
        simp [List.append_assoc, List.replicate_append_replicate]
/-- append(out, make([]byte, n)...), out the call's own -/
theorem wpList_append_zeros {w : World} {ops : Array Oper} {rest : List Oper} {o : Oper} {a : Act} {Q : Exit → Act → World → Prop} (hgd : o.guard = none) (s x : Operand)
    (ho : o.op = .call { callee := .builtin .append, args := #[s, x], argTypes := #[29, 3] })
    (base n : Nat) (v : Value) (xs : List Int) (hs : a.eval s = v) (hx : a.eval x = .int .i64 (n : Int)) (hown : OwnZ .u8 5 w base v xs) (h0 : 0 < n) (hn : n ≤ 65536) (hlen : xs.length ≤ 1000000) (hbase : base ≤ w.heap.size)
    (h : ∀ v' w', Hid (OwnZ .u8 5 w' base v' (xs ++ List.replicate n 0)) → Hid (Below base w w') → wpList Tryd.prog ops Q rest (a.put o.dst v') w') :
    wpList Tryd.prog ops Q (o :: rest) a w := by
  have hOK := hown.own
  obtain ⟨v', w', hrun, h2, h3⟩ := run_append_zeros h0 hn hown hlen hbase o.type
  exact Lib.wpList_append_run w hgd s x _ _ ho _ _ hs hx v' w' hrun (h v' w' h2 ((Below.refl _ _).grown h3 hbase (fun k hk => (World.ownsRow.lt hOK k hk).1)))
/-- the bytes of numbers, one behind the other -/
def numsB (s : Nat) : List Int → List Int
  | [] => []
  | x :: r => le x s ++ numsB s r
theorem numsB_snoc (s : Nat) (xs : List Int) (x : Int) : numsB s (xs ++ [x]) = numsB s xs ++ le x s := by
  induction xs with
  | nil => simp [numsB]
  | cons a r ih => simp [numsB, ih, List.append_assoc]
theorem numsB_len (s : Nat) (xs : List Int) : (numsB s xs).length = s * xs.length := by
  induction xs with
  | nil => rfl
  | cons a r ih => simp only [numsB, List.length_append, le_length, ih, List.length_cons, Nat.mul_add, Nat.mul_one]; omega
theorem numsB_bytes (s : Nat) (xs : List Int) : Bytes (numsB s xs) := by
  induction xs with
  | nil => exact Bytes.nil
  | cons a r ih => exact (le_bytes _ _).append ih
def NumsPost (w : World) (s : Nat) (vs : List Int) (e : Ending) (w' : World) : Prop := ∃ v, e = .returned v ∧ OwnZ .u8 5 w' w.heap.size v (numsB s vs) ∧ Below w.heap.size w w'
set_option maxHeartbeats 1000000 in
theorem numbers_any (w : World) (gl m s : Nat) (vs : List Int) (hB : Blk w gl 28 (vs.map (Value.int .u64))) (hl : vs.length = m) (hm : m ≤ 1000) (hs : sizeOk (s : Int) = true) (hv : ∀ x ∈ vs, 0 ≤ x ∧ x < 256 ^ s) :
    Calls Tryd.prog 33 #[.int .i64 (s : Int), .slice (some ⟨gl, 0, none⟩) m m] w (NumsPost w s vs) := by
  have hs8 : 1 ≤ s ∧ s ≤ 8 := by rcases sizeOk_cases hs with h | h | h | h <;> omega
  obtain ⟨hs1, hs8⟩ := hs8
  have hgl := hB.lt
  have HBl := Lib.hid hB
  have HL := Lib.hid hl
  have hp8 : (256 : Int) ^ s ≤ 18446744073709551616 := by
    rcases sizeOk_cases hs with h | h | h | h
    · obtain rfl : s = 1 := by omega
      decide
    · obtain rfl : s = 2 := by omega
      decide
    · obtain rfl : s = 4 := by omega
      decide
    · obtain rfl : s = 8 := by omega
      decide
  have CP : Hid (∀ (w : World) (x : Int), x ∈ vs → Calls Tryd.prog 62 #[.int .u64 x, .int .i64 (s : Int)] w fun e w' => ∃ A', e = .returned (.tuple #[.slice A' s s, .int .i64 0]) ∧ Fresh w' w.heap.size A' (le x s) ∧ Below w.heap.size w w') := fun w x hx => by
    obtain ⟨h0, h1⟩ := hv x hx
    have h := Put_any w x (s : Int) ⟨h0, by omega⟩ (by omega)
    unfold PutPost at h
    have hp : putOk x (s : Int) = true := by unfold putOk; rw [hs, Int.toNat_natCast, decide_eq_true h1]; rfl
    unfold putErr putOf at h
    rw [if_pos hp, if_pos hp, Int.toNat_natCast, le_length] at h
    exact h
  have HQ : Hid (∀ e w', (∃ v, e = .returned v ∧ OwnZ .u8 5 w' w.heap.size v (numsB s vs) ∧ Below w.heap.size w w') → NumsPost w s vs e w') := fun _ _ h => h
  have HLB : Hid (∀ x : Int, (le x s).length = s ∧ Bytes (le x s)) := fun x => ⟨le_length x s, le_bytes x s⟩
  have HNL : Hid (∀ j, j ≤ m → (numsB s (vs.take j)).length ≤ 8000) := fun j hj => by
    rw [numsB_len, List.length_take]
    have h1 : s * min j vs.length ≤ 8 * 1000 := Nat.mul_le_mul hs8 (by omega)
    omega
  have HST : Hid (∀ (j : Nat) (x : Int), vs[j]? = some x → numsB s (vs.take (j + 1)) = numsB s (vs.take j) ++ le x s) := fun j x hx => by
    rw [List.take_add_one, hx, Option.toList_some, numsB_snoc]
  have HN : Hid (numsB s (vs.take m) = numsB s vs) := by show _ = _; rw [← hl, List.take_length]
  have H0 : Hid (numsB s (vs.take 0) = []) := by show _ = _; rw [List.take_zero]; rfl
  obtain ⟨nb, hnb⟩ : ∃ f : Nat → List Int, f = fun j => numsB s (vs.take j) := ⟨_, rfl⟩
  have hnb2 : ∀ j, numsB s (vs.take j) = nb j := fun j => by rw [hnb]
  simp only [hnb2] at HNL HST HN H0
  rw [← HN.out] at HQ
  obtain ⟨lb, hlb⟩ : ∃ f : Int → List Int, f = fun x => le x s := ⟨_, rfl⟩
  have hlb2 : ∀ x, le x s = lb x := fun x => by rw [hlb]
  simp only [hlb2] at CP HLB HST
  have HMEM : Hid (∀ (j : Nat) (x : Int), vs[j]? = some x → x ∈ vs) := fun j x h => List.mem_of_getElem? h
  have HGET : Hid (∀ j, j < m → ∃ x, vs[j]? = some x) := fun j hj => ⟨_, List.getElem?_eq_getElem (by omega)⟩
  have HCELL : Hid (∀ (j : Nat) (x : Int), vs[j]? = some x → (vs.map (Value.int .u64))[j]? = some (.int .u64 x)) := fun j x h => by simp [h]
  clear hB hl hv hs hp8 hnb hnb2 hlb hlb2 HN
  go_enter Tryd.func33, Tryd.ntmps33
  go_wp2
  go_loopw [5, 12] (fun v i wr => ∃ j : Nat, i = .int .i64 j ∧ j ≤ m ∧ Hid (OwnZ .u8 5 wr w.heap.size v (nb j)) ∧ Hid (Below w.heap.size w wr)) (fun _ i _ => m - (intOf i).toNat)
  case atStart => exact ⟨0, rfl, Nat.zero_le _, by rw [H0.out]; exact OwnZ.nil _ _ _ _, Below.refl _ _⟩
  case round =>
    obtain ⟨j, rfl, hj, HO, HB1⟩ := hrel
    by_cases hlt2 : j < m
    · obtain ⟨x, hx⟩ := HGET.out j hlt2
      have HKl := Lib.hid (HBl.out.over HB1.out)
      have hc : wr.cell? ⟨gl, j, none⟩ = some (.int .u64 x) := (HKl.out.cell j).trans (HCELL.out j x hx)
      have HS := Lib.hid (HST.out j x hx)
      have HM := Lib.hid (HMEM.out j x hx)
      have hnl := HNL.out j hj
      have hsz := HB1.out.size
      clear hx
      go_wp2_with fail
      refine (CP.out wr x HM.out).mono ?_
      rintro e v1 ⟨A', rfl, hf, L1⟩
      have HH := Lib.hid (hf.holds (HLB.out x).1 (HLB.out x).2 (by omega))
      have HO1 := Lib.hid (HO.out.below L1)
      have HB2 := Lib.hid (HB1.out.trans (L1.mono hsz))
      have hll := (HLB.out x).1
      have hsz1 := HB2.out.size
      clear hf L1 hc HKl HO HB1
      go_wp2_with (first
        | (at_builtin; refine wpList_append_bytesZ rfl (.tmp 22) (.tmp 23) rfl w.heap.size _ (nb j) rfl HO1.out v1.heap.size A' s s (lb x) rfl HH.out (by omega) hsz1 ?_; intro u5 v5 HO5 L5)
        | fail)
      rw [← HS.out] at HO5
      have HB5 := Lib.hid (HB2.out.trans L5)
      clear HO1 HB2 L5 HH HS
      go_roundw
      case rel => exact ⟨j + 1, by simp, by omega, HO5, HB5⟩
      case measure => simp [intOf]; omega
    · obtain rfl : j = m := by omega
      go_wp2
      go_ret
      exact HQ.out _ _ ⟨_, rfl, HO.out, HB1.out⟩
end Go.Proofs.YtdlcjobahdmapaaDoor

namespace Go.Proofs.YtdlcjobahdmapaaDoor
set_option linter.all false
open Go.RowKit
set_option linter.unusedVariables false
set_option maxRecDepth 100000
theorem fshut_any (w : World) (l : LockV) : Calls Tryd.prog 60 #[.agg (lockCells l).toArray] w fun e w' => e = .returned (.bool (l.op != 0)) ∧ Below w.heap.size w w' := by
  obtain ⟨op, at_, n, md⟩ := l
  have HC : Hid (∀ (w : World) (g : Nat), Blk w g 69 (lockCells ⟨op, at_, n, md⟩) → w.cell? ⟨g, 0, none⟩ = some (.int .i64 op)) := fun w g h => h.at rfl
  obtain ⟨cs, hcs⟩ : ∃ x, x = lockCells ⟨op, at_, n, md⟩ := ⟨_, rfl⟩
  rw [← hcs] at HC ⊢
  show Calls _ _ _ _ fun e w' => e = .returned (.bool (op != 0)) ∧ _
  clear hcs
  go_enter Tryd.func60, Tryd.ntmps60
  go_wp2_with (first
    | ((with_reducible show wpList _ _ _ (⟨some 1, _, _, _, _, _⟩ :: _) _ _); refine wpList_box_blk rfl _ (.tmp 0) rfl cs rfl ?_; intro g w1 hg1 hg2 K1 L1; have c0 := HC.out w1 g K1.out)
    | fail)
  go_ret
  exact ⟨rfl, L1.out⟩
set_option maxHeartbeats 1000000 in
theorem findex_any (w : World) (A : Option Addr) (n c : Nat) (xs : List LockV) (h : HoldsS lockCells 4 w w.heap.size A n c xs) (hn : n ≤ 4398046511104) :
    Calls Tryd.prog 79 #[.slice A n c, .func (.func 60) #[] #[]] w fun e w' => (∃ k : Int, e = .returned (.int .i64 k) ∧ decide (0 ≤ k) = !shut xs) ∧ Below w.heap.size w w' := by
  have HH := Lib.hid h
  have HL := Lib.hid h.len
  have hft := h.fit
  have CF : Hid (∀ (w : World) (l : LockV), Calls Tryd.prog 60 #[.agg (lockCells l).toArray] w fun e w' => e = .returned (.bool (l.op != 0)) ∧ Below w.heap.size w w') := fshut_any
  have HQ : Hid (∀ (e : Ending) (w' : World), ((∃ k : Int, e = .returned (.int .i64 k) ∧ decide (0 ≤ k) = !shut xs) ∧ Below w.heap.size w w') → ((∃ k : Int, e = .returned (.int .i64 k) ∧ decide (0 ≤ k) = !shut xs) ∧ Below w.heap.size w w')) := fun _ _ h => h
  have H0 : Hid (shut (xs.take 0) = true) := by show _ = _; rw [List.take_zero]; rfl
  have HN : Hid (shut (xs.take n) = true → shut xs = true) := fun h1 => by rw [← HL.out, List.take_length] at h1; exact h1
  have HST : Hid (∀ (j : Nat) (x : LockV), xs[j]? = some x → shut (xs.take j) = true → x.op = 0 → shut (xs.take (j + 1)) = true) := fun j x hx h1 h2 => by
    rw [List.take_add_one, hx, Option.toList_some]
    unfold shut at h1 ⊢
    rw [List.all_append, h1]
    simp [h2]
  have HBAD : Hid (∀ (j : Nat) (x : LockV), xs[j]? = some x → x.op ≠ 0 → shut xs = false) := fun j x hx h1 => by
    unfold shut
    rw [List.all_eq_false]
    exact ⟨x, List.mem_of_getElem? hx, by simpa using h1⟩
  clear h
  go_enter Tryd.func79, Tryd.ntmps79
  go_wp2
  go_loopw [8] (fun i wr => ∃ j : Nat, i = .int .i64 j ∧ j ≤ n ∧ Hid (shut (xs.take j) = true) ∧ Hid (Below w.heap.size w wr)) (fun i _ => n - (intOf i).toNat)
  case atStart => exact ⟨0, rfl, Nat.zero_le _, H0.out, Below.refl _ _⟩
  case round =>
    obtain ⟨j, rfl, hj, HS, HB1⟩ := hrel
    by_cases hlt : j < n
    · have hh := HH.out.below HB1.out
      obtain ⟨b, off, rfl, hb, hc⟩ := hh.cells (by omega)
      obtain ⟨x, hx⟩ : ∃ x, xs[j]? = some x := ⟨_, List.getElem?_eq_getElem (by have := HL.out; omega)⟩
      have Rx : Hid (wr.rangeAt b (off + j * 4) (lockCells x)) := hh.range rfl hlt hx
      have LX : Hid ((lockCells x).length = 4) := rfl
      have CX := CF.out wr x
      have HST' := Lib.hid (HST.out j x hx HS.out)
      have HBAD' := Lib.hid (HBAD.out j x hx)
      obtain ⟨cx, hcx⟩ : ∃ cx, cx = lockCells x := ⟨_, rfl⟩
      rw [← hcx] at Rx LX CX
      have hsz := HB1.out.size
      clear hh hc hx hcx
      by_cases ho : x.op = 0
      · have hb0 : (x.op != 0) = false := by simpa using ho
        rw [hb0] at CX
        have CX' := Lib.hid CX
        have HS2 := Lib.hid (HST'.out ho)
        clear CX hb0 ho HST' HBAD' HS
        go_wp2_with (first
          | ((with_reducible show wpList _ _ _ (⟨some 15, _, _, _, _, _⟩ :: _) _ _); refine wpList_load_midu rfl _ (.tmp 14) rfl b (off + j * 4) rfl cx _ Rx Tryd.underlying69 rfl 4 size_lock LX ?_)
          | fail)
        refine CX'.out.mono ?_
        rintro e v1 ⟨rfl, L1⟩
        have HB2 := Lib.hid (HB1.out.trans (L1.mono hsz))
        clear L1 HB1 CX'
        go_wp2
        go_roundw
        case rel => exact ⟨j + 1, by simp, by omega, HS2, HB2⟩
        case measure => simp [intOf]; omega
      · have hb0 : (x.op != 0) = true := by simpa using ho
        rw [hb0] at CX
        have CX' := Lib.hid CX
        have HS2 := Lib.hid (HBAD'.out ho)
        clear CX hb0 ho HST' HBAD' HS
        go_wp2_with (first
          | ((with_reducible show wpList _ _ _ (⟨some 15, _, _, _, _, _⟩ :: _) _ _); refine wpList_load_midu rfl _ (.tmp 14) rfl b (off + j * 4) rfl cx _ Rx Tryd.underlying69 rfl 4 size_lock LX ?_)
          | fail)
        refine CX'.out.mono ?_
        rintro e v1 ⟨rfl, L1⟩
        have HB2 := Lib.hid (HB1.out.trans (L1.mono hsz))
        clear L1 HB1 CX'
        go_wp2
        go_ret
        exact HQ.out _ _ ⟨⟨_, rfl, by rw [HS2.out]; simp⟩, HB2.out⟩
    · obtain rfl : j = n := by omega
      have HS2 := Lib.hid (HN.out HS.out)
      go_wp2
      go_ret
      exact HQ.out _ _ ⟨⟨_, rfl, by rw [HS2.out]; rfl⟩, HB1.out⟩
theorem fcontains_any (w : World) (A : Option Addr) (n c : Nat) (xs : List LockV) (h : HoldsS lockCells 4 w w.heap.size A n c xs) (hn : n ≤ 4398046511104) :
    Calls Tryd.prog 59 #[.slice A n c, .func (.func 60) #[] #[]] w fun e w' => e = .returned (.bool (!shut xs)) ∧ Below w.heap.size w w' := by
  have C1 := Lib.hid (findex_any w A n c xs h hn)
  obtain ⟨z, hz⟩ : ∃ z, z = !shut xs := ⟨_, rfl⟩
  rw [← hz] at C1 ⊢
  clear h hz
  go_enter Tryd.func59, Tryd.ntmps59
  go_wp2_with fail
  refine C1.out.mono ?_
  rintro e w1 ⟨⟨k, rfl, hk⟩, L1⟩
  go_wp2
  go_ret
  exact ⟨by rfl, L1⟩
section
variable {vd vx vl ve : Value} {a : AskV} {s : SayV}
theorem acells_setG (hg : a.guid.length = 16) (hp : a.proof.length = 32) (i : Nat) (u : Value) : (acells vd vx vl a).set (49 + i) u = vd :: (a.guid.map (Value.int .u8) ++ (a.proof.map (Value.int .u8) ++ (atail vx vl a).set i u)) := by
  unfold acells
  rw [show 49 + i = (48 + i) + 1 from by omega, List.set_cons_succ, List.set_append_right _ _ (by rw [List.length_map, hg]; omega), List.length_map, hg, List.set_append_right _ _ (by rw [List.length_map, hp]; omega), List.length_map, hp]
  congr 4
  omega
theorem ac51 (hg : a.guid.length = 16) (hp : a.proof.length = 32) (x : Int) : (acells vd vx vl a).set 51 (.int .u32 x) = acells vd vx vl { a with acc := x } := (acells_setG hg hp 2 _).trans rfl
theorem ac52 (hg : a.guid.length = 16) (hp : a.proof.length = 32) (x : Int) : (acells vd vx vl a).set 52 (.int .u32 x) = acells vd vx vl { a with shr := x } := (acells_setG hg hp 3 _).trans rfl
theorem ac53 (hg : a.guid.length = 16) (hp : a.proof.length = 32) (x : Int) : (acells vd vx vl a).set 53 (.int .u32 x) = acells vd vx vl { a with way := x } := (acells_setG hg hp 4 _).trans rfl
theorem ac54 (hg : a.guid.length = 16) (hp : a.proof.length = 32) (x : Int) : (acells vd vx vl a).set 54 (.int .u32 x) = acells vd vx vl { a with opt := x } := (acells_setG hg hp 5 _).trans rfl
theorem ac55 (hg : a.guid.length = 16) (hp : a.proof.length = 32) (x : Int) : (acells vd vx vl a).set 55 (.int .u8 x) = acells vd vx vl { a with lev := x } := (acells_setG hg hp 6 _).trans rfl
theorem ac56 (hg : a.guid.length = 16) (hp : a.proof.length = 32) (x : Int) : (acells vd vx vl a).set 56 (.int .u8 x) = acells vd vx vl { a with dur := x } := (acells_setG hg hp 7 _).trans rfl
theorem ac57 (hg : a.guid.length = 16) (hp : a.proof.length = 32) (x : Int) : (acells vd vx vl a).set 57 (.int .u64 x) = acells vd vx vl { a with file := x } := (acells_setG hg hp 8 _).trans rfl
theorem ac58 (hg : a.guid.length = 16) (hp : a.proof.length = 32) (x : ByteArray) : (acells vd vx vl a).set 58 (.string x) = acells vd vx vl { a with name := x } := (acells_setG hg hp 9 _).trans rfl
theorem ac59 (hg : a.guid.length = 16) (hp : a.proof.length = 32) (x : Int) : (acells vd vx vl a).set 59 (.int .u64 x) = acells vd vx vl { a with at_ := x } := (acells_setG hg hp 10 _).trans rfl
theorem ac60 (hg : a.guid.length = 16) (hp : a.proof.length = 32) (x : Int) : (acells vd vx vl a).set 60 (.int .u32 x) = acells vd vx vl { a with n := x } := (acells_setG hg hp 11 _).trans rfl
theorem ac61 (hg : a.guid.length = 16) (hp : a.proof.length = 32) (v : Value) (xs : List Int) : (acells vd vx vl a).set 61 v = acells vd v vl { a with data := xs } := (acells_setG hg hp 12 _).trans rfl
theorem ac62 (hg : a.guid.length = 16) (hp : a.proof.length = 32) (v : Value) (xs : List LockV) : (acells vd vx vl a).set 62 v = acells vd vx v { a with locks := xs } := (acells_setG hg hp 13 _).trans rfl
theorem ac61n (hg : a.guid.length = 16) (hp : a.proof.length = 32) : (acells vd vx vl a).set 61 (.slice none 0 0) = acells vd (.slice none 0 0) vl { a with data := [] } := ac61 hg hp _ []
theorem ac62n (hg : a.guid.length = 16) (hp : a.proof.length = 32) : (acells vd vx vl a).set 62 (.slice none 0 0) = acells vd vx (.slice none 0 0) { a with locks := [] } := ac62 hg hp _ []
end
theorem zb {M : Int} (h : 0 ≤ M) : (0 : Int) ≤ 0 ∧ (0 : Int) ≤ M := ⟨Int.le_refl 0, h⟩
theorem besideF_ok {c : Int} {a : AskV} (k : a.ok) : (besideF c a).ok := by
  unfold besideF
  split
  · exact ⟨k.dial, k.glen, k.gbyte, k.plen, k.pbyte, zb (by decide), zb (by decide), zb (by decide), zb (by decide), zb (by decide), zb (by decide), zb (by decide), k.at_, k.n, k.data, k.locks, k.most, k.cls, k.siz⟩
  · split
    · exact ⟨k.dial, k.glen, k.gbyte, k.plen, k.pbyte, k.acc, k.shr, k.way, k.opt, k.lev, k.dur, zb (by decide), zb (by decide), zb (by decide), k.data, k.locks, k.most, k.cls, k.siz⟩
    · split
      · exact ⟨k.dial, k.glen, k.gbyte, k.plen, k.pbyte, k.acc, k.shr, k.way, k.opt, k.lev, k.dur, zb (by decide), zb (by decide), k.n, Bytes.nil, k.locks, k.most, k.cls, k.siz⟩
      · split
        · exact ⟨k.dial, k.glen, k.gbyte, k.plen, k.pbyte, k.acc, k.shr, k.way, k.opt, k.lev, k.dur, zb (by decide), k.at_, k.n, k.data, (fun l h => by cases h), k.most, k.cls, k.siz⟩
        · exact ⟨k.dial, k.glen, k.gbyte, k.plen, k.pbyte, k.acc, k.shr, k.way, k.opt, k.lev, k.dur, zb (by decide), k.at_, k.n, k.data, k.locks, k.most, k.cls, k.siz⟩
theorem nameF_of {c : Int} {a : AskV} (hk : knownF c = true) (hc : c ≠ 10) : nameF c a = decide (besideF c a = zeroAsk) := by
  unfold nameF
  rw [hk, Bool.true_and]
  by_cases h : besideF c a = zeroAsk
  · have hl : a.locks = [] := by
      have h2 := congrArg AskV.locks h
      unfold besideF at h2
      rw [if_neg hc] at h2
      split at h2
      · exact h2
      · split at h2
        · exact h2
        · split at h2 <;> exact h2
    rw [decide_eq_true h, hl]
    rfl
  · rw [decide_eq_false h, Bool.false_and]
theorem echo_err (b : AskV) : (askErrP 13 b == 0) = decide (b = zeroAsk) := by
  have e : besideAsk 13 b = b := by unfold besideAsk; rw [if_neg (by decide), if_neg (by decide), if_neg (by decide)]
  unfold askErrP
  rw [e]
  by_cases h : b = zeroAsk
  · rw [if_pos ⟨rfl, h⟩, decide_eq_true h]
    rfl
  · rw [if_neg (fun h2 => h h2.2), decide_eq_false h]
    rfl
end Go.Proofs.YtdlcjobahdmapaaDoor

namespace Go.Proofs.YtdlcjobahdmapaaDoor
set_option linter.all false
open Go.RowKit
section
variable {P : Program} {ops : Array Oper} {Q : Exit → Act → World → Prop}
theorem wpAnyH_three {md : Region.Mode} {S : World → Prop} (i j k : Nat) (oi oj ok : Oper) {fuel : Nat} {listed : Array Bool} {a : Act} {w : World} (hr : Region.ready md ops listed = [i, j, k]) (hi : ops[i]? = some oi) (hj : ops[j]? = some oj) (hk : ops[k]? = some ok)
    (h1 : ∀ K : Act → World → Prop, (∀ a' w', S w' → wpAnyH P md ops Q S fuel (listed.setIfInBounds i true) a' w' → K a' w') → if Region.wanted oi (yielded ops a.tmps) = true then oi.wp P a w K Q else K (a.put oi.dst undef) w)
    (h2 : ∀ K : Act → World → Prop, (∀ a' w', S w' → wpAnyH P md ops Q S fuel (listed.setIfInBounds j true) a' w' → K a' w') → if Region.wanted oj (yielded ops a.tmps) = true then oj.wp P a w K Q else K (a.put oj.dst undef) w)
    (h3 : ∀ K : Act → World → Prop, (∀ a' w', S w' → wpAnyH P md ops Q S fuel (listed.setIfInBounds k true) a' w' → K a' w') → if Region.wanted ok (yielded ops a.tmps) = true then ok.wp P a w K Q else K (a.put ok.dst undef) w) :
    wpAnyH P md ops Q S (fuel + 1) listed a w := by
  have one : ∀ (q : Nat) (oq : Oper), ops[q]? = some oq → (∀ K : Act → World → Prop, (∀ a' w', S w' → wpAnyH P md ops Q S fuel (listed.setIfInBounds q true) a' w' → K a' w') → if Region.wanted oq (yielded ops a.tmps) = true then oq.wp P a w K Q else K (a.put oq.dst undef) w) →
      wpOp P ops Q q (fun a' w' => S w' ∧ wpAnyH P md ops Q S fuel (listed.setIfInBounds q true) a' w') a w := by
    intro q oq hq h
    have h3 := h (fun a' w' => S w' ∧ wpAnyH P md ops Q S fuel (listed.setIfInBounds q true) a' w') fun _ _ h2 h3 => ⟨h2, h3⟩
    unfold wpOp
    simp only [hq]
    by_cases hw : Region.wanted oq (yielded ops a.tmps) = true
    · rw [if_pos hw] at h3 ⊢
      exact .inl h3
    · rw [if_neg hw] at h3 ⊢
      exact h3
  refine wpAnyH_all hr (by simp) fun q hq => ?_
  rcases List.mem_cons.1 hq with rfl | hq
  · exact one _ _ hi h1
  rcases List.mem_cons.1 hq with rfl | hq
  · exact one _ _ hj h2
  · obtain rfl := List.mem_singleton.1 hq
    exact one _ _ hk h3
end
theorem Holds.of_lit {w : World} {g : Nat} {T : TypeId} {xs : List Int} (h : Blk w g T (xs.map (Value.int .u8))) (hx : Bytes xs) (hn : xs.length ≤ 1000 := by simp) : Holds w w.heap.size (some ⟨g, 0, none⟩) xs.length xs.length xs :=
  ⟨rfl, Nat.le_refl _, by omega, hx, fun hA => (by cases hA), fun _ => ⟨g, 0, rfl, h.lt, fun i hi => by
    rw [Nat.zero_add, h.cell]
    simp [List.getD_eq_getElem?_getD, hi]⟩⟩
end Go.Proofs.YtdlcjobahdmapaaDoor

namespace Go.Proofs.YtdlcjobahdmapaaDoor
set_option linter.all false
open Go.RowKit
set_option linter.unusedVariables false
set_option maxRecDepth 100000
/-- the program's reader in block g: what is left of the bytes xs (they lie below block B), and the first error -/
def PF (w : World) (g B : Nat) (xs : List Int) (r : Rd) : Prop := r.p ≤ xs.length ∧ B ≤ g ∧ ∃ A n c, Blk w g 75 [.slice A n c, .int .i64 r.e] ∧ Holds w B A n c (xs.drop r.p)
def CutPost (w : World) (g B : Nat) (xs : List Int) (q : List Int × Rd) (e : Ending) (w' : World) : Prop := ∃ A' k, e = .returned (.slice A' k k) ∧ k = q.1.length ∧ Holds w' B A' k k q.1 ∧ PF w' g B xs q.2 ∧ Only g w w'
theorem PF.lt {w : World} {g B : Nat} {xs : List Int} {r : Rd} (h : PF w g B xs r) : g < w.heap.size := by
  obtain ⟨_, _, A, n, c, hB, _⟩ := h
  exact hB.lt
theorem PF.only {w w' : World} {g g' B : Nat} {xs : List Int} {r : Rd} (h : PF w g B xs r) (hO : Only g' w w') (hg : g ≠ g') (hb : B ≤ g') : PF w' g B xs r := by
  obtain ⟨h1, h2, A, n, c, hB, hx⟩ := h
  exact ⟨h1, h2, A, n, c, hB.only hO hg, hx.only hO hb⟩
theorem PF.below {w w' : World} {g B : Nat} {xs : List Int} {r : Rd} (h : PF w g B xs r) (hb : Below w.heap.size w w') : PF w' g B xs r := by
  have hlt := h.lt
  obtain ⟨h1, h2, A, n, c, hB, hx⟩ := h
  exact ⟨h1, h2, A, n, c, hB.over hb, hx.below (hb.mono (by omega))⟩
/-- what is left behind k more -/
theorem Holds.rest {w : World} {B : Nat} {A : Option Addr} {n c k : Nat} {xs : List Int} (h : Holds w B A n c xs) (hk : k ≤ n) : Holds w B (if c = k then A else A.map (·.add k)) (n - k) (c - k) (xs.drop k) := by
  have hl := h.len
  have hf := h.fit
  refine ⟨by simp; omega, by omega, by have := h.room; omega, h.byte.drop k, fun hA => ?_, fun hn => ?_⟩
  · by_cases hc : c = k
    · omega
    · rw [if_neg hc] at hA
      have : A = none := by cases A <;> simp_all
      have := h.bare this
      omega
  · obtain ⟨b, off, rfl, hb, hcl⟩ := h.cells (by omega)
    rw [if_neg (by omega)]
    refine ⟨b, off + k, ?_, hb, fun i hi => ?_⟩
    · by_cases hk0 : k = 0
      · subst hk0; simp [Addr.add]
      · simp [Addr.add, hk0]
    · rw [Nat.add_assoc, hcl (k + i) (by omega)]
      simp [List.getD_eq_getElem?_getD, List.getElem?_drop]
set_option maxHeartbeats 1000000 in
theorem fcut_any (w : World) (g B : Nat) (xs : List Int) (r : Rd) (m : Nat) (hP : PF w g B xs r) (hm : m ≤ 281474976710656) :
    Calls Tryd.prog 71 #[.pointer (some ⟨g, 0, none⟩), .int .i64 (m : Int)] w (CutPost w g B xs (rdPart xs m r)) := by
  obtain ⟨p, er⟩ := r
  obtain ⟨hp, hg, A, n, c, hB, hx⟩ := hP
  change p ≤ xs.length at hp
  change Blk w g _ [.slice A n c, .int .i64 er] at hB
  change Holds w B A n c (xs.drop p) at hx
  have hl : xs.length - p = n := by rw [← hx.len, List.length_drop]
  have hrm := hx.room
  have hft := hx.fit
  have c0 : w.cell? ⟨g, 0, none⟩ = some (.slice A n c) := Blk.at hB rfl
  have c1 : w.cell? ⟨g, 1, none⟩ = some (.int .i64 er) := Blk.at hB rfl
  have f0 := Blk.frozen hB 0
  have f1 := Blk.frozen hB 1
  have HBk := Lib.hid hB
  have HX := Lib.hid hx
  by_cases he : er = 0
  rotate_left
  · have HQ : Hid (∀ e w', (∃ A' k, e = .returned (.slice A' k k) ∧ k = 0 ∧ Holds w' B A' k k [] ∧ PF w' g B xs ⟨p, er⟩ ∧ Only g w w') → CutPost w g B xs (rdPart xs m ⟨p, er⟩) e w') := by
      intro e w' hh
      unfold rdPart
      rw [if_neg he]
      exact hh
    have HP : Hid (PF w g B xs ⟨p, er⟩) := ⟨hp, hg, A, n, c, hB, hx⟩
    have hne : (er != 0) = true := by simpa using he
    have hnb : (er == 0) = false := by simpa using he
    clear hB hx hl he
    go_enter Tryd.func71, Tryd.ntmps71
    go_wp2
    go_ret
    exact HQ.out _ _ ⟨none, 0, rfl, rfl, Holds.nil _ _, HP.out, Only.refl g w⟩
  subst er
  by_cases hr : n < m
  · have HQ : Hid (∀ e w', (∃ A' k, e = .returned (.slice A' k k) ∧ k = 0 ∧ Holds w' B A' k k [] ∧ PF w' g B xs ⟨p, 4⟩ ∧ Only g w w') → CutPost w g B xs (rdPart xs m ⟨p, 0⟩) e w') := by
      intro e w' hh
      unfold rdPart
      rw [if_pos rfl, if_pos (by show xs.length < p + m; omega)]
      exact hh
    have k1 : (w.setCell ⟨g, 1, none⟩ (.int .i64 4)).cell? ⟨g, 1, none⟩ = some (.int .i64 4) := Blk.at (Blk.set hB 1 _) rfl
    have HO : Hid (Only g w (w.setCell ⟨g, 1, none⟩ (.int .i64 4))) := only_setCell w g 1 _
    have HP : Hid (PF (w.setCell ⟨g, 1, none⟩ (.int .i64 4)) g B xs ⟨p, 4⟩) := ⟨hp, hg, A, n, c, Blk.set hB 1 _, hx.only HO.out hg⟩
    clear hB hx hl
    go_enter Tryd.func71, Tryd.ntmps71
    go_wp2
    go_ret
    exact HQ.out _ _ ⟨none, 0, rfl, rfl, Holds.nil _ _, HP.out, HO.out⟩
  · have HQ : Hid (∀ e w', (∃ A' k, e = .returned (.slice A' k k) ∧ k = m ∧ Holds w' B A' k k ((xs.drop p).take m) ∧ PF w' g B xs ⟨p + m, 0⟩ ∧ Only g w w') → CutPost w g B xs (rdPart xs m ⟨p, 0⟩) e w') := by
      intro e w' hh
      unfold rdPart
      rw [if_pos rfl, if_neg (by show ¬ xs.length < p + m; omega)]
      obtain ⟨A', k, h1, h2, h3, h4, h5⟩ := hh
      exact ⟨A', k, h1, by rw [h2]; show m = ((xs.drop p).take m).length; rw [List.length_take, List.length_drop]; omega, h3, h4, h5⟩
    have hd : (xs.drop p).drop m = xs.drop (p + m) := by rw [List.drop_drop]
    have hrst := hx.rest (k := m) (by omega)
    rw [hd] at hrst
    have HK : Hid (∀ v, (w.setCell ⟨g, 0, none⟩ v).cell? ⟨g, 0, none⟩ = some v) := fun v => Blk.at (Blk.set hB 0 v) rfl
    have hA0 : A.map (·.add 0) = A := by cases A <;> simp [Addr.add]
    by_cases hcm : c = m
    · rw [if_pos hcm] at hrst
      by_cases hm0 : m = 0
      · subst hm0
        have HP0 : Holds w B A n 0 (xs.drop (p + 0)) := by
          have h := hrst
          simpa [hA0, hcm] using h
        have HO : Hid (Only g w (w.setCell ⟨g, 0, none⟩ (.slice A n 0))) := only_setCell w g 0 _
        have HP : Hid (PF (w.setCell ⟨g, 0, none⟩ (.slice A n 0)) g B xs ⟨p + 0, 0⟩) := ⟨by show p + 0 ≤ _; omega, hg, _, _, _, Blk.set hB 0 _, HP0.only HO.out hg⟩
        have HC : Hid (Holds (w.setCell ⟨g, 0, none⟩ (.slice A n 0)) B A 0 0 ((xs.drop p).take 0)) := Holds.empty _ _ _ _ (fun _ => rfl)
        clear hB hx hl hd hrst HP0
        clear hA0
        go_enter Tryd.func71, Tryd.ntmps71
        go_wp2
        go_ret
        exact HQ.out _ _ ⟨_, _, rfl, rfl, HC.out, HP.out, HO.out⟩
      · have HP0 : Holds w B A (n - m) 0 (xs.drop (p + m)) := by
          have h := hrst
          simpa [hcm] using h
        have HO : Hid (Only g w (w.setCell ⟨g, 0, none⟩ (.slice A (n - m) 0))) := only_setCell w g 0 _
        have HP : Hid (PF (w.setCell ⟨g, 0, none⟩ (.slice A (n - m) 0)) g B xs ⟨p + m, 0⟩) := ⟨by show p + m ≤ _; omega, hg, _, _, _, Blk.set hB 0 _, HP0.only HO.out hg⟩
        have hct := hx.cut (k := 0) (m := m) (by omega) (by omega)
        rw [List.drop_zero, hA0] at hct
        have HC : Hid (Holds (w.setCell ⟨g, 0, none⟩ (.slice A (n - m) 0)) B A m m ((xs.drop p).take m)) := hct.only HO.out hg
        clear hB hx hl hd hrst hct HP0
        clear hA0
        go_enter Tryd.func71, Tryd.ntmps71
        go_wp2
        go_ret
        exact HQ.out _ _ ⟨_, _, rfl, rfl, HC.out, HP.out, HO.out⟩
    · rw [if_neg hcm] at hrst
      by_cases hm0 : m = 0
      · subst hm0
        have HP0 : Holds w B A n c (xs.drop (p + 0)) := by
          have h := hrst
          simpa [hA0] using h
        have HO : Hid (Only g w (w.setCell ⟨g, 0, none⟩ (.slice A n c))) := only_setCell w g 0 _
        have HP : Hid (PF (w.setCell ⟨g, 0, none⟩ (.slice A n c)) g B xs ⟨p + 0, 0⟩) := ⟨by show p + 0 ≤ _; omega, hg, _, _, _, Blk.set hB 0 _, HP0.only HO.out hg⟩
        have HC : Hid (Holds (w.setCell ⟨g, 0, none⟩ (.slice A n c)) B A 0 0 ((xs.drop p).take 0)) := Holds.empty _ _ _ _ (fun _ => rfl)
        clear hB hx hl hd hrst HP0
        clear hA0
        go_enter Tryd.func71, Tryd.ntmps71
        go_wp2
        go_ret
        exact HQ.out _ _ ⟨_, _, rfl, rfl, HC.out, HP.out, HO.out⟩
      · have HP0 := hrst
        have HO : Hid (Only g w (w.setCell ⟨g, 0, none⟩ (.slice (A.map (·.add m)) (n - m) (c - m)))) := only_setCell w g 0 _
        have HP : Hid (PF (w.setCell ⟨g, 0, none⟩ (.slice (A.map (·.add m)) (n - m) (c - m))) g B xs ⟨p + m, 0⟩) := ⟨by show p + m ≤ _; omega, hg, _, _, _, Blk.set hB 0 _, HP0.only HO.out hg⟩
        have hct := hx.cut (k := 0) (m := m) (by omega) (by omega)
        rw [List.drop_zero, hA0] at hct
        have HC : Hid (Holds (w.setCell ⟨g, 0, none⟩ (.slice (A.map (·.add m)) (n - m) (c - m))) B A m m ((xs.drop p).take m)) := hct.only HO.out hg
        clear hB hx hl hd hrst hct HP0
        clear hA0
        go_enter Tryd.func71, Tryd.ntmps71
        go_wp2
        go_ret
        exact HQ.out _ _ ⟨_, _, rfl, rfl, HC.out, HP.out, HO.out⟩
end Go.Proofs.YtdlcjobahdmapaaDoor

namespace Go.Proofs.YtdlcjobahdmapaaDoor
set_option linter.all false
open Go.RowKit
set_option linter.unusedVariables false
set_option maxRecDepth 100000
theorem rdN_part {xs : List Int} {s : Nat} {r : Rd} (hp : r.p ≤ xs.length) (hs : sizeOk (s : Int) = true) : (rdPart xs s r).2 = (rdN xs s r).2 ∧ getOf (rdPart xs s r).1 0 (s : Int) = (rdN xs s r).1 := by
  have hs1 : 1 ≤ s := by rcases sizeOk_cases hs with h | h | h | h <;> omega
  have hn : getOf [] 0 (s : Int) = 0 := by
    have h4 : getErr 0 0 (s : Int) = 4 := by
      unfold getErr partErr
      rw [if_pos hs, if_neg (by omega), if_pos (by omega)]
    unfold getOf
    rw [List.length_nil, h4, if_neg (by decide)]
  unfold rdPart rdN
  by_cases he : r.e = 0
  · simp only [if_pos he]
    by_cases hr : xs.length < r.p + s
    · simp only [if_pos hr]
      exact ⟨trivial, hn⟩
    · simp only [if_neg hr]
      refine ⟨trivial, ?_⟩
      have hl : ((xs.drop r.p).take s).length = s := by rw [List.length_take, List.length_drop]; omega
      have h0 : getErr s 0 (s : Int) = 0 := by
        unfold getErr partErr
        rw [if_pos hs, if_neg (by omega), if_neg (by omega)]
      unfold getOf numAt
      rw [hl, h0, if_pos rfl, Int.toNat_natCast, show Int.toNat 0 = 0 from rfl, List.drop_zero, List.take_of_length_le (by omega)]
  · simp only [if_neg he]
    exact ⟨trivial, hn⟩
def NumF (w : World) (g B : Nat) (xs : List Int) (k : IntKind) (q : Int × Rd) (e : Ending) (w' : World) : Prop := e = .returned (.int k q.1) ∧ PF w' g B xs q.2 ∧ Only g w w'
set_option maxHeartbeats 1000000 in
theorem fnum_any (w : World) (g B : Nat) (xs : List Int) (r : Rd) (s : Nat) (hP : PF w g B xs r) (hs : sizeOk (s : Int) = true) :
    Calls Tryd.prog 70 #[.pointer (some ⟨g, 0, none⟩), .int .i64 (s : Int)] w (NumF w g B xs .u64 (rdN xs s r)) := by
  have hs8 : s ≤ 8 := by rcases sizeOk_cases hs with h | h | h | h <;> omega
  have C1 := fcut_any w g B xs r s hP (by omega)
  obtain ⟨e1, e2⟩ := rdN_part hP.1 hs
  have C2 : Hid (∀ (w : World) (A : Option Addr) (k : Nat), Holds w B A k k (rdPart xs s r).1 → Calls Tryd.prog 92 #[.slice A k k, .int .i64 0, .int .i64 (s : Int)] w fun e w' => (∃ er, e = .returned (.tuple #[.int .u64 (rdN xs s r).1, .int .i64 er])) ∧ w = w') := fun w A k hh => by
    have h := Get_any w B A k k _ 0 (s : Int) hh (by omega) (by omega)
    rw [e2] at h
    exact h.mono fun e w' ⟨h1, h2⟩ => ⟨⟨_, h1⟩, h2⟩
  unfold CutPost at C1
  rw [e1] at C1
  have C1' := Lib.hid C1
  have HQ : Hid (∀ e w', (e = .returned (.int .u64 (rdN xs s r).1) ∧ PF w' g B xs (rdN xs s r).2 ∧ Only g w w') → NumF w g B xs .u64 (rdN xs s r) e w') := fun _ _ h => h
  obtain ⟨q, hq⟩ : ∃ q, q = rdN xs s r := ⟨_, rfl⟩
  obtain ⟨ys, hys⟩ : ∃ ys, ys = (rdPart xs s r).1 := ⟨_, rfl⟩
  rw [← hq] at C1' C2 HQ ⊢
  rw [← hys] at C1' C2
  obtain ⟨z, p⟩ := q
  clear hq hys C1 e1 e2 hs
  go_enter Tryd.func70, Tryd.ntmps70
  go_wp2_with fail
  refine C1'.out.mono ?_
  rintro e w1 ⟨A', k, rfl, hk, hH, hP1, hO1⟩
  have HH := Lib.hid hH
  have HP1 := Lib.hid hP1
  have HO1 := Lib.hid hO1
  clear hk hH hP1 hO1
  go_wp2_with fail
  refine (C2.out w1 A' k HH.out).mono ?_
  rintro e w2 ⟨⟨er, rfl⟩, rfl⟩
  go_wp2
  go_ret
  exact HQ.out _ _ ⟨rfl, HP1.out, HO1.out⟩
theorem fone_any (w : World) (g B : Nat) (xs : List Int) (r : Rd) (hx : Bytes xs) (hP : PF w g B xs r) :
    Calls Tryd.prog 45 #[.pointer (some ⟨g, 0, none⟩)] w (NumF w g B xs .u8 (rdN xs 1 r)) := by
  have C1 := Lib.hid (fnum_any w g B xs r 1 hP (by decide))
  have hb := rdN_lt hx 1 r 256 (by decide) (by decide)
  have HQ : Hid (∀ e w', (e = .returned (.int .u8 (rdN xs 1 r).1) ∧ PF w' g B xs (rdN xs 1 r).2 ∧ Only g w w') → NumF w g B xs .u8 (rdN xs 1 r) e w') := fun _ _ h => h
  unfold NumF at C1
  obtain ⟨q, hq⟩ : ∃ q, q = rdN xs 1 r := ⟨_, rfl⟩
  rw [← hq] at C1 HQ hb ⊢
  obtain ⟨z, p⟩ := q
  change 0 ≤ z ∧ z ≤ _ at hb
  obtain ⟨hb0, hb1⟩ := hb
  have hz : IntKind.u8.wrap z = z := by rw [IntKind.wrap_u8]; omega
  clear hq hP
  go_enter Tryd.func45, Tryd.ntmps45
  go_wp2_with fail
  refine C1.out.mono ?_
  rintro e w1 ⟨rfl, hP1, hO1⟩
  have HP1 := Lib.hid hP1
  have HO1 := Lib.hid hO1
  clear hP1 hO1
  go_wp2
  go_ret
  exact HQ.out _ _ ⟨rfl, HP1.out, HO1.out⟩
theorem ftwo_any (w : World) (g B : Nat) (xs : List Int) (r : Rd) (hx : Bytes xs) (hP : PF w g B xs r) :
    Calls Tryd.prog 75 #[.pointer (some ⟨g, 0, none⟩)] w (NumF w g B xs .u16 (rdN xs 2 r)) := by
  have C1 := Lib.hid (fnum_any w g B xs r 2 hP (by decide))
  have hb := rdN_lt hx 2 r 65536 (by decide) (by decide)
  have HQ : Hid (∀ e w', (e = .returned (.int .u16 (rdN xs 2 r).1) ∧ PF w' g B xs (rdN xs 2 r).2 ∧ Only g w w') → NumF w g B xs .u16 (rdN xs 2 r) e w') := fun _ _ h => h
  unfold NumF at C1
  obtain ⟨q, hq⟩ : ∃ q, q = rdN xs 2 r := ⟨_, rfl⟩
  rw [← hq] at C1 HQ hb ⊢
  obtain ⟨z, p⟩ := q
  change 0 ≤ z ∧ z ≤ _ at hb
  obtain ⟨hb0, hb1⟩ := hb
  have hz : IntKind.u16.wrap z = z := by rw [IntKind.wrap_u16]; omega
  clear hq hP
  go_enter Tryd.func75, Tryd.ntmps75
  go_wp2_with fail
  refine C1.out.mono ?_
  rintro e w1 ⟨rfl, hP1, hO1⟩
  have HP1 := Lib.hid hP1
  have HO1 := Lib.hid hO1
  clear hP1 hO1
  go_wp2
  go_ret
  exact HQ.out _ _ ⟨rfl, HP1.out, HO1.out⟩
theorem ffour_any (w : World) (g B : Nat) (xs : List Int) (r : Rd) (hx : Bytes xs) (hP : PF w g B xs r) :
    Calls Tryd.prog 46 #[.pointer (some ⟨g, 0, none⟩)] w (NumF w g B xs .u32 (rdN xs 4 r)) := by
  have C1 := Lib.hid (fnum_any w g B xs r 4 hP (by decide))
  have hb := rdN_lt hx 4 r 4294967296 (by decide) (by decide)
  have HQ : Hid (∀ e w', (e = .returned (.int .u32 (rdN xs 4 r).1) ∧ PF w' g B xs (rdN xs 4 r).2 ∧ Only g w w') → NumF w g B xs .u32 (rdN xs 4 r) e w') := fun _ _ h => h
  unfold NumF at C1
  obtain ⟨q, hq⟩ : ∃ q, q = rdN xs 4 r := ⟨_, rfl⟩
  rw [← hq] at C1 HQ hb ⊢
  obtain ⟨z, p⟩ := q
  change 0 ≤ z ∧ z ≤ _ at hb
  obtain ⟨hb0, hb1⟩ := hb
  have hz : IntKind.u32.wrap z = z := by rw [IntKind.wrap_u32]; omega
  clear hq hP
  go_enter Tryd.func46, Tryd.ntmps46
  go_wp2_with fail
  refine C1.out.mono ?_
  rintro e w1 ⟨rfl, hP1, hO1⟩
  have HP1 := Lib.hid hP1
  have HO1 := Lib.hid hO1
  clear hP1 hO1
  go_wp2
  go_ret
  exact HQ.out _ _ ⟨rfl, HP1.out, HO1.out⟩
theorem feight_any (w : World) (g B : Nat) (xs : List Int) (r : Rd) (hx : Bytes xs) (hP : PF w g B xs r) :
    Calls Tryd.prog 47 #[.pointer (some ⟨g, 0, none⟩)] w (NumF w g B xs .u64 (rdN xs 8 r)) := by
  have C1 := Lib.hid (fnum_any w g B xs r 8 hP (by decide))
  have hb := rdN_lt hx 8 r 18446744073709551616 (by decide) (by decide)
  have HQ : Hid (∀ e w', (e = .returned (.int .u64 (rdN xs 8 r).1) ∧ PF w' g B xs (rdN xs 8 r).2 ∧ Only g w w') → NumF w g B xs .u64 (rdN xs 8 r) e w') := fun _ _ h => h
  unfold NumF at C1
  obtain ⟨q, hq⟩ : ∃ q, q = rdN xs 8 r := ⟨_, rfl⟩
  rw [← hq] at C1 HQ hb ⊢
  obtain ⟨z, p⟩ := q
  change 0 ≤ z ∧ z ≤ _ at hb
  obtain ⟨hb0, hb1⟩ := hb
  clear hq hP
  go_enter Tryd.func47, Tryd.ntmps47
  go_wp2_with fail
  refine C1.out.mono ?_
  rintro e w1 ⟨rfl, hP1, hO1⟩
  have HP1 := Lib.hid hP1
  have HO1 := Lib.hid hO1
  clear hP1 hO1
  go_wp2
  go_ret
  exact HQ.out _ _ ⟨rfl, HP1.out, HO1.out⟩
set_option maxHeartbeats 1000000 in
theorem fup_any (w : World) (g B : Nat) (xs : List Int) (r : Rd) (most : Int) (hx : Bytes xs) (hP : PF w g B xs r) (hm : 0 ≤ most ∧ most ≤ 65535) :
    Calls Tryd.prog 58 #[.pointer (some ⟨g, 0, none⟩), .int .u16 most] w (NumF w g B xs .u16 (rdUp xs most r)) := by
  have C1 := Lib.hid (ftwo_any w g B xs r hx hP)
  have hb := rdN_lt hx 2 r 65536 (by decide) (by decide)
  have h0 : (rdN xs 2 r).2.e ≠ 0 → (rdN xs 2 r).1 = 0 := by
    intro h
    unfold rdN at h ⊢
    by_cases h1 : r.e = 0
    · rw [if_pos h1] at h ⊢
      by_cases h2 : xs.length < r.p + 2
      · rw [if_pos h2]
      · rw [if_neg h2] at h; exact absurd rfl h
    · rw [if_neg h1]
  unfold NumF at C1
  have HQ : Hid (∀ e w', (e = .returned (.int .u16 (rdUp xs most r).1) ∧ PF w' g B xs (rdUp xs most r).2 ∧ Only g w w') → NumF w g B xs .u16 (rdUp xs most r) e w') := fun _ _ h => h
  obtain ⟨q, hq⟩ : ∃ q, q = rdN xs 2 r := ⟨_, rfl⟩
  have hu : rdUp xs most r = if q.2.e = 0 ∧ most < q.1 then (q.1, ⟨q.2.p, 5⟩) else q := by rw [hq]; rfl
  rw [hu] at HQ ⊢
  rw [← hq] at C1 hb h0
  obtain ⟨z, p⟩ := q
  change 0 ≤ z ∧ z ≤ _ at hb
  obtain ⟨hb0, hb1⟩ := hb
  obtain ⟨hm0, hm1⟩ := hm
  clear hq hP hu
  by_cases hg : most < z
  · have he : p.e = 0 := by
      by_cases he : p.e = 0
      · exact he
      · have : z = 0 := h0 he
        omega
    rw [if_pos ⟨he, hg⟩] at HQ ⊢
    clear h0 he
    go_enter Tryd.func58, Tryd.ntmps58
    go_wp2_with fail
    refine C1.out.mono ?_
    rintro e w1 ⟨rfl, hP1, hO1⟩
    obtain ⟨hp1, hg1, A, n, c, hB1, hx1⟩ := hP1
    have f1 := Blk.frozen hB1 1
    have c1 : w1.cell? ⟨g, 1, none⟩ = some (.int .i64 p.e) := Blk.at hB1 rfl
    have HO : Hid (Only g w (w1.setCell ⟨g, 1, none⟩ (.int .i64 5))) := hO1.setCell 1 _
    have HP : Hid (PF (w1.setCell ⟨g, 1, none⟩ (.int .i64 5)) g B xs ⟨p.p, 5⟩) := ⟨hp1, hg1, A, n, c, Blk.set hB1 1 _, hx1.only (only_setCell w1 g 1 _) hg1⟩
    clear hp1 hg1 hB1 hx1 hO1
    go_wp2
    go_ret
    exact HQ.out _ _ ⟨rfl, HP.out, HO.out⟩
  · rw [if_neg (fun h => hg h.2)] at HQ ⊢
    clear h0
    go_enter Tryd.func58, Tryd.ntmps58
    go_wp2_with fail
    refine C1.out.mono ?_
    rintro e w1 ⟨rfl, hP1, hO1⟩
    have HP1 := Lib.hid hP1
    have HO1 := Lib.hid hO1
    clear hP1 hO1
    go_wp2
    go_ret
    exact HQ.out _ _ ⟨rfl, HP1.out, HO1.out⟩
set_option maxHeartbeats 1000000 in
theorem fmany_any (w : World) (g B : Nat) (xs : List Int) (r : Rd) (s : Nat) (most : Int) (hx : Bytes xs) (hP : PF w g B xs r) (hs : sizeOk (s : Int) = true) (hm : 0 ≤ most ∧ most ≤ 65535) :
    Calls Tryd.prog 74 #[.pointer (some ⟨g, 0, none⟩), .int .i64 (s : Int), .int .i64 most] w (NumF w g B xs .i64 (rdMost xs s most 3 r)) := by
  have C1 := Lib.hid (fnum_any w g B xs r s hP hs)
  have h0 : 0 ≤ (rdN xs s r).1 ∧ ((rdN xs s r).2.e ≠ 0 → (rdN xs s r).1 = 0) := by
    unfold rdN
    by_cases h1 : r.e = 0
    · rw [if_pos h1]
      by_cases h2 : xs.length < r.p + s
      · rw [if_pos h2]
        exact ⟨Int.le_refl 0, fun _ => rfl⟩
      · rw [if_neg h2]
        exact ⟨(numAt_bounds xs hx r.p s _ rfl).1, fun h => absurd rfl h⟩
    · rw [if_neg h1]
      exact ⟨Int.le_refl 0, fun _ => rfl⟩
  unfold NumF at C1
  have HQ : Hid (∀ e w', (e = .returned (.int .i64 (rdMost xs s most 3 r).1) ∧ PF w' g B xs (rdMost xs s most 3 r).2 ∧ Only g w w') → NumF w g B xs .i64 (rdMost xs s most 3 r) e w') := fun _ _ h => h
  obtain ⟨q, hq⟩ : ∃ q, q = rdN xs s r := ⟨_, rfl⟩
  have hu : rdMost xs s most 3 r = if q.2.e = 0 ∧ most < q.1 then (0, ⟨q.2.p, 3⟩) else q := by rw [hq]; rfl
  rw [hu] at HQ ⊢
  rw [← hq] at C1 h0
  obtain ⟨z, p⟩ := q
  obtain ⟨hb0, h0⟩ := h0
  change 0 ≤ z at hb0
  obtain ⟨hm0, hm1⟩ := hm
  have hmz : IntKind.u64.wrap most = most := by rw [IntKind.wrap_u64]; omega
  clear hq hP hu
  by_cases hg : most < z
  · have he : p.e = 0 := by
      by_cases he : p.e = 0
      · exact he
      · have : z = 0 := h0 he
        omega
    rw [if_pos ⟨he, hg⟩] at HQ ⊢
    clear h0 he
    go_enter Tryd.func74, Tryd.ntmps74
    go_wp2_with fail
    refine C1.out.mono ?_
    rintro e w1 ⟨rfl, hP1, hO1⟩
    obtain ⟨hp1, hg1, A, n, c, hB1, hx1⟩ := hP1
    have f1 := Blk.frozen hB1 1
    have c1 : w1.cell? ⟨g, 1, none⟩ = some (.int .i64 p.e) := Blk.at hB1 rfl
    have HO : Hid (Only g w (w1.setCell ⟨g, 1, none⟩ (.int .i64 3))) := hO1.setCell 1 _
    have HP : Hid (PF (w1.setCell ⟨g, 1, none⟩ (.int .i64 3)) g B xs ⟨p.p, 3⟩) := ⟨hp1, hg1, A, n, c, Blk.set hB1 1 _, hx1.only (only_setCell w1 g 1 _) hg1⟩
    clear hp1 hg1 hB1 hx1 hO1
    go_wp2
    go_ret
    exact HQ.out _ _ ⟨rfl, HP.out, HO.out⟩
  · rw [if_neg (fun h => hg h.2)] at HQ ⊢
    have hzz : IntKind.i64.wrap z = z := by rw [IntKind.wrap_i64]; omega
    clear h0
    go_enter Tryd.func74, Tryd.ntmps74
    go_wp2_with fail
    refine C1.out.mono ?_
    rintro e w1 ⟨rfl, hP1, hO1⟩
    have HP1 := Lib.hid hP1
    have HO1 := Lib.hid hO1
    clear hP1 hO1
    go_wp2
    go_ret
    exact HQ.out _ _ ⟨rfl, HP1.out, HO1.out⟩
def EndF (w : World) (g B : Nat) (xs : List Int) (r : Rd) (e : Ending) (w' : World) : Prop := e = .returned (.tuple #[]) ∧ PF w' g B xs r ∧ Only g w w'
set_option maxHeartbeats 1000000 in
theorem fnought_any (w : World) (g B : Nat) (xs : List Int) (r : Rd) (m : Nat) (hx : Bytes xs) (hP : PF w g B xs r) (hm : m ≤ 65536) :
    Calls Tryd.prog 48 #[.pointer (some ⟨g, 0, none⟩), .int .i64 (m : Int)] w (EndF w g B xs (rdZ xs m r)) := by
  have C1 := fcut_any w g B xs r m hP (by omega)
  have C2 : Hid (∀ (w : World) (A : Option Addr) (k : Nat), Holds w B A k k (rdPart xs m r).1 → Calls Tryd.prog 72 #[.slice A k k, .int .i64 0, .int .i64 (m : Int)] w fun e w' => e = .returned (.bool (zeroOf (rdPart xs m r).1 0 (m : Int))) ∧ w = w') := fun w A k hh => Zero_any w B A k k _ 0 (m : Int) hh (by omega) (by omega)
  have hq : ∀ e w', (e = .returned (.tuple #[]) ∧ PF w' g B xs (if (rdPart xs m r).2.e = 0 then (if zeroOf (rdPart xs m r).1 0 (m : Int) = true then (rdPart xs m r).2 else ⟨(rdPart xs m r).2.p, 5⟩) else (rdPart xs m r).2) ∧ Only g w w') → EndF w g B xs (rdZ xs m r) e w' := fun _ _ h => h
  unfold CutPost at C1
  obtain ⟨z, hz⟩ : ∃ z, z = zeroOf (rdPart xs m r).1 0 (m : Int) := ⟨_, rfl⟩
  rw [← hz] at C2 hq
  obtain ⟨ys, hys⟩ : ∃ ys, ys = (rdPart xs m r).1 := ⟨_, rfl⟩
  rw [← hys] at C1 C2
  obtain ⟨q, hqq⟩ : ∃ q, q = (rdPart xs m r).2 := ⟨_, rfl⟩
  rw [← hqq] at C1 hq
  obtain ⟨p, er⟩ := q
  have C1' := Lib.hid C1
  clear C1 hz hys hqq hP
  by_cases he : er = 0
  · by_cases hzz : z = true
    · have HQ : Hid (∀ e w', (e = .returned (.tuple #[]) ∧ PF w' g B xs ⟨p, er⟩ ∧ Only g w w') → EndF w g B xs (rdZ xs m r) e w') := by
        intro e w' hh
        refine hq e w' ?_
        rw [if_pos he, if_pos hzz]
        exact hh
      clear hq
      subst he hzz
      go_enter Tryd.func48, Tryd.ntmps48
      go_wp2_with fail
      refine C1'.out.mono ?_
      rintro e w1 ⟨A', k, rfl, hk, hH, hP1, hO1⟩
      have HP1 := Lib.hid hP1
      obtain ⟨hp1, hg1, A, n, c, hB1, hx1⟩ := hP1
      have c1 : w1.cell? ⟨g, 1, none⟩ = some (.int .i64 0) := Blk.at hB1 rfl
      have HH := Lib.hid hH
      have HO1 := Lib.hid hO1
      clear hk hH hp1 hg1 hB1 hx1 hO1
      go_wp2_with fail
      refine (C2.out w1 A' k HH.out).mono ?_
      rintro e w2 ⟨rfl, rfl⟩
      go_wp2
      go_end0
      exact HQ.out _ _ ⟨rfl, HP1.out, HO1.out⟩
    · have HQ : Hid (∀ e w', (e = .returned (.tuple #[]) ∧ PF w' g B xs ⟨p, 5⟩ ∧ Only g w w') → EndF w g B xs (rdZ xs m r) e w') := by
        intro e w' hh
        refine hq e w' ?_
        rw [if_pos he, if_neg hzz]
        exact hh
      clear hq
      have hzf : z = false := by simpa using hzz
      clear hzz
      subst he hzf
      go_enter Tryd.func48, Tryd.ntmps48
      go_wp2_with fail
      refine C1'.out.mono ?_
      rintro e w1 ⟨A', k, rfl, hk, hH, hP1, hO1⟩
      obtain ⟨hp1, hg1, A, n, c, hB1, hx1⟩ := hP1
      have c1 : w1.cell? ⟨g, 1, none⟩ = some (.int .i64 0) := Blk.at hB1 rfl
      have f1 := Blk.frozen hB1 1
      have HH := Lib.hid hH
      have HO : Hid (Only g w (w1.setCell ⟨g, 1, none⟩ (.int .i64 5))) := hO1.setCell 1 _
      have HP : Hid (PF (w1.setCell ⟨g, 1, none⟩ (.int .i64 5)) g B xs ⟨p, 5⟩) := ⟨hp1, hg1, A, n, c, Blk.set hB1 1 _, hx1.only (only_setCell w1 g 1 _) hg1⟩
      clear hk hH hp1 hg1 hB1 hx1 hO1
      go_wp2_with fail
      refine (C2.out w1 A' k HH.out).mono ?_
      rintro e w2 ⟨rfl, rfl⟩
      go_wp2
      go_end0
      exact HQ.out _ _ ⟨rfl, HP.out, HO.out⟩
  · have HQ : Hid (∀ e w', (e = .returned (.tuple #[]) ∧ PF w' g B xs ⟨p, er⟩ ∧ Only g w w') → EndF w g B xs (rdZ xs m r) e w') := by
      intro e w' hh
      refine hq e w' ?_
      rw [if_neg he]
      exact hh
    have hne : (er == 0) = false := by simpa using he
    clear hq C2 he
    go_enter Tryd.func48, Tryd.ntmps48
    go_wp2_with fail
    refine C1'.out.mono ?_
    rintro e w1 ⟨A', k, rfl, hk, hH, hP1, hO1⟩
    have HP1 := Lib.hid hP1
    obtain ⟨hp1, hg1, A, n, c, hB1, hx1⟩ := hP1
    have c1 : w1.cell? ⟨g, 1, none⟩ = some (.int .i64 er) := Blk.at hB1 rfl
    have HO1 := Lib.hid hO1
    clear hk hH hp1 hg1 hB1 hx1 hO1
    go_wp2
    go_end0
    exact HQ.out _ _ ⟨rfl, HP1.out, HO1.out⟩
set_option maxHeartbeats 1000000 in
theorem fend_any (w : World) (g B : Nat) (xs : List Int) (r : Rd) (hP : PF w g B xs r) :
    Calls Tryd.prog 52 #[.pointer (some ⟨g, 0, none⟩)] w fun e w' => e = .returned (.int .i64 (rdEnd xs r)) ∧ w = w' := by
  obtain ⟨p, er⟩ := r
  obtain ⟨hp, hg, A, n, c, hB, hx⟩ := hP
  change p ≤ xs.length at hp
  have hl : xs.length - p = n := by rw [← hx.len, List.length_drop]
  have hrm := hx.room
  have c0 : w.cell? ⟨g, 0, none⟩ = some (.slice A n c) := Blk.at hB rfl
  have c1 : w.cell? ⟨g, 1, none⟩ = some (.int .i64 er) := Blk.at hB rfl
  unfold rdEnd
  by_cases he : er = 0
  · subst he
    by_cases hn : 0 < n
    · rw [if_pos ⟨rfl, by show p ≠ _; omega⟩]
      clear hB hx hl hp
      go_enter Tryd.func52, Tryd.ntmps52
      go_wp2
      go_ret
      exact ⟨rfl, rfl⟩
    · rw [if_neg (fun h => h.2 (by show p = _; omega))]
      have hn0 : n = 0 := by omega
      clear hB hx hl hp hn
      subst hn0
      go_enter Tryd.func52, Tryd.ntmps52
      go_wp2
      go_ret
      exact ⟨rfl, rfl⟩
  · rw [if_neg (fun h => he h.1)]
    have hne : (er == 0) = false := by simpa using he
    clear hB hx hl hp he
    go_enter Tryd.func52, Tryd.ntmps52
    go_wp2
    go_ret
    exact ⟨rfl, rfl⟩
end Go.Proofs.YtdlcjobahdmapaaDoor

namespace Go.Proofs.YtdlcjobahdmapaaDoor
set_option linter.all false
open Go.RowKit
set_option linter.unusedVariables false
set_option maxRecDepth 100000
theorem numAt_drop (xs : List Int) (p s : Nat) : numAt (xs.drop p) 0 s = numAt xs p s := by unfold numAt; rw [List.drop_zero]
theorem rowN_drop (xs : List Int) (p : Nat) : rowN (xs.drop p) 0 = rowN xs (p : Int) := by
  unfold rowN
  rw [Int.toNat_natCast]
  exact numAt_drop xs p 2
theorem growErr_drop (xs : List Int) (p : Nat) (m : Int) (hp : p ≤ xs.length) : growErr (xs.drop p) 0 m = growErr xs (p : Int) m := by
  unfold growErr
  rw [rowN_drop, List.length_drop]
  have e1 : ((xs.length - p : Nat) : Int) - 0 = (xs.length : Int) - p := by omega
  rw [if_neg (show ¬ ((0 : Int) < 0 ∨ ((xs.length - p : Nat) : Int) < 0) by omega), e1, if_neg (show ¬ ((p : Int) < 0 ∨ (xs.length : Int) < p) by omega)]
theorem growOf_drop (xs : List Int) (p : Nat) (m : Int) (hp : p ≤ xs.length) : growOf (xs.drop p) 0 m = growOf xs (p : Int) m := by
  unfold growOf
  rw [growErr_drop xs p m hp, rowN_drop, Int.toNat_natCast, show Int.toNat 0 = 0 from rfl, Nat.zero_add, List.drop_drop]
theorem gtext_drop (xs : List Int) (p : Nat) (hp : p ≤ xs.length) : gtextErr (xs.drop p) 0 = gtextErr xs (p : Int) ∧ gtextOf (xs.drop p) 0 = gtextOf xs (p : Int) ∧ (gtextErr xs (p : Int) = 0 → gtextNext (xs.drop p) 0 + p = gtextNext xs (p : Int)) := by
  have e1 : gtextErr (xs.drop p) 0 = gtextErr xs (p : Int) := by
    unfold gtextErr
    rw [growErr_drop xs p 512 hp, growOf_drop xs p 512 hp]
  refine ⟨e1, ?_, ?_⟩
  · unfold gtextOf
    rw [e1, growOf_drop xs p 512 hp]
  · intro h
    unfold gtextNext
    rw [e1, if_pos h, if_pos h]
    unfold growNext
    rw [growErr_drop xs p 512 hp, rowN_drop]
    have hg : growErr xs (p : Int) 512 = 0 := by
      unfold gtextErr at h
      by_cases hg : growErr xs (p : Int) 512 = 0
      · exact hg
      · rw [if_neg hg] at h; exact absurd h hg
    rw [if_pos hg, if_pos hg]
    omega
def TextF (w : World) (g B : Nat) (xs : List Int) (q : List UInt8 × Rd) (e : Ending) (w' : World) : Prop := e = .returned (.string ⟨q.1.toArray⟩) ∧ PF w' g B xs q.2 ∧ Save g w w'
set_option maxHeartbeats 1000000 in
theorem ftext_any (w : World) (g B : Nat) (xs : List Int) (r : Rd) (hx : Bytes xs) (hP : PF w g B xs r) :
    Calls Tryd.prog 49 #[.pointer (some ⟨g, 0, none⟩)] w (TextF w g B xs (rdText xs r)) := by
  have HP0 := Lib.hid hP
  obtain ⟨p, er⟩ := r
  obtain ⟨hp, hg, A, n, c, hB, hh⟩ := hP
  change p ≤ xs.length at hp
  change Blk w g _ [.slice A n c, .int .i64 er] at hB
  change Holds w B A n c (xs.drop p) at hh
  have hl : xs.length - p = n := by rw [← hh.len, List.length_drop]
  have hrm := hh.room
  have hft := hh.fit
  have hlt := hB.lt
  have c0 : w.cell? ⟨g, 0, none⟩ = some (.slice A n c) := Blk.at hB rfl
  have c1 : w.cell? ⟨g, 1, none⟩ = some (.int .i64 er) := Blk.at hB rfl
  by_cases he : er = 0
  rotate_left
  · have HQ : Hid (∀ e w', (e = .returned (.string .empty) ∧ PF w' g B xs ⟨p, er⟩ ∧ Save g w w') → TextF w g B xs (rdText xs ⟨p, er⟩) e w') := by
      intro e w' h
      unfold rdText
      rw [if_neg he]
      exact h
    have hne : (er != 0) = true := by simpa using he
    clear hB hh hl he hp
    go_enter Tryd.func49, Tryd.ntmps49
    go_wp2
    go_ret
    exact HQ.out _ _ ⟨rfl, HP0.out, Save.refl g w⟩
  subst he
  obtain ⟨t1, t2, t3⟩ := gtext_drop xs p hp
  obtain ⟨n0, n1⟩ := gtextNext_nonneg (hx.drop p) 0 (Int.le_refl 0)
  have C1 := GetText_any w A n c (xs.drop p) 0 (hh.mono (by omega)) (by omega)
  unfold PGTextPost at C1
  rw [t1, t2] at C1
  rw [List.length_drop, hl] at n1
  obtain ⟨j, hj⟩ := Int.eq_ofNat_of_zero_le n0
  rw [hj] at C1 n1 t3
  have hjn : j ≤ n := by omega
  have HQ : Hid (∀ e w', (e = .returned (.string ⟨(gtextOf xs (p : Int)).toArray⟩) ∧ PF w' g B xs ⟨p + j, gtextErr xs (p : Int)⟩ ∧ Save g w w') → TextF w g B xs (rdText xs ⟨p, 0⟩) e w') := by
    intro e w' h
    unfold rdText
    rw [if_pos rfl]
    have e2 : (if gtextErr xs (p : Int) = 0 then (gtextNext xs (p : Int)).toNat else p) = p + j := by
      by_cases h0 : gtextErr xs (p : Int) = 0
      · rw [if_pos h0, ← t3 h0]; omega
      · rw [if_neg h0]
        have : (j : Int) = 0 := by
          rw [← hj]
          unfold gtextNext
          rw [t1, if_neg h0]
        omega
    show TextF w g B xs (_, ⟨if gtextErr xs ((p : Nat) : Int) = 0 then (gtextNext xs ((p : Nat) : Int)).toNat else p, _⟩) e w'
    rw [e2]
    exact h
  have hd : (xs.drop p).drop j = xs.drop (p + j) := by rw [List.drop_drop]
  have hrst := hh.rest (k := j) hjn
  rw [hd] at hrst
  have HK : Hid (∀ w1, Below w.heap.size w w1 → w1.cell? ⟨g, 0, none⟩ = some (.slice A n c) ∧ w1.cell? ⟨g, 1, none⟩ = some (.int .i64 0) ∧ w1.frozen? ⟨g, 0, none⟩ = false ∧ w1.frozen? ⟨g, 1, none⟩ = false ∧ ∀ v, (w1.setCell ⟨g, 0, none⟩ v).frozen? ⟨g, 1, none⟩ = false ∧ (w1.setCell ⟨g, 0, none⟩ v).cell? ⟨g, 1, none⟩ = some (.int .i64 0)) := by
    intro w1 hb
    have h1 := hB.over hb
    exact ⟨h1.at rfl, h1.at rfl, h1.frozen 0, h1.frozen 1, fun v => ⟨(h1.set 0 v).frozen 1, (h1.set 0 v).at rfl⟩⟩
  obtain ⟨tx, htx⟩ : ∃ x, x = gtextOf xs (p : Int) := ⟨_, rfl⟩
  obtain ⟨ex, hex⟩ : ∃ x, x = gtextErr xs (p : Int) := ⟨_, rfl⟩
  rw [← htx, ← hex] at C1 HQ
  have HB0 := Lib.hid hB
  have HS : Hid (∀ (w1 : World) (u v : Value), Below w.heap.size w w1 → Save g w ((w1.setCell ⟨g, 0, none⟩ u).setCell ⟨g, 1, none⟩ v)) := fun w1 u v hb => ((Save.of_below hb g).setCell 0 u).setCell 1 v
  have C1' := Lib.hid C1
  by_cases hcj : c = j
  · rw [if_pos hcj] at hrst
    subst hcj
    have HPF : Hid (∀ w1, Below w.heap.size w w1 → PF ((w1.setCell ⟨g, 0, none⟩ (.slice A 0 0)).setCell ⟨g, 1, none⟩ (.int .i64 ex)) g B xs ⟨p + c, ex⟩) := by
      intro w1 hb
      have hr2 : Holds w B A 0 0 (xs.drop (p + c)) := by
        have h0 : n - c = 0 := by omega
        simpa [h0] using hrst
      exact ⟨by show p + c ≤ _; omega, hg, _, _, _, Blk.set (Blk.set (hB.over hb) 0 _) 1 _, ((hr2.below (hb.mono (by omega))).only (only_setCell w1 g 0 _) hg).only (only_setCell _ g 1 _) hg⟩
    clear C1 hB hh hl hp t1 t2 t3 n0 n1 hj htx hex hd hrst c1
    go_enter Tryd.func49, Tryd.ntmps49
    have c1 : w.cell? ⟨g, 1, none⟩ = some (.int .i64 0) := HB0.out.at rfl
    go_wp2_with fail
    refine C1'.out.mono ?_
    rintro e w1 ⟨rfl, hb⟩
    have HPW := Lib.hid (HPF.out w1 hb)
    have HSW := Lib.hid (HS.out w1 (.slice A 0 0) (.int .i64 ex) hb)
    obtain ⟨k0, k1, k2, k3, k4⟩ := HK.out w1 hb
    obtain ⟨k5, k6⟩ := k4 (.slice A 0 0)
    clear k4 hb HPF HK HS
    go_wp2
    go_ret
    exact HQ.out _ _ ⟨rfl, HPW.out, HSW.out⟩
  · rw [if_neg hcj] at hrst
    have HPF : Hid (∀ w1, Below w.heap.size w w1 → PF ((w1.setCell ⟨g, 0, none⟩ (.slice (A.map (·.add j)) (n - j) (c - j))).setCell ⟨g, 1, none⟩ (.int .i64 ex)) g B xs ⟨p + j, ex⟩) := by
      intro w1 hb
      exact ⟨by show p + j ≤ _; omega, hg, _, _, _, Blk.set (Blk.set (hB.over hb) 0 _) 1 _, ((hrst.below (hb.mono (by omega))).only (only_setCell w1 g 0 _) hg).only (only_setCell _ g 1 _) hg⟩
    clear C1 hB hh hl hp t1 t2 t3 n0 n1 hj htx hex hd hrst c1
    go_enter Tryd.func49, Tryd.ntmps49
    have c1 : w.cell? ⟨g, 1, none⟩ = some (.int .i64 0) := HB0.out.at rfl
    go_wp2_with fail
    refine C1'.out.mono ?_
    rintro e w1 ⟨rfl, hb⟩
    have HPW := Lib.hid (HPF.out w1 hb)
    have HSW := Lib.hid (HS.out w1 (.slice (A.map (·.add j)) (n - j) (c - j)) (.int .i64 ex) hb)
    obtain ⟨k0, k1, k2, k3, k4⟩ := HK.out w1 hb
    obtain ⟨k5, k6⟩ := k4 (.slice (A.map (·.add j)) (n - j) (c - j))
    clear k4 hb HPF HK HS
    go_wp2
    go_ret
    exact HQ.out _ _ ⟨rfl, HPW.out, HSW.out⟩
def DataF (w : World) (g B : Nat) (xs : List Int) (q : List Int × Rd) (e : Ending) (w' : World) : Prop := ∃ v, e = .returned v ∧ OwnZ .u8 5 w' w.heap.size v q.1 ∧ PF w' g B xs q.2 ∧ Save g w w'
theorem cat_one (A : Option Addr) (k : Nat) (ys : List Int) : catL (partX [(A, k, k, ys)]) 1 = ys := by
  show [] ++ ys = ys
  rfl
set_option maxHeartbeats 1000000 in
theorem fdata_any (w : World) (g B : Nat) (xs : List Int) (r : Rd) (hx : Bytes xs) (hP : PF w g B xs r) :
    Calls Tryd.prog 50 #[.pointer (some ⟨g, 0, none⟩)] w (DataF w g B xs (rdData xs r)) := by
  have hlt := hP.lt
  have hBg := hP.2.1
  have C1 := fmany_any w g B xs r 4 32768 hx hP (by decide) (by decide)
  obtain ⟨m0, m1⟩ := rdMost_lt hx 4 32768 3 r (by decide) (by decide)
  unfold NumF at C1
  have hq : ∀ e w', DataF w g B xs (rdPart xs (rdMost xs 4 32768 3 r).1.toNat (rdMost xs 4 32768 3 r).2) e w' → DataF w g B xs (rdData xs r) e w' := fun _ _ h => h
  obtain ⟨q, hqq⟩ : ∃ q, q = rdMost xs 4 32768 3 r := ⟨_, rfl⟩
  rw [← hqq] at C1 m0 m1 hq
  obtain ⟨z, p⟩ := q
  change 0 ≤ z at m0
  change z ≤ 32768 at m1
  obtain ⟨m, rfl⟩ := Int.eq_ofNat_of_zero_le m0
  change ∀ e w', DataF w g B xs (rdPart xs ((m : Int)).toNat p) e w' → _ at hq
  rw [Int.toNat_natCast] at hq
  have hm : m ≤ 32768 := by omega
  have CC : Hid (∀ w, PF w g B xs p → Calls Tryd.prog 71 #[.pointer (some ⟨g, 0, none⟩), .int .i64 (m : Int)] w (CutPost w g B xs (rdPart xs m p))) := fun w h => fcut_any w g B xs p m h (by omega)
  have hyl : (rdPart xs m p).1.length ≤ m := rdPart_len
  have HQ : Hid (∀ e w', (∃ v, e = .returned v ∧ OwnZ .u8 5 w' w.heap.size v (rdPart xs m p).1 ∧ PF w' g B xs (rdPart xs m p).2 ∧ Save g w w') → DataF w g B xs (rdData xs r) e w') := fun e w' h => hq e w' h
  obtain ⟨d, hd⟩ : ∃ d, d = rdPart xs m p := ⟨_, rfl⟩
  rw [← hd] at CC HQ hyl
  obtain ⟨ys, q⟩ := d
  change ys.length ≤ m at hyl
  have C1' := Lib.hid C1
  clear C1 hqq hq hd hP m0 m1
  go_enter Tryd.func50, Tryd.ntmps50
  go_wp2_with fail
  refine C1'.out.mono ?_
  rintro e w1 ⟨rfl, hP1, hO1⟩
  have HP1 := Lib.hid hP1
  have HO1 := Lib.hid hO1
  clear hP1 hO1 C1'
  go_wp2_with fail
  refine (CC.out w1 HP1.out).mono ?_
  rintro e w2 ⟨A', k, rfl, hk, hH, hP2, hO2⟩
  have HH := Lib.hid hH
  have HP2 := Lib.hid hP2
  have HS2 : Hid (Save g w w2) := (Save.of_only HO1.out).trans (Save.of_only hO2)
  have HKY : Hid (k = ys.length) := hk
  have hk3 : k ≤ 32768 := by rw [hk]; exact Nat.le_trans hyl hm
  clear hH hP2 hO2 HO1 HP1 CC hk
  have hsz : w.heap.size ≤ w2.heap.size := HS2.out.size
  have hB2 : B ≤ w2.heap.size := by omega
  go_wp2_with (first
    | ((with_reducible show wpList _ _ _ (⟨some 7, _, _, _, _, _⟩ :: _) _ _); refine wpList_litParts rfl 1 _ rfl [(A', k, k, ys)] rfl (by kernel_rfl) (fun p hp => by rw [List.mem_singleton.1 hp]; exact HH.out.mono hB2) ?_; intro g3 w3 hP3 L3)
    | fail)
  have HCC := Lib.hid (ConcatZ_any w3 g3 1 _ _ _ _ hP3.out (by decide) (by show 0 + k ≤ _; omega))
  have HP3 := Lib.hid (HP2.out.below L3.out)
  have HS3 := Lib.hid (HS2.out.trans (Save.of_below L3.out g))
  have hsz3 := L3.out.size
  clear hP3 L3 HH
  go_wp2_with fail
  refine HCC.out.mono ?_
  rintro e w4 ⟨v, rfl, hv, L4⟩
  rw [cat_one] at hv
  have HV := Lib.hid (OwnZ.mono hv (Nat.le_trans hsz hsz3))
  have HP4 := Lib.hid (HP3.out.below L4)
  have HS4 := Lib.hid (HS3.out.trans (Save.of_below L4 g))
  clear hv L4 HCC HP3 HS3
  go_wp2
  go_ret
  exact HQ.out _ _ ⟨_, rfl, HV.out, HP4.out, HS4.out⟩
theorem PF.belowAt {w w' : World} {g B b : Nat} {xs : List Int} {r : Rd} (h : PF w g B xs r) (hb : Below b w w') (hg : g < b) : PF w' g B xs r := by
  obtain ⟨h1, h2, A, n, c, hB, hx⟩ := h
  exact ⟨h1, h2, A, n, c, hB.below hb hg, hx.below (hb.mono (by omega))⟩
/-- one lock in a block of its own -/
theorem HoldsS.oneLock {w : World} {g : Nat} {T : TypeId} {l : LockV} (h : Blk w g T (lockCells l)) : HoldsS lockCells 4 w (g + 1) (some ⟨g, 0, none⟩) 1 1 [l] := by
  refine ⟨rfl, Nat.le_refl _, fun hA => (by cases hA), fun _ => ⟨g, 0, rfl, by omega, fun i x hx j u hu => ?_⟩⟩
  have hi : i = 0 := by
    have := (List.getElem?_eq_some_iff.1 hx).1
    simpa using this
  subst hi
  have hx2 : l = x := by simpa using hx
  subst hx2
  rw [Nat.zero_mul, Nat.zero_add, Nat.zero_add, h.cell]
  exact hu
def LocksF (w : World) (g B : Nat) (xs : List Int) (q : List LockV × Rd) (e : Ending) (w' : World) : Prop := ∃ v, e = .returned v ∧ OwnS lockCells 4 69 w' w.heap.size v q.1 ∧ PF w' g B xs q.2 ∧ Save g w w'
set_option maxHeartbeats 2000000 in
theorem flocks_any (w : World) (g B : Nat) (xs : List Int) (r : Rd) (hx : Bytes xs) (hP : PF w g B xs r) :
    Calls Tryd.prog 51 #[.pointer (some ⟨g, 0, none⟩)] w (LocksF w g B xs (rdAll xs r)) := by
  have hlt := hP.lt
  have hBg := hP.2.1
  have C1 := fmany_any w g B xs r 2 16 hx hP (by decide) (by decide)
  obtain ⟨m0, m1⟩ := rdMost_lt hx 2 16 3 r (by decide) (by decide)
  unfold NumF at C1
  have hq : ∀ e w', LocksF w g B xs (rdLocks xs (rdZ xs 2 (rdMost xs 2 16 3 r).2) (rdMost xs 2 16 3 r).1.toNat) e w' → LocksF w g B xs (rdAll xs r) e w' := fun _ _ h => h
  obtain ⟨q, hqq⟩ : ∃ q, q = rdMost xs 2 16 3 r := ⟨_, rfl⟩
  rw [← hqq] at C1 m0 m1 hq
  obtain ⟨z, p⟩ := q
  change 0 ≤ z at m0
  change z ≤ 16 at m1
  obtain ⟨N, rfl⟩ := Int.eq_ofNat_of_zero_le m0
  change ∀ e w', LocksF w g B xs (rdLocks xs (rdZ xs 2 p) ((N : Int)).toNat) e w' → _ at hq
  rw [Int.toNat_natCast] at hq
  have hN : N ≤ 16 := by omega
  have CZ : Hid (∀ (w : World) (r : Rd), PF w g B xs r → Calls Tryd.prog 48 #[.pointer (some ⟨g, 0, none⟩), .int .i64 2] w fun e w' => e = .returned (.tuple #[]) ∧ PF w' g B xs (rdZ xs 2 r) ∧ Only g w w') := fun w r h => fnought_any w g B xs r 2 hx h (by decide)
  have C8 : Hid (∀ (w : World) (r : Rd), PF w g B xs r → Calls Tryd.prog 47 #[.pointer (some ⟨g, 0, none⟩)] w fun e w' => e = .returned (.int .u64 (rdN xs 8 r).1) ∧ PF w' g B xs (rdN xs 8 r).2 ∧ Only g w w') := fun w r h => feight_any w g B xs r hx h
  have C2 : Hid (∀ (w : World) (r : Rd), PF w g B xs r → Calls Tryd.prog 75 #[.pointer (some ⟨g, 0, none⟩)] w fun e w' => e = .returned (.int .u16 (rdN xs 2 r).1) ∧ PF w' g B xs (rdN xs 2 r).2 ∧ Only g w w') := fun w r h => ftwo_any w g B xs r hx h
  have HQ : Hid (∀ e w', (∃ v, e = .returned v ∧ OwnS lockCells 4 69 w' w.heap.size v (rdLocks xs (rdZ xs 2 p) N).1 ∧ PF w' g B xs (rdLocks xs (rdZ xs 2 p) N).2 ∧ Save g w w') → LocksF w g B xs (rdAll xs r) e w') := fun e w' h => hq e w' h
  obtain ⟨qz, hqz⟩ : ∃ q, q = rdZ xs 2 p := ⟨_, rfl⟩
  rw [← hqz] at HQ
  have HQZ := Lib.hid hqz
  have HST : Hid (∀ j, (rdLocks xs qz (j + 1)).1 = (rdLocks xs qz j).1 ++ [(⟨0, (rdN xs 8 (rdLocks xs qz j).2).1, (rdN xs 8 (rdN xs 8 (rdLocks xs qz j).2).2).1, (rdN xs 2 (rdN xs 8 (rdN xs 8 (rdLocks xs qz j).2).2).2).1⟩ : LockV)] ∧ (rdLocks xs qz (j + 1)).2 = rdZ xs 2 (rdN xs 2 (rdN xs 8 (rdN xs 8 (rdLocks xs qz j).2).2).2).2) := fun j => ⟨rfl, rfl⟩
  have HLN : Hid (∀ j, (rdLocks xs qz j).1.length = j) := fun j => rdLocks_len j
  obtain ⟨lk, hlk⟩ : ∃ f, f = rdLocks xs qz := ⟨_, rfl⟩
  have H0 : Hid (lk 0 = ([], qz)) := by show _ = _; rw [hlk]; rfl
  rw [← hlk] at HST HLN HQ
  have BL : ∀ x y z : Int, Tryd.prog.built 69 [(1, .int .u64 x), (2, .int .u64 y), (3, .int .u16 z)] = some (lockCells ⟨0, x, y, z⟩).toArray := fun x y z => by kernel_rfl
  have BS : ∀ l : LockV, Tryd.prog.builtSlice 69 1 [(0, .agg (lockCells l).toArray)] = some (lockCells l).toArray := fun l => by kernel_rfl
  have C1' := Lib.hid C1
  clear C1 hqq hq hqz hlk hP m0 m1
  go_enter Tryd.func51, Tryd.ntmps51
  go_wp2_with fail
  refine C1'.out.mono ?_
  rintro e w1 ⟨rfl, hP1, hO1⟩
  have HP1 := Lib.hid hP1
  have HO1 := Lib.hid hO1
  clear hP1 hO1 C1'
  go_wp2_with fail
  refine (CZ.out w1 p HP1.out).mono ?_
  rintro e w2 ⟨rfl, hP2, hO2⟩
  rw [← HQZ.out] at hP2
  have HP2 := Lib.hid hP2
  have HS2 : Hid (Save g w w2) := (Save.of_only HO1.out).trans (Save.of_only hO2)
  clear hP2 hO2 HO1 HP1 HQZ
  go_wp2
  go_loopw [3, 10] (fun v i wr => ∃ j : Nat, i = .int .i64 j ∧ j ≤ N ∧ Hid (OwnS lockCells 4 69 wr w.heap.size v (lk j).1) ∧ Hid (PF wr g B xs (lk j).2) ∧ Hid (Save g w wr)) (fun _ i _ => N - (intOf i).toNat)
  case atStart => exact ⟨0, rfl, Nat.zero_le _, by rw [H0.out]; exact OwnS.nil _ _ _ _ _, by rw [H0.out]; exact HP2, HS2⟩
  case round =>
    obtain ⟨j, rfl, hj, HO, HP, HS⟩ := hrel
    by_cases hlt2 : j < N
    · obtain ⟨E1, E2⟩ := HST.out j
      have hLn := HLN.out j
      have HE1 := Lib.hid E1
      have HE2 := Lib.hid E2
      obtain ⟨r0, hr0⟩ : ∃ r, r = (lk j).2 := ⟨_, rfl⟩
      rw [← hr0] at HP HE1 HE2
      obtain ⟨L, hL⟩ : ∃ r, r = (lk j).1 := ⟨_, rfl⟩
      rw [← hL] at HO HE1 hLn
      obtain ⟨r1, hr1⟩ : ∃ r, r = rdN xs 8 r0 := ⟨_, rfl⟩
      rw [← hr1] at HE1 HE2
      have D1 := C8.out wr r0 HP.out
      rw [← hr1] at D1
      obtain ⟨r2, hr2⟩ : ∃ r, r = rdN xs 8 r1.2 := ⟨_, rfl⟩
      rw [← hr2] at HE1 HE2
      have D2 := fun w h => C8.out w r1.2 h
      rw [← hr2] at D2
      obtain ⟨r3, hr3⟩ : ∃ r, r = rdN xs 2 r2.2 := ⟨_, rfl⟩
      rw [← hr3] at HE1 HE2
      have D3 := fun w h => C2.out w r2.2 h
      rw [← hr3] at D3
      have D4 := fun w h => CZ.out w r3.2 h
      rw [← HE2.out] at D4
      have D1' := Lib.hid D1
      have D2' := Lib.hid D2
      have D3' := Lib.hid D3
      have D4' := Lib.hid D4
      have hsz := HS.out.size
      clear E1 E2 hr0 hL hr1 hr2 hr3 D1 D2 D3 D4 HE2
      go_wp2_with fail
      refine D1'.out.mono ?_
      rintro e v1 ⟨rfl, hP1, hO1⟩
      have HPa := Lib.hid hP1
      have HSa := Lib.hid (HS.out.trans (Save.of_only hO1))
      have HOa := Lib.hid (HO.out.only hO1 hlt)
      clear hP1 hO1 D1' HO HP
      go_wp2_with fail
      refine (D2'.out v1 HPa.out).mono ?_
      rintro e v2 ⟨rfl, hP1, hO1⟩
      have HPb := Lib.hid hP1
      have HSb := Lib.hid (HSa.out.trans (Save.of_only hO1))
      have HOb := Lib.hid (HOa.out.only hO1 hlt)
      clear hP1 hO1 D2' HOa HPa HSa
      go_wp2_with fail
      refine (D3'.out v2 HPb.out).mono ?_
      rintro e v3 ⟨rfl, hP1, hO1⟩
      have HPc := Lib.hid hP1
      have HSc := Lib.hid (HSb.out.trans (Save.of_only hO1))
      have HOc := Lib.hid (HOb.out.only hO1 hlt)
      clear hP1 hO1 D3' HOb HPb HSb
      obtain ⟨l, hl⟩ : ∃ l : LockV, l = ⟨0, r1.1, r2.1, r3.1⟩ := ⟨_, rfl⟩
      rw [← hl] at HE1
      have BLl := BL r1.1 r2.1 r3.1
      rw [← hl] at BLl
      have hszc := HSc.out.size
      clear hl
      go_wp2_with (first
        | ((with_reducible show wpList _ _ _ (⟨some 19, _, _, _, _, _⟩ :: _) _ _); refine wpList_build_blk rfl _ _ rfl (lockCells l) (by refine Eq.trans ?_ BLl; kernel_rfl) ?_)
        | ((with_reducible show wpList _ _ _ (⟨some 20, _, _, _, _, _⟩ :: _) _ _); refine wpList_slice_blk rfl _ _ 1 _ rfl Tryd.underlying30 (lockCells l) (by refine Eq.trans ?_ (BS l); kernel_rfl) ?_; intro gl v4 hgl1 hgl2 K4 L4; have HOd := Lib.hid (HOc.out.below L4.out); have HPd := Lib.hid (HPc.out.below L4.out); have HSd := Lib.hid (HSc.out.trans (Save.of_below L4.out g)); have hszd := HSd.out.size)
        | (at_builtin; refine wpList_append_holdS rfl (.tmp 12) (.tmp 20) lockCells 4 (by omega) lockCells_len lockCells_one _ rfl 30 69 32 Tryd.underlying30 info_lock rfl w.heap.size _ L rfl HOd.out (gl + 1) _ 1 1 [l] rfl (HoldsS.oneLock K4.out) (by rw [hLn]; show (j + 1) * 32 ≤ _; omega) (by rw [hLn]; show j + 1 ≤ _; omega) hszd ?_; intro u5 v5 HOe L5)
        | fail)
      have HPe := Lib.hid (PF.belowAt HPd.out L5.out hlt)
      have HSe := Lib.hid (Save.thenBelow HSd.out L5.out)
      clear HOd HPd HSd HPc HSc HOc K4 L4 L5 BLl
      refine (D4'.out v5 HPe.out).mono ?_
      rintro e v6 ⟨rfl, hP1, hO1⟩
      have HPf := Lib.hid hP1
      have HSf := Lib.hid (HSe.out.trans (Save.of_only hO1))
      have HOf := Lib.hid (HOe.out.only hO1 hlt)
      rw [← HE1.out] at HOf
      clear hP1 hO1 D4' HOe HPe HSe HE1
      go_wp2
      go_roundw
      case rel => exact ⟨j + 1, by simp, by omega, HOf, HPf, HSf⟩
      case measure => simp [intOf]; omega
    · obtain rfl : j = N := by omega
      go_wp2
      go_ret
      exact HQ.out _ _ ⟨_, rfl, HO.out, HP.out, HS.out⟩
end Go.Proofs.YtdlcjobahdmapaaDoor
