import Derived.WalkKit
import Derived.Deep.Draws
import Derived.Laws.Rows
import Derived.Laws.OwnMore
import Derived.Test.YtbbjmmooemmeiaaDoorRows
import Derived.Laws.CopyOwn
import Derived.Laws.AppendOwnNone
import Derived.Lib.Hide
import Derived.Laws.AppendOwn
import Derived.OwnWalk
import Derived.Lib.OthersKept
import Derived.Laws.BytesArg
import Derived.Laws.Tables
import Derived.Laws.NewFold
import Derived.Deep.WholeRow
import Derived.Deep.DeepCutAuto
import Derived.OneCell
import Derived.ProofKit
import Derived.OpenShut
import Derived.ShutString
import Derived.SizedLaws
import Derived.ChangeOld
import Derived.Deep.Strs
import Derived.Deep.MidRow
import Derived.Great.Walk
import Derived.OrdersHeld
import Derived.Laws.StructEq
import Derived.ChangeKeysEq
import Derived.Laws.Bits64
import Derived.Laws.BitsAllLaws
import Derived.WalkSpells
import Derived.WalkLawsBesides
import Derived.Deep.QuietTactic
import Derived.BigQuiet
import Derived.Test.YtbbjmmooemmeiaaDoorWAD
import Derived.Test.YtbbjmmooemmeiaaDoorWAE
import Derived.Test.YtbbjmmooemmeiaaDoorWAF
import Derived.Test.YtbbjmmooemmeiaaDoorWAH
import Derived.Test.YtbbjmmooemmeiaaDoorWAK
import Derived.Test.YtbbjmmooemmeiaaDoorWAM
namespace Go.Proofs.YtbbjmmooemmeiaaDoor
set_option linter.all false
open Go.RowKit
set_option maxRecDepth 100000
set_option linter.unusedVariables false
set_option maxHeartbeats 400000 in
theorem words16_any (w : World) (B B' : Nat) (A A' : Option Addr) (n c n' c' : Nat) (xs ys : List Int) (h : HoldsF (Value.int .u16) w B A n c xs) (h' : HoldsF (Value.int .u16) w B' A' n' c' ys) (hr : n ≤ 281474976710656) (hr' : n' ≤ 281474976710656) :
    Calls Tryd.prog 42 #[.slice A n c, .slice A' n' c'] w fun e w' => e = .returned (.bool (decide (xs = ys))) ∧ ∃ k, w.drewN k = w' := by
  have hl := h.len
  have hl' := h'.len
  have hf := h.fit
  have hf' := h'.fit
  by_cases hn : n = n'
  · subst hn
    have HL := Lib.hid hl
    have HL' := Lib.hid hl'
    clear hl hl'
    go_enter Tryd.func42, Tryd.ntmps42
    go_wp2
    go_loopw [5] (fun i wr => ∃ k : Nat, k ≤ n ∧ i = .int .i64 k ∧ Hid (xs.take k = ys.take k) ∧ ∃ j, wr = w.drewN j) (fun i _ => n - (intOf i).toNat)
    case atStart => exact ⟨0, Nat.zero_le _, rfl, by simp [Hid], 0, rfl⟩
    case round =>
      obtain ⟨k, hk, rfl, HT, j, rfl⟩ := hrel
      by_cases hlt : k < n
      · obtain ⟨b, off, rfl, hb, hc⟩ := h.cells (by omega)
        obtain ⟨b', off', rfl, hb', hc'⟩ := h'.cells (by omega)
        obtain ⟨x, hx⟩ : ∃ x, xs[k]? = some x := ⟨_, List.getElem?_eq_getElem (by have := HL.out; omega)⟩
        obtain ⟨y, hy⟩ : ∃ y, ys[k]? = some y := ⟨_, List.getElem?_eq_getElem (by have := HL'.out; omega)⟩
        have gc := hc k x hx
        have gc' := hc' k y hy
        clear hc hc'
        have HX := Lib.hid hx
        have HY := Lib.hid hy
        clear hx hy
        by_cases he : x = y
        · have hS : Hid (xs.take (k + 1) = ys.take (k + 1)) := take_eq_stepA HX.out (by rw [HY.out, he]) HT.out
          clear HX HY HT
          subst he
          have hb0 : (x != x) = false := by simp
          go_wp2
          go_quiet (fail)
          go_wp2
          go_roundw
          case rel => exact ⟨k + 1, by omega, by go_num, hS, _, rfl⟩
          case measure => simp [intOf]; omega
        · have hS := Lib.hid (ne_of_getA HX.out HY.out he)
          clear HX HY HT
          have hb0 : (x != y) = true := by simpa using he
          clear he
          go_wp2
          go_quiet (fail)
          go_wp2
          go_ret
          exact ⟨ret_bool hS.out.symm, _, (World.drewN_drewN ..).symm⟩
      · have hS := Lib.hid (eq_of_takeA (n := n) HL.out HL'.out (by have := HT.out; rwa [show k = n from by omega] at this))
        clear HT
        go_wp2
        go_ret
        exact ⟨ret_bool hS.out.symm, _, rfl⟩
  · have e1 : decide (xs = ys) = false := by
      rw [decide_eq_false_iff_not]
      rintro rfl
      omega
    have hne : ((n : Int) == (n' : Int)) = false := by simp; omega
    have hne' : ((n : Int) != (n' : Int)) = true := by simp; omega
    rw [e1]
    clear e1 hl hl'
    go_enter Tryd.func42, Tryd.ntmps42
    go_wp2
    go_ret
    exact ⟨rfl, 0, rfl⟩
section
variable {P : Program} {w : World} {d : Nat} {xs ys : Array Value} {r : List (Bool × TypeId × Nat)} {q : Bool}
end
theorem fields_lock : (Tryd.prog.fieldsOf 108).toList.map (fun f => (decide (f.name = "_"), f.type, f.offset)) = [(false, 3, 0), (false, 28, 1), (false, 28, 2), (false, 22, 3)] := by kernel_rfl
theorem run_equalIn_lock (a b : LockV) (w : World) : (Op.equalIn 10000 108 (.agg (lockCells a).toArray) (.agg (lockCells b).toArray)).run Tryd.prog w = .ok (decide (a = b)) w := by
  rw [show (10000 : Nat) = 9999 + 1 from rfl, run_equalIn_struct w 9999 108 _ _ Tryd.underlying108 (by kernel_rfl), eqFields_spec, fields_lock]
  have h := eqSpec_int (P := Tryd.prog) (w := w) (d := 9998) (xs := (lockCells a).toArray) (ys := (lockCells b).toArray) 3 .i64 0 a.op b.op Tryd.underlying3 rfl rfl
    (eqSpec_int 28 .u64 1 a.at_ b.at_ Tryd.underlying28 rfl rfl
    (eqSpec_int 28 .u64 2 a.n b.n Tryd.underlying28 rfl rfl
    (eqSpec_int (r := []) (q := true) 22 .u16 3 a.md b.md Tryd.underlying22 rfl rfl (by simp [eqSpec]))))
  refine h.trans ?_
  congr 1
  obtain ⟨a0, a1, a2, a3⟩ := a
  obtain ⟨b0, b1, b2, b3⟩ := b
  rw [Bool.eq_iff_iff]
  simp
theorem guard_lock : Tryd.prog.eqGuardType Tryd.prog.depth 108 = false := by kernel_rfl
theorem size_lock : (Tryd.prog.info? 108).map (·.size) = some 4 := by kernel_rfl
set_option maxRecDepth 100000 in
set_option maxHeartbeats 1000000 in
theorem Locks_any (w : World) (B B' : Nat) (A A' : Option Addr) (n c n' c' : Nat) (xs ys : List LockV) (h : HoldsS lockCells 4 w B A n c xs) (h' : HoldsS lockCells 4 w B' A' n' c' ys) (hr : n ≤ 281474976710656) (hr' : n' ≤ 281474976710656) :
    Calls Tryd.prog 43 #[.slice A n c, .slice A' n' c'] w fun e w' => e = .returned (.bool (decide (xs = ys))) ∧ ∃ k, w.drewN k = w' := by
  have hl := h.len
  have hl' := h'.len
  have hf := h.fit
  have hf' := h'.fit
  by_cases hn : n = n'
  · subst hn
    have HL := Lib.hid hl
    have HL' := Lib.hid hl'
    clear hl hl'
    go_enter Tryd.func43, Tryd.ntmps43
    go_wp2
    go_loopw [5] (fun i wr => ∃ k : Nat, k ≤ n ∧ i = .int .i64 k ∧ Hid (xs.take k = ys.take k) ∧ ∃ j, wr = w.drewN j) (fun i _ => n - (intOf i).toNat)
    case atStart => exact ⟨0, Nat.zero_le _, rfl, by simp [Hid], 0, rfl⟩
    case round =>
      obtain ⟨k, hk, rfl, HT, j, rfl⟩ := hrel
      by_cases hlt : k < n
      · obtain ⟨b, off, rfl, hb, hc⟩ := h.cells (by omega)
        obtain ⟨b', off', rfl, hb', hc'⟩ := h'.cells (by omega)
        obtain ⟨x, hx⟩ : ∃ x, xs[k]? = some x := ⟨_, List.getElem?_eq_getElem (by have := HL.out; omega)⟩
        obtain ⟨y, hy⟩ : ∃ y, ys[k]? = some y := ⟨_, List.getElem?_eq_getElem (by have := HL'.out; omega)⟩
        have rx := h.range rfl hlt hx
        have ry := h'.range rfl hlt hy
        clear hc hc'
        have HX := Lib.hid hx
        have HY := Lib.hid hy
        have q0 : ∀ w : World, (Op.equalIn 10000 108 (.agg (lockCells x).toArray) (.agg (lockCells y).toArray)).run Tryd.prog w = .ok (decide (x = y)) w := fun w => run_equalIn_lock x y w
        have qg := guard_lock
        obtain ⟨wj, hwj⟩ : ∃ wj, wj = w.drewN j := ⟨_, rfl⟩
        have Rx : Hid (wj.rangeAt b (off + k * 4) (lockCells x)) := by rw [hwj]; exact rx
        have Ry : Hid (wj.rangeAt b' (off' + k * 4) (lockCells y)) := by rw [hwj]; exact ry
        rw [← hwj]
        have HW := Lib.hid hwj
        have LX : Hid ((lockCells x).length = 4) := rfl
        have LY : Hid ((lockCells y).length = 4) := rfl
        obtain ⟨cx, hcx⟩ : ∃ cx, cx = lockCells x := ⟨_, rfl⟩
        obtain ⟨cy, hcy⟩ : ∃ cy, cy = lockCells y := ⟨_, rfl⟩
        rw [← hcx] at Rx LX q0
        rw [← hcy] at Ry LY q0
        obtain ⟨z, hz⟩ : ∃ z, z = decide (x = y) := ⟨_, rfl⟩
        rw [← hz] at q0
        have HZ := Lib.hid hz
        clear hx hy hwj rx ry hcx hcy hz
        go_upto_region 6 with fail
        refine wp_region_held (S := fun w' => World.rangeAt w' b (off + k * 4) cx ∧ World.rangeAt w' b' (off' + k * 4) cy) (by kernel_rfl) ?_
        change wpAnyH _ _ _ _ _ _ _ _ wj.drew
        have S0 : Hid (World.rangeAt wj.drew b (off + k * 4) cx ∧ World.rangeAt wj.drew b' (off' + k * 4) cy) := ⟨Rx.out, Ry.out⟩
        have b0 : Hid (Below w.heap.size w wj.drew) := by rw [HW.out]; exact drewed w (j + 1)
        refine wpAnyH_take (i := 0) (v := _) rfl (by kernel_rfl) (by kernel_rfl) (by kernel_rfl) (fun _ _ _ h => h) (yieldsIf_move (by kernel_rfl) (.tmp 0) rfl (.slice (some ⟨b, off, none⟩) n c) (by kernel_rfl)) S0.out ?_
        refine wpAnyH_take (i := 1) (v := _) rfl (by kernel_rfl) (by kernel_rfl) (by kernel_rfl) (fun _ _ _ h => h) (yieldsIf_move (by kernel_rfl) (.tmp 5) rfl (.int .i64 k) (by kernel_rfl)) S0.out ?_
        refine wpAnyH_take (i := 2) (v := .pointer (some ⟨b, off + k * 4, none⟩)) rfl (by kernel_rfl) (by kernel_rfl) (by kernel_rfl) (fun _ _ _ h => h) (.inl ⟨by kernel_rfl, fun w _ => by go_simp⟩) S0.out ?_
        refine wpAnyH_take (i := 3) (v := _) rfl (by kernel_rfl) (by kernel_rfl) (by kernel_rfl) (fun _ _ _ h => h) (yieldsIf_load_mid (by kernel_rfl) _ (.tmp 19) rfl b (off + k * 4) (by kernel_rfl) cx _ (fun _ h => h.1) Tryd.underlying108 rfl (by rw [size_lock, LX.out])) S0.out ?_
        refine wpAnyH_take (i := 4) (v := _) rfl (by kernel_rfl) (by kernel_rfl) (by kernel_rfl) (fun _ _ _ h => h) (yieldsIf_move (by kernel_rfl) (.tmp 1) rfl (.slice (some ⟨b', off', none⟩) n c') (by kernel_rfl)) S0.out ?_
        refine wpAnyH_take (i := 5) (v := _) rfl (by kernel_rfl) (by kernel_rfl) (by kernel_rfl) (fun _ _ _ h => h) (yieldsIf_move (by kernel_rfl) (.tmp 5) rfl (.int .i64 k) (by kernel_rfl)) S0.out ?_
        refine wpAnyH_take (i := 6) (v := .pointer (some ⟨b', off' + k * 4, none⟩)) rfl (by kernel_rfl) (by kernel_rfl) (by kernel_rfl) (fun _ _ _ h => h) (.inl ⟨by kernel_rfl, fun w _ => by go_simp⟩) S0.out ?_
        refine wpAnyH_take (i := 7) (v := _) rfl (by kernel_rfl) (by kernel_rfl) (by kernel_rfl) (fun _ _ _ h => h) (yieldsIf_load_mid (by kernel_rfl) _ (.tmp 23) rfl b' (off' + k * 4) (by kernel_rfl) cy _ (fun _ h => h.2) Tryd.underlying108 rfl (by rw [size_lock, LY.out])) S0.out ?_
        refine wpAnyH_one 8 _ (by kernel_rfl) rfl fun K hK => ?_
        go_simp
        refine hK _ _ S0.out ?_
        clear hK K
        refine wpAnyH_done (by kernel_rfl) ?_ _
        have HE : Hid (wj.drew = w.drewN (j + 1)) := by show _ = _; rw [HW.out]; exact World.drewN_drewN w j 1
        cases z
        · have hS := Lib.hid (ne_of_getA HX.out HY.out (by have := HZ.out; simpa using this.symm))
          go_wp2_with fail
          go_ret
          exact ⟨ret_bool hS.out.symm, _, HE.out.symm⟩
        · have hxy : x = y := by have := HZ.out; simpa using this.symm
          have hS : Hid (xs.take (k + 1) = ys.take (k + 1)) := take_eq_stepA HX.out (by rw [HY.out, hxy]) HT.out
          clear hxy
          go_wp2_with fail
          go_roundw
          case rel => exact ⟨k + 1, by omega, by go_num, hS, _, HE.out⟩
          case measure => simp [intOf]; omega
      · have hS := Lib.hid (eq_of_takeA (n := n) HL.out HL'.out (by have := HT.out; rwa [show k = n from by omega] at this))
        clear HT
        go_wp2
        go_ret
        exact ⟨ret_bool hS.out.symm, _, rfl⟩
  · have e1 : decide (xs = ys) = false := by
      rw [decide_eq_false_iff_not]
      rintro rfl
      omega
    have hne : ((n : Int) == (n' : Int)) = false := by simp; omega
    have hne' : ((n : Int) != (n' : Int)) = true := by simp; omega
    rw [e1]
    clear e1 hl hl'
    go_enter Tryd.func43, Tryd.ntmps43
    go_wp2
    go_ret
    exact ⟨rfl, 0, rfl⟩
end Go.Proofs.YtbbjmmooemmeiaaDoor

namespace Go.Proofs.YtbbjmmooemmeiaaDoor
set_option linter.all false
open Go.RowKit
set_option linter.unusedVariables false
theorem fld_ask1 (g : Nat) (w : World) : (Instr.fieldAt 32 (.pointer (some ⟨g, 0, none⟩)) 1).run Tryd.prog w = .ok (.pointer (some ⟨g, 1, none⟩)) w := by go_simp
theorem fld_ask2 (g : Nat) (w : World) : (Instr.fieldAt 32 (.pointer (some ⟨g, 0, none⟩)) 2).run Tryd.prog w = .ok (.pointer (some ⟨g, 17, none⟩)) w := by go_simp
end Go.Proofs.YtbbjmmooemmeiaaDoor

namespace Go.Proofs.YtbbjmmooemmeiaaDoor
set_option linter.all false
open Go.RowKit
set_option linter.unusedVariables false
set_option maxRecDepth 100000 in
set_option maxHeartbeats 8000000 in
theorem Asks_any (w : World) (cs ds : List Value) (a b : AskV) (ka : a.ok) (kb : b.ok) (ha : AskIs w w.heap.size cs a) (hb : AskIs w w.heap.size ds b) (la : a.dial.length ≤ 281474976710656 ∧ a.data.length ≤ 281474976710656 ∧ a.locks.length ≤ 281474976710656) (lb : b.dial.length ≤ 281474976710656 ∧ b.data.length ≤ 281474976710656 ∧ b.locks.length ≤ 281474976710656) :
    Calls Tryd.prog 14 #[.agg cs.toArray, .agg ds.toArray] w fun e w' => e = .returned (.bool (decide (a = b))) ∧ Below w.heap.size w w' := by
  obtain ⟨la1, la2, la3⟩ := la
  obtain ⟨lb1, lb2, lb3⟩ := lb
  have HL := Lib.hid (ha.len ka)
  have HM := Lib.hid (hb.len kb)
  obtain ⟨A1, An1, Ac1, A2, An2, Ac2, A3, An3, Ac3, rfl, hx1, hx2, hx3⟩ := ha
  obtain ⟨B1, Bn1, Bc1, B2, Bn2, Bc2, B3, Bn3, Bc3, rfl, hy1, hy2, hy3⟩ := hb
  have bA1 : An1 ≤ 281474976710656 := by have := hx1.len; omega
  have bA2 : An2 ≤ 281474976710656 := by have := hx2.len; omega
  have bA3 : An3 ≤ 281474976710656 := by have := hx3.len; omega
  have bB1 : Bn1 ≤ 281474976710656 := by have := hy1.len; omega
  have bB2 : Bn2 ≤ 281474976710656 := by have := hy2.len; omega
  have bB3 : Bn3 ≤ 281474976710656 := by have := hy3.len; omega
  have CW : Hid (∀ w' : World, Below w.heap.size w w' → Calls Tryd.prog 42 #[.slice A1 An1 Ac1, .slice B1 Bn1 Bc1] w' fun e v => e = .returned (.bool (decide (a.dial = b.dial))) ∧ ∃ k, w'.drewN k = v) := fun w' hb => words16_any w' _ _ _ _ _ _ _ _ _ _ (hx1.below hb) (hy1.below hb) bA1 bB1
  have CS : Hid (∀ w' : World, Below w.heap.size w w' → Calls Tryd.prog 13 #[.slice A2 An2 Ac2, .slice B2 Bn2 Bc2] w' fun e v => e = .returned (.bool (decide (a.data = b.data))) ∧ ∃ k, w'.drewN k = v) := fun w' hb => Same_any w' _ _ _ _ _ _ _ _ _ _ (hx2.below hb) (hy2.below hb)
  have CR : Hid (∀ w' : World, Below w.heap.size w w' → Calls Tryd.prog 43 #[.slice A3 An3 Ac3, .slice B3 Bn3 Bc3] w' fun e v => e = .returned (.bool (decide (a.locks = b.locks))) ∧ ∃ k, w'.drewN k = v) := fun w' hb => Locks_any w' _ _ _ _ _ _ _ _ _ _ (hx3.below hb) (hy3.below hb) bA3 bB3
  have f_dial : Hid (¬ a.dial = b.dial → decide (a = b) = false) := fun h => decide_eq_false fun he => h (by rw [he])
  have f_guid : Hid (¬ a.guid = b.guid → decide (a = b) = false) := fun h => decide_eq_false fun he => h (by rw [he])
  have f_proof : Hid (¬ a.proof = b.proof → decide (a = b) = false) := fun h => decide_eq_false fun he => h (by rw [he])
  have f_user : Hid (¬ a.user = b.user → decide (a = b) = false) := fun h => decide_eq_false fun he => h (by rw [he])
  have f_share : Hid (¬ a.share = b.share → decide (a = b) = false) := fun h => decide_eq_false fun he => h (by rw [he])
  have f_acc : Hid (¬ a.acc = b.acc → decide (a = b) = false) := fun h => decide_eq_false fun he => h (by rw [he])
  have f_shr : Hid (¬ a.shr = b.shr → decide (a = b) = false) := fun h => decide_eq_false fun he => h (by rw [he])
  have f_way : Hid (¬ a.way = b.way → decide (a = b) = false) := fun h => decide_eq_false fun he => h (by rw [he])
  have f_opt : Hid (¬ a.opt = b.opt → decide (a = b) = false) := fun h => decide_eq_false fun he => h (by rw [he])
  have f_lev : Hid (¬ a.lev = b.lev → decide (a = b) = false) := fun h => decide_eq_false fun he => h (by rw [he])
  have f_dur : Hid (¬ a.dur = b.dur → decide (a = b) = false) := fun h => decide_eq_false fun he => h (by rw [he])
  have f_file : Hid (¬ a.file = b.file → decide (a = b) = false) := fun h => decide_eq_false fun he => h (by rw [he])
  have f_name : Hid (¬ a.name = b.name → decide (a = b) = false) := fun h => decide_eq_false fun he => h (by rw [he])
  have f_at_ : Hid (¬ a.at_ = b.at_ → decide (a = b) = false) := fun h => decide_eq_false fun he => h (by rw [he])
  have f_n : Hid (¬ a.n = b.n → decide (a = b) = false) := fun h => decide_eq_false fun he => h (by rw [he])
  have f_data : Hid (¬ a.data = b.data → decide (a = b) = false) := fun h => decide_eq_false fun he => h (by rw [he])
  have f_locks : Hid (¬ a.locks = b.locks → decide (a = b) = false) := fun h => decide_eq_false fun he => h (by rw [he])
  have f_most : Hid (¬ a.most = b.most → decide (a = b) = false) := fun h => decide_eq_false fun he => h (by rw [he])
  have f_pat : Hid (¬ a.pat = b.pat → decide (a = b) = false) := fun h => decide_eq_false fun he => h (by rw [he])
  have f_aft : Hid (¬ a.aft = b.aft → decide (a = b) = false) := fun h => decide_eq_false fun he => h (by rw [he])
  have f_cls : Hid (¬ a.cls = b.cls → decide (a = b) = false) := fun h => decide_eq_false fun he => h (by rw [he])
  have f_siz : Hid (¬ a.siz = b.siz → decide (a = b) = false) := fun h => decide_eq_false fun he => h (by rw [he])
  have f_on : Hid (¬ a.on = b.on → decide (a = b) = false) := fun h => decide_eq_false fun he => h (by rw [he])
  have HT : Hid (a.dial = b.dial → a.guid = b.guid → a.proof = b.proof → a.user = b.user → a.share = b.share → a.acc = b.acc → a.shr = b.shr → a.way = b.way → a.opt = b.opt → a.lev = b.lev → a.dur = b.dur → a.file = b.file → a.name = b.name → a.at_ = b.at_ → a.n = b.n → a.data = b.data → a.locks = b.locks → a.most = b.most → a.pat = b.pat → a.aft = b.aft → a.cls = b.cls → a.siz = b.siz → a.on = b.on → decide (a = b) = true) := by
    intro e0 e1 e2 e3 e4 e5 e6 e7 e8 e9 e10 e11 e12 e13 e14 e15 e16 e17 e18 e19 e20 e21 e22
    rw [decide_eq_true_iff]
    cases a; cases b
    simp only at e0 e1 e2 e3 e4 e5 e6 e7 e8 e9 e10 e11 e12 e13 e14 e15 e16 e17 e18 e19 e20 e21 e22
    subst e0 e1 e2 e3 e4 e5 e6 e7 e8 e9 e10 e11 e12 e13 e14 e15 e16 e17 e18 e19 e20 e21 e22
    rfl
  have q_guid : ∀ w : World, (Op.equalIn 10000 25 (.agg (a.guid.map (Value.int .u8)).toArray) (.agg (b.guid.map (Value.int .u8)).toArray)).run Tryd.prog w = .ok (decide (a.guid = b.guid)) w := fun w => run_equalIn_arr3 Tryd.underlying25 Tryd.underlying5 size_u8e a.guid b.guid ka.glen kb.glen 9998 w
  have qg_guid := guard_guid
  have RA_guid : Hid (∀ (w : World) (g : Nat), Blk w g 32 (acells (.slice A1 An1 Ac1) (.slice A2 An2 Ac2) (.slice A3 An3 Ac3) a) → w.rangeAt g 1 (a.guid.map (Value.int .u8))) := fun w g h => acells_guid h ka
  have NA_guid : Hid ((a.guid.map (Value.int .u8)).length = 16) := by show _ = _; rw [List.length_map]; exact ka.glen
  have RB_guid : Hid (∀ (w : World) (g : Nat), Blk w g 32 (acells (.slice B1 Bn1 Bc1) (.slice B2 Bn2 Bc2) (.slice B3 Bn3 Bc3) b) → w.rangeAt g 1 (b.guid.map (Value.int .u8))) := fun w g h => acells_guid h kb
  have NB_guid : Hid ((b.guid.map (Value.int .u8)).length = 16) := by show _ = _; rw [List.length_map]; exact kb.glen
  have q_proof : ∀ w : World, (Op.equalIn 10000 26 (.agg (a.proof.map (Value.int .u8)).toArray) (.agg (b.proof.map (Value.int .u8)).toArray)).run Tryd.prog w = .ok (decide (a.proof = b.proof)) w := fun w => run_equalIn_arr3 Tryd.underlying26 Tryd.underlying5 size_u8e a.proof b.proof ka.plen kb.plen 9998 w
  have qg_proof := guard_proof
  have RA_proof : Hid (∀ (w : World) (g : Nat), Blk w g 32 (acells (.slice A1 An1 Ac1) (.slice A2 An2 Ac2) (.slice A3 An3 Ac3) a) → w.rangeAt g 17 (a.proof.map (Value.int .u8))) := fun w g h => acells_proof h ka
  have NA_proof : Hid ((a.proof.map (Value.int .u8)).length = 32) := by show _ = _; rw [List.length_map]; exact ka.plen
  have RB_proof : Hid (∀ (w : World) (g : Nat), Blk w g 32 (acells (.slice B1 Bn1 Bc1) (.slice B2 Bn2 Bc2) (.slice B3 Bn3 Bc3) b) → w.rangeAt g 17 (b.proof.map (Value.int .u8))) := fun w g h => acells_proof h kb
  have NB_proof : Hid ((b.proof.map (Value.int .u8)).length = 32) := by show _ = _; rw [List.length_map]; exact kb.plen
  have FA : Hid (∀ (w : World) (g : Nat), Blk w g 32 (acells (.slice A1 An1 Ac1) (.slice A2 An2 Ac2) (.slice A3 An3 Ac3) a) → w.cell? ⟨g, 0, none⟩ = some (.slice A1 An1 Ac1) ∧ w.cell? ⟨g, 49, none⟩ = some (.string a.user) ∧ w.cell? ⟨g, 50, none⟩ = some (.string a.share) ∧ w.cell? ⟨g, 51, none⟩ = some (.int .u32 a.acc) ∧ w.cell? ⟨g, 52, none⟩ = some (.int .u32 a.shr) ∧ w.cell? ⟨g, 53, none⟩ = some (.int .u32 a.way) ∧ w.cell? ⟨g, 54, none⟩ = some (.int .u32 a.opt) ∧ w.cell? ⟨g, 55, none⟩ = some (.int .u8 a.lev) ∧ w.cell? ⟨g, 56, none⟩ = some (.int .u8 a.dur) ∧ w.cell? ⟨g, 57, none⟩ = some (.int .u64 a.file) ∧ w.cell? ⟨g, 58, none⟩ = some (.string a.name) ∧ w.cell? ⟨g, 59, none⟩ = some (.int .u64 a.at_) ∧ w.cell? ⟨g, 60, none⟩ = some (.int .u32 a.n) ∧ w.cell? ⟨g, 61, none⟩ = some (.slice A2 An2 Ac2) ∧ w.cell? ⟨g, 62, none⟩ = some (.slice A3 An3 Ac3) ∧ w.cell? ⟨g, 63, none⟩ = some (.int .u16 a.most) ∧ w.cell? ⟨g, 64, none⟩ = some (.string a.pat) ∧ w.cell? ⟨g, 65, none⟩ = some (.string a.aft) ∧ w.cell? ⟨g, 66, none⟩ = some (.int .u16 a.cls) ∧ w.cell? ⟨g, 67, none⟩ = some (.int .u64 a.siz) ∧ w.cell? ⟨g, 68, none⟩ = some (.bool a.on)) := fun w g h =>
    ⟨h.at rfl, h.at (acells_get ka 0), h.at (acells_get ka 1), h.at (acells_get ka 2), h.at (acells_get ka 3), h.at (acells_get ka 4), h.at (acells_get ka 5), h.at (acells_get ka 6), h.at (acells_get ka 7), h.at (acells_get ka 8), h.at (acells_get ka 9), h.at (acells_get ka 10), h.at (acells_get ka 11), h.at (acells_get ka 12), h.at (acells_get ka 13), h.at (acells_get ka 14), h.at (acells_get ka 15), h.at (acells_get ka 16), h.at (acells_get ka 17), h.at (acells_get ka 18), h.at (acells_get ka 19)⟩
  have FB : Hid (∀ (w : World) (g : Nat), Blk w g 32 (acells (.slice B1 Bn1 Bc1) (.slice B2 Bn2 Bc2) (.slice B3 Bn3 Bc3) b) → w.cell? ⟨g, 0, none⟩ = some (.slice B1 Bn1 Bc1) ∧ w.cell? ⟨g, 49, none⟩ = some (.string b.user) ∧ w.cell? ⟨g, 50, none⟩ = some (.string b.share) ∧ w.cell? ⟨g, 51, none⟩ = some (.int .u32 b.acc) ∧ w.cell? ⟨g, 52, none⟩ = some (.int .u32 b.shr) ∧ w.cell? ⟨g, 53, none⟩ = some (.int .u32 b.way) ∧ w.cell? ⟨g, 54, none⟩ = some (.int .u32 b.opt) ∧ w.cell? ⟨g, 55, none⟩ = some (.int .u8 b.lev) ∧ w.cell? ⟨g, 56, none⟩ = some (.int .u8 b.dur) ∧ w.cell? ⟨g, 57, none⟩ = some (.int .u64 b.file) ∧ w.cell? ⟨g, 58, none⟩ = some (.string b.name) ∧ w.cell? ⟨g, 59, none⟩ = some (.int .u64 b.at_) ∧ w.cell? ⟨g, 60, none⟩ = some (.int .u32 b.n) ∧ w.cell? ⟨g, 61, none⟩ = some (.slice B2 Bn2 Bc2) ∧ w.cell? ⟨g, 62, none⟩ = some (.slice B3 Bn3 Bc3) ∧ w.cell? ⟨g, 63, none⟩ = some (.int .u16 b.most) ∧ w.cell? ⟨g, 64, none⟩ = some (.string b.pat) ∧ w.cell? ⟨g, 65, none⟩ = some (.string b.aft) ∧ w.cell? ⟨g, 66, none⟩ = some (.int .u16 b.cls) ∧ w.cell? ⟨g, 67, none⟩ = some (.int .u64 b.siz) ∧ w.cell? ⟨g, 68, none⟩ = some (.bool b.on)) := fun w g h =>
    ⟨h.at rfl, h.at (acells_get kb 0), h.at (acells_get kb 1), h.at (acells_get kb 2), h.at (acells_get kb 3), h.at (acells_get kb 4), h.at (acells_get kb 5), h.at (acells_get kb 6), h.at (acells_get kb 7), h.at (acells_get kb 8), h.at (acells_get kb 9), h.at (acells_get kb 10), h.at (acells_get kb 11), h.at (acells_get kb 12), h.at (acells_get kb 13), h.at (acells_get kb 14), h.at (acells_get kb 15), h.at (acells_get kb 16), h.at (acells_get kb 17), h.at (acells_get kb 18), h.at (acells_get kb 19)⟩
  obtain ⟨z_dial, hz_dial⟩ : ∃ z, z = decide (a.dial = b.dial) := ⟨_, rfl⟩
  rw [← hz_dial] at CW
  have Z_dial := Lib.hid hz_dial
  clear hz_dial
  obtain ⟨z_guid, hz_guid⟩ : ∃ z, z = decide (a.guid = b.guid) := ⟨_, rfl⟩
  rw [← hz_guid] at q_guid
  have Z_guid := Lib.hid hz_guid
  clear hz_guid
  obtain ⟨la_guid, hl⟩ : ∃ l, l = a.guid.map (Value.int .u8) := ⟨_, rfl⟩
  rw [← hl] at q_guid RA_guid NA_guid
  clear hl
  obtain ⟨lb_guid, hl⟩ : ∃ l, l = b.guid.map (Value.int .u8) := ⟨_, rfl⟩
  rw [← hl] at q_guid RB_guid NB_guid
  clear hl
  obtain ⟨z_proof, hz_proof⟩ : ∃ z, z = decide (a.proof = b.proof) := ⟨_, rfl⟩
  rw [← hz_proof] at q_proof
  have Z_proof := Lib.hid hz_proof
  clear hz_proof
  obtain ⟨la_proof, hl⟩ : ∃ l, l = a.proof.map (Value.int .u8) := ⟨_, rfl⟩
  rw [← hl] at q_proof RA_proof NA_proof
  clear hl
  obtain ⟨lb_proof, hl⟩ : ∃ l, l = b.proof.map (Value.int .u8) := ⟨_, rfl⟩
  rw [← hl] at q_proof RB_proof NB_proof
  clear hl
  obtain ⟨z_data, hz_data⟩ : ∃ z, z = decide (a.data = b.data) := ⟨_, rfl⟩
  rw [← hz_data] at CS
  have Z_data := Lib.hid hz_data
  clear hz_data
  obtain ⟨z_locks, hz_locks⟩ : ∃ z, z = decide (a.locks = b.locks) := ⟨_, rfl⟩
  rw [← hz_locks] at CR
  have Z_locks := Lib.hid hz_locks
  clear hz_locks
  obtain ⟨a_user, ha_user⟩ : ∃ x, x = a.user := ⟨_, rfl⟩
  rw [← ha_user] at FA f_user HT
  obtain ⟨b_user, hb_user⟩ : ∃ x, x = b.user := ⟨_, rfl⟩
  rw [← hb_user] at FB f_user HT
  obtain ⟨a_share, ha_share⟩ : ∃ x, x = a.share := ⟨_, rfl⟩
  rw [← ha_share] at FA f_share HT
  obtain ⟨b_share, hb_share⟩ : ∃ x, x = b.share := ⟨_, rfl⟩
  rw [← hb_share] at FB f_share HT
  obtain ⟨a_acc, ha_acc⟩ : ∃ x, x = a.acc := ⟨_, rfl⟩
  rw [← ha_acc] at FA f_acc HT
  obtain ⟨b_acc, hb_acc⟩ : ∃ x, x = b.acc := ⟨_, rfl⟩
  rw [← hb_acc] at FB f_acc HT
  obtain ⟨a_shr, ha_shr⟩ : ∃ x, x = a.shr := ⟨_, rfl⟩
  rw [← ha_shr] at FA f_shr HT
  obtain ⟨b_shr, hb_shr⟩ : ∃ x, x = b.shr := ⟨_, rfl⟩
  rw [← hb_shr] at FB f_shr HT
  obtain ⟨a_way, ha_way⟩ : ∃ x, x = a.way := ⟨_, rfl⟩
  rw [← ha_way] at FA f_way HT
  obtain ⟨b_way, hb_way⟩ : ∃ x, x = b.way := ⟨_, rfl⟩
  rw [← hb_way] at FB f_way HT
  obtain ⟨a_opt, ha_opt⟩ : ∃ x, x = a.opt := ⟨_, rfl⟩
  rw [← ha_opt] at FA f_opt HT
  obtain ⟨b_opt, hb_opt⟩ : ∃ x, x = b.opt := ⟨_, rfl⟩
  rw [← hb_opt] at FB f_opt HT
  obtain ⟨a_lev, ha_lev⟩ : ∃ x, x = a.lev := ⟨_, rfl⟩
  rw [← ha_lev] at FA f_lev HT
  obtain ⟨b_lev, hb_lev⟩ : ∃ x, x = b.lev := ⟨_, rfl⟩
  rw [← hb_lev] at FB f_lev HT
  obtain ⟨a_dur, ha_dur⟩ : ∃ x, x = a.dur := ⟨_, rfl⟩
  rw [← ha_dur] at FA f_dur HT
  obtain ⟨b_dur, hb_dur⟩ : ∃ x, x = b.dur := ⟨_, rfl⟩
  rw [← hb_dur] at FB f_dur HT
  obtain ⟨a_file, ha_file⟩ : ∃ x, x = a.file := ⟨_, rfl⟩
  rw [← ha_file] at FA f_file HT
  obtain ⟨b_file, hb_file⟩ : ∃ x, x = b.file := ⟨_, rfl⟩
  rw [← hb_file] at FB f_file HT
  obtain ⟨a_name, ha_name⟩ : ∃ x, x = a.name := ⟨_, rfl⟩
  rw [← ha_name] at FA f_name HT
  obtain ⟨b_name, hb_name⟩ : ∃ x, x = b.name := ⟨_, rfl⟩
  rw [← hb_name] at FB f_name HT
  obtain ⟨a_at_, ha_at_⟩ : ∃ x, x = a.at_ := ⟨_, rfl⟩
  rw [← ha_at_] at FA f_at_ HT
  obtain ⟨b_at_, hb_at_⟩ : ∃ x, x = b.at_ := ⟨_, rfl⟩
  rw [← hb_at_] at FB f_at_ HT
  obtain ⟨a_n, ha_n⟩ : ∃ x, x = a.n := ⟨_, rfl⟩
  rw [← ha_n] at FA f_n HT
  obtain ⟨b_n, hb_n⟩ : ∃ x, x = b.n := ⟨_, rfl⟩
  rw [← hb_n] at FB f_n HT
  obtain ⟨a_most, ha_most⟩ : ∃ x, x = a.most := ⟨_, rfl⟩
  rw [← ha_most] at FA f_most HT
  obtain ⟨b_most, hb_most⟩ : ∃ x, x = b.most := ⟨_, rfl⟩
  rw [← hb_most] at FB f_most HT
  obtain ⟨a_pat, ha_pat⟩ : ∃ x, x = a.pat := ⟨_, rfl⟩
  rw [← ha_pat] at FA f_pat HT
  obtain ⟨b_pat, hb_pat⟩ : ∃ x, x = b.pat := ⟨_, rfl⟩
  rw [← hb_pat] at FB f_pat HT
  obtain ⟨a_aft, ha_aft⟩ : ∃ x, x = a.aft := ⟨_, rfl⟩
  rw [← ha_aft] at FA f_aft HT
  obtain ⟨b_aft, hb_aft⟩ : ∃ x, x = b.aft := ⟨_, rfl⟩
  rw [← hb_aft] at FB f_aft HT
  obtain ⟨a_cls, ha_cls⟩ : ∃ x, x = a.cls := ⟨_, rfl⟩
  rw [← ha_cls] at FA f_cls HT
  obtain ⟨b_cls, hb_cls⟩ : ∃ x, x = b.cls := ⟨_, rfl⟩
  rw [← hb_cls] at FB f_cls HT
  obtain ⟨a_siz, ha_siz⟩ : ∃ x, x = a.siz := ⟨_, rfl⟩
  rw [← ha_siz] at FA f_siz HT
  obtain ⟨b_siz, hb_siz⟩ : ∃ x, x = b.siz := ⟨_, rfl⟩
  rw [← hb_siz] at FB f_siz HT
  obtain ⟨a_on, ha_on⟩ : ∃ x, x = a.on := ⟨_, rfl⟩
  rw [← ha_on] at FA f_on HT
  obtain ⟨b_on, hb_on⟩ : ∃ x, x = b.on := ⟨_, rfl⟩
  rw [← hb_on] at FB f_on HT
  obtain ⟨cs, hcs⟩ : ∃ c, c = acells (.slice A1 An1 Ac1) (.slice A2 An2 Ac2) (.slice A3 An3 Ac3) a := ⟨_, rfl⟩
  rw [← hcs] at FA RA_guid RA_proof HL ⊢
  obtain ⟨ds, hds⟩ : ∃ c, c = acells (.slice B1 Bn1 Bc1) (.slice B2 Bn2 Bc2) (.slice B3 Bn3 Bc3) b := ⟨_, rfl⟩
  rw [← hds] at FB RB_guid RB_proof HM ⊢
  obtain ⟨r, hr⟩ : ∃ r, r = decide (a = b) := ⟨_, rfl⟩
  rw [← hr] at HT f_dial f_guid f_proof f_user f_share f_acc f_shr f_way f_opt f_lev f_dur f_file f_name f_at_ f_n f_data f_locks f_most f_pat f_aft f_cls f_siz f_on ⊢
  clear hr hcs hds ka kb ha_user hb_user ha_share hb_share ha_acc hb_acc ha_shr hb_shr ha_way hb_way ha_opt hb_opt ha_lev hb_lev ha_dur hb_dur ha_file hb_file ha_name hb_name ha_at_ hb_at_ ha_n hb_n ha_most hb_most ha_pat hb_pat ha_aft hb_aft ha_cls hb_cls ha_siz hb_siz ha_on hb_on hx1 hx2 hx3 hy1 hy2 hy3 la1 la2 la3 lb1 lb2 lb3 bA1 bA2 bA3 bB1 bB2 bB3
  go_enter Tryd.func14, Tryd.ntmps14
  simp only [List.append_eq, List.cons_append, List.nil_append]
  go_wp2_with (first | ((with_reducible show wpList _ _ _ (⟨some 2, _, _, _, _, _⟩ :: _) _ _); refine wpList_box_blk rfl _ (.tmp 0) rfl cs rfl ?_; intro g w1 hg1 hg2 K0 L1) | ((with_reducible show wpList _ _ _ (⟨some 3, _, _, _, _, _⟩ :: _) _ _); refine wpList_box_blk rfl _ (.tmp 1) rfl ds rfl ?_; intro h w2 hg3 hg4 K2 L2'; have K1 := Lib.hid (K0.out.over L2'.out); have L2 := Lib.hid (step L1.out L2'.out); obtain ⟨ca_dial, ca_user, ca_share, ca_acc, ca_shr, ca_way, ca_opt, ca_lev, ca_dur, ca_file, ca_name, ca_at_, ca_n, ca_data, ca_locks, ca_most, ca_pat, ca_aft, ca_cls, ca_siz, ca_on⟩ := FA.out _ _ K1.out; obtain ⟨cb_dial, cb_user, cb_share, cb_acc, cb_shr, cb_way, cb_opt, cb_lev, cb_dur, cb_file, cb_name, cb_at_, cb_n, cb_data, cb_locks, cb_most, cb_pat, cb_aft, cb_cls, cb_siz, cb_on⟩ := FB.out _ _ K2.out; have rA_guid := Lib.hid (RA_guid.out _ _ K1.out); have rB_guid := Lib.hid (RB_guid.out _ _ K2.out); have rA_proof := Lib.hid (RA_proof.out _ _ K1.out); have rB_proof := Lib.hid (RB_proof.out _ _ K2.out)) | fail)
  clear K0 L1 L2' ca_dial cb_dial ca_user cb_user ca_share cb_share ca_acc cb_acc ca_shr cb_shr ca_way cb_way ca_opt cb_opt ca_lev cb_lev ca_dur cb_dur ca_file cb_file ca_name cb_name ca_at_ cb_at_ ca_n cb_n ca_data cb_data ca_locks cb_locks ca_most cb_most ca_pat cb_pat ca_aft cb_aft ca_cls cb_cls ca_siz cb_siz ca_on cb_on rA_guid rB_guid rA_proof rB_proof
  refine (CW.out _ L2.out).mono ?_
  rintro e w' ⟨rfl, j_dial, rfl⟩
  have K1_dial' := K1.out.drewN j_dial
  have K2_dial' := K2.out.drewN j_dial
  have L_dial' := below_drewN L2.out j_dial
  obtain ⟨w_dial, hw_dial⟩ : ∃ v, v = World.drewN w2 j_dial := ⟨_, rfl⟩
  rw [← hw_dial] at K1_dial' K2_dial' L_dial' ⊢
  have K1_dial := Lib.hid K1_dial'
  have K2_dial := Lib.hid K2_dial'
  have L_dial := Lib.hid L_dial'
  clear hw_dial K1_dial' K2_dial' L_dial' 
  cases z_dial
  · have ne : ¬ a.dial = b.dial := by have := Z_dial.out; simpa using this.symm
    have RS := Lib.hid (f_dial.out ne)
    clear ne
    go_wp2_with fail
    go_ret
    exact ⟨ret_bool RS.out.symm, L_dial.out⟩
  · have e_dial : Hid (a.dial = b.dial) := by have := Z_dial.out; show _ = _; simpa using this.symm
    obtain ⟨ca_dial, ca_user, ca_share, ca_acc, ca_shr, ca_way, ca_opt, ca_lev, ca_dur, ca_file, ca_name, ca_at_, ca_n, ca_data, ca_locks, ca_most, ca_pat, ca_aft, ca_cls, ca_siz, ca_on⟩ := FA.out _ _ K1_dial.out
    obtain ⟨cb_dial, cb_user, cb_share, cb_acc, cb_shr, cb_way, cb_opt, cb_lev, cb_dur, cb_file, cb_name, cb_at_, cb_n, cb_data, cb_locks, cb_most, cb_pat, cb_aft, cb_cls, cb_siz, cb_on⟩ := FB.out _ _ K2_dial.out
    have rA_guid := Lib.hid (RA_guid.out _ _ K1_dial.out)
    have rB_guid := Lib.hid (RB_guid.out _ _ K2_dial.out)
    have rA_proof := Lib.hid (RA_proof.out _ _ K1_dial.out)
    have rB_proof := Lib.hid (RB_proof.out _ _ K2_dial.out)
    cases z_guid
    · have ne : ¬ a.guid = b.guid := by have := Z_guid.out; simpa using this.symm
      have RS := Lib.hid (f_guid.out ne)
      clear ne
      go_wp2_with (first | ((with_reducible show wpList _ _ _ (⟨some 11, _, _, _, _, _⟩ :: _) _ _); refine wpList_fld_w (by kernel_rfl) _ (.tmp 2) 1 rfl (.pointer (some ⟨g, 0, none⟩)) (.pointer (some ⟨g, 1, none⟩)) (by kernel_rfl) (fld_ask1 g) ?_) | ((with_reducible show wpList _ _ _ (⟨some 12, _, _, _, _, _⟩ :: _) _ _); refine wpList_load_midw (by kernel_rfl) _ (.tmp 11) rfl g 1 rfl la_guid _ rA_guid Tryd.underlying25 rfl 16 size_guid NA_guid ?_) | ((with_reducible show wpList _ _ _ (⟨some 13, _, _, _, _, _⟩ :: _) _ _); refine wpList_fld_w (by kernel_rfl) _ (.tmp 3) 1 rfl (.pointer (some ⟨h, 0, none⟩)) (.pointer (some ⟨h, 1, none⟩)) (by kernel_rfl) (fld_ask1 h) ?_) | ((with_reducible show wpList _ _ _ (⟨some 14, _, _, _, _, _⟩ :: _) _ _); refine wpList_load_midw (by kernel_rfl) _ (.tmp 13) rfl h 1 rfl lb_guid _ rB_guid Tryd.underlying25 rfl 16 size_guid NB_guid ?_) | fail)
      go_ret
      exact ⟨ret_bool RS.out.symm, L_dial.out⟩
    · have e_guid : Hid (a.guid = b.guid) := by have := Z_guid.out; show _ = _; simpa using this.symm
      cases z_proof
      · have ne : ¬ a.proof = b.proof := by have := Z_proof.out; simpa using this.symm
        have RS := Lib.hid (f_proof.out ne)
        clear ne
        go_wp2_with (first | ((with_reducible show wpList _ _ _ (⟨some 11, _, _, _, _, _⟩ :: _) _ _); refine wpList_fld_w (by kernel_rfl) _ (.tmp 2) 1 rfl (.pointer (some ⟨g, 0, none⟩)) (.pointer (some ⟨g, 1, none⟩)) (by kernel_rfl) (fld_ask1 g) ?_) | ((with_reducible show wpList _ _ _ (⟨some 12, _, _, _, _, _⟩ :: _) _ _); refine wpList_load_midw (by kernel_rfl) _ (.tmp 11) rfl g 1 rfl la_guid _ rA_guid Tryd.underlying25 rfl 16 size_guid NA_guid ?_) | ((with_reducible show wpList _ _ _ (⟨some 13, _, _, _, _, _⟩ :: _) _ _); refine wpList_fld_w (by kernel_rfl) _ (.tmp 3) 1 rfl (.pointer (some ⟨h, 0, none⟩)) (.pointer (some ⟨h, 1, none⟩)) (by kernel_rfl) (fld_ask1 h) ?_) | ((with_reducible show wpList _ _ _ (⟨some 14, _, _, _, _, _⟩ :: _) _ _); refine wpList_load_midw (by kernel_rfl) _ (.tmp 13) rfl h 1 rfl lb_guid _ rB_guid Tryd.underlying25 rfl 16 size_guid NB_guid ?_) | ((with_reducible show wpList _ _ _ (⟨some 18, _, _, _, _, _⟩ :: _) _ _); refine wpList_fld_w (by kernel_rfl) _ (.tmp 2) 2 rfl (.pointer (some ⟨g, 0, none⟩)) (.pointer (some ⟨g, 17, none⟩)) (by kernel_rfl) (fld_ask2 g) ?_) | ((with_reducible show wpList _ _ _ (⟨some 19, _, _, _, _, _⟩ :: _) _ _); refine wpList_load_midw (by kernel_rfl) _ (.tmp 18) rfl g 17 rfl la_proof _ rA_proof Tryd.underlying26 rfl 32 size_proof NA_proof ?_) | ((with_reducible show wpList _ _ _ (⟨some 20, _, _, _, _, _⟩ :: _) _ _); refine wpList_fld_w (by kernel_rfl) _ (.tmp 3) 2 rfl (.pointer (some ⟨h, 0, none⟩)) (.pointer (some ⟨h, 17, none⟩)) (by kernel_rfl) (fld_ask2 h) ?_) | ((with_reducible show wpList _ _ _ (⟨some 21, _, _, _, _, _⟩ :: _) _ _); refine wpList_load_midw (by kernel_rfl) _ (.tmp 20) rfl h 17 rfl lb_proof _ rB_proof Tryd.underlying26 rfl 32 size_proof NB_proof ?_) | fail)
        go_ret
        exact ⟨ret_bool RS.out.symm, L_dial.out⟩
      · have e_proof : Hid (a.proof = b.proof) := by have := Z_proof.out; show _ = _; simpa using this.symm
        by_cases t_user : a_user = b_user
        rotate_left
        · have nb : (a_user.toList == b_user.toList) = false := by rw [bytes_beq]; exact decide_eq_false t_user
          have RS := Lib.hid (f_user.out t_user)
          clear t_user
          go_wp2_with (first | ((with_reducible show wpList _ _ _ (⟨some 11, _, _, _, _, _⟩ :: _) _ _); refine wpList_fld_w (by kernel_rfl) _ (.tmp 2) 1 rfl (.pointer (some ⟨g, 0, none⟩)) (.pointer (some ⟨g, 1, none⟩)) (by kernel_rfl) (fld_ask1 g) ?_) | ((with_reducible show wpList _ _ _ (⟨some 12, _, _, _, _, _⟩ :: _) _ _); refine wpList_load_midw (by kernel_rfl) _ (.tmp 11) rfl g 1 rfl la_guid _ rA_guid Tryd.underlying25 rfl 16 size_guid NA_guid ?_) | ((with_reducible show wpList _ _ _ (⟨some 13, _, _, _, _, _⟩ :: _) _ _); refine wpList_fld_w (by kernel_rfl) _ (.tmp 3) 1 rfl (.pointer (some ⟨h, 0, none⟩)) (.pointer (some ⟨h, 1, none⟩)) (by kernel_rfl) (fld_ask1 h) ?_) | ((with_reducible show wpList _ _ _ (⟨some 14, _, _, _, _, _⟩ :: _) _ _); refine wpList_load_midw (by kernel_rfl) _ (.tmp 13) rfl h 1 rfl lb_guid _ rB_guid Tryd.underlying25 rfl 16 size_guid NB_guid ?_) | ((with_reducible show wpList _ _ _ (⟨some 18, _, _, _, _, _⟩ :: _) _ _); refine wpList_fld_w (by kernel_rfl) _ (.tmp 2) 2 rfl (.pointer (some ⟨g, 0, none⟩)) (.pointer (some ⟨g, 17, none⟩)) (by kernel_rfl) (fld_ask2 g) ?_) | ((with_reducible show wpList _ _ _ (⟨some 19, _, _, _, _, _⟩ :: _) _ _); refine wpList_load_midw (by kernel_rfl) _ (.tmp 18) rfl g 17 rfl la_proof _ rA_proof Tryd.underlying26 rfl 32 size_proof NA_proof ?_) | ((with_reducible show wpList _ _ _ (⟨some 20, _, _, _, _, _⟩ :: _) _ _); refine wpList_fld_w (by kernel_rfl) _ (.tmp 3) 2 rfl (.pointer (some ⟨h, 0, none⟩)) (.pointer (some ⟨h, 17, none⟩)) (by kernel_rfl) (fld_ask2 h) ?_) | ((with_reducible show wpList _ _ _ (⟨some 21, _, _, _, _, _⟩ :: _) _ _); refine wpList_load_midw (by kernel_rfl) _ (.tmp 20) rfl h 17 rfl lb_proof _ rB_proof Tryd.underlying26 rfl 32 size_proof NB_proof ?_) | fail)
          go_ret
          exact ⟨ret_bool RS.out.symm, L_dial.out⟩
        have nb_user : (a_user.toList == b_user.toList) = true := by rw [bytes_beq]; exact decide_eq_true t_user
        have e_user := Lib.hid t_user
        clear t_user
        by_cases t_share : a_share = b_share
        rotate_left
        · have nb : (a_share.toList == b_share.toList) = false := by rw [bytes_beq]; exact decide_eq_false t_share
          have RS := Lib.hid (f_share.out t_share)
          clear t_share
          go_wp2_with (first | ((with_reducible show wpList _ _ _ (⟨some 11, _, _, _, _, _⟩ :: _) _ _); refine wpList_fld_w (by kernel_rfl) _ (.tmp 2) 1 rfl (.pointer (some ⟨g, 0, none⟩)) (.pointer (some ⟨g, 1, none⟩)) (by kernel_rfl) (fld_ask1 g) ?_) | ((with_reducible show wpList _ _ _ (⟨some 12, _, _, _, _, _⟩ :: _) _ _); refine wpList_load_midw (by kernel_rfl) _ (.tmp 11) rfl g 1 rfl la_guid _ rA_guid Tryd.underlying25 rfl 16 size_guid NA_guid ?_) | ((with_reducible show wpList _ _ _ (⟨some 13, _, _, _, _, _⟩ :: _) _ _); refine wpList_fld_w (by kernel_rfl) _ (.tmp 3) 1 rfl (.pointer (some ⟨h, 0, none⟩)) (.pointer (some ⟨h, 1, none⟩)) (by kernel_rfl) (fld_ask1 h) ?_) | ((with_reducible show wpList _ _ _ (⟨some 14, _, _, _, _, _⟩ :: _) _ _); refine wpList_load_midw (by kernel_rfl) _ (.tmp 13) rfl h 1 rfl lb_guid _ rB_guid Tryd.underlying25 rfl 16 size_guid NB_guid ?_) | ((with_reducible show wpList _ _ _ (⟨some 18, _, _, _, _, _⟩ :: _) _ _); refine wpList_fld_w (by kernel_rfl) _ (.tmp 2) 2 rfl (.pointer (some ⟨g, 0, none⟩)) (.pointer (some ⟨g, 17, none⟩)) (by kernel_rfl) (fld_ask2 g) ?_) | ((with_reducible show wpList _ _ _ (⟨some 19, _, _, _, _, _⟩ :: _) _ _); refine wpList_load_midw (by kernel_rfl) _ (.tmp 18) rfl g 17 rfl la_proof _ rA_proof Tryd.underlying26 rfl 32 size_proof NA_proof ?_) | ((with_reducible show wpList _ _ _ (⟨some 20, _, _, _, _, _⟩ :: _) _ _); refine wpList_fld_w (by kernel_rfl) _ (.tmp 3) 2 rfl (.pointer (some ⟨h, 0, none⟩)) (.pointer (some ⟨h, 17, none⟩)) (by kernel_rfl) (fld_ask2 h) ?_) | ((with_reducible show wpList _ _ _ (⟨some 21, _, _, _, _, _⟩ :: _) _ _); refine wpList_load_midw (by kernel_rfl) _ (.tmp 20) rfl h 17 rfl lb_proof _ rB_proof Tryd.underlying26 rfl 32 size_proof NB_proof ?_) | fail)
          go_ret
          exact ⟨ret_bool RS.out.symm, L_dial.out⟩
        have nb_share : (a_share.toList == b_share.toList) = true := by rw [bytes_beq]; exact decide_eq_true t_share
        have e_share := Lib.hid t_share
        clear t_share
        by_cases t_acc : a_acc = b_acc
        rotate_left
        · have nb : (a_acc == b_acc) = false := by simpa using t_acc
          have RS := Lib.hid (f_acc.out t_acc)
          clear t_acc
          go_wp2_with (first | ((with_reducible show wpList _ _ _ (⟨some 11, _, _, _, _, _⟩ :: _) _ _); refine wpList_fld_w (by kernel_rfl) _ (.tmp 2) 1 rfl (.pointer (some ⟨g, 0, none⟩)) (.pointer (some ⟨g, 1, none⟩)) (by kernel_rfl) (fld_ask1 g) ?_) | ((with_reducible show wpList _ _ _ (⟨some 12, _, _, _, _, _⟩ :: _) _ _); refine wpList_load_midw (by kernel_rfl) _ (.tmp 11) rfl g 1 rfl la_guid _ rA_guid Tryd.underlying25 rfl 16 size_guid NA_guid ?_) | ((with_reducible show wpList _ _ _ (⟨some 13, _, _, _, _, _⟩ :: _) _ _); refine wpList_fld_w (by kernel_rfl) _ (.tmp 3) 1 rfl (.pointer (some ⟨h, 0, none⟩)) (.pointer (some ⟨h, 1, none⟩)) (by kernel_rfl) (fld_ask1 h) ?_) | ((with_reducible show wpList _ _ _ (⟨some 14, _, _, _, _, _⟩ :: _) _ _); refine wpList_load_midw (by kernel_rfl) _ (.tmp 13) rfl h 1 rfl lb_guid _ rB_guid Tryd.underlying25 rfl 16 size_guid NB_guid ?_) | ((with_reducible show wpList _ _ _ (⟨some 18, _, _, _, _, _⟩ :: _) _ _); refine wpList_fld_w (by kernel_rfl) _ (.tmp 2) 2 rfl (.pointer (some ⟨g, 0, none⟩)) (.pointer (some ⟨g, 17, none⟩)) (by kernel_rfl) (fld_ask2 g) ?_) | ((with_reducible show wpList _ _ _ (⟨some 19, _, _, _, _, _⟩ :: _) _ _); refine wpList_load_midw (by kernel_rfl) _ (.tmp 18) rfl g 17 rfl la_proof _ rA_proof Tryd.underlying26 rfl 32 size_proof NA_proof ?_) | ((with_reducible show wpList _ _ _ (⟨some 20, _, _, _, _, _⟩ :: _) _ _); refine wpList_fld_w (by kernel_rfl) _ (.tmp 3) 2 rfl (.pointer (some ⟨h, 0, none⟩)) (.pointer (some ⟨h, 17, none⟩)) (by kernel_rfl) (fld_ask2 h) ?_) | ((with_reducible show wpList _ _ _ (⟨some 21, _, _, _, _, _⟩ :: _) _ _); refine wpList_load_midw (by kernel_rfl) _ (.tmp 20) rfl h 17 rfl lb_proof _ rB_proof Tryd.underlying26 rfl 32 size_proof NB_proof ?_) | fail)
          go_ret
          exact ⟨ret_bool RS.out.symm, L_dial.out⟩
        have nb_acc : (a_acc == b_acc) = true := by simpa using t_acc
        have e_acc := Lib.hid t_acc
        clear t_acc
        by_cases t_shr : a_shr = b_shr
        rotate_left
        · have nb : (a_shr == b_shr) = false := by simpa using t_shr
          have RS := Lib.hid (f_shr.out t_shr)
          clear t_shr
          go_wp2_with (first | ((with_reducible show wpList _ _ _ (⟨some 11, _, _, _, _, _⟩ :: _) _ _); refine wpList_fld_w (by kernel_rfl) _ (.tmp 2) 1 rfl (.pointer (some ⟨g, 0, none⟩)) (.pointer (some ⟨g, 1, none⟩)) (by kernel_rfl) (fld_ask1 g) ?_) | ((with_reducible show wpList _ _ _ (⟨some 12, _, _, _, _, _⟩ :: _) _ _); refine wpList_load_midw (by kernel_rfl) _ (.tmp 11) rfl g 1 rfl la_guid _ rA_guid Tryd.underlying25 rfl 16 size_guid NA_guid ?_) | ((with_reducible show wpList _ _ _ (⟨some 13, _, _, _, _, _⟩ :: _) _ _); refine wpList_fld_w (by kernel_rfl) _ (.tmp 3) 1 rfl (.pointer (some ⟨h, 0, none⟩)) (.pointer (some ⟨h, 1, none⟩)) (by kernel_rfl) (fld_ask1 h) ?_) | ((with_reducible show wpList _ _ _ (⟨some 14, _, _, _, _, _⟩ :: _) _ _); refine wpList_load_midw (by kernel_rfl) _ (.tmp 13) rfl h 1 rfl lb_guid _ rB_guid Tryd.underlying25 rfl 16 size_guid NB_guid ?_) | ((with_reducible show wpList _ _ _ (⟨some 18, _, _, _, _, _⟩ :: _) _ _); refine wpList_fld_w (by kernel_rfl) _ (.tmp 2) 2 rfl (.pointer (some ⟨g, 0, none⟩)) (.pointer (some ⟨g, 17, none⟩)) (by kernel_rfl) (fld_ask2 g) ?_) | ((with_reducible show wpList _ _ _ (⟨some 19, _, _, _, _, _⟩ :: _) _ _); refine wpList_load_midw (by kernel_rfl) _ (.tmp 18) rfl g 17 rfl la_proof _ rA_proof Tryd.underlying26 rfl 32 size_proof NA_proof ?_) | ((with_reducible show wpList _ _ _ (⟨some 20, _, _, _, _, _⟩ :: _) _ _); refine wpList_fld_w (by kernel_rfl) _ (.tmp 3) 2 rfl (.pointer (some ⟨h, 0, none⟩)) (.pointer (some ⟨h, 17, none⟩)) (by kernel_rfl) (fld_ask2 h) ?_) | ((with_reducible show wpList _ _ _ (⟨some 21, _, _, _, _, _⟩ :: _) _ _); refine wpList_load_midw (by kernel_rfl) _ (.tmp 20) rfl h 17 rfl lb_proof _ rB_proof Tryd.underlying26 rfl 32 size_proof NB_proof ?_) | fail)
          go_ret
          exact ⟨ret_bool RS.out.symm, L_dial.out⟩
        have nb_shr : (a_shr == b_shr) = true := by simpa using t_shr
        have e_shr := Lib.hid t_shr
        clear t_shr
        by_cases t_way : a_way = b_way
        rotate_left
        · have nb : (a_way == b_way) = false := by simpa using t_way
          have RS := Lib.hid (f_way.out t_way)
          clear t_way
          go_wp2_with (first | ((with_reducible show wpList _ _ _ (⟨some 11, _, _, _, _, _⟩ :: _) _ _); refine wpList_fld_w (by kernel_rfl) _ (.tmp 2) 1 rfl (.pointer (some ⟨g, 0, none⟩)) (.pointer (some ⟨g, 1, none⟩)) (by kernel_rfl) (fld_ask1 g) ?_) | ((with_reducible show wpList _ _ _ (⟨some 12, _, _, _, _, _⟩ :: _) _ _); refine wpList_load_midw (by kernel_rfl) _ (.tmp 11) rfl g 1 rfl la_guid _ rA_guid Tryd.underlying25 rfl 16 size_guid NA_guid ?_) | ((with_reducible show wpList _ _ _ (⟨some 13, _, _, _, _, _⟩ :: _) _ _); refine wpList_fld_w (by kernel_rfl) _ (.tmp 3) 1 rfl (.pointer (some ⟨h, 0, none⟩)) (.pointer (some ⟨h, 1, none⟩)) (by kernel_rfl) (fld_ask1 h) ?_) | ((with_reducible show wpList _ _ _ (⟨some 14, _, _, _, _, _⟩ :: _) _ _); refine wpList_load_midw (by kernel_rfl) _ (.tmp 13) rfl h 1 rfl lb_guid _ rB_guid Tryd.underlying25 rfl 16 size_guid NB_guid ?_) | ((with_reducible show wpList _ _ _ (⟨some 18, _, _, _, _, _⟩ :: _) _ _); refine wpList_fld_w (by kernel_rfl) _ (.tmp 2) 2 rfl (.pointer (some ⟨g, 0, none⟩)) (.pointer (some ⟨g, 17, none⟩)) (by kernel_rfl) (fld_ask2 g) ?_) | ((with_reducible show wpList _ _ _ (⟨some 19, _, _, _, _, _⟩ :: _) _ _); refine wpList_load_midw (by kernel_rfl) _ (.tmp 18) rfl g 17 rfl la_proof _ rA_proof Tryd.underlying26 rfl 32 size_proof NA_proof ?_) | ((with_reducible show wpList _ _ _ (⟨some 20, _, _, _, _, _⟩ :: _) _ _); refine wpList_fld_w (by kernel_rfl) _ (.tmp 3) 2 rfl (.pointer (some ⟨h, 0, none⟩)) (.pointer (some ⟨h, 17, none⟩)) (by kernel_rfl) (fld_ask2 h) ?_) | ((with_reducible show wpList _ _ _ (⟨some 21, _, _, _, _, _⟩ :: _) _ _); refine wpList_load_midw (by kernel_rfl) _ (.tmp 20) rfl h 17 rfl lb_proof _ rB_proof Tryd.underlying26 rfl 32 size_proof NB_proof ?_) | fail)
          go_ret
          exact ⟨ret_bool RS.out.symm, L_dial.out⟩
        have nb_way : (a_way == b_way) = true := by simpa using t_way
        have e_way := Lib.hid t_way
        clear t_way
        by_cases t_opt : a_opt = b_opt
        rotate_left
        · have nb : (a_opt == b_opt) = false := by simpa using t_opt
          have RS := Lib.hid (f_opt.out t_opt)
          clear t_opt
          go_wp2_with (first | ((with_reducible show wpList _ _ _ (⟨some 11, _, _, _, _, _⟩ :: _) _ _); refine wpList_fld_w (by kernel_rfl) _ (.tmp 2) 1 rfl (.pointer (some ⟨g, 0, none⟩)) (.pointer (some ⟨g, 1, none⟩)) (by kernel_rfl) (fld_ask1 g) ?_) | ((with_reducible show wpList _ _ _ (⟨some 12, _, _, _, _, _⟩ :: _) _ _); refine wpList_load_midw (by kernel_rfl) _ (.tmp 11) rfl g 1 rfl la_guid _ rA_guid Tryd.underlying25 rfl 16 size_guid NA_guid ?_) | ((with_reducible show wpList _ _ _ (⟨some 13, _, _, _, _, _⟩ :: _) _ _); refine wpList_fld_w (by kernel_rfl) _ (.tmp 3) 1 rfl (.pointer (some ⟨h, 0, none⟩)) (.pointer (some ⟨h, 1, none⟩)) (by kernel_rfl) (fld_ask1 h) ?_) | ((with_reducible show wpList _ _ _ (⟨some 14, _, _, _, _, _⟩ :: _) _ _); refine wpList_load_midw (by kernel_rfl) _ (.tmp 13) rfl h 1 rfl lb_guid _ rB_guid Tryd.underlying25 rfl 16 size_guid NB_guid ?_) | ((with_reducible show wpList _ _ _ (⟨some 18, _, _, _, _, _⟩ :: _) _ _); refine wpList_fld_w (by kernel_rfl) _ (.tmp 2) 2 rfl (.pointer (some ⟨g, 0, none⟩)) (.pointer (some ⟨g, 17, none⟩)) (by kernel_rfl) (fld_ask2 g) ?_) | ((with_reducible show wpList _ _ _ (⟨some 19, _, _, _, _, _⟩ :: _) _ _); refine wpList_load_midw (by kernel_rfl) _ (.tmp 18) rfl g 17 rfl la_proof _ rA_proof Tryd.underlying26 rfl 32 size_proof NA_proof ?_) | ((with_reducible show wpList _ _ _ (⟨some 20, _, _, _, _, _⟩ :: _) _ _); refine wpList_fld_w (by kernel_rfl) _ (.tmp 3) 2 rfl (.pointer (some ⟨h, 0, none⟩)) (.pointer (some ⟨h, 17, none⟩)) (by kernel_rfl) (fld_ask2 h) ?_) | ((with_reducible show wpList _ _ _ (⟨some 21, _, _, _, _, _⟩ :: _) _ _); refine wpList_load_midw (by kernel_rfl) _ (.tmp 20) rfl h 17 rfl lb_proof _ rB_proof Tryd.underlying26 rfl 32 size_proof NB_proof ?_) | fail)
          go_ret
          exact ⟨ret_bool RS.out.symm, L_dial.out⟩
        have nb_opt : (a_opt == b_opt) = true := by simpa using t_opt
        have e_opt := Lib.hid t_opt
        clear t_opt
        by_cases t_lev : a_lev = b_lev
        rotate_left
        · have nb : (a_lev == b_lev) = false := by simpa using t_lev
          have RS := Lib.hid (f_lev.out t_lev)
          clear t_lev
          go_wp2_with (first | ((with_reducible show wpList _ _ _ (⟨some 11, _, _, _, _, _⟩ :: _) _ _); refine wpList_fld_w (by kernel_rfl) _ (.tmp 2) 1 rfl (.pointer (some ⟨g, 0, none⟩)) (.pointer (some ⟨g, 1, none⟩)) (by kernel_rfl) (fld_ask1 g) ?_) | ((with_reducible show wpList _ _ _ (⟨some 12, _, _, _, _, _⟩ :: _) _ _); refine wpList_load_midw (by kernel_rfl) _ (.tmp 11) rfl g 1 rfl la_guid _ rA_guid Tryd.underlying25 rfl 16 size_guid NA_guid ?_) | ((with_reducible show wpList _ _ _ (⟨some 13, _, _, _, _, _⟩ :: _) _ _); refine wpList_fld_w (by kernel_rfl) _ (.tmp 3) 1 rfl (.pointer (some ⟨h, 0, none⟩)) (.pointer (some ⟨h, 1, none⟩)) (by kernel_rfl) (fld_ask1 h) ?_) | ((with_reducible show wpList _ _ _ (⟨some 14, _, _, _, _, _⟩ :: _) _ _); refine wpList_load_midw (by kernel_rfl) _ (.tmp 13) rfl h 1 rfl lb_guid _ rB_guid Tryd.underlying25 rfl 16 size_guid NB_guid ?_) | ((with_reducible show wpList _ _ _ (⟨some 18, _, _, _, _, _⟩ :: _) _ _); refine wpList_fld_w (by kernel_rfl) _ (.tmp 2) 2 rfl (.pointer (some ⟨g, 0, none⟩)) (.pointer (some ⟨g, 17, none⟩)) (by kernel_rfl) (fld_ask2 g) ?_) | ((with_reducible show wpList _ _ _ (⟨some 19, _, _, _, _, _⟩ :: _) _ _); refine wpList_load_midw (by kernel_rfl) _ (.tmp 18) rfl g 17 rfl la_proof _ rA_proof Tryd.underlying26 rfl 32 size_proof NA_proof ?_) | ((with_reducible show wpList _ _ _ (⟨some 20, _, _, _, _, _⟩ :: _) _ _); refine wpList_fld_w (by kernel_rfl) _ (.tmp 3) 2 rfl (.pointer (some ⟨h, 0, none⟩)) (.pointer (some ⟨h, 17, none⟩)) (by kernel_rfl) (fld_ask2 h) ?_) | ((with_reducible show wpList _ _ _ (⟨some 21, _, _, _, _, _⟩ :: _) _ _); refine wpList_load_midw (by kernel_rfl) _ (.tmp 20) rfl h 17 rfl lb_proof _ rB_proof Tryd.underlying26 rfl 32 size_proof NB_proof ?_) | fail)
          go_ret
          exact ⟨ret_bool RS.out.symm, L_dial.out⟩
        have nb_lev : (a_lev == b_lev) = true := by simpa using t_lev
        have e_lev := Lib.hid t_lev
        clear t_lev
        by_cases t_dur : a_dur = b_dur
        rotate_left
        · have nb : (a_dur == b_dur) = false := by simpa using t_dur
          have RS := Lib.hid (f_dur.out t_dur)
          clear t_dur
          go_wp2_with (first | ((with_reducible show wpList _ _ _ (⟨some 11, _, _, _, _, _⟩ :: _) _ _); refine wpList_fld_w (by kernel_rfl) _ (.tmp 2) 1 rfl (.pointer (some ⟨g, 0, none⟩)) (.pointer (some ⟨g, 1, none⟩)) (by kernel_rfl) (fld_ask1 g) ?_) | ((with_reducible show wpList _ _ _ (⟨some 12, _, _, _, _, _⟩ :: _) _ _); refine wpList_load_midw (by kernel_rfl) _ (.tmp 11) rfl g 1 rfl la_guid _ rA_guid Tryd.underlying25 rfl 16 size_guid NA_guid ?_) | ((with_reducible show wpList _ _ _ (⟨some 13, _, _, _, _, _⟩ :: _) _ _); refine wpList_fld_w (by kernel_rfl) _ (.tmp 3) 1 rfl (.pointer (some ⟨h, 0, none⟩)) (.pointer (some ⟨h, 1, none⟩)) (by kernel_rfl) (fld_ask1 h) ?_) | ((with_reducible show wpList _ _ _ (⟨some 14, _, _, _, _, _⟩ :: _) _ _); refine wpList_load_midw (by kernel_rfl) _ (.tmp 13) rfl h 1 rfl lb_guid _ rB_guid Tryd.underlying25 rfl 16 size_guid NB_guid ?_) | ((with_reducible show wpList _ _ _ (⟨some 18, _, _, _, _, _⟩ :: _) _ _); refine wpList_fld_w (by kernel_rfl) _ (.tmp 2) 2 rfl (.pointer (some ⟨g, 0, none⟩)) (.pointer (some ⟨g, 17, none⟩)) (by kernel_rfl) (fld_ask2 g) ?_) | ((with_reducible show wpList _ _ _ (⟨some 19, _, _, _, _, _⟩ :: _) _ _); refine wpList_load_midw (by kernel_rfl) _ (.tmp 18) rfl g 17 rfl la_proof _ rA_proof Tryd.underlying26 rfl 32 size_proof NA_proof ?_) | ((with_reducible show wpList _ _ _ (⟨some 20, _, _, _, _, _⟩ :: _) _ _); refine wpList_fld_w (by kernel_rfl) _ (.tmp 3) 2 rfl (.pointer (some ⟨h, 0, none⟩)) (.pointer (some ⟨h, 17, none⟩)) (by kernel_rfl) (fld_ask2 h) ?_) | ((with_reducible show wpList _ _ _ (⟨some 21, _, _, _, _, _⟩ :: _) _ _); refine wpList_load_midw (by kernel_rfl) _ (.tmp 20) rfl h 17 rfl lb_proof _ rB_proof Tryd.underlying26 rfl 32 size_proof NB_proof ?_) | fail)
          go_ret
          exact ⟨ret_bool RS.out.symm, L_dial.out⟩
        have nb_dur : (a_dur == b_dur) = true := by simpa using t_dur
        have e_dur := Lib.hid t_dur
        clear t_dur
        by_cases t_file : a_file = b_file
        rotate_left
        · have nb : (a_file == b_file) = false := by simpa using t_file
          have RS := Lib.hid (f_file.out t_file)
          clear t_file
          go_wp2_with (first | ((with_reducible show wpList _ _ _ (⟨some 11, _, _, _, _, _⟩ :: _) _ _); refine wpList_fld_w (by kernel_rfl) _ (.tmp 2) 1 rfl (.pointer (some ⟨g, 0, none⟩)) (.pointer (some ⟨g, 1, none⟩)) (by kernel_rfl) (fld_ask1 g) ?_) | ((with_reducible show wpList _ _ _ (⟨some 12, _, _, _, _, _⟩ :: _) _ _); refine wpList_load_midw (by kernel_rfl) _ (.tmp 11) rfl g 1 rfl la_guid _ rA_guid Tryd.underlying25 rfl 16 size_guid NA_guid ?_) | ((with_reducible show wpList _ _ _ (⟨some 13, _, _, _, _, _⟩ :: _) _ _); refine wpList_fld_w (by kernel_rfl) _ (.tmp 3) 1 rfl (.pointer (some ⟨h, 0, none⟩)) (.pointer (some ⟨h, 1, none⟩)) (by kernel_rfl) (fld_ask1 h) ?_) | ((with_reducible show wpList _ _ _ (⟨some 14, _, _, _, _, _⟩ :: _) _ _); refine wpList_load_midw (by kernel_rfl) _ (.tmp 13) rfl h 1 rfl lb_guid _ rB_guid Tryd.underlying25 rfl 16 size_guid NB_guid ?_) | ((with_reducible show wpList _ _ _ (⟨some 18, _, _, _, _, _⟩ :: _) _ _); refine wpList_fld_w (by kernel_rfl) _ (.tmp 2) 2 rfl (.pointer (some ⟨g, 0, none⟩)) (.pointer (some ⟨g, 17, none⟩)) (by kernel_rfl) (fld_ask2 g) ?_) | ((with_reducible show wpList _ _ _ (⟨some 19, _, _, _, _, _⟩ :: _) _ _); refine wpList_load_midw (by kernel_rfl) _ (.tmp 18) rfl g 17 rfl la_proof _ rA_proof Tryd.underlying26 rfl 32 size_proof NA_proof ?_) | ((with_reducible show wpList _ _ _ (⟨some 20, _, _, _, _, _⟩ :: _) _ _); refine wpList_fld_w (by kernel_rfl) _ (.tmp 3) 2 rfl (.pointer (some ⟨h, 0, none⟩)) (.pointer (some ⟨h, 17, none⟩)) (by kernel_rfl) (fld_ask2 h) ?_) | ((with_reducible show wpList _ _ _ (⟨some 21, _, _, _, _, _⟩ :: _) _ _); refine wpList_load_midw (by kernel_rfl) _ (.tmp 20) rfl h 17 rfl lb_proof _ rB_proof Tryd.underlying26 rfl 32 size_proof NB_proof ?_) | fail)
          go_ret
          exact ⟨ret_bool RS.out.symm, L_dial.out⟩
        have nb_file : (a_file == b_file) = true := by simpa using t_file
        have e_file := Lib.hid t_file
        clear t_file
        by_cases t_name : a_name = b_name
        rotate_left
        · have nb : (a_name.toList == b_name.toList) = false := by rw [bytes_beq]; exact decide_eq_false t_name
          have RS := Lib.hid (f_name.out t_name)
          clear t_name
          go_wp2_with (first | ((with_reducible show wpList _ _ _ (⟨some 11, _, _, _, _, _⟩ :: _) _ _); refine wpList_fld_w (by kernel_rfl) _ (.tmp 2) 1 rfl (.pointer (some ⟨g, 0, none⟩)) (.pointer (some ⟨g, 1, none⟩)) (by kernel_rfl) (fld_ask1 g) ?_) | ((with_reducible show wpList _ _ _ (⟨some 12, _, _, _, _, _⟩ :: _) _ _); refine wpList_load_midw (by kernel_rfl) _ (.tmp 11) rfl g 1 rfl la_guid _ rA_guid Tryd.underlying25 rfl 16 size_guid NA_guid ?_) | ((with_reducible show wpList _ _ _ (⟨some 13, _, _, _, _, _⟩ :: _) _ _); refine wpList_fld_w (by kernel_rfl) _ (.tmp 3) 1 rfl (.pointer (some ⟨h, 0, none⟩)) (.pointer (some ⟨h, 1, none⟩)) (by kernel_rfl) (fld_ask1 h) ?_) | ((with_reducible show wpList _ _ _ (⟨some 14, _, _, _, _, _⟩ :: _) _ _); refine wpList_load_midw (by kernel_rfl) _ (.tmp 13) rfl h 1 rfl lb_guid _ rB_guid Tryd.underlying25 rfl 16 size_guid NB_guid ?_) | ((with_reducible show wpList _ _ _ (⟨some 18, _, _, _, _, _⟩ :: _) _ _); refine wpList_fld_w (by kernel_rfl) _ (.tmp 2) 2 rfl (.pointer (some ⟨g, 0, none⟩)) (.pointer (some ⟨g, 17, none⟩)) (by kernel_rfl) (fld_ask2 g) ?_) | ((with_reducible show wpList _ _ _ (⟨some 19, _, _, _, _, _⟩ :: _) _ _); refine wpList_load_midw (by kernel_rfl) _ (.tmp 18) rfl g 17 rfl la_proof _ rA_proof Tryd.underlying26 rfl 32 size_proof NA_proof ?_) | ((with_reducible show wpList _ _ _ (⟨some 20, _, _, _, _, _⟩ :: _) _ _); refine wpList_fld_w (by kernel_rfl) _ (.tmp 3) 2 rfl (.pointer (some ⟨h, 0, none⟩)) (.pointer (some ⟨h, 17, none⟩)) (by kernel_rfl) (fld_ask2 h) ?_) | ((with_reducible show wpList _ _ _ (⟨some 21, _, _, _, _, _⟩ :: _) _ _); refine wpList_load_midw (by kernel_rfl) _ (.tmp 20) rfl h 17 rfl lb_proof _ rB_proof Tryd.underlying26 rfl 32 size_proof NB_proof ?_) | fail)
          go_ret
          exact ⟨ret_bool RS.out.symm, L_dial.out⟩
        have nb_name : (a_name.toList == b_name.toList) = true := by rw [bytes_beq]; exact decide_eq_true t_name
        have e_name := Lib.hid t_name
        clear t_name
        by_cases t_at_ : a_at_ = b_at_
        rotate_left
        · have nb : (a_at_ == b_at_) = false := by simpa using t_at_
          have RS := Lib.hid (f_at_.out t_at_)
          clear t_at_
          go_wp2_with (first | ((with_reducible show wpList _ _ _ (⟨some 11, _, _, _, _, _⟩ :: _) _ _); refine wpList_fld_w (by kernel_rfl) _ (.tmp 2) 1 rfl (.pointer (some ⟨g, 0, none⟩)) (.pointer (some ⟨g, 1, none⟩)) (by kernel_rfl) (fld_ask1 g) ?_) | ((with_reducible show wpList _ _ _ (⟨some 12, _, _, _, _, _⟩ :: _) _ _); refine wpList_load_midw (by kernel_rfl) _ (.tmp 11) rfl g 1 rfl la_guid _ rA_guid Tryd.underlying25 rfl 16 size_guid NA_guid ?_) | ((with_reducible show wpList _ _ _ (⟨some 13, _, _, _, _, _⟩ :: _) _ _); refine wpList_fld_w (by kernel_rfl) _ (.tmp 3) 1 rfl (.pointer (some ⟨h, 0, none⟩)) (.pointer (some ⟨h, 1, none⟩)) (by kernel_rfl) (fld_ask1 h) ?_) | ((with_reducible show wpList _ _ _ (⟨some 14, _, _, _, _, _⟩ :: _) _ _); refine wpList_load_midw (by kernel_rfl) _ (.tmp 13) rfl h 1 rfl lb_guid _ rB_guid Tryd.underlying25 rfl 16 size_guid NB_guid ?_) | ((with_reducible show wpList _ _ _ (⟨some 18, _, _, _, _, _⟩ :: _) _ _); refine wpList_fld_w (by kernel_rfl) _ (.tmp 2) 2 rfl (.pointer (some ⟨g, 0, none⟩)) (.pointer (some ⟨g, 17, none⟩)) (by kernel_rfl) (fld_ask2 g) ?_) | ((with_reducible show wpList _ _ _ (⟨some 19, _, _, _, _, _⟩ :: _) _ _); refine wpList_load_midw (by kernel_rfl) _ (.tmp 18) rfl g 17 rfl la_proof _ rA_proof Tryd.underlying26 rfl 32 size_proof NA_proof ?_) | ((with_reducible show wpList _ _ _ (⟨some 20, _, _, _, _, _⟩ :: _) _ _); refine wpList_fld_w (by kernel_rfl) _ (.tmp 3) 2 rfl (.pointer (some ⟨h, 0, none⟩)) (.pointer (some ⟨h, 17, none⟩)) (by kernel_rfl) (fld_ask2 h) ?_) | ((with_reducible show wpList _ _ _ (⟨some 21, _, _, _, _, _⟩ :: _) _ _); refine wpList_load_midw (by kernel_rfl) _ (.tmp 20) rfl h 17 rfl lb_proof _ rB_proof Tryd.underlying26 rfl 32 size_proof NB_proof ?_) | fail)
          go_ret
          exact ⟨ret_bool RS.out.symm, L_dial.out⟩
        have nb_at_ : (a_at_ == b_at_) = true := by simpa using t_at_
        have e_at_ := Lib.hid t_at_
        clear t_at_
        by_cases t_n : a_n = b_n
        rotate_left
        · have nb : (a_n == b_n) = false := by simpa using t_n
          have RS := Lib.hid (f_n.out t_n)
          clear t_n
          go_wp2_with (first | ((with_reducible show wpList _ _ _ (⟨some 11, _, _, _, _, _⟩ :: _) _ _); refine wpList_fld_w (by kernel_rfl) _ (.tmp 2) 1 rfl (.pointer (some ⟨g, 0, none⟩)) (.pointer (some ⟨g, 1, none⟩)) (by kernel_rfl) (fld_ask1 g) ?_) | ((with_reducible show wpList _ _ _ (⟨some 12, _, _, _, _, _⟩ :: _) _ _); refine wpList_load_midw (by kernel_rfl) _ (.tmp 11) rfl g 1 rfl la_guid _ rA_guid Tryd.underlying25 rfl 16 size_guid NA_guid ?_) | ((with_reducible show wpList _ _ _ (⟨some 13, _, _, _, _, _⟩ :: _) _ _); refine wpList_fld_w (by kernel_rfl) _ (.tmp 3) 1 rfl (.pointer (some ⟨h, 0, none⟩)) (.pointer (some ⟨h, 1, none⟩)) (by kernel_rfl) (fld_ask1 h) ?_) | ((with_reducible show wpList _ _ _ (⟨some 14, _, _, _, _, _⟩ :: _) _ _); refine wpList_load_midw (by kernel_rfl) _ (.tmp 13) rfl h 1 rfl lb_guid _ rB_guid Tryd.underlying25 rfl 16 size_guid NB_guid ?_) | ((with_reducible show wpList _ _ _ (⟨some 18, _, _, _, _, _⟩ :: _) _ _); refine wpList_fld_w (by kernel_rfl) _ (.tmp 2) 2 rfl (.pointer (some ⟨g, 0, none⟩)) (.pointer (some ⟨g, 17, none⟩)) (by kernel_rfl) (fld_ask2 g) ?_) | ((with_reducible show wpList _ _ _ (⟨some 19, _, _, _, _, _⟩ :: _) _ _); refine wpList_load_midw (by kernel_rfl) _ (.tmp 18) rfl g 17 rfl la_proof _ rA_proof Tryd.underlying26 rfl 32 size_proof NA_proof ?_) | ((with_reducible show wpList _ _ _ (⟨some 20, _, _, _, _, _⟩ :: _) _ _); refine wpList_fld_w (by kernel_rfl) _ (.tmp 3) 2 rfl (.pointer (some ⟨h, 0, none⟩)) (.pointer (some ⟨h, 17, none⟩)) (by kernel_rfl) (fld_ask2 h) ?_) | ((with_reducible show wpList _ _ _ (⟨some 21, _, _, _, _, _⟩ :: _) _ _); refine wpList_load_midw (by kernel_rfl) _ (.tmp 20) rfl h 17 rfl lb_proof _ rB_proof Tryd.underlying26 rfl 32 size_proof NB_proof ?_) | fail)
          go_ret
          exact ⟨ret_bool RS.out.symm, L_dial.out⟩
        have nb_n : (a_n == b_n) = true := by simpa using t_n
        have e_n := Lib.hid t_n
        clear t_n
        go_wp2_with (first | ((with_reducible show wpList _ _ _ (⟨some 11, _, _, _, _, _⟩ :: _) _ _); refine wpList_fld_w (by kernel_rfl) _ (.tmp 2) 1 rfl (.pointer (some ⟨g, 0, none⟩)) (.pointer (some ⟨g, 1, none⟩)) (by kernel_rfl) (fld_ask1 g) ?_) | ((with_reducible show wpList _ _ _ (⟨some 12, _, _, _, _, _⟩ :: _) _ _); refine wpList_load_midw (by kernel_rfl) _ (.tmp 11) rfl g 1 rfl la_guid _ rA_guid Tryd.underlying25 rfl 16 size_guid NA_guid ?_) | ((with_reducible show wpList _ _ _ (⟨some 13, _, _, _, _, _⟩ :: _) _ _); refine wpList_fld_w (by kernel_rfl) _ (.tmp 3) 1 rfl (.pointer (some ⟨h, 0, none⟩)) (.pointer (some ⟨h, 1, none⟩)) (by kernel_rfl) (fld_ask1 h) ?_) | ((with_reducible show wpList _ _ _ (⟨some 14, _, _, _, _, _⟩ :: _) _ _); refine wpList_load_midw (by kernel_rfl) _ (.tmp 13) rfl h 1 rfl lb_guid _ rB_guid Tryd.underlying25 rfl 16 size_guid NB_guid ?_) | ((with_reducible show wpList _ _ _ (⟨some 18, _, _, _, _, _⟩ :: _) _ _); refine wpList_fld_w (by kernel_rfl) _ (.tmp 2) 2 rfl (.pointer (some ⟨g, 0, none⟩)) (.pointer (some ⟨g, 17, none⟩)) (by kernel_rfl) (fld_ask2 g) ?_) | ((with_reducible show wpList _ _ _ (⟨some 19, _, _, _, _, _⟩ :: _) _ _); refine wpList_load_midw (by kernel_rfl) _ (.tmp 18) rfl g 17 rfl la_proof _ rA_proof Tryd.underlying26 rfl 32 size_proof NA_proof ?_) | ((with_reducible show wpList _ _ _ (⟨some 20, _, _, _, _, _⟩ :: _) _ _); refine wpList_fld_w (by kernel_rfl) _ (.tmp 3) 2 rfl (.pointer (some ⟨h, 0, none⟩)) (.pointer (some ⟨h, 17, none⟩)) (by kernel_rfl) (fld_ask2 h) ?_) | ((with_reducible show wpList _ _ _ (⟨some 21, _, _, _, _, _⟩ :: _) _ _); refine wpList_load_midw (by kernel_rfl) _ (.tmp 20) rfl h 17 rfl lb_proof _ rB_proof Tryd.underlying26 rfl 32 size_proof NB_proof ?_) | fail)
        refine (CS.out _ L_dial.out).mono ?_
        rintro e w' ⟨rfl, j_data, rfl⟩
        have K1_data' := K1_dial.out.drewN j_data
        have K2_data' := K2_dial.out.drewN j_data
        have L_data' := below_drewN L_dial.out j_data
        obtain ⟨w_data, hw_data⟩ : ∃ v, v = World.drewN w_dial j_data := ⟨_, rfl⟩
        rw [← hw_data] at K1_data' K2_data' L_data' ⊢
        have K1_data := Lib.hid K1_data'
        have K2_data := Lib.hid K2_data'
        have L_data := Lib.hid L_data'
        clear hw_data K1_data' K2_data' L_data' ca_dial cb_dial ca_user cb_user ca_share cb_share ca_acc cb_acc ca_shr cb_shr ca_way cb_way ca_opt cb_opt ca_lev cb_lev ca_dur cb_dur ca_file cb_file ca_name cb_name ca_at_ cb_at_ ca_n cb_n ca_data cb_data ca_locks cb_locks ca_most cb_most ca_pat cb_pat ca_aft cb_aft ca_cls cb_cls ca_siz cb_siz ca_on cb_on
        clear rA_guid rB_guid rA_proof rB_proof
        cases z_data
        · have ne : ¬ a.data = b.data := by have := Z_data.out; simpa using this.symm
          have RS := Lib.hid (f_data.out ne)
          clear ne
          go_wp2_with fail
          go_ret
          exact ⟨ret_bool RS.out.symm, L_data.out⟩
        · have e_data : Hid (a.data = b.data) := by have := Z_data.out; show _ = _; simpa using this.symm
          obtain ⟨ca_dial, ca_user, ca_share, ca_acc, ca_shr, ca_way, ca_opt, ca_lev, ca_dur, ca_file, ca_name, ca_at_, ca_n, ca_data, ca_locks, ca_most, ca_pat, ca_aft, ca_cls, ca_siz, ca_on⟩ := FA.out _ _ K1_data.out
          obtain ⟨cb_dial, cb_user, cb_share, cb_acc, cb_shr, cb_way, cb_opt, cb_lev, cb_dur, cb_file, cb_name, cb_at_, cb_n, cb_data, cb_locks, cb_most, cb_pat, cb_aft, cb_cls, cb_siz, cb_on⟩ := FB.out _ _ K2_data.out
          have rA_guid := Lib.hid (RA_guid.out _ _ K1_data.out)
          have rB_guid := Lib.hid (RB_guid.out _ _ K2_data.out)
          have rA_proof := Lib.hid (RA_proof.out _ _ K1_data.out)
          have rB_proof := Lib.hid (RB_proof.out _ _ K2_data.out)
          go_wp2_with fail
          refine (CR.out _ L_data.out).mono ?_
          rintro e w' ⟨rfl, j_locks, rfl⟩
          have K1_locks' := K1_data.out.drewN j_locks
          have K2_locks' := K2_data.out.drewN j_locks
          have L_locks' := below_drewN L_data.out j_locks
          obtain ⟨w_locks, hw_locks⟩ : ∃ v, v = World.drewN w_data j_locks := ⟨_, rfl⟩
          rw [← hw_locks] at K1_locks' K2_locks' L_locks' ⊢
          have K1_locks := Lib.hid K1_locks'
          have K2_locks := Lib.hid K2_locks'
          have L_locks := Lib.hid L_locks'
          clear hw_locks K1_locks' K2_locks' L_locks' 
          cases z_locks
          · have ne : ¬ a.locks = b.locks := by have := Z_locks.out; simpa using this.symm
            have RS := Lib.hid (f_locks.out ne)
            clear ne
            go_wp2_with fail
            go_ret
            exact ⟨ret_bool RS.out.symm, L_locks.out⟩
          · have e_locks : Hid (a.locks = b.locks) := by have := Z_locks.out; show _ = _; simpa using this.symm
            obtain ⟨ca_dial, ca_user, ca_share, ca_acc, ca_shr, ca_way, ca_opt, ca_lev, ca_dur, ca_file, ca_name, ca_at_, ca_n, ca_data, ca_locks, ca_most, ca_pat, ca_aft, ca_cls, ca_siz, ca_on⟩ := FA.out _ _ K1_locks.out
            obtain ⟨cb_dial, cb_user, cb_share, cb_acc, cb_shr, cb_way, cb_opt, cb_lev, cb_dur, cb_file, cb_name, cb_at_, cb_n, cb_data, cb_locks, cb_most, cb_pat, cb_aft, cb_cls, cb_siz, cb_on⟩ := FB.out _ _ K2_locks.out
            have rA_guid := Lib.hid (RA_guid.out _ _ K1_locks.out)
            have rB_guid := Lib.hid (RB_guid.out _ _ K2_locks.out)
            have rA_proof := Lib.hid (RA_proof.out _ _ K1_locks.out)
            have rB_proof := Lib.hid (RB_proof.out _ _ K2_locks.out)
            by_cases t_most : a_most = b_most
            rotate_left
            · have nb : (a_most == b_most) = false := by simpa using t_most
              have RS := Lib.hid (f_most.out t_most)
              clear t_most
              go_wp2_with fail
              go_ret
              exact ⟨ret_bool RS.out.symm, L_locks.out⟩
            have nb_most : (a_most == b_most) = true := by simpa using t_most
            have e_most := Lib.hid t_most
            clear t_most
            by_cases t_pat : a_pat = b_pat
            rotate_left
            · have nb : (a_pat.toList == b_pat.toList) = false := by rw [bytes_beq]; exact decide_eq_false t_pat
              have RS := Lib.hid (f_pat.out t_pat)
              clear t_pat
              go_wp2_with fail
              go_ret
              exact ⟨ret_bool RS.out.symm, L_locks.out⟩
            have nb_pat : (a_pat.toList == b_pat.toList) = true := by rw [bytes_beq]; exact decide_eq_true t_pat
            have e_pat := Lib.hid t_pat
            clear t_pat
            by_cases t_aft : a_aft = b_aft
            rotate_left
            · have nb : (a_aft.toList == b_aft.toList) = false := by rw [bytes_beq]; exact decide_eq_false t_aft
              have RS := Lib.hid (f_aft.out t_aft)
              clear t_aft
              go_wp2_with fail
              go_ret
              exact ⟨ret_bool RS.out.symm, L_locks.out⟩
            have nb_aft : (a_aft.toList == b_aft.toList) = true := by rw [bytes_beq]; exact decide_eq_true t_aft
            have e_aft := Lib.hid t_aft
            clear t_aft
            by_cases t_cls : a_cls = b_cls
            rotate_left
            · have nb : (a_cls == b_cls) = false := by simpa using t_cls
              have RS := Lib.hid (f_cls.out t_cls)
              clear t_cls
              go_wp2_with fail
              go_ret
              exact ⟨ret_bool RS.out.symm, L_locks.out⟩
            have nb_cls : (a_cls == b_cls) = true := by simpa using t_cls
            have e_cls := Lib.hid t_cls
            clear t_cls
            by_cases t_siz : a_siz = b_siz
            rotate_left
            · have nb : (a_siz == b_siz) = false := by simpa using t_siz
              have RS := Lib.hid (f_siz.out t_siz)
              clear t_siz
              go_wp2_with fail
              go_ret
              exact ⟨ret_bool RS.out.symm, L_locks.out⟩
            have nb_siz : (a_siz == b_siz) = true := by simpa using t_siz
            have e_siz := Lib.hid t_siz
            clear t_siz
            by_cases t_on : a_on = b_on
            rotate_left
            · have nb : (a_on == b_on) = false := by simpa using t_on
              have RS := Lib.hid (f_on.out t_on)
              clear t_on
              go_wp2_with fail
              go_ret
              exact ⟨ret_bool RS.out.symm, L_locks.out⟩
            have nb_on : (a_on == b_on) = true := by simpa using t_on
            have e_on := Lib.hid t_on
            clear t_on
            go_wp2_with fail
            go_ret
            exact ⟨ret_bool (HT.out e_dial.out e_guid.out e_proof.out e_user.out e_share.out e_acc.out e_shr.out e_way.out e_opt.out e_lev.out e_dur.out e_file.out e_name.out e_at_.out e_n.out e_data.out e_locks.out e_most.out e_pat.out e_aft.out e_cls.out e_siz.out e_on.out).symm, L_locks.out⟩
end Go.Proofs.YtbbjmmooemmeiaaDoor
