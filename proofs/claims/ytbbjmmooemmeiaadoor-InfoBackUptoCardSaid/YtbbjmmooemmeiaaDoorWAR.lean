import Derived.WalkKit
import Derived.Deep.Draws
import Derived.Laws.Rows
import Derived.Laws.OwnMore
import Derived.Test.YtbbjmmooemmeiaaDoorRows
import Derived.Laws.CopyOwn
import Derived.Laws.AppendOwnNone
import Derived.Lib.Hide
import Derived.Laws.AppendOwn
import Derived.OwnWalk
import Derived.Lib.OthersKept
import Derived.Laws.BytesArg
import Derived.Laws.Tables
import Derived.Laws.NewFold
import Derived.Deep.WholeRow
import Derived.Deep.DeepCutAuto
import Derived.OneCell
import Derived.ProofKit
import Derived.OpenShut
import Derived.ShutString
import Derived.SizedLaws
import Derived.ChangeOld
import Derived.Deep.Strs
import Derived.Deep.MidRow
import Derived.Great.Walk
import Derived.OrdersHeld
import Derived.Laws.StructEq
import Derived.ChangeKeysEq
import Derived.Laws.Bits64
import Derived.Laws.BitsAllLaws
import Derived.WalkSpells
import Derived.WalkLawsBesides
import Derived.Deep.QuietTactic
import Derived.BigQuiet
import Derived.Lib.RuneBytes
import Derived.Lib.ValidLaws
import Derived.Shelf.Utf8.AppendRunePlain
import Derived.Shelf.Unicode.ValidAny
import Derived.Test.YtbbjmmooemmeiaaDoorProg
import Derived.Lib.AppendZeros
import Derived.Deep.RegionWith
import Derived.Deep.RegionLaw
import Derived.Deep.OwnRows
import Derived.Test.YtbbjmmooemmeiaaDoorWAD
import Derived.Test.YtbbjmmooemmeiaaDoorWAF
import Derived.Test.YtbbjmmooemmeiaaDoorWAG
import Derived.Test.YtbbjmmooemmeiaaDoorWAH
import Derived.Test.YtbbjmmooemmeiaaDoorWAJ
import Derived.Test.YtbbjmmooemmeiaaDoorWAM
namespace Go.Proofs.YtbbjmmooemmeiaaDoor
set_option linter.all false
open Go.RowKit
set_option maxRecDepth 100000
set_option linter.unusedVariables false
section
variable {P : Program} {w : World} {d : Nat} {xs ys : Array Value} {r : List (Bool × TypeId × Nat)} {q : Bool}
theorem eqSpec_str (t : TypeId) (o : Nat) (x y : ByteArray) (ht : P.underlying t = some .string) (hx : xs[o]? = some (.string x)) (hy : ys[o]? = some (.string y)) (hr : (eqSpec (d + 1) xs ys r).run P w = .ok q w) :
    (eqSpec (d + 1) xs ys ((false, t, o) :: r)).run P w = .ok (decide (x = y) && q) w := by
  have p1 : (part t xs o).run P w = .ok (.string x) w := by simp [part, isAgg, run_underlying ht, hx]
  have p2 : (part t ys o).run P w = .ok (.string y) w := by simp [part, isAgg, run_underlying ht, hy]
  simp only [eqSpec, Bool.false_eq_true, if_false, Sem.run_bind, p1, p2, Result.andThen_ok, run_equalIn_string w d t _ _ ht, bytes_beq]
  by_cases h : x = y
  · subst h
    simpa using hr
  · simp [h]
end
theorem fields_stat : (Tryd.prog.fieldsOf 80).toList.map (fun f => (decide (f.name = "_"), f.type, f.offset)) = [(false, 42, 0), (false, 3, 1)] := by kernel_rfl
theorem fields_entry : (Tryd.prog.fieldsOf 82).toList.map (fun f => (decide (f.name = "_"), f.type, f.offset)) = [(false, 9, 0), (false, 80, 1)] := by kernel_rfl
theorem size_stat : (Tryd.prog.info? 80).map (·.size) = some 2 := by kernel_rfl
theorem run_equalIn_stat (a b c d : Int) (w : World) : (Op.equalIn 9999 80 (.agg #[.int .u8 a, .int .i64 b]) (.agg #[.int .u8 c, .int .i64 d])).run Tryd.prog w = .ok (decide (a = c ∧ b = d)) w := by
  rw [show (9999 : Nat) = 9998 + 1 from rfl, run_equalIn_struct w 9998 80 _ _ Tryd.underlying80 (by kernel_rfl), eqFields_spec, fields_stat]
  have h := eqSpec_int (P := Tryd.prog) (w := w) (d := 9997) (xs := #[.int .u8 a, .int .i64 b]) (ys := #[.int .u8 c, .int .i64 d]) 42 .u8 0 a c Tryd.underlying42 rfl rfl
    (eqSpec_int (r := []) (q := true) 3 .i64 1 b d Tryd.underlying3 rfl rfl (by simp [eqSpec]))
  refine h.trans ?_
  congr 1
  rw [Bool.eq_iff_iff]
  simp
theorem run_equalIn_entry (a b : EntryV) (w : World) : (Op.equalIn 10000 82 (.agg (entryCells a).toArray) (.agg (entryCells b).toArray)).run Tryd.prog w = .ok (decide (a = b)) w := by
  rw [show (10000 : Nat) = 9999 + 1 from rfl, run_equalIn_struct w 9999 82 _ _ Tryd.underlying82 (by kernel_rfl), eqFields_spec, fields_entry]
  have hs : (eqSpec 9999 (entryCells a).toArray (entryCells b).toArray [(false, 80, 1)]).run Tryd.prog w = .ok (decide (a.kind = b.kind ∧ a.size = b.size)) w := by
    obtain ⟨j, hj, hj1⟩ : ∃ j, Tryd.prog.info? 80 = some j ∧ j.size = 2 := by
      have h2 := size_stat
      cases hq : Tryd.prog.info? 80 with
      | none => rw [hq] at h2; cases h2
      | some j => exact ⟨j, rfl, by rw [hq] at h2; simpa using h2⟩
    have p1 : ∀ c : EntryV, (part 80 (entryCells c).toArray 1).run Tryd.prog w = .ok (.agg #[.int .u8 c.kind, .int .i64 c.size]) w := fun c => by
      simp [part, isAgg, run_underlying Tryd.underlying80, sizeOf, typeInfo, hj, hj1, entryCells]
    simp only [eqSpec, Bool.false_eq_true, if_false, Sem.run_bind, p1, Result.andThen_ok, run_equalIn_stat]
    by_cases h : a.kind = b.kind ∧ a.size = b.size
    · simp [h]
    · simp [h]
  have h := eqSpec_str (P := Tryd.prog) (w := w) (d := 9998) (xs := (entryCells a).toArray) (ys := (entryCells b).toArray) 9 0 a.name b.name Tryd.underlying9 rfl rfl hs
  refine h.trans ?_
  congr 1
  obtain ⟨a0, a1, a2⟩ := a
  obtain ⟨b0, b1, b2⟩ := b
  rw [Bool.eq_iff_iff]
  simp
theorem guard_entry : Tryd.prog.eqGuardType Tryd.prog.depth 82 = false := by kernel_rfl
set_option maxRecDepth 100000 in
set_option maxHeartbeats 1000000 in
theorem Entries_any (w : World) (B B' : Nat) (A A' : Option Addr) (n c n' c' : Nat) (xs ys : List EntryV) (h : HoldsS entryCells 3 w B A n c xs) (h' : HoldsS entryCells 3 w B' A' n' c' ys) (hr : n ≤ 281474976710656) (hr' : n' ≤ 281474976710656) :
    Calls Tryd.prog 48 #[.slice A n c, .slice A' n' c'] w fun e w' => e = .returned (.bool (decide (xs = ys))) ∧ ∃ k, w.drewN k = w' := by
  have hl := h.len
  have hl' := h'.len
  have hf := h.fit
  have hf' := h'.fit
  by_cases hn : n = n'
  · subst hn
    have HL := Lib.hid hl
    have HL' := Lib.hid hl'
    clear hl hl'
    go_enter Tryd.func48, Tryd.ntmps48
    go_wp2
    go_loopw [5] (fun i wr => ∃ k : Nat, k ≤ n ∧ i = .int .i64 k ∧ Hid (xs.take k = ys.take k) ∧ ∃ j, wr = w.drewN j) (fun i _ => n - (intOf i).toNat)
    case atStart => exact ⟨0, Nat.zero_le _, rfl, by simp [Hid], 0, rfl⟩
    case round =>
      obtain ⟨k, hk, rfl, HT, j, rfl⟩ := hrel
      by_cases hlt : k < n
      · obtain ⟨b, off, rfl, hb, hc⟩ := h.cells (by omega)
        obtain ⟨b', off', rfl, hb', hc'⟩ := h'.cells (by omega)
        obtain ⟨x, hx⟩ : ∃ x, xs[k]? = some x := ⟨_, List.getElem?_eq_getElem (by have := HL.out; omega)⟩
        obtain ⟨y, hy⟩ : ∃ y, ys[k]? = some y := ⟨_, List.getElem?_eq_getElem (by have := HL'.out; omega)⟩
        have rx := h.range rfl hlt hx
        have ry := h'.range rfl hlt hy
        clear hc hc'
        have HX := Lib.hid hx
        have HY := Lib.hid hy
        have q0 : ∀ w : World, (Op.equalIn 10000 82 (.agg (entryCells x).toArray) (.agg (entryCells y).toArray)).run Tryd.prog w = .ok (decide (x = y)) w := fun w => run_equalIn_entry x y w
        have qg := guard_entry
        obtain ⟨wj, hwj⟩ : ∃ wj, wj = w.drewN j := ⟨_, rfl⟩
        have Rx : Hid (wj.rangeAt b (off + k * 3) (entryCells x)) := by rw [hwj]; exact rx
        have Ry : Hid (wj.rangeAt b' (off' + k * 3) (entryCells y)) := by rw [hwj]; exact ry
        rw [← hwj]
        have HW := Lib.hid hwj
        have LX : Hid ((entryCells x).length = 3) := rfl
        have LY : Hid ((entryCells y).length = 3) := rfl
        obtain ⟨cx, hcx⟩ : ∃ cx, cx = entryCells x := ⟨_, rfl⟩
        obtain ⟨cy, hcy⟩ : ∃ cy, cy = entryCells y := ⟨_, rfl⟩
        rw [← hcx] at Rx LX q0
        rw [← hcy] at Ry LY q0
        obtain ⟨z, hz⟩ : ∃ z, z = decide (x = y) := ⟨_, rfl⟩
        rw [← hz] at q0
        have HZ := Lib.hid hz
        clear hx hy hwj rx ry hcx hcy hz
        go_upto_region 6 with fail
        refine wp_region_held (S := fun w' => World.rangeAt w' b (off + k * 3) cx ∧ World.rangeAt w' b' (off' + k * 3) cy) (by kernel_rfl) ?_
        change wpAnyH _ _ _ _ _ _ _ _ wj.drew
        have S0 : Hid (World.rangeAt wj.drew b (off + k * 3) cx ∧ World.rangeAt wj.drew b' (off' + k * 3) cy) := ⟨Rx.out, Ry.out⟩
        have b0 : Hid (Below w.heap.size w wj.drew) := by rw [HW.out]; exact drewed w (j + 1)
        refine wpAnyH_take (i := 0) (v := _) rfl (by kernel_rfl) (by kernel_rfl) (by kernel_rfl) (fun _ _ _ h => h) (yieldsIf_move (by kernel_rfl) (.tmp 0) rfl (.slice (some ⟨b, off, none⟩) n c) (by kernel_rfl)) S0.out ?_
        refine wpAnyH_take (i := 1) (v := _) rfl (by kernel_rfl) (by kernel_rfl) (by kernel_rfl) (fun _ _ _ h => h) (yieldsIf_move (by kernel_rfl) (.tmp 5) rfl (.int .i64 k) (by kernel_rfl)) S0.out ?_
        refine wpAnyH_take (i := 2) (v := .pointer (some ⟨b, off + k * 3, none⟩)) rfl (by kernel_rfl) (by kernel_rfl) (by kernel_rfl) (fun _ _ _ h => h) (.inl ⟨by kernel_rfl, fun w _ => by go_simp⟩) S0.out ?_
        refine wpAnyH_take (i := 3) (v := _) rfl (by kernel_rfl) (by kernel_rfl) (by kernel_rfl) (fun _ _ _ h => h) (yieldsIf_load_mid (by kernel_rfl) _ (.tmp 19) rfl b (off + k * 3) (by kernel_rfl) cx _ (fun _ h => h.1) Tryd.underlying82 rfl (by rw [size_entry, LX.out])) S0.out ?_
        refine wpAnyH_take (i := 4) (v := _) rfl (by kernel_rfl) (by kernel_rfl) (by kernel_rfl) (fun _ _ _ h => h) (yieldsIf_move (by kernel_rfl) (.tmp 1) rfl (.slice (some ⟨b', off', none⟩) n c') (by kernel_rfl)) S0.out ?_
        refine wpAnyH_take (i := 5) (v := _) rfl (by kernel_rfl) (by kernel_rfl) (by kernel_rfl) (fun _ _ _ h => h) (yieldsIf_move (by kernel_rfl) (.tmp 5) rfl (.int .i64 k) (by kernel_rfl)) S0.out ?_
        refine wpAnyH_take (i := 6) (v := .pointer (some ⟨b', off' + k * 3, none⟩)) rfl (by kernel_rfl) (by kernel_rfl) (by kernel_rfl) (fun _ _ _ h => h) (.inl ⟨by kernel_rfl, fun w _ => by go_simp⟩) S0.out ?_
        refine wpAnyH_take (i := 7) (v := _) rfl (by kernel_rfl) (by kernel_rfl) (by kernel_rfl) (fun _ _ _ h => h) (yieldsIf_load_mid (by kernel_rfl) _ (.tmp 23) rfl b' (off' + k * 3) (by kernel_rfl) cy _ (fun _ h => h.2) Tryd.underlying82 rfl (by rw [size_entry, LY.out])) S0.out ?_
        refine wpAnyH_one 8 _ (by kernel_rfl) rfl fun K hK => ?_
        go_simp
        refine hK _ _ S0.out ?_
        clear hK K
        refine wpAnyH_done (by kernel_rfl) ?_ _
        have HE : Hid (wj.drew = w.drewN (j + 1)) := by show _ = _; rw [HW.out]; exact World.drewN_drewN w j 1
        cases z
        · have hS := Lib.hid (ne_of_getA HX.out HY.out (by have := HZ.out; simpa using this.symm))
          go_wp2_with fail
          go_ret
          exact ⟨ret_bool hS.out.symm, _, HE.out.symm⟩
        · have hxy : x = y := by have := HZ.out; simpa using this.symm
          have hS : Hid (xs.take (k + 1) = ys.take (k + 1)) := take_eq_stepA HX.out (by rw [HY.out, hxy]) HT.out
          clear hxy
          go_wp2_with fail
          go_roundw
          case rel => exact ⟨k + 1, by omega, by go_num, hS, _, HE.out⟩
          case measure => simp [intOf]; omega
      · have hS := Lib.hid (eq_of_takeA (n := n) HL.out HL'.out (by have := HT.out; rwa [show k = n from by omega] at this))
        clear HT
        go_wp2
        go_ret
        exact ⟨ret_bool hS.out.symm, _, rfl⟩
  · have e1 : decide (xs = ys) = false := by
      rw [decide_eq_false_iff_not]
      rintro rfl
      omega
    have hne : ((n : Int) == (n' : Int)) = false := by simp; omega
    have hne' : ((n : Int) != (n' : Int)) = true := by simp; omega
    rw [e1]
    clear e1 hl hl'
    go_enter Tryd.func48, Tryd.ntmps48
    go_wp2
    go_ret
    exact ⟨rfl, 0, rfl⟩
end Go.Proofs.YtbbjmmooemmeiaaDoor

namespace Go.Proofs.YtbbjmmooemmeiaaDoor
set_option linter.all false
open Go.RowKit
set_option linter.unusedVariables false
theorem fld_say2 (g : Nat) (w : World) : (Instr.fieldAt 45 (.pointer (some ⟨g, 0, none⟩)) 2).run Tryd.prog w = .ok (.pointer (some ⟨g, 2, none⟩)) w := by go_simp
end Go.Proofs.YtbbjmmooemmeiaaDoor

namespace Go.Proofs.YtbbjmmooemmeiaaDoor
set_option linter.all false
set_option linter.unusedVariables false
set_option maxRecDepth 100000
def s8 (xs : List Int) := rdData xs rd0
end Go.Proofs.YtbbjmmooemmeiaaDoor

namespace Go.Proofs.YtbbjmmooemmeiaaDoor
set_option linter.all false
set_option linter.unusedVariables false
set_option linter.unusedSimpArgs false
set_option maxRecDepth 100000
theorem entryB_bytes (e : EntryV) : Bytes (entryB e) := (le_bytes _ _).append ((Bytes.zeros 2).append ((le_bytes _ _).append (ptextOf_bytes _)))
theorem entriesB_bytes (l : List EntryV) : Bytes (entriesB l) := by
  induction l with
  | nil => exact Bytes.nil
  | cons a r ih => exact (entryB_bytes a).append ih
end Go.Proofs.YtbbjmmooemmeiaaDoor

namespace Go.Proofs.YtbbjmmooemmeiaaDoor
set_option linter.all false
set_option linter.unusedVariables false
set_option linter.unusedSimpArgs false
set_option maxRecDepth 100000
theorem jp_bytes {c : Int} {a : SayV} (k : a.ok) : Bytes (jpOf c a) := by
  unfold jpOf
  split
  · unfold bodyIS
    split
    · exact (le_bytes _ _).append ((le_bytes _ _).append (entriesB_bytes _))
    · split
      · exact (le_bytes _ _).append ((le_bytes _ _).append (le_bytes _ _))
      · split
        · exact (le_bytes _ _).append ((le_bytes _ _).append (Bytes.zeros 3))
        · exact Bytes.zeros 4
  · exact Bytes.nil
theorem jp_len {c : Int} {a : SayV} : (jpOf c a).length ≤ 70000 := by
  unfold jpOf
  split
  · rename_i he
    obtain ⟨_, _, _, _, hl, _, _⟩ := jp_parts he
    have h1 := entriesB_le a.ents
    unfold bodyIS
    repeat' split
    all_goals (simp only [List.length_append, le_length, List.length_replicate]; omega)
  · simp
end Go.Proofs.YtbbjmmooemmeiaaDoor

namespace Go.Proofs.YtbbjmmooemmeiaaDoor
set_option linter.all false
open Go.RowKit
set_option linter.unusedVariables false
set_option maxRecDepth 100000 in
set_option maxHeartbeats 8000000 in
theorem Says_any (w : World) (cs ds : List Value) (a b : SayV) (ka : a.ok) (kb : b.ok) (ha : SayIs w w.heap.size cs a) (hb : SayIs w w.heap.size ds b) (la : a.data.length ≤ 281474976710656 ∧ a.ents.length ≤ 281474976710656) (lb : b.data.length ≤ 281474976710656 ∧ b.ents.length ≤ 281474976710656) :
    Calls Tryd.prog 19 #[.agg cs.toArray, .agg ds.toArray] w fun e w' => e = .returned (.bool (decide (a = b))) ∧ Below w.heap.size w w' := by
  obtain ⟨la2, la3⟩ := la
  obtain ⟨lb2, lb3⟩ := lb
  have HL := Lib.hid (ha.len ka)
  have HM := Lib.hid (hb.len kb)
  obtain ⟨A2, An2, Ac2, A3, An3, Ac3, rfl, hx2, hx3⟩ := ha
  obtain ⟨B2, Bn2, Bc2, B3, Bn3, Bc3, rfl, hy2, hy3⟩ := hb
  have bA2 : An2 ≤ 281474976710656 := by have := hx2.len; omega
  have bA3 : An3 ≤ 281474976710656 := by have := hx3.len; omega
  have bB2 : Bn2 ≤ 281474976710656 := by have := hy2.len; omega
  have bB3 : Bn3 ≤ 281474976710656 := by have := hy3.len; omega
  have CS : Hid (∀ w' : World, Below w.heap.size w w' → Calls Tryd.prog 13 #[.slice A2 An2 Ac2, .slice B2 Bn2 Bc2] w' fun e v => e = .returned (.bool (decide (a.data = b.data))) ∧ ∃ k, w'.drewN k = v) := fun w' hb => Same_any w' _ _ _ _ _ _ _ _ _ _ (hx2.below hb) (hy2.below hb)
  have CR : Hid (∀ w' : World, Below w.heap.size w w' → Calls Tryd.prog 48 #[.slice A3 An3 Ac3, .slice B3 Bn3 Bc3] w' fun e v => e = .returned (.bool (decide (a.ents = b.ents))) ∧ ∃ k, w'.drewN k = v) := fun w' hb => Entries_any w' _ _ _ _ _ _ _ _ _ _ (hx3.below hb) (hy3.below hb) bA3 bB3
  have f_dia : Hid (¬ a.dia = b.dia → decide (a = b) = false) := fun h => decide_eq_false fun he => h (by rw [he])
  have f_siz : Hid (¬ a.siz = b.siz → decide (a = b) = false) := fun h => decide_eq_false fun he => h (by rw [he])
  have f_chal : Hid (¬ a.chal = b.chal → decide (a = b) = false) := fun h => decide_eq_false fun he => h (by rw [he])
  have f_lev : Hid (¬ a.lev = b.lev → decide (a = b) = false) := fun h => decide_eq_false fun he => h (by rw [he])
  have f_dur : Hid (¬ a.dur = b.dur → decide (a = b) = false) := fun h => decide_eq_false fun he => h (by rw [he])
  have f_made : Hid (¬ a.made = b.made → decide (a = b) = false) := fun h => decide_eq_false fun he => h (by rw [he])
  have f_file : Hid (¬ a.file = b.file → decide (a = b) = false) := fun h => decide_eq_false fun he => h (by rw [he])
  have f_kind : Hid (¬ a.kind = b.kind → decide (a = b) = false) := fun h => decide_eq_false fun he => h (by rw [he])
  have f_data : Hid (¬ a.data = b.data → decide (a = b) = false) := fun h => decide_eq_false fun he => h (by rw [he])
  have f_n : Hid (¬ a.n = b.n → decide (a = b) = false) := fun h => decide_eq_false fun he => h (by rw [he])
  have f_ents : Hid (¬ a.ents = b.ents → decide (a = b) = false) := fun h => decide_eq_false fun he => h (by rw [he])
  have f_more : Hid (¬ a.more = b.more → decide (a = b) = false) := fun h => decide_eq_false fun he => h (by rw [he])
  have f_gone : Hid (¬ a.gone = b.gone → decide (a = b) = false) := fun h => decide_eq_false fun he => h (by rw [he])
  have HT : Hid (a.dia = b.dia → a.siz = b.siz → a.chal = b.chal → a.lev = b.lev → a.dur = b.dur → a.made = b.made → a.file = b.file → a.kind = b.kind → a.data = b.data → a.n = b.n → a.ents = b.ents → a.more = b.more → a.gone = b.gone → decide (a = b) = true) := by
    intro e0 e1 e2 e3 e4 e5 e6 e7 e8 e9 e10 e11 e12
    rw [decide_eq_true_iff]
    cases a; cases b
    simp only at e0 e1 e2 e3 e4 e5 e6 e7 e8 e9 e10 e11 e12
    subst e0 e1 e2 e3 e4 e5 e6 e7 e8 e9 e10 e11 e12
    rfl
  have q_chal : ∀ w : World, (Op.equalIn 10000 41 (.agg (a.chal.map (Value.int .u8)).toArray) (.agg (b.chal.map (Value.int .u8)).toArray)).run Tryd.prog w = .ok (decide (a.chal = b.chal)) w := fun w => run_equalIn_arr3 Tryd.underlying41 Tryd.underlying5 size_u8e a.chal b.chal ka.clen kb.clen 9998 w
  have qg_chal := guard_chal
  have RA_chal : Hid (∀ (w : World) (g : Nat), Blk w g 45 (scells (.slice A2 An2 Ac2) (.slice A3 An3 Ac3) a) → w.rangeAt g 2 (a.chal.map (Value.int .u8))) := fun w g h => scells_chal h ka
  have NA_chal : Hid ((a.chal.map (Value.int .u8)).length = 8) := by show _ = _; rw [List.length_map]; exact ka.clen
  have RB_chal : Hid (∀ (w : World) (g : Nat), Blk w g 45 (scells (.slice B2 Bn2 Bc2) (.slice B3 Bn3 Bc3) b) → w.rangeAt g 2 (b.chal.map (Value.int .u8))) := fun w g h => scells_chal h kb
  have NB_chal : Hid ((b.chal.map (Value.int .u8)).length = 8) := by show _ = _; rw [List.length_map]; exact kb.clen
  have FA : Hid (∀ (w : World) (g : Nat), Blk w g 45 (scells (.slice A2 An2 Ac2) (.slice A3 An3 Ac3) a) → w.cell? ⟨g, 0, none⟩ = some (.int .u16 a.dia) ∧ w.cell? ⟨g, 1, none⟩ = some (.int .u64 a.siz) ∧ w.cell? ⟨g, 10, none⟩ = some (.int .u8 a.lev) ∧ w.cell? ⟨g, 11, none⟩ = some (.int .u8 a.dur) ∧ w.cell? ⟨g, 12, none⟩ = some (.int .u16 a.made) ∧ w.cell? ⟨g, 13, none⟩ = some (.int .u64 a.file) ∧ w.cell? ⟨g, 14, none⟩ = some (.int .u8 a.kind) ∧ w.cell? ⟨g, 15, none⟩ = some (.slice A2 An2 Ac2) ∧ w.cell? ⟨g, 16, none⟩ = some (.int .u32 a.n) ∧ w.cell? ⟨g, 17, none⟩ = some (.slice A3 An3 Ac3) ∧ w.cell? ⟨g, 18, none⟩ = some (.bool a.more) ∧ w.cell? ⟨g, 19, none⟩ = some (.bool a.gone)) := fun w g h =>
    ⟨h.at rfl, h.at rfl, h.at (scells_get ka 0), h.at (scells_get ka 1), h.at (scells_get ka 2), h.at (scells_get ka 3), h.at (scells_get ka 4), h.at (scells_get ka 5), h.at (scells_get ka 6), h.at (scells_get ka 7), h.at (scells_get ka 8), h.at (scells_get ka 9)⟩
  have FB : Hid (∀ (w : World) (g : Nat), Blk w g 45 (scells (.slice B2 Bn2 Bc2) (.slice B3 Bn3 Bc3) b) → w.cell? ⟨g, 0, none⟩ = some (.int .u16 b.dia) ∧ w.cell? ⟨g, 1, none⟩ = some (.int .u64 b.siz) ∧ w.cell? ⟨g, 10, none⟩ = some (.int .u8 b.lev) ∧ w.cell? ⟨g, 11, none⟩ = some (.int .u8 b.dur) ∧ w.cell? ⟨g, 12, none⟩ = some (.int .u16 b.made) ∧ w.cell? ⟨g, 13, none⟩ = some (.int .u64 b.file) ∧ w.cell? ⟨g, 14, none⟩ = some (.int .u8 b.kind) ∧ w.cell? ⟨g, 15, none⟩ = some (.slice B2 Bn2 Bc2) ∧ w.cell? ⟨g, 16, none⟩ = some (.int .u32 b.n) ∧ w.cell? ⟨g, 17, none⟩ = some (.slice B3 Bn3 Bc3) ∧ w.cell? ⟨g, 18, none⟩ = some (.bool b.more) ∧ w.cell? ⟨g, 19, none⟩ = some (.bool b.gone)) := fun w g h =>
    ⟨h.at rfl, h.at rfl, h.at (scells_get kb 0), h.at (scells_get kb 1), h.at (scells_get kb 2), h.at (scells_get kb 3), h.at (scells_get kb 4), h.at (scells_get kb 5), h.at (scells_get kb 6), h.at (scells_get kb 7), h.at (scells_get kb 8), h.at (scells_get kb 9)⟩
  obtain ⟨z_chal, hz_chal⟩ : ∃ z, z = decide (a.chal = b.chal) := ⟨_, rfl⟩
  rw [← hz_chal] at q_chal
  have Z_chal := Lib.hid hz_chal
  clear hz_chal
  obtain ⟨la_chal, hl⟩ : ∃ l, l = a.chal.map (Value.int .u8) := ⟨_, rfl⟩
  rw [← hl] at q_chal RA_chal NA_chal
  clear hl
  obtain ⟨lb_chal, hl⟩ : ∃ l, l = b.chal.map (Value.int .u8) := ⟨_, rfl⟩
  rw [← hl] at q_chal RB_chal NB_chal
  clear hl
  obtain ⟨z_data, hz_data⟩ : ∃ z, z = decide (a.data = b.data) := ⟨_, rfl⟩
  rw [← hz_data] at CS
  have Z_data := Lib.hid hz_data
  clear hz_data
  obtain ⟨z_ents, hz_ents⟩ : ∃ z, z = decide (a.ents = b.ents) := ⟨_, rfl⟩
  rw [← hz_ents] at CR
  have Z_ents := Lib.hid hz_ents
  clear hz_ents
  obtain ⟨a_dia, ha_dia⟩ : ∃ x, x = a.dia := ⟨_, rfl⟩
  rw [← ha_dia] at FA f_dia HT
  obtain ⟨b_dia, hb_dia⟩ : ∃ x, x = b.dia := ⟨_, rfl⟩
  rw [← hb_dia] at FB f_dia HT
  obtain ⟨a_siz, ha_siz⟩ : ∃ x, x = a.siz := ⟨_, rfl⟩
  rw [← ha_siz] at FA f_siz HT
  obtain ⟨b_siz, hb_siz⟩ : ∃ x, x = b.siz := ⟨_, rfl⟩
  rw [← hb_siz] at FB f_siz HT
  obtain ⟨a_lev, ha_lev⟩ : ∃ x, x = a.lev := ⟨_, rfl⟩
  rw [← ha_lev] at FA f_lev HT
  obtain ⟨b_lev, hb_lev⟩ : ∃ x, x = b.lev := ⟨_, rfl⟩
  rw [← hb_lev] at FB f_lev HT
  obtain ⟨a_dur, ha_dur⟩ : ∃ x, x = a.dur := ⟨_, rfl⟩
  rw [← ha_dur] at FA f_dur HT
  obtain ⟨b_dur, hb_dur⟩ : ∃ x, x = b.dur := ⟨_, rfl⟩
  rw [← hb_dur] at FB f_dur HT
  obtain ⟨a_made, ha_made⟩ : ∃ x, x = a.made := ⟨_, rfl⟩
  rw [← ha_made] at FA f_made HT
  obtain ⟨b_made, hb_made⟩ : ∃ x, x = b.made := ⟨_, rfl⟩
  rw [← hb_made] at FB f_made HT
  obtain ⟨a_file, ha_file⟩ : ∃ x, x = a.file := ⟨_, rfl⟩
  rw [← ha_file] at FA f_file HT
  obtain ⟨b_file, hb_file⟩ : ∃ x, x = b.file := ⟨_, rfl⟩
  rw [← hb_file] at FB f_file HT
  obtain ⟨a_kind, ha_kind⟩ : ∃ x, x = a.kind := ⟨_, rfl⟩
  rw [← ha_kind] at FA f_kind HT
  obtain ⟨b_kind, hb_kind⟩ : ∃ x, x = b.kind := ⟨_, rfl⟩
  rw [← hb_kind] at FB f_kind HT
  obtain ⟨a_n, ha_n⟩ : ∃ x, x = a.n := ⟨_, rfl⟩
  rw [← ha_n] at FA f_n HT
  obtain ⟨b_n, hb_n⟩ : ∃ x, x = b.n := ⟨_, rfl⟩
  rw [← hb_n] at FB f_n HT
  obtain ⟨a_more, ha_more⟩ : ∃ x, x = a.more := ⟨_, rfl⟩
  rw [← ha_more] at FA f_more HT
  obtain ⟨b_more, hb_more⟩ : ∃ x, x = b.more := ⟨_, rfl⟩
  rw [← hb_more] at FB f_more HT
  obtain ⟨a_gone, ha_gone⟩ : ∃ x, x = a.gone := ⟨_, rfl⟩
  rw [← ha_gone] at FA f_gone HT
  obtain ⟨b_gone, hb_gone⟩ : ∃ x, x = b.gone := ⟨_, rfl⟩
  rw [← hb_gone] at FB f_gone HT
  obtain ⟨cs, hcs⟩ : ∃ c, c = scells (.slice A2 An2 Ac2) (.slice A3 An3 Ac3) a := ⟨_, rfl⟩
  rw [← hcs] at FA RA_chal HL ⊢
  obtain ⟨ds, hds⟩ : ∃ c, c = scells (.slice B2 Bn2 Bc2) (.slice B3 Bn3 Bc3) b := ⟨_, rfl⟩
  rw [← hds] at FB RB_chal HM ⊢
  obtain ⟨r, hr⟩ : ∃ r, r = decide (a = b) := ⟨_, rfl⟩
  rw [← hr] at HT f_dia f_siz f_chal f_lev f_dur f_made f_file f_kind f_data f_n f_ents f_more f_gone ⊢
  clear hr hcs hds ka kb ha_dia hb_dia ha_siz hb_siz ha_lev hb_lev ha_dur hb_dur ha_made hb_made ha_file hb_file ha_kind hb_kind ha_n hb_n ha_more hb_more ha_gone hb_gone hx2 hx3 hy2 hy3 la2 la3 lb2 lb3 bA2 bA3 bB2 bB3
  go_enter Tryd.func19, Tryd.ntmps19
  simp only [List.append_eq, List.cons_append, List.nil_append]
  by_cases t_dia : a_dia = b_dia
  rotate_left
  · have nb : (a_dia == b_dia) = false := by simpa using t_dia
    have RS := Lib.hid (f_dia.out t_dia)
    clear t_dia
    go_wp2_with (first | ((with_reducible show wpList _ _ _ (⟨some 2, _, _, _, _, _⟩ :: _) _ _); refine wpList_box_blk rfl _ (.tmp 0) rfl cs rfl ?_; intro g w1 hg1 hg2 K0 L1) | ((with_reducible show wpList _ _ _ (⟨some 3, _, _, _, _, _⟩ :: _) _ _); refine wpList_box_blk rfl _ (.tmp 1) rfl ds rfl ?_; intro h w2 hg3 hg4 K2 L2'; have K1 := Lib.hid (K0.out.over L2'.out); have L2 := Lib.hid (step L1.out L2'.out); obtain ⟨ca_dia, ca_siz, ca_lev, ca_dur, ca_made, ca_file, ca_kind, ca_data, ca_n, ca_ents, ca_more, ca_gone⟩ := FA.out _ _ K1.out; obtain ⟨cb_dia, cb_siz, cb_lev, cb_dur, cb_made, cb_file, cb_kind, cb_data, cb_n, cb_ents, cb_more, cb_gone⟩ := FB.out _ _ K2.out; have rA_chal := Lib.hid (RA_chal.out _ _ K1.out); have rB_chal := Lib.hid (RB_chal.out _ _ K2.out)) | fail)
    go_ret
    exact ⟨ret_bool RS.out.symm, L2.out⟩
  have nb_dia : (a_dia == b_dia) = true := by simpa using t_dia
  have e_dia := Lib.hid t_dia
  clear t_dia
  by_cases t_siz : a_siz = b_siz
  rotate_left
  · have nb : (a_siz == b_siz) = false := by simpa using t_siz
    have RS := Lib.hid (f_siz.out t_siz)
    clear t_siz
    go_wp2_with (first | ((with_reducible show wpList _ _ _ (⟨some 2, _, _, _, _, _⟩ :: _) _ _); refine wpList_box_blk rfl _ (.tmp 0) rfl cs rfl ?_; intro g w1 hg1 hg2 K0 L1) | ((with_reducible show wpList _ _ _ (⟨some 3, _, _, _, _, _⟩ :: _) _ _); refine wpList_box_blk rfl _ (.tmp 1) rfl ds rfl ?_; intro h w2 hg3 hg4 K2 L2'; have K1 := Lib.hid (K0.out.over L2'.out); have L2 := Lib.hid (step L1.out L2'.out); obtain ⟨ca_dia, ca_siz, ca_lev, ca_dur, ca_made, ca_file, ca_kind, ca_data, ca_n, ca_ents, ca_more, ca_gone⟩ := FA.out _ _ K1.out; obtain ⟨cb_dia, cb_siz, cb_lev, cb_dur, cb_made, cb_file, cb_kind, cb_data, cb_n, cb_ents, cb_more, cb_gone⟩ := FB.out _ _ K2.out; have rA_chal := Lib.hid (RA_chal.out _ _ K1.out); have rB_chal := Lib.hid (RB_chal.out _ _ K2.out)) | fail)
    go_ret
    exact ⟨ret_bool RS.out.symm, L2.out⟩
  have nb_siz : (a_siz == b_siz) = true := by simpa using t_siz
  have e_siz := Lib.hid t_siz
  clear t_siz
  cases z_chal
  · have ne : ¬ a.chal = b.chal := by have := Z_chal.out; simpa using this.symm
    have RS := Lib.hid (f_chal.out ne)
    clear ne
    go_wp2_with (first | ((with_reducible show wpList _ _ _ (⟨some 2, _, _, _, _, _⟩ :: _) _ _); refine wpList_box_blk rfl _ (.tmp 0) rfl cs rfl ?_; intro g w1 hg1 hg2 K0 L1) | ((with_reducible show wpList _ _ _ (⟨some 3, _, _, _, _, _⟩ :: _) _ _); refine wpList_box_blk rfl _ (.tmp 1) rfl ds rfl ?_; intro h w2 hg3 hg4 K2 L2'; have K1 := Lib.hid (K0.out.over L2'.out); have L2 := Lib.hid (step L1.out L2'.out); obtain ⟨ca_dia, ca_siz, ca_lev, ca_dur, ca_made, ca_file, ca_kind, ca_data, ca_n, ca_ents, ca_more, ca_gone⟩ := FA.out _ _ K1.out; obtain ⟨cb_dia, cb_siz, cb_lev, cb_dur, cb_made, cb_file, cb_kind, cb_data, cb_n, cb_ents, cb_more, cb_gone⟩ := FB.out _ _ K2.out; have rA_chal := Lib.hid (RA_chal.out _ _ K1.out); have rB_chal := Lib.hid (RB_chal.out _ _ K2.out)) | (first | ((with_reducible show wpList _ _ _ (⟨some 18, _, _, _, _, _⟩ :: _) _ _); refine wpList_fld_w (by kernel_rfl) _ (.tmp 2) 2 rfl (.pointer (some ⟨g, 0, none⟩)) (.pointer (some ⟨g, 2, none⟩)) (by kernel_rfl) (fld_say2 g) ?_) | ((with_reducible show wpList _ _ _ (⟨some 19, _, _, _, _, _⟩ :: _) _ _); refine wpList_load_midw (by kernel_rfl) _ (.tmp 18) rfl g 2 rfl la_chal _ rA_chal Tryd.underlying41 rfl 8 size_chal NA_chal ?_) | ((with_reducible show wpList _ _ _ (⟨some 20, _, _, _, _, _⟩ :: _) _ _); refine wpList_fld_w (by kernel_rfl) _ (.tmp 3) 2 rfl (.pointer (some ⟨h, 0, none⟩)) (.pointer (some ⟨h, 2, none⟩)) (by kernel_rfl) (fld_say2 h) ?_) | ((with_reducible show wpList _ _ _ (⟨some 21, _, _, _, _, _⟩ :: _) _ _); refine wpList_load_midw (by kernel_rfl) _ (.tmp 20) rfl h 2 rfl lb_chal _ rB_chal Tryd.underlying41 rfl 8 size_chal NB_chal ?_) | fail))
    go_ret
    exact ⟨ret_bool RS.out.symm, L2.out⟩
  · have e_chal : Hid (a.chal = b.chal) := by have := Z_chal.out; show _ = _; simpa using this.symm
    by_cases t_lev : a_lev = b_lev
    rotate_left
    · have nb : (a_lev == b_lev) = false := by simpa using t_lev
      have RS := Lib.hid (f_lev.out t_lev)
      clear t_lev
      go_wp2_with (first | ((with_reducible show wpList _ _ _ (⟨some 2, _, _, _, _, _⟩ :: _) _ _); refine wpList_box_blk rfl _ (.tmp 0) rfl cs rfl ?_; intro g w1 hg1 hg2 K0 L1) | ((with_reducible show wpList _ _ _ (⟨some 3, _, _, _, _, _⟩ :: _) _ _); refine wpList_box_blk rfl _ (.tmp 1) rfl ds rfl ?_; intro h w2 hg3 hg4 K2 L2'; have K1 := Lib.hid (K0.out.over L2'.out); have L2 := Lib.hid (step L1.out L2'.out); obtain ⟨ca_dia, ca_siz, ca_lev, ca_dur, ca_made, ca_file, ca_kind, ca_data, ca_n, ca_ents, ca_more, ca_gone⟩ := FA.out _ _ K1.out; obtain ⟨cb_dia, cb_siz, cb_lev, cb_dur, cb_made, cb_file, cb_kind, cb_data, cb_n, cb_ents, cb_more, cb_gone⟩ := FB.out _ _ K2.out; have rA_chal := Lib.hid (RA_chal.out _ _ K1.out); have rB_chal := Lib.hid (RB_chal.out _ _ K2.out)) | (first | ((with_reducible show wpList _ _ _ (⟨some 18, _, _, _, _, _⟩ :: _) _ _); refine wpList_fld_w (by kernel_rfl) _ (.tmp 2) 2 rfl (.pointer (some ⟨g, 0, none⟩)) (.pointer (some ⟨g, 2, none⟩)) (by kernel_rfl) (fld_say2 g) ?_) | ((with_reducible show wpList _ _ _ (⟨some 19, _, _, _, _, _⟩ :: _) _ _); refine wpList_load_midw (by kernel_rfl) _ (.tmp 18) rfl g 2 rfl la_chal _ rA_chal Tryd.underlying41 rfl 8 size_chal NA_chal ?_) | ((with_reducible show wpList _ _ _ (⟨some 20, _, _, _, _, _⟩ :: _) _ _); refine wpList_fld_w (by kernel_rfl) _ (.tmp 3) 2 rfl (.pointer (some ⟨h, 0, none⟩)) (.pointer (some ⟨h, 2, none⟩)) (by kernel_rfl) (fld_say2 h) ?_) | ((with_reducible show wpList _ _ _ (⟨some 21, _, _, _, _, _⟩ :: _) _ _); refine wpList_load_midw (by kernel_rfl) _ (.tmp 20) rfl h 2 rfl lb_chal _ rB_chal Tryd.underlying41 rfl 8 size_chal NB_chal ?_) | fail))
      go_ret
      exact ⟨ret_bool RS.out.symm, L2.out⟩
    have nb_lev : (a_lev == b_lev) = true := by simpa using t_lev
    have e_lev := Lib.hid t_lev
    clear t_lev
    by_cases t_dur : a_dur = b_dur
    rotate_left
    · have nb : (a_dur == b_dur) = false := by simpa using t_dur
      have RS := Lib.hid (f_dur.out t_dur)
      clear t_dur
      go_wp2_with (first | ((with_reducible show wpList _ _ _ (⟨some 2, _, _, _, _, _⟩ :: _) _ _); refine wpList_box_blk rfl _ (.tmp 0) rfl cs rfl ?_; intro g w1 hg1 hg2 K0 L1) | ((with_reducible show wpList _ _ _ (⟨some 3, _, _, _, _, _⟩ :: _) _ _); refine wpList_box_blk rfl _ (.tmp 1) rfl ds rfl ?_; intro h w2 hg3 hg4 K2 L2'; have K1 := Lib.hid (K0.out.over L2'.out); have L2 := Lib.hid (step L1.out L2'.out); obtain ⟨ca_dia, ca_siz, ca_lev, ca_dur, ca_made, ca_file, ca_kind, ca_data, ca_n, ca_ents, ca_more, ca_gone⟩ := FA.out _ _ K1.out; obtain ⟨cb_dia, cb_siz, cb_lev, cb_dur, cb_made, cb_file, cb_kind, cb_data, cb_n, cb_ents, cb_more, cb_gone⟩ := FB.out _ _ K2.out; have rA_chal := Lib.hid (RA_chal.out _ _ K1.out); have rB_chal := Lib.hid (RB_chal.out _ _ K2.out)) | (first | ((with_reducible show wpList _ _ _ (⟨some 18, _, _, _, _, _⟩ :: _) _ _); refine wpList_fld_w (by kernel_rfl) _ (.tmp 2) 2 rfl (.pointer (some ⟨g, 0, none⟩)) (.pointer (some ⟨g, 2, none⟩)) (by kernel_rfl) (fld_say2 g) ?_) | ((with_reducible show wpList _ _ _ (⟨some 19, _, _, _, _, _⟩ :: _) _ _); refine wpList_load_midw (by kernel_rfl) _ (.tmp 18) rfl g 2 rfl la_chal _ rA_chal Tryd.underlying41 rfl 8 size_chal NA_chal ?_) | ((with_reducible show wpList _ _ _ (⟨some 20, _, _, _, _, _⟩ :: _) _ _); refine wpList_fld_w (by kernel_rfl) _ (.tmp 3) 2 rfl (.pointer (some ⟨h, 0, none⟩)) (.pointer (some ⟨h, 2, none⟩)) (by kernel_rfl) (fld_say2 h) ?_) | ((with_reducible show wpList _ _ _ (⟨some 21, _, _, _, _, _⟩ :: _) _ _); refine wpList_load_midw (by kernel_rfl) _ (.tmp 20) rfl h 2 rfl lb_chal _ rB_chal Tryd.underlying41 rfl 8 size_chal NB_chal ?_) | fail))
      go_ret
      exact ⟨ret_bool RS.out.symm, L2.out⟩
    have nb_dur : (a_dur == b_dur) = true := by simpa using t_dur
    have e_dur := Lib.hid t_dur
    clear t_dur
    by_cases t_made : a_made = b_made
    rotate_left
    · have nb : (a_made == b_made) = false := by simpa using t_made
      have RS := Lib.hid (f_made.out t_made)
      clear t_made
      go_wp2_with (first | ((with_reducible show wpList _ _ _ (⟨some 2, _, _, _, _, _⟩ :: _) _ _); refine wpList_box_blk rfl _ (.tmp 0) rfl cs rfl ?_; intro g w1 hg1 hg2 K0 L1) | ((with_reducible show wpList _ _ _ (⟨some 3, _, _, _, _, _⟩ :: _) _ _); refine wpList_box_blk rfl _ (.tmp 1) rfl ds rfl ?_; intro h w2 hg3 hg4 K2 L2'; have K1 := Lib.hid (K0.out.over L2'.out); have L2 := Lib.hid (step L1.out L2'.out); obtain ⟨ca_dia, ca_siz, ca_lev, ca_dur, ca_made, ca_file, ca_kind, ca_data, ca_n, ca_ents, ca_more, ca_gone⟩ := FA.out _ _ K1.out; obtain ⟨cb_dia, cb_siz, cb_lev, cb_dur, cb_made, cb_file, cb_kind, cb_data, cb_n, cb_ents, cb_more, cb_gone⟩ := FB.out _ _ K2.out; have rA_chal := Lib.hid (RA_chal.out _ _ K1.out); have rB_chal := Lib.hid (RB_chal.out _ _ K2.out)) | (first | ((with_reducible show wpList _ _ _ (⟨some 18, _, _, _, _, _⟩ :: _) _ _); refine wpList_fld_w (by kernel_rfl) _ (.tmp 2) 2 rfl (.pointer (some ⟨g, 0, none⟩)) (.pointer (some ⟨g, 2, none⟩)) (by kernel_rfl) (fld_say2 g) ?_) | ((with_reducible show wpList _ _ _ (⟨some 19, _, _, _, _, _⟩ :: _) _ _); refine wpList_load_midw (by kernel_rfl) _ (.tmp 18) rfl g 2 rfl la_chal _ rA_chal Tryd.underlying41 rfl 8 size_chal NA_chal ?_) | ((with_reducible show wpList _ _ _ (⟨some 20, _, _, _, _, _⟩ :: _) _ _); refine wpList_fld_w (by kernel_rfl) _ (.tmp 3) 2 rfl (.pointer (some ⟨h, 0, none⟩)) (.pointer (some ⟨h, 2, none⟩)) (by kernel_rfl) (fld_say2 h) ?_) | ((with_reducible show wpList _ _ _ (⟨some 21, _, _, _, _, _⟩ :: _) _ _); refine wpList_load_midw (by kernel_rfl) _ (.tmp 20) rfl h 2 rfl lb_chal _ rB_chal Tryd.underlying41 rfl 8 size_chal NB_chal ?_) | fail))
      go_ret
      exact ⟨ret_bool RS.out.symm, L2.out⟩
    have nb_made : (a_made == b_made) = true := by simpa using t_made
    have e_made := Lib.hid t_made
    clear t_made
    by_cases t_file : a_file = b_file
    rotate_left
    · have nb : (a_file == b_file) = false := by simpa using t_file
      have RS := Lib.hid (f_file.out t_file)
      clear t_file
      go_wp2_with (first | ((with_reducible show wpList _ _ _ (⟨some 2, _, _, _, _, _⟩ :: _) _ _); refine wpList_box_blk rfl _ (.tmp 0) rfl cs rfl ?_; intro g w1 hg1 hg2 K0 L1) | ((with_reducible show wpList _ _ _ (⟨some 3, _, _, _, _, _⟩ :: _) _ _); refine wpList_box_blk rfl _ (.tmp 1) rfl ds rfl ?_; intro h w2 hg3 hg4 K2 L2'; have K1 := Lib.hid (K0.out.over L2'.out); have L2 := Lib.hid (step L1.out L2'.out); obtain ⟨ca_dia, ca_siz, ca_lev, ca_dur, ca_made, ca_file, ca_kind, ca_data, ca_n, ca_ents, ca_more, ca_gone⟩ := FA.out _ _ K1.out; obtain ⟨cb_dia, cb_siz, cb_lev, cb_dur, cb_made, cb_file, cb_kind, cb_data, cb_n, cb_ents, cb_more, cb_gone⟩ := FB.out _ _ K2.out; have rA_chal := Lib.hid (RA_chal.out _ _ K1.out); have rB_chal := Lib.hid (RB_chal.out _ _ K2.out)) | (first | ((with_reducible show wpList _ _ _ (⟨some 18, _, _, _, _, _⟩ :: _) _ _); refine wpList_fld_w (by kernel_rfl) _ (.tmp 2) 2 rfl (.pointer (some ⟨g, 0, none⟩)) (.pointer (some ⟨g, 2, none⟩)) (by kernel_rfl) (fld_say2 g) ?_) | ((with_reducible show wpList _ _ _ (⟨some 19, _, _, _, _, _⟩ :: _) _ _); refine wpList_load_midw (by kernel_rfl) _ (.tmp 18) rfl g 2 rfl la_chal _ rA_chal Tryd.underlying41 rfl 8 size_chal NA_chal ?_) | ((with_reducible show wpList _ _ _ (⟨some 20, _, _, _, _, _⟩ :: _) _ _); refine wpList_fld_w (by kernel_rfl) _ (.tmp 3) 2 rfl (.pointer (some ⟨h, 0, none⟩)) (.pointer (some ⟨h, 2, none⟩)) (by kernel_rfl) (fld_say2 h) ?_) | ((with_reducible show wpList _ _ _ (⟨some 21, _, _, _, _, _⟩ :: _) _ _); refine wpList_load_midw (by kernel_rfl) _ (.tmp 20) rfl h 2 rfl lb_chal _ rB_chal Tryd.underlying41 rfl 8 size_chal NB_chal ?_) | fail))
      go_ret
      exact ⟨ret_bool RS.out.symm, L2.out⟩
    have nb_file : (a_file == b_file) = true := by simpa using t_file
    have e_file := Lib.hid t_file
    clear t_file
    by_cases t_kind : a_kind = b_kind
    rotate_left
    · have nb : (a_kind == b_kind) = false := by simpa using t_kind
      have RS := Lib.hid (f_kind.out t_kind)
      clear t_kind
      go_wp2_with (first | ((with_reducible show wpList _ _ _ (⟨some 2, _, _, _, _, _⟩ :: _) _ _); refine wpList_box_blk rfl _ (.tmp 0) rfl cs rfl ?_; intro g w1 hg1 hg2 K0 L1) | ((with_reducible show wpList _ _ _ (⟨some 3, _, _, _, _, _⟩ :: _) _ _); refine wpList_box_blk rfl _ (.tmp 1) rfl ds rfl ?_; intro h w2 hg3 hg4 K2 L2'; have K1 := Lib.hid (K0.out.over L2'.out); have L2 := Lib.hid (step L1.out L2'.out); obtain ⟨ca_dia, ca_siz, ca_lev, ca_dur, ca_made, ca_file, ca_kind, ca_data, ca_n, ca_ents, ca_more, ca_gone⟩ := FA.out _ _ K1.out; obtain ⟨cb_dia, cb_siz, cb_lev, cb_dur, cb_made, cb_file, cb_kind, cb_data, cb_n, cb_ents, cb_more, cb_gone⟩ := FB.out _ _ K2.out; have rA_chal := Lib.hid (RA_chal.out _ _ K1.out); have rB_chal := Lib.hid (RB_chal.out _ _ K2.out)) | (first | ((with_reducible show wpList _ _ _ (⟨some 18, _, _, _, _, _⟩ :: _) _ _); refine wpList_fld_w (by kernel_rfl) _ (.tmp 2) 2 rfl (.pointer (some ⟨g, 0, none⟩)) (.pointer (some ⟨g, 2, none⟩)) (by kernel_rfl) (fld_say2 g) ?_) | ((with_reducible show wpList _ _ _ (⟨some 19, _, _, _, _, _⟩ :: _) _ _); refine wpList_load_midw (by kernel_rfl) _ (.tmp 18) rfl g 2 rfl la_chal _ rA_chal Tryd.underlying41 rfl 8 size_chal NA_chal ?_) | ((with_reducible show wpList _ _ _ (⟨some 20, _, _, _, _, _⟩ :: _) _ _); refine wpList_fld_w (by kernel_rfl) _ (.tmp 3) 2 rfl (.pointer (some ⟨h, 0, none⟩)) (.pointer (some ⟨h, 2, none⟩)) (by kernel_rfl) (fld_say2 h) ?_) | ((with_reducible show wpList _ _ _ (⟨some 21, _, _, _, _, _⟩ :: _) _ _); refine wpList_load_midw (by kernel_rfl) _ (.tmp 20) rfl h 2 rfl lb_chal _ rB_chal Tryd.underlying41 rfl 8 size_chal NB_chal ?_) | fail))
      go_ret
      exact ⟨ret_bool RS.out.symm, L2.out⟩
    have nb_kind : (a_kind == b_kind) = true := by simpa using t_kind
    have e_kind := Lib.hid t_kind
    clear t_kind
    go_wp2_with (first | ((with_reducible show wpList _ _ _ (⟨some 2, _, _, _, _, _⟩ :: _) _ _); refine wpList_box_blk rfl _ (.tmp 0) rfl cs rfl ?_; intro g w1 hg1 hg2 K0 L1) | ((with_reducible show wpList _ _ _ (⟨some 3, _, _, _, _, _⟩ :: _) _ _); refine wpList_box_blk rfl _ (.tmp 1) rfl ds rfl ?_; intro h w2 hg3 hg4 K2 L2'; have K1 := Lib.hid (K0.out.over L2'.out); have L2 := Lib.hid (step L1.out L2'.out); obtain ⟨ca_dia, ca_siz, ca_lev, ca_dur, ca_made, ca_file, ca_kind, ca_data, ca_n, ca_ents, ca_more, ca_gone⟩ := FA.out _ _ K1.out; obtain ⟨cb_dia, cb_siz, cb_lev, cb_dur, cb_made, cb_file, cb_kind, cb_data, cb_n, cb_ents, cb_more, cb_gone⟩ := FB.out _ _ K2.out; have rA_chal := Lib.hid (RA_chal.out _ _ K1.out); have rB_chal := Lib.hid (RB_chal.out _ _ K2.out)) | (first | ((with_reducible show wpList _ _ _ (⟨some 18, _, _, _, _, _⟩ :: _) _ _); refine wpList_fld_w (by kernel_rfl) _ (.tmp 2) 2 rfl (.pointer (some ⟨g, 0, none⟩)) (.pointer (some ⟨g, 2, none⟩)) (by kernel_rfl) (fld_say2 g) ?_) | ((with_reducible show wpList _ _ _ (⟨some 19, _, _, _, _, _⟩ :: _) _ _); refine wpList_load_midw (by kernel_rfl) _ (.tmp 18) rfl g 2 rfl la_chal _ rA_chal Tryd.underlying41 rfl 8 size_chal NA_chal ?_) | ((with_reducible show wpList _ _ _ (⟨some 20, _, _, _, _, _⟩ :: _) _ _); refine wpList_fld_w (by kernel_rfl) _ (.tmp 3) 2 rfl (.pointer (some ⟨h, 0, none⟩)) (.pointer (some ⟨h, 2, none⟩)) (by kernel_rfl) (fld_say2 h) ?_) | ((with_reducible show wpList _ _ _ (⟨some 21, _, _, _, _, _⟩ :: _) _ _); refine wpList_load_midw (by kernel_rfl) _ (.tmp 20) rfl h 2 rfl lb_chal _ rB_chal Tryd.underlying41 rfl 8 size_chal NB_chal ?_) | fail))
    refine (CS.out _ L2.out).mono ?_
    rintro e w' ⟨rfl, j_data, rfl⟩
    have K1_data' := K1.out.drewN j_data
    have K2_data' := K2.out.drewN j_data
    have L_data' := below_drewN L2.out j_data
    obtain ⟨w_data, hw_data⟩ : ∃ v, v = World.drewN w2 j_data := ⟨_, rfl⟩
    rw [← hw_data] at K1_data' K2_data' L_data' ⊢
    have K1_data := Lib.hid K1_data'
    have K2_data := Lib.hid K2_data'
    have L_data := Lib.hid L_data'
    clear hw_data K1_data' K2_data' L_data' ca_dia cb_dia ca_siz cb_siz ca_lev cb_lev ca_dur cb_dur ca_made cb_made ca_file cb_file ca_kind cb_kind ca_data cb_data ca_n cb_n ca_ents cb_ents ca_more cb_more ca_gone cb_gone
    clear rA_chal rB_chal
    cases z_data
    · have ne : ¬ a.data = b.data := by have := Z_data.out; simpa using this.symm
      have RS := Lib.hid (f_data.out ne)
      clear ne
      go_wp2_with fail
      go_ret
      exact ⟨ret_bool RS.out.symm, L_data.out⟩
    · have e_data : Hid (a.data = b.data) := by have := Z_data.out; show _ = _; simpa using this.symm
      obtain ⟨ca_dia, ca_siz, ca_lev, ca_dur, ca_made, ca_file, ca_kind, ca_data, ca_n, ca_ents, ca_more, ca_gone⟩ := FA.out _ _ K1_data.out
      obtain ⟨cb_dia, cb_siz, cb_lev, cb_dur, cb_made, cb_file, cb_kind, cb_data, cb_n, cb_ents, cb_more, cb_gone⟩ := FB.out _ _ K2_data.out
      have rA_chal := Lib.hid (RA_chal.out _ _ K1_data.out)
      have rB_chal := Lib.hid (RB_chal.out _ _ K2_data.out)
      by_cases t_n : a_n = b_n
      rotate_left
      · have nb : (a_n == b_n) = false := by simpa using t_n
        have RS := Lib.hid (f_n.out t_n)
        clear t_n
        go_wp2_with fail
        go_ret
        exact ⟨ret_bool RS.out.symm, L_data.out⟩
      have nb_n : (a_n == b_n) = true := by simpa using t_n
      have e_n := Lib.hid t_n
      clear t_n
      go_wp2_with fail
      refine (CR.out _ L_data.out).mono ?_
      rintro e w' ⟨rfl, j_ents, rfl⟩
      have K1_ents' := K1_data.out.drewN j_ents
      have K2_ents' := K2_data.out.drewN j_ents
      have L_ents' := below_drewN L_data.out j_ents
      obtain ⟨w_ents, hw_ents⟩ : ∃ v, v = World.drewN w_data j_ents := ⟨_, rfl⟩
      rw [← hw_ents] at K1_ents' K2_ents' L_ents' ⊢
      have K1_ents := Lib.hid K1_ents'
      have K2_ents := Lib.hid K2_ents'
      have L_ents := Lib.hid L_ents'
      clear hw_ents K1_ents' K2_ents' L_ents' ca_dia cb_dia ca_siz cb_siz ca_lev cb_lev ca_dur cb_dur ca_made cb_made ca_file cb_file ca_kind cb_kind ca_data cb_data ca_n cb_n ca_ents cb_ents ca_more cb_more ca_gone cb_gone
      clear rA_chal rB_chal
      cases z_ents
      · have ne : ¬ a.ents = b.ents := by have := Z_ents.out; simpa using this.symm
        have RS := Lib.hid (f_ents.out ne)
        clear ne
        go_wp2_with fail
        go_ret
        exact ⟨ret_bool RS.out.symm, L_ents.out⟩
      · have e_ents : Hid (a.ents = b.ents) := by have := Z_ents.out; show _ = _; simpa using this.symm
        obtain ⟨ca_dia, ca_siz, ca_lev, ca_dur, ca_made, ca_file, ca_kind, ca_data, ca_n, ca_ents, ca_more, ca_gone⟩ := FA.out _ _ K1_ents.out
        obtain ⟨cb_dia, cb_siz, cb_lev, cb_dur, cb_made, cb_file, cb_kind, cb_data, cb_n, cb_ents, cb_more, cb_gone⟩ := FB.out _ _ K2_ents.out
        have rA_chal := Lib.hid (RA_chal.out _ _ K1_ents.out)
        have rB_chal := Lib.hid (RB_chal.out _ _ K2_ents.out)
        by_cases t_more : a_more = b_more
        rotate_left
        · have nb : (a_more == b_more) = false := by simpa using t_more
          have RS := Lib.hid (f_more.out t_more)
          clear t_more
          go_wp2_with fail
          go_ret
          exact ⟨ret_bool RS.out.symm, L_ents.out⟩
        have nb_more : (a_more == b_more) = true := by simpa using t_more
        have e_more := Lib.hid t_more
        clear t_more
        by_cases t_gone : a_gone = b_gone
        rotate_left
        · have nb : (a_gone == b_gone) = false := by simpa using t_gone
          have RS := Lib.hid (f_gone.out t_gone)
          clear t_gone
          go_wp2_with fail
          go_ret
          exact ⟨ret_bool RS.out.symm, L_ents.out⟩
        have nb_gone : (a_gone == b_gone) = true := by simpa using t_gone
        have e_gone := Lib.hid t_gone
        clear t_gone
        go_wp2_with fail
        go_ret
        exact ⟨ret_bool (HT.out e_dia.out e_siz.out e_chal.out e_lev.out e_dur.out e_made.out e_file.out e_kind.out e_data.out e_n.out e_ents.out e_more.out e_gone.out).symm, L_ents.out⟩
end Go.Proofs.YtbbjmmooemmeiaaDoor

namespace Go.Proofs.YtbbjmmooemmeiaaDoor
set_option linter.all false
open Go.RowKit Go.ChangeShapes Go.WideShapes
set_option linter.unusedVariables false
set_option maxRecDepth 100000
section
variable {H : Type} {enc : TypeId × Value → H} {P : Program} {W : World} {base : Nat} {t e : TypeId} {v : Value} {d : DataW H} {p : List MemPlace}
/-- a slice of structs among the cells: all of its room -/
theorem trod_rows_w {α : Type} [Inhabited α] {f : α → List Value} {s : Nat} {ok : α → Prop} {g : α → Nat} {fuel : Nat} {cs : List Value} {x : DataW H × List MemPlace} (ht : P.underlying t = some (.slice e)) (hc : P.cellsOf e = s) (hs : 0 < s) (hfl : ∀ y, (f y).length = s)
    (hel : ∀ (n : Nat) (cs : List Value) (x : DataW H × List MemPlace), DataW.trod enc P W 0 (fun _ => true) true n e cs = some x → ∃ y : α, cs = f y ∧ ok y ∧ g y < Rows.uptoBulk x.1)
    (hf : DataW.trod enc P W 0 (fun _ => true) true fuel t cs = some x) :
    ∃ A n c zs, cs = [.slice A n c] ∧ n ≤ c ∧ c < Rows.uptoBulk x.1 ∧ HoldsS f s W W.heap.size A c c zs ∧ (∀ z ∈ zs, ok z) ∧ ∀ z ∈ zs, g z < Rows.uptoBulk x.1 := by
  rcases Go.Deep.open_slice ht hf with ⟨hcs, hx⟩ | ⟨a, len, cap, m, n, D, Pl, hcs, _, hl, hm, hmm, hx, hcell⟩
  · exact ⟨none, 0, 0, [], hcs, Nat.le_refl _, bulk_one_le _, HoldsS.nil _ _ _ _, (fun z h => by cases h), fun z h => by cases h⟩
  · subst hx
    simp only [if_true] at hmm
    subst hmm
    rw [hc] at hcell
    have each : ∀ i, i < m → ∃ y : α, W.cells? 0 (a.add (i * s)) s = some (f y) ∧ ok y ∧ g y < Rows.uptoBulk (D i) := fun i hi => by
      obtain ⟨cs', h1, h2⟩ := hcell i hi
      obtain ⟨y, rfl, hy⟩ := hel _ _ _ h2
      exact ⟨y, h1, hy⟩
    obtain ⟨Y, hY⟩ := Go.Deep.choose_lt each
    refine ⟨some a, len, m, (List.range m).map Y, hcs, hl, ?_, ⟨by simp, Nat.le_refl _, (fun hA => by cases hA), fun h0 => ?_⟩, fun z hz => ?_, fun z hz => ?_⟩
    · have h1 := bulk_length_le ((List.range len).map D)
      have h2 := bulk_length_le ((List.range (m - len)).map fun j => D (len + j))
      rw [List.length_map, List.length_range] at h1 h2
      simp only [Rows.uptoBulk]
      omega
    · obtain ⟨b, off, spot⟩ := a
      obtain ⟨_, h01, h02⟩ := World.cells?_some (hY 0 h0).1
      have hf0 : 0 < (f (Y 0)).length := by rw [hfl]; exact hs
      have h03 := h02 0 (by omega)
      rw [List.getElem?_eq_getElem hf0] at h03
      have hspot : spot = none := by simpa [Addr.add] using World.cell?_spot h03
      subst hspot
      have add_at : ∀ i, (⟨b, off, none⟩ : Addr).add i = ⟨b, off + i, none⟩ := fun i => by
        by_cases hj0 : i = 0
        · subst hj0; simp [Addr.add]
        · simp [Addr.add, hj0]
      have add_at2 : ∀ i j, (⟨b, off + i, none⟩ : Addr).add j = ⟨b, off + (i + j), none⟩ := fun i j => by
        by_cases hj0 : j = 0
        · subst hj0; simp [Addr.add]
        · simp [Addr.add, hj0, Nat.add_assoc]
      refine ⟨b, off, rfl, ?_, fun i z hi j u hj => ?_⟩
      · have := World.block_lt_of_cell? W _ h03
        simpa [Addr.add] using this
      · rw [List.getElem?_map] at hi
        have him : i < m := by
          rcases Nat.lt_or_ge i m with h | h
          · exact h
          · rw [List.getElem?_eq_none (by simpa using h)] at hi; cases hi
        rw [List.getElem?_range him] at hi
        injection hi with hi
        subst hi
        obtain ⟨_, _, h2⟩ := World.cells?_some (hY i him).1
        have hjl : j < s := by rw [← hfl (Y i)]; exact (List.getElem?_eq_some_iff.1 hj).1
        have h3 := h2 j hjl
        rw [add_at, add_at2, hj] at h3
        exact h3
    · obtain ⟨i, hi, rfl⟩ := List.mem_map.1 hz
      exact (hY i (List.mem_range.1 hi)).2.1
    · obtain ⟨i, hi, rfl⟩ := List.mem_map.1 hz
      have hi' := List.mem_range.1 hi
      have hw := (hY i hi').2.2
      simp only [Rows.uptoBulk]
      rcases Nat.lt_or_ge i len with h | h
      · have := bulk_mem (l := (List.range len).map D) (List.mem_map.2 ⟨i, List.mem_range.2 h, rfl⟩)
        omega
      · have := bulk_mem (l := (List.range (m - len)).map fun j => D (len + j)) (List.mem_map.2 ⟨i - len, List.mem_range.2 (by omega), rfl⟩)
        rw [show len + (i - len) = i from by omega] at this
        omega
end
section
variable {H : Type} {enc : TypeId × Value → H} {W : World} {base : Nat} {v : Value} {d : DataW H} {p : List MemPlace}
theorem trod_entry_w (n : Nat) (cs : List Value) (x : DataW H × List MemPlace) (hf : DataW.trod enc Tryd.prog W 0 (fun _ => true) true n 82 cs = some x) : ∃ l : EntryV, cs = entryCells l ∧ l.ok ∧ l.name.size < Rows.uptoBulk x.1 := by
  obtain ⟨xs, m, _, hd, hl, hx, hel⟩ := DataW.trod_struct Tryd.underlying82 hf
  have hx2 : xs.length = 2 := hx
  have h3 : cs.length = 3 := hl.trans (by kernel_rfl)
  have e0 := hel 0 _ rfl
  have e1 := hel 1 _ rfl
  have cs1 : Tryd.prog.cellsOf 9 = 1 := by kernel_rfl
  have cs2 : Tryd.prog.cellsOf 80 = 2 := by kernel_rfl
  change DataW.trod enc Tryd.prog W 0 (fun _ => true) true m 9 ((cs.drop 0).take (Tryd.prog.cellsOf 9)) = xs[0]? at e0
  change DataW.trod enc Tryd.prog W 0 (fun _ => true) true m 80 ((cs.drop 1).take (Tryd.prog.cellsOf 80)) = xs[1]? at e1
  rw [cs1] at e0
  rw [cs2] at e1
  obtain ⟨z0, hz0⟩ := Option.isSome_iff_exists.1 (show (xs[0]?).isSome = true by simp [hx2])
  obtain ⟨z1, hz1⟩ := Option.isSome_iff_exists.1 (show (xs[1]?).isSome = true by simp [hx2])
  rw [hz0] at e0
  rw [hz1] at e1
  obtain ⟨s, d0, q0, _⟩ := DataW.trod_string (P := Tryd.prog) Tryd.underlying9 e0
  obtain ⟨ys, m2, _, _, hl2, hy, hel2⟩ := DataW.trod_struct Tryd.underlying80 e1
  have hy2 : ys.length = 2 := hy
  have g0 := hel2 0 _ rfl
  have g1 := hel2 1 _ rfl
  have c1 : ∀ t, t = 3 ∨ t = 42 → Tryd.prog.cellsOf t = 1 := by
    rintro t (rfl | rfl) <;> kernel_rfl
  rw [c1 _ (by simp)] at g0 g1
  obtain ⟨x1, d1, w1⟩ := one_num Tryd.underlying42 (by simp [hy2]) g0
  obtain ⟨x2, d2, w2⟩ := one_num Tryd.underlying3 (by simp [hy2]) g1
  have hq : s.size < Rows.uptoBulk x.1 := by
    have hdd : x.1 = .agg (xs.map (·.1)) := by rw [hd]
    have h0 := bulk_agg (List.mem_map.2 ⟨z0, List.mem_of_getElem? hz0, rfl⟩ : z0.1 ∈ xs.map (·.1))
    rw [← hdd, q0] at h0
    simp only [Rows.uptoBulk] at h0
    have : s.data.toList.length = s.size := by rw [Array.length_toList]; rfl
    omega
  refine ⟨⟨s, x1, x2⟩, ?_, ⟨int_bounds_u8 w1, int_bounds_i64 w2⟩, hq⟩
  match cs, h3 with
  | [a, b, c], _ =>
    simp at d0 d1 d2
    simp [entryCells, d0, d1, d2]
set_option maxRecDepth 100000 in
set_option maxHeartbeats 2000000 in
theorem open_saye (hv : Value.okWide Tryd.prog W .any base 45 v) (hk : DataW.Trod enc Tryd.prog W 0 (fun _ => true) true 45 v d p) (hu : Rows.uptoBulk d ≤ 1048577) : ∃ (cs : List Value) (a : SayV), v = .agg cs.toArray ∧ a.ok ∧ SayIs W W.heap.size cs a ∧ a.data.length ≤ 1048576 ∧ a.ents.length ≤ 1048576 ∧ ∀ e ∈ a.ents, e.name.size ≤ 1048576 := by
  obtain ⟨cs, rfl, hsz, _⟩ : ∃ cs, v = .agg cs ∧ cs.size = Tryd.prog.cellsOf 45 ∧ Row.okWide Tryd.prog W .any base 45 cs := by
    simpa [Value.okWide, Tryd.underlying45] using hv
  have htot : Tryd.prog.cellsOf 45 = 20 := by kernel_rfl
  rw [htot] at hsz
  obtain ⟨fuel, hf⟩ := hk
  obtain ⟨xs, m, _, hd, hl, hx, hel⟩ := DataW.trod_struct Tryd.underlying45 hf
  have hxl : xs.length = 13 := hx
  have some_at : ∀ i, i < 13 → (xs[i]?).isSome = true := fun i hi => by simp [hxl, hi]
  have hdd : d = .agg (xs.map (·.1)) := by injection hd
  have wt : ∀ (i : Nat) (z : DataW H × List MemPlace), xs[i]? = some z → Rows.uptoBulk z.1 < Rows.uptoBulk d := fun i z hz => by
    rw [hdd]
    exact bulk_agg (List.mem_map.2 ⟨z, List.mem_of_getElem? hz, rfl⟩)
  have hcl : (Value.agg cs).cells.toList = cs.toList := rfl
  rw [hcl] at hel hl
  obtain ⟨l, hll⟩ : ∃ l, l = cs.toList := ⟨_, rfl⟩
  rw [← hll] at hel hl
  rw [htot] at hl
  have e0 := hel 0 _ rfl
  change DataW.trod enc Tryd.prog W 0 (fun _ => true) true m 22 ((l.drop 0).take (Tryd.prog.cellsOf 22)) = xs[0]? at e0
  rw [show Tryd.prog.cellsOf 22 = 1 from by kernel_rfl] at e0
  obtain ⟨z0, hz0⟩ := Option.isSome_iff_exists.1 (some_at 0 (by omega))
  have wz0 := wt 0 z0 hz0
  rw [hz0] at e0
  obtain ⟨x0, d0, w0⟩ := one_num (y := some z0) Tryd.underlying22 rfl e0
  have c0 := drop_cons1 (i := 0) d0
  have e1 := hel 1 _ rfl
  change DataW.trod enc Tryd.prog W 0 (fun _ => true) true m 28 ((l.drop 1).take (Tryd.prog.cellsOf 28)) = xs[1]? at e1
  rw [show Tryd.prog.cellsOf 28 = 1 from by kernel_rfl] at e1
  obtain ⟨z1, hz1⟩ := Option.isSome_iff_exists.1 (some_at 1 (by omega))
  have wz1 := wt 1 z1 hz1
  rw [hz1] at e1
  obtain ⟨x1, d1, w1⟩ := one_num (y := some z1) Tryd.underlying28 rfl e1
  have c1 := drop_cons1 (i := 1) d1
  have e2 := hel 2 _ rfl
  change DataW.trod enc Tryd.prog W 0 (fun _ => true) true m 41 ((l.drop 2).take (Tryd.prog.cellsOf 41)) = xs[2]? at e2
  rw [show Tryd.prog.cellsOf 41 = 8 from by kernel_rfl] at e2
  obtain ⟨z2, hz2⟩ := Option.isSome_iff_exists.1 (some_at 2 (by omega))
  have wz2 := wt 2 z2 hz2
  rw [hz2] at e2
  obtain ⟨s2, d2, w2⟩ := trod_arr Tryd.underlying41 Tryd.underlying5 (by kernel_rfl) (by simp; omega) e2
  have t2 : s2.length = 8 := by have := congrArg List.length d2; simp at this; omega
  have c2 : l.drop 2 = s2.map (Value.int .u8) ++ l.drop 10 := by
    rw [← d2, show l.drop 10 = (l.drop 2).drop 8 from by rw [List.drop_drop]]
    exact (List.take_append_drop _ _).symm
  have e3 := hel 3 _ rfl
  change DataW.trod enc Tryd.prog W 0 (fun _ => true) true m 5 ((l.drop 10).take (Tryd.prog.cellsOf 5)) = xs[3]? at e3
  rw [show Tryd.prog.cellsOf 5 = 1 from by kernel_rfl] at e3
  obtain ⟨z3, hz3⟩ := Option.isSome_iff_exists.1 (some_at 3 (by omega))
  have wz3 := wt 3 z3 hz3
  rw [hz3] at e3
  obtain ⟨x3, d3, w3⟩ := one_num (y := some z3) Tryd.underlying5 rfl e3
  have c3 := drop_cons1 (i := 10) d3
  have e4 := hel 4 _ rfl
  change DataW.trod enc Tryd.prog W 0 (fun _ => true) true m 5 ((l.drop 11).take (Tryd.prog.cellsOf 5)) = xs[4]? at e4
  rw [show Tryd.prog.cellsOf 5 = 1 from by kernel_rfl] at e4
  obtain ⟨z4, hz4⟩ := Option.isSome_iff_exists.1 (some_at 4 (by omega))
  have wz4 := wt 4 z4 hz4
  rw [hz4] at e4
  obtain ⟨x4, d4, w4⟩ := one_num (y := some z4) Tryd.underlying5 rfl e4
  have c4 := drop_cons1 (i := 11) d4
  have e5 := hel 5 _ rfl
  change DataW.trod enc Tryd.prog W 0 (fun _ => true) true m 22 ((l.drop 12).take (Tryd.prog.cellsOf 22)) = xs[5]? at e5
  rw [show Tryd.prog.cellsOf 22 = 1 from by kernel_rfl] at e5
  obtain ⟨z5, hz5⟩ := Option.isSome_iff_exists.1 (some_at 5 (by omega))
  have wz5 := wt 5 z5 hz5
  rw [hz5] at e5
  obtain ⟨x5, d5, w5⟩ := one_num (y := some z5) Tryd.underlying22 rfl e5
  have c5 := drop_cons1 (i := 12) d5
  have e6 := hel 6 _ rfl
  change DataW.trod enc Tryd.prog W 0 (fun _ => true) true m 28 ((l.drop 13).take (Tryd.prog.cellsOf 28)) = xs[6]? at e6
  rw [show Tryd.prog.cellsOf 28 = 1 from by kernel_rfl] at e6
  obtain ⟨z6, hz6⟩ := Option.isSome_iff_exists.1 (some_at 6 (by omega))
  have wz6 := wt 6 z6 hz6
  rw [hz6] at e6
  obtain ⟨x6, d6, w6⟩ := one_num (y := some z6) Tryd.underlying28 rfl e6
  have c6 := drop_cons1 (i := 13) d6
  have e7 := hel 7 _ rfl
  change DataW.trod enc Tryd.prog W 0 (fun _ => true) true m 42 ((l.drop 14).take (Tryd.prog.cellsOf 42)) = xs[7]? at e7
  rw [show Tryd.prog.cellsOf 42 = 1 from by kernel_rfl] at e7
  obtain ⟨z7, hz7⟩ := Option.isSome_iff_exists.1 (some_at 7 (by omega))
  have wz7 := wt 7 z7 hz7
  rw [hz7] at e7
  obtain ⟨x7, d7, w7⟩ := one_num (y := some z7) Tryd.underlying42 rfl e7
  have c7 := drop_cons1 (i := 14) d7
  have e8 := hel 8 _ rfl
  change DataW.trod enc Tryd.prog W 0 (fun _ => true) true m 29 ((l.drop 15).take (Tryd.prog.cellsOf 29)) = xs[8]? at e8
  rw [show Tryd.prog.cellsOf 29 = 1 from by kernel_rfl] at e8
  obtain ⟨z8, hz8⟩ := Option.isSome_iff_exists.1 (some_at 8 (by omega))
  have wz8 := wt 8 z8 hz8
  rw [hz8] at e8
  obtain ⟨A8, n8, k8, s8, d8, l8, b8, h8, w8⟩ := trod_ints Tryd.underlying29 Tryd.underlying5 (by kernel_rfl) e8
  have c8 := drop_cons1 (i := 15) d8
  have e9 := hel 9 _ rfl
  change DataW.trod enc Tryd.prog W 0 (fun _ => true) true m 27 ((l.drop 16).take (Tryd.prog.cellsOf 27)) = xs[9]? at e9
  rw [show Tryd.prog.cellsOf 27 = 1 from by kernel_rfl] at e9
  obtain ⟨z9, hz9⟩ := Option.isSome_iff_exists.1 (some_at 9 (by omega))
  have wz9 := wt 9 z9 hz9
  rw [hz9] at e9
  obtain ⟨x9, d9, w9⟩ := one_num (y := some z9) Tryd.underlying27 rfl e9
  have c9 := drop_cons1 (i := 16) d9
  have e10 := hel 10 _ rfl
  change DataW.trod enc Tryd.prog W 0 (fun _ => true) true m 43 ((l.drop 17).take (Tryd.prog.cellsOf 43)) = xs[10]? at e10
  rw [show Tryd.prog.cellsOf 43 = 1 from by kernel_rfl] at e10
  obtain ⟨z10, hz10⟩ := Option.isSome_iff_exists.1 (some_at 10 (by omega))
  have wz10 := wt 10 z10 hz10
  rw [hz10] at e10
  obtain ⟨A10, n10, k10, s10, d10, l10, b10, h10, w10, g10⟩ := trod_rows_w (g := fun y => y.name.size) (f := entryCells) (s := 3) (ok := EntryV.ok) Tryd.underlying43 (by kernel_rfl) (by omega) entryCells_len trod_entry_w e10
  have c10 := drop_cons1 (i := 17) d10
  have e11 := hel 11 _ rfl
  change DataW.trod enc Tryd.prog W 0 (fun _ => true) true m 4 ((l.drop 18).take (Tryd.prog.cellsOf 4)) = xs[11]? at e11
  rw [show Tryd.prog.cellsOf 4 = 1 from by kernel_rfl] at e11
  obtain ⟨z11, hz11⟩ := Option.isSome_iff_exists.1 (some_at 11 (by omega))
  have wz11 := wt 11 z11 hz11
  rw [hz11] at e11
  obtain ⟨x11, d11, _⟩ := DataW.trod_bool Tryd.underlying4 e11
  have c11 := drop_cons1 (i := 18) d11
  have e12 := hel 12 _ rfl
  change DataW.trod enc Tryd.prog W 0 (fun _ => true) true m 4 ((l.drop 19).take (Tryd.prog.cellsOf 4)) = xs[12]? at e12
  rw [show Tryd.prog.cellsOf 4 = 1 from by kernel_rfl] at e12
  obtain ⟨z12, hz12⟩ := Option.isSome_iff_exists.1 (some_at 12 (by omega))
  have wz12 := wt 12 z12 hz12
  rw [hz12] at e12
  obtain ⟨x12, d12, _⟩ := DataW.trod_bool Tryd.underlying4 e12
  have c12 := drop_cons1 (i := 19) d12
  refine ⟨l, ⟨x0, x1, s2, x3, x4, x5, x6, x7, s8.take n8, x9, s10.take n10, x11, x12⟩, by rw [hll], ⟨int_bounds_u16 w0, int_bounds_u64 w1, t2, fun y hy => int_bounds_u8 (w2 y hy), int_bounds_u8 w3, int_bounds_u8 w4, int_bounds_u16 w5, int_bounds_u64 w6, int_bounds_u8 w7, fun y hy => int_bounds_u8 (w8 y (List.mem_of_mem_take hy)), int_bounds_u32 w9, fun y hy => w10 y (List.mem_of_mem_take hy)⟩, ⟨A8, n8, k8, A10, n10, k10, ?_, (holds_of_F h8 (by omega) (fun y hy => int_bounds_u8 (w8 y hy))).head l8, h10.head l10⟩, by simp; omega, by simp; omega, fun y hy => by have := g10 y (List.mem_of_mem_take hy); omega⟩
  have c := c0
  rw [List.drop_zero] at c
  rw [c, c1, c2, c3, c4, c5, c6, c7, c8, c9, c10, c11, c12, List.drop_of_length_le (by omega)]
  rfl
end
end Go.Proofs.YtbbjmmooemmeiaaDoor
