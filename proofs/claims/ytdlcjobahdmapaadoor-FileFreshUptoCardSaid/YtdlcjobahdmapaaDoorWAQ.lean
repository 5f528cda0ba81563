import Derived.WalkKit
import Derived.Deep.Draws
import Derived.Laws.Rows
import Derived.Laws.OwnMore
import Derived.Test.YtdlcjobahdmapaaDoorRows
import Derived.Laws.CopyOwn
import Derived.Laws.AppendOwnNone
import Derived.Lib.Hide
import Derived.Laws.AppendOwn
import Derived.OwnWalk
import Derived.Lib.OthersKept
import Derived.Laws.BytesArg
import Derived.Laws.Tables
import Derived.Laws.NewFold
import Derived.Deep.WholeRow
import Derived.Deep.DeepCutAuto
import Derived.OneCell
import Derived.ProofKit
import Derived.OpenShut
import Derived.ShutString
import Derived.SizedLaws
import Derived.ChangeOld
import Derived.Deep.Strs
import Derived.Deep.MidRow
import Derived.Great.Walk
import Derived.OrdersHeld
import Derived.Laws.StructEq
import Derived.ChangeKeysEq
import Derived.Laws.Bits64
import Derived.Laws.BitsAllLaws
import Derived.WalkSpells
import Derived.WalkLawsBesides
import Derived.Deep.QuietTactic
import Derived.BigQuiet
import Derived.Lib.RuneBytes
import Derived.Lib.ValidLaws
import Derived.Shelf.Utf8.AppendRunePlain
import Derived.Shelf.Unicode.ValidAny
import Derived.Test.YtdlcjobahdmapaaDoorProg
import Derived.Lib.AppendZeros
import Derived.Deep.RegionWith
import Derived.Deep.RegionLaw
import Derived.Deep.OwnRows
import Derived.Test.YtdlcjobahdmapaaDoorWAD
import Derived.Test.YtdlcjobahdmapaaDoorWAF
import Derived.Test.YtdlcjobahdmapaaDoorWAG
import Derived.Test.YtdlcjobahdmapaaDoorWAH
import Derived.Test.YtdlcjobahdmapaaDoorWAK
import Derived.Test.YtdlcjobahdmapaaDoorWAL
namespace Go.Proofs.YtdlcjobahdmapaaDoor
set_option linter.all false
open Go.RowKit
set_option maxRecDepth 100000
set_option linter.unusedVariables false
section
variable {P : Program} {w : World} {d : Nat} {xs ys : Array Value} {r : List (Bool × TypeId × Nat)} {q : Bool}
theorem eqSpec_str (t : TypeId) (o : Nat) (x y : ByteArray) (ht : P.underlying t = some .string) (hx : xs[o]? = some (.string x)) (hy : ys[o]? = some (.string y)) (hr : (eqSpec (d + 1) xs ys r).run P w = .ok q w) :
    (eqSpec (d + 1) xs ys ((false, t, o) :: r)).run P w = .ok (decide (x = y) && q) w := by
  have p1 : (part t xs o).run P w = .ok (.string x) w := by simp [part, isAgg, run_underlying ht, hx]
  have p2 : (part t ys o).run P w = .ok (.string y) w := by simp [part, isAgg, run_underlying ht, hy]
  simp only [eqSpec, Bool.false_eq_true, if_false, Sem.run_bind, p1, p2, Result.andThen_ok, run_equalIn_string w d t _ _ ht, bytes_beq]
  by_cases h : x = y
  · subst h
    simpa using hr
  · simp [h]
end
theorem fields_stat : (Tryd.prog.fieldsOf 99).toList.map (fun f => (decide (f.name = "_"), f.type, f.offset)) = [(false, 42, 0), (false, 3, 1)] := by kernel_rfl
theorem fields_entry : (Tryd.prog.fieldsOf 101).toList.map (fun f => (decide (f.name = "_"), f.type, f.offset)) = [(false, 9, 0), (false, 99, 1)] := by kernel_rfl
theorem size_stat : (Tryd.prog.info? 99).map (·.size) = some 2 := by kernel_rfl
theorem run_equalIn_stat (a b c d : Int) (w : World) : (Op.equalIn 9999 99 (.agg #[.int .u8 a, .int .i64 b]) (.agg #[.int .u8 c, .int .i64 d])).run Tryd.prog w = .ok (decide (a = c ∧ b = d)) w := by
  rw [show (9999 : Nat) = 9998 + 1 from rfl, run_equalIn_struct w 9998 99 _ _ Tryd.underlying99 (by kernel_rfl), eqFields_spec, fields_stat]
  have h := eqSpec_int (P := Tryd.prog) (w := w) (d := 9997) (xs := #[.int .u8 a, .int .i64 b]) (ys := #[.int .u8 c, .int .i64 d]) 42 .u8 0 a c Tryd.underlying42 rfl rfl
    (eqSpec_int (r := []) (q := true) 3 .i64 1 b d Tryd.underlying3 rfl rfl (by simp [eqSpec]))
  refine h.trans ?_
  congr 1
  rw [Bool.eq_iff_iff]
  simp
theorem run_equalIn_entry (a b : EntryV) (w : World) : (Op.equalIn 10000 101 (.agg (entryCells a).toArray) (.agg (entryCells b).toArray)).run Tryd.prog w = .ok (decide (a = b)) w := by
  rw [show (10000 : Nat) = 9999 + 1 from rfl, run_equalIn_struct w 9999 101 _ _ Tryd.underlying101 (by kernel_rfl), eqFields_spec, fields_entry]
  have hs : (eqSpec 9999 (entryCells a).toArray (entryCells b).toArray [(false, 99, 1)]).run Tryd.prog w = .ok (decide (a.kind = b.kind ∧ a.size = b.size)) w := by
    obtain ⟨j, hj, hj1⟩ : ∃ j, Tryd.prog.info? 99 = some j ∧ j.size = 2 := by
      have h2 := size_stat
      cases hq : Tryd.prog.info? 99 with
      | none => rw [hq] at h2; cases h2
      | some j => exact ⟨j, rfl, by rw [hq] at h2; simpa using h2⟩
    have p1 : ∀ c : EntryV, (part 99 (entryCells c).toArray 1).run Tryd.prog w = .ok (.agg #[.int .u8 c.kind, .int .i64 c.size]) w := fun c => by
      simp [part, isAgg, run_underlying Tryd.underlying99, sizeOf, typeInfo, hj, hj1, entryCells]
    simp only [eqSpec, Bool.false_eq_true, if_false, Sem.run_bind, p1, Result.andThen_ok, run_equalIn_stat]
    by_cases h : a.kind = b.kind ∧ a.size = b.size
    · simp [h]
    · simp [h]
  have h := eqSpec_str (P := Tryd.prog) (w := w) (d := 9998) (xs := (entryCells a).toArray) (ys := (entryCells b).toArray) 9 0 a.name b.name Tryd.underlying9 rfl rfl hs
  refine h.trans ?_
  congr 1
  obtain ⟨a0, a1, a2⟩ := a
  obtain ⟨b0, b1, b2⟩ := b
  rw [Bool.eq_iff_iff]
  simp
theorem guard_entry : Tryd.prog.eqGuardType Tryd.prog.depth 101 = false := by kernel_rfl
theorem size_entry : (Tryd.prog.info? 101).map (·.size) = some 3 := by kernel_rfl
set_option maxRecDepth 100000 in
set_option maxHeartbeats 1000000 in
theorem Entries_any (w : World) (B B' : Nat) (A A' : Option Addr) (n c n' c' : Nat) (xs ys : List EntryV) (h : HoldsS entryCells 3 w B A n c xs) (h' : HoldsS entryCells 3 w B' A' n' c' ys) (hr : n ≤ 281474976710656) (hr' : n' ≤ 281474976710656) :
    Calls Tryd.prog 44 #[.slice A n c, .slice A' n' c'] w fun e w' => e = .returned (.bool (decide (xs = ys))) ∧ ∃ k, w.drewN k = w' := by
  have hl := h.len
  have hl' := h'.len
  have hf := h.fit
  have hf' := h'.fit
  by_cases hn : n = n'
  · subst hn
    have HL := Lib.hid hl
    have HL' := Lib.hid hl'
    clear hl hl'
    go_enter Tryd.func44, Tryd.ntmps44
    go_wp2
    go_loopw [5] (fun i wr => ∃ k : Nat, k ≤ n ∧ i = .int .i64 k ∧ Hid (xs.take k = ys.take k) ∧ ∃ j, wr = w.drewN j) (fun i _ => n - (intOf i).toNat)
    case atStart => exact ⟨0, Nat.zero_le _, rfl, by simp [Hid], 0, rfl⟩
    case round =>
      obtain ⟨k, hk, rfl, HT, j, rfl⟩ := hrel
      by_cases hlt : k < n
      · obtain ⟨b, off, rfl, hb, hc⟩ := h.cells (by omega)
        obtain ⟨b', off', rfl, hb', hc'⟩ := h'.cells (by omega)
        obtain ⟨x, hx⟩ : ∃ x, xs[k]? = some x := ⟨_, List.getElem?_eq_getElem (by have := HL.out; omega)⟩
        obtain ⟨y, hy⟩ : ∃ y, ys[k]? = some y := ⟨_, List.getElem?_eq_getElem (by have := HL'.out; omega)⟩
        have rx := h.range rfl hlt hx
        have ry := h'.range rfl hlt hy
        clear hc hc'
        have HX := Lib.hid hx
        have HY := Lib.hid hy
        have q0 : ∀ w : World, (Op.equalIn 10000 101 (.agg (entryCells x).toArray) (.agg (entryCells y).toArray)).run Tryd.prog w = .ok (decide (x = y)) w := fun w => run_equalIn_entry x y w
        have qg := guard_entry
        obtain ⟨wj, hwj⟩ : ∃ wj, wj = w.drewN j := ⟨_, rfl⟩
        have Rx : Hid (wj.rangeAt b (off + k * 3) (entryCells x)) := by rw [hwj]; exact rx
        have Ry : Hid (wj.rangeAt b' (off' + k * 3) (entryCells y)) := by rw [hwj]; exact ry
        rw [← hwj]
        have HW := Lib.hid hwj
        have LX : Hid ((entryCells x).length = 3) := rfl
        have LY : Hid ((entryCells y).length = 3) := rfl
        obtain ⟨cx, hcx⟩ : ∃ cx, cx = entryCells x := ⟨_, rfl⟩
        obtain ⟨cy, hcy⟩ : ∃ cy, cy = entryCells y := ⟨_, rfl⟩
        rw [← hcx] at Rx LX q0
        rw [← hcy] at Ry LY q0
        obtain ⟨z, hz⟩ : ∃ z, z = decide (x = y) := ⟨_, rfl⟩
        rw [← hz] at q0
        have HZ := Lib.hid hz
        clear hx hy hwj rx ry hcx hcy hz
        go_upto_region 6 with fail
        refine wp_region_held (S := fun w' => World.rangeAt w' b (off + k * 3) cx ∧ World.rangeAt w' b' (off' + k * 3) cy) (by kernel_rfl) ?_
        change wpAnyH _ _ _ _ _ _ _ _ wj.drew
        have S0 : Hid (World.rangeAt wj.drew b (off + k * 3) cx ∧ World.rangeAt wj.drew b' (off' + k * 3) cy) := ⟨Rx.out, Ry.out⟩
        have b0 : Hid (Below w.heap.size w wj.drew) := by rw [HW.out]; exact drewed w (j + 1)
        refine wpAnyH_take (i := 0) (v := _) rfl (by kernel_rfl) (by kernel_rfl) (by kernel_rfl) (fun _ _ _ h => h) (yieldsIf_move (by kernel_rfl) (.tmp 0) rfl (.slice (some ⟨b, off, none⟩) n c) (by kernel_rfl)) S0.out ?_
        refine wpAnyH_take (i := 1) (v := _) rfl (by kernel_rfl) (by kernel_rfl) (by kernel_rfl) (fun _ _ _ h => h) (yieldsIf_move (by kernel_rfl) (.tmp 5) rfl (.int .i64 k) (by kernel_rfl)) S0.out ?_
        refine wpAnyH_take (i := 2) (v := .pointer (some ⟨b, off + k * 3, none⟩)) rfl (by kernel_rfl) (by kernel_rfl) (by kernel_rfl) (fun _ _ _ h => h) (.inl ⟨by kernel_rfl, fun w _ => by go_simp⟩) S0.out ?_
        refine wpAnyH_take (i := 3) (v := _) rfl (by kernel_rfl) (by kernel_rfl) (by kernel_rfl) (fun _ _ _ h => h) (yieldsIf_load_mid (by kernel_rfl) _ (.tmp 19) rfl b (off + k * 3) (by kernel_rfl) cx _ (fun _ h => h.1) Tryd.underlying101 rfl (by rw [size_entry, LX.out])) S0.out ?_
        refine wpAnyH_take (i := 4) (v := _) rfl (by kernel_rfl) (by kernel_rfl) (by kernel_rfl) (fun _ _ _ h => h) (yieldsIf_move (by kernel_rfl) (.tmp 1) rfl (.slice (some ⟨b', off', none⟩) n c') (by kernel_rfl)) S0.out ?_
        refine wpAnyH_take (i := 5) (v := _) rfl (by kernel_rfl) (by kernel_rfl) (by kernel_rfl) (fun _ _ _ h => h) (yieldsIf_move (by kernel_rfl) (.tmp 5) rfl (.int .i64 k) (by kernel_rfl)) S0.out ?_
        refine wpAnyH_take (i := 6) (v := .pointer (some ⟨b', off' + k * 3, none⟩)) rfl (by kernel_rfl) (by kernel_rfl) (by kernel_rfl) (fun _ _ _ h => h) (.inl ⟨by kernel_rfl, fun w _ => by go_simp⟩) S0.out ?_
        refine wpAnyH_take (i := 7) (v := _) rfl (by kernel_rfl) (by kernel_rfl) (by kernel_rfl) (fun _ _ _ h => h) (yieldsIf_load_mid (by kernel_rfl) _ (.tmp 23) rfl b' (off' + k * 3) (by kernel_rfl) cy _ (fun _ h => h.2) Tryd.underlying101 rfl (by rw [size_entry, LY.out])) S0.out ?_
        refine wpAnyH_one 8 _ (by kernel_rfl) rfl fun K hK => ?_
        go_simp
        refine hK _ _ S0.out ?_
        clear hK K
        refine wpAnyH_done (by kernel_rfl) ?_ _
        have HE : Hid (wj.drew = w.drewN (j + 1)) := by show _ = _; rw [HW.out]; exact World.drewN_drewN w j 1
        cases z
        · have hS := Lib.hid (ne_of_getA HX.out HY.out (by have := HZ.out; simpa using this.symm))
          go_wp2_with fail
          go_ret
          exact ⟨ret_bool hS.out.symm, _, HE.out.symm⟩
        · have hxy : x = y := by have := HZ.out; simpa using this.symm
          have hS : Hid (xs.take (k + 1) = ys.take (k + 1)) := take_eq_stepA HX.out (by rw [HY.out, hxy]) HT.out
          clear hxy
          go_wp2_with fail
          go_roundw
          case rel => exact ⟨k + 1, by omega, by go_num, hS, _, HE.out⟩
          case measure => simp [intOf]; omega
      · have hS := Lib.hid (eq_of_takeA (n := n) HL.out HL'.out (by have := HT.out; rwa [show k = n from by omega] at this))
        clear HT
        go_wp2
        go_ret
        exact ⟨ret_bool hS.out.symm, _, rfl⟩
  · have e1 : decide (xs = ys) = false := by
      rw [decide_eq_false_iff_not]
      rintro rfl
      omega
    have hne : ((n : Int) == (n' : Int)) = false := by simp; omega
    have hne' : ((n : Int) != (n' : Int)) = true := by simp; omega
    rw [e1]
    clear e1 hl hl'
    go_enter Tryd.func44, Tryd.ntmps44
    go_wp2
    go_ret
    exact ⟨rfl, 0, rfl⟩
end Go.Proofs.YtdlcjobahdmapaaDoor

namespace Go.Proofs.YtdlcjobahdmapaaDoor
set_option linter.all false
open Go.RowKit
set_option linter.unusedVariables false
theorem fld_say2 (g : Nat) (w : World) : (Instr.fieldAt 45 (.pointer (some ⟨g, 0, none⟩)) 2).run Tryd.prog w = .ok (.pointer (some ⟨g, 2, none⟩)) w := by go_simp
end Go.Proofs.YtdlcjobahdmapaaDoor

namespace Go.Proofs.YtdlcjobahdmapaaDoor
set_option linter.all false
open Go.RowKit
set_option linter.unusedVariables false
set_option maxRecDepth 100000
theorem fs_parts {c : Int} {s : SayV} (h : fsErr c s = 0) : knownF c = true ∧ wantFS c s = s ∧ s.made ≤ 2 ∧ s.kind ≤ 2 ∧ s.data.length ≤ 32768 ∧ fsOf c s = bodyFS c s := by
  have h0 := h
  unfold fsErr at h
  by_cases h1 : nameFS c s = true ∧ s.made ≤ 2 ∧ s.kind ≤ 2
  · rw [if_pos h1] at h
    by_cases h2 : s.data.length ≤ 32768
    · obtain ⟨h3, h4, h5⟩ := h1
      unfold nameFS at h3
      simp only [Bool.and_eq_true, decide_eq_true_eq] at h3
      exact ⟨h3.1, (besideFS_want c s).1 h3.2, h4, h5, h2, by unfold fsOf; rw [if_pos h0]⟩
    · rw [if_neg h2] at h; exact absurd h (by decide)
  · rw [if_neg h1] at h; exact absurd h (by decide)
end Go.Proofs.YtdlcjobahdmapaaDoor

namespace Go.Proofs.YtdlcjobahdmapaaDoor
set_option linter.all false
open Go.RowKit
set_option linter.unusedVariables false
set_option maxRecDepth 100000 in
set_option maxHeartbeats 8000000 in
theorem Says_any (w : World) (cs ds : List Value) (a b : SayV) (ka : a.ok) (kb : b.ok) (ha : SayIs w w.heap.size cs a) (hb : SayIs w w.heap.size ds b) (la : a.data.length ≤ 281474976710656 ∧ a.ents.length ≤ 281474976710656) (lb : b.data.length ≤ 281474976710656 ∧ b.ents.length ≤ 281474976710656) :
    Calls Tryd.prog 20 #[.agg cs.toArray, .agg ds.toArray] w fun e w' => e = .returned (.bool (decide (a = b))) ∧ Below w.heap.size w w' := by
  obtain ⟨la2, la3⟩ := la
  obtain ⟨lb2, lb3⟩ := lb
  have HL := Lib.hid (ha.len ka)
  have HM := Lib.hid (hb.len kb)
  obtain ⟨A2, An2, Ac2, A3, An3, Ac3, rfl, hx2, hx3⟩ := ha
  obtain ⟨B2, Bn2, Bc2, B3, Bn3, Bc3, rfl, hy2, hy3⟩ := hb
  have bA2 : An2 ≤ 281474976710656 := by have := hx2.len; omega
  have bA3 : An3 ≤ 281474976710656 := by have := hx3.len; omega
  have bB2 : Bn2 ≤ 281474976710656 := by have := hy2.len; omega
  have bB3 : Bn3 ≤ 281474976710656 := by have := hy3.len; omega
  have CS : Hid (∀ w' : World, Below w.heap.size w w' → Calls Tryd.prog 14 #[.slice A2 An2 Ac2, .slice B2 Bn2 Bc2] w' fun e v => e = .returned (.bool (decide (a.data = b.data))) ∧ ∃ k, w'.drewN k = v) := fun w' hb => Same_any w' _ _ _ _ _ _ _ _ _ _ (hx2.below hb) (hy2.below hb)
  have CR : Hid (∀ w' : World, Below w.heap.size w w' → Calls Tryd.prog 44 #[.slice A3 An3 Ac3, .slice B3 Bn3 Bc3] w' fun e v => e = .returned (.bool (decide (a.ents = b.ents))) ∧ ∃ k, w'.drewN k = v) := fun w' hb => Entries_any w' _ _ _ _ _ _ _ _ _ _ (hx3.below hb) (hy3.below hb) bA3 bB3
  have f_dia : Hid (¬ a.dia = b.dia → decide (a = b) = false) := fun h => decide_eq_false fun he => h (by rw [he])
  have f_siz : Hid (¬ a.siz = b.siz → decide (a = b) = false) := fun h => decide_eq_false fun he => h (by rw [he])
  have f_chal : Hid (¬ a.chal = b.chal → decide (a = b) = false) := fun h => decide_eq_false fun he => h (by rw [he])
  have f_lev : Hid (¬ a.lev = b.lev → decide (a = b) = false) := fun h => decide_eq_false fun he => h (by rw [he])
  have f_dur : Hid (¬ a.dur = b.dur → decide (a = b) = false) := fun h => decide_eq_false fun he => h (by rw [he])
  have f_made : Hid (¬ a.made = b.made → decide (a = b) = false) := fun h => decide_eq_false fun he => h (by rw [he])
  have f_file : Hid (¬ a.file = b.file → decide (a = b) = false) := fun h => decide_eq_false fun he => h (by rw [he])
  have f_kind : Hid (¬ a.kind = b.kind → decide (a = b) = false) := fun h => decide_eq_false fun he => h (by rw [he])
  have f_data : Hid (¬ a.data = b.data → decide (a = b) = false) := fun h => decide_eq_false fun he => h (by rw [he])
  have f_n : Hid (¬ a.n = b.n → decide (a = b) = false) := fun h => decide_eq_false fun he => h (by rw [he])
  have f_ents : Hid (¬ a.ents = b.ents → decide (a = b) = false) := fun h => decide_eq_false fun he => h (by rw [he])
  have f_more : Hid (¬ a.more = b.more → decide (a = b) = false) := fun h => decide_eq_false fun he => h (by rw [he])
  have f_gone : Hid (¬ a.gone = b.gone → decide (a = b) = false) := fun h => decide_eq_false fun he => h (by rw [he])
  have HT : Hid (a.dia = b.dia → a.siz = b.siz → a.chal = b.chal → a.lev = b.lev → a.dur = b.dur → a.made = b.made → a.file = b.file → a.kind = b.kind → a.data = b.data → a.n = b.n → a.ents = b.ents → a.more = b.more → a.gone = b.gone → decide (a = b) = true) := by
    intro e0 e1 e2 e3 e4 e5 e6 e7 e8 e9 e10 e11 e12
    rw [decide_eq_true_iff]
    cases a; cases b
    simp only at e0 e1 e2 e3 e4 e5 e6 e7 e8 e9 e10 e11 e12
    subst e0 e1 e2 e3 e4 e5 e6 e7 e8 e9 e10 e11 e12
    rfl
  have q_chal : ∀ w : World, (Op.equalIn 10000 41 (.agg (a.chal.map (Value.int .u8)).toArray) (.agg (b.chal.map (Value.int .u8)).toArray)).run Tryd.prog w = .ok (decide (a.chal = b.chal)) w := fun w => run_equalIn_arr3 Tryd.underlying41 Tryd.underlying5 size_u8e a.chal b.chal ka.clen kb.clen 9998 w
  have qg_chal := guard_chal
  have RA_chal : Hid (∀ (w : World) (g : Nat), Blk w g 45 (scells (.slice A2 An2 Ac2) (.slice A3 An3 Ac3) a) → w.rangeAt g 2 (a.chal.map (Value.int .u8))) := fun w g h => scells_chal h ka
  have NA_chal : Hid ((a.chal.map (Value.int .u8)).length = 8) := by show _ = _; rw [List.length_map]; exact ka.clen
  have RB_chal : Hid (∀ (w : World) (g : Nat), Blk w g 45 (scells (.slice B2 Bn2 Bc2) (.slice B3 Bn3 Bc3) b) → w.rangeAt g 2 (b.chal.map (Value.int .u8))) := fun w g h => scells_chal h kb
  have NB_chal : Hid ((b.chal.map (Value.int .u8)).length = 8) := by show _ = _; rw [List.length_map]; exact kb.clen
  have FA : Hid (∀ (w : World) (g : Nat), Blk w g 45 (scells (.slice A2 An2 Ac2) (.slice A3 An3 Ac3) a) → w.cell? ⟨g, 0, none⟩ = some (.int .u16 a.dia) ∧ w.cell? ⟨g, 1, none⟩ = some (.int .u64 a.siz) ∧ w.cell? ⟨g, 10, none⟩ = some (.int .u8 a.lev) ∧ w.cell? ⟨g, 11, none⟩ = some (.int .u8 a.dur) ∧ w.cell? ⟨g, 12, none⟩ = some (.int .u16 a.made) ∧ w.cell? ⟨g, 13, none⟩ = some (.int .u64 a.file) ∧ w.cell? ⟨g, 14, none⟩ = some (.int .u8 a.kind) ∧ w.cell? ⟨g, 15, none⟩ = some (.slice A2 An2 Ac2) ∧ w.cell? ⟨g, 16, none⟩ = some (.int .u32 a.n) ∧ w.cell? ⟨g, 17, none⟩ = some (.slice A3 An3 Ac3) ∧ w.cell? ⟨g, 18, none⟩ = some (.bool a.more) ∧ w.cell? ⟨g, 19, none⟩ = some (.bool a.gone)) := fun w g h =>
    ⟨h.at rfl, h.at rfl, h.at (scells_get ka 0), h.at (scells_get ka 1), h.at (scells_get ka 2), h.at (scells_get ka 3), h.at (scells_get ka 4), h.at (scells_get ka 5), h.at (scells_get ka 6), h.at (scells_get ka 7), h.at (scells_get ka 8), h.at (scells_get ka 9)⟩
  have FB : Hid (∀ (w : World) (g : Nat), Blk w g 45 (scells (.slice B2 Bn2 Bc2) (.slice B3 Bn3 Bc3) b) → w.cell? ⟨g, 0, none⟩ = some (.int .u16 b.dia) ∧ w.cell? ⟨g, 1, none⟩ = some (.int .u64 b.siz) ∧ w.cell? ⟨g, 10, none⟩ = some (.int .u8 b.lev) ∧ w.cell? ⟨g, 11, none⟩ = some (.int .u8 b.dur) ∧ w.cell? ⟨g, 12, none⟩ = some (.int .u16 b.made) ∧ w.cell? ⟨g, 13, none⟩ = some (.int .u64 b.file) ∧ w.cell? ⟨g, 14, none⟩ = some (.int .u8 b.kind) ∧ w.cell? ⟨g, 15, none⟩ = some (.slice B2 Bn2 Bc2) ∧ w.cell? ⟨g, 16, none⟩ = some (.int .u32 b.n) ∧ w.cell? ⟨g, 17, none⟩ = some (.slice B3 Bn3 Bc3) ∧ w.cell? ⟨g, 18, none⟩ = some (.bool b.more) ∧ w.cell? ⟨g, 19, none⟩ = some (.bool b.gone)) := fun w g h =>
    ⟨h.at rfl, h.at rfl, h.at (scells_get kb 0), h.at (scells_get kb 1), h.at (scells_get kb 2), h.at (scells_get kb 3), h.at (scells_get kb 4), h.at (scells_get kb 5), h.at (scells_get kb 6), h.at (scells_get kb 7), h.at (scells_get kb 8), h.at (scells_get kb 9)⟩
  obtain ⟨z_chal, hz_chal⟩ : ∃ z, z = decide (a.chal = b.chal) := ⟨_, rfl⟩
  rw [← hz_chal] at q_chal
  have Z_chal := Lib.hid hz_chal
  clear hz_chal
  obtain ⟨la_chal, hl⟩ : ∃ l, l = a.chal.map (Value.int .u8) := ⟨_, rfl⟩
  rw [← hl] at q_chal RA_chal NA_chal
  clear hl
  obtain ⟨lb_chal, hl⟩ : ∃ l, l = b.chal.map (Value.int .u8) := ⟨_, rfl⟩
  rw [← hl] at q_chal RB_chal NB_chal
  clear hl
  obtain ⟨z_data, hz_data⟩ : ∃ z, z = decide (a.data = b.data) := ⟨_, rfl⟩
  rw [← hz_data] at CS
  have Z_data := Lib.hid hz_data
  clear hz_data
  obtain ⟨z_ents, hz_ents⟩ : ∃ z, z = decide (a.ents = b.ents) := ⟨_, rfl⟩
  rw [← hz_ents] at CR
  have Z_ents := Lib.hid hz_ents
  clear hz_ents
  obtain ⟨a_dia, ha_dia⟩ : ∃ x, x = a.dia := ⟨_, rfl⟩
  rw [← ha_dia] at FA f_dia HT
  obtain ⟨b_dia, hb_dia⟩ : ∃ x, x = b.dia := ⟨_, rfl⟩
  rw [← hb_dia] at FB f_dia HT
  obtain ⟨a_siz, ha_siz⟩ : ∃ x, x = a.siz := ⟨_, rfl⟩
  rw [← ha_siz] at FA f_siz HT
  obtain ⟨b_siz, hb_siz⟩ : ∃ x, x = b.siz := ⟨_, rfl⟩
  rw [← hb_siz] at FB f_siz HT
  obtain ⟨a_lev, ha_lev⟩ : ∃ x, x = a.lev := ⟨_, rfl⟩
  rw [← ha_lev] at FA f_lev HT
  obtain ⟨b_lev, hb_lev⟩ : ∃ x, x = b.lev := ⟨_, rfl⟩
  rw [← hb_lev] at FB f_lev HT
  obtain ⟨a_dur, ha_dur⟩ : ∃ x, x = a.dur := ⟨_, rfl⟩
  rw [← ha_dur] at FA f_dur HT
  obtain ⟨b_dur, hb_dur⟩ : ∃ x, x = b.dur := ⟨_, rfl⟩
  rw [← hb_dur] at FB f_dur HT
  obtain ⟨a_made, ha_made⟩ : ∃ x, x = a.made := ⟨_, rfl⟩
  rw [← ha_made] at FA f_made HT
  obtain ⟨b_made, hb_made⟩ : ∃ x, x = b.made := ⟨_, rfl⟩
  rw [← hb_made] at FB f_made HT
  obtain ⟨a_file, ha_file⟩ : ∃ x, x = a.file := ⟨_, rfl⟩
  rw [← ha_file] at FA f_file HT
  obtain ⟨b_file, hb_file⟩ : ∃ x, x = b.file := ⟨_, rfl⟩
  rw [← hb_file] at FB f_file HT
  obtain ⟨a_kind, ha_kind⟩ : ∃ x, x = a.kind := ⟨_, rfl⟩
  rw [← ha_kind] at FA f_kind HT
  obtain ⟨b_kind, hb_kind⟩ : ∃ x, x = b.kind := ⟨_, rfl⟩
  rw [← hb_kind] at FB f_kind HT
  obtain ⟨a_n, ha_n⟩ : ∃ x, x = a.n := ⟨_, rfl⟩
  rw [← ha_n] at FA f_n HT
  obtain ⟨b_n, hb_n⟩ : ∃ x, x = b.n := ⟨_, rfl⟩
  rw [← hb_n] at FB f_n HT
  obtain ⟨a_more, ha_more⟩ : ∃ x, x = a.more := ⟨_, rfl⟩
  rw [← ha_more] at FA f_more HT
  obtain ⟨b_more, hb_more⟩ : ∃ x, x = b.more := ⟨_, rfl⟩
  rw [← hb_more] at FB f_more HT
  obtain ⟨a_gone, ha_gone⟩ : ∃ x, x = a.gone := ⟨_, rfl⟩
  rw [← ha_gone] at FA f_gone HT
  obtain ⟨b_gone, hb_gone⟩ : ∃ x, x = b.gone := ⟨_, rfl⟩
  rw [← hb_gone] at FB f_gone HT
  obtain ⟨cs, hcs⟩ : ∃ c, c = scells (.slice A2 An2 Ac2) (.slice A3 An3 Ac3) a := ⟨_, rfl⟩
  rw [← hcs] at FA RA_chal HL ⊢
  obtain ⟨ds, hds⟩ : ∃ c, c = scells (.slice B2 Bn2 Bc2) (.slice B3 Bn3 Bc3) b := ⟨_, rfl⟩
  rw [← hds] at FB RB_chal HM ⊢
  obtain ⟨r, hr⟩ : ∃ r, r = decide (a = b) := ⟨_, rfl⟩
  rw [← hr] at HT f_dia f_siz f_chal f_lev f_dur f_made f_file f_kind f_data f_n f_ents f_more f_gone ⊢
  clear hr hcs hds ka kb ha_dia hb_dia ha_siz hb_siz ha_lev hb_lev ha_dur hb_dur ha_made hb_made ha_file hb_file ha_kind hb_kind ha_n hb_n ha_more hb_more ha_gone hb_gone hx2 hx3 hy2 hy3 la2 la3 lb2 lb3 bA2 bA3 bB2 bB3
  go_enter Tryd.func20, Tryd.ntmps20
  simp only [List.append_eq, List.cons_append, List.nil_append]
  by_cases t_dia : a_dia = b_dia
  rotate_left
  · have nb : (a_dia == b_dia) = false := by simpa using t_dia
    have RS := Lib.hid (f_dia.out t_dia)
    clear t_dia
    go_wp2_with (first | ((with_reducible show wpList _ _ _ (⟨some 2, _, _, _, _, _⟩ :: _) _ _); refine wpList_box_blk rfl _ (.tmp 0) rfl cs rfl ?_; intro g w1 hg1 hg2 K0 L1) | ((with_reducible show wpList _ _ _ (⟨some 3, _, _, _, _, _⟩ :: _) _ _); refine wpList_box_blk rfl _ (.tmp 1) rfl ds rfl ?_; intro h w2 hg3 hg4 K2 L2'; have K1 := Lib.hid (K0.out.over L2'.out); have L2 := Lib.hid (step L1.out L2'.out); obtain ⟨ca_dia, ca_siz, ca_lev, ca_dur, ca_made, ca_file, ca_kind, ca_data, ca_n, ca_ents, ca_more, ca_gone⟩ := FA.out _ _ K1.out; obtain ⟨cb_dia, cb_siz, cb_lev, cb_dur, cb_made, cb_file, cb_kind, cb_data, cb_n, cb_ents, cb_more, cb_gone⟩ := FB.out _ _ K2.out; have rA_chal := Lib.hid (RA_chal.out _ _ K1.out); have rB_chal := Lib.hid (RB_chal.out _ _ K2.out)) | fail)
    go_ret
    exact ⟨ret_bool RS.out.symm, L2.out⟩
  have nb_dia : (a_dia == b_dia) = true := by simpa using t_dia
  have e_dia := Lib.hid t_dia
  clear t_dia
  by_cases t_siz : a_siz = b_siz
  rotate_left
  · have nb : (a_siz == b_siz) = false := by simpa using t_siz
    have RS := Lib.hid (f_siz.out t_siz)
    clear t_siz
    go_wp2_with (first | ((with_reducible show wpList _ _ _ (⟨some 2, _, _, _, _, _⟩ :: _) _ _); refine wpList_box_blk rfl _ (.tmp 0) rfl cs rfl ?_; intro g w1 hg1 hg2 K0 L1) | ((with_reducible show wpList _ _ _ (⟨some 3, _, _, _, _, _⟩ :: _) _ _); refine wpList_box_blk rfl _ (.tmp 1) rfl ds rfl ?_; intro h w2 hg3 hg4 K2 L2'; have K1 := Lib.hid (K0.out.over L2'.out); have L2 := Lib.hid (step L1.out L2'.out); obtain ⟨ca_dia, ca_siz, ca_lev, ca_dur, ca_made, ca_file, ca_kind, ca_data, ca_n, ca_ents, ca_more, ca_gone⟩ := FA.out _ _ K1.out; obtain ⟨cb_dia, cb_siz, cb_lev, cb_dur, cb_made, cb_file, cb_kind, cb_data, cb_n, cb_ents, cb_more, cb_gone⟩ := FB.out _ _ K2.out; have rA_chal := Lib.hid (RA_chal.out _ _ K1.out); have rB_chal := Lib.hid (RB_chal.out _ _ K2.out)) | fail)
    go_ret
    exact ⟨ret_bool RS.out.symm, L2.out⟩
  have nb_siz : (a_siz == b_siz) = true := by simpa using t_siz
  have e_siz := Lib.hid t_siz
  clear t_siz
  cases z_chal
  · have ne : ¬ a.chal = b.chal := by have := Z_chal.out; simpa using this.symm
    have RS := Lib.hid (f_chal.out ne)
    clear ne
    go_wp2_with (first | ((with_reducible show wpList _ _ _ (⟨some 2, _, _, _, _, _⟩ :: _) _ _); refine wpList_box_blk rfl _ (.tmp 0) rfl cs rfl ?_; intro g w1 hg1 hg2 K0 L1) | ((with_reducible show wpList _ _ _ (⟨some 3, _, _, _, _, _⟩ :: _) _ _); refine wpList_box_blk rfl _ (.tmp 1) rfl ds rfl ?_; intro h w2 hg3 hg4 K2 L2'; have K1 := Lib.hid (K0.out.over L2'.out); have L2 := Lib.hid (step L1.out L2'.out); obtain ⟨ca_dia, ca_siz, ca_lev, ca_dur, ca_made, ca_file, ca_kind, ca_data, ca_n, ca_ents, ca_more, ca_gone⟩ := FA.out _ _ K1.out; obtain ⟨cb_dia, cb_siz, cb_lev, cb_dur, cb_made, cb_file, cb_kind, cb_data, cb_n, cb_ents, cb_more, cb_gone⟩ := FB.out _ _ K2.out; have rA_chal := Lib.hid (RA_chal.out _ _ K1.out); have rB_chal := Lib.hid (RB_chal.out _ _ K2.out)) | (first | ((with_reducible show wpList _ _ _ (⟨some 18, _, _, _, _, _⟩ :: _) _ _); refine wpList_fld_w (by kernel_rfl) _ (.tmp 2) 2 rfl (.pointer (some ⟨g, 0, none⟩)) (.pointer (some ⟨g, 2, none⟩)) (by kernel_rfl) (fld_say2 g) ?_) | ((with_reducible show wpList _ _ _ (⟨some 19, _, _, _, _, _⟩ :: _) _ _); refine wpList_load_midw (by kernel_rfl) _ (.tmp 18) rfl g 2 rfl la_chal _ rA_chal Tryd.underlying41 rfl 8 size_chal NA_chal ?_) | ((with_reducible show wpList _ _ _ (⟨some 20, _, _, _, _, _⟩ :: _) _ _); refine wpList_fld_w (by kernel_rfl) _ (.tmp 3) 2 rfl (.pointer (some ⟨h, 0, none⟩)) (.pointer (some ⟨h, 2, none⟩)) (by kernel_rfl) (fld_say2 h) ?_) | ((with_reducible show wpList _ _ _ (⟨some 21, _, _, _, _, _⟩ :: _) _ _); refine wpList_load_midw (by kernel_rfl) _ (.tmp 20) rfl h 2 rfl lb_chal _ rB_chal Tryd.underlying41 rfl 8 size_chal NB_chal ?_) | fail))
    go_ret
    exact ⟨ret_bool RS.out.symm, L2.out⟩
  · have e_chal : Hid (a.chal = b.chal) := by have := Z_chal.out; show _ = _; simpa using this.symm
    by_cases t_lev : a_lev = b_lev
    rotate_left
    · have nb : (a_lev == b_lev) = false := by simpa using t_lev
      have RS := Lib.hid (f_lev.out t_lev)
      clear t_lev
      go_wp2_with (first | ((with_reducible show wpList _ _ _ (⟨some 2, _, _, _, _, _⟩ :: _) _ _); refine wpList_box_blk rfl _ (.tmp 0) rfl cs rfl ?_; intro g w1 hg1 hg2 K0 L1) | ((with_reducible show wpList _ _ _ (⟨some 3, _, _, _, _, _⟩ :: _) _ _); refine wpList_box_blk rfl _ (.tmp 1) rfl ds rfl ?_; intro h w2 hg3 hg4 K2 L2'; have K1 := Lib.hid (K0.out.over L2'.out); have L2 := Lib.hid (step L1.out L2'.out); obtain ⟨ca_dia, ca_siz, ca_lev, ca_dur, ca_made, ca_file, ca_kind, ca_data, ca_n, ca_ents, ca_more, ca_gone⟩ := FA.out _ _ K1.out; obtain ⟨cb_dia, cb_siz, cb_lev, cb_dur, cb_made, cb_file, cb_kind, cb_data, cb_n, cb_ents, cb_more, cb_gone⟩ := FB.out _ _ K2.out; have rA_chal := Lib.hid (RA_chal.out _ _ K1.out); have rB_chal := Lib.hid (RB_chal.out _ _ K2.out)) | (first | ((with_reducible show wpList _ _ _ (⟨some 18, _, _, _, _, _⟩ :: _) _ _); refine wpList_fld_w (by kernel_rfl) _ (.tmp 2) 2 rfl (.pointer (some ⟨g, 0, none⟩)) (.pointer (some ⟨g, 2, none⟩)) (by kernel_rfl) (fld_say2 g) ?_) | ((with_reducible show wpList _ _ _ (⟨some 19, _, _, _, _, _⟩ :: _) _ _); refine wpList_load_midw (by kernel_rfl) _ (.tmp 18) rfl g 2 rfl la_chal _ rA_chal Tryd.underlying41 rfl 8 size_chal NA_chal ?_) | ((with_reducible show wpList _ _ _ (⟨some 20, _, _, _, _, _⟩ :: _) _ _); refine wpList_fld_w (by kernel_rfl) _ (.tmp 3) 2 rfl (.pointer (some ⟨h, 0, none⟩)) (.pointer (some ⟨h, 2, none⟩)) (by kernel_rfl) (fld_say2 h) ?_) | ((with_reducible show wpList _ _ _ (⟨some 21, _, _, _, _, _⟩ :: _) _ _); refine wpList_load_midw (by kernel_rfl) _ (.tmp 20) rfl h 2 rfl lb_chal _ rB_chal Tryd.underlying41 rfl 8 size_chal NB_chal ?_) | fail))
      go_ret
      exact ⟨ret_bool RS.out.symm, L2.out⟩
    have nb_lev : (a_lev == b_lev) = true := by simpa using t_lev
    have e_lev := Lib.hid t_lev
    clear t_lev
    by_cases t_dur : a_dur = b_dur
    rotate_left
    · have nb : (a_dur == b_dur) = false := by simpa using t_dur
      have RS := Lib.hid (f_dur.out t_dur)
      clear t_dur
      go_wp2_with (first | ((with_reducible show wpList _ _ _ (⟨some 2, _, _, _, _, _⟩ :: _) _ _); refine wpList_box_blk rfl _ (.tmp 0) rfl cs rfl ?_; intro g w1 hg1 hg2 K0 L1) | ((with_reducible show wpList _ _ _ (⟨some 3, _, _, _, _, _⟩ :: _) _ _); refine wpList_box_blk rfl _ (.tmp 1) rfl ds rfl ?_; intro h w2 hg3 hg4 K2 L2'; have K1 := Lib.hid (K0.out.over L2'.out); have L2 := Lib.hid (step L1.out L2'.out); obtain ⟨ca_dia, ca_siz, ca_lev, ca_dur, ca_made, ca_file, ca_kind, ca_data, ca_n, ca_ents, ca_more, ca_gone⟩ := FA.out _ _ K1.out; obtain ⟨cb_dia, cb_siz, cb_lev, cb_dur, cb_made, cb_file, cb_kind, cb_data, cb_n, cb_ents, cb_more, cb_gone⟩ := FB.out _ _ K2.out; have rA_chal := Lib.hid (RA_chal.out _ _ K1.out); have rB_chal := Lib.hid (RB_chal.out _ _ K2.out)) | (first | ((with_reducible show wpList _ _ _ (⟨some 18, _, _, _, _, _⟩ :: _) _ _); refine wpList_fld_w (by kernel_rfl) _ (.tmp 2) 2 rfl (.pointer (some ⟨g, 0, none⟩)) (.pointer (some ⟨g, 2, none⟩)) (by kernel_rfl) (fld_say2 g) ?_) | ((with_reducible show wpList _ _ _ (⟨some 19, _, _, _, _, _⟩ :: _) _ _); refine wpList_load_midw (by kernel_rfl) _ (.tmp 18) rfl g 2 rfl la_chal _ rA_chal Tryd.underlying41 rfl 8 size_chal NA_chal ?_) | ((with_reducible show wpList _ _ _ (⟨some 20, _, _, _, _, _⟩ :: _) _ _); refine wpList_fld_w (by kernel_rfl) _ (.tmp 3) 2 rfl (.pointer (some ⟨h, 0, none⟩)) (.pointer (some ⟨h, 2, none⟩)) (by kernel_rfl) (fld_say2 h) ?_) | ((with_reducible show wpList _ _ _ (⟨some 21, _, _, _, _, _⟩ :: _) _ _); refine wpList_load_midw (by kernel_rfl) _ (.tmp 20) rfl h 2 rfl lb_chal _ rB_chal Tryd.underlying41 rfl 8 size_chal NB_chal ?_) | fail))
      go_ret
      exact ⟨ret_bool RS.out.symm, L2.out⟩
    have nb_dur : (a_dur == b_dur) = true := by simpa using t_dur
    have e_dur := Lib.hid t_dur
    clear t_dur
    by_cases t_made : a_made = b_made
    rotate_left
    · have nb : (a_made == b_made) = false := by simpa using t_made
      have RS := Lib.hid (f_made.out t_made)
      clear t_made
      go_wp2_with (first | ((with_reducible show wpList _ _ _ (⟨some 2, _, _, _, _, _⟩ :: _) _ _); refine wpList_box_blk rfl _ (.tmp 0) rfl cs rfl ?_; intro g w1 hg1 hg2 K0 L1) | ((with_reducible show wpList _ _ _ (⟨some 3, _, _, _, _, _⟩ :: _) _ _); refine wpList_box_blk rfl _ (.tmp 1) rfl ds rfl ?_; intro h w2 hg3 hg4 K2 L2'; have K1 := Lib.hid (K0.out.over L2'.out); have L2 := Lib.hid (step L1.out L2'.out); obtain ⟨ca_dia, ca_siz, ca_lev, ca_dur, ca_made, ca_file, ca_kind, ca_data, ca_n, ca_ents, ca_more, ca_gone⟩ := FA.out _ _ K1.out; obtain ⟨cb_dia, cb_siz, cb_lev, cb_dur, cb_made, cb_file, cb_kind, cb_data, cb_n, cb_ents, cb_more, cb_gone⟩ := FB.out _ _ K2.out; have rA_chal := Lib.hid (RA_chal.out _ _ K1.out); have rB_chal := Lib.hid (RB_chal.out _ _ K2.out)) | (first | ((with_reducible show wpList _ _ _ (⟨some 18, _, _, _, _, _⟩ :: _) _ _); refine wpList_fld_w (by kernel_rfl) _ (.tmp 2) 2 rfl (.pointer (some ⟨g, 0, none⟩)) (.pointer (some ⟨g, 2, none⟩)) (by kernel_rfl) (fld_say2 g) ?_) | ((with_reducible show wpList _ _ _ (⟨some 19, _, _, _, _, _⟩ :: _) _ _); refine wpList_load_midw (by kernel_rfl) _ (.tmp 18) rfl g 2 rfl la_chal _ rA_chal Tryd.underlying41 rfl 8 size_chal NA_chal ?_) | ((with_reducible show wpList _ _ _ (⟨some 20, _, _, _, _, _⟩ :: _) _ _); refine wpList_fld_w (by kernel_rfl) _ (.tmp 3) 2 rfl (.pointer (some ⟨h, 0, none⟩)) (.pointer (some ⟨h, 2, none⟩)) (by kernel_rfl) (fld_say2 h) ?_) | ((with_reducible show wpList _ _ _ (⟨some 21, _, _, _, _, _⟩ :: _) _ _); refine wpList_load_midw (by kernel_rfl) _ (.tmp 20) rfl h 2 rfl lb_chal _ rB_chal Tryd.underlying41 rfl 8 size_chal NB_chal ?_) | fail))
      go_ret
      exact ⟨ret_bool RS.out.symm, L2.out⟩
    have nb_made : (a_made == b_made) = true := by simpa using t_made
    have e_made := Lib.hid t_made
    clear t_made
    by_cases t_file : a_file = b_file
    rotate_left
    · have nb : (a_file == b_file) = false := by simpa using t_file
      have RS := Lib.hid (f_file.out t_file)
      clear t_file
      go_wp2_with (first | ((with_reducible show wpList _ _ _ (⟨some 2, _, _, _, _, _⟩ :: _) _ _); refine wpList_box_blk rfl _ (.tmp 0) rfl cs rfl ?_; intro g w1 hg1 hg2 K0 L1) | ((with_reducible show wpList _ _ _ (⟨some 3, _, _, _, _, _⟩ :: _) _ _); refine wpList_box_blk rfl _ (.tmp 1) rfl ds rfl ?_; intro h w2 hg3 hg4 K2 L2'; have K1 := Lib.hid (K0.out.over L2'.out); have L2 := Lib.hid (step L1.out L2'.out); obtain ⟨ca_dia, ca_siz, ca_lev, ca_dur, ca_made, ca_file, ca_kind, ca_data, ca_n, ca_ents, ca_more, ca_gone⟩ := FA.out _ _ K1.out; obtain ⟨cb_dia, cb_siz, cb_lev, cb_dur, cb_made, cb_file, cb_kind, cb_data, cb_n, cb_ents, cb_more, cb_gone⟩ := FB.out _ _ K2.out; have rA_chal := Lib.hid (RA_chal.out _ _ K1.out); have rB_chal := Lib.hid (RB_chal.out _ _ K2.out)) | (first | ((with_reducible show wpList _ _ _ (⟨some 18, _, _, _, _, _⟩ :: _) _ _); refine wpList_fld_w (by kernel_rfl) _ (.tmp 2) 2 rfl (.pointer (some ⟨g, 0, none⟩)) (.pointer (some ⟨g, 2, none⟩)) (by kernel_rfl) (fld_say2 g) ?_) | ((with_reducible show wpList _ _ _ (⟨some 19, _, _, _, _, _⟩ :: _) _ _); refine wpList_load_midw (by kernel_rfl) _ (.tmp 18) rfl g 2 rfl la_chal _ rA_chal Tryd.underlying41 rfl 8 size_chal NA_chal ?_) | ((with_reducible show wpList _ _ _ (⟨some 20, _, _, _, _, _⟩ :: _) _ _); refine wpList_fld_w (by kernel_rfl) _ (.tmp 3) 2 rfl (.pointer (some ⟨h, 0, none⟩)) (.pointer (some ⟨h, 2, none⟩)) (by kernel_rfl) (fld_say2 h) ?_) | ((with_reducible show wpList _ _ _ (⟨some 21, _, _, _, _, _⟩ :: _) _ _); refine wpList_load_midw (by kernel_rfl) _ (.tmp 20) rfl h 2 rfl lb_chal _ rB_chal Tryd.underlying41 rfl 8 size_chal NB_chal ?_) | fail))
      go_ret
      exact ⟨ret_bool RS.out.symm, L2.out⟩
    have nb_file : (a_file == b_file) = true := by simpa using t_file
    have e_file := Lib.hid t_file
    clear t_file
    by_cases t_kind : a_kind = b_kind
    rotate_left
    · have nb : (a_kind == b_kind) = false := by simpa using t_kind
      have RS := Lib.hid (f_kind.out t_kind)
      clear t_kind
      go_wp2_with (first | ((with_reducible show wpList _ _ _ (⟨some 2, _, _, _, _, _⟩ :: _) _ _); refine wpList_box_blk rfl _ (.tmp 0) rfl cs rfl ?_; intro g w1 hg1 hg2 K0 L1) | ((with_reducible show wpList _ _ _ (⟨some 3, _, _, _, _, _⟩ :: _) _ _); refine wpList_box_blk rfl _ (.tmp 1) rfl ds rfl ?_; intro h w2 hg3 hg4 K2 L2'; have K1 := Lib.hid (K0.out.over L2'.out); have L2 := Lib.hid (step L1.out L2'.out); obtain ⟨ca_dia, ca_siz, ca_lev, ca_dur, ca_made, ca_file, ca_kind, ca_data, ca_n, ca_ents, ca_more, ca_gone⟩ := FA.out _ _ K1.out; obtain ⟨cb_dia, cb_siz, cb_lev, cb_dur, cb_made, cb_file, cb_kind, cb_data, cb_n, cb_ents, cb_more, cb_gone⟩ := FB.out _ _ K2.out; have rA_chal := Lib.hid (RA_chal.out _ _ K1.out); have rB_chal := Lib.hid (RB_chal.out _ _ K2.out)) | (first | ((with_reducible show wpList _ _ _ (⟨some 18, _, _, _, _, _⟩ :: _) _ _); refine wpList_fld_w (by kernel_rfl) _ (.tmp 2) 2 rfl (.pointer (some ⟨g, 0, none⟩)) (.pointer (some ⟨g, 2, none⟩)) (by kernel_rfl) (fld_say2 g) ?_) | ((with_reducible show wpList _ _ _ (⟨some 19, _, _, _, _, _⟩ :: _) _ _); refine wpList_load_midw (by kernel_rfl) _ (.tmp 18) rfl g 2 rfl la_chal _ rA_chal Tryd.underlying41 rfl 8 size_chal NA_chal ?_) | ((with_reducible show wpList _ _ _ (⟨some 20, _, _, _, _, _⟩ :: _) _ _); refine wpList_fld_w (by kernel_rfl) _ (.tmp 3) 2 rfl (.pointer (some ⟨h, 0, none⟩)) (.pointer (some ⟨h, 2, none⟩)) (by kernel_rfl) (fld_say2 h) ?_) | ((with_reducible show wpList _ _ _ (⟨some 21, _, _, _, _, _⟩ :: _) _ _); refine wpList_load_midw (by kernel_rfl) _ (.tmp 20) rfl h 2 rfl lb_chal _ rB_chal Tryd.underlying41 rfl 8 size_chal NB_chal ?_) | fail))
      go_ret
      exact ⟨ret_bool RS.out.symm, L2.out⟩
    have nb_kind : (a_kind == b_kind) = true := by simpa using t_kind
    have e_kind := Lib.hid t_kind
    clear t_kind
    go_wp2_with (first | ((with_reducible show wpList _ _ _ (⟨some 2, _, _, _, _, _⟩ :: _) _ _); refine wpList_box_blk rfl _ (.tmp 0) rfl cs rfl ?_; intro g w1 hg1 hg2 K0 L1) | ((with_reducible show wpList _ _ _ (⟨some 3, _, _, _, _, _⟩ :: _) _ _); refine wpList_box_blk rfl _ (.tmp 1) rfl ds rfl ?_; intro h w2 hg3 hg4 K2 L2'; have K1 := Lib.hid (K0.out.over L2'.out); have L2 := Lib.hid (step L1.out L2'.out); obtain ⟨ca_dia, ca_siz, ca_lev, ca_dur, ca_made, ca_file, ca_kind, ca_data, ca_n, ca_ents, ca_more, ca_gone⟩ := FA.out _ _ K1.out; obtain ⟨cb_dia, cb_siz, cb_lev, cb_dur, cb_made, cb_file, cb_kind, cb_data, cb_n, cb_ents, cb_more, cb_gone⟩ := FB.out _ _ K2.out; have rA_chal := Lib.hid (RA_chal.out _ _ K1.out); have rB_chal := Lib.hid (RB_chal.out _ _ K2.out)) | (first | ((with_reducible show wpList _ _ _ (⟨some 18, _, _, _, _, _⟩ :: _) _ _); refine wpList_fld_w (by kernel_rfl) _ (.tmp 2) 2 rfl (.pointer (some ⟨g, 0, none⟩)) (.pointer (some ⟨g, 2, none⟩)) (by kernel_rfl) (fld_say2 g) ?_) | ((with_reducible show wpList _ _ _ (⟨some 19, _, _, _, _, _⟩ :: _) _ _); refine wpList_load_midw (by kernel_rfl) _ (.tmp 18) rfl g 2 rfl la_chal _ rA_chal Tryd.underlying41 rfl 8 size_chal NA_chal ?_) | ((with_reducible show wpList _ _ _ (⟨some 20, _, _, _, _, _⟩ :: _) _ _); refine wpList_fld_w (by kernel_rfl) _ (.tmp 3) 2 rfl (.pointer (some ⟨h, 0, none⟩)) (.pointer (some ⟨h, 2, none⟩)) (by kernel_rfl) (fld_say2 h) ?_) | ((with_reducible show wpList _ _ _ (⟨some 21, _, _, _, _, _⟩ :: _) _ _); refine wpList_load_midw (by kernel_rfl) _ (.tmp 20) rfl h 2 rfl lb_chal _ rB_chal Tryd.underlying41 rfl 8 size_chal NB_chal ?_) | fail))
    refine (CS.out _ L2.out).mono ?_
    rintro e w' ⟨rfl, j_data, rfl⟩
    have K1_data' := K1.out.drewN j_data
    have K2_data' := K2.out.drewN j_data
    have L_data' := below_drewN L2.out j_data
    obtain ⟨w_data, hw_data⟩ : ∃ v, v = World.drewN w2 j_data := ⟨_, rfl⟩
    rw [← hw_data] at K1_data' K2_data' L_data' ⊢
    have K1_data := Lib.hid K1_data'
    have K2_data := Lib.hid K2_data'
    have L_data := Lib.hid L_data'
    clear hw_data K1_data' K2_data' L_data' ca_dia cb_dia ca_siz cb_siz ca_lev cb_lev ca_dur cb_dur ca_made cb_made ca_file cb_file ca_kind cb_kind ca_data cb_data ca_n cb_n ca_ents cb_ents ca_more cb_more ca_gone cb_gone
    clear rA_chal rB_chal
    cases z_data
    · have ne : ¬ a.data = b.data := by have := Z_data.out; simpa using this.symm
      have RS := Lib.hid (f_data.out ne)
      clear ne
      go_wp2_with fail
      go_ret
      exact ⟨ret_bool RS.out.symm, L_data.out⟩
    · have e_data : Hid (a.data = b.data) := by have := Z_data.out; show _ = _; simpa using this.symm
      obtain ⟨ca_dia, ca_siz, ca_lev, ca_dur, ca_made, ca_file, ca_kind, ca_data, ca_n, ca_ents, ca_more, ca_gone⟩ := FA.out _ _ K1_data.out
      obtain ⟨cb_dia, cb_siz, cb_lev, cb_dur, cb_made, cb_file, cb_kind, cb_data, cb_n, cb_ents, cb_more, cb_gone⟩ := FB.out _ _ K2_data.out
      have rA_chal := Lib.hid (RA_chal.out _ _ K1_data.out)
      have rB_chal := Lib.hid (RB_chal.out _ _ K2_data.out)
      by_cases t_n : a_n = b_n
      rotate_left
      · have nb : (a_n == b_n) = false := by simpa using t_n
        have RS := Lib.hid (f_n.out t_n)
        clear t_n
        go_wp2_with fail
        go_ret
        exact ⟨ret_bool RS.out.symm, L_data.out⟩
      have nb_n : (a_n == b_n) = true := by simpa using t_n
      have e_n := Lib.hid t_n
      clear t_n
      go_wp2_with fail
      refine (CR.out _ L_data.out).mono ?_
      rintro e w' ⟨rfl, j_ents, rfl⟩
      have K1_ents' := K1_data.out.drewN j_ents
      have K2_ents' := K2_data.out.drewN j_ents
      have L_ents' := below_drewN L_data.out j_ents
      obtain ⟨w_ents, hw_ents⟩ : ∃ v, v = World.drewN w_data j_ents := ⟨_, rfl⟩
      rw [← hw_ents] at K1_ents' K2_ents' L_ents' ⊢
      have K1_ents := Lib.hid K1_ents'
      have K2_ents := Lib.hid K2_ents'
      have L_ents := Lib.hid L_ents'
      clear hw_ents K1_ents' K2_ents' L_ents' ca_dia cb_dia ca_siz cb_siz ca_lev cb_lev ca_dur cb_dur ca_made cb_made ca_file cb_file ca_kind cb_kind ca_data cb_data ca_n cb_n ca_ents cb_ents ca_more cb_more ca_gone cb_gone
      clear rA_chal rB_chal
      cases z_ents
      · have ne : ¬ a.ents = b.ents := by have := Z_ents.out; simpa using this.symm
        have RS := Lib.hid (f_ents.out ne)
        clear ne
        go_wp2_with fail
        go_ret
        exact ⟨ret_bool RS.out.symm, L_ents.out⟩
      · have e_ents : Hid (a.ents = b.ents) := by have := Z_ents.out; show _ = _; simpa using this.symm
        obtain ⟨ca_dia, ca_siz, ca_lev, ca_dur, ca_made, ca_file, ca_kind, ca_data, ca_n, ca_ents, ca_more, ca_gone⟩ := FA.out _ _ K1_ents.out
        obtain ⟨cb_dia, cb_siz, cb_lev, cb_dur, cb_made, cb_file, cb_kind, cb_data, cb_n, cb_ents, cb_more, cb_gone⟩ := FB.out _ _ K2_ents.out
        have rA_chal := Lib.hid (RA_chal.out _ _ K1_ents.out)
        have rB_chal := Lib.hid (RB_chal.out _ _ K2_ents.out)
        by_cases t_more : a_more = b_more
        rotate_left
        · have nb : (a_more == b_more) = false := by simpa using t_more
          have RS := Lib.hid (f_more.out t_more)
          clear t_more
          go_wp2_with fail
          go_ret
          exact ⟨ret_bool RS.out.symm, L_ents.out⟩
        have nb_more : (a_more == b_more) = true := by simpa using t_more
        have e_more := Lib.hid t_more
        clear t_more
        by_cases t_gone : a_gone = b_gone
        rotate_left
        · have nb : (a_gone == b_gone) = false := by simpa using t_gone
          have RS := Lib.hid (f_gone.out t_gone)
          clear t_gone
          go_wp2_with fail
          go_ret
          exact ⟨ret_bool RS.out.symm, L_ents.out⟩
        have nb_gone : (a_gone == b_gone) = true := by simpa using t_gone
        have e_gone := Lib.hid t_gone
        clear t_gone
        go_wp2_with fail
        go_ret
        exact ⟨ret_bool (HT.out e_dia.out e_siz.out e_chal.out e_lev.out e_dur.out e_made.out e_file.out e_kind.out e_data.out e_n.out e_ents.out e_more.out e_gone.out).symm, L_ents.out⟩
end Go.Proofs.YtdlcjobahdmapaaDoor
