import Derived.WalkKit
import Derived.Deep.Draws
import Derived.Laws.Rows
import Derived.Laws.OwnMore
import Derived.Laws.Bits64
import Derived.Laws.BitsAllLaws
import Derived.OpenShut
import Derived.Test.YtgfflnjggnadpaaDoorRows
import Derived.Lib.Hide
import Derived.BigQuiet
import Derived.Deep.QuietTactic
import Derived.Laws.CopyOwn
import Derived.Laws.AppendOwnNone
import Derived.Laws.Tables
import Derived.Laws.NewFold
import Derived.Deep.WholeRow
import Derived.StillTailTactics
import Derived.Deep.RegionLaw
import Derived.WalkSpells
import Derived.WalkLawsBesides
import Derived.Lib.AppendZeros
import Derived.Deep.RegionWith
import Derived.Deep.DeepCutAuto
import Derived.OrdersHeld
import Derived.Laws.StructEq
import Derived.ChangeKeysEq
import Derived.Laws.AppendOwn
import Derived.OwnWalk
import Derived.Lib.OthersKept
import Derived.Laws.BytesArg
import Derived.Laws.IdiomStrings
import Derived.ProofKit
import Derived.ShutString
import Derived.SizedLaws
import Derived.ChangeOld
import Derived.Great.Walk
import Derived.Lib.SlBytesConst
import Derived.Deep.MidRow
import Derived.Lib.SliceRun
import Derived.OneCell
import Derived.Deep.Strs
import Derived.Deep.Slices
import Derived.Laws.MakeOwn
import Derived.Test.YtgfflnjggnadpaaDoorWAC
import Derived.Test.YtgfflnjggnadpaaDoorWAE
import Derived.Test.YtgfflnjggnadpaaDoorWAF
import Derived.Test.YtgfflnjggnadpaaDoorWAG
import Derived.Test.YtgfflnjggnadpaaDoorWAH
import Derived.Test.YtgfflnjggnadpaaDoorWAL
import Derived.Test.YtgfflnjggnadpaaDoorWAN
namespace Go.Proofs.YtgfflnjggnadpaaDoor
set_option linter.all false
set_option maxRecDepth 100000
open Go.RowKit
/-- is it signed -/
def signedL (k m : List Int) : Bool := decide ((m.drop 48).take 16 = sigL k m)
theorem signL_len (k m : List Int) (h : 64 ≤ m.length) : (signL k m).length = m.length := by simp [signL, sigL_len]; omega
section
variable {k m : List Int}
theorem signL_head (h : 64 ≤ m.length) : (signL k m).take 48 = m.take 48 := by
  unfold signL
  rw [List.append_assoc, List.take_left' (by simp; omega)]
theorem signL_tail (h : 64 ≤ m.length) : (signL k m).drop 64 = m.drop 64 := by
  unfold signL
  rw [List.drop_left' (by simp [sigL_len]; omega)]
theorem signL_mid (h : 64 ≤ m.length) : ((signL k m).drop 48).take 16 = sigL k m := by
  unfold signL
  rw [List.append_assoc, List.drop_left' (by simp; omega), List.take_left' (sigL_len _ _)]
theorem blankL_sign (h : 64 ≤ m.length) : blankL (signL k m) = blankL m := by
  unfold blankL
  rw [signL_head h, signL_tail h]
theorem sigL_sign (h : 64 ≤ m.length) : sigL k (signL k m) = sigL k m := by unfold sigL; rw [blankL_sign h]
theorem signedL_sign (h : 64 ≤ m.length) : signedL k (signL k m) = true := by
  unfold signedL
  rw [decide_eq_true_iff, signL_mid h, sigL_sign h]
end
section
variable {w w' : World} {g B : Nat} {k : IntKind} {T : TypeId} {xs : List Int}
end
section
variable {P : Program} {ops : Array Oper} {rest : List Oper} {o : Oper} {a : Act} {w : World} {Q : Exit → Act → World → Prop}
theorem yieldsIf_s2ap {S : World → Prop} {op : Oper} (hw : Region.wanted op (yielded ops a.tmps) = true) (T : TypeId) (x : Operand) (ho : op.op = .sliceToArrayPointer T x) (n m c : Nat) (e : TypeId) (ad : Addr) (hx : a.eval x = .slice (some ad) m c)
    (hu : P.underlying T = some (.array n e)) (hm : n ≤ m) : YieldsIf P ops S op (.pointer (some ad)) a :=
  .inl ⟨hw, fun w _ => by
    have hlt : ¬ m < n := by omega
    unfold execOp
    simp only [ho, hx, Instr.arrayAt, Sem.run_bind, run_underlying hu, Sem.run_pure, Result.andThen_ok, hlt, if_false]⟩
theorem yieldsIf_load_part {S : World → Prop} {op : Oper} (hw : Region.wanted op (yielded ops a.tmps) = true) (T : TypeId) (x : Operand) (ho : op.op = .load T x) (b off : Nat) (hx : a.eval x = .pointer (some ⟨b, off, none⟩)) (k : IntKind) (xs : List Int) (n : Nat) (e : TypeId)
    (hS : ∀ w, S w → ∀ i, i < n → w.cell? ⟨b, off + i, none⟩ = some (.int k (xs.getD i 0))) (hu : P.underlying T = some (.array n e)) (hi : (P.info? T).map (·.size) = some n) (hn : Hid (xs.length = n)) : YieldsIf P ops S op (.agg (xs.map (Value.int k)).toArray) a :=
  .inl ⟨hw, fun w hw' => by
    have hr := run_loadVar_part (P := P) (w := w) k b off xs hu hi hn.out (hS w hw')
    unfold execOp
    simp only [ho, hx, Instr.loadAt, Instr.sureAddr, Sem.run_bind, Sem.run_pure, Result.andThen_ok, hr]⟩
section
variable {K : Act → World → Prop} {E : Prop}
end
end
end Go.Proofs.YtgfflnjggnadpaaDoor

namespace Go.Proofs.YtgfflnjggnadpaaDoor
set_option linter.all false
set_option maxRecDepth 100000
open Go.RowKit
set_option linter.unusedVariables false
theorem setFl_len (xs : List Int) (f : Int) (h : 20 ≤ xs.length) : (setFl xs f).length = xs.length := by simp [setFl, le_length]; omega
end Go.Proofs.YtgfflnjggnadpaaDoor

namespace Go.Proofs.YtgfflnjggnadpaaDoor
set_option linter.all false
set_option maxRecDepth 100000
open Go.RowKit
section
variable {ops : Array Oper} {rest : List Oper} {o : Oper} {a : Act} {w : World} {Q : Exit → Act → World → Prop}
end
/-! ### are two arrays the same -/

theorem run_equalIn_arr2 {P : Program} {T e : TypeId} {n : Nat} {k : IntKind} (hu : P.underlying T = some (.array n e)) (he : P.underlying e = some (.int k)) (hs : (P.info? e).map (·.size) = some 1) (xs ys : List Int) (hl : xs.length = n) (hm : ys.length = n) (d : Nat) (w : World) :
    (Op.equalIn (d + 2) T (.agg (xs.map (Value.int k)).toArray) (.agg (ys.map (Value.int k)).toArray)).run P w = .ok (decide (xs = ys)) w := by
  obtain ⟨j, hj, hj1⟩ : ∃ j, P.info? e = some j ∧ j.size = 1 := by
    cases hq : P.info? e with
    | none => simp [hq] at hs
    | some j => exact ⟨j, rfl, by simpa [hq] using hs⟩
  have hc : P.cellsOf e = 1 := by unfold Program.cellsOf; rw [hj]; simpa using hj1
  rw [show d + 2 = (d + 1) + 1 from rfl, run_equalIn_array w (d + 1) _ _ hu hj, hc]
  have key : ∀ is : List Nat, (∀ i ∈ is, i < n) → (Op.eqItems (d + 1) e 1 (xs.map (Value.int k)).toArray (ys.map (Value.int k)).toArray is).run P w = .ok (is.all fun i => xs.getD i 0 == ys.getD i 0) w := by
    intro is
    induction is with
    | nil => intro _; simp [Op.eqItems]
    | cons i is ih =>
      intro hi
      have hil : i < n := hi i List.mem_cons_self
      have hx : i < xs.length := by omega
      have hy : i < ys.length := by omega
      have hp : (part e (xs.map (Value.int k)).toArray (i * 1)).run P w = .ok (.int k xs[i]) w := by simp [part, isAgg, run_underlying he, hx]
      have hp2 : (part e (ys.map (Value.int k)).toArray (i * 1)).run P w = .ok (.int k ys[i]) w := by simp [part, isAgg, run_underlying he, hy]
      simp only [Op.eqItems, Sem.run_bind, hp, hp2, Result.andThen_ok, run_equalIn_int w d e k k _ _ he]
      have e1 : xs.getD i 0 = xs[i] := by simp [List.getD_eq_getElem?_getD, hx]
      have e2 : ys.getD i 0 = ys[i] := by simp [List.getD_eq_getElem?_getD, hy]
      rw [List.all_cons, e1, e2]
      by_cases hq : xs[i] = ys[i]
      · rw [hq]
        simp only [beq_self_eq_true, Bool.not_true, Bool.false_eq_true, if_false, Bool.true_and]
        exact ih fun i h => hi i (List.mem_cons_of_mem _ h)
      · have hb : (xs[i] == ys[i]) = false := by simpa using hq
        simp [hb]
  rw [key _ fun i h => List.mem_range.1 h]
  congr 1
  by_cases hq : xs = ys
  · subst hq
    simp
  · rw [decide_eq_false hq, List.all_eq_false]
    have hne : ¬ ∀ i, i < n → xs.getD i 0 = ys.getD i 0 := fun hall => hq (by
      apply List.ext_getElem (by omega)
      intro i h1 h2
      have := hall i (by omega)
      simpa [List.getD_eq_getElem?_getD, h1, h2] using this)
    obtain ⟨i, hi⟩ := Classical.not_forall.1 hne
    obtain ⟨hi1, hi2⟩ := Classical.not_imp.1 hi
    exact ⟨i, List.mem_range.2 hi1, by simpa using hi2⟩
end Go.Proofs.YtgfflnjggnadpaaDoor

namespace Go.Proofs.YtgfflnjggnadpaaDoor
set_option linter.all false
set_option maxRecDepth 100000
open Go.RowKit
section
variable {w : World} {B b off n c : Nat} {xs : List Int}
theorem Holds.some_of (h : Holds w B (some ⟨b, off, none⟩) n c xs) (h0 : 0 < n) : b < B ∧ ∀ i, i < n → w.cell? ⟨b, off + i, none⟩ = some (.int .u8 (xs.getD i 0)) := by
  obtain ⟨b1, off1, e, hb, hc⟩ := h.cells h0
  injection e with e
  injection e with e1 e2
  subst e1 e2
  exact ⟨hb, hc⟩
end
def checkErr (ks ms : List Int) : Int := if ms.length < 64 then 2 else if signedL ks ms = true then 0 else 6
set_option maxRecDepth 100000 in
set_option maxHeartbeats 2000000 in
theorem Check_any (w : World) (A : Option Addr) (n c : Nat) (ks : List Int) (hn : n ≤ 140737488355100) (h : Holds w w.heap.size A n c ks) (A2 : Option Addr) (n2 c2 : Nat) (ms : List Int) (hn2 : n2 ≤ 140737488355100) (h2 : Holds w w.heap.size A2 n2 c2 ms) (hK : KTab w) :
    Calls Tryd.prog 27 #[.slice A n c, .slice A2 n2 c2] w fun e w' => e = .returned (.int .i64 (checkErr ks ms)) ∧ Below w.heap.size w w' := by
  have HL2 := Lib.hid h2.len
  by_cases hlt : n2 < 64
  · have he : checkErr ks ms = 2 := by unfold checkErr; rw [if_pos (by rw [HL2.out]; exact hlt)]
    rw [he]
    clear he
    go_enter Tryd.func27, Tryd.ntmps27
    go_wp2_with fail
    go_ret
    exact ⟨rfl, Below.refl _ _⟩
  · obtain ⟨b, off, rfl, hbb, hcc⟩ := h2.cells (by omega)
    have he : checkErr ks ms = if signedL ks ms = true then 0 else 6 := by unfold checkErr; rw [if_neg (by rw [HL2.out]; exact hlt)]
    have hse : signedL ks ms = decide ((ms.drop 48).take 16 = sigL ks ms) := rfl
    have hmid := (h2.mid (j := 48) (k := 16) (by omega) (by omega) (by omega)).some_of (by omega)
    have cg := fun w h h2 hK => Lib.hid (signature_any w A n c ks hn h b off n2 c2 ms (by omega) hn2 h2 hK)
    have HR : Hid ((sigL ks ms).length = 16) := sigL_len _ _
    have HM : Hid (((ms.drop 48).take 16).length = 16) := by have := HL2.out; show _ = _; rw [List.length_take, List.length_drop]; omega
    obtain ⟨R, hR⟩ : ∃ R, R = sigL ks ms := ⟨_, rfl⟩
    obtain ⟨M, hM⟩ : ∃ M, M = (ms.drop 48).take 16 := ⟨_, rfl⟩
    rw [← hR] at cg HR hse
    rw [← hM] at HM hse hmid
    rw [hse] at he
    have q1 := fun w => run_equalIn_arr2 (P := Tryd.prog) Tryd.underlying47 Tryd.underlying5 one_u8 M R HM.out HR.out 9998 w
    have qg : Tryd.prog.eqGuardType Tryd.prog.depth 47 = false := by kernel_rfl
    obtain ⟨d, hd⟩ : ∃ d, d = decide (M = R) := ⟨_, rfl⟩
    rw [← hd] at q1 he
    rw [he]
    have cc := fun w => Lib.hid (cut_any w b off n2 c2 ms (by omega) h2.fit (by omega))
    unfold CutPostM at cc
    have HH := Lib.hid h
    have HH2 := Lib.hid h2
    have HT := Lib.hid hK
    have HMID := Lib.hid hmid
    have hge : (64 : Int) ≤ (n2 : Int) := by omega
    clear he hse hR hM hd h h2 hK hmid hcc
    go_enter Tryd.func27, Tryd.ntmps27
    go_wp2_with fail
    refine (cc _).out.mono ?_
    rintro e w7 ⟨A3, rfl, rfl, hA3⟩
    clear hA3
    go_upto_region 4 with (fail)
    refine wp_region_held (S := fun w' => ∀ i, i < 16 → w'.cell? ⟨b, off + 48 + i, none⟩ = some (.int .u8 (M.getD i 0))) (by kernel_rfl) ?_
    change wpAnyH _ _ _ _ _ _ _ _ w.drew
    have B0 : Hid (Below w.heap.size w w.drew) := (Below.refl _ w).drew
    have S0 : Hid (∀ i, i < 16 → w.drew.cell? ⟨b, off + 48 + i, none⟩ = some (.int .u8 (M.getD i 0))) := fun i hi => HMID.out.2 i hi
    refine wpAnyH_take (i := 0) (v := .slice (some ⟨b, off + 48, none⟩) 16 16) rfl (by kernel_rfl) (by kernel_rfl) (by kernel_rfl) (fun _ _ _ h => h) (.inl ⟨rfl, fun w _ => by go_simp⟩) S0.out ?_
    refine wpAnyH_take (i := 1) (v := .pointer (some ⟨b, off + 48, none⟩)) rfl (by kernel_rfl) (by kernel_rfl) (by kernel_rfl) (fun _ _ _ h => h) (yieldsIf_s2ap rfl _ (.tmp 17) rfl 16 16 16 _ _ rfl Tryd.underlying47 (by omega)) S0.out ?_
    refine wpAnyH_take (i := 2) (v := .agg (M.map (Value.int .u8)).toArray) rfl (by kernel_rfl) (by kernel_rfl) (by kernel_rfl) (fun _ _ _ h => h) (yieldsIf_load_part rfl _ (.tmp 18) rfl b (off + 48) rfl .u8 M 16 _ (fun _ h => h) Tryd.underlying47 size_g HM) S0.out ?_
    refine wpAnyH_take (i := 3) (v := .slice A n c) rfl (by kernel_rfl) (by kernel_rfl) (by kernel_rfl) (fun _ _ _ h => h) (.inl ⟨rfl, fun w _ => by go_simp⟩) S0.out ?_
    refine wpAnyH_take (i := 4) (v := .slice (some ⟨b, off, none⟩) n2 c2) rfl (by kernel_rfl) (by kernel_rfl) (by kernel_rfl) (fun _ _ _ h => h) (.inl ⟨rfl, fun w _ => by go_simp⟩) S0.out ?_
    refine wpAnyH_one 5 _ (by kernel_rfl) rfl fun K hK => ?_
    go_simp
    refine (cg _ (HH.out.over B0.out) (HH2.out.over B0.out) (HT.out.below B0.out)).out.mono ?_
    rintro e w1 ⟨rfl, b1⟩
    have B1 := Lib.hid (step B0.out b1)
    have S1 : Hid (∀ i, i < 16 → w1.cell? ⟨b, off + 48 + i, none⟩ = some (.int .u8 (M.getD i 0))) := fun i hi => by
      rw [← HMID.out.2 i hi]
      exact B1.out.cell (p := ⟨b, off + 48 + i, none⟩) HMID.out.1
    refine hK _ _ S1.out ?_
    clear hK K b1
    refine wpAnyH_one 6 _ (by kernel_rfl) rfl fun K hK => ?_
    go_simp
    refine hK _ _ S1.out ?_
    clear hK K
    refine wpAnyH_done (by kernel_rfl) ?_ _
    cases d
    · go_wp2_with fail
      go_ret
      exact ⟨rfl, B1.out⟩
    · go_wp2_with fail
      go_ret
      exact ⟨rfl, B1.out⟩
end Go.Proofs.YtgfflnjggnadpaaDoor

namespace Go.Proofs.YtgfflnjggnadpaaDoor
set_option linter.all false
set_option maxRecDepth 100000
open Go.RowKit
theorem signO_long (ks ms : List Int) (h : 64 ≤ ms.length) : signO ks ms = signL ks ms := by unfold signO; rw [if_neg (by omega)]
theorem signO_len (ks ms : List Int) (h : 64 ≤ ms.length) : (signO ks ms).length = ms.length := by rw [signO_long _ _ h, signL_len _ _ h]
theorem checkErr_sign (ks ms : List Int) (h : 64 ≤ ms.length) : checkErr ks (signO ks ms) = 0 := by
  unfold checkErr
  rw [if_neg (by rw [signO_len _ _ h]; omega), signO_long _ _ h, if_pos (signedL_sign h)]
end Go.Proofs.YtgfflnjggnadpaaDoor

namespace Go.Proofs.YtgfflnjggnadpaaDoor
set_option linter.all false
set_option maxRecDepth 100000
open Go.RowKit
set_option linter.unusedVariables false
/-- each part of what is sealed by a key -/
theorem signed_part {ks : List Int} (hk : ¬ ks = []) (last : Bool) {m : List Int} (hb : Bytes m) (h : msgOk m = true) (hs : padLen m.length ≤ 4294967295) :
    getErrH (sealC ks last m) 0 = 0 ∧ (getOfH (sealC ks last m) 0).fl / 8 % 2 = 1 ∧ checkErr ks (sealC ks last m) = 0 := by
  obtain ⟨g, k, hm, e, _, hf⟩ := sealC_form ks last hb h hs
  have h64 := (msg_of hb h).1
  have hok := msg_of hb h
  have hg := get_begin k hm (tailC last m)
  rw [← e] at hg
  rw [if_neg hk] at hf
  refine ⟨hg.1, ?_, ?_⟩
  · rw [hg.2, hf]
    exact (flS_small hok.2.2.2.1.fl.1 (may_parts hok.2.2.1).2.1).2.2.2.1
  · have hl := rawC_len last m h64
    have hpf := pad_facts m.length
    have hy : 64 ≤ (setFl (rawC last m) (flS (getOfH m 0).fl)).length := by
      rw [setFl_len _ _ (by rw [hl]; split <;> omega), hl]
      split <;> omega
    unfold sealC
    rw [if_neg hk, ← signO_long ks _ hy]
    exact checkErr_sign ks _ hy
set_option maxHeartbeats 8000000 in
theorem walk_ChainSigned (W : World) (hT : KTab W) (A0 : Option Addr) (n0 c0 : Nat) (z0 : List Int) (l0 : n0 ≤ c0) (r0 : c0 ≤ 140737488351232) (h0 : Holds W W.heap.size A0 c0 c0 z0)
    (A1 : Option Addr) (n1 c1 : Nat) (z1 : List PartT) (l1 : n1 ≤ c1) (r1 : c1 ≤ 5864062014634 ∧ ∀ y ∈ z1, y.2.2.1 ≤ 140737488351232) (h1 : Lst W W.heap.size A1 c1 c1 z1) :
    Calls Tryd.prog 8 #[.slice A0 n0 c0, .slice A1 n1 c1] W fun e W' => e = .returned (.bool true) ∧ Below W.heap.size W W' := by
  have hx := h1.head l1
  have hk := h0.head l0
  have hs : ∀ p ∈ z1.take n1, p.2.1 ≤ 140737488351232 := fun p hp => by have h2 := (hx.each p hp).fit; have h3 := r1.2 p (List.mem_of_mem_take hp); omega
  obtain ⟨ps, hps⟩ : ∃ ps, ps = z1.take n1 := ⟨_, rfl⟩
  obtain ⟨ks, hks⟩ : ∃ ks, ks = z0.take n0 := ⟨_, rfl⟩
  rw [← hps] at hx hs
  rw [← hks] at hk
  have CLG := long_any W A1 n1 c1 ps hx (by omega) A0 n0 c0 (by omega) hs
  have CV := fun w hK => Lib.hid (livesC_any w hK)
  have HT := Lib.hid hT
  by_cases hlg : longB n1 n0 (rowsL ps) = true
  · rw [hlg] at CLG
    have CLG' := Lib.hid CLG
    clear hx hk hs CLG hlg hps hks h0 h1 hT
    go_enter Tryd.func8, Tryd.ntmps8
    go_wp2_with fail
    refine CLG'.out.mono ?_
    rintro e w1 ⟨rfl, rfl⟩
    go_wp2_with fail
    refine (CV _ HT.out).out.mono ?_
    rintro e w2 ⟨rfl, b2⟩
    go_wp2
    go_ret
    exact ⟨rfl, b2⟩
  · have hlg : longB n1 n0 (rowsL ps) = false := by simpa using hlg
    rw [hlg] at CLG
    obtain ⟨hn, hnk, hall⟩ := longB_not hlg
    have CLG' := Lib.hid CLG
    by_cases hk0 : n0 = 0
    · subst hk0
      clear hx hk hs CLG hlg hps hks h0 h1 hT hall
      go_enter Tryd.func8, Tryd.ntmps8
      go_wp2_with fail
      refine CLG'.out.mono ?_
      rintro e w1 ⟨rfl, rfl⟩
      go_wp2_with fail
      refine (CV _ HT.out).out.mono ?_
      rintro e w2 ⟨rfl, b2⟩
      go_wp2
      go_ret
      exact ⟨rfl, b2⟩
    · have hz0 : ((n0 : Int) == 0) = false := by simp; omega
      have hke : ¬ ks = [] := fun e => hk0 (by have := hk.len; rw [e] at this; exact this.symm)
      have hs5 : ∀ p ∈ ps, p.2.1 ≤ 5000 := fun p hp => by
        have h2 := hall p.2.2.2 (List.mem_map.2 ⟨p, hp, rfl⟩)
        rw [(hx.each p hp).len] at h2
        exact h2
      have hb := rows_bytes hx hs5
      have hb2 : ∀ m ∈ rowsL ps, Bytes m ∧ m.length ≤ 4294967000 := fun m hm => ⟨(hb m hm).1, by have := (hb m hm).2; omega⟩
      have hl : (rowsL ps).length = n1 := by rw [rowsL, List.length_map]; exact hx.row.len
      have cj := Seal_any W A0 n0 c0 ks hk (by omega) A1 n1 c1 ps hx (by omega) (fun p hp => by have := hs5 p hp; omega) hT
      unfold SealPost at cj
      have hso := sealOf_small ks (rowsL ps) hb2
      by_cases he : chainErr (rowsL ps) = 0
      · have hcf := chain_facts ks he hb2
        obtain ⟨_, _, hall2⟩ := chainErr_ok he
        have HPF : Hid (∀ (i : Nat) (x : List Int), (sealL ks (rowsL ps))[i]? = some x → getErrH x 0 = 0 ∧ (getOfH x 0).fl / 8 % 2 = 1 ∧ checkErr ks x = 0 ∧ x.length ≤ 4294967100 ∧ Bytes x) := by
          intro i x hi
          have hil : i < (rowsL ps).length := by have := (List.getElem?_eq_some_iff.1 hi).1; rwa [sealL_len] at this
          rw [sealL_get ks _ i hil] at hi
          have hm : (rowsL ps).getD i [] ∈ rowsL ps := by
            rw [List.getD_eq_getElem?_getD, List.getElem?_eq_getElem hil]
            exact List.getElem_mem hil
          have h2 := hb2 _ hm
          have hpf := pad_facts ((rowsL ps).getD i []).length
          have h3 := signed_part hke (decide (i + 1 = (rowsL ps).length)) h2.1 (hall2 _ hm) (by omega)
          have h4 := seal_small ks _ he hb2 i hil
          have hx1 : sealC ks (decide (i + 1 = (rowsL ps).length)) ((rowsL ps).getD i []) = x := Option.some.inj hi
          have hx2 : sealX ks (rowsL ps) i = x := Option.some.inj hi
          rw [hx1] at h3
          rw [hx2] at h4
          exact ⟨h3.1, h3.2.1, h3.2.2, h4.2.1, h4.2.2.1⟩
        obtain ⟨B, hB⟩ : ∃ B, B = sealOf ks (rowsL ps) := ⟨_, rfl⟩
        obtain ⟨PL, hPL⟩ : ∃ PL, PL = sealL ks (rowsL ps) := ⟨_, rfl⟩
        have hPLl : PL.length = n1 := by rw [hPL, sealL_len, hl]
        rw [he, ← hB] at cj
        rw [← hB] at hcf hso
        rw [← hPL] at hcf HPF
        obtain ⟨_, _, hbeg, _, _, hsp⟩ := hcf
        obtain ⟨M, hM⟩ : ∃ M, M = B.length := ⟨_, rfl⟩
        have csp := fun (w : World) A c (h : Holds w w.heap.size A M c B) => Split_any w A M c B h (by rw [hM]; have := hso.1; omega)
        unfold SplitPost at csp
        have cg := fun (w : World) A c (h : Holds w w.heap.size A M c B) => RGetH_any w A M c B 0 h (by omega)
        unfold GetHPost at cg
        have hgk := getOfH_ok B 0 hso.2
        have hge := (partE_ok hbeg).1
        have CJ := Lib.hid cj
        have HSO := Lib.hid hso
        have HM := Lib.hid hM
        have HPL := Lib.hid hPLl
        obtain ⟨g, hg⟩ : ∃ g, g = getOfH B 0 := ⟨_, rfl⟩
        rw [← hg] at hgk hsp
        simp only [← hg, hge] at cg
        have cha := fun (w : World) => RHasF_any w g hgk 4 (by omega)
        have hrl : decide (g.fl / 4 % 2 = 1) = isRel g.fl := rfl
        simp only [hrl] at cha
        obtain ⟨z, hz⟩ : ∃ z, z = isRel g.fl := ⟨_, rfl⟩
        rw [← hz] at hsp
        simp only [← hz] at cha
        have HL := Lib.hid (hcells_len hgk)
        have HO := Lib.hid (hcells_one g)
        have HZ := Lib.hid (hcells_len zeroHd_ok)
        have ZH := Lib.hid zero_hd
        obtain ⟨cs, hcs⟩ : ∃ cs, cs = hcells g := ⟨_, rfl⟩
        obtain ⟨zs, hzs⟩ : ∃ zs, zs = hcells zeroHd := ⟨_, rfl⟩
        unfold hv at cg cha
        rw [← hzs] at HZ ZH
        rw [← hcs] at HL HO
        simp only [← hcs] at cg cha
        have CG := Lib.hid cg
        have CHA := Lib.hid cha
        simp only [hsp] at csp
        clear hx hn hs hps hks hb hb2 hl cj hso he hall2 hB hPL hPLl hbeg hsp hM cg hgk hge hg cha hrl hz hcs hzs h0 h1 hT CLG hlg hall hs5 hke hk0
        cases z
        · simp only [Bool.false_eq_true, if_false] at csp
          have CSP := Lib.hid csp
          have HKK := Lib.hid hk
          have HNK : Hid (n0 ≤ 140737488355100) := by show _ ≤ _; omega
          clear csp hk
          go_enter Tryd.func8, Tryd.ntmps8
          go_wp2_with fail
          refine CLG'.out.mono ?_
          rintro e w0 ⟨rfl, rfl⟩
          go_wp2_with fail
          refine CJ.out.mono ?_
          rintro e w1 ⟨v1, rfl, o1, b1⟩
          obtain ⟨A2, c2, rfl, h2⟩ := Own.holds (show Own _ _ _ _ from o1.own) HSO.out.2 (by have := HSO.out.1; omega)
          rw [← HM.out] at h2 ⊢
          have H2 := Lib.hid h2
          have B1 := Lib.hid b1
          clear o1 h2 b1 CJ
          go_wp2_with fail
          refine (CSP.out w1 A2 c2 H2.out).mono ?_
          rintro e w2 ⟨v2, qs, rfl, o2, q2, b2⟩
          obtain ⟨A3, n3, c3, rfl, l3⟩ := o2.lst
          obtain rfl : n3 = n1 := by
            have h1 := l3.row.len
            have h2 := congrArg List.length q2
            rw [rowsL, List.length_map] at h2
            have := HPL.out
            omega
          have HL3 := Lib.hid l3
          have HQ3 := Lib.hid q2
          have H3 := Lib.hid (H2.out.over b2)
          have B2 := Lib.hid (step B1.out b2)
          clear o2 l3 q2 b2 H2 B1 CSP
          go_wp2_with fail
          refine (CG.out w2 A2 c2 H3.out).mono ?_
          rintro e w3 ⟨rfl, b3⟩
          have HL4 := Lib.hid (HL3.out.over b3)
          have B3 := Lib.hid (step B2.out b3)
          clear b3 H3 HL3 B2 CG
          go_wp2_with (first
            | ((with_reducible show wpList _ _ _ (⟨some 9, _, _, _, _, _⟩ :: _) _ _); refine wpList_alloc_blk rfl _ rfl zs _ ZH ?_; intro g4 w5 hg41 hg42 X4 L5)
            | ((with_reducible show wpList _ _ _ (⟨none, .store _ (.tmp 9) _, _, _, _, _⟩ :: _) _ _); refine wpList_store_blk rfl _ (.tmp 9) (.tmp 40) rfl g4 rfl _ zs cs rfl X4 26 size_hd HZ HL HO ?_; intro w6 X6 O6 hg6)
            | ((with_reducible show wpList _ _ _ (⟨some 42, _, _, _, _, _⟩ :: _) _ _); refine wpList_load_blk rfl _ (.tmp 9) rfl g4 rfl _ cs X6 26 _ Tryd.underlying49 rfl size_hd HL ?_)
            | fail)
          have L36 := Lib.hid (below_only L5.out O6.out hg41)
          refine (CHA.out w6).mono ?_
          rintro e w7 ⟨rfl, b7⟩
          have HL7 := Lib.hid ((HL4.out.over L36.out).over b7)
          have B7 := Lib.hid (step (step B3.out L36.out) b7)
          clear b7 L5 O6 X4 X6 L36 HL4 B3 CHA hg41 hg42 hg6
          go_wp2_with fail
          obtain ⟨wa, hwa⟩ : ∃ w, w = w7 := ⟨_, rfl⟩
          go_loopw [11] (fun i wr => ∃ k : Nat, k ≤ n3 ∧ i = .int .i64 k ∧ Hid (Below w7.heap.size w7 wr)) (fun i _ => n3 - (intOf i).toNat)
          case atStart => exact ⟨0, by omega, rfl, Below.refl _ _⟩
          case round =>
            obtain ⟨k, hk, rfl, hb⟩ := hrel
            have LWR := Lib.hid (step B7.out hb.out)
            by_cases hlt : k < n3
            · obtain ⟨b, off, p, rfl, hbb, hp, hcell, hhp⟩ := (HL7.out.over hb.out).at hlt
              have hxk : PL[k]? = some p.2.2.2 := by rw [← HQ3.out, rowsL, List.getElem?_map, hp]; rfl
              obtain ⟨f1, f2, f3, f4, f5⟩ := HPF.out k _ hxk
              have cg := fun (w : World) (h : Holds w w.heap.size p.1 p.2.1 p.2.2.1 p.2.2.2) => RGetH_any w _ _ _ _ 0 h (by omega)
              unfold GetHPost at cg
              have hgk := getOfH_ok p.2.2.2 0 f5
              rw [f1] at cg
              have cha := fun (w : World) => RHasF_any w _ hgk 8 (by omega)
              simp only [decide_eq_true f2] at cha
              have cck := fun (w : World) h1 h2 hK => Check_any w A0 n0 c0 ks HNK.out h1 p.1 p.2.1 p.2.2.1 p.2.2.2 (by rw [← hhp.len]; omega) h2 hK
              rw [f3] at cck
              obtain ⟨⟨pA, pn, pc, px⟩, hpe⟩ : ∃ r, r = p := ⟨_, rfl⟩
              rw [← hpe] at hcell cg hgk cha cck hhp
              dsimp only at hcell cg hgk cha cck hhp
              obtain ⟨q, hq⟩ : ∃ q, q = getOfH px 0 := ⟨_, rfl⟩
              rw [← hq] at cg hgk
              simp only [← hq] at cha
              have HLq := Lib.hid (hcells_len hgk)
              have HOq := Lib.hid (hcells_one q)
              obtain ⟨ds, hds⟩ : ∃ ds, ds = hcells q := ⟨_, rfl⟩
              unfold hv at cg cha
              rw [← hds] at HLq HOq
              simp only [← hds] at cg cha
              have CG := Lib.hid cg
              have CHA := Lib.hid cha
              have CCK := Lib.hid cck
              have HP := Lib.hid hhp
              have HBk : Hid (b < wr.heap.size) := hbb
              clear hp hpe hxk f1 f2 f3 f4 f5 cg hgk cha cck hhp hq hds hbb
              go_wp2_with fail
              refine (CG.out wr HP.out).mono ?_
              rintro e w9 ⟨rfl, b9⟩
              have B9 := Lib.hid b9
              clear b9
              go_wp2_with (first
                | ((with_reducible show wpList _ _ _ (⟨some 12, _, _, _, _, _⟩ :: _) _ _); refine wpList_alloc_blk rfl _ rfl zs _ ZH ?_; intro g14 w15 hg141 hg142 X14 L15)
                | ((with_reducible show wpList _ _ _ (⟨none, .store _ (.tmp 12) _, _, _, _, _⟩ :: _) _ _); refine wpList_store_blk rfl _ (.tmp 12) (.tmp 70) rfl g14 rfl _ zs ds rfl X14 26 size_hd HZ HLq HOq ?_; intro w16 X16 O16 hg16)
                | ((with_reducible show wpList _ _ _ (⟨some 75, _, _, _, _, _⟩ :: _) _ _); refine wpList_load_want (by kernel_rfl) _ (.tmp 12) rfl g14 rfl _ ds X16 26 _ Tryd.underlying49 rfl size_hd HLq ?_)
                | fail)
              have L16 := Lib.hid (step B9.out (below_only L15.out O16.out hg141))
              refine (CHA.out w16).mono ?_
              rintro e w17 ⟨rfl, b17⟩
              have L17 := Lib.hid (step L16.out b17)
              have gc17 : w17.cell? ⟨b, off + k, none⟩ = some (.slice pA pn pc) := by rw [← hcell]; exact L17.out.cell HBk.out
              clear b17 L16 L15 O16 X14 B9 hcell hg141 hg142 hg16
              go_wp2_with fail
              refine (CCK.out w17 (((HKK.out.over B7.out).over hb.out).over L17.out) (HP.out.over L17.out) (HT.out.below (step LWR.out L17.out))).mono ?_
              rintro e w18 ⟨rfl, b18⟩
              have L18 := Lib.hid (step L17.out b18)
              clear b18 gc17 X16 L17
              go_wp2_with fail
              go_roundw
              case rel => exact ⟨k + 1, by omega, by go_num, step hb.out L18.out⟩
              case measure => simp [intOf]; omega
            · obtain rfl : k = n3 := by omega
              go_wp2_with fail
              refine (CV wr (HT.out.below LWR.out)).out.mono ?_
              rintro e w6 ⟨rfl, b6⟩
              go_wp2
              go_ret
              exact ⟨rfl, step LWR.out b6⟩
        · simp only [if_true] at csp
          have CSP := Lib.hid csp
          clear csp hk
          go_enter Tryd.func8, Tryd.ntmps8
          go_wp2_with fail
          refine CLG'.out.mono ?_
          rintro e w0 ⟨rfl, rfl⟩
          go_wp2_with fail
          refine CJ.out.mono ?_
          rintro e w1 ⟨v1, rfl, o1, b1⟩
          obtain ⟨A2, c2, rfl, h2⟩ := Own.holds (show Own _ _ _ _ from o1.own) HSO.out.2 (by have := HSO.out.1; omega)
          rw [← HM.out] at h2 ⊢
          have H2 := Lib.hid h2
          have B1 := Lib.hid b1
          clear o1 h2 b1 CJ
          go_wp2_with fail
          refine (CSP.out w1 A2 c2 H2.out).mono ?_
          rintro e w2 ⟨v2, qs, rfl, o2, q2, b2⟩
          have H3 := Lib.hid (H2.out.over b2)
          have B2 := Lib.hid (step B1.out b2)
          clear o2 q2 b2 H2 B1 CSP
          go_wp2_with fail
          refine (CG.out w2 A2 c2 H3.out).mono ?_
          rintro e w3 ⟨rfl, b3⟩
          have B3 := Lib.hid (step B2.out b3)
          clear b3 H3 B2 CG
          go_wp2_with (first
            | ((with_reducible show wpList _ _ _ (⟨some 9, _, _, _, _, _⟩ :: _) _ _); refine wpList_alloc_blk rfl _ rfl zs _ ZH ?_; intro g4 w5 hg41 hg42 X4 L5)
            | ((with_reducible show wpList _ _ _ (⟨none, .store _ (.tmp 9) _, _, _, _, _⟩ :: _) _ _); refine wpList_store_blk rfl _ (.tmp 9) (.tmp 40) rfl g4 rfl _ zs cs rfl X4 26 size_hd HZ HL HO ?_; intro w6 X6 O6 hg6)
            | ((with_reducible show wpList _ _ _ (⟨some 42, _, _, _, _, _⟩ :: _) _ _); refine wpList_load_blk rfl _ (.tmp 9) rfl g4 rfl _ cs X6 26 _ Tryd.underlying49 rfl size_hd HL ?_)
            | fail)
          have L36 := Lib.hid (below_only L5.out O6.out hg41)
          refine (CHA.out w6).mono ?_
          rintro e w7 ⟨rfl, b7⟩
          have B7 := Lib.hid (step (step B3.out L36.out) b7)
          clear b7 L5 O6 X4 X6 L36 B3 CHA hg41 hg42 hg6
          go_wp2_with fail
          refine (CV w7 (HT.out.below B7.out)).out.mono ?_
          rintro e w8 ⟨rfl, b8⟩
          go_wp2
          go_ret
          exact ⟨rfl, step B7.out b8⟩
      · obtain ⟨E, hE⟩ : ∃ E, E = chainErr (rowsL ps) := ⟨_, rfl⟩
        rw [← hE] at cj he
        have hne : (E != 0) = true := by simpa using he
        have CJ := Lib.hid cj
        clear hx hk hs CLG hlg hps hks h0 h1 hT hall hb hb2 hl cj hso he hE hke hk0
        go_enter Tryd.func8, Tryd.ntmps8
        go_wp2_with fail
        refine CLG'.out.mono ?_
        rintro e w0 ⟨rfl, rfl⟩
        go_wp2_with fail
        refine CJ.out.mono ?_
        rintro e w1 ⟨v1, rfl, o1, b1⟩
        have B1 := Lib.hid b1
        clear o1 b1 CJ
        go_wp2_with fail
        refine (CV w1 (HT.out.below B1.out)).out.mono ?_
        rintro e w8 ⟨rfl, b8⟩
        go_wp2
        go_ret
        exact ⟨rfl, step B1.out b8⟩
end Go.Proofs.YtgfflnjggnadpaaDoor
