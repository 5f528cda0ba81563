/-
  PROVED HERE: 'Rows.InfoFreshUptoCardSaid': for every input whose values and letters are at most 1048576 together the Go function 'refectory/refectorylaw10.InfoFresh' returns true, and each argument reads afterwards as it read before. Conditions: that bound; the variables unicode/utf8.acceptRanges and unicode/utf8.first hold what the program's text lays in them (the card ties this).
-/
import Derived.WalkKit
import Derived.Deep.Draws
import Derived.Laws.Rows
import Derived.Laws.OwnMore
import Derived.Lib.RuneBytes
import Derived.Lib.ValidLaws
import Derived.Test.YtbbjmmooemmeiaaDoorRows
import Derived.Laws.CopyOwn
import Derived.Laws.AppendOwnNone
import Derived.Lib.Hide
import Derived.Laws.AppendOwn
import Derived.OwnWalk
import Derived.Lib.OthersKept
import Derived.Laws.BytesArg
import Derived.Shelf.Utf8.AppendRunePlain
import Derived.Shelf.Unicode.ValidAny
import Derived.Test.YtbbjmmooemmeiaaDoorProg
import Derived.WalkSpells
import Derived.WalkLawsBesides
import Derived.Deep.QuietTactic
import Derived.BigQuiet
import Derived.Laws.Bits64
import Derived.Laws.BitsAllLaws
import Derived.ProofKit
import Derived.OpenShut
import Derived.ShutString
import Derived.SizedLaws
import Derived.ChangeOld
import Derived.Lib.AppendZeros
import Derived.Deep.RegionWith
import Derived.Deep.DeepCutAuto
import Derived.Great.Walk
import Derived.Laws.Tables
import Derived.Laws.NewFold
import Derived.Deep.WholeRow
import Derived.Deep.MidRow
import Derived.OneCell
import Derived.Deep.Strs
import Derived.OrdersHeld
import Derived.Laws.StructEq
import Derived.ChangeKeysEq
import Derived.Deep.RegionLaw
import Derived.Deep.OwnRows
import Derived.Lib.LaidIn
import Derived.Lib.LaidU8T
import Derived.Deep.DeepHandedRow
import Derived.Test.YtbbjmmooemmeiaaDoorCards
import Derived.Test.YtbbjmmooemmeiaaDoorTie
import Derived.Below
import Derived.JoinedCond
import Derived.Deep.CondSized
import Derived.Test.YtbbjmmooemmeiaaDoorWAD
import Derived.Test.YtbbjmmooemmeiaaDoorWAE
import Derived.Test.YtbbjmmooemmeiaaDoorWAF
import Derived.Test.YtbbjmmooemmeiaaDoorWAG
import Derived.Test.YtbbjmmooemmeiaaDoorWAH
import Derived.Test.YtbbjmmooemmeiaaDoorWAI
import Derived.Test.YtbbjmmooemmeiaaDoorWAJ
import Derived.Test.YtbbjmmooemmeiaaDoorWAK
import Derived.Test.YtbbjmmooemmeiaaDoorWAM
import Derived.Test.YtbbjmmooemmeiaaDoorWAN
import Derived.Test.YtbbjmmooemmeiaaDoorWAO
import Derived.Test.YtbbjmmooemmeiaaDoorWAP
import Derived.Test.YtbbjmmooemmeiaaDoorWAQ
import Derived.Test.YtbbjmmooemmeiaaDoorWAR
import Derived.Test.YtbbjmmooemmeiaaDoorWAT
import Derived.Test.YtbbjmmooemmeiaaDoorWAW
import Derived.Test.YtbbjmmooemmeiaaDoorWAX
import Derived.Test.YtbbjmmooemmeiaaDoorWBC
namespace Go.Proofs.YtbbjmmooemmeiaaDoor.infoFreshUpto
open Go.ChangeShapes Go.WideShapes Go.ChangeAt Go.RowKit
set_option linter.unusedVariables false
set_option maxRecDepth 100000

theorem own : ownKnob Tryd.prog.godebug = none := by kernel_rfl
theorem laidOut : laidOutB Tryd.prog = true := by kernel_rfl
theorem bulk_part {H : Type} {l : List (DataW H)} (hk : Rows.uptoSmall H l = true) {d : DataW H} (h : d ∈ l) : Rows.uptoBulk d ≤ 1048576 := by
  have hall : Rows.uptoBulkAll l ≤ 1048576 := of_decide_eq_true hk
  have hp : Rows.uptoBulk d ≤ Rows.uptoBulkAll l := by
    clear hk hall
    induction l with
    | nil => cases h
    | cons x r ih =>
      simp only [Rows.uptoBulkAll]
      rcases List.mem_cons.1 h with e | e
      · subst e; omega
      · have := ih e; omega
  omega

theorem contract (H : Type) (enc : TypeId × Value → H) (W : World) (base : Nat) (args : Array Value) (ds gs : List (DataW H)) (before : List MemPlace)
    (hval : ∀ (j : Nat) t v, Tryd.f9.params[j]? = some t → args[j]? = some v → Value.okWide Tryd.prog W .any base t v)
    (hW : DataW.Whole enc Tryd.prog Tryd.f9.params.toList Rows.infoFreshSpec.vars false W args.toList ds gs before) (hk : Rows.uptoSmall H (ds ++ gs) = true)
    (hL : laidMetH Tryd.prog Rows.infoFreshUptoRow.laid W)
    (hsz : (DataW.weightsEach Tryd.prog (Tryd.f9.params.toList ++ (Rows.OpenSpec.upto Rows.infoFreshSpec).bare.plain.varTypes Tryd.prog) (ds ++ gs)).all (· ≤ reachBytes) = true) :
    Calls Tryd.prog 9 args W fun e W' => ∃ v, e = .returned v ∧ Rows.infoFreshSpec.post enc Tryd.prog Tryd.f9 false true false false W args v W' := by
  have hW' := hW
  obtain ⟨p, q, hA0, hV, rfl, hfz, hnd⟩ := hW
  have hA : DataW.TrodAll enc Tryd.prog W 0 (fun _ => true) true Tryd.f9.params.toList args.toList ds p := hA0
  rw [Tryd.params9] at hA hval hsz
  obtain ⟨v0, vs0, d0, ds0, p0, q0, hargs, rfl, rfl, h0, r_0⟩ := trodAll_cons hA
  obtain ⟨v1, vs1, d1, ds1, p1, q1, rfl, rfl, rfl, h1, r_1⟩ := trodAll_cons r_0
  obtain ⟨v2, vs2, d2, ds2, p2, q2, rfl, rfl, rfl, h2, r_2⟩ := trodAll_cons r_1
  obtain ⟨rfl, rfl, rfl⟩ := trodAll_nil r_2
  obtain rfl : args = #[v0, v1, v2] := by cases args; simp_all
  obtain ⟨rfl, rfl⟩ := trodVars_none hV
  have k0 := h0
  have lt0 : ∀ x ∈ p0, x.block < W.heap.size := by obtain ⟨m, hm⟩ := k0; exact DataW.trod_lt m _ _ _ hm
  have k1 := h1
  have lt1 : ∀ x ∈ p1, x.block < W.heap.size := by obtain ⟨m, hm⟩ := k1; exact DataW.trod_lt m _ _ _ hm
  have k2 := h2
  have lt2 : ∀ x ∈ p2, x.block < W.heap.size := by obtain ⟨m, hm⟩ := k2; exact DataW.trod_lt m _ _ _ hm
  obtain ⟨a0, rfl, rfl, rfl, w0⟩ := open_int Tryd.underlying23 (hval 0 23 v0 rfl rfl) h0
  obtain ⟨cs1, a1, rfl, k1h, h1h, b1⟩ := open_ask (hval 1 32 v1 rfl rfl) h1 (by have hb := bulk_part hk (d := d1) (by simp); omega)
  obtain ⟨cs2, a2, rfl, k2h, h2h, b2⟩ := open_saye (hval 2 45 v2 rfl rfl) h2 (by have hb := bulk_part hk (d := d2) (by simp); omega)
  clear hA0
  refine (walk_InfoFresh W (tabs_of_laid hL) a0 (int_bounds_u16 w0) cs1 a1 k1h h1h b1 cs2 a2 k2h h2h b2).mono fun e W' ⟨he, bel⟩ => ?_
  subst he
  exact ⟨_, rfl, _, _, _, [], _, [], hW', trodAll_mk1 (shut_bool Tryd.underlying4 _), (trodAll_cons_mk (Below.trod laidOut (by kernel_rfl) (of_decide_eq_true (by kernel_rfl)) k0 bel lt0) (trodAll_cons_mk (Below.trod laidOut (by kernel_rfl) (of_decide_eq_true (by kernel_rfl)) k1 bel lt1) (trodAll_cons_mk (Below.trod laidOut (by kernel_rfl) (of_decide_eq_true (by kernel_rfl)) k2 bel lt2) trodAll_mk0))), rfl, bel.frame _, fun h => by cases h⟩

theorem reads (os : Os) {H : Type} (enc : TypeId × Value → H) : ∃ places, DataW.whole enc Tryd.prog ((laidWorld os).forCall (fun _ _ => 0) ⟨#[], #[.int .u16 0, .agg (Go.Proofs.YtbbjmmooemmeiaaDoor.acells (.slice none 0 0) (.slice none 0 0) (.slice none 0 0) Go.Proofs.YtbbjmmooemmeiaaDoor.zeroAsk).toArray, .agg (Go.Proofs.YtbbjmmooemmeiaaDoor.scells (.slice none 0 0) (.slice none 0 0) Go.Proofs.YtbbjmmooemmeiaaDoor.zeroSay).toArray], []⟩).memory Tryd.f9.params.toList Rows.infoFreshSpec.vars false (#[.int .u16 0, .agg (Go.Proofs.YtbbjmmooemmeiaaDoor.acells (.slice none 0 0) (.slice none 0 0) (.slice none 0 0) Go.Proofs.YtbbjmmooemmeiaaDoor.zeroAsk).toArray, .agg (Go.Proofs.YtbbjmmooemmeiaaDoor.scells (.slice none 0 0) (.slice none 0 0) Go.Proofs.YtbbjmmooemmeiaaDoor.zeroSay).toArray] : Array Value).toList 8 = some ([.lit (.int .u16 0), .agg [.nil, .agg (List.replicate 16 (.lit (.int .u8 0))), .agg (List.replicate 32 (.lit (.int .u8 0))), .lit (.string []), .lit (.string []), .lit (.int .u32 0), .lit (.int .u32 0), .lit (.int .u32 0), .lit (.int .u32 0), .lit (.int .u8 0), .lit (.int .u8 0), .lit (.int .u64 0), .lit (.string []), .lit (.int .u64 0), .lit (.int .u32 0), .nil, .nil, .lit (.int .u16 0), .lit (.string []), .lit (.string []), .lit (.int .u16 0), .lit (.int .u64 0), .lit (.bool false)], .agg [.lit (.int .u16 0), .lit (.int .u64 0), .agg (List.replicate 8 (.lit (.int .u8 0))), .lit (.int .u8 0), .lit (.int .u8 0), .lit (.int .u16 0), .lit (.int .u64 0), .lit (.int .u8 0), .nil, .lit (.int .u32 0), .nil, .lit (.bool false), .lit (.bool false)]], [], places) :=
  ⟨[], by kernel_rfl⟩

set_option maxRecDepth 100000 in
theorem lifted (os : Os) (started : os.Started) (H : Type) (enc : TypeId × Value → H) (F : Stop.Interp) :
    ReturnsInHanded {} Tryd.checked os 9 .any ((Rows.OpenSpec.upto Rows.infoFreshSpec).preRow enc Tryd.prog Tryd.f9 Rows.infoFreshUptoRow.domain false Rows.infoFreshUptoRow.laid) (((Rows.OpenSpec.upto Rows.infoFreshSpec).at F).post enc Tryd.prog Tryd.f9 false true false false) := by
  obtain ⟨places, hx⟩ := reads os enc
  refine returnsInHanded_of_row (C := Tryd.checked) (s := Rows.OpenSpec.upto Rows.infoFreshSpec) own started (by kernel_rfl) Tryd.func9
    (witness_row_at (enc := enc) (C := Tryd.checked) false (laidWorld os) #[.int .u16 0, .agg (Go.Proofs.YtbbjmmooemmeiaaDoor.acells (.slice none 0 0) (.slice none 0 0) (.slice none 0 0) Go.Proofs.YtbbjmmooemmeiaaDoor.zeroAsk).toArray, .agg (Go.Proofs.YtbbjmmooemmeiaaDoor.scells (.slice none 0 0) (.slice none 0 0) Go.Proofs.YtbbjmmooemmeiaaDoor.zeroSay).toArray] rfl (by kernel_rfl) (by kernel_rfl) (by kernel_rfl)
      (OpenSpec.preRow_of_cond 8 hx (by kernel_rfl) (fun k hk => by cases hk; kernel_rfl) (by kernel_rfl) (laid_met os _))) ?_
  intro W base args ds gs before hval hW _ hcond hsz hL _ _
  exact contract H enc W base args ds gs before hval hW (hcond _ rfl) hL hsz

theorem row : Rows.InfoFreshUptoSaid :=
  OpenClaim.holds_of_cond 9 Tryd.f9 rfl rfl rfl rfl rfl rfl rfl ⟨rfl, rfl, rfl, rfl, rfl⟩ rfl rfl rfl rfl rfl (by kernel_rfl) Tryd.func9 (by kernel_rfl)
    (of_decide_eq_true (by kernel_rfl)) (by unfold Func.isWrapper; first | (rw [if_pos (by decide +kernel)]; kernel_rfl) | (rw [if_neg (by decide +kernel)]; exact ⟨rfl, rfl⟩))
    (fun os started H enc _ F => by rw [OpenClaim.pre_eq_preRow]; exact lifted os started H enc F)

theorem looks (f : FuncId) (fn : Func) (hf : Tryd.pinned.checked.prog.funcNamed "refectory/refectorylaw10.InfoFresh" = some f) (hfn : Tryd.pinned.checked.prog.funcs[f]? = some fn) :
    false = Tryd.pinned.checked.prog.looks [] ∧ ∀ (j : Nat) t, fn.params[j]? = some t → Tryd.pinned.checked.prog.wantsStandIn t = false := by
  obtain rfl : f = 9 := Option.some.inj ((show Tryd.prog.funcNamed "refectory/refectorylaw10.InfoFresh" = some 9 by kernel_rfl).symm.trans hf) |>.symm
  obtain rfl : fn = Tryd.f9 := (Option.some.inj (Tryd.func9.symm.trans hfn)).symm
  refine ⟨by kernel_rfl, fun j t ht => ?_⟩
  rw [Tryd.params9] at ht
  have h : (#[23, 32, 45] : Array TypeId).toList.all (fun t => !Tryd.prog.wantsStandIn t) = true := by kernel_rfl
  have := List.all_eq_true.1 h t (Array.mem_toList_iff.2 (Array.mem_of_getElem? ht))
  have h0 : Tryd.prog.wantsStandIn t = false := by simpa using this
  exact h0

/-- the card -/
theorem proved : Rows.InfoFreshUptoCardSaid :=
  Claim7.holds_tied_plain_at .later [] _ _ _ _ row (fun _ h => by cases h) (by kernel_rfl) (fun _ h => by cases h) infoFreshUpto_row_tie rfl ⟨rfl, rfl⟩ (by kernel_rfl) rfl looks (by kernel_rfl)
end Go.Proofs.YtbbjmmooemmeiaaDoor.infoFreshUpto
