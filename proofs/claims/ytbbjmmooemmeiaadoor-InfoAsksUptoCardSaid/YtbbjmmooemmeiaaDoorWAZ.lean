import Derived.WalkKit
import Derived.Deep.Draws
import Derived.Laws.Rows
import Derived.Laws.OwnMore
import Derived.Test.YtbbjmmooemmeiaaDoorRows
import Derived.Laws.CopyOwn
import Derived.Laws.AppendOwnNone
import Derived.Lib.Hide
import Derived.Laws.Tables
import Derived.Laws.NewFold
import Derived.Deep.WholeRow
import Derived.Deep.MidRow
import Derived.Great.Walk
import Derived.OrdersHeld
import Derived.Laws.StructEq
import Derived.ChangeKeysEq
import Derived.Laws.Bits64
import Derived.Laws.BitsAllLaws
import Derived.WalkSpells
import Derived.WalkLawsBesides
import Derived.Lib.RuneBytes
import Derived.Lib.ValidLaws
import Derived.Laws.AppendOwn
import Derived.OwnWalk
import Derived.Lib.OthersKept
import Derived.Laws.BytesArg
import Derived.Shelf.Utf8.AppendRunePlain
import Derived.Shelf.Unicode.ValidAny
import Derived.Test.YtbbjmmooemmeiaaDoorProg
import Derived.Deep.QuietTactic
import Derived.BigQuiet
import Derived.ProofKit
import Derived.OpenShut
import Derived.ShutString
import Derived.SizedLaws
import Derived.ChangeOld
import Derived.Lib.AppendZeros
import Derived.Deep.RegionWith
import Derived.Deep.DeepCutAuto
import Derived.OneCell
import Derived.Deep.Strs
import Derived.Deep.RegionLaw
import Derived.Deep.OwnRows
import Derived.Test.YtbbjmmooemmeiaaDoorWAD
import Derived.Test.YtbbjmmooemmeiaaDoorWAE
import Derived.Test.YtbbjmmooemmeiaaDoorWAF
import Derived.Test.YtbbjmmooemmeiaaDoorWAH
import Derived.Test.YtbbjmmooemmeiaaDoorWAK
import Derived.Test.YtbbjmmooemmeiaaDoorWAL
import Derived.Test.YtbbjmmooemmeiaaDoorWAM
import Derived.Test.YtbbjmmooemmeiaaDoorWAO
import Derived.Test.YtbbjmmooemmeiaaDoorWAP
import Derived.Test.YtbbjmmooemmeiaaDoorWAT
import Derived.Test.YtbbjmmooemmeiaaDoorWAU
namespace Go.Proofs.YtbbjmmooemmeiaaDoor
set_option linter.all false
open Go.RowKit
section
section
variable {P : Program} {w : World} {d : Nat} {xs ys : Array Value} {r : List (Bool × TypeId × Nat)} {q : Bool}
end
section
variable {P : Program} {ops : Array Oper} {S : World → Prop}
theorem yieldsIf_load_blk {op : Oper} {a : Act} (hw : Region.wanted op (yielded ops a.tmps) = true) (T : TypeId) (x : Operand) (ho : op.op = .load T x) (g : Nat) (hx : a.eval x = .pointer (some ⟨g, 0, none⟩)) (T' : TypeId) (cs : List Value)
    (hS : ∀ w, S w → Blk w g T' cs) (n : Nat) (d : TypeDesc) (hu : P.underlying T = some d) (hd : (match d with | .struct _ | .array _ _ => true | _ => false) = true) (hi : (P.info? T).map (·.size) = some n) (hn : Hid (cs.length = n)) : YieldsIf P ops S op (.agg cs.toArray) a :=
  .inl ⟨hw, fun w hw' => by
    have hr := run_loadVar_row (P := P) w g T' T cs.toArray (0, 0) _ (hS w hw') hu hd (by rw [hi]; have := hn.out; simp [this])
    unfold execOp
    simp only [ho, hx, Instr.loadAt, Instr.sureAddr, Sem.run_bind, Sem.run_pure, Result.andThen_ok, hr]⟩
end
end
end Go.Proofs.YtbbjmmooemmeiaaDoor

namespace Go.Proofs.YtbbjmmooemmeiaaDoor
set_option linter.all false
set_option linter.unusedVariables false
set_option maxRecDepth 100000
/-- an Ask with just what its command's row names -/
def wantF (c : Int) (a : AskV) : AskV :=
  if c = 5 then { zeroAsk with acc := a.acc, shr := a.shr, way := a.way, opt := a.opt, lev := a.lev, dur := a.dur, name := a.name, file := a.file }
  else if c = 8 then { zeroAsk with at_ := a.at_, n := a.n, file := a.file }
  else if c = 9 then { zeroAsk with at_ := a.at_, data := a.data, file := a.file }
  else if c = 10 then { zeroAsk with locks := a.locks, file := a.file }
  else { zeroAsk with file := a.file }
end Go.Proofs.YtbbjmmooemmeiaaDoor

namespace Go.Proofs.YtbbjmmooemmeiaaDoor
set_option linter.all false
open Go.RowKit
set_option linter.unusedVariables false
set_option maxRecDepth 100000
theorem results_cell_one {P : Program} {fn : Func} {p : Tmp} {ty : TypeId} (h : fn.results = #[.cell p ty]) (tmps : Array Value) (w : World) (g : Nat) (t : TypeId) (cs : Array Value) (fr : Nat × Nat) (d : TypeDesc)
    (hp : tmps.getD p undef = .pointer (some ⟨g, 0, none⟩)) (hg : w.heap[g]? = some (.cells cs t fr))
    (hu : P.underlying ty = some d) (hd : (match d with | .struct _ | .array _ _ => true | _ => false) = true) (hi : (P.info? ty).map (·.size) = some cs.size) :
    (results fn tmps).run P w = .ok (.agg cs) w := by
  have hp' : tmps[p]?.getD undef = .pointer (some ⟨g, 0, none⟩) := by simpa using hp
  simp [results, h, hp', asAddr, run_loadVar_row w g t ty cs fr d hg hu hd hi]
theorem wantF_ok {c : Int} {a : AskV} (k : a.ok) : (wantF c a).ok := by
  unfold wantF
  split
  · exact ⟨zeroAsk_ok.dial, zeroAsk_ok.glen, zeroAsk_ok.gbyte, zeroAsk_ok.plen, zeroAsk_ok.pbyte, k.acc, k.shr, k.way, k.opt, k.lev, k.dur, k.file, zeroAsk_ok.at_, zeroAsk_ok.n, zeroAsk_ok.data, zeroAsk_ok.locks, zeroAsk_ok.most, zeroAsk_ok.cls, zeroAsk_ok.siz⟩
  · split
    · exact ⟨zeroAsk_ok.dial, zeroAsk_ok.glen, zeroAsk_ok.gbyte, zeroAsk_ok.plen, zeroAsk_ok.pbyte, zeroAsk_ok.acc, zeroAsk_ok.shr, zeroAsk_ok.way, zeroAsk_ok.opt, zeroAsk_ok.lev, zeroAsk_ok.dur, k.file, k.at_, k.n, zeroAsk_ok.data, zeroAsk_ok.locks, zeroAsk_ok.most, zeroAsk_ok.cls, zeroAsk_ok.siz⟩
    · split
      · exact ⟨zeroAsk_ok.dial, zeroAsk_ok.glen, zeroAsk_ok.gbyte, zeroAsk_ok.plen, zeroAsk_ok.pbyte, zeroAsk_ok.acc, zeroAsk_ok.shr, zeroAsk_ok.way, zeroAsk_ok.opt, zeroAsk_ok.lev, zeroAsk_ok.dur, k.file, k.at_, zeroAsk_ok.n, k.data, zeroAsk_ok.locks, zeroAsk_ok.most, zeroAsk_ok.cls, zeroAsk_ok.siz⟩
      · split
        · exact ⟨zeroAsk_ok.dial, zeroAsk_ok.glen, zeroAsk_ok.gbyte, zeroAsk_ok.plen, zeroAsk_ok.pbyte, zeroAsk_ok.acc, zeroAsk_ok.shr, zeroAsk_ok.way, zeroAsk_ok.opt, zeroAsk_ok.lev, zeroAsk_ok.dur, k.file, zeroAsk_ok.at_, zeroAsk_ok.n, zeroAsk_ok.data, k.locks, zeroAsk_ok.most, zeroAsk_ok.cls, zeroAsk_ok.siz⟩
        · exact ⟨zeroAsk_ok.dial, zeroAsk_ok.glen, zeroAsk_ok.gbyte, zeroAsk_ok.plen, zeroAsk_ok.pbyte, zeroAsk_ok.acc, zeroAsk_ok.shr, zeroAsk_ok.way, zeroAsk_ok.opt, zeroAsk_ok.lev, zeroAsk_ok.dur, k.file, zeroAsk_ok.at_, zeroAsk_ok.n, zeroAsk_ok.data, zeroAsk_ok.locks, zeroAsk_ok.most, zeroAsk_ok.cls, zeroAsk_ok.siz⟩
end Go.Proofs.YtbbjmmooemmeiaaDoor

namespace Go.Proofs.YtbbjmmooemmeiaaDoor
set_option linter.all false
open Go.RowKit
set_option linter.unusedVariables false
set_option linter.unusedSimpArgs false
set_option maxRecDepth 100000
/-- what 'asked' tells: where a Set's class is none, File and Class alone -/
def wantR (c : Int) (a : AskV) : AskV := if c = 17 ∧ ¬ (1 ≤ a.cls ∧ a.cls ≤ 3) then { zeroAsk with file := a.file, cls := a.cls } else wantI c a
theorem wantR_class {c : Int} {a : AskV} (h : c = 17 → 1 ≤ a.cls ∧ a.cls ≤ 3) : wantR c a = wantI c a := by unfold wantR; rw [if_neg (fun h2 => h2.2 (h h2.1))]
theorem wantR_ok {c : Int} {a : AskV} (k : a.ok) : (wantR c a).ok := by
  have z := zeroAsk_ok
  unfold wantR
  split
  · exact ⟨z.dial, z.glen, z.gbyte, z.plen, z.pbyte, z.acc, z.shr, z.way, z.opt, z.lev, z.dur, k.file, z.at_, z.n, z.data, z.locks, z.most, k.cls, z.siz⟩
  · unfold wantI
    split
    · exact ⟨z.dial, z.glen, z.gbyte, z.plen, z.pbyte, z.acc, z.shr, z.way, z.opt, z.lev, z.dur, k.file, z.at_, z.n, z.data, z.locks, k.most, z.cls, z.siz⟩
    · split
      · exact ⟨z.dial, z.glen, z.gbyte, z.plen, z.pbyte, z.acc, z.shr, z.way, z.opt, z.lev, z.dur, k.file, z.at_, z.n, z.data, z.locks, z.most, z.cls, z.siz⟩
      · split
        · split
          · exact ⟨z.dial, z.glen, z.gbyte, z.plen, z.pbyte, z.acc, z.shr, z.way, z.opt, z.lev, z.dur, k.file, z.at_, z.n, z.data, z.locks, z.most, k.cls, k.siz⟩
          · split
            · exact ⟨z.dial, z.glen, z.gbyte, z.plen, z.pbyte, z.acc, z.shr, z.way, z.opt, z.lev, z.dur, k.file, z.at_, z.n, z.data, z.locks, z.most, k.cls, z.siz⟩
            · exact ⟨z.dial, z.glen, z.gbyte, z.plen, z.pbyte, z.acc, z.shr, z.way, z.opt, z.lev, z.dur, k.file, z.at_, z.n, z.data, z.locks, z.most, k.cls, z.siz⟩
        · split
          · exact ⟨z.dial, z.glen, z.gbyte, z.plen, z.pbyte, z.acc, z.shr, z.way, z.opt, k.lev, z.dur, k.file, z.at_, z.n, z.data, z.locks, z.most, z.cls, z.siz⟩
          · exact z
theorem wantR_len {c : Int} {a : AskV} : (wantR c a).dial.length ≤ 281474976710656 ∧ (wantR c a).data.length ≤ 281474976710656 ∧ (wantR c a).locks.length ≤ 281474976710656 := by
  unfold wantR wantI
  repeat' split
  all_goals exact ⟨Nat.zero_le _, Nat.zero_le _, Nat.zero_le _⟩
set_option maxHeartbeats 2000000 in
theorem iasked_any (w : World) (c : Int) (cs : List Value) (a : AskV) (hc : 0 ≤ c ∧ c ≤ 65535) (hk : knownI c = true) (ka : a.ok) (ha : AskIs w w.heap.size cs a) :
    Calls Tryd.prog 38 #[.int .u16 c, .agg cs.toArray] w fun e w' => ∃ ds : List Value, e = .returned (.agg ds.toArray) ∧ AskIs w' w'.heap.size ds (wantR c a) ∧ Below w.heap.size w w' := by
  have HL := Lib.hid (ha.len ka)
  have ZH := Lib.hid zero_ask
  have HZ : Hid ((acells (.slice none 0 0) (.slice none 0 0) (.slice none 0 0) zeroAsk).length = 69) := acells_len zeroAsk_ok
  have HZ1 : Hid (∀ v ∈ acells (.slice none 0 0) (.slice none 0 0) (.slice none 0 0) zeroAsk, v.oneCell' = true) := (zeroAsk_is w 0).one
  have BF : Tryd.prog.built 32 [(11, .int .u64 a.file)] = some (acells (.slice none 0 0) (.slice none 0 0) (.slice none 0 0) { zeroAsk with file := a.file }).toArray := by kernel_rfl
  have HF0 : Hid ((acells (.slice none 0 0) (.slice none 0 0) (.slice none 0 0) { zeroAsk with file := a.file }).length = 69) := acells_len (wantF_ok (c := 6) ka)
  have HF1 : Hid (∀ v ∈ acells (.slice none 0 0) (.slice none 0 0) (.slice none 0 0) { zeroAsk with file := a.file }, v.oneCell' = true) := acells_one rfl rfl rfl
  obtain ⟨A1, A2, A3, X1, X2, X3, M1, M2, M3, hcs, hA, hX, hM⟩ := ha
  have FC : Hid (∀ (w : World) (g : Nat), Blk w g 32 cs → w.cell? ⟨g, 55, none⟩ = some (.int .u8 a.lev) ∧ w.cell? ⟨g, 57, none⟩ = some (.int .u64 a.file) ∧ w.cell? ⟨g, 58, none⟩ = some (.string a.name) ∧ w.cell? ⟨g, 63, none⟩ = some (.int .u16 a.most) ∧ w.cell? ⟨g, 64, none⟩ = some (.string a.pat) ∧ w.cell? ⟨g, 65, none⟩ = some (.string a.aft) ∧ w.cell? ⟨g, 66, none⟩ = some (.int .u16 a.cls) ∧ w.cell? ⟨g, 67, none⟩ = some (.int .u64 a.siz) ∧ w.cell? ⟨g, 68, none⟩ = some (.bool a.on)) := fun w g h => by
    rw [hcs] at h
    exact ⟨h.at (acells_get ka 6), h.at (acells_get ka 8), h.at (acells_get ka 9), h.at (acells_get ka 14), h.at (acells_get ka 15), h.at (acells_get ka 16), h.at (acells_get ka 17), h.at (acells_get ka 18), h.at (acells_get ka 19)⟩
  obtain ⟨zs, hzs⟩ : ∃ x, x = acells (.slice none 0 0) (.slice none 0 0) (.slice none 0 0) zeroAsk := ⟨_, rfl⟩
  rw [← hzs] at ZH HZ HZ1
  obtain ⟨C0, hC0⟩ : ∃ x, x = acells (.slice none 0 0) (.slice none 0 0) (.slice none 0 0) { zeroAsk with file := a.file } := ⟨_, rfl⟩
  have HC0 := Lib.hid hC0
  rw [← hC0] at BF HF0 HF1
  have hcc := knownI_cases hk
  clear hzs hC0 hA hX hM hcs hk ka
  rcases hcc with h12 | h14 | h16 | h17 | h18
  · subst h12
    go_enter Tryd.func38, Tryd.ntmps38
    go_wp2_with (first
      | ((with_reducible show wpList _ _ _ (⟨some 3, _, _, _, _, _⟩ :: _) _ _); refine wpList_box_blk rfl _ (.tmp 1) rfl cs rfl ?_; intro g w1 hg1 hg2 K1 L1)
      | ((with_reducible show wpList _ _ _ (⟨some 4, _, _, _, _, _⟩ :: _) _ _); refine wpList_alloc_blk rfl _ rfl zs _ ZH ?_; intro r w2 hg3 hg4 R2 L02; have K2 := Lib.hid (K1.out.over L02.out); have L2 := Lib.hid (step L1.out L02.out); obtain ⟨c55, c57, c58, c63, c64, c65, c66, c67, c68⟩ := FC.out w2 g K2.out; have hsz2 := L2.out.size; have hgr : g ≠ r := (by omega); have hwr : w.heap.size ≤ r := (by have := L1.out.size; omega))
      | ((with_reducible show wpList _ _ _ (⟨some 8, _, _, _, _, _⟩ :: _) _ _); refine wpList_build_blk rfl _ _ rfl C0 (by refine Eq.trans ?_ BF; kernel_rfl) ?_)
      | ((with_reducible show wpList _ _ _ (⟨some 5, _, _, _, _, _⟩ :: _) _ _); refine wpList_alloc_blk rfl _ rfl zs _ ZH ?_; intro h w3 hg5 hg6 X3' L03; have K3 := Lib.hid (K2.out.over L03.out); have R3 := Lib.hid (R2.out.over L03.out); have L3 := Lib.hid (step L2.out L03.out); have hgh : g ≠ h := (by have := K2.out.lt; omega); have hrh : r ≠ h := (by have := R2.out.lt; omega); have hwh : w.heap.size ≤ h := (by omega))
      | ((with_reducible show wpList _ _ _ (⟨none, .store _ (.tmp 5) _, _, _, _, _⟩ :: _) _ _); refine wpList_store_blk rfl _ (.tmp 5) (.tmp 8) rfl h rfl _ zs C0 rfl X3' 69 size_ask HZ HF0 HF1 ?_; intro w4 X0 O4 hg7; have K4 := Lib.hid (K3.out.only O4.out hgh); have R4 := Lib.hid (R3.out.only O4.out hrh); have L4 := Lib.hid (below_only L3.out O4.out hwh); clear c55 c57 c58 c63 c64 c65 c66 c67 c68; obtain ⟨c55, c57, c58, c63, c64, c65, c66, c67, c68⟩ := FC.out w4 g K4.out)
      | ((with_reducible show wpList _ _ _ (⟨none, .store _ (.tmp 12) _, _, _, _, _⟩ :: _) _ _); refine wpList_store_fld rfl _ (.tmp 12) (.const (.int .u64 0)) rfl h 57 rfl _ C0 (.int .u64 0) rfl X0 (Lib.hid (by have := HF0.out; omega)) (by kernel_rfl) rfl ?_; intro x1 XS1 O1 hq1; obtain ⟨C1, hC1⟩ : ∃ x, x = C0.set 57 (.int .u64 0) := ⟨_, rfl⟩; have HC1 := Lib.hid hC1; have HL1 : Hid (C1.length = 69) := (by rw [hC1, List.length_set]; exact HF0.out); have H11 : Hid (∀ v ∈ C1, v.oneCell' = true) := (by rw [hC1]; intro v hv; rcases List.mem_or_eq_of_mem_set hv with hv | hv; exact HF1.out v hv; rw [hv]; rfl); rw [← hC1] at XS1; have KS1 := Lib.hid (K4.out.only O1.out hgh); have RT1 := Lib.hid (R4.out.only O1.out hrh); have LT1 := Lib.hid (below_only L4.out O1.out hwh); clear hC1 c55 c57 c58 c63 c64 c65 c66 c67 c68; obtain ⟨c55, c57, c58, c63, c64, c65, c66, c67, c68⟩ := FC.out x1 g KS1.out)
      | ((with_reducible show wpList _ _ _ (⟨some 57, _, _, _, _, _⟩ :: _) _ _); refine wpList_load_blk rfl _ (.tmp 5) rfl h rfl _ C1 XS1 69 _ Tryd.underlying32 rfl size_ask HL1 ?_)
      | ((with_reducible show wpList _ _ _ (⟨none, .store _ (.tmp 4) _, _, _, _, _⟩ :: _) _ _); refine wpList_store_blk rfl _ (.tmp 4) (.tmp 57) rfl r rfl _ zs C1 rfl RT1 69 size_ask HZ HL1 H11 ?_; intro w9 K9 O9 hg9)
      | fail)
    have HEQ : C1 = acells (.slice none 0 0) (.slice none 0 0) (.slice none 0 0) zeroAsk := by
      rw [HC1.out, HC0.out]
      rfl
    have hwr' : wantR 12 a = zeroAsk := by
      unfold wantR; rw [if_neg (fun h => absurd h.1 (by decide))]; unfold wantI; rw [if_neg (by decide), if_neg (by decide), if_neg (by decide), if_neg (by decide)]
    have LF : Below w.heap.size w w9 := below_only LT1.out O9.out hwr
    refine bodyPost_ret (v := .agg C1.toArray) ?_ rfl ⟨_, rfl, by rw [hwr']; exact ⟨none, 0, 0, none, 0, 0, none, 0, 0, HEQ, HoldsF.nil _ _ _, Holds.nil _ _, HoldsS.nil _ _ _ _⟩, LF⟩
    exact results_cell_one rfl _ _ r _ _ (0, 0) _ rfl K9.out Tryd.underlying32 rfl (by rw [size_ask]; have := HL1.out; simp [this])
  · subst h14
    go_enter Tryd.func38, Tryd.ntmps38
    go_upto_region 6 with (first
      | ((with_reducible show wpList _ _ _ (⟨some 3, _, _, _, _, _⟩ :: _) _ _); refine wpList_box_blk rfl _ (.tmp 1) rfl cs rfl ?_; intro g w1 hg1 hg2 K1 L1)
      | ((with_reducible show wpList _ _ _ (⟨some 4, _, _, _, _, _⟩ :: _) _ _); refine wpList_alloc_blk rfl _ rfl zs _ ZH ?_; intro r w2 hg3 hg4 R2 L02; have K2 := Lib.hid (K1.out.over L02.out); have L2 := Lib.hid (step L1.out L02.out); obtain ⟨c55, c57, c58, c63, c64, c65, c66, c67, c68⟩ := FC.out w2 g K2.out; have hsz2 := L2.out.size; have hgr : g ≠ r := (by omega); have hwr : w.heap.size ≤ r := (by have := L1.out.size; omega))
      | ((with_reducible show wpList _ _ _ (⟨some 8, _, _, _, _, _⟩ :: _) _ _); refine wpList_build_blk rfl _ _ rfl C0 (by refine Eq.trans ?_ BF; kernel_rfl) ?_)
      | ((with_reducible show wpList _ _ _ (⟨some 5, _, _, _, _, _⟩ :: _) _ _); refine wpList_alloc_blk rfl _ rfl zs _ ZH ?_; intro h w3 hg5 hg6 X3' L03; have K3 := Lib.hid (K2.out.over L03.out); have R3 := Lib.hid (R2.out.over L03.out); have L3 := Lib.hid (step L2.out L03.out); have hgh : g ≠ h := (by have := K2.out.lt; omega); have hrh : r ≠ h := (by have := R2.out.lt; omega); have hwh : w.heap.size ≤ h := (by omega))
      | ((with_reducible show wpList _ _ _ (⟨none, .store _ (.tmp 5) _, _, _, _, _⟩ :: _) _ _); refine wpList_store_blk rfl _ (.tmp 5) (.tmp 8) rfl h rfl _ zs C0 rfl X3' 69 size_ask HZ HF0 HF1 ?_; intro w4 X0 O4 hg7; have K4 := Lib.hid (K3.out.only O4.out hgh); have R4 := Lib.hid (R3.out.only O4.out hrh); have L4 := Lib.hid (below_only L3.out O4.out hwh); clear c55 c57 c58 c63 c64 c65 c66 c67 c68; obtain ⟨c55, c57, c58, c63, c64, c65, c66, c67, c68⟩ := FC.out w4 g K4.out)
      | fail)
    refine wp_region_held (S := fun w' => Blk w' g 32 cs) (by kernel_rfl) ?_
    change wpAnyH _ _ _ _ _ _ _ _ w4.drew
    have S_0 : Hid (Blk w4.drew g 32 cs) := K4.out.drew
    have Xd := Lib.hid (Blk.drew X0.out)
    have Rd := Lib.hid (Blk.drew R4.out)
    have Ld := Lib.hid (L4.out.drew)
    refine wpAnyH_take (i := 0) (v := _) rfl (by kernel_rfl) (by kernel_rfl) (by kernel_rfl) (fun _ _ _ h => h) (yieldsIf_fld (by kernel_rfl) _ (.tmp 3) 17 rfl (.pointer (some ⟨g, 0, none⟩)) (.pointer (some ⟨g, 63, none⟩)) (by kernel_rfl) (fld_isZeroAsk_17 g)) S_0.out ?_
    refine wpAnyH_take (i := 1) (v := _) rfl (by kernel_rfl) (by kernel_rfl) (by kernel_rfl) (fun _ _ _ h => h) (yieldsIf_load_one (by kernel_rfl) _ (.tmp 15) rfl g 63 (by kernel_rfl) (.int .u16 a.most) (fun w h => (FC.out w g h).2.2.2.1) _ Tryd.underlying22 rfl) S_0.out ?_
    refine wpAnyH_take (i := 2) (v := _) rfl (by kernel_rfl) (by kernel_rfl) (by kernel_rfl) (fun _ _ _ h => h) (yieldsIf_fld (by kernel_rfl) _ (.tmp 3) 18 rfl (.pointer (some ⟨g, 0, none⟩)) (.pointer (some ⟨g, 64, none⟩)) (by kernel_rfl) (fld_isZeroAsk_18 g)) S_0.out ?_
    refine wpAnyH_take (i := 3) (v := _) rfl (by kernel_rfl) (by kernel_rfl) (by kernel_rfl) (fun _ _ _ h => h) (yieldsIf_load_one (by kernel_rfl) _ (.tmp 17) rfl g 64 (by kernel_rfl) (.string a.pat) (fun w h => (FC.out w g h).2.2.2.2.1) _ Tryd.underlying9 rfl) S_0.out ?_
    refine wpAnyH_take (i := 4) (v := _) rfl (by kernel_rfl) (by kernel_rfl) (by kernel_rfl) (fun _ _ _ h => h) (yieldsIf_fld (by kernel_rfl) _ (.tmp 3) 19 rfl (.pointer (some ⟨g, 0, none⟩)) (.pointer (some ⟨g, 65, none⟩)) (by kernel_rfl) (fld_isZeroAsk_19 g)) S_0.out ?_
    refine wpAnyH_take (i := 5) (v := _) rfl (by kernel_rfl) (by kernel_rfl) (by kernel_rfl) (fun _ _ _ h => h) (yieldsIf_load_one (by kernel_rfl) _ (.tmp 19) rfl g 65 (by kernel_rfl) (.string a.aft) (fun w h => (FC.out w g h).2.2.2.2.2.1) _ Tryd.underlying9 rfl) S_0.out ?_
    refine wpAnyH_take (i := 6) (v := _) rfl (by kernel_rfl) (by kernel_rfl) (by kernel_rfl) (fun _ _ _ h => h) (yieldsIf_fld (by kernel_rfl) _ (.tmp 5) 17 rfl (.pointer (some ⟨h, 0, none⟩)) (.pointer (some ⟨h, 63, none⟩)) (by kernel_rfl) (fld_isZeroAsk_17 h)) S_0.out ?_
    refine wpAnyH_frame fun fr1 hfr1 => ?_
    have ex1 : fr1.eval (.tmp 21) = .pointer (some ⟨h, 63, none⟩) := by rw [hfr1]; kernel_rfl
    have ey1 : fr1.eval (.tmp 16) = (.int .u16 a.most) := by rw [hfr1]; kernel_rfl
    refine wpAnyH_one 7 _ (by kernel_rfl) rfl fun K hK => ?_
    refine step_store_fld rfl _ (.tmp 21) (.tmp 16) rfl h 63 ex1 _ C0 (.int .u16 a.most) ey1 Xd (Lib.hid (by have := HF0.out; omega)) (by kernel_rfl) rfl ?_
    intro x1 XS1 O1 hq1
    obtain ⟨C1, hC1⟩ : ∃ x, x = C0.set 63 (.int .u16 a.most) := ⟨_, rfl⟩
    have HC1 := Lib.hid hC1
    have HL1 : Hid (C1.length = 69) := by show _ = _; rw [hC1, List.length_set]; exact HF0.out
    rw [← hC1] at XS1
    have ST1 := Lib.hid (Blk.only S_0.out O1.out hgh)
    have RT1 := Lib.hid (Blk.only Rd.out O1.out hrh)
    have LT1 := Lib.hid (below_only Ld.out O1.out hwh)
    refine hK _ _ ST1.out ?_
    clear hK K ex1 ey1 hC1
    change wpAnyH _ _ _ _ _ _ _ fr1 x1
    subst hfr1
    refine wpAnyH_take (i := 8) (v := _) rfl (by kernel_rfl) (by kernel_rfl) (by kernel_rfl) (fun _ _ _ h => h) (yieldsIf_fld (by kernel_rfl) _ (.tmp 5) 18 rfl (.pointer (some ⟨h, 0, none⟩)) (.pointer (some ⟨h, 64, none⟩)) (by kernel_rfl) (fld_isZeroAsk_18 h)) ST1.out ?_
    refine wpAnyH_frame fun fr2 hfr2 => ?_
    have ex2 : fr2.eval (.tmp 22) = .pointer (some ⟨h, 64, none⟩) := by rw [hfr2]; kernel_rfl
    have ey2 : fr2.eval (.tmp 18) = (.string a.pat) := by rw [hfr2]; kernel_rfl
    refine wpAnyH_one 9 _ (by kernel_rfl) rfl fun K hK => ?_
    refine step_store_fld rfl _ (.tmp 22) (.tmp 18) rfl h 64 ex2 _ C1 (.string a.pat) ey2 XS1 (Lib.hid (by have := HL1.out; omega)) (by kernel_rfl) rfl ?_
    intro x2 XS2 O2 hq2
    obtain ⟨C2, hC2⟩ : ∃ x, x = C1.set 64 (.string a.pat) := ⟨_, rfl⟩
    have HC2 := Lib.hid hC2
    have HL2 : Hid (C2.length = 69) := by show _ = _; rw [hC2, List.length_set]; exact HL1.out
    rw [← hC2] at XS2
    have ST2 := Lib.hid (Blk.only ST1.out O2.out hgh)
    have RT2 := Lib.hid (Blk.only RT1.out O2.out hrh)
    have LT2 := Lib.hid (below_only LT1.out O2.out hwh)
    refine hK _ _ ST2.out ?_
    clear hK K ex2 ey2 hC2
    change wpAnyH _ _ _ _ _ _ _ fr2 x2
    subst hfr2
    refine wpAnyH_take (i := 10) (v := _) rfl (by kernel_rfl) (by kernel_rfl) (by kernel_rfl) (fun _ _ _ h => h) (yieldsIf_fld (by kernel_rfl) _ (.tmp 5) 19 rfl (.pointer (some ⟨h, 0, none⟩)) (.pointer (some ⟨h, 65, none⟩)) (by kernel_rfl) (fld_isZeroAsk_19 h)) ST2.out ?_
    refine wpAnyH_frame fun fr3 hfr3 => ?_
    have ex3 : fr3.eval (.tmp 23) = .pointer (some ⟨h, 65, none⟩) := by rw [hfr3]; kernel_rfl
    have ey3 : fr3.eval (.tmp 20) = (.string a.aft) := by rw [hfr3]; kernel_rfl
    refine wpAnyH_one 11 _ (by kernel_rfl) rfl fun K hK => ?_
    refine step_store_fld rfl _ (.tmp 23) (.tmp 20) rfl h 65 ex3 _ C2 (.string a.aft) ey3 XS2 (Lib.hid (by have := HL2.out; omega)) (by kernel_rfl) rfl ?_
    intro x3 XS3 O3 hq3
    obtain ⟨C3, hC3⟩ : ∃ x, x = C2.set 65 (.string a.aft) := ⟨_, rfl⟩
    have HC3 := Lib.hid hC3
    have HL3 : Hid (C3.length = 69) := by show _ = _; rw [hC3, List.length_set]; exact HL2.out
    rw [← hC3] at XS3
    have ST3 := Lib.hid (Blk.only ST2.out O3.out hgh)
    have RT3 := Lib.hid (Blk.only RT2.out O3.out hrh)
    have LT3 := Lib.hid (below_only LT2.out O3.out hwh)
    refine hK _ _ ST3.out ?_
    clear hK K ex3 ey3 hC3
    change wpAnyH _ _ _ _ _ _ _ fr3 x3
    subst hfr3
    refine wpAnyH_done (by kernel_rfl) ?_ _
    go_simp
    have H1C : Hid (∀ v ∈ C3, v.oneCell' = true) := by
      show _
      have hh : C3 = acells (.slice none 0 0) (.slice none 0 0) (.slice none 0 0) { zeroAsk with file := a.file, most := a.most, pat := a.pat, aft := a.aft } := by
        rw [HC3.out, HC2.out, HC1.out, HC0.out]
        rfl
      rw [hh]
      exact acells_one rfl rfl rfl
    go_wp2_with (first
      | ((with_reducible show wpList _ _ _ (⟨some 57, _, _, _, _, _⟩ :: _) _ _); refine wpList_load_blk rfl _ (.tmp 5) rfl h rfl _ C3 XS3 69 _ Tryd.underlying32 rfl size_ask HL3 ?_)
      | ((with_reducible show wpList _ _ _ (⟨none, .store _ (.tmp 4) _, _, _, _, _⟩ :: _) _ _); refine wpList_store_blk rfl _ (.tmp 4) (.tmp 57) rfl r rfl _ zs C3 rfl RT3 69 size_ask HZ HL3 H1C ?_; intro w9 K9 O9 hg9)
      | fail)
    have HEQ : C3 = acells (.slice none 0 0) (.slice none 0 0) (.slice none 0 0) { zeroAsk with file := a.file, most := a.most, pat := a.pat, aft := a.aft } := by
      rw [HC3.out, HC2.out, HC1.out, HC0.out]
      rfl
    have hwr' : wantR 14 a = { zeroAsk with file := a.file, most := a.most, pat := a.pat, aft := a.aft } := by
      unfold wantR; rw [if_neg (fun h => absurd h.1 (by decide))]; unfold wantI; rw [if_pos rfl]
    have LF : Below w.heap.size w w9 := below_only LT3.out O9.out hwr
    refine bodyPost_ret (v := .agg C3.toArray) ?_ rfl ⟨_, rfl, by rw [hwr']; exact ⟨none, 0, 0, none, 0, 0, none, 0, 0, HEQ, HoldsF.nil _ _ _, Holds.nil _ _, HoldsS.nil _ _ _ _⟩, LF⟩
    exact results_cell_one rfl _ _ r _ _ (0, 0) _ rfl K9.out Tryd.underlying32 rfl (by rw [size_ask]; have := HL3.out; simp [this])
  · subst h16
    go_enter Tryd.func38, Tryd.ntmps38
    go_wp2_with (first
      | ((with_reducible show wpList _ _ _ (⟨some 3, _, _, _, _, _⟩ :: _) _ _); refine wpList_box_blk rfl _ (.tmp 1) rfl cs rfl ?_; intro g w1 hg1 hg2 K1 L1)
      | ((with_reducible show wpList _ _ _ (⟨some 4, _, _, _, _, _⟩ :: _) _ _); refine wpList_alloc_blk rfl _ rfl zs _ ZH ?_; intro r w2 hg3 hg4 R2 L02; have K2 := Lib.hid (K1.out.over L02.out); have L2 := Lib.hid (step L1.out L02.out); obtain ⟨c55, c57, c58, c63, c64, c65, c66, c67, c68⟩ := FC.out w2 g K2.out; have hsz2 := L2.out.size; have hgr : g ≠ r := (by omega); have hwr : w.heap.size ≤ r := (by have := L1.out.size; omega))
      | ((with_reducible show wpList _ _ _ (⟨some 8, _, _, _, _, _⟩ :: _) _ _); refine wpList_build_blk rfl _ _ rfl C0 (by refine Eq.trans ?_ BF; kernel_rfl) ?_)
      | ((with_reducible show wpList _ _ _ (⟨some 5, _, _, _, _, _⟩ :: _) _ _); refine wpList_alloc_blk rfl _ rfl zs _ ZH ?_; intro h w3 hg5 hg6 X3' L03; have K3 := Lib.hid (K2.out.over L03.out); have R3 := Lib.hid (R2.out.over L03.out); have L3 := Lib.hid (step L2.out L03.out); have hgh : g ≠ h := (by have := K2.out.lt; omega); have hrh : r ≠ h := (by have := R2.out.lt; omega); have hwh : w.heap.size ≤ h := (by omega))
      | ((with_reducible show wpList _ _ _ (⟨none, .store _ (.tmp 5) _, _, _, _, _⟩ :: _) _ _); refine wpList_store_blk rfl _ (.tmp 5) (.tmp 8) rfl h rfl _ zs C0 rfl X3' 69 size_ask HZ HF0 HF1 ?_; intro w4 X0 O4 hg7; have K4 := Lib.hid (K3.out.only O4.out hgh); have R4 := Lib.hid (R3.out.only O4.out hrh); have L4 := Lib.hid (below_only L3.out O4.out hwh); clear c55 c57 c58 c63 c64 c65 c66 c67 c68; obtain ⟨c55, c57, c58, c63, c64, c65, c66, c67, c68⟩ := FC.out w4 g K4.out)
      | ((with_reducible show wpList _ _ _ (⟨some 57, _, _, _, _, _⟩ :: _) _ _); refine wpList_load_blk rfl _ (.tmp 5) rfl h rfl _ C0 X0 69 _ Tryd.underlying32 rfl size_ask HF0 ?_)
      | ((with_reducible show wpList _ _ _ (⟨none, .store _ (.tmp 4) _, _, _, _, _⟩ :: _) _ _); refine wpList_store_blk rfl _ (.tmp 4) (.tmp 57) rfl r rfl _ zs C0 rfl R4 69 size_ask HZ HF0 HF1 ?_; intro w9 K9 O9 hg9)
      | fail)
    have HEQ : C0 = acells (.slice none 0 0) (.slice none 0 0) (.slice none 0 0) { zeroAsk with file := a.file } := by
      rw [HC0.out]
    have hwr' : wantR 16 a = { zeroAsk with file := a.file } := by
      unfold wantR; rw [if_neg (fun h => absurd h.1 (by decide))]; unfold wantI; rw [if_neg (by decide), if_pos rfl]
    have LF : Below w.heap.size w w9 := below_only L4.out O9.out hwr
    refine bodyPost_ret (v := .agg C0.toArray) ?_ rfl ⟨_, rfl, by rw [hwr']; exact ⟨none, 0, 0, none, 0, 0, none, 0, 0, HEQ, HoldsF.nil _ _ _, Holds.nil _ _, HoldsS.nil _ _ _ _⟩, LF⟩
    exact results_cell_one rfl _ _ r _ _ (0, 0) _ rfl K9.out Tryd.underlying32 rfl (by rw [size_ask]; have := HF0.out; simp [this])
  · subst h17
    by_cases c1 : a.cls = 1
    · have cf1 : (a.cls == 1) = true := by simpa using c1
      have cf2 : (a.cls == 2) = false := by rw [beq_eq_false_iff_ne]; omega
      have cf3 : (a.cls == 3) = false := by rw [beq_eq_false_iff_ne]; omega
      have Hc1 := Lib.hid c1
      clear c1
      go_enter Tryd.func38, Tryd.ntmps38
      go_wp2_with (first
        | ((with_reducible show wpList _ _ _ (⟨some 3, _, _, _, _, _⟩ :: _) _ _); refine wpList_box_blk rfl _ (.tmp 1) rfl cs rfl ?_; intro g w1 hg1 hg2 K1 L1)
        | ((with_reducible show wpList _ _ _ (⟨some 4, _, _, _, _, _⟩ :: _) _ _); refine wpList_alloc_blk rfl _ rfl zs _ ZH ?_; intro r w2 hg3 hg4 R2 L02; have K2 := Lib.hid (K1.out.over L02.out); have L2 := Lib.hid (step L1.out L02.out); obtain ⟨c55, c57, c58, c63, c64, c65, c66, c67, c68⟩ := FC.out w2 g K2.out; have hsz2 := L2.out.size; have hgr : g ≠ r := (by omega); have hwr : w.heap.size ≤ r := (by have := L1.out.size; omega))
        | ((with_reducible show wpList _ _ _ (⟨some 8, _, _, _, _, _⟩ :: _) _ _); refine wpList_build_blk rfl _ _ rfl C0 (by refine Eq.trans ?_ BF; kernel_rfl) ?_)
        | ((with_reducible show wpList _ _ _ (⟨some 5, _, _, _, _, _⟩ :: _) _ _); refine wpList_alloc_blk rfl _ rfl zs _ ZH ?_; intro h w3 hg5 hg6 X3' L03; have K3 := Lib.hid (K2.out.over L03.out); have R3 := Lib.hid (R2.out.over L03.out); have L3 := Lib.hid (step L2.out L03.out); have hgh : g ≠ h := (by have := K2.out.lt; omega); have hrh : r ≠ h := (by have := R2.out.lt; omega); have hwh : w.heap.size ≤ h := (by omega))
        | ((with_reducible show wpList _ _ _ (⟨none, .store _ (.tmp 5) _, _, _, _, _⟩ :: _) _ _); refine wpList_store_blk rfl _ (.tmp 5) (.tmp 8) rfl h rfl _ zs C0 rfl X3' 69 size_ask HZ HF0 HF1 ?_; intro w4 X0 O4 hg7; have K4 := Lib.hid (K3.out.only O4.out hgh); have R4 := Lib.hid (R3.out.only O4.out hrh); have L4 := Lib.hid (below_only L3.out O4.out hwh); clear c55 c57 c58 c63 c64 c65 c66 c67 c68; obtain ⟨c55, c57, c58, c63, c64, c65, c66, c67, c68⟩ := FC.out w4 g K4.out)
        | ((with_reducible show wpList _ _ _ (⟨none, .store _ (.tmp 28) _, _, _, _, _⟩ :: _) _ _); refine wpList_store_fld rfl _ (.tmp 28) (.tmp 27) rfl h 66 rfl _ C0 (.int .u16 a.cls) rfl X0 (Lib.hid (by have := HF0.out; omega)) (by kernel_rfl) rfl ?_; intro x1 XS1 O1 hq1; obtain ⟨C1, hC1⟩ : ∃ x, x = C0.set 66 (.int .u16 a.cls) := ⟨_, rfl⟩; have HC1 := Lib.hid hC1; have HL1 : Hid (C1.length = 69) := (by rw [hC1, List.length_set]; exact HF0.out); have H11 : Hid (∀ v ∈ C1, v.oneCell' = true) := (by rw [hC1]; intro v hv; rcases List.mem_or_eq_of_mem_set hv with hv | hv; exact HF1.out v hv; rw [hv]; rfl); rw [← hC1] at XS1; have KS1 := Lib.hid (K4.out.only O1.out hgh); have RT1 := Lib.hid (R4.out.only O1.out hrh); have LT1 := Lib.hid (below_only L4.out O1.out hwh); clear hC1 c55 c57 c58 c63 c64 c65 c66 c67 c68; obtain ⟨c55, c57, c58, c63, c64, c65, c66, c67, c68⟩ := FC.out x1 g KS1.out)
        | ((with_reducible show wpList _ _ _ (⟨none, .store _ (.tmp 34) _, _, _, _, _⟩ :: _) _ _); refine wpList_store_fld rfl _ (.tmp 34) (.tmp 33) rfl h 67 rfl _ C1 (.int .u64 a.siz) rfl XS1 (Lib.hid (by have := HL1.out; omega)) (by kernel_rfl) rfl ?_; intro x2 XS2 O2 hq2; obtain ⟨C2, hC2⟩ : ∃ x, x = C1.set 67 (.int .u64 a.siz) := ⟨_, rfl⟩; have HC2 := Lib.hid hC2; have HL2 : Hid (C2.length = 69) := (by rw [hC2, List.length_set]; exact HL1.out); have H12 : Hid (∀ v ∈ C2, v.oneCell' = true) := (by rw [hC2]; intro v hv; rcases List.mem_or_eq_of_mem_set hv with hv | hv; exact H11.out v hv; rw [hv]; rfl); rw [← hC2] at XS2; have KS2 := Lib.hid (KS1.out.only O2.out hgh); have RT2 := Lib.hid (RT1.out.only O2.out hrh); have LT2 := Lib.hid (below_only LT1.out O2.out hwh); clear hC2 c55 c57 c58 c63 c64 c65 c66 c67 c68; obtain ⟨c55, c57, c58, c63, c64, c65, c66, c67, c68⟩ := FC.out x2 g KS2.out)
        | ((with_reducible show wpList _ _ _ (⟨some 57, _, _, _, _, _⟩ :: _) _ _); refine wpList_load_blk rfl _ (.tmp 5) rfl h rfl _ C2 XS2 69 _ Tryd.underlying32 rfl size_ask HL2 ?_)
        | ((with_reducible show wpList _ _ _ (⟨none, .store _ (.tmp 4) _, _, _, _, _⟩ :: _) _ _); refine wpList_store_blk rfl _ (.tmp 4) (.tmp 57) rfl r rfl _ zs C2 rfl RT2 69 size_ask HZ HL2 H12 ?_; intro w9 K9 O9 hg9)
        | fail)
      have HEQ : C2 = acells (.slice none 0 0) (.slice none 0 0) (.slice none 0 0) { zeroAsk with file := a.file, cls := a.cls, siz := a.siz } := by
        rw [HC2.out, HC1.out, HC0.out]
        rfl
      have hwr' : wantR 17 a = { zeroAsk with file := a.file, cls := a.cls, siz := a.siz } := by
        have c1 := Hc1.out; unfold wantR; rw [if_neg (fun h => h.2 (by omega))]; unfold wantI; rw [if_neg (by decide), if_neg (by decide), if_pos rfl, if_pos c1]
      have LF : Below w.heap.size w w9 := below_only LT2.out O9.out hwr
      refine bodyPost_ret (v := .agg C2.toArray) ?_ rfl ⟨_, rfl, by rw [hwr']; exact ⟨none, 0, 0, none, 0, 0, none, 0, 0, HEQ, HoldsF.nil _ _ _, Holds.nil _ _, HoldsS.nil _ _ _ _⟩, LF⟩
      exact results_cell_one rfl _ _ r _ _ (0, 0) _ rfl K9.out Tryd.underlying32 rfl (by rw [size_ask]; have := HL2.out; simp [this])
    · by_cases c2 : a.cls = 2
      · have cf1 : (a.cls == 1) = false := by simpa using c1
        have cf2 : (a.cls == 2) = true := by simpa using c2
        have cf3 : (a.cls == 3) = false := by rw [beq_eq_false_iff_ne]; omega
        have Hc1 := Lib.hid c1
        have Hc2 := Lib.hid c2
        clear c1 c2
        go_enter Tryd.func38, Tryd.ntmps38
        go_wp2_with (first
          | ((with_reducible show wpList _ _ _ (⟨some 3, _, _, _, _, _⟩ :: _) _ _); refine wpList_box_blk rfl _ (.tmp 1) rfl cs rfl ?_; intro g w1 hg1 hg2 K1 L1)
          | ((with_reducible show wpList _ _ _ (⟨some 4, _, _, _, _, _⟩ :: _) _ _); refine wpList_alloc_blk rfl _ rfl zs _ ZH ?_; intro r w2 hg3 hg4 R2 L02; have K2 := Lib.hid (K1.out.over L02.out); have L2 := Lib.hid (step L1.out L02.out); obtain ⟨c55, c57, c58, c63, c64, c65, c66, c67, c68⟩ := FC.out w2 g K2.out; have hsz2 := L2.out.size; have hgr : g ≠ r := (by omega); have hwr : w.heap.size ≤ r := (by have := L1.out.size; omega))
          | ((with_reducible show wpList _ _ _ (⟨some 8, _, _, _, _, _⟩ :: _) _ _); refine wpList_build_blk rfl _ _ rfl C0 (by refine Eq.trans ?_ BF; kernel_rfl) ?_)
          | ((with_reducible show wpList _ _ _ (⟨some 5, _, _, _, _, _⟩ :: _) _ _); refine wpList_alloc_blk rfl _ rfl zs _ ZH ?_; intro h w3 hg5 hg6 X3' L03; have K3 := Lib.hid (K2.out.over L03.out); have R3 := Lib.hid (R2.out.over L03.out); have L3 := Lib.hid (step L2.out L03.out); have hgh : g ≠ h := (by have := K2.out.lt; omega); have hrh : r ≠ h := (by have := R2.out.lt; omega); have hwh : w.heap.size ≤ h := (by omega))
          | ((with_reducible show wpList _ _ _ (⟨none, .store _ (.tmp 5) _, _, _, _, _⟩ :: _) _ _); refine wpList_store_blk rfl _ (.tmp 5) (.tmp 8) rfl h rfl _ zs C0 rfl X3' 69 size_ask HZ HF0 HF1 ?_; intro w4 X0 O4 hg7; have K4 := Lib.hid (K3.out.only O4.out hgh); have R4 := Lib.hid (R3.out.only O4.out hrh); have L4 := Lib.hid (below_only L3.out O4.out hwh); clear c55 c57 c58 c63 c64 c65 c66 c67 c68; obtain ⟨c55, c57, c58, c63, c64, c65, c66, c67, c68⟩ := FC.out w4 g K4.out)
          | ((with_reducible show wpList _ _ _ (⟨none, .store _ (.tmp 28) _, _, _, _, _⟩ :: _) _ _); refine wpList_store_fld rfl _ (.tmp 28) (.tmp 27) rfl h 66 rfl _ C0 (.int .u16 a.cls) rfl X0 (Lib.hid (by have := HF0.out; omega)) (by kernel_rfl) rfl ?_; intro x1 XS1 O1 hq1; obtain ⟨C1, hC1⟩ : ∃ x, x = C0.set 66 (.int .u16 a.cls) := ⟨_, rfl⟩; have HC1 := Lib.hid hC1; have HL1 : Hid (C1.length = 69) := (by rw [hC1, List.length_set]; exact HF0.out); have H11 : Hid (∀ v ∈ C1, v.oneCell' = true) := (by rw [hC1]; intro v hv; rcases List.mem_or_eq_of_mem_set hv with hv | hv; exact HF1.out v hv; rw [hv]; rfl); rw [← hC1] at XS1; have KS1 := Lib.hid (K4.out.only O1.out hgh); have RT1 := Lib.hid (R4.out.only O1.out hrh); have LT1 := Lib.hid (below_only L4.out O1.out hwh); clear hC1 c55 c57 c58 c63 c64 c65 c66 c67 c68; obtain ⟨c55, c57, c58, c63, c64, c65, c66, c67, c68⟩ := FC.out x1 g KS1.out)
          | ((with_reducible show wpList _ _ _ (⟨none, .store _ (.tmp 45) _, _, _, _, _⟩ :: _) _ _); refine wpList_store_fld rfl _ (.tmp 45) (.tmp 44) rfl h 68 rfl _ C1 (.bool a.on) rfl XS1 (Lib.hid (by have := HL1.out; omega)) (by kernel_rfl) rfl ?_; intro x2 XS2 O2 hq2; obtain ⟨C2, hC2⟩ : ∃ x, x = C1.set 68 (.bool a.on) := ⟨_, rfl⟩; have HC2 := Lib.hid hC2; have HL2 : Hid (C2.length = 69) := (by rw [hC2, List.length_set]; exact HL1.out); have H12 : Hid (∀ v ∈ C2, v.oneCell' = true) := (by rw [hC2]; intro v hv; rcases List.mem_or_eq_of_mem_set hv with hv | hv; exact H11.out v hv; rw [hv]; rfl); rw [← hC2] at XS2; have KS2 := Lib.hid (KS1.out.only O2.out hgh); have RT2 := Lib.hid (RT1.out.only O2.out hrh); have LT2 := Lib.hid (below_only LT1.out O2.out hwh); clear hC2 c55 c57 c58 c63 c64 c65 c66 c67 c68; obtain ⟨c55, c57, c58, c63, c64, c65, c66, c67, c68⟩ := FC.out x2 g KS2.out)
          | ((with_reducible show wpList _ _ _ (⟨some 57, _, _, _, _, _⟩ :: _) _ _); refine wpList_load_blk rfl _ (.tmp 5) rfl h rfl _ C2 XS2 69 _ Tryd.underlying32 rfl size_ask HL2 ?_)
          | ((with_reducible show wpList _ _ _ (⟨none, .store _ (.tmp 4) _, _, _, _, _⟩ :: _) _ _); refine wpList_store_blk rfl _ (.tmp 4) (.tmp 57) rfl r rfl _ zs C2 rfl RT2 69 size_ask HZ HL2 H12 ?_; intro w9 K9 O9 hg9)
          | fail)
        have HEQ : C2 = acells (.slice none 0 0) (.slice none 0 0) (.slice none 0 0) { zeroAsk with file := a.file, cls := a.cls, on := a.on } := by
          rw [HC2.out, HC1.out, HC0.out]
          rfl
        have hwr' : wantR 17 a = { zeroAsk with file := a.file, cls := a.cls, on := a.on } := by
          have c1 := Hc1.out; have c2 := Hc2.out; unfold wantR; rw [if_neg (fun h => h.2 (by omega))]; unfold wantI; rw [if_neg (by decide), if_neg (by decide), if_pos rfl, if_neg c1, if_pos c2]
        have LF : Below w.heap.size w w9 := below_only LT2.out O9.out hwr
        refine bodyPost_ret (v := .agg C2.toArray) ?_ rfl ⟨_, rfl, by rw [hwr']; exact ⟨none, 0, 0, none, 0, 0, none, 0, 0, HEQ, HoldsF.nil _ _ _, Holds.nil _ _, HoldsS.nil _ _ _ _⟩, LF⟩
        exact results_cell_one rfl _ _ r _ _ (0, 0) _ rfl K9.out Tryd.underlying32 rfl (by rw [size_ask]; have := HL2.out; simp [this])
      · by_cases c3 : a.cls = 3
        · have cf1 : (a.cls == 1) = false := by simpa using c1
          have cf2 : (a.cls == 2) = false := by simpa using c2
          have cf3 : (a.cls == 3) = true := by simpa using c3
          have Hc1 := Lib.hid c1
          have Hc2 := Lib.hid c2
          have Hc3 := Lib.hid c3
          clear c1 c2 c3
          go_enter Tryd.func38, Tryd.ntmps38
          go_wp2_with (first
            | ((with_reducible show wpList _ _ _ (⟨some 3, _, _, _, _, _⟩ :: _) _ _); refine wpList_box_blk rfl _ (.tmp 1) rfl cs rfl ?_; intro g w1 hg1 hg2 K1 L1)
            | ((with_reducible show wpList _ _ _ (⟨some 4, _, _, _, _, _⟩ :: _) _ _); refine wpList_alloc_blk rfl _ rfl zs _ ZH ?_; intro r w2 hg3 hg4 R2 L02; have K2 := Lib.hid (K1.out.over L02.out); have L2 := Lib.hid (step L1.out L02.out); obtain ⟨c55, c57, c58, c63, c64, c65, c66, c67, c68⟩ := FC.out w2 g K2.out; have hsz2 := L2.out.size; have hgr : g ≠ r := (by omega); have hwr : w.heap.size ≤ r := (by have := L1.out.size; omega))
            | ((with_reducible show wpList _ _ _ (⟨some 8, _, _, _, _, _⟩ :: _) _ _); refine wpList_build_blk rfl _ _ rfl C0 (by refine Eq.trans ?_ BF; kernel_rfl) ?_)
            | ((with_reducible show wpList _ _ _ (⟨some 5, _, _, _, _, _⟩ :: _) _ _); refine wpList_alloc_blk rfl _ rfl zs _ ZH ?_; intro h w3 hg5 hg6 X3' L03; have K3 := Lib.hid (K2.out.over L03.out); have R3 := Lib.hid (R2.out.over L03.out); have L3 := Lib.hid (step L2.out L03.out); have hgh : g ≠ h := (by have := K2.out.lt; omega); have hrh : r ≠ h := (by have := R2.out.lt; omega); have hwh : w.heap.size ≤ h := (by omega))
            | ((with_reducible show wpList _ _ _ (⟨none, .store _ (.tmp 5) _, _, _, _, _⟩ :: _) _ _); refine wpList_store_blk rfl _ (.tmp 5) (.tmp 8) rfl h rfl _ zs C0 rfl X3' 69 size_ask HZ HF0 HF1 ?_; intro w4 X0 O4 hg7; have K4 := Lib.hid (K3.out.only O4.out hgh); have R4 := Lib.hid (R3.out.only O4.out hrh); have L4 := Lib.hid (below_only L3.out O4.out hwh); clear c55 c57 c58 c63 c64 c65 c66 c67 c68; obtain ⟨c55, c57, c58, c63, c64, c65, c66, c67, c68⟩ := FC.out w4 g K4.out)
            | ((with_reducible show wpList _ _ _ (⟨none, .store _ (.tmp 28) _, _, _, _, _⟩ :: _) _ _); refine wpList_store_fld rfl _ (.tmp 28) (.tmp 27) rfl h 66 rfl _ C0 (.int .u16 a.cls) rfl X0 (Lib.hid (by have := HF0.out; omega)) (by kernel_rfl) rfl ?_; intro x1 XS1 O1 hq1; obtain ⟨C1, hC1⟩ : ∃ x, x = C0.set 66 (.int .u16 a.cls) := ⟨_, rfl⟩; have HC1 := Lib.hid hC1; have HL1 : Hid (C1.length = 69) := (by rw [hC1, List.length_set]; exact HF0.out); have H11 : Hid (∀ v ∈ C1, v.oneCell' = true) := (by rw [hC1]; intro v hv; rcases List.mem_or_eq_of_mem_set hv with hv | hv; exact HF1.out v hv; rw [hv]; rfl); rw [← hC1] at XS1; have KS1 := Lib.hid (K4.out.only O1.out hgh); have RT1 := Lib.hid (R4.out.only O1.out hrh); have LT1 := Lib.hid (below_only L4.out O1.out hwh); clear hC1 c55 c57 c58 c63 c64 c65 c66 c67 c68; obtain ⟨c55, c57, c58, c63, c64, c65, c66, c67, c68⟩ := FC.out x1 g KS1.out)
            | ((with_reducible show wpList _ _ _ (⟨none, .store _ (.tmp 45) _, _, _, _, _⟩ :: _) _ _); refine wpList_store_fld rfl _ (.tmp 45) (.tmp 44) rfl h 68 rfl _ C1 (.bool a.on) rfl XS1 (Lib.hid (by have := HL1.out; omega)) (by kernel_rfl) rfl ?_; intro x2 XS2 O2 hq2; obtain ⟨C2, hC2⟩ : ∃ x, x = C1.set 68 (.bool a.on) := ⟨_, rfl⟩; have HC2 := Lib.hid hC2; have HL2 : Hid (C2.length = 69) := (by rw [hC2, List.length_set]; exact HL1.out); have H12 : Hid (∀ v ∈ C2, v.oneCell' = true) := (by rw [hC2]; intro v hv; rcases List.mem_or_eq_of_mem_set hv with hv | hv; exact H11.out v hv; rw [hv]; rfl); rw [← hC2] at XS2; have KS2 := Lib.hid (KS1.out.only O2.out hgh); have RT2 := Lib.hid (RT1.out.only O2.out hrh); have LT2 := Lib.hid (below_only LT1.out O2.out hwh); clear hC2 c55 c57 c58 c63 c64 c65 c66 c67 c68; obtain ⟨c55, c57, c58, c63, c64, c65, c66, c67, c68⟩ := FC.out x2 g KS2.out)
            | ((with_reducible show wpList _ _ _ (⟨none, .store _ (.tmp 51) _, _, _, _, _⟩ :: _) _ _); refine wpList_store_fld rfl _ (.tmp 51) (.tmp 50) rfl h 58 rfl _ C2 (.string a.name) rfl XS2 (Lib.hid (by have := HL2.out; omega)) (by kernel_rfl) rfl ?_; intro x3 XS3 O3 hq3; obtain ⟨C3, hC3⟩ : ∃ x, x = C2.set 58 (.string a.name) := ⟨_, rfl⟩; have HC3 := Lib.hid hC3; have HL3 : Hid (C3.length = 69) := (by rw [hC3, List.length_set]; exact HL2.out); have H13 : Hid (∀ v ∈ C3, v.oneCell' = true) := (by rw [hC3]; intro v hv; rcases List.mem_or_eq_of_mem_set hv with hv | hv; exact H12.out v hv; rw [hv]; rfl); rw [← hC3] at XS3; have KS3 := Lib.hid (KS2.out.only O3.out hgh); have RT3 := Lib.hid (RT2.out.only O3.out hrh); have LT3 := Lib.hid (below_only LT2.out O3.out hwh); clear hC3 c55 c57 c58 c63 c64 c65 c66 c67 c68; obtain ⟨c55, c57, c58, c63, c64, c65, c66, c67, c68⟩ := FC.out x3 g KS3.out)
            | ((with_reducible show wpList _ _ _ (⟨some 57, _, _, _, _, _⟩ :: _) _ _); refine wpList_load_blk rfl _ (.tmp 5) rfl h rfl _ C3 XS3 69 _ Tryd.underlying32 rfl size_ask HL3 ?_)
            | ((with_reducible show wpList _ _ _ (⟨none, .store _ (.tmp 4) _, _, _, _, _⟩ :: _) _ _); refine wpList_store_blk rfl _ (.tmp 4) (.tmp 57) rfl r rfl _ zs C3 rfl RT3 69 size_ask HZ HL3 H13 ?_; intro w9 K9 O9 hg9)
            | fail)
          have HEQ : C3 = acells (.slice none 0 0) (.slice none 0 0) (.slice none 0 0) { zeroAsk with file := a.file, cls := a.cls, on := a.on, name := a.name } := by
            rw [HC3.out, HC2.out, HC1.out, HC0.out]
            rfl
          have hwr' : wantR 17 a = { zeroAsk with file := a.file, cls := a.cls, on := a.on, name := a.name } := by
            have c1 := Hc1.out; have c2 := Hc2.out; have c3 := Hc3.out; unfold wantR; rw [if_neg (fun h => h.2 (by omega))]; unfold wantI; rw [if_neg (by decide), if_neg (by decide), if_pos rfl, if_neg c1, if_neg c2]
          have LF : Below w.heap.size w w9 := below_only LT3.out O9.out hwr
          refine bodyPost_ret (v := .agg C3.toArray) ?_ rfl ⟨_, rfl, by rw [hwr']; exact ⟨none, 0, 0, none, 0, 0, none, 0, 0, HEQ, HoldsF.nil _ _ _, Holds.nil _ _, HoldsS.nil _ _ _ _⟩, LF⟩
          exact results_cell_one rfl _ _ r _ _ (0, 0) _ rfl K9.out Tryd.underlying32 rfl (by rw [size_ask]; have := HL3.out; simp [this])
        · have cf1 : (a.cls == 1) = false := by simpa using c1
          have cf2 : (a.cls == 2) = false := by simpa using c2
          have cf3 : (a.cls == 3) = false := by simpa using c3
          have Hc1 := Lib.hid c1
          have Hc2 := Lib.hid c2
          have Hc3 := Lib.hid c3
          clear c1 c2 c3
          go_enter Tryd.func38, Tryd.ntmps38
          go_wp2_with (first
            | ((with_reducible show wpList _ _ _ (⟨some 3, _, _, _, _, _⟩ :: _) _ _); refine wpList_box_blk rfl _ (.tmp 1) rfl cs rfl ?_; intro g w1 hg1 hg2 K1 L1)
            | ((with_reducible show wpList _ _ _ (⟨some 4, _, _, _, _, _⟩ :: _) _ _); refine wpList_alloc_blk rfl _ rfl zs _ ZH ?_; intro r w2 hg3 hg4 R2 L02; have K2 := Lib.hid (K1.out.over L02.out); have L2 := Lib.hid (step L1.out L02.out); obtain ⟨c55, c57, c58, c63, c64, c65, c66, c67, c68⟩ := FC.out w2 g K2.out; have hsz2 := L2.out.size; have hgr : g ≠ r := (by omega); have hwr : w.heap.size ≤ r := (by have := L1.out.size; omega))
            | ((with_reducible show wpList _ _ _ (⟨some 8, _, _, _, _, _⟩ :: _) _ _); refine wpList_build_blk rfl _ _ rfl C0 (by refine Eq.trans ?_ BF; kernel_rfl) ?_)
            | ((with_reducible show wpList _ _ _ (⟨some 5, _, _, _, _, _⟩ :: _) _ _); refine wpList_alloc_blk rfl _ rfl zs _ ZH ?_; intro h w3 hg5 hg6 X3' L03; have K3 := Lib.hid (K2.out.over L03.out); have R3 := Lib.hid (R2.out.over L03.out); have L3 := Lib.hid (step L2.out L03.out); have hgh : g ≠ h := (by have := K2.out.lt; omega); have hrh : r ≠ h := (by have := R2.out.lt; omega); have hwh : w.heap.size ≤ h := (by omega))
            | ((with_reducible show wpList _ _ _ (⟨none, .store _ (.tmp 5) _, _, _, _, _⟩ :: _) _ _); refine wpList_store_blk rfl _ (.tmp 5) (.tmp 8) rfl h rfl _ zs C0 rfl X3' 69 size_ask HZ HF0 HF1 ?_; intro w4 X0 O4 hg7; have K4 := Lib.hid (K3.out.only O4.out hgh); have R4 := Lib.hid (R3.out.only O4.out hrh); have L4 := Lib.hid (below_only L3.out O4.out hwh); clear c55 c57 c58 c63 c64 c65 c66 c67 c68; obtain ⟨c55, c57, c58, c63, c64, c65, c66, c67, c68⟩ := FC.out w4 g K4.out)
            | ((with_reducible show wpList _ _ _ (⟨none, .store _ (.tmp 28) _, _, _, _, _⟩ :: _) _ _); refine wpList_store_fld rfl _ (.tmp 28) (.tmp 27) rfl h 66 rfl _ C0 (.int .u16 a.cls) rfl X0 (Lib.hid (by have := HF0.out; omega)) (by kernel_rfl) rfl ?_; intro x1 XS1 O1 hq1; obtain ⟨C1, hC1⟩ : ∃ x, x = C0.set 66 (.int .u16 a.cls) := ⟨_, rfl⟩; have HC1 := Lib.hid hC1; have HL1 : Hid (C1.length = 69) := (by rw [hC1, List.length_set]; exact HF0.out); have H11 : Hid (∀ v ∈ C1, v.oneCell' = true) := (by rw [hC1]; intro v hv; rcases List.mem_or_eq_of_mem_set hv with hv | hv; exact HF1.out v hv; rw [hv]; rfl); rw [← hC1] at XS1; have KS1 := Lib.hid (K4.out.only O1.out hgh); have RT1 := Lib.hid (R4.out.only O1.out hrh); have LT1 := Lib.hid (below_only L4.out O1.out hwh); clear hC1 c55 c57 c58 c63 c64 c65 c66 c67 c68; obtain ⟨c55, c57, c58, c63, c64, c65, c66, c67, c68⟩ := FC.out x1 g KS1.out)
            | ((with_reducible show wpList _ _ _ (⟨some 57, _, _, _, _, _⟩ :: _) _ _); refine wpList_load_blk rfl _ (.tmp 5) rfl h rfl _ C1 XS1 69 _ Tryd.underlying32 rfl size_ask HL1 ?_)
            | ((with_reducible show wpList _ _ _ (⟨none, .store _ (.tmp 4) _, _, _, _, _⟩ :: _) _ _); refine wpList_store_blk rfl _ (.tmp 4) (.tmp 57) rfl r rfl _ zs C1 rfl RT1 69 size_ask HZ HL1 H11 ?_; intro w9 K9 O9 hg9)
            | fail)
          have HEQ : C1 = acells (.slice none 0 0) (.slice none 0 0) (.slice none 0 0) { zeroAsk with file := a.file, cls := a.cls } := by
            rw [HC1.out, HC0.out]
            rfl
          have hwr' : wantR 17 a = { zeroAsk with file := a.file, cls := a.cls } := by
            have c1 := Hc1.out; have c2 := Hc2.out; have c3 := Hc3.out; unfold wantR; rw [if_pos ⟨rfl, by omega⟩]
          have LF : Below w.heap.size w w9 := below_only LT1.out O9.out hwr
          refine bodyPost_ret (v := .agg C1.toArray) ?_ rfl ⟨_, rfl, by rw [hwr']; exact ⟨none, 0, 0, none, 0, 0, none, 0, 0, HEQ, HoldsF.nil _ _ _, Holds.nil _ _, HoldsS.nil _ _ _ _⟩, LF⟩
          exact results_cell_one rfl _ _ r _ _ (0, 0) _ rfl K9.out Tryd.underlying32 rfl (by rw [size_ask]; have := HL1.out; simp [this])
  · subst h18
    go_enter Tryd.func38, Tryd.ntmps38
    go_wp2_with (first
      | ((with_reducible show wpList _ _ _ (⟨some 3, _, _, _, _, _⟩ :: _) _ _); refine wpList_box_blk rfl _ (.tmp 1) rfl cs rfl ?_; intro g w1 hg1 hg2 K1 L1)
      | ((with_reducible show wpList _ _ _ (⟨some 4, _, _, _, _, _⟩ :: _) _ _); refine wpList_alloc_blk rfl _ rfl zs _ ZH ?_; intro r w2 hg3 hg4 R2 L02; have K2 := Lib.hid (K1.out.over L02.out); have L2 := Lib.hid (step L1.out L02.out); obtain ⟨c55, c57, c58, c63, c64, c65, c66, c67, c68⟩ := FC.out w2 g K2.out; have hsz2 := L2.out.size; have hgr : g ≠ r := (by omega); have hwr : w.heap.size ≤ r := (by have := L1.out.size; omega))
      | ((with_reducible show wpList _ _ _ (⟨some 8, _, _, _, _, _⟩ :: _) _ _); refine wpList_build_blk rfl _ _ rfl C0 (by refine Eq.trans ?_ BF; kernel_rfl) ?_)
      | ((with_reducible show wpList _ _ _ (⟨some 5, _, _, _, _, _⟩ :: _) _ _); refine wpList_alloc_blk rfl _ rfl zs _ ZH ?_; intro h w3 hg5 hg6 X3' L03; have K3 := Lib.hid (K2.out.over L03.out); have R3 := Lib.hid (R2.out.over L03.out); have L3 := Lib.hid (step L2.out L03.out); have hgh : g ≠ h := (by have := K2.out.lt; omega); have hrh : r ≠ h := (by have := R2.out.lt; omega); have hwh : w.heap.size ≤ h := (by omega))
      | ((with_reducible show wpList _ _ _ (⟨none, .store _ (.tmp 5) _, _, _, _, _⟩ :: _) _ _); refine wpList_store_blk rfl _ (.tmp 5) (.tmp 8) rfl h rfl _ zs C0 rfl X3' 69 size_ask HZ HF0 HF1 ?_; intro w4 X0 O4 hg7; have K4 := Lib.hid (K3.out.only O4.out hgh); have R4 := Lib.hid (R3.out.only O4.out hrh); have L4 := Lib.hid (below_only L3.out O4.out hwh); clear c55 c57 c58 c63 c64 c65 c66 c67 c68; obtain ⟨c55, c57, c58, c63, c64, c65, c66, c67, c68⟩ := FC.out w4 g K4.out)
      | ((with_reducible show wpList _ _ _ (⟨none, .store _ (.tmp 56) _, _, _, _, _⟩ :: _) _ _); refine wpList_store_fld rfl _ (.tmp 56) (.tmp 55) rfl h 55 rfl _ C0 (.int .u8 a.lev) rfl X0 (Lib.hid (by have := HF0.out; omega)) (by kernel_rfl) rfl ?_; intro x1 XS1 O1 hq1; obtain ⟨C1, hC1⟩ : ∃ x, x = C0.set 55 (.int .u8 a.lev) := ⟨_, rfl⟩; have HC1 := Lib.hid hC1; have HL1 : Hid (C1.length = 69) := (by rw [hC1, List.length_set]; exact HF0.out); have H11 : Hid (∀ v ∈ C1, v.oneCell' = true) := (by rw [hC1]; intro v hv; rcases List.mem_or_eq_of_mem_set hv with hv | hv; exact HF1.out v hv; rw [hv]; rfl); rw [← hC1] at XS1; have KS1 := Lib.hid (K4.out.only O1.out hgh); have RT1 := Lib.hid (R4.out.only O1.out hrh); have LT1 := Lib.hid (below_only L4.out O1.out hwh); clear hC1 c55 c57 c58 c63 c64 c65 c66 c67 c68; obtain ⟨c55, c57, c58, c63, c64, c65, c66, c67, c68⟩ := FC.out x1 g KS1.out)
      | ((with_reducible show wpList _ _ _ (⟨some 57, _, _, _, _, _⟩ :: _) _ _); refine wpList_load_blk rfl _ (.tmp 5) rfl h rfl _ C1 XS1 69 _ Tryd.underlying32 rfl size_ask HL1 ?_)
      | ((with_reducible show wpList _ _ _ (⟨none, .store _ (.tmp 4) _, _, _, _, _⟩ :: _) _ _); refine wpList_store_blk rfl _ (.tmp 4) (.tmp 57) rfl r rfl _ zs C1 rfl RT1 69 size_ask HZ HL1 H11 ?_; intro w9 K9 O9 hg9)
      | fail)
    have HEQ : C1 = acells (.slice none 0 0) (.slice none 0 0) (.slice none 0 0) { zeroAsk with file := a.file, lev := a.lev } := by
      rw [HC1.out, HC0.out]
      rfl
    have hwr' : wantR 18 a = { zeroAsk with file := a.file, lev := a.lev } := by
      unfold wantR; rw [if_neg (fun h => absurd h.1 (by decide))]; unfold wantI; rw [if_neg (by decide), if_neg (by decide), if_neg (by decide), if_pos rfl]
    have LF : Below w.heap.size w w9 := below_only LT1.out O9.out hwr
    refine bodyPost_ret (v := .agg C1.toArray) ?_ rfl ⟨_, rfl, by rw [hwr']; exact ⟨none, 0, 0, none, 0, 0, none, 0, 0, HEQ, HoldsF.nil _ _ _, Holds.nil _ _, HoldsS.nil _ _ _ _⟩, LF⟩
    exact results_cell_one rfl _ _ r _ _ (0, 0) _ rfl K9.out Tryd.underlying32 rfl (by rw [size_ask]; have := HL1.out; simp [this])
end Go.Proofs.YtbbjmmooemmeiaaDoor

namespace Go.Proofs.YtbbjmmooemmeiaaDoor
set_option linter.all false
open Go.RowKit
set_option linter.unusedVariables false
set_option linter.unusedSimpArgs false
set_option maxRecDepth 100000
def RIPutPost (w : World) (c : Int) (a : AskV) (e : Ending) (w' : World) : Prop := ∃ v, e = .returned (.tuple #[v, .int .i64 (ipErr c a)]) ∧ Own w' w.heap.size v (ipOf c a) ∧ Below w.heap.size w w'
set_option maxHeartbeats 4000000 in
theorem RIPutAsk_any (w : World) (c : Int) (cs : List Value) (a : AskV) (hc : 0 ≤ c ∧ c ≤ 65535) (ka : a.ok) (ha : AskIs w w.heap.size cs a) (hlen : a.dial.length ≤ 281474976710656 ∧ a.data.length ≤ 281474976710656 ∧ a.locks.length ≤ 281474976710656) (hnm : a.name.size ≤ 4398046511104 ∧ a.pat.size ≤ 4398046511104 ∧ a.aft.size ≤ 4398046511104) :
    Calls Tryd.prog 12 #[.int .u16 c, .agg cs.toArray] w (RIPutPost w c a) := by
  have HL := Lib.hid (ha.len ka)
  have HA := Lib.hid ha
  obtain ⟨hn1, hn2, hn3⟩ := hnm
  have CK : Hid (∀ w : World, Calls Tryd.prog 37 #[.int .u16 c] w fun e w' => e = .returned (.bool (knownI c)) ∧ w = w') := fun w => RKnownI_any w c hc
  have HE : Hid (∀ er, ipErr c a = er → er ≠ 0 → ∀ e w', e = .returned (.tuple #[.slice none 0 0, .int .i64 er]) → Below w.heap.size w w' → RIPutPost w c a e w') := by
    intro er h1 h2 e w' he hb
    unfold RIPutPost ipOf
    rw [h1, if_neg h2]
    exact ⟨_, he, Own.nil _ _, hb⟩
  by_cases hk : knownI c = true
  rotate_left
  · have hkf : knownI c = false := by simpa using hk
    have HQ := Lib.hid (HE.out 2 (by unfold ipErr nameI; rw [hkf]; rfl) (by decide))
    rw [hkf] at CK
    clear hk hkf HE ha ka HA hlen
    go_enter Tryd.func12, Tryd.ntmps12
    go_upto_region 1 with (first
      | ((with_reducible show wpList _ _ _ (⟨some 3, _, _, _, _, _⟩ :: _) _ _); refine wpList_box_blk rfl _ (.tmp 1) rfl cs rfl ?_; intro g w1 hg1 hg2 K1 L1)
      | fail)
    refine wp_region_held (S := fun w' => Blk w' g 32 cs) (by kernel_rfl) ?_
    change wpAnyH _ _ _ _ _ _ _ _ w1.drew
    have S0 : Hid (Blk w1.drew g 32 cs) := K1.out.drew
    have b0 : Hid (Below w.heap.size w w1.drew) := L1.out.drew
    refine wpAnyH_take (i := 0) (v := _) rfl (by kernel_rfl) (by kernel_rfl) (by kernel_rfl) (fun _ _ _ h => h) (yieldsIf_move (by kernel_rfl) (.tmp 0) rfl (.int .u16 c) (by kernel_rfl)) S0.out ?_
    refine wpAnyH_one 1 _ (by kernel_rfl) rfl fun K hK => ?_
    go_simp
    refine (CK.out _).mono ?_
    rintro e v1 ⟨rfl, rfl⟩
    refine hK _ _ S0.out ?_
    clear hK K
    refine wpAnyH_take (i := 2) (v := (.bool true)) rfl (by kernel_rfl) (by kernel_rfl) (by kernel_rfl) (fun _ _ _ h => h) (.inl ⟨by kernel_rfl, fun w _ => by go_simp⟩) S0.out ?_
    refine wpAnyH_take (i := 3) (v := _) rfl (by kernel_rfl) (by kernel_rfl) (by kernel_rfl) (fun _ _ _ h => h) (yieldsIf_move (by kernel_rfl) (.tmp 9) rfl (.bool true) (by kernel_rfl)) S0.out ?_
    refine wpAnyH_take (i := 4) (v := undef) rfl (by kernel_rfl) (by kernel_rfl) (by kernel_rfl) (fun _ _ _ h => h) (.inr ⟨by kernel_rfl, rfl⟩) S0.out ?_
    refine wpAnyH_take (i := 5) (v := undef) rfl (by kernel_rfl) (by kernel_rfl) (by kernel_rfl) (fun _ _ _ h => h) (.inr ⟨by kernel_rfl, rfl⟩) S0.out ?_
    refine wpAnyH_take (i := 7) (v := undef) rfl (by kernel_rfl) (by kernel_rfl) (by kernel_rfl) (fun _ _ _ h => h) (.inr ⟨by kernel_rfl, rfl⟩) S0.out ?_
    refine wpAnyH_take (i := 6) (v := undef) rfl (by kernel_rfl) (by kernel_rfl) (by kernel_rfl) (fun _ _ _ h => h) (.inr ⟨by kernel_rfl, rfl⟩) S0.out ?_
    refine wpAnyH_take (i := 8) (v := undef) rfl (by kernel_rfl) (by kernel_rfl) (by kernel_rfl) (fun _ _ _ h => h) (.inr ⟨by kernel_rfl, rfl⟩) S0.out ?_
    refine wpAnyH_take (i := 9) (v := undef) rfl (by kernel_rfl) (by kernel_rfl) (by kernel_rfl) (fun _ _ _ h => h) (.inr ⟨by kernel_rfl, rfl⟩) S0.out ?_
    refine wpAnyH_take (i := 10) (v := (.bool true)) rfl (by kernel_rfl) (by kernel_rfl) (by kernel_rfl) (fun _ _ _ h => h) (.inl ⟨by kernel_rfl, fun w _ => by go_simp⟩) S0.out ?_
    refine wpAnyH_take (i := 11) (v := _) rfl (by kernel_rfl) (by kernel_rfl) (by kernel_rfl) (fun _ _ _ h => h) (yieldsIf_move (by kernel_rfl) (.tmp 17) rfl (.bool true) (by kernel_rfl)) S0.out ?_
    refine wpAnyH_take (i := 12) (v := undef) rfl (by kernel_rfl) (by kernel_rfl) (by kernel_rfl) (fun _ _ _ h => h) (.inr ⟨by kernel_rfl, rfl⟩) S0.out ?_
    refine wpAnyH_take (i := 13) (v := undef) rfl (by kernel_rfl) (by kernel_rfl) (by kernel_rfl) (fun _ _ _ h => h) (.inr ⟨by kernel_rfl, rfl⟩) S0.out ?_
    refine wpAnyH_take (i := 14) (v := undef) rfl (by kernel_rfl) (by kernel_rfl) (by kernel_rfl) (fun _ _ _ h => h) (.inr ⟨by kernel_rfl, rfl⟩) S0.out ?_
    refine wpAnyH_take (i := 15) (v := undef) rfl (by kernel_rfl) (by kernel_rfl) (by kernel_rfl) (fun _ _ _ h => h) (.inr ⟨by kernel_rfl, rfl⟩) S0.out ?_
    refine wpAnyH_take (i := 16) (v := undef) rfl (by kernel_rfl) (by kernel_rfl) (by kernel_rfl) (fun _ _ _ h => h) (.inr ⟨by kernel_rfl, rfl⟩) S0.out ?_
    refine wpAnyH_take (i := 17) (v := undef) rfl (by kernel_rfl) (by kernel_rfl) (by kernel_rfl) (fun _ _ _ h => h) (.inr ⟨by kernel_rfl, rfl⟩) S0.out ?_
    refine wpAnyH_take (i := 18) (v := undef) rfl (by kernel_rfl) (by kernel_rfl) (by kernel_rfl) (fun _ _ _ h => h) (.inr ⟨by kernel_rfl, rfl⟩) S0.out ?_
    refine wpAnyH_take (i := 19) (v := undef) rfl (by kernel_rfl) (by kernel_rfl) (by kernel_rfl) (fun _ _ _ h => h) (.inr ⟨by kernel_rfl, rfl⟩) S0.out ?_
    refine wpAnyH_take (i := 20) (v := undef) rfl (by kernel_rfl) (by kernel_rfl) (by kernel_rfl) (fun _ _ _ h => h) (.inr ⟨by kernel_rfl, rfl⟩) S0.out ?_
    refine wpAnyH_take (i := 21) (v := undef) rfl (by kernel_rfl) (by kernel_rfl) (by kernel_rfl) (fun _ _ _ h => h) (.inr ⟨by kernel_rfl, rfl⟩) S0.out ?_
    refine wpAnyH_take (i := 22) (v := undef) rfl (by kernel_rfl) (by kernel_rfl) (by kernel_rfl) (fun _ _ _ h => h) (.inr ⟨by kernel_rfl, rfl⟩) S0.out ?_
    refine wpAnyH_take (i := 23) (v := undef) rfl (by kernel_rfl) (by kernel_rfl) (by kernel_rfl) (fun _ _ _ h => h) (.inr ⟨by kernel_rfl, rfl⟩) S0.out ?_
    refine wpAnyH_take (i := 24) (v := (.bool true)) rfl (by kernel_rfl) (by kernel_rfl) (by kernel_rfl) (fun _ _ _ h => h) (.inl ⟨by kernel_rfl, fun w _ => by go_simp⟩) S0.out ?_
    refine wpAnyH_done (by kernel_rfl) ?_ _
    go_simp
    go_wp2
    go_ret2
    exact HQ.out _ _ rfl b0.out
  rw [hk] at CK
  have CA : Hid (∀ w', Below w.heap.size w w' → Calls Tryd.prog 38 #[.int .u16 c, .agg cs.toArray] w' fun e w2 => ∃ ds : List Value, e = .returned (.agg ds.toArray) ∧ AskIs w2 w2.heap.size ds (wantR c a) ∧ Below w'.heap.size w' w2) := fun w' hb => iasked_any w' c cs a hc hk ka (HA.out.over hb)
  have CS : Hid (∀ (w' : World) (ds : List Value), AskIs w' w'.heap.size ds (wantR c a) → Below w.heap.size w w' → Calls Tryd.prog 14 #[.agg ds.toArray, .agg cs.toArray] w' fun e w2 => e = .returned (.bool (decide (wantR c a = a))) ∧ Below w'.heap.size w' w2) := fun w' ds hds hb => Asks_any w' ds cs _ a (wantR_ok ka) ka hds (HA.out.over hb) wantR_len hlen
  by_cases hw : wantR c a = a
  rotate_left
  · have hnb : nameI c a = false := by
      unfold nameI
      by_cases hcl : c = 17 ∧ ¬ (1 ≤ a.cls ∧ a.cls ≤ 3)
      · have h1 : classI a = false := by
          unfold classI
          by_cases h2 : 1 ≤ a.cls
          · have h3 : ¬ a.cls ≤ 3 := fun h3 => hcl.2 ⟨h2, h3⟩
            rw [decide_eq_false h3, Bool.and_false]
          · rw [decide_eq_false h2, Bool.false_and]
        rw [h1, hcl.1]
        simp
      · have h1 : wantR c a = wantI c a := by unfold wantR; rw [if_neg hcl]
        have h2 : besideI c a ≠ zeroAsk := fun h => hw (by rw [h1]; exact (besideI_want c a).1 h)
        rw [decide_eq_false h2]
        simp
    have HQ := Lib.hid (HE.out 2 (by unfold ipErr; rw [hnb]; rfl) (by decide))
    rw [decide_eq_false hw] at CS
    clear hk hw hnb HE ha ka HA hlen
    go_enter Tryd.func12, Tryd.ntmps12
    go_upto_region 1 with (first
      | ((with_reducible show wpList _ _ _ (⟨some 3, _, _, _, _, _⟩ :: _) _ _); refine wpList_box_blk rfl _ (.tmp 1) rfl cs rfl ?_; intro g w1 hg1 hg2 K1 L1)
      | fail)
    refine wp_region_held (S := fun w' => Blk w' g 32 cs) (by kernel_rfl) ?_
    change wpAnyH _ _ _ _ _ _ _ _ w1.drew
    have S0 : Hid (Blk w1.drew g 32 cs) := K1.out.drew
    have b0 : Hid (Below w.heap.size w w1.drew) := L1.out.drew
    refine wpAnyH_take (i := 0) (v := _) rfl (by kernel_rfl) (by kernel_rfl) (by kernel_rfl) (fun _ _ _ h => h) (yieldsIf_move (by kernel_rfl) (.tmp 0) rfl (.int .u16 c) (by kernel_rfl)) S0.out ?_
    refine wpAnyH_one 1 _ (by kernel_rfl) rfl fun K hK => ?_
    go_simp
    refine (CK.out _).mono ?_
    rintro e v1 ⟨rfl, rfl⟩
    refine hK _ _ S0.out ?_
    clear hK K
    refine wpAnyH_take (i := 2) (v := (.bool false)) rfl (by kernel_rfl) (by kernel_rfl) (by kernel_rfl) (fun _ _ _ h => h) (.inl ⟨by kernel_rfl, fun w _ => by go_simp⟩) S0.out ?_
    refine wpAnyH_take (i := 3) (v := _) rfl (by kernel_rfl) (by kernel_rfl) (by kernel_rfl) (fun _ _ _ h => h) (yieldsIf_move (by kernel_rfl) (.tmp 9) rfl (.bool false) (by kernel_rfl)) S0.out ?_
    refine wpAnyH_take (i := 4) (v := _) rfl (by kernel_rfl) (by kernel_rfl) (by kernel_rfl) (fun _ _ _ h => h) (yieldsIf_move (by kernel_rfl) (.tmp 0) rfl (.int .u16 c) (by kernel_rfl)) S0.out ?_
    refine wpAnyH_take (i := 5) (v := _) rfl (by kernel_rfl) (by kernel_rfl) (by kernel_rfl) (fun _ _ _ h => h) (yieldsIf_load_blk (by kernel_rfl) _ (.tmp 3) rfl g (by kernel_rfl) _ cs (fun w h => h) 69 _ Tryd.underlying32 rfl size_ask HL) S0.out ?_
    refine wpAnyH_take (i := 7) (v := _) rfl (by kernel_rfl) (by kernel_rfl) (by kernel_rfl) (fun _ _ _ h => h) (yieldsIf_load_blk (by kernel_rfl) _ (.tmp 3) rfl g (by kernel_rfl) _ cs (fun w h => h) 69 _ Tryd.underlying32 rfl size_ask HL) S0.out ?_
    refine wpAnyH_one 6 _ (by kernel_rfl) rfl fun K hK => ?_
    go_simp
    refine (CA.out _ b0.out).mono ?_
    rintro e v1 ⟨ds, rfl, hds, L01⟩
    have S1 := Lib.hid (S0.out.over L01)
    have b1 := Lib.hid (step b0.out L01)
    have HDS := Lib.hid hds
    refine hK _ _ S1.out ?_
    clear hK K hds L01
    refine wpAnyH_one 8 _ (by kernel_rfl) rfl fun K hK => ?_
    go_simp
    refine (CS.out _ ds HDS.out b1.out).mono ?_
    rintro e w3 ⟨rfl, L02⟩
    have S2 := Lib.hid (S1.out.over L02)
    have M3 := Lib.hid (step b1.out L02)
    refine hK _ _ S2.out ?_
    clear hK K L02 HDS S1 b1
    refine wpAnyH_take (i := 9) (v := (.bool true)) rfl (by kernel_rfl) (by kernel_rfl) (by kernel_rfl) (fun _ _ _ h => h) (.inl ⟨by kernel_rfl, fun w _ => by go_simp⟩) S2.out ?_
    refine wpAnyH_take (i := 10) (v := (.bool true)) rfl (by kernel_rfl) (by kernel_rfl) (by kernel_rfl) (fun _ _ _ h => h) (.inl ⟨by kernel_rfl, fun w _ => by go_simp⟩) S2.out ?_
    refine wpAnyH_take (i := 11) (v := _) rfl (by kernel_rfl) (by kernel_rfl) (by kernel_rfl) (fun _ _ _ h => h) (yieldsIf_move (by kernel_rfl) (.tmp 17) rfl (.bool true) (by kernel_rfl)) S2.out ?_
    refine wpAnyH_take (i := 12) (v := undef) rfl (by kernel_rfl) (by kernel_rfl) (by kernel_rfl) (fun _ _ _ h => h) (.inr ⟨by kernel_rfl, rfl⟩) S2.out ?_
    refine wpAnyH_take (i := 13) (v := undef) rfl (by kernel_rfl) (by kernel_rfl) (by kernel_rfl) (fun _ _ _ h => h) (.inr ⟨by kernel_rfl, rfl⟩) S2.out ?_
    refine wpAnyH_take (i := 14) (v := undef) rfl (by kernel_rfl) (by kernel_rfl) (by kernel_rfl) (fun _ _ _ h => h) (.inr ⟨by kernel_rfl, rfl⟩) S2.out ?_
    refine wpAnyH_take (i := 15) (v := undef) rfl (by kernel_rfl) (by kernel_rfl) (by kernel_rfl) (fun _ _ _ h => h) (.inr ⟨by kernel_rfl, rfl⟩) S2.out ?_
    refine wpAnyH_take (i := 16) (v := undef) rfl (by kernel_rfl) (by kernel_rfl) (by kernel_rfl) (fun _ _ _ h => h) (.inr ⟨by kernel_rfl, rfl⟩) S2.out ?_
    refine wpAnyH_take (i := 17) (v := undef) rfl (by kernel_rfl) (by kernel_rfl) (by kernel_rfl) (fun _ _ _ h => h) (.inr ⟨by kernel_rfl, rfl⟩) S2.out ?_
    refine wpAnyH_take (i := 18) (v := undef) rfl (by kernel_rfl) (by kernel_rfl) (by kernel_rfl) (fun _ _ _ h => h) (.inr ⟨by kernel_rfl, rfl⟩) S2.out ?_
    refine wpAnyH_take (i := 19) (v := undef) rfl (by kernel_rfl) (by kernel_rfl) (by kernel_rfl) (fun _ _ _ h => h) (.inr ⟨by kernel_rfl, rfl⟩) S2.out ?_
    refine wpAnyH_take (i := 20) (v := undef) rfl (by kernel_rfl) (by kernel_rfl) (by kernel_rfl) (fun _ _ _ h => h) (.inr ⟨by kernel_rfl, rfl⟩) S2.out ?_
    refine wpAnyH_take (i := 21) (v := undef) rfl (by kernel_rfl) (by kernel_rfl) (by kernel_rfl) (fun _ _ _ h => h) (.inr ⟨by kernel_rfl, rfl⟩) S2.out ?_
    refine wpAnyH_take (i := 22) (v := undef) rfl (by kernel_rfl) (by kernel_rfl) (by kernel_rfl) (fun _ _ _ h => h) (.inr ⟨by kernel_rfl, rfl⟩) S2.out ?_
    refine wpAnyH_take (i := 23) (v := undef) rfl (by kernel_rfl) (by kernel_rfl) (by kernel_rfl) (fun _ _ _ h => h) (.inr ⟨by kernel_rfl, rfl⟩) S2.out ?_
    refine wpAnyH_take (i := 24) (v := (.bool true)) rfl (by kernel_rfl) (by kernel_rfl) (by kernel_rfl) (fun _ _ _ h => h) (.inl ⟨by kernel_rfl, fun w _ => by go_simp⟩) S2.out ?_
    refine wpAnyH_done (by kernel_rfl) ?_ _
    go_simp
    go_wp2
    go_ret2
    exact HQ.out _ _ rfl M3.out
  rw [decide_eq_true hw] at CS
  have FC : Hid (∀ (w : World) (g : Nat), Blk w g 32 cs → w.cell? ⟨g, 55, none⟩ = some (.int .u8 a.lev) ∧ w.cell? ⟨g, 57, none⟩ = some (.int .u64 a.file) ∧ w.cell? ⟨g, 58, none⟩ = some (.string a.name) ∧ w.cell? ⟨g, 63, none⟩ = some (.int .u16 a.most) ∧ w.cell? ⟨g, 64, none⟩ = some (.string a.pat) ∧ w.cell? ⟨g, 65, none⟩ = some (.string a.aft) ∧ w.cell? ⟨g, 66, none⟩ = some (.int .u16 a.cls) ∧ w.cell? ⟨g, 67, none⟩ = some (.int .u64 a.siz) ∧ w.cell? ⟨g, 68, none⟩ = some (.bool a.on)) := by
    obtain ⟨A1, A2, A3, X1, X2, X3, M1, M2, M3, rfl, hA, hX, hM⟩ := ha
    exact fun w g h => ⟨h.at (acells_get ka 6), h.at (acells_get ka 8), h.at (acells_get ka 9), h.at (acells_get ka 14), h.at (acells_get ka 15), h.at (acells_get ka 16), h.at (acells_get ka 17), h.at (acells_get ka 18), h.at (acells_get ka 19)⟩
  have CU : Hid (∀ (w : World) (b : Bool), Calls Tryd.prog 41 #[.bool b] w fun e w' => e = .returned (.int .u64 (truthI b)) ∧ w = w') := RTruthI_any
  obtain ⟨l_lev, u_lev⟩ := ka.lev
  obtain ⟨l_file, u_file⟩ := ka.file
  obtain ⟨l_most, u_most⟩ := ka.most
  obtain ⟨l_cls, u_cls⟩ := ka.cls
  obtain ⟨l_siz, u_siz⟩ := ka.siz
  have z_most : IntKind.u64.wrap a.most = a.most := by rw [IntKind.wrap_u64]; omega
  have z_cls : IntKind.u64.wrap a.cls = a.cls := by rw [IntKind.wrap_u64]; omega
  have tro := truthI_le a.on
  obtain ⟨tr0, tr1⟩ := tro
  have CL2 : Hid (∀ (w' : World) (B : Nat) (v : Value) (xs : List Int) (n : Int), Own w' B v xs → xs.length ≤ 1000000 → B ≤ w'.heap.size → 0 ≤ n → n ≤ 65535 → Calls Tryd.prog 39 #[v, .int .u64 n, .int .i64 2] w' fun e w2 => ∃ v', e = .returned v' ∧ Own w2 B v' (xs ++ le n 2) ∧ Below B w' w2) := fun w' B v xs n ho hx hb h0 h1 => LayF_any w' B v xs n 2 65536 (by decide) (by decide) (by decide) ho hx hb h0 (by omega)
  have CL4 : Hid (∀ (w' : World) (B : Nat) (v : Value) (xs : List Int) (n : Int), Own w' B v xs → xs.length ≤ 1000000 → B ≤ w'.heap.size → 0 ≤ n → n ≤ 4294967295 → Calls Tryd.prog 39 #[v, .int .u64 n, .int .i64 4] w' fun e w2 => ∃ v', e = .returned v' ∧ Own w2 B v' (xs ++ le n 4) ∧ Below B w' w2) := fun w' B v xs n ho hx hb h0 h1 => LayF_any w' B v xs n 4 4294967296 (by decide) (by decide) (by decide) ho hx hb h0 (by omega)
  have CL8 : Hid (∀ (w' : World) (B : Nat) (v : Value) (xs : List Int) (n : Int), Own w' B v xs → xs.length ≤ 1000000 → B ≤ w'.heap.size → 0 ≤ n → n ≤ 18446744073709551615 → Calls Tryd.prog 39 #[v, .int .u64 n, .int .i64 8] w' fun e w2 => ∃ v', e = .returned v' ∧ Own w2 B v' (xs ++ le n 8) ∧ Below B w' w2) := fun w' B v xs n ho hx hb h0 h1 => LayF_any w' B v xs n 8 18446744073709551616 (by decide) (by decide) (by decide) ho hx hb h0 (by omega)
  have HQ0 : Hid (ipErr c a = 0 → ∀ v e w', e = .returned (.tuple #[v, .int .i64 0]) → Own w' w.heap.size v (bodyI c a) → Below w.heap.size w w' → RIPutPost w c a e w') := by
    intro h v e w' he hv hb
    unfold RIPutPost ipOf
    rw [h, if_pos rfl]
    exact ⟨_, he, hv, hb⟩
  have HQT : Hid (∀ (ss : List ByteArray) (X : List Int), ipErr c a = textsErr ss → (textsErr ss = 0 → X ++ textsB ss = bodyI c a) → ∀ (v : Value) (e : Ending) (w' : World), e = .returned (.tuple #[v, .int .i64 (textsErr ss)]) → Own w' w.heap.size v (if textsErr ss = 0 then X ++ textsB ss else []) → Below w.heap.size w w' → RIPutPost w c a e w') := by
    intro ss X h1 h2 v e w' he hv hb
    unfold RIPutPost ipOf
    rw [h1]
    refine ⟨v, he, ?_, hb⟩
    by_cases h3 : textsErr ss = 0
    · rw [if_pos h3] at hv ⊢
      rw [← h2 h3]
      exact hv
    · rw [if_neg h3] at hv ⊢
      exact hv
  have hnm : ∀ h17 : (c = 17 → 1 ≤ a.cls ∧ a.cls ≤ 3), nameI c a = true := fun h17 => by
    have h1 : wantI c a = a := by rw [← wantR_class h17]; exact hw
    unfold nameI
    rw [hk, (besideI_want c a).2 h1, Bool.true_and]
    by_cases h2 : c = 17
    · obtain ⟨h3, h4⟩ := h17 h2
      unfold classI
      rw [decide_eq_true h3, decide_eq_true h4]
      simp
    · rw [decide_eq_false h2]
      simp
  have hcc := knownI_cases hk
  clear HA ha hlen hk hw
  rcases hcc with h12 | h14 | h16 | h17 | h18
  · subst h12
    have he0 : ipErr 12 a = 0 := by unfold ipErr; rw [if_pos (hnm (fun h => absurd h (by decide))), if_neg (by decide), if_neg (fun h => absurd h.1 (by decide))]
    have HQ := Lib.hid (HQ0.out he0)
    have hb0 : bodyI 12 a = List.replicate 4 0 := by unfold bodyI; rw [if_neg (by decide), if_neg (by decide), if_neg (by decide), if_neg (by decide)]
    rw [hb0] at HQ
    clear HQ0 HQT hb0 he0 hnm
    go_enter Tryd.func12, Tryd.ntmps12
    go_upto_region 1 with (first
      | ((with_reducible show wpList _ _ _ (⟨some 3, _, _, _, _, _⟩ :: _) _ _); refine wpList_box_blk rfl _ (.tmp 1) rfl cs rfl ?_; intro g w1 hg1 hg2 K1 L1)
      | fail)
    refine wp_region_held (S := fun w' => Blk w' g 32 cs) (by kernel_rfl) ?_
    change wpAnyH _ _ _ _ _ _ _ _ w1.drew
    have S0 : Hid (Blk w1.drew g 32 cs) := K1.out.drew
    have b0 : Hid (Below w.heap.size w w1.drew) := L1.out.drew
    refine wpAnyH_take (i := 0) (v := _) rfl (by kernel_rfl) (by kernel_rfl) (by kernel_rfl) (fun _ _ _ h => h) (yieldsIf_move (by kernel_rfl) (.tmp 0) rfl (.int .u16 12) (by kernel_rfl)) S0.out ?_
    refine wpAnyH_one 1 _ (by kernel_rfl) rfl fun K hK => ?_
    go_simp
    refine (CK.out _).mono ?_
    rintro e v1 ⟨rfl, rfl⟩
    refine hK _ _ S0.out ?_
    clear hK K
    refine wpAnyH_take (i := 2) (v := (.bool false)) rfl (by kernel_rfl) (by kernel_rfl) (by kernel_rfl) (fun _ _ _ h => h) (.inl ⟨by kernel_rfl, fun w _ => by go_simp⟩) S0.out ?_
    refine wpAnyH_take (i := 3) (v := _) rfl (by kernel_rfl) (by kernel_rfl) (by kernel_rfl) (fun _ _ _ h => h) (yieldsIf_move (by kernel_rfl) (.tmp 9) rfl (.bool false) (by kernel_rfl)) S0.out ?_
    refine wpAnyH_take (i := 4) (v := _) rfl (by kernel_rfl) (by kernel_rfl) (by kernel_rfl) (fun _ _ _ h => h) (yieldsIf_move (by kernel_rfl) (.tmp 0) rfl (.int .u16 12) (by kernel_rfl)) S0.out ?_
    refine wpAnyH_take (i := 5) (v := _) rfl (by kernel_rfl) (by kernel_rfl) (by kernel_rfl) (fun _ _ _ h => h) (yieldsIf_load_blk (by kernel_rfl) _ (.tmp 3) rfl g (by kernel_rfl) _ cs (fun w h => h) 69 _ Tryd.underlying32 rfl size_ask HL) S0.out ?_
    refine wpAnyH_take (i := 7) (v := _) rfl (by kernel_rfl) (by kernel_rfl) (by kernel_rfl) (fun _ _ _ h => h) (yieldsIf_load_blk (by kernel_rfl) _ (.tmp 3) rfl g (by kernel_rfl) _ cs (fun w h => h) 69 _ Tryd.underlying32 rfl size_ask HL) S0.out ?_
    refine wpAnyH_one 6 _ (by kernel_rfl) rfl fun K hK => ?_
    go_simp
    refine (CA.out _ b0.out).mono ?_
    rintro e v1 ⟨ds, rfl, hds, L01⟩
    have S1 := Lib.hid (S0.out.over L01)
    have b1 := Lib.hid (step b0.out L01)
    have HDS := Lib.hid hds
    refine hK _ _ S1.out ?_
    clear hK K hds L01
    refine wpAnyH_one 8 _ (by kernel_rfl) rfl fun K hK => ?_
    go_simp
    refine (CS.out _ ds HDS.out b1.out).mono ?_
    rintro e w3 ⟨rfl, L02⟩
    have S2 := Lib.hid (S1.out.over L02)
    have M3 := Lib.hid (step b1.out L02)
    refine hK _ _ S2.out ?_
    clear hK K L02 HDS S1 b1
    refine wpAnyH_take (i := 9) (v := (.bool false)) rfl (by kernel_rfl) (by kernel_rfl) (by kernel_rfl) (fun _ _ _ h => h) (.inl ⟨by kernel_rfl, fun w _ => by go_simp⟩) S2.out ?_
    refine wpAnyH_take (i := 10) (v := (.bool false)) rfl (by kernel_rfl) (by kernel_rfl) (by kernel_rfl) (fun _ _ _ h => h) (.inl ⟨by kernel_rfl, fun w _ => by go_simp⟩) S2.out ?_
    refine wpAnyH_take (i := 11) (v := _) rfl (by kernel_rfl) (by kernel_rfl) (by kernel_rfl) (fun _ _ _ h => h) (yieldsIf_move (by kernel_rfl) (.tmp 17) rfl (.bool false) (by kernel_rfl)) S2.out ?_
    refine wpAnyH_take (i := 12) (v := _) rfl (by kernel_rfl) (by kernel_rfl) (by kernel_rfl) (fun _ _ _ h => h) (yieldsIf_move (by kernel_rfl) (.tmp 0) rfl (.int .u16 12) (by kernel_rfl)) S2.out ?_
    refine wpAnyH_take (i := 13) (v := (.bool false)) rfl (by kernel_rfl) (by kernel_rfl) (by kernel_rfl) (fun _ _ _ h => h) (.inl ⟨by kernel_rfl, fun w _ => by go_simp⟩) S2.out ?_
    refine wpAnyH_take (i := 14) (v := _) rfl (by kernel_rfl) (by kernel_rfl) (by kernel_rfl) (fun _ _ _ h => h) (yieldsIf_move (by kernel_rfl) (.tmp 20) rfl (.bool false) (by kernel_rfl)) S2.out ?_
    refine wpAnyH_take (i := 15) (v := undef) rfl (by kernel_rfl) (by kernel_rfl) (by kernel_rfl) (fun _ _ _ h => h) (.inr ⟨by kernel_rfl, rfl⟩) S2.out ?_
    refine wpAnyH_take (i := 16) (v := undef) rfl (by kernel_rfl) (by kernel_rfl) (by kernel_rfl) (fun _ _ _ h => h) (.inr ⟨by kernel_rfl, rfl⟩) S2.out ?_
    refine wpAnyH_take (i := 17) (v := undef) rfl (by kernel_rfl) (by kernel_rfl) (by kernel_rfl) (fun _ _ _ h => h) (.inr ⟨by kernel_rfl, rfl⟩) S2.out ?_
    refine wpAnyH_take (i := 18) (v := undef) rfl (by kernel_rfl) (by kernel_rfl) (by kernel_rfl) (fun _ _ _ h => h) (.inr ⟨by kernel_rfl, rfl⟩) S2.out ?_
    refine wpAnyH_take (i := 19) (v := undef) rfl (by kernel_rfl) (by kernel_rfl) (by kernel_rfl) (fun _ _ _ h => h) (.inr ⟨by kernel_rfl, rfl⟩) S2.out ?_
    refine wpAnyH_take (i := 20) (v := undef) rfl (by kernel_rfl) (by kernel_rfl) (by kernel_rfl) (fun _ _ _ h => h) (.inr ⟨by kernel_rfl, rfl⟩) S2.out ?_
    refine wpAnyH_take (i := 21) (v := undef) rfl (by kernel_rfl) (by kernel_rfl) (by kernel_rfl) (fun _ _ _ h => h) (.inr ⟨by kernel_rfl, rfl⟩) S2.out ?_
    refine wpAnyH_take (i := 22) (v := undef) rfl (by kernel_rfl) (by kernel_rfl) (by kernel_rfl) (fun _ _ _ h => h) (.inr ⟨by kernel_rfl, rfl⟩) S2.out ?_
    refine wpAnyH_take (i := 23) (v := (.bool false)) rfl (by kernel_rfl) (by kernel_rfl) (by kernel_rfl) (fun _ _ _ h => h) (.inl ⟨by kernel_rfl, fun w _ => by go_simp⟩) S2.out ?_
    refine wpAnyH_take (i := 24) (v := (.bool false)) rfl (by kernel_rfl) (by kernel_rfl) (by kernel_rfl) (fun _ _ _ h => h) (.inl ⟨by kernel_rfl, fun w _ => by go_simp⟩) S2.out ?_
    refine wpAnyH_done (by kernel_rfl) ?_ _
    go_simp
    have K3 := Lib.hid S2.out
    clear S0 b0 K1 L1 S2
    have N0 : Hid (Below w3.heap.size w3 w3) := Below.refl _ _
    have H00 : Hid (Own w3 w3.heap.size (.slice none 0 0) []) := Own.nil _ _
    have hg3 : g < w3.heap.size := K3.out.lt
    have hs3 := M3.out.size
    obtain ⟨c55, c57, c58, c63, c64, c65, c66, c67, c68⟩ := FC.out w3 g K3.out
    go_wp2_with fail
    refine (CL4.out w3 w3.heap.size _ ([]) 0 H00.out (by simp) N0.out.size (Int.le_refl 0) (by decide)).mono ?_
    rintro e y1 ⟨v1, rfl, ho1, L1⟩
    have HO1 := Lib.hid ho1
    have N1 := Lib.hid (N0.out.trans L1)
    have Ky1 := Lib.hid (K3.out.below N1.out hg3)
    clear ho1 L1
    clear c55 c57 c58 c63 c64 c65 c66 c67 c68
    obtain ⟨c55, c57, c58, c63, c64, c65, c66, c67, c68⟩ := FC.out y1 g Ky1.out
    go_wp2
    go_ret2
    refine HQ.out _ _ _ rfl ?_ (M3.out.trans (N1.out.mono hs3))
    have h9 := Own.mono HO1.out hs3
    rw [show le 0 4 = List.replicate 4 0 from rfl] at h9
    simpa using h9
  · subst h14
    obtain ⟨ss, hss⟩ : ∃ ss : List ByteArray, ss = [a.pat, a.aft] := ⟨_, rfl⟩
    have HSS := Lib.hid hss
    have HSZ : Hid (∀ s ∈ ss, s.size ≤ 4398046511104) := by
      show _
      rw [hss]
      intro s hs
      simp only [List.mem_cons, List.not_mem_nil, or_false] at hs
      rcases hs with rfl | rfl <;> assumption
    have he0 : ipErr 14 a = textsErr ss := by rw [hss]; show _ = if ptextErr a.pat.data.toList = 0 then (if ptextErr a.aft.data.toList = 0 then 0 else ptextErr a.aft.data.toList) else ptextErr a.pat.data.toList; unfold ipErr; rw [if_pos (hnm (fun h => absurd h (by decide))), if_pos rfl]; split; (split; (rename_i h; exact h); rfl); rfl
    have HQ := Lib.hid (HQT.out ss (((([] ++ le a.file 8) ++ le a.most 2) ++ le 0 2)) he0 (fun _ => by rw [hss]; unfold bodyI; rw [if_pos rfl]; show _ ++ (ptextOf a.pat.data.toList ++ (ptextOf a.aft.data.toList ++ [])) = _; rw [show le 0 2 = List.replicate 2 0 from rfl]; simp only [List.append_assoc, List.append_nil, List.nil_append]))
    clear HQ0 HQT he0 hnm hss
    go_enter Tryd.func12, Tryd.ntmps12
    go_upto_region 1 with (first
      | ((with_reducible show wpList _ _ _ (⟨some 3, _, _, _, _, _⟩ :: _) _ _); refine wpList_box_blk rfl _ (.tmp 1) rfl cs rfl ?_; intro g w1 hg1 hg2 K1 L1)
      | fail)
    refine wp_region_held (S := fun w' => Blk w' g 32 cs) (by kernel_rfl) ?_
    change wpAnyH _ _ _ _ _ _ _ _ w1.drew
    have S0 : Hid (Blk w1.drew g 32 cs) := K1.out.drew
    have b0 : Hid (Below w.heap.size w w1.drew) := L1.out.drew
    refine wpAnyH_take (i := 0) (v := _) rfl (by kernel_rfl) (by kernel_rfl) (by kernel_rfl) (fun _ _ _ h => h) (yieldsIf_move (by kernel_rfl) (.tmp 0) rfl (.int .u16 14) (by kernel_rfl)) S0.out ?_
    refine wpAnyH_one 1 _ (by kernel_rfl) rfl fun K hK => ?_
    go_simp
    refine (CK.out _).mono ?_
    rintro e v1 ⟨rfl, rfl⟩
    refine hK _ _ S0.out ?_
    clear hK K
    refine wpAnyH_take (i := 2) (v := (.bool false)) rfl (by kernel_rfl) (by kernel_rfl) (by kernel_rfl) (fun _ _ _ h => h) (.inl ⟨by kernel_rfl, fun w _ => by go_simp⟩) S0.out ?_
    refine wpAnyH_take (i := 3) (v := _) rfl (by kernel_rfl) (by kernel_rfl) (by kernel_rfl) (fun _ _ _ h => h) (yieldsIf_move (by kernel_rfl) (.tmp 9) rfl (.bool false) (by kernel_rfl)) S0.out ?_
    refine wpAnyH_take (i := 4) (v := _) rfl (by kernel_rfl) (by kernel_rfl) (by kernel_rfl) (fun _ _ _ h => h) (yieldsIf_move (by kernel_rfl) (.tmp 0) rfl (.int .u16 14) (by kernel_rfl)) S0.out ?_
    refine wpAnyH_take (i := 5) (v := _) rfl (by kernel_rfl) (by kernel_rfl) (by kernel_rfl) (fun _ _ _ h => h) (yieldsIf_load_blk (by kernel_rfl) _ (.tmp 3) rfl g (by kernel_rfl) _ cs (fun w h => h) 69 _ Tryd.underlying32 rfl size_ask HL) S0.out ?_
    refine wpAnyH_take (i := 7) (v := _) rfl (by kernel_rfl) (by kernel_rfl) (by kernel_rfl) (fun _ _ _ h => h) (yieldsIf_load_blk (by kernel_rfl) _ (.tmp 3) rfl g (by kernel_rfl) _ cs (fun w h => h) 69 _ Tryd.underlying32 rfl size_ask HL) S0.out ?_
    refine wpAnyH_one 6 _ (by kernel_rfl) rfl fun K hK => ?_
    go_simp
    refine (CA.out _ b0.out).mono ?_
    rintro e v1 ⟨ds, rfl, hds, L01⟩
    have S1 := Lib.hid (S0.out.over L01)
    have b1 := Lib.hid (step b0.out L01)
    have HDS := Lib.hid hds
    refine hK _ _ S1.out ?_
    clear hK K hds L01
    refine wpAnyH_one 8 _ (by kernel_rfl) rfl fun K hK => ?_
    go_simp
    refine (CS.out _ ds HDS.out b1.out).mono ?_
    rintro e w3 ⟨rfl, L02⟩
    have S2 := Lib.hid (S1.out.over L02)
    have M3 := Lib.hid (step b1.out L02)
    refine hK _ _ S2.out ?_
    clear hK K L02 HDS S1 b1
    refine wpAnyH_take (i := 9) (v := (.bool false)) rfl (by kernel_rfl) (by kernel_rfl) (by kernel_rfl) (fun _ _ _ h => h) (.inl ⟨by kernel_rfl, fun w _ => by go_simp⟩) S2.out ?_
    refine wpAnyH_take (i := 10) (v := (.bool false)) rfl (by kernel_rfl) (by kernel_rfl) (by kernel_rfl) (fun _ _ _ h => h) (.inl ⟨by kernel_rfl, fun w _ => by go_simp⟩) S2.out ?_
    refine wpAnyH_take (i := 11) (v := _) rfl (by kernel_rfl) (by kernel_rfl) (by kernel_rfl) (fun _ _ _ h => h) (yieldsIf_move (by kernel_rfl) (.tmp 17) rfl (.bool false) (by kernel_rfl)) S2.out ?_
    refine wpAnyH_take (i := 12) (v := _) rfl (by kernel_rfl) (by kernel_rfl) (by kernel_rfl) (fun _ _ _ h => h) (yieldsIf_move (by kernel_rfl) (.tmp 0) rfl (.int .u16 14) (by kernel_rfl)) S2.out ?_
    refine wpAnyH_take (i := 13) (v := (.bool false)) rfl (by kernel_rfl) (by kernel_rfl) (by kernel_rfl) (fun _ _ _ h => h) (.inl ⟨by kernel_rfl, fun w _ => by go_simp⟩) S2.out ?_
    refine wpAnyH_take (i := 14) (v := _) rfl (by kernel_rfl) (by kernel_rfl) (by kernel_rfl) (fun _ _ _ h => h) (yieldsIf_move (by kernel_rfl) (.tmp 20) rfl (.bool false) (by kernel_rfl)) S2.out ?_
    refine wpAnyH_take (i := 15) (v := undef) rfl (by kernel_rfl) (by kernel_rfl) (by kernel_rfl) (fun _ _ _ h => h) (.inr ⟨by kernel_rfl, rfl⟩) S2.out ?_
    refine wpAnyH_take (i := 16) (v := undef) rfl (by kernel_rfl) (by kernel_rfl) (by kernel_rfl) (fun _ _ _ h => h) (.inr ⟨by kernel_rfl, rfl⟩) S2.out ?_
    refine wpAnyH_take (i := 17) (v := undef) rfl (by kernel_rfl) (by kernel_rfl) (by kernel_rfl) (fun _ _ _ h => h) (.inr ⟨by kernel_rfl, rfl⟩) S2.out ?_
    refine wpAnyH_take (i := 18) (v := undef) rfl (by kernel_rfl) (by kernel_rfl) (by kernel_rfl) (fun _ _ _ h => h) (.inr ⟨by kernel_rfl, rfl⟩) S2.out ?_
    refine wpAnyH_take (i := 19) (v := undef) rfl (by kernel_rfl) (by kernel_rfl) (by kernel_rfl) (fun _ _ _ h => h) (.inr ⟨by kernel_rfl, rfl⟩) S2.out ?_
    refine wpAnyH_take (i := 20) (v := undef) rfl (by kernel_rfl) (by kernel_rfl) (by kernel_rfl) (fun _ _ _ h => h) (.inr ⟨by kernel_rfl, rfl⟩) S2.out ?_
    refine wpAnyH_take (i := 21) (v := undef) rfl (by kernel_rfl) (by kernel_rfl) (by kernel_rfl) (fun _ _ _ h => h) (.inr ⟨by kernel_rfl, rfl⟩) S2.out ?_
    refine wpAnyH_take (i := 22) (v := undef) rfl (by kernel_rfl) (by kernel_rfl) (by kernel_rfl) (fun _ _ _ h => h) (.inr ⟨by kernel_rfl, rfl⟩) S2.out ?_
    refine wpAnyH_take (i := 23) (v := (.bool false)) rfl (by kernel_rfl) (by kernel_rfl) (by kernel_rfl) (fun _ _ _ h => h) (.inl ⟨by kernel_rfl, fun w _ => by go_simp⟩) S2.out ?_
    refine wpAnyH_take (i := 24) (v := (.bool false)) rfl (by kernel_rfl) (by kernel_rfl) (by kernel_rfl) (fun _ _ _ h => h) (.inl ⟨by kernel_rfl, fun w _ => by go_simp⟩) S2.out ?_
    refine wpAnyH_done (by kernel_rfl) ?_ _
    go_simp
    have K3 := Lib.hid S2.out
    clear S0 b0 K1 L1 S2
    have N0 : Hid (Below w3.heap.size w3 w3) := Below.refl _ _
    have H00 : Hid (Own w3 w3.heap.size (.slice none 0 0) []) := Own.nil _ _
    have hg3 : g < w3.heap.size := K3.out.lt
    have hs3 := M3.out.size
    obtain ⟨c55, c57, c58, c63, c64, c65, c66, c67, c68⟩ := FC.out w3 g K3.out
    go_wp2_with fail
    refine (CL8.out w3 w3.heap.size _ ([]) a.file H00.out (by simp) N0.out.size l_file u_file).mono ?_
    rintro e y1 ⟨v1, rfl, ho1, L1⟩
    have HO1 := Lib.hid ho1
    have N1 := Lib.hid (N0.out.trans L1)
    have Ky1 := Lib.hid (K3.out.below N1.out hg3)
    clear ho1 L1
    clear c55 c57 c58 c63 c64 c65 c66 c67 c68
    obtain ⟨c55, c57, c58, c63, c64, c65, c66, c67, c68⟩ := FC.out y1 g Ky1.out
    go_wp2_with fail
    refine (CL2.out y1 w3.heap.size _ ([] ++ le a.file 8) a.most HO1.out (by simp [le_length]) N1.out.size l_most u_most).mono ?_
    rintro e y2 ⟨v2, rfl, ho2, L2⟩
    have HO2 := Lib.hid ho2
    have N2 := Lib.hid (N1.out.trans L2)
    have Ky2 := Lib.hid (K3.out.below N2.out hg3)
    clear ho2 L2
    clear c55 c57 c58 c63 c64 c65 c66 c67 c68
    obtain ⟨c55, c57, c58, c63, c64, c65, c66, c67, c68⟩ := FC.out y2 g Ky2.out
    go_wp2_with fail
    refine (CL2.out y2 w3.heap.size _ (([] ++ le a.file 8) ++ le a.most 2) 0 HO2.out (by simp [le_length]) N2.out.size (Int.le_refl 0) (by decide)).mono ?_
    rintro e y3 ⟨v3, rfl, ho3, L3⟩
    have HO3 := Lib.hid ho3
    have N3 := Lib.hid (N2.out.trans L3)
    have Ky3 := Lib.hid (K3.out.below N3.out hg3)
    clear ho3 L3
    clear c55 c57 c58 c63 c64 c65 c66 c67 c68
    obtain ⟨c55, c57, c58, c63, c64, c65, c66, c67, c68⟩ := FC.out y3 g Ky3.out
    go_wp2_with (first
      | ((with_reducible show wpList _ _ _ (⟨some 55, _, _, _, _, _⟩ :: _) _ _); refine wpList_slice_blk rfl _ _ 2 _ rfl Tryd.underlying74 ([.string a.pat, .string a.aft] : List Value) (by kernel_rfl) ?_; intro gl z1 hz1 hz2 Yl Ll; have HOl := Lib.hid (Own.below HO3.out Ll.out); have Nl := Lib.hid (N3.out.trans (Ll.out.mono N3.out.size)))
      | fail)
    refine (RTexts_any z1 w3.heap.size gl 2 _ ((([] ++ le a.file 8) ++ le a.most 2) ++ le 0 2) ss HOl.out Nl.out.size (by rw [HSS.out]; exact Yl.out) (by rw [HSS.out]; rfl) (by decide) HSZ.out (by simp [le_length])).mono ?_
    rintro e z2 ⟨vt, rfl, ho9, L9⟩
    have N9 := Lib.hid (Nl.out.trans L9)
    have HO9 := Lib.hid ho9
    clear ho9 L9
    obtain ⟨er, her⟩ : ∃ x, x = textsErr ss := ⟨_, rfl⟩
    rw [← her] at HO9 HQ ⊢
    clear her
    go_wp2
    go_ret2
    exact HQ.out _ _ _ rfl (Own.mono HO9.out hs3) (M3.out.trans (N9.out.mono hs3))
  · subst h16
    have he0 : ipErr 16 a = 0 := by unfold ipErr; rw [if_pos (hnm (fun h => absurd h (by decide))), if_neg (by decide), if_neg (fun h => absurd h.1 (by decide))]
    have HQ := Lib.hid (HQ0.out he0)
    have hb0 : bodyI 16 a = le a.file 8 := by unfold bodyI; rw [if_neg (by decide), if_pos rfl]
    rw [hb0] at HQ
    clear HQ0 HQT hb0 he0 hnm
    go_enter Tryd.func12, Tryd.ntmps12
    go_upto_region 1 with (first
      | ((with_reducible show wpList _ _ _ (⟨some 3, _, _, _, _, _⟩ :: _) _ _); refine wpList_box_blk rfl _ (.tmp 1) rfl cs rfl ?_; intro g w1 hg1 hg2 K1 L1)
      | fail)
    refine wp_region_held (S := fun w' => Blk w' g 32 cs) (by kernel_rfl) ?_
    change wpAnyH _ _ _ _ _ _ _ _ w1.drew
    have S0 : Hid (Blk w1.drew g 32 cs) := K1.out.drew
    have b0 : Hid (Below w.heap.size w w1.drew) := L1.out.drew
    refine wpAnyH_take (i := 0) (v := _) rfl (by kernel_rfl) (by kernel_rfl) (by kernel_rfl) (fun _ _ _ h => h) (yieldsIf_move (by kernel_rfl) (.tmp 0) rfl (.int .u16 16) (by kernel_rfl)) S0.out ?_
    refine wpAnyH_one 1 _ (by kernel_rfl) rfl fun K hK => ?_
    go_simp
    refine (CK.out _).mono ?_
    rintro e v1 ⟨rfl, rfl⟩
    refine hK _ _ S0.out ?_
    clear hK K
    refine wpAnyH_take (i := 2) (v := (.bool false)) rfl (by kernel_rfl) (by kernel_rfl) (by kernel_rfl) (fun _ _ _ h => h) (.inl ⟨by kernel_rfl, fun w _ => by go_simp⟩) S0.out ?_
    refine wpAnyH_take (i := 3) (v := _) rfl (by kernel_rfl) (by kernel_rfl) (by kernel_rfl) (fun _ _ _ h => h) (yieldsIf_move (by kernel_rfl) (.tmp 9) rfl (.bool false) (by kernel_rfl)) S0.out ?_
    refine wpAnyH_take (i := 4) (v := _) rfl (by kernel_rfl) (by kernel_rfl) (by kernel_rfl) (fun _ _ _ h => h) (yieldsIf_move (by kernel_rfl) (.tmp 0) rfl (.int .u16 16) (by kernel_rfl)) S0.out ?_
    refine wpAnyH_take (i := 5) (v := _) rfl (by kernel_rfl) (by kernel_rfl) (by kernel_rfl) (fun _ _ _ h => h) (yieldsIf_load_blk (by kernel_rfl) _ (.tmp 3) rfl g (by kernel_rfl) _ cs (fun w h => h) 69 _ Tryd.underlying32 rfl size_ask HL) S0.out ?_
    refine wpAnyH_take (i := 7) (v := _) rfl (by kernel_rfl) (by kernel_rfl) (by kernel_rfl) (fun _ _ _ h => h) (yieldsIf_load_blk (by kernel_rfl) _ (.tmp 3) rfl g (by kernel_rfl) _ cs (fun w h => h) 69 _ Tryd.underlying32 rfl size_ask HL) S0.out ?_
    refine wpAnyH_one 6 _ (by kernel_rfl) rfl fun K hK => ?_
    go_simp
    refine (CA.out _ b0.out).mono ?_
    rintro e v1 ⟨ds, rfl, hds, L01⟩
    have S1 := Lib.hid (S0.out.over L01)
    have b1 := Lib.hid (step b0.out L01)
    have HDS := Lib.hid hds
    refine hK _ _ S1.out ?_
    clear hK K hds L01
    refine wpAnyH_one 8 _ (by kernel_rfl) rfl fun K hK => ?_
    go_simp
    refine (CS.out _ ds HDS.out b1.out).mono ?_
    rintro e w3 ⟨rfl, L02⟩
    have S2 := Lib.hid (S1.out.over L02)
    have M3 := Lib.hid (step b1.out L02)
    refine hK _ _ S2.out ?_
    clear hK K L02 HDS S1 b1
    refine wpAnyH_take (i := 9) (v := (.bool false)) rfl (by kernel_rfl) (by kernel_rfl) (by kernel_rfl) (fun _ _ _ h => h) (.inl ⟨by kernel_rfl, fun w _ => by go_simp⟩) S2.out ?_
    refine wpAnyH_take (i := 10) (v := (.bool false)) rfl (by kernel_rfl) (by kernel_rfl) (by kernel_rfl) (fun _ _ _ h => h) (.inl ⟨by kernel_rfl, fun w _ => by go_simp⟩) S2.out ?_
    refine wpAnyH_take (i := 11) (v := _) rfl (by kernel_rfl) (by kernel_rfl) (by kernel_rfl) (fun _ _ _ h => h) (yieldsIf_move (by kernel_rfl) (.tmp 17) rfl (.bool false) (by kernel_rfl)) S2.out ?_
    refine wpAnyH_take (i := 12) (v := _) rfl (by kernel_rfl) (by kernel_rfl) (by kernel_rfl) (fun _ _ _ h => h) (yieldsIf_move (by kernel_rfl) (.tmp 0) rfl (.int .u16 16) (by kernel_rfl)) S2.out ?_
    refine wpAnyH_take (i := 13) (v := (.bool false)) rfl (by kernel_rfl) (by kernel_rfl) (by kernel_rfl) (fun _ _ _ h => h) (.inl ⟨by kernel_rfl, fun w _ => by go_simp⟩) S2.out ?_
    refine wpAnyH_take (i := 14) (v := _) rfl (by kernel_rfl) (by kernel_rfl) (by kernel_rfl) (fun _ _ _ h => h) (yieldsIf_move (by kernel_rfl) (.tmp 20) rfl (.bool false) (by kernel_rfl)) S2.out ?_
    refine wpAnyH_take (i := 15) (v := undef) rfl (by kernel_rfl) (by kernel_rfl) (by kernel_rfl) (fun _ _ _ h => h) (.inr ⟨by kernel_rfl, rfl⟩) S2.out ?_
    refine wpAnyH_take (i := 16) (v := undef) rfl (by kernel_rfl) (by kernel_rfl) (by kernel_rfl) (fun _ _ _ h => h) (.inr ⟨by kernel_rfl, rfl⟩) S2.out ?_
    refine wpAnyH_take (i := 17) (v := undef) rfl (by kernel_rfl) (by kernel_rfl) (by kernel_rfl) (fun _ _ _ h => h) (.inr ⟨by kernel_rfl, rfl⟩) S2.out ?_
    refine wpAnyH_take (i := 18) (v := undef) rfl (by kernel_rfl) (by kernel_rfl) (by kernel_rfl) (fun _ _ _ h => h) (.inr ⟨by kernel_rfl, rfl⟩) S2.out ?_
    refine wpAnyH_take (i := 19) (v := undef) rfl (by kernel_rfl) (by kernel_rfl) (by kernel_rfl) (fun _ _ _ h => h) (.inr ⟨by kernel_rfl, rfl⟩) S2.out ?_
    refine wpAnyH_take (i := 20) (v := undef) rfl (by kernel_rfl) (by kernel_rfl) (by kernel_rfl) (fun _ _ _ h => h) (.inr ⟨by kernel_rfl, rfl⟩) S2.out ?_
    refine wpAnyH_take (i := 21) (v := undef) rfl (by kernel_rfl) (by kernel_rfl) (by kernel_rfl) (fun _ _ _ h => h) (.inr ⟨by kernel_rfl, rfl⟩) S2.out ?_
    refine wpAnyH_take (i := 22) (v := undef) rfl (by kernel_rfl) (by kernel_rfl) (by kernel_rfl) (fun _ _ _ h => h) (.inr ⟨by kernel_rfl, rfl⟩) S2.out ?_
    refine wpAnyH_take (i := 23) (v := (.bool false)) rfl (by kernel_rfl) (by kernel_rfl) (by kernel_rfl) (fun _ _ _ h => h) (.inl ⟨by kernel_rfl, fun w _ => by go_simp⟩) S2.out ?_
    refine wpAnyH_take (i := 24) (v := (.bool false)) rfl (by kernel_rfl) (by kernel_rfl) (by kernel_rfl) (fun _ _ _ h => h) (.inl ⟨by kernel_rfl, fun w _ => by go_simp⟩) S2.out ?_
    refine wpAnyH_done (by kernel_rfl) ?_ _
    go_simp
    have K3 := Lib.hid S2.out
    clear S0 b0 K1 L1 S2
    have N0 : Hid (Below w3.heap.size w3 w3) := Below.refl _ _
    have H00 : Hid (Own w3 w3.heap.size (.slice none 0 0) []) := Own.nil _ _
    have hg3 : g < w3.heap.size := K3.out.lt
    have hs3 := M3.out.size
    obtain ⟨c55, c57, c58, c63, c64, c65, c66, c67, c68⟩ := FC.out w3 g K3.out
    go_wp2_with fail
    refine (CL8.out w3 w3.heap.size _ ([]) a.file H00.out (by simp) N0.out.size l_file u_file).mono ?_
    rintro e y1 ⟨v1, rfl, ho1, L1⟩
    have HO1 := Lib.hid ho1
    have N1 := Lib.hid (N0.out.trans L1)
    have Ky1 := Lib.hid (K3.out.below N1.out hg3)
    clear ho1 L1
    clear c55 c57 c58 c63 c64 c65 c66 c67 c68
    obtain ⟨c55, c57, c58, c63, c64, c65, c66, c67, c68⟩ := FC.out y1 g Ky1.out
    go_wp2
    go_ret2
    refine HQ.out _ _ _ rfl ?_ (M3.out.trans (N1.out.mono hs3))
    have h9 := Own.mono HO1.out hs3
    simpa [List.append_assoc] using h9
  · subst h17
    by_cases hcl : 1 ≤ a.cls ∧ a.cls ≤ 3
    rotate_left
    · have hcf : classI a = false := by
        unfold classI
        by_cases h2 : 1 ≤ a.cls
        · have h3 : ¬ a.cls ≤ 3 := fun h3 => hcl ⟨h2, h3⟩
          rw [decide_eq_false h3, Bool.and_false]
        · rw [decide_eq_false h2, Bool.false_and]
      have HQ := Lib.hid (HE.out 2 (by unfold ipErr nameI; rw [hcf]; simp) (by decide))
      clear HQ0 HQT hnm hcf
      by_cases h2 : 1 ≤ a.cls
      · have h3 : ¬ a.cls ≤ 3 := fun h3 => hcl ⟨h2, h3⟩
        clear hcl
        obtain ⟨q, hq⟩ : ∃ q, q = a.cls := ⟨_, rfl⟩
        rw [← hq] at FC h2 h3
        clear hq z_cls
        go_enter Tryd.func12, Tryd.ntmps12
        go_upto_region 1 with (first
          | ((with_reducible show wpList _ _ _ (⟨some 3, _, _, _, _, _⟩ :: _) _ _); refine wpList_box_blk rfl _ (.tmp 1) rfl cs rfl ?_; intro g w1 hg1 hg2 K1 L1)
          | fail)
        refine wp_region_held (S := fun w' => Blk w' g 32 cs) (by kernel_rfl) ?_
        change wpAnyH _ _ _ _ _ _ _ _ w1.drew
        have S0 : Hid (Blk w1.drew g 32 cs) := K1.out.drew
        have b0 : Hid (Below w.heap.size w w1.drew) := L1.out.drew
        refine wpAnyH_take (i := 0) (v := _) rfl (by kernel_rfl) (by kernel_rfl) (by kernel_rfl) (fun _ _ _ h => h) (yieldsIf_move (by kernel_rfl) (.tmp 0) rfl (.int .u16 17) (by kernel_rfl)) S0.out ?_
        refine wpAnyH_one 1 _ (by kernel_rfl) rfl fun K hK => ?_
        go_simp
        refine (CK.out _).mono ?_
        rintro e v1 ⟨rfl, rfl⟩
        refine hK _ _ S0.out ?_
        clear hK K
        refine wpAnyH_take (i := 2) (v := (.bool false)) rfl (by kernel_rfl) (by kernel_rfl) (by kernel_rfl) (fun _ _ _ h => h) (.inl ⟨by kernel_rfl, fun w _ => by go_simp⟩) S0.out ?_
        refine wpAnyH_take (i := 3) (v := _) rfl (by kernel_rfl) (by kernel_rfl) (by kernel_rfl) (fun _ _ _ h => h) (yieldsIf_move (by kernel_rfl) (.tmp 9) rfl (.bool false) (by kernel_rfl)) S0.out ?_
        refine wpAnyH_take (i := 4) (v := _) rfl (by kernel_rfl) (by kernel_rfl) (by kernel_rfl) (fun _ _ _ h => h) (yieldsIf_move (by kernel_rfl) (.tmp 0) rfl (.int .u16 17) (by kernel_rfl)) S0.out ?_
        refine wpAnyH_take (i := 5) (v := _) rfl (by kernel_rfl) (by kernel_rfl) (by kernel_rfl) (fun _ _ _ h => h) (yieldsIf_load_blk (by kernel_rfl) _ (.tmp 3) rfl g (by kernel_rfl) _ cs (fun w h => h) 69 _ Tryd.underlying32 rfl size_ask HL) S0.out ?_
        refine wpAnyH_take (i := 7) (v := _) rfl (by kernel_rfl) (by kernel_rfl) (by kernel_rfl) (fun _ _ _ h => h) (yieldsIf_load_blk (by kernel_rfl) _ (.tmp 3) rfl g (by kernel_rfl) _ cs (fun w h => h) 69 _ Tryd.underlying32 rfl size_ask HL) S0.out ?_
        refine wpAnyH_one 6 _ (by kernel_rfl) rfl fun K hK => ?_
        go_simp
        refine (CA.out _ b0.out).mono ?_
        rintro e v1 ⟨ds, rfl, hds, L01⟩
        have S1 := Lib.hid (S0.out.over L01)
        have b1 := Lib.hid (step b0.out L01)
        have HDS := Lib.hid hds
        refine hK _ _ S1.out ?_
        clear hK K hds L01
        refine wpAnyH_one 8 _ (by kernel_rfl) rfl fun K hK => ?_
        go_simp
        refine (CS.out _ ds HDS.out b1.out).mono ?_
        rintro e w3 ⟨rfl, L02⟩
        have S2 := Lib.hid (S1.out.over L02)
        have M3 := Lib.hid (step b1.out L02)
        refine hK _ _ S2.out ?_
        clear hK K L02 HDS S1 b1
        refine wpAnyH_take (i := 9) (v := (.bool false)) rfl (by kernel_rfl) (by kernel_rfl) (by kernel_rfl) (fun _ _ _ h => h) (.inl ⟨by kernel_rfl, fun w _ => by go_simp⟩) S2.out ?_
        refine wpAnyH_take (i := 10) (v := (.bool false)) rfl (by kernel_rfl) (by kernel_rfl) (by kernel_rfl) (fun _ _ _ h => h) (.inl ⟨by kernel_rfl, fun w _ => by go_simp⟩) S2.out ?_
        refine wpAnyH_take (i := 11) (v := _) rfl (by kernel_rfl) (by kernel_rfl) (by kernel_rfl) (fun _ _ _ h => h) (yieldsIf_move (by kernel_rfl) (.tmp 17) rfl (.bool false) (by kernel_rfl)) S2.out ?_
        refine wpAnyH_take (i := 12) (v := _) rfl (by kernel_rfl) (by kernel_rfl) (by kernel_rfl) (fun _ _ _ h => h) (yieldsIf_move (by kernel_rfl) (.tmp 0) rfl (.int .u16 17) (by kernel_rfl)) S2.out ?_
        refine wpAnyH_take (i := 13) (v := (.bool true)) rfl (by kernel_rfl) (by kernel_rfl) (by kernel_rfl) (fun _ _ _ h => h) (.inl ⟨by kernel_rfl, fun w _ => by go_simp⟩) S2.out ?_
        refine wpAnyH_take (i := 14) (v := _) rfl (by kernel_rfl) (by kernel_rfl) (by kernel_rfl) (fun _ _ _ h => h) (yieldsIf_move (by kernel_rfl) (.tmp 20) rfl (.bool true) (by kernel_rfl)) S2.out ?_
        refine wpAnyH_take (i := 15) (v := _) rfl (by kernel_rfl) (by kernel_rfl) (by kernel_rfl) (fun _ _ _ h => h) (yieldsIf_fld (by kernel_rfl) _ (.tmp 3) 20 rfl (.pointer (some ⟨g, 0, none⟩)) (.pointer (some ⟨g, 66, none⟩)) (by kernel_rfl) (fld_isZeroAsk_20 g)) S2.out ?_
        refine wpAnyH_take (i := 16) (v := _) rfl (by kernel_rfl) (by kernel_rfl) (by kernel_rfl) (fun _ _ _ h => h) (yieldsIf_load_one (by kernel_rfl) _ (.tmp 22) rfl g 66 (by kernel_rfl) (.int .u16 q) (fun w h => (FC.out w g h).2.2.2.2.2.2.1) _ Tryd.underlying22 rfl) S2.out ?_
        refine wpAnyH_take (i := 17) (v := (.bool false)) rfl (by kernel_rfl) (by kernel_rfl) (by kernel_rfl) (fun _ _ _ h => h) (.inl ⟨by kernel_rfl, fun w _ => by go_simp; try omega⟩) S2.out ?_
        refine wpAnyH_take (i := 18) (v := _) rfl (by kernel_rfl) (by kernel_rfl) (by kernel_rfl) (fun _ _ _ h => h) (yieldsIf_move (by kernel_rfl) (.tmp 24) rfl (.bool false) (by kernel_rfl)) S2.out ?_
        refine wpAnyH_take (i := 19) (v := _) rfl (by kernel_rfl) (by kernel_rfl) (by kernel_rfl) (fun _ _ _ h => h) (yieldsIf_fld (by kernel_rfl) _ (.tmp 3) 20 rfl (.pointer (some ⟨g, 0, none⟩)) (.pointer (some ⟨g, 66, none⟩)) (by kernel_rfl) (fld_isZeroAsk_20 g)) S2.out ?_
        refine wpAnyH_take (i := 20) (v := _) rfl (by kernel_rfl) (by kernel_rfl) (by kernel_rfl) (fun _ _ _ h => h) (yieldsIf_load_one (by kernel_rfl) _ (.tmp 26) rfl g 66 (by kernel_rfl) (.int .u16 q) (fun w h => (FC.out w g h).2.2.2.2.2.2.1) _ Tryd.underlying22 rfl) S2.out ?_
        refine wpAnyH_take (i := 21) (v := (.bool true)) rfl (by kernel_rfl) (by kernel_rfl) (by kernel_rfl) (fun _ _ _ h => h) (.inl ⟨by kernel_rfl, fun w _ => by go_simp; try omega⟩) S2.out ?_
        refine wpAnyH_take (i := 22) (v := (.bool true)) rfl (by kernel_rfl) (by kernel_rfl) (by kernel_rfl) (fun _ _ _ h => h) (.inl ⟨by kernel_rfl, fun w _ => by go_simp⟩) S2.out ?_
        refine wpAnyH_take (i := 23) (v := (.bool true)) rfl (by kernel_rfl) (by kernel_rfl) (by kernel_rfl) (fun _ _ _ h => h) (.inl ⟨by kernel_rfl, fun w _ => by go_simp⟩) S2.out ?_
        refine wpAnyH_take (i := 24) (v := (.bool true)) rfl (by kernel_rfl) (by kernel_rfl) (by kernel_rfl) (fun _ _ _ h => h) (.inl ⟨by kernel_rfl, fun w _ => by go_simp⟩) S2.out ?_
        refine wpAnyH_done (by kernel_rfl) ?_ _
        go_simp
        have K3 := Lib.hid S2.out
        clear S0 b0 K1 L1 S2
        go_wp2
        go_ret2
        exact HQ.out _ _ rfl M3.out
      · have h3 : a.cls = 0 := by omega
        rw [h3] at FC
        clear hcl h2 h3 z_cls
        go_enter Tryd.func12, Tryd.ntmps12
        go_upto_region 1 with (first
          | ((with_reducible show wpList _ _ _ (⟨some 3, _, _, _, _, _⟩ :: _) _ _); refine wpList_box_blk rfl _ (.tmp 1) rfl cs rfl ?_; intro g w1 hg1 hg2 K1 L1)
          | fail)
        refine wp_region_held (S := fun w' => Blk w' g 32 cs) (by kernel_rfl) ?_
        change wpAnyH _ _ _ _ _ _ _ _ w1.drew
        have S0 : Hid (Blk w1.drew g 32 cs) := K1.out.drew
        have b0 : Hid (Below w.heap.size w w1.drew) := L1.out.drew
        refine wpAnyH_take (i := 0) (v := _) rfl (by kernel_rfl) (by kernel_rfl) (by kernel_rfl) (fun _ _ _ h => h) (yieldsIf_move (by kernel_rfl) (.tmp 0) rfl (.int .u16 17) (by kernel_rfl)) S0.out ?_
        refine wpAnyH_one 1 _ (by kernel_rfl) rfl fun K hK => ?_
        go_simp
        refine (CK.out _).mono ?_
        rintro e v1 ⟨rfl, rfl⟩
        refine hK _ _ S0.out ?_
        clear hK K
        refine wpAnyH_take (i := 2) (v := (.bool false)) rfl (by kernel_rfl) (by kernel_rfl) (by kernel_rfl) (fun _ _ _ h => h) (.inl ⟨by kernel_rfl, fun w _ => by go_simp⟩) S0.out ?_
        refine wpAnyH_take (i := 3) (v := _) rfl (by kernel_rfl) (by kernel_rfl) (by kernel_rfl) (fun _ _ _ h => h) (yieldsIf_move (by kernel_rfl) (.tmp 9) rfl (.bool false) (by kernel_rfl)) S0.out ?_
        refine wpAnyH_take (i := 4) (v := _) rfl (by kernel_rfl) (by kernel_rfl) (by kernel_rfl) (fun _ _ _ h => h) (yieldsIf_move (by kernel_rfl) (.tmp 0) rfl (.int .u16 17) (by kernel_rfl)) S0.out ?_
        refine wpAnyH_take (i := 5) (v := _) rfl (by kernel_rfl) (by kernel_rfl) (by kernel_rfl) (fun _ _ _ h => h) (yieldsIf_load_blk (by kernel_rfl) _ (.tmp 3) rfl g (by kernel_rfl) _ cs (fun w h => h) 69 _ Tryd.underlying32 rfl size_ask HL) S0.out ?_
        refine wpAnyH_take (i := 7) (v := _) rfl (by kernel_rfl) (by kernel_rfl) (by kernel_rfl) (fun _ _ _ h => h) (yieldsIf_load_blk (by kernel_rfl) _ (.tmp 3) rfl g (by kernel_rfl) _ cs (fun w h => h) 69 _ Tryd.underlying32 rfl size_ask HL) S0.out ?_
        refine wpAnyH_one 6 _ (by kernel_rfl) rfl fun K hK => ?_
        go_simp
        refine (CA.out _ b0.out).mono ?_
        rintro e v1 ⟨ds, rfl, hds, L01⟩
        have S1 := Lib.hid (S0.out.over L01)
        have b1 := Lib.hid (step b0.out L01)
        have HDS := Lib.hid hds
        refine hK _ _ S1.out ?_
        clear hK K hds L01
        refine wpAnyH_one 8 _ (by kernel_rfl) rfl fun K hK => ?_
        go_simp
        refine (CS.out _ ds HDS.out b1.out).mono ?_
        rintro e w3 ⟨rfl, L02⟩
        have S2 := Lib.hid (S1.out.over L02)
        have M3 := Lib.hid (step b1.out L02)
        refine hK _ _ S2.out ?_
        clear hK K L02 HDS S1 b1
        refine wpAnyH_take (i := 9) (v := (.bool false)) rfl (by kernel_rfl) (by kernel_rfl) (by kernel_rfl) (fun _ _ _ h => h) (.inl ⟨by kernel_rfl, fun w _ => by go_simp⟩) S2.out ?_
        refine wpAnyH_take (i := 10) (v := (.bool false)) rfl (by kernel_rfl) (by kernel_rfl) (by kernel_rfl) (fun _ _ _ h => h) (.inl ⟨by kernel_rfl, fun w _ => by go_simp⟩) S2.out ?_
        refine wpAnyH_take (i := 11) (v := _) rfl (by kernel_rfl) (by kernel_rfl) (by kernel_rfl) (fun _ _ _ h => h) (yieldsIf_move (by kernel_rfl) (.tmp 17) rfl (.bool false) (by kernel_rfl)) S2.out ?_
        refine wpAnyH_take (i := 12) (v := _) rfl (by kernel_rfl) (by kernel_rfl) (by kernel_rfl) (fun _ _ _ h => h) (yieldsIf_move (by kernel_rfl) (.tmp 0) rfl (.int .u16 17) (by kernel_rfl)) S2.out ?_
        refine wpAnyH_take (i := 13) (v := (.bool true)) rfl (by kernel_rfl) (by kernel_rfl) (by kernel_rfl) (fun _ _ _ h => h) (.inl ⟨by kernel_rfl, fun w _ => by go_simp⟩) S2.out ?_
        refine wpAnyH_take (i := 14) (v := _) rfl (by kernel_rfl) (by kernel_rfl) (by kernel_rfl) (fun _ _ _ h => h) (yieldsIf_move (by kernel_rfl) (.tmp 20) rfl (.bool true) (by kernel_rfl)) S2.out ?_
        refine wpAnyH_take (i := 15) (v := _) rfl (by kernel_rfl) (by kernel_rfl) (by kernel_rfl) (fun _ _ _ h => h) (yieldsIf_fld (by kernel_rfl) _ (.tmp 3) 20 rfl (.pointer (some ⟨g, 0, none⟩)) (.pointer (some ⟨g, 66, none⟩)) (by kernel_rfl) (fld_isZeroAsk_20 g)) S2.out ?_
        refine wpAnyH_take (i := 16) (v := _) rfl (by kernel_rfl) (by kernel_rfl) (by kernel_rfl) (fun _ _ _ h => h) (yieldsIf_load_one (by kernel_rfl) _ (.tmp 22) rfl g 66 (by kernel_rfl) (.int .u16 0) (fun w h => (FC.out w g h).2.2.2.2.2.2.1) _ Tryd.underlying22 rfl) S2.out ?_
        refine wpAnyH_take (i := 17) (v := (.bool true)) rfl (by kernel_rfl) (by kernel_rfl) (by kernel_rfl) (fun _ _ _ h => h) (.inl ⟨by kernel_rfl, fun w _ => by go_simp; try omega⟩) S2.out ?_
        refine wpAnyH_take (i := 18) (v := _) rfl (by kernel_rfl) (by kernel_rfl) (by kernel_rfl) (fun _ _ _ h => h) (yieldsIf_move (by kernel_rfl) (.tmp 24) rfl (.bool true) (by kernel_rfl)) S2.out ?_
        refine wpAnyH_take (i := 19) (v := undef) rfl (by kernel_rfl) (by kernel_rfl) (by kernel_rfl) (fun _ _ _ h => h) (.inr ⟨by kernel_rfl, rfl⟩) S2.out ?_
        refine wpAnyH_take (i := 20) (v := undef) rfl (by kernel_rfl) (by kernel_rfl) (by kernel_rfl) (fun _ _ _ h => h) (.inr ⟨by kernel_rfl, rfl⟩) S2.out ?_
        refine wpAnyH_take (i := 21) (v := undef) rfl (by kernel_rfl) (by kernel_rfl) (by kernel_rfl) (fun _ _ _ h => h) (.inr ⟨by kernel_rfl, rfl⟩) S2.out ?_
        refine wpAnyH_take (i := 22) (v := (.bool true)) rfl (by kernel_rfl) (by kernel_rfl) (by kernel_rfl) (fun _ _ _ h => h) (.inl ⟨by kernel_rfl, fun w _ => by go_simp⟩) S2.out ?_
        refine wpAnyH_take (i := 23) (v := (.bool true)) rfl (by kernel_rfl) (by kernel_rfl) (by kernel_rfl) (fun _ _ _ h => h) (.inl ⟨by kernel_rfl, fun w _ => by go_simp⟩) S2.out ?_
        refine wpAnyH_take (i := 24) (v := (.bool true)) rfl (by kernel_rfl) (by kernel_rfl) (by kernel_rfl) (fun _ _ _ h => h) (.inl ⟨by kernel_rfl, fun w _ => by go_simp⟩) S2.out ?_
        refine wpAnyH_done (by kernel_rfl) ?_ _
        go_simp
        have K3 := Lib.hid S2.out
        clear S0 b0 K1 L1 S2
        go_wp2
        go_ret2
        exact HQ.out _ _ rfl M3.out
    have hnm := hnm (fun _ => hcl)
    have hcc : a.cls = 1 ∨ a.cls = 2 ∨ a.cls = 3 := by omega
    clear hcl
    rcases hcc with q | q | q
    · have he0 : ipErr 17 a = 0 := by unfold ipErr; rw [if_pos hnm, if_neg (by decide), if_neg (fun h => by have := h.2; omega)]
      have HQ := Lib.hid (HQ0.out he0)
      have hb0 : bodyI 17 a = le a.file 8 ++ (le 1 2 ++ le a.siz 8) := by unfold bodyI; rw [if_neg (by decide), if_neg (by decide), if_pos rfl, if_pos q]; simp only [q]
      rw [hb0] at HQ
      rw [q] at FC
      clear HQ0 HQT hb0 he0 hnm z_cls q
      go_enter Tryd.func12, Tryd.ntmps12
      go_upto_region 1 with (first
        | ((with_reducible show wpList _ _ _ (⟨some 3, _, _, _, _, _⟩ :: _) _ _); refine wpList_box_blk rfl _ (.tmp 1) rfl cs rfl ?_; intro g w1 hg1 hg2 K1 L1)
        | fail)
      refine wp_region_held (S := fun w' => Blk w' g 32 cs) (by kernel_rfl) ?_
      change wpAnyH _ _ _ _ _ _ _ _ w1.drew
      have S0 : Hid (Blk w1.drew g 32 cs) := K1.out.drew
      have b0 : Hid (Below w.heap.size w w1.drew) := L1.out.drew
      refine wpAnyH_take (i := 0) (v := _) rfl (by kernel_rfl) (by kernel_rfl) (by kernel_rfl) (fun _ _ _ h => h) (yieldsIf_move (by kernel_rfl) (.tmp 0) rfl (.int .u16 17) (by kernel_rfl)) S0.out ?_
      refine wpAnyH_one 1 _ (by kernel_rfl) rfl fun K hK => ?_
      go_simp
      refine (CK.out _).mono ?_
      rintro e v1 ⟨rfl, rfl⟩
      refine hK _ _ S0.out ?_
      clear hK K
      refine wpAnyH_take (i := 2) (v := (.bool false)) rfl (by kernel_rfl) (by kernel_rfl) (by kernel_rfl) (fun _ _ _ h => h) (.inl ⟨by kernel_rfl, fun w _ => by go_simp⟩) S0.out ?_
      refine wpAnyH_take (i := 3) (v := _) rfl (by kernel_rfl) (by kernel_rfl) (by kernel_rfl) (fun _ _ _ h => h) (yieldsIf_move (by kernel_rfl) (.tmp 9) rfl (.bool false) (by kernel_rfl)) S0.out ?_
      refine wpAnyH_take (i := 4) (v := _) rfl (by kernel_rfl) (by kernel_rfl) (by kernel_rfl) (fun _ _ _ h => h) (yieldsIf_move (by kernel_rfl) (.tmp 0) rfl (.int .u16 17) (by kernel_rfl)) S0.out ?_
      refine wpAnyH_take (i := 5) (v := _) rfl (by kernel_rfl) (by kernel_rfl) (by kernel_rfl) (fun _ _ _ h => h) (yieldsIf_load_blk (by kernel_rfl) _ (.tmp 3) rfl g (by kernel_rfl) _ cs (fun w h => h) 69 _ Tryd.underlying32 rfl size_ask HL) S0.out ?_
      refine wpAnyH_take (i := 7) (v := _) rfl (by kernel_rfl) (by kernel_rfl) (by kernel_rfl) (fun _ _ _ h => h) (yieldsIf_load_blk (by kernel_rfl) _ (.tmp 3) rfl g (by kernel_rfl) _ cs (fun w h => h) 69 _ Tryd.underlying32 rfl size_ask HL) S0.out ?_
      refine wpAnyH_one 6 _ (by kernel_rfl) rfl fun K hK => ?_
      go_simp
      refine (CA.out _ b0.out).mono ?_
      rintro e v1 ⟨ds, rfl, hds, L01⟩
      have S1 := Lib.hid (S0.out.over L01)
      have b1 := Lib.hid (step b0.out L01)
      have HDS := Lib.hid hds
      refine hK _ _ S1.out ?_
      clear hK K hds L01
      refine wpAnyH_one 8 _ (by kernel_rfl) rfl fun K hK => ?_
      go_simp
      refine (CS.out _ ds HDS.out b1.out).mono ?_
      rintro e w3 ⟨rfl, L02⟩
      have S2 := Lib.hid (S1.out.over L02)
      have M3 := Lib.hid (step b1.out L02)
      refine hK _ _ S2.out ?_
      clear hK K L02 HDS S1 b1
      refine wpAnyH_take (i := 9) (v := (.bool false)) rfl (by kernel_rfl) (by kernel_rfl) (by kernel_rfl) (fun _ _ _ h => h) (.inl ⟨by kernel_rfl, fun w _ => by go_simp⟩) S2.out ?_
      refine wpAnyH_take (i := 10) (v := (.bool false)) rfl (by kernel_rfl) (by kernel_rfl) (by kernel_rfl) (fun _ _ _ h => h) (.inl ⟨by kernel_rfl, fun w _ => by go_simp⟩) S2.out ?_
      refine wpAnyH_take (i := 11) (v := _) rfl (by kernel_rfl) (by kernel_rfl) (by kernel_rfl) (fun _ _ _ h => h) (yieldsIf_move (by kernel_rfl) (.tmp 17) rfl (.bool false) (by kernel_rfl)) S2.out ?_
      refine wpAnyH_take (i := 12) (v := _) rfl (by kernel_rfl) (by kernel_rfl) (by kernel_rfl) (fun _ _ _ h => h) (yieldsIf_move (by kernel_rfl) (.tmp 0) rfl (.int .u16 17) (by kernel_rfl)) S2.out ?_
      refine wpAnyH_take (i := 13) (v := (.bool true)) rfl (by kernel_rfl) (by kernel_rfl) (by kernel_rfl) (fun _ _ _ h => h) (.inl ⟨by kernel_rfl, fun w _ => by go_simp⟩) S2.out ?_
      refine wpAnyH_take (i := 14) (v := _) rfl (by kernel_rfl) (by kernel_rfl) (by kernel_rfl) (fun _ _ _ h => h) (yieldsIf_move (by kernel_rfl) (.tmp 20) rfl (.bool true) (by kernel_rfl)) S2.out ?_
      refine wpAnyH_take (i := 15) (v := _) rfl (by kernel_rfl) (by kernel_rfl) (by kernel_rfl) (fun _ _ _ h => h) (yieldsIf_fld (by kernel_rfl) _ (.tmp 3) 20 rfl (.pointer (some ⟨g, 0, none⟩)) (.pointer (some ⟨g, 66, none⟩)) (by kernel_rfl) (fld_isZeroAsk_20 g)) S2.out ?_
      refine wpAnyH_take (i := 16) (v := _) rfl (by kernel_rfl) (by kernel_rfl) (by kernel_rfl) (fun _ _ _ h => h) (yieldsIf_load_one (by kernel_rfl) _ (.tmp 22) rfl g 66 (by kernel_rfl) (.int .u16 1) (fun w h => (FC.out w g h).2.2.2.2.2.2.1) _ Tryd.underlying22 rfl) S2.out ?_
      refine wpAnyH_take (i := 17) (v := (.bool false)) rfl (by kernel_rfl) (by kernel_rfl) (by kernel_rfl) (fun _ _ _ h => h) (.inl ⟨by kernel_rfl, fun w _ => by go_simp; try omega⟩) S2.out ?_
      refine wpAnyH_take (i := 18) (v := _) rfl (by kernel_rfl) (by kernel_rfl) (by kernel_rfl) (fun _ _ _ h => h) (yieldsIf_move (by kernel_rfl) (.tmp 24) rfl (.bool false) (by kernel_rfl)) S2.out ?_
      refine wpAnyH_take (i := 19) (v := _) rfl (by kernel_rfl) (by kernel_rfl) (by kernel_rfl) (fun _ _ _ h => h) (yieldsIf_fld (by kernel_rfl) _ (.tmp 3) 20 rfl (.pointer (some ⟨g, 0, none⟩)) (.pointer (some ⟨g, 66, none⟩)) (by kernel_rfl) (fld_isZeroAsk_20 g)) S2.out ?_
      refine wpAnyH_take (i := 20) (v := _) rfl (by kernel_rfl) (by kernel_rfl) (by kernel_rfl) (fun _ _ _ h => h) (yieldsIf_load_one (by kernel_rfl) _ (.tmp 26) rfl g 66 (by kernel_rfl) (.int .u16 1) (fun w h => (FC.out w g h).2.2.2.2.2.2.1) _ Tryd.underlying22 rfl) S2.out ?_
      refine wpAnyH_take (i := 21) (v := (.bool false)) rfl (by kernel_rfl) (by kernel_rfl) (by kernel_rfl) (fun _ _ _ h => h) (.inl ⟨by kernel_rfl, fun w _ => by go_simp; try omega⟩) S2.out ?_
      refine wpAnyH_take (i := 22) (v := (.bool false)) rfl (by kernel_rfl) (by kernel_rfl) (by kernel_rfl) (fun _ _ _ h => h) (.inl ⟨by kernel_rfl, fun w _ => by go_simp⟩) S2.out ?_
      refine wpAnyH_take (i := 23) (v := (.bool false)) rfl (by kernel_rfl) (by kernel_rfl) (by kernel_rfl) (fun _ _ _ h => h) (.inl ⟨by kernel_rfl, fun w _ => by go_simp⟩) S2.out ?_
      refine wpAnyH_take (i := 24) (v := (.bool false)) rfl (by kernel_rfl) (by kernel_rfl) (by kernel_rfl) (fun _ _ _ h => h) (.inl ⟨by kernel_rfl, fun w _ => by go_simp⟩) S2.out ?_
      refine wpAnyH_done (by kernel_rfl) ?_ _
      go_simp
      have K3 := Lib.hid S2.out
      clear S0 b0 K1 L1 S2
      have N0 : Hid (Below w3.heap.size w3 w3) := Below.refl _ _
      have H00 : Hid (Own w3 w3.heap.size (.slice none 0 0) []) := Own.nil _ _
      have hg3 : g < w3.heap.size := K3.out.lt
      have hs3 := M3.out.size
      obtain ⟨c55, c57, c58, c63, c64, c65, c66, c67, c68⟩ := FC.out w3 g K3.out
      go_wp2_with fail
      refine (CL8.out w3 w3.heap.size _ ([]) a.file H00.out (by simp) N0.out.size l_file u_file).mono ?_
      rintro e y1 ⟨v1, rfl, ho1, L1⟩
      have HO1 := Lib.hid ho1
      have N1 := Lib.hid (N0.out.trans L1)
      have Ky1 := Lib.hid (K3.out.below N1.out hg3)
      clear ho1 L1
      clear c55 c57 c58 c63 c64 c65 c66 c67 c68
      obtain ⟨c55, c57, c58, c63, c64, c65, c66, c67, c68⟩ := FC.out y1 g Ky1.out
      go_wp2_with fail
      refine (CL2.out y1 w3.heap.size _ ([] ++ le a.file 8) 1 HO1.out (by simp [le_length]) N1.out.size (by decide) (by decide)).mono ?_
      rintro e y2 ⟨v2, rfl, ho2, L2⟩
      have HO2 := Lib.hid ho2
      have N2 := Lib.hid (N1.out.trans L2)
      have Ky2 := Lib.hid (K3.out.below N2.out hg3)
      clear ho2 L2
      clear c55 c57 c58 c63 c64 c65 c66 c67 c68
      obtain ⟨c55, c57, c58, c63, c64, c65, c66, c67, c68⟩ := FC.out y2 g Ky2.out
      go_wp2_with fail
      refine (CL8.out y2 w3.heap.size _ (([] ++ le a.file 8) ++ le 1 2) a.siz HO2.out (by simp [le_length]) N2.out.size l_siz u_siz).mono ?_
      rintro e y3 ⟨v3, rfl, ho3, L3⟩
      have HO3 := Lib.hid ho3
      have N3 := Lib.hid (N2.out.trans L3)
      have Ky3 := Lib.hid (K3.out.below N3.out hg3)
      clear ho3 L3
      clear c55 c57 c58 c63 c64 c65 c66 c67 c68
      obtain ⟨c55, c57, c58, c63, c64, c65, c66, c67, c68⟩ := FC.out y3 g Ky3.out
      go_wp2
      go_ret2
      refine HQ.out _ _ _ rfl ?_ (M3.out.trans (N3.out.mono hs3))
      have h9 := Own.mono HO3.out hs3
      simpa [List.append_assoc] using h9
    · have he0 : ipErr 17 a = 0 := by unfold ipErr; rw [if_pos hnm, if_neg (by decide), if_neg (fun h => by have := h.2; omega)]
      have HQ := Lib.hid (HQ0.out he0)
      have hb0 : bodyI 17 a = le a.file 8 ++ (le 2 2 ++ le (truthI a.on) 2) := by unfold bodyI; rw [if_neg (by decide), if_neg (by decide), if_pos rfl, if_neg (by omega), if_pos q]; simp only [q]
      rw [hb0] at HQ
      rw [q] at FC
      clear HQ0 HQT hb0 he0 hnm z_cls q
      go_enter Tryd.func12, Tryd.ntmps12
      go_upto_region 1 with (first
        | ((with_reducible show wpList _ _ _ (⟨some 3, _, _, _, _, _⟩ :: _) _ _); refine wpList_box_blk rfl _ (.tmp 1) rfl cs rfl ?_; intro g w1 hg1 hg2 K1 L1)
        | fail)
      refine wp_region_held (S := fun w' => Blk w' g 32 cs) (by kernel_rfl) ?_
      change wpAnyH _ _ _ _ _ _ _ _ w1.drew
      have S0 : Hid (Blk w1.drew g 32 cs) := K1.out.drew
      have b0 : Hid (Below w.heap.size w w1.drew) := L1.out.drew
      refine wpAnyH_take (i := 0) (v := _) rfl (by kernel_rfl) (by kernel_rfl) (by kernel_rfl) (fun _ _ _ h => h) (yieldsIf_move (by kernel_rfl) (.tmp 0) rfl (.int .u16 17) (by kernel_rfl)) S0.out ?_
      refine wpAnyH_one 1 _ (by kernel_rfl) rfl fun K hK => ?_
      go_simp
      refine (CK.out _).mono ?_
      rintro e v1 ⟨rfl, rfl⟩
      refine hK _ _ S0.out ?_
      clear hK K
      refine wpAnyH_take (i := 2) (v := (.bool false)) rfl (by kernel_rfl) (by kernel_rfl) (by kernel_rfl) (fun _ _ _ h => h) (.inl ⟨by kernel_rfl, fun w _ => by go_simp⟩) S0.out ?_
      refine wpAnyH_take (i := 3) (v := _) rfl (by kernel_rfl) (by kernel_rfl) (by kernel_rfl) (fun _ _ _ h => h) (yieldsIf_move (by kernel_rfl) (.tmp 9) rfl (.bool false) (by kernel_rfl)) S0.out ?_
      refine wpAnyH_take (i := 4) (v := _) rfl (by kernel_rfl) (by kernel_rfl) (by kernel_rfl) (fun _ _ _ h => h) (yieldsIf_move (by kernel_rfl) (.tmp 0) rfl (.int .u16 17) (by kernel_rfl)) S0.out ?_
      refine wpAnyH_take (i := 5) (v := _) rfl (by kernel_rfl) (by kernel_rfl) (by kernel_rfl) (fun _ _ _ h => h) (yieldsIf_load_blk (by kernel_rfl) _ (.tmp 3) rfl g (by kernel_rfl) _ cs (fun w h => h) 69 _ Tryd.underlying32 rfl size_ask HL) S0.out ?_
      refine wpAnyH_take (i := 7) (v := _) rfl (by kernel_rfl) (by kernel_rfl) (by kernel_rfl) (fun _ _ _ h => h) (yieldsIf_load_blk (by kernel_rfl) _ (.tmp 3) rfl g (by kernel_rfl) _ cs (fun w h => h) 69 _ Tryd.underlying32 rfl size_ask HL) S0.out ?_
      refine wpAnyH_one 6 _ (by kernel_rfl) rfl fun K hK => ?_
      go_simp
      refine (CA.out _ b0.out).mono ?_
      rintro e v1 ⟨ds, rfl, hds, L01⟩
      have S1 := Lib.hid (S0.out.over L01)
      have b1 := Lib.hid (step b0.out L01)
      have HDS := Lib.hid hds
      refine hK _ _ S1.out ?_
      clear hK K hds L01
      refine wpAnyH_one 8 _ (by kernel_rfl) rfl fun K hK => ?_
      go_simp
      refine (CS.out _ ds HDS.out b1.out).mono ?_
      rintro e w3 ⟨rfl, L02⟩
      have S2 := Lib.hid (S1.out.over L02)
      have M3 := Lib.hid (step b1.out L02)
      refine hK _ _ S2.out ?_
      clear hK K L02 HDS S1 b1
      refine wpAnyH_take (i := 9) (v := (.bool false)) rfl (by kernel_rfl) (by kernel_rfl) (by kernel_rfl) (fun _ _ _ h => h) (.inl ⟨by kernel_rfl, fun w _ => by go_simp⟩) S2.out ?_
      refine wpAnyH_take (i := 10) (v := (.bool false)) rfl (by kernel_rfl) (by kernel_rfl) (by kernel_rfl) (fun _ _ _ h => h) (.inl ⟨by kernel_rfl, fun w _ => by go_simp⟩) S2.out ?_
      refine wpAnyH_take (i := 11) (v := _) rfl (by kernel_rfl) (by kernel_rfl) (by kernel_rfl) (fun _ _ _ h => h) (yieldsIf_move (by kernel_rfl) (.tmp 17) rfl (.bool false) (by kernel_rfl)) S2.out ?_
      refine wpAnyH_take (i := 12) (v := _) rfl (by kernel_rfl) (by kernel_rfl) (by kernel_rfl) (fun _ _ _ h => h) (yieldsIf_move (by kernel_rfl) (.tmp 0) rfl (.int .u16 17) (by kernel_rfl)) S2.out ?_
      refine wpAnyH_take (i := 13) (v := (.bool true)) rfl (by kernel_rfl) (by kernel_rfl) (by kernel_rfl) (fun _ _ _ h => h) (.inl ⟨by kernel_rfl, fun w _ => by go_simp⟩) S2.out ?_
      refine wpAnyH_take (i := 14) (v := _) rfl (by kernel_rfl) (by kernel_rfl) (by kernel_rfl) (fun _ _ _ h => h) (yieldsIf_move (by kernel_rfl) (.tmp 20) rfl (.bool true) (by kernel_rfl)) S2.out ?_
      refine wpAnyH_take (i := 15) (v := _) rfl (by kernel_rfl) (by kernel_rfl) (by kernel_rfl) (fun _ _ _ h => h) (yieldsIf_fld (by kernel_rfl) _ (.tmp 3) 20 rfl (.pointer (some ⟨g, 0, none⟩)) (.pointer (some ⟨g, 66, none⟩)) (by kernel_rfl) (fld_isZeroAsk_20 g)) S2.out ?_
      refine wpAnyH_take (i := 16) (v := _) rfl (by kernel_rfl) (by kernel_rfl) (by kernel_rfl) (fun _ _ _ h => h) (yieldsIf_load_one (by kernel_rfl) _ (.tmp 22) rfl g 66 (by kernel_rfl) (.int .u16 2) (fun w h => (FC.out w g h).2.2.2.2.2.2.1) _ Tryd.underlying22 rfl) S2.out ?_
      refine wpAnyH_take (i := 17) (v := (.bool false)) rfl (by kernel_rfl) (by kernel_rfl) (by kernel_rfl) (fun _ _ _ h => h) (.inl ⟨by kernel_rfl, fun w _ => by go_simp; try omega⟩) S2.out ?_
      refine wpAnyH_take (i := 18) (v := _) rfl (by kernel_rfl) (by kernel_rfl) (by kernel_rfl) (fun _ _ _ h => h) (yieldsIf_move (by kernel_rfl) (.tmp 24) rfl (.bool false) (by kernel_rfl)) S2.out ?_
      refine wpAnyH_take (i := 19) (v := _) rfl (by kernel_rfl) (by kernel_rfl) (by kernel_rfl) (fun _ _ _ h => h) (yieldsIf_fld (by kernel_rfl) _ (.tmp 3) 20 rfl (.pointer (some ⟨g, 0, none⟩)) (.pointer (some ⟨g, 66, none⟩)) (by kernel_rfl) (fld_isZeroAsk_20 g)) S2.out ?_
      refine wpAnyH_take (i := 20) (v := _) rfl (by kernel_rfl) (by kernel_rfl) (by kernel_rfl) (fun _ _ _ h => h) (yieldsIf_load_one (by kernel_rfl) _ (.tmp 26) rfl g 66 (by kernel_rfl) (.int .u16 2) (fun w h => (FC.out w g h).2.2.2.2.2.2.1) _ Tryd.underlying22 rfl) S2.out ?_
      refine wpAnyH_take (i := 21) (v := (.bool false)) rfl (by kernel_rfl) (by kernel_rfl) (by kernel_rfl) (fun _ _ _ h => h) (.inl ⟨by kernel_rfl, fun w _ => by go_simp; try omega⟩) S2.out ?_
      refine wpAnyH_take (i := 22) (v := (.bool false)) rfl (by kernel_rfl) (by kernel_rfl) (by kernel_rfl) (fun _ _ _ h => h) (.inl ⟨by kernel_rfl, fun w _ => by go_simp⟩) S2.out ?_
      refine wpAnyH_take (i := 23) (v := (.bool false)) rfl (by kernel_rfl) (by kernel_rfl) (by kernel_rfl) (fun _ _ _ h => h) (.inl ⟨by kernel_rfl, fun w _ => by go_simp⟩) S2.out ?_
      refine wpAnyH_take (i := 24) (v := (.bool false)) rfl (by kernel_rfl) (by kernel_rfl) (by kernel_rfl) (fun _ _ _ h => h) (.inl ⟨by kernel_rfl, fun w _ => by go_simp⟩) S2.out ?_
      refine wpAnyH_done (by kernel_rfl) ?_ _
      go_simp
      have K3 := Lib.hid S2.out
      clear S0 b0 K1 L1 S2
      have N0 : Hid (Below w3.heap.size w3 w3) := Below.refl _ _
      have H00 : Hid (Own w3 w3.heap.size (.slice none 0 0) []) := Own.nil _ _
      have hg3 : g < w3.heap.size := K3.out.lt
      have hs3 := M3.out.size
      obtain ⟨c55, c57, c58, c63, c64, c65, c66, c67, c68⟩ := FC.out w3 g K3.out
      go_wp2_with fail
      refine (CL8.out w3 w3.heap.size _ ([]) a.file H00.out (by simp) N0.out.size l_file u_file).mono ?_
      rintro e y1 ⟨v1, rfl, ho1, L1⟩
      have HO1 := Lib.hid ho1
      have N1 := Lib.hid (N0.out.trans L1)
      have Ky1 := Lib.hid (K3.out.below N1.out hg3)
      clear ho1 L1
      clear c55 c57 c58 c63 c64 c65 c66 c67 c68
      obtain ⟨c55, c57, c58, c63, c64, c65, c66, c67, c68⟩ := FC.out y1 g Ky1.out
      go_wp2_with fail
      refine (CL2.out y1 w3.heap.size _ ([] ++ le a.file 8) 2 HO1.out (by simp [le_length]) N1.out.size (by decide) (by decide)).mono ?_
      rintro e y2 ⟨v2, rfl, ho2, L2⟩
      have HO2 := Lib.hid ho2
      have N2 := Lib.hid (N1.out.trans L2)
      have Ky2 := Lib.hid (K3.out.below N2.out hg3)
      clear ho2 L2
      clear c55 c57 c58 c63 c64 c65 c66 c67 c68
      obtain ⟨c55, c57, c58, c63, c64, c65, c66, c67, c68⟩ := FC.out y2 g Ky2.out
      go_wp2_with fail
      refine (CU.out _ _).mono ?_
      rintro e wt ⟨rfl, rfl⟩
      go_wp2_with fail
      refine (CL2.out y2 w3.heap.size _ (([] ++ le a.file 8) ++ le 2 2) (truthI a.on) HO2.out (by simp [le_length]) N2.out.size tr0 (by omega)).mono ?_
      rintro e y3 ⟨v3, rfl, ho3, L3⟩
      have HO3 := Lib.hid ho3
      have N3 := Lib.hid (N2.out.trans L3)
      have Ky3 := Lib.hid (K3.out.below N3.out hg3)
      clear ho3 L3
      clear c55 c57 c58 c63 c64 c65 c66 c67 c68
      obtain ⟨c55, c57, c58, c63, c64, c65, c66, c67, c68⟩ := FC.out y3 g Ky3.out
      go_wp2
      go_ret2
      refine HQ.out _ _ _ rfl ?_ (M3.out.trans (N3.out.mono hs3))
      have h9 := Own.mono HO3.out hs3
      simpa [List.append_assoc] using h9
    · obtain ⟨ss, hss⟩ : ∃ ss : List ByteArray, ss = [a.name] := ⟨_, rfl⟩
      have HSS := Lib.hid hss
      have HSZ : Hid (∀ s ∈ ss, s.size ≤ 4398046511104) := by
        show _
        rw [hss]
        intro s hs
        simp only [List.mem_cons, List.not_mem_nil, or_false] at hs
        rcases hs with rfl <;> assumption
      have he0 : ipErr 17 a = textsErr ss := by rw [hss]; show _ = if ptextErr a.name.data.toList = 0 then 0 else ptextErr a.name.data.toList; unfold ipErr; rw [if_pos hnm, if_neg (by decide), if_pos ⟨rfl, q⟩]; split; (rename_i h; exact h); rfl
      have HQ := Lib.hid (HQT.out ss (((([] ++ le a.file 8) ++ le 3 2) ++ le (truthI a.on) 2)) he0 (fun _ => by rw [hss]; unfold bodyI; rw [if_neg (by decide), if_neg (by decide), if_pos rfl, if_neg (by omega), if_neg (by omega)]; show _ ++ (ptextOf a.name.data.toList ++ []) = _; simp only [q, List.append_assoc, List.append_nil, List.nil_append]))
      clear HQ0 HQT he0 hnm hss
      rw [q] at FC
      clear q z_cls
      go_enter Tryd.func12, Tryd.ntmps12
      go_upto_region 1 with (first
        | ((with_reducible show wpList _ _ _ (⟨some 3, _, _, _, _, _⟩ :: _) _ _); refine wpList_box_blk rfl _ (.tmp 1) rfl cs rfl ?_; intro g w1 hg1 hg2 K1 L1)
        | fail)
      refine wp_region_held (S := fun w' => Blk w' g 32 cs) (by kernel_rfl) ?_
      change wpAnyH _ _ _ _ _ _ _ _ w1.drew
      have S0 : Hid (Blk w1.drew g 32 cs) := K1.out.drew
      have b0 : Hid (Below w.heap.size w w1.drew) := L1.out.drew
      refine wpAnyH_take (i := 0) (v := _) rfl (by kernel_rfl) (by kernel_rfl) (by kernel_rfl) (fun _ _ _ h => h) (yieldsIf_move (by kernel_rfl) (.tmp 0) rfl (.int .u16 17) (by kernel_rfl)) S0.out ?_
      refine wpAnyH_one 1 _ (by kernel_rfl) rfl fun K hK => ?_
      go_simp
      refine (CK.out _).mono ?_
      rintro e v1 ⟨rfl, rfl⟩
      refine hK _ _ S0.out ?_
      clear hK K
      refine wpAnyH_take (i := 2) (v := (.bool false)) rfl (by kernel_rfl) (by kernel_rfl) (by kernel_rfl) (fun _ _ _ h => h) (.inl ⟨by kernel_rfl, fun w _ => by go_simp⟩) S0.out ?_
      refine wpAnyH_take (i := 3) (v := _) rfl (by kernel_rfl) (by kernel_rfl) (by kernel_rfl) (fun _ _ _ h => h) (yieldsIf_move (by kernel_rfl) (.tmp 9) rfl (.bool false) (by kernel_rfl)) S0.out ?_
      refine wpAnyH_take (i := 4) (v := _) rfl (by kernel_rfl) (by kernel_rfl) (by kernel_rfl) (fun _ _ _ h => h) (yieldsIf_move (by kernel_rfl) (.tmp 0) rfl (.int .u16 17) (by kernel_rfl)) S0.out ?_
      refine wpAnyH_take (i := 5) (v := _) rfl (by kernel_rfl) (by kernel_rfl) (by kernel_rfl) (fun _ _ _ h => h) (yieldsIf_load_blk (by kernel_rfl) _ (.tmp 3) rfl g (by kernel_rfl) _ cs (fun w h => h) 69 _ Tryd.underlying32 rfl size_ask HL) S0.out ?_
      refine wpAnyH_take (i := 7) (v := _) rfl (by kernel_rfl) (by kernel_rfl) (by kernel_rfl) (fun _ _ _ h => h) (yieldsIf_load_blk (by kernel_rfl) _ (.tmp 3) rfl g (by kernel_rfl) _ cs (fun w h => h) 69 _ Tryd.underlying32 rfl size_ask HL) S0.out ?_
      refine wpAnyH_one 6 _ (by kernel_rfl) rfl fun K hK => ?_
      go_simp
      refine (CA.out _ b0.out).mono ?_
      rintro e v1 ⟨ds, rfl, hds, L01⟩
      have S1 := Lib.hid (S0.out.over L01)
      have b1 := Lib.hid (step b0.out L01)
      have HDS := Lib.hid hds
      refine hK _ _ S1.out ?_
      clear hK K hds L01
      refine wpAnyH_one 8 _ (by kernel_rfl) rfl fun K hK => ?_
      go_simp
      refine (CS.out _ ds HDS.out b1.out).mono ?_
      rintro e w3 ⟨rfl, L02⟩
      have S2 := Lib.hid (S1.out.over L02)
      have M3 := Lib.hid (step b1.out L02)
      refine hK _ _ S2.out ?_
      clear hK K L02 HDS S1 b1
      refine wpAnyH_take (i := 9) (v := (.bool false)) rfl (by kernel_rfl) (by kernel_rfl) (by kernel_rfl) (fun _ _ _ h => h) (.inl ⟨by kernel_rfl, fun w _ => by go_simp⟩) S2.out ?_
      refine wpAnyH_take (i := 10) (v := (.bool false)) rfl (by kernel_rfl) (by kernel_rfl) (by kernel_rfl) (fun _ _ _ h => h) (.inl ⟨by kernel_rfl, fun w _ => by go_simp⟩) S2.out ?_
      refine wpAnyH_take (i := 11) (v := _) rfl (by kernel_rfl) (by kernel_rfl) (by kernel_rfl) (fun _ _ _ h => h) (yieldsIf_move (by kernel_rfl) (.tmp 17) rfl (.bool false) (by kernel_rfl)) S2.out ?_
      refine wpAnyH_take (i := 12) (v := _) rfl (by kernel_rfl) (by kernel_rfl) (by kernel_rfl) (fun _ _ _ h => h) (yieldsIf_move (by kernel_rfl) (.tmp 0) rfl (.int .u16 17) (by kernel_rfl)) S2.out ?_
      refine wpAnyH_take (i := 13) (v := (.bool true)) rfl (by kernel_rfl) (by kernel_rfl) (by kernel_rfl) (fun _ _ _ h => h) (.inl ⟨by kernel_rfl, fun w _ => by go_simp⟩) S2.out ?_
      refine wpAnyH_take (i := 14) (v := _) rfl (by kernel_rfl) (by kernel_rfl) (by kernel_rfl) (fun _ _ _ h => h) (yieldsIf_move (by kernel_rfl) (.tmp 20) rfl (.bool true) (by kernel_rfl)) S2.out ?_
      refine wpAnyH_take (i := 15) (v := _) rfl (by kernel_rfl) (by kernel_rfl) (by kernel_rfl) (fun _ _ _ h => h) (yieldsIf_fld (by kernel_rfl) _ (.tmp 3) 20 rfl (.pointer (some ⟨g, 0, none⟩)) (.pointer (some ⟨g, 66, none⟩)) (by kernel_rfl) (fld_isZeroAsk_20 g)) S2.out ?_
      refine wpAnyH_take (i := 16) (v := _) rfl (by kernel_rfl) (by kernel_rfl) (by kernel_rfl) (fun _ _ _ h => h) (yieldsIf_load_one (by kernel_rfl) _ (.tmp 22) rfl g 66 (by kernel_rfl) (.int .u16 3) (fun w h => (FC.out w g h).2.2.2.2.2.2.1) _ Tryd.underlying22 rfl) S2.out ?_
      refine wpAnyH_take (i := 17) (v := (.bool false)) rfl (by kernel_rfl) (by kernel_rfl) (by kernel_rfl) (fun _ _ _ h => h) (.inl ⟨by kernel_rfl, fun w _ => by go_simp; try omega⟩) S2.out ?_
      refine wpAnyH_take (i := 18) (v := _) rfl (by kernel_rfl) (by kernel_rfl) (by kernel_rfl) (fun _ _ _ h => h) (yieldsIf_move (by kernel_rfl) (.tmp 24) rfl (.bool false) (by kernel_rfl)) S2.out ?_
      refine wpAnyH_take (i := 19) (v := _) rfl (by kernel_rfl) (by kernel_rfl) (by kernel_rfl) (fun _ _ _ h => h) (yieldsIf_fld (by kernel_rfl) _ (.tmp 3) 20 rfl (.pointer (some ⟨g, 0, none⟩)) (.pointer (some ⟨g, 66, none⟩)) (by kernel_rfl) (fld_isZeroAsk_20 g)) S2.out ?_
      refine wpAnyH_take (i := 20) (v := _) rfl (by kernel_rfl) (by kernel_rfl) (by kernel_rfl) (fun _ _ _ h => h) (yieldsIf_load_one (by kernel_rfl) _ (.tmp 26) rfl g 66 (by kernel_rfl) (.int .u16 3) (fun w h => (FC.out w g h).2.2.2.2.2.2.1) _ Tryd.underlying22 rfl) S2.out ?_
      refine wpAnyH_take (i := 21) (v := (.bool false)) rfl (by kernel_rfl) (by kernel_rfl) (by kernel_rfl) (fun _ _ _ h => h) (.inl ⟨by kernel_rfl, fun w _ => by go_simp; try omega⟩) S2.out ?_
      refine wpAnyH_take (i := 22) (v := (.bool false)) rfl (by kernel_rfl) (by kernel_rfl) (by kernel_rfl) (fun _ _ _ h => h) (.inl ⟨by kernel_rfl, fun w _ => by go_simp⟩) S2.out ?_
      refine wpAnyH_take (i := 23) (v := (.bool false)) rfl (by kernel_rfl) (by kernel_rfl) (by kernel_rfl) (fun _ _ _ h => h) (.inl ⟨by kernel_rfl, fun w _ => by go_simp⟩) S2.out ?_
      refine wpAnyH_take (i := 24) (v := (.bool false)) rfl (by kernel_rfl) (by kernel_rfl) (by kernel_rfl) (fun _ _ _ h => h) (.inl ⟨by kernel_rfl, fun w _ => by go_simp⟩) S2.out ?_
      refine wpAnyH_done (by kernel_rfl) ?_ _
      go_simp
      have K3 := Lib.hid S2.out
      clear S0 b0 K1 L1 S2
      have N0 : Hid (Below w3.heap.size w3 w3) := Below.refl _ _
      have H00 : Hid (Own w3 w3.heap.size (.slice none 0 0) []) := Own.nil _ _
      have hg3 : g < w3.heap.size := K3.out.lt
      have hs3 := M3.out.size
      obtain ⟨c55, c57, c58, c63, c64, c65, c66, c67, c68⟩ := FC.out w3 g K3.out
      go_wp2_with fail
      refine (CL8.out w3 w3.heap.size _ ([]) a.file H00.out (by simp) N0.out.size l_file u_file).mono ?_
      rintro e y1 ⟨v1, rfl, ho1, L1⟩
      have HO1 := Lib.hid ho1
      have N1 := Lib.hid (N0.out.trans L1)
      have Ky1 := Lib.hid (K3.out.below N1.out hg3)
      clear ho1 L1
      clear c55 c57 c58 c63 c64 c65 c66 c67 c68
      obtain ⟨c55, c57, c58, c63, c64, c65, c66, c67, c68⟩ := FC.out y1 g Ky1.out
      go_wp2_with fail
      refine (CL2.out y1 w3.heap.size _ ([] ++ le a.file 8) 3 HO1.out (by simp [le_length]) N1.out.size (by decide) (by decide)).mono ?_
      rintro e y2 ⟨v2, rfl, ho2, L2⟩
      have HO2 := Lib.hid ho2
      have N2 := Lib.hid (N1.out.trans L2)
      have Ky2 := Lib.hid (K3.out.below N2.out hg3)
      clear ho2 L2
      clear c55 c57 c58 c63 c64 c65 c66 c67 c68
      obtain ⟨c55, c57, c58, c63, c64, c65, c66, c67, c68⟩ := FC.out y2 g Ky2.out
      go_wp2_with fail
      refine (CU.out _ _).mono ?_
      rintro e wt ⟨rfl, rfl⟩
      go_wp2_with fail
      refine (CL2.out y2 w3.heap.size _ (([] ++ le a.file 8) ++ le 3 2) (truthI a.on) HO2.out (by simp [le_length]) N2.out.size tr0 (by omega)).mono ?_
      rintro e y3 ⟨v3, rfl, ho3, L3⟩
      have HO3 := Lib.hid ho3
      have N3 := Lib.hid (N2.out.trans L3)
      have Ky3 := Lib.hid (K3.out.below N3.out hg3)
      clear ho3 L3
      clear c55 c57 c58 c63 c64 c65 c66 c67 c68
      obtain ⟨c55, c57, c58, c63, c64, c65, c66, c67, c68⟩ := FC.out y3 g Ky3.out
      go_wp2_with (first
        | ((with_reducible show wpList _ _ _ (⟨some 84, _, _, _, _, _⟩ :: _) _ _); refine wpList_slice_blk rfl _ _ 1 _ rfl Tryd.underlying74 ([.string a.name] : List Value) (by kernel_rfl) ?_; intro gl z1 hz1 hz2 Yl Ll; have HOl := Lib.hid (Own.below HO3.out Ll.out); have Nl := Lib.hid (N3.out.trans (Ll.out.mono N3.out.size)))
        | fail)
      refine (RTexts_any z1 w3.heap.size gl 1 _ ((([] ++ le a.file 8) ++ le 3 2) ++ le (truthI a.on) 2) ss HOl.out Nl.out.size (by rw [HSS.out]; exact Yl.out) (by rw [HSS.out]; rfl) (by decide) HSZ.out (by simp [le_length])).mono ?_
      rintro e z2 ⟨vt, rfl, ho9, L9⟩
      have N9 := Lib.hid (Nl.out.trans L9)
      have HO9 := Lib.hid ho9
      clear ho9 L9
      obtain ⟨er, her⟩ : ∃ x, x = textsErr ss := ⟨_, rfl⟩
      rw [← her] at HO9 HQ ⊢
      clear her
      go_wp2
      go_ret2
      exact HQ.out _ _ _ rfl (Own.mono HO9.out hs3) (M3.out.trans (N9.out.mono hs3))
  · subst h18
    have hld : Bytes [a.lev, 0, 0, 0] := by
      intro x hx
      simp only [List.mem_cons, List.not_mem_nil, or_false] at hx
      rcases hx with hx | hx | hx | hx <;> omega
    have HLD := Lib.hid hld
    clear hld
    have he0 : ipErr 18 a = 0 := by unfold ipErr; rw [if_pos (hnm (fun h => absurd h (by decide))), if_neg (by decide), if_neg (fun h => absurd h.1 (by decide))]
    have HQ := Lib.hid (HQ0.out he0)
    have hb0 : bodyI 18 a = le a.file 8 ++ [a.lev, 0, 0, 0] := by unfold bodyI; rw [if_neg (by decide), if_neg (by decide), if_neg (by decide), if_pos rfl]; show le a.file 8 ++ ([a.lev % 256] ++ [0, 0, 0]) = _; rw [show a.lev % 256 = a.lev from by omega]; rfl
    rw [hb0] at HQ
    clear HQ0 HQT hb0 he0 hnm
    go_enter Tryd.func12, Tryd.ntmps12
    go_upto_region 1 with (first
      | ((with_reducible show wpList _ _ _ (⟨some 3, _, _, _, _, _⟩ :: _) _ _); refine wpList_box_blk rfl _ (.tmp 1) rfl cs rfl ?_; intro g w1 hg1 hg2 K1 L1)
      | fail)
    refine wp_region_held (S := fun w' => Blk w' g 32 cs) (by kernel_rfl) ?_
    change wpAnyH _ _ _ _ _ _ _ _ w1.drew
    have S0 : Hid (Blk w1.drew g 32 cs) := K1.out.drew
    have b0 : Hid (Below w.heap.size w w1.drew) := L1.out.drew
    refine wpAnyH_take (i := 0) (v := _) rfl (by kernel_rfl) (by kernel_rfl) (by kernel_rfl) (fun _ _ _ h => h) (yieldsIf_move (by kernel_rfl) (.tmp 0) rfl (.int .u16 18) (by kernel_rfl)) S0.out ?_
    refine wpAnyH_one 1 _ (by kernel_rfl) rfl fun K hK => ?_
    go_simp
    refine (CK.out _).mono ?_
    rintro e v1 ⟨rfl, rfl⟩
    refine hK _ _ S0.out ?_
    clear hK K
    refine wpAnyH_take (i := 2) (v := (.bool false)) rfl (by kernel_rfl) (by kernel_rfl) (by kernel_rfl) (fun _ _ _ h => h) (.inl ⟨by kernel_rfl, fun w _ => by go_simp⟩) S0.out ?_
    refine wpAnyH_take (i := 3) (v := _) rfl (by kernel_rfl) (by kernel_rfl) (by kernel_rfl) (fun _ _ _ h => h) (yieldsIf_move (by kernel_rfl) (.tmp 9) rfl (.bool false) (by kernel_rfl)) S0.out ?_
    refine wpAnyH_take (i := 4) (v := _) rfl (by kernel_rfl) (by kernel_rfl) (by kernel_rfl) (fun _ _ _ h => h) (yieldsIf_move (by kernel_rfl) (.tmp 0) rfl (.int .u16 18) (by kernel_rfl)) S0.out ?_
    refine wpAnyH_take (i := 5) (v := _) rfl (by kernel_rfl) (by kernel_rfl) (by kernel_rfl) (fun _ _ _ h => h) (yieldsIf_load_blk (by kernel_rfl) _ (.tmp 3) rfl g (by kernel_rfl) _ cs (fun w h => h) 69 _ Tryd.underlying32 rfl size_ask HL) S0.out ?_
    refine wpAnyH_take (i := 7) (v := _) rfl (by kernel_rfl) (by kernel_rfl) (by kernel_rfl) (fun _ _ _ h => h) (yieldsIf_load_blk (by kernel_rfl) _ (.tmp 3) rfl g (by kernel_rfl) _ cs (fun w h => h) 69 _ Tryd.underlying32 rfl size_ask HL) S0.out ?_
    refine wpAnyH_one 6 _ (by kernel_rfl) rfl fun K hK => ?_
    go_simp
    refine (CA.out _ b0.out).mono ?_
    rintro e v1 ⟨ds, rfl, hds, L01⟩
    have S1 := Lib.hid (S0.out.over L01)
    have b1 := Lib.hid (step b0.out L01)
    have HDS := Lib.hid hds
    refine hK _ _ S1.out ?_
    clear hK K hds L01
    refine wpAnyH_one 8 _ (by kernel_rfl) rfl fun K hK => ?_
    go_simp
    refine (CS.out _ ds HDS.out b1.out).mono ?_
    rintro e w3 ⟨rfl, L02⟩
    have S2 := Lib.hid (S1.out.over L02)
    have M3 := Lib.hid (step b1.out L02)
    refine hK _ _ S2.out ?_
    clear hK K L02 HDS S1 b1
    refine wpAnyH_take (i := 9) (v := (.bool false)) rfl (by kernel_rfl) (by kernel_rfl) (by kernel_rfl) (fun _ _ _ h => h) (.inl ⟨by kernel_rfl, fun w _ => by go_simp⟩) S2.out ?_
    refine wpAnyH_take (i := 10) (v := (.bool false)) rfl (by kernel_rfl) (by kernel_rfl) (by kernel_rfl) (fun _ _ _ h => h) (.inl ⟨by kernel_rfl, fun w _ => by go_simp⟩) S2.out ?_
    refine wpAnyH_take (i := 11) (v := _) rfl (by kernel_rfl) (by kernel_rfl) (by kernel_rfl) (fun _ _ _ h => h) (yieldsIf_move (by kernel_rfl) (.tmp 17) rfl (.bool false) (by kernel_rfl)) S2.out ?_
    refine wpAnyH_take (i := 12) (v := _) rfl (by kernel_rfl) (by kernel_rfl) (by kernel_rfl) (fun _ _ _ h => h) (yieldsIf_move (by kernel_rfl) (.tmp 0) rfl (.int .u16 18) (by kernel_rfl)) S2.out ?_
    refine wpAnyH_take (i := 13) (v := (.bool false)) rfl (by kernel_rfl) (by kernel_rfl) (by kernel_rfl) (fun _ _ _ h => h) (.inl ⟨by kernel_rfl, fun w _ => by go_simp⟩) S2.out ?_
    refine wpAnyH_take (i := 14) (v := _) rfl (by kernel_rfl) (by kernel_rfl) (by kernel_rfl) (fun _ _ _ h => h) (yieldsIf_move (by kernel_rfl) (.tmp 20) rfl (.bool false) (by kernel_rfl)) S2.out ?_
    refine wpAnyH_take (i := 15) (v := undef) rfl (by kernel_rfl) (by kernel_rfl) (by kernel_rfl) (fun _ _ _ h => h) (.inr ⟨by kernel_rfl, rfl⟩) S2.out ?_
    refine wpAnyH_take (i := 16) (v := undef) rfl (by kernel_rfl) (by kernel_rfl) (by kernel_rfl) (fun _ _ _ h => h) (.inr ⟨by kernel_rfl, rfl⟩) S2.out ?_
    refine wpAnyH_take (i := 17) (v := undef) rfl (by kernel_rfl) (by kernel_rfl) (by kernel_rfl) (fun _ _ _ h => h) (.inr ⟨by kernel_rfl, rfl⟩) S2.out ?_
    refine wpAnyH_take (i := 18) (v := undef) rfl (by kernel_rfl) (by kernel_rfl) (by kernel_rfl) (fun _ _ _ h => h) (.inr ⟨by kernel_rfl, rfl⟩) S2.out ?_
    refine wpAnyH_take (i := 19) (v := undef) rfl (by kernel_rfl) (by kernel_rfl) (by kernel_rfl) (fun _ _ _ h => h) (.inr ⟨by kernel_rfl, rfl⟩) S2.out ?_
    refine wpAnyH_take (i := 20) (v := undef) rfl (by kernel_rfl) (by kernel_rfl) (by kernel_rfl) (fun _ _ _ h => h) (.inr ⟨by kernel_rfl, rfl⟩) S2.out ?_
    refine wpAnyH_take (i := 21) (v := undef) rfl (by kernel_rfl) (by kernel_rfl) (by kernel_rfl) (fun _ _ _ h => h) (.inr ⟨by kernel_rfl, rfl⟩) S2.out ?_
    refine wpAnyH_take (i := 22) (v := undef) rfl (by kernel_rfl) (by kernel_rfl) (by kernel_rfl) (fun _ _ _ h => h) (.inr ⟨by kernel_rfl, rfl⟩) S2.out ?_
    refine wpAnyH_take (i := 23) (v := (.bool false)) rfl (by kernel_rfl) (by kernel_rfl) (by kernel_rfl) (fun _ _ _ h => h) (.inl ⟨by kernel_rfl, fun w _ => by go_simp⟩) S2.out ?_
    refine wpAnyH_take (i := 24) (v := (.bool false)) rfl (by kernel_rfl) (by kernel_rfl) (by kernel_rfl) (fun _ _ _ h => h) (.inl ⟨by kernel_rfl, fun w _ => by go_simp⟩) S2.out ?_
    refine wpAnyH_done (by kernel_rfl) ?_ _
    go_simp
    have K3 := Lib.hid S2.out
    clear S0 b0 K1 L1 S2
    have N0 : Hid (Below w3.heap.size w3 w3) := Below.refl _ _
    have H00 : Hid (Own w3 w3.heap.size (.slice none 0 0) []) := Own.nil _ _
    have hg3 : g < w3.heap.size := K3.out.lt
    have hs3 := M3.out.size
    obtain ⟨c55, c57, c58, c63, c64, c65, c66, c67, c68⟩ := FC.out w3 g K3.out
    go_wp2_with fail
    refine (CL8.out w3 w3.heap.size _ ([]) a.file H00.out (by simp) N0.out.size l_file u_file).mono ?_
    rintro e y1 ⟨v1, rfl, ho1, L1⟩
    have HO1 := Lib.hid ho1
    have N1 := Lib.hid (N0.out.trans L1)
    have Ky1 := Lib.hid (K3.out.below N1.out hg3)
    clear ho1 L1
    clear c55 c57 c58 c63 c64 c65 c66 c67 c68
    obtain ⟨c55, c57, c58, c63, c64, c65, c66, c67, c68⟩ := FC.out y1 g Ky1.out
    go_wp2_with (first
      | ((with_reducible show wpList _ _ _ (⟨some 93, _, _, _, _, _⟩ :: _) _ _); refine wpList_slice_blk rfl _ _ 4 _ rfl Tryd.underlying29 ([.int .u8 a.lev, .int .u8 0, .int .u8 0, .int .u8 0] : List Value) (by kernel_rfl) ?_; intro gl z1 hz1 hz2 Yl Ll; have HOl := Lib.hid (Own.below HO1.out Ll.out); have Nl := Lib.hid (N1.out.trans (Ll.out.mono N1.out.size)); have HHl := Lib.hid (HoldsI.lit (xs := [a.lev, 0, 0, 0]) (n := 4) Yl.out rfl HLD.out (by decide)))
      | (at_builtin; refine wpList_append_bytes rfl (.tmp 90) (.tmp 93) rfl w3.heap.size _ ([] ++ le a.file 8) rfl HOl.out (gl + 1) _ 4 4 [a.lev, 0, 0, 0] rfl HHl.out (by simp only [List.length_append, le_length, List.length_nil, List.length_cons]; omega) Nl.out.size ?_; intro va z2 hoa hba hgra; have HO5 := Lib.hid hoa.out; have N5 := Lib.hid (Nl.out.trans hba); clear hoa hba hgra)
      | fail)
    go_ret2
    refine HQ.out _ _ _ rfl ?_ (M3.out.trans (N5.out.mono hs3))
    have h9 := Own.mono HO5.out hs3
    simpa [List.append_assoc] using h9
end Go.Proofs.YtbbjmmooemmeiaaDoor

namespace Go.Proofs.YtbbjmmooemmeiaaDoor
set_option linter.all false
open Go.RowKit
set_option linter.unusedVariables false
set_option maxRecDepth 100000
set_option maxHeartbeats 4000000 in
theorem walk_InfoAsks (W : World) (hT : Tabs W) (a0 : Int) (w0 : 0 ≤ a0 ∧ a0 ≤ 65535) (cs1 : List Value) (a1 : AskV) (k1h : a1.ok) (h1h : AskIs W W.heap.size cs1 a1) (b1 : a1.dial.length ≤ 1048576 ∧ a1.data.length ≤ 1048576 ∧ a1.locks.length ≤ 1048576 ∧ a1.user.size ≤ 1048576 ∧ a1.share.size ≤ 1048576 ∧ a1.name.size ≤ 1048576 ∧ a1.pat.size ≤ 1048576 ∧ a1.aft.size ≤ 1048576) :
    Calls Tryd.prog 3 #[.int .u16 a0, .agg cs1.toArray] W fun e W' => e = .returned (.bool true) ∧ Below W.heap.size W W' := by
  have HT := Lib.hid hT
  have HL := Lib.hid (h1h.len k1h)
  have HA := Lib.hid h1h
  have ZH := Lib.hid zero_ask
  have HZ : Hid ((acells (.slice none 0 0) (.slice none 0 0) (.slice none 0 0) zeroAsk).length = 69) := acells_len zeroAsk_ok
  obtain ⟨b1a, b1b, b1c, b1d, b1e, b1f, b1g, b1h⟩ := b1
  have CC : Hid (∀ w : World, Below W.heap.size W w → Calls Tryd.prog 10 #[.agg cs1.toArray] w fun e w' => ∃ cs', e = .returned (.agg cs'.toArray) ∧ AskIs w' w'.heap.size cs' a1 ∧ Below w.heap.size w w') := fun w hb => CopyAsk_any w cs1 a1 k1h (h1h.over hb) ⟨by omega, by omega, by omega⟩
  have CP : Hid (∀ (w : World) (ds : List Value), AskIs w w.heap.size ds a1 → Tabs w → Calls Tryd.prog 11 #[.int .u16 a0, .agg ds.toArray] w fun e w' => ∃ v, e = .returned (.tuple #[v, .int .i64 (ipErr a0 a1)]) ∧ Own w' w.heap.size v (ipOf a0 a1) ∧ Below w.heap.size w w') := fun w ds hd hT => (IPutAsk_any w a0 ds a1 w0 k1h hd ⟨by omega, by omega⟩ ⟨by omega, by omega, by omega⟩ hT).mono fun e w' ⟨v, q1, q2, q3⟩ => ⟨v, q1, q2.own8, q3⟩
  have CR : Hid (∀ w : World, Below W.heap.size W w → Calls Tryd.prog 12 #[.int .u16 a0, .agg cs1.toArray] w fun e w' => ∃ v, e = .returned (.tuple #[v, .int .i64 (ipErr a0 a1)]) ∧ Own w' w.heap.size v (ipOf a0 a1) ∧ Below w.heap.size w w') := fun w hb => RIPutAsk_any w a0 cs1 a1 w0 k1h (h1h.over hb) ⟨by omega, by omega, by omega⟩ ⟨by omega, by omega, by omega⟩
  have CS : Hid (∀ (w : World) (A A' : Option Addr) (n c n' c' : Nat) (ys : List Int), Holds w w.heap.size A n c ys → Holds w w.heap.size A' n' c' ys → Calls Tryd.prog 13 #[.slice A n c, .slice A' n' c'] w fun e w' => e = .returned (.bool true) ∧ ∃ k, w.drewN k = w') := fun w A A' n c n' c' ys h1 h2 => by
    have h3 := Same_any w _ _ _ _ _ _ _ _ ys ys h1 h2
    rwa [decide_eq_true rfl] at h3
  have CQ : Hid (∀ (w : World) (ds : List Value), AskIs w w.heap.size ds a1 → AskIs w w.heap.size cs1 a1 → Calls Tryd.prog 14 #[.agg ds.toArray, .agg cs1.toArray] w fun e w' => e = .returned (.bool true) ∧ Below w.heap.size w w') := fun w ds h1 h2 => by
    have h3 := Asks_any w ds cs1 a1 a1 k1h k1h h1 h2 ⟨by omega, by omega, by omega⟩ ⟨by omega, by omega, by omega⟩
    rwa [decide_eq_true rfl] at h3
  have CL : Hid (∀ w : World, Tabs w → Calls Tryd.prog 15 #[] w fun e w' => e = .returned (.bool true) ∧ Below w.heap.size w w') := ilives_any
  have HYB := Lib.hid (ip_bytes (c := a0) k1h)
  have HYL := Lib.hid (ip_len (c := a0) (a := a1))
  obtain ⟨ys, hys⟩ : ∃ x, x = ipOf a0 a1 := ⟨_, rfl⟩
  obtain ⟨er, her⟩ : ∃ x, x = ipErr a0 a1 := ⟨_, rfl⟩
  rw [← hys, ← her] at CP CR
  rw [← hys] at HYB HYL
  obtain ⟨zs, hzs⟩ : ∃ x, x = acells (.slice none 0 0) (.slice none 0 0) (.slice none 0 0) zeroAsk := ⟨_, rfl⟩
  rw [← hzs] at ZH HZ
  clear hys her hzs hT h1h
  go_enter Tryd.func3, Tryd.ntmps3
  go_wp2_with (first
    | ((with_reducible show wpList _ _ _ (⟨some 3, _, _, _, _, _⟩ :: _) _ _); refine wpList_box_blk rfl _ (.tmp 1) rfl cs1 rfl ?_; intro g v1 hg1 hg2 K1 L1)
    | ((with_reducible show wpList _ _ _ (⟨some 10, _, _, _, _, _⟩ :: _) _ _); refine wpList_load_blk rfl _ (.tmp 3) rfl g rfl _ cs1 K1 69 _ Tryd.underlying32 rfl size_ask HL ?_)
    | fail)
  refine (CC.out v1 L1.out).mono ?_
  rintro e v2 ⟨ds, rfl, hd, L2⟩
  have HD := Lib.hid hd
  have HDL := Lib.hid (hd.len k1h)
  have HDO := Lib.hid hd.one
  have K2 := Lib.hid (K1.out.over L2)
  have M2 := Lib.hid (step L1.out L2)
  clear hd L2 K1 L1 CC
  go_wp2_with (first
    | ((with_reducible show wpList _ _ _ (⟨some 5, _, _, _, _, _⟩ :: _) _ _); refine wpList_alloc_blk rfl _ rfl zs _ ZH ?_; intro h v3 hg3 hg4 Z3 L3)
    | ((with_reducible show wpList _ _ _ (⟨none, .store _ (.tmp 5) _, _, _, _, _⟩ :: _) _ _); refine wpList_store_blk rfl _ (.tmp 5) (.tmp 11) rfl h rfl _ zs ds rfl Z3 69 size_ask HZ HDL HDO ?_; intro v4 X4 O4 hg5; have L4 := Lib.hid (below_only L3.out O4.out hg3); have M4 := Lib.hid (step M2.out L4.out); have K4 := Lib.hid (K2.out.over L4.out); have HD4 := Lib.hid (HD.out.over L4.out))
    | ((with_reducible show wpList _ _ _ (⟨some 14, _, _, _, _, _⟩ :: _) _ _); refine wpList_load_blk rfl _ (.tmp 5) rfl h rfl _ ds X4 69 _ Tryd.underlying32 rfl size_ask HDL ?_)
    | fail)
  refine (CP.out v4 ds HD4.out (HT.out.below M4.out)).mono ?_
  rintro e v5 ⟨u5, rfl, ho5, L5⟩
  have X5 := Lib.hid (X4.out.over L5)
  have K5 := Lib.hid (K4.out.over L5)
  have M5 := Lib.hid (step M4.out L5)
  have HD5 := Lib.hid (HD4.out.over L5)
  have O5 := Lib.hid ho5
  clear ho5 L5 X4 K4 M4 HD4 HD K2 M2 Z3 L3 L4 O4
  go_wp2_with (first
    | ((with_reducible show wpList _ _ _ (⟨some 20, _, _, _, _, _⟩ :: _) _ _); refine wpList_load_blk rfl _ (.tmp 3) rfl g rfl _ cs1 K5 69 _ Tryd.underlying32 rfl size_ask HL ?_)
    | fail)
  refine (CR.out v5 M5.out).mono ?_
  rintro e v6 ⟨u6, rfl, ho6, L6⟩
  have X6 := Lib.hid (X5.out.over L6)
  have K6 := Lib.hid (K5.out.over L6)
  have M6 := Lib.hid (step M5.out L6)
  have HD6 := Lib.hid (HD5.out.over L6)
  obtain ⟨A5, c5, rfl, hh5⟩ := (O5.out.below L6).holds HYB.out (by have := HYL.out; omega)
  obtain ⟨A6, c6, rfl, hh6⟩ := ho6.holds HYB.out (by have := HYL.out; omega)
  have D6 := Lib.hid (CS.out _ _ _ _ _ _ _ _ hh5 hh6)
  obtain ⟨m, hm⟩ : ∃ m, m = ys.length := ⟨_, rfl⟩
  rw [← hm] at D6 ⊢
  clear ho6 L6 X5 K5 M5 HD5 O5 hh5 hh6 hm
  go_wp2_with fail
  refine D6.out.mono ?_
  rintro e v7 ⟨rfl, k7, rfl⟩
  obtain ⟨v7, hv7⟩ : ∃ v, v = v6.drewN k7 := ⟨_, rfl⟩
  have L7 : Below v6.heap.size v6 v7 := by rw [hv7]; exact drewed _ _
  have X7 := Lib.hid (X6.out.over L7)
  have K7 := Lib.hid (K6.out.over L7)
  have M7 := Lib.hid (step M6.out L7)
  have HD7 := Lib.hid (HD6.out.over L7)
  rw [← hv7]
  clear hv7 L7 X6 K6 M6 HD6 D6
  go_wp2_with (first
    | ((with_reducible show wpList _ _ _ (⟨some 33, _, _, _, _, _⟩ :: _) _ _); refine wpList_load_want (by kernel_rfl) _ (.tmp 5) rfl h rfl _ ds X7 69 _ Tryd.underlying32 rfl size_ask HDL ?_)
    | ((with_reducible show wpList _ _ _ (⟨some 34, _, _, _, _, _⟩ :: _) _ _); refine wpList_load_want (by kernel_rfl) _ (.tmp 3) rfl g rfl _ cs1 K7 69 _ Tryd.underlying32 rfl size_ask HL ?_)
    | fail)
  refine (CQ.out v7 ds HD7.out (HA.out.over M7.out)).mono ?_
  rintro e v8 ⟨rfl, L8⟩
  have M8 := Lib.hid (step M7.out L8)
  clear L8 X7 K7 HD7 M7
  go_wp2_with fail
  refine (CL.out _ (HT.out.below M8.out)).mono ?_
  rintro e v9 ⟨rfl, L9⟩
  go_wp2
  go_ret
  exact ⟨rfl, step M8.out L9⟩
end Go.Proofs.YtbbjmmooemmeiaaDoor
