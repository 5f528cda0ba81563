import Derived.WalkKit
import Derived.Deep.Draws
import Derived.Laws.Rows
import Derived.Laws.OwnMore
import Derived.Test.YtdgpbhdihhchgaaGreatDoorRows
import Derived.Laws.CopyOwn
import Derived.Laws.AppendOwnNone
import Derived.Lib.Hide
import Derived.Laws.Tables
import Derived.Laws.NewFold
import Derived.Deep.WholeRow
import Derived.OrdersHeld
import Derived.Laws.StructEq
import Derived.ChangeKeysEq
import Derived.Deep.MidRow
import Derived.Great.Walk
import Derived.Laws.Bits64
import Derived.Laws.BitsAllLaws
import Derived.WalkSpells
import Derived.WalkLawsBesides
import Derived.Lib.RuneBytes
import Derived.Lib.ValidLaws
import Derived.Laws.AppendOwn
import Derived.OwnWalk
import Derived.Lib.OthersKept
import Derived.Laws.BytesArg
import Derived.Shelf.Strings.Builder1
import Derived.Shelf.Strings.Builder2
import Derived.Shelf.Strings.OnBuilder
import Derived.Shelf.Strings.BuilderF
import Derived.Shelf.Strings.BuilderK
import Derived.Shelf.Utf8.AppendRunePlain
import Derived.Shelf.Utf8.RuneCount
import Derived.Shelf.LaysM
import Derived.Shelf.Strconv.Clone
import Derived.Shelf.Strings.Search1
import Derived.Shelf.Strings.Search2
import Derived.Shelf.Strings.Cut
import Derived.Shelf.Strings.Shaped
import Derived.Shelf.Unicode.DecodeSlow
import Derived.Shelf.Unicode.DecodeAny
import Derived.Shelf.Slices.Turned
import Derived.Ground.SlgmProg
import Derived.Shelf.SortM.Plain
import Derived.Shelf.SortM.SortNone
import Derived.Shelf.Unicode.ValidAny
import Derived.Test.YtdgpbhdihhchgaaGreatDoorProg
import Derived.Deep.QuietTactic
import Derived.BigQuiet
import Derived.Deep.DeepCutAuto
import Derived.Laws.IdiomStrings
import Derived.Laws.Cover4
import Derived.Lib.RuneCount
import Derived.Lib.IndexLaws
import Derived.OneCell
import Derived.StillTailTactics
import Derived.WalkMore
import Derived.ProofKit
import Derived.OpenShut
import Derived.ShutString
import Derived.SizedLaws
import Derived.ChangeOld
import Derived.Lib.AppendZeros
import Derived.Deep.RegionWith
import Derived.Deep.Strs
import Derived.Deep.Slices
import Derived.Lib.Join
import Derived.Deep.RegionLaw
import Derived.Deep.CutBlock
import Derived.Lib.SliceRun
import Derived.Maps.AppendAt
import Derived.Lib.Overlaps
import Derived.Maps.OwnSet
import Derived.StringKeys
import Derived.Laws.Externs
import Derived.Laws.BytesString
import Derived.Maps.RangeWalk
import Derived.Test.YtdgpbhdihhchgaaGreatDoorWAB
namespace Go.Proofs.YtdgpbhdihhchgaaGreatDoor
set_option linter.all false
open Go.RowKit
section
variable {P : Program} {ops : Array Oper} {md : Region.Mode} {S : World → Prop} {Q : Exit → Act → World → Prop}
theorem wpAnyH_one (i : Nat) (oi : Oper) {fuel : Nat} {listed : Array Bool} {a : Act} {w : World} (hr : Region.ready md ops listed = [i]) (hi : ops[i]? = some oi)
    (h : ∀ K : Act → World → Prop, (∀ a' w', S w' → wpAnyH P md ops Q S fuel (listed.setIfInBounds i true) a' w' → K a' w') → if Region.wanted oi (yielded ops a.tmps) = true then oi.wp P a w K Q else K (a.put oi.dst undef) w) : wpAnyH P md ops Q S (fuel + 1) listed a w := by
  refine wpAnyH_all hr (by simp) fun j hj => ?_
  obtain rfl : j = i := by simpa using hj
  have h1 := h (fun a' w' => S w' ∧ wpAnyH P md ops Q S fuel (listed.setIfInBounds j true) a' w') fun _ _ h2 h3 => ⟨h2, h3⟩
  unfold wpOp
  simp only [hi]
  by_cases hw : Region.wanted oi (yielded ops a.tmps) = true
  · rw [if_pos hw] at h1 ⊢
    exact .inl h1
  · rw [if_neg hw] at h1 ⊢
    exact h1
end
end Go.Proofs.YtdgpbhdihhchgaaGreatDoor

namespace Go.Proofs.YtdgpbhdihhchgaaGreatDoor
set_option linter.all false
set_option maxRecDepth 100000
open Go.RowKit
section
section
variable {P : Program} {w : World} {d : Nat} {xs ys : Array Value} {r : List (Bool × TypeId × Nat)} {q : Bool}
end
section
variable {P : Program} {ops : Array Oper} {S : World → Prop}
theorem yieldsIf_load_one {op : Oper} {a : Act} (hw : Region.wanted op (yielded ops a.tmps) = true) (T : TypeId) (x : Operand) (ho : op.op = .load T x) (g i : Nat) (hx : a.eval x = .pointer (some ⟨g, i, none⟩)) (v : Value)
    (hS : ∀ w, S w → w.cell? ⟨g, i, none⟩ = some v) (d : TypeDesc) (hu : P.underlying T = some d) (hd : (match d with | .struct _ | .array _ _ => true | _ => false) = false) : YieldsIf P ops S op v a :=
  .inl ⟨hw, fun w hw' => by
    have hc := hS w hw'
    have hagg : (isAgg T).run P w = .ok false w := by
      unfold isAgg
      rw [Sem.run_bind, run_underlying hu w]
      cases d <;> simp_all
    unfold execOp
    simp [ho, hx, Instr.loadAt, Instr.sureAddr, Sem.run_bind, Result.andThen_ok, loadVar, hagg, hc]⟩
theorem yieldsIf_build_blk {op : Oper} {a : Act} (hw : Region.wanted op (yielded ops a.tmps) = true) (T : TypeId) (parts : Array (Nat × Operand)) (ho : op.op = .build T parts) (cs : List Value)
    (hf : P.built T (parts.map fun (i, x) => (i, a.eval x)).toList = some cs.toArray) : YieldsIf P ops S op (.agg cs.toArray) a :=
  .inl ⟨hw, fun w _ => by
    unfold execOp
    simp only [ho, Sem.run_bind, run_build w T _ _ hf, Result.andThen_ok]
    rfl⟩
theorem yieldsIf_nil {op : Oper} {a : Act} (hw : Region.wanted op (yielded ops a.tmps) = true) (x : Operand) (ho : op.op = .nilCheck x) (ad : Addr) (hx : a.eval x = .pointer (some ad)) : YieldsIf P ops S op (.pointer (some ad)) a :=
  .inl ⟨hw, fun w _ => by
    unfold execOp
    simp [ho, hx]⟩
theorem yieldsIf_move {op : Oper} {a : Act} (hw : Region.wanted op (yielded ops a.tmps) = true) (x : Operand) (ho : op.op = .move x) (v : Value) (hx : a.eval x = v) : YieldsIf P ops S op v a :=
  .inl ⟨hw, fun w _ => by
    unfold execOp
    simp [ho, hx]⟩
theorem yieldsIf_asg {op : Oper} {a : Act} (hw : Region.wanted op (yielded ops a.tmps) = true) (x : Operand) (ho : op.op = .assign x) (v : Value) (hx : a.eval x = v) : YieldsIf P ops S op v a :=
  .inl ⟨hw, fun w _ => by
    unfold execOp
    simp [ho, hx]⟩
theorem yieldsIf_fld {op : Oper} {a : Act} (hw : Region.wanted op (yielded ops a.tmps) = true) (T : TypeId) (x : Operand) (i : Nat) (ho : op.op = .fieldAddr T x i) (u v : Value) (hx : a.eval x = u) (hf : ∀ w, (Instr.fieldAt T u i).run P w = .ok v w) : YieldsIf P ops S op v a :=
  .inl ⟨hw, fun w _ => by
    unfold execOp
    simp only [ho, hx, Sem.run_bind, hf, Result.andThen_ok]
    rfl⟩
end
end
end Go.Proofs.YtdgpbhdihhchgaaGreatDoor

namespace Go.Proofs.YtdgpbhdihhchgaaGreatDoor
set_option linter.all false
set_option maxRecDepth 100000
open Go.RowKit
set_option linter.unusedVariables false
section
variable {P : Program} {ops : Array Oper} {o : Oper} {a : Act} {w : World} {Q : Exit → Act → World → Prop} {K : Act → World → Prop} {E : Prop}
theorem step_store_blk (hg : o.guard = none) (T : TypeId) (x y : Operand) (ho : o.op = .store T x y) (g : Nat) (hx : a.eval x = .pointer (some ⟨g, 0, none⟩)) (T' : TypeId) (cs ds : List Value) (hy : a.eval y = .agg ds.toArray)
    (hA : Hid (Blk w g T' cs)) (n : Nat) (hi : (P.info? T).map (·.size) = some n) (hn : Hid (cs.length = n)) (hm : Hid (ds.length = n)) (h1 : Hid (∀ v ∈ ds, v.oneCell' = true))
    (h : ∀ w', Hid (Blk w' g T' ds) → Hid (Only g w w') → g < w'.heap.size → K (a.put o.dst undef) w') :
    if Region.wanted o (yielded ops a.tmps) = true then Oper.wp P o a w K Q else E := by
  have hw : Region.wanted o (yielded ops a.tmps) = true := by simp [Region.wanted, hg]
  rw [if_pos hw]
  refine wp_store_row T x y ho g _ hx hy T' _ hA.out (by rw [hi]; have := hm.out; simp [this]) (by have := hm.out; have := hn.out; simp_all) (all_oneCell_toArray h1.out) (h _ ?_ ((Only.refl g w).setRow _) (by rw [size_setRow]; exact hA.out.lt))
  exact setRow_heap w g _ _ T' (0, 0) hA.out
end
end Go.Proofs.YtdgpbhdihhchgaaGreatDoor

namespace Go.Proofs.YtdgpbhdihhchgaaGreatDoor
set_option linter.all false
set_option maxRecDepth 100000
open Go.RowKit
set_option linter.unusedVariables false
theorem RVol.node {w : World} {base g : Nat} {v : Value} {V : VolM} {M : List VP} (d : RVol w base g v V M) {m : Int} (hi : vIx V.l m < V.l.length) (p : vAt V.l m = some (V.l[vIx V.l m]'hi)) : ∃ ps, Way V.l m ps ∧ ps.length ≤ 8 := by
  have h1 := vAt_mem p
  obtain ⟨ps, hw, h8⟩ := d.ok.way _ h1.1
  rw [h1.2] at hw
  exact ⟨ps, hw, h8⟩
end Go.Proofs.YtdgpbhdihhchgaaGreatDoor

namespace Go.Proofs.YtdgpbhdihhchgaaGreatDoor
set_option linter.all false
open Go.RowKit
section
variable {P : Program} {ops : Array Oper} {md : Region.Mode} {S : World → Prop} {Q : Exit → Act → World → Prop} {k : Nat}
def wpAnyK (P : Program) (md : Region.Mode) (ops : Array Oper) (Q : Exit → Act → World → Prop) (S : World → Prop) (k : Nat) : Nat → Array Bool → Act → World → Prop
  | 0, listed, a, w => Region.ready md ops listed = [] ∧ Q .normal a w
  | fuel + 1, listed, a, w =>
    (Region.ready md ops listed = [] → Q .normal a w) ∧
    ∀ i ∈ Region.ready md ops listed, wpOp P ops Q i (fun a' w' => ((listed.setIfInBounds i true).getD k false = false → S w') ∧ wpAnyK P md ops Q S k fuel (listed.setIfInBounds i true) a' w') a w
theorem wpAny_of_K : ∀ (fuel : Nat) (listed : Array Bool) (a : Act) (w : World), wpAnyK P md ops Q S k fuel listed a w → wpAny P md ops Q fuel listed a w
  | 0, _, _, _, h => h
  | fuel + 1, _, _, _, h => ⟨h.1, fun i hi => wpOp_mono (fun a' w' h' => wpAny_of_K fuel _ a' w' h'.2) (h.2 i hi)⟩
theorem wpAnyK_first {i : Nat} {oi ok : Oper} {v : Value} (hi : ops[i]? = some oi) (hsel : ∀ (j : Nat) (o : Oper) cs b, ops[j]? = some o → o.op ≠ .select cs b)
    (hQ : ∀ c a w, Q (.panic c) (a.put oi.dst v) w → Q (.panic c) a w) (hk : ops[k]? = some ok) (hke : ok.after.any (fun e => Region.binds md e && e.on == i) = true) :
    ∀ (fuel : Nat) (listed : Array Bool) (a : Act) (w : World),
      (∀ j oj, ops[j]? = some oj → j ≠ i → listed.getD j true = false → (∀ e ∈ oj.after, Region.binds md e = true → e.on ≠ i) → oi.apart ops oj = true) →
      i ∈ Region.ready md ops listed → YieldsIf P ops S oi v a → S w → listed.getD k false = false → i ≠ k →
      wpAnyK P md ops Q S k fuel (listed.setIfInBounds i true) (a.put oi.dst v) w → wpAnyK P md ops Q S k (fuel + 1) listed a w := by
  intro fuel
  induction fuel with
  | zero =>
    intro listed a w _ hr hy hS _ _ H
    refine ⟨fun h => (by rw [h] at hr; cases hr), fun j hj => ?_⟩
    by_cases hji : j = i
    · subst hji; exact hy.wpOp hi hS ⟨fun _ => hS, H⟩
    · have := ready_mono hj hji
      rw [H.1] at this
      cases this
  | succ fuel ih =>
    intro listed a w hfree hr hy hS hkl hik H
    refine ⟨fun h => (by rw [h] at hr; cases hr), fun j hj => ?_⟩
    by_cases hji : j = i
    · subst hji; exact hy.wpOp hi hS ⟨fun _ => hS, H⟩
    · have h1 := H.2 j (ready_mono hj hji)
      obtain ⟨hjun, oj, hoj, hall⟩ := mem_ready.1 hj
      have hnot : ∀ e ∈ oj.after, Region.binds md e = true → e.on ≠ i := fun e he hb heq => by
        have h1 := hall e he hb
        have h0 := (mem_ready.1 hr).1
        rw [heq] at h1
        rcases Nat.lt_or_ge i listed.size with h' | h'
        · simp [h'] at h0 h1; rw [h0] at h1; cases h1
        · simp [Array.getElem?_eq_none h'] at h1
      have hjk : j ≠ k := by
        rintro rfl
        rw [hk] at hoj
        injection hoj with hoj
        subst hoj
        obtain ⟨e, he, hb⟩ := Array.any_eq_true'.1 hke
        simp only [Bool.and_eq_true, beq_iff_eq] at hb
        exact hnot e he hb.1 hb.2
      have h2 := wpOp_putIf hoj (hfree j oj hoj hji hjun hnot) (fun cs b => hsel i oi cs b hi) (fun cs b => hsel j oj cs b hoj) hQ hy h1
      have hfree' : ∀ k ok, ops[k]? = some ok → k ≠ i → (listed.setIfInBounds j true).getD k true = false →
          (∀ e ∈ ok.after, Region.binds md e = true → e.on ≠ i) → oi.apart ops ok = true := fun k ok hk hki hun hno => by
        refine hfree k ok hk hki ?_ hno
        by_cases hjk : j = k
        · subst hjk; exact hjun
        · rw [getD_set_ne true hjk] at hun; exact hun
      refine wpOp_mono (fun a' w' h3 => ?_) h2
      have hSw : S w' := h3.2.1 (by rw [getD_set_ne false hjk, getD_set_ne false hik]; exact hkl)
      refine ⟨fun _ => hSw, ih (listed.setIfInBounds j true) a' w' hfree' (ready_mono hr (Ne.symm hji)) h3.1 hSw (by rw [getD_set_ne false hjk]; exact hkl) hik ?_⟩
      rw [Array.setIfInBounds_comm _ _ hji]
      exact h3.2.2
theorem wpAnyK_take {i : Nat} {oi ok : Oper} {v : Value} {fuel : Nat} {listed : Array Bool} {a : Act} {w : World} (hi : ops[i]? = some oi)
    (hs : Region.noSelect ops = true) (hf : Region.free md ops listed i = true) (hr : (Region.ready md ops listed).contains i = true)
    (hQ : ∀ c a w, Q (.panic c) (a.put oi.dst v) w → Q (.panic c) a w) (hk : ops[k]? = some ok) (hke : ok.after.any (fun e => Region.binds md e && e.on == i) = true) (hkl : listed.getD k false = false) (hik : i ≠ k)
    (hy : YieldsIf P ops S oi v a) (hS : S w)
    (h : wpAnyK P md ops Q S k fuel (listed.setIfInBounds i true) (a.put oi.dst v) w) : wpAnyK P md ops Q S k (fuel + 1) listed a w :=
  wpAnyK_first hi (Region.noSelect_spec hs) hQ hk hke fuel listed a w (Region.free_spec hi hf) (by simpa using hr) hy hS hkl hik h
theorem wpAnyK_one (i : Nat) (oi : Oper) {fuel : Nat} {listed : Array Bool} {a : Act} {w : World} (hr : Region.ready md ops listed = [i]) (hi : ops[i]? = some oi)
    (h : ∀ K : Act → World → Prop, (∀ a' w', ((listed.setIfInBounds i true).getD k false = false → S w') → wpAnyK P md ops Q S k fuel (listed.setIfInBounds i true) a' w' → K a' w') → if Region.wanted oi (yielded ops a.tmps) = true then oi.wp P a w K Q else K (a.put oi.dst undef) w) : wpAnyK P md ops Q S k (fuel + 1) listed a w := by
  refine ⟨fun h0 => (by rw [h0] at hr; cases hr), fun j hj => ?_⟩
  rw [hr] at hj
  obtain rfl : j = i := by simpa using hj
  have h1 := h (fun a' w' => ((listed.setIfInBounds j true).getD k false = false → S w') ∧ wpAnyK P md ops Q S k fuel (listed.setIfInBounds j true) a' w') fun _ _ h2 h3 => ⟨h2, h3⟩
  unfold wpOp
  simp only [hi]
  by_cases hw : Region.wanted oi (yielded ops a.tmps) = true
  · rw [if_pos hw] at h1 ⊢
    exact .inl h1
  · rw [if_neg hw] at h1 ⊢
    exact h1
theorem wpAnyK_done {listed : Array Bool} {a : Act} {w : World} (hr : Region.ready md ops listed = []) (h : Q .normal a w) :
    ∀ fuel, wpAnyK P md ops Q S k fuel listed a w
  | 0 => ⟨hr, h⟩
  | _ + 1 => ⟨fun _ => h, by rw [hr]; simp⟩
theorem wpAnyK_frame {fuel : Nat} {listed : Array Bool} {a : Act} {w : World} (h : ∀ a', a' = a → wpAnyK P md ops Q S k fuel listed a' w) : wpAnyK P md ops Q S k fuel listed a w := h a rfl
theorem wp_region_heldK {id : Nat} {a : Act} {w : World} (k : Nat) (S : World → Prop) (hm : P.follows .mixedOrders = true)
    (h : wpAnyK P .any ops Q S k ops.size (Array.replicate ops.size false) a { w with drawn := w.drawn + 1 }) : (Code.region id ops true).wp P Q a w :=
  wp_region_any hm (wpAny_of_K _ _ _ _ h)
end
end Go.Proofs.YtdgpbhdihhchgaaGreatDoor

namespace Go.Proofs.YtdgpbhdihhchgaaGreatDoor
set_option linter.all false
open Go.RowKit
theorem World.setCells_only (g : Nat) : ∀ (vs : List Value) (o : Nat) (w : World), Only g w (w.setCells g o vs)
  | [], _, w => Only.refl g w
  | v :: r, o, w => by
    have h1 := only_setCell w g o v
    have h2 := World.setCells_only g r (o + 1) (w.setCell ⟨g, o, none⟩ v)
    exact ⟨h2.os.trans h1.os, h2.tape.trans h1.tape, h2.output.trans h1.output, h2.size.trans h1.size, fun i hi => (h2.rest i hi).trans (h1.rest i hi)⟩
theorem Blk.setCells {g : Nat} {T : TypeId} : ∀ (vs : List Value) (o : Nat) (w : World) (cs : List Value), Blk w g T cs → o + vs.length ≤ cs.length → Blk (w.setCells g o vs) g T (cs.take o ++ (vs ++ cs.drop (o + vs.length)))
  | [], o, w, cs, h, _ => by
    show Blk w g T _
    rw [List.nil_append, List.length_nil, Nat.add_zero, List.take_append_drop]
    exact h
  | v :: r, o, w, cs, h, hl => by
    have hl' : o + 1 + r.length ≤ cs.length := by simp at hl; omega
    have h1 := h.set o v
    have h2 := Blk.setCells r (o + 1) _ _ h1 (by rw [List.length_set]; exact hl')
    have e : (cs.set o v).take (o + 1) ++ (r ++ (cs.set o v).drop (o + 1 + r.length)) = cs.take o ++ ((v :: r) ++ cs.drop (o + (v :: r).length)) := by
      have ho : o < cs.length := by omega
      have e1 : (cs.set o v).take (o + 1) = cs.take o ++ [v] := by
        rw [List.take_succ_eq_append_getElem (by rw [List.length_set]; exact ho), List.take_set_of_le (Nat.le_refl o)]
        simp
      have e2 : (cs.set o v).drop (o + 1 + r.length) = cs.drop (o + (v :: r).length) := by
        rw [List.drop_set_of_lt (by omega), List.length_cons]
        congr 1
        omega
      rw [e1, e2]
      simp
    rw [e] at h2
    exact h2
section
variable {P : Program} {ops : Array Oper} {rest : List Oper} {o : Oper} {a : Act} {w : World} {Q : Exit → Act → World → Prop}
theorem there_blk {g : Nat} {T : TypeId} {cs : List Value} (h : Blk w g T cs) (i n : Nat) (hn : i + n ≤ cs.length) : w.there g i n := fun j hj => by
  refine ⟨?_, h.frozen _⟩
  rw [h.cell]
  have : i + j < cs.length := by omega
  simp [this]
/-- an array into the midst -/
theorem wpList_store_midb (hgd : o.guard = none) (ty : TypeId) (x y : Operand) (ho : o.op = .store ty x y) (g i : Nat) (hx : a.eval x = .pointer (some ⟨g, i, none⟩)) (T : TypeId) (cs vs : List Value) (hy : a.eval y = .agg vs.toArray)
    (hA : Hid (Blk w g T cs)) (n : Nat) (hi : (P.info? ty).map (·.size) = some n) (hn : Hid (vs.length = n)) (hl : Hid (i + n ≤ cs.length)) (h1 : Hid (∀ v ∈ vs, v.oneCell' = true))
    (h : ∀ w', Hid (Blk w' g T (cs.take i ++ (vs ++ cs.drop (i + n)))) → Hid (Only g w w') → g < w'.heap.size → wpList P ops Q rest a w') (hd : o.dst = none := by rfl) : wpList P ops Q (o :: rest) a w := by
  have hp : a.put o.dst undef = a := by rw [hd]; rfl
  have hnn := hn.out
  refine wpList_store_mid hgd ty x y ho g i vs.toArray hx hy (there_blk hA.out i _ (by have := hl.out; simp; omega)) (by rw [hi]; simp [hnn]) (all_oneCell_toArray h1.out) ?_
  rw [hp]
  have hb := Blk.setCells vs i w cs hA.out (by have := hl.out; omega)
  rw [hnn] at hb
  have hO := World.setCells_only g vs i w
  refine h _ hb hO ?_
  have := hO.size
  rw [show (w.setCells g i vs.toArray.toList) = w.setCells g i vs from rfl, this]
  exact hA.out.lt
/-- the same as a step of a region that draws its order -/
theorem step_store_midb {K : Act → World → Prop} {E : Prop} (hg : o.guard = none) (ty : TypeId) (x y : Operand) (ho : o.op = .store ty x y) (g i : Nat) (hx : a.eval x = .pointer (some ⟨g, i, none⟩)) (T : TypeId) (cs vs : List Value) (hy : a.eval y = .agg vs.toArray)
    (hA : Hid (Blk w g T cs)) (n : Nat) (hi : (P.info? ty).map (·.size) = some n) (hn : Hid (vs.length = n)) (hl : Hid (i + n ≤ cs.length)) (h1 : Hid (∀ v ∈ vs, v.oneCell' = true))
    (h : ∀ w', Hid (Blk w' g T (cs.take i ++ (vs ++ cs.drop (i + n)))) → Hid (Only g w w') → g < w'.heap.size → K (a.put o.dst undef) w') :
    if Region.wanted o (yielded ops a.tmps) = true then Oper.wp P o a w K Q else E := by
  have hw : Region.wanted o (yielded ops a.tmps) = true := by simp [Region.wanted, hg]
  rw [if_pos hw]
  have hnn := hn.out
  refine wp_store_mid ty x y ho g i vs.toArray hx hy (there_blk hA.out i _ (by have := hl.out; simp; omega)) (by rw [hi]; simp [hnn]) (all_oneCell_toArray h1.out) ?_
  have hb := Blk.setCells vs i w cs hA.out (by have := hl.out; omega)
  rw [hnn] at hb
  have hO := World.setCells_only g vs i w
  refine h _ hb hO ?_
  have := hO.size
  rw [show (w.setCells g i vs.toArray.toList) = w.setCells g i vs from rfl, this]
  exact hA.out.lt
/-- one cell, as a step of a region that draws its order -/
theorem step_store_fld {K : Act → World → Prop} {E : Prop} (hg : o.guard = none) (T : TypeId) (x y : Operand) (ho : o.op = .store T x y) (g i : Nat) (hx : a.eval x = .pointer (some ⟨g, i, none⟩)) (T' : TypeId) (cs : List Value) (u : Value) (hy : a.eval y = u)
    (hA : Hid (Blk w g T' cs)) (hi : Hid (i < cs.length)) (hs : (P.info? T).map (·.size) = some 1) (h1 : u.oneCell' = true)
    (h : ∀ w', Hid (Blk w' g T' (cs.set i u)) → Hid (Only g w w') → g < w'.heap.size → K (a.put o.dst undef) w') :
    if Region.wanted o (yielded ops a.tmps) = true then Oper.wp P o a w K Q else E := by
  have hw : Region.wanted o (yielded ops a.tmps) = true := by simp [Region.wanted, hg]
  rw [if_pos hw]
  unfold Oper.wp execOp
  simp only [ho, hx, hy, Instr.storeAt, Instr.sureAddr, Sem.run_bind, Sem.run_pure, Result.andThen_ok, run_storeVar_fld w g i T' T cs u hA.out hi.out hs h1]
  refine h _ (hA.out.set i u) (only_setCell w g i u) ?_
  have := (only_setCell w g i u).size
  rw [this]
  exact hA.out.lt
end
end Go.Proofs.YtdgpbhdihhchgaaGreatDoor

namespace Go.Proofs.YtdgpbhdihhchgaaGreatDoor
set_option linter.all false
set_option maxRecDepth 100000
open Go.RowKit
set_option linter.unusedVariables false
section
variable {P : Program} {ops : Array Oper} {o : Oper} {a : Act} {w : World} {Q : Exit → Act → World → Prop} {K : Act → World → Prop} {E : Prop}
end
/-! ### the kinds of the blocks -/
def TypAt (w : World) (j : Nat) (T : TypeId) : Prop := ∃ c, w.heap[j]? = some (.cells c T (0, 0))
section
variable {w w' : World} {base g j : Nat} {v v' : Value} {V V' : VolM} {M M' : List VP} {T T' : TypeId}
theorem TypAt.same (h : TypAt w j T) (k : TypAt w j T') : T = T' := by
  obtain ⟨c, h⟩ := h
  obtain ⟨c', k⟩ := k
  rw [h] at k
  simp only [Option.some.injEq, Obj.cells.injEq] at k
  exact k.2.1
theorem Blk.typ {cs : List Value} (h : Blk w g T cs) : TypAt w g T := ⟨_, h⟩
theorem RDat.typ {b : Nat} {vB vZ : Value} {B : List Int} {Z : List Bool} (h : RDat w base b vB vZ B Z) : ∀ j, rdS b vB vZ j → TypAt w j 104 ∨ TypAt w j 5 ∨ TypAt w j 4 := fun j hj => by
  rcases hj with rfl | hj | hj
  · exact .inl h.blk.typ
  · exact .inr (.inl (h.rowB.block hj).2)
  · exact .inr (.inr (h.rowZ.block hj).2)
theorem RVol.typ (h : RVol w base g v V M) : ∀ j, rvS g v j → TypAt w j 101 ∨ TypAt w j 98 := fun j hj => by
  rcases hj with rfl | hj
  · exact .inl h.blk.typ
  · exact .inr (h.row.block hj).2
/-- a file's blocks are none of the volume's own -/
theorem RVol.off (h : RVol w base g v V M) {b : Nat} {vB vZ : Value} {B : List Int} {Z : List Bool} (d : RDat w base b vB vZ B Z) : ∀ j, rdS b vB vZ j → ¬ rvS g v j := fun j h1 h2 => by
  rcases d.typ j h1 with k | k | k <;> rcases h.typ j h2 with l | l <;> exact absurd (k.same l) (by decide)
theorem RVol.own_ne (h : RVol w base g v V M) : v.ownBlock ≠ some g := fun e => absurd (h.blk.typ.same (h.row.block e).2) (by decide)
/-- what turns the volume comes to V' -/
def RVPost (w : World) (base g : Nat) (v : Value) (M : List VP) (V' : VolM) (w' : World) : Prop :=
  ∃ v' M', RVol w' base g v' V' M' ∧ Spare (rvA g v M) w w' ∧ ∀ j, rvA g v' M' j → rvA g v M j ∨ w.heap.size ≤ j
theorem RVol.turned (h : RVol w base g v V M) (a : Spare (rvS g v) w w') (hB : Blk w' g 101 [.int .i64 V'.quota, .int .i64 V'.last, v']) (hO : OwnS vpCells 5 98 w' base v' M') (hw : Wander w v v') (his : M'.map (·.1) = V'.l)
    (hM : ∀ y ∈ M', (∃ z ∈ M, y.2 = z.2 ∧ y.1.kind = z.1.kind ∧ y.1.B = z.1.B ∧ y.1.Z = z.1.Z) ∨ (y.1.kind = 1 ∧ y.2 = none) ∨ (y.1.kind = 2 ∧ ∃ b vB vZ, y.2 = some (b, vB, vZ) ∧ RDat w' base b vB vZ y.1.B y.1.Z ∧ ∀ j, rdS b vB vZ j → w.heap.size ≤ j))
    (ok : Vok V') (big : V'.last ≤ 1048576) : RVPost w base g v M V' w' := by
  refine ⟨v', M', ⟨h.ge, hB, hO, his, ?_, ?_, ok, big⟩, a.mono fun j _ hj => .inl hj, ?_⟩
  · intro y hy hk
    rcases hM y hy with ⟨z, hz, e1, e2, _⟩ | ⟨_, e⟩ | ⟨e, _⟩
    · rw [e1]
      exact h.dirs z hz (e2 ▸ hk)
    · exact e
    · rw [e] at hk
      cases hk
  · intro y hy hk
    rcases hM y hy with ⟨z, hz, e1, e2, e3, e4⟩ | ⟨e, _⟩ | ⟨_, b, vB, vZ, e, d, _⟩
    · obtain ⟨b, vB, vZ, e, d⟩ := h.files z hz (e2 ▸ hk)
      exact ⟨b, vB, vZ, e1.trans e, by rw [e3, e4]; exact d.spare a fun j hj => h.off d j hj⟩
    · rw [e] at hk
      cases hk
    · exact ⟨b, vB, vZ, e, d⟩
  · intro j hj
    rcases hj with (rfl | hj) | ⟨y, hy, b, vB, vZ, e, hj⟩
    · exact .inl (.inl (.inl rfl))
    · rcases hw j hj with h1 | h1
      · exact .inl (.inl (.inr h1))
      · exact .inr h1
    · rcases hM y hy with ⟨z, hz, e1, _⟩ | ⟨_, e1⟩ | ⟨_, b', vB', vZ', e1, _, hn⟩
      · exact .inl (.inr ⟨z, hz, b, vB, vZ, e1 ▸ e, hj⟩)
      · rw [e1] at e
        cases e
      · rw [e1] at e
        injection e with e
        injection e with e2 e
        injection e with e3 e4
        subst e2 e3 e4
        exact .inr (hn j hj)
end
end Go.Proofs.YtdgpbhdihhchgaaGreatDoor

namespace Go.Proofs.YtdgpbhdihhchgaaGreatDoor
set_option linter.all false
set_option maxRecDepth 100000
open Go.RowKit
set_option linter.unusedVariables false
section
variable {α : Type} {f : α → List Value} {s : Nat} {w : World} {B b : Nat} {A : Option Addr} {n c m : Nat} {xs : List α}
end
theorem RVPost.ahead {w w2 w3 : World} {base g : Nat} {v : Value} {M : List VP} {V' : VolM} (hb : Below w.heap.size w w2) (h : RVPost w2 base g v M V' w3) : RVPost w base g v M V' w3 := by
  obtain ⟨v', M', h1, h2, h3⟩ := h
  exact ⟨v', M', h1, (Spare.of_over (rvA g v M) hb).trans h2 (fun _ _ h => h), fun j hj => (h3 j hj).imp id fun h => Nat.le_trans hb.size h⟩
end Go.Proofs.YtdgpbhdihhchgaaGreatDoor

namespace Go.Proofs.YtdgpbhdihhchgaaGreatDoor
set_option linter.all false
set_option maxRecDepth 100000
open Go.RowKit
set_option linter.unusedVariables false
theorem RVPost.next {w w2 w3 : World} {base g : Nat} {v v2 : Value} {M M2 : List VP} {V' V2 : VolM} (h : RVol w base g v V2 M) (h2 : Spare (rvA g v M) w w2) (h3 : ∀ j, rvA g v2 M2 j → rvA g v M j ∨ w.heap.size ≤ j) (k : RVPost w2 base g v2 M2 V' w3) : RVPost w base g v M V' w3 := by
  obtain ⟨v', M', k1, k2, k3⟩ := k
  refine ⟨v', M', k1, h2.trans k2 (fun j hj hr => (h3 j hr).resolve_right (by omega)), fun j hj => ?_⟩
  rcases k3 j hj with q | q
  · exact h3 j q
  · exact .inr (Nat.le_trans h2.size q)
end Go.Proofs.YtdgpbhdihhchgaaGreatDoor

namespace Go.Proofs.YtdgpbhdihhchgaaGreatDoor
set_option linter.all false
set_option maxRecDepth 100000
open Go.RowKit
set_option linter.unusedVariables false
theorem lay_eqV {L : List VNode} {n : Int} {B : List Int} {Z : List Bool} {x : VNode} (h : Rise L) (hx : vAt L n = some x) : vLay L n B Z = L.set (vIx L n) ⟨x.n, x.kind, x.par, x.name, B, Z⟩ := by
  obtain ⟨hi, hx'⟩ := List.getElem?_eq_some_iff.1 hx
  have hxn := (vAt_mem hx).2
  unfold vLay
  refine List.ext_getElem (by rw [List.length_map, List.length_set]) fun j h1 h2 => ?_
  have hj : j < L.length := by rw [List.length_map] at h1; exact h1
  rw [List.getElem_map, List.getElem_set]
  by_cases e : vIx L n = j
  · subst e
    rw [if_pos rfl, hx', if_pos hxn]
  · rw [if_neg e, if_neg]
    intro hn
    have hr := List.pairwise_iff_getElem.1 h
    rcases Nat.lt_or_gt_of_ne e with k | k
    · have := hr _ _ hi hj k
      rw [hx', hxn, hn] at this
      omega
    · have := hr _ _ hj hi k
      rw [hx', hxn, hn] at this
      omega
/-- what a file's new bytes come to -/
theorem RVol.laid {w w3 w5 : World} {base g q c b : Nat} {V V' : VolM} {M : List VP} {n : Int} {x : VNode} {B : List Int} {Z : List Bool} {vB vZ : Value} (D : RVol w base g (.slice (some ⟨q, 0, none⟩) V.l.length c) V M) (hx : vAt V.l n = some x) (hk : x.kind = 2) (hm : vIx V.l n < M.length)
    (hb : Below w.heap.size w w3) (hd : RDat w3 w.heap.size b vB vZ B Z) (hbase : base ≤ w.heap.size)
    (ho : OwnS vpCells 5 98 w5 base (.slice (some ⟨q, 0, none⟩) V.l.length c) (M.set (vIx V.l n) (⟨x.n, x.kind, x.par, x.name, B, Z⟩, some (b, vB, vZ)))) (hO : Only q w3 w5)
    (hV : V' = ⟨V.quota, V.last, vLay V.l n B Z⟩) (ok : Vok V') : RVPost w base g (.slice (some ⟨q, 0, none⟩) V.l.length c) M V' w5 := by
  subst hV
  have hq : (Value.slice (some ⟨q, 0, none⟩) V.l.length c).ownBlock = some q := rfl
  have hqw : q < w.heap.size := D.row.lt hq
  have hne : ∀ j, rdS b vB vZ j → j ≠ q := fun j hj e => by have := hd.set_ge j hj; omega
  refine D.turned ((Spare.of_over (rvS g (.slice (some ⟨q, 0, none⟩) V.l.length c)) hb).trans (Spare.of_only hO) (fun j _ e => by rw [e]; exact .inr hq)) ((D.blk.over hb).only hO fun e => D.own_ne (by rw [e]; exact hq)) ho (Wander.refl _ _) ?_ (fun y hy => ?_) ok D.big
  · show (M.set _ _).map (·.1) = vLay V.l n B Z
    rw [lay_eqV D.ok.rise hx, List.map_set, D.is]
  · rcases List.mem_or_eq_of_mem_set hy with h | h
    · exact .inl ⟨y, h, rfl, rfl, rfl, rfl⟩
    · subst h
      exact .inr (.inr ⟨hk, b, vB, vZ, rfl, ⟨Nat.le_trans hbase hd.ge, (hd.spare (Spare.of_only hO) hne).blk, (hd.spare (Spare.of_only hO) hne).rowB.mono hbase, (hd.spare (Spare.of_only hO) hne).rowZ.mono hbase, hd.len, hd.small, hd.byte⟩, fun j hj => hd.set_ge j hj⟩)
end Go.Proofs.YtdgpbhdihhchgaaGreatDoor

namespace Go.Proofs.YtdgpbhdihhchgaaGreatDoor
set_option linter.all false
set_option maxRecDepth 100000
open Go.RowKit
/-- the row that Put fills, behind k rounds -/
def putRow (n : Int) (s k : Nat) : List Int := (le n s).take k ++ List.replicate (s - k) 0
end Go.Proofs.YtdgpbhdihhchgaaGreatDoor

namespace Go.Proofs.YtdgpbhdihhchgaaGreatDoor
set_option linter.all false
set_option maxRecDepth 100000
open Go.RowKit
theorem Save.over {w w' w2 : World} {g : Nat} (a : Save g w w') (hb : Below w'.heap.size w' w2) : Save g w w2 := a.trans (Save.of_below hb g)
end Go.Proofs.YtdgpbhdihhchgaaGreatDoor

namespace Go.Proofs.YtdgpbhdihhchgaaGreatDoor
set_option linter.all false
set_option maxRecDepth 100000
open Go.RowKit
theorem results_cell_slot {P : Program} {fn : Func} {p q : Tmp} {ty : TypeId} (h : fn.results = #[.cell p ty, .tmp q]) (tmps : Array Value) (w : World) (g : Nat) (t : TypeId) (cs : Array Value) (fr : Nat × Nat) (d : TypeDesc)
    (hp : tmps.getD p undef = .pointer (some ⟨g, 0, none⟩)) (hg : w.heap[g]? = some (.cells cs t fr))
    (hu : P.underlying ty = some d) (hd : (match d with | .struct _ | .array _ _ => true | _ => false) = true) (hi : (P.info? ty).map (·.size) = some cs.size) {v : Value} (hv : tmps.getD q undef = v) :
    (results fn tmps).run P w = .ok (.tuple #[.agg cs, v]) w := by
  have hp' : tmps[p]?.getD undef = .pointer (some ⟨g, 0, none⟩) := by simpa using hp
  have hv' : tmps[q]?.getD undef = v := by simpa using hv
  simp [results, h, hp', hv', asAddr, run_loadVar_row w g t ty cs fr d hg hu hd hi]
end Go.Proofs.YtdgpbhdihhchgaaGreatDoor

namespace Go.Proofs.YtdgpbhdihhchgaaGreatDoor
set_option linter.all false
set_option maxRecDepth 100000
open Go.RowKit
set_option linter.unusedVariables false
theorem zero_stat : (Tryz.prog.info? 34).map (fun i => (i.zero, i.size)) = some (some (.agg ([.int .u8 0, .int .i64 0] : List Value).toArray), 2) := by kernel_rfl
theorem size_stat : (Tryz.prog.info? 34).map (·.size) = some 2 := by kernel_rfl
end Go.Proofs.YtdgpbhdihhchgaaGreatDoor

namespace Go.Proofs.YtdgpbhdihhchgaaGreatDoor
set_option linter.all false
set_option maxRecDepth 100000
open Go.RowKit
set_option linter.unusedVariables false
def I64V (x : Int) : Prop := -9223372036854775808 ≤ x ∧ x ≤ 9223372036854775807
def ptrV (q : Nat) : Value := .pointer (some ⟨q, 0, none⟩)
/-- a node as a directory tells it -/
def entCells (x : VNode) : List Value := [strV x.name, .int .u8 x.kind, .int .i64 (x.B.length : Nat)]
theorem entCells_len (x : VNode) : (entCells x).length = 3 := rfl
/-- what turns the program's volume answers -/
def VTurn (is : World → Nat → Nat → VolM → (Nat → Prop) → Prop) (w : World) (b q : Nat) (S : Nat → Prop) (V' : VolM) (w' : World) : Prop :=
  ∃ S', is w' b q V' S' ∧ Spare S w w' ∧ ∀ j, S' j → S j ∨ w.heap.size ≤ j
structure VolI where
  /-- the tables that the program's words about texts stand on lie below b -/
  tb : Nat → World → Prop
  tbNext : ∀ {b : Nat} {w w' : World}, tb b w → Below b w w' → tb b w'
  tbUp : ∀ {b b' : Nat} {w : World}, tb b w → b ≤ b' → tb b' w
  /-- at q lies a volume V, made of the blocks S, all from base on -/
  is : World → Nat → Nat → VolM → (Nat → Prop) → Prop
  ge : ∀ {w : World} {b q : Nat} {V : VolM} {S : Nat → Prop}, is w b q V S → ∀ j, S j → b ≤ j ∧ j < w.heap.size
  ok : ∀ {w : World} {b q : Nat} {V : VolM} {S : Nat → Prop}, is w b q V S → Vok V ∧ V.last ≤ 1048576
  keep : ∀ {w w' : World} {b q : Nat} {V : VolM} {S S' : Nat → Prop}, is w b q V S → Spare S' w w' → (∀ j, S j → ¬ S' j) → is w' b q V S
  mono : ∀ {w : World} {b b' q : Nat} {V : VolM} {S : Nat → Prop}, is w b q V S → b' ≤ b → is w b' q V S
  new : ∀ {w : World} {b : Nat} {k : Int}, tb b w → b ≤ w.heap.size → I64V k → Calls Tryz.prog 37 #[.int .i64 k] w fun e w' => (vNewE k ≠ 0 → e = .returned (.tuple #[.pointer none, .int .i64 (vNewE k)]) ∧ Below w.heap.size w w') ∧
    (vNewE k = 0 → ∃ q S, e = .returned (.tuple #[ptrV q, .int .i64 0]) ∧ is w' w.heap.size q (vNew k) S ∧ Below w.heap.size w w')
  find : ∀ {w : World} {b q : Nat} {V : VolM} {S : Nat → Prop}, is w b q V S → tb b w → b ≤ w.heap.size → ∀ {s : NameL}, s.length ≤ 1048576 → Calls Tryz.prog 13 #[ptrV q, strV s] w fun e w' => e = .returned (.tuple #[.int .i64 (vFind V.l s).1, .int .i64 (vFind V.l s).2]) ∧ Below w.heap.size w w'
  make : ∀ {w : World} {b q : Nat} {V : VolM} {S : Nat → Prop}, is w b q V S → tb b w → b ≤ w.heap.size → V.last < 1048576 → ∀ {s : NameL} {k : Int}, s.length ≤ 1048576 → Calls Tryz.prog 28 #[ptrV q, strV s, .int .u8 k] w fun e w' => e = .returned (.tuple #[.int .i64 (vMakeN V s k), .int .i64 (vMakeE V s k)]) ∧ VTurn is w b q S (vMake V s k) w'
  remove : ∀ {w : World} {b q : Nat} {V : VolM} {S : Nat → Prop}, is w b q V S → tb b w → b ≤ w.heap.size → ∀ {n : Int}, I64V n → Calls Tryz.prog 29 #[ptrV q, .int .i64 n] w fun e w' => e = .returned (.int .i64 (vRemE V.l n)) ∧ VTurn is w b q S (vRem V n) w'
  move : ∀ {w : World} {b q : Nat} {V : VolM} {S : Nat → Prop}, is w b q V S → tb b w → b ≤ w.heap.size → ∀ {n : Int} {s : NameL} {o : Bool}, I64V n → s.length ≤ 1048576 → Calls Tryz.prog 26 #[ptrV q, .int .i64 n, strV s, .bool o] w fun e w' => e = .returned (.int .i64 (vMoveE V.l n s o)) ∧ VTurn is w b q S (vMove V n s o) w'
  write : ∀ {w : World} {b q : Nat} {V : VolM} {S : Nat → Prop}, is w b q V S → tb b w → b ≤ w.heap.size → ∀ {n a : Int} {A : Option Addr} {m c : Nat} {xs : List Int}, I64V n → I64V a → Holds w w.heap.size A m c xs → (0 < m → ∀ x, A = some x → ¬ S x.block) → c ≤ 140737488355328 → Calls Tryz.prog 30 #[ptrV q, .int .i64 n, .int .i64 a, .slice A m c] w fun e w' => e = .returned (.int .i64 (vWrE V n a xs)) ∧ VTurn is w b q S (vWr V n a xs) w'
  cut : ∀ {w : World} {b q : Nat} {V : VolM} {S : Nat → Prop}, is w b q V S → tb b w → b ≤ w.heap.size → ∀ {n s : Int}, I64V n → I64V s → Calls Tryz.prog 31 #[ptrV q, .int .i64 n, .int .i64 s] w fun e w' => e = .returned (.int .i64 (vCutE V n s)) ∧ VTurn is w b q S (vCut V n s) w'
  stat : ∀ {w : World} {b q : Nat} {V : VolM} {S : Nat → Prop}, is w b q V S → ∀ {n : Int}, I64V n → Calls Tryz.prog 15 #[ptrV q, .int .i64 n] w fun e w' => e = .returned (.tuple #[.agg #[.int .u8 (vKind V.l n), .int .i64 (vSize V.l n : Nat)], .int .i64 (vStatE V.l n)]) ∧ Below w.heap.size w w'
  path : ∀ {w : World} {b q : Nat} {V : VolM} {S : Nat → Prop}, is w b q V S → tb b w → b ≤ w.heap.size → ∀ {n : Int}, I64V n → Calls Tryz.prog 17 #[ptrV q, .int .i64 n] w fun e w' => e = .returned (.tuple #[strV (vPath V.l n), .int .i64 (vPathE V.l n)]) ∧ Below w.heap.size w w'
  read : ∀ {w : World} {b q : Nat} {V : VolM} {S : Nat → Prop}, is w b q V S → ∀ {n a k : Int}, I64V n → I64V a → I64V k → Calls Tryz.prog 25 #[ptrV q, .int .i64 n, .int .i64 a, .int .i64 k] w fun e w' => ∃ u, e = .returned (.tuple #[u, .int .i64 (vReadE V.l n a k)]) ∧ Own w' w.heap.size u (vRead V.l n a k) ∧ Below w.heap.size w w'
  list : ∀ {w : World} {b q : Nat} {V : VolM} {S : Nat → Prop}, is w b q V S → tb b w → b ≤ w.heap.size → ∀ {n m : Int} {p a : NameL}, I64V n → I64V m → p.length ≤ 1048576 → a.length ≤ 1048576 → Calls Tryz.prog 19 #[ptrV q, .int .i64 n, strV p, strV a, .int .i64 m] w fun e w' => ∃ u, e = .returned (.tuple #[u, .bool (vMore V.l n p a m), .int .i64 (vListE V.l n p a m)]) ∧ OwnS entCells 3 49 w' w.heap.size u (vList V.l n p a m) ∧ Below w.heap.size w w'
  used : ∀ {w : World} {b q : Nat} {V : VolM} {S : Nat → Prop}, is w b q V S → tb b w → Calls Tryz.prog 24 #[ptrV q] w fun e w' => e = .returned (.int .i64 (vUsed V.l : Nat)) ∧ Below w.heap.size w w'
  nodes : ∀ {w : World} {b q : Nat} {V : VolM} {S : Nat → Prop}, is w b q V S → tb b w → Calls Tryz.prog 22 #[ptrV q] w fun e w' => ∃ u, e = .returned u ∧ OwnF (Value.int .i64) 3 w' w.heap.size u (vNodes V.l) ∧ Below w.heap.size w w'
/-- the program's volume and the document's, apart from one another -/
structure TwoV (I : VolI) (w : World) (b q : Nat) (S : Nat → Prop) (g : Nat) (v : Value) (V V' : VolM) (M : List VP) : Prop where
  x : I.is w b q V S
  r : RVol w b g v V' M
  off : ∀ j, S j → ¬ rvA g v M j
  hb : b ≤ w.heap.size
  tb : I.tb b w
section
variable {I : VolI} {w w' : World} {b q g : Nat} {S S' : Nat → Prop} {v v' : Value} {V V' V2 : VolM} {M M' : List VP}
theorem VolI.below (I : VolI) (h : I.is w b q V S) (hb : Below w.heap.size w w') : I.is w' b q V S := I.keep h (Spare.of_over (fun _ => False) hb) fun _ _ h => h
theorem TwoV.below (h : TwoV I w b q S g v V V' M) (hb : Below w.heap.size w w') : TwoV I w' b q S g v V V' M :=
  ⟨I.below h.x hb, h.r.below hb, h.off, Nat.le_trans h.hb hb.size, I.tbNext h.tb (hb.mono h.hb)⟩
theorem TwoV.left (h : TwoV I w b q S g v V V' M) (k : VTurn I.is w b q S V2 w') : ∃ S', TwoV I w' b q S' g v V2 V' M := by
  obtain ⟨S', x, a, n⟩ := k
  refine ⟨S', x, h.r.spare a fun j hj hs => h.off j hs hj, fun j hj hr => ?_, Nat.le_trans h.hb a.size, I.tbNext h.tb (a.below (fun j hj => (I.ge h.x j hj).1) h.hb)⟩
  rcases n j hj with h1 | h1
  · exact h.off j h1 hr
  · have := (h.r.set_ge j hr).2
    omega
theorem TwoV.right (h : TwoV I w b q S g v V V' M) (k : RVPost w b g v M V2 w') : ∃ v' M', TwoV I w' b q S g v' V V2 M' := by
  obtain ⟨v', M', r, a, n⟩ := k
  refine ⟨v', M', I.keep h.x a h.off, r, fun j hj hr => ?_, Nat.le_trans h.hb a.size, I.tbNext h.tb (a.below (fun j hj => (h.r.set_ge j hj).1) h.hb)⟩
  rcases n j hr with h1 | h1
  · exact h.off j hj h1
  · have := (I.ge h.x j hj).2
    omega
end
end Go.Proofs.YtdgpbhdihhchgaaGreatDoor

namespace Go.Proofs.YtdgpbhdihhchgaaGreatDoor
set_option linter.all false
open Go.RowKit Go.ChangeShapes Go.WideShapes
set_option linter.unusedVariables false
set_option maxRecDepth 100000
/-- an act: what, which name, its new one, its number -/
structure DActV where
  act : Int
  name : ByteArray
  nto : ByteArray
  num : Int
deriving Inhabited
def dactCells (a : DActV) : List Value := [.int .i64 a.act, .string a.name, .string a.nto, .int .i64 a.num]
/-- its numbers are numbers, its names are at most so long -/
structure DActOk (R : Nat) (a : DActV) : Prop where
  act : -9223372036854775808 ≤ a.act ∧ a.act ≤ 9223372036854775807
  num : -9223372036854775808 ≤ a.num ∧ a.num ≤ 9223372036854775807
  name : a.name.size ≤ R
  nto : a.nto.size ≤ R
/-- the slice value '.slice A n c' holds acts, in memory below block B -/
structure LDAct (R : Nat) (w : World) (B : Nat) (A : Option Addr) (n c : Nat) (l : List DActV) : Prop where
  row : HoldsS dactCells 4 w B A n c l
  each : ∀ x ∈ l, DActOk R x
section
variable {R : Nat} {w w' : World} {B B' : Nat} {A : Option Addr} {n c : Nat} {l : List DActV}
theorem LDAct.below (h : LDAct R w B A n c l) (hb : Below B w w') : LDAct R w' B A n c l := ⟨h.row.below hb, h.each⟩
theorem LDAct.mono (h : LDAct R w B A n c l) (hB : B ≤ B') : LDAct R w B' A n c l := ⟨h.row.mono hB, h.each⟩
theorem LDAct.over (h : LDAct R w w.heap.size A n c l) (hb : Below w.heap.size w w') : LDAct R w' w'.heap.size A n c l := (h.below hb).mono hb.size
theorem LDAct.len (h : LDAct R w B A n c l) : l.length = n := h.row.len
/-- the cells of one act -/
theorem LDAct.at (h : LDAct R w B A n c l) {i : Nat} (hi : i < n) : ∃ b off x, A = some ⟨b, off, none⟩ ∧ b < B ∧ l[i]? = some x ∧ DActOk R x ∧ w.rangeAt b (off + i * 4) (dactCells x) := by
  obtain ⟨b, off, e, hb, hc⟩ := h.row.cells (by omega)
  have hl := h.row.len
  have hx : l[i]? = some l[i] := List.getElem?_eq_getElem (by omega)
  exact ⟨b, off, l[i], e, hb, hx, h.each _ (List.getElem_mem _), h.row.range e hi hx⟩
end
section
variable {H : Type} {enc : TypeId × Value → H} {W : World} {base : Nat} {v : Value} {d : DataW H} {p : List MemPlace}
end
end Go.Proofs.YtdgpbhdihhchgaaGreatDoor

namespace Go.Proofs.YtdgpbhdihhchgaaGreatDoor
set_option linter.all false
set_option maxRecDepth 100000
open Go.RowKit
set_option linter.unusedVariables false
def I64D (x : Int) : Prop := -9223372036854775808 ≤ x ∧ x ≤ 9223372036854775807
def ptrD (q : Nat) : Value := .pointer (some ⟨q, 0, none⟩)
/-- what turns the program's directory answers -/
def DTurn (is : World → Nat → Nat → List DItem → (Nat → Prop) → Prop) (w : World) (b q : Nat) (S : Nat → Prop) (E : Int) (L' : List DItem) (e : Ending) (w' : World) : Prop :=
  e = .returned (.int .i64 E) ∧ ∃ S', is w' b q L' S' ∧ Spare S w w' ∧ ∀ j, S' j → S j ∨ w.heap.size ≤ j
section
variable {w w' : World} {b q g : Nat} {S S' : Nat → Prop} {v v' : Value} {L L' M M' : List DItem}
end
section
variable {P : Program} {ops : Array Oper} {md : Region.Mode} {S S' : World → Prop} {Q : Exit → Act → World → Prop}
end
end Go.Proofs.YtdgpbhdihhchgaaGreatDoor

namespace Go.Proofs.YtdgpbhdihhchgaaGreatDoor
set_option linter.all false
set_option maxRecDepth 100000
open Go.RowKit
set_option linter.unusedVariables false
/-- names that are answered, as Texts wants them -/
def txtL (xs : List ByteArray) : List (List UInt8) := xs.map fun b => b.data.toList
theorem txt_cells (xs : List ByteArray) : xs.flatMap txtCells = (txtL xs).map strV := by
  induction xs with
  | nil => rfl
  | cons x xs ih =>
    rw [List.flatMap_cons, ih]
    rfl
theorem OwnS.txts {e : TypeId} {w : World} {base : Nat} {v : Value} {xs : List ByteArray} (h : OwnS txtCells 1 e w base v xs) : OwnF strV e w base v (txtL xs) := by
  unfold OwnS at h
  unfold OwnF
  rw [← txt_cells]
  show w.ownsRow base e 1 v (xs.map _).length _
  rw [List.length_map]
  exact h
end Go.Proofs.YtdgpbhdihhchgaaGreatDoor

namespace Go.Proofs.YtdgpbhdihhchgaaGreatDoor
set_option linter.all false
open Go.RowKit
set_option linter.unusedVariables false
/-- a name with small letters -/
def foldT (s : ByteArray) : ByteArray := ⟨(foldB s.data.toList).toArray⟩
theorem foldT_list (s : ByteArray) : (foldT s).data.toList = foldB s.data.toList := rfl
section
variable {L : List DItem} {s t u : ByteArray} {n : Int}
end
section
variable {L : List DItem} {i : Nat}
end
end Go.Proofs.YtdgpbhdihhchgaaGreatDoor

namespace Go.Proofs.YtdgpbhdihhchgaaGreatDoor
set_option linter.all false
set_option maxRecDepth 100000
open Go.RowKit
set_option linter.unusedVariables false
set_option maxHeartbeats 4000000 in
theorem Search_any (w : World) (F : Nat) (hent : ∀ (args : Array Value) (w : World), (callFunc F args).run Tryz.prog w = .ok (.enter F args) w) (x y : Value) (n k : Nat) (p : Nat → Bool) (hk : k ≤ n) (hn : n ≤ 4611686018427387903)
    (h0 : ∀ i, i < k → p i = false) (h1 : ∀ i, k ≤ i → i < n → p i = true)
    (hf : ∀ w1 i, Below w.heap.size w w1 → i < n → Calls Tryz.prog F #[.int .i64 (i : Nat), x, y] w1 fun e w' => e = .returned (.bool (p i)) ∧ Below w1.heap.size w1 w') :
    Calls Tryz.prog 144 #[.int .i64 (n : Nat), .func (.func F) #[] #[x, y]] w fun e w' => e = .returned (.int .i64 (k : Nat)) ∧ Below w.heap.size w w' := by
  have HF := Lib.hid hf
  have H0 := Lib.hid h0
  have H1 := Lib.hid h1
  clear hf h0 h1
  go_enter Tryz.func144, Tryz.ntmps144
  go_wp2_with fail
  go_loopw [5, 6, 7] (fun I J _ wr => ∃ i j : Nat, i ≤ k ∧ k ≤ j ∧ j ≤ n ∧ I = .int .i64 (i : Nat) ∧ J = .int .i64 (j : Nat) ∧ Hid (Below w.heap.size w wr)) (fun I J _ _ => (intOf J).toNat - (intOf I).toNat)
  case atStart => exact ⟨0, n, Nat.zero_le _, hk, Nat.le_refl _, rfl, rfl, Below.refl _ _⟩
  case round =>
    obtain ⟨i, j, hi, hj, hjn, rfl, rfl, LR⟩ := hrel
    by_cases hlt : i < j
    · obtain ⟨m, hm⟩ : ∃ m, m = (i + j) / 2 := ⟨_, rfl⟩
      have hadd : IntKind.i64.wrap ((i : Int) + (j : Int)) = (i : Int) + (j : Int) := by rw [IntKind.wrap_i64]; omega
      have hcv : IntKind.u64.wrap ((i : Int) + (j : Int)) = (i : Int) + (j : Int) := by rw [IntKind.wrap_u64]; omega
      have hsh : ((i : Int) + (j : Int)) / 2 = (m : Int) := by omega
      have him : i ≤ m := by omega
      have hmj : m < j := by omega
      have CF := Lib.hid (HF.out wr m LR.out (by omega))
      obtain ⟨z, hz⟩ : ∃ z, z = p m := ⟨_, rfl⟩
      rw [← hz] at CF
      have HZ := Lib.hid hz
      clear hz hm
      go_wp2_with fail
      refine CF.out.mono ?_
      rintro e w1 ⟨rfl, l1⟩
      have L1 := Lib.hid (LR.out.trans (l1.mono LR.out.size))
      clear l1 CF
      cases z with
      | false =>
        go_wp2_with fail
        go_roundw
        case rel =>
          refine ⟨m + 1, j, ?_, hj, hjn, by go_num, rfl, L1⟩
          rcases Nat.lt_or_ge m k with h | h
          · exact h
          · have := H1.out m h (by omega)
            rw [← HZ.out] at this
            cases this
        case measure => simp [intOf]; omega
      | true =>
        go_wp2_with fail
        go_roundw
        case rel =>
          refine ⟨i, m, hi, ?_, by omega, rfl, rfl, L1⟩
          rcases Nat.lt_or_ge m k with h | h
          · have := H0.out m h
            rw [← HZ.out] at this
            cases this
          · exact h
        case measure => simp [intOf]; omega
    · obtain rfl : i = k := by omega
      obtain rfl : j = i := by omega
      go_wp2_with fail
      go_ret
      exact ⟨rfl, LR.out⟩
end Go.Proofs.YtdgpbhdihhchgaaGreatDoor

namespace Go.Proofs.YtdgpbhdihhchgaaGreatDoor
set_option linter.all false
set_option maxRecDepth 100000
open Go.RowKit
set_option linter.unusedVariables false
/-- the tables of texts lie below base -/
def TabsD (base : Nat) (w : World) : Prop := ∀ w', Below base w w' → Tabs w'
theorem TabsD.of {w : World} (h : Tabs w) : TabsD w.heap.size w := fun w' hb => h.below hb
theorem TabsD.next {base : Nat} {w w' : World} (h : TabsD base w) (hb : Below base w w') : TabsD base w' := fun w2 h2 => h w2 (hb.trans h2)
theorem TabsD.up {base b' : Nat} {w : World} (h : TabsD base w) (hb : base ≤ b') : TabsD b' w := fun w2 h2 => h w2 (h2.mono hb)
theorem TabsD.at {base : Nat} {w w' : World} (h : TabsD base w) (hb : Below w.heap.size w w') (hs : base ≤ w.heap.size) : Tabs w' := h w' (hb.mono hs)
theorem TabsD.tabs {base : Nat} {w : World} (h : TabsD base w) : Tabs w := h w (Below.refl _ _)
section
variable {P : Program} {ops : Array Oper} {S : World → Prop}
theorem yieldsIf_look {op : Oper} {a : Act} (hw : Region.wanted op (yielded ops a.tmps) = true) (T : TypeId) (m x : Operand) (ok : Bool) (ho : op.op = .lookup T m x ok) (u k : Value) (hm : a.eval m = u) (hx : a.eval x = k) {r : Value}
    (hr : ∀ w, S w → (Instr.lookup T u k ok).run P w = .ok r w) : YieldsIf P ops S op r a :=
  .inl ⟨hw, fun w hw' => by
    unfold execOp
    simp only [ho, hm, hx, Sem.run_bind, hr w hw', Result.andThen_ok]
    rfl⟩
end
/-- what the map tells of a name -/
def numD (D : DataW Unit) (s : ByteArray) : Int := match D.atKey (foldK s) (.lit (.int .i64 0)) with
  | .lit (.int .i64 c) => c
  | _ => 0
theorem numD_of {D : DataW Unit} {s : ByteArray} {c : Int} (h : D.atKey (foldK s) (.lit (.int .i64 0)) = .lit (.int .i64 c)) : numD D s = c := by
  unfold numD
  rw [h]
theorem dir_keyed : Maps.Keyed Tryz.prog 9 := Maps.string_keyed Tryz.underlying9
theorem dir_zero (w : World) : (zeroValue 3).run Tryz.prog w = .ok (.int .i64 0) w := by kernel_rfl
theorem dir_key {s : ByteArray} (hs : s.size ≤ 1048576) : keyOf Tryz.prog 9 (.string (foldT s)) = some (foldK s) := by
  have h1 : (foldT s).size ≤ maxLen := by
    rw [Lib.size_eq, foldT_list]
    unfold foldB maxLen
    rw [List.length_map, ← Lib.size_eq]
    omega
  have h2 := WideMaps.keyOf_string_mk (P := Tryz.prog) Tryz.underlying9 h1
  rw [foldT_list] at h2
  exact h2
/-- block q is the program's directory: its names in a row that v heads, its map in block m; all from base on -/
structure PDr (w : World) (base q : Nat) (v : Value) (m : Nat) (D : DataW Unit) (L : List DItem) : Prop where
  ge : base ≤ q
  gem : base ≤ m
  blk : Blk w q 138 [v, .map (some m)]
  row : OwnS txtCells 1 9 w base v (dNm L)
  is : MapIs D L
  map : w.ownsMap Tryz.prog 9 (plainElem Tryz.prog 3) m L.length D
  ok : Dok L
  small : L.length ≤ 4096
  text : ∀ x ∈ L, x.1.size ≤ 1048576
def pdrS (q m : Nat) (v : Value) : Nat → Prop := fun j => j = q ∨ j = m ∨ v.ownBlock = some j
theorem owns_same {P : Program} {kt : TypeId} {R : Value → Option (DataW Unit × List MemPlace)} {w w' : World} {m N : Nat} {D : DataW Unit} (h : w.ownsMap P kt R m N D) (e : w'.heap[m]? = w.heap[m]?) : w'.ownsMap P kt R m N D := by
  obtain ⟨es, clock, hb, r⟩ := h
  exact ⟨es, clock, e.trans hb, r⟩
section
variable {w w' : World} {base base' q m : Nat} {v : Value} {D : DataW Unit} {L : List DItem} {S : Nat → Prop}
theorem PDr.spare (h : PDr w base q v m D L) (a : Spare S w w') (hs : ∀ j, pdrS q m v j → ¬ S j) : PDr w' base q v m D L :=
  ⟨h.ge, h.gem, h.blk.spare a (hs q (.inl rfl)), h.row.sparS a fun i hi => hs i (.inr (.inr hi)), h.is, owns_same h.map (a.rest m h.map.lt (hs m (.inr (.inl rfl)))), h.ok, h.small, h.text⟩
theorem PDr.below (h : PDr w base q v m D L) (hb : Below w.heap.size w w') : PDr w' base q v m D L := h.spare (Spare.of_over (fun _ => False) hb) fun _ _ h => h
theorem PDr.mono (h : PDr w base q v m D L) (hb : base' ≤ base) : PDr w base' q v m D L := ⟨Nat.le_trans hb h.ge, Nat.le_trans hb h.gem, h.blk, h.row.mono hb, h.is, h.map, h.ok, h.small, h.text⟩
theorem PDr.set_lt (h : PDr w base q v m D L) : ∀ j, pdrS q m v j → base ≤ j ∧ j < w.heap.size := fun j hj => by
  rcases hj with rfl | rfl | hj
  · exact ⟨h.ge, h.blk.lt⟩
  · exact ⟨h.gem, h.map.lt⟩
  · exact ⟨(h.row.block hj).1, h.row.lt hj⟩
theorem PDr.c0 (h : PDr w base q v m D L) : w.cell? ⟨q, 0, none⟩ = some v := h.blk.cell 0
theorem PDr.c1 (h : PDr w base q v m D L) : w.cell? ⟨q, 1, none⟩ = some (.map (some m)) := h.blk.cell 1
theorem PDr.len (h : PDr w base q v m D L) : ∃ A c, v = .slice A L.length c := by
  rcases h.row.2 with ⟨h1, h2⟩ | ⟨g, cap, cur, h1, _⟩
  · rw [dNm_len] at h2
    exact ⟨none, 0, by rw [h1, h2]⟩
  · rw [dNm_len] at h1
    exact ⟨_, _, h1⟩
/-- what one name is, where it lies -/
theorem PDr.at (h : PDr w base q v m D L) {i : Nat} (hi : i < L.length) : ∃ g c, v = .slice (some ⟨g, 0, none⟩) L.length c ∧ L.length ≤ c ∧ c ≤ maxLen ∧ w.cell? ⟨g, i, none⟩ = some (.string L[i].1) := by
  have hn : (dNm L).length = L.length := dNm_len
  obtain ⟨A, n, c, rfl, hh⟩ := h.row.holds (by decide) txtCells_len
  rcases h.row.2 with ⟨h1, h2⟩ | ⟨g, cap, cur, h1, _, _, h3, h4, _⟩
  · omega
  · injection h1 with e1 e2 e3
    subst e1 e2 e3
    obtain ⟨b, off, e, _, hc⟩ := hh.cells (by omega)
    injection e with e
    injection e with e1 e2
    subst e1 e2
    have k0 := hc i _ (dNm_get hi) 0 _ rfl
    rw [Nat.zero_add, Nat.mul_one] at k0
    rw [hn] at h3 ⊢
    exact ⟨g, c, rfl, h3, h4, k0⟩
theorem PDr.look2 (h : PDr w base q v m D L) (s : ByteArray) (hs : s.size ≤ 1048576) : (Instr.lookup 136 (.map (some m)) (.string (foldT s)) true).run Tryz.prog w = .ok (.tuple #[.int .i64 (numD D s), .bool (dHas L s)]) w := by
  obtain ⟨u, ps, hrun, hu⟩ := h.map.look_ok dir_keyed Tryz.underlying136 (dir_zero w) (plainElem_int (H := Unit) Tryz.underlying3 (a := 0) (by decide)) (dir_key hs)
  obtain ⟨c, rfl, hc, _⟩ := plainElem_int_inv Tryz.underlying3 hu
  rw [hrun, h.is.has, numD_of (congrArg Prod.fst hc)]
theorem PDr.look1 (h : PDr w base q v m D L) (s : ByteArray) (hs : s.size ≤ 1048576) : (Instr.lookup 136 (.map (some m)) (.string (foldT s)) false).run Tryz.prog w = .ok (.int .i64 (numD D s)) w := by
  obtain ⟨u, ps, hrun, hu⟩ := h.map.lookup dir_keyed Tryz.underlying136 (dir_zero w) (plainElem_int (H := Unit) Tryz.underlying3 (a := 0) (by decide)) (dir_key hs)
  obtain ⟨c, rfl, hc, _⟩ := plainElem_int_inv Tryz.underlying3 hu
  rw [hrun, numD_of (congrArg Prod.fst hc)]
theorem PDr.num (h : PDr w base q v m D L) {s : ByteArray} (he : dFindE L s = 0) : numD D s = (dFind L s).2 := numD_of (h.is.num he)
end
/-! ### the words on texts, at the sizes of names -/
theorem Fold1_any (s : ByteArray) (w : World) (hs : s.size ≤ 1048576) (hT : Tabs w) : Calls Tryz.prog 94 #[.string s] w fun e w' => e = .returned (.string (foldT s)) ∧ Below w.heap.size w w' := Fold_any s w (by omega) hT
theorem Ahead1_any (s t : ByteArray) (w : World) (hs : s.size ≤ 1048576) (ht : t.size ≤ 1048576) (hT : Tabs w) : Calls Tryz.prog 146 #[.string s, .string t] w fun e w' => e = .returned (.bool (ahd s t)) ∧ Below w.heap.size w w' := Ahead_any s t w (by omega) (by omega) hT
theorem DText_any (s : ByteArray) (w : World) (hs : s.size ≤ 1048576) (hT : Tabs w) : Calls Tryz.prog 101 #[.string s] w fun e w' => e = .returned (.bool (isText s.data.toList)) ∧ Below w.heap.size w w' := by
  have c1 := Units_any s w (by omega) hT
  rw [← textErr_zero]
  obtain ⟨U, hU⟩ : ∃ U, U = unitsOfL s.data.toList := ⟨_, rfl⟩
  obtain ⟨E, hE⟩ : ∃ E, E = textErr s.data.toList := ⟨_, rfl⟩
  rw [← hU, ← hE] at c1
  rw [← hE]
  have C1 := Lib.hid c1
  clear c1 hU hE
  go_enter Tryz.func101, Tryz.ntmps101
  go_wp2_with fail
  refine C1.out.mono ?_
  rintro e w1 ⟨rfl, hb1⟩
  go_wp2
  go_ret
  exact ⟨rfl, hb1⟩
theorem DName_any (s : ByteArray) (w : World) (hs : s.size ≤ 1048576) (hT : Tabs w) : Calls Tryz.prog 92 #[.string s] w fun e w' => e = .returned (.bool (!dBad s)) ∧ Below w.heap.size w w' := by
  have hB : dBad s = (decide (s.size = 0) || !isText s.data.toList) := rfl
  have C1 := Lib.hid (DText_any s w hs hT)
  by_cases h0 : s.size = 0
  · rw [hB, decide_eq_true h0]
    have t0 : (s.toList == []) = true := by rw [empty_beq]; exact decide_eq_true h0
    have t1 : s.toList.isEmpty = true := by rw [empty_isEmpty]; exact decide_eq_true h0
    clear hB h0
    go_enter Tryz.func92, Tryz.ntmps92
    go_wp2_with fail
    go_ret
    exact ⟨rfl, Below.refl _ _⟩
  · have t0 : (s.toList == []) = false := by rw [empty_beq]; exact decide_eq_false h0
    have t1 : s.toList.isEmpty = false := by rw [empty_isEmpty]; exact decide_eq_false h0
    rw [hB, decide_eq_false h0, Bool.false_or, Bool.not_not]
    obtain ⟨b, hb⟩ : ∃ b, b = isText s.data.toList := ⟨_, rfl⟩
    rw [← hb] at C1 ⊢
    clear hB h0 hb
    go_enter Tryz.func92, Tryz.ntmps92
    go_wp2_with fail
    refine C1.out.mono ?_
    rintro e w1 ⟨rfl, l1⟩
    have L1 := Lib.hid l1
    clear l1 C1
    go_wp2_with fail
    go_ret
    exact ⟨rfl, L1.out⟩
theorem eql_map_nil (t k e : TypeId) (p : Option Nat) (h : Tryz.prog.underlying t = some (.map k e)) (w : World) : (binOp .eql t (.map p) (.map none)).run Tryz.prog w = .ok (.bool p.isNone) w := by
  have h1 : ∀ d, (Op.equalIn (d + 1) t (.map p) (.map none)).run Tryz.prog w = .ok p.isNone w := fun d => by
    cases p <;> simp [Op.equalIn, run_underlying h]
  simp only [binOp]
  simp [show Op.equal t (.map p) (.map none) = Op.equalIn (9999 + 1) t (.map p) (.map none) from rfl, h1 9999]
theorem DNone_any (w : World) (q m : Nat) (h : w.cell? ⟨q, 1, none⟩ = some (.map (some m))) : Calls Tryz.prog 91 #[.pointer (some ⟨q, 0, none⟩)] w fun e w' => e = .returned (.bool false) ∧ w = w' := by
  have hml : ∀ w, (binOp .eql 136 (.map (some m)) (.map none)).run Tryz.prog w = .ok (.bool false) w := fun w => eql_map_nil _ _ _ _ Tryz.underlying136 w
  go_enter Tryz.func91, Tryz.ntmps91
  go_wp2_with fail
  go_ret
  exact ⟨rfl, rfl⟩
theorem DLen_any (w : World) (q n c : Nat) (A : Option Addr) (h : w.cell? ⟨q, 0, none⟩ = some (.slice A n c)) : Calls Tryz.prog 73 #[.pointer (some ⟨q, 0, none⟩)] w fun e w' => e = .returned (.int .i64 (n : Nat)) ∧ w = w' := by
  go_enter Tryz.func73, Tryz.ntmps73
  go_wp2_with fail
  go_ret
  exact ⟨rfl, rfl⟩
theorem built_dir (m : Nat) : Tryz.prog.built 138 [(1, .map (some m))] = some ([.slice none 0 0, .map (some m)] : List Value).toArray := by kernel_rfl
theorem DNew_any (w : World) : Calls Tryz.prog 120 #[] w fun e w' => ∃ q m, e = .returned (.pointer (some ⟨q, 0, none⟩)) ∧ PDr w' w.heap.size q (.slice none 0 0) m (.map []) [] ∧ Below w.heap.size w w' := by
  have hmm := @run_makeMap Tryz.prog
  have L0 : Hid (Below w.heap.size w (w.alloc (.map #[] 0))) := (Below.refl _ _).alloc (Nat.le_refl _) _
  have M0 : Hid ((w.alloc (.map #[] 0)).ownsMap Tryz.prog 9 (plainElem (H := Unit) Tryz.prog 3) w.heap.size 0 (.map [])) := World.ownsMap_made _ _ _ _
  have Z0 : Hid (w.heap.size < (w.alloc (.map #[] 0)).heap.size) := by show _ < _; simp
  go_enter Tryz.func120, Tryz.ntmps120
  go_wp2_with (first
    | ((with_reducible show wpList _ _ _ (⟨some 2, _, _, _, _, _⟩ :: _) _ _); refine wpList_build_blk rfl _ _ rfl [.slice none 0 0, .map (some w.heap.size)] (built_dir _) ?_)
    | ((with_reducible show wpList _ _ _ (⟨some 3, _, _, _, _, _⟩ :: _) _ _); refine wpList_box_blk rfl _ (.tmp 2) rfl [.slice none 0 0, .map (some w.heap.size)] rfl ?_; intro q w1 hg1 hg2 B1 L1)
    | fail)
  go_ret
  exact ⟨q, w.heap.size, rfl, ⟨Nat.le_trans (Nat.le_of_lt Z0.out) hg1, Nat.le_refl _, B1.out, OwnS.nil _ _ _ _ _, MapIs.nil, owns_same M0.out (L1.out.block _ Z0.out), Dok.nil, by decide, fun x h => by cases h⟩, L0.out.trans (L1.out.mono L0.out.size)⟩
set_option maxHeartbeats 4000000 in
theorem DHas_any (w : World) (base q : Nat) (v : Value) (m : Nat) (D : DataW Unit) (L : List DItem) (d : PDr w base q v m D L) (hb : base ≤ w.heap.size) (htb : TabsD base w) (s : ByteArray) (hs : s.size ≤ 1048576) :
    Calls Tryz.prog 93 #[.pointer (some ⟨q, 0, none⟩), .string s] w fun e w' => e = .returned (.bool (dHas L s)) ∧ Below w.heap.size w w' := by
  go_enter Tryz.func93, Tryz.ntmps93
  go_upto_region 1 with fail
  refine wp_region_held (S := fun w' => PDr w' base q v m D L) (by kernel_rfl) ?_
  change wpAnyH _ _ _ _ _ _ _ _ w.drew
  have Sr0 : Hid (PDr w.drew base q v m D L) := d.below (Below.refl _ _).drew
  have br0 : Hid (Below w.heap.size w w.drew) := (Below.refl _ _).drew
  refine wpAnyH_take (i := 0) (v := _) rfl (by kernel_rfl) (by kernel_rfl) (by kernel_rfl) (fun _ _ _ h => h) (yieldsIf_move (by kernel_rfl) (.tmp 0) rfl (.pointer (some ⟨q, 0, none⟩)) (by kernel_rfl)) Sr0.out ?_
  refine wpAnyH_take (i := 1) (v := _) rfl (by kernel_rfl) (by kernel_rfl) (by kernel_rfl) (fun _ _ _ h => h) (yieldsIf_nil (by kernel_rfl) (.tmp 8) rfl ⟨q, 0, none⟩ (by kernel_rfl)) Sr0.out ?_
  refine wpAnyH_take (i := 2) (v := _) rfl (by kernel_rfl) (by kernel_rfl) (by kernel_rfl) (fun _ _ _ h => h) (yieldsIf_fld (by kernel_rfl) _ (.tmp 9) 1 rfl (.pointer (some ⟨q, 0, none⟩)) (.pointer (some ⟨q, 1, none⟩)) (by kernel_rfl) (fun w => by go_simp)) Sr0.out ?_
  refine wpAnyH_take (i := 3) (v := _) rfl (by kernel_rfl) (by kernel_rfl) (by kernel_rfl) (fun _ _ _ h => h) (yieldsIf_load_one (by kernel_rfl) _ (.tmp 10) rfl q (1) (by kernel_rfl) (.map (some m)) (fun _ h => h.c1) _ Tryz.underlying136 rfl) Sr0.out ?_
  refine wpAnyH_take (i := 4) (v := _) rfl (by kernel_rfl) (by kernel_rfl) (by kernel_rfl) (fun _ _ _ h => h) (yieldsIf_move (by kernel_rfl) (.tmp 1) rfl (.string s) (by kernel_rfl)) Sr0.out ?_
  refine wpAnyH_one 5 _ (by kernel_rfl) rfl fun K hK => ?_
  go_simp
  refine (Fold1_any s _ hs (htb.at br0.out hb)).mono ?_
  rintro e vr1 ⟨rfl, l1⟩
  have Sr1 : Hid (PDr vr1 base q v m D L) := PDr.below Sr0.out l1
  have br1 : Hid (Below w.heap.size w vr1) := Below.trans br0.out (l1.mono (Below.size br0.out))
  refine hK _ _ Sr1.out ?_
  clear hK K l1
  refine wpAnyH_take (i := 6) (v := .tuple #[.int .i64 (numD D s), .bool (dHas L s)]) rfl (by kernel_rfl) (by kernel_rfl) (by kernel_rfl) (fun _ _ _ h => h) (yieldsIf_look (by kernel_rfl) _ (.tmp 11) (.tmp 13) true rfl (.map (some m)) (.string (foldT s)) (by kernel_rfl) (by kernel_rfl) (fun w' h => h.look2 s hs)) Sr1.out ?_
  refine wpAnyH_take (i := 7) (v := _) rfl (by kernel_rfl) (by kernel_rfl) (by kernel_rfl) (fun _ _ _ h => h) (yieldsIf_move (by kernel_rfl) (.tmp 14) rfl (.tuple #[.int .i64 (numD D s), .bool (dHas L s)]) (by kernel_rfl)) Sr1.out ?_
  refine wpAnyH_take (i := 8) (v := .int .i64 (numD D s)) rfl (by kernel_rfl) (by kernel_rfl) (by kernel_rfl) (fun _ _ _ h => h) (.inl ⟨by kernel_rfl, fun w _ => by go_simp⟩) Sr1.out ?_
  refine wpAnyH_take (i := 9) (v := .bool (dHas L s)) rfl (by kernel_rfl) (by kernel_rfl) (by kernel_rfl) (fun _ _ _ h => h) (.inl ⟨by kernel_rfl, fun w _ => by go_simp⟩) Sr1.out ?_
  refine wpAnyH_take (i := 10) (v := _) rfl (by kernel_rfl) (by kernel_rfl) (by kernel_rfl) (fun _ _ _ h => h) (yieldsIf_asg (by kernel_rfl) (.tmp 15) rfl (.int .i64 (numD D s)) (by kernel_rfl)) Sr1.out ?_
  refine wpAnyH_take (i := 11) (v := _) rfl (by kernel_rfl) (by kernel_rfl) (by kernel_rfl) (fun _ _ _ h => h) (yieldsIf_asg (by kernel_rfl) (.tmp 16) rfl (.bool (dHas L s)) (by kernel_rfl)) Sr1.out ?_
  refine wpAnyH_done (by kernel_rfl) ?_ _
  go_wp2_with fail
  go_ret
  exact ⟨rfl, br1.out⟩
/-- what the closures look at -/
structure PlC (w : World) (p1 p2 q g n c i : Nat) (x s : ByteArray) : Prop where
  c1 : w.cell? ⟨p1, 0, none⟩ = some (.pointer (some ⟨q, 0, none⟩))
  c2 : w.cell? ⟨p2, 0, none⟩ = some (.string s)
  c3 : w.cell? ⟨q, 0, none⟩ = some (.slice (some ⟨g, 0, none⟩) n c)
  c4 : w.cell? ⟨g, i, none⟩ = some (.string x)
theorem PlC.below {w w' : World} {p1 p2 q g n c i : Nat} {x s : ByteArray} (h : PlC w p1 p2 q g n c i x s) (hb : Below w.heap.size w w') : PlC w' p1 p2 q g n c i x s :=
  ⟨(hb.cell (lt_of_cellD h.c1)).trans h.c1, (hb.cell (lt_of_cellD h.c2)).trans h.c2, (hb.cell (lt_of_cellD h.c3)).trans h.c3, (hb.cell (lt_of_cellD h.c4)).trans h.c4⟩
set_option maxHeartbeats 4000000 in
theorem placeC_any (w : World) (p1 p2 q g n c i : Nat) (x s : ByteArray) (h : PlC w p1 p2 q g n c i x s) (hi : i < n) (z : Bool) (ca : ∀ w', Below w.heap.size w w' → Calls Tryz.prog 146 #[.string x, .string s] w' fun e w2 => e = .returned (.bool z) ∧ Below w'.heap.size w' w2) :
    Calls Tryz.prog 145 #[.int .i64 (i : Nat), .pointer (some ⟨p1, 0, none⟩), .pointer (some ⟨p2, 0, none⟩)] w fun e w' => e = .returned (.bool (!z)) ∧ Below w.heap.size w w' := by
  have CA := Lib.hid ca
  clear ca
  go_enter Tryz.func145, Tryz.ntmps145
  go_upto_region 1 with fail
  refine wp_region_held (S := fun w' => PlC w' p1 p2 q g n c i x s) (by kernel_rfl) ?_
  change wpAnyH _ _ _ _ _ _ _ _ w.drew
  have Sr0 : Hid (PlC w.drew p1 p2 q g n c i x s) := h.below (Below.refl _ _).drew
  have br0 : Hid (Below w.heap.size w w.drew) := (Below.refl _ _).drew
  refine wpAnyH_take (i := 0) (v := _) rfl (by kernel_rfl) (by kernel_rfl) (by kernel_rfl) (fun _ _ _ h => h) (yieldsIf_load_one (by kernel_rfl) _ (.tmp 1) rfl p1 (0) (by kernel_rfl) (.pointer (some ⟨q, 0, none⟩)) (fun _ h => h.c1) _ Tryz.underlying84 rfl) Sr0.out ?_
  refine wpAnyH_take (i := 1) (v := _) rfl (by kernel_rfl) (by kernel_rfl) (by kernel_rfl) (fun _ _ _ h => h) (yieldsIf_nil (by kernel_rfl) (.tmp 5) rfl ⟨q, 0, none⟩ (by kernel_rfl)) Sr0.out ?_
  refine wpAnyH_take (i := 2) (v := _) rfl (by kernel_rfl) (by kernel_rfl) (by kernel_rfl) (fun _ _ _ h => h) (yieldsIf_fld (by kernel_rfl) _ (.tmp 6) 0 rfl (.pointer (some ⟨q, 0, none⟩)) (.pointer (some ⟨q, 0, none⟩)) (by kernel_rfl) (fun w => by go_simp)) Sr0.out ?_
  refine wpAnyH_take (i := 3) (v := _) rfl (by kernel_rfl) (by kernel_rfl) (by kernel_rfl) (fun _ _ _ h => h) (yieldsIf_load_one (by kernel_rfl) _ (.tmp 7) rfl q (0) (by kernel_rfl) (.slice (some ⟨g, 0, none⟩) n c) (fun _ h => h.c3) _ Tryz.underlying78 rfl) Sr0.out ?_
  refine wpAnyH_take (i := 4) (v := _) rfl (by kernel_rfl) (by kernel_rfl) (by kernel_rfl) (fun _ _ _ h => h) (yieldsIf_move (by kernel_rfl) (.tmp 0) rfl (.int .i64 (i : Nat)) (by kernel_rfl)) Sr0.out ?_
  refine wpAnyH_take (i := 5) (v := .pointer (some ⟨g, i, none⟩)) rfl (by kernel_rfl) (by kernel_rfl) (by kernel_rfl) (fun _ _ _ h => h) (.inl ⟨by kernel_rfl, fun w _ => by go_simp⟩) Sr0.out ?_
  refine wpAnyH_take (i := 6) (v := _) rfl (by kernel_rfl) (by kernel_rfl) (by kernel_rfl) (fun _ _ _ h => h) (yieldsIf_load_one (by kernel_rfl) _ (.tmp 10) rfl g (i) (by kernel_rfl) (.string x) (fun _ h => h.c4) _ Tryz.underlying9 rfl) Sr0.out ?_
  refine wpAnyH_take (i := 7) (v := _) rfl (by kernel_rfl) (by kernel_rfl) (by kernel_rfl) (fun _ _ _ h => h) (yieldsIf_load_one (by kernel_rfl) _ (.tmp 2) rfl p2 (0) (by kernel_rfl) (.string s) (fun _ h => h.c2) _ Tryz.underlying9 rfl) Sr0.out ?_
  refine wpAnyH_one 8 _ (by kernel_rfl) rfl fun K hK => ?_
  go_simp
  refine (CA.out _ br0.out).mono ?_
  rintro e vr1 ⟨rfl, l1⟩
  have Sr1 : Hid (PlC vr1 p1 p2 q g n c i x s) := Sr0.out.below l1
  have br1 : Hid (Below w.heap.size w vr1) := Below.trans br0.out (l1.mono (Below.size br0.out))
  refine hK _ _ Sr1.out ?_
  clear hK K l1
  refine wpAnyH_take (i := 9) (v := .bool (!z)) rfl (by kernel_rfl) (by kernel_rfl) (by kernel_rfl) (fun _ _ _ h => h) (.inl ⟨by kernel_rfl, fun w _ => by go_simp⟩) Sr1.out ?_
  refine wpAnyH_take (i := 10) (v := _) rfl (by kernel_rfl) (by kernel_rfl) (by kernel_rfl) (fun _ _ _ h => h) (yieldsIf_asg (by kernel_rfl) (.tmp 14) rfl (.bool (!z)) (by kernel_rfl)) Sr1.out ?_
  refine wpAnyH_done (by kernel_rfl) ?_ _
  go_wp2_with fail
  go_ret
  exact ⟨rfl, br1.out⟩
set_option maxHeartbeats 4000000 in
theorem fitC_any (w : World) (p1 p2 q g n c i : Nat) (x s : ByteArray) (h : PlC w p1 p2 q g n c i x s) (hi : i < n) (z : Bool) (ca : ∀ w', Below w.heap.size w w' → Calls Tryz.prog 146 #[.string s, .string x] w' fun e w2 => e = .returned (.bool z) ∧ Below w'.heap.size w' w2) :
    Calls Tryz.prog 154 #[.int .i64 (i : Nat), .pointer (some ⟨p2, 0, none⟩), .pointer (some ⟨p1, 0, none⟩)] w fun e w' => e = .returned (.bool z) ∧ Below w.heap.size w w' := by
  have CA := Lib.hid ca
  clear ca
  go_enter Tryz.func154, Tryz.ntmps154
  go_upto_region 1 with fail
  refine wp_region_held (S := fun w' => PlC w' p1 p2 q g n c i x s) (by kernel_rfl) ?_
  change wpAnyH _ _ _ _ _ _ _ _ w.drew
  have Sr0 : Hid (PlC w.drew p1 p2 q g n c i x s) := h.below (Below.refl _ _).drew
  have br0 : Hid (Below w.heap.size w w.drew) := (Below.refl _ _).drew
  refine wpAnyH_take (i := 0) (v := _) rfl (by kernel_rfl) (by kernel_rfl) (by kernel_rfl) (fun _ _ _ h => h) (yieldsIf_load_one (by kernel_rfl) _ (.tmp 1) rfl p2 (0) (by kernel_rfl) (.string s) (fun _ h => h.c2) _ Tryz.underlying9 rfl) Sr0.out ?_
  refine wpAnyH_take (i := 1) (v := _) rfl (by kernel_rfl) (by kernel_rfl) (by kernel_rfl) (fun _ _ _ h => h) (yieldsIf_load_one (by kernel_rfl) _ (.tmp 2) rfl p1 (0) (by kernel_rfl) (.pointer (some ⟨q, 0, none⟩)) (fun _ h => h.c1) _ Tryz.underlying84 rfl) Sr0.out ?_
  refine wpAnyH_take (i := 2) (v := _) rfl (by kernel_rfl) (by kernel_rfl) (by kernel_rfl) (fun _ _ _ h => h) (yieldsIf_nil (by kernel_rfl) (.tmp 6) rfl ⟨q, 0, none⟩ (by kernel_rfl)) Sr0.out ?_
  refine wpAnyH_take (i := 3) (v := _) rfl (by kernel_rfl) (by kernel_rfl) (by kernel_rfl) (fun _ _ _ h => h) (yieldsIf_fld (by kernel_rfl) _ (.tmp 7) 0 rfl (.pointer (some ⟨q, 0, none⟩)) (.pointer (some ⟨q, 0, none⟩)) (by kernel_rfl) (fun w => by go_simp)) Sr0.out ?_
  refine wpAnyH_take (i := 4) (v := _) rfl (by kernel_rfl) (by kernel_rfl) (by kernel_rfl) (fun _ _ _ h => h) (yieldsIf_load_one (by kernel_rfl) _ (.tmp 8) rfl q (0) (by kernel_rfl) (.slice (some ⟨g, 0, none⟩) n c) (fun _ h => h.c3) _ Tryz.underlying78 rfl) Sr0.out ?_
  refine wpAnyH_take (i := 5) (v := _) rfl (by kernel_rfl) (by kernel_rfl) (by kernel_rfl) (fun _ _ _ h => h) (yieldsIf_move (by kernel_rfl) (.tmp 0) rfl (.int .i64 (i : Nat)) (by kernel_rfl)) Sr0.out ?_
  refine wpAnyH_take (i := 6) (v := .pointer (some ⟨g, i, none⟩)) rfl (by kernel_rfl) (by kernel_rfl) (by kernel_rfl) (fun _ _ _ h => h) (.inl ⟨by kernel_rfl, fun w _ => by go_simp⟩) Sr0.out ?_
  refine wpAnyH_take (i := 7) (v := _) rfl (by kernel_rfl) (by kernel_rfl) (by kernel_rfl) (fun _ _ _ h => h) (yieldsIf_load_one (by kernel_rfl) _ (.tmp 11) rfl g (i) (by kernel_rfl) (.string x) (fun _ h => h.c4) _ Tryz.underlying9 rfl) Sr0.out ?_
  refine wpAnyH_one 8 _ (by kernel_rfl) rfl fun K hK => ?_
  go_simp
  refine (CA.out _ br0.out).mono ?_
  rintro e vr1 ⟨rfl, l1⟩
  have Sr1 : Hid (PlC vr1 p1 p2 q g n c i x s) := Sr0.out.below l1
  have br1 : Hid (Below w.heap.size w vr1) := Below.trans br0.out (l1.mono (Below.size br0.out))
  refine hK _ _ Sr1.out ?_
  clear hK K l1
  refine wpAnyH_take (i := 9) (v := _) rfl (by kernel_rfl) (by kernel_rfl) (by kernel_rfl) (fun _ _ _ h => h) (yieldsIf_asg (by kernel_rfl) (.tmp 13) rfl (.bool z) (by kernel_rfl)) Sr1.out ?_
  refine wpAnyH_done (by kernel_rfl) ?_ _
  go_wp2_with fail
  go_ret
  exact ⟨rfl, br1.out⟩
def pPl (L : List DItem) (s : ByteArray) (i : Nat) : Bool := match L[i]? with
  | some x => !ahd x.1 s
  | none => true
def pFr (L : List DItem) (a : ByteArray) (i : Nat) : Bool := match L[i]? with
  | some x => ahd a x.1
  | none => true
theorem pPl_eq {L : List DItem} {s : ByteArray} {i : Nat} (h : i < L.length) : pPl L s i = !ahd L[i].1 s := by
  unfold pPl
  rw [List.getElem?_eq_getElem h]
theorem pFr_eq {L : List DItem} {a : ByteArray} {i : Nat} (h : i < L.length) : pFr L a i = ahd a L[i].1 := by
  unfold pFr
  rw [List.getElem?_eq_getElem h]
/-- both searches, in any world behind the one at hand -/
theorem PDr.plS {w : World} {base q : Nat} {v : Value} {m : Nat} {D : DataW Unit} {L : List DItem} (d : PDr w base q v m D L) (hb : base ≤ w.heap.size) (htb : TabsD base w) (s : ByteArray) (hs : s.size ≤ 1048576) (w1 : World) (p1 p2 : Nat) (h1 : Below w.heap.size w w1)
    (e1 : w1.cell? ⟨p1, 0, none⟩ = some (.pointer (some ⟨q, 0, none⟩))) (e2 : w1.cell? ⟨p2, 0, none⟩ = some (.string s)) :
    Calls Tryz.prog 144 #[.int .i64 (L.length : Nat), .func (.func 145) #[] #[.pointer (some ⟨p1, 0, none⟩), .pointer (some ⟨p2, 0, none⟩)]] w1 fun e w' => e = .returned (.int .i64 (dPl L s : Nat)) ∧ Below w1.heap.size w1 w' := by
  have hsm := d.small
  refine Search_any w1 145 (enters_of Tryz.func145 (by kernel_rfl) rfl) _ _ L.length (dPl L s) (pPl L s) dPl_le (by omega) (fun i hi => ?_) (fun i hi hin => ?_) fun w2 i hb2 hi => ?_
  · have hl : i < L.length := Nat.lt_of_lt_of_le hi dPl_le
    rw [pPl_eq hl, dPl_low hi hl]
    rfl
  · rw [pPl_eq hin, dPl_high d.ok hi hin]
    rfl
  · have hb3 : Below w.heap.size w w2 := h1.trans (hb2.mono h1.size)
    obtain ⟨g, c, rfl, _, _, k1⟩ := (d.below hb3).at hi
    rw [pPl_eq hi]
    refine placeC_any w2 p1 p2 q g L.length c i L[i].1 s ⟨(hb2.cell (lt_of_cellD e1)).trans e1, (hb2.cell (lt_of_cellD e2)).trans e2, (d.below hb3).c0, k1⟩ hi _ fun w3 hb4 => ?_
    exact Ahead1_any _ _ w3 (d.text _ (List.getElem_mem hi)) hs (htb.at (hb3.trans (hb4.mono hb3.size)) hb)
theorem PDr.frS {w : World} {base q : Nat} {v : Value} {m : Nat} {D : DataW Unit} {L : List DItem} (d : PDr w base q v m D L) (hb : base ≤ w.heap.size) (htb : TabsD base w) (s : ByteArray) (hs : s.size ≤ 1048576) (w1 : World) (p1 p2 : Nat) (h1 : Below w.heap.size w w1)
    (e1 : w1.cell? ⟨p1, 0, none⟩ = some (.pointer (some ⟨q, 0, none⟩))) (e2 : w1.cell? ⟨p2, 0, none⟩ = some (.string s)) :
    Calls Tryz.prog 144 #[.int .i64 (L.length : Nat), .func (.func 154) #[] #[.pointer (some ⟨p2, 0, none⟩), .pointer (some ⟨p1, 0, none⟩)]] w1 fun e w' => e = .returned (.int .i64 (dFr L s : Nat)) ∧ Below w1.heap.size w1 w' := by
  have hsm := d.small
  refine Search_any w1 154 (enters_of Tryz.func154 (by kernel_rfl) rfl) _ _ L.length (dFr L s) (pFr L s) dFr_le (by omega) (fun i hi => ?_) (fun i hi hin => ?_) fun w2 i hb2 hi => ?_
  · have hl : i < L.length := Nat.lt_of_lt_of_le hi dFr_le
    rw [pFr_eq hl, dFr_low hi hl]
  · rw [pFr_eq hin, dFr_high d.ok hi hin]
  · have hb3 : Below w.heap.size w w2 := h1.trans (hb2.mono h1.size)
    obtain ⟨g, c, rfl, _, _, k1⟩ := (d.below hb3).at hi
    rw [pFr_eq hi]
    refine fitC_any w2 p1 p2 q g L.length c i L[i].1 s ⟨(hb2.cell (lt_of_cellD e1)).trans e1, (hb2.cell (lt_of_cellD e2)).trans e2, (d.below hb3).c0, k1⟩ hi _ fun w3 hb4 => ?_
    exact Ahead1_any _ _ w3 hs (d.text _ (List.getElem_mem hi)) (htb.at (hb3.trans (hb4.mono hb3.size)) hb)
set_option maxHeartbeats 4000000 in
theorem DPlace_any (w : World) (base q : Nat) (v : Value) (m : Nat) (D : DataW Unit) (L : List DItem) (d : PDr w base q v m D L) (hb : base ≤ w.heap.size) (htb : TabsD base w) (s : ByteArray) (hs : s.size ≤ 1048576) :
    Calls Tryz.prog 95 #[.pointer (some ⟨q, 0, none⟩), .string s] w fun e w' => e = .returned (.int .i64 (dPl L s : Nat)) ∧ Below w.heap.size w w' := by
  have hmf : ∀ (fn : Fn) (first cap : Array Value) (w : World), (Instr.makeFunc fn first cap).run Tryz.prog w = .ok (.func fn first cap) w := fun _ _ _ _ => rfl
  obtain ⟨A, c, rfl⟩ := d.len
  have k0 := d.c0
  have CS := Lib.hid (d.plS hb htb s hs)
  obtain ⟨n, hn⟩ : ∃ n, n = L.length := ⟨_, rfl⟩
  obtain ⟨k, hk⟩ : ∃ k, k = dPl L s := ⟨_, rfl⟩
  rw [← hn] at k0 CS
  rw [← hk] at CS ⊢
  clear hn hk d
  go_enter Tryz.func95, Tryz.ntmps95
  go_wp2_with (first
    | ((with_reducible show wpList _ _ _ (⟨some 2, _, _, _, _, _⟩ :: _) _ _); refine wpList_box_one rfl _ (.tmp 0) rfl (.pointer (some ⟨q, 0, none⟩)) rfl rfl ?_; intro p1 w1 hg1 hg2 B1 L1)
    | ((with_reducible show wpList _ _ _ (⟨some 3, _, _, _, _, _⟩ :: _) _ _); refine wpList_box_one rfl _ (.tmp 1) rfl (.string s) rfl rfl ?_; intro p2 w2 hg3 hg4 B2 L2; have L3 := Lib.hid (L1.out.trans (L2.out.mono L1.out.size)); have c1 : w2.cell? ⟨p1, 0, none⟩ = some (.pointer (some ⟨q, 0, none⟩)) := (L2.out.cell hg2).trans (B1.out.cell 0); have c2 : w2.cell? ⟨p2, 0, none⟩ = some (.string s) := B2.out.cell 0; have k2 : w2.cell? ⟨q, 0, none⟩ = some (.slice A n c) := (L3.out.cell (lt_of_cellD k0)).trans k0)
    | fail)
  refine (CS.out w2 p1 p2 L3.out c1 c2).mono ?_
  rintro e w3 ⟨rfl, l3⟩
  have L4 := Lib.hid (L3.out.trans (l3.mono L3.out.size))
  clear l3
  go_wp2_with fail
  go_ret
  exact ⟨rfl, L4.out⟩
end Go.Proofs.YtdgpbhdihhchgaaGreatDoor

namespace Go.Proofs.YtdgpbhdihhchgaaGreatDoor
set_option linter.all false
set_option maxRecDepth 100000
open Go.RowKit
set_option linter.unusedVariables false
theorem size_str : (Tryz.prog.info? 9).map (·.size) = some 1 := by kernel_rfl
theorem zero_str : (Tryz.prog.info? 9).map (fun i => (i.zero, i.size)) = some (some (.string ⟨#[]⟩), 1) := by kernel_rfl
theorem flat1 (l : List ByteArray) : l.flatMap txtCells = l.map Value.string := by
  induction l with
  | nil => rfl
  | cons x r ih => rw [List.flatMap_cons, ih]; rfl
section
variable {P : Program} {w : World} {ops : Array Oper} {rest : List Oper} {o : Oper} {a : Act} {Q : Exit → Act → World → Prop}
/-! ### the laws on rows of structs, at one cell each -/
theorem wpList_copy_one (hgd : o.guard = none) (d x : Operand) (dT elem t : TypeId) (k : Nat)
    (ho : o.op = .call { callee := .builtin .copy, args := #[d, x], argTypes := #[dT, dT] }) (hu : P.underlying dT = some (.slice elem)) (hs : (P.info? elem).map (·.size) = some 1)
    (g off dLen dCap : Nat) (b so sLen sCap : Nat) (hd : a.eval d = .slice (some ⟨g, off, none⟩) dLen dCap) (hx : a.eval x = .slice (some ⟨b, so, none⟩) sLen sCap)
    (cur cs : List Value) (hg : Blk w g t cur) (hk : Nat.min sLen dLen = k) (hn : cs.length = k) (hsrc : ∀ j v, cs[j]? = some v → w.cell? ⟨b, so + j, none⟩ = some v) (hfit : off + k ≤ cur.length) (h1 : ∀ v ∈ cs, v.oneCell' = true)
    (h : ∀ w', Hid (Blk w' g t (splice cur off cs)) → Hid (Only g w w') → wpList P ops Q rest (a.put o.dst (goInt k)) w') : wpList P ops Q (o :: rest) a w :=
  wpList_copy_blk hgd d x dT elem t 1 k ho hu hs g off dLen dCap b so sLen sCap hd hx cur cs hg hk (by rw [Nat.mul_one]; exact hn) hsrc (by rw [Nat.mul_one]; exact hfit) h1 h
theorem wpList_clear_one (hgd : o.guard = none) (x : Operand) (T elem t : TypeId) (z : Value)
    (ho : o.op = .call { callee := .builtin .clear, args := #[x], argTypes := #[T] }) (hu : P.underlying T = some (.slice elem)) (hi : (P.info? elem).map (fun i => (i.zero, i.size)) = some (some z, 1)) (hz : z.cells.size = 1) (hz1 : ∀ v ∈ z.cells, v.oneCell' = true)
    (g off n c : Nat) (A : Option Addr) (hx : a.eval x = .slice A n c) (hA : 0 < n → A = some ⟨g, off, none⟩)
    (cur : List Value) (hg : Blk w g t cur) (hfit : off + n ≤ cur.length)
    (h : ∀ w' cs, Hid (cs.length = n) → Hid (Blk w' g t (splice cur off cs)) → Hid (Only g w w') → wpList P ops Q rest (a.put o.dst (.tuple #[])) w') : wpList P ops Q (o :: rest) a w :=
  wpList_clear_blk hgd x T elem t 1 z [] ho hu hi hz hz1 (by decide) g off n c A hx hA cur hg (by rw [Nat.mul_one]; exact hfit) fun w' cs q => h w' cs (by have := q.out; rw [Nat.mul_one] at this; exact this)
theorem wpList_append_room1 (hgd : o.guard = none) (l x : Operand) (T elem : TypeId)
    (ho : o.op = .call { callee := .builtin .append, args := #[l, x], argTypes := #[T, T] }) (hu : P.underlying T = some (.slice elem)) (hs : (P.info? elem).map (·.size) = some 1)
    (g sLen sCap b so m c : Nat) (hl : a.eval l = .slice (some ⟨g, 0, none⟩) sLen sCap) (hx : a.eval x = .slice (some ⟨b, so, none⟩) m c)
    (cur cs : List Value) (hg : Blk w g elem cur) (hn : cs.length = m) (hsrc : ∀ j v, cs[j]? = some v → w.cell? ⟨b, so + j, none⟩ = some v) (hroom : sLen + m ≤ sCap) (hfit : sLen + m ≤ cur.length) (h1 : ∀ v ∈ cs, v.oneCell' = true) {t : Nat} (ht : sLen + m = t)
    (h : ∀ w', Hid (Blk w' g elem (splice cur sLen cs)) → Hid (Only g w w') → wpList P ops Q rest (a.put o.dst (.slice (some ⟨g, 0, none⟩) t sCap)) w') : wpList P ops Q (o :: rest) a w := by
  subst ht
  refine wpList_append_room hgd l x T elem 1 ho hu hs g sLen sCap b so m c hl hx cur cs hg (by rw [Nat.mul_one]; exact hn) hsrc hroom (by rw [Nat.mul_one, Nat.mul_one]; exact hfit) h1 fun w' q => h w' ?_
  rw [Nat.mul_one] at q
  exact q
theorem wpList_append_more1 (hgd : o.guard = none) (l x : Operand) (T tn elem t : TypeId) (bytes : Nat) (z : Value) (kn : IntKind)
    (ho : o.op = .call { callee := .builtin .append, args := #[l, x], argTypes := #[T, tn] }) (hu : P.underlying T = some (.slice elem)) (htn : P.underlying tn = some (.int kn)) (hi : (P.info? elem).map (fun i => (i.zero, i.size, i.bytes)) = some (some z, 1, bytes)) (hz : z.cells.size = 1) (hs0 : 0 < 1)
    (g sLen sCap k : Nat) (hl : a.eval l = .slice (some ⟨g, 0, none⟩) sLen sCap) (kk : IntKind) (C : Int) (hx : a.eval x = .int kk C) (hC : C = (k : Int))
    (cur : List Value) (hg : Blk w g t cur) (hfit : sLen ≤ cur.length) (hgrow : sCap < sLen + k) (h0 : 0 < k) (hlen : (sLen + k) * bytes ≤ 140737488355328) (h63 : sLen + k ≤ 9223372036854775807)
    (h : ∀ w' h' cap cs, Hid (w.heap.size ≤ h' ∧ h' < w'.heap.size) → Hid (Blk w' h' elem (cur.take sLen ++ cs)) → Hid ((cur.take sLen ++ cs).length = cap) → sLen + k ≤ cap → cap ≤ maxLen → Hid (Below w.heap.size w w') →
      wpList P ops Q rest (a.put o.dst (.slice (some ⟨h', 0, none⟩) (sLen + k) cap)) w') : wpList P ops Q (o :: rest) a w := by
  refine wpList_append_more hgd l x T tn elem t 1 bytes z kn ho hu htn hi hz hs0 g sLen sCap k hl kk C hx hC cur hg (by rw [Nat.mul_one]; exact hfit) hgrow h0 hlen h63 fun w' h' cap cs q1 q2 q3 q4 q5 q6 => h w' h' cap cs q1 ?_ ?_ q4 q5 q6
  · rw [Nat.mul_one] at q2
    exact q2
  · rw [Nat.mul_one, Nat.mul_one] at q3
    exact q3
end
section
variable {w : World} {base q n c : Nat} {xs : List ByteArray}
theorem OwnS.blk1 (h : OwnS txtCells 1 9 w base (.slice (some ⟨q, 0, none⟩) n c) xs) : base ≤ q ∧ xs.length = n ∧ n ≤ c ∧ c ≤ maxLen ∧ ∃ cs, Blk w q 9 cs ∧ cs.length = c ∧ cs.take n = xs.flatMap txtCells := by
  have h1 := h.blk
  rw [Nat.mul_one, Nat.mul_one] at h1
  exact h1
theorem OwnS.of_blk1 {cs : List Value} (hb : base ≤ q) (hB : Blk w q 9 cs) (hc : cs.length = c) (hcm : c ≤ maxLen) (hn : xs.length = n) (hnc : n ≤ c) (ht : cs.take n = xs.flatMap txtCells) : OwnS txtCells 1 9 w base (.slice (some ⟨q, 0, none⟩) n c) xs :=
  OwnS.of_blk txtCells_len hb hB (by rw [Nat.mul_one]; exact hc) hcm hn hnc (by rw [Nat.mul_one]; exact ht)
end
/-- what is answered where one new extent stands in the place of so many -/
def PutPostS (w : World) (base : Nat) (v : Value) (l : List ByteArray) (i j : Nat) (J : ByteArray) (e : Ending) (w' : World) : Prop :=
  ∃ v', e = .returned v' ∧ OwnS txtCells 1 9 w' base v' (l.take i ++ [J] ++ l.drop j) ∧ Spare (fun k => v.ownBlock = some k) w w' ∧ Wander w v v'
/-- the cells behind what has been laid -/
theorem splice2_takeS {L X Y : List Value} {a : Nat} (ha : a ≤ L.length) (hX : X.length = 1) (hY : a + 1 + Y.length ≤ L.length) : (splice (splice L a X) (a + 1) Y).take (a + 1 + Y.length) = L.take a ++ X ++ Y := by
  have h1 : (splice L a X).take (a + 1) = L.take a ++ X := by
    unfold splice
    rw [← List.append_assoc, List.take_left' (by rw [List.length_append, List.length_take, hX, Nat.min_eq_left ha])]
  unfold splice at h1 ⊢
  rw [h1, ← List.append_assoc, List.take_left' (by rw [List.length_append, List.length_append, List.length_take, hX, Nat.min_eq_left ha])]
theorem splice2_takeS' {L X Y : List Value} {a : Nat} (ha : a ≤ L.length) (hX : X.length = 1) (hY : a + 1 + Y.length ≤ L.length) : (splice (splice L (a + 1) Y) a X).take (a + 1 + Y.length) = L.take a ++ X ++ Y := by
  have h2 : (L.take (a + 1)).length = a + 1 := by rw [List.length_take]; omega
  have h1 : (splice L (a + 1) Y).take a = L.take a := by
    unfold splice
    rw [List.take_append_of_le_length (by rw [h2]; omega), List.take_take, Nat.min_eq_left (by omega)]
  have h3 : (splice L (a + 1) Y).drop (a + X.length) = Y ++ L.drop (a + 1 + Y.length) := by
    unfold splice
    rw [hX, List.drop_left' h2]
  show (List.take a (splice L (a + 1) Y) ++ (X ++ (splice L (a + 1) Y).drop (a + X.length))).take _ = _
  rw [h1, h3, ← List.append_assoc, ← List.append_assoc, List.take_left' (by rw [List.length_append, List.length_append, List.length_take, hX, Nat.min_eq_left ha])]
theorem flat_partsS (l : List ByteArray) (i j n : Nat) (J : ByteArray) (hn : l.length = n) (hij : i ≤ j) (hj : j ≤ n) (cs : List Value) (ht : cs.take (n) = l.flatMap txtCells) :
    (l.take i ++ [J] ++ l.drop j).flatMap txtCells = cs.take (i) ++ txtCells J ++ (cs.take (n)).drop (j) := by
  have h1 : (l.take i).flatMap txtCells = cs.take (i) := by
    have h4 := congrArg (List.take (i)) ht
    rw [List.take_take, Nat.min_eq_left (by omega)] at h4
    rw [h4]
    conv => rhs; rw [← List.take_append_drop i l]
    rw [List.flatMap_append, List.take_left' (by rw [flatMap_len txtCells_len, List.length_take, hn]; omega)]
  have h2 : (l.drop j).flatMap txtCells = (cs.take (n)).drop (j) := by
    rw [ht]
    conv => rhs; rw [← List.take_append_drop j l]
    rw [List.flatMap_append, List.drop_left' (by rw [flatMap_len txtCells_len, List.length_take, hn]; omega)]
  rw [List.flatMap_append, List.flatMap_append, h1, h2]
  simp
set_option maxHeartbeats 4000000 in
theorem SInsert_any (w : World) (base : Nat) (A : Option Addr) (n c i vb : Nat) (l : List ByteArray) (J : ByteArray) (ho : OwnS txtCells 1 9 w base (.slice A n c) l) (hi : i ≤ n) (hn : l.length = n) (hn2 : n ≤ 65536) (hb : base ≤ w.heap.size)
    (hv : Blk w vb 9 (txtCells J)) (hvn : (Value.slice A n c).ownBlock ≠ some vb) :
    Calls Tryz.prog 198 #[.slice A n c, .int .i64 (i : Nat), .slice (some ⟨vb, 0, none⟩) 1 1] w (PutPostS w base (.slice A n c) l i i J) := by
  have hJ : Hid (∀ w2, Blk w2 vb 9 (txtCells J) → ∀ j u, (txtCells J)[j]? = some u → w2.cell? ⟨vb, 0 + j, none⟩ = some u) := fun w2 h j u hj => by rw [Nat.zero_add, h.cell, hj]
  have HV := Lib.hid hv
  have HO := Lib.hid ho
  by_cases hin : i = n
  · subst hin
    have hl : l.take i ++ [J] ++ l.drop i = l ++ [J] := by rw [List.take_of_length_le (by omega), List.drop_of_length_le (by omega), List.append_nil]
    unfold PutPostS
    rw [hl]
    have hlen : Hid ((l.length + [J].length) * 16 ≤ 140737488355328 ∧ l.length + [J].length ≤ 9223372036854775807) := by show _ ∧ _; simp; omega
    have hJ2 : Hid (∀ w2, Blk w2 vb 9 (txtCells J) → ∀ j u, ([J].flatMap txtCells)[j]? = some u → w2.cell? ⟨vb, 0 + j, none⟩ = some u) := fun w2 h j u hj => hJ.out w2 h j u (by simpa using hj)
    have hcm : c ≤ 9223372036854775807 ∧ i ≤ c := by
      rcases ho.2 with ⟨h1, _⟩ | ⟨g, cap, cur, h1, _, _, h2, h3, _⟩
      · injection h1 with _ h3 h4
        omega
      · injection h1 with _ h4 h5
        unfold maxLen at h3
        omega
    obtain ⟨hcm, hic⟩ := hcm
    clear ho hv hl hJ hvn hn
    rcases A with _ | ad
    · have hc : i = 0 ∧ c = 0 := by
        rcases HO.out.2 with ⟨h1, _⟩ | ⟨g, cap, cur, h1, _⟩
        · injection h1 with _ h2 h3
          exact ⟨h2, h3⟩
        · injection h1 with h2
          cases h2
      obtain ⟨rfl, rfl⟩ := hc
      go_enter Tryz.func198, Tryz.ntmps198
      go_wp2_with (first
        | (at_builtin; refine wpList_append_holdSW rfl (.tmp 23) (.tmp 24) txtCells 1 (by decide) txtCells_len txtCells_one (.string ⟨#[]⟩) rfl 78 9 16 Tryz.underlying78 info_str rfl base _ l rfl HO.out vb 0 1 1 [J] rfl rfl (hJ2.out _ HV.out) hlen.out.1 hlen.out.2 hb ?_; intro v1 w1 O1 S1 W1)
        | fail)
      go_ret
      exact ⟨_, rfl, O1.out, S1.out, W1.out⟩
    · go_enter Tryz.func198, Tryz.ntmps198
      go_wp2_with (first
        | (at_builtin; refine wpList_append_holdSW rfl (.tmp 23) (.tmp 24) txtCells 1 (by decide) txtCells_len txtCells_one (.string ⟨#[]⟩) rfl 78 9 16 Tryz.underlying78 info_str rfl base _ l rfl HO.out vb 0 1 1 [J] rfl rfl (hJ2.out _ HV.out) hlen.out.1 hlen.out.2 hb ?_; intro v1 w1 O1 S1 W1)
        | fail)
      all_goals go_ret
      all_goals exact ⟨_, rfl, O1.out, S1.out, W1.out⟩
  · obtain ⟨g, c', hg⟩ := ho.form (show 0 < l.length by omega)
    obtain rfl : A = some ⟨g, 0, none⟩ := by injection hg
    clear hg
    obtain ⟨hbg, hln, hnc, hcm, cs, hB, hcl, htk⟩ := ho.blk1
    have hcm' : c ≤ 9223372036854775807 := by unfold maxLen at hcm; omega
    have hgv : g ≠ vb := fun h => hvn (by rw [h]; rfl)
    have hparts := flat_partsS l i i n J hn (Nat.le_refl _) hi cs htk
    have hlen3 : (l.take i ++ [J] ++ l.drop i).length = n + 1 := by simp; omega
    obtain ⟨L3, hL3⟩ : ∃ L3, L3 = l.take i ++ [J] ++ l.drop i := ⟨_, rfl⟩
    unfold PutPostS
    rw [← hL3] at hparts hlen3 ⊢
    obtain ⟨Y, hY⟩ : ∃ Y, Y = (cs.take (n)).drop (i) := ⟨_, rfl⟩
    rw [← hY] at hparts
    have hYl : Y.length = (n - i) := by rw [hY, List.length_drop, List.length_take, hcl]; omega
    have hYc : Hid (∀ w2, Blk w2 g 9 cs → ∀ j v, Y[j]? = some v → w2.cell? ⟨g, i + j, none⟩ = some v) := fun w2 h j v hj => by
      rw [h.cell, ← hj, hY, List.getElem?_drop, List.getElem?_take, if_pos]
      have := (List.getElem?_eq_some_iff.1 hj).1
      omega
    have hY1 : Hid (∀ v ∈ Y, v.oneCell' = true) := fun v hv => by
      rw [hY, htk] at hv
      obtain ⟨y, _, hy⟩ := List.mem_flatMap.1 (List.mem_of_mem_drop hv)
      exact txtCells_one y v hy
    have HB0 := Lib.hid hB
    have HL := Lib.hid hcl
    have HP := Lib.hid hparts
    have H3 := Lib.hid hlen3
    have HYL := Lib.hid hYl
    have hic : ¬ c = i := by omega
    have hic2 : i ≤ c := by omega
    have hc0 : ¬ c = 0 := by omega
    have hne : ¬ (i : Int) = (n : Int) := by omega
    clear hB hcl htk ho hln hn hL3 hY hYl hparts hlen3 hvn hv
    have h01 : (0 : Int) ≤ (i : Int) + 1 := by omega
    have hui : IntKind.i64.wrap ((i : Int) + 1) = (i : Int) + 1 := by rw [IntKind.wrap_i64]; omega
    have htn : ((i : Int) + 1).toNat = i + 1 := by omega
    have fin : Hid (∀ w2 q cap cur, base ≤ q → Blk w2 q 9 cur → cur.length = cap → cap ≤ maxLen → n + 1 ≤ cap → cur.take (i + 1 + Y.length) = cs.take (i) ++ txtCells J ++ Y → OwnS txtCells 1 9 w2 base (.slice (some ⟨q, 0, none⟩) (n + 1) cap) L3) := fun w2 q cap cur h1 h2 h3 h4 h5 h6 => by
      refine OwnS.of_blk1 h1 h2 h3 h4 H3.out h5 ?_
      rw [HP.out, ← h6, HYL.out]
      congr 1
      omega
    have one : Hid (∀ v ∈ txtCells J, v.oneCell' = true) := txtCells_one J
    by_cases hgrow : n + 1 ≤ c
    · have hgt : decide ((c : Int) < (n : Int) + 1) = false := decide_eq_false (by omega)
      have hin1 : ¬ c = i + 1 := by omega
      have hgt2 : (n : Int) + 1 ≤ (c : Int) := by omega
      have htn2 : ((n : Int) + 1).toNat = n + 1 := by omega
      have h02 : (0 : Int) ≤ (n : Int) + 1 := by omega
      have hnil : n + 1 - (i + 1) = n - i := by omega
      have hil : (i : Int) ≤ (n : Int) := by omega
      have hil1 : (i : Int) ≤ (n : Int) + 1 := by omega
      have hov : ∀ lb cb, (callFunc 219 #[.slice (some ⟨vb, 0, none⟩) 1 1, .slice (some ⟨g, (i + 1), none⟩) lb cb]).run Tryz.prog w = .ok (.value (.bool false)) w := fun lb cb => by
        rw [run_callFunc_extern Tryz.func219 (by kernel_rfl) (by kernel_rfl) (by kernel_rfl) (e := Extern.SlicesOverlaps.overlaps #[78, 78] #[4]) (by kernel_rfl),
          Lib.run_overlaps_apart w 78 4 9 Tryz.underlying78 1 (fun w => by simp [sizeOf, typeInfo]; rfl) ⟨vb, 0, none⟩ ⟨g, (i + 1), none⟩ 1 1 lb cb (fun h => hgv h.symm) 9 9 1 cs.length (by unfold World.shape?; rw [HV.out]; rfl) (by unfold World.shape?; rw [HB0.out]; rfl) (by rw [HL.out]; omega) (HV.out.frozen 0) (HV.out.frozen 1)]
        rfl
      go_enter Tryz.func198, Tryz.ntmps198
      go_upto_region 15 with (simp only [hov])
      have F1 : Hid ((i + 1) + (n - i) ≤ cs.length) := by show _ ≤ _; rw [HL.out]; omega
      have F2 : Hid (i + 1 ≤ (splice cs ((i + 1)) Y).length) := by show _ ≤ _; rw [length_splice _ _ _ (by rw [HYL.out, HL.out]; omega), HL.out]; omega
      go_still_tail 8, (by kernel_rfl)
      change wpList _ _ _ _ _ w.drew
      go_wp2_with (first
        | ((with_reducible show wpList _ _ _ (⟨some 77, _, _, _, _, _⟩ :: _) _ _); go_loud (refine wpList_copy_one rfl (.tmp 73) (.tmp 76) 78 9 9 (n - i) rfl Tryz.underlying78 size_str _ _ _ _ _ _ _ _ rfl rfl _ Y HB0.out.drew (Nat.min_eq_right (by omega)) HYL.out (hYc.out _ HB0.out.drew) F1.out hY1.out ?_); intro w1 B1 O1; go_loud (have HV1 := Lib.hid ((HV.out.drew).only O1.out (fun h => hgv h.symm))))
        | ((with_reducible show wpList _ _ _ (⟨some 82, _, _, _, _, _⟩ :: _) _ _); go_loud (refine wpList_copy_one rfl (.tmp 80) (.tmp 81) 78 9 9 1 rfl Tryz.underlying78 size_str _ _ _ _ _ _ _ _ rfl rfl _ (txtCells J) B1.out (Nat.min_eq_left (by omega)) rfl (hJ.out _ HV1.out) F2.out one.out ?_); intro w2 B2 O2)
        | fail)
      go_ret
      have q2 : Only g w w2 := ⟨O2.out.os.trans O1.out.os, O2.out.tape.trans O1.out.tape, O2.out.output.trans O1.out.output, O2.out.size.trans O1.out.size, fun j hj => (O2.out.rest j hj).trans (O1.out.rest j hj)⟩
      have ea : i + 1 = (i + 1) := by omega
      have hl1 : i ≤ cs.length := by rw [HL.out]; omega
      have hl2 : i + 1 + Y.length ≤ cs.length := by rw [HL.out, HYL.out]; omega
      refine ⟨_, rfl, ?_, (Spare.of_only q2).mono fun j _ hj => by rw [hj]; rfl, fun j hj => .inl hj⟩
      refine fin.out w2 g c _ hbg B2.out ?_ hcm (by omega) ?_
      · rw [length_splice _ _ _ (by rw [length_splice _ _ _ (by rw [HYL.out, HL.out]; omega), txtCells_len, HL.out]; omega), length_splice _ _ _ (by rw [HYL.out, HL.out]; omega), HL.out]
      · rw [← ea, splice2_takeS' hl1 (txtCells_len J) hl2]
    · obtain ⟨k, hk⟩ : ∃ k, n + 1 = i + k := ⟨n + 1 - i, by omega⟩
      have hk' : (n : Int) + 1 - (i : Int) = (k : Int) := by omega
      have hgt : decide ((c : Int) < (n : Int) + 1) = true := decide_eq_true (by omega)
      have hlen : Hid ((i + k) * 16 ≤ 140737488355328) := by show _ ≤ _; omega
      have hfit : Hid (i ≤ cs.length) := by show _ ≤ _; rw [HL.out]; omega
      go_enter Tryz.func198, Tryz.ntmps198
      go_upto_region 11 with (first
        | (at_builtin; go_loud (refine wpList_append_more1 rfl (.tmp 34) (.tmp 39) 78 3 9 9 16 (.string ⟨#[]⟩) .i64 rfl Tryz.underlying78 Tryz.underlying3 info_str rfl (by decide) g i c k rfl .i64 _ rfl rfl cs HB0.out hfit.out (by omega) (by omega) hlen.out (by omega) ?_); intro w1 h1 cap zs R1 B1 E1 hge hcap L1; go_loud (have hcapi : ¬ cap = i := by omega); go_loud (have HV1 := Lib.hid (HV.out.over L1.out)); go_loud (have HG1 := Lib.hid (HB0.out.over L1.out)); go_loud (have F1 : Hid (i + 1 ≤ (cs.take (i) ++ zs).length) := (by show _ ≤ _; rw [E1.out]; omega)))
        | ((with_reducible show wpList _ _ _ (⟨some 45, _, _, _, _, _⟩ :: _) _ _); go_loud (refine wpList_copy_one rfl (.tmp 43) (.tmp 44) 78 9 9 1 rfl Tryz.underlying78 size_str _ _ _ _ _ _ _ _ rfl rfl _ (txtCells J) B1.out (Nat.min_eq_left (show 1 ≤ k by omega)) rfl (hJ.out _ HV1.out) F1.out one.out ?_); intro w2 B2 O2)
        | fail)
      have HG2 := Lib.hid ((HG1.out.only O2.out (by have := HB0.out.lt; have := R1.out.1; omega)).drew)
      have F2 : Hid ((i + 1) + (n - i) ≤ (splice (cs.take (i) ++ zs) (i) (txtCells J)).length) := by
        show _ ≤ _
        rw [length_splice _ _ _ (by rw [E1.out, txtCells_len]; omega), E1.out]
        omega
      have hcapu : ¬ cap = i + 1 := by omega
      have hku : i + k - (i + 1) = n - i := by omega
      have h1k : (1 : Int) ≤ (k : Int) := by omega
      have hcap0 : ¬ cap = 0 := by omega
      go_still_tail 8, (by kernel_rfl)
      change wpList _ _ _ _ _ w2.drew
      go_wp2_with (first
        | ((with_reducible show wpList _ _ _ (⟨some 54, _, _, _, _, _⟩ :: _) _ _); go_loud (refine wpList_copy_one rfl (.tmp 50) (.tmp 53) 78 9 9 (n - i) rfl Tryz.underlying78 size_str _ _ _ _ _ _ _ _ rfl rfl _ Y B2.out.drew (Nat.min_self _) HYL.out (hYc.out _ HG2.out) F2.out hY1.out ?_); intro w3 B3 O3)
        | fail)
      go_ret
      have q3 : Below w.heap.size w w3 := below_only ((below_only L1.out O2.out R1.out.1).trans ((drewed w2 1).mono (Nat.le_trans L1.out.size (Nat.le_of_eq O2.out.size.symm)))) O3.out R1.out.1
      have ea : i + 1 = (i + 1) := by omega
      have hl1 : i ≤ (cs.take (i) ++ zs).length := by rw [E1.out]; omega
      have hl2 : i + 1 + Y.length ≤ (cs.take (i) ++ zs).length := by rw [E1.out, HYL.out]; omega
      refine ⟨_, rfl, ?_, Spare.of_over _ q3, fun j hj => .inr ?_⟩
      · rw [← hk]
        refine fin.out w3 h1 cap _ (Nat.le_trans hb R1.out.1) B3.out ?_ hcap (by omega) ?_
        · rw [length_splice _ _ _ (by rw [length_splice _ _ _ (by rw [txtCells_len]; omega), HYL.out, E1.out]; omega), length_splice _ _ _ (by rw [txtCells_len]; omega), E1.out]
        · rw [← ea, splice2_takeS hl1 (txtCells_len J) hl2, List.take_append_of_le_length (by rw [List.length_take, HL.out]; omega), List.take_take, Nat.min_self]
      · injection hj with hj
        rw [← hj]
        exact R1.out.1
set_option maxHeartbeats 4000000 in
theorem SDelete_any (w : World) (base g n c i k : Nat) (l : List ByteArray) (ho : OwnS txtCells 1 9 w base (.slice (some ⟨g, 0, none⟩) n c) l) (hnk : n = k + 1) (hi : i ≤ k) (hn2 : n ≤ 65536) :
    Calls Tryz.prog 197 #[.slice (some ⟨g, 0, none⟩) n c, .int .i64 (i : Nat), .int .i64 ((i : Int) + 1)] w fun e w' =>
      e = .returned (.slice (some ⟨g, 0, none⟩) k c) ∧ OwnS txtCells 1 9 w' base (.slice (some ⟨g, 0, none⟩) k c) (l.take i ++ l.drop (i + 1)) ∧ Spare (fun j => j = g) w w' := by
  obtain ⟨hb, hln, hnc, hcm, cs, hB, hcl, htk⟩ := ho.blk1
  have hcm' : c ≤ 9223372036854775807 := by unfold maxLen at hcm; omega
  obtain ⟨m, hm⟩ : ∃ m, m = k - i := ⟨_, rfl⟩
  have him : i + m = k := by omega
  obtain ⟨Y, hY⟩ : ∃ Y, Y = (cs.take n).drop (i + 1) := ⟨_, rfl⟩
  have hYl : Y.length = m := by rw [hY, List.length_drop, List.length_take, hcl]; omega
  have hYc : Hid (∀ w2, Blk w2 g 9 cs → ∀ j v, Y[j]? = some v → w2.cell? ⟨g, i + 1 + j, none⟩ = some v) := fun w2 h j v hj => by
    rw [h.cell, ← hj, hY, List.getElem?_drop, List.getElem?_take, if_pos]
    have := (List.getElem?_eq_some_iff.1 hj).1
    omega
  have hY1 : Hid (∀ v ∈ Y, v.oneCell' = true) := fun v hv => by
    rw [hY, htk] at hv
    obtain ⟨y, _, hy⟩ := List.mem_flatMap.1 (List.mem_of_mem_drop hv)
    exact txtCells_one y v hy
  have hflat : (l.take i ++ l.drop (i + 1)).flatMap txtCells = cs.take i ++ Y := by
    rw [List.flatMap_append, flat1, flat1, hY, htk, flat1, List.map_take, List.map_drop]
    congr 1
    have h4 := congrArg (List.take i) htk
    rw [List.take_take, Nat.min_eq_left (by omega), flat1] at h4
    exact h4.symm
  have hlen2 : (l.take i ++ l.drop (i + 1)).length = k := by rw [List.length_append, List.length_take, List.length_drop]; omega
  have fin : Hid (∀ w2 zs, zs.length = 1 → Blk w2 g 9 (splice (splice cs i Y) k zs) → Only g w w2 → OwnS txtCells 1 9 w2 base (.slice (some ⟨g, 0, none⟩) k c) (l.take i ++ l.drop (i + 1)) ∧ Spare (fun j => j = g) w w2) := fun w2 zs hz h1 h2 => by
    have e1 : (splice cs i Y).length = c := by rw [length_splice _ _ _ (by rw [hYl, hcl]; omega), hcl]
    refine ⟨OwnS.of_blk1 hb h1 ?_ hcm hlen2 (by omega) ?_, Spare.of_only h2⟩
    · rw [length_splice _ _ _ (by rw [hz, e1]; omega), e1]
    · rw [hflat]
      have e2 : (splice (splice cs i Y) k zs).take k = (splice cs i Y).take k := by
        unfold splice
        rw [List.take_append_of_le_length (by rw [List.length_take]; have := e1; unfold splice at this; omega), List.take_take, Nat.min_self]
      rw [e2]
      unfold splice
      rw [← List.append_assoc, List.take_left' (by rw [List.length_append, List.length_take, hYl, hcl]; omega)]
  have HB0 := Lib.hid hB
  have HL := Lib.hid hcl
  have HYL := Lib.hid hYl
  have F1 : Hid (i + m ≤ cs.length) := by show _ ≤ _; rw [hcl]; omega
  have F2 : Hid (k + 1 ≤ (splice cs i Y).length) := by show _ ≤ _; rw [length_splice _ _ _ (by rw [hYl, hcl]; omega), hcl]; omega
  have one : ∀ v ∈ (Value.string ⟨#[]⟩).cells, v.oneCell' = true := by decide
  subst hnk
  have hmm : k + 1 - (i + 1) = m := by omega
  have hmm2 : k - i = m := hm.symm
  have hck : ¬ c = k := by omega
  have hc0 : ¬ c = 0 := by omega
  have hic : i ≤ c := by omega
  have hne : ¬ (i : Int) = (i : Int) + 1 := by omega
  have h01 : (0 : Int) ≤ (i : Int) + 1 := by omega
  have htn : ((i : Int) + 1).toNat = i + 1 := by omega
  have hil : (i : Int) ≤ (i : Int) + 1 := by omega
  have hik : (i : Int) ≤ (k : Int) := by omega
  have hik1 : (i : Int) + 1 ≤ (k : Int) + 1 := by omega
  have hkk : (k : Int) ≤ (k : Int) + 1 := by omega
  have hk1 : k + 1 - k = 1 := by omega
  have hkc : (k : Int) + 1 ≤ (c : Int) := by omega
  clear hB hcl htk ho hln hY hYl hflat hlen2 hm
  by_cases hci : c = i + 1
  · obtain rfl : k = i := by omega
    obtain rfl : m = 0 := by omega
    obtain rfl : Y = [] := List.eq_nil_of_length_eq_zero HYL.out
    subst hci
    go_enter Tryz.func197, Tryz.ntmps197
    go_upto_region 5 with fail
    go_still_tail 6, (by kernel_rfl)
    change wpList _ _ _ _ _ w.drew
    go_wp2_with (first
      | (at_builtin; go_loud (refine wpList_append_room1 rfl (.tmp 22) (.tmp 25) 78 9 rfl Tryz.underlying78 size_str _ _ _ _ _ _ _ rfl rfl cs [] HB0.out.drew rfl (fun j v h => by cases h) (by omega) F1.out (fun v h => by cases h) him ?_); intro w1 B1 O1)
      | ((with_reducible show wpList _ _ _ (⟨none, .call _, _, _, _, _⟩ :: _) _ _); go_loud (refine wpList_clear_one rfl (.tmp 31) 78 9 9 _ rfl Tryz.underlying78 zero_str rfl one g k 1 _ _ rfl (fun _ => rfl) (splice cs k []) B1.out F2.out ?_); intro w2 zs Z2 B2 O2)
      | fail)
    go_ret
    obtain ⟨r1, r2⟩ := fin.out w2 zs Z2.out B2.out ⟨O2.out.os.trans O1.out.os, O2.out.tape.trans O1.out.tape, O2.out.output.trans O1.out.output, O2.out.size.trans O1.out.size, fun j hj => (O2.out.rest j hj).trans (O1.out.rest j hj)⟩
    exact ⟨rfl, r1, r2⟩
  · go_enter Tryz.func197, Tryz.ntmps197
    go_upto_region 5 with fail
    go_still_tail 6, (by kernel_rfl)
    change wpList _ _ _ _ _ w.drew
    go_wp2_with (first
      | (at_builtin; go_loud (refine wpList_append_room1 rfl (.tmp 22) (.tmp 25) 78 9 rfl Tryz.underlying78 size_str _ _ _ _ _ _ _ rfl rfl cs Y HB0.out.drew HYL.out (hYc.out _ HB0.out.drew) (by omega) F1.out hY1.out him ?_); intro w1 B1 O1)
      | ((with_reducible show wpList _ _ _ (⟨none, .call _, _, _, _, _⟩ :: _) _ _); go_loud (refine wpList_clear_one rfl (.tmp 31) 78 9 9 _ rfl Tryz.underlying78 zero_str rfl one g k 1 _ _ rfl (fun _ => rfl) (splice cs i Y) B1.out F2.out ?_); intro w2 zs Z2 B2 O2)
      | fail)
    go_ret
    obtain ⟨r1, r2⟩ := fin.out w2 zs Z2.out B2.out ⟨O2.out.os.trans O1.out.os, O2.out.tape.trans O1.out.tape, O2.out.output.trans O1.out.output, O2.out.size.trans O1.out.size, fun j hj => (O2.out.rest j hj).trans (O1.out.rest j hj)⟩
    exact ⟨rfl, r1, r2⟩
end Go.Proofs.YtdgpbhdihhchgaaGreatDoor

namespace Go.Proofs.YtdgpbhdihhchgaaGreatDoor
set_option linter.all false
set_option maxRecDepth 100000
open Go.RowKit
set_option linter.unusedVariables false
theorem spare_cellD {S : Nat → Prop} {w w' : World} {p : Addr} (a : Spare S w w') (hp : ¬ S p.block) (hlt : p.block < w.heap.size) : w'.cell? p = w.cell? p := by
  unfold World.cell?
  rw [a.rest p.block hlt hp]
theorem SClone_any (s : ByteArray) (w : World) (hs : s.size ≤ 1048576) : Calls Tryz.prog 90 #[.string s] w fun e w' => e = .returned (.string s) ∧ Below w.heap.size w w' := by
  have c1 := Lib.hid (Tryz.stringslite_Clone s w (by omega))
  go_enter Tryz.func90, Tryz.ntmps90
  go_wp2_with fail
  refine c1.out.mono ?_
  rintro e w1 ⟨rfl, hb1⟩
  go_wp2
  go_ret
  exact ⟨rfl, hb1⟩
theorem Spare.of_turned {w w' : World} {b : Nat} (h : w.mapTurned w' b) : Spare (fun j => j = b) w w' := by
  have g := h.grown
  exact ⟨g.os, g.tape, g.output, g.size, fun j hj hs => g.block j hj fun e => hs (by injection e)⟩
/-- a map's block heads no row -/
theorem own_ne_map {α : Type} {f : α → List Value} {s : Nat} {e : TypeId} {w : World} {base m N : Nat} {v : Value} {xs : List α} {P : Program} {kt : TypeId} {R : Value → Option (DataW Unit × List MemPlace)} {D : DataW Unit} (h : OwnS f s e w base v xs) (k : w.ownsMap P kt R m N D) : v.ownBlock ≠ some m := fun hv => by
  obtain ⟨_, cs, hcs⟩ := h.block hv
  obtain ⟨es, clock, hm, _⟩ := k
  rw [hm] at hcs
  cases hcs
theorem own_ne_blk {α : Type} {f : α → List Value} {s : Nat} {e T : TypeId} {w : World} {base g : Nat} {v : Value} {xs : List α} {cs : List Value} (o : OwnS f s e w base v xs) (h : Blk w g T cs) (hT : T ≠ e) : v.ownBlock ≠ some g := fun hv => by
  obtain ⟨_, cs', hcs⟩ := o.block hv
  rw [show w.heap[g]? = _ from h] at hcs
  simp only [Option.some.injEq, Obj.cells.injEq] at hcs
  exact hT hcs.2.1
theorem blk_ne_map {w : World} {g m N : Nat} {T : TypeId} {cs : List Value} {P : Program} {kt : TypeId} {R : Value → Option (DataW Unit × List MemPlace)} {D : DataW Unit} (h : Blk w g T cs) (k : w.ownsMap P kt R m N D) : g ≠ m := fun e => by
  obtain ⟨es, clock, hm, _⟩ := k
  rw [← e, show w.heap[g]? = _ from h] at hm
  cases hm
section
variable {P : Program} {w : World} {ops : Array Oper} {o : Oper} {a : Act} {Q : Exit → Act → World → Prop} {K : Act → World → Prop} {E : Prop}
theorem step_putD (hg : o.guard = none) (m x v : Operand) (t : TypeId) (hop : o.op = Op.mapUpdate t m x v) (kt e : TypeId) (Kd : Maps.Keyed P kt) (ht : P.underlying t = some (.map kt e)) (b n : Nat) (D : DataW Unit)
    (hm : a.eval m = .map (some b)) (hown : w.ownsMap P kt (plainElem P e) b n D) (hn : n < maxLen) (key val : Value) (kl : Lit) (d : DataW Unit) (hx : a.eval x = key) (hv : a.eval v = val) (hkey : keyOf P kt key = some kl) (hval : plainElem P e val = some (d, []))
    (hK : ∀ w', Hid (w'.ownsMap P kt (plainElem P e) b (n + 1) (D.put kl d)) → Hid (Spare (fun j => j = b) w w') → K (a.put o.dst undef) w') :
    if Region.wanted o (yielded ops a.tmps) = true then Oper.wp P o a w K Q else E := by
  have hw : Region.wanted o (yielded ops a.tmps) = true := by simp [Region.wanted, hg]
  rw [if_pos hw]
  obtain ⟨w', hrun, r1, r2⟩ := hown.store Kd ht hn hkey hval
  unfold Oper.wp
  simp [execOp, hop, hm, hx, hv, hrun, Result.andThen]
  exact hK w' r1 (Spare.of_turned r2)
theorem step_delD (hg : o.guard = none) (m x : Operand) (t kt : TypeId) (hop : o.op = Op.call { callee := Callee.builtin Builtin.delete, args := #[m, x], argTypes := #[t, kt] }) (e : TypeId) (Kd : Maps.Keyed P kt) (ht : P.underlying t = some (.map kt e)) (b n : Nat) (D : DataW Unit)
    (hm : a.eval m = .map (some b)) (hown : w.ownsMap P kt (plainElem P e) b n D) (key : Value) (kl : Lit) (hx : a.eval x = key) (hkey : keyOf P kt key = some kl)
    (hK : ∀ w', Hid (w'.ownsMap P kt (plainElem P e) b n (D.del kl)) → Hid (Spare (fun j => j = b) w w') → K (a.put o.dst (.tuple #[])) w') :
    if Region.wanted o (yielded ops a.tmps) = true then Oper.wp P o a w K Q else E := by
  have hw : Region.wanted o (yielded ops a.tmps) = true := by simp [Region.wanted, hg]
  rw [if_pos hw]
  obtain ⟨w', hrun, r1, r2⟩ := hown.drop Kd ht hkey o.type
  unfold Oper.wp
  simp [execOp, hop, resolve, invoke, builtin, hm, hx, hrun, Result.andThen]
  exact hK w' r1 (Spare.of_turned r2)
end
/-- what the directory is behind a turn of its names and its map -/
structure Turned15 (w : World) (base q m : Nat) (v : Value) (L' : List DItem) (w' : World) (v' : Value) (D' : DataW Unit) : Prop where
  d : PDr w' base q v' m D' L'
  a : Spare (pdrS q m v) w w'
  n : ∀ j, pdrS q m v' j → pdrS q m v j ∨ w.heap.size ≤ j
section
variable {w w3 w4 w5 w6 w7 : World} {base q m : Nat} {v v' : Value} {D D' : DataW Unit} {L L' : List DItem}
theorem PDr.turned (d : PDr w base q v m D L) (L3 : Below w.heap.size w w3) (O4 : OwnS txtCells 1 9 w4 base v' (dNm L')) (S4 : Spare (fun j => v.ownBlock = some j) w3 w4) (N4 : Wander w3 v v')
    (P5 : Spare (fun j => j = q) w4 w5) (B5 : Blk w5 q 138 [v', .map (some m)]) (L6 : Below w5.heap.size w5 w6) {N : Nat} (M7 : w7.ownsMap Tryz.prog 9 (plainElem Tryz.prog 3) m N D') (S7 : Spare (fun j => j = m) w6 w7)
    (hi : MapIs D' L') (ok : Dok L') (hl : L'.length ≤ 4096) (ht : ∀ x ∈ L', x.1.size ≤ 1048576) : Turned15 w base q m v L' w7 v' D' := by
  have d3 := d.below L3
  have hvq : v.ownBlock ≠ some q := own_ne_blk d3.row d3.blk (by decide)
  have hvm : v.ownBlock ≠ some m := own_ne_map d3.row d3.map
  have b4 := d3.blk.spare S4 hvq
  have m4 : w4.ownsMap Tryz.prog 9 (plainElem Tryz.prog 3) m L.length D := owns_same d3.map (S4.rest m d3.map.lt hvm)
  have hvq' : v'.ownBlock ≠ some q := own_ne_blk O4 b4 (by decide)
  have hvm' : v'.ownBlock ≠ some m := own_ne_map O4 m4
  have hqm : q ≠ m := blk_ne_map d.blk d.map
  have O5 := O4.sparS P5 fun i hi e => hvq' (by rw [hi, e])
  have O6 := O5.below L6
  have O7 := O6.sparS S7 fun i hi e => hvm' (by rw [hi, e])
  have B7 := (B5.over L6).spare S7 hqm
  have M7' := owns_tight M7
  rw [hi.size] at M7'
  refine ⟨⟨d.ge, d.gem, B7, O7, hi, M7', ok, hl, ht⟩, ?_, fun j hj => ?_⟩
  · have a1 := (Spare.of_over (pdrS q m v) L3).trans (S4.mono (S' := pdrS q m v) fun j _ h => .inr (.inr h)) fun j _ h => h
    have a2 := a1.trans (P5.mono (S' := pdrS q m v) fun j _ h => .inl h) fun j _ h => h
    have a3 := a2.trans (Spare.of_over (pdrS q m v) L6) fun j _ h => h
    exact a3.trans (S7.mono (S' := pdrS q m v) fun j _ h => .inr (.inl h)) fun j _ h => h
  · rcases hj with h | h | h
    · exact .inl (.inl h)
    · exact .inl (.inr (.inl h))
    · rcases N4 j h with h1 | h1
      · exact .inl (.inr (.inr h1))
      · exact .inr (Nat.le_trans L3.size h1)
end
def TPost15 (w : World) (base q m : Nat) (v : Value) (L' : List DItem) (r : Value) (e : Ending) (w' : World) : Prop := e = .returned r ∧ ∃ v' D', Turned15 w base q m v L' w' v' D'
set_option maxHeartbeats 8000000 in
theorem DPut_any (w : World) (base q : Nat) (v : Value) (m : Nat) (D : DataW Unit) (L : List DItem) (d : PDr w base q v m D L) (hb : base ≤ w.heap.size) (htb : TabsD base w) (s : ByteArray) (hs : s.size ≤ 1048576) (n : Int) (hn : I64D n) (hbad : dBad s = false) (hno : dHas L s = false) (hL : L.length < 4096) :
    Calls Tryz.prog 164 #[.pointer (some ⟨q, 0, none⟩), .string s, .int .i64 n] w (TPost15 w base q m v (dPut L s n) (.tuple #[])) := by
  obtain ⟨A, c, rfl⟩ := d.len
  have k0 := d.c0
  have k1 := d.c1
  have hvq : Hid ((Value.slice A L.length c).ownBlock ≠ some q) := own_ne_blk d.row d.blk (by decide)
  have hvm : Hid ((Value.slice A L.length c).ownBlock ≠ some m) := own_ne_map d.row d.map
  have hqm : q ≠ m := blk_ne_map d.blk d.map
  have BQ : Hid (Blk w q 138 [.slice A L.length c, .map (some m)]) := d.blk
  have HWF : Hid (plainElem Tryz.prog 3 (.int .i64 n) = some ((.lit (.int .i64 n) : DataW Unit), [])) := plainElem_int Tryz.underlying3 (WalkArith.wf_i64 hn)
  have CP : Hid (∀ w', Below w.heap.size w w' → Calls Tryz.prog 95 #[.pointer (some ⟨q, 0, none⟩), .string s] w' fun e w2 => e = .returned (.int .i64 (dPl L s : Nat)) ∧ Below w'.heap.size w' w2) := fun w' hb' => DPlace_any w' base q _ m D L (d.below hb') (Nat.le_trans hb hb'.size) (htb.next (hb'.mono hb)) s hs
  have CI0 : Hid (∀ w3, Below w.heap.size w w3 → ∀ gv, w.heap.size ≤ gv → Blk w3 gv 9 [.string s] → Calls Tryz.prog 198 #[.slice A L.length c, .int .i64 (dPl L s : Nat), .slice (some ⟨gv, 0, none⟩) 1 1] w3 (PutPostS w3 base (.slice A L.length c) (dNm L) (dPl L s) (dPl L s) s)) := fun w3 L3 gv hgv V3 =>
    SInsert_any w3 base A L.length c (dPl L s) gv (dNm L) s (d.below L3).row dPl_le dNm_len (by omega) (Nat.le_trans hb L3.size) V3 fun e => by
      have := d.row.lt e
      omega
  have MP0 : Hid (∀ w3 w4 w5 w6, Below w.heap.size w w3 → Spare (fun j => (Value.slice A L.length c).ownBlock = some j) w3 w4 → Spare (fun j => j = q) w4 w5 → Below w5.heap.size w5 w6 → w6.ownsMap Tryz.prog 9 (plainElem Tryz.prog 3) m L.length D) := fun w3 w4 w5 w6 a1 a2 a3 a4 => by
    have h3 := (d.below a1).map
    have h4 := owns_same h3 (a2.rest m h3.lt hvm.out)
    have h5 := owns_same h4 (a3.rest m h4.lt fun e => hqm e.symm)
    exact owns_same h5 (a4.block m h5.lt)
  have FIN : Hid (∀ w3 w4 w5 w6 w7 v', Below w.heap.size w w3 → OwnS txtCells 1 9 w4 base v' ((dNm L).take (dPl L s) ++ [s] ++ (dNm L).drop (dPl L s)) → Spare (fun j => (Value.slice A L.length c).ownBlock = some j) w3 w4 → Wander w3 (.slice A L.length c) v' → Spare (fun j => j = q) w4 w5 → Blk w5 q 138 [v', .map (some m)] → Below w5.heap.size w5 w6 →
      w7.ownsMap Tryz.prog 9 (plainElem Tryz.prog 3) m (L.length + 1) (D.put (foldK s) (.lit (.int .i64 n))) → Spare (fun j => j = m) w6 w7 → TPost15 w base q m (.slice A L.length c) (dPut L s n) (.tuple #[]) (.returned (.tuple #[])) w7) := fun w3 w4 w5 w6 w7 v' a1 a2 a3 a4 a5 a6 a7 a8 a9 => by
    rw [← dNm_put (n := n) hno] at a2
    exact ⟨rfl, v', _, d.turned a1 a2 a3 a4 a5 a6 a7 a8 a9 (d.is.put hno) (d.ok.put hbad hno) (by rw [dPut_len]; omega) fun x hx => by
      rcases dPut_mem.1 hx with rfl | hx
      · exact hs
      · exact d.text x hx⟩
  have TB : Hid (∀ w3 w4 w5, Below w.heap.size w w3 → Spare (fun j => (Value.slice A L.length c).ownBlock = some j) w3 w4 → Spare (fun j => j = q) w4 w5 → base ≤ w5.heap.size ∧ TabsD base w5) := fun w3 w4 w5 a1 a2 a3 => by
    have b1 : Below base w w3 := a1.mono hb
    have s3 := Nat.le_trans hb a1.size
    have b2 : Below base w3 w4 := a2.below (fun j hj => (d.row.block hj).1) s3
    have s4 := Nat.le_trans s3 a2.size
    have b3 : Below base w4 w5 := a3.below (fun j hj => by rw [hj]; exact d.ge) s4
    exact ⟨Nat.le_trans s4 a3.size, htb.next ((b1.trans b2).trans b3)⟩
  have hN : L.length < maxLen := by unfold maxLen; omega
  obtain ⟨l, hl⟩ : ∃ l, l = L.length := ⟨_, rfl⟩
  obtain ⟨k, hk⟩ : ∃ k, k = dPl L s := ⟨_, rfl⟩
  obtain ⟨X, hX⟩ : ∃ X, X = dNm L := ⟨_, rfl⟩
  obtain ⟨L2, hL2⟩ : ∃ L2, L2 = dPut L s n := ⟨_, rfl⟩
  unfold PutPostS at CI0
  rw [← hL2] at FIN ⊢
  rw [← hX, ← hk] at CI0 FIN
  rw [← hk] at CP
  rw [← hl] at k0 CI0 BQ hvq hvm MP0 FIN TB hN ⊢
  clear hL2 hX hk hl d hbad hno htb hb hL hn
  go_enter Tryz.func164, Tryz.ntmps164
  go_upto_region 0 with fail
  refine wp_region_heldK 12 (fun w' => w'.cell? ⟨q, 0, none⟩ = some (.slice A l c)) (by kernel_rfl) ?_
  change wpAnyK _ _ _ _ _ _ _ _ _ w.drew
  have Sr0 : Hid (w.drew.cell? ⟨q, 0, none⟩ = some (.slice A l c)) := k0
  have br0 : Hid (True) := trivial
  have L0 : Hid (Below w.heap.size w w.drew) := (Below.refl _ _).drew
  refine wpAnyK_take (i := 0) (v := _) rfl (by kernel_rfl) (by kernel_rfl) (by kernel_rfl) (fun _ _ _ h => h) rfl (by kernel_rfl) (by kernel_rfl) (by decide) (yieldsIf_move (by kernel_rfl) (.tmp 0) rfl (.pointer (some ⟨q, 0, none⟩)) (by kernel_rfl)) Sr0.out ?_
  refine wpAnyK_take (i := 1) (v := _) rfl (by kernel_rfl) (by kernel_rfl) (by kernel_rfl) (fun _ _ _ h => h) rfl (by kernel_rfl) (by kernel_rfl) (by decide) (yieldsIf_move (by kernel_rfl) (.tmp 0) rfl (.pointer (some ⟨q, 0, none⟩)) (by kernel_rfl)) Sr0.out ?_
  refine wpAnyK_take (i := 2) (v := _) rfl (by kernel_rfl) (by kernel_rfl) (by kernel_rfl) (fun _ _ _ h => h) rfl (by kernel_rfl) (by kernel_rfl) (by decide) (yieldsIf_nil (by kernel_rfl) (.tmp 7) rfl ⟨q, 0, none⟩ (by kernel_rfl)) Sr0.out ?_
  refine wpAnyK_take (i := 3) (v := _) rfl (by kernel_rfl) (by kernel_rfl) (by kernel_rfl) (fun _ _ _ h => h) rfl (by kernel_rfl) (by kernel_rfl) (by decide) (yieldsIf_fld (by kernel_rfl) _ (.tmp 8) 0 rfl (.pointer (some ⟨q, 0, none⟩)) (.pointer (some ⟨q, 0, none⟩)) (by kernel_rfl) (fun w => by go_simp)) Sr0.out ?_
  refine wpAnyK_take (i := 4) (v := _) rfl (by kernel_rfl) (by kernel_rfl) (by kernel_rfl) (fun _ _ _ h => h) rfl (by kernel_rfl) (by kernel_rfl) (by decide) (yieldsIf_load_one (by kernel_rfl) _ (.tmp 9) rfl q (0) (by kernel_rfl) (.slice A l c) (fun _ h => h) _ Tryz.underlying78 rfl) Sr0.out ?_
  refine wpAnyK_take (i := 5) (v := _) rfl (by kernel_rfl) (by kernel_rfl) (by kernel_rfl) (fun _ _ _ h => h) rfl (by kernel_rfl) (by kernel_rfl) (by decide) (yieldsIf_move (by kernel_rfl) (.tmp 0) rfl (.pointer (some ⟨q, 0, none⟩)) (by kernel_rfl)) Sr0.out ?_
  refine wpAnyK_take (i := 6) (v := _) rfl (by kernel_rfl) (by kernel_rfl) (by kernel_rfl) (fun _ _ _ h => h) rfl (by kernel_rfl) (by kernel_rfl) (by decide) (yieldsIf_move (by kernel_rfl) (.tmp 1) rfl (.string s) (by kernel_rfl)) Sr0.out ?_
  refine wpAnyK_take (i := 8) (v := _) rfl (by kernel_rfl) (by kernel_rfl) (by kernel_rfl) (fun _ _ _ h => h) rfl (by kernel_rfl) (by kernel_rfl) (by decide) (yieldsIf_move (by kernel_rfl) (.tmp 1) rfl (.string s) (by kernel_rfl)) Sr0.out ?_
  refine wpAnyK_one 7 _ (by kernel_rfl) rfl fun K hK => ?_
  go_simp
  refine (CP.out _ L0.out).mono ?_
  rintro e vr1 ⟨rfl, l1⟩
  have Sr1 : Hid (vr1.cell? ⟨q, 0, none⟩ = some (.slice A l c)) := (l1.cell (lt_of_cellD Sr0.out)).trans Sr0.out
  have br1 : Hid (True) := trivial
  have L1 := Lib.hid (L0.out.trans (l1.mono L0.out.size))
  refine hK _ _ (fun _ => Sr1.out) ?_
  clear hK K
  clear l1
  refine wpAnyK_one 9 _ (by kernel_rfl) rfl fun K hK => ?_
  go_simp
  refine (SClone_any s _ hs).mono ?_
  rintro e vr2 ⟨rfl, l1⟩
  have Sr2 : Hid (vr2.cell? ⟨q, 0, none⟩ = some (.slice A l c)) := (l1.cell (lt_of_cellD Sr1.out)).trans Sr1.out
  have br2 : Hid (True) := trivial
  have L2 := Lib.hid (L1.out.trans (l1.mono L1.out.size))
  refine hK _ _ (fun _ => Sr2.out) ?_
  clear hK K
  clear l1
  refine wpAnyK_one 10 _ (by kernel_rfl) rfl fun K hK => ?_
  refine step_slice_blk rfl _ _ _ _ rfl Tryz.underlying78 [.string s] (by kernel_rfl) ?_
  intro gv w3 hgv hgv2 V3 l3
  have L3 := Lib.hid (L2.out.trans (l3.out.mono L2.out.size))
  have Sr3 : Hid (w3.cell? ⟨q, 0, none⟩ = some (.slice A l c)) := (l3.out.cell (lt_of_cellD Sr2.out)).trans Sr2.out
  have CI := Lib.hid (CI0.out w3 L3.out gv (Nat.le_trans L2.out.size hgv) V3.out)
  clear l3
  refine hK _ _ (fun _ => Sr3.out) ?_
  clear hK K
  refine wpAnyK_one 11 _ (by kernel_rfl) rfl fun K hK => ?_
  go_simp
  refine (CI.out).mono ?_
  rintro e vr4 ⟨v', rfl, o4, s4, n4⟩
  have Sr4 : Hid (vr4.cell? ⟨q, 0, none⟩ = some (.slice A l c)) := (spare_cellD s4 hvq.out (lt_of_cellD Sr3.out)).trans Sr3.out
  have br4 : Hid (True) := trivial
  have O4 := Lib.hid o4
  have S4 := Lib.hid s4
  have N4 := Lib.hid n4
  clear o4 s4 n4
  refine hK _ _ (fun _ => Sr4.out) ?_
  clear hK K
  refine wpAnyK_one 12 _ (by kernel_rfl) rfl fun K hK => ?_
  go_simp
  refine hK _ _ (fun h => Bool.noConfusion (show true = false from h)) ?_
  clear hK K
  refine wpAnyK_one 13 _ (by kernel_rfl) rfl fun K hK => ?_
  go_simp
  refine hK _ _ (fun h => Bool.noConfusion (show true = false from h)) ?_
  clear hK K
  refine wpAnyK_frame fun a1 ha1 => ?_
  have e1_19 : a1.eval (.tmp 19) = .pointer (some ⟨q, 0, none⟩) := by rw [ha1]; kernel_rfl
  have e1_17 : a1.eval (.tmp 17) = v' := by rw [ha1]; kernel_rfl
  refine wpAnyK_one 14 _ (by kernel_rfl) rfl fun K hK => ?_
  have BQ4 : Hid (Blk vr4 q 138 [.slice A l c, .map (some m)]) := (BQ.out.below L3.out BQ.out.lt).spare S4.out hvq.out
  refine step_store_fld (by kernel_rfl) 78 (.tmp 19) (.tmp 17) (by kernel_rfl) q 0 e1_19 138 [.slice A l c, .map (some m)] v' e1_17 BQ4 (show 0 < 2 by omega) (by kernel_rfl) O4.out.oneCD ?_
  intro w5 BQ5 P5 hq5
  refine hK _ _ (fun h => Bool.noConfusion (show true = false from h)) ?_
  clear hK K
  rw [ha1]
  refine wpAnyK_done (by kernel_rfl) ?_ _
  have k1 : w5.cell? ⟨q, 1, none⟩ = some (.map (some m)) := BQ5.out.cell 1
  have q5 : Hid (Spare (fun j => j = q) vr4 w5) := Spare.of_only P5.out
  obtain ⟨hb5, tb5⟩ := TB.out w3 vr4 w5 L3.out S4.out q5.out
  have TB5 := Lib.hid tb5
  have MP5 : Hid (∀ w6, Below w5.heap.size w5 w6 → w6.ownsMap Tryz.prog 9 (plainElem Tryz.prog 3) m l D) := fun w6 h => MP0.out w3 vr4 w5 w6 L3.out S4.out q5.out h
  clear tb5
  go_upto_region 1 with fail
  refine wp_region_held (S := fun w' => w'.cell? ⟨q, 1, none⟩ = some (.map (some m))) (by kernel_rfl) ?_
  change wpAnyH _ _ _ _ _ _ _ _ w5.drew
  have Ss0 : Hid (w5.drew.cell? ⟨q, 1, none⟩ = some (.map (some m))) := k1
  have bs0 : Hid (Below w5.heap.size w5 w5.drew) := (Below.refl _ _).drew
  refine wpAnyH_take (i := 0) (v := _) rfl (by kernel_rfl) (by kernel_rfl) (by kernel_rfl) (fun _ _ _ h => h) (yieldsIf_move (by kernel_rfl) (.tmp 0) rfl (.pointer (some ⟨q, 0, none⟩)) (by kernel_rfl)) Ss0.out ?_
  refine wpAnyH_take (i := 1) (v := _) rfl (by kernel_rfl) (by kernel_rfl) (by kernel_rfl) (fun _ _ _ h => h) (yieldsIf_nil (by kernel_rfl) (.tmp 20) rfl ⟨q, 0, none⟩ (by kernel_rfl)) Ss0.out ?_
  refine wpAnyH_take (i := 2) (v := _) rfl (by kernel_rfl) (by kernel_rfl) (by kernel_rfl) (fun _ _ _ h => h) (yieldsIf_fld (by kernel_rfl) _ (.tmp 21) 1 rfl (.pointer (some ⟨q, 0, none⟩)) (.pointer (some ⟨q, 1, none⟩)) (by kernel_rfl) (fun w => by go_simp)) Ss0.out ?_
  refine wpAnyH_take (i := 3) (v := _) rfl (by kernel_rfl) (by kernel_rfl) (by kernel_rfl) (fun _ _ _ h => h) (yieldsIf_load_one (by kernel_rfl) _ (.tmp 22) rfl q (1) (by kernel_rfl) (.map (some m)) (fun _ h => h) _ Tryz.underlying136 rfl) Ss0.out ?_
  refine wpAnyH_take (i := 4) (v := _) rfl (by kernel_rfl) (by kernel_rfl) (by kernel_rfl) (fun _ _ _ h => h) (yieldsIf_move (by kernel_rfl) (.tmp 1) rfl (.string s) (by kernel_rfl)) Ss0.out ?_
  refine wpAnyH_take (i := 6) (v := _) rfl (by kernel_rfl) (by kernel_rfl) (by kernel_rfl) (fun _ _ _ h => h) (yieldsIf_move (by kernel_rfl) (.tmp 2) rfl (.int .i64 n) (by kernel_rfl)) Ss0.out ?_
  refine wpAnyH_one 5 _ (by kernel_rfl) rfl fun K hK => ?_
  go_simp
  refine (Fold1_any s _ hs (TB5.out.at bs0.out hb5)).mono ?_
  rintro e vs1 ⟨rfl, l1⟩
  have Ss1 : Hid (vs1.cell? ⟨q, 1, none⟩ = some (.map (some m))) := (l1.cell (lt_of_cellD Ss0.out)).trans Ss0.out
  have bs1 : Hid (Below w5.heap.size w5 vs1) := Below.trans bs0.out (l1.mono (Below.size bs0.out))
  refine hK _ _ Ss1.out ?_
  clear hK K l1
  refine wpAnyH_one 7 _ (by kernel_rfl) rfl fun K hK => ?_
  refine step_putD (by kernel_rfl) (.tmp 23) (.tmp 25) (.tmp 26) 136 (by kernel_rfl) 9 3 dir_keyed Tryz.underlying136 m l D (by kernel_rfl) (MP5.out _ bs1.out) hN (.string (foldT s)) (.int .i64 n) (foldK s) (.lit (.int .i64 n)) (by kernel_rfl) (by kernel_rfl) (dir_key hs) HWF.out ?_
  intro w7 M7 S7
  have Ss2 : Hid (w7.cell? ⟨q, 1, none⟩ = some (.map (some m))) := (spare_cellD S7.out (fun e => hqm e) (lt_of_cellD Ss1.out)).trans Ss1.out
  refine hK _ _ Ss2.out ?_
  clear hK K
  refine wpAnyH_done (by kernel_rfl) ?_ _
  go_wp2_with fail
  go_end0
  exact FIN.out w3 vr4 w5 _ w7 v' L3.out O4.out S4.out N4.out q5.out BQ5.out bs1.out M7.out S7.out
set_option maxHeartbeats 8000000 in
theorem DDrop_any (w : World) (base q : Nat) (v : Value) (m : Nat) (D : DataW Unit) (L : List DItem) (d : PDr w base q v m D L) (hb : base ≤ w.heap.size) (htb : TabsD base w) (s : ByteArray) (hs : s.size ≤ 1048576) (he : dFindE L s = 0) :
    Calls Tryz.prog 163 #[.pointer (some ⟨q, 0, none⟩), .string s] w (TPost15 w base q m v (dRem L s) (.tuple #[])) := by
  have hlt := dPl_lt d.ok he
  have hsm := d.small
  obtain ⟨l, hl⟩ : ∃ l, L.length = l + 1 := ⟨L.length - 1, by omega⟩
  obtain ⟨g, c, rfl⟩ := d.row.form (by rw [dNm_len]; omega)
  have hdl : (dNm L).length = l + 1 := by rw [dNm_len, hl]
  rw [hdl] at d ⊢
  have k0 := d.c0
  have k1 := d.c1
  have hgq : Hid (¬ q = g) := fun e => own_ne_blk d.row d.blk (by decide) (by rw [e]; rfl)
  have hgm : Hid (¬ m = g) := fun e => own_ne_map d.row d.map (by rw [e]; rfl)
  have hqm : q ≠ m := blk_ne_map d.blk d.map
  have BQ : Hid (Blk w q 138 [.slice (some ⟨g, 0, none⟩) (l + 1) c, .map (some m)]) := d.blk
  have CP : Hid (∀ w', Below w.heap.size w w' → Calls Tryz.prog 95 #[.pointer (some ⟨q, 0, none⟩), .string s] w' fun e w2 => e = .returned (.int .i64 (dPl L s : Nat)) ∧ Below w'.heap.size w' w2) := fun w' hb' => DPlace_any w' base q _ m D L (d.below hb') (Nat.le_trans hb hb'.size) (htb.next (hb'.mono hb)) s hs
  have CD : Hid (∀ w3, Below w.heap.size w w3 → Calls Tryz.prog 197 #[.slice (some ⟨g, 0, none⟩) (l + 1) c, .int .i64 (dPl L s : Nat), .int .i64 ((dPl L s : Int) + 1)] w3 fun e w' =>
      e = .returned (.slice (some ⟨g, 0, none⟩) l c) ∧ OwnS txtCells 1 9 w' base (.slice (some ⟨g, 0, none⟩) l c) ((dNm L).take (dPl L s) ++ (dNm L).drop (dPl L s + 1)) ∧ Spare (fun j => j = g) w3 w') := fun w3 L3 =>
    SDelete_any w3 base g (l + 1) c (dPl L s) l (dNm L) (d.below L3).row rfl (by omega) (by omega)
  have MP0 : Hid (∀ w3 w4 w5 w6, Below w.heap.size w w3 → Spare (fun j => j = g) w3 w4 → Spare (fun j => j = q) w4 w5 → Below w5.heap.size w5 w6 → w6.ownsMap Tryz.prog 9 (plainElem Tryz.prog 3) m (l + 1) D) := fun w3 w4 w5 w6 a1 a2 a3 a4 => by
    have h3 := (d.below a1).map
    rw [hl] at h3
    have h4 := owns_same h3 (a2.rest m h3.lt hgm.out)
    have h5 := owns_same h4 (a3.rest m h4.lt fun e => hqm e.symm)
    exact owns_same h5 (a4.block m h5.lt)
  have FIN : Hid (∀ w3 w4 w5 w6 w7, Below w.heap.size w w3 → OwnS txtCells 1 9 w4 base (.slice (some ⟨g, 0, none⟩) l c) ((dNm L).take (dPl L s) ++ (dNm L).drop (dPl L s + 1)) → Spare (fun j => j = g) w3 w4 → Spare (fun j => j = q) w4 w5 → Blk w5 q 138 [.slice (some ⟨g, 0, none⟩) l c, .map (some m)] → Below w5.heap.size w5 w6 →
      w7.ownsMap Tryz.prog 9 (plainElem Tryz.prog 3) m (l + 1) (D.del (foldK s)) → Spare (fun j => j = m) w6 w7 → TPost15 w base q m (.slice (some ⟨g, 0, none⟩) (l + 1) c) (dRem L s) (.tuple #[]) (.returned (.tuple #[])) w7) := fun w3 w4 w5 w6 w7 a1 a2 a3 a5 a6 a7 a8 a9 => by
    rw [← dNm_rem d.ok he] at a2
    exact ⟨rfl, _, _, d.turned a1 a2 (a3.mono fun j _ h => by rw [h]; rfl) (fun j h => .inl h) a5 a6 a7 a8 a9 (d.is.del d.ok he) d.ok.rem (by have := dRem_len he; omega) fun x hx => d.text x ((dRem_mem d.ok).1 hx).1⟩
  have TB : Hid (∀ w3 w4 w5, Below w.heap.size w w3 → Spare (fun j => j = g) w3 w4 → Spare (fun j => j = q) w4 w5 → base ≤ w5.heap.size ∧ TabsD base w5) := fun w3 w4 w5 a1 a2 a3 => by
    have b1 : Below base w w3 := a1.mono hb
    have s3 := Nat.le_trans hb a1.size
    have hgb : base ≤ g := (d.row.block rfl).1
    have b2 : Below base w3 w4 := a2.below (fun j hj => by rw [hj]; exact hgb) s3
    have s4 := Nat.le_trans s3 a2.size
    have b3 : Below base w4 w5 := a3.below (fun j hj => by rw [hj]; exact d.ge) s4
    exact ⟨Nat.le_trans s4 a3.size, htb.next ((b1.trans b2).trans b3)⟩
  obtain ⟨i, hi⟩ : ∃ i, i = dPl L s := ⟨_, rfl⟩
  obtain ⟨X, hX⟩ : ∃ X, X = dNm L := ⟨_, rfl⟩
  obtain ⟨L2, hL2⟩ : ∃ L2, L2 = dRem L s := ⟨_, rfl⟩
  rw [← hL2] at FIN ⊢
  rw [← hX, ← hi] at CD FIN
  rw [← hi] at CP hlt
  have hadd : IntKind.i64.wrap ((i : Int) + 1) = (i : Int) + 1 := by rw [IntKind.wrap_i64]; omega
  clear hL2 hX hi hl hdl d htb hb he
  go_enter Tryz.func163, Tryz.ntmps163
  go_wp2_with fail
  refine (CP.out _ (Below.refl _ _)).mono ?_
  rintro e w3 ⟨rfl, l3⟩
  have L3 := Lib.hid l3
  have k03 : w3.cell? ⟨q, 0, none⟩ = some (.slice (some ⟨g, 0, none⟩) (l + 1) c) := (L3.out.cell (lt_of_cellD k0)).trans k0
  clear l3 CP k0
  go_wp2_with fail
  refine (CD.out _ L3.out).mono ?_
  rintro e w4 ⟨rfl, o4, s4⟩
  have O4 := Lib.hid o4
  have S4 := Lib.hid s4
  have BQ4 : Hid (Blk w4 q 138 [.slice (some ⟨g, 0, none⟩) (l + 1) c, .map (some m)]) := (BQ.out.below L3.out BQ.out.lt).spare S4.out hgq.out
  clear o4 s4 CD k03
  go_upto_region 2 with (first
    | ((with_reducible show wpList _ _ _ (⟨none, .store _ _ _, _, _, _, _⟩ :: _) _ _); go_loud (refine wpList_store_fld rfl 78 (.tmp 18) (.tmp 16) rfl q 0 rfl 138 [.slice (some ⟨g, 0, none⟩) (l + 1) c, .map (some m)] (.slice (some ⟨g, 0, none⟩) l c) rfl BQ4 (show 0 < 2 by omega) (by kernel_rfl) rfl ?_); intro w5 BQ5 P5 hq5)
    | fail)
  have k1 : w5.cell? ⟨q, 1, none⟩ = some (.map (some m)) := BQ5.out.cell 1
  have q5 : Hid (Spare (fun j => j = q) w4 w5) := Spare.of_only P5.out
  obtain ⟨hb5, tb5⟩ := TB.out w3 w4 w5 L3.out S4.out q5.out
  have TB5 := Lib.hid tb5
  have MP5 : Hid (∀ w6, Below w5.heap.size w5 w6 → w6.ownsMap Tryz.prog 9 (plainElem Tryz.prog 3) m (l + 1) D) := fun w6 h => MP0.out w3 w4 w5 w6 L3.out S4.out q5.out h
  clear tb5
  refine wp_region_held (S := fun w' => w'.cell? ⟨q, 1, none⟩ = some (.map (some m))) (by kernel_rfl) ?_
  change wpAnyH _ _ _ _ _ _ _ _ w5.drew
  have Ss0 : Hid (w5.drew.cell? ⟨q, 1, none⟩ = some (.map (some m))) := k1
  have bs0 : Hid (Below w5.heap.size w5 w5.drew) := (Below.refl _ _).drew
  refine wpAnyH_take (i := 0) (v := _) rfl (by kernel_rfl) (by kernel_rfl) (by kernel_rfl) (fun _ _ _ h => h) (yieldsIf_move (by kernel_rfl) (.tmp 0) rfl (.pointer (some ⟨q, 0, none⟩)) (by kernel_rfl)) Ss0.out ?_
  refine wpAnyH_take (i := 1) (v := _) rfl (by kernel_rfl) (by kernel_rfl) (by kernel_rfl) (fun _ _ _ h => h) (yieldsIf_nil (by kernel_rfl) (.tmp 19) rfl ⟨q, 0, none⟩ (by kernel_rfl)) Ss0.out ?_
  refine wpAnyH_take (i := 2) (v := _) rfl (by kernel_rfl) (by kernel_rfl) (by kernel_rfl) (fun _ _ _ h => h) (yieldsIf_fld (by kernel_rfl) _ (.tmp 20) 1 rfl (.pointer (some ⟨q, 0, none⟩)) (.pointer (some ⟨q, 1, none⟩)) (by kernel_rfl) (fun w => by go_simp)) Ss0.out ?_
  refine wpAnyH_take (i := 3) (v := _) rfl (by kernel_rfl) (by kernel_rfl) (by kernel_rfl) (fun _ _ _ h => h) (yieldsIf_load_one (by kernel_rfl) _ (.tmp 21) rfl q (1) (by kernel_rfl) (.map (some m)) (fun _ h => h) _ Tryz.underlying136 rfl) Ss0.out ?_
  refine wpAnyH_take (i := 4) (v := _) rfl (by kernel_rfl) (by kernel_rfl) (by kernel_rfl) (fun _ _ _ h => h) (yieldsIf_move (by kernel_rfl) (.tmp 1) rfl (.string s) (by kernel_rfl)) Ss0.out ?_
  refine wpAnyH_one 5 _ (by kernel_rfl) rfl fun K hK => ?_
  go_simp
  refine (Fold1_any s _ hs (TB5.out.at bs0.out hb5)).mono ?_
  rintro e vs1 ⟨rfl, l1⟩
  have Ss1 : Hid (vs1.cell? ⟨q, 1, none⟩ = some (.map (some m))) := (l1.cell (lt_of_cellD Ss0.out)).trans Ss0.out
  have bs1 : Hid (Below w5.heap.size w5 vs1) := Below.trans bs0.out (l1.mono (Below.size bs0.out))
  refine hK _ _ Ss1.out ?_
  clear hK K l1
  refine wpAnyH_one 6 _ (by kernel_rfl) rfl fun K hK => ?_
  refine step_delD (by kernel_rfl) (.tmp 22) (.tmp 24) 136 9 (by kernel_rfl) 3 dir_keyed Tryz.underlying136 m (l + 1) D (by kernel_rfl) (MP5.out _ bs1.out) (.string (foldT s)) (foldK s) (by kernel_rfl) (dir_key hs) ?_
  intro w7 M7 S7
  have Ss2 : Hid (w7.cell? ⟨q, 1, none⟩ = some (.map (some m))) := (spare_cellD S7.out (fun e => hqm e) (lt_of_cellD Ss1.out)).trans Ss1.out
  refine hK _ _ Ss2.out ?_
  clear hK K
  refine wpAnyH_done (by kernel_rfl) ?_ _
  go_wp2_with fail
  go_end0
  exact FIN.out w3 w4 w5 _ w7 L3.out O4.out S4.out q5.out BQ5.out bs1.out M7.out S7.out
end Go.Proofs.YtdgpbhdihhchgaaGreatDoor

namespace Go.Proofs.YtdgpbhdihhchgaaGreatDoor
set_option linter.all false
open Go.RowKit Go.ChangeShapes Go.WideShapes
set_option linter.unusedVariables false
set_option maxRecDepth 100000
/-- an act: what, where, how much, its bytes -/
structure ActV where
  act : Int
  pos : Int
  num : Int
  row : PartT
deriving Inhabited
def actCells (a : ActV) : List Value := [.int .i64 a.act, .int .i64 a.pos, .int .i64 a.num, partV a.row]
def I64 (x : Int) : Prop := -9223372036854775808 ≤ x ∧ x ≤ 9223372036854775807
/-- its numbers are numbers, its bytes lie below block B -/
structure ActOk (w : World) (B : Nat) (a : ActV) : Prop where
  act : I64 a.act
  pos : I64 a.pos
  num : I64 a.num
  row : Holds w B a.row.1 a.row.2.1 a.row.2.2.1 a.row.2.2.2
  cap : a.row.2.2.1 ≤ 140737488351232
theorem ActOk.below {w w' : World} {B : Nat} {a : ActV} (h : ActOk w B a) (hb : Below B w w') : ActOk w' B a := ⟨h.act, h.pos, h.num, h.row.below hb, h.cap⟩
theorem ActOk.mono {w : World} {B B' : Nat} {a : ActV} (h : ActOk w B a) (hB : B ≤ B') : ActOk w B' a := ⟨h.act, h.pos, h.num, h.row.mono hB, h.cap⟩
/-- the slice value '.slice A n c' holds acts, in memory below block B -/
structure LAct (w : World) (B : Nat) (A : Option Addr) (n c : Nat) (l : List ActV) : Prop where
  row : HoldsS actCells 4 w B A n c l
  each : ∀ x ∈ l, ActOk w B x
section
variable {w w' : World} {B B' : Nat} {A : Option Addr} {n c : Nat} {l : List ActV}
theorem LAct.below (h : LAct w B A n c l) (hb : Below B w w') : LAct w' B A n c l := ⟨h.row.below hb, fun x hx => (h.each x hx).below hb⟩
theorem LAct.mono (h : LAct w B A n c l) (hB : B ≤ B') : LAct w B' A n c l := ⟨h.row.mono hB, fun x hx => (h.each x hx).mono hB⟩
theorem LAct.over (h : LAct w w.heap.size A n c l) (hb : Below w.heap.size w w') : LAct w' w'.heap.size A n c l := (h.below hb).mono hb.size
theorem LAct.len (h : LAct w B A n c l) : l.length = n := h.row.len
theorem LAct.head (h : LAct w B A c c l) (hn : n ≤ c) : LAct w B A n c (l.take n) := ⟨h.row.head hn, fun x hx => h.each x (List.mem_of_mem_take hx)⟩
/-- the cells of one act -/
theorem LAct.at (h : LAct w B A n c l) {i : Nat} (hi : i < n) : ∃ b off x, A = some ⟨b, off, none⟩ ∧ b < B ∧ l[i]? = some x ∧ ActOk w B x ∧ w.rangeAt b (off + i * 4) (actCells x) := by
  obtain ⟨b, off, e, hb, hc⟩ := h.row.cells (by omega)
  have hl := h.row.len
  have hx : l[i]? = some l[i] := List.getElem?_eq_getElem (by omega)
  exact ⟨b, off, l[i], e, hb, hx, h.each _ (List.getElem_mem _), h.row.range e hi hx⟩
end
section
variable {H : Type} {enc : TypeId × Value → H} {W : World} {base : Nat} {v : Value} {d : DataW H} {p : List MemPlace}
end
end Go.Proofs.YtdgpbhdihhchgaaGreatDoor

namespace Go.Proofs.YtdgpbhdihhchgaaGreatDoor
set_option linter.all false
set_option maxRecDepth 100000
open Go.RowKit
set_option linter.unusedVariables false
/-- an extent: where it stands, its bytes -/
abbrev ExtV := Nat × PartT
def extCells (x : ExtV) : List Value := [.int .i64 (x.1 : Int), partV x.2]
theorem extCells_len (x : ExtV) : (extCells x).length = 2 := rfl
theorem extCells_one (x : ExtV) : ∀ u ∈ extCells x, u.oneCell' = true := by
  intro u hu
  simp only [extCells, List.mem_cons, List.not_mem_nil, or_false] at hu
  rcases hu with rfl | rfl <;> rfl
/-- what the extents are -/
def extsL (l : List ExtV) : List (Nat × List Int) := l.map fun x => (x.1, x.2.2.2.2)
/-- the slice value '.slice A n c' holds extents, in memory below block B -/
structure LExt (w : World) (B : Nat) (A : Option Addr) (n c : Nat) (l : List ExtV) : Prop where
  row : HoldsS extCells 2 w B A n c l
  each : ∀ x ∈ l, Holds w B x.2.1 x.2.2.1 x.2.2.2.1 x.2.2.2.2
/-- extents that the call has made -/
structure OExt (Z : Bool) (w : World) (base : Nat) (v : Value) (l : List ExtV) : Prop where
  row : OwnS extCells 2 158 w base v l
  each : ∀ x ∈ l, OwnB Z w base (partV x.2) x.2.2.2.2 ∧ Bytes x.2.2.2.2 ∧ x.2.2.2.2.length ≤ 140737488355328
  apart : l.Pairwise fun x y => ∀ i, (partV x.2).ownBlock = some i → (partV y.2).ownBlock ≠ some i
section
variable {Z : Bool} {w w' : World} {B B' base base' : Nat} {v : Value} {l : List ExtV} {A : Option Addr} {n c : Nat} {S : Nat → Prop}
theorem LExt.below (h : LExt w B A n c l) (hb : Below B w w') : LExt w' B A n c l := ⟨h.row.below hb, fun x hx => (h.each x hx).below hb⟩
theorem LExt.mono (h : LExt w B A n c l) (hB : B ≤ B') : LExt w B' A n c l := ⟨h.row.mono hB, fun x hx => (h.each x hx).mono hB⟩
theorem LExt.over (h : LExt w w.heap.size A n c l) (hb : Below w.heap.size w w') : LExt w' w'.heap.size A n c l := (h.below hb).mono hb.size
theorem LExt.drewN (h : LExt w B A n c l) (k : Nat) : LExt (w.drewN k) B A n c l := ⟨h.row.drewN k, fun x hx => (h.each x hx).drewN k⟩
theorem LExt.len (h : LExt w B A n c l) : l.length = n := h.row.len
theorem LExt.at (h : LExt w B A n c l) {i : Nat} (hi : i < n) : ∃ b off x, A = some ⟨b, off, none⟩ ∧ b < B ∧ l[i]? = some x ∧ w.cell? ⟨b, off + i * 2, none⟩ = some (.int .i64 (x.1 : Int)) ∧ w.cell? ⟨b, off + i * 2 + 1, none⟩ = some (partV x.2) ∧ Holds w B x.2.1 x.2.2.1 x.2.2.2.1 x.2.2.2.2 := by
  obtain ⟨b, off, e, hb, hc⟩ := h.row.cells (by omega)
  have hl := h.row.len
  have hx : l[i]? = some l[i] := List.getElem?_eq_getElem (by omega)
  exact ⟨b, off, l[i], e, hb, hx, hc i _ hx 0 _ rfl, by rw [Nat.add_assoc]; exact hc i _ hx 1 _ rfl, h.each _ (List.getElem_mem _)⟩
theorem OExt.nil (Z : Bool) (w : World) (base : Nat) : OExt Z w base (.slice none 0 0) [] := ⟨OwnS.nil _ _ _ _ _, (fun x h => by cases h), List.Pairwise.nil⟩
theorem OExt.below (h : OExt Z w base v l) (hb : Below w.heap.size w w') : OExt Z w' base v l := ⟨h.row.below hb, fun x hx => ⟨(h.each x hx).1.below hb, (h.each x hx).2⟩, h.apart⟩
theorem OExt.mono (h : OExt Z w base v l) (hb : base' ≤ base) : OExt Z w base' v l := ⟨h.row.mono hb, fun x hx => ⟨(h.each x hx).1.mono hb, (h.each x hx).2⟩, h.apart⟩
theorem OExt.lst (h : OExt Z w base v l) : ∃ A n c, v = .slice A n c ∧ LExt w w.heap.size A n c l := by
  obtain ⟨A, n, c, rfl, hh⟩ := h.row.holds (by decide) extCells_len
  exact ⟨A, n, c, rfl, hh, fun x hx => (h.each x hx).1.holds (h.each x hx).2.1 (h.each x hx).2.2⟩
theorem OExt.spare (h : OExt Z w base v l) (a : Spare S w w') (hv : ∀ i, v.ownBlock = some i → ¬ S i) (hp : ∀ x ∈ l, ∀ i, (partV x.2).ownBlock = some i → ¬ S i) : OExt Z w' base v l :=
  ⟨h.row.keep fun i _ hi hcs => a.rest i (Array.getElem?_eq_some_iff.1 hcs).1 (hv i hi), fun x hx => ⟨(h.each x hx).1.spare a (hp x hx), (h.each x hx).2⟩, h.apart⟩
end
theorem extsL_len (l : List ExtV) : (extsL l).length = l.length := List.length_map _
end Go.Proofs.YtdgpbhdihhchgaaGreatDoor

namespace Go.Proofs.YtdgpbhdihhchgaaGreatDoor
set_option linter.all false
set_option maxRecDepth 100000
open Go.RowKit
set_option linter.unusedVariables false
theorem size_ext : (Tryz.prog.info? 158).map (·.size) = some 2 := by kernel_rfl
theorem info_ext : (Tryz.prog.info? 158).map (fun i => (i.zero, i.size, i.bytes)) = some (some (.agg #[.int .i64 0, .slice none 0 0]), 2, 32) := by kernel_rfl
section
variable {Z : Bool} {w w' w4 w5 w6 : World} {base q n c : Nat} {v v' v5 : Value} {l r : List ExtV} {y y' : ExtV} {xs : List Int}
/-- a piece's row is not the row of the extents -/
theorem OExt.off (h : OExt Z w base v l) {x : ExtV} (hx : x ∈ l) {i : Nat} (hi : (partV x.2).ownBlock = some i) : v.ownBlock ≠ some i := fun hv => by
  obtain ⟨_, cs, h1⟩ := h.row.block hv
  obtain ⟨_, cs', h2⟩ := (h.each x hx).1.1.block hi
  rw [h1] at h2
  simp only [Option.some.injEq, Obj.cells.injEq] at h2
  exact absurd h2.2.1 (by decide)
/-- a new one with no bytes yet -/
theorem OExt.push (h : OExt Z w base v l) (ho : OwnS extCells 2 158 w' base v' (l ++ [y])) (a : Spare (fun j => v.ownBlock = some j) w w') (hy : y.2 = (none, 0, 0, [])) : OExt Z w' base v' (l ++ [y]) := by
  refine ⟨ho, fun x hx => ?_, ?_⟩
  · rcases List.mem_append.1 hx with hx | hx
    · exact ⟨(h.each x hx).1.spare a fun i hi hv => h.off hx hi hv, (h.each x hx).2⟩
    · obtain rfl := List.mem_singleton.1 hx
      rw [hy]
      exact ⟨.of_z (.inl ⟨rfl, rfl⟩) Z, (fun _ h => by cases h), Nat.zero_le _⟩
  · refine List.pairwise_append.2 ⟨h.apart, List.pairwise_singleton _ _, fun x _ z hz i _ hzi => ?_⟩
    obtain rfl := List.mem_singleton.1 hz
    rw [hy] at hzi
    cases hzi
end
end Go.Proofs.YtdgpbhdihhchgaaGreatDoor

namespace Go.Proofs.YtdgpbhdihhchgaaGreatDoor
set_option linter.all false
open Go.RowKit
theorem Own.only {w w' : World} {base g : Nat} {v : Value} {xs : List Int} (h : Own w base v xs) (hO : Only g w w') (hg : g < base) : Own w' base v xs := by
  refine ⟨h.1, ?_⟩
  rcases h.2 with h0 | ⟨q, cap, cur, rfl, h1, hq, rest⟩
  · exact .inl h0
  · exact .inr ⟨q, cap, cur, rfl, h1, (hO.rest q (by omega)).trans hq, rest⟩
end Go.Proofs.YtdgpbhdihhchgaaGreatDoor

namespace Go.Proofs.YtdgpbhdihhchgaaGreatDoor
set_option linter.all false
open Go.RowKit
set_option linter.unusedVariables false
set_option maxRecDepth 100000
/-- a slice of bytes, with what lies behind it in its block: none, or in a block from lo on, below hi -/
def Loose (w : World) (lo hi : Nat) (v : Value) : Prop := v = .slice none 0 0 ∨ ∃ (g n N : Nat) (zs : List Int), v = .slice (some ⟨g, 0, none⟩) n N ∧ n ≤ N ∧ N ≤ maxLen ∧ zs.length = N ∧ lo ≤ g ∧ g < hi ∧ Row w g zs
theorem Loose.of {w : World} {lo b : Nat} {v : Value} {xs : List Int} (h : OwnZ .u8 5 w b v xs) (hl : lo ≤ b) : Loose w lo w.heap.size v := by
  rcases h with ⟨rfl, _⟩ | ⟨g, m, rfl, hg, hm, hr⟩
  · exact .inl rfl
  · exact .inr ⟨g, _, _, _, rfl, by omega, hm, by simp, by omega, Row.lt hr, hr⟩
theorem Loose.over {w w' : World} {lo hi : Nat} {v : Value} (h : Loose w lo hi v) (hb : Below w.heap.size w w') : Loose w' lo hi v := by
  rcases h with rfl | ⟨g, n, N, zs, rfl, h1, h2, h3, h4, h5, hr⟩
  · exact .inl rfl
  · exact .inr ⟨g, n, N, zs, rfl, h1, h2, h3, h4, h5, hr.over hb⟩
theorem Loose.only {w w' : World} {lo hi q : Nat} {v : Value} (h : Loose w lo hi v) (hO : Only q w w') (hq : q < lo) : Loose w' lo hi v := by
  rcases h with rfl | ⟨g, n, N, zs, rfl, h1, h2, h3, h4, h5, hr⟩
  · exact .inl rfl
  · exact .inr ⟨g, n, N, zs, rfl, h1, h2, h3, h4, h5, hr.only hO (by omega)⟩
end Go.Proofs.YtdgpbhdihhchgaaGreatDoor

namespace Go.Proofs.YtdgpbhdihhchgaaGreatDoor
set_option linter.all false
set_option maxRecDepth 100000
open Go.RowKit
set_option linter.unusedVariables false
/-- the slice value '.slice A n c' holds extents, all in memory from block base on and below block top -/
structure XExt (w : World) (base top : Nat) (A : Option Addr) (n c : Nat) (l : List ExtV) : Prop where
  lst : LExt w top A n c l
  row : ∀ x, A = some x → base ≤ x.block ∧ x.block < top
  each : ∀ x ∈ l, ∀ y, x.2.1 = some y → base ≤ y.block ∧ y.block < top
  loose : ∀ x ∈ l, Loose w base top (partV x.2)
theorem Loose.below {w w' : World} {lo hi : Nat} {v : Value} (h : Loose w lo hi v) (hb : Below hi w w') : Loose w' lo hi v := by
  rcases h with rfl | ⟨g, n, N, zs, rfl, h1, h2, h3, h4, h5, hr⟩
  · exact .inl rfl
  · exact .inr ⟨g, n, N, zs, rfl, h1, h2, h3, h4, h5, hr.below hb h5⟩
theorem XExt.below {w w' : World} {base top n c : Nat} {A : Option Addr} {l : List ExtV} (h : XExt w base top A n c l) (hb : Below top w w') : XExt w' base top A n c l := ⟨h.lst.below hb, h.row, h.each, fun x hx => (h.loose x hx).below hb⟩
def ptr (q : Nat) : Value := .pointer (some ⟨q, 0, none⟩)
section
variable {w w' : World} {b q g : Nat} {S S' : Nat → Prop} {vB vZ vB' vZ' : Value} {B B' C C' : List Int} {Z Z' D D' : List Bool}
end
end Go.Proofs.YtdgpbhdihhchgaaGreatDoor

namespace Go.Proofs.YtdgpbhdihhchgaaGreatDoor
set_option linter.all false
set_option maxRecDepth 100000
open Go.RowKit
set_option linter.unusedVariables false
structure DrI where
  /-- the tables that the program's words about texts stand on lie below b -/
  tb : Nat → World → Prop
  tbNext : ∀ {b : Nat} {w w' : World}, tb b w → Below b w w' → tb b w'
  tbUp : ∀ {b b' : Nat} {w : World}, tb b w → b ≤ b' → tb b' w
  /-- at q lies a directory of names L, made of the blocks S, all from base on -/
  is : World → Nat → Nat → List DItem → (Nat → Prop) → Prop
  ge : ∀ {w : World} {b q : Nat} {L : List DItem} {S : Nat → Prop}, is w b q L S → ∀ j, S j → b ≤ j ∧ j < w.heap.size
  ok : ∀ {w : World} {b q : Nat} {L : List DItem} {S : Nat → Prop}, is w b q L S → Dok L ∧ L.length ≤ 4096 ∧ ∀ x ∈ L, x.1.size ≤ 1048576
  keep : ∀ {w w' : World} {b q : Nat} {L : List DItem} {S S' : Nat → Prop}, is w b q L S → Spare S' w w' → (∀ j, S j → ¬ S' j) → is w' b q L S
  mono : ∀ {w : World} {b b' q : Nat} {L : List DItem} {S : Nat → Prop}, is w b q L S → b' ≤ b → is w b' q L S
  new : ∀ {w : World} {b : Nat}, tb b w → b ≤ w.heap.size → Calls Tryz.prog 120 #[] w fun e w' => ∃ q S, e = .returned (ptrD q) ∧ is w' w.heap.size q [] S ∧ Below w.heap.size w w'
  len : ∀ {w : World} {b q : Nat} {L : List DItem} {S : Nat → Prop}, is w b q L S → Calls Tryz.prog 73 #[ptrD q] w fun e w' => e = .returned (.int .i64 (L.length : Nat)) ∧ ∃ k, w.drewN k = w'
  find : ∀ {w : World} {b q : Nat} {L : List DItem} {S : Nat → Prop}, is w b q L S → tb b w → b ≤ w.heap.size → ∀ {s : ByteArray}, s.size ≤ 1048576 → Calls Tryz.prog 42 #[ptrD q, .string s] w fun e w' => e = .returned (.tuple #[.int .i64 (dFind L s).2, .string (dFind L s).1, .int .i64 (dFindE L s)]) ∧ Below w.heap.size w w'
  add : ∀ {w : World} {b q : Nat} {L : List DItem} {S : Nat → Prop}, is w b q L S → tb b w → b ≤ w.heap.size → ∀ {s : ByteArray} {n : Int}, s.size ≤ 1048576 → I64D n → L.length < 4096 → Calls Tryz.prog 119 #[ptrD q, .string s, .int .i64 n] w (DTurn is w b q S (dAddE L s) (dAdd L s n))
  remove : ∀ {w : World} {b q : Nat} {L : List DItem} {S : Nat → Prop}, is w b q L S → tb b w → b ≤ w.heap.size → ∀ {s : ByteArray}, s.size ≤ 1048576 → Calls Tryz.prog 118 #[ptrD q, .string s] w (DTurn is w b q S (dFindE L s) (dRem L s))
  list : ∀ {w : World} {b q : Nat} {L : List DItem} {S : Nat → Prop}, is w b q L S → tb b w → b ≤ w.heap.size → ∀ {p a : ByteArray} {m : Int}, p.size ≤ 1048576 → a.size ≤ 1048576 → I64D m → Calls Tryz.prog 54 #[ptrD q, .string p, .string a, .int .i64 m] w (LsPost w (dListN L p a m) (dListM L p a m) (dListE L p a m))
structure FiI where
  /-- at q lies a file of bytes B, written where Z says, made of the blocks S, all from base on -/
  is : World → Nat → Nat → List Int → List Bool → (Nat → Prop) → Prop
  ge : ∀ {w : World} {b q : Nat} {B : List Int} {Z : List Bool} {S : Nat → Prop}, is w b q B Z S → ∀ j, S j → b ≤ j ∧ j < w.heap.size
  okB : ∀ {w : World} {b q : Nat} {B : List Int} {Z : List Bool} {S : Nat → Prop}, is w b q B Z S → B.length = Z.length ∧ B.length ≤ 65536 ∧ Bytes B
  keep : ∀ {w w' : World} {b q : Nat} {B : List Int} {Z : List Bool} {S S' : Nat → Prop}, is w b q B Z S → Spare S' w w' → (∀ j, S j → ¬ S' j) → is w' b q B Z S
  mono : ∀ {w : World} {b b' q : Nat} {B : List Int} {Z : List Bool} {S : Nat → Prop}, is w b q B Z S → b' ≤ b → is w b' q B Z S
  new : ∀ w : World, Calls Tryz.prog 121 #[] w fun e w' => ∃ q S, e = .returned (ptr q) ∧ is w' w.heap.size q [] [] S ∧ Below w.heap.size w w'
  size : ∀ {w : World} {b q : Nat} {B : List Int} {Z : List Bool} {S : Nat → Prop}, is w b q B Z S → Calls Tryz.prog 61 #[ptr q] w fun e w' => e = .returned (.int .i64 (B.length : Nat)) ∧ ∃ k, w.drewN k = w'
  read : ∀ {w : World} {b q : Nat} {B : List Int} {Z : List Bool} {S : Nat → Prop}, is w b q B Z S → ∀ {a k : Int}, I64 a → I64 k → Calls Tryz.prog 63 #[ptr q, .int .i64 a, .int .i64 k] w fun e w' =>
    ∃ v, e = .returned (.tuple #[v, .int .i64 (exRdE B.length a k)]) ∧ Own w' w.heap.size v (exRd B a k) ∧ Loose w' w.heap.size w'.heap.size v ∧ Below w.heap.size w w'
  write : ∀ {w : World} {b q : Nat} {B : List Int} {Z : List Bool} {S : Nat → Prop}, is w b q B Z S → ∀ {a : Int} {A : Option Addr} {n c : Nat} {xs : List Int}, I64 a → Holds w w.heap.size A n c xs → c ≤ 140737488355328 → (0 < n → ∀ x, A = some x → ¬ S x.block) → b ≤ w.heap.size →
    Calls Tryz.prog 76 #[ptr q, .int .i64 a, .slice A n c] w fun e w' => e = .returned (.int .i64 (exWrE a xs.length)) ∧ ∃ S', is w' b q (exWr 0 B a xs) (exWr false Z a (List.replicate xs.length true)) S' ∧ Spare S w w' ∧ ∀ j, S' j → S j ∨ w.heap.size ≤ j
  cut : ∀ {w : World} {b q : Nat} {B : List Int} {Z : List Bool} {S : Nat → Prop}, is w b q B Z S → ∀ {s : Int}, I64 s → b ≤ w.heap.size →
    Calls Tryz.prog 78 #[ptr q, .int .i64 s] w fun e w' => e = .returned (.int .i64 (exCutE s)) ∧ ∃ S', is w' b q (exCut 0 B s) (exCut false Z s) S' ∧ Spare S w w' ∧ ∀ j, S' j → S j ∨ w.heap.size ≤ j
end Go.Proofs.YtdgpbhdihhchgaaGreatDoor

namespace Go.Proofs.YtdgpbhdihhchgaaGreatDoor
set_option linter.all false
set_option maxRecDepth 100000
open Go.RowKit
set_option linter.unusedVariables false
/-- where a node lies: its block, its directory's or file's, and what that is made of -/
structure PN where
  g : Nat
  q : Nat
  S : Nat → Prop
abbrev VN := VNode × PN
def pnEnt (y : VN) : Value := .pointer (if y.1.kind = 1 then some ⟨y.2.q, 0, none⟩ else none)
def pnDat (y : VN) : Value := .pointer (if y.1.kind = 2 then some ⟨y.2.q, 0, none⟩ else none)
def pnCells (y : VN) : List Value := [.int .u8 y.1.kind, .int .i64 y.1.par, strV y.1.name, pnEnt y, pnDat y]
def nums (M : List VN) : List (Int × Nat) := M.map fun y => (y.1.n, y.2.g)
def ptrR (v : Value) : Option (DataW Unit × List MemPlace) := match v with
  | .pointer none => some (.lit (.int .i64 (-1)), [])
  | .pointer (some a) => if a = ⟨a.block, 0, none⟩ then some (.lit (.int .i64 (a.block : Nat)), []) else none
  | _ => none
theorem ptrR_mk (g : Nat) : ptrR (ptrV g) = some (.lit (.int .i64 (g : Nat)), []) := by simp [ptrR, ptrV]
theorem ptrR_inv {v : Value} {g : Nat} {ps : List MemPlace} (h : ptrR v = some (.lit (.int .i64 (g : Nat)), ps)) : v = ptrV g := by
  unfold ptrR at h
  split at h
  · simp only [Option.some.injEq, Prod.mk.injEq, DataW.lit.injEq, Lit.int.injEq] at h
    omega
  · split at h
    · rename_i a ha
      simp only [Option.some.injEq, Prod.mk.injEq, DataW.lit.injEq, Lit.int.injEq] at h
      have : a.block = g := by omega
      rw [ha, this]
      rfl
    · cases h
  · cases h
theorem ptrR_none {v : Value} {ps : List MemPlace} (h : ptrR v = some (.lit (.int .i64 (-1)), ps)) : v = .pointer none := by
  unfold ptrR at h
  split at h
  · rfl
  · split at h
    · simp only [Option.some.injEq, Prod.mk.injEq, DataW.lit.injEq, Lit.int.injEq] at h
      omega
    · cases h
  · cases h
theorem ptrR_any {v : Value} {y : DataW Unit × List MemPlace} (h : ptrR v = some y) : ∃ c, v = Value.pointer c := by
  unfold ptrR at h
  split at h
  · exact ⟨_, rfl⟩
  · exact ⟨_, rfl⟩
  · cases h
/-- the map D holds the nodes' blocks by their numbers -/
structure NMap (D : DataW Unit) (N : List (Int × Nat)) : Prop where
  tidy : Maps.Tidy D
  rise : N.Pairwise fun p r => p.1 < r.1
  has : ∀ n : Int, Maps.has D (.int .i64 n) = N.any fun p => decide (p.1 = n)
  num : ∀ p ∈ N, ∀ z, D.atKey (.int .i64 p.1) z = .lit (.int .i64 (p.2 : Nat))
  size : Maps.size D = N.length
theorem nkey (n : Int) : WideAt.IsKeyLit (.int .i64 n) := trivial
theorem NMap.put {D : DataW Unit} {N : List (Int × Nat)} {n : Int} {g : Nat} (h : NMap D N) (hn : ∀ p ∈ N, p.1 < n) : NMap (D.put (.int .i64 n) (.lit (.int .i64 (g : Nat)))) (N ++ [(n, g)]) := by
  have hno : Maps.has D (.int .i64 n) = false := by
    rw [h.has, List.any_eq_false]
    intro p hp e
    have := hn p hp
    simp only [decide_eq_true_eq] at e
    omega
  refine ⟨h.tidy.put (nkey n) _, ?_, fun k => ?_, fun p hp z => ?_, ?_⟩
  · exact List.pairwise_append.2 ⟨h.rise, List.pairwise_singleton _ _, fun p hp r hr => by rw [List.mem_singleton.1 hr]; exact hn p hp⟩
  · rw [List.any_append]
    by_cases hk : n = k
    · subst hk
      rw [Maps.has_put_same h.tidy.isMap (nkey n)]
      simp
    · rw [Maps.has_put_other (fun e => hk (by injection e with _ e; exact e.symm)), h.has]
      simp [hk]
  · rcases List.mem_append.1 hp with hp | hp
    · have := hn p hp
      rw [Maps.atKey_put_other (fun e => by injection e with _ e; omega)]
      exact h.num p hp z
    · rw [List.mem_singleton.1 hp]
      exact Maps.atKey_put_same h.tidy.isMap (nkey n) _ _
  · rw [Maps.size_put h.tidy, if_neg (by rw [hno]; decide), h.size, List.length_append]
    rfl
theorem NMap.del {D : DataW Unit} {N N' : List (Int × Nat)} {n : Int} (h : NMap D N) (hs : N'.Sublist N) (hm : ∀ p, p ∈ N' ↔ p ∈ N ∧ p.1 ≠ n) (hl : N'.length + 1 = N.length) (hn : ∃ p ∈ N, p.1 = n) : NMap (D.del (.int .i64 n)) N' := by
  refine ⟨h.tidy.del _, h.rise.sublist hs, fun k => ?_, fun p hp z => ?_, ?_⟩
  · by_cases hk : n = k
    · subst hk
      rw [Maps.has_del_same]
      symm
      rw [List.any_eq_false]
      intro p hp
      simpa using ((hm p).1 hp).2
    · rw [Maps.has_del_other (fun e => hk (by injection e with _ e; exact e.symm)), h.has, Bool.eq_iff_iff, List.any_eq_true, List.any_eq_true]
      constructor
      · rintro ⟨p, hp, e⟩
        refine ⟨p, (hm p).2 ⟨hp, fun e2 => ?_⟩, e⟩
        simp only [decide_eq_true_eq] at e
        exact hk (e2.symm.trans e)
      · rintro ⟨p, hp, e⟩
        exact ⟨p, ((hm p).1 hp).1, e⟩
  · obtain ⟨h1, h2⟩ := (hm p).1 hp
    rw [Maps.atKey_del_other (fun e => h2 (by injection e with _ e))]
    exact h.num p h1 z
  · have h1 := Maps.size_del h.tidy (k := .int .i64 n)
    obtain ⟨p, hp, e⟩ := hn
    have h2 : Maps.has D (.int .i64 n) = true := by
      rw [h.has, List.any_eq_true]
      exact ⟨p, hp, by simpa using e⟩
    rw [h2, h.size] at h1
    simp at h1
    omega
theorem vol_keyed : Maps.Keyed Tryz.prog 3 := Maps.int_keyed Tryz.underlying3
theorem vol_zero (w : World) : (zeroValue 81).run Tryz.prog w = .ok (.pointer none) w := by kernel_rfl
theorem vol_key {n : Int} (h : I64V n) : keyOf Tryz.prog 3 (.int .i64 n) = some (.int .i64 n) := Maps.keyOf_int_mk Tryz.underlying3 (WalkArith.wf_i64 h)
abbrev VMap (w : World) (m N : Nat) (D : DataW Unit) : Prop := w.ownsMap Tryz.prog 3 ptrR m N D
theorem VMap.look1 {w : World} {m K : Nat} {D : DataW Unit} {N : List (Int × Nat)} {n : Int} {g : Nat} (h : VMap w m K D) (k : NMap D N) (hp : (n, g) ∈ N) (hn : I64V n) : (Instr.lookup 69 (.map (some m)) (.int .i64 n) false).run Tryz.prog w = .ok (ptrV g) w := by
  obtain ⟨u, ps, hrun, hu⟩ := World.ownsMap.lookup h vol_keyed Tryz.underlying69 (vol_zero w) (zd := .lit (.int .i64 (-1))) (zp := []) rfl (vol_key hn)
  rw [k.num _ hp] at hu
  rw [hrun, ptrR_inv hu]
theorem VMap.look2 {w : World} {m K : Nat} {D : DataW Unit} {N : List (Int × Nat)} {n : Int} {g : Nat} (h : VMap w m K D) (k : NMap D N) (hp : (n, g) ∈ N) (hn : I64V n) : (Instr.lookup 69 (.map (some m)) (.int .i64 n) true).run Tryz.prog w = .ok (.tuple #[ptrV g, .bool true]) w := by
  obtain ⟨u, ps, hrun, hu⟩ := World.ownsMap.look_ok h vol_keyed Tryz.underlying69 (vol_zero w) (zd := .lit (.int .i64 (-1))) (zp := []) rfl (vol_key hn)
  rw [k.num _ hp] at hu
  have e : Maps.has D (.int .i64 n) = true := by
    rw [k.has, List.any_eq_true]
    exact ⟨_, hp, by simp⟩
  rw [hrun, ptrR_inv hu, e]
theorem VMap.look0 {w : World} {m K : Nat} {D : DataW Unit} {N : List (Int × Nat)} {n : Int} (h : VMap w m K D) (k : NMap D N) (hp : ∀ p ∈ N, p.1 ≠ n) (hn : I64V n) : (Instr.lookup 69 (.map (some m)) (.int .i64 n) true).run Tryz.prog w = .ok (.tuple #[.pointer none, .bool false]) w := by
  obtain ⟨u, ps, hrun, hu⟩ := World.ownsMap.look_ok h vol_keyed Tryz.underlying69 (vol_zero w) (zd := .lit (.int .i64 (-1))) (zp := []) rfl (vol_key hn)
  have e : Maps.has D (.int .i64 n) = false := by
    rw [k.has, List.any_eq_false]
    intro p hq
    simpa using hp p hq
  rw [Maps.atKey_of_not_has e] at hu
  rw [hrun, ptrR_none hu, e]
structure PVol (DI : DrI) (EI : FiI) (w : World) (base q m : Nat) (D : DataW Unit) (Q T : Int) (M : List VN) (R : List (Int × DItem)) : Prop where
  ge : base ≤ q
  gm : base ≤ m
  blk : Blk w q 71 [.int .i64 Q, .map (some m), .int .i64 T]
  map : VMap w m M.length D
  is : NMap D (nums M)
  num : ∀ y ∈ M, 1 ≤ y.1.n ∧ y.1.n ≤ 2097152
  kind : ∀ y ∈ M, y.1.kind = 1 ∨ y.1.kind = 2
  node : ∀ y ∈ M, base ≤ y.2.g ∧ Blk w y.2.g 87 (pnCells y)
  dirs : ∀ y ∈ M, y.1.kind = 1 → ∃ K, Kid R y.1.n K ∧ DI.is w base y.2.q K y.2.S
  files : ∀ y ∈ M, y.1.kind = 2 → EI.is w base y.2.q y.1.B y.1.Z y.2.S
  own : ∀ y ∈ M, ∀ j, y.2.S j → j ≠ q ∧ j ≠ m ∧ ∀ z ∈ M, j ≠ z.2.g
  apart : ∀ y ∈ M, ∀ z ∈ M, y.1.n ≠ z.1.n → y.2.g ≠ z.2.g ∧ ∀ j, y.2.S j → ¬ z.2.S j
def pvS (q m : Nat) (M : List VN) : Nat → Prop := fun j => j = q ∨ j = m ∨ ∃ y ∈ M, j = y.2.g ∨ y.2.S j
section
variable {DI : DrI} {EI : FiI} {w w' : World} {base base' q m : Nat} {D D' : DataW Unit} {Q T T' : Int} {M : List VN} {R R' : List (Int × DItem)} {S : Nat → Prop} {y y' z : VN}
theorem mem_nums (hy : y ∈ M) : (y.1.n, y.2.g) ∈ nums M := List.mem_map.2 ⟨y, hy, rfl⟩
theorem PVol.rise (h : PVol DI EI w base q m D Q T M R) : M.Pairwise fun y z => y.1.n < z.1.n := by
  have h1 := h.is.rise
  unfold nums at h1
  exact (List.pairwise_map (f := fun y : VN => (y.1.n, y.2.g))).1 h1
theorem PVol.same (h : PVol DI EI w base q m D Q T M R) (hy : y ∈ M) (hz : z ∈ M) (e : y.1.n = z.1.n) : y = z := by
  obtain ⟨i, hi, rfl⟩ := List.mem_iff_getElem.1 hy
  obtain ⟨j, hj, rfl⟩ := List.mem_iff_getElem.1 hz
  rcases Nat.lt_trichotomy i j with h1 | h1 | h1
  · have := List.pairwise_iff_getElem.1 h.rise i j hi hj h1
    omega
  · subst h1
    rfl
  · have := List.pairwise_iff_getElem.1 h.rise j i hj hi h1
    omega
theorem PVol.obj (h : PVol DI EI w base q m D Q T M R) (hy : y ∈ M) : ∀ j, y.2.S j → base ≤ j ∧ j < w.heap.size := fun j hj => by
  rcases h.kind y hy with hk | hk
  · obtain ⟨K, _, d⟩ := h.dirs y hy hk
    exact DI.ge d j hj
  · exact EI.ge (h.files y hy hk) j hj
theorem PVol.lt (h : PVol DI EI w base q m D Q T M R) : ∀ j, pvS q m M j → base ≤ j ∧ j < w.heap.size := fun j hj => by
  rcases hj with rfl | rfl | ⟨y, hy, rfl | hj⟩
  · exact ⟨h.ge, h.blk.lt⟩
  · exact ⟨h.gm, World.ownsMap.lt h.map⟩
  · exact ⟨(h.node y hy).1, (h.node y hy).2.lt⟩
  · exact h.obj hy j hj
theorem PVol.hb (h : PVol DI EI w base q m D Q T M R) : base ≤ w.heap.size := by
  have := h.ge
  have := h.blk.lt
  omega
theorem PVol.spare (h : PVol DI EI w base q m D Q T M R) (a : Spare S w w') (hs : ∀ j, pvS q m M j → ¬ S j) : PVol DI EI w' base q m D Q T M R :=
  ⟨h.ge, h.gm, h.blk.spare a (hs q (.inl rfl)), owns_same h.map (a.rest m (World.ownsMap.lt h.map) (hs m (.inr (.inl rfl)))), h.is, h.num, h.kind,
    fun y hy => ⟨(h.node y hy).1, (h.node y hy).2.spare a (hs _ (.inr (.inr ⟨y, hy, .inl rfl⟩)))⟩,
    fun y hy hk => by
      obtain ⟨K, k, d⟩ := h.dirs y hy hk
      exact ⟨K, k, DI.keep d a fun j hj => hs j (.inr (.inr ⟨y, hy, .inr hj⟩))⟩,
    fun y hy hk => EI.keep (h.files y hy hk) a fun j hj => hs j (.inr (.inr ⟨y, hy, .inr hj⟩)), h.own, h.apart⟩
theorem PVol.below (h : PVol DI EI w base q m D Q T M R) (hb : Below w.heap.size w w') : PVol DI EI w' base q m D Q T M R := h.spare (Spare.of_over (fun _ => False) hb) fun _ _ h => h
theorem PVol.mono (h : PVol DI EI w base q m D Q T M R) (hb : base' ≤ base) : PVol DI EI w base' q m D Q T M R :=
  ⟨Nat.le_trans hb h.ge, Nat.le_trans hb h.gm, h.blk, h.map, h.is, h.num, h.kind, fun y hy => ⟨Nat.le_trans hb (h.node y hy).1, (h.node y hy).2⟩,
    fun y hy hk => by
      obtain ⟨K, k, d⟩ := h.dirs y hy hk
      exact ⟨K, k, DI.mono d hb⟩, fun y hy hk => EI.mono (h.files y hy hk) hb, h.own, h.apart⟩
theorem PVol.regs (h : PVol DI EI w base q m D Q T M R) (hR : ∀ d p, (d, p) ∈ R ↔ (d, p) ∈ R') : PVol DI EI w base q m D Q T M R' :=
  ⟨h.ge, h.gm, h.blk, h.map, h.is, h.num, h.kind, h.node, fun y hy hk => by
    obtain ⟨K, k, d⟩ := h.dirs y hy hk
    exact ⟨K, k.same (hR _), d⟩, h.files, h.own, h.apart⟩
theorem PVol.i64 (h : PVol DI EI w base q m D Q T M R) (hy : y ∈ M) : I64V y.1.n := by
  have := h.num y hy
  unfold I64V
  omega
theorem PVol.look1 (h : PVol DI EI w base q m D Q T M R) (hy : y ∈ M) : (Instr.lookup 69 (.map (some m)) (.int .i64 y.1.n) false).run Tryz.prog w = .ok (ptrV y.2.g) w := VMap.look1 h.map h.is (mem_nums hy) (h.i64 hy)
theorem PVol.look2 (h : PVol DI EI w base q m D Q T M R) (hy : y ∈ M) : (Instr.lookup 69 (.map (some m)) (.int .i64 y.1.n) true).run Tryz.prog w = .ok (.tuple #[ptrV y.2.g, .bool true]) w := VMap.look2 h.map h.is (mem_nums hy) (h.i64 hy)
theorem PVol.look0 (h : PVol DI EI w base q m D Q T M R) {n : Int} (hn : I64V n) (hno : ∀ y ∈ M, y.1.n ≠ n) : (Instr.lookup 69 (.map (some m)) (.int .i64 n) true).run Tryz.prog w = .ok (.tuple #[.pointer none, .bool false]) w := VMap.look0 h.map h.is (fun p hp => by
  obtain ⟨y, hy, rfl⟩ := List.mem_map.1 hp
  exact hno y hy) hn
theorem PVol.c0 (h : PVol DI EI w base q m D Q T M R) : w.cell? ⟨q, 0, none⟩ = some (.int .i64 Q) := h.blk.cell 0
theorem PVol.c1 (h : PVol DI EI w base q m D Q T M R) : w.cell? ⟨q, 1, none⟩ = some (.map (some m)) := h.blk.cell 1
theorem PVol.c2 (h : PVol DI EI w base q m D Q T M R) : w.cell? ⟨q, 2, none⟩ = some (.int .i64 T) := h.blk.cell 2
theorem PVol.n0 (h : PVol DI EI w base q m D Q T M R) (hy : y ∈ M) : w.cell? ⟨y.2.g, 0, none⟩ = some (.int .u8 y.1.kind) := (h.node y hy).2.cell 0
theorem PVol.n1 (h : PVol DI EI w base q m D Q T M R) (hy : y ∈ M) : w.cell? ⟨y.2.g, 1, none⟩ = some (.int .i64 y.1.par) := (h.node y hy).2.cell 1
theorem PVol.n2 (h : PVol DI EI w base q m D Q T M R) (hy : y ∈ M) : w.cell? ⟨y.2.g, 2, none⟩ = some (strV y.1.name) := (h.node y hy).2.cell 2
theorem PVol.n3 (h : PVol DI EI w base q m D Q T M R) (hy : y ∈ M) : w.cell? ⟨y.2.g, 3, none⟩ = some (pnEnt y) := (h.node y hy).2.cell 3
theorem PVol.n4 (h : PVol DI EI w base q m D Q T M R) (hy : y ∈ M) : w.cell? ⟨y.2.g, 4, none⟩ = some (pnDat y) := (h.node y hy).2.cell 4
theorem pnEnt_dir (h : y.1.kind = 1) : pnEnt y = ptrD y.2.q := by unfold pnEnt ptrD; rw [if_pos h]
theorem pnEnt_no (h : y.1.kind = 2) : pnEnt y = .pointer none := by unfold pnEnt; rw [if_neg (by rw [h]; decide)]
theorem pnDat_file (h : y.1.kind = 2) : pnDat y = ptr y.2.q := by unfold pnDat ptr; rw [if_pos h]
theorem pnDat_no (h : y.1.kind = 1) : pnDat y = .pointer none := by unfold pnDat; rw [if_neg (by rw [h]; decide)]
/-- what one turn comes to -/
def PTurn (DI : DrI) (EI : FiI) (w : World) (base q m : Nat) (M0 : List VN) (Q T : Int) (M : List VN) (R : List (Int × DItem)) (w' : World) : Prop :=
  ∃ D, PVol DI EI w' base q m D Q T M R ∧ Spare (pvS q m M0) w w' ∧ ∀ j, pvS q m M j → pvS q m M0 j ∨ w.heap.size ≤ j
theorem PTurn.refl (h : PVol DI EI w base q m D Q T M R) (hb : Below w.heap.size w w') : PTurn DI EI w base q m M Q T M R w' := ⟨D, h.below hb, Spare.of_over _ hb, fun j hj => .inl hj⟩
theorem PTurn.trans {w1 : World} {M1 M2 : List VN} {Q1 T1 Q2 T2 : Int} {R1 R2 : List (Int × DItem)} (a : PTurn DI EI w base q m M Q1 T1 M1 R1 w1) (b : PTurn DI EI w1 base q m M1 Q2 T2 M2 R2 w') : PTurn DI EI w base q m M Q2 T2 M2 R2 w' := by
  obtain ⟨D1, p1, s1, n1⟩ := a
  obtain ⟨D2, p2, s2, n2⟩ := b
  refine ⟨D2, p2, s1.trans s2 fun j hj h => (n1 j h).resolve_right (by omega), fun j hj => ?_⟩
  rcases n2 j hj with h | h
  · exact n1 j h
  · exact .inr (Nat.le_trans s1.size h)
theorem PTurn.regs (a : PTurn DI EI w base q m M Q T M R w') (hR : ∀ d p, (d, p) ∈ R ↔ (d, p) ∈ R') : PTurn DI EI w base q m M Q T M R' w' := by
  obtain ⟨D1, p1, s1, n1⟩ := a
  exact ⟨D1, p1.regs hR, s1, n1⟩
theorem PTurn.below {w2 : World} {M' : List VN} (a : PTurn DI EI w base q m M Q T M' R w') (hb : Below w'.heap.size w' w2) : PTurn DI EI w base q m M Q T M' R w2 := by
  obtain ⟨D1, p1, s1, n1⟩ := a
  exact ⟨D1, p1.below hb, s1.trans (Spare.of_over (fun _ => False) hb) fun _ _ h => h.elim, n1⟩
/-- what one node's turn may turn is the volume's -/
theorem pvS_node (hy : y ∈ M) : ∀ j, (j = y.2.g ∨ y.2.S j) → pvS q m M j := fun j hj => .inr (.inr ⟨y, hy, hj⟩)
/-! ### one node turns -/
def vmUp (M : List VN) (n : Int) (y' : VN) : List VN := M.map fun z => if z.1.n = n then y' else z
theorem vmUp_mem {n : Int} (h : z ∈ vmUp M n y') : z = y' ∨ z ∈ M ∧ z.1.n ≠ n := by
  obtain ⟨x, hx, e⟩ := List.mem_map.1 h
  by_cases hn : x.1.n = n
  · rw [if_pos hn] at e
    exact .inl e.symm
  · rw [if_neg hn] at e
    exact .inr (e ▸ ⟨hx, hn⟩)
theorem PVol.up (h : PVol DI EI w base q m D Q T M R) (hy : y ∈ M) (e1 : y'.1.n = y.1.n) (e2 : y'.1.kind = y.1.kind) (e3 : y'.2.g = y.2.g) (a : Spare (fun j => j = y.2.g ∨ y.2.S j) w w')
    (hB : Blk w' y.2.g 87 (pnCells y')) (h1 : y.1.kind = 1 → ∃ K, Kid R' y.1.n K ∧ DI.is w' base y'.2.q K y'.2.S) (h2 : y.1.kind = 2 → EI.is w' base y'.2.q y'.1.B y'.1.Z y'.2.S)
    (hS : ∀ j, y'.2.S j → y.2.S j ∨ w.heap.size ≤ j) (hR : ∀ d p, d ≠ y.1.n → ((d, p) ∈ R ↔ (d, p) ∈ R')) :
    PTurn DI EI w base q m M Q T (vmUp M y.1.n y') R' w' := by
  have hN : nums (vmUp M y.1.n y') = nums M := by
    unfold nums vmUp
    rw [List.map_map]
    refine List.map_congr_left fun z hz => ?_
    simp only [Function.comp]
    by_cases hn : z.1.n = y.1.n
    · rw [if_pos hn, e1, e3, h.same hz hy hn]
    · rw [if_neg hn]
  have hlen : (vmUp M y.1.n y').length = M.length := List.length_map _
  have hin : y' ∈ vmUp M y.1.n y' := List.mem_map.2 ⟨y, hy, if_pos rfl⟩
  have hq : q ≠ y.2.g := fun e => by
    have h3 := h.blk
    rw [e] at h3
    exact absurd (h3.typ.same (h.node y hy).2.typ) (by decide)
  have hm : m ≠ y.2.g := fun e => blk_ne_map (h.node y hy).2 h.map e.symm
  have hsq : ¬ (q = y.2.g ∨ y.2.S q) := fun e => e.elim hq fun e => (h.own y hy q e).1 rfl
  have hsm : ¬ (m = y.2.g ∨ y.2.S m) := fun e => e.elim hm fun e => (h.own y hy m e).2.1 rfl
  have hoff : ∀ z ∈ M, z.1.n ≠ y.1.n → ¬ (z.2.g = y.2.g ∨ y.2.S z.2.g) ∧ ∀ j, z.2.S j → ¬ (j = y.2.g ∨ y.2.S j) := fun z hz hn =>
    ⟨fun e => e.elim (h.apart z hz y hy hn).1 fun e => (h.own y hy _ e).2.2 z hz rfl, fun j hj e => e.elim (fun e => (h.own z hz j hj).2.2 y hy e) fun e => (h.apart z hz y hy hn).2 j hj e⟩
  refine ⟨D, ⟨h.ge, h.gm, h.blk.spare a hsq, ?_, ?_, ?_, ?_, ?_, ?_, ?_, ?_, ?_⟩, a.mono fun j _ hj => pvS_node hy j hj, ?_⟩
  · rw [hlen]
    exact owns_same h.map (a.rest m (World.ownsMap.lt h.map) hsm)
  · rw [hN]
    exact h.is
  · intro z hz
    rcases vmUp_mem hz with rfl | ⟨hz, hn⟩
    · rw [e1]
      exact h.num y hy
    · exact h.num z hz
  · intro z hz
    rcases vmUp_mem hz with rfl | ⟨hz, hn⟩
    · rw [e2]
      exact h.kind y hy
    · exact h.kind z hz
  · intro z hz
    rcases vmUp_mem hz with rfl | ⟨hz, hn⟩
    · rw [e3]
      exact ⟨(h.node y hy).1, hB⟩
    · exact ⟨(h.node z hz).1, (h.node z hz).2.spare a (hoff z hz hn).1⟩
  · intro z hz hk
    rcases vmUp_mem hz with rfl | ⟨hz, hn⟩
    · rw [e1]
      exact h1 (e2 ▸ hk)
    · obtain ⟨K, k, d⟩ := h.dirs z hz hk
      exact ⟨K, k.same fun p => hR _ p hn, DI.keep d a (hoff z hz hn).2⟩
  · intro z hz hk
    rcases vmUp_mem hz with rfl | ⟨hz, hn⟩
    · exact h2 (e2 ▸ hk)
    · exact EI.keep (h.files z hz hk) a (hoff z hz hn).2
  · intro z hz j hj
    have hg : ∀ x ∈ vmUp M y.1.n y', ∃ x' ∈ M, x.2.g = x'.2.g := fun x hx => by
      rcases vmUp_mem hx with rfl | ⟨hx, _⟩
      · exact ⟨y, hy, e3⟩
      · exact ⟨x, hx, rfl⟩
    have key : j ≠ q ∧ j ≠ m ∧ ∀ x ∈ M, j ≠ x.2.g := by
      rcases vmUp_mem hz with rfl | ⟨hz, hn⟩
      · rcases hS j hj with hj | hj
        · exact h.own y hy j hj
        · refine ⟨fun e => ?_, fun e => ?_, fun x hx e => ?_⟩
          · have := h.blk.lt; omega
          · have := World.ownsMap.lt h.map; omega
          · have := (h.node x hx).2.lt; omega
      · exact h.own z hz j hj
    refine ⟨key.1, key.2.1, fun x hx => ?_⟩
    obtain ⟨x', hx', e⟩ := hg x hx
    rw [e]
    exact key.2.2 x' hx'
  · have hcl : ∀ x ∈ vmUp M y.1.n y', ∃ x' ∈ M, x.1.n = x'.1.n ∧ x.2.g = x'.2.g ∧ ∀ j, x.2.S j → x'.2.S j ∨ w.heap.size ≤ j := fun x hx => by
      rcases vmUp_mem hx with rfl | ⟨hx, _⟩
      · exact ⟨y, hy, e1, e3, hS⟩
      · exact ⟨x, hx, rfl, rfl, fun j hj => .inl hj⟩
    intro z hz x hx hne
    obtain ⟨z', hz', a1, a2, a3⟩ := hcl z hz
    obtain ⟨x', hx', b1, b2, b3⟩ := hcl x hx
    have hne' : z'.1.n ≠ x'.1.n := by rw [← a1, ← b1]; exact hne
    refine ⟨by rw [a2, b2]; exact (h.apart z' hz' x' hx' hne').1, fun j hj hj' => ?_⟩
    rcases vmUp_mem hz with rfl | ⟨hzM, hn⟩
    · rcases vmUp_mem hx with rfl | ⟨hxM, hn⟩
      · exact hne rfl
      · rcases hS j hj with h3 | h3
        · exact (h.apart y hy x hxM fun e => hn e.symm).2 j h3 hj'
        · have := (h.obj hxM j hj').2
          omega
    · rcases vmUp_mem hx with rfl | ⟨hxM, hn'⟩
      · rcases hS j hj' with h3 | h3
        · exact (h.apart z hzM y hy hn).2 j hj h3
        · have := (h.obj hzM j hj).2
          omega
      · exact (h.apart z hzM x hxM hne).2 j hj hj'
  · intro j hj
    rcases hj with hj | hj | ⟨z, hz, hj⟩
    · exact .inl (.inl hj)
    · exact .inl (.inr (.inl hj))
    · rcases vmUp_mem hz with rfl | ⟨hz, hn⟩
      · rcases hj with hj | hj
        · exact .inl (.inr (.inr ⟨y, hy, .inl (hj.trans e3)⟩))
        · rcases hS j hj with h3 | h3
          · exact .inl (.inr (.inr ⟨y, hy, .inr h3⟩))
          · exact .inr h3
      · exact .inl (.inr (.inr ⟨z, hz, hj⟩))
/-! ### a node more, a node less, another last number -/
theorem PVol.setLast (h : PVol DI EI w base q m D Q T M R) (a : Spare (fun j => j = q) w w') (hB : Blk w' q 71 [.int .i64 Q, .map (some m), .int .i64 T']) : PVol DI EI w' base q m D Q T' M R := by
  have hm : m ≠ q := fun e => blk_ne_map h.blk h.map e.symm
  have hg : ∀ y ∈ M, y.2.g ≠ q := fun y hy e => by
    have h3 := (h.node y hy).2
    rw [e] at h3
    exact absurd (h3.typ.same h.blk.typ) (by decide)
  exact ⟨h.ge, h.gm, hB, owns_same h.map (a.rest m (World.ownsMap.lt h.map) hm), h.is, h.num, h.kind, fun y hy => ⟨(h.node y hy).1, (h.node y hy).2.spare a (hg y hy)⟩,
    fun y hy hk => by
      obtain ⟨K, k, d⟩ := h.dirs y hy hk
      exact ⟨K, k, DI.keep d a fun j hj => (h.own y hy j hj).1⟩, fun y hy hk => EI.keep (h.files y hy hk) a fun j hj => (h.own y hy j hj).1, h.own, h.apart⟩
theorem PVol.off (h : PVol DI EI w base q m D Q T M R) : q ≠ m ∧ ∀ y ∈ M, y.2.g ≠ m ∧ y.2.g ≠ q := by
  refine ⟨blk_ne_map h.blk h.map, fun y hy => ⟨blk_ne_map (h.node y hy).2 h.map, fun e => ?_⟩⟩
  have h3 := (h.node y hy).2
  rw [e] at h3
  exact absurd (h3.typ.same h.blk.typ) (by decide)
theorem PVol.add {w1 : World} (h : PVol DI EI w base q m D Q T M R) (hb : Below w.heap.size w w1) (a : Spare (fun j => j = m) w1 w') {K : Nat} (hM : VMap w' m K (D.put (.int .i64 y.1.n) (.lit (.int .i64 (y.2.g : Nat)))))
    (hn : ∀ z ∈ M, z.1.n < y.1.n) (hn1 : 1 ≤ y.1.n) (hn2 : y.1.n ≤ 2097152) (hk : y.1.kind = 1 ∨ y.1.kind = 2) (hg : w.heap.size ≤ y.2.g) (hB : Blk w1 y.2.g 87 (pnCells y))
    (hd : y.1.kind = 1 → DI.is w1 w.heap.size y.2.q [] y.2.S) (hf : y.1.kind = 2 → EI.is w1 w.heap.size y.2.q y.1.B y.1.Z y.2.S) (ho : ∀ j, y.2.S j → w.heap.size ≤ j ∧ j ≠ y.2.g) (hR : ∀ p, (y.1.n, p) ∉ R) :
    PTurn DI EI w base q m M Q T (M ++ [y]) R w' := by
  have h1 := h.below hb
  have hbs := hb.size
  have hbase := h.hb
  have hml := World.ownsMap.lt h.map
  have hql := h.blk.lt
  have hgm : y.2.g ≠ m := by omega
  have hin : ∀ z ∈ M ++ [y], z ∈ M ∨ z = y := fun z hz => by
    rcases List.mem_append.1 hz with hz | hz
    · exact .inl hz
    · exact .inr (List.mem_singleton.1 hz)
  have hnn : nums (M ++ [y]) = nums M ++ [(y.1.n, y.2.g)] := by
    unfold nums
    rw [List.map_append]
    rfl
  have hI := h.is.put (n := y.1.n) (g := y.2.g) fun p hp => by
    obtain ⟨z, hz, rfl⟩ := List.mem_map.1 hp
    exact hn z hz
  refine ⟨_, ⟨h.ge, h.gm, h1.blk.spare a h1.off.1, ?_, by rw [hnn]; exact hI, ?_, ?_, ?_, ?_, ?_, ?_, ?_⟩, (Spare.of_over (pvS q m M) hb).trans a fun j _ e => .inr (.inl e), ?_⟩
  · have e : Maps.size (D.put (.int .i64 y.1.n) (.lit (.int .i64 (y.2.g : Nat)))) = (M ++ [y]).length := by rw [hI.size, ← hnn]; exact List.length_map _
    rw [← e]
    exact owns_tight hM
  · intro z hz
    rcases hin z hz with hz | rfl
    · exact h.num z hz
    · exact ⟨hn1, hn2⟩
  · intro z hz
    rcases hin z hz with hz | rfl
    · exact h.kind z hz
    · exact hk
  · intro z hz
    rcases hin z hz with hz | rfl
    · exact ⟨(h.node z hz).1, (h1.node z hz).2.spare a (h1.off.2 z hz).1⟩
    · exact ⟨by omega, hB.spare a hgm⟩
  · intro z hz hz1
    rcases hin z hz with hz | rfl
    · obtain ⟨K, k, d⟩ := h1.dirs z hz hz1
      exact ⟨K, k, DI.keep d a fun j hj => (h.own z hz j hj).2.1⟩
    · exact ⟨[], Kid.nil hR, DI.mono (DI.keep (hd hz1) a fun j hj => by have := (ho j hj).1; omega) hbase⟩
  · intro z hz hz1
    rcases hin z hz with hz | rfl
    · exact EI.keep (h1.files z hz hz1) a fun j hj => (h.own z hz j hj).2.1
    · exact EI.mono (EI.keep (hf hz1) a fun j hj => by have := (ho j hj).1; omega) hbase
  · intro z hz j hj
    rcases hin z hz with hzM | rfl
    · refine ⟨(h.own z hzM j hj).1, (h.own z hzM j hj).2.1, fun x hx => ?_⟩
      rcases hin x hx with hxM | rfl
      · exact (h.own z hzM j hj).2.2 x hxM
      · have := (h.obj hzM j hj).2
        omega
    · have h3 := ho j hj
      refine ⟨by omega, by omega, fun x hx => ?_⟩
      rcases hin x hx with hx | rfl
      · have := (h.node x hx).2.lt
        omega
      · exact h3.2
  · intro z hz x hx hne
    rcases hin z hz with hzM | rfl
    · rcases hin x hx with hxM | rfl
      · exact h.apart z hzM x hxM hne
      · refine ⟨by have := (h.node z hzM).2.lt; omega, fun j hj hj' => ?_⟩
        have := (h.obj hzM j hj).2
        have := (ho j hj').1
        omega
    · rcases hin x hx with hxM | rfl
      · refine ⟨by have := (h.node x hxM).2.lt; omega, fun j hj hj' => ?_⟩
        have := (h.obj hxM j hj').2
        have := (ho j hj).1
        omega
      · exact absurd rfl hne
  · intro j hj
    rcases hj with hj | hj | ⟨z, hz, hj⟩
    · exact .inl (.inl hj)
    · exact .inl (.inr (.inl hj))
    · rcases hin z hz with hz | rfl
      · exact .inl (.inr (.inr ⟨z, hz, hj⟩))
      · rcases hj with hj | hj
        · exact .inr (by omega)
        · exact .inr (ho j hj).1
theorem eraseIdx_mapV {α β : Type} (f : α → β) : ∀ (l : List α) (k : Nat), (l.eraseIdx k).map f = (l.map f).eraseIdx k
  | [], _ => rfl
  | _ :: _, 0 => rfl
  | x :: r, k + 1 => congrArg (f x :: ·) (eraseIdx_mapV f r k)
def vmAway (M : List VN) (n : Int) : List VN := M.eraseIdx (vIx (M.map (·.1)) n)
theorem vmAway_facts (h : PVol DI EI w base q m D Q T M R) (hy : y ∈ M) : (∀ z, z ∈ vmAway M y.1.n ↔ z ∈ M ∧ z.1.n ≠ y.1.n) ∧ (vmAway M y.1.n).length + 1 = M.length ∧ (vmAway M y.1.n).Sublist M ∧ (vmAway M y.1.n).map (·.1) = vAway (M.map (·.1)) y.1.n := by
  obtain ⟨i, hi, e⟩ := List.mem_iff_getElem.1 hy
  have hix : vIx (M.map (·.1)) y.1.n = i := by
    have hl : i < (M.map (·.1)).length := by rw [List.length_map]; exact hi
    refine (place_here hl (by rw [List.getElem_map, e]) fun j hj => ?_).2
    rw [List.getElem_map]
    have := List.pairwise_iff_getElem.1 h.rise j i (by omega) hi hj
    rw [e] at this
    omega
  unfold vmAway vAway
  rw [hix]
  refine ⟨fun z => ?_, ?_, List.eraseIdx_sublist _ _, eraseIdx_mapV _ _ _⟩
  · rw [List.mem_eraseIdx_iff_getElem]
    constructor
    · rintro ⟨j, hj, hji, rfl⟩
      refine ⟨List.getElem_mem _, fun en => hji ?_⟩
      rcases Nat.lt_trichotomy j i with h1 | h1 | h1
      · have := List.pairwise_iff_getElem.1 h.rise j i hj hi h1
        rw [e] at this
        omega
      · exact h1
      · have := List.pairwise_iff_getElem.1 h.rise i j hi hj h1
        rw [e] at this
        omega
    · rintro ⟨hz, hn⟩
      obtain ⟨j, hj, rfl⟩ := List.mem_iff_getElem.1 hz
      exact ⟨j, hj, fun e2 => hn (by subst e2; rw [e]), rfl⟩
  · rw [List.length_eraseIdx, if_pos hi]
    omega
theorem PVol.away (h : PVol DI EI w base q m D Q T M R) (hy : y ∈ M) (a : Spare (fun j => j = m) w w') {K : Nat} (hM : VMap w' m K (D.del (.int .i64 y.1.n))) : PTurn DI EI w base q m M Q T (vmAway M y.1.n) R w' := by
  obtain ⟨f1, f2, f3, _⟩ := vmAway_facts h hy
  have hI : NMap (D.del (.int .i64 y.1.n)) (nums (vmAway M y.1.n)) := by
    refine h.is.del (f3.map _) (fun p => ?_) (by unfold nums; rw [List.length_map, List.length_map]; exact f2) ⟨_, mem_nums hy, rfl⟩
    constructor
    · intro hp
      obtain ⟨z, hz, rfl⟩ := List.mem_map.1 hp
      exact ⟨mem_nums ((f1 z).1 hz).1, ((f1 z).1 hz).2⟩
    · rintro ⟨hp, hn⟩
      obtain ⟨z, hz, rfl⟩ := List.mem_map.1 hp
      exact mem_nums ((f1 z).2 ⟨hz, hn⟩)
  have hin : ∀ z ∈ vmAway M y.1.n, z ∈ M := fun z hz => ((f1 z).1 hz).1
  refine ⟨_, ⟨h.ge, h.gm, h.blk.spare a h.off.1, ?_, hI, fun z hz => h.num z (hin z hz), fun z hz => h.kind z (hin z hz), fun z hz => ⟨(h.node z (hin z hz)).1, (h.node z (hin z hz)).2.spare a (h.off.2 z (hin z hz)).1⟩, ?_, ?_, ?_, fun z hz x hx => h.apart z (hin z hz) x (hin x hx)⟩, a.mono fun j _ e => .inr (.inl e), ?_⟩
  · have e : Maps.size (D.del (.int .i64 y.1.n)) = (vmAway M y.1.n).length := by rw [hI.size]; exact List.length_map _
    rw [← e]
    exact owns_tight hM
  · intro z hz hk
    obtain ⟨K, k, d⟩ := h.dirs z (hin z hz) hk
    exact ⟨K, k, DI.keep d a fun j hj => (h.own z (hin z hz) j hj).2.1⟩
  · intro z hz hk
    exact EI.keep (h.files z (hin z hz) hk) a fun j hj => (h.own z (hin z hz) j hj).2.1
  · intro z hz j hj
    exact ⟨(h.own z (hin z hz) j hj).1, (h.own z (hin z hz) j hj).2.1, fun x hx => (h.own z (hin z hz) j hj).2.2 x (hin x hx)⟩
  · intro j hj
    rcases hj with hj | hj | ⟨z, hz, hj⟩
    · exact .inl (.inl hj)
    · exact .inl (.inr (.inl hj))
    · exact .inl (.inr (.inr ⟨z, hin z hz, hj⟩))
end
end Go.Proofs.YtdgpbhdihhchgaaGreatDoor

namespace Go.Proofs.YtdgpbhdihhchgaaGreatDoor
set_option linter.all false
set_option maxRecDepth 100000
open Go.RowKit
set_option linter.unusedVariables false
theorem results_cell_v {P : Program} {fn : Func} {p : Tmp} {ty : TypeId} (h : fn.results = #[.cell p ty]) (tmps : Array Value) (w : World) (g : Nat) (t : TypeId) (cs : Array Value) (fr : Nat × Nat) (d : TypeDesc)
    (hp : tmps.getD p undef = .pointer (some ⟨g, 0, none⟩)) (hg : w.heap[g]? = some (.cells cs t fr))
    (hu : P.underlying ty = some d) (hd : (match d with | .struct _ | .array _ _ => true | _ => false) = true) (hi : (P.info? ty).map (·.size) = some cs.size) :
    (results fn tmps).run P w = .ok (.agg cs) w := by
  have hp' : tmps[p]?.getD undef = .pointer (some ⟨g, 0, none⟩) := by simpa using hp
  simp [results, h, hp', asAddr, run_loadVar_row w g t ty cs fr d hg hu hd hi]
theorem VNone_any (w : World) (q m : Nat) (h : w.cell? ⟨q, 1, none⟩ = some (.map (some m))) : Calls Tryz.prog 40 #[ptrV q] w fun e w' => e = .returned (.bool false) ∧ w = w' := by
  have hml : ∀ w, (binOp .eql 69 (.map (some m)) (.map none)).run Tryz.prog w = .ok (.bool false) w := fun w => eql_map_nil _ _ _ _ Tryz.underlying69 w
  unfold ptrV
  go_enter Tryz.func40, Tryz.ntmps40
  go_wp2_with fail
  go_ret
  exact ⟨rfl, rfl⟩
theorem VNone_zero (w : World) (q : Nat) (h : w.cell? ⟨q, 1, none⟩ = some (.map none)) : Calls Tryz.prog 40 #[ptrV q] w fun e w' => e = .returned (.bool true) ∧ w = w' := by
  have hml : ∀ w, (binOp .eql 69 (.map none) (.map none)).run Tryz.prog w = .ok (.bool true) w := fun w => eql_map_nil _ _ _ _ Tryz.underlying69 w
  unfold ptrV
  go_enter Tryz.func40, Tryz.ntmps40
  go_wp2_with fail
  go_ret
  exact ⟨rfl, rfl⟩
theorem VNone_nil (w : World) : Calls Tryz.prog 40 #[.pointer none] w fun e w' => e = .returned (.bool true) ∧ w = w' := by
  go_enter Tryz.func40, Tryz.ntmps40
  go_wp2_with fail
  go_ret
  exact ⟨rfl, rfl⟩
theorem XSize_nil (w : World) : Calls Tryz.prog 61 #[.pointer none] w fun e w' => e = .returned (.int .i64 0) ∧ w = w' := by
  go_enter Tryz.func61, Tryz.ntmps61
  go_wp2_with fail
  go_ret
  exact ⟨rfl, rfl⟩
section
variable {DI : DrI} {EI : FiI} {w : World} {base q m : Nat} {D : DataW Unit} {Q T n : Int} {M : List VN} {R : List (Int × DItem)} {y : VN}
theorem VNode_yes (h : PVol DI EI w base q m D Q T M R) (hy : y ∈ M) (hn : y.1.n = n) : Calls Tryz.prog 46 #[ptrV q, .int .i64 n] w fun e w' => e = .returned (.tuple #[ptrV y.2.g, .int .i64 0]) ∧ w = w' := by
  have k1 := h.c1
  have CN := Lib.hid (VNone_any w q m k1)
  have lk := h.look2 hy
  rw [hn] at lk
  obtain ⟨g, hg⟩ : ∃ g, g = y.2.g := ⟨_, rfl⟩
  rw [← hg] at lk ⊢
  unfold ptrV at lk CN ⊢
  clear h hy hn hg
  go_enter Tryz.func46, Tryz.ntmps46
  go_wp2_with fail
  refine CN.out.mono ?_
  rintro e w0 ⟨rfl, rfl⟩
  go_wp2_with fail
  go_ret2
  exact ⟨rfl, rfl⟩
theorem VNode_no (h : PVol DI EI w base q m D Q T M R) (hn : I64V n) (hno : ∀ y ∈ M, y.1.n ≠ n) : Calls Tryz.prog 46 #[ptrV q, .int .i64 n] w fun e w' => e = .returned (.tuple #[.pointer none, .int .i64 7]) ∧ w = w' := by
  have k1 := h.c1
  have CN := Lib.hid (VNone_any w q m k1)
  have lk := h.look0 hn hno
  unfold ptrV at CN ⊢
  clear h hn hno
  go_enter Tryz.func46, Tryz.ntmps46
  go_wp2_with fail
  refine CN.out.mono ?_
  rintro e w0 ⟨rfl, rfl⟩
  go_wp2_with fail
  go_ret2
  exact ⟨rfl, rfl⟩
theorem VBelow_no (h : PVol DI EI w base q m D Q T M R) (hn : I64V n) (hno : ∀ y ∈ M, y.1.n ≠ n) : Calls Tryz.prog 64 #[ptrV q, .int .i64 n] w fun e w' => e = .returned (.tuple #[.pointer none, .int .i64 7]) ∧ w = w' := by
  have CN := Lib.hid (VNode_no h hn hno)
  clear h hn hno
  unfold ptrV at CN ⊢
  go_enter Tryz.func64, Tryz.ntmps64
  go_wp2_with fail
  refine CN.out.mono ?_
  rintro e w0 ⟨rfl, rfl⟩
  go_wp2_with fail
  go_ret2
  exact ⟨rfl, rfl⟩
theorem VBelow_one (h : PVol DI EI w base q m D Q T M R) (hy : y ∈ M) (hn : y.1.n = 1) : Calls Tryz.prog 64 #[ptrV q, .int .i64 1] w fun e w' => e = .returned (.tuple #[.pointer none, .int .i64 2]) ∧ w = w' := by
  have CN := Lib.hid (VNode_yes h hy hn)
  clear h hn hy
  unfold ptrV at CN ⊢
  go_enter Tryz.func64, Tryz.ntmps64
  go_wp2_with fail
  refine CN.out.mono ?_
  rintro e w0 ⟨rfl, rfl⟩
  go_wp2_with fail
  go_ret2
  exact ⟨rfl, rfl⟩
theorem VBelow_yes (h : PVol DI EI w base q m D Q T M R) (hy : y ∈ M) (hn : y.1.n = n) (h1 : n ≠ 1) : Calls Tryz.prog 64 #[ptrV q, .int .i64 n] w fun e w' => e = .returned (.tuple #[ptrV y.2.g, .int .i64 0]) ∧ w = w' := by
  have CN := Lib.hid (VNode_yes h hy hn)
  clear h hn hy
  unfold ptrV at CN ⊢
  go_enter Tryz.func64, Tryz.ntmps64
  go_wp2_with fail
  refine CN.out.mono ?_
  rintro e w0 ⟨rfl, rfl⟩
  go_wp2_with fail
  go_ret2
  exact ⟨rfl, rfl⟩
theorem VFile_no (h : PVol DI EI w base q m D Q T M R) (hn : I64V n) (hno : ∀ y ∈ M, y.1.n ≠ n) : Calls Tryz.prog 62 #[ptrV q, .int .i64 n] w fun e w' => e = .returned (.tuple #[.pointer none, .int .i64 7]) ∧ w = w' := by
  have CN := Lib.hid (VNode_no h hn hno)
  clear h hn hno
  unfold ptrV at CN ⊢
  go_enter Tryz.func62, Tryz.ntmps62
  go_wp2_with fail
  refine CN.out.mono ?_
  rintro e w0 ⟨rfl, rfl⟩
  go_wp2_with fail
  go_ret2
  exact ⟨rfl, rfl⟩
theorem VFile_dir (h : PVol DI EI w base q m D Q T M R) (hy : y ∈ M) (hn : y.1.n = n) (hk : y.1.kind = 1) : Calls Tryz.prog 62 #[ptrV q, .int .i64 n] w fun e w' => e = .returned (.tuple #[.pointer none, .int .i64 9]) ∧ w = w' := by
  have CN := Lib.hid (VNode_yes h hy hn)
  have k0 := h.n0 hy
  rw [hk] at k0
  obtain ⟨g, hg⟩ : ∃ g, g = y.2.g := ⟨_, rfl⟩
  rw [← hg] at CN k0
  clear h hn hy hg hk
  unfold ptrV at CN ⊢
  go_enter Tryz.func62, Tryz.ntmps62
  go_wp2_with fail
  refine CN.out.mono ?_
  rintro e w0 ⟨rfl, rfl⟩
  go_wp2_with fail
  go_ret2
  exact ⟨rfl, rfl⟩
theorem VFile_yes (h : PVol DI EI w base q m D Q T M R) (hy : y ∈ M) (hn : y.1.n = n) (hk : y.1.kind = 2) : Calls Tryz.prog 62 #[ptrV q, .int .i64 n] w fun e w' => e = .returned (.tuple #[ptr y.2.q, .int .i64 0]) ∧ w = w' := by
  have CN := Lib.hid (VNode_yes h hy hn)
  have k0 := h.n0 hy
  have k4 := h.n4 hy
  rw [hk] at k0
  rw [pnDat_file hk] at k4
  obtain ⟨g, hg⟩ : ∃ g, g = y.2.g := ⟨_, rfl⟩
  obtain ⟨g4, hg4⟩ : ∃ g, g = y.2.q := ⟨_, rfl⟩
  rw [← hg] at CN k0 k4
  rw [← hg4] at k4 ⊢
  clear h hn hy hg hg4 hk
  unfold ptrV at CN ⊢
  unfold ptr at k4 ⊢
  go_enter Tryz.func62, Tryz.ntmps62
  go_wp2_with fail
  refine CN.out.mono ?_
  rintro e w0 ⟨rfl, rfl⟩
  go_wp2_with fail
  go_ret2
  exact ⟨rfl, rfl⟩
/-- the size of what is at a node: 0 of a directory -/
theorem PVol.size (h : PVol DI EI w base q m D Q T M R) (hy : y ∈ M) (hB : y.1.kind = 1 → y.1.B = []) : Calls Tryz.prog 61 #[pnDat y] w fun e w' => e = .returned (.int .i64 (y.1.B.length : Nat)) ∧ ∃ k, w.drewN k = w' := by
  rcases h.kind y hy with hk | hk
  · rw [pnDat_no hk, hB hk]
    refine (XSize_nil w).mono ?_
    rintro e w' ⟨rfl, rfl⟩
    exact ⟨rfl, 0, rfl⟩
  · rw [pnDat_file hk]
    exact EI.size (h.files y hy hk)
set_option maxHeartbeats 4000000 in
theorem VStat1_any (h : PVol DI EI w base q m D Q T M R) (hy : y ∈ M) (hB : y.1.kind = 1 → y.1.B = []) : Calls Tryz.prog 47 #[ptrV y.2.g] w fun e w' => e = .returned (.agg #[.int .u8 y.1.kind, .int .i64 (y.1.B.length : Nat)]) ∧ Below w.heap.size w w' := by
  have SZ : Hid (∀ w', Below w.heap.size w w' → Calls Tryz.prog 61 #[pnDat y] w' fun e w2 => e = .returned (.int .i64 (y.1.B.length : Nat)) ∧ ∃ k, w'.drewN k = w2) := fun w' hb => (h.below hb).size hy hB
  have k0 := h.n0 hy
  have k4 := h.n4 hy
  have hgl : y.2.g < w.heap.size := (h.node y hy).2.lt
  have ZN : Hid ((Tryz.prog.info? 34).map (fun i => (i.zero, i.size)) = some (some (.agg ([.int .u8 0, .int .i64 0] : List Value).toArray), 2)) := zero_stat
  obtain ⟨g, hg⟩ : ∃ g, g = y.2.g := ⟨_, rfl⟩
  obtain ⟨u, hu⟩ : ∃ u, u = pnDat y := ⟨_, rfl⟩
  obtain ⟨k, hk⟩ : ∃ k, k = y.1.kind := ⟨_, rfl⟩
  obtain ⟨z, hz⟩ : ∃ z, z = y.1.B.length := ⟨_, rfl⟩
  rw [← hg] at k0 k4 hgl ⊢
  rw [← hu] at k4 SZ
  rw [← hk] at k0 ⊢
  rw [← hz] at SZ ⊢
  clear h hy hB hg hu hk hz
  unfold ptrV
  go_enter Tryz.func47, Tryz.ntmps47
  go_upto_region 1 with (first
    | ((with_reducible show wpList _ _ _ (⟨some 2, _, _, _, _, _⟩ :: _) _ _); refine wpList_alloc_blk rfl _ rfl [.int .u8 0, .int .i64 0] 2 ZN ?_; intro b w0 hb1 hb2 X0 L0)
    | fail)
  have j0 : w0.cell? ⟨g, 0, none⟩ = some (.int .u8 k) := (L0.out.cell (lt_of_cellD k0)).trans k0
  have j4 : w0.cell? ⟨g, 4, none⟩ = some u := (L0.out.cell (lt_of_cellD k4)).trans k4
  refine wp_region_held (S := fun w' => w'.cell? ⟨g, 0, none⟩ = some (.int .u8 k) ∧ w'.cell? ⟨g, 4, none⟩ = some u) (by kernel_rfl) ?_
  change wpAnyH _ _ _ _ _ _ _ _ w0.drew
  have Sr0 : Hid (w0.drew.cell? ⟨g, 0, none⟩ = some (.int .u8 k) ∧ w0.drew.cell? ⟨g, 4, none⟩ = some u) := ⟨j0, j4⟩
  have br0 : Hid (Below w.heap.size w w0.drew) := L0.out.drew
  refine wpAnyH_take (i := 0) (v := _) rfl (by kernel_rfl) (by kernel_rfl) (by kernel_rfl) (fun _ _ _ h => h) (yieldsIf_move (by kernel_rfl) (.tmp 0) rfl (.pointer (some ⟨g, 0, none⟩)) (by kernel_rfl)) Sr0.out ?_
  refine wpAnyH_take (i := 1) (v := _) rfl (by kernel_rfl) (by kernel_rfl) (by kernel_rfl) (fun _ _ _ h => h) (yieldsIf_nil (by kernel_rfl) (.tmp 3) rfl ⟨g, 0, none⟩ (by kernel_rfl)) Sr0.out ?_
  refine wpAnyH_take (i := 2) (v := _) rfl (by kernel_rfl) (by kernel_rfl) (by kernel_rfl) (fun _ _ _ h => h) (yieldsIf_fld (by kernel_rfl) _ (.tmp 4) 0 rfl (.pointer (some ⟨g, 0, none⟩)) (.pointer (some ⟨g, 0, none⟩)) (by kernel_rfl) (fun w => by go_simp)) Sr0.out ?_
  refine wpAnyH_take (i := 3) (v := _) rfl (by kernel_rfl) (by kernel_rfl) (by kernel_rfl) (fun _ _ _ h => h) (yieldsIf_fld (by kernel_rfl) _ (.tmp 5) 0 rfl (.pointer (some ⟨g, 0, none⟩)) (.pointer (some ⟨g, 0, none⟩)) (by kernel_rfl) (fun w => by go_simp)) Sr0.out ?_
  refine wpAnyH_take (i := 4) (v := _) rfl (by kernel_rfl) (by kernel_rfl) (by kernel_rfl) (fun _ _ _ h => h) (yieldsIf_load_one (by kernel_rfl) _ (.tmp 6) rfl g (0) (by kernel_rfl) (.int .u8 k) (fun _ h => h.1) _ Tryz.underlying32 rfl) Sr0.out ?_
  refine wpAnyH_take (i := 5) (v := _) rfl (by kernel_rfl) (by kernel_rfl) (by kernel_rfl) (fun _ _ _ h => h) (yieldsIf_move (by kernel_rfl) (.tmp 0) rfl (.pointer (some ⟨g, 0, none⟩)) (by kernel_rfl)) Sr0.out ?_
  refine wpAnyH_take (i := 6) (v := _) rfl (by kernel_rfl) (by kernel_rfl) (by kernel_rfl) (fun _ _ _ h => h) (yieldsIf_nil (by kernel_rfl) (.tmp 8) rfl ⟨g, 0, none⟩ (by kernel_rfl)) Sr0.out ?_
  refine wpAnyH_take (i := 7) (v := _) rfl (by kernel_rfl) (by kernel_rfl) (by kernel_rfl) (fun _ _ _ h => h) (yieldsIf_fld (by kernel_rfl) _ (.tmp 9) 2 rfl (.pointer (some ⟨g, 0, none⟩)) (.pointer (some ⟨g, 4, none⟩)) (by kernel_rfl) (fun w => by go_simp)) Sr0.out ?_
  refine wpAnyH_take (i := 8) (v := _) rfl (by kernel_rfl) (by kernel_rfl) (by kernel_rfl) (fun _ _ _ h => h) (yieldsIf_load_one (by kernel_rfl) _ (.tmp 10) rfl g (4) (by kernel_rfl) (u) (fun _ h => h.2) _ Tryz.underlying85 rfl) Sr0.out ?_
  refine wpAnyH_one 9 _ (by kernel_rfl) rfl fun K hK => ?_
  go_simp
  refine (SZ.out _ br0.out).mono ?_
  rintro e vr1 ⟨rfl, nq, rfl⟩
  have Sr1 : Hid ((w0.drew.drewN nq).cell? ⟨g, 0, none⟩ = some (.int .u8 k) ∧ (w0.drew.drewN nq).cell? ⟨g, 4, none⟩ = some u) := Sr0.out
  have br1 : Hid (Below w.heap.size w (w0.drew.drewN nq)) := br0.out.trans ((drewed w0.drew nq).mono (Below.size br0.out))
  have X1 : Hid (Blk (w0.drew.drewN nq) b 34 [.int .u8 0, .int .i64 0]) := (X0.out.over (drewed w0 1)).over (drewed w0.drew nq)
  have L1 := Lib.hid (br0.out.trans ((drewed w0.drew nq).mono (Below.size br0.out)))
  refine hK _ _ Sr1.out ?_
  clear hK K 
  refine wpAnyH_take (i := 10) (v := .agg ([.int .u8 k, .int .i64 (z : Nat)] : List Value).toArray) rfl (by kernel_rfl) (by kernel_rfl) (by kernel_rfl) (fun _ _ _ h => h) (yieldsIf_build_blk (by kernel_rfl) _ _ rfl [.int .u8 k, .int .i64 (z : Nat)] (by kernel_rfl)) Sr1.out ?_
  refine wpAnyH_one 11 _ (by kernel_rfl) rfl fun K hK => ?_
  refine step_store_blk rfl _ (.tmp 2) (.tmp 13) rfl b (by kernel_rfl) _ [.int .u8 0, .int .i64 0] [.int .u8 k, .int .i64 (z : Nat)] (by kernel_rfl) X1 2 size_stat rfl rfl (by intro v hv; simp only [List.mem_cons, List.not_mem_nil, or_false] at hv; rcases hv with rfl | rfl <;> rfl) ?_
  intro w2 X2 O2 hg2
  refine hK _ _ ⟨((O2.out.below (Nat.le_refl _)).cell (show g < b by omega)).trans j0, ((O2.out.below (Nat.le_refl _)).cell (show g < b by omega)).trans j4⟩ ?_
  clear hK K
  refine wpAnyH_done (by kernel_rfl) ?_ _
  go_wp2_with fail
  refine bodyPost_ret (v := .agg #[.int .u8 k, .int .i64 (z : Nat)]) ?_ rfl ⟨rfl, below_only L1.out O2.out hb1⟩
  exact results_cell_v rfl _ _ b _ _ (0, 0) _ rfl X2.out Tryz.underlying34 rfl (by rw [size_stat]; rfl)
theorem VStat_no (h : PVol DI EI w base q m D Q T M R) (hn : I64V n) (hno : ∀ y ∈ M, y.1.n ≠ n) : Calls Tryz.prog 15 #[ptrV q, .int .i64 n] w fun e w' => e = .returned (.tuple #[.agg #[.int .u8 0, .int .i64 0], .int .i64 7]) ∧ Below w.heap.size w w' := by
  have CN : Hid (∀ w', Below w.heap.size w w' → Calls Tryz.prog 46 #[ptrV q, .int .i64 n] w' fun e w2 => e = .returned (.tuple #[.pointer none, .int .i64 7]) ∧ w' = w2) := fun w' hb => VNode_no (h.below hb) hn hno
  have ZN : Hid ((Tryz.prog.info? 34).map (fun i => (i.zero, i.size)) = some (some (.agg ([.int .u8 0, .int .i64 0] : List Value).toArray), 2)) := zero_stat
  clear h hn hno
  unfold ptrV at CN ⊢
  go_enter Tryz.func15, Tryz.ntmps15
  go_wp2_with (first
    | ((with_reducible show wpList _ _ _ (⟨some 4, _, _, _, _, _⟩ :: _) _ _); refine wpList_alloc_blk rfl _ rfl [.int .u8 0, .int .i64 0] 2 ZN ?_; intro b w0 hb1 hb2 X0 L0)
    | fail)
  refine (CN.out w0 L0.out).mono ?_
  rintro e w1 ⟨rfl, rfl⟩
  go_wp2_with (first
    | ((with_reducible show wpList _ _ _ (⟨some 16, _, _, _, _, _⟩ :: _) _ _); go_loud (refine wpList_build_none rfl _ rfl [.int .u8 0, .int .i64 0] (by kernel_rfl) ?_))
    | ((with_reducible show wpList _ _ _ (⟨none, .store _ (.tmp 4) _, _, _, _, _⟩ :: _) _ _); go_loud (refine wpList_store_blk rfl _ (.tmp 4) (.tmp 16) rfl b rfl _ _ [.int .u8 0, .int .i64 0] rfl X0 2 size_stat rfl rfl (by intro u hu; simp only [List.mem_cons, List.not_mem_nil, or_false] at hu; rcases hu with rfl | rfl <;> rfl) ?_); intro w2 X2 O2 hg2)
    | fail)
  refine bodyPost_ret (v := .tuple #[.agg #[.int .u8 0, .int .i64 0], .int .i64 7]) ?_ rfl ⟨rfl, below_only L0.out O2.out hb1⟩
  exact results_cell_slot rfl _ _ b _ _ (0, 0) _ rfl X2.out Tryz.underlying34 rfl (by rw [size_stat]; rfl) rfl
theorem VStat_yes (h : PVol DI EI w base q m D Q T M R) (hy : y ∈ M) (hn : y.1.n = n) (hB : y.1.kind = 1 → y.1.B = []) : Calls Tryz.prog 15 #[ptrV q, .int .i64 n] w fun e w' => e = .returned (.tuple #[.agg #[.int .u8 y.1.kind, .int .i64 (y.1.B.length : Nat)], .int .i64 0]) ∧ Below w.heap.size w w' := by
  have CN : Hid (∀ w', Below w.heap.size w w' → Calls Tryz.prog 46 #[ptrV q, .int .i64 n] w' fun e w2 => e = .returned (.tuple #[ptrV y.2.g, .int .i64 0]) ∧ w' = w2) := fun w' hb => VNode_yes (h.below hb) hy hn
  have CS : Hid (∀ w', Below w.heap.size w w' → Calls Tryz.prog 47 #[ptrV y.2.g] w' fun e w2 => e = .returned (.agg #[.int .u8 y.1.kind, .int .i64 (y.1.B.length : Nat)]) ∧ Below w'.heap.size w' w2) := fun w' hb => VStat1_any (h.below hb) hy hB
  have ZN : Hid ((Tryz.prog.info? 34).map (fun i => (i.zero, i.size)) = some (some (.agg ([.int .u8 0, .int .i64 0] : List Value).toArray), 2)) := zero_stat
  obtain ⟨g, hg⟩ : ∃ g, g = y.2.g := ⟨_, rfl⟩
  obtain ⟨k, hk⟩ : ∃ k, k = y.1.kind := ⟨_, rfl⟩
  obtain ⟨z, hz⟩ : ∃ z, z = y.1.B.length := ⟨_, rfl⟩
  rw [← hg] at CN CS
  rw [← hk] at CS ⊢
  rw [← hz] at CS ⊢
  clear h hy hn hB hg hk hz
  unfold ptrV at CN CS ⊢
  go_enter Tryz.func15, Tryz.ntmps15
  go_wp2_with (first
    | ((with_reducible show wpList _ _ _ (⟨some 4, _, _, _, _, _⟩ :: _) _ _); refine wpList_alloc_blk rfl _ rfl [.int .u8 0, .int .i64 0] 2 ZN ?_; intro b w0 hb1 hb2 X0 L0)
    | fail)
  refine (CN.out w0 L0.out).mono ?_
  rintro e w1 ⟨rfl, rfl⟩
  go_wp2_with fail
  refine (CS.out _ L0.out).mono ?_
  rintro e w2 ⟨rfl, l2⟩
  have L2 := Lib.hid (step L0.out l2)
  have X1 := Lib.hid (X0.out.over l2)
  clear l2
  go_wp2_with (first
    | ((with_reducible show wpList _ _ _ (⟨none, .store _ (.tmp 4) _, _, _, _, _⟩ :: _) _ _); go_loud (refine wpList_store_blk rfl _ (.tmp 4) (.tmp 19) rfl b rfl _ _ [.int .u8 k, .int .i64 (z : Nat)] rfl X1 2 size_stat rfl rfl (by intro u hu; simp only [List.mem_cons, List.not_mem_nil, or_false] at hu; rcases hu with rfl | rfl <;> rfl) ?_); intro w3 X3 O3 hg3)
    | fail)
  refine bodyPost_ret (v := .tuple #[.agg #[.int .u8 k, .int .i64 (z : Nat)], .int .i64 0]) ?_ rfl ⟨rfl, below_only L2.out O3.out hb1⟩
  exact results_cell_slot rfl _ _ b _ _ (0, 0) _ rfl X3.out Tryz.underlying34 rfl (by rw [size_stat]; rfl) rfl
theorem VRead_err (h : PVol DI EI w base q m D Q T M R) {a k E : Int} (CN : Calls Tryz.prog 62 #[ptrV q, .int .i64 n] w fun e w' => e = .returned (.tuple #[.pointer none, .int .i64 E]) ∧ w = w') (hE : E ≠ 0) : Calls Tryz.prog 25 #[ptrV q, .int .i64 n, .int .i64 a, .int .i64 k] w fun e w' => e = .returned (.tuple #[.slice none 0 0, .int .i64 E]) ∧ Below w.heap.size w w' := by
  have C := Lib.hid CN
  clear CN h
  unfold ptrV at C ⊢
  go_enter Tryz.func25, Tryz.ntmps25
  go_wp2_with fail
  refine C.out.mono ?_
  rintro e w0 ⟨rfl, rfl⟩
  go_wp2_with fail
  go_ret2
  exact ⟨rfl, Below.refl _ _⟩
theorem VRead_yes (h : PVol DI EI w base q m D Q T M R) (hy : y ∈ M) (hn : y.1.n = n) (hk : y.1.kind = 2) {a k : Int} (ha : I64 a) (hk6 : I64 k) : Calls Tryz.prog 25 #[ptrV q, .int .i64 n, .int .i64 a, .int .i64 k] w fun e w' => ∃ u, e = .returned (.tuple #[u, .int .i64 (exRdE y.1.B.length a k)]) ∧ Own w' w.heap.size u (exRd y.1.B a k) ∧ Below w.heap.size w w' := by
  have C := Lib.hid (VFile_yes h hy hn hk)
  have CR := Lib.hid (EI.read (h.files y hy hk) ha hk6)
  obtain ⟨g, hg⟩ : ∃ g, g = y.2.q := ⟨_, rfl⟩
  obtain ⟨E, hE⟩ : ∃ E, E = exRdE y.1.B.length a k := ⟨_, rfl⟩
  obtain ⟨X, hX⟩ : ∃ X, X = exRd y.1.B a k := ⟨_, rfl⟩
  rw [← hg] at C CR
  rw [← hE, ← hX] at CR ⊢
  clear h hy hn hk hg hE hX
  unfold ptrV at C ⊢
  unfold ptr at C CR
  go_enter Tryz.func25, Tryz.ntmps25
  go_wp2_with fail
  refine C.out.mono ?_
  rintro e w0 ⟨rfl, rfl⟩
  go_wp2_with fail
  refine CR.out.mono ?_
  rintro e w1 ⟨u, rfl, o1, _, l1⟩
  have O1 := Lib.hid o1
  have L1 := Lib.hid l1
  clear o1 l1
  go_wp2_with fail
  go_ret2
  exact ⟨_, rfl, O1.out, L1.out⟩
end
end Go.Proofs.YtdgpbhdihhchgaaGreatDoor

namespace Go.Proofs.YtdgpbhdihhchgaaGreatDoor
set_option linter.all false
set_option maxRecDepth 100000
open Go.RowKit
set_option linter.unusedVariables false
structure LvC (w : World) (q m gy gz : Nat) (d : Int) (s : NameL) (u : Value) : Prop where
  c1 : w.cell? ⟨q, 1, none⟩ = some (.map (some m))
  n1 : w.cell? ⟨gy, 1, none⟩ = some (.int .i64 d)
  n2 : w.cell? ⟨gy, 2, none⟩ = some (strV s)
  n3 : w.cell? ⟨gz, 3, none⟩ = some u
  lk : (Instr.lookup 69 (.map (some m)) (.int .i64 d) false).run Tryz.prog w = .ok (.pointer (some ⟨gz, 0, none⟩)) w
section
variable {DI : DrI} {EI : FiI} {w w' : World} {base q m : Nat} {D : DataW Unit} {Q T n : Int} {M : List VN} {R R' : List (Int × DItem)} {y z : VN} {s : NameL}
theorem vmUp_map (h : PVol DI EI w base q m D Q T M R) (hy : y ∈ M) (P : PN) : (vmUp M y.1.n (y.1, P)).map (·.1) = M.map (·.1) := by
  unfold vmUp
  rw [List.map_map]
  refine List.map_congr_left fun z hz => ?_
  simp only [Function.comp]
  by_cases hn : z.1.n = y.1.n
  · rw [if_pos hn, h.same hz hy hn]
  · rw [if_neg hn]
theorem vmUp_set (h : PVol DI EI w base q m D Q T M R) (hy : y ∈ M) (P : PN) (d : Int) : (vmUp M y.1.n (⟨y.1.n, y.1.kind, d, s, y.1.B, y.1.Z⟩, P)).map (·.1) = vSet (M.map (·.1)) y.1.n d s := by
  unfold vmUp vSet
  rw [List.map_map, List.map_map]
  refine List.map_congr_left fun z hz => ?_
  simp only [Function.comp]
  by_cases hn : z.1.n = y.1.n
  · rw [if_pos hn, if_pos hn, h.same hz hy hn]
  · rw [if_neg hn, if_neg hn]
/-- what a turn of one directory comes to -/
theorem PVol.turnDir (h : PVol DI EI w base q m D Q T M R) (hz : z ∈ M) (hk : z.1.kind = 1) {K' : List DItem} (hK : Kid R' z.1.n K') (hR : ∀ d p, d ≠ z.1.n → ((d, p) ∈ R ↔ (d, p) ∈ R')) {E : Int} {e : Ending} (ht : DTurn DI.is w base z.2.q z.2.S E K' e w') :
    e = .returned (.int .i64 E) ∧ ∃ M', PTurn DI EI w base q m M Q T M' R' w' ∧ M'.map (·.1) = M.map (·.1) := by
  obtain ⟨he, S', d, a, n⟩ := ht
  refine ⟨he, _, h.up hz (y' := (z.1, ⟨z.2.g, z.2.q, S'⟩)) rfl rfl rfl (a.mono fun j _ hj => .inr hj) ((h.node z hz).2.spare a fun hj => (h.own z hz _ hj).2.2 z hz rfl) (fun _ => ⟨K', hK, d⟩) (fun e => by rw [hk] at e; cases e) n hR, vmUp_map h hz _⟩
theorem PVol.tbs (h : PVol DI EI w base q m D Q T M R) (htb : DI.tb base w) {M' : List VN} {Q' T' : Int} (p : PTurn DI EI w base q m M Q' T' M' R' w') : DI.tb base w' := by
  obtain ⟨_, _, a, _⟩ := p
  exact DI.tbNext htb (a.below (fun j hj => (h.lt j hj).1) h.hb)
set_option maxHeartbeats 4000000 in
theorem VLeave_any (h : PVol DI EI w base q m D Q T M R) (htb : DI.tb base w) (hy : y ∈ M) (hz : z ∈ M) (hyz : y.1.par = z.1.n) (hk : z.1.kind = 1) (hs : y.1.name.length ≤ 1048576) (hR : ∀ K, Kid R z.1.n K → Kid R' z.1.n (dRem K (ba y.1.name))) (hR2 : ∀ d p, d ≠ z.1.n → ((d, p) ∈ R ↔ (d, p) ∈ R')) (hn : y.1.n = n) :
    Calls Tryz.prog 70 #[ptrV q, .int .i64 n] w fun e w' => e = .returned (.tuple #[]) ∧ ∃ M', PTurn DI EI w base q m M Q T M' R' w' ∧ M'.map (·.1) = M.map (·.1) := by
  have hd := h.below (Below.refl _ w).drew
  obtain ⟨K, k, d⟩ := hd.dirs z hz hk
  have CR : Hid (Calls Tryz.prog 118 #[ptrD z.2.q, .string (ba y.1.name)] w.drew fun e w' => e = .returned (.int .i64 (dFindE K (ba y.1.name))) ∧ (∃ M', PTurn DI EI w base q m M Q T M' R' w' ∧ M'.map (·.1) = M.map (·.1)) ∧ LvC w' q m y.2.g z.2.g y.1.par y.1.name (ptrD z.2.q)) := by
    refine (DI.remove d (DI.tbNext htb ((Below.refl _ w).drew.mono h.hb)) hd.hb (s := ba y.1.name) hs).mono fun e w' ht => ?_
    obtain ⟨he, M', p, e2⟩ := hd.turnDir hz hk (hR K k) hR2 ht
    obtain ⟨_, S', _, a, _⟩ := ht
    have n3 := ((hd.node z hz).2.spare a fun hj => (hd.own z hz _ hj).2.2 z hz rfl).cell 3
    have lk := VMap.look1 (owns_same hd.map (a.rest m (World.ownsMap.lt hd.map) fun hj => (hd.own z hz _ hj).2.1 rfl)) hd.is (mem_nums hz) (hd.i64 hz)
    rw [← hyz] at lk
    exact ⟨he, ⟨M', (PTurn.refl h (Below.refl _ w).drew).trans p, e2⟩, (hd.blk.spare a fun hj => (hd.own z hz _ hj).1 rfl).cell 1, ((hd.node y hy).2.spare a fun hj => (hd.own z hz _ hj).2.2 y hy rfl).cell 1, ((hd.node y hy).2.spare a fun hj => (hd.own z hz _ hj).2.2 y hy rfl).cell 2, n3.trans (congrArg some (pnEnt_dir hk)), lk⟩
  have lky := h.look1 hy
  have lkz := hd.look1 hz
  rw [hn] at lky
  rw [← hyz] at lkz
  have k1 := h.c1
  have n1 := h.n1 hy
  have n2 := h.n2 hy
  have n3 := h.n3 hz
  rw [pnEnt_dir hk] at n3
  obtain ⟨gy, hgy⟩ : ∃ g, g = y.2.g := ⟨_, rfl⟩
  obtain ⟨gz, hgz⟩ : ∃ g, g = z.2.g := ⟨_, rfl⟩
  obtain ⟨d, hd'⟩ : ∃ d, d = y.1.par := ⟨_, rfl⟩
  obtain ⟨s, hs'⟩ : ∃ s, s = y.1.name := ⟨_, rfl⟩
  obtain ⟨u, hu⟩ : ∃ u, u = ptrD z.2.q := ⟨_, rfl⟩
  rw [← hgy] at lky n1 n2 CR
  rw [← hgz] at lkz n3 CR
  rw [← hd'] at lkz n1 CR
  rw [← hs'] at n2 CR
  rw [← hu] at n3 CR
  have LC : Hid (LvC w.drew q m gy gz d s u) := ⟨k1, n1, n2, n3, lkz⟩
  clear h hd htb hy hz hyz hk hs hR hR2 hn k lkz hgy hgz hd' hs' hu n1 n2 n3
  unfold ptrV at lky ⊢
  go_enter Tryz.func70, Tryz.ntmps70
  go_upto_region 1 with fail
  refine wp_region_held (S := fun w' => LvC w' q m gy gz d s u) (by kernel_rfl) ?_
  change wpAnyH _ _ _ _ _ _ _ _ w.drew
  have Sr0 : Hid (LvC w.drew q m gy gz d s u) := LC.out
  have br0 : Hid (True) := trivial
  refine wpAnyH_take (i := 0) (v := _) rfl (by kernel_rfl) (by kernel_rfl) (by kernel_rfl) (fun _ _ _ h => h) (yieldsIf_move (by kernel_rfl) (.tmp 0) rfl (.pointer (some ⟨q, 0, none⟩)) (by kernel_rfl)) Sr0.out ?_
  refine wpAnyH_take (i := 1) (v := _) rfl (by kernel_rfl) (by kernel_rfl) (by kernel_rfl) (fun _ _ _ h => h) (yieldsIf_nil (by kernel_rfl) (.tmp 11) rfl ⟨q, 0, none⟩ (by kernel_rfl)) Sr0.out ?_
  refine wpAnyH_take (i := 2) (v := _) rfl (by kernel_rfl) (by kernel_rfl) (by kernel_rfl) (fun _ _ _ h => h) (yieldsIf_fld (by kernel_rfl) _ (.tmp 12) 1 rfl (.pointer (some ⟨q, 0, none⟩)) (.pointer (some ⟨q, 1, none⟩)) (by kernel_rfl) (fun w => by go_simp)) Sr0.out ?_
  refine wpAnyH_take (i := 3) (v := _) rfl (by kernel_rfl) (by kernel_rfl) (by kernel_rfl) (fun _ _ _ h => h) (yieldsIf_load_one (by kernel_rfl) _ (.tmp 13) rfl q (1) (by kernel_rfl) (.map (some m)) (fun _ h => h.c1) _ Tryz.underlying69 rfl) Sr0.out ?_
  refine wpAnyH_take (i := 4) (v := _) rfl (by kernel_rfl) (by kernel_rfl) (by kernel_rfl) (fun _ _ _ h => h) (yieldsIf_move (by kernel_rfl) (.tmp 4) rfl (.pointer (some ⟨gy, 0, none⟩)) (by kernel_rfl)) Sr0.out ?_
  refine wpAnyH_take (i := 5) (v := _) rfl (by kernel_rfl) (by kernel_rfl) (by kernel_rfl) (fun _ _ _ h => h) (yieldsIf_nil (by kernel_rfl) (.tmp 15) rfl ⟨gy, 0, none⟩ (by kernel_rfl)) Sr0.out ?_
  refine wpAnyH_take (i := 6) (v := _) rfl (by kernel_rfl) (by kernel_rfl) (by kernel_rfl) (fun _ _ _ h => h) (yieldsIf_fld (by kernel_rfl) _ (.tmp 16) 0 rfl (.pointer (some ⟨gy, 0, none⟩)) (.pointer (some ⟨gy, 0, none⟩)) (by kernel_rfl) (fun w => by go_simp)) Sr0.out ?_
  refine wpAnyH_take (i := 7) (v := _) rfl (by kernel_rfl) (by kernel_rfl) (by kernel_rfl) (fun _ _ _ h => h) (yieldsIf_fld (by kernel_rfl) _ (.tmp 17) 1 rfl (.pointer (some ⟨gy, 0, none⟩)) (.pointer (some ⟨gy, 1, none⟩)) (by kernel_rfl) (fun w => by go_simp)) Sr0.out ?_
  refine wpAnyH_take (i := 8) (v := _) rfl (by kernel_rfl) (by kernel_rfl) (by kernel_rfl) (fun _ _ _ h => h) (yieldsIf_load_one (by kernel_rfl) _ (.tmp 18) rfl gy (1) (by kernel_rfl) (.int .i64 d) (fun _ h => h.n1) _ Tryz.underlying3 rfl) Sr0.out ?_
  refine wpAnyH_take (i := 9) (v := .pointer (some ⟨gz, 0, none⟩)) rfl (by kernel_rfl) (by kernel_rfl) (by kernel_rfl) (fun _ _ _ h => h) (yieldsIf_look (by kernel_rfl) _ (.tmp 14) (.tmp 19) false rfl (.map (some m)) (.int .i64 d) (by kernel_rfl) (by kernel_rfl) (fun _ h => h.lk)) Sr0.out ?_
  refine wpAnyH_take (i := 10) (v := _) rfl (by kernel_rfl) (by kernel_rfl) (by kernel_rfl) (fun _ _ _ h => h) (yieldsIf_nil (by kernel_rfl) (.tmp 20) rfl ⟨gz, 0, none⟩ (by kernel_rfl)) Sr0.out ?_
  refine wpAnyH_take (i := 11) (v := _) rfl (by kernel_rfl) (by kernel_rfl) (by kernel_rfl) (fun _ _ _ h => h) (yieldsIf_fld (by kernel_rfl) _ (.tmp 21) 1 rfl (.pointer (some ⟨gz, 0, none⟩)) (.pointer (some ⟨gz, 3, none⟩)) (by kernel_rfl) (fun w => by go_simp)) Sr0.out ?_
  refine wpAnyH_take (i := 12) (v := _) rfl (by kernel_rfl) (by kernel_rfl) (by kernel_rfl) (fun _ _ _ h => h) (yieldsIf_load_one (by kernel_rfl) _ (.tmp 22) rfl gz (3) (by kernel_rfl) (u) (fun _ h => h.n3) _ Tryz.underlying84 rfl) Sr0.out ?_
  refine wpAnyH_take (i := 13) (v := _) rfl (by kernel_rfl) (by kernel_rfl) (by kernel_rfl) (fun _ _ _ h => h) (yieldsIf_move (by kernel_rfl) (.tmp 4) rfl (.pointer (some ⟨gy, 0, none⟩)) (by kernel_rfl)) Sr0.out ?_
  refine wpAnyH_take (i := 14) (v := _) rfl (by kernel_rfl) (by kernel_rfl) (by kernel_rfl) (fun _ _ _ h => h) (yieldsIf_nil (by kernel_rfl) (.tmp 24) rfl ⟨gy, 0, none⟩ (by kernel_rfl)) Sr0.out ?_
  refine wpAnyH_take (i := 15) (v := _) rfl (by kernel_rfl) (by kernel_rfl) (by kernel_rfl) (fun _ _ _ h => h) (yieldsIf_fld (by kernel_rfl) _ (.tmp 25) 0 rfl (.pointer (some ⟨gy, 0, none⟩)) (.pointer (some ⟨gy, 0, none⟩)) (by kernel_rfl) (fun w => by go_simp)) Sr0.out ?_
  refine wpAnyH_take (i := 16) (v := _) rfl (by kernel_rfl) (by kernel_rfl) (by kernel_rfl) (fun _ _ _ h => h) (yieldsIf_fld (by kernel_rfl) _ (.tmp 26) 2 rfl (.pointer (some ⟨gy, 0, none⟩)) (.pointer (some ⟨gy, 2, none⟩)) (by kernel_rfl) (fun w => by go_simp)) Sr0.out ?_
  refine wpAnyH_take (i := 17) (v := _) rfl (by kernel_rfl) (by kernel_rfl) (by kernel_rfl) (fun _ _ _ h => h) (yieldsIf_load_one (by kernel_rfl) _ (.tmp 27) rfl gy (2) (by kernel_rfl) (strV s) (fun _ h => h.n2) _ Tryz.underlying9 rfl) Sr0.out ?_
  refine wpAnyH_one 18 _ (by kernel_rfl) rfl fun K hK => ?_
  go_simp
  refine CR.out.mono ?_
  rintro e w2 ⟨rfl, ⟨M', p2, e2⟩, lc⟩
  have P2 := Lib.hid p2
  have E2 := Lib.hid e2
  refine hK _ _ lc ?_
  clear hK K p2 e2 lc
  refine wpAnyH_done (by kernel_rfl) ?_ _
  go_wp2_with fail
  go_end0
  exact ⟨rfl, _, P2.out, E2.out⟩
set_option maxHeartbeats 4000000 in
theorem VEnter_any (h : PVol DI EI w base q m D Q T M R) (htb : DI.tb base w) (hy : y ∈ M) (hz : z ∈ M) (hyz : z.1.n ≠ y.1.n) (hk : z.1.kind = 1) (hs : s.length ≤ 1048576) (hlen : ∀ K, Kid R z.1.n K → K.length < 4096) (hR : ∀ K, Kid R z.1.n K → Kid R' z.1.n (dAdd K (ba s) y.1.n)) (hR2 : ∀ d p, d ≠ z.1.n → ((d, p) ∈ R ↔ (d, p) ∈ R')) {d : Int} (hn : y.1.n = n) (hd : z.1.n = d) :
    Calls Tryz.prog 71 #[ptrV q, .int .i64 n, .int .i64 d, strV s] w fun e w' => e = .returned (.tuple #[]) ∧ ∃ M', PTurn DI EI w base q m M Q T M' R' w' ∧ M'.map (·.1) = vSet (M.map (·.1)) n d s := by
  have FACT : Hid (∀ w2, Spare (fun j => j = y.2.g) w w2 → Blk w2 y.2.g 87 [.int .u8 y.1.kind, .int .i64 d, strV s, pnEnt y, pnDat y] → w2.cell? ⟨q, 1, none⟩ = some (.map (some m)) ∧ (Instr.lookup 69 (.map (some m)) (.int .i64 d) false).run Tryz.prog w2 = .ok (.pointer (some ⟨z.2.g, 0, none⟩)) w2 ∧ w2.cell? ⟨z.2.g, 3, none⟩ = some (ptrD z.2.q) ∧
      ∃ E, Calls Tryz.prog 119 #[ptrD z.2.q, strV s, .int .i64 n] w2 fun e w' => e = .returned (.int .i64 E) ∧ ∃ M', PTurn DI EI w base q m M Q T M' R' w' ∧ M'.map (·.1) = vSet (M.map (·.1)) n d s) := by
    intro w2 a hB
    have p := h.up hy (y' := (⟨y.1.n, y.1.kind, d, s, y.1.B, y.1.Z⟩, y.2)) (R' := R) rfl rfl rfl (a.mono fun j _ e => .inl e) hB (fun hk => by
      obtain ⟨K, k, d⟩ := h.dirs y hy hk
      exact ⟨K, k, DI.keep d a fun j hj e => (h.own y hy j hj).2.2 y hy e⟩) (fun hk => EI.keep (h.files y hy hk) a fun j hj e => (h.own y hy j hj).2.2 y hy e) (fun j hj => .inl hj) fun _ _ _ => Iff.rfl
    have htb2 := h.tbs htb p
    have hp := p
    obtain ⟨D2, p2, s2, n2⟩ := hp
    have hz2 : z ∈ vmUp M y.1.n (⟨y.1.n, y.1.kind, d, s, y.1.B, y.1.Z⟩, y.2) := List.mem_map.2 ⟨z, hz, if_neg hyz⟩
    obtain ⟨K, k, dd⟩ := p2.dirs z hz2 hk
    have l2 := p2.look1 hz2
    rw [hd] at l2
    have c3 := p2.n3 hz2
    rw [pnEnt_dir hk] at c3
    have hi := h.i64 hy
    rw [hn] at hi
    refine ⟨p2.c1, l2, c3, dAddE K (ba s), (DI.add dd htb2 p2.hb (s := ba s) hs hi (hlen K k)).mono fun e w' ht => ?_⟩
    have hRK := hR K k
    rw [hn] at hRK
    obtain ⟨he, M', p3, e3⟩ := p2.turnDir hz2 hk hRK hR2 ht
    refine ⟨he, M', p.trans p3, ?_⟩
    rw [e3, vmUp_set h hy, hn]
  have lky := h.look1 hy
  rw [hn] at lky
  have k1 := h.c1
  have By := Lib.hid (h.node y hy).2
  have n0 := h.n0 hy
  have n1 := h.n1 hy
  have n2 := h.n2 hy
  unfold pnCells at By
  obtain ⟨gy, hgy⟩ : ∃ g, g = y.2.g := ⟨_, rfl⟩
  obtain ⟨gz, hgz⟩ : ∃ g, g = z.2.g := ⟨_, rfl⟩
  obtain ⟨a0, ha0⟩ : ∃ a, a = Value.int .u8 y.1.kind := ⟨_, rfl⟩
  obtain ⟨a3, ha3⟩ : ∃ a, a = pnEnt y := ⟨_, rfl⟩
  obtain ⟨a4, ha4⟩ : ∃ a, a = pnDat y := ⟨_, rfl⟩
  obtain ⟨u, hu⟩ : ∃ u, u = ptrD z.2.q := ⟨_, rfl⟩
  rw [← hgy] at lky By n0 n1 n2 FACT
  rw [← hgz, ← hu] at FACT
  rw [← ha0, ← ha3, ← ha4] at By FACT
  clear h htb hy hz hyz hk hs hlen hR hR2 hn hd hgy hgz ha0 ha3 ha4 hu n0 n1 n2
  unfold ptrV at lky ⊢
  unfold strV at *
  go_enter Tryz.func71, Tryz.ntmps71
  go_wp2_with (first
    | ((with_reducible show wpList _ _ _ (⟨none, .store _ (.tmp 21) _, _, _, _, _⟩ :: _) _ _); go_loud (refine wpList_store_fld rfl _ (.tmp 21) (.tmp 17) rfl gy 1 rfl _ _ (.int .i64 d) rfl By (show 1 < 5 by omega) (by kernel_rfl) rfl ?_); intro w1 B1 O1 hg1)
    | ((with_reducible show wpList _ _ _ (⟨none, .store _ (.tmp 24) _, _, _, _, _⟩ :: _) _ _); go_loud (refine wpList_store_fld rfl _ (.tmp 24) (.tmp 18) rfl gy 2 rfl _ _ (.string ⟨s.toArray⟩) rfl B1 (show 2 < 5 by omega) (by kernel_rfl) rfl ?_); intro w2 B2 O2 hg2; go_loud (obtain ⟨c1, lz, c3, E, ca⟩ := FACT.out w2 (Spare.of_only (O1.out.trans O2.out)) B2.out); have CA := Lib.hid ca; clear ca)
    | fail)
  refine CA.out.mono ?_
  rintro e w3 ⟨rfl, M', p3, e3⟩
  have P3 := Lib.hid p3
  have E3 := Lib.hid e3
  clear p3 e3
  go_wp2_with fail
  go_end0
  exact ⟨rfl, _, P3.out, E3.out⟩
theorem VDrop_any (h : PVol DI EI w base q m D Q T M R) (htb : DI.tb base w) (hy : y ∈ M) (hz : z ∈ M) (hyz : y.1.par = z.1.n) (hk : z.1.kind = 1) (hs : y.1.name.length ≤ 1048576) (hR : ∀ K, Kid R z.1.n K → Kid R' z.1.n (dRem K (ba y.1.name))) (hR2 : ∀ d p, d ≠ z.1.n → ((d, p) ∈ R ↔ (d, p) ∈ R')) (hn : y.1.n = n) :
    Calls Tryz.prog 69 #[ptrV q, .int .i64 n] w fun e w' => e = .returned (.tuple #[]) ∧ ∃ M', PTurn DI EI w base q m M Q T M' R' w' ∧ M'.map (·.1) = vAway (M.map (·.1)) n := by
  have CL : Hid (Calls Tryz.prog 70 #[ptrV q, .int .i64 n] w fun e w' => e = .returned (.tuple #[]) ∧ ∃ K D2, VMap w' m K D2 ∧ w'.cell? ⟨q, 1, none⟩ = some (.map (some m)) ∧ ∀ w3 K', VMap w3 m K' (D2.del (.int .i64 n)) → w'.mapTurned w3 m → ∃ M', PTurn DI EI w base q m M Q T M' R' w3 ∧ M'.map (·.1) = vAway (M.map (·.1)) n) := by
    refine (VLeave_any h htb hy hz hyz hk hs hR hR2 hn).mono ?_
    rintro e w' ⟨he, M1, p1, e1⟩
    have hp := p1
    obtain ⟨D2, p2, s2, n2⟩ := hp
    obtain ⟨y', hy', ey⟩ : ∃ y' ∈ M1, y'.1 = y.1 := List.mem_map.1 (by rw [e1]; exact List.mem_map.2 ⟨y, hy, rfl⟩)
    refine ⟨he, _, D2, p2.map, p2.c1, fun w3 K' hM ht => ?_⟩
    have hn' : y'.1.n = n := by rw [ey]; exact hn
    rw [← hn'] at hM ⊢
    exact ⟨_, p1.trans (p2.away hy' (Spare.of_turned ht) hM), by rw [(vmAway_facts p2 hy').2.2.2, e1]⟩
  have hi := h.i64 hy
  rw [hn] at hi
  have HK := Lib.hid (vol_key hi)
  clear h htb hy hz hyz hk hs hR hR2 hn hi
  unfold ptrV at CL ⊢
  go_enter Tryz.func69, Tryz.ntmps69
  go_wp2_with fail
  refine CL.out.mono ?_
  rintro e w1 ⟨rfl, K, D2, m1, c1, fin⟩
  have M1 := Lib.hid m1
  have FIN := Lib.hid fin
  clear m1 fin
  go_wp2_with (first
    | ((with_reducible show wpList _ _ _ (⟨none, .call _, _, _, _, _⟩ :: _) _ _); go_loud (refine wpList_delete_own _ rfl (.tmp 10) (.tmp 11) 69 3 rfl 81 vol_keyed Tryz.underlying69 ptrR m K D2 rfl M1.out (.int .i64 n) (.int .i64 n) rfl HK.out ?_); intro w2 o2 t2; go_loud (obtain ⟨M', p', e'⟩ := FIN.out w2 _ o2 t2); have P' := Lib.hid p'; have E' := Lib.hid e'; clear o2 t2 p' e')
    | fail)
  go_end0
  exact ⟨rfl, _, P'.out, E'.out⟩
end
/-- what newNode lays -/
def NewN (DI : DrI) (EI : FiI) (w : World) (k : Int) (P : PN) (w' : World) : Prop :=
  w.heap.size ≤ P.g ∧ Blk w' P.g 87 (pnCells (⟨0, k, 0, [], [], []⟩, P)) ∧ (k = 1 → DI.is w' w.heap.size P.q [] P.S) ∧ (k = 2 → EI.is w' w.heap.size P.q [] [] P.S) ∧ (∀ j, P.S j → w.heap.size ≤ j ∧ j ≠ P.g) ∧ Below w.heap.size w w'
set_option maxHeartbeats 4000000 in
theorem VNew_dir (DI : DrI) (EI : FiI) (w : World) (htb : DI.tb w.heap.size w) : Calls Tryz.prog 72 #[.int .u8 1] w fun e w' => ∃ P, e = .returned (ptrV P.g) ∧ NewN DI EI w 1 P w' := by
  have CN : Hid (∀ w', Below w.heap.size w w' → Calls Tryz.prog 120 #[] w' fun e w2 => ∃ q S, e = .returned (ptrD q) ∧ DI.is w2 w'.heap.size q [] S ∧ Below w'.heap.size w' w2) := fun w' hb => DI.new (DI.tbUp (DI.tbNext htb hb) hb.size) (Nat.le_refl _)
  have GE : Hid (∀ w b q L S, DI.is w b q L S → ∀ j, S j → b ≤ j ∧ j < w.heap.size) := fun _ _ _ _ _ h => DI.ge h
  have KP : Hid (∀ w w' b q L S g, DI.is w b q L S → Only g w w' → ¬ S g → DI.is w' b q L S) := fun _ _ _ _ _ _ _ h o hg => DI.keep h (Spare.of_only o) fun j hj e => hg (e ▸ hj)
  have MO : Hid (∀ w b b' q L S, DI.is w b q L S → b' ≤ b → DI.is w b' q L S) := fun _ _ _ _ _ _ h hb => DI.mono h hb
  clear htb
  unfold ptrD at CN
  go_enter Tryz.func72, Tryz.ntmps72
  go_wp2_with (first
    | ((with_reducible show wpList _ _ _ (⟨some 5, _, _, _, _, _⟩ :: _) _ _); go_loud (refine wpList_build_blk rfl _ _ rfl [.int .u8 1, .int .i64 0, .string .empty] (by kernel_rfl) ?_))
    | ((with_reducible show wpList _ _ _ (⟨some 6, _, _, _, _, _⟩ :: _) _ _); go_loud (refine wpList_build_blk rfl _ _ rfl [.int .u8 1, .int .i64 0, .string .empty, .pointer none, .pointer none] (by kernel_rfl) ?_))
    | ((with_reducible show wpList _ _ _ (⟨some 7, _, _, _, _, _⟩ :: _) _ _); go_loud (refine wpList_box_blk rfl _ (.tmp 6) rfl [.int .u8 1, .int .i64 0, .string .empty, .pointer none, .pointer none] rfl ?_); intro g w1 hg1 hg2 B1 L1)
    | fail)
  refine (CN.out w1 L1.out).mono ?_
  rintro e w2 ⟨qd, Sd, rfl, d2, l2⟩
  have D2 := Lib.hid d2
  have B2 := Lib.hid (B1.out.over l2)
  have L2 := Lib.hid (step L1.out l2)
  have NS : Hid (¬ Sd g) := fun hs => by have := (GE.out _ _ _ _ _ d2 g hs).1; omega
  clear d2 l2
  go_wp2_with (first
    | ((with_reducible show wpList _ _ _ (⟨none, .store _ (.tmp 14) _, _, _, _, _⟩ :: _) _ _); go_loud (refine wpList_store_fld rfl _ (.tmp 14) (.tmp 12) rfl g 3 rfl _ _ (.pointer (some ⟨qd, 0, none⟩)) rfl B2 (show 3 < 5 by omega) (by kernel_rfl) rfl ?_); intro w3 B3 O3 hg3)
    | fail)
  go_ret
  have hge : ∀ j, Sd j → w.heap.size ≤ j := fun j hj => by have := (GE.out _ _ _ _ _ D2.out j hj).1; omega
  refine ⟨⟨g, qd, Sd⟩, rfl, hg1, B3.out, fun _ => MO.out _ _ _ _ _ _ (KP.out _ _ _ _ _ _ _ D2.out O3.out NS.out) (by omega), (fun e => by cases e), fun j hj => ⟨hge j hj, fun e => NS.out (by have e2 : j = g := e; rw [← e2]; exact hj)⟩, below_only L2.out O3.out hg1⟩
set_option maxHeartbeats 4000000 in
theorem VNew_file (DI : DrI) (EI : FiI) (w : World) : Calls Tryz.prog 72 #[.int .u8 2] w fun e w' => ∃ P, e = .returned (ptrV P.g) ∧ NewN DI EI w 2 P w' := by
  have CN : Hid (∀ w', Calls Tryz.prog 121 #[] w' fun e w2 => ∃ q S, e = .returned (ptr q) ∧ EI.is w2 w'.heap.size q [] [] S ∧ Below w'.heap.size w' w2) := fun w' => EI.new w'
  have GE : Hid (∀ w b q B Z S, EI.is w b q B Z S → ∀ j, S j → b ≤ j ∧ j < w.heap.size) := fun _ _ _ _ _ _ h => EI.ge h
  have KP : Hid (∀ w w' b q B Z S g, EI.is w b q B Z S → Only g w w' → ¬ S g → EI.is w' b q B Z S) := fun _ _ _ _ _ _ _ _ h o hg => EI.keep h (Spare.of_only o) fun j hj e => hg (e ▸ hj)
  have MO : Hid (∀ w b b' q B Z S, EI.is w b q B Z S → b' ≤ b → EI.is w b' q B Z S) := fun _ _ _ _ _ _ _ h hb => EI.mono h hb
  unfold ptr at CN
  go_enter Tryz.func72, Tryz.ntmps72
  go_wp2_with (first
    | ((with_reducible show wpList _ _ _ (⟨some 5, _, _, _, _, _⟩ :: _) _ _); go_loud (refine wpList_build_blk rfl _ _ rfl [.int .u8 2, .int .i64 0, .string .empty] (by kernel_rfl) ?_))
    | ((with_reducible show wpList _ _ _ (⟨some 6, _, _, _, _, _⟩ :: _) _ _); go_loud (refine wpList_build_blk rfl _ _ rfl [.int .u8 2, .int .i64 0, .string .empty, .pointer none, .pointer none] (by kernel_rfl) ?_))
    | ((with_reducible show wpList _ _ _ (⟨some 7, _, _, _, _, _⟩ :: _) _ _); go_loud (refine wpList_box_blk rfl _ (.tmp 6) rfl [.int .u8 2, .int .i64 0, .string .empty, .pointer none, .pointer none] rfl ?_); intro g w1 hg1 hg2 B1 L1)
    | fail)
  refine (CN.out w1).mono ?_
  rintro e w2 ⟨qd, Sd, rfl, d2, l2⟩
  have D2 := Lib.hid d2
  have B2 := Lib.hid (B1.out.over l2)
  have L2 := Lib.hid (step L1.out l2)
  have NS : Hid (¬ Sd g) := fun hs => by have := (GE.out _ _ _ _ _ _ d2 g hs).1; omega
  clear d2 l2
  go_wp2_with (first
    | ((with_reducible show wpList _ _ _ (⟨none, .store _ (.tmp 20) _, _, _, _, _⟩ :: _) _ _); go_loud (refine wpList_store_fld rfl _ (.tmp 20) (.tmp 18) rfl g 4 rfl _ _ (.pointer (some ⟨qd, 0, none⟩)) rfl B2 (show 4 < 5 by omega) (by kernel_rfl) rfl ?_); intro w3 B3 O3 hg3)
    | fail)
  go_ret
  have hge : ∀ j, Sd j → w.heap.size ≤ j := fun j hj => by have := (GE.out _ _ _ _ _ _ D2.out j hj).1; omega
  refine ⟨⟨g, qd, Sd⟩, rfl, hg1, B3.out, (fun e => by cases e), fun _ => MO.out _ _ _ _ _ _ _ (KP.out _ _ _ _ _ _ _ _ D2.out O3.out NS.out) (by omega), fun j hj => ⟨hge j hj, fun e => NS.out (by have e2 : j = g := e; rw [← e2]; exact hj)⟩, below_only L2.out O3.out hg1⟩
end Go.Proofs.YtdgpbhdihhchgaaGreatDoor
