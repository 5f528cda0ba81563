import Derived.WalkKit
import Derived.Deep.Draws
import Derived.Laws.Rows
import Derived.Laws.OwnMore
import Derived.Lib.RuneBytes
import Derived.Lib.ValidLaws
import Derived.Test.YtdlcjobahdmapaaDoorRows
import Derived.Laws.CopyOwn
import Derived.Laws.AppendOwnNone
import Derived.Lib.Hide
import Derived.Laws.AppendOwn
import Derived.OwnWalk
import Derived.Lib.OthersKept
import Derived.Laws.BytesArg
import Derived.Shelf.Utf8.AppendRunePlain
import Derived.Shelf.Unicode.ValidAny
import Derived.Test.YtdlcjobahdmapaaDoorProg
import Derived.WalkSpells
import Derived.WalkLawsBesides
import Derived.Deep.QuietTactic
import Derived.BigQuiet
import Derived.Laws.Bits64
import Derived.Laws.BitsAllLaws
import Derived.Laws.Tables
import Derived.Laws.NewFold
import Derived.Deep.WholeRow
import Derived.Deep.MidRow
import Derived.Great.Walk
import Derived.OrdersHeld
import Derived.Laws.StructEq
import Derived.ChangeKeysEq
import Derived.Deep.RegionLaw
import Derived.ProofKit
import Derived.OpenShut
import Derived.ShutString
import Derived.SizedLaws
import Derived.ChangeOld
import Derived.Lib.AppendZeros
import Derived.Deep.RegionWith
import Derived.Deep.DeepCutAuto
import Derived.OneCell
import Derived.Deep.Strs
import Derived.Deep.OwnRows
import Derived.Lib.LaidIn
import Derived.Lib.LaidU8T
import Derived.Deep.DeepHandedRow
import Derived.Test.YtdlcjobahdmapaaDoorWAD
import Derived.Test.YtdlcjobahdmapaaDoorWAE
import Derived.Test.YtdlcjobahdmapaaDoorWAF
import Derived.Test.YtdlcjobahdmapaaDoorWAG
import Derived.Test.YtdlcjobahdmapaaDoorWAI
import Derived.Test.YtdlcjobahdmapaaDoorWAL
import Derived.Test.YtdlcjobahdmapaaDoorWAM
import Derived.Test.YtdlcjobahdmapaaDoorWAO
import Derived.Test.YtdlcjobahdmapaaDoorWAP
import Derived.Test.YtdlcjobahdmapaaDoorWAU
import Derived.Test.YtdlcjobahdmapaaDoorWAW
import Derived.Test.YtdlcjobahdmapaaDoorWAZ
import Derived.Test.YtdlcjobahdmapaaDoorWBA
namespace Go.Proofs.YtdlcjobahdmapaaDoor
set_option linter.all false
open Go.Lib
theorem isText_nil : isText [] = true := rfl
theorem putBytes_append (rs qs : List Int) : putBytes (rs ++ qs) = putBytes rs ++ putBytes qs := by simp [putBytes]
end Go.Proofs.YtdlcjobahdmapaaDoor

namespace Go.Proofs.YtdlcjobahdmapaaDoor
set_option linter.all false
open Go.RowKit
section
variable {k k' : IntKind} {e e' : TypeId} {w w' : World} {base base' : Nat} {v u : Value} {xs ys : List Int}
/-- append(l, xs..), the new ones lying in a block of their own that has just been laid, onto a row of the call's own -/
theorem wpList_append_lit {P : Program} {ops : Array Oper} {rest : List Oper} {o : Oper} {a : Act} {Q : Exit → Act → World → Prop} (hgd : o.guard = none) (s x : Operand) (k : IntKind) (T e : TypeId) (bytes : Nat)
    (ht : P.underlying T = some (.slice e)) (hi : (P.info? e).map (fun i => (i.zero, i.size, i.bytes)) = some (some (.int k 0), 1, bytes))
    (ho : o.op = .call { callee := .builtin .append, args := #[s, x], argTypes := #[T, T] })
    (base : Nat) (v : Value) (xs ys : List Int) (cs : Array Value) (hcs : cs = (ys.map (Value.int k)).toArray) (m c : Nat) (hm : ys.length = m) (hs : a.eval s = v) (hx : a.eval x = .slice (some ⟨w.heap.size, 0, none⟩) m c)
    (hown : OwnK k e w base v xs) (hlen : (xs.length + m) * bytes ≤ 140737488355328) (h63 : xs.length + m ≤ 9223372036854775807) (hbase : base ≤ w.heap.size)
    (h : ∀ v' w', Hid (OwnK k e w' base v' (xs ++ ys)) → Hid (Grew w w' v) → wpList P ops Q rest (a.put o.dst v') w') :
    wpList P ops Q (o :: rest) a (w.alloc (.cells cs e)) := by
  obtain ⟨i0, hi0, hz0, hz1, hz2⟩ := info_parts hi
  subst hcs
  have hr : (w.alloc (.cells (ys.map (Value.int k)).toArray e)).heap[w.heap.size]? = some (.cells (ys.map (Value.int k)).toArray e (0, 0)) := heap_alloc_new w _
  refine wpList_append_own _ hgd s x T ho base e i0 (.int k 0) 1 bytes ht hi0 hz0 hz1 hz2 rfl (by omega) v xs.length (xs.map (Value.int k)) hs (OwnK.alloc hown _) ⟨w.heap.size, 0, none⟩ m c (ys.map (Value.int k)) hx (by simp [hm]) ?_
    (by intro v hv; obtain ⟨x, _, rfl⟩ := List.mem_map.1 hv; rfl) (by unfold maxLen; omega) hlen (by simp; omega) ?_
  · intro j y hj
    have e1 : (⟨w.heap.size, 0, none⟩ : Addr).add j = ⟨w.heap.size, j, none⟩ := by
      by_cases hj0 : j = 0
      · subst hj0; simp [Addr.add]
      · simp [Addr.add, hj0]
    rw [e1, cell_of_row _ w.heap.size j _ e (0, 0) hr, ← hj]
    simp
  · intro v' w' hown' hgr _
    refine h v' w' ?_ ⟨_, hgr⟩
    show World.ownsRow _ _ _ _ _ _ _
    rw [List.length_append, List.map_append, hm]
    exact hown'
end
section
variable {k : IntKind} {e : TypeId} {w : World} {base : Nat} {v : Value} {xs ys : List Int}
/-- the same append as a step of a region that draws its order -/
theorem step_append_lit {P : Program} {ops : Array Oper} {o : Oper} {a : Act} {K : Act → World → Prop} {Q : Exit → Act → World → Prop} {E : Prop} (hgd : o.guard = none) (s x : Operand) (k : IntKind) (T e : TypeId) (bytes : Nat)
    (ht : P.underlying T = some (.slice e)) (hi : (P.info? e).map (fun i => (i.zero, i.size, i.bytes)) = some (some (.int k 0), 1, bytes))
    (ho : o.op = .call { callee := .builtin .append, args := #[s, x], argTypes := #[T, T] })
    (base : Nat) (v : Value) (xs ys : List Int) (cs : Array Value) (hcs : cs = (ys.map (Value.int k)).toArray) (m c : Nat) (hm : ys.length = m) (hs : a.eval s = v) (hx : a.eval x = .slice (some ⟨w.heap.size, 0, none⟩) m c)
    (hown : OwnK k e w base v xs) (hlen : (xs.length + m) * bytes ≤ 140737488355328) (h63 : xs.length + m ≤ 9223372036854775807) (hbase : base ≤ w.heap.size)
    (h : ∀ v' w', Hid (OwnK k e w' base v' (xs ++ ys)) → Hid (Grew w w' v) → K (a.put o.dst v') w') :
    if Region.wanted o (yielded ops a.tmps) = true then Oper.wp P o a (w.alloc (.cells cs e)).drew K Q else E := by
  have hw : Region.wanted o (yielded ops a.tmps) = true := by simp [Region.wanted, hgd]
  rw [if_pos hw]
  obtain ⟨i0, hi0, hz0, hz1, hz2⟩ := info_parts hi
  subst hcs
  have hr : (w.alloc (.cells (ys.map (Value.int k)).toArray e)).drew.heap[w.heap.size]? = some (.cells (ys.map (Value.int k)).toArray e (0, 0)) := heap_alloc_new w _
  refine wp_append_own _ s x T ho base e i0 (.int k 0) 1 bytes ht hi0 hz0 hz1 hz2 rfl (by omega) v xs.length (xs.map (Value.int k)) hs (show OwnK k e (w.alloc _).drew base v xs from (OwnK.alloc hown _).keep fun _ _ _ _ => rfl) ⟨w.heap.size, 0, none⟩ m c (ys.map (Value.int k)) hx (by simp [hm]) ?_
    (by intro v hv; obtain ⟨x, _, rfl⟩ := List.mem_map.1 hv; rfl) (by unfold maxLen; omega) hlen (by show base ≤ (w.alloc _).heap.size; simp; omega) ?_
  · intro j y hj
    have e1 : (⟨w.heap.size, 0, none⟩ : Addr).add j = ⟨w.heap.size, j, none⟩ := by
      by_cases hj0 : j = 0
      · subst hj0; simp [Addr.add]
      · simp [Addr.add, hj0]
    rw [e1, cell_of_row _ w.heap.size j _ e (0, 0) hr, ← hj]
    simp
  · intro v' w' hown' hgr _
    refine h v' w' ?_ ⟨_, ⟨hgr.os, hgr.tape, hgr.output, hgr.size, hgr.block⟩⟩
    show World.ownsRow _ _ _ _ _ _ _
    rw [List.length_append, List.map_append, hm]
    exact hown'
end
end Go.Proofs.YtdlcjobahdmapaaDoor

namespace Go.Proofs.YtdlcjobahdmapaaDoor
set_option linter.all false
open Go.RowKit
theorem info_i64 : (Tryd.prog.info? 3).map (fun i => (i.zero, i.size, i.bytes)) = some (some (.int .i64 0), 1, 8) := by kernel_rfl
end Go.Proofs.YtdlcjobahdmapaaDoor

namespace Go.Proofs.YtdlcjobahdmapaaDoor
set_option linter.all false
open Go.RowKit
section
section
variable {P : Program} {w : World} {d : Nat} {xs ys : Array Value} {r : List (Bool × TypeId × Nat)} {q : Bool}
end
section
variable {P : Program} {ops : Array Oper} {S : World → Prop}
theorem yieldsIf_load_blk {op : Oper} {a : Act} (hw : Region.wanted op (yielded ops a.tmps) = true) (T : TypeId) (x : Operand) (ho : op.op = .load T x) (g : Nat) (hx : a.eval x = .pointer (some ⟨g, 0, none⟩)) (T' : TypeId) (cs : List Value)
    (hS : ∀ w, S w → Blk w g T' cs) (n : Nat) (d : TypeDesc) (hu : P.underlying T = some d) (hd : (match d with | .struct _ | .array _ _ => true | _ => false) = true) (hi : (P.info? T).map (·.size) = some n) (hn : Hid (cs.length = n)) : YieldsIf P ops S op (.agg cs.toArray) a :=
  .inl ⟨hw, fun w hw' => by
    have hr := run_loadVar_row (P := P) w g T' T cs.toArray (0, 0) _ (hS w hw') hu hd (by rw [hi]; have := hn.out; simp [this])
    unfold execOp
    simp only [ho, hx, Instr.loadAt, Instr.sureAddr, Sem.run_bind, Sem.run_pure, Result.andThen_ok, hr]⟩
end
end
end Go.Proofs.YtdlcjobahdmapaaDoor

namespace Go.Proofs.YtdlcjobahdmapaaDoor
set_option linter.all false
open Go.RowKit
section
variable {P : Program} {ops : Array Oper} {rest : List Oper} {o : Oper} {a : Act} {w : World} {Q : Exit → Act → World → Prop}
/-- one cell, as a step of a region that draws its order -/
theorem step_store_fld {K : Act → World → Prop} {E : Prop} (hg : o.guard = none) (T : TypeId) (x y : Operand) (ho : o.op = .store T x y) (g i : Nat) (hx : a.eval x = .pointer (some ⟨g, i, none⟩)) (T' : TypeId) (cs : List Value) (u : Value) (hy : a.eval y = u)
    (hA : Hid (Blk w g T' cs)) (hi : Hid (i < cs.length)) (hs : (P.info? T).map (·.size) = some 1) (h1 : u.oneCell' = true)
    (h : ∀ w', Hid (Blk w' g T' (cs.set i u)) → Hid (Only g w w') → g < w'.heap.size → K (a.put o.dst undef) w') :
    if Region.wanted o (yielded ops a.tmps) = true then Oper.wp P o a w K Q else E := by
  have hw : Region.wanted o (yielded ops a.tmps) = true := by simp [Region.wanted, hg]
  rw [if_pos hw]
  unfold Oper.wp execOp
  simp only [ho, hx, hy, Instr.storeAt, Instr.sureAddr, Sem.run_bind, Sem.run_pure, Result.andThen_ok, run_storeVar_fld w g i T' T cs u hA.out hi.out hs h1]
  refine h _ (hA.out.set i u) (only_setCell w g i u) ?_
  have := (only_setCell w g i u).size
  rw [this]
  exact hA.out.lt
end
end Go.Proofs.YtdlcjobahdmapaaDoor

namespace Go.Proofs.YtdlcjobahdmapaaDoor
set_option linter.all false
open Go.RowKit
theorem get_drop (s : ByteArray) (pos : Nat) (h : pos < s.size) : (s.data.toList.drop pos).getD 0 0 = s[pos]'h := by
  have e : s.data[pos]? = some (s[pos]'h) := Array.getElem?_eq_getElem h
  rw [List.getD_eq_getElem?_getD, List.getElem?_drop, Nat.add_zero, Array.getElem?_toList, e]
  rfl
/-- the head of what is left, as the walk decides it -/
theorem head_at (s : ByteArray) (pos : Nat) (h : pos < s.size) :
    ((Utf8.decode s pos).1 = 65533 ∧ (Utf8.decode s pos).2 = 1 ∧ headOf (s.data.toList.drop pos) = 1114112 + ((s[pos]'h).toNat : Int)) ∨
    (¬ ((Utf8.decode s pos).1 = 65533 ∧ (Utf8.decode s pos).2 = 1) ∧ headOf (s.data.toList.drop pos) = ((Utf8.decode s pos).1 : Int) ∧ IsLetter ((Utf8.decode s pos).1 : Int)) := by
  have hl : s.data.toList.drop pos ≠ [] := by
    intro e
    have := congrArg List.length e
    rw [List.length_drop, ← Lib.size_eq] at this
    simp at this
    omega
  rcases head_shape _ hl with ⟨h0, h1, h2⟩ | ⟨h0, h1, h2, _⟩
  · rw [Lib.decodeL_drop] at h0 h1 h2
    exact .inr ⟨h0, h1, h2⟩
  · rw [Lib.decodeL_drop] at h0 h1
    rw [get_drop s pos h] at h2
    exact .inl ⟨h0, h1, h2⟩
end Go.Proofs.YtdlcjobahdmapaaDoor

namespace Go.Proofs.YtdlcjobahdmapaaDoor
set_option linter.all false
open Go.RowKit
/-- what a first byte says: how many bytes; the number's beginning; the least number -/
def leadN (b : Int) : Nat := if b < 128 then 1 else if b < 192 then 0 else if b < 224 then 2 else if b < 240 then 3 else if b < 248 then 4 else 0
def leadV (b : Int) : Int := if b < 128 then b else if b < 192 then 0 else if b < 224 then b - 192 else if b < 240 then b - 224 else if b < 248 then b - 240 else 0
def leadL (b : Int) : Int := if b < 128 then 0 else if b < 192 then 0 else if b < 224 then 128 else if b < 240 then 2048 else if b < 248 then 65536 else 0
set_option maxHeartbeats 1000000 in
theorem lead_any (w : World) (b : Int) (hb : 0 ≤ b ∧ b ≤ 255) :
    Calls Tryd.prog 106 #[.int .u8 b] w fun e w' => e = .returned (.tuple #[.int .i64 (leadN b), .int .i64 (leadV b), .int .i64 (leadL b)]) ∧ w = w' := by
  obtain ⟨hb0, hb1⟩ := hb
  unfold leadN leadV leadL
  by_cases h1 : b < 128
  · rw [if_pos h1, if_pos h1, if_pos h1]
    go_enter Tryd.func106, Tryd.ntmps106
    go_wp2
    go_ret3
    exact ⟨rfl, rfl⟩
  rw [if_neg h1, if_neg h1, if_neg h1]
  by_cases h2 : b < 192
  · rw [if_pos h2, if_pos h2, if_pos h2]
    go_enter Tryd.func106, Tryd.ntmps106
    go_wp2
    go_ret3
    exact ⟨rfl, rfl⟩
  rw [if_neg h2, if_neg h2, if_neg h2]
  by_cases h3 : b < 224
  · rw [if_pos h3, if_pos h3, if_pos h3]
    go_enter Tryd.func106, Tryd.ntmps106
    go_wp2
    go_ret3
    exact ⟨rfl, rfl⟩
  rw [if_neg h3, if_neg h3, if_neg h3]
  by_cases h4 : b < 240
  · rw [if_pos h4, if_pos h4, if_pos h4]
    go_enter Tryd.func106, Tryd.ntmps106
    go_wp2
    go_ret3
    exact ⟨rfl, rfl⟩
  rw [if_neg h4, if_neg h4, if_neg h4]
  by_cases h5 : b < 248
  · rw [if_pos h5, if_pos h5, if_pos h5]
    go_enter Tryd.func106, Tryd.ntmps106
    go_wp2
    go_ret3
    exact ⟨rfl, rfl⟩
  · rw [if_neg h5, if_neg h5, if_neg h5]
    go_enter Tryd.func106, Tryd.ntmps106
    go_wp2
    go_ret3
    exact ⟨rfl, rfl⟩
def gB (l : List UInt8) (i : Nat) : Int := ((l.getD i 0).toNat : Int)
/-- the number behind k more bytes -/
def valK (l : List UInt8) : Nat → Int
  | 0 => leadV (gB l 0)
  | k + 1 => 64 * valK l k + gB l (k + 1) - 128
def contB (x : Int) : Bool := decide (128 ≤ x) && decide (x < 192)
def contsK (l : List UInt8) : Nat → Bool
  | 0 => true
  | k + 1 => contsK l k && contB (gB l (k + 1))
/-- what first answers -/
def firstOf (l : List UInt8) : Int × Nat :=
  if leadN (gB l 0) = 0 ∨ l.length < leadN (gB l 0) then (0, 0)
  else if contsK l (leadN (gB l 0) - 1) = false then (0, 0)
  else if valK l (leadN (gB l 0) - 1) < leadL (gB l 0) ∨ letterB (valK l (leadN (gB l 0) - 1)) = false then (0, 0)
  else (valK l (leadN (gB l 0) - 1), leadN (gB l 0))
theorem gB_bounds (l : List UInt8) (i : Nat) : 0 ≤ gB l i ∧ gB l i ≤ 255 := by
  have := (l.getD i 0).toNat_lt
  unfold gB
  omega
theorem leadN_le (b : Int) : leadN b ≤ 4 := by
  unfold leadN
  repeat' split
  all_goals omega
theorem leadV_bounds {b : Int} (h : 0 ≤ b ∧ b ≤ 255) : 0 ≤ leadV b ∧ leadV b ≤ 127 := by unfold leadV; repeat' split <;> omega
theorem leadL_bounds (b : Int) : 0 ≤ leadL b ∧ leadL b ≤ 65536 := by unfold leadL; repeat' split <;> omega
theorem contB_iff (x : Int) : contB x = true ↔ 128 ≤ x ∧ x < 192 := by simp [contB]
theorem contsK_mono (l : List UInt8) {k : Nat} (h : contsK l k = false) : ∀ j, k ≤ j → contsK l j = false := by
  intro j hj
  induction j with
  | zero => obtain rfl : k = 0 := by omega
            exact h
  | succ j ih =>
    by_cases e : k = j + 1
    · rw [← e]; exact h
    · rw [contsK, ih (by omega)]; rfl
theorem valK_bounds (l : List UInt8) (k : Nat) (hk : k ≤ 3) (hc : contsK l k = true) : 0 ≤ valK l k ∧ valK l k ≤ 67108864 := by
  have h0 := leadV_bounds (gB_bounds l 0)
  have hcase : k = 0 ∨ k = 1 ∨ k = 2 ∨ k = 3 := by omega
  rcases hcase with rfl | rfl | rfl | rfl
  · simp only [valK]; omega
  · simp only [contsK, Bool.and_eq_true, contB_iff, true_and] at hc
    simp only [valK]; omega
  · simp only [contsK, Bool.and_eq_true, contB_iff, true_and] at hc
    simp only [valK]; omega
  · simp only [contsK, Bool.and_eq_true, contB_iff, true_and] at hc
    simp only [valK]; omega
theorem pick_bad : pick (65533, 1) = (0, 0) := rfl
theorem pick_ok (x w : Nat) (h : ¬ (x = 65533 ∧ w = 1)) : pick (x, w) = ((x : Int), w) := if_neg h
theorem pick_head (l : List UInt8) : (if (Lib.decodeL l).1 = 65533 ∧ (Lib.decodeL l).2 = 1 then ((0 : Int), 0) else (headOf l, (Lib.decodeL l).2)) = pick (Lib.decodeL l) := by
  unfold pick
  by_cases c : (Lib.decodeL l).1 = 65533 ∧ (Lib.decodeL l).2 = 1
  · rw [if_pos c, if_pos c]
  · rw [if_neg c, if_neg c]
    unfold headOf
    rw [if_neg c]
set_option maxRecDepth 100000 in
theorem first_decode (l : List UInt8) (hne : l ≠ []) :
    firstOf l = if (Lib.decodeL l).1 = 65533 ∧ (Lib.decodeL l).2 = 1 then (0, 0) else (headOf l, (Lib.decodeL l).2) := by
  have hl : 0 < l.length := List.length_pos_iff.2 hne
  have k0 := (l.getD 0 0).toNat_lt
  have k1 := (l.getD 1 0).toNat_lt
  have k2 := (l.getD 2 0).toNat_lt
  have k3 := (l.getD 3 0).toNat_lt
  rw [pick_head, Lib.decodeL_N]
  have g0 : gB l 0 = ((l.getD 0 0).toNat : Int) := rfl
  have g1 : gB l 1 = ((l.getD 1 0).toNat : Int) := rfl
  have g2 : gB l 2 = ((l.getD 2 0).toNat : Int) := rfl
  have g3 : gB l 3 = ((l.getD 3 0).toNat : Int) := rfl
  unfold firstOf
  generalize (l.getD 0 0).toNat = b0 at *
  generalize (l.getD 1 0).toNat = b1 at *
  generalize (l.getD 2 0).toNat = b2 at *
  generalize (l.getD 3 0).toNat = b3 at *
  generalize l.length = n at *
  by_cases c1 : b0 < 128
  · have e1 : leadN (gB l 0) = 1 := by rw [g0]; unfold leadN; rw [if_pos (by omega)]
    have e2 : leadL (gB l 0) = 0 := by rw [g0]; unfold leadL; rw [if_pos (by omega)]
    have e3 : valK l 0 = b0 := by rw [valK, g0]; unfold leadV; rw [if_pos (by omega)]
    have e4 : letterB (b0 : Int) = true := by rw [letterB_iff]; exact ⟨by omega, by omega, by omega⟩
    rw [Lib.decodeN_ascii _ _ _ _ _ c1, pick_ok _ _ (by omega), e1, e2, Nat.sub_self, if_neg (by omega), contsK, if_neg (by decide), e3, e4, if_neg (by simp)]
  by_cases c2 : b0 < 192
  · have e1 : leadN (gB l 0) = 0 := by rw [g0]; unfold leadN; rw [if_neg (by omega), if_pos (by omega)]
    have hd : Lib.decodeN n b0 b1 b2 b3 = (65533, 1) := by unfold Lib.decodeN; rw [if_neg c1, if_neg (by omega), if_neg (by omega), if_neg (by omega)]
    rw [hd, pick_bad, if_pos (.inl e1)]
  by_cases c3 : b0 < 224
  · have e1 : leadN (gB l 0) = 2 := by rw [g0]; unfold leadN; rw [if_neg (by omega), if_neg (by omega), if_pos (by omega)]
    have e2 : leadL (gB l 0) = 128 := by rw [g0]; unfold leadL; rw [if_neg (by omega), if_neg (by omega), if_pos (by omega)]
    have e3 : valK l 1 = 64 * (b0 - 192) + b1 - 128 := by rw [valK, valK, g0, g1]; unfold leadV; rw [if_neg (by omega), if_neg (by omega), if_pos (by omega)]
    have e4 : contsK l 1 = contB (gB l 1) := by rw [contsK, contsK, Bool.true_and]
    by_cases d1 : 1 < n ∧ b1 / 64 = 2
    · have f1 : contB (b1 : Int) = true := by rw [contB_iff]; omega
      by_cases d2 : b0 % 32 * 64 + b1 % 64 ≥ 128
      · have hd : Lib.decodeN n b0 b1 b2 b3 = (b0 % 32 * 64 + b1 % 64, 2) := by unfold Lib.decodeN; rw [if_neg c1, if_pos ⟨by omega, d1⟩, if_pos d2]
        have e5 : letterB (64 * ((b0 : Int) - 192) + b1 - 128) = true := by rw [letterB_iff]; exact ⟨by omega, by omega, by omega⟩
        rw [hd, pick_ok _ _ (by omega), e1, e2, show 2 - 1 = 1 from rfl, e3, e4, g1, f1, e5, if_neg (by omega), if_neg (by decide), if_neg (by simp; omega)]
        exact Prod.ext (by dsimp only; omega) rfl
      · have hd : Lib.decodeN n b0 b1 b2 b3 = (65533, 1) := by unfold Lib.decodeN; rw [if_neg c1, if_pos ⟨by omega, d1⟩, if_neg d2]
        rw [hd, pick_bad, e1, e2, show 2 - 1 = 1 from rfl, e3, e4, g1, f1, if_neg (by omega), if_neg (by decide), if_pos (.inl (by omega))]
    · have hd : Lib.decodeN n b0 b1 b2 b3 = (65533, 1) := by unfold Lib.decodeN; rw [if_neg c1, if_neg (fun h => d1 h.2), if_neg (by omega), if_neg (by omega)]
      rw [hd, pick_bad, e1, show 2 - 1 = 1 from rfl, e4, g1]
      by_cases d2 : n < 2
      · rw [if_pos (.inr d2)]
      · have f1 : contB (b1 : Int) = false := by rw [Bool.eq_false_iff, Ne, contB_iff]; omega
        rw [if_neg (by omega), f1, if_pos rfl]
  by_cases c4 : b0 < 240
  · have e1 : leadN (gB l 0) = 3 := by rw [g0]; unfold leadN; rw [if_neg (by omega), if_neg (by omega), if_neg (by omega), if_pos (by omega)]
    have e2 : leadL (gB l 0) = 2048 := by rw [g0]; unfold leadL; rw [if_neg (by omega), if_neg (by omega), if_neg (by omega), if_pos (by omega)]
    have e3 : valK l 2 = 64 * (64 * (b0 - 224) + b1 - 128) + b2 - 128 := by rw [valK, valK, valK, g0, g1, g2]; unfold leadV; rw [if_neg (by omega), if_neg (by omega), if_neg (by omega), if_pos (by omega)]
    have e4 : contsK l 2 = (contB (gB l 1) && contB (gB l 2)) := by rw [contsK, contsK, contsK, Bool.true_and]
    by_cases d1 : (1 < n ∧ b1 / 64 = 2) ∧ (2 < n ∧ b2 / 64 = 2)
    · have f1 : contB (b1 : Int) = true := by rw [contB_iff]; omega
      have f2 : contB (b2 : Int) = true := by rw [contB_iff]; omega
      by_cases d2 : b0 % 16 * 4096 + b1 % 64 * 64 + b2 % 64 ≥ 2048 ∧ (b0 % 16 * 4096 + b1 % 64 * 64 + b2 % 64 < 55296 ∨ (57344 ≤ b0 % 16 * 4096 + b1 % 64 * 64 + b2 % 64 ∧ b0 % 16 * 4096 + b1 % 64 * 64 + b2 % 64 ≤ 1114111))
      · have hd : Lib.decodeN n b0 b1 b2 b3 = (b0 % 16 * 4096 + b1 % 64 * 64 + b2 % 64, 3) := by unfold Lib.decodeN; rw [if_neg c1, if_neg (by omega), if_pos ⟨by omega, d1⟩, if_pos d2]
        have e5 : letterB (64 * (64 * ((b0 : Int) - 224) + b1 - 128) + b2 - 128) = true := by rw [letterB_iff]; exact ⟨by omega, by omega, by omega⟩
        rw [hd, pick_ok _ _ (by omega), e1, e2, show 3 - 1 = 2 from rfl, e3, e4, g1, g2, f1, f2, e5, if_neg (by omega), if_neg (by decide), if_neg (by simp; omega)]
        exact Prod.ext (by dsimp only; omega) rfl
      · have hd : Lib.decodeN n b0 b1 b2 b3 = (65533, 1) := by unfold Lib.decodeN; rw [if_neg c1, if_neg (by omega), if_pos ⟨by omega, d1⟩, if_neg d2]
        rw [hd, pick_bad, e1, e2, show 3 - 1 = 2 from rfl, e3, e4, g1, g2, f1, f2, if_neg (by omega), if_neg (by decide), if_pos]
        rw [letterB_false]
        unfold IsLetter
        omega
    · have hd : Lib.decodeN n b0 b1 b2 b3 = (65533, 1) := by unfold Lib.decodeN; rw [if_neg c1, if_neg (by omega), if_neg (fun h => d1 h.2), if_neg (by omega)]
      rw [hd, pick_bad, e1, show 3 - 1 = 2 from rfl, e4, g1, g2]
      by_cases d2 : n < 3
      · rw [if_pos (.inr d2)]
      · have f1 : (contB (b1 : Int) && contB (b2 : Int)) = false := by rw [Bool.eq_false_iff, Ne, Bool.and_eq_true, contB_iff, contB_iff]; omega
        rw [if_neg (by omega), f1, if_pos rfl]
  by_cases c5 : b0 < 248
  · have e1 : leadN (gB l 0) = 4 := by rw [g0]; unfold leadN; rw [if_neg (by omega), if_neg (by omega), if_neg (by omega), if_neg (by omega), if_pos (by omega)]
    have e2 : leadL (gB l 0) = 65536 := by rw [g0]; unfold leadL; rw [if_neg (by omega), if_neg (by omega), if_neg (by omega), if_neg (by omega), if_pos (by omega)]
    have e3 : valK l 3 = 64 * (64 * (64 * (b0 - 240) + b1 - 128) + b2 - 128) + b3 - 128 := by rw [valK, valK, valK, valK, g0, g1, g2, g3]; unfold leadV; rw [if_neg (by omega), if_neg (by omega), if_neg (by omega), if_neg (by omega), if_pos (by omega)]
    have e4 : contsK l 3 = (contB (gB l 1) && contB (gB l 2) && contB (gB l 3)) := by rw [contsK, contsK, contsK, contsK, Bool.true_and]
    by_cases d1 : (1 < n ∧ b1 / 64 = 2) ∧ (2 < n ∧ b2 / 64 = 2) ∧ (3 < n ∧ b3 / 64 = 2)
    · have f1 : contB (b1 : Int) = true := by rw [contB_iff]; omega
      have f2 : contB (b2 : Int) = true := by rw [contB_iff]; omega
      have f3 : contB (b3 : Int) = true := by rw [contB_iff]; omega
      by_cases d2 : b0 % 8 * 262144 + b1 % 64 * 4096 + b2 % 64 * 64 + b3 % 64 ≥ 65536 ∧ (b0 % 8 * 262144 + b1 % 64 * 4096 + b2 % 64 * 64 + b3 % 64 < 55296 ∨ (57344 ≤ b0 % 8 * 262144 + b1 % 64 * 4096 + b2 % 64 * 64 + b3 % 64 ∧ b0 % 8 * 262144 + b1 % 64 * 4096 + b2 % 64 * 64 + b3 % 64 ≤ 1114111))
      · have hd : Lib.decodeN n b0 b1 b2 b3 = (b0 % 8 * 262144 + b1 % 64 * 4096 + b2 % 64 * 64 + b3 % 64, 4) := by unfold Lib.decodeN; rw [if_neg c1, if_neg (by omega), if_neg (by omega), if_pos ⟨by omega, d1⟩, if_pos d2]
        have e5 : letterB (64 * (64 * (64 * ((b0 : Int) - 240) + b1 - 128) + b2 - 128) + b3 - 128) = true := by rw [letterB_iff]; exact ⟨by omega, by omega, by omega⟩
        rw [hd, pick_ok _ _ (by omega), e1, e2, show 4 - 1 = 3 from rfl, e3, e4, g1, g2, g3, f1, f2, f3, e5, if_neg (by omega), if_neg (by decide), if_neg (by simp; omega)]
        exact Prod.ext (by dsimp only; omega) rfl
      · have hd : Lib.decodeN n b0 b1 b2 b3 = (65533, 1) := by unfold Lib.decodeN; rw [if_neg c1, if_neg (by omega), if_neg (by omega), if_pos ⟨by omega, d1⟩, if_neg d2]
        rw [hd, pick_bad, e1, e2, show 4 - 1 = 3 from rfl, e3, e4, g1, g2, g3, f1, f2, f3, if_neg (by omega), if_neg (by decide), if_pos]
        rw [letterB_false]
        unfold IsLetter
        omega
    · have hd : Lib.decodeN n b0 b1 b2 b3 = (65533, 1) := by unfold Lib.decodeN; rw [if_neg c1, if_neg (by omega), if_neg (by omega), if_neg (fun h => d1 h.2)]
      rw [hd, pick_bad, e1, show 4 - 1 = 3 from rfl, e4, g1, g2, g3]
      by_cases d2 : n < 4
      · rw [if_pos (.inr d2)]
      · have f1 : (contB (b1 : Int) && contB (b2 : Int) && contB (b3 : Int)) = false := by rw [Bool.eq_false_iff, Ne, Bool.and_eq_true, Bool.and_eq_true, contB_iff, contB_iff, contB_iff]; omega
        rw [if_neg (by omega), f1, if_pos rfl]
  · have e1 : leadN (gB l 0) = 0 := by rw [g0]; unfold leadN; rw [if_neg (by omega), if_neg (by omega), if_neg (by omega), if_neg (by omega), if_neg (by omega)]
    have hd : Lib.decodeN n b0 b1 b2 b3 = (65533, 1) := by unfold Lib.decodeN; rw [if_neg c1, if_neg (by omega), if_neg (by omega), if_neg (by omega)]
    rw [hd, pick_bad, if_pos (.inl e1)]
theorem gB_drop (s : ByteArray) (pos i : Nat) (h : pos + i < s.size) : gB (s.data.toList.drop pos) i = ((s[pos + i]'h).toNat : Int) := by
  unfold gB
  have e : s.data[pos + i]? = some (s[pos + i]'h) := Array.getElem?_eq_getElem h
  rw [List.getD_eq_getElem?_getD, List.getElem?_drop, Array.getElem?_toList, e]
  rfl
set_option maxRecDepth 100000 in
set_option maxHeartbeats 2000000 in
theorem first_any (s : ByteArray) (pos : Nat) (w : World) (hp : pos < s.size) (hs : s.size ≤ 4398046511104) :
    Calls Tryd.prog 99 #[.string s, .int .i64 pos] w fun e w' => e = .returned (.tuple #[.int .i64 (firstOf (s.data.toList.drop pos)).1, .int .i64 (firstOf (s.data.toList.drop pos)).2]) ∧ w = w' := by
  obtain ⟨l, hl⟩ : ∃ l, l = s.data.toList.drop pos := ⟨_, rfl⟩
  have hll : l.length = s.size - pos := by rw [hl, List.length_drop, ← Lib.size_eq]
  have hb0 := gB_bounds l 0
  have hg0 : gB (s.data.toList.drop pos) 0 = ((s[pos]'hp).toNat : Int) := gB_drop s pos 0 (by omega)
  have hge : ∀ i, (h : pos + i < s.size) → gB l i = ((s[pos + i]'h).toNat : Int) := fun i h => by rw [hl]; exact gB_drop s pos i h
  have hq : ∀ r : Int × Nat, firstOf l = r → ∀ (e : Ending) (w' : World), (e = .returned (.tuple #[.int .i64 r.1, .int .i64 r.2]) ∧ w = w') → (e = .returned (.tuple #[.int .i64 (firstOf l).1, .int .i64 (firstOf l).2]) ∧ w = w') := fun r hr e w' h => by rw [hr]; exact h
  rw [← hl]
  rw [← hl] at hg0
  have HQ := Lib.hid hq
  have c1 := lead_any w (gB l 0) hb0
  have hN4 := leadN_le (gB l 0)
  have hL := leadL_bounds (gB l 0)
  have hV := leadV_bounds hb0
  have hf : ∀ r, firstOf l = r ↔ firstOf l = r := fun _ => Iff.rfl
  unfold firstOf at hf
  obtain ⟨N, hN⟩ : ∃ N, N = leadN (gB l 0) := ⟨_, rfl⟩
  obtain ⟨M, hM⟩ : ∃ M, M = leadL (gB l 0) := ⟨_, rfl⟩
  obtain ⟨V, hVV⟩ : ∃ V, V = leadV (gB l 0) := ⟨_, rfl⟩
  rw [← hN, ← hM, ← hVV] at c1
  rw [← hN] at hN4
  rw [← hM] at hL
  rw [← hVV] at hV
  rw [hg0] at c1
  obtain ⟨hL0, hL1⟩ := hL
  obtain ⟨hV0, hV1⟩ := hV
  have C1 := Lib.hid c1
  have HN := Lib.hid hN
  have HM := Lib.hid hM
  have HV := Lib.hid hVV
  have HG := Lib.hid hge
  have HLL := Lib.hid hll
  have hf0 : (N = 0 ∨ l.length < N) → firstOf l = (0, 0) := fun h => by unfold firstOf; rw [← HN.out, if_pos h]
  have hf1 : ¬ (N = 0 ∨ l.length < N) → contsK l (N - 1) = false → firstOf l = (0, 0) := fun h h1 => by unfold firstOf; rw [← HN.out, if_neg h, if_pos h1]
  have hf2 : ¬ (N = 0 ∨ l.length < N) → contsK l (N - 1) = true → (valK l (N - 1) < M ∨ letterB (valK l (N - 1)) = false) → firstOf l = (0, 0) := fun h h1 h2 => by unfold firstOf; rw [← HN.out, ← HM.out, if_neg h, if_neg (by rw [h1]; decide), if_pos h2]
  have hf3 : ¬ (N = 0 ∨ l.length < N) → contsK l (N - 1) = true → ¬ (valK l (N - 1) < M ∨ letterB (valK l (N - 1)) = false) → firstOf l = (valK l (N - 1), N) := fun h h1 h2 => by unfold firstOf; rw [← HN.out, ← HM.out, if_neg h, if_neg (by rw [h1]; decide), if_neg h2]
  have HF0 := Lib.hid hf0
  have HF1 := Lib.hid hf1
  have HF2 := Lib.hid hf2
  have HF3 := Lib.hid hf3
  clear hl hb0 hg0 hge hq c1 hf hN hM hVV hll hf0 hf1 hf2 hf3
  by_cases h0 : N = 0
  · have HE := Lib.hid (HF0.out (.inl h0))
    subst h0
    go_enter Tryd.func99, Tryd.ntmps99
    go_wp2_with fail
    refine C1.out.mono ?_
    rintro e w' ⟨rfl, rfl⟩
    go_wp2
    go_ret2
    exact HQ.out _ HE.out _ _ ⟨rfl, rfl⟩
  have h0b : ((N : Int) == 0) = false := by rw [beq_eq_false_iff_ne]; omega
  by_cases hlen : s.size < pos + N
  · have HE := Lib.hid (HF0.out (.inr (by rw [HLL.out]; omega)))
    go_enter Tryd.func99, Tryd.ntmps99
    go_wp2_with fail
    refine C1.out.mono ?_
    rintro e w' ⟨rfl, rfl⟩
    go_wp2
    go_ret2
    exact HQ.out _ HE.out _ _ ⟨rfl, rfl⟩
  have HNN : Hid (¬ (N = 0 ∨ l.length < N)) := by show ¬ _; rw [HLL.out]; omega
  have cL := fun w n h => Lib.hid (Letter_any w n h)
  go_enter Tryd.func99, Tryd.ntmps99
  go_wp2_with fail
  refine C1.out.mono ?_
  rintro e w' ⟨rfl, rfl⟩
  clear C1
  go_wp2
  go_loop [7, 9, 10] (fun n i _ => ∃ k : Nat, i = .int .i64 (k + 1 : Nat) ∧ k + 1 ≤ N ∧ Hid (contsK l k = true) ∧ ∃ z : Int, n = .int .i64 z ∧ Hid (z = valK l k)) (fun _ i _ => N - (intOf i).toNat)
  case atStart => exact ⟨0, rfl, by omega, rfl, V, rfl, HV.out⟩
  case round =>
    obtain ⟨k, rfl, hk, HC, z, rfl, HZ⟩ := hrel
    have hzb := valK_bounds l k (by omega) HC.out
    rw [← HZ.out] at hzb
    obtain ⟨hz0, hz1⟩ := hzb
    by_cases hlt : k + 1 < N
    · have hi : pos + (k + 1) < s.size := by omega
      have hx := HG.out (k + 1) hi
      have hxb := gB_bounds l (k + 1)
      obtain ⟨x, hxx⟩ : ∃ x, x = gB l (k + 1) := ⟨_, rfl⟩
      rw [← hxx] at hx hxb
      have HX := Lib.hid hxx
      have hxv : ((s[pos + (k + 1)]'hi).toNat : Int) = x := hx.symm
      have hmc := fun h => contsK_mono l (k := k + 1) h (N - 1) (by omega)
      have hcs : contsK l (k + 1) = (contsK l k && contB (gB l (k + 1))) := rfl
      rw [HC.out, Bool.true_and, ← HX.out] at hcs
      obtain ⟨hx0, hx1⟩ := hxb
      by_cases hb1 : x < 128
      · have HE := Lib.hid (HF1.out HNN.out (hmc (by rw [hcs]; simp [contB]; omega)))
        clear hxx hmc hcs hx
        go_wp2
        go_ret2
        exact HQ.out _ HE.out _ _ ⟨rfl, rfl⟩
      by_cases hb2 : 192 ≤ x
      · have HE := Lib.hid (HF1.out HNN.out (hmc (by rw [hcs]; simp [contB]; omega)))
        clear hxx hmc hcs hx
        go_wp2
        go_ret2
        exact HQ.out _ HE.out _ _ ⟨rfl, rfl⟩
      · have HC' : Hid (contsK l (k + 1) = true) := by show _ = _; rw [hcs, contB_iff]; omega
        have HZ' : Hid (64 * z + x - 128 = valK l (k + 1)) := by show _ = _; rw [valK, ← HX.out, ← HZ.out]
        clear hxx hmc hcs hx
        go_wp2
        go_round
        case rel => exact ⟨k + 1, by go_num, hlt, HC', _, by go_num, HZ'⟩
        case measure => simp [intOf]; omega
    · obtain rfl : N = k + 1 := by omega
      rw [Nat.add_sub_cancel] at HF1 HF2 HF3
      by_cases hm : z < M
      · have HE := Lib.hid (HF2.out HNN.out HC.out (.inl (by rw [← HZ.out]; exact hm)))
        go_wp2
        go_ret2
        exact HQ.out _ HE.out _ _ ⟨rfl, rfl⟩
      · by_cases hlb : letterB z = true
        · have HE := Lib.hid (HF3.out HNN.out HC.out (by rw [← HZ.out, hlb]; simp; omega))
          have c2 := (cL w z (by omega)).out
          rw [hlb] at c2
          have C2 := Lib.hid c2
          clear c2 cL hlb
          go_wp2_with fail
          refine C2.out.mono ?_
          rintro e w' ⟨rfl, rfl⟩
          go_wp2
          go_ret2
          exact HQ.out _ HE.out _ _ ⟨by rw [HZ.out]; rfl, rfl⟩
        · have hlb' : letterB z = false := by simpa using hlb
          have HE := Lib.hid (HF2.out HNN.out HC.out (.inr (by rw [← HZ.out]; exact hlb')))
          have c2 := (cL w z (by omega)).out
          rw [hlb'] at c2
          have C2 := Lib.hid c2
          clear c2 cL hlb hlb'
          go_wp2_with fail
          refine C2.out.mono ?_
          rintro e w' ⟨rfl, rfl⟩
          go_wp2
          go_ret2
          exact HQ.out _ HE.out _ _ ⟨rfl, rfl⟩
end Go.Proofs.YtdlcjobahdmapaaDoor

namespace Go.Proofs.YtdlcjobahdmapaaDoor
set_option linter.all false
open Go.RowKit
/-- what Letters answers -/
def LettersPost (w : World) (l : List UInt8) (e : Ending) (w' : World) : Prop :=
  ∃ v, e = .returned (.tuple #[v, .bool (isText l)]) ∧ OwnK .i64 3 w' w.heap.size v (letters l) ∧ Below w.heap.size w w'
set_option maxRecDepth 100000 in
set_option maxHeartbeats 2000000 in
theorem Letters_any (s : ByteArray) (w : World) (hs : s.size ≤ 4398046511104) :
    Calls Tryd.prog 87 #[.string s] w (LettersPost w s.data.toList) := by
  have hq : ∀ b, isText s.data.toList = b → ∀ (e : Ending) (w' : World), (∃ v, e = .returned (.tuple #[v, .bool b]) ∧ OwnK .i64 3 w' w.heap.size v (letters s.data.toList) ∧ Below w.heap.size w w') → LettersPost w s.data.toList e w' := fun b hb e w' h => by
    unfold LettersPost
    rw [hb]
    exact h
  have HQ := Lib.hid hq
  have HS := Lib.hid (Lib.size_eq s)
  clear hq
  go_enter Tryd.func87, Tryd.ntmps87
  go_wp2
  go_loopw [4, 5, 6, 7, 8] (fun v b i _ _ wr => ∃ (pos : Nat) (zs : List Int) (t : Bool), i = .int .i64 pos ∧ b = .bool t ∧ Hid (OwnK .i64 3 wr w.heap.size v zs) ∧ Below w.heap.size w wr ∧ Hid (zs ++ letters (s.data.toList.drop pos) = letters s.data.toList) ∧ Hid ((t && isText (s.data.toList.drop pos)) = isText s.data.toList) ∧ zs.length ≤ pos ∧ pos ≤ s.size) (fun _ _ i _ _ _ => s.size - (intOf i).toNat)
  case atStart =>
    refine ⟨0, [], true, rfl, rfl, OwnK.nil _ _ _ _, Below.refl _ _, ?_, ?_, by simp, by omega⟩
    · show _ = _; rw [List.drop_zero, List.nil_append]
    · show _ = _; rw [List.drop_zero, Bool.true_and]
  case round =>
    obtain ⟨pos, zs, t, rfl, rfl, HO, hb, HE, HT, hzl, hps⟩ := hrel
    have hbs := hb.size
    by_cases hp : pos < s.size
    · have hne : s.data.toList.drop pos ≠ [] := by
        intro e
        have := congrArg List.length e
        rw [List.length_drop, ← HS.out] at this
        simp at this
        omega
      obtain ⟨n1, n2, n3⟩ := next_any s pos hp
      have hfd := first_decode _ hne
      have hts := isText_step _ hne
      rw [Lib.decodeL_drop] at hfd hts
      rw [List.drop_drop] at hts
      have c1 := first_any s pos wr hp hs
      have hh := head_at s pos hp
      obtain ⟨h, hh0⟩ : ∃ h, h = headOf (s.data.toList.drop pos) := ⟨_, rfl⟩
      rw [← hh0] at n1 hfd hts hh
      obtain ⟨Z, hZ⟩ : ∃ Z, Z = (Utf8.decode s pos).2 := ⟨_, rfl⟩
      rw [← hZ] at n1 n2 n3 hfd hts hh
      rcases hh with ⟨h1, h2, h3⟩ | ⟨h1, h2, h3⟩
      · rw [if_pos ⟨h1, h2⟩] at hfd
        rw [hfd] at c1
        have C1 := Lib.hid c1
        subst h2
        have HN : Hid (zs ++ [1114112 + ((s[pos]'hp).toNat : Int)] ++ letters (s.data.toList.drop (pos + 1)) = letters s.data.toList) := by
          show _ = _
          rw [← HE.out, n1, h3]
          simp
        have HT' : Hid ((false && isText (s.data.toList.drop (pos + 1))) = isText s.data.toList) := by
          show _ = _
          rw [← HT.out, hts, h3, decide_eq_false (by omega)]
          simp
        have hbyte : 0 ≤ ((s[pos]'hp).toNat : Int) ∧ ((s[pos]'hp).toNat : Int) ≤ 255 := by have := (s[pos]'hp).toNat_lt; omega
        obtain ⟨hy0, hy1⟩ := hbyte
        clear hne hfd hts c1 hh0 hZ n1 h1 h3 HE HT
        go_wp2_with fail
        refine C1.out.mono ?_
        rintro e w' ⟨rfl, rfl⟩
        go_wp2_with (at_builtin; go_loud (refine wpList_append_lit rfl (.tmp 21) (.tmp 27) .i64 121 3 8 Tryd.underlying121 info_i64 rfl w.heap.size _ zs [1114112 + ((s[pos]'hp).toNat : Int)] _ rfl 1 1 rfl rfl rfl HO.out (by omega) (by omega) hbs ?_; intro v5 w5 ho5 hg5))
        have hb5 := hg5.out.below HO.out hbs
        clear hg5
        go_roundw
        case rel => exact ⟨pos + 1, _, false, by go_num, rfl, ho5, hb.trans hb5, HN, HT', by simp; omega, by omega⟩
        case measure => simp [intOf]; omega
      · rw [if_neg h1] at hfd
        rw [hfd] at c1
        have C1 := Lib.hid c1
        have HN : Hid (zs ++ [h] ++ letters (s.data.toList.drop (pos + Z)) = letters s.data.toList) := by
          show _ = _
          rw [← HE.out, n1]
          simp
        have HT' : Hid ((t && isText (s.data.toList.drop (pos + Z))) = isText s.data.toList) := by
          show _ = _
          have := h3.2.1
          rw [← HT.out, hts, h2, decide_eq_true (by omega), Bool.true_and]
        have hZb : ((Z : Int) == 0) = false := by rw [beq_eq_false_iff_ne]; omega
        have hbd : 0 ≤ h ∧ h ≤ 1114111 := by rw [h2]; exact ⟨h3.1, h3.2.1⟩
        obtain ⟨hy0, hy1⟩ := hbd
        clear hne hfd hts c1 hh0 hZ n1 h1 h2 h3 HE HT
        go_wp2_with fail
        refine C1.out.mono ?_
        rintro e w' ⟨rfl, rfl⟩
        go_wp2_with (at_builtin; go_loud (refine wpList_append_lit rfl (.tmp 31) (.tmp 33) .i64 121 3 8 Tryd.underlying121 info_i64 rfl w.heap.size _ zs [h] _ rfl 1 1 rfl rfl rfl HO.out (by omega) (by omega) hbs ?_; intro v5 w5 ho5 hg5))
        have hb5 := hg5.out.below HO.out hbs
        clear hg5
        go_roundw
        case rel => exact ⟨pos + Z, _, t, by go_num, rfl, ho5, hb.trans hb5, HN, HT', by simp; omega, n3⟩
        case measure => simp [intOf]; omega
    · obtain rfl : pos = s.size := by omega
      have HEE : Hid (zs = letters s.data.toList) := by
        have := HE.out
        rw [next_end s _ hp, List.append_nil] at this
        exact this
      have HTT : Hid (isText s.data.toList = t) := by
        show _ = _
        rw [← HT.out, List.drop_of_length_le (by rw [← HS.out]; omega), isText_nil, Bool.and_true]
      clear HE HT
      go_wp2
      go_ret2
      refine HQ.out t HTT.out _ _ ⟨_, rfl, ?_, hb⟩
      rw [← HEE.out]
      exact HO.out
/-- the units of a letter -/
def unitInts (r : Int) : List Int := if r < 65536 then [r] else [55296 + (r - 65536) / 1024, 56320 + (r - 65536) % 1024]
def twoBytes (u : Int) : List Int := [u % 256, u / 256]
theorem unitBytes_two (r : Int) : unitBytes r = (unitInts r).flatMap twoBytes := by
  unfold unitBytes unitInts twoBytes
  split <;> rfl
theorem unitInts_bounds {r : Int} (h : IsLetter r) : ∀ u ∈ unitInts r, 0 ≤ u ∧ u ≤ 65535 := by
  obtain ⟨h0, h1, _⟩ := h
  intro u hu
  unfold unitInts at hu
  split at hu
  · simp at hu; omega
  · simp at hu; omega
theorem twoBytes_length (us : List Int) : (us.flatMap twoBytes).length = 2 * us.length := by
  induction us with
  | nil => rfl
  | cons a q ih =>
    rw [List.flatMap_cons, List.length_append, ih, List.length_cons]
    show 2 + _ = _
    omega
theorem unitInts_length (r : Int) : (unitInts r).length ≤ 2 := by unfold unitInts; split <;> simp
set_option maxHeartbeats 1000000 in
theorem units_any (w : World) (r : Int) (hr : IsLetter r) :
    Calls Tryd.prog 88 #[.int .i64 r] w fun e w' => ∃ v, e = .returned v ∧ OwnK .i64 3 w' w.heap.size v (unitInts r) ∧ Below w.heap.size w w' := by
  obtain ⟨r0, r1, _⟩ := hr
  unfold unitInts
  by_cases h : r < 65536
  · rw [if_pos h]
    have hO := Lib.hid (OwnK.lit .i64 3 w [r] #[.int .i64 r] 1 rfl rfl (by decide))
    go_enter Tryd.func88, Tryd.ntmps88
    go_wp2
    go_ret
    exact ⟨_, rfl, hO.out, (Below.refl _ _).alloc (Nat.le_refl _) _⟩
  · rw [if_neg h]
    have hO := Lib.hid (OwnK.lit .i64 3 w [55296 + (r - 65536) / 1024, 56320 + (r - 65536) % 1024] #[.int .i64 (55296 + (r - 65536) / 1024), .int .i64 (56320 + (r - 65536) % 1024)] 2 rfl rfl (by decide))
    have q1 : (r - 65536).tdiv 1024 = (r - 65536) / 1024 := Int.tdiv_eq_ediv_of_nonneg (by omega)
    have q2 : (r - 65536).tmod 1024 = (r - 65536) % 1024 := Int.tmod_eq_emod_of_nonneg (by omega)
    go_enter Tryd.func88, Tryd.ntmps88
    go_wp2
    go_ret
    exact ⟨_, rfl, hO.out, (Below.refl _ _).alloc (Nat.le_refl _) _⟩
/-- what the document's Put answers -/
def TRPutPost (w : World) (l : List UInt8) (e : Ending) (w' : World) : Prop :=
  ∃ v, e = .returned (.tuple #[v, .int .i64 (textErr l)]) ∧ OwnK .u8 5 w' w.heap.size v (putOfL l) ∧ Below w.heap.size w w'
set_option maxRecDepth 100000 in
set_option maxHeartbeats 4000000 in
theorem TRPut_any (s : ByteArray) (w : World) (hs : s.size ≤ 4398046511104) :
    Calls Tryd.prog 67 #[.string s] w (TRPutPost w s.data.toList) := by
  have hq : ∀ (e : Ending) (w' : World), (∃ v, e = .returned (.tuple #[v, .int .i64 (textErr s.data.toList)]) ∧ OwnK .u8 5 w' w.heap.size v (putOfL s.data.toList) ∧ Below w.heap.size w w') → TRPutPost w s.data.toList e w' := fun _ _ h => h
  have c1 := Letters_any s w hs
  unfold LettersPost at c1
  by_cases ht : isText s.data.toList = true
  · have e2 : textErr s.data.toList = 0 := if_pos ht
    have e3 : putOfL s.data.toList = putBytes (letters s.data.toList) := if_pos ht
    have hlet := isText_letters ht
    have hlen := letters_le s.data.toList
    rw [← Lib.size_eq] at hlen
    obtain ⟨L, hL⟩ : ∃ L, L = letters s.data.toList := ⟨_, rfl⟩
    rw [e2, e3, ← hL] at hq
    rw [ht, ← hL] at c1
    rw [← hL] at hlet hlen
    have HQ := Lib.hid hq
    have C1 := Lib.hid c1
    have HLE := Lib.hid hlet
    clear e2 e3 hq c1 hL ht hlet
    go_enter Tryd.func67, Tryd.ntmps67
    go_wp2_with fail
    refine C1.out.mono ?_
    rintro e w1 ⟨v1, rfl, ho1, hb1⟩
    have HO1 := Lib.hid ho1
    obtain ⟨A1, n1, m1, rfl, hn1, hnm1, hn63, _, _⟩ := ho1.open
    have HN1 := Lib.hid hn1
    have hn4 : n1 ≤ 4398046511104 := by omega
    clear ho1 hn1 C1 hlen
    go_wp2
    go_loopw [6, 7, 8, 9] (fun v i _ _ wr => ∃ k : Nat, i = .int .i64 k ∧ k ≤ n1 ∧ Hid (OwnK .u8 5 wr w.heap.size v (putBytes (L.take k))) ∧ Hid (OwnK .i64 3 wr w.heap.size (.slice A1 n1 m1) L) ∧ Hid ((putBytes (L.take k)).length ≤ 4 * k) ∧ Below w.heap.size w wr) (fun _ i _ _ _ => n1 - (intOf i).toNat)
    case atStart => exact ⟨0, rfl, Nat.zero_le _, OwnK.nil _ _ _ _, HO1, (by show _ ≤ _; simp [putBytes]), hb1⟩
    case round =>
      obtain ⟨k, rfl, hk, HO, HR, HL4, hb⟩ := hrel
      have hbs := hb.size
      by_cases hlt : k < n1
      · obtain ⟨A3, n3, m3, he3, _, _, _, _, hc3⟩ := HR.out.open
        cases he3
        obtain ⟨g, rfl, _, _, hc⟩ := hc3 (by omega)
        have gc := hc k hlt
        have hrL := HLE.out (L.getD k 0) (by
          have := HN1.out
          rw [List.getD_eq_getElem?_getD, List.getElem?_eq_getElem (by omega)]
          exact List.getElem_mem _)
        have htk : L.take (k + 1) = L.take k ++ [L.getD k 0] := by
          have := HN1.out
          rw [List.take_succ_eq_append_getElem (by omega)]
          simp [List.getD_eq_getElem?_getD, show k < L.length by omega]
        obtain ⟨r, hrr⟩ : ∃ r, r = L.getD k 0 := ⟨_, rfl⟩
        rw [← hrr] at gc hrL htk
        have hfl : putBytes (L.take (k + 1)) = putBytes (L.take k) ++ (unitInts r).flatMap twoBytes := by
          rw [htk, putBytes_append, ← unitBytes_two]
          simp [putBytes]
        have hub := unitInts_bounds hrL
        have hul := unitInts_length r
        have c2 := Lib.hid (units_any wr r hrL)
        obtain ⟨U, hU⟩ : ∃ U, U = unitInts r := ⟨_, rfl⟩
        rw [← hU] at c2 hfl hub hul
        obtain ⟨P, hP⟩ : ∃ P, P = putBytes (L.take k) := ⟨_, rfl⟩
        rw [← hP] at hfl HO HL4
        have HFL := Lib.hid hfl
        have HUB := Lib.hid hub
        have HUL := Lib.hid hul
        clear hc hc3 htk hrr hrL hfl hub hul hU hP
        go_wp2_with fail
        refine c2.out.mono ?_
        rintro e w2 ⟨v2, rfl, ho2, hb2⟩
        have HU2 := Lib.hid (ho2.mono hbs)
        obtain ⟨A2, n2, m2, rfl, hn2, hnm2, hn263, _, _⟩ := ho2.open
        have HN2 := Lib.hid hn2
        have hn22 : n2 ≤ 2 := by have := HUL.out; omega
        have HO2 := Lib.hid (HO.out.below hb2)
        have HR2 := Lib.hid (HR.out.below hb2)
        have hbb : Below w.heap.size w w2 := hb.trans (hb2.mono hbs)
        clear ho2 hn2 c2 hb2
        go_wp2
        go_loopw [6, 9] (fun v i wr => ∃ j : Nat, i = .int .i64 j ∧ j ≤ n2 ∧ Hid (OwnK .u8 5 wr w.heap.size v (P ++ (U.take j).flatMap twoBytes)) ∧ Hid (OwnK .i64 3 wr w.heap.size (.slice (some ⟨g, 0, none⟩) n1 m1) L) ∧ Hid (OwnK .i64 3 wr w.heap.size (.slice A2 n2 m2) U) ∧ Below w.heap.size w wr) (fun _ i _ => n2 - (intOf i).toNat)
        case atStart => exact ⟨0, rfl, Nat.zero_le _, (by show OwnK _ _ _ _ _ _; simpa using HO2.out), HR2, HU2, hbb⟩
        case round =>
          obtain ⟨j, rfl, hj, HO, HR, HU, hb⟩ := hrel
          have hbs := hb.size
          by_cases hlt2 : j < n2
          · obtain ⟨A4, n4, m4, he4, _, _, _, _, hc4⟩ := HU.out.open
            cases he4
            obtain ⟨g2, rfl, _, _, hcc⟩ := hc4 (by omega)
            have gx := hcc j hlt2
            have hxb := HUB.out (U.getD j 0) (by
              have := HN2.out
              rw [List.getD_eq_getElem?_getD, List.getElem?_eq_getElem (by omega)]
              exact List.getElem_mem _)
            have htk2 : U.take (j + 1) = U.take j ++ [U.getD j 0] := by
              have := HN2.out
              rw [List.take_succ_eq_append_getElem (by omega)]
              simp [List.getD_eq_getElem?_getD, show j < U.length by omega]
            obtain ⟨x, hx⟩ : ∃ x, x = U.getD j 0 := ⟨_, rfl⟩
            rw [← hx] at gx hxb htk2
            have HF2 : Hid (P ++ (U.take (j + 1)).flatMap twoBytes = P ++ (U.take j).flatMap twoBytes ++ [x % 256, x / 256]) := by
              show _ = _
              rw [htk2]
              simp [twoBytes]
            have hlen2 : (P ++ (U.take j).flatMap twoBytes).length ≤ 4 * 4398046511104 + 8 := by
              have h1 := HL4.out
              have h2 := twoBytes_length (U.take j)
              have h3 : (U.take j).length ≤ 2 := by have := HUL.out; rw [List.length_take]; omega
              rw [List.length_append]
              omega
            obtain ⟨hx0, hx1⟩ := hxb
            have q1 : x.tmod 256 = x % 256 := Int.tmod_eq_emod_of_nonneg hx0
            have q2 : x.tdiv 256 = x / 256 := Int.tdiv_eq_ediv_of_nonneg hx0
            have q3 : IntKind.u8.wrap (x % 256) = x % 256 := by rw [IntKind.wrap_u8']; omega
            have q4 : IntKind.u8.wrap (x / 256) = x / 256 := by rw [IntKind.wrap_u8']; omega
            have q5 : IntKind.i64.wrap (x / 256) = x / 256 := by rw [IntKind.wrap_i64]; omega
            have q6 : IntKind.i64.wrap (x % 256) = x % 256 := by rw [IntKind.wrap_i64]; omega
            have hj0 : (0 : Int) ≤ (j : Int) := Int.natCast_nonneg _
            have hj1 : (j : Int) < (n2 : Int) := by omega
            clear hx htk2 hcc hc4
            go_wp2
            go_region_law ((refine step_append_lit rfl (.tmp 34) (.tmp 47) .u8 29 5 1 Tryd.underlying29 info_u8 rfl w.heap.size _ _ [x % 256, x / 256] _ rfl 2 2 rfl rfl rfl HO.out (by omega) (by omega) hbs ?_; intro v5 w5 ho5 hg5))
            all_goals
              have hb5 := hg5.out.below HO.out hbs
              have HR5 := Lib.hid (hg5.out.other HO.out HR.out (by decide))
              have HU5 := Lib.hid (hg5.out.other HO.out HU.out (by decide))
              have HO5 : Hid (OwnK .u8 5 w5 w.heap.size v5 (P ++ (U.take (j + 1)).flatMap twoBytes)) := by rw [HF2.out]; exact ho5.out
              clear ho5 hg5 q1 q2 q3 q4 q5 q6
              go_wp2
              go_roundw
              case rel => exact ⟨j + 1, by go_num, hlt2, HO5, HR5, HU5, hb.trans hb5⟩
              case measure => simp [intOf]; omega
          · obtain rfl : j = n2 := by omega
            have HTK : Hid (P ++ (U.take j).flatMap twoBytes = putBytes (L.take (k + 1))) := by
              show _ = _
              rw [HFL.out, List.take_of_length_le (by have := HN2.out; omega)]
            have HLEN : Hid ((putBytes (L.take (k + 1))).length ≤ 4 * (k + 1)) := by
              show _ ≤ _
              have h1 := HL4.out
              have h2 := HUL.out
              rw [HFL.out, List.length_append, twoBytes_length]
              omega
            have ho6 := HO.out
            rw [HTK.out] at ho6
            have HO6 := Lib.hid ho6
            clear HTK HO HU ho6
            go_wp2
            go_roundw
            case rel => exact ⟨k + 1, by go_num, hlt, HO6, HR, HLEN, hb⟩
            case measure => simp [intOf]; omega
      · obtain rfl : k = n1 := by omega
        have HTK : Hid (L.take k = L) := by
          show _ = _
          exact List.take_of_length_le (by have := HN1.out; omega)
        go_wp2
        go_ret2
        refine HQ.out _ _ ⟨_, rfl, ?_, hb⟩
        rw [← HTK.out]
        exact HO.out
  · have ht' : isText s.data.toList = false := by simpa using ht
    have e2 : textErr s.data.toList = 5 := if_neg ht
    have e3 : putOfL s.data.toList = [] := if_neg ht
    rw [e2, e3] at hq
    rw [ht'] at c1
    have HQ := Lib.hid hq
    have C1 := Lib.hid c1
    clear e2 e3 hq c1 ht ht'
    go_enter Tryd.func67, Tryd.ntmps67
    go_wp2_with fail
    refine C1.out.mono ?_
    rintro e w1 ⟨v1, rfl, ho1, hb1⟩
    go_wp2
    go_ret2
    exact HQ.out _ _ ⟨_, rfl, OwnK.nil _ _ _ _, hb1⟩
end Go.Proofs.YtdlcjobahdmapaaDoor

namespace Go.Proofs.YtdlcjobahdmapaaDoor
set_option linter.all false
open Go.RowKit
set_option linter.unusedVariables false
/-- what PutRow answers -/
def RowPost (w : World) (xs : List Int) (e : Ending) (w' : World) : Prop := ∃ v, e = .returned (.tuple #[v, .int .i64 (rowErr xs.length)]) ∧ Own w' w.heap.size v (rowOf xs) ∧ Below w.heap.size w w'
set_option maxHeartbeats 400000 in
theorem RPutRow_any (w : World) (A : Option Addr) (n c : Nat) (xs : List Int) (h : Holds w w.heap.size A n c xs) :
    Calls Tryd.prog 68 #[.slice A n c] w (RowPost w xs) := by
  have hl := h.len
  have hr := h.room
  by_cases hn : n ≤ 65535
  · have e0 : putOf (n : Int) 2 = le n 2 := by
      unfold putOf putOk
      rw [show sizeOk 2 = true from rfl, show ((2 : Int).toNat) = 2 from rfl, show (256 : Int) ^ 2 = 65536 from by decide, decide_eq_true (by omega : (n : Int) < 65536)]
      rfl
    have HQ : Hid (∀ e w', (∃ v, e = .returned (.tuple #[v, .int .i64 0]) ∧ Own w' w.heap.size v (le n 2 ++ xs) ∧ Below w.heap.size w w') → RowPost w xs e w') := by
      intro e w' hh
      unfold RowPost rowErr rowOf
      rw [hl, if_pos hn, if_pos hn]
      exact hh
    have C1 := RPut_any w (n : Int) 2 (by omega)
    unfold RPutPost at C1
    rw [e0] at C1
    have hle := le_length (n : Int) 2
    obtain ⟨ls, hls⟩ : ∃ ls, ls = le (n : Int) 2 := ⟨_, rfl⟩
    obtain ⟨er, her⟩ : ∃ er, er = putErr (n : Int) 2 := ⟨_, rfl⟩
    rw [← hls] at C1 HQ hle
    rw [← her] at C1
    have C1' := Lib.hid C1
    have HX := Lib.hid h
    have HLEN : Hid (ls.length + xs.length ≤ 140737488355328) := by show _ ≤ _; omega
    have hz : IntKind.u64.wrap (n : Int) = n := by rw [IntKind.wrap_u64]; omega
    clear C1 hls her e0 hl h hle
    go_enter Tryd.func68, Tryd.ntmps68
    go_wp2_with fail
    refine C1'.out.mono ?_
    rintro e w1 ⟨x, rfl, hx, L1⟩
    obtain ⟨A1, c1, rfl⟩ := hx.len
    have HO := Lib.hid hx
    have HX1 := Lib.hid (HX.out.below L1)
    have hs1 := L1.size
    have L1' := Lib.hid L1
    clear hx C1' L1
    go_wp2_with (at_builtin; refine wpList_append_bytes rfl (.tmp 16) (.tmp 17) rfl w.heap.size _ ls rfl HO.out w.heap.size A n c xs rfl HX1.out HLEN.out hs1 ?_; intro v2 w2 ho2 hb2 hgr)
    go_ret2
    exact HQ.out _ _ ⟨_, rfl, ho2.out, L1'.out.trans hb2⟩
  · have HQ : Hid (∀ e w', (∃ v, e = .returned (.tuple #[v, .int .i64 3]) ∧ Own w' w.heap.size v [] ∧ Below w.heap.size w w') → RowPost w xs e w') := by
      intro e w' hh
      unfold RowPost rowErr rowOf
      rw [hl, if_neg hn, if_neg hn]
      exact hh
    clear h hl
    go_enter Tryd.func68, Tryd.ntmps68
    go_wp2
    go_ret2
    exact HQ.out _ _ ⟨_, rfl, Own.nil _ _, Below.refl _ _⟩
/-- what PutText answers -/
def PTextPost (w : World) (l : List UInt8) (e : Ending) (w' : World) : Prop := ∃ v, e = .returned (.tuple #[v, .int .i64 (ptextErr l)]) ∧ Own w' w.heap.size v (ptextOf l) ∧ Below w.heap.size w w'
set_option maxHeartbeats 400000 in
theorem RPutText_any (s : ByteArray) (w : World) (hs : s.size ≤ 4398046511104) :
    Calls Tryd.prog 40 #[.string s] w (PTextPost w s.data.toList) := by
  have C1 := TRPut_any s w hs
  unfold TRPutPost at C1
  obtain ⟨l, hl⟩ : ∃ l, l = s.data.toList := ⟨_, rfl⟩
  rw [← hl] at C1 ⊢
  have hlen : (putOfL l).length ≤ 4 * s.size := by
    rw [hl]
    have := putOfL_length s.data.toList
    have := unitsOfL_le s.data.toList
    have e : s.data.toList.length = s.size := by rw [Array.length_toList]; rfl
    omega
  have hby : Bytes (putOfL l) := putOfL_byte l
  have HBY := Lib.hid hby
  by_cases ht : textErr l = 0
  · by_cases hm : (putOfL l).length ≤ 512
    · have HQ : Hid (∀ e w', (∃ v, e = .returned (.tuple #[v, .int .i64 (rowErr (putOfL l).length)]) ∧ Own w' w.heap.size v (rowOf (putOfL l)) ∧ Below w.heap.size w w') → PTextPost w l e w') := by
        intro e w' hh
        have e0 : ptextErr l = 0 := by unfold ptextErr; rw [if_pos ht, if_pos hm]
        unfold PTextPost ptextOf
        rw [e0, if_pos rfl]
        unfold rowErr at hh
        rwa [if_pos (by omega : (putOfL l).length ≤ 65535)] at hh
      have CR : Hid (∀ (w : World) (A : Option Addr) (n c : Nat), Holds w w.heap.size A n c (putOfL l) → Calls Tryd.prog 68 #[.slice A n c] w (RowPost w (putOfL l))) := fun w A n c hh => RPutRow_any w A n c _ hh
      rw [ht] at C1
      unfold RowPost at CR
      obtain ⟨ps, hps⟩ : ∃ ps, ps = putOfL l := ⟨_, rfl⟩
      rw [← hps] at C1 HQ CR hm HBY hlen
      obtain ⟨m, hml⟩ : ∃ m, m = ps.length := ⟨_, rfl⟩
      rw [← hml] at hm hlen HQ CR
      have HM : Hid (ps.length = m) := hml.symm
      have C1' := Lib.hid C1
      clear C1 hl ht hps hml hby
      go_enter Tryd.func40, Tryd.ntmps40
      go_wp2_with fail
      refine C1'.out.mono ?_
      rintro e w1 ⟨x, rfl, hx, L1⟩
      obtain ⟨A1, c1, rfl, hh⟩ := Own.holds (w := w1) (base := w.heap.size) (v := x) (xs := ps) hx HBY.out (by have := HM.out; omega)
      rw [HM.out] at hh ⊢
      have HH := Lib.hid hh
      have L1' := Lib.hid L1
      clear hx C1' L1 hh
      go_wp2_with fail
      refine (CR.out w1 A1 m c1 HH.out).mono ?_
      rintro e w2 ⟨v, rfl, ho, L2⟩
      go_wp2
      go_ret2
      exact HQ.out _ _ ⟨_, rfl, ho.mono L1'.out.size, step L1'.out L2⟩
    · have HQ : Hid (∀ e w', (∃ v, e = .returned (.tuple #[v, .int .i64 3]) ∧ Own w' w.heap.size v [] ∧ Below w.heap.size w w') → PTextPost w l e w') := by
        intro e w' hh
        have e0 : ptextErr l = 3 := by unfold ptextErr; rw [if_pos ht, if_neg hm]
        unfold PTextPost ptextOf
        rw [e0, if_neg (by decide)]
        exact hh
      rw [ht] at C1
      obtain ⟨ps, hps⟩ : ∃ ps, ps = putOfL l := ⟨_, rfl⟩
      rw [← hps] at C1 hm HBY hlen
      obtain ⟨m, hml⟩ : ∃ m, m = ps.length := ⟨_, rfl⟩
      rw [← hml] at hm hlen
      have HM : Hid (ps.length = m) := hml.symm
      have C1' := Lib.hid C1
      clear C1 hl ht hps hml hby
      go_enter Tryd.func40, Tryd.ntmps40
      go_wp2_with fail
      refine C1'.out.mono ?_
      rintro e w1 ⟨x, rfl, hx, L1⟩
      obtain ⟨A1, c1, rfl, hh⟩ := Own.holds (w := w1) (base := w.heap.size) (v := x) (xs := ps) hx HBY.out (by have := HM.out; omega)
      rw [HM.out] at ⊢
      have L1' := Lib.hid L1
      clear hx C1' L1 hh
      go_wp2
      go_ret2
      exact HQ.out _ _ ⟨_, rfl, Own.nil _ _, L1'.out⟩
  · have HQ : Hid (∀ e w', (∃ v, e = .returned (.tuple #[v, .int .i64 (textErr l)]) ∧ Own w' w.heap.size v [] ∧ Below w.heap.size w w') → PTextPost w l e w') := by
      intro e w' hh
      have e0 : ptextErr l = textErr l := by unfold ptextErr; rw [if_neg ht]
      unfold PTextPost ptextOf
      rw [e0, if_neg ht]
      exact hh
    obtain ⟨er, her⟩ : ∃ er, er = textErr l := ⟨_, rfl⟩
    rw [← her] at C1 HQ ht
    have C1' := Lib.hid C1
    clear C1 hl her hby hlen
    go_enter Tryd.func40, Tryd.ntmps40
    go_wp2_with fail
    refine C1'.out.mono ?_
    rintro e w1 ⟨x, rfl, hx, L1⟩
    go_wp2
    go_ret2
    exact HQ.out _ _ ⟨_, rfl, Own.nil _ _, L1⟩
end Go.Proofs.YtdlcjobahdmapaaDoor

namespace Go.Proofs.YtdlcjobahdmapaaDoor
set_option linter.all false
open Go.RowKit
set_option linter.unusedVariables false
set_option maxRecDepth 100000
theorem results_cell_one {P : Program} {fn : Func} {p : Tmp} {ty : TypeId} (h : fn.results = #[.cell p ty]) (tmps : Array Value) (w : World) (g : Nat) (t : TypeId) (cs : Array Value) (fr : Nat × Nat) (d : TypeDesc)
    (hp : tmps.getD p undef = .pointer (some ⟨g, 0, none⟩)) (hg : w.heap[g]? = some (.cells cs t fr))
    (hu : P.underlying ty = some d) (hd : (match d with | .struct _ | .array _ _ => true | _ => false) = true) (hi : (P.info? ty).map (·.size) = some cs.size) :
    (results fn tmps).run P w = .ok (.agg cs) w := by
  have hp' : tmps[p]?.getD undef = .pointer (some ⟨g, 0, none⟩) := by simpa using hp
  simp [results, h, hp', asAddr, run_loadVar_row w g t ty cs fr d hg hu hd hi]
theorem wantF_ok {c : Int} {a : AskV} (k : a.ok) : (wantF c a).ok := by
  unfold wantF
  split
  · exact ⟨zeroAsk_ok.dial, zeroAsk_ok.glen, zeroAsk_ok.gbyte, zeroAsk_ok.plen, zeroAsk_ok.pbyte, k.acc, k.shr, k.way, k.opt, k.lev, k.dur, k.file, zeroAsk_ok.at_, zeroAsk_ok.n, zeroAsk_ok.data, zeroAsk_ok.locks, zeroAsk_ok.most, zeroAsk_ok.cls, zeroAsk_ok.siz⟩
  · split
    · exact ⟨zeroAsk_ok.dial, zeroAsk_ok.glen, zeroAsk_ok.gbyte, zeroAsk_ok.plen, zeroAsk_ok.pbyte, zeroAsk_ok.acc, zeroAsk_ok.shr, zeroAsk_ok.way, zeroAsk_ok.opt, zeroAsk_ok.lev, zeroAsk_ok.dur, k.file, k.at_, k.n, zeroAsk_ok.data, zeroAsk_ok.locks, zeroAsk_ok.most, zeroAsk_ok.cls, zeroAsk_ok.siz⟩
    · split
      · exact ⟨zeroAsk_ok.dial, zeroAsk_ok.glen, zeroAsk_ok.gbyte, zeroAsk_ok.plen, zeroAsk_ok.pbyte, zeroAsk_ok.acc, zeroAsk_ok.shr, zeroAsk_ok.way, zeroAsk_ok.opt, zeroAsk_ok.lev, zeroAsk_ok.dur, k.file, k.at_, zeroAsk_ok.n, k.data, zeroAsk_ok.locks, zeroAsk_ok.most, zeroAsk_ok.cls, zeroAsk_ok.siz⟩
      · split
        · exact ⟨zeroAsk_ok.dial, zeroAsk_ok.glen, zeroAsk_ok.gbyte, zeroAsk_ok.plen, zeroAsk_ok.pbyte, zeroAsk_ok.acc, zeroAsk_ok.shr, zeroAsk_ok.way, zeroAsk_ok.opt, zeroAsk_ok.lev, zeroAsk_ok.dur, k.file, zeroAsk_ok.at_, zeroAsk_ok.n, zeroAsk_ok.data, k.locks, zeroAsk_ok.most, zeroAsk_ok.cls, zeroAsk_ok.siz⟩
        · exact ⟨zeroAsk_ok.dial, zeroAsk_ok.glen, zeroAsk_ok.gbyte, zeroAsk_ok.plen, zeroAsk_ok.pbyte, zeroAsk_ok.acc, zeroAsk_ok.shr, zeroAsk_ok.way, zeroAsk_ok.opt, zeroAsk_ok.lev, zeroAsk_ok.dur, k.file, zeroAsk_ok.at_, zeroAsk_ok.n, zeroAsk_ok.data, zeroAsk_ok.locks, zeroAsk_ok.most, zeroAsk_ok.cls, zeroAsk_ok.siz⟩
set_option maxHeartbeats 2000000 in
theorem asked_any (w : World) (c : Int) (cs : List Value) (a : AskV) (hc : 0 ≤ c ∧ c ≤ 65535) (hk : knownF c = true) (ka : a.ok) (ha : AskIs w w.heap.size cs a) :
    Calls Tryd.prog 38 #[.int .u16 c, .agg cs.toArray] w fun e w' => ∃ ds : List Value, e = .returned (.agg ds.toArray) ∧ AskIs w' w'.heap.size ds (wantF c a) ∧ Below w.heap.size w w' := by
  have HL := Lib.hid (ha.len ka)
  have HA := Lib.hid ha
  have ZH := Lib.hid zero_ask
  have HZ : Hid ((acells (.slice none 0 0) (.slice none 0 0) (.slice none 0 0) zeroAsk).length = 69) := acells_len zeroAsk_ok
  have HZ1 : Hid (∀ v ∈ acells (.slice none 0 0) (.slice none 0 0) (.slice none 0 0) zeroAsk, v.oneCell' = true) := (zeroAsk_is w 0).one
  have BF : Tryd.prog.built 32 [(11, .int .u64 a.file)] = some (acells (.slice none 0 0) (.slice none 0 0) (.slice none 0 0) { zeroAsk with file := a.file }).toArray := by kernel_rfl
  have HF0 : Hid ((acells (.slice none 0 0) (.slice none 0 0) (.slice none 0 0) { zeroAsk with file := a.file }).length = 69) := acells_len (wantF_ok (c := 6) ka)
  have HF1 : Hid (∀ v ∈ acells (.slice none 0 0) (.slice none 0 0) (.slice none 0 0) { zeroAsk with file := a.file }, v.oneCell' = true) := acells_one rfl rfl rfl
  obtain ⟨A1, A2, A3, X1, X2, X3, M1, M2, M3, hcs, hA, hX, hM⟩ := ha
  have FC : Hid (∀ (w : World) (g : Nat), Blk w g 32 cs → w.cell? ⟨g, 51, none⟩ = some (.int .u32 a.acc) ∧ w.cell? ⟨g, 52, none⟩ = some (.int .u32 a.shr) ∧ w.cell? ⟨g, 53, none⟩ = some (.int .u32 a.way) ∧ w.cell? ⟨g, 54, none⟩ = some (.int .u32 a.opt) ∧ w.cell? ⟨g, 55, none⟩ = some (.int .u8 a.lev) ∧ w.cell? ⟨g, 56, none⟩ = some (.int .u8 a.dur) ∧ w.cell? ⟨g, 57, none⟩ = some (.int .u64 a.file) ∧ w.cell? ⟨g, 58, none⟩ = some (.string a.name) ∧ w.cell? ⟨g, 59, none⟩ = some (.int .u64 a.at_) ∧ w.cell? ⟨g, 60, none⟩ = some (.int .u32 a.n) ∧ w.cell? ⟨g, 61, none⟩ = some (.slice X1 X2 X3) ∧ w.cell? ⟨g, 62, none⟩ = some (.slice M1 M2 M3)) := fun w g h => by
    rw [hcs] at h
    exact ⟨h.at (acells_get ka 2), h.at (acells_get ka 3), h.at (acells_get ka 4), h.at (acells_get ka 5), h.at (acells_get ka 6), h.at (acells_get ka 7), h.at (acells_get ka 8), h.at (acells_get ka 9), h.at (acells_get ka 10), h.at (acells_get ka 11), h.at (acells_get ka 12), h.at (acells_get ka 13)⟩
  have HX := Lib.hid hX
  have HM := Lib.hid hM
  obtain ⟨zs, hzs⟩ : ∃ x, x = acells (.slice none 0 0) (.slice none 0 0) (.slice none 0 0) zeroAsk := ⟨_, rfl⟩
  rw [← hzs] at ZH HZ HZ1
  obtain ⟨C0, hC0⟩ : ∃ x, x = acells (.slice none 0 0) (.slice none 0 0) (.slice none 0 0) { zeroAsk with file := a.file } := ⟨_, rfl⟩
  have HC0 := Lib.hid hC0
  rw [← hC0] at BF HF0 HF1
  have hcc : c = 5 ∨ c = 6 ∨ c = 7 ∨ c = 8 ∨ c = 9 ∨ c = 10 := by unfold knownF at hk; simp at hk; omega
  clear hzs hC0 hA hX hM hcs hk ka HA
  rcases hcc with h5 | h6 | h7 | h8 | h9 | h10
  · subst h5
    go_enter Tryd.func38, Tryd.ntmps38
    go_upto_region 4 with (first
      | ((with_reducible show wpList _ _ _ (⟨some 3, _, _, _, _, _⟩ :: _) _ _); refine wpList_box_blk rfl _ (.tmp 1) rfl cs rfl ?_; intro g w1 hg1 hg2 K1 L1)
      | ((with_reducible show wpList _ _ _ (⟨some 4, _, _, _, _, _⟩ :: _) _ _); refine wpList_alloc_blk rfl _ rfl zs _ ZH ?_; intro r w2 hg3 hg4 R2 L02; have K2 := Lib.hid (K1.out.over L02.out); have L2 := Lib.hid (step L1.out L02.out); obtain ⟨c51, c52, c53, c54, c55, c56, c57, c58, c59, c60, c61, c62⟩ := FC.out w2 g K2.out; have hsz2 := L2.out.size; have hgr : g ≠ r := (by omega); have hwr : w.heap.size ≤ r := (by have := L1.out.size; omega))
      | ((with_reducible show wpList _ _ _ (⟨some 8, _, _, _, _, _⟩ :: _) _ _); refine wpList_build_blk rfl _ _ rfl C0 (by refine Eq.trans ?_ BF; kernel_rfl) ?_)
      | ((with_reducible show wpList _ _ _ (⟨some 5, _, _, _, _, _⟩ :: _) _ _); refine wpList_alloc_blk rfl _ rfl zs _ ZH ?_; intro h w3 hg5 hg6 X3' L03; have K3 := Lib.hid (K2.out.over L03.out); have R3 := Lib.hid (R2.out.over L03.out); have L3 := Lib.hid (step L2.out L03.out); have hgh : g ≠ h := (by have := K2.out.lt; omega); have hrh : r ≠ h := (by have := R2.out.lt; omega); have hwh : w.heap.size ≤ h := (by omega))
      | ((with_reducible show wpList _ _ _ (⟨none, .store _ (.tmp 5) _, _, _, _, _⟩ :: _) _ _); refine wpList_store_blk rfl _ (.tmp 5) (.tmp 8) rfl h rfl _ zs C0 rfl X3' 69 size_ask HZ HF0 HF1 ?_; intro w4 X0 O4 hg7; have K4 := Lib.hid (K3.out.only O4.out hgh); have R4 := Lib.hid (R3.out.only O4.out hrh); have L4 := Lib.hid (below_only L3.out O4.out hwh); clear c51 c52 c53 c54 c55 c56 c57 c58 c59 c60 c61 c62; obtain ⟨c51, c52, c53, c54, c55, c56, c57, c58, c59, c60, c61, c62⟩ := FC.out w4 g K4.out)
      | fail)
    refine wp_region_held (S := fun w' => Blk w' g 32 cs) (by kernel_rfl) ?_
    change wpAnyH _ _ _ _ _ _ _ _ w4.drew
    have S0_0 : Hid (Blk w4.drew g 32 cs) := K4.out.drew
    have X0d := Lib.hid (Blk.drew X0.out)
    have R0d := Lib.hid (Blk.drew R4.out)
    have L0d := Lib.hid (L4.out.drew)
    refine wpAnyH_take (i := 0) (v := _) rfl (by kernel_rfl) (by kernel_rfl) (by kernel_rfl) (fun _ _ _ h => h) (yieldsIf_fld (by kernel_rfl) _ (.tmp 3) 5 rfl (.pointer (some ⟨g, 0, none⟩)) (.pointer (some ⟨g, 51, none⟩)) (by kernel_rfl) (fld_isZeroAsk_5 g)) S0_0.out ?_
    refine wpAnyH_take (i := 1) (v := _) rfl (by kernel_rfl) (by kernel_rfl) (by kernel_rfl) (fun _ _ _ h => h) (yieldsIf_load_one (by kernel_rfl) _ (.tmp 12) rfl g 51 (by kernel_rfl) (.int .u32 a.acc) (fun w h => (FC.out w g h).1) _ Tryd.underlying27 rfl) S0_0.out ?_
    refine wpAnyH_take (i := 2) (v := _) rfl (by kernel_rfl) (by kernel_rfl) (by kernel_rfl) (fun _ _ _ h => h) (yieldsIf_fld (by kernel_rfl) _ (.tmp 3) 6 rfl (.pointer (some ⟨g, 0, none⟩)) (.pointer (some ⟨g, 52, none⟩)) (by kernel_rfl) (fld_isZeroAsk_6 g)) S0_0.out ?_
    refine wpAnyH_take (i := 3) (v := _) rfl (by kernel_rfl) (by kernel_rfl) (by kernel_rfl) (fun _ _ _ h => h) (yieldsIf_load_one (by kernel_rfl) _ (.tmp 14) rfl g 52 (by kernel_rfl) (.int .u32 a.shr) (fun w h => (FC.out w g h).2.1) _ Tryd.underlying27 rfl) S0_0.out ?_
    refine wpAnyH_take (i := 4) (v := _) rfl (by kernel_rfl) (by kernel_rfl) (by kernel_rfl) (fun _ _ _ h => h) (yieldsIf_fld (by kernel_rfl) _ (.tmp 3) 7 rfl (.pointer (some ⟨g, 0, none⟩)) (.pointer (some ⟨g, 53, none⟩)) (by kernel_rfl) (fld_isZeroAsk_7 g)) S0_0.out ?_
    refine wpAnyH_take (i := 5) (v := _) rfl (by kernel_rfl) (by kernel_rfl) (by kernel_rfl) (fun _ _ _ h => h) (yieldsIf_load_one (by kernel_rfl) _ (.tmp 16) rfl g 53 (by kernel_rfl) (.int .u32 a.way) (fun w h => (FC.out w g h).2.2.1) _ Tryd.underlying27 rfl) S0_0.out ?_
    refine wpAnyH_take (i := 6) (v := _) rfl (by kernel_rfl) (by kernel_rfl) (by kernel_rfl) (fun _ _ _ h => h) (yieldsIf_fld (by kernel_rfl) _ (.tmp 3) 8 rfl (.pointer (some ⟨g, 0, none⟩)) (.pointer (some ⟨g, 54, none⟩)) (by kernel_rfl) (fld_isZeroAsk_8 g)) S0_0.out ?_
    refine wpAnyH_take (i := 7) (v := _) rfl (by kernel_rfl) (by kernel_rfl) (by kernel_rfl) (fun _ _ _ h => h) (yieldsIf_load_one (by kernel_rfl) _ (.tmp 18) rfl g 54 (by kernel_rfl) (.int .u32 a.opt) (fun w h => (FC.out w g h).2.2.2.1) _ Tryd.underlying27 rfl) S0_0.out ?_
    refine wpAnyH_take (i := 8) (v := _) rfl (by kernel_rfl) (by kernel_rfl) (by kernel_rfl) (fun _ _ _ h => h) (yieldsIf_fld (by kernel_rfl) _ (.tmp 5) 5 rfl (.pointer (some ⟨h, 0, none⟩)) (.pointer (some ⟨h, 51, none⟩)) (by kernel_rfl) (fld_isZeroAsk_5 h)) S0_0.out ?_
    refine wpAnyH_frame fun fr1 hfr1 => ?_
    have ex1 : fr1.eval (.tmp 20) = .pointer (some ⟨h, 51, none⟩) := by rw [hfr1]; kernel_rfl
    have ey1 : fr1.eval (.tmp 13) = (.int .u32 a.acc) := by rw [hfr1]; kernel_rfl
    refine wpAnyH_one 9 _ (by kernel_rfl) rfl fun K hK => ?_
    refine step_store_fld rfl _ (.tmp 20) (.tmp 13) rfl h 51 ex1 _ C0 (.int .u32 a.acc) ey1 X0d (Lib.hid (by have := HF0.out; omega)) (by kernel_rfl) rfl ?_
    intro x1 XS1 O1 hq1
    obtain ⟨C1, hC1⟩ : ∃ x, x = C0.set 51 (.int .u32 a.acc) := ⟨_, rfl⟩
    have HC1 := Lib.hid hC1
    have HL1 : Hid (C1.length = 69) := by show _ = _; rw [hC1, List.length_set]; exact HF0.out
    rw [← hC1] at XS1
    have ST1 := Lib.hid (Blk.only S0_0.out O1.out hgh)
    have RT1 := Lib.hid (Blk.only R0d.out O1.out hrh)
    have LT1 := Lib.hid (below_only L0d.out O1.out hwh)
    refine hK _ _ ST1.out ?_
    clear hK K ex1 ey1 hC1
    change wpAnyH _ _ _ _ _ _ _ fr1 x1
    subst hfr1
    refine wpAnyH_take (i := 10) (v := _) rfl (by kernel_rfl) (by kernel_rfl) (by kernel_rfl) (fun _ _ _ h => h) (yieldsIf_fld (by kernel_rfl) _ (.tmp 5) 6 rfl (.pointer (some ⟨h, 0, none⟩)) (.pointer (some ⟨h, 52, none⟩)) (by kernel_rfl) (fld_isZeroAsk_6 h)) ST1.out ?_
    refine wpAnyH_frame fun fr2 hfr2 => ?_
    have ex2 : fr2.eval (.tmp 21) = .pointer (some ⟨h, 52, none⟩) := by rw [hfr2]; kernel_rfl
    have ey2 : fr2.eval (.tmp 15) = (.int .u32 a.shr) := by rw [hfr2]; kernel_rfl
    refine wpAnyH_one 11 _ (by kernel_rfl) rfl fun K hK => ?_
    refine step_store_fld rfl _ (.tmp 21) (.tmp 15) rfl h 52 ex2 _ C1 (.int .u32 a.shr) ey2 XS1 (Lib.hid (by have := HL1.out; omega)) (by kernel_rfl) rfl ?_
    intro x2 XS2 O2 hq2
    obtain ⟨C2, hC2⟩ : ∃ x, x = C1.set 52 (.int .u32 a.shr) := ⟨_, rfl⟩
    have HC2 := Lib.hid hC2
    have HL2 : Hid (C2.length = 69) := by show _ = _; rw [hC2, List.length_set]; exact HL1.out
    rw [← hC2] at XS2
    have ST2 := Lib.hid (Blk.only ST1.out O2.out hgh)
    have RT2 := Lib.hid (Blk.only RT1.out O2.out hrh)
    have LT2 := Lib.hid (below_only LT1.out O2.out hwh)
    refine hK _ _ ST2.out ?_
    clear hK K ex2 ey2 hC2
    change wpAnyH _ _ _ _ _ _ _ fr2 x2
    subst hfr2
    refine wpAnyH_take (i := 12) (v := _) rfl (by kernel_rfl) (by kernel_rfl) (by kernel_rfl) (fun _ _ _ h => h) (yieldsIf_fld (by kernel_rfl) _ (.tmp 5) 7 rfl (.pointer (some ⟨h, 0, none⟩)) (.pointer (some ⟨h, 53, none⟩)) (by kernel_rfl) (fld_isZeroAsk_7 h)) ST2.out ?_
    refine wpAnyH_frame fun fr3 hfr3 => ?_
    have ex3 : fr3.eval (.tmp 22) = .pointer (some ⟨h, 53, none⟩) := by rw [hfr3]; kernel_rfl
    have ey3 : fr3.eval (.tmp 17) = (.int .u32 a.way) := by rw [hfr3]; kernel_rfl
    refine wpAnyH_one 13 _ (by kernel_rfl) rfl fun K hK => ?_
    refine step_store_fld rfl _ (.tmp 22) (.tmp 17) rfl h 53 ex3 _ C2 (.int .u32 a.way) ey3 XS2 (Lib.hid (by have := HL2.out; omega)) (by kernel_rfl) rfl ?_
    intro x3 XS3 O3 hq3
    obtain ⟨C3, hC3⟩ : ∃ x, x = C2.set 53 (.int .u32 a.way) := ⟨_, rfl⟩
    have HC3 := Lib.hid hC3
    have HL3 : Hid (C3.length = 69) := by show _ = _; rw [hC3, List.length_set]; exact HL2.out
    rw [← hC3] at XS3
    have ST3 := Lib.hid (Blk.only ST2.out O3.out hgh)
    have RT3 := Lib.hid (Blk.only RT2.out O3.out hrh)
    have LT3 := Lib.hid (below_only LT2.out O3.out hwh)
    refine hK _ _ ST3.out ?_
    clear hK K ex3 ey3 hC3
    change wpAnyH _ _ _ _ _ _ _ fr3 x3
    subst hfr3
    refine wpAnyH_take (i := 14) (v := _) rfl (by kernel_rfl) (by kernel_rfl) (by kernel_rfl) (fun _ _ _ h => h) (yieldsIf_fld (by kernel_rfl) _ (.tmp 5) 8 rfl (.pointer (some ⟨h, 0, none⟩)) (.pointer (some ⟨h, 54, none⟩)) (by kernel_rfl) (fld_isZeroAsk_8 h)) ST3.out ?_
    refine wpAnyH_frame fun fr4 hfr4 => ?_
    have ex4 : fr4.eval (.tmp 23) = .pointer (some ⟨h, 54, none⟩) := by rw [hfr4]; kernel_rfl
    have ey4 : fr4.eval (.tmp 19) = (.int .u32 a.opt) := by rw [hfr4]; kernel_rfl
    refine wpAnyH_one 15 _ (by kernel_rfl) rfl fun K hK => ?_
    refine step_store_fld rfl _ (.tmp 23) (.tmp 19) rfl h 54 ex4 _ C3 (.int .u32 a.opt) ey4 XS3 (Lib.hid (by have := HL3.out; omega)) (by kernel_rfl) rfl ?_
    intro x4 XS4 O4 hq4
    obtain ⟨C4, hC4⟩ : ∃ x, x = C3.set 54 (.int .u32 a.opt) := ⟨_, rfl⟩
    have HC4 := Lib.hid hC4
    have HL4 : Hid (C4.length = 69) := by show _ = _; rw [hC4, List.length_set]; exact HL3.out
    rw [← hC4] at XS4
    have ST4 := Lib.hid (Blk.only ST3.out O4.out hgh)
    have RT4 := Lib.hid (Blk.only RT3.out O4.out hrh)
    have LT4 := Lib.hid (below_only LT3.out O4.out hwh)
    refine hK _ _ ST4.out ?_
    clear hK K ex4 ey4 hC4
    change wpAnyH _ _ _ _ _ _ _ fr4 x4
    subst hfr4
    refine wpAnyH_done (by kernel_rfl) ?_ _
    go_simp
    have Kr1 := Lib.hid ST4.out
    go_upto_region 5 with fail
    refine wp_region_held (S := fun w' => Blk w' g 32 cs) (by kernel_rfl) ?_
    change wpAnyH _ _ _ _ _ _ _ _ x4.drew
    have S1_0 : Hid (Blk x4.drew g 32 cs) := Kr1.out.drew
    have X1d := Lib.hid (Blk.drew XS4.out)
    have R1d := Lib.hid (Blk.drew RT4.out)
    have L1d := Lib.hid (LT4.out.drew)
    refine wpAnyH_take (i := 0) (v := _) rfl (by kernel_rfl) (by kernel_rfl) (by kernel_rfl) (fun _ _ _ h => h) (yieldsIf_fld (by kernel_rfl) _ (.tmp 3) 9 rfl (.pointer (some ⟨g, 0, none⟩)) (.pointer (some ⟨g, 55, none⟩)) (by kernel_rfl) (fld_isZeroAsk_9 g)) S1_0.out ?_
    refine wpAnyH_take (i := 1) (v := _) rfl (by kernel_rfl) (by kernel_rfl) (by kernel_rfl) (fun _ _ _ h => h) (yieldsIf_load_one (by kernel_rfl) _ (.tmp 24) rfl g 55 (by kernel_rfl) (.int .u8 a.lev) (fun w h => (FC.out w g h).2.2.2.2.1) _ Tryd.underlying5 rfl) S1_0.out ?_
    refine wpAnyH_take (i := 2) (v := _) rfl (by kernel_rfl) (by kernel_rfl) (by kernel_rfl) (fun _ _ _ h => h) (yieldsIf_fld (by kernel_rfl) _ (.tmp 3) 10 rfl (.pointer (some ⟨g, 0, none⟩)) (.pointer (some ⟨g, 56, none⟩)) (by kernel_rfl) (fld_isZeroAsk_10 g)) S1_0.out ?_
    refine wpAnyH_take (i := 3) (v := _) rfl (by kernel_rfl) (by kernel_rfl) (by kernel_rfl) (fun _ _ _ h => h) (yieldsIf_load_one (by kernel_rfl) _ (.tmp 26) rfl g 56 (by kernel_rfl) (.int .u8 a.dur) (fun w h => (FC.out w g h).2.2.2.2.2.1) _ Tryd.underlying5 rfl) S1_0.out ?_
    refine wpAnyH_take (i := 4) (v := _) rfl (by kernel_rfl) (by kernel_rfl) (by kernel_rfl) (fun _ _ _ h => h) (yieldsIf_fld (by kernel_rfl) _ (.tmp 3) 12 rfl (.pointer (some ⟨g, 0, none⟩)) (.pointer (some ⟨g, 58, none⟩)) (by kernel_rfl) (fld_isZeroAsk_12 g)) S1_0.out ?_
    refine wpAnyH_take (i := 5) (v := _) rfl (by kernel_rfl) (by kernel_rfl) (by kernel_rfl) (fun _ _ _ h => h) (yieldsIf_load_one (by kernel_rfl) _ (.tmp 28) rfl g 58 (by kernel_rfl) (.string a.name) (fun w h => (FC.out w g h).2.2.2.2.2.2.2.1) _ Tryd.underlying9 rfl) S1_0.out ?_
    refine wpAnyH_take (i := 6) (v := _) rfl (by kernel_rfl) (by kernel_rfl) (by kernel_rfl) (fun _ _ _ h => h) (yieldsIf_fld (by kernel_rfl) _ (.tmp 5) 9 rfl (.pointer (some ⟨h, 0, none⟩)) (.pointer (some ⟨h, 55, none⟩)) (by kernel_rfl) (fld_isZeroAsk_9 h)) S1_0.out ?_
    refine wpAnyH_frame fun fr5 hfr5 => ?_
    have ex5 : fr5.eval (.tmp 30) = .pointer (some ⟨h, 55, none⟩) := by rw [hfr5]; kernel_rfl
    have ey5 : fr5.eval (.tmp 25) = (.int .u8 a.lev) := by rw [hfr5]; kernel_rfl
    refine wpAnyH_one 7 _ (by kernel_rfl) rfl fun K hK => ?_
    refine step_store_fld rfl _ (.tmp 30) (.tmp 25) rfl h 55 ex5 _ C4 (.int .u8 a.lev) ey5 X1d (Lib.hid (by have := HL4.out; omega)) (by kernel_rfl) rfl ?_
    intro x5 XS5 O5 hq5
    obtain ⟨C5, hC5⟩ : ∃ x, x = C4.set 55 (.int .u8 a.lev) := ⟨_, rfl⟩
    have HC5 := Lib.hid hC5
    have HL5 : Hid (C5.length = 69) := by show _ = _; rw [hC5, List.length_set]; exact HL4.out
    rw [← hC5] at XS5
    have ST5 := Lib.hid (Blk.only S1_0.out O5.out hgh)
    have RT5 := Lib.hid (Blk.only R1d.out O5.out hrh)
    have LT5 := Lib.hid (below_only L1d.out O5.out hwh)
    refine hK _ _ ST5.out ?_
    clear hK K ex5 ey5 hC5
    change wpAnyH _ _ _ _ _ _ _ fr5 x5
    subst hfr5
    refine wpAnyH_take (i := 8) (v := _) rfl (by kernel_rfl) (by kernel_rfl) (by kernel_rfl) (fun _ _ _ h => h) (yieldsIf_fld (by kernel_rfl) _ (.tmp 5) 10 rfl (.pointer (some ⟨h, 0, none⟩)) (.pointer (some ⟨h, 56, none⟩)) (by kernel_rfl) (fld_isZeroAsk_10 h)) ST5.out ?_
    refine wpAnyH_frame fun fr6 hfr6 => ?_
    have ex6 : fr6.eval (.tmp 31) = .pointer (some ⟨h, 56, none⟩) := by rw [hfr6]; kernel_rfl
    have ey6 : fr6.eval (.tmp 27) = (.int .u8 a.dur) := by rw [hfr6]; kernel_rfl
    refine wpAnyH_one 9 _ (by kernel_rfl) rfl fun K hK => ?_
    refine step_store_fld rfl _ (.tmp 31) (.tmp 27) rfl h 56 ex6 _ C5 (.int .u8 a.dur) ey6 XS5 (Lib.hid (by have := HL5.out; omega)) (by kernel_rfl) rfl ?_
    intro x6 XS6 O6 hq6
    obtain ⟨C6, hC6⟩ : ∃ x, x = C5.set 56 (.int .u8 a.dur) := ⟨_, rfl⟩
    have HC6 := Lib.hid hC6
    have HL6 : Hid (C6.length = 69) := by show _ = _; rw [hC6, List.length_set]; exact HL5.out
    rw [← hC6] at XS6
    have ST6 := Lib.hid (Blk.only ST5.out O6.out hgh)
    have RT6 := Lib.hid (Blk.only RT5.out O6.out hrh)
    have LT6 := Lib.hid (below_only LT5.out O6.out hwh)
    refine hK _ _ ST6.out ?_
    clear hK K ex6 ey6 hC6
    change wpAnyH _ _ _ _ _ _ _ fr6 x6
    subst hfr6
    refine wpAnyH_take (i := 10) (v := _) rfl (by kernel_rfl) (by kernel_rfl) (by kernel_rfl) (fun _ _ _ h => h) (yieldsIf_fld (by kernel_rfl) _ (.tmp 5) 12 rfl (.pointer (some ⟨h, 0, none⟩)) (.pointer (some ⟨h, 58, none⟩)) (by kernel_rfl) (fld_isZeroAsk_12 h)) ST6.out ?_
    refine wpAnyH_frame fun fr7 hfr7 => ?_
    have ex7 : fr7.eval (.tmp 32) = .pointer (some ⟨h, 58, none⟩) := by rw [hfr7]; kernel_rfl
    have ey7 : fr7.eval (.tmp 29) = (.string a.name) := by rw [hfr7]; kernel_rfl
    refine wpAnyH_one 11 _ (by kernel_rfl) rfl fun K hK => ?_
    refine step_store_fld rfl _ (.tmp 32) (.tmp 29) rfl h 58 ex7 _ C6 (.string a.name) ey7 XS6 (Lib.hid (by have := HL6.out; omega)) (by kernel_rfl) rfl ?_
    intro x7 XS7 O7 hq7
    obtain ⟨C7, hC7⟩ : ∃ x, x = C6.set 58 (.string a.name) := ⟨_, rfl⟩
    have HC7 := Lib.hid hC7
    have HL7 : Hid (C7.length = 69) := by show _ = _; rw [hC7, List.length_set]; exact HL6.out
    rw [← hC7] at XS7
    have ST7 := Lib.hid (Blk.only ST6.out O7.out hgh)
    have RT7 := Lib.hid (Blk.only RT6.out O7.out hrh)
    have LT7 := Lib.hid (below_only LT6.out O7.out hwh)
    refine hK _ _ ST7.out ?_
    clear hK K ex7 ey7 hC7
    change wpAnyH _ _ _ _ _ _ _ fr7 x7
    subst hfr7
    refine wpAnyH_done (by kernel_rfl) ?_ _
    go_simp
    have Kr2 := Lib.hid ST7.out
    have H1C : Hid (∀ v ∈ C7, v.oneCell' = true) := by
      show _
      have hh : C7 = acells (.slice none 0 0) (.slice none 0 0) (.slice none 0 0) { zeroAsk with file := a.file, acc := a.acc, shr := a.shr, way := a.way, opt := a.opt, lev := a.lev, dur := a.dur, name := a.name } := by
        rw [HC7.out, HC6.out, HC5.out, HC4.out, HC3.out, HC2.out, HC1.out, HC0.out]
        rfl
      rw [hh]
      exact acells_one rfl rfl rfl
    go_wp2_with (first
      | ((with_reducible show wpList _ _ _ (⟨some 54, _, _, _, _, _⟩ :: _) _ _); refine wpList_load_blk rfl _ (.tmp 5) rfl h rfl _ C7 XS7 69 _ Tryd.underlying32 rfl size_ask HL7 ?_)
      | ((with_reducible show wpList _ _ _ (⟨none, .store _ (.tmp 4) _, _, _, _, _⟩ :: _) _ _); refine wpList_store_blk rfl _ (.tmp 4) (.tmp 54) rfl r rfl _ zs C7 rfl RT7 69 size_ask HZ HL7 H1C ?_; intro w9 K9 O9 hg9)
      | fail)
    have HEQ : C7 = acells (.slice none 0 0) (.slice none 0 0) (.slice none 0 0) (wantF 5 a) := by
      rw [HC7.out, HC6.out, HC5.out, HC4.out, HC3.out, HC2.out, HC1.out, HC0.out]
      rfl
    have LF : Below w.heap.size w w9 := below_only LT7.out O9.out hwr
    refine bodyPost_ret (v := .agg C7.toArray) ?_ rfl ⟨_, rfl, ⟨none, 0, 0, none, 0, 0, none, 0, 0, HEQ, HoldsF.nil _ _ _, Holds.nil _ _, HoldsS.nil _ _ _ _⟩, LF⟩
    exact results_cell_one rfl _ _ r _ _ (0, 0) _ rfl K9.out Tryd.underlying32 rfl (by rw [size_ask]; have := HL7.out; simp [this])
  · subst h6
    go_enter Tryd.func38, Tryd.ntmps38
    go_wp2_with (first
      | ((with_reducible show wpList _ _ _ (⟨some 3, _, _, _, _, _⟩ :: _) _ _); refine wpList_box_blk rfl _ (.tmp 1) rfl cs rfl ?_; intro g w1 hg1 hg2 K1 L1)
      | ((with_reducible show wpList _ _ _ (⟨some 4, _, _, _, _, _⟩ :: _) _ _); refine wpList_alloc_blk rfl _ rfl zs _ ZH ?_; intro r w2 hg3 hg4 R2 L02; have K2 := Lib.hid (K1.out.over L02.out); have L2 := Lib.hid (step L1.out L02.out); obtain ⟨c51, c52, c53, c54, c55, c56, c57, c58, c59, c60, c61, c62⟩ := FC.out w2 g K2.out; have hsz2 := L2.out.size; have hgr : g ≠ r := (by omega); have hwr : w.heap.size ≤ r := (by have := L1.out.size; omega))
      | ((with_reducible show wpList _ _ _ (⟨some 8, _, _, _, _, _⟩ :: _) _ _); refine wpList_build_blk rfl _ _ rfl C0 (by refine Eq.trans ?_ BF; kernel_rfl) ?_)
      | ((with_reducible show wpList _ _ _ (⟨some 5, _, _, _, _, _⟩ :: _) _ _); refine wpList_alloc_blk rfl _ rfl zs _ ZH ?_; intro h w3 hg5 hg6 X3' L03; have K3 := Lib.hid (K2.out.over L03.out); have R3 := Lib.hid (R2.out.over L03.out); have L3 := Lib.hid (step L2.out L03.out); have hgh : g ≠ h := (by have := K2.out.lt; omega); have hrh : r ≠ h := (by have := R2.out.lt; omega); have hwh : w.heap.size ≤ h := (by omega))
      | ((with_reducible show wpList _ _ _ (⟨none, .store _ (.tmp 5) _, _, _, _, _⟩ :: _) _ _); refine wpList_store_blk rfl _ (.tmp 5) (.tmp 8) rfl h rfl _ zs C0 rfl X3' 69 size_ask HZ HF0 HF1 ?_; intro w4 X0 O4 hg7; have K4 := Lib.hid (K3.out.only O4.out hgh); have R4 := Lib.hid (R3.out.only O4.out hrh); have L4 := Lib.hid (below_only L3.out O4.out hwh); clear c51 c52 c53 c54 c55 c56 c57 c58 c59 c60 c61 c62; obtain ⟨c51, c52, c53, c54, c55, c56, c57, c58, c59, c60, c61, c62⟩ := FC.out w4 g K4.out)
      | ((with_reducible show wpList _ _ _ (⟨some 54, _, _, _, _, _⟩ :: _) _ _); refine wpList_load_blk rfl _ (.tmp 5) rfl h rfl _ C0 X0 69 _ Tryd.underlying32 rfl size_ask HF0 ?_)
      | ((with_reducible show wpList _ _ _ (⟨none, .store _ (.tmp 4) _, _, _, _, _⟩ :: _) _ _); refine wpList_store_blk rfl _ (.tmp 4) (.tmp 54) rfl r rfl _ zs C0 rfl R4 69 size_ask HZ HF0 HF1 ?_; intro w9 K9 O9 hg9)
      | fail)
    have HEQ : C0 = acells (.slice none 0 0) (.slice none 0 0) (.slice none 0 0) (wantF 6 a) := by
      rw [HC0.out]
      rfl
    have LF : Below w.heap.size w w9 := below_only L4.out O9.out hwr
    refine bodyPost_ret (v := .agg C0.toArray) ?_ rfl ⟨_, rfl, ⟨none, 0, 0, none, 0, 0, none, 0, 0, HEQ, HoldsF.nil _ _ _, Holds.nil _ _, HoldsS.nil _ _ _ _⟩, LF⟩
    exact results_cell_one rfl _ _ r _ _ (0, 0) _ rfl K9.out Tryd.underlying32 rfl (by rw [size_ask]; have := HF0.out; simp [this])
  · subst h7
    go_enter Tryd.func38, Tryd.ntmps38
    go_wp2_with (first
      | ((with_reducible show wpList _ _ _ (⟨some 3, _, _, _, _, _⟩ :: _) _ _); refine wpList_box_blk rfl _ (.tmp 1) rfl cs rfl ?_; intro g w1 hg1 hg2 K1 L1)
      | ((with_reducible show wpList _ _ _ (⟨some 4, _, _, _, _, _⟩ :: _) _ _); refine wpList_alloc_blk rfl _ rfl zs _ ZH ?_; intro r w2 hg3 hg4 R2 L02; have K2 := Lib.hid (K1.out.over L02.out); have L2 := Lib.hid (step L1.out L02.out); obtain ⟨c51, c52, c53, c54, c55, c56, c57, c58, c59, c60, c61, c62⟩ := FC.out w2 g K2.out; have hsz2 := L2.out.size; have hgr : g ≠ r := (by omega); have hwr : w.heap.size ≤ r := (by have := L1.out.size; omega))
      | ((with_reducible show wpList _ _ _ (⟨some 8, _, _, _, _, _⟩ :: _) _ _); refine wpList_build_blk rfl _ _ rfl C0 (by refine Eq.trans ?_ BF; kernel_rfl) ?_)
      | ((with_reducible show wpList _ _ _ (⟨some 5, _, _, _, _, _⟩ :: _) _ _); refine wpList_alloc_blk rfl _ rfl zs _ ZH ?_; intro h w3 hg5 hg6 X3' L03; have K3 := Lib.hid (K2.out.over L03.out); have R3 := Lib.hid (R2.out.over L03.out); have L3 := Lib.hid (step L2.out L03.out); have hgh : g ≠ h := (by have := K2.out.lt; omega); have hrh : r ≠ h := (by have := R2.out.lt; omega); have hwh : w.heap.size ≤ h := (by omega))
      | ((with_reducible show wpList _ _ _ (⟨none, .store _ (.tmp 5) _, _, _, _, _⟩ :: _) _ _); refine wpList_store_blk rfl _ (.tmp 5) (.tmp 8) rfl h rfl _ zs C0 rfl X3' 69 size_ask HZ HF0 HF1 ?_; intro w4 X0 O4 hg7; have K4 := Lib.hid (K3.out.only O4.out hgh); have R4 := Lib.hid (R3.out.only O4.out hrh); have L4 := Lib.hid (below_only L3.out O4.out hwh); clear c51 c52 c53 c54 c55 c56 c57 c58 c59 c60 c61 c62; obtain ⟨c51, c52, c53, c54, c55, c56, c57, c58, c59, c60, c61, c62⟩ := FC.out w4 g K4.out)
      | ((with_reducible show wpList _ _ _ (⟨some 54, _, _, _, _, _⟩ :: _) _ _); refine wpList_load_blk rfl _ (.tmp 5) rfl h rfl _ C0 X0 69 _ Tryd.underlying32 rfl size_ask HF0 ?_)
      | ((with_reducible show wpList _ _ _ (⟨none, .store _ (.tmp 4) _, _, _, _, _⟩ :: _) _ _); refine wpList_store_blk rfl _ (.tmp 4) (.tmp 54) rfl r rfl _ zs C0 rfl R4 69 size_ask HZ HF0 HF1 ?_; intro w9 K9 O9 hg9)
      | fail)
    have HEQ : C0 = acells (.slice none 0 0) (.slice none 0 0) (.slice none 0 0) (wantF 7 a) := by
      rw [HC0.out]
      rfl
    have LF : Below w.heap.size w w9 := below_only L4.out O9.out hwr
    refine bodyPost_ret (v := .agg C0.toArray) ?_ rfl ⟨_, rfl, ⟨none, 0, 0, none, 0, 0, none, 0, 0, HEQ, HoldsF.nil _ _ _, Holds.nil _ _, HoldsS.nil _ _ _ _⟩, LF⟩
    exact results_cell_one rfl _ _ r _ _ (0, 0) _ rfl K9.out Tryd.underlying32 rfl (by rw [size_ask]; have := HF0.out; simp [this])
  · subst h8
    go_enter Tryd.func38, Tryd.ntmps38
    go_upto_region 7 with (first
      | ((with_reducible show wpList _ _ _ (⟨some 3, _, _, _, _, _⟩ :: _) _ _); refine wpList_box_blk rfl _ (.tmp 1) rfl cs rfl ?_; intro g w1 hg1 hg2 K1 L1)
      | ((with_reducible show wpList _ _ _ (⟨some 4, _, _, _, _, _⟩ :: _) _ _); refine wpList_alloc_blk rfl _ rfl zs _ ZH ?_; intro r w2 hg3 hg4 R2 L02; have K2 := Lib.hid (K1.out.over L02.out); have L2 := Lib.hid (step L1.out L02.out); obtain ⟨c51, c52, c53, c54, c55, c56, c57, c58, c59, c60, c61, c62⟩ := FC.out w2 g K2.out; have hsz2 := L2.out.size; have hgr : g ≠ r := (by omega); have hwr : w.heap.size ≤ r := (by have := L1.out.size; omega))
      | ((with_reducible show wpList _ _ _ (⟨some 8, _, _, _, _, _⟩ :: _) _ _); refine wpList_build_blk rfl _ _ rfl C0 (by refine Eq.trans ?_ BF; kernel_rfl) ?_)
      | ((with_reducible show wpList _ _ _ (⟨some 5, _, _, _, _, _⟩ :: _) _ _); refine wpList_alloc_blk rfl _ rfl zs _ ZH ?_; intro h w3 hg5 hg6 X3' L03; have K3 := Lib.hid (K2.out.over L03.out); have R3 := Lib.hid (R2.out.over L03.out); have L3 := Lib.hid (step L2.out L03.out); have hgh : g ≠ h := (by have := K2.out.lt; omega); have hrh : r ≠ h := (by have := R2.out.lt; omega); have hwh : w.heap.size ≤ h := (by omega))
      | ((with_reducible show wpList _ _ _ (⟨none, .store _ (.tmp 5) _, _, _, _, _⟩ :: _) _ _); refine wpList_store_blk rfl _ (.tmp 5) (.tmp 8) rfl h rfl _ zs C0 rfl X3' 69 size_ask HZ HF0 HF1 ?_; intro w4 X0 O4 hg7; have K4 := Lib.hid (K3.out.only O4.out hgh); have R4 := Lib.hid (R3.out.only O4.out hrh); have L4 := Lib.hid (below_only L3.out O4.out hwh); clear c51 c52 c53 c54 c55 c56 c57 c58 c59 c60 c61 c62; obtain ⟨c51, c52, c53, c54, c55, c56, c57, c58, c59, c60, c61, c62⟩ := FC.out w4 g K4.out)
      | fail)
    refine wp_region_held (S := fun w' => Blk w' g 32 cs) (by kernel_rfl) ?_
    change wpAnyH _ _ _ _ _ _ _ _ w4.drew
    have S0_0 : Hid (Blk w4.drew g 32 cs) := K4.out.drew
    have X0d := Lib.hid (Blk.drew X0.out)
    have R0d := Lib.hid (Blk.drew R4.out)
    have L0d := Lib.hid (L4.out.drew)
    refine wpAnyH_take (i := 0) (v := _) rfl (by kernel_rfl) (by kernel_rfl) (by kernel_rfl) (fun _ _ _ h => h) (yieldsIf_fld (by kernel_rfl) _ (.tmp 3) 13 rfl (.pointer (some ⟨g, 0, none⟩)) (.pointer (some ⟨g, 59, none⟩)) (by kernel_rfl) (fld_isZeroAsk_13 g)) S0_0.out ?_
    refine wpAnyH_take (i := 1) (v := _) rfl (by kernel_rfl) (by kernel_rfl) (by kernel_rfl) (fun _ _ _ h => h) (yieldsIf_load_one (by kernel_rfl) _ (.tmp 35) rfl g 59 (by kernel_rfl) (.int .u64 a.at_) (fun w h => (FC.out w g h).2.2.2.2.2.2.2.2.1) _ Tryd.underlying28 rfl) S0_0.out ?_
    refine wpAnyH_take (i := 2) (v := _) rfl (by kernel_rfl) (by kernel_rfl) (by kernel_rfl) (fun _ _ _ h => h) (yieldsIf_fld (by kernel_rfl) _ (.tmp 3) 14 rfl (.pointer (some ⟨g, 0, none⟩)) (.pointer (some ⟨g, 60, none⟩)) (by kernel_rfl) (fld_isZeroAsk_14 g)) S0_0.out ?_
    refine wpAnyH_take (i := 3) (v := _) rfl (by kernel_rfl) (by kernel_rfl) (by kernel_rfl) (fun _ _ _ h => h) (yieldsIf_load_one (by kernel_rfl) _ (.tmp 37) rfl g 60 (by kernel_rfl) (.int .u32 a.n) (fun w h => (FC.out w g h).2.2.2.2.2.2.2.2.2.1) _ Tryd.underlying27 rfl) S0_0.out ?_
    refine wpAnyH_take (i := 4) (v := _) rfl (by kernel_rfl) (by kernel_rfl) (by kernel_rfl) (fun _ _ _ h => h) (yieldsIf_fld (by kernel_rfl) _ (.tmp 5) 13 rfl (.pointer (some ⟨h, 0, none⟩)) (.pointer (some ⟨h, 59, none⟩)) (by kernel_rfl) (fld_isZeroAsk_13 h)) S0_0.out ?_
    refine wpAnyH_frame fun fr1 hfr1 => ?_
    have ex1 : fr1.eval (.tmp 39) = .pointer (some ⟨h, 59, none⟩) := by rw [hfr1]; kernel_rfl
    have ey1 : fr1.eval (.tmp 36) = (.int .u64 a.at_) := by rw [hfr1]; kernel_rfl
    refine wpAnyH_one 5 _ (by kernel_rfl) rfl fun K hK => ?_
    refine step_store_fld rfl _ (.tmp 39) (.tmp 36) rfl h 59 ex1 _ C0 (.int .u64 a.at_) ey1 X0d (Lib.hid (by have := HF0.out; omega)) (by kernel_rfl) rfl ?_
    intro x1 XS1 O1 hq1
    obtain ⟨C1, hC1⟩ : ∃ x, x = C0.set 59 (.int .u64 a.at_) := ⟨_, rfl⟩
    have HC1 := Lib.hid hC1
    have HL1 : Hid (C1.length = 69) := by show _ = _; rw [hC1, List.length_set]; exact HF0.out
    rw [← hC1] at XS1
    have ST1 := Lib.hid (Blk.only S0_0.out O1.out hgh)
    have RT1 := Lib.hid (Blk.only R0d.out O1.out hrh)
    have LT1 := Lib.hid (below_only L0d.out O1.out hwh)
    refine hK _ _ ST1.out ?_
    clear hK K ex1 ey1 hC1
    change wpAnyH _ _ _ _ _ _ _ fr1 x1
    subst hfr1
    refine wpAnyH_take (i := 6) (v := _) rfl (by kernel_rfl) (by kernel_rfl) (by kernel_rfl) (fun _ _ _ h => h) (yieldsIf_fld (by kernel_rfl) _ (.tmp 5) 14 rfl (.pointer (some ⟨h, 0, none⟩)) (.pointer (some ⟨h, 60, none⟩)) (by kernel_rfl) (fld_isZeroAsk_14 h)) ST1.out ?_
    refine wpAnyH_frame fun fr2 hfr2 => ?_
    have ex2 : fr2.eval (.tmp 40) = .pointer (some ⟨h, 60, none⟩) := by rw [hfr2]; kernel_rfl
    have ey2 : fr2.eval (.tmp 38) = (.int .u32 a.n) := by rw [hfr2]; kernel_rfl
    refine wpAnyH_one 7 _ (by kernel_rfl) rfl fun K hK => ?_
    refine step_store_fld rfl _ (.tmp 40) (.tmp 38) rfl h 60 ex2 _ C1 (.int .u32 a.n) ey2 XS1 (Lib.hid (by have := HL1.out; omega)) (by kernel_rfl) rfl ?_
    intro x2 XS2 O2 hq2
    obtain ⟨C2, hC2⟩ : ∃ x, x = C1.set 60 (.int .u32 a.n) := ⟨_, rfl⟩
    have HC2 := Lib.hid hC2
    have HL2 : Hid (C2.length = 69) := by show _ = _; rw [hC2, List.length_set]; exact HL1.out
    rw [← hC2] at XS2
    have ST2 := Lib.hid (Blk.only ST1.out O2.out hgh)
    have RT2 := Lib.hid (Blk.only RT1.out O2.out hrh)
    have LT2 := Lib.hid (below_only LT1.out O2.out hwh)
    refine hK _ _ ST2.out ?_
    clear hK K ex2 ey2 hC2
    change wpAnyH _ _ _ _ _ _ _ fr2 x2
    subst hfr2
    refine wpAnyH_done (by kernel_rfl) ?_ _
    go_simp
    have Kr1 := Lib.hid ST2.out
    have H1C : Hid (∀ v ∈ C2, v.oneCell' = true) := by
      show _
      have hh : C2 = acells (.slice none 0 0) (.slice none 0 0) (.slice none 0 0) { zeroAsk with file := a.file, at_ := a.at_, n := a.n } := by
        rw [HC2.out, HC1.out, HC0.out]
        rfl
      rw [hh]
      exact acells_one rfl rfl rfl
    go_wp2_with (first
      | ((with_reducible show wpList _ _ _ (⟨some 54, _, _, _, _, _⟩ :: _) _ _); refine wpList_load_blk rfl _ (.tmp 5) rfl h rfl _ C2 XS2 69 _ Tryd.underlying32 rfl size_ask HL2 ?_)
      | ((with_reducible show wpList _ _ _ (⟨none, .store _ (.tmp 4) _, _, _, _, _⟩ :: _) _ _); refine wpList_store_blk rfl _ (.tmp 4) (.tmp 54) rfl r rfl _ zs C2 rfl RT2 69 size_ask HZ HL2 H1C ?_; intro w9 K9 O9 hg9)
      | fail)
    have HEQ : C2 = acells (.slice none 0 0) (.slice none 0 0) (.slice none 0 0) (wantF 8 a) := by
      rw [HC2.out, HC1.out, HC0.out]
      rfl
    have LF : Below w.heap.size w w9 := below_only LT2.out O9.out hwr
    refine bodyPost_ret (v := .agg C2.toArray) ?_ rfl ⟨_, rfl, ⟨none, 0, 0, none, 0, 0, none, 0, 0, HEQ, HoldsF.nil _ _ _, Holds.nil _ _, HoldsS.nil _ _ _ _⟩, LF⟩
    exact results_cell_one rfl _ _ r _ _ (0, 0) _ rfl K9.out Tryd.underlying32 rfl (by rw [size_ask]; have := HL2.out; simp [this])
  · subst h9
    go_enter Tryd.func38, Tryd.ntmps38
    go_upto_region 9 with (first
      | ((with_reducible show wpList _ _ _ (⟨some 3, _, _, _, _, _⟩ :: _) _ _); refine wpList_box_blk rfl _ (.tmp 1) rfl cs rfl ?_; intro g w1 hg1 hg2 K1 L1)
      | ((with_reducible show wpList _ _ _ (⟨some 4, _, _, _, _, _⟩ :: _) _ _); refine wpList_alloc_blk rfl _ rfl zs _ ZH ?_; intro r w2 hg3 hg4 R2 L02; have K2 := Lib.hid (K1.out.over L02.out); have L2 := Lib.hid (step L1.out L02.out); obtain ⟨c51, c52, c53, c54, c55, c56, c57, c58, c59, c60, c61, c62⟩ := FC.out w2 g K2.out; have hsz2 := L2.out.size; have hgr : g ≠ r := (by omega); have hwr : w.heap.size ≤ r := (by have := L1.out.size; omega))
      | ((with_reducible show wpList _ _ _ (⟨some 8, _, _, _, _, _⟩ :: _) _ _); refine wpList_build_blk rfl _ _ rfl C0 (by refine Eq.trans ?_ BF; kernel_rfl) ?_)
      | ((with_reducible show wpList _ _ _ (⟨some 5, _, _, _, _, _⟩ :: _) _ _); refine wpList_alloc_blk rfl _ rfl zs _ ZH ?_; intro h w3 hg5 hg6 X3' L03; have K3 := Lib.hid (K2.out.over L03.out); have R3 := Lib.hid (R2.out.over L03.out); have L3 := Lib.hid (step L2.out L03.out); have hgh : g ≠ h := (by have := K2.out.lt; omega); have hrh : r ≠ h := (by have := R2.out.lt; omega); have hwh : w.heap.size ≤ h := (by omega))
      | ((with_reducible show wpList _ _ _ (⟨none, .store _ (.tmp 5) _, _, _, _, _⟩ :: _) _ _); refine wpList_store_blk rfl _ (.tmp 5) (.tmp 8) rfl h rfl _ zs C0 rfl X3' 69 size_ask HZ HF0 HF1 ?_; intro w4 X0 O4 hg7; have K4 := Lib.hid (K3.out.only O4.out hgh); have R4 := Lib.hid (R3.out.only O4.out hrh); have L4 := Lib.hid (below_only L3.out O4.out hwh); clear c51 c52 c53 c54 c55 c56 c57 c58 c59 c60 c61 c62; obtain ⟨c51, c52, c53, c54, c55, c56, c57, c58, c59, c60, c61, c62⟩ := FC.out w4 g K4.out)
      | fail)
    refine wp_region_held (S := fun w' => Blk w' g 32 cs) (by kernel_rfl) ?_
    change wpAnyH _ _ _ _ _ _ _ _ w4.drew
    have S0_0 : Hid (Blk w4.drew g 32 cs) := K4.out.drew
    have X0d := Lib.hid (Blk.drew X0.out)
    have R0d := Lib.hid (Blk.drew R4.out)
    have L0d := Lib.hid (L4.out.drew)
    refine wpAnyH_take (i := 0) (v := _) rfl (by kernel_rfl) (by kernel_rfl) (by kernel_rfl) (fun _ _ _ h => h) (yieldsIf_fld (by kernel_rfl) _ (.tmp 3) 13 rfl (.pointer (some ⟨g, 0, none⟩)) (.pointer (some ⟨g, 59, none⟩)) (by kernel_rfl) (fld_isZeroAsk_13 g)) S0_0.out ?_
    refine wpAnyH_take (i := 1) (v := _) rfl (by kernel_rfl) (by kernel_rfl) (by kernel_rfl) (fun _ _ _ h => h) (yieldsIf_load_one (by kernel_rfl) _ (.tmp 43) rfl g 59 (by kernel_rfl) (.int .u64 a.at_) (fun w h => (FC.out w g h).2.2.2.2.2.2.2.2.1) _ Tryd.underlying28 rfl) S0_0.out ?_
    refine wpAnyH_take (i := 2) (v := _) rfl (by kernel_rfl) (by kernel_rfl) (by kernel_rfl) (fun _ _ _ h => h) (yieldsIf_fld (by kernel_rfl) _ (.tmp 3) 15 rfl (.pointer (some ⟨g, 0, none⟩)) (.pointer (some ⟨g, 61, none⟩)) (by kernel_rfl) (fld_isZeroAsk_15 g)) S0_0.out ?_
    refine wpAnyH_take (i := 3) (v := _) rfl (by kernel_rfl) (by kernel_rfl) (by kernel_rfl) (fun _ _ _ h => h) (yieldsIf_load_one (by kernel_rfl) _ (.tmp 45) rfl g 61 (by kernel_rfl) (.slice X1 X2 X3) (fun w h => (FC.out w g h).2.2.2.2.2.2.2.2.2.2.1) _ Tryd.underlying29 rfl) S0_0.out ?_
    refine wpAnyH_take (i := 4) (v := _) rfl (by kernel_rfl) (by kernel_rfl) (by kernel_rfl) (fun _ _ _ h => h) (yieldsIf_fld (by kernel_rfl) _ (.tmp 5) 13 rfl (.pointer (some ⟨h, 0, none⟩)) (.pointer (some ⟨h, 59, none⟩)) (by kernel_rfl) (fld_isZeroAsk_13 h)) S0_0.out ?_
    refine wpAnyH_frame fun fr1 hfr1 => ?_
    have ex1 : fr1.eval (.tmp 47) = .pointer (some ⟨h, 59, none⟩) := by rw [hfr1]; kernel_rfl
    have ey1 : fr1.eval (.tmp 44) = (.int .u64 a.at_) := by rw [hfr1]; kernel_rfl
    refine wpAnyH_one 5 _ (by kernel_rfl) rfl fun K hK => ?_
    refine step_store_fld rfl _ (.tmp 47) (.tmp 44) rfl h 59 ex1 _ C0 (.int .u64 a.at_) ey1 X0d (Lib.hid (by have := HF0.out; omega)) (by kernel_rfl) rfl ?_
    intro x1 XS1 O1 hq1
    obtain ⟨C1, hC1⟩ : ∃ x, x = C0.set 59 (.int .u64 a.at_) := ⟨_, rfl⟩
    have HC1 := Lib.hid hC1
    have HL1 : Hid (C1.length = 69) := by show _ = _; rw [hC1, List.length_set]; exact HF0.out
    rw [← hC1] at XS1
    have ST1 := Lib.hid (Blk.only S0_0.out O1.out hgh)
    have RT1 := Lib.hid (Blk.only R0d.out O1.out hrh)
    have LT1 := Lib.hid (below_only L0d.out O1.out hwh)
    refine hK _ _ ST1.out ?_
    clear hK K ex1 ey1 hC1
    change wpAnyH _ _ _ _ _ _ _ fr1 x1
    subst hfr1
    refine wpAnyH_take (i := 6) (v := _) rfl (by kernel_rfl) (by kernel_rfl) (by kernel_rfl) (fun _ _ _ h => h) (yieldsIf_fld (by kernel_rfl) _ (.tmp 5) 15 rfl (.pointer (some ⟨h, 0, none⟩)) (.pointer (some ⟨h, 61, none⟩)) (by kernel_rfl) (fld_isZeroAsk_15 h)) ST1.out ?_
    refine wpAnyH_frame fun fr2 hfr2 => ?_
    have ex2 : fr2.eval (.tmp 48) = .pointer (some ⟨h, 61, none⟩) := by rw [hfr2]; kernel_rfl
    have ey2 : fr2.eval (.tmp 46) = (.slice X1 X2 X3) := by rw [hfr2]; kernel_rfl
    refine wpAnyH_one 7 _ (by kernel_rfl) rfl fun K hK => ?_
    refine step_store_fld rfl _ (.tmp 48) (.tmp 46) rfl h 61 ex2 _ C1 (.slice X1 X2 X3) ey2 XS1 (Lib.hid (by have := HL1.out; omega)) (by kernel_rfl) rfl ?_
    intro x2 XS2 O2 hq2
    obtain ⟨C2, hC2⟩ : ∃ x, x = C1.set 61 (.slice X1 X2 X3) := ⟨_, rfl⟩
    have HC2 := Lib.hid hC2
    have HL2 : Hid (C2.length = 69) := by show _ = _; rw [hC2, List.length_set]; exact HL1.out
    rw [← hC2] at XS2
    have ST2 := Lib.hid (Blk.only ST1.out O2.out hgh)
    have RT2 := Lib.hid (Blk.only RT1.out O2.out hrh)
    have LT2 := Lib.hid (below_only LT1.out O2.out hwh)
    refine hK _ _ ST2.out ?_
    clear hK K ex2 ey2 hC2
    change wpAnyH _ _ _ _ _ _ _ fr2 x2
    subst hfr2
    refine wpAnyH_done (by kernel_rfl) ?_ _
    go_simp
    have Kr1 := Lib.hid ST2.out
    have H1C : Hid (∀ v ∈ C2, v.oneCell' = true) := by
      show _
      have hh : C2 = acells (.slice none 0 0) (.slice X1 X2 X3) (.slice none 0 0) { zeroAsk with file := a.file, at_ := a.at_, data := a.data } := by
        rw [HC2.out, HC1.out, HC0.out]
        rfl
      rw [hh]
      exact acells_one rfl rfl rfl
    go_wp2_with (first
      | ((with_reducible show wpList _ _ _ (⟨some 54, _, _, _, _, _⟩ :: _) _ _); refine wpList_load_blk rfl _ (.tmp 5) rfl h rfl _ C2 XS2 69 _ Tryd.underlying32 rfl size_ask HL2 ?_)
      | ((with_reducible show wpList _ _ _ (⟨none, .store _ (.tmp 4) _, _, _, _, _⟩ :: _) _ _); refine wpList_store_blk rfl _ (.tmp 4) (.tmp 54) rfl r rfl _ zs C2 rfl RT2 69 size_ask HZ HL2 H1C ?_; intro w9 K9 O9 hg9)
      | fail)
    have HEQ : C2 = acells (.slice none 0 0) (.slice X1 X2 X3) (.slice none 0 0) (wantF 9 a) := by
      rw [HC2.out, HC1.out, HC0.out]
      rfl
    have LF : Below w.heap.size w w9 := below_only LT2.out O9.out hwr
    refine bodyPost_ret (v := .agg C2.toArray) ?_ rfl ⟨_, rfl, ⟨none, 0, 0, X1, X2, X3, none, 0, 0, HEQ, HoldsF.nil _ _ _, HX.out.over LF, HoldsS.nil _ _ _ _⟩, LF⟩
    exact results_cell_one rfl _ _ r _ _ (0, 0) _ rfl K9.out Tryd.underlying32 rfl (by rw [size_ask]; have := HL2.out; simp [this])
  · subst h10
    go_enter Tryd.func38, Tryd.ntmps38
    go_wp2_with (first
      | ((with_reducible show wpList _ _ _ (⟨some 3, _, _, _, _, _⟩ :: _) _ _); refine wpList_box_blk rfl _ (.tmp 1) rfl cs rfl ?_; intro g w1 hg1 hg2 K1 L1)
      | ((with_reducible show wpList _ _ _ (⟨some 4, _, _, _, _, _⟩ :: _) _ _); refine wpList_alloc_blk rfl _ rfl zs _ ZH ?_; intro r w2 hg3 hg4 R2 L02; have K2 := Lib.hid (K1.out.over L02.out); have L2 := Lib.hid (step L1.out L02.out); obtain ⟨c51, c52, c53, c54, c55, c56, c57, c58, c59, c60, c61, c62⟩ := FC.out w2 g K2.out; have hsz2 := L2.out.size; have hgr : g ≠ r := (by omega); have hwr : w.heap.size ≤ r := (by have := L1.out.size; omega))
      | ((with_reducible show wpList _ _ _ (⟨some 8, _, _, _, _, _⟩ :: _) _ _); refine wpList_build_blk rfl _ _ rfl C0 (by refine Eq.trans ?_ BF; kernel_rfl) ?_)
      | ((with_reducible show wpList _ _ _ (⟨some 5, _, _, _, _, _⟩ :: _) _ _); refine wpList_alloc_blk rfl _ rfl zs _ ZH ?_; intro h w3 hg5 hg6 X3' L03; have K3 := Lib.hid (K2.out.over L03.out); have R3 := Lib.hid (R2.out.over L03.out); have L3 := Lib.hid (step L2.out L03.out); have hgh : g ≠ h := (by have := K2.out.lt; omega); have hrh : r ≠ h := (by have := R2.out.lt; omega); have hwh : w.heap.size ≤ h := (by omega))
      | ((with_reducible show wpList _ _ _ (⟨none, .store _ (.tmp 5) _, _, _, _, _⟩ :: _) _ _); refine wpList_store_blk rfl _ (.tmp 5) (.tmp 8) rfl h rfl _ zs C0 rfl X3' 69 size_ask HZ HF0 HF1 ?_; intro w4 X0 O4 hg7; have K4 := Lib.hid (K3.out.only O4.out hgh); have R4 := Lib.hid (R3.out.only O4.out hrh); have L4 := Lib.hid (below_only L3.out O4.out hwh); clear c51 c52 c53 c54 c55 c56 c57 c58 c59 c60 c61 c62; obtain ⟨c51, c52, c53, c54, c55, c56, c57, c58, c59, c60, c61, c62⟩ := FC.out w4 g K4.out)
      | ((with_reducible show wpList _ _ _ (⟨none, .store _ (.tmp 53) _, _, _, _, _⟩ :: _) _ _); refine wpList_store_fld rfl _ (.tmp 53) (.tmp 52) rfl h 62 rfl _ C0 (.slice M1 M2 M3) rfl X0 (Lib.hid (by have := HF0.out; omega)) (by kernel_rfl) rfl ?_; intro w5 X1' O5 hq5; obtain ⟨C1, hC1⟩ : ∃ x, x = C0.set 62 (.slice M1 M2 M3) := ⟨_, rfl⟩; have HC1 := Lib.hid hC1; have HL1 : Hid (C1.length = 69) := (by rw [hC1, List.length_set]; exact HF0.out); have H11 : Hid (∀ v ∈ C1, v.oneCell' = true) := (by rw [hC1, HC0.out]; exact acells_one (vl := .slice M1 M2 M3) (a := { zeroAsk with file := a.file, locks := a.locks }) rfl rfl rfl); rw [← hC1] at X1'; have R5 := Lib.hid (R4.out.only O5.out hrh); have L5 := Lib.hid (below_only L4.out O5.out hwh); clear hC1)
      | ((with_reducible show wpList _ _ _ (⟨some 54, _, _, _, _, _⟩ :: _) _ _); refine wpList_load_blk rfl _ (.tmp 5) rfl h rfl _ C1 X1' 69 _ Tryd.underlying32 rfl size_ask HL1 ?_)
      | ((with_reducible show wpList _ _ _ (⟨none, .store _ (.tmp 4) _, _, _, _, _⟩ :: _) _ _); refine wpList_store_blk rfl _ (.tmp 4) (.tmp 54) rfl r rfl _ zs C1 rfl R5 69 size_ask HZ HL1 H11 ?_; intro w9 K9 O9 hg9)
      | fail)
    have HEQ : C1 = acells (.slice none 0 0) (.slice none 0 0) (.slice M1 M2 M3) (wantF 10 a) := by
      rw [HC1.out, HC0.out]
      rfl
    have LF : Below w.heap.size w w9 := below_only L5.out O9.out hwr
    refine bodyPost_ret (v := .agg C1.toArray) ?_ rfl ⟨_, rfl, ⟨none, 0, 0, none, 0, 0, M1, M2, M3, HEQ, HoldsF.nil _ _ _, Holds.nil _ _, HM.out.over LF⟩, LF⟩
    exact results_cell_one rfl _ _ r _ _ (0, 0) _ rfl K9.out Tryd.underlying32 rfl (by rw [size_ask]; have := HL1.out; simp [this])
end Go.Proofs.YtdlcjobahdmapaaDoor

namespace Go.Proofs.YtdlcjobahdmapaaDoor
set_option linter.all false
open Go.RowKit
set_option linter.unusedVariables false
set_option maxRecDepth 100000
def RFPutPost (w : World) (c : Int) (a : AskV) (e : Ending) (w' : World) : Prop := ∃ v, e = .returned (.tuple #[v, .int .i64 (fpErr c a)]) ∧ Own w' w.heap.size v (fpOf c a) ∧ Below w.heap.size w w'
set_option maxHeartbeats 4000000 in
theorem RFPutAsk_any (w : World) (c : Int) (cs : List Value) (a : AskV) (hc : 0 ≤ c ∧ c ≤ 65535) (ka : a.ok) (ha : AskIs w w.heap.size cs a) (hlen : a.dial.length ≤ 281474976710656 ∧ a.data.length ≤ 281474976710656 ∧ a.locks.length ≤ 281474976710656) (hnm : a.name.size ≤ 4398046511104) :
    Calls Tryd.prog 13 #[.int .u16 c, .agg cs.toArray] w (RFPutPost w c a) := by
  have HL := Lib.hid (ha.len ka)
  have HA := Lib.hid ha
  have CK : Hid (∀ w : World, Calls Tryd.prog 37 #[.int .u16 c] w fun e w' => e = .returned (.bool (knownF c)) ∧ w = w') := fun w => RKnownF_any w c hc
  have HE : Hid (∀ er, fpErr c a = er → er ≠ 0 → ∀ e w', e = .returned (.tuple #[.slice none 0 0, .int .i64 er]) → Below w.heap.size w w' → RFPutPost w c a e w') := by
    intro er h1 h2 e w' he hb
    unfold RFPutPost fpOf
    rw [h1, if_neg h2]
    exact ⟨_, he, Own.nil _ _, hb⟩
  by_cases hk : knownF c = true
  rotate_left
  · have hkf : knownF c = false := by simpa using hk
    have HQ := Lib.hid (HE.out 2 (by unfold fpErr nameF; rw [hkf]; rfl) (by decide))
    rw [hkf] at CK
    clear hk hkf HE ha ka HA hlen
    go_enter Tryd.func13, Tryd.ntmps13
    go_upto_region 1 with (first
      | ((with_reducible show wpList _ _ _ (⟨some 3, _, _, _, _, _⟩ :: _) _ _); refine wpList_box_blk rfl _ (.tmp 1) rfl cs rfl ?_; intro g w1 hg1 hg2 K1 L1)
      | fail)
    refine wp_region_held (S := fun w' => Blk w' g 32 cs) (by kernel_rfl) ?_
    change wpAnyH _ _ _ _ _ _ _ _ w1.drew
    have S0 : Hid (Blk w1.drew g 32 cs) := K1.out.drew
    have b0 : Hid (Below w.heap.size w w1.drew) := L1.out.drew
    refine wpAnyH_take (i := 0) (v := _) rfl (by kernel_rfl) (by kernel_rfl) (by kernel_rfl) (fun _ _ _ h => h) (yieldsIf_move (by kernel_rfl) (.tmp 0) rfl (.int .u16 c) (by kernel_rfl)) S0.out ?_
    refine wpAnyH_one 1 _ (by kernel_rfl) rfl fun K hK => ?_
    go_simp
    refine (CK.out _).mono ?_
    rintro e v1 ⟨rfl, rfl⟩
    refine hK _ _ S0.out ?_
    clear hK K
    refine wpAnyH_take (i := 2) (v := (.bool true)) rfl (by kernel_rfl) (by kernel_rfl) (by kernel_rfl) (fun _ _ _ h => h) (.inl ⟨by kernel_rfl, fun w _ => by go_simp⟩) S0.out ?_
    refine wpAnyH_take (i := 3) (v := _) rfl (by kernel_rfl) (by kernel_rfl) (by kernel_rfl) (fun _ _ _ h => h) (yieldsIf_move (by kernel_rfl) (.tmp 13) rfl (.bool true) (by kernel_rfl)) S0.out ?_
    refine wpAnyH_take (i := 4) (v := undef) rfl (by kernel_rfl) (by kernel_rfl) (by kernel_rfl) (fun _ _ _ h => h) (.inr ⟨by kernel_rfl, rfl⟩) S0.out ?_
    refine wpAnyH_take (i := 5) (v := undef) rfl (by kernel_rfl) (by kernel_rfl) (by kernel_rfl) (fun _ _ _ h => h) (.inr ⟨by kernel_rfl, rfl⟩) S0.out ?_
    refine wpAnyH_take (i := 7) (v := undef) rfl (by kernel_rfl) (by kernel_rfl) (by kernel_rfl) (fun _ _ _ h => h) (.inr ⟨by kernel_rfl, rfl⟩) S0.out ?_
    refine wpAnyH_take (i := 6) (v := undef) rfl (by kernel_rfl) (by kernel_rfl) (by kernel_rfl) (fun _ _ _ h => h) (.inr ⟨by kernel_rfl, rfl⟩) S0.out ?_
    refine wpAnyH_take (i := 8) (v := undef) rfl (by kernel_rfl) (by kernel_rfl) (by kernel_rfl) (fun _ _ _ h => h) (.inr ⟨by kernel_rfl, rfl⟩) S0.out ?_
    refine wpAnyH_take (i := 9) (v := undef) rfl (by kernel_rfl) (by kernel_rfl) (by kernel_rfl) (fun _ _ _ h => h) (.inr ⟨by kernel_rfl, rfl⟩) S0.out ?_
    refine wpAnyH_take (i := 10) (v := (.bool true)) rfl (by kernel_rfl) (by kernel_rfl) (by kernel_rfl) (fun _ _ _ h => h) (.inl ⟨by kernel_rfl, fun w _ => by go_simp⟩) S0.out ?_
    refine wpAnyH_done (by kernel_rfl) ?_ _
    go_simp
    go_wp2
    go_ret2
    exact HQ.out _ _ rfl b0.out
  rw [hk] at CK
  have CA : Hid (∀ w', Below w.heap.size w w' → Calls Tryd.prog 38 #[.int .u16 c, .agg cs.toArray] w' fun e w2 => ∃ ds : List Value, e = .returned (.agg ds.toArray) ∧ AskIs w2 w2.heap.size ds (wantF c a) ∧ Below w'.heap.size w' w2) := fun w' hb => asked_any w' c cs a hc hk ka (HA.out.over hb)
  have hwl : (wantF c a).dial.length ≤ 281474976710656 ∧ (wantF c a).data.length ≤ 281474976710656 ∧ (wantF c a).locks.length ≤ 281474976710656 := by
    unfold wantF
    split
    · exact ⟨Nat.zero_le _, Nat.zero_le _, Nat.zero_le _⟩
    · split
      · exact ⟨Nat.zero_le _, Nat.zero_le _, Nat.zero_le _⟩
      · split
        · exact ⟨Nat.zero_le _, hlen.2.1, Nat.zero_le _⟩
        · split
          · exact ⟨Nat.zero_le _, Nat.zero_le _, hlen.2.2⟩
          · exact ⟨Nat.zero_le _, Nat.zero_le _, Nat.zero_le _⟩
  have CS : Hid (∀ (w' : World) (ds : List Value), AskIs w' w'.heap.size ds (wantF c a) → Below w.heap.size w w' → Calls Tryd.prog 15 #[.agg ds.toArray, .agg cs.toArray] w' fun e w2 => e = .returned (.bool (decide (wantF c a = a))) ∧ Below w'.heap.size w' w2) := fun w' ds hds hb => Asks_any w' ds cs _ a (wantF_ok ka) ka hds (HA.out.over hb) hwl hlen
  by_cases hw : wantF c a = a
  rotate_left
  · have hnb : besideF c a ≠ zeroAsk := fun h => hw ((besideF_want c a).1 h)
    have HQ := Lib.hid (HE.out 2 (by unfold fpErr nameF; rw [hk, decide_eq_false hnb]; rfl) (by decide))
    rw [decide_eq_false hw] at CS
    clear hk hw hnb HE ha ka HA hlen hwl
    go_enter Tryd.func13, Tryd.ntmps13
    go_upto_region 1 with (first
      | ((with_reducible show wpList _ _ _ (⟨some 3, _, _, _, _, _⟩ :: _) _ _); refine wpList_box_blk rfl _ (.tmp 1) rfl cs rfl ?_; intro g w1 hg1 hg2 K1 L1)
      | fail)
    refine wp_region_held (S := fun w' => Blk w' g 32 cs) (by kernel_rfl) ?_
    change wpAnyH _ _ _ _ _ _ _ _ w1.drew
    have S0 : Hid (Blk w1.drew g 32 cs) := K1.out.drew
    have b0 : Hid (Below w.heap.size w w1.drew) := L1.out.drew
    refine wpAnyH_take (i := 0) (v := _) rfl (by kernel_rfl) (by kernel_rfl) (by kernel_rfl) (fun _ _ _ h => h) (yieldsIf_move (by kernel_rfl) (.tmp 0) rfl (.int .u16 c) (by kernel_rfl)) S0.out ?_
    refine wpAnyH_one 1 _ (by kernel_rfl) rfl fun K hK => ?_
    go_simp
    refine (CK.out _).mono ?_
    rintro e v1 ⟨rfl, rfl⟩
    refine hK _ _ S0.out ?_
    clear hK K
    refine wpAnyH_take (i := 2) (v := (.bool false)) rfl (by kernel_rfl) (by kernel_rfl) (by kernel_rfl) (fun _ _ _ h => h) (.inl ⟨by kernel_rfl, fun w _ => by go_simp⟩) S0.out ?_
    refine wpAnyH_take (i := 3) (v := _) rfl (by kernel_rfl) (by kernel_rfl) (by kernel_rfl) (fun _ _ _ h => h) (yieldsIf_move (by kernel_rfl) (.tmp 13) rfl (.bool false) (by kernel_rfl)) S0.out ?_
    refine wpAnyH_take (i := 4) (v := _) rfl (by kernel_rfl) (by kernel_rfl) (by kernel_rfl) (fun _ _ _ h => h) (yieldsIf_move (by kernel_rfl) (.tmp 0) rfl (.int .u16 c) (by kernel_rfl)) S0.out ?_
    refine wpAnyH_take (i := 5) (v := _) rfl (by kernel_rfl) (by kernel_rfl) (by kernel_rfl) (fun _ _ _ h => h) (yieldsIf_load_blk (by kernel_rfl) _ (.tmp 3) rfl g (by kernel_rfl) _ cs (fun w h => h) 69 _ Tryd.underlying32 rfl size_ask HL) S0.out ?_
    refine wpAnyH_take (i := 7) (v := _) rfl (by kernel_rfl) (by kernel_rfl) (by kernel_rfl) (fun _ _ _ h => h) (yieldsIf_load_blk (by kernel_rfl) _ (.tmp 3) rfl g (by kernel_rfl) _ cs (fun w h => h) 69 _ Tryd.underlying32 rfl size_ask HL) S0.out ?_
    refine wpAnyH_one 6 _ (by kernel_rfl) rfl fun K hK => ?_
    go_simp
    refine (CA.out _ b0.out).mono ?_
    rintro e v1 ⟨ds, rfl, hds, L01⟩
    have S1 := Lib.hid (S0.out.over L01)
    have b1 := Lib.hid (step b0.out L01)
    have HDS := Lib.hid hds
    refine hK _ _ S1.out ?_
    clear hK K hds L01
    refine wpAnyH_one 8 _ (by kernel_rfl) rfl fun K hK => ?_
    go_simp
    refine (CS.out _ ds HDS.out b1.out).mono ?_
    rintro e w3 ⟨rfl, L02⟩
    have S2 := Lib.hid (S1.out.over L02)
    have M3 := Lib.hid (step b1.out L02)
    refine hK _ _ S2.out ?_
    clear hK K L02 HDS S1 b1
    refine wpAnyH_take (i := 9) (v := (.bool true)) rfl (by kernel_rfl) (by kernel_rfl) (by kernel_rfl) (fun _ _ _ h => h) (.inl ⟨by kernel_rfl, fun w _ => by go_simp⟩) S2.out ?_
    refine wpAnyH_take (i := 10) (v := (.bool true)) rfl (by kernel_rfl) (by kernel_rfl) (by kernel_rfl) (fun _ _ _ h => h) (.inl ⟨by kernel_rfl, fun w _ => by go_simp⟩) S2.out ?_
    refine wpAnyH_done (by kernel_rfl) ?_ _
    go_simp
    have K3 := Lib.hid S2.out
    clear S0 b0 K1 L1 S2
    go_wp2
    go_ret2
    exact HQ.out _ _ rfl M3.out
  rw [decide_eq_true hw] at CS
  obtain ⟨A1, A2, A3, X1, X2, X3, M1, M2, M3', hcs, hA, hX, hM⟩ := ha
  have FL : Hid (∀ (w : World) (g : Nat), Blk w g 32 cs → w.cell? ⟨g, 61, none⟩ = some (.slice X1 X2 X3) ∧ w.cell? ⟨g, 62, none⟩ = some (.slice M1 M2 M3')) := fun w g h => by
    rw [hcs] at h
    exact ⟨h.at (acells_get ka 12), h.at (acells_get ka 13)⟩
  have hxl : a.data.length = X2 := hX.len
  have hml : a.locks.length = M2 := hM.len
  have hmr : M2 ≤ 281474976710656 := by rw [← hml]; exact hlen.2.2
  have hxr := hX.room
  have hmf := hM.fit
  have hbz : besideF c a = zeroAsk := (besideF_want c a).2 hw
  have HX := Lib.hid hX
  have HM := Lib.hid hM
  have HST : Hid (∀ (j : Nat) (x : LockV), a.locks[j]? = some x → shut (a.locks.take j) = true → x.op = 0 → shut (a.locks.take (j + 1)) = true) := fun j x hx h1 h2 => by
    rw [List.take_add_one, hx, Option.toList_some]
    unfold shut at h1 ⊢
    rw [List.all_append, h1]
    simp [h2]
  have HGET : Hid (∀ j, j < M2 → ∃ x, a.locks[j]? = some x) := fun j hj => ⟨_, List.getElem?_eq_getElem (by omega)⟩
  have HCELL : Hid (∀ (wr : World), Below w.heap.size w wr → ∀ (j : Nat) (x : LockV), j < M2 → a.locks[j]? = some x → ∃ b off, M1 = some ⟨b, off, none⟩ ∧ wr.cell? ⟨b, off + j * 4, none⟩ = some (.int .i64 x.op) ∧ wr.cell? ⟨b, off + j * 4 + 1, none⟩ = some (.int .u64 x.at_) ∧ wr.cell? ⟨b, off + j * 4 + 2, none⟩ = some (.int .u64 x.n) ∧ wr.cell? ⟨b, off + j * 4 + 3, none⟩ = some (.int .u16 x.md)) := fun wr hb j x hj hx => by
    obtain ⟨b, off, h1, _, h3⟩ := (HM.out.below hb).cells (by omega)
    have h4 := h3 j x hx
    exact ⟨b, off, h1, h4 0 _ rfl, h4 1 _ rfl, h4 2 _ rfl, h4 3 _ rfl⟩
  have H0 : Hid (shut (a.locks.take 0) = true) := by show _ = _; rw [List.take_zero]; rfl
  by_cases hs : shut a.locks = true
  rotate_left
  · have hsf : shut a.locks = false := by simpa using hs
    have HQ := Lib.hid (HE.out 2 (by unfold fpErr nameF; rw [hk, decide_eq_true hbz, hsf]; rfl) (by decide))
    have HBAD : Hid (shut (a.locks.take M2) = true → False) := fun h => by rw [← hml, List.take_length] at h; exact hs h
    clear hk hw HE HA hlen hwl hcs hA hX hM hxl hml hbz hs hsf
    go_enter Tryd.func13, Tryd.ntmps13
    go_upto_region 1 with (first
      | ((with_reducible show wpList _ _ _ (⟨some 3, _, _, _, _, _⟩ :: _) _ _); refine wpList_box_blk rfl _ (.tmp 1) rfl cs rfl ?_; intro g w1 hg1 hg2 K1 L1)
      | fail)
    refine wp_region_held (S := fun w' => Blk w' g 32 cs) (by kernel_rfl) ?_
    change wpAnyH _ _ _ _ _ _ _ _ w1.drew
    have S0 : Hid (Blk w1.drew g 32 cs) := K1.out.drew
    have b0 : Hid (Below w.heap.size w w1.drew) := L1.out.drew
    refine wpAnyH_take (i := 0) (v := _) rfl (by kernel_rfl) (by kernel_rfl) (by kernel_rfl) (fun _ _ _ h => h) (yieldsIf_move (by kernel_rfl) (.tmp 0) rfl (.int .u16 c) (by kernel_rfl)) S0.out ?_
    refine wpAnyH_one 1 _ (by kernel_rfl) rfl fun K hK => ?_
    go_simp
    refine (CK.out _).mono ?_
    rintro e v1 ⟨rfl, rfl⟩
    refine hK _ _ S0.out ?_
    clear hK K
    refine wpAnyH_take (i := 2) (v := (.bool false)) rfl (by kernel_rfl) (by kernel_rfl) (by kernel_rfl) (fun _ _ _ h => h) (.inl ⟨by kernel_rfl, fun w _ => by go_simp⟩) S0.out ?_
    refine wpAnyH_take (i := 3) (v := _) rfl (by kernel_rfl) (by kernel_rfl) (by kernel_rfl) (fun _ _ _ h => h) (yieldsIf_move (by kernel_rfl) (.tmp 13) rfl (.bool false) (by kernel_rfl)) S0.out ?_
    refine wpAnyH_take (i := 4) (v := _) rfl (by kernel_rfl) (by kernel_rfl) (by kernel_rfl) (fun _ _ _ h => h) (yieldsIf_move (by kernel_rfl) (.tmp 0) rfl (.int .u16 c) (by kernel_rfl)) S0.out ?_
    refine wpAnyH_take (i := 5) (v := _) rfl (by kernel_rfl) (by kernel_rfl) (by kernel_rfl) (fun _ _ _ h => h) (yieldsIf_load_blk (by kernel_rfl) _ (.tmp 3) rfl g (by kernel_rfl) _ cs (fun w h => h) 69 _ Tryd.underlying32 rfl size_ask HL) S0.out ?_
    refine wpAnyH_take (i := 7) (v := _) rfl (by kernel_rfl) (by kernel_rfl) (by kernel_rfl) (fun _ _ _ h => h) (yieldsIf_load_blk (by kernel_rfl) _ (.tmp 3) rfl g (by kernel_rfl) _ cs (fun w h => h) 69 _ Tryd.underlying32 rfl size_ask HL) S0.out ?_
    refine wpAnyH_one 6 _ (by kernel_rfl) rfl fun K hK => ?_
    go_simp
    refine (CA.out _ b0.out).mono ?_
    rintro e v1 ⟨ds, rfl, hds, L01⟩
    have S1 := Lib.hid (S0.out.over L01)
    have b1 := Lib.hid (step b0.out L01)
    have HDS := Lib.hid hds
    refine hK _ _ S1.out ?_
    clear hK K hds L01
    refine wpAnyH_one 8 _ (by kernel_rfl) rfl fun K hK => ?_
    go_simp
    refine (CS.out _ ds HDS.out b1.out).mono ?_
    rintro e w3 ⟨rfl, L02⟩
    have S2 := Lib.hid (S1.out.over L02)
    have M3 := Lib.hid (step b1.out L02)
    refine hK _ _ S2.out ?_
    clear hK K L02 HDS S1 b1
    refine wpAnyH_take (i := 9) (v := (.bool false)) rfl (by kernel_rfl) (by kernel_rfl) (by kernel_rfl) (fun _ _ _ h => h) (.inl ⟨by kernel_rfl, fun w _ => by go_simp⟩) S2.out ?_
    refine wpAnyH_take (i := 10) (v := (.bool false)) rfl (by kernel_rfl) (by kernel_rfl) (by kernel_rfl) (fun _ _ _ h => h) (.inl ⟨by kernel_rfl, fun w _ => by go_simp⟩) S2.out ?_
    refine wpAnyH_done (by kernel_rfl) ?_ _
    go_simp
    have K3 := Lib.hid S2.out
    clear S0 b0 K1 L1 S2
    have hs3 := M3.out.size
    obtain ⟨c61, c62⟩ := FL.out w3 g K3.out
    go_wp2
    go_loop [6] (fun i => ∃ j : Nat, i = .int .i64 j ∧ j ≤ M2 ∧ Hid (shut (a.locks.take j) = true)) (fun i => M2 - (intOf i).toNat)
    case atStart => exact ⟨0, rfl, Nat.zero_le _, H0.out⟩
    case round =>
      obtain ⟨j, rfl, hj, HS⟩ := hrel
      by_cases hlt : j < M2
      · obtain ⟨x, hx⟩ := HGET.out j hlt
        obtain ⟨b, off, rfl, k0, _⟩ := HCELL.out w3 M3.out j x hlt hx
        have HST' := Lib.hid (HST.out j x hx HS.out)
        clear hx
        by_cases ho : x.op = 0
        · rw [ho] at k0
          have HS2 := Lib.hid (HST'.out ho)
          clear HST' ho
          go_wp2
          go_round
          case rel => exact ⟨j + 1, by simp, by omega, HS2⟩
          case measure => simp [intOf]; omega
        · have hb0 : (x.op != 0) = true := by simpa using ho
          clear HST' ho
          go_wp2
          go_ret2
          exact HQ.out _ _ rfl M3.out
      · obtain rfl : j = M2 := by omega
        exact absurd (HBAD.out HS.out) id
  have HOP : Hid (∀ (j : Nat) (x : LockV), a.locks[j]? = some x → x.op = 0) := fun j x hx => by
    have := List.all_eq_true.1 hs _ (List.mem_of_getElem? hx)
    simpa using this
  have hnf : nameF c a = true := by unfold nameF; rw [hk, decide_eq_true hbz, hs]; rfl
  by_cases hlim : X2 ≤ 32768 ∧ M2 ≤ 16
  rotate_left
  · have HQ := Lib.hid (HE.out 3 (by unfold fpErr; rw [if_pos hnf, hxl, hml, if_neg hlim]) (by decide))
    clear hk hw HE HA hlen hwl hcs hA hX hM hxl hml hbz hs hnf
    by_cases hx3 : X2 ≤ 32768
    · have hm3 : ¬ M2 ≤ 16 := fun h => hlim ⟨hx3, h⟩
      clear hlim
      go_enter Tryd.func13, Tryd.ntmps13
      go_upto_region 1 with (first
        | ((with_reducible show wpList _ _ _ (⟨some 3, _, _, _, _, _⟩ :: _) _ _); refine wpList_box_blk rfl _ (.tmp 1) rfl cs rfl ?_; intro g w1 hg1 hg2 K1 L1)
        | fail)
      refine wp_region_held (S := fun w' => Blk w' g 32 cs) (by kernel_rfl) ?_
      change wpAnyH _ _ _ _ _ _ _ _ w1.drew
      have S0 : Hid (Blk w1.drew g 32 cs) := K1.out.drew
      have b0 : Hid (Below w.heap.size w w1.drew) := L1.out.drew
      refine wpAnyH_take (i := 0) (v := _) rfl (by kernel_rfl) (by kernel_rfl) (by kernel_rfl) (fun _ _ _ h => h) (yieldsIf_move (by kernel_rfl) (.tmp 0) rfl (.int .u16 c) (by kernel_rfl)) S0.out ?_
      refine wpAnyH_one 1 _ (by kernel_rfl) rfl fun K hK => ?_
      go_simp
      refine (CK.out _).mono ?_
      rintro e v1 ⟨rfl, rfl⟩
      refine hK _ _ S0.out ?_
      clear hK K
      refine wpAnyH_take (i := 2) (v := (.bool false)) rfl (by kernel_rfl) (by kernel_rfl) (by kernel_rfl) (fun _ _ _ h => h) (.inl ⟨by kernel_rfl, fun w _ => by go_simp⟩) S0.out ?_
      refine wpAnyH_take (i := 3) (v := _) rfl (by kernel_rfl) (by kernel_rfl) (by kernel_rfl) (fun _ _ _ h => h) (yieldsIf_move (by kernel_rfl) (.tmp 13) rfl (.bool false) (by kernel_rfl)) S0.out ?_
      refine wpAnyH_take (i := 4) (v := _) rfl (by kernel_rfl) (by kernel_rfl) (by kernel_rfl) (fun _ _ _ h => h) (yieldsIf_move (by kernel_rfl) (.tmp 0) rfl (.int .u16 c) (by kernel_rfl)) S0.out ?_
      refine wpAnyH_take (i := 5) (v := _) rfl (by kernel_rfl) (by kernel_rfl) (by kernel_rfl) (fun _ _ _ h => h) (yieldsIf_load_blk (by kernel_rfl) _ (.tmp 3) rfl g (by kernel_rfl) _ cs (fun w h => h) 69 _ Tryd.underlying32 rfl size_ask HL) S0.out ?_
      refine wpAnyH_take (i := 7) (v := _) rfl (by kernel_rfl) (by kernel_rfl) (by kernel_rfl) (fun _ _ _ h => h) (yieldsIf_load_blk (by kernel_rfl) _ (.tmp 3) rfl g (by kernel_rfl) _ cs (fun w h => h) 69 _ Tryd.underlying32 rfl size_ask HL) S0.out ?_
      refine wpAnyH_one 6 _ (by kernel_rfl) rfl fun K hK => ?_
      go_simp
      refine (CA.out _ b0.out).mono ?_
      rintro e v1 ⟨ds, rfl, hds, L01⟩
      have S1 := Lib.hid (S0.out.over L01)
      have b1 := Lib.hid (step b0.out L01)
      have HDS := Lib.hid hds
      refine hK _ _ S1.out ?_
      clear hK K hds L01
      refine wpAnyH_one 8 _ (by kernel_rfl) rfl fun K hK => ?_
      go_simp
      refine (CS.out _ ds HDS.out b1.out).mono ?_
      rintro e w3 ⟨rfl, L02⟩
      have S2 := Lib.hid (S1.out.over L02)
      have M3 := Lib.hid (step b1.out L02)
      refine hK _ _ S2.out ?_
      clear hK K L02 HDS S1 b1
      refine wpAnyH_take (i := 9) (v := (.bool false)) rfl (by kernel_rfl) (by kernel_rfl) (by kernel_rfl) (fun _ _ _ h => h) (.inl ⟨by kernel_rfl, fun w _ => by go_simp⟩) S2.out ?_
      refine wpAnyH_take (i := 10) (v := (.bool false)) rfl (by kernel_rfl) (by kernel_rfl) (by kernel_rfl) (fun _ _ _ h => h) (.inl ⟨by kernel_rfl, fun w _ => by go_simp⟩) S2.out ?_
      refine wpAnyH_done (by kernel_rfl) ?_ _
      go_simp
      have K3 := Lib.hid S2.out
      clear S0 b0 K1 L1 S2
      have hs3 := M3.out.size
      obtain ⟨c61, c62⟩ := FL.out w3 g K3.out
      go_wp2
      go_loop [6] (fun i => ∃ j : Nat, i = .int .i64 j ∧ j ≤ M2 ∧ Hid (shut (a.locks.take j) = true)) (fun i => M2 - (intOf i).toNat)
      case atStart => exact ⟨0, rfl, Nat.zero_le _, H0.out⟩
      case round =>
        obtain ⟨j, rfl, hj, HS⟩ := hrel
        by_cases hlt : j < M2
        · obtain ⟨x, hx⟩ := HGET.out j hlt
          obtain ⟨b, off, rfl, k0, _⟩ := HCELL.out w3 M3.out j x hlt hx
          rw [HOP.out j x hx] at k0
          have HS2 := Lib.hid (HST.out j x hx HS.out (HOP.out j x hx))
          clear hx
          go_wp2
          go_round
          case rel => exact ⟨j + 1, by simp, by omega, HS2⟩
          case measure => simp [intOf]; omega
        · obtain rfl : M2 = j := by omega
          go_wp2
          go_ret2
          exact HQ.out _ _ rfl M3.out
    · clear hlim
      go_enter Tryd.func13, Tryd.ntmps13
      go_upto_region 1 with (first
        | ((with_reducible show wpList _ _ _ (⟨some 3, _, _, _, _, _⟩ :: _) _ _); refine wpList_box_blk rfl _ (.tmp 1) rfl cs rfl ?_; intro g w1 hg1 hg2 K1 L1)
        | fail)
      refine wp_region_held (S := fun w' => Blk w' g 32 cs) (by kernel_rfl) ?_
      change wpAnyH _ _ _ _ _ _ _ _ w1.drew
      have S0 : Hid (Blk w1.drew g 32 cs) := K1.out.drew
      have b0 : Hid (Below w.heap.size w w1.drew) := L1.out.drew
      refine wpAnyH_take (i := 0) (v := _) rfl (by kernel_rfl) (by kernel_rfl) (by kernel_rfl) (fun _ _ _ h => h) (yieldsIf_move (by kernel_rfl) (.tmp 0) rfl (.int .u16 c) (by kernel_rfl)) S0.out ?_
      refine wpAnyH_one 1 _ (by kernel_rfl) rfl fun K hK => ?_
      go_simp
      refine (CK.out _).mono ?_
      rintro e v1 ⟨rfl, rfl⟩
      refine hK _ _ S0.out ?_
      clear hK K
      refine wpAnyH_take (i := 2) (v := (.bool false)) rfl (by kernel_rfl) (by kernel_rfl) (by kernel_rfl) (fun _ _ _ h => h) (.inl ⟨by kernel_rfl, fun w _ => by go_simp⟩) S0.out ?_
      refine wpAnyH_take (i := 3) (v := _) rfl (by kernel_rfl) (by kernel_rfl) (by kernel_rfl) (fun _ _ _ h => h) (yieldsIf_move (by kernel_rfl) (.tmp 13) rfl (.bool false) (by kernel_rfl)) S0.out ?_
      refine wpAnyH_take (i := 4) (v := _) rfl (by kernel_rfl) (by kernel_rfl) (by kernel_rfl) (fun _ _ _ h => h) (yieldsIf_move (by kernel_rfl) (.tmp 0) rfl (.int .u16 c) (by kernel_rfl)) S0.out ?_
      refine wpAnyH_take (i := 5) (v := _) rfl (by kernel_rfl) (by kernel_rfl) (by kernel_rfl) (fun _ _ _ h => h) (yieldsIf_load_blk (by kernel_rfl) _ (.tmp 3) rfl g (by kernel_rfl) _ cs (fun w h => h) 69 _ Tryd.underlying32 rfl size_ask HL) S0.out ?_
      refine wpAnyH_take (i := 7) (v := _) rfl (by kernel_rfl) (by kernel_rfl) (by kernel_rfl) (fun _ _ _ h => h) (yieldsIf_load_blk (by kernel_rfl) _ (.tmp 3) rfl g (by kernel_rfl) _ cs (fun w h => h) 69 _ Tryd.underlying32 rfl size_ask HL) S0.out ?_
      refine wpAnyH_one 6 _ (by kernel_rfl) rfl fun K hK => ?_
      go_simp
      refine (CA.out _ b0.out).mono ?_
      rintro e v1 ⟨ds, rfl, hds, L01⟩
      have S1 := Lib.hid (S0.out.over L01)
      have b1 := Lib.hid (step b0.out L01)
      have HDS := Lib.hid hds
      refine hK _ _ S1.out ?_
      clear hK K hds L01
      refine wpAnyH_one 8 _ (by kernel_rfl) rfl fun K hK => ?_
      go_simp
      refine (CS.out _ ds HDS.out b1.out).mono ?_
      rintro e w3 ⟨rfl, L02⟩
      have S2 := Lib.hid (S1.out.over L02)
      have M3 := Lib.hid (step b1.out L02)
      refine hK _ _ S2.out ?_
      clear hK K L02 HDS S1 b1
      refine wpAnyH_take (i := 9) (v := (.bool false)) rfl (by kernel_rfl) (by kernel_rfl) (by kernel_rfl) (fun _ _ _ h => h) (.inl ⟨by kernel_rfl, fun w _ => by go_simp⟩) S2.out ?_
      refine wpAnyH_take (i := 10) (v := (.bool false)) rfl (by kernel_rfl) (by kernel_rfl) (by kernel_rfl) (fun _ _ _ h => h) (.inl ⟨by kernel_rfl, fun w _ => by go_simp⟩) S2.out ?_
      refine wpAnyH_done (by kernel_rfl) ?_ _
      go_simp
      have K3 := Lib.hid S2.out
      clear S0 b0 K1 L1 S2
      have hs3 := M3.out.size
      obtain ⟨c61, c62⟩ := FL.out w3 g K3.out
      go_wp2
      go_loop [6] (fun i => ∃ j : Nat, i = .int .i64 j ∧ j ≤ M2 ∧ Hid (shut (a.locks.take j) = true)) (fun i => M2 - (intOf i).toNat)
      case atStart => exact ⟨0, rfl, Nat.zero_le _, H0.out⟩
      case round =>
        obtain ⟨j, rfl, hj, HS⟩ := hrel
        by_cases hlt : j < M2
        · obtain ⟨x, hx⟩ := HGET.out j hlt
          obtain ⟨b, off, rfl, k0, _⟩ := HCELL.out w3 M3.out j x hlt hx
          rw [HOP.out j x hx] at k0
          have HS2 := Lib.hid (HST.out j x hx HS.out (HOP.out j x hx))
          clear hx
          go_wp2
          go_round
          case rel => exact ⟨j + 1, by simp, by omega, HS2⟩
          case measure => simp [intOf]; omega
        · obtain rfl : M2 = j := by omega
          go_wp2
          go_ret2
          exact HQ.out _ _ rfl M3.out
  obtain ⟨hx3, hm3⟩ := hlim
  have hcc : c = 5 ∨ c = 6 ∨ c = 7 ∨ c = 8 ∨ c = 9 ∨ c = 10 := known_cases hk
  have HOK : Hid (fpErr c a = if c = 5 then ptextErr a.name.data.toList else 0) := by
    show _ = _
    unfold fpErr
    rw [if_pos hnf, hxl, hml, if_pos ⟨hx3, hm3⟩]
  have HQ0 : Hid (fpErr c a = 0 → ∀ v e w', e = .returned (.tuple #[v, .int .i64 0]) → Own w' w.heap.size v (bodyF c a) → Below w.heap.size w w' → RFPutPost w c a e w') := by
    intro h v e w' he hv hb
    unfold RFPutPost fpOf
    rw [h, if_pos rfl]
    exact ⟨_, he, hv, hb⟩
  obtain ⟨l_acc, u_acc⟩ := ka.acc
  obtain ⟨l_shr, u_shr⟩ := ka.shr
  obtain ⟨l_way, u_way⟩ := ka.way
  obtain ⟨l_opt, u_opt⟩ := ka.opt
  obtain ⟨l_lev, u_lev⟩ := ka.lev
  obtain ⟨l_dur, u_dur⟩ := ka.dur
  obtain ⟨l_file, u_file⟩ := ka.file
  obtain ⟨l_at_, u_at_⟩ := ka.at_
  obtain ⟨l_n, u_n⟩ := ka.n
  have z_acc : IntKind.u64.wrap a.acc = a.acc := by rw [IntKind.wrap_u64]; omega
  have z_shr : IntKind.u64.wrap a.shr = a.shr := by rw [IntKind.wrap_u64]; omega
  have z_way : IntKind.u64.wrap a.way = a.way := by rw [IntKind.wrap_u64]; omega
  have z_opt : IntKind.u64.wrap a.opt = a.opt := by rw [IntKind.wrap_u64]; omega
  have z_n : IntKind.u64.wrap a.n = a.n := by rw [IntKind.wrap_u64]; omega
  have z_x : IntKind.u64.wrap (X2 : Int) = (X2 : Int) := by rw [IntKind.wrap_u64]; omega
  have FC : Hid (∀ (w : World) (g : Nat), Blk w g 32 cs → w.cell? ⟨g, 51, none⟩ = some (.int .u32 a.acc) ∧ w.cell? ⟨g, 52, none⟩ = some (.int .u32 a.shr) ∧ w.cell? ⟨g, 53, none⟩ = some (.int .u32 a.way) ∧ w.cell? ⟨g, 54, none⟩ = some (.int .u32 a.opt) ∧ w.cell? ⟨g, 55, none⟩ = some (.int .u8 a.lev) ∧ w.cell? ⟨g, 56, none⟩ = some (.int .u8 a.dur) ∧ w.cell? ⟨g, 57, none⟩ = some (.int .u64 a.file) ∧ w.cell? ⟨g, 58, none⟩ = some (.string a.name) ∧ w.cell? ⟨g, 59, none⟩ = some (.int .u64 a.at_) ∧ w.cell? ⟨g, 60, none⟩ = some (.int .u32 a.n)) := fun w g h => by
    rw [hcs] at h
    exact ⟨h.at (acells_get ka 2), h.at (acells_get ka 3), h.at (acells_get ka 4), h.at (acells_get ka 5), h.at (acells_get ka 6), h.at (acells_get ka 7), h.at (acells_get ka 8), h.at (acells_get ka 9), h.at (acells_get ka 10), h.at (acells_get ka 11)⟩
  have CL2 : Hid (∀ (w' : World) (B : Nat) (v : Value) (xs : List Int) (n : Int), Own w' B v xs → xs.length ≤ 1000000 → B ≤ w'.heap.size → 0 ≤ n → n ≤ 65535 → Calls Tryd.prog 39 #[v, .int .u64 n, .int .i64 2] w' fun e w2 => ∃ v', e = .returned v' ∧ Own w2 B v' (xs ++ le n 2) ∧ Below B w' w2) := fun w' B v xs n ho hx hb h0 h1 => LayF_any w' B v xs n 2 65536 (by decide) (by decide) (by decide) ho hx hb h0 (by omega)
  have CL4 : Hid (∀ (w' : World) (B : Nat) (v : Value) (xs : List Int) (n : Int), Own w' B v xs → xs.length ≤ 1000000 → B ≤ w'.heap.size → 0 ≤ n → n ≤ 4294967295 → Calls Tryd.prog 39 #[v, .int .u64 n, .int .i64 4] w' fun e w2 => ∃ v', e = .returned v' ∧ Own w2 B v' (xs ++ le n 4) ∧ Below B w' w2) := fun w' B v xs n ho hx hb h0 h1 => LayF_any w' B v xs n 4 4294967296 (by decide) (by decide) (by decide) ho hx hb h0 (by omega)
  have CL8 : Hid (∀ (w' : World) (B : Nat) (v : Value) (xs : List Int) (n : Int), Own w' B v xs → xs.length ≤ 1000000 → B ≤ w'.heap.size → 0 ≤ n → n ≤ 18446744073709551615 → Calls Tryd.prog 39 #[v, .int .u64 n, .int .i64 8] w' fun e w2 => ∃ v', e = .returned v' ∧ Own w2 B v' (xs ++ le n 8) ∧ Below B w' w2) := fun w' B v xs n ho hx hb h0 h1 => LayF_any w' B v xs n 8 18446744073709551616 (by decide) (by decide) (by decide) ho hx hb h0 (by omega)
  have KM := Lib.hid ka.locks
  clear HE HA hlen hwl hcs hA hX hM hxl hml hbz hs hnf hk hw
  rcases hcc with h5 | h6 | h7 | h8 | h9 | h10
  · subst h5
    rw [if_pos rfl] at HOK
    have CT : Hid (∀ w' : World, Calls Tryd.prog 40 #[.string a.name] w' fun e w2 => (∃ v, e = .returned (.tuple #[v, .int .i64 (ptextErr a.name.data.toList)]) ∧ Own w2 w'.heap.size v (ptextOf a.name.data.toList)) ∧ Below w'.heap.size w' w2) := fun w' => (RPutText_any a.name w' hnm).mono fun e w2 ⟨v, h1, h2, h3⟩ => ⟨⟨v, h1, h2⟩, h3⟩
    have hld : Bytes [a.lev, a.dur, 0, 0] := by
      intro x hx
      simp only [List.mem_cons, List.not_mem_nil, or_false] at hx
      rcases hx with hx | hx | hx | hx <;> omega
    have HLD := Lib.hid hld
    clear hld
    by_cases hp : ptextErr a.name.data.toList = 0
    rotate_left
    · have HQ : Hid (∀ e w', e = .returned (.tuple #[.slice none 0 0, .int .i64 (ptextErr a.name.data.toList)]) → Below w.heap.size w w' → RFPutPost w 5 a e w') := by
        intro e w' he hb
        unfold RFPutPost fpOf
        rw [HOK.out, if_neg hp]
        exact ⟨_, he, Own.nil _ _, hb⟩
      obtain ⟨er, her⟩ : ∃ x, x = ptextErr a.name.data.toList := ⟨_, rfl⟩
      rw [← her] at CT HQ hp
      have hne : (er != 0) = true := by simpa using hp
      clear her hp HOK HQ0
      go_enter Tryd.func13, Tryd.ntmps13
      go_upto_region 1 with (first
        | ((with_reducible show wpList _ _ _ (⟨some 3, _, _, _, _, _⟩ :: _) _ _); refine wpList_box_blk rfl _ (.tmp 1) rfl cs rfl ?_; intro g w1 hg1 hg2 K1 L1)
        | fail)
      refine wp_region_held (S := fun w' => Blk w' g 32 cs) (by kernel_rfl) ?_
      change wpAnyH _ _ _ _ _ _ _ _ w1.drew
      have S0 : Hid (Blk w1.drew g 32 cs) := K1.out.drew
      have b0 : Hid (Below w.heap.size w w1.drew) := L1.out.drew
      refine wpAnyH_take (i := 0) (v := _) rfl (by kernel_rfl) (by kernel_rfl) (by kernel_rfl) (fun _ _ _ h => h) (yieldsIf_move (by kernel_rfl) (.tmp 0) rfl (.int .u16 5) (by kernel_rfl)) S0.out ?_
      refine wpAnyH_one 1 _ (by kernel_rfl) rfl fun K hK => ?_
      go_simp
      refine (CK.out _).mono ?_
      rintro e v1 ⟨rfl, rfl⟩
      refine hK _ _ S0.out ?_
      clear hK K
      refine wpAnyH_take (i := 2) (v := (.bool false)) rfl (by kernel_rfl) (by kernel_rfl) (by kernel_rfl) (fun _ _ _ h => h) (.inl ⟨by kernel_rfl, fun w _ => by go_simp⟩) S0.out ?_
      refine wpAnyH_take (i := 3) (v := _) rfl (by kernel_rfl) (by kernel_rfl) (by kernel_rfl) (fun _ _ _ h => h) (yieldsIf_move (by kernel_rfl) (.tmp 13) rfl (.bool false) (by kernel_rfl)) S0.out ?_
      refine wpAnyH_take (i := 4) (v := _) rfl (by kernel_rfl) (by kernel_rfl) (by kernel_rfl) (fun _ _ _ h => h) (yieldsIf_move (by kernel_rfl) (.tmp 0) rfl (.int .u16 5) (by kernel_rfl)) S0.out ?_
      refine wpAnyH_take (i := 5) (v := _) rfl (by kernel_rfl) (by kernel_rfl) (by kernel_rfl) (fun _ _ _ h => h) (yieldsIf_load_blk (by kernel_rfl) _ (.tmp 3) rfl g (by kernel_rfl) _ cs (fun w h => h) 69 _ Tryd.underlying32 rfl size_ask HL) S0.out ?_
      refine wpAnyH_take (i := 7) (v := _) rfl (by kernel_rfl) (by kernel_rfl) (by kernel_rfl) (fun _ _ _ h => h) (yieldsIf_load_blk (by kernel_rfl) _ (.tmp 3) rfl g (by kernel_rfl) _ cs (fun w h => h) 69 _ Tryd.underlying32 rfl size_ask HL) S0.out ?_
      refine wpAnyH_one 6 _ (by kernel_rfl) rfl fun K hK => ?_
      go_simp
      refine (CA.out _ b0.out).mono ?_
      rintro e v1 ⟨ds, rfl, hds, L01⟩
      have S1 := Lib.hid (S0.out.over L01)
      have b1 := Lib.hid (step b0.out L01)
      have HDS := Lib.hid hds
      refine hK _ _ S1.out ?_
      clear hK K hds L01
      refine wpAnyH_one 8 _ (by kernel_rfl) rfl fun K hK => ?_
      go_simp
      refine (CS.out _ ds HDS.out b1.out).mono ?_
      rintro e w3 ⟨rfl, L02⟩
      have S2 := Lib.hid (S1.out.over L02)
      have M3 := Lib.hid (step b1.out L02)
      refine hK _ _ S2.out ?_
      clear hK K L02 HDS S1 b1
      refine wpAnyH_take (i := 9) (v := (.bool false)) rfl (by kernel_rfl) (by kernel_rfl) (by kernel_rfl) (fun _ _ _ h => h) (.inl ⟨by kernel_rfl, fun w _ => by go_simp⟩) S2.out ?_
      refine wpAnyH_take (i := 10) (v := (.bool false)) rfl (by kernel_rfl) (by kernel_rfl) (by kernel_rfl) (fun _ _ _ h => h) (.inl ⟨by kernel_rfl, fun w _ => by go_simp⟩) S2.out ?_
      refine wpAnyH_done (by kernel_rfl) ?_ _
      go_simp
      have K3 := Lib.hid S2.out
      clear S0 b0 K1 L1 S2
      have hs3 := M3.out.size
      obtain ⟨c61, c62⟩ := FL.out w3 g K3.out
      go_wp2
      go_loop [6] (fun i => ∃ j : Nat, i = .int .i64 j ∧ j ≤ M2 ∧ Hid (shut (a.locks.take j) = true)) (fun i => M2 - (intOf i).toNat)
      case atStart => exact ⟨0, rfl, Nat.zero_le _, H0.out⟩
      case round =>
        obtain ⟨j, rfl, hj, HS⟩ := hrel
        by_cases hlt : j < M2
        · obtain ⟨x, hx⟩ := HGET.out j hlt
          obtain ⟨b, off, rfl, k0, _⟩ := HCELL.out w3 M3.out j x hlt hx
          rw [HOP.out j x hx] at k0
          have HS2 := Lib.hid (HST.out j x hx HS.out (HOP.out j x hx))
          clear hx
          go_wp2
          go_round
          case rel => exact ⟨j + 1, by simp, by omega, HS2⟩
          case measure => simp [intOf]; omega
        · obtain rfl : M2 = j := by omega
          have N0 : Hid (Below w3.heap.size w3 w3) := Below.refl _ _
          have H00 : Hid (Own w3 w3.heap.size (.slice none 0 0) []) := Own.nil _ _
          have hg3 : g < w3.heap.size := K3.out.lt
          obtain ⟨c51, c52, c53, c54, c55, c56, c57, c58, c59, c60⟩ := FC.out w3 g K3.out
          go_wp2_with fail
          refine (CL4.out w3 w3.heap.size _ ([]) a.acc H00.out (by simp) N0.out.size l_acc u_acc).mono ?_
          rintro e y1 ⟨v1, rfl, ho1, L1⟩
          have HO1 := Lib.hid ho1
          have N1 := Lib.hid (N0.out.trans L1)
          have Ky1 := Lib.hid (K3.out.below N1.out hg3)
          clear ho1 L1
          clear c51 c52 c53 c54 c55 c56 c57 c58 c59 c60
          obtain ⟨c51, c52, c53, c54, c55, c56, c57, c58, c59, c60⟩ := FC.out y1 g Ky1.out
          obtain ⟨c61, c62⟩ := FL.out y1 g Ky1.out
          go_wp2_with fail
          refine (CL4.out y1 w3.heap.size _ ([] ++ le a.acc 4) a.shr HO1.out (by simp [le_length]) N1.out.size l_shr u_shr).mono ?_
          rintro e y2 ⟨v2, rfl, ho2, L2⟩
          have HO2 := Lib.hid ho2
          have N2 := Lib.hid (N1.out.trans L2)
          have Ky2 := Lib.hid (K3.out.below N2.out hg3)
          clear ho2 L2
          clear c51 c52 c53 c54 c55 c56 c57 c58 c59 c60 c61 c62
          obtain ⟨c51, c52, c53, c54, c55, c56, c57, c58, c59, c60⟩ := FC.out y2 g Ky2.out
          obtain ⟨c61, c62⟩ := FL.out y2 g Ky2.out
          go_wp2_with fail
          refine (CL4.out y2 w3.heap.size _ (([] ++ le a.acc 4) ++ le a.shr 4) a.way HO2.out (by simp [le_length]) N2.out.size l_way u_way).mono ?_
          rintro e y3 ⟨v3, rfl, ho3, L3⟩
          have HO3 := Lib.hid ho3
          have N3 := Lib.hid (N2.out.trans L3)
          have Ky3 := Lib.hid (K3.out.below N3.out hg3)
          clear ho3 L3
          clear c51 c52 c53 c54 c55 c56 c57 c58 c59 c60 c61 c62
          obtain ⟨c51, c52, c53, c54, c55, c56, c57, c58, c59, c60⟩ := FC.out y3 g Ky3.out
          obtain ⟨c61, c62⟩ := FL.out y3 g Ky3.out
          go_wp2_with fail
          refine (CL4.out y3 w3.heap.size _ ((([] ++ le a.acc 4) ++ le a.shr 4) ++ le a.way 4) a.opt HO3.out (by simp [le_length]) N3.out.size l_opt u_opt).mono ?_
          rintro e y4 ⟨v4, rfl, ho4, L4⟩
          have HO4 := Lib.hid ho4
          have N4 := Lib.hid (N3.out.trans L4)
          have Ky4 := Lib.hid (K3.out.below N4.out hg3)
          clear ho4 L4
          clear c51 c52 c53 c54 c55 c56 c57 c58 c59 c60 c61 c62
          obtain ⟨c51, c52, c53, c54, c55, c56, c57, c58, c59, c60⟩ := FC.out y4 g Ky4.out
          obtain ⟨c61, c62⟩ := FL.out y4 g Ky4.out
          go_wp2_with (first
            | ((with_reducible show wpList _ _ _ (⟨some 73, _, _, _, _, _⟩ :: _) _ _); refine wpList_slice_blk rfl _ _ 4 _ rfl Tryd.underlying29 ([.int .u8 a.lev, .int .u8 a.dur, .int .u8 0, .int .u8 0] : List Value) (by kernel_rfl) ?_; intro gl z1 hz1 hz2 Yl Ll; have HOl := Lib.hid (Own.below HO4.out Ll.out); have Nl := Lib.hid (N4.out.trans (Ll.out.mono N4.out.size)); have HHl := Lib.hid (Holds.of_lit (xs := [a.lev, a.dur, 0, 0]) Yl.out HLD.out))
            | (at_builtin; refine wpList_append_bytes rfl (.tmp 68) (.tmp 73) rfl w3.heap.size _ (((([] ++ le a.acc 4) ++ le a.shr 4) ++ le a.way 4) ++ le a.opt 4) rfl HOl.out z1.heap.size _ 4 4 [a.lev, a.dur, 0, 0] rfl HHl.out (by simp only [List.length_append, le_length, List.length_nil, List.length_cons]; omega) Nl.out.size ?_; intro va z2 hoa hba hgra; have HO5 := Lib.hid hoa.out; have N5 := Lib.hid (Nl.out.trans hba); have Ky5 := Lib.hid (K3.out.below N5.out hg3); clear hoa hba hgra HOl Nl HHl Yl Ll c51 c52 c53 c54 c55 c56 c57 c58 c59 c60 c61 c62; obtain ⟨c51, c52, c53, c54, c55, c56, c57, c58, c59, c60⟩ := FC.out z2 g Ky5.out; obtain ⟨c61, c62⟩ := FL.out z2 g Ky5.out)
            | fail)
          refine (CL8.out z2 w3.heap.size _ ((((([] ++ le a.acc 4) ++ le a.shr 4) ++ le a.way 4) ++ le a.opt 4) ++ [a.lev, a.dur, 0, 0]) a.file HO5.out (by simp [le_length]) N5.out.size l_file u_file).mono ?_
          rintro e y6 ⟨v6, rfl, ho6, L6⟩
          have HO6 := Lib.hid ho6
          have N6 := Lib.hid (N5.out.trans L6)
          have Ky6 := Lib.hid (K3.out.below N6.out hg3)
          clear ho6 L6
          clear c51 c52 c53 c54 c55 c56 c57 c58 c59 c60 c61 c62
          obtain ⟨c51, c52, c53, c54, c55, c56, c57, c58, c59, c60⟩ := FC.out y6 g Ky6.out
          obtain ⟨c61, c62⟩ := FL.out y6 g Ky6.out
          go_wp2_with fail
          refine (CT.out y6).mono ?_
          rintro e y7 ⟨⟨vt, rfl, hvt⟩, L7⟩
          have N7 := Lib.hid (N6.out.trans (L7.mono N6.out.size))
          go_wp2
          go_ret2
          exact HQ.out _ _ rfl (M3.out.trans (N7.out.mono hs3))
    · have HQ := Lib.hid (HQ0.out (by rw [HOK.out, hp]))
      rw [hp] at CT
      have hb5 : bodyF 5 a = le a.acc 4 ++ (le a.shr 4 ++ (le a.way 4 ++ (le a.opt 4 ++ (a.lev :: a.dur :: 0 :: 0 :: (le a.file 8 ++ ptextOf a.name.data.toList))))) := by
        unfold bodyF
        rw [if_pos rfl, le1 a.lev l_lev u_lev, le1 a.dur l_dur u_dur]
        rfl
      rw [hb5] at HQ
      have HLT : Hid ((ptextOf a.name.data.toList).length ≤ 514 ∧ Bytes (ptextOf a.name.data.toList)) := ⟨rowOf_le _, ptextOf_bytes _⟩
      obtain ⟨tx, htx⟩ : ∃ x, x = ptextOf a.name.data.toList := ⟨_, rfl⟩
      rw [← htx] at CT HQ HLT
      clear htx hp HOK HQ0 hb5
      go_enter Tryd.func13, Tryd.ntmps13
      go_upto_region 1 with (first
        | ((with_reducible show wpList _ _ _ (⟨some 3, _, _, _, _, _⟩ :: _) _ _); refine wpList_box_blk rfl _ (.tmp 1) rfl cs rfl ?_; intro g w1 hg1 hg2 K1 L1)
        | fail)
      refine wp_region_held (S := fun w' => Blk w' g 32 cs) (by kernel_rfl) ?_
      change wpAnyH _ _ _ _ _ _ _ _ w1.drew
      have S0 : Hid (Blk w1.drew g 32 cs) := K1.out.drew
      have b0 : Hid (Below w.heap.size w w1.drew) := L1.out.drew
      refine wpAnyH_take (i := 0) (v := _) rfl (by kernel_rfl) (by kernel_rfl) (by kernel_rfl) (fun _ _ _ h => h) (yieldsIf_move (by kernel_rfl) (.tmp 0) rfl (.int .u16 5) (by kernel_rfl)) S0.out ?_
      refine wpAnyH_one 1 _ (by kernel_rfl) rfl fun K hK => ?_
      go_simp
      refine (CK.out _).mono ?_
      rintro e v1 ⟨rfl, rfl⟩
      refine hK _ _ S0.out ?_
      clear hK K
      refine wpAnyH_take (i := 2) (v := (.bool false)) rfl (by kernel_rfl) (by kernel_rfl) (by kernel_rfl) (fun _ _ _ h => h) (.inl ⟨by kernel_rfl, fun w _ => by go_simp⟩) S0.out ?_
      refine wpAnyH_take (i := 3) (v := _) rfl (by kernel_rfl) (by kernel_rfl) (by kernel_rfl) (fun _ _ _ h => h) (yieldsIf_move (by kernel_rfl) (.tmp 13) rfl (.bool false) (by kernel_rfl)) S0.out ?_
      refine wpAnyH_take (i := 4) (v := _) rfl (by kernel_rfl) (by kernel_rfl) (by kernel_rfl) (fun _ _ _ h => h) (yieldsIf_move (by kernel_rfl) (.tmp 0) rfl (.int .u16 5) (by kernel_rfl)) S0.out ?_
      refine wpAnyH_take (i := 5) (v := _) rfl (by kernel_rfl) (by kernel_rfl) (by kernel_rfl) (fun _ _ _ h => h) (yieldsIf_load_blk (by kernel_rfl) _ (.tmp 3) rfl g (by kernel_rfl) _ cs (fun w h => h) 69 _ Tryd.underlying32 rfl size_ask HL) S0.out ?_
      refine wpAnyH_take (i := 7) (v := _) rfl (by kernel_rfl) (by kernel_rfl) (by kernel_rfl) (fun _ _ _ h => h) (yieldsIf_load_blk (by kernel_rfl) _ (.tmp 3) rfl g (by kernel_rfl) _ cs (fun w h => h) 69 _ Tryd.underlying32 rfl size_ask HL) S0.out ?_
      refine wpAnyH_one 6 _ (by kernel_rfl) rfl fun K hK => ?_
      go_simp
      refine (CA.out _ b0.out).mono ?_
      rintro e v1 ⟨ds, rfl, hds, L01⟩
      have S1 := Lib.hid (S0.out.over L01)
      have b1 := Lib.hid (step b0.out L01)
      have HDS := Lib.hid hds
      refine hK _ _ S1.out ?_
      clear hK K hds L01
      refine wpAnyH_one 8 _ (by kernel_rfl) rfl fun K hK => ?_
      go_simp
      refine (CS.out _ ds HDS.out b1.out).mono ?_
      rintro e w3 ⟨rfl, L02⟩
      have S2 := Lib.hid (S1.out.over L02)
      have M3 := Lib.hid (step b1.out L02)
      refine hK _ _ S2.out ?_
      clear hK K L02 HDS S1 b1
      refine wpAnyH_take (i := 9) (v := (.bool false)) rfl (by kernel_rfl) (by kernel_rfl) (by kernel_rfl) (fun _ _ _ h => h) (.inl ⟨by kernel_rfl, fun w _ => by go_simp⟩) S2.out ?_
      refine wpAnyH_take (i := 10) (v := (.bool false)) rfl (by kernel_rfl) (by kernel_rfl) (by kernel_rfl) (fun _ _ _ h => h) (.inl ⟨by kernel_rfl, fun w _ => by go_simp⟩) S2.out ?_
      refine wpAnyH_done (by kernel_rfl) ?_ _
      go_simp
      have K3 := Lib.hid S2.out
      clear S0 b0 K1 L1 S2
      have hs3 := M3.out.size
      obtain ⟨c61, c62⟩ := FL.out w3 g K3.out
      go_wp2
      go_loop [6] (fun i => ∃ j : Nat, i = .int .i64 j ∧ j ≤ M2 ∧ Hid (shut (a.locks.take j) = true)) (fun i => M2 - (intOf i).toNat)
      case atStart => exact ⟨0, rfl, Nat.zero_le _, H0.out⟩
      case round =>
        obtain ⟨j, rfl, hj, HS⟩ := hrel
        by_cases hlt : j < M2
        · obtain ⟨x, hx⟩ := HGET.out j hlt
          obtain ⟨b, off, rfl, k0, _⟩ := HCELL.out w3 M3.out j x hlt hx
          rw [HOP.out j x hx] at k0
          have HS2 := Lib.hid (HST.out j x hx HS.out (HOP.out j x hx))
          clear hx
          go_wp2
          go_round
          case rel => exact ⟨j + 1, by simp, by omega, HS2⟩
          case measure => simp [intOf]; omega
        · obtain rfl : M2 = j := by omega
          have N0 : Hid (Below w3.heap.size w3 w3) := Below.refl _ _
          have H00 : Hid (Own w3 w3.heap.size (.slice none 0 0) []) := Own.nil _ _
          have hg3 : g < w3.heap.size := K3.out.lt
          obtain ⟨c51, c52, c53, c54, c55, c56, c57, c58, c59, c60⟩ := FC.out w3 g K3.out
          go_wp2_with fail
          refine (CL4.out w3 w3.heap.size _ ([]) a.acc H00.out (by simp) N0.out.size l_acc u_acc).mono ?_
          rintro e y1 ⟨v1, rfl, ho1, L1⟩
          have HO1 := Lib.hid ho1
          have N1 := Lib.hid (N0.out.trans L1)
          have Ky1 := Lib.hid (K3.out.below N1.out hg3)
          clear ho1 L1
          clear c51 c52 c53 c54 c55 c56 c57 c58 c59 c60
          obtain ⟨c51, c52, c53, c54, c55, c56, c57, c58, c59, c60⟩ := FC.out y1 g Ky1.out
          obtain ⟨c61, c62⟩ := FL.out y1 g Ky1.out
          go_wp2_with fail
          refine (CL4.out y1 w3.heap.size _ ([] ++ le a.acc 4) a.shr HO1.out (by simp [le_length]) N1.out.size l_shr u_shr).mono ?_
          rintro e y2 ⟨v2, rfl, ho2, L2⟩
          have HO2 := Lib.hid ho2
          have N2 := Lib.hid (N1.out.trans L2)
          have Ky2 := Lib.hid (K3.out.below N2.out hg3)
          clear ho2 L2
          clear c51 c52 c53 c54 c55 c56 c57 c58 c59 c60 c61 c62
          obtain ⟨c51, c52, c53, c54, c55, c56, c57, c58, c59, c60⟩ := FC.out y2 g Ky2.out
          obtain ⟨c61, c62⟩ := FL.out y2 g Ky2.out
          go_wp2_with fail
          refine (CL4.out y2 w3.heap.size _ (([] ++ le a.acc 4) ++ le a.shr 4) a.way HO2.out (by simp [le_length]) N2.out.size l_way u_way).mono ?_
          rintro e y3 ⟨v3, rfl, ho3, L3⟩
          have HO3 := Lib.hid ho3
          have N3 := Lib.hid (N2.out.trans L3)
          have Ky3 := Lib.hid (K3.out.below N3.out hg3)
          clear ho3 L3
          clear c51 c52 c53 c54 c55 c56 c57 c58 c59 c60 c61 c62
          obtain ⟨c51, c52, c53, c54, c55, c56, c57, c58, c59, c60⟩ := FC.out y3 g Ky3.out
          obtain ⟨c61, c62⟩ := FL.out y3 g Ky3.out
          go_wp2_with fail
          refine (CL4.out y3 w3.heap.size _ ((([] ++ le a.acc 4) ++ le a.shr 4) ++ le a.way 4) a.opt HO3.out (by simp [le_length]) N3.out.size l_opt u_opt).mono ?_
          rintro e y4 ⟨v4, rfl, ho4, L4⟩
          have HO4 := Lib.hid ho4
          have N4 := Lib.hid (N3.out.trans L4)
          have Ky4 := Lib.hid (K3.out.below N4.out hg3)
          clear ho4 L4
          clear c51 c52 c53 c54 c55 c56 c57 c58 c59 c60 c61 c62
          obtain ⟨c51, c52, c53, c54, c55, c56, c57, c58, c59, c60⟩ := FC.out y4 g Ky4.out
          obtain ⟨c61, c62⟩ := FL.out y4 g Ky4.out
          go_wp2_with (first
            | ((with_reducible show wpList _ _ _ (⟨some 73, _, _, _, _, _⟩ :: _) _ _); refine wpList_slice_blk rfl _ _ 4 _ rfl Tryd.underlying29 ([.int .u8 a.lev, .int .u8 a.dur, .int .u8 0, .int .u8 0] : List Value) (by kernel_rfl) ?_; intro gl z1 hz1 hz2 Yl Ll; have HOl := Lib.hid (Own.below HO4.out Ll.out); have Nl := Lib.hid (N4.out.trans (Ll.out.mono N4.out.size)); have HHl := Lib.hid (Holds.of_lit (xs := [a.lev, a.dur, 0, 0]) Yl.out HLD.out))
            | (at_builtin; refine wpList_append_bytes rfl (.tmp 68) (.tmp 73) rfl w3.heap.size _ (((([] ++ le a.acc 4) ++ le a.shr 4) ++ le a.way 4) ++ le a.opt 4) rfl HOl.out z1.heap.size _ 4 4 [a.lev, a.dur, 0, 0] rfl HHl.out (by simp only [List.length_append, le_length, List.length_nil, List.length_cons]; omega) Nl.out.size ?_; intro va z2 hoa hba hgra; have HO5 := Lib.hid hoa.out; have N5 := Lib.hid (Nl.out.trans hba); have Ky5 := Lib.hid (K3.out.below N5.out hg3); clear hoa hba hgra HOl Nl HHl Yl Ll c51 c52 c53 c54 c55 c56 c57 c58 c59 c60 c61 c62; obtain ⟨c51, c52, c53, c54, c55, c56, c57, c58, c59, c60⟩ := FC.out z2 g Ky5.out; obtain ⟨c61, c62⟩ := FL.out z2 g Ky5.out)
            | fail)
          refine (CL8.out z2 w3.heap.size _ ((((([] ++ le a.acc 4) ++ le a.shr 4) ++ le a.way 4) ++ le a.opt 4) ++ [a.lev, a.dur, 0, 0]) a.file HO5.out (by simp [le_length]) N5.out.size l_file u_file).mono ?_
          rintro e y6 ⟨v6, rfl, ho6, L6⟩
          have HO6 := Lib.hid ho6
          have N6 := Lib.hid (N5.out.trans L6)
          have Ky6 := Lib.hid (K3.out.below N6.out hg3)
          clear ho6 L6
          clear c51 c52 c53 c54 c55 c56 c57 c58 c59 c60 c61 c62
          obtain ⟨c51, c52, c53, c54, c55, c56, c57, c58, c59, c60⟩ := FC.out y6 g Ky6.out
          obtain ⟨c61, c62⟩ := FL.out y6 g Ky6.out
          go_wp2_with fail
          refine (CT.out y6).mono ?_
          rintro e y7 ⟨⟨vt, rfl, hvt⟩, L7⟩
          have N7 := Lib.hid (N6.out.trans (L7.mono N6.out.size))
          obtain ⟨At, ct, rfl, hHt⟩ := Own.holds hvt HLT.out.2 (by have := HLT.out.1; omega)
          have HTX := Lib.hid hHt
          have HO7 := Lib.hid (Own.below HO6.out L7)
          have hlt := HLT.out.1
          obtain ⟨lt, hltx⟩ : ∃ x, x = tx.length := ⟨_, rfl⟩
          rw [← hltx] at HTX hlt ⊢
          have hltx2 := hltx.symm
          have HLX := Lib.hid hltx2
          clear hvt L7 hHt hltx hltx2
          go_wp2_with (first
            | (at_builtin; refine wpList_append_bytes rfl (.tmp 88) (.tmp 89) rfl w3.heap.size _ (((((([] ++ le a.acc 4) ++ le a.shr 4) ++ le a.way 4) ++ le a.opt 4) ++ [a.lev, a.dur, 0, 0]) ++ le a.file 8) rfl HO7.out y7.heap.size At lt ct tx rfl HTX.out (by rw [HLX.out]; simp only [List.length_append, le_length, List.length_nil, List.length_cons]; omega) N7.out.size ?_; intro va z3 hoa hba hgra)
            | fail)
          go_ret2
          refine HQ.out _ _ _ rfl ?_ (M3.out.trans ((N7.out.trans hba).mono hs3))
          have h9 := Own.mono hoa.out hs3
          simpa [List.append_assoc] using h9
  · subst h6
    rw [if_neg (by decide)] at HOK
    have HQ := Lib.hid (HQ0.out HOK.out)
    have hb0 : bodyF 6 a = le a.file 8 := rfl
    rw [hb0] at HQ
    clear HOK HQ0 hb0
    go_enter Tryd.func13, Tryd.ntmps13
    go_upto_region 1 with (first
      | ((with_reducible show wpList _ _ _ (⟨some 3, _, _, _, _, _⟩ :: _) _ _); refine wpList_box_blk rfl _ (.tmp 1) rfl cs rfl ?_; intro g w1 hg1 hg2 K1 L1)
      | fail)
    refine wp_region_held (S := fun w' => Blk w' g 32 cs) (by kernel_rfl) ?_
    change wpAnyH _ _ _ _ _ _ _ _ w1.drew
    have S0 : Hid (Blk w1.drew g 32 cs) := K1.out.drew
    have b0 : Hid (Below w.heap.size w w1.drew) := L1.out.drew
    refine wpAnyH_take (i := 0) (v := _) rfl (by kernel_rfl) (by kernel_rfl) (by kernel_rfl) (fun _ _ _ h => h) (yieldsIf_move (by kernel_rfl) (.tmp 0) rfl (.int .u16 6) (by kernel_rfl)) S0.out ?_
    refine wpAnyH_one 1 _ (by kernel_rfl) rfl fun K hK => ?_
    go_simp
    refine (CK.out _).mono ?_
    rintro e v1 ⟨rfl, rfl⟩
    refine hK _ _ S0.out ?_
    clear hK K
    refine wpAnyH_take (i := 2) (v := (.bool false)) rfl (by kernel_rfl) (by kernel_rfl) (by kernel_rfl) (fun _ _ _ h => h) (.inl ⟨by kernel_rfl, fun w _ => by go_simp⟩) S0.out ?_
    refine wpAnyH_take (i := 3) (v := _) rfl (by kernel_rfl) (by kernel_rfl) (by kernel_rfl) (fun _ _ _ h => h) (yieldsIf_move (by kernel_rfl) (.tmp 13) rfl (.bool false) (by kernel_rfl)) S0.out ?_
    refine wpAnyH_take (i := 4) (v := _) rfl (by kernel_rfl) (by kernel_rfl) (by kernel_rfl) (fun _ _ _ h => h) (yieldsIf_move (by kernel_rfl) (.tmp 0) rfl (.int .u16 6) (by kernel_rfl)) S0.out ?_
    refine wpAnyH_take (i := 5) (v := _) rfl (by kernel_rfl) (by kernel_rfl) (by kernel_rfl) (fun _ _ _ h => h) (yieldsIf_load_blk (by kernel_rfl) _ (.tmp 3) rfl g (by kernel_rfl) _ cs (fun w h => h) 69 _ Tryd.underlying32 rfl size_ask HL) S0.out ?_
    refine wpAnyH_take (i := 7) (v := _) rfl (by kernel_rfl) (by kernel_rfl) (by kernel_rfl) (fun _ _ _ h => h) (yieldsIf_load_blk (by kernel_rfl) _ (.tmp 3) rfl g (by kernel_rfl) _ cs (fun w h => h) 69 _ Tryd.underlying32 rfl size_ask HL) S0.out ?_
    refine wpAnyH_one 6 _ (by kernel_rfl) rfl fun K hK => ?_
    go_simp
    refine (CA.out _ b0.out).mono ?_
    rintro e v1 ⟨ds, rfl, hds, L01⟩
    have S1 := Lib.hid (S0.out.over L01)
    have b1 := Lib.hid (step b0.out L01)
    have HDS := Lib.hid hds
    refine hK _ _ S1.out ?_
    clear hK K hds L01
    refine wpAnyH_one 8 _ (by kernel_rfl) rfl fun K hK => ?_
    go_simp
    refine (CS.out _ ds HDS.out b1.out).mono ?_
    rintro e w3 ⟨rfl, L02⟩
    have S2 := Lib.hid (S1.out.over L02)
    have M3 := Lib.hid (step b1.out L02)
    refine hK _ _ S2.out ?_
    clear hK K L02 HDS S1 b1
    refine wpAnyH_take (i := 9) (v := (.bool false)) rfl (by kernel_rfl) (by kernel_rfl) (by kernel_rfl) (fun _ _ _ h => h) (.inl ⟨by kernel_rfl, fun w _ => by go_simp⟩) S2.out ?_
    refine wpAnyH_take (i := 10) (v := (.bool false)) rfl (by kernel_rfl) (by kernel_rfl) (by kernel_rfl) (fun _ _ _ h => h) (.inl ⟨by kernel_rfl, fun w _ => by go_simp⟩) S2.out ?_
    refine wpAnyH_done (by kernel_rfl) ?_ _
    go_simp
    have K3 := Lib.hid S2.out
    clear S0 b0 K1 L1 S2
    have hs3 := M3.out.size
    obtain ⟨c61, c62⟩ := FL.out w3 g K3.out
    go_wp2
    go_loop [6] (fun i => ∃ j : Nat, i = .int .i64 j ∧ j ≤ M2 ∧ Hid (shut (a.locks.take j) = true)) (fun i => M2 - (intOf i).toNat)
    case atStart => exact ⟨0, rfl, Nat.zero_le _, H0.out⟩
    case round =>
      obtain ⟨j, rfl, hj, HS⟩ := hrel
      by_cases hlt : j < M2
      · obtain ⟨x, hx⟩ := HGET.out j hlt
        obtain ⟨b, off, rfl, k0, _⟩ := HCELL.out w3 M3.out j x hlt hx
        rw [HOP.out j x hx] at k0
        have HS2 := Lib.hid (HST.out j x hx HS.out (HOP.out j x hx))
        clear hx
        go_wp2
        go_round
        case rel => exact ⟨j + 1, by simp, by omega, HS2⟩
        case measure => simp [intOf]; omega
      · obtain rfl : M2 = j := by omega
        have N0 : Hid (Below w3.heap.size w3 w3) := Below.refl _ _
        have H00 : Hid (Own w3 w3.heap.size (.slice none 0 0) []) := Own.nil _ _
        have hg3 : g < w3.heap.size := K3.out.lt
        obtain ⟨c51, c52, c53, c54, c55, c56, c57, c58, c59, c60⟩ := FC.out w3 g K3.out
        go_wp2_with fail
        refine (CL8.out w3 w3.heap.size _ ([]) a.file H00.out (by simp) N0.out.size l_file u_file).mono ?_
        rintro e y1 ⟨v1, rfl, ho1, L1⟩
        have HO1 := Lib.hid ho1
        have N1 := Lib.hid (N0.out.trans L1)
        have Ky1 := Lib.hid (K3.out.below N1.out hg3)
        clear ho1 L1
        clear c51 c52 c53 c54 c55 c56 c57 c58 c59 c60
        obtain ⟨c51, c52, c53, c54, c55, c56, c57, c58, c59, c60⟩ := FC.out y1 g Ky1.out
        obtain ⟨c61, c62⟩ := FL.out y1 g Ky1.out
        go_wp2
        go_ret2
        refine HQ.out _ _ _ rfl ?_ (M3.out.trans (N1.out.mono hs3))
        have h9 := Own.mono HO1.out hs3
        simpa [List.append_assoc] using h9
  · subst h7
    rw [if_neg (by decide)] at HOK
    have HQ := Lib.hid (HQ0.out HOK.out)
    have hb0 : bodyF 7 a = le a.file 8 := rfl
    rw [hb0] at HQ
    clear HOK HQ0 hb0
    go_enter Tryd.func13, Tryd.ntmps13
    go_upto_region 1 with (first
      | ((with_reducible show wpList _ _ _ (⟨some 3, _, _, _, _, _⟩ :: _) _ _); refine wpList_box_blk rfl _ (.tmp 1) rfl cs rfl ?_; intro g w1 hg1 hg2 K1 L1)
      | fail)
    refine wp_region_held (S := fun w' => Blk w' g 32 cs) (by kernel_rfl) ?_
    change wpAnyH _ _ _ _ _ _ _ _ w1.drew
    have S0 : Hid (Blk w1.drew g 32 cs) := K1.out.drew
    have b0 : Hid (Below w.heap.size w w1.drew) := L1.out.drew
    refine wpAnyH_take (i := 0) (v := _) rfl (by kernel_rfl) (by kernel_rfl) (by kernel_rfl) (fun _ _ _ h => h) (yieldsIf_move (by kernel_rfl) (.tmp 0) rfl (.int .u16 7) (by kernel_rfl)) S0.out ?_
    refine wpAnyH_one 1 _ (by kernel_rfl) rfl fun K hK => ?_
    go_simp
    refine (CK.out _).mono ?_
    rintro e v1 ⟨rfl, rfl⟩
    refine hK _ _ S0.out ?_
    clear hK K
    refine wpAnyH_take (i := 2) (v := (.bool false)) rfl (by kernel_rfl) (by kernel_rfl) (by kernel_rfl) (fun _ _ _ h => h) (.inl ⟨by kernel_rfl, fun w _ => by go_simp⟩) S0.out ?_
    refine wpAnyH_take (i := 3) (v := _) rfl (by kernel_rfl) (by kernel_rfl) (by kernel_rfl) (fun _ _ _ h => h) (yieldsIf_move (by kernel_rfl) (.tmp 13) rfl (.bool false) (by kernel_rfl)) S0.out ?_
    refine wpAnyH_take (i := 4) (v := _) rfl (by kernel_rfl) (by kernel_rfl) (by kernel_rfl) (fun _ _ _ h => h) (yieldsIf_move (by kernel_rfl) (.tmp 0) rfl (.int .u16 7) (by kernel_rfl)) S0.out ?_
    refine wpAnyH_take (i := 5) (v := _) rfl (by kernel_rfl) (by kernel_rfl) (by kernel_rfl) (fun _ _ _ h => h) (yieldsIf_load_blk (by kernel_rfl) _ (.tmp 3) rfl g (by kernel_rfl) _ cs (fun w h => h) 69 _ Tryd.underlying32 rfl size_ask HL) S0.out ?_
    refine wpAnyH_take (i := 7) (v := _) rfl (by kernel_rfl) (by kernel_rfl) (by kernel_rfl) (fun _ _ _ h => h) (yieldsIf_load_blk (by kernel_rfl) _ (.tmp 3) rfl g (by kernel_rfl) _ cs (fun w h => h) 69 _ Tryd.underlying32 rfl size_ask HL) S0.out ?_
    refine wpAnyH_one 6 _ (by kernel_rfl) rfl fun K hK => ?_
    go_simp
    refine (CA.out _ b0.out).mono ?_
    rintro e v1 ⟨ds, rfl, hds, L01⟩
    have S1 := Lib.hid (S0.out.over L01)
    have b1 := Lib.hid (step b0.out L01)
    have HDS := Lib.hid hds
    refine hK _ _ S1.out ?_
    clear hK K hds L01
    refine wpAnyH_one 8 _ (by kernel_rfl) rfl fun K hK => ?_
    go_simp
    refine (CS.out _ ds HDS.out b1.out).mono ?_
    rintro e w3 ⟨rfl, L02⟩
    have S2 := Lib.hid (S1.out.over L02)
    have M3 := Lib.hid (step b1.out L02)
    refine hK _ _ S2.out ?_
    clear hK K L02 HDS S1 b1
    refine wpAnyH_take (i := 9) (v := (.bool false)) rfl (by kernel_rfl) (by kernel_rfl) (by kernel_rfl) (fun _ _ _ h => h) (.inl ⟨by kernel_rfl, fun w _ => by go_simp⟩) S2.out ?_
    refine wpAnyH_take (i := 10) (v := (.bool false)) rfl (by kernel_rfl) (by kernel_rfl) (by kernel_rfl) (fun _ _ _ h => h) (.inl ⟨by kernel_rfl, fun w _ => by go_simp⟩) S2.out ?_
    refine wpAnyH_done (by kernel_rfl) ?_ _
    go_simp
    have K3 := Lib.hid S2.out
    clear S0 b0 K1 L1 S2
    have hs3 := M3.out.size
    obtain ⟨c61, c62⟩ := FL.out w3 g K3.out
    go_wp2
    go_loop [6] (fun i => ∃ j : Nat, i = .int .i64 j ∧ j ≤ M2 ∧ Hid (shut (a.locks.take j) = true)) (fun i => M2 - (intOf i).toNat)
    case atStart => exact ⟨0, rfl, Nat.zero_le _, H0.out⟩
    case round =>
      obtain ⟨j, rfl, hj, HS⟩ := hrel
      by_cases hlt : j < M2
      · obtain ⟨x, hx⟩ := HGET.out j hlt
        obtain ⟨b, off, rfl, k0, _⟩ := HCELL.out w3 M3.out j x hlt hx
        rw [HOP.out j x hx] at k0
        have HS2 := Lib.hid (HST.out j x hx HS.out (HOP.out j x hx))
        clear hx
        go_wp2
        go_round
        case rel => exact ⟨j + 1, by simp, by omega, HS2⟩
        case measure => simp [intOf]; omega
      · obtain rfl : M2 = j := by omega
        have N0 : Hid (Below w3.heap.size w3 w3) := Below.refl _ _
        have H00 : Hid (Own w3 w3.heap.size (.slice none 0 0) []) := Own.nil _ _
        have hg3 : g < w3.heap.size := K3.out.lt
        obtain ⟨c51, c52, c53, c54, c55, c56, c57, c58, c59, c60⟩ := FC.out w3 g K3.out
        go_wp2_with fail
        refine (CL8.out w3 w3.heap.size _ ([]) a.file H00.out (by simp) N0.out.size l_file u_file).mono ?_
        rintro e y1 ⟨v1, rfl, ho1, L1⟩
        have HO1 := Lib.hid ho1
        have N1 := Lib.hid (N0.out.trans L1)
        have Ky1 := Lib.hid (K3.out.below N1.out hg3)
        clear ho1 L1
        clear c51 c52 c53 c54 c55 c56 c57 c58 c59 c60
        obtain ⟨c51, c52, c53, c54, c55, c56, c57, c58, c59, c60⟩ := FC.out y1 g Ky1.out
        obtain ⟨c61, c62⟩ := FL.out y1 g Ky1.out
        go_wp2
        go_ret2
        refine HQ.out _ _ _ rfl ?_ (M3.out.trans (N1.out.mono hs3))
        have h9 := Own.mono HO1.out hs3
        simpa [List.append_assoc] using h9
  · subst h8
    rw [if_neg (by decide)] at HOK
    have HQ := Lib.hid (HQ0.out HOK.out)
    have hb0 : bodyF 8 a = le a.file 8 ++ (le a.at_ 8 ++ le a.n 4) := rfl
    rw [hb0] at HQ
    clear HOK HQ0 hb0
    go_enter Tryd.func13, Tryd.ntmps13
    go_upto_region 1 with (first
      | ((with_reducible show wpList _ _ _ (⟨some 3, _, _, _, _, _⟩ :: _) _ _); refine wpList_box_blk rfl _ (.tmp 1) rfl cs rfl ?_; intro g w1 hg1 hg2 K1 L1)
      | fail)
    refine wp_region_held (S := fun w' => Blk w' g 32 cs) (by kernel_rfl) ?_
    change wpAnyH _ _ _ _ _ _ _ _ w1.drew
    have S0 : Hid (Blk w1.drew g 32 cs) := K1.out.drew
    have b0 : Hid (Below w.heap.size w w1.drew) := L1.out.drew
    refine wpAnyH_take (i := 0) (v := _) rfl (by kernel_rfl) (by kernel_rfl) (by kernel_rfl) (fun _ _ _ h => h) (yieldsIf_move (by kernel_rfl) (.tmp 0) rfl (.int .u16 8) (by kernel_rfl)) S0.out ?_
    refine wpAnyH_one 1 _ (by kernel_rfl) rfl fun K hK => ?_
    go_simp
    refine (CK.out _).mono ?_
    rintro e v1 ⟨rfl, rfl⟩
    refine hK _ _ S0.out ?_
    clear hK K
    refine wpAnyH_take (i := 2) (v := (.bool false)) rfl (by kernel_rfl) (by kernel_rfl) (by kernel_rfl) (fun _ _ _ h => h) (.inl ⟨by kernel_rfl, fun w _ => by go_simp⟩) S0.out ?_
    refine wpAnyH_take (i := 3) (v := _) rfl (by kernel_rfl) (by kernel_rfl) (by kernel_rfl) (fun _ _ _ h => h) (yieldsIf_move (by kernel_rfl) (.tmp 13) rfl (.bool false) (by kernel_rfl)) S0.out ?_
    refine wpAnyH_take (i := 4) (v := _) rfl (by kernel_rfl) (by kernel_rfl) (by kernel_rfl) (fun _ _ _ h => h) (yieldsIf_move (by kernel_rfl) (.tmp 0) rfl (.int .u16 8) (by kernel_rfl)) S0.out ?_
    refine wpAnyH_take (i := 5) (v := _) rfl (by kernel_rfl) (by kernel_rfl) (by kernel_rfl) (fun _ _ _ h => h) (yieldsIf_load_blk (by kernel_rfl) _ (.tmp 3) rfl g (by kernel_rfl) _ cs (fun w h => h) 69 _ Tryd.underlying32 rfl size_ask HL) S0.out ?_
    refine wpAnyH_take (i := 7) (v := _) rfl (by kernel_rfl) (by kernel_rfl) (by kernel_rfl) (fun _ _ _ h => h) (yieldsIf_load_blk (by kernel_rfl) _ (.tmp 3) rfl g (by kernel_rfl) _ cs (fun w h => h) 69 _ Tryd.underlying32 rfl size_ask HL) S0.out ?_
    refine wpAnyH_one 6 _ (by kernel_rfl) rfl fun K hK => ?_
    go_simp
    refine (CA.out _ b0.out).mono ?_
    rintro e v1 ⟨ds, rfl, hds, L01⟩
    have S1 := Lib.hid (S0.out.over L01)
    have b1 := Lib.hid (step b0.out L01)
    have HDS := Lib.hid hds
    refine hK _ _ S1.out ?_
    clear hK K hds L01
    refine wpAnyH_one 8 _ (by kernel_rfl) rfl fun K hK => ?_
    go_simp
    refine (CS.out _ ds HDS.out b1.out).mono ?_
    rintro e w3 ⟨rfl, L02⟩
    have S2 := Lib.hid (S1.out.over L02)
    have M3 := Lib.hid (step b1.out L02)
    refine hK _ _ S2.out ?_
    clear hK K L02 HDS S1 b1
    refine wpAnyH_take (i := 9) (v := (.bool false)) rfl (by kernel_rfl) (by kernel_rfl) (by kernel_rfl) (fun _ _ _ h => h) (.inl ⟨by kernel_rfl, fun w _ => by go_simp⟩) S2.out ?_
    refine wpAnyH_take (i := 10) (v := (.bool false)) rfl (by kernel_rfl) (by kernel_rfl) (by kernel_rfl) (fun _ _ _ h => h) (.inl ⟨by kernel_rfl, fun w _ => by go_simp⟩) S2.out ?_
    refine wpAnyH_done (by kernel_rfl) ?_ _
    go_simp
    have K3 := Lib.hid S2.out
    clear S0 b0 K1 L1 S2
    have hs3 := M3.out.size
    obtain ⟨c61, c62⟩ := FL.out w3 g K3.out
    go_wp2
    go_loop [6] (fun i => ∃ j : Nat, i = .int .i64 j ∧ j ≤ M2 ∧ Hid (shut (a.locks.take j) = true)) (fun i => M2 - (intOf i).toNat)
    case atStart => exact ⟨0, rfl, Nat.zero_le _, H0.out⟩
    case round =>
      obtain ⟨j, rfl, hj, HS⟩ := hrel
      by_cases hlt : j < M2
      · obtain ⟨x, hx⟩ := HGET.out j hlt
        obtain ⟨b, off, rfl, k0, _⟩ := HCELL.out w3 M3.out j x hlt hx
        rw [HOP.out j x hx] at k0
        have HS2 := Lib.hid (HST.out j x hx HS.out (HOP.out j x hx))
        clear hx
        go_wp2
        go_round
        case rel => exact ⟨j + 1, by simp, by omega, HS2⟩
        case measure => simp [intOf]; omega
      · obtain rfl : M2 = j := by omega
        have N0 : Hid (Below w3.heap.size w3 w3) := Below.refl _ _
        have H00 : Hid (Own w3 w3.heap.size (.slice none 0 0) []) := Own.nil _ _
        have hg3 : g < w3.heap.size := K3.out.lt
        obtain ⟨c51, c52, c53, c54, c55, c56, c57, c58, c59, c60⟩ := FC.out w3 g K3.out
        go_wp2_with fail
        refine (CL8.out w3 w3.heap.size _ ([]) a.file H00.out (by simp) N0.out.size l_file u_file).mono ?_
        rintro e y1 ⟨v1, rfl, ho1, L1⟩
        have HO1 := Lib.hid ho1
        have N1 := Lib.hid (N0.out.trans L1)
        have Ky1 := Lib.hid (K3.out.below N1.out hg3)
        clear ho1 L1
        clear c51 c52 c53 c54 c55 c56 c57 c58 c59 c60
        obtain ⟨c51, c52, c53, c54, c55, c56, c57, c58, c59, c60⟩ := FC.out y1 g Ky1.out
        obtain ⟨c61, c62⟩ := FL.out y1 g Ky1.out
        go_wp2_with fail
        refine (CL8.out y1 w3.heap.size _ ([] ++ le a.file 8) a.at_ HO1.out (by simp [le_length]) N1.out.size l_at_ u_at_).mono ?_
        rintro e y2 ⟨v2, rfl, ho2, L2⟩
        have HO2 := Lib.hid ho2
        have N2 := Lib.hid (N1.out.trans L2)
        have Ky2 := Lib.hid (K3.out.below N2.out hg3)
        clear ho2 L2
        clear c51 c52 c53 c54 c55 c56 c57 c58 c59 c60 c61 c62
        obtain ⟨c51, c52, c53, c54, c55, c56, c57, c58, c59, c60⟩ := FC.out y2 g Ky2.out
        obtain ⟨c61, c62⟩ := FL.out y2 g Ky2.out
        go_wp2_with fail
        refine (CL4.out y2 w3.heap.size _ (([] ++ le a.file 8) ++ le a.at_ 8) a.n HO2.out (by simp [le_length]) N2.out.size l_n u_n).mono ?_
        rintro e y3 ⟨v3, rfl, ho3, L3⟩
        have HO3 := Lib.hid ho3
        have N3 := Lib.hid (N2.out.trans L3)
        have Ky3 := Lib.hid (K3.out.below N3.out hg3)
        clear ho3 L3
        clear c51 c52 c53 c54 c55 c56 c57 c58 c59 c60 c61 c62
        obtain ⟨c51, c52, c53, c54, c55, c56, c57, c58, c59, c60⟩ := FC.out y3 g Ky3.out
        obtain ⟨c61, c62⟩ := FL.out y3 g Ky3.out
        go_wp2
        go_ret2
        refine HQ.out _ _ _ rfl ?_ (M3.out.trans (N3.out.mono hs3))
        have h9 := Own.mono HO3.out hs3
        simpa [List.append_assoc] using h9
  · subst h9
    rw [if_neg (by decide)] at HOK
    have HQ := Lib.hid (HQ0.out HOK.out)
    have hb0 : bodyF 9 a = le a.file 8 ++ (le a.at_ 8 ++ (le (X2 : Int) 4 ++ a.data)) := by unfold bodyF; rw [if_neg (by decide), if_neg (by decide), if_pos rfl, HX.out.len]
    rw [hb0] at HQ
    clear HOK HQ0 hb0
    go_enter Tryd.func13, Tryd.ntmps13
    go_upto_region 1 with (first
      | ((with_reducible show wpList _ _ _ (⟨some 3, _, _, _, _, _⟩ :: _) _ _); refine wpList_box_blk rfl _ (.tmp 1) rfl cs rfl ?_; intro g w1 hg1 hg2 K1 L1)
      | fail)
    refine wp_region_held (S := fun w' => Blk w' g 32 cs) (by kernel_rfl) ?_
    change wpAnyH _ _ _ _ _ _ _ _ w1.drew
    have S0 : Hid (Blk w1.drew g 32 cs) := K1.out.drew
    have b0 : Hid (Below w.heap.size w w1.drew) := L1.out.drew
    refine wpAnyH_take (i := 0) (v := _) rfl (by kernel_rfl) (by kernel_rfl) (by kernel_rfl) (fun _ _ _ h => h) (yieldsIf_move (by kernel_rfl) (.tmp 0) rfl (.int .u16 9) (by kernel_rfl)) S0.out ?_
    refine wpAnyH_one 1 _ (by kernel_rfl) rfl fun K hK => ?_
    go_simp
    refine (CK.out _).mono ?_
    rintro e v1 ⟨rfl, rfl⟩
    refine hK _ _ S0.out ?_
    clear hK K
    refine wpAnyH_take (i := 2) (v := (.bool false)) rfl (by kernel_rfl) (by kernel_rfl) (by kernel_rfl) (fun _ _ _ h => h) (.inl ⟨by kernel_rfl, fun w _ => by go_simp⟩) S0.out ?_
    refine wpAnyH_take (i := 3) (v := _) rfl (by kernel_rfl) (by kernel_rfl) (by kernel_rfl) (fun _ _ _ h => h) (yieldsIf_move (by kernel_rfl) (.tmp 13) rfl (.bool false) (by kernel_rfl)) S0.out ?_
    refine wpAnyH_take (i := 4) (v := _) rfl (by kernel_rfl) (by kernel_rfl) (by kernel_rfl) (fun _ _ _ h => h) (yieldsIf_move (by kernel_rfl) (.tmp 0) rfl (.int .u16 9) (by kernel_rfl)) S0.out ?_
    refine wpAnyH_take (i := 5) (v := _) rfl (by kernel_rfl) (by kernel_rfl) (by kernel_rfl) (fun _ _ _ h => h) (yieldsIf_load_blk (by kernel_rfl) _ (.tmp 3) rfl g (by kernel_rfl) _ cs (fun w h => h) 69 _ Tryd.underlying32 rfl size_ask HL) S0.out ?_
    refine wpAnyH_take (i := 7) (v := _) rfl (by kernel_rfl) (by kernel_rfl) (by kernel_rfl) (fun _ _ _ h => h) (yieldsIf_load_blk (by kernel_rfl) _ (.tmp 3) rfl g (by kernel_rfl) _ cs (fun w h => h) 69 _ Tryd.underlying32 rfl size_ask HL) S0.out ?_
    refine wpAnyH_one 6 _ (by kernel_rfl) rfl fun K hK => ?_
    go_simp
    refine (CA.out _ b0.out).mono ?_
    rintro e v1 ⟨ds, rfl, hds, L01⟩
    have S1 := Lib.hid (S0.out.over L01)
    have b1 := Lib.hid (step b0.out L01)
    have HDS := Lib.hid hds
    refine hK _ _ S1.out ?_
    clear hK K hds L01
    refine wpAnyH_one 8 _ (by kernel_rfl) rfl fun K hK => ?_
    go_simp
    refine (CS.out _ ds HDS.out b1.out).mono ?_
    rintro e w3 ⟨rfl, L02⟩
    have S2 := Lib.hid (S1.out.over L02)
    have M3 := Lib.hid (step b1.out L02)
    refine hK _ _ S2.out ?_
    clear hK K L02 HDS S1 b1
    refine wpAnyH_take (i := 9) (v := (.bool false)) rfl (by kernel_rfl) (by kernel_rfl) (by kernel_rfl) (fun _ _ _ h => h) (.inl ⟨by kernel_rfl, fun w _ => by go_simp⟩) S2.out ?_
    refine wpAnyH_take (i := 10) (v := (.bool false)) rfl (by kernel_rfl) (by kernel_rfl) (by kernel_rfl) (fun _ _ _ h => h) (.inl ⟨by kernel_rfl, fun w _ => by go_simp⟩) S2.out ?_
    refine wpAnyH_done (by kernel_rfl) ?_ _
    go_simp
    have K3 := Lib.hid S2.out
    clear S0 b0 K1 L1 S2
    have hs3 := M3.out.size
    obtain ⟨c61, c62⟩ := FL.out w3 g K3.out
    go_wp2
    go_loop [6] (fun i => ∃ j : Nat, i = .int .i64 j ∧ j ≤ M2 ∧ Hid (shut (a.locks.take j) = true)) (fun i => M2 - (intOf i).toNat)
    case atStart => exact ⟨0, rfl, Nat.zero_le _, H0.out⟩
    case round =>
      obtain ⟨j, rfl, hj, HS⟩ := hrel
      by_cases hlt : j < M2
      · obtain ⟨x, hx⟩ := HGET.out j hlt
        obtain ⟨b, off, rfl, k0, _⟩ := HCELL.out w3 M3.out j x hlt hx
        rw [HOP.out j x hx] at k0
        have HS2 := Lib.hid (HST.out j x hx HS.out (HOP.out j x hx))
        clear hx
        go_wp2
        go_round
        case rel => exact ⟨j + 1, by simp, by omega, HS2⟩
        case measure => simp [intOf]; omega
      · obtain rfl : M2 = j := by omega
        have N0 : Hid (Below w3.heap.size w3 w3) := Below.refl _ _
        have H00 : Hid (Own w3 w3.heap.size (.slice none 0 0) []) := Own.nil _ _
        have hg3 : g < w3.heap.size := K3.out.lt
        obtain ⟨c51, c52, c53, c54, c55, c56, c57, c58, c59, c60⟩ := FC.out w3 g K3.out
        go_wp2_with fail
        refine (CL8.out w3 w3.heap.size _ ([]) a.file H00.out (by simp) N0.out.size l_file u_file).mono ?_
        rintro e y1 ⟨v1, rfl, ho1, L1⟩
        have HO1 := Lib.hid ho1
        have N1 := Lib.hid (N0.out.trans L1)
        have Ky1 := Lib.hid (K3.out.below N1.out hg3)
        clear ho1 L1
        clear c51 c52 c53 c54 c55 c56 c57 c58 c59 c60
        obtain ⟨c51, c52, c53, c54, c55, c56, c57, c58, c59, c60⟩ := FC.out y1 g Ky1.out
        obtain ⟨c61, c62⟩ := FL.out y1 g Ky1.out
        go_wp2_with fail
        refine (CL8.out y1 w3.heap.size _ ([] ++ le a.file 8) a.at_ HO1.out (by simp [le_length]) N1.out.size l_at_ u_at_).mono ?_
        rintro e y2 ⟨v2, rfl, ho2, L2⟩
        have HO2 := Lib.hid ho2
        have N2 := Lib.hid (N1.out.trans L2)
        have Ky2 := Lib.hid (K3.out.below N2.out hg3)
        clear ho2 L2
        clear c51 c52 c53 c54 c55 c56 c57 c58 c59 c60 c61 c62
        obtain ⟨c51, c52, c53, c54, c55, c56, c57, c58, c59, c60⟩ := FC.out y2 g Ky2.out
        obtain ⟨c61, c62⟩ := FL.out y2 g Ky2.out
        go_wp2_with fail
        refine (CL4.out y2 w3.heap.size _ (([] ++ le a.file 8) ++ le a.at_ 8) (X2 : Int) HO2.out (by simp [le_length]) N2.out.size (by omega) (by omega)).mono ?_
        rintro e y3 ⟨v3, rfl, ho3, L3⟩
        have HO3 := Lib.hid ho3
        have N3 := Lib.hid (N2.out.trans L3)
        have Ky3 := Lib.hid (K3.out.below N3.out hg3)
        clear ho3 L3
        clear c51 c52 c53 c54 c55 c56 c57 c58 c59 c60 c61 c62
        obtain ⟨c51, c52, c53, c54, c55, c56, c57, c58, c59, c60⟩ := FC.out y3 g Ky3.out
        obtain ⟨c61, c62⟩ := FL.out y3 g Ky3.out
        have HXD := Lib.hid (HX.out.over (M3.out.trans (N3.out.mono hs3)))
        go_wp2_with (first
          | (at_builtin; refine wpList_append_bytes rfl (.tmp 119) (.tmp 121) rfl w3.heap.size _ ((([] ++ le a.file 8) ++ le a.at_ 8) ++ le (X2 : Int) 4) rfl HO3.out y3.heap.size X1 X2 X3 a.data rfl HXD.out (by rw [HX.out.len]; simp only [List.length_append, le_length, List.length_nil, List.length_cons]; omega) N3.out.size ?_; intro va z3 hoa hba hgra)
          | fail)
        go_ret2
        refine HQ.out _ _ _ rfl ?_ (M3.out.trans ((N3.out.trans hba).mono hs3))
        have h9 := Own.mono hoa.out hs3
        simpa [List.append_assoc] using h9
  · subst h10
    rw [if_neg (by decide)] at HOK
    have HQ := Lib.hid (HQ0.out HOK.out)
    have hb0 : bodyF 10 a = le a.file 8 ++ (le (M2 : Int) 2 ++ (List.replicate 2 0 ++ locksB a.locks)) := by unfold bodyF; rw [if_neg (by decide), if_neg (by decide), if_neg (by decide), if_pos rfl, HM.out.len]
    rw [hb0] at HQ
    clear HOK HQ0 hb0
    go_enter Tryd.func13, Tryd.ntmps13
    go_upto_region 1 with (first
      | ((with_reducible show wpList _ _ _ (⟨some 3, _, _, _, _, _⟩ :: _) _ _); refine wpList_box_blk rfl _ (.tmp 1) rfl cs rfl ?_; intro g w1 hg1 hg2 K1 L1)
      | fail)
    refine wp_region_held (S := fun w' => Blk w' g 32 cs) (by kernel_rfl) ?_
    change wpAnyH _ _ _ _ _ _ _ _ w1.drew
    have S0 : Hid (Blk w1.drew g 32 cs) := K1.out.drew
    have b0 : Hid (Below w.heap.size w w1.drew) := L1.out.drew
    refine wpAnyH_take (i := 0) (v := _) rfl (by kernel_rfl) (by kernel_rfl) (by kernel_rfl) (fun _ _ _ h => h) (yieldsIf_move (by kernel_rfl) (.tmp 0) rfl (.int .u16 10) (by kernel_rfl)) S0.out ?_
    refine wpAnyH_one 1 _ (by kernel_rfl) rfl fun K hK => ?_
    go_simp
    refine (CK.out _).mono ?_
    rintro e v1 ⟨rfl, rfl⟩
    refine hK _ _ S0.out ?_
    clear hK K
    refine wpAnyH_take (i := 2) (v := (.bool false)) rfl (by kernel_rfl) (by kernel_rfl) (by kernel_rfl) (fun _ _ _ h => h) (.inl ⟨by kernel_rfl, fun w _ => by go_simp⟩) S0.out ?_
    refine wpAnyH_take (i := 3) (v := _) rfl (by kernel_rfl) (by kernel_rfl) (by kernel_rfl) (fun _ _ _ h => h) (yieldsIf_move (by kernel_rfl) (.tmp 13) rfl (.bool false) (by kernel_rfl)) S0.out ?_
    refine wpAnyH_take (i := 4) (v := _) rfl (by kernel_rfl) (by kernel_rfl) (by kernel_rfl) (fun _ _ _ h => h) (yieldsIf_move (by kernel_rfl) (.tmp 0) rfl (.int .u16 10) (by kernel_rfl)) S0.out ?_
    refine wpAnyH_take (i := 5) (v := _) rfl (by kernel_rfl) (by kernel_rfl) (by kernel_rfl) (fun _ _ _ h => h) (yieldsIf_load_blk (by kernel_rfl) _ (.tmp 3) rfl g (by kernel_rfl) _ cs (fun w h => h) 69 _ Tryd.underlying32 rfl size_ask HL) S0.out ?_
    refine wpAnyH_take (i := 7) (v := _) rfl (by kernel_rfl) (by kernel_rfl) (by kernel_rfl) (fun _ _ _ h => h) (yieldsIf_load_blk (by kernel_rfl) _ (.tmp 3) rfl g (by kernel_rfl) _ cs (fun w h => h) 69 _ Tryd.underlying32 rfl size_ask HL) S0.out ?_
    refine wpAnyH_one 6 _ (by kernel_rfl) rfl fun K hK => ?_
    go_simp
    refine (CA.out _ b0.out).mono ?_
    rintro e v1 ⟨ds, rfl, hds, L01⟩
    have S1 := Lib.hid (S0.out.over L01)
    have b1 := Lib.hid (step b0.out L01)
    have HDS := Lib.hid hds
    refine hK _ _ S1.out ?_
    clear hK K hds L01
    refine wpAnyH_one 8 _ (by kernel_rfl) rfl fun K hK => ?_
    go_simp
    refine (CS.out _ ds HDS.out b1.out).mono ?_
    rintro e w3 ⟨rfl, L02⟩
    have S2 := Lib.hid (S1.out.over L02)
    have M3 := Lib.hid (step b1.out L02)
    refine hK _ _ S2.out ?_
    clear hK K L02 HDS S1 b1
    refine wpAnyH_take (i := 9) (v := (.bool false)) rfl (by kernel_rfl) (by kernel_rfl) (by kernel_rfl) (fun _ _ _ h => h) (.inl ⟨by kernel_rfl, fun w _ => by go_simp⟩) S2.out ?_
    refine wpAnyH_take (i := 10) (v := (.bool false)) rfl (by kernel_rfl) (by kernel_rfl) (by kernel_rfl) (fun _ _ _ h => h) (.inl ⟨by kernel_rfl, fun w _ => by go_simp⟩) S2.out ?_
    refine wpAnyH_done (by kernel_rfl) ?_ _
    go_simp
    have K3 := Lib.hid S2.out
    clear S0 b0 K1 L1 S2
    have hs3 := M3.out.size
    obtain ⟨c61, c62⟩ := FL.out w3 g K3.out
    go_wp2
    go_loop [6] (fun i => ∃ j : Nat, i = .int .i64 j ∧ j ≤ M2 ∧ Hid (shut (a.locks.take j) = true)) (fun i => M2 - (intOf i).toNat)
    case atStart => exact ⟨0, rfl, Nat.zero_le _, H0.out⟩
    case round =>
      obtain ⟨j, rfl, hj, HS⟩ := hrel
      by_cases hlt : j < M2
      · obtain ⟨x, hx⟩ := HGET.out j hlt
        obtain ⟨b, off, rfl, k0, _⟩ := HCELL.out w3 M3.out j x hlt hx
        rw [HOP.out j x hx] at k0
        have HS2 := Lib.hid (HST.out j x hx HS.out (HOP.out j x hx))
        clear hx
        go_wp2
        go_round
        case rel => exact ⟨j + 1, by simp, by omega, HS2⟩
        case measure => simp [intOf]; omega
      · obtain rfl : M2 = j := by omega
        have N0 : Hid (Below w3.heap.size w3 w3) := Below.refl _ _
        have H00 : Hid (Own w3 w3.heap.size (.slice none 0 0) []) := Own.nil _ _
        have hg3 : g < w3.heap.size := K3.out.lt
        obtain ⟨c51, c52, c53, c54, c55, c56, c57, c58, c59, c60⟩ := FC.out w3 g K3.out
        go_wp2_with fail
        refine (CL8.out w3 w3.heap.size _ ([]) a.file H00.out (by simp) N0.out.size l_file u_file).mono ?_
        rintro e y1 ⟨v1, rfl, ho1, L1⟩
        have HO1 := Lib.hid ho1
        have N1 := Lib.hid (N0.out.trans L1)
        have Ky1 := Lib.hid (K3.out.below N1.out hg3)
        clear ho1 L1
        clear c51 c52 c53 c54 c55 c56 c57 c58 c59 c60
        obtain ⟨c51, c52, c53, c54, c55, c56, c57, c58, c59, c60⟩ := FC.out y1 g Ky1.out
        obtain ⟨c61, c62⟩ := FL.out y1 g Ky1.out
        go_wp2_with fail
        refine (CL2.out y1 w3.heap.size _ ([] ++ le a.file 8) (M2 : Int) HO1.out (by simp [le_length]) N1.out.size (by omega) (by omega)).mono ?_
        rintro e y2 ⟨v2, rfl, ho2, L2⟩
        have HO2 := Lib.hid ho2
        have N2 := Lib.hid (N1.out.trans L2)
        have Ky2 := Lib.hid (K3.out.below N2.out hg3)
        clear ho2 L2
        clear c51 c52 c53 c54 c55 c56 c57 c58 c59 c60 c61 c62
        obtain ⟨c51, c52, c53, c54, c55, c56, c57, c58, c59, c60⟩ := FC.out y2 g Ky2.out
        obtain ⟨c61, c62⟩ := FL.out y2 g Ky2.out
        go_wp2_with fail
        refine (CL2.out y2 w3.heap.size _ (([] ++ le a.file 8) ++ le (M2 : Int) 2) 0 HO2.out (by simp [le_length]) N2.out.size (Int.le_refl 0) (by decide)).mono ?_
        rintro e y3 ⟨v3, rfl, ho3, L3⟩
        have HO3 := Lib.hid ho3
        have N3 := Lib.hid (N2.out.trans L3)
        have Ky3 := Lib.hid (K3.out.below N3.out hg3)
        clear ho3 L3
        clear c51 c52 c53 c54 c55 c56 c57 c58 c59 c60 c61 c62
        obtain ⟨c51, c52, c53, c54, c55, c56, c57, c58, c59, c60⟩ := FC.out y3 g Ky3.out
        obtain ⟨c61, c62⟩ := FL.out y3 g Ky3.out
        obtain ⟨pre, hpre⟩ : ∃ f : Nat → List Int, f = fun j => [] ++ le a.file 8 ++ le (M2 : Int) 2 ++ le 0 2 ++ locksB (a.locks.take j) := ⟨_, rfl⟩
        have HP0 : Hid (Own y3 w3.heap.size v3 (pre 0)) := by show Own y3 w3.heap.size v3 (pre 0); rw [hpre]; have h := HO3.out; simpa [locksB] using h
        have HPS : Hid (∀ (j : Nat) (x : LockV), a.locks[j]? = some x → pre (j + 1) = pre j ++ le x.at_ 8 ++ le x.n 8 ++ le x.md 2 ++ le 0 2) := fun j x hx => by
          rw [hpre]
          show [] ++ le a.file 8 ++ le (M2 : Int) 2 ++ le 0 2 ++ locksB (a.locks.take (j + 1)) = _
          rw [List.take_add_one, hx, Option.toList_some, locksB_snoc]
          show _ = [] ++ le a.file 8 ++ le (M2 : Int) 2 ++ le 0 2 ++ locksB (a.locks.take j) ++ le x.at_ 8 ++ le x.n 8 ++ le x.md 2 ++ le 0 2
          have e0 : le 0 2 = List.replicate 2 0 := rfl
          rw [e0]
          simp only [lockB, List.append_assoc]
        have HPL : Hid (∀ j, j ≤ M2 → (pre j).length ≤ 1000) := fun j hj => by
          rw [hpre]
          show ([] ++ le a.file 8 ++ le (M2 : Int) 2 ++ le 0 2 ++ locksB (a.locks.take j)).length ≤ 1000
          simp only [List.length_append, le_length, List.length_nil, locksB_len, List.length_take]
          omega
        have HPN : Hid (pre M2 = le a.file 8 ++ (le (M2 : Int) 2 ++ (List.replicate 2 0 ++ locksB a.locks))) := by
          show _ = _
          rw [hpre]
          show [] ++ le a.file 8 ++ le (M2 : Int) 2 ++ le 0 2 ++ locksB (a.locks.take M2) = _
          rw [← HM.out.len, List.take_length]
          have e0 : le 0 2 = List.replicate 2 0 := rfl
          rw [e0]
          simp only [List.append_assoc, List.nil_append]
        rw [← HPN.out] at HQ
        have HK10 := Lib.hid Ky3.out
        clear HPN hpre HO3 HO1 HO2 Ky1 Ky2 N1 N2 H00 N0
        go_wp2
        go_loopw [7, 10] (fun v i wr => ∃ j : Nat, i = .int .i64 j ∧ j ≤ M2 ∧ Hid (Own wr w3.heap.size v (pre j)) ∧ Hid (Below w3.heap.size w3 wr)) (fun _ i _ => M2 - (intOf i).toNat)
        case atStart => exact ⟨0, rfl, Nat.zero_le _, HP0, N3⟩
        case round =>
          obtain ⟨j, rfl, hj, HO, NR⟩ := hrel
          clear c51 c52 c53 c54 c55 c56 c57 c58 c59 c60 c61 c62
          have KR := Lib.hid (K3.out.below NR.out hg3)
          obtain ⟨c61, c62⟩ := FL.out wr g KR.out
          by_cases hlt : j < M2
          · obtain ⟨x, hx⟩ := HGET.out j hlt
            have MR := Lib.hid (M3.out.trans (NR.out.mono hs3))
            obtain ⟨b, off, rfl, k0, k1, k2, k3⟩ := HCELL.out wr MR.out j x hlt hx
            have HE1 := Lib.hid (HPS.out j x hx)
            have hxo := KM.out x (List.mem_of_getElem? hx)
            obtain ⟨x0, x1⟩ := hxo.at_
            obtain ⟨y0, y1⟩ := hxo.n
            obtain ⟨z0, z1⟩ := hxo.md
            have z_m : IntKind.u64.wrap x.md = x.md := by rw [IntKind.wrap_u64]; omega
            have hpl := HPL.out j hj
            have HCJ : Hid (∀ w', Below w3.heap.size w3 w' → w'.cell? ⟨g, 62, none⟩ = some (.slice (some ⟨b, off, none⟩) M2 M3') ∧ w'.cell? ⟨b, off + j * 4 + 2, none⟩ = some (.int .u64 x.n) ∧ w'.cell? ⟨b, off + j * 4 + 3, none⟩ = some (.int .u16 x.md)) := fun w' hN => by
              obtain ⟨b', off', h1, _, _, h4, h5⟩ := HCELL.out w' (M3.out.trans (hN.mono hs3)) j x hlt hx
              injection h1 with h1
              injection h1 with h1 h2
              subst h1 h2
              exact ⟨(FL.out w' g (K3.out.below hN hg3)).2, h4, h5⟩
            clear hx hxo
            go_wp2_with fail
            refine (CL8.out wr w3.heap.size _ (pre j) x.at_ HO.out (by omega) NR.out.size x0 x1).mono ?_
            rintro e q1 ⟨u1, rfl, ho, L⟩
            have HA1 := Lib.hid ho
            have NA1 := Lib.hid (NR.out.trans L)
            clear ho L c61 c62 k0 k1 k2 k3
            obtain ⟨c62, k2, k3⟩ := HCJ.out q1 NA1.out
            go_wp2_with fail
            refine (CL8.out q1 w3.heap.size _ (pre j ++ le x.at_ 8) x.n HA1.out (by simp only [List.length_append, le_length]; omega) NA1.out.size y0 y1).mono ?_
            rintro e q2 ⟨u2, rfl, ho, L⟩
            have HA2 := Lib.hid ho
            have NA2 := Lib.hid (NA1.out.trans L)
            clear ho L c62 k2 k3
            obtain ⟨c62, k2, k3⟩ := HCJ.out q2 NA2.out
            go_wp2_with fail
            refine (CL2.out q2 w3.heap.size _ (pre j ++ le x.at_ 8 ++ le x.n 8) x.md HA2.out (by simp only [List.length_append, le_length]; omega) NA2.out.size z0 z1).mono ?_
            rintro e q3 ⟨u3, rfl, ho, L⟩
            have HA3 := Lib.hid ho
            have NA3 := Lib.hid (NA2.out.trans L)
            clear ho L c62 k2 k3
            go_wp2_with fail
            refine (CL2.out q3 w3.heap.size _ (pre j ++ le x.at_ 8 ++ le x.n 8 ++ le x.md 2) 0 HA3.out (by simp only [List.length_append, le_length]; omega) NA3.out.size (Int.le_refl 0) (by decide)).mono ?_
            rintro e q4 ⟨u4, rfl, ho, L⟩
            rw [← HE1.out] at ho
            have HA4 := Lib.hid ho
            have NA4 := Lib.hid (NA3.out.trans L)
            clear ho L HA1 HA2 HA3 NA1 NA2 NA3 HE1 HCJ HO NR
            go_wp2
            go_roundw
            case rel => exact ⟨j + 1, by simp, by omega, HA4, NA4⟩
            case measure => simp [intOf]; omega
          · obtain rfl : j = M2 := by omega
            go_wp2
            go_ret2
            exact HQ.out _ _ _ rfl (Own.mono HO.out hs3) (M3.out.trans (NR.out.mono hs3))
end Go.Proofs.YtdlcjobahdmapaaDoor

namespace Go.Proofs.YtdlcjobahdmapaaDoor
set_option linter.all false
open Go.RowKit
set_option linter.unusedVariables false
set_option maxRecDepth 100000
set_option maxHeartbeats 4000000 in
theorem walk_FileAsks (W : World) (hT : Tabs W) (a0 : Int) (w0 : 0 ≤ a0 ∧ a0 ≤ 65535) (cs1 : List Value) (a1 : AskV) (k1h : a1.ok) (h1h : AskIs W W.heap.size cs1 a1) (b1 : a1.dial.length ≤ 1048576 ∧ a1.data.length ≤ 1048576 ∧ a1.locks.length ≤ 1048576 ∧ a1.user.size ≤ 1048576 ∧ a1.share.size ≤ 1048576 ∧ a1.name.size ≤ 1048576 ∧ a1.pat.size ≤ 1048576 ∧ a1.aft.size ≤ 1048576) :
    Calls Tryd.prog 3 #[.int .u16 a0, .agg cs1.toArray] W fun e W' => e = .returned (.bool true) ∧ Below W.heap.size W W' := by
  have HT := Lib.hid hT
  have HL := Lib.hid (h1h.len k1h)
  have HA := Lib.hid h1h
  have ZH := Lib.hid zero_ask
  have HZ : Hid ((acells (.slice none 0 0) (.slice none 0 0) (.slice none 0 0) zeroAsk).length = 69) := acells_len zeroAsk_ok
  obtain ⟨b1a, b1b, b1c, b1d, b1e, b1f, _⟩ := b1
  have CC : Hid (∀ w : World, Below W.heap.size W w → Calls Tryd.prog 11 #[.agg cs1.toArray] w fun e w' => ∃ cs', e = .returned (.agg cs'.toArray) ∧ AskIs w' w'.heap.size cs' a1 ∧ Below w.heap.size w w') := fun w hb => CopyAsk_any w cs1 a1 k1h (h1h.over hb) ⟨by omega, by omega, by omega⟩
  have CP : Hid (∀ (w : World) (ds : List Value), AskIs w w.heap.size ds a1 → Tabs w → Calls Tryd.prog 12 #[.int .u16 a0, .agg ds.toArray] w fun e w' => ∃ v, e = .returned (.tuple #[v, .int .i64 (fpErr a0 a1)]) ∧ Own w' w.heap.size v (fpOf a0 a1) ∧ Below w.heap.size w w') := fun w ds hd hT => (FPutAsk_any w a0 ds a1 w0 k1h hd ⟨by omega, by omega⟩ (by omega) (by omega) hT).mono fun e w' ⟨v, q1, q2, q3⟩ => ⟨v, q1, q2.own8, q3⟩
  have CR : Hid (∀ w : World, Below W.heap.size W w → Calls Tryd.prog 13 #[.int .u16 a0, .agg cs1.toArray] w fun e w' => ∃ v, e = .returned (.tuple #[v, .int .i64 (fpErr a0 a1)]) ∧ Own w' w.heap.size v (fpOf a0 a1) ∧ Below w.heap.size w w') := fun w hb => RFPutAsk_any w a0 cs1 a1 w0 k1h (h1h.over hb) ⟨by omega, by omega, by omega⟩ (by omega)
  have CS : Hid (∀ (w : World) (A A' : Option Addr) (n c n' c' : Nat) (ys : List Int), Holds w w.heap.size A n c ys → Holds w w.heap.size A' n' c' ys → Calls Tryd.prog 14 #[.slice A n c, .slice A' n' c'] w fun e w' => e = .returned (.bool true) ∧ ∃ k, w.drewN k = w') := fun w A A' n c n' c' ys h1 h2 => by
    have h3 := Same_any w _ _ _ _ _ _ _ _ ys ys h1 h2
    rwa [decide_eq_true rfl] at h3
  have CQ : Hid (∀ (w : World) (ds : List Value), AskIs w w.heap.size ds a1 → AskIs w w.heap.size cs1 a1 → Calls Tryd.prog 15 #[.agg ds.toArray, .agg cs1.toArray] w fun e w' => e = .returned (.bool true) ∧ Below w.heap.size w w') := fun w ds h1 h2 => by
    have h3 := Asks_any w ds cs1 a1 a1 k1h k1h h1 h2 ⟨by omega, by omega, by omega⟩ ⟨by omega, by omega, by omega⟩
    rwa [decide_eq_true rfl] at h3
  have CL : Hid (∀ w : World, Tabs w → Calls Tryd.prog 16 #[] w fun e w' => e = .returned (.bool true) ∧ Below w.heap.size w w') := flives_any
  have HYB := Lib.hid (fp_bytes (c := a0) k1h)
  have HYL := Lib.hid (fp_len (c := a0) (a := a1))
  obtain ⟨ys, hys⟩ : ∃ x, x = fpOf a0 a1 := ⟨_, rfl⟩
  obtain ⟨er, her⟩ : ∃ x, x = fpErr a0 a1 := ⟨_, rfl⟩
  rw [← hys, ← her] at CP CR
  rw [← hys] at HYB HYL
  obtain ⟨zs, hzs⟩ : ∃ x, x = acells (.slice none 0 0) (.slice none 0 0) (.slice none 0 0) zeroAsk := ⟨_, rfl⟩
  rw [← hzs] at ZH HZ
  clear hys her hzs hT h1h
  go_enter Tryd.func3, Tryd.ntmps3
  go_wp2_with (first
    | ((with_reducible show wpList _ _ _ (⟨some 3, _, _, _, _, _⟩ :: _) _ _); refine wpList_box_blk rfl _ (.tmp 1) rfl cs1 rfl ?_; intro g v1 hg1 hg2 K1 L1)
    | ((with_reducible show wpList _ _ _ (⟨some 10, _, _, _, _, _⟩ :: _) _ _); refine wpList_load_blk rfl _ (.tmp 3) rfl g rfl _ cs1 K1 69 _ Tryd.underlying32 rfl size_ask HL ?_)
    | fail)
  refine (CC.out v1 L1.out).mono ?_
  rintro e v2 ⟨ds, rfl, hd, L2⟩
  have HD := Lib.hid hd
  have HDL := Lib.hid (hd.len k1h)
  have HDO := Lib.hid hd.one
  have K2 := Lib.hid (K1.out.over L2)
  have M2 := Lib.hid (step L1.out L2)
  clear hd L2 K1 L1 CC
  go_wp2_with (first
    | ((with_reducible show wpList _ _ _ (⟨some 5, _, _, _, _, _⟩ :: _) _ _); refine wpList_alloc_blk rfl _ rfl zs _ ZH ?_; intro h v3 hg3 hg4 Z3 L3)
    | ((with_reducible show wpList _ _ _ (⟨none, .store _ (.tmp 5) _, _, _, _, _⟩ :: _) _ _); refine wpList_store_blk rfl _ (.tmp 5) (.tmp 11) rfl h rfl _ zs ds rfl Z3 69 size_ask HZ HDL HDO ?_; intro v4 X4 O4 hg5; have L4 := Lib.hid (below_only L3.out O4.out hg3); have M4 := Lib.hid (step M2.out L4.out); have K4 := Lib.hid (K2.out.over L4.out); have HD4 := Lib.hid (HD.out.over L4.out))
    | ((with_reducible show wpList _ _ _ (⟨some 14, _, _, _, _, _⟩ :: _) _ _); refine wpList_load_blk rfl _ (.tmp 5) rfl h rfl _ ds X4 69 _ Tryd.underlying32 rfl size_ask HDL ?_)
    | fail)
  refine (CP.out v4 ds HD4.out (HT.out.below M4.out)).mono ?_
  rintro e v5 ⟨u5, rfl, ho5, L5⟩
  have X5 := Lib.hid (X4.out.over L5)
  have K5 := Lib.hid (K4.out.over L5)
  have M5 := Lib.hid (step M4.out L5)
  have HD5 := Lib.hid (HD4.out.over L5)
  have O5 := Lib.hid ho5
  clear ho5 L5 X4 K4 M4 HD4 HD K2 M2 Z3 L3 L4 O4
  go_wp2_with (first
    | ((with_reducible show wpList _ _ _ (⟨some 20, _, _, _, _, _⟩ :: _) _ _); refine wpList_load_blk rfl _ (.tmp 3) rfl g rfl _ cs1 K5 69 _ Tryd.underlying32 rfl size_ask HL ?_)
    | fail)
  refine (CR.out v5 M5.out).mono ?_
  rintro e v6 ⟨u6, rfl, ho6, L6⟩
  have X6 := Lib.hid (X5.out.over L6)
  have K6 := Lib.hid (K5.out.over L6)
  have M6 := Lib.hid (step M5.out L6)
  have HD6 := Lib.hid (HD5.out.over L6)
  obtain ⟨A5, c5, rfl, hh5⟩ := (O5.out.below L6).holds HYB.out (by have := HYL.out; omega)
  obtain ⟨A6, c6, rfl, hh6⟩ := ho6.holds HYB.out (by have := HYL.out; omega)
  have D6 := Lib.hid (CS.out _ _ _ _ _ _ _ _ hh5 hh6)
  obtain ⟨m, hm⟩ : ∃ m, m = ys.length := ⟨_, rfl⟩
  rw [← hm] at D6 ⊢
  clear ho6 L6 X5 K5 M5 HD5 O5 hh5 hh6 hm
  go_wp2_with fail
  refine D6.out.mono ?_
  rintro e v7 ⟨rfl, k7, rfl⟩
  obtain ⟨v7, hv7⟩ : ∃ v, v = v6.drewN k7 := ⟨_, rfl⟩
  have L7 : Below v6.heap.size v6 v7 := by rw [hv7]; exact drewed _ _
  have X7 := Lib.hid (X6.out.over L7)
  have K7 := Lib.hid (K6.out.over L7)
  have M7 := Lib.hid (step M6.out L7)
  have HD7 := Lib.hid (HD6.out.over L7)
  rw [← hv7]
  clear hv7 L7 X6 K6 M6 HD6 D6
  go_wp2_with (first
    | ((with_reducible show wpList _ _ _ (⟨some 33, _, _, _, _, _⟩ :: _) _ _); refine wpList_load_want (by kernel_rfl) _ (.tmp 5) rfl h rfl _ ds X7 69 _ Tryd.underlying32 rfl size_ask HDL ?_)
    | ((with_reducible show wpList _ _ _ (⟨some 34, _, _, _, _, _⟩ :: _) _ _); refine wpList_load_want (by kernel_rfl) _ (.tmp 3) rfl g rfl _ cs1 K7 69 _ Tryd.underlying32 rfl size_ask HL ?_)
    | fail)
  refine (CQ.out v7 ds HD7.out (HA.out.over M7.out)).mono ?_
  rintro e v8 ⟨rfl, L8⟩
  have M8 := Lib.hid (step M7.out L8)
  clear L8 X7 K7 HD7 M7
  go_wp2_with fail
  refine (CL.out _ (HT.out.below M8.out)).mono ?_
  rintro e v9 ⟨rfl, L9⟩
  go_wp2
  go_ret
  exact ⟨rfl, step M8.out L9⟩
end Go.Proofs.YtdlcjobahdmapaaDoor
