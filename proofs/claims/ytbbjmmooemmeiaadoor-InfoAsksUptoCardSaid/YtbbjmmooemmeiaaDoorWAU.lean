import Derived.WalkKit
import Derived.Deep.Draws
import Derived.Laws.Rows
import Derived.Laws.OwnMore
import Derived.Lib.RuneBytes
import Derived.Lib.ValidLaws
import Derived.Test.YtbbjmmooemmeiaaDoorRows
import Derived.Laws.CopyOwn
import Derived.Laws.AppendOwnNone
import Derived.Lib.Hide
import Derived.Laws.AppendOwn
import Derived.OwnWalk
import Derived.Lib.OthersKept
import Derived.Laws.BytesArg
import Derived.Shelf.Utf8.AppendRunePlain
import Derived.Shelf.Unicode.ValidAny
import Derived.Test.YtbbjmmooemmeiaaDoorProg
import Derived.WalkSpells
import Derived.WalkLawsBesides
import Derived.Deep.QuietTactic
import Derived.BigQuiet
import Derived.Laws.Bits64
import Derived.Laws.BitsAllLaws
import Derived.Deep.RegionLaw
import Derived.Laws.Tables
import Derived.Laws.NewFold
import Derived.Deep.WholeRow
import Derived.Deep.MidRow
import Derived.Great.Walk
import Derived.ProofKit
import Derived.OpenShut
import Derived.ShutString
import Derived.SizedLaws
import Derived.ChangeOld
import Derived.Lib.AppendZeros
import Derived.Deep.RegionWith
import Derived.Deep.DeepCutAuto
import Derived.OneCell
import Derived.Deep.Strs
import Derived.OrdersHeld
import Derived.Laws.StructEq
import Derived.ChangeKeysEq
import Derived.Deep.OwnRows
import Derived.Test.YtbbjmmooemmeiaaDoorWAD
import Derived.Test.YtbbjmmooemmeiaaDoorWAF
import Derived.Test.YtbbjmmooemmeiaaDoorWAH
import Derived.Test.YtbbjmmooemmeiaaDoorWAL
import Derived.Test.YtbbjmmooemmeiaaDoorWAM
import Derived.Test.YtbbjmmooemmeiaaDoorWAP
namespace Go.Proofs.YtbbjmmooemmeiaaDoor
set_option linter.all false
open Go.Lib
theorem isText_nil : isText [] = true := rfl
theorem putBytes_append (rs qs : List Int) : putBytes (rs ++ qs) = putBytes rs ++ putBytes qs := by simp [putBytes]
end Go.Proofs.YtbbjmmooemmeiaaDoor

namespace Go.Proofs.YtbbjmmooemmeiaaDoor
set_option linter.all false
open Go.RowKit
section
variable {w w' : World} {g B base : Nat} {xs : List Int}
end
/-- a byte that is laid in a block of its own, to be appended -/
theorem Holds.single (w : World) (x : Int) (h : 0 ≤ x ∧ x ≤ 255) : Holds (w.alloc (.cells #[.int .u8 x] 5)) (w.heap.size + 1) (some ⟨w.heap.size, 0, none⟩) 1 1 [x] := by
  refine ⟨rfl, Nat.le_refl _, by omega, fun y hy => ?_, fun hA => (by cases hA), fun _ => ⟨w.heap.size, 0, rfl, by omega, fun i hi => ?_⟩⟩
  · rcases List.mem_singleton.1 hy with rfl
    exact h
  · obtain rfl : i = 0 := by omega
    simp
end Go.Proofs.YtbbjmmooemmeiaaDoor

namespace Go.Proofs.YtbbjmmooemmeiaaDoor
set_option linter.all false
open Go.RowKit
section
variable {k k' : IntKind} {e e' : TypeId} {w w' : World} {base base' : Nat} {v u : Value} {xs ys : List Int}
/-- append(l, xs..), the new ones lying in a block of their own that has just been laid, onto a row of the call's own -/
theorem wpList_append_lit {P : Program} {ops : Array Oper} {rest : List Oper} {o : Oper} {a : Act} {Q : Exit → Act → World → Prop} (hgd : o.guard = none) (s x : Operand) (k : IntKind) (T e : TypeId) (bytes : Nat)
    (ht : P.underlying T = some (.slice e)) (hi : (P.info? e).map (fun i => (i.zero, i.size, i.bytes)) = some (some (.int k 0), 1, bytes))
    (ho : o.op = .call { callee := .builtin .append, args := #[s, x], argTypes := #[T, T] })
    (base : Nat) (v : Value) (xs ys : List Int) (cs : Array Value) (hcs : cs = (ys.map (Value.int k)).toArray) (m c : Nat) (hm : ys.length = m) (hs : a.eval s = v) (hx : a.eval x = .slice (some ⟨w.heap.size, 0, none⟩) m c)
    (hown : OwnK k e w base v xs) (hlen : (xs.length + m) * bytes ≤ 140737488355328) (h63 : xs.length + m ≤ 9223372036854775807) (hbase : base ≤ w.heap.size)
    (h : ∀ v' w', Hid (OwnK k e w' base v' (xs ++ ys)) → Hid (Grew w w' v) → wpList P ops Q rest (a.put o.dst v') w') :
    wpList P ops Q (o :: rest) a (w.alloc (.cells cs e)) := by
  obtain ⟨i0, hi0, hz0, hz1, hz2⟩ := info_parts hi
  subst hcs
  have hr : (w.alloc (.cells (ys.map (Value.int k)).toArray e)).heap[w.heap.size]? = some (.cells (ys.map (Value.int k)).toArray e (0, 0)) := heap_alloc_new w _
  refine wpList_append_own _ hgd s x T ho base e i0 (.int k 0) 1 bytes ht hi0 hz0 hz1 hz2 rfl (by omega) v xs.length (xs.map (Value.int k)) hs (OwnK.alloc hown _) ⟨w.heap.size, 0, none⟩ m c (ys.map (Value.int k)) hx (by simp [hm]) ?_
    (by intro v hv; obtain ⟨x, _, rfl⟩ := List.mem_map.1 hv; rfl) (by unfold maxLen; omega) hlen (by simp; omega) ?_
  · intro j y hj
    have e1 : (⟨w.heap.size, 0, none⟩ : Addr).add j = ⟨w.heap.size, j, none⟩ := by
      by_cases hj0 : j = 0
      · subst hj0; simp [Addr.add]
      · simp [Addr.add, hj0]
    rw [e1, cell_of_row _ w.heap.size j _ e (0, 0) hr, ← hj]
    simp
  · intro v' w' hown' hgr _
    refine h v' w' ?_ ⟨_, hgr⟩
    show World.ownsRow _ _ _ _ _ _ _
    rw [List.length_append, List.map_append, hm]
    exact hown'
end
section
variable {k : IntKind} {e : TypeId} {w : World} {base : Nat} {v : Value} {xs ys : List Int}
/-- the same append as a step of a region that draws its order -/
theorem step_append_lit {P : Program} {ops : Array Oper} {o : Oper} {a : Act} {K : Act → World → Prop} {Q : Exit → Act → World → Prop} {E : Prop} (hgd : o.guard = none) (s x : Operand) (k : IntKind) (T e : TypeId) (bytes : Nat)
    (ht : P.underlying T = some (.slice e)) (hi : (P.info? e).map (fun i => (i.zero, i.size, i.bytes)) = some (some (.int k 0), 1, bytes))
    (ho : o.op = .call { callee := .builtin .append, args := #[s, x], argTypes := #[T, T] })
    (base : Nat) (v : Value) (xs ys : List Int) (cs : Array Value) (hcs : cs = (ys.map (Value.int k)).toArray) (m c : Nat) (hm : ys.length = m) (hs : a.eval s = v) (hx : a.eval x = .slice (some ⟨w.heap.size, 0, none⟩) m c)
    (hown : OwnK k e w base v xs) (hlen : (xs.length + m) * bytes ≤ 140737488355328) (h63 : xs.length + m ≤ 9223372036854775807) (hbase : base ≤ w.heap.size)
    (h : ∀ v' w', Hid (OwnK k e w' base v' (xs ++ ys)) → Hid (Grew w w' v) → K (a.put o.dst v') w') :
    if Region.wanted o (yielded ops a.tmps) = true then Oper.wp P o a (w.alloc (.cells cs e)).drew K Q else E := by
  have hw : Region.wanted o (yielded ops a.tmps) = true := by simp [Region.wanted, hgd]
  rw [if_pos hw]
  obtain ⟨i0, hi0, hz0, hz1, hz2⟩ := info_parts hi
  subst hcs
  have hr : (w.alloc (.cells (ys.map (Value.int k)).toArray e)).drew.heap[w.heap.size]? = some (.cells (ys.map (Value.int k)).toArray e (0, 0)) := heap_alloc_new w _
  refine wp_append_own _ s x T ho base e i0 (.int k 0) 1 bytes ht hi0 hz0 hz1 hz2 rfl (by omega) v xs.length (xs.map (Value.int k)) hs (show OwnK k e (w.alloc _).drew base v xs from (OwnK.alloc hown _).keep fun _ _ _ _ => rfl) ⟨w.heap.size, 0, none⟩ m c (ys.map (Value.int k)) hx (by simp [hm]) ?_
    (by intro v hv; obtain ⟨x, _, rfl⟩ := List.mem_map.1 hv; rfl) (by unfold maxLen; omega) hlen (by show base ≤ (w.alloc _).heap.size; simp; omega) ?_
  · intro j y hj
    have e1 : (⟨w.heap.size, 0, none⟩ : Addr).add j = ⟨w.heap.size, j, none⟩ := by
      by_cases hj0 : j = 0
      · subst hj0; simp [Addr.add]
      · simp [Addr.add, hj0]
    rw [e1, cell_of_row _ w.heap.size j _ e (0, 0) hr, ← hj]
    simp
  · intro v' w' hown' hgr _
    refine h v' w' ?_ ⟨_, ⟨hgr.os, hgr.tape, hgr.output, hgr.size, hgr.block⟩⟩
    show World.ownsRow _ _ _ _ _ _ _
    rw [List.length_append, List.map_append, hm]
    exact hown'
end
end Go.Proofs.YtbbjmmooemmeiaaDoor

namespace Go.Proofs.YtbbjmmooemmeiaaDoor
set_option linter.all false
open Go.RowKit
theorem info_i64 : (Tryd.prog.info? 3).map (fun i => (i.zero, i.size, i.bytes)) = some (some (.int .i64 0), 1, 8) := by kernel_rfl
end Go.Proofs.YtbbjmmooemmeiaaDoor

namespace Go.Proofs.YtbbjmmooemmeiaaDoor
set_option linter.all false
open Go.RowKit
theorem get_drop (s : ByteArray) (pos : Nat) (h : pos < s.size) : (s.data.toList.drop pos).getD 0 0 = s[pos]'h := by
  have e : s.data[pos]? = some (s[pos]'h) := Array.getElem?_eq_getElem h
  rw [List.getD_eq_getElem?_getD, List.getElem?_drop, Nat.add_zero, Array.getElem?_toList, e]
  rfl
/-- the head of what is left, as the walk decides it -/
theorem head_at (s : ByteArray) (pos : Nat) (h : pos < s.size) :
    ((Utf8.decode s pos).1 = 65533 ∧ (Utf8.decode s pos).2 = 1 ∧ headOf (s.data.toList.drop pos) = 1114112 + ((s[pos]'h).toNat : Int)) ∨
    (¬ ((Utf8.decode s pos).1 = 65533 ∧ (Utf8.decode s pos).2 = 1) ∧ headOf (s.data.toList.drop pos) = ((Utf8.decode s pos).1 : Int) ∧ IsLetter ((Utf8.decode s pos).1 : Int)) := by
  have hl : s.data.toList.drop pos ≠ [] := by
    intro e
    have := congrArg List.length e
    rw [List.length_drop, ← Lib.size_eq] at this
    simp at this
    omega
  rcases head_shape _ hl with ⟨h0, h1, h2⟩ | ⟨h0, h1, h2, _⟩
  · rw [Lib.decodeL_drop] at h0 h1 h2
    exact .inr ⟨h0, h1, h2⟩
  · rw [Lib.decodeL_drop] at h0 h1
    rw [get_drop s pos h] at h2
    exact .inl ⟨h0, h1, h2⟩
end Go.Proofs.YtbbjmmooemmeiaaDoor

namespace Go.Proofs.YtbbjmmooemmeiaaDoor
set_option linter.all false
open Go.RowKit
def letterB (n : Int) : Bool := decide (0 ≤ n) && decide (n ≤ 1114111) && (decide (n < 55296) || decide (57343 < n))
set_option maxHeartbeats 400000 in
theorem Letter_any (w : World) (n : Int) (_hn : -9223372036854775808 ≤ n ∧ n ≤ 9223372036854775807) :
    Calls Tryd.prog 104 #[.int .i64 n] w fun e w' => e = .returned (.bool (letterB n)) ∧ w = w' := by
  by_cases h1 : 0 ≤ n
  · by_cases h2 : n ≤ 1114111
    · by_cases h3 : n < 55296
      · have e : letterB n = true := by simp [letterB, h1, h2, h3]
        rw [e]
        clear e
        go_enter Tryd.func104, Tryd.ntmps104
        go_wp2
        go_ret
        exact ⟨rfl, rfl⟩
      · by_cases h4 : 57343 < n
        · have e : letterB n = true := by simp [letterB, h1, h2, h4]
          rw [e]
          clear e
          go_enter Tryd.func104, Tryd.ntmps104
          go_wp2
          go_ret
          exact ⟨rfl, rfl⟩
        · have e : letterB n = false := by simp [letterB, h3, h4]
          rw [e]
          clear e
          go_enter Tryd.func104, Tryd.ntmps104
          go_wp2
          go_ret
          exact ⟨rfl, rfl⟩
    · have e : letterB n = false := by simp [letterB, h2]
      rw [e]
      clear e
      go_enter Tryd.func104, Tryd.ntmps104
      go_wp2
      go_ret
      exact ⟨rfl, rfl⟩
  · have e : letterB n = false := by simp [letterB, h1]
    rw [e]
    clear e
    go_enter Tryd.func104, Tryd.ntmps104
    go_wp2
    go_ret
    exact ⟨rfl, rfl⟩
/-- what a first byte says: how many bytes; the number's beginning; the least number -/
def leadN (b : Int) : Nat := if b < 128 then 1 else if b < 192 then 0 else if b < 224 then 2 else if b < 240 then 3 else if b < 248 then 4 else 0
def leadV (b : Int) : Int := if b < 128 then b else if b < 192 then 0 else if b < 224 then b - 192 else if b < 240 then b - 224 else if b < 248 then b - 240 else 0
def leadL (b : Int) : Int := if b < 128 then 0 else if b < 192 then 0 else if b < 224 then 128 else if b < 240 then 2048 else if b < 248 then 65536 else 0
set_option maxHeartbeats 1000000 in
theorem lead_any (w : World) (b : Int) (hb : 0 ≤ b ∧ b ≤ 255) :
    Calls Tryd.prog 111 #[.int .u8 b] w fun e w' => e = .returned (.tuple #[.int .i64 (leadN b), .int .i64 (leadV b), .int .i64 (leadL b)]) ∧ w = w' := by
  obtain ⟨hb0, hb1⟩ := hb
  unfold leadN leadV leadL
  by_cases h1 : b < 128
  · rw [if_pos h1, if_pos h1, if_pos h1]
    go_enter Tryd.func111, Tryd.ntmps111
    go_wp2
    go_ret3
    exact ⟨rfl, rfl⟩
  rw [if_neg h1, if_neg h1, if_neg h1]
  by_cases h2 : b < 192
  · rw [if_pos h2, if_pos h2, if_pos h2]
    go_enter Tryd.func111, Tryd.ntmps111
    go_wp2
    go_ret3
    exact ⟨rfl, rfl⟩
  rw [if_neg h2, if_neg h2, if_neg h2]
  by_cases h3 : b < 224
  · rw [if_pos h3, if_pos h3, if_pos h3]
    go_enter Tryd.func111, Tryd.ntmps111
    go_wp2
    go_ret3
    exact ⟨rfl, rfl⟩
  rw [if_neg h3, if_neg h3, if_neg h3]
  by_cases h4 : b < 240
  · rw [if_pos h4, if_pos h4, if_pos h4]
    go_enter Tryd.func111, Tryd.ntmps111
    go_wp2
    go_ret3
    exact ⟨rfl, rfl⟩
  rw [if_neg h4, if_neg h4, if_neg h4]
  by_cases h5 : b < 248
  · rw [if_pos h5, if_pos h5, if_pos h5]
    go_enter Tryd.func111, Tryd.ntmps111
    go_wp2
    go_ret3
    exact ⟨rfl, rfl⟩
  · rw [if_neg h5, if_neg h5, if_neg h5]
    go_enter Tryd.func111, Tryd.ntmps111
    go_wp2
    go_ret3
    exact ⟨rfl, rfl⟩
def gB (l : List UInt8) (i : Nat) : Int := ((l.getD i 0).toNat : Int)
/-- the number behind k more bytes -/
def valK (l : List UInt8) : Nat → Int
  | 0 => leadV (gB l 0)
  | k + 1 => 64 * valK l k + gB l (k + 1) - 128
def contB (x : Int) : Bool := decide (128 ≤ x) && decide (x < 192)
def contsK (l : List UInt8) : Nat → Bool
  | 0 => true
  | k + 1 => contsK l k && contB (gB l (k + 1))
/-- what first answers -/
def firstOf (l : List UInt8) : Int × Nat :=
  if leadN (gB l 0) = 0 ∨ l.length < leadN (gB l 0) then (0, 0)
  else if contsK l (leadN (gB l 0) - 1) = false then (0, 0)
  else if valK l (leadN (gB l 0) - 1) < leadL (gB l 0) ∨ letterB (valK l (leadN (gB l 0) - 1)) = false then (0, 0)
  else (valK l (leadN (gB l 0) - 1), leadN (gB l 0))
theorem gB_bounds (l : List UInt8) (i : Nat) : 0 ≤ gB l i ∧ gB l i ≤ 255 := by
  have := (l.getD i 0).toNat_lt
  unfold gB
  omega
theorem leadN_le (b : Int) : leadN b ≤ 4 := by
  unfold leadN
  repeat' split
  all_goals omega
theorem leadV_bounds {b : Int} (h : 0 ≤ b ∧ b ≤ 255) : 0 ≤ leadV b ∧ leadV b ≤ 127 := by unfold leadV; repeat' split <;> omega
theorem leadL_bounds (b : Int) : 0 ≤ leadL b ∧ leadL b ≤ 65536 := by unfold leadL; repeat' split <;> omega
theorem contB_iff (x : Int) : contB x = true ↔ 128 ≤ x ∧ x < 192 := by simp [contB]
theorem contsK_mono (l : List UInt8) {k : Nat} (h : contsK l k = false) : ∀ j, k ≤ j → contsK l j = false := by
  intro j hj
  induction j with
  | zero => obtain rfl : k = 0 := by omega
            exact h
  | succ j ih =>
    by_cases e : k = j + 1
    · rw [← e]; exact h
    · rw [contsK, ih (by omega)]; rfl
theorem valK_bounds (l : List UInt8) (k : Nat) (hk : k ≤ 3) (hc : contsK l k = true) : 0 ≤ valK l k ∧ valK l k ≤ 67108864 := by
  have h0 := leadV_bounds (gB_bounds l 0)
  have hcase : k = 0 ∨ k = 1 ∨ k = 2 ∨ k = 3 := by omega
  rcases hcase with rfl | rfl | rfl | rfl
  · simp only [valK]; omega
  · simp only [contsK, Bool.and_eq_true, contB_iff, true_and] at hc
    simp only [valK]; omega
  · simp only [contsK, Bool.and_eq_true, contB_iff, true_and] at hc
    simp only [valK]; omega
  · simp only [contsK, Bool.and_eq_true, contB_iff, true_and] at hc
    simp only [valK]; omega
theorem letterB_iff (n : Int) : letterB n = true ↔ IsLetter n := by
  unfold letterB IsLetter
  simp only [Bool.and_eq_true, Bool.or_eq_true, decide_eq_true_eq]
  omega
theorem letterB_false (n : Int) : letterB n = false ↔ ¬ IsLetter n := by rw [← letterB_iff]; simp
theorem pick_bad : pick (65533, 1) = (0, 0) := rfl
theorem pick_ok (x w : Nat) (h : ¬ (x = 65533 ∧ w = 1)) : pick (x, w) = ((x : Int), w) := if_neg h
theorem pick_head (l : List UInt8) : (if (Lib.decodeL l).1 = 65533 ∧ (Lib.decodeL l).2 = 1 then ((0 : Int), 0) else (headOf l, (Lib.decodeL l).2)) = pick (Lib.decodeL l) := by
  unfold pick
  by_cases c : (Lib.decodeL l).1 = 65533 ∧ (Lib.decodeL l).2 = 1
  · rw [if_pos c, if_pos c]
  · rw [if_neg c, if_neg c]
    unfold headOf
    rw [if_neg c]
set_option maxRecDepth 100000 in
theorem first_decode (l : List UInt8) (hne : l ≠ []) :
    firstOf l = if (Lib.decodeL l).1 = 65533 ∧ (Lib.decodeL l).2 = 1 then (0, 0) else (headOf l, (Lib.decodeL l).2) := by
  have hl : 0 < l.length := List.length_pos_iff.2 hne
  have k0 := (l.getD 0 0).toNat_lt
  have k1 := (l.getD 1 0).toNat_lt
  have k2 := (l.getD 2 0).toNat_lt
  have k3 := (l.getD 3 0).toNat_lt
  rw [pick_head, Lib.decodeL_N]
  have g0 : gB l 0 = ((l.getD 0 0).toNat : Int) := rfl
  have g1 : gB l 1 = ((l.getD 1 0).toNat : Int) := rfl
  have g2 : gB l 2 = ((l.getD 2 0).toNat : Int) := rfl
  have g3 : gB l 3 = ((l.getD 3 0).toNat : Int) := rfl
  unfold firstOf
  generalize (l.getD 0 0).toNat = b0 at *
  generalize (l.getD 1 0).toNat = b1 at *
  generalize (l.getD 2 0).toNat = b2 at *
  generalize (l.getD 3 0).toNat = b3 at *
  generalize l.length = n at *
  by_cases c1 : b0 < 128
  · have e1 : leadN (gB l 0) = 1 := by rw [g0]; unfold leadN; rw [if_pos (by omega)]
    have e2 : leadL (gB l 0) = 0 := by rw [g0]; unfold leadL; rw [if_pos (by omega)]
    have e3 : valK l 0 = b0 := by rw [valK, g0]; unfold leadV; rw [if_pos (by omega)]
    have e4 : letterB (b0 : Int) = true := by rw [letterB_iff]; exact ⟨by omega, by omega, by omega⟩
    rw [Lib.decodeN_ascii _ _ _ _ _ c1, pick_ok _ _ (by omega), e1, e2, Nat.sub_self, if_neg (by omega), contsK, if_neg (by decide), e3, e4, if_neg (by simp)]
  by_cases c2 : b0 < 192
  · have e1 : leadN (gB l 0) = 0 := by rw [g0]; unfold leadN; rw [if_neg (by omega), if_pos (by omega)]
    have hd : Lib.decodeN n b0 b1 b2 b3 = (65533, 1) := by unfold Lib.decodeN; rw [if_neg c1, if_neg (by omega), if_neg (by omega), if_neg (by omega)]
    rw [hd, pick_bad, if_pos (.inl e1)]
  by_cases c3 : b0 < 224
  · have e1 : leadN (gB l 0) = 2 := by rw [g0]; unfold leadN; rw [if_neg (by omega), if_neg (by omega), if_pos (by omega)]
    have e2 : leadL (gB l 0) = 128 := by rw [g0]; unfold leadL; rw [if_neg (by omega), if_neg (by omega), if_pos (by omega)]
    have e3 : valK l 1 = 64 * (b0 - 192) + b1 - 128 := by rw [valK, valK, g0, g1]; unfold leadV; rw [if_neg (by omega), if_neg (by omega), if_pos (by omega)]
    have e4 : contsK l 1 = contB (gB l 1) := by rw [contsK, contsK, Bool.true_and]
    by_cases d1 : 1 < n ∧ b1 / 64 = 2
    · have f1 : contB (b1 : Int) = true := by rw [contB_iff]; omega
      by_cases d2 : b0 % 32 * 64 + b1 % 64 ≥ 128
      · have hd : Lib.decodeN n b0 b1 b2 b3 = (b0 % 32 * 64 + b1 % 64, 2) := by unfold Lib.decodeN; rw [if_neg c1, if_pos ⟨by omega, d1⟩, if_pos d2]
        have e5 : letterB (64 * ((b0 : Int) - 192) + b1 - 128) = true := by rw [letterB_iff]; exact ⟨by omega, by omega, by omega⟩
        rw [hd, pick_ok _ _ (by omega), e1, e2, show 2 - 1 = 1 from rfl, e3, e4, g1, f1, e5, if_neg (by omega), if_neg (by decide), if_neg (by simp; omega)]
        exact Prod.ext (by dsimp only; omega) rfl
      · have hd : Lib.decodeN n b0 b1 b2 b3 = (65533, 1) := by unfold Lib.decodeN; rw [if_neg c1, if_pos ⟨by omega, d1⟩, if_neg d2]
        rw [hd, pick_bad, e1, e2, show 2 - 1 = 1 from rfl, e3, e4, g1, f1, if_neg (by omega), if_neg (by decide), if_pos (.inl (by omega))]
    · have hd : Lib.decodeN n b0 b1 b2 b3 = (65533, 1) := by unfold Lib.decodeN; rw [if_neg c1, if_neg (fun h => d1 h.2), if_neg (by omega), if_neg (by omega)]
      rw [hd, pick_bad, e1, show 2 - 1 = 1 from rfl, e4, g1]
      by_cases d2 : n < 2
      · rw [if_pos (.inr d2)]
      · have f1 : contB (b1 : Int) = false := by rw [Bool.eq_false_iff, Ne, contB_iff]; omega
        rw [if_neg (by omega), f1, if_pos rfl]
  by_cases c4 : b0 < 240
  · have e1 : leadN (gB l 0) = 3 := by rw [g0]; unfold leadN; rw [if_neg (by omega), if_neg (by omega), if_neg (by omega), if_pos (by omega)]
    have e2 : leadL (gB l 0) = 2048 := by rw [g0]; unfold leadL; rw [if_neg (by omega), if_neg (by omega), if_neg (by omega), if_pos (by omega)]
    have e3 : valK l 2 = 64 * (64 * (b0 - 224) + b1 - 128) + b2 - 128 := by rw [valK, valK, valK, g0, g1, g2]; unfold leadV; rw [if_neg (by omega), if_neg (by omega), if_neg (by omega), if_pos (by omega)]
    have e4 : contsK l 2 = (contB (gB l 1) && contB (gB l 2)) := by rw [contsK, contsK, contsK, Bool.true_and]
    by_cases d1 : (1 < n ∧ b1 / 64 = 2) ∧ (2 < n ∧ b2 / 64 = 2)
    · have f1 : contB (b1 : Int) = true := by rw [contB_iff]; omega
      have f2 : contB (b2 : Int) = true := by rw [contB_iff]; omega
      by_cases d2 : b0 % 16 * 4096 + b1 % 64 * 64 + b2 % 64 ≥ 2048 ∧ (b0 % 16 * 4096 + b1 % 64 * 64 + b2 % 64 < 55296 ∨ (57344 ≤ b0 % 16 * 4096 + b1 % 64 * 64 + b2 % 64 ∧ b0 % 16 * 4096 + b1 % 64 * 64 + b2 % 64 ≤ 1114111))
      · have hd : Lib.decodeN n b0 b1 b2 b3 = (b0 % 16 * 4096 + b1 % 64 * 64 + b2 % 64, 3) := by unfold Lib.decodeN; rw [if_neg c1, if_neg (by omega), if_pos ⟨by omega, d1⟩, if_pos d2]
        have e5 : letterB (64 * (64 * ((b0 : Int) - 224) + b1 - 128) + b2 - 128) = true := by rw [letterB_iff]; exact ⟨by omega, by omega, by omega⟩
        rw [hd, pick_ok _ _ (by omega), e1, e2, show 3 - 1 = 2 from rfl, e3, e4, g1, g2, f1, f2, e5, if_neg (by omega), if_neg (by decide), if_neg (by simp; omega)]
        exact Prod.ext (by dsimp only; omega) rfl
      · have hd : Lib.decodeN n b0 b1 b2 b3 = (65533, 1) := by unfold Lib.decodeN; rw [if_neg c1, if_neg (by omega), if_pos ⟨by omega, d1⟩, if_neg d2]
        rw [hd, pick_bad, e1, e2, show 3 - 1 = 2 from rfl, e3, e4, g1, g2, f1, f2, if_neg (by omega), if_neg (by decide), if_pos]
        rw [letterB_false]
        unfold IsLetter
        omega
    · have hd : Lib.decodeN n b0 b1 b2 b3 = (65533, 1) := by unfold Lib.decodeN; rw [if_neg c1, if_neg (by omega), if_neg (fun h => d1 h.2), if_neg (by omega)]
      rw [hd, pick_bad, e1, show 3 - 1 = 2 from rfl, e4, g1, g2]
      by_cases d2 : n < 3
      · rw [if_pos (.inr d2)]
      · have f1 : (contB (b1 : Int) && contB (b2 : Int)) = false := by rw [Bool.eq_false_iff, Ne, Bool.and_eq_true, contB_iff, contB_iff]; omega
        rw [if_neg (by omega), f1, if_pos rfl]
  by_cases c5 : b0 < 248
  · have e1 : leadN (gB l 0) = 4 := by rw [g0]; unfold leadN; rw [if_neg (by omega), if_neg (by omega), if_neg (by omega), if_neg (by omega), if_pos (by omega)]
    have e2 : leadL (gB l 0) = 65536 := by rw [g0]; unfold leadL; rw [if_neg (by omega), if_neg (by omega), if_neg (by omega), if_neg (by omega), if_pos (by omega)]
    have e3 : valK l 3 = 64 * (64 * (64 * (b0 - 240) + b1 - 128) + b2 - 128) + b3 - 128 := by rw [valK, valK, valK, valK, g0, g1, g2, g3]; unfold leadV; rw [if_neg (by omega), if_neg (by omega), if_neg (by omega), if_neg (by omega), if_pos (by omega)]
    have e4 : contsK l 3 = (contB (gB l 1) && contB (gB l 2) && contB (gB l 3)) := by rw [contsK, contsK, contsK, contsK, Bool.true_and]
    by_cases d1 : (1 < n ∧ b1 / 64 = 2) ∧ (2 < n ∧ b2 / 64 = 2) ∧ (3 < n ∧ b3 / 64 = 2)
    · have f1 : contB (b1 : Int) = true := by rw [contB_iff]; omega
      have f2 : contB (b2 : Int) = true := by rw [contB_iff]; omega
      have f3 : contB (b3 : Int) = true := by rw [contB_iff]; omega
      by_cases d2 : b0 % 8 * 262144 + b1 % 64 * 4096 + b2 % 64 * 64 + b3 % 64 ≥ 65536 ∧ (b0 % 8 * 262144 + b1 % 64 * 4096 + b2 % 64 * 64 + b3 % 64 < 55296 ∨ (57344 ≤ b0 % 8 * 262144 + b1 % 64 * 4096 + b2 % 64 * 64 + b3 % 64 ∧ b0 % 8 * 262144 + b1 % 64 * 4096 + b2 % 64 * 64 + b3 % 64 ≤ 1114111))
      · have hd : Lib.decodeN n b0 b1 b2 b3 = (b0 % 8 * 262144 + b1 % 64 * 4096 + b2 % 64 * 64 + b3 % 64, 4) := by unfold Lib.decodeN; rw [if_neg c1, if_neg (by omega), if_neg (by omega), if_pos ⟨by omega, d1⟩, if_pos d2]
        have e5 : letterB (64 * (64 * (64 * ((b0 : Int) - 240) + b1 - 128) + b2 - 128) + b3 - 128) = true := by rw [letterB_iff]; exact ⟨by omega, by omega, by omega⟩
        rw [hd, pick_ok _ _ (by omega), e1, e2, show 4 - 1 = 3 from rfl, e3, e4, g1, g2, g3, f1, f2, f3, e5, if_neg (by omega), if_neg (by decide), if_neg (by simp; omega)]
        exact Prod.ext (by dsimp only; omega) rfl
      · have hd : Lib.decodeN n b0 b1 b2 b3 = (65533, 1) := by unfold Lib.decodeN; rw [if_neg c1, if_neg (by omega), if_neg (by omega), if_pos ⟨by omega, d1⟩, if_neg d2]
        rw [hd, pick_bad, e1, e2, show 4 - 1 = 3 from rfl, e3, e4, g1, g2, g3, f1, f2, f3, if_neg (by omega), if_neg (by decide), if_pos]
        rw [letterB_false]
        unfold IsLetter
        omega
    · have hd : Lib.decodeN n b0 b1 b2 b3 = (65533, 1) := by unfold Lib.decodeN; rw [if_neg c1, if_neg (by omega), if_neg (by omega), if_neg (fun h => d1 h.2)]
      rw [hd, pick_bad, e1, show 4 - 1 = 3 from rfl, e4, g1, g2, g3]
      by_cases d2 : n < 4
      · rw [if_pos (.inr d2)]
      · have f1 : (contB (b1 : Int) && contB (b2 : Int) && contB (b3 : Int)) = false := by rw [Bool.eq_false_iff, Ne, Bool.and_eq_true, Bool.and_eq_true, contB_iff, contB_iff, contB_iff]; omega
        rw [if_neg (by omega), f1, if_pos rfl]
  · have e1 : leadN (gB l 0) = 0 := by rw [g0]; unfold leadN; rw [if_neg (by omega), if_neg (by omega), if_neg (by omega), if_neg (by omega), if_neg (by omega)]
    have hd : Lib.decodeN n b0 b1 b2 b3 = (65533, 1) := by unfold Lib.decodeN; rw [if_neg c1, if_neg (by omega), if_neg (by omega), if_neg (by omega)]
    rw [hd, pick_bad, if_pos (.inl e1)]
theorem gB_drop (s : ByteArray) (pos i : Nat) (h : pos + i < s.size) : gB (s.data.toList.drop pos) i = ((s[pos + i]'h).toNat : Int) := by
  unfold gB
  have e : s.data[pos + i]? = some (s[pos + i]'h) := Array.getElem?_eq_getElem h
  rw [List.getD_eq_getElem?_getD, List.getElem?_drop, Array.getElem?_toList, e]
  rfl
set_option maxRecDepth 100000 in
set_option maxHeartbeats 2000000 in
theorem first_any (s : ByteArray) (pos : Nat) (w : World) (hp : pos < s.size) (hs : s.size ≤ 4398046511104) :
    Calls Tryd.prog 107 #[.string s, .int .i64 pos] w fun e w' => e = .returned (.tuple #[.int .i64 (firstOf (s.data.toList.drop pos)).1, .int .i64 (firstOf (s.data.toList.drop pos)).2]) ∧ w = w' := by
  obtain ⟨l, hl⟩ : ∃ l, l = s.data.toList.drop pos := ⟨_, rfl⟩
  have hll : l.length = s.size - pos := by rw [hl, List.length_drop, ← Lib.size_eq]
  have hb0 := gB_bounds l 0
  have hg0 : gB (s.data.toList.drop pos) 0 = ((s[pos]'hp).toNat : Int) := gB_drop s pos 0 (by omega)
  have hge : ∀ i, (h : pos + i < s.size) → gB l i = ((s[pos + i]'h).toNat : Int) := fun i h => by rw [hl]; exact gB_drop s pos i h
  have hq : ∀ r : Int × Nat, firstOf l = r → ∀ (e : Ending) (w' : World), (e = .returned (.tuple #[.int .i64 r.1, .int .i64 r.2]) ∧ w = w') → (e = .returned (.tuple #[.int .i64 (firstOf l).1, .int .i64 (firstOf l).2]) ∧ w = w') := fun r hr e w' h => by rw [hr]; exact h
  rw [← hl]
  rw [← hl] at hg0
  have HQ := Lib.hid hq
  have c1 := lead_any w (gB l 0) hb0
  have hN4 := leadN_le (gB l 0)
  have hL := leadL_bounds (gB l 0)
  have hV := leadV_bounds hb0
  have hf : ∀ r, firstOf l = r ↔ firstOf l = r := fun _ => Iff.rfl
  unfold firstOf at hf
  obtain ⟨N, hN⟩ : ∃ N, N = leadN (gB l 0) := ⟨_, rfl⟩
  obtain ⟨M, hM⟩ : ∃ M, M = leadL (gB l 0) := ⟨_, rfl⟩
  obtain ⟨V, hVV⟩ : ∃ V, V = leadV (gB l 0) := ⟨_, rfl⟩
  rw [← hN, ← hM, ← hVV] at c1
  rw [← hN] at hN4
  rw [← hM] at hL
  rw [← hVV] at hV
  rw [hg0] at c1
  obtain ⟨hL0, hL1⟩ := hL
  obtain ⟨hV0, hV1⟩ := hV
  have C1 := Lib.hid c1
  have HN := Lib.hid hN
  have HM := Lib.hid hM
  have HV := Lib.hid hVV
  have HG := Lib.hid hge
  have HLL := Lib.hid hll
  have hf0 : (N = 0 ∨ l.length < N) → firstOf l = (0, 0) := fun h => by unfold firstOf; rw [← HN.out, if_pos h]
  have hf1 : ¬ (N = 0 ∨ l.length < N) → contsK l (N - 1) = false → firstOf l = (0, 0) := fun h h1 => by unfold firstOf; rw [← HN.out, if_neg h, if_pos h1]
  have hf2 : ¬ (N = 0 ∨ l.length < N) → contsK l (N - 1) = true → (valK l (N - 1) < M ∨ letterB (valK l (N - 1)) = false) → firstOf l = (0, 0) := fun h h1 h2 => by unfold firstOf; rw [← HN.out, ← HM.out, if_neg h, if_neg (by rw [h1]; decide), if_pos h2]
  have hf3 : ¬ (N = 0 ∨ l.length < N) → contsK l (N - 1) = true → ¬ (valK l (N - 1) < M ∨ letterB (valK l (N - 1)) = false) → firstOf l = (valK l (N - 1), N) := fun h h1 h2 => by unfold firstOf; rw [← HN.out, ← HM.out, if_neg h, if_neg (by rw [h1]; decide), if_neg h2]
  have HF0 := Lib.hid hf0
  have HF1 := Lib.hid hf1
  have HF2 := Lib.hid hf2
  have HF3 := Lib.hid hf3
  clear hl hb0 hg0 hge hq c1 hf hN hM hVV hll hf0 hf1 hf2 hf3
  by_cases h0 : N = 0
  · have HE := Lib.hid (HF0.out (.inl h0))
    subst h0
    go_enter Tryd.func107, Tryd.ntmps107
    go_wp2_with fail
    refine C1.out.mono ?_
    rintro e w' ⟨rfl, rfl⟩
    go_wp2
    go_ret2
    exact HQ.out _ HE.out _ _ ⟨rfl, rfl⟩
  have h0b : ((N : Int) == 0) = false := by rw [beq_eq_false_iff_ne]; omega
  by_cases hlen : s.size < pos + N
  · have HE := Lib.hid (HF0.out (.inr (by rw [HLL.out]; omega)))
    go_enter Tryd.func107, Tryd.ntmps107
    go_wp2_with fail
    refine C1.out.mono ?_
    rintro e w' ⟨rfl, rfl⟩
    go_wp2
    go_ret2
    exact HQ.out _ HE.out _ _ ⟨rfl, rfl⟩
  have HNN : Hid (¬ (N = 0 ∨ l.length < N)) := by show ¬ _; rw [HLL.out]; omega
  have cL := fun w n h => Lib.hid (Letter_any w n h)
  go_enter Tryd.func107, Tryd.ntmps107
  go_wp2_with fail
  refine C1.out.mono ?_
  rintro e w' ⟨rfl, rfl⟩
  clear C1
  go_wp2
  go_loop [7, 9, 10] (fun n i _ => ∃ k : Nat, i = .int .i64 (k + 1 : Nat) ∧ k + 1 ≤ N ∧ Hid (contsK l k = true) ∧ ∃ z : Int, n = .int .i64 z ∧ Hid (z = valK l k)) (fun _ i _ => N - (intOf i).toNat)
  case atStart => exact ⟨0, rfl, by omega, rfl, V, rfl, HV.out⟩
  case round =>
    obtain ⟨k, rfl, hk, HC, z, rfl, HZ⟩ := hrel
    have hzb := valK_bounds l k (by omega) HC.out
    rw [← HZ.out] at hzb
    obtain ⟨hz0, hz1⟩ := hzb
    by_cases hlt : k + 1 < N
    · have hi : pos + (k + 1) < s.size := by omega
      have hx := HG.out (k + 1) hi
      have hxb := gB_bounds l (k + 1)
      obtain ⟨x, hxx⟩ : ∃ x, x = gB l (k + 1) := ⟨_, rfl⟩
      rw [← hxx] at hx hxb
      have HX := Lib.hid hxx
      have hxv : ((s[pos + (k + 1)]'hi).toNat : Int) = x := hx.symm
      have hmc := fun h => contsK_mono l (k := k + 1) h (N - 1) (by omega)
      have hcs : contsK l (k + 1) = (contsK l k && contB (gB l (k + 1))) := rfl
      rw [HC.out, Bool.true_and, ← HX.out] at hcs
      obtain ⟨hx0, hx1⟩ := hxb
      by_cases hb1 : x < 128
      · have HE := Lib.hid (HF1.out HNN.out (hmc (by rw [hcs]; simp [contB]; omega)))
        clear hxx hmc hcs hx
        go_wp2
        go_ret2
        exact HQ.out _ HE.out _ _ ⟨rfl, rfl⟩
      by_cases hb2 : 192 ≤ x
      · have HE := Lib.hid (HF1.out HNN.out (hmc (by rw [hcs]; simp [contB]; omega)))
        clear hxx hmc hcs hx
        go_wp2
        go_ret2
        exact HQ.out _ HE.out _ _ ⟨rfl, rfl⟩
      · have HC' : Hid (contsK l (k + 1) = true) := by show _ = _; rw [hcs, contB_iff]; omega
        have HZ' : Hid (64 * z + x - 128 = valK l (k + 1)) := by show _ = _; rw [valK, ← HX.out, ← HZ.out]
        clear hxx hmc hcs hx
        go_wp2
        go_round
        case rel => exact ⟨k + 1, by go_num, hlt, HC', _, by go_num, HZ'⟩
        case measure => simp [intOf]; omega
    · obtain rfl : N = k + 1 := by omega
      rw [Nat.add_sub_cancel] at HF1 HF2 HF3
      by_cases hm : z < M
      · have HE := Lib.hid (HF2.out HNN.out HC.out (.inl (by rw [← HZ.out]; exact hm)))
        go_wp2
        go_ret2
        exact HQ.out _ HE.out _ _ ⟨rfl, rfl⟩
      · by_cases hlb : letterB z = true
        · have HE := Lib.hid (HF3.out HNN.out HC.out (by rw [← HZ.out, hlb]; simp; omega))
          have c2 := (cL w z (by omega)).out
          rw [hlb] at c2
          have C2 := Lib.hid c2
          clear c2 cL hlb
          go_wp2_with fail
          refine C2.out.mono ?_
          rintro e w' ⟨rfl, rfl⟩
          go_wp2
          go_ret2
          exact HQ.out _ HE.out _ _ ⟨by rw [HZ.out]; rfl, rfl⟩
        · have hlb' : letterB z = false := by simpa using hlb
          have HE := Lib.hid (HF2.out HNN.out HC.out (.inr (by rw [← HZ.out]; exact hlb')))
          have c2 := (cL w z (by omega)).out
          rw [hlb'] at c2
          have C2 := Lib.hid c2
          clear c2 cL hlb hlb'
          go_wp2_with fail
          refine C2.out.mono ?_
          rintro e w' ⟨rfl, rfl⟩
          go_wp2
          go_ret2
          exact HQ.out _ HE.out _ _ ⟨rfl, rfl⟩
end Go.Proofs.YtbbjmmooemmeiaaDoor

namespace Go.Proofs.YtbbjmmooemmeiaaDoor
set_option linter.all false
open Go.RowKit
/-- what Letters answers -/
def LettersPost (w : World) (l : List UInt8) (e : Ending) (w' : World) : Prop :=
  ∃ v, e = .returned (.tuple #[v, .bool (isText l)]) ∧ OwnK .i64 3 w' w.heap.size v (letters l) ∧ Below w.heap.size w w'
set_option maxRecDepth 100000 in
set_option maxHeartbeats 2000000 in
theorem Letters_any (s : ByteArray) (w : World) (hs : s.size ≤ 4398046511104) :
    Calls Tryd.prog 100 #[.string s] w (LettersPost w s.data.toList) := by
  have hq : ∀ b, isText s.data.toList = b → ∀ (e : Ending) (w' : World), (∃ v, e = .returned (.tuple #[v, .bool b]) ∧ OwnK .i64 3 w' w.heap.size v (letters s.data.toList) ∧ Below w.heap.size w w') → LettersPost w s.data.toList e w' := fun b hb e w' h => by
    unfold LettersPost
    rw [hb]
    exact h
  have HQ := Lib.hid hq
  have HS := Lib.hid (Lib.size_eq s)
  clear hq
  go_enter Tryd.func100, Tryd.ntmps100
  go_wp2
  go_loopw [4, 5, 6, 7, 8] (fun v b i _ _ wr => ∃ (pos : Nat) (zs : List Int) (t : Bool), i = .int .i64 pos ∧ b = .bool t ∧ Hid (OwnK .i64 3 wr w.heap.size v zs) ∧ Below w.heap.size w wr ∧ Hid (zs ++ letters (s.data.toList.drop pos) = letters s.data.toList) ∧ Hid ((t && isText (s.data.toList.drop pos)) = isText s.data.toList) ∧ zs.length ≤ pos ∧ pos ≤ s.size) (fun _ _ i _ _ _ => s.size - (intOf i).toNat)
  case atStart =>
    refine ⟨0, [], true, rfl, rfl, OwnK.nil _ _ _ _, Below.refl _ _, ?_, ?_, by simp, by omega⟩
    · show _ = _; rw [List.drop_zero, List.nil_append]
    · show _ = _; rw [List.drop_zero, Bool.true_and]
  case round =>
    obtain ⟨pos, zs, t, rfl, rfl, HO, hb, HE, HT, hzl, hps⟩ := hrel
    have hbs := hb.size
    by_cases hp : pos < s.size
    · have hne : s.data.toList.drop pos ≠ [] := by
        intro e
        have := congrArg List.length e
        rw [List.length_drop, ← HS.out] at this
        simp at this
        omega
      obtain ⟨n1, n2, n3⟩ := next_any s pos hp
      have hfd := first_decode _ hne
      have hts := isText_step _ hne
      rw [Lib.decodeL_drop] at hfd hts
      rw [List.drop_drop] at hts
      have c1 := first_any s pos wr hp hs
      have hh := head_at s pos hp
      obtain ⟨h, hh0⟩ : ∃ h, h = headOf (s.data.toList.drop pos) := ⟨_, rfl⟩
      rw [← hh0] at n1 hfd hts hh
      obtain ⟨Z, hZ⟩ : ∃ Z, Z = (Utf8.decode s pos).2 := ⟨_, rfl⟩
      rw [← hZ] at n1 n2 n3 hfd hts hh
      rcases hh with ⟨h1, h2, h3⟩ | ⟨h1, h2, h3⟩
      · rw [if_pos ⟨h1, h2⟩] at hfd
        rw [hfd] at c1
        have C1 := Lib.hid c1
        subst h2
        have HN : Hid (zs ++ [1114112 + ((s[pos]'hp).toNat : Int)] ++ letters (s.data.toList.drop (pos + 1)) = letters s.data.toList) := by
          show _ = _
          rw [← HE.out, n1, h3]
          simp
        have HT' : Hid ((false && isText (s.data.toList.drop (pos + 1))) = isText s.data.toList) := by
          show _ = _
          rw [← HT.out, hts, h3, decide_eq_false (by omega)]
          simp
        have hbyte : 0 ≤ ((s[pos]'hp).toNat : Int) ∧ ((s[pos]'hp).toNat : Int) ≤ 255 := by have := (s[pos]'hp).toNat_lt; omega
        obtain ⟨hy0, hy1⟩ := hbyte
        clear hne hfd hts c1 hh0 hZ n1 h1 h3 HE HT
        go_wp2_with fail
        refine C1.out.mono ?_
        rintro e w' ⟨rfl, rfl⟩
        go_wp2_with (at_builtin; go_loud (refine wpList_append_lit rfl (.tmp 21) (.tmp 27) .i64 138 3 8 Tryd.underlying138 info_i64 rfl w.heap.size _ zs [1114112 + ((s[pos]'hp).toNat : Int)] _ rfl 1 1 rfl rfl rfl HO.out (by omega) (by omega) hbs ?_; intro v5 w5 ho5 hg5))
        have hb5 := hg5.out.below HO.out hbs
        clear hg5
        go_roundw
        case rel => exact ⟨pos + 1, _, false, by go_num, rfl, ho5, hb.trans hb5, HN, HT', by simp; omega, by omega⟩
        case measure => simp [intOf]; omega
      · rw [if_neg h1] at hfd
        rw [hfd] at c1
        have C1 := Lib.hid c1
        have HN : Hid (zs ++ [h] ++ letters (s.data.toList.drop (pos + Z)) = letters s.data.toList) := by
          show _ = _
          rw [← HE.out, n1]
          simp
        have HT' : Hid ((t && isText (s.data.toList.drop (pos + Z))) = isText s.data.toList) := by
          show _ = _
          have := h3.2.1
          rw [← HT.out, hts, h2, decide_eq_true (by omega), Bool.true_and]
        have hZb : ((Z : Int) == 0) = false := by rw [beq_eq_false_iff_ne]; omega
        have hbd : 0 ≤ h ∧ h ≤ 1114111 := by rw [h2]; exact ⟨h3.1, h3.2.1⟩
        obtain ⟨hy0, hy1⟩ := hbd
        clear hne hfd hts c1 hh0 hZ n1 h1 h2 h3 HE HT
        go_wp2_with fail
        refine C1.out.mono ?_
        rintro e w' ⟨rfl, rfl⟩
        go_wp2_with (at_builtin; go_loud (refine wpList_append_lit rfl (.tmp 31) (.tmp 33) .i64 138 3 8 Tryd.underlying138 info_i64 rfl w.heap.size _ zs [h] _ rfl 1 1 rfl rfl rfl HO.out (by omega) (by omega) hbs ?_; intro v5 w5 ho5 hg5))
        have hb5 := hg5.out.below HO.out hbs
        clear hg5
        go_roundw
        case rel => exact ⟨pos + Z, _, t, by go_num, rfl, ho5, hb.trans hb5, HN, HT', by simp; omega, n3⟩
        case measure => simp [intOf]; omega
    · obtain rfl : pos = s.size := by omega
      have HEE : Hid (zs = letters s.data.toList) := by
        have := HE.out
        rw [next_end s _ hp, List.append_nil] at this
        exact this
      have HTT : Hid (isText s.data.toList = t) := by
        show _ = _
        rw [← HT.out, List.drop_of_length_le (by rw [← HS.out]; omega), isText_nil, Bool.and_true]
      clear HE HT
      go_wp2
      go_ret2
      refine HQ.out t HTT.out _ _ ⟨_, rfl, ?_, hb⟩
      rw [← HEE.out]
      exact HO.out
/-- the units of a letter -/
def unitInts (r : Int) : List Int := if r < 65536 then [r] else [55296 + (r - 65536) / 1024, 56320 + (r - 65536) % 1024]
def twoBytes (u : Int) : List Int := [u % 256, u / 256]
theorem unitBytes_two (r : Int) : unitBytes r = (unitInts r).flatMap twoBytes := by
  unfold unitBytes unitInts twoBytes
  split <;> rfl
theorem unitInts_bounds {r : Int} (h : IsLetter r) : ∀ u ∈ unitInts r, 0 ≤ u ∧ u ≤ 65535 := by
  obtain ⟨h0, h1, _⟩ := h
  intro u hu
  unfold unitInts at hu
  split at hu
  · simp at hu; omega
  · simp at hu; omega
theorem twoBytes_length (us : List Int) : (us.flatMap twoBytes).length = 2 * us.length := by
  induction us with
  | nil => rfl
  | cons a q ih =>
    rw [List.flatMap_cons, List.length_append, ih, List.length_cons]
    show 2 + _ = _
    omega
theorem unitInts_length (r : Int) : (unitInts r).length ≤ 2 := by unfold unitInts; split <;> simp
set_option maxHeartbeats 1000000 in
theorem units_any (w : World) (r : Int) (hr : IsLetter r) :
    Calls Tryd.prog 101 #[.int .i64 r] w fun e w' => ∃ v, e = .returned v ∧ OwnK .i64 3 w' w.heap.size v (unitInts r) ∧ Below w.heap.size w w' := by
  obtain ⟨r0, r1, _⟩ := hr
  unfold unitInts
  by_cases h : r < 65536
  · rw [if_pos h]
    have hO := Lib.hid (OwnK.lit .i64 3 w [r] #[.int .i64 r] 1 rfl rfl (by decide))
    go_enter Tryd.func101, Tryd.ntmps101
    go_wp2
    go_ret
    exact ⟨_, rfl, hO.out, (Below.refl _ _).alloc (Nat.le_refl _) _⟩
  · rw [if_neg h]
    have hO := Lib.hid (OwnK.lit .i64 3 w [55296 + (r - 65536) / 1024, 56320 + (r - 65536) % 1024] #[.int .i64 (55296 + (r - 65536) / 1024), .int .i64 (56320 + (r - 65536) % 1024)] 2 rfl rfl (by decide))
    have q1 : (r - 65536).tdiv 1024 = (r - 65536) / 1024 := Int.tdiv_eq_ediv_of_nonneg (by omega)
    have q2 : (r - 65536).tmod 1024 = (r - 65536) % 1024 := Int.tmod_eq_emod_of_nonneg (by omega)
    go_enter Tryd.func101, Tryd.ntmps101
    go_wp2
    go_ret
    exact ⟨_, rfl, hO.out, (Below.refl _ _).alloc (Nat.le_refl _) _⟩
/-- what the document's Put answers -/
def TRPutPost (w : World) (l : List UInt8) (e : Ending) (w' : World) : Prop :=
  ∃ v, e = .returned (.tuple #[v, .int .i64 (textErr l)]) ∧ OwnK .u8 5 w' w.heap.size v (putOfL l) ∧ Below w.heap.size w w'
set_option maxRecDepth 100000 in
set_option maxHeartbeats 4000000 in
theorem TRPut_any (s : ByteArray) (w : World) (hs : s.size ≤ 4398046511104) :
    Calls Tryd.prog 85 #[.string s] w (TRPutPost w s.data.toList) := by
  have hq : ∀ (e : Ending) (w' : World), (∃ v, e = .returned (.tuple #[v, .int .i64 (textErr s.data.toList)]) ∧ OwnK .u8 5 w' w.heap.size v (putOfL s.data.toList) ∧ Below w.heap.size w w') → TRPutPost w s.data.toList e w' := fun _ _ h => h
  have c1 := Letters_any s w hs
  unfold LettersPost at c1
  by_cases ht : isText s.data.toList = true
  · have e2 : textErr s.data.toList = 0 := if_pos ht
    have e3 : putOfL s.data.toList = putBytes (letters s.data.toList) := if_pos ht
    have hlet := isText_letters ht
    have hlen := letters_le s.data.toList
    rw [← Lib.size_eq] at hlen
    obtain ⟨L, hL⟩ : ∃ L, L = letters s.data.toList := ⟨_, rfl⟩
    rw [e2, e3, ← hL] at hq
    rw [ht, ← hL] at c1
    rw [← hL] at hlet hlen
    have HQ := Lib.hid hq
    have C1 := Lib.hid c1
    have HLE := Lib.hid hlet
    clear e2 e3 hq c1 hL ht hlet
    go_enter Tryd.func85, Tryd.ntmps85
    go_wp2_with fail
    refine C1.out.mono ?_
    rintro e w1 ⟨v1, rfl, ho1, hb1⟩
    have HO1 := Lib.hid ho1
    obtain ⟨A1, n1, m1, rfl, hn1, hnm1, hn63, _, _⟩ := ho1.open
    have HN1 := Lib.hid hn1
    have hn4 : n1 ≤ 4398046511104 := by omega
    clear ho1 hn1 C1 hlen
    go_wp2
    go_loopw [6, 7, 8, 9] (fun v i _ _ wr => ∃ k : Nat, i = .int .i64 k ∧ k ≤ n1 ∧ Hid (OwnK .u8 5 wr w.heap.size v (putBytes (L.take k))) ∧ Hid (OwnK .i64 3 wr w.heap.size (.slice A1 n1 m1) L) ∧ Hid ((putBytes (L.take k)).length ≤ 4 * k) ∧ Below w.heap.size w wr) (fun _ i _ _ _ => n1 - (intOf i).toNat)
    case atStart => exact ⟨0, rfl, Nat.zero_le _, OwnK.nil _ _ _ _, HO1, (by show _ ≤ _; simp [putBytes]), hb1⟩
    case round =>
      obtain ⟨k, rfl, hk, HO, HR, HL4, hb⟩ := hrel
      have hbs := hb.size
      by_cases hlt : k < n1
      · obtain ⟨A3, n3, m3, he3, _, _, _, _, hc3⟩ := HR.out.open
        cases he3
        obtain ⟨g, rfl, _, _, hc⟩ := hc3 (by omega)
        have gc := hc k hlt
        have hrL := HLE.out (L.getD k 0) (by
          have := HN1.out
          rw [List.getD_eq_getElem?_getD, List.getElem?_eq_getElem (by omega)]
          exact List.getElem_mem _)
        have htk : L.take (k + 1) = L.take k ++ [L.getD k 0] := by
          have := HN1.out
          rw [List.take_succ_eq_append_getElem (by omega)]
          simp [List.getD_eq_getElem?_getD, show k < L.length by omega]
        obtain ⟨r, hrr⟩ : ∃ r, r = L.getD k 0 := ⟨_, rfl⟩
        rw [← hrr] at gc hrL htk
        have hfl : putBytes (L.take (k + 1)) = putBytes (L.take k) ++ (unitInts r).flatMap twoBytes := by
          rw [htk, putBytes_append, ← unitBytes_two]
          simp [putBytes]
        have hub := unitInts_bounds hrL
        have hul := unitInts_length r
        have c2 := Lib.hid (units_any wr r hrL)
        obtain ⟨U, hU⟩ : ∃ U, U = unitInts r := ⟨_, rfl⟩
        rw [← hU] at c2 hfl hub hul
        obtain ⟨P, hP⟩ : ∃ P, P = putBytes (L.take k) := ⟨_, rfl⟩
        rw [← hP] at hfl HO HL4
        have HFL := Lib.hid hfl
        have HUB := Lib.hid hub
        have HUL := Lib.hid hul
        clear hc hc3 htk hrr hrL hfl hub hul hU hP
        go_wp2_with fail
        refine c2.out.mono ?_
        rintro e w2 ⟨v2, rfl, ho2, hb2⟩
        have HU2 := Lib.hid (ho2.mono hbs)
        obtain ⟨A2, n2, m2, rfl, hn2, hnm2, hn263, _, _⟩ := ho2.open
        have HN2 := Lib.hid hn2
        have hn22 : n2 ≤ 2 := by have := HUL.out; omega
        have HO2 := Lib.hid (HO.out.below hb2)
        have HR2 := Lib.hid (HR.out.below hb2)
        have hbb : Below w.heap.size w w2 := hb.trans (hb2.mono hbs)
        clear ho2 hn2 c2 hb2
        go_wp2
        go_loopw [6, 9] (fun v i wr => ∃ j : Nat, i = .int .i64 j ∧ j ≤ n2 ∧ Hid (OwnK .u8 5 wr w.heap.size v (P ++ (U.take j).flatMap twoBytes)) ∧ Hid (OwnK .i64 3 wr w.heap.size (.slice (some ⟨g, 0, none⟩) n1 m1) L) ∧ Hid (OwnK .i64 3 wr w.heap.size (.slice A2 n2 m2) U) ∧ Below w.heap.size w wr) (fun _ i _ => n2 - (intOf i).toNat)
        case atStart => exact ⟨0, rfl, Nat.zero_le _, (by show OwnK _ _ _ _ _ _; simpa using HO2.out), HR2, HU2, hbb⟩
        case round =>
          obtain ⟨j, rfl, hj, HO, HR, HU, hb⟩ := hrel
          have hbs := hb.size
          by_cases hlt2 : j < n2
          · obtain ⟨A4, n4, m4, he4, _, _, _, _, hc4⟩ := HU.out.open
            cases he4
            obtain ⟨g2, rfl, _, _, hcc⟩ := hc4 (by omega)
            have gx := hcc j hlt2
            have hxb := HUB.out (U.getD j 0) (by
              have := HN2.out
              rw [List.getD_eq_getElem?_getD, List.getElem?_eq_getElem (by omega)]
              exact List.getElem_mem _)
            have htk2 : U.take (j + 1) = U.take j ++ [U.getD j 0] := by
              have := HN2.out
              rw [List.take_succ_eq_append_getElem (by omega)]
              simp [List.getD_eq_getElem?_getD, show j < U.length by omega]
            obtain ⟨x, hx⟩ : ∃ x, x = U.getD j 0 := ⟨_, rfl⟩
            rw [← hx] at gx hxb htk2
            have HF2 : Hid (P ++ (U.take (j + 1)).flatMap twoBytes = P ++ (U.take j).flatMap twoBytes ++ [x % 256, x / 256]) := by
              show _ = _
              rw [htk2]
              simp [twoBytes]
            have hlen2 : (P ++ (U.take j).flatMap twoBytes).length ≤ 4 * 4398046511104 + 8 := by
              have h1 := HL4.out
              have h2 := twoBytes_length (U.take j)
              have h3 : (U.take j).length ≤ 2 := by have := HUL.out; rw [List.length_take]; omega
              rw [List.length_append]
              omega
            obtain ⟨hx0, hx1⟩ := hxb
            have q1 : x.tmod 256 = x % 256 := Int.tmod_eq_emod_of_nonneg hx0
            have q2 : x.tdiv 256 = x / 256 := Int.tdiv_eq_ediv_of_nonneg hx0
            have q3 : IntKind.u8.wrap (x % 256) = x % 256 := by rw [IntKind.wrap_u8']; omega
            have q4 : IntKind.u8.wrap (x / 256) = x / 256 := by rw [IntKind.wrap_u8']; omega
            have q5 : IntKind.i64.wrap (x / 256) = x / 256 := by rw [IntKind.wrap_i64]; omega
            have q6 : IntKind.i64.wrap (x % 256) = x % 256 := by rw [IntKind.wrap_i64]; omega
            have hj0 : (0 : Int) ≤ (j : Int) := Int.natCast_nonneg _
            have hj1 : (j : Int) < (n2 : Int) := by omega
            clear hx htk2 hcc hc4
            go_wp2
            go_region_law ((refine step_append_lit rfl (.tmp 34) (.tmp 47) .u8 29 5 1 Tryd.underlying29 info_u8 rfl w.heap.size _ _ [x % 256, x / 256] _ rfl 2 2 rfl rfl rfl HO.out (by omega) (by omega) hbs ?_; intro v5 w5 ho5 hg5))
            all_goals
              have hb5 := hg5.out.below HO.out hbs
              have HR5 := Lib.hid (hg5.out.other HO.out HR.out (by decide))
              have HU5 := Lib.hid (hg5.out.other HO.out HU.out (by decide))
              have HO5 : Hid (OwnK .u8 5 w5 w.heap.size v5 (P ++ (U.take (j + 1)).flatMap twoBytes)) := by rw [HF2.out]; exact ho5.out
              clear ho5 hg5 q1 q2 q3 q4 q5 q6
              go_wp2
              go_roundw
              case rel => exact ⟨j + 1, by go_num, hlt2, HO5, HR5, HU5, hb.trans hb5⟩
              case measure => simp [intOf]; omega
          · obtain rfl : j = n2 := by omega
            have HTK : Hid (P ++ (U.take j).flatMap twoBytes = putBytes (L.take (k + 1))) := by
              show _ = _
              rw [HFL.out, List.take_of_length_le (by have := HN2.out; omega)]
            have HLEN : Hid ((putBytes (L.take (k + 1))).length ≤ 4 * (k + 1)) := by
              show _ ≤ _
              have h1 := HL4.out
              have h2 := HUL.out
              rw [HFL.out, List.length_append, twoBytes_length]
              omega
            have ho6 := HO.out
            rw [HTK.out] at ho6
            have HO6 := Lib.hid ho6
            clear HTK HO HU ho6
            go_wp2
            go_roundw
            case rel => exact ⟨k + 1, by go_num, hlt, HO6, HR, HLEN, hb⟩
            case measure => simp [intOf]; omega
      · obtain rfl : k = n1 := by omega
        have HTK : Hid (L.take k = L) := by
          show _ = _
          exact List.take_of_length_le (by have := HN1.out; omega)
        go_wp2
        go_ret2
        refine HQ.out _ _ ⟨_, rfl, ?_, hb⟩
        rw [← HTK.out]
        exact HO.out
  · have ht' : isText s.data.toList = false := by simpa using ht
    have e2 : textErr s.data.toList = 5 := if_neg ht
    have e3 : putOfL s.data.toList = [] := if_neg ht
    rw [e2, e3] at hq
    rw [ht'] at c1
    have HQ := Lib.hid hq
    have C1 := Lib.hid c1
    clear e2 e3 hq c1 ht ht'
    go_enter Tryd.func85, Tryd.ntmps85
    go_wp2_with fail
    refine C1.out.mono ?_
    rintro e w1 ⟨v1, rfl, ho1, hb1⟩
    go_wp2
    go_ret2
    exact HQ.out _ _ ⟨_, rfl, OwnK.nil _ _ _ _, hb1⟩
end Go.Proofs.YtbbjmmooemmeiaaDoor

namespace Go.Proofs.YtbbjmmooemmeiaaDoor
set_option linter.all false
open Go.RowKit
set_option maxHeartbeats 400000 in
theorem RSize_any (w : World) (s : Int) : Calls Tryd.prog 84 #[.int .i64 s] w fun e w' => e = .returned (.bool (sizeOk s)) ∧ w = w' := by
  by_cases h1 : s = 1
  · subst h1
    go_enter Tryd.func84, Tryd.ntmps84
    go_wp2
    go_ret
    exact ⟨rfl, rfl⟩
  by_cases h2 : s = 2
  · subst h2
    go_enter Tryd.func84, Tryd.ntmps84
    go_wp2
    go_ret
    exact ⟨rfl, rfl⟩
  by_cases h4 : s = 4
  · subst h4
    go_enter Tryd.func84, Tryd.ntmps84
    go_wp2
    go_ret
    exact ⟨rfl, rfl⟩
  by_cases h8 : s = 8
  · subst h8
    go_enter Tryd.func84, Tryd.ntmps84
    go_wp2
    go_ret
    exact ⟨rfl, rfl⟩
  · have e : sizeOk s = false := by simp [sizeOk, h1, h2, h4, h8]
    have b1 : (s == 1) = false := by simpa using h1
    have b2 : (s == 2) = false := by simpa using h2
    have b4 : (s == 4) = false := by simpa using h4
    have b8 : (s == 8) = false := by simpa using h8
    rw [e]
    clear e h1 h2 h4 h8
    go_enter Tryd.func84, Tryd.ntmps84
    go_wp2
    go_ret
    exact ⟨rfl, rfl⟩
end Go.Proofs.YtbbjmmooemmeiaaDoor

namespace Go.Proofs.YtbbjmmooemmeiaaDoor
set_option linter.all false
open Go.RowKit
/-- what the document's Put answers -/
def RPutPost (w : World) (n s : Int) (e : Ending) (w' : World) : Prop := ∃ v, e = .returned (.tuple #[v, .int .i64 (putErr n s)]) ∧ Own w' w.heap.size v (putOf n s) ∧ Below w.heap.size w w'
theorem le_snoc (n : Int) (k : Nat) : le n (k + 1) = le n k ++ [n / 256 ^ k % 256] := by
  have hk : k < (le n (k + 1)).length := by rw [le_length]; omega
  have h1 := List.take_succ_eq_append_getElem hk
  rw [le_getElem n (k + 1) k (by omega) hk, List.take_of_length_le (by rw [le_length]; omega)] at h1
  rw [h1]
  congr 1
  clear h1 hk
  induction k generalizing n with
  | zero => rfl
  | succ k ih => rw [show le n (k + 1 + 1) = n % 256 :: le (n / 256) (k + 1) from rfl, List.take_succ_cons, ih]; rfl
set_option maxHeartbeats 400000 in
theorem RPut_any (w : World) (n s : Int) (hn : 0 ≤ n ∧ n ≤ 18446744073709551615) :
    Calls Tryd.prog 67 #[.int .u64 n, .int .i64 s] w (RPutPost w n s) := by
  have c1 := RSize_any w s
  obtain ⟨hn0, hn1⟩ := hn
  by_cases hz : sizeOk s = true
  · have hs8 : 1 ≤ s ∧ s ≤ 8 := by rcases sizeOk_cases hz with e | e | e | e <;> omega
    obtain ⟨hs1, hs8⟩ := hs8
    obtain ⟨j, rfl⟩ := Int.eq_ofNat_of_zero_le (show 0 ≤ s by omega)
    have hq0 : n / 256 ^ j = 0 → ∀ e w', (∃ v, e = .returned (.tuple #[v, .int .i64 0]) ∧ Own w' w.heap.size v (le n j) ∧ Below w.heap.size w w') → RPutPost w n j e w' := by
      intro h0 e w' hh
      have hp : putOk n j = true := by
        have := putOk_at n j (256 ^ j) hz rfl hn0 (Int.pow_pos (by omega))
        rw [← this, h0]; rfl
      unfold RPutPost putErr putOf
      rw [if_pos hp, if_pos hp, Int.toNat_natCast]
      exact hh
    have hq1 : 0 < n / 256 ^ j → ∀ e w', (∃ v, e = .returned (.tuple #[v, .int .i64 2]) ∧ Own w' w.heap.size v [] ∧ Below w.heap.size w w') → RPutPost w n j e w' := by
      intro h0 e w' hh
      have hp : ¬ putOk n j = true := by
        have := putOk_at n j (256 ^ j) hz rfl hn0 (Int.pow_pos (by omega))
        rw [← this, beq_iff_eq]; omega
      unfold RPutPost putErr putOf
      rw [if_neg hp, if_neg hp]
      exact hh
    rw [hz] at c1
    have C1 := Lib.hid c1
    have HQ0 := Lib.hid hq0
    have HQ1 := Lib.hid hq1
    clear c1 hz hq0 hq1
    go_enter Tryd.func67, Tryd.ntmps67
    go_wp2_with fail
    refine C1.out.mono ?_
    rintro e w' ⟨rfl, rfl⟩
    go_wp2_with fail
    go_loopw [0, 6, 7] (fun nv v i wr => ∃ k : Nat, k ≤ j ∧ i = .int .i64 k ∧ ∃ z, nv = .int .u64 z ∧ Hid (z = n / 256 ^ k) ∧ 0 ≤ z ∧ z ≤ 18446744073709551615 ∧ Hid (Own wr w.heap.size v (le n k)) ∧ Below w.heap.size w wr) (fun _ _ i _ => j - (intOf i).toNat)
    case atStart => exact ⟨0, Nat.zero_le _, rfl, n, rfl, by show n = _; simp, hn0, hn1, Own.nil _ _, Below.refl _ _⟩
    case round =>
      obtain ⟨k, hk, rfl, z, rfl, HZ, hz0, hz1, HO, hb⟩ := hrel
      by_cases hlt : k < j
      · have hm := Int.emod_nonneg z (show (256 : Int) ≠ 0 by omega)
        have hm2 := Int.emod_lt_of_pos z (show (0 : Int) < 256 by omega)
        have hlen : (le n k).length + [z % 256].length ≤ 140737488355328 := by rw [le_length]; simp; omega
        have hbs := hb.size
        have hS1 : Hid (z / 256 = n / 256 ^ (k + 1)) := by
          show _ = _
          rw [HZ.out, Int.pow_succ, Int.ediv_ediv_of_nonneg (Int.le_of_lt (Int.pow_pos (by omega)))]
        have hS2 : Hid (le n k ++ [z % 256] = le n (k + 1)) := by
          show _ = _
          rw [le_snoc, HZ.out]
        go_wp2_with (at_builtin; refine wpList_append_bytes rfl (.tmp 16) (.tmp 20) rfl w.heap.size _ _ rfl (HO.out.alloc _) _ _ 1 1 [z % 256] rfl (Holds.single wr (z % 256) (by omega)) hlen (by simp; omega) ?_; intro v2 w2 ho2 hb2 hgr)
        have ho := ho2.out
        rw [hS2.out] at ho
        go_roundw
        case rel => exact ⟨k + 1, by omega, by go_num, _, rfl, hS1, by omega, by omega, ho, (hb.alloc hb.size _).trans hb2⟩
        case measure => simp [intOf]; omega
      · obtain rfl : k = j := by omega
        by_cases h0 : 0 < z
        · have hS := HQ1.out (by rw [← HZ.out]; exact h0)
          have HS := Lib.hid hS
          clear hS HZ HO
          go_wp2
          go_ret2
          exact HS.out _ _ ⟨_, rfl, Own.nil _ _, hb⟩
        · have hS := HQ0.out (by rw [← HZ.out]; omega)
          have HS := Lib.hid hS
          clear hS HZ
          go_wp2
          go_ret2
          exact HS.out _ _ ⟨_, rfl, HO.out, hb⟩
  · have hz' : sizeOk s = false := by simpa using hz
    have hp : ¬ putOk n s = true := by unfold putOk; rw [hz']; simp
    have hq : ∀ e w', (∃ v, e = .returned (.tuple #[v, .int .i64 2]) ∧ Own w' w.heap.size v [] ∧ Below w.heap.size w w') → RPutPost w n s e w' := by
      intro e w' hh
      unfold RPutPost putErr putOf
      rw [if_neg hp, if_neg hp]
      exact hh
    have HQ := Lib.hid hq
    rw [hz'] at c1
    have C1 := Lib.hid c1
    clear c1 hz hz' hp hq
    go_enter Tryd.func67, Tryd.ntmps67
    go_wp2_with fail
    refine C1.out.mono ?_
    rintro e w' ⟨rfl, rfl⟩
    go_wp2
    go_ret2
    exact HQ.out _ _ ⟨_, rfl, Own.nil _ _, Below.refl _ _⟩
end Go.Proofs.YtbbjmmooemmeiaaDoor

namespace Go.Proofs.YtbbjmmooemmeiaaDoor
set_option linter.all false
open Go.RowKit
set_option linter.unusedVariables false
/-- what Lay answers: a number behind others -/
def LayTPost (w : World) (base : Nat) (xs : List Int) (n s : Int) (e : Ending) (w' : World) : Prop := ∃ v, e = .returned v ∧ Own w' base v (xs ++ putOf n s) ∧ Below base w w'
set_option maxHeartbeats 400000 in
theorem LayT_any (w : World) (base : Nat) (v : Value) (xs : List Int) (n s : Int) (hn : 0 ≤ n ∧ n ≤ 18446744073709551615) (ho : Own w base v xs) (hxl : xs.length ≤ 1000000) (hps : (putOf n s).length ≤ 8) (hpb : Bytes (putOf n s)) (hb : base ≤ w.heap.size) :
    Calls Tryd.prog 39 #[v, .int .u64 n, .int .i64 s] w (LayTPost w base xs n s) := by
  have C1 := Lib.hid (RPut_any w n s hn)
  have HO := Lib.hid ho
  have HQ : Hid (∀ e w', (∃ v, e = .returned v ∧ Own w' base v (xs ++ putOf n s) ∧ Below base w w') → LayTPost w base xs n s e w') := fun _ _ hh => hh
  have HPB := Lib.hid hpb
  obtain ⟨A0, c0, hv0⟩ := ho.len
  obtain ⟨ys, hys⟩ : ∃ ys, ys = putOf n s := ⟨_, rfl⟩
  unfold RPutPost at C1
  rw [← hys] at C1 HQ hps HPB
  have hlen : xs.length + ys.length ≤ 140737488355328 := by omega
  clear hys hn hpb ho
  subst hv0
  go_enter Tryd.func39, Tryd.ntmps39
  go_wp2_with fail
  refine C1.out.mono ?_
  rintro e w1 ⟨x, rfl, hx, L1⟩
  obtain ⟨A1, c1, rfl, hh⟩ := hx.holds HPB.out (by omega)
  have HO1 := HO.out.below L1
  have hs1 := L1.size
  obtain ⟨m, hm⟩ : ∃ m, m = ys.length := ⟨_, rfl⟩
  rw [← hm] at hh ⊢
  have HH := Lib.hid hh
  obtain ⟨m0, hm0⟩ : ∃ m, m = xs.length := ⟨_, rfl⟩
  have HO1' := Lib.hid HO1
  have HLEN := Lib.hid hlen
  rw [← hm0] at HO1' ⊢
  clear hm hm0 hh hx HO HO1 hlen
  go_wp2_with (at_builtin; refine wpList_append_bytes rfl (.tmp 15) (.tmp 16) rfl base _ xs rfl HO1'.out _ A1 m c1 ys rfl HH.out HLEN.out (by omega) ?_; intro v2 w2 ho2 hb2 hgr)
  go_ret
  exact HQ.out _ _ ⟨_, rfl, ho2.out, (L1.mono hb).trans hb2⟩
/-- what PutRow answers -/
def RowPost (w : World) (xs : List Int) (e : Ending) (w' : World) : Prop := ∃ v, e = .returned (.tuple #[v, .int .i64 (rowErr xs.length)]) ∧ Own w' w.heap.size v (rowOf xs) ∧ Below w.heap.size w w'
set_option maxHeartbeats 400000 in
theorem RPutRow_any (w : World) (A : Option Addr) (n c : Nat) (xs : List Int) (h : Holds w w.heap.size A n c xs) :
    Calls Tryd.prog 86 #[.slice A n c] w (RowPost w xs) := by
  have hl := h.len
  have hr := h.room
  by_cases hn : n ≤ 65535
  · have e0 : putOf (n : Int) 2 = le n 2 := by
      unfold putOf putOk
      rw [show sizeOk 2 = true from rfl, show ((2 : Int).toNat) = 2 from rfl, show (256 : Int) ^ 2 = 65536 from by decide, decide_eq_true (by omega : (n : Int) < 65536)]
      rfl
    have HQ : Hid (∀ e w', (∃ v, e = .returned (.tuple #[v, .int .i64 0]) ∧ Own w' w.heap.size v (le n 2 ++ xs) ∧ Below w.heap.size w w') → RowPost w xs e w') := by
      intro e w' hh
      unfold RowPost rowErr rowOf
      rw [hl, if_pos hn, if_pos hn]
      exact hh
    have C1 := RPut_any w (n : Int) 2 (by omega)
    unfold RPutPost at C1
    rw [e0] at C1
    have hle := le_length (n : Int) 2
    obtain ⟨ls, hls⟩ : ∃ ls, ls = le (n : Int) 2 := ⟨_, rfl⟩
    obtain ⟨er, her⟩ : ∃ er, er = putErr (n : Int) 2 := ⟨_, rfl⟩
    rw [← hls] at C1 HQ hle
    rw [← her] at C1
    have C1' := Lib.hid C1
    have HX := Lib.hid h
    have HLEN : Hid (ls.length + xs.length ≤ 140737488355328) := by show _ ≤ _; omega
    have hz : IntKind.u64.wrap (n : Int) = n := by rw [IntKind.wrap_u64]; omega
    clear C1 hls her e0 hl h hle
    go_enter Tryd.func86, Tryd.ntmps86
    go_wp2_with fail
    refine C1'.out.mono ?_
    rintro e w1 ⟨x, rfl, hx, L1⟩
    obtain ⟨A1, c1, rfl⟩ := hx.len
    have HO := Lib.hid hx
    have HX1 := Lib.hid (HX.out.below L1)
    have hs1 := L1.size
    have L1' := Lib.hid L1
    clear hx C1' L1
    go_wp2_with (at_builtin; refine wpList_append_bytes rfl (.tmp 16) (.tmp 17) rfl w.heap.size _ ls rfl HO.out w.heap.size A n c xs rfl HX1.out HLEN.out hs1 ?_; intro v2 w2 ho2 hb2 hgr)
    go_ret2
    exact HQ.out _ _ ⟨_, rfl, ho2.out, L1'.out.trans hb2⟩
  · have HQ : Hid (∀ e w', (∃ v, e = .returned (.tuple #[v, .int .i64 3]) ∧ Own w' w.heap.size v [] ∧ Below w.heap.size w w') → RowPost w xs e w') := by
      intro e w' hh
      unfold RowPost rowErr rowOf
      rw [hl, if_neg hn, if_neg hn]
      exact hh
    clear h hl
    go_enter Tryd.func86, Tryd.ntmps86
    go_wp2
    go_ret2
    exact HQ.out _ _ ⟨_, rfl, Own.nil _ _, Below.refl _ _⟩
/-- what PutText answers -/
def PTextPost (w : World) (l : List UInt8) (e : Ending) (w' : World) : Prop := ∃ v, e = .returned (.tuple #[v, .int .i64 (ptextErr l)]) ∧ Own w' w.heap.size v (ptextOf l) ∧ Below w.heap.size w w'
set_option maxHeartbeats 400000 in
theorem RPutText_any (s : ByteArray) (w : World) (hs : s.size ≤ 4398046511104) :
    Calls Tryd.prog 68 #[.string s] w (PTextPost w s.data.toList) := by
  have C1 := TRPut_any s w hs
  unfold TRPutPost at C1
  obtain ⟨l, hl⟩ : ∃ l, l = s.data.toList := ⟨_, rfl⟩
  rw [← hl] at C1 ⊢
  have hlen : (putOfL l).length ≤ 4 * s.size := by
    rw [hl]
    have := putOfL_length s.data.toList
    have := unitsOfL_le s.data.toList
    have e : s.data.toList.length = s.size := by rw [Array.length_toList]; rfl
    omega
  have hby : Bytes (putOfL l) := putOfL_byte l
  have HBY := Lib.hid hby
  by_cases ht : textErr l = 0
  · by_cases hm : (putOfL l).length ≤ 512
    · have HQ : Hid (∀ e w', (∃ v, e = .returned (.tuple #[v, .int .i64 (rowErr (putOfL l).length)]) ∧ Own w' w.heap.size v (rowOf (putOfL l)) ∧ Below w.heap.size w w') → PTextPost w l e w') := by
        intro e w' hh
        have e0 : ptextErr l = 0 := by unfold ptextErr; rw [if_pos ht, if_pos hm]
        unfold PTextPost ptextOf
        rw [e0, if_pos rfl]
        unfold rowErr at hh
        rwa [if_pos (by omega : (putOfL l).length ≤ 65535)] at hh
      have CR : Hid (∀ (w : World) (A : Option Addr) (n c : Nat), Holds w w.heap.size A n c (putOfL l) → Calls Tryd.prog 86 #[.slice A n c] w (RowPost w (putOfL l))) := fun w A n c hh => RPutRow_any w A n c _ hh
      rw [ht] at C1
      unfold RowPost at CR
      obtain ⟨ps, hps⟩ : ∃ ps, ps = putOfL l := ⟨_, rfl⟩
      rw [← hps] at C1 HQ CR hm HBY hlen
      obtain ⟨m, hml⟩ : ∃ m, m = ps.length := ⟨_, rfl⟩
      rw [← hml] at hm hlen HQ CR
      have HM : Hid (ps.length = m) := hml.symm
      have C1' := Lib.hid C1
      clear C1 hl ht hps hml hby
      go_enter Tryd.func68, Tryd.ntmps68
      go_wp2_with fail
      refine C1'.out.mono ?_
      rintro e w1 ⟨x, rfl, hx, L1⟩
      obtain ⟨A1, c1, rfl, hh⟩ := Own.holds (w := w1) (base := w.heap.size) (v := x) (xs := ps) hx HBY.out (by have := HM.out; omega)
      rw [HM.out] at hh ⊢
      have HH := Lib.hid hh
      have L1' := Lib.hid L1
      clear hx C1' L1 hh
      go_wp2_with fail
      refine (CR.out w1 A1 m c1 HH.out).mono ?_
      rintro e w2 ⟨v, rfl, ho, L2⟩
      go_wp2
      go_ret2
      exact HQ.out _ _ ⟨_, rfl, ho.mono L1'.out.size, step L1'.out L2⟩
    · have HQ : Hid (∀ e w', (∃ v, e = .returned (.tuple #[v, .int .i64 3]) ∧ Own w' w.heap.size v [] ∧ Below w.heap.size w w') → PTextPost w l e w') := by
        intro e w' hh
        have e0 : ptextErr l = 3 := by unfold ptextErr; rw [if_pos ht, if_neg hm]
        unfold PTextPost ptextOf
        rw [e0, if_neg (by decide)]
        exact hh
      rw [ht] at C1
      obtain ⟨ps, hps⟩ : ∃ ps, ps = putOfL l := ⟨_, rfl⟩
      rw [← hps] at C1 hm HBY hlen
      obtain ⟨m, hml⟩ : ∃ m, m = ps.length := ⟨_, rfl⟩
      rw [← hml] at hm hlen
      have HM : Hid (ps.length = m) := hml.symm
      have C1' := Lib.hid C1
      clear C1 hl ht hps hml hby
      go_enter Tryd.func68, Tryd.ntmps68
      go_wp2_with fail
      refine C1'.out.mono ?_
      rintro e w1 ⟨x, rfl, hx, L1⟩
      obtain ⟨A1, c1, rfl, hh⟩ := Own.holds (w := w1) (base := w.heap.size) (v := x) (xs := ps) hx HBY.out (by have := HM.out; omega)
      rw [HM.out] at ⊢
      have L1' := Lib.hid L1
      clear hx C1' L1 hh
      go_wp2
      go_ret2
      exact HQ.out _ _ ⟨_, rfl, Own.nil _ _, L1'.out⟩
  · have HQ : Hid (∀ e w', (∃ v, e = .returned (.tuple #[v, .int .i64 (textErr l)]) ∧ Own w' w.heap.size v [] ∧ Below w.heap.size w w') → PTextPost w l e w') := by
      intro e w' hh
      have e0 : ptextErr l = textErr l := by unfold ptextErr; rw [if_neg ht]
      unfold PTextPost ptextOf
      rw [e0, if_neg ht]
      exact hh
    obtain ⟨er, her⟩ : ∃ er, er = textErr l := ⟨_, rfl⟩
    rw [← her] at C1 HQ ht
    have C1' := Lib.hid C1
    clear C1 hl her hby hlen
    go_enter Tryd.func68, Tryd.ntmps68
    go_wp2_with fail
    refine C1'.out.mono ?_
    rintro e w1 ⟨x, rfl, hx, L1⟩
    go_wp2
    go_ret2
    exact HQ.out _ _ ⟨_, rfl, Own.nil _ _, L1⟩
end Go.Proofs.YtbbjmmooemmeiaaDoor

namespace Go.Proofs.YtbbjmmooemmeiaaDoor
set_option linter.all false
open Go.RowKit
set_option linter.unusedVariables false
set_option maxRecDepth 100000
theorem LayF_any (w : World) (base : Nat) (v : Value) (xs : List Int) (n : Int) (s : Nat) (M : Int) (hM : (256 : Int) ^ s = M) (hM8 : M ≤ 18446744073709551616) (hs : sizeOk (s : Int) = true) (ho : Own w base v xs) (hx : xs.length ≤ 1000000) (hb : base ≤ w.heap.size) (h0 : 0 ≤ n) (h1 : n < M) :
    Calls Tryd.prog 39 #[v, .int .u64 n, .int .i64 (s : Int)] w fun e w' => ∃ v', e = .returned v' ∧ Own w' base v' (xs ++ le n s) ∧ Below base w w' := by
  have hs8 : s ≤ 8 := by rcases sizeOk_cases hs with h | h | h | h <;> omega
  have hp : putOk n (s : Int) = true := by unfold putOk; rw [hs, Int.toNat_natCast, hM, decide_eq_true h1]; rfl
  have e1 : putOf n (s : Int) = le n s := by unfold putOf; rw [if_pos hp, Int.toNat_natCast]
  have h := LayT_any w base v xs n (s : Int) ⟨h0, by omega⟩ ho hx (by rw [e1, le_length]; exact hs8) (by rw [e1]; exact le_bytes _ _) hb
  unfold LayTPost at h
  rw [e1] at h
  exact h
end Go.Proofs.YtbbjmmooemmeiaaDoor

namespace Go.Proofs.YtbbjmmooemmeiaaDoor
set_option linter.all false
open Go.RowKit
set_option linter.unusedVariables false
set_option linter.unusedSimpArgs false
set_option maxRecDepth 100000
theorem RKnownI_any (w : World) (c : Int) (hc : 0 ≤ c ∧ c ≤ 65535) : Calls Tryd.prog 37 #[.int .u16 c] w fun e w' => e = .returned (.bool (knownI c)) ∧ w = w' := by
  obtain ⟨z, hz⟩ : ∃ z, z = knownI c := ⟨_, rfl⟩
  have HZ := Lib.hid hz
  rw [← hz]
  clear hz
  by_cases h1 : c = 12
  · subst h1
    have HR : Hid (z = true) := by show _ = _; rw [HZ.out]; decide
    go_enter Tryd.func37, Tryd.ntmps37
    go_wp2
    go_ret
    exact ⟨ret_bool HR.out.symm, rfl⟩
  · by_cases h2 : c = 14
    · subst h2
      have HR : Hid (z = true) := by show _ = _; rw [HZ.out]; decide
      go_enter Tryd.func37, Tryd.ntmps37
      go_wp2
      go_ret
      exact ⟨ret_bool HR.out.symm, rfl⟩
    · have b1 : (c == 12) = false := by simpa using h1
      have b2 : (c == 14) = false := by simpa using h2
      by_cases h3 : 16 ≤ c
      · by_cases h4 : c ≤ 18
        · have HR : Hid (z = true) := by show _ = _; rw [HZ.out]; unfold knownI; rw [decide_eq_true h3, decide_eq_true h4]; simp
          clear h1 h2
          go_enter Tryd.func37, Tryd.ntmps37
          go_wp2
          go_ret
          exact ⟨ret_bool HR.out.symm, rfl⟩
        · have HR : Hid (z = false) := by show _ = _; rw [HZ.out]; unfold knownI; rw [decide_eq_false h1, decide_eq_false h2, decide_eq_false h4]; simp
          clear h1 h2
          go_enter Tryd.func37, Tryd.ntmps37
          go_wp2
          go_ret
          exact ⟨ret_bool HR.out.symm, rfl⟩
      · have HR : Hid (z = false) := by show _ = _; rw [HZ.out]; unfold knownI; rw [decide_eq_false h1, decide_eq_false h2, decide_eq_false h3]; simp
        clear h1 h2
        go_enter Tryd.func37, Tryd.ntmps37
        go_wp2
        go_ret
        exact ⟨ret_bool HR.out.symm, rfl⟩
theorem RTruthI_any (w : World) (b : Bool) : Calls Tryd.prog 41 #[.bool b] w fun e w' => e = .returned (.int .u64 (truthI b)) ∧ w = w' := by
  cases b
  · go_enter Tryd.func41, Tryd.ntmps41
    go_wp2
    go_ret
    exact ⟨rfl, rfl⟩
  · go_enter Tryd.func41, Tryd.ntmps41
    go_wp2
    go_ret
    exact ⟨rfl, rfl⟩
/-- texts' rows, one behind the other, and their first error -/
def textsB : List ByteArray → List Int
  | [] => []
  | s :: r => ptextOf s.data.toList ++ textsB r
def textsErr : List ByteArray → Int
  | [] => 0
  | s :: r => if ptextErr s.data.toList = 0 then textsErr r else ptextErr s.data.toList
theorem textsB_snoc (l : List ByteArray) (s : ByteArray) : textsB (l ++ [s]) = textsB l ++ ptextOf s.data.toList := by
  induction l with
  | nil => simp [textsB]
  | cons x r ih => simp only [List.cons_append, textsB, ih, List.append_assoc]
theorem textsErr_ok {l : List ByteArray} (s : ByteArray) (h : textsErr l = 0) (post : List ByteArray) : textsErr (l ++ s :: post) = if ptextErr s.data.toList = 0 then textsErr post else ptextErr s.data.toList := by
  induction l with
  | nil => rfl
  | cons x r ih =>
    by_cases h1 : ptextErr x.data.toList = 0
    · have e1 : textsErr (x :: r) = textsErr r := by show (if _ then _ else _) = _; rw [if_pos h1]
      rw [e1] at h
      have e2 : textsErr (x :: (r ++ s :: post)) = textsErr (r ++ s :: post) := by show (if _ then _ else _) = _; rw [if_pos h1]
      rw [List.cons_append, e2, ih h]
    · have e1 : textsErr (x :: r) = ptextErr x.data.toList := by show (if _ then _ else _) = _; rw [if_neg h1]
      rw [e1] at h
      exact absurd h h1
theorem textsB_le (l : List ByteArray) : (textsB l).length ≤ 514 * l.length := by
  induction l with
  | nil => exact Nat.le_refl _
  | cons x r ih =>
    have h1 : (ptextOf x.data.toList).length ≤ 514 := rowOf_le _
    simp only [textsB, List.length_append, List.length_cons]
    omega
def RTextsPost (w : World) (base : Nat) (xs : List Int) (ss : List ByteArray) (e : Ending) (w' : World) : Prop := ∃ v, e = .returned (.tuple #[v, .int .i64 (textsErr ss)]) ∧ Own w' base v (if textsErr ss = 0 then xs ++ textsB ss else []) ∧ Below base w w'
theorem blk_grownO {w w' : World} {gl base : Nat} {T : TypeId} {cs : List Value} {v : Value} {xs : List Int} (hB : Blk w gl T cs) (hT : T ≠ 5) (h : Own w base v xs) (hg : w.grownBy w' v.ownBlock) : Blk w' gl T cs := by
  show w'.heap[gl]? = _
  rw [hg.block gl hB.lt (fun e => ?_)]
  · exact hB
  · obtain ⟨_, c, hc⟩ := (show OwnK .u8 5 w base v xs from h).block e.symm
    rw [show w.heap[gl]? = _ from hB] at hc
    cases hc
    exact hT rfl
set_option maxHeartbeats 1000000 in
theorem RTexts_any (w : World) (base gl m : Nat) (v : Value) (xs : List Int) (ss : List ByteArray) (hO : Own w base v xs) (hb : base ≤ w.heap.size) (hB : Blk w gl 9 (ss.map Value.string)) (hm : ss.length = m) (hm2 : m ≤ 2) (hs : ∀ s ∈ ss, s.size ≤ 4398046511104) (hl : xs.length ≤ 100000) :
    Calls Tryd.prog 40 #[v, .slice (some ⟨gl, 0, none⟩) m m] w (RTextsPost w base xs ss) := by
  have HO0 := Lib.hid hO
  have HB0 := Lib.hid hB
  have CT : Hid (∀ (w' : World) (s : ByteArray), s ∈ ss → Calls Tryd.prog 68 #[.string s] w' fun e w2 => (∃ A k c, e = .returned (.tuple #[.slice A k c, .int .i64 (ptextErr s.data.toList)]) ∧ k ≤ 514 ∧ Holds w2 w2.heap.size A k c (ptextOf s.data.toList)) ∧ Below w'.heap.size w' w2) := fun w' s h => by
    refine (RPutText_any s w' (hs s h)).mono fun e w2 ⟨u, h1, h2, h3⟩ => ⟨?_, h3⟩
    have hle : (ptextOf s.data.toList).length ≤ 514 := rowOf_le _
    obtain ⟨A, c, rfl, h4⟩ := Own.holds h2 (ptextOf_bytes _) (by omega)
    exact ⟨A, _, c, h1, hle, h4⟩
  have HX : Hid (∀ j, j < m → ∃ s, ss[j]? = some s ∧ s ∈ ss) := fun j hj => ⟨_, List.getElem?_eq_getElem (by omega), List.getElem_mem _⟩
  have HCE : Hid (∀ (j : Nat) (s : ByteArray), ss[j]? = some s → (ss.map Value.string)[j]? = some (.string s)) := fun j s h => by simp [h]
  have HQ : Hid (∀ (u : Value) (e : Ending) (w' : World), textsErr ss = 0 → e = .returned (.tuple #[u, .int .i64 0]) → Own w' base u (xs ++ textsB ss) → Below base w w' → RTextsPost w base xs ss e w') := fun u e w' h0 h1 h2 h3 => ⟨u, by rw [h0]; exact h1, by rw [if_pos h0]; exact h2, h3⟩
  have HQE : Hid (∀ (er : Int) (e : Ending) (w' : World), textsErr ss = er → er ≠ 0 → e = .returned (.tuple #[.slice none 0 0, .int .i64 er]) → Below base w w' → RTextsPost w base xs ss e w') := fun er e w' h0 hn h1 h3 => ⟨_, by rw [h0]; exact h1, by rw [h0, if_neg hn]; exact Own.nil _ _, h3⟩
  have H0 : Hid (xs ++ textsB (ss.take 0) = xs ∧ textsErr (ss.take 0) = 0) := ⟨by rw [List.take_zero]; exact List.append_nil _, by rw [List.take_zero]; rfl⟩
  have HN : Hid (xs ++ textsB (ss.take m) = xs ++ textsB ss ∧ textsErr (ss.take m) = textsErr ss) := by
    have h1 : ss.take m = ss := by rw [← hm, List.take_length]
    exact ⟨by rw [h1], by rw [h1]⟩
  have HST : Hid (∀ (j : Nat) (s : ByteArray), ss[j]? = some s → textsErr (ss.take j) = 0 → (ptextErr s.data.toList = 0 → textsErr (ss.take (j + 1)) = 0) ∧ (ptextErr s.data.toList ≠ 0 → textsErr ss = ptextErr s.data.toList) ∧ xs ++ textsB (ss.take (j + 1)) = xs ++ textsB (ss.take j) ++ ptextOf s.data.toList) := fun j s hj he => by
    have e1 : ss.take (j + 1) = ss.take j ++ [s] := by rw [List.take_add_one, hj]; rfl
    refine ⟨fun h => ?_, fun h => ?_, ?_⟩
    · rw [e1, textsErr_ok s he [], if_pos h]; rfl
    · have hlt := (List.getElem?_eq_some_iff.1 hj).1
      have e2 : ss = ss.take j ++ (s :: ss.drop (j + 1)) := by
        have h3 := (List.getElem?_eq_some_iff.1 hj).2
        rw [← h3, ← List.drop_eq_getElem_cons hlt, List.take_append_drop]
      have e3 := textsErr_ok s he (ss.drop (j + 1))
      rw [← e2, if_neg h] at e3
      exact e3
    · rw [e1, textsB_snoc, List.append_assoc]
  have HLN : Hid (∀ j, j ≤ m → (xs ++ textsB (ss.take j)).length ≤ 200000) := fun j hj => by
    have h1 := textsB_le (ss.take j)
    rw [List.length_take] at h1
    rw [List.length_append]
    omega
  obtain ⟨YS, hYS⟩ : ∃ f : Nat → List Int, f = fun j => xs ++ textsB (ss.take j) := ⟨_, rfl⟩
  have hYS2 : ∀ j, xs ++ textsB (ss.take j) = YS j := fun j => by rw [hYS]
  obtain ⟨ER, hER⟩ : ∃ f : Nat → Int, f = fun j => textsErr (ss.take j) := ⟨_, rfl⟩
  have hER2 : ∀ j, textsErr (ss.take j) = ER j := fun j => by rw [hER]
  simp only [hYS2, hER2] at H0 HN HST HLN
  rw [← HN.out.1] at HQ
  obtain ⟨cs, hcs⟩ : ∃ cs, cs = ss.map Value.string := ⟨_, rfl⟩
  rw [← hcs] at HB0 HCE
  clear hYS hYS2 hER hER2 hO hB hcs hs hm
  go_enter Tryd.func40, Tryd.ntmps40
  go_wp2
  go_loopw [0, 6] (fun u i wr => ∃ j : Nat, i = .int .i64 j ∧ j ≤ m ∧ Hid (Own wr base u (YS j)) ∧ Hid (ER j = 0) ∧ Hid (Blk wr gl 9 cs) ∧ Hid (Below base w wr)) (fun _ i _ => m - (intOf i).toNat)
  case atStart => exact ⟨0, rfl, Nat.zero_le _, (by rw [H0.out.1]; exact HO0.out), H0.out.2, HB0, Below.refl _ _⟩
  case round =>
    obtain ⟨j, rfl, hj, HO, HE, HK, HL⟩ := hrel
    by_cases hlt : j < m
    · obtain ⟨s, hs, hmem⟩ := HX.out j hlt
      have ck : wr.cell? ⟨gl, j, none⟩ = some (.string s) := (HK.out.cell j).trans (HCE.out j s hs)
      have HS := Lib.hid (HST.out j s hs HE.out)
      have CS := Lib.hid (CT.out wr s hmem)
      have hln := HLN.out j hj
      have hsz := HL.out.size
      obtain ⟨ys, hys⟩ : ∃ y, y = ptextOf s.data.toList := ⟨_, rfl⟩
      obtain ⟨et, het⟩ : ∃ y, y = ptextErr s.data.toList := ⟨_, rfl⟩
      rw [← hys, ← het] at CS HS
      clear hs hmem hys het
      by_cases he : et = 0
      · subst he
        go_wp2_with fail
        refine CS.out.mono ?_
        rintro e u1 ⟨⟨A, k, c, rfl, hk, hh⟩, L1⟩
        have HH := Lib.hid hh
        have HO1 := Lib.hid (HO.out.below L1)
        have HK1 := Lib.hid (HK.out.over L1)
        have HL1 := Lib.hid (HL.out.trans (L1.mono (by omega)))
        have hsz1 := HL1.out.size
        have hyl := hh.len
        clear hh L1 ck CS HO HK HL
        go_wp2_with (first
          | (at_builtin; refine wpList_append_bytes rfl (.tmp 26) (.tmp 27) rfl base _ (YS j) rfl HO1.out u1.heap.size A k c ys rfl HH.out (by omega) (by omega) ?_; intro va u2 ho2 hb2 hgr2; have HK2 := Lib.hid (blk_grownO HK1.out (by decide) HO1.out hgr2); have HL2 := Lib.hid (HL1.out.trans hb2); have HO2 : Hid (Own u2 base va (YS (j + 1))) := (by rw [HS.out.2.2]; exact ho2.out); clear ho2 hb2 hgr2)
          | fail)
        have HE2 := Lib.hid (HS.out.1 (by trivial))
        go_roundw
        case rel => exact ⟨j + 1, by simp, by omega, HO2, HE2, HK2, HL2⟩
        case measure => simp [intOf]; omega
      · have hne : (et != 0) = true := by simpa using he
        have HER := Lib.hid (HS.out.2.1 he)
        have HNE := Lib.hid he
        clear he
        go_wp2_with fail
        refine CS.out.mono ?_
        rintro e u1 ⟨⟨A, k, c, rfl, hk, hh⟩, L1⟩
        have HL1 := Lib.hid (HL.out.trans (L1.mono (by omega)))
        clear hh L1 ck CS
        go_wp2
        go_ret2
        exact HQE.out _ _ _ HER.out HNE.out rfl HL1.out
    · obtain rfl : j = m := by omega
      go_wp2
      go_ret2
      exact HQ.out _ _ _ (by rw [← HN.out.2]; exact HE.out) rfl HO.out HL.out
end Go.Proofs.YtbbjmmooemmeiaaDoor

namespace Go.Proofs.YtbbjmmooemmeiaaDoor
set_option linter.all false
open Go.RowKit
set_option linter.unusedVariables false
set_option linter.unusedSimpArgs false
set_option maxRecDepth 100000
theorem HoldsI.lit {w : World} {g : Nat} {xs : List Int} {n : Nat} (h : Blk w g 5 (xs.map (Value.int .u8))) (hn : xs.length = n) (hx : Bytes xs) (hs : n ≤ 1000) : Holds w (g + 1) (some ⟨g, 0, none⟩) n n xs := by
  refine ⟨hn, Nat.le_refl _, by omega, hx, fun hA => (by cases hA), fun _ => ⟨g, 0, rfl, by omega, fun i hi => ?_⟩⟩
  rw [Nat.zero_add, h.cell i]
  simp [hn, hi]
end Go.Proofs.YtbbjmmooemmeiaaDoor
