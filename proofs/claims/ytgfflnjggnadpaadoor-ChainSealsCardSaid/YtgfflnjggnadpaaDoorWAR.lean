import Derived.WalkKit
import Derived.Deep.Draws
import Derived.Laws.Rows
import Derived.Laws.OwnMore
import Derived.Laws.Bits64
import Derived.Laws.BitsAllLaws
import Derived.OpenShut
import Derived.Test.YtgfflnjggnadpaaDoorRows
import Derived.Lib.Hide
import Derived.BigQuiet
import Derived.Deep.QuietTactic
import Derived.Laws.CopyOwn
import Derived.Laws.AppendOwnNone
import Derived.Laws.Tables
import Derived.Laws.NewFold
import Derived.Deep.WholeRow
import Derived.StillTailTactics
import Derived.Deep.RegionLaw
import Derived.WalkSpells
import Derived.WalkLawsBesides
import Derived.Lib.AppendZeros
import Derived.Deep.RegionWith
import Derived.Deep.DeepCutAuto
import Derived.Laws.AppendOwn
import Derived.OwnWalk
import Derived.Lib.OthersKept
import Derived.Laws.BytesArg
import Derived.OrdersHeld
import Derived.Laws.StructEq
import Derived.ChangeKeysEq
import Derived.Laws.IdiomStrings
import Derived.OneCell
import Derived.ProofKit
import Derived.ShutString
import Derived.SizedLaws
import Derived.ChangeOld
import Derived.Great.Walk
import Derived.Deep.MidRow
import Derived.Lib.SliceRun
import Derived.Deep.Strs
import Derived.Deep.Slices
import Derived.Laws.MakeOwn
import Derived.Test.YtgfflnjggnadpaaDoorWAC
import Derived.Test.YtgfflnjggnadpaaDoorWAD
import Derived.Test.YtgfflnjggnadpaaDoorWAE
import Derived.Test.YtgfflnjggnadpaaDoorWAF
import Derived.Test.YtgfflnjggnadpaaDoorWAG
import Derived.Test.YtgfflnjggnadpaaDoorWAH
import Derived.Test.YtgfflnjggnadpaaDoorWAI
import Derived.Test.YtgfflnjggnadpaaDoorWAJ
import Derived.Test.YtgfflnjggnadpaaDoorWAK
import Derived.Test.YtgfflnjggnadpaaDoorWAN
import Derived.Test.YtgfflnjggnadpaaDoorWAO
import Derived.Test.YtgfflnjggnadpaaDoorWAP
namespace Go.Proofs.YtgfflnjggnadpaaDoor
set_option linter.all false
set_option maxRecDepth 100000
open Go.RowKit
set_option maxHeartbeats 400000 in
theorem turned_any (w : World) (x : Int) (n : Nat) (h : 0 ≤ x ∧ x ≤ 4294967295) (hn : n ≤ 32) :
    Calls Tryd.prog 96 #[.int .u32 x, .int .u64 n] w fun e w' => e = .returned (.int .u32 (rot x n)) ∧ w = w' := by
  obtain ⟨h0, h1⟩ := h
  go_enter Tryd.func96, Tryd.ntmps96
  go_wp2
  go_ret
  exact ⟨rfl, rfl⟩
end Go.Proofs.YtgfflnjggnadpaaDoor

namespace Go.Proofs.YtgfflnjggnadpaaDoor
set_option linter.all false
open Go.RowKit
section
variable {w w' w2 : World} {g h B : Nat} {k k' : IntKind} {T T' : TypeId} {xs ys : List Int}
theorem Arr.ne (a : Arr w g k T xs) (b : Arr w h k' T' ys) (hT : T ≠ T') : g ≠ h := by
  rintro rfl
  unfold Arr at a b
  rw [a] at b
  simp only [Option.some.injEq, Obj.cells.injEq] at b
  exact hT b.2.1
end
section
variable {P : Program} {ops : Array Oper} {rest : List Oper} {o : Oper} {a : Act} {w : World} {Q : Exit → Act → World → Prop}
end
end Go.Proofs.YtgfflnjggnadpaaDoor

namespace Go.Proofs.YtgfflnjggnadpaaDoor
set_option linter.all false
set_option maxRecDepth 100000
open Go.RowKit
theorem addS_comm (l m : List Int) : addS l m = addS m l := by
  unfold addS
  rw [List.zipWith_comm]
  congr 1
  funext x y
  rw [Int.add_comm]
end Go.Proofs.YtgfflnjggnadpaaDoor

namespace Go.Proofs.YtgfflnjggnadpaaDoor
set_option linter.all false
set_option maxRecDepth 100000
open Go.RowKit
set_option maxHeartbeats 1000000 in
theorem RBegin_any (w : World) : Calls Tryd.prog 89 #[] w fun e w' => e = .returned (.agg (H0.map (Value.int .u32)).toArray) ∧ Below w.heap.size w w' := by
  obtain ⟨Y, hY⟩ : ∃ Z : List Int, Z = List.replicate 8 0 := ⟨_, rfl⟩
  have HY := len0 8
  have hy1 := zero_s
  rw [← hY] at HY hy1
  have HY1 := Lib.hid hy1
  clear hy1 hY
  go_enter Tryd.func89, Tryd.ntmps89
  go_wp2_with (first
    | ((with_reducible show wpList _ _ _ (⟨some 0, _, _, _, _, _⟩ :: _) _ _); refine wpList_alloc_arr rfl _ rfl .u32 Y 8 HY1 ?_; intro g4 w4 e4 s4 A4 b4)
    | ((with_reducible show wpList _ _ _ (⟨none, _, _, _, _, _⟩ :: _) _ _); refine wpList_store_arr rfl _ (.tmp 0) (.tmp 1) rfl g4 rfl .u32 _ _ H0 rfl A4 8 size_s HY rfl ?_; intro w9 A9 o9 s9)
    | fail)
  refine bodyPost_ret (v := .agg (H0.map (Value.int .u32)).toArray) ?_ rfl ⟨rfl, b4.out.trans (o9.out.below e4)⟩
  exact results_cell_row rfl _ _ g4 _ _ (0, 0) _ rfl A9.out Tryd.underlying101 rfl (by rw [size_s]; rfl)
theorem allOf_bytes (xs : List Int) (h : Bytes xs) : Bytes (allOf xs) := h.append (behindOf_bytes _)
end Go.Proofs.YtgfflnjggnadpaaDoor

namespace Go.Proofs.YtgfflnjggnadpaaDoor
set_option linter.all false
open Go.RowKit
section
variable {k k' : IntKind} {e e' : TypeId} {w w' : World} {base base' : Nat} {v u : Value} {xs ys : List Int}
/-- append(l, xs..), the new ones lying in a block of their own that has just been laid, onto a row of the call's own -/
theorem wpList_append_lit {P : Program} {ops : Array Oper} {rest : List Oper} {o : Oper} {a : Act} {Q : Exit → Act → World → Prop} (hgd : o.guard = none) (s x : Operand) (k : IntKind) (T e : TypeId) (bytes : Nat)
    (ht : P.underlying T = some (.slice e)) (hi : (P.info? e).map (fun i => (i.zero, i.size, i.bytes)) = some (some (.int k 0), 1, bytes))
    (ho : o.op = .call { callee := .builtin .append, args := #[s, x], argTypes := #[T, T] })
    (base : Nat) (v : Value) (xs ys : List Int) (cs : Array Value) (hcs : cs = (ys.map (Value.int k)).toArray) (m c : Nat) (hm : ys.length = m) (hs : a.eval s = v) (hx : a.eval x = .slice (some ⟨w.heap.size, 0, none⟩) m c)
    (hown : OwnK k e w base v xs) (hlen : (xs.length + m) * bytes ≤ 140737488355328) (h63 : xs.length + m ≤ 9223372036854775807) (hbase : base ≤ w.heap.size)
    (h : ∀ v' w', Hid (OwnK k e w' base v' (xs ++ ys)) → Hid (Grew w w' v) → wpList P ops Q rest (a.put o.dst v') w') :
    wpList P ops Q (o :: rest) a (w.alloc (.cells cs e)) := by
  obtain ⟨i0, hi0, hz0, hz1, hz2⟩ := info_parts hi
  subst hcs
  have hr : (w.alloc (.cells (ys.map (Value.int k)).toArray e)).heap[w.heap.size]? = some (.cells (ys.map (Value.int k)).toArray e (0, 0)) := heap_alloc_new w _
  refine wpList_append_own _ hgd s x T ho base e i0 (.int k 0) 1 bytes ht hi0 hz0 hz1 hz2 rfl (by omega) v xs.length (xs.map (Value.int k)) hs (OwnK.alloc hown _) ⟨w.heap.size, 0, none⟩ m c (ys.map (Value.int k)) hx (by simp [hm]) ?_
    (by intro v hv; obtain ⟨x, _, rfl⟩ := List.mem_map.1 hv; rfl) (by unfold maxLen; omega) hlen (by simp; omega) ?_
  · intro j y hj
    have e1 : (⟨w.heap.size, 0, none⟩ : Addr).add j = ⟨w.heap.size, j, none⟩ := by
      by_cases hj0 : j = 0
      · subst hj0; simp [Addr.add]
      · simp [Addr.add, hj0]
    rw [e1, cell_of_row _ w.heap.size j _ e (0, 0) hr, ← hj]
    simp
  · intro v' w' hown' hgr _
    refine h v' w' ?_ ⟨_, hgr⟩
    show World.ownsRow _ _ _ _ _ _ _
    rw [List.length_append, List.map_append, hm]
    exact hown'
end
section
variable {k : IntKind} {e : TypeId} {w : World} {base : Nat} {v : Value} {xs ys : List Int}
end
end Go.Proofs.YtgfflnjggnadpaaDoor

namespace Go.Proofs.YtgfflnjggnadpaaDoor
set_option linter.all false
set_option maxRecDepth 100000
open Go.RowKit
theorem blankL_len (m : List Int) (h : 64 ≤ m.length) : (blankL m).length = m.length := by simp [blankL]; omega
theorem blankL_bytes (m : List Int) (h : Bytes m) : Bytes (blankL m) := ((h.take _).append (Bytes.zeros _)).append (h.drop _)
section
variable {k m : List Int}
end
section
variable {w w' : World} {g B : Nat} {k : IntKind} {T : TypeId} {xs : List Int}
end
section
variable {P : Program} {ops : Array Oper} {rest : List Oper} {o : Oper} {a : Act} {w : World} {Q : Exit → Act → World → Prop}
section
variable {K : Act → World → Prop} {E : Prop}
end
end
end Go.Proofs.YtgfflnjggnadpaaDoor

namespace Go.Proofs.YtgfflnjggnadpaaDoor
set_option linter.all false
open Go.RowKit
section
variable {k k' : IntKind} {e e' : TypeId} {w w' : World} {base base' : Nat} {v v' u : Value} {xs ys : List Int}
theorem Arr.grew {g : Nat} {T : TypeId} {zs : List Int} (a : Arr w g k' T zs) (hg : Grew w w' v) (h : OwnK k e w base v xs) (hT : T ≠ e) : Arr w' g k' T zs :=
  hg.block a fun hv => by
    obtain ⟨_, cs, hcs⟩ := h.block hv
    unfold Arr at a
    rw [hcs] at a
    simp only [Option.some.injEq, Obj.cells.injEq] at a
    exact hT a.2.1.symm
theorem Apart.whither (ha : Apart v u) (hw : Whither w v v') (hu : OwnK k e w base u ys) : Apart v' u := fun i hi hui => by
  rcases hw with h | ⟨g, hg, hge⟩
  · exact ha i (h ▸ hi) hui
  · rw [hg] at hi
    injection hi with hi
    subst hi
    have := hu.lt hui
    omega
end
/-- append(l, xs..), the new ones lying in a block of their own that has just been laid, onto a row of the call's own; where the new slice heads is told -/
theorem wpList_append_litW {P : Program} {w : World} {ops : Array Oper} {rest : List Oper} {o : Oper} {a : Act} {Q : Exit → Act → World → Prop} (hgd : o.guard = none) (s x : Operand) (k : IntKind) (T e : TypeId) (bytes : Nat)
    (ht : P.underlying T = some (.slice e)) (hi : (P.info? e).map (fun i => (i.zero, i.size, i.bytes)) = some (some (.int k 0), 1, bytes))
    (ho : o.op = .call { callee := .builtin .append, args := #[s, x], argTypes := #[T, T] })
    (base : Nat) (v : Value) (xs ys : List Int) (cs : Array Value) (hcs : cs = (ys.map (Value.int k)).toArray) (m c : Nat) (hm : ys.length = m) (hs : a.eval s = v) (hx : a.eval x = .slice (some ⟨w.heap.size, 0, none⟩) m c)
    (hown : OwnK k e w base v xs) (hlen : (xs.length + m) * bytes ≤ 140737488355328) (h63 : xs.length + m ≤ 9223372036854775807) (hbase : base ≤ w.heap.size)
    (h : ∀ v' w', Hid (OwnK k e w' base v' (xs ++ ys)) → Hid (Grew w w' v) → Hid (Whither w v v') → wpList P ops Q rest (a.put o.dst v') w') :
    wpList P ops Q (o :: rest) a (w.alloc (.cells cs e)) := by
  obtain ⟨i0, hi0, hz0, hz1, hz2⟩ := info_parts hi
  subst hcs
  have hr : (w.alloc (.cells (ys.map (Value.int k)).toArray e)).heap[w.heap.size]? = some (.cells (ys.map (Value.int k)).toArray e (0, 0)) := heap_alloc_new w _
  obtain ⟨v', w', hrun, ho', hg', hwh⟩ := run_append_whither (P := P) (w.alloc (.cells (ys.map (Value.int k)).toArray e)) T o.type e i0 (.int k 0) bytes ht hi0 hz0 hz1 hz2 rfl base v xs.length (xs.map (Value.int k)) (OwnK.alloc hown _) ⟨w.heap.size, 0, none⟩ m c (ys.map (Value.int k)) (by simp [hm])
    (fun j y hj => by
      have e1 : (⟨w.heap.size, 0, none⟩ : Addr).add j = ⟨w.heap.size, j, none⟩ := by
        by_cases hj0 : j = 0
        · subst hj0; simp [Addr.add]
        · simp [Addr.add, hj0]
      rw [e1, cell_of_row _ w.heap.size j _ e (0, 0) hr, ← hj]
      simp)
    (by intro v hv; obtain ⟨x, _, rfl⟩ := List.mem_map.1 hv; rfl) (by unfold maxLen; omega) hlen (by simp; omega)
  refine wpList_plain hgd fun K hK => ?_
  unfold Oper.wp execOp
  simp only [ho, resolve, invoke, builtin, Sem.run_bind, Sem.run_pure, Result.andThen_ok, List.map_toArray, List.map_cons, List.map_nil, hs, hx, hrun]
  refine hK _ _ (h v' w' ?_ ⟨_, hg'⟩ ?_)
  · show World.ownsRow _ _ _ _ _ _ _
    rw [List.length_append, List.map_append, hm]
    exact ho'
  · rcases hwh with h1 | ⟨g, h1, h2⟩
    · exact .inl h1
    · exact .inr ⟨g, h1, by simp at h2; omega⟩
end Go.Proofs.YtgfflnjggnadpaaDoor

namespace Go.Proofs.YtgfflnjggnadpaaDoor
set_option linter.all false
open Go.RowKit
section
variable {w w' w2 : World} {b b' base base' : Nat} {T T' e : TypeId} {v v' u : Value} {k : IntKind} {xs : List Int}
theorem Box.grew (h : Box w b T v) (hg : Grew w w' u) (hu : OwnK k e w base u xs) (hT : T ≠ e) : Box w' b T v :=
  hg.block h fun hv => by
    obtain ⟨_, cs, hcs⟩ := hu.block hv
    unfold Box at h
    rw [hcs] at h
    simp only [Option.some.injEq, Obj.cells.injEq] at h
    exact hT h.2.1.symm
theorem Box.ne (h : Box w b T v) (h' : Box w b' T' v') (hT : T ≠ T') : b ≠ b' := by
  rintro rfl
  unfold Box at h h'
  rw [h] at h'
  simp only [Option.some.injEq, Obj.cells.injEq] at h'
  exact hT h'.2.1
end
end Go.Proofs.YtgfflnjggnadpaaDoor

namespace Go.Proofs.YtgfflnjggnadpaaDoor
set_option linter.all false
set_option maxRecDepth 100000
open Go.RowKit
section
variable {w : World} {B b off n c : Nat} {xs : List Int}
end
/-- what Sign answers -/
def SignPost (w : World) (ks ms : List Int) (e : Ending) (w' : World) : Prop :=
  ∃ v, e = .returned (.tuple #[v, .int .i64 (signErr ms.length)]) ∧ Own w' w.heap.size v (signO ks ms) ∧ Below w.heap.size w w'
end Go.Proofs.YtgfflnjggnadpaaDoor

namespace Go.Proofs.YtgfflnjggnadpaaDoor
set_option linter.all false
set_option maxRecDepth 100000
open Go.RowKit
theorem and_low32_u64 (y : Int) : bits .and .u64 y 4294967295 = y % 4294967296 := by
  have e1 : (BitVec.ofInt 64 (4294967295 : Int)).toNat = 2 ^ 32 - 1 := by decide
  have e2 : ((BitVec.ofInt 64 y).toNat : Int) = y % 18446744073709551616 := by
    rw [BitVec.toNat_ofInt]
    omega
  show IntKind.u64.wrap ((BitVec.ofInt 64 y &&& BitVec.ofInt 64 4294967295).toNat : Int) = _
  rw [BitVec.toNat_and, e1, Nat.and_two_pow_sub_one_eq_mod, IntKind.wrap_u64]
  omega
/-- the document's 'above', digit by digit -/
def aboveZ (x p : Int) : Bool :=
  let a1 := x / 4294967296
  let a0 := x % 4294967296
  let s0 := IntKind.u64.wrap (a0 * a0)
  let s1 := IntKind.u64.wrap (IntKind.u64.wrap (2 * a1 * a0) + s0 / 4294967296)
  let s2 := IntKind.u64.wrap (IntKind.u64.wrap (a1 * a1) + s1 / 4294967296)
  let lo := s0 % 4294967296
  let mid := s1 % 4294967296
  let t0 := IntKind.u64.wrap (lo * a0)
  let t1 := IntKind.u64.wrap (IntKind.u64.wrap (lo * a1) + t0 / 4294967296)
  let u1 := IntKind.u64.wrap (IntKind.u64.wrap (mid * a0) + t1 % 4294967296)
  let t2 := IntKind.u64.wrap (IntKind.u64.wrap (IntKind.u64.wrap (mid * a1) + t1 / 4294967296) + u1 / 4294967296)
  let v2 := IntKind.u64.wrap (IntKind.u64.wrap (s2 * a0) + t2 % 4294967296)
  let t3 := IntKind.u64.wrap (IntKind.u64.wrap (IntKind.u64.wrap (s2 * a1) + t2 / 4294967296) + v2 / 4294967296)
  decide (p ≤ t3)
set_option maxHeartbeats 400000 in
theorem above_any (w : World) (x p : Int) (h : 0 ≤ x ∧ x ≤ 18446744073709551615) (hp : 0 ≤ p ∧ p ≤ 18446744073709551615) :
    Calls Tryd.prog 99 #[.int .u64 x, .int .u64 p] w fun e w' => e = .returned (.bool (aboveZ x p)) ∧ w = w' := by
  obtain ⟨h0, h1⟩ := h
  obtain ⟨p0, p1⟩ := hp
  have hand := and_low32_u64
  go_enter Tryd.func99, Tryd.ntmps99
  go_wp2
  go_ret
  exact ⟨rfl, rfl⟩
/-- the root that the document finds, behind n of its 36 bits -/
def cubeX (p : Int) : Nat → Int
  | 0 => 0
  | n + 1 => if aboveZ (cubeX p n + 34359738368 / 2 ^ n) p = true then cubeX p n else cubeX p n + 34359738368 / 2 ^ n
def constZ (p : Int) : Int := cubeX p 36 % 4294967296
theorem bit_next (n : Nat) : (34359738368 : Int) / 2 ^ n / 2 = 34359738368 / 2 ^ (n + 1) := by
  rw [Int.pow_succ, Int.ediv_ediv_of_nonneg (by exact Int.le_of_lt (Int.pow_pos (by omega)))]
theorem bit_pos (n : Nat) (h : n < 36) : 0 < (34359738368 : Int) / 2 ^ n := by
  have key : ∀ n : Fin 36, 0 < (34359738368 : Int) / 2 ^ n.1 := by decide
  exact key ⟨n, h⟩
theorem bit_bound (n : Nat) : 0 ≤ (34359738368 : Int) / 2 ^ n ∧ (34359738368 : Int) / 2 ^ n ≤ 34359738368 :=
  ⟨Int.ediv_nonneg (by omega) (Int.le_of_lt (Int.pow_pos (by omega))), Int.ediv_le_self _ (by omega)⟩
theorem cubeX_bound (p : Int) (n : Nat) : 0 ≤ cubeX p n ∧ cubeX p n ≤ 34359738368 * n := by
  induction n with
  | zero => simp [cubeX]
  | succ n ih =>
    have h := bit_bound n
    simp only [cubeX]
    split <;> omega
set_option maxRecDepth 100000 in
set_option maxHeartbeats 400000 in
theorem constant_any (w : World) (p : Int) (hp : 0 ≤ p ∧ p ≤ 18446744073709551615) :
    Calls Tryd.prog 97 #[.int .u64 p] w fun e w' => e = .returned (.int .u32 (constZ p)) ∧ w = w' := by
  have ca := fun w x h => Lib.hid (above_any w x p h hp)
  obtain ⟨p0, p1⟩ := hp
  go_enter Tryd.func97, Tryd.ntmps97
  go_wp2_with fail
  go_loop [3, 4] (fun x b => ∃ n : Nat, n ≤ 36 ∧ (∃ z : Int, Hid (z = cubeX p n) ∧ x = .int .u64 z) ∧ (∃ y : Int, Hid (y = 34359738368 / 2 ^ n) ∧ b = .int .u64 y)) (fun _ b => (intOf b).toNat)
  case atStart => exact ⟨0, by omega, ⟨0, rfl, rfl⟩, ⟨34359738368, by show _ = _; decide, rfl⟩⟩
  case round =>
    obtain ⟨n, hn, ⟨z, hz, rfl⟩, ⟨y, hy, rfl⟩⟩ := hrel
    have hzb := cubeX_bound p n
    rw [← hz.out] at hzb
    have hyb := bit_bound n
    rw [← hy.out] at hyb
    obtain ⟨hz0, hz1⟩ := hzb
    obtain ⟨hy0, hy1⟩ := hyb
    have hnx := bit_next n
    rw [← hy.out] at hnx
    have HNX := Lib.hid hnx
    clear hnx
    have hz2 : z ≤ 1236950581248 := by omega
    clear hz1
    by_cases hlt : n < 36
    · have hpos := bit_pos n hlt
      rw [← hy.out] at hpos
      have hm : (y / 2).toNat < y.toNat := by omega
      go_wp2_with fail
      have cb := ca w (z + y) (by omega)
      obtain ⟨b, hb⟩ : ∃ b, b = aboveZ (z + y) p := ⟨_, rfl⟩
      rw [← hb] at cb
      have HB := Lib.hid hb
      clear hb
      refine cb.out.mono ?_
      rintro e w' ⟨rfl, rfl⟩
      have hstep : cubeX p (n + 1) = if b = true then z else z + y := by
        simp only [cubeX]
        rw [← hz.out, ← hy.out, ← HB.out]
      have HST := Lib.hid hstep
      clear hstep
      cases b with
      | true =>
        go_wp2_with fail
        go_round
        case rel => exact ⟨n + 1, by omega, ⟨z, by show _ = _; rw [HST.out]; rfl, rfl⟩, ⟨y / 2, HNX.out, rfl⟩⟩
        case measure => simp [intOf]; omega
      | false =>
        go_wp2_with fail
        go_round
        case rel => exact ⟨n + 1, by omega, ⟨z + y, by show _ = _; rw [HST.out]; rfl, rfl⟩, ⟨y / 2, HNX.out, rfl⟩⟩
        case measure => simp [intOf]; omega
    · have hz0' : y = 0 := by rw [hy.out, show n = 36 by omega]; decide
      have hle : y ≤ 0 := by omega
      have hz36 : Hid (constZ p = z % 4294967296) := by show _ = _; rw [hz.out, show n = 36 by omega]; rfl
      clear hz0' HNX hlt hy hz
      go_wp2_with fail
      go_ret
      exact ⟨by rw [hz36.out]; rfl, rfl⟩
theorem PP_mono (j : Nat) : (PP j).length ≤ (PP (j + 1)).length := by
  simp only [PP]
  split <;> simp
theorem PP_mono' {i j : Nat} (h : i ≤ j) : (PP i).length ≤ (PP j).length := by
  induction j with
  | zero => obtain rfl : i = 0 := by omega
            exact Nat.le_refl _
  | succ j ih =>
    rcases Nat.lt_or_ge i (j + 1) with h1 | h1
    · exact Nat.le_trans (ih (by omega)) (PP_mono j)
    · obtain rfl : i = j + 1 := by omega
      exact Nat.le_refl _
theorem PP_bound (j : Nat) : ∀ x ∈ PP j, 2 ≤ x ∧ x < 2 + j := by
  induction j with
  | zero => intro x hx; cases hx
  | succ j ih =>
    intro x hx
    simp only [PP] at hx
    split at hx
    · rcases List.mem_append.1 hx with h | h
      · have := ih x h; omega
      · rcases List.mem_singleton.1 h with rfl
        omega
    · have := ih x hx; omega
theorem PP_309 : (PP 309).length = 63 := by decide +kernel
theorem PP_310 : (PP 310).length = 64 := by decide +kernel
def P64 : List Int := PP 310
theorem P64_len : P64.length = 64 := PP_310
theorem P64_KK : ∀ i : Fin 64, constZ (P64.getD i.1 0) = KK.getD i.1 0 := by decide +kernel
theorem info_u64 : (Tryd.prog.info? 46).map (fun i => (i.zero, i.size, i.bytes)) = some (some (.int .u64 0), 1, 8) := by kernel_rfl
/-- whether the first i of them do not divide k -/
def divs (k : Int) (l : List Int) (i : Nat) : Bool := (l.take i).all (fun q => k % q != 0)
theorem divs_step (k : Int) (l : List Int) (i : Nat) (h : i < l.length) : divs k l (i + 1) = (divs k l i && (k % l.getD i 0 != 0)) := by
  unfold divs
  have e : l.getD i 0 = l[i] := by simp [h]
  rw [List.take_succ_eq_append_getElem h, e, List.all_append, List.all_cons, List.all_nil, Bool.and_true]
set_option maxHeartbeats 1000000 in
theorem primes_any (w : World) :
    Calls Tryd.prog 95 #[.int .i64 64] w fun e w' => ∃ v, e = .returned v ∧ OwnK .u64 46 w' w.heap.size v P64 ∧ Below w.heap.size w w' := by
  go_enter Tryd.func95, Tryd.ntmps95
  go_wp2_with fail
  go_loopw [3, 4] (fun v k wr => ∃ j : Nat, j ≤ 310 ∧ k = .int .u64 ((2 + j : Nat) : Int) ∧ Hid (OwnK .u64 46 wr w.heap.size v (PP j)) ∧ Below w.heap.size w wr) (fun _ k _ => 312 - (intOf k).toNat)
  case atStart => exact ⟨0, by omega, rfl, OwnK.nil _ _ _ _, Below.refl _ _⟩
  case round =>
    obtain ⟨j, hj, rfl, hO, hB⟩ := hrel
    obtain ⟨A, n, c, rfl, hn, hnc, hn2, hA, hcell⟩ := hO.out.open
    by_cases hlt : j < 310
    · have hn63 : n ≤ 63 := by
        have := PP_mono' (show j ≤ 309 by omega)
        rw [PP_309, hn] at this
        exact this
      obtain ⟨l, hl⟩ : ∃ l, l = PP j := ⟨_, rfl⟩
      have hpb := PP_bound j
      rw [← hl] at hO hn hcell hpb
      have HLL := Lib.hid hn
      have hsz := Lib.hid hB.size
      have HPB := Lib.hid hpb
      have HC := Lib.hid hcell
      have HLe := Lib.hid hl
      obtain ⟨k, hk⟩ : ∃ k, k = 2 + j := ⟨_, rfl⟩
      have hk1 : 2 ≤ k := by omega
      have hk2 : k ≤ 311 := by omega
      rw [← hk]
      have HKe := Lib.hid hk
      clear hn hcell hpb hl hk
      go_wp2_with fail
      obtain ⟨wo, hwo⟩ : ∃ wo, wo = wr := ⟨_, rfl⟩
      rw [← hwo] at hO hB hsz HC ⊢
      clear hwo
      go_loop [5, 6] (fun b i => ∃ q : Nat, q ≤ n ∧ i = .int .i64 q ∧ ∃ d : Bool, Hid (d = divs k l q) ∧ b = .bool d) (fun _ i => n - (intOf i).toNat)
      case atStart => exact ⟨0, by omega, rfl, true, rfl, rfl⟩
      case round =>
        obtain ⟨q, hq, rfl, d, hd, rfl⟩ := hrel
        by_cases hlt2 : q < n
        · obtain ⟨g, rfl, hg1, hg2, hcc⟩ := HC.out (by omega)
          have gc := hcc q hlt2
          have hb : 2 ≤ l.getD q 0 ∧ l.getD q 0 < 2 + j := HPB.out _ (by
            have h1 : q < l.length := by rw [HLL.out]; exact hlt2
            have e : l.getD q 0 = l[q] := by simp [h1]
            rw [e]
            exact List.getElem_mem h1)
          have hst := divs_step k l q (by rw [HLL.out]; exact hlt2)
          obtain ⟨p, hp⟩ : ∃ p, p = l.getD q 0 := ⟨_, rfl⟩
          rw [← hp] at gc hb hst
          rw [← hd.out] at hst
          obtain ⟨hb0, hb1⟩ := hb
          have hb2 : p ≤ 400 := by omega
          have HST := Lib.hid hst
          clear hcc hp hst hb1
          cases d with
          | false =>
            go_wp2_with fail
            go_round
            case rel => exact ⟨q + 1, by omega, by go_num, false, by show _ = _; rw [HST.out]; rfl, rfl⟩
            case measure => simp [intOf]; omega
          | true =>
            go_wp2_with fail
            go_round
            case rel => exact ⟨q + 1, by omega, by go_num, _, by show _ = _; rw [HST.out]; rfl, rfl⟩
            case measure => simp [intOf]; omega
        · have hge : (n : Int) ≤ (q : Int) := by omega
          have hd' : d = l.all (fun p => (k : Int) % p != 0) := by
            rw [hd.out, show q = n by omega]
            unfold divs
            rw [List.take_of_length_le (by rw [HLL.out]; exact Nat.le_refl _)]
          have hs : PP (j + 1) = if d = true then l ++ [(k : Int)] else l := by
            simp only [PP]
            rw [← HLe.out, ← HKe.out, ← hd']
          have HSt := Lib.hid hs
          clear hs hd' hd
          cases d with
          | false =>
            go_wp2_with fail
            go_roundw
            case rel => exact ⟨j + 1, by omega, by rw [show 2 + (j + 1) = k + 1 by have := HKe.out; omega]; go_num, by show OwnK _ _ _ _ _ _; rw [HSt.out]; exact hO.out, hB⟩
            case measure => simp [intOf]; omega
          | true =>
            go_wp2_with (first
              | (at_builtin; refine wpList_append_lit rfl (.tmp 30) (.tmp 32) .u64 107 46 8 Tryd.underlying107 info_u64 rfl w.heap.size _ l [(k : Int)] _ rfl 1 1 rfl rfl rfl hO.out (by have := HLL.out; omega) (by have := HLL.out; omega) hsz.out ?_; intro v1 w1 ho1 hg1)
              | fail)
            go_roundw
            case rel => exact ⟨j + 1, by omega, by rw [show 2 + (j + 1) = k + 1 by have := HKe.out; omega]; go_num, by show OwnK _ _ _ _ _ _; rw [HSt.out]; exact ho1.out, hB.trans (hg1.out.below hO.out hsz.out)⟩
            case measure => simp [intOf]; omega
    · have hj' : j = 310 := by omega
      rw [hj'] at hO hn
      have hn' : n = 64 := by rw [← hn]; exact PP_310
      have HO := Lib.hid hO.out
      have hge : 64 ≤ (n : Int) := by omega
      clear hO hn hj' hn' hlt hcell
      go_wp2_with fail
      go_ret
      exact ⟨_, rfl, HO.out, hB⟩
end Go.Proofs.YtgfflnjggnadpaaDoor

namespace Go.Proofs.YtgfflnjggnadpaaDoor
set_option linter.all false
set_option maxRecDepth 100000
open Go.RowKit
theorem word_four (xs : List Int) (t : Nat) (h : 4 * t + 3 < xs.length) :
    word xs t = xs.getD (4 * t) 0 * 16777216 + xs.getD (4 * t + 1) 0 * 65536 + xs.getD (4 * t + 2) 0 * 256 + xs.getD (4 * t + 3) 0 := by
  have e : (xs.drop (4 * t)).take 4 = [xs.getD (4 * t) 0, xs.getD (4 * t + 1) 0, xs.getD (4 * t + 2) 0, xs.getD (4 * t + 3) 0] := by
    apply List.ext_getElem
    · simp; omega
    · intro i h1 h2
      have hi : i < 4 := by simpa using h2
      have : i = 0 ∨ i = 1 ∨ i = 2 ∨ i = 3 := by omega
      rcases this with rfl | rfl | rfl | rfl
      · have : 4 * t < xs.length := by omega
        simp [this]
      · have : 4 * t + 1 < xs.length := by omega
        simp [this]
      · have : 4 * t + 2 < xs.length := by omega
        simp [this]
      · have : 4 * t + 3 < xs.length := by omega
        simp [this]
  unfold word
  rw [e]
  simp only [beOf, List.foldl_cons, List.foldl_nil]
  omega
/-- the row in which the document lays the sixteen words, behind t of them -/
def row16 (xs : List Int) (t : Nat) : List Int := (words16 xs).take t ++ List.replicate (64 - t) 0
theorem row16_len (xs : List Int) (t : Nat) (h : t ≤ 16) : (row16 xs t).length = 64 := by simp [row16, words16_len]; omega
theorem row16_zero (xs : List Int) : row16 xs 0 = List.replicate 64 0 := by simp [row16]
theorem row16_full (xs : List Int) : row16 xs 16 = schedRow xs 0 := by
  unfold row16 schedRow
  rw [List.take_of_length_le (by rw [words16_len]; exact Nat.le_refl _)]
  rfl
theorem row16_set (xs : List Int) (t : Nat) (h : t < 16) : (row16 xs t).set t (word xs t) = row16 xs (t + 1) := by
  have hl : t < (words16 xs).length := by rw [words16_len]; exact h
  unfold row16
  rw [fill_set _ _ _ _ (by simp [words16_len]; omega) (by omega), List.take_succ_eq_append_getElem hl, show 64 - t - 1 = 64 - (t + 1) by omega]
  congr 2
  simp [words16]
set_option maxHeartbeats 2000000 in
theorem schedule_any (w : World) (xs : List Int) (hl : xs.length = 64) (hx : Bytes xs) :
    Calls Tryd.prog 94 #[.agg (xs.map (Value.int .u8)).toArray] w fun e w' => e = .returned (.agg ((sched xs).map (Value.int .u32)).toArray) ∧ Below w.heap.size w w' := by
  have HL := Lib.hid hl
  obtain ⟨Z, hZ⟩ : ∃ Z : List Int, Z = List.replicate 64 0 := ⟨_, rfl⟩
  have HZ := len0 64
  have hz1 := zero_w
  rw [← hZ] at HZ hz1
  have HZ1 := Lib.hid hz1
  have HZe := Lib.hid hZ
  clear hl hZ hz1
  go_enter Tryd.func94, Tryd.ntmps94
  go_wp2_with (first
    | (refine wpList_box_arr rfl _ (.tmp 0) rfl .u8 xs rfl ?_; intro g1 w1 e1 s1 A1 b1)
    | ((with_reducible show wpList _ _ _ (⟨some 2, _, _, _, _, _⟩ :: _) _ _); refine wpList_alloc_arr rfl _ rfl .u32 Z 64 HZ1 ?_; intro g2 w2 e2 s2 A2 b2)
    | ((with_reducible show wpList _ _ _ (⟨some 3, _, _, _, _, _⟩ :: _) _ _); refine wpList_alloc_arr rfl _ rfl .u32 Z 64 HZ1 ?_; intro g3 w4 e3 s4 A4 b3)
    | fail)
  have A14 := Lib.hid ((A1.out.over b2.out).over b3.out)
  have A24 := Lib.hid (A2.out.over b3.out)
  have B4 : Hid (Below w.heap.size w w4) := step b1.out (step b2.out b3.out)
  have l13 : g1 < g3 := by omega
  have l23 : g2 < g3 := by omega
  have lw3 : w.heap.size ≤ g3 := by omega
  have lw2 : w.heap.size ≤ g2 := by omega
  clear A1 A2 b1 b2 b3 s1 s2 e2 e3
  go_loopw [4] (fun i wr => ∃ k : Nat, k ≤ 16 ∧ i = .int .i64 k ∧ Hid (Arr wr g3 .u32 105 (row16 xs k)) ∧ Hid (Only g3 w4 wr)) (fun i _ => 16 - (intOf i).toNat)
  case atStart => exact ⟨0, by omega, rfl, by rw [row16_zero, ← HZe.out]; exact A4, Only.refl _ _⟩
  case round =>
    obtain ⟨k, hk, rfl, hR, hO⟩ := hrel
    by_cases hlt : k < 16
    · have hlen := HL.out
      have A1r := Lib.hid (A14.out.only hO.out (by omega))
      have c0 := A1r.out.cell (i := 4 * k) (by omega)
      have c1 := A1r.out.cell (i := 4 * k + 1) (by omega)
      have c2 := A1r.out.cell (i := 4 * k + 2) (by omega)
      have c3 := A1r.out.cell (i := 4 * k + 3) (by omega)
      have hb0 := hx.getD (4 * k)
      have hb1 := hx.getD (4 * k + 1)
      have hb2 := hx.getD (4 * k + 2)
      have hb3 := hx.getD (4 * k + 3)
      have hw := word_four xs k (by omega)
      obtain ⟨y0, hy0⟩ : ∃ y, y = xs.getD (4 * k) 0 := ⟨_, rfl⟩
      obtain ⟨y1, hy1⟩ : ∃ y, y = xs.getD (4 * k + 1) 0 := ⟨_, rfl⟩
      obtain ⟨y2, hy2⟩ : ∃ y, y = xs.getD (4 * k + 2) 0 := ⟨_, rfl⟩
      obtain ⟨y3, hy3⟩ : ∃ y, y = xs.getD (4 * k + 3) 0 := ⟨_, rfl⟩
      rw [← hy0] at c0 hb0 hw
      rw [← hy1] at c1 hb1 hw
      rw [← hy2] at c2 hb2 hw
      rw [← hy3] at c3 hb3 hw
      obtain ⟨hb00, hb01⟩ := hb0
      obtain ⟨hb10, hb11⟩ := hb1
      obtain ⟨hb20, hb21⟩ := hb2
      obtain ⟨hb30, hb31⟩ := hb3
      have r1 := or_low32 24 (y0 * 16777216) (y1 * 65536) (by omega) (by omega) (by omega) (by omega) (by omega) (by omega)
      have r2 := or_low32 16 (y0 * 16777216 + y1 * 65536) (y2 * 256) (by omega) (by omega) (by omega) (by omega) (by omega) (by omega)
      have r3 := or_low32 8 (y0 * 16777216 + y1 * 65536 + y2 * 256) y3 (by omega) (by omega) (by omega) (by omega) (by omega) (by omega)
      have hS := hR.out.set k (word xs k)
      rw [row16_set xs k hlt, hw] at hS
      have HS := Lib.hid hS
      have gf := hR.out.frozen k
      have gc := hR.out.cell (i := k) (by rw [row16_len xs k hk]; omega)
      obtain ⟨old, hold⟩ : ∃ y, y = (row16 xs k).getD k 0 := ⟨_, rfl⟩
      rw [← hold] at gc
      have i0 : IntKind.i64.wrap (4 * (k : Int)) = 4 * (k : Int) := IntWalk.i64_in _ (by omega)
      have i1 : IntKind.i64.wrap (4 * (k : Int) + 1) = 4 * (k : Int) + 1 := IntWalk.i64_in _ (by omega)
      have i2 : IntKind.i64.wrap (4 * (k : Int) + 2) = 4 * (k : Int) + 2 := IntWalk.i64_in _ (by omega)
      have i3 : IntKind.i64.wrap (4 * (k : Int) + 3) = 4 * (k : Int) + 3 := IntWalk.i64_in _ (by omega)
      have j0 : 0 ≤ 4 * (k : Int) := by omega
      have j1 : 0 ≤ 4 * (k : Int) + 1 := by omega
      have j2 : 0 ≤ 4 * (k : Int) + 2 := by omega
      have j3 : 0 ≤ 4 * (k : Int) + 3 := by omega
      have k0 : 4 * (k : Int) < 64 := by omega
      have k1 : 4 * (k : Int) + 1 < 64 := by omega
      have k2 : 4 * (k : Int) + 2 < 64 := by omega
      have k3 : 4 * (k : Int) + 3 < 64 := by omega
      have n0 : (4 * (k : Int)).toNat = 4 * k := by omega
      have n1 : (4 * (k : Int) + 1).toNat = 4 * k + 1 := by omega
      have n2 : (4 * (k : Int) + 2).toNat = 4 * k + 2 := by omega
      have n3 : (4 * (k : Int) + 3).toNat = 4 * k + 3 := by omega
      have kk : (k : Int) < 64 := by omega
      clear hlen hw hy0 hy1 hy2 hy3 hS hold
      go_wp2_with fail
      go_still_tail 31, (by kernel_rfl)
      change wpList _ _ _ _ _ wr.drew
      clear i0 i1 i2 i3 j0 j1 j2 j3 k0 k1 k2 k3 n0 n1 n2 n3
      go_wp2_with fail
      go_roundw
      case rel => exact ⟨k + 1, by omega, by go_num, HS.out.drew, (hO.out.setCell _ _).drewN 1⟩
      case measure => simp [intOf]; omega
    · have hS := hR.out
      rw [show k = 16 by omega, row16_full xs] at hS
      have hge : (16 : Int) ≤ (k : Int) := by omega
      have HS : Hid (Arr wr g3 .u32 105 (schedRow xs 0)) := hS
      have A2r := Lib.hid (A24.out.only hO.out (by omega))
      have Br : Hid (Below w.heap.size w wr) := B4.out.trans (hO.out.below (by omega))
      have s3 := hS.lt
      clear hR hS hO A4 A24 B4 hlt s4 A14
      go_wp2_with fail
      obtain ⟨w5, hw5⟩ : ∃ w5, w5 = wr := ⟨_, rfl⟩
      rw [← hw5] at A2r Br s3 HS ⊢
      clear hw5
      go_loopw [5] (fun i wr => ∃ t : Nat, 16 ≤ t ∧ t ≤ 64 ∧ i = .int .i64 t ∧ Hid (Arr wr g3 .u32 105 (schedRow xs (t - 16))) ∧ Hid (Only g3 w5 wr)) (fun i _ => 64 - (intOf i).toNat)
      case atStart => exact ⟨16, by omega, by omega, rfl, HS, Only.refl _ _⟩
      case round =>
        obtain ⟨t, ht, hk, rfl, hR, hO⟩ := hrel
        have hlen := Lib.hid (schedRow_len xs (t - 16) (by omega))
        by_cases hlt : t < 64
        · have g15 := hR.out.cell (i := t - 15) (by rw [hlen.out]; omega)
          have g2' := hR.out.cell (i := t - 2) (by rw [hlen.out]; omega)
          have g7 := hR.out.cell (i := t - 7) (by rw [hlen.out]; omega)
          have g16 := hR.out.cell (i := t - 16) (by rw [hlen.out]; omega)
          have hw := schedRow_w xs hx (t - 16)
          have b15 := hw.getD (t - 15)
          have b2 := hw.getD (t - 2)
          obtain ⟨x15, hx15⟩ : ∃ x, x = (schedRow xs (t - 16)).getD (t - 15) 0 := ⟨_, rfl⟩
          obtain ⟨x2, hx2⟩ : ∃ x, x = (schedRow xs (t - 16)).getD (t - 2) 0 := ⟨_, rfl⟩
          obtain ⟨x7, hx7⟩ : ∃ x, x = (schedRow xs (t - 16)).getD (t - 7) 0 := ⟨_, rfl⟩
          obtain ⟨x16, hx16⟩ : ∃ x, x = (schedRow xs (t - 16)).getD (t - 16) 0 := ⟨_, rfl⟩
          rw [← hx15] at g15 b15
          rw [← hx2] at g2' b2
          rw [← hx7] at g7
          rw [← hx16] at g16
          have H15 := Lib.hid hx15
          have H2 := Lib.hid hx2
          have H7 := Lib.hid hx7
          have H16 := Lib.hid hx16
          clear hx15 hx2 hx7 hx16 hw
          have gf := hR.out.frozen t
          have c7 := fun w => Lib.hid (turned_any w x15 7 b15 (by omega))
          have c18 := fun w => Lib.hid (turned_any w x15 18 b15 (by omega))
          have c17 := fun w => Lib.hid (turned_any w x2 17 b2 (by omega))
          have c19 := fun w => Lib.hid (turned_any w x2 19 b2 (by omega))
          obtain ⟨b150, b151⟩ := b15
          obtain ⟨b20, b21⟩ := b2
          have i15 : IntKind.i64.wrap ((t : Int) - 15) = (t : Int) - 15 := IntWalk.i64_in _ (by omega)
          have i2 : IntKind.i64.wrap ((t : Int) - 2) = (t : Int) - 2 := IntWalk.i64_in _ (by omega)
          have j15 : 0 ≤ (t : Int) - 15 := by omega
          have j2 : 0 ≤ (t : Int) - 2 := by omega
          have k15 : (t : Int) - 15 < 64 := by omega
          have k2 : (t : Int) - 2 < 64 := by omega
          have n15 : ((t : Int) - 15).toNat = t - 15 := by omega
          have n2 : ((t : Int) - 2).toNat = t - 2 := by omega
          go_wp2_with fail
          go_quiet (fail)
          clear i15 i2 j15 j2 k15 k2 n15 n2 b150 b151 b20 b21
          go_wp2_with fail
          refine (c7 _).out.mono ?_
          rintro e w' ⟨rfl, rfl⟩
          go_wp2_with fail
          refine (c18 _).out.mono ?_
          rintro e w' ⟨rfl, rfl⟩
          go_wp2_with fail
          refine (c17 _).out.mono ?_
          rintro e w' ⟨rfl, rfl⟩
          go_wp2_with fail
          refine (c19 _).out.mono ?_
          rintro e w' ⟨rfl, rfl⟩
          obtain ⟨wx, hwx⟩ : ∃ wx, wx = wr.drewN nq := ⟨_, rfl⟩
          have hRx : Hid (Arr wx g3 .u32 105 (schedRow xs (t - 16))) := by rw [hwx]; exact hR.out.drewN nq
          have hOx : Hid (Only g3 w5 wx) := by rw [hwx]; exact hO.out.drewN nq
          rw [← hwx]
          clear g7 g16 gf hR hO hwx
          have g7 := hRx.out.cell (i := t - 7) (by rw [hlen.out]; omega)
          have g16 := hRx.out.cell (i := t - 16) (by rw [hlen.out]; omega)
          have g0 := hRx.out.cell (i := t) (by rw [hlen.out]; omega)
          have gf := hRx.out.frozen t
          rw [← H7.out] at g7
          rw [← H16.out] at g16
          obtain ⟨x0, hx0⟩ : ∃ x, x = (schedRow xs (t - 16)).getD t 0 := ⟨_, rfl⟩
          rw [← hx0] at g0
          clear hx0
          have i7 : IntKind.i64.wrap ((t : Int) - 7) = (t : Int) - 7 := IntWalk.i64_in _ (by omega)
          have i16 : IntKind.i64.wrap ((t : Int) - 16) = (t : Int) - 16 := IntWalk.i64_in _ (by omega)
          have j7 : 0 ≤ (t : Int) - 7 := by omega
          have j16 : 0 ≤ (t : Int) - 16 := by omega
          have k7 : (t : Int) - 7 < 64 := by omega
          have k16 : (t : Int) - 16 < 64 := by omega
          have n7 : ((t : Int) - 7).toNat = t - 7 := by omega
          have n16 : ((t : Int) - 16).toNat = t - 16 := by omega
          go_wp2_with fail
          have m7 : 7 ≤ (t : Int) := by omega
          have m16 : 16 ≤ (t : Int) := by omega
          go_still_tail 15, (by kernel_rfl)

          change wpList _ _ _ _ _ wx.drew
          go_wp2_with fail

          go_roundw
          case rel =>
            refine ⟨t + 1, by omega, by omega, by go_num, ?_, (hOx.out.setCell _ _).drewN 1⟩
            have hS := hRx.out.set t (nextW (schedRow xs (t - 16)) t)
            have hq := schedRow_set xs (t - 16) (by omega) (nextW (schedRow xs (t - 16)) t) (by rw [show 16 + (t - 16) = t by omega])
            rw [show 16 + (t - 16) = t by omega] at hq
            rw [hq] at hS
            rw [show t + 1 - 16 = t - 16 + 1 by omega]
            have e : ∀ a b c d : Int, (a + b + c + d) % 4294967296 = IntKind.u32.wrap (IntKind.u32.wrap (IntKind.u32.wrap (a + b) + c) + d) := by
              intro a b c d
              simp only [IntKind.wrap_u32']
              omega
            have hn : nextW (schedRow xs (t - 16)) t = (sig1 x2 + x7 + sig0 x15 + x16) % 4294967296 := by
              rw [e]
              unfold nextW
              rw [← H15.out, ← H2.out, ← H7.out, ← H16.out]
            rw [hn] at hS
            exact hS.drew
          case measure => simp [intOf]; omega
        · have hge2 : (64 : Int) ≤ (t : Int) := by omega
          have hS := hR.out
          rw [show t = 64 by omega] at hS
          have hF : Hid (Arr wr g3 .u32 105 (sched xs)) := by
            have e : schedRow xs 48 = sched xs := by unfold schedRow sched; simp
            rw [← e]
            exact hS
          have A2f := Lib.hid (A2r.out.only hO.out (by omega))
          have Bf : Hid (Below w.heap.size w wr) := Br.out.trans (hO.out.below lw3)
          have HLs := Lib.hid (sched_len xs)
          obtain ⟨Sc, hSc⟩ : ∃ Sc, Sc = sched xs := ⟨_, rfl⟩
          rw [← hSc] at hF HLs
          have HSc := Lib.hid hSc
          clear hS hR hO hSc
          go_wp2_with (first
            | ((with_reducible show wpList _ _ _ (⟨some 88, _, _, _, _, _⟩ :: _) _ _); refine wpList_load_arr rfl _ (.tmp 3) rfl g3 rfl .u32 _ Sc hF 64 _ Tryd.underlying105 size_w HLs ?_)
            | ((with_reducible show wpList _ _ _ (⟨none, _, _, _, _, _⟩ :: _) _ _); refine wpList_store_arr rfl _ (.tmp 2) (.tmp 88) rfl g2 rfl .u32 _ _ _ rfl A2f 64 size_w HZ HLs ?_; intro w6 A6 o6 s6)
            | fail)
          rw [← HSc.out]
          refine bodyPost_ret (v := .agg (Sc.map (Value.int .u32)).toArray) ?_ rfl ⟨rfl, Bf.out.trans (o6.out.below (by omega))⟩
          exact results_cell_row rfl _ _ g2 _ _ (0, 0) _ rfl A6.out Tryd.underlying105 rfl (by rw [size_w]; have := HLs.out; simp [this])
end Go.Proofs.YtgfflnjggnadpaaDoor

namespace Go.Proofs.YtgfflnjggnadpaaDoor
set_option linter.all false
set_option maxRecDepth 100000
open Go.RowKit
theorem P64_bound (i : Nat) (h : i < 64) : 2 ≤ P64.getD i 0 ∧ P64.getD i 0 ≤ 400 := by
  have hl : i < P64.length := by rw [P64_len]; exact h
  have e : P64.getD i 0 = P64[i] := by simp [hl]
  have := PP_bound 310 _ (List.getElem_mem hl)
  rw [e]
  omega
set_option maxRecDepth 100000 in
set_option maxHeartbeats 4000000 in
theorem RPress_any (w : World) (st xs : List Int) (hs : st.length = 8) (hsw : W32 st) (hl : xs.length = 64) (hx : Bytes xs) :
    Calls Tryd.prog 90 #[.agg (st.map (Value.int .u32)).toArray, .agg (xs.map (Value.int .u8)).toArray] w
      fun e w' => e = .returned (.agg ((pressOf st xs).map (Value.int .u32)).toArray) ∧ Below w.heap.size w w' := by
  have HL := Lib.hid hl
  have HS := Lib.hid hs
  obtain ⟨Z, hZ⟩ : ∃ Z : List Int, Z = List.replicate 64 0 := ⟨_, rfl⟩
  have HZ := len0 64
  have hz1 := zero_w
  rw [← hZ] at HZ hz1
  obtain ⟨Y, hY⟩ : ∃ Z : List Int, Z = List.replicate 8 0 := ⟨_, rfl⟩
  have HY := len0 8
  have hy1 := zero_s
  rw [← hY] at HY hy1
  have HZ1 := Lib.hid hz1
  have HY1 := Lib.hid hy1
  have cw := fun w => Lib.hid (schedule_any w xs hl hx)
  have cp := fun w => Lib.hid (primes_any w)
  have hsl := sched_len xs
  have hscw := sched_w xs hx
  obtain ⟨sc, hsc⟩ : ∃ sc, sc = sched xs := ⟨_, rfl⟩
  rw [← hsc] at cw hsl hscw
  have HSC := Lib.hid hsc
  have HSL := Lib.hid hsl
  clear hl hs hZ hz1 hY hy1 hsc hsl
  go_enter Tryd.func90, Tryd.ntmps90
  go_wp2_with (first
    | ((with_reducible show wpList _ _ _ (⟨some 2, _, _, _, _, _⟩ :: _) _ _); refine wpList_box_arr rfl _ (.tmp 0) rfl .u32 st rfl ?_; intro g2 w2 e2 s2 A2 b2)
    | ((with_reducible show wpList _ _ _ (⟨some 3, _, _, _, _, _⟩ :: _) _ _); refine wpList_box_arr rfl _ (.tmp 1) rfl .u8 xs rfl ?_; intro g3 w3 e3 s3 A3 b3)
    | ((with_reducible show wpList _ _ _ (⟨some 4, _, _, _, _, _⟩ :: _) _ _); refine wpList_alloc_arr rfl _ rfl .u32 Y 8 HY1 ?_; intro g4 w4 e4 s4 A4 b4; have A34 := Lib.hid (A3.out.over b4.out))
    | ((with_reducible show wpList _ _ _ (⟨some 14, _, _, _, _, _⟩ :: _) _ _); refine wpList_load_arr rfl _ (.tmp 3) rfl g3 rfl .u8 _ xs A34 64 _ Tryd.underlying91 size_b HL ?_)
    | fail)
  refine (cw _).out.mono ?_
  rintro e w5 ⟨rfl, b5⟩
  have B5 := Lib.hid b5
  clear b5
  go_wp2_with (first
    | ((with_reducible show wpList _ _ _ (⟨some 5, _, _, _, _, _⟩ :: _) _ _); refine wpList_alloc_arr rfl _ rfl .u32 Z 64 HZ1 ?_; intro g5 w6 e6 s6 A6 b6)
    | ((with_reducible show wpList _ _ _ (⟨none, _, _, _, _, _⟩ :: _) _ _); refine wpList_store_arr rfl _ (.tmp 5) (.tmp 15) rfl g5 rfl .u32 _ _ sc rfl A6 64 size_w HZ HSL ?_; intro w7 A7 o7 s7)
    | fail)
  refine (cp _).out.mono ?_
  rintro e w8 ⟨vp, rfl, op8, b8⟩
  have B8 := Lib.hid b8
  obtain ⟨Ap, np, cpp, rfl, hnp, hnc, hn2, hAp, hcell⟩ := op8.open
  rw [P64_len] at hnp
  subst hnp
  obtain ⟨gp, rfl, hgp1, hgp2, _⟩ := hcell (by omega)
  have HO8 := Lib.hid op8
  clear op8 b8 hcell hAp hn2
  have hsz2 := b3.out.size
  have hsz3 := b4.out.size
  have hsz4 := B5.out.size
  have hsz5 := b6.out.size
  have A28 := Lib.hid ((((((A2.out.over b3.out).over b4.out).over B5.out).over b6.out).only o7.out (by omega)).over B8.out)
  go_wp2_with (first
    | ((with_reducible show wpList _ _ _ (⟨some 17, _, _, _, _, _⟩ :: _) _ _); refine wpList_load_arr rfl _ (.tmp 2) rfl g2 rfl .u32 _ st A28 8 _ Tryd.underlying101 size_s HS ?_)
    | ((with_reducible show wpList _ _ _ (⟨some 7, _, _, _, _, _⟩ :: _) _ _); refine wpList_alloc_arr rfl _ rfl .u32 Y 8 HY1 ?_; intro g7 w9 e9 s9 A9 b9)
    | ((with_reducible show wpList _ _ _ (⟨none, _, _, _, _, _⟩ :: _) _ _); refine wpList_store_arr rfl _ (.tmp 7) (.tmp 17) rfl g7 rfl .u32 _ _ st rfl A9 8 size_s HY HS ?_; intro w10 A10 o10 s10)
    | fail)
  have hsz8 := B8.out.size
  have hsz7 := o7.out.size
  have l2 : g2 < g7 := by omega
  have l4 : g4 < g7 := by omega
  have l5 : g5 < g7 := by omega
  have lp : gp < g7 := by omega
  have lw4 : w.heap.size ≤ g4 := by omega
  have lw7 : w.heap.size ≤ g7 := by omega
  have B10 : Hid (Below w.heap.size w w10) := (step ((step b2.out (step b3.out (step b4.out (step B5.out b6.out)))).trans (o7.out.below (by omega)) |>.trans (B8.out.mono (by omega))) b9.out).trans (o10.out.below (by omega))
  have A2x := Lib.hid ((A28.out.over b9.out).only o10.out (by omega))
  have A4x := Lib.hid ((((((A4.out.over B5.out).over b6.out).only o7.out (by omega)).over B8.out).over b9.out).only o10.out (by omega))
  have A5x := Lib.hid (((A7.out.over B8.out).over b9.out).only o10.out (by omega))
  have HOx : Hid (OwnK .u64 46 w10 0 (.slice (some ⟨gp, 0, none⟩) 64 cpp) P64) := by
    refine ((HO8.out.mono (Nat.zero_le _)).below b9.out).keep fun i cs hi _ => ?_
    simp only [Value.ownBlock, Option.some.injEq] at hi
    subst hi
    exact o10.out.rest _ (by omega)
  obtain ⟨s0, hs0⟩ : ∃ s0, s0 = St.of st := ⟨_, rfl⟩
  have hsw0 := St.of_w hsw
  rw [← hs0] at hsw0
  have e0 : st = s0.list := by
    rw [hs0]
    have h8 := HS.out
    apply List.ext_getElem
    · rw [h8]; rfl
    · intro i h1 h2
      have hi : i = 0 ∨ i = 1 ∨ i = 2 ∨ i = 3 ∨ i = 4 ∨ i = 5 ∨ i = 6 ∨ i = 7 := by omega
      have e : st[i] = st.getD i 0 := by simp [h1]
      rw [e]
      rcases hi with rfl | rfl | rfl | rfl | rfl | rfl | rfl | rfl <;> rfl
  have HS0 := Lib.hid hs0
  have A7x : Hid (Arr w10 g7 .u32 101 s0.list) := by rw [← e0]; exact A10
  clear hs0 e0 A2 b2 A3 b3 A4 b4 A34 B5 A6 b6 A7 o7 B8 HO8 A28 A9 b9 A10 o10 hsz2 hsz3 hsz4 hsz5 hsz7 hsz8 s2 s3 s4 s6 s7 s9 e2 e3 e4 e6 e9 hgp1 hgp2
  go_loopw [8] (fun i wr => ∃ t : Nat, t ≤ 64 ∧ i = .int .i64 t ∧ Hid (Arr wr g7 .u32 101 (runS KK sc s0 t).list) ∧ Hid (Only g7 w10 wr)) (fun i _ => 64 - (intOf i).toNat)
  case atStart => exact ⟨0, by omega, rfl, A7x, Only.refl _ _⟩
  case round =>
    obtain ⟨t, ht, rfl, hR, hO⟩ := hrel
    by_cases hlt : t < 64
    · have hw := runS_w hsw0 KK sc t
      obtain ⟨s, hSt⟩ : ∃ s, s = runS KK sc s0 t := ⟨_, rfl⟩
      rw [← hSt] at hw hR
      have HSt := Lib.hid hSt
      clear hSt
      obtain ⟨a, b, c, d, e, f, g, h8⟩ := s
      obtain ⟨⟨a0, a1⟩, ⟨b0, b1⟩, ⟨c0, c1⟩, ⟨d0, d1⟩, ⟨e0, e1⟩, ⟨f0, f1⟩, ⟨g0, g1⟩, ⟨h0, h1⟩⟩ := hw
      have hsig : IntKind.u32.signed = false := rfl
      simp only at a0 a1 b0 b1 c0 c1 d0 d1 e0 e1 f0 f1 g0 g1 h0 h1
      have k0 : wr.cell? ⟨g7, 0, none⟩ = some (.int .u32 a) := hR.out.cell (i := 0) (by show _ < 8; omega)
      have k1 : wr.cell? ⟨g7, 1, none⟩ = some (.int .u32 b) := hR.out.cell (i := 1) (by show _ < 8; omega)
      have k2 : wr.cell? ⟨g7, 2, none⟩ = some (.int .u32 c) := hR.out.cell (i := 2) (by show _ < 8; omega)
      have k3 : wr.cell? ⟨g7, 3, none⟩ = some (.int .u32 d) := hR.out.cell (i := 3) (by show _ < 8; omega)
      have k4 : wr.cell? ⟨g7, 4, none⟩ = some (.int .u32 e) := hR.out.cell (i := 4) (by show _ < 8; omega)
      have k5 : wr.cell? ⟨g7, 5, none⟩ = some (.int .u32 f) := hR.out.cell (i := 5) (by show _ < 8; omega)
      have k6 : wr.cell? ⟨g7, 6, none⟩ = some (.int .u32 g) := hR.out.cell (i := 6) (by show _ < 8; omega)
      have k7 : wr.cell? ⟨g7, 7, none⟩ = some (.int .u32 h8) := hR.out.cell (i := 7) (by show _ < 8; omega)
      have hOr : OwnK .u64 46 wr 0 (.slice (some ⟨gp, 0, none⟩) 64 cpp) P64 := HOx.out.keep fun i cs hi _ => by
        simp only [Value.ownBlock, Option.some.injEq] at hi
        subst hi
        exact hO.out.rest _ (by omega)
      obtain ⟨Aq, nq, cq, hvq, hnq, _, _, _, hcq⟩ := hOr.open
      rw [P64_len] at hnq
      subst hnq
      obtain ⟨gq, rfl, _, _, hcq⟩ := hcq (by omega)
      simp only [Value.slice.injEq, Option.some.injEq, Addr.mk.injEq, and_true, true_and] at hvq
      obtain ⟨rfl, rfl⟩ := hvq
      have gk := hcq t hlt
      have hpb := P64_bound t hlt
      have hkk := P64_KK ⟨t, hlt⟩
      simp only at hkk
      obtain ⟨p, hp⟩ : ∃ p, p = P64.getD t 0 := ⟨_, rfl⟩
      rw [← hp] at gk hpb hkk
      obtain ⟨kt, hkt⟩ : ∃ kt, kt = KK.getD t 0 := ⟨_, rfl⟩
      have hk := KK_w.getD t
      rw [← hkt] at hk hkk
      have HKT := Lib.hid hkt
      have gx := (A5x.out.only hO.out (by omega)).cell (i := t) (by rw [HSL.out]; exact hlt)
      have hx' := hscw.getD t
      obtain ⟨x, hxe⟩ : ∃ x, x = sc.getD t 0 := ⟨_, rfl⟩
      rw [← hxe] at hx' gx
      have HXE := Lib.hid hxe
      obtain ⟨hk0, hk1⟩ := hk
      obtain ⟨hx0, hx1⟩ := hx'
      have cc := fun w => constant_any w p (by omega)
      rw [hkk] at cc
      have CC := fun w => Lib.hid (cc w)
      have ct6 : ∀ w, Hid (Calls Tryd.prog 96 #[.int .u32 e, .int .u64 6] w fun e' w' => e' = .returned (.int .u32 (rot e 6)) ∧ w = w') := fun w => turned_any w e 6 ⟨e0, e1⟩ (by omega)
      have ct11 : ∀ w, Hid (Calls Tryd.prog 96 #[.int .u32 e, .int .u64 11] w fun e' w' => e' = .returned (.int .u32 (rot e 11)) ∧ w = w') := fun w => turned_any w e 11 ⟨e0, e1⟩ (by omega)
      have ct25 : ∀ w, Hid (Calls Tryd.prog 96 #[.int .u32 e, .int .u64 25] w fun e' w' => e' = .returned (.int .u32 (rot e 25)) ∧ w = w') := fun w => turned_any w e 25 ⟨e0, e1⟩ (by omega)
      have ct2 : ∀ w, Hid (Calls Tryd.prog 96 #[.int .u32 a, .int .u64 2] w fun e' w' => e' = .returned (.int .u32 (rot a 2)) ∧ w = w') := fun w => turned_any w a 2 ⟨a0, a1⟩ (by omega)
      have ct13 : ∀ w, Hid (Calls Tryd.prog 96 #[.int .u32 a, .int .u64 13] w fun e' w' => e' = .returned (.int .u32 (rot a 13)) ∧ w = w') := fun w => turned_any w a 13 ⟨a0, a1⟩ (by omega)
      have ct22 : ∀ w, Hid (Calls Tryd.prog 96 #[.int .u32 a, .int .u64 22] w fun e' w' => e' = .returned (.int .u32 (rot a 22)) ∧ w = w') := fun w => turned_any w a 22 ⟨a0, a1⟩ (by omega)
      obtain ⟨hp0, hp1⟩ := hpb
      have re := rots_bounds e 6 11 25
      have ra := rots_bounds a 2 13 22
      have tt0 : (0 : Int) ≤ (t : Int) := by omega
      have tt1 : (t : Int) < 64 := by omega
      clear hcq hOr hp hkt hxe hkk cc
      go_wp2_with fail
      go_quiet (fail)
      go_wp2_with fail
      obtain ⟨wa, hwa⟩ : ∃ wq, wq = wr.drewN nq := ⟨_, rfl⟩
      rw [← hwa]
      have k0 : wa.cell? ⟨g7, 0, none⟩ = some (.int .u32 a) := by rw [hwa]; exact k0
      have k1 : wa.cell? ⟨g7, 1, none⟩ = some (.int .u32 b) := by rw [hwa]; exact k1
      have k2 : wa.cell? ⟨g7, 2, none⟩ = some (.int .u32 c) := by rw [hwa]; exact k2
      have k3 : wa.cell? ⟨g7, 3, none⟩ = some (.int .u32 d) := by rw [hwa]; exact k3
      have k4 : wa.cell? ⟨g7, 4, none⟩ = some (.int .u32 e) := by rw [hwa]; exact k4
      have k5 : wa.cell? ⟨g7, 5, none⟩ = some (.int .u32 f) := by rw [hwa]; exact k5
      have k6 : wa.cell? ⟨g7, 6, none⟩ = some (.int .u32 g) := by rw [hwa]; exact k6
      have k7 : wa.cell? ⟨g7, 7, none⟩ = some (.int .u32 h8) := by rw [hwa]; exact k7
      have gk : wa.cell? ⟨gp, t, none⟩ = some (.int .u64 p) := by rw [hwa]; exact gk
      have gx : wa.cell? ⟨g5, t, none⟩ = some (.int .u32 x) := by rw [hwa]; exact gx
      have hRwa : Hid (Arr wa g7 .u32 101 (St.list ⟨a, b, c, d, e, f, g, h8⟩)) := by rw [hwa]; exact hR.out.drewN nq
      have hOwa : Hid (Only g7 w10 wa) := by rw [hwa]; exact hO.out.drewN nq
      clear hwa hR hO
      go_quiet ((first
        | (go_at_call 96; (first | ((with_reducible exact quiet_same (ct6 _).out)) | ((with_reducible exact quiet_same (ct11 _).out)) | ((with_reducible exact quiet_same (ct25 _).out))))
        | (go_at_call 97; exact quiet_same (CC _).out)))
      go_wp2_with fail
      obtain ⟨wb, hwb⟩ : ∃ wq, wq = wa.drewN nq := ⟨_, rfl⟩
      rw [← hwb]
      have k0 : wb.cell? ⟨g7, 0, none⟩ = some (.int .u32 a) := by rw [hwb]; exact k0
      have k1 : wb.cell? ⟨g7, 1, none⟩ = some (.int .u32 b) := by rw [hwb]; exact k1
      have k2 : wb.cell? ⟨g7, 2, none⟩ = some (.int .u32 c) := by rw [hwb]; exact k2
      have k3 : wb.cell? ⟨g7, 3, none⟩ = some (.int .u32 d) := by rw [hwb]; exact k3
      have k4 : wb.cell? ⟨g7, 4, none⟩ = some (.int .u32 e) := by rw [hwb]; exact k4
      have k5 : wb.cell? ⟨g7, 5, none⟩ = some (.int .u32 f) := by rw [hwb]; exact k5
      have k6 : wb.cell? ⟨g7, 6, none⟩ = some (.int .u32 g) := by rw [hwb]; exact k6
      have k7 : wb.cell? ⟨g7, 7, none⟩ = some (.int .u32 h8) := by rw [hwb]; exact k7
      have hRwb : Hid (Arr wb g7 .u32 101 (St.list ⟨a, b, c, d, e, f, g, h8⟩)) := by rw [hwb]; exact hRwa.out.drewN nq
      have hOwb : Hid (Only g7 w10 wb) := by rw [hwb]; exact hOwa.out.drewN nq
      clear hwb hRwa hOwa
      go_quiet ((go_at_call 96; (first | ((with_reducible exact quiet_same (ct2 _).out)) | ((with_reducible exact quiet_same (ct13 _).out)) | ((with_reducible exact quiet_same (ct22 _).out)))))
      obtain ⟨wc, hwc⟩ : ∃ wq, wq = wb.drewN nq := ⟨_, rfl⟩
      rw [← hwc]
      have k0 : wc.cell? ⟨g7, 0, none⟩ = some (.int .u32 a) := by rw [hwc]; exact k0
      have k1 : wc.cell? ⟨g7, 1, none⟩ = some (.int .u32 b) := by rw [hwc]; exact k1
      have k2 : wc.cell? ⟨g7, 2, none⟩ = some (.int .u32 c) := by rw [hwc]; exact k2
      have k3 : wc.cell? ⟨g7, 3, none⟩ = some (.int .u32 d) := by rw [hwc]; exact k3
      have k4 : wc.cell? ⟨g7, 4, none⟩ = some (.int .u32 e) := by rw [hwc]; exact k4
      have k5 : wc.cell? ⟨g7, 5, none⟩ = some (.int .u32 f) := by rw [hwc]; exact k5
      have k6 : wc.cell? ⟨g7, 6, none⟩ = some (.int .u32 g) := by rw [hwc]; exact k6
      have k7 : wc.cell? ⟨g7, 7, none⟩ = some (.int .u32 h8) := by rw [hwc]; exact k7
      have hRwc : Hid (Arr wc g7 .u32 101 (St.list ⟨a, b, c, d, e, f, g, h8⟩)) := by rw [hwc]; exact hRwb.out.drewN nq
      have hOwc : Hid (Only g7 w10 wc) := by rw [hwc]; exact hOwb.out.drewN nq
      clear hwc hRwb hOwb
      go_wp2_with (first
        | ((with_reducible show wpList _ _ _ (⟨none, _, _, _, _, _⟩ :: _) _ _); refine wpList_store_arr rfl _ (.tmp 7) (.tmp 101) rfl g7 rfl .u32 _ _ [_, _, _, _, _, _, _, _] rfl hRwc 8 size_s rfl rfl ?_; intro w11 A11 o11 s11)
        | fail)
      have hstep : Hid (Arr w11 g7 .u32 101 (runS KK sc s0 (t + 1)).list) := by
        have e : runS KK sc s0 (t + 1) = roundS kt x ⟨a, b, c, d, e, f, g, h8⟩ := by
          show roundS _ _ _ = _
          rw [← HSt.out, ← HKT.out, ← HXE.out]
        rw [e]
        have hA := A11.out
        simp only [roundS, t1Of, t2Of, St.list, ch, maj, rots]
        simp only [Int.emod_add_emod, Int.add_emod_emod]
        exact hA
      go_roundw
      case rel => exact ⟨t + 1, by omega, by go_num, hstep, hOwc.out.trans o11.out⟩
      case measure => simp [intOf]; omega
    · have hge : (64 : Int) ≤ (t : Int) := by omega
      obtain ⟨new, hnew⟩ : ∃ new, new = (runS KK sc s0 64).list := ⟨_, rfl⟩
      have hlw := list_w (runS_w hsw0 KK sc 64)
      have hR64 := hR.out
      rw [show t = 64 by omega, ← hnew] at hR64
      rw [← hnew] at hlw
      have HN := Lib.hid (show new.length = 8 by rw [hnew]; rfl)
      have HNe := Lib.hid hnew
      obtain ⟨w12, hw12⟩ : ∃ w12, w12 = wr := ⟨_, rfl⟩
      have A72 : Hid (Arr w12 g7 .u32 101 (sumRow new st 0)) := by rw [hw12, sumRow_zero]; exact hR64
      have A22 : Hid (Arr w12 g2 .u32 101 st) := by rw [hw12]; exact A2x.out.only hO.out (by omega)
      have A42 : Hid (Arr w12 g4 .u32 101 Y) := by rw [hw12]; exact A4x.out.only hO.out (by omega)
      have B12 : Hid (Below w.heap.size w w12) := by rw [hw12]; exact B10.out.trans (hO.out.below lw7)
      rw [← hw12]
      clear hw12 hR64 hnew hR hO A2x A4x A5x B10 A7x HOx hlt
      go_wp2_with fail
      go_loopw [13] (fun i wr => ∃ k : Nat, k ≤ 8 ∧ i = .int .i64 k ∧ Hid (Arr wr g7 .u32 101 (sumRow new st k)) ∧ Hid (Only g7 w12 wr)) (fun i _ => 8 - (intOf i).toNat)
      case atStart => exact ⟨0, by omega, rfl, A72, Only.refl _ _⟩
      case round =>
        obtain ⟨k, hk, rfl, hR, hO⟩ := hrel
        by_cases hlt : k < 8
        · have hs8 := HS.out
          have hn8 := HN.out
          have gc := hR.out.cell (i := k) (by rw [sumRow_len _ _ hn8 hs8 _ hk]; omega)
          rw [sumRow_getD _ _ hn8 hs8 _ hlt] at gc
          have gf := hR.out.frozen k
          have gs := (A22.out.only hO.out (by omega)).cell (i := k) (by rw [hs8]; exact hlt)
          have hS := hR.out.set k ((new.getD k 0 + st.getD k 0) % 4294967296)
          rw [sumRow_set _ _ hn8 hs8 _ hlt] at hS
          have hb := hsw.getD k
          have hb' := hlw.getD k
          obtain ⟨y, hy⟩ : ∃ y, y = st.getD k 0 := ⟨_, rfl⟩
          rw [← hy] at gs hS hb
          obtain ⟨x, hx⟩ : ∃ x, x = new.getD k 0 := ⟨_, rfl⟩
          rw [← hx] at hS gc hb'
          have hSh := Lib.hid hS
          obtain ⟨hb0, hb1⟩ := hb
          obtain ⟨hb2, hb3⟩ := hb'
          have kk0 : (0 : Int) ≤ (k : Int) := by omega
          have kk1 : (k : Int) < 8 := by omega
          clear hs8 hn8 hS hx hy hR
          go_wp2_with fail
          go_still_tail 9, (by kernel_rfl)
          change wpList _ _ _ _ _ wr.drew
          go_wp2_with fail
          go_roundw
          case rel => exact ⟨k + 1, by omega, by go_num, hSh.out.drew, (hO.out.setCell _ _).drewN 1⟩
          case measure => simp [intOf]; omega
        · have hge2 : (8 : Int) ≤ (k : Int) := by omega
          have hF : Hid (Arr wr g7 .u32 101 (pressOf st xs)) := by
            have h0 := hR.out
            rw [show k = 8 by omega, sumRow_full _ _ HN.out HS.out, HNe.out] at h0
            have e : pressOf st xs = addS (runS KK sc s0 64).list st := by
              unfold pressOf
              rw [← HSC.out, ← HS0.out, addS_comm]
            rw [e]
            exact h0
          have A4f := Lib.hid (A42.out.only hO.out (by omega))
          have Bf : Hid (Below w.heap.size w wr) := B12.out.trans (hO.out.below lw7)
          have HP := Lib.hid (pressOf_len st xs HS.out)
          obtain ⟨p, hp⟩ : ∃ p, p = pressOf st xs := ⟨_, rfl⟩
          rw [← hp] at hF HP
          have HPe := Lib.hid hp
          clear hR hO hp
          go_wp2_with (first
            | ((with_reducible show wpList _ _ _ (⟨some 115, _, _, _, _, _⟩ :: _) _ _); refine wpList_load_arr rfl _ (.tmp 7) rfl g7 rfl .u32 _ p hF 8 _ Tryd.underlying101 size_s HP ?_)
            | ((with_reducible show wpList _ _ _ (⟨none, _, _, _, _, _⟩ :: _) _ _); refine wpList_store_arr rfl _ (.tmp 4) (.tmp 115) rfl g4 rfl .u32 _ _ p rfl A4f 8 size_s HY HP ?_; intro w14 A14 o14 s14)
            | fail)
          rw [← HPe.out]
          refine bodyPost_ret (v := .agg (p.map (Value.int .u32)).toArray) ?_ rfl ⟨rfl, Bf.out.trans (o14.out.below (by omega))⟩
          exact results_cell_row rfl _ _ g4 _ _ (0, 0) _ rfl A14.out Tryd.underlying101 rfl (by rw [size_s]; have := HP.out; simp [this])
end Go.Proofs.YtgfflnjggnadpaaDoor

namespace Go.Proofs.YtgfflnjggnadpaaDoor
set_option linter.all false
set_option maxRecDepth 100000
open Go.RowKit
theorem info_b : (Tryd.prog.info? 5).map (fun i => (i.zero, i.size, i.bytes)) = some (some (.int .u8 0), 1, 1) := info_u8
/-- what the document has laid behind k noughts -/
def padRow (k : Nat) : List Int := 128 :: List.replicate k 0
theorem padRow_len (k : Nat) : (padRow k).length = k + 1 := by simp [padRow]
theorem padRow_step (k : Nat) : padRow k ++ [0] = padRow (k + 1) := by
  unfold padRow
  rw [List.replicate_succ', List.cons_append]
/-- .. and behind j of the eight bytes -/
def endRow (n : Int) (j : Nat) : List Int := padRow (noughts n) ++ (be8 (8 * n)).take j
theorem endRow_len (n : Int) (j : Nat) (hj : j ≤ 8) : (endRow n j).length = noughts n + 1 + j := by simp [endRow, padRow_len, be8_len]; omega
theorem endRow_step (n : Int) (j : Nat) (hj : j < 8) : endRow n j ++ [8 * n / 2 ^ (8 * (7 - j)) % 256] = endRow n (j + 1) := by
  have hil : j < (be8 (8 * n)).length := by rw [be8_len]; exact hj
  unfold endRow
  rw [List.append_assoc, List.take_succ_eq_append_getElem hil]
  simp [be8]
theorem endRow_full (n : Int) (h : n < 1152921504606846976) : endRow n 8 = behindOf n := by
  unfold endRow behindOf padRow
  rw [if_pos h, List.take_of_length_le (by rw [be8_len]; exact Nat.le_refl _)]
  rfl
set_option maxHeartbeats 1000000 in
theorem RBehind_any (w : World) (n : Int) (hn : 0 ≤ n ∧ n ≤ 18446744073709551615) :
    Calls Tryd.prog 88 #[.int .u64 n] w fun e w' => ∃ v, e = .returned v ∧ Own w' w.heap.size v (behindOf n) ∧ Below w.heap.size w w' := by
  obtain ⟨hn0, hn1⟩ := hn
  by_cases hlt : n < 1152921504606846976
  · have hz := noughts_lt n
    have hzz : ((noughts n : Nat) : Int) = (55 - n) % 64 := by unfold noughts; omega
    obtain ⟨z, hze⟩ : ∃ z, z = noughts n := ⟨_, rfl⟩
    rw [← hze] at hz hzz
    have HZ := Lib.hid hze
    have HZZ := Lib.hid hzz
    clear hze hzz
    go_enter Tryd.func88, Tryd.ntmps88
    go_wp2_with fail
    have hO0 := Lib.hid (OwnK.lit .u8 5 w [128] #[.int .u8 128] 1 rfl rfl (by rw [maxLen_eq]; omega))
    have hbs : w.heap.size ≤ (w.alloc (.cells #[.int .u8 128] 5)).heap.size := by simp
    have hb0 : Below w.heap.size w (w.alloc (.cells #[.int .u8 128] 5)) := (Below.refl _ w).alloc (Nat.le_refl _) _
    obtain ⟨w0, hw0⟩ : ∃ w0, w0 = w.alloc (.cells #[.int .u8 128] 5) := ⟨_, rfl⟩
    rw [← hw0] at hO0 hb0 ⊢
    clear hw0 hbs
    go_loopw [3] (fun v wr => ∃ k : Nat, k ≤ z ∧ Hid (OwnK .u8 5 wr w.heap.size v (padRow k)) ∧ Below w.heap.size w wr) (fun v _ => 65 - lenV v)
    case atStart => exact ⟨0, by omega, hO0, hb0⟩
    case round =>
      obtain ⟨k, hk, hO, hb⟩ := hrel
      obtain ⟨A, l, c, rfl, hl, _⟩ := hO.out.open
      rw [padRow_len] at hl
      subst hl
      have hbs := Lib.hid hb.size
      by_cases hlt2 : k < z
      · have h56 : ((n + ((k : Int) + 1)) % 64 != 56) = true := by
          have := HZZ.out
          simp
          omega
        have hpl := Lib.hid (padRow_len k)
        have hkb : k ≤ 64 := by omega
        go_wp2_with (first
          | (at_builtin; refine wpList_append_lit rfl (.tmp 15) (.tmp 16) .u8 24 5 1 Tryd.underlying24 info_b rfl w.heap.size _ (padRow k) [0] _ rfl 1 1 rfl rfl rfl hO.out (by rw [hpl.out]; omega) (by rw [hpl.out]; omega) hbs.out ?_; intro v1 w1 ho1 hg1)
          | fail)
        have hO1 := ho1.out
        rw [padRow_step] at hO1
        have hv1 : 65 - lenV v1 < 65 - lenV (.slice A (k + 1) c) := by
          obtain ⟨A', l', c', rfl, hl', _⟩ := hO1.open
          rw [padRow_len] at hl'
          show 65 - l' < 65 - (k + 1)
          omega
        have HV1 := Lib.hid hv1
        clear hv1
        go_roundw
        case rel => exact ⟨k + 1, by omega, hO1, hb.trans (hg1.out.below hO.out hbs.out)⟩
        case measure => exact HV1.out
      · have h56 : (n + ((k : Int) + 1)) % 64 = 56 := by
          have := HZZ.out
          omega
        have hO1 : Hid (OwnK .u8 5 wr w.heap.size (.slice A (k + 1) c) (endRow n 0)) := by
          have h0 := hO.out
          rw [show k = z by omega, HZ.out] at h0
          unfold endRow
          rw [List.take_zero, List.append_nil, show k = noughts n by have := HZ.out; omega]
          exact h0
        clear hO
        go_wp2_with fail
        go_outline
        obtain ⟨w5, hw5⟩ : ∃ w5, w5 = wr := ⟨_, rfl⟩
        rw [← hw5] at hO1 hb hbs ⊢
        clear hw5 h56
        go_loopw [3, 4] (fun v i wr => ∃ j : Nat, j ≤ 8 ∧ i = .int .i64 (7 - (j : Int)) ∧ Hid (OwnK .u8 5 wr w.heap.size v (endRow n j)) ∧ Below w.heap.size w wr) (fun _ i _ => (intOf i + 1).toNat)
        case atStart => exact ⟨0, by omega, rfl, hO1, hb⟩
        case round =>
          obtain ⟨j, hj, rfl, hO, hb⟩ := hrel
          obtain ⟨A, l, c, rfl, hl, _⟩ := hO.out.open
          rw [endRow_len n j hj] at hl
          subst hl
          have hbs := Lib.hid hb.size
          by_cases hlt3 : j < 8
          · have hpl := Lib.hid (endRow_len n j hj)
            have hzl := noughts_lt n
            have en : (8 * (7 - (j : Int))).toNat = 8 * (7 - j) := by omega
            go_wp2_with (first
              | (at_builtin; refine wpList_append_lit rfl (.tmp 22) (.tmp 30) .u8 24 5 1 Tryd.underlying24 info_b rfl w.heap.size _ (endRow n j) [8 * n / 2 ^ (8 * (7 - j)) % 256] _ rfl 1 1 rfl rfl rfl hO.out (by rw [hpl.out]; omega) (by rw [hpl.out]; omega) hbs.out ?_; intro v1 w1 ho1 hg1)
              | fail)
            have hO1 := ho1.out
            rw [endRow_step n j hlt3] at hO1
            go_roundw
            case rel => exact ⟨j + 1, by omega, by congr 1; omega, hO1, hb.trans (hg1.out.below hO.out hbs.out)⟩
            case measure => simp [intOf]; omega
          · have hge : (8 : Int) ≤ (j : Int) := by omega
            have hF : Hid (OwnK .u8 5 wr w.heap.size (.slice A (noughts n + 1 + j) c) (behindOf n)) := by
              rw [← endRow_full n hlt]
              have h0 := hO.out
              rwa [show j = 8 by omega] at h0 ⊢
            clear hO
            go_wp2_with fail
            go_ret
            exact ⟨_, rfl, hF.out, hb⟩
  · have hb0 := behindOf_none n hlt
    have HB0 := Lib.hid hb0
    have hge : 1152921504606846976 ≤ n := by omega
    clear hlt hb0
    go_enter Tryd.func88, Tryd.ntmps88
    go_wp2_with fail
    go_ret
    exact ⟨_, rfl, by rw [HB0.out]; exact Own.nil _ _, Below.refl _ _⟩
end Go.Proofs.YtgfflnjggnadpaaDoor

namespace Go.Proofs.YtgfflnjggnadpaaDoor
set_option linter.all false
set_option maxRecDepth 100000
open Go.RowKit
theorem zero_b : (Tryd.prog.info? 91).map (fun i => (i.zero, i.size)) = some (some (.agg ((List.replicate 64 (0 : Int)).map (Value.int .u8)).toArray), 64) := by kernel_rfl
theorem zero_o : (Tryd.prog.info? 79).map (fun i => (i.zero, i.size)) = some (some (.agg ((List.replicate 32 (0 : Int)).map (Value.int .u8)).toArray), 32) := by kernel_rfl
/-- a block that is filled byte by byte, behind k of them -/
def copyRow (bl : List Int) (k : Nat) : List Int := bl.take k ++ List.replicate (64 - k) 0
theorem copyRow_len (bl : List Int) (h : bl.length = 64) (k : Nat) (hk : k ≤ 64) : (copyRow bl k).length = 64 := by simp [copyRow, h]; omega
theorem copyRow_zero (bl : List Int) : copyRow bl 0 = List.replicate 64 0 := by simp [copyRow]
theorem copyRow_full (bl : List Int) (h : bl.length = 64) : copyRow bl 64 = bl := by
  unfold copyRow
  rw [List.take_of_length_le (by omega)]
  simp
theorem copyRow_set (bl : List Int) (h : bl.length = 64) (k : Nat) (hk : k < 64) : (copyRow bl k).set k (bl.getD k 0) = copyRow bl (k + 1) := by
  have hl : k < bl.length := by omega
  unfold copyRow
  rw [fill_set _ _ _ _ (by simp; omega) (by omega), List.take_succ_eq_append_getElem hl, show 64 - k - 1 = 64 - (k + 1) by omega]
  congr 2
  simp [hl]
theorem outRow_set4 (st : List Int) (i k : Nat) (hi : i < 8) (hk : k < 4) : (outRow st (4 * i + k)).set (4 * i + k) (st.getD i 0 / 2 ^ (24 - 8 * k) % 256) = outRow st (4 * i + k + 1) := by
  have h := outRow_set st (4 * i + k) (by omega)
  rwa [show (4 * i + k) / 4 = i by omega, show (4 * i + k) % 4 = k by omega] at h
set_option maxRecDepth 100000 in
set_option maxHeartbeats 4000000 in
theorem RSum_any (w : World) (A : Option Addr) (n c : Nat) (xs : List Int) (hn : n ≤ 140737488355200) (h : Holds w w.heap.size A n c xs) :
    Calls Tryd.prog 85 #[.slice A n c] w
      fun e w' => e = .returned (.agg ((sumOf xs).map (Value.int .u8)).toArray) ∧ Below w.heap.size w w' := by
  have HL := Lib.hid h.len
  have hfit := h.fit
  have hby := h.byte
  obtain ⟨X, hX⟩ : ∃ Z : List Int, Z = List.replicate 32 0 := ⟨_, rfl⟩
  have HX := len0 32
  have hx1 := zero_o
  rw [← hX] at HX hx1
  obtain ⟨Z, hZ⟩ : ∃ Z : List Int, Z = List.replicate 64 0 := ⟨_, rfl⟩
  have HZ := len0 64
  have hz1 := zero_b
  rw [← hZ] at HZ hz1
  obtain ⟨Y, hY⟩ : ∃ Z : List Int, Z = List.replicate 8 0 := ⟨_, rfl⟩
  have HY := len0 8
  have hy1 := zero_s
  rw [← hY] at HY hy1
  have HX1 := Lib.hid hx1
  have HZ1 := Lib.hid hz1
  have HY1 := Lib.hid hy1
  have HXe := Lib.hid hX
  have HZe := Lib.hid hZ
  have hal := allOf_len xs (by rw [HL.out]; omega)
  have hall := allOf_bytes xs hby
  have hbl := behindOf_len xs.length (by rw [HL.out]; omega)
  have hnl := noughts_lt xs.length
  have heb := behindOf_bytes xs.length
  have cb := fun w => Lib.hid (RBegin_any w)
  have cbh := fun w => RBehind_any w (xs.length : Int) (by have := HL.out; omega)
  have hae : allOf xs = xs ++ behindOf (xs.length : Int) := rfl
  obtain ⟨E, hE⟩ : ∃ E, E = behindOf (xs.length : Int) := ⟨_, rfl⟩
  rw [← hE] at cbh hbl heb hae
  rw [HL.out] at cbh
  have CBH := fun w => Lib.hid (cbh w)
  obtain ⟨L, hL⟩ : ∃ L, L = E.length := ⟨_, rfl⟩
  rw [← hL] at hbl
  have hLb : L ≤ 72 := by omega
  have HEL := Lib.hid hL
  obtain ⟨all, hall0⟩ : ∃ all, all = allOf xs := ⟨_, rfl⟩
  have hso : stateOf xs = blocksS H0 all (all.length / 64) := by rw [hall0]; rfl
  rw [← hall0] at hal hall hae
  obtain ⟨N, hN⟩ : ∃ N, N = all.length := ⟨_, rfl⟩
  rw [← hN] at hal hso
  have hN1 : N = n + L := by rw [hN, hae, List.length_append, HL.out, hL]
  obtain ⟨q, hq⟩ : ∃ q, q = N / 64 := ⟨_, rfl⟩
  rw [← hq] at hso
  have hNq : N = 64 * q := by omega
  have hNb : N ≤ 140737488355328 := by omega
  have HNq := Lib.hid hNq
  have HNl := Lib.hid hN
  have HAE := Lib.hid hae
  have HSO := Lib.hid hso
  have cp := fun w s b h1 h2 h3 h4 => Lib.hid (RPress_any w s b h1 h2 h3 h4)
  have hun : IntKind.u64.wrap (n : Int) = (n : Int) := by rw [IntKind.wrap_u64]; omega
  clear hX hx1 hZ hz1 hY hy1 hal hnl hE cbh hL hall0 hN hN1 hq hNq hae hso hbl
  go_enter Tryd.func85, Tryd.ntmps85
  go_wp2_with (first
    | ((with_reducible show wpList _ _ _ (⟨some 2, _, _, _, _, _⟩ :: _) _ _); refine wpList_alloc_arr rfl _ rfl .u8 X 32 HX1 ?_; intro g2 w2 e2 s2 A2 b2; have hb2 := b2.out.size)
    | (at_builtin; refine wpList_append_bytes rfl (.tmp 12) (.tmp 13) rfl w2.heap.size _ [] rfl (Own.nil _ _) w.heap.size A n c xs rfl (h.below b2.out) (by rw [HL.out]; simp; omega) (Nat.le_refl _) ?_; intro v3 w3 o3 b3 gr3)
    | fail)
  rw [List.nil_append] at o3
  refine (CBH _).out.mono ?_
  rintro e w4 ⟨v4, rfl, o4, b4⟩
  obtain ⟨A4, c4, rfl, h4⟩ := o4.holds heb (by rw [← HEL.out]; omega)
  rw [← HEL.out] at h4 ⊢
  have H4 := Lib.hid h4
  have O3 := Lib.hid (o3.out.below b4)
  have hs3 := b3.size
  have hs4 := b4.size
  have s24 : w2.heap.size ≤ w4.heap.size := by omega
  have B4 : Hid (Below w.heap.size w w4) := step (step b2.out b3) b4
  have A24 : Hid (Arr w4 g2 .u8 79 X) := (A2.out.over b3).over b4
  clear o3 o4 h4 b3 b4 gr3 hs3 hs4 A2 b2 hb2
  go_wp2_with (first
    | (at_builtin; refine wpList_append_bytes rfl (.tmp 19) (.tmp 20) rfl w2.heap.size _ xs rfl O3.out _ A4 L c4 E rfl H4.out (by rw [HL.out, ← HEL.out]; omega) s24 ?_; intro v5 w5 o5 b5 _)
    | fail)
  rw [← HAE.out] at o5
  refine (cb _).out.mono ?_
  rintro e w6 ⟨rfl, b6⟩
  obtain ⟨Av, cv, rfl, hv⟩ := (o5.out.below b6).holds hall (by rw [← HNl.out]; omega)
  rw [← HNl.out] at hv ⊢
  have HV := Lib.hid hv
  have B6 : Hid (Below w.heap.size w w6) := step (B4.out.trans (b5.mono (by omega))) b6
  have A26 : Hid (Arr w6 g2 .u8 79 X) := (A24.out.below b5 (by omega)).over b6
  clear hv o5 b5 b6 A24 B4 O3 H4
  go_wp2_with (first
    | ((with_reducible show wpList _ _ _ (⟨some 5, _, _, _, _, _⟩ :: _) _ _); refine wpList_alloc_arr rfl _ rfl .u32 Y 8 HY1 ?_; intro g5 w7 e7 s7 A7 b7)
    | ((with_reducible show wpList _ _ _ (⟨none, _, _, _, _, _⟩ :: _) _ _); refine wpList_store_arr rfl _ (.tmp 5) (.tmp 22) rfl g5 rfl .u32 _ _ H0 rfl A7 8 size_s HY rfl ?_; intro w8 A8 o8 s8)
    | fail)
  have hs6 := B6.out.size
  have l25 : g2 < g5 := by have := A26.out.lt; omega
  have lw5 : w.heap.size ≤ g5 := by omega
  have A28 : Hid (Arr w8 g2 .u8 79 X) := (A26.out.over b7.out).only o8.out (by omega)
  have B8 : Hid (Below w.heap.size w w8) := (B6.out.trans (b7.out.mono hs6)).trans (o8.out.below lw5)
  have V8 : Hid (Holds w8 g5 Av N cv all) := ((HV.out.below b7.out).mono e7).below (o8.out.below (Nat.le_refl _))
  clear HV B6 A26 A7 b7 o8 s7 e7 hs6
  go_loopw [6] (fun i wr => ∃ m : Nat, m ≤ q ∧ i = .int .i64 ((64 * m : Nat) : Int) ∧ Hid (Arr wr g5 .u32 101 (blocksS H0 all m)) ∧ Hid (Below g5 w8 wr)) (fun i _ => N - (intOf i).toNat)
  case atStart => exact ⟨0, by omega, rfl, A8, Below.refl _ _⟩
  case round =>
    obtain ⟨m, hm, rfl, hR, hB⟩ := hrel
    by_cases hlt : m < q
    · have hVr : Holds wr g5 Av N cv all := V8.out.below hB.out
      have hlN : 64 * m + 64 ≤ N := by have := HNq.out; omega
      obtain ⟨b, off, rfl, hb, hc⟩ := hVr.cells (by omega)
      obtain ⟨k0, hk0⟩ : ∃ k0, k0 = 64 * m := ⟨_, rfl⟩
      have hlb : Hid (((all.drop (64 * m)).take 64).length = 64) := by
        show _ = _
        rw [List.length_take, List.length_drop, ← HNl.out]
        omega
      have hbb := (hall.drop (64 * m)).take 64
      have hcb : Hid (∀ i, i < 64 → wr.cell? ⟨b, off + (k0 + i), none⟩ = some (.int .u8 (((all.drop (64 * m)).take 64).getD i 0))) := fun i hi => by
        have e : ((all.drop (64 * m)).take 64).getD i 0 = all.getD (64 * m + i) 0 := by
          simp [List.getD_eq_getElem?_getD, List.getElem?_drop, hi]
        rw [e, hk0, ← hc (64 * m + i) (by omega)]
      have hst : pressOf (blocksS H0 all m) ((all.drop (64 * m)).take 64) = blocksS H0 all (m + 1) := rfl
      have hsl := Lib.hid (blocksS_len H0_len all m)
      have hsw := blocksS_w H0_w all m
      have hslN := Lib.hid (blocksS_len H0_len all (m + 1))
      obtain ⟨bl, hble⟩ : ∃ bl, bl = (all.drop (64 * m)).take 64 := ⟨_, rfl⟩
      obtain ⟨s1, hs1⟩ : ∃ s1, s1 = blocksS H0 all m := ⟨_, rfl⟩
      obtain ⟨s2', hs2⟩ : ∃ s2, s2 = blocksS H0 all (m + 1) := ⟨_, rfl⟩
      rw [← hble] at hlb hbb hcb hst
      rw [← hs1] at hR hsl hsw hst
      rw [← hs2] at hslN hst
      have cp1 := fun w => cp w s1 bl hsl.out hsw hlb.out hbb
      rw [hst] at cp1
      have HS2 := Lib.hid hs2
      have HKm := Lib.hid hk0
      rw [← hk0] at hlN ⊢
      have hbl : b < g5 := hb
      clear hc hble hs1 hs2 hst hk0 hVr hb
      go_wp2_with (first
        | ((with_reducible show wpList _ _ _ (⟨some 7, _, _, _, _, _⟩ :: _) _ _); refine wpList_alloc_arr rfl _ rfl .u8 Z 64 HZ1 ?_; intro g7 w9 e9 s9 A9 b9)
        | fail)
      have hsr := hR.out.lt
      have l57 : g5 < g7 := by omega
      have hcb9 : Hid (∀ i, i < 64 → w9.cell? ⟨b, off + (k0 + i), none⟩ = some (.int .u8 (bl.getD i 0))) := fun i hi => by
        rw [← hcb.out i hi]
        exact b9.out.cell (p := ⟨b, off + (k0 + i), none⟩) (show b < wr.heap.size by omega)
      have R9 : Hid (Arr w9 g5 .u32 101 s1) := hR.out.over b9.out
      have B9 : Hid (Below g5 w8 w9) := hB.out.trans (b9.out.mono (by omega))
      clear hcb hR hB b9 e9 s9
      go_loopw [8] (fun j wr => ∃ k : Nat, k ≤ 64 ∧ j = .int .i64 k ∧ Hid (Arr wr g7 .u8 91 (copyRow bl k)) ∧ Hid (Only g7 w9 wr)) (fun j _ => 64 - (intOf j).toNat)
      case atStart => exact ⟨0, by omega, rfl, by rw [copyRow_zero, ← HZe.out]; exact A9, Only.refl _ _⟩
      case round =>
        obtain ⟨k, hk, rfl, hR7, hO⟩ := hrel
        by_cases hlt2 : k < 64
        · have gb : wr.cell? ⟨b, off + (k0 + k), none⟩ = some (.int .u8 (bl.getD k 0)) := by
            rw [← hcb9.out k hlt2]
            exact (hO.out.below (Nat.le_refl _)).cell (p := ⟨b, off + (k0 + k), none⟩) (show b < g7 by omega)
          have hS := hR7.out.set k (bl.getD k 0)
          rw [copyRow_set bl hlb.out k hlt2] at hS
          have hbk := hbb.getD k
          obtain ⟨y, hy⟩ : ∃ y, y = bl.getD k 0 := ⟨_, rfl⟩
          rw [← hy] at gb hS hbk
          have gd := hR7.out.cell (i := k) (by rw [copyRow_len bl hlb.out k hk]; exact hlt2)
          obtain ⟨old, hold⟩ : ∃ old, old = (copyRow bl k).getD k 0 := ⟨_, rfl⟩
          rw [← hold] at gd
          have gf := hR7.out.frozen k
          have hSh := Lib.hid hS
          obtain ⟨hbk0, hbk1⟩ := hbk
          have hkN : (k0 : Int) + (k : Int) < (N : Int) := by omega
          clear hy hold hS hR7
          go_wp2_with fail
          go_roundw
          case rel => exact ⟨k + 1, by omega, by go_num, hSh, hO.out.setCell _ _⟩
          case measure => simp [intOf]; omega
        · have hge : (64 : Int) ≤ (k : Int) := by omega
          have hF : Hid (Arr wr g7 .u8 91 bl) := by
            have h0 := hR7.out
            rwa [show k = 64 by omega, copyRow_full bl hlb.out] at h0
          have Rr : Hid (Arr wr g5 .u32 101 s1) := R9.out.only hO.out (by omega)
          have Br : Hid (Below g5 w8 wr) := B9.out.trans (hO.out.below (by omega))
          obtain ⟨wz, hwz⟩ : ∃ wz, wz = wr := ⟨_, rfl⟩
          rw [← hwz] at hF Rr Br ⊢
          clear hR7 hO R9 B9 hcb9 hwz
          go_wp2_with (first
            | ((with_reducible show wpList _ _ _ (⟨some 41, _, _, _, _, _⟩ :: _) _ _); refine wpList_load_arr rfl _ (.tmp 5) rfl g5 rfl .u32 _ s1 Rr 8 _ Tryd.underlying101 size_s hsl ?_)
            | ((with_reducible show wpList _ _ _ (⟨some 42, _, _, _, _, _⟩ :: _) _ _); refine wpList_load_arr rfl _ (.tmp 7) rfl g7 rfl .u8 _ bl hF 64 _ Tryd.underlying91 size_b hlb ?_)
            | fail)
          refine (cp1 _).out.mono ?_
          rintro e w10 ⟨rfl, b10⟩
          have hsz := Rr.out.lt
          have R10 : Hid (Arr w10 g5 .u32 101 s1) := Rr.out.over b10
          have B10 : Hid (Below g5 w8 w10) := Br.out.trans (b10.mono (by omega))
          clear b10 Rr Br hsz
          go_wp2_with (first
            | ((with_reducible show wpList _ _ _ (⟨none, _, _, _, _, _⟩ :: _) _ _); refine wpList_store_arr rfl _ (.tmp 5) (.tmp 43) rfl g5 rfl .u32 _ _ s2' rfl R10 8 size_s hsl hslN ?_; intro w11 A11 o11 s11)
            | fail)
          go_roundw
          case rel => exact ⟨m + 1, by omega, by rw [show 64 * (m + 1) = k0 + 64 by have := HKm.out; omega]; go_num, by rw [← HS2.out]; exact A11, B10.out.trans (o11.out.below (Nat.le_refl _))⟩
          case measure => have := HKm.out; simp [intOf]; omega
    · have hge : (N : Int) ≤ ((64 * m : Nat) : Int) := by have := HNq.out; omega
      have hF : Hid (Arr wr g5 .u32 101 (stateOf xs)) := by
        have h0 := hR.out
        rwa [show m = q by omega, ← HSO.out] at h0
      have hls := Lib.hid (stateOf_len xs)
      have hsow := stateOf_w xs
      have hsum : sumOf xs = outOf (stateOf xs) := rfl
      obtain ⟨so, hso⟩ : ∃ so, so = stateOf xs := ⟨_, rfl⟩
      rw [← hso] at hF hls hsow hsum
      have HSUM := Lib.hid hsum
      have A2r : Hid (Arr wr g2 .u8 79 X) := A28.out.below hB.out l25
      have Br : Hid (Below w.heap.size w wr) := B8.out.trans (hB.out.mono lw5)
      obtain ⟨k0, hk0⟩ : ∃ k0, k0 = 64 * m := ⟨_, rfl⟩
      rw [← hk0] at hge ⊢
      clear hso hsum hR hB hk0 V8 A28 B8 A8 hlt
      go_wp2_with (first
        | ((with_reducible show wpList _ _ _ (⟨some 9, _, _, _, _, _⟩ :: _) _ _); refine wpList_alloc_arr rfl _ rfl .u8 X 32 HX1 ?_; intro g9 w9 e9 s9 A9 b9)
        | fail)
      have hs5 := hF.out.lt
      have hs2' := A2r.out.lt
      have l59 : g5 < g9 := by omega
      have l29 : g2 < g9 := by omega
      have lw9 : w.heap.size ≤ g9 := by omega
      have F9 : Hid (Arr w9 g5 .u32 101 so) := hF.out.over b9.out
      have A29 : Hid (Arr w9 g2 .u8 79 X) := A2r.out.over b9.out
      have B9 : Hid (Below w.heap.size w w9) := step Br.out b9.out
      clear hF A2r Br b9 e9 hs5 hs2'
      go_loopw [10] (fun i wr => ∃ k : Nat, k ≤ 8 ∧ i = .int .i64 k ∧ Hid (Arr wr g9 .u8 79 (outRow so (4 * k))) ∧ Hid (Only g9 w9 wr)) (fun i _ => 8 - (intOf i).toNat)
      case atStart => exact ⟨0, by omega, rfl, by rw [Nat.mul_zero, outRow_zero, ← HXe.out]; exact A9, Only.refl _ _⟩
      case round =>
        obtain ⟨i, hi, rfl, hR9, hO9⟩ := hrel
        by_cases hlt3 : i < 8
        · obtain ⟨wo, hwo⟩ : ∃ wo, wo = wr := ⟨_, rfl⟩
          rw [← hwo] at hR9 hO9 ⊢
          clear hwo
          have hi0 : (0 : Int) ≤ (i : Int) := by omega
          have hi1 : (i : Int) < 8 := by omega
          have hbi := hsow.getD i
          go_wp2_with fail
          go_loopw [11] (fun j wr => ∃ k : Nat, k ≤ 4 ∧ j = .int .i64 k ∧ Hid (Arr wr g9 .u8 79 (outRow so (4 * i + k))) ∧ Hid (Only g9 w9 wr)) (fun j _ => 4 - (intOf j).toNat)
          case atStart => exact ⟨0, by omega, rfl, hR9, hO9⟩
          case round =>
            obtain ⟨k, hk, rfl, hR, hO⟩ := hrel
            by_cases hlt4 : k < 4
            · have gc := (F9.out.only hO.out (by omega)).cell (i := i) (by rw [hls.out]; omega)
              have hS := hR.out.set (4 * i + k) (so.getD i 0 / 2 ^ (24 - 8 * k) % 256)
              rw [outRow_set4 so i k hlt3 hlt4] at hS
              obtain ⟨y, hy⟩ : ∃ y, y = so.getD i 0 := ⟨_, rfl⟩
              rw [← hy] at gc hS
              have hb := hbi
              rw [← hy] at hb
              have gd := hR.out.cell (i := 4 * i + k) (by rw [outRow_len so _ (by omega)]; omega)
              obtain ⟨old, hold⟩ : ∃ old, old = (outRow so (4 * i + k)).getD (4 * i + k) 0 := ⟨_, rfl⟩
              rw [← hold] at gd
              have gf := hR.out.frozen (4 * i + k)
              have en : (24 - 8 * (k : Int)).toNat = 24 - 8 * k := by omega
              have hSh := Lib.hid hS
              obtain ⟨hb0, hb1⟩ := hb
              have hk4 : (k : Int) < 4 := by omega
              clear hy hold hS hR
              go_wp2_with fail
              go_roundw
              case rel => exact ⟨k + 1, by omega, by go_num, hSh, hO.out.setCell _ _⟩
              case measure => simp [intOf]; omega
            · have hge2 : (4 : Int) ≤ (k : Int) := by omega
              have hF : Hid (Arr wr g9 .u8 79 (outRow so (4 * (i + 1)))) := by
                have h0 := hR.out
                rwa [show 4 * i + k = 4 * (i + 1) by omega] at h0
              clear hR
              go_wp2_with fail
              go_roundw
              case rel => exact ⟨i + 1, by omega, by go_num, hF, hO⟩
              case measure => simp [intOf]; omega
        · have hge3 : (8 : Int) ≤ (i : Int) := by omega
          have hF : Hid (Arr wr g9 .u8 79 (sumOf xs)) := by
            have h0 := hR9.out
            rw [show 4 * i = 32 by omega, outRow_full, ← HSUM.out] at h0
            exact h0
          have A2f := Lib.hid (A29.out.only hO9.out (by omega))
          have Bf : Hid (Below w.heap.size w wr) := B9.out.trans (hO9.out.below lw9)
          have HP : Hid ((sumOf xs).length = 32) := outOf_len _
          obtain ⟨p, hp⟩ : ∃ p, p = sumOf xs := ⟨_, rfl⟩
          rw [← hp] at hF HP
          have HPe := Lib.hid hp
          clear hR9 hO9 hp
          go_wp2_with (first
            | ((with_reducible show wpList _ _ _ (⟨some 66, _, _, _, _, _⟩ :: _) _ _); refine wpList_load_arr rfl _ (.tmp 9) rfl g9 rfl .u8 _ p hF 32 _ Tryd.underlying79 size_o HP ?_)
            | ((with_reducible show wpList _ _ _ (⟨none, _, _, _, _, _⟩ :: _) _ _); refine wpList_store_arr rfl _ (.tmp 2) (.tmp 66) rfl g2 rfl .u8 _ _ p rfl A2f 32 size_o HX HP ?_; intro w14 A14 o14 s14)
            | fail)
          rw [← HPe.out]
          refine bodyPost_ret (v := .agg (p.map (Value.int .u8)).toArray) ?_ rfl ⟨rfl, Bf.out.trans (o14.out.below (by omega))⟩
          exact results_cell_row rfl _ _ g2 _ _ (0, 0) _ rfl A14.out Tryd.underlying79 rfl (by rw [size_o]; have := HP.out; simp [this])
end Go.Proofs.YtgfflnjggnadpaaDoor

namespace Go.Proofs.YtgfflnjggnadpaaDoor
set_option linter.all false
set_option maxRecDepth 100000
open Go.RowKit
/-! ### half -/

def halfRow (xs : List Int) (k : Nat) : List Int := xs.take k ++ List.replicate (16 - k) 0
theorem halfRow_len (xs : List Int) (k : Nat) (hl : 16 ≤ xs.length) (hk : k ≤ 16) : (halfRow xs k).length = 16 := by simp [halfRow]; omega
theorem halfRow_zero (xs : List Int) : halfRow xs 0 = List.replicate 16 0 := by simp [halfRow]
theorem halfRow_full (xs : List Int) : halfRow xs 16 = xs.take 16 := by simp [halfRow]
theorem halfRow_set (xs : List Int) (k : Nat) (hl : 16 ≤ xs.length) (hk : k < 16) : (halfRow xs k).set k (xs.getD k 0) = halfRow xs (k + 1) := by
  have hx : k < xs.length := by omega
  unfold halfRow
  rw [fill_set _ _ _ _ (by simp; omega) (by omega), List.take_succ_eq_append_getElem hx, show 16 - k - 1 = 16 - (k + 1) by omega]
  congr 2
  simp [hx]
set_option maxRecDepth 100000 in
set_option maxHeartbeats 2000000 in
theorem half_any (w : World) (xs : List Int) (hl : xs.length = 32) (hb : Bytes xs) :
    Calls Tryd.prog 66 #[.agg (xs.map (Value.int .u8)).toArray] w fun e w' => e = .returned (.agg ((xs.take 16).map (Value.int .u8)).toArray) ∧ Below w.heap.size w w' := by
  have HP : Hid ((xs.take 16).length = 16) := by show _ = _; rw [List.length_take]; omega
  have HF : Hid (halfRow xs 16 = xs.take 16) := halfRow_full xs
  obtain ⟨p, hp⟩ : ∃ p, p = xs.take 16 := ⟨_, rfl⟩
  rw [← hp] at HP HF ⊢
  have HL := Lib.hid hl
  obtain ⟨X, hX⟩ : ∃ Z : List Int, Z = List.replicate 16 0 := ⟨_, rfl⟩
  have HX := len0 16
  have hx1 := zero_g
  have H0 := halfRow_zero xs
  rw [← hX] at HX hx1 H0
  have HX1 := Lib.hid hx1
  have HX0 := Lib.hid H0
  clear hp hl hX hx1 H0
  go_enter Tryd.func66, Tryd.ntmps66
  go_wp2_with (first
    | ((with_reducible show wpList _ _ _ (⟨some 1, _, _, _, _, _⟩ :: _) _ _); refine wpList_box_arr rfl _ (.tmp 0) rfl .u8 xs rfl ?_; intro g1 w1 e1 s1 A1 b1)
    | ((with_reducible show wpList _ _ _ (⟨some 2, _, _, _, _, _⟩ :: _) _ _); refine wpList_alloc_arr rfl _ rfl .u8 X 16 HX1 ?_; intro g2 w2 e2 s2 A2 b2)
    | ((with_reducible show wpList _ _ _ (⟨some 3, _, _, _, _, _⟩ :: _) _ _); refine wpList_alloc_arr rfl _ rfl .u8 X 16 HX1 ?_; intro g3 w3 e3 s3 A3 b3)
    | fail)
  have l12 : g1 < g2 := by omega
  have l23 : g2 < g3 := by omega
  have A13 : Hid (Arr w3 g1 .u8 79 xs) := (A1.out.over b2.out).over b3.out
  have A23 : Hid (Arr w3 g2 .u8 47 X) := A2.out.over b3.out
  have B3 : Hid (Below w.heap.size w w3) := step (step b1.out b2.out) b3.out
  have lw1 : w.heap.size ≤ g1 := e1
  clear A1 A2 b1 b2 b3 e1 s1 e2 s2 e3 s3
  go_loopw [4] (fun i wr => ∃ k : Nat, k ≤ 16 ∧ i = .int .i64 k ∧ Hid (Arr wr g3 .u8 47 (halfRow xs k)) ∧ Hid (Only g3 w3 wr)) (fun i _ => 16 - (intOf i).toNat)
  case atStart => exact ⟨0, by omega, rfl, by rw [HX0.out]; exact A3, Only.refl _ _⟩
  case round =>
    obtain ⟨k, hk, rfl, hR, hO⟩ := hrel
    by_cases hlt : k < 16
    · have gc := (A13.out.only hO.out (by omega)).cell (i := k) (by rw [HL.out]; omega)
      have hS := hR.out.set k (xs.getD k 0)
      rw [halfRow_set xs k (by rw [HL.out]; omega) hlt] at hS
      have hbk := hb.getD k
      obtain ⟨y, hy⟩ : ∃ y, y = xs.getD k 0 := ⟨_, rfl⟩
      rw [← hy] at gc hS hbk
      have gd := hR.out.cell (i := k) (by rw [halfRow_len xs k (by rw [HL.out]; omega) hk]; exact hlt)
      obtain ⟨old, hold⟩ : ∃ old, old = (halfRow xs k).getD k 0 := ⟨_, rfl⟩
      rw [← hold] at gd
      have gf := hR.out.frozen k
      have hSh := Lib.hid hS
      obtain ⟨hbk0, hbk1⟩ := hbk
      clear hy hold hS hR
      go_wp2_with fail
      go_roundw
      case rel => exact ⟨k + 1, by omega, by go_num, hSh, hO.out.setCell _ _⟩
      case measure => simp [intOf]; omega
    · have hge : (16 : Int) ≤ (k : Int) := by omega
      have hF : Hid (Arr wr g3 .u8 47 p) := by
        have h0 := hR.out
        rwa [show k = 16 by omega, HF.out] at h0
      have A2f := Lib.hid (A23.out.only hO.out (by omega))
      have Bf : Hid (Below w.heap.size w wr) := B3.out.trans (hO.out.below (by omega))
      clear hR hO
      go_wp2_with (first
        | ((with_reducible show wpList _ _ _ (⟨some 14, _, _, _, _, _⟩ :: _) _ _); refine wpList_load_arr rfl _ (.tmp 3) rfl g3 rfl .u8 _ p hF 16 _ Tryd.underlying47 size_g HP ?_)
        | ((with_reducible show wpList _ _ _ (⟨none, .store _ (.tmp 2) _, _, _, _, _⟩ :: _) _ _); refine wpList_store_arr rfl _ (.tmp 2) (.tmp 14) rfl g2 rfl .u8 _ _ p rfl A2f 16 size_g HX HP ?_; intro w14 A14 o14 s14)
        | fail)
      refine bodyPost_ret (v := .agg (p.map (Value.int .u8)).toArray) ?_ rfl ⟨rfl, Bf.out.trans (o14.out.below (by omega))⟩
      exact results_cell_row rfl _ _ g2 _ _ (0, 0) _ rfl A14.out Tryd.underlying47 rfl (by rw [size_g]; have := HP.out; simp [this])
/-! ### Mac -/

theorem snoc_zero (l : List Int) (j : Nat) : l ++ List.replicate j 0 ++ [0] = l ++ List.replicate (j + 1) 0 := by rw [List.append_assoc, ← List.replicate_succ']
theorem take_snoc (l : List Int) (j : Nat) (h : j < l.length) : l.take j ++ [l.getD j 0] = l.take (j + 1) := by
  rw [List.take_succ_eq_append_getElem h]
  simp [h]
theorem take_snoc_xor (c : Int) (l : List Int) (j : Nat) (h : j < l.length) : (xorL c l).take j ++ [bits .xor .u8 (l.getD j 0) c] = (xorL c l).take (j + 1) := by
  rw [← take_snoc _ _ (by rw [xorL_len]; exact h)]
  simp [xorL, h]
set_option maxRecDepth 100000 in
set_option maxHeartbeats 4000000 in
theorem RMac_any (w : World) (A : Option Addr) (n c : Nat) (ks : List Int) (hn : n ≤ 140737488355100) (h : Holds w w.heap.size A n c ks) (A2 : Option Addr) (n2 c2 : Nat) (bs : List Int) (hn2 : n2 ≤ 140737488355100) (h2 : Holds w w.heap.size A2 n2 c2 bs) :
    Calls Tryd.prog 67 #[.slice A n c, .slice A2 n2 c2] w fun e w' => e = .returned (.agg ((macL ks bs).map (Value.int .u8)).toArray) ∧ Below w.heap.size w w' := by
  have hmac : macL ks bs = sumOf (xorL 92 (keyL ks) ++ sumOf (xorL 54 (keyL ks) ++ bs)) := rfl
  have HR : Hid ((macL ks bs).length = 32) := macL_len _ _
  obtain ⟨R, hR⟩ : ∃ R, R = macL ks bs := ⟨_, rfl⟩
  rw [← hR] at hmac HR ⊢
  have hkk : keyL ks = padK (if 64 < ks.length then sumOf ks else ks) := rfl
  have HKl : Hid ((keyL ks).length = 64) := keyL_len ks
  have hKb : Bytes (keyL ks) := keyL_bytes ks h.byte
  obtain ⟨K, hKe⟩ : ∃ K, K = keyL ks := ⟨_, rfl⟩
  rw [← hKe] at hkk HKl hKb hmac
  have hLl : (if 64 < ks.length then sumOf ks else ks).length ≤ 64 := by
    split
    · rw [sumOf_len]; omega
    · omega
  have hLb : Bytes (if 64 < ks.length then sumOf ks else ks) := by
    split
    · exact sumOf_bytes _
    · exact h.byte
  have hL1 : 64 < n → (if 64 < ks.length then sumOf ks else ks) = sumOf ks := fun hh => if_pos (by rw [h.len]; exact hh)
  have hL2 : ¬ 64 < n → (if 64 < ks.length then sumOf ks else ks) = ks := fun hh => if_neg (by rw [h.len]; exact hh)
  obtain ⟨L, hLe⟩ : ∃ L, L = if 64 < ks.length then sumOf ks else ks := ⟨_, rfl⟩
  rw [← hLe] at hkk hLl hLb hL1 hL2
  have HMAC := Lib.hid hmac
  have HKK := Lib.hid hkk
  have HL1 := Lib.hid hL1
  have HL2 := Lib.hid hL2
  have HB := Lib.hid h2.byte
  have HBL := Lib.hid h2.len
  have HNL := Lib.hid h.len
  have cs := fun w A n c xs hn h => Lib.hid (RSum_any w A n c xs hn h)
  obtain ⟨X, hX⟩ : ∃ Z : List Int, Z = List.replicate 32 0 := ⟨_, rfl⟩
  have HX := len0 32
  have hx1 := zero_m
  rw [← hX] at HX hx1
  have HX1 := Lib.hid hx1
  have HH := Lib.hid h
  have HH2 := Lib.hid h2
  clear hR hKe hLe hmac hkk hL1 hL2 hx1 hX h h2
  go_enter Tryd.func67, Tryd.ntmps67
  go_upto_if 15 with (first
    | ((with_reducible show wpList _ _ _ (⟨some 4, _, _, _, _, _⟩ :: _) _ _); refine wpList_alloc_arr rfl _ rfl .u8 X 32 HX1 ?_; intro g4 w4 e4 s4 A4 b4)
    | fail)
  go_cut [5] (fun s5 wx => Hid (OwnK .u8 5 wx w4.heap.size s5 L) ∧ Hid (Below w4.heap.size w4 wx))
  case first =>
    by_cases hlt : 64 < n
    · have e := HL1.out hlt
      have HS : Hid ((sumOf ks).length = 32) := sumOf_len ks
      have hSb := sumOf_bytes ks
      have cs1 := fun w h => cs w A n c ks (by omega) h
      obtain ⟨S, hS⟩ : ∃ S, S = sumOf ks := ⟨_, rfl⟩
      rw [← hS] at HS hSb cs1 e
      have HE := Lib.hid e
      have hlt' : (64 : Int) < (n : Int) := by omega
      clear hS e
      go_wp2_with fail
      refine (cs1 _ (HH.out.over b4.out)).out.mono ?_
      rintro e w5 ⟨rfl, b5⟩
      have B5 := Lib.hid b5
      clear b5
      go_wp2_with (first
        | ((with_reducible show wpList _ _ _ (⟨some 6, _, _, _, _, _⟩ :: _) _ _); refine wpList_alloc_arr rfl _ rfl .u8 X 32 HX1 ?_; intro g6 w6 e6 s6 A6 b6)
        | ((with_reducible show wpList _ _ _ (⟨none, .store _ (.tmp 6) _, _, _, _, _⟩ :: _) _ _); refine wpList_store_arr rfl _ (.tmp 6) (.tmp 17) rfl g6 rfl .u8 _ _ S rfl A6 32 size_o HX HS ?_; intro w7 A7 o7 s7)
        | fail)
      have hs5 := B5.out.size
      have B7 : Hid (Below w4.heap.size w4 w7) := (step B5.out b6.out).trans (o7.out.below (by omega))
      have hs7 := B7.out.size
      have l64 : w4.heap.size ≤ g6 := by omega
      clear B5 A6 b6 o7 e6 s6 hs5
      go_loopw [5, 7] (fun v i wr => ∃ k : Nat, k ≤ 32 ∧ i = .int .i64 k ∧ Hid (OwnK .u8 5 wr w7.heap.size v (S.take k)) ∧ Hid (Below w7.heap.size w7 wr)) (fun _ i _ => 32 - (intOf i).toNat)
      case atStart => exact ⟨0, by omega, rfl, OwnK.nil _ _ _ _, Below.refl _ _⟩
      case round =>
        obtain ⟨k, hk, rfl, hO, hB⟩ := hrel
        obtain ⟨Av, l, cv, rfl, hl, _⟩ := hO.out.open
        have hl0 : (S.take k).length = k := by rw [List.length_take, HS.out]; omega
        rw [hl0] at hl
        subst hl
        have hbs := Lib.hid hB.out.size
        by_cases hlt2 : k < 32
        · have gc := (A7.out.below hB.out s7).cell (i := k) (by rw [HS.out]; exact hlt2)
          have he := take_snoc S k (by rw [HS.out]; exact hlt2)
          have hbk := hSb.getD k
          obtain ⟨y, hy⟩ : ∃ y, y = S.getD k 0 := ⟨_, rfl⟩
          rw [← hy] at gc he hbk
          have hpl := Lib.hid hl0
          clear hy
          go_wp2_with (first
            | (at_builtin; refine wpList_append_lit rfl (.tmp 22) (.tmp 26) .u8 24 5 1 Tryd.underlying24 info_b rfl w7.heap.size _ (S.take k) [y] _ rfl 1 1 rfl rfl rfl hO.out (by rw [hpl.out]; omega) (by rw [hpl.out]; omega) hbs.out ?_; intro v1 w1 ho1 hg1)
            | fail)
          have hO1 := ho1.out
          rw [he] at hO1
          go_roundw
          case rel => exact ⟨k + 1, by omega, by go_num, hO1, hB.out.trans (hg1.out.below hO.out hbs.out)⟩
          case measure => simp [intOf]; omega
        · have hge : (32 : Int) ≤ (k : Int) := by omega
          have hF : Hid (OwnK .u8 5 wr w4.heap.size (.slice Av k cv) L) := by
            have h0 := hO.out
            rw [List.take_of_length_le (by rw [HS.out]; omega), ← HE.out] at h0
            exact h0.mono hs7
          have hBF : Hid (Below w4.heap.size w4 wr) := B7.out.trans (hB.out.mono hs7)
          clear hO hB
          go_wp2_with fail
          go_meet
          exact ⟨hF, hBF⟩
    · have e := HL2.out hlt
      have hle : (n : Int) ≤ 64 := by omega
      have HE := Lib.hid e
      clear e
      go_wp2_with (first
        | (at_builtin; refine wpList_append_bytes rfl (.tmp 28) (.tmp 29) rfl w4.heap.size _ [] rfl (Own.nil _ _) _ A n c ks rfl (HH.out.over b4.out) (by rw [HNL.out]; simp; omega) (Nat.le_refl _) ?_; intro v5 w5 o5 b5 gr5)
        | fail)
      rw [List.nil_append] at o5
      go_meet
      exact ⟨by rw [HE.out]; exact o5, b5⟩
  case rest =>
    obtain ⟨HO5, HB5⟩ := hcut
    have B0 : Hid (Below w.heap.size w wc) := step b4.out HB5.out
    have A4c : Hid (Arr wc g4 .u8 79 X) := A4.out.over HB5.out
    have s4c : g4 < wc.heap.size := A4c.out.lt
    have hs4 := HB5.out.size
    obtain ⟨w5, hw5⟩ : ∃ x, x = wc := ⟨_, rfl⟩
    rw [← hw5] at HO5 HB5 B0 A4c s4c hs4 ⊢
    clear hw5
    obtain ⟨l, hl⟩ : ∃ l, l = L.length := ⟨_, rfl⟩
    have HLL := Lib.hid hl
    rw [← hl] at hLl
    have hw4 := b4.out.size
    clear hl HH A4 b4 HL1 HL2 HNL
    go_wp2_with fail
    go_loopw [5] (fun v wr => ∃ j : Nat, l + j ≤ 64 ∧ Hid (OwnK .u8 5 wr w4.heap.size v (L ++ List.replicate j 0)) ∧ Hid (Below w4.heap.size w5 wr)) (fun v _ => 64 - lenV v)
    case atStart => exact ⟨0, by omega, by rw [List.replicate_zero, List.append_nil]; exact HO5, Below.refl _ _⟩
    case round =>
      obtain ⟨j, hj, hO, hB⟩ := hrel
      obtain ⟨Av, q, cv, rfl, hq, _⟩ := hO.out.open
      have hl0 : (L ++ List.replicate j 0).length = l + j := by rw [List.length_append, List.length_replicate, ← HLL.out]
      rw [hl0] at hq
      subst hq
      have hbs : Hid (w4.heap.size ≤ wr.heap.size) := Nat.le_trans hs4 hB.out.size
      have hpl := Lib.hid hl0
      by_cases hlt : l + j < 64
      · go_wp2_with (first
          | (at_builtin; refine wpList_append_lit rfl (.tmp 34) (.tmp 35) .u8 24 5 1 Tryd.underlying24 info_b rfl w4.heap.size _ (L ++ List.replicate j 0) [0] _ rfl 1 1 rfl rfl rfl hO.out (by rw [hpl.out]; omega) (by rw [hpl.out]; omega) hbs.out ?_; intro v1 w1 ho1 hg1)
          | fail)
        have hO1 := ho1.out
        rw [snoc_zero] at hO1
        have hv1 : 64 - lenV v1 < 64 - lenV (.slice Av (l + j) cv) := by
          obtain ⟨A', l', c', rfl, hl', _⟩ := hO1.open
          rw [List.length_append, List.length_replicate, ← HLL.out] at hl'
          show 64 - l' < 64 - (l + j)
          omega
        have HV1 := Lib.hid hv1
        clear hv1
        go_roundw
        case rel => exact ⟨j + 1, by omega, hO1, hB.out.trans (hg1.out.below hO.out hbs.out)⟩
        case measure => exact HV1.out
      · have hK5 : Hid (OwnK .u8 5 wr w4.heap.size (.slice Av 64 cv) K) := by
          have h0 := hO.out
          rw [show l + j = 64 by omega, show j = 64 - L.length by rw [← HLL.out]; omega] at h0
          rw [HKK.out]
          exact h0
        have B6 : Hid (Below w.heap.size w wr) := B0.out.trans (hB.out.mono (by omega))
        have A46 : Hid (Arr wr g4 .u8 79 X) := A4c.out.below hB.out s4
        have hl64 : l + j = 64 := by omega
        rw [hl64]
        obtain ⟨w6, hw6⟩ : ∃ x, x = wr := ⟨_, rfl⟩
        rw [← hw6] at hK5 B6 A46 hbs ⊢
        clear hw6 hO hB B0 A4c HO5 HB5
        obtain ⟨_, _, _, e0, _, _, _, _, hcells⟩ := hK5.out.open
        simp only [Value.slice.injEq] at e0
        obtain ⟨rfl, rfl, rfl⟩ := e0
        obtain ⟨g5, rfl, _, hg5, hcl⟩ := hcells (by omega)
        have HCL := Lib.hid hcl
        have hbs4 := hbs
        clear hcl hcells hK5 hl0 hpl hj hl64 hlt hbs
        go_wp2_with fail
        go_loopw [8, 9, 10] (fun v8 v9 i wr => ∃ k : Nat, k ≤ 64 ∧ i = .int .i64 k ∧ Hid (OwnK .u8 5 wr w6.heap.size v8 ((xorL 54 K).take k)) ∧ Hid (OwnK .u8 5 wr w6.heap.size v9 ((xorL 92 K).take k)) ∧ Hid (Apart v8 v9) ∧ Hid (Below w6.heap.size w6 wr)) (fun _ _ i _ => 64 - (intOf i).toNat)
        case atStart => exact ⟨0, by omega, rfl, OwnK.nil _ _ _ _, OwnK.nil _ _ _ _, Apart.nil _, Below.refl _ _⟩
        case round =>
          obtain ⟨k, hk, rfl, hO8, hO9, hAp, hB⟩ := hrel
          have hbs := Lib.hid hB.out.size
          have hl8 : Hid (((xorL 54 K).take k).length = k) := by show _ = _; rw [List.length_take, xorL_len, HKl.out]; omega
          have hl9 : Hid (((xorL 92 K).take k).length = k) := by show _ = _; rw [List.length_take, xorL_len, HKl.out]; omega
          by_cases hlt2 : k < 64
          · have gc : wr.cell? ⟨g5, k, none⟩ = some (.int .u8 (K.getD k 0)) := by rw [← HCL.out k hlt2]; exact hB.out.cell (p := ⟨g5, k, none⟩) hg5
            have he8 := take_snoc_xor 54 K k (by rw [HKl.out]; exact hlt2)
            have he9 := take_snoc_xor 92 K k (by rw [HKl.out]; exact hlt2)
            have hbk := hKb.getD k
            obtain ⟨y, hy⟩ : ∃ y, y = K.getD k 0 := ⟨_, rfl⟩
            rw [← hy] at gc he8 he9 hbk
            obtain ⟨hbk0, hbk1⟩ := hbk
            clear hy
            go_wp2_with (first
              | (at_builtin; refine wpList_append_litW rfl (.tmp 41) (.tmp 47) .u8 24 5 1 Tryd.underlying24 info_b rfl w6.heap.size _ ((xorL 54 K).take k) [bits .xor .u8 y 54] _ rfl 1 1 rfl rfl rfl hO8.out (by rw [hl8.out]; omega) (by rw [hl8.out]; omega) hbs.out ?_; intro v1 w1 ho1 hg1 hw1; have hb1 := Lib.hid (hg1.out.below hO8.out hbs.out); have hbs1 := Lib.hid (Nat.le_trans hbs.out hb1.out.size); have gc1 : w1.cell? ⟨g5, k, none⟩ = some (.int .u8 y) := gc ▸ hb1.out.cell (p := ⟨g5, k, none⟩) hg5; have hO9' := Lib.hid (hg1.out.apart hO9.out hAp.out); have hAp' := Lib.hid (hAp.out.whither hw1.out hO9.out))
              | (at_builtin; refine wpList_append_litW rfl (.tmp 49) (.tmp 55) .u8 24 5 1 Tryd.underlying24 info_b rfl w6.heap.size _ ((xorL 92 K).take k) [bits .xor .u8 y 92] _ rfl 1 1 rfl rfl rfl hO9'.out (by rw [hl9.out]; omega) (by rw [hl9.out]; omega) hbs1.out ?_; intro v2 w2 ho2 hg2 hw2)
              | fail)
            have F8 := hg2.out.apart ho1.out hAp'.out.symm
            have F9 := ho2.out
            have FA := (hAp'.out.symm.whither hw2.out ho1.out).symm
            have FB := (hB.out.trans hb1.out).trans (hg2.out.below hO9'.out hbs1.out)
            rw [he8] at F8
            rw [he9] at F9
            go_roundw
            case rel => exact ⟨k + 1, by omega, by go_num, F8, F9, FA, FB⟩
            case measure => simp [intOf]; omega
          · have hk64 : k = 64 := by omega
            have F8 := hO8.out
            have F9 := hO9.out
            rw [List.take_of_length_le (by rw [xorL_len, HKl.out]; omega)] at F8 F9
            have HI : Hid ((xorL 54 K).length = 64) := by show _ = _; rw [xorL_len, HKl.out]
            have HO : Hid ((xorL 92 K).length = 64) := by show _ = _; rw [xorL_len, HKl.out]
            have hIb := xorL_bytes 54 K
            have hOb := xorL_bytes 92 K
            have HM1 := HMAC.out
            obtain ⟨inn, hinn⟩ : ∃ p, p = xorL 54 K := ⟨_, rfl⟩
            obtain ⟨out, hout⟩ : ∃ p, p = xorL 92 K := ⟨_, rfl⟩
            rw [← hinn] at F8 HI hIb HM1
            rw [← hout] at F9 HO hOb HM1
            have HS1 : Hid ((sumOf (inn ++ bs)).length = 32) := sumOf_len _
            have hS1b := sumOf_bytes (inn ++ bs)
            have hal : (inn ++ bs).length = 64 + n2 := by rw [List.length_append, HI.out, HBL.out]
            have hab := hIb.append HB.out
            have cs1 := fun w A c h => cs w A (64 + n2) c (inn ++ bs) (by omega) h
            obtain ⟨s1, hs1⟩ : ∃ p, p = sumOf (inn ++ bs) := ⟨_, rfl⟩
            rw [← hs1] at HS1 hS1b cs1 HM1
            have hal2 : (out ++ s1).length = 96 := by rw [List.length_append, HO.out, HS1.out]
            have hab2 := hOb.append hS1b
            have cs2 := fun w A c h => cs w A 96 c (out ++ s1) (by omega) h
            rw [← HM1] at cs2
            have HF8 := Lib.hid F8
            have HF9 := Lib.hid F9
            have HAL := Lib.hid hal
            have HAL2 := Lib.hid hal2
            have A4r := Lib.hid (A46.out.over hB.out)
            have Br := Lib.hid (step B6.out hB.out)
            have H2r := Lib.hid (HH2.out.over Br.out)
            obtain ⟨w7, hw7⟩ : ∃ x, x = wr := ⟨_, rfl⟩
            rw [← hw7] at HF8 HF9 A4r Br H2r hbs hB ⊢
            clear hw7 hinn hout hs1 HM1 hal hal2 F8 F9 hO8 hO9 hl8 hl9 A46 B6 HMAC cs
            go_wp2_with (first
              | (at_builtin; refine wpList_append_bytes rfl (.tmp 57) (.tmp 58) rfl w6.heap.size _ inn rfl HF8.out _ A2 n2 c2 bs rfl H2r.out (by rw [HI.out, HBL.out]; omega) hbs.out ?_; intro v8 w8 o8 b8 g8; have hO9' := Lib.hid (HF9.out.grown g8 hAp.out); obtain ⟨A8, c8, rfl, h8⟩ := o8.out.holds hab (by rw [HAL.out]; omega); rw [HAL.out] at h8 ⊢; have H8 := Lib.hid h8; have B8 := Lib.hid (Br.out.trans (b8.mono (Nat.le_trans hw4 hbs4.out))); have A48 := Lib.hid (A4r.out.below b8 (Nat.lt_of_lt_of_le s4 hbs4.out)); have Q8 := Lib.hid (hB.out.trans b8); clear g8 o8 h8 b8)
              | fail)
            refine (cs1 _ _ _ H8.out).out.mono ?_
            rintro e w9 ⟨rfl, b9⟩
            have O99 := Lib.hid (hO9'.out.below b9)
            have A49 := Lib.hid (A48.out.over b9)
            have B9 := Lib.hid (step B8.out b9)
            have Q9 := Lib.hid (Q8.out.trans (b9.mono Q8.out.size))
            clear b9 hO9' A48 B8 Q8 H8 cs1 H2r A4r Br HF8 HF9 hB
            go_wp2_with (first
              | ((with_reducible show wpList _ _ _ (⟨some 11, _, _, _, _, _⟩ :: _) _ _); refine wpList_alloc_arr rfl _ rfl .u8 X 32 HX1 ?_; intro g11 w10 e10 s10 A10 b10)
              | ((with_reducible show wpList _ _ _ (⟨none, .store _ (.tmp 11) _, _, _, _, _⟩ :: _) _ _); refine wpList_store_arr rfl _ (.tmp 11) (.tmp 61) rfl g11 rfl .u8 _ _ s1 rfl A10 32 size_o HX HS1 ?_; intro w11 A11 o11 s11)
              | fail)
            have q9 := Q9.out.size
            have d9 := B9.out.size
            have b11 : Below w9.heap.size w9 w11 := b10.out.trans (o11.out.below e10)
            have O911 := Lib.hid (O99.out.below b11)
            have A411 := Lib.hid (A49.out.over b11)
            have B11 := Lib.hid (step B9.out b11)
            have Q11 := Lib.hid (Q9.out.trans (b11.mono q9))
            have hg4w6 : g4 < w6.heap.size := Nat.lt_of_lt_of_le s4 hbs4.out
            have hT : (79 : TypeId) ≠ 5 := by decide
            have hq11 := Q11.out.size
            have d6 : w.heap.size ≤ w6.heap.size := Nat.le_trans hw4 hbs4.out
            clear O99 A49 B9 Q9 b11 b10 o11 A10 q9 d9 e10 s10
            go_loopw [9, 12] (fun v9 i wr => ∃ k : Nat, k ≤ 32 ∧ i = .int .i64 k ∧ Hid (OwnK .u8 5 wr w6.heap.size v9 (out ++ s1.take k)) ∧ Hid (Arr wr g11 .u8 79 s1) ∧ Hid (Below w6.heap.size w11 wr)) (fun _ i _ => 32 - (intOf i).toNat)
            case atStart => exact ⟨0, by omega, rfl, by rw [List.take_zero, List.append_nil]; exact O911, A11, Below.refl _ _⟩
            case round =>
              obtain ⟨k, hk, rfl, hO9, hA, hB⟩ := hrel
              have hbs9 : Hid (w6.heap.size ≤ wr.heap.size) := Nat.le_trans hq11 hB.out.size
              have hl9 : Hid ((out ++ s1.take k).length = 64 + k) := by show _ = _; rw [List.length_append, HO.out, List.length_take, HS1.out]; omega
              by_cases hlt3 : k < 32
              · have gc := hA.out.cell (i := k) (by rw [HS1.out]; exact hlt3)
                have he := take_snoc s1 k (by rw [HS1.out]; exact hlt3)
                have hbk := hS1b.getD k
                obtain ⟨y, hy⟩ : ∃ y, y = s1.getD k 0 := ⟨_, rfl⟩
                rw [← hy] at gc he hbk
                obtain ⟨hbk0, hbk1⟩ := hbk
                clear hy
                go_wp2_with (first
                  | (at_builtin; refine wpList_append_lit rfl (.tmp 66) (.tmp 70) .u8 24 5 1 Tryd.underlying24 info_b rfl w6.heap.size _ (out ++ s1.take k) [y] _ rfl 1 1 rfl rfl rfl hO9.out (by rw [hl9.out]; omega) (by rw [hl9.out]; omega) hbs9.out ?_; intro v1 w1 ho1 hg1)
                  | fail)
                have F9 := ho1.out
                rw [List.append_assoc, he] at F9
                have FA := hA.out.grew hg1.out hO9.out hT
                have FB := hB.out.trans (hg1.out.below hO9.out hbs9.out)
                go_roundw
                case rel => exact ⟨k + 1, by omega, by go_num, F9, FA, FB⟩
                case measure => simp [intOf]; omega
              · have hk32 : k = 32 := by omega
                have F9 : Own wr w6.heap.size u9 (out ++ s1) := by
                  have h0 := hO9.out
                  rwa [List.take_of_length_le (by rw [HS1.out]; omega)] at h0
                obtain ⟨A9, c9, rfl, h9⟩ := F9.holds hab2 (by rw [HAL2.out]; omega)
                rw [HAL2.out] at h9 ⊢
                have H9 := Lib.hid h9
                have A4f := Lib.hid (A411.out.below hB.out hg4w6)
                have Bf := Lib.hid (B11.out.trans (hB.out.mono d6))
                clear h9 F9 hO9 hA hB hl9 A411 B11 Q11 O911 A11
                go_wp2_with fail
                refine (cs2 _ _ _ H9.out).out.mono ?_
                rintro e w12 ⟨rfl, b12⟩
                have A412 := Lib.hid (A4f.out.over b12)
                have B12 := Lib.hid (step Bf.out b12)
                clear b12 A4f Bf H9
                go_wp2_with (first
                  | ((with_reducible show wpList _ _ _ (⟨none, .store _ (.tmp 4) _, _, _, _, _⟩ :: _) _ _); refine wpList_store_arr rfl _ (.tmp 4) (.tmp 73) rfl g4 rfl .u8 _ _ R rfl A412 32 size_o HX HR ?_; intro w19 A19 o19 s19)
                  | fail)
                refine bodyPost_ret (v := .agg (R.map (Value.int .u8)).toArray) ?_ rfl ⟨rfl, B12.out.trans (o19.out.below e4)⟩
                exact results_cell_row rfl _ _ g4 _ _ (0, 0) _ rfl A19.out Tryd.underlying79 rfl (by rw [size_o]; have := HR.out; simp [this])
end Go.Proofs.YtgfflnjggnadpaaDoor

namespace Go.Proofs.YtgfflnjggnadpaaDoor
set_option linter.all false
set_option maxRecDepth 100000
open Go.RowKit
section
variable {k : IntKind} {e : TypeId} {w : World} {base g n c : Nat} {xs : List Int}
end
/-- a message whose sixteen bytes are overwritten by those of s, behind k of them -/
def overRow (m s : List Int) (k : Nat) : List Int := m.take 48 ++ s.take k ++ m.drop (48 + k)
theorem overRow_zero (m s : List Int) : overRow m s 0 = m := by simp [overRow]
theorem overRow_set (m s : List Int) (k : Nat) (hm : 64 ≤ m.length) (hs : s.length = 16) (hk : k < 16) : (overRow m s k).set (48 + k) (s.getD k 0) = overRow m s (k + 1) := by
  have hl : (m.take 48 ++ s.take k).length = 48 + k := by simp [hs]; omega
  have hd : 48 + k < m.length := by omega
  have hx : k < s.length := by omega
  unfold overRow
  rw [List.set_append_right _ _ (by omega), hl, Nat.sub_self, List.drop_eq_getElem_cons hd, List.set_cons_zero, List.take_succ_eq_append_getElem hx, show s.getD k 0 = s[k] by simp [hx]]
  simp only [List.append_assoc, List.cons_append, List.nil_append, Nat.add_assoc]
end Go.Proofs.YtgfflnjggnadpaaDoor

namespace Go.Proofs.YtgfflnjggnadpaaDoor
set_option linter.all false
set_option maxRecDepth 100000
open Go.RowKit
theorem getD_zeros (n k : Nat) : (List.replicate n (0 : Int)).getD k 0 = 0 := by
  by_cases h : k < n
  · simp [List.getD_eq_getElem?_getD, h]
  · rw [List.getD_eq_getElem?_getD, List.getElem?_eq_none (by simp; omega)]
    rfl
theorem overRow_blank (m : List Int) : overRow m (List.replicate 16 0) 16 = blankL m := by
  unfold overRow blankL
  rw [List.take_of_length_le (l := List.replicate 16 0) (by rw [List.length_replicate]; omega)]
set_option maxRecDepth 100000 in
set_option maxHeartbeats 4000000 in
theorem Rsignature_any (w : World) (A : Option Addr) (n c : Nat) (ks : List Int) (hn : n ≤ 140737488355100) (h : Holds w w.heap.size A n c ks) (A2 : Option Addr) (n2 c2 : Nat) (ms : List Int) (h64 : 64 ≤ n2) (hn2 : n2 ≤ 140737488355100) (h2 : Holds w w.heap.size A2 n2 c2 ms) :
    Calls Tryd.prog 54 #[.slice A n c, .slice A2 n2 c2] w fun e w' => e = .returned (.agg ((sigL ks ms).map (Value.int .u8)).toArray) ∧ Below w.heap.size w w' := by
  have hml := macL_len ks (blankL ms)
  have hmb := macL_bytes ks (blankL ms)
  have HR : Hid ((sigL ks ms).length = 16) := sigL_len _ _
  have chf := fun w => half_any w (macL ks (blankL ms)) hml hmb
  have hde : sigL ks ms = (macL ks (blankL ms)).take 16 := rfl
  rw [← hde] at chf
  have CHF := fun w => Lib.hid (chf w)
  have cm := fun w h A2 c2 h2 => Lib.hid (RMac_any w A n c ks hn h A2 n2 c2 (blankL ms) hn2 h2)
  obtain ⟨R, hR⟩ : ∃ R, R = sigL ks ms := ⟨_, rfl⟩
  rw [← hR] at CHF HR ⊢
  obtain ⟨P, hP⟩ : ∃ P, P = macL ks (blankL ms) := ⟨_, rfl⟩
  rw [← hP] at cm CHF
  have hbb := blankL_bytes ms h2.byte
  have hbl : (blankL ms).length = n2 := by rw [blankL_len ms (by rw [h2.len]; exact h64), h2.len]
  have hob := overRow_blank ms
  obtain ⟨D, hD⟩ : ∃ D, D = blankL ms := ⟨_, rfl⟩
  rw [← hD] at cm hbb hbl hob
  obtain ⟨Z, hZ⟩ : ∃ Z : List Int, Z = List.replicate 16 0 := ⟨_, rfl⟩
  have HZ := len0 16
  have hz1 := zero_g
  have hzg : ∀ k, Z.getD k 0 = 0 := fun k => by rw [hZ]; exact getD_zeros 16 k
  rw [← hZ] at HZ hz1 hob
  have HZ1 := Lib.hid hz1
  have HZG := Lib.hid hzg
  have HOB := Lib.hid hob
  have HBL := Lib.hid hbl
  have HL2 := Lib.hid h2.len
  have HH := Lib.hid h
  have HH2 := Lib.hid h2
  clear hR hP hD hz1 hZ h h2 hml hmb hde chf hob hbl hzg
  go_enter Tryd.func54, Tryd.ntmps54
  go_wp2_with (first
    | ((with_reducible show wpList _ _ _ (⟨some 4, _, _, _, _, _⟩ :: _) _ _); refine wpList_alloc_arr rfl _ rfl .u8 Z 16 HZ1 ?_; intro g4 w4 e4 s4 A4 b4)
    | (at_builtin; refine wpList_append_bytes rfl (.tmp 7) (.tmp 8) rfl w4.heap.size _ [] rfl (Own.nil _ _) _ A2 n2 c2 ms rfl (HH2.out.over b4.out) (by rw [HL2.out]; simp; omega) (Nat.le_refl _) ?_; intro v5 w5 o5 b5 _; rw [List.nil_append] at o5)
    | fail)
  obtain ⟨_, _, c5, rfl, hl5, _, _, _, hcells⟩ := OwnK.open (show OwnK .u8 5 w5 w4.heap.size v5 ms from o5.out)
  rw [HL2.out] at hl5
  subst hl5
  obtain ⟨g5, rfl, hg5, _, _⟩ := hcells (by omega)
  have B5 := Lib.hid b5
  have hn2i : (64 : Int) ≤ (n2 : Int) := by omega
  clear hcells b5
  go_loopw [6] (fun i wr => ∃ j : Nat, j ≤ 16 ∧ i = .int .i64 ((48 + j : Nat) : Int) ∧ Hid (OwnK .u8 5 wr w4.heap.size (.slice (some ⟨g5, 0, none⟩) n2 c5) (overRow ms Z j)) ∧ Hid (Below w4.heap.size w5 wr)) (fun i _ => 64 - (intOf i).toNat)
  case atStart => exact ⟨0, by omega, rfl, by rw [overRow_zero]; exact o5, Below.refl _ _⟩
  case round =>
    obtain ⟨j, hj, rfl, hO, hB⟩ := hrel
    by_cases hlt : j < 16
    · have gc := hO.out.cell (i := 48 + j) (by omega)
      have gf := hO.out.frozen (48 + j)
      have hS := hO.out.set (48 + j) (Z.getD j 0)
      rw [overRow_set ms Z j (by rw [HL2.out]; omega) HZ.out hlt, HZG.out j] at hS
      obtain ⟨old, hold⟩ : ∃ old, old = (overRow ms Z j).getD (48 + j) 0 := ⟨_, rfl⟩
      rw [← hold] at gc
      have HS := Lib.hid hS
      have hBS := Lib.hid (show Below w4.heap.size w5 (wr.setCell ⟨g5, 48 + j, none⟩ (.int .u8 0)) from hB.out.setCell hg5 _)
      obtain ⟨q, hq⟩ : ∃ q, q = 48 + j := ⟨_, rfl⟩
      rw [← hq] at gc gf HS hBS ⊢
      have HQ := Lib.hid hq
      have hqb : q < 64 := by omega
      clear hold hS hO hq
      go_wp2_with fail
      go_roundw
      case rel => exact ⟨j + 1, by omega, by rw [show 48 + (j + 1) = q + 1 by have := HQ.out; omega]; go_num, HS, hBS⟩
      case measure => simp [intOf]; omega
    · have hj16 : j = 16 := by omega
      have hF : Own wr w4.heap.size (.slice (some ⟨g5, 0, none⟩) n2 c5) D := by
        have h0 := hO.out
        rwa [hj16, HOB.out] at h0
      obtain ⟨_, _, e0, h5⟩ := hF.holds hbb (by rw [HBL.out]; omega)
      rw [HBL.out] at e0 h5
      simp only [Value.slice.injEq, true_and] at e0
      obtain ⟨rfl, rfl⟩ := e0
      have H5 := Lib.hid h5
      have hs4w := b4.out.size
      have A4r := Lib.hid ((A4.out.over B5.out).below hB.out s4)
      have Br := Lib.hid ((step b4.out B5.out).trans (hB.out.mono hs4w))
      rw [hj16]
      clear h5 hF hO hB
      go_wp2_with fail
      refine (cm _ (HH.out.over Br.out) _ _ H5.out).out.mono ?_
      rintro e w11 ⟨rfl, b11⟩
      have A411 := Lib.hid (A4r.out.over b11)
      have B11 := Lib.hid (step Br.out b11)
      clear b11 A4r Br H5
      go_wp2_with fail
      refine (CHF _).out.mono ?_
      rintro e w12 ⟨rfl, b12⟩
      have A412 := Lib.hid (A411.out.over b12)
      have B12 := Lib.hid (step B11.out b12)
      clear b12 A411 B11
      go_wp2_with (first
        | ((with_reducible show wpList _ _ _ (⟨none, .store _ (.tmp 4) _, _, _, _, _⟩ :: _) _ _); refine wpList_store_arr rfl _ (.tmp 4) (.tmp 20) rfl g4 rfl .u8 _ _ R rfl A412 16 size_g HZ HR ?_; intro w19 A19 o19 s19)
        | fail)
      refine bodyPost_ret (v := .agg (R.map (Value.int .u8)).toArray) ?_ rfl ⟨rfl, B12.out.trans (o19.out.below e4)⟩
      exact results_cell_row rfl _ _ g4 _ _ (0, 0) _ rfl A19.out Tryd.underlying47 rfl (by rw [size_g]; have := HR.out; simp [this])
set_option maxRecDepth 100000 in
set_option maxHeartbeats 4000000 in
theorem RSign_any (w : World) (A : Option Addr) (n c : Nat) (ks : List Int) (hn : n ≤ 140737488355100) (h : Holds w w.heap.size A n c ks) (A2 : Option Addr) (n2 c2 : Nat) (ms : List Int) (hn2 : n2 ≤ 140737488355100) (h2 : Holds w w.heap.size A2 n2 c2 ms) :
    Calls Tryd.prog 40 #[.slice A n c, .slice A2 n2 c2] w (SignPost w ks ms) := by
  have HL2 := Lib.hid h2.len
  by_cases hlt : n2 < 64
  · have hq : ∀ e w', (e = .returned (.tuple #[.slice none 0 0, .int .i64 2]) ∧ w = w') → SignPost w ks ms e w' := by
      rintro e w' ⟨rfl, rfl⟩
      refine ⟨.slice none 0 0, ?_, ?_, Below.refl _ _⟩
      · unfold signErr; rw [if_pos (by rw [HL2.out]; exact hlt)]
      · unfold signO; rw [if_pos (by rw [HL2.out]; exact hlt)]; exact Own.nil _ _
    have HQ := Lib.hid hq
    clear hq
    go_enter Tryd.func40, Tryd.ntmps40
    go_wp2_with fail
    go_ret2
    exact HQ.out _ _ ⟨rfl, rfl⟩
  · have h64 : 64 ≤ n2 := by omega
    have hov : overRow ms (sigL ks ms) 16 = signL ks ms := by
      unfold overRow signL
      rw [List.take_of_length_le (l := sigL ks ms) (by rw [sigL_len]; omega)]
    have hq : ∀ e w', (∃ v, e = .returned (.tuple #[v, .int .i64 0]) ∧ Own w' w.heap.size v (overRow ms (sigL ks ms) 16) ∧ Below w.heap.size w w') → SignPost w ks ms e w' := by
      rintro e w' ⟨v, rfl, ho, hb⟩
      rw [hov] at ho
      refine ⟨v, ?_, ?_, hb⟩
      · unfold signErr; rw [if_neg (by rw [HL2.out]; exact hlt)]
      · unfold signO; rw [if_neg (by rw [HL2.out]; exact hlt)]; exact ho
    have cg := fun w h h2 => Lib.hid (Rsignature_any w A n c ks hn h A2 n2 c2 ms h64 hn2 h2)
    have HR : Hid ((sigL ks ms).length = 16) := sigL_len _ _
    have hRb := sigL_bytes ks ms
    clear hov
    obtain ⟨R, hR⟩ : ∃ R, R = sigL ks ms := ⟨_, rfl⟩
    rw [← hR] at cg HR hRb hq
    have HQ := Lib.hid hq
    obtain ⟨Z, hZ⟩ : ∃ Z : List Int, Z = List.replicate 16 0 := ⟨_, rfl⟩
    have HZ := len0 16
    have hz1 := zero_g
    rw [← hZ] at HZ hz1
    have HZ1 := Lib.hid hz1
    have HH := Lib.hid h
    have HH2 := Lib.hid h2
    have hge : (64 : Int) ≤ (n2 : Int) := by omega
    clear hq hR hZ hz1 h h2
    go_enter Tryd.func40, Tryd.ntmps40
    go_wp2_with fail
    refine (cg _ HH.out HH2.out).out.mono ?_
    rintro e w1 ⟨rfl, b1⟩
    have B1 := Lib.hid b1
    clear b1
    go_wp2_with (first
      | ((with_reducible show wpList _ _ _ (⟨some 6, _, _, _, _, _⟩ :: _) _ _); refine wpList_alloc_arr rfl _ rfl .u8 Z 16 HZ1 ?_; intro g6 w5 e5 s5 A5 b5)
      | ((with_reducible show wpList _ _ _ (⟨none, .store _ (.tmp 6) _, _, _, _, _⟩ :: _) _ _); refine wpList_store_arr rfl _ (.tmp 6) (.tmp 14) rfl g6 rfl .u8 _ _ R rfl A5 16 size_g HZ HR ?_; intro w6 A6 o6 s6; have hs1 := B1.out.size; have B6 : Hid (Below w.heap.size w w6) := (step B1.out b5.out).trans (o6.out.below (by omega)))
      | (at_builtin; refine wpList_append_bytes rfl (.tmp 15) (.tmp 16) rfl w6.heap.size _ [] rfl (Own.nil _ _) _ A2 n2 c2 ms rfl (HH2.out.over B6.out) (by rw [HL2.out]; simp; omega) (Nat.le_refl _) ?_; intro v7 w7 o7 b7 _; rw [List.nil_append] at o7)
      | fail)
    obtain ⟨_, _, c7, rfl, hl7, _, _, _, hcells⟩ := OwnK.open (show OwnK .u8 5 w7 w6.heap.size v7 ms from o7.out)
    rw [HL2.out] at hl7
    subst hl7
    obtain ⟨g7, rfl, hg7, _, _⟩ := hcells (by omega)
    have B7 := Lib.hid b7
    have A67 := Lib.hid (A6.out.over b7)
    have hs6 := B6.out.size
    have l67 : g6 < w6.heap.size := s6
    clear hcells b7 A6 A5 b5 o6
    go_loopw [8] (fun i wr => ∃ j : Nat, j ≤ 16 ∧ i = .int .i64 j ∧ Hid (OwnK .u8 5 wr w6.heap.size (.slice (some ⟨g7, 0, none⟩) n2 c7) (overRow ms R j)) ∧ Hid (Below w6.heap.size w7 wr)) (fun i _ => 16 - (intOf i).toNat)
    case atStart => exact ⟨0, by omega, rfl, by rw [overRow_zero]; exact o7, Below.refl _ _⟩
    case round =>
      obtain ⟨j, hj, rfl, hO, hB⟩ := hrel
      by_cases hlt2 : j < 16
      · have gc := hO.out.cell (i := 48 + j) (by omega)
        have gf := hO.out.frozen (48 + j)
        have gs := (A67.out.below hB.out l67).cell (i := j) (by rw [HR.out]; exact hlt2)
        have hS := hO.out.set (48 + j) (R.getD j 0)
        rw [overRow_set ms R j (by rw [HL2.out]; omega) HR.out hlt2] at hS
        obtain ⟨old, hold⟩ : ∃ old, old = (overRow ms R j).getD (48 + j) 0 := ⟨_, rfl⟩
        rw [← hold] at gc
        have hbk := hRb.getD j
        obtain ⟨y, hy⟩ : ∃ y, y = R.getD j 0 := ⟨_, rfl⟩
        rw [← hy] at gs hS hbk
        obtain ⟨hbk0, hbk1⟩ := hbk
        have HS := Lib.hid hS
        have hBS := Lib.hid (show Below w6.heap.size w7 (wr.setCell ⟨g7, 48 + j, none⟩ (.int .u8 y)) from hB.out.setCell hg7 _)
        clear hold hS hO hy
        go_wp2_with fail
        go_roundw
        case rel => exact ⟨j + 1, by omega, by go_num, HS, hBS⟩
        case measure => simp [intOf]; omega
      · have hj16 : j = 16 := by omega
        have hF : Hid (Own wr w.heap.size (.slice (some ⟨g7, 0, none⟩) n2 c7) (overRow ms R 16)) := by
          have h0 := hO.out
          rw [hj16] at h0
          exact h0.mono hs6
        have Br := Lib.hid ((step B6.out B7.out).trans (hB.out.mono hs6))
        rw [hj16]
        clear hO hB
        go_wp2_with fail
        go_ret2
        exact HQ.out _ _ ⟨_, rfl, hF.out, Br.out⟩
end Go.Proofs.YtgfflnjggnadpaaDoor

namespace Go.Proofs.YtgfflnjggnadpaaDoor
set_option linter.all false
set_option maxRecDepth 100000
open Go.RowKit
set_option linter.unusedVariables false
theorem le_small {f : Int} (h0 : 0 ≤ f) (h1 : f < 256) : le f 4 = [f, 0, 0, 0] := by
  have e1 : f % 256 = f := by omega
  have e2 : f / 256 = 0 := by omega
  show [f % 256, f / 256 % 256, f / 256 / 256 % 256, f / 256 / 256 / 256 % 256] = _
  rw [e1, e2]
  rfl
theorem row_flags {g : Hd} (k : g.ok) (hf : g.fl < 16) (t : List Int) : (putH g ++ t).getD 16 0 = g.fl ∧ (∀ f : Int, 0 ≤ f → f < 256 → (putH g ++ t).set 16 f = setFl (putH g ++ t) f) ∧ setFl (putH g ++ t) g.fl = putH g ++ t := by
  have h6 : (pre g 6).length = 16 := pre_len g 6 (by omega)
  have hl := le_small k.fl.1 (by omega : g.fl < 256)
  have e : putH g ++ t = pre g 6 ++ ([g.fl, 0, 0, 0] ++ (le g.nx 4 ++ restN g ++ t)) := by
    rw [putH_split, hl]
    simp only [List.append_assoc]
  obtain ⟨P, hP⟩ : ∃ P, P = pre g 6 := ⟨_, rfl⟩
  obtain ⟨R, hR⟩ : ∃ R, R = le g.nx 4 ++ restN g ++ t := ⟨_, rfl⟩
  rw [← hP] at h6 e
  rw [← hR] at e
  rw [e]
  have t1 : (P ++ ([g.fl, 0, 0, 0] ++ R)).take 16 = P := List.take_left' h6
  have t2 : (P ++ ([g.fl, 0, 0, 0] ++ R)).drop 20 = R := by rw [← List.append_assoc, List.drop_left' (by rw [List.length_append, h6]; rfl)]
  refine ⟨?_, fun f h0 h1 => ?_, ?_⟩
  · rw [List.getD_eq_getElem?_getD, List.getElem?_append_right (by omega), h6]
    rfl
  · unfold setFl
    rw [t1, t2, le_small h0 h1, List.set_append_right _ _ (by omega), h6, List.append_assoc]
    rfl
  · unfold setFl
    rw [t1, t2, hl, List.append_assoc]
section
variable {w w' : World} {base : Nat} {v : Value} {rs : List PartT} {gb gv n c k : Nat} {p s : PartT}
theorem map_set_same (hk : rs[k]? = some p) (us : List Int) : (rs.set k (p.1, p.2.1, p.2.2.1, us)).map partV = rs.map partV := by
  obtain ⟨h1, h2⟩ := List.getElem?_eq_some_iff.1 hk
  rw [List.map_set]
  have : partV (p.1, p.2.1, p.2.2.1, us) = (rs.map partV)[k]'(by simpa using h1) := by rw [List.getElem_map, h2]; rfl
  rw [this, List.set_getElem_self]
theorem OLst.ne (h : OLst false w base v rs) {i : Nat} {q : PartT} (hi : rs[i]? = some q) (hk : rs[k]? = some p) (hne : i ≠ k) (hp : (partV p).ownBlock = some gb) : (partV q).ownBlock ≠ some gb := by
  obtain ⟨h1, rfl⟩ := List.getElem?_eq_some_iff.1 hi
  obtain ⟨h2, rfl⟩ := List.getElem?_eq_some_iff.1 hk
  have ha := List.pairwise_iff_getElem.1 h.apart
  rcases Nat.lt_or_ge i k with hlt | hge
  · intro hq
    exact ha i k h1 h2 hlt gb hq hp
  · intro hq
    exact ha k i h2 h1 (by omega) gb hp hq
/-- one row is written into -/
theorem OLst.turn (h : OLst false w base v rs) (hO : Only gb w w') (hk : rs[k]? = some p) (hp : (partV p).ownBlock = some gb) (us : List Int) (hown : OwnK .u8 5 w' base (partV p) us) (hx : Bytes us) (hl : us.length ≤ 140737488355328) :
    OLst false w' base v (rs.set k (p.1, p.2.1, p.2.2.1, us)) := by
  have hms := map_set_same hk us
  obtain ⟨_, cs, hcs⟩ := (h.each p (List.mem_of_getElem? hk)).1.1.block hp
  refine ⟨?_, fun q hq => ?_, ?_⟩
  · have h1 : OwnF partV 24 w' base v rs := h.row.keep fun i ds hi hds => hO.rest i fun e => by
      subst e
      rw [hcs] at hds
      simp only [Option.some.injEq, Obj.cells.injEq] at hds
      exact absurd hds.2.1 (by decide)
    unfold OwnF at h1 ⊢
    rw [hms, List.length_set]
    exact h1
  · obtain ⟨i, hi, rfl⟩ := List.mem_iff_getElem.1 hq
    rw [List.getElem_set]
    split
    · exact ⟨OwnB.of_k hown, hx, hl⟩
    · rename_i hne
      have hi' : i < rs.length := by rwa [List.length_set] at hi
      have hgi : rs[i]? = some rs[i] := List.getElem?_eq_getElem hi'
      have h2 := h.each rs[i] (List.getElem_mem hi')
      refine ⟨h2.1.keep fun j cs hj _ => hO.rest j fun e => ?_, h2.2⟩
      subst e
      exact h.ne hgi hk (fun e => hne e.symm) hp hj
  · have ha := h.apart
    have e1 : ∀ l : List PartT, (l.Pairwise fun p q => ∀ i, (partV p).ownBlock = some i → (partV q).ownBlock ≠ some i) ↔ (l.map partV).Pairwise fun a b => ∀ i, a.ownBlock = some i → b.ownBlock ≠ some i := fun l => by rw [List.pairwise_map]
    rw [e1, hms, ← e1]
    exact ha
theorem OLst.blocks (h : OLst false w base v rs) : ∀ q ∈ rs, ∀ i, (partV q).ownBlock = some i → i < w.heap.size := fun q hq i hi => by
  obtain ⟨_, cs, hcs⟩ := (h.each q hq).1.1.block hi
  exact (Array.getElem?_eq_some_iff.1 hcs).1
end
end Go.Proofs.YtgfflnjggnadpaaDoor

namespace Go.Proofs.YtgfflnjggnadpaaDoor
set_option linter.all false
set_option maxRecDepth 100000
open Go.RowKit
set_option linter.unusedVariables false
theorem list_rows {rs : List PartT} {n : Nat} {F : Nat → List Int} (hl : rs.length = n) (h : ∀ i x, rs[i]? = some x → x.2.2.2 = F i) : rowsL rs = (List.range n).map F := by
  subst hl
  apply List.ext_getElem?
  intro i
  by_cases hi : i < rs.length
  · rw [rowsL, List.getElem?_map, List.getElem?_map, List.getElem?_range hi, List.getElem?_eq_getElem hi]
    exact congrArg some (h i rs[i] (List.getElem?_eq_getElem hi))
  · rw [List.getElem?_eq_none (by rw [rowsL, List.length_map]; omega), List.getElem?_eq_none (by simp; omega)]
theorem rows_list {rs : List PartT} {n : Nat} {F : Nat → List Int} (h : rowsL rs = (List.range n).map F) : rs.length = n ∧ ∀ i x, rs[i]? = some x → x.2.2.2 = F i := by
  have hl : rs.length = n := by have := congrArg List.length h; rwa [rowsL, List.length_map, List.length_map, List.length_range] at this
  refine ⟨hl, fun i x hx => ?_⟩
  have hi : i < n := by rw [← hl]; exact (List.getElem?_eq_some_iff.1 hx).1
  have h1 : (rowsL rs)[i]? = some x.2.2.2 := by rw [rowsL, List.getElem?_map, hx]; rfl
  rw [h, List.getElem?_map, List.getElem?_range hi] at h1
  exact (Option.some.inj h1).symm
set_option maxHeartbeats 8000000 in
theorem RSeal_any (w : World) (Ak : Option Addr) (nk ck : Nat) (ks : List Int) (hk : Holds w w.heap.size Ak nk ck ks) (hkn : nk ≤ 140737488355100) (A : Option Addr) (n c : Nat) (ps : List PartT) (h : Lst w w.heap.size A n c ps) (hn : n ≤ 1048576) (hs : ∀ p ∈ ps, p.2.1 ≤ 4294967000) :
    Calls Tryd.prog 24 #[.slice Ak nk ck, .slice A n c] w (SealPost w ks (rowsL ps)) := by
  have CPS := parts_any w A n c ps h hn hs
  unfold PartsPost at CPS
  unfold SealPost
  have hl : (rowsL ps).length = n := by rw [rowsL, List.length_map]; exact h.row.len
  have hby : ∀ m ∈ rowsL ps, Bytes m ∧ m.length ≤ 4294967000 := fun m hm => by
    obtain ⟨p, hp, rfl⟩ := List.mem_map.1 hm
    have h1 := h.each p hp
    exact ⟨h1.byte, by rw [h1.len]; exact hs p hp⟩
  have HKL := Lib.hid hk.len
  by_cases he : chainErr (rowsL ps) = 0
  · obtain ⟨hnil, h8, hall⟩ := chainErr_ok he
    rw [hl] at h8
    have hn0 : 0 < n := by
      rcases Nat.eq_zero_or_pos n with h0 | h0
      · exact absurd (List.eq_nil_of_length_eq_zero (hl.trans h0)) hnil
      · exact h0
    have hsf := seal_flat ks _ he
    have HSM0 : Hid (∀ i, i < n → 64 ≤ (sealX [] (rowsL ps) i).length ∧ (sealX [] (rowsL ps) i).length ≤ 4294967100 ∧ Bytes (sealX [] (rowsL ps) i)) := fun i hi => by
      have := seal_small [] _ he hby i (by rw [hl]; exact hi)
      exact ⟨this.1, this.2.1, this.2.2.1⟩
    have HSM1 : Hid (∀ i, i < n → (sealX ks (rowsL ps) i).length ≤ 4294967100 ∧ Bytes (sealX ks (rowsL ps) i)) := fun i hi => by
      have := seal_small ks _ he hby i (by rw [hl]; exact hi)
      exact ⟨this.2.1, this.2.2.1⟩
    have HFB : Hid (((List.range n).map (sealX ks (rowsL ps))).flatten.length ≤ 140737488355328) := by
      show _ ≤ _
      have h1 := flatten_bound (l := (List.range n).map (sealX ks (rowsL ps))) (B := 4294967100) (fun x hx => by
        obtain ⟨i, hi, rfl⟩ := List.mem_map.1 hx
        exact (HSM1.out i (List.mem_range.1 hi)).1)
      rw [List.length_map, List.length_range] at h1
      have : n * 4294967100 ≤ 8 * 4294967100 := Nat.mul_le_mul_right _ h8
      omega
    have HFM : Hid (∀ i, i < n → ∃ (g : Hd) (t : List Int), g.ok ∧ g.fl < 16 ∧ sealX [] (rowsL ps) i = putH g ++ t ∧ getErrH (sealX [] (rowsL ps) i) 0 = 0 ∧ getOfH (sealX [] (rowsL ps) i) 0 = g ∧ (¬ ks = [] → sealX ks (rowsL ps) i = signL ks (setFl (sealX [] (rowsL ps) i) (flS g.fl)))) := by
      intro i hi
      have hm : (rowsL ps).getD i [] ∈ rowsL ps := by
        rw [List.getD_eq_getElem?_getD, List.getElem?_eq_getElem (by rw [hl]; exact hi)]
        exact List.getElem_mem _
      have h1 := hby _ hm
      have h2 := hall _ hm
      have hpf := pad_facts ((rowsL ps).getD i []).length
      obtain ⟨g, k1, m1, e1, _, f1⟩ := sealC_form [] (decide (i + 1 = (rowsL ps).length)) h1.1 h2 (by omega)
      have hg := get_begin k1 m1 (tailC (decide (i + 1 = (rowsL ps).length)) ((rowsL ps).getD i []))
      rw [← e1] at hg
      rw [if_pos rfl] at f1
      refine ⟨g, _, k1, (may_parts m1).2.1, e1, hg.1, hg.2, fun hke => ?_⟩
      unfold sealX
      show sealC ks _ _ = signL ks (setFl (sealC [] _ _) _)
      rw [f1]
      unfold sealC
      rw [if_neg hke, if_pos rfl]
    rw [he, hsf, hl]
    have HC : Hid (Calls Tryd.prog 30 #[.slice A n c] w fun e w' => (∃ v qs, e = .returned (.tuple #[v, .int .i64 0]) ∧ OLst false w' w.heap.size v qs ∧ rowsL qs = (List.range n).map (sealX [] (rowsL ps))) ∧ Below w.heap.size w w') := by
      refine CPS.mono ?_
      rintro e w' ⟨hh | ⟨_, h1⟩, hb⟩
      · exact absurd he hh.1
      · rw [hl] at h1
        exact ⟨h1, hb⟩
    have HKK := Lib.hid hk
    have CJN : Hid (∀ (w1 : World) (g1 c1 : Nat) (rs : List PartT), Lst w1 w1.heap.size (some ⟨g1, 0, none⟩) n c1 rs → rowsL rs = (List.range n).map (sealX ks (rowsL ps)) → Calls Tryd.prog 31 #[.slice (some ⟨g1, 0, none⟩) n c1] w1 (fun e w' => ∃ v, e = .returned v ∧ OwnZ .u8 5 w' w1.heap.size v ((List.range n).map (sealX ks (rowsL ps))).flatten ∧ Below w1.heap.size w1 w')) := by
      intro w1 g1 c1 rs l1 hr
      have CJ := joined_any w1 _ n c1 rs l1 (by omega) (by rw [hr]; exact HFB.out)
      unfold JoinedPost at CJ
      rw [hr] at CJ
      exact CJ
    obtain ⟨FR, hFR⟩ : ∃ FR, FR = ((List.range n).map (sealX ks (rowsL ps))).flatten := ⟨_, rfl⟩
    simp only [← hFR] at CJN
    rw [← hFR]
    have HZ := Lib.hid (hcells_len zeroHd_ok)
    have ZH := Lib.hid zero_hd
    obtain ⟨zs, hzs⟩ : ∃ zs, zs = hcells zeroHd := ⟨_, rfl⟩
    rw [← hzs] at HZ ZH
    clear CPS h hs hby he hsf hnil hall hzs hFR HFB hk hl
    by_cases h0 : nk = 0
    · subst h0
      have hke : ks = [] := List.eq_nil_of_length_eq_zero HKL.out
      subst hke
      go_enter Tryd.func24, Tryd.ntmps24
      go_wp2_with fail
      refine HC.out.mono ?_
      rintro e w1 ⟨⟨v1, qs, rfl, o1, hq1⟩, b1⟩
      obtain ⟨A1, n1, c1, rfl, l1⟩ := o1.lst
      obtain rfl : n1 = n := by
        have h1 := l1.row.len
        have h2 := (rows_list hq1).1
        omega
      obtain ⟨g1, o1', e1, _⟩ := l1.row.cells hn0
      have e2 : o1' = 0 := by
        obtain ⟨_, _, _, e3, _, _, _, _, hcc⟩ := o1.row.open
        injection e3 with e4 e5 e6
        obtain ⟨g', e7, _⟩ := hcc (by omega)
        rw [← e4, e1] at e7
        injection e7 with e7
        injection e7
      subst e1 e2
      have CJ := Lib.hid (CJN.out w1 g1 c1 qs l1 hq1)
      have B1 := Lib.hid b1
      clear l1 o1 hq1 b1 HC CJN
      go_wp2_with fail
      refine CJ.out.mono ?_
      rintro e w2 ⟨v2, rfl, o2, b2⟩
      have O2 := Lib.hid (o2.mono B1.out.size)
      have L2 := Lib.hid (step B1.out b2)
      clear o2 b2
      go_wp2_with fail
      go_ret2
      exact ⟨_, rfl, O2.out, L2.out⟩
    · have hke : ¬ ks = [] := fun e => h0 (by have := HKL.out; rw [e] at this; exact this.symm)
      have hz : ((nk : Int) == 0) = false := by simp; omega
      have CSG : Hid (∀ (w : World) (b2 n2 c2 : Nat) (ms : List Int), Holds w w.heap.size Ak nk ck ks → Holds w w.heap.size (some ⟨b2, 0, none⟩) n2 c2 ms → 64 ≤ n2 → n2 ≤ 4294967100 → Calls Tryd.prog 40 #[.slice Ak nk ck, .slice (some ⟨b2, 0, none⟩) n2 c2] w (fun e w' => ∃ v, e = .returned (.tuple #[v, .int .i64 0]) ∧ Own w' w.heap.size v (signL ks ms) ∧ Below w.heap.size w w')) := by
        intro w b2 n2 c2 ms hk h2 h3 h4
        have := RSign_any w Ak nk ck ks hkn hk _ n2 c2 ms (by omega) h2
        unfold SignPost signErr signO at this
        rw [h2.len, if_neg (by omega), if_neg (by omega)] at this
        exact this
      clear h0
      go_enter Tryd.func24, Tryd.ntmps24
      go_wp2_with fail
      refine HC.out.mono ?_
      rintro e w1 ⟨⟨v1, qs, rfl, o1, hq1⟩, b1⟩
      obtain ⟨A1, n1, c1, rfl, l1⟩ := o1.lst
      obtain rfl : n1 = n := by
        have h1 := l1.row.len
        have h2 := (rows_list hq1).1
        omega
      obtain ⟨gv, o1', e1, _⟩ := l1.row.cells hn0
      have e2 : o1' = 0 := by
        obtain ⟨_, _, _, e3, _, _, _, _, hcc⟩ := o1.row.open
        injection e3 with e4 e5 e6
        obtain ⟨g', e7, _⟩ := hcc (by omega)
        rw [← e4, e1] at e7
        injection e7 with e7
        injection e7
      subst e1 e2
      have O1 := Lib.hid o1
      have HR1 := Lib.hid (rows_list hq1)
      have B1 := Lib.hid b1
      clear l1 o1 hq1 b1 HC
      go_wp2_with fail
      go_loopw [8] (fun i wr => ∃ k : Nat, k ≤ n1 ∧ i = .int .i64 k ∧ (∃ rs, Hid (OLst false wr w.heap.size (.slice (some ⟨gv, 0, none⟩) n1 c1) rs) ∧ Hid (rs.length = n1) ∧ Hid (∀ i x, rs[i]? = some x → x.2.2.2 = if i < k then sealX ks (rowsL ps) i else sealX [] (rowsL ps) i)) ∧ Hid (Below w.heap.size w wr)) (fun i _ => n1 - (intOf i).toNat)
      case atStart => exact ⟨0, by omega, rfl, ⟨qs, O1, HR1.out.1, fun i x hx => by rw [if_neg (by omega)]; exact HR1.out.2 i x hx⟩, B1⟩
      case round =>
        clear O1 HR1 B1
        obtain ⟨k, hk, rfl, ⟨rs, hO, hrl, hrx⟩, LW⟩ := hrel
        by_cases hlt : k < n1
        · have hki : k < rs.length := by rw [hrl.out]; exact hlt
          have hp : rs[k]? = some rs[k] := List.getElem?_eq_getElem hki
          have hxs := hrx.out k _ hp
          rw [if_neg (by omega)] at hxs
          have hown := (hO.out.each rs[k] (List.getElem_mem hki)).1.1
          have gcell : wr.cell? ⟨gv, k, none⟩ = some (partV rs[k]) := hO.out.row.cell hp
          obtain ⟨s64, sle, sby⟩ := HSM0.out k hlt
          obtain ⟨f1le, f1by⟩ := HSM1.out k hlt
          obtain ⟨g, t, gok, gfl, hform, hge, hgo, hfin⟩ := HFM.out k hlt
          have hfin := hfin hke
          obtain ⟨rf1, rf2, rf3⟩ := row_flags gok gfl t
          rw [← hform] at rf1 rf2 rf3
          obtain ⟨⟨pA, pn, pc, px⟩, hpe⟩ : ∃ r, r = rs[k] := ⟨_, rfl⟩
          rw [← hpe] at hp hxs hown gcell
          dsimp only at hxs hown
          obtain ⟨us, hus⟩ : ∃ us, us = sealX [] (rowsL ps) k := ⟨_, rfl⟩
          rw [← hus] at hxs s64 sle sby hge hgo hfin rf1 rf2 rf3
          subst hxs
          obtain ⟨gb, cb, hpv, hgb, hgb2, hhp⟩ := own_partK hown sby (by omega) (by omega)
          unfold partV at hpv
          dsimp only at hpv
          injection hpv with q1 q2 q3
          subst q1 q2 q3
          change wr.cell? ⟨gv, k, none⟩ = some (.slice (some ⟨gb, 0, none⟩) px.length pc) at gcell
          obtain ⟨N, hN⟩ : ∃ N, N = px.length := ⟨_, rfl⟩
          have hF := flS_small gok.fl.1 gfl
          have cg := fun (w : World) (h : Holds w w.heap.size (some ⟨gb, 0, none⟩) N pc px) => RGetH_any w _ N pc px 0 h (by omega)
          unfold GetHPost at cg
          rw [hge, hgo] at cg
          have cha := fun (w : World) => RHasF_any w g gok 8 (by omega)
          have HL := Lib.hid (hcells_len gok)
          have HO := Lib.hid (hcells_one g)
          unfold hv at cg cha
          obtain ⟨cs, hcs⟩ : ∃ cs, cs = hcells g := ⟨_, rfl⟩
          rw [← hcs] at cg HL HO
          simp only [← hcs] at cha
          obtain ⟨fl, hfl⟩ : ∃ fl, fl = g.fl := ⟨_, rfl⟩
          obtain ⟨f0, _⟩ := gok.fl
          rw [← hfl] at cha hfin rf1 rf3 hF gfl f0
          rw [← hN] at gcell hhp s64 sle
          have HFI : Hid (signL ks (setFl px (flS fl)) = sealX ks (rowsL ps) k) := hfin.symm
          have HNL : Hid (px.length = N) := hN.symm
          have CG := Lib.hid cg
          have CHA := Lib.hid cha
          have HHP := Lib.hid hhp
          have HPK : Hid (rs[k]? = some (some ⟨gb, 0, none⟩, N, pc, px)) := by show _ = _; rw [hp, hN]
          have HOW : Hid (OwnK .u8 5 wr w.heap.size (.slice (some ⟨gb, 0, none⟩) N pc) px) := by show OwnK _ _ _ _ _ _; rw [hN]; exact hown
          have HBY := Lib.hid sby
          have HF1 : Hid ((sealX ks (rowsL ps) k).length ≤ 4294967100 ∧ Bytes (sealX ks (rowsL ps) k)) := ⟨f1le, f1by⟩
          have HKR := Lib.hid (HKK.out.below LW.out |>.mono LW.out.size)
          have HF3 : Hid (flS fl = if fl / 8 % 2 = 1 then fl else fl + 8) := rfl
          have RF1 := Lib.hid rf1
          have RF2 := Lib.hid rf2
          have RF3 := Lib.hid rf3
          have hgbw : Hid (w.heap.size ≤ gb) := hgb
          have hgbw2 : Hid (gb < wr.heap.size) := hgb2
          have HRL : Hid (k < rs.length) := hki
          have hgvw : Hid (gv < wr.heap.size) := by obtain ⟨_, ds, hds⟩ := hO.out.row.block (i := gv) rfl; exact (Array.getElem?_eq_some_iff.1 hds).1
          have HNR : Hid (∀ (w9 : World) (s : PartT) (rs' : List PartT), rs'.length = n1 → (∀ i x, rs'[i]? = some x → i ≠ k → x.2.2.2 = if i < k then sealX ks (rowsL ps) i else sealX [] (rowsL ps) i) → s.2.2.2 = sealX ks (rowsL ps) k → (rs'.set k s).length = n1 ∧ ∀ i x, (rs'.set k s)[i]? = some x → x.2.2.2 = if i < k + 1 then sealX ks (rowsL ps) i else sealX [] (rowsL ps) i) := by
            intro w9 s rs' h1 h2 h3
            refine ⟨by rw [List.length_set, h1], fun i x hx => ?_⟩
            by_cases hik : i = k
            · subst hik
              rw [List.getElem?_set_self (by rw [h1]; exact hlt)] at hx
              rw [if_pos (by omega), ← Option.some.inj hx, h3]
            · rw [List.getElem?_set_ne (fun e => hik e.symm)] at hx
              rw [h2 i x hx hik]
              by_cases hik2 : i < k
              · rw [if_pos hik2, if_pos (by omega)]
              · rw [if_neg hik2, if_neg (by omega)]
          clear hp hpe hown hform hge hgo hfin rf1 rf2 rf3 hus sby hgb hgb2 hhp hfl hcs cg cha f1le f1by hF gok hki hN
          by_cases hfb : fl / 8 % 2 = 1
          · have hv8 : decide (fl / 8 % 2 = 1) = true := decide_eq_true hfb
            rw [hv8] at CHA
            have hS0 : setFl px (flS fl) = px := by rw [HF3.out, if_pos hfb, RF3.out]
            have hSG : signL ks px = sealX ks (rowsL ps) k := by rw [← HFI.out, hS0]
            have HSG := Lib.hid hSG
            clear hS0 hSG hfb hv8 HFI HF3 RF1 RF2 RF3
            go_wp2_with fail
            refine (CG.out wr HHP.out).mono ?_
            rintro e w2 ⟨rfl, L2⟩
            have L2' := Lib.hid L2
            clear L2
            go_wp2_with (first
              | ((with_reducible show wpList _ _ _ (⟨some 9, _, _, _, _, _⟩ :: _) _ _); refine wpList_alloc_blk rfl _ rfl zs _ ZH ?_; intro g4 w5 hg41 hg42 X4 L5)
              | ((with_reducible show wpList _ _ _ (⟨none, .store _ (.tmp 9) _, _, _, _, _⟩ :: _) _ _); refine wpList_store_blk rfl _ (.tmp 9) (.tmp 38) rfl g4 rfl _ zs cs rfl X4 26 size_hd HZ HL HO ?_; intro w6 X6 O6 hg6)
              | ((with_reducible show wpList _ _ _ (⟨some 40, _, _, _, _, _⟩ :: _) _ _); refine wpList_load_blk rfl _ (.tmp 9) rfl g4 rfl _ cs X6 26 _ Tryd.underlying49 rfl size_hd HL ?_)
              | fail)
            refine (CHA.out w6).mono ?_
            rintro e w7 ⟨rfl, L7⟩
            have L26 : Hid (Below wr.heap.size wr w7) := step (step L2'.out (below_only L5.out O6.out hg41)) L7
            clear L2' L5 O6 X4 X6 L7 CG CHA
            have HRX : Hid (∀ i x, rs[i]? = some x → i ≠ k → x.2.2.2 = if i < k then sealX ks (rowsL ps) i else sealX [] (rowsL ps) i) := fun i x hx _ => hrx.out i x hx
            have O7 := Lib.hid (hO.out.below L26.out)
            have H7 := Lib.hid (HHP.out.over L26.out)
            have gc7 : w7.cell? ⟨gv, k, none⟩ = some (.slice (some ⟨gb, 0, none⟩) N pc) := by rw [← gcell]; exact L26.out.cell hgvw.out
            have LW7 := Lib.hid (LW.out.trans (L26.out.mono LW.out.size))
            have HK7 := Lib.hid (HKR.out.over L26.out)
            clear gcell hO HHP HKR hrx LW
            go_wp2_with fail
            refine (CSG.out w7 gb N pc px HK7.out H7.out s64 sle).mono ?_
            rintro e w8 ⟨v8, rfl, o8, b8⟩
            obtain ⟨A8, c8, rfl⟩ := o8.len
            rw [HSG.out] at o8 ⊢
            have O8b := Lib.hid (O7.out.below b8)
            have hS8 := Lib.hid (O8b.out.put (k := k) (s := (A8, (sealX ks (rowsL ps) k).length, c8, sealX ks (rowsL ps) k)) HRL.out (B := w7.heap.size) (fun q hq i hi => O7.out.blocks q hq i hi) (OwnB.of_k o8) LW7.out.size HF1.out.2 (Nat.le_trans HF1.out.1 (by omega)))
            have gcw := O8b.out.row.frozen k
            have gcv : w8.cell? ⟨gv, k, none⟩ = some (.slice (some ⟨gb, 0, none⟩) N pc) := by rw [← gc7]; exact b8.cell (by have := hgvw.out; have := L26.out.size; show gv < _; omega)
            have LW8b := Lib.hid ((LW7.out.trans (b8.mono LW7.out.size)))
            have HNR2 := Lib.hid (HNR.out w8 (A8, (sealX ks (rowsL ps) k).length, c8, sealX ks (rowsL ps) k) rs hrl.out HRX.out rfl)
            obtain ⟨M8, hM8⟩ : ∃ M8, M8 = (sealX ks (rowsL ps) k).length := ⟨_, rfl⟩
            rw [← hM8]
            have HM8 := Lib.hid hM8
            have hgvw3 : Hid (w.heap.size ≤ gv) := O8b.out.row.heap.1
            clear o8 b8 hM8 gc7
            go_wp2_with fail
            go_roundw
            case rel =>
              refine ⟨k + 1, by omega, by go_num, ⟨_, ?_, HNR2.out.1, HNR2.out.2⟩, LW8b.out.setCell hgvw3.out _⟩
              have h1 := hS8.out
              show OLst _ _ _ _ _
              rw [HM8.out]
              exact h1
            case measure => simp [intOf]; omega
          · have hv8 : decide (fl / 8 % 2 = 1) = false := decide_eq_false hfb
            rw [hv8] at CHA
            have hS0 : setFl px (flS fl) = px.set 16 (fl + 8) := by rw [HF3.out, if_neg hfb, RF2.out (fl + 8) (by omega) (by omega)]
            have hSG : signL ks (px.set 16 (fl + 8)) = sealX ks (rowsL ps) k := by rw [← HFI.out, hS0]
            have HSG := Lib.hid hSG
            have HRF := Lib.hid RF1.out
            clear hS0 hSG hfb hv8 HFI HF3 RF1 RF2 RF3
            go_wp2_with fail
            refine (CG.out wr HHP.out).mono ?_
            rintro e w2 ⟨rfl, L2⟩
            have L2' := Lib.hid L2
            clear L2
            go_wp2_with (first
              | ((with_reducible show wpList _ _ _ (⟨some 9, _, _, _, _, _⟩ :: _) _ _); refine wpList_alloc_blk rfl _ rfl zs _ ZH ?_; intro g4 w5 hg41 hg42 X4 L5)
              | ((with_reducible show wpList _ _ _ (⟨none, .store _ (.tmp 9) _, _, _, _, _⟩ :: _) _ _); refine wpList_store_blk rfl _ (.tmp 9) (.tmp 38) rfl g4 rfl _ zs cs rfl X4 26 size_hd HZ HL HO ?_; intro w6 X6 O6 hg6)
              | ((with_reducible show wpList _ _ _ (⟨some 40, _, _, _, _, _⟩ :: _) _ _); refine wpList_load_blk rfl _ (.tmp 9) rfl g4 rfl _ cs X6 26 _ Tryd.underlying49 rfl size_hd HL ?_)
              | fail)
            refine (CHA.out w6).mono ?_
            rintro e w7 ⟨rfl, L7⟩
            have L26 : Hid (Below wr.heap.size wr w7) := step (step L2'.out (below_only L5.out O6.out hg41)) L7
            clear L2' L5 O6 X4 X6 L7 CG CHA
            have O7 := Lib.hid (hO.out.below L26.out)
            have OW7 := Lib.hid (HOW.out.below L26.out)
            have gc7 : w7.cell? ⟨gv, k, none⟩ = some (.slice (some ⟨gb, 0, none⟩) N pc) := by rw [← gcell]; exact L26.out.cell hgvw.out
            have gf7 := OW7.out.frozen 16
            have gx7 := OW7.out.cell (i := 16) (by omega)
            rw [HRF.out] at gx7
            have hn16 : (16 : Int) < (N : Int) := by omega
            have hki2 : (k : Int) < (n1 : Int) := by omega
            have LW7 := Lib.hid (LW.out.trans (L26.out.mono LW.out.size))
            have HS8 := Lib.hid (OW7.out.set 16 (fl + 8))
            have hO8 := only_setCell w7 gb 16 (.int .u8 (fl + 8))
            have O8 := Lib.hid (O7.out.turn hO8 HPK.out rfl (px.set 16 (fl + 8)) HS8.out (by
              intro x hx
              rcases List.mem_or_eq_of_mem_set hx with h1 | h1
              · exact HBY.out x h1
              · omega) (by rw [List.length_set, HNL.out]; omega))
            have LW8 : Hid (Below w.heap.size w (w7.setCell ⟨gb, 16, none⟩ (.int .u8 (fl + 8)))) := LW7.out.setCell hgbw.out _
            have HSR : Hid (wr.heap.size ≤ (w7.setCell ⟨gb, 16, none⟩ (.int .u8 (fl + 8))).heap.size) := by have := hO8.size; show _ ≤ _; rw [this]; exact L26.out.size
            have LR8 : Hid (Below gb wr (w7.setCell ⟨gb, 16, none⟩ (.int .u8 (fl + 8)))) := (L26.out.mono (Nat.le_of_lt hgbw2.out)).setCell (Nat.le_refl _) _
            have gc8 : (w7.setCell ⟨gb, 16, none⟩ (.int .u8 (fl + 8))).cell? ⟨gv, k, none⟩ = some (.slice (some ⟨gb, 0, none⟩) N pc) := by
              have := O8.out.row.cell (i := k) (x := (some ⟨gb, 0, none⟩, N, pc, px.set 16 (fl + 8))) (List.getElem?_set_self HRL.out)
              exact this
            have HK8 : Hid (Holds (w7.setCell ⟨gb, 16, none⟩ (.int .u8 (fl + 8))) (w7.setCell ⟨gb, 16, none⟩ (.int .u8 (fl + 8))).heap.size Ak nk ck ks) := (HKK.out.below LW8.out).mono LW8.out.size
            have H8 : Hid (Holds (w7.setCell ⟨gb, 16, none⟩ (.int .u8 (fl + 8))) (w7.setCell ⟨gb, 16, none⟩ (.int .u8 (fl + 8))).heap.size (some ⟨gb, 0, none⟩) N pc (px.set 16 (fl + 8))) := by
              have h1 := (O8.out.each _ (List.mem_of_getElem? (List.getElem?_set_self HRL.out)))
              exact h1.1.holds h1.2.1 h1.2.2
            have HRX : Hid (∀ i x, (rs.set k (some ⟨gb, 0, none⟩, N, pc, px.set 16 (fl + 8)))[i]? = some x → i ≠ k → x.2.2.2 = if i < k then sealX ks (rowsL ps) i else sealX [] (rowsL ps) i) := fun i x hx hne => by
              rw [List.getElem?_set_ne (fun e => hne e.symm)] at hx
              exact hrx.out i x hx
            clear gcell hO HHP HKR hrx LW O7 OW7 LW7 hO8 HS8 LR8
            go_wp2_with fail
            go_still_tail 12, (by kernel_rfl)
            change wpList _ _ _ _ _ w7.drew
            go_wp2_with fail
            have O9 := Lib.hid (O8.out.below ((Below.refl _ _).drew))
            have LW9 : Hid (Below w.heap.size w (w7.setCell ⟨gb, 16, none⟩ (.int .u8 (fl + 8))).drew) := LW8.out.drew
            have HK9 := Lib.hid (HK8.out.drew)
            have H9 := Lib.hid (H8.out.drew)
            have gc9 : (w7.setCell ⟨gb, 16, none⟩ (.int .u8 (fl + 8))).drew.cell? ⟨gv, k, none⟩ = some (.slice (some ⟨gb, 0, none⟩) N pc) := gc8
            have hszr : Hid (wr.heap.size ≤ (w7.setCell ⟨gb, 16, none⟩ (.int .u8 (fl + 8))).drew.heap.size) := HSR.out
            obtain ⟨w9, hw9⟩ : ∃ x, x = (w7.setCell ⟨gb, 16, none⟩ (.int .u8 (fl + 8))).drew := ⟨_, rfl⟩
            change Hid (Holds (w7.setCell ⟨gb, 16, none⟩ (.int .u8 (fl + 8))).drew (w7.setCell ⟨gb, 16, none⟩ (.int .u8 (fl + 8))).drew.heap.size Ak nk ck ks) at HK9
            change Hid (Holds (w7.setCell ⟨gb, 16, none⟩ (.int .u8 (fl + 8))).drew (w7.setCell ⟨gb, 16, none⟩ (.int .u8 (fl + 8))).drew.heap.size (some ⟨gb, 0, none⟩) N pc (px.set 16 (fl + 8))) at H9
            rw [← hw9] at O9 LW9 HK9 H9 gc9 hszr ⊢
            clear hw9 O8 LW8 HK8 H8 gc8 gf7 gx7 gc7 HSR
            refine (CSG.out w9 gb N pc (px.set 16 (fl + 8)) HK9.out H9.out s64 sle).mono ?_
            rintro e w8 ⟨v8, rfl, o8, b8⟩
            obtain ⟨A8, c8, rfl⟩ := o8.len
            rw [HSG.out] at o8 ⊢
            have O8b := Lib.hid (O9.out.below b8)
            have hS8 := Lib.hid (O8b.out.put (k := k) (s := (A8, (sealX ks (rowsL ps) k).length, c8, sealX ks (rowsL ps) k)) (by rw [List.length_set]; exact HRL.out) (B := w9.heap.size) (fun q hq i hi => O9.out.blocks q hq i hi) (OwnB.of_k o8) LW9.out.size HF1.out.2 (Nat.le_trans HF1.out.1 (by omega)))
            have gcw := O8b.out.row.frozen k
            have gcv : w8.cell? ⟨gv, k, none⟩ = some (.slice (some ⟨gb, 0, none⟩) N pc) := by rw [← gc9]; exact b8.cell (by have := hgvw.out; have := hszr.out; show gv < _; omega)
            have LW8b := Lib.hid ((LW9.out.trans (b8.mono LW9.out.size)))
            have HNR2 := Lib.hid (HNR.out w8 (A8, (sealX ks (rowsL ps) k).length, c8, sealX ks (rowsL ps) k) (rs.set k (some ⟨gb, 0, none⟩, N, pc, px.set 16 (fl + 8))) (by rw [List.length_set]; exact hrl.out) HRX.out rfl)
            obtain ⟨M8, hM8⟩ : ∃ M8, M8 = (sealX ks (rowsL ps) k).length := ⟨_, rfl⟩
            rw [← hM8]
            have HM8 := Lib.hid hM8
            have hgvw3 : Hid (w.heap.size ≤ gv) := O8b.out.row.heap.1
            clear o8 b8 hM8 gc9
            go_wp2_with fail
            go_roundw
            case rel =>
              refine ⟨k + 1, by omega, by go_num, ⟨_, ?_, HNR2.out.1, HNR2.out.2⟩, LW8b.out.setCell hgvw3.out _⟩
              have h1 := hS8.out
              show OLst _ _ _ _ _
              rw [HM8.out]
              exact h1
            case measure => simp [intOf]; omega
        · obtain rfl : k = n1 := by omega
          have hrows := list_rows hrl.out (F := sealX ks (rowsL ps)) (fun i x hx => by
            rw [hrx.out i x hx, if_pos (by rw [← hrl.out]; exact (List.getElem?_eq_some_iff.1 hx).1)])
          obtain ⟨A2, n2, c2, e2, l2⟩ := hO.out.lst
          injection e2 with e3 e4 e5
          subst e3 e4 e5
          have CJ := Lib.hid (CJN.out wr gv c1 rs l2 hrows)
          clear l2 hrows
          go_wp2_with fail
          refine CJ.out.mono ?_
          rintro e w2 ⟨v2, rfl, o2, b2⟩
          have O2 := Lib.hid (o2.mono LW.out.size)
          have L2 := Lib.hid (LW.out.trans (b2.mono LW.out.size))
          clear o2 b2
          go_wp2_with fail
          go_ret2
          exact ⟨_, rfl, O2.out, L2.out⟩
  · have HC : Hid (Calls Tryd.prog 30 #[.slice A n c] w fun e w' => e = .returned (.tuple #[.slice none 0 0, .int .i64 (chainErr (rowsL ps))]) ∧ Below w.heap.size w w') := by
      refine CPS.mono ?_
      rintro e w' ⟨⟨_, h1⟩ | hh, hb⟩
      · exact ⟨h1, hb⟩
      · exact absurd hh.1 he
    have hso : sealOf ks (rowsL ps) = [] := by unfold sealOf; rw [if_neg he]
    rw [hso]
    obtain ⟨er, her⟩ : ∃ er, er = chainErr (rowsL ps) := ⟨_, rfl⟩
    rw [← her] at HC he ⊢
    have hne : (er != 0) = true := by simpa using he
    clear CPS h hs hby he her hso hk hl
    go_enter Tryd.func24, Tryd.ntmps24
    go_wp2_with fail
    refine HC.out.mono ?_
    rintro e w1 ⟨rfl, b1⟩
    go_wp2_with fail
    go_ret2
    exact ⟨_, rfl, OwnZ.nil _ _ _ _, b1⟩
end Go.Proofs.YtgfflnjggnadpaaDoor

namespace Go.Proofs.YtgfflnjggnadpaaDoor
set_option linter.all false
set_option maxRecDepth 100000
open Go.RowKit
set_option linter.unusedVariables false
set_option maxHeartbeats 4000000 in
theorem walk_ChainSeals (W : World) (hT : KTab W) (A0 : Option Addr) (n0 c0 : Nat) (z0 : List Int) (l0 : n0 ≤ c0) (r0 : c0 ≤ 140737488351232) (h0 : Holds W W.heap.size A0 c0 c0 z0)
    (A1 : Option Addr) (n1 c1 : Nat) (z1 : List PartT) (l1 : n1 ≤ c1) (r1 : c1 ≤ 5864062014634 ∧ ∀ y ∈ z1, y.2.2.1 ≤ 140737488351232) (h1 : Lst W W.heap.size A1 c1 c1 z1) :
    Calls Tryd.prog 5 #[.slice A0 n0 c0, .slice A1 n1 c1] W fun e W' => e = .returned (.bool true) ∧ Below W.heap.size W W' := by
  have hx := h1.head l1
  have hk := h0.head l0
  have hs : ∀ p ∈ z1.take n1, p.2.1 ≤ 140737488351232 := fun p hp => by have h2 := (hx.each p hp).fit; have h3 := r1.2 p (List.mem_of_mem_take hp); omega
  obtain ⟨ps, hps⟩ : ∃ ps, ps = z1.take n1 := ⟨_, rfl⟩
  obtain ⟨ks, hks⟩ : ∃ ks, ks = z0.take n0 := ⟨_, rfl⟩
  rw [← hps] at hx hs
  rw [← hks] at hk
  have CLG := long_any W A1 n1 c1 ps hx (by omega) A0 n0 c0 (by omega) hs
  have CV := fun w hK => Lib.hid (livesC_any w hK)
  have HT := Lib.hid hT
  by_cases hlg : longB n1 n0 (rowsL ps) = true
  · rw [hlg] at CLG
    have CLG' := Lib.hid CLG
    clear hx hk hs CLG hlg hps hks h0 h1 hT
    go_enter Tryd.func5, Tryd.ntmps5
    go_wp2_with fail
    refine CLG'.out.mono ?_
    rintro e w1 ⟨rfl, rfl⟩
    go_wp2_with fail
    refine (CV _ HT.out).out.mono ?_
    rintro e w2 ⟨rfl, b2⟩
    go_wp2
    go_ret
    exact ⟨rfl, b2⟩
  · have hlg : longB n1 n0 (rowsL ps) = false := by simpa using hlg
    rw [hlg] at CLG
    obtain ⟨hn, hnk, hall⟩ := longB_not hlg
    have hs5 : ∀ p ∈ ps, p.2.1 ≤ 5000 := fun p hp => by
      have h2 := hall p.2.2.2 (List.mem_map.2 ⟨p, hp, rfl⟩)
      rw [(hx.each p hp).len] at h2
      exact h2
    have hb := rows_bytes hx hs5
    have hl : (rowsL ps).length = n1 := by rw [rowsL, List.length_map]; exact hx.row.len
    have cc := copied_any W A1 n1 c1 ps hx (by omega) (fun p hp => by have := hs5 p hp; omega)
    unfold CopiedPost at cc
    have cj := fun (w : World) (hbl : Below W.heap.size W w) A n c qs (h : Lst w w.heap.size A n c qs) (hr : rowsL qs = rowsL ps) hK => Seal_any w A0 n0 c0 ks (hk.over hbl) (by omega) A n c qs h (by rw [(sizes_of h hr hb).2, hl]; omega) (fun p hp => by have := (sizes_of h hr hb).1 p hp; omega) hK
    have cr := fun (w : World) (hbl : Below W.heap.size W w) => RSeal_any w A0 n0 c0 ks (hk.over hbl) (by omega) A1 n1 c1 ps (hx.over hbl) (by omega) (fun p hp => by have := hs5 p hp; omega)
    have cl := fun (w : World) A n c qs (h : Lst w w.heap.size A n c qs) (hr : rowsL qs = rowsL ps) (hbl : Below W.heap.size W w) => lists_any w w.heap.size w.heap.size A A1 n c n1 c1 qs ps h (hx.over hbl) (by rw [(sizes_of h hr hb).2, hl]; omega) (by omega)
    have hso := sealOf_small ks (rowsL ps) (fun m hm => ⟨(hb m hm).1, by have := (hb m hm).2; omega⟩)
    unfold SealPost at cj cr
    obtain ⟨L, hL⟩ : ∃ L, L = rowsL ps := ⟨_, rfl⟩
    rw [← hL] at cc hso
    simp only [← hL] at cj cr cl
    have CJ := fun w hbl A n c qs h (hr : rowsL qs = L) hK => Lib.hid (by have := cj w hbl A n c qs h hr hK; rw [hr] at this; exact this)
    have CL := fun w A n c qs h (hr : rowsL qs = L) hbl => Lib.hid (by have := cl w A n c qs h hr hbl; rw [hr, decide_eq_true rfl] at this; exact this)
    have CR := fun w hbl => Lib.hid (cr w hbl)
    have CC := Lib.hid cc
    have CLG' := Lib.hid CLG
    obtain ⟨B, hB⟩ : ∃ B, B = sealOf ks L := ⟨_, rfl⟩
    obtain ⟨E, hE⟩ : ∃ E, E = chainErr L := ⟨_, rfl⟩
    rw [← hB] at hso
    simp only [← hB, ← hE] at CJ CR
    have CS := fun (w : World) A c A' c' (h : Holds w w.heap.size A B.length c B) (h' : Holds w w.heap.size A' B.length c' B) => Lib.hid (Same_any w _ _ A A' _ c _ c' B B h h')
    simp only [decide_eq_true] at CS
    have HSO := Lib.hid hso
    have t3 : (E == E) = true := by simp
    obtain ⟨M, hM⟩ : ∃ M, M = B.length := ⟨_, rfl⟩
    simp only [← hM] at CS
    have HM := Lib.hid hM
    clear hx hk hn hs hps hks hb hl cc cj cr cl hso hL hB hE h0 h1 hT hM CLG hlg hall hs5 hnk
    go_enter Tryd.func5, Tryd.ntmps5
    go_wp2_with fail
    refine CLG'.out.mono ?_
    rintro e w0 ⟨rfl, rfl⟩
    go_wp2_with fail
    refine CC.out.mono ?_
    rintro e w1 ⟨v1, qs, rfl, o1, q1, b1⟩
    obtain ⟨A2, n2, c2, rfl, l2⟩ := o1.lst
    have HL1 := Lib.hid l2
    have HQ1 := Lib.hid q1
    have B1 := Lib.hid b1
    clear o1 l2 q1 b1 CC
    go_wp2_with fail
    refine (CJ w1 B1.out A2 n2 c2 qs HL1.out HQ1.out (HT.out.below B1.out)).out.mono ?_
    rintro e w2 ⟨v2, rfl, o2, b2⟩
    obtain ⟨A3, c3, rfl, h2⟩ := Own.holds (show Own _ _ _ _ from o2.own) HSO.out.2 (by have := HSO.out.1; omega)
    rw [← HM.out] at h2 ⊢
    have H2 := Lib.hid h2
    have L2 := Lib.hid (HL1.out.over b2)
    have B2 := Lib.hid (step B1.out b2)
    clear o2 h2 b2 HL1 B1 CJ
    go_wp2_with fail
    refine (CR w2 B2.out).out.mono ?_
    rintro e w3 ⟨v3, rfl, o3, b3⟩
    obtain ⟨A4, c4, rfl, h3⟩ := Own.holds (show Own _ _ _ _ from o3.own) HSO.out.2 (by have := HSO.out.1; omega)
    rw [← HM.out] at h3 ⊢
    have H3 := Lib.hid h3
    have H23 := Lib.hid (H2.out.over b3)
    have L3 := Lib.hid (L2.out.over b3)
    have B3 := Lib.hid (step B2.out b3)
    clear o3 h3 b3 H2 L2 B2 CR
    have CSa := CS w3 A3 c3 A4 c4 H23.out H3.out
    clear CS
    go_wp2_with fail
    refine CSa.out.mono ?_
    rintro e w4 ⟨rfl, j, rfl⟩
    have L4 := Lib.hid (L3.out.drewN j)
    have B4 : Hid (Below W.heap.size W (w3.drewN j)) := below_drewN B3.out j
    obtain ⟨w4, hw4⟩ : ∃ w, w = w3.drewN j := ⟨_, rfl⟩
    have L4' : Hid (Lst w4 w4.heap.size A2 n2 c2 qs) := by rw [hw4]; exact L4.out
    rw [← hw4] at B4 ⊢
    clear L4 L3 B3 CSa hw4 H23 H3
    go_wp2_with fail
    refine (CL w4 A2 n2 c2 qs L4'.out HQ1.out B4.out).out.mono ?_
    rintro e w5 ⟨rfl, j5, rfl⟩
    have B5 : Hid (Below W.heap.size W (w4.drewN j5)) := below_drewN B4.out j5
    obtain ⟨w5, hw5⟩ : ∃ w, w = w4.drewN j5 := ⟨_, rfl⟩
    rw [← hw5] at B5 ⊢
    clear L4' B4 CL hw5
    go_wp2_with fail
    refine (CV w5 (HT.out.below B5.out)).out.mono ?_
    rintro e w6 ⟨rfl, b6⟩
    go_wp2
    go_ret
    exact ⟨rfl, step B5.out b6⟩
end Go.Proofs.YtgfflnjggnadpaaDoor
