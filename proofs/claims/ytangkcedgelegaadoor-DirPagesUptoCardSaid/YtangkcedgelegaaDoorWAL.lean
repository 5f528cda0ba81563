import Derived.WalkKit
import Derived.Deep.Draws
import Derived.Laws.Rows
import Derived.Laws.OwnMore
import Derived.Test.YtangkcedgelegaaDoorRows
import Derived.ProofKit
import Derived.OpenShut
import Derived.ShutString
import Derived.SizedLaws
import Derived.ChangeOld
import Derived.Lib.RuneBytes
import Derived.Lib.ValidLaws
import Derived.Laws.CopyOwn
import Derived.Laws.AppendOwnNone
import Derived.Lib.Hide
import Derived.Laws.AppendOwn
import Derived.OwnWalk
import Derived.Lib.OthersKept
import Derived.Laws.BytesArg
import Derived.Shelf.Utf8.AppendRunePlain
import Derived.Shelf.Utf8.RuneCount
import Derived.Shelf.LaysM
import Derived.Shelf.Strconv.Clone
import Derived.Shelf.Unicode.DecodeSlow
import Derived.Shelf.Unicode.DecodeAny
import Derived.Shelf.Slices.Turned
import Derived.Shelf.Unicode.ValidAny
import Derived.Test.YtangkcedgelegaaDoorProg
import Derived.WalkSpells
import Derived.WalkLawsBesides
import Derived.Deep.QuietTactic
import Derived.BigQuiet
import Derived.Laws.Bits64
import Derived.Laws.BitsAllLaws
import Derived.Laws.Tables
import Derived.Laws.NewFold
import Derived.Deep.WholeRow
import Derived.Deep.DeepCutAuto
import Derived.OneCell
import Derived.Deep.Strs
import Derived.Lib.IndexLaws
import Derived.Laws.IdiomStrings
import Derived.Laws.Cover4
import Derived.Lib.RuneCount
import Derived.StillTailTactics
import Derived.WalkMore
import Derived.Lib.Join
import Derived.Deep.RegionLaw
import Derived.Deep.CutBlock
import Derived.Deep.MidRow
import Derived.Lib.AppendZeros
import Derived.Deep.RegionWith
import Derived.Great.Walk
import Derived.Deep.Slices
import Derived.Lib.SliceRun
import Derived.Maps.AppendAt
import Derived.Lib.Overlaps
import Derived.OrdersHeld
import Derived.Laws.StructEq
import Derived.ChangeKeysEq
import Derived.Maps.OwnSet
import Derived.StringKeys
import Derived.Laws.Externs
import Derived.RangeFuncNested
import Derived.RangeFuncBound
import Derived.RangeFuncCalls
import Derived.RangeFuncLeaves
import Derived.Shelf.Abstract
import Derived.Shelf.RegionOpen
import Derived.OwnWalkIn
import Derived.TacticsInMore
import Derived.LoopNIn
import Derived.LoopIn
import Derived.RangeFuncFrom
import Derived.Test.YtangkcedgelegaaDoorWAC
import Derived.Test.YtangkcedgelegaaDoorWAD
import Derived.Test.YtangkcedgelegaaDoorWAE
namespace Go.Proofs.YtangkcedgelegaaDoor
set_option linter.all false
open Go.RowKit Go.ChangeShapes Go.WideShapes
section
variable {H : Type} {enc : TypeId × Value → H} {P : Program} {W : World} {base : Nat} {t e : TypeId} {v : Value} {d : DataW H} {p : List MemPlace}
theorem int_bounds_u8 {x : Int} (h : (Lit.int .u8 x).wf = true) : 0 ≤ x ∧ x ≤ 255 := by simpa [Lit.wf, IntKind.min, IntKind.max, IntKind.signed, IntKind.bits] using h
end
end Go.Proofs.YtangkcedgelegaaDoor

namespace Go.Proofs.YtangkcedgelegaaDoor
set_option linter.all false
open Go.RowKit
theorem strV_one (p : List UInt8) : (strV p).oneCell' = true := rfl
end Go.Proofs.YtangkcedgelegaaDoor

namespace Go.Proofs.YtangkcedgelegaaDoor
set_option linter.all false
open Go.RowKit
section
variable {α : Type} {f : α → Value} {P : Program} {w : World} {ops : Array Oper} {rest : List Oper} {o : Oper} {a : Act} {Q : Exit → Act → World → Prop}
/-- append(out, src...), out the call's own, src whatever holds such elements -/
theorem wpList_append_holdF (hgd : o.guard = none) (s x : Operand) (f : α → Value) (hf : ∀ y, (f y).oneCell' = true) (z : Value) (hzc : z.cells.size = 1) (T e : TypeId) (bytes : Nat)
    (ht : P.underlying T = some (.slice e)) (hi : (P.info? e).map (fun i => (i.zero, i.size, i.bytes)) = some (some z, 1, bytes))
    (ho : o.op = .call { callee := .builtin .append, args := #[s, x], argTypes := #[T, T] })
    (base : Nat) (v : Value) (xs : List α) (hs : a.eval s = v) (hown : OwnF f e w base v xs) (B : Nat) (A : Option Addr) (m c : Nat) (ys : List α) (hx : a.eval x = .slice A m c)
    (hr : HoldsF f w B A m c ys) (hlen : (xs.length + ys.length) * bytes ≤ 140737488355328) (h63 : xs.length + ys.length ≤ 9223372036854775807) (hbase : base ≤ w.heap.size)
    (h : ∀ v' w', Hid (OwnF f e w' base v' (xs ++ ys)) → Hid (Below base w w') → wpList P ops Q rest (a.put o.dst v') w') :
    wpList P ops Q (o :: rest) a w := by
  obtain ⟨i0, hi0, hz0, hz1, hz2⟩ := info_parts hi
  have hl := hr.len
  rcases A with _ | ad
  · have hc := hr.bare rfl
    have hft := hr.fit
    have hm : m = 0 := by omega
    subst hm
    subst hc
    have : ys = [] := List.eq_nil_of_length_eq_zero hl
    subst this
    refine wpList_append_own_none hgd s x T ho base e i0 1 ht hi0 v xs.length _ hs hown hx ?_
    exact h v w (by rw [List.append_nil]; exact hown) (Below.refl _ _)
  · refine wpList_append_own w hgd s x T ho base e i0 z 1 bytes ht hi0 hz0 hz1 hz2 hzc (by omega) v xs.length _ hs hown ad m c (ys.map f) hx (by simp [hl]) ?_
      (by intro v hv; obtain ⟨x, _, rfl⟩ := List.mem_map.1 hv; exact hf x) (by unfold maxLen; omega) (by rw [← hl]; exact hlen) hbase ?_
    · intro j u hj
      have hjl : j < ys.length := by
        by_cases hj' : j < ys.length
        · exact hj'
        · rw [List.getElem?_eq_none (by simp; omega)] at hj
          cases hj
      obtain ⟨b, off, he, _, hcl⟩ := hr.cells (by omega)
      injection he with he
      subst he
      have e : (⟨b, off, none⟩ : Addr).add j = ⟨b, off + j, none⟩ := by
        by_cases hj0 : j = 0
        · subst hj0; simp [Addr.add]
        · simp [Addr.add, hj0]
      rw [e, hcl j ys[j] (List.getElem?_eq_getElem hjl), ← hj]
      simp [hjl]
    · intro v' w' hown' hgr _
      refine h v' w' ?_ ((Below.refl _ _).grown hgr hbase (fun k hk => (World.ownsRow.lt hown k hk).1))
      show World.ownsRow _ _ _ _ _ _ _
      rw [List.length_append, List.map_append, hl]
      exact hown'
end
section
variable {α : Type} {f : α → Value} {e : TypeId} {w : World} {base g n c : Nat} {xs : List α}
end
section
open Go.ChangeShapes Go.WideShapes
variable {H : Type} {enc : TypeId × Value → H} {P : Program} {W : World} {base : Nat} {t e : TypeId} {v : Value} {d : DataW H} {p : List MemPlace}
end
end Go.Proofs.YtangkcedgelegaaDoor

namespace Go.Proofs.YtangkcedgelegaaDoor
set_option linter.all false
open Go.RowKit
set_option linter.unusedVariables false
section
variable {L : List DItem} {s t u : ByteArray} {n : Int}
end
section
variable {L : List DItem} {i : Nat}
theorem rises (h : Dok L) {i j : Nat} (hij : i < j) (hj : j < L.length) : ahd (L[i]'(by omega)).1 L[j].1 = true := List.pairwise_iff_getElem.1 h.rise i j (by omega) hj hij
/-- behind the i-th name the next ones are told -/
theorem dNames_behind (h : Dok L) (hp : dPatE L ⟨#[42]⟩ = 0) (hi : i < L.length) : dNames L ⟨#[42]⟩ L[i].1 = (L.drop (i + 1)).map (·.1) := by
  have hz : ∀ y ∈ L, fitsOf (⟨#[42]⟩ : ByteArray).data.toList y.1.data.toList = true := fun y hy => by
    have hs : dNames L ⟨#[42]⟩ ⟨#[]⟩ = L.map (·.1) := dNames_star hp
    unfold dNames at hs
    have hl := congrArg List.length hs
    rw [List.length_map, List.length_map] at hl
    have := List.filter_eq_self.1 (List.filter_sublist.eq_of_length hl) y hy
    simp only [Bool.and_eq_true] at this
    exact this.1
  have hb := h.good _ (List.getElem_mem hi)
  have h0 : decide (L[i].1.size = 0) = false := by
    unfold dBad at hb
    exact (Bool.or_eq_false_iff.1 hb).1
  have e : ∀ y ∈ L, (fitsOf (⟨#[42]⟩ : ByteArray).data.toList y.1.data.toList && (decide (L[i].1.size = 0) || ahd L[i].1 y.1)) = ahd L[i].1 y.1 := fun y hy => by rw [hz y hy, h0]; rfl
  unfold dNames
  rw [List.filter_congr e]
  congr 1
  have hsp : L = L.take (i + 1) ++ L.drop (i + 1) := (List.take_append_drop _ _).symm
  have key : ∀ a : ByteArray, a = L[i].1 → L.filter (fun y => ahd a y.1) = L.drop (i + 1) := fun a haa => by
    have e0 : (L.take (i + 1)).filter (fun y => ahd a y.1) = [] := by
      rw [List.filter_eq_nil_iff]
      intro y hy
      obtain ⟨j, hj, rfl⟩ := List.mem_iff_getElem.1 hy
      have hj' : j < L.length := by rw [List.length_take] at hj; omega
      have hji : j ≤ i := by rw [List.length_take] at hj; omega
      rw [List.getElem_take, haa]
      rcases Nat.lt_or_ge j i with h1 | h1
      · rw [ahd_asymm (rises h h1 hi)]
        decide
      · obtain rfl : j = i := by omega
        intro hc
        rw [ahd_asymm hc] at hc
        cases hc
    have e1 : (L.drop (i + 1)).filter (fun y => ahd a y.1) = L.drop (i + 1) := by
      rw [List.filter_eq_self]
      intro y hy
      obtain ⟨j, hj, rfl⟩ := List.mem_iff_getElem.1 hy
      rw [List.length_drop] at hj
      rw [List.getElem_drop, haa]
      exact rises h (by omega) (by omega)
    calc L.filter (fun y => ahd a y.1) = (L.take (i + 1) ++ L.drop (i + 1)).filter (fun y => ahd a y.1) := by rw [← hsp]
      _ = _ := by rw [List.filter_append, e0, e1, List.nil_append]
  exact key _ rfl
/-- the error of a list of all names, behind one of them -/
theorem dListE_behind (h : Dok L) (hp : dPatE L ⟨#[42]⟩ = 0) (hi : i < L.length) {m : Int} (hm : 0 ≤ m) : dListE L ⟨#[42]⟩ L[i].1 m = 0 := by
  have hb := h.good _ (List.getElem_mem hi)
  have ht : isText L[i].1.data.toList = true := by
    unfold dBad at hb
    simpa using (Bool.or_eq_false_iff.1 hb).2
  unfold dListE
  rw [if_neg (by omega), if_neg (by decide +kernel), if_neg (by rw [hp]; decide), if_pos ht]
theorem dListE_all {m : Int} (hm : 0 ≤ m) : dListE L ⟨#[42]⟩ ⟨#[]⟩ m = dPatE L ⟨#[42]⟩ := by
  unfold dListE
  rw [if_neg (by omega), if_neg (by decide +kernel)]
  split
  · rfl
  · rename_i h
    rw [if_pos (by decide +kernel)]
    exact (by simpa using h : dPatE L ⟨#[42]⟩ = 0).symm
/-- a page behind the first k names -/
theorem page (h : Dok L) (hp : dPatE L ⟨#[42]⟩ = 0) {k : Nat} (hk : k ≤ L.length) {a : ByteArray} (ha : k = 0 ∧ a = ⟨#[]⟩ ∨ ∃ (h0 : 0 < k), a = (L[k - 1]'(by omega)).1) {m : Nat} :
    dListE L ⟨#[42]⟩ a m = 0 ∧ dListN L ⟨#[42]⟩ a m = ((L.drop k).map (·.1)).take m ∧ dListM L ⟨#[42]⟩ a m = decide (m < L.length - k) := by
  have hE : dListE L ⟨#[42]⟩ a m = 0 ∧ dNames L ⟨#[42]⟩ a = (L.drop k).map (·.1) := by
    rcases ha with ⟨rfl, rfl⟩ | ⟨h0, rfl⟩
    · exact ⟨by rw [dListE_all (by omega)]; exact hp, dNames_star hp⟩
    · refine ⟨dListE_behind h hp (by omega) (by omega), ?_⟩
      rw [dNames_behind h hp (by omega), show k - 1 + 1 = k by omega]
  refine ⟨hE.1, ?_, ?_⟩
  · unfold dListN
    rw [if_pos hE.1, hE.2, Int.toNat_natCast]
  · unfold dListM
    rw [if_pos hE.1, hE.2, decide_eq_decide, List.length_map, List.length_drop]
    omega
end
end Go.Proofs.YtangkcedgelegaaDoor

namespace Go.Proofs.YtangkcedgelegaaDoor
set_option linter.all false
set_option maxRecDepth 100000
open Go.RowKit
set_option linter.unusedVariables false
theorem txt_src {w : World} {base q n c : Nat} {e : TypeId} {xs : List ByteArray} (h : OwnS txtCells 1 e w base (.slice (some ⟨q, 0, none⟩) n c) xs) : ∀ j u, (xs.flatMap txtCells)[j]? = some u → w.cell? ⟨q, j, none⟩ = some u := fun j u hj => by
  obtain ⟨_, hn, _, _, cs, hB, _, htk⟩ := h.blk
  have hl : j < n * 1 := by
    have := (List.getElem?_eq_some_iff.1 hj).1
    rw [flatMap_len txtCells_len, hn] at this
    exact this
  rw [hB.cell]
  have e1 : cs[j]? = (cs.take (n * 1))[j]? := by rw [List.getElem?_take, if_pos hl]
  rw [e1, htk]
  exact hj
theorem txt_flat (xs : List ByteArray) : xs.flatMap txtCells = xs.map Value.string := by
  induction xs with
  | nil => rfl
  | cons x xs ih =>
    rw [List.flatMap_cons, ih]
    rfl
theorem txt_at {w : World} {base q n c : Nat} {e : TypeId} {xs : List ByteArray} (h : OwnS txtCells 1 e w base (.slice (some ⟨q, 0, none⟩) n c) xs) {j : Nat} {s : ByteArray} (hj : xs[j]? = some s) : w.cell? ⟨q, j, none⟩ = some (.string s) := by
  refine txt_src h j _ ?_
  rw [txt_flat, List.getElem?_map, hj]
  rfl
theorem OwnS.some1 {w : World} {base n c : Nat} {A : Option Addr} {e : TypeId} {xs : List ByteArray} (h : OwnS txtCells 1 e w base (.slice A n c) xs) (h0 : 0 < n) : ∃ q, A = some ⟨q, 0, none⟩ := by
  rcases h.2 with ⟨h1, _⟩ | ⟨q, _, _, h1, _⟩
  · injection h1 with _ h1
    omega
  · injection h1 with h1
    exact ⟨q, h1⟩
set_option maxHeartbeats 8000000 in
theorem law_DirPages (I : DirI) (U : UtfI I) (W : World) (A : Option Addr) (n c : Nat) (l : List DActV) (hl : LDAct 1048576 W W.heap.size A n c l) (hn : n ≤ 140737488355328) (htb : I.tb W.heap.size W) (m0 : Int) (hm0 : 0 ≤ m0 ∧ m0 ≤ 255) :
    Calls Tryd.prog 5 #[.slice A n c, .int .u8 m0] W fun e w' => e = .returned (.bool true) ∧ Below W.heap.size W w' := by
  have CP := Lib.hid (playedD I W A n c l hl hn htb)
  clear hl htb
  obtain ⟨L, hL⟩ : ∃ L, L = dActs l (min n 60) := ⟨_, rfl⟩
  have hLl : L.length ≤ 60 := by rw [hL]; have := dActs_le (l := l) (min n 60); omega
  rw [← hL] at CP
  clear hL
  obtain ⟨p, hp1, hp9, hpe⟩ : ∃ p : Nat, 1 ≤ p ∧ p ≤ 9 ∧ (1 : Int) + m0 % 9 = (p : Int) := ⟨(1 + m0 % 9).toNat, by omega, by omega, by omega⟩
  have CL : Hid (∀ (a : ByteArray) (m : Int), a.size ≤ 1048576 → I64D m → ∀ w b q, HasD I w b q L → Calls Tryd.prog 12 #[.pointer (some ⟨q, 0, none⟩), .string ⟨#[42]⟩, .string a, .int .i64 m] w (LsPost w (dListN L ⟨#[42]⟩ a m) (dListM L ⟨#[42]⟩ a m) (dListE L ⟨#[42]⟩ a m))) := fun a m ha hm w b q h => by
    obtain ⟨S, x⟩ := h.x
    exact I.list x h.tb h.hb (by decide) ha hm
  go_enter Tryd.func5, Tryd.ntmps5
  go_wp2_with fail
  refine CP.out.mono ?_
  rintro e w1 ⟨q, g, rfl, x1, l1⟩
  have DK := Lib.hid x1.ok.1
  clear CP
  have C1 := Lib.hid (CL.out ⟨#[]⟩ 1048576 (by decide) (by unfold I64D; omega) _ _ _ x1)
  have hE := dListE_all (L := L) (m := 1048576) (by omega)
  obtain ⟨E, hEe⟩ : ∃ E, E = dPatE L ⟨#[42]⟩ := ⟨_, rfl⟩
  rw [← hEe] at hE
  by_cases hE0 : E = 0
  · subst hE0
    have PG : Hid (∀ (k : Nat), k ≤ L.length → ∀ a, (k = 0 ∧ a = ⟨#[]⟩ ∨ ∃ (h0 : 0 < k) (hk : k ≤ L.length), a = (L[k - 1]'(by omega)).1) → ∀ m : Nat, dListE L ⟨#[42]⟩ a m = 0 ∧ dListN L ⟨#[42]⟩ a m = ((L.drop k).map (·.1)).take m ∧ dListM L ⟨#[42]⟩ a m = decide (m < L.length - k)) := fun k hk a ha m => page DK.out hEe.symm hk (by
      rcases ha with h | ⟨h0, _, h⟩
      · exact .inl h
      · exact .inr ⟨h0, h⟩)
    obtain ⟨P1, P2, P3⟩ := PG.out 0 (by omega) ⟨#[]⟩ (.inl ⟨rfl, rfl⟩) 1048576
    have e0 : ((1048576 : Nat) : Int) = 1048576 := rfl
    rw [e0] at P1 P2 P3
    rw [List.drop_zero, List.take_of_length_le (by rw [List.length_map]; omega)] at P2
    rw [decide_eq_false (by omega)] at P3
    rw [P1, P2, P3] at C1
    clear hE hEe P1 P2 P3 e0
    have NS : Hid (∀ x ∈ L, x.1.size ≤ 1048576) := x1.ok.2.2
    obtain ⟨N, hN⟩ : ∃ N, N = L.length := ⟨_, rfl⟩
    have HN := Lib.hid hN
    rw [← hN] at hLl
    clear hN
    go_wp2_with fail
    refine C1.out.mono ?_
    rintro e w2 ⟨v2, rfl, o2, l2⟩
    have x2 := x1.over l2
    have L2 := Lib.hid (l1.trans (l2.mono x1.hb))
    have hh2 := o2.txts
    obtain ⟨Ax, nx, cx, rfl, hnx, _⟩ := hh2.open
    have hnx' : nx = N := by rw [← hnx, HN.out]; unfold txtL; rw [List.length_map, List.length_map]
    subst hnx'
    have O2 := Lib.hid o2
    obtain ⟨S2, y2⟩ := x2.x
    have CLn : Hid (Calls Tryd.prog 15 #[.pointer (some ⟨q, 0, none⟩)] w2 fun e w' => e = .returned (.int .i64 (nx : Nat)) ∧ ∃ k, w2.drewN k = w') := by rw [HN.out]; exact I.len y2
    clear C1 hh2 hnx o2 l2 l1 y2
    go_wp2_with fail
    refine CLn.out.mono ?_
    rintro e w3 ⟨rfl, k3, rfl⟩
    have l3 := drewed w2 k3
    have X3 := Lib.hid (x2.over l3)
    have L3 := Lib.hid (L2.out.trans (l3.mono x2.hb))
    have O3 := Lib.hid (O2.out.below l3)
    obtain ⟨w3, hw3⟩ : ∃ w3, w3 = w2.drewN k3 := ⟨_, rfl⟩
    rw [← hw3] at X3 L3 O3 ⊢
    clear hw3 l3 CLn L2 O2 x2 x1
    go_wp2_with fail
    go_loopw [11, 12, 13] (fun O Af Iv wr => ∃ (k i : Nat) (a : ByteArray) (At : Option Addr) (nt ct : Nat), Iv = .int .i64 (i : Nat) ∧ Af = .string a ∧ O = .slice At nt ct ∧ i ≤ k ∧ k ≤ nx ∧ Hid (k = 0 ∧ a = ⟨#[]⟩ ∨ ∃ (h0 : 0 < k) (hk : k ≤ L.length), a = (L[k - 1]'(by omega)).1) ∧ Hid (OwnS txtCells 1 9 wr w3.heap.size (.slice At nt ct) ((L.take k).map (·.1))) ∧ Hid (Below w3.heap.size w3 wr)) (fun _ _ Iv _ => 70 - (intOf Iv).toNat)
    case atStart => exact ⟨0, 0, ⟨#[]⟩, none, 0, 0, rfl, rfl, rfl, Nat.le_refl _, Nat.zero_le _, .inl ⟨rfl, rfl⟩, OwnS.nil _ _ _ _ _, Below.refl _ _⟩
    case round =>
      obtain ⟨k, i, a, At, nt, ct, rfl, rfl, rfl, hik, hkn, HA, OR, LR⟩ := hrel
      have hi70 : i < 70 := by omega
      have HAS : a.size ≤ 1048576 := by
        rcases HA.out with ⟨_, rfl⟩ | ⟨h0, hk, rfl⟩
        · decide
        · exact NS.out _ (List.getElem_mem _)
      obtain ⟨p1, p2, p3⟩ := PG.out k (by have := HN.out; omega) a HA.out p
      have C4 := Lib.hid (CL.out a p HAS (by unfold I64D; omega) _ _ _ (X3.out.over LR.out))
      rw [p1, p2, p3] at C4
      clear p1 p2 p3
      obtain ⟨XS, hXS⟩ : ∃ XS, XS = ((L.drop k).map (·.1)).take p := ⟨_, rfl⟩
      rw [← hXS] at C4
      have HXS := Lib.hid hXS
      have hXl : XS.length = min p (nx - k) := by rw [hXS, List.length_take, List.length_map, List.length_drop, ← HN.out]
      clear hXS
      obtain ⟨TL, hTL⟩ : ∃ TL, TL = (L.take k).map (·.1) := ⟨_, rfl⟩
      have hTl : TL.length = k := by rw [hTL, List.length_map, List.length_take, ← HN.out]; omega
      have HTL := Lib.hid hTL
      rw [← hTL] at OR
      clear hTL
      by_cases hmore : p < L.length - k
      · rw [decide_eq_true hmore] at C4
        have hkp : k + p ≤ nx := by have := HN.out; omega
        have hXp : XS.length = p := by have := HN.out; omega
        have NXT : Hid (TL ++ XS = (L.take (k + p)).map (·.1)) := by
          show _ = _
          rw [HTL.out, HXS.out, ← List.map_take, ← List.map_append, ← List.take_add]
        have hpl : k + p - 1 < L.length := by have := HN.out; omega
        have XLS : Hid (XS[p - 1]? = some L[k + p - 1].1) := by
          show _ = _
          rw [HXS.out, List.getElem?_take, if_pos (by omega), List.getElem?_map, List.getElem?_drop, show k + (p - 1) = k + p - 1 by omega, List.getElem?_eq_getElem hpl]
          rfl
        obtain ⟨z, hz⟩ : ∃ z, z = L[k + p - 1].1 := ⟨_, rfl⟩
        rw [← hz] at XLS
        have HZ := Lib.hid hz
        clear hz hmore
        go_wp2_with fail
        refine C4.out.mono ?_
        rintro e w4 ⟨v4, rfl, o4, l4⟩
        obtain ⟨A4, n4, c4, rfl, hn4, _⟩ := o4.txts.open
        obtain rfl : n4 = p := by rw [← hn4, ← hXp]; unfold txtL; rw [List.length_map]
        obtain ⟨gq, rfl⟩ := o4.some1 (by omega)
        have O4 := Lib.hid o4
        have T4 := Lib.hid (OR.out.below l4)
        have L4 := Lib.hid (LR.out.trans (l4.mono LR.out.size))
        have hne0 : ¬ n4 = 0 := by omega
        have BB : Hid ((TL.length + XS.length) * 16 ≤ 140737488355328 ∧ TL.length + XS.length ≤ 9223372036854775807) := by show _ ∧ _; omega
        have GQ : Hid (∀ i, (Value.slice At nt ct).ownBlock = some i → i ≠ gq) := fun i hi hg => by
          have h1 := OR.out.lt hi
          have h2 := (O4.out.block (i := gq) rfl).1
          omega
        have hgw : gq < w4.heap.size := O4.out.lt rfl
        clear o4 l4 C4 hn4
        go_wp2_with (first
          | ((with_reducible show wpList _ _ _ (⟨some 73, _, _, _, _, _⟩ :: _) _ _); go_loud (refine wpList_append_holdSW rfl (.tmp 71) (.tmp 72) txtCells 1 (by decide) txtCells_len txtCells_one (.string ⟨#[]⟩) rfl 29 9 16 Tryd.underlying29 info_str rfl w3.heap.size _ TL rfl T4.out gq 0 n4 c4 XS rfl hXp (fun j u hj => by rw [Nat.zero_add]; exact txt_src O4.out j u hj) BB.out.1 BB.out.2 L4.out.size ?_); intro v5 w5 O5 S5 W5; have j5 : w5.cell? ⟨gq, n4 - 1, none⟩ = some (.string z) := (by
            have h1 := txt_at O4.out XLS.out
            unfold World.cell? at h1 ⊢
            rw [S5.out.rest gq hgw (fun h => GQ.out _ h rfl)]
            exact h1))
          | fail)
        have L5 : Hid (Below w3.heap.size w3 w5) := L4.out.trans (S5.out.below (fun j hj => (T4.out.block hj).1) L4.out.size)
        obtain ⟨A5, n5, c5, rfl, _⟩ := O5.out.txts.open
        go_roundw
        case rel => exact ⟨k + n4, i + 1, z, A5, n5, c5, by go_num, rfl, rfl, by omega, hkp, .inr ⟨by omega, by have := HN.out; omega, HZ.out⟩, by rw [← NXT.out]; exact O5.out, L5.out⟩
        case measure => simp [intOf]; omega
      · rw [decide_eq_false hmore] at C4
        have hX2 : XS.length = nx - k := by have := HN.out; omega
        have NXT : Hid (txtL TL ++ txtL XS = txtL (L.map (·.1))) := by
          show _ = _
          unfold txtL
          have e1 : ((L.drop k).map (·.1)).take p = (L.drop k).map (·.1) := List.take_of_length_le (by rw [List.length_map, List.length_drop]; omega)
          rw [← List.map_append, HTL.out, HXS.out, e1, ← List.map_append, List.take_append_drop]
        clear hmore
        go_wp2_with fail
        refine C4.out.mono ?_
        rintro e w4 ⟨v4, rfl, o4, l4⟩
        obtain ⟨A4, n4, c4, rfl, h4⟩ := o4.txts.holds
        have H4 := Lib.hid h4
        have T4 := Lib.hid (OR.out.below l4)
        have L4 := Lib.hid (LR.out.trans (l4.mono LR.out.size))
        have BB : Hid (((txtL TL).length + (txtL XS).length) * 16 ≤ 140737488355328 ∧ (txtL TL).length + (txtL XS).length ≤ 9223372036854775807) := by show _ ∧ _; unfold txtL; rw [List.length_map, List.length_map]; omega
        clear o4 l4 C4 h4
        by_cases hz4 : n4 = 0
        · subst hz4
          go_wp2_with (first
            | ((with_reducible show wpList _ _ _ (⟨some 73, _, _, _, _, _⟩ :: _) _ _); go_loud (refine wpList_append_holdF rfl (.tmp 71) (.tmp 72) strV strV_one (.string ⟨#[]⟩) rfl 29 9 16 Tryd.underlying29 info_str rfl w3.heap.size _ (txtL TL) rfl T4.out.txts w4.heap.size A4 _ c4 (txtL XS) rfl H4.out BB.out.1 BB.out.2 L4.out.size ?_); intro v5 w5 O5 L45)
            | fail)
          have L5 := Lib.hid (L4.out.trans L45.out)
          obtain ⟨A5, n5, c5, rfl, h5⟩ := O5.out.holds
          rw [NXT.out] at h5
          have H5 := Lib.hid h5
          clear h5 O5 L45 T4 H4 BB OR
          go_loopw [17] (fun Iv wr => ∃ j : Nat, Iv = .int .i64 ((j + 1 : Nat) : Int) ∧ (j + 1 ≤ nx ∨ j = 0) ∧ Hid (Below w5.heap.size w5 wr)) (fun Iv _ => nx - (intOf Iv).toNat)
          case atStart => exact ⟨0, rfl, .inr rfl, Below.refl _ _⟩
          case round =>
            obtain ⟨j, rfl, hj, LR2⟩ := hrel
            have L6 := Lib.hid (L5.out.trans (LR2.out.mono L5.out.size))
            by_cases hlt : j + 1 < nx
            · obtain ⟨y, rfl⟩ := O3.out.some1 (by omega)
              have hjl : j + 1 < L.length := by have := HN.out; omega
              obtain ⟨z1, hz1⟩ : ∃ z, z = (L[j]'(by omega)).1 := ⟨_, rfl⟩
              obtain ⟨z2, hz2⟩ : ∃ z, z = L[j + 1].1 := ⟨_, rfl⟩
              have RX : Hid (wr.cell? ⟨y, j, none⟩ = some (.string z1) ∧ wr.cell? ⟨y, j + 1, none⟩ = some (.string z2)) := by
                have o := O3.out.below L6.out
                exact ⟨txt_at o (by rw [List.getElem?_map, List.getElem?_eq_getElem (by omega), hz1]; rfl), txt_at o (by rw [List.getElem?_map, List.getElem?_eq_getElem hjl, hz2]; rfl)⟩
              have X6 := (X3.out.over L6.out).over (drewed wr 1)
              have HY : Hid (y < wr.drew.heap.size) := Nat.lt_of_lt_of_le (O3.out.lt rfl) (Nat.le_trans L6.out.size (drewed wr 1).size)
              have CA : Hid (Calls Tryd.prog 16 #[.string z1, .string z2] wr.drew fun e w' => e = .returned (.bool true) ∧ Below wr.drew.heap.size wr.drew w') := by
                have := U.ahead X6.tb X6.hb (s := z1) (t := z2) (by rw [hz1]; exact NS.out _ (List.getElem_mem _)) (by rw [hz2]; exact NS.out _ (List.getElem_mem _))
                rw [hz1, hz2, rises DK.out (Nat.lt_succ_self j) hjl, ← hz1, ← hz2] at this
                exact this
              clear hz1 hz2 X6
              have hwj : IntKind.i64.wrap (j : Int) = (j : Int) := by rw [IntKind.wrap_i64]; omega
              go_upto_region 21 with fail
              refine wp_region_held (S := fun w' => w'.cell? ⟨y, j, none⟩ = some (.string z1) ∧ w'.cell? ⟨y, j + 1, none⟩ = some (.string z2)) (by kernel_rfl) ?_
              change wpAnyH _ _ _ _ _ _ _ _ wr.drew
              have Sr0 : Hid (wr.drew.cell? ⟨y, j, none⟩ = some (.string z1) ∧ wr.drew.cell? ⟨y, j + 1, none⟩ = some (.string z2)) := RX.out
              have br0 : Hid (True) := trivial
              refine wpAnyH_take (i := 0) (v := _) rfl (by kernel_rfl) (by kernel_rfl) (by kernel_rfl) (fun _ _ _ h => h) (yieldsIf_move (by kernel_rfl) (.tmp 8) rfl (.slice (some ⟨y, 0, none⟩) nx cx) (by kernel_rfl)) Sr0.out ?_
              refine wpAnyH_take (i := 1) (v := _) rfl (by kernel_rfl) (by kernel_rfl) (by kernel_rfl) (fun _ _ _ h => h) (yieldsIf_move (by kernel_rfl) (.tmp 17) rfl (.int .i64 ((j + 1 : Nat) : Int)) (by kernel_rfl)) Sr0.out ?_
              refine wpAnyH_take (i := 2) (v := .int .i64 (j : Nat)) rfl (by kernel_rfl) (by kernel_rfl) (by kernel_rfl) (fun _ _ _ h => h) (.inl ⟨by kernel_rfl, fun w _ => by first | (go_simp; done) | (go_simp; exact hwj) | (go_simp; exact fun h => absurd h (by omega)) | (go_simp; exact fun h1 h2 => absurd h2 (by omega))⟩) Sr0.out ?_
              refine wpAnyH_take (i := 3) (v := .pointer (some ⟨y, j, none⟩)) rfl (by kernel_rfl) (by kernel_rfl) (by kernel_rfl) (fun _ _ _ h => h) (.inl ⟨by kernel_rfl, fun w _ => by first | (go_simp; done) | (go_simp; exact hwj) | (go_simp; exact fun h => absurd h (by omega)) | (go_simp; exact fun h1 h2 => absurd h2 (by omega))⟩) Sr0.out ?_
              refine wpAnyH_take (i := 4) (v := _) rfl (by kernel_rfl) (by kernel_rfl) (by kernel_rfl) (fun _ _ _ h => h) (yieldsIf_load_one (by kernel_rfl) _ (.tmp 91) rfl y (j) (by kernel_rfl) (.string z1) (fun _ h => h.1) _ Tryd.underlying9 rfl) Sr0.out ?_
              refine wpAnyH_take (i := 5) (v := _) rfl (by kernel_rfl) (by kernel_rfl) (by kernel_rfl) (fun _ _ _ h => h) (yieldsIf_move (by kernel_rfl) (.tmp 8) rfl (.slice (some ⟨y, 0, none⟩) nx cx) (by kernel_rfl)) Sr0.out ?_
              refine wpAnyH_take (i := 6) (v := _) rfl (by kernel_rfl) (by kernel_rfl) (by kernel_rfl) (fun _ _ _ h => h) (yieldsIf_move (by kernel_rfl) (.tmp 17) rfl (.int .i64 ((j + 1 : Nat) : Int)) (by kernel_rfl)) Sr0.out ?_
              refine wpAnyH_take (i := 7) (v := .pointer (some ⟨y, j + 1, none⟩)) rfl (by kernel_rfl) (by kernel_rfl) (by kernel_rfl) (fun _ _ _ h => h) (.inl ⟨by kernel_rfl, fun w _ => by first | (go_simp; done) | (go_simp; exact hwj) | (go_simp; exact fun h => absurd h (by omega)) | (go_simp; exact fun h1 h2 => absurd h2 (by omega))⟩) Sr0.out ?_
              refine wpAnyH_take (i := 8) (v := _) rfl (by kernel_rfl) (by kernel_rfl) (by kernel_rfl) (fun _ _ _ h => h) (yieldsIf_load_one (by kernel_rfl) _ (.tmp 95) rfl y (j + 1) (by kernel_rfl) (.string z2) (fun _ h => h.2) _ Tryd.underlying9 rfl) Sr0.out ?_
              refine wpAnyH_one 9 _ (by kernel_rfl) rfl fun K hK => ?_
              go_simp
              refine (CA.out).mono ?_
              rintro e vr1 ⟨rfl, l5⟩
              have Sr1 : Hid (vr1.cell? ⟨y, j, none⟩ = some (.string z1) ∧ vr1.cell? ⟨y, j + 1, none⟩ = some (.string z2)) := ⟨(l5.cell (p := ⟨y, j, none⟩) HY.out).trans (Sr0.out).1, (l5.cell (p := ⟨y, j + 1, none⟩) HY.out).trans (Sr0.out).2⟩
              have br1 : Hid (True) := trivial
              have L7 := Lib.hid l5
              clear l5
              refine hK _ _ Sr1.out ?_
              clear hK K 
              refine wpAnyH_one 10 _ (by kernel_rfl) rfl fun K hK => ?_
              go_simp
              refine hK _ _ Sr1.out ?_
              clear hK K
              refine wpAnyH_done (by kernel_rfl) ?_ _
              go_wp2_with fail
              go_roundw
              case rel => exact ⟨j + 1, by go_num, .inl (by omega), LR2.out.trans (((drewed wr 1).trans L7.out).mono LR2.out.size)⟩
              case measure => simp [intOf]; omega
            · have hlt2 : ¬ ((j : Int) + 1 < (nx : Int)) := by omega
              obtain ⟨Ay, ny, cy, ey, hy⟩ := (O3.out.txts.below L6.out).holds
              cases ey
              have NL : (txtL (L.map (·.1))).length = nx := by unfold txtL; rw [List.length_map, List.length_map]; exact HN.out.symm
              have n5 : n5 ≤ 60 := by have := H5.out.len; omega
              have CT := Lib.hid (Texts_any wr _ _ _ _ _ _ _ _ _ _ (H5.out.below LR2.out) hy (by omega) (by omega))
              have hdt : decide (txtL (L.map (·.1)) = txtL (L.map (·.1))) = true := decide_eq_true rfl
              rw [hdt] at CT
              have XE := Lib.hid (X3.out.over L6.out)
              clear hy hdt NL
              go_wp2_with fail
              refine CT.out.mono ?_
              rintro e w7 ⟨rfl, k7, rfl⟩
              have l7 : Below wr.heap.size wr (wr.drewN k7) := drewed wr k7
              have X7 := XE.out.over l7
              have L7 := Lib.hid (L3.out.trans ((L6.out.trans (l7.mono L6.out.size)).mono X3.out.hb))
              clear l7 XE
              go_wp2_with fail
              refine X7.works.mono ?_
              rintro e w8 ⟨rfl, x8, l8⟩
              go_wp2_with fail
              go_ret
              exact ⟨rfl, L7.out.trans l8⟩
        · go_wp2_with (first
            | ((with_reducible show wpList _ _ _ (⟨some 73, _, _, _, _, _⟩ :: _) _ _); go_loud (refine wpList_append_holdF rfl (.tmp 71) (.tmp 72) strV strV_one (.string ⟨#[]⟩) rfl 29 9 16 Tryd.underlying29 info_str rfl w3.heap.size _ (txtL TL) rfl T4.out.txts w4.heap.size A4 _ c4 (txtL XS) rfl H4.out BB.out.1 BB.out.2 L4.out.size ?_); intro v5 w5 O5 L45)
            | fail)
          have L5 := Lib.hid (L4.out.trans L45.out)
          obtain ⟨A5, n5, c5, rfl, h5⟩ := O5.out.holds
          rw [NXT.out] at h5
          have H5 := Lib.hid h5
          clear h5 O5 L45 T4 H4 BB OR
          go_loopw [17] (fun Iv wr => ∃ j : Nat, Iv = .int .i64 ((j + 1 : Nat) : Int) ∧ (j + 1 ≤ nx ∨ j = 0) ∧ Hid (Below w5.heap.size w5 wr)) (fun Iv _ => nx - (intOf Iv).toNat)
          case atStart => exact ⟨0, rfl, .inr rfl, Below.refl _ _⟩
          case round =>
            obtain ⟨j, rfl, hj, LR2⟩ := hrel
            have L6 := Lib.hid (L5.out.trans (LR2.out.mono L5.out.size))
            by_cases hlt : j + 1 < nx
            · obtain ⟨y, rfl⟩ := O3.out.some1 (by omega)
              have hjl : j + 1 < L.length := by have := HN.out; omega
              obtain ⟨z1, hz1⟩ : ∃ z, z = (L[j]'(by omega)).1 := ⟨_, rfl⟩
              obtain ⟨z2, hz2⟩ : ∃ z, z = L[j + 1].1 := ⟨_, rfl⟩
              have RX : Hid (wr.cell? ⟨y, j, none⟩ = some (.string z1) ∧ wr.cell? ⟨y, j + 1, none⟩ = some (.string z2)) := by
                have o := O3.out.below L6.out
                exact ⟨txt_at o (by rw [List.getElem?_map, List.getElem?_eq_getElem (by omega), hz1]; rfl), txt_at o (by rw [List.getElem?_map, List.getElem?_eq_getElem hjl, hz2]; rfl)⟩
              have X6 := (X3.out.over L6.out).over (drewed wr 1)
              have HY : Hid (y < wr.drew.heap.size) := Nat.lt_of_lt_of_le (O3.out.lt rfl) (Nat.le_trans L6.out.size (drewed wr 1).size)
              have CA : Hid (Calls Tryd.prog 16 #[.string z1, .string z2] wr.drew fun e w' => e = .returned (.bool true) ∧ Below wr.drew.heap.size wr.drew w') := by
                have := U.ahead X6.tb X6.hb (s := z1) (t := z2) (by rw [hz1]; exact NS.out _ (List.getElem_mem _)) (by rw [hz2]; exact NS.out _ (List.getElem_mem _))
                rw [hz1, hz2, rises DK.out (Nat.lt_succ_self j) hjl, ← hz1, ← hz2] at this
                exact this
              clear hz1 hz2 X6
              have hwj : IntKind.i64.wrap (j : Int) = (j : Int) := by rw [IntKind.wrap_i64]; omega
              go_upto_region 21 with fail
              refine wp_region_held (S := fun w' => w'.cell? ⟨y, j, none⟩ = some (.string z1) ∧ w'.cell? ⟨y, j + 1, none⟩ = some (.string z2)) (by kernel_rfl) ?_
              change wpAnyH _ _ _ _ _ _ _ _ wr.drew
              have Sr0 : Hid (wr.drew.cell? ⟨y, j, none⟩ = some (.string z1) ∧ wr.drew.cell? ⟨y, j + 1, none⟩ = some (.string z2)) := RX.out
              have br0 : Hid (True) := trivial
              refine wpAnyH_take (i := 0) (v := _) rfl (by kernel_rfl) (by kernel_rfl) (by kernel_rfl) (fun _ _ _ h => h) (yieldsIf_move (by kernel_rfl) (.tmp 8) rfl (.slice (some ⟨y, 0, none⟩) nx cx) (by kernel_rfl)) Sr0.out ?_
              refine wpAnyH_take (i := 1) (v := _) rfl (by kernel_rfl) (by kernel_rfl) (by kernel_rfl) (fun _ _ _ h => h) (yieldsIf_move (by kernel_rfl) (.tmp 17) rfl (.int .i64 ((j + 1 : Nat) : Int)) (by kernel_rfl)) Sr0.out ?_
              refine wpAnyH_take (i := 2) (v := .int .i64 (j : Nat)) rfl (by kernel_rfl) (by kernel_rfl) (by kernel_rfl) (fun _ _ _ h => h) (.inl ⟨by kernel_rfl, fun w _ => by first | (go_simp; done) | (go_simp; exact hwj) | (go_simp; exact fun h => absurd h (by omega)) | (go_simp; exact fun h1 h2 => absurd h2 (by omega))⟩) Sr0.out ?_
              refine wpAnyH_take (i := 3) (v := .pointer (some ⟨y, j, none⟩)) rfl (by kernel_rfl) (by kernel_rfl) (by kernel_rfl) (fun _ _ _ h => h) (.inl ⟨by kernel_rfl, fun w _ => by first | (go_simp; done) | (go_simp; exact hwj) | (go_simp; exact fun h => absurd h (by omega)) | (go_simp; exact fun h1 h2 => absurd h2 (by omega))⟩) Sr0.out ?_
              refine wpAnyH_take (i := 4) (v := _) rfl (by kernel_rfl) (by kernel_rfl) (by kernel_rfl) (fun _ _ _ h => h) (yieldsIf_load_one (by kernel_rfl) _ (.tmp 91) rfl y (j) (by kernel_rfl) (.string z1) (fun _ h => h.1) _ Tryd.underlying9 rfl) Sr0.out ?_
              refine wpAnyH_take (i := 5) (v := _) rfl (by kernel_rfl) (by kernel_rfl) (by kernel_rfl) (fun _ _ _ h => h) (yieldsIf_move (by kernel_rfl) (.tmp 8) rfl (.slice (some ⟨y, 0, none⟩) nx cx) (by kernel_rfl)) Sr0.out ?_
              refine wpAnyH_take (i := 6) (v := _) rfl (by kernel_rfl) (by kernel_rfl) (by kernel_rfl) (fun _ _ _ h => h) (yieldsIf_move (by kernel_rfl) (.tmp 17) rfl (.int .i64 ((j + 1 : Nat) : Int)) (by kernel_rfl)) Sr0.out ?_
              refine wpAnyH_take (i := 7) (v := .pointer (some ⟨y, j + 1, none⟩)) rfl (by kernel_rfl) (by kernel_rfl) (by kernel_rfl) (fun _ _ _ h => h) (.inl ⟨by kernel_rfl, fun w _ => by first | (go_simp; done) | (go_simp; exact hwj) | (go_simp; exact fun h => absurd h (by omega)) | (go_simp; exact fun h1 h2 => absurd h2 (by omega))⟩) Sr0.out ?_
              refine wpAnyH_take (i := 8) (v := _) rfl (by kernel_rfl) (by kernel_rfl) (by kernel_rfl) (fun _ _ _ h => h) (yieldsIf_load_one (by kernel_rfl) _ (.tmp 95) rfl y (j + 1) (by kernel_rfl) (.string z2) (fun _ h => h.2) _ Tryd.underlying9 rfl) Sr0.out ?_
              refine wpAnyH_one 9 _ (by kernel_rfl) rfl fun K hK => ?_
              go_simp
              refine (CA.out).mono ?_
              rintro e vr1 ⟨rfl, l5⟩
              have Sr1 : Hid (vr1.cell? ⟨y, j, none⟩ = some (.string z1) ∧ vr1.cell? ⟨y, j + 1, none⟩ = some (.string z2)) := ⟨(l5.cell (p := ⟨y, j, none⟩) HY.out).trans (Sr0.out).1, (l5.cell (p := ⟨y, j + 1, none⟩) HY.out).trans (Sr0.out).2⟩
              have br1 : Hid (True) := trivial
              have L7 := Lib.hid l5
              clear l5
              refine hK _ _ Sr1.out ?_
              clear hK K 
              refine wpAnyH_one 10 _ (by kernel_rfl) rfl fun K hK => ?_
              go_simp
              refine hK _ _ Sr1.out ?_
              clear hK K
              refine wpAnyH_done (by kernel_rfl) ?_ _
              go_wp2_with fail
              go_roundw
              case rel => exact ⟨j + 1, by go_num, .inl (by omega), LR2.out.trans (((drewed wr 1).trans L7.out).mono LR2.out.size)⟩
              case measure => simp [intOf]; omega
            · have hlt2 : ¬ ((j : Int) + 1 < (nx : Int)) := by omega
              obtain ⟨Ay, ny, cy, ey, hy⟩ := (O3.out.txts.below L6.out).holds
              cases ey
              have NL : (txtL (L.map (·.1))).length = nx := by unfold txtL; rw [List.length_map, List.length_map]; exact HN.out.symm
              have n5 : n5 ≤ 60 := by have := H5.out.len; omega
              have CT := Lib.hid (Texts_any wr _ _ _ _ _ _ _ _ _ _ (H5.out.below LR2.out) hy (by omega) (by omega))
              have hdt : decide (txtL (L.map (·.1)) = txtL (L.map (·.1))) = true := decide_eq_true rfl
              rw [hdt] at CT
              have XE := Lib.hid (X3.out.over L6.out)
              clear hy hdt NL
              go_wp2_with fail
              refine CT.out.mono ?_
              rintro e w7 ⟨rfl, k7, rfl⟩
              have l7 : Below wr.heap.size wr (wr.drewN k7) := drewed wr k7
              have X7 := XE.out.over l7
              have L7 := Lib.hid (L3.out.trans ((L6.out.trans (l7.mono L6.out.size)).mono X3.out.hb))
              clear l7 XE
              go_wp2_with fail
              refine X7.works.mono ?_
              rintro e w8 ⟨rfl, x8, l8⟩
              go_wp2_with fail
              go_ret
              exact ⟨rfl, L7.out.trans l8⟩
  · have hN0 : dListN L ⟨#[42]⟩ ⟨#[]⟩ 1048576 = [] := by unfold dListN; rw [if_neg (by rw [hE]; exact hE0)]
    have hM0 : dListM L ⟨#[42]⟩ ⟨#[]⟩ 1048576 = false := by unfold dListM; rw [if_neg (by rw [hE]; exact hE0)]
    rw [hE, hN0, hM0] at C1
    have hne : (E != 0) = true := by simpa using hE0
    have hne2 : (E == 0) = false := by simpa using hE0
    clear hE hEe hN0 hM0
    go_wp2_with fail
    refine C1.out.mono ?_
    rintro e w2 ⟨v2, rfl, o2, l2⟩
    have x2 := x1.over l2
    have L2 := Lib.hid (l1.trans (l2.mono x1.hb))
    have hh2 := o2.txts
    obtain ⟨Ax, nx, cx, rfl, hnx, _⟩ := hh2.open
    obtain rfl : nx = 0 := hnx.symm
    clear C1 hh2 hnx o2 l2 l1 x1
    go_wp2_with fail
    refine (x2.works).mono ?_
    rintro e w3 ⟨rfl, x3, l3⟩
    go_wp2_with fail
    go_ret
    exact ⟨rfl, L2.out.trans l3⟩
end Go.Proofs.YtangkcedgelegaaDoor

namespace Go.Proofs.YtangkcedgelegaaDoor
set_option linter.all false
open Go.RowKit
set_option linter.unusedVariables false
theorem walk_DirPages (W : World) (hT : Tabs W) (A0 : Option Addr) (n0 c0 : Nat) (l0 : List DActV) (h0 : LDAct 1048576 W W.heap.size A0 n0 c0 l0) (r0 : n0 ≤ 140737488355328) (a1 : Int) (w1 : 0 ≤ a1 ∧ a1 ≤ 255) :
    Calls Tryd.prog 5 #[.slice A0 n0 c0, .int .u8 a1] W fun e w' => e = .returned (.bool true) ∧ Below W.heap.size W w' := law_DirPages theDir theUtf W A0 n0 c0 l0 h0 r0 (TabsD.of hT) a1 w1
end Go.Proofs.YtangkcedgelegaaDoor
