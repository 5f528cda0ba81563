import Derived.WalkKit
import Derived.Deep.Draws
import Derived.Laws.Rows
import Derived.Laws.OwnMore
import Derived.Test.YtangkcedgelegaaDoorRows
import Derived.Laws.CopyOwn
import Derived.Laws.AppendOwnNone
import Derived.Lib.Hide
import Derived.Laws.Tables
import Derived.Laws.NewFold
import Derived.Deep.WholeRow
import Derived.Deep.MidRow
import Derived.Great.Walk
import Derived.Lib.RuneBytes
import Derived.Lib.ValidLaws
import Derived.Laws.AppendOwn
import Derived.OwnWalk
import Derived.Lib.OthersKept
import Derived.Laws.BytesArg
import Derived.Shelf.Utf8.AppendRunePlain
import Derived.Shelf.Utf8.RuneCount
import Derived.Shelf.LaysM
import Derived.Shelf.Strconv.Clone
import Derived.Shelf.Unicode.DecodeSlow
import Derived.Shelf.Unicode.DecodeAny
import Derived.Shelf.Slices.Turned
import Derived.Shelf.Unicode.ValidAny
import Derived.Test.YtangkcedgelegaaDoorProg
import Derived.WalkSpells
import Derived.WalkLawsBesides
import Derived.Deep.QuietTactic
import Derived.BigQuiet
import Derived.Laws.Bits64
import Derived.Laws.BitsAllLaws
import Derived.Deep.DeepCutAuto
import Derived.Laws.IdiomStrings
import Derived.Laws.Cover4
import Derived.Lib.RuneCount
import Derived.Lib.IndexLaws
import Derived.OneCell
import Derived.StillTailTactics
import Derived.WalkMore
import Derived.Maps.OwnSet
import Derived.ProofKit
import Derived.OpenShut
import Derived.ShutString
import Derived.SizedLaws
import Derived.ChangeOld
import Derived.Deep.Strs
import Derived.Lib.Join
import Derived.Deep.RegionLaw
import Derived.Deep.CutBlock
import Derived.Lib.AppendZeros
import Derived.Deep.RegionWith
import Derived.Deep.Slices
import Derived.Lib.SliceRun
import Derived.Maps.AppendAt
import Derived.Lib.Overlaps
import Derived.OrdersHeld
import Derived.Laws.StructEq
import Derived.ChangeKeysEq
import Derived.StringKeys
import Derived.Laws.Externs
import Derived.RangeFuncNested
import Derived.RangeFuncBound
import Derived.RangeFuncCalls
import Derived.RangeFuncLeaves
import Derived.Shelf.Abstract
import Derived.Shelf.RegionOpen
import Derived.OwnWalkIn
import Derived.TacticsInMore
import Derived.LoopNIn
import Derived.LoopIn
import Derived.RangeFuncFrom
import Derived.Test.YtangkcedgelegaaDoorWAC
namespace Go.Proofs.YtangkcedgelegaaDoor
set_option linter.all false
set_option maxRecDepth 100000
open Go.RowKit
section
variable {w w' w2 : World} {g g' B : Nat} {T T' : TypeId} {cs cs' : List Value} {h h' : Hd} {k : IntKind} {xs : List Int}
end
section
variable {P : Program} {ops : Array Oper} {rest : List Oper} {o : Oper} {a : Act} {w : World} {Q : Exit → Act → World → Prop}
/-- the zero literal -/
theorem wpList_build_none (hg : o.guard = none) (T : TypeId) (ho : o.op = .build T #[]) (cs : List Value) (hf : P.built T [] = some cs.toArray)
    (h : wpList P ops Q rest (a.put o.dst (.agg cs.toArray)) w) : wpList P ops Q (o :: rest) a w := by
  refine wpList_buildTo hg T #[] ho _ rfl cs.toArray ?_ h
  rw [← hf]
  simp
end
end Go.Proofs.YtangkcedgelegaaDoor

namespace Go.Proofs.YtangkcedgelegaaDoor
set_option linter.all false
set_option maxRecDepth 100000
open Go.RowKit
set_option linter.unusedVariables false
section
variable {P : Program} {ops : Array Oper} {S : World → Prop}
end
section
variable {w w' : World} {base base' q m : Nat} {v : Value} {D : DataW Unit} {L : List DItem} {S : Nat → Prop}
end
theorem DNone_zero (w : World) (q : Nat) (h : w.cell? ⟨q, 1, none⟩ = some (.map none)) : Calls Tryd.prog 25 #[.pointer (some ⟨q, 0, none⟩)] w fun e w' => e = .returned (.bool true) ∧ w = w' := by
  have hml : ∀ w, (binOp .eql 46 (.map none) (.map none)).run Tryd.prog w = .ok (.bool true) w := fun w => eql_map_nil _ _ _ _ Tryd.underlying46 w
  go_enter Tryd.func25, Tryd.ntmps25
  go_wp2_with fail
  go_ret
  exact ⟨rfl, rfl⟩
theorem DNone_nil (w : World) : Calls Tryd.prog 25 #[.pointer none] w fun e w' => e = .returned (.bool true) ∧ w = w' := by
  go_enter Tryd.func25, Tryd.ntmps25
  go_wp2_with fail
  go_ret
  exact ⟨rfl, rfl⟩
end Go.Proofs.YtangkcedgelegaaDoor

namespace Go.Proofs.YtangkcedgelegaaDoor
set_option linter.all false
set_option maxRecDepth 100000
open Go.RowKit
set_option linter.unusedVariables false
structure NoDirI where
  /-- v is no directory, or a zero one -/
  no : World → Value → Prop
  below : ∀ {w w' : World} {v : Value}, no w v → Below w.heap.size w w' → no w' v
  nil : ∀ w, no w (.pointer none)
  zero : List Value
  built : Tryd.prog.built 48 [] = some zero.toArray
  boxed : ∀ {w : World} {g : Nat}, Blk w g 48 zero → no w (.pointer (some ⟨g, 0, none⟩))
  find : ∀ {w : World} {v : Value}, no w v → ∀ s, Calls Tryd.prog 18 #[v, .string s] w fun e w' => e = .returned (.tuple #[.int .i64 0, .string .empty, .int .i64 1]) ∧ Below w.heap.size w w'
  list : ∀ {w : World} {v : Value}, no w v → ∀ p a m, Calls Tryd.prog 12 #[v, .string p, .string a, .int .i64 m] w fun e w' => ∃ A c, e = .returned (.tuple #[.slice A 0 c, .bool false, .int .i64 1]) ∧ Below w.heap.size w w'
  add : ∀ {w : World} {v : Value}, no w v → ∀ s n, Calls Tryd.prog 17 #[v, .string s, .int .i64 n] w fun e w' => e = .returned (.int .i64 1) ∧ Below w.heap.size w w'
  remove : ∀ {w : World} {v : Value}, no w v → ∀ s, Calls Tryd.prog 21 #[v, .string s] w fun e w' => e = .returned (.int .i64 1) ∧ Below w.heap.size w w'
  rename : ∀ {w : World} {v : Value}, no w v → ∀ s t, Calls Tryd.prog 22 #[v, .string s, .string t] w fun e w' => e = .returned (.int .i64 1) ∧ Below w.heap.size w w'
  len : ∀ {w : World} {v : Value}, no w v → Calls Tryd.prog 15 #[v] w fun e w' => e = .returned (.int .i64 0) ∧ Below w.heap.size w w'
set_option maxHeartbeats 4000000 in
theorem law_DirNil (I : DirI) (N : NoDirI) (W : World) (htb : I.tb W.heap.size W) (s t : ByteArray) (m : Int) (b : Bool) :
    Calls Tryd.prog 9 #[.string s, .string t, .int .i64 m, .bool b] W fun e w' => e = .returned (.bool true) ∧ Below W.heap.size W w' := by
  cases b
  · have h1 := N.nil W
    have L1 : Below W.heap.size W W := Below.refl _ _
    go_enter Tryd.func9, Tryd.ntmps9
    go_wp2_with fail
    refine (N.find h1 s).mono ?_
    rintro e w2 ⟨rfl, l2⟩
    have h2 := N.below h1 l2
    have L2 := L1.trans (l2.mono L1.size)
    go_wp2_with fail
    refine (N.list h2 s t m).mono ?_
    rintro e w3 ⟨Ax, cx, rfl, l3⟩
    have h3 := N.below h2 l3
    have L3 := L2.trans (l3.mono L2.size)
    have hem : (ByteArray.empty.toList == []) = true := by rw [empty_beq]; rfl
    go_wp2_with fail
    refine (N.add h3 s m).mono ?_
    rintro e w4 ⟨rfl, l4⟩
    have h4 := N.below h3 l4
    have L4 := L3.trans (l4.mono L3.size)
    go_wp2_with fail
    refine (N.remove h4 s).mono ?_
    rintro e w5 ⟨rfl, l5⟩
    have h5 := N.below h4 l5
    have L5 := L4.trans (l5.mono L4.size)
    go_wp2_with fail
    refine (N.rename h5 s t).mono ?_
    rintro e w6 ⟨rfl, l6⟩
    have h6 := N.below h5 l6
    have L6 := L5.trans (l6.mono L5.size)
    go_wp2_with fail
    refine (N.len h6).mono ?_
    rintro e w7 ⟨rfl, l7⟩
    have L7 := L6.trans (l7.mono L6.size)
    go_wp2_with fail
    refine (works15_any I w7 (I.tbUp (I.tbNext htb L7) L7.size)).mono ?_
    rintro e w8 ⟨rfl, l8⟩
    have L8 := L7.trans (l8.mono L7.size)
    go_wp2_with fail
    go_ret
    exact ⟨by simp, L8⟩
  · go_enter Tryd.func9, Tryd.ntmps9
    go_wp2_with (first
      | ((with_reducible show wpList _ _ _ (⟨some 17, _, _, _, _, _⟩ :: _) _ _); refine wpList_build_none rfl _ rfl N.zero N.built ?_)
      | ((with_reducible show wpList _ _ _ (⟨some 18, _, _, _, _, _⟩ :: _) _ _); refine wpList_box_blk rfl _ (.tmp 17) rfl N.zero rfl ?_; intro g v1 hg1 hg2 B1 L1'; have h1 := N.boxed B1.out; have L1 := L1'.out)
      | fail)
    go_wp2_with fail
    refine (N.find h1 s).mono ?_
    rintro e w2 ⟨rfl, l2⟩
    have h2 := N.below h1 l2
    have L2 := L1.trans (l2.mono L1.size)
    go_wp2_with fail
    refine (N.list h2 s t m).mono ?_
    rintro e w3 ⟨Ax, cx, rfl, l3⟩
    have h3 := N.below h2 l3
    have L3 := L2.trans (l3.mono L2.size)
    have hem : (ByteArray.empty.toList == []) = true := by rw [empty_beq]; rfl
    go_wp2_with fail
    refine (N.add h3 s m).mono ?_
    rintro e w4 ⟨rfl, l4⟩
    have h4 := N.below h3 l4
    have L4 := L3.trans (l4.mono L3.size)
    go_wp2_with fail
    refine (N.remove h4 s).mono ?_
    rintro e w5 ⟨rfl, l5⟩
    have h5 := N.below h4 l5
    have L5 := L4.trans (l5.mono L4.size)
    go_wp2_with fail
    refine (N.rename h5 s t).mono ?_
    rintro e w6 ⟨rfl, l6⟩
    have h6 := N.below h5 l6
    have L6 := L5.trans (l6.mono L5.size)
    go_wp2_with fail
    refine (N.len h6).mono ?_
    rintro e w7 ⟨rfl, l7⟩
    have L7 := L6.trans (l7.mono L6.size)
    go_wp2_with fail
    refine (works15_any I w7 (I.tbUp (I.tbNext htb L7) L7.size)).mono ?_
    rintro e w8 ⟨rfl, l8⟩
    have L8 := L7.trans (l8.mono L7.size)
    go_wp2_with fail
    go_ret
    exact ⟨by simp, L8⟩
end Go.Proofs.YtangkcedgelegaaDoor

namespace Go.Proofs.YtangkcedgelegaaDoor
set_option linter.all false
set_option maxRecDepth 100000
open Go.RowKit
set_option linter.unusedVariables false
def NoD (w : World) (v : Value) : Prop := v = .pointer none ∨ ∃ g, v = .pointer (some ⟨g, 0, none⟩) ∧ Blk w g 48 [.slice none 0 0, .map none]
theorem NoD.below {w w' : World} {v : Value} (h : NoD w v) (hb : Below w.heap.size w w') : NoD w' v := by
  rcases h with h | ⟨g, h, b⟩
  · exact .inl h
  · exact .inr ⟨g, h, b.over hb⟩
theorem NoD.none {w w' : World} {v : Value} (h : NoD w v) (hb : Below w.heap.size w w') : Calls Tryd.prog 25 #[v] w' fun e w2 => e = .returned (.bool true) ∧ w' = w2 := by
  rcases h.below hb with rfl | ⟨g, rfl, b⟩
  · exact DNone_nil w'
  · exact DNone_zero w' g (b.cell 1)
theorem Find_noD (w : World) (v : Value) (h : NoD w v) (s : ByteArray) : Calls Tryd.prog 18 #[v, .string s] w fun e w' => e = .returned (.tuple #[.int .i64 0, .string .empty, .int .i64 1]) ∧ Below w.heap.size w w' := by
  have H := Lib.hid (h.none (Below.refl _ _))
  clear h
  go_enter Tryd.func18, Tryd.ntmps18
  go_wp2_with fail
  refine H.out.mono ?_
  rintro e w1 ⟨rfl, rfl⟩
  go_wp2_with fail
  go_ret3
  exact ⟨rfl, Below.refl _ _⟩
theorem Add_noD (w : World) (v : Value) (h : NoD w v) (s : ByteArray) (n : Int) : Calls Tryd.prog 17 #[v, .string s, .int .i64 n] w fun e w' => e = .returned (.int .i64 1) ∧ Below w.heap.size w w' := by
  have H := Lib.hid (h.none (Below.refl _ _))
  clear h
  go_enter Tryd.func17, Tryd.ntmps17
  go_wp2_with fail
  refine H.out.mono ?_
  rintro e w1 ⟨rfl, rfl⟩
  go_wp2_with fail
  go_ret
  exact ⟨rfl, Below.refl _ _⟩
theorem Remove_noD (w : World) (v : Value) (h : NoD w v) (s : ByteArray) : Calls Tryd.prog 21 #[v, .string s] w fun e w' => e = .returned (.int .i64 1) ∧ Below w.heap.size w w' := by
  have H := Lib.hid (h.none (Below.refl _ _))
  clear h
  go_enter Tryd.func21, Tryd.ntmps21
  go_wp2_with fail
  refine H.out.mono ?_
  rintro e w1 ⟨rfl, rfl⟩
  go_wp2_with fail
  go_ret
  exact ⟨rfl, Below.refl _ _⟩
theorem Rename_noD (w : World) (v : Value) (h : NoD w v) (s t : ByteArray) : Calls Tryd.prog 22 #[v, .string s, .string t] w fun e w' => e = .returned (.int .i64 1) ∧ Below w.heap.size w w' := by
  have H := Lib.hid (h.none (Below.refl _ _))
  clear h
  go_enter Tryd.func22, Tryd.ntmps22
  go_wp2_with fail
  refine H.out.mono ?_
  rintro e w1 ⟨rfl, rfl⟩
  go_wp2_with fail
  go_ret
  exact ⟨rfl, Below.refl _ _⟩
theorem Len_noD (w : World) (v : Value) (h : NoD w v) : Calls Tryd.prog 15 #[v] w fun e w' => e = .returned (.int .i64 0) ∧ Below w.heap.size w w' := by
  rcases h with rfl | ⟨g, rfl, b⟩
  · go_enter Tryd.func15, Tryd.ntmps15
    go_wp2_with fail
    go_ret
    exact ⟨rfl, Below.refl _ _⟩
  · refine (DLen_any w g 0 0 none (b.cell 0)).mono ?_
    rintro e w' ⟨rfl, rfl⟩
    exact ⟨rfl, Below.refl _ _⟩
theorem boxes4n {w w1 w2 w3 w4 : World} {p7 p8 p9 p10 : Nat} {T7 T8 T9 T10 : TypeId} {a7 a8 a9 a10 : List Value} (g7 : w.heap.size ≤ p7) (h7 : p7 < w1.heap.size) (B7 : Hid (Blk w1 p7 T7 a7)) (L1 : Hid (Below w.heap.size w w1)) (g8 : w1.heap.size ≤ p8) (h8 : p8 < w2.heap.size) (B8 : Hid (Blk w2 p8 T8 a8)) (L2 : Hid (Below w1.heap.size w1 w2))
    (g9 : w2.heap.size ≤ p9) (h9 : p9 < w3.heap.size) (B9 : Hid (Blk w3 p9 T9 a9)) (L3 : Hid (Below w2.heap.size w2 w3)) (g10 : w3.heap.size ≤ p10) (h10 : p10 < w4.heap.size) (B10 : Hid (Blk w4 p10 T10 a10)) (L4 : Hid (Below w3.heap.size w3 w4)) :
    Hid (Below w.heap.size w w4) ∧ Hid (Blk w4 p7 T7 a7) ∧ Hid (Blk w4 p8 T8 a8) ∧ Hid (Blk w4 p9 T9 a9) ∧ Hid (Blk w4 p10 T10 a10) ∧ Hid (p9 ≠ p8 ∧ p10 ≠ p8 ∧ p7 ≠ p8) ∧ Hid (p8 ≠ p9 ∧ p10 ≠ p9 ∧ p7 ≠ p9) ∧ Hid (p8 ≠ p10 ∧ p9 ≠ p10 ∧ p7 ≠ p10) := by
  have q2 := L1.out.trans (L2.out.mono L1.out.size)
  have q3 := q2.trans (L3.out.mono q2.size)
  have q4 := q3.trans (L4.out.mono q3.size)
  have s2 := L2.out.size
  have s3 := L3.out.size
  exact ⟨q4, ((B7.out.over L2.out).over L3.out).over L4.out, (B8.out.over L3.out).over L4.out, B9.out.over L4.out, B10.out, (by show _ ∧ _ ∧ _; omega), (by show _ ∧ _ ∧ _; omega), (by show _ ∧ _ ∧ _; omega)⟩
theorem List_noD (w : World) (q : Value) (h : NoD w q) (p a : ByteArray) (mo : Int) : Calls Tryd.prog 12 #[q, .string p, .string a, .int .i64 mo] w fun e w' => ∃ A c, e = .returned (.tuple #[.slice A 0 c, .bool false, .int .i64 1]) ∧ Below w.heap.size w w' := by
  have CN : Hid (∀ w', Below w.heap.size w w' → Calls Tryd.prog 25 #[q] w' fun e w2 => e = .returned (.bool true) ∧ w' = w2) := fun w' hb => h.none hb
  have E0 : Hid (∀ v0 v1 v2 v3 (p8 p9 p10 : Nat) (w1 w2 w3 : World), Below w.heap.size w v0 → Only p8 v0 v1 → Only p9 v1 v2 → Only p10 v2 v3 → w.heap.size ≤ w1.heap.size → w1.heap.size ≤ p8 → w1.heap.size ≤ w2.heap.size → w2.heap.size ≤ p9 → w2.heap.size ≤ w3.heap.size → w3.heap.size ≤ p10 → Below w.heap.size w v3) := fun v0 v1 v2 v3 p8 p9 p10 w1 w2 w3 a1 a2 a3 a4 a5 a6 a7 a8 a9 a10 => below_three a1 a2 a3 a4 (by omega) (by omega) (by omega)
  clear h
  go_enter Tryd.func12, Tryd.ntmps12
  go_wp2_with (first
    | ((with_reducible show wpList _ _ _ (⟨some 7, _, _, _, _, _⟩ :: _) _ _); refine wpList_box_one rfl _ (.tmp 3) rfl (.int .i64 mo) rfl rfl ?_; intro p7 w1 g7 h7 B7 L1)
    | ((with_reducible show wpList _ _ _ (⟨some 8, _, _, _, _, _⟩ :: _) _ _); refine wpList_alloc_oneD rfl 29 rfl (.slice none 0 0) (by kernel_rfl) rfl ?_; intro p8 w2 g8 h8 B8 L2)
    | ((with_reducible show wpList _ _ _ (⟨some 9, _, _, _, _, _⟩ :: _) _ _); refine wpList_alloc_oneD rfl 4 rfl (.bool false) (by kernel_rfl) rfl ?_; intro p9 w3 g9 h9 B9 L3)
    | ((with_reducible show wpList _ _ _ (⟨some 10, _, _, _, _, _⟩ :: _) _ _); refine wpList_alloc_oneD rfl 30 rfl (.int .i64 0) (by kernel_rfl) rfl ?_; intro p10 w4 g10 h10 B10 L4; go_loud (obtain ⟨K4, C7, C8, C9, C10, E1, E2, E3⟩ := boxes4n g7 h7 B7 L1 g8 h8 B8 L2 g9 h9 B9 L3 g10 h10 B10 L4); go_loud (have c7 := C7.out.cell 0; have c8 := C8.out.cell 0; have c9 := C9.out.cell 0; have c10 := C10.out.cell 0))
    | fail)
  refine (CN.out w4 K4.out).mono ?_
  rintro e w0 ⟨rfl, rfl⟩
  have X8 := C8
  have X9 := C9
  have X10 := C10
  go_wp2_with (first
    | ((with_reducible show wpList _ _ _ (⟨none, .store _ (.tmp 8) _, _, _, _, _⟩ :: _) _ _); go_loud (refine wpList_store_fld rfl 29 _ _ rfl p8 0 rfl 29 [.slice none 0 0] (.slice none 0 0) rfl X8 (show 0 < 1 by omega) (by kernel_rfl) rfl ?_); intro v1 Y8 P1 _; have Y9 := Lib.hid (X9.out.only P1.out E1.out.1); have Y10 := Lib.hid (X10.out.only P1.out E1.out.2.1))
    | ((with_reducible show wpList _ _ _ (⟨none, .store _ (.tmp 9) _, _, _, _, _⟩ :: _) _ _); go_loud (refine wpList_store_fld rfl 4 _ _ rfl p9 0 rfl 4 [.bool false] (.bool false) rfl Y9 (show 0 < 1 by omega) (by kernel_rfl) rfl ?_); intro v2 Z9 P2 _; have Z8 := Lib.hid (Y8.out.only P2.out E2.out.1); have Z10 := Lib.hid (Y10.out.only P2.out E2.out.2.1))
    | ((with_reducible show wpList _ _ _ (⟨none, .store _ (.tmp 10) _, _, _, _, _⟩ :: _) _ _); go_loud (refine wpList_store_fld rfl 30 _ _ rfl p10 0 rfl 30 [.int .i64 0] (.int .i64 1) rfl Z10 (show 0 < 1 by omega) (by kernel_rfl) rfl ?_); intro v3 U10 P3 _; have U8 := Lib.hid (Z8.out.only P3.out E3.out.1); have U9 := Lib.hid (Z9.out.only P3.out E3.out.2.1))
    | fail)
  refine bodyPost_ret (results_cell3 rfl _ _ _ ⟨p8, 0, none⟩ ⟨p9, 0, none⟩ ⟨p10, 0, none⟩ (.slice none 0 0) (.bool false) (.int .i64 1) rfl rfl rfl (run_load_plain _ _ _ (U8.out.cell 0) _ _ Tryd.underlying29 rfl) (run_load_plain _ _ _ (U9.out.cell 0) _ _ Tryd.underlying4 rfl) (run_load_plain _ _ _ (U10.out.cell 0) _ _ Tryd.underlying30 rfl)) rfl ?_
  exact ⟨none, 0, rfl, (E0.out _ _ _ _ p8 p9 p10 w1 w2 w3 K4.out P1.out P2.out P3.out L1.out.size g8 L2.out.size g9 L3.out.size g10)⟩
noncomputable def theNoDir : NoDirI where
  no := NoD
  below h hb := NoD.below h hb
  nil w := .inl rfl
  zero := [.slice none 0 0, .map none]
  built := by kernel_rfl
  boxed h := .inr ⟨_, rfl, h⟩
  find {w v} h s := Find_noD w v h s
  list {w v} h p a m := List_noD w v h p a m
  add {w v} h s n := Add_noD w v h s n
  remove {w v} h s := Remove_noD w v h s
  rename {w v} h s t := Rename_noD w v h s t
  len {w v} h := Len_noD w v h
end Go.Proofs.YtangkcedgelegaaDoor

namespace Go.Proofs.YtangkcedgelegaaDoor
set_option linter.all false
open Go.RowKit
set_option linter.unusedVariables false
theorem walk_DirNil (W : World) (hT : Tabs W) (a0 : ByteArray) (w0 : a0.size ≤ 140737488351232) (a1 : ByteArray) (w1 : a1.size ≤ 140737488351232) (a2 : Int) (w2 : -9223372036854775808 ≤ a2 ∧ a2 ≤ 9223372036854775807) (a3 : Bool) :
    Calls Tryd.prog 9 #[.string a0, .string a1, .int .i64 a2, .bool a3] W fun e w' => e = .returned (.bool true) ∧ Below W.heap.size W w' := law_DirNil theDir theNoDir W (TabsD.of hT) a0 a1 a2 a3
end Go.Proofs.YtangkcedgelegaaDoor
