import Derived.WalkKit
import Derived.Deep.Draws
import Derived.Laws.Rows
import Derived.Laws.OwnMore
import Derived.Test.YtdgpbhdihhchgaaGreatDoorRows
import Derived.WalkSpells
import Derived.WalkLawsBesides
import Derived.Deep.QuietTactic
import Derived.BigQuiet
import Derived.Lib.Hide
import Derived.Laws.CopyOwn
import Derived.Laws.AppendOwnNone
import Derived.Laws.Bits64
import Derived.Laws.BitsAllLaws
import Derived.StillTailTactics
import Derived.Laws.AppendOwn
import Derived.OwnWalk
import Derived.Lib.OthersKept
import Derived.Laws.BytesArg
import Derived.ProofKit
import Derived.OpenShut
import Derived.ShutString
import Derived.SizedLaws
import Derived.ChangeOld
import Derived.Lib.AppendZeros
import Derived.Deep.RegionWith
import Derived.Deep.DeepCutAuto
import Derived.Great.Walk
import Derived.Laws.Tables
import Derived.Laws.NewFold
import Derived.Deep.WholeRow
import Derived.OneCell
import Derived.Deep.Strs
import Derived.Deep.Slices
import Derived.Deep.MidRow
import Derived.WalkMore
import Derived.Laws.BytesString
import Derived.Laws.IdiomStrings
import Derived.OrdersHeld
import Derived.Laws.StructEq
import Derived.ChangeKeysEq
import Derived.Lib.SliceRun
import Derived.Maps.AppendAt
import Derived.Lib.Overlaps
import Derived.Lib.RuneBytes
import Derived.Lib.ValidLaws
import Derived.Shelf.Strings.Builder1
import Derived.Shelf.Strings.Builder2
import Derived.Shelf.Strings.OnBuilder
import Derived.Shelf.Strings.BuilderF
import Derived.Shelf.Strings.BuilderK
import Derived.Shelf.Utf8.AppendRunePlain
import Derived.Shelf.Utf8.RuneCount
import Derived.Shelf.LaysM
import Derived.Shelf.Strconv.Clone
import Derived.Shelf.Strings.Search1
import Derived.Shelf.Strings.Search2
import Derived.Shelf.Strings.Cut
import Derived.Shelf.Strings.Shaped
import Derived.Shelf.Unicode.DecodeSlow
import Derived.Shelf.Unicode.DecodeAny
import Derived.Shelf.Slices.Turned
import Derived.Ground.SlgmProg
import Derived.Shelf.SortM.Plain
import Derived.Shelf.SortM.SortNone
import Derived.Shelf.Unicode.ValidAny
import Derived.Test.YtdgpbhdihhchgaaGreatDoorProg
import Derived.Laws.Cover4
import Derived.Lib.RuneCount
import Derived.Lib.IndexLaws
import Derived.Maps.OwnSet
import Derived.Lib.Join
import Derived.Deep.RegionLaw
import Derived.Deep.CutBlock
import Derived.StringKeys
import Derived.Laws.Externs
import Derived.Maps.RangeWalk
import Derived.Lib.Slices
import Derived.Shelf.SlGeneric
import Derived.Shelf.SlIterI.Nil
import Derived.Lib.SlKeysI
import Derived.Shelf.SlIterI.Sorted
import Derived.Shelf.SlIterI.Keys
import Derived.OwnWalkIn
import Derived.TacticsInMore
import Derived.RangeFuncNested
import Derived.RangeFuncCalls
import Derived.RangeFuncLeaves
import Derived.RangeFuncBound
import Derived.Shelf.Abstract
import Derived.Shelf.RegionOpen
import Derived.LoopNIn
import Derived.LoopIn
import Derived.RangeFuncFrom
import Derived.Lib.SlBytesConst
import Derived.Lib.LaidIn
import Derived.Lib.LaidU8T
import Derived.Deep.DeepHandedRow
import Derived.Test.YtdgpbhdihhchgaaGreatDoorWAE
namespace Go.Proofs.YtdgpbhdihhchgaaGreatDoor
set_option linter.all false
set_option maxRecDepth 100000
open Go.RowKit
set_option linter.unusedVariables false
theorem only_two {w w1 w2 : World} {g : Nat} (a : Only g w w1) (b : Only g w1 w2) : Only g w w2 := ⟨b.os.trans a.os, b.tape.trans a.tape, b.output.trans a.output, b.size.trans a.size, fun j hj => (b.rest j hj).trans (a.rest j hj)⟩
theorem splice_take {α : Type} {L X : List α} {a : Nat} (ha : a ≤ L.length) : (splice L a X).take a = L.take a := by
  unfold splice
  rw [List.take_append_of_le_length (by rw [List.length_take]; omega), List.take_take, Nat.min_self]
theorem splice_nil {α : Type} (L : List α) (o : Nat) : splice L o [] = L := by simp [splice]
theorem zero_ext : (Tryz.prog.info? 158).map (fun i => (i.zero, i.size)) = some (some (.agg #[.int .i64 0, .slice none 0 0]), 2) := by kernel_rfl
set_option maxHeartbeats 4000000 in
theorem Delete_any (w : World) (base : Nat) (A : Option Addr) (n c i : Nat) (l : List ExtV) (ho : OwnS extCells 2 158 w base (.slice A n c) l) (hi : i ≤ n) (hn : l.length = n) (hn2 : n ≤ 65536) :
    Calls Tryz.prog 125 #[.slice A n c, .int .i64 (i : Nat), .int .i64 (n : Nat)] w fun e w' =>
      e = .returned (.slice A i c) ∧ OwnS extCells 2 158 w' base (.slice A i c) (l.take i) ∧ Spare (fun j => (Value.slice A n c).ownBlock = some j) w w' := by
  by_cases hin : i = n
  · subst hin
    have hl : l.take i = l := List.take_of_length_le (by omega)
    rw [hl]
    have HO := Lib.hid ho
    rcases A with _ | ad
    · have hc : i = 0 ∧ c = 0 := by
        rcases ho.2 with ⟨h1, _⟩ | ⟨g, cap, cur, h1, _⟩
        · injection h1 with _ h2 h3
          exact ⟨h2, h3⟩
        · injection h1 with h2
          cases h2
      obtain ⟨rfl, rfl⟩ := hc
      clear ho hl
      go_enter Tryz.func125, Tryz.ntmps125
      go_wp2_with fail
      go_ret
      exact ⟨rfl, HO.out, Spare.refl _ _⟩
    · have hic : i ≤ c := by
        rcases ho.2 with ⟨h1, _⟩ | ⟨g, cap, cur, h1, _, _, h2, _⟩
        · cases h1
        · injection h1 with _ h3 h4
          omega
      have hcm : c ≤ 9223372036854775807 := by
        rcases ho.2 with ⟨h1, _⟩ | ⟨g, cap, cur, h1, _, _, _, h2, _⟩
        · cases h1
        · injection h1 with _ h3 h4
          unfold maxLen at h2
          omega
      clear ho hl
      go_enter Tryz.func125, Tryz.ntmps125
      go_wp2_with fail
      all_goals go_ret
      all_goals exact ⟨rfl, HO.out, Spare.refl _ _⟩
  · obtain ⟨g, c', hg⟩ := ho.form (show 0 < l.length by omega)
    obtain rfl : A = some ⟨g, 0, none⟩ := by injection hg
    clear hg
    obtain ⟨hb, hln, hnc, hcm, cs, hB, hcl, htk⟩ := ho.blk
    have hcm' : c ≤ 9223372036854775807 := by unfold maxLen at hcm; omega
    have HB0 := Lib.hid hB
    have HL := Lib.hid hcl
    have HT := Lib.hid htk
    have HLN := Lib.hid hln
    have hic : ¬ c = i := by omega
    have hic2 : i ≤ c := by omega
    have hc0 : ¬ c = 0 := by omega
    have hne : ¬ (i : Int) = (n : Int) := by omega
    have hsplit : Hid (n * 2 ≤ c * 2) := by show _ ≤ _; omega
    clear hB hcl htk ho hln hn
    have fin : Hid (∀ w2 zs, zs.length = (n - i) * 2 → Blk w2 g 158 (splice (splice cs (i * 2) []) (i * 2) zs) → Only g w w2 → OwnS extCells 2 158 w2 base (.slice (some ⟨g, 0, none⟩) i c) (l.take i) ∧ Spare (fun j => (Value.slice (some ⟨g, 0, none⟩) n c).ownBlock = some j) w w2) := fun w2 zs hz h1 h2 => by
      rw [splice_nil] at h1
      refine ⟨OwnS.of_blk extCells_len hb h1 ?_ hcm ?_ (by omega) ?_, (Spare.of_only h2).mono fun j _ hj => by rw [hj]; rfl⟩
      · rw [length_splice _ _ _ (by rw [hz, HL.out]; omega), HL.out]
      · rw [List.length_take, HLN.out]; omega
      · have h3 : (splice cs (i * 2) zs).take (i * 2) = cs.take (i * 2) := by
          unfold splice
          rw [List.take_append_of_le_length (by rw [List.length_take, HL.out]; omega), List.take_take, Nat.min_self]
        have h4 := congrArg (List.take (i * 2)) HT.out
        rw [List.take_take, Nat.min_eq_left (by omega)] at h4
        rw [h3, h4]
        conv => lhs; rw [← List.take_append_drop i l]
        rw [List.flatMap_append, List.take_left' (by rw [flatMap_len extCells_len, List.length_take, HLN.out]; omega)]
    have one : ∀ v ∈ (Value.agg #[.int .i64 0, .slice none 0 0]).cells, v.oneCell' = true := by decide
    have ha1 : Hid (i * 2 + 0 * 2 ≤ cs.length) := by show _ ≤ _; rw [HL.out]; omega
    have ha2 : Hid (i * 2 + (n - i) * 2 ≤ (splice cs (i * 2) []).length) := by show _ ≤ _; rw [splice_nil, HL.out]; omega
    by_cases hcn : c = n
    · obtain rfl : c = n := hcn
      go_enter Tryz.func125, Tryz.ntmps125
      go_upto_region 5 with fail
      go_still_tail 6, (by kernel_rfl)
      change wpList _ _ _ _ _ w.drew
      go_wp2_with (first
        | (at_builtin; refine wpList_append_room rfl (.tmp 22) (.tmp 25) 154 158 2 rfl Tryz.underlying154 size_ext _ _ _ _ _ _ _ rfl rfl cs [] HB0.out.drew rfl (fun j v h => by cases h) (by omega) ha1.out (fun v h => by cases h) ?_; intro w1 B1 O1)
        | ((with_reducible show wpList _ _ _ (⟨none, .call _, _, _, _, _⟩ :: _) _ _); refine wpList_clear_blk rfl (.tmp 31) 154 158 158 2 _ [] rfl Tryz.underlying154 zero_ext rfl one (by decide) g (i * 2) (c - i) _ _ rfl (fun _ => rfl) (splice cs (i * 2) []) B1.out ha2.out ?_; intro w2 zs Z2 B2 O2)
        | fail)
      go_ret
      obtain ⟨r1, r2⟩ := fin.out w2 zs Z2.out B2.out ⟨O2.out.os.trans O1.out.os, O2.out.tape.trans O1.out.tape, O2.out.output.trans O1.out.output, O2.out.size.trans O1.out.size, fun j hj => (O2.out.rest j hj).trans (O1.out.rest j hj)⟩
      exact ⟨rfl, r1, r2⟩
    · have hcn' : ¬ c = n := hcn
      go_enter Tryz.func125, Tryz.ntmps125
      go_upto_region 5 with fail
      go_still_tail 6, (by kernel_rfl)
      change wpList _ _ _ _ _ w.drew
      go_wp2_with (first
        | (at_builtin; refine wpList_append_room rfl (.tmp 22) (.tmp 25) 154 158 2 rfl Tryz.underlying154 size_ext _ _ _ _ _ _ _ rfl rfl cs [] HB0.out.drew rfl (fun j v h => by cases h) (by omega) ha1.out (fun v h => by cases h) ?_; intro w1 B1 O1)
        | ((with_reducible show wpList _ _ _ (⟨none, .call _, _, _, _, _⟩ :: _) _ _); refine wpList_clear_blk rfl (.tmp 31) 154 158 158 2 _ [] rfl Tryz.underlying154 zero_ext rfl one (by decide) g (i * 2) (n - i) _ _ rfl (fun _ => rfl) (splice cs (i * 2) []) B1.out ha2.out ?_; intro w2 zs Z2 B2 O2)
        | fail)
      go_ret
      obtain ⟨r1, r2⟩ := fin.out w2 zs Z2.out B2.out ⟨O2.out.os.trans O1.out.os, O2.out.tape.trans O1.out.tape, O2.out.output.trans O1.out.output, O2.out.size.trans O1.out.size, fun j hj => (O2.out.rest j hj).trans (O1.out.rest j hj)⟩
      exact ⟨rfl, r1, r2⟩
/-- what is answered where one new extent stands in the place of so many -/
def PutPostX (w : World) (base : Nat) (v : Value) (l : List ExtV) (i j : Nat) (J : ExtV) (e : Ending) (w' : World) : Prop :=
  ∃ v', e = .returned v' ∧ OwnS extCells 2 158 w' base v' (l.take i ++ [J] ++ l.drop j) ∧ Spare (fun k => v.ownBlock = some k) w w' ∧ Wander w v v'
/-- the cells behind what has been laid -/
theorem splice2_take {L X Y : List Value} {a : Nat} (ha : a ≤ L.length) (hX : X.length = 2) (hY : a + 2 + Y.length ≤ L.length) : (splice (splice L a X) (a + 2) Y).take (a + 2 + Y.length) = L.take a ++ X ++ Y := by
  have h1 : (splice L a X).take (a + 2) = L.take a ++ X := by
    unfold splice
    rw [← List.append_assoc, List.take_left' (by rw [List.length_append, List.length_take, hX, Nat.min_eq_left ha])]
  unfold splice at h1 ⊢
  rw [h1, ← List.append_assoc, List.take_left' (by rw [List.length_append, List.length_append, List.length_take, hX, Nat.min_eq_left ha])]
theorem splice2_take' {L X Y : List Value} {a : Nat} (ha : a ≤ L.length) (hX : X.length = 2) (hY : a + 2 + Y.length ≤ L.length) : (splice (splice L (a + 2) Y) a X).take (a + 2 + Y.length) = L.take a ++ X ++ Y := by
  have h2 : (L.take (a + 2)).length = a + 2 := by rw [List.length_take]; omega
  have h1 : (splice L (a + 2) Y).take a = L.take a := by
    unfold splice
    rw [List.take_append_of_le_length (by rw [h2]; omega), List.take_take, Nat.min_eq_left (by omega)]
  have h3 : (splice L (a + 2) Y).drop (a + X.length) = Y ++ L.drop (a + 2 + Y.length) := by
    unfold splice
    rw [hX, List.drop_left' h2]
  show (List.take a (splice L (a + 2) Y) ++ (X ++ (splice L (a + 2) Y).drop (a + X.length))).take _ = _
  rw [h1, h3, ← List.append_assoc, ← List.append_assoc, List.take_left' (by rw [List.length_append, List.length_append, List.length_take, hX, Nat.min_eq_left ha])]
theorem flat_parts (l : List ExtV) (i j n : Nat) (J : ExtV) (hn : l.length = n) (hij : i ≤ j) (hj : j ≤ n) (cs : List Value) (ht : cs.take (n * 2) = l.flatMap extCells) :
    (l.take i ++ [J] ++ l.drop j).flatMap extCells = cs.take (i * 2) ++ extCells J ++ (cs.take (n * 2)).drop (j * 2) := by
  have h1 : (l.take i).flatMap extCells = cs.take (i * 2) := by
    have h4 := congrArg (List.take (i * 2)) ht
    rw [List.take_take, Nat.min_eq_left (by omega)] at h4
    rw [h4]
    conv => rhs; rw [← List.take_append_drop i l]
    rw [List.flatMap_append, List.take_left' (by rw [flatMap_len extCells_len, List.length_take, hn]; omega)]
  have h2 : (l.drop j).flatMap extCells = (cs.take (n * 2)).drop (j * 2) := by
    rw [ht]
    conv => rhs; rw [← List.take_append_drop j l]
    rw [List.flatMap_append, List.drop_left' (by rw [flatMap_len extCells_len, List.length_take, hn]; omega)]
  rw [List.flatMap_append, List.flatMap_append, h1, h2]
  simp
set_option maxHeartbeats 4000000 in
theorem Insert_any (w : World) (base : Nat) (A : Option Addr) (n c i vb : Nat) (l : List ExtV) (J : ExtV) (ho : OwnS extCells 2 158 w base (.slice A n c) l) (hi : i ≤ n) (hn : l.length = n) (hn2 : n ≤ 65536) (hb : base ≤ w.heap.size)
    (hv : Blk w vb 158 (extCells J)) (hvn : (Value.slice A n c).ownBlock ≠ some vb) :
    Calls Tryz.prog 165 #[.slice A n c, .int .i64 (i : Nat), .slice (some ⟨vb, 0, none⟩) 1 1] w (PutPostX w base (.slice A n c) l i i J) := by
  have hJ : Hid (∀ w2, Blk w2 vb 158 (extCells J) → ∀ j u, (extCells J)[j]? = some u → w2.cell? ⟨vb, 0 + j, none⟩ = some u) := fun w2 h j u hj => by rw [Nat.zero_add, h.cell, hj]
  have HV := Lib.hid hv
  have HO := Lib.hid ho
  by_cases hin : i = n
  · subst hin
    have hl : l.take i ++ [J] ++ l.drop i = l ++ [J] := by rw [List.take_of_length_le (by omega), List.drop_of_length_le (by omega), List.append_nil]
    unfold PutPostX
    rw [hl]
    have hlen : Hid ((l.length + [J].length) * 32 ≤ 140737488355328 ∧ l.length + [J].length ≤ 9223372036854775807) := by show _ ∧ _; simp; omega
    have hJ2 : Hid (∀ w2, Blk w2 vb 158 (extCells J) → ∀ j u, ([J].flatMap extCells)[j]? = some u → w2.cell? ⟨vb, 0 + j, none⟩ = some u) := fun w2 h j u hj => hJ.out w2 h j u (by simpa using hj)
    have hcm : c ≤ 9223372036854775807 ∧ i ≤ c := by
      rcases ho.2 with ⟨h1, _⟩ | ⟨g, cap, cur, h1, _, _, h2, h3, _⟩
      · injection h1 with _ h3 h4
        omega
      · injection h1 with _ h4 h5
        unfold maxLen at h3
        omega
    obtain ⟨hcm, hic⟩ := hcm
    clear ho hv hl hJ hvn hn
    rcases A with _ | ad
    · have hc : i = 0 ∧ c = 0 := by
        rcases HO.out.2 with ⟨h1, _⟩ | ⟨g, cap, cur, h1, _⟩
        · injection h1 with _ h2 h3
          exact ⟨h2, h3⟩
        · injection h1 with h2
          cases h2
      obtain ⟨rfl, rfl⟩ := hc
      go_enter Tryz.func165, Tryz.ntmps165
      go_wp2_with (first
        | (at_builtin; refine wpList_append_holdSW rfl (.tmp 23) (.tmp 24) extCells 2 (by decide) extCells_len extCells_one (.agg #[.int .i64 0, .slice none 0 0]) rfl 154 158 32 Tryz.underlying154 info_ext rfl base _ l rfl HO.out vb 0 1 1 [J] rfl rfl (hJ2.out _ HV.out) hlen.out.1 hlen.out.2 hb ?_; intro v1 w1 O1 S1 W1)
        | fail)
      go_ret
      exact ⟨_, rfl, O1.out, S1.out, W1.out⟩
    · go_enter Tryz.func165, Tryz.ntmps165
      go_wp2_with (first
        | (at_builtin; refine wpList_append_holdSW rfl (.tmp 23) (.tmp 24) extCells 2 (by decide) extCells_len extCells_one (.agg #[.int .i64 0, .slice none 0 0]) rfl 154 158 32 Tryz.underlying154 info_ext rfl base _ l rfl HO.out vb 0 1 1 [J] rfl rfl (hJ2.out _ HV.out) hlen.out.1 hlen.out.2 hb ?_; intro v1 w1 O1 S1 W1)
        | fail)
      all_goals go_ret
      all_goals exact ⟨_, rfl, O1.out, S1.out, W1.out⟩
  · obtain ⟨g, c', hg⟩ := ho.form (show 0 < l.length by omega)
    obtain rfl : A = some ⟨g, 0, none⟩ := by injection hg
    clear hg
    obtain ⟨hbg, hln, hnc, hcm, cs, hB, hcl, htk⟩ := ho.blk
    have hcm' : c ≤ 9223372036854775807 := by unfold maxLen at hcm; omega
    have hgv : g ≠ vb := fun h => hvn (by rw [h]; rfl)
    have hparts := flat_parts l i i n J hn (Nat.le_refl _) hi cs htk
    have hlen3 : (l.take i ++ [J] ++ l.drop i).length = n + 1 := by simp; omega
    obtain ⟨L3, hL3⟩ : ∃ L3, L3 = l.take i ++ [J] ++ l.drop i := ⟨_, rfl⟩
    unfold PutPostX
    rw [← hL3] at hparts hlen3 ⊢
    obtain ⟨Y, hY⟩ : ∃ Y, Y = (cs.take (n * 2)).drop (i * 2) := ⟨_, rfl⟩
    rw [← hY] at hparts
    have hYl : Y.length = (n - i) * 2 := by rw [hY, List.length_drop, List.length_take, hcl]; omega
    have hYc : Hid (∀ w2, Blk w2 g 158 cs → ∀ j v, Y[j]? = some v → w2.cell? ⟨g, i * 2 + j, none⟩ = some v) := fun w2 h j v hj => by
      rw [h.cell, ← hj, hY, List.getElem?_drop, List.getElem?_take, if_pos]
      have := (List.getElem?_eq_some_iff.1 hj).1
      omega
    have hY1 : Hid (∀ v ∈ Y, v.oneCell' = true) := fun v hv => by
      rw [hY, htk] at hv
      obtain ⟨y, _, hy⟩ := List.mem_flatMap.1 (List.mem_of_mem_drop hv)
      exact extCells_one y v hy
    have HB0 := Lib.hid hB
    have HL := Lib.hid hcl
    have HP := Lib.hid hparts
    have H3 := Lib.hid hlen3
    have HYL := Lib.hid hYl
    have hic : ¬ c = i := by omega
    have hic2 : i ≤ c := by omega
    have hc0 : ¬ c = 0 := by omega
    have hne : ¬ (i : Int) = (n : Int) := by omega
    clear hB hcl htk ho hln hn hL3 hY hYl hparts hlen3 hvn hv
    have h01 : (0 : Int) ≤ (i : Int) + 1 := by omega
    have hui : IntKind.i64.wrap ((i : Int) + 1) = (i : Int) + 1 := by rw [IntKind.wrap_i64]; omega
    have htn : ((i : Int) + 1).toNat = i + 1 := by omega
    have fin : Hid (∀ w2 q cap cur, base ≤ q → Blk w2 q 158 cur → cur.length = cap * 2 → cap ≤ maxLen → n + 1 ≤ cap → cur.take (i * 2 + 2 + Y.length) = cs.take (i * 2) ++ extCells J ++ Y → OwnS extCells 2 158 w2 base (.slice (some ⟨q, 0, none⟩) (n + 1) cap) L3) := fun w2 q cap cur h1 h2 h3 h4 h5 h6 => by
      refine OwnS.of_blk extCells_len h1 h2 h3 h4 H3.out h5 ?_
      rw [HP.out, ← h6, HYL.out]
      congr 1
      omega
    have one : Hid (∀ v ∈ extCells J, v.oneCell' = true) := extCells_one J
    by_cases hgrow : n + 1 ≤ c
    · have hgt : decide ((c : Int) < (n : Int) + 1) = false := decide_eq_false (by omega)
      have hin1 : ¬ c = i + 1 := by omega
      have hgt2 : (n : Int) + 1 ≤ (c : Int) := by omega
      have htn2 : ((n : Int) + 1).toNat = n + 1 := by omega
      have h02 : (0 : Int) ≤ (n : Int) + 1 := by omega
      have hnil : n + 1 - (i + 1) = n - i := by omega
      have hil : (i : Int) ≤ (n : Int) := by omega
      have hil1 : (i : Int) ≤ (n : Int) + 1 := by omega
      have hov : ∀ lb cb, (callFunc 166 #[.slice (some ⟨vb, 0, none⟩) 1 1, .slice (some ⟨g, (i + 1) * 2, none⟩) lb cb]).run Tryz.prog w = .ok (.value (.bool false)) w := fun lb cb => by
        rw [run_callFunc_extern Tryz.func166 (by kernel_rfl) (by kernel_rfl) (by kernel_rfl) (e := Extern.SlicesOverlaps.overlaps #[154, 154] #[4]) (by kernel_rfl),
          Lib.run_overlaps_apart w 154 4 158 Tryz.underlying154 2 (fun w => by simp [sizeOf, typeInfo]; rfl) ⟨vb, 0, none⟩ ⟨g, (i + 1) * 2, none⟩ 1 1 lb cb (fun h => hgv h.symm) 158 158 2 cs.length (by unfold World.shape?; rw [HV.out]; rfl) (by unfold World.shape?; rw [HB0.out]; rfl) (by rw [HL.out]; omega) (HV.out.frozen 0) (HV.out.frozen 2)]
        rfl
      go_enter Tryz.func165, Tryz.ntmps165
      go_upto_region 15 with (simp only [hov])
      have F1 : Hid ((i + 1) * 2 + (n - i) * 2 ≤ cs.length) := by show _ ≤ _; rw [HL.out]; omega
      have F2 : Hid (i * 2 + 1 * 2 ≤ (splice cs ((i + 1) * 2) Y).length) := by show _ ≤ _; rw [length_splice _ _ _ (by rw [HYL.out, HL.out]; omega), HL.out]; omega
      go_still_tail 8, (by kernel_rfl)
      change wpList _ _ _ _ _ w.drew
      go_wp2_with (first
        | ((with_reducible show wpList _ _ _ (⟨some 77, _, _, _, _, _⟩ :: _) _ _); go_loud (refine wpList_copy_blk rfl (.tmp 73) (.tmp 76) 154 158 158 2 (n - i) rfl Tryz.underlying154 size_ext _ _ _ _ _ _ _ _ rfl rfl _ Y HB0.out.drew (Nat.min_eq_right (by omega)) HYL.out (hYc.out _ HB0.out.drew) F1.out hY1.out ?_); intro w1 B1 O1; go_loud (have HV1 := Lib.hid ((HV.out.drew).only O1.out (fun h => hgv h.symm))))
        | ((with_reducible show wpList _ _ _ (⟨some 82, _, _, _, _, _⟩ :: _) _ _); go_loud (refine wpList_copy_blk rfl (.tmp 80) (.tmp 81) 154 158 158 2 1 rfl Tryz.underlying154 size_ext _ _ _ _ _ _ _ _ rfl rfl _ (extCells J) B1.out (Nat.min_eq_left (by omega)) rfl (hJ.out _ HV1.out) F2.out one.out ?_); intro w2 B2 O2)
        | fail)
      go_ret
      have q2 : Only g w w2 := ⟨O2.out.os.trans O1.out.os, O2.out.tape.trans O1.out.tape, O2.out.output.trans O1.out.output, O2.out.size.trans O1.out.size, fun j hj => (O2.out.rest j hj).trans (O1.out.rest j hj)⟩
      have ea : i * 2 + 2 = (i + 1) * 2 := by omega
      have hl1 : i * 2 ≤ cs.length := by rw [HL.out]; omega
      have hl2 : i * 2 + 2 + Y.length ≤ cs.length := by rw [HL.out, HYL.out]; omega
      refine ⟨_, rfl, ?_, (Spare.of_only q2).mono fun j _ hj => by rw [hj]; rfl, fun j hj => .inl hj⟩
      refine fin.out w2 g c _ hbg B2.out ?_ hcm (by omega) ?_
      · rw [length_splice _ _ _ (by rw [length_splice _ _ _ (by rw [HYL.out, HL.out]; omega), extCells_len, HL.out]; omega), length_splice _ _ _ (by rw [HYL.out, HL.out]; omega), HL.out]
      · rw [← ea, splice2_take' hl1 (extCells_len J) hl2]
    · obtain ⟨k, hk⟩ : ∃ k, n + 1 = i + k := ⟨n + 1 - i, by omega⟩
      have hk' : (n : Int) + 1 - (i : Int) = (k : Int) := by omega
      have hgt : decide ((c : Int) < (n : Int) + 1) = true := decide_eq_true (by omega)
      have hlen : Hid ((i + k) * 32 ≤ 140737488355328) := by show _ ≤ _; omega
      have hfit : Hid (i * 2 ≤ cs.length) := by show _ ≤ _; rw [HL.out]; omega
      go_enter Tryz.func165, Tryz.ntmps165
      go_upto_region 11 with (first
        | (at_builtin; go_loud (refine wpList_append_more rfl (.tmp 34) (.tmp 39) 154 3 158 158 2 32 (.agg #[.int .i64 0, .slice none 0 0]) .i64 rfl Tryz.underlying154 Tryz.underlying3 info_ext rfl (by decide) g i c k rfl .i64 _ rfl rfl cs HB0.out hfit.out (by omega) (by omega) hlen.out (by omega) ?_); intro w1 h1 cap zs R1 B1 E1 hge hcap L1; go_loud (have hcapi : ¬ cap = i := by omega); go_loud (have HV1 := Lib.hid (HV.out.over L1.out)); go_loud (have HG1 := Lib.hid (HB0.out.over L1.out)); go_loud (have F1 : Hid (i * 2 + 1 * 2 ≤ (cs.take (i * 2) ++ zs).length) := (by show _ ≤ _; rw [E1.out]; omega)))
        | ((with_reducible show wpList _ _ _ (⟨some 45, _, _, _, _, _⟩ :: _) _ _); go_loud (refine wpList_copy_blk rfl (.tmp 43) (.tmp 44) 154 158 158 2 1 rfl Tryz.underlying154 size_ext _ _ _ _ _ _ _ _ rfl rfl _ (extCells J) B1.out (Nat.min_eq_left (show 1 ≤ k by omega)) rfl (hJ.out _ HV1.out) F1.out one.out ?_); intro w2 B2 O2)
        | fail)
      have HG2 := Lib.hid ((HG1.out.only O2.out (by have := HB0.out.lt; have := R1.out.1; omega)).drew)
      have F2 : Hid ((i + 1) * 2 + (n - i) * 2 ≤ (splice (cs.take (i * 2) ++ zs) (i * 2) (extCells J)).length) := by
        show _ ≤ _
        rw [length_splice _ _ _ (by rw [E1.out, extCells_len]; omega), E1.out]
        omega
      have hcapu : ¬ cap = i + 1 := by omega
      have hku : i + k - (i + 1) = n - i := by omega
      have h1k : (1 : Int) ≤ (k : Int) := by omega
      have hcap0 : ¬ cap = 0 := by omega
      go_still_tail 8, (by kernel_rfl)
      change wpList _ _ _ _ _ w2.drew
      go_wp2_with (first
        | ((with_reducible show wpList _ _ _ (⟨some 54, _, _, _, _, _⟩ :: _) _ _); go_loud (refine wpList_copy_blk rfl (.tmp 50) (.tmp 53) 154 158 158 2 (n - i) rfl Tryz.underlying154 size_ext _ _ _ _ _ _ _ _ rfl rfl _ Y B2.out.drew (Nat.min_self _) HYL.out (hYc.out _ HG2.out) F2.out hY1.out ?_); intro w3 B3 O3)
        | fail)
      go_ret
      have q3 : Below w.heap.size w w3 := below_only ((below_only L1.out O2.out R1.out.1).trans ((drewed w2 1).mono (Nat.le_trans L1.out.size (Nat.le_of_eq O2.out.size.symm)))) O3.out R1.out.1
      have ea : i * 2 + 2 = (i + 1) * 2 := by omega
      have hl1 : i * 2 ≤ (cs.take (i * 2) ++ zs).length := by rw [E1.out]; omega
      have hl2 : i * 2 + 2 + Y.length ≤ (cs.take (i * 2) ++ zs).length := by rw [E1.out, HYL.out]; omega
      refine ⟨_, rfl, ?_, Spare.of_over _ q3, fun j hj => .inr ?_⟩
      · rw [← hk]
        refine fin.out w3 h1 cap _ (Nat.le_trans hb R1.out.1) B3.out ?_ hcap (by omega) ?_
        · rw [length_splice _ _ _ (by rw [length_splice _ _ _ (by rw [extCells_len]; omega), HYL.out, E1.out]; omega), length_splice _ _ _ (by rw [extCells_len]; omega), E1.out]
        · rw [← ea, splice2_take hl1 (extCells_len J) hl2, List.take_append_of_le_length (by rw [List.length_take, HL.out]; omega), List.take_take, Nat.min_self]
      · injection hj with hj
        rw [← hj]
        exact R1.out.1
set_option maxHeartbeats 4000000 in
theorem Replace_any (w : World) (base : Nat) (A : Option Addr) (n c i k vb : Nat) (l : List ExtV) (J : ExtV) (ho : OwnS extCells 2 158 w base (.slice A n c) l) (hik : i ≤ k) (hk : k ≤ n) (hn : l.length = n) (hn2 : n ≤ 65536) (hb : base ≤ w.heap.size)
    (hv : Blk w vb 158 (extCells J)) (hvn : (Value.slice A n c).ownBlock ≠ some vb) :
    Calls Tryz.prog 123 #[.slice A n c, .int .i64 (i : Nat), .int .i64 (k : Nat), .slice (some ⟨vb, 0, none⟩) 1 1] w (PutPostX w base (.slice A n c) l i k J) := by
  have hcm : c ≤ 9223372036854775807 ∧ n ≤ c := by
    rcases ho.2 with ⟨h1, _⟩ | ⟨g, cap, cur, h1, _, _, h2, h3, _⟩
    · injection h1 with _ h3 h4
      omega
    · injection h1 with _ h4 h5
      unfold maxLen at h3
      omega
  obtain ⟨hcm', hnc'⟩ := hcm
  by_cases hin : i = k
  · subst hin
    have CI := Lib.hid (Insert_any w base A n c i vb l J ho hk hn hn2 hb hv hvn)
    unfold PutPostX at CI ⊢
    clear ho hv hn
    rcases A with _ | ad
    · by_cases hci : c = i
      · obtain rfl : c = i := hci
        go_enter Tryz.func123, Tryz.ntmps123
        go_wp2_with fail
        refine CI.out.mono ?_
        rintro e w1 ⟨v1, rfl, h1, h2, h3⟩
        go_wp2_with fail
        go_ret
        exact ⟨_, rfl, h1, h2, h3⟩
      · go_enter Tryz.func123, Tryz.ntmps123
        go_wp2_with fail
        refine CI.out.mono ?_
        rintro e w1 ⟨v1, rfl, h1, h2, h3⟩
        go_wp2_with fail
        go_ret
        exact ⟨_, rfl, h1, h2, h3⟩
    · by_cases hci : c = i
      · obtain rfl : c = i := hci
        go_enter Tryz.func123, Tryz.ntmps123
        go_wp2_with fail
        refine CI.out.mono ?_
        rintro e w1 ⟨v1, rfl, h1, h2, h3⟩
        go_wp2_with fail
        go_ret
        exact ⟨_, rfl, h1, h2, h3⟩
      · go_enter Tryz.func123, Tryz.ntmps123
        go_wp2_with fail
        refine CI.out.mono ?_
        rintro e w1 ⟨v1, rfl, h1, h2, h3⟩
        go_wp2_with fail
        go_ret
        exact ⟨_, rfl, h1, h2, h3⟩
  · obtain ⟨g, c', hg⟩ := ho.form (show 0 < l.length by omega)
    obtain rfl : A = some ⟨g, 0, none⟩ := by injection hg
    clear hg
    obtain ⟨hbg, hln, hnc, hcm, cs, hB, hcl, htk⟩ := ho.blk
    have hgv : g ≠ vb := fun h => hvn (by rw [h]; rfl)
    have hparts := flat_parts l i k n J hn hik hk cs htk
    obtain ⟨m, hm⟩ : ∃ m, m = n - k := ⟨_, rfl⟩
    obtain ⟨t, ht⟩ : ∃ t, t = i + 1 + m := ⟨_, rfl⟩
    have hlen3 : (l.take i ++ [J] ++ l.drop k).length = t := by simp; omega
    obtain ⟨L3, hL3⟩ : ∃ L3, L3 = l.take i ++ [J] ++ l.drop k := ⟨_, rfl⟩
    unfold PutPostX
    rw [← hL3] at hparts hlen3 ⊢
    obtain ⟨Y, hY⟩ : ∃ Y, Y = (cs.take (n * 2)).drop (k * 2) := ⟨_, rfl⟩
    rw [← hY] at hparts
    have hYl : Y.length = m * 2 := by rw [hY, List.length_drop, List.length_take, hcl]; omega
    have hYc : Hid (∀ w2, Blk w2 g 158 (splice cs (i * 2) (extCells J)) → ∀ j v, Y[j]? = some v → w2.cell? ⟨g, k * 2 + j, none⟩ = some v) := fun w2 h j v hj => by
      have hjl := (List.getElem?_eq_some_iff.1 hj).1
      rw [h.cell, ← hj, hY, List.getElem?_drop, List.getElem?_take, if_pos (by omega)]
      unfold splice
      have e1 : (cs.take (i * 2)).length = i * 2 := by rw [List.length_take]; omega
      rw [List.getElem?_append_right (by omega), e1, List.getElem?_append_right (by rw [extCells_len]; omega), extCells_len, List.getElem?_drop]
      congr 1
      omega
    have hY1 : Hid (∀ v ∈ Y, v.oneCell' = true) := fun v hv => by
      rw [hY, htk] at hv
      obtain ⟨y, _, hy⟩ := List.mem_flatMap.1 (List.mem_of_mem_drop hv)
      exact extCells_one y v hy
    have hJ : Hid (∀ w2, Blk w2 vb 158 (extCells J) → ∀ j u, (extCells J)[j]? = some u → w2.cell? ⟨vb, 0 + j, none⟩ = some u) := fun w2 h j u hj => by rw [Nat.zero_add, h.cell, hj]
    have HV := Lib.hid hv
    have HB0 := Lib.hid hB
    have HL := Lib.hid hcl
    have HP := Lib.hid hparts
    have H3 := Lib.hid hlen3
    have HYL := Lib.hid hYl
    have one : Hid (∀ v ∈ extCells J, v.oneCell' = true) := extCells_one J
    have zone : Hid (∀ v ∈ (Value.agg #[.int .i64 0, .slice none 0 0]).cells, v.oneCell' = true) := by show ∀ v ∈ _, _; decide
    have hic : ¬ c = i := by omega
    have hic2 : i ≤ c := by omega
    have hkc : k ≤ c := by omega
    have hc0 : ¬ c = 0 := by omega
    have hne : ¬ (i : Int) = (k : Int) := by omega
    have hik' : (i : Int) ≤ (k : Int) := by omega
    have hin' : (i : Int) ≤ (n : Int) := by omega
    have fin : Hid (∀ w2 cur, Blk w2 g 158 cur → cur.length = c * 2 → cur.take (i * 2 + 2 + Y.length) = cs.take (i * 2) ++ extCells J ++ Y → OwnS extCells 2 158 w2 base (.slice (some ⟨g, 0, none⟩) t c) L3) := fun w2 cur h2 h3 h6 => by
      refine OwnS.of_blk extCells_len hbg h2 h3 hcm H3.out (by omega) ?_
      rw [HP.out, ← h6, HYL.out]
      congr 1
      omega
    have h01 : (0 : Int) ≤ (i : Int) + 1 := by omega
    have hui : IntKind.i64.wrap ((i : Int) + 1) = (i : Int) + 1 := by rw [IntKind.wrap_i64]; omega
    have htn : ((i : Int) + 1).toNat = i + 1 := by omega
    have HT := Lib.hid ht
    have HM := Lib.hid hm
    by_cases hkn : k = n
    · subst hkn
      obtain rfl : m = 0 := by omega
      obtain rfl : t = i + 1 := by omega
      have F1 : Hid (i * 2 + 1 * 2 ≤ cs.length) := by show _ ≤ _; rw [HL.out]; omega
      have e1 : (splice cs (i * 2) (extCells J)).length = c * 2 := by rw [length_splice _ _ _ (by rw [extCells_len, HL.out]; omega), HL.out]
      have e2 : (splice cs (i * 2) (extCells J)).take (i * 2 + 2) = cs.take (i * 2) ++ extCells J := by
        unfold splice
        rw [← List.append_assoc, List.take_left' (by rw [List.length_append, List.length_take, extCells_len, HL.out]; omega)]
      have E1 := Lib.hid e1
      have E2 := Lib.hid e2
      have hY0 : Hid (Y = []) := List.eq_nil_of_length_eq_zero (by rw [HYL.out])
      clear hB hcl htk ho hln hn hL3 hY hYl hparts hlen3 hvn hv ht hm e1 e2 hik' hin'
      by_cases hlt : i + 1 < k
      · have hd : decide ((i : Int) + 1 < (k : Int)) = true := decide_eq_true (by omega)
        have F2 : Hid ((i + 1) * 2 + (k - (i + 1)) * 2 ≤ (splice cs (i * 2) (extCells J)).length) := by show _ ≤ _; rw [E1.out]; omega
        have hci1 : ¬ c = i + 1 := by omega
        go_enter Tryz.func123, Tryz.ntmps123
        go_wp2_with (first
          | (at_builtin; go_loud (refine wpList_append_room rfl (.tmp 32) (.tmp 33) 154 158 2 rfl Tryz.underlying154 size_ext _ _ _ _ _ _ _ rfl rfl cs (extCells J) HB0.out rfl (hJ.out _ HV.out) (by omega) F1.out one.out ?_); intro w1 B1 O1)
          | ((with_reducible show wpList _ _ _ (⟨none, .call _, _, _, _, _⟩ :: _) _ _); go_loud (refine wpList_clear_blk rfl (.tmp 43) 154 158 158 2 _ [] rfl Tryz.underlying154 zero_ext rfl zone.out (by decide) g ((i + 1) * 2) (k - (i + 1)) _ _ rfl (fun _ => rfl) _ B1.out F2.out ?_); intro w2 zs Z2 B2 O2)
          | fail)
        go_ret
        have q2 : Only g w w2 := only_two O1.out O2.out
        refine ⟨_, rfl, ?_, (Spare.of_only q2).mono fun j _ hj => by rw [hj]; rfl, fun j hj => .inl hj⟩
        refine fin.out w2 _ B2.out ?_ ?_
        · rw [length_splice _ _ _ (by rw [E1.out, Z2.out]; omega), E1.out]
        · rw [hY0.out, List.length_nil, Nat.add_zero, List.append_nil, ← E2.out]
          unfold splice
          rw [List.take_append_of_le_length (by rw [List.length_take]; have := E1.out; unfold splice at this; omega), List.take_take, Nat.min_eq_left (by omega)]
      · obtain rfl : k = i + 1 := by omega
        have hd : decide ((i : Int) + 1 < (i : Int) + 1) = false := decide_eq_false (by omega)
        go_enter Tryz.func123, Tryz.ntmps123
        go_wp2_with (first
          | (at_builtin; go_loud (refine wpList_append_room rfl (.tmp 32) (.tmp 33) 154 158 2 rfl Tryz.underlying154 size_ext _ _ _ _ _ _ _ rfl rfl cs (extCells J) HB0.out rfl (hJ.out _ HV.out) (by omega) F1.out one.out ?_); intro w1 B1 O1)
          | fail)
        go_ret
        refine ⟨_, rfl, ?_, (Spare.of_only O1.out).mono fun j _ hj => by rw [hj]; rfl, fun j hj => .inl hj⟩
        refine fin.out w1 _ B1.out E1.out ?_
        rw [hY0.out, List.length_nil, Nat.add_zero, List.append_nil, E2.out]
    · have hkn' : ¬ (k : Int) = (n : Int) := by omega
      have hkl : (k : Int) ≤ (n : Int) := by omega
      have hck : ¬ c = k := by omega
      have hw1 : IntKind.i64.wrap ((i : Int) + 1 + (m : Int)) = (t : Int) := by rw [IntKind.wrap_i64]; omega
      have hnk : n - k = m := hm.symm
      have htc : t ≤ c := by omega
      have htk2 : decide ((c : Int) < (t : Int)) = false := decide_eq_false (by omega)
      have hle : decide ((i : Int) + 1 ≤ (k : Int)) = true := decide_eq_true (by omega)
      have hci1 : ¬ c = i + 1 := by omega
      have hit : (i : Int) ≤ (t : Int) := by omega
      have hti : 1 ≤ t - i := by omega
      have htn1 : t - (i + 1) = m := by omega
      have hit1 : (i : Int) + 1 ≤ (t : Int) := by omega
      have htle : (t : Int) ≤ (n : Int) := by omega
      have htnn : t ≤ n := by omega
      have F1 : Hid (i * 2 + 1 * 2 ≤ cs.length) := by show _ ≤ _; rw [HL.out]; omega
      have e1 : (splice cs (i * 2) (extCells J)).length = c * 2 := by rw [length_splice _ _ _ (by rw [extCells_len, HL.out]; omega), HL.out]
      have F2 : Hid ((i + 1) * 2 + m * 2 ≤ (splice cs (i * 2) (extCells J)).length) := by show _ ≤ _; rw [e1]; omega
      have e2 : (splice (splice cs (i * 2) (extCells J)) ((i + 1) * 2) Y).length = c * 2 := by rw [length_splice _ _ _ (by rw [e1, HYL.out]; omega), e1]
      have F3 : Hid (t * 2 + (n - t) * 2 ≤ (splice (splice cs (i * 2) (extCells J)) ((i + 1) * 2) Y).length) := by show _ ≤ _; rw [e2]; omega
      have E2 := Lib.hid e2
      have ea : i * 2 + 2 = (i + 1) * 2 := by omega
      have hl1 : i * 2 ≤ cs.length := by rw [HL.out]; omega
      have hl2 : i * 2 + 2 + Y.length ≤ cs.length := by rw [HL.out, HYL.out]; omega
      have e3 := splice2_take hl1 (extCells_len J) hl2
      rw [ea] at e3
      have hyt : (i + 1) * 2 + Y.length = t * 2 := by rw [HYL.out]; omega
      rw [hyt] at e3
      have E3 := Lib.hid e3
      have hmm : Nat.min m m = m := Nat.min_self m
      have fin2 : Hid (∀ w2 zs, zs.length = (n - t) * 2 → Blk w2 g 158 (splice (splice (splice cs (i * 2) (extCells J)) ((i + 1) * 2) Y) (t * 2) zs) → OwnS extCells 2 158 w2 base (.slice (some ⟨g, 0, none⟩) t c) L3) := fun w2 zs hz h2 => by
        refine fin.out w2 _ h2 ?_ ?_
        · rw [length_splice _ _ _ (by rw [E2.out, hz]; omega), E2.out]
        · rw [ea, hyt, ← E3.out, splice_take (by rw [E2.out]; omega)]
      clear hB hcl htk ho hln hn hL3 hY hYl hparts hlen3 hvn hv ht hm e1 e2 e3 hyt hl1 hl2 ea hik' hin'
      by_cases hct : c = t
      · obtain rfl : n = t := by omega
        obtain rfl : c = n := hct
        have F3 : Hid (c * 2 + 0 * 2 ≤ (splice (splice cs (i * 2) (extCells J)) ((i + 1) * 2) Y).length) := by show _ ≤ _; rw [E2.out]; omega
        go_enter Tryz.func123, Tryz.ntmps123
        go_upto_region 9 with fail
        go_quiet (fail)
        go_upto_region 18 with (first
          | ((with_reducible show wpList _ _ _ (⟨some 97, _, _, _, _, _⟩ :: _) _ _); go_loud (refine wpList_copy_blk rfl (.tmp 95) (.tmp 96) 154 158 158 2 1 rfl Tryz.underlying154 size_ext _ _ _ _ _ _ _ _ rfl rfl _ (extCells J) HB0.out.drew (Nat.min_eq_left hti) rfl (hJ.out _ HV.out.drew) F1.out one.out ?_); intro w1 B1 O1)
          | fail)
        go_still_tail 9, (by kernel_rfl)
        change wpList _ _ _ _ _ w1.drew
        go_wp2_with (first
          | ((with_reducible show wpList _ _ _ (⟨some 107, _, _, _, _, _⟩ :: _) _ _); go_loud (refine wpList_copy_blk rfl (.tmp 103) (.tmp 106) 154 158 158 2 m rfl Tryz.underlying154 size_ext _ _ _ _ _ _ _ _ rfl rfl _ Y B1.out.drew hmm HYL.out (hYc.out _ B1.out.drew) F2.out hY1.out ?_); intro w2 B2 O2)
          | ((with_reducible show wpList _ _ _ (⟨none, .call _, _, _, _, _⟩ :: _) _ _); go_loud (refine wpList_clear_blk rfl (.tmp 110) 154 158 158 2 _ [] rfl Tryz.underlying154 zero_ext rfl zone.out (by decide) g (c * 2) 0 _ _ rfl (fun h => absurd h (Nat.lt_irrefl _)) _ B2.out F3.out ?_); intro w3 zs Z3 B3 O3)
          | fail)
        go_ret
        have q3 : Only g w w3 := (only_two (only_two ⟨O1.out.os, O1.out.tape, O1.out.output, O1.out.size, O1.out.rest⟩ ⟨O2.out.os, O2.out.tape, O2.out.output, O2.out.size, O2.out.rest⟩) O3.out)
        exact ⟨_, rfl, fin2.out w3 zs (by rw [Z3.out]; omega) B3.out, (Spare.of_only q3).mono fun j _ hj => by rw [hj]; rfl, fun j hj => .inl hj⟩
      · go_enter Tryz.func123, Tryz.ntmps123
        go_upto_region 9 with fail
        go_quiet (fail)
        go_upto_region 18 with (first
          | ((with_reducible show wpList _ _ _ (⟨some 97, _, _, _, _, _⟩ :: _) _ _); go_loud (refine wpList_copy_blk rfl (.tmp 95) (.tmp 96) 154 158 158 2 1 rfl Tryz.underlying154 size_ext _ _ _ _ _ _ _ _ rfl rfl _ (extCells J) HB0.out.drew (Nat.min_eq_left hti) rfl (hJ.out _ HV.out.drew) F1.out one.out ?_); intro w1 B1 O1)
          | fail)
        go_still_tail 9, (by kernel_rfl)
        change wpList _ _ _ _ _ w1.drew
        go_wp2_with (first
          | ((with_reducible show wpList _ _ _ (⟨some 107, _, _, _, _, _⟩ :: _) _ _); go_loud (refine wpList_copy_blk rfl (.tmp 103) (.tmp 106) 154 158 158 2 m rfl Tryz.underlying154 size_ext _ _ _ _ _ _ _ _ rfl rfl _ Y B1.out.drew hmm HYL.out (hYc.out _ B1.out.drew) F2.out hY1.out ?_); intro w2 B2 O2)
          | ((with_reducible show wpList _ _ _ (⟨none, .call _, _, _, _, _⟩ :: _) _ _); go_loud (refine wpList_clear_blk rfl (.tmp 110) 154 158 158 2 _ [] rfl Tryz.underlying154 zero_ext rfl zone.out (by decide) g (t * 2) (n - t) _ _ rfl (fun _ => rfl) _ B2.out F3.out ?_); intro w3 zs Z3 B3 O3)
          | fail)
        go_ret
        have q3 : Only g w w3 := (only_two (only_two ⟨O1.out.os, O1.out.tape, O1.out.output, O1.out.size, O1.out.rest⟩ ⟨O2.out.os, O2.out.tape, O2.out.output, O2.out.size, O2.out.rest⟩) O3.out)
        exact ⟨_, rfl, fin2.out w3 zs Z3.out B3.out, (Spare.of_only q3).mono fun j _ hj => by rw [hj]; rfl, fun j hj => .inl hj⟩
end Go.Proofs.YtdgpbhdihhchgaaGreatDoor

namespace Go.Proofs.YtdgpbhdihhchgaaGreatDoor
set_option linter.all false
set_option maxRecDepth 100000
open Go.RowKit
set_option linter.unusedVariables false
theorem OwnS.oneC {α : Type} {f : α → List Value} {s : Nat} {e : TypeId} {w : World} {base : Nat} {v : Value} {xs : List α} (h : OwnS f s e w base v xs) : v.oneCell' = true := by
  rcases h.2 with ⟨rfl, _⟩ | ⟨_, _, _, rfl, _⟩ <;> rfl
theorem spare_cell {S : Nat → Prop} {w w' : World} {p : Addr} (a : Spare S w w') (hp : ¬ S p.block) (hlt : p.block < w.heap.size) : w'.cell? p = w.cell? p := by
  unfold World.cell?
  rw [a.rest p.block hlt hp]
theorem range_spare {S : Nat → Prop} {w w' : World} {b i : Nat} {cs : List Value} (h : w.rangeAt b i cs) (a : Spare S w w') (hp : ¬ S b) (hlt : b < w.heap.size) : w'.rangeAt b i cs := fun j v hj => by
  rw [spare_cell a (by exact hp) (by exact hlt)]
  exact h j v hj
/-- a block of one type is not another's -/
theorem Blk.ne_own {α : Type} {f : α → List Value} {s : Nat} {e T : TypeId} {w : World} {base g : Nat} {v : Value} {xs : List α} {cs : List Value} (h : Blk w g T cs) (o : OwnS f s e w base v xs) (hT : T ≠ e) : v.ownBlock ≠ some g := fun hv => by
  obtain ⟨_, cs', hcs⟩ := o.block hv
  rw [show w.heap[g]? = _ from h] at hcs
  simp only [Option.some.injEq, Obj.cells.injEq] at hcs
  exact hT hcs.2.1
theorem OwnB.ne_blk {Z : Bool} {T : TypeId} {w : World} {base g : Nat} {v : Value} {xs : List Int} {cs : List Value} (o : OwnB Z w base v xs) (h : Blk w g T cs) (hT : T ≠ 5) : v.ownBlock ≠ some g := fun hv => by
  obtain ⟨_, cs', hcs⟩ := o.1.block hv
  rw [show w.heap[g]? = _ from h] at hcs
  simp only [Option.some.injEq, Obj.cells.injEq] at hcs
  exact hT hcs.2.1
theorem OwnB.ne_own {α : Type} {f : α → List Value} {s : Nat} {e : TypeId} {Z : Bool} {w : World} {base base' i : Nat} {v u : Value} {xs : List Int} {ys : List α} (o : OwnB Z w base v xs) (h : OwnS f s e w base' u ys) (hT : e ≠ 5) (hi : v.ownBlock = some i) : u.ownBlock ≠ some i := fun hu => by
  obtain ⟨_, cs1, h1⟩ := o.1.block hi
  obtain ⟨_, cs2, h2⟩ := h.block hu
  rw [h1] at h2
  simp only [Option.some.injEq, Obj.cells.injEq] at h2
  exact hT h2.2.1.symm
def PWrPost (w : World) (base q : Nat) (v : Value) (l : List ExtV) (B : List Int) (Z : List Bool) (a : Int) (xs : List Int) (e : Ending) (w' : World) : Prop :=
  e = .returned (.int .i64 (exWrE a xs.length)) ∧ ∃ v' l', PDat w' base q v' l' (exWr 0 B a xs) (exWr false Z a (List.replicate xs.length true)) ∧ Spare (pdS q v l) w w' ∧ ∀ j, pdS q v' l' j → pdS q v l j ∨ w.heap.size ≤ j
/-- what is known of the file behind a Write -/
theorem PDat.wrote {w w8 w9 w12 : World} {base q : Nat} {v v' : Value} {l : List ExtV} {B : List Int} {Z : List Bool} (d : PDat w base q v l B Z) {p n f h a t hj M : Nat} {xs : List Int} (r : WrOk l p n f h a t) (hn : xs.length = n) (h0 : 0 < n) (hp : p + n ≤ 65536) (hx : Bytes xs) (hb : base ≤ w.heap.size)
    (hM : M = max B.length (p + n)) (L8 : Below w.heap.size w w8) (hjw : w.heap.size ≤ hj) (RJ : Row w8 hj (layB (joinX a (t - a) ((l.take h).drop f) (h - f)) (p - a) xs))
    (O9 : OwnS extCells 2 158 w9 base v' (l.take f ++ [((a, some ⟨hj, 0, none⟩, t - a, t - a, layB (joinX a (t - a) ((l.take h).drop f) (h - f)) (p - a) xs) : ExtV)] ++ l.drop h)) (S9 : Spare (fun k => v.ownBlock = some k) w8 w9) (N9 : Wander w8 v v') (P12 : Spare (fun k => k = q) w9 w12) (BQ : Blk w12 q 156 [.bool true, .int .i64 (M : Nat), v']) :
    ∃ l', PDat w12 base q v' l' (layAt 0 B p xs) (layAt false Z p (List.replicate n true)) ∧ Spare (pdS q v l) w w12 ∧ ∀ j, pdS q v' l' j → pdS q v l j ∨ w.heap.size ≤ j := by
  obtain ⟨hcan, hXl⟩ := r.can d.can d.lens d.zero d.len hn h0 (some ⟨hj, 0, none⟩) (t - a) (t - a)
  obtain ⟨X, hX⟩ : ∃ X, X = layB (joinX a (t - a) ((l.take h).drop f) (h - f)) (p - a) xs := ⟨_, rfl⟩
  rw [← hX] at hcan hXl RJ O9
  have hd8 := d.below L8
  have hq9 : Blk w9 q 156 [.bool true, .int .i64 (B.length : Nat), v] := hd8.blk.spare S9 fun e => hd8.blk.ne_own hd8.row (by decide) e
  have hv'q : v'.ownBlock ≠ some q := hq9.ne_own O9 (by decide)
  have htn : t - a ≤ maxLen := by
    have h1 := hcan.ends (a, X) (by unfold extsL; simp)
    rw [layAt_len, hn] at h1
    have h2 := d.small
    have h1 : a + X.length ≤ _ := h1
    unfold maxLen
    omega
  have hJ8 : OwnB false w8 base (.slice (some ⟨hj, 0, none⟩) (t - a) (t - a)) X := OwnB.of_z ((RJ.ownZ hjw hXl htn).mono hb) false
  have each9 : ∀ x ∈ l.take f ++ [((a, some ⟨hj, 0, none⟩, t - a, t - a, X) : ExtV)] ++ l.drop h, OwnB false w8 base (partV x.2) x.2.2.2.2 ∧ ∀ i, (partV x.2).ownBlock = some i → pdS q v l i ∨ w.heap.size ≤ i := fun x hx => by
    rcases List.mem_append.1 hx with hx | hx
    · rcases List.mem_append.1 hx with hx | hx
      · have hm := List.mem_of_mem_take hx
        exact ⟨hd8.each x hm, fun i hi => .inl (.inr (.inr ⟨x, hm, hi⟩))⟩
      · rw [List.mem_singleton.1 hx]
        exact ⟨hJ8, fun i hi => .inr (by injection hi with hi; rw [← hi]; exact hjw)⟩
    · have hm := List.mem_of_mem_drop hx
      exact ⟨hd8.each x hm, fun i hi => .inl (.inr (.inr ⟨x, hm, hi⟩))⟩
  refine ⟨_, ⟨d.ge, ?_, O9.sparS P12 (fun i hi e => hv'q (by rw [hi, e])), fun x hx => ?_, hcan, lay_zero hn d.zero, ?_, ?_, layAt_bytes d.byte hx p⟩, ?_, fun j hj' => ?_⟩
  · rw [layAt_len, hn, ← hM]
    exact BQ
  · obtain ⟨h1, _⟩ := each9 x hx
    have h2 := h1.spare S9 fun i hi e => h1.ne_own hd8.row (by decide) hi e
    exact h2.spare P12 fun i hi e => h2.ne_blk hq9 (by decide) (by rw [hi, e])
  · rw [layAt_len, layAt_len, List.length_replicate, hn, d.len]
  · rw [layAt_len, hn]
    have := d.small
    omega
  · refine ((Spare.of_over (pdS q v l) L8).trans (S9.mono (S' := pdS q v l) fun j _ hj => .inr (.inl hj)) fun j _ h => h).trans (P12.mono (S' := pdS q v l) fun j _ hj => .inl hj) fun j _ h => h
  · rcases hj' with rfl | hj' | ⟨x, hx, hj'⟩
    · exact .inl (.inl rfl)
    · rcases N9 j hj' with h1 | h1
      · exact .inl (.inr (.inl h1))
      · exact .inr (Nat.le_trans L8.size h1)
    · exact (each9 x hx).2 j hj'
set_option maxHeartbeats 8000000 in
theorem PWrite_any (w : World) (base q : Nat) (v : Value) (l : List ExtV) (B : List Int) (Z : List Bool) (d : PDat w base q v l B Z) (a0 : Int) (ha : -9223372036854775808 ≤ a0 ∧ a0 ≤ 9223372036854775807) (A : Option Addr) (n c : Nat) (xs : List Int) (hx : Holds w w.heap.size A n c xs) (hc : c ≤ 140737488355328) (hb : base ≤ w.heap.size) :
    Calls Tryz.prog 76 #[ptr q, .int .i64 a0, .slice A n c] w (PWrPost w base q v l B Z a0 xs) := by
  unfold PWrPost ptr
  have hsm := d.small
  have hxl := hx.len
  have hnc := hx.fit
  have q0 : w.cell? ⟨q, 0, none⟩ = some (.bool true) := d.blk.cell 0
  have q1 : w.cell? ⟨q, 1, none⟩ = some (.int .i64 (B.length : Nat)) := d.blk.cell 1
  have CN := Lib.hid (none_any w q q0)
  have hE : exWrE a0 n = if a0 < 0 then 2 else if n = 0 then 0 else if 65536 < a0 + n then 3 else 0 := rfl
  have same : exWrE a0 n ≠ 0 ∨ n = 0 → (exWr 0 B a0 xs) = B ∧ exWr false Z a0 (List.replicate n true) = Z := fun h => by
    unfold exWr
    rw [List.length_replicate, hxl]
    rcases h with h | h
    · rw [if_neg (fun e => h e.1), if_neg (fun e => h e.1)]
      exact ⟨rfl, rfl⟩
    · subst h
      obtain rfl : xs = [] := List.eq_nil_of_length_eq_zero hxl
      rw [if_neg (fun e => e.2 rfl), if_neg (fun e => e.2 rfl)]
      exact ⟨rfl, rfl⟩
  rw [hxl]
  obtain ⟨ha0, ha1⟩ := ha
  have D := Lib.hid d
  have HX := Lib.hid hx
  have SAME := Lib.hid same
  clear d hx same
  by_cases h1 : a0 < 0
  · rw [if_pos h1] at hE
    have hs := SAME.out (.inl (by rw [hE]; decide))
    rw [hE, hs.1, hs.2]
    clear hE hs
    go_enter Tryz.func76, Tryz.ntmps76
    go_wp2_with fail
    refine CN.out.mono ?_
    rintro e w1 ⟨rfl, rfl⟩
    go_wp2_with fail
    go_ret
    exact ⟨rfl, _, _, D.out, Spare.refl _ _, fun j hj => .inl hj⟩
  · rw [if_neg h1] at hE
    by_cases h2 : n = 0
    · rw [if_pos h2] at hE
      have hs := SAME.out (.inr h2)
      rw [hE, hs.1, hs.2]
      clear hE hs
      have h2' : ((n : Int) == 0) = true := by simpa using h2
      go_enter Tryz.func76, Tryz.ntmps76
      go_wp2_with fail
      refine CN.out.mono ?_
      rintro e w1 ⟨rfl, rfl⟩
      go_wp2_with fail
      go_ret
      exact ⟨rfl, _, _, D.out, Spare.refl _ _, fun j hj => .inl hj⟩
    · rw [if_neg h2] at hE
      have h2' : ((n : Int) == 0) = false := by simpa using h2
      by_cases h3 : 65536 < a0 + n
      · rw [if_pos h3] at hE
        have hs := SAME.out (.inl (by rw [hE]; decide))
        rw [hE, hs.1, hs.2]
        clear hE hs
        have h3' : decide ((65536 : Int) - (n : Int) < a0) = true := decide_eq_true (by omega)
        go_enter Tryz.func76, Tryz.ntmps76
        go_wp2_with fail
        refine CN.out.mono ?_
        rintro e w1 ⟨rfl, rfl⟩
        go_wp2_with fail
        go_ret
        exact ⟨rfl, _, _, D.out, Spare.refl _ _, fun j hj => .inl hj⟩
      · rw [if_neg h3] at hE
        have h3' : decide ((65536 : Int) - (n : Int) < a0) = false := decide_eq_false (by omega)
        obtain ⟨p, rfl⟩ := Int.eq_ofNat_of_zero_le (show 0 ≤ a0 by omega)
        have hpn : p + n ≤ 65536 := by omega
        have hB' : exWr 0 B (p : Int) xs = layAt 0 B p xs ∧ exWr false Z (p : Int) (List.replicate n true) = layAt false Z p (List.replicate n true) := by
          have hne : xs ≠ [] := fun e => h2 (by rw [← hxl, e]; rfl)
          have hne2 : List.replicate n true ≠ [] := fun e => h2 (by have := congrArg List.length e; simpa using this)
          unfold exWr
          rw [List.length_replicate, hxl, hE, if_pos ⟨rfl, hne⟩, if_pos ⟨rfl, hne2⟩, Int.toNat_natCast]
          exact ⟨rfl, rfl⟩
        rw [hE, hB'.1, hB'.2]
        clear hE hB'
        have hw1 : IntKind.i64.wrap ((p : Int) - 1) = (p : Int) - 1 := by rw [IntKind.wrap_i64]; omega
        have hw2 : IntKind.i64.wrap ((p : Int) + (n : Int) + 1) = (p : Int) + (n : Int) + 1 := by rw [IntKind.wrap_i64]; omega
        obtain ⟨f, hf, f0, f1⟩ := D.out.halfE ((p : Int) - 1)
        obtain ⟨h, hh, g0, g1⟩ := D.out.halfB ((p : Int) + (n : Int) + 1)
        have CF : Hid (∀ w2, Below w.heap.size w w2 → Calls Tryz.prog 111 #[.pointer (some ⟨q, 0, none⟩), .int .i64 ((p : Int) - 1)] w2 fun e w' => e = .returned (.int .i64 (f : Nat)) ∧ Below w2.heap.size w2 w') := fun w2 hb => ending_any w2 base q v l B Z (D.out.below hb) _ f hf f0 f1
        have CH : Hid (∀ w2, Below w.heap.size w w2 → Calls Tryz.prog 112 #[.pointer (some ⟨q, 0, none⟩), .int .i64 ((p : Int) + (n : Int) + 1)] w2 fun e w' => e = .returned (.int .i64 (h : Nat)) ∧ Below w2.heap.size w2 w') := fun w2 hb => begin_any w2 base q v l B Z (D.out.below hb) _ h hh g0 g1
        obtain ⟨a, t, WR⟩ := wr_ok D.out.can D.out.lens (show 0 < n by omega) hf hh f0 f1 (fun i x hi hx => by have := g0 i x hi hx; omega) (fun i x hi hx => by have := g1 i x hi hx; omega)
        obtain ⟨Av, nv, cv, rfl, hv⟩ := D.out.lst
        have hnl := hv.len
        have q2 : w.cell? ⟨q, 2, none⟩ = some (.slice Av nv cv) := D.out.blk.cell 2
        have hcm : cv ≤ maxLen := by
          rcases D.out.row.2 with ⟨e1, _⟩ | ⟨_, cap, _, e1, _, _, _, e2, _⟩
          · injection e1 with _ _ e3
            rw [e3]
            exact Nat.zero_le _
          · injection e1 with _ _ e3
            rw [e3]
            exact e2
        have hap := WR.ap
        have hpt := WR.pt
        have ht65 : t ≤ 65536 := by
          rcases Nat.eq_zero_or_pos (h - f) with h0 | h0
          · have := (WR.none h0).2
            omega
          · obtain ⟨y, hy⟩ : ∃ y, ((l.take h).drop f)[h - f - 1]? = some y := ⟨_, List.getElem?_eq_getElem (show h - f - 1 < _ by rw [sub_len hh]; omega)⟩
            have e1 := WR.lst _ h0 hy
            have e2 := D.out.ends y (List.mem_of_getElem? (sub_at hy).2)
            omega
        obtain ⟨A5, c5, hsl, hlo⟩ := slice_ext w w.heap.size Av nv cv f h l hv WR.fh (by omega) hcm
        have HSL := Lib.hid hsl
        obtain ⟨X, hX⟩ : ∃ X, X = layB (joinX a (t - a) ((l.take h).drop f) (h - f)) (p - a) xs := ⟨_, rfl⟩
        have hn65 : nv ≤ 65536 := by have := D.out.lenS; omega
        have CJ : Hid (∀ w2, Below w.heap.size w w2 → Calls Tryz.prog 124 #[.slice A5 (h - f) c5, .agg #[.int .i64 (p : Nat), .slice A n c]] w2 fun e w' => ∃ hj, e = .returned (.agg #[.int .i64 (a : Nat), .slice (some ⟨hj, 0, none⟩) (t - a) (t - a)]) ∧ w2.heap.size ≤ hj ∧ Row w' hj X ∧ Below w2.heap.size w2 w') := fun w2 hb2 => by
          rw [hX]
          exact joined_any w2 A5 (h - f) c5 ((l.take h).drop f) ((hlo.below hb2).mono hb2.size) (by omega) p n c a t A xs ((HX.out.below hb2).mono hb2.size) (by omega) hpn ht65 WR.none WR.fst WR.lst WR.fit
        have hvq : Hid ((Value.slice Av nv cv).ownBlock ≠ some q) := D.out.blk.ne_own D.out.row (by decide)
        have hvlt : Hid (∀ i, (Value.slice Av nv cv).ownBlock = some i → i < w.heap.size) := fun i hi => D.out.row.lt hi
        have RPL : Hid (∀ w8, Below w.heap.size w w8 → ∀ gv hj, w.heap.size ≤ gv → Blk w8 gv 158 [.int .i64 (a : Nat), .slice (some ⟨hj, 0, none⟩) (t - a) (t - a)] → Calls Tryz.prog 123 #[.slice Av nv cv, .int .i64 (f : Nat), .int .i64 (h : Nat), .slice (some ⟨gv, 0, none⟩) 1 1] w8 (PutPostX w8 base (.slice Av nv cv) l f h (a, some ⟨hj, 0, none⟩, t - a, t - a, X))) := fun w8 hb8 gv hj hgv hV =>
          Replace_any w8 base Av nv cv f h gv l (a, some ⟨hj, 0, none⟩, t - a, t - a, X) (D.out.row.below hb8) WR.fh (by omega) hnl hn65 (Nat.le_trans hb hb8.size) hV (fun e => by have := hvlt.out gv e; omega)
        unfold PutPostX at RPL
        obtain ⟨N, hN⟩ : ∃ N, N = t - a := ⟨_, rfl⟩
        have HWR := Lib.hid WR
        have HXX := Lib.hid hX
        have HNN := Lib.hid hN
        have BQ := Lib.hid D.out.blk
        obtain ⟨L, hL⟩ : ∃ n, n = B.length := ⟨_, rfl⟩
        have HLL := Lib.hid hL
        obtain ⟨M, hM⟩ : ∃ m, m = max L (p + n) := ⟨_, rfl⟩
        have hmax : max (L : Int) ((p + n : Nat) : Int) = (M : Int) := by omega
        have hmax2 : max (L : Int) ((p : Int) + (n : Int)) = (M : Int) := by omega
        have HMM : Hid (M = max B.length (p + n)) := by show _ = _; rw [← hL]; exact hM
        rw [← hN] at CJ RPL
        rw [← hL] at BQ q1 hsm
        have hpn2 : p ≤ 4611686018427387903 := by omega
        have hfh := WR.fh
        clear hsl hlo hv hX hN hL hM f0 f1 g0 g1 WR hf hh hap hpt
        go_enter Tryz.func76, Tryz.ntmps76
        go_wp2_with fail
        refine CN.out.mono ?_
        rintro e w1 ⟨rfl, rfl⟩
        have ZX := Lib.hid zero_ext2
        go_upto_region 10 with (first
          | ((with_reducible show wpList _ _ _ (⟨some 28, _, _, _, _, _⟩ :: _) _ _); go_loud (refine wpList_build_blk rfl _ _ rfl [.int .i64 (p : Nat), .slice A n c] (by kernel_rfl) ?_))
          | ((with_reducible show wpList _ _ _ (⟨some 7, _, _, _, _, _⟩ :: _) _ _); go_loud (refine wpList_alloc_blk rfl _ rfl [.int .i64 0, .slice none 0 0] _ ZX ?_); intro g7 w1 hg71 hg72 B1 L1)
          | ((with_reducible show wpList _ _ _ (⟨none, .store _ _ _, _, _, _, _⟩ :: _) _ _); go_loud (refine wpList_store_blk rfl _ (.tmp 7) (.tmp 28) rfl g7 rfl _ [.int .i64 0, .slice none 0 0] [.int .i64 (p : Nat), .slice A n c] rfl B1 2 size_ext rfl rfl (ext_one _ _ rfl) ?_); intro w2 B2 O2 hg7')
          | fail)
        have hg7 : Hid (g7 < w2.heap.size) := hg7'
        have L2 := Lib.hid (below_only L1.out O2.out hg71)
        clear L1 B1 O2 hg7'
        refine wp_region_held (S := fun w' => w'.rangeAt g7 0 [.int .i64 (p : Nat), .slice A n c]) (by kernel_rfl) ?_
        change wpAnyH _ _ _ _ _ _ _ _ w2.drew
        have Sr0 : Hid (w2.drew.rangeAt g7 0 [.int .i64 (p : Nat), .slice A n c]) := fun j v h => (B2.out.range 0) j v h
        have br0 : Hid (True) := trivial
        refine wpAnyH_take (i := 0) (v := _) rfl (by kernel_rfl) (by kernel_rfl) (by kernel_rfl) (fun _ _ _ h => h) (yieldsIf_move (by kernel_rfl) (.tmp 0) rfl (.pointer (some ⟨q, 0, none⟩)) (by kernel_rfl)) Sr0.out ?_
        refine wpAnyH_take (i := 1) (v := _) rfl (by kernel_rfl) (by kernel_rfl) (by kernel_rfl) (fun _ _ _ h => h) (yieldsIf_move (by kernel_rfl) (.tmp 1) rfl (.int .i64 (p : Nat)) (by kernel_rfl)) Sr0.out ?_
        refine wpAnyH_take (i := 2) (v := .int .i64 ((p : Int) - 1)) rfl (by kernel_rfl) (by kernel_rfl) (by kernel_rfl) (fun _ _ _ h => h) (.inl ⟨by kernel_rfl, fun w _ => by go_simp⟩) Sr0.out ?_
        refine wpAnyH_take (i := 4) (v := _) rfl (by kernel_rfl) (by kernel_rfl) (by kernel_rfl) (fun _ _ _ h => h) (yieldsIf_move (by kernel_rfl) (.tmp 0) rfl (.pointer (some ⟨q, 0, none⟩)) (by kernel_rfl)) Sr0.out ?_
        refine wpAnyH_take (i := 5) (v := _) rfl (by kernel_rfl) (by kernel_rfl) (by kernel_rfl) (fun _ _ _ h => h) (yieldsIf_load_range (by kernel_rfl) _ (.tmp 7) rfl g7 0 (by kernel_rfl) [.int .i64 (p : Nat), .slice A n c] (fun _ h => h) 2 _ Tryz.underlying158 rfl size_ext (rfl : Hid (([.int .i64 (p : Nat), .slice A n c] : List Value).length = 2))) Sr0.out ?_
        refine wpAnyH_one 3 _ (by kernel_rfl) rfl fun K hK => ?_
        go_simp
        refine (CF.out _ L2.out.drew).mono ?_
        rintro e vr1 ⟨rfl, l3⟩
        have Sr1 : Hid (vr1.rangeAt g7 0 [.int .i64 (p : Nat), .slice A n c]) := range_below Sr0.out l3 hg7.out
        have br1 : Hid (True) := trivial
        have L3 := Lib.hid (L2.out.drew.trans (l3.mono L2.out.drew.size))
        have K3 := Lib.hid ((Below.refl w2.heap.size w2).drew.trans l3)
        have g73 : Hid (g7 < vr1.heap.size) := Nat.lt_of_lt_of_le hg7.out K3.out.size
        clear l3
        refine hK _ _ Sr1.out ?_
        clear hK K 
        refine wpAnyH_one 6 _ (by kernel_rfl) rfl fun K hK => ?_
        go_simp
        refine (end_any _ p n c A (by omega) (by omega)).mono ?_
        rintro e vr2 ⟨rfl, l4⟩
        have Sr2 : Hid (vr2.rangeAt g7 0 [.int .i64 (p : Nat), .slice A n c]) := range_below Sr1.out l4 g73.out
        have br2 : Hid (True) := trivial
        have L4 := Lib.hid (L3.out.trans (l4.mono L3.out.size))
        have K4 := Lib.hid (K3.out.trans (l4.mono K3.out.size))
        have g74 : Hid (g7 < vr2.heap.size) := Nat.lt_of_lt_of_le hg7.out K4.out.size
        clear l4
        refine hK _ _ Sr2.out ?_
        clear hK K 
        refine wpAnyH_take (i := 7) (v := .int .i64 ((p : Int) + (n : Int) + 1)) rfl (by kernel_rfl) (by kernel_rfl) (by kernel_rfl) (fun _ _ _ h => h) (.inl ⟨by kernel_rfl, fun w _ => by go_simp⟩) Sr2.out ?_
        refine wpAnyH_one 8 _ (by kernel_rfl) rfl fun K hK => ?_
        go_simp
        refine (CH.out _ L4.out).mono ?_
        rintro e vr3 ⟨rfl, l5⟩
        have Sr3 : Hid (vr3.rangeAt g7 0 [.int .i64 (p : Nat), .slice A n c]) := range_below Sr2.out l5 g74.out
        have br3 : Hid (True) := trivial
        have L5 := Lib.hid (L4.out.trans (l5.mono L4.out.size))
        have K5 := Lib.hid (K4.out.trans (l5.mono K4.out.size))
        clear l5
        refine hK _ _ Sr3.out ?_
        clear hK K 
        refine wpAnyH_one 9 _ (by kernel_rfl) rfl fun K hK => ?_
        go_simp
        refine hK _ _ Sr3.out ?_
        clear hK K
        refine wpAnyH_one 10 _ (by kernel_rfl) rfl fun K hK => ?_
        go_simp
        refine hK _ _ Sr3.out ?_
        clear hK K
        refine wpAnyH_done (by kernel_rfl) ?_ _
        have B6 := Lib.hid (B2.out.below K5.out hg7.out)
        have hvg : Hid ((Value.slice Av nv cv).ownBlock ≠ some g7) := fun e => by have := hvlt.out g7 e; omega
        obtain ⟨w6, hw6⟩ : ∃ x, x = vr3 := ⟨_, rfl⟩
        rw [← hw6] at L5 B6 K5 ⊢
        have L6 := L5
        have k2 : w6.cell? ⟨q, 2, none⟩ = some (.slice Av nv cv) := (L6.out.cell (lt_of_cell q2)).trans q2
        have hg76 : Hid (g7 < w6.heap.size) := B6.out.lt
        clear hw6 L3 L4 L5 K3 K4 K5 Sr1 Sr2 Sr3 g73 g74 B2 L2 hg7
        go_upto_region 11 with fail
        refine wp_region_heldK 18 (fun w' => w'.cell? ⟨q, 2, none⟩ = some (.slice Av nv cv) ∧ w'.rangeAt g7 0 [.int .i64 (p : Nat), .slice A n c]) (by kernel_rfl) ?_
        change wpAnyK _ _ _ _ _ _ _ _ _ w6.drew
        have Ss0 : Hid (w6.drew.cell? ⟨q, 2, none⟩ = some (.slice Av nv cv) ∧ w6.drew.rangeAt g7 0 [.int .i64 (p : Nat), .slice A n c]) := ⟨k2, fun j v h => (B6.out.range 0) j v h⟩
        have bs0 : Hid (True) := trivial
        refine wpAnyK_take (i := 0) (v := _) rfl (by kernel_rfl) (by kernel_rfl) (by kernel_rfl) (fun _ _ _ h => h) rfl (by kernel_rfl) (by kernel_rfl) (by decide) (yieldsIf_move (by kernel_rfl) (.tmp 0) rfl (.pointer (some ⟨q, 0, none⟩)) (by kernel_rfl)) Ss0.out ?_
        refine wpAnyK_take (i := 1) (v := _) rfl (by kernel_rfl) (by kernel_rfl) (by kernel_rfl) (fun _ _ _ h => h) rfl (by kernel_rfl) (by kernel_rfl) (by decide) (yieldsIf_move (by kernel_rfl) (.tmp 0) rfl (.pointer (some ⟨q, 0, none⟩)) (by kernel_rfl)) Ss0.out ?_
        refine wpAnyK_take (i := 2) (v := _) rfl (by kernel_rfl) (by kernel_rfl) (by kernel_rfl) (fun _ _ _ h => h) rfl (by kernel_rfl) (by kernel_rfl) (by decide) (yieldsIf_nil (by kernel_rfl) (.tmp 39) rfl ⟨q, 0, none⟩ (by kernel_rfl)) Ss0.out ?_
        refine wpAnyK_take (i := 3) (v := _) rfl (by kernel_rfl) (by kernel_rfl) (by kernel_rfl) (fun _ _ _ h => h) rfl (by kernel_rfl) (by kernel_rfl) (by decide) (yieldsIf_fld (by kernel_rfl) _ (.tmp 40) 2 rfl (.pointer (some ⟨q, 0, none⟩)) (.pointer (some ⟨q, 2, none⟩)) (by kernel_rfl) (fun w => by go_simp)) Ss0.out ?_
        refine wpAnyK_take (i := 4) (v := _) rfl (by kernel_rfl) (by kernel_rfl) (by kernel_rfl) (fun _ _ _ h => h) rfl (by kernel_rfl) (by kernel_rfl) (by decide) (yieldsIf_load_one (by kernel_rfl) _ (.tmp 41) rfl q (2) (by kernel_rfl) (.slice Av nv cv) (fun _ h => h.1) _ Tryz.underlying154 rfl) Ss0.out ?_
        refine wpAnyK_take (i := 5) (v := _) rfl (by kernel_rfl) (by kernel_rfl) (by kernel_rfl) (fun _ _ _ h => h) rfl (by kernel_rfl) (by kernel_rfl) (by decide) (yieldsIf_move (by kernel_rfl) (.tmp 8) rfl (.int .i64 (f : Nat)) (by kernel_rfl)) Ss0.out ?_
        refine wpAnyK_take (i := 6) (v := _) rfl (by kernel_rfl) (by kernel_rfl) (by kernel_rfl) (fun _ _ _ h => h) rfl (by kernel_rfl) (by kernel_rfl) (by decide) (yieldsIf_move (by kernel_rfl) (.tmp 9) rfl (.int .i64 (h : Nat)) (by kernel_rfl)) Ss0.out ?_
        refine wpAnyK_take (i := 7) (v := _) rfl (by kernel_rfl) (by kernel_rfl) (by kernel_rfl) (fun _ _ _ h => h) rfl (by kernel_rfl) (by kernel_rfl) (by decide) (yieldsIf_move (by kernel_rfl) (.tmp 0) rfl (.pointer (some ⟨q, 0, none⟩)) (by kernel_rfl)) Ss0.out ?_
        refine wpAnyK_take (i := 8) (v := _) rfl (by kernel_rfl) (by kernel_rfl) (by kernel_rfl) (fun _ _ _ h => h) rfl (by kernel_rfl) (by kernel_rfl) (by decide) (yieldsIf_nil (by kernel_rfl) (.tmp 45) rfl ⟨q, 0, none⟩ (by kernel_rfl)) Ss0.out ?_
        refine wpAnyK_take (i := 9) (v := _) rfl (by kernel_rfl) (by kernel_rfl) (by kernel_rfl) (fun _ _ _ h => h) rfl (by kernel_rfl) (by kernel_rfl) (by decide) (yieldsIf_fld (by kernel_rfl) _ (.tmp 46) 2 rfl (.pointer (some ⟨q, 0, none⟩)) (.pointer (some ⟨q, 2, none⟩)) (by kernel_rfl) (fun w => by go_simp)) Ss0.out ?_
        refine wpAnyK_take (i := 10) (v := _) rfl (by kernel_rfl) (by kernel_rfl) (by kernel_rfl) (fun _ _ _ h => h) rfl (by kernel_rfl) (by kernel_rfl) (by decide) (yieldsIf_load_one (by kernel_rfl) _ (.tmp 47) rfl q (2) (by kernel_rfl) (.slice Av nv cv) (fun _ h => h.1) _ Tryz.underlying154 rfl) Ss0.out ?_
        refine wpAnyK_take (i := 11) (v := _) rfl (by kernel_rfl) (by kernel_rfl) (by kernel_rfl) (fun _ _ _ h => h) rfl (by kernel_rfl) (by kernel_rfl) (by decide) (yieldsIf_move (by kernel_rfl) (.tmp 8) rfl (.int .i64 (f : Nat)) (by kernel_rfl)) Ss0.out ?_
        refine wpAnyK_take (i := 12) (v := _) rfl (by kernel_rfl) (by kernel_rfl) (by kernel_rfl) (fun _ _ _ h => h) rfl (by kernel_rfl) (by kernel_rfl) (by decide) (yieldsIf_move (by kernel_rfl) (.tmp 9) rfl (.int .i64 (h : Nat)) (by kernel_rfl)) Ss0.out ?_
        refine wpAnyK_take (i := 13) (v := _) rfl (by kernel_rfl) (by kernel_rfl) (by kernel_rfl) (fun _ _ _ h => h) rfl (by kernel_rfl) (by kernel_rfl) (by decide) (yieldsIf_slice (by kernel_rfl) _ (.tmp 48) (.tmp 49) (.tmp 50) rfl (.slice Av nv cv) (.int .i64 (f : Nat)) (.int .i64 (h : Nat)) (.slice A5 (h - f) c5) (by kernel_rfl) (by kernel_rfl) (by kernel_rfl) HSL.out) Ss0.out ?_
        refine wpAnyK_take (i := 14) (v := _) rfl (by kernel_rfl) (by kernel_rfl) (by kernel_rfl) (fun _ _ _ h => h) rfl (by kernel_rfl) (by kernel_rfl) (by decide) (yieldsIf_load_range (by kernel_rfl) _ (.tmp 7) rfl g7 0 (by kernel_rfl) [.int .i64 (p : Nat), .slice A n c] (fun _ h => h.2) 2 _ Tryz.underlying158 rfl size_ext (rfl : Hid (([.int .i64 (p : Nat), .slice A n c] : List Value).length = 2))) Ss0.out ?_
        refine wpAnyK_one 15 _ (by kernel_rfl) rfl fun K hK => ?_
        go_simp
        refine (CJ.out _ L6.out.drew).mono ?_
        rintro e vs1 ⟨hj, rfl, hjw, rj, l7⟩
        have Ss1 : Hid (vs1.cell? ⟨q, 2, none⟩ = some (.slice Av nv cv) ∧ vs1.rangeAt g7 0 [.int .i64 (p : Nat), .slice A n c]) := ⟨(l7.cell (lt_of_cell Ss0.out.1)).trans Ss0.out.1, range_below Ss0.out.2 l7 hg76.out⟩
        have bs1 : Hid (True) := trivial
        have L7 := Lib.hid (L6.out.drew.trans (l7.mono L6.out.drew.size))
        have K7 := Lib.hid ((Below.refl w6.heap.size w6).drew.trans l7)
        have RJ := Lib.hid rj
        have hjw' : Hid (w.heap.size ≤ hj) := Nat.le_trans L6.out.size hjw
        clear rj l7 hjw
        refine hK _ _ (fun _ => Ss1.out) ?_
        clear hK K
        refine wpAnyK_one 16 _ (by kernel_rfl) rfl fun K hK => ?_
        refine step_slice_blk rfl _ _ _ _ rfl Tryz.underlying154 [.int .i64 (a : Nat), .slice (some ⟨hj, 0, none⟩) N N] (by kernel_rfl) ?_
        intro gv w8 hgv hgv2 V8 l8
        have L8 := Lib.hid (L7.out.trans (l8.out.mono L7.out.size))
        have K8 := Lib.hid (K7.out.trans (l8.out.mono K7.out.size))
        have RJ8 := Lib.hid (RJ.out.over l8.out)
        have Ss2 : Hid (w8.cell? ⟨q, 2, none⟩ = some (.slice Av nv cv) ∧ w8.rangeAt g7 0 [.int .i64 (p : Nat), .slice A n c]) := ⟨(l8.out.cell (lt_of_cell Ss1.out.1)).trans Ss1.out.1, range_below Ss1.out.2 l8.out (Nat.lt_of_lt_of_le hg76.out K7.out.size)⟩
        clear l8 RJ
        have CR := Lib.hid (RPL.out w8 L8.out gv hj (Nat.le_trans L7.out.size hgv) V8.out)
        refine hK _ _ (fun _ => Ss2.out) ?_
        clear hK K
        refine wpAnyK_one 17 _ (by kernel_rfl) rfl fun K hK => ?_
        go_simp
        refine (CR.out).mono ?_
        rintro e vs3 ⟨v', rfl, o9, s9, n9⟩
        have Ss3 : Hid (vs3.cell? ⟨q, 2, none⟩ = some (.slice Av nv cv) ∧ vs3.rangeAt g7 0 [.int .i64 (p : Nat), .slice A n c]) := ⟨(spare_cell s9 (fun e => hvq.out e) (lt_of_cell Ss2.out.1)).trans Ss2.out.1, range_spare Ss2.out.2 s9 (fun e => hvg.out e) (Nat.lt_of_lt_of_le hg76.out K8.out.size)⟩
        have bs3 : Hid (True) := trivial
        have O9 := Lib.hid o9
        have S9 := Lib.hid s9
        have N9 := Lib.hid n9
        clear o9 s9 n9
        refine hK _ _ (fun _ => Ss3.out) ?_
        clear hK K
        refine wpAnyK_one 18 _ (by kernel_rfl) rfl fun K hK => ?_
        go_simp
        refine hK _ _ (fun h => Bool.noConfusion (show true = false from h)) ?_
        clear hK K
        refine wpAnyK_one 19 _ (by kernel_rfl) rfl fun K hK => ?_
        go_simp
        refine hK _ _ (fun h => Bool.noConfusion (show true = false from h)) ?_
        clear hK K
        refine wpAnyK_frame fun a1 ha1 => ?_
        have e1_57 : a1.eval (.tmp 57) = .pointer (some ⟨q, 2, none⟩) := by rw [ha1]; kernel_rfl
        have e1_55 : a1.eval (.tmp 55) = v' := by rw [ha1]; kernel_rfl
        refine wpAnyK_one 20 _ (by kernel_rfl) rfl fun K hK => ?_
        have BQ9 : Hid (Blk vs3 q 156 [.bool true, .int .i64 (L : Nat), .slice Av nv cv]) := (BQ.out.below (L8.out.mono (Nat.le_refl _)) BQ.out.lt).spare S9.out (fun e => hvq.out e)
        refine step_store_fld (by kernel_rfl) 154 (.tmp 57) (.tmp 55) (by kernel_rfl) q 2 e1_57 156 [.bool true, .int .i64 (L : Nat), .slice Av nv cv] v' e1_55 BQ9 (show 2 < 3 by omega) (by kernel_rfl) O9.out.oneC ?_
        intro w10 BQ10 P10 hq10
        refine hK _ _ (fun h => Bool.noConfusion (show true = false from h)) ?_
        clear hK K
        rw [ha1]
        refine wpAnyK_done (by kernel_rfl) ?_ _
        have hqg : Hid (g7 ≠ q) := by have := lt_of_cell q1; show _ ≠ _; have h8 : q < w.heap.size := this; omega
        have B10 := Lib.hid (((B6.out.below K8.out hg76.out).spare S9.out (fun e => hvg.out e)).only P10.out hqg.out)
        have BQ10' : Hid (Blk w10 q 156 [.bool true, .int .i64 (L : Nat), v']) := BQ10.out
        have j1 : w10.cell? ⟨q, 1, none⟩ = some (.int .i64 (L : Nat)) := BQ10'.out.cell 1
        clear Ss0 Ss1 Ss2 Ss3 K7 L7 V8 CR k2 BQ10 BQ9 B6 q2 q1
        go_upto_region 12 with fail
        refine wp_region_heldK 8 (fun w' => w'.cell? ⟨q, 1, none⟩ = some (.int .i64 (L : Nat)) ∧ w'.rangeAt g7 0 [.int .i64 (p : Nat), .slice A n c]) (by kernel_rfl) ?_
        change wpAnyK _ _ _ _ _ _ _ _ _ w10.drew
        have St0 : Hid (w10.drew.cell? ⟨q, 1, none⟩ = some (.int .i64 (L : Nat)) ∧ w10.drew.rangeAt g7 0 [.int .i64 (p : Nat), .slice A n c]) := ⟨j1, fun j v h => (B10.out.range 0) j v h⟩
        have bt0 : Hid (True) := trivial
        refine wpAnyK_take (i := 0) (v := _) rfl (by kernel_rfl) (by kernel_rfl) (by kernel_rfl) (fun _ _ _ h => h) rfl (by kernel_rfl) (by kernel_rfl) (by decide) (yieldsIf_move (by kernel_rfl) (.tmp 0) rfl (.pointer (some ⟨q, 0, none⟩)) (by kernel_rfl)) St0.out ?_
        refine wpAnyK_take (i := 1) (v := _) rfl (by kernel_rfl) (by kernel_rfl) (by kernel_rfl) (fun _ _ _ h => h) rfl (by kernel_rfl) (by kernel_rfl) (by decide) (yieldsIf_move (by kernel_rfl) (.tmp 0) rfl (.pointer (some ⟨q, 0, none⟩)) (by kernel_rfl)) St0.out ?_
        refine wpAnyK_take (i := 2) (v := _) rfl (by kernel_rfl) (by kernel_rfl) (by kernel_rfl) (fun _ _ _ h => h) rfl (by kernel_rfl) (by kernel_rfl) (by decide) (yieldsIf_nil (by kernel_rfl) (.tmp 59) rfl ⟨q, 0, none⟩ (by kernel_rfl)) St0.out ?_
        refine wpAnyK_take (i := 3) (v := _) rfl (by kernel_rfl) (by kernel_rfl) (by kernel_rfl) (fun _ _ _ h => h) rfl (by kernel_rfl) (by kernel_rfl) (by decide) (yieldsIf_fld (by kernel_rfl) _ (.tmp 60) 1 rfl (.pointer (some ⟨q, 0, none⟩)) (.pointer (some ⟨q, 1, none⟩)) (by kernel_rfl) (fun w => by go_simp)) St0.out ?_
        refine wpAnyK_take (i := 4) (v := _) rfl (by kernel_rfl) (by kernel_rfl) (by kernel_rfl) (fun _ _ _ h => h) rfl (by kernel_rfl) (by kernel_rfl) (by decide) (yieldsIf_load_one (by kernel_rfl) _ (.tmp 61) rfl q (1) (by kernel_rfl) (.int .i64 (L : Nat)) (fun _ h => h.1) _ Tryz.underlying3 rfl) St0.out ?_
        refine wpAnyK_take (i := 5) (v := _) rfl (by kernel_rfl) (by kernel_rfl) (by kernel_rfl) (fun _ _ _ h => h) rfl (by kernel_rfl) (by kernel_rfl) (by decide) (yieldsIf_load_range (by kernel_rfl) _ (.tmp 7) rfl g7 0 (by kernel_rfl) [.int .i64 (p : Nat), .slice A n c] (fun _ h => h.2) 2 _ Tryz.underlying158 rfl size_ext (rfl : Hid (([.int .i64 (p : Nat), .slice A n c] : List Value).length = 2))) St0.out ?_
        refine wpAnyK_one 6 _ (by kernel_rfl) rfl fun K hK => ?_
        go_simp
        refine (end_any _ p n c A (by omega) (by omega)).mono ?_
        rintro e vt1 ⟨rfl, l11⟩
        have St1 : Hid (vt1.cell? ⟨q, 1, none⟩ = some (.int .i64 (L : Nat)) ∧ vt1.rangeAt g7 0 [.int .i64 (p : Nat), .slice A n c]) := ⟨(l11.cell (lt_of_cell St0.out.1)).trans St0.out.1, range_below St0.out.2 l11 B10.out.lt⟩
        have bt1 : Hid (True) := trivial
        have K11 := Lib.hid ((Below.refl w10.heap.size w10).drew.trans l11)
        clear l11
        refine hK _ _ (fun _ => St1.out) ?_
        clear hK K
        refine wpAnyK_take (i := 7) (v := .int .i64 (M : Nat)) rfl (by kernel_rfl) (by kernel_rfl) (by kernel_rfl) (fun _ _ _ h => h) rfl (by kernel_rfl) (by kernel_rfl) (by decide) (.inl ⟨by kernel_rfl, fun w _ => by go_simp⟩) St1.out ?_
        refine wpAnyK_one 8 _ (by kernel_rfl) rfl fun K hK => ?_
        go_simp
        refine hK _ _ (fun h => Bool.noConfusion (show true = false from h)) ?_
        clear hK K
        refine wpAnyK_one 9 _ (by kernel_rfl) rfl fun K hK => ?_
        go_simp
        refine hK _ _ (fun h => Bool.noConfusion (show true = false from h)) ?_
        clear hK K
        refine wpAnyK_frame fun a1 ha1 => ?_
        have e1_67 : a1.eval (.tmp 67) = .pointer (some ⟨q, 1, none⟩) := by rw [ha1]; kernel_rfl
        have e1_65 : a1.eval (.tmp 65) = .int .i64 (M : Nat) := by rw [ha1]; kernel_rfl
        refine wpAnyK_one 10 _ (by kernel_rfl) rfl fun K hK => ?_
        refine step_store_fld (by kernel_rfl) 3 (.tmp 67) (.tmp 65) (by kernel_rfl) q 1 e1_67 156 [.bool true, .int .i64 (L : Nat), v'] (.int .i64 (M : Nat)) e1_65 (BQ10'.out.over K11.out) (show 1 < 3 by omega) (by kernel_rfl) rfl ?_
        intro w12 BQ12 P12 hq12
        refine hK _ _ (fun h => Bool.noConfusion (show true = false from h)) ?_
        clear hK K
        rw [ha1]
        refine wpAnyK_done (by kernel_rfl) ?_ _
        go_wp2_with fail
        go_ret
        have P1 : Spare (fun k => k = q) vs3 w12 := ((Spare.of_only P10.out).trans ((Spare.of_over (fun k => k = q) K11.out).trans (Spare.of_only P12.out) fun j _ h => h) fun j _ h => h)
        have hL8 := L8.out
        refine ⟨rfl, v', PDat.wrote (w := w) (w8 := w8) (w9 := vs3) (w12 := w12) (hj := hj) D.out HWR.out hxl (by omega) hpn HX.out.byte hb HMM.out L8.out hjw'.out ?_ ?_ S9.out N9.out P1 BQ12.out⟩
        · rw [← HXX.out]
          exact RJ8.out
        · rw [← HXX.out, ← HNN.out]
          exact O9.out
end Go.Proofs.YtdgpbhdihhchgaaGreatDoor

namespace Go.Proofs.YtdgpbhdihhchgaaGreatDoor
set_option linter.all false
set_option maxRecDepth 100000
open Go.RowKit
set_option linter.unusedVariables false
theorem wpList_load_midG {P : Program} {ops : Array Oper} {rest : List Oper} {op : Oper} {a : Act} {w : World} {Q : Exit → Act → World → Prop} (hw : Region.wanted op (yielded ops a.tmps) = true) (ty : TypeId) (x : Operand) (ho : op.op = .load ty x)
    (b o : Nat) (hx : a.eval x = .pointer (some ⟨b, o, none⟩)) (cs : List Value) (d : TypeDesc) (hc : w.rangeAt b o cs) (hu : P.underlying ty = some d) (hd : d.isRow = true) (hi : (P.info? ty).map (·.size) = some cs.length)
    (h : wpList P ops Q rest (a.put op.dst (.agg cs.toArray)) w) : wpList P ops Q (op :: rest) a w :=
  wpList_step fun K hK => by
    rw [if_pos hw]
    exact wp_load_mid ty x ho b o hx cs d hc hu hd hi (hK _ _ h)
def PCutPostX (w : World) (base q : Nat) (v : Value) (l : List ExtV) (B : List Int) (Z : List Bool) (s : Int) (e : Ending) (w' : World) : Prop :=
  e = .returned (.int .i64 (exCutE s)) ∧ ∃ v' l', PDat w' base q v' l' (exCut 0 B s) (exCut false Z s) ∧ Spare (pdS q v l) w w' ∧ ∀ j, pdS q v' l' j → pdS q v l j ∨ w.heap.size ≤ j
theorem PDat.wasCut {w w' : World} {base q : Nat} {A : Option Addr} {n c f s : Nat} {l l' : List ExtV} {B : List Int} {Z : List Bool} (d : PDat w base q (.slice A n c) l B Z) (hs : s ≤ 65536) (f0 : ∀ (i : Nat) x, i < f → l[i]? = some x → x.1 < s) (f1 : ∀ (i : Nat) x, f ≤ i → l[i]? = some x → s ≤ x.1)
    (hm : extsL l' = ((extsL l).take f).map fun e => (e.1, e.2.take (s - e.1))) (hB : Blk w' q 156 [.bool true, .int .i64 (s : Nat), .slice A f c]) (hrow : OwnS extCells 2 158 w' base (.slice A f c) l')
    (heach : ∀ x ∈ l', OwnB false w' base (partV x.2) x.2.2.2.2 ∧ ∀ i, (partV x.2).ownBlock = some i → pdS q (.slice A n c) l i ∨ w.heap.size ≤ i) (hS : Spare (pdS q (.slice A n c) l) w w') :
    ∃ v' l', PDat w' base q v' l' (padTo 0 B s) (padTo false Z s) ∧ Spare (pdS q (.slice A n c) l) w w' ∧ ∀ j, pdS q v' l' j → pdS q (.slice A n c) l j ∨ w.heap.size ≤ j := by
  refine ⟨_, l', ⟨d.ge, by rw [padTo_len]; exact hB, hrow, fun x hx => (heach x hx).1, d.can.cutP f0 f1 hm, pad_zero d.zero, by rw [padTo_len, padTo_len], by rw [padTo_len]; exact hs, padTo_bytes d.byte s⟩, hS, fun j hj => ?_⟩
  rcases hj with rfl | hj | ⟨x, hx, hj⟩
  · exact .inl (.inl rfl)
  · refine .inl (.inr (.inl ?_))
    cases A with
    | none => cases hj
    | some a => exact hj
  · exact (heach x hx).2 j hj
set_option maxHeartbeats 8000000 in
theorem PCut_any (w : World) (base q : Nat) (v : Value) (l : List ExtV) (B : List Int) (Z : List Bool) (d : PDat w base q v l B Z) (s0 : Int) (ha : -9223372036854775808 ≤ s0 ∧ s0 ≤ 9223372036854775807) (hb : base ≤ w.heap.size) :
    Calls Tryz.prog 78 #[ptr q, .int .i64 s0] w (PCutPostX w base q v l B Z s0) := by
  unfold PCutPostX ptr
  have hsm := d.small
  have q0 : w.cell? ⟨q, 0, none⟩ = some (.bool true) := d.blk.cell 0
  have CN := Lib.hid (none_any w q q0)
  have hE : exCutE s0 = if s0 < 0 then 2 else if 65536 < s0 then 3 else 0 := rfl
  have same : exCutE s0 ≠ 0 → exCut 0 B s0 = B ∧ exCut false Z s0 = Z := fun h => by
    unfold exCut
    rw [if_neg h, if_neg h]
    exact ⟨rfl, rfl⟩
  obtain ⟨ha0, ha1⟩ := ha
  have D := Lib.hid d
  have SAME := Lib.hid same
  clear d same
  by_cases h1 : s0 < 0
  · rw [if_pos h1] at hE
    have hs := SAME.out (by rw [hE]; decide)
    rw [hE, hs.1, hs.2]
    clear hE hs
    go_enter Tryz.func78, Tryz.ntmps78
    go_wp2_with fail
    refine CN.out.mono ?_
    rintro e w1 ⟨rfl, rfl⟩
    go_wp2_with fail
    go_ret
    exact ⟨rfl, _, _, D.out, Spare.refl _ _, fun j hj => .inl hj⟩
  · rw [if_neg h1] at hE
    by_cases h2 : 65536 < s0
    · rw [if_pos h2] at hE
      have hs := SAME.out (by rw [hE]; decide)
      rw [hE, hs.1, hs.2]
      clear hE hs
      go_enter Tryz.func78, Tryz.ntmps78
      go_wp2_with fail
      refine CN.out.mono ?_
      rintro e w1 ⟨rfl, rfl⟩
      go_wp2_with fail
      go_ret
      exact ⟨rfl, _, _, D.out, Spare.refl _ _, fun j hj => .inl hj⟩
    · rw [if_neg h2] at hE
      obtain ⟨s, rfl⟩ := Int.eq_ofNat_of_zero_le (show 0 ≤ s0 by omega)
      have hB' : exCut 0 B (s : Int) = padTo 0 B s ∧ exCut false Z (s : Int) = padTo false Z s := by
        unfold exCut
        rw [hE, if_pos rfl, if_pos rfl, Int.toNat_natCast]
        exact ⟨rfl, rfl⟩
      rw [hE, hB'.1, hB'.2]
      clear hE hB'
      have hs65 : s ≤ 65536 := by omega
      obtain ⟨f, hf, g0, g1⟩ := D.out.halfB (s : Int)
      have G0 : Hid (∀ (i : Nat) x, i < f → l[i]? = some x → x.1 < s) := fun i x hi hx => by have := g0 i x hi hx; omega
      have G1 : Hid (∀ (i : Nat) x, f ≤ i → l[i]? = some x → s ≤ x.1) := fun i x hi hx => by have := g1 i x hi hx; omega
      have CH := Lib.hid (begin_any w base q v l B Z D.out (s : Int) f hf g0 g1)
      obtain ⟨Av, nv, cv, rfl, hv⟩ := D.out.lst
      have hnl := hv.len
      have hfn : f ≤ nv := by omega
      have hn65 : nv ≤ 65536 := by have := D.out.lenS; omega
      have q2 : w.cell? ⟨q, 2, none⟩ = some (.slice Av nv cv) := D.out.blk.cell 2
      have hvq : Hid ((Value.slice Av nv cv).ownBlock ≠ some q) := D.out.blk.ne_own D.out.row (by decide)
      have CD : Hid (∀ w2, Below w.heap.size w w2 → Calls Tryz.prog 125 #[.slice Av nv cv, .int .i64 (f : Nat), .int .i64 (nv : Nat)] w2 fun e w' => e = .returned (.slice Av f cv) ∧ OwnS extCells 2 158 w' base (.slice Av f cv) (l.take f) ∧ Spare (fun j => (Value.slice Av nv cv).ownBlock = some j) w2 w') := fun w2 hb2 =>
        Delete_any w2 base Av nv cv f l (D.out.row.below hb2) hfn hnl hn65
      have BQ := Lib.hid D.out.blk
      obtain ⟨L, hL⟩ : ∃ n, n = B.length := ⟨_, rfl⟩
      rw [← hL] at BQ hsm
      have HLENS := Lib.hid D.out.lens
      have HF := Lib.hid hf
      clear hL g0 g1 hf hv
      unfold ptr at CH
      go_enter Tryz.func78, Tryz.ntmps78
      go_wp2_with fail
      refine CN.out.mono ?_
      rintro e w1 ⟨rfl, rfl⟩
      go_wp2_with fail
      refine CH.out.mono ?_
      rintro e w2 ⟨rfl, l2⟩
      have L2 := Lib.hid l2
      have k2 : w2.cell? ⟨q, 2, none⟩ = some (.slice Av nv cv) := (l2.cell (lt_of_cell q2)).trans q2
      clear l2 CH CN
      go_upto_region 8 with fail
      refine wp_region_heldK 12 (fun w' => w'.cell? ⟨q, 2, none⟩ = some (.slice Av nv cv)) (by kernel_rfl) ?_
      change wpAnyK _ _ _ _ _ _ _ _ _ w2.drew
      have Sr0 : Hid (w2.drew.cell? ⟨q, 2, none⟩ = some (.slice Av nv cv)) := k2
      have br0 : Hid (True) := trivial
      refine wpAnyK_take (i := 0) (v := _) rfl (by kernel_rfl) (by kernel_rfl) (by kernel_rfl) (fun _ _ _ h => h) rfl (by kernel_rfl) (by kernel_rfl) (by decide) (yieldsIf_move (by kernel_rfl) (.tmp 0) rfl (.pointer (some ⟨q, 0, none⟩)) (by kernel_rfl)) Sr0.out ?_
      refine wpAnyK_take (i := 1) (v := _) rfl (by kernel_rfl) (by kernel_rfl) (by kernel_rfl) (fun _ _ _ h => h) rfl (by kernel_rfl) (by kernel_rfl) (by decide) (yieldsIf_move (by kernel_rfl) (.tmp 0) rfl (.pointer (some ⟨q, 0, none⟩)) (by kernel_rfl)) Sr0.out ?_
      refine wpAnyK_take (i := 2) (v := _) rfl (by kernel_rfl) (by kernel_rfl) (by kernel_rfl) (fun _ _ _ h => h) rfl (by kernel_rfl) (by kernel_rfl) (by decide) (yieldsIf_nil (by kernel_rfl) (.tmp 19) rfl ⟨q, 0, none⟩ (by kernel_rfl)) Sr0.out ?_
      refine wpAnyK_take (i := 3) (v := _) rfl (by kernel_rfl) (by kernel_rfl) (by kernel_rfl) (fun _ _ _ h => h) rfl (by kernel_rfl) (by kernel_rfl) (by decide) (yieldsIf_fld (by kernel_rfl) _ (.tmp 20) 2 rfl (.pointer (some ⟨q, 0, none⟩)) (.pointer (some ⟨q, 2, none⟩)) (by kernel_rfl) (fun w => by go_simp)) Sr0.out ?_
      refine wpAnyK_take (i := 4) (v := _) rfl (by kernel_rfl) (by kernel_rfl) (by kernel_rfl) (fun _ _ _ h => h) rfl (by kernel_rfl) (by kernel_rfl) (by decide) (yieldsIf_load_one (by kernel_rfl) _ (.tmp 21) rfl q (2) (by kernel_rfl) (.slice Av nv cv) (fun _ h => h) _ Tryz.underlying154 rfl) Sr0.out ?_
      refine wpAnyK_take (i := 5) (v := _) rfl (by kernel_rfl) (by kernel_rfl) (by kernel_rfl) (fun _ _ _ h => h) rfl (by kernel_rfl) (by kernel_rfl) (by decide) (yieldsIf_move (by kernel_rfl) (.tmp 5) rfl (.int .i64 (f : Nat)) (by kernel_rfl)) Sr0.out ?_
      refine wpAnyK_take (i := 6) (v := _) rfl (by kernel_rfl) (by kernel_rfl) (by kernel_rfl) (fun _ _ _ h => h) rfl (by kernel_rfl) (by kernel_rfl) (by decide) (yieldsIf_move (by kernel_rfl) (.tmp 0) rfl (.pointer (some ⟨q, 0, none⟩)) (by kernel_rfl)) Sr0.out ?_
      refine wpAnyK_take (i := 7) (v := _) rfl (by kernel_rfl) (by kernel_rfl) (by kernel_rfl) (fun _ _ _ h => h) rfl (by kernel_rfl) (by kernel_rfl) (by decide) (yieldsIf_nil (by kernel_rfl) (.tmp 24) rfl ⟨q, 0, none⟩ (by kernel_rfl)) Sr0.out ?_
      refine wpAnyK_take (i := 8) (v := _) rfl (by kernel_rfl) (by kernel_rfl) (by kernel_rfl) (fun _ _ _ h => h) rfl (by kernel_rfl) (by kernel_rfl) (by decide) (yieldsIf_fld (by kernel_rfl) _ (.tmp 25) 2 rfl (.pointer (some ⟨q, 0, none⟩)) (.pointer (some ⟨q, 2, none⟩)) (by kernel_rfl) (fun w => by go_simp)) Sr0.out ?_
      refine wpAnyK_take (i := 9) (v := _) rfl (by kernel_rfl) (by kernel_rfl) (by kernel_rfl) (fun _ _ _ h => h) rfl (by kernel_rfl) (by kernel_rfl) (by decide) (yieldsIf_load_one (by kernel_rfl) _ (.tmp 26) rfl q (2) (by kernel_rfl) (.slice Av nv cv) (fun _ h => h) _ Tryz.underlying154 rfl) Sr0.out ?_
      refine wpAnyK_take (i := 10) (v := .int .i64 (nv : Nat)) rfl (by kernel_rfl) (by kernel_rfl) (by kernel_rfl) (fun _ _ _ h => h) rfl (by kernel_rfl) (by kernel_rfl) (by decide) (.inl ⟨by kernel_rfl, fun w _ => by go_simp⟩) Sr0.out ?_
      refine wpAnyK_one 11 _ (by kernel_rfl) rfl fun K hK => ?_
      go_simp
      refine (CD.out _ L2.out.drew).mono ?_
      rintro e vr1 ⟨rfl, o3, s3⟩
      have Sr1 : Hid (vr1.cell? ⟨q, 2, none⟩ = some (.slice Av nv cv)) := (spare_cell s3 (fun e => hvq.out e) (lt_of_cell Sr0.out)).trans Sr0.out
      have br1 : Hid (True) := trivial
      have O3 := Lib.hid o3
      have S3 := Lib.hid s3
      clear o3 s3
      refine hK _ _ (fun _ => Sr1.out) ?_
      clear hK K
      refine wpAnyK_one 12 _ (by kernel_rfl) rfl fun K hK => ?_
      go_simp
      refine hK _ _ (fun h => Bool.noConfusion (show true = false from h)) ?_
      clear hK K
      refine wpAnyK_one 13 _ (by kernel_rfl) rfl fun K hK => ?_
      go_simp
      refine hK _ _ (fun h => Bool.noConfusion (show true = false from h)) ?_
      clear hK K
      refine wpAnyK_frame fun a1 ha1 => ?_
      have e1_31 : a1.eval (.tmp 31) = .pointer (some ⟨q, 2, none⟩) := by rw [ha1]; kernel_rfl
      have e1_29 : a1.eval (.tmp 29) = .slice Av f cv := by rw [ha1]; kernel_rfl
      refine wpAnyK_one 14 _ (by kernel_rfl) rfl fun K hK => ?_
      have BQ3 : Hid (Blk vr1 q 156 [.bool true, .int .i64 (L : Nat), .slice Av nv cv]) := (BQ.out.below L2.out BQ.out.lt).drew.spare S3.out (fun e => hvq.out e)
      refine step_store_fld (by kernel_rfl) 154 (.tmp 31) (.tmp 29) (by kernel_rfl) q 2 e1_31 156 [.bool true, .int .i64 (L : Nat), .slice Av nv cv] (.slice Av f cv) e1_29 BQ3 (show 2 < 3 by omega) (by kernel_rfl) rfl ?_
      intro w4 BQ4 P4 hq4
      refine hK _ _ (fun h => Bool.noConfusion (show true = false from h)) ?_
      clear hK K
      rw [ha1]
      refine wpAnyK_done (by kernel_rfl) ?_ _
      have BQ4' : Hid (Blk w4 q 156 [.bool true, .int .i64 (L : Nat), .slice Av f cv]) := BQ4.out
      have hq3 := BQ3.out
      have O4 : Hid (OwnS extCells 2 158 w4 base (.slice Av f cv) (l.take f)) := O3.out.sparS (Spare.of_only P4.out) fun i hi e => hq3.ne_own O3.out (by decide) (by rw [hi, e])
      have EACH4 : Hid (∀ x ∈ l, OwnB false w4 base (partV x.2) x.2.2.2.2) := fun x hx => by
        have h1 := (D.out.each x hx).below (L2.out.drew)
        have h2 := h1.spare S3.out fun i hi e => h1.ne_own (D.out.row.below L2.out.drew) (by decide) hi e
        exact h2.spare (Spare.of_only P4.out) fun i hi e => h2.ne_blk hq3 (by decide) (by rw [hi, e])
      have SP4 : Hid (Spare (pdS q (.slice Av nv cv) l) w w4) := ((Spare.of_over (pdS q (.slice Av nv cv) l) L2.out.drew).trans (S3.out.mono (S' := pdS q (.slice Av nv cv) l) fun j _ hj => .inr (.inl hj)) fun j _ h => h).trans ((Spare.of_only P4.out).mono (S' := pdS q (.slice Av nv cv) l) fun j _ hj => .inl hj) fun j _ h => h
      have k2 : w4.cell? ⟨q, 2, none⟩ = some (.slice Av f cv) := BQ4'.out.cell 2
      clear hq3 BQ3 BQ4 O3 S3 P4 Sr0 Sr1 L2 q2 q0 CD BQ
      rcases Nat.eq_zero_or_pos f with hf0 | hf0
      · subst hf0
        go_wp2_with (first
          | ((with_reducible show wpList _ _ _ (⟨none, .store _ _ _, _, _, _, _⟩ :: _) _ _); go_loud (refine wpList_store_fld rfl _ (.tmp 68) (.tmp 66) rfl q 1 rfl _ [.bool true, .int .i64 (L : Nat), .slice Av 0 cv] (.int .i64 (s : Nat)) rfl BQ4' (show 1 < 3 by omega) (by kernel_rfl) rfl ?_); intro w5 BQ5 P5 hq5)
          | fail)
        go_ret
        refine ⟨rfl, PDat.wasCut D.out hs65 G0.out G1.out (l' := l.take 0) (by simp [extsL]) BQ5.out ?_ (fun x hx => by cases hx) (SP4.out.trans ((Spare.of_only P5.out).mono (S' := pdS q (.slice Av nv cv) l) fun j _ hj => .inl hj) fun j _ h => h)⟩
        exact O4.out.sparS (Spare.of_only P5.out) fun i hi e => BQ4'.out.ne_own O4.out (by decide) (by rw [hi, e])
      · obtain ⟨x, hx⟩ : ∃ x, l[f - 1]? = some x := ⟨_, List.getElem?_eq_getElem (show f - 1 < l.length by have := HF.out; omega)⟩
        have hmx := List.mem_of_getElem? hx
        have hend := D.out.ends x hmx
        have hxs := G0.out _ x (show f - 1 < f by omega) hx
        have hlx := HLENS.out x hmx
        have hxpos : 0 < x.2.2.1 := by rw [← hlx]; exact List.length_pos_iff.2 (D.out.can.full (x.1, x.2.2.2.2) (extsL_mem hmx))
        obtain ⟨g, c', hg⟩ := O4.out.form (show 0 < (l.take f).length by rw [List.length_take]; have := HF.out; omega)
        obtain rfl : Av = some ⟨g, 0, none⟩ := by injection hg
        clear hg
        obtain ⟨_, hlt4, hfc, hcm, cs, hB, hcl, htk⟩ := O4.out.blk
        have hcells : ∀ j u, (extCells x)[j]? = some u → w4.cell? ⟨g, (f - 1) * 2 + j, none⟩ = some u := fun j u hj => by
          have hj2 : j < 2 := (List.getElem?_eq_some_iff.1 hj).1
          rw [hB.cell]
          have e1 : cs[(f - 1) * 2 + j]? = (cs.take (f * 2))[(f - 1) * 2 + j]? := by rw [List.getElem?_take, if_pos (by omega)]
          rw [e1, htk, flatMap_get (by decide) extCells_len, show ((f - 1) * 2 + j) / 2 = f - 1 by omega, show ((f - 1) * 2 + j) % 2 = j by omega, List.getElem?_take, if_pos (by omega), hx]
          exact hj
        obtain ⟨xa, xA, xn, xc, px⟩ := x
        simp only at hend hxs hlx hxpos
        have hE4 := (EACH4.out _ hmx)
        have hpx : Bytes px := by
          have := D.out.can.have_ (xa, px) (extsL_mem hmx)
          simp only at this
          rw [this]
          exact (D.out.byte.drop _).take _
        have hH4 : Holds w4 w4.heap.size xA xn xc px := hE4.holds hpx (by have := D.out.small; simp only; omega)
        obtain ⟨bx, ox, rfl, hbx, _⟩ := hH4.cells hxpos
        have hxc := hH4.fit
        have RX4 : Hid (w4.rangeAt g ((f - 1) * 2) [.int .i64 (xa : Nat), .slice (some ⟨bx, ox, none⟩) xn xc]) := fun j u hj => hcells j u hj
        have HH4 := Lib.hid hH4
        have HB4 := Lib.hid hB
        have HCL := Lib.hid hcl
        have HTK := Lib.hid htk
        have HXX := Lib.hid hx
        have HMX := Lib.hid hmx
        have HPX := Lib.hid hpx
        have HLX := Lib.hid hlx
        have hf1 : (f : Int) - 1 = ((f - 1 : Nat) : Int) := by omega
        have hf1w : IntKind.i64.wrap ((f : Int) - 1) = ((f - 1 : Nat) : Int) := by rw [IntKind.wrap_i64]; omega
        have hf1w2 : IntKind.i64.wrap ((f - 1 : Nat) : Int) = ((f - 1 : Nat) : Int) := by rw [IntKind.wrap_i64]; omega
        have hff : f - 1 < f := by omega
        have hd0 : decide ((0 : Int) < (f : Int)) = true := decide_eq_true (by omega)
        have hxa65 : xa + xn ≤ 65536 := by have := D.out.small; omega
        have CE := Lib.hid fun (w' : World) => end_any w' xa xn xc (some ⟨bx, ox, none⟩) (by omega) (by omega)
        clear hcells hB hcl htk hx hmx hE4 hH4 hpx hlx hlt4 hend
        go_wp2_with (first
          | ((with_reducible show wpList _ _ _ (⟨some 42, _, _, _, _, _⟩ :: _) _ _); go_loud (refine wpList_load_midG (by kernel_rfl) _ (.tmp 41) rfl g ((f - 1) * 2) rfl [.int .i64 (xa : Nat), .slice (some ⟨bx, ox, none⟩) xn xc] _ RX4.out Tryz.underlying158 rfl (by rw [size_ext]; rfl) ?_))
          | fail)
        refine (CE.out w4).mono ?_
        rintro e w5 ⟨rfl, l5⟩
        have L5 := Lib.hid l5
        have BQ5 := Lib.hid (BQ4'.out.over l5)
        have O5 := Lib.hid (O4.out.below l5)
        have EACH5 : Hid (∀ x ∈ l, OwnB false w5 base (partV x.2) x.2.2.2.2) := fun x hx => (EACH4.out x hx).below l5
        have SP5 : Hid (Spare (pdS q (.slice (some ⟨g, 0, none⟩) nv cv) l) w w5) := SP4.out.trans (Spare.of_over (pdS q (.slice (some ⟨g, 0, none⟩) nv cv) l) l5) fun j _ h => h
        have BG5 := Lib.hid (HB4.out.over l5)
        have k2' : w5.cell? ⟨q, 2, none⟩ = some (.slice (some ⟨g, 0, none⟩) f cv) := BQ5.out.cell 2
        have hg5 : Hid (g < w5.heap.size) := BG5.out.lt
        have rx5 : w5.rangeAt g ((f - 1) * 2) [.int .i64 (xa : Nat), .slice (some ⟨bx, ox, none⟩) xn xc] := range_below RX4.out l5 HB4.out.lt
        have HH5 := Lib.hid ((HH4.out.below l5).mono l5.size)
        clear l5 BQ4' O4 EACH4 SP4 HB4 RX4 HH4 k2
        by_cases hcut : s < xa + xn
        · have hdc : decide ((s : Int) < (xa : Int) + (xn : Int)) = true := decide_eq_true (by omega)
          have CP : Hid (∀ w' : World, Calls Tryz.prog 113 #[.agg #[.int .i64 (xa : Nat), .slice (some ⟨bx, ox, none⟩) xn xc], .int .i64 0, .int .i64 (s : Nat)] w' fun e w2 => e = .returned (.agg #[.int .i64 (xa : Nat), .slice (some ⟨bx, ox, none⟩) (s - xa) (s - xa)]) ∧ Below w'.heap.size w' w2) := fun w' => by
            have := part_any w' xa bx ox xn xc 0 s xa s hxc (by omega) (by omega) (by omega) (by omega) (by omega) (by omega) hxs
            rw [Nat.sub_self, Nat.add_zero] at this
            exact this
          have CC : Hid (∀ w' : World, Below w5.heap.size w5 w' → Calls Tryz.prog 126 #[.agg #[.int .i64 (xa : Nat), .slice (some ⟨bx, ox, none⟩) (s - xa) (s - xa)]] w' fun e w2 => ∃ v, e = .returned (.agg #[.int .i64 (xa : Nat), v]) ∧ OwnZ .u8 5 w2 w'.heap.size v (px.take (s - xa)) ∧ Below w'.heap.size w' w2) := fun w' hb' => by
            have h5 := HH5.out.amidE (p := 0) (N := s - xa) (by omega) (by omega) (s - xa) (Nat.le_refl _)
            rw [Nat.add_zero, List.drop_zero] at h5
            exact copied_any w' xa (s - xa) (s - xa) _ _ ((h5.below hb').mono hb'.size) (by omega)
          have hfit : Hid ((f - 1) * 2 + 2 ≤ cs.length) := by show _ ≤ _; rw [HCL.out]; omega
          have hfcv : f - 1 < cv := by omega
          go_upto_region 10 with fail
          refine wp_region_heldK 17 (fun w' => w'.cell? ⟨q, 2, none⟩ = some (.slice (some ⟨g, 0, none⟩) f cv) ∧ w'.rangeAt g ((f - 1) * 2) [.int .i64 (xa : Nat), .slice (some ⟨bx, ox, none⟩) xn xc]) (by kernel_rfl) ?_
          change wpAnyK _ _ _ _ _ _ _ _ _ w5.drew
          have Ss0 : Hid (w5.drew.cell? ⟨q, 2, none⟩ = some (.slice (some ⟨g, 0, none⟩) f cv) ∧ w5.drew.rangeAt g ((f - 1) * 2) [.int .i64 (xa : Nat), .slice (some ⟨bx, ox, none⟩) xn xc]) := ⟨k2', rx5⟩
          have bs0 : Hid (True) := trivial
          refine wpAnyK_take (i := 0) (v := _) rfl (by kernel_rfl) (by kernel_rfl) (by kernel_rfl) (fun _ _ _ h => h) rfl (by kernel_rfl) (by kernel_rfl) (by decide) (yieldsIf_move (by kernel_rfl) (.tmp 0) rfl (.pointer (some ⟨q, 0, none⟩)) (by kernel_rfl)) Ss0.out ?_
          refine wpAnyK_take (i := 1) (v := _) rfl (by kernel_rfl) (by kernel_rfl) (by kernel_rfl) (fun _ _ _ h => h) rfl (by kernel_rfl) (by kernel_rfl) (by decide) (yieldsIf_nil (by kernel_rfl) (.tmp 47) rfl ⟨q, 0, none⟩ (by kernel_rfl)) Ss0.out ?_
          refine wpAnyK_take (i := 2) (v := _) rfl (by kernel_rfl) (by kernel_rfl) (by kernel_rfl) (fun _ _ _ h => h) rfl (by kernel_rfl) (by kernel_rfl) (by decide) (yieldsIf_fld (by kernel_rfl) _ (.tmp 48) 2 rfl (.pointer (some ⟨q, 0, none⟩)) (.pointer (some ⟨q, 2, none⟩)) (by kernel_rfl) (fun w => by go_simp)) Ss0.out ?_
          refine wpAnyK_take (i := 3) (v := _) rfl (by kernel_rfl) (by kernel_rfl) (by kernel_rfl) (fun _ _ _ h => h) rfl (by kernel_rfl) (by kernel_rfl) (by decide) (yieldsIf_load_one (by kernel_rfl) _ (.tmp 49) rfl q (2) (by kernel_rfl) (.slice (some ⟨g, 0, none⟩) f cv) (fun _ h => h.1) _ Tryz.underlying154 rfl) Ss0.out ?_
          refine wpAnyK_take (i := 4) (v := _) rfl (by kernel_rfl) (by kernel_rfl) (by kernel_rfl) (fun _ _ _ h => h) rfl (by kernel_rfl) (by kernel_rfl) (by decide) (yieldsIf_move (by kernel_rfl) (.tmp 5) rfl (.int .i64 (f : Nat)) (by kernel_rfl)) Ss0.out ?_
          refine wpAnyK_take (i := 5) (v := .int .i64 ((f - 1 : Nat) : Int)) rfl (by kernel_rfl) (by kernel_rfl) (by kernel_rfl) (fun _ _ _ h => h) rfl (by kernel_rfl) (by kernel_rfl) (by decide) (.inl ⟨by kernel_rfl, fun w _ => by go_simp⟩) Ss0.out ?_
          refine wpAnyK_take (i := 6) (v := _) rfl (by kernel_rfl) (by kernel_rfl) (by kernel_rfl) (fun _ _ _ h => h) rfl (by kernel_rfl) (by kernel_rfl) (by decide) (yieldsIf_move (by kernel_rfl) (.tmp 0) rfl (.pointer (some ⟨q, 0, none⟩)) (by kernel_rfl)) Ss0.out ?_
          refine wpAnyK_take (i := 7) (v := _) rfl (by kernel_rfl) (by kernel_rfl) (by kernel_rfl) (fun _ _ _ h => h) rfl (by kernel_rfl) (by kernel_rfl) (by decide) (yieldsIf_nil (by kernel_rfl) (.tmp 53) rfl ⟨q, 0, none⟩ (by kernel_rfl)) Ss0.out ?_
          refine wpAnyK_take (i := 8) (v := _) rfl (by kernel_rfl) (by kernel_rfl) (by kernel_rfl) (fun _ _ _ h => h) rfl (by kernel_rfl) (by kernel_rfl) (by decide) (yieldsIf_fld (by kernel_rfl) _ (.tmp 54) 2 rfl (.pointer (some ⟨q, 0, none⟩)) (.pointer (some ⟨q, 2, none⟩)) (by kernel_rfl) (fun w => by go_simp)) Ss0.out ?_
          refine wpAnyK_take (i := 9) (v := _) rfl (by kernel_rfl) (by kernel_rfl) (by kernel_rfl) (fun _ _ _ h => h) rfl (by kernel_rfl) (by kernel_rfl) (by decide) (yieldsIf_load_one (by kernel_rfl) _ (.tmp 55) rfl q (2) (by kernel_rfl) (.slice (some ⟨g, 0, none⟩) f cv) (fun _ h => h.1) _ Tryz.underlying154 rfl) Ss0.out ?_
          refine wpAnyK_take (i := 10) (v := _) rfl (by kernel_rfl) (by kernel_rfl) (by kernel_rfl) (fun _ _ _ h => h) rfl (by kernel_rfl) (by kernel_rfl) (by decide) (yieldsIf_move (by kernel_rfl) (.tmp 5) rfl (.int .i64 (f : Nat)) (by kernel_rfl)) Ss0.out ?_
          refine wpAnyK_take (i := 11) (v := .int .i64 ((f - 1 : Nat) : Int)) rfl (by kernel_rfl) (by kernel_rfl) (by kernel_rfl) (fun _ _ _ h => h) rfl (by kernel_rfl) (by kernel_rfl) (by decide) (.inl ⟨by kernel_rfl, fun w _ => by go_simp⟩) Ss0.out ?_
          refine wpAnyK_take (i := 12) (v := .pointer (some ⟨g, (f - 1) * 2, none⟩)) rfl (by kernel_rfl) (by kernel_rfl) (by kernel_rfl) (fun _ _ _ h => h) rfl (by kernel_rfl) (by kernel_rfl) (by decide) (.inl ⟨by kernel_rfl, fun w _ => by go_simp⟩) Ss0.out ?_
          refine wpAnyK_take (i := 13) (v := _) rfl (by kernel_rfl) (by kernel_rfl) (by kernel_rfl) (fun _ _ _ h => h) rfl (by kernel_rfl) (by kernel_rfl) (by decide) (yieldsIf_load_range (by kernel_rfl) _ (.tmp 59) rfl g ((f - 1) * 2) (by kernel_rfl) [.int .i64 (xa : Nat), .slice (some ⟨bx, ox, none⟩) xn xc] (fun _ h => h.2) 2 _ Tryz.underlying158 rfl size_ext (rfl : Hid (([.int .i64 (xa : Nat), .slice (some ⟨bx, ox, none⟩) xn xc] : List Value).length = 2))) Ss0.out ?_
          refine wpAnyK_take (i := 14) (v := _) rfl (by kernel_rfl) (by kernel_rfl) (by kernel_rfl) (fun _ _ _ h => h) rfl (by kernel_rfl) (by kernel_rfl) (by decide) (yieldsIf_move (by kernel_rfl) (.tmp 1) rfl (.int .i64 (s : Nat)) (by kernel_rfl)) Ss0.out ?_
          refine wpAnyK_one 15 _ (by kernel_rfl) rfl fun K hK => ?_
          go_simp
          refine (CP.out _).mono ?_
          rintro e vs1 ⟨rfl, l6⟩
          have Ss1 : Hid (vs1.cell? ⟨q, 2, none⟩ = some (.slice (some ⟨g, 0, none⟩) f cv) ∧ vs1.rangeAt g ((f - 1) * 2) [.int .i64 (xa : Nat), .slice (some ⟨bx, ox, none⟩) xn xc]) := ⟨(l6.cell (lt_of_cell Ss0.out.1)).trans Ss0.out.1, range_below Ss0.out.2 l6 hg5.out⟩
          have bs1 : Hid (True) := trivial
          have K6 := Lib.hid ((Below.refl w5.heap.size w5).drew.trans l6)
          clear l6
          refine hK _ _ (fun _ => Ss1.out) ?_
          clear hK K
          refine wpAnyK_one 16 _ (by kernel_rfl) rfl fun K hK => ?_
          go_simp
          refine (CC.out _ K6.out).mono ?_
          rintro e vs2 ⟨v2, rfl, o7, l7⟩
          have Ss2 : Hid (vs2.cell? ⟨q, 2, none⟩ = some (.slice (some ⟨g, 0, none⟩) f cv) ∧ vs2.rangeAt g ((f - 1) * 2) [.int .i64 (xa : Nat), .slice (some ⟨bx, ox, none⟩) xn xc]) := ⟨(l7.cell (lt_of_cell Ss1.out.1)).trans Ss1.out.1, range_below Ss1.out.2 l7 (Nat.lt_of_lt_of_le hg5.out K6.out.size)⟩
          have bs2 : Hid (True) := trivial
          have O7 := Lib.hid (o7.mono K6.out.size)
          have K7 := Lib.hid (K6.out.trans (l7.mono K6.out.size))
          obtain ⟨A1, n1, c1, rfl, _⟩ := o7.own.open
          clear o7 l7
          refine hK _ _ (fun _ => Ss2.out) ?_
          clear hK K
          refine wpAnyK_one 17 _ (by kernel_rfl) rfl fun K hK => ?_
          go_simp
          refine hK _ _ (fun h => Bool.noConfusion (show true = false from h)) ?_
          clear hK K
          refine wpAnyK_frame fun a1 ha1 => ?_
          have e1_64 : a1.eval (.tmp 64) = .pointer (some ⟨g, (f - 1) * 2, none⟩) := by rw [ha1]; kernel_rfl
          have e1_63 : a1.eval (.tmp 63) = .agg #[.int .i64 (xa : Nat), .slice A1 n1 c1] := by rw [ha1]; kernel_rfl
          refine wpAnyK_one 18 _ (by kernel_rfl) rfl fun K hK => ?_
          have BG7 := Lib.hid (BG5.out.below K7.out hg5.out)
          refine step_store_midb (by kernel_rfl) 158 (.tmp 64) (.tmp 63) (by kernel_rfl) g ((f - 1) * 2) e1_64 158 cs [.int .i64 (xa : Nat), .slice A1 n1 c1] e1_63 BG7 2 size_ext rfl hfit (ext_one _ _ rfl) ?_
          intro w8 BG8 P8 hg8
          refine hK _ _ (fun h => Bool.noConfusion (show true = false from h)) ?_
          clear hK K
          rw [ha1]
          refine wpAnyK_done (by kernel_rfl) ?_ _
          have hqg : q ≠ g := fun e => BQ5.out.ne_own O5.out (by decide) (by rw [e]; rfl)
          have BQ8 : Hid (Blk w8 q 156 [.bool true, .int .i64 (L : Nat), .slice (some ⟨g, 0, none⟩) f cv]) := ((BQ5.out.over K7.out).only P8.out hqg)
          go_wp2_with (first
            | ((with_reducible show wpList _ _ _ (⟨none, .store _ _ _, _, _, _, _⟩ :: _) _ _); go_loud (refine wpList_store_fld rfl _ (.tmp 68) (.tmp 66) rfl q 1 rfl _ [.bool true, .int .i64 (L : Nat), .slice (some ⟨g, 0, none⟩) f cv] (.int .i64 (s : Nat)) rfl BQ8 (show 1 < 3 by omega) (by kernel_rfl) rfl ?_); intro w9 BQ9 P9 hq9)
            | fail)
          go_ret
          have hG8 := BG8.out
          have hs57 := K7.out.size
          have hw5 : w.heap.size ≤ w5.heap.size := SP5.out.size
          have O7' := O7.out
          have O8 : OwnZ .u8 5 w8 w5.heap.size (.slice A1 n1 c1) (px.take (s - xa)) := O7'.keep fun i _ hi hcs => P8.out.rest i fun e => by
            subst e
            rw [show vs2.heap[i]? = _ from BG7.out] at hcs
            simp only [Option.some.injEq, Obj.cells.injEq] at hcs
            exact absurd hcs.2.1 (by decide)
          have hY8 : OwnB false w8 base (.slice A1 n1 c1) (px.take (s - xa)) := OwnB.of_z (O8.mono (Nat.le_trans hb hw5)) false
          have hY9 : OwnB false w9 base (.slice A1 n1 c1) (px.take (s - xa)) := hY8.spare (Spare.of_only P9.out) fun i hi e => hY8.ne_blk BQ8.out (by decide) (by rw [hi, e])
          have hE9 : ∀ x ∈ l, OwnB false w9 base (partV x.2) x.2.2.2.2 := fun x hx => by
            have h1 := (EACH5.out x hx).below K7.out
            have h2 := h1.spare (Spare.of_only P8.out) fun i hi e => h1.ne_blk BG7.out (by decide) (by rw [hi, e])
            exact h2.spare (Spare.of_only P9.out) fun i hi e => h2.ne_blk BQ8.out (by decide) (by rw [hi, e])
          have SP9 : Spare (pdS q (.slice (some ⟨g, 0, none⟩) nv cv) l) w w9 := (SP5.out.trans ((Spare.of_over (pdS q (.slice (some ⟨g, 0, none⟩) nv cv) l) K7.out).trans ((Spare.of_only P8.out).mono (S' := pdS q (.slice (some ⟨g, 0, none⟩) nv cv) l) fun j _ hj => .inr (.inl (by rw [hj]; rfl))) fun j _ h => h) fun j _ h => h).trans ((Spare.of_only P9.out).mono (S' := pdS q (.slice (some ⟨g, 0, none⟩) nv cv) l) fun j _ hj => .inl hj) fun j _ h => h
          have hfl := HF.out
          refine ⟨rfl, PDat.wasCut D.out hs65 G0.out G1.out (l' := l.take (f - 1) ++ [((xa, A1, n1, c1, px.take (s - xa)) : ExtV)]) ?_ BQ9.out ?_ (fun x hx => ?_) SP9⟩
          · refine D.out.can.cut_map HLENS.out hfl G0.out (by rw [List.length_append, List.length_take]; show min (f - 1) l.length + 1 = f; omega) (fun i x hi hx => by rw [List.getElem?_append_left (by rw [List.length_take]; omega), List.getElem?_take, if_pos (by omega), hx]) fun x _ hx => ⟨(xa, A1, n1, c1, px.take (s - xa)), ?_, ?_⟩
            · have e1 : (l.take (f - 1)).length = f - 1 := by rw [List.length_take]; omega
              rw [List.getElem?_append_right (by omega), e1, Nat.sub_self]
              rfl
            · rw [HXX.out] at hx
              injection hx with hx
              subst hx
              exact ⟨rfl, rfl⟩
          · have hB9 : Blk w9 g 158 _ := hG8.only P9.out (fun e => hqg e.symm)
            have e1 : (cs.take ((f - 1) * 2)).length = (f - 1) * 2 := by rw [List.length_take, HCL.out]; omega
            have e2 : cs.take ((f - 1) * 2) = (l.take (f - 1)).flatMap extCells := by
              have h4 := congrArg (List.take ((f - 1) * 2)) HTK.out
              rw [List.take_take, Nat.min_eq_left (by omega)] at h4
              rw [h4]
              have h5 : l.take f = l.take (f - 1) ++ (l.take f).drop (f - 1) := by
                conv => lhs; rw [← List.take_append_drop (f - 1) (l.take f)]
                rw [List.take_take, Nat.min_eq_left (by omega)]
              rw [h5, List.flatMap_append, List.take_left' (by rw [flatMap_len extCells_len, List.length_take]; omega)]
            refine OwnS.of_blk extCells_len (D.out.row.block rfl).1 hB9 ?_ hcm (by rw [List.length_append, List.length_take]; show min (f - 1) l.length + 1 = f; omega) hfc ?_
            · have := HCL.out
              simp only [List.length_append, List.length_take, List.length_drop, List.length_cons, List.length_nil]
              omega
            · rw [List.flatMap_append, ← e2, ← List.append_assoc, List.take_left' (by rw [List.length_append, e1]; show (f - 1) * 2 + 2 = f * 2; omega)]
              rfl
          · rcases List.mem_append.1 hx with hx | hx
            · have hm := List.mem_of_mem_take hx
              exact ⟨hE9 x hm, fun i hi => .inl (.inr (.inr ⟨x, hm, hi⟩))⟩
            · rw [List.mem_singleton.1 hx]
              exact ⟨hY9, fun i hi => .inr (Nat.le_trans hw5 (O8.own.block hi).1)⟩
        · have hdc : decide ((s : Int) < (xa : Int) + (xn : Int)) = false := decide_eq_false (by omega)
          go_wp2_with (first
            | ((with_reducible show wpList _ _ _ (⟨none, .store _ _ _, _, _, _, _⟩ :: _) _ _); go_loud (refine wpList_store_fld rfl _ (.tmp 68) (.tmp 66) rfl q 1 rfl _ [.bool true, .int .i64 (L : Nat), .slice (some ⟨g, 0, none⟩) f cv] (.int .i64 (s : Nat)) rfl BQ5 (show 1 < 3 by omega) (by kernel_rfl) rfl ?_); intro w6 BQ6 P6 hq6)
            | fail)
          go_ret
          refine ⟨rfl, PDat.wasCut D.out hs65 G0.out G1.out (l' := l.take f) ?_ BQ6.out ?_ (fun x hx => ⟨(EACH5.out x (List.mem_of_mem_take hx)).spare (Spare.of_only P6.out) fun i hi e => (EACH5.out x (List.mem_of_mem_take hx)).ne_blk BQ5.out (by decide) (by rw [hi, e]), fun i hi => .inl (.inr (.inr ⟨x, List.mem_of_mem_take hx, hi⟩))⟩) (SP5.out.trans ((Spare.of_only P6.out).mono (S' := pdS q (.slice (some ⟨g, 0, none⟩) nv cv) l) fun j _ hj => .inl hj) fun j _ h => h)⟩
          · refine D.out.can.cut_map HLENS.out HF.out G0.out (by rw [List.length_take]; have := HF.out; omega) (fun i x hi hx => by rw [List.getElem?_take, if_pos (by omega), hx]) fun x _ hx => ⟨x, by rw [List.getElem?_take, if_pos (by omega), hx], rfl, ?_⟩
            rw [HXX.out] at hx
            injection hx with hx
            subst hx
            exact (List.take_of_length_le (show px.length ≤ s - xa by have := HLX.out; omega)).symm
          · exact O5.out.sparS (Spare.of_only P6.out) fun i hi e => BQ5.out.ne_own O5.out (by decide) (by rw [hi, e])
end Go.Proofs.YtdgpbhdihhchgaaGreatDoor

namespace Go.Proofs.YtdgpbhdihhchgaaGreatDoor
set_option linter.all false
set_option maxRecDepth 100000
open Go.RowKit
set_option linter.unusedVariables false
noncomputable def theDr : DrI where
  tb := TabsD
  tbNext h hb := TabsD.next h hb
  tbUp h hb := TabsD.up h hb
  is := IsDir
  ge := by
    rintro w b q L S ⟨v, m, D, d, hS⟩ j hj
    exact d.set_lt j ((hS j).1 hj)
  ok := by
    rintro w b q L S ⟨v, m, D, d, hS⟩
    exact ⟨d.ok, d.small, d.text⟩
  keep := by
    rintro w w' b q L S S' ⟨v, m, D, d, hS⟩ a hs
    exact ⟨v, m, D, d.spare a fun j hj => hs j ((hS j).2 hj), hS⟩
  mono := by
    rintro w b b' q L S ⟨v, m, D, d, hS⟩ hb
    exact ⟨v, m, D, d.mono hb, hS⟩
  new := by
    intro w b _ _
    refine (DNew_any w).mono ?_
    rintro e w' ⟨q, m, rfl, d, hb⟩
    exact ⟨q, _, rfl, ⟨_, m, _, d, fun j => Iff.rfl⟩, hb⟩
  len := by
    rintro w b q L S ⟨v, m, D, d, hS⟩
    obtain ⟨A, c, rfl⟩ := d.len
    refine (DLen_any w q L.length c A d.c0).mono ?_
    rintro e w' ⟨rfl, rfl⟩
    exact ⟨rfl, 0, rfl⟩
  find := by
    rintro w b q L S ⟨v, m, D, d, hS⟩ tb hb s hs
    exact DFind_any w b q v m D L d hb tb s hs
  add := by
    rintro w b q L S ⟨v, m, D, d, hS⟩ tb hb s n hs hn hL
    exact (DAdd_any w b q v m D L d hb tb s hs n hn hL).mono fun e w' h => IsDir.turn hS h
  remove := by
    rintro w b q L S ⟨v, m, D, d, hS⟩ tb hb s hs
    exact (DRemove_any w b q v m D L d hb tb s hs).mono fun e w' h => IsDir.turn hS h
  list := by
    rintro w b q L S ⟨v, m, D, d, hS⟩ tb hb p a mo hp ha hm
    exact dir_list w b q L v m D d tb hb p a mo hp ha hm
noncomputable def theFi : FiI where
  is := fun w b q B Z S => ∃ v l, PDat w b q v l B Z ∧ S = pdS q v l
  ge := by
    rintro w b q B Z S ⟨v, l, d, rfl⟩ j hj
    exact d.set_ge j hj
  okB := by
    rintro w b q B Z S ⟨v, l, d, rfl⟩
    exact ⟨d.len, d.small, d.byte⟩
  keep := by
    rintro w w' b q B Z S S' ⟨v, l, d, rfl⟩ a h
    exact ⟨v, l, d.spare a h, rfl⟩
  mono := by
    rintro w b b' q B Z S ⟨v, l, d, rfl⟩ h
    exact ⟨v, l, d.mono h, rfl⟩
  new := fun w => (new_any w).mono fun e w' ⟨q, h1, h2, h3⟩ => ⟨q, _, h1, ⟨_, _, h2, rfl⟩, h3⟩
  size := by
    rintro w b q B Z S ⟨v, l, d, rfl⟩
    exact size_any w q B.length (d.blk.cell 1)
  read := by
    rintro w b q B Z S ⟨v, l, d, rfl⟩ a k ha hk
    refine (PRead_any w b q v l B Z d a k ha hk).mono ?_
    rintro e w' ⟨u, h1, h2, h3⟩
    exact ⟨u, h1, h2.own, Loose.of h2 (Nat.le_refl _), h3⟩
  write := by
    rintro w b q B Z S ⟨v, l, d, rfl⟩ a A n c xs ha hx hc _ hb
    refine (PWrite_any w b q v l B Z d a ha A n c xs hx hc hb).mono ?_
    rintro e w' ⟨h1, v', l', h2, h3, h4⟩
    exact ⟨h1, _, ⟨v', l', h2, rfl⟩, h3, h4⟩
  cut := by
    rintro w b q B Z S ⟨v, l, d, rfl⟩ s hs hb
    refine (PCut_any w b q v l B Z d s hs hb).mono ?_
    rintro e w' ⟨h1, v', l', h2, h3, h4⟩
    exact ⟨h1, _, ⟨v', l', h2, rfl⟩, h3, h4⟩
theorem theDr_tabs : HasT theDr := fun tb _ => TabsD.tabs tb
theorem isV.pv {DI : DrI} {EI : FiI} {w : World} {b q : Nat} {V : VolM} {S : Nat → Prop} (h : isV DI EI w b q V S) (tb : DI.tb b w) : ∃ m D M, PV DI EI w b q m D V M ∧ S = pvS q m M := by
  obtain ⟨m, D, M, p, e, ok, big, hS⟩ := h
  exact ⟨m, D, M, ⟨p, e, ok, big, tb⟩, hS⟩
noncomputable def volOf (DI : DrI) (EI : FiI) (HT : HasT DI) : VolI where
  tb := DI.tb
  tbNext := fun h hb => DI.tbNext h hb
  tbUp := fun h hb => DI.tbUp h hb
  is := isV DI EI
  ge := by
    rintro w b q V S ⟨m, D, M, p, _, _, _, rfl⟩ j hj
    exact p.lt j hj
  ok := by
    rintro w b q V S ⟨m, D, M, p, _, ok, big, rfl⟩
    exact ⟨ok, big⟩
  keep := by
    rintro w w' b q V S S' ⟨m, D, M, p, e, ok, big, rfl⟩ a hs
    exact ⟨m, D, M, p.spare a hs, e, ok, big, rfl⟩
  mono := by
    rintro w b b' q V S ⟨m, D, M, p, e, ok, big, rfl⟩ hb
    exact ⟨m, D, M, p.mono hb, e, ok, big, rfl⟩
  new := fun tb hb hk => VNew_any DI EI tb hb hk
  find := by
    rintro w b q V S h tb hb s hs
    obtain ⟨m, D, M, p, rfl⟩ := h.pv tb
    exact VFind_any HT p hs
  make := by
    rintro w b q V S h tb hb hl s k hs
    obtain ⟨m, D, M, p, rfl⟩ := h.pv tb
    exact VMake_any HT p hs hl
  remove := by
    rintro w b q V S h tb hb n hn
    obtain ⟨m, D, M, p, rfl⟩ := h.pv tb
    exact VRemove_any p hn
  move := by
    rintro w b q V S h tb hb n s o hn hs
    obtain ⟨m, D, M, p, rfl⟩ := h.pv tb
    exact VMove_any HT p hn hs
  write := by
    rintro w b q V S h tb hb n a A l c xs hn ha hh ho hc
    obtain ⟨m, D, M, p, rfl⟩ := h.pv tb
    exact VWrite_any p hn ha hh ho hc
  cut := by
    rintro w b q V S h tb hb n s hn hs
    obtain ⟨m, D, M, p, rfl⟩ := h.pv tb
    exact VCut_any p hn hs
  stat := by
    rintro w b q V S ⟨m, D, M, p, e, ok, big, rfl⟩ n hn
    cases hx : vAt V.l n with
    | none =>
      have c := VStat_no p hn fun y hy => vAt_none hx _ (by rw [← e]; exact List.mem_map.2 ⟨y, hy, rfl⟩)
      have e1 : vKind V.l n = 0 := by unfold vKind; rw [hx]
      have e2 : vSize V.l n = 0 := by unfold vSize; rw [hx]
      have e3 : vStatE V.l n = 7 := by unfold vStatE; rw [hx]; rfl
      rw [e1, e2, e3]
      exact c
    | some x =>
      obtain ⟨hxl, hxn⟩ := vAt_mem hx
      rw [← e] at hxl
      obtain ⟨y, hy, rfl⟩ := List.mem_map.1 hxl
      have c := VStat_yes p hy hxn fun hk => (ok.dirB y.1 (by rw [← e]; exact List.mem_map.2 ⟨y, hy, rfl⟩) hk).1
      have e1 : vKind V.l n = y.1.kind := by unfold vKind; rw [hx]
      have e2 : vSize V.l n = y.1.B.length := by unfold vSize; rw [hx]
      have e3 : vStatE V.l n = 0 := by unfold vStatE; rw [hx]; rfl
      rw [e1, e2, e3]
      exact c
  path := by
    rintro w b q V S h tb hb n hn
    obtain ⟨m, D, M, p, rfl⟩ := h.pv tb
    exact VPath_any HT p hn
  read := by
    rintro w b q V S ⟨m, D, M, p, e, ok, big, rfl⟩ n a k hn ha hk
    have nil : ∀ {E : Int}, vDatE V.l n = E → E ≠ 0 → Calls Tryz.prog 25 #[ptrV q, .int .i64 n, .int .i64 a, .int .i64 k] w (fun e w' => e = .returned (.tuple #[.slice none 0 0, .int .i64 E]) ∧ Below w.heap.size w w') →
        Calls Tryz.prog 25 #[ptrV q, .int .i64 n, .int .i64 a, .int .i64 k] w fun e w' => ∃ u, e = .returned (.tuple #[u, .int .i64 (vReadE V.l n a k)]) ∧ Own w' w.heap.size u (vRead V.l n a k) ∧ Below w.heap.size w w' := fun {E} h1 h2 c => by
      have e1 : vReadE V.l n a k = E := by unfold vReadE; rw [if_pos (by rw [h1]; exact h2), h1]
      have e2 : vRead V.l n a k = [] := by unfold vRead; rw [if_neg (by rw [e1]; exact h2)]
      rw [e1, e2]
      refine c.mono ?_
      rintro e w' ⟨rfl, hb⟩
      exact ⟨_, rfl, OwnK.nil _ _ _ _, hb⟩
    cases hx : vAt V.l n with
    | none =>
      have hno : ∀ y ∈ M, y.1.n ≠ n := fun y hy => vAt_none hx _ (by rw [← e]; exact List.mem_map.2 ⟨y, hy, rfl⟩)
      exact nil (E := 7) (by unfold vDatE; rw [hx]; rfl) (by decide) (VRead_err p (VFile_no p hn hno) (by decide))
    | some x =>
      obtain ⟨hxl, hxn⟩ := vAt_mem hx
      rw [← e] at hxl
      obtain ⟨y, hy, rfl⟩ := List.mem_map.1 hxl
      have hkk : vKind V.l n = y.1.kind := by unfold vKind; rw [hx]
      rcases p.kind y hy with hk1 | hk2
      · exact nil (E := 9) (by unfold vDatE; rw [hx, if_neg (by simp), if_pos (by rw [hkk, hk1]; decide)]) (by decide) (VRead_err p (VFile_dir p hy hxn hk1) (by decide))
      · have e0 : vDatE V.l n = 0 := by unfold vDatE; rw [hx, if_neg (by simp), if_neg (by rw [hkk, hk2]; decide)]
        have eb : vBytes V.l n = y.1.B := by unfold vBytes; rw [hx]
        have e1 : vReadE V.l n a k = exRdE y.1.B.length a k := by unfold vReadE; rw [if_neg (by rw [e0]; decide), eb]
        have e2 : vRead V.l n a k = exRd y.1.B a k := by
          unfold vRead
          rw [e1, eb]
          by_cases h0 : exRdE y.1.B.length a k = 0
          · rw [if_pos h0]
          · rw [if_neg h0]
            unfold exRd
            rw [if_neg h0]
        rw [e1, e2]
        exact VRead_yes p hy hxn hk2 ha hk
  list := by
    rintro w b q V S h tb hb n k p' a hn hk hp ha
    obtain ⟨m, D, M, p, rfl⟩ := h.pv tb
    exact VList_any p hn hk hp ha
  used := by
    rintro w b q V S h tb
    obtain ⟨m, D, M, p, rfl⟩ := h.pv tb
    exact VUsed_any p
  nodes := by
    rintro w b q V S h tb
    obtain ⟨m, D, M, p, rfl⟩ := h.pv tb
    exact VNodes_any p
noncomputable def theVol : VolI := volOf theDr theFi theDr_tabs
end Go.Proofs.YtdgpbhdihhchgaaGreatDoor

namespace Go.Proofs.YtdgpbhdihhchgaaGreatDoor
set_option linter.all false
set_option maxRecDepth 100000
open Go.RowKit
set_option linter.unusedVariables false
def NoV (w : World) (v : Value) : Prop := v = .pointer none ∨ ∃ g, v = .pointer (some ⟨g, 0, none⟩) ∧ Blk w g 71 [.int .i64 0, .map none, .int .i64 0]
theorem NoV.below {w w' : World} {v : Value} (h : NoV w v) (hb : Below w.heap.size w w') : NoV w' v := by
  rcases h with h | ⟨g, h, b⟩
  · exact .inl h
  · exact .inr ⟨g, h, b.over hb⟩
theorem NoV.non {w w' : World} {v : Value} (h : NoV w v) (hb : Below w.heap.size w w') : Calls Tryz.prog 40 #[v] w' fun e w2 => e = .returned (.bool true) ∧ w' = w2 := by
  rcases h.below hb with rfl | ⟨g, rfl, b⟩
  · exact VNone_nil w'
  · exact VNone_zero w' g (b.cell 1)
theorem NoV.one {w : World} {v : Value} (h : NoV w v) : v.oneCell' = true := by
  rcases h with rfl | ⟨g, rfl, _⟩ <;> rfl
theorem NoV.node {w w' : World} {v : Value} (h : NoV w v) (hb : Below w.heap.size w w') (n : Int) : Calls Tryz.prog 46 #[v, .int .i64 n] w' fun e w2 => e = .returned (.tuple #[.pointer none, .int .i64 1]) ∧ w' = w2 := by
  have H := Lib.hid (h.non hb)
  clear h hb
  go_enter Tryz.func46, Tryz.ntmps46
  go_wp2_with fail
  refine H.out.mono ?_
  rintro e w1 ⟨rfl, rfl⟩
  go_wp2_with fail
  go_ret2
  exact ⟨rfl, rfl⟩
theorem NoV.low {w w' : World} {v : Value} (h : NoV w v) (hb : Below w.heap.size w w') (n : Int) : Calls Tryz.prog 64 #[v, .int .i64 n] w' fun e w2 => e = .returned (.tuple #[.pointer none, .int .i64 1]) ∧ w' = w2 := by
  have H := Lib.hid (h.node hb n)
  clear h hb
  go_enter Tryz.func64, Tryz.ntmps64
  go_wp2_with fail
  refine H.out.mono ?_
  rintro e w1 ⟨rfl, rfl⟩
  go_wp2_with fail
  go_ret2
  exact ⟨rfl, rfl⟩
theorem NoV.file {w w' : World} {v : Value} (h : NoV w v) (hb : Below w.heap.size w w') (n : Int) : Calls Tryz.prog 62 #[v, .int .i64 n] w' fun e w2 => e = .returned (.tuple #[.pointer none, .int .i64 1]) ∧ w' = w2 := by
  have H := Lib.hid (h.node hb n)
  clear h hb
  go_enter Tryz.func62, Tryz.ntmps62
  go_wp2_with fail
  refine H.out.mono ?_
  rintro e w1 ⟨rfl, rfl⟩
  go_wp2_with fail
  go_ret2
  exact ⟨rfl, rfl⟩
theorem NoV.change {w w' : World} {v : Value} (h : NoV w v) (hb : Below w.heap.size w w') (n : Int) (f : Value) : Calls Tryz.prog 74 #[v, .int .i64 n, f] w' fun e w2 => e = .returned (.int .i64 1) ∧ w' = w2 := by
  have H := Lib.hid (h.file hb n)
  clear h hb
  go_enter Tryz.func74, Tryz.ntmps74
  go_wp2_with fail
  refine H.out.mono ?_
  rintro e w1 ⟨rfl, rfl⟩
  go_wp2_with fail
  go_ret
  exact ⟨rfl, rfl⟩
theorem Find_noV (w : World) (v : Value) (h : NoV w v) (s : ByteArray) : Calls Tryz.prog 13 #[v, .string s] w fun e w' => e = .returned (.tuple #[.int .i64 0, .int .i64 1]) ∧ Below w.heap.size w w' := by
  have H := Lib.hid (h.non (Below.refl _ _))
  clear h
  go_enter Tryz.func13, Tryz.ntmps13
  go_wp2
  go_step3
  go_wp2_with fail
  refine H.out.mono ?_
  rintro e w1 ⟨rfl, rfl⟩
  go_wp2_with fail
  rw [Exit.noGoto_ret]
  go_ret2
  exact ⟨rfl, Below.refl _ _⟩
theorem Make_noV (w : World) (v : Value) (h : NoV w v) (s : ByteArray) (k : Int) : Calls Tryz.prog 28 #[v, .string s, .int .u8 k] w fun e w' => e = .returned (.tuple #[.int .i64 0, .int .i64 1]) ∧ Below w.heap.size w w' := by
  have H := Lib.hid (h.non (Below.refl _ _))
  clear h
  go_enter Tryz.func28, Tryz.ntmps28
  go_wp2_with fail
  refine H.out.mono ?_
  rintro e w1 ⟨rfl, rfl⟩
  go_wp2_with fail
  go_ret2
  exact ⟨rfl, Below.refl _ _⟩
theorem Remove_noV (w : World) (v : Value) (h : NoV w v) (n : Int) : Calls Tryz.prog 29 #[v, .int .i64 n] w fun e w' => e = .returned (.int .i64 1) ∧ Below w.heap.size w w' := by
  have H := Lib.hid (h.low (Below.refl _ _) n)
  clear h
  go_enter Tryz.func29, Tryz.ntmps29
  go_wp2_with fail
  refine H.out.mono ?_
  rintro e w1 ⟨rfl, rfl⟩
  go_wp2_with fail
  go_ret
  exact ⟨rfl, Below.refl _ _⟩
theorem Move_noV (w : World) (v : Value) (h : NoV w v) (n : Int) (s : ByteArray) (o : Bool) : Calls Tryz.prog 26 #[v, .int .i64 n, .string s, .bool o] w fun e w' => e = .returned (.int .i64 1) ∧ Below w.heap.size w w' := by
  have H := Lib.hid (h.low (Below.refl _ _) n)
  clear h
  go_enter Tryz.func26, Tryz.ntmps26
  go_wp2_with fail
  refine H.out.mono ?_
  rintro e w1 ⟨rfl, rfl⟩
  go_wp2_with fail
  go_ret
  exact ⟨rfl, Below.refl _ _⟩
theorem Read_noV (w : World) (v : Value) (h : NoV w v) (n a k : Int) : Calls Tryz.prog 25 #[v, .int .i64 n, .int .i64 a, .int .i64 k] w fun e w' => e = .returned (.tuple #[.slice none 0 0, .int .i64 1]) ∧ Below w.heap.size w w' := by
  have H := Lib.hid (h.file (Below.refl _ _) n)
  clear h
  go_enter Tryz.func25, Tryz.ntmps25
  go_wp2_with fail
  refine H.out.mono ?_
  rintro e w1 ⟨rfl, rfl⟩
  go_wp2_with fail
  go_ret2
  exact ⟨rfl, Below.refl _ _⟩
theorem List_noV (w : World) (v : Value) (h : NoV w v) (n : Int) (s t : ByteArray) (k : Int) : Calls Tryz.prog 19 #[v, .int .i64 n, .string s, .string t, .int .i64 k] w fun e w' => e = .returned (.tuple #[.slice none 0 0, .bool false, .int .i64 1]) ∧ Below w.heap.size w w' := by
  have H := Lib.hid (h.node (Below.refl _ _) n)
  clear h
  go_enter Tryz.func19, Tryz.ntmps19
  go_wp2_with fail
  refine H.out.mono ?_
  rintro e w1 ⟨rfl, rfl⟩
  go_wp2_with fail
  go_ret3
  exact ⟨rfl, Below.refl _ _⟩
theorem Used_noV (w : World) (v : Value) (h : NoV w v) : Calls Tryz.prog 24 #[v] w fun e w' => e = .returned (.int .i64 0) ∧ Below w.heap.size w w' := by
  have H := Lib.hid (h.non (Below.refl _ _))
  clear h
  go_enter Tryz.func24, Tryz.ntmps24
  go_wp2_with fail
  refine H.out.mono ?_
  rintro e w1 ⟨rfl, rfl⟩
  go_wp2_with fail
  go_ret
  exact ⟨rfl, Below.refl _ _⟩
theorem Nodes_noV (w : World) (v : Value) (h : NoV w v) : Calls Tryz.prog 22 #[v] w fun e w' => e = .returned (.slice none 0 0) ∧ Below w.heap.size w w' := by
  have H := Lib.hid (h.non (Below.refl _ _))
  clear h
  go_enter Tryz.func22, Tryz.ntmps22
  go_wp2_with fail
  refine H.out.mono ?_
  rintro e w1 ⟨rfl, rfl⟩
  go_wp2_with fail
  go_ret
  exact ⟨rfl, Below.refl _ _⟩
theorem Stat_noV (w : World) (v : Value) (h : NoV w v) (n : Int) : Calls Tryz.prog 15 #[v, .int .i64 n] w fun e w' => e = .returned (.tuple #[.agg #[.int .u8 0, .int .i64 0], .int .i64 1]) ∧ Below w.heap.size w w' := by
  have CN : Hid (∀ w', Below w.heap.size w w' → Calls Tryz.prog 46 #[v, .int .i64 n] w' fun e w2 => e = .returned (.tuple #[.pointer none, .int .i64 1]) ∧ w' = w2) := fun w' hb => h.node hb n
  have ZN : Hid ((Tryz.prog.info? 34).map (fun i => (i.zero, i.size)) = some (some (.agg ([.int .u8 0, .int .i64 0] : List Value).toArray), 2)) := zero_stat
  clear h
  go_enter Tryz.func15, Tryz.ntmps15
  go_wp2_with (first
    | ((with_reducible show wpList _ _ _ (⟨some 4, _, _, _, _, _⟩ :: _) _ _); refine wpList_alloc_blk rfl _ rfl [.int .u8 0, .int .i64 0] 2 ZN ?_; intro b w0 hb1 hb2 X0 L0)
    | fail)
  refine (CN.out w0 L0.out).mono ?_
  rintro e w1 ⟨rfl, rfl⟩
  go_wp2_with (first
    | ((with_reducible show wpList _ _ _ (⟨some 16, _, _, _, _, _⟩ :: _) _ _); go_loud (refine wpList_build_none rfl _ rfl [.int .u8 0, .int .i64 0] (by kernel_rfl) ?_))
    | ((with_reducible show wpList _ _ _ (⟨none, .store _ (.tmp 4) _, _, _, _, _⟩ :: _) _ _); go_loud (refine wpList_store_blk rfl _ (.tmp 4) (.tmp 16) rfl b rfl _ _ [.int .u8 0, .int .i64 0] rfl X0 2 size_stat rfl rfl (by intro u hu; simp only [List.mem_cons, List.not_mem_nil, or_false] at hu; rcases hu with rfl | rfl <;> rfl) ?_); intro w2 X2 O2 hg2)
    | fail)
  refine bodyPost_ret (v := .tuple #[.agg #[.int .u8 0, .int .i64 0], .int .i64 1]) ?_ rfl ⟨rfl, below_only L0.out O2.out hb1⟩
  exact results_cell_slot rfl _ _ b _ _ (0, 0) _ rfl X2.out Tryz.underlying34 rfl (by rw [size_stat]; rfl) rfl
theorem Path_noV (w : World) (v : Value) (h : NoV w v) (n : Int) : Calls Tryz.prog 17 #[v, .int .i64 n] w fun e w' => e = .returned (.tuple #[.string ⟨#[]⟩, .int .i64 1]) ∧ Below w.heap.size w w' := by
  have ho := h.one
  have C : Hid (∀ w', Below w.heap.size w w' → Calls Tryz.prog 46 #[v, .int .i64 n] w' fun e w2 => e = .returned (.tuple #[.pointer none, .int .i64 1]) ∧ w' = w2) := fun w' hb => h.node hb n
  rcases h with rfl | ⟨g, rfl, _⟩
  all_goals
    clear ho
    go_enter Tryz.func17, Tryz.ntmps17
    go_wp2_with (first
      | ((with_reducible show wpList _ _ _ (⟨some 2, _, _, _, _, _⟩ :: _) _ _); refine wpList_box_one rfl _ (.tmp 0) rfl (.pointer _) rfl rfl ?_; intro p2 w1 g1 g2 B1 L1; have c2 := B1.out.cell 0)
      | fail)
    refine (C.out w1 L1.out).mono ?_
    rintro e w2 ⟨rfl, rfl⟩
    go_wp2_with fail
    go_ret2
    exact ⟨rfl, L1.out⟩
theorem Write_noV (w : World) (v : Value) (h : NoV w v) (n a : Int) : Calls Tryz.prog 30 #[v, .int .i64 n, .int .i64 a, .slice none 0 0] w fun e w' => e = .returned (.int .i64 1) ∧ Below w.heap.size w w' := by
  have hmf : ∀ (fn : Fn) (first cap : Array Value) (w : World), (Instr.makeFunc fn first cap).run Tryz.prog w = .ok (.func fn first cap) w := fun _ _ _ _ => rfl
  have CC : Hid (∀ w' f, Below w.heap.size w w' → Calls Tryz.prog 74 #[v, .int .i64 n, f] w' fun e w2 => e = .returned (.int .i64 1) ∧ w' = w2) := fun w' f hb => h.change hb n f
  clear h
  go_enter Tryz.func30, Tryz.ntmps30
  go_wp2_with (first
    | ((with_reducible show wpList _ _ _ (⟨some 6, _, _, _, _, _⟩ :: _) _ _); refine wpList_box_one rfl _ (.tmp 2) rfl (.int .i64 a) rfl rfl ?_; intro p6 w1 g1 g2 B1 L1)
    | ((with_reducible show wpList _ _ _ (⟨some 7, _, _, _, _, _⟩ :: _) _ _); refine wpList_box_one rfl _ (.tmp 3) rfl (.slice none 0 0) rfl rfl ?_; intro p7 w2 g3 g4 B2 L2; have L12 := Lib.hid (step L1.out L2.out))
    | fail)
  refine (CC.out w2 _ L12.out).mono ?_
  rintro e w3 ⟨rfl, rfl⟩
  go_wp2_with fail
  go_ret
  exact ⟨rfl, L12.out⟩
theorem Cut_noV (w : World) (v : Value) (h : NoV w v) (n a : Int) : Calls Tryz.prog 31 #[v, .int .i64 n, .int .i64 a] w fun e w' => e = .returned (.int .i64 1) ∧ Below w.heap.size w w' := by
  have hmf : ∀ (fn : Fn) (first cap : Array Value) (w : World), (Instr.makeFunc fn first cap).run Tryz.prog w = .ok (.func fn first cap) w := fun _ _ _ _ => rfl
  have CC : Hid (∀ w' f, Below w.heap.size w w' → Calls Tryz.prog 74 #[v, .int .i64 n, f] w' fun e w2 => e = .returned (.int .i64 1) ∧ w' = w2) := fun w' f hb => h.change hb n f
  clear h
  go_enter Tryz.func31, Tryz.ntmps31
  go_wp2_with (first
    | ((with_reducible show wpList _ _ _ (⟨some 5, _, _, _, _, _⟩ :: _) _ _); refine wpList_box_one rfl _ (.tmp 2) rfl (.int .i64 a) rfl rfl ?_; intro p6 w1 g1 g2 B1 L1)
    | fail)
  refine (CC.out w1 _ L1.out).mono ?_
  rintro e w3 ⟨rfl, rfl⟩
  go_wp2_with fail
  go_ret
  exact ⟨rfl, L1.out⟩
end Go.Proofs.YtdgpbhdihhchgaaGreatDoor

namespace Go.Proofs.YtdgpbhdihhchgaaGreatDoor
set_option linter.all false
open Go.RowKit
set_option linter.unusedVariables false
section
variable {ops : Array Oper} {rest : List Oper} {o : Oper} {a : Act} {w : World} {Q : Exit → Act → World → Prop}
theorem Holds.litM (w : World) (xs : List Int) (fr : Nat × Nat) (T : TypeId) (n : Nat) (hl : xs.length = n) (hx : Bytes xs) (hn : n ≤ 281474976710656) :
    Holds (w.alloc (.cells (xs.map (Value.int .u8)).toArray T fr)) (w.heap.size + 1) (some ⟨w.heap.size, 0, none⟩) n n xs := by
  subst hl
  exact ⟨rfl, Nat.le_refl _, hn, hx, fun hA => (by cases hA), fun _ => ⟨w.heap.size, 0, rfl, by omega, fun i hi => by
    have hr : (w.alloc (.cells (xs.map (Value.int .u8)).toArray T fr)).heap[w.heap.size]? = some (.cells (xs.map (Value.int .u8)).toArray T fr) := heap_alloc_new w _
    rw [Nat.zero_add, cell_of_row _ w.heap.size i _ T fr hr]
    simp [hi]⟩⟩
/-- []byte("..") of a constant: a literal and its conversion -/
theorem wpList_constRow {o2 : Oper} (hg : o.guard = none) (hg2 : o2.guard = none) (n : Nat) (parts : Array (Nat × Operand)) (ho : o.op = .buildSlice 51 n parts) (x2 : Operand) (ho2 : o2.op = .convert 51 51 x2) (hx2 : ∀ v, (a.put o.dst v).eval x2 = v)
    (zs : List Int) (hl : zs.length = n) (hz : Bytes zs) (hn : n ≤ 281474976710656)
    (hf : Tryz.prog.builtSlice 5 n (parts.map fun (i, x) => (i, a.eval x)).toList = some (zs.map (Value.int .u8)).toArray)
    (h : ∀ g w', w.heap.size = g → Hid (Holds w' w'.heap.size (some ⟨g, 0, none⟩) n n zs) → Hid (Below w.heap.size w w') → wpList Tryz.prog ops Q rest ((a.put o.dst (.slice (some ⟨g, 0, none⟩) n n)).put o2.dst (.slice (some ⟨g, 0, none⟩) n n)) w') :
    wpList Tryz.prog ops Q (o :: o2 :: rest) a w := by
  refine Great.wpList_buildSliceTo hg _ _ _ parts ho w.heap.size rfl _ rfl Tryz.underlying51 _ hf ?_
  refine wpList_plain hg2 fun K hK => ?_
  unfold Oper.wp execOp
  simp only [ho2, hx2, Sem.run_bind, Lib.run_convert_bytes_const w 51 5 _ n n Tryz.underlying51 Tryz.underlying5, Sem.run_pure, Result.andThen_ok]
  refine hK _ _ (h _ _ rfl ?_ ((Below.refl _ _).alloc (Nat.le_refl _) _))
  exact (Holds.litM w zs _ _ n hl hz hn).mono (by simp)
end
end Go.Proofs.YtdgpbhdihhchgaaGreatDoor

namespace Go.Proofs.YtdgpbhdihhchgaaGreatDoor
set_option linter.all false
set_option maxRecDepth 100000
open Go.RowKit
set_option linter.unusedVariables false
def wvV1 : VolM := vMake (vNew 5) [102] 2
def wvV2 : VolM := vWr wvV1 2 0 [97, 98, 99]
def wvV3 : VolM := vWr wvV2 2 3 [100, 101, 102]
def wvV4 : VolM := vCut wvV3 2 5
theorem wv_0 : vNewE 5 = 0 := by decide +kernel
theorem wv_1 : vMakeE (vNew 5) [102] 2 = 0 ∧ vMakeN (vNew 5) [102] 2 = 2 := by decide +kernel
theorem wv_2 : vWrE wvV1 2 0 [97, 98, 99] = 0 := by decide +kernel
theorem wv_3 : vWrE wvV2 2 3 [100, 101, 102] = 13 := by decide +kernel
theorem wv_4 : vCutE wvV3 2 5 = 0 := by decide +kernel
theorem wv_5 : (vUsed wvV4.l : Int) = 5 := by decide +kernel
set_option maxHeartbeats 4000000 in
theorem works16_any (I : VolI) (w : World) (htb : I.tb w.heap.size w) : Calls Tryz.prog 12 #[] w fun e w' => e = .returned (.bool true) ∧ Below w.heap.size w w' := by
  have HTB := Lib.hid htb
  have CN := Lib.hid ((I.new htb (Nat.le_refl _) (k := 5) (by unfold I64V; omega)).mono fun e w' h => h.2 wv_0)
  clear htb
  go_enter Tryz.func12, Tryz.ntmps12
  go_wp2_with fail
  refine CN.out.mono ?_
  rintro e w1 ⟨q, S0, rfl, x0, l0⟩
  have L1 := Lib.hid l0
  have B1 := Lib.hid (I.tbNext HTB.out l0)
  have C1 := Lib.hid (I.make x0 B1.out l0.size (show (1 : Int) < 1048576 by decide) (s := [102]) (k := 2) (by decide))
  rw [wv_1.1, wv_1.2] at C1
  have X0 := Lib.hid x0
  clear l0 x0 CN
  go_wp2_with fail
  refine C1.out.mono ?_
  rintro e w2 ⟨rfl, S1, x1, a1, n1⟩
  have l2 := a1.below (fun j hj => (I.ge X0.out j hj).1) L1.out.size
  have L2 := Lib.hid (L1.out.trans l2)
  have B2 := Lib.hid (I.tbNext B1.out l2)
  have X1 : Hid (I.is w2 w.heap.size q wvV1 S1) := x1
  clear x1 a1 n1 l2 X0 C1 L1 B1
  go_wp2_with (first
    | ((with_reducible show wpList _ _ _ (⟨some 18, _, _, _, _, _⟩ :: _) _ _); refine wpList_constRow rfl rfl 3 _ rfl (.tmp 18) rfl (fun _ => rfl) [97, 98, 99] rfl (Bytes.of_all rfl) (by omega) (by kernel_rfl) ?_; intro g1 w3 hg1 H1 b1)
    | fail)
  have X2 := Lib.hid (I.below X1.out b1.out)
  have L3 := Lib.hid (L2.out.trans (b1.out.mono L2.out.size))
  have B3 := Lib.hid (I.tbNext B2.out (b1.out.mono L2.out.size))
  have C2 := Lib.hid (I.write X2.out B3.out L3.out.size (n := 2) (a := 0) (by unfold I64V; omega) (by unfold I64V; omega) H1.out (fun _ x hx hS => by cases hx; have := (I.ge X1.out _ hS).2; simp only at this; omega) (by decide))
  rw [wv_2] at C2
  clear X1 L2 B2 H1 b1 hg1
  go_wp2_with fail
  refine C2.out.mono ?_
  rintro e w4 ⟨rfl, S2, x2, a2, n2⟩
  have l4 := a2.below (fun j hj => (I.ge X2.out j hj).1) L3.out.size
  have L4 := Lib.hid (L3.out.trans l4)
  have B4 := Lib.hid (I.tbNext B3.out l4)
  have X3 : Hid (I.is w4 w.heap.size q wvV2 S2) := x2
  clear x2 a2 n2 l4 X2 C2 L3 B3
  go_wp2_with (first
    | ((with_reducible show wpList _ _ _ (⟨some 22, _, _, _, _, _⟩ :: _) _ _); refine wpList_constRow rfl rfl 3 _ rfl (.tmp 22) rfl (fun _ => rfl) [100, 101, 102] rfl (Bytes.of_all rfl) (by omega) (by kernel_rfl) ?_; intro g1 w5 hg1 H1 b1)
    | fail)
  have X4 := Lib.hid (I.below X3.out b1.out)
  have L5 := Lib.hid (L4.out.trans (b1.out.mono L4.out.size))
  have B5 := Lib.hid (I.tbNext B4.out (b1.out.mono L4.out.size))
  have C3 := Lib.hid (I.write X4.out B5.out L5.out.size (n := 2) (a := 3) (by unfold I64V; omega) (by unfold I64V; omega) H1.out (fun _ x hx hS => by cases hx; have := (I.ge X3.out _ hS).2; simp only at this; omega) (by decide))
  rw [wv_3] at C3
  clear X3 L4 B4 H1 b1 hg1
  go_wp2_with fail
  refine C3.out.mono ?_
  rintro e w6 ⟨rfl, S3, x3, a3, n3⟩
  have l6 := a3.below (fun j hj => (I.ge X4.out j hj).1) L5.out.size
  have L6 := Lib.hid (L5.out.trans l6)
  have B6 := Lib.hid (I.tbNext B5.out l6)
  have X5 : Hid (I.is w6 w.heap.size q wvV3 S3) := x3
  have C4 := Lib.hid (I.cut X5.out B6.out L6.out.size (n := 2) (s := 5) (by unfold I64V; omega) (by unfold I64V; omega))
  rw [wv_4] at C4
  clear x3 a3 n3 l6 X4 C3 L5 B5
  go_wp2_with fail
  refine C4.out.mono ?_
  rintro e w7 ⟨rfl, S4, x4, a4, n4⟩
  have l7 := a4.below (fun j hj => (I.ge X5.out j hj).1) L6.out.size
  have L7 := Lib.hid (L6.out.trans l7)
  have B7 := Lib.hid (I.tbNext B6.out l7)
  have X6 : Hid (I.is w7 w.heap.size q wvV4 S4) := x4
  have C5 := Lib.hid (I.used X6.out B7.out)
  rw [wv_5] at C5
  clear x4 a4 n4 l7 X5 C4 L6 B6
  go_wp2_with fail
  refine C5.out.mono ?_
  rintro e w8 ⟨rfl, l8⟩
  have L8 := Lib.hid (L7.out.trans (l8.mono L7.out.size))
  clear l8 C5 X6 L7 B7
  go_wp2_with fail
  go_ret
  exact ⟨rfl, L8.out⟩
end Go.Proofs.YtdgpbhdihhchgaaGreatDoor

namespace Go.Proofs.YtdgpbhdihhchgaaGreatDoor
set_option linter.all false
set_option maxRecDepth 100000
open Go.RowKit
set_option linter.unusedVariables false
theorem zero_vol : Tryz.prog.built 71 [] = some (#[.int .i64 0, .map none, .int .i64 0] : Array Value) := by kernel_rfl
set_option hygiene false in
local macro "nil_tail" : tactic => `(tactic| (
  go_wp2_with fail
  refine (Find_noV _ _ h1 s).mono ?_
  rintro e w2 ⟨rfl, l2⟩
  have h2 := h1.below l2
  have L2 := L1.trans (l2.mono L1.size)
  go_wp2_with fail
  refine (Make_noV _ _ h2 s 2).mono ?_
  rintro e w3 ⟨rfl, l3⟩
  have h3 := h2.below l3
  have L3 := L2.trans (l3.mono L2.size)
  go_wp2_with fail
  refine (Stat_noV _ _ h3 n).mono ?_
  rintro e w4 ⟨rfl, l4⟩
  have h4 := h3.below l4
  have L4 := L3.trans (l4.mono L3.size)
  go_wp2_with (first
    | ((with_reducible show wpList _ _ _ (⟨some 14, _, _, _, _, _⟩ :: _) _ _); refine wpList_alloc_blk rfl _ rfl [.int .u8 0, .int .i64 0] 2 zero_stat ?_; intro b v0 hb1 hb2 X0 L0)
    | ((with_reducible show wpList _ _ _ (⟨none, .store _ (.tmp 14) _, _, _, _, _⟩ :: _) _ _); go_loud (refine wpList_store_blk rfl _ (.tmp 14) (.tmp 42) rfl b rfl _ _ [.int .u8 0, .int .i64 0] rfl X0 2 size_stat rfl rfl (by intro u hu; simp only [List.mem_cons, List.not_mem_nil, or_false] at hu; rcases hu with rfl | rfl <;> rfl) ?_); intro v2 X2 O2 hg2)
    | fail)
  have l5 := below_only L0.out O2.out hb1
  have h5 := h4.below l5
  have L5 := L4.trans (l5.mono L4.size)
  clear X0 X2 O2 L0
  refine (Path_noV _ _ h5 n).mono ?_
  rintro e w6 ⟨rfl, l6⟩
  have h6 := h5.below l6
  have L6 := L5.trans (l6.mono L5.size)
  go_wp2_with fail
  refine (Read_noV _ _ h6 n a 1).mono ?_
  rintro e w7 ⟨rfl, l7⟩
  have h7 := h6.below l7
  have L7 := L6.trans (l7.mono L6.size)
  go_wp2_with fail
  refine (List_noV _ _ h7 n s s a).mono ?_
  rintro e w8 ⟨rfl, l8⟩
  have h8 := h7.below l8
  have L8 := L7.trans (l8.mono L7.size)
  go_wp2_with fail
  refine (Remove_noV _ _ h8 n).mono ?_
  rintro e w9 ⟨rfl, l9⟩
  have h9 := h8.below l9
  have L9 := L8.trans (l9.mono L8.size)
  go_wp2_with fail
  refine (Move_noV _ _ h9 n s true).mono ?_
  rintro e w10 ⟨rfl, l10⟩
  have h10 := h9.below l10
  have L10 := L9.trans (l10.mono L9.size)
  go_wp2_with fail
  refine (Write_noV _ _ h10 n a).mono ?_
  rintro e w11 ⟨rfl, l11⟩
  have h11 := h10.below l11
  have L11 := L10.trans (l11.mono L10.size)
  go_wp2_with fail
  refine (Cut_noV _ _ h11 n a).mono ?_
  rintro e w12 ⟨rfl, l12⟩
  have h12 := h11.below l12
  have L12 := L11.trans (l12.mono L11.size)
  go_wp2_with fail
  refine (Used_noV _ _ h12).mono ?_
  rintro e w13 ⟨rfl, l13⟩
  have h13 := h12.below l13
  have L13 := L12.trans (l13.mono L12.size)
  go_wp2_with fail
  refine (Nodes_noV _ _ h13).mono ?_
  rintro e w14 ⟨rfl, l14⟩
  have L14 := L13.trans (l14.mono L13.size)
  go_wp2_with fail
  refine (works16_any I w14 (I.tbUp (I.tbNext htb L14) L14.size)).mono ?_
  rintro e w15 ⟨rfl, l15⟩
  have L15 := L14.trans (l15.mono L14.size)
  go_wp2_with fail
  go_ret
  exact ⟨rfl, L15⟩))
set_option maxHeartbeats 8000000 in
theorem law_VolNil (I : VolI) (W : World) (htb : I.tb W.heap.size W) (s : ByteArray) (n a : Int) (b : Bool) :
    Calls Tryz.prog 10 #[.string s, .int .i64 n, .int .i64 a, .bool b] W fun e w' => e = .returned (.bool true) ∧ Below W.heap.size W w' := by
  have hem : ((⟨#[]⟩ : ByteArray).toList == []) = true := by rw [empty_beq]; rfl
  cases b
  · have h1 : NoV W (.pointer none) := .inl rfl
    have L1 : Below W.heap.size W W := Below.refl _ _
    go_enter Tryz.func10, Tryz.ntmps10
    nil_tail
  · go_enter Tryz.func10, Tryz.ntmps10
    go_wp2_with (first
      | ((with_reducible show wpList _ _ _ (⟨some 24, _, _, _, _, _⟩ :: _) _ _); refine wpList_build_none rfl _ rfl [.int .i64 0, .map none, .int .i64 0] zero_vol ?_)
      | ((with_reducible show wpList _ _ _ (⟨some 25, _, _, _, _, _⟩ :: _) _ _); refine wpList_box_blk rfl _ (.tmp 24) rfl [.int .i64 0, .map none, .int .i64 0] rfl ?_; intro g v1 hg1 hg2 B1 L1'; have h1 : NoV _ (.pointer (some ⟨g, 0, none⟩)) := .inr ⟨_, rfl, B1.out⟩; have L1 := L1'.out)
      | fail)
    nil_tail
end Go.Proofs.YtdgpbhdihhchgaaGreatDoor

namespace Go.Proofs.YtdgpbhdihhchgaaGreatDoor
set_option linter.all false
open Go.RowKit
set_option linter.unusedVariables false
theorem walk_VolNil (W : World) (hT : Tabs W) (a0 : ByteArray) (w0 : a0.size ≤ 140737488351232) (a1 : Int) (w1 : -9223372036854775808 ≤ a1 ∧ a1 ≤ 9223372036854775807) (a2 : Int) (w2 : -9223372036854775808 ≤ a2 ∧ a2 ≤ 9223372036854775807) (a3 : Bool) :
    Calls Tryz.prog 10 #[.string a0, .int .i64 a1, .int .i64 a2, .bool a3] W fun e w' => e = .returned (.bool true) ∧ Below W.heap.size W w' := law_VolNil theVol W (TabsD.of hT) a0 a1 a2 a3
end Go.Proofs.YtdgpbhdihhchgaaGreatDoor

namespace Go.Proofs.YtdgpbhdihhchgaaGreatDoor
set_option linter.all false
open Go.RowKit Go.Shelf
theorem first_data : (Rows.laid_unicode_utf8_first : DataW Unit) = Lib.firstData := by kernel_rfl
theorem accept_data : (Rows.laid_unicode_utf8_acceptRanges : DataW Unit) = Lib.acceptData := by kernel_rfl
theorem tabs_of_laid {W : World} (hL : laidMetH Tryz.prog [("unicode/utf8.acceptRanges", Rows.laid_unicode_utf8_acceptRanges), ("unicode/utf8.first", Rows.laid_unicode_utf8_first)] W) : Tabs W := by
  rw [first_data, accept_data] at hL
  exact utf8Tabs_of_readsT (U8Types.of196 Tryz.lays196) ⟨by kernel_rfl, by kernel_rfl, by kernel_rfl, by kernel_rfl, by kernel_rfl, by kernel_rfl, by kernel_rfl⟩ (Lib.laidMet.reads hL (.tail _ (.head _))) (Lib.laidMet.reads hL (.head _))
/-- A WORLD FOR THE WITNESS: the settled one, the two variables holding what their initialisers lay. -/
noncomputable def laidWorld (os : Os) : World :=
  let w0 := World.holding Tryz.prog os ⟨#[], #[], []⟩
  let put (h : Array Obj) (g : Nat) (cs : Array Value) : Array Obj := h.modify g fun
    | .cells _ t frozen => .cells cs t frozen
    | o => o
  let h1 := put w0.heap 1 (Lib.firstTab.map fun z => Value.int .u8 z).toArray
  let h2 := put h1 2 ((List.range 16).flatMap fun i => [Value.int .u8 (Lib.accLo i), Value.int .u8 (Lib.accHi i)]).toArray
  { w0 with heap := h2 }
theorem laid_met (os : Os) (args : Array Value) : laidMet Tryz.prog [("unicode/utf8.acceptRanges", Rows.laid_unicode_utf8_acceptRanges), ("unicode/utf8.first", Rows.laid_unicode_utf8_first)] ((laidWorld os).forCall (fun _ _ => 0) ⟨#[], args, []⟩).memory :=
  laidMet_of_run' 8 (by kernel_rfl) (by kernel_rfl)
end Go.Proofs.YtdgpbhdihhchgaaGreatDoor
