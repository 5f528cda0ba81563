/-
  Layer 14 (extent): the library's slices.Delete, Insert and Replace at extents, as the program calls them (all from a place on goes; one new one in the place of so many).
-/
import Derived.Test.YtgbhnnobbciemaaExT
import Derived.StillTailTactics
namespace Go.Proofs.Ytgbhnnobbciemaa
set_option maxRecDepth 100000
open Go.RowKit
set_option linter.unusedVariables false

theorem only_two {w w1 w2 : World} {g : Nat} (a : Only g w w1) (b : Only g w1 w2) : Only g w w2 := ⟨b.os.trans a.os, b.tape.trans a.tape, b.output.trans a.output, b.size.trans a.size, fun j hj => (b.rest j hj).trans (a.rest j hj)⟩
theorem splice_take {α : Type} {L X : List α} {a : Nat} (ha : a ≤ L.length) : (splice L a X).take a = L.take a := by
  unfold splice
  rw [List.take_append_of_le_length (by rw [List.length_take]; omega), List.take_take, Nat.min_self]
theorem splice_nil {α : Type} (L : List α) (o : Nat) : splice L o [] = L := by simp [splice]
theorem zero_ext : (Try.prog.info? 41).map (fun i => (i.zero, i.size)) = some (some (.agg #[.int .i64 0, .slice none 0 0]), 2) := by kernel_rfl

set_option maxHeartbeats 4000000 in
theorem Delete_any (w : World) (base : Nat) (A : Option Addr) (n c i : Nat) (l : List ExtV) (ho : OwnS extCells 2 41 w base (.slice A n c) l) (hi : i ≤ n) (hn : l.length = n) (hn2 : n ≤ 65536) :
    Calls Try.prog 36 #[.slice A n c, .int .i64 (i : Nat), .int .i64 (n : Nat)] w fun e w' =>
      e = .returned (.slice A i c) ∧ OwnS extCells 2 41 w' base (.slice A i c) (l.take i) ∧ Spare (fun j => (Value.slice A n c).ownBlock = some j) w w' := by
  by_cases hin : i = n
  · subst hin
    have hl : l.take i = l := List.take_of_length_le (by omega)
    rw [hl]
    have HO := Lib.hid ho
    rcases A with _ | ad
    · have hc : i = 0 ∧ c = 0 := by
        rcases ho.2 with ⟨h1, _⟩ | ⟨g, cap, cur, h1, _⟩
        · injection h1 with _ h2 h3
          exact ⟨h2, h3⟩
        · injection h1 with h2
          cases h2
      obtain ⟨rfl, rfl⟩ := hc
      clear ho hl
      go_enter Try.func36, Try.ntmps36
      go_wp2_with fail
      go_ret
      exact ⟨rfl, HO.out, Spare.refl _ _⟩
    · have hic : i ≤ c := by
        rcases ho.2 with ⟨h1, _⟩ | ⟨g, cap, cur, h1, _, _, h2, _⟩
        · cases h1
        · injection h1 with _ h3 h4
          omega
      have hcm : c ≤ 9223372036854775807 := by
        rcases ho.2 with ⟨h1, _⟩ | ⟨g, cap, cur, h1, _, _, _, h2, _⟩
        · cases h1
        · injection h1 with _ h3 h4
          unfold maxLen at h2
          omega
      clear ho hl
      go_enter Try.func36, Try.ntmps36
      go_wp2_with fail
      all_goals go_ret
      all_goals exact ⟨rfl, HO.out, Spare.refl _ _⟩
  · obtain ⟨g, c', hg⟩ := ho.form (show 0 < l.length by omega)
    obtain rfl : A = some ⟨g, 0, none⟩ := by injection hg
    clear hg
    obtain ⟨hb, hln, hnc, hcm, cs, hB, hcl, htk⟩ := ho.blk
    have hcm' : c ≤ 9223372036854775807 := by unfold maxLen at hcm; omega
    have HB0 := Lib.hid hB
    have HL := Lib.hid hcl
    have HT := Lib.hid htk
    have HLN := Lib.hid hln
    have hic : ¬ c = i := by omega
    have hic2 : i ≤ c := by omega
    have hc0 : ¬ c = 0 := by omega
    have hne : ¬ (i : Int) = (n : Int) := by omega
    have hsplit : Hid (n * 2 ≤ c * 2) := by show _ ≤ _; omega
    clear hB hcl htk ho hln hn
    have fin : Hid (∀ w2 zs, zs.length = (n - i) * 2 → Blk w2 g 41 (splice (splice cs (i * 2) []) (i * 2) zs) → Only g w w2 → OwnS extCells 2 41 w2 base (.slice (some ⟨g, 0, none⟩) i c) (l.take i) ∧ Spare (fun j => (Value.slice (some ⟨g, 0, none⟩) n c).ownBlock = some j) w w2) := fun w2 zs hz h1 h2 => by
      rw [splice_nil] at h1
      refine ⟨OwnS.of_blk extCells_len hb h1 ?_ hcm ?_ (by omega) ?_, (Spare.of_only h2).mono fun j _ hj => by rw [hj]; rfl⟩
      · rw [length_splice _ _ _ (by rw [hz, HL.out]; omega), HL.out]
      · rw [List.length_take, HLN.out]; omega
      · have h3 : (splice cs (i * 2) zs).take (i * 2) = cs.take (i * 2) := by
          unfold splice
          rw [List.take_append_of_le_length (by rw [List.length_take, HL.out]; omega), List.take_take, Nat.min_self]
        have h4 := congrArg (List.take (i * 2)) HT.out
        rw [List.take_take, Nat.min_eq_left (by omega)] at h4
        rw [h3, h4]
        conv => lhs; rw [← List.take_append_drop i l]
        rw [List.flatMap_append, List.take_left' (by rw [flatMap_len extCells_len, List.length_take, HLN.out]; omega)]
    have one : ∀ v ∈ (Value.agg #[.int .i64 0, .slice none 0 0]).cells, v.oneCell' = true := by decide
    have ha1 : Hid (i * 2 + 0 * 2 ≤ cs.length) := by show _ ≤ _; rw [HL.out]; omega
    have ha2 : Hid (i * 2 + (n - i) * 2 ≤ (splice cs (i * 2) []).length) := by show _ ≤ _; rw [splice_nil, HL.out]; omega
    by_cases hcn : c = n
    · obtain rfl : c = n := hcn
      go_enter Try.func36, Try.ntmps36
      go_upto_region 5 with fail
      go_still_tail 6, (by kernel_rfl)
      change wpList _ _ _ _ _ w.drew
      go_wp2_with (first
        | (at_builtin; refine wpList_append_room rfl (.tmp 22) (.tmp 25) 38 41 2 rfl Try.underlying38 size_ext _ _ _ _ _ _ _ rfl rfl cs [] HB0.out.drew rfl (fun j v h => by cases h) (by omega) ha1.out (fun v h => by cases h) ?_; intro w1 B1 O1)
        | ((with_reducible show wpList _ _ _ (⟨none, .call _, _, _, _, _⟩ :: _) _ _); refine wpList_clear_blk rfl (.tmp 31) 38 41 41 2 _ [] rfl Try.underlying38 zero_ext rfl one (by decide) g (i * 2) (c - i) _ _ rfl (fun _ => rfl) (splice cs (i * 2) []) B1.out ha2.out ?_; intro w2 zs Z2 B2 O2)
        | fail)
      go_ret
      obtain ⟨r1, r2⟩ := fin.out w2 zs Z2.out B2.out ⟨O2.out.os.trans O1.out.os, O2.out.tape.trans O1.out.tape, O2.out.output.trans O1.out.output, O2.out.size.trans O1.out.size, fun j hj => (O2.out.rest j hj).trans (O1.out.rest j hj)⟩
      exact ⟨rfl, r1, r2⟩
    · have hcn' : ¬ c = n := hcn
      go_enter Try.func36, Try.ntmps36
      go_upto_region 5 with fail
      go_still_tail 6, (by kernel_rfl)
      change wpList _ _ _ _ _ w.drew
      go_wp2_with (first
        | (at_builtin; refine wpList_append_room rfl (.tmp 22) (.tmp 25) 38 41 2 rfl Try.underlying38 size_ext _ _ _ _ _ _ _ rfl rfl cs [] HB0.out.drew rfl (fun j v h => by cases h) (by omega) ha1.out (fun v h => by cases h) ?_; intro w1 B1 O1)
        | ((with_reducible show wpList _ _ _ (⟨none, .call _, _, _, _, _⟩ :: _) _ _); refine wpList_clear_blk rfl (.tmp 31) 38 41 41 2 _ [] rfl Try.underlying38 zero_ext rfl one (by decide) g (i * 2) (n - i) _ _ rfl (fun _ => rfl) (splice cs (i * 2) []) B1.out ha2.out ?_; intro w2 zs Z2 B2 O2)
        | fail)
      go_ret
      obtain ⟨r1, r2⟩ := fin.out w2 zs Z2.out B2.out ⟨O2.out.os.trans O1.out.os, O2.out.tape.trans O1.out.tape, O2.out.output.trans O1.out.output, O2.out.size.trans O1.out.size, fun j hj => (O2.out.rest j hj).trans (O1.out.rest j hj)⟩
      exact ⟨rfl, r1, r2⟩

/-- what is answered where one new extent stands in the place of so many -/
def PutPostX (w : World) (base : Nat) (v : Value) (l : List ExtV) (i j : Nat) (J : ExtV) (e : Ending) (w' : World) : Prop :=
  ∃ v', e = .returned v' ∧ OwnS extCells 2 41 w' base v' (l.take i ++ [J] ++ l.drop j) ∧ Spare (fun k => v.ownBlock = some k) w w' ∧ Wander w v v'
/-- the cells behind what has been laid -/
theorem splice2_take {L X Y : List Value} {a : Nat} (ha : a ≤ L.length) (hX : X.length = 2) (hY : a + 2 + Y.length ≤ L.length) : (splice (splice L a X) (a + 2) Y).take (a + 2 + Y.length) = L.take a ++ X ++ Y := by
  have h1 : (splice L a X).take (a + 2) = L.take a ++ X := by
    unfold splice
    rw [← List.append_assoc, List.take_left' (by rw [List.length_append, List.length_take, hX, Nat.min_eq_left ha])]
  unfold splice at h1 ⊢
  rw [h1, ← List.append_assoc, List.take_left' (by rw [List.length_append, List.length_append, List.length_take, hX, Nat.min_eq_left ha])]
theorem splice2_take' {L X Y : List Value} {a : Nat} (ha : a ≤ L.length) (hX : X.length = 2) (hY : a + 2 + Y.length ≤ L.length) : (splice (splice L (a + 2) Y) a X).take (a + 2 + Y.length) = L.take a ++ X ++ Y := by
  have h2 : (L.take (a + 2)).length = a + 2 := by rw [List.length_take]; omega
  have h1 : (splice L (a + 2) Y).take a = L.take a := by
    unfold splice
    rw [List.take_append_of_le_length (by rw [h2]; omega), List.take_take, Nat.min_eq_left (by omega)]
  have h3 : (splice L (a + 2) Y).drop (a + X.length) = Y ++ L.drop (a + 2 + Y.length) := by
    unfold splice
    rw [hX, List.drop_left' h2]
  show (List.take a (splice L (a + 2) Y) ++ (X ++ (splice L (a + 2) Y).drop (a + X.length))).take _ = _
  rw [h1, h3, ← List.append_assoc, ← List.append_assoc, List.take_left' (by rw [List.length_append, List.length_append, List.length_take, hX, Nat.min_eq_left ha])]
theorem flat_parts (l : List ExtV) (i j n : Nat) (J : ExtV) (hn : l.length = n) (hij : i ≤ j) (hj : j ≤ n) (cs : List Value) (ht : cs.take (n * 2) = l.flatMap extCells) :
    (l.take i ++ [J] ++ l.drop j).flatMap extCells = cs.take (i * 2) ++ extCells J ++ (cs.take (n * 2)).drop (j * 2) := by
  have h1 : (l.take i).flatMap extCells = cs.take (i * 2) := by
    have h4 := congrArg (List.take (i * 2)) ht
    rw [List.take_take, Nat.min_eq_left (by omega)] at h4
    rw [h4]
    conv => rhs; rw [← List.take_append_drop i l]
    rw [List.flatMap_append, List.take_left' (by rw [flatMap_len extCells_len, List.length_take, hn]; omega)]
  have h2 : (l.drop j).flatMap extCells = (cs.take (n * 2)).drop (j * 2) := by
    rw [ht]
    conv => rhs; rw [← List.take_append_drop j l]
    rw [List.flatMap_append, List.drop_left' (by rw [flatMap_len extCells_len, List.length_take, hn]; omega)]
  rw [List.flatMap_append, List.flatMap_append, h1, h2]
  simp

set_option maxHeartbeats 4000000 in
theorem Insert_any (w : World) (base : Nat) (A : Option Addr) (n c i vb : Nat) (l : List ExtV) (J : ExtV) (ho : OwnS extCells 2 41 w base (.slice A n c) l) (hi : i ≤ n) (hn : l.length = n) (hn2 : n ≤ 65536) (hb : base ≤ w.heap.size)
    (hv : Blk w vb 41 (extCells J)) (hvn : (Value.slice A n c).ownBlock ≠ some vb) :
    Calls Try.prog 43 #[.slice A n c, .int .i64 (i : Nat), .slice (some ⟨vb, 0, none⟩) 1 1] w (PutPostX w base (.slice A n c) l i i J) := by
  have hJ : Hid (∀ w2, Blk w2 vb 41 (extCells J) → ∀ j u, (extCells J)[j]? = some u → w2.cell? ⟨vb, 0 + j, none⟩ = some u) := fun w2 h j u hj => by rw [Nat.zero_add, h.cell, hj]
  have HV := Lib.hid hv
  have HO := Lib.hid ho
  by_cases hin : i = n
  · subst hin
    have hl : l.take i ++ [J] ++ l.drop i = l ++ [J] := by rw [List.take_of_length_le (by omega), List.drop_of_length_le (by omega), List.append_nil]
    unfold PutPostX
    rw [hl]
    have hlen : Hid ((l.length + [J].length) * 32 ≤ 140737488355328 ∧ l.length + [J].length ≤ 9223372036854775807) := by show _ ∧ _; simp; omega
    have hJ2 : Hid (∀ w2, Blk w2 vb 41 (extCells J) → ∀ j u, ([J].flatMap extCells)[j]? = some u → w2.cell? ⟨vb, 0 + j, none⟩ = some u) := fun w2 h j u hj => hJ.out w2 h j u (by simpa using hj)
    have hcm : c ≤ 9223372036854775807 ∧ i ≤ c := by
      rcases ho.2 with ⟨h1, _⟩ | ⟨g, cap, cur, h1, _, _, h2, h3, _⟩
      · injection h1 with _ h3 h4
        omega
      · injection h1 with _ h4 h5
        unfold maxLen at h3
        omega
    obtain ⟨hcm, hic⟩ := hcm
    clear ho hv hl hJ hvn hn
    rcases A with _ | ad
    · have hc : i = 0 ∧ c = 0 := by
        rcases HO.out.2 with ⟨h1, _⟩ | ⟨g, cap, cur, h1, _⟩
        · injection h1 with _ h2 h3
          exact ⟨h2, h3⟩
        · injection h1 with h2
          cases h2
      obtain ⟨rfl, rfl⟩ := hc
      go_enter Try.func43, Try.ntmps43
      go_wp2_with (first
        | (at_builtin; refine wpList_append_holdSW rfl (.tmp 23) (.tmp 24) extCells 2 (by decide) extCells_len extCells_one (.agg #[.int .i64 0, .slice none 0 0]) rfl 38 41 32 Try.underlying38 info_ext rfl base _ l rfl HO.out vb 0 1 1 [J] rfl rfl (hJ2.out _ HV.out) hlen.out.1 hlen.out.2 hb ?_; intro v1 w1 O1 S1 W1)
        | fail)
      go_ret
      exact ⟨_, rfl, O1.out, S1.out, W1.out⟩
    · go_enter Try.func43, Try.ntmps43
      go_wp2_with (first
        | (at_builtin; refine wpList_append_holdSW rfl (.tmp 23) (.tmp 24) extCells 2 (by decide) extCells_len extCells_one (.agg #[.int .i64 0, .slice none 0 0]) rfl 38 41 32 Try.underlying38 info_ext rfl base _ l rfl HO.out vb 0 1 1 [J] rfl rfl (hJ2.out _ HV.out) hlen.out.1 hlen.out.2 hb ?_; intro v1 w1 O1 S1 W1)
        | fail)
      all_goals go_ret
      all_goals exact ⟨_, rfl, O1.out, S1.out, W1.out⟩
  · obtain ⟨g, c', hg⟩ := ho.form (show 0 < l.length by omega)
    obtain rfl : A = some ⟨g, 0, none⟩ := by injection hg
    clear hg
    obtain ⟨hbg, hln, hnc, hcm, cs, hB, hcl, htk⟩ := ho.blk
    have hcm' : c ≤ 9223372036854775807 := by unfold maxLen at hcm; omega
    have hgv : g ≠ vb := fun h => hvn (by rw [h]; rfl)
    have hparts := flat_parts l i i n J hn (Nat.le_refl _) hi cs htk
    have hlen3 : (l.take i ++ [J] ++ l.drop i).length = n + 1 := by simp; omega
    obtain ⟨L3, hL3⟩ : ∃ L3, L3 = l.take i ++ [J] ++ l.drop i := ⟨_, rfl⟩
    unfold PutPostX
    rw [← hL3] at hparts hlen3 ⊢
    obtain ⟨Y, hY⟩ : ∃ Y, Y = (cs.take (n * 2)).drop (i * 2) := ⟨_, rfl⟩
    rw [← hY] at hparts
    have hYl : Y.length = (n - i) * 2 := by rw [hY, List.length_drop, List.length_take, hcl]; omega
    have hYc : Hid (∀ w2, Blk w2 g 41 cs → ∀ j v, Y[j]? = some v → w2.cell? ⟨g, i * 2 + j, none⟩ = some v) := fun w2 h j v hj => by
      rw [h.cell, ← hj, hY, List.getElem?_drop, List.getElem?_take, if_pos]
      have := (List.getElem?_eq_some_iff.1 hj).1
      omega
    have hY1 : Hid (∀ v ∈ Y, v.oneCell' = true) := fun v hv => by
      rw [hY, htk] at hv
      obtain ⟨y, _, hy⟩ := List.mem_flatMap.1 (List.mem_of_mem_drop hv)
      exact extCells_one y v hy
    have HB0 := Lib.hid hB
    have HL := Lib.hid hcl
    have HP := Lib.hid hparts
    have H3 := Lib.hid hlen3
    have HYL := Lib.hid hYl
    have hic : ¬ c = i := by omega
    have hic2 : i ≤ c := by omega
    have hc0 : ¬ c = 0 := by omega
    have hne : ¬ (i : Int) = (n : Int) := by omega
    clear hB hcl htk ho hln hn hL3 hY hYl hparts hlen3 hvn hv
    have h01 : (0 : Int) ≤ (i : Int) + 1 := by omega
    have hui : IntKind.i64.wrap ((i : Int) + 1) = (i : Int) + 1 := by rw [IntKind.wrap_i64]; omega
    have htn : ((i : Int) + 1).toNat = i + 1 := by omega
    have fin : Hid (∀ w2 q cap cur, base ≤ q → Blk w2 q 41 cur → cur.length = cap * 2 → cap ≤ maxLen → n + 1 ≤ cap → cur.take (i * 2 + 2 + Y.length) = cs.take (i * 2) ++ extCells J ++ Y → OwnS extCells 2 41 w2 base (.slice (some ⟨q, 0, none⟩) (n + 1) cap) L3) := fun w2 q cap cur h1 h2 h3 h4 h5 h6 => by
      refine OwnS.of_blk extCells_len h1 h2 h3 h4 H3.out h5 ?_
      rw [HP.out, ← h6, HYL.out]
      congr 1
      omega
    have one : Hid (∀ v ∈ extCells J, v.oneCell' = true) := extCells_one J
    by_cases hgrow : n + 1 ≤ c
    · have hgt : decide ((c : Int) < (n : Int) + 1) = false := decide_eq_false (by omega)
      have hin1 : ¬ c = i + 1 := by omega
      have hgt2 : (n : Int) + 1 ≤ (c : Int) := by omega
      have htn2 : ((n : Int) + 1).toNat = n + 1 := by omega
      have h02 : (0 : Int) ≤ (n : Int) + 1 := by omega
      have hnil : n + 1 - (i + 1) = n - i := by omega
      have hil : (i : Int) ≤ (n : Int) := by omega
      have hil1 : (i : Int) ≤ (n : Int) + 1 := by omega
      have hov : ∀ lb cb, (callFunc 44 #[.slice (some ⟨vb, 0, none⟩) 1 1, .slice (some ⟨g, (i + 1) * 2, none⟩) lb cb]).run Try.prog w = .ok (.value (.bool false)) w := fun lb cb => by
        rw [run_callFunc_extern Try.func44 (by kernel_rfl) (by kernel_rfl) (by kernel_rfl) (e := Extern.SlicesOverlaps.overlaps #[38, 38] #[4]) (by kernel_rfl),
          Lib.run_overlaps_apart w 38 4 41 Try.underlying38 2 (fun w => by simp [sizeOf, typeInfo]; rfl) ⟨vb, 0, none⟩ ⟨g, (i + 1) * 2, none⟩ 1 1 lb cb (fun h => hgv h.symm) 41 41 2 cs.length (by unfold World.shape?; rw [HV.out]; rfl) (by unfold World.shape?; rw [HB0.out]; rfl) (by rw [HL.out]; omega) (HV.out.frozen 0) (HV.out.frozen 2)]
        rfl
      go_enter Try.func43, Try.ntmps43
      go_upto_region 15 with (simp only [hov])
      have F1 : Hid ((i + 1) * 2 + (n - i) * 2 ≤ cs.length) := by show _ ≤ _; rw [HL.out]; omega
      have F2 : Hid (i * 2 + 1 * 2 ≤ (splice cs ((i + 1) * 2) Y).length) := by show _ ≤ _; rw [length_splice _ _ _ (by rw [HYL.out, HL.out]; omega), HL.out]; omega
      go_still_tail 8, (by kernel_rfl)
      change wpList _ _ _ _ _ w.drew
      go_wp2_with (first
        | ((with_reducible show wpList _ _ _ (⟨some 77, _, _, _, _, _⟩ :: _) _ _); go_loud (refine wpList_copy_blk rfl (.tmp 73) (.tmp 76) 38 41 41 2 (n - i) rfl Try.underlying38 size_ext _ _ _ _ _ _ _ _ rfl rfl _ Y HB0.out.drew (Nat.min_eq_right (by omega)) HYL.out (hYc.out _ HB0.out.drew) F1.out hY1.out ?_); intro w1 B1 O1; go_loud (have HV1 := Lib.hid ((HV.out.drew).only O1.out (fun h => hgv h.symm))))
        | ((with_reducible show wpList _ _ _ (⟨some 82, _, _, _, _, _⟩ :: _) _ _); go_loud (refine wpList_copy_blk rfl (.tmp 80) (.tmp 81) 38 41 41 2 1 rfl Try.underlying38 size_ext _ _ _ _ _ _ _ _ rfl rfl _ (extCells J) B1.out (Nat.min_eq_left (by omega)) rfl (hJ.out _ HV1.out) F2.out one.out ?_); intro w2 B2 O2)
        | fail)
      go_ret
      have q2 : Only g w w2 := ⟨O2.out.os.trans O1.out.os, O2.out.tape.trans O1.out.tape, O2.out.output.trans O1.out.output, O2.out.size.trans O1.out.size, fun j hj => (O2.out.rest j hj).trans (O1.out.rest j hj)⟩
      have ea : i * 2 + 2 = (i + 1) * 2 := by omega
      have hl1 : i * 2 ≤ cs.length := by rw [HL.out]; omega
      have hl2 : i * 2 + 2 + Y.length ≤ cs.length := by rw [HL.out, HYL.out]; omega
      refine ⟨_, rfl, ?_, (Spare.of_only q2).mono fun j _ hj => by rw [hj]; rfl, fun j hj => .inl hj⟩
      refine fin.out w2 g c _ hbg B2.out ?_ hcm (by omega) ?_
      · rw [length_splice _ _ _ (by rw [length_splice _ _ _ (by rw [HYL.out, HL.out]; omega), extCells_len, HL.out]; omega), length_splice _ _ _ (by rw [HYL.out, HL.out]; omega), HL.out]
      · rw [← ea, splice2_take' hl1 (extCells_len J) hl2]
    · obtain ⟨k, hk⟩ : ∃ k, n + 1 = i + k := ⟨n + 1 - i, by omega⟩
      have hk' : (n : Int) + 1 - (i : Int) = (k : Int) := by omega
      have hgt : decide ((c : Int) < (n : Int) + 1) = true := decide_eq_true (by omega)
      have hlen : Hid ((i + k) * 32 ≤ 140737488355328) := by show _ ≤ _; omega
      have hfit : Hid (i * 2 ≤ cs.length) := by show _ ≤ _; rw [HL.out]; omega
      go_enter Try.func43, Try.ntmps43
      go_upto_region 11 with (first
        | (at_builtin; go_loud (refine wpList_append_more rfl (.tmp 34) (.tmp 39) 38 3 41 41 2 32 (.agg #[.int .i64 0, .slice none 0 0]) .i64 rfl Try.underlying38 Try.underlying3 info_ext rfl (by decide) g i c k rfl .i64 _ rfl rfl cs HB0.out hfit.out (by omega) (by omega) hlen.out (by omega) ?_); intro w1 h1 cap zs R1 B1 E1 hge hcap L1; go_loud (have hcapi : ¬ cap = i := by omega); go_loud (have HV1 := Lib.hid (HV.out.over L1.out)); go_loud (have HG1 := Lib.hid (HB0.out.over L1.out)); go_loud (have F1 : Hid (i * 2 + 1 * 2 ≤ (cs.take (i * 2) ++ zs).length) := (by show _ ≤ _; rw [E1.out]; omega)))
        | ((with_reducible show wpList _ _ _ (⟨some 45, _, _, _, _, _⟩ :: _) _ _); go_loud (refine wpList_copy_blk rfl (.tmp 43) (.tmp 44) 38 41 41 2 1 rfl Try.underlying38 size_ext _ _ _ _ _ _ _ _ rfl rfl _ (extCells J) B1.out (Nat.min_eq_left (show 1 ≤ k by omega)) rfl (hJ.out _ HV1.out) F1.out one.out ?_); intro w2 B2 O2)
        | fail)
      have HG2 := Lib.hid ((HG1.out.only O2.out (by have := HB0.out.lt; have := R1.out.1; omega)).drew)
      have F2 : Hid ((i + 1) * 2 + (n - i) * 2 ≤ (splice (cs.take (i * 2) ++ zs) (i * 2) (extCells J)).length) := by
        show _ ≤ _
        rw [length_splice _ _ _ (by rw [E1.out, extCells_len]; omega), E1.out]
        omega
      have hcapu : ¬ cap = i + 1 := by omega
      have hku : i + k - (i + 1) = n - i := by omega
      have h1k : (1 : Int) ≤ (k : Int) := by omega
      have hcap0 : ¬ cap = 0 := by omega
      go_still_tail 8, (by kernel_rfl)
      change wpList _ _ _ _ _ w2.drew
      go_wp2_with (first
        | ((with_reducible show wpList _ _ _ (⟨some 54, _, _, _, _, _⟩ :: _) _ _); go_loud (refine wpList_copy_blk rfl (.tmp 50) (.tmp 53) 38 41 41 2 (n - i) rfl Try.underlying38 size_ext _ _ _ _ _ _ _ _ rfl rfl _ Y B2.out.drew (Nat.min_self _) HYL.out (hYc.out _ HG2.out) F2.out hY1.out ?_); intro w3 B3 O3)
        | fail)
      go_ret
      have q3 : Below w.heap.size w w3 := below_only ((below_only L1.out O2.out R1.out.1).trans ((drewed w2 1).mono (Nat.le_trans L1.out.size (Nat.le_of_eq O2.out.size.symm)))) O3.out R1.out.1
      have ea : i * 2 + 2 = (i + 1) * 2 := by omega
      have hl1 : i * 2 ≤ (cs.take (i * 2) ++ zs).length := by rw [E1.out]; omega
      have hl2 : i * 2 + 2 + Y.length ≤ (cs.take (i * 2) ++ zs).length := by rw [E1.out, HYL.out]; omega
      refine ⟨_, rfl, ?_, Spare.of_over _ q3, fun j hj => .inr ?_⟩
      · rw [← hk]
        refine fin.out w3 h1 cap _ (Nat.le_trans hb R1.out.1) B3.out ?_ hcap (by omega) ?_
        · rw [length_splice _ _ _ (by rw [length_splice _ _ _ (by rw [extCells_len]; omega), HYL.out, E1.out]; omega), length_splice _ _ _ (by rw [extCells_len]; omega), E1.out]
        · rw [← ea, splice2_take hl1 (extCells_len J) hl2, List.take_append_of_le_length (by rw [List.length_take, HL.out]; omega), List.take_take, Nat.min_self]
      · injection hj with hj
        rw [← hj]
        exact R1.out.1

set_option maxHeartbeats 4000000 in
theorem Replace_any (w : World) (base : Nat) (A : Option Addr) (n c i k vb : Nat) (l : List ExtV) (J : ExtV) (ho : OwnS extCells 2 41 w base (.slice A n c) l) (hik : i ≤ k) (hk : k ≤ n) (hn : l.length = n) (hn2 : n ≤ 65536) (hb : base ≤ w.heap.size)
    (hv : Blk w vb 41 (extCells J)) (hvn : (Value.slice A n c).ownBlock ≠ some vb) :
    Calls Try.prog 33 #[.slice A n c, .int .i64 (i : Nat), .int .i64 (k : Nat), .slice (some ⟨vb, 0, none⟩) 1 1] w (PutPostX w base (.slice A n c) l i k J) := by
  have hcm : c ≤ 9223372036854775807 ∧ n ≤ c := by
    rcases ho.2 with ⟨h1, _⟩ | ⟨g, cap, cur, h1, _, _, h2, h3, _⟩
    · injection h1 with _ h3 h4
      omega
    · injection h1 with _ h4 h5
      unfold maxLen at h3
      omega
  obtain ⟨hcm', hnc'⟩ := hcm
  by_cases hin : i = k
  · subst hin
    have CI := Lib.hid (Insert_any w base A n c i vb l J ho hk hn hn2 hb hv hvn)
    unfold PutPostX at CI ⊢
    clear ho hv hn
    rcases A with _ | ad
    · by_cases hci : c = i
      · obtain rfl : c = i := hci
        go_enter Try.func33, Try.ntmps33
        go_wp2_with fail
        refine CI.out.mono ?_
        rintro e w1 ⟨v1, rfl, h1, h2, h3⟩
        go_wp2_with fail
        go_ret
        exact ⟨_, rfl, h1, h2, h3⟩
      · go_enter Try.func33, Try.ntmps33
        go_wp2_with fail
        refine CI.out.mono ?_
        rintro e w1 ⟨v1, rfl, h1, h2, h3⟩
        go_wp2_with fail
        go_ret
        exact ⟨_, rfl, h1, h2, h3⟩
    · by_cases hci : c = i
      · obtain rfl : c = i := hci
        go_enter Try.func33, Try.ntmps33
        go_wp2_with fail
        refine CI.out.mono ?_
        rintro e w1 ⟨v1, rfl, h1, h2, h3⟩
        go_wp2_with fail
        go_ret
        exact ⟨_, rfl, h1, h2, h3⟩
      · go_enter Try.func33, Try.ntmps33
        go_wp2_with fail
        refine CI.out.mono ?_
        rintro e w1 ⟨v1, rfl, h1, h2, h3⟩
        go_wp2_with fail
        go_ret
        exact ⟨_, rfl, h1, h2, h3⟩
  · obtain ⟨g, c', hg⟩ := ho.form (show 0 < l.length by omega)
    obtain rfl : A = some ⟨g, 0, none⟩ := by injection hg
    clear hg
    obtain ⟨hbg, hln, hnc, hcm, cs, hB, hcl, htk⟩ := ho.blk
    have hgv : g ≠ vb := fun h => hvn (by rw [h]; rfl)
    have hparts := flat_parts l i k n J hn hik hk cs htk
    obtain ⟨m, hm⟩ : ∃ m, m = n - k := ⟨_, rfl⟩
    obtain ⟨t, ht⟩ : ∃ t, t = i + 1 + m := ⟨_, rfl⟩
    have hlen3 : (l.take i ++ [J] ++ l.drop k).length = t := by simp; omega
    obtain ⟨L3, hL3⟩ : ∃ L3, L3 = l.take i ++ [J] ++ l.drop k := ⟨_, rfl⟩
    unfold PutPostX
    rw [← hL3] at hparts hlen3 ⊢
    obtain ⟨Y, hY⟩ : ∃ Y, Y = (cs.take (n * 2)).drop (k * 2) := ⟨_, rfl⟩
    rw [← hY] at hparts
    have hYl : Y.length = m * 2 := by rw [hY, List.length_drop, List.length_take, hcl]; omega
    have hYc : Hid (∀ w2, Blk w2 g 41 (splice cs (i * 2) (extCells J)) → ∀ j v, Y[j]? = some v → w2.cell? ⟨g, k * 2 + j, none⟩ = some v) := fun w2 h j v hj => by
      have hjl := (List.getElem?_eq_some_iff.1 hj).1
      rw [h.cell, ← hj, hY, List.getElem?_drop, List.getElem?_take, if_pos (by omega)]
      unfold splice
      have e1 : (cs.take (i * 2)).length = i * 2 := by rw [List.length_take]; omega
      rw [List.getElem?_append_right (by omega), e1, List.getElem?_append_right (by rw [extCells_len]; omega), extCells_len, List.getElem?_drop]
      congr 1
      omega
    have hY1 : Hid (∀ v ∈ Y, v.oneCell' = true) := fun v hv => by
      rw [hY, htk] at hv
      obtain ⟨y, _, hy⟩ := List.mem_flatMap.1 (List.mem_of_mem_drop hv)
      exact extCells_one y v hy
    have hJ : Hid (∀ w2, Blk w2 vb 41 (extCells J) → ∀ j u, (extCells J)[j]? = some u → w2.cell? ⟨vb, 0 + j, none⟩ = some u) := fun w2 h j u hj => by rw [Nat.zero_add, h.cell, hj]
    have HV := Lib.hid hv
    have HB0 := Lib.hid hB
    have HL := Lib.hid hcl
    have HP := Lib.hid hparts
    have H3 := Lib.hid hlen3
    have HYL := Lib.hid hYl
    have one : Hid (∀ v ∈ extCells J, v.oneCell' = true) := extCells_one J
    have zone : Hid (∀ v ∈ (Value.agg #[.int .i64 0, .slice none 0 0]).cells, v.oneCell' = true) := by show ∀ v ∈ _, _; decide
    have hic : ¬ c = i := by omega
    have hic2 : i ≤ c := by omega
    have hkc : k ≤ c := by omega
    have hc0 : ¬ c = 0 := by omega
    have hne : ¬ (i : Int) = (k : Int) := by omega
    have hik' : (i : Int) ≤ (k : Int) := by omega
    have hin' : (i : Int) ≤ (n : Int) := by omega
    have fin : Hid (∀ w2 cur, Blk w2 g 41 cur → cur.length = c * 2 → cur.take (i * 2 + 2 + Y.length) = cs.take (i * 2) ++ extCells J ++ Y → OwnS extCells 2 41 w2 base (.slice (some ⟨g, 0, none⟩) t c) L3) := fun w2 cur h2 h3 h6 => by
      refine OwnS.of_blk extCells_len hbg h2 h3 hcm H3.out (by omega) ?_
      rw [HP.out, ← h6, HYL.out]
      congr 1
      omega
    have h01 : (0 : Int) ≤ (i : Int) + 1 := by omega
    have hui : IntKind.i64.wrap ((i : Int) + 1) = (i : Int) + 1 := by rw [IntKind.wrap_i64]; omega
    have htn : ((i : Int) + 1).toNat = i + 1 := by omega
    have HT := Lib.hid ht
    have HM := Lib.hid hm
    by_cases hkn : k = n
    · subst hkn
      obtain rfl : m = 0 := by omega
      obtain rfl : t = i + 1 := by omega
      have F1 : Hid (i * 2 + 1 * 2 ≤ cs.length) := by show _ ≤ _; rw [HL.out]; omega
      have e1 : (splice cs (i * 2) (extCells J)).length = c * 2 := by rw [length_splice _ _ _ (by rw [extCells_len, HL.out]; omega), HL.out]
      have e2 : (splice cs (i * 2) (extCells J)).take (i * 2 + 2) = cs.take (i * 2) ++ extCells J := by
        unfold splice
        rw [← List.append_assoc, List.take_left' (by rw [List.length_append, List.length_take, extCells_len, HL.out]; omega)]
      have E1 := Lib.hid e1
      have E2 := Lib.hid e2
      have hY0 : Hid (Y = []) := List.eq_nil_of_length_eq_zero (by rw [HYL.out])
      clear hB hcl htk ho hln hn hL3 hY hYl hparts hlen3 hvn hv ht hm e1 e2 hik' hin'
      by_cases hlt : i + 1 < k
      · have hd : decide ((i : Int) + 1 < (k : Int)) = true := decide_eq_true (by omega)
        have F2 : Hid ((i + 1) * 2 + (k - (i + 1)) * 2 ≤ (splice cs (i * 2) (extCells J)).length) := by show _ ≤ _; rw [E1.out]; omega
        have hci1 : ¬ c = i + 1 := by omega
        go_enter Try.func33, Try.ntmps33
        go_wp2_with (first
          | (at_builtin; go_loud (refine wpList_append_room rfl (.tmp 32) (.tmp 33) 38 41 2 rfl Try.underlying38 size_ext _ _ _ _ _ _ _ rfl rfl cs (extCells J) HB0.out rfl (hJ.out _ HV.out) (by omega) F1.out one.out ?_); intro w1 B1 O1)
          | ((with_reducible show wpList _ _ _ (⟨none, .call _, _, _, _, _⟩ :: _) _ _); go_loud (refine wpList_clear_blk rfl (.tmp 43) 38 41 41 2 _ [] rfl Try.underlying38 zero_ext rfl zone.out (by decide) g ((i + 1) * 2) (k - (i + 1)) _ _ rfl (fun _ => rfl) _ B1.out F2.out ?_); intro w2 zs Z2 B2 O2)
          | fail)
        go_ret
        have q2 : Only g w w2 := only_two O1.out O2.out
        refine ⟨_, rfl, ?_, (Spare.of_only q2).mono fun j _ hj => by rw [hj]; rfl, fun j hj => .inl hj⟩
        refine fin.out w2 _ B2.out ?_ ?_
        · rw [length_splice _ _ _ (by rw [E1.out, Z2.out]; omega), E1.out]
        · rw [hY0.out, List.length_nil, Nat.add_zero, List.append_nil, ← E2.out]
          unfold splice
          rw [List.take_append_of_le_length (by rw [List.length_take]; have := E1.out; unfold splice at this; omega), List.take_take, Nat.min_eq_left (by omega)]
      · obtain rfl : k = i + 1 := by omega
        have hd : decide ((i : Int) + 1 < (i : Int) + 1) = false := decide_eq_false (by omega)
        go_enter Try.func33, Try.ntmps33
        go_wp2_with (first
          | (at_builtin; go_loud (refine wpList_append_room rfl (.tmp 32) (.tmp 33) 38 41 2 rfl Try.underlying38 size_ext _ _ _ _ _ _ _ rfl rfl cs (extCells J) HB0.out rfl (hJ.out _ HV.out) (by omega) F1.out one.out ?_); intro w1 B1 O1)
          | fail)
        go_ret
        refine ⟨_, rfl, ?_, (Spare.of_only O1.out).mono fun j _ hj => by rw [hj]; rfl, fun j hj => .inl hj⟩
        refine fin.out w1 _ B1.out E1.out ?_
        rw [hY0.out, List.length_nil, Nat.add_zero, List.append_nil, E2.out]
    · have hkn' : ¬ (k : Int) = (n : Int) := by omega
      have hkl : (k : Int) ≤ (n : Int) := by omega
      have hck : ¬ c = k := by omega
      have hw1 : IntKind.i64.wrap ((i : Int) + 1 + (m : Int)) = (t : Int) := by rw [IntKind.wrap_i64]; omega
      have hnk : n - k = m := hm.symm
      have htc : t ≤ c := by omega
      have htk2 : decide ((c : Int) < (t : Int)) = false := decide_eq_false (by omega)
      have hle : decide ((i : Int) + 1 ≤ (k : Int)) = true := decide_eq_true (by omega)
      have hci1 : ¬ c = i + 1 := by omega
      have hit : (i : Int) ≤ (t : Int) := by omega
      have hti : 1 ≤ t - i := by omega
      have htn1 : t - (i + 1) = m := by omega
      have hit1 : (i : Int) + 1 ≤ (t : Int) := by omega
      have htle : (t : Int) ≤ (n : Int) := by omega
      have htnn : t ≤ n := by omega
      have F1 : Hid (i * 2 + 1 * 2 ≤ cs.length) := by show _ ≤ _; rw [HL.out]; omega
      have e1 : (splice cs (i * 2) (extCells J)).length = c * 2 := by rw [length_splice _ _ _ (by rw [extCells_len, HL.out]; omega), HL.out]
      have F2 : Hid ((i + 1) * 2 + m * 2 ≤ (splice cs (i * 2) (extCells J)).length) := by show _ ≤ _; rw [e1]; omega
      have e2 : (splice (splice cs (i * 2) (extCells J)) ((i + 1) * 2) Y).length = c * 2 := by rw [length_splice _ _ _ (by rw [e1, HYL.out]; omega), e1]
      have F3 : Hid (t * 2 + (n - t) * 2 ≤ (splice (splice cs (i * 2) (extCells J)) ((i + 1) * 2) Y).length) := by show _ ≤ _; rw [e2]; omega
      have E2 := Lib.hid e2
      have ea : i * 2 + 2 = (i + 1) * 2 := by omega
      have hl1 : i * 2 ≤ cs.length := by rw [HL.out]; omega
      have hl2 : i * 2 + 2 + Y.length ≤ cs.length := by rw [HL.out, HYL.out]; omega
      have e3 := splice2_take hl1 (extCells_len J) hl2
      rw [ea] at e3
      have hyt : (i + 1) * 2 + Y.length = t * 2 := by rw [HYL.out]; omega
      rw [hyt] at e3
      have E3 := Lib.hid e3
      have hmm : Nat.min m m = m := Nat.min_self m
      have fin2 : Hid (∀ w2 zs, zs.length = (n - t) * 2 → Blk w2 g 41 (splice (splice (splice cs (i * 2) (extCells J)) ((i + 1) * 2) Y) (t * 2) zs) → OwnS extCells 2 41 w2 base (.slice (some ⟨g, 0, none⟩) t c) L3) := fun w2 zs hz h2 => by
        refine fin.out w2 _ h2 ?_ ?_
        · rw [length_splice _ _ _ (by rw [E2.out, hz]; omega), E2.out]
        · rw [ea, hyt, ← E3.out, splice_take (by rw [E2.out]; omega)]
      clear hB hcl htk ho hln hn hL3 hY hYl hparts hlen3 hvn hv ht hm e1 e2 e3 hyt hl1 hl2 ea hik' hin'
      by_cases hct : c = t
      · obtain rfl : n = t := by omega
        obtain rfl : c = n := hct
        have F3 : Hid (c * 2 + 0 * 2 ≤ (splice (splice cs (i * 2) (extCells J)) ((i + 1) * 2) Y).length) := by show _ ≤ _; rw [E2.out]; omega
        go_enter Try.func33, Try.ntmps33
        go_upto_region 9 with fail
        go_quiet (fail)
        go_upto_region 18 with (first
          | ((with_reducible show wpList _ _ _ (⟨some 97, _, _, _, _, _⟩ :: _) _ _); go_loud (refine wpList_copy_blk rfl (.tmp 95) (.tmp 96) 38 41 41 2 1 rfl Try.underlying38 size_ext _ _ _ _ _ _ _ _ rfl rfl _ (extCells J) HB0.out.drew (Nat.min_eq_left hti) rfl (hJ.out _ HV.out.drew) F1.out one.out ?_); intro w1 B1 O1)
          | fail)
        go_still_tail 9, (by kernel_rfl)
        change wpList _ _ _ _ _ w1.drew
        go_wp2_with (first
          | ((with_reducible show wpList _ _ _ (⟨some 107, _, _, _, _, _⟩ :: _) _ _); go_loud (refine wpList_copy_blk rfl (.tmp 103) (.tmp 106) 38 41 41 2 m rfl Try.underlying38 size_ext _ _ _ _ _ _ _ _ rfl rfl _ Y B1.out.drew hmm HYL.out (hYc.out _ B1.out.drew) F2.out hY1.out ?_); intro w2 B2 O2)
          | ((with_reducible show wpList _ _ _ (⟨none, .call _, _, _, _, _⟩ :: _) _ _); go_loud (refine wpList_clear_blk rfl (.tmp 110) 38 41 41 2 _ [] rfl Try.underlying38 zero_ext rfl zone.out (by decide) g (c * 2) 0 _ _ rfl (fun h => absurd h (Nat.lt_irrefl _)) _ B2.out F3.out ?_); intro w3 zs Z3 B3 O3)
          | fail)
        go_ret
        have q3 : Only g w w3 := (only_two (only_two ⟨O1.out.os, O1.out.tape, O1.out.output, O1.out.size, O1.out.rest⟩ ⟨O2.out.os, O2.out.tape, O2.out.output, O2.out.size, O2.out.rest⟩) O3.out)
        exact ⟨_, rfl, fin2.out w3 zs (by rw [Z3.out]; omega) B3.out, (Spare.of_only q3).mono fun j _ hj => by rw [hj]; rfl, fun j hj => .inl hj⟩
      · go_enter Try.func33, Try.ntmps33
        go_upto_region 9 with fail
        go_quiet (fail)
        go_upto_region 18 with (first
          | ((with_reducible show wpList _ _ _ (⟨some 97, _, _, _, _, _⟩ :: _) _ _); go_loud (refine wpList_copy_blk rfl (.tmp 95) (.tmp 96) 38 41 41 2 1 rfl Try.underlying38 size_ext _ _ _ _ _ _ _ _ rfl rfl _ (extCells J) HB0.out.drew (Nat.min_eq_left hti) rfl (hJ.out _ HV.out.drew) F1.out one.out ?_); intro w1 B1 O1)
          | fail)
        go_still_tail 9, (by kernel_rfl)
        change wpList _ _ _ _ _ w1.drew
        go_wp2_with (first
          | ((with_reducible show wpList _ _ _ (⟨some 107, _, _, _, _, _⟩ :: _) _ _); go_loud (refine wpList_copy_blk rfl (.tmp 103) (.tmp 106) 38 41 41 2 m rfl Try.underlying38 size_ext _ _ _ _ _ _ _ _ rfl rfl _ Y B1.out.drew hmm HYL.out (hYc.out _ B1.out.drew) F2.out hY1.out ?_); intro w2 B2 O2)
          | ((with_reducible show wpList _ _ _ (⟨none, .call _, _, _, _, _⟩ :: _) _ _); go_loud (refine wpList_clear_blk rfl (.tmp 110) 38 41 41 2 _ [] rfl Try.underlying38 zero_ext rfl zone.out (by decide) g (t * 2) (n - t) _ _ rfl (fun _ => rfl) _ B2.out F3.out ?_); intro w3 zs Z3 B3 O3)
          | fail)
        go_ret
        have q3 : Only g w w3 := (only_two (only_two ⟨O1.out.os, O1.out.tape, O1.out.output, O1.out.size, O1.out.rest⟩ ⟨O2.out.os, O2.out.tape, O2.out.output, O2.out.size, O2.out.rest⟩) O3.out)
        exact ⟨_, rfl, fin2.out w3 zs Z3.out B3.out, (Spare.of_only q3).mono fun j _ hj => by rw [hj]; rfl, fun j hj => .inl hj⟩
end Go.Proofs.Ytgbhnnobbciemaa
