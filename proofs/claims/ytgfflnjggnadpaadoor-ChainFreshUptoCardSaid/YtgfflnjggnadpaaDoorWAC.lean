import Derived.WalkKit
import Derived.Deep.Draws
import Derived.Laws.Rows
import Derived.Laws.OwnMore
import Derived.Laws.Bits64
import Derived.Laws.BitsAllLaws
import Derived.OpenShut
import Derived.Test.YtgfflnjggnadpaaDoorRows
import Derived.Lib.Hide
import Derived.BigQuiet
import Derived.Deep.QuietTactic
import Derived.Laws.CopyOwn
import Derived.Laws.AppendOwnNone
import Derived.Laws.Tables
import Derived.Laws.NewFold
import Derived.Deep.WholeRow
import Derived.StillTailTactics
import Derived.Deep.RegionLaw
import Derived.WalkSpells
import Derived.WalkLawsBesides
import Derived.Lib.AppendZeros
import Derived.Deep.RegionWith
import Derived.Deep.DeepCutAuto
import Derived.OrdersHeld
import Derived.Laws.StructEq
import Derived.ChangeKeysEq
import Derived.Laws.AppendOwn
import Derived.OwnWalk
import Derived.Lib.OthersKept
import Derived.Laws.BytesArg
import Derived.Laws.IdiomStrings
import Derived.ProofKit
import Derived.ShutString
import Derived.SizedLaws
import Derived.ChangeOld
import Derived.Great.Walk
import Derived.Deep.MidRow
import Derived.Lib.SliceRun
import Derived.OneCell
import Derived.Deep.Strs
import Derived.Deep.Slices
import Derived.Laws.MakeOwn
import Derived.Lib.LaidTab
import Derived.Deep.DeepHandedRow
import Derived.Test.YtgfflnjggnadpaaDoorWAB
namespace Go.Proofs.YtgfflnjggnadpaaDoor
set_option linter.all false
set_option maxRecDepth 100000
open Go.RowKit
set_option linter.unusedVariables false
/-- cells of n heads, the first k of which are written -/
def HdRow (cs : List Value) (n k : Nat) (H : Nat → Hd) : Prop := cs.length = n * 26 ∧ ∀ i, i < k → (hcells (H i)).length = 26 ∧ ∀ j u, (hcells (H i))[j]? = some u → cs[i * 26 + j]? = some u
theorem HdRow.store {cs : List Value} {n k : Nat} {H : Nat → Hd} (h : HdRow cs n k H) (hk : k < n) (hl : (hcells (H k)).length = 26) : HdRow (cs.take (k * 26) ++ (hcells (H k) ++ cs.drop (k * 26 + 26))) n (k + 1) H := by
  obtain ⟨h1, h2⟩ := h
  have hkn : k * 26 + 26 ≤ n * 26 := by omega
  refine ⟨by simp only [List.length_append, List.length_take, List.length_drop, hl]; omega, fun i hi => ?_⟩
  by_cases hik : i = k
  · subst hik
    refine ⟨hl, fun j u hj => ?_⟩
    have hj26 : j < (hcells (H i)).length := (List.getElem?_eq_some_iff.1 hj).1
    have ht : (cs.take (i * 26)).length = i * 26 := by rw [List.length_take]; omega
    rw [List.getElem?_append_right (by rw [ht]; omega), ht, Nat.add_sub_cancel_left, List.getElem?_append_left hj26]
    exact hj
  · obtain ⟨h3, h4⟩ := h2 i (by omega)
    refine ⟨h3, fun j u hj => ?_⟩
    have hj26 : j < (hcells (H i)).length := (List.getElem?_eq_some_iff.1 hj).1
    have ht : (cs.take (k * 26)).length = k * 26 := by rw [List.length_take]; omega
    rw [List.getElem?_append_left (by rw [ht]; omega), List.getElem?_take, if_pos (by omega)]
    exact h4 j u hj
theorem HdRow.range {cs : List Value} {n k i : Nat} {H : Nat → Hd} {w : World} {g : Nat} {T : TypeId} (h : HdRow cs n k H) (hi : i < k) (B : Blk w g T cs) : w.rangeAt g (i * 26) (hcells (H i)) := fun j u hj => by
  rw [B.cell]
  exact (h.2 i hi).2 j u hj
theorem info_hd : (Tryd.prog.info? 49).map (fun i => (i.zero, i.size)) = some (some (.agg (hcells zeroHd).toArray), 26) := zero_hd
theorem bytes_hd : (Tryd.prog.info? 49).map (·.bytes) = some 72 := by kernel_rfl
/-- make([]api.Head, n) -/
theorem wpList_make_heads (w : World) {ops : Array Oper} {rest : List Oper} {o : Oper} {a : Act} {Q : Exit → Act → World → Prop}
    (hg : o.guard = none) (l c : Operand) (hop : o.op = Op.makeSlice 59 l c) (n : Nat) (hl : a.eval l = .int .i64 (n : Int)) (hc : a.eval c = .int .i64 (n : Int)) (hn : n ≤ 1000000000000)
    (hK : ∀ g w' cs, w.heap.size ≤ g → g < w'.heap.size → Hid (Blk w' g 49 cs) → Hid (cs.length = n * 26) → Hid (Below w.heap.size w w') → wpList Tryd.prog ops Q rest (a.put o.dst (.slice (some ⟨g, 0, none⟩) n n)) w') :
    wpList Tryd.prog ops Q (o :: rest) a w := by
  have hi := info_hd
  have hb := bytes_hd
  cases hq : Tryd.prog.info? 49 with
  | none => rw [hq] at hi; cases hi
  | some i0 =>
    rw [hq] at hi hb
    simp only [Option.map_some, Option.some.injEq, Prod.mk.injEq] at hi hb
    have hrun := run_make (P := Tryd.prog) w 59 49 i0 _ Tryd.underlying59 hq hi.1 .i64 .i64 n n (by omega) (Int.le_refl _) (by rw [hb]; omega) (by omega)
    simp only [Int.toNat_natCast, hi.2] at hrun
    refine wpList_plain hg fun K hK' => ?_
    unfold Oper.wp
    simp [execOp, hop, hl, hc, hrun, Result.andThen]
    refine hK' _ _ (hK w.heap.size _ (madeCells (Value.agg (hcells zeroHd).toArray).cells (n * 26)).toList (Nat.le_refl _) (by simp) ?_ ?_ ((Below.refl _ _).alloc (Nat.le_refl _) _))
    · show Blk _ _ _ _
      have := Blk.new w 49 (madeCells (Value.agg (hcells zeroHd).toArray).cells (n * 26)).toList
      simpa using this
    · show _ = _
      rw [Array.length_toList, size_madeCells]
/-- what headsOf answers -/
def HeadsPost (w : World) (L : List (List Int)) (e : Ending) (w' : World) : Prop :=
  ((chainErr L ≠ 0 ∧ e = .returned (.tuple #[.slice none 0 0, .int .i64 (chainErr L)])) ∨
    (chainErr L = 0 ∧ ∃ g cs, e = .returned (.tuple #[.slice (some ⟨g, 0, none⟩) L.length L.length, .int .i64 0]) ∧ w.heap.size ≤ g ∧ Blk w' g 49 cs ∧ HdRow cs L.length L.length (fun i => getOfH (L.getD i []) 0))) ∧ Below w.heap.size w w'
theorem all_take_succ {L : List (List Int)} {k : Nat} {x : List Int} (hx : L[k]? = some x) (h : (L.take k).all msgOk = true) (hm : msgOk x = true) : (L.take (k + 1)).all msgOk = true := by
  obtain ⟨h1, h2⟩ := List.getElem?_eq_some_iff.1 hx
  rw [List.take_succ_eq_append_getElem h1, List.all_append, h, h2]
  simp [hm]
theorem all_not {L : List (List Int)} {k : Nat} {x : List Int} (hx : L[k]? = some x) (hm : msgOk x = false) : L.all msgOk = false := by
  obtain ⟨h1, h2⟩ := List.getElem?_eq_some_iff.1 hx
  rw [List.all_eq_false]
  exact ⟨x, by rw [← h2]; exact List.getElem_mem h1, by rw [hm]; decide⟩
theorem msgOk_err {m : List Int} (h : getErrH m 0 ≠ 0) : msgOk m = false := by unfold msgOk; rw [decide_eq_false h]; rfl
theorem msgOk_nx {m : List Int} (h : (getOfH m 0).nx ≠ 0) : msgOk m = false := by unfold msgOk; rw [decide_eq_false h, Bool.and_false]
theorem msgOk_ok {m : List Int} (h : getErrH m 0 = 0) (h2 : (getOfH m 0).nx = 0) : msgOk m = true := by unfold msgOk; rw [decide_eq_true h, decide_eq_true h2]; rfl
set_option maxHeartbeats 4000000 in
theorem headsOf_any (w : World) (A : Option Addr) (n c : Nat) (ps : List PartT) (h : Lst w w.heap.size A n c ps) (hn : n ≤ 1048576) :
    Calls Tryd.prog 36 #[.slice A n c] w (HeadsPost w (rowsL ps)) := by
  have hl : (rowsL ps).length = n := by rw [rowsL, List.length_map]; exact h.row.len
  have HLn := Lib.hid hl
  have HQ2 : Hid (((rowsL ps).length = 0 ∨ (rowsL ps).all msgOk = false) → ∀ e w', (e = .returned (.tuple #[.slice none 0 0, .int .i64 2]) ∧ Below w.heap.size w w') → HeadsPost w (rowsL ps) e w') := by
    rintro hh e w' ⟨rfl, hb⟩
    have h2 : chainErr (rowsL ps) = 2 := by unfold chainErr; rw [if_pos hh]
    exact ⟨.inl ⟨by rw [h2]; decide, by rw [h2]⟩, hb⟩
  by_cases h0 : n = 0
  · subst h0
    have HQ := Lib.hid (HQ2.out (.inl hl))
    clear h hl HQ2 HLn
    go_enter Tryd.func36, Tryd.ntmps36
    go_wp2_with fail
    go_ret2
    exact HQ.out _ _ ⟨rfl, Below.refl _ _⟩
  · have hz : ((n : Int) == 0) = false := by simp; omega
    have HH := Lib.hid h
    have HZ := Lib.hid (hcells_len zeroHd_ok)
    have ZH := Lib.hid zero_hd
    obtain ⟨zs, hzs⟩ : ∃ zs, zs = hcells zeroHd := ⟨_, rfl⟩
    rw [← hzs] at HZ ZH
    have hn0 : 0 < n := by omega
    clear h hl h0 hzs
    go_enter Tryd.func36, Tryd.ntmps36
    go_wp2_with (first
      | (at_make; refine wpList_make_heads _ rfl (.tmp 13) (.tmp 13) rfl n rfl rfl (by omega) ?_; intro g w1 cs0 hg1 hg2 B1 HC1 L1)
      | fail)
    go_loopw [17] (fun i wr => ∃ k : Nat, k ≤ n ∧ i = .int .i64 k ∧ Hid (((rowsL ps).take k).all msgOk = true) ∧ (∃ cs, Hid (Blk wr g 49 cs) ∧ Hid (HdRow cs n k (fun i => getOfH ((rowsL ps).getD i []) 0))) ∧ Hid (Below w.heap.size w wr)) (fun i _ => n - (intOf i).toNat)
    case atStart => exact ⟨0, by omega, rfl, rfl, ⟨cs0, B1, ⟨HC1.out, fun i hi => absurd hi (by omega)⟩⟩, L1⟩
    case round =>
      obtain ⟨k, hk, rfl, HA, ⟨ds, BD, HD⟩, LW⟩ := hrel
      by_cases hlt : k < n
      · obtain ⟨b, off, p, rfl, hbb, hp, hcell, hhp⟩ := (HH.out.below LW.out).at hlt
        have hxk : Hid ((rowsL ps)[k]? = some p.2.2.2) := by show _ = _; rw [rowsL, List.getElem?_map, hp]; rfl
        have hgk : (rowsL ps).getD k [] = p.2.2.2 := by rw [List.getD_eq_getElem?_getD, hxk.out]; rfl
        have cg := GetH_any wr p.1 p.2.1 p.2.2.1 p.2.2.2 0 (hhp.mono LW.out.size) (by omega)
        unfold GetHPost at cg
        have hok := getOfH_ok p.2.2.2 0 hhp.byte
        have HS : Hid (HdRow (ds.take (k * 26) ++ (hcells (getOfH p.2.2.2 0) ++ ds.drop (k * 26 + 26))) n (k + 1) (fun i => getOfH ((rowsL ps).getD i []) 0)) := by
          have := HD.out.store hlt (by show (hcells (getOfH ((rowsL ps).getD k []) 0)).length = 26; rw [hgk]; exact hcells_len hok)
          simp only [hgk] at this
          exact this
        have HDL : Hid (k * 26 + 26 ≤ ds.length) := by show _ ≤ _; rw [HD.out.1]; omega
        have he1 := @msgOk_err p.2.2.2
        have he2 := @msgOk_nx p.2.2.2
        have he3 := @msgOk_ok p.2.2.2
        obtain ⟨⟨pA, pn, pc, px⟩, hpe⟩ : ∃ r, r = p := ⟨_, rfl⟩
        rw [← hpe] at hcell cg hok HS hxk he1 he2 he3
        dsimp only at hcell cg hok HS hxk he1 he2 he3
        obtain ⟨q, hq⟩ : ∃ q, q = getOfH px 0 := ⟨_, rfl⟩
        obtain ⟨er, her⟩ : ∃ er, er = getErrH px 0 := ⟨_, rfl⟩
        rw [← hq, ← her] at cg
        rw [← hq] at hok HS he2 he3
        rw [← her] at he1 he3
        have HL := Lib.hid (hcells_len hok)
        have HO := Lib.hid (hcells_one q)
        have F5 : Hid (∀ (w : World) (r : Nat), Blk w r 49 (hcells q) → w.cell? ⟨r, 5, none⟩ = some (.int .u32 q.nx)) := fun w r B => HB.c5 B
        obtain ⟨nx, hnx⟩ : ∃ nx, nx = q.nx := ⟨_, rfl⟩
        obtain ⟨cs, hcs⟩ : ∃ cs, cs = hcells q := ⟨_, rfl⟩
        unfold hv at cg
        rw [← hcs] at cg HL HO F5 HS
        rw [← hnx] at F5 he2 he3
        have CG := Lib.hid cg
        have HE1 := Lib.hid he1
        have HE2 := Lib.hid he2
        have HE3 := Lib.hid he3
        have hgw : Hid (g < wr.heap.size) := BD.out.lt
        clear hhp hp hpe cg hok hq her hcs hnx he1 he2 he3 hgk HD
        by_cases h1 : er = 0
        · subst h1
          by_cases h2 : nx = 0
          · subst h2
            have HM := Lib.hid (all_take_succ hxk.out HA.out (HE3.out rfl rfl))
            clear HE1 HE2 HE3 HQ2 HA hxk
            go_wp2_with fail
            refine CG.out.mono ?_
            rintro e w2 ⟨rfl, L2⟩
            have B2 := Lib.hid (BD.out.over L2)
            have LW2 := Lib.hid (LW.out.trans (L2.mono LW.out.size))
            have hs2 := Lib.hid L2.size
            clear BD LW L2
            go_wp2_with (first
              | ((with_reducible show wpList _ _ _ (⟨some 7, _, _, _, _, _⟩ :: _) _ _); refine wpList_alloc_blk rfl _ rfl zs _ ZH ?_; intro g4 w5 hg41 hg42 X4 L5)
              | ((with_reducible show wpList _ _ _ (⟨none, .store _ (.tmp 7) _, _, _, _, _⟩ :: _) _ _); refine wpList_store_blk rfl _ (.tmp 7) (.tmp 25) rfl g4 rfl _ zs cs rfl X4 26 size_hd HZ HL HO ?_; intro w6 X6 O6 hg6; have gc := F5.out _ _ X6.out; have B6 : Hid (Blk w6 g 49 ds) := (B2.out.over L5.out).only O6.out (by have := hgw.out; have := hs2.out; omega))
              | ((with_reducible show wpList _ _ _ (⟨some 36, _, _, _, _, _⟩ :: _) _ _); refine wpList_load_blk rfl _ (.tmp 7) rfl g4 rfl _ cs X6 26 _ Tryd.underlying49 rfl size_hd HL ?_)
              | ((with_reducible show wpList _ _ _ (⟨none, .store _ (.tmp 37) _, _, _, _, _⟩ :: _) _ _); refine wpList_store_midb rfl _ (.tmp 37) (.tmp 36) rfl g (k * 26) rfl _ ds cs rfl B6 26 size_hd HL HDL HO ?_; intro w7 B7 O7 hg7)
              | fail)
            go_roundw
            case rel => exact ⟨k + 1, by omega, by go_num, HM, ⟨_, B7, HS⟩, (LW2.out.trans ((below_only L5.out O6.out hg41).mono LW2.out.size)).trans (O7.out.below hg1)⟩
            case measure => simp [intOf]; omega
          · have hne : (nx != 0) = true := by simpa using h2
            have HQ := Lib.hid (HQ2.out (.inr (all_not hxk.out (HE2.out h2))))
            clear HE1 HE2 HE3 HQ2 HA hxk h2
            go_wp2_with fail
            refine CG.out.mono ?_
            rintro e w2 ⟨rfl, L2⟩
            have LW2 := Lib.hid (LW.out.trans (L2.mono LW.out.size))
            go_wp2_with (first
              | ((with_reducible show wpList _ _ _ (⟨some 7, _, _, _, _, _⟩ :: _) _ _); refine wpList_alloc_blk rfl _ rfl zs _ ZH ?_; intro g4 w5 hg41 hg42 X4 L5)
              | ((with_reducible show wpList _ _ _ (⟨none, .store _ (.tmp 7) _, _, _, _, _⟩ :: _) _ _); refine wpList_store_blk rfl _ (.tmp 7) (.tmp 25) rfl g4 rfl _ zs cs rfl X4 26 size_hd HZ HL HO ?_; intro w6 X6 O6 hg6; have gc := F5.out _ _ X6.out)
              | fail)
            go_ret2
            exact HQ.out _ _ ⟨rfl, LW2.out.trans ((below_only L5.out O6.out hg41).mono LW2.out.size)⟩
        · have hne : (er != 0) = true := by simpa using h1
          have HQ := Lib.hid (HQ2.out (.inr (all_not hxk.out (HE1.out h1))))
          clear HE1 HE2 HE3 HQ2 HA hxk h1
          go_wp2_with fail
          refine CG.out.mono ?_
          rintro e w2 ⟨rfl, L2⟩
          have LW2 := Lib.hid (LW.out.trans (L2.mono LW.out.size))
          go_wp2_with (first
            | ((with_reducible show wpList _ _ _ (⟨some 7, _, _, _, _, _⟩ :: _) _ _); refine wpList_alloc_blk rfl _ rfl zs _ ZH ?_; intro g4 w5 hg41 hg42 X4 L5)
            | ((with_reducible show wpList _ _ _ (⟨none, .store _ (.tmp 7) _, _, _, _, _⟩ :: _) _ _); refine wpList_store_blk rfl _ (.tmp 7) (.tmp 25) rfl g4 rfl _ zs cs rfl X4 26 size_hd HZ HL HO ?_; intro w6 X6 O6 hg6)
            | fail)
          go_ret2
          exact HQ.out _ _ ⟨rfl, LW2.out.trans ((below_only L5.out O6.out hg41).mono LW2.out.size)⟩
      · obtain rfl : k = n := by omega
        have hall : (rowsL ps).all msgOk = true := by have := HA.out; rwa [List.take_of_length_le (by rw [HLn.out]; omega)] at this
        by_cases h8 : 8 < k
        · have hQ : Hid (∀ e w', (e = .returned (.tuple #[.slice none 0 0, .int .i64 3]) ∧ Below w.heap.size w w') → HeadsPost w (rowsL ps) e w') := by
            rintro e w' ⟨rfl, hb⟩
            have h2 : chainErr (rowsL ps) = 3 := by unfold chainErr; rw [if_neg (by rw [HLn.out, hall]; simp; omega), if_pos (by rw [HLn.out]; exact h8)]
            exact ⟨.inl ⟨by rw [h2]; decide, by rw [h2]⟩, hb⟩
          clear HQ2 hall
          go_wp2_with fail
          go_ret2
          exact hQ.out _ _ ⟨rfl, LW.out⟩
        · have hQ : Hid (∀ w', Blk w' g 49 ds → Below w.heap.size w w' → HeadsPost w (rowsL ps) (.returned (.tuple #[.slice (some ⟨g, 0, none⟩) k k, .int .i64 0])) w') := by
            intro w' hB hb
            have h2 : chainErr (rowsL ps) = 0 := by unfold chainErr; rw [if_neg (by rw [HLn.out, hall]; simp; omega), if_neg (by rw [HLn.out]; exact h8)]
            have hd := HD.out
            unfold HeadsPost
            rw [HLn.out]
            exact ⟨.inr ⟨h2, g, ds, rfl, hg1, hB, hd⟩, hb⟩
          clear HQ2 hall
          go_wp2_with fail
          go_ret2
          exact hQ.out _ BD.out LW.out
end Go.Proofs.YtgfflnjggnadpaaDoor

namespace Go.Proofs.YtgfflnjggnadpaaDoor
set_option linter.all false
set_option maxRecDepth 100000
open Go.RowKit
theorem size_k : (Tryd.prog.info? 91).map (·.size) = some 64 := by kernel_rfl
theorem zero_k : (Tryd.prog.info? 91).map (fun i => (i.zero, i.size)) = some (some (.agg ((List.replicate 64 (0 : Int)).map (Value.int .u8)).toArray), 64) := by kernel_rfl
theorem built_k : Tryd.prog.built 91 [] = some ((List.replicate 64 (0 : Int)).map (Value.int .u8)).toArray := by kernel_rfl
theorem zero_m : (Tryd.prog.info? 79).map (fun i => (i.zero, i.size)) = some (some (.agg ((List.replicate 32 (0 : Int)).map (Value.int .u8)).toArray), 32) := by kernel_rfl
theorem size_g : (Tryd.prog.info? 47).map (·.size) = some 16 := by kernel_rfl
theorem zero_g : (Tryd.prog.info? 47).map (fun i => (i.zero, i.size)) = some (some (.agg ((List.replicate 16 (0 : Int)).map (Value.int .u8)).toArray), 16) := by kernel_rfl
theorem built_g : Tryd.prog.built 47 [] = some ((List.replicate 16 (0 : Int)).map (Value.int .u8)).toArray := by kernel_rfl
set_option maxRecDepth 100000 in
set_option maxHeartbeats 2000000 in
theorem laid_any (w : World) (A : Option Addr) (n c : Nat) (xs : List Int) (hn : n ≤ 140737488355200) (h : Holds w w.heap.size A n c xs) (hK : KTab w) :
    Calls Tryd.prog 68 #[.slice A n c] w fun e w' => e = .returned (.agg ((keyL xs).map (Value.int .u8)).toArray) ∧ Below w.heap.size w w' := by
  have HL := Lib.hid h.len
  obtain ⟨Z, hZ⟩ : ∃ Z : List Int, Z = List.replicate 64 0 := ⟨_, rfl⟩
  have HZ := len0 64
  have hz1 := zero_k
  have hz2 := built_k
  rw [← hZ] at HZ hz1 hz2
  have HZ1 := Lib.hid hz1
  have HZ2 := Lib.hid hz2
  have HZe := Lib.hid hZ
  obtain ⟨X, hX⟩ : ∃ Z : List Int, Z = List.replicate 32 0 := ⟨_, rfl⟩
  have HX := len0 32
  have hx1 := zero_m
  rw [← hX] at HX hx1
  have HX1 := Lib.hid hx1
  have HP := Lib.hid (keyL_len xs)
  clear hz1 hz2 hZ hx1 hX
  by_cases hlt : 64 < n
  · have cs := fun w h hK => Lib.hid (Sum_any w A n c xs hn h hK)
    have hk : keyL xs = sumOf xs ++ List.replicate 32 0 := by
      unfold keyL padK
      rw [if_pos (by rw [HL.out]; exact hlt), sumOf_len]
    have HSl : Hid ((sumOf xs).length = 32) := sumOf_len xs
    have hsb := sumOf_bytes xs
    obtain ⟨s, hs⟩ : ∃ s, s = sumOf xs := ⟨_, rfl⟩
    rw [← hs] at cs hk HSl hsb
    obtain ⟨p, hp⟩ : ∃ p, p = keyL xs := ⟨_, rfl⟩
    rw [← hp] at hk HP ⊢
    have HKe : Hid (s ++ Z.drop 32 = p) := by
      show _ = _
      rw [hk, HZe.out, List.drop_replicate]
    clear hs hp hk
    go_enter Tryd.func68, Tryd.ntmps68
    go_wp2_with (first
      | ((with_reducible show wpList _ _ _ (⟨some 2, _, _, _, _, _⟩ :: _) _ _); refine wpList_alloc_arr rfl _ rfl .u8 Z 64 HZ1 ?_; intro g2 w2 e2 s2 A2 b2)
      | fail)
    have h2 : Holds w2 w2.heap.size A n c xs := h.over b2.out
    refine (cs _ h2 (hK.below b2.out)).out.mono ?_
    rintro e w3 ⟨rfl, b3⟩
    have A23 : Hid (Arr w3 g2 .u8 91 Z) := A2.out.over b3
    have B3 : Hid (Below w.heap.size w w3) := step b2.out b3
    have HF : Hid (∀ w', Below w3.heap.size w3 w' → w.heap.size ≤ w3.heap.size) := fun _ _ => B3.out.size
    clear h2 b3 b2 A2 s2
    go_wp2_with (first
      | ((with_reducible show wpList _ _ _ (⟨some 3, _, _, _, _, _⟩ :: _) _ _); refine wpList_alloc_arr rfl _ rfl .u8 X 32 HX1 ?_; intro g3 w4 e4 s4 A4 b4)
      | ((with_reducible show wpList _ _ _ (⟨none, .store _ (.tmp 3) _, _, _, _, _⟩ :: _) _ _); refine wpList_store_arr rfl _ (.tmp 3) (.tmp 9) rfl g3 rfl .u8 _ _ s rfl A4 32 size_o HX HSl ?_; intro w5 A5 o5 s5)
      | (refine wpList_build_zero rfl _ rfl .u8 Z HZ2 ?_)
      | ((with_reducible show wpList _ _ _ (⟨some 4, _, _, _, _, _⟩ :: _) _ _); refine wpList_alloc_arr rfl _ rfl .u8 Z 64 HZ1 ?_; intro g4 w6 e6 s6 A6 b6)
      | ((with_reducible show wpList _ _ _ (⟨none, .store _ (.tmp 4) _, _, _, _, _⟩ :: _) _ _); refine wpList_store_arr rfl _ (.tmp 4) (.tmp 11) rfl g4 rfl .u8 _ _ Z rfl A6 64 size_k HZ HZ ?_; intro w7 A7 o7 s7; have H7 := Lib.hid (((A5.out.holds HSl.out hsb (by omega)).below b6.out).below (o7.out.below e6)))
      | ((with_reducible show wpList _ _ _ (⟨some 14, _, _, _, _, _⟩ :: _) _ _); refine wpList_copy_into rfl (.tmp 12) (.tmp 13) rfl g4 _ 64 64 32 32 _ rfl rfl Z s _ A7 H7.out (by omega) (by rw [HZ.out]; omega) ?_; intro w8 A8 b8; rw [HKe.out] at A8; have A28 : Hid (Arr w8 g2 .u8 91 Z) := (((((A23.out.over b4.out).only o5.out (by have := A23.out.lt; omega)).over b6.out).only o7.out (by have := A23.out.lt; omega)).below b8.out (by have := A23.out.lt; omega)))
      | ((with_reducible show wpList _ _ _ (⟨some 15, _, _, _, _, _⟩ :: _) _ _); refine wpList_load_arr rfl _ (.tmp 4) rfl g4 rfl .u8 _ p A8 64 _ Tryd.underlying91 size_k HP ?_)
      | ((with_reducible show wpList _ _ _ (⟨none, .store _ (.tmp 2) _, _, _, _, _⟩ :: _) _ _); refine wpList_store_arr rfl _ (.tmp 2) (.tmp 15) rfl g2 rfl .u8 _ _ p rfl A28 64 size_k HZ HP ?_; intro w9 A9 o9 s9)
      | fail)
    have hs3 := B3.out.size
    have B9 : Below w.heap.size w w9 := (((((B3.out.trans (b4.out.mono hs3)).trans (o5.out.below (by omega))).trans (b6.out.mono (by omega))).trans (o7.out.below (by omega))).trans (b8.out.mono (by omega))).trans (o9.out.below e2)
    refine bodyPost_ret (v := .agg (p.map (Value.int .u8)).toArray) ?_ rfl ⟨rfl, B9⟩
    exact results_cell_row rfl _ _ g2 _ _ (0, 0) _ rfl A9.out Tryd.underlying91 rfl (by rw [size_k]; have := HP.out; simp [this])
  · have hk : keyL xs = xs ++ List.replicate (64 - n) 0 := by
      unfold keyL padK
      rw [if_neg (by rw [HL.out]; exact hlt), HL.out]
    obtain ⟨p, hp⟩ : ∃ p, p = keyL xs := ⟨_, rfl⟩
    rw [← hp] at hk HP ⊢
    have HKe : Hid (xs ++ Z.drop n = p) := by
      show _ = _
      rw [hk, HZe.out, List.drop_replicate]
    have hle : (n : Int) ≤ 64 := by omega
    clear hp hk
    go_enter Tryd.func68, Tryd.ntmps68
    go_wp2_with (first
      | ((with_reducible show wpList _ _ _ (⟨some 2, _, _, _, _, _⟩ :: _) _ _); refine wpList_alloc_arr rfl _ rfl .u8 Z 64 HZ1 ?_; intro g2 w2 e2 s2 A2 b2)
      | (refine wpList_build_zero rfl _ rfl .u8 Z HZ2 ?_)
      | ((with_reducible show wpList _ _ _ (⟨some 4, _, _, _, _, _⟩ :: _) _ _); refine wpList_alloc_arr rfl _ rfl .u8 Z 64 HZ1 ?_; intro g4 w6 e6 s6 A6 b6)
      | ((with_reducible show wpList _ _ _ (⟨none, .store _ (.tmp 4) _, _, _, _, _⟩ :: _) _ _); refine wpList_store_arr rfl _ (.tmp 4) (.tmp 11) rfl g4 rfl .u8 _ _ Z rfl A6 64 size_k HZ HZ ?_; intro w7 A7 o7 s7; have H7 := Lib.hid (((h.over b2.out).below b6.out).below (o7.out.below e6)))
      | ((with_reducible show wpList _ _ _ (⟨some 14, _, _, _, _, _⟩ :: _) _ _); refine wpList_copy_into rfl (.tmp 12) (.tmp 13) rfl g4 _ 64 64 n c _ rfl rfl Z xs _ A7 H7.out (by omega) (by rw [HZ.out]; omega) ?_; intro w8 A8 b8; rw [HKe.out] at A8; have A28 : Hid (Arr w8 g2 .u8 91 Z) := (((A2.out.over b6.out).only o7.out (by omega)).below b8.out (by omega)))
      | ((with_reducible show wpList _ _ _ (⟨some 15, _, _, _, _, _⟩ :: _) _ _); refine wpList_load_arr rfl _ (.tmp 4) rfl g4 rfl .u8 _ p A8 64 _ Tryd.underlying91 size_k HP ?_)
      | ((with_reducible show wpList _ _ _ (⟨none, .store _ (.tmp 2) _, _, _, _, _⟩ :: _) _ _); refine wpList_store_arr rfl _ (.tmp 2) (.tmp 15) rfl g2 rfl .u8 _ _ p rfl A28 64 size_k HZ HP ?_; intro w9 A9 o9 s9)
      | fail)
    have hs2 := b2.out.size
    have B9 : Below w.heap.size w w9 := (((b2.out.trans (b6.out.mono hs2)).trans (o7.out.below (by omega))).trans (b8.out.mono (by omega))).trans (o9.out.below e2)
    refine bodyPost_ret (v := .agg (p.map (Value.int .u8)).toArray) ?_ rfl ⟨rfl, B9⟩
    exact results_cell_row rfl _ _ g2 _ _ (0, 0) _ rfl A9.out Tryd.underlying91 rfl (by rw [size_k]; have := HP.out; simp [this])
/-- the parts of two -/
theorem parts2 {w : World} {gs : Nat} {A1 A2 : Option Addr} {n1 c1 n2 c2 : Nat} {xs ys : List Int} (hg : gs < w.heap.size) (k0 : w.cell? ⟨gs, 0, none⟩ = some (.slice A1 n1 c1)) (k1 : w.cell? ⟨gs, 1, none⟩ = some (.slice A2 n2 c2))
    (h1 : Holds w w.heap.size A1 n1 c1 xs) (h2 : Holds w w.heap.size A2 n2 c2 ys) :
    Parts w gs 2 (fun i => if i = 0 then A1 else A2) (fun i => if i = 0 then n1 else n2) (fun i => if i = 0 then c1 else c2) (fun i => if i = 0 then xs else ys) := by
  refine ⟨hg, fun i hi => ?_, fun i hi => ?_⟩
  · have : i = 0 ∨ i = 1 := by omega
    rcases this with rfl | rfl
    · exact k0
    · exact k1
  · have : i = 0 ∨ i = 1 := by omega
    rcases this with rfl | rfl
    · exact h1
    · exact h2
set_option maxRecDepth 100000 in
set_option maxHeartbeats 2000000 in
theorem sumOf_any (w : World) (gs : Nat) (A1 A2 : Option Addr) (n1 c1 n2 c2 : Nat) (xs ys : List Int) (hP : Parts w gs 2 (fun i => if i = 0 then A1 else A2) (fun i => if i = 0 then n1 else n2) (fun i => if i = 0 then c1 else c2) (fun i => if i = 0 then xs else ys))
    (hb : n1 + n2 ≤ 140737488355200) (hK : KTab w) :
    Calls Tryd.prog 69 #[.slice (some ⟨gs, 0, none⟩) 2 2] w fun e w' => e = .returned (.agg ((sumOf (xs ++ ys)).map (Value.int .u8)).toArray) ∧ Below w.heap.size w w' := by
  have hc := fun w hP => ConcatN_any w gs 2 (fun i => if i = 0 then A1 else A2) (fun i => if i = 0 then n1 else n2) (fun i => if i = 0 then c1 else c2) (fun i => if i = 0 then xs else ys) hP (by omega) (show sumN (fun i => if i = 0 then n1 else n2) 2 ≤ 140737488355328 by show 0 + n1 + n2 ≤ _; omega)
  have hl : (xs ++ ys).length = n1 + n2 := by
    have h1 := (hP.holds 0 (by omega)).len
    have h2 := (hP.holds 1 (by omega)).len
    rw [List.length_append]
    show xs.length + ys.length = _
    simp only [if_true] at h1
    simp only [show ¬ (1 = 0) by omega, if_false] at h2
    omega
  have hbb : Bytes (xs ++ ys) := (hP.holds 0 (by omega)).byte.append (hP.holds 1 (by omega)).byte
  have hC := fun w hP => Lib.hid (hc w hP)
  have he : catL (fun i => if i = 0 then xs else ys) 2 = xs ++ ys := rfl
  rw [he] at hC
  obtain ⟨N, hN⟩ : ∃ N, N = n1 + n2 := ⟨_, rfl⟩
  rw [← hN] at hl hb
  obtain ⟨all, hall⟩ : ∃ all, all = xs ++ ys := ⟨_, rfl⟩
  rw [← hall] at hl hbb hC ⊢
  have HL := Lib.hid hl
  have cs := fun w A c h hK => Lib.hid (Sum_any w A N c all hb h hK)
  have HSl : Hid ((sumOf all).length = 32) := sumOf_len all
  obtain ⟨s, hs⟩ : ∃ s, s = sumOf all := ⟨_, rfl⟩
  rw [← hs] at cs HSl ⊢
  obtain ⟨X, hX⟩ : ∃ Z : List Int, Z = List.replicate 32 0 := ⟨_, rfl⟩
  have HX := len0 32
  have hx1 := zero_m
  rw [← hX] at HX hx1
  have HX1 := Lib.hid hx1
  clear hx1 hX hl he hc hs hN hall
  go_enter Tryd.func69, Tryd.ntmps69
  go_wp2_with (first
    | ((with_reducible show wpList _ _ _ (⟨some 2, _, _, _, _, _⟩ :: _) _ _); refine wpList_alloc_arr rfl _ rfl .u8 X 32 HX1 ?_; intro g2 w2 e2 s2 A2 b2)
    | fail)
  refine (hC _ (hP.over b2.out)).out.mono ?_
  rintro e w3 ⟨v3, rfl, o3, b3⟩
  obtain ⟨A3, c3, rfl, h3⟩ := o3.holds hbb (by rw [HL.out]; omega)
  rw [HL.out] at h3 ⊢
  have H3 := Lib.hid h3
  have B3 : Hid (Below w.heap.size w w3) := step b2.out b3
  have A23 : Hid (Arr w3 g2 .u8 79 X) := A2.out.over b3
  clear o3 h3 b3 A2 b2
  go_wp2_with fail
  refine (cs _ _ _ H3.out (hK.below B3.out)).out.mono ?_
  rintro e w4 ⟨rfl, b4⟩
  have A24 : Hid (Arr w4 g2 .u8 79 X) := A23.out.over b4
  have B4 : Hid (Below w.heap.size w w4) := step B3.out b4
  clear A23 B3 b4 H3
  go_wp2_with (first
    | ((with_reducible show wpList _ _ _ (⟨none, .store _ (.tmp 2) _, _, _, _, _⟩ :: _) _ _); refine wpList_store_arr rfl _ (.tmp 2) (.tmp 5) rfl g2 rfl .u8 _ _ s rfl A24 32 size_o HX HSl ?_; intro w9 A9 o9 s9)
    | fail)
  refine bodyPost_ret (v := .agg (s.map (Value.int .u8)).toArray) ?_ rfl ⟨rfl, B4.out.trans (o9.out.below e2)⟩
  exact results_cell_row rfl _ _ g2 _ _ (0, 0) _ rfl A9.out Tryd.underlying79 rfl (by rw [size_o]; have := HSl.out; simp [this])
set_option maxRecDepth 100000 in
set_option maxHeartbeats 2000000 in
theorem short_any (w : World) (xs : List Int) (hl : xs.length = 32) :
    Calls Tryd.prog 57 #[.agg (xs.map (Value.int .u8)).toArray] w fun e w' => e = .returned (.agg ((xs.take 16).map (Value.int .u8)).toArray) ∧ Below w.heap.size w w' := by
  have HP : Hid ((xs.take 16).length = 16) := by show _ = _; rw [List.length_take]; omega
  have HC : Hid (∀ i, i < 16 → (xs.take 16).getD i 0 = xs.getD i 0) := fun i hi => by simp [List.getD_eq_getElem?_getD, hi]
  obtain ⟨p, hp⟩ : ∃ p, p = xs.take 16 := ⟨_, rfl⟩
  rw [← hp] at HP HC ⊢
  have HL := Lib.hid hl
  obtain ⟨X, hX⟩ : ∃ Z : List Int, Z = List.replicate 16 0 := ⟨_, rfl⟩
  have HX := len0 16
  have hx1 := zero_g
  rw [← hX] at HX hx1
  have HX1 := Lib.hid hx1
  clear hp hl hX hx1
  go_enter Tryd.func57, Tryd.ntmps57
  go_wp2_with (first
    | ((with_reducible show wpList _ _ _ (⟨some 1, _, _, _, _, _⟩ :: _) _ _); refine wpList_box_arr rfl _ (.tmp 0) rfl .u8 xs rfl ?_; intro g1 w1 e1 s1 A1 b1)
    | ((with_reducible show wpList _ _ _ (⟨some 2, _, _, _, _, _⟩ :: _) _ _); refine wpList_alloc_arr rfl _ rfl .u8 X 16 HX1 ?_; intro g2 w2 e2 s2 A2 b2)
    | ((with_reducible show wpList _ _ _ (⟨some 4, _, _, _, _, _⟩ :: _) _ _); refine wpList_s2ap rfl _ (.tmp 3) rfl 16 16 32 _ ⟨g1, 0, none⟩ rfl Tryd.underlying47 (by omega) ?_)
    | ((with_reducible show wpList _ _ _ (⟨some 5, _, _, _, _, _⟩ :: _) _ _); refine wpList_load_part rfl _ (.tmp 4) rfl g1 0 rfl .u8 p 16 _ Tryd.underlying47 size_g HP (fun i hi => by rw [HC.out i hi, Nat.zero_add]; exact (A1.out.over b2.out).cell (by rw [HL.out]; omega)) ?_)
    | ((with_reducible show wpList _ _ _ (⟨none, .store _ (.tmp 2) _, _, _, _, _⟩ :: _) _ _); refine wpList_store_arr rfl _ (.tmp 2) (.tmp 5) rfl g2 rfl .u8 _ _ p rfl A2 16 size_g HX HP ?_; intro w9 A9 o9 s9)
    | fail)
  refine bodyPost_ret (v := .agg (p.map (Value.int .u8)).toArray) ?_ rfl ⟨rfl, (step b1.out b2.out).trans (o9.out.below (by omega))⟩
  exact results_cell_row rfl _ _ g2 _ _ (0, 0) _ rfl A9.out Tryd.underlying47 rfl (by rw [size_g]; have := HP.out; simp [this])
/-- the three parts of a message -/
def CutPostM (w : World) (b off n : Nat) (xs : List Int) (e : Ending) (w' : World) : Prop :=
  ∃ A3, e = .returned (.tuple #[.slice (some ⟨b, off, none⟩) 48 48, .slice (some ⟨b, off + 48, none⟩) 16 16, .slice A3 (n - 64) (n - 64)]) ∧ w = w' ∧
    ∀ w1 B c, Holds w1 B (some ⟨b, off, none⟩) n c xs → Holds w1 B A3 (n - 64) (n - 64) (xs.drop 64)
set_option maxHeartbeats 2000000 in
theorem cut_any (w : World) (b off n c : Nat) (xs : List Int) (hn : 64 ≤ n) (hc : n ≤ c) (hb : n ≤ 281474976710656) :
    Calls Tryd.prog 43 #[.slice (some ⟨b, off, none⟩) n c] w (CutPostM w b off n xs) := by
  by_cases h64 : n = 64
  · subst h64
    go_enter Tryd.func43, Tryd.ntmps43
    go_wp2_with fail
    go_ret3
    refine ⟨some ⟨b, off, none⟩, rfl, rfl, fun w1 B c hh => ?_⟩
    have := hh.len
    rw [show xs.drop 64 = [] from List.drop_of_length_le (by omega)]
    exact Holds.empty _ _ _ _ fun hA => (by cases hA)
  · have h1 : ¬ ((n : Int) = 64) := by omega
    have h2 : (64 : Int) ≤ (n : Int) := by omega
    have h3 : ¬ (n - 64 = 0) := by omega
    go_enter Tryd.func43, Tryd.ntmps43
    go_wp2_with fail
    go_ret3
    refine ⟨some ⟨b, off + 64, none⟩, rfl, rfl, fun w1 B c hh => ?_⟩
    have hl := hh.len
    have h4 := hh.cut (k := 64) (m := n - 64) (by omega) (by omega)
    rwa [List.take_of_length_le (by rw [List.length_drop]; omega)] at h4
end Go.Proofs.YtgfflnjggnadpaaDoor

namespace Go.Proofs.YtgfflnjggnadpaaDoor
set_option linter.all false
set_option maxRecDepth 100000
open Go.RowKit
/-- the row of a key, behind k of its bytes -/
def xorRow (c : Int) (K : List Int) (k : Nat) : List Int := (xorL c K).take k ++ K.drop k
theorem xorRow_len (c : Int) (K : List Int) (k : Nat) (hk : k ≤ K.length) : (xorRow c K k).length = K.length := by simp [xorRow, xorL_len]; omega
theorem xorRow_zero (c : Int) (K : List Int) : xorRow c K 0 = K := by simp [xorRow]
theorem xorRow_full (c : Int) (K : List Int) (k : Nat) (hk : K.length = k) : xorRow c K k = xorL c K := by
  unfold xorRow
  rw [List.take_of_length_le (by rw [xorL_len]; omega), List.drop_of_length_le (by omega), List.append_nil]
theorem xorRow_get (c : Int) (K : List Int) (k : Nat) (hk : k < K.length) : (xorRow c K k).getD k 0 = K.getD k 0 := by
  have hl : ((xorL c K).take k).length = k := by simp [xorL_len]; omega
  unfold xorRow
  rw [List.getD_eq_getElem?_getD, List.getElem?_append_right (by omega), hl, Nat.sub_self, List.getElem?_drop, Nat.add_zero, List.getD_eq_getElem?_getD]
theorem xorRow_set (c : Int) (K : List Int) (k : Nat) (hk : k < K.length) : (xorRow c K k).set k (bits .xor .u8 (K.getD k 0) c) = xorRow c K (k + 1) := by
  have hl : ((xorL c K).take k).length = k := by simp [xorL_len]; omega
  have hx : k < (xorL c K).length := by rw [xorL_len]; exact hk
  unfold xorRow
  rw [List.set_append_right _ _ (by omega), hl, Nat.sub_self, List.drop_eq_getElem_cons hk, List.set_cons_zero, List.take_succ_eq_append_getElem hx, List.append_assoc]
  congr 2
  simp [xorL, hk]
set_option maxRecDepth 100000 in
set_option maxHeartbeats 4000000 in
theorem macOf_any (w : World) (A : Option Addr) (n c : Nat) (ks : List Int) (hn : n ≤ 140737488355200) (h : Holds w w.heap.size A n c ks) (gs m : Nat) (PA : Nat → Option Addr) (pn pc : Nat → Nat) (PX : Nat → List Int) (hP : Parts w gs m PA pn pc PX)
    (hm : m ≤ 1000) (hb : sumN pn m ≤ 140737488355100) (hK : KTab w) :
    Calls Tryd.prog 58 #[.slice A n c, .slice (some ⟨gs, 0, none⟩) m m] w fun e w' => e = .returned (.agg ((macL ks (catL PX m)).map (Value.int .u8)).toArray) ∧ Below w.heap.size w w' := by
  have cl := fun w h hK => Lib.hid (laid_any w A n c ks hn h hK)
  have cc := fun w hP => Lib.hid (ConcatN_any w gs m PA pn pc PX hP hm (by omega))
  have cs := fun w gs A1 A2 n1 c1 n2 c2 xs ys hP hb hK => Lib.hid (sumOf_any w gs A1 A2 n1 c1 n2 c2 xs ys hP hb hK)
  have hXl : (catL PX m).length = sumN pn m := catL_len (fun i hi => (hP.holds i hi).len) (Nat.le_refl _)
  have hXb : Bytes (catL PX m) := catL_bytes (fun i hi => (hP.holds i hi).byte) (Nat.le_refl _)
  have HKl : Hid ((keyL ks).length = 64) := keyL_len ks
  have hKb : Bytes (keyL ks) := keyL_bytes ks h.byte
  have hmac : macL ks (catL PX m) = sumOf (xorL 92 (keyL ks) ++ sumOf (xorL 54 (keyL ks) ++ catL PX m)) := rfl
  have HR : Hid ((macL ks (catL PX m)).length = 32) := macL_len _ _
  obtain ⟨R, hR⟩ : ∃ R, R = macL ks (catL PX m) := ⟨_, rfl⟩
  obtain ⟨K, hKe⟩ : ∃ K, K = keyL ks := ⟨_, rfl⟩
  obtain ⟨Y, hY⟩ : ∃ Y, Y = catL PX m := ⟨_, rfl⟩
  obtain ⟨N, hN⟩ : ∃ N, N = sumN pn m := ⟨_, rfl⟩
  rw [← hR] at hmac HR ⊢
  rw [← hKe] at cl HKl hKb hmac
  rw [← hY] at cc hXl hXb hmac
  rw [← hN] at hXl hb
  have HMAC := Lib.hid hmac
  have HYL := Lib.hid hXl
  have HT := Lib.hid hK
  have HPP := Lib.hid hP
  have HH := Lib.hid h
  obtain ⟨X, hX⟩ : ∃ Z : List Int, Z = List.replicate 32 0 := ⟨_, rfl⟩
  have HX := len0 32
  have hx1 := zero_m
  rw [← hX] at HX hx1
  have HX1 := Lib.hid hx1
  obtain ⟨Z, hZ⟩ : ∃ Z : List Int, Z = List.replicate 64 0 := ⟨_, rfl⟩
  have HZ := len0 64
  have hz1 := zero_k
  rw [← hZ] at HZ hz1
  have HZ1 := Lib.hid hz1
  clear hR hKe hY hN hx1 hX hz1 hZ hmac hXl hK hP h
  go_enter Tryd.func58, Tryd.ntmps58
  go_wp2_with (first
    | ((with_reducible show wpList _ _ _ (⟨some 4, _, _, _, _, _⟩ :: _) _ _); refine wpList_alloc_arr rfl _ rfl .u8 X 32 HX1 ?_; intro g4 w4 e4 s4 A4 b4)
    | fail)
  refine (cl _ (HH.out.over b4.out) (HT.out.below b4.out)).out.mono ?_
  rintro e w5 ⟨rfl, b5⟩
  have A45 : Hid (Arr w5 g4 .u8 79 X) := A4.out.over b5
  have B5 : Hid (Below w.heap.size w w5) := step b4.out b5
  have l45 := A45.out.lt
  clear A4 b4 b5 s4 HH
  go_wp2_with (first
    | ((with_reducible show wpList _ _ _ (⟨some 5, _, _, _, _, _⟩ :: _) _ _); refine wpList_alloc_arr rfl _ rfl .u8 Z 64 HZ1 ?_; intro g5 w6 e6 s6 A6 b6)
    | ((with_reducible show wpList _ _ _ (⟨none, .store _ (.tmp 5) _, _, _, _, _⟩ :: _) _ _); refine wpList_store_arr rfl _ (.tmp 5) (.tmp 10) rfl g5 rfl .u8 _ _ K rfl A6 64 size_k HZ HKl ?_; intro w7 A7 o7 s7)
    | ((with_reducible show wpList _ _ _ (⟨some 11, _, _, _, _, _⟩ :: _) _ _); refine wpList_load_arr rfl _ (.tmp 5) rfl g5 rfl .u8 _ K A7 64 _ Tryd.underlying91 size_k HKl ?_)
    | ((with_reducible show wpList _ _ _ (⟨some 6, _, _, _, _, _⟩ :: _) _ _); refine wpList_alloc_arr rfl _ rfl .u8 Z 64 HZ1 ?_; intro g6 w8 e8 s8 A8 b8)
    | ((with_reducible show wpList _ _ _ (⟨none, .store _ (.tmp 6) _, _, _, _, _⟩ :: _) _ _); refine wpList_store_arr rfl _ (.tmp 6) (.tmp 11) rfl g6 rfl .u8 _ _ K rfl A8 64 size_k HZ HKl ?_; intro w9 A9 o9 s9)
    | fail)
  have hs5 := B5.out.size
  have l56 : g5 < g6 := by omega
  have A59 : Hid (Arr w9 g5 .u8 91 K) := (A7.out.over b8.out).only o9.out (by omega)
  have A49 : Hid (Arr w9 g4 .u8 79 X) := (((A45.out.over b6.out).only o7.out (by omega)).over b8.out).only o9.out (by omega)
  have B9 : Hid (Below w.heap.size w w9) := (((B5.out.trans (b6.out.mono hs5)).trans (o7.out.below (by omega))).trans (b8.out.mono (by omega))).trans (o9.out.below (by omega))
  have l4 : w.heap.size ≤ g4 := e4
  have l4' : g4 < g5 := by omega
  clear A45 A6 A7 A8 b6 o7 b8 o9 s6 s7 s8 e6 e8 e4 hs5 B5
  go_loopw [12, 7] (fun i _ wr => ∃ k : Nat, k ≤ 64 ∧ i = .int .i64 k ∧ Hid (Arr wr g5 .u8 91 (xorRow 54 K k)) ∧ Hid (Arr wr g6 .u8 91 (xorRow 92 K k)) ∧ Hid (Below g5 w9 wr)) (fun i _ _ => 64 - (intOf i).toNat)
  case atStart => exact ⟨0, by omega, rfl, by rw [xorRow_zero]; exact A59, by rw [xorRow_zero]; exact A9, Below.refl _ _⟩
  case round =>
    obtain ⟨k, hk, rfl, hR5, hR6, hB⟩ := hrel
    by_cases hlt : k < 64
    · have hkl : k < K.length := by rw [HKl.out]; exact hlt
      have gc := hR5.out.cell (i := k) (by rw [xorRow_len _ _ _ (by omega)]; exact hkl)
      have gd := hR6.out.cell (i := k) (by rw [xorRow_len _ _ _ (by omega)]; exact hkl)
      rw [xorRow_get _ _ _ hkl] at gc gd
      have gf := hR5.out.frozen k
      have gh := hR6.out.frozen k
      have S5 := hR5.out.set k (bits .xor .u8 (K.getD k 0) 54)
      rw [xorRow_set _ _ _ hkl] at S5
      have S6 := (hR6.out.setOther (show g6 ≠ g5 by omega) k (.int .u8 (bits .xor .u8 (K.getD k 0) 54))).set k (bits .xor .u8 (K.getD k 0) 92)
      rw [xorRow_set _ _ _ hkl] at S6
      have S5' := S5.setOther (show g5 ≠ g6 by omega) k (.int .u8 (bits .xor .u8 (K.getD k 0) 92))
      have hbk := hKb.getD k
      obtain ⟨y, hy⟩ : ∃ y, y = K.getD k 0 := ⟨_, rfl⟩
      rw [← hy] at gc gd S5' S6 hbk
      have HS5 := Lib.hid S5'
      have HS6 := Lib.hid S6
      have hB2 : Hid (Below g5 w9 ((wr.setCell ⟨g5, k, none⟩ (.int .u8 (bits .xor .u8 y 54))).setCell ⟨g6, k, none⟩ (.int .u8 (bits .xor .u8 y 92)))) := (hB.out.setCell (Nat.le_refl _) _).setCell (show g5 ≤ g6 by omega) _
      obtain ⟨hbk0, hbk1⟩ := hbk
      have hne : ¬ g5 = g6 := by omega
      have hne' : ¬ g6 = g5 := by omega
      clear hy S5 S5' S6 hR5 hR6 hB
      go_wp2_with fail
      go_roundw
      case rel => exact ⟨k + 1, by omega, by go_num, HS5, HS6, hB2⟩
      case measure => simp [intOf]; omega
    · obtain rfl : k = 64 := by omega
      have hKX5 := xorRow_full 54 K 64 HKl.out
      have hKX6 := xorRow_full 92 K 64 HKl.out
      rw [hKX5] at hR5
      rw [hKX6] at hR6
      have HI : Hid ((xorL 54 K).length = 64) := by show _ = _; rw [xorL_len, HKl.out]
      have HO : Hid ((xorL 92 K).length = 64) := by show _ = _; rw [xorL_len, HKl.out]
      have hIb := xorL_bytes 54 K
      have hOb := xorL_bytes 92 K
      have HM1 := HMAC.out
      obtain ⟨inn, hinn⟩ : ∃ p, p = xorL 54 K := ⟨_, rfl⟩
      obtain ⟨out, hout⟩ : ∃ p, p = xorL 92 K := ⟨_, rfl⟩
      rw [← hinn] at hR5 HI hIb HM1
      rw [← hout] at hR6 HO hOb HM1
      have HS1 : Hid ((sumOf (inn ++ Y)).length = 32) := sumOf_len _
      have hS1b := sumOf_bytes (inn ++ Y)
      have cs1 := fun w gs A2 n2 c2 g => cs w gs (some ⟨g, 0, none⟩) A2 64 64 n2 c2 inn Y
      obtain ⟨s1, hs1⟩ : ∃ p, p = sumOf (inn ++ Y) := ⟨_, rfl⟩
      rw [← hs1] at HS1 hS1b cs1 HM1
      have cs2 := fun w gs A2 g => cs w gs (some ⟨g, 0, none⟩) A2 64 64 32 32 out s1
      rw [← HM1] at cs2
      have Br : Hid (Below w.heap.size w wr) := B9.out.trans (hB.out.mono (by omega))
      have A4r : Hid (Arr wr g4 .u8 79 X) := A49.out.below hB.out l4'
      obtain ⟨wz, hwz⟩ : ∃ wz, wz = wr := ⟨_, rfl⟩
      rw [← hwz] at Br A4r hR5 hR6 ⊢
      have HM := Lib.hid HM1
      clear hinn hout hs1 HM1 hB A9 A59 A49 B9 hKX5 hKX6 hwz HMAC cs cl hlt hk
      go_upto_region 9 with (fail)
      go_cut [8] (fun s8 wx => ∃ g8, s8 = .pointer (some ⟨g8, 0, none⟩) ∧ Hid (Arr wx g8 .u8 79 s1) ∧ Hid (Arr wx g6 .u8 91 out) ∧ Hid (Arr wx g4 .u8 79 X) ∧ Hid (Below w.heap.size w wx) ∧ g4 < g8)
      case first =>
        have B0 : Hid (Below w.heap.size w wz.drew) := Br.out.drew
        have R40 : Hid (Arr wz.drew g4 .u8 79 X) := A4r.out.drew
        have R50 : Hid (Arr wz.drew g5 .u8 91 inn) := hR5.out.drew
        have R60 : Hid (Arr wz.drew g6 .u8 91 out) := hR6.out.drew
        refine wp_region_held (S := fun _ => True) (by kernel_rfl) ?_
        change wpAnyH _ _ _ _ _ _ _ _ wz.drew
        refine wpAnyH_take (i := 0) (v := .slice (some ⟨g5, 0, none⟩) 64 64) rfl (by kernel_rfl) (by kernel_rfl) (by kernel_rfl) (fun _ _ _ h => h) (.inl ⟨rfl, fun w _ => by go_simp⟩) trivial ?_
        refine wpAnyH_take (i := 1) (v := .slice (some ⟨gs, 0, none⟩) m m) rfl (by kernel_rfl) (by kernel_rfl) (by kernel_rfl) (fun _ _ _ h => h) (.inl ⟨rfl, fun w _ => by go_simp⟩) trivial ?_
        refine wpAnyH_two 2 5 _ _ (by kernel_rfl) rfl rfl (fun K hK => ?_) (fun K hK => ?_)
        · skip
          go_simp
          refine (cc _ (HPP.out.over B0.out)).out.mono ?_
          rintro e w1 ⟨_, rfl, o3, b2⟩
          obtain ⟨A5, c6, rfl, h4⟩ := o3.holds hXb (by rw [HYL.out]; omega)
          rw [HYL.out] at h4 ⊢
          refine hK _ _ trivial ?_
          clear hK K
          have R47 := Lib.hid (R40.out.over b2)
          have R58 := Lib.hid (R50.out.over b2)
          have R69 := Lib.hid (R60.out.over b2)
          have B10 := Lib.hid (step B0.out b2)
          have HY11 := Lib.hid h4
          clear o3 h4 b2
          refine wpAnyH_two 3 5 _ _ (by kernel_rfl) rfl rfl (fun K hK => ?_) (fun K hK => ?_)
          · skip
            go_simp
            refine hK _ _ trivial ?_
            clear hK K
            have b12 : Below w1.heap.size w1 (w1.alloc (.cells #[.slice (some ⟨g5, 0, none⟩) 64 64, .slice A5 N c6] 24)) := (Below.refl _ _).alloc (Nat.le_refl _) _
            have R416 := Lib.hid (R47.out.over b12)
            have R517 := Lib.hid (R58.out.over b12)
            have R618 := Lib.hid (R69.out.over b12)
            have HY19 := Lib.hid (HY11.out.over b12)
            have B20 := Lib.hid (step B10.out b12)
            have PP15 := Lib.hid (parts2 (gs := w1.heap.size) (by simp) (by simp) (by simp) (R517.out.holds HI.out hIb (by omega)) HY19.out)
            obtain ⟨w13, hu14⟩ : ∃ x, x = w1.alloc (.cells #[.slice (some ⟨g5, 0, none⟩) 64 64, .slice A5 N c6] 24) := ⟨_, rfl⟩
            obtain ⟨gp21, hu14g⟩ : ∃ x, x = w1.heap.size := ⟨_, rfl⟩
            rw [← hu14] at R416 R517 R618 HY19 PP15 B20 ⊢
            rw [← hu14g] at PP15 ⊢
            clear b12 hu14 hu14g
            refine wpAnyH_two 4 5 _ _ (by kernel_rfl) rfl rfl (fun K hK => ?_) (fun K hK => ?_)
            · skip
              go_simp
              refine (cs1 _ gp21 A5 N c6 g5 PP15.out (by omega) (HT.out.below B20.out)).out.mono ?_
              rintro e w22 ⟨rfl, b23⟩
              refine hK _ _ trivial ?_
              clear hK K
              have R424 := Lib.hid (R416.out.over b23)
              have R525 := Lib.hid (R517.out.over b23)
              have R626 := Lib.hid (R618.out.over b23)
              have HY27 := Lib.hid (HY19.out.over b23)
              have PP28 := Lib.hid (PP15.out.over b23)
              have B29 := Lib.hid (step B20.out b23)
              clear b23
              refine wpAnyH_one 5 _ (by kernel_rfl) rfl fun K hK => ?_
              refine step_alloc_arr rfl _ rfl .u8 X 32 HX1 ?_
              intro g8 w30 e33 s34 R832 b31
              refine hK _ _ trivial ?_
              clear hK K
              have hlw : w.heap.size ≤ g8 := Nat.le_trans B29.out.size e33
              have hl6 : g6 < g8 := Nat.lt_of_lt_of_le R626.out.lt e33
              have hl4 : g4 < g8 := Nat.lt_of_lt_of_le R424.out.lt e33
              have R435 := Lib.hid (R424.out.over b31.out)
              have R536 := Lib.hid (R525.out.over b31.out)
              have R637 := Lib.hid (R626.out.over b31.out)
              have HY38 := Lib.hid (HY27.out.over b31.out)
              have PP39 := Lib.hid (PP28.out.over b31.out)
              have B40 := Lib.hid (step B29.out b31.out)
              clear b31 e33 s34
              refine wpAnyH_one 6 _ (by kernel_rfl) rfl fun K hK => ?_
              refine step_store_arr rfl _ (.tmp 8) (.tmp 30) rfl g8 rfl .u8 _ X s1 rfl R832 32 size_o HX HS1 ?_
              intro w41 F842 o43 s44
              refine hK _ _ trivial ?_
              clear hK K
              refine wpAnyH_done (by kernel_rfl) ?_ _
              go_wp2_with fail
              go_meet
              exact ⟨g8, rfl, F842.out, R637.out.only o43.out (by omega), R435.out.only o43.out (by omega), B40.out.trans (o43.out.below hlw), hl4⟩
            · skip
              refine step_alloc_arr rfl _ rfl .u8 X 32 HX1 ?_
              intro g8 w45 e48 s49 R847 b46
              refine hK _ _ trivial ?_
              clear hK K
              have hlw : w.heap.size ≤ g8 := Nat.le_trans B20.out.size e48
              have hl6 : g6 < g8 := Nat.lt_of_lt_of_le R618.out.lt e48
              have hl4 : g4 < g8 := Nat.lt_of_lt_of_le R416.out.lt e48
              have R450 := Lib.hid (R416.out.over b46.out)
              have R551 := Lib.hid (R517.out.over b46.out)
              have R652 := Lib.hid (R618.out.over b46.out)
              have HY53 := Lib.hid (HY19.out.over b46.out)
              have PP54 := Lib.hid (PP15.out.over b46.out)
              have B55 := Lib.hid (step B20.out b46.out)
              clear b46 e48 s49
              refine wpAnyH_one 4 _ (by kernel_rfl) rfl fun K hK => ?_
              go_simp
              refine (cs1 _ gp21 A5 N c6 g5 PP54.out (by omega) (HT.out.below B55.out)).out.mono ?_
              rintro e w56 ⟨rfl, b57⟩
              refine hK _ _ trivial ?_
              clear hK K
              have R458 := Lib.hid (R450.out.over b57)
              have R559 := Lib.hid (R551.out.over b57)
              have R660 := Lib.hid (R652.out.over b57)
              have R861 := Lib.hid (R847.out.over b57)
              have HY62 := Lib.hid (HY53.out.over b57)
              have PP63 := Lib.hid (PP54.out.over b57)
              have B64 := Lib.hid (step B55.out b57)
              clear b57
              refine wpAnyH_one 6 _ (by kernel_rfl) rfl fun K hK => ?_
              refine step_store_arr rfl _ (.tmp 8) (.tmp 30) rfl g8 rfl .u8 _ X s1 rfl R861 32 size_o HX HS1 ?_
              intro w65 F866 o67 s68
              refine hK _ _ trivial ?_
              clear hK K
              refine wpAnyH_done (by kernel_rfl) ?_ _
              go_wp2_with fail
              go_meet
              exact ⟨g8, rfl, F866.out, R660.out.only o67.out (by omega), R458.out.only o67.out (by omega), B64.out.trans (o67.out.below hlw), hl4⟩
          · skip
            refine step_alloc_arr rfl _ rfl .u8 X 32 HX1 ?_
            intro g8 w69 e72 s73 R871 b70
            refine hK _ _ trivial ?_
            clear hK K
            have hlw : w.heap.size ≤ g8 := Nat.le_trans B10.out.size e72
            have hl6 : g6 < g8 := Nat.lt_of_lt_of_le R69.out.lt e72
            have hl4 : g4 < g8 := Nat.lt_of_lt_of_le R47.out.lt e72
            have R474 := Lib.hid (R47.out.over b70.out)
            have R575 := Lib.hid (R58.out.over b70.out)
            have R676 := Lib.hid (R69.out.over b70.out)
            have HY77 := Lib.hid (HY11.out.over b70.out)
            have B78 := Lib.hid (step B10.out b70.out)
            clear b70 e72 s73
            refine wpAnyH_one 3 _ (by kernel_rfl) rfl fun K hK => ?_
            go_simp
            refine hK _ _ trivial ?_
            clear hK K
            have b79 : Below w69.heap.size w69 (w69.alloc (.cells #[.slice (some ⟨g5, 0, none⟩) 64 64, .slice A5 N c6] 24)) := (Below.refl _ _).alloc (Nat.le_refl _) _
            have R483 := Lib.hid (R474.out.over b79)
            have R584 := Lib.hid (R575.out.over b79)
            have R685 := Lib.hid (R676.out.over b79)
            have R886 := Lib.hid (R871.out.over b79)
            have HY87 := Lib.hid (HY77.out.over b79)
            have B88 := Lib.hid (step B78.out b79)
            have PP82 := Lib.hid (parts2 (gs := w69.heap.size) (by simp) (by simp) (by simp) (R584.out.holds HI.out hIb (by omega)) HY87.out)
            obtain ⟨w80, hu81⟩ : ∃ x, x = w69.alloc (.cells #[.slice (some ⟨g5, 0, none⟩) 64 64, .slice A5 N c6] 24) := ⟨_, rfl⟩
            obtain ⟨gp89, hu81g⟩ : ∃ x, x = w69.heap.size := ⟨_, rfl⟩
            rw [← hu81] at R483 R584 R685 R886 HY87 PP82 B88 ⊢
            rw [← hu81g] at PP82 ⊢
            clear b79 hu81 hu81g
            refine wpAnyH_one 4 _ (by kernel_rfl) rfl fun K hK => ?_
            go_simp
            refine (cs1 _ gp89 A5 N c6 g5 PP82.out (by omega) (HT.out.below B88.out)).out.mono ?_
            rintro e w90 ⟨rfl, b91⟩
            refine hK _ _ trivial ?_
            clear hK K
            have R492 := Lib.hid (R483.out.over b91)
            have R593 := Lib.hid (R584.out.over b91)
            have R694 := Lib.hid (R685.out.over b91)
            have R895 := Lib.hid (R886.out.over b91)
            have HY96 := Lib.hid (HY87.out.over b91)
            have PP97 := Lib.hid (PP82.out.over b91)
            have B98 := Lib.hid (step B88.out b91)
            clear b91
            refine wpAnyH_one 6 _ (by kernel_rfl) rfl fun K hK => ?_
            refine step_store_arr rfl _ (.tmp 8) (.tmp 30) rfl g8 rfl .u8 _ X s1 rfl R895 32 size_o HX HS1 ?_
            intro w99 F8100 o101 s102
            refine hK _ _ trivial ?_
            clear hK K
            refine wpAnyH_done (by kernel_rfl) ?_ _
            go_wp2_with fail
            go_meet
            exact ⟨g8, rfl, F8100.out, R694.out.only o101.out (by omega), R492.out.only o101.out (by omega), B98.out.trans (o101.out.below hlw), hl4⟩
        · skip
          refine step_alloc_arr rfl _ rfl .u8 X 32 HX1 ?_
          intro g8 w103 e106 s107 R8105 b104
          refine hK _ _ trivial ?_
          clear hK K
          have hlw : w.heap.size ≤ g8 := Nat.le_trans B0.out.size e106
          have hl6 : g6 < g8 := Nat.lt_of_lt_of_le R60.out.lt e106
          have hl4 : g4 < g8 := Nat.lt_of_lt_of_le R40.out.lt e106
          have R4108 := Lib.hid (R40.out.over b104.out)
          have R5109 := Lib.hid (R50.out.over b104.out)
          have R6110 := Lib.hid (R60.out.over b104.out)
          have B111 := Lib.hid (step B0.out b104.out)
          clear b104 e106 s107
          refine wpAnyH_one 2 _ (by kernel_rfl) rfl fun K hK => ?_
          go_simp
          refine (cc _ (HPP.out.over B111.out)).out.mono ?_
          rintro e w112 ⟨_, rfl, o114, b113⟩
          obtain ⟨A116, c117, rfl, h115⟩ := o114.holds hXb (by rw [HYL.out]; omega)
          rw [HYL.out] at h115 ⊢
          refine hK _ _ trivial ?_
          clear hK K
          have R4118 := Lib.hid (R4108.out.over b113)
          have R5119 := Lib.hid (R5109.out.over b113)
          have R6120 := Lib.hid (R6110.out.over b113)
          have R8121 := Lib.hid (R8105.out.over b113)
          have B122 := Lib.hid (step B111.out b113)
          have HY123 := Lib.hid h115
          clear o114 h115 b113
          refine wpAnyH_one 3 _ (by kernel_rfl) rfl fun K hK => ?_
          go_simp
          refine hK _ _ trivial ?_
          clear hK K
          have b124 : Below w112.heap.size w112 (w112.alloc (.cells #[.slice (some ⟨g5, 0, none⟩) 64 64, .slice A116 N c117] 24)) := (Below.refl _ _).alloc (Nat.le_refl _) _
          have R4128 := Lib.hid (R4118.out.over b124)
          have R5129 := Lib.hid (R5119.out.over b124)
          have R6130 := Lib.hid (R6120.out.over b124)
          have R8131 := Lib.hid (R8121.out.over b124)
          have HY132 := Lib.hid (HY123.out.over b124)
          have B133 := Lib.hid (step B122.out b124)
          have PP127 := Lib.hid (parts2 (gs := w112.heap.size) (by simp) (by simp) (by simp) (R5129.out.holds HI.out hIb (by omega)) HY132.out)
          obtain ⟨w125, hu126⟩ : ∃ x, x = w112.alloc (.cells #[.slice (some ⟨g5, 0, none⟩) 64 64, .slice A116 N c117] 24) := ⟨_, rfl⟩
          obtain ⟨gp134, hu126g⟩ : ∃ x, x = w112.heap.size := ⟨_, rfl⟩
          rw [← hu126] at R4128 R5129 R6130 R8131 HY132 PP127 B133 ⊢
          rw [← hu126g] at PP127 ⊢
          clear b124 hu126 hu126g
          refine wpAnyH_one 4 _ (by kernel_rfl) rfl fun K hK => ?_
          go_simp
          refine (cs1 _ gp134 A116 N c117 g5 PP127.out (by omega) (HT.out.below B133.out)).out.mono ?_
          rintro e w135 ⟨rfl, b136⟩
          refine hK _ _ trivial ?_
          clear hK K
          have R4137 := Lib.hid (R4128.out.over b136)
          have R5138 := Lib.hid (R5129.out.over b136)
          have R6139 := Lib.hid (R6130.out.over b136)
          have R8140 := Lib.hid (R8131.out.over b136)
          have HY141 := Lib.hid (HY132.out.over b136)
          have PP142 := Lib.hid (PP127.out.over b136)
          have B143 := Lib.hid (step B133.out b136)
          clear b136
          refine wpAnyH_one 6 _ (by kernel_rfl) rfl fun K hK => ?_
          refine step_store_arr rfl _ (.tmp 8) (.tmp 30) rfl g8 rfl .u8 _ X s1 rfl R8140 32 size_o HX HS1 ?_
          intro w144 F8145 o146 s147
          refine hK _ _ trivial ?_
          clear hK K
          refine wpAnyH_done (by kernel_rfl) ?_ _
          go_wp2_with fail
          go_meet
          exact ⟨g8, rfl, F8145.out, R6139.out.only o146.out (by omega), R4137.out.only o146.out (by omega), B143.out.trans (o146.out.below hlw), hl4⟩
      case rest =>
        obtain ⟨g8, rfl, A8, A6, A4c, Bc, l48⟩ := hcut
        go_upto_region 10 with (fail)
        refine wp_region_held (S := fun _ => True) (by kernel_rfl) ?_
        change wpAnyH _ _ _ _ _ _ _ _ wc.drew
        have B0 : Hid (Below w.heap.size w wc.drew) := Bc.out.drew
        have R40 : Hid (Arr wc.drew g4 .u8 79 X) := A4c.out.drew
        have R60 : Hid (Arr wc.drew g6 .u8 91 out) := A6.out.drew
        have R80 : Hid (Arr wc.drew g8 .u8 79 s1) := A8.out.drew
        obtain ⟨wq, hwq⟩ : ∃ x, x = wc.drew := ⟨_, rfl⟩
        rw [← hwq] at B0 R40 R60 R80 ⊢
        clear hwq
        refine wpAnyH_take (i := 0) (v := .slice (some ⟨g6, 0, none⟩) 64 64) rfl (by kernel_rfl) (by kernel_rfl) (by kernel_rfl) (fun _ _ _ h => h) (.inl ⟨rfl, fun w _ => by go_simp⟩) trivial ?_
        refine wpAnyH_take (i := 1) (v := .slice (some ⟨g8, 0, none⟩) 32 32) rfl (by kernel_rfl) (by kernel_rfl) (by kernel_rfl) (fun _ _ _ h => h) (.inl ⟨rfl, fun w _ => by go_simp⟩) trivial ?_
        refine wpAnyH_one 2 _ (by kernel_rfl) rfl fun K hK => ?_
        go_simp
        refine hK _ _ trivial ?_
        clear hK K
        have b1 : Below wq.heap.size wq (wq.alloc (.cells #[.slice (some ⟨g6, 0, none⟩) 64 64, .slice (some ⟨g8, 0, none⟩) 32 32] 24)) := (Below.refl _ _).alloc (Nat.le_refl _) _
        have R41 := Lib.hid (R40.out.over b1)
        have R61 := Lib.hid (R60.out.over b1)
        have R81 := Lib.hid (R80.out.over b1)
        have B1 := Lib.hid (step B0.out b1)
        have PP := Lib.hid (parts2 (gs := wq.heap.size) (by simp) (by simp) (by simp) (R61.out.holds HO.out hOb (by omega)) (R81.out.holds HS1.out hS1b (by omega)))
        obtain ⟨w1, hw1⟩ : ∃ x, x = wq.alloc (.cells #[.slice (some ⟨g6, 0, none⟩) 64 64, .slice (some ⟨g8, 0, none⟩) 32 32] 24) := ⟨_, rfl⟩
        rw [← hw1] at R41 R61 R81 B1 PP ⊢
        clear b1 hw1 R40 R60 R80 B0
        refine wpAnyH_one 3 _ (by kernel_rfl) rfl fun K hK => ?_
        go_simp
        refine (cs2 _ _ _ g6 PP.out (by omega) (HT.out.below B1.out)).out.mono ?_
        rintro e w2 ⟨rfl, b2⟩
        refine hK _ _ trivial ?_
        clear hK K
        have R42 := Lib.hid (R41.out.over b2)
        have B2 := Lib.hid (step B1.out b2)
        clear b2 R41 R61 R81 B1 PP
        refine wpAnyH_one 4 _ (by kernel_rfl) rfl fun K hK => ?_
        refine step_store_arr rfl _ (.tmp 4) (.tmp 34) rfl g4 rfl .u8 _ X R rfl R42 32 size_o HX HR ?_
        intro w3 A3 o3 s3
        refine hK _ _ trivial ?_
        clear hK K
        refine wpAnyH_done (by kernel_rfl) ?_ _
        go_wp2_with fail
        refine bodyPost_ret (v := .agg (R.map (Value.int .u8)).toArray) ?_ rfl ⟨rfl, B2.out.trans (o3.out.below l4)⟩
        exact results_cell_row rfl _ _ g4 _ _ (0, 0) _ rfl A3.out Tryd.underlying79 rfl (by rw [size_o]; have := HR.out; simp [this])
end Go.Proofs.YtgfflnjggnadpaaDoor

namespace Go.Proofs.YtgfflnjggnadpaaDoor
set_option linter.all false
set_option maxRecDepth 100000
open Go.RowKit
section
variable {ops : Array Oper} {rest : List Oper} {o : Oper} {a : Act} {w : World} {Q : Exit → Act → World → Prop}
end
/-! ### the program's calls -/

theorem len16 (xs : List Int) (h : xs.length = 32) : (xs.take 16).length = 16 := by rw [List.length_take]; omega
end Go.Proofs.YtgfflnjggnadpaaDoor

namespace Go.Proofs.YtgfflnjggnadpaaDoor
set_option linter.all false
set_option maxRecDepth 100000
open Go.RowKit
section
variable {w : World} {B b off n c : Nat} {xs : List Int}
theorem Holds.pre (h : Holds w B (some ⟨b, off, none⟩) n c xs) {k : Nat} (hk : k ≤ n) (h0 : 0 < k) : Holds w B (some ⟨b, off, none⟩) k k (xs.take k) := by
  obtain ⟨b1, off1, e, hb, hc⟩ := h.cells (by omega)
  injection e with e
  injection e with e1 e2
  subst e1 e2
  have hl := h.len
  refine ⟨by simp; omega, Nat.le_refl _, by have := h.room; omega, h.byte.take k, fun hA => (by cases hA), fun _ => ⟨b, off, rfl, hb, fun i hi => ?_⟩⟩
  rw [hc i (by omega)]
  simp [List.getD_eq_getElem?_getD, hi]
end
set_option maxRecDepth 100000 in
set_option maxHeartbeats 2000000 in
theorem signature_any (w : World) (A : Option Addr) (n c : Nat) (ks : List Int) (hn : n ≤ 140737488355100) (h : Holds w w.heap.size A n c ks) (b off n2 c2 : Nat) (ms : List Int) (h64 : 64 ≤ n2) (hn2 : n2 ≤ 140737488355100)
    (h2 : Holds w w.heap.size (some ⟨b, off, none⟩) n2 c2 ms) (hK : KTab w) :
    Calls Tryd.prog 44 #[.slice A n c, .slice (some ⟨b, off, none⟩) n2 c2] w fun e w' => e = .returned (.agg ((sigL ks ms).map (Value.int .u8)).toArray) ∧ Below w.heap.size w w' := by
  obtain ⟨Z, hZ⟩ : ∃ Z : List Int, Z = List.replicate 16 0 := ⟨_, rfl⟩
  have HZ := len0 16
  have hz1 := zero_g
  have hz2 := built_g
  have hZb := Bytes.zeros 16
  have hbl : blankL ms = ms.take 48 ++ List.replicate 16 0 ++ ms.drop 64 := rfl
  rw [← hZ] at HZ hz1 hz2 hZb hbl
  have HZ1 := Lib.hid hz1
  have HZ2 := Lib.hid hz2
  have cc := fun w => Lib.hid (cut_any w b off n2 c2 ms h64 h2.fit (by omega))
  unfold CutPostM at cc
  have cm := fun w A3 g5 h gs hP hK => macOf_any w A n c ks (by omega) h gs 3 (partA [(some ⟨b, off, none⟩, 48, 48, ms.take 48), (some ⟨g5, 0, none⟩, 16, 16, Z), (A3, n2 - 64, n2 - 64, ms.drop 64)]) (partN [(some ⟨b, off, none⟩, 48, 48, ms.take 48), (some ⟨g5, 0, none⟩, 16, 16, Z), (A3, n2 - 64, n2 - 64, ms.drop 64)])
    (partC [(some ⟨b, off, none⟩, 48, 48, ms.take 48), (some ⟨g5, 0, none⟩, 16, 16, Z), (A3, n2 - 64, n2 - 64, ms.drop 64)]) (partX [(some ⟨b, off, none⟩, 48, 48, ms.take 48), (some ⟨g5, 0, none⟩, 16, 16, Z), (A3, n2 - 64, n2 - 64, ms.drop 64)]) hP (by omega) (show 0 + 48 + 16 + (n2 - 64) ≤ _ by omega) hK
  have hcx : ∀ (g5 : Nat) (A3 : Option Addr), catL (partX [(some ⟨b, off, none⟩, 48, 48, ms.take 48), (some ⟨g5, 0, none⟩, 16, 16, Z), (A3, n2 - 64, n2 - 64, ms.drop 64)]) 3 = blankL ms := fun _ _ => by rw [hbl]; rfl
  simp only [hcx] at cm
  have hml := macL_len ks (blankL ms)
  have hde : sigL ks ms = (macL ks (blankL ms)).take 16 := rfl
  obtain ⟨M, hM⟩ : ∃ M, M = macL ks (blankL ms) := ⟨_, rfl⟩
  rw [← hM] at hml hde
  simp only [← hM] at cm
  have CM := fun w A3 g5 h gs hP hK => Lib.hid (cm w A3 g5 h gs hP hK)
  have csh := fun w => Lib.hid (short_any w M hml)
  have HR : Hid ((M.take 16).length = 16) := len16 M hml
  obtain ⟨R, hR⟩ : ∃ R, R = M.take 16 := ⟨_, rfl⟩
  rw [hde, ← hR]
  rw [← hR] at csh HR
  have HH := Lib.hid h
  have HH2 := Lib.hid h2
  have HT := Lib.hid hK
  obtain ⟨q, hq⟩ : ∃ q, q = n2 - 64 := ⟨_, rfl⟩
  rw [← hq] at cc CM
  clear hR hz1 hz2 hZ h h2 hK cm hM hml hde hcx hbl hq
  go_enter Tryd.func44, Tryd.ntmps44
  go_wp2_with (first
    | ((with_reducible show wpList _ _ _ (⟨some 4, _, _, _, _, _⟩ :: _) _ _); refine wpList_alloc_arr rfl _ rfl .u8 Z 16 HZ1 ?_; intro g4 w4 e4 s4 A4 b4)
    | (refine wpList_build_zero rfl _ rfl .u8 Z HZ2 ?_)
    | ((with_reducible show wpList _ _ _ (⟨some 5, _, _, _, _, _⟩ :: _) _ _); refine wpList_alloc_arr rfl _ rfl .u8 Z 16 HZ1 ?_; intro g5 w5 e5 s5 A5 b5)
    | ((with_reducible show wpList _ _ _ (⟨none, .store _ (.tmp 5) _, _, _, _, _⟩ :: _) _ _); refine wpList_store_arr rfl _ (.tmp 5) (.tmp 9) rfl g5 rfl .u8 _ _ Z rfl A5 16 size_g HZ HZ ?_; intro w6 A6 o6 s6)
    | fail)
  refine (cc _).out.mono ?_
  rintro e w7 ⟨A3, rfl, rfl, hA3⟩
  have hs4 := b4.out.size
  have B6 : Hid (Below w.heap.size w w6) := (step b4.out b5.out).trans (o6.out.below (by omega))
  have A46 : Hid (Arr w6 g4 .u8 47 Z) := (A4.out.over b5.out).only o6.out (by omega)
  have H26 : Hid (Holds w6 w6.heap.size (some ⟨b, off, none⟩) n2 c2 ms) := HH2.out.over B6.out
  have H36 := Lib.hid (hA3 _ _ _ H26.out)
  have H16 := Lib.hid (H26.out.pre (k := 48) (by omega) (by omega))
  have lw4 : w.heap.size ≤ g4 := e4
  clear A4 A5 b4 b5 o6 hA3 HH2 H26 e4 s4 e5 s5
  go_wp2_with (first
    | ((with_reducible show wpList _ _ _ (⟨some 20, _, _, _, _, _⟩ :: _) _ _); refine wpList_litParts rfl 3 _ rfl [(some ⟨b, off, none⟩, 48, 48, ms.take 48), (some ⟨g5, 0, none⟩, 16, 16, Z), (A3, q, q, ms.drop 64)] rfl (by kernel_rfl) (List.forall_mem_cons.2 ⟨H16.out, List.forall_mem_cons.2 ⟨A6.out.holds (n := 16) HZ.out hZb (by omega), List.forall_mem_cons.2 ⟨H36.out, fun _ h => by cases h⟩⟩⟩) ?_; intro g8 w8 P8 b8)
    | fail)
  have B8 : Hid (Below w.heap.size w w8) := step B6.out b8.out
  refine (CM _ A3 g5 (HH.out.over B8.out) g8 P8.out (HT.out.below B8.out)).out.mono ?_
  rintro e w9 ⟨rfl, b9⟩
  have A49 : Hid (Arr w9 g4 .u8 47 Z) := (A46.out.over b8.out).over b9
  have B9 : Hid (Below w.heap.size w w9) := step B8.out b9
  clear P8 b8 b9 B8 B6 A46 A6 H36 H16 HH s6
  go_wp2_with fail
  refine (csh _).out.mono ?_
  rintro e w17 ⟨rfl, b17⟩
  have A417 : Hid (Arr w17 g4 .u8 47 Z) := A49.out.over b17
  have B17 : Hid (Below w.heap.size w w17) := step B9.out b17
  clear b17 A49 B9
  go_wp2_with (first
    | ((with_reducible show wpList _ _ _ (⟨none, .store _ (.tmp 4) _, _, _, _, _⟩ :: _) _ _); refine wpList_store_arr rfl _ (.tmp 4) (.tmp 22) rfl g4 rfl .u8 _ _ R rfl A417 16 size_g HZ HR ?_; intro w19 A19 o19 s19)
    | fail)
  refine bodyPost_ret (v := .agg (R.map (Value.int .u8)).toArray) ?_ rfl ⟨rfl, B17.out.trans (o19.out.below lw4)⟩
  exact results_cell_row rfl _ _ g4 _ _ (0, 0) _ rfl A19.out Tryd.underlying47 rfl (by rw [size_g]; have := HR.out; simp [this])
def signErr (n : Nat) : Int := if n < 64 then 2 else 0
def signO (ks ms : List Int) : List Int := if ms.length < 64 then [] else signL ks ms
/-- what the program's Sign answers: noughts behind, as far as there is room -/
def SignPostZ (w : World) (ks ms : List Int) (e : Ending) (w' : World) : Prop :=
  ∃ v, e = .returned (.tuple #[v, .int .i64 (signErr ms.length)]) ∧ OwnZ .u8 5 w' w.heap.size v (signO ks ms) ∧ Below w.heap.size w w'
set_option maxRecDepth 100000 in
set_option maxHeartbeats 2000000 in
theorem Sign_anyZ (w : World) (A : Option Addr) (n c : Nat) (ks : List Int) (hn : n ≤ 140737488355100) (h : Holds w w.heap.size A n c ks) (A2 : Option Addr) (n2 c2 : Nat) (ms : List Int) (hn2 : n2 ≤ 140737488355100) (h2 : Holds w w.heap.size A2 n2 c2 ms) (hK : KTab w) :
    Calls Tryd.prog 52 #[.slice A n c, .slice A2 n2 c2] w (SignPostZ w ks ms) := by
  have HL2 := Lib.hid h2.len
  by_cases hlt : n2 < 64
  · have hq : ∀ e w', (e = .returned (.tuple #[.slice none 0 0, .int .i64 2]) ∧ w = w') → SignPostZ w ks ms e w' := by
      rintro e w' ⟨rfl, rfl⟩
      refine ⟨.slice none 0 0, ?_, ?_, Below.refl _ _⟩
      · unfold signErr; rw [if_pos (by rw [HL2.out]; exact hlt)]
      · unfold signO; rw [if_pos (by rw [HL2.out]; exact hlt)]; exact OwnZ.nil _ _ _ _
    have HQ := Lib.hid hq
    clear hq
    go_enter Tryd.func52, Tryd.ntmps52
    go_wp2_with fail
    go_ret2
    exact HQ.out _ _ ⟨rfl, rfl⟩
  · obtain ⟨b, off, rfl, hbb, hcc⟩ := h2.cells (by omega)
    clear hbb hcc
    have hq : ∀ e w', (∃ v, e = .returned (.tuple #[v, .int .i64 0]) ∧ OwnZ .u8 5 w' w.heap.size v (ms.take 48 ++ sigL ks ms ++ ms.drop 64) ∧ Below w.heap.size w w') → SignPostZ w ks ms e w' := by
      rintro e w' ⟨v, rfl, ho, hb⟩
      refine ⟨v, ?_, ?_, hb⟩
      · unfold signErr; rw [if_neg (by rw [HL2.out]; exact hlt)]
      · unfold signO; rw [if_neg (by rw [HL2.out]; exact hlt)]; exact ho
    have HQ := Lib.hid hq
    have cg := fun w h h2 hK => Lib.hid (signature_any w A n c ks hn h b off n2 c2 ms (by omega) hn2 h2 hK)
    have HR : Hid ((sigL ks ms).length = 16) := sigL_len _ _
    have hRb := sigL_bytes ks ms
    obtain ⟨R, hR⟩ : ∃ R, R = sigL ks ms := ⟨_, rfl⟩
    rw [← hR] at cg HR hRb HQ
    have cc := fun w => Lib.hid (cut_any w b off n2 c2 ms (by omega) h2.fit (by omega))
    unfold CutPostM at cc
    have cn := fun w A3 g5 gs hP => ConcatZ_any w gs 3 (partA [(some ⟨b, off, none⟩, 48, 48, ms.take 48), (some ⟨g5, 0, none⟩, 16, 16, R), (A3, n2 - 64, n2 - 64, ms.drop 64)]) (partN [(some ⟨b, off, none⟩, 48, 48, ms.take 48), (some ⟨g5, 0, none⟩, 16, 16, R), (A3, n2 - 64, n2 - 64, ms.drop 64)])
      (partC [(some ⟨b, off, none⟩, 48, 48, ms.take 48), (some ⟨g5, 0, none⟩, 16, 16, R), (A3, n2 - 64, n2 - 64, ms.drop 64)]) (partX [(some ⟨b, off, none⟩, 48, 48, ms.take 48), (some ⟨g5, 0, none⟩, 16, 16, R), (A3, n2 - 64, n2 - 64, ms.drop 64)]) hP (by omega) (show 0 + 48 + 16 + (n2 - 64) ≤ _ by omega)
    have hcx : ∀ (g5 : Nat) (A3 : Option Addr), catL (partX [(some ⟨b, off, none⟩, 48, 48, ms.take 48), (some ⟨g5, 0, none⟩, 16, 16, R), (A3, n2 - 64, n2 - 64, ms.drop 64)]) 3 = ms.take 48 ++ R ++ ms.drop 64 := fun _ _ => rfl
    simp only [hcx] at cn
    obtain ⟨F, hF⟩ : ∃ F, F = ms.take 48 ++ R ++ ms.drop 64 := ⟨_, rfl⟩
    simp only [← hF] at cn
    rw [← hF] at HQ
    have CN := fun w A3 g5 gs hP => Lib.hid (cn w A3 g5 gs hP)
    have HH := Lib.hid h
    have HH2 := Lib.hid h2
    have HT := Lib.hid hK
    obtain ⟨Z, hZ⟩ : ∃ Z : List Int, Z = List.replicate 16 0 := ⟨_, rfl⟩
    have HZ := len0 16
    have hz1 := zero_g
    rw [← hZ] at HZ hz1
    have HZ1 := Lib.hid hz1
    obtain ⟨q, hq'⟩ : ∃ q, q = n2 - 64 := ⟨_, rfl⟩
    rw [← hq'] at cc CN
    have hge : (64 : Int) ≤ (n2 : Int) := by omega
    clear hq hR hcx cn hF h h2 hK hZ hz1 hq'
    go_enter Tryd.func52, Tryd.ntmps52
    go_wp2_with fail
    refine (cc _).out.mono ?_
    rintro e w7 ⟨A3, rfl, rfl, hA3⟩
    go_wp2_with fail
    refine (cg _ HH.out HH2.out HT.out).out.mono ?_
    rintro e w1 ⟨rfl, b1⟩
    have B1 := Lib.hid b1
    clear b1
    go_wp2_with (first
      | ((with_reducible show wpList _ _ _ (⟨some 9, _, _, _, _, _⟩ :: _) _ _); refine wpList_alloc_arr rfl _ rfl .u8 Z 16 HZ1 ?_; intro g5 w5 e5 s5 A5 b5)
      | ((with_reducible show wpList _ _ _ (⟨none, .store _ (.tmp 9) _, _, _, _, _⟩ :: _) _ _); refine wpList_store_arr rfl _ (.tmp 9) (.tmp 21) rfl g5 rfl .u8 _ _ R rfl A5 16 size_g HZ HR ?_; intro w6 A6 o6 s6; have hs1 := B1.out.size; have B6 : Hid (Below w.heap.size w w6) := (step B1.out b5.out).trans (o6.out.below (by omega)); have H26 : Hid (Holds w6 w6.heap.size (some ⟨b, off, none⟩) n2 c2 ms) := HH2.out.over B6.out; have H36 := Lib.hid (hA3 _ _ _ H26.out); have H16 := Lib.hid (H26.out.pre (k := 48) (by omega) (by omega)))
      | ((with_reducible show wpList _ _ _ (⟨some 25, _, _, _, _, _⟩ :: _) _ _); refine wpList_litParts rfl 3 _ rfl [(some ⟨b, off, none⟩, 48, 48, ms.take 48), (some ⟨g5, 0, none⟩, 16, 16, R), (A3, q, q, ms.drop 64)] rfl (by kernel_rfl) (List.forall_mem_cons.2 ⟨H16.out, List.forall_mem_cons.2 ⟨A6.out.holds (n := 16) HR.out hRb (by omega), List.forall_mem_cons.2 ⟨H36.out, fun _ h => by cases h⟩⟩⟩) ?_; intro g8 w8 P8 b8)
      | fail)
    have B8 : Hid (Below w.heap.size w w8) := step B6.out b8.out
    refine (CN _ A3 g5 g8 P8.out).out.mono ?_
    rintro e w9 ⟨v9, rfl, o9, b9⟩
    have O9 := Lib.hid (o9.mono B8.out.size)
    have B9 : Hid (Below w.heap.size w w9) := step B8.out b9
    clear o9 b9 P8 b8 B8
    go_wp2_with fail
    go_ret2
    exact HQ.out _ _ ⟨_, rfl, O9.out, B9.out⟩
end Go.Proofs.YtgfflnjggnadpaaDoor

namespace Go.Proofs.YtgfflnjggnadpaaDoor
set_option linter.all false
set_option maxRecDepth 100000
open Go.RowKit
set_option linter.unusedVariables false
/-- what is behind the first 64 bytes, as the walk spells it -/
theorem Holds.tail64 {w : World} {B b off n c : Nat} {xs : List Int} (h : Holds w B (some ⟨b, off, none⟩) n c xs) (h64 : 64 ≤ n) (hc : ¬ c = 64) : Holds w B (some ⟨b, off + 64, none⟩) (n - 64) (c - 64) (xs.drop 64) := by
  have hl := h.len
  have hf := h.fit
  have hr := h.room
  refine ⟨by simp; omega, by omega, by omega, h.byte.drop _, (fun hA => by cases hA), fun h0 => ?_⟩
  obtain ⟨b1, off1, e, hb, hcl⟩ := h.cells (by omega)
  injection e with e
  injection e with e1 e2
  subst e1 e2
  refine ⟨b, off + 64, rfl, hb, fun i hi => ?_⟩
  rw [Nat.add_assoc, hcl (64 + i) (by omega)]
  simp [List.getD_eq_getElem?_getD]
def partOut (ks : List Int) (h : Hd) (ms : List Int) : List Int := if ks = [] then putH h ++ ms.drop 64 else signL ks (putH (flH h (flS h.fl)) ++ ms.drop 64)
def PartCPost (w : World) (ks : List Int) (h : Hd) (ms : List Int) (e : Ending) (w' : World) : Prop := ∃ v, e = .returned v ∧ OwnZ .u8 5 w' w.heap.size v (partOut ks h ms) ∧ Below w.heap.size w w'
set_option maxHeartbeats 4000000 in
theorem partC_any (w : World) (Ak : Option Addr) (nk ck : Nat) (ks : List Int) (hk : Holds w w.heap.size Ak nk ck ks) (hkn : nk ≤ 140737488355100) (h : Hd) (k : h.ok) (hm : mayP h = true) (Am : Option Addr) (nm cm : Nat) (ms : List Int)
    (hms : Holds w w.heap.size Am nm cm ms) (h64 : 64 ≤ nm) (hnm : nm ≤ 4294967400) (hK : KTab w) :
    Calls Tryd.prog 38 #[.slice Ak nk ck, hv h, .slice Am nm cm] w (PartCPost w ks h ms) := by
  obtain ⟨b, off, rfl, hbb, _⟩ := hms.cells (by omega)
  have hfc := hms.fit
  have HL := Lib.hid (hcells_len k)
  have HO := Lib.hid (hcells_one h)
  have HKL := Lib.hid hk.len
  have HML := Lib.hid hms.len
  have HTL : Hid ((ms.drop 64).length = nm - 64) := by show _ = _; rw [List.length_drop, HML.out]
  have HTB := Lib.hid (hms.byte.drop 64)
  have hml64 : 64 ≤ ms.length := by rw [HML.out]; exact h64
  have hge : (64 : Int) ≤ (nm : Int) := by omega
  by_cases h0 : nk = 0
  · subst h0
    have hke : ks = [] := List.eq_nil_of_length_eq_zero HKL.out
    have HQ : Hid (∀ e w', (∃ v, e = .returned v ∧ OwnZ .u8 5 w' w.heap.size v (putH h ++ ms.drop 64) ∧ Below w.heap.size w w') → PartCPost w ks h ms e w') := by
      intro e w' hh
      unfold PartCPost partOut
      rw [if_pos hke]
      exact hh
    have CP : Hid (∀ w : World, Calls Tryd.prog 50 #[hv h] w fun e w' => ∃ A', e = .returned (.tuple #[.slice A' 64 64, .int .i64 0]) ∧ Fresh w' w.heap.size A' (putH h) ∧ Below w.heap.size w w') := fun w => put_may w h k hm
    have HPL : Hid ((putH h).length = 64) := putH_len k.len
    have HPB := Lib.hid (putH_bytes k.byte)
    have HMS := Lib.hid hms
    obtain ⟨cs, hcs⟩ : ∃ cs, cs = hcells h := ⟨_, rfl⟩
    obtain ⟨us, hus⟩ : ∃ us, us = putH h := ⟨_, rfl⟩
    unfold hv at CP ⊢
    rw [← hcs] at CP HL HO ⊢
    rw [← hus] at CP HPL HPB HQ
    clear hke hk hms hcs hus HKL
    by_cases hc : cm = 64
    · obtain rfl : nm = 64 := by omega
      subst hc
      have hX : Hid (∀ (w : World), Holds w w.heap.size (some ⟨b, off, none⟩) 64 64 ms → Holds w w.heap.size (some ⟨b, off, none⟩) 0 0 (ms.drop 64)) := fun w _ => by
        rw [List.drop_of_length_le (by rw [HML.out]; omega)]
        exact Holds.empty _ _ _ _ (fun h => by cases h)
      obtain ⟨ts, hts⟩ : ∃ ts, ts = ms.drop 64 := ⟨_, rfl⟩
      rw [← hts] at hX HQ HTL HTB
      have CC := fun (w : World) A2 gs hP => Lib.hid (ConcatZ_any w gs 2 (partA [(A2, 64, 64, us), (some ⟨b, off, none⟩, 0, 0, ts)]) (partN [(A2, 64, 64, us), (some ⟨b, off, none⟩, 0, 0, ts)]) (partC [(A2, 64, 64, us), (some ⟨b, off, none⟩, 0, 0, ts)]) (partX [(A2, 64, 64, us), (some ⟨b, off, none⟩, 0, 0, ts)]) hP (by omega) (show 0 + 64 + (0) ≤ _ by omega))
      have hcx : ∀ A2 : Option Addr, catL (partX [(A2, 64, 64, us), (some ⟨b, off, none⟩, 0, 0, ts)]) 2 = us ++ ts := fun _ => rfl
      simp only [hcx] at CC
      clear hts hcx
      go_enter Tryd.func38, Tryd.ntmps38
      go_wp2_with (first
        | ((with_reducible show wpList _ _ _ (⟨some 4, _, _, _, _, _⟩ :: _) _ _); refine wpList_box_blk rfl _ (.tmp 1) rfl cs rfl ?_; intro g w1 hg1 hg2 B1 L1)
        | ((with_reducible show wpList _ _ _ (⟨some 20, _, _, _, _, _⟩ :: _) _ _); refine wpList_load_blk rfl _ (.tmp 4) rfl g rfl _ cs B1 26 _ Tryd.underlying49 rfl size_hd HL ?_)
        | fail)
      refine (CP.out _).mono ?_
      rintro e w2 ⟨A2, rfl, hf, L2⟩
      have L12 := Lib.hid (step L1.out L2)
      have P2 := Lib.hid (hf.holds HPL.out HPB.out (by omega : 64 ≤ 281474976710656))
      have T2 := Lib.hid (hX.out _ (HMS.out.over L12.out))
      clear hf L1 L2 B1
      go_wp2_with (first
        | ((with_reducible show wpList _ _ _ (⟨some 27, _, _, _, _, _⟩ :: _) _ _); refine wpList_litParts rfl 2 _ rfl [(A2, 64, 64, us), (some ⟨b, off, none⟩, 0, 0, ts)] rfl (by kernel_rfl) (List.forall_mem_cons.2 ⟨P2.out, List.forall_mem_cons.2 ⟨T2.out, fun _ h => by cases h⟩⟩) ?_; intro g8 w8 P8 b8)
        | fail)
      have L18 := Lib.hid (step L12.out b8.out)
      refine (CC _ A2 g8 P8.out).out.mono ?_
      rintro e w9 ⟨v9, rfl, o9, b9⟩
      have L19 := Lib.hid (step L18.out b9)
      have O9 := Lib.hid (o9.mono L18.out.size)
      clear o9 b9 P8 b8 P2 T2
      go_wp2_with fail
      go_ret
      exact HQ.out _ _ ⟨_, rfl, O9.out, L19.out⟩
    · have hX : Hid (∀ (w : World), Holds w w.heap.size (some ⟨b, off, none⟩) nm cm ms → Holds w w.heap.size (some ⟨b, off + 64, none⟩) (nm - 64) (cm - 64) (ms.drop 64)) := fun w hh => hh.tail64 h64 hc
      have hc3 : ¬ cm - 64 = 0 := by omega
      obtain ⟨ts, hts⟩ : ∃ ts, ts = ms.drop 64 := ⟨_, rfl⟩
      rw [← hts] at hX HQ HTL HTB
      have CC := fun (w : World) A2 gs hP => Lib.hid (ConcatZ_any w gs 2 (partA [(A2, 64, 64, us), (some ⟨b, off + 64, none⟩, nm - 64, cm - 64, ts)]) (partN [(A2, 64, 64, us), (some ⟨b, off + 64, none⟩, nm - 64, cm - 64, ts)]) (partC [(A2, 64, 64, us), (some ⟨b, off + 64, none⟩, nm - 64, cm - 64, ts)]) (partX [(A2, 64, 64, us), (some ⟨b, off + 64, none⟩, nm - 64, cm - 64, ts)]) hP (by omega) (show 0 + 64 + (nm - 64) ≤ _ by omega))
      have hcx : ∀ A2 : Option Addr, catL (partX [(A2, 64, 64, us), (some ⟨b, off + 64, none⟩, nm - 64, cm - 64, ts)]) 2 = us ++ ts := fun _ => rfl
      simp only [hcx] at CC
      clear hts hcx
      go_enter Tryd.func38, Tryd.ntmps38
      go_wp2_with (first
        | ((with_reducible show wpList _ _ _ (⟨some 4, _, _, _, _, _⟩ :: _) _ _); refine wpList_box_blk rfl _ (.tmp 1) rfl cs rfl ?_; intro g w1 hg1 hg2 B1 L1)
        | ((with_reducible show wpList _ _ _ (⟨some 20, _, _, _, _, _⟩ :: _) _ _); refine wpList_load_blk rfl _ (.tmp 4) rfl g rfl _ cs B1 26 _ Tryd.underlying49 rfl size_hd HL ?_)
        | fail)
      refine (CP.out _).mono ?_
      rintro e w2 ⟨A2, rfl, hf, L2⟩
      have L12 := Lib.hid (step L1.out L2)
      have P2 := Lib.hid (hf.holds HPL.out HPB.out (by omega : 64 ≤ 281474976710656))
      have T2 := Lib.hid (hX.out _ (HMS.out.over L12.out))
      clear hf L1 L2 B1
      go_wp2_with (first
        | ((with_reducible show wpList _ _ _ (⟨some 27, _, _, _, _, _⟩ :: _) _ _); refine wpList_litParts rfl 2 _ rfl [(A2, 64, 64, us), (some ⟨b, off + 64, none⟩, nm - 64, cm - 64, ts)] rfl (by kernel_rfl) (List.forall_mem_cons.2 ⟨P2.out, List.forall_mem_cons.2 ⟨T2.out, fun _ h => by cases h⟩⟩) ?_; intro g8 w8 P8 b8)
        | fail)
      have L18 := Lib.hid (step L12.out b8.out)
      refine (CC _ A2 g8 P8.out).out.mono ?_
      rintro e w9 ⟨v9, rfl, o9, b9⟩
      have L19 := Lib.hid (step L18.out b9)
      have O9 := Lib.hid (o9.mono L18.out.size)
      clear o9 b9 P8 b8 P2 T2
      go_wp2_with fail
      go_ret
      exact HQ.out _ _ ⟨_, rfl, O9.out, L19.out⟩
  · have hke : ¬ ks = [] := fun e => h0 (by have := HKL.out; rw [e] at this; exact this.symm)
    have hkp : (0 : Int) < (nk : Int) := by omega
    have HQ : Hid (∀ e w', (∃ v, e = .returned v ∧ OwnZ .u8 5 w' w.heap.size v (signL ks (putH (flH h (flS h.fl)) ++ ms.drop 64)) ∧ Below w.heap.size w w') → PartCPost w ks h ms e w') := by
      intro e w' hh
      unfold PartCPost partOut
      rw [if_neg hke]
      exact hh
    obtain ⟨q1, q2, q3⟩ := may_parts hm
    have hf := flS_small k.fl.1 q2
    have hor := or8 k.fl.1 q2
    have HF4 : Hid (∀ (w : World) (g : Nat), Blk w g 49 (hcells h) → w.cell? ⟨g, 4, none⟩ = some (.int .u32 h.fl)) := fun w g B => HB.c4 B
    obtain ⟨f0, f1⟩ := k.fl
    obtain ⟨F, hF⟩ : ∃ F, F = flS h.fl := ⟨_, rfl⟩
    have k2 : (flH h F).ok := ok_fl k (by rw [hF]; exact hf.1) (by rw [hF]; have := hf.2.1; omega)
    have m2 : mayP (flH h F) = true := by rw [hF]; exact may_fl k hm
    rw [← hF] at hor HQ
    have CP : Hid (∀ w : World, Calls Tryd.prog 50 #[hv (flH h F)] w fun e w' => ∃ A', e = .returned (.tuple #[.slice A' 64 64, .int .i64 0]) ∧ Fresh w' w.heap.size A' (putH (flH h F)) ∧ Below w.heap.size w w') := fun w => put_may w _ k2 m2
    have HPL : Hid ((putH (flH h F)).length = 64) := putH_len k2.len
    have HPB := Lib.hid (putH_bytes k2.byte)
    have HLD := Lib.hid (hcells_len k2)
    have HCD : Hid ((hcells h).set 4 (.int .u32 F) = hcells (flH h F)) := rfl
    have HL4 : Hid (4 < (hcells h).length) := by show _ < _; rw [HL.out]; omega
    have HMS := Lib.hid hms
    have HKK := Lib.hid hk
    have HT := Lib.hid hK
    obtain ⟨fl, hfl⟩ : ∃ fl, fl = h.fl := ⟨_, rfl⟩
    rw [← hfl] at hor HF4 f0 f1
    obtain ⟨cs, hcs⟩ : ∃ cs, cs = hcells h := ⟨_, rfl⟩
    obtain ⟨ds, hds⟩ : ∃ ds, ds = hcells (flH h F) := ⟨_, rfl⟩
    obtain ⟨us, hus⟩ : ∃ us, us = putH (flH h F) := ⟨_, rfl⟩
    unfold hv at CP ⊢
    rw [← hds] at CP HLD HCD
    rw [← hcs] at HL HO HL4 HF4 HCD ⊢
    rw [← hus] at CP HPL HPB HQ
    clear hke hk hms hcs hus hds hF hfl hf q1 q2 q3 k2 m2 h0 hK
    by_cases hc : cm = 64
    · obtain rfl : nm = 64 := by omega
      subst hc
      have hX : Hid (∀ (w : World), Holds w w.heap.size (some ⟨b, off, none⟩) 64 64 ms → Holds w w.heap.size (some ⟨b, off, none⟩) 0 0 (ms.drop 64)) := fun w _ => by
        rw [List.drop_of_length_le (by rw [HML.out]; omega)]
        exact Holds.empty _ _ _ _ (fun h => by cases h)
      obtain ⟨ts, hts⟩ : ∃ ts, ts = ms.drop 64 := ⟨_, rfl⟩
      rw [← hts] at hX HQ HTL HTB
      have CC := fun (w : World) A2 gs hP => Lib.hid (ConcatZ_any w gs 2 (partA [(A2, 64, 64, us), (some ⟨b, off, none⟩, 0, 0, ts)]) (partN [(A2, 64, 64, us), (some ⟨b, off, none⟩, 0, 0, ts)]) (partC [(A2, 64, 64, us), (some ⟨b, off, none⟩, 0, 0, ts)]) (partX [(A2, 64, 64, us), (some ⟨b, off, none⟩, 0, 0, ts)]) hP (by omega) (show 0 + 64 + (0) ≤ _ by omega))
      have hcx : ∀ A2 : Option Addr, catL (partX [(A2, 64, 64, us), (some ⟨b, off, none⟩, 0, 0, ts)]) 2 = us ++ ts := fun _ => rfl
      simp only [hcx] at CC
      have HZL : Hid ((us ++ ts).length = 64) := by show _ = _; rw [List.length_append]; have h1 := HPL.out; have h2 := HTL.out; omega
      have HZB := Lib.hid (HPB.out.append HTB.out)
      obtain ⟨zs, hzs⟩ : ∃ zs, zs = us ++ ts := ⟨_, rfl⟩
      rw [← hzs] at HQ HZL HZB
      simp only [← hzs] at CC
      have CS := fun (w : World) h A2 c2 h2 hT => Sign_anyZ w Ak nk ck ks hkn h A2 64 c2 zs (by omega) h2 hT
      unfold SignPostZ signO signErr at CS
      simp only [HZL.out, if_neg (show ¬ 64 < 64 by omega)] at CS
      obtain ⟨ss, hss⟩ : ∃ ss, ss = signL ks zs := ⟨_, rfl⟩
      rw [← hss] at CS HQ
      clear hss hzs
      clear hts hcx
      go_enter Tryd.func38, Tryd.ntmps38
      go_wp2_with (first
        | ((with_reducible show wpList _ _ _ (⟨some 4, _, _, _, _, _⟩ :: _) _ _); refine wpList_box_blk rfl _ (.tmp 1) rfl cs rfl ?_; intro g w1 hg1 hg2 B1 L1; have gc := HF4.out _ _ B1.out)
        | ((with_reducible show wpList _ _ _ (⟨none, .store _ (.tmp 18) _, _, _, _, _⟩ :: _) _ _); refine wpList_store_fld rfl _ (.tmp 18) (.tmp 17) rfl g 4 rfl _ cs (.int .u32 F) rfl B1 HL4 rfl rfl ?_; intro w1b B1b O1b hg3; clear gc; rw [HCD.out] at B1b)
        | ((with_reducible show wpList _ _ _ (⟨some 20, _, _, _, _, _⟩ :: _) _ _); refine wpList_load_blk rfl _ (.tmp 4) rfl g rfl _ ds B1b 26 _ Tryd.underlying49 rfl size_hd HLD ?_)
        | fail)
      refine (CP.out _).mono ?_
      rintro e w2 ⟨A2, rfl, hf, L2⟩
      have L12 := Lib.hid (step (below_only L1.out O1b.out hg1) L2)
      have P2 := Lib.hid (hf.holds HPL.out HPB.out (by omega : 64 ≤ 281474976710656))
      have T2 := Lib.hid (hX.out _ (HMS.out.over L12.out))
      clear hf L1 L2 B1
      go_wp2_with (first
        | ((with_reducible show wpList _ _ _ (⟨some 27, _, _, _, _, _⟩ :: _) _ _); refine wpList_litParts rfl 2 _ rfl [(A2, 64, 64, us), (some ⟨b, off, none⟩, 0, 0, ts)] rfl (by kernel_rfl) (List.forall_mem_cons.2 ⟨P2.out, List.forall_mem_cons.2 ⟨T2.out, fun _ h => by cases h⟩⟩) ?_; intro g8 w8 P8 b8)
        | fail)
      have L18 := Lib.hid (step L12.out b8.out)
      refine (CC _ A2 g8 P8.out).out.mono ?_
      rintro e w9 ⟨v9, rfl, o9, b9⟩
      have L19 := Lib.hid (step L18.out b9)
      obtain ⟨A9, c9, rfl, h9⟩ := Own.holds (show Own _ _ _ _ from o9.own) HZB.out (by rw [HZL.out]; omega)
      rw [HZL.out] at h9 ⊢
      have H9 := Lib.hid h9
      clear o9 b9 P8 b8 P2 T2 h9 L18 L12
      go_wp2_with fail
      refine (CS _ (HKK.out.over L19.out) _ _ H9.out (HT.out.below L19.out)).mono ?_
      rintro e w10 ⟨v10, rfl, o10, b10⟩
      have O10 := Lib.hid (o10.mono L19.out.size)
      have L20 := Lib.hid (step L19.out b10)
      clear o10 b10 H9 CS CC CP
      go_wp2_with fail
      go_ret
      exact HQ.out _ _ ⟨_, rfl, O10.out, L20.out⟩
    · have hX : Hid (∀ (w : World), Holds w w.heap.size (some ⟨b, off, none⟩) nm cm ms → Holds w w.heap.size (some ⟨b, off + 64, none⟩) (nm - 64) (cm - 64) (ms.drop 64)) := fun w hh => hh.tail64 h64 hc
      have hc3 : ¬ cm - 64 = 0 := by omega
      obtain ⟨ts, hts⟩ : ∃ ts, ts = ms.drop 64 := ⟨_, rfl⟩
      rw [← hts] at hX HQ HTL HTB
      have CC := fun (w : World) A2 gs hP => Lib.hid (ConcatZ_any w gs 2 (partA [(A2, 64, 64, us), (some ⟨b, off + 64, none⟩, nm - 64, cm - 64, ts)]) (partN [(A2, 64, 64, us), (some ⟨b, off + 64, none⟩, nm - 64, cm - 64, ts)]) (partC [(A2, 64, 64, us), (some ⟨b, off + 64, none⟩, nm - 64, cm - 64, ts)]) (partX [(A2, 64, 64, us), (some ⟨b, off + 64, none⟩, nm - 64, cm - 64, ts)]) hP (by omega) (show 0 + 64 + (nm - 64) ≤ _ by omega))
      have hcx : ∀ A2 : Option Addr, catL (partX [(A2, 64, 64, us), (some ⟨b, off + 64, none⟩, nm - 64, cm - 64, ts)]) 2 = us ++ ts := fun _ => rfl
      simp only [hcx] at CC
      have HZL : Hid ((us ++ ts).length = nm) := by show _ = _; rw [List.length_append]; have h1 := HPL.out; have h2 := HTL.out; omega
      have HZB := Lib.hid (HPB.out.append HTB.out)
      obtain ⟨zs, hzs⟩ : ∃ zs, zs = us ++ ts := ⟨_, rfl⟩
      rw [← hzs] at HQ HZL HZB
      simp only [← hzs] at CC
      have CS := fun (w : World) h A2 c2 h2 hT => Sign_anyZ w Ak nk ck ks hkn h A2 nm c2 zs (by omega) h2 hT
      unfold SignPostZ signO signErr at CS
      simp only [HZL.out, if_neg (show ¬ nm < 64 by omega)] at CS
      obtain ⟨ss, hss⟩ : ∃ ss, ss = signL ks zs := ⟨_, rfl⟩
      rw [← hss] at CS HQ
      clear hss hzs
      clear hts hcx
      go_enter Tryd.func38, Tryd.ntmps38
      go_wp2_with (first
        | ((with_reducible show wpList _ _ _ (⟨some 4, _, _, _, _, _⟩ :: _) _ _); refine wpList_box_blk rfl _ (.tmp 1) rfl cs rfl ?_; intro g w1 hg1 hg2 B1 L1; have gc := HF4.out _ _ B1.out)
        | ((with_reducible show wpList _ _ _ (⟨none, .store _ (.tmp 18) _, _, _, _, _⟩ :: _) _ _); refine wpList_store_fld rfl _ (.tmp 18) (.tmp 17) rfl g 4 rfl _ cs (.int .u32 F) rfl B1 HL4 rfl rfl ?_; intro w1b B1b O1b hg3; clear gc; rw [HCD.out] at B1b)
        | ((with_reducible show wpList _ _ _ (⟨some 20, _, _, _, _, _⟩ :: _) _ _); refine wpList_load_blk rfl _ (.tmp 4) rfl g rfl _ ds B1b 26 _ Tryd.underlying49 rfl size_hd HLD ?_)
        | fail)
      refine (CP.out _).mono ?_
      rintro e w2 ⟨A2, rfl, hf, L2⟩
      have L12 := Lib.hid (step (below_only L1.out O1b.out hg1) L2)
      have P2 := Lib.hid (hf.holds HPL.out HPB.out (by omega : 64 ≤ 281474976710656))
      have T2 := Lib.hid (hX.out _ (HMS.out.over L12.out))
      clear hf L1 L2 B1
      go_wp2_with (first
        | ((with_reducible show wpList _ _ _ (⟨some 27, _, _, _, _, _⟩ :: _) _ _); refine wpList_litParts rfl 2 _ rfl [(A2, 64, 64, us), (some ⟨b, off + 64, none⟩, nm - 64, cm - 64, ts)] rfl (by kernel_rfl) (List.forall_mem_cons.2 ⟨P2.out, List.forall_mem_cons.2 ⟨T2.out, fun _ h => by cases h⟩⟩) ?_; intro g8 w8 P8 b8)
        | fail)
      have L18 := Lib.hid (step L12.out b8.out)
      refine (CC _ A2 g8 P8.out).out.mono ?_
      rintro e w9 ⟨v9, rfl, o9, b9⟩
      have L19 := Lib.hid (step L18.out b9)
      obtain ⟨A9, c9, rfl, h9⟩ := Own.holds (show Own _ _ _ _ from o9.own) HZB.out (by rw [HZL.out]; omega)
      rw [HZL.out] at h9 ⊢
      have H9 := Lib.hid h9
      clear o9 b9 P8 b8 P2 T2 h9 L18 L12
      go_wp2_with fail
      refine (CS _ (HKK.out.over L19.out) _ _ H9.out (HT.out.below L19.out)).mono ?_
      rintro e w10 ⟨v10, rfl, o10, b10⟩
      have O10 := Lib.hid (o10.mono L19.out.size)
      have L20 := Lib.hid (step L19.out b10)
      clear o10 b10 H9 CS CC CP
      go_wp2_with fail
      go_ret
      exact HQ.out _ _ ⟨_, rfl, O10.out, L20.out⟩
end Go.Proofs.YtgfflnjggnadpaaDoor

namespace Go.Proofs.YtgfflnjggnadpaaDoor
set_option linter.all false
set_option maxRecDepth 100000
open Go.RowKit
set_option linter.unusedVariables false
theorem partOut_seal (ks : List Int) (last : Bool) {m : List Int} (hb : Bytes m) (h : msgOk m = true) (hs : padLen m.length ≤ 4294967295) :
    partOut ks (nxH (getOfH m 0) (if last = true then 0 else ((padLen m.length : Nat) : Int))) (if last = true then m else padOf m) = sealC ks last m := by
  have h1 := (part_put ks last hb h hs).2.2
  unfold partOut sealC
  by_cases he : ks = []
  · rw [if_pos he] at h1
    rw [if_pos he, if_pos he, ← h1]
    unfold headC tailC
    rw [if_pos he]
  · rw [if_neg he] at h1
    rw [if_neg he, if_neg he, ← h1]
    unfold headC tailC
    rw [if_neg he]
    rfl
theorem catL_congr {X Y : Nat → List Int} {m : Nat} (h : ∀ i, i < m → X i = Y i) : catL X m = catL Y m := by
  induction m with
  | zero => rfl
  | succ m ih => simp only [catL]; rw [ih fun i hi => h i (by omega), h m (by omega)]
theorem sumN_bound {n : Nat → Nat} {B m : Nat} (h : ∀ i, i < m → n i ≤ B) : sumN n m ≤ m * B := by
  induction m with
  | zero => simp [sumN]
  | succ m ih =>
    have h1 := ih fun i hi => h i (by omega)
    have h2 := h m (by omega)
    simp only [sumN]
    rw [Nat.add_mul]
    omega
theorem Parts.of_rows {w : World} {g : Nat} {T : TypeId} {qs : List PartT} {m : Nat} (B : Blk w g T (qs.map partV)) (hm : qs.length = m) (hh : ∀ q ∈ qs, Holds w w.heap.size q.1 q.2.1 q.2.2.1 q.2.2.2) : Parts w g m (partA qs) (partN qs) (partC qs) (partX qs) := by
  subst hm
  refine ⟨B.lt, fun i hi => ?_, fun i hi => ?_⟩
  · rw [B.cell]
    simp [partA, partN, partC, List.getD_eq_getElem?_getD, hi, partV]
  · have he : qs.getD i part0 = qs[i] := by simp [List.getD_eq_getElem?_getD, hi]
    have := hh qs[i] (List.getElem_mem hi)
    unfold partA partN partC partX
    rw [he]
    exact this
/-- make([][]byte, n) -/
theorem wpList_make_rows (w : World) {ops : Array Oper} {rest : List Oper} {o : Oper} {a : Act} {Q : Exit → Act → World → Prop}
    (hg : o.guard = none) (l c : Operand) (hop : o.op = Op.makeSlice 22 l c) (n : Nat) (hl : a.eval l = .int .i64 (n : Int)) (hc : a.eval c = .int .i64 (n : Int)) (hn : n ≤ 1000000000000)
    (hK : ∀ g w', w.heap.size ≤ g → g < w'.heap.size → Hid (Blk w' g 24 (List.replicate n (.slice none 0 0))) → Hid (Below w.heap.size w w') → wpList Tryd.prog ops Q rest (a.put o.dst (.slice (some ⟨g, 0, none⟩) n n)) w') :
    wpList Tryd.prog ops Q (o :: rest) a w := by
  obtain ⟨i0, hi0, hz0, hz1, hz2⟩ := info_parts info_bytes
  have hrun := run_make (P := Tryd.prog) w 22 24 i0 _ Tryd.underlying22 hi0 hz0 .i64 .i64 n n (by omega) (Int.le_refl _) (by rw [hz2]; omega) (by omega)
  have hcells : madeCells (Value.slice none 0 0).cells (n * i0.size) = (List.replicate n (Value.slice none 0 0)).toArray := by
    rw [hz1, Nat.mul_one]
    apply Array.toList_inj.1
    rw [show (Value.slice none 0 0).cells = #[Value.slice none 0 0] from rfl, toList_madeCells_one]
  simp only [Int.toNat_natCast, hcells] at hrun
  refine wpList_plain hg fun K hK' => ?_
  unfold Oper.wp
  simp [execOp, hop, hl, hc, hrun, Result.andThen]
  exact hK' _ _ (hK w.heap.size _ (Nat.le_refl _) (by simp) (Blk.new w 24 _) ((Below.refl _ _).alloc (Nat.le_refl _) _))
/-- a head out of a row of them -/
theorem wpList_load_hd {ops : Array Oper} {rest : List Oper} {o : Oper} {a : Act} {w : World} {Q : Exit → Act → World → Prop} (hg : o.guard = none) (x : Operand) (ho : o.op = .load 49 x)
    (b i : Nat) (hx : a.eval x = .pointer (some ⟨b, i, none⟩)) (cs : List Value) (hc : Hid (w.rangeAt b i cs)) (hn : Hid (cs.length = 26))
    (h : wpList Tryd.prog ops Q rest (a.put o.dst (.agg cs.toArray)) w) : wpList Tryd.prog ops Q (o :: rest) a w :=
  wpList_load_mid hg _ x ho b i hx cs _ hc.out Tryd.underlying49 rfl (by rw [size_hd, hn.out]) h
theorem Holds.onlyNe {w w' : World} {B g n c : Nat} {A : Option Addr} {xs : List Int} (h : Holds w B A n c xs) (hO : Only g w w') (hne : ∀ a, A = some a → a.block ≠ g) : Holds w' B A n c xs :=
  ⟨h.len, h.fit, h.room, h.byte, h.bare, fun hn => by
    obtain ⟨b, off, e, hb, hc⟩ := h.cells hn
    refine ⟨b, off, e, hb, fun i hi => ?_⟩
    rw [← hc i hi]
    exact World.cell?_of_block (hO.rest b (hne _ e))⟩
theorem own_part {w : World} {base : Nat} {v : Value} {xs : List Int} (ho : OwnZ .u8 5 w base v xs) (hx : Bytes xs) (h0 : 0 < xs.length) (hl : xs.length ≤ 281474976710656) :
    ∃ g c, v = .slice (some ⟨g, 0, none⟩) xs.length c ∧ base ≤ g ∧ Holds w w.heap.size (some ⟨g, 0, none⟩) xs.length c xs := by
  obtain ⟨A, n, c, rfl, hn, _, _, _, hc⟩ := ho.own.open
  obtain ⟨g, rfl, hg, _⟩ := hc (by omega)
  obtain ⟨A1, c1, e, hh⟩ := Own.holds (show Own w base _ xs from ho.own) hx hl
  injection e with e1 e2 e3
  subst e1 e2 e3
  exact ⟨g, c, rfl, hg, hh⟩
/-- what Seal answers -/
def SealPost (w : World) (ks : List Int) (L : List (List Int)) (e : Ending) (w' : World) : Prop := ∃ v, e = .returned (.tuple #[v, .int .i64 (chainErr L)]) ∧ OwnZ .u8 5 w' w.heap.size v (sealOf ks L) ∧ Below w.heap.size w w'
theorem rows_snoc {qs : List PartT} {F : Nat → List Int} {k : Nat} (h : rowsL qs = (List.range k).map F) (q : PartT) (hq : q.2.2.2 = F k) : rowsL (qs ++ [q]) = (List.range (k + 1)).map F := by
  rw [rowsL, List.map_append, List.range_succ, List.map_append]
  have : rowsL qs = qs.map (·.2.2.2) := rfl
  rw [← this, h]
  simp [hq]
theorem set_mid {α : Type} (xs : List α) (z v : α) (k m : Nat) (hk : xs.length = k) : (xs ++ List.replicate (m + 1) z).set k v = (xs ++ [v]) ++ List.replicate m z := by
  subst hk
  rw [List.set_append_right _ _ (Nat.le_refl _), Nat.sub_self, List.replicate_succ, List.set_cons_zero, List.append_assoc]
  rfl
set_option maxHeartbeats 8000000 in
theorem Seal_any (w : World) (Ak : Option Addr) (nk ck : Nat) (ks : List Int) (hk : Holds w w.heap.size Ak nk ck ks) (hkn : nk ≤ 140737488355100) (A : Option Addr) (n c : Nat) (ps : List PartT) (h : Lst w w.heap.size A n c ps) (hn : n ≤ 1048576) (hs : ∀ p ∈ ps, p.2.1 ≤ 4294967000) (hK : KTab w) :
    Calls Tryd.prog 23 #[.slice Ak nk ck, .slice A n c] w (SealPost w ks (rowsL ps)) := by
  have hl : (rowsL ps).length = n := by rw [rowsL, List.length_map]; exact h.row.len
  have HLn := Lib.hid hl
  have CH := headsOf_any w A n c ps h hn
  unfold HeadsPost at CH
  by_cases he : chainErr (rowsL ps) = 0
  · obtain ⟨hnil, h8, hall⟩ := chainErr_ok he
    rw [hl] at h8
    have hn0 : 0 < n := by
      rcases Nat.eq_zero_or_pos n with h0 | h0
      · exact absurd (List.eq_nil_of_length_eq_zero (hl.trans h0)) hnil
      · exact h0
    have hbytes : ∀ m ∈ rowsL ps, Bytes m ∧ m.length ≤ 4294967000 := fun m hm => by
      obtain ⟨p, hp, rfl⟩ := List.mem_map.1 hm
      have h1 := h.each p hp
      exact ⟨h1.byte, by rw [h1.len]; exact hs p hp⟩
    have HSO : Hid (sealOf ks (rowsL ps) = catL (sealX ks (rowsL ps)) n) := by show _ = _; unfold sealOf; rw [if_pos he, hl]
    have CH' : Hid (Calls Tryd.prog 36 #[.slice A n c] w fun e w' => (∃ g cs, e = .returned (.tuple #[.slice (some ⟨g, 0, none⟩) n n, .int .i64 0]) ∧ w.heap.size ≤ g ∧ Blk w' g 49 cs ∧ HdRow cs n n (fun i => getOfH ((rowsL ps).getD i []) 0)) ∧ Below w.heap.size w w') := by
      refine CH.mono ?_
      rintro e w' ⟨hh | ⟨_, g, cs, h1, h2, h3, h4⟩, hb⟩
      · exact absurd he hh.1
      · rw [hl] at h1 h4
        exact ⟨⟨g, cs, h1, h2, h3, h4⟩, hb⟩
    have HQ : Hid (∀ e w', (∃ v, e = .returned (.tuple #[v, .int .i64 0]) ∧ OwnZ .u8 5 w' w.heap.size v (catL (sealX ks (rowsL ps)) n) ∧ Below w.heap.size w w') → SealPost w ks (rowsL ps) e w') := by
      intro e w' hh
      unfold SealPost
      rw [he, HSO.out]
      exact hh
    have HH := Lib.hid h
    have HKK := Lib.hid hk
    have HT := Lib.hid hK
    have HZ := Lib.hid (hcells_len zeroHd_ok)
    have ZH := Lib.hid zero_hd
    have HALL : Hid (∀ m ∈ rowsL ps, msgOk m = true) := hall
    have HBY : Hid (∀ m ∈ rowsL ps, Bytes m ∧ m.length ≤ 4294967000) := hbytes
    have CPT : Hid (∀ (w : World) (hd : Hd) (Am : Option Addr) (nm cm : Nat) (ms : List Int), Holds w w.heap.size Ak nk ck ks → hd.ok → mayP hd = true → Holds w w.heap.size Am nm cm ms → 64 ≤ nm → nm ≤ 4294967400 → KTab w → Calls Tryd.prog 38 #[.slice Ak nk ck, hv hd, .slice Am nm cm] w (PartCPost w ks hd ms)) :=
      fun w hd Am nm cm ms h1 h2 h3 h4 h5 h6 h7 => partC_any w Ak nk ck ks h1 hkn hd h2 h3 Am nm cm ms h4 h5 h6 h7
    obtain ⟨zs, hzs⟩ : ∃ zs, zs = hcells zeroHd := ⟨_, rfl⟩
    rw [← hzs] at HZ ZH
    clear h hl hk hK he hnil hall hbytes hzs CH hs
    go_enter Tryd.func23, Tryd.ntmps23
    go_wp2_with fail
    refine CH'.out.mono ?_
    rintro e w1 ⟨⟨gh, dcs, rfl, hgh, BH1, HDR⟩, L1⟩
    have BH1' := Lib.hid BH1
    have HDR' := Lib.hid HDR
    have L1' := Lib.hid L1
    clear BH1 HDR L1 CH'
    go_wp2_with (first
      | (at_make; refine wpList_make_rows _ rfl (.tmp 21) (.tmp 21) rfl n rfl rfl (by omega) ?_; intro gp w2 hgp1 hgp2 BP2 LP2)
      | fail)
    have hgne : Hid (gh ≠ gp) := by have := BH1'.out.lt; show _ ≠ _; omega
    have hgpw : Hid (w.heap.size ≤ gp) := Nat.le_trans L1'.out.size hgp1
    have L2 := Lib.hid (step L1'.out LP2.out)
    have BH2 := Lib.hid (BH1'.out.over LP2.out)
    clear L1' BH1' LP2 hgp2
    go_loopw [25] (fun i wr => ∃ k : Nat, k ≤ n ∧ i = .int .i64 k ∧ (∃ qs : List PartT, Hid (qs.length = k) ∧ Hid (Blk wr gp 24 (qs.map partV ++ List.replicate (n - k) (.slice none 0 0))) ∧ Hid (∀ q ∈ qs, Holds wr wr.heap.size q.1 q.2.1 q.2.2.1 q.2.2.2 ∧ q.2.1 ≤ 4294967400 ∧ q.1.isSome = true ∧ (∀ a, q.1 = some a → gp < a.block)) ∧ Hid (rowsL qs = (List.range k).map (sealX ks (rowsL ps)))) ∧ Hid (Blk wr gh 49 dcs) ∧ Hid (Below w.heap.size w wr)) (fun i _ => n - (intOf i).toNat)
    case atStart => exact ⟨0, by omega, rfl, ⟨[], rfl, by simpa using BP2, (fun q hq => by cases hq), rfl⟩, BH2, L2⟩
    case round =>
      obtain ⟨k, hkn', rfl, ⟨qs, HQL, BP, HQS, HQR⟩, BH, LW⟩ := hrel
      by_cases hlt : k < n
      · obtain ⟨bm, offm, p, rfl, hbb, hp, hcell, hhp⟩ := (HH.out.below LW.out).at hlt
        have hxk : (rowsL ps)[k]? = some p.2.2.2 := by rw [rowsL, List.getElem?_map, hp]; rfl
        have hgk : (rowsL ps).getD k [] = p.2.2.2 := by rw [List.getD_eq_getElem?_getD, hxk]; rfl
        have hmem : p.2.2.2 ∈ rowsL ps := List.mem_of_getElem? hxk
        have hmo := HALL.out _ hmem
        obtain ⟨hmb, hml⟩ := HBY.out _ hmem
        obtain ⟨h64, hput, hmay, hok, hnx0, _⟩ := msg_of hmb hmo
        have hpf := pad_facts p.2.2.2.length
        have hhl := hhp.len
        have RG : Hid (wr.rangeAt gh (k * 26) (hcells (getOfH p.2.2.2 0))) := by
          have := HDR'.out.range hlt BH.out
          rw [hgk] at this
          exact this
        have hsx : sealX ks (rowsL ps) k = sealC ks (decide (k + 1 = n)) p.2.2.2 := by
          unfold sealX
          rw [hgk, HLn.out]
        have hpo := fun last => partOut_seal ks last hmb hmo (by omega)
        have hul : 0 < (sealX ks (rowsL ps) k).length ∧ (sealX ks (rowsL ps) k).length ≤ 4294967400 := by
          rw [hsx, sealC_len ks _ hmb hmo (by omega)]
          split <;> omega
        have hub : Bytes (sealX ks (rowsL ps) k) := by rw [hsx]; exact sealC_bytes ks _ hmb hmo (by omega)
        obtain ⟨us, hus⟩ : ∃ us, us = sealX ks (rowsL ps) k := ⟨_, rfl⟩
        rw [← hus] at hul hub hsx
        have HUS := Lib.hid hus
        have HUL := Lib.hid hul
        have HUB := Lib.hid hub
        clear hus hul hub
        obtain ⟨⟨pA, pn, pc, px⟩, hpe⟩ : ∃ r, r = p := ⟨_, rfl⟩
        rw [← hpe] at hcell hhp RG hsx hpo hmb hml h64 hput hmay hok hnx0 hpf hhl
        dsimp only at hcell hhp RG hsx hpo hmb hml h64 hput hmay hok hnx0 hpf hhl
        have HP := Lib.hid (hhp.mono LW.out.size)
        have hbk : gh < wr.heap.size := BH.out.lt
        have hbp : gp < wr.heap.size := BP.out.lt
        have HHI : Hid (gh < wr.heap.size ∧ gp < wr.heap.size) := ⟨hbk, hbp⟩
        have HKR := Lib.hid (HKK.out.below LW.out |>.mono LW.out.size)
        have HTR := Lib.hid (HT.out.below LW.out)
        have hpl64 : 64 ≤ pn := by rw [← hhl]; exact h64
        have hpnb : pn ≤ 4294967000 := by rw [← hhl]; exact hml
        have hpp : padLen px.length = padLen pn := by rw [hhl]
        rw [hpp] at hpo hpf
        rw [hhl] at hpf
        have HHL := Lib.hid hhl
        obtain ⟨g0, hg0⟩ : ∃ g0, g0 = getOfH px 0 := ⟨_, rfl⟩
        rw [← hg0] at RG hpo hmay hok hnx0
        have HL := Lib.hid (hcells_len hok)
        have HO := Lib.hid (hcells_one g0)
        have HSX := Lib.hid hsx
        obtain ⟨cs, hcs⟩ : ∃ cs, cs = hcells g0 := ⟨_, rfl⟩
        rw [← hcs] at RG HL HO
        have HCS := Lib.hid hcs
        have HB0 := Lib.hid hmb
        have HBP : Hid (Blk wr gp 24 (qs.map partV ++ List.replicate (n - k - 1 + 1) (.slice none 0 0))) := by
          have := BP.out
          rw [show n - k = n - k - 1 + 1 from by omega] at this
          exact this
        have HKP : Hid (k < (qs.map partV ++ List.replicate (n - k - 1 + 1) (Value.slice none 0 0)).length) := by
          show _ < _
          rw [List.length_append, List.length_map, HQL.out, List.length_replicate]
          omega
        have HFIN : Hid (∀ (w8 : World) (g7 c7 : Nat), Blk w8 gp 24 ((qs.map partV ++ List.replicate (n - k - 1 + 1) (Value.slice none 0 0)).set k (.slice (some ⟨g7, 0, none⟩) us.length c7)) → (∀ q ∈ qs, Holds w8 w8.heap.size q.1 q.2.1 q.2.2.1 q.2.2.2) → Holds w8 w8.heap.size (some ⟨g7, 0, none⟩) us.length c7 us → gp < g7 →
            ∃ rs : List PartT, Hid (rs.length = k + 1) ∧ Hid (Blk w8 gp 24 (rs.map partV ++ List.replicate (n - (k + 1)) (.slice none 0 0))) ∧ Hid (∀ q ∈ rs, Holds w8 w8.heap.size q.1 q.2.1 q.2.2.1 q.2.2.2 ∧ q.2.1 ≤ 4294967400 ∧ q.1.isSome = true ∧ (∀ a, q.1 = some a → gp < a.block)) ∧ Hid (rowsL rs = (List.range (k + 1)).map (sealX ks (rowsL ps)))) := by
          intro w8 g7 c7 hB hq hh hg7
          refine ⟨qs ++ [(some ⟨g7, 0, none⟩, us.length, c7, us)], ?_, ?_, ?_, ?_⟩
          · show _ = _
            rw [List.length_append, HQL.out]
            rfl
          · rw [set_mid _ _ _ _ _ (by rw [List.length_map, HQL.out])] at hB
            show Blk _ _ _ _
            rw [List.map_append, show n - (k + 1) = n - k - 1 from by omega]
            exact hB
          · intro q hq'
            rcases List.mem_append.1 hq' with h1 | h1
            · have := HQS.out q h1
              exact ⟨hq q h1, this.2⟩
            · obtain rfl := List.mem_singleton.1 h1
              exact ⟨hh, HUL.out.2, rfl, fun a ha => by injection ha with ha; subst ha; exact hg7⟩
          · exact rows_snoc HQR.out _ HUS.out
        clear hhp hp hpe hmem hmo hml h64 hput hbk hbp hg0 hcs hhl hmb hxk hgk hpp HSX BP
        by_cases hla : k + 1 = n
        · have hsC : us = partOut ks g0 px := by
            have h1 := hpo true
            simp only [if_true] at h1
            have h2 : nxH g0 0 = g0 := by unfold nxH; rw [← hnx0]
            rw [hsx, decide_eq_true hla, ← h1, h2]
          have CP := fun (w : World) h1 h4 h7 => CPT.out w g0 pA pn pc px h1 hok hmay h4 hpl64 (by omega) h7
          unfold hv PartCPost at CP
          rw [← HCS.out, ← hsC] at CP
          have htst : ¬ ((k : Int) < (n : Int) - 1) := by omega
          have CPH := Lib.hid CP
          clear hsC CP hpo hpf hnx0 hok hmay hsx hla
          go_wp2_with (first
            | ((with_reducible show wpList _ _ _ (⟨some 33, _, _, _, _, _⟩ :: _) _ _); refine wpList_load_hd rfl (.tmp 32) rfl gh (k * 26) rfl cs RG HL ?_)
            | ((with_reducible show wpList _ _ _ (⟨some 11, _, _, _, _, _⟩ :: _) _ _); refine wpList_alloc_blk rfl _ rfl zs _ ZH ?_; intro g4 w5 hg41 hg42 X4 L5)
            | ((with_reducible show wpList _ _ _ (⟨none, .store _ (.tmp 11) _, _, _, _, _⟩ :: _) _ _); refine wpList_store_blk rfl _ (.tmp 11) (.tmp 33) rfl g4 rfl _ zs cs rfl X4 26 size_hd HZ HL HO ?_; intro w6 X6 O6 hg6; have L56 : Hid (Below wr.heap.size wr w6) := below_only L5.out O6.out hg41)
            | ((with_reducible show wpList _ _ _ (⟨some 48, _, _, _, _, _⟩ :: _) _ _); refine wpList_load_blk rfl _ (.tmp 11) rfl g4 rfl _ cs X6 26 _ Tryd.underlying49 rfl size_hd HL ?_)
            | fail)
          have L58 := L56
          clear L5 O6 X4
          refine (CPH.out w6 (HKR.out.over L58.out) (HP.out.over L58.out) (HTR.out.below L58.out)).mono ?_
          rintro e w9 ⟨v9, rfl, o9, b9⟩
          obtain ⟨g9, c9, rfl, hg9, h9⟩ := own_part o9 HUB.out HUL.out.1 (by have := HUL.out.2; omega)
          have H9 := Lib.hid h9
          have L59 := Lib.hid (step L58.out b9)
          have B9 := Lib.hid (HBP.out.over L59.out)
          have hgg : Hid (gp < g9) := by have h1 := L58.out.size; have h2 := HHI.out.2; show _ < _; omega
          clear o9 b9 h9 CPH
          go_wp2_with (first
            | ((with_reducible show wpList _ _ _ (⟨none, .store _ (.tmp 51) _, _, _, _, _⟩ :: _) _ _); refine wpList_store_fld rfl _ (.tmp 51) (.tmp 50) rfl gp k rfl _ _ (.slice (some ⟨g9, 0, none⟩) us.length c9) rfl B9 HKP rfl rfl ?_; intro w10 B10 O10 hg10)
            | fail)
          have hsz10 := O10.out.size
          go_roundw
          case rel =>
            refine ⟨k + 1, by omega, by go_num, HFIN.out w10 g9 c9 B10.out (fun q hq => ?_) ?_ hgg.out, (BH.out.over L59.out).only O10.out hgne.out, LW.out.trans ((L59.out.mono LW.out.size).trans (O10.out.below hgpw.out))⟩
            · have h1 := HQS.out q hq
              have h2 := (h1.1.over L59.out).onlyNe O10.out (fun a ha => by have := h1.2.2.2 a ha; omega)
              rw [hsz10]
              exact h2
            · have h2 := H9.out.onlyNe O10.out (fun a ha => by injection ha with ha; subst ha; have := hgg.out; show g9 ≠ gp; omega)
              rw [hsz10]
              exact h2
          case measure => simp [intOf]; omega
        · have hN1 : 0 ≤ ((padLen pn : Nat) : Int) ∧ ((padLen pn : Nat) : Int) ≤ 4294967295 := by omega
          have hsC : us = partOut ks (nxH g0 ((padLen pn : Nat) : Int)) (padOf px) := by
            have h1 := hpo false
            simp only [Bool.false_eq_true, if_false] at h1
            rw [hsx, decide_eq_false hla, ← h1]
          have CPAD := fun (w : World) (h : Holds w w.heap.size pA pn pc px) => Pad_any w pA pn pc px h (by omega)
          unfold PadPost at CPAD
          have hpad2 : (padOf px).length = padLen pn := by rw [padOf_len, HHL.out]
          have hpb2 := padOf_bytes HB0.out
          obtain ⟨ys, hys⟩ : ∃ ys, ys = padOf px := ⟨_, rfl⟩
          simp only [HHL.out, ← hys] at CPAD
          obtain ⟨N, hN⟩ : ∃ N, N = padLen pn := ⟨_, rfl⟩
          simp only [← hN] at CPAD
          rw [← hN] at hN1 hsC hpf hpad2
          rw [← hys] at hsC hpad2 hpb2
          have k2 : (nxH g0 (N : Int)).ok := ok_nx hok hN1.1 hN1.2
          have m2 : mayP (nxH g0 (N : Int)) = true := may_nx hmay _
          have HLD := Lib.hid (hcells_len k2)
          have HCD : Hid (cs.set 5 (.int .u32 (N : Int)) = hcells (nxH g0 (N : Int))) := by show _ = _; rw [HCS.out]; rfl
          have HL5 : Hid (5 < cs.length) := by show _ < _; rw [HL.out]; omega
          have CPD := Lib.hid CPAD
          have HPY := Lib.hid hpad2
          have HPB2 := Lib.hid hpb2
          have CP := fun (w : World) A2 h1 h4 h7 => CPT.out w (nxH g0 (N : Int)) A2 N N ys h1 k2 m2 h4 (by omega) (by omega) h7
          unfold hv PartCPost at CP
          obtain ⟨ds, hds⟩ : ∃ ds, ds = hcells (nxH g0 (N : Int)) := ⟨_, rfl⟩
          rw [← hds] at HLD HCD
          simp only [← hds, ← hsC] at CP
          obtain ⟨hN0, hN1⟩ := hN1
          have hN64 : 64 ≤ N := by omega
          have htst : (k : Int) < (n : Int) - 1 := by omega
          have CPH := Lib.hid CP
          clear hsC CP hpo hpf hnx0 hok hmay hsx hla hN hds hys hpad2 hpb2 CPAD k2 m2
          go_wp2_with (first
            | ((with_reducible show wpList _ _ _ (⟨some 33, _, _, _, _, _⟩ :: _) _ _); refine wpList_load_hd rfl (.tmp 32) rfl gh (k * 26) rfl cs RG HL ?_)
            | ((with_reducible show wpList _ _ _ (⟨some 11, _, _, _, _, _⟩ :: _) _ _); refine wpList_alloc_blk rfl _ rfl zs _ ZH ?_; intro g4 w5 hg41 hg42 X4 L5)
            | ((with_reducible show wpList _ _ _ (⟨none, .store _ (.tmp 11) _, _, _, _, _⟩ :: _) _ _); refine wpList_store_blk rfl _ (.tmp 11) (.tmp 33) rfl g4 rfl _ zs cs rfl X4 26 size_hd HZ HL HO ?_; intro w6 X6 O6 hg6; have L56 : Hid (Below wr.heap.size wr w6) := below_only L5.out O6.out hg41)
            | fail)
          refine (CPD.out w6 (HP.out.over L56.out)).mono ?_
          rintro e w7 ⟨A7, rfl, f7, b7⟩
          rcases f7 with ⟨_, h0⟩ | ⟨g7, rfl, hg7, hr7⟩
          · exfalso
            have := HPY.out
            rw [h0] at this
            simp at this
            omega
          have R7 := Lib.hid hr7
          have X7 := Lib.hid (X6.out.over b7)
          have L57 := Lib.hid (step L56.out b7)
          clear b7 hr7 X6 X4 L5 O6
          go_wp2_with (first
            | ((with_reducible show wpList _ _ _ (⟨none, .store _ (.tmp 44) _, _, _, _, _⟩ :: _) _ _); refine wpList_store_fld rfl _ (.tmp 44) (.tmp 43) rfl g4 5 rfl _ cs (.int .u32 (N : Int)) rfl X7 HL5 rfl rfl ?_; intro w8 X8 O8 hg8; rw [HCD.out] at X8)
            | ((with_reducible show wpList _ _ _ (⟨some 48, _, _, _, _, _⟩ :: _) _ _); refine wpList_load_blk rfl _ (.tmp 11) rfl g4 rfl _ ds X8 26 _ Tryd.underlying49 rfl size_hd HLD ?_)
            | fail)
          have L58 : Hid (Below wr.heap.size wr w8) := L57.out.trans (O8.out.below hg41)
          have R8 : Row w8 g7 ys := R7.out.only O8.out (by omega)
          have Y8 := Lib.hid (Fresh.holds (.inr ⟨g7, rfl, Nat.le_refl _, R8⟩) HPY.out HPB2.out (by omega : N ≤ 281474976710656))
          clear R7 R8 L57 L56 O8 X7
          refine (CPH.out w8 _ (HKR.out.over L58.out) Y8.out (HTR.out.below L58.out)).mono ?_
          rintro e w9 ⟨v9, rfl, o9, b9⟩
          obtain ⟨g9, c9, rfl, hg9, h9⟩ := own_part o9 HUB.out HUL.out.1 (by have := HUL.out.2; omega)
          have H9 := Lib.hid h9
          have L59 := Lib.hid (step L58.out b9)
          have B9 := Lib.hid (HBP.out.over L59.out)
          have hgg : Hid (gp < g9) := by have h1 := L58.out.size; have h2 := HHI.out.2; show _ < _; omega
          clear o9 b9 h9 CPH
          go_wp2_with (first
            | ((with_reducible show wpList _ _ _ (⟨none, .store _ (.tmp 51) _, _, _, _, _⟩ :: _) _ _); refine wpList_store_fld rfl _ (.tmp 51) (.tmp 50) rfl gp k rfl _ _ (.slice (some ⟨g9, 0, none⟩) us.length c9) rfl B9 HKP rfl rfl ?_; intro w10 B10 O10 hg10)
            | fail)
          have hsz10 := O10.out.size
          go_roundw
          case rel =>
            refine ⟨k + 1, by omega, by go_num, HFIN.out w10 g9 c9 B10.out (fun q hq => ?_) ?_ hgg.out, (BH.out.over L59.out).only O10.out hgne.out, LW.out.trans ((L59.out.mono LW.out.size).trans (O10.out.below hgpw.out))⟩
            · have h1 := HQS.out q hq
              have h2 := (h1.1.over L59.out).onlyNe O10.out (fun a ha => by have := h1.2.2.2 a ha; omega)
              rw [hsz10]
              exact h2
            · have h2 := H9.out.onlyNe O10.out (fun a ha => by injection ha with ha; subst ha; have := hgg.out; show g9 ≠ gp; omega)
              rw [hsz10]
              exact h2
          case measure => simp [intOf]; omega
      · obtain rfl : k = n := by omega
        have hB0 : Blk wr gp 24 (qs.map partV) := by have := BP.out; rw [Nat.sub_self] at this; simpa using this
        have hP := Parts.of_rows hB0 HQL.out (fun q hq => (HQS.out q hq).1)
        have hX : ∀ i, i < k → partX qs i = sealX ks (rowsL ps) i := fun i hi => by
          have h1 : (rowsL qs)[i]? = some (sealX ks (rowsL ps) i) := by rw [HQR.out, List.getElem?_map, List.getElem?_range hi]; rfl
          unfold partX
          rw [rowsL, List.getElem?_map] at h1
          rw [List.getD_eq_getElem?_getD]
          cases hq : qs[i]? with
          | none => rw [hq] at h1; cases h1
          | some q => rw [hq] at h1; exact Option.some.inj h1
        have hsum : sumN (partN qs) k ≤ 140737488355328 := by
          have := sumN_bound (n := partN qs) (B := 4294967400) (m := k) (fun i hi => by
            unfold partN
            rw [List.getD_eq_getElem?_getD]
            cases hq : qs[i]? with
            | none => show 0 ≤ _; omega
            | some q => exact (HQS.out q (List.mem_of_getElem? hq)).2.1)
          have : k * 4294967400 ≤ 8 * 4294967400 := Nat.mul_le_mul_right _ h8
          omega
        have CC := Lib.hid (ConcatZ_any wr gp k _ _ _ _ hP (by omega) hsum)
        rw [catL_congr hX] at CC
        have hle := Lib.hid LW.out.size
        clear hP hX hsum hB0
        go_wp2_with fail
        refine CC.out.mono ?_
        rintro e w9 ⟨v9, rfl, o9, b9⟩
        have O9 := Lib.hid (o9.mono hle.out)
        have L9 := Lib.hid (LW.out.trans (b9.mono hle.out))
        clear o9 b9 CC
        go_wp2_with fail
        go_ret2
        exact HQ.out _ _ ⟨_, rfl, O9.out, L9.out⟩
  · have CH' : Hid (Calls Tryd.prog 36 #[.slice A n c] w fun e w' => e = .returned (.tuple #[.slice none 0 0, .int .i64 (chainErr (rowsL ps))]) ∧ Below w.heap.size w w') := by
      refine CH.mono ?_
      rintro e w' ⟨⟨_, h1⟩ | hh, hb⟩
      · exact ⟨h1, hb⟩
      · exact absurd hh.1 he
    have HQ : Hid (∀ e w', (e = .returned (.tuple #[.slice none 0 0, .int .i64 (chainErr (rowsL ps))]) ∧ Below w.heap.size w w') → SealPost w ks (rowsL ps) e w') := by
      rintro e w' ⟨h1, hb⟩
      refine ⟨_, h1, ?_, hb⟩
      unfold sealOf
      rw [if_neg he]
      exact OwnZ.nil _ _ _ _
    obtain ⟨er, her⟩ : ∃ er, er = chainErr (rowsL ps) := ⟨_, rfl⟩
    rw [← her] at CH' HQ he
    have hne : (er != 0) = true := by simpa using he
    clear h hk hK hs CH her he hl HLn
    go_enter Tryd.func23, Tryd.ntmps23
    go_wp2_with fail
    refine CH'.out.mono ?_
    rintro e w1 ⟨rfl, L1⟩
    go_wp2_with fail
    go_ret2
    exact HQ.out _ _ ⟨rfl, L1⟩
set_option maxHeartbeats 1000000 in
theorem Join_anyC (w : World) (A : Option Addr) (n c : Nat) (ps : List PartT) (h : Lst w w.heap.size A n c ps) (hn : n ≤ 1048576) (hs : ∀ p ∈ ps, p.2.1 ≤ 4294967000) (hK : KTab w) :
    Calls Tryd.prog 11 #[.slice A n c] w (SealPost w [] (rowsL ps)) := by
  have CS := Seal_any w none 0 0 [] (Holds.nil _ _) (by omega) A n c ps h hn hs hK
  unfold SealPost at CS ⊢
  obtain ⟨er, her⟩ : ∃ er, er = chainErr (rowsL ps) := ⟨_, rfl⟩
  obtain ⟨xs, hxs⟩ : ∃ xs, xs = sealOf [] (rowsL ps) := ⟨_, rfl⟩
  rw [← her, ← hxs] at CS ⊢
  have CS' := Lib.hid CS
  clear CS her hxs h hs hK
  go_enter Tryd.func11, Tryd.ntmps11
  go_wp2_with fail
  refine CS'.out.mono ?_
  rintro e w1 ⟨v1, rfl, o1, b1⟩
  go_wp2_with fail
  go_ret2
  exact ⟨v1, rfl, o1, b1⟩
end Go.Proofs.YtgfflnjggnadpaaDoor

namespace Go.Proofs.YtgfflnjggnadpaaDoor
set_option linter.all false
set_option maxRecDepth 100000
open Go.RowKit
/-! ### the first primes -/

def PP : Nat → List Int
  | 0 => []
  | j + 1 => if (PP j).all (fun q => ((2 + j : Nat) : Int) % q != 0) = true then PP j ++ [((2 + j : Nat) : Int)] else PP j
end Go.Proofs.YtgfflnjggnadpaaDoor

namespace Go.Proofs.YtgfflnjggnadpaaDoor
set_option linter.all false
set_option maxRecDepth 100000
open Go.RowKit
/-- how long a slice is, of its value -/
def lenV : Value → Nat
  | .slice _ n _ => n
  | _ => 0
end Go.Proofs.YtgfflnjggnadpaaDoor

namespace Go.Proofs.YtgfflnjggnadpaaDoor
set_option linter.all false
set_option maxRecDepth 100000
open Go.RowKit
section
variable {k : IntKind} {e : TypeId} {w : World} {base g n c : Nat} {xs : List Int}
theorem OwnK.heap (h : OwnK k e w base (.slice (some ⟨g, 0, none⟩) n c) xs) : base ≤ g ∧ xs.length = n ∧ ∃ cur : Array Value, w.heap[g]? = some (.cells cur e (0, 0)) ∧ n ≤ cur.size ∧ cur.toList.take n = xs.map (Value.int k) ∧ n ≤ c ∧ c ≤ maxLen ∧ cur.size = c := by
  rcases h.2 with ⟨h0, _⟩ | ⟨g', cap, cur, hv, hb, hg, hnc, hcm, hcs, htk⟩
  · cases h0
  · simp only [Value.slice.injEq, Option.some.injEq, Addr.mk.injEq, and_true] at hv
    obtain ⟨rfl, hn, rfl⟩ := hv
    rw [Nat.mul_one] at htk hcs
    exact ⟨hb, hn.symm, cur, hg, by omega, by rw [hn]; exact htk, by omega, hcm, hcs⟩
theorem OwnK.set (h : OwnK k e w base (.slice (some ⟨g, 0, none⟩) n c) xs) (i : Nat) (u : Int) : OwnK k e (w.setCell ⟨g, i, none⟩ (.int k u)) base (.slice (some ⟨g, 0, none⟩) n c) (xs.set i u) := by
  obtain ⟨hb, hn, cur, hg, hns, htk, hnc, hcm, hcs⟩ := h.heap
  have h1 := heap_setCell_same w g i cur e (.int k u) hg
  have hl : (xs.set i u).length = n := by rw [List.length_set, hn]
  refine ⟨by simp, .inr ⟨g, c, _, by rw [hl], hb, h1, by rw [hl]; exact hnc, hcm, by simp [hcs], ?_⟩⟩
  rw [hl, Nat.mul_one, Array.toList_setIfInBounds, List.take_set, htk, List.map_set]
theorem OwnK.frozen (h : OwnK k e w base (.slice (some ⟨g, 0, none⟩) n c) xs) (i : Nat) : w.frozen? ⟨g, i, none⟩ = false := by
  obtain ⟨_, _, cur, hg, _⟩ := h.heap
  exact frozen_of_row w g i _ e hg
theorem OwnK.cell (h : OwnK k e w base (.slice (some ⟨g, 0, none⟩) n c) xs) {i : Nat} (hi : i < n) : w.cell? ⟨g, i, none⟩ = some (.int k (xs.getD i 0)) := by
  obtain ⟨_, hn, cur, hg, hns, htk, _⟩ := h.heap
  rw [cell_of_row w g i cur e (0, 0) hg]
  have e1 : cur[i]? = (cur.toList.take n)[i]? := by
    rw [List.getElem?_take, if_pos hi, Array.getElem?_toList]
  rw [e1, htk]
  have : i < xs.length := by omega
  simp [this]
end
end Go.Proofs.YtgfflnjggnadpaaDoor

namespace Go.Proofs.YtgfflnjggnadpaaDoor
set_option linter.all false
set_option maxRecDepth 100000
open Go.RowKit
set_option linter.unusedVariables false
section
variable {w w' : World} {base : Nat} {v : Value} {rs : List PartT} {gb gv n c k : Nat} {p s : PartT}
/-- one row is put in the place of another one -/
theorem OLst.put (h : OLst false w base (.slice (some ⟨gv, 0, none⟩) n c) rs) (hk : k < rs.length) {B : Nat} (hB : ∀ q ∈ rs, ∀ i, (partV q).ownBlock = some i → i < B) (hs : OwnB false w B (partV s) s.2.2.2) (hbB : base ≤ B) (hx : Bytes s.2.2.2) (hl : s.2.2.2.length ≤ 140737488355328) :
    OLst false (w.setCell ⟨gv, k, none⟩ (partV s)) base (.slice (some ⟨gv, 0, none⟩) n c) (rs.set k s) := by
  have hO := only_setCell w gv k (partV s)
  obtain ⟨_, ds, hds⟩ := h.row.block (i := gv) rfl
  have keepB : ∀ {B' : Nat} {u : Value} {xs : List Int}, OwnB false w B' u xs → OwnB false (w.setCell ⟨gv, k, none⟩ (partV s)) B' u xs := fun hu => hu.keep fun j cs _ hcs => hO.rest j fun e => by
    subst e
    rw [hds] at hcs
    simp only [Option.some.injEq, Obj.cells.injEq] at hcs
    exact absurd hcs.2.1 (by decide)
  refine ⟨h.row.set k s, fun q hq => ?_, ?_⟩
  · obtain ⟨i, hi, rfl⟩ := List.mem_iff_getElem.1 hq
    rw [List.getElem_set]
    split
    · exact ⟨(keepB hs).mono hbB, hx, hl⟩
    · have hi' : i < rs.length := by rwa [List.length_set] at hi
      have h2 := h.each rs[i] (List.getElem_mem hi')
      exact ⟨keepB h2.1, h2.2⟩
  · rw [List.pairwise_iff_getElem]
    intro i j hi hj hij b hb
    have hi' : i < rs.length := by rwa [List.length_set] at hi
    have hj' : j < rs.length := by rwa [List.length_set] at hj
    have ha := List.pairwise_iff_getElem.1 h.apart
    rw [List.getElem_set] at hb ⊢
    by_cases h1 : k = i
    · rw [if_pos h1] at hb
      rw [if_neg (by omega)]
      intro hq
      have h3 := (hs.1.block hb).1
      have h4 := hB _ (List.getElem_mem hj') b hq
      omega
    · rw [if_neg h1] at hb
      by_cases h2 : k = j
      · rw [if_pos h2]
        intro hq
        have h3 := (hs.1.block hq).1
        have h4 := hB _ (List.getElem_mem hi') b hb
        omega
      · rw [if_neg h2]
        exact ha i j hi' hj' hij b hb
end
end Go.Proofs.YtgfflnjggnadpaaDoor

namespace Go.Proofs.YtgfflnjggnadpaaDoor
set_option linter.all false
set_option maxRecDepth 100000
open Go.RowKit
set_option linter.unusedVariables false
theorem flag_rel (x : Int) (h0 : 0 ≤ x) (h1 : x ≤ 4294967295) : (bits .and .u32 x 4 != 0) = isRel x := by
  obtain ⟨a, rfl⟩ := Int.eq_ofNat_of_zero_le h0
  rw [show (4 : Int) = ((4 : Nat) : Int) from rfl, u32_and_nat a 4 (by omega) (by omega), show (4 : Nat) = 2 ^ 2 from rfl, nat_bit 2 a]
  unfold isRel
  rw [Bool.eq_iff_iff, bne_iff_ne, decide_eq_true_iff]
  omega
/-- the head of a part, if it may be one's -/
def hiH (xs : List Int) : Hd := if partE xs = 0 then getOfH xs 0 else zeroHd
theorem hiH_ok (xs : List Int) (h : Bytes xs) : (hiH xs).ok := by
  unfold hiH
  split
  · exact getOfH_ok xs 0 h
  · exact zeroHd_ok
/-- what headIn answers -/
def HeadInPost (w : World) (xs : List Int) (e : Ending) (w' : World) : Prop := e = .returned (.tuple #[hv (hiH xs), .int .i64 (partE xs)]) ∧ Below w.heap.size w w'
set_option maxHeartbeats 2000000 in
theorem headIn_any (w : World) (A : Option Addr) (n c : Nat) (xs : List Int) (h : Holds w w.heap.size A n c xs) :
    Calls Tryd.prog 33 #[.slice A n c] w (HeadInPost w xs) := by
  have cg := fun (w' : World) (hb : Below w.heap.size w w') => GetH_any w' A n c xs 0 (h.over hb) (by omega)
  unfold GetHPost at cg
  have hl := h.len
  have hk := getOfH_ok xs 0 h.byte
  obtain ⟨n0, n1⟩ := hk.nx
  have hpe : partE xs = (if getErrH xs 0 = 0 then (if (getOfH xs 0).nx % 8 ≠ 0 ∨ (0 < (getOfH xs 0).nx ∧ (getOfH xs 0).nx < 64) then 5 else if (xs.length : Int) < (getOfH xs 0).nx then 4 else 0) else getErrH xs 0) := rfl
  unfold HeadInPost hiH
  obtain ⟨er, her⟩ : ∃ er, er = getErrH xs 0 := ⟨_, rfl⟩
  obtain ⟨g, hg⟩ : ∃ g, g = getOfH xs 0 := ⟨_, rfl⟩
  simp only [← her, ← hg] at cg
  rw [← her, ← hg, hl] at hpe
  rw [← hg] at n0 n1 hk ⊢
  have HL := Lib.hid (hcells_len hk)
  have HO := Lib.hid (hcells_one g)
  have HZ := Lib.hid (hcells_len zeroHd_ok)
  have HZO := Lib.hid (hcells_one zeroHd)
  have ZH := Lib.hid zero_hd
  have BE : Tryd.prog.built 49 [] = some (hcells zeroHd).toArray := by kernel_rfl
  have F5 : Hid (∀ (w : World) (q : Nat), Blk w q 49 (hcells g) → w.cell? ⟨q, 5, none⟩ = some (.int .u32 g.nx)) := fun w q B => HB.c5 B
  obtain ⟨nx, hnx⟩ : ∃ nx, nx = g.nx := ⟨_, rfl⟩
  obtain ⟨pe, hp⟩ : ∃ pe, pe = partE xs := ⟨_, rfl⟩
  rw [← hp, ← hnx] at hpe
  rw [← hnx] at n0 n1 F5
  rw [← hp]
  unfold hv at cg ⊢
  obtain ⟨cs, hcs⟩ : ∃ cs, cs = hcells g := ⟨_, rfl⟩
  obtain ⟨zs, hzs⟩ : ∃ zs, zs = hcells zeroHd := ⟨_, rfl⟩
  simp only [← hcs] at cg
  rw [← hcs] at HL HO F5
  rw [← hzs] at HZ HZO ZH BE
  have hif : hcells (if pe = 0 then g else zeroHd) = if pe = 0 then cs else zs := by
    rw [hcs, hzs]
    split <;> rfl
  rw [hif]
  have CG := Lib.hid cg
  have hm : nx.tmod 8 = nx % 8 := Int.tmod_eq_emod_of_nonneg n0
  clear cg hk her hg hnx hl h hp hcs hzs hif
  by_cases he : er = 0
  · subst he
    rw [if_pos rfl] at hpe
    by_cases h1 : nx % 8 = 0
    · have g8 : (nx % 8 != 0) = false := by simpa using h1
      by_cases h0 : nx = 0
      · subst h0
        rw [if_neg (by omega), if_neg (by omega)] at hpe
        subst hpe
        rw [if_pos rfl]
        clear n0 n1 h1 hm g8
        go_enter Tryd.func33, Tryd.ntmps33
        go_wp2_with (first
          | ((with_reducible show wpList _ _ _ (⟨some 2, _, _, _, _, _⟩ :: _) _ _); refine wpList_alloc_blk rfl _ rfl zs _ ZH ?_; intro g0 w0 hg01 hg02 X0 L0)
          | fail)
        refine (CG.out w0 L0.out).mono ?_
        rintro e w1 ⟨rfl, L1⟩
        have X1 := Lib.hid (X0.out.over L1)
        have LL1 := Lib.hid (step L0.out L1)
        have hlt0 := X1.out.lt
        go_wp2_with (first
          | ((with_reducible show wpList _ _ _ (⟨some 4, _, _, _, _, _⟩ :: _) _ _); refine wpList_alloc_blk rfl _ rfl zs _ ZH ?_; intro g4 w5 hg41 hg42 X4 L5; have X5 := Lib.hid (X1.out.over L5.out); have hne0 : g0 ≠ g4 := (by omega))
          | ((with_reducible show wpList _ _ _ (⟨none, .store _ (.tmp 4) _, _, _, _, _⟩ :: _) _ _); refine wpList_store_blk rfl _ (.tmp 4) (.tmp 10) rfl g4 rfl _ zs cs rfl X4 26 size_hd HZ HL HO ?_; intro w6 X6 O6 hg6; have gc := F5.out _ _ X6.out; have X06 := Lib.hid (X5.out.only O6.out hne0); have L16 := Lib.hid (step LL1.out (below_only L5.out O6.out hg41)))
          | ((with_reducible show wpList _ _ _ (⟨some 37, _, _, _, _, _⟩ :: _) _ _); refine wpList_load_blk rfl _ (.tmp 4) rfl g4 rfl _ cs X6 26 _ Tryd.underlying49 rfl size_hd HL ?_)
          | ((with_reducible show wpList _ _ _ (⟨none, .store _ (.tmp 2) _, _, _, _, _⟩ :: _) _ _); refine wpList_store_blk rfl _ (.tmp 2) (.tmp 37) rfl g0 rfl _ zs cs rfl X06 26 size_hd HZ HL HO ?_; intro w9 B9 O9 hg9)
          | fail)
        refine bodyPost_ret (v := .tuple #[.agg cs.toArray, .int .i64 0]) ?_ rfl ⟨rfl, below_only L16.out O9.out hg01⟩
        exact results_cell_slot rfl _ _ g0 _ _ (0, 0) _ rfl B9.out Tryd.underlying49 rfl (by rw [size_hd]; have := HL.out; simp [this]) rfl
      · have g0 : 0 < nx := by omega
        by_cases h2 : nx < 64
        · rw [if_pos (by omega)] at hpe
          subst hpe
          rw [if_neg (by decide)]
          clear h0
          go_enter Tryd.func33, Tryd.ntmps33
          go_wp2_with (first
            | ((with_reducible show wpList _ _ _ (⟨some 2, _, _, _, _, _⟩ :: _) _ _); refine wpList_alloc_blk rfl _ rfl zs _ ZH ?_; intro g0 w0 hg01 hg02 X0 L0)
            | fail)
          refine (CG.out w0 L0.out).mono ?_
          rintro e w1 ⟨rfl, L1⟩
          have X1 := Lib.hid (X0.out.over L1)
          have LL1 := Lib.hid (step L0.out L1)
          have hlt0 := X1.out.lt
          go_wp2_with (first
            | ((with_reducible show wpList _ _ _ (⟨some 4, _, _, _, _, _⟩ :: _) _ _); refine wpList_alloc_blk rfl _ rfl zs _ ZH ?_; intro g4 w5 hg41 hg42 X4 L5; have X5 := Lib.hid (X1.out.over L5.out); have hne0 : g0 ≠ g4 := (by omega))
            | ((with_reducible show wpList _ _ _ (⟨none, .store _ (.tmp 4) _, _, _, _, _⟩ :: _) _ _); refine wpList_store_blk rfl _ (.tmp 4) (.tmp 10) rfl g4 rfl _ zs cs rfl X4 26 size_hd HZ HL HO ?_; intro w6 X6 O6 hg6; have gc := F5.out _ _ X6.out; have X06 := Lib.hid (X5.out.only O6.out hne0); have L16 := Lib.hid (step LL1.out (below_only L5.out O6.out hg41)))
            | ((with_reducible show wpList _ _ _ (⟨some 30, _, _, _, _, _⟩ :: _) _ _); refine wpList_build_none rfl _ rfl zs BE ?_)
            | ((with_reducible show wpList _ _ _ (⟨none, .store _ (.tmp 2) _, _, _, _, _⟩ :: _) _ _); refine wpList_store_blk rfl _ (.tmp 2) (.tmp 30) rfl g0 rfl _ zs zs rfl X06 26 size_hd HZ HZ HZO ?_; intro w9 B9 O9 hg9)
            | fail)
          refine bodyPost_ret (v := .tuple #[.agg zs.toArray, .int .i64 5]) ?_ rfl ⟨rfl, below_only L16.out O9.out hg01⟩
          exact results_cell_slot rfl _ _ g0 _ _ (0, 0) _ rfl B9.out Tryd.underlying49 rfl (by rw [size_hd]; have := HZ.out; simp [this]) rfl
        · have g64 : ¬ nx < 64 := h2
          by_cases h3 : (n : Int) < nx
          · rw [if_neg (by omega), if_pos h3] at hpe
            subst hpe
            rw [if_neg (by decide)]
            clear h0 h2
            go_enter Tryd.func33, Tryd.ntmps33
            go_wp2_with (first
              | ((with_reducible show wpList _ _ _ (⟨some 2, _, _, _, _, _⟩ :: _) _ _); refine wpList_alloc_blk rfl _ rfl zs _ ZH ?_; intro g0 w0 hg01 hg02 X0 L0)
              | fail)
            refine (CG.out w0 L0.out).mono ?_
            rintro e w1 ⟨rfl, L1⟩
            have X1 := Lib.hid (X0.out.over L1)
            have LL1 := Lib.hid (step L0.out L1)
            have hlt0 := X1.out.lt
            go_wp2_with (first
              | ((with_reducible show wpList _ _ _ (⟨some 4, _, _, _, _, _⟩ :: _) _ _); refine wpList_alloc_blk rfl _ rfl zs _ ZH ?_; intro g4 w5 hg41 hg42 X4 L5; have X5 := Lib.hid (X1.out.over L5.out); have hne0 : g0 ≠ g4 := (by omega))
              | ((with_reducible show wpList _ _ _ (⟨none, .store _ (.tmp 4) _, _, _, _, _⟩ :: _) _ _); refine wpList_store_blk rfl _ (.tmp 4) (.tmp 10) rfl g4 rfl _ zs cs rfl X4 26 size_hd HZ HL HO ?_; intro w6 X6 O6 hg6; have gc := F5.out _ _ X6.out; have X06 := Lib.hid (X5.out.only O6.out hne0); have L16 := Lib.hid (step LL1.out (below_only L5.out O6.out hg41)))
              | ((with_reducible show wpList _ _ _ (⟨some 36, _, _, _, _, _⟩ :: _) _ _); refine wpList_build_none rfl _ rfl zs BE ?_)
              | ((with_reducible show wpList _ _ _ (⟨none, .store _ (.tmp 2) _, _, _, _, _⟩ :: _) _ _); refine wpList_store_blk rfl _ (.tmp 2) (.tmp 36) rfl g0 rfl _ zs zs rfl X06 26 size_hd HZ HZ HZO ?_; intro w9 B9 O9 hg9)
              | fail)
            refine bodyPost_ret (v := .tuple #[.agg zs.toArray, .int .i64 4]) ?_ rfl ⟨rfl, below_only L16.out O9.out hg01⟩
            exact results_cell_slot rfl _ _ g0 _ _ (0, 0) _ rfl B9.out Tryd.underlying49 rfl (by rw [size_hd]; have := HZ.out; simp [this]) rfl
          · rw [if_neg (by omega), if_neg h3] at hpe
            subst hpe
            rw [if_pos rfl]
            clear h0 h2
            go_enter Tryd.func33, Tryd.ntmps33
            go_wp2_with (first
              | ((with_reducible show wpList _ _ _ (⟨some 2, _, _, _, _, _⟩ :: _) _ _); refine wpList_alloc_blk rfl _ rfl zs _ ZH ?_; intro g0 w0 hg01 hg02 X0 L0)
              | fail)
            refine (CG.out w0 L0.out).mono ?_
            rintro e w1 ⟨rfl, L1⟩
            have X1 := Lib.hid (X0.out.over L1)
            have LL1 := Lib.hid (step L0.out L1)
            have hlt0 := X1.out.lt
            go_wp2_with (first
              | ((with_reducible show wpList _ _ _ (⟨some 4, _, _, _, _, _⟩ :: _) _ _); refine wpList_alloc_blk rfl _ rfl zs _ ZH ?_; intro g4 w5 hg41 hg42 X4 L5; have X5 := Lib.hid (X1.out.over L5.out); have hne0 : g0 ≠ g4 := (by omega))
              | ((with_reducible show wpList _ _ _ (⟨none, .store _ (.tmp 4) _, _, _, _, _⟩ :: _) _ _); refine wpList_store_blk rfl _ (.tmp 4) (.tmp 10) rfl g4 rfl _ zs cs rfl X4 26 size_hd HZ HL HO ?_; intro w6 X6 O6 hg6; have gc := F5.out _ _ X6.out; have X06 := Lib.hid (X5.out.only O6.out hne0); have L16 := Lib.hid (step LL1.out (below_only L5.out O6.out hg41)))
              | ((with_reducible show wpList _ _ _ (⟨some 37, _, _, _, _, _⟩ :: _) _ _); refine wpList_load_blk rfl _ (.tmp 4) rfl g4 rfl _ cs X6 26 _ Tryd.underlying49 rfl size_hd HL ?_)
              | ((with_reducible show wpList _ _ _ (⟨none, .store _ (.tmp 2) _, _, _, _, _⟩ :: _) _ _); refine wpList_store_blk rfl _ (.tmp 2) (.tmp 37) rfl g0 rfl _ zs cs rfl X06 26 size_hd HZ HL HO ?_; intro w9 B9 O9 hg9)
              | fail)
            refine bodyPost_ret (v := .tuple #[.agg cs.toArray, .int .i64 0]) ?_ rfl ⟨rfl, below_only L16.out O9.out hg01⟩
            exact results_cell_slot rfl _ _ g0 _ _ (0, 0) _ rfl B9.out Tryd.underlying49 rfl (by rw [size_hd]; have := HL.out; simp [this]) rfl
    · rw [if_pos (.inl h1)] at hpe
      subst hpe
      rw [if_neg (by decide)]
      have g8 : (nx % 8 != 0) = true := by simpa using h1
      go_enter Tryd.func33, Tryd.ntmps33
      go_wp2_with (first
        | ((with_reducible show wpList _ _ _ (⟨some 2, _, _, _, _, _⟩ :: _) _ _); refine wpList_alloc_blk rfl _ rfl zs _ ZH ?_; intro g0 w0 hg01 hg02 X0 L0)
        | fail)
      refine (CG.out w0 L0.out).mono ?_
      rintro e w1 ⟨rfl, L1⟩
      have X1 := Lib.hid (X0.out.over L1)
      have LL1 := Lib.hid (step L0.out L1)
      have hlt0 := X1.out.lt
      go_wp2_with (first
        | ((with_reducible show wpList _ _ _ (⟨some 4, _, _, _, _, _⟩ :: _) _ _); refine wpList_alloc_blk rfl _ rfl zs _ ZH ?_; intro g4 w5 hg41 hg42 X4 L5; have X5 := Lib.hid (X1.out.over L5.out); have hne0 : g0 ≠ g4 := (by omega))
        | ((with_reducible show wpList _ _ _ (⟨none, .store _ (.tmp 4) _, _, _, _, _⟩ :: _) _ _); refine wpList_store_blk rfl _ (.tmp 4) (.tmp 10) rfl g4 rfl _ zs cs rfl X4 26 size_hd HZ HL HO ?_; intro w6 X6 O6 hg6; have gc := F5.out _ _ X6.out; have X06 := Lib.hid (X5.out.only O6.out hne0); have L16 := Lib.hid (step LL1.out (below_only L5.out O6.out hg41)))
        | ((with_reducible show wpList _ _ _ (⟨some 30, _, _, _, _, _⟩ :: _) _ _); refine wpList_build_none rfl _ rfl zs BE ?_)
        | ((with_reducible show wpList _ _ _ (⟨none, .store _ (.tmp 2) _, _, _, _, _⟩ :: _) _ _); refine wpList_store_blk rfl _ (.tmp 2) (.tmp 30) rfl g0 rfl _ zs zs rfl X06 26 size_hd HZ HZ HZO ?_; intro w9 B9 O9 hg9)
        | fail)
      refine bodyPost_ret (v := .tuple #[.agg zs.toArray, .int .i64 5]) ?_ rfl ⟨rfl, below_only L16.out O9.out hg01⟩
      exact results_cell_slot rfl _ _ g0 _ _ (0, 0) _ rfl B9.out Tryd.underlying49 rfl (by rw [size_hd]; have := HZ.out; simp [this]) rfl
  · rw [if_neg he] at hpe
    subst hpe
    rw [if_neg he]
    have hne : (pe != 0) = true := by simpa using he
    go_enter Tryd.func33, Tryd.ntmps33
    go_wp2_with (first
      | ((with_reducible show wpList _ _ _ (⟨some 2, _, _, _, _, _⟩ :: _) _ _); refine wpList_alloc_blk rfl _ rfl zs _ ZH ?_; intro g0 w0 hg01 hg02 X0 L0)
      | fail)
    refine (CG.out w0 L0.out).mono ?_
    rintro e w1 ⟨rfl, L1⟩
    have X1 := Lib.hid (X0.out.over L1)
    have LL1 := Lib.hid (step L0.out L1)
    have hlt0 := X1.out.lt
    go_wp2_with (first
      | ((with_reducible show wpList _ _ _ (⟨some 4, _, _, _, _, _⟩ :: _) _ _); refine wpList_alloc_blk rfl _ rfl zs _ ZH ?_; intro g4 w5 hg41 hg42 X4 L5; have X5 := Lib.hid (X1.out.over L5.out); have hne0 : g0 ≠ g4 := (by omega))
      | ((with_reducible show wpList _ _ _ (⟨none, .store _ (.tmp 4) _, _, _, _, _⟩ :: _) _ _); refine wpList_store_blk rfl _ (.tmp 4) (.tmp 10) rfl g4 rfl _ zs cs rfl X4 26 size_hd HZ HL HO ?_; intro w6 X6 O6 hg6; have gc := F5.out _ _ X6.out; have X06 := Lib.hid (X5.out.only O6.out hne0); have L16 := Lib.hid (step LL1.out (below_only L5.out O6.out hg41)))
      | ((with_reducible show wpList _ _ _ (⟨some 18, _, _, _, _, _⟩ :: _) _ _); refine wpList_build_none rfl _ rfl zs BE ?_)
      | ((with_reducible show wpList _ _ _ (⟨none, .store _ (.tmp 2) _, _, _, _, _⟩ :: _) _ _); refine wpList_store_blk rfl _ (.tmp 2) (.tmp 18) rfl g0 rfl _ zs zs rfl X06 26 size_hd HZ HZ HZO ?_; intro w9 B9 O9 hg9)
      | fail)
    refine bodyPost_ret (v := .tuple #[.agg zs.toArray, .int .i64 pe]) ?_ rfl ⟨rfl, below_only L16.out O9.out hg01⟩
    exact results_cell_slot rfl _ _ g0 _ _ (0, 0) _ rfl B9.out Tryd.underlying49 rfl (by rw [size_hd]; have := HZ.out; simp [this]) rfl
/-- what Split answers -/
def SplitPost (Z : Bool) (w : World) (q : Int × List (List Int)) (e : Ending) (w' : World) : Prop := ∃ v ps, e = .returned (.tuple #[v, .int .i64 q.1]) ∧ OLst Z w' w.heap.size v ps ∧ rowsL ps = q.2 ∧ Below w.heap.size w w'
theorem Holds.cut0 {w : World} {B b off n c N : Nat} {xs : List Int} (h : Holds w B (some ⟨b, off, none⟩) n c xs) (hN : N ≤ n) (h0 : 0 < N) : Holds w B (some ⟨b, off, none⟩) N N (xs.take N) := h.pre hN h0
theorem Holds.rest {w : World} {B b off n c N : Nat} {xs : List Int} (h : Holds w B (some ⟨b, off, none⟩) n c xs) (hN : N ≤ n) (h0 : 0 < N) (hc : ¬ c = N) : Holds w B (some ⟨b, off + N, none⟩) (n - N) (c - N) (xs.drop N) := by
  have h1 := h.behind hN
  rw [if_neg hc] at h1
  have e : (⟨b, off, none⟩ : Addr).add N = ⟨b, off + N, none⟩ := by
    have : ¬ N = 0 := by omega
    simp [Addr.add, this]
  rw [Option.map_some, e] at h1
  exact h1
theorem own_row {w : World} {base m : Nat} {v : Value} {xs : List Int} (h : OwnZ .u8 5 w base v xs) (hm : xs.length = m) : ∃ A c, v = .slice A m c ∧ OwnB true w base (partV (A, m, c, xs)) xs := by
  subst hm
  obtain ⟨A, c, rfl⟩ := Own.len (show Own w base v xs from h.own)
  exact ⟨A, c, rfl, OwnB.of_z h true⟩
theorem rowsL_snoc (qs : List PartT) (q : PartT) : rowsL (qs ++ [q]) = rowsL qs ++ [q.2.2.2] := by simp [rowsL]
theorem spl_step {f : Nat} {r : List Int} (h0 : partE r = 0) (h1 : ¬ nxt r = 0) : spl (f + 1) r = ahead [r.take (nxt r)] (spl f (r.drop (nxt r))) := by
  show (if partE r = 0 then (if nxt r = 0 then (0, [r]) else ahead [r.take (nxt r)] (spl f (r.drop (nxt r)))) else (partE r, [])) = _
  rw [if_pos h0, if_neg h1]
theorem spl_last {f : Nat} {r : List Int} (h0 : partE r = 0) (h1 : nxt r = 0) : spl (f + 1) r = (0, [r]) := by
  show (if partE r = 0 then (if nxt r = 0 then (0, [r]) else ahead [r.take (nxt r)] (spl f (r.drop (nxt r)))) else (partE r, [])) = _
  rw [if_pos h0, if_pos h1]
theorem spl_bad {f : Nat} {r : List Int} (h0 : ¬ partE r = 0) : spl f r = (partE r, []) := by
  cases f with
  | zero =>
    show (if partE r = 0 then (3, []) else (partE r, [])) = _
    rw [if_neg h0]
  | succ f =>
    show (if partE r = 0 then (if nxt r = 0 then (0, [r]) else ahead [r.take (nxt r)] (spl f (r.drop (nxt r)))) else (partE r, [])) = _
    rw [if_neg h0]
theorem spl_many {r : List Int} (h0 : partE r = 0) : spl 0 r = (3, []) := by
  show (if partE r = 0 then (3, []) else (partE r, [])) = _
  rw [if_pos h0]
theorem ahead_err {P : List (List Int)} {e : Int} (h : e ≠ 0) : ahead P (e, []) = (e, []) := by
  unfold ahead
  rw [if_neg h]
/-- where Split stands: at the begin, or behind a first part that may be one -/
def SplAt (xs : List Int) (qs : List PartT) (n1 f : Nat) (r : List Int) : Prop := (n1 = 0 ∧ r = xs) ∨ (0 < n1 ∧ splD xs = ahead (rowsL qs) (spl f r))
theorem SplAt.bad {xs qs n1 f r} (h : SplAt xs qs n1 f r) (h2 : ¬ partE r = 0) : splD xs = (partE r, []) := by
  rcases h with ⟨_, rfl⟩ | ⟨_, h3⟩
  · unfold splD
    rw [if_neg h2]
  · rw [h3, spl_bad h2, ahead_err h2]
theorem SplAt.many {xs qs n1 f r} (h : SplAt xs qs n1 f r) (h1 : partE r = 0) (h2 : f = 0) (h3 : 0 < n1) : splD xs = (3, []) := by
  rcases h with ⟨h4, _⟩ | ⟨_, h3⟩
  · omega
  · rw [h3, h2, spl_many h1, ahead_err (by decide)]
theorem SplAt.rel {xs qs n1 f r} (h : SplAt xs qs n1 f r) (h1 : partE r = 0) (h2 : n1 = 0) (h3 : isRel (hiH r).fl = true) : splD xs = (5, []) := by
  unfold hiH at h3
  rw [if_pos h1] at h3
  rcases h with ⟨_, rfl⟩ | ⟨h4, _⟩
  · unfold splD relH
    rw [if_pos h1, if_pos h3]
  · omega
theorem SplAt.on {xs qs n1 f r} (h : SplAt xs qs n1 f r) (hq : qs.length = n1) (hf : n1 + f = 8) (h1 : partE r = 0) (h2 : n1 = 0 → isRel (hiH r).fl = false) : splD xs = ahead (rowsL qs) (spl f r) := by
  rcases h with ⟨h3, rfl⟩ | ⟨_, h3⟩
  · have h2 := h2 h3
    unfold hiH at h2
    rw [if_pos h1] at h2
    obtain rfl : qs = [] := List.eq_nil_of_length_eq_zero (by omega)
    obtain rfl : f = 8 := by omega
    unfold splD relH
    rw [if_pos h1, h2, if_neg (by decide)]
    exact (ahead_nil _ (spl_err 8 r)).symm
  · exact h3
set_option maxHeartbeats 8000000 in
theorem Split_any (w : World) (A : Option Addr) (n c : Nat) (xs : List Int) (h : Holds w w.heap.size A n c xs) (hn : n ≤ 140737488355328) :
    Calls Tryd.prog 17 #[.slice A n c] w (SplitPost true w (splD xs)) := by
  have HH := Lib.hid h
  have HQ : Hid (∀ q, splD xs = q → ∀ e w', (∃ v ps, e = .returned (.tuple #[v, .int .i64 q.1]) ∧ OLst true w' w.heap.size v ps ∧ rowsL ps = q.2 ∧ Below w.heap.size w w') → SplitPost true w (splD xs) e w') := fun q hq e w' h => by
    rw [hq]
    exact h
  have HZ := Lib.hid (hcells_len zeroHd_ok)
  have ZH := Lib.hid zero_hd
  obtain ⟨zs, hzs⟩ : ∃ zs, zs = hcells zeroHd := ⟨_, rfl⟩
  rw [← hzs] at HZ ZH
  clear hzs h
  go_enter Tryd.func17, Tryd.ntmps17
  go_wp2
  go_step3
  go_wp2
  go_step3
  go_wp2
  go_loopw [4, 5] (fun P R wr => ∃ (f n' c' n1 c1 : Nat) (A' A1 : Option Addr) (r : List Int), P = .slice A1 n1 c1 ∧ R = .slice A' n' c' ∧ n1 + f = 8 ∧ n' ≤ n ∧ Hid (Holds wr w.heap.size A' n' c' r) ∧ (∃ qs, Hid (OLst true wr w.heap.size (.slice A1 n1 c1) qs) ∧ Hid (qs.length = n1) ∧ Hid (SplAt xs qs n1 f r)) ∧ Hid (Below w.heap.size w wr)) (fun _ R _ => lenV R)
  case atStart => exact ⟨8, n, c, 0, 0, A, none, xs, rfl, rfl, by omega, by omega, HH.out, ⟨[], OLst.nil _ _ _, rfl, .inl ⟨rfl, rfl⟩⟩, Below.refl _ _⟩
  case round =>
    obtain ⟨f, n', c', n1, c1, A', A1, r, rfl, rfl, hf, hn', HR, ⟨qs, HO, HQL, HS⟩, LW⟩ := hrel
    have cn := headIn_any wr A' n' c' r (HR.out.mono LW.out.size)
    unfold HeadInPost at cn
    have hk := hiH_ok r HR.out.byte
    have hfr := flag_rel _ hk.fl.1 hk.fl.2
    obtain ⟨f0, f1⟩ := hk.fl
    obtain ⟨x0, x1⟩ := hk.nx
    have F4 : Hid (∀ (w : World) (g : Nat), Blk w g 49 (hcells (hiH r)) → w.cell? ⟨g, 4, none⟩ = some (.int .u32 (hiH r).fl) ∧ w.cell? ⟨g, 5, none⟩ = some (.int .u32 (hiH r).nx)) := fun w g B => ⟨HB.c4 B, HB.c5 B⟩
    have HRel := Lib.hid (fun h1 h2 => HS.out.rel (f := f) h1 h2)
    have HOn := Lib.hid (HS.out.on HQL.out hf)
    have hnt : partE r = 0 → nxt r = (hiH r).nx.toNat := fun h => by unfold hiH; rw [if_pos h]; rfl
    have HL := Lib.hid (hcells_len hk)
    have HOc := Lib.hid (hcells_one (hiH r))
    obtain ⟨cs, hcs⟩ : ∃ cs, cs = hcells (hiH r) := ⟨_, rfl⟩
    unfold hv at cn
    rw [← hcs] at cn HL HOc F4
    obtain ⟨fl, hfl⟩ : ∃ fl, fl = (hiH r).fl := ⟨_, rfl⟩
    obtain ⟨N, hN⟩ := Int.eq_ofNat_of_zero_le x0
    rw [hN] at F4 x1 hnt
    rw [← hfl] at F4 f0 f1 hfr HRel HOn
    obtain ⟨z, hz⟩ : ∃ z, z = isRel fl := ⟨_, rfl⟩
    rw [← hz] at hfr HRel HOn
    have hnt2 : partE r = 0 → nxt r = N := fun h => (hnt h).trans (Int.toNat_natCast N)
    clear hk hcs hfl hN hz x0 hnt
    by_cases hpe : partE r = 0
    rotate_left
    · have HQ3 := Lib.hid (HQ.out _ (HS.out.bad hpe))
      obtain ⟨pe, hp⟩ : ∃ pe, pe = partE r := ⟨_, rfl⟩
      rw [← hp] at cn HQ3 hpe
      have hne : (pe != 0) = true := by simpa using hpe
      have CN := Lib.hid cn
      clear HQ HS hp cn HRel HOn hnt2 hfr
      go_wp2_with fail
      refine CN.out.mono ?_
      rintro e w1 ⟨rfl, L1⟩
      have LW1 := Lib.hid (LW.out.trans (L1.mono LW.out.size))
      have LS1 := Lib.hid L1
      clear L1 CN
      go_wp2_with (first
        | ((with_reducible show wpList _ _ _ (⟨some 6, _, _, _, _, _⟩ :: _) _ _); refine wpList_alloc_blk rfl _ rfl zs _ ZH ?_; intro g4 w5 hg41 hg42 X4 L5)
        | ((with_reducible show wpList _ _ _ (⟨none, .store _ (.tmp 6) _, _, _, _, _⟩ :: _) _ _); refine wpList_store_blk rfl _ (.tmp 6) (.tmp 12) rfl g4 rfl _ zs cs rfl X4 26 size_hd HZ HL HOc ?_; intro w6 X6 O6 hg6; obtain ⟨gc4, gc5⟩ := F4.out _ _ X6.out)
        | fail)
      have L56 := Lib.hid (below_only L5.out O6.out hg41)
      have LW6 := Lib.hid (LW1.out.trans (L56.out.mono LW1.out.size))
      have LS6 := Lib.hid (step LS1.out L56.out)
      have LR6 : Hid (Below w.heap.size wr w6) := LS6.out.mono LW.out.size
      have hg4 : wr.heap.size ≤ g4 := Nat.le_trans LS1.out.size hg41
      clear L5 O6 X4 L56 LW1 LS1
      try go_wp2
      rw [Exit.noGoto_ret]
      go_ret2
      exact HQ3.out _ _ ⟨_, [], rfl, OLst.nil _ _ _, rfl, LW6.out⟩
    have hnt := hnt2 hpe
    rw [hpe] at cn
    have CN := Lib.hid cn
    have HNT := Lib.hid hnt
    obtain ⟨hN1, hN2, hN3⟩ := nxt_le hpe
    rw [hnt] at hN1 hN2 hN3
    rw [HR.out.len] at hN1
    have HPE := Lib.hid hpe
    clear cn hnt hnt2
    rcases f with _ | f
    · obtain rfl : n1 = 8 := by omega
      have HQ3 := Lib.hid (HQ.out _ (HS.out.many hpe rfl (by decide)))
      clear HQ HS HRel HOn hfr hpe hN1 hN2 hN3
      go_wp2_with fail
      refine CN.out.mono ?_
      rintro e w1 ⟨rfl, L1⟩
      have LW1 := Lib.hid (LW.out.trans (L1.mono LW.out.size))
      have LS1 := Lib.hid L1
      clear L1 CN
      go_wp2_with (first
        | ((with_reducible show wpList _ _ _ (⟨some 6, _, _, _, _, _⟩ :: _) _ _); refine wpList_alloc_blk rfl _ rfl zs _ ZH ?_; intro g4 w5 hg41 hg42 X4 L5)
        | ((with_reducible show wpList _ _ _ (⟨none, .store _ (.tmp 6) _, _, _, _, _⟩ :: _) _ _); refine wpList_store_blk rfl _ (.tmp 6) (.tmp 12) rfl g4 rfl _ zs cs rfl X4 26 size_hd HZ HL HOc ?_; intro w6 X6 O6 hg6; obtain ⟨gc4, gc5⟩ := F4.out _ _ X6.out)
        | fail)
      have L56 := Lib.hid (below_only L5.out O6.out hg41)
      have LW6 := Lib.hid (LW1.out.trans (L56.out.mono LW1.out.size))
      have LS6 := Lib.hid (step LS1.out L56.out)
      have LR6 : Hid (Below w.heap.size wr w6) := LS6.out.mono LW.out.size
      have hg4 : wr.heap.size ≤ g4 := Nat.le_trans LS1.out.size hg41
      clear L5 O6 X4 L56 LW1 LS1
      try go_wp2
      rw [Exit.noGoto_ret]
      go_ret2
      exact HQ3.out _ _ ⟨_, [], rfl, OLst.nil _ _ _, rfl, LW6.out⟩
    have hn8 : ((n1 : Int) == 8) = false := by simp; omega
    by_cases hr : n1 = 0 ∧ z = true
    · obtain ⟨rfl, rfl⟩ := hr
      have HQ3 := Lib.hid (HQ.out _ (HRel.out hpe rfl rfl))
      clear HQ HS HRel HOn hpe hN1 hN2 hN3
      go_wp2_with fail
      refine CN.out.mono ?_
      rintro e w1 ⟨rfl, L1⟩
      have LW1 := Lib.hid (LW.out.trans (L1.mono LW.out.size))
      have LS1 := Lib.hid L1
      clear L1 CN
      go_wp2_with (first
        | ((with_reducible show wpList _ _ _ (⟨some 6, _, _, _, _, _⟩ :: _) _ _); refine wpList_alloc_blk rfl _ rfl zs _ ZH ?_; intro g4 w5 hg41 hg42 X4 L5)
        | ((with_reducible show wpList _ _ _ (⟨none, .store _ (.tmp 6) _, _, _, _, _⟩ :: _) _ _); refine wpList_store_blk rfl _ (.tmp 6) (.tmp 12) rfl g4 rfl _ zs cs rfl X4 26 size_hd HZ HL HOc ?_; intro w6 X6 O6 hg6; obtain ⟨gc4, gc5⟩ := F4.out _ _ X6.out)
        | fail)
      have L56 := Lib.hid (below_only L5.out O6.out hg41)
      have LW6 := Lib.hid (LW1.out.trans (L56.out.mono LW1.out.size))
      have LS6 := Lib.hid (step LS1.out L56.out)
      have LR6 : Hid (Below w.heap.size wr w6) := LS6.out.mono LW.out.size
      have hg4 : wr.heap.size ≤ g4 := Nat.le_trans LS1.out.size hg41
      clear L5 O6 X4 L56 LW1 LS1
      try go_wp2
      rw [Exit.noGoto_ret]
      go_ret2
      exact HQ3.out _ _ ⟨_, [], rfl, OLst.nil _ _ _, rfl, LW6.out⟩
    have HON := Lib.hid (HOn.out hpe (fun h => by cases z; rfl; exact absurd ⟨h, rfl⟩ hr))
    have hq8 : qs.length ≤ 5864062014800 := by rw [HQL.out]; omega
    have HQ8 := Lib.hid hq8
    have HZZ : (n1 = 0 ∧ z = false) ∨ (0 < n1 ∧ ((n1 : Int) == 0) = false) := by
      rcases Nat.eq_zero_or_pos n1 with h0 | h0
      · refine .inl ⟨h0, ?_⟩
        cases z
        · rfl
        · exact absurd ⟨h0, rfl⟩ hr
      · exact .inr ⟨h0, by simp; omega⟩
    clear hr HRel HOn HS hq8 hpe
    by_cases hN0 : N = 0
    · subst hN0
      have hq : splD xs = (0, rowsL qs ++ [r]) := by
        rw [HON.out, spl_last HPE.out HNT.out]
        rfl
      have HQ3 := Lib.hid (HQ.out _ hq)
      have CC := fun (w2 : World) (hb : Below w.heap.size wr w2) => Lib.hid (Clone_any w2 A' n' c' r ((HR.out.below hb).mono (Nat.le_trans LW.out.size hb.size)) (by omega))
      have HRB := Lib.hid HR.out.byte
      have HRL := Lib.hid HR.out.len
      clear HQ hq HON HNT hN1 hN2 hN3
      rcases HZZ with ⟨rfl, rfl⟩ | ⟨hp1, hp0⟩
      all_goals
        go_wp2_with fail
        refine CN.out.mono ?_
        rintro e w1 ⟨rfl, L1⟩
        have LW1 := Lib.hid (LW.out.trans (L1.mono LW.out.size))
        have LS1 := Lib.hid L1
        clear L1 CN
        go_wp2_with (first
          | ((with_reducible show wpList _ _ _ (⟨some 6, _, _, _, _, _⟩ :: _) _ _); refine wpList_alloc_blk rfl _ rfl zs _ ZH ?_; intro g4 w5 hg41 hg42 X4 L5)
          | ((with_reducible show wpList _ _ _ (⟨none, .store _ (.tmp 6) _, _, _, _, _⟩ :: _) _ _); refine wpList_store_blk rfl _ (.tmp 6) (.tmp 12) rfl g4 rfl _ zs cs rfl X4 26 size_hd HZ HL HOc ?_; intro w6 X6 O6 hg6; obtain ⟨gc4, gc5⟩ := F4.out _ _ X6.out)
          | fail)
        have L56 := Lib.hid (below_only L5.out O6.out hg41)
        have LW6 := Lib.hid (LW1.out.trans (L56.out.mono LW1.out.size))
        have LS6 := Lib.hid (step LS1.out L56.out)
        have LR6 : Hid (Below w.heap.size wr w6) := LS6.out.mono LW.out.size
        have hg4 : wr.heap.size ≤ g4 := Nat.le_trans LS1.out.size hg41
        clear L5 O6 X4 L56 LW1 LS1
        refine (CC w6 LR6.out).out.mono ?_
        rintro e w7 ⟨v7, rfl, o7, b7⟩
        obtain ⟨A7, c7, rfl, ob7⟩ := own_row o7 HRL.out
        have O6q := Lib.hid (HO.out.below LS6.out)
        have B7 := Lib.hid b7
        have OB7 := Lib.hid ob7
        have HX7 : Hid (r.length ≤ 140737488355328) := by show _ ≤ _; rw [HRL.out]; omega
        clear o7 b7 ob7 CC
        go_wp2_with (first
          | (at_builtin; refine wpList_append_row rfl (.tmp 50) (.tmp 53) rfl true w.heap.size _ qs (A7, n', c7, r) _ rfl rfl rfl O6q.out B7.out OB7.out HRB.out HX7.out HQ8.out LW6.out.size ?_; intro v8 w8 ho8 hb8)
          | fail)
        go_ret2
        exact HQ3.out _ _ ⟨_, _, rfl, ho8.out, by rw [rowsL_snoc], (LW6.out.trans (B7.out.mono LW6.out.size)).trans hb8.out⟩
    have hN64 : 64 ≤ N := by omega
    have hNz : ((N : Int) == 0) = false := by simp; omega
    have hS2 : splD xs = ahead (rowsL qs ++ [r.take N]) (spl f (r.drop N)) := by rw [HON.out, spl_step HPE.out (by rw [HNT.out]; exact hN0), HNT.out, ahead_ahead]
    obtain ⟨b, off, rfl, hbb, _⟩ := HR.out.cells (by omega)
    have hfc := HR.out.fit
    have HRB := Lib.hid (HR.out.byte.take N)
    have htl : (r.take N).length = N := by rw [List.length_take, HR.out.len]; omega
    have HTL := Lib.hid htl
    have CC := fun (w2 : World) (hb : Below w.heap.size wr w2) => Lib.hid (Clone_any w2 _ N N (r.take N) (((HR.out.cut0 hN1 (by omega)).below hb).mono (Nat.le_trans LW.out.size hb.size)) (by omega))
    have HS2 := Lib.hid hS2
    obtain ⟨R', hR'⟩ : ∃ R', R' = r.drop N := ⟨_, rfl⟩
    have HRR := Lib.hid hR'
    rw [← hR'] at HS2
    obtain ⟨T, hT⟩ : ∃ T, T = r.take N := ⟨_, rfl⟩
    rw [← hT] at HS2 HRB HTL CC
    clear hS2 HQ htl hR' hT hN0 HON HNT HPE hN2 hN3
    have HR2 : ∃ a2 : Nat, ((c' - N = 0 ∧ a2 = off) ∨ (¬ c' - N = 0 ∧ a2 = off + N)) ∧ ∀ w2, Below w.heap.size wr w2 → Holds w2 w.heap.size (some ⟨b, a2, none⟩) (n' - N) (c' - N) R' := by
      by_cases hcN : c' = N
      · obtain rfl : n' = N := by omega
        refine ⟨off, .inl ⟨by omega, rfl⟩, fun w2 _ => ?_⟩
        rw [HRR.out, List.drop_of_length_le (by rw [HR.out.len]; omega), hcN, Nat.sub_self]
        exact Holds.empty _ _ _ _ (fun h => by cases h)
      · refine ⟨off + N, .inr ⟨by omega, rfl⟩, fun w2 hb => ?_⟩
        rw [HRR.out]
        exact (HR.out.rest hN1 (by omega) hcN).below hb
    obtain ⟨a2, HA, HR3⟩ := HR2
    have HR4 := Lib.hid HR3
    clear HR3
    rcases HZZ with ⟨rfl, rfl⟩ | ⟨hp1, hp0⟩
    all_goals rcases HA with ⟨hcz, rfl⟩ | ⟨hcz, rfl⟩
    all_goals
      go_wp2_with fail
      refine CN.out.mono ?_
      rintro e w1 ⟨rfl, L1⟩
      have LW1 := Lib.hid (LW.out.trans (L1.mono LW.out.size))
      have LS1 := Lib.hid L1
      clear L1 CN
      go_wp2_with (first
        | ((with_reducible show wpList _ _ _ (⟨some 6, _, _, _, _, _⟩ :: _) _ _); refine wpList_alloc_blk rfl _ rfl zs _ ZH ?_; intro g4 w5 hg41 hg42 X4 L5)
        | ((with_reducible show wpList _ _ _ (⟨none, .store _ (.tmp 6) _, _, _, _, _⟩ :: _) _ _); refine wpList_store_blk rfl _ (.tmp 6) (.tmp 12) rfl g4 rfl _ zs cs rfl X4 26 size_hd HZ HL HOc ?_; intro w6 X6 O6 hg6; obtain ⟨gc4, gc5⟩ := F4.out _ _ X6.out)
        | fail)
      have L56 := Lib.hid (below_only L5.out O6.out hg41)
      have LW6 := Lib.hid (LW1.out.trans (L56.out.mono LW1.out.size))
      have LS6 := Lib.hid (step LS1.out L56.out)
      have LR6 : Hid (Below w.heap.size wr w6) := LS6.out.mono LW.out.size
      have hg4 : wr.heap.size ≤ g4 := Nat.le_trans LS1.out.size hg41
      clear L5 O6 X4 L56 LW1 LS1
      refine (CC w6 LR6.out).out.mono ?_
      rintro e w7 ⟨v7, rfl, o7, b7⟩
      obtain ⟨A7, c7, rfl, ob7⟩ := own_row o7 HTL.out
      have O6q := Lib.hid (HO.out.below LS6.out)
      have B7 := Lib.hid b7
      have OB7 := Lib.hid ob7
      have X7 := Lib.hid (X6.out.over b7)
      have hnb : (Value.slice A1 _ c1).ownBlock ≠ some g4 := fun h => by
        obtain ⟨_, _, h2⟩ := HO.out.row.block h
        have := (Array.getElem?_eq_some_iff.1 h2).1
        omega
      have HX7 : Hid (T.length ≤ 140737488355328) := by show _ ≤ _; rw [HTL.out]; omega
      clear o7 b7 ob7 CC
      go_wp2_with (first
        | (at_builtin; refine wpList_append_rowK rfl (.tmp 36) (.tmp 44) rfl true w.heap.size _ qs (A7, N, c7, T) _ rfl rfl rfl O6q.out B7.out OB7.out HRB.out HX7.out HQ8.out LW6.out.size ?_; intro v8 w8 ho8 hb8 hG8; have X8 := Lib.hid (hG8.out.block X7.out hnb); have gc5' := (F4.out _ _ X8.out).2; obtain ⟨A8, n8, c8, rfl, hl8⟩ := ho8.out.lst; obtain rfl : n8 = _ + 1 := by have h1 := hl8.row.len; rw [List.length_append, HQL.out] at h1; exact h1.symm)
        | fail)
      have LW8 := Lib.hid ((LW6.out.trans (B7.out.mono LW6.out.size)).trans hb8.out)
      have LR8 : Hid (Below w.heap.size wr w8) := ((LR6.out).trans (B7.out.mono LW6.out.size)).trans hb8.out
      go_roundw
      case rel => exact ⟨f, _, _, _, _, _, _, R', rfl, rfl, by omega, by omega, (by have hh := HR4.out _ LR8.out; first | exact hh | (rw [hcz] at hh; exact hh)), ⟨_, ho8.out, by show _ = _; rw [List.length_append, HQL.out]; rfl, .inr ⟨by omega, by rw [HS2.out, rowsL_snoc]⟩⟩, LW8.out⟩
      case measure => simp only [lenV]; omega
end Go.Proofs.YtgfflnjggnadpaaDoor

namespace Go.Proofs.YtgfflnjggnadpaaDoor
set_option linter.all false
set_option maxRecDepth 100000
open Go.RowKit
set_option linter.unusedVariables false
theorem Lst.of_parts {w : World} {g m : Nat} {l : List PartT} (hm : l.length = m) (h : Parts w g m (partA l) (partN l) (partC l) (partX l)) : Lst w w.heap.size (some ⟨g, 0, none⟩) m m l := by
  have key : ∀ i x, l[i]? = some x → l.getD i part0 = x ∧ i < m := fun i x hx => ⟨by rw [List.getD_eq_getElem?_getD, hx]; rfl, by rw [← hm]; exact (List.getElem?_eq_some_iff.1 hx).1⟩
  refine ⟨⟨hm, Nat.le_refl _, (fun hA => by cases hA), fun h0 => ⟨g, 0, rfl, h.lt, fun i x hx => ?_⟩⟩, fun p hp => ?_⟩
  · obtain ⟨h1, h2⟩ := key i x hx
    have := h.cell i h2
    unfold partA partN partC at this
    rw [h1] at this
    rw [Nat.zero_add]
    exact this
  · obtain ⟨i, hi, rfl⟩ := List.mem_iff_getElem.1 hp
    obtain ⟨h1, h2⟩ := key i _ (List.getElem?_eq_getElem hi)
    have := h.holds i h2
    unfold partA partN partC partX at this
    rw [h1] at this
    exact this
theorem OLst.heads {Z : Bool} {w : World} {base : Nat} {v : Value} {ps : List PartT} (h : OLst Z w base v ps) (hn : 0 < ps.length) : ∃ g c, v = .slice (some ⟨g, 0, none⟩) ps.length c ∧ base ≤ g ∧ g < w.heap.size ∧ ∀ i p, ps[i]? = some p → w.cell? ⟨g, i, none⟩ = some (partV p) := by
  obtain ⟨A, n, c, rfl, hl, _, _, _, hc⟩ := h.row.open
  obtain ⟨g, rfl, hg, hg2, hcc⟩ := hc (by omega)
  exact ⟨g, c, by rw [hl], hg, hg2, hcc⟩
def echC : Hd := { zeroHd with cm := 13 }
theorem echC_ok : echC.ok := ⟨by decide, by decide, by decide, by decide, by decide, by decide, by decide, by decide, by decide, by decide, by decide, Bytes.zeros 16⟩
theorem echC_may : mayP echC = true := by decide
def echB : List Int := putH echC ++ [0, 0, 0, 0]
theorem echB_len : echB.length = 68 := by
  unfold echB
  rw [List.length_append, putH_len echC_ok.len]
  rfl
theorem echB_bytes : Bytes echB := (putH_bytes echC_ok.byte).append (Bytes.of_all rfl)
theorem echB_ok : msgOk echB = true := by
  have h := get_begin echC_ok echC_may [0, 0, 0, 0]
  refine msgOk_ok h.1 ?_
  unfold echB
  rw [h.2]
  rfl
theorem echB_fl : (getOfH echB 0).fl = 0 := by
  have h := get_begin echC_ok echC_may [0, 0, 0, 0]
  unfold echB
  rw [h.2]
  rfl
theorem pad68 : padLen 68 = 72 := by decide
theorem echo_err : chainErr [echB, echB] = 0 := by
  unfold chainErr
  rw [if_neg (by simp [echB_ok]), if_neg (by simp)]
theorem echo_seal : sealL [] [echB, echB] = [rawC false echB, echB] := rfl
theorem echo_msgs : Msgs [echB, echB] := fun m hm => by
  have e : m = echB := by simpa using hm
  subst e
  exact ⟨echB_bytes, echB_ok, by rw [echB_len, pad68]; omega⟩
theorem raw_len : (rawC false echB).length = 72 := by
  rw [rawC_len false echB (by rw [echB_len]; omega), if_neg (by decide), echB_len, pad68]
theorem echo_chain : sealOf [] [echB, echB] = rawC false echB ++ echB := by
  unfold sealOf
  rw [if_pos echo_err, catL_seal, echo_seal]
  simp
theorem echo_begin : partE (rawC false echB ++ echB) = 0 ∧ nxt (rawC false echB ++ echB) = 72 ∧ (getOfH (rawC false echB ++ echB) 0).fl = 0 := by
  have h := part_begin [] false echB_bytes echB_ok (by rw [echB_len, pad68]; omega) echB (fun h => by cases h)
  rw [if_pos rfl, echB_fl, if_neg (by decide)] at h
  have e : sealC [] false echB = rawC false echB := rfl
  rw [e, raw_len] at h
  exact h
theorem echo_split : splD (rawC false echB ++ echB) = (0, [rawC false echB, echB]) := by
  have h := spl_seal [] [echB, echB] 8 (by simp) (by simp) echo_msgs
  rw [echo_seal] at h
  have e : [rawC false echB, echB].flatten = rawC false echB ++ echB := by simp
  rw [e] at h
  have hr : relH (rawC false echB ++ echB) = false := by
    unfold relH
    rw [echo_begin.2.2]
    rfl
  unfold splD
  rw [echo_begin.1, h, hr]
  rfl
theorem echo_next : (getOfH (rawC false echB ++ echB) 0).nx = 72 ∧ getErrH (rawC false echB ++ echB) 0 = 0 := by
  have h := echo_begin
  have h2 := partE_ok h.1
  refine ⟨?_, h2.1⟩
  have := h.2.1
  unfold nxt at this
  omega
theorem none_part : partE [] = 4 := by decide
theorem none_split : splD [] = (4, []) := by
  unfold splD
  rw [none_part]
  rfl
theorem none_chain : chainErr [] = 2 := by decide
set_option maxHeartbeats 1000000 in
theorem echo_anyC (w : World) : Calls Tryd.prog 32 #[] w fun e w' => ∃ A c, e = .returned (.slice A 68 c) ∧ Own w' w.heap.size (.slice A 68 c) echB ∧ Below w.heap.size w w' := by
  have CP := fun (w : World) => RPutH_any w echC echC_ok
  unfold putOfH putErrH at CP
  simp only [if_pos echC_may] at CP
  have HL := Lib.hid (hcells_len echC_ok)
  have BE : Tryd.prog.built 49 [(2, .int .u16 13)] = some (hcells echC).toArray := by kernel_rfl
  have HPL : Hid ((putH echC).length = 64) := putH_len echC_ok.len
  have hlen := echB_len
  have hE : echB = putH echC ++ [0, 0, 0, 0] := rfl
  obtain ⟨E, hEE⟩ : ∃ E, E = echB := ⟨_, rfl⟩
  rw [← hEE] at hlen hE ⊢
  obtain ⟨us, hus⟩ : ∃ us, us = putH echC := ⟨_, rfl⟩
  obtain ⟨cs, hcs⟩ : ∃ cs, cs = hcells echC := ⟨_, rfl⟩
  unfold hv at CP
  simp only [← hus, ← hcs] at CP
  rw [← hcs] at HL BE
  rw [← hus] at HPL hE
  have HE := Lib.hid hE
  have HEL := Lib.hid hlen
  have CP' := Lib.hid CP
  clear hus hcs CP hE hlen hEE
  go_enter Tryd.func32, Tryd.ntmps32
  go_wp2_with (first
    | ((with_reducible show wpList _ _ _ (⟨some 4, _, _, _, _, _⟩ :: _) _ _); refine wpList_build_blk rfl _ _ rfl cs (by refine Eq.trans ?_ BE; kernel_rfl) ?_)
    | fail)
  refine (CP'.out w).mono ?_
  rintro e w1 ⟨v1, rfl, o1, b1⟩
  have O1 := Lib.hid o1
  have B1 := Lib.hid b1
  have hx : Hid (Holds (w1.alloc (.cells #[.int .u8 0, .int .u8 0, .int .u8 0, .int .u8 0] 5)) (w1.heap.size + 1) (some ⟨w1.heap.size, 0, none⟩) 4 4 [0, 0, 0, 0]) := Holds.lit w1 [0, 0, 0, 0] _ _ 4 rfl rfl rfl (Bytes.of_all rfl) (by omega)
  have bx : Hid (Below w1.heap.size w1 (w1.alloc (.cells #[.int .u8 0, .int .u8 0, .int .u8 0, .int .u8 0] 5))) := (Below.refl _ w1).alloc (Nat.le_refl _) _
  have O2 : Hid (Own (w1.alloc (.cells #[.int .u8 0, .int .u8 0, .int .u8 0, .int .u8 0] 5)) w.heap.size v1 us) := o1.alloc _
  have hsz : Hid (w.heap.size ≤ (w1.alloc (.cells #[.int .u8 0, .int .u8 0, .int .u8 0, .int .u8 0] 5)).heap.size) := by have := b1.size; show _ ≤ _; simp; omega
  clear o1 b1 O1
  go_wp2_with (first
    | (at_builtin; refine wpList_append_bytes rfl (.tmp 8) (.tmp 9) rfl w.heap.size _ us rfl O2.out _ (some ⟨w1.heap.size, 0, none⟩) 4 4 [0, 0, 0, 0] rfl hx.out (by rw [HPL.out]; decide) hsz.out ?_; intro v3 w3 o3 b3 g3; rw [← HE.out] at o3; obtain ⟨A3, c3, hv3⟩ := o3.out.len; rw [HEL.out] at hv3; subst hv3)
    | fail)
  go_ret
  exact ⟨A3, c3, rfl, o3.out, (B1.out.trans (bx.out.mono B1.out.size)).trans b3⟩
set_option maxHeartbeats 4000000 in
theorem livesC_any (w : World) (hK : KTab w) : Calls Tryd.prog 15 #[] w fun e w' => e = .returned (.bool true) ∧ Below w.heap.size w w' := by
  have CE := fun (w : World) => Lib.hid (echo_anyC w)
  have HB := Lib.hid echB_bytes
  have HLn := Lib.hid echB_len
  have CJ := fun (w : World) (g A1 c1 A2 c2) (h : Lst w w.heap.size (some ⟨g, 0, none⟩) 2 2 [(A1, 68, c1, echB), (A2, 68, c2, echB)]) hK => Join_anyC w _ 2 2 _ h (by omega) (by
    intro p hp
    rcases List.mem_cons.1 hp with rfl | hp
    · show 68 ≤ _; omega
    · obtain rfl := List.mem_singleton.1 hp
      show 68 ≤ _; omega) hK
  unfold SealPost at CJ
  have hr : ∀ A1 c1 A2 c2, rowsL [(A1, 68, c1, echB), (A2, 68, c2, echB)] = [echB, echB] := fun _ _ _ _ => rfl
  simp only [hr, echo_err, echo_chain] at CJ
  have hBl : (rawC false echB ++ echB).length = 140 := by rw [List.length_append, raw_len, echB_len]
  have hBb : Bytes (rawC false echB ++ echB) := (rawC_bytes false echB_bytes).append echB_bytes
  have CS := fun (w : World) (A c) (h : Holds w w.heap.size A 140 c (rawC false echB ++ echB)) => Split_any w A 140 c _ h (by omega)
  unfold SplitPost at CS
  simp only [echo_split] at CS
  have CN := fun (w : World) (A c) (h : Holds w w.heap.size A 140 c (rawC false echB ++ echB)) => NextC_any w A 140 c _ h
  unfold NextPost at CN
  simp only [echo_next.1, echo_next.2] at CN
  have CS0 := fun (w : World) => Split_any w none 0 0 [] (Holds.nil _ _) (by omega)
  unfold SplitPost at CS0
  simp only [none_split] at CS0
  have CJ0 := fun (w : World) hK => Join_anyC w none 0 0 [] (Lst.nil _ _) (by omega) (fun p hp => by cases hp) hK
  unfold SealPost at CJ0
  have hr0 : rowsL [] = [] := rfl
  simp only [hr0, none_chain] at CJ0
  have hrl := raw_len
  obtain ⟨B, hB⟩ : ∃ B, B = rawC false echB ++ echB := ⟨_, rfl⟩
  simp only [← hB] at CJ CS CN
  rw [← hB] at hBl hBb
  obtain ⟨X0, hX0⟩ : ∃ X, X = rawC false echB := ⟨_, rfl⟩
  rw [← hX0] at hrl
  simp only [← hX0] at CS
  obtain ⟨E, hE⟩ : ∃ E, E = echB := ⟨_, rfl⟩
  rw [← hE] at HB HLn
  simp only [← hE] at CE CJ CS
  have CJ' := Lib.hid CJ
  have CS' := Lib.hid CS
  have CN' := Lib.hid CN
  have CS0' := Lib.hid CS0
  have CJ0' := Lib.hid CJ0
  have HBl := Lib.hid hBl
  have HBb := Lib.hid hBb
  have HRL := Lib.hid hrl
  have HK := Lib.hid hK
  clear CJ CS CN CS0 CJ0 hBl hBb hrl hB hX0 hE hr hr0 hK
  go_enter Tryd.func15, Tryd.ntmps15
  go_wp2_with fail
  refine (CE w).out.mono ?_
  rintro e w1 ⟨A1, c1, rfl, o1, b1⟩
  have O1 := Lib.hid o1
  have B1 := Lib.hid b1
  clear o1 b1
  go_wp2_with fail
  refine (CE w1).out.mono ?_
  rintro e w2 ⟨A2, c2, rfl, o2, b2⟩
  have H1 := Lib.hid ((O1.out.below b2).holds_at HLn.out HB.out (by omega))
  have H2 := Lib.hid (o2.holds_at HLn.out HB.out (by omega))
  have B2 := Lib.hid (step B1.out b2)
  clear o2 b2 O1 B1 CE
  go_wp2_with (first
    | ((with_reducible show wpList _ _ _ (⟨some 14, _, _, _, _, _⟩ :: _) _ _); refine wpList_litParts rfl 2 _ rfl [(A1, 68, c1, E), (A2, 68, c2, E)] rfl (by kernel_rfl) (List.forall_mem_cons.2 ⟨H1.out, List.forall_mem_cons.2 ⟨H2.out, fun _ h => by cases h⟩⟩) ?_; intro g3 w3 P3 b3)
    | fail)
  have L3 := Lib.hid (Lst.of_parts (l := [(A1, 68, c1, E), (A2, 68, c2, E)]) (m := 2) rfl P3.out)
  have B3 := Lib.hid (step B2.out b3.out)
  clear P3 b3 H1 H2 B2
  refine (CJ'.out w3 g3 A1 c1 A2 c2 L3.out (HK.out.below B3.out)).mono ?_
  rintro e w4 ⟨v4, rfl, o4, b4⟩
  obtain ⟨A4, c4, rfl, h4⟩ := Own.holds (show Own _ _ _ _ from o4.own) HBb.out (by rw [HBl.out]; omega)
  rw [HBl.out] at h4 ⊢
  have H4 := Lib.hid h4
  have B4 := Lib.hid (step B3.out b4)
  clear o4 h4 b4 L3 B3 CJ'
  go_wp2_with fail
  refine (CS'.out w4 A4 c4 H4.out).mono ?_
  rintro e w5 ⟨v5, ps, rfl, o5, r5, b5⟩
  obtain ⟨p0, p1, rfl⟩ : ∃ p0 p1, ps = [p0, p1] := by
    match ps, r5 with
    | [p0, p1], _ => exact ⟨p0, p1, rfl⟩
  obtain ⟨g5, c5, rfl, hg5, hg52, hc5⟩ := o5.heads (by simp)
  have e0 := hc5 0 p0 rfl
  have e1 := hc5 1 p1 rfl
  have l5 := o5.each
  have q0 : p0.2.2.2 = X0 ∧ p1.2.2.2 = E := by
    have : [p0.2.2.2, p1.2.2.2] = [X0, E] := r5
    injection this with h1 h2
    injection h2 with h2
    exact ⟨h1, h2⟩
  have h50 := (l5 p0 (by simp)).1.holds (l5 p0 (by simp)).2.1 (l5 p0 (by simp)).2.2
  have h51 := (l5 p1 (by simp)).1.holds (l5 p1 (by simp)).2.1 (l5 p1 (by simp)).2.2
  have n0 : p0.2.1 = 72 := by rw [← h50.len, q0.1, HRL.out]
  have n1 : p1.2.1 = 68 := by rw [← h51.len, q0.2, HLn.out]
  unfold partV at e0 e1
  rw [n0] at e0
  rw [n1] at e1
  have E0 := Lib.hid e0
  have E1 := Lib.hid e1
  have HG := Lib.hid hg52
  have H5 := Lib.hid (H4.out.over b5)
  have B5 := Lib.hid (step B4.out b5)
  clear e0 e1 hc5 l5 q0 h50 h51 n0 n1 o5 r5 b5 H4 B4 CS' hg52
  go_wp2_with fail
  refine (CN'.out w5 A4 c4 H5.out).mono ?_
  rintro e w6 ⟨rfl, b6⟩
  have B6 := Lib.hid (step B5.out b6)
  have E06 : Hid (w6.cell? ⟨g5, 0, none⟩ = _) := (b6.cell HG.out).trans E0.out
  have E16 : Hid (w6.cell? ⟨g5, 1, none⟩ = _) := (b6.cell HG.out).trans E1.out
  have HG6 : Hid (g5 < w6.heap.size) := Nat.lt_of_lt_of_le HG.out b6.size
  clear b6 H5 B5 E0 E1 HG CN'
  go_wp2_with fail
  refine (CS0'.out w6).mono ?_
  rintro e w7 ⟨v7, ps7, rfl, o7, r7, b7⟩
  have B7 := Lib.hid (step B6.out b7)
  have E07 : Hid (w7.cell? ⟨g5, 0, none⟩ = _) := (b7.cell HG6.out).trans E06.out
  have E17 : Hid (w7.cell? ⟨g5, 1, none⟩ = _) := (b7.cell HG6.out).trans E16.out
  have HG7 : Hid (g5 < w7.heap.size) := Nat.lt_of_lt_of_le HG6.out b7.size
  have K7 := Lib.hid (HK.out.below B7.out)
  clear b7 o7 r7 B6 E06 E16 HG6 CS0'
  go_wp2_with fail
  refine (CJ0'.out w7 K7.out).mono ?_
  rintro e w8 ⟨v8, rfl, o8, b8⟩
  have B8 := Lib.hid (step B7.out b8)
  have e0 := (b8.cell (p := ⟨g5, 0, none⟩) HG7.out).trans E07.out
  have e1 := (b8.cell (p := ⟨g5, 1, none⟩) HG7.out).trans E17.out
  clear b8 o8 B7 E07 E17 HG7 CJ0'
  dsimp only [List.length_cons, List.length_nil] at *
  go_wp2_with fail
  go_ret
  exact ⟨rfl, B8.out⟩
end Go.Proofs.YtgfflnjggnadpaaDoor

namespace Go.Proofs.YtgfflnjggnadpaaDoor
set_option linter.all false
set_option maxRecDepth 100000
open Go.RowKit
theorem cube_data : (Rows.laid_refectory_sha_cubeRoots : DataW Unit) = Lib.tabData .u32 KK := by kernel_rfl
theorem tabs_of_laid {W : World} (hL : laidMetH Tryd.prog [("refectory/sha.cubeRoots", Rows.laid_refectory_sha_cubeRoots)] W) : KTab W := by
  rw [cube_data] at hL
  have hT := Lib.tabIs_of_head (P := Tryd.prog) (g := 0) (t := 105) (e := 44) (n := 64) (by kernel_rfl) (by kernel_rfl) Tryd.underlying105 Tryd.underlying44 (by kernel_rfl) (by kernel_rfl) hL
  exact fun i hi => hT.cell (by kernel_rfl) i hi
/-- A WORLD FOR THE WITNESS: the settled one, the variable holding what its initialiser lays. -/
noncomputable def laidWorld (os : Os) : World :=
  let w0 := World.holding Tryd.prog os ⟨#[], #[], []⟩
  { w0 with heap := w0.heap.modify 0 fun
    | .cells _ t frozen => .cells (KK.map fun z => Value.int .u32 z).toArray t frozen
    | o => o }
theorem laid_met (os : Os) (args : Array Value) : laidMet Tryd.prog [("refectory/sha.cubeRoots", Rows.laid_refectory_sha_cubeRoots)] ((laidWorld os).forCall (fun _ _ => 0) ⟨#[], args, []⟩).memory :=
  laidMet_of_run' 8 (by kernel_rfl) (by kernel_rfl)
end Go.Proofs.YtgfflnjggnadpaaDoor
