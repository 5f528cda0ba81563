import Derived.WalkKit
import Derived.Deep.Draws
import Derived.Laws.Rows
import Derived.Laws.OwnMore
import Derived.Test.YtgfflnjggnadpaaDoorRows
import Derived.WalkSpells
import Derived.WalkLawsBesides
import Derived.Deep.QuietTactic
import Derived.BigQuiet
import Derived.Lib.Hide
import Derived.Laws.Bits64
import Derived.Laws.BitsAllLaws
import Derived.Laws.CopyOwn
import Derived.Laws.AppendOwnNone
import Derived.OpenShut
import Derived.Laws.Tables
import Derived.Laws.NewFold
import Derived.Deep.WholeRow
import Derived.StillTailTactics
import Derived.Deep.RegionLaw
import Derived.Lib.AppendZeros
import Derived.Deep.RegionWith
import Derived.Deep.DeepCutAuto
import Derived.OrdersHeld
import Derived.Laws.StructEq
import Derived.ChangeKeysEq
import Derived.Laws.AppendOwn
import Derived.OwnWalk
import Derived.Lib.OthersKept
import Derived.Laws.BytesArg
import Derived.Laws.IdiomStrings
import Derived.ProofKit
import Derived.ShutString
import Derived.SizedLaws
import Derived.ChangeOld
import Derived.Great.Walk
import Derived.Deep.MidRow
import Derived.Lib.SliceRun
import Derived.OneCell
import Derived.Deep.Strs
import Derived.Deep.Slices
import Derived.Laws.MakeOwn
import Derived.Test.YtgfflnjggnadpaaDoorWAC
import Derived.Test.YtgfflnjggnadpaaDoorWAD
import Derived.Test.YtgfflnjggnadpaaDoorWAE
import Derived.Test.YtgfflnjggnadpaaDoorWAF
import Derived.Test.YtgfflnjggnadpaaDoorWAI
import Derived.Test.YtgfflnjggnadpaaDoorWAJ
import Derived.Test.YtgfflnjggnadpaaDoorWAK
namespace Go.Proofs.YtgfflnjggnadpaaDoor
set_option linter.all false
set_option maxRecDepth 100000
open Go.RowKit
/-- what the document's Pad answers -/
def RPadPost (w : World) (xs : List Int) (e : Ending) (w' : World) : Prop := ∃ v, e = .returned v ∧ Own w' w.heap.size v (padOf xs) ∧ Below w.heap.size w w'
set_option maxHeartbeats 400000 in
theorem RPad_any (w : World) (A : Option Addr) (n c : Nat) (xs : List Int) (h : Holds w w.heap.size A n c xs) (hn : n ≤ 140737488355320) :
    Calls Tryd.prog 45 #[.slice A n c] w (RPadPost w xs) := by
  have hl := Lib.hid h.len
  have hq : ∀ e w', (∃ v, e = .returned v ∧ Own w' w.heap.size v (xs ++ List.replicate (padLen n - n) 0) ∧ Below w.heap.size w w') → RPadPost w xs e w' := by
    intro e w' hh
    unfold RPadPost padOf
    rw [hl.out]
    exact hh
  have HQ := Lib.hid hq
  have hpn : n ≤ padLen n ∧ padLen n ≤ n + 7 := by unfold padLen; omega
  have hxl : xs.length ≤ 140737488355328 := by have := hl.out; omega
  clear hq
  go_enter Tryd.func45, Tryd.ntmps45
  go_wp2_with (at_builtin; refine wpList_append_bytes rfl (.tmp 4) (.tmp 5) rfl w.heap.size _ [] rfl (Own.nil _ _) w.heap.size A n c xs rfl h (by simpa using hxl) (Nat.le_refl _) ?_; intro v1 w1 ho1 hb1 hgr)
  go_loopw [3] (fun v wr => ∃ m B' c', n ≤ m ∧ m ≤ padLen n ∧ v = .slice B' m c' ∧ Hid (Own wr w.heap.size v (xs ++ List.replicate (m - n) 0)) ∧ Below w.heap.size w wr) (fun v _ => match v with | .slice _ m _ => padLen n - m | _ => 0)
  case atStart =>
    have ho := ho1.out
    rw [List.nil_append] at ho
    obtain ⟨B', c', rfl⟩ := ho.len
    exact ⟨n, B', c', Nat.le_refl _, hpn.1, by rw [hl.out], by rw [Nat.sub_self]; show Own _ _ _ _; simpa using ho, hb1⟩
  case round =>
    obtain ⟨m, B', c', hm1, hm2, rfl, HO, hb⟩ := hrel
    have hlm : (xs ++ List.replicate (m - n) (0 : Int)).length = m := by have := hl.out; simp; omega
    by_cases hlt : m < padLen n
    · have hne : ((m : Int) % 8 != 0) = true := by rw [bne_iff_ne]; unfold padLen at hlt; omega
      have hlen : (xs ++ List.replicate (m - n) (0 : Int)).length + [(0 : Int)].length ≤ 140737488355328 := by rw [hlm]; simp; omega
      have hbs := hb.size
      have HL := Lib.hid hlm
      clear hlm
      go_wp2_with (at_builtin; refine wpList_append_bytes rfl (.tmp 11) (.tmp 12) rfl w.heap.size _ _ rfl (HO.out.alloc _) _ _ 1 1 [0] rfl (Holds.single wr 0 (by omega)) hlen (by simp; omega) ?_; intro v2 w2 ho2 hb2 hgr)
      have ho := ho2.out
      obtain ⟨B2, c2, hv2⟩ := ho.len
      have e2 : (xs ++ List.replicate (m - n) (0 : Int) ++ [0]).length = m + 1 := by rw [List.length_append, HL.out]; rfl
      rw [e2] at hv2
      subst hv2
      have e3 : xs ++ List.replicate (m - n) (0 : Int) ++ [0] = xs ++ List.replicate (m + 1 - n) 0 := by
        rw [List.append_assoc, show m + 1 - n = (m - n) + 1 from by omega, List.replicate_succ']
      rw [e3] at ho
      go_roundw
      case rel => exact ⟨m + 1, B2, c2, by omega, by omega, rfl, ho, (hb.alloc hb.size _).trans hb2⟩
      case measure => show padLen n - (m + 1) < padLen n - m; omega
    · have e : m = padLen n := by omega
      have hne : ((m : Int) % 8 != 0) = false := by rw [e]; unfold padLen; simp
      have hS : Hid (Own wr w.heap.size (.slice B' m c') (xs ++ List.replicate (padLen n - n) 0)) := by rw [← e]; exact HO
      clear HO e hlm
      go_wp2
      go_ret
      exact HQ.out _ _ ⟨_, rfl, hS, hb⟩
end Go.Proofs.YtgfflnjggnadpaaDoor

namespace Go.Proofs.YtgfflnjggnadpaaDoor
set_option linter.all false
set_option maxRecDepth 100000
open Go.RowKit
set_option linter.unusedVariables false
/-- the first j of the bytes Z laid over m from 20 on -/
def overN (m Z : List Int) (j : Nat) : List Int := m.take 20 ++ (Z.take j ++ m.drop (20 + j))
theorem overN_zero (m Z : List Int) : overN m Z 0 = m := by simp [overN]
theorem overN_set (m Z : List Int) (j : Nat) (hm : 24 ≤ m.length) (hZ : Z.length = 4) (hj : j < 4) : (overN m Z j).set (20 + j) (Z.getD j 0) = overN m Z (j + 1) := by
  have hl : (m.take 20 ++ Z.take j).length = 20 + j := by simp [hZ]; omega
  have hd : 20 + j < m.length := by omega
  have hx : j < Z.length := by omega
  unfold overN
  rw [← List.append_assoc, List.set_append_right _ _ (by omega), hl, Nat.sub_self, List.drop_eq_getElem_cons hd, List.set_cons_zero, List.take_succ_eq_append_getElem hx, show Z.getD j 0 = Z[j] by simp [hx]]
  simp only [List.append_assoc, List.cons_append, List.nil_append, Nat.add_assoc]
theorem overN_four (m : List Int) (n : Int) : overN m (le n 4) 4 = setNx m n := by
  unfold overN setNx
  rw [List.take_of_length_le (l := le n 4) (by rw [le_length]; omega), List.append_assoc]
theorem overN_len (m Z : List Int) (j : Nat) (hm : 24 ≤ m.length) (hZ : Z.length = 4) (hj : j ≤ 4) : (overN m Z j).length = m.length := by simp [overN, hZ]; omega
/-- one behind the other -/
def JoinedPost (w : World) (L : List (List Int)) (e : Ending) (w' : World) : Prop := ∃ v, e = .returned v ∧ OwnZ .u8 5 w' w.heap.size v L.flatten ∧ Below w.heap.size w w'
set_option maxHeartbeats 2000000 in
theorem joined_any (w : World) (A : Option Addr) (n c : Nat) (ps : List PartT) (h : Lst w w.heap.size A n c ps) (hn : n ≤ 5864062014634) (hs : (rowsL ps).flatten.length ≤ 140737488355328) :
    Calls Tryd.prog 31 #[.slice A n c] w (JoinedPost w (rowsL ps)) := by
  have HH := Lib.hid h
  have HS := Lib.hid hs
  have hl : (rowsL ps).length = n := by rw [rowsL, List.length_map]; exact h.row.len
  have HLn := Lib.hid hl
  clear h hs hl
  go_enter Tryd.func31, Tryd.ntmps31
  go_wp2_with fail
  go_loopw [3, 4] (fun v i wr => ∃ k : Nat, k ≤ n ∧ i = .int .i64 k ∧ Hid (OwnZ .u8 5 wr w.heap.size v ((rowsL ps).take k).flatten) ∧ Below w.heap.size w wr) (fun _ i _ => n - (intOf i).toNat)
  case atStart => exact ⟨0, by omega, rfl, OwnZ.nil _ _ _ _, Below.refl _ _⟩
  case round =>
    obtain ⟨k, hk, rfl, hO, hb⟩ := hrel
    by_cases hlt : k < n
    · obtain ⟨b, off, p, rfl, hbb, hp, hcell, hhp⟩ := (HH.out.below hb).at hlt
      have hxk : (rowsL ps)[k]? = some p.2.2.2 := by rw [rowsL, List.getElem?_map, hp]; rfl
      have hfl := flatten_take_succ hxk
      have hlen : (((rowsL ps).take k).flatten ++ p.2.2.2).length ≤ 140737488355328 := by
        rw [← hfl]
        exact Nat.le_trans (flatten_take_le _ _) HS.out
      have HFL := Lib.hid hfl
      have hsz := Lib.hid hb.size
      obtain ⟨⟨pA, pn, pc, px⟩, hpe⟩ : ∃ q, q = p := ⟨_, rfl⟩
      rw [← hpe] at hcell hhp hlen HFL
      dsimp only at hcell hhp hlen HFL
      rw [List.length_append] at hlen
      have HLE := Lib.hid hlen
      have HP := Lib.hid hhp
      obtain ⟨fs, hfs⟩ : ∃ fs, fs = ((rowsL ps).take k).flatten := ⟨_, rfl⟩
      rw [← hfs] at hO HLE HFL
      clear hp hpe hxk hfl hlen hhp hfs
      go_wp2_with (first
        | (at_builtin; refine wpList_append_bytesZ rfl (.tmp 11) (.tmp 15) rfl w.heap.size _ fs rfl hO.out w.heap.size pA pn pc px rfl HP.out HLE.out hsz.out ?_; intro v2 w2 ho2 hb2)
        | fail)
      go_roundw
      case rel => exact ⟨k + 1, by omega, by go_num, by rw [HFL.out]; exact ho2, hb.trans hb2⟩
      case measure => simp [intOf]; omega
    · obtain rfl : k = n := by omega
      have e1 : (rowsL ps).take k = rowsL ps := List.take_of_length_le (by rw [HLn.out]; omega)
      rw [e1] at hO
      clear e1
      go_wp2_with fail
      go_ret
      exact ⟨_, rfl, hO.out, hb⟩
/-- what parts answers -/
def PartsPost (w : World) (L : List (List Int)) (e : Ending) (w' : World) : Prop :=
  ((chainErr L ≠ 0 ∧ e = .returned (.tuple #[.slice none 0 0, .int .i64 (chainErr L)])) ∨
    (chainErr L = 0 ∧ ∃ v qs, e = .returned (.tuple #[v, .int .i64 0]) ∧ OLst false w' w.heap.size v qs ∧ rowsL qs = (List.range L.length).map (sealX [] L))) ∧ Below w.heap.size w w'
theorem putOf_four (N : Nat) (h : N ≤ 4294967295) : putOf (N : Int) 4 = le (N : Int) 4 ∧ putErr (N : Int) 4 = 0 := by
  have e : (256 : Int) ^ (4 : Int).toNat = 4294967296 := by decide
  have h1 : putOk (N : Int) 4 = true := by unfold putOk; rw [e, decide_eq_true (by omega)]; decide
  unfold putOf putErr
  rw [if_pos h1, if_pos h1]
  exact ⟨rfl, rfl⟩
set_option maxHeartbeats 8000000 in
theorem parts_any (w : World) (A : Option Addr) (n c : Nat) (ps : List PartT) (h : Lst w w.heap.size A n c ps) (hn : n ≤ 1048576) (hs : ∀ p ∈ ps, p.2.1 ≤ 4294967000) :
    Calls Tryd.prog 30 #[.slice A n c] w (PartsPost w (rowsL ps)) := by
  have hl : (rowsL ps).length = n := by rw [rowsL, List.length_map]; exact h.row.len
  have HLn := Lib.hid hl
  have HQ2 : Hid (((rowsL ps).length = 0 ∨ (rowsL ps).all msgOk = false) → ∀ e w', (e = .returned (.tuple #[.slice none 0 0, .int .i64 2]) ∧ Below w.heap.size w w') → PartsPost w (rowsL ps) e w') := by
    rintro hh e w' ⟨rfl, hb⟩
    have h2 : chainErr (rowsL ps) = 2 := by unfold chainErr; rw [if_pos hh]
    exact ⟨.inl ⟨by rw [h2]; decide, by rw [h2]⟩, hb⟩
  have HBY : Hid (∀ m ∈ rowsL ps, Bytes m ∧ m.length ≤ 4294967000) := fun m hm => by
    obtain ⟨p, hp, rfl⟩ := List.mem_map.1 hm
    have h1 := h.each p hp
    exact ⟨h1.byte, by rw [h1.len]; exact hs p hp⟩
  have HH := Lib.hid h
  have HZ := Lib.hid (hcells_len zeroHd_ok)
  have ZH := Lib.hid zero_hd
  obtain ⟨zs, hzs⟩ : ∃ zs, zs = hcells zeroHd := ⟨_, rfl⟩
  rw [← hzs] at HZ ZH
  clear h hl hzs hs
  go_enter Tryd.func30, Tryd.ntmps30
  go_wp2_with fail
  go_loopw [4] (fun i wr => ∃ k : Nat, k ≤ n ∧ i = .int .i64 k ∧ Hid (((rowsL ps).take k).all msgOk = true) ∧ Hid (Below w.heap.size w wr)) (fun i _ => n - (intOf i).toNat)
  case atStart => exact ⟨0, by omega, rfl, rfl, Below.refl _ _⟩
  case round =>
    obtain ⟨k, hk, rfl, HA, LW⟩ := hrel
    by_cases hlt : k < n
    · obtain ⟨b, off, p, rfl, hbb, hp, hcell, hhp⟩ := (HH.out.below LW.out).at hlt
      have hxk : Hid ((rowsL ps)[k]? = some p.2.2.2) := by show _ = _; rw [rowsL, List.getElem?_map, hp]; rfl
      have cg := RGetH_any wr p.1 p.2.1 p.2.2.1 p.2.2.2 0 (hhp.mono LW.out.size) (by omega)
      unfold GetHPost at cg
      have hok := getOfH_ok p.2.2.2 0 hhp.byte
      have he1 := @msgOk_err p.2.2.2
      have he2 := @msgOk_nx p.2.2.2
      have he3 := @msgOk_ok p.2.2.2
      obtain ⟨⟨pA, pn, pc, px⟩, hpe⟩ : ∃ r, r = p := ⟨_, rfl⟩
      rw [← hpe] at hcell cg hok hxk he1 he2 he3
      dsimp only at hcell cg hok hxk he1 he2 he3
      obtain ⟨q, hq⟩ : ∃ q, q = getOfH px 0 := ⟨_, rfl⟩
      obtain ⟨er, her⟩ : ∃ er, er = getErrH px 0 := ⟨_, rfl⟩
      rw [← hq, ← her] at cg
      rw [← hq] at hok he2 he3
      rw [← her] at he1 he3
      have HL := Lib.hid (hcells_len hok)
      have HO := Lib.hid (hcells_one q)
      have F5 : Hid (∀ (w : World) (r : Nat), Blk w r 49 (hcells q) → w.cell? ⟨r, 5, none⟩ = some (.int .u32 q.nx)) := fun w r B => HB.c5 B
      obtain ⟨nx, hnx⟩ : ∃ nx, nx = q.nx := ⟨_, rfl⟩
      obtain ⟨cs, hcs⟩ : ∃ cs, cs = hcells q := ⟨_, rfl⟩
      unfold hv at cg
      rw [← hcs] at cg HL HO F5
      rw [← hnx] at F5 he2 he3
      have CG := Lib.hid cg
      have HE1 := Lib.hid he1
      have HE2 := Lib.hid he2
      have HE3 := Lib.hid he3
      clear hhp hp hpe cg hok hq her hcs hnx he1 he2 he3
      by_cases h1 : er = 0
      · subst h1
        by_cases h2 : nx = 0
        · subst h2
          have HM := Lib.hid (all_take_succ hxk.out HA.out (HE3.out rfl rfl))
          clear HE1 HE2 HE3 HQ2 HA hxk HBY
          go_wp2_with fail
          refine CG.out.mono ?_
          rintro e w2 ⟨rfl, L2⟩
          have LW2 := Lib.hid (LW.out.trans (L2.mono LW.out.size))
          clear LW L2
          go_wp2_with (first
            | ((with_reducible show wpList _ _ _ (⟨some 5, _, _, _, _, _⟩ :: _) _ _); refine wpList_alloc_blk rfl _ rfl zs _ ZH ?_; intro g4 w5 hg41 hg42 X4 L5)
            | ((with_reducible show wpList _ _ _ (⟨none, .store _ (.tmp 5) _, _, _, _, _⟩ :: _) _ _); refine wpList_store_blk rfl _ (.tmp 5) (.tmp 25) rfl g4 rfl _ zs cs rfl X4 26 size_hd HZ HL HO ?_; intro w6 X6 O6 hg6; have gc := F5.out _ _ X6.out)
            | fail)
          go_roundw
          case rel => exact ⟨k + 1, by omega, by go_num, HM, LW2.out.trans ((below_only L5.out O6.out hg41).mono LW2.out.size)⟩
          case measure => simp [intOf]; omega
        · have hne : (nx != 0) = true := by simpa using h2
          have HQ := Lib.hid (HQ2.out (.inr (all_not hxk.out (HE2.out h2))))
          clear HE1 HE2 HE3 HQ2 HA hxk h2 HBY
          go_wp2_with fail
          refine CG.out.mono ?_
          rintro e w2 ⟨rfl, L2⟩
          have LW2 := Lib.hid (LW.out.trans (L2.mono LW.out.size))
          go_wp2_with (first
            | ((with_reducible show wpList _ _ _ (⟨some 5, _, _, _, _, _⟩ :: _) _ _); refine wpList_alloc_blk rfl _ rfl zs _ ZH ?_; intro g4 w5 hg41 hg42 X4 L5)
            | ((with_reducible show wpList _ _ _ (⟨none, .store _ (.tmp 5) _, _, _, _, _⟩ :: _) _ _); refine wpList_store_blk rfl _ (.tmp 5) (.tmp 25) rfl g4 rfl _ zs cs rfl X4 26 size_hd HZ HL HO ?_; intro w6 X6 O6 hg6; have gc := F5.out _ _ X6.out)
            | fail)
          go_ret2
          exact HQ.out _ _ ⟨rfl, LW2.out.trans ((below_only L5.out O6.out hg41).mono LW2.out.size)⟩
      · have hne : (er != 0) = true := by simpa using h1
        have HQ := Lib.hid (HQ2.out (.inr (all_not hxk.out (HE1.out h1))))
        clear HE1 HE2 HE3 HQ2 HA hxk h1 HBY
        go_wp2_with fail
        refine CG.out.mono ?_
        rintro e w2 ⟨rfl, L2⟩
        have LW2 := Lib.hid (LW.out.trans (L2.mono LW.out.size))
        go_wp2_with (first
          | ((with_reducible show wpList _ _ _ (⟨some 5, _, _, _, _, _⟩ :: _) _ _); refine wpList_alloc_blk rfl _ rfl zs _ ZH ?_; intro g4 w5 hg41 hg42 X4 L5)
          | ((with_reducible show wpList _ _ _ (⟨none, .store _ (.tmp 5) _, _, _, _, _⟩ :: _) _ _); refine wpList_store_blk rfl _ (.tmp 5) (.tmp 25) rfl g4 rfl _ zs cs rfl X4 26 size_hd HZ HL HO ?_; intro w6 X6 O6 hg6)
          | fail)
        go_ret2
        exact HQ.out _ _ ⟨rfl, LW2.out.trans ((below_only L5.out O6.out hg41).mono LW2.out.size)⟩
    · obtain rfl : k = n := by omega
      have hall : (rowsL ps).all msgOk = true := by have := HA.out; rwa [List.take_of_length_le (by rw [HLn.out]; omega)] at this
      by_cases h0 : k = 0
      · subst h0
        have HQ := Lib.hid (HQ2.out (.inl HLn.out))
        clear HQ2 hall
        go_wp2_with fail
        go_ret2
        exact HQ.out _ _ ⟨rfl, LW.out⟩
      · have hz : ((k : Int) == 0) = false := by simp; omega
        by_cases h8 : 8 < k
        · have hQ : Hid (∀ e w', (e = .returned (.tuple #[.slice none 0 0, .int .i64 3]) ∧ Below w.heap.size w w') → PartsPost w (rowsL ps) e w') := by
            rintro e w' ⟨rfl, hb⟩
            have h2 : chainErr (rowsL ps) = 3 := by unfold chainErr; rw [if_neg (by rw [HLn.out, hall]; simp; omega), if_pos (by rw [HLn.out]; exact h8)]
            exact ⟨.inl ⟨by rw [h2]; decide, by rw [h2]⟩, hb⟩
          clear HQ2 hall
          go_wp2_with fail
          go_ret2
          exact hQ.out _ _ ⟨rfl, LW.out⟩
        · have HQ : Hid (∀ e w', (∃ v qs, e = .returned (.tuple #[v, .int .i64 0]) ∧ OLst false w' w.heap.size v qs ∧ rowsL qs = (List.range k).map (sealX [] (rowsL ps)) ∧ Below w.heap.size w w') → PartsPost w (rowsL ps) e w') := by
            rintro e w' ⟨v, qs, h3, h4, h5, hb⟩
            have h2 : chainErr (rowsL ps) = 0 := by unfold chainErr; rw [if_neg (by rw [HLn.out, hall]; simp; omega), if_neg (by rw [HLn.out]; exact h8)]
            refine ⟨.inr ⟨h2, v, qs, h3, h4, ?_⟩, hb⟩
            rw [HLn.out]
            exact h5
          have HALL : Hid (∀ m ∈ rowsL ps, msgOk m = true) := fun m hm => List.all_eq_true.1 hall m hm
          have hk0 : 0 < k := by omega
          clear HQ2 hall HA h0 hk
          go_wp2_with fail
          obtain ⟨wa, hwa⟩ : ∃ wa, wa = wr := ⟨_, rfl⟩
          rw [← hwa] at LW ⊢
          clear hwa
          go_loopw [7, 8] (fun v i wr => ∃ j : Nat, j ≤ k ∧ i = .int .i64 j ∧ (∃ qs, Hid (OLst false wr w.heap.size v qs) ∧ Hid (qs.length = j) ∧ Hid (rowsL qs = (List.range j).map (sealX [] (rowsL ps)))) ∧ Hid (Below w.heap.size w wr)) (fun _ i _ => k - (intOf i).toNat)
          case atStart => exact ⟨0, by omega, rfl, ⟨[], OLst.nil _ _ _, rfl, rfl⟩, LW⟩
          case round =>
            clear LW
            obtain ⟨j, hj, rfl, ⟨qs, hO, hql, hqr⟩, LW⟩ := hrel
            obtain ⟨wo, hwo⟩ : ∃ wo, wo = wr := ⟨_, rfl⟩
            rw [← hwo] at hO LW ⊢
            clear hwo
            by_cases hlt : j < k
            · obtain ⟨b, off, p, rfl, hbb, hp, hcell, hhp⟩ := (HH.out.below LW.out).at hlt
              have hxk : (rowsL ps)[j]? = some p.2.2.2 := by rw [rowsL, List.getElem?_map, hp]; rfl
              have hgk : (rowsL ps).getD j [] = p.2.2.2 := by rw [List.getD_eq_getElem?_getD, hxk]; rfl
              have hmem : p.2.2.2 ∈ rowsL ps := List.mem_of_getElem? hxk
              have hmo := HALL.out _ hmem
              obtain ⟨hmb, hml⟩ := HBY.out _ hmem
              obtain ⟨h64, _⟩ := msg_of hmb hmo
              have hpf := pad_facts p.2.2.2.length
              have hsx : sealX [] (rowsL ps) j = rawC (decide (j + 1 = k)) p.2.2.2 := by
                unfold sealX sealC
                rw [hgk, HLn.out, if_pos rfl]
              have hrl := rawC_len (decide (j + 1 = k)) p.2.2.2 h64
              have C1 := Lib.hid (Copy_any wo p.1 p.2.1 p.2.2.1 p.2.2.2 (hhp.mono LW.out.size) (by rw [← hhp.len]; omega))
              obtain ⟨⟨pA, pn, pc, px⟩, hpe⟩ : ∃ r, r = p := ⟨_, rfl⟩
              rw [← hpe] at hcell C1 hsx hmb hml h64 hpf hrl
              dsimp only at hcell C1 hsx hmb hml h64 hpf hrl
              have HB0 := Lib.hid hmb
              have hql8 : qs.length ≤ 5864062014800 := by rw [hql.out]; omega
              have HQ8 := Lib.hid hql8
              obtain ⟨M, hM⟩ : ∃ M, M = px.length := ⟨_, rfl⟩
              rw [← hM] at hml h64 hpf hrl
              have HM := Lib.hid hM
              clear hhp hp hpe hxk hgk hmem hmo hmb hql8 hM
              by_cases hla : j + 1 = k
              · rw [decide_eq_true hla] at hsx hrl
                have HSX : Hid (sealX [] (rowsL ps) j = px) := by show _ = _; rw [hsx]; rfl
                have htst : ¬ ((j : Int) < (k : Int) - 1) := by omega
                clear hsx hrl hla
                go_wp2_with fail
                refine C1.out.mono ?_
                rintro e w1 ⟨v1, rfl, ho1, hb1⟩
                obtain ⟨A1, c1, rfl⟩ := ho1.len
                have HB1 := Lib.hid hb1
                have HO1 : Hid (OwnB false w1 wo.heap.size (partV (A1, px.length, c1, px)) px) := OwnB.of_k ho1
                clear ho1 hb1
                go_wp2_with (first
                  | (at_builtin; refine wpList_append_row rfl (.tmp 77) (.tmp 79) rfl false w.heap.size _ qs (A1, px.length, c1, px) _ rfl rfl rfl hO.out HB1.out HO1.out HB0.out (by have := HM.out; show px.length ≤ _; omega) HQ8.out LW.out.size ?_; intro v2 w2 ho2 hb2)
                  | fail)
                go_roundw
                case rel => exact ⟨j + 1, by omega, by go_num, ⟨_, ho2, by show _ = _; rw [List.length_append, hql.out]; rfl, rows_snoc hqr.out _ (by show px = _; rw [HSX.out])⟩, (LW.out.trans (HB1.out.mono LW.out.size)).trans hb2.out⟩
                case measure => simp [intOf]; omega
              · rw [decide_eq_false hla] at hsx hrl
                have htst : (j : Int) < (k : Int) - 1 := by omega
                have CPAD := fun (w : World) A2 c2 (h : Holds w w.heap.size A2 M c2 px) => RPad_any w A2 M c2 px h (by omega)
                unfold RPadPost at CPAD
                have hpad2 : (padOf px).length = padLen M := by rw [padOf_len, HM.out]
                have hpb2 := padOf_bytes HB0.out
                have hraw : rawC false px = setNx (padOf px) ((padLen M : Nat) : Int) := by unfold rawC; rw [if_neg (by decide), HM.out]
                obtain ⟨ys, hys⟩ : ∃ ys, ys = padOf px := ⟨_, rfl⟩
                rw [← hys] at hpad2 hpb2 hraw
                simp only [← hys] at CPAD
                obtain ⟨N, hN⟩ : ∃ N, N = padLen M := ⟨_, rfl⟩
                rw [← hN] at hpf hpad2 hraw
                have hpo := putOf_four N (by omega)
                have CPUT := fun (w : World) => RPut_any w (N : Int) 4 (by omega)
                unfold RPutPost at CPUT
                simp only [hpo.1, hpo.2] at CPUT
                have hfin := overN_four ys (N : Int)
                obtain ⟨Z, hZ⟩ : ∃ Z, Z = le (N : Int) 4 := ⟨_, rfl⟩
                have HZ4 : Hid (Z.length = 4) := by show _ = _; rw [hZ, le_length]
                have HZB : Hid (Bytes Z) := by rw [hZ]; exact le_bytes _ _
                simp only [← hZ] at CPUT
                rw [← hZ] at hfin
                have HFIN : Hid (overN ys Z 4 = sealX [] (rowsL ps) j) := by show _ = _; rw [hfin, hsx, hraw]
                have HY4 := Lib.hid hpad2
                have HYB := Lib.hid hpb2
                have CPD := Lib.hid CPAD
                have CPT := Lib.hid CPUT
                have hN64 : 64 ≤ N := by omega
                have hNb : N ≤ 4294967100 := by omega
                clear hsx hrl hla hpo hfin hraw hys hN hZ hpad2 hpb2 CPAD CPUT hpf
                go_wp2_with fail
                refine C1.out.mono ?_
                rintro e w1 ⟨v1, rfl, ho1, hb1⟩
                obtain ⟨A1, c1, rfl⟩ := ho1.len
                have H1 := Lib.hid (ho1.holds_at rfl HB0.out (by have := HM.out; omega))
                rw [← HM.out] at H1 ⊢
                have HB1 := Lib.hid hb1
                clear ho1 hb1
                go_wp2_with fail
                refine (CPD.out w1 A1 c1 H1.out).mono ?_
                rintro e w2 ⟨v2, rfl, ho2, hb2⟩
                obtain ⟨gb, cb, rfl, hgb1, hgb2, hh2⟩ := own_partK (show OwnK .u8 5 _ _ _ _ from ho2) HYB.out (by rw [HY4.out]; omega) (by rw [HY4.out]; omega)
                rw [HY4.out] at ho2 ⊢
                have HO2 : Hid (OwnK .u8 5 w2 w1.heap.size (.slice (some ⟨gb, 0, none⟩) N cb) ys) := ho2
                have HB2 := Lib.hid (step HB1.out hb2)
                have hgb0 : Hid (wo.heap.size ≤ gb) := Nat.le_trans HB1.out.size hgb1
                clear ho2 hb2 hh2 H1
                go_wp2_with fail
                refine (CPT.out w2).mono ?_
                rintro e w3 ⟨v3, rfl, ho3, hb3⟩
                obtain ⟨gz, cz, rfl, hgz1, hgz2, hh3⟩ := own_partK (show OwnK .u8 5 _ _ _ _ from ho3) HZB.out (by rw [HZ4.out]; omega) (by rw [HZ4.out]; omega)
                rw [HZ4.out] at hh3 ⊢
                have HZ3 := Lib.hid hh3
                have HO3 := Lib.hid (HO2.out.below hb3)
                have HB3 := Lib.hid (step HB2.out hb3)
                have hgzb : Hid (gz ≠ gb) := by show _ ≠ _; omega
                clear ho3 hb3 hh3 HO2 HB2
                go_wp2_with fail
                go_loopw [12] (fun i wr => ∃ m : Nat, m ≤ 4 ∧ i = .int .i64 m ∧ Hid (OwnK .u8 5 wr w1.heap.size (.slice (some ⟨gb, 0, none⟩) N cb) (overN ys Z m)) ∧ Hid (Holds wr wr.heap.size (some ⟨gz, 0, none⟩) 4 cz Z) ∧ Hid (Below wo.heap.size wo wr)) (fun i _ => 4 - (intOf i).toNat)
                case atStart => exact ⟨0, by omega, rfl, by rw [overN_zero]; exact HO3, HZ3, HB3⟩
                case round =>
                  clear HO3 HZ3 HB3
                  obtain ⟨m, hm, rfl, hOx, hZx, hBx⟩ := hrel
                  by_cases hlm : m < 4
                  · obtain ⟨b1, o1, e1, hb1', hzc⟩ := hZx.out.cells (by omega)
                    injection e1 with e1
                    injection e1 with e1 e2
                    subst e1 e2
                    have gz1 := hzc m hlm
                    rw [Nat.zero_add] at gz1
                    have gc := hOx.out.cell (i := 20 + m) (by omega)
                    have gf := hOx.out.frozen (20 + m)
                    have hS := hOx.out.set (20 + m) (Z.getD m 0)
                    rw [overN_set ys Z m (by rw [HY4.out]; omega) HZ4.out hlm] at hS
                    obtain ⟨old, hold⟩ : ∃ old, old = (overN ys Z m).getD (20 + m) 0 := ⟨_, rfl⟩
                    rw [← hold] at gc
                    obtain ⟨u, hu⟩ : ∃ u, u = Z.getD m 0 := ⟨_, rfl⟩
                    rw [← hu] at gz1 hS
                    have HS := Lib.hid hS
                    have hBS := Lib.hid (show Below wo.heap.size wo (wr.setCell ⟨gb, 20 + m, none⟩ (.int .u8 u)) from hBx.out.setCell hgb0.out _)
                    have hZS : Hid (Holds (wr.setCell ⟨gb, 20 + m, none⟩ (.int .u8 u)) (wr.setCell ⟨gb, 20 + m, none⟩ (.int .u8 u)).heap.size (some ⟨gz, 0, none⟩) 4 cz Z) := by
                      have h1 := hZx.out.onlyNe (only_setCell wr gb (20 + m) (.int .u8 u)) (fun a ha => by injection ha with ha; subst ha; exact hgzb.out)
                      have h2 := (only_setCell wr gb (20 + m) (.int .u8 u)).size
                      show Holds _ _ _ _ _ _
                      rw [h2]
                      exact h1
                    obtain ⟨q, hq⟩ : ∃ q, q = 20 + m := ⟨_, rfl⟩
                    have hqI : (20 : Int) + (m : Int) = (q : Int) := by omega
                    rw [← hq] at gc gf HS hBS hZS
                    have hqb : q < N := by omega
                    clear hold hS hOx hZx hBx hq hu hzc hb1'
                    go_wp2_with fail
                    go_roundw
                    case rel => exact ⟨m + 1, by omega, by go_num, HS, hZS, hBS⟩
                    case measure => simp [intOf]; omega
                  · obtain rfl : m = 4 := by omega
                    have hOf := hOx.out
                    have hlen := overN_len ys Z 4 (by rw [HY4.out]; omega) HZ4.out (by omega)
                    have hby : Bytes (overN ys Z 4) := by
                      unfold overN
                      exact (HYB.out.take _).append ((HZB.out.take _).append (HYB.out.drop _))
                    rw [HFIN.out] at hOf hlen hby
                    rw [HY4.out] at hlen
                    obtain ⟨us, hus⟩ : ∃ us, us = sealX [] (rowsL ps) j := ⟨_, rfl⟩
                    rw [← hus] at hOf hlen hby
                    have HUS := Lib.hid hus
                    have HUB := Lib.hid hby
                    have HUL := Lib.hid hlen
                    have HO1 : Hid (OwnB false wr wo.heap.size (partV (some ⟨gb, 0, none⟩, N, cb, us)) us) := (OwnB.of_k hOf).mono HB1.out.size
                    clear hOf hlen hby hus hOx hZx HFIN
                    go_wp2_with (first
                      | (at_builtin; refine wpList_append_row rfl (.tmp 77) (.tmp 79) rfl false w.heap.size _ qs (some ⟨gb, 0, none⟩, N, cb, us) _ rfl rfl rfl hO.out hBx.out HO1.out HUB.out (by show us.length ≤ _; rw [HUL.out]; omega) HQ8.out LW.out.size ?_; intro v2 w2' ho2 hb2)
                      | fail)
                    go_roundw
                    case rel => exact ⟨j + 1, by omega, by go_num, ⟨_, ho2, by show _ = _; rw [List.length_append, hql.out]; rfl, rows_snoc hqr.out _ HUS.out⟩, (LW.out.trans (hBx.out.mono LW.out.size)).trans hb2.out⟩
                    case measure => simp [intOf]; omega
            · obtain rfl : j = k := by omega
              go_wp2_with fail
              go_ret2
              exact HQ.out _ _ ⟨_, qs, rfl, hO.out, hqr.out, LW.out⟩
end Go.Proofs.YtgfflnjggnadpaaDoor
