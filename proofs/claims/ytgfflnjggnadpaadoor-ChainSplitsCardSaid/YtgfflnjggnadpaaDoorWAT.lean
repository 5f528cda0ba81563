import Derived.WalkKit
import Derived.Deep.Draws
import Derived.Laws.Rows
import Derived.Laws.OwnMore
import Derived.Test.YtgfflnjggnadpaaDoorRows
import Derived.Laws.CopyOwn
import Derived.Laws.AppendOwnNone
import Derived.Lib.Hide
import Derived.WalkSpells
import Derived.WalkLawsBesides
import Derived.Deep.QuietTactic
import Derived.BigQuiet
import Derived.Laws.Bits64
import Derived.Laws.BitsAllLaws
import Derived.OpenShut
import Derived.Laws.Tables
import Derived.Laws.NewFold
import Derived.Deep.WholeRow
import Derived.StillTailTactics
import Derived.Deep.RegionLaw
import Derived.Lib.AppendZeros
import Derived.Deep.RegionWith
import Derived.Deep.DeepCutAuto
import Derived.OrdersHeld
import Derived.Laws.StructEq
import Derived.ChangeKeysEq
import Derived.Laws.AppendOwn
import Derived.OwnWalk
import Derived.Lib.OthersKept
import Derived.Laws.BytesArg
import Derived.Laws.IdiomStrings
import Derived.ProofKit
import Derived.ShutString
import Derived.SizedLaws
import Derived.ChangeOld
import Derived.Great.Walk
import Derived.Deep.MidRow
import Derived.Lib.SliceRun
import Derived.OneCell
import Derived.Deep.Strs
import Derived.Deep.Slices
import Derived.Laws.MakeOwn
import Derived.Test.YtgfflnjggnadpaaDoorWAC
import Derived.Test.YtgfflnjggnadpaaDoorWAD
import Derived.Test.YtgfflnjggnadpaaDoorWAE
import Derived.Test.YtgfflnjggnadpaaDoorWAG
import Derived.Test.YtgfflnjggnadpaaDoorWAH
import Derived.Test.YtgfflnjggnadpaaDoorWAI
namespace Go.Proofs.YtgfflnjggnadpaaDoor
set_option linter.all false
open Go.RowKit
/-- what Wide answers: the head of a made row, three bytes 7 behind it -/
def WidePost (w : World) (xs : List Int) (e : Ending) (w' : World) : Prop :=
  e = .returned (.slice (some ⟨w.heap.size, 0, none⟩) xs.length (xs.length + 3)) ∧ Row w' w.heap.size (xs ++ [7, 7, 7]) ∧ Below w.heap.size w w'
/-- the row that Wide fills, behind k of its three rounds -/
def wideRow (xs : List Int) (k : Nat) : List Int := xs ++ (List.replicate k 7 ++ List.replicate (3 - k) 0)
theorem wideRow_length (xs : List Int) (k : Nat) (hk : k ≤ 3) : (wideRow xs k).length = xs.length + 3 := by simp [wideRow]; omega
theorem wideRow_set (xs : List Int) (k : Nat) (hk : k < 3) : (wideRow xs k).set (xs.length + k) 7 = wideRow xs (k + 1) := by
  unfold wideRow
  rw [List.set_append_right _ _ (by omega), Nat.add_sub_cancel_left, List.set_append_right _ _ (by simp), List.length_replicate, Nat.sub_self, show 3 - k = (3 - (k + 1)) + 1 from by omega, List.replicate_succ, List.set_cons_zero,
    List.replicate_succ', List.append_assoc]
  rfl
set_option maxHeartbeats 400000 in
theorem Wide_any (w : World) (A : Option Addr) (n c : Nat) (xs : List Int) (h : Holds w w.heap.size A n c xs) (hn : n ≤ 281474976710653) :
    Calls Tryd.prog 16 #[.slice A n c] w (WidePost w xs) := by
  have hl := Lib.hid h.len
  have hq : ∀ e w', (e = .returned (.slice (some ⟨w.heap.size, 0, none⟩) n (n + 3)) ∧ Row w' w.heap.size (wideRow xs 3) ∧ Below w.heap.size w w') → WidePost w xs e w' := by
    intro e w' hh
    unfold WidePost
    rw [hl.out]
    exact hh
  have HQ := Lib.hid hq
  clear hq
  go_enter Tryd.func16, Tryd.ntmps16
  go_wp2_with (first
    | (at_make; refine wpList_make_bytes _ rfl (.tmp 8) (.tmp 8) rfl _ _ (n + 3) rfl rfl (by simp) (by simp) (by omega) ?_; intro w1 hrow hb1)
    | ((with_reducible show wpList _ _ _ (⟨some 12, _, _, _, _, _⟩ :: _) _ _); refine wpList_copy_bytes rfl (.tmp 10) (.tmp 11) rfl w.heap.size (n + 3) (n + 3) n c A rfl rfl _ xs _ hrow (h.below hb1) (by omega) (by simp) ?_; intro w2 hrow2 hb2))
  go_loopw [5] (fun i wr => ∃ k : Nat, k ≤ 3 ∧ i = .int .i64 (n + k : Nat) ∧ Hid (Row wr w.heap.size (wideRow xs k)) ∧ Below w.heap.size w wr) (fun i _ => n + 3 - (intOf i).toNat)
  case atStart =>
    refine ⟨0, by omega, rfl, ?_, hb1.trans hb2⟩
    have := hrow2.out
    show Row _ _ _
    simpa [wideRow] using this
  case round =>
    obtain ⟨k, hk, rfl, hR, hb⟩ := hrel
    have hll := wideRow_length xs k hk
    by_cases hlt : k < 3
    · have hc := hR.out.cell (i := n + k) (by rw [hll, hl.out]; omega)
      have hz := hR.out.frozen (n + k)
      have e := wideRow_set xs k hlt
      rw [hl.out] at e
      have hS : Hid (Row (wr.setCell ⟨w.heap.size, n + k, none⟩ (.int .u8 7)) w.heap.size (wideRow xs (k + 1))) := by
        rw [← e]
        exact hR.out.set _ _
      obtain ⟨old, hold⟩ : ∃ old, old = (wideRow xs k).getD (n + k) 0 := ⟨_, rfl⟩
      rw [← hold] at hc
      clear e hold hll hR
      go_wp2
      go_roundw
      case rel => exact ⟨k + 1, by omega, by go_num, hS, hb.setCell (Nat.le_refl _) _⟩
      case measure => simp [intOf]; omega
    · obtain rfl : k = 3 := by omega
      clear hll
      go_wp2
      go_ret
      exact HQ.out _ _ ⟨rfl, hR.out, hb⟩
set_option maxHeartbeats 400000 in
theorem Left_any (w : World) (g : Nat) (A : Option Addr) (n c : Nat) (xs : List Int) (hr : Row w g (xs ++ [7, 7, 7])) (h : Holds w w.heap.size A n c xs) :
    Calls Tryd.prog 21 #[.slice (some ⟨g, 0, none⟩) n (n + 3), .slice A n c] w fun e w' => e = .returned (.bool true) ∧ ∃ k, w.drewN k = w' := by
  have hl := h.len
  have hrm := h.room
  have c7 : ∀ i, i < 3 → w.cell? ⟨g, n + i, none⟩ = some (.int .u8 7) := fun i hi => by
    rw [hr.cell (i := n + i) (by simp; omega), List.getD_eq_getElem?_getD, List.getElem?_append_right (by omega), ← hl, Nat.add_sub_cancel_left]
    have : i = 0 ∨ i = 1 ∨ i = 2 := by omega
    rcases this with rfl | rfl | rfl <;> rfl
  have g0 := c7 0 (by omega)
  have g1 := c7 1 (by omega)
  have g2 := c7 2 (by omega)
  rw [Nat.add_zero] at g0
  have hv : Holds w w.heap.size (some ⟨g, 0, none⟩) n (n + 3) xs := by
    refine ⟨hl, by omega, hrm, h.byte, fun hA => (by cases hA), fun h0 => ⟨g, 0, rfl, hr.lt, fun i hi => ?_⟩⟩
    rw [Nat.zero_add, hr.cell (by simp; omega)]
    simp [List.getD_eq_getElem?_getD, List.getElem?_append, hl, hi]
  have c8 := Lib.hid (Same_any w _ _ _ _ _ _ _ _ xs xs hv h)
  rw [decide_eq_true rfl] at c8
  clear c7 hl
  go_enter Tryd.func21, Tryd.ntmps21
  go_wp2_with fail
  refine c8.out.mono ?_
  rintro e w1 ⟨rfl, j, rfl⟩
  go_wp2
  go_ret
  exact ⟨rfl, j, rfl⟩
end Go.Proofs.YtgfflnjggnadpaaDoor

namespace Go.Proofs.YtgfflnjggnadpaaDoor
set_option linter.all false
set_option maxRecDepth 100000
open Go.RowKit
set_option linter.unusedVariables false
theorem getOfH_err {xs : List Int} {a : Int} (h : getErrH xs a ≠ 0) : getOfH xs a = zeroHd := by unfold getOfH; rw [if_neg h]
set_option maxHeartbeats 1000000 in
theorem RNextC_any (w : World) (A : Option Addr) (n c : Nat) (xs : List Int) (h : Holds w w.heap.size A n c xs) :
    Calls Tryd.prog 20 #[.slice A n c] w (NextPost w xs) := by
  have cg := RGetH_any w A n c xs 0 h (by omega)
  unfold GetHPost at cg
  have hk := getOfH_ok xs 0 h.byte
  unfold NextPost
  have hz : getErrH xs 0 ≠ 0 → (getOfH xs 0).nx = 0 := fun h => by rw [getOfH_err h]; rfl
  obtain ⟨g, hg⟩ : ∃ g, g = getOfH xs 0 := ⟨_, rfl⟩
  obtain ⟨er, her⟩ : ∃ er, er = getErrH xs 0 := ⟨_, rfl⟩
  rw [← hg, ← her] at cg hz
  rw [← hg] at hk
  rw [← hg, ← her]
  have HL := Lib.hid (hcells_len hk)
  have HO := Lib.hid (hcells_one g)
  have HZ := Lib.hid (hcells_len zeroHd_ok)
  have ZH := Lib.hid zero_hd
  obtain ⟨n0, n1⟩ := hk.nx
  have F5 : Hid (∀ (w : World) (q : Nat), Blk w q 49 (hcells g) → w.cell? ⟨q, 5, none⟩ = some (.int .u32 g.nx)) := fun w q B => HB.c5 B
  obtain ⟨nx, hnx⟩ : ∃ nx, nx = g.nx := ⟨_, rfl⟩
  obtain ⟨cs, hcs⟩ : ∃ cs, cs = hcells g := ⟨_, rfl⟩
  obtain ⟨zs, hzs⟩ : ∃ zs, zs = hcells zeroHd := ⟨_, rfl⟩
  unfold hv at cg
  rw [← hcs] at cg HL HO F5
  rw [← hnx] at n0 n1 F5 hz ⊢
  rw [← hzs] at HZ ZH
  have CG := Lib.hid cg
  by_cases he : er = 0
  · subst he
    clear cg hg hk hnx hcs hzs h hz her
    go_enter Tryd.func20, Tryd.ntmps20
    go_wp2_with fail
    refine CG.out.mono ?_
    rintro e w1 ⟨rfl, L1⟩
    go_wp2_with (first
      | ((with_reducible show wpList _ _ _ (⟨some 4, _, _, _, _, _⟩ :: _) _ _); refine wpList_alloc_blk rfl _ rfl zs _ ZH ?_; intro g4 w5 hg41 hg42 X4 L5)
      | ((with_reducible show wpList _ _ _ (⟨none, .store _ (.tmp 4) _, _, _, _, _⟩ :: _) _ _); refine wpList_store_blk rfl _ (.tmp 4) (.tmp 9) rfl g4 rfl _ zs cs rfl X4 26 size_hd HZ HL HO ?_; intro w6 X6 O6 hg6; have gc := F5.out _ _ X6.out)
      | fail)
    go_ret2
    exact ⟨rfl, step L1 (below_only L5.out O6.out hg41)⟩
  · rw [hz he]
    have hne : (er != 0) = true := by simpa using he
    clear cg hg her hk hnx hcs hzs h hz he
    go_enter Tryd.func20, Tryd.ntmps20
    go_wp2_with fail
    refine CG.out.mono ?_
    rintro e w1 ⟨rfl, L1⟩
    go_wp2_with (first
      | ((with_reducible show wpList _ _ _ (⟨some 4, _, _, _, _, _⟩ :: _) _ _); refine wpList_alloc_blk rfl _ rfl zs _ ZH ?_; intro g4 w5 hg41 hg42 X4 L5)
      | ((with_reducible show wpList _ _ _ (⟨none, .store _ (.tmp 4) _, _, _, _, _⟩ :: _) _ _); refine wpList_store_blk rfl _ (.tmp 4) (.tmp 9) rfl g4 rfl _ zs cs rfl X4 26 size_hd HZ HL HO ?_; intro w6 X6 O6 hg6; have gc := F5.out _ _ X6.out)
      | fail)
    go_ret2
    exact ⟨rfl, step L1 (below_only L5.out O6.out hg41)⟩
end Go.Proofs.YtgfflnjggnadpaaDoor

namespace Go.Proofs.YtgfflnjggnadpaaDoor
set_option linter.all false
set_option maxRecDepth 100000
open Go.RowKit
set_option linter.unusedVariables false
theorem get_drop (xs : List Int) (p : Nat) (hp : p ≤ xs.length) : getErrH xs (p : Int) = getErrH (xs.drop p) 0 ∧ getOfH xs (p : Int) = getOfH (xs.drop p) 0 := by
  have e1 : partErr xs.length (p : Int) 64 = partErr (xs.drop p).length 0 64 := by
    have a1 : ¬ ((p : Int) < 0 ∨ (xs.length : Int) < (p : Int) ∨ (64 : Int) < 0) := by omega
    have a2 : ¬ ((0 : Int) < 0 ∨ ((xs.length - p : Nat) : Int) < 0 ∨ (64 : Int) < 0) := by omega
    unfold partErr
    rw [List.length_drop, if_neg a1, if_neg a2]
    by_cases h : (xs.length : Int) - (p : Int) < 64
    · rw [if_pos h, if_pos (by omega)]
    · rw [if_neg h, if_neg (by omega)]
  have e2 : getErrH xs (p : Int) = getErrH (xs.drop p) 0 := by
    unfold getErrH
    rw [e1, Int.toNat_natCast]
    simp
  refine ⟨e2, ?_⟩
  unfold getOfH
  rw [e2, Int.toNat_natCast]
  simp
theorem Holds.upto {w : World} {B n c N : Nat} {A : Option Addr} {xs : List Int} (h : Holds w B A n c xs) (hN : N ≤ n) : Holds w B A N c (xs.take N) := by
  have hl := h.len
  have hf := h.fit
  have hr := h.room
  refine ⟨by simp; omega, by omega, by omega, h.byte.take _, h.bare, fun h0 => ?_⟩
  obtain ⟨b, off, e, hb, hc⟩ := h.cells (by omega)
  refine ⟨b, off, e, hb, fun i hi => ?_⟩
  rw [hc i (by omega)]
  simp [List.getD_eq_getElem?_getD, hi]
theorem Holds.amid {w : World} {B b off n c p N : Nat} {xs : List Int} (h : Holds w B (some ⟨b, off, none⟩) n c xs) (hN : p + N ≤ n) (h0 : 0 < N) : Holds w B (some ⟨b, off + p, none⟩) N (c - p) ((xs.drop p).take N) := by
  have hl := h.len
  have hf := h.fit
  have hr := h.room
  refine ⟨by simp; omega, by omega, by omega, (h.byte.drop _).take _, (fun hA => by cases hA), fun _ => ?_⟩
  obtain ⟨b1, off1, e, hb, hc⟩ := h.cells (by omega)
  injection e with e
  injection e with e1 e2
  subst e1 e2
  refine ⟨b, off + p, rfl, hb, fun i hi => ?_⟩
  rw [Nat.add_assoc, hc (p + i) (by omega)]
  simp [List.getD_eq_getElem?_getD, hi]
theorem Holds.rest2 {w : World} {B b off n c p : Nat} {xs : List Int} (h : Holds w B (some ⟨b, off, none⟩) n c xs) (hp : p < n) : Holds w B (some ⟨b, off + p, none⟩) (n - p) (c - p) (xs.drop p) := by
  have := h.amid (p := p) (N := n - p) (by omega) (by omega)
  rwa [List.take_of_length_le (by rw [List.length_drop, h.len]; omega)] at this
theorem own_rowK {w : World} {base m : Nat} {v : Value} {xs : List Int} (h : Own w base v xs) (hm : xs.length = m) : ∃ A c, v = .slice A m c ∧ OwnB false w base (partV (A, m, c, xs)) xs := by
  subst hm
  obtain ⟨A, c, rfl⟩ := h.len
  exact ⟨A, c, rfl, OwnB.of_k h⟩
set_option maxHeartbeats 8000000 in
theorem RSplit_any (w : World) (A : Option Addr) (n c : Nat) (xs : List Int) (h : Holds w w.heap.size A n c xs) (hn : n ≤ 140737488355328) :
    Calls Tryd.prog 18 #[.slice A n c] w (SplitPost false w (splD xs)) := by
  have HH := Lib.hid h
  have HLX : Hid (xs.length = n) := h.len
  have hfit := h.fit
  have HQ : Hid (∀ q, splD xs = q → ∀ e w', (∃ v ps, e = .returned (.tuple #[v, .int .i64 q.1]) ∧ OLst false w' w.heap.size v ps ∧ rowsL ps = q.2 ∧ Below w.heap.size w w') → SplitPost false w (splD xs) e w') := fun q hq e w' h => by
    rw [hq]
    exact h
  have HZ := Lib.hid (hcells_len zeroHd_ok)
  have ZH := Lib.hid zero_hd
  obtain ⟨zs, hzs⟩ : ∃ zs, zs = hcells zeroHd := ⟨_, rfl⟩
  rw [← hzs] at HZ ZH
  clear hzs h
  go_enter Tryd.func18, Tryd.ntmps18
  go_wp2_with fail
  go_loopw [4, 5] (fun P R wr => ∃ (f p n1 c1 : Nat) (A1 : Option Addr), P = .slice A1 n1 c1 ∧ R = .int .i64 p ∧ n1 + f = 8 ∧ p ≤ n ∧ (∃ qs, Hid (OLst false wr w.heap.size (.slice A1 n1 c1) qs) ∧ Hid (qs.length = n1) ∧ Hid ((n1 = 0 ∧ p = 0) ∨ (0 < n1 ∧ splD xs = ahead (rowsL qs) (spl f (xs.drop p))))) ∧ Hid (Below w.heap.size w wr)) (fun _ R _ => n - (intOf R).toNat)
  case atStart => exact ⟨8, 0, 0, 0, none, rfl, rfl, by omega, by omega, ⟨[], OLst.nil _ _ _, rfl, .inl ⟨rfl, rfl⟩⟩, Below.refl _ _⟩
  case round =>
    obtain ⟨f, p, n1, c1, A1, rfl, rfl, hf, hp, ⟨qs, HO, HQL, HS⟩, LW⟩ := hrel
    have cg := RGetH_any wr A n c xs (p : Int) (HH.out.below LW.out |>.mono LW.out.size) (by omega)
    unfold GetHPost at cg
    obtain ⟨hd1, hd2⟩ := get_drop xs p (by rw [HLX.out]; exact hp)
    rw [hd1, hd2] at cg
    have hrl : (xs.drop p).length = n - p := by rw [List.length_drop, HLX.out]
    have hrb := HH.out.byte.drop p
    have hk := getOfH_ok (xs.drop p) 0 hrb
    have hpe : partE (xs.drop p) = (if getErrH (xs.drop p) 0 = 0 then (if (getOfH (xs.drop p) 0).nx % 8 ≠ 0 ∨ (0 < (getOfH (xs.drop p) 0).nx ∧ (getOfH (xs.drop p) 0).nx < 64) then 5 else if ((xs.drop p).length : Int) < (getOfH (xs.drop p) 0).nx then 4 else 0) else getErrH (xs.drop p) 0) := rfl
    rw [hrl] at hpe
    have hnt : nxt (xs.drop p) = (getOfH (xs.drop p) 0).nx.toNat := rfl
    -- what the bytes come to, by the part that begins here
    have HBad : Hid (∀ e, partE (xs.drop p) = e → e ≠ 0 → splD xs = (e, [])) := by
      intro e h1 h2
      rcases HS.out with ⟨_, h3⟩ | ⟨_, h3⟩
      · subst h3
        rw [List.drop_zero] at h1
        unfold splD
        rw [if_neg (by rw [h1]; exact h2), h1]
      · rw [h3, spl_bad (by rw [h1]; exact h2), h1, ahead_err h2]
    have HMany : Hid (partE (xs.drop p) = 0 → f = 0 → splD xs = (3, [])) := by
      intro h1 h2
      rcases HS.out with ⟨h4, h3⟩ | ⟨_, h3⟩
      · omega
      · rw [h3, h2, spl_many h1, ahead_err (by decide)]
    have HRel : Hid (partE (xs.drop p) = 0 → n1 = 0 → isRel (getOfH (xs.drop p) 0).fl = true → splD xs = (5, [])) := by
      intro h1 h2 h3
      rcases HS.out with ⟨_, h4⟩ | ⟨h4, _⟩
      · subst h4
        rw [List.drop_zero] at h1 h3
        unfold splD relH
        rw [if_pos h1, if_pos h3]
      · omega
    have HOn : Hid (partE (xs.drop p) = 0 → (n1 = 0 → isRel (getOfH (xs.drop p) 0).fl = false) → splD xs = ahead (rowsL qs) (spl f (xs.drop p))) := by
      intro h1 h2
      rcases HS.out with ⟨h3, h4⟩ | ⟨_, h3⟩
      · have h2 := h2 h3
        have hqs : qs = [] := List.eq_nil_of_length_eq_zero (by rw [HQL.out]; exact h3)
        subst h4
        rw [List.drop_zero] at h1 h2 ⊢
        have hf8 : f = 8 := by omega
        rw [hqs, hf8]
        unfold splD relH
        rw [if_pos h1, h2, if_neg (by decide)]
        exact (ahead_nil _ (spl_err 8 xs)).symm
      · exact h3
    have HP0 : Hid (n1 = 0 → p = 0) := by
      intro h1
      rcases HS.out with h2 | h2
      · exact h2.2
      · omega
    have HSL := Lib.hid (fun f => @spl_last f (xs.drop p))
    have HSS := Lib.hid (fun f => @spl_step f (xs.drop p))
    obtain ⟨r, hr⟩ : ∃ r, r = xs.drop p := ⟨_, rfl⟩
    rw [← hr] at cg hrl hrb hk hpe hnt HBad HMany HRel HOn HSL HSS
    have HR := Lib.hid hr
    obtain ⟨q, hq⟩ : ∃ q, q = getOfH r 0 := ⟨_, rfl⟩
    obtain ⟨er, her⟩ : ∃ er, er = getErrH r 0 := ⟨_, rfl⟩
    rw [← hq, ← her] at cg hpe
    rw [← hq] at hk hnt HRel HOn
    have cha := fun (w : World) => RHasF_any w q hk 4 (by omega)
    have hir : decide (q.fl / 4 % 2 = 1) = isRel q.fl := rfl
    simp only [hir] at cha
    have HL := Lib.hid (hcells_len hk)
    have HOc := Lib.hid (hcells_one q)
    obtain ⟨x0, x1⟩ := hk.nx
    have F5 : Hid (∀ (w : World) (g : Nat), Blk w g 49 (hcells q) → w.cell? ⟨g, 5, none⟩ = some (.int .u32 q.nx)) := fun w g B => HB.c5 B
    obtain ⟨N, hN⟩ := Int.eq_ofNat_of_zero_le x0
    obtain ⟨cs, hcs⟩ : ∃ cs, cs = hcells q := ⟨_, rfl⟩
    unfold hv at cg cha
    rw [← hcs] at cg HL HOc F5
    simp only [← hcs] at cha
    rw [hN] at F5 hpe hnt x1
    have hnt : nxt r = N := by rw [hnt]; exact Int.toNat_natCast N
    obtain ⟨z, hz⟩ : ∃ z, z = isRel q.fl := ⟨_, rfl⟩
    rw [← hz] at HRel HOn
    simp only [← hz] at cha
    have HNT := Lib.hid hnt
    have CG := Lib.hid cg
    have CHA := Lib.hid cha
    have HRB := Lib.hid hrb
    have HRL := Lib.hid hrl
    have HPE := Lib.hid hpe
    have HLR := Lib.hid LW.out.size
    have hq8 : qs.length ≤ 5864062014800 := by rw [HQL.out]; omega
    have HQ8 := Lib.hid hq8
    have hm8 : (N : Int).tmod 8 = (N : Int) % 8 := Int.tmod_eq_emod_of_nonneg (by omega)
    clear cg hrl hrb hk hpe hnt hr hq her cha hir hN x0 hcs hz hd1 hd2 HS hq8
    by_cases he : er = 0
    · subst he
      have hpe := HPE.out
      rw [if_pos rfl] at hpe
      by_cases h8 : (N : Int) % 8 = 0
      · have h8b : ((N : Int) % 8 != 0) = false := by simpa using h8
        by_cases hN0 : N = 0
        · have hpe0 : partE r = 0 := by rw [hpe, if_neg (by omega), if_neg (by omega)]
          subst hN0
          have HNP : Hid (64 ≤ n - p) := by
            show _ ≤ _
            have h1 := (head_of HRB.out (partE_ok hpe0).1).1
            rw [HRL.out] at h1
            exact h1
          by_cases hf0 : f = 0
          · subst hf0
            obtain rfl : n1 = 8 := by omega
            have HQ3 := Lib.hid (HQ.out _ (HMany.out hpe0 rfl))
            clear HBad HMany HRel HOn HSL HSS HPE
            go_wp2_with fail
            refine CG.out.mono ?_
            rintro e w1 ⟨rfl, L1⟩
            have L1' := Lib.hid L1
            clear L1
            go_wp2_with (first
              | ((with_reducible show wpList _ _ _ (⟨some 6, _, _, _, _, _⟩ :: _) _ _); refine wpList_alloc_blk rfl _ rfl zs _ ZH ?_; intro g4 w5 hg41 hg42 X4 L5)
              | ((with_reducible show wpList _ _ _ (⟨none, .store _ (.tmp 6) _, _, _, _, _⟩ :: _) _ _); refine wpList_store_blk rfl _ (.tmp 6) (.tmp 13) rfl g4 rfl _ zs cs rfl X4 26 size_hd HZ HL HOc ?_; intro w6 X6 O6 hg6; have gc := F5.out _ _ X6.out)
              | fail)
            go_ret2
            exact HQ3.out _ _ ⟨_, [], rfl, OLst.nil _ _ _, rfl, LW.out.trans ((step L1'.out (below_only L5.out O6.out hg41)).mono HLR.out)⟩
          · have hn8 : ((n1 : Int) == 8) = false := by simp; omega
            obtain ⟨f, rfl⟩ : ∃ g, f = g + 1 := ⟨f - 1, by omega⟩
            by_cases hn10 : n1 = 0
            · subst hn10
              cases z
              · have hp0 := HP0.out rfl
                subst hp0
                have hn64 : 64 ≤ n := HNP.out
                obtain ⟨b, off, rfl, hbb, _⟩ := HH.out.cells (by omega)
                obtain ⟨T, hT⟩ : ∃ T, T = r := ⟨_, rfl⟩
                have HTB : Hid (Bytes T) := by rw [hT]; exact HRB.out
                have HTL : Hid (T.length = n) := by show _ = _; rw [hT]; have h1 := HRL.out; omega
                have HTS : Hid (T.length ≤ 140737488355328) := by show _ ≤ _; rw [HTL.out]; omega
                have HQ3 := Lib.hid (HQ.out (0, rowsL qs ++ [T]) (by rw [HOn.out hpe0 (fun _ => rfl), HSL.out _ hpe0 HNT.out, hT]; rfl))
                have hTH : Holds w w.heap.size (some ⟨b, off, none⟩) (n) (c) T := by rw [hT, HR.out]; exact (by have := HH.out; rwa [← List.drop_zero (l := xs)] at this)
                have CC := fun (w2 : World) (hb : Below w.heap.size wr w2) => Lib.hid (Copy_any w2 _ _ _ T ((hTH.below (LW.out.trans hb)).mono ((LW.out.trans hb).size)) (by omega))
                clear hT hTH
                clear HBad HMany HRel HOn HSL HSS HPE HQ
                go_wp2_with fail
                refine CG.out.mono ?_
                rintro e w1 ⟨rfl, L1⟩
                have L1' := Lib.hid L1
                clear L1
                go_wp2_with (first
                  | ((with_reducible show wpList _ _ _ (⟨some 6, _, _, _, _, _⟩ :: _) _ _); refine wpList_alloc_blk rfl _ rfl zs _ ZH ?_; intro g4 w5 hg41 hg42 X4 L5)
                  | ((with_reducible show wpList _ _ _ (⟨none, .store _ (.tmp 6) _, _, _, _, _⟩ :: _) _ _); refine wpList_store_blk rfl _ (.tmp 6) (.tmp 13) rfl g4 rfl _ zs cs rfl X4 26 size_hd HZ HL HOc ?_; intro w6 X6 O6 hg6; have gc := F5.out _ _ X6.out)
                  | ((with_reducible show wpList _ _ _ (⟨some 45, _, _, _, _, _⟩ :: _) _ _); refine wpList_load_want (by kernel_rfl) _ (.tmp 6) rfl g4 rfl _ cs X6 26 _ Tryd.underlying49 rfl size_hd HL ?_)
                  | fail)
                refine (CHA.out w6).mono ?_
                rintro e w7 ⟨rfl, L7⟩
                have L17 := Lib.hid (step (step L1'.out (below_only L5.out O6.out hg41)) L7)
                clear L7 L1' L5 O6 X4 X6 gc
                go_wp2_with fail
                refine (CC _ (L17.out.mono HLR.out)).out.mono ?_
                rintro e w8 ⟨v8, rfl, o8, b8⟩
                obtain ⟨A8, c8, rfl, ob8⟩ := own_rowK o8 HTL.out
                have O8q := Lib.hid (HO.out.below L17.out)
                have LW8 := Lib.hid (LW.out.trans (L17.out.mono HLR.out))
                have B8 := Lib.hid b8
                have OB8 := Lib.hid ob8
                clear o8 b8 ob8 CC
                go_wp2_with (first
                  | (at_builtin; refine wpList_append_row rfl (.tmp 50) (.tmp 55) rfl false w.heap.size _ qs (A8, _, c8, T) _ rfl rfl rfl O8q.out B8.out OB8.out HTB.out HTS.out HQ8.out LW8.out.size ?_; intro v9 w9 ho9 hb9)
                  | fail)
                go_ret2
                exact HQ3.out _ _ ⟨_, _, rfl, ho9.out, by rw [rowsL_snoc], (LW8.out.trans (B8.out.mono LW8.out.size)).trans hb9.out⟩
              · have HQ3 := Lib.hid (HQ.out _ (HRel.out hpe0 rfl rfl))
                clear HBad HMany HRel HOn HSL HSS HPE
                go_wp2_with fail
                refine CG.out.mono ?_
                rintro e w1 ⟨rfl, L1⟩
                have L1' := Lib.hid L1
                clear L1
                go_wp2_with (first
                  | ((with_reducible show wpList _ _ _ (⟨some 6, _, _, _, _, _⟩ :: _) _ _); refine wpList_alloc_blk rfl _ rfl zs _ ZH ?_; intro g4 w5 hg41 hg42 X4 L5)
                  | ((with_reducible show wpList _ _ _ (⟨none, .store _ (.tmp 6) _, _, _, _, _⟩ :: _) _ _); refine wpList_store_blk rfl _ (.tmp 6) (.tmp 13) rfl g4 rfl _ zs cs rfl X4 26 size_hd HZ HL HOc ?_; intro w6 X6 O6 hg6; have gc := F5.out _ _ X6.out)
                  | ((with_reducible show wpList _ _ _ (⟨some 45, _, _, _, _, _⟩ :: _) _ _); refine wpList_load_want (by kernel_rfl) _ (.tmp 6) rfl g4 rfl _ cs X6 26 _ Tryd.underlying49 rfl size_hd HL ?_)
                  | fail)
                refine (CHA.out w6).mono ?_
                rintro e w7 ⟨rfl, L7⟩
                go_wp2_with fail
                go_ret2
                exact HQ3.out _ _ ⟨_, [], rfl, OLst.nil _ _ _, rfl, LW.out.trans ((step (step L1'.out (below_only L5.out O6.out hg41)) L7).mono HLR.out)⟩
            · have hn1b : ((n1 : Int) == 0) = false := by simp; omega
              have hn64 : 64 ≤ n - p := HNP.out
              obtain ⟨b, off, rfl, hbb, _⟩ := HH.out.cells (by omega)
              obtain ⟨T, hT⟩ : ∃ T, T = r := ⟨_, rfl⟩
              have HTB : Hid (Bytes T) := by rw [hT]; exact HRB.out
              have HTL : Hid (T.length = n - p) := by show _ = _; rw [hT]; have h1 := HRL.out; omega
              have HTS : Hid (T.length ≤ 140737488355328) := by show _ ≤ _; rw [HTL.out]; omega
              have HQ3 := Lib.hid (HQ.out (0, rowsL qs ++ [T]) (by rw [HOn.out hpe0 (fun h => absurd h (by omega)), HSL.out _ hpe0 HNT.out, hT]; rfl))
              have hTH : Holds w w.heap.size (some ⟨b, off + p, none⟩) (n - p) (c - p) T := by rw [hT, HR.out]; exact HH.out.rest2 (p := p) (by omega)
              have CC := fun (w2 : World) (hb : Below w.heap.size wr w2) => Lib.hid (Copy_any w2 _ _ _ T ((hTH.below (LW.out.trans hb)).mono ((LW.out.trans hb).size)) (by omega))
              have hcp : ¬ c = p := by omega
              have hcp2 : ¬ c - p = 0 := by omega
              clear hT hTH
              clear HBad HMany HRel HOn HSL HSS HPE HQ
              go_wp2_with fail
              refine CG.out.mono ?_
              rintro e w1 ⟨rfl, L1⟩
              have L1' := Lib.hid L1
              clear L1
              go_wp2_with (first
                | ((with_reducible show wpList _ _ _ (⟨some 6, _, _, _, _, _⟩ :: _) _ _); refine wpList_alloc_blk rfl _ rfl zs _ ZH ?_; intro g4 w5 hg41 hg42 X4 L5)
                | ((with_reducible show wpList _ _ _ (⟨none, .store _ (.tmp 6) _, _, _, _, _⟩ :: _) _ _); refine wpList_store_blk rfl _ (.tmp 6) (.tmp 13) rfl g4 rfl _ zs cs rfl X4 26 size_hd HZ HL HOc ?_; intro w6 X6 O6 hg6; have gc := F5.out _ _ X6.out)
                | fail)
              have L17 := Lib.hid (step L1'.out (below_only L5.out O6.out hg41))
              clear L1' L5 O6 X4 X6 gc
              refine (CC _ (L17.out.mono HLR.out)).out.mono ?_
              rintro e w8 ⟨v8, rfl, o8, b8⟩
              obtain ⟨A8, c8, rfl, ob8⟩ := own_rowK o8 HTL.out
              have O8q := Lib.hid (HO.out.below L17.out)
              have LW8 := Lib.hid (LW.out.trans (L17.out.mono HLR.out))
              have B8 := Lib.hid b8
              have OB8 := Lib.hid ob8
              clear o8 b8 ob8 CC
              go_wp2_with (first
                | (at_builtin; refine wpList_append_row rfl (.tmp 50) (.tmp 55) rfl false w.heap.size _ qs (A8, _, c8, T) _ rfl rfl rfl O8q.out B8.out OB8.out HTB.out HTS.out HQ8.out LW8.out.size ?_; intro v9 w9 ho9 hb9)
                | fail)
              go_ret2
              exact HQ3.out _ _ ⟨_, _, rfl, ho9.out, by rw [rowsL_snoc], (LW8.out.trans (B8.out.mono LW8.out.size)).trans hb9.out⟩
        · have hNp : (0 : Int) < (N : Int) := by omega
          by_cases h64 : N < 64
          · have h64i : (N : Int) < 64 := by omega
            have HQ3 := Lib.hid (HQ.out _ (HBad.out 5 (by rw [hpe, if_pos (by omega)]) (by decide)))
            clear HBad HMany HRel HOn HSL HSS HPE
            go_wp2_with fail
            refine CG.out.mono ?_
            rintro e w1 ⟨rfl, L1⟩
            have L1' := Lib.hid L1
            clear L1
            go_wp2_with (first
              | ((with_reducible show wpList _ _ _ (⟨some 6, _, _, _, _, _⟩ :: _) _ _); refine wpList_alloc_blk rfl _ rfl zs _ ZH ?_; intro g4 w5 hg41 hg42 X4 L5)
              | ((with_reducible show wpList _ _ _ (⟨none, .store _ (.tmp 6) _, _, _, _, _⟩ :: _) _ _); refine wpList_store_blk rfl _ (.tmp 6) (.tmp 13) rfl g4 rfl _ zs cs rfl X4 26 size_hd HZ HL HOc ?_; intro w6 X6 O6 hg6; have gc := F5.out _ _ X6.out)
              | fail)
            go_ret2
            exact HQ3.out _ _ ⟨_, [], rfl, OLst.nil _ _ _, rfl, LW.out.trans ((step L1'.out (below_only L5.out O6.out hg41)).mono HLR.out)⟩
          · have h64i : ¬ (N : Int) < 64 := by omega
            by_cases hsh : n - p < N
            · have hshi : (n : Int) - (p : Int) < (N : Int) := by omega
              have HQ3 := Lib.hid (HQ.out _ (HBad.out 4 (by rw [hpe, if_neg (by omega), if_pos (by omega)]) (by decide)))
              clear HBad HMany HRel HOn HSL HSS HPE
              go_wp2_with fail
              refine CG.out.mono ?_
              rintro e w1 ⟨rfl, L1⟩
              have L1' := Lib.hid L1
              clear L1
              go_wp2_with (first
                | ((with_reducible show wpList _ _ _ (⟨some 6, _, _, _, _, _⟩ :: _) _ _); refine wpList_alloc_blk rfl _ rfl zs _ ZH ?_; intro g4 w5 hg41 hg42 X4 L5)
                | ((with_reducible show wpList _ _ _ (⟨none, .store _ (.tmp 6) _, _, _, _, _⟩ :: _) _ _); refine wpList_store_blk rfl _ (.tmp 6) (.tmp 13) rfl g4 rfl _ zs cs rfl X4 26 size_hd HZ HL HOc ?_; intro w6 X6 O6 hg6; have gc := F5.out _ _ X6.out)
                | fail)
              go_ret2
              exact HQ3.out _ _ ⟨_, [], rfl, OLst.nil _ _ _, rfl, LW.out.trans ((step L1'.out (below_only L5.out O6.out hg41)).mono HLR.out)⟩
            · have hshi : ¬ ((n : Int) - (p : Int) < (N : Int)) := by omega
              have hpe0 : partE r = 0 := by rw [hpe, if_neg (by omega), if_neg (by omega)]
              have HNP : Hid (64 ≤ n - p) := by
                show _ ≤ _
                have h1 := (head_of HRB.out (partE_ok hpe0).1).1
                rw [HRL.out] at h1
                exact h1
              by_cases hf0 : f = 0
              · subst hf0
                obtain rfl : n1 = 8 := by omega
                have HQ3 := Lib.hid (HQ.out _ (HMany.out hpe0 rfl))
                clear HBad HMany HRel HOn HSL HSS HPE
                go_wp2_with fail
                refine CG.out.mono ?_
                rintro e w1 ⟨rfl, L1⟩
                have L1' := Lib.hid L1
                clear L1
                go_wp2_with (first
                  | ((with_reducible show wpList _ _ _ (⟨some 6, _, _, _, _, _⟩ :: _) _ _); refine wpList_alloc_blk rfl _ rfl zs _ ZH ?_; intro g4 w5 hg41 hg42 X4 L5)
                  | ((with_reducible show wpList _ _ _ (⟨none, .store _ (.tmp 6) _, _, _, _, _⟩ :: _) _ _); refine wpList_store_blk rfl _ (.tmp 6) (.tmp 13) rfl g4 rfl _ zs cs rfl X4 26 size_hd HZ HL HOc ?_; intro w6 X6 O6 hg6; have gc := F5.out _ _ X6.out)
                  | fail)
                go_ret2
                exact HQ3.out _ _ ⟨_, [], rfl, OLst.nil _ _ _, rfl, LW.out.trans ((step L1'.out (below_only L5.out O6.out hg41)).mono HLR.out)⟩
              · have hn8 : ((n1 : Int) == 8) = false := by simp; omega
                obtain ⟨f, rfl⟩ : ∃ g, f = g + 1 := ⟨f - 1, by omega⟩
                by_cases hn10 : n1 = 0
                · subst hn10
                  cases z
                  · have hp0 := HP0.out rfl
                    subst hp0
                    have hn64 : 64 ≤ n := HNP.out
                    obtain ⟨b, off, rfl, hbb, _⟩ := HH.out.cells (by omega)
                    obtain ⟨T, hT⟩ : ∃ T, T = r.take N := ⟨_, rfl⟩
                    have HTB : Hid (Bytes T) := by rw [hT]; exact HRB.out.take N
                    have HTL : Hid (T.length = N) := by show _ = _; rw [hT, List.length_take]; have h1 := HRL.out; omega
                    have HTS : Hid (T.length ≤ 140737488355328) := by show _ ≤ _; rw [HTL.out]; omega
                    have HS2 : Hid (splD xs = ahead (rowsL qs ++ [T]) (spl f (xs.drop (N)))) := by
                      show _ = _
                      rw [HOn.out hpe0 (fun _ => rfl), HSS.out _ hpe0 (by rw [HNT.out]; omega), ahead_ahead, HNT.out, ← hT, HR.out, List.drop_zero]
                    have hTH : Holds w w.heap.size (some ⟨b, off, none⟩) N (c) T := by rw [hT, HR.out]; exact (by rw [List.drop_zero]; exact HH.out.upto (by omega))
                    have CC := fun (w2 : World) (hb : Below w.heap.size wr w2) => Lib.hid (Copy_any w2 _ _ _ T ((hTH.below (LW.out.trans hb)).mono ((LW.out.trans hb).size)) (by omega))
                    clear hT hTH
                    clear HBad HMany HRel HOn HSL HSS HPE HQ
                    go_wp2_with fail
                    refine CG.out.mono ?_
                    rintro e w1 ⟨rfl, L1⟩
                    have L1' := Lib.hid L1
                    clear L1
                    go_wp2_with (first
                      | ((with_reducible show wpList _ _ _ (⟨some 6, _, _, _, _, _⟩ :: _) _ _); refine wpList_alloc_blk rfl _ rfl zs _ ZH ?_; intro g4 w5 hg41 hg42 X4 L5)
                      | ((with_reducible show wpList _ _ _ (⟨none, .store _ (.tmp 6) _, _, _, _, _⟩ :: _) _ _); refine wpList_store_blk rfl _ (.tmp 6) (.tmp 13) rfl g4 rfl _ zs cs rfl X4 26 size_hd HZ HL HOc ?_; intro w6 X6 O6 hg6; have gc := F5.out _ _ X6.out)
                      | ((with_reducible show wpList _ _ _ (⟨some 45, _, _, _, _, _⟩ :: _) _ _); refine wpList_load_want (by kernel_rfl) _ (.tmp 6) rfl g4 rfl _ cs X6 26 _ Tryd.underlying49 rfl size_hd HL ?_)
                      | fail)
                    refine (CHA.out w6).mono ?_
                    rintro e w7 ⟨rfl, L7⟩
                    have L17 := Lib.hid (step (step L1'.out (below_only L5.out O6.out hg41)) L7)
                    clear L7 L1' L5 O6 X4 X6 gc
                    go_wp2_with fail
                    refine (CC _ (L17.out.mono HLR.out)).out.mono ?_
                    rintro e w8 ⟨v8, rfl, o8, b8⟩
                    obtain ⟨A8, c8, rfl, ob8⟩ := own_rowK o8 HTL.out
                    have O8q := Lib.hid (HO.out.below L17.out)
                    have LW8 := Lib.hid (LW.out.trans (L17.out.mono HLR.out))
                    have B8 := Lib.hid b8
                    have OB8 := Lib.hid ob8
                    clear o8 b8 ob8 CC
                    go_wp2_with (first
                      | (at_builtin; refine wpList_append_row rfl (.tmp 57) (.tmp 65) rfl false w.heap.size _ qs (A8, _, c8, T) _ rfl rfl rfl O8q.out B8.out OB8.out HTB.out HTS.out HQ8.out LW8.out.size ?_; intro v9 w9 ho9 hb9; obtain ⟨A9, n9, c9, rfl, hl9⟩ := ho9.out.lst; obtain rfl : n9 = 0 + 1 := by have h1 := hl9.row.len; rw [List.length_append, HQL.out] at h1; exact h1.symm)
                      | fail)
                    go_roundw
                    case rel => exact ⟨f, N, 0 + 1, c9, A9, rfl, by go_num, by omega, by omega, ⟨_, ho9.out, by show _ = _; rw [List.length_append, HQL.out]; rfl, .inr ⟨by omega, by rw [HS2.out, rowsL_snoc]⟩⟩, (LW8.out.trans (B8.out.mono LW8.out.size)).trans hb9.out⟩
                    case measure => simp [intOf]; omega
                  · have HQ3 := Lib.hid (HQ.out _ (HRel.out hpe0 rfl rfl))
                    clear HBad HMany HRel HOn HSL HSS HPE
                    go_wp2_with fail
                    refine CG.out.mono ?_
                    rintro e w1 ⟨rfl, L1⟩
                    have L1' := Lib.hid L1
                    clear L1
                    go_wp2_with (first
                      | ((with_reducible show wpList _ _ _ (⟨some 6, _, _, _, _, _⟩ :: _) _ _); refine wpList_alloc_blk rfl _ rfl zs _ ZH ?_; intro g4 w5 hg41 hg42 X4 L5)
                      | ((with_reducible show wpList _ _ _ (⟨none, .store _ (.tmp 6) _, _, _, _, _⟩ :: _) _ _); refine wpList_store_blk rfl _ (.tmp 6) (.tmp 13) rfl g4 rfl _ zs cs rfl X4 26 size_hd HZ HL HOc ?_; intro w6 X6 O6 hg6; have gc := F5.out _ _ X6.out)
                      | ((with_reducible show wpList _ _ _ (⟨some 45, _, _, _, _, _⟩ :: _) _ _); refine wpList_load_want (by kernel_rfl) _ (.tmp 6) rfl g4 rfl _ cs X6 26 _ Tryd.underlying49 rfl size_hd HL ?_)
                      | fail)
                    refine (CHA.out w6).mono ?_
                    rintro e w7 ⟨rfl, L7⟩
                    go_wp2_with fail
                    go_ret2
                    exact HQ3.out _ _ ⟨_, [], rfl, OLst.nil _ _ _, rfl, LW.out.trans ((step (step L1'.out (below_only L5.out O6.out hg41)) L7).mono HLR.out)⟩
                · have hn1b : ((n1 : Int) == 0) = false := by simp; omega
                  have hn64 : 64 ≤ n - p := HNP.out
                  obtain ⟨b, off, rfl, hbb, _⟩ := HH.out.cells (by omega)
                  obtain ⟨T, hT⟩ : ∃ T, T = r.take N := ⟨_, rfl⟩
                  have HTB : Hid (Bytes T) := by rw [hT]; exact HRB.out.take N
                  have HTL : Hid (T.length = N) := by show _ = _; rw [hT, List.length_take]; have h1 := HRL.out; omega
                  have HTS : Hid (T.length ≤ 140737488355328) := by show _ ≤ _; rw [HTL.out]; omega
                  have HS2 : Hid (splD xs = ahead (rowsL qs ++ [T]) (spl f (xs.drop (p + N)))) := by
                    show _ = _
                    rw [HOn.out hpe0 (fun h => absurd h (by omega)), HSS.out _ hpe0 (by rw [HNT.out]; omega), ahead_ahead, HNT.out, ← hT, HR.out, List.drop_drop]
                  have hTH : Holds w w.heap.size (some ⟨b, off + p, none⟩) N (c - p) T := by rw [hT, HR.out]; exact HH.out.amid (p := p) (by omega) (by omega)
                  have CC := fun (w2 : World) (hb : Below w.heap.size wr w2) => Lib.hid (Copy_any w2 _ _ _ T ((hTH.below (LW.out.trans hb)).mono ((LW.out.trans hb).size)) (by omega))
                  have hcp : ¬ c = p := by omega
                  have hcp2 : ¬ c - p = 0 := by omega
                  clear hT hTH
                  clear HBad HMany HRel HOn HSL HSS HPE HQ
                  go_wp2_with fail
                  refine CG.out.mono ?_
                  rintro e w1 ⟨rfl, L1⟩
                  have L1' := Lib.hid L1
                  clear L1
                  go_wp2_with (first
                    | ((with_reducible show wpList _ _ _ (⟨some 6, _, _, _, _, _⟩ :: _) _ _); refine wpList_alloc_blk rfl _ rfl zs _ ZH ?_; intro g4 w5 hg41 hg42 X4 L5)
                    | ((with_reducible show wpList _ _ _ (⟨none, .store _ (.tmp 6) _, _, _, _, _⟩ :: _) _ _); refine wpList_store_blk rfl _ (.tmp 6) (.tmp 13) rfl g4 rfl _ zs cs rfl X4 26 size_hd HZ HL HOc ?_; intro w6 X6 O6 hg6; have gc := F5.out _ _ X6.out)
                    | fail)
                  have L17 := Lib.hid (step L1'.out (below_only L5.out O6.out hg41))
                  clear L1' L5 O6 X4 X6 gc
                  refine (CC _ (L17.out.mono HLR.out)).out.mono ?_
                  rintro e w8 ⟨v8, rfl, o8, b8⟩
                  obtain ⟨A8, c8, rfl, ob8⟩ := own_rowK o8 HTL.out
                  have O8q := Lib.hid (HO.out.below L17.out)
                  have LW8 := Lib.hid (LW.out.trans (L17.out.mono HLR.out))
                  have B8 := Lib.hid b8
                  have OB8 := Lib.hid ob8
                  clear o8 b8 ob8 CC
                  go_wp2_with (first
                    | (at_builtin; refine wpList_append_row rfl (.tmp 57) (.tmp 65) rfl false w.heap.size _ qs (A8, _, c8, T) _ rfl rfl rfl O8q.out B8.out OB8.out HTB.out HTS.out HQ8.out LW8.out.size ?_; intro v9 w9 ho9 hb9; obtain ⟨A9, n9, c9, rfl, hl9⟩ := ho9.out.lst; obtain rfl : n9 = n1 + 1 := by have h1 := hl9.row.len; rw [List.length_append, HQL.out] at h1; exact h1.symm)
                    | fail)
                  go_roundw
                  case rel => exact ⟨f, p + N, n1 + 1, c9, A9, rfl, by go_num, by omega, by omega, ⟨_, ho9.out, by show _ = _; rw [List.length_append, HQL.out]; rfl, .inr ⟨by omega, by rw [HS2.out, rowsL_snoc]⟩⟩, (LW8.out.trans (B8.out.mono LW8.out.size)).trans hb9.out⟩
                  case measure => simp [intOf]; omega
      · have h8b : ((N : Int) % 8 != 0) = true := by simpa using h8
        have HQ3 := Lib.hid (HQ.out _ (HBad.out 5 (by rw [hpe, if_pos (.inl h8)]) (by decide)))
        clear HBad HMany HRel HOn HSL HSS HPE
        go_wp2_with fail
        refine CG.out.mono ?_
        rintro e w1 ⟨rfl, L1⟩
        have L1' := Lib.hid L1
        clear L1
        go_wp2_with (first
          | ((with_reducible show wpList _ _ _ (⟨some 6, _, _, _, _, _⟩ :: _) _ _); refine wpList_alloc_blk rfl _ rfl zs _ ZH ?_; intro g4 w5 hg41 hg42 X4 L5)
          | ((with_reducible show wpList _ _ _ (⟨none, .store _ (.tmp 6) _, _, _, _, _⟩ :: _) _ _); refine wpList_store_blk rfl _ (.tmp 6) (.tmp 13) rfl g4 rfl _ zs cs rfl X4 26 size_hd HZ HL HOc ?_; intro w6 X6 O6 hg6; have gc := F5.out _ _ X6.out)
          | fail)
        go_ret2
        exact HQ3.out _ _ ⟨_, [], rfl, OLst.nil _ _ _, rfl, LW.out.trans ((step L1'.out (below_only L5.out O6.out hg41)).mono HLR.out)⟩
    · have hne : (er != 0) = true := by simpa using he
      have HQ3 := Lib.hid (HQ.out _ (HBad.out er (by rw [HPE.out, if_neg he]) he))
      clear HBad HMany HRel HOn HSL HSS HPE
      go_wp2_with fail
      refine CG.out.mono ?_
      rintro e w1 ⟨rfl, L1⟩
      have L1' := Lib.hid L1
      clear L1
      go_wp2_with (first
        | ((with_reducible show wpList _ _ _ (⟨some 6, _, _, _, _, _⟩ :: _) _ _); refine wpList_alloc_blk rfl _ rfl zs _ ZH ?_; intro g4 w5 hg41 hg42 X4 L5)
        | ((with_reducible show wpList _ _ _ (⟨none, .store _ (.tmp 6) _, _, _, _, _⟩ :: _) _ _); refine wpList_store_blk rfl _ (.tmp 6) (.tmp 13) rfl g4 rfl _ zs cs rfl X4 26 size_hd HZ HL HOc ?_; intro w6 X6 O6 hg6; have gc := F5.out _ _ X6.out)
        | fail)
      go_ret2
      exact HQ3.out _ _ ⟨_, [], rfl, OLst.nil _ _ _, rfl, LW.out.trans ((step L1'.out (below_only L5.out O6.out hg41)).mono HLR.out)⟩
end Go.Proofs.YtgfflnjggnadpaaDoor

namespace Go.Proofs.YtgfflnjggnadpaaDoor
set_option linter.all false
set_option maxRecDepth 100000
open Go.RowKit
set_option linter.unusedVariables false
theorem splS_count (f : Nat) (r : List Int) : (spl f r).2.length ≤ f := by
  induction f generalizing r with
  | zero =>
    unfold spl
    split <;> simp
  | succ f ih =>
    by_cases h0 : partE r = 0
    · by_cases h1 : nxt r = 0
      · rw [spl_last h0 h1]
        simp
      · rw [spl_step h0 h1]
        unfold ahead
        have := ih (r.drop (nxt r))
        split
        · simp only [List.length_append, List.length_cons, List.length_nil]
          omega
        · simp
    · rw [spl_bad h0]
      simp
theorem splD_cnt (b : List Int) : (splD b).2.length ≤ 8 := by
  have := splS_count 8 b
  unfold splD
  split
  · split
    · simp
    · exact this
  · simp
set_option maxHeartbeats 4000000 in
theorem walk_ChainSplits (W : World) (hT : KTab W) (A0 : Option Addr) (n0 c0 : Nat) (z0 : List Int) (l0 : n0 ≤ c0) (r0 : c0 ≤ 140737488351232) (h0 : Holds W W.heap.size A0 c0 c0 z0) :
    Calls Tryd.prog 4 #[.slice A0 n0 c0] W fun e W' => e = .returned (.bool true) ∧ Below W.heap.size W W' := by
  have hx := h0.head l0
  obtain ⟨xs, hxs⟩ : ∃ xs, xs = z0.take n0 := ⟨_, rfl⟩
  rw [← hxs] at hx
  have hxl := hx.len
  have cw := Wide_any W A0 n0 c0 xs hx (by omega)
  unfold WidePost at cw
  rw [hxl] at cw
  have cs := fun (w : World) A c (h : Holds w w.heap.size A n0 c xs) => Split_any w A n0 c xs h (by omega)
  have cr := fun (w : World) (h : Holds w w.heap.size A0 n0 c0 xs) => RSplit_any w A0 n0 c0 xs h (by omega)
  unfold SplitPost at cs cr
  have cn := fun (w : World) A c (h : Holds w w.heap.size A n0 c xs) => NextC_any w A n0 c xs h
  have cm := fun (w : World) (h : Holds w w.heap.size A0 n0 c0 xs) => RNextC_any w A0 n0 c0 xs h
  unfold NextPost at cn cm
  have hbig : ∀ q : PartT, True := fun _ => trivial
  have hcnt : (splD xs).2.length ≤ 8 := splD_cnt xs
  obtain ⟨⟨E, L⟩, hq⟩ : ∃ q, q = splD xs := ⟨_, rfl⟩
  rw [← hq] at hcnt
  simp only [← hq] at cs cr
  dsimp only at hcnt
  obtain ⟨nx, hnx⟩ : ∃ nx, nx = (getOfH xs 0).nx := ⟨_, rfl⟩
  obtain ⟨er, her⟩ : ∃ er, er = getErrH xs 0 := ⟨_, rfl⟩
  simp only [← hnx, ← her] at cn cm
  have CW := Lib.hid cw
  have CS := Lib.hid cs
  have CR := Lib.hid cr
  have CN := Lib.hid cn
  have CM := Lib.hid cm
  have CV := fun w hK => Lib.hid (livesC_any w hK)
  have CL := fun w g A n c h1 h2 => Lib.hid (Left_any w g A n c xs h1 h2)
  have HT := Lib.hid hT
  have HX := Lib.hid hx
  have HXL := Lib.hid hxl
  have HC := Lib.hid hcnt
  have wide : Hid (∀ w g, Row w g (xs ++ [7, 7, 7]) → Holds w w.heap.size (some ⟨g, 0, none⟩) n0 (n0 + 3) xs) := fun w g hr =>
    ⟨hxl, by omega, by omega, hx.byte, fun hA => (by cases hA), fun h0 => ⟨g, 0, rfl, hr.lt, fun i hi => by
      rw [Nat.zero_add, hr.cell (by simp; omega)]
      simp [List.getD_eq_getElem?_getD, List.getElem?_append, hxl, hi]⟩⟩
  have t1 : (E != E) = false := by simp
  have t2 : (nx == nx) = true := by simp
  have t3 : (er == er) = true := by simp
  clear hxs hx h0 hT cw cs cr cn cm hq hnx her hxl hcnt hbig
  go_enter Tryd.func4, Tryd.ntmps4
  go_wp2_with fail
  refine CW.out.mono ?_
  rintro e w1 ⟨rfl, rw1, b1⟩
  obtain ⟨g, hg⟩ : ∃ g, g = W.heap.size := ⟨_, rfl⟩
  rw [← hg] at rw1 ⊢
  have R1 := Lib.hid rw1
  have B1 := Lib.hid b1
  clear rw1 b1 CW hg
  go_wp2_with fail
  refine (CS.out w1 _ _ (wide.out _ _ R1.out)).mono ?_
  rintro e w2 ⟨v2, ps, rfl, o2, q2, b2⟩
  obtain ⟨A2, n2, c2, rfl, l2⟩ := o2.lst
  have hn2 : n2 ≤ 8 := by
    have h1 := l2.row.len
    have h2 := congrArg List.length q2
    rw [rowsL, List.length_map] at h2
    have h3 := HC.out
    omega
  have L2 := Lib.hid l2
  have Q2 := Lib.hid q2
  have R2 : Hid (Row w2 g (xs ++ [7, 7, 7])) := R1.out.below b2 R1.out.lt
  have B2 := Lib.hid (step B1.out b2)
  clear o2 l2 q2 b2 R1 B1 CS
  go_wp2_with fail
  refine (CR.out w2 (HX.out.over B2.out)).mono ?_
  rintro e w3 ⟨v3, qs, rfl, o3, q3, b3⟩
  obtain ⟨A3, n3, c3, rfl, l3⟩ := o3.lst
  have hn3 : n3 ≤ 8 := by
    have h1 := l3.row.len
    have h2 := congrArg List.length q3
    rw [rowsL, List.length_map] at h2
    have h3 := HC.out
    omega
  have CLS := lists_any w3 w3.heap.size w3.heap.size A2 A3 n2 c2 n3 c3 ps qs (L2.out.over b3) l3 (by omega) (by omega)
  rw [Q2.out, q3, decide_eq_true rfl] at CLS
  have CLS' := Lib.hid CLS
  have R3 : Hid (Row w3 g (xs ++ [7, 7, 7])) := R2.out.below b3 R2.out.lt
  have B3 := Lib.hid (step B2.out b3)
  clear o3 l3 q3 b3 R2 B2 CR L2 Q2 CLS
  go_wp2_with fail
  refine CLS'.out.mono ?_
  rintro e w4 ⟨rfl, j, rfl⟩
  obtain ⟨w4, hw4⟩ : ∃ w, w = w3.drewN j := ⟨_, rfl⟩
  have R4 : Hid (Row w4 g (xs ++ [7, 7, 7])) := by rw [hw4]; exact R3.out
  have B4 : Hid (Below W.heap.size W w4) := by rw [hw4]; exact below_drewN B3.out j
  rw [← hw4]
  clear CLS' hw4 R3 B3
  go_wp2_with fail
  refine (CN.out w4 _ _ (wide.out _ _ R4.out)).mono ?_
  rintro e w5 ⟨rfl, b5⟩
  have R5 : Hid (Row w5 g (xs ++ [7, 7, 7])) := R4.out.below b5 R4.out.lt
  have B5 := Lib.hid (step B4.out b5)
  clear b5 R4 B4 CN
  go_wp2_with fail
  refine (CM.out w5 (HX.out.over B5.out)).mono ?_
  rintro e w6 ⟨rfl, b6⟩
  have R6 : Hid (Row w6 g (xs ++ [7, 7, 7])) := R5.out.below b6 R5.out.lt
  have B6 := Lib.hid (step B5.out b6)
  clear b6 R5 B5 CM
  go_wp2_with fail
  refine (CL w6 g A0 n0 c0 R6.out (HX.out.over B6.out)).out.mono ?_
  rintro e w7 ⟨rfl, j7, rfl⟩
  have B7 : Hid (Below W.heap.size W (w6.drewN j7)) := below_drewN B6.out j7
  obtain ⟨w7, hw7⟩ : ∃ w, w = w6.drewN j7 := ⟨_, rfl⟩
  rw [← hw7] at B7 ⊢
  clear hw7 R6 B6 CL
  go_wp2_with fail
  refine (CV w7 (HT.out.below B7.out)).out.mono ?_
  rintro e w8 ⟨rfl, b8⟩
  go_wp2
  go_ret
  exact ⟨rfl, step B7.out b8⟩
end Go.Proofs.YtgfflnjggnadpaaDoor
