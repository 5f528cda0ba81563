/-
  Layer 13 (frame): the program's cut: the frames that are whole, and what is left.
-/
import Derived.Test.YtjpcifmeimcikaaFrC
import Derived.Test.YtjpcifmeimcikaaClo
import Derived.Test.YtjpcifmeimcikaaChB
namespace Go.Proofs.Ytjpcifmeimcikaa
set_option maxRecDepth 100000
open Go.RowKit
set_option linter.unusedVariables false

theorem Holds.amidF {w : World} {B b off n c p N : Nat} {xs : List Int} (h : Holds w B (some ⟨b, off, none⟩) n c xs) (hN : p + N ≤ n) (h0 : 0 < N) (C : Nat) (hC : N ≤ C) : Holds w B (some ⟨b, off + p, none⟩) N C ((xs.drop p).take N) := by
  have hl := h.len
  have hf := h.fit
  have hr := h.room
  refine ⟨by simp; omega, hC, by omega, (h.byte.drop _).take _, (fun hA => by cases hA), fun _ => ?_⟩
  obtain ⟨b1, off1, e, hb, hc⟩ := h.cells (by omega)
  injection e with e
  injection e with e1 e2
  subst e1 e2
  refine ⟨b, off + p, rfl, hb, fun i hi => ?_⟩
  rw [Nat.add_assoc, hc (p + i) (by omega)]
  simp [List.getD_eq_getElem?_getD, hi]
theorem Holds.tailF {w : World} {B b off n c p : Nat} {xs : List Int} (h : Holds w B (some ⟨b, off, none⟩) n c xs) (hp : p < n) : Holds w B (some ⟨b, off + p, none⟩) (n - p) (c - p) (xs.drop p) := by
  have := h.amidF (p := p) (N := n - p) (by omega) (by omega) (c - p) (by have := h.fit; omega)
  rwa [List.take_of_length_le (by rw [List.length_drop, h.len]; omega)] at this
theorem own_rowF {w : World} {base m : Nat} {v : Value} {xs : List Int} (h : OwnZ .u8 5 w base v xs) (hm : xs.length = m) : ∃ A c, v = .slice A m c ∧ OwnB false w base (partV (A, m, c, xs)) xs := by
  subst hm
  obtain ⟨A, c, rfl⟩ := (show Own _ _ _ _ from h.own).len
  exact ⟨A, c, rfl, OwnB.of_k h.own⟩
/-- how long a slice is -/
def lenF : Value → Nat
  | .slice _ n _ => n
  | _ => 0

/-- what cut answers -/
def CutFPost (w : World) (xs : List Int) (e : Ending) (w' : World) : Prop := ∃ l ps v, e = .returned (.tuple #[l, v, .int .i64 (frs xs).2.2]) ∧ OLst false w' w.heap.size l ps ∧ rowsL ps = (frs xs).1 ∧ Below w.heap.size w w' ∧
  ((frs xs).2.2 = 0 → ∃ A' n' c', v = .slice A' n' c' ∧ Holds w' w.heap.size A' n' c' (frs xs).2.1)

theorem cntN_bad {r : List Int} (h : ¬ frE r = 0) : cntN r = 0 := by unfold cntN; rw [if_neg h]
theorem cntN_wait {r : List Int} (h : frE r = 0) (hw : ¬ frW r = true) : cntN r = 0 ∨ r.length < 4 + cntN r := by
  unfold cntN
  rw [if_pos h]
  by_cases h4 : 4 ≤ r.length
  · rw [if_pos h4]
    refine .inr ?_
    unfold frW at hw
    rw [decide_eq_true h, decide_eq_true h4] at hw
    simpa using hw
  · rw [if_neg h4]
    exact .inl rfl
theorem cntN_step {r : List Int} (hw : frW r = true) : cntN r = frN r := by
  obtain ⟨h1, h2, _⟩ := frW_facts hw
  unfold cntN
  rw [if_pos h1, if_pos h2]

set_option maxHeartbeats 4000000 in
theorem cutF_any (w : World) (A : Option Addr) (n c : Nat) (xs : List Int) (h : Holds w w.heap.size A n c xs) (hn : n ≤ 1099511627776) :
    Calls Try.prog 19 #[.slice A n c] w (CutFPost w xs) := by
  have HQ : Hid (∀ l ps v E e w', frs xs = (rowsL ps, E) → e = .returned (.tuple #[l, v, .int .i64 E.2]) → OLst false w' w.heap.size l ps → Below w.heap.size w w' →
      (E.2 = 0 → ∃ A' n' c', v = .slice A' n' c' ∧ Holds w' w.heap.size A' n' c' E.1) → CutFPost w xs e w') := by
    intro l ps v E e w' h1 h2 h3 h4 h5
    unfold CutFPost
    rw [h1]
    exact ⟨l, ps, v, h2, h3, rfl, h4, h5⟩
  have HCnt : Hid ((frs xs).1.length ≤ n) := by have := frs_count xs; rw [h.len] at this; exact this
  have HH := Lib.hid h
  clear h
  go_enter Try.func19, Try.ntmps19
  go_wp2_with fail
  go_loopw [0, 5] (fun P L wr => ∃ (n1 c1 : Nat) (A1 : Option Addr) (r : List Int), P = .slice A1 n1 c1 ∧ n1 ≤ n ∧ Hid (Holds wr w.heap.size A1 n1 c1 r) ∧ (∃ qs, Hid (OLst false wr w.heap.size L qs) ∧ Hid (frs xs = (rowsL qs ++ (frs r).1, (frs r).2))) ∧ Hid (Below w.heap.size w wr)) (fun P _ _ => lenF P)
  case atStart => exact ⟨n, c, A, xs, rfl, Nat.le_refl _, HH, ⟨[], OLst.nil _ _ _, rfl⟩, Below.refl _ _⟩
  case round =>
    obtain ⟨n1, c1, A1, r, rfl, hn1, HR, ⟨qs, HO, HS⟩, LW⟩ := hrel
    have CN := Lib.hid (count_any wr A1 n1 c1 r (HR.out.mono LW.out.size))
    have hrl := HR.out.len
    have hrf := HR.out.fit
    by_cases he : frE r = 0
    · by_cases hw : frW r = true
      · obtain ⟨_, h4, h5, h6, h7, _⟩ := frW_facts hw
        have hfs := frs_step hw
        have hcn := cntN_step hw
        rw [he, hcn] at CN
        obtain ⟨m, hm⟩ : ∃ m, m = frN r := ⟨_, rfl⟩
        rw [← hm] at CN h5 h6 h7 hfs
        rw [hrl] at h4 h5
        have HFS : Hid (frs xs = ((rowsL qs ++ [(r.drop 4).take m]) ++ (frs (r.drop (4 + m))).1, (frs (r.drop (4 + m))).2)) := by
          show _ = _
          rw [HS.out, hfs]
          simp
        have HQL : Hid (qs.length ≤ 5864062014800) := by
          have h1 := congrArg (fun q => q.1.length) HS.out
          have h2 := HCnt.out
          simp only [List.length_append] at h1
          rw [rowsL, List.length_map] at h1
          show _ ≤ _
          omega
        obtain ⟨b, off, rfl, hbb, hcells⟩ := HR.out.cells (by omega)
        clear hcells
        have CC := fun (w2 : World) (hb : Below w.heap.size wr w2) => Lib.hid (Clone_any w2 _ m m ((r.drop 4).take m) (((HR.out.amidF (p := 4) (N := m) h5 h6 m (Nat.le_refl _)).below hb).mono (Nat.le_trans LW.out.size hb.size)) (by omega))
        have HTL : Hid (((r.drop 4).take m).length = m) := by show _ = _; rw [List.length_take, List.length_drop, hrl]; omega
        have HTB := Lib.hid ((HR.out.byte.drop 4).take m)
        have HR2 : ∃ a2 : Nat, ((c1 - (4 + m) = 0 ∧ a2 = off) ∨ (¬ c1 - (4 + m) = 0 ∧ a2 = off + (4 + m))) ∧ ∀ w2, Below w.heap.size wr w2 → Holds w2 w.heap.size (some ⟨b, a2, none⟩) (n1 - (4 + m)) (c1 - (4 + m)) (r.drop (4 + m)) := by
          by_cases hcN : c1 = 4 + m
          · have hnN : n1 = 4 + m := by omega
            refine ⟨off, .inl ⟨by omega, rfl⟩, fun w2 _ => ?_⟩
            rw [List.drop_of_length_le (by rw [hrl]; omega), hcN, hnN, Nat.sub_self]
            exact Holds.empty _ _ _ _ (fun h => by cases h)
          · by_cases hnN : n1 = 4 + m
            · refine ⟨off + (4 + m), .inr ⟨by omega, rfl⟩, fun w2 _ => ?_⟩
              rw [List.drop_of_length_le (by rw [hrl]; omega), hnN, Nat.sub_self]
              exact Holds.empty _ _ _ _ (fun h => by cases h)
            · exact ⟨off + (4 + m), .inr ⟨by omega, rfl⟩, fun w2 hb => (HR.out.tailF (p := 4 + m) (by omega)).below hb⟩
        obtain ⟨a2, HA, HR3⟩ := HR2
        have HR4 := Lib.hid HR3
        obtain ⟨r2, hr2⟩ : ∃ r2, r2 = r.drop (4 + m) := ⟨_, rfl⟩
        obtain ⟨T, hT⟩ : ∃ T, T = (r.drop 4).take m := ⟨_, rfl⟩
        rw [← hr2] at HFS HR4
        rw [← hT] at HFS CC HTL HTB
        have hz : ((m : Int) == 0) = false := by simp; omega
        clear HR3 hr2 hT hfs hcn he hw hm HS hrl HCnt HQ
        rcases HA with ⟨hcz, rfl⟩ | ⟨hcz, rfl⟩
        all_goals
          go_wp2_with fail
          refine CN.out.mono ?_
          rintro e w1 ⟨rfl, k1, hk1⟩
          have B1 : Hid (Below w.heap.size wr w1) := by rw [← hk1]; exact (drewed wr k1).mono LW.out.size
          have o1 := HO.out.below (drewed wr k1)
          rw [hk1] at o1
          have O1 := Lib.hid o1
          have LW1 := Lib.hid (LW.out.trans B1.out)
          clear hk1 CN o1
          go_wp2_with fail
          refine (CC w1 B1.out).out.mono ?_
          rintro e w2 ⟨v2, rfl, o2, b2⟩
          obtain ⟨A2, c2, rfl, ob2⟩ := own_rowF o2 HTL.out
          have O2q := Lib.hid O1.out
          have B2 := Lib.hid b2
          have OB2 := Lib.hid ob2
          have HX2 : Hid (T.length ≤ 140737488355328) := by show _ ≤ _; rw [HTL.out]; omega
          clear o2 b2 ob2 CC
          go_wp2_with (first
            | (at_builtin; refine wpList_append_row rfl (.tmp 31) (.tmp 37) rfl false w.heap.size _ qs (A2, m, c2, T) _ rfl rfl rfl O2q.out B2.out OB2.out HTB.out HX2.out HQL.out LW1.out.size ?_; intro v3 w3 ho3 hb3)
            | fail)
          have LW3 := Lib.hid ((LW1.out.trans (B2.out.mono LW1.out.size)).trans hb3.out)
          have LR3 : Hid (Below w.heap.size wr w3) := ((B1.out).trans (B2.out.mono LW1.out.size)).trans hb3.out
          go_roundw
          case rel => exact ⟨n1 - (4 + m), c1 - (4 + m), _, r2, rfl, by omega, (by have hh := HR4.out _ LR3.out; first | exact hh | (rw [hcz] at hh; exact hh)), ⟨_, ho3.out, by show _ = _; rw [HFS.out]; simp [rowsL]⟩, LW3.out⟩
          case measure => simp only [lenF]; omega
      · have hfs := frs_wait he hw
        have hcw := cntN_wait he hw
        rw [he] at CN
        obtain ⟨m, hm⟩ : ∃ m, m = cntN r := ⟨_, rfl⟩
        rw [← hm] at CN hcw
        rw [hrl] at hcw
        have HQ1 := Lib.hid (fun l v e w' => HQ.out l qs v (r, 0) e w' (by rw [HS.out, hfs, List.append_nil]))
        have HMM : m ≤ 16777215 := by
          rw [hm]
          unfold cntN
          have h1 := HR.out.byte.getD 1
          have h2 := HR.out.byte.getD 2
          have h3 := HR.out.byte.getD 3
          unfold frN
          split
          · split <;> omega
          · omega
        clear hfs hm he hw HS hrl HCnt HQ
        rcases hcw with rfl | hcw
        · go_wp2_with fail
          refine CN.out.mono ?_
          rintro e w1 ⟨rfl, k1, hk1⟩
          have B1 : Hid (Below w.heap.size wr w1) := by rw [← hk1]; exact (drewed wr k1).mono LW.out.size
          have o1 := HO.out.below (drewed wr k1)
          rw [hk1] at o1
          have O1 := Lib.hid o1
          clear o1 hk1 CN
          go_wp2
          go_ret3
          exact HQ1.out _ _ _ _ rfl O1.out (LW.out.trans B1.out) (fun _ => ⟨_, _, _, rfl, HR.out.below B1.out⟩)
        · by_cases hm0 : m = 0
          · subst hm0
            go_wp2_with fail
            refine CN.out.mono ?_
            rintro e w1 ⟨rfl, k1, hk1⟩
            have B1 : Hid (Below w.heap.size wr w1) := by rw [← hk1]; exact (drewed wr k1).mono LW.out.size
            have o1 := HO.out.below (drewed wr k1)
            rw [hk1] at o1
            have O1 := Lib.hid o1
            clear o1 hk1 CN
            go_wp2
            go_ret3
            exact HQ1.out _ _ _ _ rfl O1.out (LW.out.trans B1.out) (fun _ => ⟨_, _, _, rfl, HR.out.below B1.out⟩)
          · have hz : ((m : Int) == 0) = false := by simpa using hm0
            go_wp2_with fail
            refine CN.out.mono ?_
            rintro e w1 ⟨rfl, k1, hk1⟩
            have B1 : Hid (Below w.heap.size wr w1) := by rw [← hk1]; exact (drewed wr k1).mono LW.out.size
            have o1 := HO.out.below (drewed wr k1)
            rw [hk1] at o1
            have O1 := Lib.hid o1
            clear o1 hk1 CN
            go_wp2
            go_ret3
            exact HQ1.out _ _ _ _ rfl O1.out (LW.out.trans B1.out) (fun _ => ⟨_, _, _, rfl, HR.out.below B1.out⟩)
    · have hfs := frs_bad he
      have hcn := cntN_bad he
      rw [hcn] at CN
      obtain ⟨er, her⟩ : ∃ er, er = frE r := ⟨_, rfl⟩
      rw [← her] at CN hfs he
      have HQ1 := Lib.hid (fun l v e w' => HQ.out l qs v ([], er) e w' (by rw [HS.out, hfs, List.append_nil]))
      have hne : (er != 0) = true := by simpa using he
      have HNE := Lib.hid he
      clear hfs her he HS hrl HCnt HQ hcn
      go_wp2_with fail
      refine CN.out.mono ?_
      rintro e w1 ⟨rfl, k1, hk1⟩
      have B1 : Hid (Below w.heap.size wr w1) := by rw [← hk1]; exact (drewed wr k1).mono LW.out.size
      have o1 := HO.out.below (drewed wr k1)
      rw [hk1] at o1
      have O1 := Lib.hid o1
      clear o1 hk1 CN
      go_wp2
      go_ret3
      exact HQ1.out _ _ _ _ rfl O1.out (LW.out.trans B1.out) (fun h => absurd h HNE.out)
end Go.Proofs.Ytjpcifmeimcikaa
