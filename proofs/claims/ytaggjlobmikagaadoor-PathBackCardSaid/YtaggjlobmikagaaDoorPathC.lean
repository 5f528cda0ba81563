/-
  Layer 6: the contract of path.Parse.
-/
import Derived.Test.YtaggjlobmikagaaDoorPathB
namespace Go.Proofs.YtaggjlobmikagaaDoor
open Go.RowKit

/-- a text as a value -/
def strV (p : List UInt8) : Value := .string ⟨p.toArray⟩
theorem strV_one (p : List UInt8) : (strV p).oneCell' = true := rfl
theorem mk_size (l : List UInt8) : (⟨l.toArray⟩ : ByteArray).size = l.length := by simp [ByteArray.size]
theorem info_str : (Tryd.prog.info? 9).map (fun i => (i.zero, i.size, i.bytes)) = some (some (.string ⟨#[]⟩), 1, 16) := by kernel_rfl
def strSize : Value → Nat
  | .string s => s.size
  | _ => 0
def boolNat : Value → Nat
  | .bool true => 1
  | _ => 0

/-- what Parse answers -/
def ParsePost (w : World) (l : List UInt8) (e : Ending) (w' : World) : Prop :=
  ∃ v, e = .returned (.tuple #[v, .int .i64 (parseErr l)]) ∧ OwnF strV 9 w' w.heap.size v (parseOf l) ∧ Below w.heap.size w w'

theorem parse_bad {l ps p qs} (h : ps ++ p :: qs = partsOf l) (hp : nameOf p = false) : parseErr l = 2 ∧ parseOf l = [] := by
  have h1 : parseErr l = 2 := namesErr_bad (p := p) (by rw [← h]; simp) hp
  exact ⟨h1, parseOf_bad (by omega)⟩
theorem parse_end {l ps} (h : ps ++ [] = partsOf l) (hp : ∀ p ∈ ps, nameOf p = true) : parseErr l = (if 8 < ps.length then 3 else 0) ∧ parseOf l = (if 8 < ps.length then [] else ps.take 8) := by
  rw [List.append_nil] at h
  have h1 : parseErr l = if 8 < ps.length then 3 else 0 := by unfold parseErr; rw [← h]; exact namesErr_all hp
  refine ⟨h1, ?_⟩
  by_cases h8 : 8 < ps.length
  · rw [if_pos h8] at h1 ⊢
    exact parseOf_bad (by omega)
  · rw [if_neg h8] at h1 ⊢
    unfold parseOf
    rw [if_pos h1, ← h, List.take_of_length_le (by omega)]

set_option maxRecDepth 100000 in
set_option maxHeartbeats 2000000 in
theorem Parse_any (s : ByteArray) (w : World) (hs : s.size ≤ 140737488355328) (hT : Tabs w) :
    Calls Tryd.prog 12 #[.string s] w (ParsePost w s.data.toList) := by
  have c1 := fun (s : ByteArray) (w : World) hs => Lib.hid (Cut_any s w hs)
  have c2 := fun (s : ByteArray) (w : World) hs hT => Lib.hid (Name_any s w hs hT)
  have c3 := fun (s : ByteArray) (w : World) hs => Lib.hid (Clone_any s w hs)
  have hq : ∀ (n : Int) ps, parseErr s.data.toList = n → parseOf s.data.toList = ps → ∀ e w', (∃ v, e = .returned (.tuple #[v, .int .i64 n]) ∧ OwnF strV 9 w' w.heap.size v ps ∧ Below w.heap.size w w') → ParsePost w s.data.toList e w' := fun n ps hn hp e w' h => by
    unfold ParsePost
    rw [hn, hp]
    exact h
  have HQ := Lib.hid hq
  have h0 := parts_rest s.data.toList
  have hne : decide (s.data.toList ≠ []) = (!s.toList.isEmpty) := by
    rw [Lib.toList_data]
    cases s.data.toList <;> rfl
  rw [hne] at h0
  obtain ⟨m0, hm0⟩ : ∃ m0, m0 = (!s.toList.isEmpty) := ⟨_, rfl⟩
  rw [← hm0] at h0
  have H0 := Lib.hid h0
  clear hq h0 hne
  go_enter Tryd.func12, Tryd.ntmps12
  go_wp2
  go_step3
  go_wp2
  go_step3
  go_wp2
  go_loopw [4, 5, 6, 7, 8] (fun v e r m _ wr => ∃ (n : Int) (rest : ByteArray) (more : Bool) (ps : List (List UInt8)), e = .int .i64 n ∧ r = .string rest ∧ m = .bool more ∧ Hid (OwnF strV 9 wr w.heap.size v (ps.take 8)) ∧ Hid (Below w.heap.size w wr) ∧ Hid (ps ++ restQ more rest.data.toList = partsOf s.data.toList) ∧ Hid (∀ p ∈ ps, nameOf p = true) ∧ Hid (n = if 8 < ps.length then 3 else 0) ∧ rest.size ≤ s.size) (fun _ _ r m _ _ => 2 * strSize r + boolNat m)
  case atStart =>
    refine ⟨0, s, _, [], rfl, rfl, rfl, OwnF.nil _ _ _ _, Below.refl _ _, ?_, (fun p hp => by cases hp), rfl, Nat.le_refl _⟩
    rw [← hm0]
    exact H0.out.symm
  case round =>
    obtain ⟨n, rest, more, ps, rfl, rfl, rfl, HO, HB, HP, HN, HE, hrs⟩ := hrel
    have hbs := HB.out.size
    clear hm0 H0
    cases more
    · obtain ⟨h1, h2⟩ := parse_end HP.out HN.out
      rw [← HE.out] at h1
      by_cases h8 : 8 < ps.length
      · rw [if_pos h8] at h2
        have hn : n = 3 := by rw [HE.out, if_pos h8]
        rw [hn] at h1
        have HF := Lib.hid (HQ.out _ _ h1 h2)
        subst hn
        clear HO h1 h2 h8 HP HN HE HQ c1 c2 c3
        go_wp2
        rw [Exit.noGoto_ret]
        go_ret2
        exact HF.out _ _ ⟨_, rfl, OwnF.nil _ _ _ _, HB.out⟩
      · rw [if_neg h8] at h2
        have hn : n = 0 := by rw [HE.out, if_neg h8]
        rw [hn] at h1
        have HF := Lib.hid (HQ.out _ _ h1 h2)
        subst hn
        clear h1 h2 h8 HP HN HE HQ c1 c2 c3
        go_wp2
        rw [Exit.noGoto_ret]
        go_ret2
        exact HF.out _ _ ⟨_, rfl, HO.out, HB.out⟩
    · have hsp := cut_split rest.data.toList
      have hhl := head_le rest.data.toList
      have hrl := rest_le (l := rest.data.toList)
      have d1 := c1 rest wr (by omega)
      unfold CutPost at d1
      rw [← Lib.size_eq] at hhl
      have hP := HP.out
      rw [show restQ true rest.data.toList = splitB rest.data.toList from rfl, hsp] at hP
      have hnn : rest.data.toList = [] → headP rest.data.toList = [] := fun h => by rw [h]; rfl
      obtain ⟨P, hPP⟩ : ∃ P, P = headP rest.data.toList := ⟨_, rfl⟩
      obtain ⟨T, hTT⟩ : ∃ T, T = restP rest.data.toList := ⟨_, rfl⟩
      obtain ⟨m, hm⟩ : ∃ m, m = moreP rest.data.toList := ⟨_, rfl⟩
      rw [← hPP, ← hTT, ← hm] at d1
      rw [← hPP] at hhl hnn
      rw [← hTT] at hrl
      rw [← hPP, ← hTT, ← hm] at hP
      have d2 := fun w hT => c2 ⟨P.toArray⟩ w (by rw [mk_size]; omega) hT
      have d3 := fun w => c3 ⟨P.toArray⟩ w (by rw [mk_size]; omega)
      rw [show (⟨P.toArray⟩ : ByteArray).data.toList = P from rfl] at d2
      have HP2 := Lib.hid hP
      have D1 := Lib.hid d1.out
      clear hsp d1 hPP hTT hm hP HP c1 c2 c3
      by_cases hnm : nameOf P = true
      · rw [hnm] at d2
        have hTl : T.length < rest.size := by
          rw [Lib.size_eq]
          refine hrl fun h => ?_
          exact name_ne hnm (hnn h)
        have HP3 : Hid ((ps ++ [P]) ++ restQ m (⟨T.toArray⟩ : ByteArray).data.toList = partsOf s.data.toList) := by
          show _ = _
          rw [← HP2.out, List.append_assoc]
          rfl
        have HN3 : Hid (∀ p ∈ ps ++ [P], nameOf p = true) := fun p hp => by
          rcases List.mem_append.1 hp with hp | hp
          · exact HN.out p hp
          · rw [List.mem_singleton.1 hp]; exact hnm
        have hms : 2 * (⟨T.toArray⟩ : ByteArray).size + boolNat (.bool m) < 2 * rest.size + 1 := by
          rw [mk_size]
          cases m <;> simp [boolNat] <;> omega
        have hTs : (⟨T.toArray⟩ : ByteArray).size ≤ s.size := by rw [mk_size]; omega
        obtain ⟨Y, hY⟩ : ∃ Y : ByteArray, Y = ⟨T.toArray⟩ := ⟨_, rfl⟩
        rw [← hY] at D1 HP3 hms hTs
        have HMS := Lib.hid hms
        obtain ⟨A, k, c, rfl, hk, hkc, h63, _, _⟩ := HO.out.open
        have HK := Lib.hid hk
        clear hY hnm hnn hrl hhl HP2 HN hk hms
        by_cases h8 : 8 ≤ ps.length
        · have hk8 : k = 8 := by have := HK.out; rw [List.length_take] at this; omega
          have t8 : ((k : Int) == 8) = true := by rw [hk8]; rfl
          have HO3 : Hid (OwnF strV 9 wr w.heap.size (.slice A k c) ((ps ++ [P]).take 8)) := by
            rw [List.take_append_of_le_length h8]
            exact HO.out
          have HE3 : Hid ((3 : Int) = if 8 < (ps ++ [P]).length then 3 else 0) := by
            show _ = _
            rw [if_pos (by simp; omega)]
          clear HO HE HK hk8 h8 d3 HQ
          go_wp2_with fail
          refine D1.out.mono ?_
          rintro e w1 ⟨rfl, hb1⟩
          have hT1 : Tabs w1 := (hT.below HB.out).below hb1
          go_wp2_with fail
          refine (d2 _ hT1).out.mono ?_
          rintro e w2 ⟨rfl, hb2⟩
          have hb12 := step hb1 hb2
          go_wp2
          go_roundw
          case rel => exact ⟨3, Y, m, ps ++ [P], rfl, rfl, rfl, HO3.out.below hb12, HB.out.trans (hb12.mono hbs), HP3, HN3, HE3, hTs⟩
          case measure => simpa [strSize, boolNat] using HMS.out
        · have hk8 : k = ps.length := by have := HK.out; rw [List.length_take] at this; omega
          have t8 : ((k : Int) == 8) = false := by rw [hk8, beq_eq_false_iff_ne]; omega
          have hE3 : (n = if 8 < (ps ++ [P]).length then 3 else 0) := by
            rw [HE.out, if_neg (by omega), if_neg (by simp; omega)]
          have htk : (ps ++ [P]).take 8 = ps.take 8 ++ [P] := by
            rw [List.take_of_length_le (by simp; omega), List.take_of_length_le (by omega)]
          have hle8 : (ps.take 8).length ≤ 8 := by rw [List.length_take]; omega
          have HE3 := Lib.hid hE3
          have HTK := Lib.hid htk
          clear HE HK hk8 h8 HQ hE3 htk
          go_wp2_with fail
          refine D1.out.mono ?_
          rintro e w1 ⟨rfl, hb1⟩
          have hT1 : Tabs w1 := (hT.below HB.out).below hb1
          go_wp2_with fail
          refine (d2 _ hT1).out.mono ?_
          rintro e w2 ⟨rfl, hb2⟩
          go_wp2_with fail
          refine (d3 _).out.mono ?_
          rintro e w3 ⟨rfl, hb3⟩
          have hb13 := step (step hb1 hb2) hb3
          have HO3 := Lib.hid (HO.out.below hb13)
          have hbs3 := hb13.size
          clear HO d2 d3 D1
          go_wp2_with (first
            | (at_builtin; go_loud (refine wpList_append_litF rfl (.tmp 19) (.tmp 22) strV strV_one (.string ⟨#[]⟩) rfl 22 9 16 Tryd.underlying22 info_str rfl w.heap.size _ (ps.take 8) [P] _ rfl 1 1 rfl rfl rfl HO3.out (by omega) (by omega) (by omega) ?_; intro v1 w4 ho4 hg4 hw4))
            | fail)
          have hb4 := hg4.out.belowF HO3.out (by omega)
          have HO4 : Hid (OwnF strV 9 w4 w.heap.size v1 ((ps ++ [P]).take 8)) := by rw [HTK.out]; exact ho4.out
          clear ho4 hg4 hw4
          go_roundw
          case rel => exact ⟨n, Y, m, ps ++ [P], rfl, rfl, rfl, HO4, (HB.out.trans (hb13.mono hbs)).trans hb4, HP3, HN3, HE3, hTs⟩
          case measure => simpa [strSize, boolNat] using HMS.out
      · have hnm' : nameOf P = false := by simpa using hnm
        rw [hnm'] at d2
        obtain ⟨h1, h2⟩ := parse_bad HP2.out hnm'
        have HF := Lib.hid (HQ.out _ _ h1 h2)
        obtain ⟨Y, hY⟩ : ∃ Y : ByteArray, Y = ⟨T.toArray⟩ := ⟨_, rfl⟩
        rw [← hY] at D1
        clear HO HE HQ d3 h1 h2 hY hnm hnm' hnn hrl hhl HP2 HN
        go_wp2_with fail
        refine D1.out.mono ?_
        rintro e w1 ⟨rfl, hb1⟩
        have hT1 : Tabs w1 := (hT.below HB.out).below hb1
        go_wp2_with fail
        refine (d2 _ hT1).out.mono ?_
        rintro e w2 ⟨rfl, hb2⟩
        have hb12 := step hb1 hb2
        go_wp2
        rw [Exit.noGoto_ret]
        go_ret2
        exact HF.out _ _ ⟨_, rfl, OwnF.nil _ _ _ _, HB.out.trans (hb12.mono hbs)⟩
end Go.Proofs.YtaggjlobmikagaaDoor
