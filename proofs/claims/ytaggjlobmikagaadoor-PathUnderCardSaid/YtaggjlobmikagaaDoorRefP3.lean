/-
  Layer 6: contracts of the document's answers: refectoryref06.Parse, .Join, .Parent.
-/
import Derived.Test.YtaggjlobmikagaaDoorRefP2
namespace Go.Proofs.YtaggjlobmikagaaDoor
open Go.RowKit

/-! ### Parse -/

theorem drop_bar {l : List UInt8} {f k : Nat} (hf : f ≤ k) (hk : k < l.length) (h : l[k]? = some 92) : l.drop f = (l.drop f).take (k - f) ++ 92 :: l.drop (k + 1) := by
  have h1 : (l.drop f).drop (k - f) = l.drop k := by rw [List.drop_drop]; congr 1; omega
  have h2 : l.drop k = 92 :: l.drop (k + 1) := by
    rw [List.drop_eq_getElem_cons hk]
    congr 1
    exact (List.getElem?_eq_some_iff.1 h).2
  rw [← h2, ← h1, List.take_append_drop]
theorem take_more {l : List UInt8} {f k : Nat} (hf : f ≤ k) (hk : k < l.length) {c : UInt8} (h : l[k]? = some c) : (l.drop f).take (k + 1 - f) = (l.drop f).take (k - f) ++ [c] := by
  have hkl : k - f < (l.drop f).length := by rw [List.length_drop]; omega
  rw [show k + 1 - f = (k - f) + 1 by omega, List.take_succ_eq_append_getElem hkl]
  congr 2
  rw [List.getElem_drop]
  have e := (List.getElem?_eq_some_iff.1 h).2
  rw [← e]
  congr 1
  omega
/-- a part ends: what is behind it -/
theorem part_ends {l : List UInt8} {f k : Nat} (hf : f ≤ k) (hk : k ≤ l.length) (hb : ∀ b ∈ (l.drop f).take (k - f), b ≠ 92) (h : k = l.length ∨ l[k]? = some 92) :
    restQ (decide (f ≤ l.length)) (l.drop f) = (l.drop f).take (k - f) :: restQ (decide (k + 1 ≤ l.length)) (l.drop (k + 1)) := by
  rw [decide_eq_true (by omega)]
  show splitB (l.drop f) = _
  by_cases h2 : k < l.length
  · have h3 : l[k]? = some 92 := by
      rcases h with h | h
      · omega
      · exact h
    rw [decide_eq_true (by omega)]
    show _ = _ :: splitB _
    generalize hp : (l.drop f).take (k - f) = p at hb ⊢
    have := drop_bar hf h2 h3
    rw [hp] at this
    rw [this, split_front hb]
  · obtain rfl : k = l.length := by omega
    rw [decide_eq_false (by omega)]
    have e : (l.drop f).take (l.length - f) = l.drop f := List.take_of_length_le (by rw [List.length_drop]; omega)
    rw [e] at hb ⊢
    exact split_plain hb

set_option maxRecDepth 100000 in
set_option maxHeartbeats 4000000 in
theorem RParse_any (s : ByteArray) (w : World) (hs : s.size ≤ 4294967296) :
    Calls Tryd.prog 13 #[.string s] w (ParsePost w s.data.toList) := by
  have c2 := fun (s : ByteArray) (w : World) hs => Lib.hid (RName_any s w hs)
  have hq : ∀ (n : Int) ps, parseErr s.data.toList = n → parseOf s.data.toList = ps → ∀ e w', (∃ v, e = .returned (.tuple #[v, .int .i64 n]) ∧ OwnF strV 9 w' w.heap.size v ps ∧ Below w.heap.size w w') → ParsePost w s.data.toList e w' := fun n ps hn hp e w' h => by
    unfold ParsePost
    rw [hn, hp]
    exact h
  by_cases h0 : s.data.toList = []
  · have e0 : s = ⟨#[]⟩ := by
      apply ByteArray.ext
      exact Array.toList_inj.1 h0
    have h1 : parseErr s.data.toList = 0 ∧ parseOf s.data.toList = [] := by rw [h0]; exact ⟨by decide, by decide⟩
    have HF := Lib.hid (hq _ _ h1.1 h1.2)
    clear hq h0 h1 c2
    subst e0
    go_enter Tryd.func13, Tryd.ntmps13
    go_wp2
    go_ret2
    exact HF.out _ _ ⟨_, rfl, OwnF.nil _ _ _ _, Below.refl _ _⟩
  have HQ := Lib.hid hq
  have hpo : partsOf s.data.toList = splitB s.data.toList := if_neg h0
  have hsz := Lib.size_eq s
  have HS := Lib.hid hsz
  have HPO := Lib.hid hpo
  have t0 : (s.toList == []) = false := by
    rw [Lib.toList_data]
    simpa using h0
  have t0' : s.toList.isEmpty = false := by
    rw [Lib.toList_data]
    simpa using h0
  clear hq hpo h0 hsz
  go_enter Tryd.func13, Tryd.ntmps13
  go_wp2
  go_loopw [4, 5, 6] (fun v f i wr => ∃ (a k : Nat) (ps : List (List UInt8)), f = .int .i64 a ∧ i = .int .i64 k ∧ a ≤ k ∧ k ≤ s.size + 1 ∧ Hid (k = s.size + 1 → a = k) ∧ Hid (OwnF strV 9 wr w.heap.size v ps) ∧ Hid (Below w.heap.size w wr) ∧ Hid (ps ++ restQ (decide (a ≤ s.data.toList.length)) (s.data.toList.drop a) = splitB s.data.toList) ∧ Hid (∀ b ∈ (s.data.toList.drop a).take (k - a), b ≠ 92) ∧ Hid (∀ p ∈ ps, nameOf p = true) ∧ ps.length ≤ a) (fun _ _ i _ => s.size + 1 - (intOf i).toNat)
  case atStart => exact ⟨0, 0, [], rfl, rfl, Nat.le_refl _, by omega, fun h => by omega, OwnF.nil _ _ _ _, Below.refl _ _, by simp [Hid, restQ], fun b hb => by simp at hb, fun p hp => by simp at hp, by simp⟩
  case round =>
    obtain ⟨a, k, ps, rfl, rfl, hak, hk, HK, HO, HB, HP, HC, HN, hpa⟩ := hrel
    have hbs := HB.out.size
    by_cases hks : k ≤ s.size
    · have hkl : k ≤ s.data.toList.length := by rw [← HS.out]; exact hks
      have stepA : ∀ (hend : k = s.size ∨ s.data.toList[k]? = some 92), Hid (ps ++ (s.data.toList.drop a).take (k - a) :: restQ (decide (k + 1 ≤ s.data.toList.length)) (s.data.toList.drop (k + 1)) = splitB s.data.toList) := fun hend => by
        show _ = _
        rw [← HP.out, part_ends hak hkl HC.out (by rw [← HS.out]; exact hend)]
      have hext := extract_mk s a k
      have hpl : ((s.data.toList.drop a).take (k - a)).length ≤ s.size := by
        rw [List.length_take, List.length_drop, ← HS.out]
        omega
      by_cases hlt : k < s.size
      · have hl : k < s.data.toList.length := by rw [← HS.out]; exact hlt
        have hsk : s.data.toList[k]? = some (s[k]'hlt) := by
          rw [List.getElem?_eq_getElem hl, Array.getElem_toList]
          rfl
        by_cases h92 : (s[k]'hlt) = 92
        · rw [h92] at hsk
          have HA := stepA (.inr hsk)
          have t1 : (((s[k]'hlt).toNat : Int) != 92) = false := by rw [h92]; rfl
          obtain ⟨p, hp⟩ : ∃ p, p = (s.data.toList.drop a).take (k - a) := ⟨_, rfl⟩
          rw [← hp] at HA hext hpl
          have d2 := fun w => c2 ⟨p.toArray⟩ w (by rw [mk_size]; omega)
          rw [show (⟨p.toArray⟩ : ByteArray).data.toList = p from rfl, ← hext] at d2
          have HX := Lib.hid hext
          clear hp hext hsk h92 stepA HC HP c2 hl hkl
          by_cases hnm : nameOf p = true
          · rw [hnm] at d2
            have HN2 : Hid (∀ q ∈ ps ++ [p], nameOf q = true) := fun q hq => by
              rcases List.mem_append.1 hq with hq | hq
              · exact HN.out q hq
              · rw [List.mem_singleton.1 hq]; exact hnm
            have HP2 : Hid ((ps ++ [p]) ++ restQ (decide (k + 1 ≤ s.data.toList.length)) (s.data.toList.drop (k + 1)) = splitB s.data.toList) := by
              show _ = _
              rw [← HA.out, List.append_assoc]
              rfl
            have hcs : #[Value.string (s.extract a k)] = ([p].map strV).toArray := by rw [HX.out]; rfl
            have HCS := Lib.hid hcs
            clear hnm HN HA hcs
            go_wp2_with fail
            refine (d2 _).out.mono ?_
            rintro e w1 ⟨rfl, hb1⟩
            have hbs1 := hb1.size
            have HO1 := Lib.hid (HO.out.below hb1)
            clear d2 HO
            go_wp2_with (first
              | (at_builtin; go_loud (refine wpList_append_litF rfl (.tmp 31) (.tmp 36) strV strV_one (.string ⟨#[]⟩) rfl 22 9 16 Tryd.underlying22 info_str rfl w.heap.size _ ps [p] _ HCS.out 1 1 rfl rfl rfl HO1.out (by omega) (by omega) (by omega) ?_; intro v1 w4 ho4 hg4 hw4))
              | fail)
            have hb4 := hg4.out.belowF HO1.out (by omega)
            have HB4 := Lib.hid ((HB.out.trans (hb1.mono hbs)).trans hb4)
            clear hg4 hw4 hb4
            go_wp2
            go_roundw
            case rel => exact ⟨k + 1, k + 1, ps ++ [p], by go_num, by go_num, Nat.le_refl _, by omega, fun _ => rfl, ho4, HB4, HP2, fun b hb => by simp at hb, HN2, by simp; omega⟩
            case measure => simp [intOf]; omega
          · have hnm' : nameOf p = false := by simpa using hnm
            rw [hnm'] at d2
            have hA := HA.out
            rw [← HPO.out] at hA
            obtain ⟨h1, h2⟩ := parse_bad hA hnm'
            have HF := Lib.hid (HQ.out _ _ h1 h2)
            clear hnm hnm' hA h1 h2 HA HN HO HQ
            go_wp2_with fail
            refine (d2 _).out.mono ?_
            rintro e w1 ⟨rfl, hb1⟩
            have HB1 := Lib.hid (HB.out.trans (hb1.mono hbs))
            clear hb1 d2
            go_wp2
            go_ret2
            exact HF.out _ _ ⟨_, rfl, OwnF.nil _ _ _ _, HB1.out⟩
        · have HC2 : Hid (∀ b ∈ (s.data.toList.drop a).take (k + 1 - a), b ≠ 92) := fun b hb => by
            rw [take_more hak hl hsk] at hb
            rcases List.mem_append.1 hb with hb | hb
            · exact HC.out b hb
            · rw [List.mem_singleton.1 hb]; exact h92
          have t1 : (((s[k]'hlt).toNat : Int) != 92) = true := by
            rw [bne_iff_ne]
            intro h
            exact h92 (UInt8.toNat_inj.1 (show (s[k]'hlt).toNat = 92 by omega))
          clear hsk h92 stepA hext hpl hl hkl HC c2 HQ HPO HK t0 t0'
          go_wp2
          go_roundw
          case rel => exact ⟨a, k + 1, ps, rfl, by go_num, by omega, by omega, fun h => by omega, HO, HB, HP, HC2, HN, hpa⟩
          case measure => simp [intOf]; omega
      · have hke : k = s.size := by omega
        have HA := stepA (.inl hke)
        obtain ⟨p, hp⟩ : ∃ p, p = (s.data.toList.drop a).take (k - a) := ⟨_, rfl⟩
        rw [← hp] at HA hext hpl
        have d2 := fun w => c2 ⟨p.toArray⟩ w (by rw [mk_size]; omega)
        rw [show (⟨p.toArray⟩ : ByteArray).data.toList = p from rfl, ← hext] at d2
        have HX := Lib.hid hext
        clear hp hext stepA HC HP c2 hkl hke
        by_cases hnm : nameOf p = true
        · rw [hnm] at d2
          have HN2 : Hid (∀ q ∈ ps ++ [p], nameOf q = true) := fun q hq => by
            rcases List.mem_append.1 hq with hq | hq
            · exact HN.out q hq
            · rw [List.mem_singleton.1 hq]; exact hnm
          have HP2 : Hid ((ps ++ [p]) ++ restQ (decide (k + 1 ≤ s.data.toList.length)) (s.data.toList.drop (k + 1)) = splitB s.data.toList) := by
            show _ = _
            rw [← HA.out, List.append_assoc]
            rfl
          have hcs : #[Value.string (s.extract a k)] = ([p].map strV).toArray := by rw [HX.out]; rfl
          have HCS := Lib.hid hcs
          clear hnm HN HA hcs
          go_wp2_with fail
          refine (d2 _).out.mono ?_
          rintro e w1 ⟨rfl, hb1⟩
          have hbs1 := hb1.size
          have HO1 := Lib.hid (HO.out.below hb1)
          clear d2 HO
          go_wp2_with (first
            | (at_builtin; go_loud (refine wpList_append_litF rfl (.tmp 31) (.tmp 36) strV strV_one (.string ⟨#[]⟩) rfl 22 9 16 Tryd.underlying22 info_str rfl w.heap.size _ ps [p] _ HCS.out 1 1 rfl rfl rfl HO1.out (by omega) (by omega) (by omega) ?_; intro v1 w4 ho4 hg4 hw4))
            | fail)
          have hb4 := hg4.out.belowF HO1.out (by omega)
          have HB4 := Lib.hid ((HB.out.trans (hb1.mono hbs)).trans hb4)
          clear hg4 hw4 hb4
          go_wp2
          go_roundw
          case rel => exact ⟨k + 1, k + 1, ps ++ [p], by go_num, by go_num, Nat.le_refl _, by omega, fun _ => rfl, ho4, HB4, HP2, fun b hb => by simp at hb, HN2, by simp; omega⟩
          case measure => simp [intOf]; omega
        · have hnm' : nameOf p = false := by simpa using hnm
          rw [hnm'] at d2
          have hA := HA.out
          rw [← HPO.out] at hA
          obtain ⟨h1, h2⟩ := parse_bad hA hnm'
          have HF := Lib.hid (HQ.out _ _ h1 h2)
          clear hnm hnm' hA h1 h2 HA HN HO HQ
          go_wp2_with fail
          refine (d2 _).out.mono ?_
          rintro e w1 ⟨rfl, hb1⟩
          have HB1 := Lib.hid (HB.out.trans (hb1.mono hbs))
          clear hb1 d2
          go_wp2
          go_ret2
          exact HF.out _ _ ⟨_, rfl, OwnF.nil _ _ _ _, HB1.out⟩
    · have hke : k = s.size + 1 := by omega
      have hae := HK.out hke
      have hP := HP.out
      rw [hae, hke, decide_eq_false (by rw [← HS.out]; omega), ← HPO.out] at hP
      obtain ⟨h1, h2⟩ := parse_end (show ps ++ [] = _ from hP) HN.out
      obtain ⟨A, n, c, rfl, hn, _, h63, _, _⟩ := HO.out.open
      have HNN := Lib.hid hn
      by_cases h8 : 8 < n
      · rw [if_pos (by omega)] at h1 h2
        have HF := Lib.hid (HQ.out _ _ h1 h2)
        clear hP h1 h2 hn hae hke HQ HP HC HN HK HPO c2 hpa
        go_wp2
        go_ret2
        exact HF.out _ _ ⟨_, rfl, OwnF.nil _ _ _ _, HB.out⟩
      · rw [if_neg (by omega)] at h1 h2
        rw [List.take_of_length_le (by omega)] at h2
        have HF := Lib.hid (HQ.out _ _ h1 h2)
        clear hP h1 h2 hn hae hke HQ HP HC HN HK HPO c2 hpa
        go_wp2
        go_ret2
        exact HF.out _ _ ⟨_, rfl, HO.out, HB.out⟩

/-! ### Join -/

theorem join_snoc {ps : List (List UInt8)} (h : ps ≠ []) (p : List UInt8) : joinB (ps ++ [p]) = joinB ps ++ 92 :: p := by
  induction ps with
  | nil => exact absurd rfl h
  | cons q qs ih =>
    by_cases hq : qs = []
    · subst hq; rfl
    · rw [List.cons_append, join_cons q (by simp), ih hq, join_cons q hq]
      simp

/-- what a loop that joins has joined -/
def joinTo (n : Nat) (ps : List (List UInt8)) : List UInt8 := if 8 < n then [] else joinB ps
theorem joinTo_le {n : Nat} {xs : List (List UInt8)} (hn : xs.length ≤ n) (h : ∀ p ∈ xs, nameOf p = true) : (joinTo n xs).length ≤ 2000 := by
  unfold joinTo
  split
  · simp
  · have h1 := joinB_le xs 128 fun p hp => name_bytes (h p hp)
    have h2 : xs.length * (128 + 1) ≤ 8 * 129 := Nat.mul_le_mul (by omega) (Nat.le_refl _)
    omega

set_option maxRecDepth 100000 in
set_option maxHeartbeats 4000000 in
theorem RJoin_any (w : World) (A : Option Addr) (n c : Nat) (xs : List (List UInt8)) (hx : HoldsF strV w w.heap.size A n c xs) (hl : ∀ p ∈ xs, p.length ≤ 4398046511104) (hn63 : n ≤ 9223372036854775807) :
    Calls Tryd.prog 19 #[.slice A n c] w (JoinPost w xs) := by
  have c2 := fun (s : ByteArray) (w : World) hs => Lib.hid (RName_any s w hs)
  have hq : ∀ (p : ByteArray) (m : Int), joinOf xs = p.data.toList → namesErr xs = m → ∀ e w', e = .returned (.tuple #[.string p, .int .i64 m]) ∧ Below w.heap.size w w' → JoinPost w xs e w' := fun p m hp hm e w' h => by
    unfold JoinPost
    rw [hp, hm]
    exact h
  have HQ := Lib.hid hq
  have HX := Lib.hid hx
  have hxl := hx.len
  have HXL := Lib.hid hxl
  clear hq hx hxl
  go_enter Tryd.func19, Tryd.ntmps19
  go_wp2
  go_loopw [4, 5] (fun o i wr => ∃ (k : Nat) (os : ByteArray), o = .string os ∧ i = .int .i64 k ∧ k ≤ n ∧ Hid (Below w.heap.size w wr) ∧ Hid (∀ p ∈ xs.take k, nameOf p = true) ∧ Hid (os.data.toList = joinTo n (xs.take k)) ∧ os.size ≤ 2000) (fun _ i _ => n - (intOf i).toNat)
  case atStart => exact ⟨0, ⟨#[]⟩, rfl, rfl, Nat.zero_le _, Below.refl _ _, (fun p hp => by simp at hp), (by show _ = _; unfold joinTo; split <;> rfl), by decide⟩
  case round =>
    obtain ⟨k, os, rfl, rfl, hk, HB, HN, HJ, hos⟩ := hrel
    by_cases hlt : k < n
    · obtain ⟨b, off, rfl, hbk, hc⟩ := (HX.out.below HB.out).cells (by omega)
      have hkx : k < xs.length := by have := HXL.out; omega
      obtain ⟨p, hp⟩ : ∃ p, p = xs[k] := ⟨_, rfl⟩
      have gc := hc k p (by rw [hp]; exact List.getElem?_eq_getElem hkx)
      have hpl : p.length ≤ 4398046511104 := hl p (by rw [hp]; exact List.getElem_mem hkx)
      have htk : xs.take (k + 1) = xs.take k ++ [p] := by rw [hp]; exact List.take_succ_eq_append_getElem hkx
      have hpm : p ∈ xs := by rw [hp]; exact List.getElem_mem hkx
      have hk1 : (xs.take (k + 1)).length ≤ n := by rw [List.length_take]; omega
      have hkl : (xs.take k).length = k := by rw [List.length_take]; omega
      unfold strV at gc
      have d2 := c2 ⟨p.toArray⟩ wr (by rw [mk_size]; exact hpl)
      rw [show (⟨p.toArray⟩ : ByteArray).data.toList = p from rfl] at d2
      clear hc hp c2
      by_cases hnm : nameOf p = true
      · rw [hnm] at d2
        have hpb := name_bytes hnm
        have hN2 : ∀ p ∈ xs.take (k + 1), nameOf p = true := fun q hq => by
          rw [htk] at hq
          rcases List.mem_append.1 hq with hq | hq
          · exact HN.out q hq
          · rw [List.mem_singleton.1 hq]; exact hnm
        have hle := joinTo_le hk1 hN2
        have HN2 := Lib.hid hN2
        have gcs : ∀ w2, Below wr.heap.size wr w2 → w2.cell? ⟨b, off + k, none⟩ = some (.string ⟨p.toArray⟩) := fun w2 hb => (hb.cell (p := ⟨b, off + k, none⟩) (Nat.lt_of_lt_of_le hbk HB.out.size)).trans gc
        obtain ⟨P, hP⟩ : ∃ P : ByteArray, P = ⟨p.toArray⟩ := ⟨_, rfl⟩
        have hPl : P.data.toList = p := by rw [hP]
        have hPs : P.size ≤ 128 := by rw [hP, mk_size]; exact hpb
        rw [← hP] at d2 gc gcs
        have GCS := Lib.hid gcs
        clear hnm HN hpm hN2 hP hpb hkx gcs
        by_cases h8 : 8 < n
        · have HJ2 : Hid (os.data.toList = joinTo n (xs.take (k + 1))) := by
            show _ = _
            rw [HJ.out]
            unfold joinTo
            rw [if_pos h8, if_pos h8]
          clear HJ htk hle hPl hk1 hkl
          go_wp2_with fail
          refine d2.out.mono ?_
          rintro e w2 ⟨rfl, hb2⟩
          have HB2 := Lib.hid (HB.out.trans (hb2.mono HB.out.size))
          clear hb2
          go_wp2
          go_roundw
          case rel => exact ⟨k + 1, os, rfl, by go_num, hlt, HB2, HN2, HJ2, hos⟩
          case measure => simp [intOf]; omega
        · by_cases h0 : k = 0
          · subst h0
            have HJ2 : Hid ((os ++ P).data.toList = joinTo n (xs.take (0 + 1))) := by
              show _ = _
              rw [ByteArray.data_append, Array.toList_append, HJ.out, hPl, htk]
              unfold joinTo
              rw [if_neg h8, if_neg h8]
              rfl
            have hsz : (os ++ P).size ≤ 2000 := by rw [Lib.size_eq, HJ2.out]; exact hle
            clear HJ htk hle hPl hk1 hkl
            rw [Nat.add_zero] at gc GCS
            go_wp2_with fail
            refine d2.out.mono ?_
            rintro e w2 ⟨rfl, hb2⟩
            have HB2 := Lib.hid (HB.out.trans (hb2.mono HB.out.size))
            have gc2 := GCS.out w2 hb2
            clear hb2 gc
            go_wp2
            go_roundw
            case rel => exact ⟨1, _, rfl, by go_num, hlt, HB2, HN2, HJ2, hsz⟩
            case measure => simp [intOf]; omega
          · have HJ2 : Hid ((os ++ ⟨#[92]⟩ ++ P).data.toList = joinTo n (xs.take (k + 1))) := by
              show _ = _
              rw [ByteArray.data_append, ByteArray.data_append, Array.toList_append, Array.toList_append, HJ.out, hPl, htk]
              unfold joinTo
              rw [if_neg h8, if_neg h8, join_snoc (by intro h; rw [h] at hkl; simp at hkl; omega), List.append_assoc]
              rfl
            have hsz : (os ++ ⟨#[92]⟩ ++ P).size ≤ 2000 := by rw [Lib.size_eq, HJ2.out]; exact hle
            have hk0 : 0 < (k : Int) := by omega
            clear HJ htk hle hPl hk1 hkl
            go_wp2_with fail
            refine d2.out.mono ?_
            rintro e w2 ⟨rfl, hb2⟩
            have HB2 := Lib.hid (HB.out.trans (hb2.mono HB.out.size))
            have gc2 := GCS.out w2 hb2
            clear hb2 gc
            go_wp2
            go_roundw
            case rel => exact ⟨k + 1, _, rfl, by go_num, hlt, HB2, HN2, HJ2, hsz⟩
            case measure => simp [intOf]; omega
      · have hnm' : nameOf p = false := by simpa using hnm
        rw [hnm'] at d2
        have h1 := namesErr_bad hpm hnm'
        have HF := Lib.hid (HQ.out ⟨#[]⟩ _ (joinOf_bad (by omega)) h1)
        clear htk hpm hnm hnm' HN h1 HQ HJ hkx hk1 hkl
        go_wp2_with fail
        refine d2.out.mono ?_
        rintro e w2 ⟨rfl, hb2⟩
        have HB2 := Lib.hid (HB.out.trans (hb2.mono HB.out.size))
        clear hb2
        go_wp2
        go_ret2
        exact HF.out _ _ ⟨rfl, HB2.out⟩
    · obtain rfl : k = n := by omega
      have htk : xs.take k = xs := List.take_of_length_le (by have := HXL.out; omega)
      have hall : ∀ p ∈ xs, nameOf p = true := by
        have := HN.out
        rwa [htk] at this
      have hJ := HJ.out
      rw [htk] at hJ
      have hE := namesErr_all hall
      rw [HXL.out] at hE
      by_cases h8 : 8 < k
      · rw [if_pos h8] at hE
        have HF := Lib.hid (HQ.out ⟨#[]⟩ _ (joinOf_bad (by omega)) hE)
        clear hE hall HQ HN c2 hJ HJ htk
        go_wp2
        go_ret2
        exact HF.out _ _ ⟨rfl, HB.out⟩
      · rw [if_neg h8] at hE
        have hjo : joinOf xs = os.data.toList := by
          rw [hJ]
          unfold joinOf joinTo
          rw [if_pos hE, if_neg h8]
        have HF := Lib.hid (HQ.out os _ hjo hE)
        clear hE hall HQ HN c2 hJ HJ htk hjo
        go_wp2
        go_ret2
        exact HF.out _ _ ⟨rfl, HB.out⟩
end Go.Proofs.YtaggjlobmikagaaDoor
