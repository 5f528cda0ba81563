/-
  Layer 5: the contracts of refectoryref05.Fits, .Plain, .Short.
-/
import Derived.Test.YtfligggojiboeaaDoorGlobG
import Derived.Test.YtfligggojiboeaaDoorGlobE
namespace Go.Proofs.YtfligggojiboeaaDoor
open Go.RowKit

set_option maxHeartbeats 2000000 in
theorem RFits_any (p s : ByteArray) (w : World) (hp : p.size ≤ 4398046511104) (hs : s.size ≤ 4398046511104) :
    Calls Tryd.prog 11 #[.string p, .string s] w (FitsPost w p.data.toList s.data.toList) := by
  have c1 := asked_any p s w hp hs
  unfold AskedPost at c1
  have hq : ∀ (b : Bool) (n : Int), fitsOf p.data.toList s.data.toList = b → patErr p.data.toList s.data.toList = n → ∀ e w', e = .returned (.tuple #[.bool b, .int .i64 n]) ∧ Below w.heap.size w w' → FitsPost w p.data.toList s.data.toList e w' := fun b n hb hn e w' h => by
    unfold FitsPost
    rw [hb, hn]
    exact h
  by_cases he : patErr p.data.toList s.data.toList = 0
  · have hf : fitsOf p.data.toList s.data.toList = fitAt (foldedOf p.data.toList) (foldedOf p.data.toList).length (foldedOf s.data.toList) := if_pos he
    obtain ⟨_, _, l1, l2⟩ := patErr_ok.1 he
    have HQ := Lib.hid (hq _ _ hf he)
    have c2 := fun w base base' v u h1 h2 => Lib.hid (rfits_any w base base' v u (foldedOf p.data.toList) (foldedOf s.data.toList) h1 h2 (by rw [foldedOf_length]; omega) (by rw [foldedOf_length]; omega))
    rw [he] at c1
    obtain ⟨L, hL⟩ : ∃ L, L = foldedOf p.data.toList := ⟨_, rfl⟩
    obtain ⟨M, hM⟩ : ∃ L, L = foldedOf s.data.toList := ⟨_, rfl⟩
    rw [← hL, ← hM] at c1 c2 HQ
    have C1 := Lib.hid c1
    clear c1 hq he hf hL hM l1 l2
    go_enter Tryd.func11, Tryd.ntmps11
    go_wp2_with fail
    refine C1.out.mono ?_
    rintro e w1 ⟨v, u, rfl, ho, hb1⟩
    obtain ⟨ho1, ho2⟩ := ho (by trivial)
    have HO1 := Lib.hid ho1
    have HO2 := Lib.hid ho2
    clear ho ho1 ho2
    go_wp2_with fail
    refine (c2 _ _ _ _ _ HO1.out HO2.out).out.mono ?_
    rintro e w2 ⟨rfl, hb2⟩
    go_wp2
    go_ret2
    exact HQ.out _ _ ⟨rfl, step hb1 hb2⟩
  · obtain ⟨E, hE⟩ : ∃ E, E = patErr p.data.toList s.data.toList := ⟨_, rfl⟩
    have HQ := Lib.hid (hq _ _ (fitsOf_bad he) hE.symm)
    rw [← hE] at c1 he
    have C1 := Lib.hid c1
    have hne : (E != 0) = true := by simpa using he
    clear c1 hq he hE
    go_enter Tryd.func11, Tryd.ntmps11
    go_wp2_with fail
    refine C1.out.mono ?_
    rintro e w1 ⟨v, u, rfl, _, hb1⟩
    go_wp2
    go_ret2
    exact HQ.out _ _ ⟨rfl, hb1⟩

/-! ### Plain -/

def goodB (b : UInt8) : Bool := decide (b.toNat ≠ 42) && decide (b.toNat ≠ 63)
theorem plainOf_eq (l : List UInt8) : plainOf l = (isText l && l.all goodB) := rfl

set_option maxHeartbeats 2000000 in
theorem RPlain_any (s : ByteArray) (w : World) (hs : s.size ≤ 4398046511104) :
    Calls Tryd.prog 16 #[.string s] w fun e w' => e = .returned (.bool (plainOf s.data.toList)) ∧ Below w.heap.size w w' := by
  have c1 := RIs_any s w hs
  rw [plainOf_eq]
  by_cases ht : isText s.data.toList = false
  · rw [ht] at c1
    rw [ht, Bool.false_and]
    have C1 := Lib.hid c1
    clear c1 ht
    go_enter Tryd.func16, Tryd.ntmps16
    go_wp2_with fail
    refine C1.out.mono ?_
    rintro e w1 ⟨rfl, hb1⟩
    go_wp2
    go_ret
    exact ⟨rfl, hb1⟩
  have ht' : isText s.data.toList = true := by simpa using ht
  rw [ht'] at c1
  rw [ht', Bool.true_and]
  have C1 := Lib.hid c1
  have HS := Lib.hid (Lib.size_eq s)
  obtain ⟨R, hR⟩ : ∃ R, R = s.data.toList.all goodB := ⟨_, rfl⟩
  rw [← hR]
  have HR := Lib.hid hR
  clear c1 ht ht' hR
  go_enter Tryd.func16, Tryd.ntmps16
  go_wp2_with fail
  refine C1.out.mono ?_
  rintro e w1 ⟨rfl, hb1⟩
  go_wp2
  go_loop [3] (fun i => ∃ k : Nat, i = .int .i64 k ∧ k ≤ s.size ∧ Hid ((s.data.toList.take k).all goodB = true)) (fun i => s.size - (intOf i).toNat)
  case atStart => exact ⟨0, rfl, Nat.zero_le _, rfl⟩
  case round =>
    obtain ⟨k, rfl, hk, HA⟩ := hrel
    by_cases hlt : k < s.size
    · have hl : k < s.data.toList.length := by have := HS.out; omega
      have hsk : s.data.toList[k] = s[k]'hlt := by rw [Array.getElem_toList]; rfl
      have htk : s.data.toList.take (k + 1) = s.data.toList.take k ++ [s[k]'hlt] := by rw [List.take_succ_eq_append_getElem hl, hsk]
      have hmem : (s[k]'hlt) ∈ s.data.toList := by rw [← hsk]; exact List.getElem_mem hl
      obtain ⟨c, hc⟩ : ∃ c, c = (s[k]'hlt).toNat := ⟨_, rfl⟩
      by_cases h42 : c = 42
      · have HF : Hid (R = false) := by
          show _ = _
          rw [HR.out, List.all_eq_false]
          exact ⟨_, hmem, by unfold goodB; rw [← hc, h42]; decide⟩
        have ht1 : (((s[k]'hlt).toNat : Int) == 42) = true := by rw [← hc, h42]; rfl
        clear htk hmem hsk hc h42 HA
        go_wp2
        go_ret
        exact ⟨ret_bool HF.out.symm, hb1⟩
      · have ht1 : (((s[k]'hlt).toNat : Int) == 42) = false := by rw [← hc]; simp; omega
        by_cases h63 : c = 63
        · have HF : Hid (R = false) := by
            show _ = _
            rw [HR.out, List.all_eq_false]
            exact ⟨_, hmem, by unfold goodB; rw [← hc, h63]; decide⟩
          have ht2 : (((s[k]'hlt).toNat : Int) == 63) = true := by rw [← hc, h63]; rfl
          clear htk hmem hsk hc h42 h63 HA
          go_wp2
          go_ret
          exact ⟨ret_bool HF.out.symm, hb1⟩
        · have ht2 : (((s[k]'hlt).toNat : Int) == 63) = false := by rw [← hc]; simp; omega
          have HA' : Hid ((s.data.toList.take (k + 1)).all goodB = true) := by
            show _ = _
            rw [htk, List.all_append, HA.out]
            have hg : goodB (s[k]'hlt) = true := by
              unfold goodB
              rw [← hc]
              simp [h42, h63]
            simp [hg]
          clear htk hmem hsk hc h42 h63 HA
          go_wp2
          go_round
          case rel => exact ⟨k + 1, by go_num, hlt, HA'⟩
          case measure => simp [intOf]; omega
    · have HF : Hid (R = true) := by
        show _ = _
        rw [HR.out, ← HA.out, List.take_of_length_le (by have := HS.out; omega)]
      clear HA
      go_wp2
      go_ret
      exact ⟨ret_bool HF.out.symm, hb1⟩

/-! ### Short -/

theorem intsB_inj {a b : List UInt8} (h : intsB a = intsB b) : a = b := by
  induction a generalizing b with
  | nil => cases b with
    | nil => rfl
    | cons y ys => simp [intsB] at h
  | cons x xs ih => cases b with
    | nil => simp [intsB] at h
    | cons y ys =>
      simp only [intsB, List.map_cons, List.cons.injEq] at h
      rw [ih h.2, (UInt8.toNat_inj.1 (show x.toNat = y.toNat by omega) : x = y)]
theorem txt_append (a b : ByteArray) : intsB (a ++ b).data.toList = intsB a.data.toList ++ intsB b.data.toList := by
  simp [intsB, ByteArray.data_append]
theorem txt_of {a : ByteArray} {l : List UInt8} (h : intsB a.data.toList = intsB l) : a = ⟨l.toArray⟩ := by
  have := intsB_inj h
  rw [← this]
theorem txt_one (s : ByteArray) (k : Nat) (h : k < s.size) : intsB (s.extract k (k + 1)).data.toList = [((s[k]'h).toNat : Int)] := by
  have hl : k < s.data.toList.length := by rw [← Lib.size_eq]; exact h
  have hsk : s.data.toList[k] = s[k]'h := by rw [Array.getElem_toList]; rfl
  rw [Lib.extract_eq, show k + 1 - k = 1 by omega, List.drop_eq_getElem_cons hl, hsk]
  rfl
theorem txt_drop (s : ByteArray) (k : Nat) (h : k < s.size) : (intsB s.data.toList).drop k = ((s[k]'h).toNat : Int) :: (intsB s.data.toList).drop (k + 1) := by
  have hl : k < s.data.toList.length := by rw [← Lib.size_eq]; exact h
  have hsk : s.data.toList[k] = s[k]'h := by rw [Array.getElem_toList]; rfl
  have hl' : k < (intsB s.data.toList).length := by rw [intsB_len]; exact hl
  rw [List.drop_eq_getElem_cons hl']
  simp only [intsB, List.getElem_map, hsk]

set_option maxRecDepth 100000 in
set_option maxHeartbeats 4000000 in
theorem RShort_any (s : ByteArray) (w : World) (hs : s.size ≤ 4398046511104) :
    Calls Tryd.prog 14 #[.string s] w (ShortPost w s.data.toList) := by
  have c1 := asked_any s ⟨#[]⟩ w hs (by decide)
  unfold AskedPost at c1
  rw [show (⟨#[]⟩ : ByteArray).data.toList = [] from rfl] at c1
  have hq : ∀ (x : ByteArray) (n : Int), (⟨(shortO s.data.toList).toArray⟩ : ByteArray) = x → patErr s.data.toList [] = n → ∀ e w', e = .returned (.tuple #[.string x, .int .i64 n]) ∧ Below w.heap.size w w' → ShortPost w s.data.toList e w' := fun x n hx hn e w' h => by
    unfold ShortPost
    rw [hx, hn]
    exact h
  by_cases he : patErr s.data.toList [] = 0
  · have hO : shortO s.data.toList = shortB s.data.toList := if_pos he
    have hz := short_bytes s.data.toList false
    have hq' : ∀ (x : ByteArray), intsB x.data.toList = shortF false (intsB s.data.toList) → ∀ e w', e = .returned (.tuple #[.string x, .int .i64 0]) ∧ Below w.heap.size w w' → ShortPost w s.data.toList e w' := fun x hx => hq x 0 (by
      rw [hO]
      refine (txt_of ?_).symm
      rw [hx, hz]
      rfl) he
    obtain ⟨Z, hZ⟩ : ∃ Z, Z = shortF false (intsB s.data.toList) := ⟨_, rfl⟩
    rw [← hZ] at hq'
    have HQ := Lib.hid hq'
    have hZl : Z.length ≤ s.size := by
      have := shortF_len (intsB s.data.toList) false
      rw [← hZ, intsB_len, ← Lib.size_eq] at this
      simpa using this
    have HZ := Lib.hid hZ
    rw [he] at c1
    have C1 := Lib.hid c1
    clear c1 hq hq' he hO hz hZ
    go_enter Tryd.func14, Tryd.ntmps14
    go_wp2_with fail
    refine C1.out.mono ?_
    rintro e w1 ⟨v, u, rfl, _, hb1⟩
    clear C1
    go_wp2
    go_loop [7, 8, 9] (fun o st i => ∃ (k : Nat) (os : ByteArray) (b : Bool), o = .string os ∧ st = .bool b ∧ i = .int .i64 k ∧ k ≤ s.size ∧ Hid (intsB os.data.toList ++ shortF b ((intsB s.data.toList).drop k) = Z)) (fun _ _ i => s.size - (intOf i).toNat)
    case atStart =>
      refine ⟨0, ⟨#[]⟩, false, rfl, rfl, rfl, Nat.zero_le _, ?_⟩
      show _ = _
      rw [HZ.out, List.drop_zero]
      rfl
    case round =>
      obtain ⟨k, os, b, rfl, rfl, rfl, hk, HE⟩ := hrel
      have hos : os.size ≤ 4398046511104 := by
        have := congrArg List.length HE.out
        rw [List.length_append, intsB_len, ← Lib.size_eq] at this
        omega
      by_cases hlt : k < s.size
      · have hd := txt_drop s k hlt
        have h1 := txt_one s k hlt
        obtain ⟨c, hc⟩ : ∃ c : Int, c = ((s[k]'hlt).toNat : Int) := ⟨_, rfl⟩
        rw [← hc] at hd h1
        have hE := HE.out
        rw [hd] at hE
        by_cases h42 : c = 42
        · have HE' : Hid (intsB os.data.toList ++ shortF true ((intsB s.data.toList).drop (k + 1)) = Z) := by
            show _ = _
            rw [← hE, h42, shortF_star]
          have ht1 : (((s[k]'hlt).toNat : Int) == 42) = true := by rw [← hc, h42]; rfl
          clear hd h1 hc hE h42 HE
          go_wp2
          go_round
          case rel => exact ⟨k + 1, os, true, rfl, rfl, by go_num, hlt, HE'⟩
          case measure => simp [intOf]; omega
        · have ht1 : (((s[k]'hlt).toNat : Int) == 42) = false := by rw [← hc]; simpa using h42
          by_cases h63 : c = 63
          · have HE' : Hid (intsB (os ++ ⟨#[63]⟩).data.toList ++ shortF b ((intsB s.data.toList).drop (k + 1)) = Z) := by
              show _ = _
              rw [← hE, h63, shortF_mark, txt_append, show intsB (⟨#[63]⟩ : ByteArray).data.toList = [63] from rfl, List.append_assoc]
              rfl
            have ht2 : (((s[k]'hlt).toNat : Int) == 63) = true := by rw [← hc, h63]; rfl
            clear hd h1 hc hE h42 h63 HE
            go_wp2
            go_round
            case rel => exact ⟨k + 1, _, b, rfl, rfl, by go_num, hlt, HE'⟩
            case measure => simp [intOf]; omega
          · have ht2 : (((s[k]'hlt).toNat : Int) == 63) = false := by rw [← hc]; simpa using h63
            rw [shortF_else _ _ _ h42 h63] at hE
            cases b
            · have HE' : Hid (intsB (os ++ s.extract k (k + 1)).data.toList ++ shortF false ((intsB s.data.toList).drop (k + 1)) = Z) := by
                show _ = _
                rw [← hE, txt_append, h1, List.append_assoc]
                rfl
              clear hd h1 hc hE h42 h63 HE
              go_wp2
              go_round
              case rel => exact ⟨k + 1, _, false, rfl, rfl, by go_num, hlt, HE'⟩
              case measure => simp [intOf]; omega
            · have HE' : Hid (intsB (os ++ ⟨#[42]⟩ ++ s.extract k (k + 1)).data.toList ++ shortF false ((intsB s.data.toList).drop (k + 1)) = Z) := by
                show _ = _
                rw [← hE, txt_append, txt_append, h1, show intsB (⟨#[42]⟩ : ByteArray).data.toList = [42] from rfl, List.append_assoc, List.append_assoc]
                rfl
              clear hd h1 hc hE h42 h63 HE
              go_wp2
              go_round
              case rel => exact ⟨k + 1, _, false, rfl, rfl, by go_num, hlt, HE'⟩
              case measure => simp [intOf]; omega
      · have hE := HE.out
        rw [List.drop_of_length_le (by rw [intsB_len, ← Lib.size_eq]; omega), shortF_end] at hE
        cases b
        · have HE' : Hid (intsB os.data.toList = Z) := by
            show _ = _
            rw [← hE]
            exact (List.append_nil _).symm
          clear hE HE
          go_wp2
          go_ret2
          exact HQ.out _ HE'.out _ _ ⟨rfl, hb1⟩
        · have HE' : Hid (intsB (os ++ ⟨#[42]⟩).data.toList = Z) := by
            show _ = _
            rw [← hE, txt_append]
            rfl
          clear hE HE
          go_wp2
          go_ret2
          exact HQ.out _ HE'.out _ _ ⟨rfl, hb1⟩
  · obtain ⟨E, hE⟩ : ∃ E, E = patErr s.data.toList [] := ⟨_, rfl⟩
    have HQ := Lib.hid (hq ⟨#[]⟩ _ (by rw [show shortO s.data.toList = [] from if_neg he]) hE.symm)
    rw [← hE] at c1 he
    have C1 := Lib.hid c1
    have hne : (E != 0) = true := by simpa using he
    clear c1 hq he hE
    go_enter Tryd.func14, Tryd.ntmps14
    go_wp2_with fail
    refine C1.out.mono ?_
    rintro e w1 ⟨v, u, rfl, _, hb1⟩
    go_wp2
    go_ret2
    exact HQ.out _ _ ⟨rfl, hb1⟩
end Go.Proofs.YtfligggojiboeaaDoor
