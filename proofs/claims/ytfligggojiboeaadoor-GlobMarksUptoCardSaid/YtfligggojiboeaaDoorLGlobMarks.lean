/-
  The walk of the statement GlobMarks: a pattern of ? alone fits just texts of so many letters; with a * beside, those of as many, or more.
-/
import Derived.Test.YtfligggojiboeaaDoorLGlobJoins
namespace Go.Proofs.YtfligggojiboeaaDoor
open Go.RowKit
set_option linter.unusedVariables false

def marks (k : Nat) : ByteArray := ⟨(List.replicate k 63).toArray⟩
theorem marks_data (k : Nat) : (marks k).data.toList = List.replicate k 63 := rfl
theorem marks_size (k : Nat) : (marks k).size = k := by unfold marks; rw [txt_size, List.length_replicate]
theorem marks_succ (k : Nat) : marks k ++ ⟨#[63]⟩ = marks (k + 1) := by
  apply ByteArray.ext
  apply Array.toList_inj.1
  simp [marks, ByteArray.data_append, List.replicate_succ']
theorem marks_err {k : Nat} {t : List UInt8} (hk : k < 60) (h1 : isText t = true) (h2 : (letters t).length ≤ 256) :
    patErr (List.replicate k 63) t = 0 ∧ patErr (List.replicate k 63 ++ [42]) t = 0 ∧ patErr ([42] ++ List.replicate k 63) t = 0 := by
  refine ⟨patErr_ok.2 ⟨text_marks k, h1, by rw [letters_marks, List.length_replicate]; omega, h2⟩, patErr_ok.2 ⟨isText_append (text_marks k) text_star, h1, ?_, h2⟩, patErr_ok.2 ⟨isText_append text_star (text_marks k), h1, ?_, h2⟩⟩
  · rw [text_append (text_marks k), letters_marks, letters_star, List.length_append, List.length_replicate]
    simp; omega
  · rw [text_append text_star, letters_marks, letters_star, List.length_append, List.length_replicate]
    simp; omega

set_option maxRecDepth 100000 in
set_option maxHeartbeats 4000000 in
theorem walk_GlobMarks (W : World) (hT : Tabs W) (a0 : Int) (w0 : 0 ≤ a0 ∧ a0 ≤ 255) (a1 : ByteArray) (r1 : a1.size ≤ 1048576) :
    Calls Tryd.prog 8 #[.int .u8 a0, .string a1] W fun e W' => e = .returned (.bool true) ∧ Below W.heap.size W W' := by
  have c1 := fun w => Lib.hid (short_any a1 256 w (by omega) (by omega))
  have c9 := fun w hT => Lib.hid (works_any w hT)
  obtain ⟨w00, w01⟩ := w0
  by_cases s2 : shortOf a1.data.toList 256 = true
  · rw [s2] at c1
    obtain ⟨ts, ls⟩ := shortOf_iff.1 s2
    obtain ⟨K, hK⟩ : ∃ K : Nat, (K : Int) = a0 % 60 := ⟨(a0 % 60).toNat, by omega⟩
    have hK60 : K < 60 := by omega
    have htm : a0.tmod 60 = (K : Int) := by rw [hK]; exact Int.tmod_eq_emod_of_nonneg w00
    obtain ⟨x1, x2, x3⟩ := marks_err hK60 ts ls
    have zs : (⟨#[42]⟩ : ByteArray).size = 1 := rfl
    have zK := marks_size K
    have d2 : (marks K ++ ⟨#[42]⟩).data.toList = List.replicate K 63 ++ [42] := by simp [ByteArray.data_append, marks_data]
    have d3 : (⟨#[42]⟩ ++ marks K).data.toList = [42] ++ List.replicate K 63 := by simp [ByteArray.data_append, marks_data]
    have c2 := fun w => Letters_any a1 w (by omega)
    have c3 := fun w hT => Fits_any (marks K) a1 w (by omega) (by omega) hT
    have c4 := fun w hT => Fits_any (marks K ++ ⟨#[42]⟩) a1 w (by rw [ByteArray.size_append]; omega) (by omega) hT
    have c5 := fun w hT => Fits_any (⟨#[42]⟩ ++ marks K) a1 w (by rw [ByteArray.size_append]; omega) (by omega) hT
    unfold FitsPost at c3 c4 c5
    unfold LettersPost at c2
    rw [marks_data, x1] at c3
    rw [d2, x2] at c4
    rw [d3, x3] at c5
    have f1 := (fitsOf_iff x1).trans (fitB_marks K a1.data.toList)
    have f2 := (fitsOf_iff x2).trans (fitB_marks_star K a1.data.toList)
    have f3 := (fitsOf_iff x3).trans (fitB_star_marks K a1.data.toList)
    obtain ⟨M, hM⟩ : ∃ M, M = letters a1.data.toList := ⟨_, rfl⟩
    rw [← hM] at c2 f1 f2 f3
    obtain ⟨t, ht⟩ : ∃ t, t = isText a1.data.toList := ⟨_, rfl⟩
    rw [← ht] at c2
    have C2 := Lib.hid c2
    have htm' := htm
    clear c2 s2 ts ls x1 x2 x3 zs zK d2 d3 hM ht hK htm'
    by_cases hc : M.length = K
    · have e1 : fitsOf (List.replicate K 63) a1.data.toList = true := by rw [f1]; exact hc
      have e2 : fitsOf (List.replicate K 63 ++ [42]) a1.data.toList = true := by rw [f2]; omega
      have e3 : fitsOf ([42] ++ List.replicate K 63) a1.data.toList = true := by rw [f3]; omega
      rw [e1] at c3
      rw [e2] at c4
      rw [e3] at c5
      have C3 := Lib.hid c3
      have C4 := Lib.hid c4
      have C5 := Lib.hid c5
      have HC := Lib.hid hc
      clear c3 c4 c5 f1 f2 f3 e1 e2 e3 hc
      go_enter Tryd.func8, Tryd.ntmps8
      go_wp2_with fail
      refine (c1 _).out.mono ?_
      rintro e w1 ⟨rfl, hb1⟩
      have hT1 := hT.below hb1
      go_wp2
      go_loop [6, 7] (fun p i => ∃ j : Nat, p = .string (marks j) ∧ i = .int .i64 j ∧ j ≤ K) (fun _ i => K - (intOf i).toNat)
      case atStart => exact ⟨0, rfl, rfl, Nat.zero_le _⟩
      case round =>
        obtain ⟨j, rfl, rfl, hj⟩ := hrel
        have hjz : (marks j).size = j := marks_size j
        have hsz : (marks j).size ≤ 60 := by omega
        have HJ := Lib.hid (marks_succ j)
        clear hjz
        by_cases hlt : j < K
        · go_wp2
          go_round
          case rel => exact ⟨j + 1, by rw [HJ.out], by go_num, hlt⟩
          case measure => simp [intOf]; omega
        · obtain rfl : j = K := by omega
          clear HJ
          go_wp2_with fail
          refine (C2.out _).mono ?_
          rintro e w2 ⟨v, rfl, ho2, hb2⟩
          obtain ⟨A, n, c, rfl, hn, _, _, _, _⟩ := ho2.open
          have HN := Lib.hid hn
          have hT2 := hT1.below hb2
          clear ho2 hn
          go_wp2_with fail
          refine (C3.out _ hT2).mono ?_
          rintro e w3 ⟨rfl, hb3⟩
          have hT3 := hT2.below hb3
          go_wp2_with fail
          refine (C4.out _ hT3).mono ?_
          rintro e w4 ⟨rfl, hb4⟩
          have hT4 := hT3.below hb4
          go_wp2_with fail
          refine (C5.out _ hT4).mono ?_
          rintro e w5 ⟨rfl, hb5⟩
          have hT5 := hT4.below hb5
          have hB5 := step (step (step (step hb1 hb2) hb3) hb4) hb5
          have hn1 : ((n : Int) == (j : Int)) = true := by have := HC.out; have := HN.out; simp; omega
          have hn2 : decide ((j : Int) ≤ (n : Int)) = true := by have := HC.out; have := HN.out; simp; omega
          have hn3 : decide (j ≤ n) = true := by have := HC.out; have := HN.out; simp; omega
          go_wp2_with fail
          refine (c9 _ hT5).out.mono ?_
          rintro e w6 ⟨rfl, hb6⟩
          go_wp2
          go_ret
          exact ⟨rfl, step hB5 hb6⟩
    by_cases hc : K < M.length
    · have e1 : fitsOf (List.replicate K 63) a1.data.toList = false := by rw [Bool.eq_false_iff, Ne, f1]; omega
      have e2 : fitsOf (List.replicate K 63 ++ [42]) a1.data.toList = true := by rw [f2]; omega
      have e3 : fitsOf ([42] ++ List.replicate K 63) a1.data.toList = true := by rw [f3]; omega
      rw [e1] at c3
      rw [e2] at c4
      rw [e3] at c5
      have C3 := Lib.hid c3
      have C4 := Lib.hid c4
      have C5 := Lib.hid c5
      have HC := Lib.hid hc
      clear c3 c4 c5 f1 f2 f3 e1 e2 e3 hc
      go_enter Tryd.func8, Tryd.ntmps8
      go_wp2_with fail
      refine (c1 _).out.mono ?_
      rintro e w1 ⟨rfl, hb1⟩
      have hT1 := hT.below hb1
      go_wp2
      go_loop [6, 7] (fun p i => ∃ j : Nat, p = .string (marks j) ∧ i = .int .i64 j ∧ j ≤ K) (fun _ i => K - (intOf i).toNat)
      case atStart => exact ⟨0, rfl, rfl, Nat.zero_le _⟩
      case round =>
        obtain ⟨j, rfl, rfl, hj⟩ := hrel
        have hjz : (marks j).size = j := marks_size j
        have hsz : (marks j).size ≤ 60 := by omega
        have HJ := Lib.hid (marks_succ j)
        clear hjz
        by_cases hlt : j < K
        · go_wp2
          go_round
          case rel => exact ⟨j + 1, by rw [HJ.out], by go_num, hlt⟩
          case measure => simp [intOf]; omega
        · obtain rfl : j = K := by omega
          clear HJ
          go_wp2_with fail
          refine (C2.out _).mono ?_
          rintro e w2 ⟨v, rfl, ho2, hb2⟩
          obtain ⟨A, n, c, rfl, hn, _, _, _, _⟩ := ho2.open
          have HN := Lib.hid hn
          have hT2 := hT1.below hb2
          clear ho2 hn
          go_wp2_with fail
          refine (C3.out _ hT2).mono ?_
          rintro e w3 ⟨rfl, hb3⟩
          have hT3 := hT2.below hb3
          go_wp2_with fail
          refine (C4.out _ hT3).mono ?_
          rintro e w4 ⟨rfl, hb4⟩
          have hT4 := hT3.below hb4
          go_wp2_with fail
          refine (C5.out _ hT4).mono ?_
          rintro e w5 ⟨rfl, hb5⟩
          have hT5 := hT4.below hb5
          have hB5 := step (step (step (step hb1 hb2) hb3) hb4) hb5
          have hn1 : ((n : Int) == (j : Int)) = false := by have := HC.out; have := HN.out; simp; omega
          have hn2 : decide ((j : Int) ≤ (n : Int)) = true := by have := HC.out; have := HN.out; simp; omega
          have hn3 : decide (j ≤ n) = true := by have := HC.out; have := HN.out; simp; omega
          go_wp2_with fail
          refine (c9 _ hT5).out.mono ?_
          rintro e w6 ⟨rfl, hb6⟩
          go_wp2
          go_ret
          exact ⟨rfl, step hB5 hb6⟩
    have hc : M.length < K := by omega
    have e1 : fitsOf (List.replicate K 63) a1.data.toList = false := by rw [Bool.eq_false_iff, Ne, f1]; omega
    have e2 : fitsOf (List.replicate K 63 ++ [42]) a1.data.toList = false := by rw [Bool.eq_false_iff, Ne, f2]; omega
    have e3 : fitsOf ([42] ++ List.replicate K 63) a1.data.toList = false := by rw [Bool.eq_false_iff, Ne, f3]; omega
    rw [e1] at c3
    rw [e2] at c4
    rw [e3] at c5
    have C3 := Lib.hid c3
    have C4 := Lib.hid c4
    have C5 := Lib.hid c5
    have HC := Lib.hid hc
    clear c3 c4 c5 f1 f2 f3 e1 e2 e3 hc
    go_enter Tryd.func8, Tryd.ntmps8
    go_wp2_with fail
    refine (c1 _).out.mono ?_
    rintro e w1 ⟨rfl, hb1⟩
    have hT1 := hT.below hb1
    go_wp2
    go_loop [6, 7] (fun p i => ∃ j : Nat, p = .string (marks j) ∧ i = .int .i64 j ∧ j ≤ K) (fun _ i => K - (intOf i).toNat)
    case atStart => exact ⟨0, rfl, rfl, Nat.zero_le _⟩
    case round =>
      obtain ⟨j, rfl, rfl, hj⟩ := hrel
      have hjz : (marks j).size = j := marks_size j
      have hsz : (marks j).size ≤ 60 := by omega
      have HJ := Lib.hid (marks_succ j)
      clear hjz
      by_cases hlt : j < K
      · go_wp2
        go_round
        case rel => exact ⟨j + 1, by rw [HJ.out], by go_num, hlt⟩
        case measure => simp [intOf]; omega
      · obtain rfl : j = K := by omega
        clear HJ
        go_wp2_with fail
        refine (C2.out _).mono ?_
        rintro e w2 ⟨v, rfl, ho2, hb2⟩
        obtain ⟨A, n, c, rfl, hn, _, _, _, _⟩ := ho2.open
        have HN := Lib.hid hn
        have hT2 := hT1.below hb2
        clear ho2 hn
        go_wp2_with fail
        refine (C3.out _ hT2).mono ?_
        rintro e w3 ⟨rfl, hb3⟩
        have hT3 := hT2.below hb3
        go_wp2_with fail
        refine (C4.out _ hT3).mono ?_
        rintro e w4 ⟨rfl, hb4⟩
        have hT4 := hT3.below hb4
        go_wp2_with fail
        refine (C5.out _ hT4).mono ?_
        rintro e w5 ⟨rfl, hb5⟩
        have hT5 := hT4.below hb5
        have hB5 := step (step (step (step hb1 hb2) hb3) hb4) hb5
        have hn1 : ((n : Int) == (j : Int)) = false := by have := HC.out; have := HN.out; simp; omega
        have hn2 : decide ((j : Int) ≤ (n : Int)) = false := by have := HC.out; have := HN.out; simp; omega
        have hn3 : decide (j ≤ n) = false := by have := HC.out; have := HN.out; simp; omega
        go_wp2_with fail
        refine (c9 _ hT5).out.mono ?_
        rintro e w6 ⟨rfl, hb6⟩
        go_wp2
        go_ret
        exact ⟨rfl, step hB5 hb6⟩
  · have s2' : shortOf a1.data.toList 256 = false := by simpa using s2
    rw [s2'] at c1
    clear s2 s2'
    go_enter Tryd.func8, Tryd.ntmps8
    go_wp2_with fail
    refine (c1 _).out.mono ?_
    rintro e w1 ⟨rfl, hb1⟩
    have hT1 := hT.below hb1
    go_wp2_with fail
    refine (c9 _ hT1).out.mono ?_
    rintro e w6 ⟨rfl, hb6⟩
    go_wp2
    go_ret
    exact ⟨rfl, step hb1 hb6⟩
end Go.Proofs.YtfligggojiboeaaDoor
