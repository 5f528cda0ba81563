/-
  Layer 6: contracts of the document's answers: refectoryref02.Alike, refectoryref06.barred, .Name.
-/
import Derived.Test.YtaggjlobmikagaaDoorRefP1
namespace Go.Proofs.YtaggjlobmikagaaDoor
open Go.RowKit

set_option maxHeartbeats 400000 in
theorem RAlike2_any (s t : ByteArray) (w : World) (hs : s.size ≤ 4398046511104) (ht : t.size ≤ 4398046511104) :
    Calls Tryd.prog 48 #[.string s, .string t] w fun e w' => e = .returned (.bool (alikeOf s.data.toList t.data.toList)) ∧ Below w.heap.size w w' := by
  have c1 := ROrder_any s t w hs ht
  rw [← ordL_alike]
  obtain ⟨R, hR⟩ : ∃ R, R = ordL (letters s.data.toList) (letters t.data.toList) := ⟨_, rfl⟩
  rw [← hR] at c1 ⊢
  have C1 := Lib.hid c1
  clear c1 hR
  go_enter Tryd.func48, Tryd.ntmps48
  go_wp2_with fail
  refine C1.out.mono ?_
  rintro e w1 ⟨rfl, hb1⟩
  go_wp2
  go_ret
  exact ⟨rfl, hb1⟩

def bars : List Int := [92, 47, 58, 42, 63, 34, 60, 62, 124]
theorem barB_bars (n : Int) : barB n = (decide (n < 32) || bars.any (n == ·)) := by
  unfold barB bars
  simp only [List.any_cons, List.any_nil, Bool.or_false, Bool.or_assoc]

set_option maxRecDepth 100000 in
set_option maxHeartbeats 2000000 in
theorem RBarred_any (n : Int) (w : World) :
    Calls Tryd.prog 33 #[.int .i64 n] w fun e w' => e = .returned (.bool (barB n)) ∧ w = w' := by
  rw [barB_bars]
  by_cases h : n < 32
  · rw [decide_eq_true h, Bool.true_or]
    go_enter Tryd.func33, Tryd.ntmps33
    go_wp2
    go_ret
    exact ⟨rfl, rfl⟩
  · rw [decide_eq_false h, Bool.false_or]
    obtain ⟨R, hR⟩ : ∃ R, R = bars.any (n == ·) := ⟨_, rfl⟩
    rw [← hR]
    have HR := Lib.hid hR
    clear hR
    go_enter Tryd.func33, Tryd.ntmps33
    go_wp2
    go_loop [3] (fun i => ∃ k : Nat, i = .int .i64 k ∧ k ≤ 9 ∧ Hid ((bars.drop k).any (n == ·) = R)) (fun i => 9 - (intOf i).toNat)
    case atStart => exact ⟨0, rfl, by omega, HR.out.symm⟩
    case round =>
      obtain ⟨k, rfl, hk, HE⟩ := hrel
      have hc : k = 0 ∨ k = 1 ∨ k = 2 ∨ k = 3 ∨ k = 4 ∨ k = 5 ∨ k = 6 ∨ k = 7 ∨ k = 8 ∨ k = 9 := by omega
      have hE := HE.out
      rcases hc with rfl | rfl | rfl | rfl | rfl | rfl | rfl | rfl | rfl | rfl
      · have hv : wrap64 (((⟨#[92, 47, 58, 42, 63, 34, 60, 62, 124]⟩ : ByteArray)[0]'(by decide)).toNat : Int) = 92 := by decide +kernel
        rw [show bars.drop 0 = 92 :: bars.drop 1 from rfl, List.any_cons] at hE
        by_cases he : n = 92
        · have t1 : (n == wrap64 (((⟨#[92, 47, 58, 42, 63, 34, 60, 62, 124]⟩ : ByteArray)[0]'(by decide)).toNat : Int)) = true := by rw [hv, he]; rfl
          rw [show (n == 92) = true by rw [he]; rfl, Bool.true_or] at hE
          have HE2 := Lib.hid hE
          clear hE HE he hv
          go_wp2
          go_ret
          exact ⟨ret_bool HE2.out, rfl⟩
        · have t1 : (n == wrap64 (((⟨#[92, 47, 58, 42, 63, 34, 60, 62, 124]⟩ : ByteArray)[0]'(by decide)).toNat : Int)) = false := by rw [hv]; simpa using he
          rw [show (n == 92) = false by simpa using he, Bool.false_or] at hE
          have HE2 := Lib.hid hE
          clear hE HE he hv
          go_wp2
          go_round
          case rel => exact ⟨1, by go_num, by omega, HE2⟩
          case measure => simp [intOf]
      · have hv : wrap64 (((⟨#[92, 47, 58, 42, 63, 34, 60, 62, 124]⟩ : ByteArray)[1]'(by decide)).toNat : Int) = 47 := by decide +kernel
        rw [show bars.drop 1 = 47 :: bars.drop 2 from rfl, List.any_cons] at hE
        by_cases he : n = 47
        · have t1 : (n == wrap64 (((⟨#[92, 47, 58, 42, 63, 34, 60, 62, 124]⟩ : ByteArray)[1]'(by decide)).toNat : Int)) = true := by rw [hv, he]; rfl
          rw [show (n == 47) = true by rw [he]; rfl, Bool.true_or] at hE
          have HE2 := Lib.hid hE
          clear hE HE he hv
          go_wp2
          go_ret
          exact ⟨ret_bool HE2.out, rfl⟩
        · have t1 : (n == wrap64 (((⟨#[92, 47, 58, 42, 63, 34, 60, 62, 124]⟩ : ByteArray)[1]'(by decide)).toNat : Int)) = false := by rw [hv]; simpa using he
          rw [show (n == 47) = false by simpa using he, Bool.false_or] at hE
          have HE2 := Lib.hid hE
          clear hE HE he hv
          go_wp2
          go_round
          case rel => exact ⟨2, by go_num, by omega, HE2⟩
          case measure => simp [intOf]
      · have hv : wrap64 (((⟨#[92, 47, 58, 42, 63, 34, 60, 62, 124]⟩ : ByteArray)[2]'(by decide)).toNat : Int) = 58 := by decide +kernel
        rw [show bars.drop 2 = 58 :: bars.drop 3 from rfl, List.any_cons] at hE
        by_cases he : n = 58
        · have t1 : (n == wrap64 (((⟨#[92, 47, 58, 42, 63, 34, 60, 62, 124]⟩ : ByteArray)[2]'(by decide)).toNat : Int)) = true := by rw [hv, he]; rfl
          rw [show (n == 58) = true by rw [he]; rfl, Bool.true_or] at hE
          have HE2 := Lib.hid hE
          clear hE HE he hv
          go_wp2
          go_ret
          exact ⟨ret_bool HE2.out, rfl⟩
        · have t1 : (n == wrap64 (((⟨#[92, 47, 58, 42, 63, 34, 60, 62, 124]⟩ : ByteArray)[2]'(by decide)).toNat : Int)) = false := by rw [hv]; simpa using he
          rw [show (n == 58) = false by simpa using he, Bool.false_or] at hE
          have HE2 := Lib.hid hE
          clear hE HE he hv
          go_wp2
          go_round
          case rel => exact ⟨3, by go_num, by omega, HE2⟩
          case measure => simp [intOf]
      · have hv : wrap64 (((⟨#[92, 47, 58, 42, 63, 34, 60, 62, 124]⟩ : ByteArray)[3]'(by decide)).toNat : Int) = 42 := by decide +kernel
        rw [show bars.drop 3 = 42 :: bars.drop 4 from rfl, List.any_cons] at hE
        by_cases he : n = 42
        · have t1 : (n == wrap64 (((⟨#[92, 47, 58, 42, 63, 34, 60, 62, 124]⟩ : ByteArray)[3]'(by decide)).toNat : Int)) = true := by rw [hv, he]; rfl
          rw [show (n == 42) = true by rw [he]; rfl, Bool.true_or] at hE
          have HE2 := Lib.hid hE
          clear hE HE he hv
          go_wp2
          go_ret
          exact ⟨ret_bool HE2.out, rfl⟩
        · have t1 : (n == wrap64 (((⟨#[92, 47, 58, 42, 63, 34, 60, 62, 124]⟩ : ByteArray)[3]'(by decide)).toNat : Int)) = false := by rw [hv]; simpa using he
          rw [show (n == 42) = false by simpa using he, Bool.false_or] at hE
          have HE2 := Lib.hid hE
          clear hE HE he hv
          go_wp2
          go_round
          case rel => exact ⟨4, by go_num, by omega, HE2⟩
          case measure => simp [intOf]
      · have hv : wrap64 (((⟨#[92, 47, 58, 42, 63, 34, 60, 62, 124]⟩ : ByteArray)[4]'(by decide)).toNat : Int) = 63 := by decide +kernel
        rw [show bars.drop 4 = 63 :: bars.drop 5 from rfl, List.any_cons] at hE
        by_cases he : n = 63
        · have t1 : (n == wrap64 (((⟨#[92, 47, 58, 42, 63, 34, 60, 62, 124]⟩ : ByteArray)[4]'(by decide)).toNat : Int)) = true := by rw [hv, he]; rfl
          rw [show (n == 63) = true by rw [he]; rfl, Bool.true_or] at hE
          have HE2 := Lib.hid hE
          clear hE HE he hv
          go_wp2
          go_ret
          exact ⟨ret_bool HE2.out, rfl⟩
        · have t1 : (n == wrap64 (((⟨#[92, 47, 58, 42, 63, 34, 60, 62, 124]⟩ : ByteArray)[4]'(by decide)).toNat : Int)) = false := by rw [hv]; simpa using he
          rw [show (n == 63) = false by simpa using he, Bool.false_or] at hE
          have HE2 := Lib.hid hE
          clear hE HE he hv
          go_wp2
          go_round
          case rel => exact ⟨5, by go_num, by omega, HE2⟩
          case measure => simp [intOf]
      · have hv : wrap64 (((⟨#[92, 47, 58, 42, 63, 34, 60, 62, 124]⟩ : ByteArray)[5]'(by decide)).toNat : Int) = 34 := by decide +kernel
        rw [show bars.drop 5 = 34 :: bars.drop 6 from rfl, List.any_cons] at hE
        by_cases he : n = 34
        · have t1 : (n == wrap64 (((⟨#[92, 47, 58, 42, 63, 34, 60, 62, 124]⟩ : ByteArray)[5]'(by decide)).toNat : Int)) = true := by rw [hv, he]; rfl
          rw [show (n == 34) = true by rw [he]; rfl, Bool.true_or] at hE
          have HE2 := Lib.hid hE
          clear hE HE he hv
          go_wp2
          go_ret
          exact ⟨ret_bool HE2.out, rfl⟩
        · have t1 : (n == wrap64 (((⟨#[92, 47, 58, 42, 63, 34, 60, 62, 124]⟩ : ByteArray)[5]'(by decide)).toNat : Int)) = false := by rw [hv]; simpa using he
          rw [show (n == 34) = false by simpa using he, Bool.false_or] at hE
          have HE2 := Lib.hid hE
          clear hE HE he hv
          go_wp2
          go_round
          case rel => exact ⟨6, by go_num, by omega, HE2⟩
          case measure => simp [intOf]
      · have hv : wrap64 (((⟨#[92, 47, 58, 42, 63, 34, 60, 62, 124]⟩ : ByteArray)[6]'(by decide)).toNat : Int) = 60 := by decide +kernel
        rw [show bars.drop 6 = 60 :: bars.drop 7 from rfl, List.any_cons] at hE
        by_cases he : n = 60
        · have t1 : (n == wrap64 (((⟨#[92, 47, 58, 42, 63, 34, 60, 62, 124]⟩ : ByteArray)[6]'(by decide)).toNat : Int)) = true := by rw [hv, he]; rfl
          rw [show (n == 60) = true by rw [he]; rfl, Bool.true_or] at hE
          have HE2 := Lib.hid hE
          clear hE HE he hv
          go_wp2
          go_ret
          exact ⟨ret_bool HE2.out, rfl⟩
        · have t1 : (n == wrap64 (((⟨#[92, 47, 58, 42, 63, 34, 60, 62, 124]⟩ : ByteArray)[6]'(by decide)).toNat : Int)) = false := by rw [hv]; simpa using he
          rw [show (n == 60) = false by simpa using he, Bool.false_or] at hE
          have HE2 := Lib.hid hE
          clear hE HE he hv
          go_wp2
          go_round
          case rel => exact ⟨7, by go_num, by omega, HE2⟩
          case measure => simp [intOf]
      · have hv : wrap64 (((⟨#[92, 47, 58, 42, 63, 34, 60, 62, 124]⟩ : ByteArray)[7]'(by decide)).toNat : Int) = 62 := by decide +kernel
        rw [show bars.drop 7 = 62 :: bars.drop 8 from rfl, List.any_cons] at hE
        by_cases he : n = 62
        · have t1 : (n == wrap64 (((⟨#[92, 47, 58, 42, 63, 34, 60, 62, 124]⟩ : ByteArray)[7]'(by decide)).toNat : Int)) = true := by rw [hv, he]; rfl
          rw [show (n == 62) = true by rw [he]; rfl, Bool.true_or] at hE
          have HE2 := Lib.hid hE
          clear hE HE he hv
          go_wp2
          go_ret
          exact ⟨ret_bool HE2.out, rfl⟩
        · have t1 : (n == wrap64 (((⟨#[92, 47, 58, 42, 63, 34, 60, 62, 124]⟩ : ByteArray)[7]'(by decide)).toNat : Int)) = false := by rw [hv]; simpa using he
          rw [show (n == 62) = false by simpa using he, Bool.false_or] at hE
          have HE2 := Lib.hid hE
          clear hE HE he hv
          go_wp2
          go_round
          case rel => exact ⟨8, by go_num, by omega, HE2⟩
          case measure => simp [intOf]
      · have hv : wrap64 (((⟨#[92, 47, 58, 42, 63, 34, 60, 62, 124]⟩ : ByteArray)[8]'(by decide)).toNat : Int) = 124 := by decide +kernel
        rw [show bars.drop 8 = 124 :: bars.drop 9 from rfl, List.any_cons] at hE
        by_cases he : n = 124
        · have t1 : (n == wrap64 (((⟨#[92, 47, 58, 42, 63, 34, 60, 62, 124]⟩ : ByteArray)[8]'(by decide)).toNat : Int)) = true := by rw [hv, he]; rfl
          rw [show (n == 124) = true by rw [he]; rfl, Bool.true_or] at hE
          have HE2 := Lib.hid hE
          clear hE HE he hv
          go_wp2
          go_ret
          exact ⟨ret_bool HE2.out, rfl⟩
        · have t1 : (n == wrap64 (((⟨#[92, 47, 58, 42, 63, 34, 60, 62, 124]⟩ : ByteArray)[8]'(by decide)).toNat : Int)) = false := by rw [hv]; simpa using he
          rw [show (n == 124) = false by simpa using he, Bool.false_or] at hE
          have HE2 := Lib.hid hE
          clear hE HE he hv
          go_wp2
          go_round
          case rel => exact ⟨9, by go_num, by omega, HE2⟩
          case measure => simp [intOf]
      · have HE2 : Hid (false = R) := hE
        clear hE HE
        go_wp2
        go_ret
        exact ⟨ret_bool HE2.out, rfl⟩

set_option maxRecDepth 100000 in
set_option maxHeartbeats 4000000 in
theorem RName_any (s : ByteArray) (w : World) (hs : s.size ≤ 4398046511104) :
    Calls Tryd.prog 16 #[.string s] w fun e w' => e = .returned (.bool (nameOf s.data.toList)) ∧ Below w.heap.size w w' := by
  have c1 := Letters_any s w hs
  unfold LettersPost at c1
  have c3 := fun r w => Lib.hid (RBarred_any r w)
  unfold nameOf
  by_cases ht' : isText s.data.toList = false
  · rw [ht'] at c1
    rw [ht', Bool.false_and]
    obtain ⟨L, hL⟩ : ∃ L, L = letters s.data.toList := ⟨_, rfl⟩
    rw [← hL] at c1
    have C1 := Lib.hid c1
    clear c1 hL ht' c3
    go_enter Tryd.func16, Tryd.ntmps16
    go_wp2_with fail
    refine C1.out.mono ?_
    rintro e w1 ⟨v, rfl, ho1, hb1⟩
    go_wp2
    go_ret
    exact ⟨rfl, hb1⟩
  have ht : isText s.data.toList = true := by simpa using ht'
  rw [ht] at c1
  rw [ht, Bool.true_and]
  clear ht ht'
  obtain ⟨L, hL⟩ : ∃ L, L = letters s.data.toList := ⟨_, rfl⟩
  rw [← hL] at c1 ⊢
  clear hL
  by_cases hn : 1 ≤ L.length ∧ L.length ≤ 32
  · obtain ⟨n1, n2⟩ := hn
    have hname : nameL L = (L.all (fun r => !barB r) && (!(L.getD (L.length - 1) 0 == 32) && !(L.getD (L.length - 1) 0 == 46))) := by
      rw [nameL_cons, decide_eq_true n1, decide_eq_true n2]
      rfl
    obtain ⟨R, hR⟩ : ∃ R, R = nameL L := ⟨_, rfl⟩
    rw [← hR] at hname ⊢
    have HR := Lib.hid hname
    have C1 := Lib.hid c1
    clear c1 hR hname
    go_enter Tryd.func16, Tryd.ntmps16
    go_wp2_with fail
    refine C1.out.mono ?_
    rintro e w1 ⟨v, rfl, ho1, hb1⟩
    obtain ⟨A, n, c, rfl, hn, _, hm, _, hc⟩ := ho1.open
    have t1 : 1 ≤ (n : Int) := by omega
    have t2 : (n : Int) ≤ 32 := by omega
    obtain ⟨g, rfl, _, _, hcc⟩ := hc (by omega)
    have HN := Lib.hid hn
    clear ho1 hn hc C1 n1 n2
    go_wp2
    go_loopw [5] (fun i wr => ∃ k : Nat, i = .int .i64 k ∧ k ≤ n ∧ Hid ((L.take k).all (fun r => !barB r) = true) ∧ wr = w1) (fun i _ => n - (intOf i).toNat)
    case atStart => exact ⟨0, rfl, Nat.zero_le _, rfl, rfl⟩
    case round =>
      obtain ⟨k, rfl, hk, HA, rfl⟩ := hrel
      by_cases hlt : k < n
      · have gc := hcc k hlt
        have hkl : k < L.length := by have := HN.out; omega
        have htk : L.take (k + 1) = L.take k ++ [L.getD k 0] := by
          rw [List.take_succ_eq_append_getElem hkl]
          simp [hkl]
        have hmem : L.getD k 0 ∈ L := by
          rw [List.getD_eq_getElem?_getD, List.getElem?_eq_getElem hkl]
          exact List.getElem_mem hkl
        obtain ⟨x, hx⟩ : ∃ x, x = L.getD k 0 := ⟨_, rfl⟩
        rw [← hx] at gc htk hmem
        have d3 := (c3 x wr).out
        clear hx hkl hcc c3
        cases hb : barB x
        · rw [hb] at d3
          have D3 := Lib.hid d3
          have HA2 : Hid ((L.take (k + 1)).all (fun r => !barB r) = true) := by
            show _ = _
            rw [htk, List.all_append, HA.out]
            simp [hb]
          clear htk hmem hb d3 HA
          go_wp2_with fail
          refine D3.out.mono ?_
          rintro e w2 ⟨rfl, rfl⟩
          go_wp2
          go_roundw
          case rel => exact ⟨k + 1, by go_num, hlt, HA2, by trivial⟩
          case measure => simp [intOf]; omega
        · rw [hb] at d3
          have D3 := Lib.hid d3
          have HF : Hid (false = R) := by
            show _ = _
            rw [HR.out, show L.all (fun r => !barB r) = false by rw [List.all_eq_false]; exact ⟨x, hmem, by simp [hb]⟩]
            rfl
          clear htk hmem hb d3 HA
          go_wp2_with fail
          refine D3.out.mono ?_
          rintro e w2 ⟨rfl, rfl⟩
          go_wp2
          go_ret
          exact ⟨ret_bool HF.out, hb1⟩
      · obtain rfl : k = n := by omega
        have gc := hcc (k - 1) (by omega)
        have hall : L.all (fun r => !barB r) = true := by
          have := HA.out
          rwa [List.take_of_length_le (by have := HN.out; omega)] at this
        have hE := HR.out
        rw [hall, Bool.true_and, HN.out] at hE
        obtain ⟨x, hx⟩ : ∃ x, x = L.getD (k - 1) 0 := ⟨_, rfl⟩
        rw [← hx] at gc hE
        have k0 : (0 : Int) ≤ (k : Int) - 1 := by omega
        clear hx hcc c3 HA hall
        by_cases e1 : x = 32
        · subst e1
          have HE' : Hid (false = R) := hE.symm
          clear hE
          go_wp2
          go_ret
          exact ⟨ret_bool HE'.out, hb1⟩
        · by_cases e2 : x = 46
          · subst e2
            have HE' : Hid (false = R) := hE.symm
            clear hE
            go_wp2
            go_ret
            exact ⟨ret_bool HE'.out, hb1⟩
          · have t3 : (x != 32) = true := by simpa using e1
            have t4 : (x != 46) = true := by simpa using e2
            have HE' : Hid (true = R) := by
              show _ = _
              rw [hE]
              simp [e1, e2]
            clear hE
            go_wp2
            go_ret
            exact ⟨ret_bool HE'.out, hb1⟩
  · have hf : nameL L = false := by
      rw [nameL_cons, Bool.eq_false_iff]
      intro h
      simp only [Bool.and_eq_true, decide_eq_true_eq] at h
      exact hn ⟨h.1.1.1, h.1.1.2⟩
    rw [hf]
    have C1 := Lib.hid c1
    clear c1 hf c3
    by_cases h1 : L.length < 1
    · go_enter Tryd.func16, Tryd.ntmps16
      go_wp2_with fail
      refine C1.out.mono ?_
      rintro e w1 ⟨v, rfl, ho1, hb1⟩
      obtain ⟨A, n, c, rfl, hnl, _, hm, _, hc⟩ := ho1.open
      obtain rfl : n = 0 := by omega
      clear ho1 hnl hc hn h1 C1
      go_wp2
      go_ret
      exact ⟨rfl, hb1⟩
    · go_enter Tryd.func16, Tryd.ntmps16
      go_wp2_with fail
      refine C1.out.mono ?_
      rintro e w1 ⟨v, rfl, ho1, hb1⟩
      obtain ⟨A, n, c, rfl, hnl, _, hm, _, hc⟩ := ho1.open
      have hgt : 32 < (n : Int) := by omega
      have hge : 1 ≤ (n : Int) := by omega
      clear ho1 hnl hc hn h1 C1
      go_wp2
      go_ret
      exact ⟨rfl, hb1⟩
end Go.Proofs.YtaggjlobmikagaaDoor
