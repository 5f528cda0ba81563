/-
  What Sign and Check say together, as plain facts; contract of the statements' own 'works' of layer 4: a message that is signed.
-/
import Derived.Test.YtomdgiikjnghcaaDoorMacE
import Derived.Test.YtomdgiikjnghcaaDoorOpen
import Derived.Lib.SlBytesConst
namespace Go.Proofs.YtomdgiikjnghcaaDoor
open Go.RowKit

theorem signO_long (ks ms : List Int) (h : 64 ≤ ms.length) : signO ks ms = signL ks ms := by unfold signO; rw [if_neg (by omega)]
theorem signO_short (ks ms : List Int) (h : ms.length < 64) : signO ks ms = [] := by unfold signO; rw [if_pos h]
theorem signO_len (ks ms : List Int) (h : 64 ≤ ms.length) : (signO ks ms).length = ms.length := by rw [signO_long _ _ h, signL_len _ _ h]
theorem signO_le (ks ms : List Int) : (signO ks ms).length ≤ ms.length := by
  by_cases h : ms.length < 64
  · rw [signO_short _ _ h]; simp
  · rw [signO_len _ _ (by omega)]; exact Nat.le_refl _
theorem signO_bytes (ks ms : List Int) (h : Bytes ms) : Bytes (signO ks ms) := by
  by_cases h64 : ms.length < 64
  · rw [signO_short _ _ h64]; exact Bytes.nil
  · rw [signO_long _ _ (by omega)]; exact signL_bytes _ _ h
theorem signErr_long {n : Nat} (h : 64 ≤ n) : signErr n = 0 := by unfold signErr; rw [if_neg (by omega)]
theorem signErr_short {n : Nat} (h : n < 64) : signErr n = 2 := by unfold signErr; rw [if_pos h]
theorem checkErr_short (ks ms : List Int) (h : ms.length < 64) : checkErr ks ms = 2 := by unfold checkErr; rw [if_pos h]
theorem checkErr_sign (ks ms : List Int) (h : 64 ≤ ms.length) : checkErr ks (signO ks ms) = 0 := by
  unfold checkErr
  rw [if_neg (by rw [signO_len _ _ h]; omega), signO_long _ _ h, if_pos (signedL_sign h)]
theorem signO_sign (ks ms : List Int) (h : 64 ≤ ms.length) : signO ks (signO ks ms) = signO ks ms := by
  rw [signO_long ks (signO ks ms) (by rw [signO_len _ _ h]; exact h), signO_long _ _ h, signL_sign h]

/-- a block of bytes that has just been laid, marked or not -/
theorem Holds.litF (w : World) (xs : List Int) (fr : Nat × Nat) (T : TypeId) (n : Nat) (hl : xs.length = n) (hx : Bytes xs) (hn : n ≤ 281474976710656) :
    Holds (w.alloc (.cells (xs.map (Value.int .u8)).toArray T fr)) (w.heap.size + 1) (some ⟨w.heap.size, 0, none⟩) n n xs := by
  subst hl
  exact ⟨rfl, Nat.le_refl _, hn, hx, fun hA => (by cases hA), fun _ => ⟨w.heap.size, 0, rfl, by omega, fun i hi => by
    have hr : (w.alloc (.cells (xs.map (Value.int .u8)).toArray T fr)).heap[w.heap.size]? = some (.cells (xs.map (Value.int .u8)).toArray T fr) := heap_alloc_new w _
    rw [Nat.zero_add, cell_of_row _ w.heap.size i _ T fr hr]
    simp [hi]⟩⟩

set_option maxRecDepth 100000 in
set_option maxHeartbeats 2000000 in
theorem works_any (w : World) (hK : KTab w) : Calls Tryd.prog 16 #[] w fun e w' => e = .returned (.bool true) ∧ Below w.heap.size w w' := by
  obtain ⟨Z, hZ⟩ : ∃ Z : List Int, Z = List.replicate 64 0 := ⟨_, rfl⟩
  have HZ := len0 64
  have hz1 := zero_k
  have hzb := Bytes.zeros 64
  rw [← hZ] at HZ hz1 hzb
  have HZ1 := Lib.hid hz1
  have cg := fun w A c h A2 c2 h2 hK => Sign_any w A 1 c [107] (by omega) h A2 64 c2 Z (by omega) h2 hK
  have cg2 := fun w A2 c2 h2 hK => Sign_any w none 0 0 [] (by omega) (Holds.nil _ _) A2 63 c2 (Z.take 63) (by omega) h2 hK
  have cc := fun w A c h A2 c2 h2 hK => Check_any w A 1 c [107] (by omega) h A2 64 c2 (signO [107] Z) (by omega) h2 hK
  rw [checkErr_sign [107] Z (by rw [HZ.out]; omega)] at cc
  unfold SignPost at cg cg2
  rw [HZ.out, signErr_long (Nat.le_refl _)] at cg
  have hl63 : (Z.take 63).length = 63 := by rw [List.length_take, HZ.out]; omega
  rw [hl63, signErr_short (by omega)] at cg2
  have HS : Hid ((signO [107] Z).length = 64) := by show _ = _; rw [signO_len _ _ (by rw [HZ.out]; omega), HZ.out]
  have hsb := signO_bytes [107] Z hzb
  obtain ⟨S, hS⟩ : ∃ S, S = signO [107] Z := ⟨_, rfl⟩
  rw [← hS] at cg cc HS hsb
  have CG := fun w A c h A2 c2 h2 hK => Lib.hid (cg w A c h A2 c2 h2 hK)
  have CG2 := fun w A2 c2 h2 hK => Lib.hid (cg2 w A2 c2 h2 hK)
  have CC := fun w A c h A2 c2 h2 hK => Lib.hid (cc w A c h A2 c2 h2 hK)
  have HK := Lib.hid hK
  have kc := fun (w : World) (C : Array Value) (n c : Nat) => Lib.run_convert_bytes_const (P := Tryd.prog) w 22 5 C n c Tryd.underlying22 Tryd.underlying5
  clear hS cg cg2 cc hl63 hz1 hK hZ
  go_enter Tryd.func16, Tryd.ntmps16
  go_wp2_with (first
    | ((with_reducible show wpList _ _ _ (⟨some 1, _, _, _, _, _⟩ :: _) _ _); refine wpList_alloc_arr rfl _ rfl .u8 Z 64 HZ1 ?_; intro g1 w1 e1 s1 A1 b1)
    | fail)
  have h2 : Hid (Holds (w1.alloc (.cells #[.int .u8 107] 5 (1, 2))) (w1.alloc (.cells #[.int .u8 107] 5 (1, 2))).heap.size (some ⟨w1.heap.size, 0, none⟩) 1 1 [107]) :=
    (Holds.litF w1 [107] (1, 2) 5 1 rfl (Bytes.of_all rfl) (by omega)).mono (by simp)
  have b2 : Below w1.heap.size w1 (w1.alloc (.cells #[.int .u8 107] 5 (1, 2))) := (Below.refl _ w1).alloc (Nat.le_refl _) _
  have A2 := Lib.hid (A1.out.over b2)
  have B2 := Lib.hid (step b1.out b2)
  obtain ⟨w2, hw2⟩ : ∃ x, x = w1.alloc (.cells #[.int .u8 107] 5 (1, 2)) := ⟨_, rfl⟩
  obtain ⟨q, hq⟩ : ∃ x, x = w1.heap.size := ⟨_, rfl⟩
  rw [← hw2] at h2 A2 B2 ⊢
  rw [← hq] at h2 ⊢
  clear hw2 hq b2 b1 A1 s1 e1
  refine (CG _ _ _ h2.out _ _ (A2.out.holds HZ.out hzb (by omega)) (HK.out.below B2.out)).out.mono ?_
  rintro e w3 ⟨v3, rfl, o3, b3⟩
  obtain ⟨A3, c3, rfl, h3⟩ := o3.holds hsb (by rw [HS.out]; omega)
  rw [HS.out] at h3 ⊢
  have H3 := Lib.hid h3
  have A23 := Lib.hid (A2.out.over b3)
  have B3 := Lib.hid (step B2.out b3)
  clear o3 h3 b3 h2 A2 B2
  go_wp2_with fail
  have h63 := (A23.out.holds HZ.out hzb (by omega)).head (n := 63) (by omega)
  refine (CG2 _ _ _ h63 (HK.out.below B3.out)).out.mono ?_
  rintro e w4 ⟨v4, rfl, _, b4⟩
  have H34 := Lib.hid (H3.out.over b4)
  have B4 := Lib.hid (step B3.out b4)
  clear b4 H3 A23 B3 h63
  go_wp2_with fail
  have h5 : Hid (Holds (w4.alloc (.cells #[.int .u8 107] 5 (1, 2))) (w4.alloc (.cells #[.int .u8 107] 5 (1, 2))).heap.size (some ⟨w4.heap.size, 0, none⟩) 1 1 [107]) :=
    (Holds.litF w4 [107] (1, 2) 5 1 rfl (Bytes.of_all rfl) (by omega)).mono (by simp)
  have b5 : Below w4.heap.size w4 (w4.alloc (.cells #[.int .u8 107] 5 (1, 2))) := (Below.refl _ w4).alloc (Nat.le_refl _) _
  have H35 := Lib.hid (H34.out.over b5)
  have B5 := Lib.hid (step B4.out b5)
  obtain ⟨w5, hw5⟩ : ∃ x, x = w4.alloc (.cells #[.int .u8 107] 5 (1, 2)) := ⟨_, rfl⟩
  obtain ⟨q5, hq5⟩ : ∃ x, x = w4.heap.size := ⟨_, rfl⟩
  rw [← hw5] at h5 H35 B5 ⊢
  rw [← hq5] at h5 ⊢
  clear hw5 hq5 b5 H34 B4
  refine (CC _ _ _ h5.out _ _ H35.out (HK.out.below B5.out)).out.mono ?_
  rintro e w6 ⟨rfl, b6⟩
  go_wp2_with fail
  go_ret
  exact ⟨rfl, step B5.out b6⟩
end Go.Proofs.YtomdgiikjnghcaaDoor
