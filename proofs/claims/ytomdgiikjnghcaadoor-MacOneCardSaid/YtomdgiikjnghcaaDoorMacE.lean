/-
  Contracts of the program's layer 4 (mac): signature, Sign, Check.
-/
import Derived.Test.YtomdgiikjnghcaaDoorMacD
namespace Go.Proofs.YtomdgiikjnghcaaDoor
open Go.RowKit

section
variable {w : World} {B b off n c : Nat} {xs : List Int}
theorem Holds.pre (h : Holds w B (some ⟨b, off, none⟩) n c xs) {k : Nat} (hk : k ≤ n) (h0 : 0 < k) : Holds w B (some ⟨b, off, none⟩) k k (xs.take k) := by
  obtain ⟨b1, off1, e, hb, hc⟩ := h.cells (by omega)
  injection e with e
  injection e with e1 e2
  subst e1 e2
  have hl := h.len
  refine ⟨by simp; omega, Nat.le_refl _, by have := h.room; omega, h.byte.take k, fun hA => (by cases hA), fun _ => ⟨b, off, rfl, hb, fun i hi => ?_⟩⟩
  rw [hc i (by omega)]
  simp [List.getD_eq_getElem?_getD, hi]
theorem Holds.mid (h : Holds w B (some ⟨b, off, none⟩) n c xs) {j k : Nat} (hk : j + k ≤ n) (h0 : 0 < k) (hj : 0 < j) : Holds w B (some ⟨b, off + j, none⟩) k k ((xs.drop j).take k) := by
  have h1 := h.cut hk h0
  have e : (⟨b, off, none⟩ : Addr).add j = ⟨b, off + j, none⟩ := by
    have hj0 : ¬ j = 0 := by omega
    simp [Addr.add, hj0]
  rw [Option.map_some, e] at h1
  exact h1
theorem Holds.some_of (h : Holds w B (some ⟨b, off, none⟩) n c xs) (h0 : 0 < n) : b < B ∧ ∀ i, i < n → w.cell? ⟨b, off + i, none⟩ = some (.int .u8 (xs.getD i 0)) := by
  obtain ⟨b1, off1, e, hb, hc⟩ := h.cells h0
  injection e with e
  injection e with e1 e2
  subst e1 e2
  exact ⟨hb, hc⟩
end

set_option maxRecDepth 100000 in
set_option maxHeartbeats 2000000 in
theorem signature_any (w : World) (A : Option Addr) (n c : Nat) (ks : List Int) (hn : n ≤ 140737488355100) (h : Holds w w.heap.size A n c ks) (b off n2 c2 : Nat) (ms : List Int) (h64 : 64 ≤ n2) (hn2 : n2 ≤ 140737488355100)
    (h2 : Holds w w.heap.size (some ⟨b, off, none⟩) n2 c2 ms) (hK : KTab w) :
    Calls Tryd.prog 30 #[.slice A n c, .slice (some ⟨b, off, none⟩) n2 c2] w fun e w' => e = .returned (.agg ((sigL ks ms).map (Value.int .u8)).toArray) ∧ Below w.heap.size w w' := by
  obtain ⟨Z, hZ⟩ : ∃ Z : List Int, Z = List.replicate 16 0 := ⟨_, rfl⟩
  have HZ := len0 16
  have hz1 := zero_g
  have hz2 := built_g
  have hZb := Bytes.zeros 16
  have hbl : blankL ms = ms.take 48 ++ List.replicate 16 0 ++ ms.drop 64 := rfl
  rw [← hZ] at HZ hz1 hz2 hZb hbl
  have HZ1 := Lib.hid hz1
  have HZ2 := Lib.hid hz2
  have cc := fun w => Lib.hid (cut_any w b off n2 c2 ms h64 h2.fit (by omega))
  unfold CutPost at cc
  have cm := fun w A3 g5 h gs hP hK => macOf_any w A n c ks (by omega) h gs 3 (partA [(some ⟨b, off, none⟩, 48, 48, ms.take 48), (some ⟨g5, 0, none⟩, 16, 16, Z), (A3, n2 - 64, n2 - 64, ms.drop 64)]) (partN [(some ⟨b, off, none⟩, 48, 48, ms.take 48), (some ⟨g5, 0, none⟩, 16, 16, Z), (A3, n2 - 64, n2 - 64, ms.drop 64)])
    (partC [(some ⟨b, off, none⟩, 48, 48, ms.take 48), (some ⟨g5, 0, none⟩, 16, 16, Z), (A3, n2 - 64, n2 - 64, ms.drop 64)]) (partX [(some ⟨b, off, none⟩, 48, 48, ms.take 48), (some ⟨g5, 0, none⟩, 16, 16, Z), (A3, n2 - 64, n2 - 64, ms.drop 64)]) hP (by omega) (show 0 + 48 + 16 + (n2 - 64) ≤ _ by omega) hK
  have hcx : ∀ (g5 : Nat) (A3 : Option Addr), catL (partX [(some ⟨b, off, none⟩, 48, 48, ms.take 48), (some ⟨g5, 0, none⟩, 16, 16, Z), (A3, n2 - 64, n2 - 64, ms.drop 64)]) 3 = blankL ms := fun _ _ => by rw [hbl]; rfl
  simp only [hcx] at cm
  have hml := macL_len ks (blankL ms)
  have hde : sigL ks ms = (macL ks (blankL ms)).take 16 := rfl
  obtain ⟨M, hM⟩ : ∃ M, M = macL ks (blankL ms) := ⟨_, rfl⟩
  rw [← hM] at hml hde
  simp only [← hM] at cm
  have CM := fun w A3 g5 h gs hP hK => Lib.hid (cm w A3 g5 h gs hP hK)
  have csh := fun w => Lib.hid (short_any w M hml)
  have HR : Hid ((M.take 16).length = 16) := len16 M hml
  obtain ⟨R, hR⟩ : ∃ R, R = M.take 16 := ⟨_, rfl⟩
  rw [hde, ← hR]
  rw [← hR] at csh HR
  have HH := Lib.hid h
  have HH2 := Lib.hid h2
  have HT := Lib.hid hK
  obtain ⟨q, hq⟩ : ∃ q, q = n2 - 64 := ⟨_, rfl⟩
  rw [← hq] at cc CM
  clear hR hz1 hz2 hZ h h2 hK cm hM hml hde hcx hbl hq
  go_enter Tryd.func30, Tryd.ntmps30
  go_wp2_with (first
    | ((with_reducible show wpList _ _ _ (⟨some 4, _, _, _, _, _⟩ :: _) _ _); refine wpList_alloc_arr rfl _ rfl .u8 Z 16 HZ1 ?_; intro g4 w4 e4 s4 A4 b4)
    | (refine wpList_build_zero rfl _ rfl .u8 Z HZ2 ?_)
    | ((with_reducible show wpList _ _ _ (⟨some 5, _, _, _, _, _⟩ :: _) _ _); refine wpList_alloc_arr rfl _ rfl .u8 Z 16 HZ1 ?_; intro g5 w5 e5 s5 A5 b5)
    | ((with_reducible show wpList _ _ _ (⟨none, .store _ (.tmp 5) _, _, _, _, _⟩ :: _) _ _); refine wpList_store_arr rfl _ (.tmp 5) (.tmp 9) rfl g5 rfl .u8 _ _ Z rfl A5 16 size_g HZ HZ ?_; intro w6 A6 o6 s6)
    | fail)
  refine (cc _).out.mono ?_
  rintro e w7 ⟨A3, rfl, rfl, hA3⟩
  have hs4 := b4.out.size
  have B6 : Hid (Below w.heap.size w w6) := (step b4.out b5.out).trans (o6.out.below (by omega))
  have A46 : Hid (Arr w6 g4 .u8 26 Z) := (A4.out.over b5.out).only o6.out (by omega)
  have H26 : Hid (Holds w6 w6.heap.size (some ⟨b, off, none⟩) n2 c2 ms) := HH2.out.over B6.out
  have H36 := Lib.hid (hA3 _ _ _ H26.out)
  have H16 := Lib.hid (H26.out.pre (k := 48) (by omega) (by omega))
  have lw4 : w.heap.size ≤ g4 := e4
  clear A4 A5 b4 b5 o6 hA3 HH2 H26 e4 s4 e5 s5
  go_wp2_with (first
    | ((with_reducible show wpList _ _ _ (⟨some 20, _, _, _, _, _⟩ :: _) _ _); refine wpList_litParts rfl 3 _ rfl [(some ⟨b, off, none⟩, 48, 48, ms.take 48), (some ⟨g5, 0, none⟩, 16, 16, Z), (A3, q, q, ms.drop 64)] rfl (by kernel_rfl) (List.forall_mem_cons.2 ⟨H16.out, List.forall_mem_cons.2 ⟨A6.out.holds (n := 16) HZ.out hZb (by omega), List.forall_mem_cons.2 ⟨H36.out, fun _ h => by cases h⟩⟩⟩) ?_; intro g8 w8 P8 b8)
    | fail)
  have B8 : Hid (Below w.heap.size w w8) := step B6.out b8.out
  refine (CM _ A3 g5 (HH.out.over B8.out) g8 P8.out (HT.out.below B8.out)).out.mono ?_
  rintro e w9 ⟨rfl, b9⟩
  have A49 : Hid (Arr w9 g4 .u8 26 Z) := (A46.out.over b8.out).over b9
  have B9 : Hid (Below w.heap.size w w9) := step B8.out b9
  clear P8 b8 b9 B8 B6 A46 A6 H36 H16 HH s6
  go_wp2_with fail
  refine (csh _).out.mono ?_
  rintro e w17 ⟨rfl, b17⟩
  have A417 : Hid (Arr w17 g4 .u8 26 Z) := A49.out.over b17
  have B17 : Hid (Below w.heap.size w w17) := step B9.out b17
  clear b17 A49 B9
  go_wp2_with (first
    | ((with_reducible show wpList _ _ _ (⟨none, .store _ (.tmp 4) _, _, _, _, _⟩ :: _) _ _); refine wpList_store_arr rfl _ (.tmp 4) (.tmp 22) rfl g4 rfl .u8 _ _ R rfl A417 16 size_g HZ HR ?_; intro w19 A19 o19 s19)
    | fail)
  refine bodyPost_ret (v := .agg (R.map (Value.int .u8)).toArray) ?_ rfl ⟨rfl, B17.out.trans (o19.out.below lw4)⟩
  exact results_cell_row rfl _ _ g4 _ _ (0, 0) _ rfl A19.out Tryd.underlying26 rfl (by rw [size_g]; have := HR.out; simp [this])

def signErr (n : Nat) : Int := if n < 64 then 2 else 0
def signO (ks ms : List Int) : List Int := if ms.length < 64 then [] else signL ks ms
def checkErr (ks ms : List Int) : Int := if ms.length < 64 then 2 else if signedL ks ms = true then 0 else 6
/-- what Sign answers -/
def SignPost (w : World) (ks ms : List Int) (e : Ending) (w' : World) : Prop :=
  ∃ v, e = .returned (.tuple #[v, .int .i64 (signErr ms.length)]) ∧ Own w' w.heap.size v (signO ks ms) ∧ Below w.heap.size w w'

/-- what the program's Sign answers: noughts behind, as far as there is room -/
def SignPostZ (w : World) (ks ms : List Int) (e : Ending) (w' : World) : Prop :=
  ∃ v, e = .returned (.tuple #[v, .int .i64 (signErr ms.length)]) ∧ OwnZ .u8 5 w' w.heap.size v (signO ks ms) ∧ Below w.heap.size w w'

set_option maxRecDepth 100000 in
set_option maxHeartbeats 2000000 in
theorem Sign_anyZ (w : World) (A : Option Addr) (n c : Nat) (ks : List Int) (hn : n ≤ 140737488355100) (h : Holds w w.heap.size A n c ks) (A2 : Option Addr) (n2 c2 : Nat) (ms : List Int) (hn2 : n2 ≤ 140737488355100) (h2 : Holds w w.heap.size A2 n2 c2 ms) (hK : KTab w) :
    Calls Tryd.prog 17 #[.slice A n c, .slice A2 n2 c2] w (SignPostZ w ks ms) := by
  have HL2 := Lib.hid h2.len
  by_cases hlt : n2 < 64
  · have hq : ∀ e w', (e = .returned (.tuple #[.slice none 0 0, .int .i64 2]) ∧ w = w') → SignPostZ w ks ms e w' := by
      rintro e w' ⟨rfl, rfl⟩
      refine ⟨.slice none 0 0, ?_, ?_, Below.refl _ _⟩
      · unfold signErr; rw [if_pos (by rw [HL2.out]; exact hlt)]
      · unfold signO; rw [if_pos (by rw [HL2.out]; exact hlt)]; exact OwnZ.nil _ _ _ _
    have HQ := Lib.hid hq
    clear hq
    go_enter Tryd.func17, Tryd.ntmps17
    go_wp2_with fail
    go_ret2
    exact HQ.out _ _ ⟨rfl, rfl⟩
  · obtain ⟨b, off, rfl, hbb, hcc⟩ := h2.cells (by omega)
    clear hbb hcc
    have hq : ∀ e w', (∃ v, e = .returned (.tuple #[v, .int .i64 0]) ∧ OwnZ .u8 5 w' w.heap.size v (ms.take 48 ++ sigL ks ms ++ ms.drop 64) ∧ Below w.heap.size w w') → SignPostZ w ks ms e w' := by
      rintro e w' ⟨v, rfl, ho, hb⟩
      refine ⟨v, ?_, ?_, hb⟩
      · unfold signErr; rw [if_neg (by rw [HL2.out]; exact hlt)]
      · unfold signO; rw [if_neg (by rw [HL2.out]; exact hlt)]; exact ho
    have HQ := Lib.hid hq
    have cg := fun w h h2 hK => Lib.hid (signature_any w A n c ks hn h b off n2 c2 ms (by omega) hn2 h2 hK)
    have HR : Hid ((sigL ks ms).length = 16) := sigL_len _ _
    have hRb := sigL_bytes ks ms
    obtain ⟨R, hR⟩ : ∃ R, R = sigL ks ms := ⟨_, rfl⟩
    rw [← hR] at cg HR hRb HQ
    have cc := fun w => Lib.hid (cut_any w b off n2 c2 ms (by omega) h2.fit (by omega))
    unfold CutPost at cc
    have cn := fun w A3 g5 gs hP => ConcatZ_any w gs 3 (partA [(some ⟨b, off, none⟩, 48, 48, ms.take 48), (some ⟨g5, 0, none⟩, 16, 16, R), (A3, n2 - 64, n2 - 64, ms.drop 64)]) (partN [(some ⟨b, off, none⟩, 48, 48, ms.take 48), (some ⟨g5, 0, none⟩, 16, 16, R), (A3, n2 - 64, n2 - 64, ms.drop 64)])
      (partC [(some ⟨b, off, none⟩, 48, 48, ms.take 48), (some ⟨g5, 0, none⟩, 16, 16, R), (A3, n2 - 64, n2 - 64, ms.drop 64)]) (partX [(some ⟨b, off, none⟩, 48, 48, ms.take 48), (some ⟨g5, 0, none⟩, 16, 16, R), (A3, n2 - 64, n2 - 64, ms.drop 64)]) hP (by omega) (show 0 + 48 + 16 + (n2 - 64) ≤ _ by omega)
    have hcx : ∀ (g5 : Nat) (A3 : Option Addr), catL (partX [(some ⟨b, off, none⟩, 48, 48, ms.take 48), (some ⟨g5, 0, none⟩, 16, 16, R), (A3, n2 - 64, n2 - 64, ms.drop 64)]) 3 = ms.take 48 ++ R ++ ms.drop 64 := fun _ _ => rfl
    simp only [hcx] at cn
    obtain ⟨F, hF⟩ : ∃ F, F = ms.take 48 ++ R ++ ms.drop 64 := ⟨_, rfl⟩
    simp only [← hF] at cn
    rw [← hF] at HQ
    have CN := fun w A3 g5 gs hP => Lib.hid (cn w A3 g5 gs hP)
    have HH := Lib.hid h
    have HH2 := Lib.hid h2
    have HT := Lib.hid hK
    obtain ⟨Z, hZ⟩ : ∃ Z : List Int, Z = List.replicate 16 0 := ⟨_, rfl⟩
    have HZ := len0 16
    have hz1 := zero_g
    rw [← hZ] at HZ hz1
    have HZ1 := Lib.hid hz1
    obtain ⟨q, hq'⟩ : ∃ q, q = n2 - 64 := ⟨_, rfl⟩
    rw [← hq'] at cc CN
    have hge : (64 : Int) ≤ (n2 : Int) := by omega
    clear hq hR hcx cn hF h h2 hK hZ hz1 hq'
    go_enter Tryd.func17, Tryd.ntmps17
    go_wp2_with fail
    refine (cc _).out.mono ?_
    rintro e w7 ⟨A3, rfl, rfl, hA3⟩
    go_wp2_with fail
    refine (cg _ HH.out HH2.out HT.out).out.mono ?_
    rintro e w1 ⟨rfl, b1⟩
    have B1 := Lib.hid b1
    clear b1
    go_wp2_with (first
      | ((with_reducible show wpList _ _ _ (⟨some 9, _, _, _, _, _⟩ :: _) _ _); refine wpList_alloc_arr rfl _ rfl .u8 Z 16 HZ1 ?_; intro g5 w5 e5 s5 A5 b5)
      | ((with_reducible show wpList _ _ _ (⟨none, .store _ (.tmp 9) _, _, _, _, _⟩ :: _) _ _); refine wpList_store_arr rfl _ (.tmp 9) (.tmp 21) rfl g5 rfl .u8 _ _ R rfl A5 16 size_g HZ HR ?_; intro w6 A6 o6 s6; have hs1 := B1.out.size; have B6 : Hid (Below w.heap.size w w6) := (step B1.out b5.out).trans (o6.out.below (by omega)); have H26 : Hid (Holds w6 w6.heap.size (some ⟨b, off, none⟩) n2 c2 ms) := HH2.out.over B6.out; have H36 := Lib.hid (hA3 _ _ _ H26.out); have H16 := Lib.hid (H26.out.pre (k := 48) (by omega) (by omega)))
      | ((with_reducible show wpList _ _ _ (⟨some 25, _, _, _, _, _⟩ :: _) _ _); refine wpList_litParts rfl 3 _ rfl [(some ⟨b, off, none⟩, 48, 48, ms.take 48), (some ⟨g5, 0, none⟩, 16, 16, R), (A3, q, q, ms.drop 64)] rfl (by kernel_rfl) (List.forall_mem_cons.2 ⟨H16.out, List.forall_mem_cons.2 ⟨A6.out.holds (n := 16) HR.out hRb (by omega), List.forall_mem_cons.2 ⟨H36.out, fun _ h => by cases h⟩⟩⟩) ?_; intro g8 w8 P8 b8)
      | fail)
    have B8 : Hid (Below w.heap.size w w8) := step B6.out b8.out
    refine (CN _ A3 g5 g8 P8.out).out.mono ?_
    rintro e w9 ⟨v9, rfl, o9, b9⟩
    have O9 := Lib.hid (o9.mono B8.out.size)
    have B9 : Hid (Below w.heap.size w w9) := step B8.out b9
    clear o9 b9 P8 b8 B8
    go_wp2_with fail
    go_ret2
    exact HQ.out _ _ ⟨_, rfl, O9.out, B9.out⟩

theorem Sign_any (w : World) (A : Option Addr) (n c : Nat) (ks : List Int) (hn : n ≤ 140737488355100) (h : Holds w w.heap.size A n c ks) (A2 : Option Addr) (n2 c2 : Nat) (ms : List Int) (hn2 : n2 ≤ 140737488355100) (h2 : Holds w w.heap.size A2 n2 c2 ms) (hK : KTab w) :
    Calls Tryd.prog 17 #[.slice A n c, .slice A2 n2 c2] w (SignPost w ks ms) :=
  (Sign_anyZ w A n c ks hn h A2 n2 c2 ms hn2 h2 hK).mono fun _ _ ⟨v, h1, h2, h3⟩ => ⟨v, h1, h2.own, h3⟩

set_option maxRecDepth 100000 in
set_option maxHeartbeats 2000000 in
theorem Check_any (w : World) (A : Option Addr) (n c : Nat) (ks : List Int) (hn : n ≤ 140737488355100) (h : Holds w w.heap.size A n c ks) (A2 : Option Addr) (n2 c2 : Nat) (ms : List Int) (hn2 : n2 ≤ 140737488355100) (h2 : Holds w w.heap.size A2 n2 c2 ms) (hK : KTab w) :
    Calls Tryd.prog 20 #[.slice A n c, .slice A2 n2 c2] w fun e w' => e = .returned (.int .i64 (checkErr ks ms)) ∧ Below w.heap.size w w' := by
  have HL2 := Lib.hid h2.len
  by_cases hlt : n2 < 64
  · have he : checkErr ks ms = 2 := by unfold checkErr; rw [if_pos (by rw [HL2.out]; exact hlt)]
    rw [he]
    clear he
    go_enter Tryd.func20, Tryd.ntmps20
    go_wp2_with fail
    go_ret
    exact ⟨rfl, Below.refl _ _⟩
  · obtain ⟨b, off, rfl, hbb, hcc⟩ := h2.cells (by omega)
    have he : checkErr ks ms = if signedL ks ms = true then 0 else 6 := by unfold checkErr; rw [if_neg (by rw [HL2.out]; exact hlt)]
    have hse : signedL ks ms = decide ((ms.drop 48).take 16 = sigL ks ms) := rfl
    have hmid := (h2.mid (j := 48) (k := 16) (by omega) (by omega) (by omega)).some_of (by omega)
    have cg := fun w h h2 hK => Lib.hid (signature_any w A n c ks hn h b off n2 c2 ms (by omega) hn2 h2 hK)
    have HR : Hid ((sigL ks ms).length = 16) := sigL_len _ _
    have HM : Hid (((ms.drop 48).take 16).length = 16) := by have := HL2.out; show _ = _; rw [List.length_take, List.length_drop]; omega
    obtain ⟨R, hR⟩ : ∃ R, R = sigL ks ms := ⟨_, rfl⟩
    obtain ⟨M, hM⟩ : ∃ M, M = (ms.drop 48).take 16 := ⟨_, rfl⟩
    rw [← hR] at cg HR hse
    rw [← hM] at HM hse hmid
    rw [hse] at he
    have q1 := fun w => run_equalIn_arr2 (P := Tryd.prog) Tryd.underlying26 Tryd.underlying5 one_u8 M R HM.out HR.out 9998 w
    have qg : Tryd.prog.eqGuardType Tryd.prog.depth 26 = false := by kernel_rfl
    obtain ⟨d, hd⟩ : ∃ d, d = decide (M = R) := ⟨_, rfl⟩
    rw [← hd] at q1 he
    rw [he]
    have cc := fun w => Lib.hid (cut_any w b off n2 c2 ms (by omega) h2.fit (by omega))
    unfold CutPost at cc
    have HH := Lib.hid h
    have HH2 := Lib.hid h2
    have HT := Lib.hid hK
    have HMID := Lib.hid hmid
    have hge : (64 : Int) ≤ (n2 : Int) := by omega
    clear he hse hR hM hd h h2 hK hmid hcc
    go_enter Tryd.func20, Tryd.ntmps20
    go_wp2_with fail
    refine (cc _).out.mono ?_
    rintro e w7 ⟨A3, rfl, rfl, hA3⟩
    clear hA3
    go_upto_region 4 with (fail)
    refine wp_region_held (S := fun w' => ∀ i, i < 16 → w'.cell? ⟨b, off + 48 + i, none⟩ = some (.int .u8 (M.getD i 0))) (by kernel_rfl) ?_
    change wpAnyH _ _ _ _ _ _ _ _ w.drew
    have B0 : Hid (Below w.heap.size w w.drew) := (Below.refl _ w).drew
    have S0 : Hid (∀ i, i < 16 → w.drew.cell? ⟨b, off + 48 + i, none⟩ = some (.int .u8 (M.getD i 0))) := fun i hi => HMID.out.2 i hi
    refine wpAnyH_take (i := 0) (v := .slice (some ⟨b, off + 48, none⟩) 16 16) rfl (by kernel_rfl) (by kernel_rfl) (by kernel_rfl) (fun _ _ _ h => h) (.inl ⟨rfl, fun w _ => by go_simp⟩) S0.out ?_
    refine wpAnyH_take (i := 1) (v := .pointer (some ⟨b, off + 48, none⟩)) rfl (by kernel_rfl) (by kernel_rfl) (by kernel_rfl) (fun _ _ _ h => h) (yieldsIf_s2ap rfl _ (.tmp 17) rfl 16 16 16 _ _ rfl Tryd.underlying26 (by omega)) S0.out ?_
    refine wpAnyH_take (i := 2) (v := .agg (M.map (Value.int .u8)).toArray) rfl (by kernel_rfl) (by kernel_rfl) (by kernel_rfl) (fun _ _ _ h => h) (yieldsIf_load_part rfl _ (.tmp 18) rfl b (off + 48) rfl .u8 M 16 _ (fun _ h => h) Tryd.underlying26 size_g HM) S0.out ?_
    refine wpAnyH_take (i := 3) (v := .slice A n c) rfl (by kernel_rfl) (by kernel_rfl) (by kernel_rfl) (fun _ _ _ h => h) (.inl ⟨rfl, fun w _ => by go_simp⟩) S0.out ?_
    refine wpAnyH_take (i := 4) (v := .slice (some ⟨b, off, none⟩) n2 c2) rfl (by kernel_rfl) (by kernel_rfl) (by kernel_rfl) (fun _ _ _ h => h) (.inl ⟨rfl, fun w _ => by go_simp⟩) S0.out ?_
    refine wpAnyH_one 5 _ (by kernel_rfl) rfl fun K hK => ?_
    go_simp
    refine (cg _ (HH.out.over B0.out) (HH2.out.over B0.out) (HT.out.below B0.out)).out.mono ?_
    rintro e w1 ⟨rfl, b1⟩
    have B1 := Lib.hid (step B0.out b1)
    have S1 : Hid (∀ i, i < 16 → w1.cell? ⟨b, off + 48 + i, none⟩ = some (.int .u8 (M.getD i 0))) := fun i hi => by
      rw [← HMID.out.2 i hi]
      exact B1.out.cell (p := ⟨b, off + 48 + i, none⟩) HMID.out.1
    refine hK _ _ S1.out ?_
    clear hK K b1
    refine wpAnyH_one 6 _ (by kernel_rfl) rfl fun K hK => ?_
    go_simp
    refine hK _ _ S1.out ?_
    clear hK K
    refine wpAnyH_done (by kernel_rfl) ?_ _
    cases d
    · go_wp2_with fail
      go_ret
      exact ⟨rfl, B1.out⟩
    · go_wp2_with fail
      go_ret
      exact ⟨rfl, B1.out⟩
end Go.Proofs.YtomdgiikjnghcaaDoor
