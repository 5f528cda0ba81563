/-
  The walk of the statement FrameLong: a frame of MaxFrame bytes may be, one byte more may not, neither put nor taken.
-/
import Derived.Test.YtjpcifmeimcikaaFrV
import Derived.Test.YtjpcifmeimcikaaSpoilY
import Derived.Test.YtjpcifmeimcikaaOpen
namespace Go.Proofs.Ytjpcifmeimcikaa
set_option maxRecDepth 100000
open Go.RowKit
set_option linter.unusedVariables false

theorem frN_long {n : Nat} (h : n ≤ 16777215) : frN (frHead n) = n := by
  show (((n / 65536 : Nat) : Int)).toNat * 65536 + (((n / 256 % 256 : Nat) : Int)).toNat * 256 + (((n % 256 : Nat) : Int)).toNat = n
  rw [Int.toNat_natCast, Int.toNat_natCast, Int.toNat_natCast]
  omega
theorem frs_long {n : Nat} (h : n ≤ 16777215) (h1 : 65536 < n) : frs (frHead n) = ([], [], 3) := by
  have hE : frE (frHead n) = 3 := by
    unfold frE
    rw [if_neg (by intro h; cases h), if_neg (fun h => h rfl), if_neg (show ¬ (frHead n).length < 4 by rw [frHead_len]; omega), frN_long h, if_neg (by omega), if_pos h1]
  rw [frs_bad (by rw [hE]; decide), hE]
theorem frHead_bytesL {n : Nat} (h : n ≤ 16777215) : Bytes (frHead n) := by
  intro x hx
  simp only [frHead, List.mem_cons, List.not_mem_nil, or_false] at hx
  rcases hx with rfl | rfl | rfl | rfl <;> omega

set_option maxHeartbeats 4000000 in
theorem walk_FrameLong (W : World) (a0 : Int) (w0 : 0 ≤ a0 ∧ a0 ≤ 255) (a1 : Int) (w1 : 0 ≤ a1 ∧ a1 ≤ 255) :
    Calls Try.prog 5 #[.int .u8 a0, .int .u8 a1] W fun e W' => e = .returned (.bool true) ∧ Below W.heap.size W W' := by
  obtain ⟨m, rfl⟩ := Int.eq_ofNat_of_zero_le w0.1
  obtain ⟨q0, q1⟩ := w0
  have hm : m ≤ 255 := by omega
  obtain ⟨n, hn⟩ : ∃ n, n = 65436 + m := ⟨_, rfl⟩
  have hnn : (65436 : Int) + (m : Int) = (n : Int) := by omega
  have hn1 : n ≤ 65691 := by omega
  have hn0 : 65436 ≤ n := by omega
  have CP := fun (w : World) (xs : List Int) A c (h : Holds w w.heap.size A n c xs) => PutF_any w A n c xs h
  unfold PutFPost at CP
  have CSP := fun (w : World) g zs (hN : zs.length = n) (hz : Bytes zs) (hr : Row w g zs) => Lib.hid (SpoilY_any w g n n zs (Nat.le_refl _) hN (by unfold maxLen; omega) hz a1 w1 hr)
  have HZL : Hid ((List.replicate n (0 : Int)).length = n) := List.length_replicate
  obtain ⟨z, hz⟩ : ∃ z : List Int, z = List.replicate n 0 := ⟨_, rfl⟩
  have HZ := Lib.hid hz
  rw [← hz] at HZL
  by_cases hbig : 65536 < n
  · have CP' := fun (w : World) (xs : List Int) (hl : xs.length = n) A c (h : Holds w w.heap.size A n c xs) => Lib.hid (by
      have := CP w xs A c h
      have e1 : frPE xs = 3 := by unfold frPE; rw [if_neg (by omega), if_pos (by omega)]
      have e2 : frPO xs = [] := by unfold frPO; rw [if_neg (by rw [e1]; decide)]
      rw [e1, e2] at this
      exact this)
    have CT := fun (w : World) base g v A c (h : Rcv w base g false v []) (hx : Holds w w.heap.size A 4 c (frHead n)) (hb : base ≤ w.heap.size) => Lib.hid (TakeF_of w base g v [] A 4 c (frHead n) h hx hb (by decide) (F := []) (R := []) (E := 3) (st := true) (frs_long (by omega) hbig) rfl)
    unfold TakeP at CT
    clear CP hz hn hm w1 q0 q1
    go_enter Try.func5, Try.ntmps5
    go_wp2_with (first
      | (at_make; refine wpList_make_bytes _ rfl (.tmp 19) (.tmp 19) rfl _ _ n rfl rfl (by omega) (by omega) (by omega) ?_; intro wa hra hba; rw [← HZ.out] at hra)
      | fail)
    refine (CSP wa W.heap.size z HZL.out (by rw [HZ.out]; exact Bytes.zeros n) hra.out).out.mono ?_
    rintro e w2 ⟨rfl, O2, ys, hyl, hyr, hyb⟩
    have YL := Lib.hid hyl
    have YR := Lib.hid hyr
    have YB := Lib.hid hyb
    have HY2 := Lib.hid ((Fresh.holds (w := w2) (base := 0) (.inr ⟨_, rfl, Nat.zero_le _, hyr⟩) hyl hyb (by omega) : Holds w2 w2.heap.size (some ⟨W.heap.size, 0, none⟩) n n ys))
    have B2 := Lib.hid (below_only hba O2 (Nat.le_refl _))
    have hlt := hyr.lt
    clear O2 hyl hyr hyb hra hba CSP HZ HZL
    go_wp2_with fail
    refine (CP' w2 ys YL.out _ _ HY2.out).out.mono ?_
    rintro e w3 ⟨v3, rfl, o3, b3⟩
    obtain ⟨A3, c3, rfl, ob3⟩ := own_rowF o3 (show _ = 0 from rfl)
    have B3 := Lib.hid (step B2.out b3)
    clear o3 ob3 b3 CP'
    go_wp2_with fail
    refine (NewF_any w3).mono ?_
    rintro e w4 ⟨g4, rfl, hg4, r4, b4⟩
    have R4 := Lib.hid r4
    have B4 := Lib.hid (step B3.out b4)
    have hs4 := b4.size
    have hs3 := Lib.hid B3.out.size
    clear r4 b4 B3
    go_wp2_with (first
      | ((with_reducible show wpList _ _ _ (⟨some 42, _, _, _, _, _⟩ :: _) _ _); refine wpList_litRow rfl 4 _ rfl (frHead n) rfl (frHead_bytesL (by omega)) (by omega) (by kernel_rfl) ?_; intro g5 w5 hg5 Y5 H5 b5; have R5 := Lib.hid (R4.out.below b5.out); have B5 := Lib.hid (step B4.out b5.out); have hs5 := b5.out.size)
      | fail)
    refine (CT w5 _ g4 _ _ 4 R5.out H5.out (by omega)).out.mono ?_
    rintro e w6 ⟨l6, p6, v6, rfl, o6, q6, r6, s6, n6, a6⟩
    obtain ⟨A6, n6', c6, rfl, l6⟩ := o6.lst
    have R6 := Lib.hid r6
    have B6 := Lib.hid (R5.out.after B5.out hs3.out (by have := hs3.out; omega) s6)
    clear r6 s6 n6 a6 o6 l6 q6 R5 B5 R4 B4 Y5 H5 b5 CT
    go_wp2_with (first
      | ((with_reducible show wpList _ _ _ (⟨some 48, _, _, _, _, _⟩ :: _) _ _); refine wpList_litRow rfl 1 _ rfl [0] rfl (Bytes.of_all rfl) (by omega) (by kernel_rfl) ?_; intro g8 w8 hg8 Y8 H8 b8; have R8 := Lib.hid (R6.out.below b8.out); have B8 := Lib.hid (step B6.out b8.out))
      | fail)
    refine (TakeF_state w8 _ g4 _ _ _ R8.out).mono ?_
    rintro e w9 ⟨rfl, rfl⟩
    clear R8 Y8 H8 b8 R6 B6
    go_wp2_with fail
    refine (livesF_any _).mono ?_
    rintro e w10 ⟨rfl, b10⟩
    go_wp2
    go_ret
    exact ⟨rfl, step B8.out b10⟩
  · have CP' := fun (w : World) (xs : List Int) (hl : xs.length = n) A c (h : Holds w w.heap.size A n c xs) => Lib.hid (by
      have := CP w xs A c h
      have e1 : frPE xs = 0 := frPE_of (by omega) (by omega)
      rw [e1] at this
      exact this)
    have CT := fun (w : World) base g v (xs : List Int) (hl : xs.length = n) A c (h : Rcv w base g false v []) (hx : Holds w w.heap.size A (4 + n) c (frPO xs)) (hb : base ≤ w.heap.size) => Lib.hid (TakeF_of w base g v [] A (4 + n) c (frPO xs) h hx hb (by simp; omega) (F := [xs]) (R := []) (E := 0) (st := false) (by have e := frs_put (frPE_of (b := xs) (by omega) (by omega)) []; rw [List.append_nil, frs_nil] at e; exact e) rfl)
    unfold TakeP at CT
    have CS := fun (w : World) B B' A c A' c' (xs : List Int) (h : Holds w B A n c xs) (h' : Holds w B' A' n c' xs) => Lib.hid (Same_any w B B' A A' _ c _ c' xs xs h h')
    simp only [decide_eq_true] at CS
    have HPL : Hid (∀ xs : List Int, xs.length = n → (frPO xs).length = 4 + n) := fun xs hl => by rw [frPO_len (frPE_of (by omega) (by omega)), hl]
    obtain ⟨M, hM⟩ : ∃ M, M = 4 + n := ⟨_, rfl⟩
    rw [← hM] at HPL
    simp only [← hM] at CT
    have hM2 : M ≤ 65695 := by omega
    clear CP hz hn hm w1 q0 q1 hM
    go_enter Try.func5, Try.ntmps5
    go_wp2_with (first
      | (at_make; refine wpList_make_bytes _ rfl (.tmp 19) (.tmp 19) rfl _ _ n rfl rfl (by omega) (by omega) (by omega) ?_; intro wa hra hba; rw [← HZ.out] at hra)
      | fail)
    refine (CSP wa W.heap.size z HZL.out (by rw [HZ.out]; exact Bytes.zeros n) hra.out).out.mono ?_
    rintro e w2 ⟨rfl, O2, ys, hyl, hyr, hyb⟩
    have YL := Lib.hid hyl
    have YR := Lib.hid hyr
    have YB := Lib.hid hyb
    have HY2 := Lib.hid ((Fresh.holds (w := w2) (base := 0) (.inr ⟨_, rfl, Nat.zero_le _, hyr⟩) hyl hyb (by omega) : Holds w2 w2.heap.size (some ⟨W.heap.size, 0, none⟩) n n ys))
    have B2 := Lib.hid (below_only hba O2 (Nat.le_refl _))
    have hlt := hyr.lt
    clear O2 hyl hyr hyb hra hba CSP HZ HZL
    go_wp2_with fail
    refine (CP' w2 ys YL.out _ _ HY2.out).out.mono ?_
    rintro e w3 ⟨v3, rfl, o3, b3⟩
    obtain ⟨A3, c3, rfl, ob3⟩ := own_rowF o3 (HPL.out ys YL.out)
    have H3 := Lib.hid (Own.holds_at (show Own w3 _ (.slice A3 M c3) _ from ob3.1) (HPL.out ys YL.out) (frPO_bytes YB.out) (by omega))
    have HY3 := Lib.hid (HY2.out.over b3)
    have B3 := Lib.hid (step B2.out b3)
    clear o3 ob3 b3 CP' HY2 YR hlt
    go_wp2_with fail
    refine (NewF_any w3).mono ?_
    rintro e w4 ⟨g4, rfl, hg4, r4, b4⟩
    have R4 := Lib.hid r4
    have B4 := Lib.hid (step B3.out b4)
    have H4 := Lib.hid (H3.out.over b4)
    have HY4 := Lib.hid (HY3.out.below b4)
    have hs4 := b4.size
    have hs3 := Lib.hid B3.out.size
    clear r4 b4 B3 H3 HY3
    go_wp2_with fail
    refine (CT w4 _ g4 _ ys YL.out A3 c3 R4.out H4.out hs4).out.mono ?_
    rintro e w5 ⟨l5, p5, v5, rfl, o5, q5, r5, s5, n5, a5⟩
    obtain ⟨A5, n5', c5, rfl, l5⟩ := o5.lst
    obtain rfl : n5' = 1 := l5.len_of q5
    have B5 := Lib.hid (R4.out.after B4.out hs3.out (by have := hs3.out; omega) s5)
    have HY5 := Lib.hid (HY4.out.below (R4.out.after (Below.refl _ _) (Nat.le_refl _) hs4 s5))
    obtain ⟨b, off, p, rfl, hbb, hp, hcell, hhp⟩ := l5.at (by omega : 0 < 1)
    have hpx : p.2.2.2 = ys := by
      have h1 : (rowsL p5)[0]? = some p.2.2.2 := by rw [rowsL, List.getElem?_map, hp]; rfl
      rw [q5] at h1
      injection h1 with h1
      exact h1.symm
    obtain ⟨pA, pn, pc, px⟩ := p
    dsimp only at hcell hhp hpx
    subst hpx
    obtain rfl : pn = n := hhp.len.symm.trans YL.out
    have CSa := CS w5 _ _ pA pc _ _ px hhp HY5.out
    rw [Nat.add_zero] at hcell
    clear hp hhp r5 s5 n5 a5 o5 l5 q5 R4 B4 H4 HY4 CT CS
    go_wp2_with fail
    refine CSa.out.mono ?_
    rintro e w6 ⟨rfl, j6, rfl⟩
    obtain ⟨w6, hw6⟩ : ∃ w, w = w5.drewN j6 := ⟨_, rfl⟩
    have B6 : Hid (Below W.heap.size W w6) := by rw [hw6]; exact below_drewN B5.out j6
    rw [← hw6]
    clear hw6 hcell CSa HY5 B5
    go_wp2_with fail
    refine (livesF_any _).mono ?_
    rintro e w7 ⟨rfl, b7⟩
    go_wp2
    go_ret
    exact ⟨rfl, step B6.out b7⟩
end Go.Proofs.Ytjpcifmeimcikaa
