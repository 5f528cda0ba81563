/-
  The walk of the statement HeadOnce: what is got may be, and is put as the same bytes.
-/
import Derived.Test.YthoddihoccpidaaCopyH
namespace Go.Proofs.Ythoddihoccpidaa
open Go.RowKit
set_option linter.unusedVariables false

/-- where Get does not refuse, the head is that of the first 64 bytes, and they are its bytes -/
theorem got_once {xs : List Int} (hx : Bytes xs) (h : getErrH xs 0 = 0) : 64 ≤ xs.length ∧ mayP (getOfH xs 0) = true ∧ putH (getOfH xs 0) = xs.take 64 := by
  have hp : partErr xs.length 0 64 = 0 := by
    unfold getErrH at h
    by_cases hp : partErr xs.length 0 64 = 0
    · exact hp
    · rw [if_neg hp] at h; exact h
  have hr := part_room hp
  have hl : 64 ≤ xs.length := by have := hr.2; simpa using this
  have hh : headP (xs.take 64) = true := by
    unfold getErrH at h
    rw [if_pos hp] at h
    by_cases hh : headP ((xs.drop (0 : Int).toNat).take 64) = true
    · simpa using hh
    · rw [if_neg hh] at h; omega
  have e : getOfH xs 0 = takenP (xs.take 64) := by
    unfold getOfH
    rw [if_pos h]
    simp
  have := put_of_headP (hx.take 64) (by simp; omega) hh
  rw [e]
  exact ⟨hl, this.2, this.1⟩

set_option maxRecDepth 100000 in
set_option maxHeartbeats 2000000 in
theorem walk_HeadOnce (W : World) (A0 : Option Addr) (n0 c0 : Nat) (z0 : List Int) (l0 : n0 ≤ c0) (r0 : c0 ≤ 140737488351232) (h0 : Holds W W.heap.size A0 c0 c0 z0) :
    Calls Try.prog 6 #[.slice A0 n0 c0] W fun e W' => e = .returned (.bool true) ∧ Below W.heap.size W W' := by
  have CL : Hid (∀ w : World, Calls Try.prog 17 #[] w fun e w' => e = .returned (.bool true) ∧ Below w.heap.size w w') := lives_any
  have h := h0.head l0
  obtain ⟨xs, hxs⟩ : ∃ xs, xs = z0.take n0 := ⟨_, rfl⟩
  rw [← hxs] at h
  have CG := GetH_any W A0 n0 c0 xs 0 h (by omega)
  have KH := getOfH_ok xs 0 h.byte
  unfold GetHPost at CG
  have ZH := Lib.hid zero_hd
  have HZ := Lib.hid (hcells_len zeroHd_ok)
  have qg := guard_hd
  have HL := Lib.hid (hcells_len KH)
  have HO := Lib.hid (hcells_one (getOfH xs 0))
  by_cases he : getErrH xs 0 = 0
  · rw [he] at CG
    obtain ⟨hn, hm, hp⟩ := got_once h.byte he
    have hn0 : 64 ≤ n0 := by rw [h.len] at hn; exact hn
    have hc0 : 64 ≤ c0 := by omega
    have hge : decide ((64 : Int) ≤ (n0 : Int)) = true := decide_eq_true (by omega)
    have g64 := h0.head hc0
    have e64 : z0.take 64 = xs.take 64 := by rw [hxs, List.take_take, Nat.min_eq_left hn0]
    rw [e64] at g64
    have CP : Hid (∀ w : World, Calls Try.prog 10 #[hv (getOfH xs 0)] w fun e w' => ∃ A', e = .returned (.tuple #[.slice A' 64 64, .int .i64 0]) ∧ Fresh w' w.heap.size A' (putH (getOfH xs 0)) ∧ Below w.heap.size w w') := fun w => put_may w _ KH hm
    have CM : Hid (∀ w : World, Calls Try.prog 13 #[hv (getOfH xs 0)] w fun e w' => e = .returned (.bool true) ∧ Below w.heap.size w w') := fun w => by
      have := May_any w _ KH
      rwa [hm] at this
    have HPL : Hid ((putH (getOfH xs 0)).length = 64) := putH_len KH.len
    have HPB : Hid (Bytes (putH (getOfH xs 0))) := putH_bytes KH.byte
    rw [← hp] at g64
    obtain ⟨ps, hps⟩ : ∃ ps, ps = putH (getOfH xs 0) := ⟨_, rfl⟩
    rw [← hps] at CP HPL HPB g64
    have G64 := Lib.hid g64
    have CG' := Lib.hid CG
    obtain ⟨zs, hzs⟩ : ∃ zs, zs = hcells zeroHd := ⟨_, rfl⟩
    obtain ⟨cs, hcs⟩ : ∃ cs, cs = hcells (getOfH xs 0) := ⟨_, rfl⟩
    unfold hv at CG' CP CM
    rw [← hcs] at CG' CP CM HL HO
    rw [← hzs] at ZH HZ
    clear he hn hm hp e64 g64 hps CG hzs hcs KH hxs h h0
    go_enter Try.func6, Try.ntmps6
    go_wp2_with fail
    refine CG'.out.mono ?_
    rintro e w1 ⟨rfl, L1⟩
    have L01 := Lib.hid L1
    clear L1 CG'
    go_wp2_with (first
      | ((with_reducible show wpList _ _ _ (⟨some 3, _, _, _, _, _⟩ :: _) _ _); refine wpList_alloc_blk rfl _ rfl zs _ ZH ?_; intro g4 w2 hg41 hg42 X2 L2)
      | ((with_reducible show wpList _ _ _ (⟨none, .store _ (.tmp 3) _, _, _, _, _⟩ :: _) _ _); refine wpList_store_blk rfl _ (.tmp 3) (.tmp 10) rfl g4 rfl _ zs cs rfl X2 26 size_hd HZ HL HO ?_; intro w3 X3 O3 hg3; have L13 : Hid (Below w1.heap.size w1 w3) := below_only L2.out O3.out hg41)
      | ((with_reducible show wpList _ _ _ (⟨some 21, _, _, _, _, _⟩ :: _) _ _); refine wpList_load_blk rfl _ (.tmp 3) rfl g4 rfl _ cs X3 26 _ Try.underlying28 rfl size_hd HL ?_)
      | fail)
    have L03 := Lib.hid (step L01.out L13.out)
    clear X2 L2 O3 L13 L01
    refine (CP.out _).mono ?_
    rintro e w4 ⟨A', rfl, hf, L4⟩
    have X4 := Lib.hid (X3.out.over L4)
    have L04 := Lib.hid (step L03.out L4)
    have hh4 := Lib.hid (hf.holds HPL.out HPB.out (by decide : 64 ≤ 281474976710656))
    clear X3 L03 L4 CP hf
    go_wp2_with (first
      | ((with_reducible show wpList _ _ _ (⟨some 29, _, _, _, _, _⟩ :: _) _ _); refine wpList_load_want (by kernel_rfl) _ (.tmp 3) rfl g4 rfl _ cs X4 26 _ Try.underlying28 rfl size_hd HL ?_)
      | fail)
    refine (CM.out _).mono ?_
    rintro e w5 ⟨rfl, L5⟩
    have L05 := Lib.hid (step L04.out L5)
    have hh5 := Lib.hid (hh4.out.over L5)
    clear X4 L04 L5 CM hh4
    have CS := Same_any w5 _ _ _ _ _ _ _ _ ps ps hh5.out (G64.out.below L05.out)
    rw [decide_eq_true rfl] at CS
    have CS' := Lib.hid CS
    clear CS hh5
    go_wp2_with fail
    refine CS'.out.mono ?_
    rintro e w6 ⟨rfl, j, rfl⟩
    have L06 : Hid (Below W.heap.size W (w5.drewN j)) := below_drewN L05.out j
    obtain ⟨wq, hwq⟩ : ∃ wq, wq = w5.drewN j := ⟨_, rfl⟩
    rw [← hwq] at L06 ⊢
    clear hwq CS' L05
    go_wp2_with fail
    refine (CL.out _).mono ?_
    rintro e w7 ⟨rfl, L7⟩
    go_wp2
    go_ret
    exact ⟨rfl, step L06.out L7⟩
  · have hz : getOfH xs 0 = zeroHd := by unfold getOfH; rw [if_neg he]
    rw [hz] at CG HL HO
    have q0 : ∀ w : World, (Op.equalIn 10000 28 (.agg (hcells zeroHd).toArray) (.agg (hcells zeroHd).toArray)).run Try.prog w = .ok true w := fun w => by
      rw [run_equalIn_hd zeroHd zeroHd zeroHd_ok zeroHd_ok w, decide_eq_true rfl]
    have BH := built_hd
    obtain ⟨er, her⟩ : ∃ er, er = getErrH xs 0 := ⟨_, rfl⟩
    rw [← her] at CG he
    obtain ⟨zs, hzs⟩ : ∃ zs, zs = hcells zeroHd := ⟨_, rfl⟩
    unfold hv at CG
    rw [← hzs] at CG HL HO ZH HZ q0 BH
    have CG' := Lib.hid CG
    clear CG hz her hzs KH hxs h h0
    go_enter Try.func6, Try.ntmps6
    go_wp2_with fail
    refine CG'.out.mono ?_
    rintro e w1 ⟨rfl, L1⟩
    have L01 := Lib.hid L1
    clear L1 CG'
    go_wp2_with (first
      | ((with_reducible show wpList _ _ _ (⟨some 3, _, _, _, _, _⟩ :: _) _ _); refine wpList_alloc_blk rfl _ rfl zs _ ZH ?_; intro g4 w2 hg41 hg42 X2 L2)
      | ((with_reducible show wpList _ _ _ (⟨none, .store _ (.tmp 3) _, _, _, _, _⟩ :: _) _ _); refine wpList_store_blk rfl _ (.tmp 3) (.tmp 10) rfl g4 rfl _ zs zs rfl X2 26 size_hd HZ HL HO ?_; intro w3 X3 O3 hg3; have L13 : Hid (Below w1.heap.size w1 w3) := below_only L2.out O3.out hg41)
      | ((with_reducible show wpList _ _ _ (⟨some 14, _, _, _, _, _⟩ :: _) _ _); refine wpList_load_blk rfl _ (.tmp 3) rfl g4 rfl _ zs X3 26 _ Try.underlying28 rfl size_hd HL ?_)
      | ((with_reducible show wpList _ _ _ (⟨some 15, _, _, _, _, _⟩ :: _) _ _); refine wpList_build_none rfl _ rfl zs BH ?_)
      | fail)
    have L03 := Lib.hid (step L01.out L13.out)
    refine (CL.out _).mono ?_
    rintro e w7 ⟨rfl, L7⟩
    go_wp2
    go_ret
    exact ⟨rfl, step L03.out L7⟩
end Go.Proofs.Ythoddihoccpidaa
