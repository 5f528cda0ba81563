/-
  The contract of the document's Get (refectoryref07), for whatever place.
-/
import Derived.Test.YthoddihoccpidaaRefH3
namespace Go.Proofs.Ythoddihoccpidaa
open Go.RowKit
set_option linter.unusedVariables false

set_option maxRecDepth 100000 in
set_option maxHeartbeats 1000000 in
theorem RGetH_any (w : World) (A : Option Addr) (n c : Nat) (xs : List Int) (a : Int) (hx : Holds w w.heap.size A n c xs) (ha : -9223372036854775808 ≤ a ∧ a ≤ 9223372036854775807) :
    Calls Try.prog 20 #[.slice A n c, .int .i64 a] w (GetHPost w xs a) := by
  have hl := hx.len
  have hn48 := hx.room
  by_cases hp : partErr xs.length a 64 = 0
  · have hr := part_room hp
    obtain ⟨p, rfl⟩ := Int.eq_ofNat_of_zero_le hr.1
    exact RGetH_room w A n c xs p hx (by have := hr.2; simp at this; omega) hp
  · have ZH := Lib.hid zero_hd
    have HZ := Lib.hid (hcells_len zeroHd_ok)
    have HZO := Lib.hid (hcells_one zeroHd)
    have BH := built_hd
    have HQ : Hid (∀ er, partErr xs.length a 64 = er → er ≠ 0 → ∀ e w', (e = .returned (.tuple #[hv zeroHd, .int .i64 er]) ∧ Below w.heap.size w w') → GetHPost w xs a e w') := by
      rintro er h1 h2 e w' ⟨rfl, hb⟩
      have he : getErrH xs a = er := by unfold getErrH; rw [if_neg hp, h1]
      refine ⟨?_, hb⟩
      unfold getOfH
      rw [he, if_neg h2]
    obtain ⟨zs, hzs⟩ : ∃ zs, zs = hcells zeroHd := ⟨_, rfl⟩
    unfold hv at HQ
    rw [← hzs] at ZH HZ HZO BH HQ
    have hpe : partErr xs.length a 64 = if a < 0 ∨ (n : Int) < a then 2 else if (n : Int) - a < 64 then 4 else 0 := by
      unfold partErr
      rw [hl]
      simp
    obtain ⟨ha0, ha1⟩ := ha
    by_cases h1 : a < 0
    · have HE := Lib.hid (HQ.out 2 (by rw [hpe, if_pos (.inl h1)]) (by decide))
      clear HQ hp hzs hpe hl hx
      go_enter Try.func20, Try.ntmps20
      go_wp2_with (first
        | ((with_reducible show wpList _ _ _ (⟨some 4, _, _, _, _, _⟩ :: _) _ _); refine wpList_alloc_blk rfl _ rfl zs _ ZH ?_; intro g0 w1 hg1 hg2 B1 L1)
        | ((with_reducible show wpList _ _ _ (⟨some 16, _, _, _, _, _⟩ :: _) _ _); refine wpList_build_none rfl _ rfl zs BH ?_)
        | ((with_reducible show wpList _ _ _ (⟨none, .store _ (.tmp 4) _, _, _, _, _⟩ :: _) _ _); refine wpList_store_blk rfl _ (.tmp 4) (.tmp 16) rfl g0 rfl _ zs zs rfl B1 26 size_hd HZ HZ HZO ?_; intro w9 B9 O9 hg9)
        | fail)
      refine bodyPost_ret (v := .tuple #[.agg zs.toArray, .int .i64 2]) ?_ rfl (HE.out _ _ ⟨rfl, below_only L1.out O9.out hg1⟩)
      exact results_cell_slot rfl _ _ g0 _ _ (0, 0) _ rfl B9.out Try.underlying28 rfl (by rw [size_hd]; have := HZ.out; simp [this]) rfl
    · by_cases h2 : (n : Int) < a
      · have HE := Lib.hid (HQ.out 2 (by rw [hpe, if_pos (.inr h2)]) (by decide))
        clear HQ hp hzs hpe hl hx
        go_enter Try.func20, Try.ntmps20
        go_wp2_with (first
          | ((with_reducible show wpList _ _ _ (⟨some 4, _, _, _, _, _⟩ :: _) _ _); refine wpList_alloc_blk rfl _ rfl zs _ ZH ?_; intro g0 w1 hg1 hg2 B1 L1)
          | ((with_reducible show wpList _ _ _ (⟨some 16, _, _, _, _, _⟩ :: _) _ _); refine wpList_build_none rfl _ rfl zs BH ?_)
          | ((with_reducible show wpList _ _ _ (⟨none, .store _ (.tmp 4) _, _, _, _, _⟩ :: _) _ _); refine wpList_store_blk rfl _ (.tmp 4) (.tmp 16) rfl g0 rfl _ zs zs rfl B1 26 size_hd HZ HZ HZO ?_; intro w9 B9 O9 hg9)
          | fail)
        refine bodyPost_ret (v := .tuple #[.agg zs.toArray, .int .i64 2]) ?_ rfl (HE.out _ _ ⟨rfl, below_only L1.out O9.out hg1⟩)
        exact results_cell_slot rfl _ _ g0 _ _ (0, 0) _ rfl B9.out Try.underlying28 rfl (by rw [size_hd]; have := HZ.out; simp [this]) rfl
      · have h3 : (n : Int) - a < 64 := by
          rw [hpe, if_neg (by omega)] at hp
          by_cases h3 : (n : Int) - a < 64
          · exact h3
          · rw [if_neg h3] at hp; exact absurd rfl hp
        have HE := Lib.hid (HQ.out 4 (by rw [hpe, if_neg (by omega), if_pos h3]) (by decide))
        clear HQ hp hzs hpe hl hx
        go_enter Try.func20, Try.ntmps20
        go_wp2_with (first
          | ((with_reducible show wpList _ _ _ (⟨some 4, _, _, _, _, _⟩ :: _) _ _); refine wpList_alloc_blk rfl _ rfl zs _ ZH ?_; intro g0 w1 hg1 hg2 B1 L1)
          | ((with_reducible show wpList _ _ _ (⟨some 22, _, _, _, _, _⟩ :: _) _ _); refine wpList_build_none rfl _ rfl zs BH ?_)
          | ((with_reducible show wpList _ _ _ (⟨none, .store _ (.tmp 4) _, _, _, _, _⟩ :: _) _ _); refine wpList_store_blk rfl _ (.tmp 4) (.tmp 22) rfl g0 rfl _ zs zs rfl B1 26 size_hd HZ HZ HZO ?_; intro w9 B9 O9 hg9)
          | fail)
        refine bodyPost_ret (v := .tuple #[.agg zs.toArray, .int .i64 4]) ?_ rfl (HE.out _ _ ⟨rfl, below_only L1.out O9.out hg1⟩)
        exact results_cell_slot rfl _ _ g0 _ _ (0, 0) _ rfl B9.out Try.underlying28 rfl (by rw [size_hd]; have := HZ.out; simp [this]) rfl
end Go.Proofs.Ythoddihoccpidaa
