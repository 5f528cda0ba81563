/-
  Contracts of the document's answers for layer 2 (refectoryref02): Letters, units, bytes, Put, Units, Get.
-/
import Derived.Test.YtaggjlobmikagaaDoorRefU1
import Derived.Deep.RegionLaw
namespace Go.Proofs.YtaggjlobmikagaaDoor
open Go.RowKit

/-- what Letters answers -/
def LettersPost (w : World) (l : List UInt8) (e : Ending) (w' : World) : Prop :=
  ∃ v, e = .returned (.tuple #[v, .bool (isText l)]) ∧ OwnK .i64 3 w' w.heap.size v (letters l) ∧ Below w.heap.size w w'

set_option maxRecDepth 100000 in
set_option maxHeartbeats 2000000 in
theorem Letters_any (s : ByteArray) (w : World) (hs : s.size ≤ 4398046511104) :
    Calls Tryd.prog 32 #[.string s] w (LettersPost w s.data.toList) := by
  have hq : ∀ b, isText s.data.toList = b → ∀ (e : Ending) (w' : World), (∃ v, e = .returned (.tuple #[v, .bool b]) ∧ OwnK .i64 3 w' w.heap.size v (letters s.data.toList) ∧ Below w.heap.size w w') → LettersPost w s.data.toList e w' := fun b hb e w' h => by
    unfold LettersPost
    rw [hb]
    exact h
  have HQ := Lib.hid hq
  have HS := Lib.hid (Lib.size_eq s)
  clear hq
  go_enter Tryd.func32, Tryd.ntmps32
  go_wp2
  go_loopw [4, 5, 6, 7, 8] (fun v b i _ _ wr => ∃ (pos : Nat) (zs : List Int) (t : Bool), i = .int .i64 pos ∧ b = .bool t ∧ Hid (OwnK .i64 3 wr w.heap.size v zs) ∧ Below w.heap.size w wr ∧ Hid (zs ++ letters (s.data.toList.drop pos) = letters s.data.toList) ∧ Hid ((t && isText (s.data.toList.drop pos)) = isText s.data.toList) ∧ zs.length ≤ pos ∧ pos ≤ s.size) (fun _ _ i _ _ _ => s.size - (intOf i).toNat)
  case atStart =>
    refine ⟨0, [], true, rfl, rfl, OwnK.nil _ _ _ _, Below.refl _ _, ?_, ?_, by simp, by omega⟩
    · show _ = _; rw [List.drop_zero, List.nil_append]
    · show _ = _; rw [List.drop_zero, Bool.true_and]
  case round =>
    obtain ⟨pos, zs, t, rfl, rfl, HO, hb, HE, HT, hzl, hps⟩ := hrel
    have hbs := hb.size
    by_cases hp : pos < s.size
    · have hne : s.data.toList.drop pos ≠ [] := by
        intro e
        have := congrArg List.length e
        rw [List.length_drop, ← HS.out] at this
        simp at this
        omega
      obtain ⟨n1, n2, n3⟩ := next_any s pos hp
      have hfd := first_decode _ hne
      have hts := isText_step _ hne
      rw [Lib.decodeL_drop] at hfd hts
      rw [List.drop_drop] at hts
      have c1 := first_any s pos wr hp hs
      have hh := head_at s pos hp
      obtain ⟨h, hh0⟩ : ∃ h, h = headOf (s.data.toList.drop pos) := ⟨_, rfl⟩
      rw [← hh0] at n1 hfd hts hh
      obtain ⟨Z, hZ⟩ : ∃ Z, Z = (Utf8.decode s pos).2 := ⟨_, rfl⟩
      rw [← hZ] at n1 n2 n3 hfd hts hh
      rcases hh with ⟨h1, h2, h3⟩ | ⟨h1, h2, h3⟩
      · rw [if_pos ⟨h1, h2⟩] at hfd
        rw [hfd] at c1
        have C1 := Lib.hid c1
        subst h2
        have HN : Hid (zs ++ [1114112 + ((s[pos]'hp).toNat : Int)] ++ letters (s.data.toList.drop (pos + 1)) = letters s.data.toList) := by
          show _ = _
          rw [← HE.out, n1, h3]
          simp
        have HT' : Hid ((false && isText (s.data.toList.drop (pos + 1))) = isText s.data.toList) := by
          show _ = _
          rw [← HT.out, hts, h3, decide_eq_false (by omega)]
          simp
        have hbyte : 0 ≤ ((s[pos]'hp).toNat : Int) ∧ ((s[pos]'hp).toNat : Int) ≤ 255 := by have := (s[pos]'hp).toNat_lt; omega
        obtain ⟨hy0, hy1⟩ := hbyte
        clear hne hfd hts c1 hh0 hZ n1 h1 h3 HE HT
        go_wp2_with fail
        refine C1.out.mono ?_
        rintro e w' ⟨rfl, rfl⟩
        go_wp2_with (at_builtin; go_loud (refine wpList_append_lit rfl (.tmp 21) (.tmp 27) .i64 42 3 8 Tryd.underlying42 info_i64 rfl w.heap.size _ zs [1114112 + ((s[pos]'hp).toNat : Int)] _ rfl 1 1 rfl rfl rfl HO.out (by omega) (by omega) hbs ?_; intro v5 w5 ho5 hg5))
        have hb5 := hg5.out.below HO.out hbs
        clear hg5
        go_roundw
        case rel => exact ⟨pos + 1, _, false, by go_num, rfl, ho5, hb.trans hb5, HN, HT', by simp; omega, by omega⟩
        case measure => simp [intOf]; omega
      · rw [if_neg h1] at hfd
        rw [hfd] at c1
        have C1 := Lib.hid c1
        have HN : Hid (zs ++ [h] ++ letters (s.data.toList.drop (pos + Z)) = letters s.data.toList) := by
          show _ = _
          rw [← HE.out, n1]
          simp
        have HT' : Hid ((t && isText (s.data.toList.drop (pos + Z))) = isText s.data.toList) := by
          show _ = _
          have := h3.2.1
          rw [← HT.out, hts, h2, decide_eq_true (by omega), Bool.true_and]
        have hZb : ((Z : Int) == 0) = false := by rw [beq_eq_false_iff_ne]; omega
        have hbd : 0 ≤ h ∧ h ≤ 1114111 := by rw [h2]; exact ⟨h3.1, h3.2.1⟩
        obtain ⟨hy0, hy1⟩ := hbd
        clear hne hfd hts c1 hh0 hZ n1 h1 h2 h3 HE HT
        go_wp2_with fail
        refine C1.out.mono ?_
        rintro e w' ⟨rfl, rfl⟩
        go_wp2_with (at_builtin; go_loud (refine wpList_append_lit rfl (.tmp 31) (.tmp 33) .i64 42 3 8 Tryd.underlying42 info_i64 rfl w.heap.size _ zs [h] _ rfl 1 1 rfl rfl rfl HO.out (by omega) (by omega) hbs ?_; intro v5 w5 ho5 hg5))
        have hb5 := hg5.out.below HO.out hbs
        clear hg5
        go_roundw
        case rel => exact ⟨pos + Z, _, t, by go_num, rfl, ho5, hb.trans hb5, HN, HT', by simp; omega, n3⟩
        case measure => simp [intOf]; omega
    · obtain rfl : pos = s.size := by omega
      have HEE : Hid (zs = letters s.data.toList) := by
        have := HE.out
        rw [next_end s _ hp, List.append_nil] at this
        exact this
      have HTT : Hid (isText s.data.toList = t) := by
        show _ = _
        rw [← HT.out, List.drop_of_length_le (by rw [← HS.out]; omega), isText_nil, Bool.and_true]
      clear HE HT
      go_wp2
      go_ret2
      refine HQ.out t HTT.out _ _ ⟨_, rfl, ?_, hb⟩
      rw [← HEE.out]
      exact HO.out

/-- the units of a letter -/
def unitInts (r : Int) : List Int := if r < 65536 then [r] else [55296 + (r - 65536) / 1024, 56320 + (r - 65536) % 1024]
def twoBytes (u : Int) : List Int := [u % 256, u / 256]
theorem unitBytes_two (r : Int) : unitBytes r = (unitInts r).flatMap twoBytes := by
  unfold unitBytes unitInts twoBytes
  split <;> rfl
theorem unitInts_bounds {r : Int} (h : IsLetter r) : ∀ u ∈ unitInts r, 0 ≤ u ∧ u ≤ 65535 := by
  obtain ⟨h0, h1, _⟩ := h
  intro u hu
  unfold unitInts at hu
  split at hu
  · simp at hu; omega
  · simp at hu; omega
theorem twoBytes_length (us : List Int) : (us.flatMap twoBytes).length = 2 * us.length := by
  induction us with
  | nil => rfl
  | cons a q ih =>
    rw [List.flatMap_cons, List.length_append, ih, List.length_cons]
    show 2 + _ = _
    omega
theorem unitInts_length (r : Int) : (unitInts r).length ≤ 2 := by unfold unitInts; split <;> simp

/-- what the document's Put answers -/
def RPutPost (w : World) (l : List UInt8) (e : Ending) (w' : World) : Prop :=
  ∃ v, e = .returned (.tuple #[v, .int .i64 (textErr l)]) ∧ OwnK .u8 5 w' w.heap.size v (putOfL l) ∧ Below w.heap.size w w'

end Go.Proofs.YtaggjlobmikagaaDoor
