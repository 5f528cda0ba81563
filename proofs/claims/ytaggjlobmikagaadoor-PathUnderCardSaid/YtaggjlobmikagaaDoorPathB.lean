/-
  Layer 6: the contract of path.Name.
-/
import Derived.Test.YtaggjlobmikagaaDoorPathA
import Derived.Test.YtaggjlobmikagaaDoorGlobA
namespace Go.Proofs.YtaggjlobmikagaaDoor
open Go.RowKit

/-- what a loop over the letters of a name answers, the last one having been given -/
def goName : Int → List Int → Bool
  | last, [] => !(last == 32) && !(last == 46)
  | _, r :: rs => if barB r = true then false else goName r rs
theorem goName_eq (last : Int) (rs : List Int) : goName last rs = (rs.all (fun r => !barB r) && (!((last :: rs).getD rs.length 0 == 32) && !((last :: rs).getD rs.length 0 == 46))) := by
  induction rs generalizing last with
  | nil => simp [goName]
  | cons r rs ih =>
    unfold goName
    rw [ih r]
    cases hb : barB r
    · simp [hb]
    · simp [hb]
theorem nameL_go {rs : List Int} (h1 : 1 ≤ rs.length) (h2 : rs.length ≤ 32) : nameL rs = goName 0 rs := by
  rw [nameL_cons, goName_eq, decide_eq_true h1, decide_eq_true h2]
  obtain ⟨r, rs, rfl⟩ : ∃ r q, rs = r :: q := by
    cases rs with
    | nil => simp at h1
    | cons r q => exact ⟨r, q, rfl⟩
  simp

set_option maxHeartbeats 2000000 in
theorem Name_any (s : ByteArray) (w : World) (hs : s.size ≤ 140737488355328) (hT : Tabs w) :
    Calls Tryd.prog 15 #[.string s] w fun e w' => e = .returned (.bool (nameOf s.data.toList)) ∧ Below w.heap.size w w' := by
  have c1 := Tryd.utf8_RuneCountInString s w (by omega)
  rw [runeCount_letters] at c1
  have c2 := fun w hT => Lib.hid (PIsText_any s w (by omega) hT)
  have c3 := fun r w => Lib.hid (PBarred_any r w)
  unfold nameOf
  by_cases ht' : isText s.data.toList = false
  · rw [ht'] at c2
    rw [ht', Bool.false_and]
    obtain ⟨L, hL⟩ : ∃ L, L = (letters s.data.toList).length := ⟨_, rfl⟩
    rw [← hL] at c1
    have C1 := Lib.hid c1
    clear c1 hL ht'
    go_enter Tryd.func15, Tryd.ntmps15
    go_wp2_with fail
    refine C1.out.mono ?_
    rintro e w1 ⟨rfl, pos, hw⟩
    have hb1 : Below w.heap.size w w1 := by
      rw [hw]
      exact (Below.refl _ _).alloc (Nat.le_refl _) _
    clear hw
    go_wp2_with fail
    refine (c2 _ (hT.below hb1)).out.mono ?_
    rintro e w2 ⟨rfl, hb2⟩
    go_wp2
    go_ret
    exact ⟨rfl, step hb1 hb2⟩
  have ht : isText s.data.toList = true := by simpa using ht'
  rw [ht] at c2
  rw [ht, Bool.true_and]
  have HT := Lib.hid ht
  clear ht ht'
  by_cases hn : 1 ≤ (letters s.data.toList).length ∧ (letters s.data.toList).length ≤ 32
  · obtain ⟨n1, n2⟩ := hn
    rw [nameL_go n1 n2]
    obtain ⟨L, hL⟩ : ∃ L, L = (letters s.data.toList).length := ⟨_, rfl⟩
    rw [← hL] at c1 n1 n2
    obtain ⟨R, hR⟩ : ∃ R, R = goName 0 (letters s.data.toList) := ⟨_, rfl⟩
    rw [← hR]
    have HR := Lib.hid hR
    have C1 := Lib.hid c1
    have t1 : 1 ≤ (L : Int) := by omega
    have t2 : (L : Int) ≤ 32 := by omega
    clear c1 hL hR
    go_enter Tryd.func15, Tryd.ntmps15
    go_wp2_with fail
    refine C1.out.mono ?_
    rintro e w1 ⟨rfl, pos, hw⟩
    have hb1 : Below w.heap.size w w1 := by
      rw [hw]
      exact (Below.refl _ _).alloc (Nat.le_refl _) _
    clear hw
    go_wp2_with fail
    refine (c2 _ (hT.below hb1)).out.mono ?_
    rintro e w2 ⟨rfl, hb2⟩
    have hB2 := step hb1 hb2
    have hs2 := hB2.size
    clear hb1 hb2 c2 C1
    go_wp2
    go_loopw [4, 6] (fun l _ wr => ∃ (pos : Nat) (last : Int), l = .int .i32 last ∧ wr.heap[w2.heap.size]? = some (.stringIter s pos) ∧ Below w.heap.size w wr ∧ Hid (goName last (letters (s.data.toList.drop pos)) = R) ∧ Hid (isText (s.data.toList.drop pos) = true) ∧ pos ≤ s.size) (fun _ _ wr => s.size - wr.iterPos w2.heap.size)
    case atStart =>
      refine ⟨0, 0, rfl, World.iter_heap w2 s 0, hB2.alloc hs2 _, ?_, HT, by omega⟩
      show _ = _
      rw [HR.out, List.drop_zero]
    case round =>
      obtain ⟨pos, last, rfl, hit, hb, HE, HX, hps⟩ := hrel
      have hK : w2.heap.size < wr.heap.size := (Array.getElem?_eq_some_iff.1 hit).1
      by_cases hp : pos < s.size
      · have hnx : ∀ ty, (Instr.next (.pointer (some ⟨w2.heap.size, 0, none⟩)) true ty).run Tryd.prog wr = _ := fun ty => Lib.run_next_any_at wr w2.heap.size s pos ty hit hp
        obtain ⟨q1, q2, q3⟩ := next_any s pos hp
        obtain ⟨m1, m2, m3⟩ := next_text s pos hp HX.out
        obtain ⟨c, hc⟩ : ∃ c : Int, c = ((Utf8.decode s pos).1 : Int) := ⟨_, rfl⟩
        obtain ⟨p', hp'⟩ : ∃ p', p' = pos + (Utf8.decode s pos).2 := ⟨_, rfl⟩
        rw [← hp'] at hnx q1 q3 m1 m2
        rw [← hc] at hnx m1 m3
        have hit2 := Lib.iterAt_heap wr w2.heap.size s pos p' hit
        have hb2 := Lib.below_iterAt hb (k := w2.heap.size) hs2 s p'
        have hpp : pos < p' := by omega
        have hE := HE.out
        rw [m1] at hE
        have HX' := Lib.hid m2
        obtain ⟨w3, hw3⟩ : ∃ w3, w3 = wr.iterAt w2.heap.size s p' := ⟨_, rfl⟩
        rw [← hw3] at hnx hit2 hb2
        have HI := Lib.hid hit2
        have HI0 := Lib.hid hit
        obtain ⟨r0, r1, r2⟩ := m3
        have c4 := c3 c w3
        have d4 := c4.out
        clear q1 q2 m1 m2 hc hp' hit hit2 hw3 c3 c4 HE
        cases hbc : barB c
        · have HE' : Hid (goName c (letters (s.data.toList.drop p')) = R) := by
            show _ = _
            rw [← hE, goName, hbc]
            rfl
          rw [hbc] at d4
          have D4 := Lib.hid d4
          clear d4 hE hbc
          go_wp2_with fail
          refine D4.out.mono ?_
          rintro e w4 ⟨rfl, rfl⟩
          go_wp2
          go_roundw
          case rel => exact ⟨p', c, rfl, HI.out, hb2, HE', HX', q3⟩
          case measure =>
            have h1 := HI.out
            have h0 := HI0.out
            simp only [World.iterPos, h0, h1]
            omega
        · have HE' : Hid (false = R) := by
            show _ = _
            rw [← hE, goName, hbc]
            rfl
          rw [hbc] at d4
          have D4 := Lib.hid d4
          clear d4 hE hbc
          go_wp2_with fail
          refine D4.out.mono ?_
          rintro e w4 ⟨rfl, rfl⟩
          go_wp2
          go_ret
          exact ⟨ret_bool HE'.out, hb2⟩
      · have hnx : ∀ ty, (Instr.next (.pointer (some ⟨w2.heap.size, 0, none⟩)) true ty).run Tryd.prog wr = _ := fun ty => Lib.run_next_end_at wr w2.heap.size s pos ty hit hp
        have hE := HE.out
        rw [next_end s pos hp] at hE
        by_cases e1 : last = 32
        · subst e1
          have HE' : Hid (false = R) := hE
          clear hE HE c3
          go_wp2
          go_ret
          exact ⟨ret_bool HE'.out, hb⟩
        · by_cases e2 : last = 46
          · subst e2
            have HE' : Hid (false = R) := hE
            clear hE HE c3
            go_wp2
            go_ret
            exact ⟨ret_bool HE'.out, hb⟩
          · have t3 : (last != 32) = true := by simpa using e1
            have t4 : (last != 46) = true := by simpa using e2
            have HE' : Hid (true = R) := by
              show _ = _
              rw [← hE]
              simp [goName, e1, e2]
            clear hE HE c3
            go_wp2
            go_ret
            exact ⟨ret_bool HE'.out, hb⟩
  · have hf : nameL (letters s.data.toList) = false := by
      rw [nameL_cons]
      rw [Bool.eq_false_iff]
      intro h
      simp only [Bool.and_eq_true, decide_eq_true_eq] at h
      exact hn ⟨h.1.1.1, h.1.1.2⟩
    rw [hf]
    obtain ⟨L, hL⟩ : ∃ L, L = (letters s.data.toList).length := ⟨_, rfl⟩
    rw [← hL] at c1 hn
    have C1 := Lib.hid c1
    clear c1 hL hf
    by_cases h1 : L < 1
    · obtain rfl : L = 0 := by omega
      go_enter Tryd.func15, Tryd.ntmps15
      go_wp2_with fail
      refine C1.out.mono ?_
      rintro e w1 ⟨rfl, pos, hw⟩
      have hb1 : Below w.heap.size w w1 := by
        rw [hw]
        exact (Below.refl _ _).alloc (Nat.le_refl _) _
      clear hw
      go_wp2_with fail
      refine (c2 _ (hT.below hb1)).out.mono ?_
      rintro e w2 ⟨rfl, hb2⟩
      go_wp2
      go_ret
      exact ⟨rfl, step hb1 hb2⟩
    · have hgt : 32 < (L : Int) := by omega
      have hge : 1 ≤ (L : Int) := by omega
      clear hn h1
      go_enter Tryd.func15, Tryd.ntmps15
      go_wp2_with fail
      refine C1.out.mono ?_
      rintro e w1 ⟨rfl, pos, hw⟩
      have hb1 : Below w.heap.size w w1 := by
        rw [hw]
        exact (Below.refl _ _).alloc (Nat.le_refl _) _
      clear hw
      go_wp2_with fail
      refine (c2 _ (hT.below hb1)).out.mono ?_
      rintro e w2 ⟨rfl, hb2⟩
      go_wp2
      go_ret
      exact ⟨rfl, step hb1 hb2⟩
end Go.Proofs.YtaggjlobmikagaaDoor
