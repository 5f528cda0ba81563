/-
  The walk of the statement UtfBack: a text comes back of its bytes, and bytes of their text.
-/
import Derived.Test.YtdidileadiockaaDoorRefU3
import Derived.Test.YtdidileadiockaaDoorOpen
import Derived.Test.YtdidileadiockaaDoorLUtfAgain
import Derived.Test.YtdidileadiockaaDoorMem
namespace Go.Proofs.YtdidileadiockaaDoor
open Go.RowKit
set_option linter.unusedVariables false

theorem textOf_put {l : List UInt8} (h : isText l = true) : getText (putOfL l) = l ∧ getTErr (putOfL l) = 0 := by
  have e : gets (putOfL l) = some (letters l) := by
    unfold putOfL
    rw [if_pos h]
    exact gets_put (isText_letters h)
  unfold getText getTErr
  rw [e]
  exact ⟨letters_enc l, rfl⟩
theorem putOf_get {xs : List Int} (hx : Bytes xs) {rs : List Int} (h : gets xs = some rs) : putOfL (rs.flatMap enc) = xs ∧ textErr (rs.flatMap enc) = 0 ∧ (rs.flatMap enc).length ≤ 4 * xs.length := by
  obtain ⟨h1, h2⟩ := gets_back hx h
  have ht := isText_of rs h1
  refine ⟨?_, if_pos ht, ?_⟩
  · unfold putOfL
    rw [if_pos ht, letters_of rs h1, h2]
  · have hl := congrArg List.length h2
    rw [putBytes_length] at hl
    have h3 : rs.length ≤ unitCount rs := by
      clear h h1 h2 ht hl
      induction rs with
      | nil => exact Nat.le_refl _
      | cons r q ih => rw [unitCount, List.length_cons]; split <;> omega
    have h4 : (rs.flatMap enc).length ≤ 4 * rs.length := by
      clear h h1 h2 ht hl h3
      induction rs with
      | nil => exact Nat.le_refl _
      | cons r q ih =>
        have := enc_le (r := r)
        rw [List.flatMap_cons, List.length_append, List.length_cons]
        omega
    omega

/-- the second half: bytes come back of their text -/
def BackEnd (W : World) (e : Ending) (W' : World) : Prop := e = .returned (.bool true) ∧ Below W.heap.size W W'

set_option maxHeartbeats 4000000 in
theorem walk_UtfBack (W : World) (hT : Tabs W) (a0 : ByteArray) (r0 : a0.size ≤ 1048576) (A1 : Option Addr) (n1 c1 : Nat) (z1 : List Int) (l1 : n1 ≤ c1) (r1 : c1 ≤ 1048576) (h1 : Holds W W.heap.size A1 c1 c1 z1) :
    Calls Tryd.prog 5 #[.string a0, .slice A1 n1 c1] W fun e W' => e = .returned (.bool true) ∧ Below W.heap.size W W' := by
  have h := h1.head l1
  obtain ⟨xs, hxs⟩ : ∃ xs, xs = z1.take n1 := ⟨_, rfl⟩
  rw [← hxs] at h
  clear hxs h1
  have hbx := h.byte
  have hlx := Lib.hid h.len
  have hn1 : n1 ≤ 1048576 := by omega
  have k1 := fun w hT => Put_any a0 w (by omega) hT
  unfold PutPost at k1
  have k2 := fun w A n c h hn => TGet_any w A n c (putOfL a0.data.toList) h hn
  unfold GetPost at k2
  have k3 := fun w hT => Units_any a0 w (by omega) hT
  have k4 := fun w A n c h hn => TGet_any w A n c xs h hn
  unfold GetPost at k4
  have c6 := fun w hT => Lib.hid (works_any w hT)
  have hby := putOfL_byte a0.data.toList
  have hpl := putOfL_length a0.data.toList
  have hul := unitsOfL_le a0.data.toList
  rw [← Lib.size_eq] at hul
  have hcase : (∃ t : ByteArray, ∃ D : List Int, gets xs ≠ none ∧ t = ⟨(getText xs).toArray⟩ ∧ getTErr xs = 0 ∧ t.size ≤ 4 * 1048576 ∧ putOfL t.data.toList = xs ∧ textErr t.data.toList = 0) ∨ (getText xs = [] ∧ getTErr xs = 5) := by
    cases e : gets xs with
    | none => right; unfold getText getTErr; rw [e]; exact ⟨rfl, rfl⟩
    | some rs =>
      left
      obtain ⟨p1, p2, p3⟩ := putOf_get hbx e
      have et : getText xs = rs.flatMap enc := by unfold getText; rw [e]
      refine ⟨⟨(getText xs).toArray⟩, [], by simp, rfl, by unfold getTErr; rw [e], ?_, ?_, ?_⟩
      · rw [str_size, et]; have := hlx.out; omega
      · show putOfL (getText xs) = xs; rw [et]; exact p1
      · show textErr (getText xs) = 0; rw [et]; exact p2
  obtain ⟨S, hS⟩ : ∃ S : ByteArray, S = ⟨(getText xs).toArray⟩ := ⟨_, rfl⟩
  have hend : ∀ w, Below W.heap.size W w → Tabs w := fun w hb => hT.below hb
  by_cases t0 : isText a0.data.toList = true
  · obtain ⟨g1, g2⟩ := textOf_put t0
    have e0 : textErr a0.data.toList = 0 := if_pos t0
    rw [g1, g2] at k2
    have hself : (⟨a0.data.toList.toArray⟩ : ByteArray) = a0 := rfl
    rw [hself] at k2
    rw [e0] at k1 k3
    obtain ⟨Z, hZ⟩ : ∃ Z, Z = putOfL a0.data.toList := ⟨_, rfl⟩
    obtain ⟨U, hU⟩ : ∃ U, U = unitsOfL a0.data.toList := ⟨_, rfl⟩
    rw [← hZ] at k1 k2 hby hpl
    rw [← hU] at k3 hpl hul
    have HPL := Lib.hid hpl
    have K1 := Lib.hid k1
    have K2 := Lib.hid k2
    have K3 := Lib.hid k3
    clear k1 k2 k3 g1 g2 e0 t0 hself hZ hU hpl
    rcases hcase with ⟨t, D, _, ht, et, hts, p1, p2⟩ | ⟨q1, q2⟩
    · rw [← hS] at ht
      subst ht
      have k5 := fun w hT => Put_any t w (by omega) hT
      unfold PutPost at k5
      rw [p1, p2] at k5
      rw [← hS, et] at k4
      have k7 := fun w B B' A A' n c n' c' h h' => Lib.hid (Same_any w B B' A A' n c n' c' xs xs h h')
      rw [decide_eq_true rfl] at k7
      have K4 := Lib.hid k4
      have K5 := Lib.hid k5
      clear k4 k5 et p1 p2 hS D
      go_enter Tryd.func5, Tryd.ntmps5
      go_wp2_with fail
      refine (K1.out _ hT).mono ?_
      rintro e w1 ⟨v1, rfl, ho1, hb1⟩
      obtain ⟨B1, m1, rfl, hh1⟩ := ho1.own.holds hby (by have := HPL.out; omega)
      rw [HPL.out] at hh1 ⊢
      clear ho1
      go_wp2_with fail
      refine (K2.out _ _ _ _ hh1 (by omega)).mono ?_
      rintro e w2 ⟨rfl, hb2⟩
      have hB2 := step hb1 hb2
      go_wp2_with fail
      refine (K3.out _ (hend _ hB2)).mono ?_
      rintro e w3 ⟨rfl, hb3⟩
      have hB3 := step hB2 hb3
      go_wp2_with fail
      refine (K4.out _ _ _ _ (h.over hB3) (by omega)).mono ?_
      rintro e w4 ⟨rfl, hb4⟩
      have hB4 := step hB3 hb4
      go_wp2_with fail
      refine (K5.out _ (hend _ hB4)).mono ?_
      rintro e w5 ⟨v5, rfl, ho5, hb5⟩
      obtain ⟨B5, m5, rfl, hh5⟩ := ho5.own.holds hbx (by have := hlx.out; omega)
      rw [hlx.out] at hh5 ⊢
      have hB5 := step hB4 hb5
      clear ho5
      go_wp2_with fail
      refine (k7 _ _ _ _ _ _ _ _ _ hh5 (h.over hB5)).out.mono ?_
      rintro e w6 ⟨rfl, j6, rfl⟩
      have hB6 := step hB5 (drewed _ j6)
      go_wp2_with fail
      refine (c6 _ (hend _ hB6)).out.mono ?_
      rintro e w7 ⟨rfl, hb7⟩
      go_wp2
      go_ret
      exact ⟨rfl, step hB6 hb7⟩
    · rw [q1, q2] at k4
      have K4 := Lib.hid k4
      clear k4 q1 q2 hS
      go_enter Tryd.func5, Tryd.ntmps5
      go_wp2_with fail
      refine (K1.out _ hT).mono ?_
      rintro e w1 ⟨v1, rfl, ho1, hb1⟩
      obtain ⟨B1, m1, rfl, hh1⟩ := ho1.own.holds hby (by have := HPL.out; omega)
      rw [HPL.out] at hh1 ⊢
      clear ho1
      go_wp2_with fail
      refine (K2.out _ _ _ _ hh1 (by omega)).mono ?_
      rintro e w2 ⟨rfl, hb2⟩
      have hB2 := step hb1 hb2
      go_wp2_with fail
      refine (K3.out _ (hend _ hB2)).mono ?_
      rintro e w3 ⟨rfl, hb3⟩
      have hB3 := step hB2 hb3
      go_wp2_with fail
      refine (K4.out _ _ _ _ (h.over hB3) (by omega)).mono ?_
      rintro e w4 ⟨rfl, hb4⟩
      have hB4 := step hB3 hb4
      go_wp2_with fail
      refine (c6 _ (hend _ hB4)).out.mono ?_
      rintro e w7 ⟨rfl, hb7⟩
      go_wp2
      go_ret
      exact ⟨rfl, step hB4 hb7⟩
  · have e0 : textErr a0.data.toList = 5 := if_neg t0
    rw [e0] at k1
    obtain ⟨Z, hZ⟩ : ∃ Z, Z = putOfL a0.data.toList := ⟨_, rfl⟩
    rw [← hZ] at k1
    have K1 := Lib.hid k1
    clear k1 k2 k3 e0 t0 hZ hby hpl hul
    rcases hcase with ⟨t, D, _, ht, et, hts, p1, p2⟩ | ⟨q1, q2⟩
    · rw [← hS] at ht
      subst ht
      have k5 := fun w hT => Put_any t w (by omega) hT
      unfold PutPost at k5
      rw [p1, p2] at k5
      rw [← hS, et] at k4
      have k7 := fun w B B' A A' n c n' c' h h' => Lib.hid (Same_any w B B' A A' n c n' c' xs xs h h')
      rw [decide_eq_true rfl] at k7
      have K4 := Lib.hid k4
      have K5 := Lib.hid k5
      clear k4 k5 et p1 p2 hS D
      go_enter Tryd.func5, Tryd.ntmps5
      go_wp2_with fail
      refine (K1.out _ hT).mono ?_
      rintro e w3 ⟨v1, rfl, ho1, hB3⟩
      clear ho1
      go_wp2_with fail
      refine (K4.out _ _ _ _ (h.over hB3) (by omega)).mono ?_
      rintro e w4 ⟨rfl, hb4⟩
      have hB4 := step hB3 hb4
      go_wp2_with fail
      refine (K5.out _ (hend _ hB4)).mono ?_
      rintro e w5 ⟨v5, rfl, ho5, hb5⟩
      obtain ⟨B5, m5, rfl, hh5⟩ := ho5.own.holds hbx (by have := hlx.out; omega)
      rw [hlx.out] at hh5 ⊢
      have hB5 := step hB4 hb5
      clear ho5
      go_wp2_with fail
      refine (k7 _ _ _ _ _ _ _ _ _ hh5 (h.over hB5)).out.mono ?_
      rintro e w6 ⟨rfl, j6, rfl⟩
      have hB6 := step hB5 (drewed _ j6)
      go_wp2_with fail
      refine (c6 _ (hend _ hB6)).out.mono ?_
      rintro e w7 ⟨rfl, hb7⟩
      go_wp2
      go_ret
      exact ⟨rfl, step hB6 hb7⟩
    · rw [q1, q2] at k4
      have K4 := Lib.hid k4
      clear k4 q1 q2 hS
      go_enter Tryd.func5, Tryd.ntmps5
      go_wp2_with fail
      refine (K1.out _ hT).mono ?_
      rintro e w3 ⟨v1, rfl, ho1, hB3⟩
      clear ho1
      go_wp2_with fail
      refine (K4.out _ _ _ _ (h.over hB3) (by omega)).mono ?_
      rintro e w4 ⟨rfl, hb4⟩
      have hB4 := step hB3 hb4
      go_wp2_with fail
      refine (c6 _ (hend _ hB4)).out.mono ?_
      rintro e w7 ⟨rfl, hb7⟩
      go_wp2
      go_ret
      exact ⟨rfl, step hB4 hb7⟩
end Go.Proofs.YtdidileadiockaaDoor
