/-
  Layer 13 (frame): the statements' own lists.
-/
import Derived.Test.YtjpcifmeimcikaaChL
import Derived.Test.YtjpcifmeimcikaaSame
namespace Go.Proofs.Ytjpcifmeimcikaa
set_option maxRecDepth 100000
open Go.RowKit
set_option linter.unusedVariables false

theorem rows_take_step {L M : List (List Int)} {k : Nat} {x y : List Int} (hx : L[k]? = some x) (hy : M[k]? = some y) (h : L.take k = M.take k) (he : x = y) : L.take (k + 1) = M.take (k + 1) := by
  obtain ⟨h1, h2⟩ := List.getElem?_eq_some_iff.1 hx
  obtain ⟨h3, h4⟩ := List.getElem?_eq_some_iff.1 hy
  rw [List.take_succ_eq_append_getElem h1, List.take_succ_eq_append_getElem h3, h, h2, h4, he]

theorem quiet_draw {P : Program} {f : FuncId} {args : Array Value} {w : World} {n : Nat} {v : Value}
    (h : Calls P f args (w.drewN n) fun e w' => e = .returned v ∧ ∃ k, (w.drewN n).drewN k = w') : Calls P f args (w.drewN n) fun e w'' => e = .returned v ∧ ∃ m, w'' = w.drewN m :=
  h.mono fun _ _ ⟨he, m, hm⟩ => ⟨he, n + m, by rw [← hm, World.drewN_drewN]⟩
set_option maxHeartbeats 2000000 in
theorem lists_any (w : World) (B B' : Nat) (A A' : Option Addr) (n c n' c' : Nat) (ps qs : List PartT) (h : Lst w B A n c ps) (h' : Lst w B' A' n' c' qs) (hn : n ≤ 5864062014634) (hn' : n' ≤ 5864062014800) :
    Calls Try.prog 15 #[.slice A n c, .slice A' n' c'] w fun e w' => e = .returned (.bool (decide (rowsL ps = rowsL qs))) ∧ ∃ k, w.drewN k = w' := by
  have hl : (rowsL ps).length = n := by rw [rowsL, List.length_map]; exact h.row.len
  have hl' : (rowsL qs).length = n' := by rw [rowsL, List.length_map]; exact h'.row.len
  by_cases hne : n = n'
  · subst hne
    have HL := Lib.hid hl
    have HL' := Lib.hid hl'
    have HH := Lib.hid h
    have HH' := Lib.hid h'
    clear hl hl' h h' hn'
    go_enter Try.func15, Try.ntmps15
    go_wp2_with fail
    go_loopw [5] (fun i wr => ∃ k : Nat, k ≤ n ∧ i = .int .i64 k ∧ Hid ((rowsL ps).take k = (rowsL qs).take k) ∧ ∃ j, wr = w.drewN j) (fun i _ => n - (intOf i).toNat)
    case atStart => exact ⟨0, Nat.zero_le _, rfl, by simp [Hid], 0, rfl⟩
    case round =>
      obtain ⟨k, hk, rfl, HT, j, hwj⟩ := hrel
      have WJ := Lib.hid hwj
      by_cases hlt : k < n
      · obtain ⟨b, off, p, rfl, hbb, hp, hcell, hhp⟩ := (HH.out.drewN j).at hlt
        obtain ⟨b', off', q, rfl, hbb', hq, hcell', hhq⟩ := (HH'.out.drewN j).at hlt
        rw [← hwj] at hcell hcell' hhp hhq
        clear hwj
        have C1 : Hid (∀ m : Nat, Calls Try.prog 10 #[.slice p.1 p.2.1 p.2.2.1, .slice q.1 q.2.1 q.2.2.1] (wr.drewN m) fun e w' => e = .returned (.bool (decide (p.2.2.2 = q.2.2.2))) ∧ ∃ k, (wr.drewN m).drewN k = w') :=
          fun m => Same_any _ B B' p.1 q.1 p.2.1 p.2.2.1 q.2.1 q.2.2.1 p.2.2.2 q.2.2.2 (hhp.drewN m) (hhq.drewN m)
        have hp' : Hid ((rowsL ps)[k]? = some p.2.2.2) := by show _ = _; rw [rowsL, List.getElem?_map, hp]; rfl
        have hq' : Hid ((rowsL qs)[k]? = some q.2.2.2) := by show _ = _; rw [rowsL, List.getElem?_map, hq]; rfl
        obtain ⟨⟨pA, pn, pc, px⟩, hpe⟩ : ∃ r, r = p := ⟨_, rfl⟩
        obtain ⟨⟨qA, qn, qc, qx⟩, hqe⟩ : ∃ r, r = q := ⟨_, rfl⟩
        rw [← hpe] at hcell C1 hp'
        rw [← hqe] at hcell' C1 hq'
        clear hhp hhq hp hq hpe hqe
        dsimp only at hcell hcell' C1 hp' hq'
        by_cases he : px = qx
        · rw [decide_eq_true he] at C1
          have HN : Hid ((rowsL ps).take (k + 1) = (rowsL qs).take (k + 1)) := rows_take_step hp'.out hq'.out HT.out he
          clear he hp' hq' HT
          go_wp2_with fail
          go_quiet ((go_at_call 10; exact quiet_draw (C1.out _)))
          go_wp2_with fail
          go_roundw
          case rel => exact ⟨k + 1, by omega, by go_num, HN, _, by rw [WJ.out, World.drewN_drewN]⟩
          case measure => simp [intOf]; omega
        · rw [decide_eq_false he] at C1
          have hS : Hid (decide (rowsL ps = rowsL qs) = false) := by
            show _ = _
            rw [decide_eq_false_iff_not]
            intro h
            have h1 := hp'.out
            rw [h, hq'.out] at h1
            injection h1 with h1
            exact he h1.symm
          clear he hp' hq' HT
          go_wp2_with fail
          go_quiet ((go_at_call 10; exact quiet_draw (C1.out _)))
          go_wp2_with fail
          go_ret
          exact ⟨ret_bool hS.out.symm, _, by rw [WJ.out, World.drewN_drewN]⟩
      · have hS : Hid (decide (rowsL ps = rowsL qs) = true) := by
          show _ = _
          rw [decide_eq_true_iff]
          have h1 := HT.out
          rwa [List.take_of_length_le (by rw [HL.out]; omega), List.take_of_length_le (by rw [HL'.out]; omega)] at h1
        clear HT
        go_wp2_with fail
        go_ret
        exact ⟨ret_bool hS.out.symm, j, rfl⟩
  · have e1 : decide (rowsL ps = rowsL qs) = false := by
      rw [decide_eq_false_iff_not]
      intro he
      rw [he] at hl
      omega
    have hb : ((n : Int) == (n' : Int)) = false := by simp; omega
    have hb' : ((n : Int) != (n' : Int)) = true := by simp; omega
    rw [e1]
    clear e1 hl hl' h h'
    go_enter Try.func15, Try.ntmps15
    go_wp2
    go_ret
    exact ⟨rfl, 0, rfl⟩
end Go.Proofs.Ytjpcifmeimcikaa
