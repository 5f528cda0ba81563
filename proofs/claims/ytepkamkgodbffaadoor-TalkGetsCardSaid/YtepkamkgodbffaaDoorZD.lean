import Derived.Test.YtepkamkgodbffaaDoorZA
import Derived.Test.YtepkamkgodbffaaDoorZC
import Derived.Deep.QuietTactic
import Derived.BigQuiet
import Derived.Test.YtepkamkgodbffaaDoorZB
/-
  Contracts of the program's reader (talk.reader): part, number, fill, noughts, text, end (three regions written by tools/gen_talkb.py).
-/
namespace Go.Proofs.YtepkamkgodbffaaDoor
open Go.RowKit
set_option linter.unusedVariables false
set_option maxRecDepth 100000

theorem fld_tr0 (g : Nat) (w : World) : (Instr.fieldAt 84 (.pointer (some ⟨g, 0, none⟩)) 0).run Tryd.prog w = .ok (.pointer (some ⟨g, 0, none⟩)) w := by go_simp
theorem fld_tr1 (g : Nat) (w : World) : (Instr.fieldAt 84 (.pointer (some ⟨g, 0, none⟩)) 1).run Tryd.prog w = .ok (.pointer (some ⟨g, 1, none⟩)) w := by go_simp
theorem fld_tr2 (g : Nat) (w : World) : (Instr.fieldAt 84 (.pointer (some ⟨g, 0, none⟩)) 2).run Tryd.prog w = .ok (.pointer (some ⟨g, 2, none⟩)) w := by go_simp

/-- the program's reader at the head of block g, over the bytes xs, with the cells 'rest' behind it -/
def PRd (w : World) (g : Nat) (T : TypeId) (A : Option Addr) (n c : Nat) (r : Rd) (rest : List Value) : Prop := Blk w g T (.slice A n c :: .int .i64 r.p :: .int .i64 r.e :: rest)
/-- what 'part' answers -/
def PPartPost (w : World) (g : Nat) (T : TypeId) (A : Option Addr) (n c : Nat) (q : List Int × Rd) (rest : List Value) (e : Ending) (w' : World) : Prop :=
  ∃ A' m, e = .returned (.slice A' m m) ∧ m = q.1.length ∧ PRd w' g T A n c q.2 rest ∧ Fresh w' w.heap.size A' q.1 ∧ Save g w w' ∧ (¬ q.2.e = 0 → A' = none ∧ m = 0)
theorem Fresh.onlyW {w w' : World} {base g : Nat} {A : Option Addr} {xs : List Int} (h : Fresh w base A xs) (hO : Only g w w') (hg : g < base) : Fresh w' base A xs := by
  rcases h with h | ⟨k, h1, h2, h3⟩
  · exact .inl h
  · exact .inr ⟨k, h1, h2, h3.only hO (by omega)⟩
theorem Fresh.monoW {w : World} {base base' : Nat} {A : Option Addr} {xs : List Int} (h : Fresh w base A xs) (hg : base' ≤ base) : Fresh w base' A xs := by
  rcases h with h | ⟨k, h1, h2, h3⟩
  · exact .inl h
  · exact .inr ⟨k, h1, by omega, h3⟩
theorem rdPart_len {xs : List Int} {m : Nat} {r : Rd} : (rdPart xs m r).1.length ≤ m := by
  unfold rdPart
  split
  · split
    · simp
    · simp; omega
  · simp
theorem rdPart_bytes {xs : List Int} (h : Bytes xs) (m : Nat) (r : Rd) : Bytes (rdPart xs m r).1 := by
  unfold rdPart
  split
  · split
    · exact Bytes.nil
    · exact (h.drop _).take _
  · exact Bytes.nil
theorem rdPart_place {xs : List Int} {m n : Nat} {r : Rd} (hl : xs.length = n) (h : r.p ≤ n) : (rdPart xs m r).2.p ≤ n := by
  unfold rdPart
  split
  · split
    · exact h
    · show r.p + m ≤ n; omega
  · exact h

set_option maxHeartbeats 1000000 in
theorem part_any (w : World) (g : Nat) (T : TypeId) (A : Option Addr) (n c : Nat) (xs : List Int) (r : Rd) (m : Nat) (rest : List Value) (hB : PRd w g T A n c r rest) (hx : Holds w w.heap.size A n c xs) (hp : r.p ≤ n) (hm : m ≤ 65536) :
    Calls Tryd.prog 71 #[.pointer (some ⟨g, 0, none⟩), .int .i64 (m : Int)] w (PPartPost w g T A n c (rdPart xs m r) rest) := by
  obtain ⟨p, er⟩ := r
  change p ≤ n at hp
  have hl := hx.len
  have hrm := hx.room
  have hft := hx.fit
  have hlt := hB.lt
  have HR0 : Hid (Blk w g T (.slice A n c :: .int .i64 (p : Int) :: .int .i64 er :: rest)) := hB
  have c2 : w.cell? ⟨g, 2, none⟩ = some (.int .i64 er) := Blk.at hB rfl
  by_cases he : er = 0
  rotate_left
  · have HQ : Hid (∀ e w', (∃ A' m, e = .returned (.slice A' m m) ∧ m = 0 ∧ Blk w' g T (.slice A n c :: .int .i64 (p : Int) :: .int .i64 er :: rest) ∧ Fresh w' w.heap.size A' [] ∧ Save g w w' ∧ (¬ er = 0 → A' = none ∧ m = 0)) → PPartPost w g T A n c (rdPart xs m ⟨p, er⟩) rest e w') := by
      intro e w' hh
      unfold rdPart
      rw [if_neg he]
      exact hh
    have hne : (er != 0) = true := by simpa using he
    clear hB hx hl he
    go_enter Tryd.func71, Tryd.ntmps71
    go_wp2
    go_ret
    exact HQ.out _ _ ⟨none, 0, rfl, rfl, HR0.out, nil_fresh _ _, Save.refl g w, fun _ => ⟨rfl, rfl⟩⟩
  subst he
  have C1 := Part_any w A n c xs (p : Int) (m : Int) hx (by omega) (by omega)
  unfold PartPost at C1
  have ep : partErr xs.length (p : Int) (m : Int) = if n < p + m then 4 else 0 := by
    unfold partErr
    rw [hl, if_neg (by omega)]
    by_cases h5 : n < p + m
    · rw [if_pos h5, if_pos (by omega)]
    · rw [if_neg h5, if_neg (by omega)]
  rw [ep] at C1
  by_cases hr : n < p + m
  · have HQ : Hid (∀ e w', (∃ A' m, e = .returned (.slice A' m m) ∧ m = 0 ∧ Blk w' g T (.slice A n c :: .int .i64 (p : Int) :: .int .i64 4 :: rest) ∧ Fresh w' w.heap.size A' [] ∧ Save g w w' ∧ (¬ (4 : Int) = 0 → A' = none ∧ m = 0)) → PPartPost w g T A n c (rdPart xs m ⟨p, 0⟩) rest e w') := by
      intro e w' hh
      unfold rdPart
      rw [if_pos rfl, if_pos (by rw [hl]; exact hr)]
      exact hh
    rw [if_pos hr] at C1 ep
    have ep2 : partOf xs (p : Int) (m : Int) = [] := by unfold partOf; rw [ep, if_neg (by decide)]
    rw [ep2] at C1
    have C1' : Hid (∀ k, Calls Tryd.prog 64 #[.slice A n c, .int .i64 (p : Int), .int .i64 (m : Int)] (w.drewN k) fun e w' => ∃ A', e = .returned (.tuple #[.slice A' 0 0, .int .i64 4]) ∧ Below (w.drewN k).heap.size (w.drewN k) w') := fun k => by
      have h1 := Part_any (w.drewN k) A n c xs (p : Int) (m : Int) (hx.drewN k) (by omega) (by omega)
      unfold PartPost at h1
      rw [ep, ep2] at h1
      exact h1.mono fun e w' ⟨A', h1, _, h3⟩ => ⟨A', h1, h3⟩
    clear hB hx hl C1 ep ep2
    go_enter Tryd.func71, Tryd.ntmps71
    go_upto_region 3 with fail
    refine wp_region_held (S := fun w' => Blk w' g T (.slice A n c :: .int .i64 (p : Int) :: .int .i64 0 :: rest)) (by kernel_rfl) ?_
    change wpAnyH _ _ _ _ _ _ _ _ w.drew
    have S0 : Hid (Blk w.drew g T (.slice A n c :: .int .i64 (p : Int) :: .int .i64 0 :: rest)) := HR0.out.drew
    have b0 : Hid (Below w.heap.size w w.drew) := (drewed w 1)
    refine wpAnyH_take (i := 0) (v := _) rfl (by kernel_rfl) (by kernel_rfl) (by kernel_rfl) (fun _ _ _ h => h) (yieldsIf_move (by kernel_rfl) (.tmp 0) rfl (.pointer (some ⟨g, 0, none⟩)) (by kernel_rfl)) S0.out ?_
    refine wpAnyH_take (i := 1) (v := _) rfl (by kernel_rfl) (by kernel_rfl) (by kernel_rfl) (fun _ _ _ h => h) (yieldsIf_nil (by kernel_rfl) (.tmp 13) rfl ⟨g, 0, none⟩ (by kernel_rfl)) S0.out ?_
    refine wpAnyH_take (i := 2) (v := _) rfl (by kernel_rfl) (by kernel_rfl) (by kernel_rfl) (fun _ _ _ h => h) (yieldsIf_fld (by kernel_rfl) _ (.tmp 14) 0 rfl (.pointer (some ⟨g, 0, none⟩)) (.pointer (some ⟨g, 0, none⟩)) (by kernel_rfl) (fld_tr0 g)) S0.out ?_
    refine wpAnyH_take (i := 3) (v := _) rfl (by kernel_rfl) (by kernel_rfl) (by kernel_rfl) (fun _ _ _ h => h) (yieldsIf_load_one (by kernel_rfl) _ (.tmp 15) rfl g 0 (by kernel_rfl) (.slice A n c) (fun w h => h.at rfl) _ Tryd.underlying29 rfl) S0.out ?_
    refine wpAnyH_take (i := 4) (v := _) rfl (by kernel_rfl) (by kernel_rfl) (by kernel_rfl) (fun _ _ _ h => h) (yieldsIf_move (by kernel_rfl) (.tmp 0) rfl (.pointer (some ⟨g, 0, none⟩)) (by kernel_rfl)) S0.out ?_
    refine wpAnyH_take (i := 5) (v := _) rfl (by kernel_rfl) (by kernel_rfl) (by kernel_rfl) (fun _ _ _ h => h) (yieldsIf_nil (by kernel_rfl) (.tmp 17) rfl ⟨g, 0, none⟩ (by kernel_rfl)) S0.out ?_
    refine wpAnyH_take (i := 6) (v := _) rfl (by kernel_rfl) (by kernel_rfl) (by kernel_rfl) (fun _ _ _ h => h) (yieldsIf_fld (by kernel_rfl) _ (.tmp 18) 1 rfl (.pointer (some ⟨g, 0, none⟩)) (.pointer (some ⟨g, 1, none⟩)) (by kernel_rfl) (fld_tr1 g)) S0.out ?_
    refine wpAnyH_take (i := 7) (v := _) rfl (by kernel_rfl) (by kernel_rfl) (by kernel_rfl) (fun _ _ _ h => h) (yieldsIf_load_one (by kernel_rfl) _ (.tmp 19) rfl g 1 (by kernel_rfl) (.int .i64 (p : Int)) (fun w h => h.at rfl) _ Tryd.underlying3 rfl) S0.out ?_
    refine wpAnyH_take (i := 8) (v := _) rfl (by kernel_rfl) (by kernel_rfl) (by kernel_rfl) (fun _ _ _ h => h) (yieldsIf_move (by kernel_rfl) (.tmp 1) rfl (.int .i64 (m : Int)) (by kernel_rfl)) S0.out ?_
    refine wpAnyH_one 9 _ (by kernel_rfl) rfl fun K hK => ?_
    go_simp
    refine (C1'.out 1).mono ?_
    rintro e v1 ⟨A', rfl, L1⟩
    have S1 : Hid (Blk v1 g T (.slice A n c :: .int .i64 (p : Int) :: .int .i64 0 :: rest)) := S0.out.over L1
    have b1 : Hid (Below w.heap.size w v1) := step b0.out L1
    refine hK _ _ S1.out ?_
    clear hK K L1
    refine wpAnyH_take (i := 10) (v := (.tuple #[.slice A' 0 0, .int .i64 4])) rfl (by kernel_rfl) (by kernel_rfl) (by kernel_rfl) (fun _ _ _ h => h) (.inl ⟨by kernel_rfl, fun w _ => by go_simp⟩) S1.out ?_
    refine wpAnyH_take (i := 11) (v := (.slice A' 0 0)) rfl (by kernel_rfl) (by kernel_rfl) (by kernel_rfl) (fun _ _ _ h => h) (.inl ⟨by kernel_rfl, fun w _ => by go_simp⟩) S1.out ?_
    refine wpAnyH_take (i := 12) (v := (.int .i64 4)) rfl (by kernel_rfl) (by kernel_rfl) (by kernel_rfl) (fun _ _ _ h => h) (.inl ⟨by kernel_rfl, fun w _ => by go_simp⟩) S1.out ?_
    refine wpAnyH_take (i := 13) (v := (.slice A' 0 0)) rfl (by kernel_rfl) (by kernel_rfl) (by kernel_rfl) (fun _ _ _ h => h) (.inl ⟨by kernel_rfl, fun w _ => by go_simp⟩) S1.out ?_
    refine wpAnyH_take (i := 14) (v := (.int .i64 4)) rfl (by kernel_rfl) (by kernel_rfl) (by kernel_rfl) (fun _ _ _ h => h) (.inl ⟨by kernel_rfl, fun w _ => by go_simp⟩) S1.out ?_
    refine wpAnyH_done (by kernel_rfl) ?_ _
    have S1' := Lib.hid S1.out
    have gd : v1.cell? ⟨g, 2, none⟩ = some (.int .i64 0) := S1.out.at rfl
    have gf := Blk.frozen S1.out 2
    go_wp2
    go_ret
    exact HQ.out _ _ ⟨none, 0, rfl, rfl, Blk.set S1'.out 2 _, nil_fresh _ _, (Save.of_below b1.out g).setCell 2 _, fun _ => ⟨rfl, rfl⟩⟩
  · have HQ : Hid (∀ e w', (∃ A' k, e = .returned (.slice A' k k) ∧ k = m ∧ Blk w' g T (.slice A n c :: .int .i64 ((p : Int) + m) :: .int .i64 0 :: rest) ∧ Fresh w' w.heap.size A' ((xs.drop p).take m) ∧ Save g w w') → PPartPost w g T A n c (rdPart xs m ⟨p, 0⟩) rest e w') := by
      rintro e w' ⟨A', k, h1, h2, h3, h4, h5⟩
      unfold rdPart
      rw [if_pos rfl, if_neg (by rw [hl]; exact hr)]
      unfold PPartPost PRd
      rw [show ((p + m : Nat) : Int) = (p : Int) + m from by omega]
      exact ⟨A', k, h1, by show k = ((xs.drop p).take m).length; rw [h2, List.length_take, List.length_drop]; omega, h3, h4, h5, fun h => absurd rfl h⟩
    rw [if_neg hr] at C1 ep
    have ep2 : partOf xs (p : Int) (m : Int) = (xs.drop p).take m := by unfold partOf; rw [ep, if_pos rfl]; rfl
    have el : ((xs.drop p).take m).length = m := by rw [List.length_take, List.length_drop]; omega
    have C1' : Hid (∀ k, Calls Tryd.prog 64 #[.slice A n c, .int .i64 (p : Int), .int .i64 (m : Int)] (w.drewN k) fun e w' => ∃ A', e = .returned (.tuple #[.slice A' m m, .int .i64 0]) ∧ Fresh w' (w.drewN k).heap.size A' ((xs.drop p).take m) ∧ Below (w.drewN k).heap.size (w.drewN k) w') := fun k => by
      have h1 := Part_any (w.drewN k) A n c xs (p : Int) (m : Int) (hx.drewN k) (by omega) (by omega)
      unfold PartPost at h1
      rw [ep, ep2, el] at h1
      exact h1
    obtain ⟨ys, hys⟩ : ∃ ys, ys = (xs.drop p).take m := ⟨_, rfl⟩
    rw [← hys] at HQ C1'
    have hwr : IntKind.i64.wrap ((p : Int) + m) = (p : Int) + m := by rw [IntKind.wrap_i64]; omega
    clear hB hx hl C1 ep ep2 el hys
    go_enter Tryd.func71, Tryd.ntmps71
    go_upto_region 3 with fail
    refine wp_region_held (S := fun w' => Blk w' g T (.slice A n c :: .int .i64 (p : Int) :: .int .i64 0 :: rest)) (by kernel_rfl) ?_
    change wpAnyH _ _ _ _ _ _ _ _ w.drew
    have S0 : Hid (Blk w.drew g T (.slice A n c :: .int .i64 (p : Int) :: .int .i64 0 :: rest)) := HR0.out.drew
    have b0 : Hid (Below w.heap.size w w.drew) := (drewed w 1)
    refine wpAnyH_take (i := 0) (v := _) rfl (by kernel_rfl) (by kernel_rfl) (by kernel_rfl) (fun _ _ _ h => h) (yieldsIf_move (by kernel_rfl) (.tmp 0) rfl (.pointer (some ⟨g, 0, none⟩)) (by kernel_rfl)) S0.out ?_
    refine wpAnyH_take (i := 1) (v := _) rfl (by kernel_rfl) (by kernel_rfl) (by kernel_rfl) (fun _ _ _ h => h) (yieldsIf_nil (by kernel_rfl) (.tmp 13) rfl ⟨g, 0, none⟩ (by kernel_rfl)) S0.out ?_
    refine wpAnyH_take (i := 2) (v := _) rfl (by kernel_rfl) (by kernel_rfl) (by kernel_rfl) (fun _ _ _ h => h) (yieldsIf_fld (by kernel_rfl) _ (.tmp 14) 0 rfl (.pointer (some ⟨g, 0, none⟩)) (.pointer (some ⟨g, 0, none⟩)) (by kernel_rfl) (fld_tr0 g)) S0.out ?_
    refine wpAnyH_take (i := 3) (v := _) rfl (by kernel_rfl) (by kernel_rfl) (by kernel_rfl) (fun _ _ _ h => h) (yieldsIf_load_one (by kernel_rfl) _ (.tmp 15) rfl g 0 (by kernel_rfl) (.slice A n c) (fun w h => h.at rfl) _ Tryd.underlying29 rfl) S0.out ?_
    refine wpAnyH_take (i := 4) (v := _) rfl (by kernel_rfl) (by kernel_rfl) (by kernel_rfl) (fun _ _ _ h => h) (yieldsIf_move (by kernel_rfl) (.tmp 0) rfl (.pointer (some ⟨g, 0, none⟩)) (by kernel_rfl)) S0.out ?_
    refine wpAnyH_take (i := 5) (v := _) rfl (by kernel_rfl) (by kernel_rfl) (by kernel_rfl) (fun _ _ _ h => h) (yieldsIf_nil (by kernel_rfl) (.tmp 17) rfl ⟨g, 0, none⟩ (by kernel_rfl)) S0.out ?_
    refine wpAnyH_take (i := 6) (v := _) rfl (by kernel_rfl) (by kernel_rfl) (by kernel_rfl) (fun _ _ _ h => h) (yieldsIf_fld (by kernel_rfl) _ (.tmp 18) 1 rfl (.pointer (some ⟨g, 0, none⟩)) (.pointer (some ⟨g, 1, none⟩)) (by kernel_rfl) (fld_tr1 g)) S0.out ?_
    refine wpAnyH_take (i := 7) (v := _) rfl (by kernel_rfl) (by kernel_rfl) (by kernel_rfl) (fun _ _ _ h => h) (yieldsIf_load_one (by kernel_rfl) _ (.tmp 19) rfl g 1 (by kernel_rfl) (.int .i64 (p : Int)) (fun w h => h.at rfl) _ Tryd.underlying3 rfl) S0.out ?_
    refine wpAnyH_take (i := 8) (v := _) rfl (by kernel_rfl) (by kernel_rfl) (by kernel_rfl) (fun _ _ _ h => h) (yieldsIf_move (by kernel_rfl) (.tmp 1) rfl (.int .i64 (m : Int)) (by kernel_rfl)) S0.out ?_
    refine wpAnyH_one 9 _ (by kernel_rfl) rfl fun K hK => ?_
    go_simp
    refine (C1'.out 1).mono ?_
    rintro e v1 ⟨A', rfl, hfr, L1⟩
    have S1 : Hid (Blk v1 g T (.slice A n c :: .int .i64 (p : Int) :: .int .i64 0 :: rest)) := S0.out.over L1
    have b1 : Hid (Below w.heap.size w v1) := step b0.out L1
    have HF : Hid (Fresh v1 w.heap.size A' ys) := hfr
    refine hK _ _ S1.out ?_
    clear hK K hfr L1
    refine wpAnyH_take (i := 10) (v := (.tuple #[.slice A' m m, .int .i64 0])) rfl (by kernel_rfl) (by kernel_rfl) (by kernel_rfl) (fun _ _ _ h => h) (.inl ⟨by kernel_rfl, fun w _ => by go_simp⟩) S1.out ?_
    refine wpAnyH_take (i := 11) (v := (.slice A' m m)) rfl (by kernel_rfl) (by kernel_rfl) (by kernel_rfl) (fun _ _ _ h => h) (.inl ⟨by kernel_rfl, fun w _ => by go_simp⟩) S1.out ?_
    refine wpAnyH_take (i := 12) (v := (.int .i64 0)) rfl (by kernel_rfl) (by kernel_rfl) (by kernel_rfl) (fun _ _ _ h => h) (.inl ⟨by kernel_rfl, fun w _ => by go_simp⟩) S1.out ?_
    refine wpAnyH_take (i := 13) (v := (.slice A' m m)) rfl (by kernel_rfl) (by kernel_rfl) (by kernel_rfl) (fun _ _ _ h => h) (.inl ⟨by kernel_rfl, fun w _ => by go_simp⟩) S1.out ?_
    refine wpAnyH_take (i := 14) (v := (.int .i64 0)) rfl (by kernel_rfl) (by kernel_rfl) (by kernel_rfl) (fun _ _ _ h => h) (.inl ⟨by kernel_rfl, fun w _ => by go_simp⟩) S1.out ?_
    refine wpAnyH_done (by kernel_rfl) ?_ _
    have S1' := Lib.hid S1.out
    have gd : v1.cell? ⟨g, 2, none⟩ = some (.int .i64 0) := S1.out.at rfl
    have gd1 : v1.cell? ⟨g, 1, none⟩ = some (.int .i64 (p : Int)) := S1.out.at rfl
    have gf := Blk.frozen S1.out 1
    go_wp2
    go_ret
    exact HQ.out _ _ ⟨A', m, rfl, rfl, Blk.set S1'.out 1 _, HF.out.onlyW (only_setCell _ g 1 _) hlt, (Save.of_below b1.out g).setCell 1 _⟩

theorem rdPart_ok {xs : List Int} {m n : Nat} {r : Rd} (hl : xs.length = n) (h : (rdPart xs m r).2.e = 0) : (rdPart xs m r).1.length = m := by
  unfold rdPart at h ⊢
  by_cases h1 : r.e = 0
  · rw [if_pos h1] at h ⊢
    by_cases h2 : xs.length < r.p + m
    · rw [if_pos h2] at h; exact absurd (show (4 : Int) = 0 from h) (by decide)
    · rw [if_neg h2]; simp; omega
  · rw [if_neg h1] at h; exact absurd h h1
theorem rdPart_bad {xs : List Int} {m : Nat} {r : Rd} (h : ¬ (rdPart xs m r).2.e = 0) : (rdPart xs m r).1 = [] := by
  unfold rdPart at h ⊢
  by_cases h1 : r.e = 0
  · rw [if_pos h1] at h ⊢
    by_cases h2 : xs.length < r.p + m
    · rw [if_pos h2]
    · rw [if_neg h2] at h; exact absurd rfl h
  · rw [if_neg h1]
/-- a number's reading is that of its part -/
theorem rdPart_N {xs : List Int} {s : Nat} {r : Rd} (hs : sizeOk (s : Int) = true) : (rdPart xs s r).2 = (rdN xs s r).2 ∧ getOf (rdPart xs s r).1 0 (s : Int) = (rdN xs s r).1 := by
  have hs8 : 1 ≤ s ∧ s ≤ 8 := by rcases sizeOk_cases hs with h | h | h | h <;> omega
  have h0 : getOf [] 0 (s : Int) = 0 := by
    have he : getErr 0 0 (s : Int) = 4 := by unfold getErr partErr; rw [if_pos hs, if_neg (by omega), if_pos (by omega)]
    show (if getErr 0 0 (s : Int) = 0 then _ else _) = _
    rw [he, if_neg (by decide)]
  unfold rdPart rdN
  by_cases h1 : r.e = 0
  · rw [if_pos h1, if_pos h1]
    by_cases h2 : xs.length < r.p + s
    · rw [if_pos h2, if_pos h2]; exact ⟨rfl, h0⟩
    · rw [if_neg h2, if_neg h2]
      refine ⟨rfl, ?_⟩
      have hl : ((xs.drop r.p).take s).length = s := by rw [List.length_take, List.length_drop]; omega
      have he : getErr s 0 (s : Int) = 0 := by unfold getErr partErr; rw [if_pos hs, if_neg (by omega), if_neg (by omega)]
      unfold getOf numAt
      rw [hl, he, if_pos rfl]
      simp [List.take_take]
  · rw [if_neg h1, if_neg h1]; exact ⟨rfl, h0⟩

def PNumPost (w : World) (g : Nat) (T : TypeId) (A : Option Addr) (n c : Nat) (q : Int × Rd) (rest : List Value) (e : Ending) (w' : World) : Prop := e = .returned (.int .u64 q.1) ∧ PRd w' g T A n c q.2 rest ∧ Save g w w'
set_option maxHeartbeats 1000000 in
theorem rnumber_any (w : World) (g : Nat) (T : TypeId) (A : Option Addr) (n c : Nat) (xs : List Int) (r : Rd) (s : Nat) (rest : List Value) (hB : PRd w g T A n c r rest) (hx : Holds w w.heap.size A n c xs) (hp : r.p ≤ n) (hs : sizeOk (s : Int) = true) :
    Calls Tryd.prog 61 #[.pointer (some ⟨g, 0, none⟩), .int .i64 (s : Int)] w (PNumPost w g T A n c (rdN xs s r) rest) := by
  have hs8 : 1 ≤ s ∧ s ≤ 8 := by rcases sizeOk_cases hs with h | h | h | h <;> omega
  obtain ⟨hs1, hs8⟩ := hs8
  have C1 := part_any w g T A n c xs r s rest hB hx hp (by omega)
  unfold PPartPost at C1
  obtain ⟨e2, e1⟩ := rdPart_N (xs := xs) (r := r) hs
  have CG : Hid (∀ (w : World) (A : Option Addr) (m : Nat), Holds w w.heap.size A m m (rdPart xs s r).1 → ∃ er, Calls Tryd.prog 63 #[.slice A m m, .int .i64 0, .int .i64 (s : Int)] w fun e w' => e = .returned (.tuple #[.int .u64 (rdN xs s r).1, .int .i64 er]) ∧ w = w') := fun w A m hh => by
    have h1 := Get_any w w.heap.size A m m _ 0 (s : Int) hh (by omega) (by omega)
    rw [e1] at h1
    exact ⟨_, h1⟩
  have HQ : Hid (∀ e w', (e = .returned (.int .u64 (rdN xs s r).1) ∧ PRd w' g T A n c (rdN xs s r).2 rest ∧ Save g w w') → PNumPost w g T A n c (rdN xs s r) rest e w') := fun _ _ h => h
  rw [e2] at C1
  have HYB := Lib.hid (rdPart_bytes hx.byte s r)
  have hyl : (rdPart xs s r).1.length ≤ s := rdPart_len
  obtain ⟨ys, hys⟩ : ∃ ys, ys = (rdPart xs s r).1 := ⟨_, rfl⟩
  obtain ⟨z, hz⟩ : ∃ z, z = (rdN xs s r).1 := ⟨_, rfl⟩
  obtain ⟨r', hr'⟩ : ∃ z, z = (rdN xs s r).2 := ⟨_, rfl⟩
  rw [← hys] at C1 CG HYB hyl
  rw [← hz] at CG HQ
  rw [← hr'] at C1 HQ
  have C1' := Lib.hid C1
  clear C1 e2 e1 hB hx hys hz hr' hp
  go_enter Tryd.func61, Tryd.ntmps61
  go_wp2_with fail
  refine C1'.out.mono ?_
  rintro e w1 ⟨A', m, rfl, hm, hB1, hfr, hS, _⟩
  have HH := Lib.hid (hfr.holds hm.symm HYB.out (by omega))
  have HB1 := Lib.hid hB1
  have HS1 := Lib.hid hS
  obtain ⟨er, CG1⟩ := CG.out _ _ _ HH.out
  have CG2 := Lib.hid CG1
  clear hm hfr hB1 hS CG1 CG hyl
  go_wp2_with fail
  refine CG2.out.mono ?_
  rintro e w2 ⟨rfl, rfl⟩
  go_wp2
  go_ret
  exact HQ.out _ _ ⟨rfl, HB1.out, HS1.out⟩

/-- what 'noughts' leaves -/
def rdZ (xs : List Int) (m : Nat) (r : Rd) : Rd := if (rdPart xs m r).2.e = 0 then (if zeroOf (rdPart xs m r).1 0 (m : Int) = true then (rdPart xs m r).2 else ⟨(rdPart xs m r).2.p, 5⟩) else (rdPart xs m r).2
def PEndPost (w : World) (g : Nat) (T : TypeId) (A : Option Addr) (n c : Nat) (r : Rd) (rest : List Value) (e : Ending) (w' : World) : Prop := e = .returned (.tuple #[]) ∧ PRd w' g T A n c r rest ∧ Save g w w'
set_option maxHeartbeats 1000000 in
theorem noughts_any (w : World) (g : Nat) (T : TypeId) (A : Option Addr) (n c : Nat) (xs : List Int) (r : Rd) (m : Nat) (rest : List Value) (hB : PRd w g T A n c r rest) (hx : Holds w w.heap.size A n c xs) (hp : r.p ≤ n) (hm0 : m ≤ 65536) :
    Calls Tryd.prog 54 #[.pointer (some ⟨g, 0, none⟩), .int .i64 (m : Int)] w (PEndPost w g T A n c (rdZ xs m r) rest) := by
  have C1 := part_any w g T A n c xs r m rest hB hx hp hm0
  unfold PPartPost at C1
  have CZ : Hid (∀ (w : World) (A : Option Addr) (k : Nat), Holds w w.heap.size A k k (rdPart xs m r).1 → Calls Tryd.prog 72 #[.slice A k k, .int .i64 0, .int .i64 (m : Int)] w fun e w' => e = .returned (.bool (zeroOf (rdPart xs m r).1 0 (m : Int))) ∧ w = w') := fun w A k hh => Zero_any w _ A k k _ 0 (m : Int) hh (by omega) (by omega)
  have HYB := Lib.hid (rdPart_bytes hx.byte m r)
  have hyl : (rdPart xs m r).1.length ≤ m := rdPart_len
  have hQ : ∀ e w', (e = .returned (.tuple #[]) ∧ PRd w' g T A n c (if (rdPart xs m r).2.e = 0 then (if zeroOf (rdPart xs m r).1 0 (m : Int) = true then (rdPart xs m r).2 else ⟨(rdPart xs m r).2.p, 5⟩) else (rdPart xs m r).2) rest ∧ Save g w w') → PEndPost w g T A n c (rdZ xs m r) rest e w' := fun _ _ h => h
  obtain ⟨z, hz⟩ : ∃ z, z = zeroOf (rdPart xs m r).1 0 (m : Int) := ⟨_, rfl⟩
  rw [← hz] at CZ hQ
  obtain ⟨ys, hys⟩ : ∃ ys, ys = (rdPart xs m r).1 := ⟨_, rfl⟩
  rw [← hys] at C1 CZ HYB hyl
  obtain ⟨q, hq⟩ : ∃ q, q = (rdPart xs m r).2 := ⟨_, rfl⟩
  rw [← hq] at C1 hQ
  obtain ⟨p', e'⟩ := q
  have C1' := Lib.hid C1
  unfold PRd at C1' hQ
  clear C1 hB hx hys hz hp hq
  by_cases he : e' = 0
  · subst he
    cases z
    · have HQ : Hid (∀ e w', (e = .returned (.tuple #[]) ∧ Blk w' g T (.slice A n c :: .int .i64 (p' : Int) :: .int .i64 5 :: rest) ∧ Save g w w') → PEndPost w g T A n c (rdZ xs m r) rest e w') := by
        intro e w' hh
        refine hQ e w' ?_
        rw [if_pos rfl, if_neg (by decide)]
        exact hh
      clear hQ
      go_enter Tryd.func54, Tryd.ntmps54
      go_wp2_with fail
      refine C1'.out.mono ?_
      rintro e w1 ⟨A', k, rfl, hk, hB1, hfr, hS, _⟩
      have HH := Lib.hid (hfr.holds hk.symm HYB.out (by omega))
      have HB1 : Hid (Blk w1 g T (.slice A n c :: .int .i64 (p' : Int) :: .int .i64 0 :: rest)) := hB1
      have HS1 := Lib.hid hS
      have gd : w1.cell? ⟨g, 2, none⟩ = some (.int .i64 0) := HB1.out.at rfl
      have gf := Blk.frozen HB1.out 2
      have CZ1 := Lib.hid (CZ.out _ _ _ HH.out)
      clear hk hfr hB1 hS CZ hyl
      go_wp2_with fail
      refine CZ1.out.mono ?_
      rintro e w2 ⟨rfl, rfl⟩
      go_wp2
      go_end0
      exact HQ.out _ _ ⟨rfl, Blk.set HB1.out 2 _, HS1.out.setCell 2 _⟩
    · have HQ : Hid (∀ e w', (e = .returned (.tuple #[]) ∧ Blk w' g T (.slice A n c :: .int .i64 (p' : Int) :: .int .i64 0 :: rest) ∧ Save g w w') → PEndPost w g T A n c (rdZ xs m r) rest e w') := by
        intro e w' hh
        refine hQ e w' ?_
        rw [if_pos rfl, if_pos rfl]
        exact hh
      clear hQ
      go_enter Tryd.func54, Tryd.ntmps54
      go_wp2_with fail
      refine C1'.out.mono ?_
      rintro e w1 ⟨A', k, rfl, hk, hB1, hfr, hS, _⟩
      have HH := Lib.hid (hfr.holds hk.symm HYB.out (by omega))
      have HB1 : Hid (Blk w1 g T (.slice A n c :: .int .i64 (p' : Int) :: .int .i64 0 :: rest)) := hB1
      have HS1 := Lib.hid hS
      have gd : w1.cell? ⟨g, 2, none⟩ = some (.int .i64 0) := HB1.out.at rfl
      have CZ1 := Lib.hid (CZ.out _ _ _ HH.out)
      clear hk hfr hB1 hS CZ hyl
      go_wp2_with fail
      refine CZ1.out.mono ?_
      rintro e w2 ⟨rfl, rfl⟩
      go_wp2
      go_end0
      exact HQ.out _ _ ⟨rfl, HB1.out, HS1.out⟩
  · have HQ : Hid (∀ e w', (e = .returned (.tuple #[]) ∧ Blk w' g T (.slice A n c :: .int .i64 (p' : Int) :: .int .i64 e' :: rest) ∧ Save g w w') → PEndPost w g T A n c (rdZ xs m r) rest e w') := by
      intro e w' hh
      refine hQ e w' ?_
      rw [if_neg he]
      exact hh
    have hne : (e' == 0) = false := by simpa using he
    clear hQ CZ he
    go_enter Tryd.func54, Tryd.ntmps54
    go_wp2_with fail
    refine C1'.out.mono ?_
    rintro e w1 ⟨A', k, rfl, hk, hB1, hfr, hS, _⟩
    have HB1 : Hid (Blk w1 g T (.slice A n c :: .int .i64 (p' : Int) :: .int .i64 e' :: rest)) := hB1
    have HS1 := Lib.hid hS
    have gd : w1.cell? ⟨g, 2, none⟩ = some (.int .i64 e') := HB1.out.at rfl
    clear hk hfr hB1 hS hyl
    go_wp2
    go_end0
    exact HQ.out _ _ ⟨rfl, HB1.out, HS1.out⟩

set_option maxHeartbeats 1000000 in
theorem fill_any (w : World) (g : Nat) (T : TypeId) (A : Option Addr) (n c : Nat) (xs : List Int) (r : Rd) (o m kc : Nat) (rest : List Value) (hB : PRd w g T A n c r rest) (hx : Holds w w.heap.size A n c xs) (hp : r.p ≤ n) (hm0 : 0 < m) (hm1 : m ≤ 65536) (ho : o + m ≤ rest.length) :
    Calls Tryd.prog 52 #[.pointer (some ⟨g, 0, none⟩), .slice (some ⟨g, 3 + o, none⟩) m kc] w (PEndPost w g T A n c (rdPart xs m r).2 (spliced rest o (rdPart xs m r).1)) := by
  have C1 := part_any w g T A n c xs r m rest hB hx hp hm1
  unfold PPartPost at C1
  have HYB := Lib.hid (rdPart_bytes hx.byte m r)
  have hok := rdPart_ok (m := m) (r := r) hx.len
  have hbad := rdPart_bad (xs := xs) (m := m) (r := r)
  have hQ : ∀ e w', (e = .returned (.tuple #[]) ∧ PRd w' g T A n c (rdPart xs m r).2 (spliced rest o (rdPart xs m r).1) ∧ Save g w w') → PEndPost w g T A n c (rdPart xs m r).2 (spliced rest o (rdPart xs m r).1) e w' := fun _ _ h => h
  obtain ⟨ys, hys⟩ : ∃ ys, ys = (rdPart xs m r).1 := ⟨_, rfl⟩
  rw [← hys] at C1 HYB hok hbad hQ ⊢
  obtain ⟨q, hq⟩ : ∃ q, q = (rdPart xs m r).2 := ⟨_, rfl⟩
  rw [← hq] at C1 hQ hok hbad ⊢
  obtain ⟨p', e'⟩ := q
  have C1' := Lib.hid C1
  unfold PRd at C1' hQ
  have HQ := Lib.hid hQ
  clear C1 hB hx hys hp hq hQ
  by_cases he : e' = 0
  · have hyl := hok he
    have HSP : Hid (spliced (.slice A n c :: .int .i64 (p' : Int) :: .int .i64 e' :: rest) (3 + o) ys = .slice A n c :: .int .i64 (p' : Int) :: .int .i64 e' :: spliced rest o ys) := by
      show _ = _
      unfold spliced
      rw [show 3 + o = o + 1 + 1 + 1 from by omega, show o + 1 + 1 + 1 + ys.length = (o + ys.length) + 1 + 1 + 1 from by omega]
      rfl
    have HFIT : Hid (3 + o + m ≤ (Value.slice A n c :: Value.int .i64 (p' : Int) :: Value.int .i64 e' :: rest).length) := by
      show _ ≤ _
      simp only [List.length_cons]
      omega
    have HYL := Lib.hid hyl
    obtain ⟨cur, hcur⟩ : ∃ cur, cur = Value.slice A n c :: Value.int .i64 (p' : Int) :: Value.int .i64 e' :: rest := ⟨_, rfl⟩
    obtain ⟨nxt, hnxt⟩ : ∃ nxt, nxt = spliced rest o ys := ⟨_, rfl⟩
    have HC : Hid (cur = Value.slice A n c :: Value.int .i64 (p' : Int) :: Value.int .i64 e' :: rest) := hcur
    rw [← hcur] at HSP HFIT
    rw [← hnxt] at HSP HQ ⊢
    clear hcur hnxt hok hbad hyl he
    go_enter Tryd.func52, Tryd.ntmps52
    go_wp2_with fail
    refine C1'.out.mono ?_
    rintro e w1 ⟨A', k, rfl, hk, hB1, hfr, hS, _⟩
    obtain rfl : k = m := by rw [hk]; exact HYL.out
    have HH := Lib.hid (hfr.holds HYL.out HYB.out (by omega))
    have HB1 : Hid (Blk w1 g T cur) := by rw [HC.out]; exact hB1
    have HS1 := Lib.hid hS
    clear hk hfr hB1 hS
    go_wp2_with (first
      | ((with_reducible show wpList _ _ _ (⟨some 9, _, _, _, _, _⟩ :: _) _ _); refine wpList_copy_mid rfl (.tmp 4) (.tmp 8) rfl g (3 + o) T k kc k k A' rfl rfl cur ys _ HB1 HH.out hm0 (Nat.le_refl _) HFIT ?_; intro w2 X2 O2)
      | fail)
    go_end0
    refine HQ.out _ _ ⟨rfl, ?_, HS1.out.trans (Save.of_only O2.out)⟩
    rw [← HSP.out]
    exact X2.out
  · have hyn := hbad he
    have HQ2 : Hid (∀ e w', (e = .returned (.tuple #[]) ∧ Blk w' g T (.slice A n c :: .int .i64 (p' : Int) :: .int .i64 e' :: rest) ∧ Save g w w') → PEndPost w g T A n c ⟨p', e'⟩ (spliced rest o ys) e w') := by
      intro e w' hh
      have e1 : spliced rest o ys = rest := by rw [hyn]; unfold spliced; simp
      rw [e1] at HQ ⊢
      exact HQ.out e w' hh
    have HE := Lib.hid he
    clear HQ hok hbad hyn he
    go_enter Tryd.func52, Tryd.ntmps52
    go_wp2_with fail
    refine C1'.out.mono ?_
    rintro e w1 ⟨A', k, rfl, hk, hB1, hfr, hS, hz⟩
    obtain ⟨rfl, rfl⟩ := hz HE.out
    have HB1 : Hid (Blk w1 g T (.slice A n c :: .int .i64 (p' : Int) :: .int .i64 e' :: rest)) := hB1
    have HS1 := Lib.hid hS
    clear hk hfr hB1 hS hz
    go_wp2_with (first
      | ((with_reducible show wpList _ _ _ (⟨some 9, _, _, _, _, _⟩ :: _) _ _); refine wpList_copy_nothing rfl (.tmp 4) (.tmp 8) 29 29 rfl 5 Tryd.underlying29 (by kernel_rfl) (some ⟨g, 3 + o, none⟩) none m kc 0 0 rfl rfl (Nat.zero_min _) ?_)
      | fail)
    go_end0
    exact HQ2.out _ _ ⟨rfl, HB1.out, HS1.out⟩

set_option maxHeartbeats 1000000 in
theorem rend_any (w : World) (g : Nat) (T : TypeId) (A : Option Addr) (n c : Nat) (xs : List Int) (r : Rd) (rest : List Value) (hB : PRd w g T A n c r rest) (hl : xs.length = n) (hn : n ≤ 281474976710656) (hp : r.p ≤ n) :
    Calls Tryd.prog 55 #[.pointer (some ⟨g, 0, none⟩)] w fun e w' => e = .returned (.int .i64 (rdEnd xs r)) ∧ ∃ k, w.drewN k = w' := by
  obtain ⟨p, er⟩ := r
  change p ≤ n at hp
  have c0 : w.cell? ⟨g, 0, none⟩ = some (.slice A n c) := Blk.at hB rfl
  have c1 : w.cell? ⟨g, 1, none⟩ = some (.int .i64 (p : Int)) := Blk.at hB rfl
  have c2 : w.cell? ⟨g, 2, none⟩ = some (.int .i64 er) := Blk.at hB rfl
  have hR : rdEnd xs ⟨p, er⟩ = if er = 0 ∧ p ≠ n then 5 else er := by unfold rdEnd; rw [hl]
  rw [hR]
  clear hB hR
  by_cases he : er = 0
  · subst he
    by_cases hpn : p = n
    · rw [if_neg (fun h => h.2 hpn)]
      have hb : decide (p < n) = false := by rw [hpn]; simp
      have hb2 : ¬ p < n := by omega
      clear hpn
      go_enter Tryd.func55, Tryd.ntmps55
      go_wp2
      go_quiet (fail)
      go_wp2
      go_ret
      exact ⟨rfl, _, rfl⟩
    · rw [if_pos ⟨rfl, hpn⟩]
      have hb2 : p < n := by omega
      have hb : decide (p < n) = true := by rw [decide_eq_true_iff]; omega
      clear hpn
      go_enter Tryd.func55, Tryd.ntmps55
      go_wp2
      go_quiet (fail)
      go_wp2
      go_ret
      exact ⟨rfl, _, rfl⟩
  · rw [if_neg (fun h => he h.1)]
    have hb : (er == 0) = false := by simpa using he
    clear he
    go_enter Tryd.func55, Tryd.ntmps55
    go_wp2
    go_quiet (fail)
    go_wp2
    go_ret
    exact ⟨rfl, _, rfl⟩

/-- what 'text' takes -/
def prdText (xs : List Int) (r : Rd) : List UInt8 × Rd := if r.e = 0 then (gtextOf xs r.p, ⟨(gtextNext xs r.p).toNat, gtextErr xs r.p⟩) else ([], r)
theorem gtextNext_nonneg {xs : List Int} (hx : Bytes xs) (a : Int) (ha : 0 ≤ a) : 0 ≤ gtextNext xs a ∧ gtextNext xs a ≤ xs.length := by
  unfold gtextNext
  split
  · rename_i h
    unfold growNext
    split
    · rename_i h2
      have := growErr_room h2
      have := rowN_bounds xs hx a
      omega
    · omega
  · omega
def PTextRPost (w : World) (g : Nat) (T : TypeId) (A : Option Addr) (n c : Nat) (q : List UInt8 × Rd) (rest : List Value) (e : Ending) (w' : World) : Prop := e = .returned (.string ⟨q.1.toArray⟩) ∧ PRd w' g T A n c q.2 rest ∧ Save g w w'
set_option maxHeartbeats 1000000 in
theorem rtext_any (w : World) (g : Nat) (T : TypeId) (A : Option Addr) (n c : Nat) (xs : List Int) (r : Rd) (rest : List Value) (hB : PRd w g T A n c r rest) (hx : Holds w w.heap.size A n c xs) (hp : r.p ≤ n) :
    Calls Tryd.prog 53 #[.pointer (some ⟨g, 0, none⟩)] w (PTextRPost w g T A n c (prdText xs r) rest) := by
  obtain ⟨p, er⟩ := r
  change p ≤ n at hp
  have hl := hx.len
  have hrm := hx.room
  have hft := hx.fit
  have hlt := hB.lt
  have HR0 : Hid (Blk w g T (.slice A n c :: .int .i64 (p : Int) :: .int .i64 er :: rest)) := hB
  have c2 : w.cell? ⟨g, 2, none⟩ = some (.int .i64 er) := Blk.at hB rfl
  by_cases he : er = 0
  rotate_left
  · have HQ : Hid (∀ e w', (e = .returned (.string .empty) ∧ Blk w' g T (.slice A n c :: .int .i64 (p : Int) :: .int .i64 er :: rest) ∧ Save g w w') → PTextRPost w g T A n c (prdText xs ⟨p, er⟩) rest e w') := by
      intro e w' hh
      unfold prdText
      rw [if_neg he]
      exact hh
    have hne : (er != 0) = true := by simpa using he
    clear hB hx hl he
    go_enter Tryd.func53, Tryd.ntmps53
    go_wp2
    go_ret
    exact HQ.out _ _ ⟨rfl, HR0.out, Save.refl g w⟩
  subst he
  obtain ⟨hg0, hg1⟩ := gtextNext_nonneg hx.byte (p : Int) (by omega)
  have C1' : Hid (∀ k, Calls Tryd.prog 33 #[.slice A n c, .int .i64 (p : Int)] (w.drewN k) fun e w' => e = .returned (.tuple #[.string ⟨(gtextOf xs (p : Int)).toArray⟩, .int .i64 (gtextNext xs (p : Int)), .int .i64 (gtextErr xs (p : Int))]) ∧ Below (w.drewN k).heap.size (w.drewN k) w') := fun k => GetText_any (w.drewN k) A n c xs (p : Int) (hx.drewN k) (by omega)
  have HQ : Hid (∀ e w', (e = .returned (.string ⟨(gtextOf xs (p : Int)).toArray⟩) ∧ Blk w' g T (.slice A n c :: .int .i64 (gtextNext xs (p : Int)) :: .int .i64 (gtextErr xs (p : Int)) :: rest) ∧ Save g w w') → PTextRPost w g T A n c (prdText xs ⟨p, 0⟩) rest e w') := by
    intro e w' hh
    unfold prdText
    rw [if_pos rfl]
    unfold PTextRPost PRd
    show _ ∧ Blk w' g T (.slice A n c :: .int .i64 (((gtextNext xs (p : Int)).toNat : Nat) : Int) :: _) ∧ _
    rw [Int.toNat_of_nonneg hg0]
    exact hh
  obtain ⟨tx, htx⟩ : ∃ z, z = gtextOf xs (p : Int) := ⟨_, rfl⟩
  obtain ⟨nx, hnx⟩ : ∃ z, z = gtextNext xs (p : Int) := ⟨_, rfl⟩
  obtain ⟨ex, hex⟩ : ∃ z, z = gtextErr xs (p : Int) := ⟨_, rfl⟩
  rw [← htx, ← hnx, ← hex] at C1' HQ
  rw [← hnx] at hg0 hg1
  clear hB hx hl htx hnx hex
  go_enter Tryd.func53, Tryd.ntmps53
  go_upto_region 3 with fail
  refine wp_region_held (S := fun w' => Blk w' g T (.slice A n c :: .int .i64 (p : Int) :: .int .i64 0 :: rest)) (by kernel_rfl) ?_
  change wpAnyH _ _ _ _ _ _ _ _ w.drew
  have S0 : Hid (Blk w.drew g T (.slice A n c :: .int .i64 (p : Int) :: .int .i64 0 :: rest)) := HR0.out.drew
  have b0 : Hid (Below w.heap.size w w.drew) := (drewed w 1)
  refine wpAnyH_take (i := 0) (v := _) rfl (by kernel_rfl) (by kernel_rfl) (by kernel_rfl) (fun _ _ _ h => h) (yieldsIf_move (by kernel_rfl) (.tmp 0) rfl (.pointer (some ⟨g, 0, none⟩)) (by kernel_rfl)) S0.out ?_
  refine wpAnyH_take (i := 1) (v := _) rfl (by kernel_rfl) (by kernel_rfl) (by kernel_rfl) (fun _ _ _ h => h) (yieldsIf_nil (by kernel_rfl) (.tmp 12) rfl ⟨g, 0, none⟩ (by kernel_rfl)) S0.out ?_
  refine wpAnyH_take (i := 2) (v := _) rfl (by kernel_rfl) (by kernel_rfl) (by kernel_rfl) (fun _ _ _ h => h) (yieldsIf_fld (by kernel_rfl) _ (.tmp 13) 0 rfl (.pointer (some ⟨g, 0, none⟩)) (.pointer (some ⟨g, 0, none⟩)) (by kernel_rfl) (fld_tr0 g)) S0.out ?_
  refine wpAnyH_take (i := 3) (v := _) rfl (by kernel_rfl) (by kernel_rfl) (by kernel_rfl) (fun _ _ _ h => h) (yieldsIf_load_one (by kernel_rfl) _ (.tmp 14) rfl g 0 (by kernel_rfl) (.slice A n c) (fun w h => h.at rfl) _ Tryd.underlying29 rfl) S0.out ?_
  refine wpAnyH_take (i := 4) (v := _) rfl (by kernel_rfl) (by kernel_rfl) (by kernel_rfl) (fun _ _ _ h => h) (yieldsIf_move (by kernel_rfl) (.tmp 0) rfl (.pointer (some ⟨g, 0, none⟩)) (by kernel_rfl)) S0.out ?_
  refine wpAnyH_take (i := 5) (v := _) rfl (by kernel_rfl) (by kernel_rfl) (by kernel_rfl) (fun _ _ _ h => h) (yieldsIf_nil (by kernel_rfl) (.tmp 16) rfl ⟨g, 0, none⟩ (by kernel_rfl)) S0.out ?_
  refine wpAnyH_take (i := 6) (v := _) rfl (by kernel_rfl) (by kernel_rfl) (by kernel_rfl) (fun _ _ _ h => h) (yieldsIf_fld (by kernel_rfl) _ (.tmp 17) 1 rfl (.pointer (some ⟨g, 0, none⟩)) (.pointer (some ⟨g, 1, none⟩)) (by kernel_rfl) (fld_tr1 g)) S0.out ?_
  refine wpAnyH_take (i := 7) (v := _) rfl (by kernel_rfl) (by kernel_rfl) (by kernel_rfl) (fun _ _ _ h => h) (yieldsIf_load_one (by kernel_rfl) _ (.tmp 18) rfl g 1 (by kernel_rfl) (.int .i64 (p : Int)) (fun w h => h.at rfl) _ Tryd.underlying3 rfl) S0.out ?_
  refine wpAnyH_one 8 _ (by kernel_rfl) rfl fun K hK => ?_
  go_simp
  refine (C1'.out 1).mono ?_
  rintro e v1 ⟨rfl, L1⟩
  have S1 : Hid (Blk v1 g T (.slice A n c :: .int .i64 (p : Int) :: .int .i64 0 :: rest)) := S0.out.over L1
  have b1 : Hid (Below w.heap.size w v1) := step b0.out L1
  refine hK _ _ S1.out ?_
  clear hK K L1
  refine wpAnyH_take (i := 9) (v := (.tuple #[.string ⟨tx.toArray⟩, .int .i64 nx, .int .i64 ex])) rfl (by kernel_rfl) (by kernel_rfl) (by kernel_rfl) (fun _ _ _ h => h) (.inl ⟨by kernel_rfl, fun w _ => by go_simp⟩) S1.out ?_
  refine wpAnyH_take (i := 10) (v := (.string ⟨tx.toArray⟩)) rfl (by kernel_rfl) (by kernel_rfl) (by kernel_rfl) (fun _ _ _ h => h) (.inl ⟨by kernel_rfl, fun w _ => by go_simp⟩) S1.out ?_
  refine wpAnyH_take (i := 11) (v := (.int .i64 nx)) rfl (by kernel_rfl) (by kernel_rfl) (by kernel_rfl) (fun _ _ _ h => h) (.inl ⟨by kernel_rfl, fun w _ => by go_simp⟩) S1.out ?_
  refine wpAnyH_take (i := 12) (v := (.int .i64 ex)) rfl (by kernel_rfl) (by kernel_rfl) (by kernel_rfl) (fun _ _ _ h => h) (.inl ⟨by kernel_rfl, fun w _ => by go_simp⟩) S1.out ?_
  refine wpAnyH_take (i := 13) (v := (.string ⟨tx.toArray⟩)) rfl (by kernel_rfl) (by kernel_rfl) (by kernel_rfl) (fun _ _ _ h => h) (.inl ⟨by kernel_rfl, fun w _ => by go_simp⟩) S1.out ?_
  refine wpAnyH_take (i := 14) (v := (.int .i64 nx)) rfl (by kernel_rfl) (by kernel_rfl) (by kernel_rfl) (fun _ _ _ h => h) (.inl ⟨by kernel_rfl, fun w _ => by go_simp⟩) S1.out ?_
  refine wpAnyH_take (i := 15) (v := (.int .i64 ex)) rfl (by kernel_rfl) (by kernel_rfl) (by kernel_rfl) (fun _ _ _ h => h) (.inl ⟨by kernel_rfl, fun w _ => by go_simp⟩) S1.out ?_
  refine wpAnyH_done (by kernel_rfl) ?_ _
  have gd1 : v1.cell? ⟨g, 1, none⟩ = some (.int .i64 (p : Int)) := S1.out.at rfl
  have gd2 : v1.cell? ⟨g, 2, none⟩ = some (.int .i64 0) := S1.out.at rfl
  have gf1 := Blk.frozen S1.out 1
  have gf2 := Blk.frozen S1.out 2
  have gf3 : (v1.setCell ⟨g, 1, none⟩ (.int .i64 nx)).frozen? ⟨g, 2, none⟩ = false := Blk.frozen (Blk.set S1.out 1 _) 2
  have S1' := Lib.hid S1.out
  go_wp2
  go_ret
  exact HQ.out _ _ ⟨rfl, Blk.set (Blk.set S1'.out 1 _) 2 _, ((Save.of_below b1.out g).setCell 1 _).setCell 2 _⟩
end Go.Proofs.YtepkamkgodbffaaDoor

/-
  A region that draws its order, walked by hand under a condition S on the world that holds UP TO operation k alone ('wpAnyK'): what is loaded may be taken first though operation k, which waits for it, writes its cell. The kit's 'wpAnyH' and its laws (Derived/OrdersHeld), with 'as long as k has not come up' ahead of 'S'. No function of the program is named here.
-/
namespace Go.Proofs.YtepkamkgodbffaaDoor
open Go.RowKit

section
variable {P : Program} {ops : Array Oper} {md : Region.Mode} {S : World → Prop} {Q : Exit → Act → World → Prop} {k : Nat}

def wpAnyK (P : Program) (md : Region.Mode) (ops : Array Oper) (Q : Exit → Act → World → Prop) (S : World → Prop) (k : Nat) : Nat → Array Bool → Act → World → Prop
  | 0, listed, a, w => Region.ready md ops listed = [] ∧ Q .normal a w
  | fuel + 1, listed, a, w =>
    (Region.ready md ops listed = [] → Q .normal a w) ∧
    ∀ i ∈ Region.ready md ops listed, wpOp P ops Q i (fun a' w' => ((listed.setIfInBounds i true).getD k false = false → S w') ∧ wpAnyK P md ops Q S k fuel (listed.setIfInBounds i true) a' w') a w

theorem wpAny_of_K : ∀ (fuel : Nat) (listed : Array Bool) (a : Act) (w : World), wpAnyK P md ops Q S k fuel listed a w → wpAny P md ops Q fuel listed a w
  | 0, _, _, _, h => h
  | fuel + 1, _, _, _, h => ⟨h.1, fun i hi => wpOp_mono (fun a' w' h' => wpAny_of_K fuel _ a' w' h'.2) (h.2 i hi)⟩

theorem wpAnyK_first {i : Nat} {oi ok : Oper} {v : Value} (hi : ops[i]? = some oi) (hsel : ∀ (j : Nat) (o : Oper) cs b, ops[j]? = some o → o.op ≠ .select cs b)
    (hQ : ∀ c a w, Q (.panic c) (a.put oi.dst v) w → Q (.panic c) a w) (hk : ops[k]? = some ok) (hke : ok.after.any (fun e => Region.binds md e && e.on == i) = true) :
    ∀ (fuel : Nat) (listed : Array Bool) (a : Act) (w : World),
      (∀ j oj, ops[j]? = some oj → j ≠ i → listed.getD j true = false → (∀ e ∈ oj.after, Region.binds md e = true → e.on ≠ i) → oi.apart ops oj = true) →
      i ∈ Region.ready md ops listed → YieldsIf P ops S oi v a → S w → listed.getD k false = false → i ≠ k →
      wpAnyK P md ops Q S k fuel (listed.setIfInBounds i true) (a.put oi.dst v) w → wpAnyK P md ops Q S k (fuel + 1) listed a w := by
  intro fuel
  induction fuel with
  | zero =>
    intro listed a w _ hr hy hS _ _ H
    refine ⟨fun h => (by rw [h] at hr; cases hr), fun j hj => ?_⟩
    by_cases hji : j = i
    · subst hji; exact hy.wpOp hi hS ⟨fun _ => hS, H⟩
    · have := ready_mono hj hji
      rw [H.1] at this
      cases this
  | succ fuel ih =>
    intro listed a w hfree hr hy hS hkl hik H
    refine ⟨fun h => (by rw [h] at hr; cases hr), fun j hj => ?_⟩
    by_cases hji : j = i
    · subst hji; exact hy.wpOp hi hS ⟨fun _ => hS, H⟩
    · have h1 := H.2 j (ready_mono hj hji)
      obtain ⟨hjun, oj, hoj, hall⟩ := mem_ready.1 hj
      have hnot : ∀ e ∈ oj.after, Region.binds md e = true → e.on ≠ i := fun e he hb heq => by
        have h1 := hall e he hb
        have h0 := (mem_ready.1 hr).1
        rw [heq] at h1
        rcases Nat.lt_or_ge i listed.size with h' | h'
        · simp [h'] at h0 h1; rw [h0] at h1; cases h1
        · simp [Array.getElem?_eq_none h'] at h1
      have hjk : j ≠ k := by
        rintro rfl
        rw [hk] at hoj
        injection hoj with hoj
        subst hoj
        obtain ⟨e, he, hb⟩ := Array.any_eq_true'.1 hke
        simp only [Bool.and_eq_true, beq_iff_eq] at hb
        exact hnot e he hb.1 hb.2
      have h2 := wpOp_putIf hoj (hfree j oj hoj hji hjun hnot) (fun cs b => hsel i oi cs b hi) (fun cs b => hsel j oj cs b hoj) hQ hy h1
      have hfree' : ∀ k ok, ops[k]? = some ok → k ≠ i → (listed.setIfInBounds j true).getD k true = false →
          (∀ e ∈ ok.after, Region.binds md e = true → e.on ≠ i) → oi.apart ops ok = true := fun k ok hk hki hun hno => by
        refine hfree k ok hk hki ?_ hno
        by_cases hjk : j = k
        · subst hjk; exact hjun
        · rw [getD_set_ne true hjk] at hun; exact hun
      refine wpOp_mono (fun a' w' h3 => ?_) h2
      have hSw : S w' := h3.2.1 (by rw [getD_set_ne false hjk, getD_set_ne false hik]; exact hkl)
      refine ⟨fun _ => hSw, ih (listed.setIfInBounds j true) a' w' hfree' (ready_mono hr (Ne.symm hji)) h3.1 hSw (by rw [getD_set_ne false hjk]; exact hkl) hik ?_⟩
      rw [Array.setIfInBounds_comm _ _ hji]
      exact h3.2.2

theorem wpAnyK_take {i : Nat} {oi ok : Oper} {v : Value} {fuel : Nat} {listed : Array Bool} {a : Act} {w : World} (hi : ops[i]? = some oi)
    (hs : Region.noSelect ops = true) (hf : Region.free md ops listed i = true) (hr : (Region.ready md ops listed).contains i = true)
    (hQ : ∀ c a w, Q (.panic c) (a.put oi.dst v) w → Q (.panic c) a w) (hk : ops[k]? = some ok) (hke : ok.after.any (fun e => Region.binds md e && e.on == i) = true) (hkl : listed.getD k false = false) (hik : i ≠ k)
    (hy : YieldsIf P ops S oi v a) (hS : S w)
    (h : wpAnyK P md ops Q S k fuel (listed.setIfInBounds i true) (a.put oi.dst v) w) : wpAnyK P md ops Q S k (fuel + 1) listed a w :=
  wpAnyK_first hi (Region.noSelect_spec hs) hQ hk hke fuel listed a w (Region.free_spec hi hf) (by simpa using hr) hy hS hkl hik h

theorem wpAnyK_one (i : Nat) (oi : Oper) {fuel : Nat} {listed : Array Bool} {a : Act} {w : World} (hr : Region.ready md ops listed = [i]) (hi : ops[i]? = some oi)
    (h : ∀ K : Act → World → Prop, (∀ a' w', ((listed.setIfInBounds i true).getD k false = false → S w') → wpAnyK P md ops Q S k fuel (listed.setIfInBounds i true) a' w' → K a' w') → if Region.wanted oi (yielded ops a.tmps) = true then oi.wp P a w K Q else K (a.put oi.dst undef) w) : wpAnyK P md ops Q S k (fuel + 1) listed a w := by
  refine ⟨fun h0 => (by rw [h0] at hr; cases hr), fun j hj => ?_⟩
  rw [hr] at hj
  obtain rfl : j = i := by simpa using hj
  have h1 := h (fun a' w' => ((listed.setIfInBounds j true).getD k false = false → S w') ∧ wpAnyK P md ops Q S k fuel (listed.setIfInBounds j true) a' w') fun _ _ h2 h3 => ⟨h2, h3⟩
  unfold wpOp
  simp only [hi]
  by_cases hw : Region.wanted oi (yielded ops a.tmps) = true
  · rw [if_pos hw] at h1 ⊢
    exact .inl h1
  · rw [if_neg hw] at h1 ⊢
    exact h1

theorem wpAnyK_done {listed : Array Bool} {a : Act} {w : World} (hr : Region.ready md ops listed = []) (h : Q .normal a w) :
    ∀ fuel, wpAnyK P md ops Q S k fuel listed a w
  | 0 => ⟨hr, h⟩
  | _ + 1 => ⟨fun _ => h, by rw [hr]; simp⟩

theorem wpAnyK_frame {fuel : Nat} {listed : Array Bool} {a : Act} {w : World} (h : ∀ a', a' = a → wpAnyK P md ops Q S k fuel listed a' w) : wpAnyK P md ops Q S k fuel listed a w := h a rfl

theorem wp_region_heldK {id : Nat} {a : Act} {w : World} (k : Nat) (S : World → Prop) (hm : P.follows .mixedOrders = true)
    (h : wpAnyK P .any ops Q S k ops.size (Array.replicate ops.size false) a { w with drawn := w.drawn + 1 }) : (Code.region id ops true).wp P Q a w :=
  wp_region_any hm (wpAny_of_K _ _ _ _ h)
end
end Go.Proofs.YtepkamkgodbffaaDoor

/-
  Contract of the program's takeDialects (talk.asked), a list of numbers taken off bytes (one region written by tools/gen_talkc.py).
-/
namespace Go.Proofs.YtepkamkgodbffaaDoor
open Go.RowKit
set_option linter.unusedVariables false
set_option maxRecDepth 100000

theorem fld_as0 (g : Nat) (w : World) : (Instr.fieldAt 86 (.pointer (some ⟨g, 0, none⟩)) 0).run Tryd.prog w = .ok (.pointer (some ⟨g, 0, none⟩)) w := by go_simp
theorem fld_as1 (g : Nat) (w : World) : (Instr.fieldAt 86 (.pointer (some ⟨g, 0, none⟩)) 1).run Tryd.prog w = .ok (.pointer (some ⟨g, 3, none⟩)) w := by go_simp
theorem fld_as10 (g : Nat) (w : World) : (Instr.fieldAt 32 (.pointer (some ⟨g, 3, none⟩)) 0).run Tryd.prog w = .ok (.pointer (some ⟨g, 3, none⟩)) w := by go_simp
theorem info_u16 : (Tryd.prog.info? 22).map (fun i => (i.zero, i.size, i.bytes)) = some (some (.int .u16 0), 1, 2) := by kernel_rfl

/-- append of a row that stands in a block, onto a row of one's own, as a step of a region that draws its order -/
theorem step_append_row {P : Program} {ops : Array Oper} {o : Oper} {a : Act} {w : World} {K : Act → World → Prop} {Q : Exit → Act → World → Prop} {E : Prop} (hgd : o.guard = none) (s x : Operand) (k : IntKind) (T e : TypeId) (bytes : Nat)
    (ht : P.underlying T = some (.slice e)) (hi : (P.info? e).map (fun i => (i.zero, i.size, i.bytes)) = some (some (.int k 0), 1, bytes))
    (ho : o.op = .call { callee := .builtin .append, args := #[s, x], argTypes := #[T, T] })
    (base : Nat) (v : Value) (xs ys : List Int) (g2 m c : Nat) (hm : ys.length = m) (hs : a.eval s = v) (hx : a.eval x = .slice (some ⟨g2, 0, none⟩) m c)
    (hown : OwnK k e w base v xs) (hY : Hid (Blk w g2 e (ys.map (Value.int k)))) (hlen : (xs.length + m) * bytes ≤ 140737488355328) (h63 : xs.length + m ≤ 9223372036854775807) (hbase : base ≤ w.heap.size)
    (h : ∀ v' w', Hid (OwnK k e w' base v' (xs ++ ys)) → Hid (Below base w w') → K (a.put o.dst v') w') :
    if Region.wanted o (yielded ops a.tmps) = true then Oper.wp P o a w K Q else E := by
  have hw : Region.wanted o (yielded ops a.tmps) = true := by simp [Region.wanted, hgd]
  rw [if_pos hw]
  obtain ⟨i0, hi0, hz0, hz1, hz2⟩ := info_parts hi
  have hr := hY.out
  refine wp_append_own _ s x T ho base e i0 (.int k 0) 1 bytes ht hi0 hz0 hz1 hz2 rfl (by omega) v xs.length (xs.map (Value.int k)) hs hown ⟨g2, 0, none⟩ m c (ys.map (Value.int k)) hx (by simp [hm]) ?_
    (by intro v hv; obtain ⟨x, _, rfl⟩ := List.mem_map.1 hv; rfl) (by unfold maxLen; omega) hlen hbase ?_
  · intro j y hj
    have e1 : (⟨g2, 0, none⟩ : Addr).add j = ⟨g2, j, none⟩ := by
      by_cases hj0 : j = 0
      · subst hj0; simp [Addr.add]
      · simp [Addr.add, hj0]
    rw [e1, hr.cell j, ← hj]
  · intro v' w' hown' hgr _
    refine h v' w' ?_ ((Below.refl base w).grown hgr hbase fun i hi => (hown.block hi).1)
    show World.ownsRow _ _ _ _ _ _ _
    rw [List.length_append, List.map_append, hm]
    exact hown'

theorem Save.thenBelow {g : Nat} {w w' w2 : World} (a : Save g w w') (b : Below w.heap.size w' w2) : Save g w w2 :=
  ⟨b.os.trans a.os, b.tape.trans a.tape, b.output.trans a.output, Nat.le_trans a.size b.size, fun j hj hg => (b.block j hj).trans (a.rest j hj hg)⟩

/-- k numbers of two bytes, taken one behind the other: as a loop that never ends early -/
def rdNums (xs : List Int) (r : Rd) : Nat → List Int × Rd
  | 0 => ([], r)
  | k + 1 => ((rdNums xs r k).1 ++ [(rdN xs 2 (rdNums xs r k).2).1], (rdN xs 2 (rdNums xs r k).2).2)
/-- .. and as one that ends with the first error -/
def rdDials (xs : List Int) (r : Rd) : Nat → List Int × Rd
  | 0 => ([], r)
  | k + 1 => if (rdDials xs r k).2.e = 0 then ((rdDials xs r k).1 ++ [(rdN xs 2 (rdDials xs r k).2).1], (rdN xs 2 (rdDials xs r k).2).2) else rdDials xs r k
theorem rdN_bad {xs : List Int} {s : Nat} {r : Rd} (h : ¬ r.e = 0) : rdN xs s r = (0, r) := by unfold rdN; rw [if_neg h]
theorem rdNums_dials (xs : List Int) (r : Rd) (k : Nat) : (rdNums xs r k).2 = (rdDials xs r k).2 ∧ ((rdDials xs r k).2.e = 0 → (rdNums xs r k).1 = (rdDials xs r k).1) := by
  induction k with
  | zero => exact ⟨rfl, fun _ => rfl⟩
  | succ k ih =>
    obtain ⟨h1, h2⟩ := ih
    simp only [rdNums, rdDials]
    by_cases h : (rdDials xs r k).2.e = 0
    · rw [if_pos h, h1]
      exact ⟨rfl, fun _ => by rw [h2 h]⟩
    · rw [if_neg h, h1, rdN_bad h]
      exact ⟨rfl, fun he => absurd he h⟩
theorem rdN_place {xs : List Int} {s n : Nat} {r : Rd} (hl : xs.length = n) (h : r.p ≤ n) : (rdN xs s r).2.p ≤ n := by
  unfold rdN
  split
  · split
    · exact h
    · show r.p + s ≤ n; omega
  · exact h
theorem rdN_bounds {xs : List Int} (hx : Bytes xs) (r : Rd) : 0 ≤ (rdN xs 2 r).1 ∧ (rdN xs 2 r).1 ≤ 65535 := by
  unfold rdN
  split
  · split
    · exact ⟨Int.le_refl 0, by show (0 : Int) ≤ 65535; decide⟩
    · have := numAt_bounds xs hx r.p 2 65536 (by decide)
      exact ⟨this.1, by show numAt xs r.p 2 ≤ 65535; omega⟩
  · exact ⟨Int.le_refl 0, by show (0 : Int) ≤ 65535; decide⟩
theorem rdNums_place {xs : List Int} {n : Nat} {r : Rd} (hl : xs.length = n) (h : r.p ≤ n) (k : Nat) : (rdNums xs r k).2.p ≤ n := by
  induction k with
  | zero => exact h
  | succ k ih => exact rdN_place hl ih
theorem rdNums_len {xs : List Int} {r : Rd} (k : Nat) : (rdNums xs r k).1.length = k := by
  induction k with
  | zero => rfl
  | succ k ih => simp [rdNums, ih]
/-- what takeDialects leaves -/
def rdTake (xs : List Int) (r : Rd) : List Int × Rd := if 16 < (rdN xs 2 r).1 then ([], ⟨(rdN xs 2 r).2.p, 3⟩) else rdNums xs (rdN xs 2 r).2 (rdN xs 2 r).1.toNat
def PTakePost (w : World) (g : Nat) (T : TypeId) (A : Option Addr) (n c : Nat) (q : List Int × Rd) (tail : List Value) (e : Ending) (w' : World) : Prop :=
  e = .returned (.tuple #[]) ∧ ∃ v, PRd w' g T A n c q.2 (v :: tail) ∧ OwnK .u16 22 w' w.heap.size v q.1 ∧ Save g w w'

set_option maxHeartbeats 2000000 in
theorem take_any (w : World) (g B : Nat) (T : TypeId) (A : Option Addr) (n c : Nat) (xs : List Int) (r : Rd) (tail : List Value) (hB : PRd w g T A n c r (.slice none 0 0 :: tail)) (hx : Holds w B A n c xs) (hg : B ≤ g) (hp : r.p ≤ n) :
    Calls Tryd.prog 51 #[.pointer (some ⟨g, 0, none⟩)] w (PTakePost w g T A n c (rdTake xs r) tail) := by
  have hlt := hB.lt
  have hBs : B ≤ w.heap.size := by have : g < w.heap.size := hlt; omega
  have C1 := rnumber_any w g T A n c xs r 2 (.slice none 0 0 :: tail) hB (hx.mono hBs) hp (by decide)
  unfold PNumPost at C1
  have hbd := rdN_bounds hx.byte r
  have hpl := rdN_place (s := 2) (r := r) hx.len hp
  obtain ⟨hb0, hb1⟩ := hbd
  have hl := hx.len
  have HX0 := Lib.hid hx
  by_cases h16 : 16 < (rdN xs 2 r).1
  · have HQ : Hid (∀ e w', (e = .returned (.tuple #[]) ∧ Blk w' g T (.slice A n c :: .int .i64 (rdN xs 2 r).2.p :: .int .i64 3 :: .slice none 0 0 :: tail) ∧ Save g w w') → PTakePost w g T A n c (rdTake xs r) tail e w') := by
      rintro e w' ⟨h1, h2, h3⟩
      unfold rdTake
      rw [if_pos h16]
      exact ⟨h1, _, h2, OwnK.nil _ _ _ _, h3⟩
    obtain ⟨z, hz⟩ : ∃ z, z = (rdN xs 2 r).1 := ⟨_, rfl⟩
    obtain ⟨q, hq⟩ : ∃ q, q = (rdN xs 2 r).2 := ⟨_, rfl⟩
    rw [← hz] at C1 hb0 hb1 h16
    rw [← hq] at C1 HQ
    have C1' := Lib.hid C1
    clear C1 hz hq hB hx hl
    go_enter Tryd.func51, Tryd.ntmps51
    go_wp2_with fail
    refine C1'.out.mono ?_
    rintro e w1 ⟨rfl, hB1, hS1⟩
    have HB1 : Hid (Blk w1 g T (.slice A n c :: .int .i64 q.p :: .int .i64 q.e :: .slice none 0 0 :: tail)) := hB1
    have HS1 := Lib.hid hS1
    have gd : w1.cell? ⟨g, 2, none⟩ = some (.int .i64 q.e) := HB1.out.at rfl
    have gf := Blk.frozen HB1.out 2
    clear hB1 hS1
    go_wp2
    go_end0
    exact HQ.out _ _ ⟨rfl, Blk.set HB1.out 2 _, HS1.out.setCell 2 _⟩
  · have HQ : Hid (∀ k : Nat, (rdN xs 2 r).1 = (k : Int) → ∀ e w', (e = .returned (.tuple #[]) ∧ ∃ v, Blk w' g T (.slice A n c :: .int .i64 (rdNums xs (rdN xs 2 r).2 k).2.p :: .int .i64 (rdNums xs (rdN xs 2 r).2 k).2.e :: v :: tail) ∧ OwnK .u16 22 w' w.heap.size v (rdNums xs (rdN xs 2 r).2 k).1 ∧ Save g w w') → PTakePost w g T A n c (rdTake xs r) tail e w') := by
      rintro k hk e w' hh
      unfold rdTake
      rw [if_neg h16, hk, Int.toNat_natCast]
      exact hh
    obtain ⟨N, hN⟩ : ∃ N : Nat, (rdN xs 2 r).1 = (N : Int) := ⟨(rdN xs 2 r).1.toNat, by omega⟩
    have HQ2 := Lib.hid (HQ.out N hN)
    obtain ⟨q, hq⟩ : ∃ q, q = (rdN xs 2 r).2 := ⟨_, rfl⟩
    rw [← hq] at C1 HQ2 hpl
    rw [hN] at C1 h16 hb1
    have hN16 : N ≤ 16 := by omega
    have C1' := Lib.hid C1
    have HST : Hid (∀ j, (rdNums xs q (j + 1)).1 = (rdNums xs q j).1 ++ [(rdN xs 2 (rdNums xs q j).2).1] ∧ (rdNums xs q (j + 1)).2 = (rdN xs 2 (rdNums xs q j).2).2) := fun j => ⟨rfl, rfl⟩
    have HPL : Hid (∀ j, (rdNums xs q j).2.p ≤ n) := fun j => rdNums_place hl hpl j
    have HLN : Hid (∀ j, (rdNums xs q j).1.length = j) := fun j => rdNums_len j
    have CN : Hid (∀ (w : World) (r' : Rd) (v : Value), PRd w g T A n c r' (v :: tail) → Holds w w.heap.size A n c xs → r'.p ≤ n → Calls Tryd.prog 61 #[.pointer (some ⟨g, 0, none⟩), .int .i64 2] w fun e w' => e = .returned (.int .u64 (rdN xs 2 r').1) ∧ PRd w' g T A n c (rdN xs 2 r').2 (v :: tail) ∧ Save g w w') := fun w r' v h1 h2 h3 => rnumber_any w g T A n c xs r' 2 (v :: tail) h1 h2 h3 (by decide)
    have HBD : Hid (∀ r', 0 ≤ (rdN xs 2 r').1 ∧ (rdN xs 2 r').1 ≤ 65535) := fun r' => rdN_bounds hx.byte r'
    obtain ⟨nums, hnums⟩ : ∃ f, f = rdNums xs q := ⟨_, rfl⟩
    have H0 : Hid (nums 0 = ([], q)) := by show _ = _; rw [hnums]; rfl
    rw [← hnums] at HST HPL HLN HQ2
    obtain ⟨num2, hnum2⟩ : ∃ f, f = rdN xs 2 := ⟨_, rfl⟩
    rw [← hnum2] at CN HST HBD
    clear HQ hN hq hnums hnum2 hB hx hl C1 h16 hb0 hb1 hpl hp
    go_enter Tryd.func51, Tryd.ntmps51
    go_wp2_with fail
    refine C1'.out.mono ?_
    rintro e w1 ⟨rfl, hB1, hS1⟩
    have HB1 : Hid (Blk w1 g T (.slice A n c :: .int .i64 q.p :: .int .i64 q.e :: .slice none 0 0 :: tail)) := hB1
    have HS1 := Lib.hid hS1
    clear hB1 hS1 C1'
    go_wp2
    go_loopw [14] (fun i wr => ∃ j : Nat, i = .int .u64 j ∧ j ≤ N ∧ ∃ v, Hid (Blk wr g T (.slice A n c :: .int .i64 (nums j).2.p :: .int .i64 (nums j).2.e :: v :: tail)) ∧ Hid (OwnK .u16 22 wr w.heap.size v (nums j).1) ∧ Hid (Save g w wr)) (fun i _ => N - (intOf i).toNat)
    case atStart => exact ⟨0, rfl, Nat.zero_le _, .slice none 0 0, by rw [H0.out]; exact HB1, by rw [H0.out]; exact OwnK.nil _ _ _ _, HS1⟩
    case round =>
      obtain ⟨j, rfl, hj, v, HK, HO, HS⟩ := hrel
      by_cases hlt2 : j < N
      · have HX : Hid (Holds wr wr.heap.size A n c xs) := (HX0.out.below (HS.out.below hg hBs)).mono (Nat.le_trans hBs HS.out.size)
        have CNj := CN.out wr.drew (nums j).2 v HK.out.drew HX.out.drew (HPL.out j)
        obtain ⟨e1, e2⟩ := HST.out j
        rw [← e2] at CNj
        obtain ⟨z0, z1⟩ := HBD.out (nums j).2
        obtain ⟨z, hz⟩ : ∃ z, z = (num2 (nums j).2).1 := ⟨_, rfl⟩
        rw [← hz] at CNj e1 z0 z1
        have CNJ := Lib.hid CNj
        have E1 := Lib.hid e1
        have hLn := HLN.out j
        have hz16 : IntKind.u16.wrap z = z := by rw [IntKind.wrap_u16]; omega
        have hsz := HS.out.size
        obtain ⟨r1, hr1⟩ : ∃ r, r = (nums (j + 1)).2 := ⟨_, rfl⟩
        have HR1 := Lib.hid hr1
        rw [← hr1] at CNJ
        obtain ⟨L, hL⟩ : ∃ r, r = (nums j).1 := ⟨_, rfl⟩
        rw [← hL] at HO E1 hLn
        clear hr1 hL hz e1 e2 CNj
        go_wp2
        go_upto_region 5 with fail
        refine wp_region_heldK 16 (fun w' => w'.cell? ⟨g, 3, none⟩ = some v) (by kernel_rfl) ?_
        change wpAnyK _ _ _ _ _ _ _ _ _ wr.drew
        have S0 : Hid (wr.drew.cell? ⟨g, 3, none⟩ = some v) := (HK.out.at rfl)
        have b0 : Hid (Save g w wr.drew) := (HS.out.drewN 1)
        refine wpAnyK_take (i := 0) (v := _) rfl (by kernel_rfl) (by kernel_rfl) (by kernel_rfl) (fun _ _ _ h => h) rfl (by kernel_rfl) (by kernel_rfl) (by decide) (yieldsIf_move (by kernel_rfl) (.tmp 0) rfl (.pointer (some ⟨g, 0, none⟩)) (by kernel_rfl)) S0.out ?_
        refine wpAnyK_take (i := 1) (v := _) rfl (by kernel_rfl) (by kernel_rfl) (by kernel_rfl) (fun _ _ _ h => h) rfl (by kernel_rfl) (by kernel_rfl) (by decide) (yieldsIf_move (by kernel_rfl) (.tmp 0) rfl (.pointer (some ⟨g, 0, none⟩)) (by kernel_rfl)) S0.out ?_
        refine wpAnyK_take (i := 2) (v := _) rfl (by kernel_rfl) (by kernel_rfl) (by kernel_rfl) (fun _ _ _ h => h) rfl (by kernel_rfl) (by kernel_rfl) (by decide) (yieldsIf_nil (by kernel_rfl) (.tmp 17) rfl ⟨g, 0, none⟩ (by kernel_rfl)) S0.out ?_
        refine wpAnyK_take (i := 3) (v := _) rfl (by kernel_rfl) (by kernel_rfl) (by kernel_rfl) (fun _ _ _ h => h) rfl (by kernel_rfl) (by kernel_rfl) (by decide) (yieldsIf_fld (by kernel_rfl) _ (.tmp 18) 1 rfl (.pointer (some ⟨g, 0, none⟩)) (.pointer (some ⟨g, 3, none⟩)) (by kernel_rfl) (fld_as1 g)) S0.out ?_
        refine wpAnyK_take (i := 4) (v := _) rfl (by kernel_rfl) (by kernel_rfl) (by kernel_rfl) (fun _ _ _ h => h) rfl (by kernel_rfl) (by kernel_rfl) (by decide) (yieldsIf_fld (by kernel_rfl) _ (.tmp 19) 0 rfl (.pointer (some ⟨g, 3, none⟩)) (.pointer (some ⟨g, 3, none⟩)) (by kernel_rfl) (fld_as10 g)) S0.out ?_
        refine wpAnyK_take (i := 5) (v := _) rfl (by kernel_rfl) (by kernel_rfl) (by kernel_rfl) (fun _ _ _ h => h) rfl (by kernel_rfl) (by kernel_rfl) (by decide) (yieldsIf_load_one (by kernel_rfl) _ (.tmp 20) rfl g 3 (by kernel_rfl) v (fun w h => h) _ Tryd.underlying24 rfl) S0.out ?_
        refine wpAnyK_take (i := 6) (v := _) rfl (by kernel_rfl) (by kernel_rfl) (by kernel_rfl) (fun _ _ _ h => h) rfl (by kernel_rfl) (by kernel_rfl) (by decide) (yieldsIf_move (by kernel_rfl) (.tmp 0) rfl (.pointer (some ⟨g, 0, none⟩)) (by kernel_rfl)) S0.out ?_
        refine wpAnyK_take (i := 7) (v := _) rfl (by kernel_rfl) (by kernel_rfl) (by kernel_rfl) (fun _ _ _ h => h) rfl (by kernel_rfl) (by kernel_rfl) (by decide) (yieldsIf_nil (by kernel_rfl) (.tmp 22) rfl ⟨g, 0, none⟩ (by kernel_rfl)) S0.out ?_
        refine wpAnyK_take (i := 8) (v := _) rfl (by kernel_rfl) (by kernel_rfl) (by kernel_rfl) (fun _ _ _ h => h) rfl (by kernel_rfl) (by kernel_rfl) (by decide) (yieldsIf_fld (by kernel_rfl) _ (.tmp 23) 0 rfl (.pointer (some ⟨g, 0, none⟩)) (.pointer (some ⟨g, 0, none⟩)) (by kernel_rfl) (fld_as0 g)) S0.out ?_
        refine wpAnyK_one 9 _ (by kernel_rfl) rfl fun K hK => ?_
        go_simp
        refine (CNJ.out).mono ?_
        rintro e v1 ⟨rfl, hB1, hS1⟩
        have S1 : Hid (v1.cell? ⟨g, 3, none⟩ = some v) := (Blk.at hB1 rfl)
        have b1 : Hid (Save g w v1) := b0.out.trans hS1
        have HK1 : Hid (Blk v1 g T (.slice A n c :: .int .i64 r1.p :: .int .i64 r1.e :: v :: tail)) := hB1
        have HO1 : Hid (OwnK .u16 22 v1 w.heap.size v L) := HO.out.keep fun i cs hi hc => by obtain ⟨hb, _⟩ := HO.out.block hi; exact hS1.rest i (Array.getElem?_eq_some_iff.1 hc).1 (by omega)
        refine hK _ _ (fun _ => S1.out) ?_
        clear hK K
        clear hB1 hS1
        refine wpAnyK_take (i := 10) (v := (.int .u16 z)) rfl (by kernel_rfl) (by kernel_rfl) (by kernel_rfl) (fun _ _ _ h => h) rfl (by kernel_rfl) (by kernel_rfl) (by decide) (.inl ⟨by kernel_rfl, fun w _ => by go_simp⟩) S1.out ?_
        refine wpAnyK_frame fun a1 ha1 => ?_
        refine wpAnyK_one 11 _ (by kernel_rfl) rfl fun K hK => ?_
        refine step_slice_blk rfl _ _ 1 _ rfl Tryd.underlying24 [.int .u16 z] (by rw [ha1]; kernel_rfl) ?_
        intro g2 v2 q2 q3 Y2 b2
        have hs1 := b1.out.size
        have HK2 := Lib.hid (HK1.out.over b2.out)
        have HO2 := Lib.hid (HO1.out.below b2.out)
        have HS2 := Lib.hid (b1.out.trans (Save.of_below b2.out g))
        refine hK _ _ (fun _ => HK2.out.at rfl) ?_
        clear hK K
        refine wpAnyK_frame fun a2 ha2 => ?_
        try rw [ha1] at ha2
        have e2_21 : a2.eval (.tmp 21) = v := by rw [ha2]; kernel_rfl
        have e2_27 : a2.eval (.tmp 27) = .slice (some ⟨g2, 0, none⟩) 1 1 := by rw [ha2]; kernel_rfl
        refine wpAnyK_one 12 _ (by kernel_rfl) rfl fun K hK => ?_
        refine step_append_row rfl (.tmp 21) (.tmp 27) .u16 24 22 2 Tryd.underlying24 info_u16 rfl w.heap.size v L [z] g2 1 1 rfl e2_21 e2_27 HO2.out Y2 (by omega) (by omega) (by have := b2.out.size; omega) ?_
        intro u v3 ho3 b3
        have HK3 := Lib.hid (Blk.below HK2.out b3.out hlt)
        have OU : u.oneCell' = true := by obtain ⟨_, _, _, rfl, _⟩ := ho3.out.open; rfl
        refine hK _ _ (fun _ => HK3.out.at rfl) ?_
        clear hK K
        refine wpAnyK_frame fun a3 ha3 => ?_
        try rw [ha2] at ha3
        have S3 : Hid (v3.cell? ⟨g, 3, none⟩ = some v) := HK3.out.at rfl
        rw [ha3]
        refine wpAnyK_one 13 _ (by kernel_rfl) rfl fun K hK => ?_
        go_simp
        refine hK _ _ (fun _ => S3.out) ?_
        clear hK K
        refine wpAnyK_one 14 _ (by kernel_rfl) rfl fun K hK => ?_
        go_simp
        refine hK _ _ (fun _ => S3.out) ?_
        clear hK K
        refine wpAnyK_one 15 _ (by kernel_rfl) rfl fun K hK => ?_
        go_simp
        refine hK _ _ (fun _ => S3.out) ?_
        clear hK K
        refine wpAnyK_frame fun a4 ha4 => ?_
        try rw [ha3] at ha4
        have e4_31 : a4.eval (.tmp 31) = .pointer (some ⟨g, 3, none⟩) := by rw [ha4]; kernel_rfl
        have e4_28 : a4.eval (.tmp 28) = u := by rw [ha4]; kernel_rfl
        refine wpAnyK_one 16 _ (by kernel_rfl) rfl fun K hK => ?_
        refine step_store_fld rfl 24 (.tmp 31) (.tmp 28) (by kernel_rfl) g 3 e4_31 T _ u e4_28 HK3 (by show 3 < _; simp only [List.length_cons]; omega) (by kernel_rfl) OU ?_
        intro v4 X4 O4 q4
        refine hK _ _ (fun h => Bool.noConfusion (show true = false from h)) ?_
        clear hK K
        change wpAnyK _ _ _ _ _ _ _ _ a4 v4
        rw [ha4]
        refine wpAnyK_done (by kernel_rfl) ?_ _
        have HB4 : Hid (Blk v4 g T (.slice A n c :: .int .i64 (nums (j + 1)).2.p :: .int .i64 (nums (j + 1)).2.e :: u :: tail)) := by rw [← HR1.out]; exact X4.out
        have HO4 : Hid (OwnK .u16 22 v4 w.heap.size u (nums (j + 1)).1) := by
          rw [E1.out]
          exact ho3.out.keep fun i cs hi hc => O4.out.rest i (by obtain ⟨hb, _⟩ := ho3.out.block hi; omega)
        have HS4 := Lib.hid ((HS2.out.thenBelow b3.out).trans (Save.of_only O4.out))
        clear X4 O4 q4 ho3 b3 HK3 HS2 HO2 HK2
        go_wp2
        go_roundw
        case rel => exact ⟨j + 1, by go_num, hlt2, u, HB4, HO4, HS4⟩
        case measure => simp [intOf]; omega
      · obtain rfl : j = N := by omega
        go_wp2
        go_end0
        exact HQ2.out _ _ ⟨rfl, v, HK.out, HO.out, HS.out⟩
end Go.Proofs.YtepkamkgodbffaaDoor

/-
  Contracts of the program's GetAsk, GetSay (written by tools/gen_getask.py).
-/
namespace Go.Proofs.YtepkamkgodbffaaDoor
open Go.RowKit
set_option linter.unusedVariables false
set_option maxRecDepth 100000

def rd0 : Rd := ⟨0, 0⟩
def someOf (q : List Int × Rd) (m : Nat) : List Int := if q.2.e = 0 then q.1 else List.replicate m 0
/-- what the program's GetAsk takes off the bytes, and where its reader stands then -/
def gaskP (c : Int) (xs : List Int) : AskV × Rd :=
  if c = 0 then ({ zeroAsk with dial := (rdTake xs rd0).1, guid := (rdPart xs 16 (rdTake xs rd0).2).1 }, (rdPart xs 16 (rdTake xs rd0).2).2)
  else if c = 1 then ({ zeroAsk with proof := (rdPart xs 32 rd0).1, user := ⟨(prdText xs (rdPart xs 32 rd0).2).1.toArray⟩ }, (prdText xs (rdPart xs 32 rd0).2).2)
  else if c = 3 then ({ zeroAsk with share := ⟨(prdText xs rd0).1.toArray⟩ }, (prdText xs rd0).2)
  else (zeroAsk, rdZ xs 4 rd0)
def gaskErr (c : Int) (xs : List Int) : Int := if knownT c = true then rdEnd xs (gaskP c xs).2 else 2
def gaskOf (c : Int) (xs : List Int) : AskV := if gaskErr c xs = 0 then (gaskP c xs).1 else zeroAsk
def gsayP (c : Int) (xs : List Int) : SayV × Rd :=
  if c = 0 then ({ zeroSay with dia := (rdN xs 2 rd0).1, siz := (rdN xs 4 (rdZ xs 2 (rdN xs 2 rd0).2)).1, chal := (rdPart xs 8 (rdN xs 4 (rdZ xs 2 (rdN xs 2 rd0).2)).2).1 }, (rdPart xs 8 (rdN xs 4 (rdZ xs 2 (rdN xs 2 rd0).2)).2).2)
  else (zeroSay, rdZ xs 4 rd0)
def gsayErr (c : Int) (xs : List Int) : Int := if knownT c = true then rdEnd xs (gsayP c xs).2 else 2
def gsayOf (c : Int) (xs : List Int) : SayV := if gsayErr c xs = 0 then (gsayP c xs).1 else zeroSay
def PGAskPost (w : World) (c : Int) (xs : List Int) (e : Ending) (w' : World) : Prop :=
  ∃ vd, e = .returned (.tuple #[.agg (acells vd (.slice none 0 0) (.slice none 0 0) (gaskOf c xs)).toArray, .int .i64 (gaskErr c xs)]) ∧ AskIs w' w'.heap.size (acells vd (.slice none 0 0) (.slice none 0 0) (gaskOf c xs)) (gaskOf c xs) ∧ Below w.heap.size w w'
def PGSayPost (w : World) (c : Int) (xs : List Int) (e : Ending) (w' : World) : Prop :=
  e = .returned (.tuple #[.agg (scells (.slice none 0 0) (.slice none 0 0) (gsayOf c xs)).toArray, .int .i64 (gsayErr c xs)]) ∧ Below w.heap.size w w'

theorem spliced_len {cur : List Value} {off : Nat} {xs : List Int} (h : off + xs.length ≤ cur.length) : (spliced cur off xs).length = cur.length := by
  unfold spliced
  simp only [List.length_append, List.length_take, List.length_map, List.length_drop]
  omega
theorem rdZ_place {xs : List Int} {m n : Nat} {r : Rd} (hl : xs.length = n) (h : r.p ≤ n) : (rdZ xs m r).p ≤ n := by
  have := rdPart_place (m := m) hl h
  unfold rdZ
  split
  · split
    · exact this
    · exact this
  · exact this
theorem prdText_place {xs : List Int} {n : Nat} {r : Rd} (hx : Bytes xs) (hl : xs.length = n) (h : r.p ≤ n) : (prdText xs r).2.p ≤ n := by
  unfold prdText
  split
  · have := gtextNext_nonneg hx (r.p : Int) (by omega)
    show (gtextNext xs r.p).toNat ≤ n
    omega
  · exact h
theorem rdTake_place {xs : List Int} {n : Nat} {r : Rd} (hl : xs.length = n) (h : r.p ≤ n) : (rdTake xs r).2.p ≤ n := by
  have := rdN_place (s := 2) hl h
  unfold rdTake
  split
  · exact this
  · exact rdNums_place hl this _
theorem rdEnd_zero {xs : List Int} {r : Rd} (h : rdEnd xs r = 0) : r.e = 0 := by
  unfold rdEnd at h
  split at h
  · exact absurd h (by decide)
  · exact h
theorem OwnK.holdsF {k : IntKind} {e : TypeId} {w : World} {base : Nat} {v : Value} {xs : List Int} (h : OwnK k e w base v xs) : ∃ A n c, v = .slice A n c ∧ HoldsF (Value.int k) w w.heap.size A n c xs := by
  obtain ⟨A, n, c, rfl, h1, h2, h3, h4, h5⟩ := h.open
  refine ⟨A, n, c, rfl, h1, h2, h4, fun h0 => ?_⟩
  obtain ⟨g, rfl, _, hg, hc⟩ := h5 h0
  refine ⟨g, 0, rfl, hg, fun i x hx => ?_⟩
  have hi : i < n := by rw [← h1]; exact (List.getElem?_eq_some_iff.1 hx).1
  rw [Nat.zero_add, hc i hi]
  simp [List.getD_eq_getElem?_getD, hx]
theorem OwnK.save {k : IntKind} {e : TypeId} {w w' : World} {base g : Nat} {v : Value} {xs : List Int} (h : OwnK k e w base v xs) (hS : Save g w w') (hg : g < base) : OwnK k e w' base v xs :=
  h.keep fun i cs hi hc => hS.rest i (Array.getElem?_eq_some_iff.1 hc).1 (by obtain ⟨hb, _⟩ := h.block hi; omega)

theorem fld_sa0 (g : Nat) (w : World) : (Instr.fieldAt 98 (.pointer (some ⟨g, 0, none⟩)) 0).run Tryd.prog w = .ok (.pointer (some ⟨g, 0, none⟩)) w := by go_simp
theorem rdN_bounds4 {xs : List Int} (hx : Bytes xs) (r : Rd) : 0 ≤ (rdN xs 4 r).1 ∧ (rdN xs 4 r).1 ≤ 18446744073709551615 := by
  unfold rdN
  split
  · split
    · exact ⟨Int.le_refl 0, by show (0 : Int) ≤ _; decide⟩
    · have := numAt_bounds xs hx r.p 4 4294967296 (by decide)
      exact ⟨this.1, by show numAt xs r.p 4 ≤ _; omega⟩
  · exact ⟨Int.le_refl 0, by show (0 : Int) ≤ _; decide⟩
theorem rdNums_dial {xs : List Int} (hx : Bytes xs) (r : Rd) (k : Nat) : ∀ x ∈ (rdNums xs r k).1, 0 ≤ x ∧ x ≤ 65535 := by
  induction k with
  | zero => intro x h; cases h
  | succ k ih =>
    intro x h
    simp only [rdNums, List.mem_append, List.mem_singleton] at h
    rcases h with h | rfl
    · exact ih x h
    · exact rdN_bounds hx _
theorem rdTake_dial {xs : List Int} (hx : Bytes xs) (r : Rd) : ∀ x ∈ (rdTake xs r).1, 0 ≤ x ∧ x ≤ 65535 := by
  unfold rdTake
  split
  · intro x h; cases h
  · exact rdNums_dial hx _ _
theorem prdText_e {xs : List Int} {r : Rd} (h : (prdText xs r).2.e = 0) : r.e = 0 := by
  unfold prdText at h
  by_cases he : r.e = 0
  · exact he
  · rw [if_neg he] at h; exact h
theorem zero_askB : (Tryd.prog.info? 86).map (fun i => (i.zero, i.size)) = some (some (.agg (.slice none 0 0 :: .int .i64 0 :: .int .i64 0 :: acells (.slice none 0 0) (.slice none 0 0) (.slice none 0 0) zeroAsk).toArray), 72) := by kernel_rfl
theorem size_askB : (Tryd.prog.info? 86).map (·.size) = some 72 := by kernel_rfl
set_option maxHeartbeats 4000000 in
theorem GetAsk_any (w : World) (c : Int) (A : Option Addr) (n k : Nat) (xs : List Int) (hc : 0 ≤ c ∧ c ≤ 65535) (hx : Holds w w.heap.size A n k xs) :
    Calls Tryd.prog 22 #[.int .u16 c, .slice A n k] w (PGAskPost w c xs) := by
  have hl := hx.len
  have hrm := hx.room
  have HX := Lib.hid hx
  have hby := hx.byte
  have ZH := Lib.hid zero_ask
  have ZB := Lib.hid zero_askB
  have BZ := built_ask
  have HZ : Hid ((acells (.slice none 0 0) (.slice none 0 0) (.slice none 0 0) zeroAsk).length = 69) := acells_len zeroAsk_ok
  have HZ1 : Hid (∀ v ∈ acells (.slice none 0 0) (.slice none 0 0) (.slice none 0 0) zeroAsk, v.oneCell' = true) := (zeroAsk_is w 0).one
  have B1 : Tryd.prog.built 84 [(0, .slice A n k)] = some (.slice A n k :: .int .i64 0 :: .int .i64 0 :: ([] : List Value)).toArray := by kernel_rfl
  have B2 : Tryd.prog.built 86 [(0, .agg #[.slice A n k, .int .i64 0, .int .i64 0])] = some (.slice A n k :: .int .i64 0 :: .int .i64 0 :: acells (.slice none 0 0) (.slice none 0 0) (.slice none 0 0) zeroAsk).toArray := by kernel_rfl
  have HZI : Hid (∀ w' : World, AskIs w' w'.heap.size (acells (.slice none 0 0) (.slice none 0 0) (.slice none 0 0) zeroAsk) zeroAsk) := fun w' => zeroAsk_is w' _
  have HE : Hid (∀ er, gaskErr c xs = er → er ≠ 0 → ∀ e w', e = .returned (.tuple #[.agg (acells (.slice none 0 0) (.slice none 0 0) (.slice none 0 0) zeroAsk).toArray, .int .i64 er]) → Below w.heap.size w w' → PGAskPost w c xs e w') := by
    intro er h1 h2 e w' he hb
    unfold PGAskPost gaskOf
    rw [h1, if_neg h2]
    exact ⟨_, he, HZI.out w', hb⟩
  obtain ⟨zs, hzs⟩ : ∃ zs, zs = acells (.slice none 0 0) (.slice none 0 0) (.slice none 0 0) zeroAsk := ⟨_, rfl⟩
  obtain ⟨tl, htl⟩ : ∃ tl, tl = zs.tail := ⟨_, rfl⟩
  have HTL : Hid (zs = .slice none 0 0 :: tl) := by show _ = _; rw [htl, hzs]; rfl
  have HZS := Lib.hid hzs
  rw [← hzs] at ZH ZB BZ HZ HZ1 B2 HE
  clear hzs htl HZI
  have HZB : Hid ((Value.slice none 0 0 :: Value.int .i64 0 :: Value.int .i64 0 :: zs).length = 72) := by show _ = _; simp only [List.length_cons, HZ.out]
  have HNB : Hid ((Value.slice A n k :: Value.int .i64 0 :: Value.int .i64 0 :: zs).length = 72) := by show _ = _; simp only [List.length_cons, HZ.out]
  have HOB : Hid (∀ v ∈ Value.slice A n k :: Value.int .i64 0 :: Value.int .i64 0 :: zs, v.oneCell' = true) := by
    intro v hv
    rcases List.mem_cons.1 hv with rfl | hv
    · rfl
    rcases List.mem_cons.1 hv with rfl | hv
    · rfl
    rcases List.mem_cons.1 hv with rfl | hv
    · rfl
    exact HZ1.out v hv
  by_cases hk : knownT c = true
  rotate_left
  · have HQ := Lib.hid (HE.out 2 (by unfold gaskErr; rw [if_neg hk]) (by decide))
    have hk' : knownT c = false := by simpa using hk
    have hc01 : c ≠ 0 ∧ c ≠ 1 ∧ c ≠ 2 ∧ c ≠ 3 ∧ c ≠ 4 ∧ c ≠ 13 := by unfold knownT at hk'; simp at hk'; omega
    obtain ⟨h0, h1, h2, h3, h4, h13⟩ := hc01
    have b0 : (c == 0) = false := by simpa using h0
    have b1 : (c == 1) = false := by simpa using h1
    have b2 : (c == 2) = false := by simpa using h2
    have b3 : (c == 3) = false := by simpa using h3
    have b4 : (c == 4) = false := by simpa using h4
    have b13 : (c == 13) = false := by simpa using h13
    clear hk hk' HE hx h0 h1 h2 h3 h4 h13
    go_enter Tryd.func22, Tryd.ntmps22
    go_wp2_with (first
      | ((with_reducible show wpList _ _ _ (⟨some 4, _, _, _, _, _⟩ :: _) _ _); refine wpList_alloc_blk rfl _ rfl zs _ ZH ?_; intro h w1 hg1 hg2 Z1 L1)
      | ((with_reducible show wpList _ _ _ (⟨some 9, _, _, _, _, _⟩ :: _) _ _); refine wpList_build_blk rfl _ _ rfl (.slice A n k :: .int .i64 0 :: .int .i64 0 :: []) (by refine Eq.trans ?_ B1; kernel_rfl) ?_)
      | ((with_reducible show wpList _ _ _ (⟨some 10, _, _, _, _, _⟩ :: _) _ _); refine wpList_build_blk rfl _ _ rfl (.slice A n k :: .int .i64 0 :: .int .i64 0 :: zs) (by refine Eq.trans ?_ B2; kernel_rfl) ?_)
      | ((with_reducible show wpList _ _ _ (⟨some 6, _, _, _, _, _⟩ :: _) _ _); refine wpList_alloc_blk rfl _ rfl (.slice none 0 0 :: .int .i64 0 :: .int .i64 0 :: zs) _ ZB ?_; intro g w2 hg3 hg4 P02 L2)
      | ((with_reducible show wpList _ _ _ (⟨none, .store _ (.tmp 6) _, _, _, _, _⟩ :: _) _ _); refine wpList_store_blk rfl _ (.tmp 6) (.tmp 10) rfl g rfl _ (.slice none 0 0 :: .int .i64 0 :: .int .i64 0 :: zs) (.slice A n k :: .int .i64 0 :: .int .i64 0 :: zs) rfl P02 72 size_askB HZB HNB HOB ?_; intro w3 P03 O3 hg5; have hsz := L1.out.size; have hng : h ≠ g := (by omega); have Z3 := Lib.hid ((Z1.out.over L2.out).only O3.out hng); have B3 : Hid (Below w.heap.size w w3) := below_only (step L1.out L2.out) O3.out (by omega); have P3 : Hid (PRd w3 g 86 A n k rd0 zs) := P03; have hwg : w.heap.size ≤ g := (by omega); have hwh : w.heap.size ≤ h := hg1)
      | ((with_reducible show wpList _ _ _ (⟨some 12, _, _, _, _, _⟩ :: _) _ _); refine wpList_build_none rfl _ rfl zs BZ ?_)
      | ((with_reducible show wpList _ _ _ (⟨none, .store _ (.tmp 4) _, _, _, _, _⟩ :: _) _ _); refine wpList_store_blk rfl _ (.tmp 4) (.tmp 12) rfl h rfl _ zs zs rfl Z3 69 size_ask HZ HZ HZ1 ?_; intro w10 K10 O10 hg10)
      | fail)
    refine bodyPost_ret (v := .tuple #[.agg zs.toArray, .int .i64 2]) ?_ rfl (HQ.out _ _ rfl (below_only B3.out O10.out hwh))
    exact results_cell_two rfl _ _ h _ _ (0, 0) _ rfl K10.out Tryd.underlying32 rfl (by rw [size_ask]; have := HZ.out; simp [this]) rfl
  by_cases h0 : c = 0
  · subst h0
    have p0 : rd0.p ≤ n := Nat.zero_le _
    have p1 : (rdTake xs rd0).2.p ≤ n := rdTake_place hl p0
    have p2 : (rdPart xs 16 (rdTake xs rd0).2).2.p ≤ n := rdPart_place hl p1
    have CT : Hid (∀ (w' : World) (g : Nat), PRd w' g 86 A n k rd0 (.slice none 0 0 :: tl) → Holds w' w.heap.size A n k xs → w.heap.size ≤ g → Calls Tryd.prog 51 #[.pointer (some ⟨g, 0, none⟩)] w' (PTakePost w' g 86 A n k (rdTake xs rd0) tl)) := fun w' g h1 h2 h3 => take_any w' g w.heap.size 86 A n k xs rd0 tl h1 h2 h3 p0
    have CF : Hid (∀ (w' : World) (g : Nat) (rest : List Value), PRd w' g 86 A n k (rdTake xs rd0).2 rest → Holds w' w'.heap.size A n k xs → 17 ≤ rest.length → Calls Tryd.prog 52 #[.pointer (some ⟨g, 0, none⟩), .slice (some ⟨g, 4, none⟩) 16 16] w' (PEndPost w' g 86 A n k (rdPart xs 16 (rdTake xs rd0).2).2 (spliced rest 1 (rdPart xs 16 (rdTake xs rd0).2).1))) := fun w' g rest h1 h2 h3 => fill_any w' g 86 A n k xs _ 1 16 16 rest h1 h2 p1 (by decide) (by decide) h3
    have hok := rdPart_ok (m := 16) (r := (rdTake xs rd0).2) hl
    have hbyq := rdPart_bytes hby 16 (rdTake xs rd0).2
    have kdial := rdTake_dial hby rd0
    have CE : Hid (∀ (w' : World) (g : Nat) (rest : List Value), PRd w' g 86 A n k (rdPart xs 16 (rdTake xs rd0).2).2 rest → Calls Tryd.prog 55 #[.pointer (some ⟨g, 0, none⟩)] w' fun e w2 => e = .returned (.int .i64 (rdEnd xs (rdPart xs 16 (rdTake xs rd0).2).2)) ∧ ∃ j, w'.drewN j = w2) := fun w' g rest h1 => rend_any w' g 86 A n k xs _ rest h1 hl hrm p2
    have hre : rdEnd xs (rdPart xs 16 (rdTake xs rd0).2).2 = 0 → (rdPart xs 16 (rdTake xs rd0).2).2.e = 0 := rdEnd_zero
    have hge : gaskErr 0 xs = rdEnd xs (rdPart xs 16 (rdTake xs rd0).2).2 := by unfold gaskErr gaskP; rw [if_pos hk, if_pos rfl]
    by_cases he : rdEnd xs (rdPart xs 16 (rdTake xs rd0).2).2 = 0
    rotate_left
    · have HQ := Lib.hid (HE.out _ hge he)
      have hne : (rdEnd xs (rdPart xs 16 (rdTake xs rd0).2).2 != 0) = true := by simpa using he
      obtain ⟨d, hd⟩ : ∃ x, x = rdTake xs rd0 := ⟨_, rfl⟩
      rw [← hd] at CT CF p1 p2 hok hbyq kdial CE he hre HQ hne
      clear hd
      obtain ⟨q, hq⟩ : ∃ x, x = rdPart xs 16 d.2 := ⟨_, rfl⟩
      rw [← hq] at CF p2 hok hbyq CE he hre HQ hne
      clear hq
      obtain ⟨er, her⟩ : ∃ x, x = rdEnd xs q.2 := ⟨_, rfl⟩
      rw [← her] at CE he HQ hne hre
      clear her he hre
      clear HE hx hk hge
      go_enter Tryd.func22, Tryd.ntmps22
      go_wp2_with (first
        | ((with_reducible show wpList _ _ _ (⟨some 4, _, _, _, _, _⟩ :: _) _ _); refine wpList_alloc_blk rfl _ rfl zs _ ZH ?_; intro h w1 hg1 hg2 Z1 L1)
        | ((with_reducible show wpList _ _ _ (⟨some 9, _, _, _, _, _⟩ :: _) _ _); refine wpList_build_blk rfl _ _ rfl (.slice A n k :: .int .i64 0 :: .int .i64 0 :: []) (by refine Eq.trans ?_ B1; kernel_rfl) ?_)
        | ((with_reducible show wpList _ _ _ (⟨some 10, _, _, _, _, _⟩ :: _) _ _); refine wpList_build_blk rfl _ _ rfl (.slice A n k :: .int .i64 0 :: .int .i64 0 :: zs) (by refine Eq.trans ?_ B2; kernel_rfl) ?_)
        | ((with_reducible show wpList _ _ _ (⟨some 6, _, _, _, _, _⟩ :: _) _ _); refine wpList_alloc_blk rfl _ rfl (.slice none 0 0 :: .int .i64 0 :: .int .i64 0 :: zs) _ ZB ?_; intro g w2 hg3 hg4 P02 L2)
        | ((with_reducible show wpList _ _ _ (⟨none, .store _ (.tmp 6) _, _, _, _, _⟩ :: _) _ _); refine wpList_store_blk rfl _ (.tmp 6) (.tmp 10) rfl g rfl _ (.slice none 0 0 :: .int .i64 0 :: .int .i64 0 :: zs) (.slice A n k :: .int .i64 0 :: .int .i64 0 :: zs) rfl P02 72 size_askB HZB HNB HOB ?_; intro w3 P03 O3 hg5; have hsz := L1.out.size; have hng : h ≠ g := (by omega); have Z3 := Lib.hid ((Z1.out.over L2.out).only O3.out hng); have B3 : Hid (Below w.heap.size w w3) := below_only (step L1.out L2.out) O3.out (by omega); have P3 : Hid (PRd w3 g 86 A n k rd0 zs) := P03; have hwg : w.heap.size ≤ g := (by omega); have hwh : w.heap.size ≤ h := hg1)
        | fail)
      have P3t : Hid (PRd w3 g 86 A n k rd0 (.slice none 0 0 :: tl)) := by rw [← HTL.out]; exact P3.out
      refine (CT.out w3 g P3t.out (HX.out.below B3.out) hwg).mono ?_
      rintro e w4 ⟨rfl, vd, hP, hD, hS⟩
      have P4 := Lib.hid hP
      have Z4 := Lib.hid (Z3.out.save hS hng)
      have B4 := Lib.hid (B3.out.trans (hS.below hwg B3.out.size))
      have D4 := Lib.hid hD
      have hgd : g < w3.heap.size := P3.out.lt
      have hhd : h < w3.heap.size := Z3.out.lt
      clear hP hS hD P3t P3 Z3 B3
      have HV : Hid (17 ≤ (vd :: tl).length) := by show _ ≤ _; have h := HZ.out; rw [HTL.out] at h; simp only [List.length_cons] at h ⊢; omega
      go_wp2_with fail
      refine (CF.out w4 g _ P4.out ((HX.out.below B4.out).mono B4.out.size) HV.out).mono ?_
      rintro e w5 ⟨rfl, hP, hS⟩
      have P5' := Lib.hid hP
      have Z5 := Lib.hid (Z4.out.save hS hng)
      have B5 := Lib.hid (B4.out.trans (hS.below hwg B4.out.size))
      have D5 := Lib.hid (D4.out.save hS hgd)
      clear hP hS P4 Z4 B4 D4
      obtain ⟨wd, hwd⟩ : ∃ wd : World, wd = w3 := ⟨_, rfl⟩
      rw [← hwd] at D5 hhd
      clear hwd hgd
      obtain ⟨rs, hrs⟩ : ∃ rs, rs = spliced (vd :: tl) 1 q.1 := ⟨_, rfl⟩
      have HRS := Lib.hid hrs
      rw [← hrs] at P5'
      have P5 := P5'
      clear hrs P5'
      go_wp2_with fail
      refine (CE.out w5 g _ P5.out).mono ?_
      rintro e w99 ⟨rfl, kk, rfl⟩
      have Z99 := Lib.hid (Blk.drewN Z5.out kk)
      have P99 := Lib.hid (Blk.drewN P5.out kk)
      have B99 : Hid (Below w.heap.size w (w5.drewN kk)) := step B5.out (drewed _ kk)
      obtain ⟨wq, hwq⟩ : ∃ wq, wq = w5.drewN kk := ⟨_, rfl⟩
      rw [← hwq] at Z99 P99 B99 ⊢
      clear hwq P5 Z5 B5
      go_wp2_with (first
        | ((with_reducible show wpList _ _ _ (⟨some 48, _, _, _, _, _⟩ :: _) _ _); refine wpList_build_none rfl _ rfl zs BZ ?_)
        | ((with_reducible show wpList _ _ _ (⟨none, .store _ (.tmp 4) _, _, _, _, _⟩ :: _) _ _); refine wpList_store_blk rfl _ (.tmp 4) (.tmp 48) rfl h rfl _ zs zs rfl Z99 69 size_ask HZ HZ HZ1 ?_; intro w10 K10 O10 hg10)
        | fail)
      refine bodyPost_ret (v := .tuple #[.agg zs.toArray, .int .i64 er]) ?_ rfl (HQ.out _ _ rfl (below_only B99.out O10.out hwh))
      exact results_cell_two rfl _ _ h _ _ (0, 0) _ rfl K10.out Tryd.underlying32 rfl (by rw [size_ask]; have := HZ.out; simp [this]) rfl
    have HQ : Hid (∀ vd e w', e = .returned (.tuple #[.agg (acells vd (.slice none 0 0) (.slice none 0 0) ({ zeroAsk with dial := (rdTake xs rd0).1, guid := (rdPart xs 16 (rdTake xs rd0).2).1 })).toArray, .int .i64 0]) → AskIs w' w'.heap.size (acells vd (.slice none 0 0) (.slice none 0 0) ({ zeroAsk with dial := (rdTake xs rd0).1, guid := (rdPart xs 16 (rdTake xs rd0).2).1 })) ({ zeroAsk with dial := (rdTake xs rd0).1, guid := (rdPart xs 16 (rdTake xs rd0).2).1 }) → Below w.heap.size w w' → PGAskPost w 0 xs e w') := by
      intro vd e w' h1 h2 h3
      have h4 : gaskOf 0 xs = { zeroAsk with dial := (rdTake xs rd0).1, guid := (rdPart xs 16 (rdTake xs rd0).2).1 } := by unfold gaskOf; rw [hge, he, if_pos rfl]; unfold gaskP; rw [if_pos rfl]
      unfold PGAskPost
      rw [h4, hge, he]
      exact ⟨vd, h1, h2, h3⟩
    obtain ⟨d, hd⟩ : ∃ x, x = rdTake xs rd0 := ⟨_, rfl⟩
    rw [← hd] at CT CF p1 p2 hok hbyq kdial CE he hre HQ
    clear hd
    obtain ⟨q, hq⟩ : ∃ x, x = rdPart xs 16 d.2 := ⟨_, rfl⟩
    rw [← hq] at CF p2 hok hbyq CE he hre HQ
    clear hq
    rw [he] at CE
    have hre0 := hre he
    have hql := hok hre0
    have kd : ({ zeroAsk with dial := d.1 } : AskV).ok := ⟨kdial, zeroAsk_ok.glen, zeroAsk_ok.gbyte, zeroAsk_ok.plen, zeroAsk_ok.pbyte, zeroAsk_ok.acc, zeroAsk_ok.shr, zeroAsk_ok.way, zeroAsk_ok.opt, zeroAsk_ok.lev, zeroAsk_ok.dur, zeroAsk_ok.file, zeroAsk_ok.at_, zeroAsk_ok.n, zeroAsk_ok.data, zeroAsk_ok.locks, zeroAsk_ok.most, zeroAsk_ok.cls, zeroAsk_ok.siz⟩
    have kw : ({ zeroAsk with dial := d.1, guid := q.1 } : AskV).ok := ⟨kdial, hql, hbyq, zeroAsk_ok.plen, zeroAsk_ok.pbyte, zeroAsk_ok.acc, zeroAsk_ok.shr, zeroAsk_ok.way, zeroAsk_ok.opt, zeroAsk_ok.lev, zeroAsk_ok.dur, zeroAsk_ok.file, zeroAsk_ok.at_, zeroAsk_ok.n, zeroAsk_ok.data, zeroAsk_ok.locks, zeroAsk_ok.most, zeroAsk_ok.cls, zeroAsk_ok.siz⟩
    clear HE hx hk hge hre he hre0
    go_enter Tryd.func22, Tryd.ntmps22
    go_wp2_with (first
      | ((with_reducible show wpList _ _ _ (⟨some 4, _, _, _, _, _⟩ :: _) _ _); refine wpList_alloc_blk rfl _ rfl zs _ ZH ?_; intro h w1 hg1 hg2 Z1 L1)
      | ((with_reducible show wpList _ _ _ (⟨some 9, _, _, _, _, _⟩ :: _) _ _); refine wpList_build_blk rfl _ _ rfl (.slice A n k :: .int .i64 0 :: .int .i64 0 :: []) (by refine Eq.trans ?_ B1; kernel_rfl) ?_)
      | ((with_reducible show wpList _ _ _ (⟨some 10, _, _, _, _, _⟩ :: _) _ _); refine wpList_build_blk rfl _ _ rfl (.slice A n k :: .int .i64 0 :: .int .i64 0 :: zs) (by refine Eq.trans ?_ B2; kernel_rfl) ?_)
      | ((with_reducible show wpList _ _ _ (⟨some 6, _, _, _, _, _⟩ :: _) _ _); refine wpList_alloc_blk rfl _ rfl (.slice none 0 0 :: .int .i64 0 :: .int .i64 0 :: zs) _ ZB ?_; intro g w2 hg3 hg4 P02 L2)
      | ((with_reducible show wpList _ _ _ (⟨none, .store _ (.tmp 6) _, _, _, _, _⟩ :: _) _ _); refine wpList_store_blk rfl _ (.tmp 6) (.tmp 10) rfl g rfl _ (.slice none 0 0 :: .int .i64 0 :: .int .i64 0 :: zs) (.slice A n k :: .int .i64 0 :: .int .i64 0 :: zs) rfl P02 72 size_askB HZB HNB HOB ?_; intro w3 P03 O3 hg5; have hsz := L1.out.size; have hng : h ≠ g := (by omega); have Z3 := Lib.hid ((Z1.out.over L2.out).only O3.out hng); have B3 : Hid (Below w.heap.size w w3) := below_only (step L1.out L2.out) O3.out (by omega); have P3 : Hid (PRd w3 g 86 A n k rd0 zs) := P03; have hwg : w.heap.size ≤ g := (by omega); have hwh : w.heap.size ≤ h := hg1)
      | fail)
    have P3t : Hid (PRd w3 g 86 A n k rd0 (.slice none 0 0 :: tl)) := by rw [← HTL.out]; exact P3.out
    refine (CT.out w3 g P3t.out (HX.out.below B3.out) hwg).mono ?_
    rintro e w4 ⟨rfl, vd, hP, hD, hS⟩
    have P4 := Lib.hid hP
    have Z4 := Lib.hid (Z3.out.save hS hng)
    have B4 := Lib.hid (B3.out.trans (hS.below hwg B3.out.size))
    have D4 := Lib.hid hD
    have hgd : g < w3.heap.size := P3.out.lt
    have hhd : h < w3.heap.size := Z3.out.lt
    clear hP hS hD P3t P3 Z3 B3
    have HV : Hid (17 ≤ (vd :: tl).length) := by show _ ≤ _; have h := HZ.out; rw [HTL.out] at h; simp only [List.length_cons] at h ⊢; omega
    go_wp2_with fail
    refine (CF.out w4 g _ P4.out ((HX.out.below B4.out).mono B4.out.size) HV.out).mono ?_
    rintro e w5 ⟨rfl, hP, hS⟩
    have P5' := Lib.hid hP
    have Z5 := Lib.hid (Z4.out.save hS hng)
    have B5 := Lib.hid (B4.out.trans (hS.below hwg B4.out.size))
    have D5 := Lib.hid (D4.out.save hS hgd)
    clear hP hS P4 Z4 B4 D4
    obtain ⟨wd, hwd⟩ : ∃ wd : World, wd = w3 := ⟨_, rfl⟩
    rw [← hwd] at D5 hhd
    clear hwd hgd
    obtain ⟨rs, hrs⟩ : ∃ rs, rs = spliced (vd :: tl) 1 q.1 := ⟨_, rfl⟩
    have HRS := Lib.hid hrs
    rw [← hrs] at P5'
    have P5 := P5'
    clear hrs P5'
    go_wp2_with fail
    have HEQ : Hid (rs = acells vd (.slice none 0 0) (.slice none 0 0) ({ zeroAsk with dial := d.1, guid := q.1 })) := by
      show _ = _
      rw [HRS.out]
      have h := acells_guidS (vd := vd) (vx := .slice none 0 0) (vl := .slice none 0 0) (a := { zeroAsk with dial := d.1 }) kd q.1
      rw [← h]
      unfold spliced
      rw [hql]
      have e1 : vd :: tl = acells vd (.slice none 0 0) (.slice none 0 0) { zeroAsk with dial := d.1 } := by
        have h1 := HTL.out; rw [HZS.out] at h1; injection h1 with _ h1; rw [← h1]; rfl
      rw [e1]
    have HRL : Hid (rs.length = 69) := by show _ = _; rw [HEQ.out]; exact acells_len kw
    have hvd1 : vd.oneCell' = true := by obtain ⟨_, _, _, rfl, _⟩ := D5.out.open; rfl
    have HR1 : Hid (∀ v ∈ rs, v.oneCell' = true) := by rw [HEQ.out]; exact acells_one hvd1 rfl rfl
    refine (CE.out w5 g _ P5.out).mono ?_
    rintro e w99 ⟨rfl, kk, rfl⟩
    have Z99 := Lib.hid (Blk.drewN Z5.out kk)
    have P99 := Lib.hid (Blk.drewN P5.out kk)
    have B99 : Hid (Below w.heap.size w (w5.drewN kk)) := step B5.out (drewed _ kk)
    have D99 : Hid (OwnK .u16 22 (w5.drewN kk) wd.heap.size vd d.1) := D5.out.keep fun _ _ _ _ => rfl
    obtain ⟨wq, hwq⟩ : ∃ wq, wq = w5.drewN kk := ⟨_, rfl⟩
    rw [← hwq] at Z99 P99 B99 D99 ⊢
    clear hwq P5 Z5 B5
    have hrg : Hid (wq.rangeAt g 3 rs) := Blk.range P99.out 3
    go_wp2_with (first
      | ((with_reducible show wpList _ _ _ (⟨some 51, _, _, _, _, _⟩ :: _) _ _); refine wpList_load_midu rfl _ (.tmp 50) rfl g 3 rfl rs _ hrg Tryd.underlying32 rfl 69 size_ask HRL ?_)
      | ((with_reducible show wpList _ _ _ (⟨none, .store _ (.tmp 4) _, _, _, _, _⟩ :: _) _ _); refine wpList_store_blk rfl _ (.tmp 4) (.tmp 51) rfl h rfl _ zs rs rfl Z99 69 size_ask HZ HRL HR1 ?_; intro w10 K10 O10 hg10)
      | fail)
    refine bodyPost_ret (v := .tuple #[.agg rs.toArray, .int .i64 0]) ?_ rfl ?_
    · exact results_cell_two rfl _ _ h _ _ (0, 0) _ rfl K10.out Tryd.underlying32 rfl (by rw [size_ask]; have := HRL.out; simp [this]) rfl
    · have D10 : OwnK .u16 22 w10 wd.heap.size vd d.1 := D99.out.keep fun i cs hi hc => O10.out.rest i (by obtain ⟨hb, _⟩ := D99.out.block hi; omega)
      obtain ⟨Av, nv, cv, hv, hF⟩ := D10.holdsF
      exact HQ.out vd _ w10 (congrArg (fun r : List Value => Ending.returned (.tuple #[.agg r.toArray, .int .i64 0])) HEQ.out) ⟨Av, nv, cv, none, 0, 0, none, 0, 0, by rw [hv], hF, Holds.nil _ _, HoldsS.nil _ _ _ _⟩ (below_only B99.out O10.out hwh)
  by_cases h1 : c = 1
  · subst h1
    have p0 : rd0.p ≤ n := Nat.zero_le _
    have p1 : (rdPart xs 32 rd0).2.p ≤ n := rdPart_place hl p0
    have p2 : (prdText xs (rdPart xs 32 rd0).2).2.p ≤ n := prdText_place hby hl p1
    have CF : Hid (∀ (w' : World) (g : Nat) (rest : List Value), PRd w' g 86 A n k rd0 rest → Holds w' w'.heap.size A n k xs → 49 ≤ rest.length → Calls Tryd.prog 52 #[.pointer (some ⟨g, 0, none⟩), .slice (some ⟨g, 20, none⟩) 32 32] w' (PEndPost w' g 86 A n k (rdPart xs 32 rd0).2 (spliced rest 17 (rdPart xs 32 rd0).1))) := fun w' g rest h1 h2 h3 => fill_any w' g 86 A n k xs _ 17 32 32 rest h1 h2 p0 (by decide) (by decide) h3
    have CX : Hid (∀ (w' : World) (g : Nat) (rest : List Value), PRd w' g 86 A n k (rdPart xs 32 rd0).2 rest → Holds w' w'.heap.size A n k xs → Calls Tryd.prog 53 #[.pointer (some ⟨g, 0, none⟩)] w' (PTextRPost w' g 86 A n k (prdText xs (rdPart xs 32 rd0).2) rest)) := fun w' g rest h1 h2 => rtext_any w' g 86 A n k xs _ rest h1 h2 p1
    have hok := rdPart_ok (m := 32) (r := rd0) hl
    have hbyq := rdPart_bytes hby 32 rd0
    have hql := rdPart_len (xs := xs) (m := 32) (r := rd0)
    have hte : (prdText xs (rdPart xs 32 rd0).2).2.e = 0 → (rdPart xs 32 rd0).2.e = 0 := prdText_e
    have CE : Hid (∀ (w' : World) (g : Nat) (rest : List Value), PRd w' g 86 A n k (prdText xs (rdPart xs 32 rd0).2).2 rest → Calls Tryd.prog 55 #[.pointer (some ⟨g, 0, none⟩)] w' fun e w2 => e = .returned (.int .i64 (rdEnd xs (prdText xs (rdPart xs 32 rd0).2).2)) ∧ ∃ j, w'.drewN j = w2) := fun w' g rest h1 => rend_any w' g 86 A n k xs _ rest h1 hl hrm p2
    have hre : rdEnd xs (prdText xs (rdPart xs 32 rd0).2).2 = 0 → (prdText xs (rdPart xs 32 rd0).2).2.e = 0 := rdEnd_zero
    have hge : gaskErr 1 xs = rdEnd xs (prdText xs (rdPart xs 32 rd0).2).2 := by unfold gaskErr gaskP; rw [if_pos hk, if_neg (by decide), if_pos rfl]
    by_cases he : rdEnd xs (prdText xs (rdPart xs 32 rd0).2).2 = 0
    rotate_left
    · have HQ := Lib.hid (HE.out _ hge he)
      have hne : (rdEnd xs (prdText xs (rdPart xs 32 rd0).2).2 != 0) = true := by simpa using he
      obtain ⟨q, hq⟩ : ∃ x, x = rdPart xs 32 rd0 := ⟨_, rfl⟩
      rw [← hq] at CF CX p1 p2 hok hbyq hql hte CE he hre HQ hne
      clear hq
      obtain ⟨t, ht⟩ : ∃ x, x = prdText xs q.2 := ⟨_, rfl⟩
      rw [← ht] at CX p2 hte CE he hre HQ hne
      clear ht
      obtain ⟨er, her⟩ : ∃ x, x = rdEnd xs t.2 := ⟨_, rfl⟩
      rw [← her] at CE he HQ hne hre
      clear her he hre
      clear HE hx hk hge
      go_enter Tryd.func22, Tryd.ntmps22
      go_wp2_with (first
        | ((with_reducible show wpList _ _ _ (⟨some 4, _, _, _, _, _⟩ :: _) _ _); refine wpList_alloc_blk rfl _ rfl zs _ ZH ?_; intro h w1 hg1 hg2 Z1 L1)
        | ((with_reducible show wpList _ _ _ (⟨some 9, _, _, _, _, _⟩ :: _) _ _); refine wpList_build_blk rfl _ _ rfl (.slice A n k :: .int .i64 0 :: .int .i64 0 :: []) (by refine Eq.trans ?_ B1; kernel_rfl) ?_)
        | ((with_reducible show wpList _ _ _ (⟨some 10, _, _, _, _, _⟩ :: _) _ _); refine wpList_build_blk rfl _ _ rfl (.slice A n k :: .int .i64 0 :: .int .i64 0 :: zs) (by refine Eq.trans ?_ B2; kernel_rfl) ?_)
        | ((with_reducible show wpList _ _ _ (⟨some 6, _, _, _, _, _⟩ :: _) _ _); refine wpList_alloc_blk rfl _ rfl (.slice none 0 0 :: .int .i64 0 :: .int .i64 0 :: zs) _ ZB ?_; intro g w2 hg3 hg4 P02 L2)
        | ((with_reducible show wpList _ _ _ (⟨none, .store _ (.tmp 6) _, _, _, _, _⟩ :: _) _ _); refine wpList_store_blk rfl _ (.tmp 6) (.tmp 10) rfl g rfl _ (.slice none 0 0 :: .int .i64 0 :: .int .i64 0 :: zs) (.slice A n k :: .int .i64 0 :: .int .i64 0 :: zs) rfl P02 72 size_askB HZB HNB HOB ?_; intro w3 P03 O3 hg5; have hsz := L1.out.size; have hng : h ≠ g := (by omega); have Z3 := Lib.hid ((Z1.out.over L2.out).only O3.out hng); have B3 : Hid (Below w.heap.size w w3) := below_only (step L1.out L2.out) O3.out (by omega); have P3 : Hid (PRd w3 g 86 A n k rd0 zs) := P03; have hwg : w.heap.size ≤ g := (by omega); have hwh : w.heap.size ≤ h := hg1)
        | fail)
      have HV : Hid (49 ≤ zs.length) := by show _ ≤ _; rw [HZ.out]; omega
      refine (CF.out w3 g _ P3.out ((HX.out.below B3.out).mono B3.out.size) HV.out).mono ?_
      rintro e w4 ⟨rfl, hP, hS⟩
      have P4' := Lib.hid hP
      have Z4 := Lib.hid (Z3.out.save hS hng)
      have B4 := Lib.hid (B3.out.trans (hS.below hwg B3.out.size))
      clear hP hS P3 Z3 B3
      obtain ⟨r4, hr4⟩ : ∃ rs, rs = spliced zs 17 q.1 := ⟨_, rfl⟩
      have HR4 := Lib.hid hr4
      have hr4l : r4.length = 69 := by rw [hr4, spliced_len (by have h := HZ.out; have h2 := hql; omega)]; exact HZ.out
      rw [← hr4] at P4'
      have P4 := P4'
      clear hr4 P4'
      go_wp2_with fail
      refine (CX.out w4 g _ P4.out ((HX.out.below B4.out).mono B4.out.size)).mono ?_
      rintro e w5 ⟨rfl, hP, hS⟩
      have P5 := Lib.hid hP
      have Z5 := Lib.hid (Z4.out.save hS hng)
      have B5 := Lib.hid (B4.out.trans (hS.below hwg B4.out.size))
      clear hP hS P4 Z4 B4
      obtain ⟨rs, hrs⟩ : ∃ rs, rs = r4.set 49 (.string ⟨t.1.toArray⟩) := ⟨_, rfl⟩
      have HRS := Lib.hid hrs
      have hst : ∀ u : Value, (Value.slice A n k :: Value.int .i64 (t.2.p : Int) :: Value.int .i64 t.2.e :: r4).set 52 u = Value.slice A n k :: Value.int .i64 (t.2.p : Int) :: Value.int .i64 t.2.e :: r4.set 49 u := fun _ => rfl
      have HST := Lib.hid (hst (.string ⟨t.1.toArray⟩))
      rw [← hrs] at HST
      clear hst hrs
      obtain ⟨tx, htx⟩ : ∃ x : ByteArray, x = ⟨t.1.toArray⟩ := ⟨_, rfl⟩
      have HTX := Lib.hid htx
      rw [← htx] at HST HRS ⊢
      clear htx
      obtain ⟨cc, hcc⟩ : ∃ x, x = Value.slice A n k :: Value.int .i64 (t.2.p : Int) :: Value.int .i64 t.2.e :: r4 := ⟨_, rfl⟩
      have hcl : 52 < cc.length := by rw [hcc]; simp only [List.length_cons, hr4l]; omega
      have HCL := Lib.hid hcl
      have PC : Hid (Blk w5 g 86 cc) := by rw [hcc]; exact P5.out
      rw [← hcc] at HST
      clear hcc hcl P5 hr4l
      go_wp2_with (first
        | ((with_reducible show wpList _ _ _ (⟨none, .store _ (.tmp 31) _, _, _, _, _⟩ :: _) _ _); refine wpList_store_fld rfl _ (.tmp 31) (.tmp 29) rfl g 52 rfl _ cc (.string tx) rfl PC HCL (by kernel_rfl) rfl ?_; intro w6 P06 O6 q6; rw [HST.out] at P06; have P6 : Hid (PRd w6 g 86 A n k t.2 rs) := P06; have Z6 := Lib.hid (Z5.out.only O6.out hng); have B6 : Hid (Below w.heap.size w w6) := below_only B5.out O6.out hwg)
        | fail)
      clear P06 O6 q6 PC Z5 B5
      refine (CE.out w6 g _ P6.out).mono ?_
      rintro e w99 ⟨rfl, kk, rfl⟩
      have Z99 := Lib.hid (Blk.drewN Z6.out kk)
      have P99 := Lib.hid (Blk.drewN P6.out kk)
      have B99 : Hid (Below w.heap.size w (w6.drewN kk)) := step B6.out (drewed _ kk)
      obtain ⟨wq, hwq⟩ : ∃ wq, wq = w6.drewN kk := ⟨_, rfl⟩
      rw [← hwq] at Z99 P99 B99 ⊢
      clear hwq P6 Z6 B6
      go_wp2_with (first
        | ((with_reducible show wpList _ _ _ (⟨some 48, _, _, _, _, _⟩ :: _) _ _); refine wpList_build_none rfl _ rfl zs BZ ?_)
        | ((with_reducible show wpList _ _ _ (⟨none, .store _ (.tmp 4) _, _, _, _, _⟩ :: _) _ _); refine wpList_store_blk rfl _ (.tmp 4) (.tmp 48) rfl h rfl _ zs zs rfl Z99 69 size_ask HZ HZ HZ1 ?_; intro w10 K10 O10 hg10)
        | fail)
      refine bodyPost_ret (v := .tuple #[.agg zs.toArray, .int .i64 er]) ?_ rfl (HQ.out _ _ rfl (below_only B99.out O10.out hwh))
      exact results_cell_two rfl _ _ h _ _ (0, 0) _ rfl K10.out Tryd.underlying32 rfl (by rw [size_ask]; have := HZ.out; simp [this]) rfl
    have HQ : Hid (∀ vd e w', e = .returned (.tuple #[.agg (acells vd (.slice none 0 0) (.slice none 0 0) ({ zeroAsk with proof := (rdPart xs 32 rd0).1, user := ⟨(prdText xs (rdPart xs 32 rd0).2).1.toArray⟩ })).toArray, .int .i64 0]) → AskIs w' w'.heap.size (acells vd (.slice none 0 0) (.slice none 0 0) ({ zeroAsk with proof := (rdPart xs 32 rd0).1, user := ⟨(prdText xs (rdPart xs 32 rd0).2).1.toArray⟩ })) ({ zeroAsk with proof := (rdPart xs 32 rd0).1, user := ⟨(prdText xs (rdPart xs 32 rd0).2).1.toArray⟩ }) → Below w.heap.size w w' → PGAskPost w 1 xs e w') := by
      intro vd e w' h1 h2 h3
      have h4 : gaskOf 1 xs = { zeroAsk with proof := (rdPart xs 32 rd0).1, user := ⟨(prdText xs (rdPart xs 32 rd0).2).1.toArray⟩ } := by unfold gaskOf; rw [hge, he, if_pos rfl]; unfold gaskP; rw [if_neg (by decide), if_pos rfl]
      unfold PGAskPost
      rw [h4, hge, he]
      exact ⟨vd, h1, h2, h3⟩
    obtain ⟨q, hq⟩ : ∃ x, x = rdPart xs 32 rd0 := ⟨_, rfl⟩
    rw [← hq] at CF CX p1 p2 hok hbyq hql hte CE he hre HQ
    clear hq
    obtain ⟨t, ht⟩ : ∃ x, x = prdText xs q.2 := ⟨_, rfl⟩
    rw [← ht] at CX p2 hte CE he hre HQ
    clear ht
    rw [he] at CE
    have hre0 := hre he
    have hqe := hok (hte hre0)
    have kd : ({ zeroAsk with proof := q.1 } : AskV).ok := ⟨zeroAsk_ok.dial, zeroAsk_ok.glen, zeroAsk_ok.gbyte, hqe, hbyq, zeroAsk_ok.acc, zeroAsk_ok.shr, zeroAsk_ok.way, zeroAsk_ok.opt, zeroAsk_ok.lev, zeroAsk_ok.dur, zeroAsk_ok.file, zeroAsk_ok.at_, zeroAsk_ok.n, zeroAsk_ok.data, zeroAsk_ok.locks, zeroAsk_ok.most, zeroAsk_ok.cls, zeroAsk_ok.siz⟩
    have kw : ({ zeroAsk with proof := q.1, user := ⟨t.1.toArray⟩ } : AskV).ok := ⟨kd.dial, kd.glen, kd.gbyte, kd.plen, kd.pbyte, kd.acc, kd.shr, kd.way, kd.opt, kd.lev, kd.dur, kd.file, kd.at_, kd.n, kd.data, kd.locks, kd.most, kd.cls, kd.siz⟩
    clear HE hx hk hge hre he hre0
    go_enter Tryd.func22, Tryd.ntmps22
    go_wp2_with (first
      | ((with_reducible show wpList _ _ _ (⟨some 4, _, _, _, _, _⟩ :: _) _ _); refine wpList_alloc_blk rfl _ rfl zs _ ZH ?_; intro h w1 hg1 hg2 Z1 L1)
      | ((with_reducible show wpList _ _ _ (⟨some 9, _, _, _, _, _⟩ :: _) _ _); refine wpList_build_blk rfl _ _ rfl (.slice A n k :: .int .i64 0 :: .int .i64 0 :: []) (by refine Eq.trans ?_ B1; kernel_rfl) ?_)
      | ((with_reducible show wpList _ _ _ (⟨some 10, _, _, _, _, _⟩ :: _) _ _); refine wpList_build_blk rfl _ _ rfl (.slice A n k :: .int .i64 0 :: .int .i64 0 :: zs) (by refine Eq.trans ?_ B2; kernel_rfl) ?_)
      | ((with_reducible show wpList _ _ _ (⟨some 6, _, _, _, _, _⟩ :: _) _ _); refine wpList_alloc_blk rfl _ rfl (.slice none 0 0 :: .int .i64 0 :: .int .i64 0 :: zs) _ ZB ?_; intro g w2 hg3 hg4 P02 L2)
      | ((with_reducible show wpList _ _ _ (⟨none, .store _ (.tmp 6) _, _, _, _, _⟩ :: _) _ _); refine wpList_store_blk rfl _ (.tmp 6) (.tmp 10) rfl g rfl _ (.slice none 0 0 :: .int .i64 0 :: .int .i64 0 :: zs) (.slice A n k :: .int .i64 0 :: .int .i64 0 :: zs) rfl P02 72 size_askB HZB HNB HOB ?_; intro w3 P03 O3 hg5; have hsz := L1.out.size; have hng : h ≠ g := (by omega); have Z3 := Lib.hid ((Z1.out.over L2.out).only O3.out hng); have B3 : Hid (Below w.heap.size w w3) := below_only (step L1.out L2.out) O3.out (by omega); have P3 : Hid (PRd w3 g 86 A n k rd0 zs) := P03; have hwg : w.heap.size ≤ g := (by omega); have hwh : w.heap.size ≤ h := hg1)
      | fail)
    have HV : Hid (49 ≤ zs.length) := by show _ ≤ _; rw [HZ.out]; omega
    refine (CF.out w3 g _ P3.out ((HX.out.below B3.out).mono B3.out.size) HV.out).mono ?_
    rintro e w4 ⟨rfl, hP, hS⟩
    have P4' := Lib.hid hP
    have Z4 := Lib.hid (Z3.out.save hS hng)
    have B4 := Lib.hid (B3.out.trans (hS.below hwg B3.out.size))
    clear hP hS P3 Z3 B3
    obtain ⟨r4, hr4⟩ : ∃ rs, rs = spliced zs 17 q.1 := ⟨_, rfl⟩
    have HR4 := Lib.hid hr4
    have hr4l : r4.length = 69 := by rw [hr4, spliced_len (by have h := HZ.out; have h2 := hql; omega)]; exact HZ.out
    rw [← hr4] at P4'
    have P4 := P4'
    clear hr4 P4'
    go_wp2_with fail
    refine (CX.out w4 g _ P4.out ((HX.out.below B4.out).mono B4.out.size)).mono ?_
    rintro e w5 ⟨rfl, hP, hS⟩
    have P5 := Lib.hid hP
    have Z5 := Lib.hid (Z4.out.save hS hng)
    have B5 := Lib.hid (B4.out.trans (hS.below hwg B4.out.size))
    clear hP hS P4 Z4 B4
    obtain ⟨rs, hrs⟩ : ∃ rs, rs = r4.set 49 (.string ⟨t.1.toArray⟩) := ⟨_, rfl⟩
    have HRS := Lib.hid hrs
    have hst : ∀ u : Value, (Value.slice A n k :: Value.int .i64 (t.2.p : Int) :: Value.int .i64 t.2.e :: r4).set 52 u = Value.slice A n k :: Value.int .i64 (t.2.p : Int) :: Value.int .i64 t.2.e :: r4.set 49 u := fun _ => rfl
    have HST := Lib.hid (hst (.string ⟨t.1.toArray⟩))
    rw [← hrs] at HST
    clear hst hrs
    obtain ⟨tx, htx⟩ : ∃ x : ByteArray, x = ⟨t.1.toArray⟩ := ⟨_, rfl⟩
    have HTX := Lib.hid htx
    rw [← htx] at HST HRS ⊢
    clear htx
    obtain ⟨cc, hcc⟩ : ∃ x, x = Value.slice A n k :: Value.int .i64 (t.2.p : Int) :: Value.int .i64 t.2.e :: r4 := ⟨_, rfl⟩
    have hcl : 52 < cc.length := by rw [hcc]; simp only [List.length_cons, hr4l]; omega
    have HCL := Lib.hid hcl
    have PC : Hid (Blk w5 g 86 cc) := by rw [hcc]; exact P5.out
    rw [← hcc] at HST
    clear hcc hcl P5 hr4l
    go_wp2_with (first
      | ((with_reducible show wpList _ _ _ (⟨none, .store _ (.tmp 31) _, _, _, _, _⟩ :: _) _ _); refine wpList_store_fld rfl _ (.tmp 31) (.tmp 29) rfl g 52 rfl _ cc (.string tx) rfl PC HCL (by kernel_rfl) rfl ?_; intro w6 P06 O6 q6; rw [HST.out] at P06; have P6 : Hid (PRd w6 g 86 A n k t.2 rs) := P06; have Z6 := Lib.hid (Z5.out.only O6.out hng); have B6 : Hid (Below w.heap.size w w6) := below_only B5.out O6.out hwg)
      | fail)
    clear P06 O6 q6 PC Z5 B5
    have HEQ : Hid (rs = acells (.slice none 0 0) (.slice none 0 0) (.slice none 0 0) ({ zeroAsk with proof := q.1, user := ⟨t.1.toArray⟩ })) := by
      show _ = _
      rw [HRS.out, HR4.out, HZS.out, HTX.out]
      have h := acells_proofS (vd := .slice none 0 0) (vx := .slice none 0 0) (vl := .slice none 0 0) (a := zeroAsk) zeroAsk_ok q.1
      have e1 : spliced (acells (.slice none 0 0) (.slice none 0 0) (.slice none 0 0) zeroAsk) 17 q.1 = acells (.slice none 0 0) (.slice none 0 0) (.slice none 0 0) { zeroAsk with proof := q.1 } := by rw [← h]; unfold spliced; rw [hqe]
      rw [e1]
      exact acells_user (a := { zeroAsk with proof := q.1 }) kd _
    have HRL : Hid (rs.length = 69) := by show _ = _; rw [HEQ.out]; exact acells_len kw
    have HR1 : Hid (∀ v ∈ rs, v.oneCell' = true) := by rw [HEQ.out]; exact acells_one rfl rfl rfl
    refine (CE.out w6 g _ P6.out).mono ?_
    rintro e w99 ⟨rfl, kk, rfl⟩
    have Z99 := Lib.hid (Blk.drewN Z6.out kk)
    have P99 := Lib.hid (Blk.drewN P6.out kk)
    have B99 : Hid (Below w.heap.size w (w6.drewN kk)) := step B6.out (drewed _ kk)
    obtain ⟨wq, hwq⟩ : ∃ wq, wq = w6.drewN kk := ⟨_, rfl⟩
    rw [← hwq] at Z99 P99 B99 ⊢
    clear hwq P6 Z6 B6
    have hrg : Hid (wq.rangeAt g 3 rs) := Blk.range P99.out 3
    go_wp2_with (first
      | ((with_reducible show wpList _ _ _ (⟨some 51, _, _, _, _, _⟩ :: _) _ _); refine wpList_load_midu rfl _ (.tmp 50) rfl g 3 rfl rs _ hrg Tryd.underlying32 rfl 69 size_ask HRL ?_)
      | ((with_reducible show wpList _ _ _ (⟨none, .store _ (.tmp 4) _, _, _, _, _⟩ :: _) _ _); refine wpList_store_blk rfl _ (.tmp 4) (.tmp 51) rfl h rfl _ zs rs rfl Z99 69 size_ask HZ HRL HR1 ?_; intro w10 K10 O10 hg10)
      | fail)
    refine bodyPost_ret (v := .tuple #[.agg rs.toArray, .int .i64 0]) ?_ rfl ?_
    · exact results_cell_two rfl _ _ h _ _ (0, 0) _ rfl K10.out Tryd.underlying32 rfl (by rw [size_ask]; have := HRL.out; simp [this]) rfl
    · exact HQ.out (.slice none 0 0) _ w10 (congrArg (fun r : List Value => Ending.returned (.tuple #[.agg r.toArray, .int .i64 0])) HEQ.out) ⟨none, 0, 0, none, 0, 0, none, 0, 0, rfl, HoldsF.nil _ _ _, Holds.nil _ _, HoldsS.nil _ _ _ _⟩ (below_only B99.out O10.out hwh)
  by_cases h3 : c = 3
  · subst h3
    have p0 : rd0.p ≤ n := Nat.zero_le _
    have p2 : (prdText xs rd0).2.p ≤ n := prdText_place hby hl p0
    have CX : Hid (∀ (w' : World) (g : Nat) (rest : List Value), PRd w' g 86 A n k rd0 rest → Holds w' w'.heap.size A n k xs → Calls Tryd.prog 53 #[.pointer (some ⟨g, 0, none⟩)] w' (PTextRPost w' g 86 A n k (prdText xs rd0) rest)) := fun w' g rest h1 h2 => rtext_any w' g 86 A n k xs _ rest h1 h2 p0
    have CE : Hid (∀ (w' : World) (g : Nat) (rest : List Value), PRd w' g 86 A n k (prdText xs rd0).2 rest → Calls Tryd.prog 55 #[.pointer (some ⟨g, 0, none⟩)] w' fun e w2 => e = .returned (.int .i64 (rdEnd xs (prdText xs rd0).2)) ∧ ∃ j, w'.drewN j = w2) := fun w' g rest h1 => rend_any w' g 86 A n k xs _ rest h1 hl hrm p2
    have hre : rdEnd xs (prdText xs rd0).2 = 0 → (prdText xs rd0).2.e = 0 := rdEnd_zero
    have hge : gaskErr 3 xs = rdEnd xs (prdText xs rd0).2 := by unfold gaskErr gaskP; rw [if_pos hk, if_neg (by decide), if_neg (by decide), if_pos rfl]
    by_cases he : rdEnd xs (prdText xs rd0).2 = 0
    rotate_left
    · have HQ := Lib.hid (HE.out _ hge he)
      have hne : (rdEnd xs (prdText xs rd0).2 != 0) = true := by simpa using he
      obtain ⟨t, ht⟩ : ∃ x, x = prdText xs rd0 := ⟨_, rfl⟩
      rw [← ht] at CX p2 CE he hre HQ hne
      clear ht
      obtain ⟨er, her⟩ : ∃ x, x = rdEnd xs t.2 := ⟨_, rfl⟩
      rw [← her] at CE he HQ hne hre
      clear her he hre
      clear HE hx hk hge
      go_enter Tryd.func22, Tryd.ntmps22
      go_wp2_with (first
        | ((with_reducible show wpList _ _ _ (⟨some 4, _, _, _, _, _⟩ :: _) _ _); refine wpList_alloc_blk rfl _ rfl zs _ ZH ?_; intro h w1 hg1 hg2 Z1 L1)
        | ((with_reducible show wpList _ _ _ (⟨some 9, _, _, _, _, _⟩ :: _) _ _); refine wpList_build_blk rfl _ _ rfl (.slice A n k :: .int .i64 0 :: .int .i64 0 :: []) (by refine Eq.trans ?_ B1; kernel_rfl) ?_)
        | ((with_reducible show wpList _ _ _ (⟨some 10, _, _, _, _, _⟩ :: _) _ _); refine wpList_build_blk rfl _ _ rfl (.slice A n k :: .int .i64 0 :: .int .i64 0 :: zs) (by refine Eq.trans ?_ B2; kernel_rfl) ?_)
        | ((with_reducible show wpList _ _ _ (⟨some 6, _, _, _, _, _⟩ :: _) _ _); refine wpList_alloc_blk rfl _ rfl (.slice none 0 0 :: .int .i64 0 :: .int .i64 0 :: zs) _ ZB ?_; intro g w2 hg3 hg4 P02 L2)
        | ((with_reducible show wpList _ _ _ (⟨none, .store _ (.tmp 6) _, _, _, _, _⟩ :: _) _ _); refine wpList_store_blk rfl _ (.tmp 6) (.tmp 10) rfl g rfl _ (.slice none 0 0 :: .int .i64 0 :: .int .i64 0 :: zs) (.slice A n k :: .int .i64 0 :: .int .i64 0 :: zs) rfl P02 72 size_askB HZB HNB HOB ?_; intro w3 P03 O3 hg5; have hsz := L1.out.size; have hng : h ≠ g := (by omega); have Z3 := Lib.hid ((Z1.out.over L2.out).only O3.out hng); have B3 : Hid (Below w.heap.size w w3) := below_only (step L1.out L2.out) O3.out (by omega); have P3 : Hid (PRd w3 g 86 A n k rd0 zs) := P03; have hwg : w.heap.size ≤ g := (by omega); have hwh : w.heap.size ≤ h := hg1)
        | fail)
      refine (CX.out w3 g _ P3.out ((HX.out.below B3.out).mono B3.out.size)).mono ?_
      rintro e w5 ⟨rfl, hP, hS⟩
      have P5 := Lib.hid hP
      have Z5 := Lib.hid (Z3.out.save hS hng)
      have B5 := Lib.hid (B3.out.trans (hS.below hwg B3.out.size))
      clear hP hS P3 Z3 B3
      obtain ⟨rs, hrs⟩ : ∃ rs, rs = zs.set 50 (.string ⟨t.1.toArray⟩) := ⟨_, rfl⟩
      have HRS := Lib.hid hrs
      have hst : ∀ u : Value, (Value.slice A n k :: Value.int .i64 (t.2.p : Int) :: Value.int .i64 t.2.e :: zs).set 53 u = Value.slice A n k :: Value.int .i64 (t.2.p : Int) :: Value.int .i64 t.2.e :: zs.set 50 u := fun _ => rfl
      have HST := Lib.hid (hst (.string ⟨t.1.toArray⟩))
      rw [← hrs] at HST
      clear hst hrs
      obtain ⟨tx, htx⟩ : ∃ x : ByteArray, x = ⟨t.1.toArray⟩ := ⟨_, rfl⟩
      have HTX := Lib.hid htx
      rw [← htx] at HST HRS ⊢
      clear htx
      obtain ⟨cc, hcc⟩ : ∃ x, x = Value.slice A n k :: Value.int .i64 (t.2.p : Int) :: Value.int .i64 t.2.e :: zs := ⟨_, rfl⟩
      have hcl : 53 < cc.length := by rw [hcc]; simp only [List.length_cons, HZ.out]; omega
      have HCL := Lib.hid hcl
      have PC : Hid (Blk w5 g 86 cc) := by rw [hcc]; exact P5.out
      rw [← hcc] at HST
      clear hcc hcl P5
      go_wp2_with (first
        | ((with_reducible show wpList _ _ _ (⟨none, .store _ (.tmp 37) _, _, _, _, _⟩ :: _) _ _); refine wpList_store_fld rfl _ (.tmp 37) (.tmp 35) rfl g 53 rfl _ cc (.string tx) rfl PC HCL (by kernel_rfl) rfl ?_; intro w6 P06 O6 q6; rw [HST.out] at P06; have P6 : Hid (PRd w6 g 86 A n k t.2 rs) := P06; have Z6 := Lib.hid (Z5.out.only O6.out hng); have B6 : Hid (Below w.heap.size w w6) := below_only B5.out O6.out hwg)
        | fail)
      clear P06 O6 q6 PC Z5 B5
      refine (CE.out w6 g _ P6.out).mono ?_
      rintro e w99 ⟨rfl, kk, rfl⟩
      have Z99 := Lib.hid (Blk.drewN Z6.out kk)
      have P99 := Lib.hid (Blk.drewN P6.out kk)
      have B99 : Hid (Below w.heap.size w (w6.drewN kk)) := step B6.out (drewed _ kk)
      obtain ⟨wq, hwq⟩ : ∃ wq, wq = w6.drewN kk := ⟨_, rfl⟩
      rw [← hwq] at Z99 P99 B99 ⊢
      clear hwq P6 Z6 B6
      go_wp2_with (first
        | ((with_reducible show wpList _ _ _ (⟨some 48, _, _, _, _, _⟩ :: _) _ _); refine wpList_build_none rfl _ rfl zs BZ ?_)
        | ((with_reducible show wpList _ _ _ (⟨none, .store _ (.tmp 4) _, _, _, _, _⟩ :: _) _ _); refine wpList_store_blk rfl _ (.tmp 4) (.tmp 48) rfl h rfl _ zs zs rfl Z99 69 size_ask HZ HZ HZ1 ?_; intro w10 K10 O10 hg10)
        | fail)
      refine bodyPost_ret (v := .tuple #[.agg zs.toArray, .int .i64 er]) ?_ rfl (HQ.out _ _ rfl (below_only B99.out O10.out hwh))
      exact results_cell_two rfl _ _ h _ _ (0, 0) _ rfl K10.out Tryd.underlying32 rfl (by rw [size_ask]; have := HZ.out; simp [this]) rfl
    have HQ : Hid (∀ vd e w', e = .returned (.tuple #[.agg (acells vd (.slice none 0 0) (.slice none 0 0) ({ zeroAsk with share := ⟨(prdText xs rd0).1.toArray⟩ })).toArray, .int .i64 0]) → AskIs w' w'.heap.size (acells vd (.slice none 0 0) (.slice none 0 0) ({ zeroAsk with share := ⟨(prdText xs rd0).1.toArray⟩ })) ({ zeroAsk with share := ⟨(prdText xs rd0).1.toArray⟩ }) → Below w.heap.size w w' → PGAskPost w 3 xs e w') := by
      intro vd e w' h1 h2 h3
      have h4 : gaskOf 3 xs = { zeroAsk with share := ⟨(prdText xs rd0).1.toArray⟩ } := by unfold gaskOf; rw [hge, he, if_pos rfl]; unfold gaskP; rw [if_neg (by decide), if_neg (by decide), if_pos rfl]
      unfold PGAskPost
      rw [h4, hge, he]
      exact ⟨vd, h1, h2, h3⟩
    obtain ⟨t, ht⟩ : ∃ x, x = prdText xs rd0 := ⟨_, rfl⟩
    rw [← ht] at CX p2 CE he hre HQ
    clear ht
    rw [he] at CE
    have hre0 := hre he
    have kw : ({ zeroAsk with share := ⟨t.1.toArray⟩ } : AskV).ok := ⟨zeroAsk_ok.dial, zeroAsk_ok.glen, zeroAsk_ok.gbyte, zeroAsk_ok.plen, zeroAsk_ok.pbyte, zeroAsk_ok.acc, zeroAsk_ok.shr, zeroAsk_ok.way, zeroAsk_ok.opt, zeroAsk_ok.lev, zeroAsk_ok.dur, zeroAsk_ok.file, zeroAsk_ok.at_, zeroAsk_ok.n, zeroAsk_ok.data, zeroAsk_ok.locks, zeroAsk_ok.most, zeroAsk_ok.cls, zeroAsk_ok.siz⟩
    clear HE hx hk hge hre he hre0
    go_enter Tryd.func22, Tryd.ntmps22
    go_wp2_with (first
      | ((with_reducible show wpList _ _ _ (⟨some 4, _, _, _, _, _⟩ :: _) _ _); refine wpList_alloc_blk rfl _ rfl zs _ ZH ?_; intro h w1 hg1 hg2 Z1 L1)
      | ((with_reducible show wpList _ _ _ (⟨some 9, _, _, _, _, _⟩ :: _) _ _); refine wpList_build_blk rfl _ _ rfl (.slice A n k :: .int .i64 0 :: .int .i64 0 :: []) (by refine Eq.trans ?_ B1; kernel_rfl) ?_)
      | ((with_reducible show wpList _ _ _ (⟨some 10, _, _, _, _, _⟩ :: _) _ _); refine wpList_build_blk rfl _ _ rfl (.slice A n k :: .int .i64 0 :: .int .i64 0 :: zs) (by refine Eq.trans ?_ B2; kernel_rfl) ?_)
      | ((with_reducible show wpList _ _ _ (⟨some 6, _, _, _, _, _⟩ :: _) _ _); refine wpList_alloc_blk rfl _ rfl (.slice none 0 0 :: .int .i64 0 :: .int .i64 0 :: zs) _ ZB ?_; intro g w2 hg3 hg4 P02 L2)
      | ((with_reducible show wpList _ _ _ (⟨none, .store _ (.tmp 6) _, _, _, _, _⟩ :: _) _ _); refine wpList_store_blk rfl _ (.tmp 6) (.tmp 10) rfl g rfl _ (.slice none 0 0 :: .int .i64 0 :: .int .i64 0 :: zs) (.slice A n k :: .int .i64 0 :: .int .i64 0 :: zs) rfl P02 72 size_askB HZB HNB HOB ?_; intro w3 P03 O3 hg5; have hsz := L1.out.size; have hng : h ≠ g := (by omega); have Z3 := Lib.hid ((Z1.out.over L2.out).only O3.out hng); have B3 : Hid (Below w.heap.size w w3) := below_only (step L1.out L2.out) O3.out (by omega); have P3 : Hid (PRd w3 g 86 A n k rd0 zs) := P03; have hwg : w.heap.size ≤ g := (by omega); have hwh : w.heap.size ≤ h := hg1)
      | fail)
    refine (CX.out w3 g _ P3.out ((HX.out.below B3.out).mono B3.out.size)).mono ?_
    rintro e w5 ⟨rfl, hP, hS⟩
    have P5 := Lib.hid hP
    have Z5 := Lib.hid (Z3.out.save hS hng)
    have B5 := Lib.hid (B3.out.trans (hS.below hwg B3.out.size))
    clear hP hS P3 Z3 B3
    obtain ⟨rs, hrs⟩ : ∃ rs, rs = zs.set 50 (.string ⟨t.1.toArray⟩) := ⟨_, rfl⟩
    have HRS := Lib.hid hrs
    have hst : ∀ u : Value, (Value.slice A n k :: Value.int .i64 (t.2.p : Int) :: Value.int .i64 t.2.e :: zs).set 53 u = Value.slice A n k :: Value.int .i64 (t.2.p : Int) :: Value.int .i64 t.2.e :: zs.set 50 u := fun _ => rfl
    have HST := Lib.hid (hst (.string ⟨t.1.toArray⟩))
    rw [← hrs] at HST
    clear hst hrs
    obtain ⟨tx, htx⟩ : ∃ x : ByteArray, x = ⟨t.1.toArray⟩ := ⟨_, rfl⟩
    have HTX := Lib.hid htx
    rw [← htx] at HST HRS ⊢
    clear htx
    obtain ⟨cc, hcc⟩ : ∃ x, x = Value.slice A n k :: Value.int .i64 (t.2.p : Int) :: Value.int .i64 t.2.e :: zs := ⟨_, rfl⟩
    have hcl : 53 < cc.length := by rw [hcc]; simp only [List.length_cons, HZ.out]; omega
    have HCL := Lib.hid hcl
    have PC : Hid (Blk w5 g 86 cc) := by rw [hcc]; exact P5.out
    rw [← hcc] at HST
    clear hcc hcl P5
    go_wp2_with (first
      | ((with_reducible show wpList _ _ _ (⟨none, .store _ (.tmp 37) _, _, _, _, _⟩ :: _) _ _); refine wpList_store_fld rfl _ (.tmp 37) (.tmp 35) rfl g 53 rfl _ cc (.string tx) rfl PC HCL (by kernel_rfl) rfl ?_; intro w6 P06 O6 q6; rw [HST.out] at P06; have P6 : Hid (PRd w6 g 86 A n k t.2 rs) := P06; have Z6 := Lib.hid (Z5.out.only O6.out hng); have B6 : Hid (Below w.heap.size w w6) := below_only B5.out O6.out hwg)
      | fail)
    clear P06 O6 q6 PC Z5 B5
    have HEQ : Hid (rs = acells (.slice none 0 0) (.slice none 0 0) (.slice none 0 0) ({ zeroAsk with share := ⟨t.1.toArray⟩ })) := by
      show _ = _
      rw [HRS.out, HZS.out, HTX.out]
      exact acells_share zeroAsk_ok _
    have HRL : Hid (rs.length = 69) := by show _ = _; rw [HEQ.out]; exact acells_len kw
    have HR1 : Hid (∀ v ∈ rs, v.oneCell' = true) := by rw [HEQ.out]; exact acells_one rfl rfl rfl
    refine (CE.out w6 g _ P6.out).mono ?_
    rintro e w99 ⟨rfl, kk, rfl⟩
    have Z99 := Lib.hid (Blk.drewN Z6.out kk)
    have P99 := Lib.hid (Blk.drewN P6.out kk)
    have B99 : Hid (Below w.heap.size w (w6.drewN kk)) := step B6.out (drewed _ kk)
    obtain ⟨wq, hwq⟩ : ∃ wq, wq = w6.drewN kk := ⟨_, rfl⟩
    rw [← hwq] at Z99 P99 B99 ⊢
    clear hwq P6 Z6 B6
    have hrg : Hid (wq.rangeAt g 3 rs) := Blk.range P99.out 3
    go_wp2_with (first
      | ((with_reducible show wpList _ _ _ (⟨some 51, _, _, _, _, _⟩ :: _) _ _); refine wpList_load_midu rfl _ (.tmp 50) rfl g 3 rfl rs _ hrg Tryd.underlying32 rfl 69 size_ask HRL ?_)
      | ((with_reducible show wpList _ _ _ (⟨none, .store _ (.tmp 4) _, _, _, _, _⟩ :: _) _ _); refine wpList_store_blk rfl _ (.tmp 4) (.tmp 51) rfl h rfl _ zs rs rfl Z99 69 size_ask HZ HRL HR1 ?_; intro w10 K10 O10 hg10)
      | fail)
    refine bodyPost_ret (v := .tuple #[.agg rs.toArray, .int .i64 0]) ?_ rfl ?_
    · exact results_cell_two rfl _ _ h _ _ (0, 0) _ rfl K10.out Tryd.underlying32 rfl (by rw [size_ask]; have := HRL.out; simp [this]) rfl
    · exact HQ.out (.slice none 0 0) _ w10 (congrArg (fun r : List Value => Ending.returned (.tuple #[.agg r.toArray, .int .i64 0])) HEQ.out) ⟨none, 0, 0, none, 0, 0, none, 0, 0, rfl, HoldsF.nil _ _ _, Holds.nil _ _, HoldsS.nil _ _ _ _⟩ (below_only B99.out O10.out hwh)
  by_cases h2 : c = 2
  · subst h2
    have p0 : rd0.p ≤ n := Nat.zero_le _
    have p1 : (rdZ xs 4 rd0).p ≤ n := rdZ_place hl p0
    have C1 : Hid (∀ (w' : World) (g : Nat) (rest : List Value), PRd w' g 86 A n k rd0 rest → Holds w' w'.heap.size A n k xs → Calls Tryd.prog 54 #[.pointer (some ⟨g, 0, none⟩), .int .i64 4] w' (PEndPost w' g 86 A n k (rdZ xs 4 rd0) rest)) := fun w' g rest h1 h2 => noughts_any w' g 86 A n k xs _ 4 rest h1 h2 p0 (by decide)
    have CE : Hid (∀ (w' : World) (g : Nat) (rest : List Value), PRd w' g 86 A n k (rdZ xs 4 rd0) rest → Calls Tryd.prog 55 #[.pointer (some ⟨g, 0, none⟩)] w' fun e w2 => e = .returned (.int .i64 (rdEnd xs (rdZ xs 4 rd0))) ∧ ∃ j, w'.drewN j = w2) := fun w' g rest h1 => rend_any w' g 86 A n k xs _ rest h1 hl hrm p1
    have hre : rdEnd xs (rdZ xs 4 rd0) = 0 → (rdZ xs 4 rd0).e = 0 := rdEnd_zero
    have hge : gaskErr 2 xs = rdEnd xs (rdZ xs 4 rd0) := by unfold gaskErr gaskP; rw [if_pos hk, if_neg (by decide), if_neg (by decide), if_neg (by decide)]
    by_cases he : rdEnd xs (rdZ xs 4 rd0) = 0
    rotate_left
    · have HQ := Lib.hid (HE.out _ hge he)
      have hne : (rdEnd xs (rdZ xs 4 rd0) != 0) = true := by simpa using he
      obtain ⟨z, hz⟩ : ∃ x, x = rdZ xs 4 rd0 := ⟨_, rfl⟩
      rw [← hz] at C1 p1 CE he hre HQ hne
      clear hz
      obtain ⟨er, her⟩ : ∃ x, x = rdEnd xs z := ⟨_, rfl⟩
      rw [← her] at CE he HQ hne hre
      clear her he hre
      clear HE hx hk hge
      go_enter Tryd.func22, Tryd.ntmps22
      go_wp2_with (first
        | ((with_reducible show wpList _ _ _ (⟨some 4, _, _, _, _, _⟩ :: _) _ _); refine wpList_alloc_blk rfl _ rfl zs _ ZH ?_; intro h w1 hg1 hg2 Z1 L1)
        | ((with_reducible show wpList _ _ _ (⟨some 9, _, _, _, _, _⟩ :: _) _ _); refine wpList_build_blk rfl _ _ rfl (.slice A n k :: .int .i64 0 :: .int .i64 0 :: []) (by refine Eq.trans ?_ B1; kernel_rfl) ?_)
        | ((with_reducible show wpList _ _ _ (⟨some 10, _, _, _, _, _⟩ :: _) _ _); refine wpList_build_blk rfl _ _ rfl (.slice A n k :: .int .i64 0 :: .int .i64 0 :: zs) (by refine Eq.trans ?_ B2; kernel_rfl) ?_)
        | ((with_reducible show wpList _ _ _ (⟨some 6, _, _, _, _, _⟩ :: _) _ _); refine wpList_alloc_blk rfl _ rfl (.slice none 0 0 :: .int .i64 0 :: .int .i64 0 :: zs) _ ZB ?_; intro g w2 hg3 hg4 P02 L2)
        | ((with_reducible show wpList _ _ _ (⟨none, .store _ (.tmp 6) _, _, _, _, _⟩ :: _) _ _); refine wpList_store_blk rfl _ (.tmp 6) (.tmp 10) rfl g rfl _ (.slice none 0 0 :: .int .i64 0 :: .int .i64 0 :: zs) (.slice A n k :: .int .i64 0 :: .int .i64 0 :: zs) rfl P02 72 size_askB HZB HNB HOB ?_; intro w3 P03 O3 hg5; have hsz := L1.out.size; have hng : h ≠ g := (by omega); have Z3 := Lib.hid ((Z1.out.over L2.out).only O3.out hng); have B3 : Hid (Below w.heap.size w w3) := below_only (step L1.out L2.out) O3.out (by omega); have P3 : Hid (PRd w3 g 86 A n k rd0 zs) := P03; have hwg : w.heap.size ≤ g := (by omega); have hwh : w.heap.size ≤ h := hg1)
        | fail)
      refine (C1.out w3 g _ P3.out ((HX.out.below B3.out).mono B3.out.size)).mono ?_
      rintro e w4 ⟨rfl, hP, hS⟩
      have P4 := Lib.hid hP
      have Z4 := Lib.hid (Z3.out.save hS hng)
      have B4 := Lib.hid (B3.out.trans (hS.below hwg B3.out.size))
      clear hP hS P3 Z3 B3
      obtain ⟨rs, hrs⟩ : ∃ rs, rs = zs := ⟨_, rfl⟩
      have HRS := Lib.hid hrs
      have P4' : Hid (PRd w4 g 86 A n k z rs) := by rw [hrs]; exact P4.out
      clear hrs P4
      have P4 := P4'
      clear P4'
      go_wp2_with fail
      refine (CE.out w4 g _ P4.out).mono ?_
      rintro e w99 ⟨rfl, kk, rfl⟩
      have Z99 := Lib.hid (Blk.drewN Z4.out kk)
      have P99 := Lib.hid (Blk.drewN P4.out kk)
      have B99 : Hid (Below w.heap.size w (w4.drewN kk)) := step B4.out (drewed _ kk)
      obtain ⟨wq, hwq⟩ : ∃ wq, wq = w4.drewN kk := ⟨_, rfl⟩
      rw [← hwq] at Z99 P99 B99 ⊢
      clear hwq P4 Z4 B4
      go_wp2_with (first
        | ((with_reducible show wpList _ _ _ (⟨some 48, _, _, _, _, _⟩ :: _) _ _); refine wpList_build_none rfl _ rfl zs BZ ?_)
        | ((with_reducible show wpList _ _ _ (⟨none, .store _ (.tmp 4) _, _, _, _, _⟩ :: _) _ _); refine wpList_store_blk rfl _ (.tmp 4) (.tmp 48) rfl h rfl _ zs zs rfl Z99 69 size_ask HZ HZ HZ1 ?_; intro w10 K10 O10 hg10)
        | fail)
      refine bodyPost_ret (v := .tuple #[.agg zs.toArray, .int .i64 er]) ?_ rfl (HQ.out _ _ rfl (below_only B99.out O10.out hwh))
      exact results_cell_two rfl _ _ h _ _ (0, 0) _ rfl K10.out Tryd.underlying32 rfl (by rw [size_ask]; have := HZ.out; simp [this]) rfl
    have HQ : Hid (∀ vd e w', e = .returned (.tuple #[.agg (acells vd (.slice none 0 0) (.slice none 0 0) (zeroAsk)).toArray, .int .i64 0]) → AskIs w' w'.heap.size (acells vd (.slice none 0 0) (.slice none 0 0) (zeroAsk)) (zeroAsk) → Below w.heap.size w w' → PGAskPost w 2 xs e w') := by
      intro vd e w' h1 h2 h3
      have h4 : gaskOf 2 xs = zeroAsk := by unfold gaskOf; rw [hge, he, if_pos rfl]; unfold gaskP; rw [if_neg (by decide), if_neg (by decide), if_neg (by decide)]
      unfold PGAskPost
      rw [h4, hge, he]
      exact ⟨vd, h1, h2, h3⟩
    obtain ⟨z, hz⟩ : ∃ x, x = rdZ xs 4 rd0 := ⟨_, rfl⟩
    rw [← hz] at C1 p1 CE he hre
    clear hz
    rw [he] at CE
    have hre0 := hre he
    clear HE hx hk hge hre he hre0
    go_enter Tryd.func22, Tryd.ntmps22
    go_wp2_with (first
      | ((with_reducible show wpList _ _ _ (⟨some 4, _, _, _, _, _⟩ :: _) _ _); refine wpList_alloc_blk rfl _ rfl zs _ ZH ?_; intro h w1 hg1 hg2 Z1 L1)
      | ((with_reducible show wpList _ _ _ (⟨some 9, _, _, _, _, _⟩ :: _) _ _); refine wpList_build_blk rfl _ _ rfl (.slice A n k :: .int .i64 0 :: .int .i64 0 :: []) (by refine Eq.trans ?_ B1; kernel_rfl) ?_)
      | ((with_reducible show wpList _ _ _ (⟨some 10, _, _, _, _, _⟩ :: _) _ _); refine wpList_build_blk rfl _ _ rfl (.slice A n k :: .int .i64 0 :: .int .i64 0 :: zs) (by refine Eq.trans ?_ B2; kernel_rfl) ?_)
      | ((with_reducible show wpList _ _ _ (⟨some 6, _, _, _, _, _⟩ :: _) _ _); refine wpList_alloc_blk rfl _ rfl (.slice none 0 0 :: .int .i64 0 :: .int .i64 0 :: zs) _ ZB ?_; intro g w2 hg3 hg4 P02 L2)
      | ((with_reducible show wpList _ _ _ (⟨none, .store _ (.tmp 6) _, _, _, _, _⟩ :: _) _ _); refine wpList_store_blk rfl _ (.tmp 6) (.tmp 10) rfl g rfl _ (.slice none 0 0 :: .int .i64 0 :: .int .i64 0 :: zs) (.slice A n k :: .int .i64 0 :: .int .i64 0 :: zs) rfl P02 72 size_askB HZB HNB HOB ?_; intro w3 P03 O3 hg5; have hsz := L1.out.size; have hng : h ≠ g := (by omega); have Z3 := Lib.hid ((Z1.out.over L2.out).only O3.out hng); have B3 : Hid (Below w.heap.size w w3) := below_only (step L1.out L2.out) O3.out (by omega); have P3 : Hid (PRd w3 g 86 A n k rd0 zs) := P03; have hwg : w.heap.size ≤ g := (by omega); have hwh : w.heap.size ≤ h := hg1)
      | fail)
    refine (C1.out w3 g _ P3.out ((HX.out.below B3.out).mono B3.out.size)).mono ?_
    rintro e w4 ⟨rfl, hP, hS⟩
    have P4 := Lib.hid hP
    have Z4 := Lib.hid (Z3.out.save hS hng)
    have B4 := Lib.hid (B3.out.trans (hS.below hwg B3.out.size))
    clear hP hS P3 Z3 B3
    obtain ⟨rs, hrs⟩ : ∃ rs, rs = zs := ⟨_, rfl⟩
    have HRS := Lib.hid hrs
    have P4' : Hid (PRd w4 g 86 A n k z rs) := by rw [hrs]; exact P4.out
    clear hrs P4
    have P4 := P4'
    clear P4'
    go_wp2_with fail
    have HEQ : Hid (rs = acells (.slice none 0 0) (.slice none 0 0) (.slice none 0 0) (zeroAsk)) := by
      show _ = _
      rw [HRS.out, HZS.out]
    have HRL : Hid (rs.length = 69) := by show _ = _; rw [HEQ.out]; exact acells_len zeroAsk_ok
    have HR1 : Hid (∀ v ∈ rs, v.oneCell' = true) := by rw [HEQ.out]; exact acells_one rfl rfl rfl
    refine (CE.out w4 g _ P4.out).mono ?_
    rintro e w99 ⟨rfl, kk, rfl⟩
    have Z99 := Lib.hid (Blk.drewN Z4.out kk)
    have P99 := Lib.hid (Blk.drewN P4.out kk)
    have B99 : Hid (Below w.heap.size w (w4.drewN kk)) := step B4.out (drewed _ kk)
    obtain ⟨wq, hwq⟩ : ∃ wq, wq = w4.drewN kk := ⟨_, rfl⟩
    rw [← hwq] at Z99 P99 B99 ⊢
    clear hwq P4 Z4 B4
    have hrg : Hid (wq.rangeAt g 3 rs) := Blk.range P99.out 3
    go_wp2_with (first
      | ((with_reducible show wpList _ _ _ (⟨some 51, _, _, _, _, _⟩ :: _) _ _); refine wpList_load_midu rfl _ (.tmp 50) rfl g 3 rfl rs _ hrg Tryd.underlying32 rfl 69 size_ask HRL ?_)
      | ((with_reducible show wpList _ _ _ (⟨none, .store _ (.tmp 4) _, _, _, _, _⟩ :: _) _ _); refine wpList_store_blk rfl _ (.tmp 4) (.tmp 51) rfl h rfl _ zs rs rfl Z99 69 size_ask HZ HRL HR1 ?_; intro w10 K10 O10 hg10)
      | fail)
    refine bodyPost_ret (v := .tuple #[.agg rs.toArray, .int .i64 0]) ?_ rfl ?_
    · exact results_cell_two rfl _ _ h _ _ (0, 0) _ rfl K10.out Tryd.underlying32 rfl (by rw [size_ask]; have := HRL.out; simp [this]) rfl
    · exact HQ.out (.slice none 0 0) _ w10 (congrArg (fun r : List Value => Ending.returned (.tuple #[.agg r.toArray, .int .i64 0])) HEQ.out) ⟨none, 0, 0, none, 0, 0, none, 0, 0, rfl, HoldsF.nil _ _ _, Holds.nil _ _, HoldsS.nil _ _ _ _⟩ (below_only B99.out O10.out hwh)
  by_cases h4 : c = 4
  · subst h4
    have p0 : rd0.p ≤ n := Nat.zero_le _
    have p1 : (rdZ xs 4 rd0).p ≤ n := rdZ_place hl p0
    have C1 : Hid (∀ (w' : World) (g : Nat) (rest : List Value), PRd w' g 86 A n k rd0 rest → Holds w' w'.heap.size A n k xs → Calls Tryd.prog 54 #[.pointer (some ⟨g, 0, none⟩), .int .i64 4] w' (PEndPost w' g 86 A n k (rdZ xs 4 rd0) rest)) := fun w' g rest h1 h2 => noughts_any w' g 86 A n k xs _ 4 rest h1 h2 p0 (by decide)
    have CE : Hid (∀ (w' : World) (g : Nat) (rest : List Value), PRd w' g 86 A n k (rdZ xs 4 rd0) rest → Calls Tryd.prog 55 #[.pointer (some ⟨g, 0, none⟩)] w' fun e w2 => e = .returned (.int .i64 (rdEnd xs (rdZ xs 4 rd0))) ∧ ∃ j, w'.drewN j = w2) := fun w' g rest h1 => rend_any w' g 86 A n k xs _ rest h1 hl hrm p1
    have hre : rdEnd xs (rdZ xs 4 rd0) = 0 → (rdZ xs 4 rd0).e = 0 := rdEnd_zero
    have hge : gaskErr 4 xs = rdEnd xs (rdZ xs 4 rd0) := by unfold gaskErr gaskP; rw [if_pos hk, if_neg (by decide), if_neg (by decide), if_neg (by decide)]
    by_cases he : rdEnd xs (rdZ xs 4 rd0) = 0
    rotate_left
    · have HQ := Lib.hid (HE.out _ hge he)
      have hne : (rdEnd xs (rdZ xs 4 rd0) != 0) = true := by simpa using he
      obtain ⟨z, hz⟩ : ∃ x, x = rdZ xs 4 rd0 := ⟨_, rfl⟩
      rw [← hz] at C1 p1 CE he hre HQ hne
      clear hz
      obtain ⟨er, her⟩ : ∃ x, x = rdEnd xs z := ⟨_, rfl⟩
      rw [← her] at CE he HQ hne hre
      clear her he hre
      clear HE hx hk hge
      go_enter Tryd.func22, Tryd.ntmps22
      go_wp2_with (first
        | ((with_reducible show wpList _ _ _ (⟨some 4, _, _, _, _, _⟩ :: _) _ _); refine wpList_alloc_blk rfl _ rfl zs _ ZH ?_; intro h w1 hg1 hg2 Z1 L1)
        | ((with_reducible show wpList _ _ _ (⟨some 9, _, _, _, _, _⟩ :: _) _ _); refine wpList_build_blk rfl _ _ rfl (.slice A n k :: .int .i64 0 :: .int .i64 0 :: []) (by refine Eq.trans ?_ B1; kernel_rfl) ?_)
        | ((with_reducible show wpList _ _ _ (⟨some 10, _, _, _, _, _⟩ :: _) _ _); refine wpList_build_blk rfl _ _ rfl (.slice A n k :: .int .i64 0 :: .int .i64 0 :: zs) (by refine Eq.trans ?_ B2; kernel_rfl) ?_)
        | ((with_reducible show wpList _ _ _ (⟨some 6, _, _, _, _, _⟩ :: _) _ _); refine wpList_alloc_blk rfl _ rfl (.slice none 0 0 :: .int .i64 0 :: .int .i64 0 :: zs) _ ZB ?_; intro g w2 hg3 hg4 P02 L2)
        | ((with_reducible show wpList _ _ _ (⟨none, .store _ (.tmp 6) _, _, _, _, _⟩ :: _) _ _); refine wpList_store_blk rfl _ (.tmp 6) (.tmp 10) rfl g rfl _ (.slice none 0 0 :: .int .i64 0 :: .int .i64 0 :: zs) (.slice A n k :: .int .i64 0 :: .int .i64 0 :: zs) rfl P02 72 size_askB HZB HNB HOB ?_; intro w3 P03 O3 hg5; have hsz := L1.out.size; have hng : h ≠ g := (by omega); have Z3 := Lib.hid ((Z1.out.over L2.out).only O3.out hng); have B3 : Hid (Below w.heap.size w w3) := below_only (step L1.out L2.out) O3.out (by omega); have P3 : Hid (PRd w3 g 86 A n k rd0 zs) := P03; have hwg : w.heap.size ≤ g := (by omega); have hwh : w.heap.size ≤ h := hg1)
        | fail)
      refine (C1.out w3 g _ P3.out ((HX.out.below B3.out).mono B3.out.size)).mono ?_
      rintro e w4 ⟨rfl, hP, hS⟩
      have P4 := Lib.hid hP
      have Z4 := Lib.hid (Z3.out.save hS hng)
      have B4 := Lib.hid (B3.out.trans (hS.below hwg B3.out.size))
      clear hP hS P3 Z3 B3
      obtain ⟨rs, hrs⟩ : ∃ rs, rs = zs := ⟨_, rfl⟩
      have HRS := Lib.hid hrs
      have P4' : Hid (PRd w4 g 86 A n k z rs) := by rw [hrs]; exact P4.out
      clear hrs P4
      have P4 := P4'
      clear P4'
      go_wp2_with fail
      refine (CE.out w4 g _ P4.out).mono ?_
      rintro e w99 ⟨rfl, kk, rfl⟩
      have Z99 := Lib.hid (Blk.drewN Z4.out kk)
      have P99 := Lib.hid (Blk.drewN P4.out kk)
      have B99 : Hid (Below w.heap.size w (w4.drewN kk)) := step B4.out (drewed _ kk)
      obtain ⟨wq, hwq⟩ : ∃ wq, wq = w4.drewN kk := ⟨_, rfl⟩
      rw [← hwq] at Z99 P99 B99 ⊢
      clear hwq P4 Z4 B4
      go_wp2_with (first
        | ((with_reducible show wpList _ _ _ (⟨some 48, _, _, _, _, _⟩ :: _) _ _); refine wpList_build_none rfl _ rfl zs BZ ?_)
        | ((with_reducible show wpList _ _ _ (⟨none, .store _ (.tmp 4) _, _, _, _, _⟩ :: _) _ _); refine wpList_store_blk rfl _ (.tmp 4) (.tmp 48) rfl h rfl _ zs zs rfl Z99 69 size_ask HZ HZ HZ1 ?_; intro w10 K10 O10 hg10)
        | fail)
      refine bodyPost_ret (v := .tuple #[.agg zs.toArray, .int .i64 er]) ?_ rfl (HQ.out _ _ rfl (below_only B99.out O10.out hwh))
      exact results_cell_two rfl _ _ h _ _ (0, 0) _ rfl K10.out Tryd.underlying32 rfl (by rw [size_ask]; have := HZ.out; simp [this]) rfl
    have HQ : Hid (∀ vd e w', e = .returned (.tuple #[.agg (acells vd (.slice none 0 0) (.slice none 0 0) (zeroAsk)).toArray, .int .i64 0]) → AskIs w' w'.heap.size (acells vd (.slice none 0 0) (.slice none 0 0) (zeroAsk)) (zeroAsk) → Below w.heap.size w w' → PGAskPost w 4 xs e w') := by
      intro vd e w' h1 h2 h3
      have h4 : gaskOf 4 xs = zeroAsk := by unfold gaskOf; rw [hge, he, if_pos rfl]; unfold gaskP; rw [if_neg (by decide), if_neg (by decide), if_neg (by decide)]
      unfold PGAskPost
      rw [h4, hge, he]
      exact ⟨vd, h1, h2, h3⟩
    obtain ⟨z, hz⟩ : ∃ x, x = rdZ xs 4 rd0 := ⟨_, rfl⟩
    rw [← hz] at C1 p1 CE he hre
    clear hz
    rw [he] at CE
    have hre0 := hre he
    clear HE hx hk hge hre he hre0
    go_enter Tryd.func22, Tryd.ntmps22
    go_wp2_with (first
      | ((with_reducible show wpList _ _ _ (⟨some 4, _, _, _, _, _⟩ :: _) _ _); refine wpList_alloc_blk rfl _ rfl zs _ ZH ?_; intro h w1 hg1 hg2 Z1 L1)
      | ((with_reducible show wpList _ _ _ (⟨some 9, _, _, _, _, _⟩ :: _) _ _); refine wpList_build_blk rfl _ _ rfl (.slice A n k :: .int .i64 0 :: .int .i64 0 :: []) (by refine Eq.trans ?_ B1; kernel_rfl) ?_)
      | ((with_reducible show wpList _ _ _ (⟨some 10, _, _, _, _, _⟩ :: _) _ _); refine wpList_build_blk rfl _ _ rfl (.slice A n k :: .int .i64 0 :: .int .i64 0 :: zs) (by refine Eq.trans ?_ B2; kernel_rfl) ?_)
      | ((with_reducible show wpList _ _ _ (⟨some 6, _, _, _, _, _⟩ :: _) _ _); refine wpList_alloc_blk rfl _ rfl (.slice none 0 0 :: .int .i64 0 :: .int .i64 0 :: zs) _ ZB ?_; intro g w2 hg3 hg4 P02 L2)
      | ((with_reducible show wpList _ _ _ (⟨none, .store _ (.tmp 6) _, _, _, _, _⟩ :: _) _ _); refine wpList_store_blk rfl _ (.tmp 6) (.tmp 10) rfl g rfl _ (.slice none 0 0 :: .int .i64 0 :: .int .i64 0 :: zs) (.slice A n k :: .int .i64 0 :: .int .i64 0 :: zs) rfl P02 72 size_askB HZB HNB HOB ?_; intro w3 P03 O3 hg5; have hsz := L1.out.size; have hng : h ≠ g := (by omega); have Z3 := Lib.hid ((Z1.out.over L2.out).only O3.out hng); have B3 : Hid (Below w.heap.size w w3) := below_only (step L1.out L2.out) O3.out (by omega); have P3 : Hid (PRd w3 g 86 A n k rd0 zs) := P03; have hwg : w.heap.size ≤ g := (by omega); have hwh : w.heap.size ≤ h := hg1)
      | fail)
    refine (C1.out w3 g _ P3.out ((HX.out.below B3.out).mono B3.out.size)).mono ?_
    rintro e w4 ⟨rfl, hP, hS⟩
    have P4 := Lib.hid hP
    have Z4 := Lib.hid (Z3.out.save hS hng)
    have B4 := Lib.hid (B3.out.trans (hS.below hwg B3.out.size))
    clear hP hS P3 Z3 B3
    obtain ⟨rs, hrs⟩ : ∃ rs, rs = zs := ⟨_, rfl⟩
    have HRS := Lib.hid hrs
    have P4' : Hid (PRd w4 g 86 A n k z rs) := by rw [hrs]; exact P4.out
    clear hrs P4
    have P4 := P4'
    clear P4'
    go_wp2_with fail
    have HEQ : Hid (rs = acells (.slice none 0 0) (.slice none 0 0) (.slice none 0 0) (zeroAsk)) := by
      show _ = _
      rw [HRS.out, HZS.out]
    have HRL : Hid (rs.length = 69) := by show _ = _; rw [HEQ.out]; exact acells_len zeroAsk_ok
    have HR1 : Hid (∀ v ∈ rs, v.oneCell' = true) := by rw [HEQ.out]; exact acells_one rfl rfl rfl
    refine (CE.out w4 g _ P4.out).mono ?_
    rintro e w99 ⟨rfl, kk, rfl⟩
    have Z99 := Lib.hid (Blk.drewN Z4.out kk)
    have P99 := Lib.hid (Blk.drewN P4.out kk)
    have B99 : Hid (Below w.heap.size w (w4.drewN kk)) := step B4.out (drewed _ kk)
    obtain ⟨wq, hwq⟩ : ∃ wq, wq = w4.drewN kk := ⟨_, rfl⟩
    rw [← hwq] at Z99 P99 B99 ⊢
    clear hwq P4 Z4 B4
    have hrg : Hid (wq.rangeAt g 3 rs) := Blk.range P99.out 3
    go_wp2_with (first
      | ((with_reducible show wpList _ _ _ (⟨some 51, _, _, _, _, _⟩ :: _) _ _); refine wpList_load_midu rfl _ (.tmp 50) rfl g 3 rfl rs _ hrg Tryd.underlying32 rfl 69 size_ask HRL ?_)
      | ((with_reducible show wpList _ _ _ (⟨none, .store _ (.tmp 4) _, _, _, _, _⟩ :: _) _ _); refine wpList_store_blk rfl _ (.tmp 4) (.tmp 51) rfl h rfl _ zs rs rfl Z99 69 size_ask HZ HRL HR1 ?_; intro w10 K10 O10 hg10)
      | fail)
    refine bodyPost_ret (v := .tuple #[.agg rs.toArray, .int .i64 0]) ?_ rfl ?_
    · exact results_cell_two rfl _ _ h _ _ (0, 0) _ rfl K10.out Tryd.underlying32 rfl (by rw [size_ask]; have := HRL.out; simp [this]) rfl
    · exact HQ.out (.slice none 0 0) _ w10 (congrArg (fun r : List Value => Ending.returned (.tuple #[.agg r.toArray, .int .i64 0])) HEQ.out) ⟨none, 0, 0, none, 0, 0, none, 0, 0, rfl, HoldsF.nil _ _ _, Holds.nil _ _, HoldsS.nil _ _ _ _⟩ (below_only B99.out O10.out hwh)
  obtain rfl : c = 13 := by unfold knownT at hk; simp at hk; omega
  have p0 : rd0.p ≤ n := Nat.zero_le _
  have p1 : (rdZ xs 4 rd0).p ≤ n := rdZ_place hl p0
  have C1 : Hid (∀ (w' : World) (g : Nat) (rest : List Value), PRd w' g 86 A n k rd0 rest → Holds w' w'.heap.size A n k xs → Calls Tryd.prog 54 #[.pointer (some ⟨g, 0, none⟩), .int .i64 4] w' (PEndPost w' g 86 A n k (rdZ xs 4 rd0) rest)) := fun w' g rest h1 h2 => noughts_any w' g 86 A n k xs _ 4 rest h1 h2 p0 (by decide)
  have CE : Hid (∀ (w' : World) (g : Nat) (rest : List Value), PRd w' g 86 A n k (rdZ xs 4 rd0) rest → Calls Tryd.prog 55 #[.pointer (some ⟨g, 0, none⟩)] w' fun e w2 => e = .returned (.int .i64 (rdEnd xs (rdZ xs 4 rd0))) ∧ ∃ j, w'.drewN j = w2) := fun w' g rest h1 => rend_any w' g 86 A n k xs _ rest h1 hl hrm p1
  have hre : rdEnd xs (rdZ xs 4 rd0) = 0 → (rdZ xs 4 rd0).e = 0 := rdEnd_zero
  have hge : gaskErr 13 xs = rdEnd xs (rdZ xs 4 rd0) := by unfold gaskErr gaskP; rw [if_pos hk, if_neg (by decide), if_neg (by decide), if_neg (by decide)]
  by_cases he : rdEnd xs (rdZ xs 4 rd0) = 0
  rotate_left
  · have HQ := Lib.hid (HE.out _ hge he)
    have hne : (rdEnd xs (rdZ xs 4 rd0) != 0) = true := by simpa using he
    obtain ⟨z, hz⟩ : ∃ x, x = rdZ xs 4 rd0 := ⟨_, rfl⟩
    rw [← hz] at C1 p1 CE he hre HQ hne
    clear hz
    obtain ⟨er, her⟩ : ∃ x, x = rdEnd xs z := ⟨_, rfl⟩
    rw [← her] at CE he HQ hne hre
    clear her he hre
    clear HE hx hk hge
    go_enter Tryd.func22, Tryd.ntmps22
    go_wp2_with (first
      | ((with_reducible show wpList _ _ _ (⟨some 4, _, _, _, _, _⟩ :: _) _ _); refine wpList_alloc_blk rfl _ rfl zs _ ZH ?_; intro h w1 hg1 hg2 Z1 L1)
      | ((with_reducible show wpList _ _ _ (⟨some 9, _, _, _, _, _⟩ :: _) _ _); refine wpList_build_blk rfl _ _ rfl (.slice A n k :: .int .i64 0 :: .int .i64 0 :: []) (by refine Eq.trans ?_ B1; kernel_rfl) ?_)
      | ((with_reducible show wpList _ _ _ (⟨some 10, _, _, _, _, _⟩ :: _) _ _); refine wpList_build_blk rfl _ _ rfl (.slice A n k :: .int .i64 0 :: .int .i64 0 :: zs) (by refine Eq.trans ?_ B2; kernel_rfl) ?_)
      | ((with_reducible show wpList _ _ _ (⟨some 6, _, _, _, _, _⟩ :: _) _ _); refine wpList_alloc_blk rfl _ rfl (.slice none 0 0 :: .int .i64 0 :: .int .i64 0 :: zs) _ ZB ?_; intro g w2 hg3 hg4 P02 L2)
      | ((with_reducible show wpList _ _ _ (⟨none, .store _ (.tmp 6) _, _, _, _, _⟩ :: _) _ _); refine wpList_store_blk rfl _ (.tmp 6) (.tmp 10) rfl g rfl _ (.slice none 0 0 :: .int .i64 0 :: .int .i64 0 :: zs) (.slice A n k :: .int .i64 0 :: .int .i64 0 :: zs) rfl P02 72 size_askB HZB HNB HOB ?_; intro w3 P03 O3 hg5; have hsz := L1.out.size; have hng : h ≠ g := (by omega); have Z3 := Lib.hid ((Z1.out.over L2.out).only O3.out hng); have B3 : Hid (Below w.heap.size w w3) := below_only (step L1.out L2.out) O3.out (by omega); have P3 : Hid (PRd w3 g 86 A n k rd0 zs) := P03; have hwg : w.heap.size ≤ g := (by omega); have hwh : w.heap.size ≤ h := hg1)
      | fail)
    refine (C1.out w3 g _ P3.out ((HX.out.below B3.out).mono B3.out.size)).mono ?_
    rintro e w4 ⟨rfl, hP, hS⟩
    have P4 := Lib.hid hP
    have Z4 := Lib.hid (Z3.out.save hS hng)
    have B4 := Lib.hid (B3.out.trans (hS.below hwg B3.out.size))
    clear hP hS P3 Z3 B3
    obtain ⟨rs, hrs⟩ : ∃ rs, rs = zs := ⟨_, rfl⟩
    have HRS := Lib.hid hrs
    have P4' : Hid (PRd w4 g 86 A n k z rs) := by rw [hrs]; exact P4.out
    clear hrs P4
    have P4 := P4'
    clear P4'
    go_wp2_with fail
    refine (CE.out w4 g _ P4.out).mono ?_
    rintro e w99 ⟨rfl, kk, rfl⟩
    have Z99 := Lib.hid (Blk.drewN Z4.out kk)
    have P99 := Lib.hid (Blk.drewN P4.out kk)
    have B99 : Hid (Below w.heap.size w (w4.drewN kk)) := step B4.out (drewed _ kk)
    obtain ⟨wq, hwq⟩ : ∃ wq, wq = w4.drewN kk := ⟨_, rfl⟩
    rw [← hwq] at Z99 P99 B99 ⊢
    clear hwq P4 Z4 B4
    go_wp2_with (first
      | ((with_reducible show wpList _ _ _ (⟨some 48, _, _, _, _, _⟩ :: _) _ _); refine wpList_build_none rfl _ rfl zs BZ ?_)
      | ((with_reducible show wpList _ _ _ (⟨none, .store _ (.tmp 4) _, _, _, _, _⟩ :: _) _ _); refine wpList_store_blk rfl _ (.tmp 4) (.tmp 48) rfl h rfl _ zs zs rfl Z99 69 size_ask HZ HZ HZ1 ?_; intro w10 K10 O10 hg10)
      | fail)
    refine bodyPost_ret (v := .tuple #[.agg zs.toArray, .int .i64 er]) ?_ rfl (HQ.out _ _ rfl (below_only B99.out O10.out hwh))
    exact results_cell_two rfl _ _ h _ _ (0, 0) _ rfl K10.out Tryd.underlying32 rfl (by rw [size_ask]; have := HZ.out; simp [this]) rfl
  have HQ : Hid (∀ vd e w', e = .returned (.tuple #[.agg (acells vd (.slice none 0 0) (.slice none 0 0) (zeroAsk)).toArray, .int .i64 0]) → AskIs w' w'.heap.size (acells vd (.slice none 0 0) (.slice none 0 0) (zeroAsk)) (zeroAsk) → Below w.heap.size w w' → PGAskPost w 13 xs e w') := by
    intro vd e w' h1 h2 h3
    have h4 : gaskOf 13 xs = zeroAsk := by unfold gaskOf; rw [hge, he, if_pos rfl]; unfold gaskP; rw [if_neg (by decide), if_neg (by decide), if_neg (by decide)]
    unfold PGAskPost
    rw [h4, hge, he]
    exact ⟨vd, h1, h2, h3⟩
  obtain ⟨z, hz⟩ : ∃ x, x = rdZ xs 4 rd0 := ⟨_, rfl⟩
  rw [← hz] at C1 p1 CE he hre
  clear hz
  rw [he] at CE
  have hre0 := hre he
  clear HE hx hk hge hre he hre0
  go_enter Tryd.func22, Tryd.ntmps22
  go_wp2_with (first
    | ((with_reducible show wpList _ _ _ (⟨some 4, _, _, _, _, _⟩ :: _) _ _); refine wpList_alloc_blk rfl _ rfl zs _ ZH ?_; intro h w1 hg1 hg2 Z1 L1)
    | ((with_reducible show wpList _ _ _ (⟨some 9, _, _, _, _, _⟩ :: _) _ _); refine wpList_build_blk rfl _ _ rfl (.slice A n k :: .int .i64 0 :: .int .i64 0 :: []) (by refine Eq.trans ?_ B1; kernel_rfl) ?_)
    | ((with_reducible show wpList _ _ _ (⟨some 10, _, _, _, _, _⟩ :: _) _ _); refine wpList_build_blk rfl _ _ rfl (.slice A n k :: .int .i64 0 :: .int .i64 0 :: zs) (by refine Eq.trans ?_ B2; kernel_rfl) ?_)
    | ((with_reducible show wpList _ _ _ (⟨some 6, _, _, _, _, _⟩ :: _) _ _); refine wpList_alloc_blk rfl _ rfl (.slice none 0 0 :: .int .i64 0 :: .int .i64 0 :: zs) _ ZB ?_; intro g w2 hg3 hg4 P02 L2)
    | ((with_reducible show wpList _ _ _ (⟨none, .store _ (.tmp 6) _, _, _, _, _⟩ :: _) _ _); refine wpList_store_blk rfl _ (.tmp 6) (.tmp 10) rfl g rfl _ (.slice none 0 0 :: .int .i64 0 :: .int .i64 0 :: zs) (.slice A n k :: .int .i64 0 :: .int .i64 0 :: zs) rfl P02 72 size_askB HZB HNB HOB ?_; intro w3 P03 O3 hg5; have hsz := L1.out.size; have hng : h ≠ g := (by omega); have Z3 := Lib.hid ((Z1.out.over L2.out).only O3.out hng); have B3 : Hid (Below w.heap.size w w3) := below_only (step L1.out L2.out) O3.out (by omega); have P3 : Hid (PRd w3 g 86 A n k rd0 zs) := P03; have hwg : w.heap.size ≤ g := (by omega); have hwh : w.heap.size ≤ h := hg1)
    | fail)
  refine (C1.out w3 g _ P3.out ((HX.out.below B3.out).mono B3.out.size)).mono ?_
  rintro e w4 ⟨rfl, hP, hS⟩
  have P4 := Lib.hid hP
  have Z4 := Lib.hid (Z3.out.save hS hng)
  have B4 := Lib.hid (B3.out.trans (hS.below hwg B3.out.size))
  clear hP hS P3 Z3 B3
  obtain ⟨rs, hrs⟩ : ∃ rs, rs = zs := ⟨_, rfl⟩
  have HRS := Lib.hid hrs
  have P4' : Hid (PRd w4 g 86 A n k z rs) := by rw [hrs]; exact P4.out
  clear hrs P4
  have P4 := P4'
  clear P4'
  go_wp2_with fail
  have HEQ : Hid (rs = acells (.slice none 0 0) (.slice none 0 0) (.slice none 0 0) (zeroAsk)) := by
    show _ = _
    rw [HRS.out, HZS.out]
  have HRL : Hid (rs.length = 69) := by show _ = _; rw [HEQ.out]; exact acells_len zeroAsk_ok
  have HR1 : Hid (∀ v ∈ rs, v.oneCell' = true) := by rw [HEQ.out]; exact acells_one rfl rfl rfl
  refine (CE.out w4 g _ P4.out).mono ?_
  rintro e w99 ⟨rfl, kk, rfl⟩
  have Z99 := Lib.hid (Blk.drewN Z4.out kk)
  have P99 := Lib.hid (Blk.drewN P4.out kk)
  have B99 : Hid (Below w.heap.size w (w4.drewN kk)) := step B4.out (drewed _ kk)
  obtain ⟨wq, hwq⟩ : ∃ wq, wq = w4.drewN kk := ⟨_, rfl⟩
  rw [← hwq] at Z99 P99 B99 ⊢
  clear hwq P4 Z4 B4
  have hrg : Hid (wq.rangeAt g 3 rs) := Blk.range P99.out 3
  go_wp2_with (first
    | ((with_reducible show wpList _ _ _ (⟨some 51, _, _, _, _, _⟩ :: _) _ _); refine wpList_load_midu rfl _ (.tmp 50) rfl g 3 rfl rs _ hrg Tryd.underlying32 rfl 69 size_ask HRL ?_)
    | ((with_reducible show wpList _ _ _ (⟨none, .store _ (.tmp 4) _, _, _, _, _⟩ :: _) _ _); refine wpList_store_blk rfl _ (.tmp 4) (.tmp 51) rfl h rfl _ zs rs rfl Z99 69 size_ask HZ HRL HR1 ?_; intro w10 K10 O10 hg10)
    | fail)
  refine bodyPost_ret (v := .tuple #[.agg rs.toArray, .int .i64 0]) ?_ rfl ?_
  · exact results_cell_two rfl _ _ h _ _ (0, 0) _ rfl K10.out Tryd.underlying32 rfl (by rw [size_ask]; have := HRL.out; simp [this]) rfl
  · exact HQ.out (.slice none 0 0) _ w10 (congrArg (fun r : List Value => Ending.returned (.tuple #[.agg r.toArray, .int .i64 0])) HEQ.out) ⟨none, 0, 0, none, 0, 0, none, 0, 0, rfl, HoldsF.nil _ _ _, Holds.nil _ _, HoldsS.nil _ _ _ _⟩ (below_only B99.out O10.out hwh)

theorem zero_sayB : (Tryd.prog.info? 98).map (fun i => (i.zero, i.size)) = some (some (.agg (.slice none 0 0 :: .int .i64 0 :: .int .i64 0 :: scells (.slice none 0 0) (.slice none 0 0) zeroSay).toArray), 23) := by kernel_rfl
theorem size_sayB : (Tryd.prog.info? 98).map (·.size) = some 23 := by kernel_rfl
set_option maxHeartbeats 4000000 in
theorem GetSay_any (w : World) (c : Int) (A : Option Addr) (n k : Nat) (xs : List Int) (hc : 0 ≤ c ∧ c ≤ 65535) (hx : Holds w w.heap.size A n k xs) :
    Calls Tryd.prog 24 #[.int .u16 c, .slice A n k] w (PGSayPost w c xs) := by
  have hl := hx.len
  have hrm := hx.room
  have HX := Lib.hid hx
  have hby := hx.byte
  have ZH := Lib.hid zero_say
  have ZB := Lib.hid zero_sayB
  have BZ := built_say
  have HZ : Hid ((scells (.slice none 0 0) (.slice none 0 0) zeroSay).length = 20) := scells_len zeroSay_ok
  have HZ1 : Hid (∀ v ∈ scells (.slice none 0 0) (.slice none 0 0) zeroSay, v.oneCell' = true) := (zeroSay_is w 0).one
  have B1 : Tryd.prog.built 84 [(0, .slice A n k)] = some (.slice A n k :: .int .i64 0 :: .int .i64 0 :: ([] : List Value)).toArray := by kernel_rfl
  have B2 : Tryd.prog.built 98 [(0, .agg #[.slice A n k, .int .i64 0, .int .i64 0])] = some (.slice A n k :: .int .i64 0 :: .int .i64 0 :: scells (.slice none 0 0) (.slice none 0 0) zeroSay).toArray := by kernel_rfl
  have HE : Hid (∀ er, gsayErr c xs = er → er ≠ 0 → ∀ e w', e = .returned (.tuple #[.agg (scells (.slice none 0 0) (.slice none 0 0) zeroSay).toArray, .int .i64 er]) → Below w.heap.size w w' → PGSayPost w c xs e w') := by
    intro er h1 h2 e w' he hb
    unfold PGSayPost gsayOf
    rw [h1, if_neg h2]
    exact ⟨he, hb⟩
  obtain ⟨zs, hzs⟩ : ∃ zs, zs = scells (.slice none 0 0) (.slice none 0 0) zeroSay := ⟨_, rfl⟩
  have HZS := Lib.hid hzs
  rw [← hzs] at ZH ZB BZ HZ HZ1 B2 HE
  clear hzs
  have HZB : Hid ((Value.slice none 0 0 :: Value.int .i64 0 :: Value.int .i64 0 :: zs).length = 23) := by show _ = _; simp only [List.length_cons, HZ.out]
  have HNB : Hid ((Value.slice A n k :: Value.int .i64 0 :: Value.int .i64 0 :: zs).length = 23) := by show _ = _; simp only [List.length_cons, HZ.out]
  have HOB : Hid (∀ v ∈ Value.slice A n k :: Value.int .i64 0 :: Value.int .i64 0 :: zs, v.oneCell' = true) := by
    intro v hv
    rcases List.mem_cons.1 hv with rfl | hv
    · rfl
    rcases List.mem_cons.1 hv with rfl | hv
    · rfl
    rcases List.mem_cons.1 hv with rfl | hv
    · rfl
    exact HZ1.out v hv
  by_cases hk : knownT c = true
  rotate_left
  · have HQ := Lib.hid (HE.out 2 (by unfold gsayErr; rw [if_neg hk]) (by decide))
    have hk' : knownT c = false := by simpa using hk
    have hc01 : c ≠ 0 ∧ c ≠ 1 ∧ c ≠ 2 ∧ c ≠ 3 ∧ c ≠ 4 ∧ c ≠ 13 := by unfold knownT at hk'; simp at hk'; omega
    obtain ⟨h0, h1, h2, h3, h4, h13⟩ := hc01
    have b0 : (c == 0) = false := by simpa using h0
    have b1 : (c == 1) = false := by simpa using h1
    have b2 : (c == 2) = false := by simpa using h2
    have b3 : (c == 3) = false := by simpa using h3
    have b4 : (c == 4) = false := by simpa using h4
    have b13 : (c == 13) = false := by simpa using h13
    clear hk hk' HE hx h0 h1 h2 h3 h4 h13
    go_enter Tryd.func24, Tryd.ntmps24
    go_wp2_with (first
      | ((with_reducible show wpList _ _ _ (⟨some 4, _, _, _, _, _⟩ :: _) _ _); refine wpList_alloc_blk rfl _ rfl zs _ ZH ?_; intro h w1 hg1 hg2 Z1 L1)
      | ((with_reducible show wpList _ _ _ (⟨some 9, _, _, _, _, _⟩ :: _) _ _); refine wpList_build_blk rfl _ _ rfl (.slice A n k :: .int .i64 0 :: .int .i64 0 :: []) (by refine Eq.trans ?_ B1; kernel_rfl) ?_)
      | ((with_reducible show wpList _ _ _ (⟨some 10, _, _, _, _, _⟩ :: _) _ _); refine wpList_build_blk rfl _ _ rfl (.slice A n k :: .int .i64 0 :: .int .i64 0 :: zs) (by refine Eq.trans ?_ B2; kernel_rfl) ?_)
      | ((with_reducible show wpList _ _ _ (⟨some 6, _, _, _, _, _⟩ :: _) _ _); refine wpList_alloc_blk rfl _ rfl (.slice none 0 0 :: .int .i64 0 :: .int .i64 0 :: zs) _ ZB ?_; intro g w2 hg3 hg4 P02 L2)
      | ((with_reducible show wpList _ _ _ (⟨none, .store _ (.tmp 6) _, _, _, _, _⟩ :: _) _ _); refine wpList_store_blk rfl _ (.tmp 6) (.tmp 10) rfl g rfl _ (.slice none 0 0 :: .int .i64 0 :: .int .i64 0 :: zs) (.slice A n k :: .int .i64 0 :: .int .i64 0 :: zs) rfl P02 23 size_sayB HZB HNB HOB ?_; intro w3 P03 O3 hg5; have hsz := L1.out.size; have hng : h ≠ g := (by omega); have Z3 := Lib.hid ((Z1.out.over L2.out).only O3.out hng); have B3 : Hid (Below w.heap.size w w3) := below_only (step L1.out L2.out) O3.out (by omega); have P3 : Hid (PRd w3 g 98 A n k rd0 zs) := P03; have hwg : w.heap.size ≤ g := (by omega); have hwh : w.heap.size ≤ h := hg1)
      | ((with_reducible show wpList _ _ _ (⟨some 12, _, _, _, _, _⟩ :: _) _ _); refine wpList_build_none rfl _ rfl zs BZ ?_)
      | ((with_reducible show wpList _ _ _ (⟨none, .store _ (.tmp 4) _, _, _, _, _⟩ :: _) _ _); refine wpList_store_blk rfl _ (.tmp 4) (.tmp 12) rfl h rfl _ zs zs rfl Z3 20 size_say HZ HZ HZ1 ?_; intro w10 K10 O10 hg10)
      | fail)
    refine bodyPost_ret (v := .tuple #[.agg zs.toArray, .int .i64 2]) ?_ rfl (HQ.out _ _ rfl (below_only B3.out O10.out hwh))
    exact results_cell_two rfl _ _ h _ _ (0, 0) _ rfl K10.out Tryd.underlying45 rfl (by rw [size_say]; have := HZ.out; simp [this]) rfl
  by_cases h0 : c = 0
  · subst h0
    have p0 : rd0.p ≤ n := Nat.zero_le _
    have p1 : (rdN xs 2 rd0).2.p ≤ n := rdN_place hl p0
    have p2 : (rdZ xs 2 (rdN xs 2 rd0).2).p ≤ n := rdZ_place hl p1
    have p3 : (rdN xs 4 (rdZ xs 2 (rdN xs 2 rd0).2)).2.p ≤ n := rdN_place hl p2
    have p4 : (rdPart xs 8 (rdN xs 4 (rdZ xs 2 (rdN xs 2 rd0).2)).2).2.p ≤ n := rdPart_place hl p3
    have C1 : Hid (∀ (w' : World) (g : Nat) (rest : List Value), PRd w' g 98 A n k rd0 rest → Holds w' w'.heap.size A n k xs → Calls Tryd.prog 61 #[.pointer (some ⟨g, 0, none⟩), .int .i64 2] w' (PNumPost w' g 98 A n k (rdN xs 2 rd0) rest)) := fun w' g rest h1 h2 => rnumber_any w' g 98 A n k xs _ 2 rest h1 h2 p0 (by decide)
    have C2 : Hid (∀ (w' : World) (g : Nat) (rest : List Value), PRd w' g 98 A n k (rdN xs 2 rd0).2 rest → Holds w' w'.heap.size A n k xs → Calls Tryd.prog 54 #[.pointer (some ⟨g, 0, none⟩), .int .i64 2] w' (PEndPost w' g 98 A n k (rdZ xs 2 (rdN xs 2 rd0).2) rest)) := fun w' g rest h1 h2 => noughts_any w' g 98 A n k xs _ 2 rest h1 h2 p1 (by decide)
    have C3 : Hid (∀ (w' : World) (g : Nat) (rest : List Value), PRd w' g 98 A n k (rdZ xs 2 (rdN xs 2 rd0).2) rest → Holds w' w'.heap.size A n k xs → Calls Tryd.prog 61 #[.pointer (some ⟨g, 0, none⟩), .int .i64 4] w' (PNumPost w' g 98 A n k (rdN xs 4 (rdZ xs 2 (rdN xs 2 rd0).2)) rest)) := fun w' g rest h1 h2 => rnumber_any w' g 98 A n k xs _ 4 rest h1 h2 p2 (by decide)
    have CF : Hid (∀ (w' : World) (g : Nat) (rest : List Value), PRd w' g 98 A n k (rdN xs 4 (rdZ xs 2 (rdN xs 2 rd0).2)).2 rest → Holds w' w'.heap.size A n k xs → 2 + 8 ≤ rest.length → Calls Tryd.prog 52 #[.pointer (some ⟨g, 0, none⟩), .slice (some ⟨g, 5, none⟩) 8 8] w' (PEndPost w' g 98 A n k (rdPart xs 8 (rdN xs 4 (rdZ xs 2 (rdN xs 2 rd0).2)).2).2 (spliced rest 2 (rdPart xs 8 (rdN xs 4 (rdZ xs 2 (rdN xs 2 rd0).2)).2).1))) := fun w' g rest h1 h2 h3 => fill_any w' g 98 A n k xs _ 2 8 8 rest h1 h2 p3 (by decide) (by decide) h3
    have hok := rdPart_ok (m := 8) (r := (rdN xs 4 (rdZ xs 2 (rdN xs 2 rd0).2)).2) hl
    have hbyq := rdPart_bytes hby 8 (rdN xs 4 (rdZ xs 2 (rdN xs 2 rd0).2)).2
    have hd1 := rdN_bounds hby rd0
    have hs1 := rdN_bounds4 hby (rdZ xs 2 (rdN xs 2 rd0).2)
    have CE : Hid (∀ (w' : World) (g : Nat) (rest : List Value), PRd w' g 98 A n k (rdPart xs 8 (rdN xs 4 (rdZ xs 2 (rdN xs 2 rd0).2)).2).2 rest → Calls Tryd.prog 55 #[.pointer (some ⟨g, 0, none⟩)] w' fun e w2 => e = .returned (.int .i64 (rdEnd xs (rdPart xs 8 (rdN xs 4 (rdZ xs 2 (rdN xs 2 rd0).2)).2).2)) ∧ ∃ j, w'.drewN j = w2) := fun w' g rest h1 => rend_any w' g 98 A n k xs _ rest h1 hl hrm p4
    have hre : rdEnd xs (rdPart xs 8 (rdN xs 4 (rdZ xs 2 (rdN xs 2 rd0).2)).2).2 = 0 → (rdPart xs 8 (rdN xs 4 (rdZ xs 2 (rdN xs 2 rd0).2)).2).2.e = 0 := rdEnd_zero
    have hge : gsayErr 0 xs = rdEnd xs (rdPart xs 8 (rdN xs 4 (rdZ xs 2 (rdN xs 2 rd0).2)).2).2 := by unfold gsayErr gsayP; rw [if_pos hk, if_pos rfl]
    by_cases he : rdEnd xs (rdPart xs 8 (rdN xs 4 (rdZ xs 2 (rdN xs 2 rd0).2)).2).2 = 0
    rotate_left
    · have HQ := Lib.hid (HE.out _ hge he)
      have hne : (rdEnd xs (rdPart xs 8 (rdN xs 4 (rdZ xs 2 (rdN xs 2 rd0).2)).2).2 != 0) = true := by simpa using he
      obtain ⟨n1, hn1⟩ : ∃ x, x = rdN xs 2 rd0 := ⟨_, rfl⟩
      rw [← hn1] at C1 C2 C3 CF p1 p2 p3 p4 hok hbyq hd1 hs1 CE he hre HQ hne
      clear hn1
      obtain ⟨z, hz⟩ : ∃ x, x = rdZ xs 2 n1.2 := ⟨_, rfl⟩
      rw [← hz] at C2 C3 CF p2 p3 p4 hok hbyq hs1 CE he hre HQ hne
      clear hz
      obtain ⟨n2, hn2⟩ : ∃ x, x = rdN xs 4 z := ⟨_, rfl⟩
      rw [← hn2] at C3 CF p3 p4 hok hbyq hs1 CE he hre HQ hne
      clear hn2
      obtain ⟨q, hq⟩ : ∃ x, x = rdPart xs 8 n2.2 := ⟨_, rfl⟩
      rw [← hq] at CF p4 hok hbyq CE he hre HQ hne
      clear hq
      obtain ⟨er, her⟩ : ∃ x, x = rdEnd xs q.2 := ⟨_, rfl⟩
      rw [← her] at CE he HQ hne hre
      clear her he hre
      clear HE hx hk hge
      go_enter Tryd.func24, Tryd.ntmps24
      go_wp2_with (first
        | ((with_reducible show wpList _ _ _ (⟨some 4, _, _, _, _, _⟩ :: _) _ _); refine wpList_alloc_blk rfl _ rfl zs _ ZH ?_; intro h w1 hg1 hg2 Z1 L1)
        | ((with_reducible show wpList _ _ _ (⟨some 9, _, _, _, _, _⟩ :: _) _ _); refine wpList_build_blk rfl _ _ rfl (.slice A n k :: .int .i64 0 :: .int .i64 0 :: []) (by refine Eq.trans ?_ B1; kernel_rfl) ?_)
        | ((with_reducible show wpList _ _ _ (⟨some 10, _, _, _, _, _⟩ :: _) _ _); refine wpList_build_blk rfl _ _ rfl (.slice A n k :: .int .i64 0 :: .int .i64 0 :: zs) (by refine Eq.trans ?_ B2; kernel_rfl) ?_)
        | ((with_reducible show wpList _ _ _ (⟨some 6, _, _, _, _, _⟩ :: _) _ _); refine wpList_alloc_blk rfl _ rfl (.slice none 0 0 :: .int .i64 0 :: .int .i64 0 :: zs) _ ZB ?_; intro g w2 hg3 hg4 P02 L2)
        | ((with_reducible show wpList _ _ _ (⟨none, .store _ (.tmp 6) _, _, _, _, _⟩ :: _) _ _); refine wpList_store_blk rfl _ (.tmp 6) (.tmp 10) rfl g rfl _ (.slice none 0 0 :: .int .i64 0 :: .int .i64 0 :: zs) (.slice A n k :: .int .i64 0 :: .int .i64 0 :: zs) rfl P02 23 size_sayB HZB HNB HOB ?_; intro w3 P03 O3 hg5; have hsz := L1.out.size; have hng : h ≠ g := (by omega); have Z3 := Lib.hid ((Z1.out.over L2.out).only O3.out hng); have B3 : Hid (Below w.heap.size w w3) := below_only (step L1.out L2.out) O3.out (by omega); have P3 : Hid (PRd w3 g 98 A n k rd0 zs) := P03; have hwg : w.heap.size ≤ g := (by omega); have hwh : w.heap.size ≤ h := hg1)
        | fail)
      refine (C1.out w3 g _ P3.out ((HX.out.below B3.out).mono B3.out.size)).mono ?_
      rintro e w4 ⟨rfl, hP, hS⟩
      have P4 := Lib.hid hP
      have Z4 := Lib.hid (Z3.out.save hS hng)
      have B4 := Lib.hid (B3.out.trans (hS.below hwg B3.out.size))
      clear hP hS P3 Z3 B3
      obtain ⟨r4, hrs⟩ : ∃ rs, rs = zs.set 0 (.int .u16 n1.1) := ⟨_, rfl⟩
      have HR4 := Lib.hid hrs
      have hst : ∀ u : Value, (Value.slice A n k :: Value.int .i64 (n1.2.p : Int) :: Value.int .i64 n1.2.e :: zs).set 3 u = Value.slice A n k :: Value.int .i64 (n1.2.p : Int) :: Value.int .i64 n1.2.e :: zs.set 0 u := fun _ => rfl
      have HST := Lib.hid (hst (.int .u16 n1.1))
      rw [← hrs] at HST
      have r4l : r4.length = 20 := by rw [hrs, List.length_set]; exact HZ.out
      clear hst hrs
      obtain ⟨cc, hcc⟩ : ∃ x, x = Value.slice A n k :: Value.int .i64 (n1.2.p : Int) :: Value.int .i64 n1.2.e :: zs := ⟨_, rfl⟩
      have hcl : 3 < cc.length := by rw [hcc]; have h := HZ.out; simp only [List.length_cons]; omega
      have HCL := Lib.hid hcl
      have PC : Hid (Blk w4 g 98 cc) := by rw [hcc]; exact P4.out
      rw [← hcc] at HST
      clear hcc hcl P4
      go_wp2_with (first
        | ((with_reducible show wpList _ _ _ (⟨none, .store _ (.tmp 19) _, _, _, _, _⟩ :: _) _ _); refine wpList_store_fld rfl _ (.tmp 19) (.tmp 17) rfl g 3 rfl _ cc (.int .u16 n1.1) rfl PC HCL (by kernel_rfl) rfl ?_; intro w5 P05 O5 q5; rw [HST.out] at P05; have P5 : Hid (PRd w5 g 98 A n k n1.2 r4) := P05; have Z5 := Lib.hid (Z4.out.only O5.out hng); have B5 : Hid (Below w.heap.size w w5) := below_only B4.out O5.out hwg)
        | fail)
      clear P05 O5 q5 PC Z4 B4 HST HCL cc
      refine (C2.out w5 g _ P5.out ((HX.out.below B5.out).mono B5.out.size)).mono ?_
      rintro e w6 ⟨rfl, hP, hS⟩
      have P6 := Lib.hid hP
      have Z6 := Lib.hid (Z5.out.save hS hng)
      have B6 := Lib.hid (B5.out.trans (hS.below hwg B5.out.size))
      clear hP hS P5 Z5 B5
      go_wp2_with fail
      refine (C3.out w6 g _ P6.out ((HX.out.below B6.out).mono B6.out.size)).mono ?_
      rintro e w7 ⟨rfl, hP, hS⟩
      have P7 := Lib.hid hP
      have Z7 := Lib.hid (Z6.out.save hS hng)
      have B7 := Lib.hid (B6.out.trans (hS.below hwg B6.out.size))
      clear hP hS P6 Z6 B6
      obtain ⟨r5, hrs⟩ : ∃ rs, rs = r4.set 1 (.int .u64 n2.1) := ⟨_, rfl⟩
      have HR5 := Lib.hid hrs
      have hst : ∀ u : Value, (Value.slice A n k :: Value.int .i64 (n2.2.p : Int) :: Value.int .i64 n2.2.e :: r4).set 4 u = Value.slice A n k :: Value.int .i64 (n2.2.p : Int) :: Value.int .i64 n2.2.e :: r4.set 1 u := fun _ => rfl
      have HST := Lib.hid (hst (.int .u64 n2.1))
      rw [← hrs] at HST
      have r5l : r5.length = 20 := by rw [hrs, List.length_set]; exact r4l
      clear hst hrs
      obtain ⟨cc, hcc⟩ : ∃ x, x = Value.slice A n k :: Value.int .i64 (n2.2.p : Int) :: Value.int .i64 n2.2.e :: r4 := ⟨_, rfl⟩
      have hcl : 4 < cc.length := by rw [hcc]; have h := r4l; simp only [List.length_cons]; omega
      have HCL := Lib.hid hcl
      have PC : Hid (Blk w7 g 98 cc) := by rw [hcc]; exact P7.out
      rw [← hcc] at HST
      clear hcc hcl P7
      go_wp2_with (first
        | ((with_reducible show wpList _ _ _ (⟨none, .store _ (.tmp 25) _, _, _, _, _⟩ :: _) _ _); refine wpList_store_fld rfl _ (.tmp 25) (.tmp 23) rfl g 4 rfl _ cc (.int .u64 n2.1) rfl PC HCL (by kernel_rfl) rfl ?_; intro w8 P08 O8 q8; rw [HST.out] at P08; have P8 : Hid (PRd w8 g 98 A n k n2.2 r5) := P08; have Z8 := Lib.hid (Z7.out.only O8.out hng); have B8 : Hid (Below w.heap.size w w8) := below_only B7.out O8.out hwg)
        | fail)
      clear P08 O8 q8 PC Z7 B7 HST HCL cc
      have HV : Hid (2 + 8 ≤ r5.length) := by show _ ≤ _; rw [r5l]; omega
      refine (CF.out w8 g _ P8.out ((HX.out.below B8.out).mono B8.out.size) HV.out).mono ?_
      rintro e w9 ⟨rfl, hP, hS⟩
      have P9' := Lib.hid hP
      have Z9 := Lib.hid (Z8.out.save hS hng)
      have B9 := Lib.hid (B8.out.trans (hS.below hwg B8.out.size))
      clear hP hS P8 Z8 B8
      obtain ⟨rs, hrs⟩ : ∃ rs, rs = spliced r5 2 q.1 := ⟨_, rfl⟩
      have HRS := Lib.hid hrs
      rw [← hrs] at P9'
      have P9 := P9'
      clear hrs P9'
      go_wp2_with fail
      refine (CE.out w9 g _ P9.out).mono ?_
      rintro e w99 ⟨rfl, kk, rfl⟩
      have Z99 := Lib.hid (Blk.drewN Z9.out kk)
      have P99 := Lib.hid (Blk.drewN P9.out kk)
      have B99 : Hid (Below w.heap.size w (w9.drewN kk)) := step B9.out (drewed _ kk)
      obtain ⟨wq, hwq⟩ : ∃ wq, wq = w9.drewN kk := ⟨_, rfl⟩
      rw [← hwq] at Z99 P99 B99 ⊢
      clear hwq P9 Z9 B9
      go_wp2_with (first
        | ((with_reducible show wpList _ _ _ (⟨some 43, _, _, _, _, _⟩ :: _) _ _); refine wpList_build_none rfl _ rfl zs BZ ?_)
        | ((with_reducible show wpList _ _ _ (⟨none, .store _ (.tmp 4) _, _, _, _, _⟩ :: _) _ _); refine wpList_store_blk rfl _ (.tmp 4) (.tmp 43) rfl h rfl _ zs zs rfl Z99 20 size_say HZ HZ HZ1 ?_; intro w10 K10 O10 hg10)
        | fail)
      refine bodyPost_ret (v := .tuple #[.agg zs.toArray, .int .i64 er]) ?_ rfl (HQ.out _ _ rfl (below_only B99.out O10.out hwh))
      exact results_cell_two rfl _ _ h _ _ (0, 0) _ rfl K10.out Tryd.underlying45 rfl (by rw [size_say]; have := HZ.out; simp [this]) rfl
    have HQ : Hid (∀ e w', e = .returned (.tuple #[.agg (scells (.slice none 0 0) (.slice none 0 0) ({ zeroSay with dia := (rdN xs 2 rd0).1, siz := (rdN xs 4 (rdZ xs 2 (rdN xs 2 rd0).2)).1, chal := (rdPart xs 8 (rdN xs 4 (rdZ xs 2 (rdN xs 2 rd0).2)).2).1 })).toArray, .int .i64 0]) → Below w.heap.size w w' → PGSayPost w 0 xs e w') := by
      intro e w' h1 h3
      have h4 : gsayOf 0 xs = { zeroSay with dia := (rdN xs 2 rd0).1, siz := (rdN xs 4 (rdZ xs 2 (rdN xs 2 rd0).2)).1, chal := (rdPart xs 8 (rdN xs 4 (rdZ xs 2 (rdN xs 2 rd0).2)).2).1 } := by unfold gsayOf; rw [hge, he, if_pos rfl]; unfold gsayP; rw [if_pos rfl]
      unfold PGSayPost
      rw [h4, hge, he]
      exact ⟨h1, h3⟩
    obtain ⟨n1, hn1⟩ : ∃ x, x = rdN xs 2 rd0 := ⟨_, rfl⟩
    rw [← hn1] at C1 C2 C3 CF p1 p2 p3 p4 hok hbyq hd1 hs1 CE he hre HQ
    clear hn1
    obtain ⟨z, hz⟩ : ∃ x, x = rdZ xs 2 n1.2 := ⟨_, rfl⟩
    rw [← hz] at C2 C3 CF p2 p3 p4 hok hbyq hs1 CE he hre HQ
    clear hz
    obtain ⟨n2, hn2⟩ : ∃ x, x = rdN xs 4 z := ⟨_, rfl⟩
    rw [← hn2] at C3 CF p3 p4 hok hbyq hs1 CE he hre HQ
    clear hn2
    obtain ⟨q, hq⟩ : ∃ x, x = rdPart xs 8 n2.2 := ⟨_, rfl⟩
    rw [← hq] at CF p4 hok hbyq CE he hre HQ
    clear hq
    rw [he] at CE
    have hre0 := hre he
    have hql := hok hre0
    have kd : ({ zeroSay with dia := n1.1, siz := n2.1 } : SayV).ok := ⟨hd1, hs1, zeroSay_ok.clen, zeroSay_ok.cbyte, zeroSay_ok.lev, zeroSay_ok.dur, zeroSay_ok.made, zeroSay_ok.file, zeroSay_ok.kind, zeroSay_ok.data, zeroSay_ok.n, zeroSay_ok.ents⟩
    have kw : ({ zeroSay with dia := n1.1, siz := n2.1, chal := q.1 } : SayV).ok := ⟨hd1, hs1, hql, hbyq, zeroSay_ok.lev, zeroSay_ok.dur, zeroSay_ok.made, zeroSay_ok.file, zeroSay_ok.kind, zeroSay_ok.data, zeroSay_ok.n, zeroSay_ok.ents⟩
    clear HE hx hk hge hre he hre0
    go_enter Tryd.func24, Tryd.ntmps24
    go_wp2_with (first
      | ((with_reducible show wpList _ _ _ (⟨some 4, _, _, _, _, _⟩ :: _) _ _); refine wpList_alloc_blk rfl _ rfl zs _ ZH ?_; intro h w1 hg1 hg2 Z1 L1)
      | ((with_reducible show wpList _ _ _ (⟨some 9, _, _, _, _, _⟩ :: _) _ _); refine wpList_build_blk rfl _ _ rfl (.slice A n k :: .int .i64 0 :: .int .i64 0 :: []) (by refine Eq.trans ?_ B1; kernel_rfl) ?_)
      | ((with_reducible show wpList _ _ _ (⟨some 10, _, _, _, _, _⟩ :: _) _ _); refine wpList_build_blk rfl _ _ rfl (.slice A n k :: .int .i64 0 :: .int .i64 0 :: zs) (by refine Eq.trans ?_ B2; kernel_rfl) ?_)
      | ((with_reducible show wpList _ _ _ (⟨some 6, _, _, _, _, _⟩ :: _) _ _); refine wpList_alloc_blk rfl _ rfl (.slice none 0 0 :: .int .i64 0 :: .int .i64 0 :: zs) _ ZB ?_; intro g w2 hg3 hg4 P02 L2)
      | ((with_reducible show wpList _ _ _ (⟨none, .store _ (.tmp 6) _, _, _, _, _⟩ :: _) _ _); refine wpList_store_blk rfl _ (.tmp 6) (.tmp 10) rfl g rfl _ (.slice none 0 0 :: .int .i64 0 :: .int .i64 0 :: zs) (.slice A n k :: .int .i64 0 :: .int .i64 0 :: zs) rfl P02 23 size_sayB HZB HNB HOB ?_; intro w3 P03 O3 hg5; have hsz := L1.out.size; have hng : h ≠ g := (by omega); have Z3 := Lib.hid ((Z1.out.over L2.out).only O3.out hng); have B3 : Hid (Below w.heap.size w w3) := below_only (step L1.out L2.out) O3.out (by omega); have P3 : Hid (PRd w3 g 98 A n k rd0 zs) := P03; have hwg : w.heap.size ≤ g := (by omega); have hwh : w.heap.size ≤ h := hg1)
      | fail)
    refine (C1.out w3 g _ P3.out ((HX.out.below B3.out).mono B3.out.size)).mono ?_
    rintro e w4 ⟨rfl, hP, hS⟩
    have P4 := Lib.hid hP
    have Z4 := Lib.hid (Z3.out.save hS hng)
    have B4 := Lib.hid (B3.out.trans (hS.below hwg B3.out.size))
    clear hP hS P3 Z3 B3
    obtain ⟨r4, hrs⟩ : ∃ rs, rs = zs.set 0 (.int .u16 n1.1) := ⟨_, rfl⟩
    have HR4 := Lib.hid hrs
    have hst : ∀ u : Value, (Value.slice A n k :: Value.int .i64 (n1.2.p : Int) :: Value.int .i64 n1.2.e :: zs).set 3 u = Value.slice A n k :: Value.int .i64 (n1.2.p : Int) :: Value.int .i64 n1.2.e :: zs.set 0 u := fun _ => rfl
    have HST := Lib.hid (hst (.int .u16 n1.1))
    rw [← hrs] at HST
    have r4l : r4.length = 20 := by rw [hrs, List.length_set]; exact HZ.out
    clear hst hrs
    obtain ⟨cc, hcc⟩ : ∃ x, x = Value.slice A n k :: Value.int .i64 (n1.2.p : Int) :: Value.int .i64 n1.2.e :: zs := ⟨_, rfl⟩
    have hcl : 3 < cc.length := by rw [hcc]; have h := HZ.out; simp only [List.length_cons]; omega
    have HCL := Lib.hid hcl
    have PC : Hid (Blk w4 g 98 cc) := by rw [hcc]; exact P4.out
    rw [← hcc] at HST
    clear hcc hcl P4
    go_wp2_with (first
      | ((with_reducible show wpList _ _ _ (⟨none, .store _ (.tmp 19) _, _, _, _, _⟩ :: _) _ _); refine wpList_store_fld rfl _ (.tmp 19) (.tmp 17) rfl g 3 rfl _ cc (.int .u16 n1.1) rfl PC HCL (by kernel_rfl) rfl ?_; intro w5 P05 O5 q5; rw [HST.out] at P05; have P5 : Hid (PRd w5 g 98 A n k n1.2 r4) := P05; have Z5 := Lib.hid (Z4.out.only O5.out hng); have B5 : Hid (Below w.heap.size w w5) := below_only B4.out O5.out hwg)
      | fail)
    clear P05 O5 q5 PC Z4 B4 HST HCL cc
    refine (C2.out w5 g _ P5.out ((HX.out.below B5.out).mono B5.out.size)).mono ?_
    rintro e w6 ⟨rfl, hP, hS⟩
    have P6 := Lib.hid hP
    have Z6 := Lib.hid (Z5.out.save hS hng)
    have B6 := Lib.hid (B5.out.trans (hS.below hwg B5.out.size))
    clear hP hS P5 Z5 B5
    go_wp2_with fail
    refine (C3.out w6 g _ P6.out ((HX.out.below B6.out).mono B6.out.size)).mono ?_
    rintro e w7 ⟨rfl, hP, hS⟩
    have P7 := Lib.hid hP
    have Z7 := Lib.hid (Z6.out.save hS hng)
    have B7 := Lib.hid (B6.out.trans (hS.below hwg B6.out.size))
    clear hP hS P6 Z6 B6
    obtain ⟨r5, hrs⟩ : ∃ rs, rs = r4.set 1 (.int .u64 n2.1) := ⟨_, rfl⟩
    have HR5 := Lib.hid hrs
    have hst : ∀ u : Value, (Value.slice A n k :: Value.int .i64 (n2.2.p : Int) :: Value.int .i64 n2.2.e :: r4).set 4 u = Value.slice A n k :: Value.int .i64 (n2.2.p : Int) :: Value.int .i64 n2.2.e :: r4.set 1 u := fun _ => rfl
    have HST := Lib.hid (hst (.int .u64 n2.1))
    rw [← hrs] at HST
    have r5l : r5.length = 20 := by rw [hrs, List.length_set]; exact r4l
    clear hst hrs
    obtain ⟨cc, hcc⟩ : ∃ x, x = Value.slice A n k :: Value.int .i64 (n2.2.p : Int) :: Value.int .i64 n2.2.e :: r4 := ⟨_, rfl⟩
    have hcl : 4 < cc.length := by rw [hcc]; have h := r4l; simp only [List.length_cons]; omega
    have HCL := Lib.hid hcl
    have PC : Hid (Blk w7 g 98 cc) := by rw [hcc]; exact P7.out
    rw [← hcc] at HST
    clear hcc hcl P7
    go_wp2_with (first
      | ((with_reducible show wpList _ _ _ (⟨none, .store _ (.tmp 25) _, _, _, _, _⟩ :: _) _ _); refine wpList_store_fld rfl _ (.tmp 25) (.tmp 23) rfl g 4 rfl _ cc (.int .u64 n2.1) rfl PC HCL (by kernel_rfl) rfl ?_; intro w8 P08 O8 q8; rw [HST.out] at P08; have P8 : Hid (PRd w8 g 98 A n k n2.2 r5) := P08; have Z8 := Lib.hid (Z7.out.only O8.out hng); have B8 : Hid (Below w.heap.size w w8) := below_only B7.out O8.out hwg)
      | fail)
    clear P08 O8 q8 PC Z7 B7 HST HCL cc
    have HV : Hid (2 + 8 ≤ r5.length) := by show _ ≤ _; rw [r5l]; omega
    refine (CF.out w8 g _ P8.out ((HX.out.below B8.out).mono B8.out.size) HV.out).mono ?_
    rintro e w9 ⟨rfl, hP, hS⟩
    have P9' := Lib.hid hP
    have Z9 := Lib.hid (Z8.out.save hS hng)
    have B9 := Lib.hid (B8.out.trans (hS.below hwg B8.out.size))
    clear hP hS P8 Z8 B8
    obtain ⟨rs, hrs⟩ : ∃ rs, rs = spliced r5 2 q.1 := ⟨_, rfl⟩
    have HRS := Lib.hid hrs
    rw [← hrs] at P9'
    have P9 := P9'
    clear hrs P9'
    go_wp2_with fail
    have HEQ : Hid (rs = scells (.slice none 0 0) (.slice none 0 0) ({ zeroSay with dia := n1.1, siz := n2.1, chal := q.1 })) := by
      show _ = _
      rw [HRS.out]
      have e1 : r5 = scells (.slice none 0 0) (.slice none 0 0) { zeroSay with dia := n1.1, siz := n2.1 } := by rw [HR5.out, HR4.out, HZS.out]; rfl
      rw [e1]
      have h := scells_chalS (vx := .slice none 0 0) (ve := .slice none 0 0) (s := { zeroSay with dia := n1.1, siz := n2.1 }) kd q.1
      rw [← h]
      unfold spliced
      rw [hql]
    have HRL : Hid (rs.length = 20) := by show _ = _; rw [HEQ.out]; exact scells_len kw
    have HR1 : Hid (∀ v ∈ rs, v.oneCell' = true) := by rw [HEQ.out]; exact scells_one rfl rfl
    refine (CE.out w9 g _ P9.out).mono ?_
    rintro e w99 ⟨rfl, kk, rfl⟩
    have Z99 := Lib.hid (Blk.drewN Z9.out kk)
    have P99 := Lib.hid (Blk.drewN P9.out kk)
    have B99 : Hid (Below w.heap.size w (w9.drewN kk)) := step B9.out (drewed _ kk)
    obtain ⟨wq, hwq⟩ : ∃ wq, wq = w9.drewN kk := ⟨_, rfl⟩
    rw [← hwq] at Z99 P99 B99 ⊢
    clear hwq P9 Z9 B9
    have hrg : Hid (wq.rangeAt g 3 rs) := Blk.range P99.out 3
    go_wp2_with (first
      | ((with_reducible show wpList _ _ _ (⟨some 46, _, _, _, _, _⟩ :: _) _ _); refine wpList_load_midu rfl _ (.tmp 45) rfl g 3 rfl rs _ hrg Tryd.underlying45 rfl 20 size_say HRL ?_)
      | ((with_reducible show wpList _ _ _ (⟨none, .store _ (.tmp 4) _, _, _, _, _⟩ :: _) _ _); refine wpList_store_blk rfl _ (.tmp 4) (.tmp 46) rfl h rfl _ zs rs rfl Z99 20 size_say HZ HRL HR1 ?_; intro w10 K10 O10 hg10)
      | fail)
    refine bodyPost_ret (v := .tuple #[.agg rs.toArray, .int .i64 0]) ?_ rfl ?_
    · exact results_cell_two rfl _ _ h _ _ (0, 0) _ rfl K10.out Tryd.underlying45 rfl (by rw [size_say]; have := HRL.out; simp [this]) rfl
    · exact HQ.out _ w10 (congrArg (fun r : List Value => Ending.returned (.tuple #[.agg r.toArray, .int .i64 0])) HEQ.out) (below_only B99.out O10.out hwh)
  by_cases h1 : c = 1
  · subst h1
    have p0 : rd0.p ≤ n := Nat.zero_le _
    have p1 : (rdZ xs 4 rd0).p ≤ n := rdZ_place hl p0
    have C1 : Hid (∀ (w' : World) (g : Nat) (rest : List Value), PRd w' g 98 A n k rd0 rest → Holds w' w'.heap.size A n k xs → Calls Tryd.prog 54 #[.pointer (some ⟨g, 0, none⟩), .int .i64 4] w' (PEndPost w' g 98 A n k (rdZ xs 4 rd0) rest)) := fun w' g rest h1 h2 => noughts_any w' g 98 A n k xs _ 4 rest h1 h2 p0 (by decide)
    have CE : Hid (∀ (w' : World) (g : Nat) (rest : List Value), PRd w' g 98 A n k (rdZ xs 4 rd0) rest → Calls Tryd.prog 55 #[.pointer (some ⟨g, 0, none⟩)] w' fun e w2 => e = .returned (.int .i64 (rdEnd xs (rdZ xs 4 rd0))) ∧ ∃ j, w'.drewN j = w2) := fun w' g rest h1 => rend_any w' g 98 A n k xs _ rest h1 hl hrm p1
    have hre : rdEnd xs (rdZ xs 4 rd0) = 0 → (rdZ xs 4 rd0).e = 0 := rdEnd_zero
    have hge : gsayErr 1 xs = rdEnd xs (rdZ xs 4 rd0) := by unfold gsayErr gsayP; rw [if_pos hk, if_neg (by decide)]
    by_cases he : rdEnd xs (rdZ xs 4 rd0) = 0
    rotate_left
    · have HQ := Lib.hid (HE.out _ hge he)
      have hne : (rdEnd xs (rdZ xs 4 rd0) != 0) = true := by simpa using he
      obtain ⟨z, hz⟩ : ∃ x, x = rdZ xs 4 rd0 := ⟨_, rfl⟩
      rw [← hz] at C1 p1 CE he hre HQ hne
      clear hz
      obtain ⟨er, her⟩ : ∃ x, x = rdEnd xs z := ⟨_, rfl⟩
      rw [← her] at CE he HQ hne hre
      clear her he hre
      clear HE hx hk hge
      go_enter Tryd.func24, Tryd.ntmps24
      go_wp2_with (first
        | ((with_reducible show wpList _ _ _ (⟨some 4, _, _, _, _, _⟩ :: _) _ _); refine wpList_alloc_blk rfl _ rfl zs _ ZH ?_; intro h w1 hg1 hg2 Z1 L1)
        | ((with_reducible show wpList _ _ _ (⟨some 9, _, _, _, _, _⟩ :: _) _ _); refine wpList_build_blk rfl _ _ rfl (.slice A n k :: .int .i64 0 :: .int .i64 0 :: []) (by refine Eq.trans ?_ B1; kernel_rfl) ?_)
        | ((with_reducible show wpList _ _ _ (⟨some 10, _, _, _, _, _⟩ :: _) _ _); refine wpList_build_blk rfl _ _ rfl (.slice A n k :: .int .i64 0 :: .int .i64 0 :: zs) (by refine Eq.trans ?_ B2; kernel_rfl) ?_)
        | ((with_reducible show wpList _ _ _ (⟨some 6, _, _, _, _, _⟩ :: _) _ _); refine wpList_alloc_blk rfl _ rfl (.slice none 0 0 :: .int .i64 0 :: .int .i64 0 :: zs) _ ZB ?_; intro g w2 hg3 hg4 P02 L2)
        | ((with_reducible show wpList _ _ _ (⟨none, .store _ (.tmp 6) _, _, _, _, _⟩ :: _) _ _); refine wpList_store_blk rfl _ (.tmp 6) (.tmp 10) rfl g rfl _ (.slice none 0 0 :: .int .i64 0 :: .int .i64 0 :: zs) (.slice A n k :: .int .i64 0 :: .int .i64 0 :: zs) rfl P02 23 size_sayB HZB HNB HOB ?_; intro w3 P03 O3 hg5; have hsz := L1.out.size; have hng : h ≠ g := (by omega); have Z3 := Lib.hid ((Z1.out.over L2.out).only O3.out hng); have B3 : Hid (Below w.heap.size w w3) := below_only (step L1.out L2.out) O3.out (by omega); have P3 : Hid (PRd w3 g 98 A n k rd0 zs) := P03; have hwg : w.heap.size ≤ g := (by omega); have hwh : w.heap.size ≤ h := hg1)
        | fail)
      refine (C1.out w3 g _ P3.out ((HX.out.below B3.out).mono B3.out.size)).mono ?_
      rintro e w4 ⟨rfl, hP, hS⟩
      have P4 := Lib.hid hP
      have Z4 := Lib.hid (Z3.out.save hS hng)
      have B4 := Lib.hid (B3.out.trans (hS.below hwg B3.out.size))
      clear hP hS P3 Z3 B3
      obtain ⟨rs, hrs⟩ : ∃ rs, rs = zs := ⟨_, rfl⟩
      have HRS := Lib.hid hrs
      have P4' : Hid (PRd w4 g 98 A n k z rs) := by rw [hrs]; exact P4.out
      clear hrs P4
      have P4 := P4'
      clear P4'
      go_wp2_with fail
      refine (CE.out w4 g _ P4.out).mono ?_
      rintro e w99 ⟨rfl, kk, rfl⟩
      have Z99 := Lib.hid (Blk.drewN Z4.out kk)
      have P99 := Lib.hid (Blk.drewN P4.out kk)
      have B99 : Hid (Below w.heap.size w (w4.drewN kk)) := step B4.out (drewed _ kk)
      obtain ⟨wq, hwq⟩ : ∃ wq, wq = w4.drewN kk := ⟨_, rfl⟩
      rw [← hwq] at Z99 P99 B99 ⊢
      clear hwq P4 Z4 B4
      go_wp2_with (first
        | ((with_reducible show wpList _ _ _ (⟨some 43, _, _, _, _, _⟩ :: _) _ _); refine wpList_build_none rfl _ rfl zs BZ ?_)
        | ((with_reducible show wpList _ _ _ (⟨none, .store _ (.tmp 4) _, _, _, _, _⟩ :: _) _ _); refine wpList_store_blk rfl _ (.tmp 4) (.tmp 43) rfl h rfl _ zs zs rfl Z99 20 size_say HZ HZ HZ1 ?_; intro w10 K10 O10 hg10)
        | fail)
      refine bodyPost_ret (v := .tuple #[.agg zs.toArray, .int .i64 er]) ?_ rfl (HQ.out _ _ rfl (below_only B99.out O10.out hwh))
      exact results_cell_two rfl _ _ h _ _ (0, 0) _ rfl K10.out Tryd.underlying45 rfl (by rw [size_say]; have := HZ.out; simp [this]) rfl
    have HQ : Hid (∀ e w', e = .returned (.tuple #[.agg (scells (.slice none 0 0) (.slice none 0 0) (zeroSay)).toArray, .int .i64 0]) → Below w.heap.size w w' → PGSayPost w 1 xs e w') := by
      intro e w' h1 h3
      have h4 : gsayOf 1 xs = zeroSay := by unfold gsayOf; rw [hge, he, if_pos rfl]; unfold gsayP; rw [if_neg (by decide)]
      unfold PGSayPost
      rw [h4, hge, he]
      exact ⟨h1, h3⟩
    obtain ⟨z, hz⟩ : ∃ x, x = rdZ xs 4 rd0 := ⟨_, rfl⟩
    rw [← hz] at C1 p1 CE he hre
    clear hz
    rw [he] at CE
    have hre0 := hre he
    clear HE hx hk hge hre he hre0
    go_enter Tryd.func24, Tryd.ntmps24
    go_wp2_with (first
      | ((with_reducible show wpList _ _ _ (⟨some 4, _, _, _, _, _⟩ :: _) _ _); refine wpList_alloc_blk rfl _ rfl zs _ ZH ?_; intro h w1 hg1 hg2 Z1 L1)
      | ((with_reducible show wpList _ _ _ (⟨some 9, _, _, _, _, _⟩ :: _) _ _); refine wpList_build_blk rfl _ _ rfl (.slice A n k :: .int .i64 0 :: .int .i64 0 :: []) (by refine Eq.trans ?_ B1; kernel_rfl) ?_)
      | ((with_reducible show wpList _ _ _ (⟨some 10, _, _, _, _, _⟩ :: _) _ _); refine wpList_build_blk rfl _ _ rfl (.slice A n k :: .int .i64 0 :: .int .i64 0 :: zs) (by refine Eq.trans ?_ B2; kernel_rfl) ?_)
      | ((with_reducible show wpList _ _ _ (⟨some 6, _, _, _, _, _⟩ :: _) _ _); refine wpList_alloc_blk rfl _ rfl (.slice none 0 0 :: .int .i64 0 :: .int .i64 0 :: zs) _ ZB ?_; intro g w2 hg3 hg4 P02 L2)
      | ((with_reducible show wpList _ _ _ (⟨none, .store _ (.tmp 6) _, _, _, _, _⟩ :: _) _ _); refine wpList_store_blk rfl _ (.tmp 6) (.tmp 10) rfl g rfl _ (.slice none 0 0 :: .int .i64 0 :: .int .i64 0 :: zs) (.slice A n k :: .int .i64 0 :: .int .i64 0 :: zs) rfl P02 23 size_sayB HZB HNB HOB ?_; intro w3 P03 O3 hg5; have hsz := L1.out.size; have hng : h ≠ g := (by omega); have Z3 := Lib.hid ((Z1.out.over L2.out).only O3.out hng); have B3 : Hid (Below w.heap.size w w3) := below_only (step L1.out L2.out) O3.out (by omega); have P3 : Hid (PRd w3 g 98 A n k rd0 zs) := P03; have hwg : w.heap.size ≤ g := (by omega); have hwh : w.heap.size ≤ h := hg1)
      | fail)
    refine (C1.out w3 g _ P3.out ((HX.out.below B3.out).mono B3.out.size)).mono ?_
    rintro e w4 ⟨rfl, hP, hS⟩
    have P4 := Lib.hid hP
    have Z4 := Lib.hid (Z3.out.save hS hng)
    have B4 := Lib.hid (B3.out.trans (hS.below hwg B3.out.size))
    clear hP hS P3 Z3 B3
    obtain ⟨rs, hrs⟩ : ∃ rs, rs = zs := ⟨_, rfl⟩
    have HRS := Lib.hid hrs
    have P4' : Hid (PRd w4 g 98 A n k z rs) := by rw [hrs]; exact P4.out
    clear hrs P4
    have P4 := P4'
    clear P4'
    go_wp2_with fail
    have HEQ : Hid (rs = scells (.slice none 0 0) (.slice none 0 0) (zeroSay)) := by
      show _ = _
      rw [HRS.out, HZS.out]
    have HRL : Hid (rs.length = 20) := by show _ = _; rw [HEQ.out]; exact scells_len zeroSay_ok
    have HR1 : Hid (∀ v ∈ rs, v.oneCell' = true) := by rw [HEQ.out]; exact scells_one rfl rfl
    refine (CE.out w4 g _ P4.out).mono ?_
    rintro e w99 ⟨rfl, kk, rfl⟩
    have Z99 := Lib.hid (Blk.drewN Z4.out kk)
    have P99 := Lib.hid (Blk.drewN P4.out kk)
    have B99 : Hid (Below w.heap.size w (w4.drewN kk)) := step B4.out (drewed _ kk)
    obtain ⟨wq, hwq⟩ : ∃ wq, wq = w4.drewN kk := ⟨_, rfl⟩
    rw [← hwq] at Z99 P99 B99 ⊢
    clear hwq P4 Z4 B4
    have hrg : Hid (wq.rangeAt g 3 rs) := Blk.range P99.out 3
    go_wp2_with (first
      | ((with_reducible show wpList _ _ _ (⟨some 46, _, _, _, _, _⟩ :: _) _ _); refine wpList_load_midu rfl _ (.tmp 45) rfl g 3 rfl rs _ hrg Tryd.underlying45 rfl 20 size_say HRL ?_)
      | ((with_reducible show wpList _ _ _ (⟨none, .store _ (.tmp 4) _, _, _, _, _⟩ :: _) _ _); refine wpList_store_blk rfl _ (.tmp 4) (.tmp 46) rfl h rfl _ zs rs rfl Z99 20 size_say HZ HRL HR1 ?_; intro w10 K10 O10 hg10)
      | fail)
    refine bodyPost_ret (v := .tuple #[.agg rs.toArray, .int .i64 0]) ?_ rfl ?_
    · exact results_cell_two rfl _ _ h _ _ (0, 0) _ rfl K10.out Tryd.underlying45 rfl (by rw [size_say]; have := HRL.out; simp [this]) rfl
    · exact HQ.out _ w10 (congrArg (fun r : List Value => Ending.returned (.tuple #[.agg r.toArray, .int .i64 0])) HEQ.out) (below_only B99.out O10.out hwh)
  by_cases h3 : c = 3
  · subst h3
    have p0 : rd0.p ≤ n := Nat.zero_le _
    have p1 : (rdZ xs 4 rd0).p ≤ n := rdZ_place hl p0
    have C1 : Hid (∀ (w' : World) (g : Nat) (rest : List Value), PRd w' g 98 A n k rd0 rest → Holds w' w'.heap.size A n k xs → Calls Tryd.prog 54 #[.pointer (some ⟨g, 0, none⟩), .int .i64 4] w' (PEndPost w' g 98 A n k (rdZ xs 4 rd0) rest)) := fun w' g rest h1 h2 => noughts_any w' g 98 A n k xs _ 4 rest h1 h2 p0 (by decide)
    have CE : Hid (∀ (w' : World) (g : Nat) (rest : List Value), PRd w' g 98 A n k (rdZ xs 4 rd0) rest → Calls Tryd.prog 55 #[.pointer (some ⟨g, 0, none⟩)] w' fun e w2 => e = .returned (.int .i64 (rdEnd xs (rdZ xs 4 rd0))) ∧ ∃ j, w'.drewN j = w2) := fun w' g rest h1 => rend_any w' g 98 A n k xs _ rest h1 hl hrm p1
    have hre : rdEnd xs (rdZ xs 4 rd0) = 0 → (rdZ xs 4 rd0).e = 0 := rdEnd_zero
    have hge : gsayErr 3 xs = rdEnd xs (rdZ xs 4 rd0) := by unfold gsayErr gsayP; rw [if_pos hk, if_neg (by decide)]
    by_cases he : rdEnd xs (rdZ xs 4 rd0) = 0
    rotate_left
    · have HQ := Lib.hid (HE.out _ hge he)
      have hne : (rdEnd xs (rdZ xs 4 rd0) != 0) = true := by simpa using he
      obtain ⟨z, hz⟩ : ∃ x, x = rdZ xs 4 rd0 := ⟨_, rfl⟩
      rw [← hz] at C1 p1 CE he hre HQ hne
      clear hz
      obtain ⟨er, her⟩ : ∃ x, x = rdEnd xs z := ⟨_, rfl⟩
      rw [← her] at CE he HQ hne hre
      clear her he hre
      clear HE hx hk hge
      go_enter Tryd.func24, Tryd.ntmps24
      go_wp2_with (first
        | ((with_reducible show wpList _ _ _ (⟨some 4, _, _, _, _, _⟩ :: _) _ _); refine wpList_alloc_blk rfl _ rfl zs _ ZH ?_; intro h w1 hg1 hg2 Z1 L1)
        | ((with_reducible show wpList _ _ _ (⟨some 9, _, _, _, _, _⟩ :: _) _ _); refine wpList_build_blk rfl _ _ rfl (.slice A n k :: .int .i64 0 :: .int .i64 0 :: []) (by refine Eq.trans ?_ B1; kernel_rfl) ?_)
        | ((with_reducible show wpList _ _ _ (⟨some 10, _, _, _, _, _⟩ :: _) _ _); refine wpList_build_blk rfl _ _ rfl (.slice A n k :: .int .i64 0 :: .int .i64 0 :: zs) (by refine Eq.trans ?_ B2; kernel_rfl) ?_)
        | ((with_reducible show wpList _ _ _ (⟨some 6, _, _, _, _, _⟩ :: _) _ _); refine wpList_alloc_blk rfl _ rfl (.slice none 0 0 :: .int .i64 0 :: .int .i64 0 :: zs) _ ZB ?_; intro g w2 hg3 hg4 P02 L2)
        | ((with_reducible show wpList _ _ _ (⟨none, .store _ (.tmp 6) _, _, _, _, _⟩ :: _) _ _); refine wpList_store_blk rfl _ (.tmp 6) (.tmp 10) rfl g rfl _ (.slice none 0 0 :: .int .i64 0 :: .int .i64 0 :: zs) (.slice A n k :: .int .i64 0 :: .int .i64 0 :: zs) rfl P02 23 size_sayB HZB HNB HOB ?_; intro w3 P03 O3 hg5; have hsz := L1.out.size; have hng : h ≠ g := (by omega); have Z3 := Lib.hid ((Z1.out.over L2.out).only O3.out hng); have B3 : Hid (Below w.heap.size w w3) := below_only (step L1.out L2.out) O3.out (by omega); have P3 : Hid (PRd w3 g 98 A n k rd0 zs) := P03; have hwg : w.heap.size ≤ g := (by omega); have hwh : w.heap.size ≤ h := hg1)
        | fail)
      refine (C1.out w3 g _ P3.out ((HX.out.below B3.out).mono B3.out.size)).mono ?_
      rintro e w4 ⟨rfl, hP, hS⟩
      have P4 := Lib.hid hP
      have Z4 := Lib.hid (Z3.out.save hS hng)
      have B4 := Lib.hid (B3.out.trans (hS.below hwg B3.out.size))
      clear hP hS P3 Z3 B3
      obtain ⟨rs, hrs⟩ : ∃ rs, rs = zs := ⟨_, rfl⟩
      have HRS := Lib.hid hrs
      have P4' : Hid (PRd w4 g 98 A n k z rs) := by rw [hrs]; exact P4.out
      clear hrs P4
      have P4 := P4'
      clear P4'
      go_wp2_with fail
      refine (CE.out w4 g _ P4.out).mono ?_
      rintro e w99 ⟨rfl, kk, rfl⟩
      have Z99 := Lib.hid (Blk.drewN Z4.out kk)
      have P99 := Lib.hid (Blk.drewN P4.out kk)
      have B99 : Hid (Below w.heap.size w (w4.drewN kk)) := step B4.out (drewed _ kk)
      obtain ⟨wq, hwq⟩ : ∃ wq, wq = w4.drewN kk := ⟨_, rfl⟩
      rw [← hwq] at Z99 P99 B99 ⊢
      clear hwq P4 Z4 B4
      go_wp2_with (first
        | ((with_reducible show wpList _ _ _ (⟨some 43, _, _, _, _, _⟩ :: _) _ _); refine wpList_build_none rfl _ rfl zs BZ ?_)
        | ((with_reducible show wpList _ _ _ (⟨none, .store _ (.tmp 4) _, _, _, _, _⟩ :: _) _ _); refine wpList_store_blk rfl _ (.tmp 4) (.tmp 43) rfl h rfl _ zs zs rfl Z99 20 size_say HZ HZ HZ1 ?_; intro w10 K10 O10 hg10)
        | fail)
      refine bodyPost_ret (v := .tuple #[.agg zs.toArray, .int .i64 er]) ?_ rfl (HQ.out _ _ rfl (below_only B99.out O10.out hwh))
      exact results_cell_two rfl _ _ h _ _ (0, 0) _ rfl K10.out Tryd.underlying45 rfl (by rw [size_say]; have := HZ.out; simp [this]) rfl
    have HQ : Hid (∀ e w', e = .returned (.tuple #[.agg (scells (.slice none 0 0) (.slice none 0 0) (zeroSay)).toArray, .int .i64 0]) → Below w.heap.size w w' → PGSayPost w 3 xs e w') := by
      intro e w' h1 h3
      have h4 : gsayOf 3 xs = zeroSay := by unfold gsayOf; rw [hge, he, if_pos rfl]; unfold gsayP; rw [if_neg (by decide)]
      unfold PGSayPost
      rw [h4, hge, he]
      exact ⟨h1, h3⟩
    obtain ⟨z, hz⟩ : ∃ x, x = rdZ xs 4 rd0 := ⟨_, rfl⟩
    rw [← hz] at C1 p1 CE he hre
    clear hz
    rw [he] at CE
    have hre0 := hre he
    clear HE hx hk hge hre he hre0
    go_enter Tryd.func24, Tryd.ntmps24
    go_wp2_with (first
      | ((with_reducible show wpList _ _ _ (⟨some 4, _, _, _, _, _⟩ :: _) _ _); refine wpList_alloc_blk rfl _ rfl zs _ ZH ?_; intro h w1 hg1 hg2 Z1 L1)
      | ((with_reducible show wpList _ _ _ (⟨some 9, _, _, _, _, _⟩ :: _) _ _); refine wpList_build_blk rfl _ _ rfl (.slice A n k :: .int .i64 0 :: .int .i64 0 :: []) (by refine Eq.trans ?_ B1; kernel_rfl) ?_)
      | ((with_reducible show wpList _ _ _ (⟨some 10, _, _, _, _, _⟩ :: _) _ _); refine wpList_build_blk rfl _ _ rfl (.slice A n k :: .int .i64 0 :: .int .i64 0 :: zs) (by refine Eq.trans ?_ B2; kernel_rfl) ?_)
      | ((with_reducible show wpList _ _ _ (⟨some 6, _, _, _, _, _⟩ :: _) _ _); refine wpList_alloc_blk rfl _ rfl (.slice none 0 0 :: .int .i64 0 :: .int .i64 0 :: zs) _ ZB ?_; intro g w2 hg3 hg4 P02 L2)
      | ((with_reducible show wpList _ _ _ (⟨none, .store _ (.tmp 6) _, _, _, _, _⟩ :: _) _ _); refine wpList_store_blk rfl _ (.tmp 6) (.tmp 10) rfl g rfl _ (.slice none 0 0 :: .int .i64 0 :: .int .i64 0 :: zs) (.slice A n k :: .int .i64 0 :: .int .i64 0 :: zs) rfl P02 23 size_sayB HZB HNB HOB ?_; intro w3 P03 O3 hg5; have hsz := L1.out.size; have hng : h ≠ g := (by omega); have Z3 := Lib.hid ((Z1.out.over L2.out).only O3.out hng); have B3 : Hid (Below w.heap.size w w3) := below_only (step L1.out L2.out) O3.out (by omega); have P3 : Hid (PRd w3 g 98 A n k rd0 zs) := P03; have hwg : w.heap.size ≤ g := (by omega); have hwh : w.heap.size ≤ h := hg1)
      | fail)
    refine (C1.out w3 g _ P3.out ((HX.out.below B3.out).mono B3.out.size)).mono ?_
    rintro e w4 ⟨rfl, hP, hS⟩
    have P4 := Lib.hid hP
    have Z4 := Lib.hid (Z3.out.save hS hng)
    have B4 := Lib.hid (B3.out.trans (hS.below hwg B3.out.size))
    clear hP hS P3 Z3 B3
    obtain ⟨rs, hrs⟩ : ∃ rs, rs = zs := ⟨_, rfl⟩
    have HRS := Lib.hid hrs
    have P4' : Hid (PRd w4 g 98 A n k z rs) := by rw [hrs]; exact P4.out
    clear hrs P4
    have P4 := P4'
    clear P4'
    go_wp2_with fail
    have HEQ : Hid (rs = scells (.slice none 0 0) (.slice none 0 0) (zeroSay)) := by
      show _ = _
      rw [HRS.out, HZS.out]
    have HRL : Hid (rs.length = 20) := by show _ = _; rw [HEQ.out]; exact scells_len zeroSay_ok
    have HR1 : Hid (∀ v ∈ rs, v.oneCell' = true) := by rw [HEQ.out]; exact scells_one rfl rfl
    refine (CE.out w4 g _ P4.out).mono ?_
    rintro e w99 ⟨rfl, kk, rfl⟩
    have Z99 := Lib.hid (Blk.drewN Z4.out kk)
    have P99 := Lib.hid (Blk.drewN P4.out kk)
    have B99 : Hid (Below w.heap.size w (w4.drewN kk)) := step B4.out (drewed _ kk)
    obtain ⟨wq, hwq⟩ : ∃ wq, wq = w4.drewN kk := ⟨_, rfl⟩
    rw [← hwq] at Z99 P99 B99 ⊢
    clear hwq P4 Z4 B4
    have hrg : Hid (wq.rangeAt g 3 rs) := Blk.range P99.out 3
    go_wp2_with (first
      | ((with_reducible show wpList _ _ _ (⟨some 46, _, _, _, _, _⟩ :: _) _ _); refine wpList_load_midu rfl _ (.tmp 45) rfl g 3 rfl rs _ hrg Tryd.underlying45 rfl 20 size_say HRL ?_)
      | ((with_reducible show wpList _ _ _ (⟨none, .store _ (.tmp 4) _, _, _, _, _⟩ :: _) _ _); refine wpList_store_blk rfl _ (.tmp 4) (.tmp 46) rfl h rfl _ zs rs rfl Z99 20 size_say HZ HRL HR1 ?_; intro w10 K10 O10 hg10)
      | fail)
    refine bodyPost_ret (v := .tuple #[.agg rs.toArray, .int .i64 0]) ?_ rfl ?_
    · exact results_cell_two rfl _ _ h _ _ (0, 0) _ rfl K10.out Tryd.underlying45 rfl (by rw [size_say]; have := HRL.out; simp [this]) rfl
    · exact HQ.out _ w10 (congrArg (fun r : List Value => Ending.returned (.tuple #[.agg r.toArray, .int .i64 0])) HEQ.out) (below_only B99.out O10.out hwh)
  by_cases h2 : c = 2
  · subst h2
    have p0 : rd0.p ≤ n := Nat.zero_le _
    have p1 : (rdZ xs 4 rd0).p ≤ n := rdZ_place hl p0
    have C1 : Hid (∀ (w' : World) (g : Nat) (rest : List Value), PRd w' g 98 A n k rd0 rest → Holds w' w'.heap.size A n k xs → Calls Tryd.prog 54 #[.pointer (some ⟨g, 0, none⟩), .int .i64 4] w' (PEndPost w' g 98 A n k (rdZ xs 4 rd0) rest)) := fun w' g rest h1 h2 => noughts_any w' g 98 A n k xs _ 4 rest h1 h2 p0 (by decide)
    have CE : Hid (∀ (w' : World) (g : Nat) (rest : List Value), PRd w' g 98 A n k (rdZ xs 4 rd0) rest → Calls Tryd.prog 55 #[.pointer (some ⟨g, 0, none⟩)] w' fun e w2 => e = .returned (.int .i64 (rdEnd xs (rdZ xs 4 rd0))) ∧ ∃ j, w'.drewN j = w2) := fun w' g rest h1 => rend_any w' g 98 A n k xs _ rest h1 hl hrm p1
    have hre : rdEnd xs (rdZ xs 4 rd0) = 0 → (rdZ xs 4 rd0).e = 0 := rdEnd_zero
    have hge : gsayErr 2 xs = rdEnd xs (rdZ xs 4 rd0) := by unfold gsayErr gsayP; rw [if_pos hk, if_neg (by decide)]
    by_cases he : rdEnd xs (rdZ xs 4 rd0) = 0
    rotate_left
    · have HQ := Lib.hid (HE.out _ hge he)
      have hne : (rdEnd xs (rdZ xs 4 rd0) != 0) = true := by simpa using he
      obtain ⟨z, hz⟩ : ∃ x, x = rdZ xs 4 rd0 := ⟨_, rfl⟩
      rw [← hz] at C1 p1 CE he hre HQ hne
      clear hz
      obtain ⟨er, her⟩ : ∃ x, x = rdEnd xs z := ⟨_, rfl⟩
      rw [← her] at CE he HQ hne hre
      clear her he hre
      clear HE hx hk hge
      go_enter Tryd.func24, Tryd.ntmps24
      go_wp2_with (first
        | ((with_reducible show wpList _ _ _ (⟨some 4, _, _, _, _, _⟩ :: _) _ _); refine wpList_alloc_blk rfl _ rfl zs _ ZH ?_; intro h w1 hg1 hg2 Z1 L1)
        | ((with_reducible show wpList _ _ _ (⟨some 9, _, _, _, _, _⟩ :: _) _ _); refine wpList_build_blk rfl _ _ rfl (.slice A n k :: .int .i64 0 :: .int .i64 0 :: []) (by refine Eq.trans ?_ B1; kernel_rfl) ?_)
        | ((with_reducible show wpList _ _ _ (⟨some 10, _, _, _, _, _⟩ :: _) _ _); refine wpList_build_blk rfl _ _ rfl (.slice A n k :: .int .i64 0 :: .int .i64 0 :: zs) (by refine Eq.trans ?_ B2; kernel_rfl) ?_)
        | ((with_reducible show wpList _ _ _ (⟨some 6, _, _, _, _, _⟩ :: _) _ _); refine wpList_alloc_blk rfl _ rfl (.slice none 0 0 :: .int .i64 0 :: .int .i64 0 :: zs) _ ZB ?_; intro g w2 hg3 hg4 P02 L2)
        | ((with_reducible show wpList _ _ _ (⟨none, .store _ (.tmp 6) _, _, _, _, _⟩ :: _) _ _); refine wpList_store_blk rfl _ (.tmp 6) (.tmp 10) rfl g rfl _ (.slice none 0 0 :: .int .i64 0 :: .int .i64 0 :: zs) (.slice A n k :: .int .i64 0 :: .int .i64 0 :: zs) rfl P02 23 size_sayB HZB HNB HOB ?_; intro w3 P03 O3 hg5; have hsz := L1.out.size; have hng : h ≠ g := (by omega); have Z3 := Lib.hid ((Z1.out.over L2.out).only O3.out hng); have B3 : Hid (Below w.heap.size w w3) := below_only (step L1.out L2.out) O3.out (by omega); have P3 : Hid (PRd w3 g 98 A n k rd0 zs) := P03; have hwg : w.heap.size ≤ g := (by omega); have hwh : w.heap.size ≤ h := hg1)
        | fail)
      refine (C1.out w3 g _ P3.out ((HX.out.below B3.out).mono B3.out.size)).mono ?_
      rintro e w4 ⟨rfl, hP, hS⟩
      have P4 := Lib.hid hP
      have Z4 := Lib.hid (Z3.out.save hS hng)
      have B4 := Lib.hid (B3.out.trans (hS.below hwg B3.out.size))
      clear hP hS P3 Z3 B3
      obtain ⟨rs, hrs⟩ : ∃ rs, rs = zs := ⟨_, rfl⟩
      have HRS := Lib.hid hrs
      have P4' : Hid (PRd w4 g 98 A n k z rs) := by rw [hrs]; exact P4.out
      clear hrs P4
      have P4 := P4'
      clear P4'
      go_wp2_with fail
      refine (CE.out w4 g _ P4.out).mono ?_
      rintro e w99 ⟨rfl, kk, rfl⟩
      have Z99 := Lib.hid (Blk.drewN Z4.out kk)
      have P99 := Lib.hid (Blk.drewN P4.out kk)
      have B99 : Hid (Below w.heap.size w (w4.drewN kk)) := step B4.out (drewed _ kk)
      obtain ⟨wq, hwq⟩ : ∃ wq, wq = w4.drewN kk := ⟨_, rfl⟩
      rw [← hwq] at Z99 P99 B99 ⊢
      clear hwq P4 Z4 B4
      go_wp2_with (first
        | ((with_reducible show wpList _ _ _ (⟨some 43, _, _, _, _, _⟩ :: _) _ _); refine wpList_build_none rfl _ rfl zs BZ ?_)
        | ((with_reducible show wpList _ _ _ (⟨none, .store _ (.tmp 4) _, _, _, _, _⟩ :: _) _ _); refine wpList_store_blk rfl _ (.tmp 4) (.tmp 43) rfl h rfl _ zs zs rfl Z99 20 size_say HZ HZ HZ1 ?_; intro w10 K10 O10 hg10)
        | fail)
      refine bodyPost_ret (v := .tuple #[.agg zs.toArray, .int .i64 er]) ?_ rfl (HQ.out _ _ rfl (below_only B99.out O10.out hwh))
      exact results_cell_two rfl _ _ h _ _ (0, 0) _ rfl K10.out Tryd.underlying45 rfl (by rw [size_say]; have := HZ.out; simp [this]) rfl
    have HQ : Hid (∀ e w', e = .returned (.tuple #[.agg (scells (.slice none 0 0) (.slice none 0 0) (zeroSay)).toArray, .int .i64 0]) → Below w.heap.size w w' → PGSayPost w 2 xs e w') := by
      intro e w' h1 h3
      have h4 : gsayOf 2 xs = zeroSay := by unfold gsayOf; rw [hge, he, if_pos rfl]; unfold gsayP; rw [if_neg (by decide)]
      unfold PGSayPost
      rw [h4, hge, he]
      exact ⟨h1, h3⟩
    obtain ⟨z, hz⟩ : ∃ x, x = rdZ xs 4 rd0 := ⟨_, rfl⟩
    rw [← hz] at C1 p1 CE he hre
    clear hz
    rw [he] at CE
    have hre0 := hre he
    clear HE hx hk hge hre he hre0
    go_enter Tryd.func24, Tryd.ntmps24
    go_wp2_with (first
      | ((with_reducible show wpList _ _ _ (⟨some 4, _, _, _, _, _⟩ :: _) _ _); refine wpList_alloc_blk rfl _ rfl zs _ ZH ?_; intro h w1 hg1 hg2 Z1 L1)
      | ((with_reducible show wpList _ _ _ (⟨some 9, _, _, _, _, _⟩ :: _) _ _); refine wpList_build_blk rfl _ _ rfl (.slice A n k :: .int .i64 0 :: .int .i64 0 :: []) (by refine Eq.trans ?_ B1; kernel_rfl) ?_)
      | ((with_reducible show wpList _ _ _ (⟨some 10, _, _, _, _, _⟩ :: _) _ _); refine wpList_build_blk rfl _ _ rfl (.slice A n k :: .int .i64 0 :: .int .i64 0 :: zs) (by refine Eq.trans ?_ B2; kernel_rfl) ?_)
      | ((with_reducible show wpList _ _ _ (⟨some 6, _, _, _, _, _⟩ :: _) _ _); refine wpList_alloc_blk rfl _ rfl (.slice none 0 0 :: .int .i64 0 :: .int .i64 0 :: zs) _ ZB ?_; intro g w2 hg3 hg4 P02 L2)
      | ((with_reducible show wpList _ _ _ (⟨none, .store _ (.tmp 6) _, _, _, _, _⟩ :: _) _ _); refine wpList_store_blk rfl _ (.tmp 6) (.tmp 10) rfl g rfl _ (.slice none 0 0 :: .int .i64 0 :: .int .i64 0 :: zs) (.slice A n k :: .int .i64 0 :: .int .i64 0 :: zs) rfl P02 23 size_sayB HZB HNB HOB ?_; intro w3 P03 O3 hg5; have hsz := L1.out.size; have hng : h ≠ g := (by omega); have Z3 := Lib.hid ((Z1.out.over L2.out).only O3.out hng); have B3 : Hid (Below w.heap.size w w3) := below_only (step L1.out L2.out) O3.out (by omega); have P3 : Hid (PRd w3 g 98 A n k rd0 zs) := P03; have hwg : w.heap.size ≤ g := (by omega); have hwh : w.heap.size ≤ h := hg1)
      | fail)
    refine (C1.out w3 g _ P3.out ((HX.out.below B3.out).mono B3.out.size)).mono ?_
    rintro e w4 ⟨rfl, hP, hS⟩
    have P4 := Lib.hid hP
    have Z4 := Lib.hid (Z3.out.save hS hng)
    have B4 := Lib.hid (B3.out.trans (hS.below hwg B3.out.size))
    clear hP hS P3 Z3 B3
    obtain ⟨rs, hrs⟩ : ∃ rs, rs = zs := ⟨_, rfl⟩
    have HRS := Lib.hid hrs
    have P4' : Hid (PRd w4 g 98 A n k z rs) := by rw [hrs]; exact P4.out
    clear hrs P4
    have P4 := P4'
    clear P4'
    go_wp2_with fail
    have HEQ : Hid (rs = scells (.slice none 0 0) (.slice none 0 0) (zeroSay)) := by
      show _ = _
      rw [HRS.out, HZS.out]
    have HRL : Hid (rs.length = 20) := by show _ = _; rw [HEQ.out]; exact scells_len zeroSay_ok
    have HR1 : Hid (∀ v ∈ rs, v.oneCell' = true) := by rw [HEQ.out]; exact scells_one rfl rfl
    refine (CE.out w4 g _ P4.out).mono ?_
    rintro e w99 ⟨rfl, kk, rfl⟩
    have Z99 := Lib.hid (Blk.drewN Z4.out kk)
    have P99 := Lib.hid (Blk.drewN P4.out kk)
    have B99 : Hid (Below w.heap.size w (w4.drewN kk)) := step B4.out (drewed _ kk)
    obtain ⟨wq, hwq⟩ : ∃ wq, wq = w4.drewN kk := ⟨_, rfl⟩
    rw [← hwq] at Z99 P99 B99 ⊢
    clear hwq P4 Z4 B4
    have hrg : Hid (wq.rangeAt g 3 rs) := Blk.range P99.out 3
    go_wp2_with (first
      | ((with_reducible show wpList _ _ _ (⟨some 46, _, _, _, _, _⟩ :: _) _ _); refine wpList_load_midu rfl _ (.tmp 45) rfl g 3 rfl rs _ hrg Tryd.underlying45 rfl 20 size_say HRL ?_)
      | ((with_reducible show wpList _ _ _ (⟨none, .store _ (.tmp 4) _, _, _, _, _⟩ :: _) _ _); refine wpList_store_blk rfl _ (.tmp 4) (.tmp 46) rfl h rfl _ zs rs rfl Z99 20 size_say HZ HRL HR1 ?_; intro w10 K10 O10 hg10)
      | fail)
    refine bodyPost_ret (v := .tuple #[.agg rs.toArray, .int .i64 0]) ?_ rfl ?_
    · exact results_cell_two rfl _ _ h _ _ (0, 0) _ rfl K10.out Tryd.underlying45 rfl (by rw [size_say]; have := HRL.out; simp [this]) rfl
    · exact HQ.out _ w10 (congrArg (fun r : List Value => Ending.returned (.tuple #[.agg r.toArray, .int .i64 0])) HEQ.out) (below_only B99.out O10.out hwh)
  by_cases h4 : c = 4
  · subst h4
    have p0 : rd0.p ≤ n := Nat.zero_le _
    have p1 : (rdZ xs 4 rd0).p ≤ n := rdZ_place hl p0
    have C1 : Hid (∀ (w' : World) (g : Nat) (rest : List Value), PRd w' g 98 A n k rd0 rest → Holds w' w'.heap.size A n k xs → Calls Tryd.prog 54 #[.pointer (some ⟨g, 0, none⟩), .int .i64 4] w' (PEndPost w' g 98 A n k (rdZ xs 4 rd0) rest)) := fun w' g rest h1 h2 => noughts_any w' g 98 A n k xs _ 4 rest h1 h2 p0 (by decide)
    have CE : Hid (∀ (w' : World) (g : Nat) (rest : List Value), PRd w' g 98 A n k (rdZ xs 4 rd0) rest → Calls Tryd.prog 55 #[.pointer (some ⟨g, 0, none⟩)] w' fun e w2 => e = .returned (.int .i64 (rdEnd xs (rdZ xs 4 rd0))) ∧ ∃ j, w'.drewN j = w2) := fun w' g rest h1 => rend_any w' g 98 A n k xs _ rest h1 hl hrm p1
    have hre : rdEnd xs (rdZ xs 4 rd0) = 0 → (rdZ xs 4 rd0).e = 0 := rdEnd_zero
    have hge : gsayErr 4 xs = rdEnd xs (rdZ xs 4 rd0) := by unfold gsayErr gsayP; rw [if_pos hk, if_neg (by decide)]
    by_cases he : rdEnd xs (rdZ xs 4 rd0) = 0
    rotate_left
    · have HQ := Lib.hid (HE.out _ hge he)
      have hne : (rdEnd xs (rdZ xs 4 rd0) != 0) = true := by simpa using he
      obtain ⟨z, hz⟩ : ∃ x, x = rdZ xs 4 rd0 := ⟨_, rfl⟩
      rw [← hz] at C1 p1 CE he hre HQ hne
      clear hz
      obtain ⟨er, her⟩ : ∃ x, x = rdEnd xs z := ⟨_, rfl⟩
      rw [← her] at CE he HQ hne hre
      clear her he hre
      clear HE hx hk hge
      go_enter Tryd.func24, Tryd.ntmps24
      go_wp2_with (first
        | ((with_reducible show wpList _ _ _ (⟨some 4, _, _, _, _, _⟩ :: _) _ _); refine wpList_alloc_blk rfl _ rfl zs _ ZH ?_; intro h w1 hg1 hg2 Z1 L1)
        | ((with_reducible show wpList _ _ _ (⟨some 9, _, _, _, _, _⟩ :: _) _ _); refine wpList_build_blk rfl _ _ rfl (.slice A n k :: .int .i64 0 :: .int .i64 0 :: []) (by refine Eq.trans ?_ B1; kernel_rfl) ?_)
        | ((with_reducible show wpList _ _ _ (⟨some 10, _, _, _, _, _⟩ :: _) _ _); refine wpList_build_blk rfl _ _ rfl (.slice A n k :: .int .i64 0 :: .int .i64 0 :: zs) (by refine Eq.trans ?_ B2; kernel_rfl) ?_)
        | ((with_reducible show wpList _ _ _ (⟨some 6, _, _, _, _, _⟩ :: _) _ _); refine wpList_alloc_blk rfl _ rfl (.slice none 0 0 :: .int .i64 0 :: .int .i64 0 :: zs) _ ZB ?_; intro g w2 hg3 hg4 P02 L2)
        | ((with_reducible show wpList _ _ _ (⟨none, .store _ (.tmp 6) _, _, _, _, _⟩ :: _) _ _); refine wpList_store_blk rfl _ (.tmp 6) (.tmp 10) rfl g rfl _ (.slice none 0 0 :: .int .i64 0 :: .int .i64 0 :: zs) (.slice A n k :: .int .i64 0 :: .int .i64 0 :: zs) rfl P02 23 size_sayB HZB HNB HOB ?_; intro w3 P03 O3 hg5; have hsz := L1.out.size; have hng : h ≠ g := (by omega); have Z3 := Lib.hid ((Z1.out.over L2.out).only O3.out hng); have B3 : Hid (Below w.heap.size w w3) := below_only (step L1.out L2.out) O3.out (by omega); have P3 : Hid (PRd w3 g 98 A n k rd0 zs) := P03; have hwg : w.heap.size ≤ g := (by omega); have hwh : w.heap.size ≤ h := hg1)
        | fail)
      refine (C1.out w3 g _ P3.out ((HX.out.below B3.out).mono B3.out.size)).mono ?_
      rintro e w4 ⟨rfl, hP, hS⟩
      have P4 := Lib.hid hP
      have Z4 := Lib.hid (Z3.out.save hS hng)
      have B4 := Lib.hid (B3.out.trans (hS.below hwg B3.out.size))
      clear hP hS P3 Z3 B3
      obtain ⟨rs, hrs⟩ : ∃ rs, rs = zs := ⟨_, rfl⟩
      have HRS := Lib.hid hrs
      have P4' : Hid (PRd w4 g 98 A n k z rs) := by rw [hrs]; exact P4.out
      clear hrs P4
      have P4 := P4'
      clear P4'
      go_wp2_with fail
      refine (CE.out w4 g _ P4.out).mono ?_
      rintro e w99 ⟨rfl, kk, rfl⟩
      have Z99 := Lib.hid (Blk.drewN Z4.out kk)
      have P99 := Lib.hid (Blk.drewN P4.out kk)
      have B99 : Hid (Below w.heap.size w (w4.drewN kk)) := step B4.out (drewed _ kk)
      obtain ⟨wq, hwq⟩ : ∃ wq, wq = w4.drewN kk := ⟨_, rfl⟩
      rw [← hwq] at Z99 P99 B99 ⊢
      clear hwq P4 Z4 B4
      go_wp2_with (first
        | ((with_reducible show wpList _ _ _ (⟨some 43, _, _, _, _, _⟩ :: _) _ _); refine wpList_build_none rfl _ rfl zs BZ ?_)
        | ((with_reducible show wpList _ _ _ (⟨none, .store _ (.tmp 4) _, _, _, _, _⟩ :: _) _ _); refine wpList_store_blk rfl _ (.tmp 4) (.tmp 43) rfl h rfl _ zs zs rfl Z99 20 size_say HZ HZ HZ1 ?_; intro w10 K10 O10 hg10)
        | fail)
      refine bodyPost_ret (v := .tuple #[.agg zs.toArray, .int .i64 er]) ?_ rfl (HQ.out _ _ rfl (below_only B99.out O10.out hwh))
      exact results_cell_two rfl _ _ h _ _ (0, 0) _ rfl K10.out Tryd.underlying45 rfl (by rw [size_say]; have := HZ.out; simp [this]) rfl
    have HQ : Hid (∀ e w', e = .returned (.tuple #[.agg (scells (.slice none 0 0) (.slice none 0 0) (zeroSay)).toArray, .int .i64 0]) → Below w.heap.size w w' → PGSayPost w 4 xs e w') := by
      intro e w' h1 h3
      have h4 : gsayOf 4 xs = zeroSay := by unfold gsayOf; rw [hge, he, if_pos rfl]; unfold gsayP; rw [if_neg (by decide)]
      unfold PGSayPost
      rw [h4, hge, he]
      exact ⟨h1, h3⟩
    obtain ⟨z, hz⟩ : ∃ x, x = rdZ xs 4 rd0 := ⟨_, rfl⟩
    rw [← hz] at C1 p1 CE he hre
    clear hz
    rw [he] at CE
    have hre0 := hre he
    clear HE hx hk hge hre he hre0
    go_enter Tryd.func24, Tryd.ntmps24
    go_wp2_with (first
      | ((with_reducible show wpList _ _ _ (⟨some 4, _, _, _, _, _⟩ :: _) _ _); refine wpList_alloc_blk rfl _ rfl zs _ ZH ?_; intro h w1 hg1 hg2 Z1 L1)
      | ((with_reducible show wpList _ _ _ (⟨some 9, _, _, _, _, _⟩ :: _) _ _); refine wpList_build_blk rfl _ _ rfl (.slice A n k :: .int .i64 0 :: .int .i64 0 :: []) (by refine Eq.trans ?_ B1; kernel_rfl) ?_)
      | ((with_reducible show wpList _ _ _ (⟨some 10, _, _, _, _, _⟩ :: _) _ _); refine wpList_build_blk rfl _ _ rfl (.slice A n k :: .int .i64 0 :: .int .i64 0 :: zs) (by refine Eq.trans ?_ B2; kernel_rfl) ?_)
      | ((with_reducible show wpList _ _ _ (⟨some 6, _, _, _, _, _⟩ :: _) _ _); refine wpList_alloc_blk rfl _ rfl (.slice none 0 0 :: .int .i64 0 :: .int .i64 0 :: zs) _ ZB ?_; intro g w2 hg3 hg4 P02 L2)
      | ((with_reducible show wpList _ _ _ (⟨none, .store _ (.tmp 6) _, _, _, _, _⟩ :: _) _ _); refine wpList_store_blk rfl _ (.tmp 6) (.tmp 10) rfl g rfl _ (.slice none 0 0 :: .int .i64 0 :: .int .i64 0 :: zs) (.slice A n k :: .int .i64 0 :: .int .i64 0 :: zs) rfl P02 23 size_sayB HZB HNB HOB ?_; intro w3 P03 O3 hg5; have hsz := L1.out.size; have hng : h ≠ g := (by omega); have Z3 := Lib.hid ((Z1.out.over L2.out).only O3.out hng); have B3 : Hid (Below w.heap.size w w3) := below_only (step L1.out L2.out) O3.out (by omega); have P3 : Hid (PRd w3 g 98 A n k rd0 zs) := P03; have hwg : w.heap.size ≤ g := (by omega); have hwh : w.heap.size ≤ h := hg1)
      | fail)
    refine (C1.out w3 g _ P3.out ((HX.out.below B3.out).mono B3.out.size)).mono ?_
    rintro e w4 ⟨rfl, hP, hS⟩
    have P4 := Lib.hid hP
    have Z4 := Lib.hid (Z3.out.save hS hng)
    have B4 := Lib.hid (B3.out.trans (hS.below hwg B3.out.size))
    clear hP hS P3 Z3 B3
    obtain ⟨rs, hrs⟩ : ∃ rs, rs = zs := ⟨_, rfl⟩
    have HRS := Lib.hid hrs
    have P4' : Hid (PRd w4 g 98 A n k z rs) := by rw [hrs]; exact P4.out
    clear hrs P4
    have P4 := P4'
    clear P4'
    go_wp2_with fail
    have HEQ : Hid (rs = scells (.slice none 0 0) (.slice none 0 0) (zeroSay)) := by
      show _ = _
      rw [HRS.out, HZS.out]
    have HRL : Hid (rs.length = 20) := by show _ = _; rw [HEQ.out]; exact scells_len zeroSay_ok
    have HR1 : Hid (∀ v ∈ rs, v.oneCell' = true) := by rw [HEQ.out]; exact scells_one rfl rfl
    refine (CE.out w4 g _ P4.out).mono ?_
    rintro e w99 ⟨rfl, kk, rfl⟩
    have Z99 := Lib.hid (Blk.drewN Z4.out kk)
    have P99 := Lib.hid (Blk.drewN P4.out kk)
    have B99 : Hid (Below w.heap.size w (w4.drewN kk)) := step B4.out (drewed _ kk)
    obtain ⟨wq, hwq⟩ : ∃ wq, wq = w4.drewN kk := ⟨_, rfl⟩
    rw [← hwq] at Z99 P99 B99 ⊢
    clear hwq P4 Z4 B4
    have hrg : Hid (wq.rangeAt g 3 rs) := Blk.range P99.out 3
    go_wp2_with (first
      | ((with_reducible show wpList _ _ _ (⟨some 46, _, _, _, _, _⟩ :: _) _ _); refine wpList_load_midu rfl _ (.tmp 45) rfl g 3 rfl rs _ hrg Tryd.underlying45 rfl 20 size_say HRL ?_)
      | ((with_reducible show wpList _ _ _ (⟨none, .store _ (.tmp 4) _, _, _, _, _⟩ :: _) _ _); refine wpList_store_blk rfl _ (.tmp 4) (.tmp 46) rfl h rfl _ zs rs rfl Z99 20 size_say HZ HRL HR1 ?_; intro w10 K10 O10 hg10)
      | fail)
    refine bodyPost_ret (v := .tuple #[.agg rs.toArray, .int .i64 0]) ?_ rfl ?_
    · exact results_cell_two rfl _ _ h _ _ (0, 0) _ rfl K10.out Tryd.underlying45 rfl (by rw [size_say]; have := HRL.out; simp [this]) rfl
    · exact HQ.out _ w10 (congrArg (fun r : List Value => Ending.returned (.tuple #[.agg r.toArray, .int .i64 0])) HEQ.out) (below_only B99.out O10.out hwh)
  obtain rfl : c = 13 := by unfold knownT at hk; simp at hk; omega
  have p0 : rd0.p ≤ n := Nat.zero_le _
  have p1 : (rdZ xs 4 rd0).p ≤ n := rdZ_place hl p0
  have C1 : Hid (∀ (w' : World) (g : Nat) (rest : List Value), PRd w' g 98 A n k rd0 rest → Holds w' w'.heap.size A n k xs → Calls Tryd.prog 54 #[.pointer (some ⟨g, 0, none⟩), .int .i64 4] w' (PEndPost w' g 98 A n k (rdZ xs 4 rd0) rest)) := fun w' g rest h1 h2 => noughts_any w' g 98 A n k xs _ 4 rest h1 h2 p0 (by decide)
  have CE : Hid (∀ (w' : World) (g : Nat) (rest : List Value), PRd w' g 98 A n k (rdZ xs 4 rd0) rest → Calls Tryd.prog 55 #[.pointer (some ⟨g, 0, none⟩)] w' fun e w2 => e = .returned (.int .i64 (rdEnd xs (rdZ xs 4 rd0))) ∧ ∃ j, w'.drewN j = w2) := fun w' g rest h1 => rend_any w' g 98 A n k xs _ rest h1 hl hrm p1
  have hre : rdEnd xs (rdZ xs 4 rd0) = 0 → (rdZ xs 4 rd0).e = 0 := rdEnd_zero
  have hge : gsayErr 13 xs = rdEnd xs (rdZ xs 4 rd0) := by unfold gsayErr gsayP; rw [if_pos hk, if_neg (by decide)]
  by_cases he : rdEnd xs (rdZ xs 4 rd0) = 0
  rotate_left
  · have HQ := Lib.hid (HE.out _ hge he)
    have hne : (rdEnd xs (rdZ xs 4 rd0) != 0) = true := by simpa using he
    obtain ⟨z, hz⟩ : ∃ x, x = rdZ xs 4 rd0 := ⟨_, rfl⟩
    rw [← hz] at C1 p1 CE he hre HQ hne
    clear hz
    obtain ⟨er, her⟩ : ∃ x, x = rdEnd xs z := ⟨_, rfl⟩
    rw [← her] at CE he HQ hne hre
    clear her he hre
    clear HE hx hk hge
    go_enter Tryd.func24, Tryd.ntmps24
    go_wp2_with (first
      | ((with_reducible show wpList _ _ _ (⟨some 4, _, _, _, _, _⟩ :: _) _ _); refine wpList_alloc_blk rfl _ rfl zs _ ZH ?_; intro h w1 hg1 hg2 Z1 L1)
      | ((with_reducible show wpList _ _ _ (⟨some 9, _, _, _, _, _⟩ :: _) _ _); refine wpList_build_blk rfl _ _ rfl (.slice A n k :: .int .i64 0 :: .int .i64 0 :: []) (by refine Eq.trans ?_ B1; kernel_rfl) ?_)
      | ((with_reducible show wpList _ _ _ (⟨some 10, _, _, _, _, _⟩ :: _) _ _); refine wpList_build_blk rfl _ _ rfl (.slice A n k :: .int .i64 0 :: .int .i64 0 :: zs) (by refine Eq.trans ?_ B2; kernel_rfl) ?_)
      | ((with_reducible show wpList _ _ _ (⟨some 6, _, _, _, _, _⟩ :: _) _ _); refine wpList_alloc_blk rfl _ rfl (.slice none 0 0 :: .int .i64 0 :: .int .i64 0 :: zs) _ ZB ?_; intro g w2 hg3 hg4 P02 L2)
      | ((with_reducible show wpList _ _ _ (⟨none, .store _ (.tmp 6) _, _, _, _, _⟩ :: _) _ _); refine wpList_store_blk rfl _ (.tmp 6) (.tmp 10) rfl g rfl _ (.slice none 0 0 :: .int .i64 0 :: .int .i64 0 :: zs) (.slice A n k :: .int .i64 0 :: .int .i64 0 :: zs) rfl P02 23 size_sayB HZB HNB HOB ?_; intro w3 P03 O3 hg5; have hsz := L1.out.size; have hng : h ≠ g := (by omega); have Z3 := Lib.hid ((Z1.out.over L2.out).only O3.out hng); have B3 : Hid (Below w.heap.size w w3) := below_only (step L1.out L2.out) O3.out (by omega); have P3 : Hid (PRd w3 g 98 A n k rd0 zs) := P03; have hwg : w.heap.size ≤ g := (by omega); have hwh : w.heap.size ≤ h := hg1)
      | fail)
    refine (C1.out w3 g _ P3.out ((HX.out.below B3.out).mono B3.out.size)).mono ?_
    rintro e w4 ⟨rfl, hP, hS⟩
    have P4 := Lib.hid hP
    have Z4 := Lib.hid (Z3.out.save hS hng)
    have B4 := Lib.hid (B3.out.trans (hS.below hwg B3.out.size))
    clear hP hS P3 Z3 B3
    obtain ⟨rs, hrs⟩ : ∃ rs, rs = zs := ⟨_, rfl⟩
    have HRS := Lib.hid hrs
    have P4' : Hid (PRd w4 g 98 A n k z rs) := by rw [hrs]; exact P4.out
    clear hrs P4
    have P4 := P4'
    clear P4'
    go_wp2_with fail
    refine (CE.out w4 g _ P4.out).mono ?_
    rintro e w99 ⟨rfl, kk, rfl⟩
    have Z99 := Lib.hid (Blk.drewN Z4.out kk)
    have P99 := Lib.hid (Blk.drewN P4.out kk)
    have B99 : Hid (Below w.heap.size w (w4.drewN kk)) := step B4.out (drewed _ kk)
    obtain ⟨wq, hwq⟩ : ∃ wq, wq = w4.drewN kk := ⟨_, rfl⟩
    rw [← hwq] at Z99 P99 B99 ⊢
    clear hwq P4 Z4 B4
    go_wp2_with (first
      | ((with_reducible show wpList _ _ _ (⟨some 43, _, _, _, _, _⟩ :: _) _ _); refine wpList_build_none rfl _ rfl zs BZ ?_)
      | ((with_reducible show wpList _ _ _ (⟨none, .store _ (.tmp 4) _, _, _, _, _⟩ :: _) _ _); refine wpList_store_blk rfl _ (.tmp 4) (.tmp 43) rfl h rfl _ zs zs rfl Z99 20 size_say HZ HZ HZ1 ?_; intro w10 K10 O10 hg10)
      | fail)
    refine bodyPost_ret (v := .tuple #[.agg zs.toArray, .int .i64 er]) ?_ rfl (HQ.out _ _ rfl (below_only B99.out O10.out hwh))
    exact results_cell_two rfl _ _ h _ _ (0, 0) _ rfl K10.out Tryd.underlying45 rfl (by rw [size_say]; have := HZ.out; simp [this]) rfl
  have HQ : Hid (∀ e w', e = .returned (.tuple #[.agg (scells (.slice none 0 0) (.slice none 0 0) (zeroSay)).toArray, .int .i64 0]) → Below w.heap.size w w' → PGSayPost w 13 xs e w') := by
    intro e w' h1 h3
    have h4 : gsayOf 13 xs = zeroSay := by unfold gsayOf; rw [hge, he, if_pos rfl]; unfold gsayP; rw [if_neg (by decide)]
    unfold PGSayPost
    rw [h4, hge, he]
    exact ⟨h1, h3⟩
  obtain ⟨z, hz⟩ : ∃ x, x = rdZ xs 4 rd0 := ⟨_, rfl⟩
  rw [← hz] at C1 p1 CE he hre
  clear hz
  rw [he] at CE
  have hre0 := hre he
  clear HE hx hk hge hre he hre0
  go_enter Tryd.func24, Tryd.ntmps24
  go_wp2_with (first
    | ((with_reducible show wpList _ _ _ (⟨some 4, _, _, _, _, _⟩ :: _) _ _); refine wpList_alloc_blk rfl _ rfl zs _ ZH ?_; intro h w1 hg1 hg2 Z1 L1)
    | ((with_reducible show wpList _ _ _ (⟨some 9, _, _, _, _, _⟩ :: _) _ _); refine wpList_build_blk rfl _ _ rfl (.slice A n k :: .int .i64 0 :: .int .i64 0 :: []) (by refine Eq.trans ?_ B1; kernel_rfl) ?_)
    | ((with_reducible show wpList _ _ _ (⟨some 10, _, _, _, _, _⟩ :: _) _ _); refine wpList_build_blk rfl _ _ rfl (.slice A n k :: .int .i64 0 :: .int .i64 0 :: zs) (by refine Eq.trans ?_ B2; kernel_rfl) ?_)
    | ((with_reducible show wpList _ _ _ (⟨some 6, _, _, _, _, _⟩ :: _) _ _); refine wpList_alloc_blk rfl _ rfl (.slice none 0 0 :: .int .i64 0 :: .int .i64 0 :: zs) _ ZB ?_; intro g w2 hg3 hg4 P02 L2)
    | ((with_reducible show wpList _ _ _ (⟨none, .store _ (.tmp 6) _, _, _, _, _⟩ :: _) _ _); refine wpList_store_blk rfl _ (.tmp 6) (.tmp 10) rfl g rfl _ (.slice none 0 0 :: .int .i64 0 :: .int .i64 0 :: zs) (.slice A n k :: .int .i64 0 :: .int .i64 0 :: zs) rfl P02 23 size_sayB HZB HNB HOB ?_; intro w3 P03 O3 hg5; have hsz := L1.out.size; have hng : h ≠ g := (by omega); have Z3 := Lib.hid ((Z1.out.over L2.out).only O3.out hng); have B3 : Hid (Below w.heap.size w w3) := below_only (step L1.out L2.out) O3.out (by omega); have P3 : Hid (PRd w3 g 98 A n k rd0 zs) := P03; have hwg : w.heap.size ≤ g := (by omega); have hwh : w.heap.size ≤ h := hg1)
    | fail)
  refine (C1.out w3 g _ P3.out ((HX.out.below B3.out).mono B3.out.size)).mono ?_
  rintro e w4 ⟨rfl, hP, hS⟩
  have P4 := Lib.hid hP
  have Z4 := Lib.hid (Z3.out.save hS hng)
  have B4 := Lib.hid (B3.out.trans (hS.below hwg B3.out.size))
  clear hP hS P3 Z3 B3
  obtain ⟨rs, hrs⟩ : ∃ rs, rs = zs := ⟨_, rfl⟩
  have HRS := Lib.hid hrs
  have P4' : Hid (PRd w4 g 98 A n k z rs) := by rw [hrs]; exact P4.out
  clear hrs P4
  have P4 := P4'
  clear P4'
  go_wp2_with fail
  have HEQ : Hid (rs = scells (.slice none 0 0) (.slice none 0 0) (zeroSay)) := by
    show _ = _
    rw [HRS.out, HZS.out]
  have HRL : Hid (rs.length = 20) := by show _ = _; rw [HEQ.out]; exact scells_len zeroSay_ok
  have HR1 : Hid (∀ v ∈ rs, v.oneCell' = true) := by rw [HEQ.out]; exact scells_one rfl rfl
  refine (CE.out w4 g _ P4.out).mono ?_
  rintro e w99 ⟨rfl, kk, rfl⟩
  have Z99 := Lib.hid (Blk.drewN Z4.out kk)
  have P99 := Lib.hid (Blk.drewN P4.out kk)
  have B99 : Hid (Below w.heap.size w (w4.drewN kk)) := step B4.out (drewed _ kk)
  obtain ⟨wq, hwq⟩ : ∃ wq, wq = w4.drewN kk := ⟨_, rfl⟩
  rw [← hwq] at Z99 P99 B99 ⊢
  clear hwq P4 Z4 B4
  have hrg : Hid (wq.rangeAt g 3 rs) := Blk.range P99.out 3
  go_wp2_with (first
    | ((with_reducible show wpList _ _ _ (⟨some 46, _, _, _, _, _⟩ :: _) _ _); refine wpList_load_midu rfl _ (.tmp 45) rfl g 3 rfl rs _ hrg Tryd.underlying45 rfl 20 size_say HRL ?_)
    | ((with_reducible show wpList _ _ _ (⟨none, .store _ (.tmp 4) _, _, _, _, _⟩ :: _) _ _); refine wpList_store_blk rfl _ (.tmp 4) (.tmp 46) rfl h rfl _ zs rs rfl Z99 20 size_say HZ HRL HR1 ?_; intro w10 K10 O10 hg10)
    | fail)
  refine bodyPost_ret (v := .tuple #[.agg rs.toArray, .int .i64 0]) ?_ rfl ?_
  · exact results_cell_two rfl _ _ h _ _ (0, 0) _ rfl K10.out Tryd.underlying45 rfl (by rw [size_say]; have := HRL.out; simp [this]) rfl
  · exact HQ.out _ w10 (congrArg (fun r : List Value => Ending.returned (.tuple #[.agg r.toArray, .int .i64 0])) HEQ.out) (below_only B99.out O10.out hwh)

end Go.Proofs.YtepkamkgodbffaaDoor

/-
  Contract of the statements' own 'lives' (refectorylaw08).
-/
namespace Go.Proofs.YtepkamkgodbffaaDoor
open Go.RowKit
set_option linter.unusedVariables false
set_option maxRecDepth 100000

def shareA : AskV := { zeroAsk with share := ⟨#[97]⟩ }
theorem shareA_ok : shareA.ok := ⟨zeroAsk_ok.dial, zeroAsk_ok.glen, zeroAsk_ok.gbyte, zeroAsk_ok.plen, zeroAsk_ok.pbyte, zeroAsk_ok.acc, zeroAsk_ok.shr, zeroAsk_ok.way, zeroAsk_ok.opt, zeroAsk_ok.lev, zeroAsk_ok.dur, zeroAsk_ok.file, zeroAsk_ok.at_, zeroAsk_ok.n, zeroAsk_ok.data, zeroAsk_ok.locks, zeroAsk_ok.most, zeroAsk_ok.cls, zeroAsk_ok.siz⟩
theorem lives1 : askErrP 3 shareA = 0 ∧ askOfP 3 shareA = [2, 0, 97, 0] := by decide +kernel
theorem lives2 : gaskErr 13 [0, 0, 0, 0, 0] = 5 := by decide +kernel
theorem lives3 : askErrP 8 zeroAsk = 2 := by decide +kernel
theorem lives4 : gsayErr 0 (List.replicate 16 0) = 0 ∧ (gsayOf 0 (List.replicate 16 0)).siz = 0 := by decide +kernel
theorem built_shareA : Tryd.prog.built 32 [(4, .string ⟨#[97]⟩)] = some (acells (.slice none 0 0) (.slice none 0 0) (.slice none 0 0) shareA).toArray := by kernel_rfl
theorem live_share (w : World) (hT : Tabs w) : Calls Tryd.prog 12 #[.int .u16 3, .agg (acells (.slice none 0 0) (.slice none 0 0) (.slice none 0 0) shareA).toArray] w fun e w' => ∃ v, e = .returned (.tuple #[v, .int .i64 0]) ∧ Own w' w.heap.size v [2, 0, 97, 0] ∧ Below w.heap.size w w' := by
  have h := PutAsk_any w 3 _ shareA (by omega) shareA_ok ⟨none, 0, 0, none, 0, 0, none, 0, 0, rfl, HoldsF.nil _ _ _, Holds.nil _ _, HoldsS.nil _ _ _ _⟩ (by decide) hT
  unfold PAskPost at h
  rwa [lives1.1, lives1.2] at h
theorem live_read (w : World) (hT : Tabs w) : Calls Tryd.prog 12 #[.int .u16 8, .agg (acells (.slice none 0 0) (.slice none 0 0) (.slice none 0 0) zeroAsk).toArray] w fun e w' => ∃ v, e = .returned (.tuple #[v, .int .i64 2]) ∧ Below w.heap.size w w' := by
  have h := PutAsk_any w 8 _ zeroAsk (by omega) zeroAsk_ok (zeroAsk_is w _) (by decide) hT
  unfold PAskPost at h
  rw [lives3] at h
  exact h.mono fun e w' ⟨v, h1, _, h3⟩ => ⟨v, h1, h3⟩
theorem live_echo (w : World) (A : Option Addr) (k : Nat) (hx : Holds w w.heap.size A 5 k [0, 0, 0, 0, 0]) : Calls Tryd.prog 22 #[.int .u16 13, .slice A 5 k] w fun e w' => ∃ cs : List Value, e = .returned (.tuple #[.agg cs.toArray, .int .i64 5]) ∧ cs.length = 69 ∧ (∀ v ∈ cs, v.oneCell' = true) ∧ Below w.heap.size w w' := by
  have h := GetAsk_any w 13 A 5 k _ (by omega) hx
  unfold PGAskPost at h
  have e0 : gaskOf 13 [0, 0, 0, 0, 0] = zeroAsk := by unfold gaskOf; rw [lives2, if_neg (by decide)]
  rw [lives2, e0] at h
  refine h.mono fun e w' ⟨vd, h1, h2, h3⟩ => ⟨_, h1, h2.len zeroAsk_ok, h2.one, h3⟩
theorem live_say (w : World) (A : Option Addr) (k : Nat) (hx : Holds w w.heap.size A 16 k (List.replicate 16 0)) : Calls Tryd.prog 24 #[.int .u16 0, .slice A 16 k] w fun e w' => ∃ cs : List Value, e = .returned (.tuple #[.agg cs.toArray, .int .i64 0]) ∧ cs.length = 20 ∧ (∀ v ∈ cs, v.oneCell' = true) ∧ cs[1]? = some (.int .u64 0) ∧ Below w.heap.size w w' := by
  have h := GetSay_any w 0 A 16 k _ (by omega) hx
  unfold PGSayPost at h
  have kk : (gsayOf 0 (List.replicate 16 0)).chal.length = 8 := by decide +kernel
  have hs := lives4.2
  rw [lives4.1] at h
  obtain ⟨S, hS⟩ : ∃ S, S = gsayOf 0 (List.replicate 16 0) := ⟨_, rfl⟩
  rw [← hS] at h kk hs
  refine h.mono fun e w' ⟨h1, h3⟩ => ⟨_, h1, by simp [scells, stail, kk], scells_one rfl rfl, ?_, h3⟩
  rw [← hs]
  rfl

set_option maxHeartbeats 2000000 in
theorem lives_any (w : World) (hT : Tabs w) : Calls Tryd.prog 16 #[] w fun e w' => e = .returned (.bool true) ∧ Below w.heap.size w w' := by
  have HT := Lib.hid hT
  have C1 := Lib.hid live_share
  have C3 := Lib.hid live_read
  have BS := built_shareA
  have BZ := built_ask
  have ZA := Lib.hid zero_ask
  have ZS := Lib.hid zero_say
  have HZA : Hid ((acells (.slice none 0 0) (.slice none 0 0) (.slice none 0 0) zeroAsk).length = 69) := acells_len zeroAsk_ok
  have HZS : Hid ((scells (.slice none 0 0) (.slice none 0 0) zeroSay).length = 20) := scells_len zeroSay_ok
  obtain ⟨ss, hss⟩ : ∃ x, x = acells (.slice none 0 0) (.slice none 0 0) (.slice none 0 0) shareA := ⟨_, rfl⟩
  rw [← hss] at C1 BS
  obtain ⟨za, hza⟩ : ∃ x, x = acells (.slice none 0 0) (.slice none 0 0) (.slice none 0 0) zeroAsk := ⟨_, rfl⟩
  rw [← hza] at C3 BZ ZA HZA
  obtain ⟨zs, hzs⟩ : ∃ x, x = scells (.slice none 0 0) (.slice none 0 0) zeroSay := ⟨_, rfl⟩
  rw [← hzs] at ZS HZS
  clear hss hza hzs hT
  go_enter Tryd.func16, Tryd.ntmps16
  go_wp2_with (first
    | ((with_reducible show wpList _ _ _ (⟨some 10, _, _, _, _, _⟩ :: _) _ _); refine wpList_build_blk rfl _ _ rfl ss (by refine Eq.trans ?_ BS; kernel_rfl) ?_)
    | fail)
  refine (C1.out w HT.out).mono ?_
  rintro e w1 ⟨v1, rfl, ho1, L1⟩
  have HO1 := Lib.hid ho1
  have M1 := Lib.hid L1
  clear ho1 L1
  go_wp2_with (first
    | ((with_reducible show wpList _ _ _ (⟨some 15, _, _, _, _, _⟩ :: _) _ _); refine wpList_slice_blk rfl _ _ 5 _ rfl Tryd.underlying29 [.int .u8 0, .int .u8 0, .int .u8 0, .int .u8 0, .int .u8 0] (by kernel_rfl) ?_; intro g2 w2 q1 q2 Y2 b2)
    | fail)
  have HX2 : Holds w2 w2.heap.size (some ⟨g2, 0, none⟩) 5 5 [0, 0, 0, 0, 0] := Fresh.holds (base := 0) (.inr ⟨g2, rfl, Nat.zero_le _, Y2.out⟩) rfl (Bytes.of_all (by decide)) (by omega)
  have M2 := Lib.hid (step M1.out b2.out)
  have HO2 := Lib.hid (HO1.out.below b2.out)
  refine (live_echo w2 _ 5 HX2).mono ?_
  rintro e w3 ⟨cs, rfl, hc1, hc2, L3⟩
  have HC1 := Lib.hid hc1
  have HC2 := Lib.hid hc2
  have M3 := Lib.hid (step M2.out L3)
  have HO3 := Lib.hid (HO2.out.below L3)
  clear HX2 hc1 hc2 L3 HO1 HO2 M1 M2 Y2 b2
  go_wp2_with (first
    | ((with_reducible show wpList _ _ _ (⟨some 3, _, _, _, _, _⟩ :: _) _ _); refine wpList_alloc_blk rfl _ rfl za _ ZA ?_; intro g4 w4 hg1 hg2 X4 L4)
    | ((with_reducible show wpList _ _ _ (⟨none, .store _ (.tmp 3) _, _, _, _, _⟩ :: _) _ _); refine wpList_store_blk rfl _ (.tmp 3) (.tmp 17) rfl g4 rfl _ za cs rfl X4 69 size_ask HZA HC1 HC2 ?_; intro w5 X5 O5 hg5; have b5 := Lib.hid (below_only L4.out O5.out hg1); have M5 := Lib.hid (step M3.out b5.out); have HO5 := Lib.hid (HO3.out.below b5.out))
    | ((with_reducible show wpList _ _ _ (⟨some 20, _, _, _, _, _⟩ :: _) _ _); refine wpList_build_none rfl _ rfl za BZ ?_)
    | fail)
  refine (C3.out w5 (HT.out.below M5.out)).mono ?_
  rintro e w6 ⟨v6, rfl, L6⟩
  have M6 := Lib.hid (step M5.out L6)
  have HO6 := Lib.hid (HO5.out.below L6)
  clear L6 HO5 M5 X4 X5 L4 O5 b5 HO3 M3
  go_wp2_with (at_make; refine wpList_make_bytes _ rfl _ _ rfl _ _ 16 rfl rfl rfl rfl (by omega) ?_; intro w7 R7 L7)
  have M7 := Lib.hid (step M6.out L7)
  have HO7 := Lib.hid (HO6.out.below L7)
  refine (live_say w7 _ 16 (Fresh.holds (base := 0) (.inr ⟨_, rfl, Nat.zero_le _, R7.out⟩) (by simp) (Bytes.zeros 16) (by omega))).mono ?_
  rintro e w8 ⟨ds, rfl, hd1, hd2, hd3, L8⟩
  have HD1 := Lib.hid hd1
  have HD2 := Lib.hid hd2
  have HD3 := Lib.hid hd3
  have M8 := Lib.hid (step M7.out L8)
  have HO8 := Lib.hid (HO7.out.below L8)
  clear hd1 hd2 hd3 L8 HO6 HO7 M6 M7 R7 L7
  go_wp2_with (first
    | ((with_reducible show wpList _ _ _ (⟨some 7, _, _, _, _, _⟩ :: _) _ _); refine wpList_alloc_blk rfl _ rfl zs _ ZS ?_; intro g9 w9 hg7 hg8 X9 L9)
    | ((with_reducible show wpList _ _ _ (⟨none, .store _ (.tmp 7) _, _, _, _, _⟩ :: _) _ _); refine wpList_store_blk rfl _ (.tmp 7) (.tmp 27) rfl g9 rfl _ zs ds rfl X9 20 size_say HZS HD1 HD2 ?_; intro w10 X10 O10 hg10; have b10 := Lib.hid (below_only L9.out O10.out hg7); have M10 := Lib.hid (step M8.out b10.out); have HO10 := Lib.hid (HO8.out.below b10.out); obtain ⟨Av, cv, hv, hh⟩ := HO10.out.holds (Bytes.of_all (by decide)) (by decide))
    | fail)
  have L11 : Below w10.heap.size w10 (w10.alloc (.cells #[.int .u8 2, .int .u8 0, .int .u8 97, .int .u8 0] 5)) := (Below.refl _ _).alloc (Nat.le_refl _) _
  have hlit := (Holds.lit w10 [2, 0, 97, 0] #[.int .u8 2, .int .u8 0, .int .u8 97, .int .u8 0] w10.heap.size 4 rfl rfl rfl (Bytes.of_all (by decide)) (by omega)).mono (B' := (w10.alloc (.cells #[.int .u8 2, .int .u8 0, .int .u8 97, .int .u8 0] 5)).heap.size) (by simp)
  have D := Same_any _ _ _ _ _ _ _ _ _ _ _ (hh.over L11) hlit
  rw [decide_eq_true rfl] at D
  have gd : (w10.alloc (.cells #[.int .u8 2, .int .u8 0, .int .u8 97, .int .u8 0] 5)).cell? ⟨g9, 1, none⟩ = some (.int .u64 0) := (X10.out.over L11).at HD3.out
  have M11 := Lib.hid (step M10.out L11)
  obtain ⟨w11, hw11⟩ : ∃ x, x = w10.alloc (.cells #[.int .u8 2, .int .u8 0, .int .u8 97, .int .u8 0] 5) := ⟨_, rfl⟩
  rw [← hw11] at D gd M11 ⊢
  clear hw11 hlit L11 hh
  refine D.mono ?_
  rintro e w12 ⟨rfl, k12, rfl⟩
  have gd2 : (w11.drewN k12).cell? ⟨g9, 1, none⟩ = some (.int .u64 0) := gd
  go_wp2
  go_ret
  exact ⟨rfl, step M11.out (drewed _ _)⟩
end Go.Proofs.YtepkamkgodbffaaDoor
