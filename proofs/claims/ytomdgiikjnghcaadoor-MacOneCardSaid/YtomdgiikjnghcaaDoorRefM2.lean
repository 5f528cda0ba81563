/-
  Contracts of the document's layer 4 (refectoryref04): Derive, Proof.
-/
import Derived.Test.YtomdgiikjnghcaaDoorMacE
import Derived.Test.YtomdgiikjnghcaaDoorRefM1
namespace Go.Proofs.YtomdgiikjnghcaaDoor
open Go.RowKit

/-- one byte of a text -/
theorem wpList_index_text {ops : Array Oper} {rest : List Oper} {o : Oper} {a : Act} {w : World} {Q : Exit → Act → World → Prop} (hg : o.guard = none) (x y : Operand) (ho : o.op = .index 9 x y) (s : ByteArray) (hx : a.eval x = .string s) (i : Nat) (hy : a.eval y = .int .i64 i) (hi : i < s.size)
    (h : wpList Tryd.prog ops Q rest (a.put o.dst (.int .u8 ((textL s).getD i 0))) w) : wpList Tryd.prog ops Q (o :: rest) a w := by
  refine wpList_plain hg fun K hK => ?_
  unfold Oper.wp execOp
  have hv : (textL s).getD i 0 = (s[i]'hi).toNat := by
    have hi' : i < s.data.size := hi
    unfold textL
    simp only [List.getD_eq_getElem?_getD, List.getElem?_map, Array.getElem?_toList, Array.getElem?_eq_getElem hi']
    rfl
  have hr : (Instr.index 9 (.string s) (.int .i64 i)).run Tryd.prog w = .ok (.int .u8 ((textL s).getD i 0)) w := by
    rw [run_index_string w 9 s .i64 i Tryd.underlying9, dif_pos ⟨by omega, by omega⟩, hv]
    rfl
  simp only [ho, hx, hy, hr, Sem.run_bind, Sem.run_pure, Result.andThen_ok]
  exact hK _ _ h

set_option maxRecDepth 100000 in
set_option maxHeartbeats 4000000 in
theorem RDerive_any (w : World) (A : Option Addr) (n c : Nat) (ks : List Int) (hn : n ≤ 140737488355100) (h : Holds w w.heap.size A n c ks) (l k : ByteArray) (hs : l.size + k.size ≤ 140737488355000) :
    Calls Tryd.prog 13 #[.slice A n c, .string l, .string k] w fun e w' => e = .returned (.agg ((deriveL ks (textL l) (textL k)).map (Value.int .u8)).toArray) ∧ Below w.heap.size w w' := by
  have hLl := textL_len l
  have hLk := textL_len k
  have hLb := textL_bytes l
  have hKb := textL_bytes k
  have hde : deriveL ks (textL l) (textL k) = (macL ks (deriveB (textL l) (textL k))).take 16 := rfl
  have hdb : deriveB (textL l) (textL k) = [0, 0, 0, 1] ++ textL l ++ [0] ++ textL k ++ [0, 0, 0, 128] := rfl
  obtain ⟨L, hL⟩ : ∃ L, L = textL l := ⟨_, rfl⟩
  obtain ⟨M, hM⟩ : ∃ M, M = textL k := ⟨_, rfl⟩
  rw [← hL] at hLl hLb hde hdb ⊢
  rw [← hM] at hLk hKb hde hdb ⊢
  have HL := Lib.hid hL
  have HM := Lib.hid hM
  obtain ⟨nl, hnl⟩ : ∃ n, n = l.size := ⟨_, rfl⟩
  obtain ⟨nk, hnk⟩ : ∃ n, n = k.size := ⟨_, rfl⟩
  have hDl : (deriveB L M).length = 9 + l.size + k.size := by rw [hdb]; simp [hLl, hLk]; omega
  have hDb : Bytes (deriveB L M) := by
    rw [hdb]
    exact ((((Bytes.of_all rfl).append hLb).append (Bytes.of_all rfl)).append hKb).append (Bytes.of_all rfl)
  obtain ⟨D, hD⟩ : ∃ D, D = deriveB L M := ⟨_, rfl⟩
  rw [← hD] at hdb hDl hDb hde
  have HD := Lib.hid hdb
  have HDl := Lib.hid hDl
  have cm := fun w h A2 c2 h2 => Lib.hid (RMac_any w A n c ks hn h A2 (9 + l.size + k.size) c2 D (by omega) h2)
  have hml := macL_len ks D
  have hmb := macL_bytes ks D
  have HR : Hid ((deriveL ks L M).length = 16) := deriveL_len _ _ _
  have chf := fun w => half_any w (macL ks D) hml hmb
  rw [← hde] at chf
  have CHF := fun w => Lib.hid (chf w)
  obtain ⟨R, hR⟩ : ∃ R, R = deriveL ks L M := ⟨_, rfl⟩
  rw [← hR] at CHF HR ⊢
  obtain ⟨P, hP⟩ : ∃ P, P = macL ks D := ⟨_, rfl⟩
  rw [← hP] at cm CHF
  obtain ⟨X, hX⟩ : ∃ Z : List Int, Z = List.replicate 16 0 := ⟨_, rfl⟩
  have HX := len0 16
  have hx1 := zero_g
  rw [← hX] at HX hx1
  have HX1 := Lib.hid hx1
  have HH := Lib.hid h
  have HLl := Lib.hid hLl
  have HLk := Lib.hid hLk
  clear hL hM hD hdb hde chf hR hP hx1 hX h hDl hml hmb hLl hLk
  go_enter Tryd.func13, Tryd.ntmps13
  go_wp2_with (first
    | ((with_reducible show wpList _ _ _ (⟨some 6, _, _, _, _, _⟩ :: _) _ _); refine wpList_alloc_arr rfl _ rfl .u8 X 16 HX1 ?_; intro g6 w6 e6 s6 A6 b6)
    | fail)
  have hO0 := Lib.hid (OwnK.lit .u8 5 w6 [0, 0, 0, 1] #[.int .u8 0, .int .u8 0, .int .u8 0, .int .u8 1] 4 rfl rfl (by rw [maxLen_eq]; omega))
  have hb0 : Below w6.heap.size w6 (w6.alloc (.cells #[.int .u8 0, .int .u8 0, .int .u8 0, .int .u8 1] 5)) := (Below.refl _ w6).alloc (Nat.le_refl _) _
  obtain ⟨w0, hw0⟩ : ∃ w0, w0 = w6.alloc (.cells #[.int .u8 0, .int .u8 0, .int .u8 0, .int .u8 1] 5) := ⟨_, rfl⟩
  rw [← hw0] at hO0 hb0 ⊢
  clear hw0
  go_loopw [7, 8] (fun v i wr => ∃ j : Nat, j ≤ l.size ∧ i = .int .i64 j ∧ Hid (OwnK .u8 5 wr w6.heap.size v ([0, 0, 0, 1] ++ L.take j)) ∧ Hid (Below w6.heap.size w6 wr)) (fun _ i _ => l.size - (intOf i).toNat)
  case atStart => exact ⟨0, by omega, rfl, hO0, hb0⟩
  case round =>
    obtain ⟨j, hj, rfl, hO, hB⟩ := hrel
    have hbs := Lib.hid hB.out.size
    have hlj : Hid (([0, 0, 0, 1] ++ L.take j).length = 4 + j) := by show _ = _; rw [List.length_append, List.length_take, HLl.out]; simp; omega
    by_cases hlt : j < l.size
    · have he := take_snoc L j (by rw [HLl.out]; exact hlt)
      have HLj : Hid ((textL l).getD j 0 = L.getD j 0) := by show _ = _; rw [HL.out]
      obtain ⟨y, hy⟩ : ∃ y, y = L.getD j 0 := ⟨_, rfl⟩
      rw [← hy] at he HLj
      clear hy
      go_wp2_with (first
        | ((with_reducible show wpList _ _ _ (⟨some 20, _, _, _, _, _⟩ :: _) _ _); refine wpList_index_text rfl (.tmp 18) (.tmp 19) rfl l rfl j rfl hlt ?_; rw [HLj.out])
        | (at_builtin; refine wpList_append_lit rfl (.tmp 17) (.tmp 21) .u8 22 5 1 Tryd.underlying22 info_b rfl w6.heap.size _ ([0, 0, 0, 1] ++ L.take j) [y] _ rfl 1 1 rfl rfl rfl hO.out (by rw [hlj.out]; omega) (by rw [hlj.out]; omega) hbs.out ?_; intro v1 w1 ho1 hg1)
        | fail)
      have hO1 := ho1.out
      rw [List.append_assoc, he] at hO1
      go_roundw
      case rel => exact ⟨j + 1, by omega, by go_num, hO1, hB.out.trans (hg1.out.below hO.out hbs.out)⟩
      case measure => simp [intOf]; omega
    · have hjl : j = l.size := by omega
      have hO1 : Hid (OwnK .u8 5 wr w6.heap.size u7 ([0, 0, 0, 1] ++ L)) := by
        have h0 := hO.out
        rwa [List.take_of_length_le (by rw [HLl.out]; omega)] at h0
      have hl1 : Hid (([0, 0, 0, 1] ++ L).length = 4 + l.size) := by show _ = _; rw [List.length_append, HLl.out]; rfl
      have hge : (l.size : Int) ≤ (j : Int) := by omega
      obtain ⟨w7, hw7⟩ : ∃ x, x = wr := ⟨_, rfl⟩
      rw [← hw7] at hO1 hB hbs ⊢
      clear hw7 hO hlj hlt hjl
      go_wp2_with (first
        | (at_builtin; refine wpList_append_lit rfl (.tmp 23) (.tmp 24) .u8 22 5 1 Tryd.underlying22 info_b rfl w6.heap.size _ ([0, 0, 0, 1] ++ L) [0] _ rfl 1 1 rfl rfl rfl hO1.out (by rw [hl1.out]; omega) (by rw [hl1.out]; omega) hbs.out ?_; intro v8 w8 ho8 hg8)
        | fail)
      have B8 := Lib.hid (hB.out.trans (hg8.out.below hO1.out hbs.out))
      have hl8 : Hid (([0, 0, 0, 1] ++ L ++ [0]).length = 5 + l.size) := by show _ = _; rw [List.length_append, hl1.out]; simp; omega
      obtain ⟨L8, hL8⟩ : ∃ x, x = [0, 0, 0, 1] ++ L ++ [0] := ⟨_, rfl⟩
      rw [← hL8] at ho8 hl8
      have HL8 := Lib.hid hL8
      clear hL8 hg8 hO1 hl1 hB hbs
      go_loopw [7, 9] (fun v i wr => ∃ j : Nat, j ≤ k.size ∧ i = .int .i64 j ∧ Hid (OwnK .u8 5 wr w6.heap.size v (L8 ++ M.take j)) ∧ Hid (Below w6.heap.size w6 wr)) (fun _ i _ => k.size - (intOf i).toNat)
      case atStart => exact ⟨0, by omega, rfl, by rw [List.take_zero, List.append_nil]; exact ho8, B8⟩
      case round =>
        obtain ⟨j, hj, rfl, hO, hB⟩ := hrel
        have hbs := Lib.hid hB.out.size
        have hlj : Hid ((L8 ++ M.take j).length = 5 + l.size + j) := by show _ = _; rw [List.length_append, List.length_take, HLk.out, hl8.out]; omega
        by_cases hlt : j < k.size
        · have he := take_snoc M j (by rw [HLk.out]; exact hlt)
          have HLj : Hid ((textL k).getD j 0 = M.getD j 0) := by show _ = _; rw [HM.out]
          obtain ⟨y, hy⟩ : ∃ y, y = M.getD j 0 := ⟨_, rfl⟩
          rw [← hy] at he HLj
          clear hy
          go_wp2_with (first
            | ((with_reducible show wpList _ _ _ (⟨some 35, _, _, _, _, _⟩ :: _) _ _); refine wpList_index_text rfl (.tmp 33) (.tmp 34) rfl k rfl j rfl hlt ?_; rw [HLj.out])
            | (at_builtin; refine wpList_append_lit rfl (.tmp 32) (.tmp 36) .u8 22 5 1 Tryd.underlying22 info_b rfl w6.heap.size _ (L8 ++ M.take j) [y] _ rfl 1 1 rfl rfl rfl hO.out (by rw [hlj.out]; omega) (by rw [hlj.out]; omega) hbs.out ?_; intro v1 w1 ho1 hg1)
            | fail)
          have hO1 := ho1.out
          rw [List.append_assoc, he] at hO1
          go_roundw
          case rel => exact ⟨j + 1, by omega, by go_num, hO1, hB.out.trans (hg1.out.below hO.out hbs.out)⟩
          case measure => simp [intOf]; omega
        · have hO1 : Hid (OwnK .u8 5 wr w6.heap.size u7 (L8 ++ M)) := by
            have h0 := hO.out
            rwa [List.take_of_length_le (by rw [HLk.out]; omega)] at h0
          have hl1 : Hid ((L8 ++ M).length = 5 + l.size + k.size) := by show _ = _; rw [List.length_append, HLk.out, hl8.out]
          have hge : (k.size : Int) ≤ (j : Int) := by omega
          obtain ⟨w9, hw9⟩ : ∃ x, x = wr := ⟨_, rfl⟩
          rw [← hw9] at hO1 hB hbs ⊢
          clear hw9 hO hlj hlt
          go_wp2_with (first
            | (at_builtin; refine wpList_append_lit rfl (.tmp 38) (.tmp 39) .u8 22 5 1 Tryd.underlying22 info_b rfl w6.heap.size _ (L8 ++ M) [0, 0, 0, 128] _ rfl 4 4 rfl rfl rfl hO1.out (by rw [hl1.out]; omega) (by rw [hl1.out]; omega) hbs.out ?_; intro v10 w10 ho10 hg10; have B10 := Lib.hid (hB.out.trans (hg10.out.below hO1.out hbs.out)); have o10 : Own w10 w6.heap.size v10 D := (by rw [HD.out, ← HL8.out]; exact ho10.out); obtain ⟨A10, c10, rfl, h10⟩ := o10.holds hDb (by rw [HDl.out]; omega); rw [HDl.out] at h10 ⊢; have H10 := Lib.hid h10; clear o10 h10 ho10 hg10)
            | fail)
          have BW := Lib.hid (step b6.out B10.out)
          refine (cm _ (HH.out.over BW.out) _ _ H10.out).out.mono ?_
          rintro e w11 ⟨rfl, b11⟩
          have A611 := Lib.hid ((A6.out.over B10.out).over b11)
          have B11 := Lib.hid (step BW.out b11)
          clear b11 BW B10 H10 A6 b6 B8 hB hO1 hbs ho8
          go_wp2_with fail
          refine (CHF _).out.mono ?_
          rintro e w12 ⟨rfl, b12⟩
          have A612 := Lib.hid (A611.out.over b12)
          have B12 := Lib.hid (step B11.out b12)
          clear b12 A611 B11
          go_wp2_with (first
            | ((with_reducible show wpList _ _ _ (⟨none, .store _ (.tmp 6) _, _, _, _, _⟩ :: _) _ _); refine wpList_store_arr rfl _ (.tmp 6) (.tmp 44) rfl g6 rfl .u8 _ _ R rfl A612 16 size_g HX HR ?_; intro w19 A19 o19 s19)
            | fail)
          refine bodyPost_ret (v := .agg (R.map (Value.int .u8)).toArray) ?_ rfl ⟨rfl, B12.out.trans (o19.out.below e6)⟩
          exact results_cell_row rfl _ _ g6 _ _ (0, 0) _ rfl A19.out Tryd.underlying26 rfl (by rw [size_g]; have := HR.out; simp [this])
end Go.Proofs.YtomdgiikjnghcaaDoor
