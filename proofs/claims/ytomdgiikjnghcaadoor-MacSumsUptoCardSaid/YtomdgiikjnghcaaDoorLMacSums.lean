/-
  The walk of the statement MacSums: the sum of bytes by a key, a key of a key, and a proof, are the document's.
-/
import Derived.Test.YtomdgiikjnghcaaDoorWorksM
import Derived.Test.YtomdgiikjnghcaaDoorRefM3
import Derived.Test.YtomdgiikjnghcaaDoorOpen
namespace Go.Proofs.YtomdgiikjnghcaaDoor
open Go.RowKit
set_option linter.unusedVariables false

theorem size_8 : (Tryd.prog.info? 23).map (·.size) = some 8 := by kernel_rfl

set_option maxRecDepth 100000 in
set_option maxHeartbeats 4000000 in
theorem walk_MacSums (W : World) (hT : KTab W) (A0 : Option Addr) (n0 c0 : Nat) (z0 : List Int) (l0 : n0 ≤ c0) (r0 : c0 ≤ 1048576) (h0 : Holds W W.heap.size A0 c0 c0 z0)
    (A1 : Option Addr) (n1 c1 : Nat) (z1 : List Int) (l1 : n1 ≤ c1) (r1 : c1 ≤ 1048576) (h1 : Holds W W.heap.size A1 c1 c1 z1)
    (a2 : ByteArray) (w2 : a2.size ≤ 1048576) (a3 : ByteArray) (w3 : a3.size ≤ 1048576) (a4 : ByteArray) (w4 : a4.size ≤ 1048576) (x5 : List Int) (l5 : x5.length = 8) (w5 : ∀ x ∈ x5, (Lit.int .u8 x).wf = true) :
    Calls Tryd.prog 3 #[.slice A0 n0 c0, .slice A1 n1 c1, .string a2, .string a3, .string a4, .agg (x5.map (Value.int .u8)).toArray] W fun e W' => e = .returned (.bool true) ∧ Below W.heap.size W W' := by
  have hk := h0.head l0
  have hm := h1.head l1
  obtain ⟨ks, hks⟩ : ∃ xs, xs = z0.take n0 := ⟨_, rfl⟩
  obtain ⟨bs, hbs⟩ : ∃ xs, xs = z1.take n1 := ⟨_, rfl⟩
  rw [← hks] at hk
  rw [← hbs] at hm
  have hx5 : Bytes x5 := fun x hx => wf8 (w5 x hx)
  have c1' := fun w h h2 hK => Mac_any w A0 n0 c0 ks (by omega) h A1 n1 c1 bs (by omega) h2 hK
  have c2' := fun w h h2 => RMac_any w A0 n0 c0 ks (by omega) h A1 n1 c1 bs (by omega) h2
  have c3' := fun w h hK => Derive_any w A0 n0 c0 ks (by omega) h a2 a3 (by omega) hK
  have c4' := fun w h => RDerive_any w A0 n0 c0 ks (by omega) h a2 a3 (by omega)
  have c5' := fun w hK => Proof_any w a4 (by omega) x5 l5 hx5 hK
  have c6' := fun w => RProof_any w a4 (by omega) x5 l5 hx5
  have cw := fun w hK => Lib.hid (works_any w hK)
  have hpl := macL_len ks bs
  have hdl := deriveL_len ks (textL a2) (textL a3)
  have hql := macL_len (textL a4) x5
  obtain ⟨p, hp⟩ : ∃ p, p = macL ks bs := ⟨_, rfl⟩
  obtain ⟨d, hd⟩ : ∃ p, p = deriveL ks (textL a2) (textL a3) := ⟨_, rfl⟩
  obtain ⟨q, hq⟩ : ∃ p, p = macL (textL a4) x5 := ⟨_, rfl⟩
  rw [← hp] at c1' c2' hpl
  rw [← hd] at c3' c4' hdl
  rw [← hq] at c5' c6' hql
  have C1 := fun w h h2 hK => Lib.hid (c1' w h h2 hK)
  have C2 := fun w h h2 => Lib.hid (c2' w h h2)
  have C3 := fun w h hK => Lib.hid (c3' w h hK)
  have C4 := fun w h => Lib.hid (c4' w h)
  have C5 := fun w hK => Lib.hid (c5' w hK)
  have C6 := fun w => Lib.hid (c6' w)
  have q1 := fun w => run_equalIn_arr (P := Tryd.prog) Tryd.underlying24 Tryd.underlying5 one_u8 p hpl 9998 w
  have q2 := fun w => run_equalIn_arr (P := Tryd.prog) Tryd.underlying26 Tryd.underlying5 one_u8 d hdl 9998 w
  have q3 := fun w => run_equalIn_arr (P := Tryd.prog) Tryd.underlying24 Tryd.underlying5 one_u8 q hql 9998 w
  have qg : Tryd.prog.eqGuardType Tryd.prog.depth 24 = false := by kernel_rfl
  have qh : Tryd.prog.eqGuardType Tryd.prog.depth 26 = false := by kernel_rfl
  have HT := Lib.hid hT
  have HK := Lib.hid hk
  have HM := Lib.hid hm
  have HX := Lib.hid l5
  clear hks hbs h0 h1 hp hd hq c1' c2' c3' c4' c5' c6' hT hk hm l5 w5 hpl hdl hql
  go_enter Tryd.func3, Tryd.ntmps3
  go_upto_region 1 with (first
    | ((with_reducible show wpList _ _ _ (⟨some 11, _, _, _, _, _⟩ :: _) _ _); refine wpList_box_arr rfl _ (.tmp 5) rfl .u8 x5 rfl ?_; intro g11 w11 e11 s11 A11 b11)
    | fail)
  refine wp_region_held (S := fun w' => Arr w' g11 .u8 23 x5) (by kernel_rfl) ?_
  change wpAnyH _ _ _ _ _ _ _ _ w11.drew
  have S0 : Hid (Arr w11.drew g11 .u8 23 x5) := A11.out.drew
  have B0 : Hid (Below W.heap.size W w11.drew) := b11.out.drew
  refine wpAnyH_take (i := 0) (v := .slice A0 n0 c0) rfl (by kernel_rfl) (by kernel_rfl) (by kernel_rfl) (fun _ _ _ h => h) (.inl ⟨rfl, fun w _ => by go_simp⟩) S0.out ?_
  refine wpAnyH_take (i := 1) (v := .slice A1 n1 c1) rfl (by kernel_rfl) (by kernel_rfl) (by kernel_rfl) (fun _ _ _ h => h) (.inl ⟨rfl, fun w _ => by go_simp⟩) S0.out ?_
  refine wpAnyH_take (i := 3) (v := .slice A0 n0 c0) rfl (by kernel_rfl) (by kernel_rfl) (by kernel_rfl) (fun _ _ _ h => h) (.inl ⟨rfl, fun w _ => by go_simp⟩) S0.out ?_
  refine wpAnyH_take (i := 4) (v := .slice A1 n1 c1) rfl (by kernel_rfl) (by kernel_rfl) (by kernel_rfl) (fun _ _ _ h => h) (.inl ⟨rfl, fun w _ => by go_simp⟩) S0.out ?_
  refine wpAnyH_one 2 _ (by kernel_rfl) rfl fun K hK => ?_
  go_simp
  refine (C1 _ (HK.out.over B0.out) (HM.out.over B0.out) (HT.out.below B0.out)).out.mono ?_
  rintro e v1 ⟨rfl, b⟩
  have S1 : Hid (Arr v1 g11 .u8 23 x5) := S0.out.over b
  have B1 := Lib.hid (step B0.out b)
  refine hK _ _ S1.out ?_
  clear hK K b
  refine wpAnyH_one 5 _ (by kernel_rfl) rfl fun K hK => ?_
  go_simp
  refine (C2 _ (HK.out.over B1.out) (HM.out.over B1.out)).out.mono ?_
  rintro e v2 ⟨rfl, b⟩
  have S2 : Hid (Arr v2 g11 .u8 23 x5) := S1.out.over b
  have B2 := Lib.hid (step B1.out b)
  refine hK _ _ S2.out ?_
  clear hK K b
  refine wpAnyH_one 6 _ (by kernel_rfl) rfl fun K hK => ?_
  go_simp
  refine hK _ _ S2.out ?_
  clear hK K
  refine wpAnyH_one 7 _ (by kernel_rfl) rfl fun K hK => ?_
  go_simp
  refine hK _ _ S2.out ?_
  clear hK K
  refine wpAnyH_take (i := 8) (v := .slice A0 n0 c0) rfl (by kernel_rfl) (by kernel_rfl) (by kernel_rfl) (fun _ _ _ h => h) (.inl ⟨rfl, fun w _ => by go_simp⟩) S2.out ?_
  refine wpAnyH_take (i := 9) (v := .string a2) rfl (by kernel_rfl) (by kernel_rfl) (by kernel_rfl) (fun _ _ _ h => h) (.inl ⟨rfl, fun w _ => by go_simp⟩) S2.out ?_
  refine wpAnyH_take (i := 10) (v := .string a3) rfl (by kernel_rfl) (by kernel_rfl) (by kernel_rfl) (fun _ _ _ h => h) (.inl ⟨rfl, fun w _ => by go_simp⟩) S2.out ?_
  refine wpAnyH_take (i := 12) (v := .slice A0 n0 c0) rfl (by kernel_rfl) (by kernel_rfl) (by kernel_rfl) (fun _ _ _ h => h) (.inl ⟨rfl, fun w _ => by go_simp⟩) S2.out ?_
  refine wpAnyH_take (i := 13) (v := .string a2) rfl (by kernel_rfl) (by kernel_rfl) (by kernel_rfl) (fun _ _ _ h => h) (.inl ⟨rfl, fun w _ => by go_simp⟩) S2.out ?_
  refine wpAnyH_take (i := 14) (v := .string a3) rfl (by kernel_rfl) (by kernel_rfl) (by kernel_rfl) (fun _ _ _ h => h) (.inl ⟨rfl, fun w _ => by go_simp⟩) S2.out ?_
  refine wpAnyH_one 11 _ (by kernel_rfl) rfl fun K hK => ?_
  go_simp
  refine (C3 _ (HK.out.over B2.out) (HT.out.below B2.out)).out.mono ?_
  rintro e v3 ⟨rfl, b⟩
  have S3 : Hid (Arr v3 g11 .u8 23 x5) := S2.out.over b
  have B3 := Lib.hid (step B2.out b)
  refine hK _ _ S3.out ?_
  clear hK K b
  refine wpAnyH_one 15 _ (by kernel_rfl) rfl fun K hK => ?_
  go_simp
  refine (C4 _ (HK.out.over B3.out)).out.mono ?_
  rintro e v4 ⟨rfl, b⟩
  have S4 : Hid (Arr v4 g11 .u8 23 x5) := S3.out.over b
  have B4 := Lib.hid (step B3.out b)
  refine hK _ _ S4.out ?_
  clear hK K b
  refine wpAnyH_one 16 _ (by kernel_rfl) rfl fun K hK => ?_
  go_simp
  refine hK _ _ S4.out ?_
  clear hK K
  refine wpAnyH_one 17 _ (by kernel_rfl) rfl fun K hK => ?_
  go_simp
  refine hK _ _ S4.out ?_
  clear hK K
  refine wpAnyH_one 18 _ (by kernel_rfl) rfl fun K hK => ?_
  go_simp
  refine hK _ _ S4.out ?_
  clear hK K
  refine wpAnyH_take (i := 19) (v := .string a4) rfl (by kernel_rfl) (by kernel_rfl) (by kernel_rfl) (fun _ _ _ h => h) (.inl ⟨rfl, fun w _ => by go_simp⟩) S4.out ?_
  refine wpAnyH_take (i := 20) (v := _) rfl (by kernel_rfl) (by kernel_rfl) (by kernel_rfl) (fun _ _ _ h => h) (yieldsIf_load_arr rfl _ (.tmp 11) rfl g11 rfl .u8 _ x5 (fun _ h => h) 8 _ Tryd.underlying23 size_8 HX) S4.out ?_
  refine wpAnyH_take (i := 22) (v := .string a4) rfl (by kernel_rfl) (by kernel_rfl) (by kernel_rfl) (fun _ _ _ h => h) (.inl ⟨rfl, fun w _ => by go_simp⟩) S4.out ?_
  refine wpAnyH_take (i := 23) (v := _) rfl (by kernel_rfl) (by kernel_rfl) (by kernel_rfl) (fun _ _ _ h => h) (yieldsIf_load_arr rfl _ (.tmp 11) rfl g11 rfl .u8 _ x5 (fun _ h => h) 8 _ Tryd.underlying23 size_8 HX) S4.out ?_
  refine wpAnyH_one 21 _ (by kernel_rfl) rfl fun K hK => ?_
  go_simp
  refine (C5 _ (HT.out.below B4.out)).out.mono ?_
  rintro e v5 ⟨rfl, b⟩
  have S5 : Hid (Arr v5 g11 .u8 23 x5) := S4.out.over b
  have B5 := Lib.hid (step B4.out b)
  refine hK _ _ S5.out ?_
  clear hK K b
  refine wpAnyH_one 24 _ (by kernel_rfl) rfl fun K hK => ?_
  go_simp
  refine (C6 _).out.mono ?_
  rintro e v6 ⟨rfl, b⟩
  have S6 : Hid (Arr v6 g11 .u8 23 x5) := S5.out.over b
  have B6 := Lib.hid (step B5.out b)
  refine hK _ _ S6.out ?_
  clear hK K b
  refine wpAnyH_one 25 _ (by kernel_rfl) rfl fun K hK => ?_
  go_simp
  refine hK _ _ S6.out ?_
  clear hK K
  refine wpAnyH_one 26 _ (by kernel_rfl) rfl fun K hK => ?_
  go_simp
  refine hK _ _ S6.out ?_
  clear hK K
  refine wpAnyH_one 27 _ (by kernel_rfl) rfl fun K hK => ?_
  go_simp
  refine hK _ _ S6.out ?_
  clear hK K
  refine wpAnyH_one 28 _ (by kernel_rfl) rfl fun K hK => ?_
  go_simp
  refine (cw _ (HT.out.below B6.out)).out.mono ?_
  rintro e v7 ⟨rfl, b⟩
  have S7 : Hid (Arr v7 g11 .u8 23 x5) := S6.out.over b
  have B7 := Lib.hid (step B6.out b)
  refine hK _ _ S7.out ?_
  clear hK K b
  refine wpAnyH_one 29 _ (by kernel_rfl) rfl fun K hK => ?_
  go_simp
  refine hK _ _ S7.out ?_
  clear hK K
  refine wpAnyH_one 30 _ (by kernel_rfl) rfl fun K hK => ?_
  go_simp
  refine hK _ _ S7.out ?_
  clear hK K
  refine wpAnyH_done (by kernel_rfl) ?_ _
  go_wp2_with fail
  go_ret
  exact ⟨rfl, B7.out⟩
end Go.Proofs.YtomdgiikjnghcaaDoor
