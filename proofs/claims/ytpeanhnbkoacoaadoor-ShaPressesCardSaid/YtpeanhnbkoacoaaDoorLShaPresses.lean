/-
  The walk of the statement ShaPresses: whatever block is pressed into whatever state, it is the document's; so is the first state.
-/
import Derived.Test.YtpeanhnbkoacoaaDoorWorksS
import Derived.Test.YtpeanhnbkoacoaaDoorRefS3
import Derived.Test.YtpeanhnbkoacoaaDoorHeld
namespace Go.Proofs.YtpeanhnbkoacoaaDoor
open Go.RowKit
set_option linter.unusedVariables false

set_option maxRecDepth 100000 in
set_option maxHeartbeats 4000000 in
theorem walk_ShaPresses (W : World) (hT : KTab W) (x0 : List Int) (l0 : x0.length = 8) (w0 : ∀ x ∈ x0, (Lit.int .u32 x).wf = true) (x1 : List Int) (l1 : x1.length = 64) (w1 : ∀ x ∈ x1, (Lit.int .u8 x).wf = true) :
    Calls Tryd.prog 3 #[.agg (x0.map (Value.int .u32)).toArray, .agg (x1.map (Value.int .u8)).toArray] W fun e W' => e = .returned (.bool true) ∧ Below W.heap.size W W' := by
  have hw0 : W32 x0 := fun x hx => wf32 (w0 x hx)
  have hw1 : Bytes x1 := fun x hx => by simpa [Lit.wf, IntKind.min, IntKind.max, IntKind.signed, IntKind.bits] using w1 x hx
  have cp := fun w hK => Lib.hid (Press_any w x0 x1 l0 hw0 l1 hw1 hK)
  have cr := fun w => Lib.hid (RPress_any w x0 x1 l0 hw0 l1 hw1)
  have hpl := pressOf_len x0 x1 l0
  obtain ⟨p, hp⟩ : ∃ p, p = pressOf x0 x1 := ⟨_, rfl⟩
  rw [← hp] at cp cr hpl
  have q1 := fun w => run_equalIn_arr (P := Tryd.prog) Tryd.underlying23 Tryd.underlying22 one_u32 p hpl 9998 w
  have q2 := fun w => run_equalIn_arr (P := Tryd.prog) Tryd.underlying23 Tryd.underlying22 one_u32 H0 H0_len 9998 w
  have qg : Tryd.prog.eqGuardType Tryd.prog.depth 23 = false := by kernel_rfl
  have cb := fun w => Lib.hid (Begin_any w)
  have cb2 := fun w => Lib.hid (RBegin_any w)
  have cw := fun w hK => Lib.hid (works_any w hK)
  obtain ⟨h0, hh0⟩ : ∃ h0, h0 = H0 := ⟨_, rfl⟩
  rw [← hh0] at cb cb2 q2
  have HX := Lib.hid l1
  have H8 := Lib.hid l0
  have HT := Lib.hid hT
  clear hp hh0 w0 w1 hT hpl hw0 hw1 l1 l0
  go_enter Tryd.func3, Tryd.ntmps3
  go_wp2_with (first
    | ((with_reducible show wpList _ _ _ (⟨some 2, _, _, _, _, _⟩ :: _) _ _); refine wpList_box_arr rfl _ (.tmp 0) rfl .u32 x0 rfl ?_; intro g2 w2 e2 s2 A2 b2)
    | ((with_reducible show wpList _ _ _ (⟨some 3, _, _, _, _, _⟩ :: _) _ _); refine wpList_box_arr rfl _ (.tmp 1) rfl .u8 x1 rfl ?_; intro g3 w3 e3 s3 A3 b3)
    | fail)
  have R2 : Hid (Arr w3 g2 .u32 23 x0) := A2.out.over b3.out
  have B3 : Hid (Below W.heap.size W w3) := step b2.out b3.out
  have K3 : Hid (KTab w3) := HT.out.below B3.out
  clear A2 b2 b3 s2 s3
  refine wp_region_held (S := fun w' => Arr w' g2 .u32 23 x0 ∧ Arr w' g3 .u8 24 x1) (by kernel_rfl) ?_
  change wpAnyH _ _ _ _ _ _ _ _ w3.drew
  have HS3 : Hid (Arr w3.drew g2 .u32 23 x0 ∧ Arr w3.drew g3 .u8 24 x1) := ⟨R2.out.drew, A3.out.drew⟩
  refine wpAnyH_take (i := 0) (v := _) rfl (by kernel_rfl) (by kernel_rfl) (by kernel_rfl) (fun _ _ _ h => h) (yieldsIf_load_arr rfl _ (.tmp 2) rfl g2 rfl .u32 _ x0 (fun _ h => h.1) 8 _ Tryd.underlying23 size_s H8) HS3.out ?_
  refine wpAnyH_take (i := 1) (v := _) rfl (by kernel_rfl) (by kernel_rfl) (by kernel_rfl) (fun _ _ _ h => h) (yieldsIf_load_arr rfl _ (.tmp 3) rfl g3 rfl .u8 _ x1 (fun _ h => h.2) 64 _ Tryd.underlying24 size_b HX) HS3.out ?_
  refine wpAnyH_take (i := 3) (v := _) rfl (by kernel_rfl) (by kernel_rfl) (by kernel_rfl) (fun _ _ _ h => h) (yieldsIf_load_arr rfl _ (.tmp 2) rfl g2 rfl .u32 _ x0 (fun _ h => h.1) 8 _ Tryd.underlying23 size_s H8) HS3.out ?_
  refine wpAnyH_take (i := 4) (v := _) rfl (by kernel_rfl) (by kernel_rfl) (by kernel_rfl) (fun _ _ _ h => h) (yieldsIf_load_arr rfl _ (.tmp 3) rfl g3 rfl .u8 _ x1 (fun _ h => h.2) 64 _ Tryd.underlying24 size_b HX) HS3.out ?_
  refine wpAnyH_one 2 _ (by kernel_rfl) rfl fun K hK => ?_
  go_simp
  refine (cp _ (show KTab w3.drew from K3.out.drewN 1)).out.mono ?_
  rintro e w4 ⟨rfl, b⟩
  have Sw4 : Hid (Arr w4 g2 .u32 23 x0 ∧ Arr w4 g3 .u8 24 x1) := ⟨HS3.out.1.over b, HS3.out.2.over b⟩
  have Bw4 : Hid (Below W.heap.size W w4) := step B3.out.drew b
  refine hK _ _ Sw4.out ?_
  clear hK K b
  refine wpAnyH_one 5 _ (by kernel_rfl) rfl fun K hK => ?_
  go_simp
  refine (cr _).out.mono ?_
  rintro e w5 ⟨rfl, b⟩
  have Sw5 : Hid (Arr w5 g2 .u32 23 x0 ∧ Arr w5 g3 .u8 24 x1) := ⟨Sw4.out.1.over b, Sw4.out.2.over b⟩
  have Bw5 : Hid (Below W.heap.size W w5) := step Bw4.out b
  refine hK _ _ Sw5.out ?_
  clear hK K b
  refine wpAnyH_one 6 _ (by kernel_rfl) rfl fun K hK => ?_
  go_simp
  refine hK _ _ Sw5.out ?_
  clear hK K
  refine wpAnyH_one 7 _ (by kernel_rfl) rfl fun K hK => ?_
  go_simp
  refine hK _ _ Sw5.out ?_
  clear hK K
  refine wpAnyH_one 8 _ (by kernel_rfl) rfl fun K hK => ?_
  go_simp
  refine (cb _).out.mono ?_
  rintro e w6 ⟨rfl, b⟩
  have Sw6 : Hid (Arr w6 g2 .u32 23 x0 ∧ Arr w6 g3 .u8 24 x1) := ⟨Sw5.out.1.over b, Sw5.out.2.over b⟩
  have Bw6 : Hid (Below W.heap.size W w6) := step Bw5.out b
  refine hK _ _ Sw6.out ?_
  clear hK K b
  refine wpAnyH_one 9 _ (by kernel_rfl) rfl fun K hK => ?_
  go_simp
  refine (cb2 _).out.mono ?_
  rintro e w7 ⟨rfl, b⟩
  have Sw7 : Hid (Arr w7 g2 .u32 23 x0 ∧ Arr w7 g3 .u8 24 x1) := ⟨Sw6.out.1.over b, Sw6.out.2.over b⟩
  have Bw7 : Hid (Below W.heap.size W w7) := step Bw6.out b
  refine hK _ _ Sw7.out ?_
  clear hK K b
  refine wpAnyH_one 10 _ (by kernel_rfl) rfl fun K hK => ?_
  go_simp
  refine hK _ _ Sw7.out ?_
  clear hK K
  refine wpAnyH_one 11 _ (by kernel_rfl) rfl fun K hK => ?_
  go_simp
  refine hK _ _ Sw7.out ?_
  clear hK K
  refine wpAnyH_one 12 _ (by kernel_rfl) rfl fun K hK => ?_
  go_simp
  refine hK _ _ Sw7.out ?_
  clear hK K
  refine wpAnyH_one 13 _ (by kernel_rfl) rfl fun K hK => ?_
  go_simp
  refine (cw _ (HT.out.below Bw7.out)).out.mono ?_
  rintro e w8 ⟨rfl, b⟩
  have Sw8 : Hid (Arr w8 g2 .u32 23 x0 ∧ Arr w8 g3 .u8 24 x1) := ⟨Sw7.out.1.over b, Sw7.out.2.over b⟩
  have Bw8 : Hid (Below W.heap.size W w8) := step Bw7.out b
  refine hK _ _ Sw8.out ?_
  clear hK K b
  refine wpAnyH_one 14 _ (by kernel_rfl) rfl fun K hK => ?_
  go_simp
  refine hK _ _ Sw8.out ?_
  clear hK K
  refine wpAnyH_one 15 _ (by kernel_rfl) rfl fun K hK => ?_
  go_simp
  refine hK _ _ Sw8.out ?_
  clear hK K
  refine wpAnyH_done (by kernel_rfl) ?_ _
  go_wp2_with fail
  go_ret
  exact ⟨rfl, Bw8.out⟩
end Go.Proofs.YtpeanhnbkoacoaaDoor
