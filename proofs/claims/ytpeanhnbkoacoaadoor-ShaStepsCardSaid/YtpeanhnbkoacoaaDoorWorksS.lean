/-
  Contract of the statements' own 'works' of layer 3: a sum that the document tells.
-/
import Derived.Test.YtpeanhnbkoacoaaDoorShaG
import Derived.Lib.SlBytesConst
namespace Go.Proofs.YtpeanhnbkoacoaaDoor
open Go.RowKit

theorem abc_sum : (sumOf [97, 98, 99]).getD 0 0 = 186 ∧ (sumOf [97, 98, 99]).getD 1 0 = 120 ∧ (sumOf [97, 98, 99]).getD 31 0 = 173 ∧ (sumOf [97, 98, 99]).getD 30 0 = 21 := by decide +kernel

theorem zero_o' : (Tryd.prog.info? 34).map (fun i => (i.zero, i.size)) = some (some (.agg ((List.replicate 32 (0 : Int)).map (Value.int .u8)).toArray), 32) := by kernel_rfl

/-- a block of bytes that has just been laid, marked or not -/
theorem Holds.litF (w : World) (xs : List Int) (fr : Nat × Nat) (T : TypeId) (n : Nat) (hl : xs.length = n) (hx : Bytes xs) (hn : n ≤ 281474976710656) :
    Holds (w.alloc (.cells (xs.map (Value.int .u8)).toArray T fr)) (w.heap.size + 1) (some ⟨w.heap.size, 0, none⟩) n n xs := by
  subst hl
  exact ⟨rfl, Nat.le_refl _, hn, hx, fun hA => (by cases hA), fun _ => ⟨w.heap.size, 0, rfl, by omega, fun i hi => by
    have hr : (w.alloc (.cells (xs.map (Value.int .u8)).toArray T fr)).heap[w.heap.size]? = some (.cells (xs.map (Value.int .u8)).toArray T fr) := heap_alloc_new w _
    rw [Nat.zero_add, cell_of_row _ w.heap.size i _ T fr hr]
    simp [hi]⟩⟩

set_option maxHeartbeats 1000000 in
theorem works_any (w : World) (hK : KTab w) : Calls Tryd.prog 12 #[] w fun e w' => e = .returned (.bool true) ∧ Below w.heap.size w w' := by
  obtain ⟨v0, v1, v31, v30⟩ := abc_sum
  have HP : Hid ((sumOf [97, 98, 99]).length = 32) := outOf_len _
  obtain ⟨X, hX⟩ : ∃ Z : List Int, Z = List.replicate 32 0 := ⟨_, rfl⟩
  have HX := len0 32
  have hx1 := zero_o'
  rw [← hX] at HX hx1
  have HX1 := Lib.hid hx1
  have cs := fun w A c h hK => Lib.hid (Sum_any w A 3 c [97, 98, 99] (by omega) h hK)
  obtain ⟨p, hp⟩ : ∃ p, p = sumOf [97, 98, 99] := ⟨_, rfl⟩
  rw [← hp] at cs HP v0 v1 v30 v31
  have V0 := Lib.hid v0
  have V1 := Lib.hid v1
  have V31 := Lib.hid v31
  have V30 := Lib.hid v30
  have h1 : Holds (w.alloc (.cells #[.int .u8 97, .int .u8 98, .int .u8 99] 5 (3, 4))) (w.alloc (.cells #[.int .u8 97, .int .u8 98, .int .u8 99] 5 (3, 4))).heap.size (some ⟨w.heap.size, 0, none⟩) 3 3 [97, 98, 99] :=
    (Holds.litF w [97, 98, 99] (3, 4) 5 3 rfl (Bytes.of_all rfl) (by omega)).mono (by simp)
  have H1 := Lib.hid h1
  have b1 : Below w.heap.size w (w.alloc (.cells #[.int .u8 97, .int .u8 98, .int .u8 99] 5 (3, 4))) := (Below.refl _ w).alloc (Nat.le_refl _) _
  have HK := Lib.hid (hK.below b1)
  have kc := fun (w : World) (C : Array Value) (n c : Nat) => Lib.run_convert_bytes_const (P := Tryd.prog) w 30 5 C n c Tryd.underlying30 Tryd.underlying5
  clear h1 hK hx1 hX hp v0 v1 v30 v31
  go_enter Tryd.func12, Tryd.ntmps12
  go_wp2_with fail
  refine (cs _ _ _ H1.out HK.out).out.mono ?_
  rintro e w2 ⟨rfl, b2⟩
  have B2 : Below w.heap.size w w2 := b1.trans (b2.mono (by simp))
  have hB2 := Lib.hid B2
  clear b1 b2 B2 H1 HK cs kc
  go_wp2_with (first
    | ((with_reducible show wpList _ _ _ (⟨some 1, _, _, _, _, _⟩ :: _) _ _); refine wpList_alloc_arr rfl _ rfl .u8 X 32 HX1 ?_; intro g5 w6 e6 s6 A6 b6)
    | ((with_reducible show wpList _ _ _ (⟨none, _, _, _, _, _⟩ :: _) _ _); refine wpList_store_arr rfl _ (.tmp 1) (.tmp 4) rfl g5 rfl .u8 _ _ p rfl A6 32 size_o HX HP ?_; intro w7 A7 o7 s7; have k0 := A7.out.cell (i := 0) (by rw [HP.out]; omega); have k1 := A7.out.cell (i := 1) (by rw [HP.out]; omega); have k31 := A7.out.cell (i := 31) (by rw [HP.out]; omega); have k30 := A7.out.cell (i := 30) (by rw [HP.out]; omega); rw [V0.out] at k0; rw [V1.out] at k1; rw [V31.out] at k31; rw [V30.out] at k30)
    | fail)
  go_ret
  have hs := hB2.out.size
  exact ⟨rfl, (hB2.out.trans (b6.out.mono hs)).trans (o7.out.below (by omega))⟩
end Go.Proofs.YtpeanhnbkoacoaaDoor
