/-
  Pure: the texts of an Ask that GetAsk answers are short.
-/
import Derived.Test.YtepkamkgodbffaaDoorYTalkR
namespace Go.Proofs.YtepkamkgodbffaaDoor
open Go.RowKit
set_option linter.unusedVariables false
set_option maxRecDepth 100000

theorem flat_enc_le (rs : List Int) : (rs.flatMap enc).length ≤ 4 * rs.length := by
  induction rs with
  | nil => exact Nat.le_refl _
  | cons r rs ih =>
    rw [List.flatMap_cons, List.length_append, List.length_cons]
    have := enc_le (r := r)
    omega
theorem units_ge (rs : List Int) : rs.length ≤ unitCount rs := by
  induction rs with
  | nil => exact Nat.le_refl _
  | cons r rs ih => rw [unitCount, List.length_cons]; split <;> omega
theorem getText_le {xs : List Int} (hx : Bytes xs) : (getText xs).length ≤ 4 * xs.length := by
  unfold getText
  cases hg : gets xs with
  | none => exact Nat.zero_le _
  | some rs =>
    obtain ⟨h1, h2⟩ := gets_back hx hg
    have h3 := putBytes_length rs
    rw [h2] at h3
    have h4 := units_ge rs
    have h5 := flat_enc_le rs
    show (rs.flatMap enc).length ≤ _
    omega
theorem gtextOf_le {xs : List Int} (hx : Bytes xs) (a : Int) : (gtextOf xs a).length ≤ 262140 := by
  unfold gtextOf
  split
  · have h1 := growOf_le hx a 512
    have h2 := getText_le (growOf_bytes hx a 512)
    omega
  · exact Nat.zero_le _
theorem prdText_le {xs : List Int} (hx : Bytes xs) (r : Rd) : (prdText xs r).1.length ≤ 262140 := by
  unfold prdText
  split
  · exact gtextOf_le hx _
  · exact Nat.zero_le _
theorem size_list (l : List UInt8) : (⟨l.toArray⟩ : ByteArray).size = l.length := by simp [ByteArray.size]
theorem gaskOf_size (c : Int) {xs : List Int} (hx : Bytes xs) : (gaskOf c xs).user.size ≤ 17592186044416 ∧ (gaskOf c xs).share.size ≤ 17592186044416 := by
  have z : zeroAsk.user.size ≤ 17592186044416 ∧ zeroAsk.share.size ≤ 17592186044416 := by decide
  unfold gaskOf
  split
  · unfold gaskP
    split
    · exact z
    · split
      · refine ⟨?_, z.2⟩
        show (⟨(prdText xs (rdPart xs 32 rd0).2).1.toArray⟩ : ByteArray).size ≤ _
        rw [size_list]
        have := prdText_le hx (rdPart xs 32 rd0).2
        omega
      · split
        · refine ⟨z.1, ?_⟩
          show (⟨(prdText xs rd0).1.toArray⟩ : ByteArray).size ≤ _
          rw [size_list]
          have := prdText_le hx rd0
          omega
        · exact z
  · exact z
end Go.Proofs.YtepkamkgodbffaaDoor
