/-
  Pure facts that the laws' walks share: what PutAsk and PutSay answer is bytes and short; what GetAsk and GetSay answer is an Ask, a Say.
-/
import Derived.Test.YtepkamkgodbffaaDoorYTalkQ
import Derived.Test.YtepkamkgodbffaaDoorYTalkP
namespace Go.Proofs.YtepkamkgodbffaaDoor
open Go.RowKit
set_option linter.unusedVariables false
set_option maxRecDepth 100000

theorem ask_bytes {c : Int} {a : AskV} (k : a.ok) : Bytes (askOfP c a) := by
  unfold askOfP
  split
  · split
    · exact ((le_bytes _ _).append (dialsOf_bytes _)).append k.gbyte
    · split
      · exact k.pbyte.append (ptextOf_bytes _)
      · split
        · exact ptextOf_bytes _
        · exact Bytes.zeros 4
  · exact Bytes.nil
theorem ask_len {c : Int} {a : AskV} (k : a.ok) : (askOfP c a).length ≤ 70000 := by
  unfold askOfP
  split
  · rename_i he
    split
    · rename_i h0
      have hd : a.dial.length ≤ 16 := by
        unfold askErrP at he
        by_cases hk : knownT c = true ∧ besideAsk c a = zeroAsk
        · rw [if_pos hk, if_pos h0] at he
          by_cases hd : a.dial.length ≤ 16
          · exact hd
          · rw [if_neg hd] at he; exact absurd he (by decide)
        · rw [if_neg hk] at he; exact absurd he (by decide)
      unfold offerOf
      rw [List.length_append, List.length_append, le_length, dialsOf_len, k.glen]
      omega
    · split
      · have := rowOf_le a.user.data.toList
        rw [List.length_append, k.plen]
        omega
      · split
        · have := rowOf_le a.share.data.toList
          omega
        · simp
  · simp
theorem say_bytes {c : Int} {a : SayV} (k : a.ok) : Bytes (sayOfP c a) := by
  unfold sayOfP
  split
  · split
    · exact (((le_bytes _ _).append (Bytes.zeros 2)).append (le_bytes _ _)).append k.cbyte
    · exact Bytes.zeros 4
  · exact Bytes.nil
theorem say_len {c : Int} {a : SayV} (k : a.ok) : (sayOfP c a).length ≤ 70000 := by
  unfold sayOfP
  split
  · split
    · simp only [List.length_append, le_length, List.length_replicate, k.clen]; omega
    · simp
  · simp
theorem gaskOf_ok (c : Int) {xs : List Int} (hx : Bytes xs) : (gaskOf c xs).ok := by
  by_cases h : gaskErr c xs = 0
  · exact (gask_once c hx h).2.2
  · unfold gaskOf
    rw [if_neg h]
    exact zeroAsk_ok
theorem gsayOf_ok (c : Int) {xs : List Int} (hx : Bytes xs) : (gsayOf c xs).ok := by
  by_cases h : gsayErr c xs = 0
  · exact (gsay_once c hx h).2.2
  · unfold gsayOf
    rw [if_neg h]
    exact zeroSay_ok
theorem gsayOf_nil (c : Int) (xs : List Int) : (gsayOf c xs).data = [] ∧ (gsayOf c xs).ents = [] := by
  unfold gsayOf
  split
  · unfold gsayP
    split <;> exact ⟨rfl, rfl⟩
  · exact ⟨rfl, rfl⟩
theorem gsay_is (w : World) (B : Nat) (c : Int) (xs : List Int) : SayIs w B (scells (.slice none 0 0) (.slice none 0 0) (gsayOf c xs)) (gsayOf c xs) := by
  obtain ⟨h1, h2⟩ := gsayOf_nil c xs
  refine ⟨none, 0, 0, none, 0, 0, rfl, ?_, ?_⟩
  · rw [h1]; exact Holds.nil _ _
  · rw [h2]; exact HoldsS.nil _ _ _ _
theorem gaskOf_nil (c : Int) (xs : List Int) : (gaskOf c xs).data = [] ∧ (gaskOf c xs).locks = [] := by
  unfold gaskOf
  split
  · unfold gaskP
    split
    · exact ⟨rfl, rfl⟩
    · split
      · exact ⟨rfl, rfl⟩
      · split <;> exact ⟨rfl, rfl⟩
  · exact ⟨rfl, rfl⟩
end Go.Proofs.YtepkamkgodbffaaDoor
