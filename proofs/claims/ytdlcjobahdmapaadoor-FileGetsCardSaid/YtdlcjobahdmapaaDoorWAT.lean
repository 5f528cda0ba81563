import Derived.WalkKit
import Derived.Deep.Draws
import Derived.Laws.Rows
import Derived.Laws.OwnMore
import Derived.Lib.RuneBytes
import Derived.Lib.ValidLaws
import Derived.Test.YtdlcjobahdmapaaDoorRows
import Derived.Laws.CopyOwn
import Derived.Laws.AppendOwnNone
import Derived.Lib.Hide
import Derived.Laws.AppendOwn
import Derived.OwnWalk
import Derived.Lib.OthersKept
import Derived.Laws.BytesArg
import Derived.Shelf.Utf8.AppendRunePlain
import Derived.Shelf.Unicode.ValidAny
import Derived.Test.YtdlcjobahdmapaaDoorProg
import Derived.WalkSpells
import Derived.WalkLawsBesides
import Derived.Deep.QuietTactic
import Derived.BigQuiet
import Derived.Laws.Bits64
import Derived.Laws.BitsAllLaws
import Derived.ProofKit
import Derived.OpenShut
import Derived.ShutString
import Derived.SizedLaws
import Derived.ChangeOld
import Derived.Lib.AppendZeros
import Derived.Deep.RegionWith
import Derived.Deep.DeepCutAuto
import Derived.Great.Walk
import Derived.Laws.Tables
import Derived.Laws.NewFold
import Derived.Deep.WholeRow
import Derived.Deep.MidRow
import Derived.OneCell
import Derived.Deep.Strs
import Derived.OrdersHeld
import Derived.Laws.StructEq
import Derived.ChangeKeysEq
import Derived.Deep.RegionLaw
import Derived.Deep.OwnRows
import Derived.Test.YtdlcjobahdmapaaDoorWAD
import Derived.Test.YtdlcjobahdmapaaDoorWAE
import Derived.Test.YtdlcjobahdmapaaDoorWAF
import Derived.Test.YtdlcjobahdmapaaDoorWAG
import Derived.Test.YtdlcjobahdmapaaDoorWAH
import Derived.Test.YtdlcjobahdmapaaDoorWAJ
import Derived.Test.YtdlcjobahdmapaaDoorWAK
import Derived.Test.YtdlcjobahdmapaaDoorWAN
namespace Go.Proofs.YtdlcjobahdmapaaDoor
set_option linter.all false
open Go.Lib
theorem enc_le {r : Int} : (enc r).length ≤ 4 := by
  unfold enc
  split
  · simp
  · have := encodeRuneZ_length r
    simpa [encodeRune] using this.2
end Go.Proofs.YtdlcjobahdmapaaDoor

namespace Go.Proofs.YtdlcjobahdmapaaDoor
set_option linter.all false
open Go.RowKit
set_option linter.unusedVariables false
set_option maxRecDepth 100000
theorem flat_enc_le (rs : List Int) : (rs.flatMap enc).length ≤ 4 * rs.length := by
  induction rs with
  | nil => exact Nat.le_refl _
  | cons r rs ih =>
    rw [List.flatMap_cons, List.length_append, List.length_cons]
    have := enc_le (r := r)
    omega
theorem units_ge (rs : List Int) : rs.length ≤ unitCount rs := by
  induction rs with
  | nil => exact Nat.le_refl _
  | cons r rs ih => rw [unitCount, List.length_cons]; split <;> omega
theorem getText_le {xs : List Int} (hx : Bytes xs) : (getText xs).length ≤ 4 * xs.length := by
  unfold getText
  cases hg : gets xs with
  | none => exact Nat.zero_le _
  | some rs =>
    obtain ⟨h1, h2⟩ := gets_back hx hg
    have h3 := putBytes_length rs
    rw [h2] at h3
    have h4 := units_ge rs
    have h5 := flat_enc_le rs
    show (rs.flatMap enc).length ≤ _
    omega
theorem gtextOf_le {xs : List Int} (hx : Bytes xs) (a : Int) : (gtextOf xs a).length ≤ 262140 := by
  unfold gtextOf
  split
  · have h1 := growOf_le hx a 512
    have h2 := getText_le (growOf_bytes hx a 512)
    omega
  · exact Nat.zero_le _
theorem size_list (l : List UInt8) : (⟨l.toArray⟩ : ByteArray).size = l.length := by simp [ByteArray.size]
end Go.Proofs.YtdlcjobahdmapaaDoor

namespace Go.Proofs.YtdlcjobahdmapaaDoor
set_option linter.all false
set_option linter.unusedVariables false
set_option linter.unusedSimpArgs false
set_option maxRecDepth 100000
theorem fgOf_small (c : Int) {xs : List Int} (hx : Bytes xs) : (fgOf c xs).dial.length ≤ 16 ∧ (fgOf c xs).data.length ≤ 32768 ∧ (fgOf c xs).locks.length ≤ 16 ∧ (fgOf c xs).name.size ≤ 262140 ∧ (fgOf c xs).user.size ≤ 0 ∧ (fgOf c xs).share.size ≤ 0 := by
  have z : zeroAsk.name.size ≤ 262140 ∧ zeroAsk.user.size ≤ 0 ∧ zeroAsk.share.size ≤ 0 := by decide
  by_cases h : fgErr c xs = 0
  · obtain ⟨h1, _, _⟩ := fg_once c hx h
    obtain ⟨_, _, _, hd, hl, _, _⟩ := fp_parts h1
    refine ⟨?_, hd, hl, ?_⟩
    · unfold fgOf
      rw [if_pos h]
      unfold fgP
      repeat' split
      all_goals exact Nat.zero_le _
    · unfold fgOf
      rw [if_pos h]
      unfold fgP
      split
      · refine ⟨?_, z.2⟩
        show (⟨(rdText xs (c8 xs).2).1.toArray⟩ : ByteArray).size ≤ _
        rw [size_list]
        unfold rdText
        split
        · exact gtextOf_le hx _
        · exact Nat.zero_le _
      · repeat' split
        all_goals exact z
  · unfold fgOf
    rw [if_neg h]
    exact ⟨Nat.zero_le _, Nat.zero_le _, Nat.zero_le _, z⟩
end Go.Proofs.YtdlcjobahdmapaaDoor
