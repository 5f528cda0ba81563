import Derived.WalkKit
import Derived.Deep.Draws
import Derived.Laws.Rows
import Derived.Laws.OwnMore
import Derived.Lib.RuneBytes
import Derived.Lib.ValidLaws
import Derived.Test.YtbbjmmooemmeiaaDoorRows
import Derived.Laws.CopyOwn
import Derived.Laws.AppendOwnNone
import Derived.Lib.Hide
import Derived.Laws.AppendOwn
import Derived.OwnWalk
import Derived.Lib.OthersKept
import Derived.Laws.BytesArg
import Derived.Shelf.Utf8.AppendRunePlain
import Derived.Shelf.Unicode.ValidAny
import Derived.Test.YtbbjmmooemmeiaaDoorProg
import Derived.WalkSpells
import Derived.WalkLawsBesides
import Derived.Deep.QuietTactic
import Derived.BigQuiet
import Derived.Laws.Bits64
import Derived.Laws.BitsAllLaws
import Derived.ProofKit
import Derived.OpenShut
import Derived.ShutString
import Derived.SizedLaws
import Derived.ChangeOld
import Derived.Lib.AppendZeros
import Derived.Deep.RegionWith
import Derived.Deep.DeepCutAuto
import Derived.Great.Walk
import Derived.Laws.Tables
import Derived.Laws.NewFold
import Derived.Deep.WholeRow
import Derived.Deep.MidRow
import Derived.Deep.RegionLaw
import Derived.OneCell
import Derived.Deep.Strs
import Derived.OrdersHeld
import Derived.Laws.StructEq
import Derived.ChangeKeysEq
import Derived.Deep.OwnRows
import Derived.Test.YtbbjmmooemmeiaaDoorWAD
import Derived.Test.YtbbjmmooemmeiaaDoorWAE
import Derived.Test.YtbbjmmooemmeiaaDoorWAG
namespace Go.Proofs.YtbbjmmooemmeiaaDoor
set_option linter.all false
open Go.RowKit
section
variable {w w' : World} {B B' : Nat} {A : Option Addr} {n c : Nat} {xs : List Int}
end
theorem le_num (xs : List Int) (h : Bytes xs) : le (num xs) xs.length = xs := by
  induction xs with
  | nil => rfl
  | cons x r ih =>
    have h1 := h x List.mem_cons_self
    have h2 := ih fun y hy => h y (List.mem_cons_of_mem _ hy)
    simp only [num, List.length_cons, le]
    rw [show (x + 256 * num r) % 256 = x from by omega, show (x + 256 * num r) / 256 = num r from by omega, h2]
end Go.Proofs.YtbbjmmooemmeiaaDoor

namespace Go.Proofs.YtbbjmmooemmeiaaDoor
set_option linter.all false
theorem le_numAt (xs : List Int) (hx : Bytes xs) (a s : Nat) (h : a + s ≤ xs.length) : le (numAt xs a s) s = (xs.drop a).take s := by
  have h1 := le_num ((xs.drop a).take s) ((hx.drop a).take s)
  rwa [show ((xs.drop a).take s).length = s from by simp; omega] at h1
end Go.Proofs.YtbbjmmooemmeiaaDoor

namespace Go.Proofs.YtbbjmmooemmeiaaDoor
set_option linter.all false
open Go.Lib
theorem u8_toNat (x : Int) : (x.toNat.toUInt8).toNat = x.toNat % 256 := by simp
set_option maxRecDepth 100000 in
/-- a letter's bytes are decoded to it -/
theorem decode_enc (r : Int) (h : IsLetter r) (t : List UInt8) : decodeL (encodeRune r ++ t) = (r.toNat, (encodeRune r).length) := by
  obtain ⟨h0, h1, h2⟩ := h
  rw [decodeL_N]
  unfold encodeRune
  by_cases c1 : r ≤ 127
  · rw [encodeRuneZ_one h0 c1]
    simp only [List.map_cons, List.map_nil, List.cons_append, List.nil_append, List.length_cons, List.getD_cons_zero, List.length_nil, u8_toNat]
    rw [decodeN_ascii _ _ _ _ _ (by omega)]
    rw [show r.toNat % 256 = r.toNat by omega]
  by_cases c2 : r ≤ 2047
  · rw [encodeRuneZ_two (by omega) c2]
    simp only [List.map_cons, List.map_nil, List.cons_append, List.nil_append, List.length_cons, List.getD_cons_zero, List.getD_cons_succ, List.length_nil, u8_toNat]
    unfold decodeN
    rw [if_neg (by omega), if_pos (by omega), if_pos (by omega)]
    exact Prod.ext (by dsimp only; omega) rfl
  by_cases c3 : r ≤ 65535
  · rw [encodeRuneZ_three (by omega)]
    simp only [List.map_cons, List.map_nil, List.cons_append, List.nil_append, List.length_cons, List.getD_cons_zero, List.getD_cons_succ, List.length_nil, u8_toNat]
    unfold decodeN
    rw [if_neg (by omega), if_neg (by omega), if_pos (by omega), if_pos (by omega)]
    exact Prod.ext (by dsimp only; omega) rfl
  · rw [encodeRuneZ_four (by omega) h1]
    simp only [List.map_cons, List.map_nil, List.cons_append, List.nil_append, List.length_cons, List.getD_cons_zero, List.getD_cons_succ, List.length_nil, u8_toNat]
    unfold decodeN
    rw [if_neg (by omega), if_neg (by omega), if_neg (by omega), if_pos (by omega), if_pos (by omega)]
    exact Prod.ext (by dsimp only; omega) rfl
theorem enc_pos {r : Int} : 1 ≤ (enc r).length := by
  unfold enc
  split
  · simp
  · have := encodeRuneZ_length r
    simpa [encodeRune] using this.1
theorem head_enc (r : Int) (h : IsLetter r) (t : List UInt8) : headOf (enc r ++ t) = r := by
  unfold headOf
  rw [enc_letter h, decode_enc r h t]
  dsimp only
  rw [if_neg ?_]
  · have := h.1; omega
  · rintro ⟨h1, h2⟩
    obtain rfl : r = 65533 := by have := h.1; omega
    revert h2
    decide
theorem letters_cons (r : Int) (h : IsLetter r) (t : List UInt8) : letters (enc r ++ t) = r :: letters t := by
  have hp := enc_pos (r := r)
  have hne : enc r ++ t ≠ [] := by
    intro e
    have := congrArg List.length e
    rw [List.length_append, List.length_nil] at this
    omega
  rw [letters_step _ hne, head_enc r h t]
  have e : (decodeL (enc r ++ t)).2 = (enc r).length := by rw [enc_letter h, decode_enc r h t]
  rw [e, List.drop_left]
theorem letters_append (rs : List Int) (h : ∀ r ∈ rs, IsLetter r) (t : List UInt8) : letters (rs.flatMap enc ++ t) = rs ++ letters t := by
  induction rs with
  | nil => rfl
  | cons r rs ih =>
    rw [List.flatMap_cons, List.append_assoc, letters_cons r (h r List.mem_cons_self), ih fun x hx => h x (List.mem_cons_of_mem _ hx), List.cons_append]
theorem letters_of (rs : List Int) (h : ∀ r ∈ rs, IsLetter r) : letters (rs.flatMap enc) = rs := by
  have := letters_append rs h []
  simpa [letters_nil] using this
theorem isText_of (rs : List Int) (h : ∀ r ∈ rs, IsLetter r) : isText (rs.flatMap enc) = true := by
  unfold isText
  rw [letters_of rs h, List.all_eq_true]
  intro r hr
  have := (h r hr).2.1
  simp only [decide_eq_true_eq]
  omega
end Go.Proofs.YtbbjmmooemmeiaaDoor

namespace Go.Proofs.YtbbjmmooemmeiaaDoor
set_option linter.all false
open Go.RowKit
theorem getK_ind {xs : List Int} (h : Bytes xs) {P : Nat → Prop} (h0 : ∀ k, ¬ k < xs.length → P k) (h1 : ∀ k, k < xs.length → ((letAt xs k).2 ≠ 0 → P (k + (letAt xs k).2)) → P k) : ∀ k, P k := by
  have key : ∀ n k, xs.length ≤ k + n → P k := by
    intro n
    induction n with
    | zero => exact fun k hk => h0 k (by omega)
    | succ n ih =>
      intro k hk
      by_cases hlt : k < xs.length
      · refine h1 k hlt fun hne => ih _ ?_
        rcases letAt_cases h k with e | ⟨e, _⟩ | ⟨e, _⟩
        · rw [e] at hne; exact absurd rfl hne
        · omega
        · omega
      · exact h0 k hlt
  exact fun k => key xs.length k (by omega)
/-- bytes come back of their text -/
theorem getK_back {xs : List Int} (h : Bytes xs) (k : Nat) : ∀ rs, getK xs k = some rs → (∀ r ∈ rs, IsLetter r) ∧ putBytes rs = xs.drop k := by
  induction k using getK_ind h with
  | h0 k hk =>
    intro rs hr
    rw [getK_end hk] at hr
    cases hr
    refine ⟨fun _ h => (by cases h), ?_⟩
    rw [List.drop_of_length_le (by omega)]
    rfl
  | h1 k hk ih =>
    intro rs hr
    rw [getK_step h hk] at hr
    by_cases h0 : (letAt xs k).2 = 0
    · rw [if_pos h0] at hr; cases hr
    · rw [if_neg h0] at hr
      obtain ⟨qs, hq, rfl⟩ := Option.map_eq_some_iff.1 hr
      obtain ⟨i1, i2⟩ := ih h0 qs hq
      rcases letAt_cases h k with e | ⟨e, e1, e2, e3, e4⟩ | ⟨e, e1, e2, e3, e4, e5, e6, e7⟩
      · rw [e] at h0; exact absurd rfl h0
      · refine ⟨fun r hr => ?_, ?_⟩
        · rcases List.mem_cons.1 hr with rfl | hr
          · exact e2
          · exact i1 r hr
        · unfold putBytes at i2 ⊢
          rw [List.flatMap_cons, i2, e, e3, unitBytes, if_pos e4, drop_two e1]
          have b0 := h.getD k
          have b1 := h.getD (k + 1)
          unfold unitAt
          rw [show (xs.getD k 0 + 256 * xs.getD (k + 1) 0) % 256 = xs.getD k 0 by omega, show (xs.getD k 0 + 256 * xs.getD (k + 1) 0) / 256 = xs.getD (k + 1) 0 by omega]
      · refine ⟨fun r hr => ?_, ?_⟩
        · rcases List.mem_cons.1 hr with rfl | hr
          · exact e2
          · exact i1 r hr
        · unfold putBytes at i2 ⊢
          rw [List.flatMap_cons, i2, e, e3, unitBytes, if_neg (by omega), drop_two (show k + 2 ≤ xs.length by omega), drop_two (show k + 2 + 2 ≤ xs.length by omega)]
          have b0 := h.getD k
          have b1 := h.getD (k + 1)
          have b2 := h.getD (k + 2)
          have b3 := h.getD (k + 2 + 1)
          unfold unitAt at *
          generalize xs.getD k 0 = x0 at *
          generalize xs.getD (k + 1) 0 = x1 at *
          generalize xs.getD (k + 2) 0 = x2 at *
          generalize xs.getD (k + 2 + 1) 0 = x3 at *
          have q0 : (55296 + (65536 + (x0 + 256 * x1 - 55296) * 1024 + (x2 + 256 * x3 - 56320) - 65536) / 1024) % 256 = x0 := by omega
          have q1 : (55296 + (65536 + (x0 + 256 * x1 - 55296) * 1024 + (x2 + 256 * x3 - 56320) - 65536) / 1024) / 256 = x1 := by omega
          have q2 : (56320 + (65536 + (x0 + 256 * x1 - 55296) * 1024 + (x2 + 256 * x3 - 56320) - 65536) % 1024) % 256 = x2 := by omega
          have q3 : (56320 + (65536 + (x0 + 256 * x1 - 55296) * 1024 + (x2 + 256 * x3 - 56320) - 65536) % 1024) / 256 = x3 := by omega
          rw [q0, q1, q2, q3]
          rfl
theorem gets_back {xs : List Int} (h : Bytes xs) {rs : List Int} (hr : gets xs = some rs) : (∀ r ∈ rs, IsLetter r) ∧ putBytes rs = xs := by
  have := getK_back h 0 rs hr
  simpa using this
end Go.Proofs.YtbbjmmooemmeiaaDoor

namespace Go.Proofs.YtbbjmmooemmeiaaDoor
set_option linter.all false
open Go.RowKit
set_option linter.unusedVariables false
set_option maxRecDepth 100000
/-- what 'text' takes -/
def prdText (xs : List Int) (r : Rd) : List UInt8 × Rd := if r.e = 0 then (gtextOf xs r.p, ⟨(gtextNext xs r.p).toNat, gtextErr xs r.p⟩) else ([], r)
end Go.Proofs.YtbbjmmooemmeiaaDoor

namespace Go.Proofs.YtbbjmmooemmeiaaDoor
set_option linter.all false
open Go.RowKit
set_option linter.unusedVariables false
set_option maxRecDepth 100000
theorem rdEnd_zero {xs : List Int} {r : Rd} (h : rdEnd xs r = 0) : r.e = 0 := by
  unfold rdEnd at h
  split at h
  · exact absurd h (by decide)
  · exact h
theorem prdText_e {xs : List Int} {r : Rd} (h : (prdText xs r).2.e = 0) : r.e = 0 := by
  unfold prdText at h
  by_cases he : r.e = 0
  · exact he
  · rw [if_neg he] at h; exact h
end Go.Proofs.YtbbjmmooemmeiaaDoor

namespace Go.Proofs.YtbbjmmooemmeiaaDoor
set_option linter.all false
open Go.RowKit
set_option linter.unusedVariables false
set_option maxRecDepth 100000
theorem putOf_getT {xs : List Int} (hx : Bytes xs) (h : getTErr xs = 0) : putOfL (getText xs) = xs ∧ textErr (getText xs) = 0 := by
  unfold getTErr at h
  cases hg : gets xs with
  | none => rw [hg] at h; exact absurd h (by decide)
  | some rs =>
    obtain ⟨h1, h2⟩ := gets_back hx hg
    have ht := isText_of rs h1
    have e : getText xs = rs.flatMap enc := by unfold getText; rw [hg]
    rw [e]
    refine ⟨?_, if_pos ht⟩
    unfold putOfL
    rw [if_pos ht, letters_of rs h1, h2]
theorem ptext_parts {l : List UInt8} (h : ptextErr l = 0) : isText l = true ∧ (putOfL l).length ≤ 512 ∧ ptextOf l = le (putOfL l).length 2 ++ putOfL l := by
  have h0 := h
  unfold ptextErr at h
  by_cases ht : textErr l = 0
  · rw [if_pos ht] at h
    by_cases hm : (putOfL l).length ≤ 512
    · refine ⟨?_, hm, ?_⟩
      · unfold textErr at ht
        by_cases hi : isText l = true
        · exact hi
        · rw [if_neg hi] at ht; exact absurd ht (by decide)
      · unfold ptextOf rowOf
        rw [if_pos h0, if_pos (by omega)]
    · rw [if_neg hm] at h; exact absurd h (by decide)
  · rw [if_neg ht] at h; exact absurd h ht
end Go.Proofs.YtbbjmmooemmeiaaDoor

namespace Go.Proofs.YtbbjmmooemmeiaaDoor
set_option linter.all false
open Go.RowKit
set_option linter.unusedVariables false
set_option maxRecDepth 100000
theorem rdN_taken {xs : List Int} {s : Nat} {r : Rd} (hx : Bytes xs) (h : (rdN xs s r).2.e = 0) : r.e = 0 ∧ (rdN xs s r).2 = ⟨r.p + s, 0⟩ ∧ r.p + s ≤ xs.length ∧ xs.take (r.p + s) = xs.take r.p ++ le (rdN xs s r).1 s := by
  unfold rdN at h ⊢
  by_cases h0 : r.e = 0
  · rw [if_pos h0] at h ⊢
    by_cases h1 : xs.length < r.p + s
    · rw [if_pos h1] at h; exact absurd (show (4 : Int) = 0 from h) (by decide)
    · rw [if_neg h1]
      refine ⟨h0, rfl, by omega, ?_⟩
      rw [List.take_add, ← le_numAt xs hx r.p s (by omega)]
  · rw [if_neg h0] at h; exact absurd h h0
theorem rdPart_taken {xs : List Int} {m : Nat} {r : Rd} (h : (rdPart xs m r).2.e = 0) : r.e = 0 ∧ (rdPart xs m r).2 = ⟨r.p + m, 0⟩ ∧ r.p + m ≤ xs.length ∧ xs.take (r.p + m) = xs.take r.p ++ (rdPart xs m r).1 ∧ (rdPart xs m r).1.length = m := by
  unfold rdPart at h ⊢
  by_cases h0 : r.e = 0
  · rw [if_pos h0] at h ⊢
    by_cases h1 : xs.length < r.p + m
    · rw [if_pos h1] at h; exact absurd (show (4 : Int) = 0 from h) (by decide)
    · rw [if_neg h1]
      exact ⟨h0, rfl, by omega, List.take_add .., by simp; omega⟩
  · rw [if_neg h0] at h; exact absurd h h0
theorem rdZ_taken {xs : List Int} {m : Nat} {r : Rd} (h : (rdZ xs m r).e = 0) : r.e = 0 ∧ rdZ xs m r = ⟨r.p + m, 0⟩ ∧ r.p + m ≤ xs.length ∧ xs.take (r.p + m) = xs.take r.p ++ List.replicate m 0 := by
  unfold rdZ at h ⊢
  by_cases h0 : (rdPart xs m r).2.e = 0
  · rw [if_pos h0] at h ⊢
    obtain ⟨h1, h2, h3, h4, h5⟩ := rdPart_taken h0
    by_cases h6 : zeroOf (rdPart xs m r).1 0 (m : Int) = true
    · rw [if_pos h6]
      refine ⟨h1, h2, h3, ?_⟩
      rw [h4]
      congr 1
      unfold zeroOf partOf at h6
      rw [h5] at h6
      have ep : partErr m 0 (m : Int) = 0 := by unfold partErr; rw [if_neg (by omega), if_neg (by omega)]
      rw [ep, if_pos rfl] at h6
      have h7 : (rdPart xs m r).1.all (· == 0) = true := by
        have e1 : ((rdPart xs m r).1.drop (0 : Int).toNat).take (m : Int).toNat = (rdPart xs m r).1 := by
          rw [show (0 : Int).toNat = 0 from rfl, List.drop_zero, Int.toNat_natCast, List.take_of_length_le (Nat.le_of_eq h5)]
        rw [e1] at h6
        simpa using h6
      refine List.eq_replicate_of_mem (fun x hx => ?_) |>.trans (by rw [h5])
      simpa using List.all_eq_true.1 h7 x hx
    · rw [if_neg h6] at h; exact absurd (show (5 : Int) = 0 from h) (by decide)
  · rw [if_neg h0] at h; exact absurd h h0
theorem prdText_taken {xs : List Int} (hx : Bytes xs) {r : Rd} (h : (prdText xs r).2.e = 0) : r.e = 0 ∧ ptextErr (prdText xs r).1 = 0 ∧ (prdText xs r).2.p ≤ xs.length ∧ xs.take (prdText xs r).2.p = xs.take r.p ++ ptextOf (prdText xs r).1 := by
  have h0 := prdText_e h
  unfold prdText at h ⊢
  rw [if_pos h0] at h ⊢
  have hg : gtextErr xs r.p = 0 := h
  have hg2 := hg
  unfold gtextErr at hg2
  by_cases g0 : growErr xs r.p 512 = 0
  rotate_left
  · rw [if_neg g0] at hg2; exact absurd hg2 g0
  rw [if_pos g0] at hg2
  obtain ⟨q1, q2, q3⟩ := growErr_room g0
  have hn := rowN_bounds xs hx (r.p : Int)
  have hl := growOf_len hx g0
  have hb := growOf_bytes hx (r.p : Int) 512
  obtain ⟨p1, p2⟩ := putOf_getT hb hg2
  have e1 : gtextOf xs r.p = getText (growOf xs r.p 512) := by unfold gtextOf; rw [if_pos hg]
  have e2 : gtextNext xs r.p = r.p + 2 + rowN xs r.p := by unfold gtextNext growNext; rw [if_pos hg, if_pos g0]
  have hpe : ptextErr (gtextOf xs r.p) = 0 := by
    unfold ptextErr
    rw [e1, if_pos p2, p1, if_pos (by omega)]
  refine ⟨h0, hpe, by show (gtextNext xs r.p).toNat ≤ _; omega, ?_⟩
  show xs.take (gtextNext xs r.p).toNat = xs.take r.p ++ ptextOf (gtextOf xs r.p)
  obtain ⟨n, hn'⟩ : ∃ n : Nat, rowN xs r.p = (n : Int) := ⟨(rowN xs r.p).toNat, by omega⟩
  have e3 : (gtextNext xs r.p).toNat = r.p + (2 + n) := by omega
  obtain ⟨_, _, e4⟩ := ptext_parts hpe
  rw [e4, e1, p1, e3]
  have e5 : (growOf xs r.p 512).length = n := by omega
  have e6 : growOf xs r.p 512 = (xs.drop (r.p + 2)).take n := by unfold growOf; rw [if_pos g0, hn', Int.toNat_natCast, Int.toNat_natCast]
  have e7 : le (n : Int) 2 = (xs.drop r.p).take 2 := by
    rw [← hn']
    unfold rowN
    rw [Int.toNat_natCast]
    exact le_numAt xs hx r.p 2 (by omega)
  rw [e5, e7, e6, List.take_add, List.take_add, List.drop_drop]
theorem rdEnd_whole {xs : List Int} {r : Rd} (h : rdEnd xs r = 0) : r.e = 0 ∧ r.p = xs.length := by
  have he := rdEnd_zero h
  refine ⟨he, ?_⟩
  unfold rdEnd at h
  by_cases hp : r.p = xs.length
  · exact hp
  · rw [if_pos ⟨he, hp⟩] at h; exact absurd h (by decide)
end Go.Proofs.YtbbjmmooemmeiaaDoor

namespace Go.Proofs.YtbbjmmooemmeiaaDoor
set_option linter.all false
set_option linter.unusedVariables false
set_option maxRecDepth 100000
theorem rdMost_ok {xs : List Int} {s : Nat} {most er : Int} {r : Rd} (hne : er ≠ 0) (h : (rdMost xs s most er r).2.e = 0) : (rdN xs s r).2.e = 0 ∧ (rdN xs s r).1 ≤ most ∧ rdMost xs s most er r = rdN xs s r := by
  unfold rdMost at h ⊢
  split
  · rename_i h1
    rw [if_pos h1] at h
    exact absurd h hne
  · rename_i h1
    rw [if_neg h1] at h
    refine ⟨h, ?_, rfl⟩
    by_cases h2 : (rdN xs s r).1 ≤ most
    · exact h2
    · exact absurd ⟨h, by omega⟩ h1
/-- a text: the reader that stays at its place, and the one of layer 8, where there is no error -/
theorem rdText_prd {xs : List Int} {r : Rd} (h : (rdText xs r).2.e = 0) : prdText xs r = rdText xs r := by
  unfold rdText at h ⊢
  unfold prdText
  by_cases he : r.e = 0
  · rw [if_pos he] at h ⊢
    rw [if_pos he]
    have h1 : gtextErr xs r.p = 0 := h
    rw [if_pos h1]
  · rw [if_neg he, if_neg he]
end Go.Proofs.YtbbjmmooemmeiaaDoor

namespace Go.Proofs.YtbbjmmooemmeiaaDoor
set_option linter.all false
set_option linter.unusedVariables false
set_option linter.unusedSimpArgs false
set_option maxRecDepth 100000
/-! ### what one reader took -/
theorem n_took {xs : List Int} {s : Nat} {r : Rd} (hx : Bytes xs) (h : (rdN xs s r).2.e = 0) : r.e = 0 ∧ xs.take (rdN xs s r).2.p = xs.take r.p ++ le (rdN xs s r).1 s := by
  obtain ⟨h1, h2, _, h4⟩ := rdN_taken hx h
  refine ⟨h1, ?_⟩
  rw [show (rdN xs s r).2.p = r.p + s from by rw [h2]]
  exact h4
theorem z_took {xs : List Int} {m : Nat} {r : Rd} (h : (rdZ xs m r).e = 0) : r.e = 0 ∧ xs.take (rdZ xs m r).p = xs.take r.p ++ List.replicate m 0 := by
  obtain ⟨h1, h2, _, h4⟩ := rdZ_taken h
  refine ⟨h1, ?_⟩
  rw [show (rdZ xs m r).p = r.p + m from by rw [h2]]
  exact h4
theorem most_took {xs : List Int} {s : Nat} {most er : Int} {r : Rd} (hx : Bytes xs) (hne : er ≠ 0) (h : (rdMost xs s most er r).2.e = 0) : r.e = 0 ∧ (rdMost xs s most er r).1 ≤ most ∧ xs.take (rdMost xs s most er r).2.p = xs.take r.p ++ le (rdMost xs s most er r).1 s := by
  obtain ⟨h1, h2, h3⟩ := rdMost_ok hne h
  rw [h3]
  exact ⟨(n_took hx h1).1, h2, (n_took hx h1).2⟩
theorem text_took {xs : List Int} {r : Rd} (hx : Bytes xs) (h : (rdText xs r).2.e = 0) : r.e = 0 ∧ ptextErr (rdText xs r).1 = 0 ∧ xs.take (rdText xs r).2.p = xs.take r.p ++ ptextOf (rdText xs r).1 := by
  have h1 := rdText_prd h
  rw [← h1] at h ⊢
  obtain ⟨t1, t2, _, t4⟩ := prdText_taken hx h
  exact ⟨t1, t2, t4⟩
end Go.Proofs.YtbbjmmooemmeiaaDoor

namespace Go.Proofs.YtbbjmmooemmeiaaDoor
set_option linter.all false
set_option linter.unusedVariables false
set_option linter.unusedSimpArgs false
set_option maxRecDepth 100000
/-- r' is the reader over the first k bytes where r is that over all of them -/
def Cuts (k : Nat) (r r' : Rd) : Prop := (r' = r ∧ r.p ≤ k ∧ r.e = 0) ∨ r'.e = 4
theorem Cuts.start (k : Nat) : Cuts k rd0 rd0 := .inl ⟨rfl, Nat.zero_le _, rfl⟩
end Go.Proofs.YtbbjmmooemmeiaaDoor

namespace Go.Proofs.YtbbjmmooemmeiaaDoor
set_option linter.all false
set_option linter.unusedVariables false
set_option linter.unusedSimpArgs false
set_option maxRecDepth 100000
theorem truthI_of {v : Int} (h0 : 0 ≤ v) (h1 : v ≤ 1) : truthI (v != 0) = v := by
  rcases (show v = 0 ∨ v = 1 from by omega) with rfl | rfl <;> rfl
end Go.Proofs.YtbbjmmooemmeiaaDoor

namespace Go.Proofs.YtbbjmmooemmeiaaDoor
set_option linter.all false
set_option linter.unusedVariables false
set_option linter.unusedSimpArgs false
set_option maxRecDepth 100000
/-! ### what one reader took -/
theorem truth_took {xs : List Int} {r : Rd} (hx : Bytes xs) (h : (rdT xs r).2.e = 0) : r.e = 0 ∧ xs.take (rdT xs r).2.p = xs.take r.p ++ le (truthI ((rdT xs r).1 != 0)) 2 := by
  obtain ⟨m1, m2, m3⟩ := most_took hx (by decide) (show (rdMost xs 2 1 5 r).2.e = 0 from h)
  obtain ⟨q1, q2⟩ := rdT_lt hx r
  refine ⟨m1, ?_⟩
  rw [truthI_of q1 q2]
  exact m3
/-- what is got is put as the same bytes -/
theorem ig_once (c : Int) {xs : List Int} (hx : Bytes xs) (h : igErr c xs = 0) : ipErr c (igOf c xs) = 0 ∧ ipOf c (igOf c xs) = xs ∧ (igOf c xs).ok := by
  have e0 : igOf c xs = (igP c xs).1 := by unfold igOf; rw [if_pos h]
  unfold igErr at h
  by_cases hk : knownI c = true
  rotate_left
  · rw [if_neg hk] at h; exact absurd h (by decide)
  rw [if_pos hk] at h
  obtain ⟨h1, h2⟩ := rdEnd_whole h
  rw [e0]
  have key : ∀ a : AskV, wantI c a = a → (c = 17 → 1 ≤ a.cls ∧ a.cls ≤ 3) → (c = 14 → ptextErr a.pat.data.toList = 0 ∧ ptextErr a.aft.data.toList = 0) → (c = 17 → a.cls = 3 → ptextErr a.name.data.toList = 0) → a.ok → bodyI c a = xs → ipErr c a = 0 ∧ ipOf c a = xs ∧ a.ok := by
    intro a w1 w2 w3 w4 w6 w7
    have hn : nameI c a = true := by
      unfold nameI classI
      rw [hk, (besideI_want c a).2 w1]
      by_cases h17 : c = 17
      · obtain ⟨q1, q2⟩ := w2 h17
        simp [q1, q2]
      · simp [h17]
    have e : ipErr c a = 0 := by
      unfold ipErr
      rw [if_pos hn]
      split
      · rename_i h14
        rw [if_pos (w3 h14).1]
        exact (w3 h14).2
      · split
        · rename_i h17
          exact w4 h17.1 h17.2
        · rfl
    exact ⟨e, by unfold ipOf; rw [if_pos e]; exact w7, w6⟩
  have zd := zeroAsk_ok
  unfold igP at h1 h2 ⊢
  rcases knownI_cases hk with k | k | k | k | k
  · subst k
    simp only [show ¬ ((12 : Int) = 14) by decide, show ¬ ((12 : Int) = 16) by decide, show ¬ ((12 : Int) = 17) by decide, show ¬ ((12 : Int) = 18) by decide, if_false] at h1 h2 ⊢
    obtain ⟨u1, v1⟩ := z_took h1
    exact key _ rfl (fun h => absurd h (by decide)) (fun h => absurd h (by decide)) (fun h => absurd h (by decide)) zd (whole (r := rdZ xs 4 rd0) v1 h2)
  · subst k
    simp only [if_true] at h1 h2 ⊢
    obtain ⟨u5, w5, v5⟩ := text_took hx h1
    obtain ⟨u4, w4, v4⟩ := text_took hx u5
    obtain ⟨u3, v3⟩ := z_took u4
    obtain ⟨u2, v2⟩ := n_took hx u3
    obtain ⟨u1, v1⟩ := n_took hx u2
    refine key _ rfl (fun h => absurd h (by decide)) (fun _ => ⟨w4, w5⟩) (fun h => absurd h (by decide)) ⟨zd.dial, zd.glen, zd.gbyte, zd.plen, zd.pbyte, zd.acc, zd.shr, zd.way, zd.opt, zd.lev, zd.dur, b8 hx _, zd.at_, zd.n, zd.data, zd.locks, b2' hx _, zd.cls, zd.siz⟩ ?_
    refine whole (r := (l5 xs).2) ?_ h2
    show xs.take (rdText xs (l4 xs).2).2.p = le (l1 xs).1 8 ++ (le (l2 xs).1 2 ++ (List.replicate 2 0 ++ (ptextOf (rdText xs (l3 xs)).1 ++ ptextOf (rdText xs (l4 xs).2).1)))
    rw [v5]
    show xs.take (rdText xs (l3 xs)).2.p ++ _ = _
    rw [v4]
    show xs.take (rdZ xs 2 (l2 xs).2).p ++ _ ++ _ = _
    rw [v3]
    show xs.take (rdN xs 2 (l1 xs).2).2.p ++ _ ++ _ ++ _ = _
    rw [v2]
    show xs.take (rdN xs 8 rd0).2.p ++ _ ++ _ ++ _ ++ _ = _
    rw [v1, show xs.take rd0.p = [] from rfl, List.nil_append]
    simp only [List.append_assoc]
    rfl
  · subst k
    simp only [show ¬ ((16 : Int) = 14) by decide, if_true, if_false] at h1 h2 ⊢
    obtain ⟨u1, v1⟩ := n_took hx h1
    refine key _ rfl (fun h => absurd h (by decide)) (fun h => absurd h (by decide)) (fun h => absurd h (by decide)) ⟨zd.dial, zd.glen, zd.gbyte, zd.plen, zd.pbyte, zd.acc, zd.shr, zd.way, zd.opt, zd.lev, zd.dur, b8 hx _, zd.at_, zd.n, zd.data, zd.locks, zd.most, zd.cls, zd.siz⟩ ?_
    exact whole (r := (l1 xs).2) v1 h2
  · subst k
    simp only [show ¬ ((17 : Int) = 14) by decide, show ¬ ((17 : Int) = 16) by decide, if_true, if_false] at h1 h2 ⊢
    have start : (l2 xs).2.e = 0 → xs.take (l2 xs).2.p = le (l1 xs).1 8 ++ le (l2 xs).1 2 := by
      intro u
      obtain ⟨u2, v2⟩ := n_took hx u
      obtain ⟨u1, v1⟩ := n_took hx u2
      show xs.take (rdN xs 2 (l1 xs).2).2.p = _
      rw [v2]
      show xs.take (rdN xs 8 rd0).2.p ++ _ = _
      rw [v1, show xs.take rd0.p = [] from rfl, List.nil_append]
      rfl
    by_cases c1 : (l2 xs).1 = 1
    · simp only [if_pos c1] at h1 h2 ⊢
      obtain ⟨u3, v3⟩ := n_took hx h1
      have v2 := start u3
      refine key _ ?_ (fun _ => ?_) (fun h => absurd h (by decide)) (fun _ h3 => ?_) ⟨zd.dial, zd.glen, zd.gbyte, zd.plen, zd.pbyte, zd.acc, zd.shr, zd.way, zd.opt, zd.lev, zd.dur, b8 hx _, zd.at_, zd.n, zd.data, zd.locks, zd.most, b2' hx _, b8 hx _⟩ ?_
      · unfold wantI
        rw [if_neg (by decide), if_neg (by decide), if_pos rfl]
        show (if (l2 xs).1 = 1 then _ else _) = _
        rw [if_pos c1]
      · show 1 ≤ (l2 xs).1 ∧ (l2 xs).1 ≤ 3
        omega
      · have h4 : (l2 xs).1 = 3 := h3
        omega
      · refine whole (r := (t3 xs).2) ?_ h2
        show xs.take (rdN xs 8 (l2 xs).2).2.p = if (l2 xs).1 = 1 then le (l1 xs).1 8 ++ (le (l2 xs).1 2 ++ le (rdN xs 8 (l2 xs).2).1 8) else _
        rw [if_pos c1, v3, v2]
        simp only [List.append_assoc]
    · by_cases c2 : (l2 xs).1 = 2
      · simp only [if_neg c1, if_pos c2] at h1 h2 ⊢
        obtain ⟨u3, v3⟩ := truth_took hx h1
        have v2 := start u3
        refine key _ ?_ (fun _ => ?_) (fun h => absurd h (by decide)) (fun _ h3 => ?_) ⟨zd.dial, zd.glen, zd.gbyte, zd.plen, zd.pbyte, zd.acc, zd.shr, zd.way, zd.opt, zd.lev, zd.dur, b8 hx _, zd.at_, zd.n, zd.data, zd.locks, zd.most, b2' hx _, zd.siz⟩ ?_
        · unfold wantI
          rw [if_neg (by decide), if_neg (by decide), if_pos rfl]
          show (if (l2 xs).1 = 1 then _ else if (l2 xs).1 = 2 then _ else _) = _
          rw [if_neg c1, if_pos c2]
        · show 1 ≤ (l2 xs).1 ∧ (l2 xs).1 ≤ 3
          omega
        · have h4 : (l2 xs).1 = 3 := h3
          omega
        · refine whole (r := (t4 xs).2) ?_ h2
          show xs.take (rdT xs (l2 xs).2).2.p = if (l2 xs).1 = 1 then _ else if (l2 xs).1 = 2 then le (l1 xs).1 8 ++ (le (l2 xs).1 2 ++ le (truthI ((rdT xs (l2 xs).2).1 != 0)) 2) else _
          rw [if_neg c1, if_pos c2, v3, v2]
          simp only [List.append_assoc]
      · by_cases c3 : (l2 xs).1 = 3
        · simp only [if_neg c1, if_neg c2, if_pos c3] at h1 h2 ⊢
          obtain ⟨u4, w4, v4⟩ := text_took hx h1
          obtain ⟨u3, v3⟩ := truth_took hx u4
          have v2 := start u3
          refine key _ ?_ (fun _ => ?_) (fun h => absurd h (by decide)) (fun _ h3 => ?_) ⟨zd.dial, zd.glen, zd.gbyte, zd.plen, zd.pbyte, zd.acc, zd.shr, zd.way, zd.opt, zd.lev, zd.dur, b8 hx _, zd.at_, zd.n, zd.data, zd.locks, zd.most, b2' hx _, zd.siz⟩ ?_
          · unfold wantI
            rw [if_neg (by decide), if_neg (by decide), if_pos rfl]
            show (if (l2 xs).1 = 1 then _ else if (l2 xs).1 = 2 then _ else _) = _
            rw [if_neg c1, if_neg c2]
          · show 1 ≤ (l2 xs).1 ∧ (l2 xs).1 ≤ 3
            omega
          · exact w4
          · refine whole (r := (t5 xs).2) ?_ h2
            show xs.take (rdText xs (t4 xs).2).2.p = if (l2 xs).1 = 1 then _ else if (l2 xs).1 = 2 then _ else le (l1 xs).1 8 ++ (le (l2 xs).1 2 ++ (le (truthI ((rdT xs (l2 xs).2).1 != 0)) 2 ++ ptextOf (rdText xs (t4 xs).2).1))
            rw [if_neg c1, if_neg c2, v4]
            show xs.take (rdT xs (l2 xs).2).2.p ++ _ = _
            rw [v3, v2]
            simp only [List.append_assoc]
        · simp only [if_neg c1, if_neg c2, if_neg c3] at h1 h2 ⊢
          unfold rdFail at h1
          split at h1
          · exact absurd h1 (show ¬ (5 : Int) = 0 by decide)
          · rename_i hne
            exact absurd h1 hne
  · subst k
    simp only [show ¬ ((18 : Int) = 14) by decide, show ¬ ((18 : Int) = 16) by decide, show ¬ ((18 : Int) = 17) by decide, if_true, if_false] at h1 h2 ⊢
    obtain ⟨u3, v3⟩ := z_took h1
    obtain ⟨u2, v2⟩ := n_took hx u3
    obtain ⟨u1, v1⟩ := n_took hx u2
    refine key _ rfl (fun h => absurd h (by decide)) (fun h => absurd h (by decide)) (fun h => absurd h (by decide)) ⟨zd.dial, zd.glen, zd.gbyte, zd.plen, zd.pbyte, zd.acc, zd.shr, zd.way, zd.opt, b1' hx _, zd.dur, b8 hx _, zd.at_, zd.n, zd.data, zd.locks, zd.most, zd.cls, zd.siz⟩ ?_
    refine whole (r := k3 xs) ?_ h2
    show xs.take (rdZ xs 3 (k2 xs).2).p = le (l1 xs).1 8 ++ (le (k2 xs).1 1 ++ List.replicate 3 0)
    rw [v3]
    show xs.take (rdN xs 1 (l1 xs).2).2.p ++ _ = _
    rw [v2]
    show xs.take (rdN xs 8 rd0).2.p ++ _ ++ _ = _
    rw [v1, show xs.take rd0.p = [] from rfl, List.nil_append]
    simp only [List.append_assoc]
    rfl
theorem igOf_ok (c : Int) {xs : List Int} (hx : Bytes xs) : (igOf c xs).ok := by
  by_cases h : igErr c xs = 0
  · exact (ig_once c hx h).2.2
  · unfold igOf
    rw [if_neg h]
    exact zeroAsk_ok
end Go.Proofs.YtbbjmmooemmeiaaDoor
