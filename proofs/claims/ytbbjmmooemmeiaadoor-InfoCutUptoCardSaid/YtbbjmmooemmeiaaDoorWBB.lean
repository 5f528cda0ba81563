import Derived.WalkKit
import Derived.Deep.Draws
import Derived.Laws.Rows
import Derived.Laws.OwnMore
import Derived.Lib.RuneBytes
import Derived.Lib.ValidLaws
import Derived.Test.YtbbjmmooemmeiaaDoorRows
import Derived.Laws.CopyOwn
import Derived.Laws.AppendOwnNone
import Derived.Lib.Hide
import Derived.Laws.AppendOwn
import Derived.OwnWalk
import Derived.Lib.OthersKept
import Derived.Laws.BytesArg
import Derived.Shelf.Utf8.AppendRunePlain
import Derived.Shelf.Unicode.ValidAny
import Derived.Test.YtbbjmmooemmeiaaDoorProg
import Derived.WalkSpells
import Derived.WalkLawsBesides
import Derived.Deep.QuietTactic
import Derived.BigQuiet
import Derived.Laws.Bits64
import Derived.Laws.BitsAllLaws
import Derived.ProofKit
import Derived.OpenShut
import Derived.ShutString
import Derived.SizedLaws
import Derived.ChangeOld
import Derived.Lib.AppendZeros
import Derived.Deep.RegionWith
import Derived.Deep.DeepCutAuto
import Derived.Great.Walk
import Derived.Laws.Tables
import Derived.Laws.NewFold
import Derived.Deep.WholeRow
import Derived.Deep.MidRow
import Derived.Deep.RegionLaw
import Derived.OneCell
import Derived.Deep.Strs
import Derived.OrdersHeld
import Derived.Laws.StructEq
import Derived.ChangeKeysEq
import Derived.Deep.OwnRows
import Derived.ArgAppend
import Derived.Test.YtbbjmmooemmeiaaDoorWAD
import Derived.Test.YtbbjmmooemmeiaaDoorWAE
import Derived.Test.YtbbjmmooemmeiaaDoorWAG
import Derived.Test.YtbbjmmooemmeiaaDoorWAH
import Derived.Test.YtbbjmmooemmeiaaDoorWAI
import Derived.Test.YtbbjmmooemmeiaaDoorWAK
import Derived.Test.YtbbjmmooemmeiaaDoorWAL
import Derived.Test.YtbbjmmooemmeiaaDoorWAQ
import Derived.Test.YtbbjmmooemmeiaaDoorWAS
import Derived.Test.YtbbjmmooemmeiaaDoorWAV
import Derived.Test.YtbbjmmooemmeiaaDoorWAW
namespace Go.Proofs.YtbbjmmooemmeiaaDoor
set_option linter.all false
open Go.RowKit
set_option linter.unusedVariables false
set_option maxRecDepth 100000
theorem rdPart_place {xs : List Int} {m n : Nat} {r : Rd} (hl : xs.length = n) (h : r.p ≤ n) : (rdPart xs m r).2.p ≤ n := by
  unfold rdPart
  split
  · split
    · exact h
    · show r.p + m ≤ n; omega
  · exact h
end Go.Proofs.YtbbjmmooemmeiaaDoor

namespace Go.Proofs.YtbbjmmooemmeiaaDoor
set_option linter.all false
open Go.RowKit
set_option linter.unusedVariables false
set_option maxRecDepth 100000
theorem rdN_place {xs : List Int} {s n : Nat} {r : Rd} (hl : xs.length = n) (h : r.p ≤ n) : (rdN xs s r).2.p ≤ n := by
  unfold rdN
  split
  · split
    · exact h
    · show r.p + s ≤ n; omega
  · exact h
end Go.Proofs.YtbbjmmooemmeiaaDoor

namespace Go.Proofs.YtbbjmmooemmeiaaDoor
set_option linter.all false
open Go.RowKit
set_option linter.unusedVariables false
set_option maxRecDepth 100000
theorem rdZ_place {xs : List Int} {m n : Nat} {r : Rd} (hl : xs.length = n) (h : r.p ≤ n) : (rdZ xs m r).p ≤ n := by
  have := rdPart_place (m := m) hl h
  unfold rdZ
  split
  · split
    · exact this
    · exact this
  · exact this
end Go.Proofs.YtbbjmmooemmeiaaDoor

namespace Go.Proofs.YtbbjmmooemmeiaaDoor
set_option linter.all false
open Go.RowKit
set_option linter.unusedVariables false
set_option maxRecDepth 100000
theorem rdPart_fits {xs : List Int} {m : Nat} {r : Rd} (h0 : r.e = 0) (h : ¬ xs.length < r.p + m) : (rdPart xs m r).2 = ⟨r.p + m, 0⟩ := by unfold rdPart; rw [if_pos h0, if_neg h]
theorem numAt_take (b : List Int) (k p s : Nat) (h : p + s ≤ k) : numAt (b.take k) p s = numAt b p s := by
  unfold numAt
  rw [List.drop_take, List.take_take, Nat.min_eq_left (by omega)]
theorem text_cut (pre : List Int) {l : List UInt8} (h : ptextErr l = 0) (k : Nat) (h1 : pre.length ≤ k) (h2 : k < pre.length + (ptextOf l).length) : (prdText ((pre ++ ptextOf l).take k) ⟨pre.length, 0⟩).2.e = 4 := by
  obtain ⟨t1, t2, t3⟩ := ptext_parts h
  have hl : (ptextOf l).length = 2 + (putOfL l).length := by rw [t3, List.length_append, le_length]
  have hk : ((pre ++ ptextOf l).take k).length = k := by rw [List.length_take, List.length_append]; omega
  have hg : growErr ((pre ++ ptextOf l).take k) pre.length 512 = 4 := by
    unfold growErr
    rw [hk, if_neg (by omega)]
    by_cases h3 : (k : Int) - (pre.length : Nat) < 2
    · rw [if_pos h3]
    · have hr : rowN ((pre ++ ptextOf l).take k) (pre.length : Int) = (putOfL l).length := by
        unfold rowN
        rw [Int.toNat_natCast, numAt_take _ _ _ _ (by omega), t3]
        exact numAt_at pre (putOfL l) (putOfL l).length 2 (by omega) (by rw [show (256 : Int) ^ 2 = 65536 from by decide]; omega)
      rw [if_neg h3, hr, if_neg (by omega), if_pos (by omega)]
  unfold prdText
  rw [if_pos rfl]
  show gtextErr _ _ = 4
  unfold gtextErr
  rw [if_neg (by rw [hg]; decide)]
  exact hg
end Go.Proofs.YtbbjmmooemmeiaaDoor

namespace Go.Proofs.YtbbjmmooemmeiaaDoor
set_option linter.all false
open Go.RowKit
set_option linter.unusedVariables false
set_option maxRecDepth 100000
theorem rdText_place {xs : List Int} {n : Nat} {r : Rd} (hx : Bytes xs) (hl : xs.length = n) (h : r.p ≤ n) : (rdText xs r).2.p ≤ n := by
  unfold rdText
  split
  · have := gtextNext_nonneg hx (r.p : Int) (by omega)
    show (if gtextErr xs r.p = 0 then (gtextNext xs r.p).toNat else r.p) ≤ n
    split
    · omega
    · exact h
  · exact h
theorem rdMost_place {xs : List Int} {s n : Nat} {most er : Int} {r : Rd} (hl : xs.length = n) (h : r.p ≤ n) : (rdMost xs s most er r).2.p ≤ n := by
  have := rdN_place (s := s) hl h
  unfold rdMost
  split
  · exact this
  · exact this
end Go.Proofs.YtbbjmmooemmeiaaDoor

namespace Go.Proofs.YtbbjmmooemmeiaaDoor
set_option linter.all false
set_option linter.unusedVariables false
set_option maxRecDepth 100000
def shut (ls : List LockV) : Bool := ls.all (fun l => l.op == 0)
def s4 (xs : List Int) := rdN xs 8 (s3 xs).2
/-! ### the two loops over locks -/
theorem rdN_stick {xs : List Int} {s : Nat} {r : Rd} (h : ¬ r.e = 0) : (rdN xs s r).2 = r := by unfold rdN; rw [if_neg h]
theorem rdText_stick {xs : List Int} {r : Rd} (h : ¬ r.e = 0) : (rdText xs r).2 = r := by unfold rdText; rw [if_neg h]
end Go.Proofs.YtbbjmmooemmeiaaDoor

namespace Go.Proofs.YtbbjmmooemmeiaaDoor
set_option linter.all false
set_option linter.unusedVariables false
set_option linter.unusedSimpArgs false
set_option maxRecDepth 100000
theorem four_ne {r : Rd} (h : r.e = 4) : ¬ r.e = 0 := by rw [h]; decide
theorem n_cuts {b : List Int} {k s : Nat} {r r' : Rd} (hk : k ≤ b.length) (h : (rdN b s r).2.e = 0) (hr : Cuts k r r') : Cuts k (rdN b s r).2 (rdN (b.take k) s r').2 ∧ ((rdN (b.take k) s r').2.e = 0 → (rdN (b.take k) s r').1 = (rdN b s r).1) := by
  have hl : (b.take k).length = k := by rw [List.length_take]; omega
  rcases hr with ⟨rfl, h1, h2⟩ | h4
  · by_cases h3 : b.length < r'.p + s
    · rw [rdN_short h2 h3] at h
      exact absurd h (show ¬ (4 : Int) = 0 by decide)
    · rw [rdN_fits h2 h3]
      by_cases h5 : k < r'.p + s
      · rw [rdN_short h2 (by rw [hl]; exact h5)]
        exact ⟨.inr rfl, fun h => absurd h (show ¬ (4 : Int) = 0 by decide)⟩
      · rw [rdN_fits h2 (by rw [hl]; exact h5), numAt_take _ _ _ _ (by omega)]
        exact ⟨.inl ⟨rfl, by show r'.p + s ≤ k; omega, rfl⟩, fun _ => rfl⟩
  · have := rdN_stick (xs := b.take k) (s := s) (four_ne h4)
    rw [this]
    exact ⟨.inr h4, fun h => absurd h (four_ne h4)⟩
theorem p_cuts {b : List Int} {k m : Nat} {r r' : Rd} (hk : k ≤ b.length) (h : (rdPart b m r).2.e = 0) (hr : Cuts k r r') : Cuts k (rdPart b m r).2 (rdPart (b.take k) m r').2 ∧ ((rdPart (b.take k) m r').2.e = 0 → (rdPart (b.take k) m r').1 = (rdPart b m r).1) := by
  have hl : (b.take k).length = k := by rw [List.length_take]; omega
  rcases hr with ⟨rfl, h1, h2⟩ | h4
  · by_cases h3 : b.length < r'.p + m
    · rw [rdPart_short h2 h3] at h
      exact absurd h (show ¬ (4 : Int) = 0 by decide)
    · rw [rdPart_fits h2 h3]
      by_cases h5 : k < r'.p + m
      · rw [rdPart_short h2 (by rw [hl]; exact h5)]
        exact ⟨.inr rfl, fun h => absurd h (show ¬ (4 : Int) = 0 by decide)⟩
      · rw [rdPart_fits h2 (by rw [hl]; exact h5)]
        refine ⟨.inl ⟨rfl, by show r'.p + m ≤ k; omega, rfl⟩, fun _ => ?_⟩
        unfold rdPart
        rw [if_pos h2, if_pos h2, if_neg (by rw [hl]; exact h5), if_neg h3]
        show ((b.take k).drop r'.p).take m = (b.drop r'.p).take m
        rw [List.drop_take, List.take_take, Nat.min_eq_left (by omega)]
  · have := rdPart_stick (xs := b.take k) (m := m) (four_ne h4)
    rw [this]
    exact ⟨.inr h4, fun h => absurd h (four_ne h4)⟩
theorem z_cuts {b : List Int} {k m : Nat} {r r' : Rd} (hk : k ≤ b.length) (h : (rdZ b m r).e = 0) (hr : Cuts k r r') : Cuts k (rdZ b m r) (rdZ (b.take k) m r') := by
  have hp : (rdPart b m r).2.e = 0 := by
    unfold rdZ at h
    by_cases h1 : (rdPart b m r).2.e = 0
    · exact h1
    · rw [if_neg h1] at h; exact absurd h h1
  have hz : zeroOf (rdPart b m r).1 0 (m : Int) = true := by
    unfold rdZ at h
    rw [if_pos hp] at h
    by_cases h1 : zeroOf (rdPart b m r).1 0 (m : Int) = true
    · exact h1
    · rw [if_neg h1] at h; exact absurd h (show ¬ (5 : Int) = 0 by decide)
  obtain ⟨c1, c2⟩ := p_cuts hk hp hr
  have e1 : rdZ b m r = (rdPart b m r).2 := by unfold rdZ; rw [if_pos hp, if_pos hz]
  rw [e1]
  by_cases h4 : (rdPart (b.take k) m r').2.e = 0
  · have e2 : rdZ (b.take k) m r' = (rdPart (b.take k) m r').2 := by unfold rdZ; rw [if_pos h4, c2 h4, if_pos hz]
    rw [e2]; exact c1
  · have e2 : rdZ (b.take k) m r' = (rdPart (b.take k) m r').2 := by unfold rdZ; rw [if_neg h4]
    rw [e2]; exact c1
theorem most_cuts {b : List Int} {k s : Nat} {most er : Int} {r r' : Rd} (hk : k ≤ b.length) (hne : er ≠ 0) (h : (rdMost b s most er r).2.e = 0) (hr : Cuts k r r') : Cuts k (rdMost b s most er r).2 (rdMost (b.take k) s most er r').2 ∧ ((rdMost (b.take k) s most er r').2.e = 0 → (rdMost (b.take k) s most er r').1 = (rdMost b s most er r).1) := by
  obtain ⟨h1, h2, h3⟩ := rdMost_ok hne h
  rw [h3]
  obtain ⟨c1, c2⟩ := n_cuts hk h1 hr
  have e : rdMost (b.take k) s most er r' = rdN (b.take k) s r' := by
    unfold rdMost
    rw [if_neg]
    rintro ⟨q1, q2⟩
    rw [c2 q1] at q2
    omega
  rw [e]
  exact ⟨c1, c2⟩
/-- a text that ends the body -/
theorem text_cuts {b : List Int} {k : Nat} {r r' : Rd} (hx : Bytes b) (hk : k < b.length) (h : (rdText b r).2.e = 0) (hw : (rdText b r).2.p = b.length) (hp : r.p ≤ b.length) (hr : Cuts k r r') : (rdText (b.take k) r').2.e = 4 := by
  rcases hr with ⟨rfl, h1, h2⟩ | h4
  · obtain ⟨t1, t2, t3⟩ := text_took hx h
    rw [hw, List.take_of_length_le (Nat.le_refl _)] at t3
    have hl : (b.take r'.p).length = r'.p := by rw [List.length_take]; omega
    have hk2 : k < (b.take r'.p).length + (ptextOf (rdText b r').1).length := by
      rw [← List.length_append, ← t3]; exact hk
    have key := text_cut (b.take r'.p) t2 k (by rw [hl]; exact h1) hk2
    rw [← t3, hl] at key
    have er : r' = ⟨r'.p, 0⟩ := by cases r'; simp only at h2; subst h2; rfl
    rw [er]
    unfold prdText at key
    unfold rdText
    rw [if_pos rfl] at key ⊢
    exact key
  · rw [rdText_stick (four_ne h4)]
    exact h4
theorem last_cuts {k n : Nat} {r r' : Rd} (h : Cuts k r r') (hw : r.p = n) (hk : k < n) : r'.e = 4 := by
  rcases h with ⟨_, h1, _⟩ | h
  · omega
  · exact h
end Go.Proofs.YtbbjmmooemmeiaaDoor

namespace Go.Proofs.YtbbjmmooemmeiaaDoor
set_option linter.all false
set_option linter.unusedVariables false
set_option linter.unusedSimpArgs false
set_option maxRecDepth 100000
theorem ig_more (c : Int) (a : AskV) (ka : a.ok) (he : ipErr c a = 0) (more : List Int) (hm : more ≠ []) : igErr c (ipOf c a ++ more) = 5 := by
  have h := ig_at c a ka he more
  unfold igErr
  rw [if_pos (ip_parts he).1, h]
  have hne : (ipOf c a).length ≠ (ipOf c a ++ more).length := by
    rw [List.length_append]
    have : more.length ≠ 0 := fun h0 => hm (List.eq_nil_of_length_eq_zero h0)
    omega
  unfold rdEnd
  rw [if_pos ⟨rfl, hne⟩]
end Go.Proofs.YtbbjmmooemmeiaaDoor

namespace Go.Proofs.YtbbjmmooemmeiaaDoor
set_option linter.all false
set_option linter.unusedVariables false
set_option linter.unusedSimpArgs false
set_option maxRecDepth 100000
/-- a text with something behind it -/
theorem text_cuts_mid {b : List Int} {k : Nat} {r r' : Rd} (hx : Bytes b) (hk : k ≤ b.length) (h : (rdText b r).2.e = 0) (hp : r.p ≤ b.length) (hr : Cuts k r r') : Cuts k (rdText b r).2 (rdText (b.take k) r').2 := by
  rcases hr with ⟨rfl, h1, h2⟩ | h4
  · obtain ⟨t1, t2, t3⟩ := text_took hx h
    have hpl : (rdText b r').2.p ≤ b.length := rdText_place hx rfl hp
    have hl : (b.take r'.p).length = r'.p := by rw [List.length_take]; omega
    have er : r' = ⟨r'.p, 0⟩ := by cases r'; simp only at h2; subst h2; rfl
    have hq : (rdText b r').2.p = r'.p + (ptextOf (rdText b r').1).length := by
      have := congrArg List.length t3
      rw [List.length_append, hl, List.length_take] at this
      omega
    by_cases h5 : (rdText b r').2.p ≤ k
    · have e1 : b.take k = b.take r'.p ++ (ptextOf (rdText b r').1 ++ (b.take k).drop (rdText b r').2.p) := by
        rw [← List.append_assoc, ← t3]
        have h6 := List.take_append_drop (rdText b r').2.p (b.take k)
        rw [List.take_take, Nat.min_eq_left h5] at h6
        exact h6.symm
      have e2 := rdText_at' e1 hl t2
      rw [← er] at e2
      rw [e2]
      refine .inl ⟨?_, h5, h⟩
      have e3 : (rdText b r').2 = ⟨(rdText b r').2.p, (rdText b r').2.e⟩ := rfl
      rw [e3, h, hq]
    · refine .inr ?_
      have hk2 : k < (b.take r'.p).length + (ptextOf (rdText b r').1).length := by omega
      have key := text_cut (b.take r'.p) t2 k (by rw [hl]; exact h1) hk2
      rw [← t3, hl, List.take_take, Nat.min_eq_left (by omega)] at key
      rw [er]
      unfold prdText at key
      unfold rdText
      rw [if_pos rfl] at key ⊢
      exact key
  · rw [rdText_stick (four_ne h4)]
    exact .inr h4
theorem ig_cut (c : Int) (a : AskV) (ka : a.ok) (he : ipErr c a = 0) (k : Nat) (hk : k < (ipOf c a).length) : igErr c ((ipOf c a).take k) = 4 := by
  have hx := ip_bytes (c := c) ka
  have hat := ig_at c a ka he []
  rw [List.append_nil] at hat
  obtain ⟨hkn, _, hcl, _⟩ := ip_parts he
  obtain ⟨b, hb⟩ : ∃ b, b = ipOf c a := ⟨_, rfl⟩
  rw [← hb] at hx hat hk ⊢
  have h1 : (igP c b).2.e = 0 := by rw [hat]
  have h2 : (igP c b).2.p = b.length := by rw [hat]
  clear hat hb he
  have hkl : k ≤ b.length := by omega
  have key : (igP c (b.take k)).2.e = 4 := by
    unfold igP at h1 h2 ⊢
    rcases knownI_cases hkn with q | q | q | q | q
    · subst q
      simp only [show ¬ ((12 : Int) = 14) by decide, show ¬ ((12 : Int) = 16) by decide, show ¬ ((12 : Int) = 17) by decide, show ¬ ((12 : Int) = 18) by decide, if_false] at h1 h2 ⊢
      exact last_cuts (z_cuts hkl h1 (Cuts.start k)) h2 hk
    · subst q
      simp only [if_true] at h1 h2 ⊢
      have u4 := (text_took hx h1).1
      have u3 := (text_took hx u4).1
      have u2 := (z_took u3).1
      have u1 := (n_took hx u2).1
      have s1 := (n_cuts hkl u1 (Cuts.start k)).1
      have s2 := (n_cuts hkl u2 s1).1
      have s3 := z_cuts hkl u3 s2
      have p3 : (l3 b).p ≤ b.length := rdZ_place rfl (rdN_place rfl (rdN_place rfl (Nat.zero_le _)))
      have s4 := text_cuts_mid hx hkl u4 p3 s3
      exact text_cuts hx hk h1 h2 (rdText_place hx rfl p3) s4
    · subst q
      simp only [show ¬ ((16 : Int) = 14) by decide, if_true, if_false] at h1 h2 ⊢
      exact last_cuts (n_cuts hkl h1 (Cuts.start k)).1 h2 hk
    · subst q
      simp only [show ¬ ((17 : Int) = 14) by decide, show ¬ ((17 : Int) = 16) by decide, if_true, if_false] at h1 h2 ⊢
      have start : (l2 b).2.e = 0 → Cuts k (l2 b).2 (l2 (b.take k)).2 ∧ ((l2 (b.take k)).2.e = 0 → (l2 (b.take k)).1 = (l2 b).1) := fun u => n_cuts hkl u (n_cuts hkl (n_took hx u).1 (Cuts.start k)).1
      -- of a body that is cut ahead of its class the class is 0, and the error is there
      have bad : Cuts k (l2 b).2 (l2 (b.take k)).2 → ¬ (l2 (b.take k)).2.e = 0 → (l2 (b.take k)).2.e = 4 := by
        intro hc hn
        rcases hc with ⟨e, _, e0⟩ | h
        · rw [e] at hn; exact absurd e0 hn
        · exact h
      have cls0 : ¬ (l2 (b.take k)).2.e = 0 → (l2 (b.take k)).1 = 0 := by
        intro hn
        unfold l2 rdN at hn ⊢
        split
        · rename_i q1
          rw [if_pos q1] at hn
          split
          · rfl
          · rename_i q2
            rw [if_neg q2] at hn
            exact absurd rfl hn
        · rfl
      have short : Cuts k (l2 b).2 (l2 (b.take k)).2 → ¬ (l2 (b.take k)).2.e = 0 → (if (l2 (b.take k)).1 = 1 then (({ zeroAsk with file := (l1 (b.take k)).1, cls := (l2 (b.take k)).1, siz := (t3 (b.take k)).1 } : AskV), (t3 (b.take k)).2)
          else if (l2 (b.take k)).1 = 2 then ({ zeroAsk with file := (l1 (b.take k)).1, cls := (l2 (b.take k)).1, on := (t4 (b.take k)).1 != 0 }, (t4 (b.take k)).2)
          else if (l2 (b.take k)).1 = 3 then ({ zeroAsk with file := (l1 (b.take k)).1, cls := (l2 (b.take k)).1, on := (t4 (b.take k)).1 != 0, name := ⟨(t5 (b.take k)).1.toArray⟩ }, (t5 (b.take k)).2)
          else ({ zeroAsk with file := (l1 (b.take k)).1, cls := (l2 (b.take k)).1 }, rdFail 5 (l2 (b.take k)).2)).2.e = 4 := by
        intro hc hn
        have e4 := bad hc hn
        rw [cls0 hn, if_neg (by decide), if_neg (by decide), if_neg (by decide)]
        unfold rdFail
        rw [if_neg hn]
        exact e4
      by_cases c1 : (l2 b).1 = 1
      · simp only [if_pos c1] at h1 h2
        obtain ⟨s2, s3⟩ := start (n_took hx h1).1
        by_cases hn : (l2 (b.take k)).2.e = 0
        · rw [s3 hn, if_pos c1]
          exact last_cuts (n_cuts hkl h1 s2).1 h2 hk
        · exact short s2 hn
      · by_cases c2 : (l2 b).1 = 2
        · simp only [if_neg c1, if_pos c2] at h1 h2
          obtain ⟨s2, s3⟩ := start (truth_took hx h1).1
          by_cases hn : (l2 (b.take k)).2.e = 0
          · rw [s3 hn, if_neg c1, if_pos c2]
            exact last_cuts (most_cuts hkl (by decide) h1 s2).1 h2 hk
          · exact short s2 hn
        · by_cases c3 : (l2 b).1 = 3
          · simp only [if_neg c1, if_neg c2, if_pos c3] at h1 h2
            have u4 := (text_took hx h1).1
            obtain ⟨s2, s3⟩ := start (truth_took hx u4).1
            by_cases hn : (l2 (b.take k)).2.e = 0
            · rw [s3 hn, if_neg c1, if_neg c2, if_pos c3]
              have s4 := (most_cuts hkl (by decide) u4 s2).1
              exact text_cuts hx hk h1 h2 (rdMost_place rfl (rdN_place rfl (rdN_place rfl (Nat.zero_le _)))) s4
            · exact short s2 hn
          · simp only [if_neg c1, if_neg c2, if_neg c3] at h1
            unfold rdFail at h1
            split at h1
            · exact absurd h1 (show ¬ (5 : Int) = 0 by decide)
            · rename_i hne
              exact absurd h1 hne
    · subst q
      simp only [show ¬ ((18 : Int) = 14) by decide, show ¬ ((18 : Int) = 16) by decide, show ¬ ((18 : Int) = 17) by decide, if_true, if_false] at h1 h2 ⊢
      have u2 := (z_took h1).1
      have u1 := (n_took hx u2).1
      exact last_cuts (z_cuts hkl h1 (n_cuts hkl u2 (n_cuts hkl u1 (Cuts.start k)).1).1) h2 hk
  unfold igErr
  rw [if_pos hkn]
  unfold rdEnd
  rw [if_neg (by rw [key]; rintro ⟨h, _⟩; exact absurd h (by decide)), key]
end Go.Proofs.YtbbjmmooemmeiaaDoor

namespace Go.Proofs.YtbbjmmooemmeiaaDoor
set_option linter.all false
open Go.RowKit
set_option linter.unusedVariables false
set_option maxRecDepth 100000
theorem holds_news {w : World} {B : Nat} {ad : Addr} {n c : Nat} {xs : List Int} (hr : Holds w B (some ad) n c xs) : ∀ j u, (xs.map (Value.int .u8))[j]? = some u → w.cell? (ad.add j) = some u := by
  have hl := hr.len
  intro j u hj
  have hjl : j < xs.length := by
    by_cases hj' : j < xs.length
    · exact hj'
    · rw [List.getElem?_eq_none (by simp; omega)] at hj
      cases hj
  obtain ⟨b, off, he, _, hcl⟩ := hr.cells (by omega)
  obtain rfl := Option.some.inj he
  have e : (⟨b, off, none⟩ : Addr).add j = ⟨b, off + j, none⟩ := by
    by_cases hj0 : j = 0
    · subst hj0; simp [Addr.add]
    · simp [Addr.add, hj0]
  rw [e, hcl j (by omega), ← hj]
  simp [hjl]
theorem wpList_append_full {w : World} {ops : Array Oper} {rest : List Oper} {o : Oper} {a : Act} {Q : Exit → Act → World → Prop} (hgd : o.guard = none) (s x : Operand)
    (ho : o.op = .call { callee := .builtin .append, args := #[s, x], argTypes := #[29, 29] })
    (B : Nat) (A : Option Addr) (n c : Nat) (xs : List Int) (hs : a.eval s = .slice A n n) (hX : Holds w B A n c xs) (B' : Nat) (A' : Option Addr) (m c' : Nat) (ys : List Int) (hx : a.eval x = .slice A' m c')
    (hY : Holds w B' A' m c' ys) (hm : 0 < m) (hlen : n + m ≤ 140737488355328)
    (h : ∀ v' w', Hid (Own w' w.heap.size v' (xs ++ ys)) → Below w.heap.size w w' → wpList Tryd.prog ops Q rest (a.put o.dst v') w') :
    wpList Tryd.prog ops Q (o :: rest) a w := by
  obtain ⟨i0, hi, hz0, hz1, hz2⟩ := info_parts info_u8
  have hl := hX.len
  have hl' := hY.len
  rcases A' with _ | ad
  · exact absurd (hY.bare rfl) (by have := hY.fit; omega)
  refine wpList_append_grows w hgd s x 29 ho 5 i0 (.int .u8 0) 1 1 Tryd.underlying29 hi hz0 hz1 hz2 rfl (by omega) A n n (xs.map (Value.int .u8)) hs (fun hA => ?_) (by simp [hl]) (fun b hb => ?_)
    ad m c' (ys.map (Value.int .u8)) hx (by simp [hl']) (holds_news hY) (by intro v hv; obtain ⟨x, _, rfl⟩ := List.mem_map.1 hv; rfl) (by omega) (by unfold maxLen; omega) (by omega) ?_
  · have := hX.bare hA
    have := hX.fit
    exact ⟨by omega, by omega⟩
  · subst hb
    exact holds_news hX
  · intro v' w' h1 h2
    refine h v' w' ?_ ((Below.refl _ _).grown h2 (Nat.le_refl _) (fun k hk => by cases hk))
    show w'.ownsRow w.heap.size 5 1 v' (xs ++ ys).length ((xs ++ ys).map (Value.int .u8))
    rw [List.map_append, List.length_append, hl, hl']
    exact h1
end Go.Proofs.YtbbjmmooemmeiaaDoor

namespace Go.Proofs.YtbbjmmooemmeiaaDoor
set_option linter.all false
open Go.RowKit
set_option linter.unusedVariables false
set_option maxRecDepth 100000
theorem Holds.shut {w : World} {B n c k c' : Nat} {A : Option Addr} {xs : List Int} (h : Holds w B A n c xs) (hk : k ≤ n) (hc : k ≤ c') (hA : A = none → c' = 0) : Holds w B A k c' (xs.take k) := by
  refine ⟨by rw [List.length_take, h.len]; omega, hc, by have := h.room; omega, h.byte.take k, hA, fun h0 => ?_⟩
  obtain ⟨b, off, e, hb, hcl⟩ := h.cells (by omega)
  refine ⟨b, off, e, hb, fun i hi => ?_⟩
  rw [hcl i (by omega)]
  simp [List.getD_eq_getElem?_getD, hi]
theorem cut_at (a2 : Int) (m : Nat) (h : 1 ≤ m) (h7 : m ≤ 70000) : ∃ q : Nat, q < m ∧ wrap64 ((IntKind.u64.wrap a2).tmod m) = q := by
  have h0 : 0 ≤ IntKind.u64.wrap a2 := by rw [IntKind.wrap_u64]; omega
  rw [Int.tmod_eq_emod_of_nonneg h0]
  have h1 := Int.emod_nonneg (IntKind.u64.wrap a2) (show (m : Int) ≠ 0 by omega)
  have h2 := Int.emod_lt_of_pos (IntKind.u64.wrap a2) (show (0 : Int) < m by omega)
  obtain ⟨r, hr⟩ : ∃ r, r = IntKind.u64.wrap a2 % (m : Int) := ⟨_, rfl⟩
  rw [← hr] at h1 h2 ⊢
  refine ⟨r.toNat, by omega, ?_⟩
  unfold wrap64
  omega
set_option maxHeartbeats 1000000 in
theorem walk_InfoCut (W : World) (hT : Tabs W) (a0 : Int) (w0 : 0 ≤ a0 ∧ a0 ≤ 65535) (cs1 : List Value) (a1 : AskV) (k1h : a1.ok) (h1h : AskIs W W.heap.size cs1 a1) (b1 : a1.dial.length ≤ 1048576 ∧ a1.data.length ≤ 1048576 ∧ a1.locks.length ≤ 1048576 ∧ a1.user.size ≤ 1048576 ∧ a1.share.size ≤ 1048576 ∧ a1.name.size ≤ 1048576 ∧ a1.pat.size ≤ 1048576 ∧ a1.aft.size ≤ 1048576)
    (a2 : Int) (w2 : -9223372036854775808 ≤ a2 ∧ a2 ≤ 9223372036854775807) (A3 : Option Addr) (n3 c3 : Nat) (z3 : List Int) (l3 : n3 ≤ c3) (r3 : c3 ≤ 1048576) (h3 : Holds W W.heap.size A3 c3 c3 z3) :
    Calls Tryd.prog 8 #[.int .u16 a0, .agg cs1.toArray, .int .i64 a2, .slice A3 n3 c3] W fun e W' => e = .returned (.bool true) ∧ Below W.heap.size W W' := by
  have HT := Lib.hid hT
  have h := h3.head l3
  obtain ⟨ms, hms⟩ : ∃ ms, ms = z3.take n3 := ⟨_, rfl⟩
  rw [← hms] at h
  have HX := Lib.hid h
  have HXB := Lib.hid h.byte
  have HXL := Lib.hid h.len
  have hbig : n3 ≤ 1048576 := by omega
  have HL := Lib.hid (h1h.len k1h)
  have HA := Lib.hid h1h
  have ZH := Lib.hid zero_ask
  have HZ : Hid ((acells (.slice none 0 0) (.slice none 0 0) (.slice none 0 0) zeroAsk).length = 69) := acells_len zeroAsk_ok
  obtain ⟨b1a, b1b, b1c, b1d, b1e, b1f, b1g, b1h⟩ := b1
  have HYB := Lib.hid (ip_bytes (c := a0) k1h)
  have HYL := Lib.hid (ip_len (c := a0) (a := a1))
  have FC := fun he k hk => ig_cut a0 a1 k1h he k hk
  have FM := fun he more hm => ig_more a0 a1 k1h he more hm
  have F1 := fun he => ip_some (c := a0) (a := a1) he
  have CP : Hid (∀ w : World, Below W.heap.size W w → Calls Tryd.prog 11 #[.int .u16 a0, .agg cs1.toArray] w fun e w' => ∃ v, e = .returned (.tuple #[v, .int .i64 (ipErr a0 a1)]) ∧ Own w' w.heap.size v (ipOf a0 a1) ∧ Below w.heap.size w w') := fun w hb => (IPutAsk_any w a0 cs1 a1 w0 k1h (h1h.over hb) ⟨by omega, by omega⟩ ⟨by omega, by omega, by omega⟩ (hT.below hb)).mono fun e w' ⟨v, q1, q2, q3⟩ => ⟨v, q1, q2.own8, q3⟩
  have CG : Hid (∀ (w : World) (A : Option Addr) (n c : Nat) (xs : List Int), Holds w w.heap.size A n c xs → Calls Tryd.prog 21 #[.int .u16 a0, .slice A n c] w fun e w' => ∃ cs : List Value, e = .returned (.tuple #[.agg cs.toArray, .int .i64 (igErr a0 xs)]) ∧ cs.length = 69 ∧ (∀ v ∈ cs, v.oneCell' = true) ∧ Below w.heap.size w w') := fun w A n c xs hh => (IGetAsk_any w a0 A n c xs w0 hh).mono fun e w' ⟨ds, h1, h2, _, h3⟩ => ⟨ds, h1, h2.len (igOf_ok a0 hh.byte), h2.one, h3⟩
  have CL : Hid (∀ w : World, Tabs w → Calls Tryd.prog 15 #[] w fun e w' => e = .returned (.bool true) ∧ Below w.heap.size w w') := ilives_any
  obtain ⟨er, her⟩ : ∃ x, x = ipErr a0 a1 := ⟨_, rfl⟩
  obtain ⟨ys, hys⟩ : ∃ x, x = ipOf a0 a1 := ⟨_, rfl⟩
  rw [← her] at CP FC FM F1
  rw [← hys] at CP HYB HYL FC FM F1
  obtain ⟨nz, hnz⟩ : ∃ x, x = acells (.slice none 0 0) (.slice none 0 0) (.slice none 0 0) zeroAsk := ⟨_, rfl⟩
  rw [← hnz] at ZH HZ
  clear her hys hnz hT h h3 h1h hms
  by_cases he : er = 0
  · subst he
    replace FC := Lib.hid (FC rfl)
    replace FM := Lib.hid (FM rfl)
    replace F1 := Lib.hid (F1 rfl)
    by_cases hn : n3 = 0
    · subst hn
      go_enter Tryd.func8, Tryd.ntmps8
      go_wp2_with (first
        | ((with_reducible show wpList _ _ _ (⟨some 5, _, _, _, _, _⟩ :: _) _ _); refine wpList_box_blk rfl _ (.tmp 1) rfl cs1 rfl ?_; intro g v1 hg1 hg2 K1 L1)
        | ((with_reducible show wpList _ _ _ (⟨some 18, _, _, _, _, _⟩ :: _) _ _); refine wpList_load_blk rfl _ (.tmp 5) rfl g rfl _ cs1 K1 69 _ Tryd.underlying32 rfl size_ask HL ?_)
        | fail)
      refine (CP.out v1 L1.out).mono ?_
      rintro e v2 ⟨u2, rfl, ho2, L2⟩
      have M2 := Lib.hid (step L1.out L2)
      obtain ⟨A2, c2, rfl, hh2⟩ := ho2.holds HYB.out (by have := HYL.out; omega)
      have H2 := Lib.hid hh2
      obtain ⟨m, hm⟩ : ∃ m, m = ys.length := ⟨_, rfl⟩
      have HM := Lib.hid hm
      have hm7 : m ≤ 70000 := by rw [hm]; exact HYL.out
      have hmc : m ≤ c2 := by have := hh2.fit; omega
      have hmc : m ≤ c2 := by have := hh2.fit; omega
      rw [← hm] at H2 ⊢
      clear hh2 ho2 L2 K1 L1 hm
      have hm1 : 1 ≤ m := by rw [HM.out]; exact F1.out
      obtain ⟨q, hq, hk⟩ := cut_at a2 m hm1 hm7
      have HK := Lib.hid hk
      have C4 := CG.out v2 A2 q c2 _ (H2.out.shut (by omega) (by omega) H2.out.bare)
      rw [FC.out q (by rw [← HM.out]; exact hq)] at C4
      have C4 := Lib.hid C4
      go_wp2_with fail
      try rw [HK.out]
      clear hk
      refine C4.out.mono ?_
      rintro e b1 ⟨bds, rfl, hl, ho, L4⟩
      have bM1 := Lib.hid (step M2.out L4)
      have bH1 := Lib.hid (H2.out.over L4)
      have bDL := Lib.hid hl
      have bDO := Lib.hid ho
      clear hl ho L4 C4 M2 H2
      go_wp2_with (first
        | ((with_reducible show wpList _ _ _ (⟨some 12, _, _, _, _, _⟩ :: _) _ _); refine wpList_alloc_blk rfl _ rfl nz _ ZH ?_; intro bg b2 hg5 hg6 bZ2 bL2)
        | ((with_reducible show wpList _ _ _ (⟨none, .store _ (.tmp 12) _, _, _, _, _⟩ :: _) _ _); refine wpList_store_blk rfl _ (.tmp 12) (.tmp 52) rfl bg rfl _ nz bds rfl bZ2 69 size_ask HZ bDL bDO ?_; intro b3 bX3 bO3 hg7; have bL3 := Lib.hid (below_only bL2.out bO3.out hg5); have bM3 := Lib.hid (step bM1.out bL3.out); have bH3 := Lib.hid (bH1.out.over bL3.out))
        | fail)
      refine (CL.out b3 (HT.out.below bM3.out)).mono ?_
      rintro e v13 ⟨rfl, L13⟩
      go_wp2
      go_ret
      exact ⟨rfl, step bM3.out L13⟩
    ·
      go_enter Tryd.func8, Tryd.ntmps8
      go_wp2_with (first
        | ((with_reducible show wpList _ _ _ (⟨some 5, _, _, _, _, _⟩ :: _) _ _); refine wpList_box_blk rfl _ (.tmp 1) rfl cs1 rfl ?_; intro g v1 hg1 hg2 K1 L1)
        | ((with_reducible show wpList _ _ _ (⟨some 18, _, _, _, _, _⟩ :: _) _ _); refine wpList_load_blk rfl _ (.tmp 5) rfl g rfl _ cs1 K1 69 _ Tryd.underlying32 rfl size_ask HL ?_)
        | fail)
      refine (CP.out v1 L1.out).mono ?_
      rintro e v2 ⟨u2, rfl, ho2, L2⟩
      have M2 := Lib.hid (step L1.out L2)
      obtain ⟨A2, c2, rfl, hh2⟩ := ho2.holds HYB.out (by have := HYL.out; omega)
      have H2 := Lib.hid hh2
      obtain ⟨m, hm⟩ : ∃ m, m = ys.length := ⟨_, rfl⟩
      have HM := Lib.hid hm
      have hm7 : m ≤ 70000 := by rw [hm]; exact HYL.out
      have hmc : m ≤ c2 := by have := hh2.fit; omega
      have hmc : m ≤ c2 := by have := hh2.fit; omega
      rw [← hm] at H2 ⊢
      clear hh2 ho2 L2 K1 L1 hm
      have hm1 : 1 ≤ m := by rw [HM.out]; exact F1.out
      obtain ⟨q, hq, hk⟩ := cut_at a2 m hm1 hm7
      have HK := Lib.hid hk
      have C4 := CG.out v2 A2 q c2 _ (H2.out.shut (by omega) (by omega) H2.out.bare)
      rw [FC.out q (by rw [← HM.out]; exact hq)] at C4
      have C4 := Lib.hid C4
      go_wp2_with fail
      try rw [HK.out]
      clear hk
      refine C4.out.mono ?_
      rintro e b1 ⟨bds, rfl, hl, ho, L4⟩
      have bM1 := Lib.hid (step M2.out L4)
      have bH1 := Lib.hid (H2.out.over L4)
      have bDL := Lib.hid hl
      have bDO := Lib.hid ho
      clear hl ho L4 C4 M2 H2
      go_wp2_with (first
        | ((with_reducible show wpList _ _ _ (⟨some 12, _, _, _, _, _⟩ :: _) _ _); refine wpList_alloc_blk rfl _ rfl nz _ ZH ?_; intro bg b2 hg5 hg6 bZ2 bL2)
        | ((with_reducible show wpList _ _ _ (⟨none, .store _ (.tmp 12) _, _, _, _, _⟩ :: _) _ _); refine wpList_store_blk rfl _ (.tmp 12) (.tmp 52) rfl bg rfl _ nz bds rfl bZ2 69 size_ask HZ bDL bDO ?_; intro b3 bX3 bO3 hg7; have bL3 := Lib.hid (below_only bL2.out bO3.out hg5); have bM3 := Lib.hid (step bM1.out bL3.out); have bH3 := Lib.hid (bH1.out.over bL3.out))
        | ((with_reducible show wpList _ _ _ (⟨some 69, _, _, _, _, _⟩ :: _) _ _); refine wpList_append_full rfl (.tmp 67) (.tmp 68) rfl b3.heap.size A2 m c2 ys rfl bH3.out W.heap.size A3 n3 c3 ms rfl (HX.out.below bM3.out) (by omega) (by omega) ?_; intro u5 v5 O5 L5; have M5 := Lib.hid (step bM3.out L5); obtain ⟨A5, c5, rfl, hh5⟩ := O5.out.holds (HYB.out.append HXB.out) (by rw [List.length_append, ← HM.out, HXL.out]; omega); obtain ⟨m5, hm5⟩ : ∃ k, k = (ys ++ ms).length := ⟨_, rfl⟩; rw [← hm5] at hh5 ⊢; have H5 := Lib.hid hh5; clear hh5 hm5)
        | fail)
      have C6 := CG.out v5 A5 m5 c5 _ H5.out
      rw [FM.out ms (fun h => by rw [h] at HXL; exact hn HXL.out.symm)] at C6
      refine C6.mono ?_
      rintro e d1 ⟨dds, rfl, hl, ho, L6⟩
      have dM1 := Lib.hid (step M5.out L6)
      have dH1 := Lib.hid (H5.out.over L6)
      have dDL := Lib.hid hl
      have dDO := Lib.hid ho
      clear hl ho L6 C6 M5 H5
      go_wp2_with (first
        | ((with_reducible show wpList _ _ _ (⟨some 14, _, _, _, _, _⟩ :: _) _ _); refine wpList_alloc_blk rfl _ rfl nz _ ZH ?_; intro dg d2 hg5 hg6 dZ2 dL2)
        | ((with_reducible show wpList _ _ _ (⟨none, .store _ (.tmp 14) _, _, _, _, _⟩ :: _) _ _); refine wpList_store_blk rfl _ (.tmp 14) (.tmp 71) rfl dg rfl _ nz dds rfl dZ2 69 size_ask HZ dDL dDO ?_; intro d3 dX3 dO3 hg7; have dL3 := Lib.hid (below_only dL2.out dO3.out hg5); have dM3 := Lib.hid (step dM1.out dL3.out); have dH3 := Lib.hid (dH1.out.over dL3.out))
        | fail)
      refine (CL.out d3 (HT.out.below dM3.out)).mono ?_
      rintro e v13 ⟨rfl, L13⟩
      go_wp2
      go_ret
      exact ⟨rfl, step dM3.out L13⟩
  · clear FC FM F1
    go_enter Tryd.func8, Tryd.ntmps8
    go_wp2_with (first
      | ((with_reducible show wpList _ _ _ (⟨some 5, _, _, _, _, _⟩ :: _) _ _); refine wpList_box_blk rfl _ (.tmp 1) rfl cs1 rfl ?_; intro g v1 hg1 hg2 K1 L1)
      | ((with_reducible show wpList _ _ _ (⟨some 18, _, _, _, _, _⟩ :: _) _ _); refine wpList_load_blk rfl _ (.tmp 5) rfl g rfl _ cs1 K1 69 _ Tryd.underlying32 rfl size_ask HL ?_)
      | fail)
    refine (CP.out v1 L1.out).mono ?_
    rintro e v2 ⟨u2, rfl, ho2, L2⟩
    have M2 := Lib.hid (step L1.out L2)
    obtain ⟨A2, c2, rfl, hh2⟩ := ho2.holds HYB.out (by have := HYL.out; omega)
    have H2 := Lib.hid hh2
    obtain ⟨m, hm⟩ : ∃ m, m = ys.length := ⟨_, rfl⟩
    have HM := Lib.hid hm
    have hm7 : m ≤ 70000 := by rw [hm]; exact HYL.out
    have hmc : m ≤ c2 := by have := hh2.fit; omega
    have hmc : m ≤ c2 := by have := hh2.fit; omega
    rw [← hm] at H2 ⊢
    clear hh2 ho2 L2 K1 L1 hm
    go_wp2_with fail
    refine (CL.out v2 (HT.out.below M2.out)).mono ?_
    rintro e v13 ⟨rfl, L13⟩
    go_wp2
    go_ret
    exact ⟨rfl, step M2.out L13⟩
end Go.Proofs.YtbbjmmooemmeiaaDoor
