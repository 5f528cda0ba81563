import Derived.WalkKit
import Derived.Deep.Draws
import Derived.Laws.Rows
import Derived.Laws.OwnMore
import Derived.Lib.RuneBytes
import Derived.Lib.ValidLaws
import Derived.Test.YtbbjmmooemmeiaaDoorRows
import Derived.Laws.CopyOwn
import Derived.Laws.AppendOwnNone
import Derived.Lib.Hide
import Derived.Laws.AppendOwn
import Derived.OwnWalk
import Derived.Lib.OthersKept
import Derived.Laws.BytesArg
import Derived.Shelf.Utf8.AppendRunePlain
import Derived.Shelf.Unicode.ValidAny
import Derived.Test.YtbbjmmooemmeiaaDoorProg
import Derived.WalkSpells
import Derived.WalkLawsBesides
import Derived.Deep.QuietTactic
import Derived.BigQuiet
import Derived.Laws.Bits64
import Derived.Laws.BitsAllLaws
import Derived.ProofKit
import Derived.OpenShut
import Derived.ShutString
import Derived.SizedLaws
import Derived.ChangeOld
import Derived.Lib.AppendZeros
import Derived.Deep.RegionWith
import Derived.Deep.DeepCutAuto
import Derived.Great.Walk
import Derived.Laws.Tables
import Derived.Laws.NewFold
import Derived.Deep.WholeRow
import Derived.Deep.MidRow
import Derived.OneCell
import Derived.Deep.Strs
import Derived.OrdersHeld
import Derived.Laws.StructEq
import Derived.ChangeKeysEq
import Derived.Deep.RegionLaw
import Derived.Deep.OwnRows
import Derived.Test.YtbbjmmooemmeiaaDoorWAD
import Derived.Test.YtbbjmmooemmeiaaDoorWAE
import Derived.Test.YtbbjmmooemmeiaaDoorWAF
import Derived.Test.YtbbjmmooemmeiaaDoorWAG
import Derived.Test.YtbbjmmooemmeiaaDoorWAI
import Derived.Test.YtbbjmmooemmeiaaDoorWAJ
namespace Go.Proofs.YtbbjmmooemmeiaaDoor
set_option linter.all false
set_option linter.unusedVariables false
set_option linter.unusedSimpArgs false
set_option maxRecDepth 100000
theorem rdEnt_ok {xs : List Int} (hx : Bytes xs) (r : Rd) : (rdEnt xs r).1.ok ∧ entOk (rdEnt xs r).1 = true := by
  have h1 := rdK_lt hx r
  have h2 := rdMost_lt hx 8 1048576 5 (e2 xs r) (by decide) (by decide)
  refine ⟨⟨?_, ?_⟩, ?_⟩
  · show 0 ≤ (rdK xs r).1 ∧ (rdK xs r).1 ≤ 255; omega
  · show -9223372036854775808 ≤ (rdMost xs 8 1048576 5 (e2 xs r)).1 ∧ (rdMost xs 8 1048576 5 (e2 xs r)).1 ≤ 9223372036854775807; omega
  · unfold entOk
    show (decide ((rdK xs r).1 ≤ 2) && (decide (0 ≤ (rdMost xs 8 1048576 5 (e2 xs r)).1) && decide ((rdMost xs 8 1048576 5 (e2 xs r)).1 ≤ 1048576))) = true
    simp [h1.2, h2.1, h2.2]
theorem rdEnts_ok {xs : List Int} (hx : Bytes xs) (r : Rd) (k : Nat) : (∀ l ∈ (rdEnts xs r k).1, l.ok) ∧ (rdEnts xs r k).1.all entOk = true := by
  induction k with
  | zero => exact ⟨(fun l h => by cases h), rfl⟩
  | succ k ih =>
    refine ⟨fun l h => ?_, ?_⟩
    · rcases List.mem_append.1 h with h | h
      · exact ih.1 l h
      · rw [List.mem_singleton.1 h]; exact (rdEnt_ok hx _).1
    · show ((rdEnts xs r k).1 ++ [(rdEnt xs (rdEnts xs r k).2).1]).all entOk = true
      rw [List.all_append, ih.2, List.all_cons, (rdEnt_ok hx _).2]
      rfl
end Go.Proofs.YtbbjmmooemmeiaaDoor

namespace Go.Proofs.YtbbjmmooemmeiaaDoor
set_option linter.all false
set_option linter.unusedVariables false
set_option linter.unusedSimpArgs false
set_option maxRecDepth 100000
theorem kind_took {xs : List Int} {r : Rd} (hx : Bytes xs) (h : (rdK xs r).2.e = 0) : r.e = 0 ∧ xs.take (rdK xs r).2.p = xs.take r.p ++ le (rdK xs r).1 2 := by
  obtain ⟨m1, m2, m3⟩ := most_took hx (by decide) (show (rdMost xs 2 2 5 r).2.e = 0 from h)
  exact ⟨m1, m3⟩
theorem ent_took {xs : List Int} {r : Rd} (hx : Bytes xs) (h : (rdEnt xs r).2.e = 0) : r.e = 0 ∧ ptextErr (rdEnt xs r).1.name.data.toList = 0 ∧ xs.take (rdEnt xs r).2.p = xs.take r.p ++ entryB (rdEnt xs r).1 := by
  obtain ⟨t1, t2, t3⟩ := text_took hx (show (rdText xs (e3 xs r).2).2.e = 0 from h)
  obtain ⟨a1, a2, a3⟩ := most_took hx (by decide) (show (rdMost xs 8 1048576 5 (e2 xs r)).2.e = 0 from t1)
  obtain ⟨z1, z2⟩ := z_took (show (rdZ xs 2 (e1 xs r).2).e = 0 from a1)
  obtain ⟨d1, d2⟩ := kind_took hx (show (rdK xs r).2.e = 0 from z1)
  refine ⟨d1, t2, ?_⟩
  show xs.take (rdText xs (e3 xs r).2).2.p = xs.take r.p ++ (le (rdK xs r).1 2 ++ (List.replicate 2 0 ++ (le (rdMost xs 8 1048576 5 (e2 xs r)).1 8 ++ ptextOf (rdText xs (e3 xs r).2).1)))
  rw [t3]
  show xs.take (rdMost xs 8 1048576 5 (e2 xs r)).2.p ++ _ = _
  rw [a3]
  show xs.take (rdZ xs 2 (e1 xs r).2).p ++ _ ++ _ = _
  rw [z2]
  show xs.take (rdK xs r).2.p ++ _ ++ _ ++ _ = _
  rw [d2]
  simp only [List.append_assoc]
theorem ents_took {xs : List Int} {r : Rd} (hx : Bytes xs) : ∀ k, (rdEnts xs r k).2.e = 0 → r.e = 0 ∧ entsErr (rdEnts xs r k).1 = 0 ∧ xs.take (rdEnts xs r k).2.p = xs.take r.p ++ entriesB (rdEnts xs r k).1
  | 0, h => ⟨h, rfl, by show xs.take r.p = xs.take r.p ++ []; rw [List.append_nil]⟩
  | k + 1, h => by
    have h' : (rdEnt xs (rdEnts xs r k).2).2.e = 0 := h
    obtain ⟨l1, l2, l3⟩ := ent_took hx h'
    obtain ⟨i1, i2, i3⟩ := ents_took hx k l1
    refine ⟨i1, ?_, ?_⟩
    · show entsErr ((rdEnts xs r k).1 ++ [(rdEnt xs (rdEnts xs r k).2).1]) = 0
      rw [entsErr_app, if_pos i2]
      show (if ptextErr (rdEnt xs (rdEnts xs r k).2).1.name.data.toList = 0 then entsErr [] else _) = 0
      rw [if_pos l2]
      rfl
    · show xs.take (rdEnt xs (rdEnts xs r k).2).2.p = xs.take r.p ++ entriesB ((rdEnts xs r k).1 ++ [(rdEnt xs (rdEnts xs r k).2).1])
      rw [l3, i3, entriesB_app, List.append_assoc]
      simp only [entriesB, List.append_nil]
theorem jg_once (c : Int) {xs : List Int} (hx : Bytes xs) (h : jgErr c xs = 0) : jpErr c (jgOf c xs) = 0 ∧ jpOf c (jgOf c xs) = xs ∧ (jgOf c xs).ok := by
  have e0 : jgOf c xs = (jgP c xs).1 := by unfold jgOf; rw [if_pos h]
  unfold jgErr at h
  by_cases hk : knownIS c = true
  rotate_left
  · rw [if_neg hk] at h; exact absurd h (by decide)
  rw [if_pos hk] at h
  obtain ⟨h1, h2⟩ := rdEnd_whole h
  rw [e0]
  have key : ∀ a : SayV, wantIS c a = a → a.kind ≤ 2 → a.ents.all entOk = true → a.ents.length ≤ 64 → (c = 14 → entsErr a.ents = 0) → a.ok → bodyIS c a = xs → jpErr c a = 0 ∧ jpOf c a = xs ∧ a.ok := by
    intro a w1 w2 w3 w4 w5 w6 w7
    have hn : nameIS c a = true := by
      unfold nameIS
      rw [hk, (besideIS_want c a).2 w1]
      simp
    have e : jpErr c a = 0 := by
      unfold jpErr
      rw [if_pos ⟨hn, w2, w3⟩, if_pos w4]
      split
      · rename_i h14; exact w5 h14
      · rfl
    exact ⟨e, by unfold jpOf; rw [if_pos e]; exact w7, w6⟩
  have zd := zeroSay_ok
  have m0 := rdMost_lt hx 2 64 3 rd0 ⟨by decide, by decide⟩ (by decide)
  have kk := rdK_lt hx (l1 xs).2
  have ek := rdEnts_ok hx (m2 xs).2 (m1 xs).1.toNat
  have el := rdEnts_len (xs := xs) (r := (m2 xs).2) (m1 xs).1.toNat
  unfold jgP at h1 h2 ⊢
  rcases knownIS_cases hk with k | k | k | k
  · subst k
    simp only [if_true] at h1 h2 ⊢
    obtain ⟨u3, w3, v3⟩ := ents_took hx _ (show (rdEnts xs (m2 xs).2 (m1 xs).1.toNat).2.e = 0 from h1)
    obtain ⟨u2, v2⟩ := truth_took hx u3
    obtain ⟨u1, _, v1⟩ := most_took hx (by decide) u2
    have hl : ((rdEnts xs (m2 xs).2 (m1 xs).1.toNat).1.length : Int) = (m1 xs).1 := by
      rw [el]
      show ((rdMost xs 2 64 3 rd0).1.toNat : Int) = (rdMost xs 2 64 3 rd0).1
      omega
    refine key _ rfl (show (0 : Int) ≤ 2 by decide) ek.2 ?_ (fun _ => w3) ⟨zd.dia, zd.siz, zd.clen, zd.cbyte, zd.lev, zd.dur, zd.made, zd.file, zd.kind, zd.data, zd.n, ek.1⟩ ?_
    · show (rdEnts xs (m2 xs).2 (m1 xs).1.toNat).1.length ≤ 64
      have : (m1 xs).1 ≤ 64 := m0.2
      omega
    · refine whole (r := (m3 xs).2) ?_ h2
      show xs.take (rdEnts xs (m2 xs).2 (m1 xs).1.toNat).2.p = le ((rdEnts xs (m2 xs).2 (m1 xs).1.toNat).1.length : Int) 2 ++ (le (truthI ((rdT xs (m1 xs).2).1 != 0)) 2 ++ entriesB (rdEnts xs (m2 xs).2 (m1 xs).1.toNat).1)
      rw [v3, hl]
      show xs.take (rdT xs (m1 xs).2).2.p ++ _ = _
      rw [v2]
      show xs.take (rdMost xs 2 64 3 rd0).2.p ++ _ ++ _ = _
      rw [v1, show xs.take rd0.p = [] from rfl, List.nil_append]
      simp only [List.append_assoc]
      rfl
  · subst k
    simp only [show ¬ ((16 : Int) = 14) by decide, if_true, if_false] at h1 h2 ⊢
    obtain ⟨u3, v3⟩ := truth_took hx h1
    obtain ⟨u2, v2⟩ := kind_took hx u3
    obtain ⟨u1, v1⟩ := n_took hx u2
    refine key _ rfl kk.2 rfl (Nat.zero_le _) (fun _ => rfl) ⟨zd.dia, b8 hx _, zd.clen, zd.cbyte, zd.lev, zd.dur, zd.made, zd.file, ⟨kk.1, ?_⟩, zd.data, zd.n, zd.ents⟩ ?_
    · show (rdK xs (l1 xs).2).1 ≤ 255; omega
    · refine whole (r := (g3 xs).2) ?_ h2
      show xs.take (rdT xs (g2 xs).2).2.p = le (l1 xs).1 8 ++ (le (rdK xs (l1 xs).2).1 2 ++ le (truthI ((rdT xs (g2 xs).2).1 != 0)) 2)
      rw [v3]
      show xs.take (rdK xs (l1 xs).2).2.p ++ _ = _
      rw [v2]
      show xs.take (rdN xs 8 rd0).2.p ++ _ ++ _ = _
      rw [v1, show xs.take rd0.p = [] from rfl, List.nil_append]
      simp only [List.append_assoc]
      rfl
  · subst k
    simp only [show ¬ ((17 : Int) = 14) by decide, show ¬ ((17 : Int) = 16) by decide, show ¬ ((17 : Int) = 18) by decide, if_false] at h1 h2 ⊢
    obtain ⟨u1, v1⟩ := z_took h1
    exact key _ rfl (by decide) rfl (Nat.zero_le _) (fun _ => rfl) zd (whole (r := rdZ xs 4 rd0) v1 h2)
  · subst k
    simp only [show ¬ ((18 : Int) = 14) by decide, show ¬ ((18 : Int) = 16) by decide, if_true, if_false] at h1 h2 ⊢
    obtain ⟨u3, v3⟩ := z_took h1
    obtain ⟨u2, v2⟩ := n_took hx u3
    obtain ⟨u1, v1⟩ := n_took hx u2
    refine key _ rfl (show (0 : Int) ≤ 2 by decide) rfl (Nat.zero_le _) (fun _ => rfl) ⟨zd.dia, zd.siz, zd.clen, zd.cbyte, b1' hx _, zd.dur, zd.made, b8 hx _, zd.kind, zd.data, zd.n, zd.ents⟩ ?_
    refine whole (r := k3 xs) ?_ h2
    show xs.take (rdZ xs 3 (k2 xs).2).p = le (l1 xs).1 8 ++ (le (k2 xs).1 1 ++ List.replicate 3 0)
    rw [v3]
    show xs.take (rdN xs 1 (l1 xs).2).2.p ++ _ = _
    rw [v2]
    show xs.take (rdN xs 8 rd0).2.p ++ _ ++ _ = _
    rw [v1, show xs.take rd0.p = [] from rfl, List.nil_append]
    simp only [List.append_assoc]
    rfl
theorem jgOf_ok (c : Int) {xs : List Int} (hx : Bytes xs) : (jgOf c xs).ok := by
  by_cases h : jgErr c xs = 0
  · exact (jg_once c hx h).2.2
  · unfold jgOf
    rw [if_neg h]
    exact zeroSay_ok
end Go.Proofs.YtbbjmmooemmeiaaDoor
