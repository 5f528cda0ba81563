import Derived.WalkKit
import Derived.Deep.Draws
import Derived.Laws.Rows
import Derived.Laws.OwnMore
import Derived.Lib.RuneBytes
import Derived.Lib.ValidLaws
import Derived.Test.YtdlcjobahdmapaaDoorRows
import Derived.Laws.CopyOwn
import Derived.Laws.AppendOwnNone
import Derived.Lib.Hide
import Derived.Laws.AppendOwn
import Derived.OwnWalk
import Derived.Lib.OthersKept
import Derived.Laws.BytesArg
import Derived.Shelf.Utf8.AppendRunePlain
import Derived.Shelf.Unicode.ValidAny
import Derived.Test.YtdlcjobahdmapaaDoorProg
import Derived.WalkSpells
import Derived.WalkLawsBesides
import Derived.Deep.QuietTactic
import Derived.BigQuiet
import Derived.Laws.Bits64
import Derived.Laws.BitsAllLaws
import Derived.ProofKit
import Derived.OpenShut
import Derived.ShutString
import Derived.SizedLaws
import Derived.ChangeOld
import Derived.Lib.AppendZeros
import Derived.Deep.RegionWith
import Derived.Deep.DeepCutAuto
import Derived.Great.Walk
import Derived.Laws.Tables
import Derived.Laws.NewFold
import Derived.Deep.WholeRow
import Derived.Deep.MidRow
import Derived.OneCell
import Derived.Deep.Strs
import Derived.OrdersHeld
import Derived.Laws.StructEq
import Derived.ChangeKeysEq
import Derived.Deep.RegionLaw
import Derived.Deep.OwnRows
import Derived.Test.YtdlcjobahdmapaaDoorWAD
import Derived.Test.YtdlcjobahdmapaaDoorWAE
import Derived.Test.YtdlcjobahdmapaaDoorWAF
import Derived.Test.YtdlcjobahdmapaaDoorWAG
import Derived.Test.YtdlcjobahdmapaaDoorWAH
import Derived.Test.YtdlcjobahdmapaaDoorWAJ
import Derived.Test.YtdlcjobahdmapaaDoorWAK
namespace Go.Proofs.YtdlcjobahdmapaaDoor
set_option linter.all false
set_option linter.unusedVariables false
set_option linter.unusedSimpArgs false
set_option maxRecDepth 100000
theorem up_took {xs : List Int} {most : Int} {r : Rd} (hx : Bytes xs) (h : (rdUp xs most r).2.e = 0) : r.e = 0 ∧ (rdUp xs most r).1 ≤ most ∧ xs.take (rdUp xs most r).2.p = xs.take r.p ++ le (rdUp xs most r).1 2 := by
  obtain ⟨h1, h2, h3⟩ := rdUp_ok h
  rw [h3]
  exact ⟨(n_took hx h1).1, h2, (n_took hx h1).2⟩
theorem sg_once (c : Int) {xs : List Int} (hx : Bytes xs) (h : sgErr c xs = 0) : fsErr c (sgOf c xs) = 0 ∧ fsOf c (sgOf c xs) = xs ∧ (sgOf c xs).ok := by
  have e0 : sgOf c xs = (sgP c xs).1 := by unfold sgOf; rw [if_pos h]
  unfold sgErr at h
  by_cases hk : knownF c = true
  rotate_left
  · rw [if_neg hk] at h; exact absurd h (by decide)
  rw [if_pos hk] at h
  have hend := h
  obtain ⟨h1, h2⟩ := rdEnd_whole h
  rw [e0]
  have key : ∀ a : SayV, wantFS c a = a → a.made ≤ 2 → a.kind ≤ 2 → a.data.length ≤ 32768 → a.ok → bodyFS c a = xs → fsErr c a = 0 ∧ fsOf c a = xs ∧ a.ok := by
    intro a w1 w2 w3 w4 w6 w7
    have e : fsErr c a = 0 := by
      unfold fsErr nameFS
      rw [hk, (besideFS_want c a).2 w1]
      rw [if_pos ⟨by simp, w2, w3⟩, if_pos w4]
    exact ⟨e, by unfold fsOf; rw [if_pos e]; exact w7, w6⟩
  have zd := zeroSay_ok
  have hb := rdData_le hx rd0
  unfold sgP at h1 h2 hend ⊢
  rcases known_cases hk with k5 | k6 | k7 | k8 | k9 | k10
  · subst k5
    simp only [if_true] at h1 h2 hend ⊢
    obtain ⟨m1, m2⟩ := sgP_made hend
    obtain ⟨u7, v7⟩ := z_took h1
    obtain ⟨u6, w6, v6⟩ := up_took hx u7
    obtain ⟨u5, v5⟩ := n_took hx u6
    obtain ⟨u4, v4⟩ := n_took hx u5
    obtain ⟨u3, w3, v3⟩ := up_took hx u4
    obtain ⟨u2, v2⟩ := n_took hx u3
    obtain ⟨u1, v1⟩ := n_took hx u2
    have q3 := rdUp_lt hx 2 (s2 xs).2
    have q6 := rdUp_lt hx 2 (s5 xs).2
    refine key _ rfl m1 m2 (Nat.zero_le _) ⟨zd.dia, b8 hx _, zd.clen, zd.cbyte, b1' hx _, b1' hx _, q3, b8 hx _, ⟨q6.1, by show (s6 xs).1 ≤ 255; omega⟩, zd.data, zd.n, zd.ents⟩ ?_
    refine whole (r := s7 xs) ?_ h2
    show xs.take (rdZ xs 2 (s6 xs).2).p = le (s1 xs).1 1 ++ (le (s2 xs).1 1 ++ (le (s3 xs).1 2 ++ (le (s4 xs).1 8 ++ (le (s5 xs).1 8 ++ (le (s6 xs).1 2 ++ List.replicate 2 0)))))
    rw [v7]
    show xs.take (rdUp xs 2 (s5 xs).2).2.p ++ _ = _
    rw [v6]
    show xs.take (rdN xs 8 (s4 xs).2).2.p ++ _ ++ _ = _
    rw [v5]
    show xs.take (rdN xs 8 (s3 xs).2).2.p ++ _ ++ _ ++ _ = _
    rw [v4]
    show xs.take (rdUp xs 2 (s2 xs).2).2.p ++ _ ++ _ ++ _ ++ _ = _
    rw [v3]
    show xs.take (rdN xs 1 (s1 xs).2).2.p ++ _ ++ _ ++ _ ++ _ ++ _ = _
    rw [v2]
    show xs.take (rdN xs 1 rd0).2.p ++ _ ++ _ ++ _ ++ _ ++ _ ++ _ = _
    rw [v1, show xs.take rd0.p = [] from rfl, List.nil_append]
    simp only [List.append_assoc]
    rfl
  · subst k6
    simp only [show ¬ ((6 : Int) = 5) by decide, show ¬ ((6 : Int) = 8) by decide, show ¬ ((6 : Int) = 9) by decide, if_false] at h1 h2 ⊢
    obtain ⟨u1, v1⟩ := z_took h1
    exact key _ rfl (by decide) (by decide) (Nat.zero_le _) zd (whole (r := rdZ xs 4 rd0) v1 h2)
  · subst k7
    simp only [show ¬ ((7 : Int) = 5) by decide, show ¬ ((7 : Int) = 8) by decide, show ¬ ((7 : Int) = 9) by decide, if_false] at h1 h2 ⊢
    obtain ⟨u1, v1⟩ := z_took h1
    exact key _ rfl (by decide) (by decide) (Nat.zero_le _) zd (whole (r := rdZ xs 4 rd0) v1 h2)
  · subst k8
    simp only [show ¬ ((8 : Int) = 5) by decide, if_true, if_false] at h1 h2 ⊢
    obtain ⟨u1, v1⟩ := data_took hx h1
    refine key _ rfl (show (0 : Int) ≤ 2 by decide) (show (0 : Int) ≤ 2 by decide) hb.2 ⟨zd.dia, zd.siz, zd.clen, zd.cbyte, zd.lev, zd.dur, zd.made, zd.file, zd.kind, hb.1, zd.n, zd.ents⟩ ?_
    exact whole (r := (s8 xs).2) v1 h2
  · subst k9
    simp only [show ¬ ((9 : Int) = 5) by decide, show ¬ ((9 : Int) = 8) by decide, if_true, if_false] at h1 h2 ⊢
    obtain ⟨u1, v1⟩ := n_took hx h1
    refine key _ rfl (show (0 : Int) ≤ 2 by decide) (show (0 : Int) ≤ 2 by decide) (Nat.zero_le _) ⟨zd.dia, zd.siz, zd.clen, zd.cbyte, zd.lev, zd.dur, zd.made, zd.file, zd.kind, zd.data, b4 hx _, zd.ents⟩ ?_
    exact whole (r := (s9 xs).2) v1 h2
  · subst k10
    simp only [show ¬ ((10 : Int) = 5) by decide, show ¬ ((10 : Int) = 8) by decide, show ¬ ((10 : Int) = 9) by decide, if_false] at h1 h2 ⊢
    obtain ⟨u1, v1⟩ := z_took h1
    exact key _ rfl (by decide) (by decide) (Nat.zero_le _) zd (whole (r := rdZ xs 4 rd0) v1 h2)
theorem sgOf_ok (c : Int) {xs : List Int} (hx : Bytes xs) : (sgOf c xs).ok := by
  by_cases h : sgErr c xs = 0
  · exact (sg_once c hx h).2.2
  · unfold sgOf
    rw [if_neg h]
    exact zeroSay_ok
end Go.Proofs.YtdlcjobahdmapaaDoor
