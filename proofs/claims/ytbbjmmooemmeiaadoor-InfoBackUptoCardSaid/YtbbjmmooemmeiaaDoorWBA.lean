import Derived.WalkKit
import Derived.Deep.Draws
import Derived.Laws.Rows
import Derived.Laws.OwnMore
import Derived.Lib.RuneBytes
import Derived.Lib.ValidLaws
import Derived.Test.YtbbjmmooemmeiaaDoorRows
import Derived.Laws.CopyOwn
import Derived.Laws.AppendOwnNone
import Derived.Lib.Hide
import Derived.Laws.AppendOwn
import Derived.OwnWalk
import Derived.Lib.OthersKept
import Derived.Laws.BytesArg
import Derived.Shelf.Utf8.AppendRunePlain
import Derived.Shelf.Unicode.ValidAny
import Derived.Test.YtbbjmmooemmeiaaDoorProg
import Derived.WalkSpells
import Derived.WalkLawsBesides
import Derived.Deep.QuietTactic
import Derived.BigQuiet
import Derived.Laws.Bits64
import Derived.Laws.BitsAllLaws
import Derived.ProofKit
import Derived.OpenShut
import Derived.ShutString
import Derived.SizedLaws
import Derived.ChangeOld
import Derived.Lib.AppendZeros
import Derived.Deep.RegionWith
import Derived.Deep.DeepCutAuto
import Derived.Great.Walk
import Derived.Laws.Tables
import Derived.Laws.NewFold
import Derived.Deep.WholeRow
import Derived.Deep.MidRow
import Derived.OneCell
import Derived.Deep.Strs
import Derived.OrdersHeld
import Derived.Laws.StructEq
import Derived.ChangeKeysEq
import Derived.Deep.RegionLaw
import Derived.Deep.OwnRows
import Derived.Test.YtbbjmmooemmeiaaDoorWAD
import Derived.Test.YtbbjmmooemmeiaaDoorWAE
import Derived.Test.YtbbjmmooemmeiaaDoorWAF
import Derived.Test.YtbbjmmooemmeiaaDoorWAG
import Derived.Test.YtbbjmmooemmeiaaDoorWAH
import Derived.Test.YtbbjmmooemmeiaaDoorWAI
import Derived.Test.YtbbjmmooemmeiaaDoorWAJ
import Derived.Test.YtbbjmmooemmeiaaDoorWAK
import Derived.Test.YtbbjmmooemmeiaaDoorWAL
import Derived.Test.YtbbjmmooemmeiaaDoorWAM
import Derived.Test.YtbbjmmooemmeiaaDoorWAN
import Derived.Test.YtbbjmmooemmeiaaDoorWAO
import Derived.Test.YtbbjmmooemmeiaaDoorWAQ
import Derived.Test.YtbbjmmooemmeiaaDoorWAR
import Derived.Test.YtbbjmmooemmeiaaDoorWAV
namespace Go.Proofs.YtbbjmmooemmeiaaDoor
set_option linter.all false
set_option linter.unusedVariables false
set_option linter.unusedSimpArgs false
set_option maxRecDepth 100000
theorem rdK_at' {xs pre post : List Int} {v : Int} {p : Nat} (hx : xs = pre ++ (le v 2 ++ post)) (hp : pre.length = p) (h0 : 0 ≤ v) (h1 : v ≤ 2) : rdK xs ⟨p, 0⟩ = (v, ⟨p + 2, 0⟩) :=
  rdMost_of (rdN_at' 65536 (by decide) hx hp h0 (by omega)) h1
theorem rdEnt_at' {xs pre post : List Int} {e : EntryV} {p : Nat} (hx : xs = pre ++ (entryB e ++ post)) (hp : pre.length = p) (k : e.ok) (ho : entOk e = true) (ht : ptextErr e.name.data.toList = 0) : rdEnt xs ⟨p, 0⟩ = (e, ⟨p + (entryB e).length, 0⟩) := by
  obtain ⟨nm, kd, sz⟩ := e
  have k1 := k.kind
  change 0 ≤ kd ∧ kd ≤ _ at k1
  change ptextErr nm.data.toList = 0 at ht
  unfold entOk at ho
  simp only [Bool.and_eq_true, decide_eq_true_eq] at ho
  obtain ⟨o1, o2, o3⟩ := ho
  have hx1 : xs = pre ++ (le kd 2 ++ (List.replicate 2 0 ++ (le sz 8 ++ (ptextOf nm.data.toList ++ post)))) := by rw [hx]; simp only [entryB, List.append_assoc]
  have q1 : e1 xs ⟨p, 0⟩ = (kd, ⟨p + 2, 0⟩) := rdK_at' hx1 hp k1.1 o1
  have hx2 : xs = (pre ++ le kd 2) ++ (List.replicate 2 0 ++ (le sz 8 ++ (ptextOf nm.data.toList ++ post))) := by rw [hx1]; simp only [List.append_assoc]
  have q2 : e2 xs ⟨p, 0⟩ = ⟨p + 2 + 2, 0⟩ := by unfold e2; rw [q1]; exact rdZ_at' hx2 (by rw [List.length_append, le_length, hp])
  have hx3 : xs = (pre ++ le kd 2 ++ List.replicate 2 0) ++ (le sz 8 ++ (ptextOf nm.data.toList ++ post)) := by rw [hx1]; simp only [List.append_assoc]
  have q3 : e3 xs ⟨p, 0⟩ = (sz, ⟨p + 2 + 2 + 8, 0⟩) := by
    unfold e3; rw [q2]
    exact rdMost_of (rdN_at' 18446744073709551616 (by decide) hx3 (by rw [List.length_append, List.length_append, le_length, List.length_replicate, hp]) o2 (by omega)) o3
  have hx4 : xs = (pre ++ le kd 2 ++ List.replicate 2 0 ++ le sz 8) ++ (ptextOf nm.data.toList ++ post) := by rw [hx1]; simp only [List.append_assoc]
  have q4 : e4 xs ⟨p, 0⟩ = (nm.data.toList, ⟨p + 2 + 2 + 8 + (ptextOf nm.data.toList).length, 0⟩) := by
    unfold e4; rw [q3]
    exact rdText_at' hx4 (by rw [List.length_append, List.length_append, List.length_append, le_length, le_length, List.length_replicate, hp]) ht
  have hl : (entryB ⟨nm, kd, sz⟩).length = 2 + 2 + 8 + (ptextOf nm.data.toList).length := by
    show (le kd 2 ++ (List.replicate 2 0 ++ (le sz 8 ++ ptextOf nm.data.toList))).length = _
    simp only [List.length_append, le_length, List.length_replicate]; omega
  unfold rdEnt
  rw [q1, q3, q4, hl]
  show ((⟨⟨nm.data.toList.toArray⟩, kd, sz⟩ : EntryV), (⟨p + 2 + 2 + 8 + (ptextOf nm.data.toList).length, 0⟩ : Rd)) = _
  rw [str_of, show p + (2 + 2 + 8 + (ptextOf nm.data.toList).length) = p + 2 + 2 + 8 + (ptextOf nm.data.toList).length from by omega]
theorem entsErr_mem {l : List EntryV} (h : entsErr l = 0) : ∀ e ∈ l, ptextErr e.name.data.toList = 0 := by
  induction l with
  | nil => intro e he; cases he
  | cons x r ih =>
    unfold entsErr at h
    by_cases h1 : ptextErr x.name.data.toList = 0
    · rw [if_pos h1] at h
      intro e he
      rcases List.mem_cons.1 he with rfl | he
      · exact h1
      · exact ih h e he
    · rw [if_neg h1] at h; exact absurd h h1
theorem rdEnts_at' {xs pre post : List Int} {ls : List EntryV} {p : Nat} (hx : xs = pre ++ (entriesB ls ++ post)) (hp : pre.length = p) (k : ∀ l ∈ ls, l.ok) (h0 : ls.all entOk = true) (ht : entsErr ls = 0) : ∀ j, j ≤ ls.length → rdEnts xs ⟨p, 0⟩ j = (ls.take j, ⟨p + (entriesB (ls.take j)).length, 0⟩) := by
  intro j
  induction j with
  | zero => intro _; rfl
  | succ j ih =>
    intro hj
    have ih := ih (by omega)
    have hl : ls[j]? = some ls[j] := List.getElem?_eq_getElem (by omega)
    have hsp : ls = ls.take j ++ (ls[j] :: ls.drop (j + 1)) := by
      rw [← List.drop_eq_getElem_cons (by omega), List.take_append_drop]
    have hx2 : xs = (pre ++ entriesB (ls.take j)) ++ (entryB ls[j] ++ (entriesB (ls.drop (j + 1)) ++ post)) := by
      rw [hx]
      conv => lhs; rw [hsp]
      rw [entriesB_app]
      simp only [entriesB, List.append_assoc]
    have hm : ls[j] ∈ ls := List.getElem_mem (by omega)
    have e := rdEnt_at' (xs := xs) (p := p + (entriesB (ls.take j)).length) hx2 (by rw [List.length_append, hp]) (k _ hm) (List.all_eq_true.1 h0 _ hm) (entsErr_mem ht _ hm)
    show ((rdEnts xs ⟨p, 0⟩ j).1 ++ [(rdEnt xs (rdEnts xs ⟨p, 0⟩ j).2).1], (rdEnt xs (rdEnts xs ⟨p, 0⟩ j).2).2) = _
    rw [ih]
    show (ls.take j ++ [(rdEnt xs ⟨p + (entriesB (ls.take j)).length, 0⟩).1], (rdEnt xs ⟨p + (entriesB (ls.take j)).length, 0⟩).2) = _
    rw [e, List.take_add_one, hl]
    show (ls.take j ++ [ls[j]], (⟨p + (entriesB (ls.take j)).length + (entryB ls[j]).length, 0⟩ : Rd)) = (ls.take j ++ [ls[j]], ⟨p + (entriesB (ls.take j ++ [ls[j]])).length, 0⟩)
    rw [entriesB_app, List.length_append]
    simp only [entriesB, List.append_nil, Nat.add_assoc]
theorem ig_back (c : Int) (a : AskV) (ka : a.ok) (he : ipErr c a = 0) : igErr c (ipOf c a) = 0 ∧ igOf c (ipOf c a) = a := by
  have h := ig_at c a ka he []
  rw [List.append_nil] at h
  have h0 : igErr c (ipOf c a) = 0 := by
    unfold igErr
    rw [if_pos (ip_parts he).1, h]
    unfold rdEnd
    rw [if_neg (fun h2 => h2.2 rfl)]
  refine ⟨h0, ?_⟩
  unfold igOf
  rw [if_pos h0, h]
theorem jg_back (c : Int) (s : SayV) (ks : s.ok) (he : jpErr c s = 0) : jgErr c (jpOf c s) = 0 ∧ jgOf c (jpOf c s) = s := by
  obtain ⟨hk, hw, hkd, hes, hn, ht, ho⟩ := jp_parts he
  have b1 := ks.siz; have b2 := ks.kind; have b3 := ks.file; have b4 := ks.lev
  have key : jgP c (jpOf c s) = (s, ⟨(jpOf c s).length, 0⟩) := by
    rw [ho]
    rcases knownIS_cases hk with rfl | rfl | rfl | rfl
    · have ht := ht rfl
      obtain ⟨xs, hxs⟩ : ∃ x, x = bodyIS 14 s := ⟨_, rfl⟩
      rw [← hxs]
      have hx0 : xs = le s.ents.length 2 ++ (le (truthI s.more) 2 ++ (entriesB s.ents ++ [])) := by rw [hxs]; unfold bodyIS; rw [if_pos rfl, List.append_nil]
      have e1 : m1 xs = ((s.ents.length : Int), ⟨2, 0⟩) := rdMost_of (rdN_at' (pre := []) 65536 (by decide) hx0 rfl (by omega) (by omega)) (by omega)
      have e2 : m2 xs = (truthI s.more, ⟨4, 0⟩) := by unfold m2; rw [e1]; exact rdT_at' (pre := le s.ents.length 2) hx0 (by simp [le_length])
      have e3 : m3 xs = (s.ents, ⟨4 + (entriesB s.ents).length, 0⟩) := by
        unfold m3
        rw [e1, e2]
        show rdEnts xs ⟨4, 0⟩ ((s.ents.length : Int)).toNat = _
        rw [Int.toNat_natCast]
        have h := rdEnts_at' (xs := xs) (pre := le s.ents.length 2 ++ le (truthI s.more) 2) (post := []) (ls := s.ents) (p := 4) (by rw [hx0]; simp only [List.append_assoc]) (by simp [le_length]) ks.ents hes ht s.ents.length (Nat.le_refl _)
        rw [h, List.take_length]
      have hlen : xs.length = 4 + (entriesB s.ents).length := by rw [hx0]; simp only [List.length_append, le_length, List.length_nil]; omega
      unfold jgP
      rw [if_pos rfl, e2, e3, hlen]
      show (({ zeroSay with ents := s.ents, more := truthI s.more != 0 } : SayV), _) = _
      rw [truthI_ne]
      conv => rhs; rw [← hw]
      rfl
    · obtain ⟨xs, hxs⟩ : ∃ x, x = bodyIS 16 s := ⟨_, rfl⟩
      rw [← hxs]
      have hx0 : xs = le s.siz 8 ++ (le s.kind 2 ++ (le (truthI s.gone) 2 ++ [])) := by rw [hxs]; unfold bodyIS; rw [if_neg (by decide), if_pos rfl, List.append_nil]
      have e1 : l1 xs = (s.siz, ⟨8, 0⟩) := rdN_at' (pre := []) 18446744073709551616 (by decide) hx0 rfl b1.1 (by omega)
      have e2 : g2 xs = (s.kind, ⟨10, 0⟩) := by unfold g2; rw [e1]; exact rdK_at' (pre := le s.siz 8) hx0 (by simp [le_length]) b2.1 hkd
      have e3 : g3 xs = (truthI s.gone, ⟨12, 0⟩) := by unfold g3; rw [e2]; exact rdT_at' (pre := le s.siz 8 ++ le s.kind 2) (post := []) (by rw [hx0]; simp only [List.append_assoc]) (by simp [le_length])
      have hlen : xs.length = 12 := by rw [hx0]; simp [le_length]
      unfold jgP
      rw [if_neg (by decide), if_pos rfl, e1, e2, e3, hlen]
      show (({ zeroSay with siz := s.siz, kind := s.kind, gone := truthI s.gone != 0 } : SayV), _) = _
      rw [truthI_ne]
      conv => rhs; rw [← hw]
      rfl
    · have e := rdZ_at' (xs := bodyIS 17 s) (pre := []) (post := []) (m := 4) (p := 0) (by show List.replicate 4 0 = _; simp) rfl
      unfold jgP
      rw [if_neg (by decide), if_neg (by decide), if_neg (by decide)]
      show (zeroSay, rdZ (bodyIS 17 s) 4 ⟨0, 0⟩) = _
      rw [e]
      conv => rhs; rw [← hw]
      rfl
    · obtain ⟨xs, hxs⟩ : ∃ x, x = bodyIS 18 s := ⟨_, rfl⟩
      rw [← hxs]
      have hx0 : xs = le s.file 8 ++ (le s.lev 1 ++ (List.replicate 3 0 ++ [])) := by rw [hxs]; show le s.file 8 ++ (le s.lev 1 ++ List.replicate 3 0) = _; rw [List.append_nil]
      have e1 : l1 xs = (s.file, ⟨8, 0⟩) := rdN_at' (pre := []) 18446744073709551616 (by decide) hx0 rfl b3.1 (by omega)
      have e2 : k2 xs = (s.lev, ⟨9, 0⟩) := by unfold k2; rw [e1]; exact rdN_at' (pre := le s.file 8) 256 (by decide) hx0 (by simp [le_length]) b4.1 (by omega)
      have e3 : k3 xs = ⟨12, 0⟩ := by unfold k3; rw [e2]; exact rdZ_at' (pre := le s.file 8 ++ le s.lev 1) (post := []) (by rw [hx0]; simp only [List.append_assoc]) (by simp [le_length])
      have hlen : xs.length = 12 := by rw [hx0]; simp [le_length]
      unfold jgP
      rw [if_neg (by decide), if_neg (by decide), if_pos rfl, e1, e2, e3, hlen]
      conv => rhs; rw [← hw]
      rfl
  have h0 : jgErr c (jpOf c s) = 0 := by
    unfold jgErr
    rw [if_pos hk, key]
    unfold rdEnd
    rw [if_neg (fun h2 => h2.2 rfl)]
  refine ⟨h0, ?_⟩
  unfold jgOf
  rw [if_pos h0, key]
end Go.Proofs.YtbbjmmooemmeiaaDoor

namespace Go.Proofs.YtbbjmmooemmeiaaDoor
set_option linter.all false
open Go.RowKit
set_option linter.unusedVariables false
set_option maxRecDepth 100000
set_option maxHeartbeats 8000000 in
theorem walk_InfoBack (W : World) (hT : Tabs W) (a0 : Int) (w0 : 0 ≤ a0 ∧ a0 ≤ 65535) (cs1 : List Value) (a1 : AskV) (k1h : a1.ok) (h1h : AskIs W W.heap.size cs1 a1) (b1 : a1.dial.length ≤ 1048576 ∧ a1.data.length ≤ 1048576 ∧ a1.locks.length ≤ 1048576 ∧ a1.user.size ≤ 1048576 ∧ a1.share.size ≤ 1048576 ∧ a1.name.size ≤ 1048576 ∧ a1.pat.size ≤ 1048576 ∧ a1.aft.size ≤ 1048576)
    (cs2 : List Value) (a2 : SayV) (k2h : a2.ok) (h2h : SayIs W W.heap.size cs2 a2) (b2 : a2.data.length ≤ 1048576 ∧ a2.ents.length ≤ 1048576 ∧ ∀ e ∈ a2.ents, e.name.size ≤ 1048576) :
    Calls Tryd.prog 6 #[.int .u16 a0, .agg cs1.toArray, .agg cs2.toArray] W fun e W' => e = .returned (.bool true) ∧ Below W.heap.size W W' := by
  have HT := Lib.hid hT
  have HL := Lib.hid (h1h.len k1h)
  have HA := Lib.hid h1h
  have ZH := Lib.hid zero_ask
  have HZ : Hid ((acells (.slice none 0 0) (.slice none 0 0) (.slice none 0 0) zeroAsk).length = 69) := acells_len zeroAsk_ok
  have SL := Lib.hid (h2h.len k2h)
  have SA := Lib.hid h2h
  have ZS := Lib.hid zero_say
  have SZ : Hid ((scells (.slice none 0 0) (.slice none 0 0) zeroSay).length = 20) := scells_len zeroSay_ok
  obtain ⟨b1a, b1b, b1c, b1d, b1e, b1f, b1g, b1h⟩ := b1
  obtain ⟨b2b, b2c, b2n⟩ := b2
  have HYB := Lib.hid (ip_bytes (c := a0) k1h)
  have HYL := Lib.hid (ip_len (c := a0) (a := a1))
  have SYB := Lib.hid (jp_bytes (c := a0) k2h)
  have SYL := Lib.hid (jp_len (c := a0) (a := a2))
  have GK := Lib.hid (igOf_ok a0 HYB.out)
  have TK := Lib.hid (jgOf_ok a0 SYB.out)
  have FB := ig_back a0 a1 k1h
  have FS := jg_back a0 a2 k2h
  have CP : Hid (∀ w : World, Below W.heap.size W w → Calls Tryd.prog 11 #[.int .u16 a0, .agg cs1.toArray] w fun e w' => ∃ v, e = .returned (.tuple #[v, .int .i64 (ipErr a0 a1)]) ∧ Own w' w.heap.size v (ipOf a0 a1) ∧ Below w.heap.size w w') := fun w hb => (IPutAsk_any w a0 cs1 a1 w0 k1h (h1h.over hb) ⟨by omega, by omega⟩ ⟨by omega, by omega, by omega⟩ (hT.below hb)).mono fun e w' ⟨v, q1, q2, q3⟩ => ⟨v, q1, q2.own8, q3⟩
  have CG : Hid (∀ (w : World) (A : Option Addr) (n c : Nat), Holds w w.heap.size A n c (ipOf a0 a1) → Calls Tryd.prog 21 #[.int .u16 a0, .slice A n c] w fun e w' => ∃ cs : List Value, e = .returned (.tuple #[.agg cs.toArray, .int .i64 (igErr a0 (ipOf a0 a1))]) ∧ AskIs w' w'.heap.size cs (igOf a0 (ipOf a0 a1)) ∧ Below w.heap.size w w') := fun w A n c hh => (IGetAsk_any w a0 A n c _ w0 hh).mono fun e w' ⟨ds, h1, h2, _, h3⟩ => ⟨ds, h1, h2, h3⟩
  have CQ : Hid (∀ (w : World) (ds : List Value), AskIs w w.heap.size ds a1 → AskIs w w.heap.size cs1 a1 → Calls Tryd.prog 14 #[.agg ds.toArray, .agg cs1.toArray] w fun e w' => e = .returned (.bool true) ∧ Below w.heap.size w w') := fun w ds h1 h2 => by
    have h3 := Asks_any w ds cs1 a1 a1 k1h k1h h1 h2 ⟨by omega, by omega, by omega⟩ ⟨by omega, by omega, by omega⟩
    rwa [decide_eq_true rfl] at h3
  have DP : Hid (∀ w : World, Below W.heap.size W w → Calls Tryd.prog 17 #[.int .u16 a0, .agg cs2.toArray] w fun e w' => ∃ v, e = .returned (.tuple #[v, .int .i64 (jpErr a0 a2)]) ∧ Own w' w.heap.size v (jpOf a0 a2) ∧ Below w.heap.size w w') := fun w hb => (IPutSay_any w a0 cs2 a2 w0 k2h (h2h.over hb) ⟨by omega, fun e he => by have := b2n e he; omega⟩ (hT.below hb)).mono fun e w' ⟨v, q1, q2, q3⟩ => ⟨v, q1, q2.own8, q3⟩
  have DG : Hid (∀ (w : World) (A : Option Addr) (n c : Nat), Holds w w.heap.size A n c (jpOf a0 a2) → Calls Tryd.prog 23 #[.int .u16 a0, .slice A n c] w fun e w' => ∃ cs : List Value, e = .returned (.tuple #[.agg cs.toArray, .int .i64 (jgErr a0 (jpOf a0 a2))]) ∧ SayIs w' w'.heap.size cs (jgOf a0 (jpOf a0 a2)) ∧ Below w.heap.size w w') := fun w A n c hh => (IGetSay_any w a0 A n c _ w0 hh).mono fun e w' ⟨ds, h1, h2, _, h3⟩ => ⟨ds, h1, h2, h3⟩
  have DQ : Hid (∀ (w : World) (ds : List Value), SayIs w w.heap.size ds a2 → SayIs w w.heap.size cs2 a2 → Calls Tryd.prog 19 #[.agg ds.toArray, .agg cs2.toArray] w fun e w' => e = .returned (.bool true) ∧ Below w.heap.size w w') := fun w ds h1 h2 => by
    have h3 := Says_any w ds cs2 a2 a2 k2h k2h h1 h2 ⟨by omega, by omega⟩ ⟨by omega, by omega⟩
    rwa [decide_eq_true rfl] at h3
  have CL : Hid (∀ w : World, Tabs w → Calls Tryd.prog 15 #[] w fun e w' => e = .returned (.bool true) ∧ Below w.heap.size w w') := ilives_any
  obtain ⟨er, her⟩ : ∃ x, x = ipErr a0 a1 := ⟨_, rfl⟩
  obtain ⟨fs, hfs⟩ : ∃ x, x = jpErr a0 a2 := ⟨_, rfl⟩
  rw [← her] at CP FB
  rw [← hfs] at DP FS
  obtain ⟨ys, hys⟩ : ∃ x, x = ipOf a0 a1 := ⟨_, rfl⟩
  obtain ⟨zs, hzs⟩ : ∃ x, x = jpOf a0 a2 := ⟨_, rfl⟩
  rw [← hys] at CP CG HYB HYL GK FB
  rw [← hzs] at DP DG SYB SYL TK FS
  obtain ⟨eb, heb⟩ : ∃ x, x = igErr a0 ys := ⟨_, rfl⟩
  obtain ⟨ga, hga⟩ : ∃ x, x = igOf a0 ys := ⟨_, rfl⟩
  obtain ⟨ft, hft⟩ : ∃ x, x = jgErr a0 zs := ⟨_, rfl⟩
  obtain ⟨gs, hgs⟩ : ∃ x, x = jgOf a0 zs := ⟨_, rfl⟩
  rw [← heb, ← hga] at CG
  rw [← hga] at GK
  rw [← heb, ← hga] at FB
  rw [← hft, ← hgs] at DG
  rw [← hgs] at TK
  rw [← hft, ← hgs] at FS
  obtain ⟨nz, hnz⟩ : ∃ x, x = acells (.slice none 0 0) (.slice none 0 0) (.slice none 0 0) zeroAsk := ⟨_, rfl⟩
  rw [← hnz] at ZH HZ
  obtain ⟨nt, hnt⟩ : ∃ x, x = scells (.slice none 0 0) (.slice none 0 0) zeroSay := ⟨_, rfl⟩
  rw [← hnt] at ZS SZ
  clear her hfs hys hzs heb hga hft hgs hnz hnt hT h1h h2h
  by_cases he : er = 0
  · obtain ⟨rfl, rfl⟩ := FB he
    subst he
    by_cases hf : fs = 0
    · obtain ⟨rfl, rfl⟩ := FS hf
      subst hf
      go_enter Tryd.func6, Tryd.ntmps6
      go_wp2_with (first
        | ((with_reducible show wpList _ _ _ (⟨some 4, _, _, _, _, _⟩ :: _) _ _); refine wpList_box_blk rfl _ (.tmp 1) rfl cs1 rfl ?_; intro g v1 hg1 hg2 K1 L1)
        | ((with_reducible show wpList _ _ _ (⟨some 5, _, _, _, _, _⟩ :: _) _ _); refine wpList_box_blk rfl _ (.tmp 2) rfl cs2 rfl ?_; intro h v2 hh1 hh2 Q2 L2; have K2 := Lib.hid (K1.out.over L2.out); have M2 := Lib.hid (step L1.out L2.out))
        | ((with_reducible show wpList _ _ _ (⟨some 17, _, _, _, _, _⟩ :: _) _ _); refine wpList_load_blk rfl _ (.tmp 4) rfl g rfl _ cs1 K2 69 _ Tryd.underlying32 rfl size_ask HL ?_)
        | fail)
      refine (CP.out v2 M2.out).mono ?_
      rintro e v3 ⟨u3, rfl, ho3, L3⟩
      have K3 := Lib.hid (K2.out.over L3)
      have Q3 := Lib.hid (Q2.out.over L3)
      have M3 := Lib.hid (step M2.out L3)
      obtain ⟨A3, c3, rfl, hh3⟩ := ho3.holds HYB.out (by have := HYL.out; omega)
      have H3 := Lib.hid hh3
      obtain ⟨m3, hm3⟩ : ∃ m, m = ys.length := ⟨_, rfl⟩
      rw [← hm3] at H3 ⊢
      clear hh3 hm3 ho3 L3 K1 L1 Q2 L2 K2 M2
      go_wp2_with fail
      refine (CG.out v3 A3 m3 c3 H3.out).mono ?_
      rintro e v4 ⟨ds, rfl, hd, L4⟩
      have K4 := Lib.hid (K3.out.over L4)
      have Q4 := Lib.hid (Q3.out.over L4)
      have M4 := Lib.hid (step M3.out L4)
      have D4 := Lib.hid hd
      have DL := Lib.hid (hd.len GK.out)
      have DO := Lib.hid hd.one
      clear hd L4 K3 Q3 M3 H3
      go_wp2_with (first
        | ((with_reducible show wpList _ _ _ (⟨some 9, _, _, _, _, _⟩ :: _) _ _); refine wpList_alloc_blk rfl _ rfl nz _ ZH ?_; intro h5 v5 hg5 hg6 Z5 L5)
        | ((with_reducible show wpList _ _ _ (⟨none, .store _ (.tmp 9) _, _, _, _, _⟩ :: _) _ _); refine wpList_store_blk rfl _ (.tmp 9) (.tmp 25) rfl h5 rfl _ nz ds rfl Z5 69 size_ask HZ DL DO ?_; intro v6 X6 O6 hg7; have L6 := Lib.hid (below_only L5.out O6.out hg5); have M6 := Lib.hid (step M4.out L6.out); have K6 := Lib.hid (K4.out.over L6.out); have Q6 := Lib.hid (Q4.out.over L6.out); have D6 := Lib.hid (D4.out.over L6.out))
        | ((with_reducible show wpList _ _ _ (⟨some 33, _, _, _, _, _⟩ :: _) _ _); refine wpList_load_want (by kernel_rfl) _ (.tmp 9) rfl h5 rfl _ ds X6 69 _ Tryd.underlying32 rfl size_ask DL ?_)
        | ((with_reducible show wpList _ _ _ (⟨some 34, _, _, _, _, _⟩ :: _) _ _); refine wpList_load_want (by kernel_rfl) _ (.tmp 4) rfl g rfl _ cs1 K6 69 _ Tryd.underlying32 rfl size_ask HL ?_)
        | fail)
      refine (CQ.out v6 ds D6.out (HA.out.over M6.out)).mono ?_
      rintro e v7 ⟨rfl, L7⟩
      have Q7 := Lib.hid (Q6.out.over L7)
      have M7 := Lib.hid (step M6.out L7)
      clear L7 Q6 M6 K6 D6 X6 O6 L6 Z5 L5 K4 Q4 M4 D4
      go_wp2_with (first
        | ((with_reducible show wpList _ _ _ (⟨some 41, _, _, _, _, _⟩ :: _) _ _); refine wpList_load_blk rfl _ (.tmp 5) rfl h rfl _ cs2 Q7 20 _ Tryd.underlying45 rfl size_say SL ?_)
        | fail)
      refine (DP.out v7 M7.out).mono ?_
      rintro e v8 ⟨u8, rfl, ho8, L8⟩
      have Q8 := Lib.hid (Q7.out.over L8)
      have M8 := Lib.hid (step M7.out L8)
      obtain ⟨A8, c8, rfl, hh8⟩ := ho8.holds SYB.out (by have := SYL.out; omega)
      have H8 := Lib.hid hh8
      obtain ⟨m8, hm8⟩ : ∃ m, m = zs.length := ⟨_, rfl⟩
      rw [← hm8] at H8 ⊢
      clear hh8 hm8 ho8 L8 Q7 M7
      go_wp2_with fail
      refine (DG.out v8 A8 m8 c8 H8.out).mono ?_
      rintro e v9 ⟨es, rfl, hd9, L9⟩
      have Q9 := Lib.hid (Q8.out.over L9)
      have M9 := Lib.hid (step M8.out L9)
      have D9 := Lib.hid hd9
      have EL := Lib.hid (hd9.len TK.out)
      have EO := Lib.hid hd9.one
      clear hd9 L9 Q8 M8 H8
      go_wp2_with (first
        | ((with_reducible show wpList _ _ _ (⟨some 13, _, _, _, _, _⟩ :: _) _ _); refine wpList_alloc_blk rfl _ rfl nt _ ZS ?_; intro h10 v10 hg10 hg11 Z10 L10)
        | ((with_reducible show wpList _ _ _ (⟨none, .store _ (.tmp 13) _, _, _, _, _⟩ :: _) _ _); refine wpList_store_blk rfl _ (.tmp 13) (.tmp 49) rfl h10 rfl _ nt es rfl Z10 20 size_say SZ EL EO ?_; intro v11 X11 O11 hg12; have L11 := Lib.hid (below_only L10.out O11.out hg10); have M11 := Lib.hid (step M9.out L11.out); have Q11 := Lib.hid (Q9.out.over L11.out); have D11 := Lib.hid (D9.out.over L11.out))
        | ((with_reducible show wpList _ _ _ (⟨some 57, _, _, _, _, _⟩ :: _) _ _); refine wpList_load_want (by kernel_rfl) _ (.tmp 13) rfl h10 rfl _ es X11 20 _ Tryd.underlying45 rfl size_say EL ?_)
        | ((with_reducible show wpList _ _ _ (⟨some 58, _, _, _, _, _⟩ :: _) _ _); refine wpList_load_want (by kernel_rfl) _ (.tmp 5) rfl h rfl _ cs2 Q11 20 _ Tryd.underlying45 rfl size_say SL ?_)
        | fail)
      refine (DQ.out v11 es D11.out (SA.out.over M11.out)).mono ?_
      rintro e v12 ⟨rfl, L12⟩
      have M12 := Lib.hid (step M11.out L12)
      go_wp2_with fail
      refine (CL.out v12 (HT.out.below M12.out)).mono ?_
      rintro e v13 ⟨rfl, L13⟩
      go_wp2
      go_ret
      exact ⟨rfl, step M12.out L13⟩
    · clear FS
      go_enter Tryd.func6, Tryd.ntmps6
      go_wp2_with (first
        | ((with_reducible show wpList _ _ _ (⟨some 4, _, _, _, _, _⟩ :: _) _ _); refine wpList_box_blk rfl _ (.tmp 1) rfl cs1 rfl ?_; intro g v1 hg1 hg2 K1 L1)
        | ((with_reducible show wpList _ _ _ (⟨some 5, _, _, _, _, _⟩ :: _) _ _); refine wpList_box_blk rfl _ (.tmp 2) rfl cs2 rfl ?_; intro h v2 hh1 hh2 Q2 L2; have K2 := Lib.hid (K1.out.over L2.out); have M2 := Lib.hid (step L1.out L2.out))
        | ((with_reducible show wpList _ _ _ (⟨some 17, _, _, _, _, _⟩ :: _) _ _); refine wpList_load_blk rfl _ (.tmp 4) rfl g rfl _ cs1 K2 69 _ Tryd.underlying32 rfl size_ask HL ?_)
        | fail)
      refine (CP.out v2 M2.out).mono ?_
      rintro e v3 ⟨u3, rfl, ho3, L3⟩
      have K3 := Lib.hid (K2.out.over L3)
      have Q3 := Lib.hid (Q2.out.over L3)
      have M3 := Lib.hid (step M2.out L3)
      obtain ⟨A3, c3, rfl, hh3⟩ := ho3.holds HYB.out (by have := HYL.out; omega)
      have H3 := Lib.hid hh3
      obtain ⟨m3, hm3⟩ : ∃ m, m = ys.length := ⟨_, rfl⟩
      rw [← hm3] at H3 ⊢
      clear hh3 hm3 ho3 L3 K1 L1 Q2 L2 K2 M2
      go_wp2_with fail
      refine (CG.out v3 A3 m3 c3 H3.out).mono ?_
      rintro e v4 ⟨ds, rfl, hd, L4⟩
      have K4 := Lib.hid (K3.out.over L4)
      have Q4 := Lib.hid (Q3.out.over L4)
      have M4 := Lib.hid (step M3.out L4)
      have D4 := Lib.hid hd
      have DL := Lib.hid (hd.len GK.out)
      have DO := Lib.hid hd.one
      clear hd L4 K3 Q3 M3 H3
      go_wp2_with (first
        | ((with_reducible show wpList _ _ _ (⟨some 9, _, _, _, _, _⟩ :: _) _ _); refine wpList_alloc_blk rfl _ rfl nz _ ZH ?_; intro h5 v5 hg5 hg6 Z5 L5)
        | ((with_reducible show wpList _ _ _ (⟨none, .store _ (.tmp 9) _, _, _, _, _⟩ :: _) _ _); refine wpList_store_blk rfl _ (.tmp 9) (.tmp 25) rfl h5 rfl _ nz ds rfl Z5 69 size_ask HZ DL DO ?_; intro v6 X6 O6 hg7; have L6 := Lib.hid (below_only L5.out O6.out hg5); have M6 := Lib.hid (step M4.out L6.out); have K6 := Lib.hid (K4.out.over L6.out); have Q6 := Lib.hid (Q4.out.over L6.out); have D6 := Lib.hid (D4.out.over L6.out))
        | ((with_reducible show wpList _ _ _ (⟨some 33, _, _, _, _, _⟩ :: _) _ _); refine wpList_load_want (by kernel_rfl) _ (.tmp 9) rfl h5 rfl _ ds X6 69 _ Tryd.underlying32 rfl size_ask DL ?_)
        | ((with_reducible show wpList _ _ _ (⟨some 34, _, _, _, _, _⟩ :: _) _ _); refine wpList_load_want (by kernel_rfl) _ (.tmp 4) rfl g rfl _ cs1 K6 69 _ Tryd.underlying32 rfl size_ask HL ?_)
        | fail)
      refine (CQ.out v6 ds D6.out (HA.out.over M6.out)).mono ?_
      rintro e v7 ⟨rfl, L7⟩
      have Q7 := Lib.hid (Q6.out.over L7)
      have M7 := Lib.hid (step M6.out L7)
      clear L7 Q6 M6 K6 D6 X6 O6 L6 Z5 L5 K4 Q4 M4 D4
      go_wp2_with (first
        | ((with_reducible show wpList _ _ _ (⟨some 41, _, _, _, _, _⟩ :: _) _ _); refine wpList_load_blk rfl _ (.tmp 5) rfl h rfl _ cs2 Q7 20 _ Tryd.underlying45 rfl size_say SL ?_)
        | fail)
      refine (DP.out v7 M7.out).mono ?_
      rintro e v8 ⟨u8, rfl, ho8, L8⟩
      have Q8 := Lib.hid (Q7.out.over L8)
      have M8 := Lib.hid (step M7.out L8)
      obtain ⟨A8, c8, rfl, hh8⟩ := ho8.holds SYB.out (by have := SYL.out; omega)
      have H8 := Lib.hid hh8
      obtain ⟨m8, hm8⟩ : ∃ m, m = zs.length := ⟨_, rfl⟩
      rw [← hm8] at H8 ⊢
      clear hh8 hm8 ho8 L8 Q7 M7
      go_wp2_with fail
      refine (DG.out v8 A8 m8 c8 H8.out).mono ?_
      rintro e v9 ⟨es, rfl, hd9, L9⟩
      have Q9 := Lib.hid (Q8.out.over L9)
      have M9 := Lib.hid (step M8.out L9)
      have D9 := Lib.hid hd9
      have EL := Lib.hid (hd9.len TK.out)
      have EO := Lib.hid hd9.one
      clear hd9 L9 Q8 M8 H8
      go_wp2_with (first
        | ((with_reducible show wpList _ _ _ (⟨some 13, _, _, _, _, _⟩ :: _) _ _); refine wpList_alloc_blk rfl _ rfl nt _ ZS ?_; intro h10 v10 hg10 hg11 Z10 L10)
        | ((with_reducible show wpList _ _ _ (⟨none, .store _ (.tmp 13) _, _, _, _, _⟩ :: _) _ _); refine wpList_store_blk rfl _ (.tmp 13) (.tmp 49) rfl h10 rfl _ nt es rfl Z10 20 size_say SZ EL EO ?_; intro v11 X11 O11 hg12; have L11 := Lib.hid (below_only L10.out O11.out hg10); have M11 := Lib.hid (step M9.out L11.out); have Q11 := Lib.hid (Q9.out.over L11.out); have D11 := Lib.hid (D9.out.over L11.out))
        | fail)
      have M12 := M11
      refine (CL.out v11 (HT.out.below M12.out)).mono ?_
      rintro e v13 ⟨rfl, L13⟩
      go_wp2
      go_ret
      exact ⟨rfl, step M12.out L13⟩
  · clear FB
    by_cases hf : fs = 0
    · obtain ⟨rfl, rfl⟩ := FS hf
      subst hf
      go_enter Tryd.func6, Tryd.ntmps6
      go_wp2_with (first
        | ((with_reducible show wpList _ _ _ (⟨some 4, _, _, _, _, _⟩ :: _) _ _); refine wpList_box_blk rfl _ (.tmp 1) rfl cs1 rfl ?_; intro g v1 hg1 hg2 K1 L1)
        | ((with_reducible show wpList _ _ _ (⟨some 5, _, _, _, _, _⟩ :: _) _ _); refine wpList_box_blk rfl _ (.tmp 2) rfl cs2 rfl ?_; intro h v2 hh1 hh2 Q2 L2; have K2 := Lib.hid (K1.out.over L2.out); have M2 := Lib.hid (step L1.out L2.out))
        | ((with_reducible show wpList _ _ _ (⟨some 17, _, _, _, _, _⟩ :: _) _ _); refine wpList_load_blk rfl _ (.tmp 4) rfl g rfl _ cs1 K2 69 _ Tryd.underlying32 rfl size_ask HL ?_)
        | fail)
      refine (CP.out v2 M2.out).mono ?_
      rintro e v3 ⟨u3, rfl, ho3, L3⟩
      have K3 := Lib.hid (K2.out.over L3)
      have Q3 := Lib.hid (Q2.out.over L3)
      have M3 := Lib.hid (step M2.out L3)
      obtain ⟨A3, c3, rfl, hh3⟩ := ho3.holds HYB.out (by have := HYL.out; omega)
      have H3 := Lib.hid hh3
      obtain ⟨m3, hm3⟩ : ∃ m, m = ys.length := ⟨_, rfl⟩
      rw [← hm3] at H3 ⊢
      clear hh3 hm3 ho3 L3 K1 L1 Q2 L2 K2 M2
      go_wp2_with fail
      refine (CG.out v3 A3 m3 c3 H3.out).mono ?_
      rintro e v4 ⟨ds, rfl, hd, L4⟩
      have K4 := Lib.hid (K3.out.over L4)
      have Q4 := Lib.hid (Q3.out.over L4)
      have M4 := Lib.hid (step M3.out L4)
      have D4 := Lib.hid hd
      have DL := Lib.hid (hd.len GK.out)
      have DO := Lib.hid hd.one
      clear hd L4 K3 Q3 M3 H3
      go_wp2_with (first
        | ((with_reducible show wpList _ _ _ (⟨some 9, _, _, _, _, _⟩ :: _) _ _); refine wpList_alloc_blk rfl _ rfl nz _ ZH ?_; intro h5 v5 hg5 hg6 Z5 L5)
        | ((with_reducible show wpList _ _ _ (⟨none, .store _ (.tmp 9) _, _, _, _, _⟩ :: _) _ _); refine wpList_store_blk rfl _ (.tmp 9) (.tmp 25) rfl h5 rfl _ nz ds rfl Z5 69 size_ask HZ DL DO ?_; intro v6 X6 O6 hg7; have L6 := Lib.hid (below_only L5.out O6.out hg5); have M6 := Lib.hid (step M4.out L6.out); have K6 := Lib.hid (K4.out.over L6.out); have Q6 := Lib.hid (Q4.out.over L6.out); have D6 := Lib.hid (D4.out.over L6.out))
        | ((with_reducible show wpList _ _ _ (⟨some 41, _, _, _, _, _⟩ :: _) _ _); refine wpList_load_blk rfl _ (.tmp 5) rfl h rfl _ cs2 Q6 20 _ Tryd.underlying45 rfl size_say SL ?_)
        | fail)
      refine (DP.out v6 M6.out).mono ?_
      rintro e v8 ⟨u8, rfl, ho8, L8⟩
      have Q8 := Lib.hid (Q6.out.over L8)
      have M8 := Lib.hid (step M6.out L8)
      obtain ⟨A8, c8, rfl, hh8⟩ := ho8.holds SYB.out (by have := SYL.out; omega)
      have H8 := Lib.hid hh8
      obtain ⟨m8, hm8⟩ : ∃ m, m = zs.length := ⟨_, rfl⟩
      rw [← hm8] at H8 ⊢
      clear hh8 hm8 ho8 L8 Q6 M6
      go_wp2_with fail
      refine (DG.out v8 A8 m8 c8 H8.out).mono ?_
      rintro e v9 ⟨es, rfl, hd9, L9⟩
      have Q9 := Lib.hid (Q8.out.over L9)
      have M9 := Lib.hid (step M8.out L9)
      have D9 := Lib.hid hd9
      have EL := Lib.hid (hd9.len TK.out)
      have EO := Lib.hid hd9.one
      clear hd9 L9 Q8 M8 H8
      go_wp2_with (first
        | ((with_reducible show wpList _ _ _ (⟨some 13, _, _, _, _, _⟩ :: _) _ _); refine wpList_alloc_blk rfl _ rfl nt _ ZS ?_; intro h10 v10 hg10 hg11 Z10 L10)
        | ((with_reducible show wpList _ _ _ (⟨none, .store _ (.tmp 13) _, _, _, _, _⟩ :: _) _ _); refine wpList_store_blk rfl _ (.tmp 13) (.tmp 49) rfl h10 rfl _ nt es rfl Z10 20 size_say SZ EL EO ?_; intro v11 X11 O11 hg12; have L11 := Lib.hid (below_only L10.out O11.out hg10); have M11 := Lib.hid (step M9.out L11.out); have Q11 := Lib.hid (Q9.out.over L11.out); have D11 := Lib.hid (D9.out.over L11.out))
        | ((with_reducible show wpList _ _ _ (⟨some 57, _, _, _, _, _⟩ :: _) _ _); refine wpList_load_want (by kernel_rfl) _ (.tmp 13) rfl h10 rfl _ es X11 20 _ Tryd.underlying45 rfl size_say EL ?_)
        | ((with_reducible show wpList _ _ _ (⟨some 58, _, _, _, _, _⟩ :: _) _ _); refine wpList_load_want (by kernel_rfl) _ (.tmp 5) rfl h rfl _ cs2 Q11 20 _ Tryd.underlying45 rfl size_say SL ?_)
        | fail)
      refine (DQ.out v11 es D11.out (SA.out.over M11.out)).mono ?_
      rintro e v12 ⟨rfl, L12⟩
      have M12 := Lib.hid (step M11.out L12)
      go_wp2_with fail
      refine (CL.out v12 (HT.out.below M12.out)).mono ?_
      rintro e v13 ⟨rfl, L13⟩
      go_wp2
      go_ret
      exact ⟨rfl, step M12.out L13⟩
    · clear FS
      go_enter Tryd.func6, Tryd.ntmps6
      go_wp2_with (first
        | ((with_reducible show wpList _ _ _ (⟨some 4, _, _, _, _, _⟩ :: _) _ _); refine wpList_box_blk rfl _ (.tmp 1) rfl cs1 rfl ?_; intro g v1 hg1 hg2 K1 L1)
        | ((with_reducible show wpList _ _ _ (⟨some 5, _, _, _, _, _⟩ :: _) _ _); refine wpList_box_blk rfl _ (.tmp 2) rfl cs2 rfl ?_; intro h v2 hh1 hh2 Q2 L2; have K2 := Lib.hid (K1.out.over L2.out); have M2 := Lib.hid (step L1.out L2.out))
        | ((with_reducible show wpList _ _ _ (⟨some 17, _, _, _, _, _⟩ :: _) _ _); refine wpList_load_blk rfl _ (.tmp 4) rfl g rfl _ cs1 K2 69 _ Tryd.underlying32 rfl size_ask HL ?_)
        | fail)
      refine (CP.out v2 M2.out).mono ?_
      rintro e v3 ⟨u3, rfl, ho3, L3⟩
      have K3 := Lib.hid (K2.out.over L3)
      have Q3 := Lib.hid (Q2.out.over L3)
      have M3 := Lib.hid (step M2.out L3)
      obtain ⟨A3, c3, rfl, hh3⟩ := ho3.holds HYB.out (by have := HYL.out; omega)
      have H3 := Lib.hid hh3
      obtain ⟨m3, hm3⟩ : ∃ m, m = ys.length := ⟨_, rfl⟩
      rw [← hm3] at H3 ⊢
      clear hh3 hm3 ho3 L3 K1 L1 Q2 L2 K2 M2
      go_wp2_with fail
      refine (CG.out v3 A3 m3 c3 H3.out).mono ?_
      rintro e v4 ⟨ds, rfl, hd, L4⟩
      have K4 := Lib.hid (K3.out.over L4)
      have Q4 := Lib.hid (Q3.out.over L4)
      have M4 := Lib.hid (step M3.out L4)
      have D4 := Lib.hid hd
      have DL := Lib.hid (hd.len GK.out)
      have DO := Lib.hid hd.one
      clear hd L4 K3 Q3 M3 H3
      go_wp2_with (first
        | ((with_reducible show wpList _ _ _ (⟨some 9, _, _, _, _, _⟩ :: _) _ _); refine wpList_alloc_blk rfl _ rfl nz _ ZH ?_; intro h5 v5 hg5 hg6 Z5 L5)
        | ((with_reducible show wpList _ _ _ (⟨none, .store _ (.tmp 9) _, _, _, _, _⟩ :: _) _ _); refine wpList_store_blk rfl _ (.tmp 9) (.tmp 25) rfl h5 rfl _ nz ds rfl Z5 69 size_ask HZ DL DO ?_; intro v6 X6 O6 hg7; have L6 := Lib.hid (below_only L5.out O6.out hg5); have M6 := Lib.hid (step M4.out L6.out); have K6 := Lib.hid (K4.out.over L6.out); have Q6 := Lib.hid (Q4.out.over L6.out); have D6 := Lib.hid (D4.out.over L6.out))
        | ((with_reducible show wpList _ _ _ (⟨some 41, _, _, _, _, _⟩ :: _) _ _); refine wpList_load_blk rfl _ (.tmp 5) rfl h rfl _ cs2 Q6 20 _ Tryd.underlying45 rfl size_say SL ?_)
        | fail)
      refine (DP.out v6 M6.out).mono ?_
      rintro e v8 ⟨u8, rfl, ho8, L8⟩
      have Q8 := Lib.hid (Q6.out.over L8)
      have M8 := Lib.hid (step M6.out L8)
      obtain ⟨A8, c8, rfl, hh8⟩ := ho8.holds SYB.out (by have := SYL.out; omega)
      have H8 := Lib.hid hh8
      obtain ⟨m8, hm8⟩ : ∃ m, m = zs.length := ⟨_, rfl⟩
      rw [← hm8] at H8 ⊢
      clear hh8 hm8 ho8 L8 Q6 M6
      go_wp2_with fail
      refine (DG.out v8 A8 m8 c8 H8.out).mono ?_
      rintro e v9 ⟨es, rfl, hd9, L9⟩
      have Q9 := Lib.hid (Q8.out.over L9)
      have M9 := Lib.hid (step M8.out L9)
      have D9 := Lib.hid hd9
      have EL := Lib.hid (hd9.len TK.out)
      have EO := Lib.hid hd9.one
      clear hd9 L9 Q8 M8 H8
      go_wp2_with (first
        | ((with_reducible show wpList _ _ _ (⟨some 13, _, _, _, _, _⟩ :: _) _ _); refine wpList_alloc_blk rfl _ rfl nt _ ZS ?_; intro h10 v10 hg10 hg11 Z10 L10)
        | ((with_reducible show wpList _ _ _ (⟨none, .store _ (.tmp 13) _, _, _, _, _⟩ :: _) _ _); refine wpList_store_blk rfl _ (.tmp 13) (.tmp 49) rfl h10 rfl _ nt es rfl Z10 20 size_say SZ EL EO ?_; intro v11 X11 O11 hg12; have L11 := Lib.hid (below_only L10.out O11.out hg10); have M11 := Lib.hid (step M9.out L11.out); have Q11 := Lib.hid (Q9.out.over L11.out); have D11 := Lib.hid (D9.out.over L11.out))
        | fail)
      have M12 := M11
      refine (CL.out v11 (HT.out.below M12.out)).mono ?_
      rintro e v13 ⟨rfl, L13⟩
      go_wp2
      go_ret
      exact ⟨rfl, step M12.out L13⟩
end Go.Proofs.YtbbjmmooemmeiaaDoor
