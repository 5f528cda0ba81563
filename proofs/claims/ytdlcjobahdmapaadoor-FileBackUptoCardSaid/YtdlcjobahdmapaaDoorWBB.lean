import Derived.WalkKit
import Derived.Deep.Draws
import Derived.Laws.Rows
import Derived.Laws.OwnMore
import Derived.Lib.RuneBytes
import Derived.Lib.ValidLaws
import Derived.Test.YtdlcjobahdmapaaDoorRows
import Derived.Laws.CopyOwn
import Derived.Laws.AppendOwnNone
import Derived.Lib.Hide
import Derived.Laws.AppendOwn
import Derived.OwnWalk
import Derived.Lib.OthersKept
import Derived.Laws.BytesArg
import Derived.Shelf.Utf8.AppendRunePlain
import Derived.Shelf.Unicode.ValidAny
import Derived.Test.YtdlcjobahdmapaaDoorProg
import Derived.WalkSpells
import Derived.WalkLawsBesides
import Derived.Deep.QuietTactic
import Derived.BigQuiet
import Derived.Laws.Bits64
import Derived.Laws.BitsAllLaws
import Derived.ProofKit
import Derived.OpenShut
import Derived.ShutString
import Derived.SizedLaws
import Derived.ChangeOld
import Derived.Lib.AppendZeros
import Derived.Deep.RegionWith
import Derived.Deep.DeepCutAuto
import Derived.Great.Walk
import Derived.Laws.Tables
import Derived.Laws.NewFold
import Derived.Deep.WholeRow
import Derived.Deep.MidRow
import Derived.OneCell
import Derived.Deep.Strs
import Derived.OrdersHeld
import Derived.Laws.StructEq
import Derived.ChangeKeysEq
import Derived.Deep.RegionLaw
import Derived.Deep.OwnRows
import Derived.Test.YtdlcjobahdmapaaDoorWAD
import Derived.Test.YtdlcjobahdmapaaDoorWAE
import Derived.Test.YtdlcjobahdmapaaDoorWAF
import Derived.Test.YtdlcjobahdmapaaDoorWAH
import Derived.Test.YtdlcjobahdmapaaDoorWAI
import Derived.Test.YtdlcjobahdmapaaDoorWAJ
import Derived.Test.YtdlcjobahdmapaaDoorWAM
namespace Go.Proofs.YtdlcjobahdmapaaDoor
set_option linter.all false
open Go.RowKit
section
variable {w w' : World} {B B' : Nat} {A : Option Addr} {n c : Nat} {xs : List Int}
end
theorem num_le (n : Int) (s : Nat) (h0 : 0 ≤ n) (h : n < 256 ^ s) : num (le n s) = n := by
  induction s generalizing n with
  | zero => simp at h; simp [le, num]; omega
  | succ s ih =>
    have := ih (n / 256) (by omega) (by rw [Int.pow_succ] at h; omega)
    simp only [le, num, this]
    omega
end Go.Proofs.YtdlcjobahdmapaaDoor

namespace Go.Proofs.YtdlcjobahdmapaaDoor
set_option linter.all false
open Go.Lib
theorem take_head (l : List UInt8) (hne : l ≠ []) : l.take (decodeL l).2 = enc (headOf l) := by
  unfold enc
  rcases head_shape l hne with ⟨h0, h1, h2⟩ | ⟨_, h0, h1, h2⟩
  · rw [h1, if_neg h2.lt, encode_decode l hne h0]
  · rw [h1, if_pos (by omega), h0, takeA l (List.length_pos_iff.2 hne)]
    rw [toByte _ (l.getD 0 0) (by omega)]
/-- the letters' bytes are the row -/
theorem letters_enc (l : List UInt8) : (letters l).flatMap enc = l := by
  induction l using letters_ind with
  | h0 => rfl
  | h1 l hne ih => rw [letters_step l hne, List.flatMap_cons, ih, ← take_head l hne, List.take_append_drop]
end Go.Proofs.YtdlcjobahdmapaaDoor

namespace Go.Proofs.YtdlcjobahdmapaaDoor
set_option linter.all false
open Go.RowKit
theorem letAt_put (pre : List Int) (r : Int) (hr : IsLetter r) (post : List Int) : letAt (pre ++ (unitBytes r ++ post)) pre.length = (r, (unitBytes r).length) := by
  obtain ⟨h0, h1, h2⟩ := hr
  have g : ∀ (ys : List Int) i, (pre ++ ys).getD (pre.length + i) 0 = ys.getD i 0 := fun ys i => by
    rw [List.getD_eq_getElem?_getD, List.getElem?_append_right (by omega), Nat.add_sub_cancel_left, List.getD_eq_getElem?_getD]
  have g0 : ∀ (ys : List Int), (pre ++ ys).getD pre.length 0 = ys.getD 0 0 := fun ys => g ys 0
  unfold letAt unitAt
  rw [g0, g, Nat.add_assoc, g, g, List.length_append]
  unfold unitBytes
  by_cases c : r < 65536
  · rw [if_pos c]
    simp only [List.cons_append, List.nil_append, List.length_cons, List.length_nil, List.getD_cons_zero, List.getD_cons_succ]
    rw [if_neg (by omega), if_neg (by omega), if_pos (by omega)]
    exact Prod.ext (by dsimp only; omega) rfl
  · rw [if_neg c]
    simp only [List.cons_append, List.nil_append, List.length_cons, List.length_nil, List.getD_cons_zero, List.getD_cons_succ]
    rw [if_neg (by omega), if_neg (by omega), if_neg (by omega), if_neg (by omega), if_pos (by omega)]
    exact Prod.ext (by dsimp only; omega) rfl
/-- a text comes back of its bytes -/
theorem getK_put : ∀ (rs : List Int) (_ : ∀ r ∈ rs, IsLetter r) (pre : List Int) (_ : Bytes pre), getK (pre ++ putBytes rs) pre.length = some rs
  | [], _, pre, _ => by rw [getK_end (by simp [putBytes])]
  | r :: rs, h, pre, hp => by
    have hr := h r List.mem_cons_self
    have hrs : ∀ x ∈ rs, IsLetter x := fun x hx => h x (List.mem_cons_of_mem _ hx)
    have e : putBytes (r :: rs) = unitBytes r ++ putBytes rs := by simp [putBytes]
    have hpos : 2 ≤ (unitBytes r).length := by unfold unitBytes; split <;> simp
    have hb : Bytes (pre ++ putBytes (r :: rs)) := hp.append (putBytes_byte h)
    rw [getK_step hb (by rw [e]; simp; omega), e, letAt_put pre r hr]
    dsimp only
    rw [if_neg (by omega), ← List.append_assoc]
    have := getK_put rs hrs (pre ++ unitBytes r) (hp.append (unitBytes_byte hr))
    rw [List.length_append] at this
    rw [this]
    rfl
theorem gets_put {rs : List Int} (h : ∀ r ∈ rs, IsLetter r) : gets (putBytes rs) = some rs := getK_put rs h [] Bytes.nil
end Go.Proofs.YtdlcjobahdmapaaDoor

namespace Go.Proofs.YtdlcjobahdmapaaDoor
set_option linter.all false
open Go.RowKit
set_option linter.unusedVariables false
set_option maxRecDepth 100000
theorem textOf_putT {l : List UInt8} (h : isText l = true) : getText (putOfL l) = l ∧ getTErr (putOfL l) = 0 := by
  have e : gets (putOfL l) = some (letters l) := by
    unfold putOfL
    rw [if_pos h]
    exact gets_put (isText_letters h)
  unfold getText getTErr
  rw [e]
  exact ⟨letters_enc l, rfl⟩
/-! ### reading what stands behind other bytes -/
theorem numAt_at (pre post : List Int) (v : Int) (s : Nat) (h0 : 0 ≤ v) (h1 : v < 256 ^ s) : numAt (pre ++ (le v s ++ post)) pre.length s = v := by
  unfold numAt
  rw [List.drop_left, List.take_left' (le_length v s)]
  exact num_le v s h0 h1
theorem rdN_at (pre post : List Int) (v : Int) (s : Nat) (h0 : 0 ≤ v) (h1 : v < 256 ^ s) : rdN (pre ++ (le v s ++ post)) s ⟨pre.length, 0⟩ = (v, ⟨pre.length + s, 0⟩) := by
  unfold rdN
  rw [if_pos rfl, if_neg (by simp only [List.length_append, le_length]; omega), numAt_at pre post v s h0 h1]
theorem rdPart_at (pre ys post : List Int) (m : Nat) (hm : ys.length = m) : rdPart (pre ++ (ys ++ post)) m ⟨pre.length, 0⟩ = (ys, ⟨pre.length + m, 0⟩) := by
  unfold rdPart
  rw [if_pos rfl, if_neg (by simp only [List.length_append]; omega), List.drop_left, List.take_left' hm]
theorem grow_at (pre ys post : List Int) (hy : ys.length ≤ 512) : growErr (pre ++ (le ys.length 2 ++ (ys ++ post))) pre.length 512 = 0 ∧ growOf (pre ++ (le ys.length 2 ++ (ys ++ post))) pre.length 512 = ys ∧ growNext (pre ++ (le ys.length 2 ++ (ys ++ post))) pre.length 512 = pre.length + 2 + ys.length := by
  have hr : rowN (pre ++ (le ys.length 2 ++ (ys ++ post))) (pre.length : Int) = ys.length := by
    unfold rowN
    rw [Int.toNat_natCast]
    exact numAt_at pre (ys ++ post) ys.length 2 (by omega) (by rw [show (256 : Int) ^ 2 = 65536 from by decide]; omega)
  have h0 : growErr (pre ++ (le ys.length 2 ++ (ys ++ post))) pre.length 512 = 0 := by
    unfold growErr
    rw [hr, if_neg (by simp only [List.length_append, le_length]; omega), if_neg (by simp only [List.length_append, le_length]; omega), if_neg (by omega), if_neg (by simp only [List.length_append, le_length]; omega)]
  refine ⟨h0, ?_, ?_⟩
  · unfold growOf
    rw [h0, if_pos rfl, hr, Int.toNat_natCast, Int.toNat_natCast, ← List.drop_drop, List.drop_left, List.drop_left' (le_length _ _), List.take_left' rfl]
  · unfold growNext
    rw [h0, if_pos rfl, hr]
theorem prdText_at (pre post : List Int) {l : List UInt8} (h : ptextErr l = 0) : prdText (pre ++ (ptextOf l ++ post)) ⟨pre.length, 0⟩ = (l, ⟨pre.length + (ptextOf l).length, 0⟩) := by
  obtain ⟨h1, h2, h3⟩ := ptext_parts h
  obtain ⟨g1, g2, g3⟩ := grow_at pre (putOfL l) post h2
  obtain ⟨t1, t2⟩ := textOf_putT h1
  rw [h3, List.append_assoc]
  have e1 : gtextErr (pre ++ (le (putOfL l).length 2 ++ (putOfL l ++ post))) pre.length = 0 := by unfold gtextErr; rw [if_pos g1, g2, t2]
  unfold prdText gtextOf gtextNext
  rw [if_pos rfl]
  show (if gtextErr (pre ++ (le (putOfL l).length 2 ++ (putOfL l ++ post))) (pre.length : Nat) = 0 then _ else _, _) = _
  rw [e1, if_pos rfl, if_pos rfl, g2, t1, g3, List.length_append, le_length]
  have e2 : ((pre.length : Int) + 2 + ((putOfL l).length : Nat)).toNat = pre.length + (2 + (putOfL l).length) := by omega
  rw [e2]
end Go.Proofs.YtdlcjobahdmapaaDoor

namespace Go.Proofs.YtdlcjobahdmapaaDoor
set_option linter.all false
set_option linter.unusedVariables false
set_option maxRecDepth 100000
theorem prd_rdText {xs : List Int} {r : Rd} (h : (prdText xs r).2.e = 0) : rdText xs r = prdText xs r := by
  refine (rdText_prd ?_).symm
  unfold prdText at h
  unfold rdText
  by_cases he : r.e = 0
  · rw [if_pos he] at h ⊢; exact h
  · rw [if_neg he] at h ⊢; exact h
end Go.Proofs.YtdlcjobahdmapaaDoor

namespace Go.Proofs.YtdlcjobahdmapaaDoor
set_option linter.all false
open Go.RowKit
set_option linter.unusedVariables false
set_option maxRecDepth 100000
/-! ### a number, noughts, a text, Data, Locks at their place -/
theorem rdN_at' {xs pre post : List Int} {v : Int} {s p : Nat} (M : Int) (hM : (256 : Int) ^ s = M) (hx : xs = pre ++ (le v s ++ post)) (hp : pre.length = p) (h0 : 0 ≤ v) (h1 : v < M) : rdN xs s ⟨p, 0⟩ = (v, ⟨p + s, 0⟩) := by
  subst hx hp
  exact rdN_at pre post v s h0 (by rw [hM]; exact h1)
theorem zeroOf_zeros (m : Nat) : zeroOf (List.replicate m 0) 0 (m : Int) = true := by
  have h0 : partErr m 0 (m : Int) = 0 := by unfold partErr; rw [if_neg (by omega), if_neg (by omega)]
  unfold zeroOf partOf
  rw [List.length_replicate, h0, if_pos rfl, show Int.toNat 0 = 0 from rfl, List.drop_zero, Int.toNat_natCast, List.take_of_length_le (by simp)]
  simp
theorem rdZ_at' {xs pre post : List Int} {m p : Nat} (hx : xs = pre ++ (List.replicate m 0 ++ post)) (hp : pre.length = p) : rdZ xs m ⟨p, 0⟩ = ⟨p + m, 0⟩ := by
  subst hx hp
  have h := rdPart_at pre (List.replicate m 0) post m (by simp)
  unfold rdZ
  rw [h]
  show (if (0 : Int) = 0 then (if zeroOf (List.replicate m 0) 0 (m : Int) = true then _ else _) else _) = _
  rw [if_pos rfl, if_pos (zeroOf_zeros m)]
theorem rdText_at' {xs pre post : List Int} {l : List UInt8} {p : Nat} (hx : xs = pre ++ (ptextOf l ++ post)) (hp : pre.length = p) (h : ptextErr l = 0) : rdText xs ⟨p, 0⟩ = (l, ⟨p + (ptextOf l).length, 0⟩) := by
  subst hx hp
  have h1 := prdText_at pre post h
  rw [prd_rdText (by rw [h1]), h1]
theorem rdMost_of {xs : List Int} {s : Nat} {most er : Int} {r : Rd} {v : Int} {q : Rd} (h : rdN xs s r = (v, q)) (hv : v ≤ most) : rdMost xs s most er r = (v, q) := by
  unfold rdMost
  rw [h, if_neg (fun h2 => by have h3 : most < v := h2.2; omega)]
theorem rdData_at' {xs pre post ys : List Int} {p : Nat} (hx : xs = pre ++ (le ys.length 4 ++ (ys ++ post))) (hp : pre.length = p) (hl : ys.length ≤ 32768) : rdData xs ⟨p, 0⟩ = (ys, ⟨p + 4 + ys.length, 0⟩) := by
  have h1 := rdN_at' (xs := xs) (pre := pre) (post := ys ++ post) (v := ys.length) (s := 4) (p := p) 4294967296 (by decide) hx hp (by omega) (by omega)
  unfold rdData
  rw [rdMost_of h1 (by omega)]
  show rdPart xs ((ys.length : Int)).toNat ⟨p + 4, 0⟩ = _
  rw [Int.toNat_natCast]
  have h2 := rdPart_at (pre ++ le ys.length 4) ys post ys.length rfl
  rw [List.append_assoc, ← hx, List.length_append, le_length, hp] at h2
  exact h2
theorem rdLock_at' {xs pre post : List Int} {l : LockV} {p : Nat} (hx : xs = pre ++ (lockB l ++ post)) (hp : pre.length = p) (k : l.ok) (h0 : l.op = 0) : rdLock xs ⟨p, 0⟩ = (l, ⟨p + 20, 0⟩) := by
  obtain ⟨op, x, y, z⟩ := l
  obtain ⟨_, k1, k2, k3⟩ := k
  change op = 0 at h0
  subst h0
  change 0 ≤ x ∧ x ≤ _ at k1
  change 0 ≤ y ∧ y ≤ _ at k2
  change 0 ≤ z ∧ z ≤ _ at k3
  have hx1 : xs = pre ++ (le x 8 ++ (le y 8 ++ (le z 2 ++ (List.replicate 2 0 ++ post)))) := by rw [hx]; simp only [lockB, List.append_assoc]
  have e1 := rdN_at' (xs := xs) (p := p) 18446744073709551616 (by decide) hx1 hp k1.1 (by omega)
  have hx2 : xs = (pre ++ le x 8) ++ (le y 8 ++ (le z 2 ++ (List.replicate 2 0 ++ post))) := by rw [hx1]; simp only [List.append_assoc]
  have e2 := rdN_at' (xs := xs) (p := p + 8) 18446744073709551616 (by decide) hx2 (by rw [List.length_append, le_length, hp]) k2.1 (by omega)
  have hx3 : xs = (pre ++ le x 8 ++ le y 8) ++ (le z 2 ++ (List.replicate 2 0 ++ post)) := by rw [hx1]; simp only [List.append_assoc]
  have e3 := rdN_at' (xs := xs) (p := p + 8 + 8) 65536 (by decide) hx3 (by rw [List.length_append, List.length_append, le_length, le_length, hp]) k3.1 (by omega)
  have hx4 : xs = (pre ++ le x 8 ++ le y 8 ++ le z 2) ++ (List.replicate 2 0 ++ post) := by rw [hx1]; simp only [List.append_assoc]
  have e4 := rdZ_at' (xs := xs) (m := 2) (p := p + 8 + 8 + 2) hx4 (by rw [List.length_append, List.length_append, List.length_append, le_length, le_length, le_length, hp])
  unfold rdLock
  rw [e1]
  show ((⟨0, x, (rdN xs 8 ⟨p + 8, 0⟩).1, (rdN xs 2 (rdN xs 8 ⟨p + 8, 0⟩).2).1⟩ : LockV), rdZ xs 2 (rdN xs 2 (rdN xs 8 ⟨p + 8, 0⟩).2).2) = _
  rw [e2]
  show ((⟨0, x, y, (rdN xs 2 ⟨p + 8 + 8, 0⟩).1⟩ : LockV), rdZ xs 2 (rdN xs 2 ⟨p + 8 + 8, 0⟩).2) = _
  rw [e3]
  show ((⟨0, x, y, z⟩ : LockV), rdZ xs 2 ⟨p + 8 + 8 + 2, 0⟩) = _
  rw [e4]
theorem locksB_app (a b : List LockV) : locksB (a ++ b) = locksB a ++ locksB b := by
  induction a with
  | nil => rfl
  | cons x r ih => simp only [List.cons_append, locksB, ih, List.append_assoc]
theorem rdLocks_at' {xs pre post : List Int} {ls : List LockV} {p : Nat} (hx : xs = pre ++ (locksB ls ++ post)) (hp : pre.length = p) (k : ∀ l ∈ ls, l.ok) (h0 : shut ls = true) : ∀ j, j ≤ ls.length → rdLocks xs ⟨p, 0⟩ j = (ls.take j, ⟨p + 20 * j, 0⟩) := by
  intro j
  induction j with
  | zero => intro _; rfl
  | succ j ih =>
    intro hj
    have ih := ih (by omega)
    have hl : ls[j]? = some ls[j] := List.getElem?_eq_getElem (by omega)
    have hsp : ls = ls.take j ++ (ls[j] :: ls.drop (j + 1)) := by
      rw [← List.drop_eq_getElem_cons (by omega), List.take_append_drop]
    have hx2 : xs = (pre ++ locksB (ls.take j)) ++ (lockB ls[j] ++ (locksB (ls.drop (j + 1)) ++ post)) := by
      rw [hx]
      conv => lhs; rw [hsp]
      rw [locksB_app]
      simp only [locksB, List.append_assoc]
    have hm : ls[j] ∈ ls := List.getElem_mem (by omega)
    have ho : ls[j].op = 0 := by
      have := List.all_eq_true.1 h0 _ hm
      simpa using this
    have e := rdLock_at' (xs := xs) (p := p + 20 * j) hx2 (by rw [List.length_append, locksB_len, List.length_take, hp]; omega) (k _ hm) ho
    show ((rdLocks xs ⟨p, 0⟩ j).1 ++ [(rdLock xs (rdLocks xs ⟨p, 0⟩ j).2).1], (rdLock xs (rdLocks xs ⟨p, 0⟩ j).2).2) = _
    rw [ih]
    show (ls.take j ++ [(rdLock xs ⟨p + 20 * j, 0⟩).1], (rdLock xs ⟨p + 20 * j, 0⟩).2) = _
    rw [e, List.take_add_one, hl]
    show (ls.take j ++ [ls[j]], (⟨p + 20 * j + 20, 0⟩ : Rd)) = _
    rw [show p + 20 * j + 20 = p + 20 * (j + 1) from by omega]
    rfl
theorem str_of (b : ByteArray) : (⟨b.data.toList.toArray⟩ : ByteArray) = b := by cases b; simp
/-- what is put is got, whatever stands behind -/
theorem fg_at (c : Int) (a : AskV) (ka : a.ok) (he : fpErr c a = 0) (post : List Int) : fgP c (fpOf c a ++ post) = (a, ⟨(fpOf c a).length, 0⟩) := by
  obtain ⟨hk, hw, hs, hd, hl, ht, ho⟩ := fp_parts he
  rw [ho]
  have b1 := ka.acc; have b2 := ka.shr; have b3 := ka.way; have b4 := ka.opt; have b5 := ka.lev; have b6 := ka.dur; have b7 := ka.file; have b8 := ka.at_; have b9 := ka.n
  rcases known_cases hk with rfl | rfl | rfl | rfl | rfl | rfl
  · have ht := ht rfl
    obtain ⟨xs, hxs⟩ : ∃ x, x = bodyF 5 a ++ post := ⟨_, rfl⟩
    rw [← hxs]
    have hx0 : xs = le a.acc 4 ++ (le a.shr 4 ++ (le a.way 4 ++ (le a.opt 4 ++ (le a.lev 1 ++ (le a.dur 1 ++ (List.replicate 2 0 ++ (le a.file 8 ++ (ptextOf a.name.data.toList ++ post)))))))) := by
      rw [hxs]; unfold bodyF; rw [if_pos rfl]; simp only [List.append_assoc]
    have e1 : c1 xs = (a.acc, ⟨4, 0⟩) := rdN_at' (pre := []) 4294967296 (by decide) (by rw [hx0]; rfl) rfl b1.1 (by omega)
    have e2 : c2 xs = (a.shr, ⟨8, 0⟩) := by unfold c2; rw [e1]; exact rdN_at' (pre := le a.acc 4) 4294967296 (by decide) hx0 (by simp [le_length]) b2.1 (by omega)
    have e3 : c3 xs = (a.way, ⟨12, 0⟩) := by unfold c3; rw [e2]; exact rdN_at' (pre := le a.acc 4 ++ le a.shr 4) 4294967296 (by decide) (by rw [hx0]; simp only [List.append_assoc]; rfl) (by simp [le_length]) b3.1 (by omega)
    have e4 : c4 xs = (a.opt, ⟨16, 0⟩) := by unfold c4; rw [e3]; exact rdN_at' (pre := le a.acc 4 ++ le a.shr 4 ++ le a.way 4) 4294967296 (by decide) (by rw [hx0]; simp only [List.append_assoc]; rfl) (by simp [le_length]) b4.1 (by omega)
    have e5 : c5 xs = (a.lev, ⟨17, 0⟩) := by unfold c5; rw [e4]; exact rdN_at' (pre := le a.acc 4 ++ le a.shr 4 ++ le a.way 4 ++ le a.opt 4) 256 (by decide) (by rw [hx0]; simp only [List.append_assoc]; rfl) (by simp [le_length]) b5.1 (by omega)
    have e6 : c6 xs = (a.dur, ⟨18, 0⟩) := by unfold c6; rw [e5]; exact rdN_at' (pre := le a.acc 4 ++ le a.shr 4 ++ le a.way 4 ++ le a.opt 4 ++ le a.lev 1) 256 (by decide) (by rw [hx0]; simp only [List.append_assoc]; rfl) (by simp [le_length]) b6.1 (by omega)
    have e7 : c7 xs = ⟨20, 0⟩ := by unfold c7; rw [e6]; exact rdZ_at' (pre := le a.acc 4 ++ le a.shr 4 ++ le a.way 4 ++ le a.opt 4 ++ le a.lev 1 ++ le a.dur 1) (by rw [hx0]; simp only [List.append_assoc]; rfl) (by simp [le_length])
    have e8 : c8 xs = (a.file, ⟨28, 0⟩) := by unfold c8; rw [e7]; exact rdN_at' (pre := le a.acc 4 ++ le a.shr 4 ++ le a.way 4 ++ le a.opt 4 ++ le a.lev 1 ++ le a.dur 1 ++ List.replicate 2 0) 18446744073709551616 (by decide) (by rw [hx0]; simp only [List.append_assoc]; rfl) (by simp [le_length]) b7.1 (by omega)
    have e9 : c9 xs = (a.name.data.toList, ⟨28 + (ptextOf a.name.data.toList).length, 0⟩) := by unfold c9; rw [e8]; exact rdText_at' (pre := le a.acc 4 ++ le a.shr 4 ++ le a.way 4 ++ le a.opt 4 ++ le a.lev 1 ++ le a.dur 1 ++ List.replicate 2 0 ++ le a.file 8) (post := post) (by rw [hx0]; simp only [List.append_assoc]) (by simp [le_length]) ht
    have hlen : (bodyF 5 a).length = 28 + (ptextOf a.name.data.toList).length := by
      unfold bodyF; rw [if_pos rfl]; simp only [List.length_append, le_length, List.length_replicate]; omega
    unfold fgP
    rw [if_pos rfl, e1, e2, e3, e4, e5, e6, e8, e9, hlen]
    show (({ zeroAsk with acc := a.acc, shr := a.shr, way := a.way, opt := a.opt, lev := a.lev, dur := a.dur, file := a.file, name := ⟨a.name.data.toList.toArray⟩ } : AskV), _) = _
    rw [str_of]
    conv => rhs; rw [← hw]
    rfl
  · obtain ⟨xs, hxs⟩ : ∃ x, x = bodyF 6 a ++ post := ⟨_, rfl⟩
    rw [← hxs]
    have e1 : o1 xs = (a.file, ⟨8, 0⟩) := rdN_at' (pre := []) (post := post) 18446744073709551616 (by decide) hxs rfl b7.1 (by omega)
    unfold fgP
    rw [if_neg (by decide), if_neg (by decide), if_neg (by decide), if_neg (by decide), e1]
    conv => rhs; rw [← hw]
    have hlen : (bodyF 6 (wantF 6 a)).length = 8 := by show (le a.file 8).length = 8; exact le_length _ _
    rw [hlen]
    rfl
  · obtain ⟨xs, hxs⟩ : ∃ x, x = bodyF 7 a ++ post := ⟨_, rfl⟩
    rw [← hxs]
    have e1 : o1 xs = (a.file, ⟨8, 0⟩) := rdN_at' (pre := []) (post := post) 18446744073709551616 (by decide) hxs rfl b7.1 (by omega)
    unfold fgP
    rw [if_neg (by decide), if_neg (by decide), if_neg (by decide), if_neg (by decide), e1]
    conv => rhs; rw [← hw]
    have hlen : (bodyF 7 (wantF 7 a)).length = 8 := by show (le a.file 8).length = 8; exact le_length _ _
    rw [hlen]
    rfl
  · obtain ⟨xs, hxs⟩ : ∃ x, x = bodyF 8 a ++ post := ⟨_, rfl⟩
    rw [← hxs]
    have hx0 : xs = le a.file 8 ++ (le a.at_ 8 ++ (le a.n 4 ++ post)) := by rw [hxs]; show (le a.file 8 ++ (le a.at_ 8 ++ le a.n 4)) ++ post = _; simp only [List.append_assoc]
    have e1 : o1 xs = (a.file, ⟨8, 0⟩) := rdN_at' (pre := []) 18446744073709551616 (by decide) hx0 rfl b7.1 (by omega)
    have e2 : o2 xs = (a.at_, ⟨16, 0⟩) := by unfold o2; rw [e1]; exact rdN_at' (pre := le a.file 8) 18446744073709551616 (by decide) hx0 (by simp [le_length]) b8.1 (by omega)
    have e3 : o3 xs = (a.n, ⟨20, 0⟩) := by unfold o3; rw [e2]; exact rdN_at' (pre := le a.file 8 ++ le a.at_ 8) (post := post) 4294967296 (by decide) (by rw [hx0]; simp only [List.append_assoc]) (by simp [le_length]) b9.1 (by omega)
    have hlen : (bodyF 8 a).length = 20 := by show (le a.file 8 ++ (le a.at_ 8 ++ le a.n 4)).length = 20; simp [le_length]
    unfold fgP
    rw [if_neg (by decide), if_pos rfl, e1, e2, e3, hlen]
    conv => rhs; rw [← hw]
    rfl
  · obtain ⟨xs, hxs⟩ : ∃ x, x = bodyF 9 a ++ post := ⟨_, rfl⟩
    rw [← hxs]
    have hx0 : xs = le a.file 8 ++ (le a.at_ 8 ++ (le a.data.length 4 ++ (a.data ++ post))) := by rw [hxs]; show (le a.file 8 ++ (le a.at_ 8 ++ (le a.data.length 4 ++ a.data))) ++ post = _; simp only [List.append_assoc]
    have e1 : o1 xs = (a.file, ⟨8, 0⟩) := rdN_at' (pre := []) 18446744073709551616 (by decide) hx0 rfl b7.1 (by omega)
    have e2 : o2 xs = (a.at_, ⟨16, 0⟩) := by unfold o2; rw [e1]; exact rdN_at' (pre := le a.file 8) 18446744073709551616 (by decide) hx0 (by simp [le_length]) b8.1 (by omega)
    have e3 : o4 xs = (a.data, ⟨20 + a.data.length, 0⟩) := by unfold o4; rw [e2]; exact rdData_at' (pre := le a.file 8 ++ le a.at_ 8) (post := post) (p := 16) (by rw [hx0]; simp only [List.append_assoc]) (by simp [le_length]) hd
    have hlen : (bodyF 9 a).length = 20 + a.data.length := by show (le a.file 8 ++ (le a.at_ 8 ++ (le a.data.length 4 ++ a.data))).length = _; simp only [List.length_append, le_length]; omega
    unfold fgP
    rw [if_neg (by decide), if_neg (by decide), if_pos rfl, e1, e2, e3, hlen]
    conv => rhs; rw [← hw]
    rfl
  · obtain ⟨xs, hxs⟩ : ∃ x, x = bodyF 10 a ++ post := ⟨_, rfl⟩
    rw [← hxs]
    have hx0 : xs = le a.file 8 ++ (le a.locks.length 2 ++ (List.replicate 2 0 ++ (locksB a.locks ++ post))) := by rw [hxs]; show (le a.file 8 ++ (le a.locks.length 2 ++ (List.replicate 2 0 ++ locksB a.locks))) ++ post = _; simp only [List.append_assoc]
    have e1 : o1 xs = (a.file, ⟨8, 0⟩) := rdN_at' (pre := []) 18446744073709551616 (by decide) hx0 rfl b7.1 (by omega)
    have e2 : rdN xs 2 ⟨8, 0⟩ = ((a.locks.length : Int), ⟨10, 0⟩) := rdN_at' (pre := le a.file 8) 65536 (by decide) hx0 (by simp [le_length]) (by omega) (by omega)
    have e3 : rdZ xs 2 ⟨10, 0⟩ = ⟨12, 0⟩ := rdZ_at' (pre := le a.file 8 ++ le a.locks.length 2) (post := locksB a.locks ++ post) (by rw [hx0]; simp only [List.append_assoc]) (by simp [le_length])
    have e4 : rdLocks xs ⟨12, 0⟩ a.locks.length = (a.locks, ⟨12 + 20 * a.locks.length, 0⟩) := by
      have h := rdLocks_at' (xs := xs) (pre := le a.file 8 ++ le a.locks.length 2 ++ List.replicate 2 0) (post := post) (ls := a.locks) (p := 12) (by rw [hx0]; simp only [List.append_assoc]) (by simp [le_length]) ka.locks hs a.locks.length (Nat.le_refl _)
      rw [h, List.take_length]
    have e5 : o5 xs = (a.locks, ⟨12 + 20 * a.locks.length, 0⟩) := by
      unfold o5 rdAll
      rw [e1]
      show rdLocks xs (rdZ xs 2 (rdMost xs 2 16 3 ⟨8, 0⟩).2) (rdMost xs 2 16 3 ⟨8, 0⟩).1.toNat = _
      rw [rdMost_of e2 (by omega)]
      show rdLocks xs (rdZ xs 2 ⟨10, 0⟩) ((a.locks.length : Int)).toNat = _
      rw [Int.toNat_natCast, e3, e4]
    have hlen : (bodyF 10 a).length = 12 + 20 * a.locks.length := by show (le a.file 8 ++ (le a.locks.length 2 ++ (List.replicate 2 0 ++ locksB a.locks))).length = _; simp only [List.length_append, le_length, List.length_replicate, locksB_len]; omega
    unfold fgP
    rw [if_neg (by decide), if_neg (by decide), if_neg (by decide), if_pos rfl, e1, e5, hlen]
    conv => rhs; rw [← hw]
    rfl
end Go.Proofs.YtdlcjobahdmapaaDoor
