import Derived.WalkKit
import Derived.Deep.Draws
import Derived.Laws.Rows
import Derived.Laws.OwnMore
import Derived.Lib.RuneBytes
import Derived.Lib.ValidLaws
import Derived.Test.YtbbjmmooemmeiaaDoorRows
import Derived.Laws.CopyOwn
import Derived.Laws.AppendOwnNone
import Derived.Lib.Hide
import Derived.Laws.AppendOwn
import Derived.OwnWalk
import Derived.Lib.OthersKept
import Derived.Laws.BytesArg
import Derived.Shelf.Utf8.AppendRunePlain
import Derived.Shelf.Unicode.ValidAny
import Derived.Test.YtbbjmmooemmeiaaDoorProg
import Derived.WalkSpells
import Derived.WalkLawsBesides
import Derived.Deep.QuietTactic
import Derived.BigQuiet
import Derived.Laws.Bits64
import Derived.Laws.BitsAllLaws
import Derived.ProofKit
import Derived.OpenShut
import Derived.ShutString
import Derived.SizedLaws
import Derived.ChangeOld
import Derived.Lib.AppendZeros
import Derived.Deep.RegionWith
import Derived.Deep.DeepCutAuto
import Derived.Great.Walk
import Derived.Laws.Tables
import Derived.Laws.NewFold
import Derived.Deep.WholeRow
import Derived.Deep.MidRow
import Derived.OneCell
import Derived.Deep.Strs
import Derived.OrdersHeld
import Derived.Laws.StructEq
import Derived.ChangeKeysEq
import Derived.Deep.RegionLaw
import Derived.Deep.OwnRows
import Derived.Test.YtbbjmmooemmeiaaDoorWAD
import Derived.Test.YtbbjmmooemmeiaaDoorWAE
import Derived.Test.YtbbjmmooemmeiaaDoorWAG
import Derived.Test.YtbbjmmooemmeiaaDoorWAH
import Derived.Test.YtbbjmmooemmeiaaDoorWAI
import Derived.Test.YtbbjmmooemmeiaaDoorWAK
import Derived.Test.YtbbjmmooemmeiaaDoorWAL
import Derived.Test.YtbbjmmooemmeiaaDoorWAQ
namespace Go.Proofs.YtbbjmmooemmeiaaDoor
set_option linter.all false
open Go.RowKit
section
variable {w w' : World} {B B' : Nat} {A : Option Addr} {n c : Nat} {xs : List Int}
end
theorem num_le (n : Int) (s : Nat) (h0 : 0 ≤ n) (h : n < 256 ^ s) : num (le n s) = n := by
  induction s generalizing n with
  | zero => simp at h; simp [le, num]; omega
  | succ s ih =>
    have := ih (n / 256) (by omega) (by rw [Int.pow_succ] at h; omega)
    simp only [le, num, this]
    omega
end Go.Proofs.YtbbjmmooemmeiaaDoor

namespace Go.Proofs.YtbbjmmooemmeiaaDoor
set_option linter.all false
def isAs (f : Int) : Bool := decide (f / 2 % 2 = 1)
def aot (h : Hd) : Int := if isAs h.fl = true then h.asy else h.tr * 4294967296
/-! ### bytes of a head -/
def szs : List Nat := [4, 2, 2, 4, 2, 2, 4, 4, 8, 8, 8]
def vals (h : Hd) : List Int := [1112364030, 64, h.ch, h.st, h.cm, h.cr, h.fl, h.nx, h.id, aot h, h.se]
/-- the bytes of the first k numbers -/
def pre (h : Hd) : Nat → List Int
  | 0 => []
  | k + 1 => pre h k ++ le ((vals h).getD k 0) (szs.getD k 0)
end Go.Proofs.YtbbjmmooemmeiaaDoor

namespace Go.Proofs.YtbbjmmooemmeiaaDoor
set_option linter.all false
open Go.Lib
theorem take_head (l : List UInt8) (hne : l ≠ []) : l.take (decodeL l).2 = enc (headOf l) := by
  unfold enc
  rcases head_shape l hne with ⟨h0, h1, h2⟩ | ⟨_, h0, h1, h2⟩
  · rw [h1, if_neg h2.lt, encode_decode l hne h0]
  · rw [h1, if_pos (by omega), h0, takeA l (List.length_pos_iff.2 hne)]
    rw [toByte _ (l.getD 0 0) (by omega)]
/-- the letters' bytes are the row -/
theorem letters_enc (l : List UInt8) : (letters l).flatMap enc = l := by
  induction l using letters_ind with
  | h0 => rfl
  | h1 l hne ih => rw [letters_step l hne, List.flatMap_cons, ih, ← take_head l hne, List.take_append_drop]
end Go.Proofs.YtbbjmmooemmeiaaDoor

namespace Go.Proofs.YtbbjmmooemmeiaaDoor
set_option linter.all false
open Go.RowKit
theorem letAt_put (pre : List Int) (r : Int) (hr : IsLetter r) (post : List Int) : letAt (pre ++ (unitBytes r ++ post)) pre.length = (r, (unitBytes r).length) := by
  obtain ⟨h0, h1, h2⟩ := hr
  have g : ∀ (ys : List Int) i, (pre ++ ys).getD (pre.length + i) 0 = ys.getD i 0 := fun ys i => by
    rw [List.getD_eq_getElem?_getD, List.getElem?_append_right (by omega), Nat.add_sub_cancel_left, List.getD_eq_getElem?_getD]
  have g0 : ∀ (ys : List Int), (pre ++ ys).getD pre.length 0 = ys.getD 0 0 := fun ys => g ys 0
  unfold letAt unitAt
  rw [g0, g, Nat.add_assoc, g, g, List.length_append]
  unfold unitBytes
  by_cases c : r < 65536
  · rw [if_pos c]
    simp only [List.cons_append, List.nil_append, List.length_cons, List.length_nil, List.getD_cons_zero, List.getD_cons_succ]
    rw [if_neg (by omega), if_neg (by omega), if_pos (by omega)]
    exact Prod.ext (by dsimp only; omega) rfl
  · rw [if_neg c]
    simp only [List.cons_append, List.nil_append, List.length_cons, List.length_nil, List.getD_cons_zero, List.getD_cons_succ]
    rw [if_neg (by omega), if_neg (by omega), if_neg (by omega), if_neg (by omega), if_pos (by omega)]
    exact Prod.ext (by dsimp only; omega) rfl
/-- a text comes back of its bytes -/
theorem getK_put : ∀ (rs : List Int) (_ : ∀ r ∈ rs, IsLetter r) (pre : List Int) (_ : Bytes pre), getK (pre ++ putBytes rs) pre.length = some rs
  | [], _, pre, _ => by rw [getK_end (by simp [putBytes])]
  | r :: rs, h, pre, hp => by
    have hr := h r List.mem_cons_self
    have hrs : ∀ x ∈ rs, IsLetter x := fun x hx => h x (List.mem_cons_of_mem _ hx)
    have e : putBytes (r :: rs) = unitBytes r ++ putBytes rs := by simp [putBytes]
    have hpos : 2 ≤ (unitBytes r).length := by unfold unitBytes; split <;> simp
    have hb : Bytes (pre ++ putBytes (r :: rs)) := hp.append (putBytes_byte h)
    rw [getK_step hb (by rw [e]; simp; omega), e, letAt_put pre r hr]
    dsimp only
    rw [if_neg (by omega), ← List.append_assoc]
    have := getK_put rs hrs (pre ++ unitBytes r) (hp.append (unitBytes_byte hr))
    rw [List.length_append] at this
    rw [this]
    rfl
theorem gets_put {rs : List Int} (h : ∀ r ∈ rs, IsLetter r) : gets (putBytes rs) = some rs := getK_put rs h [] Bytes.nil
end Go.Proofs.YtbbjmmooemmeiaaDoor

namespace Go.Proofs.YtbbjmmooemmeiaaDoor
set_option linter.all false
open Go.RowKit
set_option linter.unusedVariables false
set_option maxRecDepth 100000
theorem textOf_putT {l : List UInt8} (h : isText l = true) : getText (putOfL l) = l ∧ getTErr (putOfL l) = 0 := by
  have e : gets (putOfL l) = some (letters l) := by
    unfold putOfL
    rw [if_pos h]
    exact gets_put (isText_letters h)
  unfold getText getTErr
  rw [e]
  exact ⟨letters_enc l, rfl⟩
/-! ### reading what stands behind other bytes -/
theorem numAt_at (pre post : List Int) (v : Int) (s : Nat) (h0 : 0 ≤ v) (h1 : v < 256 ^ s) : numAt (pre ++ (le v s ++ post)) pre.length s = v := by
  unfold numAt
  rw [List.drop_left, List.take_left' (le_length v s)]
  exact num_le v s h0 h1
theorem rdN_at (pre post : List Int) (v : Int) (s : Nat) (h0 : 0 ≤ v) (h1 : v < 256 ^ s) : rdN (pre ++ (le v s ++ post)) s ⟨pre.length, 0⟩ = (v, ⟨pre.length + s, 0⟩) := by
  unfold rdN
  rw [if_pos rfl, if_neg (by simp only [List.length_append, le_length]; omega), numAt_at pre post v s h0 h1]
theorem rdPart_at (pre ys post : List Int) (m : Nat) (hm : ys.length = m) : rdPart (pre ++ (ys ++ post)) m ⟨pre.length, 0⟩ = (ys, ⟨pre.length + m, 0⟩) := by
  unfold rdPart
  rw [if_pos rfl, if_neg (by simp only [List.length_append]; omega), List.drop_left, List.take_left' hm]
theorem grow_at (pre ys post : List Int) (hy : ys.length ≤ 512) : growErr (pre ++ (le ys.length 2 ++ (ys ++ post))) pre.length 512 = 0 ∧ growOf (pre ++ (le ys.length 2 ++ (ys ++ post))) pre.length 512 = ys ∧ growNext (pre ++ (le ys.length 2 ++ (ys ++ post))) pre.length 512 = pre.length + 2 + ys.length := by
  have hr : rowN (pre ++ (le ys.length 2 ++ (ys ++ post))) (pre.length : Int) = ys.length := by
    unfold rowN
    rw [Int.toNat_natCast]
    exact numAt_at pre (ys ++ post) ys.length 2 (by omega) (by rw [show (256 : Int) ^ 2 = 65536 from by decide]; omega)
  have h0 : growErr (pre ++ (le ys.length 2 ++ (ys ++ post))) pre.length 512 = 0 := by
    unfold growErr
    rw [hr, if_neg (by simp only [List.length_append, le_length]; omega), if_neg (by simp only [List.length_append, le_length]; omega), if_neg (by omega), if_neg (by simp only [List.length_append, le_length]; omega)]
  refine ⟨h0, ?_, ?_⟩
  · unfold growOf
    rw [h0, if_pos rfl, hr, Int.toNat_natCast, Int.toNat_natCast, ← List.drop_drop, List.drop_left, List.drop_left' (le_length _ _), List.take_left' rfl]
  · unfold growNext
    rw [h0, if_pos rfl, hr]
theorem prdText_at (pre post : List Int) {l : List UInt8} (h : ptextErr l = 0) : prdText (pre ++ (ptextOf l ++ post)) ⟨pre.length, 0⟩ = (l, ⟨pre.length + (ptextOf l).length, 0⟩) := by
  obtain ⟨h1, h2, h3⟩ := ptext_parts h
  obtain ⟨g1, g2, g3⟩ := grow_at pre (putOfL l) post h2
  obtain ⟨t1, t2⟩ := textOf_putT h1
  rw [h3, List.append_assoc]
  have e1 : gtextErr (pre ++ (le (putOfL l).length 2 ++ (putOfL l ++ post))) pre.length = 0 := by unfold gtextErr; rw [if_pos g1, g2, t2]
  unfold prdText gtextOf gtextNext
  rw [if_pos rfl]
  show (if gtextErr (pre ++ (le (putOfL l).length 2 ++ (putOfL l ++ post))) (pre.length : Nat) = 0 then _ else _, _) = _
  rw [e1, if_pos rfl, if_pos rfl, g2, t1, g3, List.length_append, le_length]
  have e2 : ((pre.length : Int) + 2 + ((putOfL l).length : Nat)).toNat = pre.length + (2 + (putOfL l).length) := by omega
  rw [e2]
end Go.Proofs.YtbbjmmooemmeiaaDoor

namespace Go.Proofs.YtbbjmmooemmeiaaDoor
set_option linter.all false
set_option linter.unusedVariables false
set_option maxRecDepth 100000
theorem prd_rdText {xs : List Int} {r : Rd} (h : (prdText xs r).2.e = 0) : rdText xs r = prdText xs r := by
  refine (rdText_prd ?_).symm
  unfold prdText at h
  unfold rdText
  by_cases he : r.e = 0
  · rw [if_pos he] at h ⊢; exact h
  · rw [if_neg he] at h ⊢; exact h
end Go.Proofs.YtbbjmmooemmeiaaDoor

namespace Go.Proofs.YtbbjmmooemmeiaaDoor
set_option linter.all false
open Go.RowKit
set_option linter.unusedVariables false
set_option maxRecDepth 100000
/-! ### a number, noughts, a text, Data, Locks at their place -/
theorem rdN_at' {xs pre post : List Int} {v : Int} {s p : Nat} (M : Int) (hM : (256 : Int) ^ s = M) (hx : xs = pre ++ (le v s ++ post)) (hp : pre.length = p) (h0 : 0 ≤ v) (h1 : v < M) : rdN xs s ⟨p, 0⟩ = (v, ⟨p + s, 0⟩) := by
  subst hx hp
  exact rdN_at pre post v s h0 (by rw [hM]; exact h1)
theorem zeroOf_zeros (m : Nat) : zeroOf (List.replicate m 0) 0 (m : Int) = true := by
  have h0 : partErr m 0 (m : Int) = 0 := by unfold partErr; rw [if_neg (by omega), if_neg (by omega)]
  unfold zeroOf partOf
  rw [List.length_replicate, h0, if_pos rfl, show Int.toNat 0 = 0 from rfl, List.drop_zero, Int.toNat_natCast, List.take_of_length_le (by simp)]
  simp
theorem rdZ_at' {xs pre post : List Int} {m p : Nat} (hx : xs = pre ++ (List.replicate m 0 ++ post)) (hp : pre.length = p) : rdZ xs m ⟨p, 0⟩ = ⟨p + m, 0⟩ := by
  subst hx hp
  have h := rdPart_at pre (List.replicate m 0) post m (by simp)
  unfold rdZ
  rw [h]
  show (if (0 : Int) = 0 then (if zeroOf (List.replicate m 0) 0 (m : Int) = true then _ else _) else _) = _
  rw [if_pos rfl, if_pos (zeroOf_zeros m)]
theorem rdText_at' {xs pre post : List Int} {l : List UInt8} {p : Nat} (hx : xs = pre ++ (ptextOf l ++ post)) (hp : pre.length = p) (h : ptextErr l = 0) : rdText xs ⟨p, 0⟩ = (l, ⟨p + (ptextOf l).length, 0⟩) := by
  subst hx hp
  have h1 := prdText_at pre post h
  rw [prd_rdText (by rw [h1]), h1]
theorem rdMost_of {xs : List Int} {s : Nat} {most er : Int} {r : Rd} {v : Int} {q : Rd} (h : rdN xs s r = (v, q)) (hv : v ≤ most) : rdMost xs s most er r = (v, q) := by
  unfold rdMost
  rw [h, if_neg (fun h2 => by have h3 : most < v := h2.2; omega)]
theorem str_of (b : ByteArray) : (⟨b.data.toList.toArray⟩ : ByteArray) = b := by cases b; simp
end Go.Proofs.YtbbjmmooemmeiaaDoor

namespace Go.Proofs.YtbbjmmooemmeiaaDoor
set_option linter.all false
set_option linter.unusedVariables false
set_option linter.unusedSimpArgs false
set_option maxRecDepth 100000
theorem truthI_ne (b : Bool) : (truthI b != 0) = b := by cases b <;> rfl
end Go.Proofs.YtbbjmmooemmeiaaDoor

namespace Go.Proofs.YtbbjmmooemmeiaaDoor
set_option linter.all false
set_option linter.unusedVariables false
set_option linter.unusedSimpArgs false
set_option maxRecDepth 100000
theorem rdT_at' {xs pre post : List Int} {b : Bool} {p : Nat} (hx : xs = pre ++ (le (truthI b) 2 ++ post)) (hp : pre.length = p) : rdT xs ⟨p, 0⟩ = (truthI b, ⟨p + 2, 0⟩) := by
  obtain ⟨h0, h1⟩ := truthI_le b
  exact rdMost_of (rdN_at' 65536 (by decide) hx hp h0 (by omega)) h1
/-- what is put is got, whatever stands behind -/
theorem ig_at (c : Int) (a : AskV) (ka : a.ok) (he : ipErr c a = 0) (post : List Int) : igP c (ipOf c a ++ post) = (a, ⟨(ipOf c a).length, 0⟩) := by
  obtain ⟨hk, hw, hcl, htl, htn, ho⟩ := ip_parts he
  rw [ho]
  have b1 := ka.file; have b2 := ka.most; have b3 := ka.cls; have b4 := ka.siz; have b5 := ka.lev
  rcases knownI_cases hk with rfl | rfl | rfl | rfl | rfl
  · have e := rdZ_at' (xs := bodyI 12 a ++ post) (pre := []) (post := post) (m := 4) (p := 0) rfl rfl
    unfold igP
    rw [if_neg (by decide), if_neg (by decide), if_neg (by decide), if_neg (by decide)]
    show (zeroAsk, rdZ (bodyI 12 a ++ post) 4 ⟨0, 0⟩) = _
    rw [e]
    conv => rhs; rw [← hw]
    rfl
  · obtain ⟨ht1, ht2⟩ := htl rfl
    obtain ⟨xs, hxs⟩ : ∃ x, x = bodyI 14 a ++ post := ⟨_, rfl⟩
    rw [← hxs]
    have hx0 : xs = le a.file 8 ++ (le a.most 2 ++ (List.replicate 2 0 ++ (ptextOf a.pat.data.toList ++ (ptextOf a.aft.data.toList ++ post)))) := by
      rw [hxs]; unfold bodyI; rw [if_pos rfl]; simp only [List.append_assoc]
    have e1 : l1 xs = (a.file, ⟨8, 0⟩) := rdN_at' (pre := []) 18446744073709551616 (by decide) hx0 rfl b1.1 (by omega)
    have e2 : l2 xs = (a.most, ⟨10, 0⟩) := by unfold l2; rw [e1]; exact rdN_at' (pre := le a.file 8) 65536 (by decide) hx0 (by simp [le_length]) b2.1 (by omega)
    have e3 : l3 xs = ⟨12, 0⟩ := by unfold l3; rw [e2]; exact rdZ_at' (pre := le a.file 8 ++ le a.most 2) (by rw [hx0]; simp only [List.append_assoc]; rfl) (by simp [le_length])
    have e4 : l4 xs = (a.pat.data.toList, ⟨12 + (ptextOf a.pat.data.toList).length, 0⟩) := by unfold l4; rw [e3]; exact rdText_at' (pre := le a.file 8 ++ le a.most 2 ++ List.replicate 2 0) (by rw [hx0]; simp only [List.append_assoc]; rfl) (by simp [le_length]) ht1
    have e5 : l5 xs = (a.aft.data.toList, ⟨12 + (ptextOf a.pat.data.toList).length + (ptextOf a.aft.data.toList).length, 0⟩) := by unfold l5; rw [e4]; exact rdText_at' (pre := le a.file 8 ++ le a.most 2 ++ List.replicate 2 0 ++ ptextOf a.pat.data.toList) (post := post) (by rw [hx0]; simp only [List.append_assoc]) (by simp only [List.length_append, le_length, List.length_replicate]) ht2
    have hlen : (bodyI 14 a).length = 12 + (ptextOf a.pat.data.toList).length + (ptextOf a.aft.data.toList).length := by
      unfold bodyI; rw [if_pos rfl]; simp only [List.length_append, le_length, List.length_replicate]; omega
    unfold igP
    rw [if_pos rfl, e1, e2, e4, e5, hlen]
    show (({ zeroAsk with file := a.file, most := a.most, pat := ⟨a.pat.data.toList.toArray⟩, aft := ⟨a.aft.data.toList.toArray⟩ } : AskV), _) = _
    rw [str_of, str_of]
    conv => rhs; rw [← hw]
    rfl
  · obtain ⟨xs, hxs⟩ : ∃ x, x = bodyI 16 a ++ post := ⟨_, rfl⟩
    rw [← hxs]
    have e1 : l1 xs = (a.file, ⟨8, 0⟩) := rdN_at' (pre := []) (post := post) 18446744073709551616 (by decide) hxs rfl b1.1 (by omega)
    unfold igP
    rw [if_neg (by decide), if_pos rfl, e1]
    have hlen : (bodyI 16 a).length = 8 := by show (le a.file 8).length = 8; exact le_length _ _
    rw [hlen]
    conv => rhs; rw [← hw]
    rfl
  · obtain ⟨hc0, hc1⟩ := hcl rfl
    obtain ⟨xs, hxs⟩ : ∃ x, x = bodyI 17 a ++ post := ⟨_, rfl⟩
    rw [← hxs]
    have key : ∀ more : List Int, bodyI 17 a = le a.file 8 ++ (le a.cls 2 ++ more) → l1 xs = (a.file, ⟨8, 0⟩) ∧ l2 xs = (a.cls, ⟨10, 0⟩) ∧ xs = (le a.file 8 ++ le a.cls 2) ++ (more ++ post) ∧ (bodyI 17 a).length = 10 + more.length := by
      intro more hb
      have hx0 : xs = le a.file 8 ++ (le a.cls 2 ++ (more ++ post)) := by rw [hxs, hb]; simp only [List.append_assoc]
      have e1 : l1 xs = (a.file, ⟨8, 0⟩) := rdN_at' (pre := []) 18446744073709551616 (by decide) hx0 rfl b1.1 (by omega)
      have e2 : l2 xs = (a.cls, ⟨10, 0⟩) := by unfold l2; rw [e1]; exact rdN_at' (pre := le a.file 8) 65536 (by decide) hx0 (by simp [le_length]) b3.1 (by omega)
      exact ⟨e1, e2, by rw [hx0]; simp only [List.append_assoc], by rw [hb]; simp only [List.length_append, le_length]; omega⟩
    have hpl : (le a.file 8 ++ le a.cls 2).length = 10 := by simp [le_length]
    unfold igP
    rw [if_neg (by decide), if_neg (by decide), if_pos rfl]
    by_cases h1 : a.cls = 1
    · obtain ⟨e1, e2, hx1, hlen⟩ := key (le a.siz 8) (by unfold bodyI; rw [if_neg (by decide), if_neg (by decide), if_pos rfl, if_pos h1])
      have e3 : t3 xs = (a.siz, ⟨18, 0⟩) := by unfold t3; rw [e2]; exact rdN_at' 18446744073709551616 (by decide) hx1 hpl b4.1 (by omega)
      rw [e1, e2, e3, hlen, le_length]
      unfold wantI at hw
      rw [if_neg (by decide), if_neg (by decide), if_pos rfl, if_pos h1] at hw
      show (if a.cls = 1 then (({ zeroAsk with file := a.file, cls := a.cls, siz := a.siz } : AskV), (⟨18, 0⟩ : Rd)) else _) = _
      rw [if_pos h1, hw]
    · by_cases h2 : a.cls = 2
      · obtain ⟨e1, e2, hx1, hlen⟩ := key (le (truthI a.on) 2) (by unfold bodyI; rw [if_neg (by decide), if_neg (by decide), if_pos rfl, if_neg h1, if_pos h2])
        have e3 : t4 xs = (truthI a.on, ⟨12, 0⟩) := by unfold t4; rw [e2]; exact rdT_at' hx1 hpl
        rw [e1, e2, e3, hlen, le_length]
        unfold wantI at hw
        rw [if_neg (by decide), if_neg (by decide), if_pos rfl, if_neg h1, if_pos h2] at hw
        show (if a.cls = 1 then _ else if a.cls = 2 then (({ zeroAsk with file := a.file, cls := a.cls, on := truthI a.on != 0 } : AskV), (⟨12, 0⟩ : Rd)) else _) = _
        rw [if_neg h1, if_pos h2, truthI_ne, hw]
      · have h3 : a.cls = 3 := by omega
        have ht := htn rfl h3
        obtain ⟨e1, e2, hx1, hlen⟩ := key (le (truthI a.on) 2 ++ ptextOf a.name.data.toList) (by unfold bodyI; rw [if_neg (by decide), if_neg (by decide), if_pos rfl, if_neg h1, if_neg h2])
        rw [List.append_assoc] at hx1
        have e3 : t4 xs = (truthI a.on, ⟨12, 0⟩) := by unfold t4; rw [e2]; exact rdT_at' hx1 hpl
        have e4 : t5 xs = (a.name.data.toList, ⟨12 + (ptextOf a.name.data.toList).length, 0⟩) := by
          unfold t5; rw [e3]
          exact rdText_at' (pre := le a.file 8 ++ le a.cls 2 ++ le (truthI a.on) 2) (post := post) (by rw [hx1]; simp only [List.append_assoc]) (by simp [le_length]) ht
        have hlen2 : 10 + (le (truthI a.on) 2 ++ ptextOf a.name.data.toList).length = 12 + (ptextOf a.name.data.toList).length := by rw [List.length_append, le_length]; omega
        rw [e1, e2, e3, e4, hlen, hlen2]
        unfold wantI at hw
        rw [if_neg (by decide), if_neg (by decide), if_pos rfl, if_neg h1, if_neg h2] at hw
        show (if a.cls = 1 then _ else if a.cls = 2 then _ else if a.cls = 3 then (({ zeroAsk with file := a.file, cls := a.cls, on := truthI a.on != 0, name := ⟨a.name.data.toList.toArray⟩ } : AskV), (⟨12 + (ptextOf a.name.data.toList).length, 0⟩ : Rd)) else _) = _
        rw [if_neg h1, if_neg h2, if_pos h3, truthI_ne, str_of, hw]
  · obtain ⟨xs, hxs⟩ : ∃ x, x = bodyI 18 a ++ post := ⟨_, rfl⟩
    rw [← hxs]
    have hx0 : xs = le a.file 8 ++ (le a.lev 1 ++ (List.replicate 3 0 ++ post)) := by rw [hxs]; show (le a.file 8 ++ (le a.lev 1 ++ List.replicate 3 0)) ++ post = _; simp only [List.append_assoc]
    have e1 : l1 xs = (a.file, ⟨8, 0⟩) := rdN_at' (pre := []) 18446744073709551616 (by decide) hx0 rfl b1.1 (by omega)
    have e2 : k2 xs = (a.lev, ⟨9, 0⟩) := by unfold k2; rw [e1]; exact rdN_at' (pre := le a.file 8) 256 (by decide) hx0 (by simp [le_length]) b5.1 (by omega)
    have e3 : k3 xs = ⟨12, 0⟩ := by unfold k3; rw [e2]; exact rdZ_at' (pre := le a.file 8 ++ le a.lev 1) (post := post) (by rw [hx0]; simp only [List.append_assoc]) (by simp [le_length])
    have hlen : (bodyI 18 a).length = 12 := by show (le a.file 8 ++ (le a.lev 1 ++ List.replicate 3 0)).length = 12; simp [le_length]
    unfold igP
    rw [if_neg (by decide), if_neg (by decide), if_neg (by decide), if_pos rfl, e1, e2, e3, hlen]
    conv => rhs; rw [← hw]
    rfl
end Go.Proofs.YtbbjmmooemmeiaaDoor
