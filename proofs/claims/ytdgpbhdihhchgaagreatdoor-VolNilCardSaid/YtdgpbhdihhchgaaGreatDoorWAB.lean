import Derived.WalkKit
import Derived.Deep.Draws
import Derived.Laws.Rows
import Derived.Laws.OwnMore
import Derived.Lib.RuneBytes
import Derived.Lib.ValidLaws
import Derived.Test.YtdgpbhdihhchgaaGreatDoorRows
import Derived.Laws.CopyOwn
import Derived.Laws.AppendOwnNone
import Derived.Lib.Hide
import Derived.Laws.AppendOwn
import Derived.OwnWalk
import Derived.Lib.OthersKept
import Derived.Laws.BytesArg
import Derived.Shelf.Strings.Builder1
import Derived.Shelf.Strings.Builder2
import Derived.Shelf.Strings.OnBuilder
import Derived.Shelf.Strings.BuilderF
import Derived.Shelf.Strings.BuilderK
import Derived.Shelf.Utf8.AppendRunePlain
import Derived.Shelf.Utf8.RuneCount
import Derived.Shelf.LaysM
import Derived.Shelf.Strconv.Clone
import Derived.Shelf.Strings.Search1
import Derived.Shelf.Strings.Search2
import Derived.Shelf.Strings.Cut
import Derived.Shelf.Strings.Shaped
import Derived.Shelf.Unicode.DecodeSlow
import Derived.Shelf.Unicode.DecodeAny
import Derived.Shelf.Slices.Turned
import Derived.Ground.SlgmProg
import Derived.Shelf.SortM.Plain
import Derived.Shelf.SortM.SortNone
import Derived.Shelf.Unicode.ValidAny
import Derived.Test.YtdgpbhdihhchgaaGreatDoorProg
import Derived.WalkSpells
import Derived.WalkLawsBesides
import Derived.Deep.QuietTactic
import Derived.BigQuiet
import Derived.Laws.Bits64
import Derived.Laws.BitsAllLaws
import Derived.Laws.Tables
import Derived.Laws.NewFold
import Derived.Deep.WholeRow
import Derived.Deep.DeepCutAuto
import Derived.Laws.IdiomStrings
import Derived.Laws.Cover4
import Derived.Lib.RuneCount
import Derived.Lib.IndexLaws
import Derived.OneCell
import Derived.StillTailTactics
import Derived.WalkMore
import Derived.Maps.OwnSet
import Derived.ProofKit
import Derived.OpenShut
import Derived.ShutString
import Derived.SizedLaws
import Derived.ChangeOld
import Derived.Lib.AppendZeros
import Derived.Deep.RegionWith
import Derived.Great.Walk
import Derived.Deep.Strs
import Derived.Deep.Slices
import Derived.Deep.MidRow
import Derived.Lib.Join
import Derived.Deep.RegionLaw
import Derived.Deep.CutBlock
import Derived.Lib.SliceRun
import Derived.Maps.AppendAt
import Derived.Lib.Overlaps
import Derived.Test.YtdgpbhdihhchgaaGreatDoorWAA
namespace Go.Proofs.YtdgpbhdihhchgaaGreatDoor
set_option linter.all false
open Go.RowKit Go.Lib
set_option linter.unusedVariables false
abbrev NameL := List UInt8
structure VNode where
  n : Int
  kind : Int
  par : Int
  name : NameL
  B : List Int
  Z : List Bool
structure VolM where
  quota : Int
  last : Int
  l : List VNode
def vRoot : VNode := ⟨1, 1, 0, [], [], []⟩
def vNewE (quota : Int) : Int := if quota < 0 ∨ 1048576 < quota then 2 else 0
def vNew (quota : Int) : VolM := ⟨quota, 1, [vRoot]⟩
/-- where a node stands in the list -/
def vIx (L : List VNode) (n : Int) : Nat := L.findIdx fun x => decide (x.n = n)
def vAt (L : List VNode) (n : Int) : Option VNode := L[vIx L n]?
def vPlace (L : List VNode) (n : Int) : Int := if vIx L n < L.length then (vIx L n : Int) else -1
def vKind (L : List VNode) (n : Int) : Int := match vAt L n with | some x => x.kind | none => 0
def vChild (L : List VNode) (d : Int) (s : NameL) : Int := match L.find? (fun x => decide (x.par = d) && alikeOf x.name s) with | some x => x.n | none => 0
/-- name by name, from a node on -/
def vGo (L : List VNode) : Int → List NameL → Int × Int
  | n, [] => (n, 0)
  | n, s :: r => if vKind L n ≠ 1 then (0, 9) else if vChild L n s = 0 then (0, 7) else vGo L (vChild L n s) r
def vFind (L : List VNode) (p : NameL) : Int × Int := if parseErr p ≠ 0 then (0, parseErr p) else vGo L 1 (parseOf p)
/-- the directory of a path's last name -/
def vParE (L : List VNode) (p : NameL) : Int := if (vFind L (dirOf p)).2 ≠ 0 then (vFind L (dirOf p)).2 else if vKind L (vFind L (dirOf p)).1 ≠ 1 then 9 else 0
def vParN (L : List VNode) (p : NameL) : Int := if vParE L p = 0 then (vFind L (dirOf p)).1 else 0
def vParS (L : List VNode) (p : NameL) : NameL := if vParE L p = 0 then lastOf p else []
def vMakeE (V : VolM) (p : NameL) (k : Int) : Int :=
  if parseErr p ≠ 0 then parseErr p else if p = [] then 8 else if vParE V.l p ≠ 0 then vParE V.l p else if vChild V.l (vParN V.l p) (vParS V.l p) ≠ 0 then 8 else if k ≠ 1 ∧ k ≠ 2 then 2 else if 256 ≤ V.l.length then 3 else 0
def vMakeN (V : VolM) (p : NameL) (k : Int) : Int := if vMakeE V p k = 0 then V.last + 1 else 0
def vMake (V : VolM) (p : NameL) (k : Int) : VolM := if vMakeE V p k = 0 then ⟨V.quota, V.last + 1, V.l ++ [⟨V.last + 1, k, vParN V.l p, vParS V.l p, [], []⟩]⟩ else V
def vEmpty (L : List VNode) (n : Int) : Bool := L.all fun x => decide (x.par ≠ n)
def vAway (L : List VNode) (n : Int) : List VNode := L.eraseIdx (vIx L n)
def vThereE (L : List VNode) (n : Int) : Int := if (vAt L n).isSome = false then 7 else if n = 1 then 2 else 0
def vRemE (L : List VNode) (n : Int) : Int := if vThereE L n ≠ 0 then vThereE L n else if vEmpty L n = false then 16 else 0
def vRem (V : VolM) (n : Int) : VolM := if vRemE V.l n = 0 then ⟨V.quota, V.last, vAway V.l n⟩ else V
/-- the names of a node's path, at most so many -/
def vNm (L : List VNode) : Nat → Int → List NameL
  | 0, _ => []
  | f + 1, n => if n = 1 then [] else match vAt L n with | some x => vNm L f x.par ++ [x.name] | none => []
def vNames (L : List VNode) (n : Int) : List NameL := vNm L 10 n
/-- is a node under another one -/
def vBel (L : List VNode) : Nat → Int → Int → Bool
  | 0, _, _ => false
  | f + 1, n, t => if n ≤ 1 then false else match vAt L n with | some x => decide (x.par = t) || vBel L f x.par t | none => false
def vUnder (L : List VNode) (n t : Int) : Bool := vBel L 10 n t
/-- how many names the longest path under a node has, beyond its own -/
def vDeepN (L : List VNode) (n : Int) (k : Nat) : Nat := (L.take k).foldl (fun m x => if vUnder L x.n n = true then max m ((vNames L x.n).length - (vNames L n).length) else m) 0
def vDeep (L : List VNode) (n : Int) : Nat := vDeepN L n L.length
def vPathE (L : List VNode) (n : Int) : Int := if (vAt L n).isSome = false then 7 else namesErr (vNames L n)
def vPath (L : List VNode) (n : Int) : NameL := if vPathE L n = 0 then joinB (vNames L n) else []
def vTgtE (L : List VNode) (n : Int) (tp : NameL) : Int :=
  if vThereE L n ≠ 0 then vThereE L n else if parseErr tp ≠ 0 then parseErr tp else if tp = [] ∨ underP tp (vPath L n) = true then 2 else if vParE L tp ≠ 0 then vParE L tp else if 8 < (parseOf tp).length + vDeep L n then 3 else 0
/-- the other node that stands there; 0: none -/
def vTgtIs (L : List VNode) (n : Int) (tp : NameL) : Int := if vChild L (vParN L tp) (vParS L tp) = n then 0 else vChild L (vParN L tp) (vParS L tp)
def vMoveE (L : List VNode) (n : Int) (tp : NameL) (over : Bool) : Int :=
  if vTgtE L n tp ≠ 0 then vTgtE L n tp else if vTgtIs L n tp ≠ 0 ∧ over = false then 8 else if vTgtIs L n tp ≠ 0 ∧ (vKind L (vTgtIs L n tp) = 1 ∨ vKind L n = 1) then 9 else 0
/-- a node stands elsewhere -/
def vSet (L : List VNode) (n d : Int) (s : NameL) : List VNode := L.map fun x => if x.n = n then ⟨x.n, x.kind, d, s, x.B, x.Z⟩ else x
def vMoved (L : List VNode) (n : Int) (tp : NameL) : List VNode := vSet (if vTgtIs L n tp ≠ 0 then vAway L (vTgtIs L n tp) else L) n (vParN L tp) (vParS L tp)
def vMove (V : VolM) (n : Int) (tp : NameL) (over : Bool) : VolM := if vMoveE V.l n tp over = 0 then ⟨V.quota, V.last, vMoved V.l n tp⟩ else V
def vStatE (L : List VNode) (n : Int) : Int := if (vAt L n).isSome = false then 7 else 0
def vSize (L : List VNode) (n : Int) : Nat := match vAt L n with | some x => x.B.length | none => 0
def vDatE (L : List VNode) (n : Int) : Int := if (vAt L n).isSome = false then 7 else if vKind L n ≠ 2 then 9 else 0
def vBytes (L : List VNode) (n : Int) : List Int := match vAt L n with | some x => x.B | none => []
def vWas (L : List VNode) (n : Int) : List Bool := match vAt L n with | some x => x.Z | none => []
def vReadE (L : List VNode) (n a k : Int) : Int := if vDatE L n ≠ 0 then vDatE L n else exRdE (vBytes L n).length a k
def vRead (L : List VNode) (n a k : Int) : List Int := if vReadE L n a k = 0 then exRd (vBytes L n) a k else []
def vUsed (L : List VNode) : Nat := (L.map fun x => x.B.length).sum
/-- a node's bytes -/
def vLay (L : List VNode) (n : Int) (B : List Int) (Z : List Bool) : List VNode := L.map fun x => if x.n = n then ⟨x.n, x.kind, x.par, x.name, B, Z⟩ else x
def vWrE (V : VolM) (n a : Int) (xs : List Int) : Int :=
  if vDatE V.l n ≠ 0 then vDatE V.l n else if exWrE a xs.length ≠ 0 then exWrE a xs.length else if V.quota < (vUsed V.l : Int) - (vBytes V.l n).length + (exWr 0 (vBytes V.l n) a xs).length then 13 else 0
def vWr (V : VolM) (n a : Int) (xs : List Int) : VolM := if vWrE V n a xs = 0 then ⟨V.quota, V.last, vLay V.l n (exWr 0 (vBytes V.l n) a xs) (exWr false (vWas V.l n) a (List.replicate xs.length true))⟩ else V
def vCutE (V : VolM) (n s : Int) : Int :=
  if vDatE V.l n ≠ 0 then vDatE V.l n else if exCutE s ≠ 0 then exCutE s else if V.quota < (vUsed V.l : Int) - (vBytes V.l n).length + (exCut 0 (vBytes V.l n) s).length then 13 else 0
def vCut (V : VolM) (n s : Int) : VolM := if vCutE V n s = 0 then ⟨V.quota, V.last, vLay V.l n (exCut 0 (vBytes V.l n) s) (exCut false (vWas V.l n) s)⟩ else V
/-- a node more, ahead of the first one that is not ahead of it -/
def vIns (out : List VNode) (x : VNode) : List VNode := out.take (out.findIdx fun y => !aheadOf y.name x.name) ++ [x] ++ out.drop (out.findIdx fun y => !aheadOf y.name x.name)
/-- the nodes of a directory, in the order of their names -/
def vSort (L : List VNode) (d : Int) : List VNode := (L.filter fun x => decide (x.par = d)).foldl vIns []
noncomputable def vTold (L : List VNode) (d : Int) (p a : NameL) : List VNode := (vSort L d).filter fun x => fitsOf p x.name && (decide (a = []) || aheadOf a x.name)
def vListE (L : List VNode) (n : Int) (p a : NameL) (m : Int) : Int :=
  if (vAt L n).isSome = false then 7 else if vKind L n ≠ 1 then 9 else if m < 0 then 2 else if patErr p [] ≠ 0 then patErr p [] else if isText a = true then 0 else 5
noncomputable def vList (L : List VNode) (n : Int) (p a : NameL) (m : Int) : List VNode := if vListE L n p a m = 0 then (vTold L n p a).take m.toNat else []
noncomputable def vMore (L : List VNode) (n : Int) (p a : NameL) (m : Int) : Bool := if vListE L n p a m = 0 then decide (m < ((vTold L n p a).length : Int)) else false
def vNodes (L : List VNode) : List Int := L.map (·.n)
/-! ### ways: the names from the root down to a node -/
inductive Way (L : List VNode) : Int → List NameL → Prop
  | root : Way L 1 []
  | step {x : VNode} {ps : List NameL} : vAt L x.n = some x → x.n ≠ 1 → Way L x.par ps → Way L x.n (ps ++ [x.name])
/-- numbers rise -/
def Rise (L : List VNode) : Prop := L.Pairwise fun x y => x.n < y.n
section
variable {L : List VNode} {n m d t : Int} {x y : VNode} {s : NameL} {ps qs : List NameL}
theorem vAt_mem (h : vAt L n = some x) : x ∈ L ∧ x.n = n := by
  unfold vAt at h
  obtain ⟨h1, h2⟩ := List.getElem?_eq_some_iff.1 h
  have h3 := List.findIdx_getElem (p := fun x : VNode => decide (x.n = n)) (w := h1)
  simp only [decide_eq_true_eq] at h3
  refine ⟨List.mem_of_getElem? h, ?_⟩
  rw [← h2]
  exact h3
theorem vAt_none (h : vAt L n = none) : ∀ x ∈ L, x.n ≠ n := fun x hx e => by
  unfold vAt at h
  rw [List.getElem?_eq_none_iff] at h
  have := List.findIdx_lt_length_of_exists (p := fun x : VNode => decide (x.n = n)) ⟨x, hx, by simpa using e⟩
  unfold vIx at h
  omega
theorem Rise.same (h : Rise L) (hx : x ∈ L) (hy : y ∈ L) (e : x.n = y.n) : x = y := by
  obtain ⟨i, hi, rfl⟩ := List.mem_iff_getElem.1 hx
  obtain ⟨j, hj, rfl⟩ := List.mem_iff_getElem.1 hy
  rcases Nat.lt_trichotomy i j with h1 | h1 | h1
  · have := List.pairwise_iff_getElem.1 h i j hi hj h1
    omega
  · subst h1
    rfl
  · have := List.pairwise_iff_getElem.1 h j i hj hi h1
    omega
theorem Rise.at (h : Rise L) (hx : x ∈ L) : vAt L x.n = some x := by
  cases hq : vAt L x.n with
  | none => exact absurd rfl (vAt_none hq x hx)
  | some y =>
    obtain ⟨h1, h2⟩ := vAt_mem hq
    rw [h.same h1 hx h2]
theorem Way.same (h : Way L n ps) : ∀ {qs}, Way L n qs → ps = qs := by
  induction h with
  | root =>
    intro qs k
    generalize he : (1 : Int) = m at k
    cases k with
    | root => rfl
    | step a b c => exact absurd he.symm b
  | @step x ps a b c ih =>
    intro qs k
    generalize he : x.n = m at k
    cases k with
    | root => exact absurd he b
    | @step y qs' a' b' c' =>
      rw [he] at a
      rw [a'] at a
      injection a with a
      subst a
      rw [ih c']
theorem Way.nm (h : Way L n ps) : ∀ f, ps.length < f → vNm L f n = ps := by
  induction h with
  | root =>
    intro f hf
    cases f with
    | zero => omega
    | succ f => rfl
  | @step x ps a b c ih =>
    intro f hf
    cases f with
    | zero => omega
    | succ f =>
      unfold vNm
      rw [if_neg b, a]
      simp only
      rw [ih f (by simp at hf; omega)]
theorem Way.names (h : Way L n ps) (h8 : ps.length ≤ 8) : vNames L n = ps := h.nm 10 (by omega)
theorem vChild_some (h : vChild L d s ≠ 0) : ∃ x ∈ L, x.par = d ∧ alikeOf x.name s = true ∧ x.n = vChild L d s := by
  unfold vChild at h ⊢
  cases hq : L.find? (fun x => decide (x.par = d) && alikeOf x.name s) with
  | none => rw [hq] at h; exact absurd rfl h
  | some x =>
    have h1 := List.find?_some hq
    simp only [Bool.and_eq_true, decide_eq_true_eq] at h1
    exact ⟨x, List.mem_of_find?_eq_some hq, h1.1, h1.2, rfl⟩
theorem vChild_zero (h1 : ∀ x ∈ L, 1 ≤ x.n) (h : vChild L d s = 0) : ∀ x ∈ L, x.par = d → alikeOf x.name s = false := fun x hx hd => by
  unfold vChild at h
  cases hq : L.find? (fun x => decide (x.par = d) && alikeOf x.name s) with
  | none =>
    have := List.find?_eq_none.1 hq x hx
    simpa [hd] using this
  | some y =>
    rw [hq] at h
    have := h1 y (List.mem_of_find?_eq_some hq)
    simp only at h
    omega
theorem alikeOf_iff {a b : NameL} : alikeOf a b = true ↔ foldB a = foldB b := decide_eq_true_iff
end
/-- a volume as it may stand -/
structure Vok (V : VolM) : Prop where
  rise : Rise V.l
  root : V.l[0]? = some vRoot
  q0 : 0 ≤ V.quota
  q1 : V.quota ≤ 1048576
  num : ∀ x ∈ V.l, 1 ≤ x.n ∧ x.n ≤ V.last
  kind : ∀ x ∈ V.l, x.kind = 1 ∨ x.kind = 2
  dirB : ∀ x ∈ V.l, x.kind = 1 → x.B = [] ∧ x.Z = []
  len : ∀ x ∈ V.l, x.B.length = x.Z.length ∧ x.B.length ≤ 65536 ∧ Bytes x.B
  good : ∀ x ∈ V.l, x.n ≠ 1 → nameOf x.name = true
  up : ∀ x ∈ V.l, x.n ≠ 1 → vKind V.l x.par = 1
  way : ∀ x ∈ V.l, ∃ ps, Way V.l x.n ps ∧ ps.length ≤ 8
  apart : ∀ x ∈ V.l, ∀ y ∈ V.l, x.par = y.par → alikeOf x.name y.name = true → x = y
  many : V.l.length ≤ 256
  used : (vUsed V.l : Int) ≤ V.quota
section
variable {V : VolM} {n m d : Int} {x y : VNode} {s : NameL} {ps qs : List NameL} {p : NameL}
theorem Vok.at (h : Vok V) (hx : x ∈ V.l) : vAt V.l x.n = some x := h.rise.at hx
theorem Vok.at1 (h : Vok V) : vAt V.l 1 = some vRoot := by
  have h1 : vRoot ∈ V.l := List.mem_of_getElem? h.root
  exact h.at h1
theorem Vok.one (h : Vok V) (hx : x ∈ V.l) (e : x.n = 1) : x = vRoot := h.rise.same hx (List.mem_of_getElem? h.root) e
theorem kind_at (h : vAt V.l n = some x) : vKind V.l n = x.kind := by
  unfold vKind
  rw [h]
theorem kind_some (h : vKind V.l n ≠ 0) : ∃ x, vAt V.l n = some x := by
  unfold vKind at h
  cases hq : vAt V.l n with
  | none => rw [hq] at h; exact absurd rfl h
  | some x => exact ⟨x, rfl⟩
/-- what is found has such a way -/
theorem Vok.go (h : Vok V) : ∀ {qs : List NameL} {m n : Int} {ps : List NameL}, Way V.l m ps → vGo V.l m qs = (n, 0) → ∃ rs, Way V.l n (ps ++ rs) ∧ rs.map foldB = qs.map foldB
  | [], m, n, ps, hw, hg => by
    unfold vGo at hg
    injection hg with h1 _
    subst h1
    exact ⟨[], by rw [List.append_nil]; exact hw, rfl⟩
  | s :: r, m, n, ps, hw, hg => by
    unfold vGo at hg
    by_cases h1 : vKind V.l m ≠ 1
    · rw [if_pos h1] at hg
      injection hg with _ h2
      cases h2
    · rw [if_neg h1] at hg
      by_cases h2 : vChild V.l m s = 0
      · rw [if_pos h2] at hg
        injection hg with _ h3
        cases h3
      · rw [if_neg h2] at hg
        obtain ⟨x, hx, e1, e2, e3⟩ := vChild_some h2
        rw [← e3] at hg
        have hne : x.n ≠ 1 := fun e => by
          rw [h.one hx e] at e1
          have hk : vKind V.l m = 1 := by simpa using h1
          rw [← e1] at hk
          obtain ⟨y, hy⟩ := kind_some (V := V) (n := vRoot.par) (by rw [hk]; decide)
          have := h.num y (vAt_mem hy).1
          have h5 := (vAt_mem hy).2
          have h6 : vRoot.par = 0 := rfl
          omega
        have hw2 : Way V.l x.n (ps ++ [x.name]) := Way.step (h.at hx) hne (by rw [e1]; exact hw)
        obtain ⟨rs, w1, w2⟩ := h.go hw2 hg
        refine ⟨x.name :: rs, ?_, ?_⟩
        · rw [List.append_assoc] at w1
          exact w1
        · rw [List.map_cons, List.map_cons, w2, alikeOf_iff.1 e2]
theorem Vok.child (h : Vok V) (hx : x ∈ V.l) (ha : alikeOf x.name s = true) : vChild V.l x.par s = x.n := by
  have h0 : vChild V.l x.par s ≠ 0 := fun e => by
    have := vChild_zero (fun y hy => (h.num y hy).1) e x hx rfl
    rw [ha] at this
    cases this
  obtain ⟨y, hy, e1, e2, e3⟩ := vChild_some h0
  have : x = y := h.apart x hx y hy e1.symm (alikeOf_iff.2 ((alikeOf_iff.1 ha).trans (alikeOf_iff.1 e2).symm))
  rw [← e3, this]
theorem vGo_append (L : List VNode) : ∀ (qs rs : List NameL) (m n : Int), vGo L m qs = (n, 0) → vGo L m (qs ++ rs) = vGo L n rs
  | [], rs, m, n, h => by
    unfold vGo at h
    injection h with h1 _
    rw [h1, List.nil_append]
  | s :: r, rs, m, n, h => by
    show (if vKind L m ≠ 1 then ((0 : Int), (9 : Int)) else if vChild L m s = 0 then (0, 7) else vGo L (vChild L m s) (r ++ rs)) = _
    unfold vGo at h
    split at h
    · injection h with _ h2; cases h2
    · split at h
      · injection h with _ h2; cases h2
      · rename_i h1 h2
        rw [if_neg h1, if_neg h2]
        exact vGo_append L r rs _ n h
/-- a node is found by its way, however great its letters -/
theorem Vok.found (h : Vok V) (hw : Way V.l n ps) : ∀ {qs : List NameL}, qs.map foldB = ps.map foldB → vGo V.l 1 qs = (n, 0) := by
  induction hw with
  | root =>
    intro qs hq
    obtain rfl : qs = [] := by simpa using hq
    rfl
  | @step x ps a b c ih =>
    intro qs hq
    rw [List.map_append] at hq
    obtain ⟨q1, q2, rfl, h1, h2⟩ := List.map_eq_append_iff.1 hq
    obtain ⟨s, rfl⟩ : ∃ s, q2 = [s] := by
      cases q2 with
      | nil => cases h2
      | cons s r =>
        cases r with
        | nil => exact ⟨s, rfl⟩
        | cons t r => simp at h2
    rw [vGo_append V.l q1 [s] 1 x.par (ih h1)]
    have hx := (vAt_mem a).1
    have hk := h.up x hx b
    have hs : foldB s = foldB x.name := by simpa using h2
    have hc := h.child hx (alikeOf_iff.2 hs.symm)
    unfold vGo
    rw [if_neg (by rw [hk]; decide), if_neg (by rw [hc]; have := (h.num x hx).1; omega), hc]
    rfl
theorem Vok.find (h : Vok V) (hw : Way V.l n ps) (h8 : ps.length ≤ 8) (hg : ∀ p ∈ ps, nameOf p = true) : vFind V.l (joinB ps) = (n, 0) := by
  have he : namesErr ps = 0 := namesErr_ok.2 ⟨hg, h8⟩
  obtain ⟨e1, e2⟩ := parse_join he
  unfold vFind
  rw [if_neg (by rw [e1]; decide), e2]
  exact h.found hw rfl
theorem Way.good (h : Vok V) (hw : Way V.l n ps) : ∀ p ∈ ps, nameOf p = true := by
  induction hw with
  | root => intro p hp; cases hp
  | @step x ps a b c ih =>
    intro p hp
    rcases List.mem_append.1 hp with hp | hp
    · exact ih p hp
    · rw [List.mem_singleton.1 hp]
      exact h.good x (vAt_mem a).1 b
theorem Way.at (h : Vok V) (hw : Way V.l n ps) : ∃ x, vAt V.l n = some x := by
  cases hw with
  | root => exact ⟨_, h.at1⟩
  | step a b c => exact ⟨_, a⟩
end
end Go.Proofs.YtdgpbhdihhchgaaGreatDoor

namespace Go.Proofs.YtdgpbhdihhchgaaGreatDoor
set_option linter.all false
open Go.RowKit Go.Lib
set_option linter.unusedVariables false
section
variable {L L' : List VNode} {n m d : Int} {x y : VNode} {s : NameL} {ps qs : List NameL} {p : NameL}
theorem Rise.at_iff (h : Rise L) : vAt L n = some x ↔ x ∈ L ∧ x.n = n := by
  constructor
  · exact vAt_mem
  · rintro ⟨h1, rfl⟩
    exact h.at h1
theorem Rise.kind (h : Rise L) (hx : x ∈ L) : vKind L x.n = x.kind := by
  unfold vKind
  rw [h.at hx]
/-- a way stays where its nodes stay, whatever else turns -/
theorem Way.keep (h : Way L n ps) (hk : ∀ x ∈ L, x.n ≠ 1 → ∀ qs, Way L x.par qs → qs.length < ps.length → ∃ y, vAt L' x.n = some y ∧ y.n = x.n ∧ y.par = x.par ∧ y.name = x.name) : Way L' n ps := by
  induction h with
  | root => exact Way.root
  | @step x ps a b c ih =>
    obtain ⟨y, h1, h2, h3, h4⟩ := hk x (vAt_mem a).1 b ps c (by simp)
    have := ih fun z hz hz1 qs hq hl => hk z hz hz1 qs hq (by simp; omega)
    rw [← h3] at this
    rw [← h2] at h1 b ⊢
    rw [← h4]
    exact Way.step h1 b this
theorem Way.keep' (h : Way L n ps) (hk : ∀ x ∈ L, ∃ y, vAt L' x.n = some y ∧ y.n = x.n ∧ y.par = x.par ∧ y.name = x.name) : Way L' n ps := h.keep fun x hx _ _ _ _ => hk x hx
theorem vUsed_append (L M : List VNode) : vUsed (L ++ M) = vUsed L + vUsed M := by
  unfold vUsed
  rw [List.map_append, List.sum_append]
end
theorem vNewE_ok {q : Int} (h : vNewE q = 0) : 0 ≤ q ∧ q ≤ 1048576 := by
  unfold vNewE at h
  by_cases h1 : q < 0 ∨ 1048576 < q
  · rw [if_pos h1] at h; cases h
  · omega
theorem Vok.new {q : Int} (h : vNewE q = 0) : Vok (vNew q) := by
  obtain ⟨h1, h2⟩ := vNewE_ok h
  have hm : ∀ x ∈ (vNew q).l, x = vRoot := fun x hx => List.mem_singleton.1 hx
  refine ⟨List.pairwise_singleton _ _, rfl, h1, h2, ?_, ?_, ?_, ?_, ?_, ?_, ?_, ?_, ?_, ?_⟩
  · intro x hx; rw [hm x hx]; show (1 : Int) ≤ 1 ∧ (1 : Int) ≤ 1; decide
  · intro x hx; rw [hm x hx]; exact .inl rfl
  · intro x hx _; rw [hm x hx]; exact ⟨rfl, rfl⟩
  · intro x hx; rw [hm x hx]; exact ⟨rfl, by decide, Bytes.nil⟩
  · intro x hx hn; rw [hm x hx] at hn; exact absurd rfl hn
  · intro x hx hn; rw [hm x hx] at hn; exact absurd rfl hn
  · intro x hx; rw [hm x hx]; exact ⟨[], Way.root, by decide⟩
  · intro x hx y hy _ _; rw [hm x hx, hm y hy]
  · show 1 ≤ 256; decide
  · exact h1
section
variable {V : VolM} {n m d k : Int} {x y : VNode} {s : NameL} {ps qs : List NameL} {p : NameL}
theorem Vok.mem1 (h : Vok V) : vRoot ∈ V.l := List.mem_of_getElem? h.root
theorem parent_parse (h : parseErr p = 0) (hne : p ≠ []) : parseErr (dirOf p) = 0 ∧ parseOf (dirOf p) = (parseOf p).dropLast ∧ nameOf (lastOf p) = true ∧ parseOf p = (parseOf p).dropLast ++ [lastOf p] := by
  obtain ⟨f1, f2, f3, _⟩ := parent_facts (parentErr_ok.2 ⟨h, hne⟩)
  have e : (parseOf p).dropLast = parseOf (dirOf p) := by rw [f1, List.dropLast_concat]
  rw [e]
  exact ⟨f2, rfl, f3, f1⟩
/-- what is known of the directory in which a path's last name stands -/
theorem Vok.par (h : Vok V) (hp : parseErr p = 0) (hne : p ≠ []) (he : vParE V.l p = 0) : ∃ rs, Way V.l (vParN V.l p) rs ∧ rs.map foldB = (parseOf (dirOf p)).map foldB ∧ vKind V.l (vParN V.l p) = 1 ∧ vParS V.l p = lastOf p := by
  have e1 : vParN V.l p = (vFind V.l (dirOf p)).1 := if_pos he
  have e2 : vParS V.l p = lastOf p := if_pos he
  rw [e1, e2]
  unfold vParE at he
  by_cases h1 : (vFind V.l (dirOf p)).2 ≠ 0
  · rw [if_pos h1] at he
    exact absurd he h1
  · rw [if_neg h1] at he
    by_cases h2 : vKind V.l (vFind V.l (dirOf p)).1 ≠ 1
    · rw [if_pos h2] at he; cases he
    · obtain ⟨d1, _, _, _⟩ := parent_parse hp hne
      have hf : vFind V.l (dirOf p) = vGo V.l 1 (parseOf (dirOf p)) := by
        unfold vFind
        rw [if_neg (by rw [d1]; decide)]
      have h1' : (vFind V.l (dirOf p)).2 = 0 := by simpa using h1
      have hg : vGo V.l 1 (parseOf (dirOf p)) = ((vFind V.l (dirOf p)).1, 0) := by
        rw [← hf]
        exact Prod.ext rfl h1'
      obtain ⟨rs, w1, w2⟩ := h.go Way.root hg
      rw [List.nil_append] at w1
      exact ⟨rs, w1, w2, by simpa using h2, rfl⟩
theorem vMakeE_ok (h : vMakeE V p k = 0) : parseErr p = 0 ∧ p ≠ [] ∧ vParE V.l p = 0 ∧ vChild V.l (vParN V.l p) (vParS V.l p) = 0 ∧ (k = 1 ∨ k = 2) ∧ V.l.length < 256 := by
  unfold vMakeE at h
  by_cases h1 : parseErr p ≠ 0
  · rw [if_pos h1] at h; exact absurd h h1
  rw [if_neg h1] at h
  by_cases h2 : p = []
  · rw [if_pos h2] at h; cases h
  rw [if_neg h2] at h
  by_cases h3 : vParE V.l p ≠ 0
  · rw [if_pos h3] at h; exact absurd h h3
  rw [if_neg h3] at h
  by_cases h4 : vChild V.l (vParN V.l p) (vParS V.l p) ≠ 0
  · rw [if_pos h4] at h; cases h
  rw [if_neg h4] at h
  by_cases h5 : k ≠ 1 ∧ k ≠ 2
  · rw [if_pos h5] at h; cases h
  rw [if_neg h5] at h
  by_cases h6 : 256 ≤ V.l.length
  · rw [if_pos h6] at h; cases h
  exact ⟨by simpa using h1, h2, by simpa using h3, by simpa using h4, by omega, by omega⟩
theorem rise_snoc {L : List VNode} (h : Rise L) (hx : ∀ y ∈ L, y.n < x.n) : Rise (L ++ [x]) := by
  unfold Rise
  rw [List.pairwise_append]
  exact ⟨h, List.pairwise_singleton _ _, fun y hy z hz => by rw [List.mem_singleton.1 hz]; exact hx y hy⟩
theorem Vok.make (h : Vok V) (p : NameL) (k : Int) : Vok (vMake V p k) := by
  unfold vMake
  by_cases he : vMakeE V p k = 0
  · rw [if_pos he]
    obtain ⟨e1, e2, e3, e4, e5, e6⟩ := vMakeE_ok he
    obtain ⟨rs, w1, w2, w3, w4⟩ := h.par e1 e2 e3
    obtain ⟨d1, d2, d3, d4⟩ := parent_parse e1 e2
    obtain ⟨d, hd⟩ : ∃ d, d = vParN V.l p := ⟨_, rfl⟩
    rw [← hd] at e4 w1 w3 ⊢
    rw [w4] at e4 ⊢
    obtain ⟨x, hx⟩ : ∃ x : VNode, x = ⟨V.last + 1, k, d, lastOf p, [], []⟩ := ⟨_, rfl⟩
    rw [← hx]
    have hxn : x.n = V.last + 1 := by rw [hx]
    have hxp : x.par = d := by rw [hx]
    have hxs : x.name = lastOf p := by rw [hx]
    have hxB : x.B = [] := by rw [hx]
    have hxZ : x.Z = [] := by rw [hx]
    have hxk : x.kind = k := by rw [hx]
    have hr : Rise (V.l ++ [x]) := rise_snoc h.rise fun y hy => by have := (h.num y hy).2; omega
    have hl1 : 1 ≤ V.last := (h.num vRoot h.mem1).2
    have hin : ∀ y ∈ V.l, y ∈ V.l ++ [x] := fun y hy => List.mem_append_left _ hy
    have hcase : ∀ y ∈ V.l ++ [x], y ∈ V.l ∨ y = x := fun y hy => by
      rcases List.mem_append.1 hy with hy | hy
      · exact .inl hy
      · exact .inr (List.mem_singleton.1 hy)
    have hkk : ∀ m, vKind V.l m = 1 → vKind (V.l ++ [x]) m = 1 := fun m hm => by
      obtain ⟨y, hy⟩ := kind_some (V := V) (n := m) (by rw [hm]; decide)
      obtain ⟨y1, y2⟩ := vAt_mem hy
      have := kind_at (V := V) hy
      rw [← y2, hr.kind (hin y y1), ← this, hm]
    have hway : ∀ {m ps}, Way V.l m ps → Way (V.l ++ [x]) m ps := fun hw => hw.keep' fun y hy => ⟨y, hr.at (hin y hy), rfl, rfl, rfl⟩
    have hrs : rs.length ≤ 7 := by
      have h1 := congrArg List.length w2
      rw [List.length_map, List.length_map, d2, List.length_dropLast] at h1
      have h2 := parse_len e1
      omega
    refine ⟨hr, ?_, h.q0, h.q1, ?_, ?_, ?_, ?_, ?_, ?_, ?_, ?_, ?_, ?_⟩
    · show (V.l ++ [x])[0]? = some vRoot
      have h0 : 0 < V.l.length := by
        obtain ⟨h1, _⟩ := List.getElem?_eq_some_iff.1 h.root
        exact h1
      rw [List.getElem?_append_left h0]
      exact h.root
    · intro y hy
      rcases hcase y hy with hy | rfl
      · have := h.num y hy
        show 1 ≤ y.n ∧ y.n ≤ V.last + 1
        omega
      · show 1 ≤ y.n ∧ y.n ≤ V.last + 1
        omega
    · intro y hy
      rcases hcase y hy with hy | rfl
      · exact h.kind y hy
      · rw [hxk]; exact e5
    · intro y hy hk
      rcases hcase y hy with hy | rfl
      · exact h.dirB y hy hk
      · exact ⟨hxB, hxZ⟩
    · intro y hy
      rcases hcase y hy with hy | rfl
      · exact h.len y hy
      · rw [hxB, hxZ]; exact ⟨rfl, by decide, Bytes.nil⟩
    · intro y hy hn
      rcases hcase y hy with hy | rfl
      · exact h.good y hy hn
      · rw [hxs]; exact d3
    · intro y hy hn
      rcases hcase y hy with hy | rfl
      · exact hkk _ (h.up y hy hn)
      · rw [hxp]; exact hkk _ w3
    · intro y hy
      rcases hcase y hy with hy | rfl
      · obtain ⟨qs, q1, q2⟩ := h.way y hy
        exact ⟨qs, hway q1, q2⟩
      · exact ⟨rs ++ [y.name], Way.step (hr.at (List.mem_append_right _ (List.mem_singleton.2 rfl))) (by omega) (by rw [hxp]; exact hway w1), by simp; omega⟩
    · have hno : ∀ y ∈ V.l, y.par = d → alikeOf y.name (lastOf p) = false := vChild_zero (fun y hy => (h.num y hy).1) e4
      intro y hy z hz hpar ha
      rcases hcase y hy with hy1 | hy1
      · rcases hcase z hz with hz1 | hz1
        · exact h.apart y hy1 z hz1 hpar ha
        · rw [hz1, hxs, hno y hy1 (by rw [hpar, hz1, hxp])] at ha
          cases ha
      · rcases hcase z hz with hz1 | hz1
        · have ha' := alikeOf_iff.2 (alikeOf_iff.1 ha).symm
          rw [hy1, hxs, hno z hz1 (by rw [← hpar, hy1, hxp])] at ha'
          cases ha'
        · rw [hy1, hz1]
    · show (V.l ++ [x]).length ≤ 256
      simp
      omega
    · show ((vUsed (V.l ++ [x]) : Nat) : Int) ≤ V.quota
      have : vUsed (V.l ++ [x]) = vUsed V.l := by
        rw [vUsed_append]
        unfold vUsed
        simp [hxB]
      rw [this]
      exact h.used
  · rw [if_neg he]
    exact h
end
end Go.Proofs.YtdgpbhdihhchgaaGreatDoor

namespace Go.Proofs.YtdgpbhdihhchgaaGreatDoor
set_option linter.all false
open Go.RowKit Go.Lib
set_option linter.unusedVariables false
section
variable {V : VolM} {L : List VNode} {n m d k : Int} {x y : VNode} {s : NameL} {ps qs : List NameL} {p : NameL}
theorem vIx_lt (h : vAt L n = some x) : vIx L n < L.length := (List.getElem?_eq_some_iff.1 h).1
theorem away_mem (h : Rise L) (ha : vAt L n = some y) : x ∈ vAway L n ↔ x ∈ L ∧ x.n ≠ n := by
  have hl := vIx_lt ha
  have he : L[vIx L n] = y := (List.getElem?_eq_some_iff.1 ha).2
  have hy := vAt_mem ha
  unfold vAway
  rw [List.mem_eraseIdx_iff_getElem]
  constructor
  · rintro ⟨i, hi, hne, rfl⟩
    refine ⟨List.getElem_mem hi, fun e => hne ?_⟩
    rcases Nat.lt_trichotomy i (vIx L n) with h1 | h1 | h1
    · have h2 := List.pairwise_iff_getElem.1 h i (vIx L n) hi hl h1
      rw [he, hy.2] at h2
      omega
    · exact h1
    · have h2 := List.pairwise_iff_getElem.1 h (vIx L n) i hl hi h1
      rw [he, hy.2] at h2
      omega
  · rintro ⟨h1, h2⟩
    obtain ⟨i, hi, rfl⟩ := List.mem_iff_getElem.1 h1
    exact ⟨i, hi, fun e => h2 (by subst e; rw [he]; exact hy.2), rfl⟩
theorem away_rise (h : Rise L) : Rise (vAway L n) := List.Pairwise.sublist (List.eraseIdx_sublist _ _) h
theorem sum_erase : ∀ (l : List Nat) (i : Nat) (h : i < l.length), (l.eraseIdx i).sum + l[i] = l.sum
  | [], i, h => by simp at h
  | a :: r, 0, h => by simp; omega
  | a :: r, i + 1, h => by
    have := sum_erase r i (by simpa using h)
    simp
    omega
theorem away_used (ha : vAt L n = some x) : vUsed (vAway L n) + x.B.length = vUsed L := by
  have hl := vIx_lt ha
  have he : L[vIx L n] = x := (List.getElem?_eq_some_iff.1 ha).2
  have h1 := sum_erase (L.map fun x => x.B.length) (vIx L n) (by simpa using hl)
  unfold vUsed vAway
  rw [← h1, List.eraseIdx_eq_take_drop_succ, List.eraseIdx_eq_take_drop_succ, List.map_append, List.map_take, List.map_drop]
  simp [he]
theorem vEmpty_no (h : vEmpty L n = true) : ∀ x ∈ L, x.par ≠ n := fun x hx => by
  have := List.all_eq_true.1 h x hx
  simpa using this
/-- a node in which nothing stands goes -/
theorem Vok.away (h : Vok V) (ha : vAt V.l n = some y) (h1 : n ≠ 1) (he : ∀ x ∈ V.l, x.n ≠ 1 → x.par ≠ n) : Vok ⟨V.quota, V.last, vAway V.l n⟩ := by
  have hm : ∀ x, x ∈ vAway V.l n ↔ x ∈ V.l ∧ x.n ≠ n := fun x => away_mem h.rise ha
  have hr : Rise (vAway V.l n) := away_rise h.rise
  have hsub : ∀ x ∈ vAway V.l n, x ∈ V.l := fun x hx => ((hm x).1 hx).1
  have hway : ∀ {m ps}, Way V.l m ps → m ≠ n → Way (vAway V.l n) m ps := fun {m ps} hw => by
    induction hw with
    | root => intro _; exact Way.root
    | @step x ps a b c ih =>
      intro hne
      have hx := (vAt_mem a).1
      exact Way.step (hr.at ((hm x).2 ⟨hx, hne⟩)) b (ih (he x hx b))
  refine ⟨hr, ?_, h.q0, h.q1, fun x hx => h.num x (hsub x hx), fun x hx => h.kind x (hsub x hx), fun x hx => h.dirB x (hsub x hx), fun x hx => h.len x (hsub x hx), fun x hx => h.good x (hsub x hx), fun x hx hx1 => ?_, fun x hx => ?_, fun x hx y hy => h.apart x (hsub x hx) y (hsub y hy), ?_, ?_⟩
  · have hi : 0 < vIx V.l n := by
      rcases Nat.eq_zero_or_pos (vIx V.l n) with h0 | h0
      · unfold vAt at ha
        rw [h0, h.root] at ha
        injection ha with ha
        have := (vAt_mem (L := V.l) (n := n) (x := y) (by unfold vAt; rw [h0, h.root, ha])).2
        rw [← ha] at this
        exact absurd this.symm h1
      · exact h0
    show (V.l.eraseIdx (vIx V.l n))[0]? = some vRoot
    rw [List.getElem?_eraseIdx, if_pos hi]
    exact h.root
  · have h2 := h.up x (hsub x hx) hx1
    have h3 := he x (hsub x hx) hx1
    obtain ⟨z, hz⟩ := kind_some (V := V) (n := x.par) (by rw [h2]; decide)
    obtain ⟨z1, z2⟩ := vAt_mem hz
    have h4 := kind_at (V := V) hz
    show vKind (vAway V.l n) x.par = 1
    rw [← z2, hr.kind ((hm z).2 ⟨z1, by rw [z2]; exact h3⟩), ← h4, h2]
  · obtain ⟨ps, w1, w2⟩ := h.way x (hsub x hx)
    exact ⟨ps, hway w1 ((hm x).1 hx).2, w2⟩
  · exact Nat.le_trans (List.eraseIdx_sublist _ _).length_le h.many
  · have := away_used ha
    have h5 := h.used
    show ((vUsed (vAway V.l n) : Nat) : Int) ≤ V.quota
    omega
theorem vThereE_ok (h : vThereE L n = 0) : (∃ x, vAt L n = some x) ∧ n ≠ 1 := by
  unfold vThereE at h
  cases hq : vAt L n with
  | none => rw [hq, if_pos (by simp)] at h; cases h
  | some x =>
    rw [hq, if_neg (by simp)] at h
    refine ⟨⟨x, rfl⟩, fun e => ?_⟩
    rw [if_pos e] at h
    cases h
theorem vRemE_ok (h : vRemE L n = 0) : (∃ x, vAt L n = some x) ∧ n ≠ 1 ∧ vEmpty L n = true := by
  unfold vRemE at h
  by_cases h1 : vThereE L n ≠ 0
  · rw [if_pos h1] at h; exact absurd h h1
  rw [if_neg h1] at h
  obtain ⟨a, b⟩ := vThereE_ok (L := L) (n := n) (by simpa using h1)
  refine ⟨a, b, ?_⟩
  cases hq : vEmpty L n with
  | true => rfl
  | false => rw [hq, if_pos rfl] at h; cases h
theorem Vok.rem (h : Vok V) (n : Int) : Vok (vRem V n) := by
  unfold vRem
  by_cases he : vRemE V.l n = 0
  · rw [if_pos he]
    obtain ⟨⟨y, hy⟩, h1, h2⟩ := vRemE_ok he
    exact h.away hy h1 fun x hx _ => vEmpty_no h2 x hx
  · rw [if_neg he]
    exact h
/-! ### bytes -/
theorem lay_mem {B : List Int} {Z : List Bool} : x ∈ vLay L n B Z ↔ ∃ y ∈ L, x = (if y.n = n then ⟨y.n, y.kind, y.par, y.name, B, Z⟩ else y) := by
  unfold vLay
  rw [List.mem_map]
  exact ⟨fun ⟨y, h1, h2⟩ => ⟨y, h1, h2.symm⟩, fun ⟨y, h1, h2⟩ => ⟨y, h1, h2.symm⟩⟩
theorem lay_keep {B : List Int} {Z : List Bool} (y : VNode) : (if y.n = n then (⟨y.n, y.kind, y.par, y.name, B, Z⟩ : VNode) else y).n = y.n ∧ (if y.n = n then (⟨y.n, y.kind, y.par, y.name, B, Z⟩ : VNode) else y).kind = y.kind ∧ (if y.n = n then (⟨y.n, y.kind, y.par, y.name, B, Z⟩ : VNode) else y).par = y.par ∧ (if y.n = n then (⟨y.n, y.kind, y.par, y.name, B, Z⟩ : VNode) else y).name = y.name := by
  split <;> exact ⟨rfl, rfl, rfl, rfl⟩
theorem lay_rise {B : List Int} {Z : List Bool} (h : Rise L) : Rise (vLay L n B Z) := by
  unfold Rise vLay
  rw [List.pairwise_map]
  exact List.Pairwise.imp (fun {a b} q => by rw [(lay_keep a).1, (lay_keep b).1]; exact q) h
theorem lay_used {B : List Int} {Z : List Bool} : ∀ {L : List VNode}, Rise L → vAt L n = some x → vUsed (vLay L n B Z) + x.B.length = vUsed L + B.length
  | [], _, ha => by cases ha
  | y :: r, h, ha => by
    obtain ⟨h1, h2⟩ := List.pairwise_cons.1 h
    obtain ⟨a1, a2⟩ := vAt_mem ha
    have hu : ∀ (z : VNode) (M : List VNode), vUsed (z :: M) = z.B.length + vUsed M := fun z M => rfl
    have hl : vLay (y :: r) n B Z = (if y.n = n then ⟨y.n, y.kind, y.par, y.name, B, Z⟩ else y) :: vLay r n B Z := rfl
    rw [hl, hu, hu]
    by_cases hy : y.n = n
    · have hxy : x = y := by
        rcases List.mem_cons.1 a1 with e | e
        · exact e
        · have := h1 x e
          omega
      have hrest : vLay r n B Z = r := by
        unfold vLay
        conv => rhs; rw [← List.map_id r]
        apply List.map_congr_left
        intro z hz
        have := h1 z hz
        rw [if_neg (by omega)]
        rfl
      rw [if_pos hy, hrest, hxy]
      simp only
      omega
    · have hxr : x ∈ r := by
        rcases List.mem_cons.1 a1 with e | e
        · rw [e] at a2; exact absurd a2 hy
        · exact e
      have := lay_used (B := B) (Z := Z) (L := r) h2 ((Rise.at_iff h2).2 ⟨hxr, a2⟩)
      rw [if_neg hy]
      omega
theorem Vok.lay (h : Vok V) (ha : vAt V.l n = some x) (hk : x.kind = 2) {B : List Int} {Z : List Bool} (hB : B.length = Z.length ∧ B.length ≤ 65536 ∧ Bytes B) (hq : (vUsed V.l : Int) - x.B.length + B.length ≤ V.quota) : Vok ⟨V.quota, V.last, vLay V.l n B Z⟩ := by
  have hr : Rise (vLay V.l n B Z) := lay_rise h.rise
  obtain ⟨hx, hxn⟩ := vAt_mem ha
  have hn1 : n ≠ 1 := fun e => by
    have := h.one hx (by rw [hxn, e])
    rw [this] at hk
    cases hk
  have back : ∀ y ∈ vLay V.l n B Z, ∃ z ∈ V.l, y.n = z.n ∧ y.kind = z.kind ∧ y.par = z.par ∧ y.name = z.name ∧ (y = z ∨ (z = x ∧ y.B = B ∧ y.Z = Z)) := fun y hy => by
    obtain ⟨z, hz, rfl⟩ := lay_mem.1 hy
    obtain ⟨k1, k2, k3, k4⟩ := lay_keep (n := n) (B := B) (Z := Z) z
    refine ⟨z, hz, k1, k2, k3, k4, ?_⟩
    by_cases e : z.n = n
    · exact .inr ⟨h.rise.same hz hx (by rw [e, hxn]), by rw [if_pos e], by rw [if_pos e]⟩
    · exact .inl (if_neg e)
  have forth : ∀ z ∈ V.l, ∃ y, vAt (vLay V.l n B Z) z.n = some y ∧ y.n = z.n ∧ y.kind = z.kind ∧ y.par = z.par ∧ y.name = z.name := fun z hz => by
    obtain ⟨k1, k2, k3, k4⟩ := lay_keep (n := n) (B := B) (Z := Z) z
    have hm : (if z.n = n then (⟨z.n, z.kind, z.par, z.name, B, Z⟩ : VNode) else z) ∈ vLay V.l n B Z := lay_mem.2 ⟨z, hz, rfl⟩
    exact ⟨_, hr.at_iff.2 ⟨hm, k1⟩, k1, k2, k3, k4⟩
  refine ⟨hr, ?_, h.q0, h.q1, ?_, ?_, ?_, ?_, ?_, ?_, ?_, ?_, ?_, ?_⟩
  · show (vLay V.l n B Z)[0]? = some vRoot
    unfold vLay
    rw [List.getElem?_map, h.root]
    show some (if vRoot.n = n then _ else vRoot) = _
    rw [if_neg (fun e => hn1 e.symm)]
  · intro y hy
    obtain ⟨z, hz, e, _⟩ := back y hy
    rw [e]; exact h.num z hz
  · intro y hy
    obtain ⟨z, hz, _, e, _⟩ := back y hy
    rw [e]; exact h.kind z hz
  · intro y hy hk1
    obtain ⟨z, hz, _, e, _, _, e2⟩ := back y hy
    rcases e2 with rfl | ⟨rfl, _⟩
    · exact h.dirB y hz hk1
    · rw [e, hk] at hk1; cases hk1
  · intro y hy
    obtain ⟨z, hz, _, _, _, _, e2⟩ := back y hy
    rcases e2 with rfl | ⟨_, e3, e4⟩
    · exact h.len y hz
    · rw [e3, e4]; exact hB
  · intro y hy hy1
    obtain ⟨z, hz, e1, _, _, e, _⟩ := back y hy
    rw [e]; exact h.good z hz (by rw [← e1]; exact hy1)
  · intro y hy hy1
    obtain ⟨z, hz, e1, _, e, _⟩ := back y hy
    have h2 := h.up z hz (by rw [← e1]; exact hy1)
    obtain ⟨u, hu⟩ := kind_some (V := V) (n := z.par) (by rw [h2]; decide)
    obtain ⟨u1, u2⟩ := vAt_mem hu
    obtain ⟨t, t1, t2, t3, _⟩ := forth u u1
    have h4 := kind_at (V := V) hu
    show vKind (vLay V.l n B Z) y.par = 1
    rw [e, ← u2]
    unfold vKind
    rw [t1]
    show t.kind = 1
    rw [t3, ← h4, h2]
  · intro y hy
    obtain ⟨z, hz, e1, _⟩ := back y hy
    obtain ⟨ps, w1, w2⟩ := h.way z hz
    refine ⟨ps, ?_, w2⟩
    rw [e1]
    exact w1.keep' fun u hu => by
      obtain ⟨t, t1, t2, _, t4, t5⟩ := forth u hu
      exact ⟨t, t1, t2, t4, t5⟩
  · intro y hy y' hy' hp ha'
    obtain ⟨z, hz, e1, _, e3, e4, _⟩ := back y hy
    obtain ⟨z', hz', e1', _, e3', e4', _⟩ := back y' hy'
    have := h.apart z hz z' hz' (by rw [← e3, ← e3', hp]) (by rw [← e4, ← e4']; exact ha')
    exact hr.same hy hy' (by rw [e1, e1', this])
  · show (vLay V.l n B Z).length ≤ 256
    unfold vLay
    rw [List.length_map]
    exact h.many
  · have := lay_used (B := B) (Z := Z) h.rise ha
    show ((vUsed (vLay V.l n B Z) : Nat) : Int) ≤ V.quota
    omega
theorem vDatE_ok (h : vDatE L n = 0) : ∃ x, vAt L n = some x ∧ x.kind = 2 ∧ vBytes L n = x.B ∧ vWas L n = x.Z := by
  unfold vDatE at h
  cases hq : vAt L n with
  | none => rw [hq, if_pos (by simp)] at h; cases h
  | some x =>
    rw [hq, if_neg (by simp)] at h
    have hk : vKind L n = x.kind := by unfold vKind; rw [hq]
    rw [hk] at h
    refine ⟨x, rfl, ?_, by unfold vBytes; rw [hq], by unfold vWas; rw [hq]⟩
    by_cases e : x.kind ≠ 2
    · rw [if_pos e] at h; cases h
    · simpa using e
theorem Vok.wr (h : Vok V) (n a : Int) {xs : List Int} (hb : Bytes xs) : Vok (vWr V n a xs) := by
  unfold vWr
  by_cases he : vWrE V n a xs = 0
  · rw [if_pos he]
    unfold vWrE at he
    by_cases h1 : vDatE V.l n ≠ 0
    · rw [if_pos h1] at he; exact absurd he h1
    rw [if_neg h1] at he
    by_cases h2 : exWrE a xs.length ≠ 0
    · rw [if_pos h2] at he; exact absurd he h2
    rw [if_neg h2] at he
    obtain ⟨x, x1, x2, x3, x4⟩ := vDatE_ok (L := V.l) (n := n) (by simpa using h1)
    rw [x3] at he ⊢
    rw [x4]
    obtain ⟨l1, l2, l3⟩ := h.len x (vAt_mem x1).1
    refine h.lay x1 x2 ⟨exWr_len 0 false l1 (by rw [List.length_replicate]) a, exWr_small 0 l2 a, exWr_bytes l3 hb a⟩ ?_
    by_cases h3 : V.quota < (vUsed V.l : Int) - x.B.length + (exWr 0 x.B a xs).length
    · rw [if_pos h3] at he; cases he
    · omega
  · rw [if_neg he]
    exact h
theorem Vok.cut (h : Vok V) (n s : Int) : Vok (vCut V n s) := by
  unfold vCut
  by_cases he : vCutE V n s = 0
  · rw [if_pos he]
    unfold vCutE at he
    by_cases h1 : vDatE V.l n ≠ 0
    · rw [if_pos h1] at he; exact absurd he h1
    rw [if_neg h1] at he
    by_cases h2 : exCutE s ≠ 0
    · rw [if_pos h2] at he; exact absurd he h2
    rw [if_neg h2] at he
    obtain ⟨x, x1, x2, x3, x4⟩ := vDatE_ok (L := V.l) (n := n) (by simpa using h1)
    rw [x3] at he ⊢
    rw [x4]
    obtain ⟨l1, l2, l3⟩ := h.len x (vAt_mem x1).1
    refine h.lay x1 x2 ⟨exCut_len 0 false l1 s, exCut_small 0 l2 s, exCut_bytes l3 s⟩ ?_
    by_cases h3 : V.quota < (vUsed V.l : Int) - x.B.length + (exCut 0 x.B s).length
    · rw [if_pos h3] at he; cases he
    · omega
  · rw [if_neg he]
    exact h
end
end Go.Proofs.YtdgpbhdihhchgaaGreatDoor

namespace Go.Proofs.YtdgpbhdihhchgaaGreatDoor
set_option linter.all false
open Go.RowKit Go.Lib
set_option linter.unusedVariables false
/-- the names from a node down to one that is it, or under it -/
inductive Down (L : List VNode) (n : Int) : Int → List NameL → Prop
  | self : Down L n n []
  | step {x : VNode} {ps : List NameL} : vAt L x.n = some x → x.n ≠ 1 → Down L n x.par ps → Down L n x.n (ps ++ [x.name])
section
variable {L L' : List VNode} {n m d t : Int} {x y : VNode} {s : NameL} {ps qs ws rs : List NameL}
theorem Way.down (hw : Way L n ws) (hd : Down L n m ps) : Way L m (ws ++ ps) := by
  induction hd with
  | self => rw [List.append_nil]; exact hw
  | step a b c ih =>
    rw [← List.append_assoc]
    exact Way.step a b ih
theorem Down.nil (h : Down L n m []) : m = n := by
  generalize he : ([] : List NameL) = q at h
  cases h with
  | self => rfl
  | step a b c => simp at he
theorem Down.sub (h : Down L' n m ps) (hs : ∀ x n, vAt L' n = some x → vAt L n = some x) : Down L n m ps := by
  induction h with
  | self => exact Down.self
  | step a b c ih => exact Down.step (hs _ _ a) b ih
theorem Down.bel (h1 : ∀ x ∈ L, 1 ≤ x.n) (h : Down L t m qs) : ∀ f, qs ≠ [] → (∀ ws, Way L m ws → ws.length < f) → (∃ ws, Way L m ws) → vBel L f m t = true := by
  induction h with
  | self => intro f hq; exact absurd rfl hq
  | @step x ps a b c ih =>
    intro f hq hf hw
    obtain ⟨ws, hw⟩ := hw
    cases f with
    | zero => exact absurd (hf ws hw) (Nat.not_lt_zero _)
    | succ f =>
      have hx := h1 x (vAt_mem a).1
      unfold vBel
      rw [if_neg (by omega), a]
      simp only [Bool.or_eq_true, decide_eq_true_eq]
      by_cases hp : ps = []
      · subst hp
        exact .inl c.nil
      · refine .inr (ih f hp (fun us hu => ?_) ?_)
        · have := hf _ (Way.step a b hu)
          rw [List.length_append] at this
          simp at this
          omega
        · generalize he : x.n = k at hw
          cases hw with
          | root => exact absurd he b
          | @step y us a' b' c' =>
            rw [he, a'] at a
            injection a with a
            rw [← a]
            exact ⟨us, c'⟩
theorem Rise.sub (h : Rise L) (h' : Rise L') (hs : ∀ x ∈ L', x ∈ L) : ∀ x n, vAt L' n = some x → vAt L n = some x := fun x n hx => by
  obtain ⟨a, b⟩ := vAt_mem hx
  exact h.at_iff.2 ⟨hs x a, b⟩
theorem set_keep {d : Int} {s : NameL} (y : VNode) : (if y.n = n then (⟨y.n, y.kind, d, s, y.B, y.Z⟩ : VNode) else y).n = y.n ∧ (if y.n = n then (⟨y.n, y.kind, d, s, y.B, y.Z⟩ : VNode) else y).kind = y.kind ∧ (if y.n = n then (⟨y.n, y.kind, d, s, y.B, y.Z⟩ : VNode) else y).B = y.B ∧ (if y.n = n then (⟨y.n, y.kind, d, s, y.B, y.Z⟩ : VNode) else y).Z = y.Z := by
  split <;> exact ⟨rfl, rfl, rfl, rfl⟩
theorem set_mem : x ∈ vSet L n d s ↔ ∃ y ∈ L, x = (if y.n = n then ⟨y.n, y.kind, d, s, y.B, y.Z⟩ else y) := by
  unfold vSet
  rw [List.mem_map]
  exact ⟨fun ⟨y, h1, h2⟩ => ⟨y, h1, h2.symm⟩, fun ⟨y, h1, h2⟩ => ⟨y, h1, h2.symm⟩⟩
theorem set_rise (h : Rise L) : Rise (vSet L n d s) := by
  unfold Rise vSet
  rw [List.pairwise_map]
  exact List.Pairwise.imp (fun {a b} q => by rw [(set_keep a).1, (set_keep b).1]; exact q) h
theorem set_at (h : Rise L) (hx : vAt L m = some x) : vAt (vSet L n d s) m = some (if x.n = n then ⟨x.n, x.kind, d, s, x.B, x.Z⟩ else x) := by
  obtain ⟨a, b⟩ := vAt_mem hx
  exact (set_rise h).at_iff.2 ⟨set_mem.2 ⟨x, a, rfl⟩, by rw [(set_keep x).1, b]⟩
theorem set_used : vUsed (vSet L n d s) = vUsed L := by
  unfold vUsed vSet
  rw [List.map_map]
  congr 1
  apply List.map_congr_left
  intro y _
  show (if y.n = n then (⟨y.n, y.kind, d, s, y.B, y.Z⟩ : VNode) else y).B.length = y.B.length
  rw [(set_keep y).2.2.1]
/-- a way that does not lead over the node -/
theorem Way.off (h : Rise L) (hw : Way L m ps) (hn : ¬ ∃ qs, Down L n m qs) : Way (vSet L n d s) m ps := by
  induction hw with
  | root => exact Way.root
  | @step x ps a b c ih =>
    have hne : x.n ≠ n := fun e => hn ⟨[], by rw [e]; exact Down.self⟩
    have h1 := set_at (n := n) (d := d) (s := s) h a
    rw [if_neg hne] at h1
    exact Way.step h1 b (ih fun ⟨qs, hq⟩ => hn ⟨_, Down.step a b hq⟩)
theorem Down.moved (h : Rise L) (hd : Down L n m ps) (hw : Way L n ws) {us : List NameL} (hu : Way (vSet L n d s) n us) : Way (vSet L n d s) m (us ++ ps) := by
  induction hd with
  | self => rw [List.append_nil]; exact hu
  | @step x ps a b c ih =>
    have hne : x.n ≠ n := fun e => by
      have h1 := hw.down (Down.step a b c)
      rw [e] at h1
      have h2 := congrArg List.length (hw.same h1)
      rw [List.length_append, List.length_append, List.length_cons] at h2
      omega
    have h1 := set_at (n := n) (d := d) (s := s) h a
    rw [if_neg hne] at h1
    rw [← List.append_assoc]
    exact Way.step h1 b ih
end
section
variable {V : VolM} {n m d : Int} {x y : VNode} {s : NameL} {ps qs ws rs : List NameL} {tp : NameL} {over : Bool}
theorem Vok.set (h : Vok V) (ha : vAt V.l n = some x) (h1 : n ≠ 1) (hd : vKind V.l d = 1) (hs : nameOf s = true) (hw : Way V.l d rs) (hnd : ¬ ∃ qs, Down V.l n d qs) (hdeep : ∀ m qs, Down V.l n m qs → rs.length + 1 + qs.length ≤ 8) (hno : ∀ y ∈ V.l, y.par = d → alikeOf y.name s = true → y.n = n) :
    Vok ⟨V.quota, V.last, vSet V.l n d s⟩ := by
  have hr : Rise (vSet V.l n d s) := set_rise h.rise
  obtain ⟨hx, hxn⟩ := vAt_mem ha
  have back : ∀ y ∈ vSet V.l n d s, ∃ z ∈ V.l, y.n = z.n ∧ y.kind = z.kind ∧ y.B = z.B ∧ y.Z = z.Z ∧ ((z.n ≠ n ∧ y = z) ∨ (z.n = n ∧ y.par = d ∧ y.name = s)) := fun y hy => by
    obtain ⟨z, hz, rfl⟩ := set_mem.1 hy
    obtain ⟨k1, k2, k3, k4⟩ := set_keep (n := n) (d := d) (s := s) z
    refine ⟨z, hz, k1, k2, k3, k4, ?_⟩
    by_cases e : z.n = n
    · exact .inr ⟨e, by rw [if_pos e], by rw [if_pos e]⟩
    · exact .inl ⟨e, if_neg e⟩
  have hkk : ∀ m, vKind V.l m = 1 → vKind (vSet V.l n d s) m = 1 := fun m hm => by
    obtain ⟨z, hz⟩ := kind_some (V := V) (n := m) (by rw [hm]; decide)
    have h2 := set_at (n := n) (d := d) (s := s) h.rise hz
    have h4 := kind_at (V := V) hz
    unfold vKind
    rw [h2]
    show (if z.n = n then (⟨z.n, z.kind, d, s, z.B, z.Z⟩ : VNode) else z).kind = 1
    rw [(set_keep z).2.1, ← h4, hm]
  have hnew : Way (vSet V.l n d s) n (rs ++ [s]) := by
    have h2 := set_at (n := n) (d := d) (s := s) h.rise ha
    rw [if_pos hxn] at h2
    have h3 := Way.step (x := ⟨x.n, x.kind, d, s, x.B, x.Z⟩) (ps := rs) (L := vSet V.l n d s) (by show vAt _ x.n = _; rw [hxn, h2, hxn]) (by show x.n ≠ 1; rw [hxn]; exact h1) (hw.off h.rise hnd)
    have h4 : Way (vSet V.l n d s) x.n (rs ++ [s]) := h3
    rw [hxn] at h4
    exact h4
  obtain ⟨ws, hws, _⟩ := h.way x hx
  rw [hxn] at hws
  refine ⟨hr, ?_, h.q0, h.q1, ?_, ?_, ?_, ?_, ?_, ?_, ?_, ?_, ?_, ?_⟩
  · show (vSet V.l n d s)[0]? = some vRoot
    unfold vSet
    rw [List.getElem?_map, h.root]
    show some (if vRoot.n = n then _ else vRoot) = _
    rw [if_neg (fun e => h1 e.symm)]
  · intro y hy
    obtain ⟨z, hz, e, _⟩ := back y hy
    rw [e]; exact h.num z hz
  · intro y hy
    obtain ⟨z, hz, _, e, _⟩ := back y hy
    rw [e]; exact h.kind z hz
  · intro y hy hk
    obtain ⟨z, hz, _, e, e2, e3, _⟩ := back y hy
    rw [e2, e3]
    exact h.dirB z hz (by rw [← e]; exact hk)
  · intro y hy
    obtain ⟨z, hz, _, _, e2, e3, _⟩ := back y hy
    rw [e2, e3]
    exact h.len z hz
  · intro y hy hy1
    obtain ⟨z, hz, e1, _, _, _, e⟩ := back y hy
    rcases e with ⟨_, rfl⟩ | ⟨_, _, e⟩
    · exact h.good y hz hy1
    · rw [e]; exact hs
  · intro y hy hy1
    obtain ⟨z, hz, e1, _, _, _, e⟩ := back y hy
    rcases e with ⟨_, rfl⟩ | ⟨_, e, _⟩
    · exact hkk _ (h.up y hz hy1)
    · rw [e]; exact hkk _ hd
  · intro y hy
    obtain ⟨z, hz, e1, _⟩ := back y hy
    obtain ⟨ps, w1, w2⟩ := h.way z hz
    rw [e1]
    by_cases hq : ∃ qs, Down V.l n z.n qs
    · obtain ⟨qs, hq⟩ := hq
      refine ⟨_, hq.moved h.rise hws hnew, ?_⟩
      have := hdeep _ _ hq
      rw [List.length_append, List.length_append]
      simp
      omega
    · exact ⟨ps, w1.off h.rise hq, w2⟩
  · intro y hy y' hy' hp ha'
    obtain ⟨z, hz, e1, _, _, _, e⟩ := back y hy
    obtain ⟨z', hz', e1', _, _, _, e'⟩ := back y' hy'
    refine hr.same hy hy' ?_
    rw [e1, e1']
    rcases e with ⟨q, rfl⟩ | ⟨q, q1, q2⟩
    · rcases e' with ⟨q', rfl⟩ | ⟨q', q1', q2'⟩
      · rw [h.apart y hz y' hz' hp ha']
      · rw [q1'] at hp
        rw [q2'] at ha'
        exact absurd (hno y hz hp ha') q
    · rcases e' with ⟨q', rfl⟩ | ⟨q', q1', q2'⟩
      · rw [q1] at hp
        rw [q2] at ha'
        exact absurd (hno y' hz' hp.symm (alikeOf_iff.2 (alikeOf_iff.1 ha').symm)) q'
      · rw [q, q']
  · show (vSet V.l n d s).length ≤ 256
    unfold vSet
    rw [List.length_map]
    exact h.many
  · show ((vUsed (vSet V.l n d s) : Nat) : Int) ≤ V.quota
    rw [set_used]
    exact h.used
theorem vTgtE_ok (h : vTgtE V.l n tp = 0) : vThereE V.l n = 0 ∧ parseErr tp = 0 ∧ tp ≠ [] ∧ underP tp (vPath V.l n) = false ∧ vParE V.l tp = 0 ∧ (parseOf tp).length + vDeep V.l n ≤ 8 := by
  unfold vTgtE at h
  by_cases h1 : vThereE V.l n ≠ 0
  · rw [if_pos h1] at h; exact absurd h h1
  rw [if_neg h1] at h
  by_cases h2 : parseErr tp ≠ 0
  · rw [if_pos h2] at h; exact absurd h h2
  rw [if_neg h2] at h
  by_cases h3 : tp = [] ∨ underP tp (vPath V.l n) = true
  · rw [if_pos h3] at h; cases h
  rw [if_neg h3] at h
  by_cases h4 : vParE V.l tp ≠ 0
  · rw [if_pos h4] at h; exact absurd h h4
  rw [if_neg h4] at h
  by_cases h5 : 8 < (parseOf tp).length + vDeep V.l n
  · rw [if_pos h5] at h; cases h
  refine ⟨by simpa using h1, by simpa using h2, fun e => h3 (.inl e), ?_, by simpa using h4, by omega⟩
  cases hq : underP tp (vPath V.l n) with
  | false => rfl
  | true => exact absurd (.inr hq) h3
theorem vMoveE_ok (h : vMoveE V.l n tp over = 0) : vTgtE V.l n tp = 0 ∧ (vTgtIs V.l n tp = 0 ∨ (vKind V.l (vTgtIs V.l n tp) ≠ 1 ∧ vKind V.l n ≠ 1)) := by
  unfold vMoveE at h
  by_cases h1 : vTgtE V.l n tp ≠ 0
  · rw [if_pos h1] at h; exact absurd h h1
  rw [if_neg h1] at h
  by_cases h2 : vTgtIs V.l n tp ≠ 0 ∧ over = false
  · rw [if_pos h2] at h; cases h
  rw [if_neg h2] at h
  by_cases h3 : vTgtIs V.l n tp ≠ 0 ∧ (vKind V.l (vTgtIs V.l n tp) = 1 ∨ vKind V.l n = 1)
  · rw [if_pos h3] at h; cases h
  refine ⟨by simpa using h1, ?_⟩
  by_cases h4 : vTgtIs V.l n tp = 0
  · exact .inl h4
  · exact .inr ⟨fun e => h3 ⟨h4, .inl e⟩, fun e => h3 ⟨h4, .inr e⟩⟩
theorem vPath_way (h : Vok V) (hw : Way V.l n ws) (h8 : ws.length ≤ 8) : vPath V.l n = joinB ws ∧ vPathE V.l n = 0 ∧ parseErr (joinB ws) = 0 ∧ parseOf (joinB ws) = ws := by
  have he : namesErr ws = 0 := namesErr_ok.2 ⟨hw.good h, h8⟩
  obtain ⟨x, hx⟩ := hw.at h
  have e1 : vPathE V.l n = 0 := by
    unfold vPathE
    rw [if_neg (by rw [hx]; simp), hw.names h8, he]
  have e2 : vPath V.l n = joinB ws := by
    unfold vPath
    rw [if_pos e1, hw.names h8]
  exact ⟨e2, e1, parse_join he⟩
theorem foldl_max_le (f : VNode → Bool) (g : VNode → Nat) : ∀ (l : List VNode) (m : Nat), m ≤ l.foldl (fun m x => if f x = true then max m (g x) else m) m ∧ ∀ x ∈ l, f x = true → g x ≤ l.foldl (fun m x => if f x = true then max m (g x) else m) m
  | [], m => ⟨Nat.le_refl _, fun x h => by cases h⟩
  | y :: r, m => by
    obtain ⟨a, b⟩ := foldl_max_le f g r (if f y = true then max m (g y) else m)
    rw [List.foldl_cons]
    refine ⟨Nat.le_trans ?_ a, fun x hx hf => ?_⟩
    · split <;> omega
    · rcases List.mem_cons.1 hx with rfl | hx
      · refine Nat.le_trans ?_ a
        rw [if_pos hf]
        omega
      · exact b x hx hf
theorem Vok.deep (h : Vok V) (hw : Way V.l n ws) (h8 : ws.length ≤ 8) (hd : Down V.l n m qs) : qs.length ≤ vDeep V.l n := by
  by_cases hq : qs = []
  · rw [hq]; exact Nat.zero_le _
  have hm := hw.down hd
  obtain ⟨x, hx⟩ := hm.at h
  obtain ⟨hx1, hx2⟩ := vAt_mem hx
  obtain ⟨us, hu, hu8⟩ := h.way x hx1
  rw [hx2] at hu
  have e := hm.same hu
  have hb : vUnder V.l x.n n = true := by
    unfold vUnder
    rw [hx2]
    exact hd.bel (fun y hy => (h.num y hy).1) 10 hq (fun vs hv => by rw [hv.same hu]; omega) ⟨_, hm⟩
  have hl := (foldl_max_le (fun x => vUnder V.l x.n n) (fun x => (vNames V.l x.n).length - (vNames V.l n).length) V.l 0).2 x hx1 hb
  rw [hx2, hu.names hu8, ← e, hw.names h8, List.length_append] at hl
  unfold vDeep vDeepN
  rw [List.take_length, hw.names h8]
  omega
/-- a node in which nothing stands goes: the ways of all others stay -/
theorem Way.away (h : Vok V) (ha : vAt V.l n = some y) (he : ∀ x ∈ V.l, x.n ≠ 1 → x.par ≠ n) (hw : Way V.l m ps) (hm : m ≠ n) : Way (vAway V.l n) m ps := by
  induction hw with
  | root => exact Way.root
  | @step x ps a b c ih => exact Way.step ((away_rise h.rise).at ((away_mem h.rise ha).2 ⟨(vAt_mem a).1, hm⟩)) b (ih (he x (vAt_mem a).1 b))
/-- what is known where a node may be moved -/
structure MoveOk (V : VolM) (n : Int) (tp : NameL) (rs : List NameL) : Prop where
  there : ∃ x, vAt V.l n = some x
  one : n ≠ 1
  perr : parseErr tp = 0
  ne : tp ≠ []
  way : Way V.l (vParN V.l tp) rs
  alike : rs.map foldB = (parseOf (dirOf tp)).map foldB
  dir : vKind V.l (vParN V.l tp) = 1
  last : vParS V.l tp = lastOf tp
  off : ¬ ∃ qs, Down V.l n (vParN V.l tp) qs
  deep : ∀ m qs, Down V.l n m qs → rs.length + 1 + qs.length ≤ 8
theorem Vok.moveOk (h : Vok V) (ht : vTgtE V.l n tp = 0) : ∃ rs, MoveOk V n tp rs := by
  obtain ⟨e1, e2, e3, e4, e5, e6⟩ := vTgtE_ok ht
  obtain ⟨⟨x, hx⟩, h1⟩ := vThereE_ok e1
  obtain ⟨rs, w1, w2, w3, w4⟩ := h.par e2 e3 e5
  obtain ⟨hx1, hx2⟩ := vAt_mem hx
  obtain ⟨ws, hw, h8⟩ := h.way x hx1
  rw [hx2] at hw
  obtain ⟨p1, p2, p3, p4⟩ := vPath_way h hw h8
  obtain ⟨d1, d2, d3, d4⟩ := parent_parse e2 e3
  have hlen : (parseOf tp).length = rs.length + 1 := by
    have := congrArg List.length w2
    rw [List.length_map, List.length_map, d2] at this
    rw [d4, List.length_append, ← this]
    rfl
  refine ⟨rs, ⟨x, hx⟩, h1, e2, e3, w1, w2, w3, w4, ?_, fun m qs hd => ?_⟩
  · rintro ⟨qs, hq⟩
    have hrs := w1.same (hw.down hq)
    have hu : underP tp (vPath V.l n) = true := by
      rw [p1]
      refine underP_iff.2 ⟨e2, p3, ?_, ?_⟩
      · rw [p4, hlen, hrs, List.length_append]; omega
      · rw [p4, d4, ← d2]
        have hl : ws.length ≤ (parseOf (dirOf tp)).length := by
          have := congrArg List.length w2
          rw [List.length_map, List.length_map, hrs, List.length_append] at this
          omega
        rw [List.take_append_of_le_length hl, List.map_take, ← w2, hrs, List.map_append, List.take_left' (by rw [List.length_map])]
    rw [hu] at e4
    cases e4
  · have := h.deep hw h8 hd
    omega
theorem Vok.move (h : Vok V) (n : Int) (tp : NameL) (over : Bool) : Vok (vMove V n tp over) := by
  unfold vMove
  by_cases he : vMoveE V.l n tp over = 0
  · rw [if_pos he]
    obtain ⟨ht, hcase⟩ := vMoveE_ok he
    obtain ⟨rs, mo⟩ := h.moveOk ht
    obtain ⟨d1, d2, d3, d4⟩ := parent_parse mo.perr mo.ne
    obtain ⟨x, hx⟩ := mo.there
    obtain ⟨d, hd⟩ : ∃ d, d = vParN V.l tp := ⟨_, rfl⟩
    have hsn : nameOf (vParS V.l tp) = true := by rw [mo.last]; exact d3
    obtain ⟨s, hs⟩ : ∃ s, s = vParS V.l tp := ⟨_, rfl⟩
    obtain ⟨i, hi⟩ : ∃ i, i = vTgtIs V.l n tp := ⟨_, rfl⟩
    have hisd : i = if vChild V.l d s = n then 0 else vChild V.l d s := by rw [hi, hd, hs]; rfl
    unfold vMoved
    have m5 := mo.way
    have m7 := mo.dir
    have m9 := mo.off
    rw [← hd] at m5 m7 m9 ⊢
    rw [← hs] at hsn ⊢
    rw [← hi] at hcase ⊢
    by_cases h0 : i = 0
    · rw [if_neg (fun q => q h0)]
      refine h.set hx mo.one m7 hsn m5 m9 mo.deep fun y hy hp ha => ?_
      have hc : vChild V.l d s = y.n := by rw [← hp]; exact h.child hy ha
      rw [hc] at hisd
      by_cases e : y.n = n
      · exact e
      · rw [if_neg e, h0] at hisd
        have := (h.num y hy).1
        omega
    · rw [if_pos h0]
      have hcn : vChild V.l d s ≠ n := fun e => by rw [if_pos e] at hisd; exact h0 hisd
      rw [if_neg hcn] at hisd
      have hc0 : vChild V.l d s ≠ 0 := by rw [← hisd]; exact h0
      obtain ⟨z, hz, z1, z2, z3⟩ := vChild_some hc0
      have hzi : z.n = i := by rw [z3, hisd]
      have hzat : vAt V.l i = some z := by rw [← hzi]; exact h.at hz
      have hk : vKind V.l i ≠ 1 := by
        rcases hcase with q | q
        · exact absurd q h0
        · exact q.1
      have hi1 : i ≠ 1 := fun e => hk (by rw [e]; unfold vKind; rw [h.at1]; rfl)
      have hch : ∀ x ∈ V.l, x.n ≠ 1 → x.par ≠ i := fun u hu hu1 e => hk (by rw [← e]; exact h.up u hu hu1)
      have hA := h.away hzat hi1 hch
      have hin : i ≠ n := by rw [hisd]; exact hcn
      have hmem : ∀ u, u ∈ vAway V.l i ↔ u ∈ V.l ∧ u.n ≠ i := fun u => away_mem h.rise hzat
      have hsub := h.rise.sub hA.rise fun u hu => ((hmem u).1 hu).1
      obtain ⟨hx1, hx2⟩ := vAt_mem hx
      have hx' : vAt (vAway V.l i) n = some x := hA.rise.at_iff.2 ⟨(hmem x).2 ⟨hx1, by rw [hx2]; exact fun e => hin e.symm⟩, hx2⟩
      have hdi : d ≠ i := fun e => hk (by rw [← e]; exact m7)
      have hkd : vKind (vAway V.l i) d = 1 := by
        obtain ⟨u, hu⟩ := kind_some (V := V) (n := d) (by rw [m7]; decide)
        obtain ⟨u1, u2⟩ := vAt_mem hu
        have h4 := kind_at (V := V) hu
        rw [← u2, hA.rise.kind ((hmem u).2 ⟨u1, by rw [u2]; exact hdi⟩), ← h4, m7]
      refine hA.set hx' mo.one hkd hsn (Way.away h hzat hch m5 hdi) (fun ⟨qs, hq⟩ => m9 ⟨qs, hq.sub hsub⟩) (fun m qs hq => mo.deep m qs (hq.sub hsub)) fun y hy hp ha => ?_
      obtain ⟨hy1, hy2⟩ := (hmem y).1 hy
      have hc : vChild V.l d s = y.n := by rw [← hp]; exact h.child hy1 ha
      exact absurd (by rw [← hc, hisd]) hy2
  · rw [if_neg he]
    exact h
end
end Go.Proofs.YtdgpbhdihhchgaaGreatDoor

namespace Go.Proofs.YtdgpbhdihhchgaaGreatDoor
set_option linter.all false
open Go.RowKit Go.Lib
set_option linter.unusedVariables false
section
variable {L : List DItem} {s t p a : ByteArray} {n : Int} {i k : Nat}
/-- the place of the first name that is not ahead of s -/
def dPl (L : List DItem) (s : ByteArray) : Nat := L.findIdx fun y => !ahd y.1 s
theorem dPl_le : dPl L s ≤ L.length := List.findIdx_le_length
theorem dPl_low (h : i < dPl L s) (hi : i < L.length) : ahd (L[i]).1 s = true := by
  have := List.not_of_lt_findIdx (p := fun y : DItem => !ahd y.1 s) h
  simpa using this
theorem dPl_at (h : dPl L s < L.length) : ahd (L[dPl L s]'h).1 s = false := by
  have h2 : (!ahd (L[dPl L s]'h).1 s) = true := List.findIdx_getElem (p := fun y : DItem => !ahd y.1 s) (w := h)
  simpa using h2
theorem Dok.lt (ok : Dok L) (hik : i < k) (hk : k < L.length) : ahd (L[i]'(by omega)).1 L[k].1 = true := List.pairwise_iff_getElem.1 ok.rise i k (by omega) hk hik
theorem dPl_high (ok : Dok L) (h : dPl L s ≤ i) (hi : i < L.length) : ahd L[i].1 s = false := by
  rcases Nat.lt_or_ge (dPl L s) i with h1 | h1
  · cases hq : ahd L[i].1 s with
    | false => rfl
    | true =>
      have h2 := ahd_trans (ok.lt h1 hi) hq
      rw [dPl_at (by omega)] at h2
      cases h2
  · obtain rfl : i = dPl L s := by omega
    exact dPl_at hi
theorem dPl_ix (ok : Dok L) (hh : dHas L s = true) : dPl L s = dIx L s := by
  have hl := dIx_lt hh
  have hg := dIx_get hl
  rcases Nat.lt_trichotomy (dPl L s) (dIx L s) with h | h | h
  · have h1 := ok.lt h hl
    rw [alk_ahd' hg, dPl_at (by omega)] at h1
    cases h1
  · exact h
  · have h1 := ahd_not_alk (dPl_low h hl)
    rw [hg] at h1
    cases h1
theorem dPut_pl (hn : dHas L s = false) : dPut L s n = L.take (dPl L s) ++ [(s, n)] ++ L.drop (dPl L s) := by
  induction L with
  | nil => rfl
  | cons y r ih =>
    unfold dHas at hn
    rw [List.any_cons, Bool.or_eq_false_iff] at hn
    unfold dPut dPl
    rw [List.findIdx_cons]
    rcases ahd_three y.1 s with h | h | h
    · rw [hn.1] at h; cases h
    · rw [if_neg (by rw [ahd_asymm h]; decide), ih hn.2, h]
      rfl
    · rw [if_pos h, ahd_asymm h]
      rfl
theorem dRem_pl (ok : Dok L) (he : dFindE L s = 0) : dRem L s = L.take (dPl L s) ++ L.drop (dPl L s + 1) := by
  unfold dRem
  rw [if_pos he, dPl_ix ok (dFindE_zero.1 he).2, List.eraseIdx_eq_take_drop_succ]
theorem dPl_lt (ok : Dok L) (he : dFindE L s = 0) : dPl L s < L.length := by
  rw [dPl_ix ok (dFindE_zero.1 he).2]
  exact dIx_lt (dFindE_zero.1 he).2
theorem dFind_pl (ok : Dok L) (he : dFindE L s = 0) : dFind L s = L[dPl L s]'(dPl_lt ok he) := by
  have e := dPl_ix ok (dFindE_zero.1 he).2
  have hl := dIx_lt (dFindE_zero.1 he).2
  unfold dFind
  rw [if_pos he, List.getD_eq_getElem?_getD, List.getElem?_eq_getElem hl]
  show L[dIx L s] = _
  simp only [e]
/-- the names alone -/
def dNm (L : List DItem) : List ByteArray := L.map (·.1)
theorem dNm_len : (dNm L).length = L.length := List.length_map _
theorem dNm_get (h : i < L.length) : (dNm L)[i]? = some L[i].1 := by
  unfold dNm
  rw [List.getElem?_map, List.getElem?_eq_getElem h]
  rfl
theorem dNm_put (hn : dHas L s = false) : dNm (dPut L s n) = (dNm L).take (dPl L s) ++ [s] ++ (dNm L).drop (dPl L s) := by
  unfold dNm
  rw [dPut_pl hn, List.map_append, List.map_append, List.map_take, List.map_drop]
  rfl
theorem dNm_rem (ok : Dok L) (he : dFindE L s = 0) : dNm (dRem L s) = (dNm L).take (dPl L s) ++ (dNm L).drop (dPl L s + 1) := by
  unfold dNm
  rw [dRem_pl ok he, List.map_append, List.map_take, List.map_drop]
/-! ### the map: by what names are folded to -/
def foldK (s : ByteArray) : Lit := .string (foldB s.data.toList)
theorem foldK_alk : foldK s = foldK t ↔ alk s t = true := by
  rw [alk_iff, ← alike_iff]
  unfold foldK
  exact ⟨fun h => by injection h, fun h => by rw [h]⟩
structure MapIs (D : DataW Unit) (L : List DItem) : Prop where
  tidy : Maps.Tidy D
  has : ∀ s, Maps.has D (foldK s) = dHas L s
  val : ∀ y ∈ L, D.atKey (foldK y.1) (.lit (.int .i64 0)) = .lit (.int .i64 y.2)
  size : Maps.size D = L.length
theorem MapIs.nil : MapIs (.map []) [] := ⟨Maps.tidy_empty, fun s => rfl, (fun y hy => by cases hy), rfl⟩
theorem isKey_fold : WideAt.IsKeyLit (foldK s) := trivial
theorem dHas_put : dHas (dPut L s n) t = (alk s t || dHas L t) := by
  rw [Bool.eq_iff_iff, Bool.or_eq_true, dHas_iff, dHas_iff]
  constructor
  · rintro ⟨x, hx, ha⟩
    rcases dPut_mem.1 hx with rfl | hx
    · exact .inl ha
    · exact .inr ⟨x, hx, ha⟩
  · rintro (h | ⟨x, hx, ha⟩)
    · exact ⟨(s, n), dPut_mem.2 (.inl rfl), h⟩
    · exact ⟨x, dPut_mem.2 (.inr hx), ha⟩
theorem MapIs.put {D : DataW Unit} (h : MapIs D L) (hn : dHas L s = false) : MapIs (D.put (foldK s) (.lit (.int .i64 n))) (dPut L s n) := by
  refine ⟨h.tidy.put isKey_fold _, fun t => ?_, fun y hy => ?_, ?_⟩
  · rw [dHas_put]
    cases hq : alk s t with
    | true =>
      rw [foldK_alk.2 hq] at *
      rw [Maps.has_put_same h.tidy.isMap isKey_fold]
      rfl
    | false =>
      have hne : foldK t ≠ foldK s := fun e => by
        rw [foldK_alk.1 e.symm] at hq
        cases hq
      rw [Maps.has_put_other hne, h.has]
      rfl
  · rcases dPut_mem.1 hy with rfl | hy
    · exact Maps.atKey_put_same h.tidy.isMap isKey_fold _ _
    · have hne : foldK y.1 ≠ foldK s := fun e => by
        have h1 : dHas L s = true := dHas_iff.2 ⟨y, hy, foldK_alk.1 e⟩
        rw [hn] at h1
        cases h1
      rw [Maps.atKey_put_other hne, h.val y hy]
  · rw [Maps.size_put h.tidy, if_neg (by rw [h.has, hn]; decide), h.size, dPut_len]
theorem MapIs.del {D : DataW Unit} (h : MapIs D L) (ok : Dok L) (he : dFindE L s = 0) : MapIs (D.del (foldK s)) (dRem L s) := by
  obtain ⟨hb, hh⟩ := dFindE_zero.1 he
  have hmem : ∀ y, y ∈ dRem L s ↔ y ∈ L ∧ alk y.1 s = false := fun y => by
    rw [dRem_mem ok]
    constructor
    · rintro ⟨h1, h2⟩
      exact ⟨h1, h2.resolve_left (by rw [hb]; decide)⟩
    · rintro ⟨h1, h2⟩
      exact ⟨h1, .inr h2⟩
  refine ⟨h.tidy.del _, fun t => ?_, fun y hy => ?_, ?_⟩
  · cases hq : alk s t with
    | true =>
      rw [← foldK_alk.2 hq, Maps.has_del_same]
      symm
      cases hz : dHas (dRem L s) t with
      | false => rfl
      | true =>
        obtain ⟨x, hx, ha⟩ := dHas_iff.1 hz
        have h1 := ((hmem x).1 hx).2
        rw [alk_trans ha (alk_symm hq)] at h1
        cases h1
    | false =>
      have hne : foldK t ≠ foldK s := fun e => by
        rw [foldK_alk.1 e.symm] at hq
        cases hq
      rw [Maps.has_del_other hne, h.has, Bool.eq_iff_iff, dHas_iff, dHas_iff]
      constructor
      · rintro ⟨x, hx, ha⟩
        refine ⟨x, (hmem x).2 ⟨hx, ?_⟩, ha⟩
        cases hz : alk x.1 s with
        | false => rfl
        | true =>
          have h1 := alk_trans (alk_symm hz) ha
          rw [hq] at h1
          cases h1
      · rintro ⟨x, hx, ha⟩
        exact ⟨x, ((hmem x).1 hx).1, ha⟩
  · obtain ⟨h1, h2⟩ := (hmem y).1 hy
    have hne : foldK y.1 ≠ foldK s := fun e => by
      rw [foldK_alk.1 e] at h2
      cases h2
    rw [Maps.atKey_del_other hne, h.val y h1]
  · have h1 := Maps.size_del h.tidy (k := foldK s)
    rw [h.has, hh, h.size] at h1
    have h2 := dRem_len he
    simp at h1
    omega
theorem MapIs.num {D : DataW Unit} (h : MapIs D L) (he : dFindE L s = 0) : D.atKey (foldK s) (.lit (.int .i64 0)) = .lit (.int .i64 (dFind L s).2) := by
  obtain ⟨hb, hh⟩ := dFindE_zero.1 he
  obtain ⟨_, h2, h3⟩ := dFind_ok hb hh
  rw [← foldK_alk.2 h3]
  exact h.val _ h2
theorem owns_tight {P : Program} {kt : TypeId} {R : Value → Option (DataW Unit × List MemPlace)} {w : World} {m N : Nat} {D : DataW Unit} (h : w.ownsMap P kt R m N D) : w.ownsMap P kt R m (Maps.size D) D := by
  obtain ⟨es, clock, hb, F, hs, rfl⟩ := h
  exact ⟨es, clock, hb, F, by simp [Maps.size, length_sorted], rfl⟩
/-! ### glob's error of a list -/
theorem patErr_any (hp : patErr p.data.toList [] = 0) (t : List UInt8) : patErr p.data.toList t = patErr [] t := by
  obtain ⟨h1, h2⟩ := patErr_empty.1 hp
  unfold patErr
  rw [h1, isText_nil, letters_nil]
  have h3 : ¬ 64 < (letters p.data.toList).length := by omega
  simp [h3]
theorem dPatN_none (h : ∀ i (hi : i < L.length), patErr p.data.toList L[i].1.data.toList = 0) : dPatE L p = 0 := by
  have e : L.find? (fun y => decide (patErr p.data.toList y.1.data.toList ≠ 0)) = none := by
    rw [List.find?_eq_none]
    intro y hy
    obtain ⟨i, hi, rfl⟩ := List.mem_iff_getElem.1 hy
    simp [h i hi]
  unfold dPatE
  rw [e]
theorem dPatN_at (hk : k < L.length) (h : ∀ i (hi : i < L.length), i < k → patErr p.data.toList L[i].1.data.toList = 0) (he : patErr p.data.toList L[k].1.data.toList ≠ 0) : dPatE L p = patErr p.data.toList L[k].1.data.toList := by
  have e : L.find? (fun y => decide (patErr p.data.toList y.1.data.toList ≠ 0)) = some L[k] := by
    rw [List.find?_eq_some_iff_getElem]
    refine ⟨by simpa using he, k, hk, rfl, fun j hj => ?_⟩
    simp [h j (by omega) hj]
  unfold dPatE
  rw [e]
/-- what the directory's own search for glob's error comes to -/
def dGlobE (L : List DItem) (p : ByteArray) : Int := if patErr p.data.toList [] ≠ 0 then patErr p.data.toList [] else dPatE L p
theorem dListE_glob : dListE L p a n = if n < 0 then 2 else if dGlobE L p ≠ 0 then dGlobE L p else if isText a.data.toList = true then 0 else 5 := by
  unfold dListE dGlobE
  by_cases h1 : patErr p.data.toList [] = 0
  · simp [h1]
  · simp [h1]
/-! ### the names behind a place -/
theorem letters_some {l : List UInt8} (h : l ≠ []) : ∃ r u, letters l = r :: u := by
  rw [letters_step l h]
  exact ⟨_, _, rfl⟩
theorem ahd_empty (h0 : a.size = 0) (hb : dBad t = false) : ahd a t = true := by
  have ha : a.data.toList = [] := by
    have := Lib.size_eq a
    exact List.eq_nil_of_length_eq_zero (by omega)
  have ht : t.data.toList ≠ [] := fun e => by
    unfold dBad at hb
    rw [Bool.or_eq_false_iff, decide_eq_false_iff_not, Lib.size_eq, e] at hb
    exact hb.1 rfl
  obtain ⟨r, u, e⟩ := letters_some ht
  rw [ahd_iff, ha]
  unfold foldedOf
  rw [e, letters_nil]
  simp [lexc]
def dFr (L : List DItem) (a : ByteArray) : Nat := L.findIdx fun y => ahd a y.1
theorem dFr_le : dFr L a ≤ L.length := List.findIdx_le_length
theorem dFr_low (h : i < dFr L a) (hi : i < L.length) : ahd a L[i].1 = false := by
  have := List.not_of_lt_findIdx (p := fun y : DItem => ahd a y.1) h
  simpa using this
theorem dFr_high (ok : Dok L) (h : dFr L a ≤ i) (hi : i < L.length) : ahd a L[i].1 = true := by
  have h0 : ahd a (L[dFr L a]'(by omega)).1 = true := List.findIdx_getElem (p := fun y : DItem => ahd a y.1) (w := show dFr L a < L.length by omega)
  rcases Nat.lt_or_ge (dFr L a) i with h1 | h1
  · exact ahd_trans h0 (ok.lt h1 hi)
  · obtain rfl : i = dFr L a := by omega
    exact h0
/-- does the pattern fit this name -/
noncomputable def dFit (p : ByteArray) (x : ByteArray) : Bool := fitsOf p.data.toList x.data.toList
theorem dNames_fr (ok : Dok L) : dNames L p a = ((dNm L).drop (dFr L a)).filter (dFit p) := by
  have e : ∀ (M : List DItem) (k : Nat), (∀ i (hi : i < M.length), (k ≤ i → (decide (a.size = 0) || ahd a M[i].1) = true) ∧ (i < k → (decide (a.size = 0) || ahd a M[i].1) = false)) → dNames M p a = ((dNm M).drop k).filter (dFit p) := by
    intro M
    induction M with
    | nil => intro k h; simp [dNames, dNm]
    | cons y r ih =>
      intro k h
      have h0 := h 0 (by simp)
      have hr := fun j => ih j
      cases k with
      | zero =>
        have h1 : (decide (a.size = 0) || ahd a y.1) = true := h0.1 (Nat.le_refl _)
        have h2 := hr 0 (fun i hi => ⟨fun _ => (h (i + 1) (by simp; omega)).1 (by omega), fun q => by omega⟩)
        unfold dNames dNm dFit at h2 ⊢
        simp only [List.drop_zero, List.map_cons, List.filter_cons, h1, Bool.and_true] at h2 ⊢
        split
        · rw [List.map_cons, h2]
        · exact h2
      | succ k =>
        have h1 : (decide (a.size = 0) || ahd a y.1) = false := h0.2 (by omega)
        have h2 := hr k (fun i hi => ⟨fun q => (h (i + 1) (by simp; omega)).1 (by omega), fun q => (h (i + 1) (by simp; omega)).2 (by omega)⟩)
        unfold dNames dNm dFit at h2 ⊢
        simp only [List.map_cons, List.drop_succ_cons, List.filter_cons, h1, Bool.and_false] at h2 ⊢
        exact h2
  refine e L (dFr L a) fun i hi => ⟨fun h => by rw [dFr_high ok h hi, Bool.or_true], fun h => ?_⟩
  have h1 := dFr_low h hi
  have h2 : ¬ a.size = 0 := fun q => by
    rw [ahd_empty q (ok.good _ (List.getElem_mem hi))] at h1
    cases h1
  simp [h1, h2]
end
end Go.Proofs.YtdgpbhdihhchgaaGreatDoor

namespace Go.Proofs.YtdgpbhdihhchgaaGreatDoor
set_option linter.all false
open Go.RowKit Go.Lib
set_option linter.unusedVariables false
def ba (s : NameL) : ByteArray := ⟨s.toArray⟩
theorem ba_list (s : NameL) : (ba s).data.toList = s := rfl
theorem ba_size (s : NameL) : (ba s).size = s.length := rfl
theorem alk_ba (s t : NameL) : alk (ba s) (ba t) = alikeOf s t := rfl
theorem ahd_ba (s t : NameL) : ahd (ba s) (ba t) = aheadOf s t := rfl
theorem pname_ne {s : NameL} (h : nameOf s = true) : s ≠ [] := fun e => by
  subst e
  revert h
  unfold nameOf
  rw [letters_nil]
  unfold nameL
  simp
theorem pname_text {s : NameL} (h : nameOf s = true) : isText s = true := by
  unfold nameOf at h
  rw [Bool.and_eq_true] at h
  exact h.1
theorem name_long {s : NameL} (h : nameOf s = true) : (letters s).length ≤ 32 := by
  unfold nameOf nameL at h
  simp only [Bool.and_eq_true, decide_eq_true_eq] at h
  exact h.2.1.1.1.2
theorem dBad_ba {s : NameL} (h : nameOf s = true) : dBad (ba s) = false := by
  unfold dBad
  rw [ba_list, pname_text h, ba_size]
  have := pname_ne h
  cases s with
  | nil => exact absurd rfl this
  | cons x r => simp
def itm (x : VNode) : DItem := (ba x.name, x.n)
/-- which names stand in which directory -/
def regs (L : List VNode) : List (Int × DItem) := L.map fun x => (x.par, itm x)
structure Kid (R : List (Int × DItem)) (d : Int) (K : List DItem) : Prop where
  ok : Dok K
  mem : ∀ p, p ∈ K ↔ (d, p) ∈ R
section
variable {R R' : List (Int × DItem)} {L : List VNode} {V : VolM} {K : List DItem} {d n : Int} {x y : VNode} {s : NameL} {p : DItem}
theorem regs_mem : (d, p) ∈ regs L ↔ ∃ x ∈ L, x.par = d ∧ itm x = p := by
  unfold regs
  rw [List.mem_map]
  constructor
  · rintro ⟨x, hx, e⟩
    injection e with e1 e2
    exact ⟨x, hx, e1, e2⟩
  · rintro ⟨x, hx, e1, e2⟩
    exact ⟨x, hx, by rw [e1, e2]⟩
theorem Kid.same (k : Kid R d K) (h : ∀ p, (d, p) ∈ R ↔ (d, p) ∈ R') : Kid R' d K := ⟨k.ok, fun p => (k.mem p).trans (h p)⟩
theorem Kid.nil (h : ∀ p, (d, p) ∉ R) : Kid R d [] := ⟨Dok.nil, fun p => ⟨fun q => (by cases q), fun q => absurd q (h p)⟩⟩
theorem seven (hb : dBad (ba s) = false) (h : dHas K (ba s) = false) : dFindE K (ba s) = 7 := by
  unfold dFindE
  rw [hb, h]
  rfl
theorem Kid.child (h : Vok V) (k : Kid (regs V.l) d K) (hs : nameOf s = true) : dFindE K (ba s) = (if vChild V.l d s = 0 then 7 else 0) ∧ (dFind K (ba s)).2 = vChild V.l d s := by
  have hb := dBad_ba hs
  by_cases h0 : vChild V.l d s = 0
  · have hh : dHas K (ba s) = false := by
      cases hq : dHas K (ba s) with
      | false => rfl
      | true =>
        obtain ⟨p, hp, ha⟩ := dHas_iff.1 hq
        obtain ⟨x, hx, e1, rfl⟩ := regs_mem.1 ((k.mem p).1 hp)
        have h2 := vChild_zero (fun y hy => (h.num y hy).1) h0 x hx e1
        have h3 : alikeOf x.name s = true := ha
        rw [h2] at h3
        cases h3
    have e := seven hb hh
    rw [if_pos h0, h0]
    refine ⟨e, ?_⟩
    rw [dFind_no (by rw [e]; decide)]
  · obtain ⟨x, hx, e1, e2, e3⟩ := vChild_some h0
    obtain ⟨f1, f2⟩ := k.ok.found ((k.mem (itm x)).2 (regs_mem.2 ⟨x, hx, e1, rfl⟩)) (show alk (itm x).1 (ba s) = true from e2) hb
    rw [if_neg h0]
    refine ⟨f1, ?_⟩
    rw [f2]
    exact e3
theorem Kid.put (k : Kid R d K) (hs : nameOf s = true) (hn : ∀ p, (d, p) ∈ R → alk p.1 (ba s) = false) : dAddE K (ba s) = 0 ∧ Kid ((d, (ba s, n)) :: R) d (dAdd K (ba s) n) := by
  have hb := dBad_ba hs
  have hh : dHas K (ba s) = false := by
    cases hq : dHas K (ba s) with
    | false => rfl
    | true =>
      obtain ⟨p, hp, ha⟩ := dHas_iff.1 hq
      rw [hn p ((k.mem p).1 hp)] at ha
      cases ha
  have he : dAddE K (ba s) = 0 := by
    unfold dAddE
    rw [hb, hh]
    rfl
  refine ⟨he, k.ok.add, fun p => ?_⟩
  have e : dAdd K (ba s) n = dPut K (ba s) n := if_pos he
  rw [e, dPut_mem, List.mem_cons, k.mem]
  constructor
  · rintro (rfl | h)
    · exact .inl rfl
    · exact .inr h
  · rintro (h | h)
    · injection h with _ h
      exact .inl h
    · exact .inr h
theorem away_regs (h : Vok V) (ha : vAt V.l n = some y) : (d, p) ∈ regs (vAway V.l n) ↔ (d, p) ∈ regs V.l ∧ (d = y.par → alk p.1 (ba y.name) = false) := by
  obtain ⟨hy, hn⟩ := vAt_mem ha
  rw [regs_mem, regs_mem]
  constructor
  · rintro ⟨x, hx, e1, rfl⟩
    obtain ⟨h1, h2⟩ := (away_mem h.rise ha).1 hx
    refine ⟨⟨x, h1, e1, rfl⟩, fun e => ?_⟩
    cases hq : alk (itm x).1 (ba y.name) with
    | false => rfl
    | true => exact absurd ((h.apart x h1 y hy (e1.trans e) hq) ▸ hn) h2
  · rintro ⟨⟨x, hx, e1, rfl⟩, h2⟩
    refine ⟨x, (away_mem h.rise ha).2 ⟨hx, fun e => ?_⟩, e1, rfl⟩
    obtain rfl : x = y := h.rise.same hx hy (e.trans hn.symm)
    have h3 := h2 e1.symm
    have h4 : alk (itm x).1 (ba x.name) = true := alk_refl _
    rw [h3] at h4
    cases h4
/-- a name is taken out of its directory -/
theorem Kid.drop (h : Vok V) (ha : vAt V.l n = some y) (h1 : n ≠ 1) (k : Kid (regs V.l) y.par K) : dFindE K (ba y.name) = 0 ∧ Kid (regs (vAway V.l n)) y.par (dRem K (ba y.name)) := by
  obtain ⟨hy, hn⟩ := vAt_mem ha
  have hs : nameOf y.name = true := h.good y hy (by rw [hn]; exact h1)
  have hb := dBad_ba hs
  refine ⟨(k.ok.found ((k.mem (itm y)).2 (regs_mem.2 ⟨y, hy, rfl, rfl⟩)) (alk_refl _) hb).1, k.ok.rem, fun p => ?_⟩
  rw [dRem_mem k.ok, k.mem, away_regs h ha]
  constructor
  · rintro ⟨a, b⟩
    exact ⟨a, fun _ => b.resolve_left (by rw [hb]; decide)⟩
  · rintro ⟨a, b⟩
    exact ⟨a, .inr (b rfl)⟩
theorem Kid.else (h : Vok V) (ha : vAt V.l n = some y) (hd : d ≠ y.par) (k : Kid (regs V.l) d K) : Kid (regs (vAway V.l n)) d K := k.same fun p => by
  rw [away_regs h ha]
  exact ⟨fun a => ⟨a, fun e => absurd e hd⟩, fun a => a.1⟩
/-- how many names a directory has -/
theorem Kid.empty (k : Kid (regs V.l) d K) : vEmpty V.l d = decide (K.length = 0) := by
  unfold vEmpty
  rw [Bool.eq_iff_iff, List.all_eq_true, decide_eq_true_eq]
  constructor
  · intro h
    cases K with
    | nil => rfl
    | cons p r =>
      obtain ⟨x, hx, e1, _⟩ := regs_mem.1 ((k.mem p).1 (List.mem_cons_self ..))
      have := h x hx
      simp [e1] at this
  · intro h x hx
    obtain rfl : K = [] := List.eq_nil_of_length_eq_zero h
    refine decide_eq_true fun e => ?_
    have := (k.mem (itm x)).2 (regs_mem.2 ⟨x, hx, e, rfl⟩)
    cases this
theorem Kid.le (h : Rise L) (k : Kid (regs L) d K) : K.length ≤ L.length := by
  have h1 : (K.map (·.2)).Nodup := by
    refine List.nodup_iff_pairwise_ne.2 (List.pairwise_map.2 (k.ok.rise.imp_of_mem fun {p q} hp hq ha e => ?_))
    obtain ⟨x, hx, _, rfl⟩ := regs_mem.1 ((k.mem p).1 hp)
    obtain ⟨y, hy, _, rfl⟩ := regs_mem.1 ((k.mem q).1 hq)
    have e2 := h.same hx hy e
    rw [e2] at ha
    have := ahd_not_alk ha
    rw [alk_refl] at this
    cases this
  have h2 : (K.map (·.2)).length ≤ (L.map (·.n)).length := List.Nodup.length_le_of_subset h1 fun m hm => by
    obtain ⟨p, hp, rfl⟩ := List.mem_map.1 hm
    obtain ⟨x, hx, _, rfl⟩ := regs_mem.1 ((k.mem p).1 hp)
    exact List.mem_map.2 ⟨x, hx, rfl⟩
  rw [List.length_map, List.length_map] at h2
  exact h2
end
end Go.Proofs.YtdgpbhdihhchgaaGreatDoor

namespace Go.Proofs.YtdgpbhdihhchgaaGreatDoor
set_option linter.all false
open Go.RowKit Go.ChangeShapes Go.WideShapes
section
variable {H : Type} {enc : TypeId × Value → H} {P : Program} {W : World} {base : Nat} {t e : TypeId} {v : Value} {d : DataW H} {p : List MemPlace}
theorem Holds.head {w : World} {B c n : Nat} {A : Option Addr} {xs : List Int} (h : Holds w B A c c xs) (hn : n ≤ c) : Holds w B A n c (xs.take n) :=
  ⟨by have := h.len; simp; omega, hn, by have := h.room; omega, h.byte.take n, h.bare, fun h0 => by
    obtain ⟨b, off, rfl, hb, hc⟩ := h.cells (by omega)
    refine ⟨b, off, rfl, hb, fun i hi => ?_⟩
    rw [hc i (by omega)]
    simp [List.getD_eq_getElem?_getD, hi]⟩
theorem int_bounds_i64 {x : Int} (h : (Lit.int .i64 x).wf = true) : -9223372036854775808 ≤ x ∧ x ≤ 9223372036854775807 := by simpa [Lit.wf, IntKind.min, IntKind.max, IntKind.signed, IntKind.bits] using h
end
end Go.Proofs.YtdgpbhdihhchgaaGreatDoor

namespace Go.Proofs.YtdgpbhdihhchgaaGreatDoor
set_option linter.all false
open Go.RowKit
set_option maxRecDepth 100000
/-- block gs is a row of m slices, each of which reads as bytes -/
structure Parts (w : World) (gs m : Nat) (A : Nat → Option Addr) (n c : Nat → Nat) (X : Nat → List Int) : Prop where
  lt : gs < w.heap.size
  cell : ∀ i, i < m → w.cell? ⟨gs, i, none⟩ = some (.slice (A i) (n i) (c i))
  holds : ∀ i, i < m → Holds w w.heap.size (A i) (n i) (c i) (X i)
theorem Parts.over {w w' : World} {gs m : Nat} {A : Nat → Option Addr} {n c : Nat → Nat} {X : Nat → List Int} (h : Parts w gs m A n c X) (hb : Below w.heap.size w w') : Parts w' gs m A n c X :=
  ⟨Nat.lt_of_lt_of_le h.lt hb.size, fun i hi => by rw [← h.cell i hi]; exact hb.cell (p := ⟨gs, i, none⟩) h.lt, fun i hi => (h.holds i hi).over hb⟩
theorem Parts.drewN {w : World} {gs m : Nat} {A : Nat → Option Addr} {n c : Nat → Nat} {X : Nat → List Int} (h : Parts w gs m A n c X) (d : Nat) : Parts (w.drewN d) gs m A n c X := h.over (drewed w d)
/-- append(out, src...), out the call's own with noughts behind it, src whatever reads as bytes -/
theorem wpList_append_bytesZ {w : World} {ops : Array Oper} {rest : List Oper} {o : Oper} {a : Act} {Q : Exit → Act → World → Prop} (hgd : o.guard = none) (s x : Operand)
    (ho : o.op = .call { callee := .builtin .append, args := #[s, x], argTypes := #[51, 51] })
    (base : Nat) (v : Value) (xs : List Int) (hs : a.eval s = v) (hown : OwnZ .u8 5 w base v xs) (B : Nat) (A : Option Addr) (m c : Nat) (ys : List Int) (hx : a.eval x = .slice A m c)
    (hr : Holds w B A m c ys) (hlen : xs.length + ys.length ≤ 140737488355328) (hbase : base ≤ w.heap.size)
    (h : ∀ v' w', Hid (OwnZ .u8 5 w' base v' (xs ++ ys)) → Below base w w' → wpList Tryz.prog ops Q rest (a.put o.dst v') w') :
    wpList Tryz.prog ops Q (o :: rest) a w := by
  obtain ⟨i0, hi0, hz0, hz1, hz2⟩ := info_parts info_u8
  have hl := hr.len
  have hOK := hown.own
  rcases A with _ | ad
  · have hc := hr.bare rfl
    have hf := hr.fit
    have hm : m = 0 := by omega
    subst hm
    subst hc
    have : ys = [] := List.eq_nil_of_length_eq_zero hl
    subst this
    refine wpList_append_own_none hgd s x 51 ho base 5 i0 1 Tryz.underlying51 hi0 v xs.length _ hs hOK hx ?_
    exact h v w (by rw [List.append_nil]; exact hown) (Below.refl _ _)
  · have hnews : ∀ j y, (ys.map (Value.int .u8))[j]? = some y → w.cell? (ad.add j) = some y := by
      intro j u hj
      have hjl : j < ys.length := by
        by_cases hj' : j < ys.length
        · exact hj'
        · rw [List.getElem?_eq_none (by simp; omega)] at hj
          cases hj
      obtain ⟨b, off, he, _, hcl⟩ := hr.cells (by omega)
      obtain rfl := Option.some.inj he
      have e : (⟨b, off, none⟩ : Addr).add j = ⟨b, off + j, none⟩ := by
        by_cases hj0 : j = 0
        · subst hj0; simp [Addr.add]
        · simp [Addr.add, hj0]
      rw [e, hcl j (by omega), ← hj]
      simp [hjl]
    have h1 : ∀ y ∈ ys.map (Value.int .u8), y.oneCell' = true := by intro v hv; obtain ⟨x, _, rfl⟩ := List.mem_map.1 hv; rfl
    have hmax : maxLen = 9223372036854775807 := rfl
    have key : ∀ ty, ∃ v' w', (Builtin.append_ #[51, 51] ty #[v, .slice (some ad) m c]).run Tryz.prog w = .ok v' w' ∧ OwnZ .u8 5 w' base v' (xs ++ ys) ∧ w.grownBy w' v.ownBlock := by
      intro ty
      rcases hown with ⟨rfl, rfl⟩ | ⟨g, z, rfl, hb, hz, hg⟩
      · by_cases hm0 : m = 0
        · subst hm0
          have : ys = [] := List.eq_nil_of_length_eq_zero hl
          subst this
          obtain ⟨v', w', hrun, _, hgr, hnil⟩ := run_append_own (P := Tryz.prog) w base 51 ty 5 i0 (.int .u8 0) 1 1 Tryz.underlying51 hi0 hz0 hz1 hz2 rfl (by omega) (.slice none 0 0) 0 [] (World.ownsRow_nil w base _ 1) ad 0 c [] rfl (fun j u hj => by cases hj) (fun u hu => by cases hu) (by omega) (by omega) hbase
          obtain rfl := hnil.2 ⟨rfl, rfl⟩
          exact ⟨_, _, hrun, OwnZ.nil _ _ _ _, hgr⟩
        · have hrun := run_append_nil (P := Tryz.prog) w 51 ty 5 i0 (.int .u8 0) Tryz.underlying51 hi0 hz0 ad m c (ys.map (Value.int .u8)) (by simp [hl, hz1]) hnews (by omega) (by omega) (by rw [hz2]; simp at hlen; omega)
          exact ⟨_, _, hrun, by simpa using grew_new .u8 5 w base ys 0 m hl hbase (by omega), ⟨rfl, rfl, rfl, by simp, fun j hj _ => Below.heap_alloc w.drew _ j hj⟩⟩
      · by_cases hroom : xs.length + m ≤ xs.length + z
        · have hrun := run_append_room (P := Tryz.prog) w 51 ty 5 i0 Tryz.underlying51 hi0 g xs.length (xs.length + z) _ hg ad m c (ys.map (Value.int .u8)) (by simp [hl, hz1]) hnews h1 hroom (by simp [hz1]; omega)
          refine ⟨_, _, hrun, .inr ⟨g, z - m, by simp [hl]; omega, hb, by simp; omega, ?_⟩, ⟨rfl, rfl, rfl, by simp, fun j _ hj => setRow_other w g j _ (fun e => hj (by simp [Value.ownBlock, e]))⟩⟩
          rw [setRow_heap w g _ _ 5 _ hg]
          congr 2
          have e1 : ((xs ++ List.replicate z 0).map (Value.int .u8)).take (xs.length * i0.size) = xs.map (Value.int .u8) := by
            rw [hz1, Nat.mul_one, List.map_append, List.take_left' (by simp)]
          have e2 : ((xs ++ List.replicate z 0).map (Value.int .u8)).drop (xs.length * i0.size + (ys.map (Value.int .u8)).length) = (List.replicate (z - m) 0).map (Value.int .u8) := by
            rw [hz1, Nat.mul_one, List.length_map, hl, ← List.drop_drop, List.map_append, List.drop_left' (by simp), ← List.map_drop, List.drop_replicate]
          rw [e1, e2]
          simp
        · have hcells : ∀ j y, (xs.map (Value.int .u8))[j]? = some y → w.cell? ((⟨g, 0, none⟩ : Addr).add j) = some y := hOK.cells (g := g) rfl
          have hrun := run_append_grow (P := Tryz.prog) w 51 ty 5 i0 (.int .u8 0) Tryz.underlying51 hi0 hz0 ⟨g, 0, none⟩ xs.length (xs.length + z) (xs.map (Value.int .u8)) (by simp [hz1]) hcells ad m c (ys.map (Value.int .u8)) (by simp [hl, hz1]) hnews (by omega) (by omega) (growslice_fits (by omega) (by rw [hz2]; omega))
          refine ⟨_, _, hrun, ?_, ⟨rfl, rfl, rfl, by simp, fun j hj _ => Below.heap_alloc w.drew _ j hj⟩⟩
          have := grew_new .u8 5 w base (xs ++ ys) (xs.length + z) (xs.length + m) (by simp [hl]) hbase (by omega)
          simpa using this
    refine wpList_plain hgd fun K hK' => ?_
    obtain ⟨v', w', hrun, h2, h3⟩ := key o.type
    unfold Oper.wp execOp
    simp only [ho, resolve, invoke, builtin, Sem.run_bind, Sem.run_pure, Result.andThen_ok, List.map_toArray, List.map_cons, List.map_nil, hs, hx, hrun]
    exact hK' _ _ (h v' w' h2 ((Below.refl _ _).grown h3 hbase (fun k hk => (World.ownsRow.lt hOK k hk).1)))
/-! ### slice literals, as parts -/

abbrev PartT := Option Addr × Nat × Nat × List Int
def partV (p : PartT) : Value := .slice p.1 p.2.1 p.2.2.1
def part0 : PartT := (none, 0, 0, [])
def partA (l : List PartT) (i : Nat) : Option Addr := (l.getD i part0).1
def partN (l : List PartT) (i : Nat) : Nat := (l.getD i part0).2.1
def partC (l : List PartT) (i : Nat) : Nat := (l.getD i part0).2.2.1
def partX (l : List PartT) (i : Nat) : List Int := (l.getD i part0).2.2.2
theorem Parts.lit (w : World) (l : List PartT) (T : TypeId) (hh : ∀ p ∈ l, Holds w w.heap.size p.1 p.2.1 p.2.2.1 p.2.2.2) :
    Parts (w.alloc (.cells (l.map partV).toArray T)) w.heap.size l.length (partA l) (partN l) (partC l) (partX l) := by
  have hb : Below w.heap.size w (w.alloc (.cells (l.map partV).toArray T)) := (Below.refl _ _).alloc (Nat.le_refl _) _
  refine ⟨by simp, fun i hi => ?_, fun i hi => ?_⟩
  · have hr : (w.alloc (.cells (l.map partV).toArray T)).heap[w.heap.size]? = some (.cells (l.map partV).toArray T (0, 0)) := heap_alloc_new w _
    rw [cell_of_row _ w.heap.size i _ T (0, 0) hr]
    simp [partA, partN, partC, List.getD_eq_getElem?_getD, hi, partV]
  · have he : l.getD i part0 = l[i] := by simp [List.getD_eq_getElem?_getD, hi]
    have := hh l[i] (List.getElem_mem hi)
    unfold partA partN partC partX
    rw [he]
    exact this.over hb
section
variable {ops : Array Oper} {rest : List Oper} {o : Oper} {a : Act} {w : World} {Q : Exit → Act → World → Prop}
end
end Go.Proofs.YtdgpbhdihhchgaaGreatDoor

namespace Go.Proofs.YtdgpbhdihhchgaaGreatDoor
set_option linter.all false
open Go.RowKit Go.ChangeShapes Go.WideShapes
/-- the slice value v is nil, or heads a row in a block from 'base' on that begins with the elements xs -/
def OwnF {α : Type} (f : α → Value) (e : TypeId) (w : World) (base : Nat) (v : Value) (xs : List α) : Prop := w.ownsRow base e 1 v xs.length (xs.map f)
/-- the slice value '.slice A n c' holds the elements xs, in memory below block B -/
structure HoldsF {α : Type} (f : α → Value) (w : World) (B : Nat) (A : Option Addr) (n c : Nat) (xs : List α) : Prop where
  len : xs.length = n
  fit : n ≤ c
  bare : A = none → c = 0
  cells : 0 < n → ∃ b off, A = some ⟨b, off, none⟩ ∧ b < B ∧ ∀ i x, xs[i]? = some x → w.cell? ⟨b, off + i, none⟩ = some (f x)
section
variable {α : Type} {f : α → Value} {w w' w2 : World} {B B' base base' b : Nat} {A : Option Addr} {n c : Nat} {xs ys : List α} {e e' T : TypeId} {v v' u : Value}
theorem HoldsF.keep (h : HoldsF f w B A n c xs) (hk : ∀ p : Addr, p.block < B → w'.cell? p = w.cell? p) : HoldsF f w' B A n c xs :=
  ⟨h.len, h.fit, h.bare, fun hn => by
    obtain ⟨b, off, e, hb, hc⟩ := h.cells hn
    exact ⟨b, off, e, hb, fun i x hi => (hk _ hb).trans (hc i x hi)⟩⟩
theorem HoldsF.mono (h : HoldsF f w B A n c xs) (hB : B ≤ B') : HoldsF f w B' A n c xs :=
  ⟨h.len, h.fit, h.bare, fun hn => by
    obtain ⟨b, off, e, hb, hc⟩ := h.cells hn
    exact ⟨b, off, e, by omega, hc⟩⟩
theorem HoldsF.below (h : HoldsF f w B A n c xs) (hb : Below B w w') : HoldsF f w' B A n c xs := h.keep fun _ hp => hb.cell hp
theorem HoldsF.over (h : HoldsF f w w.heap.size A n c xs) (hb : Below w.heap.size w w') : HoldsF f w' w'.heap.size A n c xs := (h.below hb).mono hb.size
theorem HoldsF.head (h : HoldsF f w B A c c xs) (hn : n ≤ c) : HoldsF f w B A n c (xs.take n) :=
  ⟨by have := h.len; simp; omega, hn, h.bare, fun h0 => by
    obtain ⟨b, off, rfl, hb, hc⟩ := h.cells (by omega)
    refine ⟨b, off, rfl, hb, fun i x hi => hc i x ?_⟩
    rw [List.getElem?_take] at hi
    split at hi
    · exact hi
    · cases hi⟩
theorem HoldsF.nil (f : α → Value) (w : World) (B : Nat) : HoldsF f w B none 0 0 [] := ⟨rfl, Nat.le_refl _, fun _ => rfl, fun h => absurd h (by omega)⟩
theorem OwnF.nil (f : α → Value) (e : TypeId) (w : World) (base : Nat) : OwnF f e w base (.slice none 0 0) [] := World.ownsRow_nil w base e 1
theorem OwnF.mono (h : OwnF f e w base v xs) (hb : base' ≤ base) : OwnF f e w base' v xs := by
  refine ⟨h.1, ?_⟩
  rcases h.2 with h0 | ⟨g, cap, cur, rfl, h1, rest⟩
  · exact .inl h0
  · exact .inr ⟨g, cap, cur, rfl, by omega, rest⟩
theorem OwnF.keep (h : OwnF f e w base v xs) (hk : ∀ i cs, v.ownBlock = some i → w.heap[i]? = some (.cells cs e (0, 0)) → w'.heap[i]? = w.heap[i]?) : OwnF f e w' base v xs := by
  refine ⟨h.1, ?_⟩
  rcases h.2 with h0 | ⟨g, cap, cur, rfl, h1, hg, rest⟩
  · exact .inl h0
  · exact .inr ⟨g, cap, cur, rfl, h1, (hk g cur rfl hg).trans hg, rest⟩
theorem OwnF.below (h : OwnF f e w base v xs) (hb : Below w.heap.size w w') : OwnF f e w' base v xs := h.keep fun i _ _ hi => hb.block i (Array.getElem?_eq_some_iff.1 hi).1
theorem OwnF.alloc (h : OwnF f e w base v xs) (o : Obj) : OwnF f e (w.alloc o) base v xs := World.ownsRow.alloc h o
theorem OwnF.iterAt (h : OwnF f e w base v xs) {K : Nat} {s : ByteArray} {p : Nat} (hK : w.heap[K]? = some (.stringIter s p)) (p' : Nat) : OwnF f e (w.iterAt K s p') base v xs :=
  h.keep fun _ _ _ hi => Lib.iterAt_other w K _ s p' (fun e => by subst e; rw [hi] at hK; cases hK)
theorem OwnF.block (h : OwnF f e w base v xs) {i : Nat} (hi : v.ownBlock = some i) : base ≤ i ∧ ∃ cs, w.heap[i]? = some (.cells cs e (0, 0)) := by
  rcases h.2 with ⟨rfl, _⟩ | ⟨g, cap, cur, rfl, h1, hg, rest⟩
  · cases hi
  · simp only [Value.ownBlock, Option.some.injEq] at hi
    subst hi
    exact ⟨h1, cur, hg⟩
theorem OwnF.lt (h : OwnF f e w base v xs) {i : Nat} (hi : v.ownBlock = some i) : i < w.heap.size := (World.ownsRow.lt h i hi).2
/-- what such a row reads as -/
theorem OwnF.open (h : OwnF f e w base v xs) : ∃ A n c, v = .slice A n c ∧ xs.length = n ∧ n ≤ c ∧ n ≤ 9223372036854775807 ∧ (A = none → c = 0) ∧
    (0 < n → ∃ g, A = some ⟨g, 0, none⟩ ∧ base ≤ g ∧ g < w.heap.size ∧ ∀ i x, xs[i]? = some x → w.cell? ⟨g, i, none⟩ = some (f x)) := by
  rcases h.2 with ⟨rfl, h0⟩ | ⟨g, cap, cur, rfl, hb, hg, hnc, hcm, hcs, htk⟩
  · exact ⟨none, 0, 0, rfl, h0, Nat.le_refl _, by omega, fun _ => rfl, fun h => absurd h (by omega)⟩
  · refine ⟨_, _, _, rfl, rfl, hnc, by unfold maxLen at hcm; omega, fun hA => (by cases hA), fun h0 => ⟨g, rfl, hb, (Array.getElem?_eq_some_iff.1 hg).1, fun i x hi => ?_⟩⟩
    have hil : i < xs.length := (List.getElem?_eq_some_iff.1 hi).1
    rw [cell_of_row w g i cur e (0, 0) hg]
    have e1 : cur[i]? = (cur.toList.take (xs.length * 1))[i]? := by
      rw [List.getElem?_take, if_pos (by omega), Array.getElem?_toList]
    rw [e1, htk, List.getElem?_map, hi]
    rfl
theorem OwnF.holds (h : OwnF f e w base v xs) : ∃ A n c, v = .slice A n c ∧ HoldsF f w w.heap.size A n c xs := by
  obtain ⟨A, n, c, rfl, hl, hf, _, hA, hc⟩ := h.open
  refine ⟨A, n, c, rfl, hl, hf, hA, fun h0 => ?_⟩
  obtain ⟨g, rfl, _, hg, hcc⟩ := hc h0
  exact ⟨g, 0, rfl, hg, fun i x hi => by rw [Nat.zero_add]; exact hcc i x hi⟩
theorem OwnF.oneCell (h : OwnF f e w base v xs) : v.oneCell' = true := by
  obtain ⟨A, n, c, rfl, _⟩ := h.open
  rfl
theorem OwnF.cut0 (h : OwnF f e w base (.slice A n c) xs) : OwnF f e w base (.slice A 0 c) [] := by
  refine ⟨rfl, ?_⟩
  rcases h.2 with ⟨h1, _⟩ | ⟨g, cap, cur, h1, hb, hg, hnc, hcm, hcs, htk⟩
  · cases h1
    exact .inl ⟨rfl, rfl⟩
  · cases h1
    exact .inr ⟨g, c, cur, rfl, hb, hg, Nat.zero_le _, hcm, hcs, by simp⟩
theorem OwnF.only (h : OwnF f e w base v xs) (hO : Only b w w') (hB : Box w b T u) (hT : T ≠ e) : OwnF f e w' base v xs :=
  h.keep fun i cs _ hcs => hO.rest i fun he => by
    subst he
    unfold Box at hB
    rw [hB] at hcs
    simp only [Option.some.injEq, Obj.cells.injEq] at hcs
    exact hT hcs.2.1
theorem Grew.belowF (hg : Grew w w' v) (h : OwnF f e w base v xs) (hb : base ≤ w.heap.size) : Below base w w' := by
  obtain ⟨o, hg⟩ := hg
  exact ((Below.refl base w).alloc hb o).grown hg (by simp; omega) fun i hi => (h.block hi).1
end
section
variable {α : Type} {f : α → Value} {P : Program} {w : World} {ops : Array Oper} {rest : List Oper} {o : Oper} {a : Act} {Q : Exit → Act → World → Prop}
/-- append(l, xs..), the new ones lying in a block of their own that has just been laid, onto a row of the call's own; where the new slice heads is told -/
theorem wpList_append_litF (hgd : o.guard = none) (s x : Operand) (f : α → Value) (hf : ∀ y, (f y).oneCell' = true) (z : Value) (hzc : z.cells.size = 1) (T e : TypeId) (bytes : Nat)
    (ht : P.underlying T = some (.slice e)) (hi : (P.info? e).map (fun i => (i.zero, i.size, i.bytes)) = some (some z, 1, bytes))
    (ho : o.op = .call { callee := .builtin .append, args := #[s, x], argTypes := #[T, T] })
    (base : Nat) (v : Value) (xs ys : List α) (cs : Array Value) (hcs : cs = (ys.map f).toArray) (m c : Nat) (hm : ys.length = m) (hs : a.eval s = v) (hx : a.eval x = .slice (some ⟨w.heap.size, 0, none⟩) m c)
    (hown : OwnF f e w base v xs) (hlen : (xs.length + m) * bytes ≤ 140737488355328) (h63 : xs.length + m ≤ 9223372036854775807) (hbase : base ≤ w.heap.size)
    (h : ∀ v' w', Hid (OwnF f e w' base v' (xs ++ ys)) → Hid (Grew w w' v) → Hid (Whither w v v') → wpList P ops Q rest (a.put o.dst v') w') :
    wpList P ops Q (o :: rest) a (w.alloc (.cells cs e)) := by
  obtain ⟨i0, hi0, hz0, hz1, hz2⟩ := info_parts hi
  subst hcs
  have hr : (w.alloc (.cells (ys.map f).toArray e)).heap[w.heap.size]? = some (.cells (ys.map f).toArray e (0, 0)) := heap_alloc_new w _
  obtain ⟨v', w', hrun, ho', hg', hwh⟩ := run_append_whither (P := P) (w.alloc (.cells (ys.map f).toArray e)) T o.type e i0 z bytes ht hi0 hz0 hz1 hz2 hzc base v xs.length (xs.map f) (OwnF.alloc hown _) ⟨w.heap.size, 0, none⟩ m c (ys.map f) (by simp [hm])
    (fun j y hj => by
      have e1 : (⟨w.heap.size, 0, none⟩ : Addr).add j = ⟨w.heap.size, j, none⟩ := by
        by_cases hj0 : j = 0
        · subst hj0; simp [Addr.add]
        · simp [Addr.add, hj0]
      rw [e1, cell_of_row _ w.heap.size j _ e (0, 0) hr, ← hj]
      simp)
    (by intro v hv; obtain ⟨x, _, rfl⟩ := List.mem_map.1 hv; exact hf x) (by unfold maxLen; omega) hlen (by simp; omega)
  refine wpList_plain hgd fun K hK => ?_
  unfold Oper.wp execOp
  simp only [ho, resolve, invoke, builtin, Sem.run_bind, Sem.run_pure, Result.andThen_ok, List.map_toArray, List.map_cons, List.map_nil, hs, hx, hrun]
  refine hK _ _ (h v' w' ?_ ⟨_, hg'⟩ ?_)
  · show World.ownsRow _ _ _ _ _ _ _
    rw [List.length_append, List.map_append, hm]
    exact ho'
  · rcases hwh with h1 | ⟨g, h1, h2⟩
    · exact .inl h1
    · exact .inr ⟨g, h1, by simp at h2; omega⟩
end
section
variable {H : Type} {enc : TypeId × Value → H} {P : Program} {W : World} {base : Nat} {t e : TypeId} {v : Value} {d : DataW H} {p : List MemPlace}
end
end Go.Proofs.YtdgpbhdihhchgaaGreatDoor

namespace Go.Proofs.YtdgpbhdihhchgaaGreatDoor
set_option linter.all false
open Go.RowKit
section
variable {α : Type} {f : α → Value} {P : Program} {w : World} {ops : Array Oper} {rest : List Oper} {o : Oper} {a : Act} {Q : Exit → Act → World → Prop}
end
section
variable {α : Type} {f : α → Value} {e : TypeId} {w : World} {base g n c : Nat} {xs : List α}
theorem OwnF.heap (h : OwnF f e w base (.slice (some ⟨g, 0, none⟩) n c) xs) : base ≤ g ∧ xs.length = n ∧ ∃ cur : Array Value, w.heap[g]? = some (.cells cur e (0, 0)) ∧ n ≤ cur.size ∧ cur.toList.take n = xs.map f ∧ n ≤ c ∧ c ≤ maxLen ∧ cur.size = c := by
  rcases h.2 with ⟨h0, _⟩ | ⟨g', cap, cur, hv, hb, hg, hnc, hcm, hcs, htk⟩
  · cases h0
  · simp only [Value.slice.injEq, Option.some.injEq, Addr.mk.injEq, and_true] at hv
    obtain ⟨rfl, hn, rfl⟩ := hv
    rw [Nat.mul_one] at htk hcs
    exact ⟨hb, hn.symm, cur, hg, by omega, by rw [hn]; exact htk, by omega, hcm, hcs⟩
theorem OwnF.set (h : OwnF f e w base (.slice (some ⟨g, 0, none⟩) n c) xs) (i : Nat) (u : α) : OwnF f e (w.setCell ⟨g, i, none⟩ (f u)) base (.slice (some ⟨g, 0, none⟩) n c) (xs.set i u) := by
  obtain ⟨hb, hn, cur, hg, hns, htk, hnc, hcm, hcs⟩ := h.heap
  have h1 := heap_setCell_same w g i cur e (f u) hg
  have hl : (xs.set i u).length = n := by rw [List.length_set, hn]
  refine ⟨by simp, .inr ⟨g, c, _, by rw [hl], hb, h1, by rw [hl]; exact hnc, hcm, by simp [hcs], ?_⟩⟩
  rw [hl, Nat.mul_one, Array.toList_setIfInBounds, List.take_set, htk, List.map_set]
theorem OwnF.frozen (h : OwnF f e w base (.slice (some ⟨g, 0, none⟩) n c) xs) (i : Nat) : w.frozen? ⟨g, i, none⟩ = false := by
  obtain ⟨_, _, cur, hg, _⟩ := h.heap
  exact frozen_of_row w g i _ e hg
theorem OwnF.cell (h : OwnF f e w base (.slice (some ⟨g, 0, none⟩) n c) xs) {i : Nat} {x : α} (hi : xs[i]? = some x) : w.cell? ⟨g, i, none⟩ = some (f x) := by
  obtain ⟨_, hn, cur, hg, hns, htk, _⟩ := h.heap
  have hl := (List.getElem?_eq_some_iff.1 hi).1
  rw [cell_of_row w g i cur e (0, 0) hg]
  have e1 : cur[i]? = (cur.toList.take n)[i]? := by
    rw [List.getElem?_take, if_pos (by omega), Array.getElem?_toList]
  rw [e1, htk, List.getElem?_map, hi]
  rfl
end
section
open Go.ChangeShapes Go.WideShapes
variable {H : Type} {enc : TypeId × Value → H} {P : Program} {W : World} {base : Nat} {t e : TypeId} {v : Value} {d : DataW H} {p : List MemPlace}
end
end Go.Proofs.YtdgpbhdihhchgaaGreatDoor

namespace Go.Proofs.YtdgpbhdihhchgaaGreatDoor
set_option linter.all false
open Go.RowKit Go.ChangeShapes Go.WideShapes
set_option linter.unusedVariables false
/-- the slice value '.slice A n c' holds rows of bytes, in memory below block B -/
structure Lst (w : World) (B : Nat) (A : Option Addr) (n c : Nat) (ps : List PartT) : Prop where
  row : HoldsF partV w B A n c ps
  each : ∀ p ∈ ps, Holds w B p.1 p.2.1 p.2.2.1 p.2.2.2
section
variable {w w' : World} {B B' : Nat} {A : Option Addr} {n c : Nat} {ps : List PartT}
theorem Lst.below (h : Lst w B A n c ps) (hb : Below B w w') : Lst w' B A n c ps := ⟨h.row.below hb, fun p hp => (h.each p hp).below hb⟩
theorem Lst.mono (h : Lst w B A n c ps) (hB : B ≤ B') : Lst w B' A n c ps := ⟨h.row.mono hB, fun p hp => (h.each p hp).mono hB⟩
theorem Lst.over (h : Lst w w.heap.size A n c ps) (hb : Below w.heap.size w w') : Lst w' w'.heap.size A n c ps := (h.below hb).mono hb.size
theorem HoldsF.drewL {α : Type} {f : α → Value} {xs : List α} (h : HoldsF f w B A n c xs) (k : Nat) : HoldsF f (w.drewN k) B A n c xs := h.keep fun _ _ => rfl
theorem Lst.drewN (h : Lst w B A n c ps) (k : Nat) : Lst (w.drewN k) B A n c ps := ⟨h.row.drewL k, fun p hp => (h.each p hp).drewN k⟩
theorem Lst.head (h : Lst w B A c c ps) (hn : n ≤ c) : Lst w B A n c (ps.take n) := ⟨h.row.head hn, fun p hp => h.each p (List.mem_of_mem_take hp)⟩
theorem Lst.nil (w : World) (B : Nat) : Lst w B none 0 0 [] := ⟨HoldsF.nil _ _ _, fun p hp => by cases hp⟩
/-- the cell of one row -/
theorem Lst.at (h : Lst w B A n c ps) {i : Nat} (hi : i < n) : ∃ b off p, A = some ⟨b, off, none⟩ ∧ b < B ∧ ps[i]? = some p ∧ w.cell? ⟨b, off + i, none⟩ = some (.slice p.1 p.2.1 p.2.2.1) ∧ Holds w B p.1 p.2.1 p.2.2.1 p.2.2.2 := by
  obtain ⟨b, off, e, hb, hc⟩ := h.row.cells (by omega)
  have hl := h.row.len
  have hp : ps[i]? = some ps[i] := List.getElem?_eq_getElem (by omega)
  exact ⟨b, off, ps[i], e, hb, hp, hc i _ hp, h.each _ (List.getElem_mem _)⟩
end
section
variable {H : Type} {enc : TypeId × Value → H} {P : Program} {W : World} {base : Nat} {t e q : TypeId} {v : Value} {d : DataW H} {p : List MemPlace}
end
end Go.Proofs.YtdgpbhdihhchgaaGreatDoor

namespace Go.Proofs.YtdgpbhdihhchgaaGreatDoor
set_option linter.all false
open Go.RowKit
set_option linter.unusedVariables false
/-- a row of the call's own; Z: with noughts behind it -/
def OwnB (Z : Bool) (w : World) (base : Nat) (v : Value) (xs : List Int) : Prop := OwnK .u8 5 w base v xs ∧ (Z = true → OwnZ .u8 5 w base v xs)
structure OLst (Z : Bool) (w : World) (base : Nat) (v : Value) (ps : List PartT) : Prop where
  row : OwnF partV 51 w base v ps
  each : ∀ p ∈ ps, OwnB Z w base (partV p) p.2.2.2 ∧ Bytes p.2.2.2 ∧ p.2.2.2.length ≤ 140737488355328
  apart : ps.Pairwise fun p q => ∀ i, (partV p).ownBlock = some i → (partV q).ownBlock ≠ some i
section
variable {Z : Bool} {w w' w0 : World} {base base' : Nat} {v v' : Value} {xs : List Int} {ps : List PartT}
theorem OwnB.of_z (h : OwnZ .u8 5 w base v xs) (Z : Bool) : OwnB Z w base v xs := ⟨h.own, fun _ => h⟩
theorem OwnB.keep (h : OwnB Z w base v xs) (hk : ∀ i cs, v.ownBlock = some i → w.heap[i]? = some (.cells cs 5 (0, 0)) → w'.heap[i]? = w.heap[i]?) : OwnB Z w' base v xs := ⟨h.1.keep hk, fun z => (h.2 z).keep hk⟩
theorem OwnB.below (h : OwnB Z w base v xs) (hb : Below w.heap.size w w') : OwnB Z w' base v xs := h.keep fun i _ _ hi => hb.block i (Array.getElem?_eq_some_iff.1 hi).1
theorem OwnB.mono (h : OwnB Z w base v xs) (hb : base' ≤ base) : OwnB Z w base' v xs := ⟨h.1.mono hb, fun z => (h.2 z).mono hb⟩
theorem OwnB.holds {p : PartT} (h : OwnB Z w base (partV p) p.2.2.2) (hx : Bytes p.2.2.2) (hn : p.2.2.2.length ≤ 140737488355328) : Holds w w.heap.size p.1 p.2.1 p.2.2.1 p.2.2.2 := by
  obtain ⟨A1, c1, e, hh⟩ := Own.holds (show Own w base (partV p) p.2.2.2 from h.1) hx (by omega)
  unfold partV at e
  injection e with e1 e2 e3
  rw [e1, e2, e3]
  exact hh
theorem OLst.nil (Z : Bool) (w : World) (base : Nat) : OLst Z w base (.slice none 0 0) [] := ⟨OwnF.nil _ _ _ _, (fun p h => by cases h), List.Pairwise.nil⟩
theorem OLst.below (h : OLst Z w base v ps) (hb : Below w.heap.size w w') : OLst Z w' base v ps :=
  ⟨h.row.below hb, fun p hp => ⟨(h.each p hp).1.below hb, (h.each p hp).2⟩, h.apart⟩
theorem OLst.mono (h : OLst Z w base v ps) (hb : base' ≤ base) : OLst Z w base' v ps :=
  ⟨h.row.mono hb, fun p hp => ⟨(h.each p hp).1.mono hb, (h.each p hp).2⟩, h.apart⟩
theorem OLst.lst (h : OLst Z w base v ps) : ∃ A n c, v = .slice A n c ∧ Lst w w.heap.size A n c ps := by
  obtain ⟨A, n, c, rfl, hh⟩ := h.row.holds
  exact ⟨A, n, c, rfl, hh, fun p hp => (h.each p hp).1.holds (h.each p hp).2.1 (h.each p hp).2.2⟩
end
section
variable {ops : Array Oper} {rest : List Oper} {o : Oper} {a : Act} {w w0 : World} {Q : Exit → Act → World → Prop}
end
end Go.Proofs.YtdgpbhdihhchgaaGreatDoor

namespace Go.Proofs.YtdgpbhdihhchgaaGreatDoor
set_option linter.all false
set_option maxRecDepth 100000
/-- a head: its numbers in their order, and the signature -/
structure Hd where
  ch : Int
  st : Int
  cm : Int
  cr : Int
  fl : Int
  nx : Int
  id : Int
  asy : Int
  tr : Int
  se : Int
  sg : List Int
def Hd.tup (h : Hd) : List Int := h.ch :: h.st :: h.cm :: h.cr :: h.fl :: h.nx :: h.id :: h.asy :: h.tr :: h.se :: h.sg
theorem Hd.tup_inj {a b : Hd} : a.tup = b.tup ↔ a = b := by
  cases a
  cases b
  simp [Hd.tup]
instance : DecidableEq Hd := fun _ _ => decidable_of_iff _ Hd.tup_inj
/-- each number is one of its kind -/
structure Hd.ok (h : Hd) : Prop where
  ch : 0 ≤ h.ch ∧ h.ch ≤ 65535
  st : 0 ≤ h.st ∧ h.st ≤ 4294967295
  cm : 0 ≤ h.cm ∧ h.cm ≤ 65535
  cr : 0 ≤ h.cr ∧ h.cr ≤ 65535
  fl : 0 ≤ h.fl ∧ h.fl ≤ 4294967295
  nx : 0 ≤ h.nx ∧ h.nx ≤ 4294967295
  id : 0 ≤ h.id ∧ h.id ≤ 18446744073709551615
  asy : 0 ≤ h.asy ∧ h.asy ≤ 18446744073709551615
  tr : 0 ≤ h.tr ∧ h.tr ≤ 4294967295
  se : 0 ≤ h.se ∧ h.se ≤ 18446744073709551615
  len : h.sg.length = 16
  byte : Bytes h.sg
def zeroHd : Hd := ⟨0, 0, 0, 0, 0, 0, 0, 0, 0, 0, List.replicate 16 0⟩
def isAs (f : Int) : Bool := decide (f / 2 % 2 = 1)
def aot (h : Hd) : Int := if isAs h.fl = true then h.asy else h.tr * 4294967296
/-! ### bytes of a head -/
def szs : List Nat := [4, 2, 2, 4, 2, 2, 4, 4, 8, 8, 8]
def offs : List Nat := [0, 4, 6, 8, 12, 14, 16, 20, 24, 32, 40, 48]
def vals (h : Hd) : List Int := [1112364030, 64, h.ch, h.st, h.cm, h.cr, h.fl, h.nx, h.id, aot h, h.se]
/-- the bytes of the first k numbers -/
def pre (h : Hd) : Nat → List Int
  | 0 => []
  | k + 1 => pre h k ++ le ((vals h).getD k 0) (szs.getD k 0)
/-! ### what stands in bytes -/
/-- the number at place a in s bytes -/
def numAt (xs : List Int) (a s : Nat) : Int := num ((xs.drop a).take s)
/-- a head that takes its number k -/
def setK (k : Nat) (n : Int) (h : Hd) : Hd :=
  if k = 2 then { h with ch := n } else if k = 3 then { h with st := n } else if k = 4 then { h with cm := n } else if k = 5 then { h with cr := n } else if k = 6 then { h with fl := n } else if k = 7 then { h with nx := n }
  else if k = 8 then { h with id := n } else if k = 9 then (if isAs h.fl = true then { h with asy := n } else { h with tr := n / 4294967296 }) else if k = 10 then { h with se := n } else h
/-- what was taken behind k rounds -/
def tk (xs : List Int) : Nat → Hd
  | 0 => zeroHd
  | k + 1 => setK k (numAt xs (offs.getD k 0) (szs.getD k 0)) (tk xs k)
end Go.Proofs.YtdgpbhdihhchgaaGreatDoor

namespace Go.Proofs.YtdgpbhdihhchgaaGreatDoor
set_option linter.all false
set_option maxRecDepth 100000
open Go.RowKit
/-- block g is a variable of type T whose cells are cs, none frozen -/
def Blk (w : World) (g : Nat) (T : TypeId) (cs : List Value) : Prop := w.heap[g]? = some (.cells cs.toArray T (0, 0))
/-- the cells of a head -/
def hcells (h : Hd) : List Value := .int .u16 h.ch :: .int .u32 h.st :: .int .u16 h.cm :: .int .u16 h.cr :: .int .u32 h.fl :: .int .u32 h.nx :: .int .u64 h.id :: .int .u64 h.asy :: .int .u32 h.tr :: .int .u64 h.se :: h.sg.map (Value.int .u8)
def hv (h : Hd) : Value := .agg (hcells h).toArray
/-- nothing but block g may have turned, of what was there; there may be more -/
structure Save (g : Nat) (w w' : World) : Prop where
  os : w'.os = w.os
  tape : w'.tape = w.tape
  output : w'.output = w.output
  size : w.heap.size ≤ w'.heap.size
  rest : ∀ j, j < w.heap.size → j ≠ g → w'.heap[j]? = w.heap[j]?
section
variable {w w' w2 : World} {g g' B : Nat} {T T' : TypeId} {cs cs' : List Value} {h h' : Hd} {k : IntKind} {xs : List Int}
theorem Save.refl (g : Nat) (w : World) : Save g w w := ⟨rfl, rfl, rfl, Nat.le_refl _, fun _ _ _ => rfl⟩
theorem Save.trans (a : Save g w w') (b : Save g w' w2) : Save g w w2 :=
  ⟨b.os.trans a.os, b.tape.trans a.tape, b.output.trans a.output, Nat.le_trans a.size b.size, fun j hj hg => (b.rest j (Nat.lt_of_lt_of_le hj a.size) hg).trans (a.rest j hj hg)⟩
theorem Save.of_below (hb : Below w.heap.size w w') (g : Nat) : Save g w w' := ⟨hb.os, hb.tape, hb.output, hb.size, fun j hj _ => hb.block j hj⟩
theorem Save.of_only (hO : Only g w w') : Save g w w' := ⟨hO.os, hO.tape, hO.output, Nat.le_of_eq hO.size.symm, fun j _ hg => hO.rest j hg⟩
theorem Save.below (a : Save g w w') (hg : B ≤ g) (hB : B ≤ w.heap.size) : Below B w w' := ⟨a.os, a.tape, a.output, a.size, fun j hj => a.rest j (by omega) (by omega)⟩
theorem only_setCell (w : World) (g i : Nat) (v : Value) : Only g w (w.setCell ⟨g, i, none⟩ v) := (Only.refl g w).setCell i v
theorem below_only (hb : Below B w w') (hO : Only g w' w2) (hg : B ≤ g) : Below B w w2 := hb.trans (hO.below hg)
theorem Blk.lt (a : Blk w g T cs) : g < w.heap.size := (Array.getElem?_eq_some_iff.1 a).1
theorem Blk.cell (a : Blk w g T cs) (i : Nat) : w.cell? ⟨g, i, none⟩ = cs[i]? := by rw [cell_of_row w g i _ T (0, 0) a]; simp
theorem Blk.frozen (a : Blk w g T cs) (i : Nat) : w.frozen? ⟨g, i, none⟩ = false := frozen_of_row w g i _ T a
theorem Blk.below (a : Blk w g T cs) (hb : Below B w w') (hg : g < B) : Blk w' g T cs := (hb.block g hg).trans a
theorem Blk.over (a : Blk w g T cs) (hb : Below w.heap.size w w') : Blk w' g T cs := a.below hb a.lt
theorem Blk.only (a : Blk w g T cs) (hO : Only g' w w') (hg : g ≠ g') : Blk w' g T cs := (hO.rest g hg).trans a
theorem Blk.drew (a : Blk w g T cs) : Blk w.drew g T cs := a
theorem Blk.drewN (a : Blk w g T cs) (n : Nat) : Blk (w.drewN n) g T cs := a
theorem Blk.alloc (a : Blk w g T cs) (o : Obj) : Blk (w.alloc o) g T cs := (Below.heap_alloc _ _ _ a.lt).trans a
theorem Blk.new (w : World) (T : TypeId) (cs : List Value) : Blk (w.alloc (.cells cs.toArray T)) w.heap.size T cs := heap_alloc_new w _
theorem Blk.set (a : Blk w g T cs) (i : Nat) (v : Value) : Blk (w.setCell ⟨g, i, none⟩ v) g T (cs.set i v) := by
  have h1 := heap_setCell_same w g i _ T v a
  unfold Blk
  rw [h1]
  simp
theorem Blk.range (a : Blk w g T cs) (o : Nat) : w.rangeAt g o (cs.drop o) := fun j v hj => by
  rw [a.cell, ← hj, List.getElem?_drop]
theorem Row.only (a : Row w g xs) (hO : Only g' w w') (hg : g ≠ g') : Row w' g xs := (hO.rest g hg).trans a
theorem Row.over (a : Row w g xs) (hb : Below w.heap.size w w') : Row w' g xs := a.below hb a.lt
theorem Holds.only {A : Option Addr} {n c : Nat} (a : Holds w B A n c xs) (hO : Only g' w w') (hg : B ≤ g') : Holds w' B A n c xs := a.below (hO.below hg)
end
section
variable {P : Program} {ops : Array Oper} {rest : List Oper} {o : Oper} {a : Act} {w : World} {Q : Exit → Act → World → Prop}
/-- a parameter of several cells that gets a block of its own -/
theorem wpList_box_blk (hg : o.guard = none) (T : TypeId) (x : Operand) (ho : o.op = .box T x) (cs : List Value) (hx : a.eval x = .agg cs.toArray)
    (h : ∀ g w', w.heap.size ≤ g → g < w'.heap.size → Hid (Blk w' g T cs) → Hid (Below w.heap.size w w') → wpList P ops Q rest (a.put o.dst (.pointer (some ⟨g, 0, none⟩))) w') : wpList P ops Q (o :: rest) a w := by
  refine wpList_plain hg fun K hK => ?_
  unfold Oper.wp execOp
  simp only [ho, hx, Sem.run_bind, Instr.box, newVar, newRow, run_newObj_alloc, Sem.run_pure, Result.andThen_ok]
  refine hK _ _ (h _ _ (Nat.le_refl _) (by simp) ?_ ((Below.refl _ _).alloc (Nat.le_refl _) _))
  exact Blk.new w T cs
/-- a parameter of one cell that gets a block of its own -/
theorem wpList_box_one (hg : o.guard = none) (T : TypeId) (x : Operand) (ho : o.op = .box T x) (v : Value) (hx : a.eval x = v) (hv : v.cells = #[v])
    (h : ∀ g w', w.heap.size ≤ g → g < w'.heap.size → Hid (Blk w' g T [v]) → Hid (Below w.heap.size w w') → wpList P ops Q rest (a.put o.dst (.pointer (some ⟨g, 0, none⟩))) w') : wpList P ops Q (o :: rest) a w := by
  refine wpList_plain hg fun K hK => ?_
  unfold Oper.wp execOp
  simp only [ho, hx, hv, Sem.run_bind, Instr.box, newVar, newRow, run_newObj_alloc, Sem.run_pure, Result.andThen_ok]
  refine hK _ _ (h _ _ (Nat.le_refl _) (by simp) ?_ ((Below.refl _ _).alloc (Nat.le_refl _) _))
  exact Blk.new w T [v]
/-- a variable of several cells, at first zero -/
theorem wpList_alloc_blk (hg : o.guard = none) (T : TypeId) (ho : o.op = .alloc T) (zs : List Value) (n : Nat) (hi : Hid ((P.info? T).map (fun i => (i.zero, i.size)) = some (some (.agg zs.toArray), n)))
    (h : ∀ g w', w.heap.size ≤ g → g < w'.heap.size → Hid (Blk w' g T zs) → Hid (Below w.heap.size w w') → wpList P ops Q rest (a.put o.dst (.pointer (some ⟨g, 0, none⟩))) w') : wpList P ops Q (o :: rest) a w := by
  refine wpList_plain hg fun K hK => ?_
  unfold Oper.wp execOp
  have hz := (zero_of_info hi.out).1
  simp only [ho, Sem.run_bind, Instr.alloc, hz, newVar, newRow, run_newObj_alloc, Sem.run_pure, Result.andThen_ok]
  refine hK _ _ (h _ _ (Nat.le_refl _) (by simp) ?_ ((Below.refl _ _).alloc (Nat.le_refl _) _))
  exact Blk.new w T zs
/-- the whole of it out of its block -/
theorem wpList_load_blk (hg : o.guard = none) (T : TypeId) (x : Operand) (ho : o.op = .load T x) (g : Nat) (hx : a.eval x = .pointer (some ⟨g, 0, none⟩)) (T' : TypeId) (cs : List Value) (hA : Hid (Blk w g T' cs)) (n : Nat) (d : TypeDesc)
    (hu : P.underlying T = some d) (hd : (match d with | .struct _ | .array _ _ => true | _ => false) = true) (hi : (P.info? T).map (·.size) = some n) (hn : Hid (cs.length = n))
    (h : wpList P ops Q rest (a.put o.dst (.agg cs.toArray)) w) : wpList P ops Q (o :: rest) a w :=
  wpList_load_row hg T x ho g hx T' _ (0, 0) d hA.out hu hd (by rw [hi]; have := hn.out; simp [this]) h
/-- the whole of it into its block -/
theorem wpList_store_blk (hg : o.guard = none) (T : TypeId) (x y : Operand) (ho : o.op = .store T x y) (g : Nat) (hx : a.eval x = .pointer (some ⟨g, 0, none⟩)) (T' : TypeId) (cs ds : List Value) (hy : a.eval y = .agg ds.toArray)
    (hA : Hid (Blk w g T' cs)) (n : Nat) (hi : (P.info? T).map (·.size) = some n) (hn : Hid (cs.length = n)) (hm : Hid (ds.length = n)) (h1 : Hid (∀ v ∈ ds, v.oneCell' = true))
    (h : ∀ w', Hid (Blk w' g T' ds) → Hid (Only g w w') → g < w'.heap.size → wpList P ops Q rest a w') (hd : o.dst = none := by rfl) : wpList P ops Q (o :: rest) a w := by
  refine wpList_store_row hg T x y ho g _ hx hy T' _ hA.out (by rw [hi]; have := hm.out; simp [this]) (by have := hm.out; have := hn.out; simp_all) (all_oneCell_toArray h1.out) ?_
  have hp : a.put o.dst undef = a := by rw [hd]; rfl
  rw [hp]
  refine h _ ?_ ((Only.refl g w).setRow _) (by rw [size_setRow]; exact hA.out.lt)
  exact setRow_heap w g _ _ T' (0, 0) hA.out
/-- one cell of it -/
theorem run_storeVar_fld (w : World) (g i : Nat) (T' ty : TypeId) (cs : List Value) (u : Value) (hB : Blk w g T' cs) (hi : i < cs.length) (hs : (P.info? ty).map (·.size) = some 1) (h1 : u.oneCell' = true) :
    (storeVar ty ⟨g, i, none⟩ u).run P w = .ok () (w.setCell ⟨g, i, none⟩ u) := by
  have hc : u.cells = #[u] := by cases u <;> first | rfl | (simp [Value.oneCell'] at h1)
  have := run_storeCells_cells (P := P) g i [u] 0 w (fun j hj => by
      obtain rfl : j = 0 := by simpa using hj
      show (w.cell? ⟨g, i, none⟩).isSome = true
      rw [hB.cell]
      simp [hi]) (fun j _ => hB.frozen _) (fun x hx => by obtain rfl := List.mem_singleton.1 hx; exact h1)
  cases hq : P.info? ty with
  | none => simp [hq] at hs
  | some q =>
    have hz : q.size = 1 := by simpa [hq] using hs
    simp [storeVar, sizeOf, typeInfo, hq, hc, hz]
    simpa [World.setCells] using this
theorem wpList_store_fld (hg : o.guard = none) (T : TypeId) (x y : Operand) (ho : o.op = .store T x y) (g i : Nat) (hx : a.eval x = .pointer (some ⟨g, i, none⟩)) (T' : TypeId) (cs : List Value) (u : Value) (hy : a.eval y = u)
    (hA : Hid (Blk w g T' cs)) (hi : Hid (i < cs.length)) (hs : (P.info? T).map (·.size) = some 1) (h1 : u.oneCell' = true)
    (h : ∀ w', Hid (Blk w' g T' (cs.set i u)) → Hid (Only g w w') → g < w'.heap.size → wpList P ops Q rest a w') (hd : o.dst = none := by rfl) : wpList P ops Q (o :: rest) a w := by
  have hp : a.put o.dst undef = a := by rw [hd]; rfl
  refine wpList_plain hg fun K hK => ?_
  unfold Oper.wp execOp
  simp only [ho, hx, hy, Instr.storeAt, Instr.sureAddr, Sem.run_bind, Sem.run_pure, Result.andThen_ok, run_storeVar_fld w g i T' T cs u hA.out hi.out hs h1]
  show K (a.put o.dst undef) _
  rw [hp]
  refine hK _ _ (h _ ?_ (only_setCell w g i u) ?_)
  · exact hA.out.set i u
  · have := (only_setCell w g i u).size
    rw [this]
    exact hA.out.lt
/-- a slice literal -/
theorem wpList_slice_blk (hg : o.guard = none) (t e : TypeId) (len : Nat) (parts : Array (Nat × Operand)) (ho : o.op = .buildSlice t len parts) (hu : P.underlying t = some (.slice e)) (cs : List Value)
    (hf : P.builtSlice e len (parts.map fun (i, x) => (i, a.eval x)).toList = some cs.toArray)
    (h : ∀ g w', w.heap.size ≤ g → g < w'.heap.size → Hid (Blk w' g e cs) → Hid (Below w.heap.size w w') → wpList P ops Q rest (a.put o.dst (.slice (some ⟨g, 0, none⟩) len len)) w') : wpList P ops Q (o :: rest) a w :=
  _root_.Go.Great.wpList_buildSliceTo hg t e len parts ho w.heap.size rfl _ rfl hu cs.toArray hf (h _ _ (Nat.le_refl _) (by simp) (Blk.new w e cs) ((Below.refl _ _).alloc (Nat.le_refl _) _))
/-- the same as a step of a region that draws its order -/
theorem step_slice_blk {K : Act → World → Prop} {E : Prop} (hg : o.guard = none) (t e : TypeId) (len : Nat) (parts : Array (Nat × Operand)) (ho : o.op = .buildSlice t len parts) (hu : P.underlying t = some (.slice e)) (cs : List Value)
    (hf : P.builtSlice e len (parts.map fun (i, x) => (i, a.eval x)).toList = some cs.toArray)
    (h : ∀ g w', w.heap.size ≤ g → g < w'.heap.size → Hid (Blk w' g e cs) → Hid (Below w.heap.size w w') → K (a.put o.dst (.slice (some ⟨g, 0, none⟩) len len)) w') :
    if Region.wanted o (yielded ops a.tmps) = true then Oper.wp P o a w K Q else E := by
  have hw : Region.wanted o (yielded ops a.tmps) = true := by simp [Region.wanted, hg]
  rw [if_pos hw]
  unfold Program.builtSlice at hf
  cases hie : P.info? e with
  | none => simp [hie] at hf
  | some ie =>
    simp only [hie] at hf
    cases hz : ie.zero with
    | none => simp [hz] at hf
    | some z =>
      simp only [hz] at hf
      by_cases hc : len * ie.size > 2 ^ 24 ∨ len * ie.size = 0
      · simp [hc] at hf
      · rw [if_neg hc] at hf
        exact wp_buildSlice t e len parts ho _ ie z hu hie hz (fun h' => hc (Or.inl h')) (fun h' => hc (Or.inr h')) hf (h _ _ (Nat.le_refl _) (by simp) (Blk.new w e cs) ((Below.refl _ _).alloc (Nat.le_refl _) _))
/-- a literal of several cells -/
theorem wpList_build_blk (hg : o.guard = none) (T : TypeId) (parts : Array (Nat × Operand)) (ho : o.op = .build T parts) (cs : List Value) (hf : P.built T (parts.map fun (i, x) => (i, a.eval x)).toList = some cs.toArray)
    (h : wpList P ops Q rest (a.put o.dst (.agg cs.toArray)) w) : wpList P ops Q (o :: rest) a w := wpList_buildTo hg T parts ho _ rfl _ hf h
/-- the zero literal -/
theorem wpList_build_none (hg : o.guard = none) (T : TypeId) (ho : o.op = .build T #[]) (cs : List Value) (hf : P.built T [] = some cs.toArray)
    (h : wpList P ops Q rest (a.put o.dst (.agg cs.toArray)) w) : wpList P ops Q (o :: rest) a w := by
  refine wpList_buildTo hg T #[] ho _ rfl cs.toArray ?_ h
  rw [← hf]
  simp
end
/-- what copy leaves of a row of cells -/
def spliced (cur : List Value) (off : Nat) (xs : List Int) : List Value := cur.take off ++ (xs.map (Value.int .u8) ++ cur.drop (off + xs.length))
/-- copy(dst[off:], src), dst a block of its own, all of src fitting in; src not empty -/
theorem wpList_copy_mid {w : World} {ops : Array Oper} {rest : List Oper} {o : Oper} {a : Act} {Q : Exit → Act → World → Prop} (hgd : o.guard = none) (d s : Operand)
    (ho : o.op = .call { callee := .builtin .copy, args := #[d, s], argTypes := #[51, 51] })
    (g off : Nat) (T : TypeId) (dLen dCap n c : Nat) (A : Option Addr) (hd : a.eval d = .slice (some ⟨g, off, none⟩) dLen dCap) (hs : a.eval s = .slice A n c)
    (cur : List Value) (xs : List Int) (B : Nat) (hrow : Hid (Blk w g T cur)) (hx : Holds w B A n c xs) (h0 : 0 < n) (hn : n ≤ dLen) (hfit : Hid (off + n ≤ cur.length))
    (h : ∀ w', Hid (Blk w' g T (spliced cur off xs)) → Hid (Only g w w') → wpList Tryz.prog ops Q rest (a.put o.dst (goInt n)) w') :
    wpList Tryz.prog ops Q (o :: rest) a w := by
  have hl := hx.len
  obtain ⟨i0, hi, hz0, hz1, hz2⟩ := info_parts info_u8
  obtain ⟨b, so, rfl, _, hc⟩ := hx.cells h0
  refine wpList_copy_own hgd d s 51 51 ho 5 Tryz.underlying51 (by rw [hi]; simp [hz1]) g off dLen dCap _ n c hd hs cur.toArray T hrow.out (xs.map (Value.int .u8)) (by rw [List.length_map, hl]; exact (Nat.min_eq_left hn).symm) ?_ (by have := hfit.out; simp; omega)
    (by intro v hv; obtain ⟨x, _, rfl⟩ := List.mem_map.1 hv; rfl) ?_
  · intro j v hj
    have hjl : j < xs.length := by
      by_cases hj' : j < xs.length
      · exact hj'
      · rw [List.getElem?_eq_none (by simp; omega)] at hj
        cases hj
    rw [Addr.add_mid, hc j (by omega), ← hj]
    simp [hjl]
  · have e := h (w.setRow g (spliced cur off xs).toArray) (setRow_heap w g _ _ T (0, 0) hrow.out) ((Only.refl g w).setRow _)
    have e2 : goInt (xs.map (Value.int .u8)).length = goInt n := by rw [List.length_map, hl]
    rw [e2]
    simpa [spliced] using e
theorem spliced_row (cur xs : List Int) (off : Nat) : spliced (cur.map (Value.int .u8)) off xs = (cur.take off ++ xs ++ cur.drop (off + xs.length)).map (Value.int .u8) := by
  simp [spliced]
end Go.Proofs.YtdgpbhdihhchgaaGreatDoor

namespace Go.Proofs.YtdgpbhdihhchgaaGreatDoor
set_option linter.all false
set_option maxRecDepth 100000
open Go.RowKit
set_option linter.unusedVariables false
structure Spare (S : Nat → Prop) (w w' : World) : Prop where
  os : w'.os = w.os
  tape : w'.tape = w.tape
  output : w'.output = w.output
  size : w.heap.size ≤ w'.heap.size
  rest : ∀ j, j < w.heap.size → ¬ S j → w'.heap[j]? = w.heap[j]?
/-- the row of an object heads its old block, or a new one, or none -/
def Wander (w : World) (v v' : Value) : Prop := ∀ i, v'.ownBlock = some i → v.ownBlock = some i ∨ w.heap.size ≤ i
/-- none of the rows heads v's block -/
def Away (ps : List PartT) (v : Value) : Prop := ∀ p ∈ ps, ∀ i, (partV p).ownBlock = some i → v.ownBlock ≠ some i
section
variable {S S' : Nat → Prop} {w w' w2 : World} {B base g : Nat} {T T' : TypeId} {cs : List Value} {v v' u : Value} {xs : List Int} {ps qs : List PartT} {k : IntKind} {e : TypeId} {Z : Bool} {A : Option Addr} {n c : Nat}
theorem Spare.refl (S : Nat → Prop) (w : World) : Spare S w w := ⟨rfl, rfl, rfl, Nat.le_refl _, fun _ _ _ => rfl⟩
theorem Spare.trans (a : Spare S w w') (b : Spare S' w' w2) (h : ∀ j, j < w.heap.size → S' j → S j) : Spare S w w2 :=
  ⟨b.os.trans a.os, b.tape.trans a.tape, b.output.trans a.output, Nat.le_trans a.size b.size, fun j hj hs => (b.rest j (Nat.lt_of_lt_of_le hj a.size) fun h' => hs (h j hj h')).trans (a.rest j hj hs)⟩
theorem Spare.mono (a : Spare S w w') (h : ∀ j, j < w.heap.size → S j → S' j) : Spare S' w w' := ⟨a.os, a.tape, a.output, a.size, fun j hj hs => a.rest j hj fun h' => hs (h j hj h')⟩
theorem Spare.of_below (hb : Below B w w') : Spare (fun j => B ≤ j) w w' := ⟨hb.os, hb.tape, hb.output, hb.size, fun j _ hs => hb.block j (by omega)⟩
theorem Spare.of_over (S : Nat → Prop) (hb : Below w.heap.size w w') : Spare S w w' := ⟨hb.os, hb.tape, hb.output, hb.size, fun j hj _ => hb.block j hj⟩
theorem Spare.of_only (hO : Only g w w') : Spare (fun j => j = g) w w' := ⟨hO.os, hO.tape, hO.output, Nat.le_of_eq hO.size.symm, fun j _ hg => hO.rest j hg⟩
theorem Spare.of_grown (hg : w.grownBy w' v.ownBlock) : Spare (fun j => v.ownBlock = some j) w w' := ⟨hg.os, hg.tape, hg.output, hg.size, fun j hj hs => hg.block j hj fun h => hs h.symm⟩
theorem Spare.below (a : Spare S w w') (hS : ∀ j, S j → B ≤ j) (hB : B ≤ w.heap.size) : Below B w w' := ⟨a.os, a.tape, a.output, a.size, fun j hj => a.rest j (by omega) fun h => by have := hS j h; omega⟩
theorem Blk.spare (h : Blk w g T cs) (a : Spare S w w') (hg : ¬ S g) : Blk w' g T cs := (a.rest g h.lt hg).trans h
theorem Row.spare (h : Row w g xs) (a : Spare S w w') (hg : ¬ S g) : Row w' g xs := (a.rest g h.lt hg).trans h
theorem OwnK.spare (h : OwnK k e w base v xs) (a : Spare S w w') (hg : ∀ i, v.ownBlock = some i → ¬ S i) : OwnK k e w' base v xs := h.keep fun i _ hi hcs => a.rest i (Array.getElem?_eq_some_iff.1 hcs).1 (hg i hi)
theorem OwnZ.spare (h : OwnZ k e w base v xs) (a : Spare S w w') (hg : ∀ i, v.ownBlock = some i → ¬ S i) : OwnZ k e w' base v xs := h.keep fun i _ hi hcs => a.rest i (Array.getElem?_eq_some_iff.1 hcs).1 (hg i hi)
theorem OwnB.spare (h : OwnB Z w base v xs) (a : Spare S w w') (hg : ∀ i, v.ownBlock = some i → ¬ S i) : OwnB Z w' base v xs := h.keep fun i _ hi hcs => a.rest i (Array.getElem?_eq_some_iff.1 hcs).1 (hg i hi)
theorem OLst.spare (h : OLst Z w base v ps) (a : Spare S w w') (hv : ∀ i, v.ownBlock = some i → ¬ S i) (hp : ∀ p ∈ ps, ∀ i, (partV p).ownBlock = some i → ¬ S i) : OLst Z w' base v ps :=
  ⟨h.row.keep fun i _ hi hcs => a.rest i (Array.getElem?_eq_some_iff.1 hcs).1 (hv i hi), fun p hq => ⟨(h.each p hq).1.spare a (hp p hq), (h.each p hq).2⟩, h.apart⟩
theorem Wander.refl (w : World) (v : Value) : Wander w v v := fun i hi => .inl hi
theorem Wander.none (w : World) (v : Value) : Wander w v (.slice none 0 0) := fun i hi => by cases hi
theorem Away.nil (v : Value) : Away [] v := fun p hp => by cases hp
/-- rows that were there, and new ones, while an object's row wanders -/
theorem Away.step (h : Away ps v) (hw : Wander w v v') (ho : OLst Z w base u ps) (hq : Away qs v') : Away (ps ++ qs) v' := fun p hp i hi hv => by
  rcases List.mem_append.1 hp with hp | hp
  · rcases hw i hv with h1 | h1
    · exact h p hp i hi h1
    · obtain ⟨_, cs', hcs⟩ := (ho.each p hp).1.1.block hi
      have := (Array.getElem?_eq_some_iff.1 hcs).1
      omega
  · exact hq p hp i hi hv
end
section
variable {w : World} {ops : Array Oper} {rest : List Oper} {o : Oper} {a : Act} {Q : Exit → Act → World → Prop}
end
end Go.Proofs.YtdgpbhdihhchgaaGreatDoor

namespace Go.Proofs.YtdgpbhdihhchgaaGreatDoor
set_option linter.all false
set_option maxRecDepth 100000
open Go.RowKit
set_option linter.unusedVariables false
section
variable {α : Type} {f : α → Value} {S : Nat → Prop} {w w' : World} {base base' g : Nat} {e e' T : TypeId} {cs : List Value} {v v' u : Value} {xs : List α} {β : Type} {h' : β → Value} {ys : List β}
theorem OwnF.sparS (h : OwnF f e w base v xs) (a : Spare S w w') (hg : ∀ i, v.ownBlock = some i → ¬ S i) : OwnF f e w' base v xs := h.keep fun i _ hi hcs => a.rest i (Array.getElem?_eq_some_iff.1 hcs).1 (hg i hi)
theorem Wander.of_whither (h : Whither w v v') : Wander w v v' := fun i hi => by
  rcases h with h1 | ⟨g, h1, h2⟩
  · exact .inl (h1 ▸ hi)
  · rw [h1] at hi
    injection hi with hi
    subst hi
    exact .inr h2
theorem Wander.trans {v2 : Value} (h : Wander w v v') (k : Wander w' v' v2) (hs : w.heap.size ≤ w'.heap.size) : Wander w v v2 := fun i hi => by
  rcases k i hi with h1 | h1
  · exact h i h1
  · exact .inr (by omega)
theorem Wander.cut {A : Option Addr} {n c m : Nat} (w : World) : Wander w (.slice A n c) (.slice A m c) := fun i hi => .inl (by cases A with | none => cases hi | some a => exact hi)
end
section
variable {α : Type} {f : α → Value} {P : Program} {w : World} {ops : Array Oper} {rest : List Oper} {o : Oper} {a : Act} {Q : Exit → Act → World → Prop}
end
end Go.Proofs.YtdgpbhdihhchgaaGreatDoor

namespace Go.Proofs.YtdgpbhdihhchgaaGreatDoor
set_option linter.all false
set_option maxRecDepth 100000
open Go.RowKit
set_option linter.unusedVariables false
/-- block g is the document's file, its bytes and what was written in rows that vB and vZ head, in blocks from base on -/
structure RDat (w : World) (base g : Nat) (vB vZ : Value) (B : List Int) (Z : List Bool) : Prop where
  ge : base ≤ g
  blk : Blk w g 104 [vB, vZ]
  rowB : OwnF (Value.int .u8) 5 w base vB B
  rowZ : OwnF Value.bool 4 w base vZ Z
  len : B.length = Z.length
  small : B.length ≤ 65536
  byte : Bytes B
def rdS (g : Nat) (vB vZ : Value) : Nat → Prop := fun j => j = g ∨ vB.ownBlock = some j ∨ vZ.ownBlock = some j
section
variable {w w' : World} {base base' g : Nat} {vB vZ : Value} {B : List Int} {Z : List Bool} {S : Nat → Prop}
theorem RDat.spare (h : RDat w base g vB vZ B Z) (a : Spare S w w') (hs : ∀ j, rdS g vB vZ j → ¬ S j) : RDat w' base g vB vZ B Z :=
  ⟨h.ge, h.blk.spare a (hs g (.inl rfl)), h.rowB.sparS a fun i hi => hs i (.inr (.inl hi)), h.rowZ.sparS a fun i hi => hs i (.inr (.inr hi)), h.len, h.small, h.byte⟩
theorem RDat.below (h : RDat w base g vB vZ B Z) (hb : Below w.heap.size w w') : RDat w' base g vB vZ B Z := ⟨h.ge, h.blk.over hb, h.rowB.below hb, h.rowZ.below hb, h.len, h.small, h.byte⟩
theorem RDat.set_ge (h : RDat w base g vB vZ B Z) : ∀ j, rdS g vB vZ j → base ≤ j := fun j hj => by
  rcases hj with rfl | hj | hj
  · exact h.ge
  · exact (h.rowB.block hj).1
  · exact (h.rowZ.block hj).1
theorem RDat.set_lt (h : RDat w base g vB vZ B Z) : ∀ j, rdS g vB vZ j → j < w.heap.size := fun j hj => by
  rcases hj with rfl | hj | hj
  · exact h.blk.lt
  · exact h.rowB.lt hj
  · exact h.rowZ.lt hj
theorem RDat.holds (h : RDat w base g vB vZ B Z) : ∃ A c, vB = .slice A B.length c ∧ Holds w w.heap.size A B.length c B := Own.holds (show Own w base vB B from h.rowB) h.byte (by have := h.small; omega)
end
theorem Holds.amidE {w : World} {B b off n c p N : Nat} {xs : List Int} (h : Holds w B (some ⟨b, off, none⟩) n c xs) (hN : p + N ≤ n) (h0 : 0 < N) (C : Nat) (hC : N ≤ C) : Holds w B (some ⟨b, off + p, none⟩) N C ((xs.drop p).take N) := by
  have hl := h.len
  have hf := h.fit
  have hr := h.room
  refine ⟨by simp; omega, hC, by omega, (h.byte.drop _).take _, (fun hA => by cases hA), fun _ => ?_⟩
  obtain ⟨b1, off1, e, hb, hc⟩ := h.cells (by omega)
  injection e with e
  injection e with e1 e2
  subst e1 e2
  refine ⟨b, off + p, rfl, hb, fun i hi => ?_⟩
  rw [Nat.add_assoc, hc (p + i) (by omega)]
  simp [List.getD_eq_getElem?_getD, hi]
end Go.Proofs.YtdgpbhdihhchgaaGreatDoor

namespace Go.Proofs.YtdgpbhdihhchgaaGreatDoor
set_option linter.all false
open Go.RowKit
theorem extract_mk (s : ByteArray) (a b : Nat) : s.extract a b = ⟨((s.data.toList.drop a).take (b - a)).toArray⟩ := by
  apply ByteArray.ext
  rw [← Lib.extract_eq]
/-- what a cut answers -/
def PCutPost (w : World) (l : List UInt8) (e : Ending) (w' : World) : Prop := e = .returned (.tuple #[.string ⟨(headN l).toArray⟩, .string ⟨(restP l).toArray⟩, .bool (moreP l)]) ∧ Below w.heap.size w w'
set_option maxHeartbeats 1000000 in
theorem SCut_any (s : ByteArray) (w : World) (hs : s.size ≤ 140737488355328) :
    Calls Tryz.prog 137 #[.string s, .string ⟨#[92]⟩] w (PCutPost w s.data.toList) := by
  have c1 := Tryz.stringslite_Index_one s 92 w
  have hge := Lib.indexByte_ge s.data.toList 92
  have hq : ∀ e w', (e = .returned (.tuple #[.string ⟨(headN s.data.toList).toArray⟩, .string ⟨(restP s.data.toList).toArray⟩, .bool (moreP s.data.toList)]) ∧ Below w.heap.size w w') → PCutPost w s.data.toList e w' := fun _ _ h => h
  by_cases h : Lib.indexByte s.data.toList 92 = -1
  · have hn : ∀ b ∈ s.data.toList, b ≠ 92 := by
      rintro b hb rfl
      obtain ⟨k, hk⟩ := List.getElem?_of_mem hb
      exact Lib.indexByte_none h k hk
    obtain ⟨h1, h2, h3⟩ := cut_plain hn
    rw [h1, h2, h3, show (⟨s.data.toList.toArray⟩ : ByteArray) = s from rfl] at hq
    rw [h] at c1
    have C1 := Lib.hid c1
    have HQ := Lib.hid hq
    clear c1 hq h hn h1 h2 h3 hge
    go_enter Tryz.func137, Tryz.ntmps137
    go_wp2_with fail
    refine C1.out.mono ?_
    rintro e w1 ⟨rfl, rfl⟩
    go_wp2
    go_ret3
    exact HQ.out _ _ ⟨rfl, Below.refl _ _⟩
  · obtain ⟨o, ho⟩ := Int.eq_ofNat_of_zero_le (show 0 ≤ Lib.indexByte s.data.toList 92 by omega)
    obtain ⟨g1, g2⟩ := Lib.indexByte_some ho
    have hol : o < s.data.toList.length := (List.getElem?_eq_some_iff.1 g1).1
    have hos : o < s.size := by rw [Lib.size_eq]; exact hol
    have hcut : s.data.toList = s.data.toList.take o ++ 92 :: s.data.toList.drop (o + 1) := by
      have h1 : s.data.toList[o] = 92 := (List.getElem?_eq_some_iff.1 g1).2
      rw [← h1, ← List.drop_eq_getElem_cons hol, List.take_append_drop]
    have hb : ∀ b ∈ s.data.toList.take o, b ≠ 92 := by
      rintro b hb rfl
      obtain ⟨k, hk⟩ := List.getElem?_of_mem hb
      rw [List.getElem?_take] at hk
      split at hk
      · exact g2 k (by assumption) hk
      · cases hk
    obtain ⟨h1, h2, h3⟩ := cut_more (r := s.data.toList.drop (o + 1)) hb
    rw [← hcut] at h1 h2 h3
    have e1 := extract_mk s 0 o
    have e2 := extract_mk s (o + 1) s.size
    rw [List.drop_zero, Nat.sub_zero, ← h1] at e1
    rw [List.take_of_length_le (by rw [List.length_drop, ← Lib.size_eq]; omega), ← h2] at e2
    rw [← e1, ← e2, h3] at hq
    rw [ho] at c1
    have C1 := Lib.hid c1
    have HQ := Lib.hid hq
    have hw : Below w.heap.size w w := Below.refl _ _
    clear c1 hq h g1 g2 hol hcut hb h1 h2 h3 e1 e2 hge ho
    go_enter Tryz.func137, Tryz.ntmps137
    go_wp2_with fail
    refine C1.out.mono ?_
    rintro e w1 ⟨rfl, rfl⟩
    go_wp2
    go_quiet (fail)
    go_wp2
    go_ret3
    exact HQ.out _ _ ⟨rfl, drewed _ _⟩
set_option maxHeartbeats 400000 in
theorem Cut_any (s : ByteArray) (w : World) (hs : s.size ≤ 140737488355328) :
    Calls Tryz.prog 88 #[.string s, .string ⟨#[92]⟩] w (PCutPost w s.data.toList) := by
  have c1 := SCut_any s w hs
  have hq : ∀ e w', (e = .returned (.tuple #[.string ⟨(headN s.data.toList).toArray⟩, .string ⟨(restP s.data.toList).toArray⟩, .bool (moreP s.data.toList)]) ∧ Below w.heap.size w w') → PCutPost w s.data.toList e w' := fun _ _ h => h
  unfold PCutPost at c1
  obtain ⟨X, hX⟩ : ∃ X : ByteArray, X = ⟨(headN s.data.toList).toArray⟩ := ⟨_, rfl⟩
  obtain ⟨Y, hY⟩ : ∃ X : ByteArray, X = ⟨(restP s.data.toList).toArray⟩ := ⟨_, rfl⟩
  obtain ⟨b, hb⟩ : ∃ b, b = moreP s.data.toList := ⟨_, rfl⟩
  rw [← hX, ← hY, ← hb] at c1 hq
  have C1 := Lib.hid c1
  have HQ := Lib.hid hq
  clear c1 hq hX hY hb
  go_enter Tryz.func88, Tryz.ntmps88
  go_wp2_with fail
  refine C1.out.mono ?_
  rintro e w1 ⟨rfl, hb1⟩
  go_wp2
  go_ret3
  exact HQ.out _ _ ⟨rfl, hb1⟩
set_option maxHeartbeats 400000 in
theorem PClone_any (s : ByteArray) (w : World) (hs : s.size ≤ 140737488355328) :
    Calls Tryz.prog 90 #[.string s] w fun e w' => e = .returned (.string s) ∧ Below w.heap.size w w' := by
  have c1 := Lib.hid (Tryz.stringslite_Clone s w (by omega))
  go_enter Tryz.func90, Tryz.ntmps90
  go_wp2_with fail
  refine c1.out.mono ?_
  rintro e w1 ⟨rfl, hb1⟩
  go_wp2
  go_ret
  exact ⟨rfl, hb1⟩
theorem textErr_zeroP (l : List UInt8) : (textErr l == 0) = isText l := by
  unfold textErr
  cases isText l <;> rfl
set_option maxHeartbeats 400000 in
theorem PIsText_any (s : ByteArray) (w : World) (hs : s.size ≤ 140737488355328) (hT : Tabs w) :
    Calls Tryz.prog 139 #[.string s] w fun e w' => e = .returned (.bool (isText s.data.toList)) ∧ Below w.heap.size w w' := by
  have c1 := Units_any s w hs hT
  rw [← textErr_zeroP]
  obtain ⟨U, hU⟩ : ∃ U, U = unitsOfL s.data.toList := ⟨_, rfl⟩
  obtain ⟨E, hE⟩ : ∃ E, E = textErr s.data.toList := ⟨_, rfl⟩
  rw [← hU, ← hE] at c1
  rw [← hE]
  have C1 := Lib.hid c1
  clear c1 hU hE
  go_enter Tryz.func139, Tryz.ntmps139
  go_wp2_with fail
  refine C1.out.mono ?_
  rintro e w1 ⟨rfl, hb1⟩
  go_wp2
  go_ret
  exact ⟨rfl, hb1⟩
theorem barB_sum (r : Int) : barB r = ((r == 92) || (r == 47) || (r == 58) || (r == 42) || (r == 63) || (r == 34) || (r == 60) || (r == 62) || (r == 124) || decide (r < 32)) := by
  unfold barB
  rw [Bool.eq_iff_iff]
  simp only [Bool.or_eq_true, beq_iff_eq, decide_eq_true_eq]
  omega
set_option maxHeartbeats 1000000 in
theorem PBarred_any (r : Int) (w : World) :
    Calls Tryz.prog 140 #[.int .i32 r] w fun e w' => e = .returned (.bool (barB r)) ∧ w = w' := by
  rw [barB_sum]
  by_cases h : r = 92 ∨ r = 47 ∨ r = 58 ∨ r = 42 ∨ r = 63 ∨ r = 34 ∨ r = 60 ∨ r = 62 ∨ r = 124
  · rcases h with rfl | rfl | rfl | rfl | rfl | rfl | rfl | rfl | rfl
    all_goals
      go_enter Tryz.func140, Tryz.ntmps140
      go_wp2
      go_ret
      exact ⟨rfl, rfl⟩
  · have h1 : (r == 92) = false := by simp; omega
    have h2 : (r == 47) = false := by simp; omega
    have h3 : (r == 58) = false := by simp; omega
    have h4 : (r == 42) = false := by simp; omega
    have h5 : (r == 63) = false := by simp; omega
    have h6 : (r == 34) = false := by simp; omega
    have h7 : (r == 60) = false := by simp; omega
    have h8 : (r == 62) = false := by simp; omega
    have h9 : (r == 124) = false := by simp; omega
    rw [h1, h2, h3, h4, h5, h6, h7, h8, h9]
    clear h
    go_enter Tryz.func140, Tryz.ntmps140
    go_wp2
    go_ret
    exact ⟨rfl, rfl⟩
end Go.Proofs.YtdgpbhdihhchgaaGreatDoor

namespace Go.Proofs.YtdgpbhdihhchgaaGreatDoor
set_option linter.all false
open Go.RowKit
/-- what a loop over the letters of a name answers, the last one having been given -/
def goName : Int → List Int → Bool
  | last, [] => !(last == 32) && !(last == 46)
  | _, r :: rs => if barB r = true then false else goName r rs
theorem goName_eq (last : Int) (rs : List Int) : goName last rs = (rs.all (fun r => !barB r) && (!((last :: rs).getD rs.length 0 == 32) && !((last :: rs).getD rs.length 0 == 46))) := by
  induction rs generalizing last with
  | nil => simp [goName]
  | cons r rs ih =>
    unfold goName
    rw [ih r]
    cases hb : barB r
    · simp [hb]
    · simp [hb]
theorem nameL_go {rs : List Int} (h1 : 1 ≤ rs.length) (h2 : rs.length ≤ 32) : nameL rs = goName 0 rs := by
  rw [nameL_cons, goName_eq, decide_eq_true h1, decide_eq_true h2]
  obtain ⟨r, rs, rfl⟩ : ∃ r q, rs = r :: q := by
    cases rs with
    | nil => simp at h1
    | cons r q => exact ⟨r, q, rfl⟩
  simp
set_option maxHeartbeats 2000000 in
theorem Name_any (s : ByteArray) (w : World) (hs : s.size ≤ 140737488355328) (hT : Tabs w) :
    Calls Tryz.prog 89 #[.string s] w fun e w' => e = .returned (.bool (nameOf s.data.toList)) ∧ Below w.heap.size w w' := by
  have c1 := Tryz.utf8_RuneCountInString s w (by omega)
  rw [runeCount_letters] at c1
  have c2 := fun w hT => Lib.hid (PIsText_any s w (by omega) hT)
  have c3 := fun r w => Lib.hid (PBarred_any r w)
  unfold nameOf
  by_cases ht' : isText s.data.toList = false
  · rw [ht'] at c2
    rw [ht', Bool.false_and]
    obtain ⟨L, hL⟩ : ∃ L, L = (letters s.data.toList).length := ⟨_, rfl⟩
    rw [← hL] at c1
    have C1 := Lib.hid c1
    clear c1 hL ht'
    go_enter Tryz.func89, Tryz.ntmps89
    go_wp2_with fail
    refine C1.out.mono ?_
    rintro e w1 ⟨rfl, pos, hw⟩
    have hb1 : Below w.heap.size w w1 := by
      rw [hw]
      exact (Below.refl _ _).alloc (Nat.le_refl _) _
    clear hw
    go_wp2_with fail
    refine (c2 _ (hT.below hb1)).out.mono ?_
    rintro e w2 ⟨rfl, hb2⟩
    go_wp2
    go_ret
    exact ⟨rfl, step hb1 hb2⟩
  have ht : isText s.data.toList = true := by simpa using ht'
  rw [ht] at c2
  rw [ht, Bool.true_and]
  have HT := Lib.hid ht
  clear ht ht'
  by_cases hn : 1 ≤ (letters s.data.toList).length ∧ (letters s.data.toList).length ≤ 32
  · obtain ⟨n1, n2⟩ := hn
    rw [nameL_go n1 n2]
    obtain ⟨L, hL⟩ : ∃ L, L = (letters s.data.toList).length := ⟨_, rfl⟩
    rw [← hL] at c1 n1 n2
    obtain ⟨R, hR⟩ : ∃ R, R = goName 0 (letters s.data.toList) := ⟨_, rfl⟩
    rw [← hR]
    have HR := Lib.hid hR
    have C1 := Lib.hid c1
    have t1 : 1 ≤ (L : Int) := by omega
    have t2 : (L : Int) ≤ 32 := by omega
    clear c1 hL hR
    go_enter Tryz.func89, Tryz.ntmps89
    go_wp2_with fail
    refine C1.out.mono ?_
    rintro e w1 ⟨rfl, pos, hw⟩
    have hb1 : Below w.heap.size w w1 := by
      rw [hw]
      exact (Below.refl _ _).alloc (Nat.le_refl _) _
    clear hw
    go_wp2_with fail
    refine (c2 _ (hT.below hb1)).out.mono ?_
    rintro e w2 ⟨rfl, hb2⟩
    have hB2 := step hb1 hb2
    have hs2 := hB2.size
    clear hb1 hb2 c2 C1
    go_wp2
    go_loopw [4, 6] (fun l _ wr => ∃ (pos : Nat) (last : Int), l = .int .i32 last ∧ wr.heap[w2.heap.size]? = some (.stringIter s pos) ∧ Below w.heap.size w wr ∧ Hid (goName last (letters (s.data.toList.drop pos)) = R) ∧ Hid (isText (s.data.toList.drop pos) = true) ∧ pos ≤ s.size) (fun _ _ wr => s.size - wr.iterPos w2.heap.size)
    case atStart =>
      refine ⟨0, 0, rfl, World.iter_heap w2 s 0, hB2.alloc hs2 _, ?_, HT, by omega⟩
      show _ = _
      rw [HR.out, List.drop_zero]
    case round =>
      obtain ⟨pos, last, rfl, hit, hb, HE, HX, hps⟩ := hrel
      have hK : w2.heap.size < wr.heap.size := (Array.getElem?_eq_some_iff.1 hit).1
      by_cases hp : pos < s.size
      · have hnx : ∀ ty, (Instr.next (.pointer (some ⟨w2.heap.size, 0, none⟩)) true ty).run Tryz.prog wr = _ := fun ty => Lib.run_next_any_at wr w2.heap.size s pos ty hit hp
        obtain ⟨q1, q2, q3⟩ := next_any s pos hp
        obtain ⟨m1, m2, m3⟩ := next_text s pos hp HX.out
        obtain ⟨c, hc⟩ : ∃ c : Int, c = ((Utf8.decode s pos).1 : Int) := ⟨_, rfl⟩
        obtain ⟨p', hp'⟩ : ∃ p', p' = pos + (Utf8.decode s pos).2 := ⟨_, rfl⟩
        rw [← hp'] at hnx q1 q3 m1 m2
        rw [← hc] at hnx m1 m3
        have hit2 := Lib.iterAt_heap wr w2.heap.size s pos p' hit
        have hb2 := Lib.below_iterAt hb (k := w2.heap.size) hs2 s p'
        have hpp : pos < p' := by omega
        have hE := HE.out
        rw [m1] at hE
        have HX' := Lib.hid m2
        obtain ⟨w3, hw3⟩ : ∃ w3, w3 = wr.iterAt w2.heap.size s p' := ⟨_, rfl⟩
        rw [← hw3] at hnx hit2 hb2
        have HI := Lib.hid hit2
        have HI0 := Lib.hid hit
        obtain ⟨r0, r1, r2⟩ := m3
        have c4 := c3 c w3
        have d4 := c4.out
        clear q1 q2 m1 m2 hc hp' hit hit2 hw3 c3 c4 HE
        cases hbc : barB c
        · have HE' : Hid (goName c (letters (s.data.toList.drop p')) = R) := by
            show _ = _
            rw [← hE, goName, hbc]
            rfl
          rw [hbc] at d4
          have D4 := Lib.hid d4
          clear d4 hE hbc
          go_wp2_with fail
          refine D4.out.mono ?_
          rintro e w4 ⟨rfl, rfl⟩
          go_wp2
          go_roundw
          case rel => exact ⟨p', c, rfl, HI.out, hb2, HE', HX', q3⟩
          case measure =>
            have h1 := HI.out
            have h0 := HI0.out
            simp only [World.iterPos, h0, h1]
            omega
        · have HE' : Hid (false = R) := by
            show _ = _
            rw [← hE, goName, hbc]
            rfl
          rw [hbc] at d4
          have D4 := Lib.hid d4
          clear d4 hE hbc
          go_wp2_with fail
          refine D4.out.mono ?_
          rintro e w4 ⟨rfl, rfl⟩
          go_wp2
          go_ret
          exact ⟨ret_bool HE'.out, hb2⟩
      · have hnx : ∀ ty, (Instr.next (.pointer (some ⟨w2.heap.size, 0, none⟩)) true ty).run Tryz.prog wr = _ := fun ty => Lib.run_next_end_at wr w2.heap.size s pos ty hit hp
        have hE := HE.out
        rw [next_end s pos hp] at hE
        by_cases e1 : last = 32
        · subst e1
          have HE' : Hid (false = R) := hE
          clear hE HE c3
          go_wp2
          go_ret
          exact ⟨ret_bool HE'.out, hb⟩
        · by_cases e2 : last = 46
          · subst e2
            have HE' : Hid (false = R) := hE
            clear hE HE c3
            go_wp2
            go_ret
            exact ⟨ret_bool HE'.out, hb⟩
          · have t3 : (last != 32) = true := by simpa using e1
            have t4 : (last != 46) = true := by simpa using e2
            have HE' : Hid (true = R) := by
              show _ = _
              rw [← hE]
              simp [goName, e1, e2]
            clear hE HE c3
            go_wp2
            go_ret
            exact ⟨ret_bool HE'.out, hb⟩
  · have hf : nameL (letters s.data.toList) = false := by
      rw [nameL_cons]
      rw [Bool.eq_false_iff]
      intro h
      simp only [Bool.and_eq_true, decide_eq_true_eq] at h
      exact hn ⟨h.1.1.1, h.1.1.2⟩
    rw [hf]
    obtain ⟨L, hL⟩ : ∃ L, L = (letters s.data.toList).length := ⟨_, rfl⟩
    rw [← hL] at c1 hn
    have C1 := Lib.hid c1
    clear c1 hL hf
    by_cases h1 : L < 1
    · obtain rfl : L = 0 := by omega
      go_enter Tryz.func89, Tryz.ntmps89
      go_wp2_with fail
      refine C1.out.mono ?_
      rintro e w1 ⟨rfl, pos, hw⟩
      have hb1 : Below w.heap.size w w1 := by
        rw [hw]
        exact (Below.refl _ _).alloc (Nat.le_refl _) _
      clear hw
      go_wp2_with fail
      refine (c2 _ (hT.below hb1)).out.mono ?_
      rintro e w2 ⟨rfl, hb2⟩
      go_wp2
      go_ret
      exact ⟨rfl, step hb1 hb2⟩
    · have hgt : 32 < (L : Int) := by omega
      have hge : 1 ≤ (L : Int) := by omega
      clear hn h1
      go_enter Tryz.func89, Tryz.ntmps89
      go_wp2_with fail
      refine C1.out.mono ?_
      rintro e w1 ⟨rfl, pos, hw⟩
      have hb1 : Below w.heap.size w w1 := by
        rw [hw]
        exact (Below.refl _ _).alloc (Nat.le_refl _) _
      clear hw
      go_wp2_with fail
      refine (c2 _ (hT.below hb1)).out.mono ?_
      rintro e w2 ⟨rfl, hb2⟩
      go_wp2
      go_ret
      exact ⟨rfl, step hb1 hb2⟩
end Go.Proofs.YtdgpbhdihhchgaaGreatDoor

namespace Go.Proofs.YtdgpbhdihhchgaaGreatDoor
set_option linter.all false
open Go.RowKit
/-- a text as a value -/
def strV (p : List UInt8) : Value := .string ⟨p.toArray⟩
theorem strV_one (p : List UInt8) : (strV p).oneCell' = true := rfl
theorem mk_size (l : List UInt8) : (⟨l.toArray⟩ : ByteArray).size = l.length := by simp [ByteArray.size]
theorem info_str : (Tryz.prog.info? 9).map (fun i => (i.zero, i.size, i.bytes)) = some (some (.string ⟨#[]⟩), 1, 16) := by kernel_rfl
def strSize : Value → Nat
  | .string s => s.size
  | _ => 0
def boolNat : Value → Nat
  | .bool true => 1
  | _ => 0
/-- what Parse answers -/
def ParsePost (w : World) (l : List UInt8) (e : Ending) (w' : World) : Prop :=
  ∃ v, e = .returned (.tuple #[v, .int .i64 (parseErr l)]) ∧ OwnF strV 9 w' w.heap.size v (parseOf l) ∧ Below w.heap.size w w'
theorem parse_bad {l ps p qs} (h : ps ++ p :: qs = partsOf l) (hp : nameOf p = false) : parseErr l = 2 ∧ parseOf l = [] := by
  have h1 : parseErr l = 2 := namesErr_bad (p := p) (by rw [← h]; simp) hp
  exact ⟨h1, parseOf_bad (by omega)⟩
theorem parse_end {l ps} (h : ps ++ [] = partsOf l) (hp : ∀ p ∈ ps, nameOf p = true) : parseErr l = (if 8 < ps.length then 3 else 0) ∧ parseOf l = (if 8 < ps.length then [] else ps.take 8) := by
  rw [List.append_nil] at h
  have h1 : parseErr l = if 8 < ps.length then 3 else 0 := by unfold parseErr; rw [← h]; exact namesErr_all hp
  refine ⟨h1, ?_⟩
  by_cases h8 : 8 < ps.length
  · rw [if_pos h8] at h1 ⊢
    exact parseOf_bad (by omega)
  · rw [if_neg h8] at h1 ⊢
    unfold parseOf
    rw [if_pos h1, ← h, List.take_of_length_le (by omega)]
set_option maxRecDepth 100000 in
set_option maxHeartbeats 2000000 in
theorem Parse_any (s : ByteArray) (w : World) (hs : s.size ≤ 140737488355328) (hT : Tabs w) :
    Calls Tryz.prog 41 #[.string s] w (ParsePost w s.data.toList) := by
  have c1 := fun (s : ByteArray) (w : World) hs => Lib.hid (Cut_any s w hs)
  have c2 := fun (s : ByteArray) (w : World) hs hT => Lib.hid (Name_any s w hs hT)
  have c3 := fun (s : ByteArray) (w : World) hs => Lib.hid (PClone_any s w hs)
  have hq : ∀ (n : Int) ps, parseErr s.data.toList = n → parseOf s.data.toList = ps → ∀ e w', (∃ v, e = .returned (.tuple #[v, .int .i64 n]) ∧ OwnF strV 9 w' w.heap.size v ps ∧ Below w.heap.size w w') → ParsePost w s.data.toList e w' := fun n ps hn hp e w' h => by
    unfold ParsePost
    rw [hn, hp]
    exact h
  have HQ := Lib.hid hq
  have h0 := parts_rest s.data.toList
  have hne : decide (s.data.toList ≠ []) = (!s.toList.isEmpty) := by
    rw [Lib.toList_data]
    cases s.data.toList <;> rfl
  rw [hne] at h0
  obtain ⟨m0, hm0⟩ : ∃ m0, m0 = (!s.toList.isEmpty) := ⟨_, rfl⟩
  rw [← hm0] at h0
  have H0 := Lib.hid h0
  clear hq h0 hne
  go_enter Tryz.func41, Tryz.ntmps41
  go_wp2
  go_step3
  go_wp2
  go_step3
  go_wp2
  go_loopw [4, 5, 6, 7, 8] (fun v e r m _ wr => ∃ (n : Int) (rest : ByteArray) (more : Bool) (ps : List (List UInt8)), e = .int .i64 n ∧ r = .string rest ∧ m = .bool more ∧ Hid (OwnF strV 9 wr w.heap.size v (ps.take 8)) ∧ Hid (Below w.heap.size w wr) ∧ Hid (ps ++ restQ more rest.data.toList = partsOf s.data.toList) ∧ Hid (∀ p ∈ ps, nameOf p = true) ∧ Hid (n = if 8 < ps.length then 3 else 0) ∧ rest.size ≤ s.size) (fun _ _ r m _ _ => 2 * strSize r + boolNat m)
  case atStart =>
    refine ⟨0, s, _, [], rfl, rfl, rfl, OwnF.nil _ _ _ _, Below.refl _ _, ?_, (fun p hp => by cases hp), rfl, Nat.le_refl _⟩
    rw [← hm0]
    exact H0.out.symm
  case round =>
    obtain ⟨n, rest, more, ps, rfl, rfl, rfl, HO, HBl, HP, HN, HE, hrs⟩ := hrel
    have hbs := HBl.out.size
    clear hm0 H0
    cases more
    · obtain ⟨h1, h2⟩ := parse_end HP.out HN.out
      rw [← HE.out] at h1
      by_cases h8 : 8 < ps.length
      · rw [if_pos h8] at h2
        have hn : n = 3 := by rw [HE.out, if_pos h8]
        rw [hn] at h1
        have HF := Lib.hid (HQ.out _ _ h1 h2)
        subst hn
        clear HO h1 h2 h8 HP HN HE HQ c1 c2 c3
        go_wp2
        rw [Exit.noGoto_ret]
        go_ret2
        exact HF.out _ _ ⟨_, rfl, OwnF.nil _ _ _ _, HBl.out⟩
      · rw [if_neg h8] at h2
        have hn : n = 0 := by rw [HE.out, if_neg h8]
        rw [hn] at h1
        have HF := Lib.hid (HQ.out _ _ h1 h2)
        subst hn
        clear h1 h2 h8 HP HN HE HQ c1 c2 c3
        go_wp2
        rw [Exit.noGoto_ret]
        go_ret2
        exact HF.out _ _ ⟨_, rfl, HO.out, HBl.out⟩
    · have hsp := cut_split rest.data.toList
      have hhl := head_le rest.data.toList
      have hrl := rest_le (l := rest.data.toList)
      have d1 := c1 rest wr (by omega)
      unfold PCutPost at d1
      rw [← Lib.size_eq] at hhl
      have hP := HP.out
      rw [show restQ true rest.data.toList = splitB rest.data.toList from rfl, hsp] at hP
      have hnn : rest.data.toList = [] → headN rest.data.toList = [] := fun h => by rw [h]; rfl
      obtain ⟨P, hPP⟩ : ∃ P, P = headN rest.data.toList := ⟨_, rfl⟩
      obtain ⟨T, hTT⟩ : ∃ T, T = restP rest.data.toList := ⟨_, rfl⟩
      obtain ⟨m, hm⟩ : ∃ m, m = moreP rest.data.toList := ⟨_, rfl⟩
      rw [← hPP, ← hTT, ← hm] at d1
      rw [← hPP] at hhl hnn
      rw [← hTT] at hrl
      rw [← hPP, ← hTT, ← hm] at hP
      have d2 := fun w hT => c2 ⟨P.toArray⟩ w (by rw [mk_size]; omega) hT
      have d3 := fun w => c3 ⟨P.toArray⟩ w (by rw [mk_size]; omega)
      rw [show (⟨P.toArray⟩ : ByteArray).data.toList = P from rfl] at d2
      have HP2 := Lib.hid hP
      have D1 := Lib.hid d1.out
      clear hsp d1 hPP hTT hm hP HP c1 c2 c3
      by_cases hnm : nameOf P = true
      · rw [hnm] at d2
        have hTl : T.length < rest.size := by
          rw [Lib.size_eq]
          refine hrl fun h => ?_
          exact name_ne hnm (hnn h)
        have HP3 : Hid ((ps ++ [P]) ++ restQ m (⟨T.toArray⟩ : ByteArray).data.toList = partsOf s.data.toList) := by
          show _ = _
          rw [← HP2.out, List.append_assoc]
          rfl
        have HN3 : Hid (∀ p ∈ ps ++ [P], nameOf p = true) := fun p hp => by
          rcases List.mem_append.1 hp with hp | hp
          · exact HN.out p hp
          · rw [List.mem_singleton.1 hp]; exact hnm
        have hms : 2 * (⟨T.toArray⟩ : ByteArray).size + boolNat (.bool m) < 2 * rest.size + 1 := by
          rw [mk_size]
          cases m <;> simp [boolNat] <;> omega
        have hTs : (⟨T.toArray⟩ : ByteArray).size ≤ s.size := by rw [mk_size]; omega
        obtain ⟨Y, hY⟩ : ∃ Y : ByteArray, Y = ⟨T.toArray⟩ := ⟨_, rfl⟩
        rw [← hY] at D1 HP3 hms hTs
        have HMS := Lib.hid hms
        obtain ⟨A, k, c, rfl, hk, hkc, h63, _, _⟩ := HO.out.open
        have HK := Lib.hid hk
        clear hY hnm hnn hrl hhl HP2 HN hk hms
        by_cases h8 : 8 ≤ ps.length
        · have hk8 : k = 8 := by have := HK.out; rw [List.length_take] at this; omega
          have t8 : ((k : Int) == 8) = true := by rw [hk8]; rfl
          have HO3 : Hid (OwnF strV 9 wr w.heap.size (.slice A k c) ((ps ++ [P]).take 8)) := by
            rw [List.take_append_of_le_length h8]
            exact HO.out
          have HE3 : Hid ((3 : Int) = if 8 < (ps ++ [P]).length then 3 else 0) := by
            show _ = _
            rw [if_pos (by simp; omega)]
          clear HO HE HK hk8 h8 d3 HQ
          go_wp2_with fail
          refine D1.out.mono ?_
          rintro e w1 ⟨rfl, hb1⟩
          have hT1 : Tabs w1 := (hT.below HBl.out).below hb1
          go_wp2_with fail
          refine (d2 _ hT1).out.mono ?_
          rintro e w2 ⟨rfl, hb2⟩
          have hb12 := step hb1 hb2
          go_wp2
          go_roundw
          case rel => exact ⟨3, Y, m, ps ++ [P], rfl, rfl, rfl, HO3.out.below hb12, HBl.out.trans (hb12.mono hbs), HP3, HN3, HE3, hTs⟩
          case measure => simpa [strSize, boolNat] using HMS.out
        · have hk8 : k = ps.length := by have := HK.out; rw [List.length_take] at this; omega
          have t8 : ((k : Int) == 8) = false := by rw [hk8, beq_eq_false_iff_ne]; omega
          have hE3 : (n = if 8 < (ps ++ [P]).length then 3 else 0) := by
            rw [HE.out, if_neg (by omega), if_neg (by simp; omega)]
          have htk : (ps ++ [P]).take 8 = ps.take 8 ++ [P] := by
            rw [List.take_of_length_le (by simp; omega), List.take_of_length_le (by omega)]
          have hle8 : (ps.take 8).length ≤ 8 := by rw [List.length_take]; omega
          have HE3 := Lib.hid hE3
          have HTK := Lib.hid htk
          clear HE HK hk8 h8 HQ hE3 htk
          go_wp2_with fail
          refine D1.out.mono ?_
          rintro e w1 ⟨rfl, hb1⟩
          have hT1 : Tabs w1 := (hT.below HBl.out).below hb1
          go_wp2_with fail
          refine (d2 _ hT1).out.mono ?_
          rintro e w2 ⟨rfl, hb2⟩
          go_wp2_with fail
          refine (d3 _).out.mono ?_
          rintro e w3 ⟨rfl, hb3⟩
          have hb13 := step (step hb1 hb2) hb3
          have HO3 := Lib.hid (HO.out.below hb13)
          have hbs3 := hb13.size
          clear HO d2 d3 D1
          go_wp2_with (first
            | (at_builtin; go_loud (refine wpList_append_litF rfl (.tmp 19) (.tmp 22) strV strV_one (.string ⟨#[]⟩) rfl 78 9 16 Tryz.underlying78 info_str rfl w.heap.size _ (ps.take 8) [P] _ rfl 1 1 rfl rfl rfl HO3.out (by omega) (by omega) (by omega) ?_; intro v1 w4 ho4 hg4 hw4))
            | fail)
          have hb4 := hg4.out.belowF HO3.out (by omega)
          have HO4 : Hid (OwnF strV 9 w4 w.heap.size v1 ((ps ++ [P]).take 8)) := by rw [HTK.out]; exact ho4.out
          clear ho4 hg4 hw4
          go_roundw
          case rel => exact ⟨n, Y, m, ps ++ [P], rfl, rfl, rfl, HO4, (HBl.out.trans (hb13.mono hbs)).trans hb4, HP3, HN3, HE3, hTs⟩
          case measure => simpa [strSize, boolNat] using HMS.out
      · have hnm' : nameOf P = false := by simpa using hnm
        rw [hnm'] at d2
        obtain ⟨h1, h2⟩ := parse_bad HP2.out hnm'
        have HF := Lib.hid (HQ.out _ _ h1 h2)
        obtain ⟨Y, hY⟩ : ∃ Y : ByteArray, Y = ⟨T.toArray⟩ := ⟨_, rfl⟩
        rw [← hY] at D1
        clear HO HE HQ d3 h1 h2 hY hnm hnm' hnn hrl hhl HP2 HN
        go_wp2_with fail
        refine D1.out.mono ?_
        rintro e w1 ⟨rfl, hb1⟩
        have hT1 : Tabs w1 := (hT.below HBl.out).below hb1
        go_wp2_with fail
        refine (d2 _ hT1).out.mono ?_
        rintro e w2 ⟨rfl, hb2⟩
        have hb12 := step hb1 hb2
        go_wp2
        rw [Exit.noGoto_ret]
        go_ret2
        exact HF.out _ _ ⟨_, rfl, OwnF.nil _ _ _ _, HBl.out.trans (hb12.mono hbs)⟩
end Go.Proofs.YtdgpbhdihhchgaaGreatDoor

namespace Go.Proofs.YtdgpbhdihhchgaaGreatDoor
set_option linter.all false
open Go.RowKit
theorem join_lib (ps : List (List UInt8)) : Lib.join ps [92] = joinB ps := by
  induction ps with
  | nil => rfl
  | cons p ps ih =>
    by_cases h : ps = []
    · subst h
      exact Lib.join_one p [92]
    · obtain ⟨q, qs, rfl⟩ : ∃ q qs, ps = q :: qs := by
        cases ps with
        | nil => exact absurd rfl h
        | cons q qs => exact ⟨q, qs, rfl⟩
      rw [join_cons p h, ← ih, Lib.join_cons, Lib.join_cons]
      simp [Lib.joinTail]
theorem joinB_le (ps : List (List UInt8)) (m : Nat) (h : ∀ p ∈ ps, p.length ≤ m) : (joinB ps).length ≤ ps.length * (m + 1) := by
  induction ps with
  | nil => simp [joinB]
  | cons p ps ih =>
    have h1 := h p List.mem_cons_self
    have h2 := ih fun q hq => h q (List.mem_cons_of_mem _ hq)
    by_cases hn : ps = []
    · subst hn
      show p.length ≤ _
      simp
      omega
    · rw [join_cons p hn, List.length_append, List.length_cons, List.length_cons, Nat.add_mul]
      omega
theorem HoldsF.pre {α : Type} {f : α → Value} {w : World} {B : Nat} {A : Option Addr} {n c m : Nat} {xs : List α} (h : HoldsF f w B A n c xs) (hm : m ≤ n) : HoldsF f w B A m c (xs.take m) :=
  ⟨by have := h.len; simp; omega, by have := h.fit; omega, h.bare, fun h0 => by
    obtain ⟨b, off, rfl, hb, hc⟩ := h.cells (by omega)
    refine ⟨b, off, rfl, hb, fun i x hi => hc i x ?_⟩
    rw [List.getElem?_take] at hi
    split at hi
    · exact hi
    · cases hi⟩
theorem SJoin_any (w : World) (A : Option Addr) (n c : Nat) (xs : List (List UInt8)) (hx : HoldsF strV w w.heap.size A n c xs) (hn : xs.length ≤ 1000) (hl : ∀ p ∈ xs, p.length ≤ 1000) :
    Calls Tryz.prog 99 #[.slice A n c, .string ⟨#[92]⟩] w fun e w' => e = .returned (.string ⟨(joinB xs).toArray⟩) ∧ Below w.heap.size w w' := by
  by_cases h0 : n = 0
  · subst h0
    obtain rfl : xs = [] := List.eq_nil_of_length_eq_zero hx.len
    exact (Tryz.strings_Join_none A c ⟨#[92]⟩ w).mono fun e w' ⟨he, hw⟩ => ⟨he, hw ▸ Below.refl _ _⟩
  · obtain ⟨b, off, rfl, hb, hc⟩ := hx.cells (by omega)
    have hmm : (xs.map fun p => (⟨p.toArray⟩ : ByteArray)).map (·.data.toList) = xs := by
      rw [List.map_map]
      exact List.map_id xs
    have e1 : (⟨#[92]⟩ : ByteArray).data.toList = [92] := rfl
    have := Tryz.strings_Join b off c (xs.map fun p => ⟨p.toArray⟩) ⟨#[92]⟩ w (fun j x hj => by
      rw [List.getElem?_map] at hj
      cases hp : xs[j]? with
      | none => rw [hp] at hj; cases hj
      | some p =>
        rw [hp] at hj
        cases hj
        exact hc j p hp) hb (by rw [List.length_map]; omega) (by rw [List.length_map, hx.len]; exact hx.fit) (by
      rw [hmm, e1, join_lib]
      have h1 := joinB_le xs 1000 hl
      have h2 : xs.length * (1000 + 1) ≤ 1000 * 1001 := Nat.mul_le_mul hn (Nat.le_refl _)
      omega)
    rw [hmm, e1, join_lib, List.length_map, hx.len] at this
    exact this
/-- what Join answers -/
def JoinPost (w : World) (xs : List (List UInt8)) (e : Ending) (w' : World) : Prop := e = .returned (.tuple #[.string ⟨(joinOf xs).toArray⟩, .int .i64 (namesErr xs)]) ∧ Below w.heap.size w w'
theorem joinOf_bad {xs : List (List UInt8)} (h : namesErr xs ≠ 0) : joinOf xs = [] := if_neg h
set_option maxRecDepth 100000 in
set_option maxHeartbeats 2000000 in
theorem Join_any (w : World) (A : Option Addr) (n c : Nat) (xs : List (List UInt8)) (hx : HoldsF strV w w.heap.size A n c xs) (hl : ∀ p ∈ xs, p.length ≤ 140737488355328) (hT : Tabs w) (hn63 : n ≤ 9223372036854775807) :
    Calls Tryz.prog 51 #[.slice A n c] w (JoinPost w xs) := by
  have c2 := fun (s : ByteArray) (w : World) hs hT => Lib.hid (Name_any s w hs hT)
  have c4 := fun (s : ByteArray) (w : World) hs => Lib.hid (PClone_any s w hs)
  have hq : ∀ (p : List UInt8) (m : Int), joinOf xs = p → namesErr xs = m → ∀ e w', e = .returned (.tuple #[.string ⟨p.toArray⟩, .int .i64 m]) ∧ Below w.heap.size w w' → JoinPost w xs e w' := fun p m hp hm e w' h => by
    unfold JoinPost
    rw [hp, hm]
    exact h
  have HQ := Lib.hid hq
  have HX := Lib.hid hx
  have hxl := hx.len
  have HXL := Lib.hid hxl
  clear hq hx hxl
  go_enter Tryz.func51, Tryz.ntmps51
  go_wp2
  go_loopw [5, 8] (fun _ i wr => ∃ k : Nat, i = .int .i64 k ∧ k ≤ n ∧ Hid (Below w.heap.size w wr) ∧ Hid (∀ p ∈ xs.take k, nameOf p = true)) (fun _ i _ => n - (intOf i).toNat)
  case atStart => exact ⟨0, rfl, Nat.zero_le _, Below.refl _ _, fun p hp => by simp at hp⟩
  case round =>
    obtain ⟨k, rfl, hk, HBl, HN⟩ := hrel
    by_cases hlt : k < n
    · obtain ⟨b, off, rfl, hbk, hc⟩ := (HX.out.below HBl.out).cells (by omega)
      have hkx : k < xs.length := by have := HXL.out; omega
      obtain ⟨p, hp⟩ : ∃ p, p = xs[k] := ⟨_, rfl⟩
      have gc := hc k p (by rw [hp]; exact List.getElem?_eq_getElem hkx)
      have hpl : p.length ≤ 140737488355328 := hl p (by rw [hp]; exact List.getElem_mem hkx)
      have htk : xs.take (k + 1) = xs.take k ++ [p] := by rw [hp]; exact List.take_succ_eq_append_getElem hkx
      have hpm : p ∈ xs := by rw [hp]; exact List.getElem_mem hkx
      unfold strV at gc
      have d2 := c2 ⟨p.toArray⟩ wr (by rw [mk_size]; exact hpl) (hT.below HBl.out)
      rw [show (⟨p.toArray⟩ : ByteArray).data.toList = p from rfl] at d2
      clear hc hp hkx c2 c4
      by_cases hnm : nameOf p = true
      · rw [hnm] at d2
        have HN2 : Hid (∀ p ∈ xs.take (k + 1), nameOf p = true) := fun q hq => by
          rw [htk] at hq
          rcases List.mem_append.1 hq with hq | hq
          · exact HN.out q hq
          · rw [List.mem_singleton.1 hq]; exact hnm
        clear htk hpm hnm HN
        go_wp2_with fail
        refine d2.out.mono ?_
        rintro e w2 ⟨rfl, hb2⟩
        have HB2 := Lib.hid (HBl.out.trans (hb2.mono HBl.out.size))
        clear hb2
        go_wp2
        go_roundw
        case rel => exact ⟨k + 1, by go_num, hlt, HB2, HN2⟩
        case measure => simp [intOf]; omega
      · have hnm' : nameOf p = false := by simpa using hnm
        rw [hnm'] at d2
        have h1 := namesErr_bad hpm hnm'
        have HF := Lib.hid (HQ.out _ _ (joinOf_bad (by omega)) h1)
        clear htk hpm hnm hnm' HN h1 HQ
        go_wp2_with fail
        refine d2.out.mono ?_
        rintro e w2 ⟨rfl, hb2⟩
        have HB2 := Lib.hid (HBl.out.trans (hb2.mono HBl.out.size))
        clear hb2
        go_wp2
        go_ret2
        exact HF.out _ _ ⟨rfl, HB2.out⟩
    · obtain rfl : k = n := by omega
      have hall : ∀ p ∈ xs, nameOf p = true := by
        have := HN.out
        rwa [List.take_of_length_le (by have := HXL.out; omega)] at this
      have hE := namesErr_all hall
      rw [HXL.out] at hE
      by_cases h8 : 8 < k
      · rw [if_pos h8] at hE
        have HF := Lib.hid (HQ.out _ _ (joinOf_bad (by omega)) hE)
        clear hE hall HQ HN c2 c4
        go_wp2
        go_ret2
        exact HF.out _ _ ⟨rfl, HBl.out⟩
      · rw [if_neg h8] at hE
        have HF := Lib.hid (HQ.out _ _ (if_pos hE) hE)
        have h1000 : ∀ p ∈ xs, p.length ≤ 128 := fun p hp => name_bytes (hall p hp)
        have d3 := SJoin_any wr A k c xs ((HX.out.below HBl.out).mono HBl.out.size) (by have := HXL.out; omega) (fun p hp => by have := h1000 p hp; omega)
        have hjl := joinB_le xs 128 h1000
        have hjl2 : xs.length * (128 + 1) ≤ 8 * 129 := Nat.mul_le_mul (by have := HXL.out; omega) (Nat.le_refl _)
        have d4 := fun w => c4 ⟨(joinB xs).toArray⟩ w (by rw [mk_size]; omega)
        obtain ⟨J, hJ⟩ : ∃ J : ByteArray, J = ⟨(joinB xs).toArray⟩ := ⟨_, rfl⟩
        rw [← hJ] at HF d3 d4
        have D3 := Lib.hid d3
        clear hE hall HQ HN c2 c4 d3 hjl hjl2 hJ h1000
        go_wp2_with fail
        refine D3.out.mono ?_
        rintro e w1 ⟨rfl, hb1⟩
        go_wp2_with fail
        refine (d4 _).out.mono ?_
        rintro e w2 ⟨rfl, hb2⟩
        have HB2 := Lib.hid (HBl.out.trans ((step hb1 hb2).mono HBl.out.size))
        clear hb1 hb2
        go_wp2
        go_ret2
        exact HF.out _ _ ⟨rfl, HB2.out⟩
end Go.Proofs.YtdgpbhdihhchgaaGreatDoor

namespace Go.Proofs.YtdgpbhdihhchgaaGreatDoor
set_option linter.all false
open Go.RowKit
/-- what Parent answers -/
def ParentPost (w : World) (l : List UInt8) (e : Ending) (w' : World) : Prop := e = .returned (.tuple #[.string ⟨(dirOf l).toArray⟩, .string ⟨(lastOf l).toArray⟩, .int .i64 (parentErr l)]) ∧ Below w.heap.size w w'
theorem parent_bad {l : List UInt8} (h : parentErr l ≠ 0) : dirOf l = [] ∧ lastOf l = [] := ⟨if_neg h, if_neg h⟩
theorem parse_names {l : List UInt8} : ∀ p ∈ parseOf l, nameOf p = true := by
  intro p hp
  by_cases h : parseErr l = 0
  · exact (namesErr_ok.1 (join_parse h).1).1 p hp
  · rw [parseOf_bad h] at hp
    cases hp
theorem parse_le8 (l : List UInt8) : (parseOf l).length ≤ 8 := by
  by_cases h : parseErr l = 0
  · exact parse_len h
  · rw [parseOf_bad h]; simp
set_option maxRecDepth 100000 in
set_option maxHeartbeats 2000000 in
theorem Parent_any (s : ByteArray) (w : World) (hs : s.size ≤ 140737488355328) (hT : Tabs w) :
    Calls Tryz.prog 23 #[.string s] w (ParentPost w s.data.toList) := by
  have c1 := Parse_any s w hs hT
  unfold ParsePost at c1
  have hq : ∀ (p q : List UInt8) (m : Int), dirOf s.data.toList = p → lastOf s.data.toList = q → parentErr s.data.toList = m → ∀ e w', e = .returned (.tuple #[.string ⟨p.toArray⟩, .string ⟨q.toArray⟩, .int .i64 m]) ∧ Below w.heap.size w w' → ParentPost w s.data.toList e w' := fun p q m hp hq hm e w' h => by
    unfold ParentPost
    rw [hp, hq, hm]
    exact h
  by_cases he : parseErr s.data.toList = 0
  · rw [he] at c1
    by_cases hn : s.data.toList = []
    · have h1 : parentErr s.data.toList = 2 := by unfold parentErr; rw [if_neg (by simp [he]), if_pos hn]
      obtain ⟨h2, h3⟩ := parent_bad (l := s.data.toList) (by omega)
      have HF := Lib.hid (hq _ _ _ h2 h3 h1)
      rw [(parse_root he).2 hn] at c1
      have C1 := Lib.hid c1
      clear c1 hq he hn h1 h2 h3
      go_enter Tryz.func23, Tryz.ntmps23
      go_wp2_with fail
      refine C1.out.mono ?_
      rintro e w1 ⟨v, rfl, ho, hb1⟩
      obtain ⟨A, k, c, rfl, hk, _, _, _, _⟩ := ho.open
      obtain rfl : k = 0 := hk.symm
      clear ho
      go_wp2
      go_ret3
      exact HF.out _ _ ⟨rfl, hb1⟩
    · have h1 : parentErr s.data.toList = 0 := parentErr_ok.2 ⟨he, hn⟩
      have h2 : dirOf s.data.toList = joinB (parseOf s.data.toList).dropLast := if_pos h1
      have h3 : lastOf s.data.toList = (parseOf s.data.toList).getLast?.getD [] := if_pos h1
      have hne : parseOf s.data.toList ≠ [] := fun h => hn ((parse_root he).1 h)
      have hnm := parse_names (l := s.data.toList)
      have h8 := parse_le8 s.data.toList
      obtain ⟨L, hL⟩ : ∃ L, L = parseOf s.data.toList := ⟨_, rfl⟩
      rw [← hL] at c1 h2 h3 hne hnm h8
      have hd : namesErr L.dropLast = 0 := namesErr_ok.2 ⟨fun p hp => hnm p (List.dropLast_subset _ hp), by rw [List.length_dropLast]; omega⟩
      have hj : joinOf L.dropLast = joinB L.dropLast := if_pos hd
      have hpos := List.length_pos_iff.2 hne
      have hlast : L[L.length - 1]? = some (L.getLast?.getD []) := by
        rw [List.getLast?_eq_getElem?]
        rw [List.getElem?_eq_getElem (by omega)]
        rfl
      obtain ⟨Z, hZ⟩ : ∃ Z, Z = L.getLast?.getD [] := ⟨_, rfl⟩
      rw [← hZ] at h3 hlast
      rw [← hj] at h2
      have hq' := hq _ _ _ h2 h3 h1
      have c5 := fun (w : World) A n c hx hT => Join_any w A n c L.dropLast hx (fun p hp => by have := name_bytes (hnm p (List.dropLast_subset _ hp)); omega) hT
      unfold JoinPost at c5
      rw [hd] at c5
      obtain ⟨D, hD⟩ : ∃ D : ByteArray, D = ⟨(joinOf L.dropLast).toArray⟩ := ⟨_, rfl⟩
      rw [← hD] at c5 hq'
      have HF := Lib.hid hq'
      have C1 := Lib.hid c1
      have C5 := Lib.hid c5
      have HLAST := Lib.hid hlast
      have HDL : Hid (L.dropLast = L.take (L.length - 1)) := List.dropLast_eq_take
      clear c1 c5 hq hq' he hn h1 h2 h3 hne hnm hL hd hj hlast hZ hD
      go_enter Tryz.func23, Tryz.ntmps23
      go_wp2_with fail
      refine C1.out.mono ?_
      rintro e w1 ⟨v, rfl, ho, hb1⟩
      obtain ⟨A, k, c, rfl, hh⟩ := ho.holds
      have hk := hh.len
      have hkc := hh.fit
      rw [hk] at h8 hpos
      have hk1 : 1 ≤ k := by omega
      have hne0 : ((k : Int) == 0) = false := by rw [beq_eq_false_iff_ne]; omega
      obtain ⟨b, off, rfl, hbk, hc⟩ := hh.cells (by omega)
      have HK := Lib.hid hk
      have hT1 := hT.below hb1
      have hpre := hh.pre (m := k - 1) (by omega)
      rw [← hk, ← HDL.out, hk] at hpre
      have HPRE := Lib.hid hpre
      have HH := Lib.hid hh
      have hcl := hc (k - 1) Z (by rw [← hk]; exact HLAST.out)
      have HCL := Lib.hid hcl
      clear ho hh hk hc C1 hpre hcl hpos
      go_wp2_with fail
      refine (C5.out _ _ _ _ HPRE.out hT1 (by omega)).mono ?_
      rintro e w2 ⟨rfl, hb2⟩
      have gc := (hb2.cell (p := ⟨b, off + (k - 1), none⟩) hbk).trans HCL.out
      unfold strV at gc
      have hB2 := Lib.hid (step hb1 hb2)
      have hk0 : (0 : Int) ≤ (k : Int) - 1 := by omega
      have hk2 : (1 : Int) ≤ (k : Int) := by omega
      clear HPRE HCL HH HDL HLAST hb2 C5
      go_wp2
      go_quiet (fail)
      go_wp2
      go_ret3
      refine HF.out _ _ ⟨rfl, ?_⟩
      exact hB2.out.trans ((drewed _ _).mono hB2.out.size)
  · obtain ⟨E, hE⟩ : ∃ E, E = parseErr s.data.toList := ⟨_, rfl⟩
    have h1 : parentErr s.data.toList = E := by rw [hE]; exact if_pos he
    rw [← hE] at c1 he
    obtain ⟨h2, h3⟩ := parent_bad (l := s.data.toList) (by omega)
    have HF := Lib.hid (hq _ _ _ h2 h3 h1)
    have hne : (E != 0) = true := by simpa using he
    have C1 := Lib.hid c1
    clear c1 hq hE he h1 h2 h3
    go_enter Tryz.func23, Tryz.ntmps23
    go_wp2_with fail
    refine C1.out.mono ?_
    rintro e w1 ⟨v, rfl, ho, hb1⟩
    go_wp2
    go_ret3
    exact HF.out _ _ ⟨rfl, hb1⟩
/-! ### both -/

def BothPost (w : World) (a b : List UInt8) (e : Ending) (w' : World) : Prop :=
  ∃ v u, e = .returned (.tuple #[v, u, .bool (decide (parseErr a = 0 ∧ parseErr b = 0))]) ∧ OwnF strV 9 w' w.heap.size v (parseOf a) ∧ (parseErr a = 0 → OwnF strV 9 w' w.heap.size u (parseOf b)) ∧ Below w.heap.size w w'
set_option maxHeartbeats 2000000 in
theorem both_any (s t : ByteArray) (w : World) (hs : s.size ≤ 140737488355328) (ht : t.size ≤ 140737488355328) (hT : Tabs w) :
    Calls Tryz.prog 114 #[.string s, .string t] w (BothPost w s.data.toList t.data.toList) := by
  have c1 := Parse_any s w hs hT
  have c2 := fun w hT => Parse_any t w ht hT
  unfold ParsePost at c1 c2
  have hq : ∀ (a b : Int), parseErr s.data.toList = a → parseErr t.data.toList = b → ∀ e w', (∃ v u, e = .returned (.tuple #[v, u, .bool (decide (a = 0 ∧ b = 0))]) ∧ OwnF strV 9 w' w.heap.size v (parseOf s.data.toList) ∧ (a = 0 → OwnF strV 9 w' w.heap.size u (parseOf t.data.toList)) ∧ Below w.heap.size w w') → BothPost w s.data.toList t.data.toList e w' := fun a b ha hb e w' h => by
    unfold BothPost
    rw [ha, hb]
    exact h
  have hbad : parseErr s.data.toList ≠ 0 → parseOf s.data.toList = [] := parseOf_bad
  obtain ⟨L, hL⟩ : ∃ L, L = parseOf s.data.toList := ⟨_, rfl⟩
  obtain ⟨M, hM⟩ : ∃ L, L = parseOf t.data.toList := ⟨_, rfl⟩
  obtain ⟨E, hE⟩ : ∃ E, E = parseErr s.data.toList := ⟨_, rfl⟩
  obtain ⟨F, hF⟩ : ∃ E, E = parseErr t.data.toList := ⟨_, rfl⟩
  rw [← hL, ← hE] at c1
  rw [← hM, ← hF] at c2
  rw [← hE, ← hL] at hbad
  have hq' := hq E F hE.symm hF.symm
  rw [← hL, ← hM] at hq'
  have HQ := Lib.hid hq'
  have C1 := Lib.hid c1
  have C2 := Lib.hid c2
  clear c1 c2 hq hq' hL hM hE hF
  by_cases he : E = 0
  · subst he
    have HF : Hid (decide ((0 : Int) = 0 ∧ F = 0) = (F == 0)) := by
      show _ = _
      rw [Bool.eq_iff_iff, decide_eq_true_eq, beq_iff_eq]
      simp
    clear hbad
    go_enter Tryz.func114, Tryz.ntmps114
    go_wp2_with fail
    refine C1.out.mono ?_
    rintro e w1 ⟨v, rfl, ho1, hb1⟩
    have HO1 := Lib.hid ho1
    clear ho1
    go_wp2_with fail
    refine (C2.out _ (hT.below hb1)).mono ?_
    rintro e w2 ⟨u, rfl, ho2, hb2⟩
    have HO2 := Lib.hid ho2
    clear ho2
    go_wp2
    go_ret3
    refine HQ.out _ _ ⟨v, u, ?_, HO1.out.below hb2, fun _ => HO2.out.mono hb1.size, step hb1 hb2⟩
    rw [HF.out]
    rfl
  · have hb := hbad he
    have hne : (E != 0) = true := by simpa using he
    have HF : Hid (decide (E = 0 ∧ F = 0) = false) := by
      show _ = _
      rw [decide_eq_false]
      exact fun h => he h.1
    have HBl := Lib.hid hb
    clear hbad hb
    go_enter Tryz.func114, Tryz.ntmps114
    go_wp2_with fail
    refine C1.out.mono ?_
    rintro e w1 ⟨v, rfl, ho1, hb1⟩
    go_wp2
    go_ret3
    refine HQ.out _ _ ⟨.slice none 0 0, .slice none 0 0, ?_, ?_, fun h => absurd h he, hb1⟩
    · rw [HF.out]; rfl
    · rw [HBl.out]; exact OwnF.nil _ _ _ _
/-! ### EqualFunc -/

theorem fold_step {xs ys : List (List UInt8)} {k : Nat} {x y : List UInt8} (hx : xs[k]? = some x) (hy : ys[k]? = some y) : ((xs.drop k).map foldB = (ys.drop k).map foldB) ↔ (foldB x = foldB y ∧ (xs.drop (k + 1)).map foldB = (ys.drop (k + 1)).map foldB) := by
  obtain ⟨h1, h2⟩ := List.getElem?_eq_some_iff.1 hx
  obtain ⟨h3, h4⟩ := List.getElem?_eq_some_iff.1 hy
  rw [List.drop_eq_getElem_cons h1, List.drop_eq_getElem_cons h3, h2, h4, List.map_cons, List.map_cons, List.cons.injEq]
set_option maxRecDepth 100000 in
set_option maxHeartbeats 2000000 in
theorem EqualFunc_any (w : World) (A A' : Option Addr) (n c n' c' : Nat) (xs ys : List (List UInt8)) (hx : HoldsF strV w w.heap.size A n c xs) (hy : HoldsF strV w w.heap.size A' n' c' ys) (lx : ∀ p ∈ xs, p.length ≤ 4398046511104) (ly : ∀ p ∈ ys, p.length ≤ 4398046511104) (hT : Tabs w) (hn63 : n ≤ 9223372036854775807) (hn63' : n' ≤ 9223372036854775807) :
    Calls Tryz.prog 115 #[.slice A n c, .slice A' n' c', .func (.func 116) #[] #[]] w fun e w' => e = .returned (.bool (decide (xs.map foldB = ys.map foldB))) ∧ Below w.heap.size w w' := by
  have c2 := fun (s t : ByteArray) (w : World) hs ht hT => Lib.hid (Alike_any s t w hs ht hT)
  have hxl := hx.len
  have hyl := hy.len
  by_cases hnn : n = n'
  · subst hnn
    obtain ⟨R, hR⟩ : ∃ R, R = decide (xs.map foldB = ys.map foldB) := ⟨_, rfl⟩
    rw [← hR]
    have HR := Lib.hid hR
    have HX := Lib.hid hx
    have HY := Lib.hid hy
    have HXL := Lib.hid hxl
    have HYL := Lib.hid hyl
    clear hx hy hR hxl hyl
    go_enter Tryz.func115, Tryz.ntmps115
    go_wp2
    go_loopw [7, 8, 9, 17] (fun _ _ _ i wr => ∃ k : Nat, i = .int .i64 k ∧ k ≤ n ∧ Hid (Below w.heap.size w wr) ∧ Hid (R = decide ((xs.drop k).map foldB = (ys.drop k).map foldB))) (fun _ _ _ i _ => n - (intOf i).toNat)
    case atStart => exact ⟨0, rfl, Nat.zero_le _, Below.refl _ _, by rw [List.drop_zero, List.drop_zero]; exact HR.out⟩
    case round =>
      obtain ⟨k, rfl, hk, HBl, HE⟩ := hrel
      by_cases hlt : k < n
      · obtain ⟨b, off, rfl, hbk, hc⟩ := (HX.out.below HBl.out).cells (by omega)
        obtain ⟨b', off', rfl, hbk', hc'⟩ := (HY.out.below HBl.out).cells (by omega)
        have hkx : k < xs.length := by have := HXL.out; omega
        have hky : k < ys.length := by have := HYL.out; omega
        obtain ⟨p, hp⟩ : ∃ p, p = xs[k] := ⟨_, rfl⟩
        obtain ⟨q, hq⟩ : ∃ q, q = ys[k] := ⟨_, rfl⟩
        have ex : xs[k]? = some p := by rw [hp]; exact List.getElem?_eq_getElem hkx
        have ey : ys[k]? = some q := by rw [hq]; exact List.getElem?_eq_getElem hky
        have gc := hc k p ex
        have gc' := hc' k q ey
        unfold strV at gc gc'
        have d2 := c2 ⟨p.toArray⟩ ⟨q.toArray⟩ wr (by rw [mk_size, hp]; exact lx _ (List.getElem_mem hkx)) (by rw [mk_size, hq]; exact ly _ (List.getElem_mem hky)) (hT.below HBl.out)
        rw [show (⟨p.toArray⟩ : ByteArray).data.toList = p from rfl, show (⟨q.toArray⟩ : ByteArray).data.toList = q from rfl] at d2
        unfold alikeOf at d2
        have hst := fold_step ex ey
        clear hc hc' hp hq hkx hky ex ey c2
        by_cases hal : foldB p = foldB q
        · rw [decide_eq_true hal] at d2
          have HE2 : Hid (R = decide ((xs.drop (k + 1)).map foldB = (ys.drop (k + 1)).map foldB)) := by
            show _ = _
            rw [HE.out]
            refine decide_eq_decide.2 (hst.trans ?_)
            simp [hal]
          clear hst hal HE
          go_wp2_with fail
          refine d2.out.mono ?_
          rintro e w2 ⟨rfl, hb2⟩
          have HB2 := Lib.hid (HBl.out.trans (hb2.mono HBl.out.size))
          clear hb2
          go_wp2
          go_roundw
          case rel => exact ⟨k + 1, by go_num, hlt, HB2, HE2⟩
          case measure => simp [intOf]; omega
        · rw [decide_eq_false hal] at d2
          have HE2 : Hid (R = false) := by
            show _ = _
            rw [HE.out]
            exact decide_eq_false fun h => hal (hst.1 h).1
          clear hst hal HE
          go_wp2_with fail
          refine d2.out.mono ?_
          rintro e w2 ⟨rfl, hb2⟩
          have HB2 := Lib.hid (HBl.out.trans (hb2.mono HBl.out.size))
          clear hb2
          go_wp2
          go_ret
          exact ⟨ret_bool HE2.out.symm, HB2.out⟩
      · obtain rfl : k = n := by omega
        have HE2 : Hid (R = true) := by
          show _ = _
          rw [HE.out, List.drop_of_length_le (by have := HXL.out; omega), List.drop_of_length_le (by have := HYL.out; omega)]
          rfl
        clear HE c2
        go_wp2
        go_ret
        exact ⟨ret_bool HE2.out.symm, HBl.out⟩
  · have hf : decide (xs.map foldB = ys.map foldB) = false := decide_eq_false fun h => by
      have := congrArg List.length h
      rw [List.length_map, List.length_map] at this
      omega
    rw [hf]
    have hne : ((n : Int) != n') = true := by rw [bne_iff_ne]; omega
    clear hf hnn hx hy hxl hyl c2
    go_enter Tryz.func115, Tryz.ntmps115
    go_wp2
    go_ret
    exact ⟨rfl, Below.refl _ _⟩
/-! ### Alike, Under -/

set_option maxHeartbeats 2000000 in
theorem PUnder_any (s t : ByteArray) (w : World) (hs : s.size ≤ 140737488355328) (ht : t.size ≤ 140737488355328) (hT : Tabs w) :
    Calls Tryz.prog 65 #[.string s, .string t] w fun e w' => e = .returned (.bool (underP s.data.toList t.data.toList)) ∧ Below w.heap.size w w' := by
  have c1 := both_any s t w hs ht hT
  unfold BothPost at c1
  unfold underP
  have n1 := parse_names (l := s.data.toList)
  have n2 := parse_names (l := t.data.toList)
  have l1 := parse_le8 s.data.toList
  have l2 := parse_le8 t.data.toList
  obtain ⟨L, hL⟩ : ∃ L, L = parseOf s.data.toList := ⟨_, rfl⟩
  obtain ⟨M, hM⟩ : ∃ L, L = parseOf t.data.toList := ⟨_, rfl⟩
  obtain ⟨E, hE⟩ : ∃ E, E = parseErr s.data.toList := ⟨_, rfl⟩
  obtain ⟨F, hF⟩ : ∃ E, E = parseErr t.data.toList := ⟨_, rfl⟩
  rw [← hL, ← hM, ← hE, ← hF] at c1 ⊢
  rw [← hL] at n1 l1
  rw [← hM] at n2 l2
  by_cases hok : E = 0 ∧ F = 0
  · obtain ⟨rfl, rfl⟩ := hok
    rw [show decide ((0 : Int) = 0 ∧ (0 : Int) = 0) = true from rfl] at c1
    by_cases hlen : M.length < L.length
    · have c3 := fun (w : World) A A' n c n' c' hx hy hT => EqualFunc_any w A A' n c n' c' (L.take M.length) M hx hy (fun p hp => by have := name_bytes (n1 p (List.mem_of_mem_take hp)); omega) (fun p hp => by have := name_bytes (n2 p hp); omega) hT
      have hd : decide ((0 : Int) = 0 ∧ (0 : Int) = 0 ∧ M.length < L.length ∧ (L.take M.length).map foldB = M.map foldB) = decide ((L.take M.length).map foldB = M.map foldB) := by simp [hlen]
      rw [hd]
      obtain ⟨R, hR⟩ : ∃ R, R = decide ((L.take M.length).map foldB = M.map foldB) := ⟨_, rfl⟩
      rw [← hR] at c3 ⊢
      have C1 := Lib.hid c1
      have C3 := Lib.hid c3
      clear c1 c3 hL hM hE hF n1 n2 hd hR
      go_enter Tryz.func65, Tryz.ntmps65
      go_wp2_with fail
      refine C1.out.mono ?_
      rintro e w1 ⟨v, u, rfl, ho1, ho2, hb1⟩
      obtain ⟨A, k, c, rfl, hh⟩ := ho1.holds
      obtain ⟨A', k', c', rfl, hh'⟩ := (ho2 (by trivial)).holds
      have e1 := hh.len
      have e2 := hh'.len
      have e3 := hh.fit
      have hp := hh.pre (m := k') (by omega)
      rw [← e2] at hp
      have d3 := C3.out _ _ _ _ _ _ _ hp hh' (hT.below hb1) (by omega) (by omega)
      rw [e2] at d3
      have D3 := Lib.hid d3
      have hkk : k' < k := by omega
      clear ho1 ho2 hh hh' e1 e2 C1 C3 l1 l2 hp d3 hlen
      go_wp2_with fail
      refine D3.out.mono ?_
      rintro e w2 ⟨rfl, hb2⟩
      go_wp2
      go_ret
      exact ⟨rfl, step hb1 hb2⟩
    · rw [decide_eq_false (fun h => hlen h.2.2.1)]
      have C1 := Lib.hid c1
      clear c1 hL hM hE hF n1 n2
      go_enter Tryz.func65, Tryz.ntmps65
      go_wp2_with fail
      refine C1.out.mono ?_
      rintro e w1 ⟨v, u, rfl, ho1, ho2, hb1⟩
      obtain ⟨A, k, c, rfl, hh⟩ := ho1.holds
      obtain ⟨A', k', c', rfl, hh'⟩ := (ho2 (by trivial)).holds
      have e1 := hh.len
      have e2 := hh'.len
      have hkk : ¬ k' < k := by omega
      clear ho1 ho2 hh hh' e1 e2 C1 l1 l2 hlen
      go_wp2
      go_ret
      exact ⟨rfl, hb1⟩
  · rw [decide_eq_false hok] at c1
    rw [decide_eq_false (fun h => hok ⟨h.1, h.2.1⟩)]
    have C1 := Lib.hid c1
    clear c1 hL hM hE hF n1 n2 hok
    go_enter Tryz.func65, Tryz.ntmps65
    go_wp2_with fail
    refine C1.out.mono ?_
    rintro e w1 ⟨v, u, rfl, ho1, ho2, hb1⟩
    go_wp2
    go_ret
    exact ⟨rfl, hb1⟩
end Go.Proofs.YtdgpbhdihhchgaaGreatDoor

namespace Go.Proofs.YtdgpbhdihhchgaaGreatDoor
set_option linter.all false
open Go.RowKit
/-- block g is a whole row of truth values, none frozen -/
def BRow (w : World) (g : Nat) (bs : List Bool) : Prop := w.heap[g]? = some (.cells (bs.map Value.bool).toArray 4 (0, 0))
section
variable {w w' : World} {g g' B : Nat} {bs cs : List Bool}
theorem BRow.lt (h : BRow w g bs) : g < w.heap.size := (Array.getElem?_eq_some_iff.1 h).1
theorem BRow.cell (h : BRow w g bs) {i : Nat} (hi : i < bs.length) : w.cell? ⟨g, i, none⟩ = some (.bool (bs.getD i false)) := by
  rw [cell_of_row w g i _ 4 (0, 0) h]
  simp [hi]
theorem BRow.frozen (h : BRow w g bs) (i : Nat) : w.frozen? ⟨g, i, none⟩ = false := frozen_of_row w g i _ 4 h
theorem BRow.below (h : BRow w g bs) (hb : Below w.heap.size w w') : BRow w' g bs := (hb.block g h.lt).trans h
theorem BRow.only (h : BRow w g bs) (hO : Only g' w w') (hg : g ≠ g') : BRow w' g bs := (hO.rest g hg).trans h
theorem BRow.drewN (h : BRow w g bs) (k : Nat) : BRow (w.drewN k) g bs := h
end
/-! ### the rows -/

noncomputable def rowB (p t : List Int) : List Bool := (List.range (p.length + 1)).map fun j => fitAt p j t
/-- what stays: pattern, text, all that was there -/
structure RK (w wr : World) (base base' : Nat) (v u : Value) (p t : List Int) : Prop where
  pat : OwnK .i64 3 wr base v p
  text : OwnK .i64 3 wr base' u t
  below : Below w.heap.size w wr
theorem RK.only {w wr w' : World} {base base' g : Nat} {v u : Value} {p t : List Int} {bs : List Bool} (K : RK w wr base base' v u p t) (hB : BRow wr g bs) (hg : w.heap.size ≤ g) (hO : Only g wr w') : RK w w' base base' v u p t := by
  have key : ∀ (base : Nat) (v : Value) (p : List Int), OwnK .i64 3 wr base v p → OwnK .i64 3 w' base v p := fun base v p h =>
    h.keep fun i cs _ hcs => hO.rest i fun he => by
      subst he
      unfold BRow at hB
      rw [hB] at hcs
      simp only [Option.some.injEq, Obj.cells.injEq] at hcs
      exact absurd hcs.2.1 (by decide)
  exact ⟨key _ _ _ K.pat, key _ _ _ K.text, K.below.trans (hO.below hg)⟩
theorem RK.over {w wr w' : World} {base base' : Nat} {v u : Value} {p t : List Int} (K : RK w wr base base' v u p t) (hb : Below wr.heap.size wr w') : RK w w' base base' v u p t :=
  ⟨K.pat.below hb, K.text.below hb, step K.below hb⟩
theorem RK.drewN {w wr : World} {base base' : Nat} {v u : Value} {p t : List Int} (K : RK w wr base base' v u p t) (k : Nat) : RK w (wr.drewN k) base base' v u p t :=
  ⟨K.pat.below (drewed wr k), K.text.below (drewed wr k), step K.below (drewed wr k)⟩
end Go.Proofs.YtdgpbhdihhchgaaGreatDoor

namespace Go.Proofs.YtdgpbhdihhchgaaGreatDoor
set_option linter.all false
open Go.RowKit Go.ChangeShapes Go.WideShapes
/-- the slice value v is nil, or heads a row in a block from 'base' on that begins with the elements xs -/
def OwnS {α : Type} (f : α → List Value) (s : Nat) (e : TypeId) (w : World) (base : Nat) (v : Value) (xs : List α) : Prop := w.ownsRow base e s v xs.length (xs.flatMap f)
/-- the slice value '.slice A n c' holds the elements xs, in memory below block B -/
structure HoldsS {α : Type} (f : α → List Value) (s : Nat) (w : World) (B : Nat) (A : Option Addr) (n c : Nat) (xs : List α) : Prop where
  len : xs.length = n
  fit : n ≤ c
  bare : A = none → c = 0
  cells : 0 < n → ∃ b off, A = some ⟨b, off, none⟩ ∧ b < B ∧ ∀ i x, xs[i]? = some x → ∀ j u, (f x)[j]? = some u → w.cell? ⟨b, off + (i * s + j), none⟩ = some u
theorem flatMap_get {α : Type} {f : α → List Value} {s : Nat} (hs : 0 < s) (hf : ∀ x, (f x).length = s) : ∀ (xs : List α) (i : Nat), (xs.flatMap f)[i]? = (xs[i / s]?).bind fun x => (f x)[i % s]?
  | [], i => by simp
  | x :: r, i => by
    rw [List.flatMap_cons, List.getElem?_append, hf x]
    by_cases h : i < s
    · rw [if_pos h, Nat.div_eq_of_lt h, Nat.mod_eq_of_lt h]; rfl
    · rw [if_neg h, flatMap_get hs hf r (i - s)]
      have e1 : i / s = (i - s) / s + 1 := by
        rw [Nat.div_eq_sub_div hs (by omega)]
      have e2 : i % s = (i - s) % s := by rw [Nat.mod_eq_sub_mod (by omega)]
      rw [e1, e2, List.getElem?_cons_succ]
theorem flatMap_len {α : Type} {f : α → List Value} {s : Nat} (hf : ∀ x, (f x).length = s) (xs : List α) : (xs.flatMap f).length = xs.length * s := by
  induction xs with
  | nil => simp
  | cons x r ih => rw [List.flatMap_cons, List.length_append, ih, hf, List.length_cons, Nat.add_mul]; omega
section
variable {α : Type} {f : α → List Value} {s : Nat} {w w' w2 : World} {B B' base base' b : Nat} {A : Option Addr} {n c : Nat} {xs ys : List α} {e e' T : TypeId} {v v' u : Value}
theorem HoldsS.keep (h : HoldsS f s w B A n c xs) (hk : ∀ p : Addr, p.block < B → w'.cell? p = w.cell? p) : HoldsS f s w' B A n c xs :=
  ⟨h.len, h.fit, h.bare, fun hn => by
    obtain ⟨b, off, e, hb, hc⟩ := h.cells hn
    exact ⟨b, off, e, hb, fun i x hi j u hj => (hk _ hb).trans (hc i x hi j u hj)⟩⟩
theorem HoldsS.mono (h : HoldsS f s w B A n c xs) (hB : B ≤ B') : HoldsS f s w B' A n c xs :=
  ⟨h.len, h.fit, h.bare, fun hn => by
    obtain ⟨b, off, e, hb, hc⟩ := h.cells hn
    exact ⟨b, off, e, by omega, hc⟩⟩
theorem HoldsS.below (h : HoldsS f s w B A n c xs) (hb : Below B w w') : HoldsS f s w' B A n c xs := h.keep fun _ hp => hb.cell hp
theorem HoldsS.over (h : HoldsS f s w w.heap.size A n c xs) (hb : Below w.heap.size w w') : HoldsS f s w' w'.heap.size A n c xs := (h.below hb).mono hb.size
theorem HoldsS.drew (h : HoldsS f s w B A n c xs) : HoldsS f s w.drew B A n c xs := h.keep fun _ _ => rfl
theorem HoldsS.drewN (h : HoldsS f s w B A n c xs) (k : Nat) : HoldsS f s (w.drewN k) B A n c xs := h.keep fun _ _ => rfl
theorem HoldsF.drew {f : α → Value} (h : HoldsF f w B A n c xs) : HoldsF f w.drew B A n c xs := h.keep fun _ _ => rfl
theorem HoldsF.drewN {f : α → Value} (h : HoldsF f w B A n c xs) (k : Nat) : HoldsF f (w.drewN k) B A n c xs := h.keep fun _ _ => rfl
theorem HoldsS.head (h : HoldsS f s w B A c c xs) (hn : n ≤ c) : HoldsS f s w B A n c (xs.take n) :=
  ⟨by have := h.len; simp; omega, hn, h.bare, fun h0 => by
    obtain ⟨b, off, rfl, hb, hc⟩ := h.cells (by omega)
    refine ⟨b, off, rfl, hb, fun i x hi => hc i x ?_⟩
    rw [List.getElem?_take] at hi
    split at hi
    · exact hi
    · cases hi⟩
theorem HoldsS.nil (f : α → List Value) (s : Nat) (w : World) (B : Nat) : HoldsS f s w B none 0 0 [] := ⟨rfl, Nat.le_refl _, fun _ => rfl, fun h => absurd h (by omega)⟩
/-- an element as a whole -/
theorem HoldsS.range (h : HoldsS f s w B A n c xs) {b off i : Nat} (hA : A = some ⟨b, off, none⟩) (hi : i < n) {x : α} (hx : xs[i]? = some x) : w.rangeAt b (off + i * s) (f x) := fun j u hj => by
  obtain ⟨b', off', e, _, hc⟩ := h.cells (by omega)
  rw [hA] at e
  injection e with e
  injection e with e1 e2 e3
  subst e1 e2
  have := hc i x hx j u hj
  rwa [← Nat.add_assoc] at this
theorem OwnS.nil (f : α → List Value) (s : Nat) (e : TypeId) (w : World) (base : Nat) : OwnS f s e w base (.slice none 0 0) [] := World.ownsRow_nil w base e s
theorem OwnS.mono (h : OwnS f s e w base v xs) (hb : base' ≤ base) : OwnS f s e w base' v xs := by
  refine ⟨h.1, ?_⟩
  rcases h.2 with h0 | ⟨g, cap, cur, rfl, h1, rest⟩
  · exact .inl h0
  · exact .inr ⟨g, cap, cur, rfl, by omega, rest⟩
theorem OwnS.keep (h : OwnS f s e w base v xs) (hk : ∀ i cs, v.ownBlock = some i → w.heap[i]? = some (.cells cs e (0, 0)) → w'.heap[i]? = w.heap[i]?) : OwnS f s e w' base v xs := by
  refine ⟨h.1, ?_⟩
  rcases h.2 with h0 | ⟨g, cap, cur, rfl, h1, hg, rest⟩
  · exact .inl h0
  · exact .inr ⟨g, cap, cur, rfl, h1, (hk g cur rfl hg).trans hg, rest⟩
theorem OwnS.below (h : OwnS f s e w base v xs) (hb : Below w.heap.size w w') : OwnS f s e w' base v xs := h.keep fun i _ _ hi => hb.block i (Array.getElem?_eq_some_iff.1 hi).1
theorem OwnS.only (h : OwnS f s e w base v xs) (hO : Only b w w') (hb : b < base) : OwnS f s e w' base v xs := by
  refine ⟨h.1, ?_⟩
  rcases h.2 with h0 | ⟨g, cap, cur, rfl, h1, hg, rest⟩
  · exact .inl h0
  · exact .inr ⟨g, cap, cur, rfl, h1, (hO.rest g (by omega)).trans hg, rest⟩
theorem OwnS.block (h : OwnS f s e w base v xs) {i : Nat} (hi : v.ownBlock = some i) : base ≤ i ∧ ∃ cs, w.heap[i]? = some (.cells cs e (0, 0)) := by
  rcases h.2 with ⟨rfl, _⟩ | ⟨g, cap, cur, rfl, h1, hg, rest⟩
  · cases hi
  · simp only [Value.ownBlock, Option.some.injEq] at hi
    subst hi
    exact ⟨h1, cur, hg⟩
theorem OwnS.lt (h : OwnS f s e w base v xs) {i : Nat} (hi : v.ownBlock = some i) : i < w.heap.size := (World.ownsRow.lt h i hi).2
/-- what such a row reads as -/
theorem OwnS.holds (hs : 0 < s) (hf : ∀ x, (f x).length = s) (h : OwnS f s e w base v xs) : ∃ A n c, v = .slice A n c ∧ HoldsS f s w w.heap.size A n c xs := by
  rcases h.2 with ⟨rfl, h0⟩ | ⟨g, cap, cur, rfl, hb, hg, hnc, hcm, hcs, htk⟩
  · have : xs = [] := List.eq_nil_of_length_eq_zero h0
    subst this
    exact ⟨none, 0, 0, rfl, HoldsS.nil f s w _⟩
  · refine ⟨_, _, _, rfl, rfl, hnc, fun hA => (by cases hA), fun h0 => ⟨g, 0, rfl, (Array.getElem?_eq_some_iff.1 hg).1, fun i x hi j u hj => ?_⟩⟩
    have hil : i < xs.length := (List.getElem?_eq_some_iff.1 hi).1
    have hjs : j < s := by rw [← hf x]; exact (List.getElem?_eq_some_iff.1 hj).1
    have hlt : i * s + j < xs.length * s := by
      have : (i + 1) * s ≤ xs.length * s := Nat.mul_le_mul_right s hil
      rw [Nat.add_mul] at this
      omega
    rw [Nat.zero_add, cell_of_row w g _ cur e (0, 0) hg]
    have e1 : cur[i * s + j]? = (cur.toList.take (xs.length * s))[i * s + j]? := by
      rw [List.getElem?_take, if_pos hlt, Array.getElem?_toList]
    rw [e1, htk, flatMap_get hs hf, show (i * s + j) / s = i from by rw [Nat.mul_comm, Nat.mul_add_div hs, Nat.div_eq_of_lt hjs, Nat.add_zero], show (i * s + j) % s = j from by rw [Nat.mul_comm, Nat.mul_add_mod, Nat.mod_eq_of_lt hjs], hi]
    exact hj
end
section
variable {α : Type} {f : α → List Value} {s : Nat} {P : Program} {w : World} {ops : Array Oper} {rest : List Oper} {o : Oper} {a : Act} {Q : Exit → Act → World → Prop}
end
end Go.Proofs.YtdgpbhdihhchgaaGreatDoor

namespace Go.Proofs.YtdgpbhdihhchgaaGreatDoor
set_option linter.all false
set_option maxRecDepth 100000
open Go.RowKit
set_option linter.unusedVariables false
section
variable {α : Type} {f : α → List Value} {s : Nat} {w w' : World} {base q n c : Nat} {e : TypeId} {xs : List α} {v : Value} {S : Nat → Prop}
theorem OwnS.heap (h : OwnS f s e w base (.slice (some ⟨q, 0, none⟩) n c) xs) : base ≤ q ∧ xs.length = n ∧ ∃ cur : Array Value, w.heap[q]? = some (.cells cur e (0, 0)) ∧ n * s ≤ cur.size ∧ cur.toList.take (n * s) = xs.flatMap f ∧ n ≤ c ∧ c ≤ maxLen ∧ cur.size = c * s := by
  rcases h.2 with ⟨h0, _⟩ | ⟨g', cap, cur, hv, hb, hg, hnc, hcm, hcs, htk⟩
  · cases h0
  · simp only [Value.slice.injEq, Option.some.injEq, Addr.mk.injEq, and_true] at hv
    obtain ⟨rfl, hn, rfl⟩ := hv
    exact ⟨hb, hn.symm, cur, hg, by rw [hcs, hn]; exact Nat.mul_le_mul_right s hnc, by rw [hn]; exact htk, by omega, hcm, hcs⟩
theorem OwnS.sparS (h : OwnS f s e w base v xs) (a : Spare S w w') (hg : ∀ i, v.ownBlock = some i → ¬ S i) : OwnS f s e w' base v xs := h.keep fun i _ hi hcs => a.rest i (Array.getElem?_eq_some_iff.1 hcs).1 (hg i hi)
end
section
variable {α : Type} {P : Program} {w : World} {ops : Array Oper} {rest : List Oper} {o : Oper} {a : Act} {Q : Exit → Act → World → Prop} {K : Act → World → Prop} {E : Prop}
/-- append(l, ys...) as a step of a region that draws, ys lying in a block b: onto a row of values of one cell; where it heads is told -/
theorem step_append_any (f : α → Value) (hf : ∀ y, (f y).oneCell' = true) (z : Value) (hzc : z.cells.size = 1) (T e : TypeId) (bytes : Nat) (hgd : o.guard = none) (l x : Operand)
    (ht : P.underlying T = some (.slice e)) (hi : (P.info? e).map (fun i => (i.zero, i.size, i.bytes)) = some (some z, 1, bytes))
    (ho : o.op = .call { callee := .builtin .append, args := #[l, x], argTypes := #[T, T] })
    (base : Nat) (v : Value) (xs ys : List α) (m c b : Nat) (hm : ys.length = m) (hs : a.eval l = v) (hx : a.eval x = .slice (some ⟨b, 0, none⟩) m c) (hb : w.heap[b]? = some (.cells (ys.map f).toArray e (0, 0)))
    (hown : OwnF f e w base v xs) (hlen : (xs.length + m) * bytes ≤ 140737488355328) (h63 : xs.length + m ≤ 9223372036854775807) (hbase : base ≤ w.heap.size)
    (h : ∀ v' w', Hid (OwnF f e w' base v' (xs ++ ys)) → Hid (Spare (fun j => v.ownBlock = some j) w w') → Hid (Wander w v v') → K (a.put o.dst v') w') :
    if Region.wanted o (yielded ops a.tmps) = true then Oper.wp P o a w K Q else E := by
  have hw : Region.wanted o (yielded ops a.tmps) = true := by simp [Region.wanted, hgd]
  rw [if_pos hw]
  obtain ⟨i0, hi0, hz0, hz1, hz2⟩ := info_parts hi
  obtain ⟨v', w', hrun, ho', hg', hwh⟩ := run_append_whither (P := P) w T o.type e i0 z bytes ht hi0 hz0 hz1 hz2 hzc base v xs.length (xs.map f) hown ⟨b, 0, none⟩ m c (ys.map f) (by simp [hm])
    (fun j y hj => by
      have e1 : (⟨b, 0, none⟩ : Addr).add j = ⟨b, j, none⟩ := by
        by_cases hj0 : j = 0
        · subst hj0; simp [Addr.add]
        · simp [Addr.add, hj0]
      rw [e1, cell_of_row _ b j _ e (0, 0) hb, ← hj]
      simp)
    (by intro v hv; obtain ⟨x, _, rfl⟩ := List.mem_map.1 hv; exact hf x) (by unfold maxLen; omega) hlen hbase
  unfold Oper.wp execOp
  simp only [ho, resolve, invoke, builtin, Sem.run_bind, Sem.run_pure, Result.andThen_ok, List.map_toArray, List.map_cons, List.map_nil, hs, hx, hrun]
  refine h v' w' ?_ (Spare.of_grown hg') (Wander.of_whither hwh)
  show World.ownsRow _ _ _ _ _ _ _
  rw [List.length_append, List.map_append, hm]
  exact ho'
end
theorem OwnS.form {α : Type} {f : α → List Value} {s : Nat} {e : TypeId} {w : World} {base : Nat} {v : Value} {xs : List α} (h : OwnS f s e w base v xs) (hn : 0 < xs.length) : ∃ q c, v = .slice (some ⟨q, 0, none⟩) xs.length c := by
  rcases h.2 with ⟨_, h0⟩ | ⟨g', cap, cur, hv, _⟩
  · omega
  · exact ⟨g', _, hv⟩
end Go.Proofs.YtdgpbhdihhchgaaGreatDoor

namespace Go.Proofs.YtdgpbhdihhchgaaGreatDoor
set_option linter.all false
set_option maxRecDepth 100000
open Go.RowKit
set_option linter.unusedVariables false
section
variable {P : Program} {w : World} {ops : Array Oper} {rest : List Oper} {o : Oper} {a : Act} {Q : Exit → Act → World → Prop}
theorem run_copy_blk (w : World) (dT sT ty elem : TypeId) (s g off dLen dCap : Nat) (ad : Addr) (sLen sCap : Nat) (cur : List Value) (t : TypeId) (cs : List Value)
    (hu : P.underlying dT = some (.slice elem)) (hs : (P.info? elem).map (·.size) = some s) (hg : Blk w g t cur) (hn : cs.length = Nat.min sLen dLen * s)
    (hsrc : ∀ j v, cs[j]? = some v → w.cell? (ad.add j) = some v) (hfit : off + cs.length ≤ cur.length) (h1 : ∀ v ∈ cs, v.oneCell' = true) :
    (Builtin.copy_ #[dT, sT] ty #[.slice (some ⟨g, off, none⟩) dLen dCap, .slice (some ad) sLen sCap]).run P w = .ok (goInt (Nat.min sLen dLen)) (w.setRow g (splice cur off cs).toArray) := by
  have hl := run_loadCells_list (P := P) w ad cs hsrc
  have hst := run_storeCells_at P g off t cs 0 cur.toArray w hg (by simpa using hfit) h1
  cases hq : P.info? elem with
  | none => simp [hq] at hs
  | some i =>
    have hi : i.size = s := by simpa [hq] using hs
    simp [Builtin.copy_, run_underlying hu, Builtin.lenOf, Builtin.firstCells, sizeOf, typeInfo, hq, hi, ← hn, hl, hst, splice]
/-- copy(dst, src) of structs of s cells, dst in a block that is known whole, src anywhere (in that block, too); as many go over as src has, or dst -/
theorem wpList_copy_blk (hgd : o.guard = none) (d x : Operand) (dT elem t : TypeId) (s k : Nat)
    (ho : o.op = .call { callee := .builtin .copy, args := #[d, x], argTypes := #[dT, dT] }) (hu : P.underlying dT = some (.slice elem)) (hs : (P.info? elem).map (·.size) = some s)
    (g off dLen dCap : Nat) (b so sLen sCap : Nat) (hd : a.eval d = .slice (some ⟨g, off, none⟩) dLen dCap) (hx : a.eval x = .slice (some ⟨b, so, none⟩) sLen sCap)
    (cur cs : List Value) (hg : Blk w g t cur) (hk : Nat.min sLen dLen = k) (hn : cs.length = k * s) (hsrc : ∀ j v, cs[j]? = some v → w.cell? ⟨b, so + j, none⟩ = some v) (hfit : off + k * s ≤ cur.length) (h1 : ∀ v ∈ cs, v.oneCell' = true)
    (h : ∀ w', Hid (Blk w' g t (splice cur off cs)) → Hid (Only g w w') → wpList P ops Q rest (a.put o.dst (goInt k)) w') : wpList P ops Q (o :: rest) a w := by
  have hrun := run_copy_blk (P := P) w dT dT o.type elem s g off dLen dCap ⟨b, so, none⟩ sLen sCap cur t cs hu hs hg (by rw [hk]; exact hn) (fun j v hj => by rw [Addr.add_mid]; exact hsrc j v hj) (by rw [hn]; exact hfit) h1
  rw [hk] at hrun
  refine wpList_plain hgd fun K hK => ?_
  unfold Oper.wp execOp
  simp only [ho, resolve, invoke, builtin, Sem.run_bind, Sem.run_pure, Result.andThen_ok, List.map_toArray, List.map_cons, List.map_nil, hd, hx, hrun]
  exact hK _ _ (h _ (setRow_heap w g _ _ t (0, 0) hg) ((Only.refl g w).setRow _))
/-- clear(x), x a slice of n structs of s cells in a block that is known whole -/
theorem wpList_clear_blk (hgd : o.guard = none) (x : Operand) (T elem t : TypeId) (s : Nat) (z : Value) (zs : List Value)
    (ho : o.op = .call { callee := .builtin .clear, args := #[x], argTypes := #[T] }) (hu : P.underlying T = some (.slice elem)) (hi : (P.info? elem).map (fun i => (i.zero, i.size)) = some (some z, s)) (hz : z.cells.size = s) (hz1 : ∀ v ∈ z.cells, v.oneCell' = true) (hs0 : 0 < s)
    (g off n c : Nat) (A : Option Addr) (hx : a.eval x = .slice A n c) (hA : 0 < n → A = some ⟨g, off, none⟩)
    (cur : List Value) (hg : Blk w g t cur) (hfit : off + n * s ≤ cur.length)
    (h : ∀ w' cs, Hid (cs.length = n * s) → Hid (Blk w' g t (splice cur off cs)) → Hid (Only g w w') → wpList P ops Q rest (a.put o.dst (.tuple #[])) w') : wpList P ops Q (o :: rest) a w := by
  have hzv := (zero_of_info hi).1
  rcases Nat.eq_zero_or_pos n with h0 | h0
  · subst h0
    have hrun : (Builtin.clear_ #[T] o.type #[.slice A 0 c]).run P w = .ok (.tuple #[]) w := by
      cases A <;> simp [Builtin.clear_, run_underlying hu]
    refine wpList_plain hgd fun K hK => ?_
    unfold Oper.wp execOp
    simp only [ho, resolve, invoke, builtin, Sem.run_bind, Sem.run_pure, Result.andThen_ok, List.map_toArray, List.map_cons, List.map_nil, hx, hrun]
    refine hK _ _ (h w [] (by show _ = _; simp) ?_ (Only.refl g w))
    show Blk w g t _
    simpa [splice] using hg
  · obtain rfl := hA h0
    obtain ⟨m, rfl⟩ : ∃ m, n = m + 1 := ⟨n - 1, by omega⟩
    have hl : (Builtin.zeroCells z.cells (m + 1)).toList.length = (m + 1) * s := by rw [Array.length_toList, size_zeroCells, hz]
    have h1 : ∀ v ∈ (Builtin.zeroCells z.cells (m + 1)).toList, v.oneCell' = true := by
      intro v hv
      simp only [Builtin.zeroCells, Array.toList_map, List.mem_map] at hv
      obtain ⟨i, _, rfl⟩ := hv
      have hlt : i % z.cells.size < z.cells.size := Nat.mod_lt _ (by omega)
      rw [getElem!_pos z.cells _ hlt]
      exact hz1 _ (Array.getElem_mem hlt)
    have hst := run_storeCells_at P g off t _ 0 cur.toArray w hg (by rw [hl]; simpa using hfit) h1
    have hrun : (Builtin.clear_ #[T] o.type #[.slice (some ⟨g, off, none⟩) (m + 1) c]).run P w = .ok (.tuple #[]) (w.setRow g (splice cur off (Builtin.zeroCells z.cells (m + 1)).toList).toArray) := by
      simp only [Nat.add_zero] at hst
      simp [Builtin.clear_, run_underlying hu, hzv, splice]
      simp at hst
      rw [hst]
      rfl
    refine wpList_plain hgd fun K hK => ?_
    unfold Oper.wp execOp
    simp only [ho, resolve, invoke, builtin, Sem.run_bind, Sem.run_pure, Result.andThen_ok, List.map_toArray, List.map_cons, List.map_nil, hx, hrun]
    exact hK _ _ (h _ _ hl (setRow_heap w g _ _ t (0, 0) hg) ((Only.refl g w).setRow _))
/-- append(s[:i], v...) where there is room: the block turns in place -/
theorem wpList_append_room (hgd : o.guard = none) (l x : Operand) (T elem : TypeId) (s : Nat)
    (ho : o.op = .call { callee := .builtin .append, args := #[l, x], argTypes := #[T, T] }) (hu : P.underlying T = some (.slice elem)) (hs : (P.info? elem).map (·.size) = some s)
    (g sLen sCap b so m c : Nat) (hl : a.eval l = .slice (some ⟨g, 0, none⟩) sLen sCap) (hx : a.eval x = .slice (some ⟨b, so, none⟩) m c)
    (cur cs : List Value) (hg : Blk w g elem cur) (hn : cs.length = m * s) (hsrc : ∀ j v, cs[j]? = some v → w.cell? ⟨b, so + j, none⟩ = some v) (hroom : sLen + m ≤ sCap) (hfit : sLen * s + m * s ≤ cur.length) (h1 : ∀ v ∈ cs, v.oneCell' = true)
    (h : ∀ w', Hid (Blk w' g elem (splice cur (sLen * s) cs)) → Hid (Only g w w') → wpList P ops Q rest (a.put o.dst (.slice (some ⟨g, 0, none⟩) (sLen + m) sCap)) w') : wpList P ops Q (o :: rest) a w := by
  cases hq : P.info? elem with
  | none => simp [hq] at hs
  | some i =>
    have hi : i.size = s := by simpa [hq] using hs
    have hrun := run_append_room (P := P) w T o.type elem i hu hq g sLen sCap cur.toArray hg ⟨b, so, none⟩ m c cs (by rw [hi, hn]) (fun j v hj => by rw [Addr.add_mid]; exact hsrc j v hj) h1 hroom (by rw [hi, hn]; simpa using hfit)
    rw [hi] at hrun
    refine wpList_plain hgd fun K hK => ?_
    unfold Oper.wp execOp
    simp only [ho, resolve, invoke, builtin, Sem.run_bind, Sem.run_pure, Result.andThen_ok, List.map_toArray, List.map_cons, List.map_nil, hl, hx, hrun]
    refine hK _ _ (h _ ?_ ((Only.refl g w).setRow _))
    have := setRow_heap w g cur.toArray (splice cur (sLen * s) cs).toArray elem (0, 0) hg
    show Blk _ _ _ _
    unfold Blk
    simpa [splice] using this
/-- append(s[:i], make([]T, k)...) where there is no room: a new block, all behind the old ones zero (not told), the old block as it was -/
theorem wpList_append_more (hgd : o.guard = none) (l x : Operand) (T tn elem t : TypeId) (s bytes : Nat) (z : Value) (kn : IntKind)
    (ho : o.op = .call { callee := .builtin .append, args := #[l, x], argTypes := #[T, tn] }) (hu : P.underlying T = some (.slice elem)) (htn : P.underlying tn = some (.int kn)) (hi : (P.info? elem).map (fun i => (i.zero, i.size, i.bytes)) = some (some z, s, bytes)) (hz : z.cells.size = s) (hs0 : 0 < s)
    (g sLen sCap k : Nat) (hl : a.eval l = .slice (some ⟨g, 0, none⟩) sLen sCap) (kk : IntKind) (C : Int) (hx : a.eval x = .int kk C) (hC : C = (k : Int))
    (cur : List Value) (hg : Blk w g t cur) (hfit : sLen * s ≤ cur.length) (hgrow : sCap < sLen + k) (h0 : 0 < k) (hlen : (sLen + k) * bytes ≤ 140737488355328) (h63 : sLen + k ≤ 9223372036854775807)
    (h : ∀ w' h' cap cs, Hid (w.heap.size ≤ h' ∧ h' < w'.heap.size) → Hid (Blk w' h' elem (cur.take (sLen * s) ++ cs)) → Hid ((cur.take (sLen * s) ++ cs).length = cap * s) → sLen + k ≤ cap → cap ≤ maxLen → Hid (Below w.heap.size w w') →
      wpList P ops Q rest (a.put o.dst (.slice (some ⟨h', 0, none⟩) (sLen + k) cap)) w') : wpList P ops Q (o :: rest) a w := by
  subst hC
  obtain ⟨i, hq, hz0, hz1, hz2⟩ := info_parts hi
  have hold : (Builtin.firstCells i.size sLen (.slice (some ⟨g, 0, none⟩) sLen sCap)).run P w.drew = .ok (cur.take (sLen * s)).toArray w.drew := by
    refine run_firstCells_some w.drew i.size sLen ⟨g, 0, none⟩ sLen sCap _ (by rw [hz1, List.length_take]; omega) fun j v hj => ?_
    rw [Addr.add_mid, Nat.zero_add]
    have := (Blk.cell (Blk.drew hg) j)
    rw [this, ← hj, List.getElem?_take]
    rw [List.getElem?_take] at hj
    split
    · rfl
    · rename_i hlt
      rw [if_neg hlt] at hj
      cases hj
  have hn : ¬ (sLen + k ≤ sCap) := by omega
  have hk0 : k ≠ 0 := by omega
  have hw : IntKind.i64.wrap (k : Int) = k := by rw [IntKind.wrap_i64]; omega
  have hneg : ¬ ((k : Int) < 0) := by omega
  have h63' : ¬ (9223372036854775807 < ((sLen : Int) + (k : Int))) := by omega
  have hb : k * i.bytes ≤ 140737488355328 := by rw [hz2]; exact Nat.le_trans (Nat.mul_le_mul_right _ (by omega)) hlen
  have h48 : ¬ (281474976710656 < (k : Int) * (i.bytes : Int)) := by rw [← Int.natCast_mul]; omega
  have h48' : ¬ (281474976710656 < Builtin.nextslicecap (sLen + k) sCap * i.bytes) := by have := growslice_fits (bytes := i.bytes) hgrow (by rw [hz2]; exact hlen); omega
  have hns : ¬ (k * i.size = 0) := Nat.mul_ne_zero hk0 (by omega)
  have hrun : (Builtin.append_ #[T, tn] o.type #[.slice (some ⟨g, 0, none⟩) sLen sCap, .int kk k]).run P w =
      .ok (.slice (some ⟨w.heap.size, 0, none⟩) (sLen + k) (grownCap w (sLen + k) sCap elem)) (w.drew.alloc (.cells ((cur.take (sLen * s)).toArray ++ Builtin.zeroCells z.cells k ++ Builtin.zeroCells z.cells (grownCap w (sLen + k) sCap elem - (sLen + k))) elem)) := by
    simp [Builtin.append_, run_underlying hu, run_underlying htn, sizeOf, typeInfo, zeroValue, hq, hz0, asInt, asIntOf, hw, hneg, h48, hn, h63', h48', hns, Question.forced, hold, newRow, grownCap]
  have hge := grownCap_ge w (sLen + k) sCap elem
  have hcm : grownCap w (sLen + k) sCap elem ≤ maxLen := grownCap_le_maxLen w (sLen + k) sCap elem (by unfold maxLen; omega)
  obtain ⟨cap, hcap⟩ : ∃ cap, cap = grownCap w (sLen + k) sCap elem := ⟨_, rfl⟩
  rw [← hcap] at hrun hge hcm
  refine wpList_plain hgd fun K hK => ?_
  unfold Oper.wp execOp
  simp only [ho, resolve, invoke, builtin, Sem.run_bind, Sem.run_pure, Result.andThen_ok, List.map_toArray, List.map_cons, List.map_nil, hl, hx, hrun]
  refine hK _ _ (h _ w.heap.size cap ((Builtin.zeroCells z.cells k).toList ++ (Builtin.zeroCells z.cells (cap - (sLen + k))).toList) ⟨Nat.le_refl _, by simp⟩ ?_ ?_ hge hcm ?_)
  · refine (heap_alloc_new w.drew _).trans ?_
    simp
  · have e1 : (Builtin.zeroCells z.cells k).toList.length = k * s := by rw [Array.length_toList, size_zeroCells, hz]
    have e2 : (Builtin.zeroCells z.cells (cap - (sLen + k))).toList.length = (cap - (sLen + k)) * s := by rw [Array.length_toList, size_zeroCells, hz]
    show _ = _
    rw [List.length_append, List.length_append, List.length_take, e1, e2, Nat.min_eq_left hfit, ← Nat.add_mul, ← Nat.add_mul]
    congr 1
    omega
  · exact (Below.refl _ _).drew.alloc (Nat.le_refl _) _
/-- append(l, x...), l the call's own row of structs, x such as lie anywhere: where the new slice heads is told -/
theorem wpList_append_holdSW {α : Type} (hgd : o.guard = none) (l x : Operand) (f : α → List Value) (s : Nat) (hs0 : 0 < s) (hfl : ∀ y, (f y).length = s) (hf : ∀ y, ∀ u ∈ f y, u.oneCell' = true) (z : Value) (hzc : z.cells.size = s) (T e : TypeId) (bytes : Nat)
    (ht : P.underlying T = some (.slice e)) (hi : (P.info? e).map (fun i => (i.zero, i.size, i.bytes)) = some (some z, s, bytes))
    (ho : o.op = .call { callee := .builtin .append, args := #[l, x], argTypes := #[T, T] })
    (base : Nat) (v : Value) (xs : List α) (hs : a.eval l = v) (hown : OwnS f s e w base v xs) (b so m c : Nat) (ys : List α) (hx : a.eval x = .slice (some ⟨b, so, none⟩) m c)
    (hm : ys.length = m) (hsrc : ∀ j u, (ys.flatMap f)[j]? = some u → w.cell? ⟨b, so + j, none⟩ = some u) (hlen : (xs.length + ys.length) * bytes ≤ 140737488355328) (h63 : xs.length + ys.length ≤ 9223372036854775807) (hbase : base ≤ w.heap.size)
    (h : ∀ v' w', Hid (OwnS f s e w' base v' (xs ++ ys)) → Hid (Spare (fun j => v.ownBlock = some j) w w') → Hid (Wander w v v') → wpList P ops Q rest (a.put o.dst v') w') :
    wpList P ops Q (o :: rest) a w := by
  obtain ⟨i0, hi0, hz0, hz1, hz2⟩ := info_parts hi
  obtain ⟨v', w', hrun, ho', hg', _, hwh⟩ := run_append_own_at (P := P) w base T o.type e i0 z s bytes ht hi0 hz0 hz1 hz2 hzc hs0 v xs.length (xs.flatMap f) hown ⟨b, so, none⟩ m c (ys.flatMap f) (by rw [flatMap_len hfl, hm])
    (fun j u hj => by rw [Addr.add_mid]; exact hsrc j u hj) (by intro u hu; obtain ⟨y, _, hy⟩ := List.mem_flatMap.1 hu; exact hf y u hy) (by unfold maxLen; omega) (by rw [← hm]; exact hlen) hbase
  refine wpList_plain hgd fun K hK => ?_
  unfold Oper.wp execOp
  simp only [ho, resolve, invoke, builtin, Sem.run_bind, Sem.run_pure, Result.andThen_ok, List.map_toArray, List.map_cons, List.map_nil, hs, hx, hrun]
  refine hK _ _ (h v' w' ?_ (Spare.of_grown hg') ?_)
  · show World.ownsRow _ _ _ _ _ _ _
    rw [List.length_append, List.flatMap_append, hm]
    exact ho'
  · intro i hi
    rcases hwh with h1 | h1
    · exact .inl (h1 ▸ hi)
    · rw [h1] at hi
      injection hi with hi
      exact .inr (by omega)
end
section
variable {α : Type} {f : α → List Value} {s : Nat} {w w' : World} {base q n c : Nat} {e : TypeId} {xs : List α} {v : Value} {A : Option Addr}
/-- such a row, and the block that bears it -/
theorem OwnS.blk (h : OwnS f s e w base (.slice (some ⟨q, 0, none⟩) n c) xs) : base ≤ q ∧ xs.length = n ∧ n ≤ c ∧ c ≤ maxLen ∧ ∃ cs, Blk w q e cs ∧ cs.length = c * s ∧ cs.take (n * s) = xs.flatMap f := by
  obtain ⟨hb, hn, cur, hg, _, htk, hnc, hcm, hcs⟩ := h.heap
  exact ⟨hb, hn, hnc, hcm, cur.toList, by unfold Blk; rw [hg], by rw [Array.length_toList, hcs], htk⟩
theorem OwnS.of_blk (hf : ∀ x, (f x).length = s) {cs : List Value} (hb : base ≤ q) (hB : Blk w q e cs) (hc : cs.length = c * s) (hcm : c ≤ maxLen) (hn : xs.length = n) (hnc : n ≤ c) (ht : cs.take (n * s) = xs.flatMap f) : OwnS f s e w base (.slice (some ⟨q, 0, none⟩) n c) xs :=
  ⟨by rw [flatMap_len hf], .inr ⟨q, c, cs.toArray, by rw [hn], hb, hB, by rw [hn]; exact hnc, hcm, by simpa using hc, by rw [hn]; simpa using ht⟩⟩
end
end Go.Proofs.YtdgpbhdihhchgaaGreatDoor

namespace Go.Proofs.YtdgpbhdihhchgaaGreatDoor
set_option linter.all false
set_option maxRecDepth 100000
open Go.RowKit
set_option linter.unusedVariables false
section
variable {w w' : World} {base base' g : Nat} {v : Value} {L : List DItem} {S : Nat → Prop}
end
theorem lt_of_cellD {w : World} {p : Addr} {v : Value} (h : w.cell? p = some v) : p.block < w.heap.size := by
  rcases Nat.lt_or_ge p.block w.heap.size with h' | h'
  · exact h'
  · simp [World.cell?, Array.getElem?_eq_none h'] at h
end Go.Proofs.YtdgpbhdihhchgaaGreatDoor

namespace Go.Proofs.YtdgpbhdihhchgaaGreatDoor
set_option linter.all false
set_option maxRecDepth 100000
open Go.RowKit
set_option linter.unusedVariables false
theorem empty_beq {s : ByteArray} : (s.toList == []) = decide (s.size = 0) := by
  rw [Bool.eq_iff_iff, beq_iff_eq, decide_eq_true_iff, Lib.toList_data, Lib.size_eq]
  exact List.length_eq_zero_iff.symm
theorem empty_isEmpty {s : ByteArray} : s.toList.isEmpty = decide (s.size = 0) := by
  rw [← empty_beq, Bool.eq_iff_iff, List.isEmpty_iff, beq_iff_eq]
end Go.Proofs.YtdgpbhdihhchgaaGreatDoor

namespace Go.Proofs.YtdgpbhdihhchgaaGreatDoor
set_option linter.all false
set_option maxRecDepth 100000
open Go.RowKit
set_option linter.unusedVariables false
theorem take_snocD {L : List DItem} {i : Nat} (h : i < L.length) : L.take (i + 1) = L.take i ++ [L[i]] := List.take_succ_eq_append_getElem h
theorem OwnS.oneCD {α : Type} {f : α → List Value} {s : Nat} {e : TypeId} {w : World} {base : Nat} {v : Value} {xs : List α} (h : OwnS f s e w base v xs) : v.oneCell' = true := by
  rcases h.2 with ⟨rfl, _⟩ | ⟨_, _, _, rfl, _⟩ <;> rfl
end Go.Proofs.YtdgpbhdihhchgaaGreatDoor

namespace Go.Proofs.YtdgpbhdihhchgaaGreatDoor
set_option linter.all false
set_option maxRecDepth 100000
open Go.RowKit
set_option linter.unusedVariables false
noncomputable def dTold (p a : ByteArray) (y : DItem) : Bool := fitsOf p.data.toList y.1.data.toList && (decide (a.size = 0) || ahd a y.1)
section
variable {L : List DItem} {p a : ByteArray} {i : Nat} {m : Int}
theorem dNames_told (h : i < L.length) (ht : dTold p a L[i] = true) : dNames (L.take (i + 1)) p a = dNames (L.take i) p a ++ [L[i].1] := by
  unfold dTold at ht
  unfold dNames
  rw [take_snocD h, List.filter_append, List.map_append, List.filter_cons, if_pos ht]
  rfl
theorem dNames_cut (i : Nat) : dNames L p a = dNames (L.take i) p a ++ dNames (L.drop i) p a := by
  unfold dNames
  rw [← List.map_append, ← List.filter_append, List.take_append_drop]
theorem dNames_le (i : Nat) : (dNames (L.take i) p a).length ≤ i := by
  unfold dNames
  rw [List.length_map]
  exact Nat.le_trans (List.length_filter_le _ _) (List.length_take_le _ _)
theorem dNames_more (h : i < L.length) (ht : dTold p a L[i] = true) (hm : ((dNames (L.take i) p a).length : Int) = m) : (dNames L p a).take m.toNat = dNames (L.take i) p a ∧ decide (m < ((dNames L p a).length : Int)) = true := by
  have e := dNames_cut (L := L) (p := p) (a := a) (i + 1)
  rw [dNames_told h ht] at e
  have hk : m.toNat = (dNames (L.take i) p a).length := by omega
  constructor
  · rw [e, hk, List.append_assoc, List.take_left]
  · rw [e, decide_eq_true_iff]
    simp only [List.length_append, List.length_cons, List.length_nil]
    omega
end
def txtCells (x : ByteArray) : List Value := [.string x]
theorem txtCells_len (x : ByteArray) : (txtCells x).length = 1 := rfl
theorem txtCells_one (x : ByteArray) : ∀ u ∈ txtCells x, u.oneCell' = true := by
  intro u hu
  simp only [txtCells, List.mem_cons, List.not_mem_nil, or_false] at hu
  rw [hu]; rfl
theorem lit_cell1 (x : ByteArray) (w : World) (b : Nat) (h : Blk w b 9 (txtCells x)) : ∀ j u, ([x].flatMap txtCells)[j]? = some u → w.cell? ⟨b, 0 + j, none⟩ = some u := fun j u hj => by
  rw [Nat.zero_add, h.cell, ← hj]
  simp
/-- names that are answered: new memory -/
def LsPost (w : World) (xs : List ByteArray) (more : Bool) (n : Int) (e : Ending) (w' : World) : Prop :=
  ∃ v, e = .returned (.tuple #[v, .bool more, .int .i64 n]) ∧ OwnS txtCells 1 9 w' w.heap.size v xs ∧ Below w.heap.size w w'
theorem LsPost.err {w w' : World} {n : Int} (h : Below w.heap.size w w') : LsPost w [] false n (.returned (.tuple #[.slice none 0 0, .bool false, .int .i64 n])) w' := ⟨_, rfl, OwnS.nil _ _ _ _ _, h⟩
set_option hygiene false in
local macro "dl_skip" : tactic => `(tactic| (
  go_wp2_with fail
  go_roundw
  case rel => exact ⟨i + 1, by omega, by go_num, NX.out ▸ OC.out, by rw [NX.out]; exact LE.out, LC.out⟩
  case measure => simp [intOf]; omega))
set_option hygiene false in
local macro "dl_told" : tactic => `(tactic| (
  by_cases hlm : ((dNames (L.take i) p a).length : Int) = m
  · have hq := dNames_more hil TD.out hlm
    have ANS : Hid (LsPost w (dNames (L.take i) p a) true 0 (.returned (.tuple #[.slice A8 n8 c8, .bool true, .int .i64 0])) wc) := ⟨_, rfl, OC.out, LC.out⟩
    have FIN : Hid (∀ e w', LsPost w (dNames (L.take i) p a) true 0 e w' → LsPost w (dListN L p a m) (dListM L p a m) (dListE L p a m) e w') := fun e w' h => by
      have e1 : dListN L p a m = dNames (L.take i) p a := by unfold dListN; rw [HE.out, if_pos rfl]; exact hq.1
      have e2 : dListM L p a m = true := by unfold dListM; rw [HE.out, if_pos rfl]; exact hq.2
      rw [e1, e2, HE.out]
      exact h
    have hmq : ((n8 : Int) == m) = true := by rw [← hlm, HN8.out]; simp
    clear hq
    go_wp2_with fail
    go_ret3
    exact FIN.out _ _ ANS.out
  · have hmq : ((n8 : Int) == m) = false := by rw [HN8.out]; simpa using hlm
    have LE2 : Hid (((dNames (L.take i) p a).length : Int) + 1 ≤ m) := by have := LE.out; show _ ≤ _; omega
    have HBl : Hid (((dNames (L.take i) p a).length + [x1].length) * 16 ≤ 140737488355328 ∧ (dNames (L.take i) p a).length + [x1].length ≤ 9223372036854775807) := by have := dNames_le (L := L) (p := p) (a := a) i; show _ ∧ _; simp only [List.length_cons, List.length_nil]; omega
    have NX : Hid (dNames (L.take (i + 1)) p a = dNames (L.take i) p a ++ [x1]) := by rw [HX1.out]; exact dNames_told hil TD.out
    clear hlm
    go_wp2_with (first
      | ((with_reducible show wpList _ _ _ (⟨some 113, _, _, _, _, _⟩ :: _) _ _); go_loud (refine wpList_slice_blk rfl _ _ _ _ rfl Tryz.underlying78 [.string x1] (by kernel_rfl) ?_); intro gq w7 hq1 hq2 V7 L7; have O7 := Lib.hid (OC.out.below L7.out); have LC7 := Lib.hid (LC.out.trans (L7.out.mono LC.out.size)))
      | (at_builtin; go_loud (refine wpList_append_holdSW rfl (.tmp 104) (.tmp 113) txtCells 1 (by decide) txtCells_len txtCells_one (.string ⟨#[]⟩) rfl 78 9 16 Tryz.underlying78 info_str rfl w.heap.size _ (dNames (L.take i) p a) rfl O7.out gq 0 1 1 [x1] rfl rfl (lit_cell1 x1 _ gq V7.out) HBl.out.1 HBl.out.2 LC7.out.size ?_); intro v8 w8 O8 S8 W8)
      | fail)
    have L8 : Hid (Below w.heap.size w w8) := LC7.out.trans (S8.out.below (fun j hj => (O7.out.block hj).1) LC7.out.size)
    have LE3 : Hid (((dNames (L.take i) p a ++ [x1]).length : Int) ≤ m) := by have := LE2.out; show _ ≤ _; simp only [List.length_append, List.length_cons, List.length_nil]; omega
    go_roundw
    case rel => exact ⟨i + 1, by omega, by go_num, NX.out ▸ O8.out, by rw [NX.out]; exact LE3.out, L8.out⟩
    case measure => simp [intOf]; omega))
end Go.Proofs.YtdgpbhdihhchgaaGreatDoor

namespace Go.Proofs.YtdgpbhdihhchgaaGreatDoor
set_option linter.all false
set_option maxRecDepth 100000
open Go.RowKit
set_option linter.unusedVariables false
/-- a node and where its bytes lie: the block, and what heads the two rows -/
abbrev VP := VNode × Option (Nat × Value × Value)
def vpPtr (o : Option (Nat × Value × Value)) : Value := .pointer (o.map fun t => ⟨t.1, 0, none⟩)
def vpCells (y : VP) : List Value := [.int .i64 y.1.n, .int .u8 y.1.kind, .int .i64 y.1.par, strV y.1.name, vpPtr y.2]
theorem vpCells_len (y : VP) : (vpCells y).length = 5 := rfl
/-- block g is the document's volume, its nodes in a row that v heads, in blocks from base on -/
structure RVol (w : World) (base g : Nat) (v : Value) (V : VolM) (M : List VP) : Prop where
  ge : base ≤ g
  blk : Blk w g 101 [.int .i64 V.quota, .int .i64 V.last, v]
  row : OwnS vpCells 5 98 w base v M
  is : M.map (·.1) = V.l
  dirs : ∀ y ∈ M, y.1.kind = 1 → y.2 = none
  files : ∀ y ∈ M, y.1.kind = 2 → ∃ b vB vZ, y.2 = some (b, vB, vZ) ∧ RDat w base b vB vZ y.1.B y.1.Z
  ok : Vok V
  big : V.last ≤ 1048576
/-- the blocks that may turn, and all -/
def rvS (g : Nat) (v : Value) : Nat → Prop := fun j => j = g ∨ v.ownBlock = some j
def rvA (g : Nat) (v : Value) (M : List VP) : Nat → Prop := fun j => rvS g v j ∨ ∃ y ∈ M, ∃ b vB vZ, y.2 = some (b, vB, vZ) ∧ rdS b vB vZ j
section
variable {w w' : World} {base base' g i : Nat} {v : Value} {V : VolM} {M : List VP} {S : Nat → Prop} {n : Int}
theorem RVol.spare (h : RVol w base g v V M) (a : Spare S w w') (hs : ∀ j, rvA g v M j → ¬ S j) : RVol w' base g v V M :=
  ⟨h.ge, h.blk.spare a (hs g (.inl (.inl rfl))), h.row.sparS a fun i hi => hs i (.inl (.inr hi)), h.is, h.dirs, fun y hy hk => by
    obtain ⟨b, vB, vZ, e, d⟩ := h.files y hy hk
    exact ⟨b, vB, vZ, e, d.spare a fun j hj => hs j (.inr ⟨y, hy, b, vB, vZ, e, hj⟩)⟩, h.ok, h.big⟩
theorem RVol.below (h : RVol w base g v V M) (hb : Below w.heap.size w w') : RVol w' base g v V M := h.spare (Spare.of_over (fun _ => False) hb) fun _ _ h => h
theorem RVol.len (h : RVol w base g v V M) : ∃ A c, v = .slice A V.l.length c := by
  have hl : M.length = V.l.length := by rw [← h.is, List.length_map]
  rcases h.row.2 with ⟨h1, h2⟩ | ⟨q, cap, cur, h1, _⟩
  · exact ⟨none, 0, by rw [h1, ← hl, h2]⟩
  · exact ⟨_, _, by rw [h1, hl]⟩
theorem RVol.get (h : RVol w base g v V M) (hi : i < V.l.length) : ∃ hm : i < M.length, (M[i]'hm).1 = V.l[i] := by
  have hl : M.length = V.l.length := by rw [← h.is, List.length_map]
  refine ⟨by omega, ?_⟩
  have h1 : (M.map (·.1))[i]? = V.l[i]? := by rw [h.is]
  rw [List.getElem?_map, List.getElem?_eq_getElem (by omega), List.getElem?_eq_getElem hi] at h1
  simpa using h1
/-- what one node is, where it lies -/
theorem RVol.at (h : RVol w base g v V M) (hi : i < V.l.length) : ∃ q c, v = .slice (some ⟨q, 0, none⟩) V.l.length c ∧ V.l.length ≤ c ∧ c ≤ maxLen ∧ w.cell? ⟨q, i * 5, none⟩ = some (.int .i64 V.l[i].n) ∧ w.cell? ⟨q, i * 5 + 1, none⟩ = some (.int .u8 V.l[i].kind) ∧
    w.cell? ⟨q, i * 5 + 2, none⟩ = some (.int .i64 V.l[i].par) ∧ w.cell? ⟨q, i * 5 + 3, none⟩ = some (strV V.l[i].name) ∧ ∃ hm : i < M.length, w.cell? ⟨q, i * 5 + 4, none⟩ = some (vpPtr M[i].2) := by
  have hl : M.length = V.l.length := by rw [← h.is, List.length_map]
  obtain ⟨hm, he⟩ := h.get hi
  obtain ⟨A, n, c, rfl, hh⟩ := h.row.holds (by decide) vpCells_len
  rcases h.row.2 with ⟨h1, h2⟩ | ⟨q, cap, cur, h1, _, _, h3, h4, _⟩
  · omega
  · injection h1 with e1 e2 e3
    subst e1 e2 e3
    obtain ⟨b, off, e, _, hc⟩ := hh.cells (by omega)
    injection e with e
    injection e with e1 e2
    subst e1 e2
    have hx : M[i]? = some M[i] := List.getElem?_eq_getElem hm
    have k0 := hc i _ hx 0 _ rfl
    have k1 := hc i _ hx 1 _ rfl
    have k2 := hc i _ hx 2 _ rfl
    have k3 := hc i _ hx 3 _ rfl
    have k4 := hc i _ hx 4 _ rfl
    rw [Nat.zero_add] at k0 k1 k2 k3 k4
    rw [he] at k0 k1 k2 k3
    exact ⟨q, c, by rw [← hl], by rw [← hl]; exact h3, h4, k0, k1, k2, k3, hm, k4⟩
theorem RVol.set_ge (h : RVol w base g v V M) : ∀ j, rvA g v M j → base ≤ j ∧ j < w.heap.size := fun j hj => by
  rcases hj with (rfl | hj) | ⟨y, hy, b, vB, vZ, e, hj⟩
  · exact ⟨h.ge, h.blk.lt⟩
  · exact ⟨(h.row.block hj).1, h.row.lt hj⟩
  · have hx : y.1 ∈ V.l := by rw [← h.is]; exact List.mem_map.2 ⟨y, hy, rfl⟩
    rcases h.ok.kind _ hx with hk | hk
    · rw [h.dirs y hy hk] at e; cases e
    · obtain ⟨b', vB', vZ', e', d⟩ := h.files y hy hk
      rw [e'] at e
      injection e with e
      injection e with e1 e
      injection e with e2 e3
      subst e1 e2 e3
      exact ⟨d.set_ge j hj, d.set_lt j hj⟩
theorem Vok.small (h : Vok V) (hb : V.last ≤ 1048576) {x : VNode} (hx : x ∈ V.l) : 1 ≤ x.n ∧ x.n ≤ 1048576 := by
  have := h.num x hx
  omega
theorem place_here {L : List VNode} (hi : i < L.length) (h : L[i].n = n) (hn : ∀ j (hj : j < i), (L[j]'(by omega)).n ≠ n) : vPlace L n = (i : Int) ∧ vIx L n = i := by
  have h2 : vIx L n = i := by
    unfold vIx
    exact (List.findIdx_eq hi).2 ⟨by simpa using h, fun j hj => by simpa using hn j hj⟩
  unfold vPlace
  rw [h2, if_pos hi]
  exact ⟨rfl, rfl⟩
end
end Go.Proofs.YtdgpbhdihhchgaaGreatDoor

namespace Go.Proofs.YtdgpbhdihhchgaaGreatDoor
set_option linter.all false
set_option maxRecDepth 100000
open Go.RowKit
set_option linter.unusedVariables false
theorem vGo_kind {L : List VNode} {m : Int} {s : NameL} {r : List NameL} (h : vKind L m ≠ 1) : vGo L m (s :: r) = (0, 9) := by
  show (if vKind L m ≠ 1 then ((0 : Int), (9 : Int)) else _) = _
  rw [if_pos h]
theorem vGo_none {L : List VNode} {m : Int} {s : NameL} {r : List NameL} (h : vKind L m = 1) (hc : vChild L m s = 0) : vGo L m (s :: r) = (0, 7) := by
  show (if vKind L m ≠ 1 then ((0 : Int), (9 : Int)) else if vChild L m s = 0 then _ else _) = _
  rw [if_neg (fun k => k h), if_pos hc]
theorem vGo_on {L : List VNode} {m : Int} {s : NameL} {r : List NameL} (h : vKind L m = 1) (hc : vChild L m s ≠ 0) : vGo L m (s :: r) = vGo L (vChild L m s) r := by
  show (if vKind L m ≠ 1 then ((0 : Int), (9 : Int)) else if vChild L m s = 0 then _ else _) = _
  rw [if_neg (fun k => k h), if_neg hc]
theorem vFind_ok {L : List VNode} {p : NameL} (h : parseErr p = 0) : vFind L p = vGo L 1 (parseOf p) := by
  unfold vFind
  rw [if_neg (fun k => k h)]
theorem vFind_bad {L : List VNode} {p : NameL} (h : parseErr p ≠ 0) : vFind L p = (0, parseErr p) := by
  unfold vFind
  rw [if_pos h]
theorem dir_len (p : NameL) : (dirOf p).length ≤ 1032 ∧ (lastOf p).length ≤ 128 := by
  have hn := parse_names (l := p)
  have h8 := parse_le8 p
  unfold dirOf lastOf
  split
  · refine ⟨?_, ?_⟩
    · refine Nat.le_trans (joinB_le _ 128 fun q hq => name_bytes (hn q (List.dropLast_subset _ hq))) ?_
      rw [List.length_dropLast]
      omega
    · cases h : (parseOf p).getLast? with
      | none => exact Nat.zero_le _
      | some q => exact name_bytes (hn q (List.mem_of_getLast? h))
  · exact ⟨Nat.zero_le _, Nat.zero_le _⟩
end Go.Proofs.YtdgpbhdihhchgaaGreatDoor

namespace Go.Proofs.YtdgpbhdihhchgaaGreatDoor
set_option linter.all false
set_option maxRecDepth 100000
open Go.RowKit
set_option linter.unusedVariables false
section
variable {w w' : World} {base base' g i : Nat} {v : Value} {V : VolM} {M : List VP} {S : Nat → Prop} {n : Int}
theorem RVol.file (h : RVol w base g v V M) (hi : i < V.l.length) (hk : V.l[i].kind = 2) : ∃ (hm : i < M.length) (b : Nat) (vB vZ : Value), M[i].2 = some (b, vB, vZ) ∧ RDat w base b vB vZ V.l[i].B V.l[i].Z := by
  obtain ⟨hm, he⟩ := h.get hi
  obtain ⟨b, vB, vZ, e, d⟩ := h.files M[i] (List.getElem_mem hm) (by rw [he]; exact hk)
  rw [he] at d
  exact ⟨hm, b, vB, vZ, e, d⟩
end
end Go.Proofs.YtdgpbhdihhchgaaGreatDoor

namespace Go.Proofs.YtdgpbhdihhchgaaGreatDoor
set_option linter.all false
set_option maxRecDepth 100000
open Go.RowKit
set_option linter.unusedVariables false
section
variable {V : VolM} {L : List VNode} {n m t : Int} {ps : List NameL} {x : VNode}
theorem Way.last (h : Vok V) (hw : Way V.l n ps) (h1 : n ≠ 1) : ∃ x qs, vAt V.l n = some x ∧ x.n = n ∧ ps = qs ++ [x.name] ∧ Way V.l x.par qs ∧ 1 < n := by
  cases hw with
  | root => exact absurd rfl h1
  | @step x qs a b c =>
    have := h.num x (vAt_mem a).1
    exact ⟨x, qs, a, rfl, rfl, c, by omega⟩
/-- so much fuel is enough -/
theorem Way.bel (hv : Vok V) (h : Way V.l n ps) : ∀ f, ps.length < f → vBel V.l f n t = vBel V.l (ps.length + 1) n t := by
  induction h with
  | root =>
    intro f hf
    cases f with
    | zero => omega
    | succ f => rfl
  | @step x ps a b c ih =>
    intro f hf
    cases f with
    | zero => omega
    | succ f =>
      have hx := hv.num x (vAt_mem a).1
      have e : ∀ k, vBel V.l (k + 1) x.n t = (decide (x.par = t) || vBel V.l k x.par t) := fun k => by
        show (if x.n ≤ 1 then false else match vAt V.l x.n with | some x => decide (x.par = t) || vBel V.l k x.par t | none => false) = _
        rw [if_neg (by omega), a]
      rw [e, e, List.length_append, ih f (by simp at hf; omega)]
      rfl
theorem bel_root (hv : Vok V) : vBel V.l (([] : List NameL).length + 1) 1 t = false := rfl
theorem bel_step (hv : Vok V) (a : vAt V.l n = some x) (h1 : 1 < n) {qs : List NameL} : vBel V.l ((qs ++ [x.name]).length + 1) n t = (decide (x.par = t) || vBel V.l (qs.length + 1) x.par t) := by
  rw [List.length_append]
  show (if n ≤ 1 then false else match vAt V.l n with | some x => decide (x.par = t) || vBel V.l (qs.length + 1) x.par t | none => false) = _
  rw [if_neg (by omega), a]
end
end Go.Proofs.YtdgpbhdihhchgaaGreatDoor
