/-
  Layer 14 (extent): what a file of the program is and what its methods answer, as the walks of the laws want it ('ExtI': whoever proves the program's contracts gives one); the program's file and the document's beside it ('Two').
-/
import Derived.Test.YtgbhnnobbciemaaExA
import Derived.Test.YtgbhnnobbciemaaEx2
import Derived.Test.YtgbhnnobbciemaaEx4
import Derived.Test.YtgbhnnobbciemaaSpoilL
namespace Go.Proofs.Ytgbhnnobbciemaa
set_option maxRecDepth 100000
open Go.RowKit
set_option linter.unusedVariables false

/-- the slice value '.slice A n c' holds extents, all in memory from block base on and below block top -/
structure XExt (w : World) (base top : Nat) (A : Option Addr) (n c : Nat) (l : List ExtV) : Prop where
  lst : LExt w top A n c l
  row : ∀ x, A = some x → base ≤ x.block ∧ x.block < top
  each : ∀ x ∈ l, ∀ y, x.2.1 = some y → base ≤ y.block ∧ y.block < top
  loose : ∀ x ∈ l, Loose w base top (partV x.2)
theorem Loose.below {w w' : World} {lo hi : Nat} {v : Value} (h : Loose w lo hi v) (hb : Below hi w w') : Loose w' lo hi v := by
  rcases h with rfl | ⟨g, n, N, zs, rfl, h1, h2, h3, h4, h5, hr⟩
  · exact .inl rfl
  · exact .inr ⟨g, n, N, zs, rfl, h1, h2, h3, h4, h5, hr.below hb h5⟩
theorem XExt.below {w w' : World} {base top n c : Nat} {A : Option Addr} {l : List ExtV} (h : XExt w base top A n c l) (hb : Below top w w') : XExt w' base top A n c l := ⟨h.lst.below hb, h.row, h.each, fun x hx => (h.loose x hx).below hb⟩
def ptr (q : Nat) : Value := .pointer (some ⟨q, 0, none⟩)

structure ExtI where
  /-- at q lies a file of bytes B, written where Z says, made of the blocks S, all from base on -/
  is : World → Nat → Nat → List Int → List Bool → (Nat → Prop) → Prop
  ge : ∀ {w : World} {b q : Nat} {B : List Int} {Z : List Bool} {S : Nat → Prop}, is w b q B Z S → ∀ j, S j → b ≤ j ∧ j < w.heap.size
  okB : ∀ {w : World} {b q : Nat} {B : List Int} {Z : List Bool} {S : Nat → Prop}, is w b q B Z S → B.length = Z.length ∧ B.length ≤ 65536 ∧ Bytes B
  keep : ∀ {w w' : World} {b q : Nat} {B : List Int} {Z : List Bool} {S S' : Nat → Prop}, is w b q B Z S → Spare S' w w' → (∀ j, S j → ¬ S' j) → is w' b q B Z S
  mono : ∀ {w : World} {b b' q : Nat} {B : List Int} {Z : List Bool} {S : Nat → Prop}, is w b q B Z S → b' ≤ b → is w b' q B Z S
  new : ∀ w : World, Calls Try.prog 25 #[] w fun e w' => ∃ q S, e = .returned (ptr q) ∧ is w' w.heap.size q [] [] S ∧ Below w.heap.size w w'
  size : ∀ {w : World} {b q : Nat} {B : List Int} {Z : List Bool} {S : Nat → Prop}, is w b q B Z S → Calls Try.prog 17 #[ptr q] w fun e w' => e = .returned (.int .i64 (B.length : Nat)) ∧ ∃ k, w.drewN k = w'
  read : ∀ {w : World} {b q : Nat} {B : List Int} {Z : List Bool} {S : Nat → Prop}, is w b q B Z S → ∀ {a k : Int}, I64 a → I64 k → Calls Try.prog 13 #[ptr q, .int .i64 a, .int .i64 k] w fun e w' =>
    ∃ v, e = .returned (.tuple #[v, .int .i64 (exRdE B.length a k)]) ∧ Own w' w.heap.size v (exRd B a k) ∧ Loose w' w.heap.size w'.heap.size v ∧ Below w.heap.size w w'
  write : ∀ {w : World} {b q : Nat} {B : List Int} {Z : List Bool} {S : Nat → Prop}, is w b q B Z S → ∀ {a : Int} {A : Option Addr} {n c : Nat} {xs : List Int}, I64 a → Holds w w.heap.size A n c xs → c ≤ 140737488355328 → (0 < n → ∀ x, A = some x → ¬ S x.block) → b ≤ w.heap.size →
    Calls Try.prog 16 #[ptr q, .int .i64 a, .slice A n c] w fun e w' => e = .returned (.int .i64 (exWrE a xs.length)) ∧ ∃ S', is w' b q (exWr 0 B a xs) (exWr false Z a (List.replicate xs.length true)) S' ∧ Spare S w w' ∧ ∀ j, S' j → S j ∨ w.heap.size ≤ j
  cut : ∀ {w : World} {b q : Nat} {B : List Int} {Z : List Bool} {S : Nat → Prop}, is w b q B Z S → ∀ {s : Int}, I64 s → b ≤ w.heap.size →
    Calls Try.prog 19 #[ptr q, .int .i64 s] w fun e w' => e = .returned (.int .i64 (exCutE s)) ∧ ∃ S', is w' b q (exCut 0 B s) (exCut false Z s) S' ∧ Spare S w w' ∧ ∀ j, S' j → S j ∨ w.heap.size ≤ j
  extents : ∀ {w : World} {b q : Nat} {B : List Int} {Z : List Bool} {S : Nat → Prop}, is w b q B Z S → Calls Try.prog 18 #[ptr q] w fun e w' => ∃ A n c l, e = .returned (.slice A n c) ∧ XExt w' w.heap.size w'.heap.size A n c l ∧ extsL l = exts B Z ∧ Below w.heap.size w w'
  copy : ∀ {w : World} {b q : Nat} {B : List Int} {Z : List Bool} {S : Nat → Prop}, is w b q B Z S → Calls Try.prog 20 #[ptr q] w fun e w' => ∃ q' S', e = .returned (ptr q') ∧ is w' w.heap.size q' B Z S' ∧ Below w.heap.size w w'

/-- the program's file and the document's, apart from one another -/
structure Two (I : ExtI) (w : World) (b q : Nat) (S : Nat → Prop) (g : Nat) (vB vZ : Value) (B : List Int) (Z : List Bool) (C : List Int) (D : List Bool) : Prop where
  x : I.is w b q B Z S
  r : RDat w b g vB vZ C D
  off : ∀ j, S j → ¬ rdS g vB vZ j
  hb : b ≤ w.heap.size
section
variable {I : ExtI} {w w' : World} {b q g : Nat} {S S' : Nat → Prop} {vB vZ vB' vZ' : Value} {B B' C C' : List Int} {Z Z' D D' : List Bool}
theorem Two.left (h : Two I w b q S g vB vZ B Z C D) (x : I.is w' b q B' Z' S') (a : Spare S w w') (n : ∀ j, S' j → S j ∨ w.heap.size ≤ j) : Two I w' b q S' g vB vZ B' Z' C D :=
  ⟨x, h.r.spare a fun j hj hs => h.off j hs hj, fun j hj hr => by
    rcases n j hj with h1 | h1
    · exact h.off j h1 hr
    · have := h.r.set_lt j hr
      omega, Nat.le_trans h.hb a.size⟩
theorem Two.right (h : Two I w b q S g vB vZ B Z C D) (r : RDat w' b g vB' vZ' C' D') (a : Spare (rdS g vB vZ) w w') (n : Wander w vB vB') (m : Wander w vZ vZ') : Two I w' b q S g vB' vZ' B Z C' D' :=
  ⟨I.keep h.x a h.off, r, fun j hj hr => by
    have hl := (I.ge h.x j hj).2
    rcases hr with h1 | h1 | h1
    · exact h.off j hj (.inl h1)
    · rcases n j h1 with h2 | h2
      · exact h.off j hj (.inr (.inl h2))
      · omega
    · rcases m j h1 with h2 | h2
      · exact h.off j hj (.inr (.inr h2))
      · omega, Nat.le_trans h.hb a.size⟩
theorem Two.below (h : Two I w b q S g vB vZ B Z C D) (hb : Below w.heap.size w w') : Two I w' b q S g vB vZ B Z C D :=
  ⟨I.keep h.x (Spare.of_over (fun _ => False) hb) fun _ _ h => h, h.r.below hb, h.off, Nat.le_trans h.hb hb.size⟩
theorem Two.drewN (h : Two I w b q S g vB vZ B Z C D) (k : Nat) : Two I (w.drewN k) b q S g vB vZ B Z C D := h.below (drewed w k)
theorem Two.below1 (h : Two I w b q S g vB vZ B Z C D) (a : Spare S w w') : Below b w w' := a.below (fun j hj => (I.ge h.x j hj).1) h.hb
theorem Two.below2 (h : Two I w b q S g vB vZ B Z C D) (a : Spare (rdS g vB vZ) w w') : Below b w w' := a.below h.r.set_ge h.hb
/-- what a block of neither holds stays -/
theorem Blk.two1 (h : Two I w b q S g vB vZ B Z C D) (a : Spare S w w') {i : Nat} {T : TypeId} {cs : List Value} (k : Blk w i T cs) (hs : ¬ S i) : Blk w' i T cs := k.spare a hs
end
/-- what an act comes to -/
def actB (a : ActV) (B : List Int) : List Int := if a.act = 1 then exWr 0 B a.pos a.row.2.2.2 else if a.act = 2 then exCut 0 B a.num else B
def actZ (a : ActV) (Z : List Bool) : List Bool := if a.act = 1 then exWr false Z a.pos (List.replicate a.row.2.2.2.length true) else if a.act = 2 then exCut false Z a.num else Z
/-- what so many acts come to -/
def actsB (l : List ActV) (k : Nat) : List Int := (l.take k).foldl (fun B a => actB a B) []
def actsZ (l : List ActV) (k : Nat) : List Bool := (l.take k).foldl (fun Z a => actZ a Z) []
theorem actsB_succ {l : List ActV} {k : Nat} {a : ActV} (h : l[k]? = some a) : actsB l (k + 1) = actB a (actsB l k) := by
  obtain ⟨h1, h2⟩ := List.getElem?_eq_some_iff.1 h
  unfold actsB
  rw [List.take_succ_eq_append_getElem h1, List.foldl_append, h2]
  rfl
theorem actsZ_succ {l : List ActV} {k : Nat} {a : ActV} (h : l[k]? = some a) : actsZ l (k + 1) = actZ a (actsZ l k) := by
  obtain ⟨h1, h2⟩ := List.getElem?_eq_some_iff.1 h
  unfold actsZ
  rw [List.take_succ_eq_append_getElem h1, List.foldl_append, h2]
  rfl
end Go.Proofs.Ytgbhnnobbciemaa
