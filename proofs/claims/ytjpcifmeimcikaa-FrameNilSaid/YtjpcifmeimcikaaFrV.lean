/-
  Layer 13 (frame): the statements' own lives: a frame of a byte, in two pieces.
-/
import Derived.Test.YtjpcifmeimcikaaFrE
import Derived.Test.YtjpcifmeimcikaaFrP
namespace Go.Proofs.Ytjpcifmeimcikaa
set_option maxRecDepth 100000
open Go.RowKit
set_option linter.unusedVariables false

theorem Holds.headF {w : World} {B n c N : Nat} {A : Option Addr} {xs : List Int} (h : Holds w B A n c xs) (hN : N ≤ n) : Holds w B A N c (xs.take N) := by
  have hl := h.len
  have hf := h.fit
  have hr := h.room
  refine ⟨by simp; omega, by omega, by omega, h.byte.take _, h.bare, fun h0 => ?_⟩
  obtain ⟨b, off, e, hb, hc⟩ := h.cells (by omega)
  refine ⟨b, off, e, hb, fun i hi => ?_⟩
  rw [hc i (by omega)]
  simp [List.getD_eq_getElem?_getD, hi]

/-- what Take answers, by what the bytes come to -/
def TakeP (w : World) (base g : Nat) (v : Value) (F : List (List Int)) (R : List Int) (E : Int) (st : Bool) (e : Ending) (w' : World) : Prop := ∃ l ps v', e = .returned (.tuple #[l, .int .i64 E]) ∧ OLst false w' w.heap.size l ps ∧ rowsL ps = F ∧
  Rcv w' base g st v' R ∧ Spare (rcvS g v) w w' ∧ Wander w v v' ∧ Away ps v'
theorem TakeF_of (w : World) (base g : Nat) (v : Value) (k : List Int) (A : Option Addr) (n c : Nat) (xs : List Int) (h : Rcv w base g false v k) (hx : Holds w w.heap.size A n c xs) (hb : base ≤ w.heap.size) (hs : k.length + n ≤ 1099511627776)
    {F : List (List Int)} {R : List Int} {E : Int} {st : Bool} (hq : frs (k ++ xs) = (F, R, E)) (hE : st = !decide (E = 0)) :
    Calls Try.prog 14 #[.pointer (some ⟨g, 0, none⟩), .slice A n c] w (TakeP w base g v F R E st) := by
  have h1 := TakeF_any w base g v k A n c xs h hx hb hs
  unfold TakePost at h1
  rw [hq] at h1
  unfold TakeP
  rw [hE]
  exact h1

theorem Rcv.after {w w2 w3 : World} {B base g : Nat} {st : Bool} {v : Value} {k : List Int} (h : Rcv w2 base g st v k) (hb : Below B w w2) (hB : B ≤ base) (hw : B ≤ w2.heap.size) (s : Spare (rcvS g v) w2 w3) : Below B w w3 :=
  hb.trans (s.below (fun j hj => Nat.le_trans hB (h.set_ge j hj)) hw)
theorem Lst.len_of {w : World} {B n c : Nat} {A : Option Addr} {ps : List PartT} {L : List (List Int)} (h : Lst w B A n c ps) (hr : rowsL ps = L) : n = L.length := by
  rw [← hr, rowsL, List.length_map]
  exact h.row.len.symm

set_option maxHeartbeats 4000000 in
theorem livesF_any (w : World) : Calls Try.prog 12 #[] w fun e w' => e = .returned (.bool true) ∧ Below w.heap.size w w' := by
  have CP := fun (w : World) A c (h : Holds w w.heap.size A 1 c [97]) => PutF_any w A 1 c [97] h
  unfold PutFPost at CP
  rw [show frPE [97] = 0 from rfl, show frPO [97] = [0, 0, 0, 1, 97] from by decide] at CP
  have CT1 := fun (w : World) base g v A c (h : Rcv w base g false v []) (hx : Holds w w.heap.size A 2 c [0, 0]) (hb : base ≤ w.heap.size) => Lib.hid (TakeF_of w base g v [] A 2 c [0, 0] h hx hb (by decide) (F := []) (R := [0, 0]) (E := 0) (st := false) (by decide) rfl)
  have CT2 := fun (w : World) base g v A c (h : Rcv w base g false v [0, 0]) (hx : Holds w w.heap.size A 4 c [0, 1, 97, 0]) (hb : base ≤ w.heap.size) => Lib.hid (TakeF_of w base g v [0, 0] A 4 c [0, 1, 97, 0] h hx hb (by decide) (F := [[97]]) (R := [0]) (E := 0) (st := false) (by decide) rfl)
  have CT3 := fun (w : World) base g v A c (h : Rcv w base g false v []) (hx : Holds w w.heap.size A 1 c [1]) (hb : base ≤ w.heap.size) => Lib.hid (TakeF_of w base g v [] A 1 c [1] h hx hb (by decide) (F := []) (R := []) (E := 5) (st := true) (by decide) rfl)
  unfold TakeP at CT1 CT2 CT3
  have CP' := fun w A c h => Lib.hid (CP w A c h)
  have CW := fun (w : World) base g v (h : Rcv w base g false v [0]) => Lib.hid (WaitsF_any w base g false v [0] h)
  simp only [List.length_cons, List.length_nil] at CW
  clear CP
  go_enter Try.func12, Try.ntmps12
  go_wp2_with (first
    | ((with_reducible show wpList _ _ _ (⟨some 11, _, _, _, _, _⟩ :: _) _ _); refine wpList_litRow rfl 1 _ rfl [97] rfl (Bytes.of_all rfl) (by omega) (by kernel_rfl) ?_; intro g1 w1 hg1 R1 H1 b1)
    | fail)
  refine (CP' w1 _ _ H1.out).out.mono ?_
  rintro e w2 ⟨v2, rfl, o2, b2⟩
  obtain ⟨A2, c2, rfl, ob2⟩ := own_rowF o2 (show _ = 5 from rfl)
  have h2 := Own.holds_at (show Own w2 _ (.slice A2 5 c2) _ from ob2.1) rfl (Bytes.of_all rfl) (by decide)
  have H2 := Lib.hid h2
  have H2a : Hid (Holds w2 w2.heap.size A2 2 c2 [0, 0]) := h2.headF (by decide : 2 ≤ 5)
  have B2 := Lib.hid (step b1.out b2)
  have hc2 : 5 ≤ c2 := h2.fit
  clear o2 h2 b2 R1 H1 b1 CP' ob2 hg1
  go_wp2_with fail
  refine (NewF_any w2).mono ?_
  rintro e w3 ⟨g3, rfl, hg3, r3, b3⟩
  have R3 := Lib.hid r3
  have B3 := Lib.hid (step B2.out b3)
  have H3a := Lib.hid (H2a.out.over b3)
  have H3 := Lib.hid (H2.out.over b3)
  have hb3 := b3.size
  have B2s : Hid (w.heap.size ≤ w2.heap.size) := B2.out.size
  clear r3 b3 B2 H2 H2a
  go_wp2_with fail
  refine (CT1 w3 _ g3 _ A2 c2 R3.out H3a.out hb3).out.mono ?_
  rintro e w4 ⟨l4, p4, v4, rfl, o4, q4, r4, s4, n4, a4⟩
  obtain ⟨A4, n4', c4, rfl, l4⟩ := o4.lst
  obtain rfl : n4' = 0 := l4.len_of q4
  have R4 := Lib.hid r4
  have hB := Lib.hid B2s.out
  have hw23 := Nat.le_trans hB.out hb3
  have B4 := Lib.hid (R3.out.after B3.out hB.out hw23 s4)
  have hs4 := s4.size
  clear r4 s4 n4 a4 o4 l4 q4 R3 B3 H3a CT1
  go_wp2_with (first
    | ((with_reducible show wpList _ _ _ (⟨some 28, _, _, _, _, _⟩ :: _) _ _); refine wpList_litRow rfl 4 _ rfl [0, 1, 97, 0] rfl (Bytes.of_all rfl) (by omega) (by kernel_rfl) ?_; intro g5 w5 hg5 Y5 H5 b5; have R5 := Lib.hid (R4.out.below b5.out); have B5 := Lib.hid (step B4.out b5.out); have hs5 := b5.out.size)
    | fail)
  have hw25 : w2.heap.size ≤ w5.heap.size := by omega
  refine (CT2 w5 _ g3 _ _ 4 R5.out H5.out hw25).out.mono ?_
  rintro e w6 ⟨l6, p6, v6, rfl, o6, q6, r6, s6, n6, a6⟩
  obtain ⟨A6, n6', c6, rfl, l6⟩ := o6.lst
  obtain rfl : n6' = 1 := l6.len_of q6
  have R6 := Lib.hid r6
  have B6 := Lib.hid (R5.out.after B5.out hB.out (Nat.le_trans hB.out hw25) s6)
  have hs6 := s6.size
  clear r6 s6 n6 a6 o6 l6 q6 R5 B5 R4 B4 Y5 H5 b5 CT2
  go_wp2_with fail
  refine (NewF_any w6).mono ?_
  rintro e w7 ⟨g7, rfl, hg7, r7, b7⟩
  have R7 := Lib.hid r7
  have R67 := Lib.hid (R6.out.below b7)
  have B7 := Lib.hid (step B6.out b7)
  have hs7 := b7.size
  have hg36 := Lib.hid R6.out.set_ge
  have hlt3 : Hid (∀ j, rcvS g3 v6 j → j < w6.heap.size) := fun j hj => by
    rcases hj with rfl | hj
    · exact R6.out.blk.lt
    · obtain ⟨_, _, hcs⟩ := OwnK.block (show OwnK .u8 5 w6 _ v6 _ from R6.out.own) hj
      exact (Array.getElem?_eq_some_iff.1 hcs).1
  clear r7 b7 R6 B6
  go_wp2_with (first
    | ((with_reducible show wpList _ _ _ (⟨some 34, _, _, _, _, _⟩ :: _) _ _); refine wpList_litRow rfl 1 _ rfl [1] rfl (Bytes.of_all rfl) (by omega) (by kernel_rfl) ?_; intro g8 w8 hg8 Y8 H8 b8; have R8 := Lib.hid (R7.out.below b8.out); have R68 := Lib.hid (R67.out.below b8.out); have B8 := Lib.hid (step B7.out b8.out); have hs8 := b8.out.size)
    | fail)
  have hw68 : w6.heap.size ≤ w8.heap.size := by omega
  refine (CT3 w8 _ g7 _ _ 1 R8.out H8.out hw68).out.mono ?_
  rintro e w9 ⟨l9, p9, v9, rfl, o9, q9, r9, s9, n9, a9⟩
  obtain ⟨A9, n9', c9, rfl, l9⟩ := o9.lst
  have R69 : Hid (Rcv w9 w2.heap.size g3 false v6 [0]) := R68.out.spare s9 fun j hj hj' => by
    have h1 := hlt3.out j hj
    have h2 := R8.out.set_ge j hj'
    omega
  have B9 := Lib.hid (R8.out.after B8.out (by have := hB.out; omega) (by have := hB.out; omega) s9)
  clear r9 s9 n9 a9 o9 l9 q9 R8 B8 R68 R7 R67 B7 Y8 H8 b8 CT3
  go_wp2_with fail
  refine (CW w9 _ g3 _ R69.out).out.mono ?_
  rintro e w10 ⟨rfl, rfl⟩
  go_wp2
  go_ret
  exact ⟨rfl, B9.out⟩
end Go.Proofs.Ytjpcifmeimcikaa
