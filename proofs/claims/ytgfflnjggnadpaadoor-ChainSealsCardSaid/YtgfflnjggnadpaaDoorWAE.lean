import Derived.WalkKit
import Derived.Deep.Draws
import Derived.Laws.Rows
import Derived.Laws.OwnMore
import Derived.Test.YtgfflnjggnadpaaDoorRows
import Derived.WalkSpells
import Derived.WalkLawsBesides
import Derived.Deep.QuietTactic
import Derived.BigQuiet
import Derived.Lib.Hide
import Derived.Laws.Bits64
import Derived.Laws.BitsAllLaws
import Derived.Laws.CopyOwn
import Derived.Laws.AppendOwnNone
import Derived.Laws.Tables
import Derived.Laws.NewFold
import Derived.Deep.WholeRow
import Derived.Deep.MidRow
import Derived.Great.Walk
import Derived.OrdersHeld
import Derived.Laws.StructEq
import Derived.ChangeKeysEq
import Derived.Deep.DeepCutAuto
import Derived.Deep.RegionLaw
import Derived.ProofKit
import Derived.OpenShut
import Derived.ShutString
import Derived.SizedLaws
import Derived.ChangeOld
import Derived.Test.YtgfflnjggnadpaaDoorWAC
namespace Go.Proofs.YtgfflnjggnadpaaDoor
set_option linter.all false
set_option maxRecDepth 100000
open Go.RowKit
theorem num_drop {ys : List Int} {k : Nat} (hk : k < ys.length) : num (ys.drop k) = ys.getD k 0 + 256 * num (ys.drop (k + 1)) := by
  rw [List.drop_eq_getElem_cons hk, num]
  simp [List.getD_eq_getElem?_getD, hk]
set_option maxHeartbeats 400000 in
theorem RGet_any (w : World) (B : Nat) (A : Option Addr) (n c : Nat) (xs : List Int) (a s : Int) (h : Holds w B A n c xs)
    (ha : -9223372036854775808 ≤ a ∧ a ≤ 9223372036854775807) (hs : -9223372036854775808 ≤ s ∧ s ≤ 9223372036854775807) :
    Calls Tryd.prog 55 #[.slice A n c, .int .i64 a, .int .i64 s] w fun e w' => e = .returned (.tuple #[.int .u64 (getOf xs a s), .int .i64 (getErr n a s)]) ∧ w = w' := by
  have hl := Lib.hid h.len
  have hr := h.room
  have c1 := RSize_any w s
  have hzero : getErr n a s ≠ 0 → getOf xs a s = 0 := fun h1 => by unfold getOf; rw [hl.out, if_neg h1]
  by_cases hz : sizeOk s = true
  · have hs8 : 1 ≤ s ∧ s ≤ 8 := by rcases sizeOk_cases hz with e | e | e | e <;> omega
    obtain ⟨hs1, hs8⟩ := hs8
    have e1 : getErr n a s = partErr n a s := by unfold getErr; rw [if_pos hz]
    have e2 : partErr n a s = 0 → getOf xs a s = num ((xs.drop a.toNat).take s.toNat) := fun h1 => by unfold getOf; rw [hl.out, e1, if_pos h1]
    rw [hz] at c1
    have C1 := Lib.hid c1
    clear c1 hz
    by_cases h1 : a < 0
    · have e3 : partErr n a s = 2 := by simp [partErr, h1]
      rw [hzero (by omega), e1, e3]
      clear e1 e2 e3 hzero
      go_enter Tryd.func55, Tryd.ntmps55
      go_wp2_with fail
      refine C1.out.mono ?_
      rintro e w' ⟨rfl, rfl⟩
      go_wp2
      go_ret2
      exact ⟨rfl, rfl⟩
    by_cases h2 : (n : Int) < a
    · have e3 : partErr n a s = 2 := by simp [partErr, h2]
      rw [hzero (by omega), e1, e3]
      clear e1 e2 e3 hzero
      go_enter Tryd.func55, Tryd.ntmps55
      go_wp2_with fail
      refine C1.out.mono ?_
      rintro e w' ⟨rfl, rfl⟩
      go_wp2
      go_ret2
      exact ⟨rfl, rfl⟩
    by_cases h4 : (n : Int) - a < s
    · have e3 : partErr n a s = 4 := by unfold partErr; rw [if_neg (by omega), if_pos h4]
      rw [hzero (by omega), e1, e3]
      clear e1 e2 e3 hzero
      go_enter Tryd.func55, Tryd.ntmps55
      go_wp2_with fail
      refine C1.out.mono ?_
      rintro e w' ⟨rfl, rfl⟩
      go_wp2
      go_ret2
      exact ⟨rfl, rfl⟩
    have e3 : partErr n a s = 0 := by unfold partErr; rw [if_neg (by omega), if_neg h4]
    rw [e2 e3, e1, e3]
    obtain ⟨p, rfl⟩ := Int.eq_ofNat_of_zero_le (show 0 ≤ a by omega)
    obtain ⟨j, rfl⟩ := Int.eq_ofNat_of_zero_le (show 0 ≤ s by omega)
    simp only [Int.toNat_natCast]
    obtain ⟨b, off, rfl, hb, hc⟩ := h.cells (by omega)
    obtain ⟨ys, hys⟩ : ∃ ys, ys = (xs.drop p).take j := ⟨_, rfl⟩
    have hyl : ys.length = j := by have := hl.out; rw [hys]; simp; omega
    have hyb : Bytes ys := by rw [hys]; exact (h.byte.drop _).take _
    have hyc : ∀ i, i < j → w.cell? ⟨b, off + (p + i), none⟩ = some (.int .u8 (ys.getD i 0)) := fun i hi => by
      rw [hc (p + i) (by omega), hys]
      simp [List.getD_eq_getElem?_getD, List.getElem?_drop, hi]
    rw [← hys]
    obtain ⟨z, hz⟩ : ∃ z, z = num ys := ⟨_, rfl⟩
    rw [← hz]
    have HZ := Lib.hid hz
    have HL := Lib.hid hyl
    have HC := Lib.hid hyc
    clear e1 e2 e3 hzero hys hyl hz hc hyc
    go_enter Tryd.func55, Tryd.ntmps55
    go_wp2_with fail
    refine C1.out.mono ?_
    rintro e w' ⟨rfl, rfl⟩
    go_wp2_with fail
    go_loop [8, 9] (fun v i => ∃ k : Nat, k ≤ j ∧ i = .int .i64 ((k : Int) - 1) ∧ ∃ z', v = .int .u64 z' ∧ Hid (z' = num (ys.drop k))) (fun _ i => (intOf i + 1).toNat)
    case atStart => exact ⟨j, Nat.le_refl _, rfl, 0, rfl, by rw [List.drop_of_length_le (by have := HL.out; omega)]; rfl⟩
    case round =>
      obtain ⟨k, hk, rfl, z', rfl, HZ'⟩ := hrel
      rcases k with _ | k
      · have hS : Hid (z' = z) := by show _ = _; rw [HZ'.out, HZ.out]; rfl
        clear HZ'
        go_wp2
        go_ret2
        exact ⟨by rw [hS.out]; rfl, rfl⟩
      · have gc := HC.out k (by omega)
        obtain ⟨y, hy⟩ : ∃ y, y = ys.getD k 0 := ⟨_, rfl⟩
        have hyr := hyb.getD k
        rw [← hy] at gc hyr
        obtain ⟨hy0, hy1⟩ := hyr
        have hz1 : 0 ≤ z' ∧ z' ≤ 72057594037927935 := by
          have h1 := num_bounds (ys.drop (k + 1)) (hyb.drop _)
          rw [← HZ'.out] at h1
          have h2 : (256 : Int) ^ (ys.drop (k + 1)).length ≤ 256 ^ 7 := by
            have h3 : (256 : Nat) ^ (ys.drop (k + 1)).length ≤ 256 ^ 7 := Nat.pow_le_pow_right (by omega) (by have := HL.out; simp; omega)
            have h4 : (((256 : Nat) ^ (ys.drop (k + 1)).length : Nat) : Int) ≤ ((256 ^ 7 : Nat) : Int) := Int.ofNat_le.2 h3
            simpa [Int.natCast_pow] using h4
          have h5 : (256 : Int) ^ 7 = 72057594037927936 := by decide
          omega
        obtain ⟨hz1, hz2⟩ := hz1
        have hS : Hid (256 * z' + y = num (ys.drop k)) := by
          show _ = _
          rw [num_drop (by have := HL.out; omega), ← HZ'.out, ← hy]; omega
        have ek : (((k + 1 : Nat) : Int) - 1) = (k : Int) := by omega
        rw [ek]
        clear HZ' hy ek
        go_wp2
        go_round
        case rel => exact ⟨k, by omega, by go_num, _, rfl, hS⟩
        case measure => simp [intOf]
  · have hz' : sizeOk s = false := by simpa using hz
    have e1 : getErr n a s = 2 := by unfold getErr; rw [if_neg hz]
    rw [hz'] at c1
    have C1 := Lib.hid c1
    rw [hzero (by omega), e1]
    clear c1 hz hz' e1 hzero
    go_enter Tryd.func55, Tryd.ntmps55
    go_wp2_with fail
    refine C1.out.mono ?_
    rintro e w' ⟨rfl, rfl⟩
    go_wp2
    go_ret2
    exact ⟨rfl, rfl⟩
end Go.Proofs.YtgfflnjggnadpaaDoor

namespace Go.Proofs.YtgfflnjggnadpaaDoor
set_option linter.all false
set_option maxRecDepth 100000
open Go.RowKit
set_option maxHeartbeats 400000 in
theorem numberH_any (w : World) (B : Nat) (A : Option Addr) (n c : Nat) (xs : List Int) (a s : Int) (h : Holds w B A n c xs)
    (ha : -9223372036854775808 ≤ a ∧ a ≤ 9223372036854775807) (hs : -9223372036854775808 ≤ s ∧ s ≤ 9223372036854775807) :
    Calls Tryd.prog 41 #[.slice A n c, .int .i64 a, .int .i64 s] w fun e w' => e = .returned (.int .u64 (getOf xs a s)) ∧ w = w' := by
  have C1 := Lib.hid (RGet_any w B A n c xs a s h ha hs)
  obtain ⟨z, hz⟩ : ∃ z, z = getOf xs a s := ⟨_, rfl⟩
  obtain ⟨er, her⟩ : ∃ er, er = getErr n a s := ⟨_, rfl⟩
  rw [← hz, ← her] at C1
  rw [← hz]
  clear hz her h
  go_enter Tryd.func41, Tryd.ntmps41
  go_wp2_with fail
  refine C1.out.mono ?_
  rintro e w1 ⟨rfl, rfl⟩
  go_wp2
  go_ret
  exact ⟨rfl, rfl⟩
end Go.Proofs.YtgfflnjggnadpaaDoor

namespace Go.Proofs.YtgfflnjggnadpaaDoor
set_option linter.all false
set_option maxRecDepth 100000
open Go.RowKit
theorem getOf_numAt (xs : List Int) (p k s : Nat) (hl : p + 64 ≤ xs.length) (hk : k + s ≤ 64) (hs : sizeOk (s : Int) = true) : getOf xs ((p : Int) + (k : Int)) (s : Int) = numAt ((xs.drop p).take 64) k s := by
  have e1 : getErr xs.length ((p : Int) + (k : Int)) (s : Int) = 0 := by
    unfold getErr partErr
    rw [if_pos hs, if_neg (by omega), if_neg (by omega)]
  unfold getOf numAt
  rw [if_pos e1, show ((p : Int) + (k : Int)).toNat = p + k from by omega, Int.toNat_natCast, List.drop_take, List.take_take, List.drop_drop, Nat.min_eq_left (by omega)]
theorem num_four (xs : List Int) (hx : Bytes xs) (hl : 4 ≤ xs.length) : decide (numAt xs 0 4 = 1112364030) = (decide (xs.getD 0 0 = 254) && (decide (xs.getD 1 0 = 83) && (decide (xs.getD 2 0 = 77) && decide (xs.getD 3 0 = 66)))) := by
  match xs, hl with
  | a :: b :: c :: d :: r, _ =>
    have ha := hx.getD 0
    have hb := hx.getD 1
    have hc := hx.getD 2
    have hd := hx.getD 3
    change 0 ≤ a ∧ a ≤ 255 at ha
    change 0 ≤ b ∧ b ≤ 255 at hb
    change 0 ≤ c ∧ c ≤ 255 at hc
    change 0 ≤ d ∧ d ≤ 255 at hd
    show decide (a + 256 * (b + 256 * (c + 256 * (d + 256 * 0))) = 1112364030) = (decide (a = 254) && (decide (b = 83) && (decide (c = 77) && decide (d = 66))))
    rw [Bool.eq_iff_iff]
    simp only [Bool.and_eq_true, decide_eq_true_eq]
    omega
/-- the tests of the document's Get, in its order -/
theorem headP_parts (ys : List Int) (hx : Bytes ys) (hl : ys.length = 64) : headP ys = (decide (ys.getD 0 0 = 254) && (decide (ys.getD 1 0 = 83) && (decide (ys.getD 2 0 = 77) && (decide (ys.getD 3 0 = 66) &&
    (decide (numAt ys 4 2 = 64) && ((isAs (numAt ys 16 4) || decide (numAt ys 32 4 = 0)) && mayP (takenP ys))))))) := by
  unfold headP fixedP
  rw [num_four ys hx (by omega)]
  simp only [Bool.and_assoc]
/-- what is taken, by the document's numbers -/
theorem taken_parts (ys : List Int) (hx : Bytes ys) (hl : ys.length = 64) :
    (isAs (numAt ys 16 4) = true → hcells (takenP ys) = hcells ⟨numAt ys 6 2, numAt ys 8 4, numAt ys 12 2, numAt ys 14 2, numAt ys 16 4, numAt ys 20 4, numAt ys 24 8, numAt ys 32 8, 0, numAt ys 40 8, (ys.drop 48).take 16⟩) ∧
    (isAs (numAt ys 16 4) = false → hcells (takenP ys) = hcells ⟨numAt ys 6 2, numAt ys 8 4, numAt ys 12 2, numAt ys 14 2, numAt ys 16 4, numAt ys 20 4, numAt ys 24 8, 0, numAt ys 36 4, numAt ys 40 8, (ys.drop 48).take 16⟩) := by
  have n4 := numAt_bounds ys hx 32 4 4294967296 (by decide)
  have e8 := numAt_split ys 32 (by omega)
  constructor
  · intro h
    rw [takenP_eq, if_pos h, if_pos h]
  · intro h
    have h' : ¬ isAs (numAt ys 16 4) = true := by rw [h]; decide
    rw [takenP_eq, if_neg h', if_neg h', e8, show (numAt ys 32 4 + 4294967296 * numAt ys (32 + 4) 4) / 4294967296 = numAt ys 36 4 from by show (_ + 4294967296 * numAt ys 36 4) / _ = _; omega]
/-- a head's cells with the first k bytes of a signature laid -/
def sigc (h : Hd) (sg : List Int) (k : Nat) : List Value := hcells { h with sg := sg.take k ++ List.replicate (16 - k) 0 }
theorem sig_steps (h : Hd) (sg : List Int) (hl : sg.length = 16) (h0 : h.sg = List.replicate 16 0) :
    hcells h = sigc h sg 0 ∧ (∀ k, k < 16 → (sigc h sg k).set (10 + k) (.int .u8 (sg.getD k 0)) = sigc h sg (k + 1)) ∧ (∀ k, k ≤ 16 → (sigc h sg k).length = 26) ∧ sigc h sg 16 = hcells { h with sg := sg } := by
  refine ⟨?_, fun k hk => ?_, fun k hk => ?_, ?_⟩
  · unfold sigc
    rw [List.take_zero, List.nil_append, ← h0]
  · unfold sigc
    have e : (sg.take k ++ List.replicate (16 - k) 0).set k (sg.getD k 0) = sg.take (k + 1) ++ List.replicate (16 - (k + 1)) 0 := by
      rw [List.set_append_right _ _ (by simp; omega), show 16 - k = (16 - (k + 1)) + 1 from by omega, List.replicate_succ]
      rw [show k - (List.take k sg).length = 0 from by simp; omega, List.set_cons_zero, List.take_succ_eq_append_getElem (by omega : k < sg.length), List.append_assoc]
      simp [List.getD_eq_getElem?_getD, show k < sg.length from by omega]
    rw [← e]
    simp only [hcells, List.map_set]
    rw [show 10 + k = k + 1 + 1 + 1 + 1 + 1 + 1 + 1 + 1 + 1 + 1 from by omega]
    simp only [List.set_cons_succ]
  · unfold sigc
    simp only [hcells, List.length_cons, List.length_map, List.length_append, List.length_take, List.length_replicate]
    omega
  · unfold sigc
    rw [List.take_of_length_le (by omega)]
    simp
end Go.Proofs.YtgfflnjggnadpaaDoor

namespace Go.Proofs.YtgfflnjggnadpaaDoor
set_option linter.all false
open Go.RowKit
section
variable {P : Program} {ops : Array Oper} {rest : List Oper} {o : Oper} {a : Act} {w : World} {Q : Exit → Act → World → Prop}
end
/-- the whole of a variable out of its block, where the operation's guard is met -/
theorem wpList_load_want {P : Program} {ops : Array Oper} {rest : List Oper} {o : Oper} {a : Act} {w : World} {Q : Exit → Act → World → Prop} (hw : Region.wanted o (yielded ops a.tmps) = true) (T : TypeId) (x : Operand) (ho : o.op = .load T x) (g : Nat) (hx : a.eval x = .pointer (some ⟨g, 0, none⟩)) (T' : TypeId) (cs : List Value)
    (hA : Hid (Blk w g T' cs)) (n : Nat) (d : TypeDesc) (hu : P.underlying T = some d) (hd : (match d with | .struct _ | .array _ _ => true | _ => false) = true) (hi : (P.info? T).map (·.size) = some n) (hn : Hid (cs.length = n))
    (h : wpList P ops Q rest (a.put o.dst (.agg cs.toArray)) w) : wpList P ops Q (o :: rest) a w :=
  wpList_step fun K hK => by
    rw [if_pos hw]
    exact wp_load_row T x ho g hx T' _ (0, 0) d hA.out hu hd (by rw [hi]; have := hn.out; simp [this]) (hK _ _ h)
end Go.Proofs.YtgfflnjggnadpaaDoor

namespace Go.Proofs.YtgfflnjggnadpaaDoor
set_option linter.all false
set_option maxRecDepth 100000
open Go.RowKit
set_option linter.unusedVariables false
set_option maxRecDepth 100000 in
set_option maxHeartbeats 4000000 in
/-- where the bytes are there -/
theorem RGetH_room (w : World) (A : Option Addr) (n c : Nat) (xs : List Int) (p : Nat) (hx : Holds w w.heap.size A n c xs) (hr : p + 64 ≤ n) (hp : partErr xs.length (p : Int) 64 = 0) :
    Calls Tryd.prog 25 #[.slice A n c, .int .i64 (p : Int)] w (GetHPost w xs (p : Int)) := by
  have hn48 := hx.room
  have hnc := hx.fit
  obtain ⟨b, off, rfl, hb, _⟩ := hx.cells (by omega)
  obtain ⟨ys, hys⟩ : ∃ ys, ys = (xs.drop p).take 64 := ⟨_, rfl⟩
  have hyl : ys.length = 64 := by have := hx.len; rw [hys]; simp; omega
  have hyb : Bytes ys := by rw [hys]; exact (hx.byte.drop _).take _
  have GN : ∀ (k s : Nat), k + s ≤ 64 → sizeOk (s : Int) = true → getOf xs ((p : Int) + (k : Int)) (s : Int) = numAt ys k s := fun k s hk hs => by
    rw [hys]
    exact getOf_numAt xs p k s (by have := hx.len; omega) hk hs
  have n2 := fun a => numAt_bounds ys hyb a 2 65536 (by decide)
  have n4 := fun a => numAt_bounds ys hyb a 4 4294967296 (by decide)
  have n8 := fun a => numAt_bounds ys hyb a 8 18446744073709551616 (by decide)
  have ZH := Lib.hid zero_hd
  have BH := built_hd
  have Cm0 : Hid (∀ w' : World, Below w.heap.size w w' → Calls Tryd.prog 41 #[.slice (some ⟨b, off, none⟩) n c, .int .i64 ((p : Int) + 6), .int .i64 2] w' fun e v => e = .returned (.int .u64 (numAt ys 6 2)) ∧ w' = v) := fun w' hb => by
    have h1 := numberH_any w' w.heap.size _ n c xs ((p : Int) + 6) 2 (hx.below hb) (by omega) (by omega)
    have h2 := GN 6 2 (by omega) (by decide)
    rwa [show getOf xs ((p : Int) + 6) 2 = numAt ys 6 2 from h2] at h1
  have Cm1 : Hid (∀ w' : World, Below w.heap.size w w' → Calls Tryd.prog 41 #[.slice (some ⟨b, off, none⟩) n c, .int .i64 ((p : Int) + 8), .int .i64 4] w' fun e v => e = .returned (.int .u64 (numAt ys 8 4)) ∧ w' = v) := fun w' hb => by
    have h1 := numberH_any w' w.heap.size _ n c xs ((p : Int) + 8) 4 (hx.below hb) (by omega) (by omega)
    have h2 := GN 8 4 (by omega) (by decide)
    rwa [show getOf xs ((p : Int) + 8) 4 = numAt ys 8 4 from h2] at h1
  have Cm2 : Hid (∀ w' : World, Below w.heap.size w w' → Calls Tryd.prog 41 #[.slice (some ⟨b, off, none⟩) n c, .int .i64 ((p : Int) + 12), .int .i64 2] w' fun e v => e = .returned (.int .u64 (numAt ys 12 2)) ∧ w' = v) := fun w' hb => by
    have h1 := numberH_any w' w.heap.size _ n c xs ((p : Int) + 12) 2 (hx.below hb) (by omega) (by omega)
    have h2 := GN 12 2 (by omega) (by decide)
    rwa [show getOf xs ((p : Int) + 12) 2 = numAt ys 12 2 from h2] at h1
  have Cm3 : Hid (∀ w' : World, Below w.heap.size w w' → Calls Tryd.prog 41 #[.slice (some ⟨b, off, none⟩) n c, .int .i64 ((p : Int) + 14), .int .i64 2] w' fun e v => e = .returned (.int .u64 (numAt ys 14 2)) ∧ w' = v) := fun w' hb => by
    have h1 := numberH_any w' w.heap.size _ n c xs ((p : Int) + 14) 2 (hx.below hb) (by omega) (by omega)
    have h2 := GN 14 2 (by omega) (by decide)
    rwa [show getOf xs ((p : Int) + 14) 2 = numAt ys 14 2 from h2] at h1
  have Cm4 : Hid (∀ w' : World, Below w.heap.size w w' → Calls Tryd.prog 41 #[.slice (some ⟨b, off, none⟩) n c, .int .i64 ((p : Int) + 16), .int .i64 4] w' fun e v => e = .returned (.int .u64 (numAt ys 16 4)) ∧ w' = v) := fun w' hb => by
    have h1 := numberH_any w' w.heap.size _ n c xs ((p : Int) + 16) 4 (hx.below hb) (by omega) (by omega)
    have h2 := GN 16 4 (by omega) (by decide)
    rwa [show getOf xs ((p : Int) + 16) 4 = numAt ys 16 4 from h2] at h1
  have Cm5 : Hid (∀ w' : World, Below w.heap.size w w' → Calls Tryd.prog 41 #[.slice (some ⟨b, off, none⟩) n c, .int .i64 ((p : Int) + 20), .int .i64 4] w' fun e v => e = .returned (.int .u64 (numAt ys 20 4)) ∧ w' = v) := fun w' hb => by
    have h1 := numberH_any w' w.heap.size _ n c xs ((p : Int) + 20) 4 (hx.below hb) (by omega) (by omega)
    have h2 := GN 20 4 (by omega) (by decide)
    rwa [show getOf xs ((p : Int) + 20) 4 = numAt ys 20 4 from h2] at h1
  have Cm6 : Hid (∀ w' : World, Below w.heap.size w w' → Calls Tryd.prog 41 #[.slice (some ⟨b, off, none⟩) n c, .int .i64 ((p : Int) + 24), .int .i64 8] w' fun e v => e = .returned (.int .u64 (numAt ys 24 8)) ∧ w' = v) := fun w' hb => by
    have h1 := numberH_any w' w.heap.size _ n c xs ((p : Int) + 24) 8 (hx.below hb) (by omega) (by omega)
    have h2 := GN 24 8 (by omega) (by decide)
    rwa [show getOf xs ((p : Int) + 24) 8 = numAt ys 24 8 from h2] at h1
  have Cm9 : Hid (∀ w' : World, Below w.heap.size w w' → Calls Tryd.prog 41 #[.slice (some ⟨b, off, none⟩) n c, .int .i64 ((p : Int) + 40), .int .i64 8] w' fun e v => e = .returned (.int .u64 (numAt ys 40 8)) ∧ w' = v) := fun w' hb => by
    have h1 := numberH_any w' w.heap.size _ n c xs ((p : Int) + 40) 8 (hx.below hb) (by omega) (by omega)
    have h2 := GN 40 8 (by omega) (by decide)
    rwa [show getOf xs ((p : Int) + 40) 8 = numAt ys 40 8 from h2] at h1
  have Cm7 : Hid (∀ w' : World, Below w.heap.size w w' → Calls Tryd.prog 41 #[.slice (some ⟨b, off, none⟩) n c, .int .i64 ((p : Int) + 32), .int .i64 8] w' fun e v => e = .returned (.int .u64 (numAt ys 32 8)) ∧ w' = v) := fun w' hb => by
    have h1 := numberH_any w' w.heap.size _ n c xs ((p : Int) + 32) 8 (hx.below hb) (by omega) (by omega)
    have h2 := GN 32 8 (by omega) (by decide)
    rwa [show getOf xs ((p : Int) + 32) 8 = numAt ys 32 8 from h2] at h1
  have Cm8 : Hid (∀ w' : World, Below w.heap.size w w' → Calls Tryd.prog 41 #[.slice (some ⟨b, off, none⟩) n c, .int .i64 ((p : Int) + 36), .int .i64 4] w' fun e v => e = .returned (.int .u64 (numAt ys 36 4)) ∧ w' = v) := fun w' hb => by
    have h1 := numberH_any w' w.heap.size _ n c xs ((p : Int) + 36) 4 (hx.below hb) (by omega) (by omega)
    have h2 := GN 36 4 (by omega) (by decide)
    rwa [show getOf xs ((p : Int) + 36) 4 = numAt ys 36 4 from h2] at h1
  have Cmz : Hid (∀ w' : World, Below w.heap.size w w' → Calls Tryd.prog 41 #[.slice (some ⟨b, off, none⟩) n c, .int .i64 ((p : Int) + 32), .int .i64 4] w' fun e v => e = .returned (.int .u64 (numAt ys 32 4)) ∧ w' = v) := fun w' hb => by
    have h1 := numberH_any w' w.heap.size _ n c xs ((p : Int) + 32) 4 (hx.below hb) (by omega) (by omega)
    have h2 := GN 32 4 (by omega) (by decide)
    rwa [show getOf xs ((p : Int) + 32) 4 = numAt ys 32 4 from h2] at h1
  have Cms : Hid (∀ w' : World, Below w.heap.size w w' → Calls Tryd.prog 41 #[.slice (some ⟨b, off, none⟩) n c, .int .i64 ((p : Int) + 4), .int .i64 2] w' fun e v => e = .returned (.int .u64 (numAt ys 4 2)) ∧ w' = v) := fun w' hb => by
    have h1 := numberH_any w' w.heap.size _ n c xs ((p : Int) + 4) 2 (hx.below hb) (by omega) (by omega)
    have h2 := GN 4 2 (by omega) (by decide)
    rwa [show getOf xs ((p : Int) + 4) 2 = numAt ys 4 2 from h2] at h1
  have HH := headP_parts ys hyb hyl
  have TA := taken_parts ys hyb hyl
  have CE : Hid (∀ w' : World, Below w.heap.size w w' → ∀ k, k < 64 → w'.cell? ⟨b, off + (p + k), none⟩ = some (.int .u8 (ys.getD k 0))) := fun w' hb k hk => by
    obtain ⟨b', off', hA, h1, hc⟩ := (hx.below hb).cells (by omega)
    injection hA with hA
    injection hA with e1 e2 e3
    subst e1 e2
    rw [hc (p + k) (by omega), hys]
    simp [List.getD_eq_getElem?_getD, List.getElem?_drop, hk]
  have HQ5 : Hid (headP ys = false → ∀ e w', (e = .returned (.tuple #[hv zeroHd, .int .i64 5]) ∧ Below w.heap.size w w') → GetHPost w xs (p : Int) e w') := by
    rintro h5 e w' ⟨rfl, hb⟩
    have he : getErrH xs (p : Int) = 5 := by unfold getErrH; rw [if_pos hp, Int.toNat_natCast, ← hys, h5]; rfl
    refine ⟨?_, hb⟩
    unfold getOfH
    rw [he, if_neg (by decide)]
  have HQ0 : Hid (headP ys = true → ∀ e w', (e = .returned (.tuple #[hv (takenP ys), .int .i64 0]) ∧ Below w.heap.size w w') → GetHPost w xs (p : Int) e w') := by
    rintro h5 e w' ⟨rfl, hb⟩
    have he : getErrH xs (p : Int) = 0 := by unfold getErrH; rw [if_pos hp, Int.toNat_natCast, ← hys, h5]; rfl
    refine ⟨?_, hb⟩
    unfold getOfH
    rw [he, if_pos rfl, Int.toNat_natCast, ← hys]
  have KT := takenP_ok ys hyb hyl
  have CMY : Hid (∀ w : World, Calls Tryd.prog 42 #[hv (takenP ys)] w fun e w' => e = .returned (.bool (mayP (takenP ys))) ∧ Below w.heap.size w w') := fun w => RMay_any w _ KT
  obtain ⟨my, hmy⟩ : ∃ my, my = mayP (takenP ys) := ⟨_, rfl⟩
  rw [← hmy] at CMY HH
  have LTT := Lib.hid (hcells_len KT)
  have OTT := Lib.hid (hcells_one (takenP ys))
  obtain ⟨m0, em0⟩ : ∃ m, m = numAt ys 6 2 := ⟨_, rfl⟩
  have bm0 := n2 6
  rw [← em0] at Cm0 bm0
  obtain ⟨bm00, bm01⟩ := bm0
  have wm0 : IntKind.u16.wrap m0 = m0 := by rw [IntKind.wrap_u16]; omega
  obtain ⟨m1, em1⟩ : ∃ m, m = numAt ys 8 4 := ⟨_, rfl⟩
  have bm1 := n4 8
  rw [← em1] at Cm1 bm1
  obtain ⟨bm10, bm11⟩ := bm1
  have wm1 : IntKind.u32.wrap m1 = m1 := by rw [IntKind.wrap_u32']; omega
  obtain ⟨m2, em2⟩ : ∃ m, m = numAt ys 12 2 := ⟨_, rfl⟩
  have bm2 := n2 12
  rw [← em2] at Cm2 bm2
  obtain ⟨bm20, bm21⟩ := bm2
  have wm2 : IntKind.u16.wrap m2 = m2 := by rw [IntKind.wrap_u16]; omega
  obtain ⟨m3, em3⟩ : ∃ m, m = numAt ys 14 2 := ⟨_, rfl⟩
  have bm3 := n2 14
  rw [← em3] at Cm3 bm3
  obtain ⟨bm30, bm31⟩ := bm3
  have wm3 : IntKind.u16.wrap m3 = m3 := by rw [IntKind.wrap_u16]; omega
  obtain ⟨m4, em4⟩ : ∃ m, m = numAt ys 16 4 := ⟨_, rfl⟩
  have bm4 := n4 16
  rw [← em4] at Cm4 bm4
  obtain ⟨bm40, bm41⟩ := bm4
  have wm4 : IntKind.u32.wrap m4 = m4 := by rw [IntKind.wrap_u32']; omega
  obtain ⟨m5, em5⟩ : ∃ m, m = numAt ys 20 4 := ⟨_, rfl⟩
  have bm5 := n4 20
  rw [← em5] at Cm5 bm5
  obtain ⟨bm50, bm51⟩ := bm5
  have wm5 : IntKind.u32.wrap m5 = m5 := by rw [IntKind.wrap_u32']; omega
  obtain ⟨m6, em6⟩ : ∃ m, m = numAt ys 24 8 := ⟨_, rfl⟩
  have bm6 := n8 24
  rw [← em6] at Cm6 bm6
  obtain ⟨bm60, bm61⟩ := bm6
  obtain ⟨m9, em9⟩ : ∃ m, m = numAt ys 40 8 := ⟨_, rfl⟩
  have bm9 := n8 40
  rw [← em9] at Cm9 bm9
  obtain ⟨bm90, bm91⟩ := bm9
  obtain ⟨m7, em7⟩ : ∃ m, m = numAt ys 32 8 := ⟨_, rfl⟩
  have bm7 := n8 32
  rw [← em7] at Cm7 bm7
  obtain ⟨bm70, bm71⟩ := bm7
  obtain ⟨m8, em8⟩ : ∃ m, m = numAt ys 36 4 := ⟨_, rfl⟩
  have bm8 := n4 36
  rw [← em8] at Cm8 bm8
  obtain ⟨bm80, bm81⟩ := bm8
  have wm8 : IntKind.u32.wrap m8 = m8 := by rw [IntKind.wrap_u32']; omega
  obtain ⟨mz, emz⟩ : ∃ m, m = numAt ys 32 4 := ⟨_, rfl⟩
  have bmz := n4 32
  rw [← emz] at Cmz bmz
  obtain ⟨bmz0, bmz1⟩ := bmz
  obtain ⟨ms, ems⟩ : ∃ m, m = numAt ys 4 2 := ⟨_, rfl⟩
  have bms := n2 4
  rw [← ems] at Cms bms
  obtain ⟨bms0, bms1⟩ := bms
  rw [← emz, ← ems, ← em4] at HH
  rw [← em0, ← em1, ← em2, ← em3, ← em4, ← em5, ← em6, ← em7, ← em8, ← em9] at TA
  obtain ⟨sg, hsg⟩ : ∃ sg, sg = (ys.drop 48).take 16 := ⟨_, rfl⟩
  have hsl : sg.length = 16 := by rw [hsg]; simp; omega
  have CES : Hid (∀ w' : World, Below w.heap.size w w' → ∀ k, k < 16 → w'.cell? ⟨b, off + (p + 48 + k), none⟩ = some (.int .u8 (sg.getD k 0))) := fun w' hb k hk => by
    rw [Nat.add_assoc p 48 k, CE.out w' hb (48 + k) (by omega), hsg]
    simp [List.getD_eq_getElem?_getD, List.getElem?_drop, hk]
  rw [← hsg] at TA
  obtain ⟨y0, hy0⟩ : ∃ y, y = ys.getD 0 0 := ⟨_, rfl⟩
  obtain ⟨y1, hy1⟩ : ∃ y, y = ys.getD 1 0 := ⟨_, rfl⟩
  obtain ⟨y2, hy2⟩ : ∃ y, y = ys.getD 2 0 := ⟨_, rfl⟩
  obtain ⟨y3, hy3⟩ : ∃ y, y = ys.getD 3 0 := ⟨_, rfl⟩
  rw [← hy0, ← hy1, ← hy2, ← hy3] at HH
  have CE4 : Hid (∀ w' : World, Below w.heap.size w w' → w'.cell? ⟨b, off + p, none⟩ = some (.int .u8 y0) ∧ w'.cell? ⟨b, off + (p + 1), none⟩ = some (.int .u8 y1) ∧ w'.cell? ⟨b, off + (p + 2), none⟩ = some (.int .u8 y2) ∧ w'.cell? ⟨b, off + (p + 3), none⟩ = some (.int .u8 y3)) := fun w' hb => by
    rw [hy0, hy1, hy2, hy3]
    exact ⟨CE.out w' hb 0 (by omega), CE.out w' hb 1 (by omega), CE.out w' hb 2 (by omega), CE.out w' hb 3 (by omega)⟩
  have E0 : Hid (hcells zeroHd = hcells ⟨0, 0, 0, 0, 0, 0, 0, 0, 0, 0, List.replicate 16 0⟩) := rfl
  have E1 : Hid ((hcells ⟨0, 0, 0, 0, 0, 0, 0, 0, 0, 0, List.replicate 16 0⟩).set 0 (.int .u16 m0) = hcells ⟨m0, 0, 0, 0, 0, 0, 0, 0, 0, 0, List.replicate 16 0⟩) := rfl
  have E2 : Hid ((hcells ⟨m0, 0, 0, 0, 0, 0, 0, 0, 0, 0, List.replicate 16 0⟩).set 1 (.int .u32 m1) = hcells ⟨m0, m1, 0, 0, 0, 0, 0, 0, 0, 0, List.replicate 16 0⟩) := rfl
  have E3 : Hid ((hcells ⟨m0, m1, 0, 0, 0, 0, 0, 0, 0, 0, List.replicate 16 0⟩).set 2 (.int .u16 m2) = hcells ⟨m0, m1, m2, 0, 0, 0, 0, 0, 0, 0, List.replicate 16 0⟩) := rfl
  have E4 : Hid ((hcells ⟨m0, m1, m2, 0, 0, 0, 0, 0, 0, 0, List.replicate 16 0⟩).set 3 (.int .u16 m3) = hcells ⟨m0, m1, m2, m3, 0, 0, 0, 0, 0, 0, List.replicate 16 0⟩) := rfl
  have E5 : Hid ((hcells ⟨m0, m1, m2, m3, 0, 0, 0, 0, 0, 0, List.replicate 16 0⟩).set 4 (.int .u32 m4) = hcells ⟨m0, m1, m2, m3, m4, 0, 0, 0, 0, 0, List.replicate 16 0⟩) := rfl
  have E6 : Hid ((hcells ⟨m0, m1, m2, m3, m4, 0, 0, 0, 0, 0, List.replicate 16 0⟩).set 5 (.int .u32 m5) = hcells ⟨m0, m1, m2, m3, m4, m5, 0, 0, 0, 0, List.replicate 16 0⟩) := rfl
  have E7 : Hid ((hcells ⟨m0, m1, m2, m3, m4, m5, 0, 0, 0, 0, List.replicate 16 0⟩).set 6 (.int .u64 m6) = hcells ⟨m0, m1, m2, m3, m4, m5, m6, 0, 0, 0, List.replicate 16 0⟩) := rfl
  have E8 : Hid ((hcells ⟨m0, m1, m2, m3, m4, m5, m6, 0, 0, 0, List.replicate 16 0⟩).set 9 (.int .u64 m9) = hcells ⟨m0, m1, m2, m3, m4, m5, m6, 0, 0, m9, List.replicate 16 0⟩) := rfl
  have EA : Hid ((hcells ⟨m0, m1, m2, m3, m4, m5, m6, 0, 0, m9, List.replicate 16 0⟩).set 7 (.int .u64 m7) = hcells ⟨m0, m1, m2, m3, m4, m5, m6, m7, 0, m9, List.replicate 16 0⟩) := rfl
  have ET : Hid ((hcells ⟨m0, m1, m2, m3, m4, m5, m6, 0, 0, m9, List.replicate 16 0⟩).set 8 (.int .u32 m8) = hcells ⟨m0, m1, m2, m3, m4, m5, m6, 0, m8, m9, List.replicate 16 0⟩) := rfl
  have K8 : Hd.ok ⟨m0, m1, m2, m3, m4, m5, m6, 0, 0, m9, List.replicate 16 0⟩ := ⟨by dsimp only; omega, by dsimp only; omega, by dsimp only; omega, by dsimp only; omega, by dsimp only; omega, by dsimp only; omega, by dsimp only; omega, by dsimp only; omega, by dsimp only; omega, by dsimp only; omega, rfl, Bytes.zeros 16⟩
  have CH : Hid (∀ w : World, Calls Tryd.prog 26 #[hv ⟨m0, m1, m2, m3, m4, m5, m6, 0, 0, m9, List.replicate 16 0⟩, .int .u32 2] w fun e w' => e = .returned (.bool (isAs m4)) ∧ Below w.heap.size w w') := fun w => RHas_any w _ K8
  have SA := sig_steps ⟨m0, m1, m2, m3, m4, m5, m6, m7, 0, m9, List.replicate 16 0⟩ sg hsl rfl
  have SB := sig_steps ⟨m0, m1, m2, m3, m4, m5, m6, 0, m8, m9, List.replicate 16 0⟩ sg hsl rfl
  have H0 : Hid ((hcells ⟨0, 0, 0, 0, 0, 0, 0, 0, 0, 0, List.replicate 16 0⟩).length = 26) := rfl
  have HZO : Hid (∀ v ∈ hcells zeroHd, v.oneCell' = true) := hcells_one _
  obtain ⟨d0, hd0⟩ : ∃ d, d = hcells ⟨0, 0, 0, 0, 0, 0, 0, 0, 0, 0, List.replicate 16 0⟩ := ⟨_, rfl⟩
  have H1 : Hid ((hcells ⟨m0, 0, 0, 0, 0, 0, 0, 0, 0, 0, List.replicate 16 0⟩).length = 26) := rfl
  obtain ⟨d1, hd1⟩ : ∃ d, d = hcells ⟨m0, 0, 0, 0, 0, 0, 0, 0, 0, 0, List.replicate 16 0⟩ := ⟨_, rfl⟩
  have H2 : Hid ((hcells ⟨m0, m1, 0, 0, 0, 0, 0, 0, 0, 0, List.replicate 16 0⟩).length = 26) := rfl
  obtain ⟨d2, hd2⟩ : ∃ d, d = hcells ⟨m0, m1, 0, 0, 0, 0, 0, 0, 0, 0, List.replicate 16 0⟩ := ⟨_, rfl⟩
  have H3 : Hid ((hcells ⟨m0, m1, m2, 0, 0, 0, 0, 0, 0, 0, List.replicate 16 0⟩).length = 26) := rfl
  obtain ⟨d3, hd3⟩ : ∃ d, d = hcells ⟨m0, m1, m2, 0, 0, 0, 0, 0, 0, 0, List.replicate 16 0⟩ := ⟨_, rfl⟩
  have H4 : Hid ((hcells ⟨m0, m1, m2, m3, 0, 0, 0, 0, 0, 0, List.replicate 16 0⟩).length = 26) := rfl
  obtain ⟨d4, hd4⟩ : ∃ d, d = hcells ⟨m0, m1, m2, m3, 0, 0, 0, 0, 0, 0, List.replicate 16 0⟩ := ⟨_, rfl⟩
  have H5 : Hid ((hcells ⟨m0, m1, m2, m3, m4, 0, 0, 0, 0, 0, List.replicate 16 0⟩).length = 26) := rfl
  obtain ⟨d5, hd5⟩ : ∃ d, d = hcells ⟨m0, m1, m2, m3, m4, 0, 0, 0, 0, 0, List.replicate 16 0⟩ := ⟨_, rfl⟩
  have H6 : Hid ((hcells ⟨m0, m1, m2, m3, m4, m5, 0, 0, 0, 0, List.replicate 16 0⟩).length = 26) := rfl
  obtain ⟨d6, hd6⟩ : ∃ d, d = hcells ⟨m0, m1, m2, m3, m4, m5, 0, 0, 0, 0, List.replicate 16 0⟩ := ⟨_, rfl⟩
  have H7 : Hid ((hcells ⟨m0, m1, m2, m3, m4, m5, m6, 0, 0, 0, List.replicate 16 0⟩).length = 26) := rfl
  obtain ⟨d7, hd7⟩ : ∃ d, d = hcells ⟨m0, m1, m2, m3, m4, m5, m6, 0, 0, 0, List.replicate 16 0⟩ := ⟨_, rfl⟩
  have H8 : Hid ((hcells ⟨m0, m1, m2, m3, m4, m5, m6, 0, 0, m9, List.replicate 16 0⟩).length = 26) := rfl
  obtain ⟨d8, hd8⟩ : ∃ d, d = hcells ⟨m0, m1, m2, m3, m4, m5, m6, 0, 0, m9, List.replicate 16 0⟩ := ⟨_, rfl⟩
  unfold hv at CH CMY HQ0 HQ5
  rw [E0.out] at HQ5 ZH BH HZO
  rw [← hd0] at E1 H0 HQ5 ZH BH HZO
  rw [← hd1] at E1 E2 H1
  rw [← hd2] at E2 E3 H2
  rw [← hd3] at E3 E4 H3
  rw [← hd4] at E4 E5 H4
  rw [← hd5] at E5 E6 H5
  rw [← hd6] at E6 E7 H6
  rw [← hd7] at E7 E8 H7
  rw [← hd8] at E8 EA ET CH H8
  obtain ⟨ts, hts⟩ : ∃ ts, ts = hcells (takenP ys) := ⟨_, rfl⟩
  rw [← hts] at CMY HQ0 LTT OTT TA
  have HHH := Lib.hid HH
  have TAA := Lib.hid TA
  clear HH TA hx hys hyl hyb GN n2 n4 n8 KT hmy K8 hsg hsl hy0 hy1 hy2 hy3 CE E0 hts hp emz ems em0 em1 em2 em3 em4 em5 em6 em7 em8 em9 hd0 hd1 hd2 hd3 hd4 hd5 hd6 hd7 hd8
  go_enter Tryd.func25, Tryd.ntmps25
  go_wp2_with (first
    | ((with_reducible show wpList _ _ _ (⟨some 4, _, _, _, _, _⟩ :: _) _ _); refine wpList_alloc_blk rfl _ rfl d0 _ ZH ?_; intro g0 u1 hg01 hg02 Z1 L1)
    | ((with_reducible show wpList _ _ _ (⟨some 6, _, _, _, _, _⟩ :: _) _ _); refine wpList_alloc_blk rfl _ rfl d0 _ ZH ?_; intro g u2 hg1 hg2 X0 L2)
    | fail)
  have hgg : g0 ≠ g := by omega
  have hgw : w.heap.size ≤ g := by have := L1.out.size; omega
  have L0 := Lib.hid (step L1.out L2.out)
  have Z0 := Lib.hid (Z1.out.over L2.out)
  clear L1 L2 Z1 hg1 hg2 hg02
  refine (Cm0.out _ L0.out).mono ?_
  rintro e w' ⟨rfl, rfl⟩
  go_wp2_with (first
    | ((with_reducible show wpList _ _ _ (⟨none, .store _ (.tmp 28) _, _, _, _, _⟩ :: _) _ _); refine wpList_store_fld rfl _ (.tmp 28) (.tmp 27) rfl g 0 rfl _ d0 (.int .u16 m0) rfl X0 (by have := H0.out; show 0 < _; omega) (by kernel_rfl) rfl ?_; intro wn XN ON hgN; rw [E1.out] at XN)
    | fail)
  have L1 : Hid (Below w.heap.size w wn) := below_only L0.out ON.out hgw
  have Z1 : Hid (Blk wn g0 49 d0) := Z0.out.only ON.out hgg
  have X1 := XN
  clear XN ON hgN X0 L0 Z0
  clear Cm0 E1
  refine (Cm1.out _ L1.out).mono ?_
  rintro e w' ⟨rfl, rfl⟩
  go_wp2_with (first
    | ((with_reducible show wpList _ _ _ (⟨none, .store _ (.tmp 34) _, _, _, _, _⟩ :: _) _ _); refine wpList_store_fld rfl _ (.tmp 34) (.tmp 33) rfl g 1 rfl _ d1 (.int .u32 m1) rfl X1 (by have := H1.out; show 1 < _; omega) (by kernel_rfl) rfl ?_; intro wn XN ON hgN; rw [E2.out] at XN)
    | fail)
  have L2 : Hid (Below w.heap.size w wn) := below_only L1.out ON.out hgw
  have Z2 : Hid (Blk wn g0 49 d0) := Z1.out.only ON.out hgg
  have X2 := XN
  clear XN ON hgN X1 L1 Z1
  clear Cm1 E2
  refine (Cm2.out _ L2.out).mono ?_
  rintro e w' ⟨rfl, rfl⟩
  go_wp2_with (first
    | ((with_reducible show wpList _ _ _ (⟨none, .store _ (.tmp 40) _, _, _, _, _⟩ :: _) _ _); refine wpList_store_fld rfl _ (.tmp 40) (.tmp 39) rfl g 2 rfl _ d2 (.int .u16 m2) rfl X2 (by have := H2.out; show 2 < _; omega) (by kernel_rfl) rfl ?_; intro wn XN ON hgN; rw [E3.out] at XN)
    | fail)
  have L3 : Hid (Below w.heap.size w wn) := below_only L2.out ON.out hgw
  have Z3 : Hid (Blk wn g0 49 d0) := Z2.out.only ON.out hgg
  have X3 := XN
  clear XN ON hgN X2 L2 Z2
  clear Cm2 E3
  refine (Cm3.out _ L3.out).mono ?_
  rintro e w' ⟨rfl, rfl⟩
  go_wp2_with (first
    | ((with_reducible show wpList _ _ _ (⟨none, .store _ (.tmp 46) _, _, _, _, _⟩ :: _) _ _); refine wpList_store_fld rfl _ (.tmp 46) (.tmp 45) rfl g 3 rfl _ d3 (.int .u16 m3) rfl X3 (by have := H3.out; show 3 < _; omega) (by kernel_rfl) rfl ?_; intro wn XN ON hgN; rw [E4.out] at XN)
    | fail)
  have L4 : Hid (Below w.heap.size w wn) := below_only L3.out ON.out hgw
  have Z4 : Hid (Blk wn g0 49 d0) := Z3.out.only ON.out hgg
  have X4 := XN
  clear XN ON hgN X3 L3 Z3
  clear Cm3 E4
  refine (Cm4.out _ L4.out).mono ?_
  rintro e w' ⟨rfl, rfl⟩
  go_wp2_with (first
    | ((with_reducible show wpList _ _ _ (⟨none, .store _ (.tmp 52) _, _, _, _, _⟩ :: _) _ _); refine wpList_store_fld rfl _ (.tmp 52) (.tmp 51) rfl g 4 rfl _ d4 (.int .u32 m4) rfl X4 (by have := H4.out; show 4 < _; omega) (by kernel_rfl) rfl ?_; intro wn XN ON hgN; rw [E5.out] at XN)
    | fail)
  have L5 : Hid (Below w.heap.size w wn) := below_only L4.out ON.out hgw
  have Z5 : Hid (Blk wn g0 49 d0) := Z4.out.only ON.out hgg
  have X5 := XN
  clear XN ON hgN X4 L4 Z4
  clear Cm4 E5
  refine (Cm5.out _ L5.out).mono ?_
  rintro e w' ⟨rfl, rfl⟩
  go_wp2_with (first
    | ((with_reducible show wpList _ _ _ (⟨none, .store _ (.tmp 58) _, _, _, _, _⟩ :: _) _ _); refine wpList_store_fld rfl _ (.tmp 58) (.tmp 57) rfl g 5 rfl _ d5 (.int .u32 m5) rfl X5 (by have := H5.out; show 5 < _; omega) (by kernel_rfl) rfl ?_; intro wn XN ON hgN; rw [E6.out] at XN)
    | fail)
  have L6 : Hid (Below w.heap.size w wn) := below_only L5.out ON.out hgw
  have Z6 : Hid (Blk wn g0 49 d0) := Z5.out.only ON.out hgg
  have X6 := XN
  clear XN ON hgN X5 L5 Z5
  clear Cm5 E6
  refine (Cm6.out _ L6.out).mono ?_
  rintro e w' ⟨rfl, rfl⟩
  go_wp2_with (first
    | ((with_reducible show wpList _ _ _ (⟨none, .store _ (.tmp 63) _, _, _, _, _⟩ :: _) _ _); refine wpList_store_fld rfl _ (.tmp 63) (.tmp 62) rfl g 6 rfl _ d6 (.int .u64 m6) rfl X6 (by have := H6.out; show 6 < _; omega) (by kernel_rfl) rfl ?_; intro wn XN ON hgN; rw [E7.out] at XN)
    | fail)
  have L7 : Hid (Below w.heap.size w wn) := below_only L6.out ON.out hgw
  have Z7 : Hid (Blk wn g0 49 d0) := Z6.out.only ON.out hgg
  have X7 := XN
  clear XN ON hgN X6 L6 Z6
  clear Cm6 E7
  refine (Cm9.out _ L7.out).mono ?_
  rintro e w' ⟨rfl, rfl⟩
  go_wp2_with (first
    | ((with_reducible show wpList _ _ _ (⟨none, .store _ (.tmp 68) _, _, _, _, _⟩ :: _) _ _); refine wpList_store_fld rfl _ (.tmp 68) (.tmp 67) rfl g 9 rfl _ d7 (.int .u64 m9) rfl X7 (by have := H7.out; show 9 < _; omega) (by kernel_rfl) rfl ?_; intro wn XN ON hgN; rw [E8.out] at XN)
    | ((with_reducible show wpList _ _ _ (⟨some 69, _, _, _, _, _⟩ :: _) _ _); refine wpList_load_blk rfl _ (.tmp 6) rfl g rfl _ d8 XN 26 _ Tryd.underlying49 rfl size_hd H8 ?_)
    | fail)
  have L8 : Hid (Below w.heap.size w wn) := below_only L7.out ON.out hgw
  have Z8 : Hid (Blk wn g0 49 d0) := Z7.out.only ON.out hgg
  have X8 := XN
  clear XN ON hgN X7 L7 Z7
  clear Cm9 E8
  refine (CH.out _).mono ?_
  rintro e x9 ⟨rfl, LN⟩
  have L9 := Lib.hid (step L8.out LN)
  have X9 := Lib.hid (X8.out.over LN)
  have Z9 := Lib.hid (Z8.out.over LN)
  clear LN L8 X8 Z8 CH
  by_cases hi : isAs m4 = true
  · have TT := TAA.out.1 hi
    obtain ⟨s0, sst, sl, s16⟩ := SA
    rw [← EA.out] at s0
    have S16 := Lib.hid (s16.trans TT.symm)
    clear s16 TT
    obtain ⟨sc, hsc⟩ : ∃ sc : Nat → List Value, sc = sigc ⟨m0, m1, m2, m3, m4, m5, m6, m7, 0, m9, List.replicate 16 0⟩ sg := ⟨_, rfl⟩
    rw [← hsc] at s0 sst sl S16
    have S0 := Lib.hid s0
    have SS := Lib.hid sst
    have SL := Lib.hid sl
    clear s0 sst sl hsc SB ET Cm8 Cmz wm8 TAA
    have HI : Hid ((isAs m4 || decide (mz = 0)) = true) := by show _ = _; rw [hi]; rfl
    rw [hi]
    clear hi
    go_wp2_with fail
    refine (Cm7.out _ L9.out).mono ?_
    rintro e w' ⟨rfl, rfl⟩
    go_wp2_with (first
      | ((with_reducible show wpList _ _ _ (⟨none, .store _ (.tmp 75) _, _, _, _, _⟩ :: _) _ _); refine wpList_store_fld rfl _ (.tmp 75) (.tmp 74) rfl g 7 rfl _ d8 (.int .u64 m7) rfl X9 (by have := H8.out; show 7 < _; omega) (by kernel_rfl) rfl ?_; intro wn XN ON hgN)
      | fail)
    have L10 : Hid (Below w.heap.size w wn) := below_only L9.out ON.out hgw
    have Z10 : Hid (Blk wn g0 49 d0) := Z9.out.only ON.out hgg
    have X10 := XN
    clear XN ON hgN X9 L9 Z9
    clear Cm7 EA
    go_loopw [7] (fun i wr => ∃ k : Nat, k ≤ 16 ∧ i = .int .i64 k ∧ Hid (Blk wr g 49 (sc k)) ∧ Hid (Blk wr g0 49 d0) ∧ Hid (Below w.heap.size w wr)) (fun i _ => 16 - (intOf i).toNat)
    case atStart => exact ⟨0, Nat.zero_le _, rfl, by rw [← S0.out]; exact X10, Z10, L10⟩
    case round =>
      clear X10 Z10 L10 S0
      obtain ⟨k, hk, rfl, XX, ZZ, LL⟩ := hrel
      by_cases hlt : k < 16
      · have gc := CES.out _ LL.out k hlt
        have HSN := Lib.hid (SS.out k hlt)
        have HSL := Lib.hid (SL.out k (by omega))
        obtain ⟨y, hy⟩ : ∃ y, y = sg.getD k 0 := ⟨_, rfl⟩
        rw [← hy] at gc HSN
        obtain ⟨ck, hck⟩ : ∃ ck, ck = sc k := ⟨_, rfl⟩
        rw [← hck] at XX HSN HSL
        clear hy hck SS SL CES CE4
        go_wp2_with (first
          | ((with_reducible show wpList _ _ _ (⟨none, .store _ (.tmp 101) _, _, _, _, _⟩ :: _) _ _); refine wpList_store_fld rfl _ (.tmp 101) (.tmp 99) rfl g (10 + k) rfl _ ck (.int .u8 y) rfl XX (by have := HSL.out; show 10 + k < _; omega) (by kernel_rfl) rfl ?_; intro w1 XN ON hgN; rw [HSN.out] at XN)
          | fail)
        have LN : Hid (Below w.heap.size w w1) := below_only LL.out ON.out hgw
        have ZN : Hid (Blk w1 g0 49 d0) := ZZ.out.only ON.out hgg
        clear gc HSN XX ZZ LL ON hgN
        go_roundw
        case rel => exact ⟨k + 1, by omega, by go_num, XN, ZN, LN⟩
        case measure => simp [intOf]; omega
      · obtain rfl : k = 16 := by omega
        obtain ⟨gc0, gc1, gc2, gc3⟩ := CE4.out _ LL.out
        rw [S16.out] at XX
        clear CE4 CES SS SL S16
        by_cases t0 : y0 = 254
        rotate_left
        · have nt : (y0 != 254) = true := by simpa using t0
          have T0 := Lib.hid t0
          clear t0
          go_wp2_with (first | ((with_reducible show wpList _ _ _ (⟨some 143, _, _, _, _, _⟩ :: _) _ _); refine wpList_build_none rfl _ rfl d0 BH ?_) | ((with_reducible show wpList _ _ _ (⟨none, .store _ (.tmp 4) _, _, _, _, _⟩ :: _) _ _); refine wpList_store_blk rfl _ (.tmp 4) (.tmp 143) rfl g0 rfl _ d0 d0 rfl ZZ 26 size_hd H0 H0 HZO ?_; intro w9 BN ON hg9) | fail)
          refine bodyPost_ret (v := .tuple #[.agg d0.toArray, .int .i64 5]) ?_ rfl (HQ5.out (by rw [HHH.out]; simp [T0.out]) _ _ ⟨rfl, below_only LL.out ON.out hg01⟩)
          exact results_cell_slot rfl _ _ g0 _ _ (0, 0) _ rfl BN.out Tryd.underlying49 rfl (by rw [size_hd]; have := H0.out; simp [this]) rfl
        have nt0 : (y0 != 254) = false := by simpa using t0
        have T0 := Lib.hid t0
        clear t0
        by_cases t1 : y1 = 83
        rotate_left
        · have nt : (y1 != 83) = true := by simpa using t1
          have T1 := Lib.hid t1
          clear t1
          go_wp2_with (first | ((with_reducible show wpList _ _ _ (⟨some 143, _, _, _, _, _⟩ :: _) _ _); refine wpList_build_none rfl _ rfl d0 BH ?_) | ((with_reducible show wpList _ _ _ (⟨none, .store _ (.tmp 4) _, _, _, _, _⟩ :: _) _ _); refine wpList_store_blk rfl _ (.tmp 4) (.tmp 143) rfl g0 rfl _ d0 d0 rfl ZZ 26 size_hd H0 H0 HZO ?_; intro w9 BN ON hg9) | fail)
          refine bodyPost_ret (v := .tuple #[.agg d0.toArray, .int .i64 5]) ?_ rfl (HQ5.out (by rw [HHH.out]; simp [T1.out]) _ _ ⟨rfl, below_only LL.out ON.out hg01⟩)
          exact results_cell_slot rfl _ _ g0 _ _ (0, 0) _ rfl BN.out Tryd.underlying49 rfl (by rw [size_hd]; have := H0.out; simp [this]) rfl
        have nt1 : (y1 != 83) = false := by simpa using t1
        have T1 := Lib.hid t1
        clear t1
        by_cases t2 : y2 = 77
        rotate_left
        · have nt : (y2 != 77) = true := by simpa using t2
          have T2 := Lib.hid t2
          clear t2
          go_wp2_with (first | ((with_reducible show wpList _ _ _ (⟨some 143, _, _, _, _, _⟩ :: _) _ _); refine wpList_build_none rfl _ rfl d0 BH ?_) | ((with_reducible show wpList _ _ _ (⟨none, .store _ (.tmp 4) _, _, _, _, _⟩ :: _) _ _); refine wpList_store_blk rfl _ (.tmp 4) (.tmp 143) rfl g0 rfl _ d0 d0 rfl ZZ 26 size_hd H0 H0 HZO ?_; intro w9 BN ON hg9) | fail)
          refine bodyPost_ret (v := .tuple #[.agg d0.toArray, .int .i64 5]) ?_ rfl (HQ5.out (by rw [HHH.out]; simp [T2.out]) _ _ ⟨rfl, below_only LL.out ON.out hg01⟩)
          exact results_cell_slot rfl _ _ g0 _ _ (0, 0) _ rfl BN.out Tryd.underlying49 rfl (by rw [size_hd]; have := H0.out; simp [this]) rfl
        have nt2 : (y2 != 77) = false := by simpa using t2
        have T2 := Lib.hid t2
        clear t2
        by_cases t3 : y3 = 66
        rotate_left
        · have nt : (y3 != 66) = true := by simpa using t3
          have T3 := Lib.hid t3
          clear t3
          go_wp2_with (first | ((with_reducible show wpList _ _ _ (⟨some 143, _, _, _, _, _⟩ :: _) _ _); refine wpList_build_none rfl _ rfl d0 BH ?_) | ((with_reducible show wpList _ _ _ (⟨none, .store _ (.tmp 4) _, _, _, _, _⟩ :: _) _ _); refine wpList_store_blk rfl _ (.tmp 4) (.tmp 143) rfl g0 rfl _ d0 d0 rfl ZZ 26 size_hd H0 H0 HZO ?_; intro w9 BN ON hg9) | fail)
          refine bodyPost_ret (v := .tuple #[.agg d0.toArray, .int .i64 5]) ?_ rfl (HQ5.out (by rw [HHH.out]; simp [T3.out]) _ _ ⟨rfl, below_only LL.out ON.out hg01⟩)
          exact results_cell_slot rfl _ _ g0 _ _ (0, 0) _ rfl BN.out Tryd.underlying49 rfl (by rw [size_hd]; have := H0.out; simp [this]) rfl
        have nt3 : (y3 != 66) = false := by simpa using t3
        have T3 := Lib.hid t3
        clear t3
        by_cases t4 : ms = 64
        rotate_left
        · have nt : (ms != 64) = true := by simpa using t4
          have T4 := Lib.hid t4
          clear t4
          go_wp2_with fail
          refine (Cms.out _ LL.out).mono ?_
          rintro e w' ⟨rfl, rfl⟩
          go_wp2_with (first | ((with_reducible show wpList _ _ _ (⟨some 143, _, _, _, _, _⟩ :: _) _ _); refine wpList_build_none rfl _ rfl d0 BH ?_) | ((with_reducible show wpList _ _ _ (⟨none, .store _ (.tmp 4) _, _, _, _, _⟩ :: _) _ _); refine wpList_store_blk rfl _ (.tmp 4) (.tmp 143) rfl g0 rfl _ d0 d0 rfl ZZ 26 size_hd H0 H0 HZO ?_; intro w9 BN ON hg9) | fail)
          refine bodyPost_ret (v := .tuple #[.agg d0.toArray, .int .i64 5]) ?_ rfl (HQ5.out (by rw [HHH.out]; simp [T4.out]) _ _ ⟨rfl, below_only LL.out ON.out hg01⟩)
          exact results_cell_slot rfl _ _ g0 _ _ (0, 0) _ rfl BN.out Tryd.underlying49 rfl (by rw [size_hd]; have := H0.out; simp [this]) rfl
        have nt4 : (ms != 64) = false := by simpa using t4
        have T4 := Lib.hid t4
        clear t4
        have HP : Hid (headP ys = my) := by show _ = _; rw [HHH.out]; simp [T0.out, T1.out, T2.out, T3.out, T4.out, HI.out]
        go_wp2_with fail
        refine (Cms.out _ LL.out).mono ?_
        rintro e w' ⟨rfl, rfl⟩
        go_wp2_with (first | ((with_reducible show wpList _ _ _ (⟨some 139, _, _, _, _, _⟩ :: _) _ _); refine wpList_load_want (by kernel_rfl) _ (.tmp 6) rfl g rfl _ ts XX 26 _ Tryd.underlying49 rfl size_hd LTT ?_) | fail)
        refine (CMY.out _).mono ?_
        rintro e v1 ⟨rfl, LM⟩
        have LL1 := Lib.hid (step LL.out LM)
        have ZZ1 := Lib.hid (ZZ.out.over LM)
        have XX1 := Lib.hid (XX.out.over LM)
        clear LL ZZ XX LM gc0 gc1 gc2 gc3
        cases my
        · go_wp2_with (first | ((with_reducible show wpList _ _ _ (⟨some 143, _, _, _, _, _⟩ :: _) _ _); refine wpList_build_none rfl _ rfl d0 BH ?_) | ((with_reducible show wpList _ _ _ (⟨none, .store _ (.tmp 4) _, _, _, _, _⟩ :: _) _ _); refine wpList_store_blk rfl _ (.tmp 4) (.tmp 143) rfl g0 rfl _ d0 d0 rfl ZZ1 26 size_hd H0 H0 HZO ?_; intro w9 BN ON hg9) | fail)
          refine bodyPost_ret (v := .tuple #[.agg d0.toArray, .int .i64 5]) ?_ rfl (HQ5.out HP.out _ _ ⟨rfl, below_only LL1.out ON.out hg01⟩)
          exact results_cell_slot rfl _ _ g0 _ _ (0, 0) _ rfl BN.out Tryd.underlying49 rfl (by rw [size_hd]; have := H0.out; simp [this]) rfl
        · go_wp2_with (first | ((with_reducible show wpList _ _ _ (⟨some 144, _, _, _, _, _⟩ :: _) _ _); refine wpList_load_blk rfl _ (.tmp 6) rfl g rfl _ ts XX1 26 _ Tryd.underlying49 rfl size_hd LTT ?_) | ((with_reducible show wpList _ _ _ (⟨none, .store _ (.tmp 4) _, _, _, _, _⟩ :: _) _ _); refine wpList_store_blk rfl _ (.tmp 4) (.tmp 144) rfl g0 rfl _ d0 ts rfl ZZ1 26 size_hd H0 LTT OTT ?_; intro w9 BN ON hg9) | fail)
          refine bodyPost_ret (v := .tuple #[.agg ts.toArray, .int .i64 0]) ?_ rfl (HQ0.out HP.out _ _ ⟨rfl, below_only LL1.out ON.out hg01⟩)
          exact results_cell_slot rfl _ _ g0 _ _ (0, 0) _ rfl BN.out Tryd.underlying49 rfl (by rw [size_hd]; have := LTT.out; simp [this]) rfl
  · have hi' : isAs m4 = false := by simpa using hi
    have TT := TAA.out.2 hi'
    obtain ⟨s0, sst, sl, s16⟩ := SB
    rw [← ET.out] at s0
    have S16 := Lib.hid (s16.trans TT.symm)
    clear s16 TT
    obtain ⟨sc, hsc⟩ : ∃ sc : Nat → List Value, sc = sigc ⟨m0, m1, m2, m3, m4, m5, m6, 0, m8, m9, List.replicate 16 0⟩ sg := ⟨_, rfl⟩
    rw [← hsc] at s0 sst sl S16
    have S0 := Lib.hid s0
    have SS := Lib.hid sst
    have SL := Lib.hid sl
    clear s0 sst sl hsc SA EA Cm7 hi TAA
    by_cases hz : mz = 0
    rotate_left
    · have nt : (mz != 0) = true := by simpa using hz
      have HP : Hid (headP ys = false) := by show _ = _; rw [HHH.out]; simp [hi', hz]
      rw [hi']
      clear hi' hz
      go_wp2_with fail
      refine (Cm8.out _ L9.out).mono ?_
      rintro e w' ⟨rfl, rfl⟩
      go_wp2_with (first
        | ((with_reducible show wpList _ _ _ (⟨none, .store _ (.tmp 81) _, _, _, _, _⟩ :: _) _ _); refine wpList_store_fld rfl _ (.tmp 81) (.tmp 80) rfl g 8 rfl _ d8 (.int .u32 m8) rfl X9 (by have := H8.out; show 8 < _; omega) (by kernel_rfl) rfl ?_; intro wn XN ON hgN)
        | fail)
      have L10 : Hid (Below w.heap.size w wn) := below_only L9.out ON.out hgw
      have Z10 : Hid (Blk wn g0 49 d0) := Z9.out.only ON.out hgg
      have X10 := XN
      clear XN ON hgN X9 L9 Z9
      refine (Cmz.out _ L10.out).mono ?_
      rintro e w' ⟨rfl, rfl⟩
      go_wp2_with (first | ((with_reducible show wpList _ _ _ (⟨some 87, _, _, _, _, _⟩ :: _) _ _); refine wpList_build_none rfl _ rfl d0 BH ?_) | ((with_reducible show wpList _ _ _ (⟨none, .store _ (.tmp 4) _, _, _, _, _⟩ :: _) _ _); refine wpList_store_blk rfl _ (.tmp 4) (.tmp 87) rfl g0 rfl _ d0 d0 rfl Z10 26 size_hd H0 H0 HZO ?_; intro w9 BN ON hg9) | fail)
      refine bodyPost_ret (v := .tuple #[.agg d0.toArray, .int .i64 5]) ?_ rfl (HQ5.out HP.out _ _ ⟨rfl, below_only L10.out ON.out hg01⟩)
      exact results_cell_slot rfl _ _ g0 _ _ (0, 0) _ rfl BN.out Tryd.underlying49 rfl (by rw [size_hd]; have := H0.out; simp [this]) rfl
    have nt : (mz != 0) = false := by simpa using hz
    have HI : Hid ((isAs m4 || decide (mz = 0)) = true) := by show _ = _; simp [hz]
    rw [hi']
    clear hi' hz
    go_wp2_with fail
    refine (Cm8.out _ L9.out).mono ?_
    rintro e w' ⟨rfl, rfl⟩
    go_wp2_with (first
      | ((with_reducible show wpList _ _ _ (⟨none, .store _ (.tmp 81) _, _, _, _, _⟩ :: _) _ _); refine wpList_store_fld rfl _ (.tmp 81) (.tmp 80) rfl g 8 rfl _ d8 (.int .u32 m8) rfl X9 (by have := H8.out; show 8 < _; omega) (by kernel_rfl) rfl ?_; intro wn XN ON hgN)
      | fail)
    have L10 : Hid (Below w.heap.size w wn) := below_only L9.out ON.out hgw
    have Z10 : Hid (Blk wn g0 49 d0) := Z9.out.only ON.out hgg
    have X10 := XN
    clear XN ON hgN X9 L9 Z9
    refine (Cmz.out _ L10.out).mono ?_
    rintro e w' ⟨rfl, rfl⟩
    clear Cm8 Cmz ET
    go_wp2_with fail
    go_loopw [7] (fun i wr => ∃ k : Nat, k ≤ 16 ∧ i = .int .i64 k ∧ Hid (Blk wr g 49 (sc k)) ∧ Hid (Blk wr g0 49 d0) ∧ Hid (Below w.heap.size w wr)) (fun i _ => 16 - (intOf i).toNat)
    case atStart => exact ⟨0, Nat.zero_le _, rfl, by rw [← S0.out]; exact X10, Z10, L10⟩
    case round =>
      clear X10 Z10 L10 S0
      obtain ⟨k, hk, rfl, XX, ZZ, LL⟩ := hrel
      by_cases hlt : k < 16
      · have gc := CES.out _ LL.out k hlt
        have HSN := Lib.hid (SS.out k hlt)
        have HSL := Lib.hid (SL.out k (by omega))
        obtain ⟨y, hy⟩ : ∃ y, y = sg.getD k 0 := ⟨_, rfl⟩
        rw [← hy] at gc HSN
        obtain ⟨ck, hck⟩ : ∃ ck, ck = sc k := ⟨_, rfl⟩
        rw [← hck] at XX HSN HSL
        clear hy hck SS SL CES CE4
        go_wp2_with (first
          | ((with_reducible show wpList _ _ _ (⟨none, .store _ (.tmp 101) _, _, _, _, _⟩ :: _) _ _); refine wpList_store_fld rfl _ (.tmp 101) (.tmp 99) rfl g (10 + k) rfl _ ck (.int .u8 y) rfl XX (by have := HSL.out; show 10 + k < _; omega) (by kernel_rfl) rfl ?_; intro w1 XN ON hgN; rw [HSN.out] at XN)
          | fail)
        have LN : Hid (Below w.heap.size w w1) := below_only LL.out ON.out hgw
        have ZN : Hid (Blk w1 g0 49 d0) := ZZ.out.only ON.out hgg
        clear gc HSN XX ZZ LL ON hgN
        go_roundw
        case rel => exact ⟨k + 1, by omega, by go_num, XN, ZN, LN⟩
        case measure => simp [intOf]; omega
      · obtain rfl : k = 16 := by omega
        obtain ⟨gc0, gc1, gc2, gc3⟩ := CE4.out _ LL.out
        rw [S16.out] at XX
        clear CE4 CES SS SL S16
        by_cases t0 : y0 = 254
        rotate_left
        · have nt : (y0 != 254) = true := by simpa using t0
          have T0 := Lib.hid t0
          clear t0
          go_wp2_with (first | ((with_reducible show wpList _ _ _ (⟨some 143, _, _, _, _, _⟩ :: _) _ _); refine wpList_build_none rfl _ rfl d0 BH ?_) | ((with_reducible show wpList _ _ _ (⟨none, .store _ (.tmp 4) _, _, _, _, _⟩ :: _) _ _); refine wpList_store_blk rfl _ (.tmp 4) (.tmp 143) rfl g0 rfl _ d0 d0 rfl ZZ 26 size_hd H0 H0 HZO ?_; intro w9 BN ON hg9) | fail)
          refine bodyPost_ret (v := .tuple #[.agg d0.toArray, .int .i64 5]) ?_ rfl (HQ5.out (by rw [HHH.out]; simp [T0.out]) _ _ ⟨rfl, below_only LL.out ON.out hg01⟩)
          exact results_cell_slot rfl _ _ g0 _ _ (0, 0) _ rfl BN.out Tryd.underlying49 rfl (by rw [size_hd]; have := H0.out; simp [this]) rfl
        have nt0 : (y0 != 254) = false := by simpa using t0
        have T0 := Lib.hid t0
        clear t0
        by_cases t1 : y1 = 83
        rotate_left
        · have nt : (y1 != 83) = true := by simpa using t1
          have T1 := Lib.hid t1
          clear t1
          go_wp2_with (first | ((with_reducible show wpList _ _ _ (⟨some 143, _, _, _, _, _⟩ :: _) _ _); refine wpList_build_none rfl _ rfl d0 BH ?_) | ((with_reducible show wpList _ _ _ (⟨none, .store _ (.tmp 4) _, _, _, _, _⟩ :: _) _ _); refine wpList_store_blk rfl _ (.tmp 4) (.tmp 143) rfl g0 rfl _ d0 d0 rfl ZZ 26 size_hd H0 H0 HZO ?_; intro w9 BN ON hg9) | fail)
          refine bodyPost_ret (v := .tuple #[.agg d0.toArray, .int .i64 5]) ?_ rfl (HQ5.out (by rw [HHH.out]; simp [T1.out]) _ _ ⟨rfl, below_only LL.out ON.out hg01⟩)
          exact results_cell_slot rfl _ _ g0 _ _ (0, 0) _ rfl BN.out Tryd.underlying49 rfl (by rw [size_hd]; have := H0.out; simp [this]) rfl
        have nt1 : (y1 != 83) = false := by simpa using t1
        have T1 := Lib.hid t1
        clear t1
        by_cases t2 : y2 = 77
        rotate_left
        · have nt : (y2 != 77) = true := by simpa using t2
          have T2 := Lib.hid t2
          clear t2
          go_wp2_with (first | ((with_reducible show wpList _ _ _ (⟨some 143, _, _, _, _, _⟩ :: _) _ _); refine wpList_build_none rfl _ rfl d0 BH ?_) | ((with_reducible show wpList _ _ _ (⟨none, .store _ (.tmp 4) _, _, _, _, _⟩ :: _) _ _); refine wpList_store_blk rfl _ (.tmp 4) (.tmp 143) rfl g0 rfl _ d0 d0 rfl ZZ 26 size_hd H0 H0 HZO ?_; intro w9 BN ON hg9) | fail)
          refine bodyPost_ret (v := .tuple #[.agg d0.toArray, .int .i64 5]) ?_ rfl (HQ5.out (by rw [HHH.out]; simp [T2.out]) _ _ ⟨rfl, below_only LL.out ON.out hg01⟩)
          exact results_cell_slot rfl _ _ g0 _ _ (0, 0) _ rfl BN.out Tryd.underlying49 rfl (by rw [size_hd]; have := H0.out; simp [this]) rfl
        have nt2 : (y2 != 77) = false := by simpa using t2
        have T2 := Lib.hid t2
        clear t2
        by_cases t3 : y3 = 66
        rotate_left
        · have nt : (y3 != 66) = true := by simpa using t3
          have T3 := Lib.hid t3
          clear t3
          go_wp2_with (first | ((with_reducible show wpList _ _ _ (⟨some 143, _, _, _, _, _⟩ :: _) _ _); refine wpList_build_none rfl _ rfl d0 BH ?_) | ((with_reducible show wpList _ _ _ (⟨none, .store _ (.tmp 4) _, _, _, _, _⟩ :: _) _ _); refine wpList_store_blk rfl _ (.tmp 4) (.tmp 143) rfl g0 rfl _ d0 d0 rfl ZZ 26 size_hd H0 H0 HZO ?_; intro w9 BN ON hg9) | fail)
          refine bodyPost_ret (v := .tuple #[.agg d0.toArray, .int .i64 5]) ?_ rfl (HQ5.out (by rw [HHH.out]; simp [T3.out]) _ _ ⟨rfl, below_only LL.out ON.out hg01⟩)
          exact results_cell_slot rfl _ _ g0 _ _ (0, 0) _ rfl BN.out Tryd.underlying49 rfl (by rw [size_hd]; have := H0.out; simp [this]) rfl
        have nt3 : (y3 != 66) = false := by simpa using t3
        have T3 := Lib.hid t3
        clear t3
        by_cases t4 : ms = 64
        rotate_left
        · have nt : (ms != 64) = true := by simpa using t4
          have T4 := Lib.hid t4
          clear t4
          go_wp2_with fail
          refine (Cms.out _ LL.out).mono ?_
          rintro e w' ⟨rfl, rfl⟩
          go_wp2_with (first | ((with_reducible show wpList _ _ _ (⟨some 143, _, _, _, _, _⟩ :: _) _ _); refine wpList_build_none rfl _ rfl d0 BH ?_) | ((with_reducible show wpList _ _ _ (⟨none, .store _ (.tmp 4) _, _, _, _, _⟩ :: _) _ _); refine wpList_store_blk rfl _ (.tmp 4) (.tmp 143) rfl g0 rfl _ d0 d0 rfl ZZ 26 size_hd H0 H0 HZO ?_; intro w9 BN ON hg9) | fail)
          refine bodyPost_ret (v := .tuple #[.agg d0.toArray, .int .i64 5]) ?_ rfl (HQ5.out (by rw [HHH.out]; simp [T4.out]) _ _ ⟨rfl, below_only LL.out ON.out hg01⟩)
          exact results_cell_slot rfl _ _ g0 _ _ (0, 0) _ rfl BN.out Tryd.underlying49 rfl (by rw [size_hd]; have := H0.out; simp [this]) rfl
        have nt4 : (ms != 64) = false := by simpa using t4
        have T4 := Lib.hid t4
        clear t4
        have HP : Hid (headP ys = my) := by show _ = _; rw [HHH.out]; simp [T0.out, T1.out, T2.out, T3.out, T4.out, HI.out]
        go_wp2_with fail
        refine (Cms.out _ LL.out).mono ?_
        rintro e w' ⟨rfl, rfl⟩
        go_wp2_with (first | ((with_reducible show wpList _ _ _ (⟨some 139, _, _, _, _, _⟩ :: _) _ _); refine wpList_load_want (by kernel_rfl) _ (.tmp 6) rfl g rfl _ ts XX 26 _ Tryd.underlying49 rfl size_hd LTT ?_) | fail)
        refine (CMY.out _).mono ?_
        rintro e v1 ⟨rfl, LM⟩
        have LL1 := Lib.hid (step LL.out LM)
        have ZZ1 := Lib.hid (ZZ.out.over LM)
        have XX1 := Lib.hid (XX.out.over LM)
        clear LL ZZ XX LM gc0 gc1 gc2 gc3
        cases my
        · go_wp2_with (first | ((with_reducible show wpList _ _ _ (⟨some 143, _, _, _, _, _⟩ :: _) _ _); refine wpList_build_none rfl _ rfl d0 BH ?_) | ((with_reducible show wpList _ _ _ (⟨none, .store _ (.tmp 4) _, _, _, _, _⟩ :: _) _ _); refine wpList_store_blk rfl _ (.tmp 4) (.tmp 143) rfl g0 rfl _ d0 d0 rfl ZZ1 26 size_hd H0 H0 HZO ?_; intro w9 BN ON hg9) | fail)
          refine bodyPost_ret (v := .tuple #[.agg d0.toArray, .int .i64 5]) ?_ rfl (HQ5.out HP.out _ _ ⟨rfl, below_only LL1.out ON.out hg01⟩)
          exact results_cell_slot rfl _ _ g0 _ _ (0, 0) _ rfl BN.out Tryd.underlying49 rfl (by rw [size_hd]; have := H0.out; simp [this]) rfl
        · go_wp2_with (first | ((with_reducible show wpList _ _ _ (⟨some 144, _, _, _, _, _⟩ :: _) _ _); refine wpList_load_blk rfl _ (.tmp 6) rfl g rfl _ ts XX1 26 _ Tryd.underlying49 rfl size_hd LTT ?_) | ((with_reducible show wpList _ _ _ (⟨none, .store _ (.tmp 4) _, _, _, _, _⟩ :: _) _ _); refine wpList_store_blk rfl _ (.tmp 4) (.tmp 144) rfl g0 rfl _ d0 ts rfl ZZ1 26 size_hd H0 LTT OTT ?_; intro w9 BN ON hg9) | fail)
          refine bodyPost_ret (v := .tuple #[.agg ts.toArray, .int .i64 0]) ?_ rfl (HQ0.out HP.out _ _ ⟨rfl, below_only LL1.out ON.out hg01⟩)
          exact results_cell_slot rfl _ _ g0 _ _ (0, 0) _ rfl BN.out Tryd.underlying49 rfl (by rw [size_hd]; have := LTT.out; simp [this]) rfl
end Go.Proofs.YtgfflnjggnadpaaDoor

namespace Go.Proofs.YtgfflnjggnadpaaDoor
set_option linter.all false
set_option maxRecDepth 100000
open Go.RowKit
set_option linter.unusedVariables false
set_option maxRecDepth 100000 in
set_option maxHeartbeats 1000000 in
theorem RGetH_any (w : World) (A : Option Addr) (n c : Nat) (xs : List Int) (a : Int) (hx : Holds w w.heap.size A n c xs) (ha : -9223372036854775808 ≤ a ∧ a ≤ 9223372036854775807) :
    Calls Tryd.prog 25 #[.slice A n c, .int .i64 a] w (GetHPost w xs a) := by
  have hl := hx.len
  have hn48 := hx.room
  by_cases hp : partErr xs.length a 64 = 0
  · have hr := part_room hp
    obtain ⟨p, rfl⟩ := Int.eq_ofNat_of_zero_le hr.1
    exact RGetH_room w A n c xs p hx (by have := hr.2; simp at this; omega) hp
  · have ZH := Lib.hid zero_hd
    have HZ := Lib.hid (hcells_len zeroHd_ok)
    have HZO := Lib.hid (hcells_one zeroHd)
    have BH := built_hd
    have HQ : Hid (∀ er, partErr xs.length a 64 = er → er ≠ 0 → ∀ e w', (e = .returned (.tuple #[hv zeroHd, .int .i64 er]) ∧ Below w.heap.size w w') → GetHPost w xs a e w') := by
      rintro er h1 h2 e w' ⟨rfl, hb⟩
      have he : getErrH xs a = er := by unfold getErrH; rw [if_neg hp, h1]
      refine ⟨?_, hb⟩
      unfold getOfH
      rw [he, if_neg h2]
    obtain ⟨zs, hzs⟩ : ∃ zs, zs = hcells zeroHd := ⟨_, rfl⟩
    unfold hv at HQ
    rw [← hzs] at ZH HZ HZO BH HQ
    have hpe : partErr xs.length a 64 = if a < 0 ∨ (n : Int) < a then 2 else if (n : Int) - a < 64 then 4 else 0 := by
      unfold partErr
      rw [hl]
      simp
    obtain ⟨ha0, ha1⟩ := ha
    by_cases h1 : a < 0
    · have HE := Lib.hid (HQ.out 2 (by rw [hpe, if_pos (.inl h1)]) (by decide))
      clear HQ hp hzs hpe hl hx
      go_enter Tryd.func25, Tryd.ntmps25
      go_wp2_with (first
        | ((with_reducible show wpList _ _ _ (⟨some 4, _, _, _, _, _⟩ :: _) _ _); refine wpList_alloc_blk rfl _ rfl zs _ ZH ?_; intro g0 w1 hg1 hg2 B1 L1)
        | ((with_reducible show wpList _ _ _ (⟨some 16, _, _, _, _, _⟩ :: _) _ _); refine wpList_build_none rfl _ rfl zs BH ?_)
        | ((with_reducible show wpList _ _ _ (⟨none, .store _ (.tmp 4) _, _, _, _, _⟩ :: _) _ _); refine wpList_store_blk rfl _ (.tmp 4) (.tmp 16) rfl g0 rfl _ zs zs rfl B1 26 size_hd HZ HZ HZO ?_; intro w9 B9 O9 hg9)
        | fail)
      refine bodyPost_ret (v := .tuple #[.agg zs.toArray, .int .i64 2]) ?_ rfl (HE.out _ _ ⟨rfl, below_only L1.out O9.out hg1⟩)
      exact results_cell_slot rfl _ _ g0 _ _ (0, 0) _ rfl B9.out Tryd.underlying49 rfl (by rw [size_hd]; have := HZ.out; simp [this]) rfl
    · by_cases h2 : (n : Int) < a
      · have HE := Lib.hid (HQ.out 2 (by rw [hpe, if_pos (.inr h2)]) (by decide))
        clear HQ hp hzs hpe hl hx
        go_enter Tryd.func25, Tryd.ntmps25
        go_wp2_with (first
          | ((with_reducible show wpList _ _ _ (⟨some 4, _, _, _, _, _⟩ :: _) _ _); refine wpList_alloc_blk rfl _ rfl zs _ ZH ?_; intro g0 w1 hg1 hg2 B1 L1)
          | ((with_reducible show wpList _ _ _ (⟨some 16, _, _, _, _, _⟩ :: _) _ _); refine wpList_build_none rfl _ rfl zs BH ?_)
          | ((with_reducible show wpList _ _ _ (⟨none, .store _ (.tmp 4) _, _, _, _, _⟩ :: _) _ _); refine wpList_store_blk rfl _ (.tmp 4) (.tmp 16) rfl g0 rfl _ zs zs rfl B1 26 size_hd HZ HZ HZO ?_; intro w9 B9 O9 hg9)
          | fail)
        refine bodyPost_ret (v := .tuple #[.agg zs.toArray, .int .i64 2]) ?_ rfl (HE.out _ _ ⟨rfl, below_only L1.out O9.out hg1⟩)
        exact results_cell_slot rfl _ _ g0 _ _ (0, 0) _ rfl B9.out Tryd.underlying49 rfl (by rw [size_hd]; have := HZ.out; simp [this]) rfl
      · have h3 : (n : Int) - a < 64 := by
          rw [hpe, if_neg (by omega)] at hp
          by_cases h3 : (n : Int) - a < 64
          · exact h3
          · rw [if_neg h3] at hp; exact absurd rfl hp
        have HE := Lib.hid (HQ.out 4 (by rw [hpe, if_neg (by omega), if_pos h3]) (by decide))
        clear HQ hp hzs hpe hl hx
        go_enter Tryd.func25, Tryd.ntmps25
        go_wp2_with (first
          | ((with_reducible show wpList _ _ _ (⟨some 4, _, _, _, _, _⟩ :: _) _ _); refine wpList_alloc_blk rfl _ rfl zs _ ZH ?_; intro g0 w1 hg1 hg2 B1 L1)
          | ((with_reducible show wpList _ _ _ (⟨some 22, _, _, _, _, _⟩ :: _) _ _); refine wpList_build_none rfl _ rfl zs BH ?_)
          | ((with_reducible show wpList _ _ _ (⟨none, .store _ (.tmp 4) _, _, _, _, _⟩ :: _) _ _); refine wpList_store_blk rfl _ (.tmp 4) (.tmp 22) rfl g0 rfl _ zs zs rfl B1 26 size_hd HZ HZ HZO ?_; intro w9 B9 O9 hg9)
          | fail)
        refine bodyPost_ret (v := .tuple #[.agg zs.toArray, .int .i64 4]) ?_ rfl (HE.out _ _ ⟨rfl, below_only L1.out O9.out hg1⟩)
        exact results_cell_slot rfl _ _ g0 _ _ (0, 0) _ rfl B9.out Tryd.underlying49 rfl (by rw [size_hd]; have := HZ.out; simp [this]) rfl
end Go.Proofs.YtgfflnjggnadpaaDoor
