import Derived.WalkKit
import Derived.Deep.Draws
import Derived.Laws.Rows
import Derived.Laws.OwnMore
import Derived.Lib.RuneBytes
import Derived.Lib.ValidLaws
import Derived.Test.YtpodpmckdiijhaaGreatDoorRows
import Derived.Laws.CopyOwn
import Derived.Laws.AppendOwnNone
import Derived.Lib.Hide
import Derived.Laws.AppendOwn
import Derived.OwnWalk
import Derived.Lib.OthersKept
import Derived.Laws.BytesArg
import Derived.Shelf.Utf8.AppendRunePlain
import Derived.Shelf.Unicode.ValidAny
import Derived.Test.YtpodpmckdiijhaaGreatDoorProg
import Derived.WalkSpells
import Derived.WalkLawsBesides
import Derived.Deep.QuietTactic
import Derived.BigQuiet
import Derived.Laws.Bits64
import Derived.Laws.BitsAllLaws
import Derived.ProofKit
import Derived.OpenShut
import Derived.ShutString
import Derived.SizedLaws
import Derived.ChangeOld
import Derived.Lib.AppendZeros
import Derived.Deep.RegionWith
import Derived.Deep.DeepCutAuto
import Derived.Great.Walk
import Derived.Laws.Tables
import Derived.Laws.NewFold
import Derived.Deep.WholeRow
import Derived.Deep.MidRow
import Derived.Deep.RegionLaw
import Derived.OneCell
import Derived.Deep.Strs
import Derived.OrdersHeld
import Derived.Laws.StructEq
import Derived.ChangeKeysEq
import Derived.Deep.OwnRows
import Derived.Shelf.Abstract
import Derived.Test.YtpodpmckdiijhaaGreatDoorWAB
namespace Go.Proofs.YtpodpmckdiijhaaGreatDoor
set_option linter.all false
open Go.RowKit
set_option linter.unusedVariables false
set_option maxRecDepth 100000
theorem fld_as0 (g : Nat) (w : World) : (Instr.fieldAt 153 (.pointer (some ⟨g, 0, none⟩)) 0).run Tryz.prog w = .ok (.pointer (some ⟨g, 0, none⟩)) w := by go_simp
theorem fld_as1 (g : Nat) (w : World) : (Instr.fieldAt 153 (.pointer (some ⟨g, 0, none⟩)) 1).run Tryz.prog w = .ok (.pointer (some ⟨g, 3, none⟩)) w := by go_simp
theorem fld_as10 (g : Nat) (w : World) : (Instr.fieldAt 34 (.pointer (some ⟨g, 3, none⟩)) 0).run Tryz.prog w = .ok (.pointer (some ⟨g, 3, none⟩)) w := by go_simp
theorem info_u16 : (Tryz.prog.info? 22).map (fun i => (i.zero, i.size, i.bytes)) = some (some (.int .u16 0), 1, 2) := by kernel_rfl
/-- append of a row that stands in a block, onto a row of one's own, as a step of a region that draws its order -/
theorem step_append_row {P : Program} {ops : Array Oper} {o : Oper} {a : Act} {w : World} {K : Act → World → Prop} {Q : Exit → Act → World → Prop} {E : Prop} (hgd : o.guard = none) (s x : Operand) (k : IntKind) (T e : TypeId) (bytes : Nat)
    (ht : P.underlying T = some (.slice e)) (hi : (P.info? e).map (fun i => (i.zero, i.size, i.bytes)) = some (some (.int k 0), 1, bytes))
    (ho : o.op = .call { callee := .builtin .append, args := #[s, x], argTypes := #[T, T] })
    (base : Nat) (v : Value) (xs ys : List Int) (g2 m c : Nat) (hm : ys.length = m) (hs : a.eval s = v) (hx : a.eval x = .slice (some ⟨g2, 0, none⟩) m c)
    (hown : OwnK k e w base v xs) (hY : Hid (Blk w g2 e (ys.map (Value.int k)))) (hlen : (xs.length + m) * bytes ≤ 140737488355328) (h63 : xs.length + m ≤ 9223372036854775807) (hbase : base ≤ w.heap.size)
    (h : ∀ v' w', Hid (OwnK k e w' base v' (xs ++ ys)) → Hid (Below base w w') → K (a.put o.dst v') w') :
    if Region.wanted o (yielded ops a.tmps) = true then Oper.wp P o a w K Q else E := by
  have hw : Region.wanted o (yielded ops a.tmps) = true := by simp [Region.wanted, hgd]
  rw [if_pos hw]
  obtain ⟨i0, hi0, hz0, hz1, hz2⟩ := info_parts hi
  have hr := hY.out
  refine wp_append_own _ s x T ho base e i0 (.int k 0) 1 bytes ht hi0 hz0 hz1 hz2 rfl (by omega) v xs.length (xs.map (Value.int k)) hs hown ⟨g2, 0, none⟩ m c (ys.map (Value.int k)) hx (by simp [hm]) ?_
    (by intro v hv; obtain ⟨x, _, rfl⟩ := List.mem_map.1 hv; rfl) (by unfold maxLen; omega) hlen hbase ?_
  · intro j y hj
    have e1 : (⟨g2, 0, none⟩ : Addr).add j = ⟨g2, j, none⟩ := by
      by_cases hj0 : j = 0
      · subst hj0; simp [Addr.add]
      · simp [Addr.add, hj0]
    rw [e1, hr.cell j, ← hj]
  · intro v' w' hown' hgr _
    refine h v' w' ?_ ((Below.refl base w).grown hgr hbase fun i hi => (hown.block hi).1)
    show World.ownsRow _ _ _ _ _ _ _
    rw [List.length_append, List.map_append, hm]
    exact hown'
theorem Save.thenBelow {g : Nat} {w w' w2 : World} (a : Save g w w') (b : Below w.heap.size w' w2) : Save g w w2 :=
  ⟨b.os.trans a.os, b.tape.trans a.tape, b.output.trans a.output, Nat.le_trans a.size b.size, fun j hj hg => (b.block j hj).trans (a.rest j hj hg)⟩
/-- k numbers of two bytes, taken one behind the other: as a loop that never ends early -/
def rdNums (xs : List Int) (r : Rd) : Nat → List Int × Rd
  | 0 => ([], r)
  | k + 1 => ((rdNums xs r k).1 ++ [(rdN xs 2 (rdNums xs r k).2).1], (rdN xs 2 (rdNums xs r k).2).2)
theorem rdN_place {xs : List Int} {s n : Nat} {r : Rd} (hl : xs.length = n) (h : r.p ≤ n) : (rdN xs s r).2.p ≤ n := by
  unfold rdN
  split
  · split
    · exact h
    · show r.p + s ≤ n; omega
  · exact h
theorem rdN_bounds {xs : List Int} (hx : Bytes xs) (r : Rd) : 0 ≤ (rdN xs 2 r).1 ∧ (rdN xs 2 r).1 ≤ 65535 := by
  unfold rdN
  split
  · split
    · exact ⟨Int.le_refl 0, by show (0 : Int) ≤ 65535; decide⟩
    · have := numAt_bounds xs hx r.p 2 65536 (by decide)
      exact ⟨this.1, by show numAt xs r.p 2 ≤ 65535; omega⟩
  · exact ⟨Int.le_refl 0, by show (0 : Int) ≤ 65535; decide⟩
theorem rdNums_place {xs : List Int} {n : Nat} {r : Rd} (hl : xs.length = n) (h : r.p ≤ n) (k : Nat) : (rdNums xs r k).2.p ≤ n := by
  induction k with
  | zero => exact h
  | succ k ih => exact rdN_place hl ih
theorem rdNums_len {xs : List Int} {r : Rd} (k : Nat) : (rdNums xs r k).1.length = k := by
  induction k with
  | zero => rfl
  | succ k ih => simp [rdNums, ih]
/-- what takeDialects leaves -/
def rdTake (xs : List Int) (r : Rd) : List Int × Rd := if 16 < (rdN xs 2 r).1 then ([], ⟨(rdN xs 2 r).2.p, 3⟩) else rdNums xs (rdN xs 2 r).2 (rdN xs 2 r).1.toNat
def PTakePost (w : World) (g : Nat) (T : TypeId) (A : Option Addr) (n c : Nat) (q : List Int × Rd) (tail : List Value) (e : Ending) (w' : World) : Prop :=
  e = .returned (.tuple #[]) ∧ ∃ v, PRd w' g T A n c q.2 (v :: tail) ∧ OwnK .u16 22 w' w.heap.size v q.1 ∧ Save g w w'
set_option maxHeartbeats 2000000 in
theorem take_any (w : World) (g B : Nat) (T : TypeId) (A : Option Addr) (n c : Nat) (xs : List Int) (r : Rd) (tail : List Value) (hB : PRd w g T A n c r (.slice none 0 0 :: tail)) (hx : Holds w B A n c xs) (hg : B ≤ g) (hp : r.p ≤ n) :
    Calls Tryz.prog 142 #[.pointer (some ⟨g, 0, none⟩)] w (PTakePost w g T A n c (rdTake xs r) tail) := by
  have hlt := hB.lt
  have hBs : B ≤ w.heap.size := by have : g < w.heap.size := hlt; omega
  have C1 := rnumber_any w g T A n c xs r 2 (.slice none 0 0 :: tail) hB (hx.mono hBs) hp (by decide)
  unfold PNumPost at C1
  have hbd := rdN_bounds hx.byte r
  have hpl := rdN_place (s := 2) (r := r) hx.len hp
  obtain ⟨hb0, hb1⟩ := hbd
  have hl := hx.len
  have HX0 := Lib.hid hx
  by_cases h16 : 16 < (rdN xs 2 r).1
  · have HQ : Hid (∀ e w', (e = .returned (.tuple #[]) ∧ Blk w' g T (.slice A n c :: .int .i64 (rdN xs 2 r).2.p :: .int .i64 3 :: .slice none 0 0 :: tail) ∧ Save g w w') → PTakePost w g T A n c (rdTake xs r) tail e w') := by
      rintro e w' ⟨h1, h2, h3⟩
      unfold rdTake
      rw [if_pos h16]
      exact ⟨h1, _, h2, OwnK.nil _ _ _ _, h3⟩
    obtain ⟨z, hz⟩ : ∃ z, z = (rdN xs 2 r).1 := ⟨_, rfl⟩
    obtain ⟨q, hq⟩ : ∃ q, q = (rdN xs 2 r).2 := ⟨_, rfl⟩
    rw [← hz] at C1 hb0 hb1 h16
    rw [← hq] at C1 HQ
    have C1' := Lib.hid C1
    clear C1 hz hq hB hx hl
    go_enter Tryz.func142, Tryz.ntmps142
    go_wp2_with fail
    refine C1'.out.mono ?_
    rintro e w1 ⟨rfl, hB1, hS1⟩
    have HB1 : Hid (Blk w1 g T (.slice A n c :: .int .i64 q.p :: .int .i64 q.e :: .slice none 0 0 :: tail)) := hB1
    have HS1 := Lib.hid hS1
    have gd : w1.cell? ⟨g, 2, none⟩ = some (.int .i64 q.e) := HB1.out.at rfl
    have gf := Blk.frozen HB1.out 2
    clear hB1 hS1
    go_wp2
    go_end0
    exact HQ.out _ _ ⟨rfl, Blk.set HB1.out 2 _, HS1.out.setCell 2 _⟩
  · have HQ : Hid (∀ k : Nat, (rdN xs 2 r).1 = (k : Int) → ∀ e w', (e = .returned (.tuple #[]) ∧ ∃ v, Blk w' g T (.slice A n c :: .int .i64 (rdNums xs (rdN xs 2 r).2 k).2.p :: .int .i64 (rdNums xs (rdN xs 2 r).2 k).2.e :: v :: tail) ∧ OwnK .u16 22 w' w.heap.size v (rdNums xs (rdN xs 2 r).2 k).1 ∧ Save g w w') → PTakePost w g T A n c (rdTake xs r) tail e w') := by
      rintro k hk e w' hh
      unfold rdTake
      rw [if_neg h16, hk, Int.toNat_natCast]
      exact hh
    obtain ⟨N, hN⟩ : ∃ N : Nat, (rdN xs 2 r).1 = (N : Int) := ⟨(rdN xs 2 r).1.toNat, by omega⟩
    have HQ2 := Lib.hid (HQ.out N hN)
    obtain ⟨q, hq⟩ : ∃ q, q = (rdN xs 2 r).2 := ⟨_, rfl⟩
    rw [← hq] at C1 HQ2 hpl
    rw [hN] at C1 h16 hb1
    have hN16 : N ≤ 16 := by omega
    have C1' := Lib.hid C1
    have HST : Hid (∀ j, (rdNums xs q (j + 1)).1 = (rdNums xs q j).1 ++ [(rdN xs 2 (rdNums xs q j).2).1] ∧ (rdNums xs q (j + 1)).2 = (rdN xs 2 (rdNums xs q j).2).2) := fun j => ⟨rfl, rfl⟩
    have HPL : Hid (∀ j, (rdNums xs q j).2.p ≤ n) := fun j => rdNums_place hl hpl j
    have HLN : Hid (∀ j, (rdNums xs q j).1.length = j) := fun j => rdNums_len j
    have CN : Hid (∀ (w : World) (r' : Rd) (v : Value), PRd w g T A n c r' (v :: tail) → Holds w w.heap.size A n c xs → r'.p ≤ n → Calls Tryz.prog 150 #[.pointer (some ⟨g, 0, none⟩), .int .i64 2] w fun e w' => e = .returned (.int .u64 (rdN xs 2 r').1) ∧ PRd w' g T A n c (rdN xs 2 r').2 (v :: tail) ∧ Save g w w') := fun w r' v h1 h2 h3 => rnumber_any w g T A n c xs r' 2 (v :: tail) h1 h2 h3 (by decide)
    have HBD : Hid (∀ r', 0 ≤ (rdN xs 2 r').1 ∧ (rdN xs 2 r').1 ≤ 65535) := fun r' => rdN_bounds hx.byte r'
    obtain ⟨nums, hnums⟩ : ∃ f, f = rdNums xs q := ⟨_, rfl⟩
    have H0 : Hid (nums 0 = ([], q)) := by show _ = _; rw [hnums]; rfl
    rw [← hnums] at HST HPL HLN HQ2
    obtain ⟨num2, hnum2⟩ : ∃ f, f = rdN xs 2 := ⟨_, rfl⟩
    rw [← hnum2] at CN HST HBD
    clear HQ hN hq hnums hnum2 hB hx hl C1 h16 hb0 hb1 hpl hp
    go_enter Tryz.func142, Tryz.ntmps142
    go_wp2_with fail
    refine C1'.out.mono ?_
    rintro e w1 ⟨rfl, hB1, hS1⟩
    have HB1 : Hid (Blk w1 g T (.slice A n c :: .int .i64 q.p :: .int .i64 q.e :: .slice none 0 0 :: tail)) := hB1
    have HS1 := Lib.hid hS1
    clear hB1 hS1 C1'
    go_wp2
    go_loopw [14] (fun i wr => ∃ j : Nat, i = .int .u64 j ∧ j ≤ N ∧ ∃ v, Hid (Blk wr g T (.slice A n c :: .int .i64 (nums j).2.p :: .int .i64 (nums j).2.e :: v :: tail)) ∧ Hid (OwnK .u16 22 wr w.heap.size v (nums j).1) ∧ Hid (Save g w wr)) (fun i _ => N - (intOf i).toNat)
    case atStart => exact ⟨0, rfl, Nat.zero_le _, .slice none 0 0, by rw [H0.out]; exact HB1, by rw [H0.out]; exact OwnK.nil _ _ _ _, HS1⟩
    case round =>
      obtain ⟨j, rfl, hj, v, HK, HO, HS⟩ := hrel
      by_cases hlt2 : j < N
      · have HX : Hid (Holds wr wr.heap.size A n c xs) := (HX0.out.below (HS.out.below hg hBs)).mono (Nat.le_trans hBs HS.out.size)
        have CNj := CN.out wr.drew (nums j).2 v HK.out.drew HX.out.drew (HPL.out j)
        obtain ⟨e1, e2⟩ := HST.out j
        rw [← e2] at CNj
        obtain ⟨z0, z1⟩ := HBD.out (nums j).2
        obtain ⟨z, hz⟩ : ∃ z, z = (num2 (nums j).2).1 := ⟨_, rfl⟩
        rw [← hz] at CNj e1 z0 z1
        have CNJ := Lib.hid CNj
        have E1 := Lib.hid e1
        have hLn := HLN.out j
        have hz16 : IntKind.u16.wrap z = z := by rw [IntKind.wrap_u16]; omega
        have hsz := HS.out.size
        obtain ⟨r1, hr1⟩ : ∃ r, r = (nums (j + 1)).2 := ⟨_, rfl⟩
        have HR1 := Lib.hid hr1
        rw [← hr1] at CNJ
        obtain ⟨L, hL⟩ : ∃ r, r = (nums j).1 := ⟨_, rfl⟩
        rw [← hL] at HO E1 hLn
        clear hr1 hL hz e1 e2 CNj
        go_wp2
        go_upto_region 5 with fail
        refine wp_region_heldK 16 (fun w' => w'.cell? ⟨g, 3, none⟩ = some v) (by kernel_rfl) ?_
        change wpAnyK _ _ _ _ _ _ _ _ _ wr.drew
        have S0 : Hid (wr.drew.cell? ⟨g, 3, none⟩ = some v) := (HK.out.at rfl)
        have b0 : Hid (Save g w wr.drew) := (HS.out.drewN 1)
        refine wpAnyK_take (i := 0) (v := _) rfl (by kernel_rfl) (by kernel_rfl) (by kernel_rfl) (fun _ _ _ h => h) rfl (by kernel_rfl) (by kernel_rfl) (by decide) (yieldsIf_move (by kernel_rfl) (.tmp 0) rfl (.pointer (some ⟨g, 0, none⟩)) (by kernel_rfl)) S0.out ?_
        refine wpAnyK_take (i := 1) (v := _) rfl (by kernel_rfl) (by kernel_rfl) (by kernel_rfl) (fun _ _ _ h => h) rfl (by kernel_rfl) (by kernel_rfl) (by decide) (yieldsIf_move (by kernel_rfl) (.tmp 0) rfl (.pointer (some ⟨g, 0, none⟩)) (by kernel_rfl)) S0.out ?_
        refine wpAnyK_take (i := 2) (v := _) rfl (by kernel_rfl) (by kernel_rfl) (by kernel_rfl) (fun _ _ _ h => h) rfl (by kernel_rfl) (by kernel_rfl) (by decide) (yieldsIf_nil (by kernel_rfl) (.tmp 17) rfl ⟨g, 0, none⟩ (by kernel_rfl)) S0.out ?_
        refine wpAnyK_take (i := 3) (v := _) rfl (by kernel_rfl) (by kernel_rfl) (by kernel_rfl) (fun _ _ _ h => h) rfl (by kernel_rfl) (by kernel_rfl) (by decide) (yieldsIf_fld (by kernel_rfl) _ (.tmp 18) 1 rfl (.pointer (some ⟨g, 0, none⟩)) (.pointer (some ⟨g, 3, none⟩)) (by kernel_rfl) (fld_as1 g)) S0.out ?_
        refine wpAnyK_take (i := 4) (v := _) rfl (by kernel_rfl) (by kernel_rfl) (by kernel_rfl) (fun _ _ _ h => h) rfl (by kernel_rfl) (by kernel_rfl) (by decide) (yieldsIf_fld (by kernel_rfl) _ (.tmp 19) 0 rfl (.pointer (some ⟨g, 3, none⟩)) (.pointer (some ⟨g, 3, none⟩)) (by kernel_rfl) (fld_as10 g)) S0.out ?_
        refine wpAnyK_take (i := 5) (v := _) rfl (by kernel_rfl) (by kernel_rfl) (by kernel_rfl) (fun _ _ _ h => h) rfl (by kernel_rfl) (by kernel_rfl) (by decide) (yieldsIf_load_one (by kernel_rfl) _ (.tmp 20) rfl g 3 (by kernel_rfl) v (fun w h => h) _ Tryz.underlying29 rfl) S0.out ?_
        refine wpAnyK_take (i := 6) (v := _) rfl (by kernel_rfl) (by kernel_rfl) (by kernel_rfl) (fun _ _ _ h => h) rfl (by kernel_rfl) (by kernel_rfl) (by decide) (yieldsIf_move (by kernel_rfl) (.tmp 0) rfl (.pointer (some ⟨g, 0, none⟩)) (by kernel_rfl)) S0.out ?_
        refine wpAnyK_take (i := 7) (v := _) rfl (by kernel_rfl) (by kernel_rfl) (by kernel_rfl) (fun _ _ _ h => h) rfl (by kernel_rfl) (by kernel_rfl) (by decide) (yieldsIf_nil (by kernel_rfl) (.tmp 22) rfl ⟨g, 0, none⟩ (by kernel_rfl)) S0.out ?_
        refine wpAnyK_take (i := 8) (v := _) rfl (by kernel_rfl) (by kernel_rfl) (by kernel_rfl) (fun _ _ _ h => h) rfl (by kernel_rfl) (by kernel_rfl) (by decide) (yieldsIf_fld (by kernel_rfl) _ (.tmp 23) 0 rfl (.pointer (some ⟨g, 0, none⟩)) (.pointer (some ⟨g, 0, none⟩)) (by kernel_rfl) (fld_as0 g)) S0.out ?_
        refine wpAnyK_one 9 _ (by kernel_rfl) rfl fun K hK => ?_
        go_simp
        refine (CNJ.out).mono ?_
        rintro e v1 ⟨rfl, hB1, hS1⟩
        have S1 : Hid (v1.cell? ⟨g, 3, none⟩ = some v) := (Blk.at hB1 rfl)
        have b1 : Hid (Save g w v1) := b0.out.trans hS1
        have HK1 : Hid (Blk v1 g T (.slice A n c :: .int .i64 r1.p :: .int .i64 r1.e :: v :: tail)) := hB1
        have HO1 : Hid (OwnK .u16 22 v1 w.heap.size v L) := HO.out.keep fun i cs hi hc => by obtain ⟨hb, _⟩ := HO.out.block hi; exact hS1.rest i (Array.getElem?_eq_some_iff.1 hc).1 (by omega)
        refine hK _ _ (fun _ => S1.out) ?_
        clear hK K
        clear hB1 hS1
        refine wpAnyK_take (i := 10) (v := (.int .u16 z)) rfl (by kernel_rfl) (by kernel_rfl) (by kernel_rfl) (fun _ _ _ h => h) rfl (by kernel_rfl) (by kernel_rfl) (by decide) (.inl ⟨by kernel_rfl, fun w _ => by go_simp⟩) S1.out ?_
        refine wpAnyK_frame fun a1 ha1 => ?_
        refine wpAnyK_one 11 _ (by kernel_rfl) rfl fun K hK => ?_
        refine step_slice_blk rfl _ _ 1 _ rfl Tryz.underlying29 [.int .u16 z] (by rw [ha1]; kernel_rfl) ?_
        intro g2 v2 q2 q3 Y2 b2
        have hs1 := b1.out.size
        have HK2 := Lib.hid (HK1.out.over b2.out)
        have HO2 := Lib.hid (HO1.out.below b2.out)
        have HS2 := Lib.hid (b1.out.trans (Save.of_below b2.out g))
        refine hK _ _ (fun _ => HK2.out.at rfl) ?_
        clear hK K
        refine wpAnyK_frame fun a2 ha2 => ?_
        try rw [ha1] at ha2
        have e2_21 : a2.eval (.tmp 21) = v := by rw [ha2]; kernel_rfl
        have e2_27 : a2.eval (.tmp 27) = .slice (some ⟨g2, 0, none⟩) 1 1 := by rw [ha2]; kernel_rfl
        refine wpAnyK_one 12 _ (by kernel_rfl) rfl fun K hK => ?_
        refine step_append_row rfl (.tmp 21) (.tmp 27) .u16 29 22 2 Tryz.underlying29 info_u16 rfl w.heap.size v L [z] g2 1 1 rfl e2_21 e2_27 HO2.out Y2 (by omega) (by omega) (by have := b2.out.size; omega) ?_
        intro u v3 ho3 b3
        have HK3 := Lib.hid (Blk.below HK2.out b3.out hlt)
        have OU : u.oneCell' = true := by obtain ⟨_, _, _, rfl, _⟩ := ho3.out.open; rfl
        refine hK _ _ (fun _ => HK3.out.at rfl) ?_
        clear hK K
        refine wpAnyK_frame fun a3 ha3 => ?_
        try rw [ha2] at ha3
        have S3 : Hid (v3.cell? ⟨g, 3, none⟩ = some v) := HK3.out.at rfl
        rw [ha3]
        refine wpAnyK_one 13 _ (by kernel_rfl) rfl fun K hK => ?_
        go_simp
        refine hK _ _ (fun _ => S3.out) ?_
        clear hK K
        refine wpAnyK_one 14 _ (by kernel_rfl) rfl fun K hK => ?_
        go_simp
        refine hK _ _ (fun _ => S3.out) ?_
        clear hK K
        refine wpAnyK_one 15 _ (by kernel_rfl) rfl fun K hK => ?_
        go_simp
        refine hK _ _ (fun _ => S3.out) ?_
        clear hK K
        refine wpAnyK_frame fun a4 ha4 => ?_
        try rw [ha3] at ha4
        have e4_31 : a4.eval (.tmp 31) = .pointer (some ⟨g, 3, none⟩) := by rw [ha4]; kernel_rfl
        have e4_28 : a4.eval (.tmp 28) = u := by rw [ha4]; kernel_rfl
        refine wpAnyK_one 16 _ (by kernel_rfl) rfl fun K hK => ?_
        refine step_store_fld rfl 29 (.tmp 31) (.tmp 28) (by kernel_rfl) g 3 e4_31 T _ u e4_28 HK3 (by show 3 < _; simp only [List.length_cons]; omega) (by kernel_rfl) OU ?_
        intro v4 X4 O4 q4
        refine hK _ _ (fun h => Bool.noConfusion (show true = false from h)) ?_
        clear hK K
        change wpAnyK _ _ _ _ _ _ _ _ a4 v4
        rw [ha4]
        refine wpAnyK_done (by kernel_rfl) ?_ _
        have HB4 : Hid (Blk v4 g T (.slice A n c :: .int .i64 (nums (j + 1)).2.p :: .int .i64 (nums (j + 1)).2.e :: u :: tail)) := by rw [← HR1.out]; exact X4.out
        have HO4 : Hid (OwnK .u16 22 v4 w.heap.size u (nums (j + 1)).1) := by
          rw [E1.out]
          exact ho3.out.keep fun i cs hi hc => O4.out.rest i (by obtain ⟨hb, _⟩ := ho3.out.block hi; omega)
        have HS4 := Lib.hid ((HS2.out.thenBelow b3.out).trans (Save.of_only O4.out))
        clear X4 O4 q4 ho3 b3 HK3 HS2 HO2 HK2
        go_wp2
        go_roundw
        case rel => exact ⟨j + 1, by go_num, hlt2, u, HB4, HO4, HS4⟩
        case measure => simp [intOf]; omega
      · obtain rfl : j = N := by omega
        go_wp2
        go_end0
        exact HQ2.out _ _ ⟨rfl, v, HK.out, HO.out, HS.out⟩
end Go.Proofs.YtpodpmckdiijhaaGreatDoor

namespace Go.Proofs.YtpodpmckdiijhaaGreatDoor
set_option linter.all false
open Go.RowKit
set_option linter.unusedVariables false
set_option maxRecDepth 100000
def rd0 : Rd := ⟨0, 0⟩
/-- what the program's GetAsk takes off the bytes, and where its reader stands then -/
def gaskP (c : Int) (xs : List Int) : AskV × Rd :=
  if c = 0 then ({ zeroAsk with dial := (rdTake xs rd0).1, guid := (rdPart xs 16 (rdTake xs rd0).2).1 }, (rdPart xs 16 (rdTake xs rd0).2).2)
  else if c = 1 then ({ zeroAsk with proof := (rdPart xs 32 rd0).1, user := ⟨(prdText xs (rdPart xs 32 rd0).2).1.toArray⟩ }, (prdText xs (rdPart xs 32 rd0).2).2)
  else if c = 3 then ({ zeroAsk with share := ⟨(prdText xs rd0).1.toArray⟩ }, (prdText xs rd0).2)
  else (zeroAsk, rdZ xs 4 rd0)
def gaskErr (c : Int) (xs : List Int) : Int := if knownT c = true then rdEnd xs (gaskP c xs).2 else 2
def gaskOf (c : Int) (xs : List Int) : AskV := if gaskErr c xs = 0 then (gaskP c xs).1 else zeroAsk
def gsayP (c : Int) (xs : List Int) : SayV × Rd :=
  if c = 0 then ({ zeroSay with dia := (rdN xs 2 rd0).1, siz := (rdN xs 4 (rdZ xs 2 (rdN xs 2 rd0).2)).1, chal := (rdPart xs 8 (rdN xs 4 (rdZ xs 2 (rdN xs 2 rd0).2)).2).1 }, (rdPart xs 8 (rdN xs 4 (rdZ xs 2 (rdN xs 2 rd0).2)).2).2)
  else (zeroSay, rdZ xs 4 rd0)
def gsayErr (c : Int) (xs : List Int) : Int := if knownT c = true then rdEnd xs (gsayP c xs).2 else 2
def gsayOf (c : Int) (xs : List Int) : SayV := if gsayErr c xs = 0 then (gsayP c xs).1 else zeroSay
def PGAskPost (w : World) (c : Int) (xs : List Int) (e : Ending) (w' : World) : Prop :=
  ∃ vd, e = .returned (.tuple #[.agg (acells vd (.slice none 0 0) (.slice none 0 0) (gaskOf c xs)).toArray, .int .i64 (gaskErr c xs)]) ∧ AskIs w' w'.heap.size (acells vd (.slice none 0 0) (.slice none 0 0) (gaskOf c xs)) (gaskOf c xs) ∧ Below w.heap.size w w'
/-- besides: the dialects lie above -/
def PGAskPostU (w : World) (c : Int) (xs : List Int) (e : Ending) (w' : World) : Prop :=
  ∃ vd, e = .returned (.tuple #[.agg (acells vd (.slice none 0 0) (.slice none 0 0) (gaskOf c xs)).toArray, .int .i64 (gaskErr c xs)]) ∧ AskIs w' w'.heap.size (acells vd (.slice none 0 0) (.slice none 0 0) (gaskOf c xs)) (gaskOf c xs) ∧ Below w.heap.size w w' ∧ (∀ b off s n c, vd = .slice (some ⟨b, off, s⟩) n c → w.heap.size ≤ b)
theorem spliced_len {cur : List Value} {off : Nat} {xs : List Int} (h : off + xs.length ≤ cur.length) : (spliced cur off xs).length = cur.length := by
  unfold spliced
  simp only [List.length_append, List.length_take, List.length_map, List.length_drop]
  omega
theorem rdZ_place {xs : List Int} {m n : Nat} {r : Rd} (hl : xs.length = n) (h : r.p ≤ n) : (rdZ xs m r).p ≤ n := by
  have := rdPart_place (m := m) hl h
  unfold rdZ
  split
  · split
    · exact this
    · exact this
  · exact this
theorem prdText_place {xs : List Int} {n : Nat} {r : Rd} (hx : Bytes xs) (hl : xs.length = n) (h : r.p ≤ n) : (prdText xs r).2.p ≤ n := by
  unfold prdText
  split
  · have := gtextNext_nonneg hx (r.p : Int) (by omega)
    show (gtextNext xs r.p).toNat ≤ n
    omega
  · exact h
theorem rdTake_place {xs : List Int} {n : Nat} {r : Rd} (hl : xs.length = n) (h : r.p ≤ n) : (rdTake xs r).2.p ≤ n := by
  have := rdN_place (s := 2) hl h
  unfold rdTake
  split
  · exact this
  · exact rdNums_place hl this _
theorem rdEnd_zero {xs : List Int} {r : Rd} (h : rdEnd xs r = 0) : r.e = 0 := by
  unfold rdEnd at h
  split at h
  · exact absurd h (by decide)
  · exact h
theorem OwnK.holdsF {k : IntKind} {e : TypeId} {w : World} {base : Nat} {v : Value} {xs : List Int} (h : OwnK k e w base v xs) : ∃ A n c, v = .slice A n c ∧ HoldsF (Value.int k) w w.heap.size A n c xs := by
  obtain ⟨A, n, c, rfl, h1, h2, h3, h4, h5⟩ := h.open
  refine ⟨A, n, c, rfl, h1, h2, h4, fun h0 => ?_⟩
  obtain ⟨g, rfl, _, hg, hc⟩ := h5 h0
  refine ⟨g, 0, rfl, hg, fun i x hx => ?_⟩
  have hi : i < n := by rw [← h1]; exact (List.getElem?_eq_some_iff.1 hx).1
  rw [Nat.zero_add, hc i hi]
  simp [List.getD_eq_getElem?_getD, hx]
theorem OwnK.save {k : IntKind} {e : TypeId} {w w' : World} {base g : Nat} {v : Value} {xs : List Int} (h : OwnK k e w base v xs) (hS : Save g w w') (hg : g < base) : OwnK k e w' base v xs :=
  h.keep fun i cs hi hc => hS.rest i (Array.getElem?_eq_some_iff.1 hc).1 (by obtain ⟨hb, _⟩ := h.block hi; omega)
theorem rdNums_dial {xs : List Int} (hx : Bytes xs) (r : Rd) (k : Nat) : ∀ x ∈ (rdNums xs r k).1, 0 ≤ x ∧ x ≤ 65535 := by
  induction k with
  | zero => intro x h; cases h
  | succ k ih =>
    intro x h
    simp only [rdNums, List.mem_append, List.mem_singleton] at h
    rcases h with h | rfl
    · exact ih x h
    · exact rdN_bounds hx _
theorem rdTake_dial {xs : List Int} (hx : Bytes xs) (r : Rd) : ∀ x ∈ (rdTake xs r).1, 0 ≤ x ∧ x ≤ 65535 := by
  unfold rdTake
  split
  · intro x h; cases h
  · exact rdNums_dial hx _ _
theorem prdText_e {xs : List Int} {r : Rd} (h : (prdText xs r).2.e = 0) : r.e = 0 := by
  unfold prdText at h
  by_cases he : r.e = 0
  · exact he
  · rw [if_neg he] at h; exact h
theorem zero_askB : (Tryz.prog.info? 153).map (fun i => (i.zero, i.size)) = some (some (.agg (.slice none 0 0 :: .int .i64 0 :: .int .i64 0 :: acells (.slice none 0 0) (.slice none 0 0) (.slice none 0 0) zeroAsk).toArray), 72) := by kernel_rfl
theorem size_askB : (Tryz.prog.info? 153).map (·.size) = some 72 := by kernel_rfl
set_option maxHeartbeats 4000000 in
theorem GetAskU_any (w : World) (c : Int) (A : Option Addr) (n k : Nat) (xs : List Int) (hc : 0 ≤ c ∧ c ≤ 65535) (hx : Holds w w.heap.size A n k xs) :
    Calls Tryz.prog 104 #[.int .u16 c, .slice A n k] w (PGAskPostU w c xs) := by
  have hl := hx.len
  have hrm := hx.room
  have HX := Lib.hid hx
  have hby := hx.byte
  have ZH := Lib.hid zero_ask
  have ZB := Lib.hid zero_askB
  have BZ := built_ask
  have HZ : Hid ((acells (.slice none 0 0) (.slice none 0 0) (.slice none 0 0) zeroAsk).length = 69) := acells_len zeroAsk_ok
  have HZ1 : Hid (∀ v ∈ acells (.slice none 0 0) (.slice none 0 0) (.slice none 0 0) zeroAsk, v.oneCell' = true) := (zeroAsk_is w 0).one
  have B1 : Tryz.prog.built 151 [(0, .slice A n k)] = some (.slice A n k :: .int .i64 0 :: .int .i64 0 :: ([] : List Value)).toArray := by kernel_rfl
  have B2 : Tryz.prog.built 153 [(0, .agg #[.slice A n k, .int .i64 0, .int .i64 0])] = some (.slice A n k :: .int .i64 0 :: .int .i64 0 :: acells (.slice none 0 0) (.slice none 0 0) (.slice none 0 0) zeroAsk).toArray := by kernel_rfl
  have HZI : Hid (∀ w' : World, AskIs w' w'.heap.size (acells (.slice none 0 0) (.slice none 0 0) (.slice none 0 0) zeroAsk) zeroAsk) := fun w' => zeroAsk_is w' _
  have HE : Hid (∀ er, gaskErr c xs = er → er ≠ 0 → ∀ e w', e = .returned (.tuple #[.agg (acells (.slice none 0 0) (.slice none 0 0) (.slice none 0 0) zeroAsk).toArray, .int .i64 er]) → Below w.heap.size w w' → PGAskPostU w c xs e w') := by
    intro er h1 h2 e w' he hb
    unfold PGAskPostU gaskOf
    rw [h1, if_neg h2]
    exact ⟨_, he, HZI.out w', hb, fun _ _ _ _ _ h => by cases h⟩
  obtain ⟨zs, hzs⟩ : ∃ zs, zs = acells (.slice none 0 0) (.slice none 0 0) (.slice none 0 0) zeroAsk := ⟨_, rfl⟩
  obtain ⟨tl, htl⟩ : ∃ tl, tl = zs.tail := ⟨_, rfl⟩
  have HTL : Hid (zs = .slice none 0 0 :: tl) := by show _ = _; rw [htl, hzs]; rfl
  have HZS := Lib.hid hzs
  rw [← hzs] at ZH ZB BZ HZ HZ1 B2 HE
  clear hzs htl HZI
  have HZB : Hid ((Value.slice none 0 0 :: Value.int .i64 0 :: Value.int .i64 0 :: zs).length = 72) := by show _ = _; simp only [List.length_cons, HZ.out]
  have HNB : Hid ((Value.slice A n k :: Value.int .i64 0 :: Value.int .i64 0 :: zs).length = 72) := by show _ = _; simp only [List.length_cons, HZ.out]
  have HOB : Hid (∀ v ∈ Value.slice A n k :: Value.int .i64 0 :: Value.int .i64 0 :: zs, v.oneCell' = true) := by
    intro v hv
    rcases List.mem_cons.1 hv with rfl | hv
    · rfl
    rcases List.mem_cons.1 hv with rfl | hv
    · rfl
    rcases List.mem_cons.1 hv with rfl | hv
    · rfl
    exact HZ1.out v hv
  by_cases hk : knownT c = true
  rotate_left
  · have HQ := Lib.hid (HE.out 2 (by unfold gaskErr; rw [if_neg hk]) (by decide))
    have hk' : knownT c = false := by simpa using hk
    have hc01 : c ≠ 0 ∧ c ≠ 1 ∧ c ≠ 2 ∧ c ≠ 3 ∧ c ≠ 4 ∧ c ≠ 13 := by unfold knownT at hk'; simp at hk'; omega
    obtain ⟨h0, h1, h2, h3, h4, h13⟩ := hc01
    have b0 : (c == 0) = false := by simpa using h0
    have b1 : (c == 1) = false := by simpa using h1
    have b2 : (c == 2) = false := by simpa using h2
    have b3 : (c == 3) = false := by simpa using h3
    have b4 : (c == 4) = false := by simpa using h4
    have b13 : (c == 13) = false := by simpa using h13
    clear hk hk' HE hx h0 h1 h2 h3 h4 h13
    go_enter Tryz.func104, Tryz.ntmps104
    go_wp2_with (first
      | ((with_reducible show wpList _ _ _ (⟨some 4, _, _, _, _, _⟩ :: _) _ _); refine wpList_alloc_blk rfl _ rfl zs _ ZH ?_; intro h w1 hg1 hg2 Z1 L1)
      | ((with_reducible show wpList _ _ _ (⟨some 9, _, _, _, _, _⟩ :: _) _ _); refine wpList_build_blk rfl _ _ rfl (.slice A n k :: .int .i64 0 :: .int .i64 0 :: []) (by refine Eq.trans ?_ B1; kernel_rfl) ?_)
      | ((with_reducible show wpList _ _ _ (⟨some 10, _, _, _, _, _⟩ :: _) _ _); refine wpList_build_blk rfl _ _ rfl (.slice A n k :: .int .i64 0 :: .int .i64 0 :: zs) (by refine Eq.trans ?_ B2; kernel_rfl) ?_)
      | ((with_reducible show wpList _ _ _ (⟨some 6, _, _, _, _, _⟩ :: _) _ _); refine wpList_alloc_blk rfl _ rfl (.slice none 0 0 :: .int .i64 0 :: .int .i64 0 :: zs) _ ZB ?_; intro g w2 hg3 hg4 P02 L2)
      | ((with_reducible show wpList _ _ _ (⟨none, .store _ (.tmp 6) _, _, _, _, _⟩ :: _) _ _); refine wpList_store_blk rfl _ (.tmp 6) (.tmp 10) rfl g rfl _ (.slice none 0 0 :: .int .i64 0 :: .int .i64 0 :: zs) (.slice A n k :: .int .i64 0 :: .int .i64 0 :: zs) rfl P02 72 size_askB HZB HNB HOB ?_; intro w3 P03 O3 hg5; have hsz := L1.out.size; have hng : h ≠ g := (by omega); have Z3 := Lib.hid ((Z1.out.over L2.out).only O3.out hng); have B3 : Hid (Below w.heap.size w w3) := below_only (step L1.out L2.out) O3.out (by omega); have P3 : Hid (PRd w3 g 153 A n k rd0 zs) := P03; have hwg : w.heap.size ≤ g := (by omega); have hwh : w.heap.size ≤ h := hg1)
      | ((with_reducible show wpList _ _ _ (⟨some 12, _, _, _, _, _⟩ :: _) _ _); refine wpList_build_none rfl _ rfl zs BZ ?_)
      | ((with_reducible show wpList _ _ _ (⟨none, .store _ (.tmp 4) _, _, _, _, _⟩ :: _) _ _); refine wpList_store_blk rfl _ (.tmp 4) (.tmp 12) rfl h rfl _ zs zs rfl Z3 69 size_ask HZ HZ HZ1 ?_; intro w10 K10 O10 hg10)
      | fail)
    refine bodyPost_ret (v := .tuple #[.agg zs.toArray, .int .i64 2]) ?_ rfl (HQ.out _ _ rfl (below_only B3.out O10.out hwh))
    exact results_cell_two rfl _ _ h _ _ (0, 0) _ rfl K10.out Tryz.underlying34 rfl (by rw [size_ask]; have := HZ.out; simp [this]) rfl
  by_cases h0 : c = 0
  · subst h0
    have p0 : rd0.p ≤ n := Nat.zero_le _
    have p1 : (rdTake xs rd0).2.p ≤ n := rdTake_place hl p0
    have p2 : (rdPart xs 16 (rdTake xs rd0).2).2.p ≤ n := rdPart_place hl p1
    have CT : Hid (∀ (w' : World) (g : Nat), PRd w' g 153 A n k rd0 (.slice none 0 0 :: tl) → Holds w' w.heap.size A n k xs → w.heap.size ≤ g → Calls Tryz.prog 142 #[.pointer (some ⟨g, 0, none⟩)] w' (PTakePost w' g 153 A n k (rdTake xs rd0) tl)) := fun w' g h1 h2 h3 => take_any w' g w.heap.size 153 A n k xs rd0 tl h1 h2 h3 p0
    have CF : Hid (∀ (w' : World) (g : Nat) (rest : List Value), PRd w' g 153 A n k (rdTake xs rd0).2 rest → Holds w' w'.heap.size A n k xs → 17 ≤ rest.length → Calls Tryz.prog 143 #[.pointer (some ⟨g, 0, none⟩), .slice (some ⟨g, 4, none⟩) 16 16] w' (PEndPost w' g 153 A n k (rdPart xs 16 (rdTake xs rd0).2).2 (spliced rest 1 (rdPart xs 16 (rdTake xs rd0).2).1))) := fun w' g rest h1 h2 h3 => fill_any w' g 153 A n k xs _ 1 16 16 rest h1 h2 p1 (by decide) (by decide) h3
    have hok := rdPart_ok (m := 16) (r := (rdTake xs rd0).2) hl
    have hbyq := rdPart_bytes hby 16 (rdTake xs rd0).2
    have kdial := rdTake_dial hby rd0
    have CE : Hid (∀ (w' : World) (g : Nat) (rest : List Value), PRd w' g 153 A n k (rdPart xs 16 (rdTake xs rd0).2).2 rest → Calls Tryz.prog 146 #[.pointer (some ⟨g, 0, none⟩)] w' fun e w2 => e = .returned (.int .i64 (rdEnd xs (rdPart xs 16 (rdTake xs rd0).2).2)) ∧ ∃ j, w'.drewN j = w2) := fun w' g rest h1 => rend_any w' g 153 A n k xs _ rest h1 hl hrm p2
    have hre : rdEnd xs (rdPart xs 16 (rdTake xs rd0).2).2 = 0 → (rdPart xs 16 (rdTake xs rd0).2).2.e = 0 := rdEnd_zero
    have hge : gaskErr 0 xs = rdEnd xs (rdPart xs 16 (rdTake xs rd0).2).2 := by unfold gaskErr gaskP; rw [if_pos hk, if_pos rfl]
    by_cases he : rdEnd xs (rdPart xs 16 (rdTake xs rd0).2).2 = 0
    rotate_left
    · have HQ := Lib.hid (HE.out _ hge he)
      have hne : (rdEnd xs (rdPart xs 16 (rdTake xs rd0).2).2 != 0) = true := by simpa using he
      obtain ⟨d, hd⟩ : ∃ x, x = rdTake xs rd0 := ⟨_, rfl⟩
      rw [← hd] at CT CF p1 p2 hok hbyq kdial CE he hre HQ hne
      clear hd
      obtain ⟨q, hq⟩ : ∃ x, x = rdPart xs 16 d.2 := ⟨_, rfl⟩
      rw [← hq] at CF p2 hok hbyq CE he hre HQ hne
      clear hq
      obtain ⟨er, her⟩ : ∃ x, x = rdEnd xs q.2 := ⟨_, rfl⟩
      rw [← her] at CE he HQ hne hre
      clear her he hre
      clear HE hx hk hge
      go_enter Tryz.func104, Tryz.ntmps104
      go_wp2_with (first
        | ((with_reducible show wpList _ _ _ (⟨some 4, _, _, _, _, _⟩ :: _) _ _); refine wpList_alloc_blk rfl _ rfl zs _ ZH ?_; intro h w1 hg1 hg2 Z1 L1)
        | ((with_reducible show wpList _ _ _ (⟨some 9, _, _, _, _, _⟩ :: _) _ _); refine wpList_build_blk rfl _ _ rfl (.slice A n k :: .int .i64 0 :: .int .i64 0 :: []) (by refine Eq.trans ?_ B1; kernel_rfl) ?_)
        | ((with_reducible show wpList _ _ _ (⟨some 10, _, _, _, _, _⟩ :: _) _ _); refine wpList_build_blk rfl _ _ rfl (.slice A n k :: .int .i64 0 :: .int .i64 0 :: zs) (by refine Eq.trans ?_ B2; kernel_rfl) ?_)
        | ((with_reducible show wpList _ _ _ (⟨some 6, _, _, _, _, _⟩ :: _) _ _); refine wpList_alloc_blk rfl _ rfl (.slice none 0 0 :: .int .i64 0 :: .int .i64 0 :: zs) _ ZB ?_; intro g w2 hg3 hg4 P02 L2)
        | ((with_reducible show wpList _ _ _ (⟨none, .store _ (.tmp 6) _, _, _, _, _⟩ :: _) _ _); refine wpList_store_blk rfl _ (.tmp 6) (.tmp 10) rfl g rfl _ (.slice none 0 0 :: .int .i64 0 :: .int .i64 0 :: zs) (.slice A n k :: .int .i64 0 :: .int .i64 0 :: zs) rfl P02 72 size_askB HZB HNB HOB ?_; intro w3 P03 O3 hg5; have hsz := L1.out.size; have hng : h ≠ g := (by omega); have Z3 := Lib.hid ((Z1.out.over L2.out).only O3.out hng); have B3 : Hid (Below w.heap.size w w3) := below_only (step L1.out L2.out) O3.out (by omega); have P3 : Hid (PRd w3 g 153 A n k rd0 zs) := P03; have hwg : w.heap.size ≤ g := (by omega); have hwh : w.heap.size ≤ h := hg1)
        | fail)
      have P3t : Hid (PRd w3 g 153 A n k rd0 (.slice none 0 0 :: tl)) := by rw [← HTL.out]; exact P3.out
      refine (CT.out w3 g P3t.out (HX.out.below B3.out) hwg).mono ?_
      rintro e w4 ⟨rfl, vd, hP, hD, hS⟩
      have P4 := Lib.hid hP
      have Z4 := Lib.hid (Z3.out.save hS hng)
      have B4 := Lib.hid (B3.out.trans (hS.below hwg B3.out.size))
      have D4 := Lib.hid hD
      have hgd : g < w3.heap.size := P3.out.lt
      have hhd : h < w3.heap.size := Z3.out.lt
      clear hP hS hD P3t P3 Z3 B3
      have HV : Hid (17 ≤ (vd :: tl).length) := by show _ ≤ _; have h := HZ.out; rw [HTL.out] at h; simp only [List.length_cons] at h ⊢; omega
      go_wp2_with fail
      refine (CF.out w4 g _ P4.out ((HX.out.below B4.out).mono B4.out.size) HV.out).mono ?_
      rintro e w5 ⟨rfl, hP, hS⟩
      have P5' := Lib.hid hP
      have Z5 := Lib.hid (Z4.out.save hS hng)
      have B5 := Lib.hid (B4.out.trans (hS.below hwg B4.out.size))
      have D5 := Lib.hid (D4.out.save hS hgd)
      clear hP hS P4 Z4 B4 D4
      obtain ⟨wd, hwd⟩ : ∃ wd : World, wd = w3 := ⟨_, rfl⟩
      rw [← hwd] at D5 hhd
      clear hwd hgd
      obtain ⟨rs, hrs⟩ : ∃ rs, rs = spliced (vd :: tl) 1 q.1 := ⟨_, rfl⟩
      have HRS := Lib.hid hrs
      rw [← hrs] at P5'
      have P5 := P5'
      clear hrs P5'
      go_wp2_with fail
      refine (CE.out w5 g _ P5.out).mono ?_
      rintro e w99 ⟨rfl, kk, rfl⟩
      have Z99 := Lib.hid (Blk.drewN Z5.out kk)
      have P99 := Lib.hid (Blk.drewN P5.out kk)
      have B99 : Hid (Below w.heap.size w (w5.drewN kk)) := step B5.out (drewed _ kk)
      obtain ⟨wq, hwq⟩ : ∃ wq, wq = w5.drewN kk := ⟨_, rfl⟩
      rw [← hwq] at Z99 P99 B99 ⊢
      clear hwq P5 Z5 B5
      go_wp2_with (first
        | ((with_reducible show wpList _ _ _ (⟨some 48, _, _, _, _, _⟩ :: _) _ _); refine wpList_build_none rfl _ rfl zs BZ ?_)
        | ((with_reducible show wpList _ _ _ (⟨none, .store _ (.tmp 4) _, _, _, _, _⟩ :: _) _ _); refine wpList_store_blk rfl _ (.tmp 4) (.tmp 48) rfl h rfl _ zs zs rfl Z99 69 size_ask HZ HZ HZ1 ?_; intro w10 K10 O10 hg10)
        | fail)
      refine bodyPost_ret (v := .tuple #[.agg zs.toArray, .int .i64 er]) ?_ rfl (HQ.out _ _ rfl (below_only B99.out O10.out hwh))
      exact results_cell_two rfl _ _ h _ _ (0, 0) _ rfl K10.out Tryz.underlying34 rfl (by rw [size_ask]; have := HZ.out; simp [this]) rfl
    have HQ : Hid (∀ vd e w', e = .returned (.tuple #[.agg (acells vd (.slice none 0 0) (.slice none 0 0) ({ zeroAsk with dial := (rdTake xs rd0).1, guid := (rdPart xs 16 (rdTake xs rd0).2).1 })).toArray, .int .i64 0]) → AskIs w' w'.heap.size (acells vd (.slice none 0 0) (.slice none 0 0) ({ zeroAsk with dial := (rdTake xs rd0).1, guid := (rdPart xs 16 (rdTake xs rd0).2).1 })) ({ zeroAsk with dial := (rdTake xs rd0).1, guid := (rdPart xs 16 (rdTake xs rd0).2).1 }) → Below w.heap.size w w' → (∀ b off s n c, vd = .slice (some ⟨b, off, s⟩) n c → w.heap.size ≤ b) → PGAskPostU w 0 xs e w') := by
      intro vd e w' h1 h2 h3 h9
      have h4 : gaskOf 0 xs = { zeroAsk with dial := (rdTake xs rd0).1, guid := (rdPart xs 16 (rdTake xs rd0).2).1 } := by unfold gaskOf; rw [hge, he, if_pos rfl]; unfold gaskP; rw [if_pos rfl]
      unfold PGAskPostU
      rw [h4, hge, he]
      exact ⟨vd, h1, h2, h3, h9⟩
    obtain ⟨d, hd⟩ : ∃ x, x = rdTake xs rd0 := ⟨_, rfl⟩
    rw [← hd] at CT CF p1 p2 hok hbyq kdial CE he hre HQ
    clear hd
    obtain ⟨q, hq⟩ : ∃ x, x = rdPart xs 16 d.2 := ⟨_, rfl⟩
    rw [← hq] at CF p2 hok hbyq CE he hre HQ
    clear hq
    rw [he] at CE
    have hre0 := hre he
    have hql := hok hre0
    have kd : ({ zeroAsk with dial := d.1 } : AskV).ok := ⟨kdial, zeroAsk_ok.glen, zeroAsk_ok.gbyte, zeroAsk_ok.plen, zeroAsk_ok.pbyte, zeroAsk_ok.acc, zeroAsk_ok.shr, zeroAsk_ok.way, zeroAsk_ok.opt, zeroAsk_ok.lev, zeroAsk_ok.dur, zeroAsk_ok.file, zeroAsk_ok.at_, zeroAsk_ok.n, zeroAsk_ok.data, zeroAsk_ok.locks, zeroAsk_ok.most, zeroAsk_ok.cls, zeroAsk_ok.siz⟩
    have kw : ({ zeroAsk with dial := d.1, guid := q.1 } : AskV).ok := ⟨kdial, hql, hbyq, zeroAsk_ok.plen, zeroAsk_ok.pbyte, zeroAsk_ok.acc, zeroAsk_ok.shr, zeroAsk_ok.way, zeroAsk_ok.opt, zeroAsk_ok.lev, zeroAsk_ok.dur, zeroAsk_ok.file, zeroAsk_ok.at_, zeroAsk_ok.n, zeroAsk_ok.data, zeroAsk_ok.locks, zeroAsk_ok.most, zeroAsk_ok.cls, zeroAsk_ok.siz⟩
    clear HE hx hk hge hre he hre0
    go_enter Tryz.func104, Tryz.ntmps104
    go_wp2_with (first
      | ((with_reducible show wpList _ _ _ (⟨some 4, _, _, _, _, _⟩ :: _) _ _); refine wpList_alloc_blk rfl _ rfl zs _ ZH ?_; intro h w1 hg1 hg2 Z1 L1)
      | ((with_reducible show wpList _ _ _ (⟨some 9, _, _, _, _, _⟩ :: _) _ _); refine wpList_build_blk rfl _ _ rfl (.slice A n k :: .int .i64 0 :: .int .i64 0 :: []) (by refine Eq.trans ?_ B1; kernel_rfl) ?_)
      | ((with_reducible show wpList _ _ _ (⟨some 10, _, _, _, _, _⟩ :: _) _ _); refine wpList_build_blk rfl _ _ rfl (.slice A n k :: .int .i64 0 :: .int .i64 0 :: zs) (by refine Eq.trans ?_ B2; kernel_rfl) ?_)
      | ((with_reducible show wpList _ _ _ (⟨some 6, _, _, _, _, _⟩ :: _) _ _); refine wpList_alloc_blk rfl _ rfl (.slice none 0 0 :: .int .i64 0 :: .int .i64 0 :: zs) _ ZB ?_; intro g w2 hg3 hg4 P02 L2)
      | ((with_reducible show wpList _ _ _ (⟨none, .store _ (.tmp 6) _, _, _, _, _⟩ :: _) _ _); refine wpList_store_blk rfl _ (.tmp 6) (.tmp 10) rfl g rfl _ (.slice none 0 0 :: .int .i64 0 :: .int .i64 0 :: zs) (.slice A n k :: .int .i64 0 :: .int .i64 0 :: zs) rfl P02 72 size_askB HZB HNB HOB ?_; intro w3 P03 O3 hg5; have hsz := L1.out.size; have hng : h ≠ g := (by omega); have Z3 := Lib.hid ((Z1.out.over L2.out).only O3.out hng); have B3 : Hid (Below w.heap.size w w3) := below_only (step L1.out L2.out) O3.out (by omega); have P3 : Hid (PRd w3 g 153 A n k rd0 zs) := P03; have hwg : w.heap.size ≤ g := (by omega); have hwh : w.heap.size ≤ h := hg1)
      | fail)
    have P3t : Hid (PRd w3 g 153 A n k rd0 (.slice none 0 0 :: tl)) := by rw [← HTL.out]; exact P3.out
    refine (CT.out w3 g P3t.out (HX.out.below B3.out) hwg).mono ?_
    rintro e w4 ⟨rfl, vd, hP, hD, hS⟩
    have P4 := Lib.hid hP
    have Z4 := Lib.hid (Z3.out.save hS hng)
    have B4 := Lib.hid (B3.out.trans (hS.below hwg B3.out.size))
    have D4 := Lib.hid hD
    have hgd : g < w3.heap.size := P3.out.lt
    have hhd : h < w3.heap.size := Z3.out.lt
    have hwd0 := B3.out.size
    clear hP hS hD P3t P3 Z3 B3
    have HV : Hid (17 ≤ (vd :: tl).length) := by show _ ≤ _; have h := HZ.out; rw [HTL.out] at h; simp only [List.length_cons] at h ⊢; omega
    go_wp2_with fail
    refine (CF.out w4 g _ P4.out ((HX.out.below B4.out).mono B4.out.size) HV.out).mono ?_
    rintro e w5 ⟨rfl, hP, hS⟩
    have P5' := Lib.hid hP
    have Z5 := Lib.hid (Z4.out.save hS hng)
    have B5 := Lib.hid (B4.out.trans (hS.below hwg B4.out.size))
    have D5 := Lib.hid (D4.out.save hS hgd)
    clear hP hS P4 Z4 B4 D4
    obtain ⟨wd, hwd⟩ : ∃ wd : World, wd = w3 := ⟨_, rfl⟩
    rw [← hwd] at D5 hhd hwd0
    clear hwd hgd
    obtain ⟨rs, hrs⟩ : ∃ rs, rs = spliced (vd :: tl) 1 q.1 := ⟨_, rfl⟩
    have HRS := Lib.hid hrs
    rw [← hrs] at P5'
    have P5 := P5'
    clear hrs P5'
    go_wp2_with fail
    have HEQ : Hid (rs = acells vd (.slice none 0 0) (.slice none 0 0) ({ zeroAsk with dial := d.1, guid := q.1 })) := by
      show _ = _
      rw [HRS.out]
      have h := acells_guidS (vd := vd) (vx := .slice none 0 0) (vl := .slice none 0 0) (a := { zeroAsk with dial := d.1 }) kd q.1
      rw [← h]
      unfold spliced
      rw [hql]
      have e1 : vd :: tl = acells vd (.slice none 0 0) (.slice none 0 0) { zeroAsk with dial := d.1 } := by
        have h1 := HTL.out; rw [HZS.out] at h1; injection h1 with _ h1; rw [← h1]; rfl
      rw [e1]
    have HRL : Hid (rs.length = 69) := by show _ = _; rw [HEQ.out]; exact acells_len kw
    have hvd1 : vd.oneCell' = true := by obtain ⟨_, _, _, rfl, _⟩ := D5.out.open; rfl
    have HR1 : Hid (∀ v ∈ rs, v.oneCell' = true) := by rw [HEQ.out]; exact acells_one hvd1 rfl rfl
    refine (CE.out w5 g _ P5.out).mono ?_
    rintro e w99 ⟨rfl, kk, rfl⟩
    have Z99 := Lib.hid (Blk.drewN Z5.out kk)
    have P99 := Lib.hid (Blk.drewN P5.out kk)
    have B99 : Hid (Below w.heap.size w (w5.drewN kk)) := step B5.out (drewed _ kk)
    have D99 : Hid (OwnK .u16 22 (w5.drewN kk) wd.heap.size vd d.1) := D5.out.keep fun _ _ _ _ => rfl
    obtain ⟨wq, hwq⟩ : ∃ wq, wq = w5.drewN kk := ⟨_, rfl⟩
    rw [← hwq] at Z99 P99 B99 D99 ⊢
    clear hwq P5 Z5 B5
    have hrg : Hid (wq.rangeAt g 3 rs) := Blk.range P99.out 3
    go_wp2_with (first
      | ((with_reducible show wpList _ _ _ (⟨some 51, _, _, _, _, _⟩ :: _) _ _); refine wpList_load_midu rfl _ (.tmp 50) rfl g 3 rfl rs _ hrg Tryz.underlying34 rfl 69 size_ask HRL ?_)
      | ((with_reducible show wpList _ _ _ (⟨none, .store _ (.tmp 4) _, _, _, _, _⟩ :: _) _ _); refine wpList_store_blk rfl _ (.tmp 4) (.tmp 51) rfl h rfl _ zs rs rfl Z99 69 size_ask HZ HRL HR1 ?_; intro w10 K10 O10 hg10)
      | fail)
    refine bodyPost_ret (v := .tuple #[.agg rs.toArray, .int .i64 0]) ?_ rfl ?_
    · exact results_cell_two rfl _ _ h _ _ (0, 0) _ rfl K10.out Tryz.underlying34 rfl (by rw [size_ask]; have := HRL.out; simp [this]) rfl
    · have D10 : OwnK .u16 22 w10 wd.heap.size vd d.1 := D99.out.keep fun i cs hi hc => O10.out.rest i (by obtain ⟨hb, _⟩ := D99.out.block hi; omega)
      obtain ⟨Av, nv, cv, hv, hF⟩ := D10.holdsF
      exact HQ.out vd _ w10 (congrArg (fun r : List Value => Ending.returned (.tuple #[.agg r.toArray, .int .i64 0])) HEQ.out) ⟨Av, nv, cv, none, 0, 0, none, 0, 0, by rw [hv], hF, Holds.nil _ _, HoldsS.nil _ _ _ _⟩ (below_only B99.out O10.out hwh) (fun b off s n c h => by obtain ⟨hb, _⟩ := D10.block (i := b) (by rw [h]; rfl); exact Nat.le_trans hwd0 hb)
  by_cases h1 : c = 1
  · subst h1
    have p0 : rd0.p ≤ n := Nat.zero_le _
    have p1 : (rdPart xs 32 rd0).2.p ≤ n := rdPart_place hl p0
    have p2 : (prdText xs (rdPart xs 32 rd0).2).2.p ≤ n := prdText_place hby hl p1
    have CF : Hid (∀ (w' : World) (g : Nat) (rest : List Value), PRd w' g 153 A n k rd0 rest → Holds w' w'.heap.size A n k xs → 49 ≤ rest.length → Calls Tryz.prog 143 #[.pointer (some ⟨g, 0, none⟩), .slice (some ⟨g, 20, none⟩) 32 32] w' (PEndPost w' g 153 A n k (rdPart xs 32 rd0).2 (spliced rest 17 (rdPart xs 32 rd0).1))) := fun w' g rest h1 h2 h3 => fill_any w' g 153 A n k xs _ 17 32 32 rest h1 h2 p0 (by decide) (by decide) h3
    have CX : Hid (∀ (w' : World) (g : Nat) (rest : List Value), PRd w' g 153 A n k (rdPart xs 32 rd0).2 rest → Holds w' w'.heap.size A n k xs → Calls Tryz.prog 144 #[.pointer (some ⟨g, 0, none⟩)] w' (PTextRPost w' g 153 A n k (prdText xs (rdPart xs 32 rd0).2) rest)) := fun w' g rest h1 h2 => rtext_any w' g 153 A n k xs _ rest h1 h2 p1
    have hok := rdPart_ok (m := 32) (r := rd0) hl
    have hbyq := rdPart_bytes hby 32 rd0
    have hql := rdPart_len (xs := xs) (m := 32) (r := rd0)
    have hte : (prdText xs (rdPart xs 32 rd0).2).2.e = 0 → (rdPart xs 32 rd0).2.e = 0 := prdText_e
    have CE : Hid (∀ (w' : World) (g : Nat) (rest : List Value), PRd w' g 153 A n k (prdText xs (rdPart xs 32 rd0).2).2 rest → Calls Tryz.prog 146 #[.pointer (some ⟨g, 0, none⟩)] w' fun e w2 => e = .returned (.int .i64 (rdEnd xs (prdText xs (rdPart xs 32 rd0).2).2)) ∧ ∃ j, w'.drewN j = w2) := fun w' g rest h1 => rend_any w' g 153 A n k xs _ rest h1 hl hrm p2
    have hre : rdEnd xs (prdText xs (rdPart xs 32 rd0).2).2 = 0 → (prdText xs (rdPart xs 32 rd0).2).2.e = 0 := rdEnd_zero
    have hge : gaskErr 1 xs = rdEnd xs (prdText xs (rdPart xs 32 rd0).2).2 := by unfold gaskErr gaskP; rw [if_pos hk, if_neg (by decide), if_pos rfl]
    by_cases he : rdEnd xs (prdText xs (rdPart xs 32 rd0).2).2 = 0
    rotate_left
    · have HQ := Lib.hid (HE.out _ hge he)
      have hne : (rdEnd xs (prdText xs (rdPart xs 32 rd0).2).2 != 0) = true := by simpa using he
      obtain ⟨q, hq⟩ : ∃ x, x = rdPart xs 32 rd0 := ⟨_, rfl⟩
      rw [← hq] at CF CX p1 p2 hok hbyq hql hte CE he hre HQ hne
      clear hq
      obtain ⟨t, ht⟩ : ∃ x, x = prdText xs q.2 := ⟨_, rfl⟩
      rw [← ht] at CX p2 hte CE he hre HQ hne
      clear ht
      obtain ⟨er, her⟩ : ∃ x, x = rdEnd xs t.2 := ⟨_, rfl⟩
      rw [← her] at CE he HQ hne hre
      clear her he hre
      clear HE hx hk hge
      go_enter Tryz.func104, Tryz.ntmps104
      go_wp2_with (first
        | ((with_reducible show wpList _ _ _ (⟨some 4, _, _, _, _, _⟩ :: _) _ _); refine wpList_alloc_blk rfl _ rfl zs _ ZH ?_; intro h w1 hg1 hg2 Z1 L1)
        | ((with_reducible show wpList _ _ _ (⟨some 9, _, _, _, _, _⟩ :: _) _ _); refine wpList_build_blk rfl _ _ rfl (.slice A n k :: .int .i64 0 :: .int .i64 0 :: []) (by refine Eq.trans ?_ B1; kernel_rfl) ?_)
        | ((with_reducible show wpList _ _ _ (⟨some 10, _, _, _, _, _⟩ :: _) _ _); refine wpList_build_blk rfl _ _ rfl (.slice A n k :: .int .i64 0 :: .int .i64 0 :: zs) (by refine Eq.trans ?_ B2; kernel_rfl) ?_)
        | ((with_reducible show wpList _ _ _ (⟨some 6, _, _, _, _, _⟩ :: _) _ _); refine wpList_alloc_blk rfl _ rfl (.slice none 0 0 :: .int .i64 0 :: .int .i64 0 :: zs) _ ZB ?_; intro g w2 hg3 hg4 P02 L2)
        | ((with_reducible show wpList _ _ _ (⟨none, .store _ (.tmp 6) _, _, _, _, _⟩ :: _) _ _); refine wpList_store_blk rfl _ (.tmp 6) (.tmp 10) rfl g rfl _ (.slice none 0 0 :: .int .i64 0 :: .int .i64 0 :: zs) (.slice A n k :: .int .i64 0 :: .int .i64 0 :: zs) rfl P02 72 size_askB HZB HNB HOB ?_; intro w3 P03 O3 hg5; have hsz := L1.out.size; have hng : h ≠ g := (by omega); have Z3 := Lib.hid ((Z1.out.over L2.out).only O3.out hng); have B3 : Hid (Below w.heap.size w w3) := below_only (step L1.out L2.out) O3.out (by omega); have P3 : Hid (PRd w3 g 153 A n k rd0 zs) := P03; have hwg : w.heap.size ≤ g := (by omega); have hwh : w.heap.size ≤ h := hg1)
        | fail)
      have HV : Hid (49 ≤ zs.length) := by show _ ≤ _; rw [HZ.out]; omega
      refine (CF.out w3 g _ P3.out ((HX.out.below B3.out).mono B3.out.size) HV.out).mono ?_
      rintro e w4 ⟨rfl, hP, hS⟩
      have P4' := Lib.hid hP
      have Z4 := Lib.hid (Z3.out.save hS hng)
      have B4 := Lib.hid (B3.out.trans (hS.below hwg B3.out.size))
      clear hP hS P3 Z3 B3
      obtain ⟨r4, hr4⟩ : ∃ rs, rs = spliced zs 17 q.1 := ⟨_, rfl⟩
      have HR4 := Lib.hid hr4
      have hr4l : r4.length = 69 := by rw [hr4, spliced_len (by have h := HZ.out; have h2 := hql; omega)]; exact HZ.out
      rw [← hr4] at P4'
      have P4 := P4'
      clear hr4 P4'
      go_wp2_with fail
      refine (CX.out w4 g _ P4.out ((HX.out.below B4.out).mono B4.out.size)).mono ?_
      rintro e w5 ⟨rfl, hP, hS⟩
      have P5 := Lib.hid hP
      have Z5 := Lib.hid (Z4.out.save hS hng)
      have B5 := Lib.hid (B4.out.trans (hS.below hwg B4.out.size))
      clear hP hS P4 Z4 B4
      obtain ⟨rs, hrs⟩ : ∃ rs, rs = r4.set 49 (.string ⟨t.1.toArray⟩) := ⟨_, rfl⟩
      have HRS := Lib.hid hrs
      have hst : ∀ u : Value, (Value.slice A n k :: Value.int .i64 (t.2.p : Int) :: Value.int .i64 t.2.e :: r4).set 52 u = Value.slice A n k :: Value.int .i64 (t.2.p : Int) :: Value.int .i64 t.2.e :: r4.set 49 u := fun _ => rfl
      have HST := Lib.hid (hst (.string ⟨t.1.toArray⟩))
      rw [← hrs] at HST
      clear hst hrs
      obtain ⟨tx, htx⟩ : ∃ x : ByteArray, x = ⟨t.1.toArray⟩ := ⟨_, rfl⟩
      have HTX := Lib.hid htx
      rw [← htx] at HST HRS ⊢
      clear htx
      obtain ⟨cc, hcc⟩ : ∃ x, x = Value.slice A n k :: Value.int .i64 (t.2.p : Int) :: Value.int .i64 t.2.e :: r4 := ⟨_, rfl⟩
      have hcl : 52 < cc.length := by rw [hcc]; simp only [List.length_cons, hr4l]; omega
      have HCL := Lib.hid hcl
      have PC : Hid (Blk w5 g 153 cc) := by rw [hcc]; exact P5.out
      rw [← hcc] at HST
      clear hcc hcl P5 hr4l
      go_wp2_with (first
        | ((with_reducible show wpList _ _ _ (⟨none, .store _ (.tmp 31) _, _, _, _, _⟩ :: _) _ _); refine wpList_store_fld rfl _ (.tmp 31) (.tmp 29) rfl g 52 rfl _ cc (.string tx) rfl PC HCL (by kernel_rfl) rfl ?_; intro w6 P06 O6 q6; rw [HST.out] at P06; have P6 : Hid (PRd w6 g 153 A n k t.2 rs) := P06; have Z6 := Lib.hid (Z5.out.only O6.out hng); have B6 : Hid (Below w.heap.size w w6) := below_only B5.out O6.out hwg)
        | fail)
      clear P06 O6 q6 PC Z5 B5
      refine (CE.out w6 g _ P6.out).mono ?_
      rintro e w99 ⟨rfl, kk, rfl⟩
      have Z99 := Lib.hid (Blk.drewN Z6.out kk)
      have P99 := Lib.hid (Blk.drewN P6.out kk)
      have B99 : Hid (Below w.heap.size w (w6.drewN kk)) := step B6.out (drewed _ kk)
      obtain ⟨wq, hwq⟩ : ∃ wq, wq = w6.drewN kk := ⟨_, rfl⟩
      rw [← hwq] at Z99 P99 B99 ⊢
      clear hwq P6 Z6 B6
      go_wp2_with (first
        | ((with_reducible show wpList _ _ _ (⟨some 48, _, _, _, _, _⟩ :: _) _ _); refine wpList_build_none rfl _ rfl zs BZ ?_)
        | ((with_reducible show wpList _ _ _ (⟨none, .store _ (.tmp 4) _, _, _, _, _⟩ :: _) _ _); refine wpList_store_blk rfl _ (.tmp 4) (.tmp 48) rfl h rfl _ zs zs rfl Z99 69 size_ask HZ HZ HZ1 ?_; intro w10 K10 O10 hg10)
        | fail)
      refine bodyPost_ret (v := .tuple #[.agg zs.toArray, .int .i64 er]) ?_ rfl (HQ.out _ _ rfl (below_only B99.out O10.out hwh))
      exact results_cell_two rfl _ _ h _ _ (0, 0) _ rfl K10.out Tryz.underlying34 rfl (by rw [size_ask]; have := HZ.out; simp [this]) rfl
    have HQ : Hid (∀ vd e w', e = .returned (.tuple #[.agg (acells vd (.slice none 0 0) (.slice none 0 0) ({ zeroAsk with proof := (rdPart xs 32 rd0).1, user := ⟨(prdText xs (rdPart xs 32 rd0).2).1.toArray⟩ })).toArray, .int .i64 0]) → AskIs w' w'.heap.size (acells vd (.slice none 0 0) (.slice none 0 0) ({ zeroAsk with proof := (rdPart xs 32 rd0).1, user := ⟨(prdText xs (rdPart xs 32 rd0).2).1.toArray⟩ })) ({ zeroAsk with proof := (rdPart xs 32 rd0).1, user := ⟨(prdText xs (rdPart xs 32 rd0).2).1.toArray⟩ }) → Below w.heap.size w w' → (∀ b off s n c, vd = .slice (some ⟨b, off, s⟩) n c → w.heap.size ≤ b) → PGAskPostU w 1 xs e w') := by
      intro vd e w' h1 h2 h3 h9
      have h4 : gaskOf 1 xs = { zeroAsk with proof := (rdPart xs 32 rd0).1, user := ⟨(prdText xs (rdPart xs 32 rd0).2).1.toArray⟩ } := by unfold gaskOf; rw [hge, he, if_pos rfl]; unfold gaskP; rw [if_neg (by decide), if_pos rfl]
      unfold PGAskPostU
      rw [h4, hge, he]
      exact ⟨vd, h1, h2, h3, h9⟩
    obtain ⟨q, hq⟩ : ∃ x, x = rdPart xs 32 rd0 := ⟨_, rfl⟩
    rw [← hq] at CF CX p1 p2 hok hbyq hql hte CE he hre HQ
    clear hq
    obtain ⟨t, ht⟩ : ∃ x, x = prdText xs q.2 := ⟨_, rfl⟩
    rw [← ht] at CX p2 hte CE he hre HQ
    clear ht
    rw [he] at CE
    have hre0 := hre he
    have hqe := hok (hte hre0)
    have kd : ({ zeroAsk with proof := q.1 } : AskV).ok := ⟨zeroAsk_ok.dial, zeroAsk_ok.glen, zeroAsk_ok.gbyte, hqe, hbyq, zeroAsk_ok.acc, zeroAsk_ok.shr, zeroAsk_ok.way, zeroAsk_ok.opt, zeroAsk_ok.lev, zeroAsk_ok.dur, zeroAsk_ok.file, zeroAsk_ok.at_, zeroAsk_ok.n, zeroAsk_ok.data, zeroAsk_ok.locks, zeroAsk_ok.most, zeroAsk_ok.cls, zeroAsk_ok.siz⟩
    have kw : ({ zeroAsk with proof := q.1, user := ⟨t.1.toArray⟩ } : AskV).ok := ⟨kd.dial, kd.glen, kd.gbyte, kd.plen, kd.pbyte, kd.acc, kd.shr, kd.way, kd.opt, kd.lev, kd.dur, kd.file, kd.at_, kd.n, kd.data, kd.locks, kd.most, kd.cls, kd.siz⟩
    clear HE hx hk hge hre he hre0
    go_enter Tryz.func104, Tryz.ntmps104
    go_wp2_with (first
      | ((with_reducible show wpList _ _ _ (⟨some 4, _, _, _, _, _⟩ :: _) _ _); refine wpList_alloc_blk rfl _ rfl zs _ ZH ?_; intro h w1 hg1 hg2 Z1 L1)
      | ((with_reducible show wpList _ _ _ (⟨some 9, _, _, _, _, _⟩ :: _) _ _); refine wpList_build_blk rfl _ _ rfl (.slice A n k :: .int .i64 0 :: .int .i64 0 :: []) (by refine Eq.trans ?_ B1; kernel_rfl) ?_)
      | ((with_reducible show wpList _ _ _ (⟨some 10, _, _, _, _, _⟩ :: _) _ _); refine wpList_build_blk rfl _ _ rfl (.slice A n k :: .int .i64 0 :: .int .i64 0 :: zs) (by refine Eq.trans ?_ B2; kernel_rfl) ?_)
      | ((with_reducible show wpList _ _ _ (⟨some 6, _, _, _, _, _⟩ :: _) _ _); refine wpList_alloc_blk rfl _ rfl (.slice none 0 0 :: .int .i64 0 :: .int .i64 0 :: zs) _ ZB ?_; intro g w2 hg3 hg4 P02 L2)
      | ((with_reducible show wpList _ _ _ (⟨none, .store _ (.tmp 6) _, _, _, _, _⟩ :: _) _ _); refine wpList_store_blk rfl _ (.tmp 6) (.tmp 10) rfl g rfl _ (.slice none 0 0 :: .int .i64 0 :: .int .i64 0 :: zs) (.slice A n k :: .int .i64 0 :: .int .i64 0 :: zs) rfl P02 72 size_askB HZB HNB HOB ?_; intro w3 P03 O3 hg5; have hsz := L1.out.size; have hng : h ≠ g := (by omega); have Z3 := Lib.hid ((Z1.out.over L2.out).only O3.out hng); have B3 : Hid (Below w.heap.size w w3) := below_only (step L1.out L2.out) O3.out (by omega); have P3 : Hid (PRd w3 g 153 A n k rd0 zs) := P03; have hwg : w.heap.size ≤ g := (by omega); have hwh : w.heap.size ≤ h := hg1)
      | fail)
    have HV : Hid (49 ≤ zs.length) := by show _ ≤ _; rw [HZ.out]; omega
    refine (CF.out w3 g _ P3.out ((HX.out.below B3.out).mono B3.out.size) HV.out).mono ?_
    rintro e w4 ⟨rfl, hP, hS⟩
    have P4' := Lib.hid hP
    have Z4 := Lib.hid (Z3.out.save hS hng)
    have B4 := Lib.hid (B3.out.trans (hS.below hwg B3.out.size))
    clear hP hS P3 Z3 B3
    obtain ⟨r4, hr4⟩ : ∃ rs, rs = spliced zs 17 q.1 := ⟨_, rfl⟩
    have HR4 := Lib.hid hr4
    have hr4l : r4.length = 69 := by rw [hr4, spliced_len (by have h := HZ.out; have h2 := hql; omega)]; exact HZ.out
    rw [← hr4] at P4'
    have P4 := P4'
    clear hr4 P4'
    go_wp2_with fail
    refine (CX.out w4 g _ P4.out ((HX.out.below B4.out).mono B4.out.size)).mono ?_
    rintro e w5 ⟨rfl, hP, hS⟩
    have P5 := Lib.hid hP
    have Z5 := Lib.hid (Z4.out.save hS hng)
    have B5 := Lib.hid (B4.out.trans (hS.below hwg B4.out.size))
    clear hP hS P4 Z4 B4
    obtain ⟨rs, hrs⟩ : ∃ rs, rs = r4.set 49 (.string ⟨t.1.toArray⟩) := ⟨_, rfl⟩
    have HRS := Lib.hid hrs
    have hst : ∀ u : Value, (Value.slice A n k :: Value.int .i64 (t.2.p : Int) :: Value.int .i64 t.2.e :: r4).set 52 u = Value.slice A n k :: Value.int .i64 (t.2.p : Int) :: Value.int .i64 t.2.e :: r4.set 49 u := fun _ => rfl
    have HST := Lib.hid (hst (.string ⟨t.1.toArray⟩))
    rw [← hrs] at HST
    clear hst hrs
    obtain ⟨tx, htx⟩ : ∃ x : ByteArray, x = ⟨t.1.toArray⟩ := ⟨_, rfl⟩
    have HTX := Lib.hid htx
    rw [← htx] at HST HRS ⊢
    clear htx
    obtain ⟨cc, hcc⟩ : ∃ x, x = Value.slice A n k :: Value.int .i64 (t.2.p : Int) :: Value.int .i64 t.2.e :: r4 := ⟨_, rfl⟩
    have hcl : 52 < cc.length := by rw [hcc]; simp only [List.length_cons, hr4l]; omega
    have HCL := Lib.hid hcl
    have PC : Hid (Blk w5 g 153 cc) := by rw [hcc]; exact P5.out
    rw [← hcc] at HST
    clear hcc hcl P5 hr4l
    go_wp2_with (first
      | ((with_reducible show wpList _ _ _ (⟨none, .store _ (.tmp 31) _, _, _, _, _⟩ :: _) _ _); refine wpList_store_fld rfl _ (.tmp 31) (.tmp 29) rfl g 52 rfl _ cc (.string tx) rfl PC HCL (by kernel_rfl) rfl ?_; intro w6 P06 O6 q6; rw [HST.out] at P06; have P6 : Hid (PRd w6 g 153 A n k t.2 rs) := P06; have Z6 := Lib.hid (Z5.out.only O6.out hng); have B6 : Hid (Below w.heap.size w w6) := below_only B5.out O6.out hwg)
      | fail)
    clear P06 O6 q6 PC Z5 B5
    have HEQ : Hid (rs = acells (.slice none 0 0) (.slice none 0 0) (.slice none 0 0) ({ zeroAsk with proof := q.1, user := ⟨t.1.toArray⟩ })) := by
      show _ = _
      rw [HRS.out, HR4.out, HZS.out, HTX.out]
      have h := acells_proofS (vd := .slice none 0 0) (vx := .slice none 0 0) (vl := .slice none 0 0) (a := zeroAsk) zeroAsk_ok q.1
      have e1 : spliced (acells (.slice none 0 0) (.slice none 0 0) (.slice none 0 0) zeroAsk) 17 q.1 = acells (.slice none 0 0) (.slice none 0 0) (.slice none 0 0) { zeroAsk with proof := q.1 } := by rw [← h]; unfold spliced; rw [hqe]
      rw [e1]
      exact acells_user (a := { zeroAsk with proof := q.1 }) kd _
    have HRL : Hid (rs.length = 69) := by show _ = _; rw [HEQ.out]; exact acells_len kw
    have HR1 : Hid (∀ v ∈ rs, v.oneCell' = true) := by rw [HEQ.out]; exact acells_one rfl rfl rfl
    refine (CE.out w6 g _ P6.out).mono ?_
    rintro e w99 ⟨rfl, kk, rfl⟩
    have Z99 := Lib.hid (Blk.drewN Z6.out kk)
    have P99 := Lib.hid (Blk.drewN P6.out kk)
    have B99 : Hid (Below w.heap.size w (w6.drewN kk)) := step B6.out (drewed _ kk)
    obtain ⟨wq, hwq⟩ : ∃ wq, wq = w6.drewN kk := ⟨_, rfl⟩
    rw [← hwq] at Z99 P99 B99 ⊢
    clear hwq P6 Z6 B6
    have hrg : Hid (wq.rangeAt g 3 rs) := Blk.range P99.out 3
    go_wp2_with (first
      | ((with_reducible show wpList _ _ _ (⟨some 51, _, _, _, _, _⟩ :: _) _ _); refine wpList_load_midu rfl _ (.tmp 50) rfl g 3 rfl rs _ hrg Tryz.underlying34 rfl 69 size_ask HRL ?_)
      | ((with_reducible show wpList _ _ _ (⟨none, .store _ (.tmp 4) _, _, _, _, _⟩ :: _) _ _); refine wpList_store_blk rfl _ (.tmp 4) (.tmp 51) rfl h rfl _ zs rs rfl Z99 69 size_ask HZ HRL HR1 ?_; intro w10 K10 O10 hg10)
      | fail)
    refine bodyPost_ret (v := .tuple #[.agg rs.toArray, .int .i64 0]) ?_ rfl ?_
    · exact results_cell_two rfl _ _ h _ _ (0, 0) _ rfl K10.out Tryz.underlying34 rfl (by rw [size_ask]; have := HRL.out; simp [this]) rfl
    · exact HQ.out (.slice none 0 0) _ w10 (congrArg (fun r : List Value => Ending.returned (.tuple #[.agg r.toArray, .int .i64 0])) HEQ.out) ⟨none, 0, 0, none, 0, 0, none, 0, 0, rfl, HoldsF.nil _ _ _, Holds.nil _ _, HoldsS.nil _ _ _ _⟩ (below_only B99.out O10.out hwh) (fun _ _ _ _ _ h => by cases h)
  by_cases h3 : c = 3
  · subst h3
    have p0 : rd0.p ≤ n := Nat.zero_le _
    have p2 : (prdText xs rd0).2.p ≤ n := prdText_place hby hl p0
    have CX : Hid (∀ (w' : World) (g : Nat) (rest : List Value), PRd w' g 153 A n k rd0 rest → Holds w' w'.heap.size A n k xs → Calls Tryz.prog 144 #[.pointer (some ⟨g, 0, none⟩)] w' (PTextRPost w' g 153 A n k (prdText xs rd0) rest)) := fun w' g rest h1 h2 => rtext_any w' g 153 A n k xs _ rest h1 h2 p0
    have CE : Hid (∀ (w' : World) (g : Nat) (rest : List Value), PRd w' g 153 A n k (prdText xs rd0).2 rest → Calls Tryz.prog 146 #[.pointer (some ⟨g, 0, none⟩)] w' fun e w2 => e = .returned (.int .i64 (rdEnd xs (prdText xs rd0).2)) ∧ ∃ j, w'.drewN j = w2) := fun w' g rest h1 => rend_any w' g 153 A n k xs _ rest h1 hl hrm p2
    have hre : rdEnd xs (prdText xs rd0).2 = 0 → (prdText xs rd0).2.e = 0 := rdEnd_zero
    have hge : gaskErr 3 xs = rdEnd xs (prdText xs rd0).2 := by unfold gaskErr gaskP; rw [if_pos hk, if_neg (by decide), if_neg (by decide), if_pos rfl]
    by_cases he : rdEnd xs (prdText xs rd0).2 = 0
    rotate_left
    · have HQ := Lib.hid (HE.out _ hge he)
      have hne : (rdEnd xs (prdText xs rd0).2 != 0) = true := by simpa using he
      obtain ⟨t, ht⟩ : ∃ x, x = prdText xs rd0 := ⟨_, rfl⟩
      rw [← ht] at CX p2 CE he hre HQ hne
      clear ht
      obtain ⟨er, her⟩ : ∃ x, x = rdEnd xs t.2 := ⟨_, rfl⟩
      rw [← her] at CE he HQ hne hre
      clear her he hre
      clear HE hx hk hge
      go_enter Tryz.func104, Tryz.ntmps104
      go_wp2_with (first
        | ((with_reducible show wpList _ _ _ (⟨some 4, _, _, _, _, _⟩ :: _) _ _); refine wpList_alloc_blk rfl _ rfl zs _ ZH ?_; intro h w1 hg1 hg2 Z1 L1)
        | ((with_reducible show wpList _ _ _ (⟨some 9, _, _, _, _, _⟩ :: _) _ _); refine wpList_build_blk rfl _ _ rfl (.slice A n k :: .int .i64 0 :: .int .i64 0 :: []) (by refine Eq.trans ?_ B1; kernel_rfl) ?_)
        | ((with_reducible show wpList _ _ _ (⟨some 10, _, _, _, _, _⟩ :: _) _ _); refine wpList_build_blk rfl _ _ rfl (.slice A n k :: .int .i64 0 :: .int .i64 0 :: zs) (by refine Eq.trans ?_ B2; kernel_rfl) ?_)
        | ((with_reducible show wpList _ _ _ (⟨some 6, _, _, _, _, _⟩ :: _) _ _); refine wpList_alloc_blk rfl _ rfl (.slice none 0 0 :: .int .i64 0 :: .int .i64 0 :: zs) _ ZB ?_; intro g w2 hg3 hg4 P02 L2)
        | ((with_reducible show wpList _ _ _ (⟨none, .store _ (.tmp 6) _, _, _, _, _⟩ :: _) _ _); refine wpList_store_blk rfl _ (.tmp 6) (.tmp 10) rfl g rfl _ (.slice none 0 0 :: .int .i64 0 :: .int .i64 0 :: zs) (.slice A n k :: .int .i64 0 :: .int .i64 0 :: zs) rfl P02 72 size_askB HZB HNB HOB ?_; intro w3 P03 O3 hg5; have hsz := L1.out.size; have hng : h ≠ g := (by omega); have Z3 := Lib.hid ((Z1.out.over L2.out).only O3.out hng); have B3 : Hid (Below w.heap.size w w3) := below_only (step L1.out L2.out) O3.out (by omega); have P3 : Hid (PRd w3 g 153 A n k rd0 zs) := P03; have hwg : w.heap.size ≤ g := (by omega); have hwh : w.heap.size ≤ h := hg1)
        | fail)
      refine (CX.out w3 g _ P3.out ((HX.out.below B3.out).mono B3.out.size)).mono ?_
      rintro e w5 ⟨rfl, hP, hS⟩
      have P5 := Lib.hid hP
      have Z5 := Lib.hid (Z3.out.save hS hng)
      have B5 := Lib.hid (B3.out.trans (hS.below hwg B3.out.size))
      clear hP hS P3 Z3 B3
      obtain ⟨rs, hrs⟩ : ∃ rs, rs = zs.set 50 (.string ⟨t.1.toArray⟩) := ⟨_, rfl⟩
      have HRS := Lib.hid hrs
      have hst : ∀ u : Value, (Value.slice A n k :: Value.int .i64 (t.2.p : Int) :: Value.int .i64 t.2.e :: zs).set 53 u = Value.slice A n k :: Value.int .i64 (t.2.p : Int) :: Value.int .i64 t.2.e :: zs.set 50 u := fun _ => rfl
      have HST := Lib.hid (hst (.string ⟨t.1.toArray⟩))
      rw [← hrs] at HST
      clear hst hrs
      obtain ⟨tx, htx⟩ : ∃ x : ByteArray, x = ⟨t.1.toArray⟩ := ⟨_, rfl⟩
      have HTX := Lib.hid htx
      rw [← htx] at HST HRS ⊢
      clear htx
      obtain ⟨cc, hcc⟩ : ∃ x, x = Value.slice A n k :: Value.int .i64 (t.2.p : Int) :: Value.int .i64 t.2.e :: zs := ⟨_, rfl⟩
      have hcl : 53 < cc.length := by rw [hcc]; simp only [List.length_cons, HZ.out]; omega
      have HCL := Lib.hid hcl
      have PC : Hid (Blk w5 g 153 cc) := by rw [hcc]; exact P5.out
      rw [← hcc] at HST
      clear hcc hcl P5
      go_wp2_with (first
        | ((with_reducible show wpList _ _ _ (⟨none, .store _ (.tmp 37) _, _, _, _, _⟩ :: _) _ _); refine wpList_store_fld rfl _ (.tmp 37) (.tmp 35) rfl g 53 rfl _ cc (.string tx) rfl PC HCL (by kernel_rfl) rfl ?_; intro w6 P06 O6 q6; rw [HST.out] at P06; have P6 : Hid (PRd w6 g 153 A n k t.2 rs) := P06; have Z6 := Lib.hid (Z5.out.only O6.out hng); have B6 : Hid (Below w.heap.size w w6) := below_only B5.out O6.out hwg)
        | fail)
      clear P06 O6 q6 PC Z5 B5
      refine (CE.out w6 g _ P6.out).mono ?_
      rintro e w99 ⟨rfl, kk, rfl⟩
      have Z99 := Lib.hid (Blk.drewN Z6.out kk)
      have P99 := Lib.hid (Blk.drewN P6.out kk)
      have B99 : Hid (Below w.heap.size w (w6.drewN kk)) := step B6.out (drewed _ kk)
      obtain ⟨wq, hwq⟩ : ∃ wq, wq = w6.drewN kk := ⟨_, rfl⟩
      rw [← hwq] at Z99 P99 B99 ⊢
      clear hwq P6 Z6 B6
      go_wp2_with (first
        | ((with_reducible show wpList _ _ _ (⟨some 48, _, _, _, _, _⟩ :: _) _ _); refine wpList_build_none rfl _ rfl zs BZ ?_)
        | ((with_reducible show wpList _ _ _ (⟨none, .store _ (.tmp 4) _, _, _, _, _⟩ :: _) _ _); refine wpList_store_blk rfl _ (.tmp 4) (.tmp 48) rfl h rfl _ zs zs rfl Z99 69 size_ask HZ HZ HZ1 ?_; intro w10 K10 O10 hg10)
        | fail)
      refine bodyPost_ret (v := .tuple #[.agg zs.toArray, .int .i64 er]) ?_ rfl (HQ.out _ _ rfl (below_only B99.out O10.out hwh))
      exact results_cell_two rfl _ _ h _ _ (0, 0) _ rfl K10.out Tryz.underlying34 rfl (by rw [size_ask]; have := HZ.out; simp [this]) rfl
    have HQ : Hid (∀ vd e w', e = .returned (.tuple #[.agg (acells vd (.slice none 0 0) (.slice none 0 0) ({ zeroAsk with share := ⟨(prdText xs rd0).1.toArray⟩ })).toArray, .int .i64 0]) → AskIs w' w'.heap.size (acells vd (.slice none 0 0) (.slice none 0 0) ({ zeroAsk with share := ⟨(prdText xs rd0).1.toArray⟩ })) ({ zeroAsk with share := ⟨(prdText xs rd0).1.toArray⟩ }) → Below w.heap.size w w' → (∀ b off s n c, vd = .slice (some ⟨b, off, s⟩) n c → w.heap.size ≤ b) → PGAskPostU w 3 xs e w') := by
      intro vd e w' h1 h2 h3 h9
      have h4 : gaskOf 3 xs = { zeroAsk with share := ⟨(prdText xs rd0).1.toArray⟩ } := by unfold gaskOf; rw [hge, he, if_pos rfl]; unfold gaskP; rw [if_neg (by decide), if_neg (by decide), if_pos rfl]
      unfold PGAskPostU
      rw [h4, hge, he]
      exact ⟨vd, h1, h2, h3, h9⟩
    obtain ⟨t, ht⟩ : ∃ x, x = prdText xs rd0 := ⟨_, rfl⟩
    rw [← ht] at CX p2 CE he hre HQ
    clear ht
    rw [he] at CE
    have hre0 := hre he
    have kw : ({ zeroAsk with share := ⟨t.1.toArray⟩ } : AskV).ok := ⟨zeroAsk_ok.dial, zeroAsk_ok.glen, zeroAsk_ok.gbyte, zeroAsk_ok.plen, zeroAsk_ok.pbyte, zeroAsk_ok.acc, zeroAsk_ok.shr, zeroAsk_ok.way, zeroAsk_ok.opt, zeroAsk_ok.lev, zeroAsk_ok.dur, zeroAsk_ok.file, zeroAsk_ok.at_, zeroAsk_ok.n, zeroAsk_ok.data, zeroAsk_ok.locks, zeroAsk_ok.most, zeroAsk_ok.cls, zeroAsk_ok.siz⟩
    clear HE hx hk hge hre he hre0
    go_enter Tryz.func104, Tryz.ntmps104
    go_wp2_with (first
      | ((with_reducible show wpList _ _ _ (⟨some 4, _, _, _, _, _⟩ :: _) _ _); refine wpList_alloc_blk rfl _ rfl zs _ ZH ?_; intro h w1 hg1 hg2 Z1 L1)
      | ((with_reducible show wpList _ _ _ (⟨some 9, _, _, _, _, _⟩ :: _) _ _); refine wpList_build_blk rfl _ _ rfl (.slice A n k :: .int .i64 0 :: .int .i64 0 :: []) (by refine Eq.trans ?_ B1; kernel_rfl) ?_)
      | ((with_reducible show wpList _ _ _ (⟨some 10, _, _, _, _, _⟩ :: _) _ _); refine wpList_build_blk rfl _ _ rfl (.slice A n k :: .int .i64 0 :: .int .i64 0 :: zs) (by refine Eq.trans ?_ B2; kernel_rfl) ?_)
      | ((with_reducible show wpList _ _ _ (⟨some 6, _, _, _, _, _⟩ :: _) _ _); refine wpList_alloc_blk rfl _ rfl (.slice none 0 0 :: .int .i64 0 :: .int .i64 0 :: zs) _ ZB ?_; intro g w2 hg3 hg4 P02 L2)
      | ((with_reducible show wpList _ _ _ (⟨none, .store _ (.tmp 6) _, _, _, _, _⟩ :: _) _ _); refine wpList_store_blk rfl _ (.tmp 6) (.tmp 10) rfl g rfl _ (.slice none 0 0 :: .int .i64 0 :: .int .i64 0 :: zs) (.slice A n k :: .int .i64 0 :: .int .i64 0 :: zs) rfl P02 72 size_askB HZB HNB HOB ?_; intro w3 P03 O3 hg5; have hsz := L1.out.size; have hng : h ≠ g := (by omega); have Z3 := Lib.hid ((Z1.out.over L2.out).only O3.out hng); have B3 : Hid (Below w.heap.size w w3) := below_only (step L1.out L2.out) O3.out (by omega); have P3 : Hid (PRd w3 g 153 A n k rd0 zs) := P03; have hwg : w.heap.size ≤ g := (by omega); have hwh : w.heap.size ≤ h := hg1)
      | fail)
    refine (CX.out w3 g _ P3.out ((HX.out.below B3.out).mono B3.out.size)).mono ?_
    rintro e w5 ⟨rfl, hP, hS⟩
    have P5 := Lib.hid hP
    have Z5 := Lib.hid (Z3.out.save hS hng)
    have B5 := Lib.hid (B3.out.trans (hS.below hwg B3.out.size))
    clear hP hS P3 Z3 B3
    obtain ⟨rs, hrs⟩ : ∃ rs, rs = zs.set 50 (.string ⟨t.1.toArray⟩) := ⟨_, rfl⟩
    have HRS := Lib.hid hrs
    have hst : ∀ u : Value, (Value.slice A n k :: Value.int .i64 (t.2.p : Int) :: Value.int .i64 t.2.e :: zs).set 53 u = Value.slice A n k :: Value.int .i64 (t.2.p : Int) :: Value.int .i64 t.2.e :: zs.set 50 u := fun _ => rfl
    have HST := Lib.hid (hst (.string ⟨t.1.toArray⟩))
    rw [← hrs] at HST
    clear hst hrs
    obtain ⟨tx, htx⟩ : ∃ x : ByteArray, x = ⟨t.1.toArray⟩ := ⟨_, rfl⟩
    have HTX := Lib.hid htx
    rw [← htx] at HST HRS ⊢
    clear htx
    obtain ⟨cc, hcc⟩ : ∃ x, x = Value.slice A n k :: Value.int .i64 (t.2.p : Int) :: Value.int .i64 t.2.e :: zs := ⟨_, rfl⟩
    have hcl : 53 < cc.length := by rw [hcc]; simp only [List.length_cons, HZ.out]; omega
    have HCL := Lib.hid hcl
    have PC : Hid (Blk w5 g 153 cc) := by rw [hcc]; exact P5.out
    rw [← hcc] at HST
    clear hcc hcl P5
    go_wp2_with (first
      | ((with_reducible show wpList _ _ _ (⟨none, .store _ (.tmp 37) _, _, _, _, _⟩ :: _) _ _); refine wpList_store_fld rfl _ (.tmp 37) (.tmp 35) rfl g 53 rfl _ cc (.string tx) rfl PC HCL (by kernel_rfl) rfl ?_; intro w6 P06 O6 q6; rw [HST.out] at P06; have P6 : Hid (PRd w6 g 153 A n k t.2 rs) := P06; have Z6 := Lib.hid (Z5.out.only O6.out hng); have B6 : Hid (Below w.heap.size w w6) := below_only B5.out O6.out hwg)
      | fail)
    clear P06 O6 q6 PC Z5 B5
    have HEQ : Hid (rs = acells (.slice none 0 0) (.slice none 0 0) (.slice none 0 0) ({ zeroAsk with share := ⟨t.1.toArray⟩ })) := by
      show _ = _
      rw [HRS.out, HZS.out, HTX.out]
      exact acells_share zeroAsk_ok _
    have HRL : Hid (rs.length = 69) := by show _ = _; rw [HEQ.out]; exact acells_len kw
    have HR1 : Hid (∀ v ∈ rs, v.oneCell' = true) := by rw [HEQ.out]; exact acells_one rfl rfl rfl
    refine (CE.out w6 g _ P6.out).mono ?_
    rintro e w99 ⟨rfl, kk, rfl⟩
    have Z99 := Lib.hid (Blk.drewN Z6.out kk)
    have P99 := Lib.hid (Blk.drewN P6.out kk)
    have B99 : Hid (Below w.heap.size w (w6.drewN kk)) := step B6.out (drewed _ kk)
    obtain ⟨wq, hwq⟩ : ∃ wq, wq = w6.drewN kk := ⟨_, rfl⟩
    rw [← hwq] at Z99 P99 B99 ⊢
    clear hwq P6 Z6 B6
    have hrg : Hid (wq.rangeAt g 3 rs) := Blk.range P99.out 3
    go_wp2_with (first
      | ((with_reducible show wpList _ _ _ (⟨some 51, _, _, _, _, _⟩ :: _) _ _); refine wpList_load_midu rfl _ (.tmp 50) rfl g 3 rfl rs _ hrg Tryz.underlying34 rfl 69 size_ask HRL ?_)
      | ((with_reducible show wpList _ _ _ (⟨none, .store _ (.tmp 4) _, _, _, _, _⟩ :: _) _ _); refine wpList_store_blk rfl _ (.tmp 4) (.tmp 51) rfl h rfl _ zs rs rfl Z99 69 size_ask HZ HRL HR1 ?_; intro w10 K10 O10 hg10)
      | fail)
    refine bodyPost_ret (v := .tuple #[.agg rs.toArray, .int .i64 0]) ?_ rfl ?_
    · exact results_cell_two rfl _ _ h _ _ (0, 0) _ rfl K10.out Tryz.underlying34 rfl (by rw [size_ask]; have := HRL.out; simp [this]) rfl
    · exact HQ.out (.slice none 0 0) _ w10 (congrArg (fun r : List Value => Ending.returned (.tuple #[.agg r.toArray, .int .i64 0])) HEQ.out) ⟨none, 0, 0, none, 0, 0, none, 0, 0, rfl, HoldsF.nil _ _ _, Holds.nil _ _, HoldsS.nil _ _ _ _⟩ (below_only B99.out O10.out hwh) (fun _ _ _ _ _ h => by cases h)
  have hcc : c = 2 ∨ c = 4 ∨ c = 13 := by unfold knownT at hk; simp at hk; omega
  have hge : gaskErr c xs = rdEnd xs (rdZ xs 4 rd0) := by unfold gaskErr gaskP; rw [if_pos hk, if_neg (by omega), if_neg (by omega), if_neg (by omega)]
  have hgo : rdEnd xs (rdZ xs 4 rd0) = 0 → gaskOf c xs = zeroAsk := fun he => by unfold gaskOf; rw [hge, he, if_pos rfl]; unfold gaskP; rw [if_neg (by omega), if_neg (by omega), if_neg (by omega)]
  obtain ⟨cq, hcq⟩ : ∃ x, x = c := ⟨_, rfl⟩
  rw [show PGAskPostU w c xs = PGAskPostU w cq xs by rw [hcq]]
  rw [← hcq] at HE hk hge hgo
  clear hcq hc h0 h1 h3
  rcases hcc with rfl | rfl | rfl
  all_goals
    have p0 : rd0.p ≤ n := Nat.zero_le _
    have p1 : (rdZ xs 4 rd0).p ≤ n := rdZ_place hl p0
    have C1 : Hid (∀ (w' : World) (g : Nat) (rest : List Value), PRd w' g 153 A n k rd0 rest → Holds w' w'.heap.size A n k xs → Calls Tryz.prog 145 #[.pointer (some ⟨g, 0, none⟩), .int .i64 4] w' (PEndPost w' g 153 A n k (rdZ xs 4 rd0) rest)) := fun w' g rest h1 h2 => noughts_any w' g 153 A n k xs _ 4 rest h1 h2 p0 (by decide)
    have CE : Hid (∀ (w' : World) (g : Nat) (rest : List Value), PRd w' g 153 A n k (rdZ xs 4 rd0) rest → Calls Tryz.prog 146 #[.pointer (some ⟨g, 0, none⟩)] w' fun e w2 => e = .returned (.int .i64 (rdEnd xs (rdZ xs 4 rd0))) ∧ ∃ j, w'.drewN j = w2) := fun w' g rest h1 => rend_any w' g 153 A n k xs _ rest h1 hl hrm p1
    have hre : rdEnd xs (rdZ xs 4 rd0) = 0 → (rdZ xs 4 rd0).e = 0 := rdEnd_zero
    by_cases he : rdEnd xs (rdZ xs 4 rd0) = 0
    rotate_left
    · have HQ := Lib.hid (HE.out _ hge he)
      have hne : (rdEnd xs (rdZ xs 4 rd0) != 0) = true := by simpa using he
      obtain ⟨z, hz⟩ : ∃ x, x = rdZ xs 4 rd0 := ⟨_, rfl⟩
      rw [← hz] at C1 p1 CE he hre HQ hne
      clear hz
      obtain ⟨er, her⟩ : ∃ x, x = rdEnd xs z := ⟨_, rfl⟩
      rw [← her] at CE he HQ hne hre
      clear her he hre
      clear HE hx hk hge
      go_enter Tryz.func104, Tryz.ntmps104
      go_wp2_with (first
        | ((with_reducible show wpList _ _ _ (⟨some 4, _, _, _, _, _⟩ :: _) _ _); refine wpList_alloc_blk rfl _ rfl zs _ ZH ?_; intro h w1 hg1 hg2 Z1 L1)
        | ((with_reducible show wpList _ _ _ (⟨some 9, _, _, _, _, _⟩ :: _) _ _); refine wpList_build_blk rfl _ _ rfl (.slice A n k :: .int .i64 0 :: .int .i64 0 :: []) (by refine Eq.trans ?_ B1; kernel_rfl) ?_)
        | ((with_reducible show wpList _ _ _ (⟨some 10, _, _, _, _, _⟩ :: _) _ _); refine wpList_build_blk rfl _ _ rfl (.slice A n k :: .int .i64 0 :: .int .i64 0 :: zs) (by refine Eq.trans ?_ B2; kernel_rfl) ?_)
        | ((with_reducible show wpList _ _ _ (⟨some 6, _, _, _, _, _⟩ :: _) _ _); refine wpList_alloc_blk rfl _ rfl (.slice none 0 0 :: .int .i64 0 :: .int .i64 0 :: zs) _ ZB ?_; intro g w2 hg3 hg4 P02 L2)
        | ((with_reducible show wpList _ _ _ (⟨none, .store _ (.tmp 6) _, _, _, _, _⟩ :: _) _ _); refine wpList_store_blk rfl _ (.tmp 6) (.tmp 10) rfl g rfl _ (.slice none 0 0 :: .int .i64 0 :: .int .i64 0 :: zs) (.slice A n k :: .int .i64 0 :: .int .i64 0 :: zs) rfl P02 72 size_askB HZB HNB HOB ?_; intro w3 P03 O3 hg5; have hsz := L1.out.size; have hng : h ≠ g := (by omega); have Z3 := Lib.hid ((Z1.out.over L2.out).only O3.out hng); have B3 : Hid (Below w.heap.size w w3) := below_only (step L1.out L2.out) O3.out (by omega); have P3 : Hid (PRd w3 g 153 A n k rd0 zs) := P03; have hwg : w.heap.size ≤ g := (by omega); have hwh : w.heap.size ≤ h := hg1)
        | fail)
      refine (C1.out w3 g _ P3.out ((HX.out.below B3.out).mono B3.out.size)).mono ?_
      rintro e w4 ⟨rfl, hP, hS⟩
      have P4 := Lib.hid hP
      have Z4 := Lib.hid (Z3.out.save hS hng)
      have B4 := Lib.hid (B3.out.trans (hS.below hwg B3.out.size))
      clear hP hS P3 Z3 B3
      obtain ⟨rs, hrs⟩ : ∃ rs, rs = zs := ⟨_, rfl⟩
      have HRS := Lib.hid hrs
      have P4' : Hid (PRd w4 g 153 A n k z rs) := by rw [hrs]; exact P4.out
      clear hrs P4
      have P4 := P4'
      clear P4'
      go_wp2_with fail
      refine (CE.out w4 g _ P4.out).mono ?_
      rintro e w99 ⟨rfl, kk, rfl⟩
      have Z99 := Lib.hid (Blk.drewN Z4.out kk)
      have P99 := Lib.hid (Blk.drewN P4.out kk)
      have B99 : Hid (Below w.heap.size w (w4.drewN kk)) := step B4.out (drewed _ kk)
      obtain ⟨wq, hwq⟩ : ∃ wq, wq = w4.drewN kk := ⟨_, rfl⟩
      rw [← hwq] at Z99 P99 B99 ⊢
      clear hwq P4 Z4 B4
      go_wp2_with (first
        | ((with_reducible show wpList _ _ _ (⟨some 48, _, _, _, _, _⟩ :: _) _ _); refine wpList_build_none rfl _ rfl zs BZ ?_)
        | ((with_reducible show wpList _ _ _ (⟨none, .store _ (.tmp 4) _, _, _, _, _⟩ :: _) _ _); refine wpList_store_blk rfl _ (.tmp 4) (.tmp 48) rfl h rfl _ zs zs rfl Z99 69 size_ask HZ HZ HZ1 ?_; intro w10 K10 O10 hg10)
        | fail)
      refine bodyPost_ret (v := .tuple #[.agg zs.toArray, .int .i64 er]) ?_ rfl (HQ.out _ _ rfl (below_only B99.out O10.out hwh))
      exact results_cell_two rfl _ _ h _ _ (0, 0) _ rfl K10.out Tryz.underlying34 rfl (by rw [size_ask]; have := HZ.out; simp [this]) rfl
    have HQ : Hid (∀ vd e w', e = .returned (.tuple #[.agg (acells vd (.slice none 0 0) (.slice none 0 0) (zeroAsk)).toArray, .int .i64 0]) → AskIs w' w'.heap.size (acells vd (.slice none 0 0) (.slice none 0 0) (zeroAsk)) (zeroAsk) → Below w.heap.size w w' → (∀ b off s n c, vd = .slice (some ⟨b, off, s⟩) n c → w.heap.size ≤ b) → PGAskPostU w cq xs e w') := by
      intro vd e w' h1 h2 h3 h9
      have h4 := hgo he
      unfold PGAskPostU
      rw [h4, hge, he]
      exact ⟨vd, h1, h2, h3, h9⟩
    obtain ⟨z, hz⟩ : ∃ x, x = rdZ xs 4 rd0 := ⟨_, rfl⟩
    rw [← hz] at C1 p1 CE he hre
    clear hz
    rw [he] at CE
    have hre0 := hre he
    clear HE hx hk hge hre he hre0
    go_enter Tryz.func104, Tryz.ntmps104
    go_wp2_with (first
      | ((with_reducible show wpList _ _ _ (⟨some 4, _, _, _, _, _⟩ :: _) _ _); refine wpList_alloc_blk rfl _ rfl zs _ ZH ?_; intro h w1 hg1 hg2 Z1 L1)
      | ((with_reducible show wpList _ _ _ (⟨some 9, _, _, _, _, _⟩ :: _) _ _); refine wpList_build_blk rfl _ _ rfl (.slice A n k :: .int .i64 0 :: .int .i64 0 :: []) (by refine Eq.trans ?_ B1; kernel_rfl) ?_)
      | ((with_reducible show wpList _ _ _ (⟨some 10, _, _, _, _, _⟩ :: _) _ _); refine wpList_build_blk rfl _ _ rfl (.slice A n k :: .int .i64 0 :: .int .i64 0 :: zs) (by refine Eq.trans ?_ B2; kernel_rfl) ?_)
      | ((with_reducible show wpList _ _ _ (⟨some 6, _, _, _, _, _⟩ :: _) _ _); refine wpList_alloc_blk rfl _ rfl (.slice none 0 0 :: .int .i64 0 :: .int .i64 0 :: zs) _ ZB ?_; intro g w2 hg3 hg4 P02 L2)
      | ((with_reducible show wpList _ _ _ (⟨none, .store _ (.tmp 6) _, _, _, _, _⟩ :: _) _ _); refine wpList_store_blk rfl _ (.tmp 6) (.tmp 10) rfl g rfl _ (.slice none 0 0 :: .int .i64 0 :: .int .i64 0 :: zs) (.slice A n k :: .int .i64 0 :: .int .i64 0 :: zs) rfl P02 72 size_askB HZB HNB HOB ?_; intro w3 P03 O3 hg5; have hsz := L1.out.size; have hng : h ≠ g := (by omega); have Z3 := Lib.hid ((Z1.out.over L2.out).only O3.out hng); have B3 : Hid (Below w.heap.size w w3) := below_only (step L1.out L2.out) O3.out (by omega); have P3 : Hid (PRd w3 g 153 A n k rd0 zs) := P03; have hwg : w.heap.size ≤ g := (by omega); have hwh : w.heap.size ≤ h := hg1)
      | fail)
    refine (C1.out w3 g _ P3.out ((HX.out.below B3.out).mono B3.out.size)).mono ?_
    rintro e w4 ⟨rfl, hP, hS⟩
    have P4 := Lib.hid hP
    have Z4 := Lib.hid (Z3.out.save hS hng)
    have B4 := Lib.hid (B3.out.trans (hS.below hwg B3.out.size))
    clear hP hS P3 Z3 B3
    obtain ⟨rs, hrs⟩ : ∃ rs, rs = zs := ⟨_, rfl⟩
    have HRS := Lib.hid hrs
    have P4' : Hid (PRd w4 g 153 A n k z rs) := by rw [hrs]; exact P4.out
    clear hrs P4
    have P4 := P4'
    clear P4'
    go_wp2_with fail
    have HEQ : Hid (rs = acells (.slice none 0 0) (.slice none 0 0) (.slice none 0 0) (zeroAsk)) := by
      show _ = _
      rw [HRS.out, HZS.out]
    have HRL : Hid (rs.length = 69) := by show _ = _; rw [HEQ.out]; exact acells_len zeroAsk_ok
    have HR1 : Hid (∀ v ∈ rs, v.oneCell' = true) := by rw [HEQ.out]; exact acells_one rfl rfl rfl
    refine (CE.out w4 g _ P4.out).mono ?_
    rintro e w99 ⟨rfl, kk, rfl⟩
    have Z99 := Lib.hid (Blk.drewN Z4.out kk)
    have P99 := Lib.hid (Blk.drewN P4.out kk)
    have B99 : Hid (Below w.heap.size w (w4.drewN kk)) := step B4.out (drewed _ kk)
    obtain ⟨wq, hwq⟩ : ∃ wq, wq = w4.drewN kk := ⟨_, rfl⟩
    rw [← hwq] at Z99 P99 B99 ⊢
    clear hwq P4 Z4 B4
    have hrg : Hid (wq.rangeAt g 3 rs) := Blk.range P99.out 3
    go_wp2_with (first
      | ((with_reducible show wpList _ _ _ (⟨some 51, _, _, _, _, _⟩ :: _) _ _); refine wpList_load_midu rfl _ (.tmp 50) rfl g 3 rfl rs _ hrg Tryz.underlying34 rfl 69 size_ask HRL ?_)
      | ((with_reducible show wpList _ _ _ (⟨none, .store _ (.tmp 4) _, _, _, _, _⟩ :: _) _ _); refine wpList_store_blk rfl _ (.tmp 4) (.tmp 51) rfl h rfl _ zs rs rfl Z99 69 size_ask HZ HRL HR1 ?_; intro w10 K10 O10 hg10)
      | fail)
    refine bodyPost_ret (v := .tuple #[.agg rs.toArray, .int .i64 0]) ?_ rfl ?_
    · exact results_cell_two rfl _ _ h _ _ (0, 0) _ rfl K10.out Tryz.underlying34 rfl (by rw [size_ask]; have := HRL.out; simp [this]) rfl
    · exact HQ.out (.slice none 0 0) _ w10 (congrArg (fun r : List Value => Ending.returned (.tuple #[.agg r.toArray, .int .i64 0])) HEQ.out) ⟨none, 0, 0, none, 0, 0, none, 0, 0, rfl, HoldsF.nil _ _ _, Holds.nil _ _, HoldsS.nil _ _ _ _⟩ (below_only B99.out O10.out hwh) (fun _ _ _ _ _ h => by cases h)
theorem GetAsk_any (w : World) (c : Int) (A : Option Addr) (n k : Nat) (xs : List Int) (hc : 0 ≤ c ∧ c ≤ 65535) (hx : Holds w w.heap.size A n k xs) :
    Calls Tryz.prog 104 #[.int .u16 c, .slice A n k] w (PGAskPost w c xs) := (GetAskU_any w c A n k xs hc hx).mono fun e w' ⟨vd, h1, h2, h3, _⟩ => ⟨vd, h1, h2, h3⟩
end Go.Proofs.YtpodpmckdiijhaaGreatDoor

namespace Go.Proofs.YtpodpmckdiijhaaGreatDoor
set_option linter.all false
set_option linter.unusedVariables false
set_option maxRecDepth 100000
def knownF (c : Int) : Bool := decide (5 ≤ c) && decide (c ≤ 10)
/-- a lock's twenty bytes -/
def lockB (l : LockV) : List Int := le l.at_ 8 ++ (le l.n 8 ++ (le l.md 2 ++ List.replicate 2 0))
def locksB : List LockV → List Int
  | [] => []
  | l :: r => lockB l ++ locksB r
/-- an Ask without what its command's row names -/
def besideF (c : Int) (a : AskV) : AskV :=
  if c = 5 then { a with acc := 0, shr := 0, way := 0, opt := 0, lev := 0, dur := 0, name := .empty, file := 0 }
  else if c = 8 then { a with at_ := 0, n := 0, file := 0 }
  else if c = 9 then { a with at_ := 0, data := [], file := 0 }
  else if c = 10 then { a with locks := [], file := 0 }
  else { a with file := 0 }
def shut (ls : List LockV) : Bool := ls.all (fun l => l.op == 0)
def nameF (c : Int) (a : AskV) : Bool := knownF c && (decide (besideF c a = zeroAsk) && shut a.locks)
def fpErr (c : Int) (a : AskV) : Int :=
  if nameF c a = true then (if a.data.length ≤ 32768 ∧ a.locks.length ≤ 16 then (if c = 5 then ptextErr a.name.data.toList else 0) else 3) else 2
def bodyF (c : Int) (a : AskV) : List Int :=
  if c = 5 then le a.acc 4 ++ (le a.shr 4 ++ (le a.way 4 ++ (le a.opt 4 ++ (le a.lev 1 ++ (le a.dur 1 ++ (List.replicate 2 0 ++ (le a.file 8 ++ ptextOf a.name.data.toList)))))))
  else if c = 8 then le a.file 8 ++ (le a.at_ 8 ++ le a.n 4)
  else if c = 9 then le a.file 8 ++ (le a.at_ 8 ++ (le a.data.length 4 ++ a.data))
  else if c = 10 then le a.file 8 ++ (le a.locks.length 2 ++ (List.replicate 2 0 ++ locksB a.locks))
  else le a.file 8
def fpOf (c : Int) (a : AskV) : List Int := if fpErr c a = 0 then bodyF c a else []
def besideFS (c : Int) (s : SayV) : SayV :=
  if c = 5 then { s with lev := 0, dur := 0, made := 0, file := 0, siz := 0, kind := 0 }
  else if c = 8 then { s with data := [] }
  else if c = 9 then { s with n := 0 }
  else s
def nameFS (c : Int) (s : SayV) : Bool := knownF c && decide (besideFS c s = zeroSay)
def fsErr (c : Int) (s : SayV) : Int := if nameFS c s = true ∧ s.made ≤ 2 ∧ s.kind ≤ 2 then (if s.data.length ≤ 32768 then 0 else 3) else 2
def bodyFS (c : Int) (s : SayV) : List Int :=
  if c = 5 then le s.lev 1 ++ (le s.dur 1 ++ (le s.made 2 ++ (le s.file 8 ++ (le s.siz 8 ++ (le s.kind 2 ++ List.replicate 2 0)))))
  else if c = 8 then le s.data.length 4 ++ s.data
  else if c = 9 then le s.n 4
  else List.replicate 4 0
def fsOf (c : Int) (s : SayV) : List Int := if fsErr c s = 0 then bodyFS c s else []
/-! ### reading -/
def rdUp (xs : List Int) (most : Int) (r : Rd) : Int × Rd := if (rdN xs 2 r).2.e = 0 ∧ most < (rdN xs 2 r).1 then ((rdN xs 2 r).1, ⟨(rdN xs 2 r).2.p, 5⟩) else rdN xs 2 r
def rdData (xs : List Int) (r : Rd) : List Int × Rd := rdPart xs (rdMost xs 4 32768 3 r).1.toNat (rdMost xs 4 32768 3 r).2
def rdLock (xs : List Int) (r : Rd) : LockV × Rd :=
  (⟨0, (rdN xs 8 r).1, (rdN xs 8 (rdN xs 8 r).2).1, (rdN xs 2 (rdN xs 8 (rdN xs 8 r).2).2).1⟩, rdZ xs 2 (rdN xs 2 (rdN xs 8 (rdN xs 8 r).2).2).2)
/-- k locks: as a loop that never ends early -/
def rdLocks (xs : List Int) (r : Rd) : Nat → List LockV × Rd
  | 0 => ([], r)
  | k + 1 => ((rdLocks xs r k).1 ++ [(rdLock xs (rdLocks xs r k).2).1], (rdLock xs (rdLocks xs r k).2).2)
def rdAll (xs : List Int) (r : Rd) : List LockV × Rd := rdLocks xs (rdZ xs 2 (rdMost xs 2 16 3 r).2) (rdMost xs 2 16 3 r).1.toNat
/-- the nine steps of a Create -/
def c1 (xs : List Int) := rdN xs 4 rd0
def c2 (xs : List Int) := rdN xs 4 (c1 xs).2
def c3 (xs : List Int) := rdN xs 4 (c2 xs).2
def c4 (xs : List Int) := rdN xs 4 (c3 xs).2
def c5 (xs : List Int) := rdN xs 1 (c4 xs).2
def c6 (xs : List Int) := rdN xs 1 (c5 xs).2
def c7 (xs : List Int) := rdZ xs 2 (c6 xs).2
def c8 (xs : List Int) := rdN xs 8 (c7 xs)
def c9 (xs : List Int) := rdText xs (c8 xs).2
/-- of the others: File, At, N, Data, Locks -/
def o1 (xs : List Int) := rdN xs 8 rd0
def o2 (xs : List Int) := rdN xs 8 (o1 xs).2
def o3 (xs : List Int) := rdN xs 4 (o2 xs).2
def o4 (xs : List Int) := rdData xs (o2 xs).2
def o5 (xs : List Int) := rdAll xs (o1 xs).2
def fgP (c : Int) (xs : List Int) : AskV × Rd :=
  if c = 5 then ({ zeroAsk with acc := (c1 xs).1, shr := (c2 xs).1, way := (c3 xs).1, opt := (c4 xs).1, lev := (c5 xs).1, dur := (c6 xs).1, file := (c8 xs).1, name := ⟨(c9 xs).1.toArray⟩ }, (c9 xs).2)
  else if c = 8 then ({ zeroAsk with file := (o1 xs).1, at_ := (o2 xs).1, n := (o3 xs).1 }, (o3 xs).2)
  else if c = 9 then ({ zeroAsk with file := (o1 xs).1, at_ := (o2 xs).1, data := (o4 xs).1 }, (o4 xs).2)
  else if c = 10 then ({ zeroAsk with file := (o1 xs).1, locks := (o5 xs).1 }, (o5 xs).2)
  else ({ zeroAsk with file := (o1 xs).1 }, (o1 xs).2)
def fgErr (c : Int) (xs : List Int) : Int := if knownF c = true then rdEnd xs (fgP c xs).2 else 2
def fgOf (c : Int) (xs : List Int) : AskV := if fgErr c xs = 0 then (fgP c xs).1 else zeroAsk
/-- the steps of what is said -/
def s1 (xs : List Int) := rdN xs 1 rd0
def s2 (xs : List Int) := rdN xs 1 (s1 xs).2
def s3 (xs : List Int) := rdUp xs 2 (s2 xs).2
def s4 (xs : List Int) := rdN xs 8 (s3 xs).2
def s5 (xs : List Int) := rdN xs 8 (s4 xs).2
def s6 (xs : List Int) := rdUp xs 2 (s5 xs).2
def s7 (xs : List Int) := rdZ xs 2 (s6 xs).2
def s8 (xs : List Int) := rdData xs rd0
def s9 (xs : List Int) := rdN xs 4 rd0
def sgP (c : Int) (xs : List Int) : SayV × Rd :=
  if c = 5 then ({ zeroSay with lev := (s1 xs).1, dur := (s2 xs).1, made := (s3 xs).1, file := (s4 xs).1, siz := (s5 xs).1, kind := (s6 xs).1 }, s7 xs)
  else if c = 8 then ({ zeroSay with data := (s8 xs).1 }, (s8 xs).2)
  else if c = 9 then ({ zeroSay with n := (s9 xs).1 }, (s9 xs).2)
  else (zeroSay, rdZ xs 4 rd0)
def sgErr (c : Int) (xs : List Int) : Int := if knownF c = true then rdEnd xs (sgP c xs).2 else 2
def sgOf (c : Int) (xs : List Int) : SayV := if sgErr c xs = 0 then (sgP c xs).1 else zeroSay
/-! ### their bounds -/
theorem rdN_lt {xs : List Int} (hx : Bytes xs) (s : Nat) (r : Rd) (M : Int) (hM : (256 : Int) ^ s = M) (h1 : 1 ≤ M) : 0 ≤ (rdN xs s r).1 ∧ (rdN xs s r).1 ≤ M - 1 := by
  unfold rdN
  split
  · split
    · exact ⟨Int.le_refl 0, by show (0 : Int) ≤ M - 1; omega⟩
    · exact numAt_bounds xs hx r.p s M hM
  · exact ⟨Int.le_refl 0, by show (0 : Int) ≤ M - 1; omega⟩
end Go.Proofs.YtpodpmckdiijhaaGreatDoor

namespace Go.Proofs.YtpodpmckdiijhaaGreatDoor
set_option linter.all false
open Go.RowKit
set_option maxRecDepth 100000
/-- what is left behind k more -/
theorem Holds.rest {w : World} {B : Nat} {A : Option Addr} {n c k : Nat} {xs : List Int} (h : Holds w B A n c xs) (hk : k ≤ n) : Holds w B (if c = k then A else A.map (·.add k)) (n - k) (c - k) (xs.drop k) := by
  have hl := h.len
  have hf := h.fit
  refine ⟨by simp; omega, by omega, by have := h.room; omega, h.byte.drop k, fun hA => ?_, fun hn => ?_⟩
  · by_cases hc : c = k
    · omega
    · rw [if_neg hc] at hA
      have : A = none := by cases A <;> simp_all
      have := h.bare this
      omega
  · obtain ⟨b, off, rfl, hb, hcl⟩ := h.cells (by omega)
    rw [if_neg (by omega)]
    refine ⟨b, off + k, ?_, hb, fun i hi => ?_⟩
    · by_cases hk0 : k = 0
      · subst hk0; simp [Addr.add]
      · simp [Addr.add, hk0]
    · rw [Nat.add_assoc, hcl (k + i) (by omega)]
      simp [List.getD_eq_getElem?_getD, List.getElem?_drop]
theorem Holds.of_lit {w : World} {g : Nat} {T : TypeId} {xs : List Int} (h : Blk w g T (xs.map (Value.int .u8))) (hx : Bytes xs) (hn : xs.length ≤ 1000 := by simp) : Holds w w.heap.size (some ⟨g, 0, none⟩) xs.length xs.length xs :=
  ⟨rfl, Nat.le_refl _, by omega, hx, fun hA => (by cases hA), fun _ => ⟨g, 0, rfl, h.lt, fun i hi => by
    rw [Nat.zero_add, h.cell]
    simp [List.getD_eq_getElem?_getD, hi]⟩⟩
end Go.Proofs.YtpodpmckdiijhaaGreatDoor

namespace Go.Proofs.YtpodpmckdiijhaaGreatDoor
set_option linter.all false
open Go.RowKit
set_option linter.unusedVariables false
set_option maxRecDepth 100000
/-- the program's reader in block g: what is left of the bytes xs (they lie below block B), and the first error -/
def PF (w : World) (g B : Nat) (xs : List Int) (r : Rd) : Prop := r.p ≤ xs.length ∧ B ≤ g ∧ ∃ A n c, Blk w g 165 [.slice A n c, .int .i64 r.e] ∧ Holds w B A n c (xs.drop r.p)
theorem PF.lt {w : World} {g B : Nat} {xs : List Int} {r : Rd} (h : PF w g B xs r) : g < w.heap.size := by
  obtain ⟨_, _, A, n, c, hB, _⟩ := h
  exact hB.lt
theorem PF.only {w w' : World} {g g' B : Nat} {xs : List Int} {r : Rd} (h : PF w g B xs r) (hO : Only g' w w') (hg : g ≠ g') (hb : B ≤ g') : PF w' g B xs r := by
  obtain ⟨h1, h2, A, n, c, hB, hx⟩ := h
  exact ⟨h1, h2, A, n, c, hB.only hO hg, hx.only hO hb⟩
theorem PF.below {w w' : World} {g B : Nat} {xs : List Int} {r : Rd} (h : PF w g B xs r) (hb : Below w.heap.size w w') : PF w' g B xs r := by
  have hlt := h.lt
  obtain ⟨h1, h2, A, n, c, hB, hx⟩ := h
  exact ⟨h1, h2, A, n, c, hB.over hb, hx.below (hb.mono (by omega))⟩
end Go.Proofs.YtpodpmckdiijhaaGreatDoor

namespace Go.Proofs.YtpodpmckdiijhaaGreatDoor
set_option linter.all false
open Go.RowKit
set_option linter.unusedVariables false
set_option maxRecDepth 100000
abbrev OwnB (w : World) (base : Nat) (v : Value) (xs : List Int) : Prop := OwnZ .u8 5 w base v xs
theorem OwnZ.own8 {w : World} {base : Nat} {v : Value} {xs : List Int} (h : OwnZ .u8 5 w base v xs) : Own w base v xs := h.own
theorem OwnZ.holds8 {w : World} {base : Nat} {v : Value} {xs : List Int} (h : OwnZ .u8 5 w base v xs) (hx : Bytes xs) (hn : xs.length ≤ 281474976710656) :
    ∃ A c, v = .slice A xs.length c ∧ Holds w w.heap.size A xs.length c xs := h.own8.holds hx hn
theorem Fresh.ownB {w : World} {base n : Nat} {A : Option Addr} {xs : List Int} (h : Fresh w base A xs) (hl : xs.length = n) (hn : n ≤ 281474976710656) : OwnZ .u8 5 w base (.slice A n n) xs := by
  rcases h with ⟨rfl, rfl⟩ | ⟨g, rfl, hb, hr⟩
  · obtain rfl : n = 0 := hl.symm
    exact OwnZ.nil _ _ _ _
  · refine .inr ⟨g, 0, by rw [hl, Nat.add_zero], hb, by unfold maxLen; omega, ?_⟩
    rw [List.replicate_zero, List.append_nil]
    exact hr
theorem row_zerosB {w : World} {g base n : Nat} (h : Row w g (List.replicate n 0)) (hb : base ≤ g) (hn : n ≤ 281474976710656) : OwnZ .u8 5 w base (.slice (some ⟨g, 0, none⟩) n n) (List.replicate n 0) :=
  Fresh.ownB (.inr ⟨g, rfl, hb, h⟩) (by simp) hn
def PRowPostB (w : World) (xs : List Int) (e : Ending) (w' : World) : Prop := ∃ v, e = .returned (.tuple #[v, .int .i64 (rowErr xs.length)]) ∧ OwnB w' w.heap.size v (rowOf xs) ∧ Below w.heap.size w w'
def PPTextPostB (w : World) (l : List UInt8) (e : Ending) (w' : World) : Prop := ∃ v, e = .returned (.tuple #[v, .int .i64 (ptextErr l)]) ∧ OwnB w' w.heap.size v (ptextOf l) ∧ Below w.heap.size w w'
def OfferPostB (w : World) (a : AskV) (e : Ending) (w' : World) : Prop := ∃ v, e = .returned (.tuple #[v, .int .i64 (if a.dial.length ≤ 16 then 0 else 3)]) ∧ OwnB w' w.heap.size v (if a.dial.length ≤ 16 then offerOf a else []) ∧ Below w.heap.size w w'
def PAskPostB (w : World) (c : Int) (a : AskV) (e : Ending) (w' : World) : Prop := ∃ v, e = .returned (.tuple #[v, .int .i64 (askErrP c a)]) ∧ OwnB w' w.heap.size v (askOfP c a) ∧ Below w.heap.size w w'
def PSayPostB (w : World) (c : Int) (s : SayV) (e : Ending) (w' : World) : Prop := ∃ v, e = .returned (.tuple #[v, .int .i64 (sayErrP c s)]) ∧ OwnB w' w.heap.size v (sayOfP c s) ∧ Below w.heap.size w w'
set_option maxHeartbeats 1000000 in
theorem PutRowB_any (w : World) (A : Option Addr) (n c : Nat) (xs : List Int) (h : Holds w w.heap.size A n c xs) :
    Calls Tryz.prog 195 #[.slice A n c] w (PRowPostB w xs) := by
  have hl := h.len
  have hr := h.room
  have hf := h.fit
  have C1 := Put_any w (n : Int) 2 (by omega) (by omega)
  unfold PutPost at C1
  have hz : IntKind.u64.wrap (n : Int) = n := by rw [IntKind.wrap_u64]; omega
  by_cases hn : n ≤ 65535
  · obtain ⟨e0, e1⟩ := putOf2 n hn
    rw [e0, e1, le_length] at C1
    have HQ : Hid (∀ e w', (∃ v, e = .returned (.tuple #[v, .int .i64 0]) ∧ OwnB w' w.heap.size v (le n 2 ++ xs) ∧ Below w.heap.size w w') → PRowPostB w xs e w') := by
      intro e w' hh
      unfold PRowPostB rowErr rowOf
      rw [hl, if_pos hn, if_pos hn]
      exact hh
    have HLB : Hid (Bytes (le (n : Int) 2)) := le_bytes _ _
    have HLL : Hid ((le (n : Int) 2).length = 2) := le_length _ _
    obtain ⟨ls, hls⟩ : ∃ ls, ls = le (n : Int) 2 := ⟨_, rfl⟩
    rw [← hls] at C1 HQ HLB HLL
    have C1' := Lib.hid C1
    have HX := Lib.hid h
    clear C1 hls e0 e1 h hl
    go_enter Tryz.func195, Tryz.ntmps195
    go_wp2_with fail
    refine C1'.out.mono ?_
    rintro e w1 ⟨A', rfl, hfr, L1⟩
    have H1 := Lib.hid (hfr.holds (n := 2) HLL.out HLB.out (by omega))
    have HX1 := Lib.hid (HX.out.over L1)
    have M1 := Lib.hid L1
    clear hfr L1 C1' HX
    go_wp2_with (first
      | ((with_reducible show wpList _ _ _ (⟨some 17, _, _, _, _, _⟩ :: _) _ _); refine wpList_litParts rfl 2 _ rfl [(A', 2, 2, ls), (A, n, c, xs)] rfl (by kernel_rfl) (List.forall_mem_cons.2 ⟨H1.out, List.forall_mem_cons.2 ⟨HX1.out, fun _ h => by cases h⟩⟩) ?_; intro g2 w2 P2 b2)
      | fail)
    refine (ConcatZ_any _ g2 2 _ _ _ _ P2.out (by omega) (by show 0 + 2 + n ≤ _; omega)).mono ?_
    rintro e w3 ⟨v, rfl, ho, L3⟩
    have HO := Lib.hid ho
    have L3' := Lib.hid L3
    clear ho L3
    go_wp2
    go_ret2
    refine HQ.out _ _ ⟨_, rfl, ?_, step (step M1.out b2.out) L3'.out⟩
    have := HO.out.mono (base' := w.heap.size) (step M1.out b2.out).size
    simpa [catL, partX] using this
  · obtain ⟨e1, e0⟩ := putErr2 n hn
    rw [e0, e1] at C1
    have HQ : Hid (∀ e w', (∃ v, e = .returned (.tuple #[v, .int .i64 3]) ∧ OwnB w' w.heap.size v [] ∧ Below w.heap.size w w') → PRowPostB w xs e w') := by
      intro e w' hh
      unfold PRowPostB rowErr rowOf
      rw [hl, if_neg hn, if_neg hn]
      exact hh
    have C1' := Lib.hid C1
    clear C1 e0 e1 h hl
    go_enter Tryz.func195, Tryz.ntmps195
    go_wp2_with fail
    refine C1'.out.mono ?_
    rintro e w1 ⟨A', rfl, hfr, L1⟩
    clear hfr C1'
    go_wp2
    go_ret2
    exact HQ.out _ _ ⟨_, rfl, OwnZ.nil _ _ _ _, L1⟩
set_option maxHeartbeats 1000000 in
theorem PutTextB_any (s : ByteArray) (w : World) (hs : s.size ≤ 17592186044416) (hT : Tabs w) :
    Calls Tryz.prog 141 #[.string s] w (PPTextPostB w s.data.toList) := by
  have C1 := TPut_any s w hs hT
  unfold TPutPost at C1
  obtain ⟨l, hl⟩ : ∃ l, l = s.data.toList := ⟨_, rfl⟩
  rw [← hl] at C1 ⊢
  have hlen : (putOfL l).length ≤ 4 * s.size := by
    rw [hl]
    have := putOfL_length s.data.toList
    have := unitsOfL_le s.data.toList
    have e : s.data.toList.length = s.size := by rw [Array.length_toList]; rfl
    omega
  have HBY := Lib.hid (putOfL_byte l)
  by_cases ht : textErr l = 0
  rotate_left
  · have HQ : Hid (∀ e w', e = .returned (.tuple #[.slice none 0 0, .int .i64 (textErr l)]) → Below w.heap.size w w' → PPTextPostB w l e w') := by
      intro e w' he hb
      unfold PPTextPostB ptextOf ptextErr
      rw [if_neg ht, if_neg ht]
      exact ⟨_, he, OwnZ.nil _ _ _ _, hb⟩
    have hne : (textErr l != 0) = true := by simpa using ht
    obtain ⟨er, her⟩ : ∃ er, er = textErr l := ⟨_, rfl⟩
    obtain ⟨ys, hys⟩ : ∃ ys, ys = putOfL l := ⟨_, rfl⟩
    rw [← her] at HQ C1 hne
    rw [← hys] at C1
    have C1' := Lib.hid C1
    clear C1 her ht hl hlen HBY hys
    go_enter Tryz.func141, Tryz.ntmps141
    go_wp2_with fail
    refine C1'.out.mono ?_
    rintro e w1 ⟨v, rfl, ho, L1⟩
    have ho' : Own w1 w.heap.size v ys := ho.own
    obtain ⟨Av, cv, rfl⟩ := ho'.len
    clear ho'
    go_wp2
    go_ret2
    exact HQ.out _ _ rfl L1
  rw [ht] at C1
  by_cases hm : (putOfL l).length ≤ 512
  · have HQ : Hid (∀ e w', (∃ v, e = .returned (.tuple #[v, .int .i64 (rowErr (putOfL l).length)]) ∧ OwnB w' w.heap.size v (rowOf (putOfL l)) ∧ Below w.heap.size w w') → PPTextPostB w l e w') := by
      intro e w' hh
      have e0 : ptextErr l = 0 := by unfold ptextErr; rw [if_pos ht, if_pos hm]
      unfold PPTextPostB ptextOf
      rw [e0, if_pos rfl]
      unfold rowErr at hh
      rwa [if_pos (by omega : (putOfL l).length ≤ 65535)] at hh
    have CR : Hid (∀ (w : World) (A : Option Addr) (n c : Nat), Holds w w.heap.size A n c (putOfL l) → Calls Tryz.prog 195 #[.slice A n c] w (PRowPostB w (putOfL l))) := fun w A n c hh => PutRowB_any w A n c _ hh
    unfold PRowPostB at CR
    obtain ⟨er, her⟩ : ∃ er, er = rowErr (putOfL l).length := ⟨_, rfl⟩
    obtain ⟨rs, hrs⟩ : ∃ rs, rs = rowOf (putOfL l) := ⟨_, rfl⟩
    rw [← her, ← hrs] at HQ CR
    obtain ⟨ys, hys⟩ : ∃ ys, ys = putOfL l := ⟨_, rfl⟩
    rw [← hys] at C1 CR HBY hm
    obtain ⟨m, hm'⟩ : ∃ m, m = ys.length := ⟨_, rfl⟩
    have HM := Lib.hid hm'
    rw [← hm'] at hm
    have C1' := Lib.hid C1
    clear C1 her hrs ht hl hlen hys hm'
    go_enter Tryz.func141, Tryz.ntmps141
    go_wp2_with fail
    refine C1'.out.mono ?_
    rintro e w1 ⟨v, rfl, ho, L1⟩
    have ho' : Own w1 w.heap.size v ys := ho.own
    obtain ⟨Av, cv, rfl, hh⟩ := ho'.holds HBY.out (by have := HM.out; omega)
    rw [← HM.out] at hh ⊢
    have HH := Lib.hid hh
    have M1 := Lib.hid L1
    clear ho ho' hh L1 C1'
    go_wp2_with fail
    refine (CR.out _ _ _ _ HH.out).mono ?_
    rintro e w2 ⟨v, rfl, ho, L2⟩
    have HO := Lib.hid ho
    have L2' := Lib.hid L2
    clear ho L2
    go_wp2
    go_ret2
    exact HQ.out _ _ ⟨_, rfl, HO.out.mono M1.out.size, step M1.out L2'.out⟩
  · have HQ : Hid (∀ e w', e = .returned (.tuple #[.slice none 0 0, .int .i64 3]) → Below w.heap.size w w' → PPTextPostB w l e w') := by
      intro e w' he hb
      unfold PPTextPostB ptextOf ptextErr
      rw [if_pos ht, if_neg hm]
      exact ⟨_, he, OwnZ.nil _ _ _ _, hb⟩
    obtain ⟨ys, hys⟩ : ∃ ys, ys = putOfL l := ⟨_, rfl⟩
    rw [← hys] at C1 HBY hm hlen
    obtain ⟨m, hm'⟩ : ∃ m, m = ys.length := ⟨_, rfl⟩
    have HM := Lib.hid hm'
    rw [← hm'] at hm hlen
    have C1' := Lib.hid C1
    clear C1 ht hl hys hm'
    go_enter Tryz.func141, Tryz.ntmps141
    go_wp2_with fail
    refine C1'.out.mono ?_
    rintro e w1 ⟨v, rfl, ho, L1⟩
    have ho' : Own w1 w.heap.size v ys := ho.own
    obtain ⟨Av, cv, rfl, hh⟩ := ho'.holds HBY.out (by have := HM.out; omega)
    rw [← HM.out]
    clear ho ho' hh C1'
    go_wp2
    go_ret2
    exact HQ.out _ _ rfl L1
set_option maxHeartbeats 2000000 in
theorem putOfferB_any (w : World) (cs : List Value) (a : AskV) (ka : a.ok) (ha : AskIs w w.heap.size cs a) :
    Calls Tryz.prog 140 #[.agg cs.toArray] w (OfferPostB w a) := by
  obtain ⟨D1, D2, D3, X1, X2, X3, M1, M2, M3, rfl, hD, hX, hM⟩ := ha
  have hl := hD.len
  have FA : Hid (∀ (w : World) (g : Nat), Blk w g 34 (acells (.slice D1 D2 D3) (.slice X1 X2 X3) (.slice M1 M2 M3) a) → w.cell? ⟨g, 0, none⟩ = some (.slice D1 D2 D3)) := fun w g h => h.at rfl
  have RG : Hid (∀ (w : World) (g : Nat), Blk w g 34 (acells (.slice D1 D2 D3) (.slice X1 X2 X3) (.slice M1 M2 M3) a) → Holds w w.heap.size (some ⟨g, 1, none⟩) 16 16 a.guid) := fun w g h => acells_guidH ka h
  have HDB := Lib.hid ka.dial
  have HGL := Lib.hid ka.glen
  obtain ⟨cs, hcs⟩ : ∃ c, c = acells (.slice D1 D2 D3) (.slice X1 X2 X3) (.slice M1 M2 M3) a := ⟨_, rfl⟩
  rw [← hcs] at FA RG ⊢
  clear hcs hX hM ka
  by_cases hn : D2 ≤ 16
  rotate_left
  · have HQ : Hid (∀ e w', e = .returned (.tuple #[.slice none 0 0, .int .i64 3]) → Below w.heap.size w w' → OfferPostB w a e w') := by
      intro e w' he hb
      unfold OfferPostB
      rw [hl, if_neg hn, if_neg hn]
      exact ⟨_, he, OwnZ.nil _ _ _ _, hb⟩
    have hn' : 16 < D2 := by omega
    clear hl hD
    go_enter Tryz.func140, Tryz.ntmps140
    go_wp2_with (first
      | ((with_reducible show wpList _ _ _ (⟨some 1, _, _, _, _, _⟩ :: _) _ _); refine wpList_box_blk rfl _ (.tmp 0) rfl cs rfl ?_; intro g w1 hg1 hg2 K1 L1; have gd := FA.out _ _ K1.out)
      | fail)
    go_ret2
    exact HQ.out _ _ rfl L1.out
  have HQ : Hid (∀ e w', (∃ v, e = .returned (.tuple #[v, .int .i64 0]) ∧ OwnB w' w.heap.size v (le D2 2 ++ dialsOf a.dial ++ a.guid) ∧ Below w.heap.size w w') → OfferPostB w a e w') := by
    intro e w' hh
    unfold OfferPostB offerOf
    rw [hl, if_pos hn, if_pos hn]
    exact hh
  have HDL := Lib.hid hl
  have HD := Lib.hid hD
  have HF := Lib.hid hD.fit
  have hz : IntKind.u64.wrap (D2 : Int) = D2 := by rw [IntKind.wrap_u64]; omega
  obtain ⟨ds, hds⟩ : ∃ d, d = a.dial := ⟨_, rfl⟩
  obtain ⟨gs, hgs⟩ : ∃ d, d = a.guid := ⟨_, rfl⟩
  rw [← hds] at HQ HDL HD HDB
  rw [← hgs] at HQ RG HGL
  clear hl hD hds hgs
  go_enter Tryz.func140, Tryz.ntmps140
  go_wp2_with (first
    | ((with_reducible show wpList _ _ _ (⟨some 1, _, _, _, _, _⟩ :: _) _ _); refine wpList_box_blk rfl _ (.tmp 0) rfl cs rfl ?_; intro g w1 hg1 hg2 K1 L1; have gd := FA.out _ _ K1.out)
    | fail)
  refine (number_le w1 (D2 : Int) (by omega) (by omega)).mono ?_
  rintro e w2 ⟨A', rfl, hf2, L2⟩
  have gd2 := FA.out _ _ (K1.out.over L2)
  have HO2 := Lib.hid (hf2.ownB (n := 2) (by rw [le_length]) (by omega))
  have M2 := Lib.hid L2
  have hs2 := L2.size
  clear gd hf2 L2
  go_wp2
  go_loopw [4, 19] (fun v i wr => ∃ j : Nat, i = .int .i64 j ∧ j ≤ D2 ∧ Hid (OwnB wr w1.heap.size v (le D2 2 ++ dialsOf (ds.take j))) ∧ Hid (Below w1.heap.size w1 wr)) (fun _ i _ => D2 - (intOf i).toNat)
  case atStart => exact ⟨0, rfl, Nat.zero_le _, (by show OwnB _ _ _ _; simpa [dialsOf] using HO2.out), M2⟩
  case round =>
    obtain ⟨j, rfl, hj, HO, HL⟩ := hrel
    have hsr := HL.out.size
    by_cases hlt : j < D2
    · have HDr := HD.out.over (step L1.out HL.out)
      have hft := HF.out
      obtain ⟨b, off, rfl, hb, hc⟩ := HDr.cells (by omega)
      obtain ⟨x, hx⟩ : ∃ x, ds[j]? = some x := ⟨_, List.getElem?_eq_getElem (by have := HDL.out; omega)⟩
      have gc := hc j x hx
      obtain ⟨x0, x1⟩ := HDB.out x (List.mem_of_getElem? hx)
      have E1 : Hid (le D2 2 ++ dialsOf (ds.take (j + 1)) = le D2 2 ++ dialsOf (ds.take j) ++ le x 2) := by
        show _ = _
        rw [List.take_add_one, hx, Option.toList_some, dialsOf_snoc, List.append_assoc]
      have HLEN : Hid ((le (D2 : Int) 2 ++ dialsOf (ds.take j)).length + (le x 2).length ≤ 140737488355328) := by
        show _ ≤ _
        rw [List.length_append, le_length, le_length, dialsOf_len, List.length_take]
        omega
      have HXB : Hid (Bytes (le x 2)) := le_bytes _ _
      have HXL : Hid ((le x 2).length = 2) := le_length _ _
      have hxz : IntKind.u64.wrap x = x := by rw [IntKind.wrap_u64]; omega
      obtain ⟨P, hP⟩ : ∃ P, P = le (D2 : Int) 2 ++ dialsOf (ds.take j) := ⟨_, rfl⟩
      rw [← hP] at E1 HLEN HO
      have CN : Hid (∀ w : World, Calls Tryz.prog 149 #[.int .u64 x, .int .i64 2] w fun e w' => ∃ A', e = .returned (.slice A' 2 2) ∧ Fresh w' w.heap.size A' (le x 2) ∧ Below w.heap.size w w') := fun w => number_le w x x0 x1
      obtain ⟨lx, hlx⟩ : ∃ P, P = le x 2 := ⟨_, rfl⟩
      rw [← hlx] at E1 HLEN HXB HXL CN
      clear hc hx hP hlx HDr
      go_wp2_with fail
      refine (CN.out wr).mono ?_
      rintro e w3 ⟨A3, rfl, hf3, L3⟩
      have HH := Lib.hid (hf3.holds HXL.out HXB.out (by omega))
      have HO3 := Lib.hid (HO.out.below L3)
      have M3 := Lib.hid (HL.out.trans (L3.mono hsr))
      have hs3 := M3.out.size
      clear hf3 L3 HO CN gc
      go_wp2_with (first
        | (at_builtin; refine wpList_append_bytesZ rfl (.tmp 23) (.tmp 26) rfl w1.heap.size _ P rfl HO3.out w3.heap.size A3 2 2 lx rfl HH.out HLEN.out hs3 ?_; intro v4 w4 ho4 hb4)
        | fail)
      have HO4 : Hid (OwnB w4 w1.heap.size v4 (le D2 2 ++ dialsOf (ds.take (j + 1)))) := by rw [E1.out]; exact ho4.out
      have M4 := Lib.hid (M3.out.trans hb4)
      clear ho4 hb4 HH HO3 M3
      go_wp2
      go_roundw
      case rel => exact ⟨j + 1, by go_num, hlt, HO4, M4⟩
      case measure => simp [intOf]; omega
    · obtain rfl : j = D2 := by omega
      have HO5 : Hid (OwnB wr w1.heap.size u4 (le (j : Int) 2 ++ dialsOf ds)) := by
        have h := HO.out
        rwa [List.take_of_length_le (by have := HDL.out; omega)] at h
      have HG := Lib.hid (RG.out _ _ (K1.out.over HL.out))
      have HLEN : Hid ((le (j : Int) 2 ++ dialsOf ds).length + gs.length ≤ 140737488355328) := by
        show _ ≤ _
        have h1 := HGL.out
        have h2 := HDL.out
        rw [List.length_append, le_length, dialsOf_len]
        omega
      have hs1 := L1.out.size
      obtain ⟨P, hP⟩ : ∃ P, P = le (j : Int) 2 ++ dialsOf ds := ⟨_, rfl⟩
      rw [← hP] at HO5 HLEN HQ
      clear HO hP
      go_wp2_with (first
        | (at_builtin; refine wpList_append_bytesZ rfl (.tmp 29) (.tmp 31) rfl w1.heap.size _ P rfl HO5.out wr.heap.size (some ⟨g, 1, none⟩) 16 16 gs rfl HG.out HLEN.out hsr ?_; intro v4 w4 ho4 hb4)
        | fail)
      go_ret2
      exact HQ.out _ _ ⟨_, rfl, ho4.out.mono hs1, L1.out.trans ((HL.out.trans hb4).mono hs1)⟩
set_option maxHeartbeats 4000000 in
theorem PutAskB_any (w : World) (c : Int) (cs : List Value) (a : AskV) (hc : 0 ≤ c ∧ c ≤ 65535) (ka : a.ok) (ha : AskIs w w.heap.size cs a) (hu : a.user.size ≤ 17592186044416 ∧ a.share.size ≤ 17592186044416) (hT : Tabs w) :
    Calls Tryz.prog 103 #[.int .u16 c, .agg cs.toArray] w (PAskPostB w c a) := by
  have HL := Lib.hid (ha.len ka)
  have HO1 := Lib.hid ha.one
  have ZH := Lib.hid zero_ask
  have HZ : Hid ((acells (.slice none 0 0) (.slice none 0 0) (.slice none 0 0) zeroAsk).length = 69) := acells_len zeroAsk_ok
  have HA := Lib.hid ha
  have HT := Lib.hid hT
  obtain ⟨hu0, hu1⟩ := hu
  have CB : Hid (∀ w' : World, Below w.heap.size w w' → Calls Tryz.prog 138 #[.int .u16 c, .agg cs.toArray] w' fun e w2 => ∃ ds, e = .returned (.tuple #[.agg ds.toArray, .bool (knownT c)]) ∧ AskIs w2 w2.heap.size ds (if knownT c = true then besideAsk c a else zeroAsk) ∧ Below w'.heap.size w' w2) := fun w' hb => askBeside_any w' c cs a hc ka (ha.over hb)
  obtain ⟨zs, hzs⟩ : ∃ zs, zs = acells (.slice none 0 0) (.slice none 0 0) (.slice none 0 0) zeroAsk := ⟨_, rfl⟩
  rw [← hzs] at ZH HZ
  clear hzs
  by_cases hk : knownT c = true
  rotate_left
  · have hk' : knownT c = false := by simpa using hk
    have HQ : Hid (∀ e w', e = .returned (.tuple #[.slice none 0 0, .int .i64 2]) → Below w.heap.size w w' → PAskPostB w c a e w') := by
      intro e w' he hb
      have h2 : askErrP c a = 2 := by unfold askErrP; rw [if_neg (fun h => hk h.1)]
      unfold PAskPostB askOfP
      rw [h2, if_neg (by decide)]
      exact ⟨_, he, OwnZ.nil _ _ _ _, hb⟩
    rw [if_neg hk, hk'] at CB
    have kb := zeroAsk_ok
    clear hk hk' HA ka ha
    go_enter Tryz.func103, Tryz.ntmps103
    go_wp2_with (first
      | ((with_reducible show wpList _ _ _ (⟨some 3, _, _, _, _, _⟩ :: _) _ _); refine wpList_box_blk rfl _ (.tmp 1) rfl cs rfl ?_; intro g w1 hg1 hg2 K1 L1)
      | ((with_reducible show wpList _ _ _ (⟨some 12, _, _, _, _, _⟩ :: _) _ _); refine wpList_load_blk rfl _ (.tmp 3) rfl g rfl _ cs K1 69 _ Tryz.underlying34 rfl size_ask HL ?_)
      | fail)
    refine (CB.out w1 L1.out).mono ?_
    rintro e w2 ⟨ds, rfl, hds, L2⟩
    have HD := Lib.hid hds
    have HDL := Lib.hid (hds.len kb)
    have HDO := Lib.hid hds.one
    have K2 := Lib.hid (K1.out.over L2)
    have M2 := Lib.hid (step L1.out L2)
    clear hds L2 K1
    go_wp2_with (first
      | ((with_reducible show wpList _ _ _ (⟨some 6, _, _, _, _, _⟩ :: _) _ _); refine wpList_alloc_blk rfl _ rfl zs _ ZH ?_; intro h w3 hg3 hg4 Z3 L3)
      | ((with_reducible show wpList _ _ _ (⟨none, .store _ (.tmp 6) _, _, _, _, _⟩ :: _) _ _); refine wpList_store_blk rfl _ (.tmp 6) (.tmp 14) rfl h rfl _ zs ds rfl Z3 69 size_ask HZ HDL HDO ?_; intro w4 X4 O4 hg5; have L4 := Lib.hid (below_only L3.out O4.out hg3); have M4 := Lib.hid (step M2.out L4.out); have K4 := Lib.hid (K2.out.over L4.out); have HD4 := Lib.hid (HD.out.over L4.out))
      | fail)
    go_ret2
    exact HQ.out _ _ rfl M4.out
  rw [if_pos hk, hk] at CB
  have kb := besideAsk_ok (c := c) ka
  have CZ : Hid (∀ (w' : World) (ds : List Value), AskIs w' w'.heap.size ds (besideAsk c a) → Calls Tryz.prog 139 #[.agg ds.toArray] w' fun e w2 => e = .returned (.bool (decide (besideAsk c a = zeroAsk))) ∧ Below w'.heap.size w' w2) := fun w' ds hds => isZeroAsk_any w' ds _ kb hds
  by_cases hz : besideAsk c a = zeroAsk
  rotate_left
  · rw [decide_eq_false hz] at CZ
    have HQ : Hid (∀ e w', e = .returned (.tuple #[.slice none 0 0, .int .i64 2]) → Below w.heap.size w w' → PAskPostB w c a e w') := by
      intro e w' he hb
      have h2 : askErrP c a = 2 := by unfold askErrP; rw [if_neg (fun h => hz h.2)]
      unfold PAskPostB askOfP
      rw [h2, if_neg (by decide)]
      exact ⟨_, he, OwnZ.nil _ _ _ _, hb⟩
    obtain ⟨b, hb⟩ : ∃ b, b = besideAsk c a := ⟨_, rfl⟩
    rw [← hb] at CB CZ kb
    clear hk hz HA ka ha hb
    go_enter Tryz.func103, Tryz.ntmps103
    go_wp2_with (first
      | ((with_reducible show wpList _ _ _ (⟨some 3, _, _, _, _, _⟩ :: _) _ _); refine wpList_box_blk rfl _ (.tmp 1) rfl cs rfl ?_; intro g w1 hg1 hg2 K1 L1)
      | ((with_reducible show wpList _ _ _ (⟨some 12, _, _, _, _, _⟩ :: _) _ _); refine wpList_load_blk rfl _ (.tmp 3) rfl g rfl _ cs K1 69 _ Tryz.underlying34 rfl size_ask HL ?_)
      | fail)
    refine (CB.out w1 L1.out).mono ?_
    rintro e w2 ⟨ds, rfl, hds, L2⟩
    have HD := Lib.hid hds
    have HDL := Lib.hid (hds.len kb)
    have HDO := Lib.hid hds.one
    have K2 := Lib.hid (K1.out.over L2)
    have M2 := Lib.hid (step L1.out L2)
    clear hds L2 K1
    go_wp2_with (first
      | ((with_reducible show wpList _ _ _ (⟨some 6, _, _, _, _, _⟩ :: _) _ _); refine wpList_alloc_blk rfl _ rfl zs _ ZH ?_; intro h w3 hg3 hg4 Z3 L3)
      | ((with_reducible show wpList _ _ _ (⟨none, .store _ (.tmp 6) _, _, _, _, _⟩ :: _) _ _); refine wpList_store_blk rfl _ (.tmp 6) (.tmp 14) rfl h rfl _ zs ds rfl Z3 69 size_ask HZ HDL HDO ?_; intro w4 X4 O4 hg5; have L4 := Lib.hid (below_only L3.out O4.out hg3); have M4 := Lib.hid (step M2.out L4.out); have K4 := Lib.hid (K2.out.over L4.out); have HD4 := Lib.hid (HD.out.over L4.out))
      | ((with_reducible show wpList _ _ _ (⟨some 19, _, _, _, _, _⟩ :: _) _ _); refine wpList_load_want (by kernel_rfl) _ (.tmp 6) rfl h rfl _ ds X4 69 _ Tryz.underlying34 rfl size_ask HDL ?_)
      | fail)
    refine (CZ.out w4 ds HD4.out).mono ?_
    rintro e w5 ⟨rfl, L5⟩
    have M5 := Lib.hid (step M4.out L5)
    have K5 := Lib.hid (K4.out.over L5)
    have hs5 := M5.out.size
    clear L5 K4 HD4 HD CZ CB X4 O4 Z3 L3 L4 M4 M2 K2
    go_wp2
    go_ret2
    exact HQ.out _ _ rfl M5.out
  rw [decide_eq_true hz] at CZ
  by_cases h0 : c = 0
  · have h2 : askErrP c a = if a.dial.length ≤ 16 then 0 else 3 := by unfold askErrP; rw [if_pos ⟨hk, hz⟩, if_pos h0]
    have HQ : Hid (∀ e w', (∃ v, e = .returned (.tuple #[v, .int .i64 (if a.dial.length ≤ 16 then 0 else 3)]) ∧ OwnB w' w.heap.size v (if a.dial.length ≤ 16 then offerOf a else []) ∧ Below w.heap.size w w') → PAskPostB w c a e w') := by
      intro e w' hh
      unfold PAskPostB askOfP
      rw [h2, if_pos h0]
      by_cases hd : a.dial.length ≤ 16
      · rw [if_pos hd, if_pos hd] at hh; rw [if_pos hd, if_pos rfl]; exact hh
      · rw [if_neg hd, if_neg hd] at hh; rw [if_neg hd, if_neg (by decide)]; exact hh
    have CO : Hid (∀ w' : World, Below w.heap.size w w' → Calls Tryz.prog 140 #[.agg cs.toArray] w' fun e w2 => ∃ v, e = .returned (.tuple #[v, .int .i64 (if a.dial.length ≤ 16 then 0 else 3)]) ∧ OwnB w2 w'.heap.size v (if a.dial.length ≤ 16 then offerOf a else []) ∧ Below w'.heap.size w' w2) := fun w' hb => putOfferB_any w' cs a ka (HA.out.over hb)
    obtain ⟨er, her⟩ : ∃ x : Int, x = if a.dial.length ≤ 16 then 0 else 3 := ⟨_, rfl⟩
    obtain ⟨ys, hys⟩ : ∃ x, x = if a.dial.length ≤ 16 then offerOf a else [] := ⟨_, rfl⟩
    rw [← her, ← hys] at HQ CO
    have c0 : (c == 0) = true := by simpa using h0
    obtain ⟨b, hb⟩ : ∃ b, b = besideAsk c a := ⟨_, rfl⟩
    rw [← hb] at CB CZ kb
    clear hk hz HA ka ha h2 her hys h0 hb
    go_enter Tryz.func103, Tryz.ntmps103
    go_wp2_with (first
      | ((with_reducible show wpList _ _ _ (⟨some 3, _, _, _, _, _⟩ :: _) _ _); refine wpList_box_blk rfl _ (.tmp 1) rfl cs rfl ?_; intro g w1 hg1 hg2 K1 L1)
      | ((with_reducible show wpList _ _ _ (⟨some 12, _, _, _, _, _⟩ :: _) _ _); refine wpList_load_blk rfl _ (.tmp 3) rfl g rfl _ cs K1 69 _ Tryz.underlying34 rfl size_ask HL ?_)
      | fail)
    refine (CB.out w1 L1.out).mono ?_
    rintro e w2 ⟨ds, rfl, hds, L2⟩
    have HD := Lib.hid hds
    have HDL := Lib.hid (hds.len kb)
    have HDO := Lib.hid hds.one
    have K2 := Lib.hid (K1.out.over L2)
    have M2 := Lib.hid (step L1.out L2)
    clear hds L2 K1
    go_wp2_with (first
      | ((with_reducible show wpList _ _ _ (⟨some 6, _, _, _, _, _⟩ :: _) _ _); refine wpList_alloc_blk rfl _ rfl zs _ ZH ?_; intro h w3 hg3 hg4 Z3 L3)
      | ((with_reducible show wpList _ _ _ (⟨none, .store _ (.tmp 6) _, _, _, _, _⟩ :: _) _ _); refine wpList_store_blk rfl _ (.tmp 6) (.tmp 14) rfl h rfl _ zs ds rfl Z3 69 size_ask HZ HDL HDO ?_; intro w4 X4 O4 hg5; have L4 := Lib.hid (below_only L3.out O4.out hg3); have M4 := Lib.hid (step M2.out L4.out); have K4 := Lib.hid (K2.out.over L4.out); have HD4 := Lib.hid (HD.out.over L4.out))
      | ((with_reducible show wpList _ _ _ (⟨some 19, _, _, _, _, _⟩ :: _) _ _); refine wpList_load_want (by kernel_rfl) _ (.tmp 6) rfl h rfl _ ds X4 69 _ Tryz.underlying34 rfl size_ask HDL ?_)
      | fail)
    refine (CZ.out w4 ds HD4.out).mono ?_
    rintro e w5 ⟨rfl, L5⟩
    have M5 := Lib.hid (step M4.out L5)
    have K5 := Lib.hid (K4.out.over L5)
    have hs5 := M5.out.size
    clear L5 K4 HD4 HD CZ CB X4 O4 Z3 L3 L4 M4 M2 K2
    go_wp2_with (first
      | ((with_reducible show wpList _ _ _ (⟨some 26, _, _, _, _, _⟩ :: _) _ _); refine wpList_load_blk rfl _ (.tmp 3) rfl g rfl _ cs K5 69 _ Tryz.underlying34 rfl size_ask HL ?_)
      | fail)
    refine (CO.out w5 M5.out).mono ?_
    rintro e w6 ⟨v, rfl, ho, L6⟩
    have HO := Lib.hid ho
    have L6' := Lib.hid L6
    clear ho L6
    go_wp2
    go_ret2
    exact HQ.out _ _ ⟨_, rfl, HO.out.mono hs5, step M5.out L6'.out⟩
  have b0 : (c == 0) = false := by simpa using h0
  have FA : Hid (∀ (w : World) (g : Nat), Blk w g 34 cs → w.cell? ⟨g, 49, none⟩ = some (.string a.user) ∧ w.cell? ⟨g, 50, none⟩ = some (.string a.share) ∧ Holds w w.heap.size (some ⟨g, 17, none⟩) 32 32 a.proof) := by
    intro w g h
    obtain ⟨D1, D2, D3, X1, X2, X3, M1, M2, M3, rfl, _⟩ := HA.out
    exact ⟨h.at (acells_get ka 0), h.at (acells_get ka 1), acells_proofH ka h⟩
  by_cases h1 : c = 1
  · have CT : Hid (∀ w' : World, Below w.heap.size w w' → Calls Tryz.prog 141 #[.string a.user] w' fun e w2 => ∃ v, e = .returned (.tuple #[v, .int .i64 (ptextErr a.user.data.toList)]) ∧ OwnB w2 w'.heap.size v (ptextOf a.user.data.toList) ∧ Below w'.heap.size w' w2) := fun w' hb => PutTextB_any a.user w' hu0 (HT.out.below hb)
    have h2 : askErrP c a = ptextErr a.user.data.toList := by unfold askErrP; rw [if_pos ⟨hk, hz⟩, if_neg h0, if_pos h1]
    have c1 : (c == 1) = true := by simpa using h1
    have HPB := Lib.hid (ptextOf_bytes a.user.data.toList)
    have hpl := rowOf_le a.user.data.toList
    by_cases hp : ptextErr a.user.data.toList = 0
    · have HQ : Hid (∀ e w', (∃ v, e = .returned (.tuple #[v, .int .i64 0]) ∧ OwnB w' w.heap.size v (a.proof ++ ptextOf a.user.data.toList) ∧ Below w.heap.size w w') → PAskPostB w c a e w') := by
        intro e w' hh
        unfold PAskPostB askOfP
        rw [h2, hp, if_pos rfl, if_neg h0, if_pos h1]
        exact hh
      rw [hp] at CT
      obtain ⟨ys, hys⟩ : ∃ x, x = ptextOf a.user.data.toList := ⟨_, rfl⟩
      rw [← hys] at HQ CT HPB hpl
      obtain ⟨tx, htx⟩ : ∃ x, x = a.user := ⟨_, rfl⟩
      obtain ⟨px, hpx⟩ : ∃ x, x = a.proof := ⟨_, rfl⟩
      rw [← htx, ← hpx] at FA
      rw [← htx] at CT
      rw [← hpx] at HQ
      obtain ⟨b, hb⟩ : ∃ b, b = besideAsk c a := ⟨_, rfl⟩
      rw [← hb] at CB CZ kb
      clear hk hz HA ka ha h2 hys htx hpx h0 h1 hb hu0 hu1 hp
      go_enter Tryz.func103, Tryz.ntmps103
      go_wp2_with (first
        | ((with_reducible show wpList _ _ _ (⟨some 3, _, _, _, _, _⟩ :: _) _ _); refine wpList_box_blk rfl _ (.tmp 1) rfl cs rfl ?_; intro g w1 hg1 hg2 K1 L1)
        | ((with_reducible show wpList _ _ _ (⟨some 12, _, _, _, _, _⟩ :: _) _ _); refine wpList_load_blk rfl _ (.tmp 3) rfl g rfl _ cs K1 69 _ Tryz.underlying34 rfl size_ask HL ?_)
        | fail)
      refine (CB.out w1 L1.out).mono ?_
      rintro e w2 ⟨ds, rfl, hds, L2⟩
      have HD := Lib.hid hds
      have HDL := Lib.hid (hds.len kb)
      have HDO := Lib.hid hds.one
      have K2 := Lib.hid (K1.out.over L2)
      have M2 := Lib.hid (step L1.out L2)
      clear hds L2 K1
      go_wp2_with (first
        | ((with_reducible show wpList _ _ _ (⟨some 6, _, _, _, _, _⟩ :: _) _ _); refine wpList_alloc_blk rfl _ rfl zs _ ZH ?_; intro h w3 hg3 hg4 Z3 L3)
        | ((with_reducible show wpList _ _ _ (⟨none, .store _ (.tmp 6) _, _, _, _, _⟩ :: _) _ _); refine wpList_store_blk rfl _ (.tmp 6) (.tmp 14) rfl h rfl _ zs ds rfl Z3 69 size_ask HZ HDL HDO ?_; intro w4 X4 O4 hg5; have L4 := Lib.hid (below_only L3.out O4.out hg3); have M4 := Lib.hid (step M2.out L4.out); have K4 := Lib.hid (K2.out.over L4.out); have HD4 := Lib.hid (HD.out.over L4.out))
        | ((with_reducible show wpList _ _ _ (⟨some 19, _, _, _, _, _⟩ :: _) _ _); refine wpList_load_want (by kernel_rfl) _ (.tmp 6) rfl h rfl _ ds X4 69 _ Tryz.underlying34 rfl size_ask HDL ?_)
        | fail)
      refine (CZ.out w4 ds HD4.out).mono ?_
      rintro e w5 ⟨rfl, L5⟩
      have M5 := Lib.hid (step M4.out L5)
      have K5 := Lib.hid (K4.out.over L5)
      have hs5 := M5.out.size
      clear L5 K4 HD4 HD CZ CB X4 O4 Z3 L3 L4 M4 M2 K2
      obtain ⟨gd, _, _⟩ := FA.out _ _ K5.out
      go_wp2_with fail
      refine (CT.out w5 M5.out).mono ?_
      rintro e w6 ⟨v, rfl, ho, L6⟩
      obtain ⟨Av, cv, rfl, hh⟩ := ho.holds8 HPB.out (by omega)
      have HH := Lib.hid hh
      obtain ⟨_, _, hpr⟩ := FA.out _ _ (K5.out.over L6)
      have HPR := Lib.hid hpr
      have M6 := Lib.hid (step M5.out L6)
      obtain ⟨m, hm⟩ : ∃ m, m = ys.length := ⟨_, rfl⟩
      rw [← hm] at HH hpl ⊢
      clear ho hh hpr L6 gd hm
      go_wp2_with (first
        | ((with_reducible show wpList _ _ _ (⟨some 44, _, _, _, _, _⟩ :: _) _ _); refine wpList_litParts rfl 2 _ rfl [(some ⟨g, 17, none⟩, 32, 32, px), (Av, m, cv, ys)] rfl (by kernel_rfl) (List.forall_mem_cons.2 ⟨HPR.out, List.forall_mem_cons.2 ⟨HH.out, fun _ h => by cases h⟩⟩) ?_; intro g7 w7 P7 b7)
        | fail)
      refine (ConcatZ_any _ g7 2 _ _ _ _ P7.out (by omega) (by show 0 + 32 + m ≤ _; omega)).mono ?_
      rintro e w8 ⟨v, rfl, ho, L8⟩
      have HO := Lib.hid ho
      have L8' := Lib.hid L8
      clear ho L8
      go_wp2
      go_ret2
      have M7 := step M6.out b7.out
      refine HQ.out _ _ ⟨_, rfl, ?_, step M7 L8'.out⟩
      have h9 := HO.out.mono (base' := w.heap.size) M7.size
      simpa [catL, partX] using h9
    · have HQ : Hid (∀ e w', e = .returned (.tuple #[.slice none 0 0, .int .i64 (ptextErr a.user.data.toList)]) → Below w.heap.size w w' → PAskPostB w c a e w') := by
        intro e w' he hb
        unfold PAskPostB askOfP
        rw [h2, if_neg hp]
        exact ⟨_, he, OwnZ.nil _ _ _ _, hb⟩
      have hne : (ptextErr a.user.data.toList != 0) = true := by simpa using hp
      obtain ⟨ys, hys⟩ : ∃ x, x = ptextOf a.user.data.toList := ⟨_, rfl⟩
      obtain ⟨er, her⟩ : ∃ x, x = ptextErr a.user.data.toList := ⟨_, rfl⟩
      rw [← hys, ← her] at CT
      rw [← her] at HQ hne
      rw [← hys] at HPB hpl
      obtain ⟨tx, htx⟩ : ∃ x, x = a.user := ⟨_, rfl⟩
      rw [← htx] at FA CT
      obtain ⟨b, hb⟩ : ∃ b, b = besideAsk c a := ⟨_, rfl⟩
      rw [← hb] at CB CZ kb
      clear hk hz HA ka ha h2 hys her htx h0 h1 hb hu0 hu1 hp
      go_enter Tryz.func103, Tryz.ntmps103
      go_wp2_with (first
        | ((with_reducible show wpList _ _ _ (⟨some 3, _, _, _, _, _⟩ :: _) _ _); refine wpList_box_blk rfl _ (.tmp 1) rfl cs rfl ?_; intro g w1 hg1 hg2 K1 L1)
        | ((with_reducible show wpList _ _ _ (⟨some 12, _, _, _, _, _⟩ :: _) _ _); refine wpList_load_blk rfl _ (.tmp 3) rfl g rfl _ cs K1 69 _ Tryz.underlying34 rfl size_ask HL ?_)
        | fail)
      refine (CB.out w1 L1.out).mono ?_
      rintro e w2 ⟨ds, rfl, hds, L2⟩
      have HD := Lib.hid hds
      have HDL := Lib.hid (hds.len kb)
      have HDO := Lib.hid hds.one
      have K2 := Lib.hid (K1.out.over L2)
      have M2 := Lib.hid (step L1.out L2)
      clear hds L2 K1
      go_wp2_with (first
        | ((with_reducible show wpList _ _ _ (⟨some 6, _, _, _, _, _⟩ :: _) _ _); refine wpList_alloc_blk rfl _ rfl zs _ ZH ?_; intro h w3 hg3 hg4 Z3 L3)
        | ((with_reducible show wpList _ _ _ (⟨none, .store _ (.tmp 6) _, _, _, _, _⟩ :: _) _ _); refine wpList_store_blk rfl _ (.tmp 6) (.tmp 14) rfl h rfl _ zs ds rfl Z3 69 size_ask HZ HDL HDO ?_; intro w4 X4 O4 hg5; have L4 := Lib.hid (below_only L3.out O4.out hg3); have M4 := Lib.hid (step M2.out L4.out); have K4 := Lib.hid (K2.out.over L4.out); have HD4 := Lib.hid (HD.out.over L4.out))
        | ((with_reducible show wpList _ _ _ (⟨some 19, _, _, _, _, _⟩ :: _) _ _); refine wpList_load_want (by kernel_rfl) _ (.tmp 6) rfl h rfl _ ds X4 69 _ Tryz.underlying34 rfl size_ask HDL ?_)
        | fail)
      refine (CZ.out w4 ds HD4.out).mono ?_
      rintro e w5 ⟨rfl, L5⟩
      have M5 := Lib.hid (step M4.out L5)
      have K5 := Lib.hid (K4.out.over L5)
      have hs5 := M5.out.size
      clear L5 K4 HD4 HD CZ CB X4 O4 Z3 L3 L4 M4 M2 K2
      obtain ⟨gd, _, _⟩ := FA.out _ _ K5.out
      go_wp2_with fail
      refine (CT.out w5 M5.out).mono ?_
      rintro e w6 ⟨v, rfl, ho, L6⟩
      obtain ⟨Av, cv, rfl⟩ := ho.own8.len
      clear ho
      go_wp2
      go_ret2
      exact HQ.out _ _ rfl (step M5.out L6)
  have b1 : (c == 1) = false := by simpa using h1
  by_cases h3 : c = 3
  · have CT : Hid (∀ w' : World, Below w.heap.size w w' → Calls Tryz.prog 141 #[.string a.share] w' fun e w2 => ∃ v, e = .returned (.tuple #[v, .int .i64 (ptextErr a.share.data.toList)]) ∧ OwnB w2 w'.heap.size v (ptextOf a.share.data.toList) ∧ Below w'.heap.size w' w2) := fun w' hb => PutTextB_any a.share w' hu1 (HT.out.below hb)
    have h2 : askErrP c a = ptextErr a.share.data.toList := by unfold askErrP; rw [if_pos ⟨hk, hz⟩, if_neg h0, if_neg h1, if_pos h3]
    have c3 : (c == 3) = true := by simpa using h3
    have HQ : Hid (∀ e w', (∃ v, e = .returned (.tuple #[v, .int .i64 (ptextErr a.share.data.toList)]) ∧ OwnB w' w.heap.size v (ptextOf a.share.data.toList) ∧ Below w.heap.size w w') → PAskPostB w c a e w') := by
      intro e w' hh
      unfold PAskPostB askOfP
      rw [h2, if_neg h0, if_neg h1, if_pos h3]
      by_cases hp : ptextErr a.share.data.toList = 0
      · rw [if_pos hp]; exact hh
      · rw [if_neg hp]; unfold ptextOf at hh; rw [if_neg hp] at hh; exact hh
    obtain ⟨er, her⟩ : ∃ x, x = ptextErr a.share.data.toList := ⟨_, rfl⟩
    obtain ⟨ys, hys⟩ : ∃ x, x = ptextOf a.share.data.toList := ⟨_, rfl⟩
    rw [← her, ← hys] at HQ CT
    obtain ⟨tx, htx⟩ : ∃ x, x = a.share := ⟨_, rfl⟩
    rw [← htx] at FA CT
    obtain ⟨b, hb⟩ : ∃ b, b = besideAsk c a := ⟨_, rfl⟩
    rw [← hb] at CB CZ kb
    clear hk hz HA ka ha h2 her hys htx h0 h1 h3 hb hu0 hu1
    have b1 : (c == 1) = false := by have h := c3; simp only [beq_iff_eq] at h; subst h; rfl
    go_enter Tryz.func103, Tryz.ntmps103
    go_wp2_with (first
      | ((with_reducible show wpList _ _ _ (⟨some 3, _, _, _, _, _⟩ :: _) _ _); refine wpList_box_blk rfl _ (.tmp 1) rfl cs rfl ?_; intro g w1 hg1 hg2 K1 L1)
      | ((with_reducible show wpList _ _ _ (⟨some 12, _, _, _, _, _⟩ :: _) _ _); refine wpList_load_blk rfl _ (.tmp 3) rfl g rfl _ cs K1 69 _ Tryz.underlying34 rfl size_ask HL ?_)
      | fail)
    refine (CB.out w1 L1.out).mono ?_
    rintro e w2 ⟨ds, rfl, hds, L2⟩
    have HD := Lib.hid hds
    have HDL := Lib.hid (hds.len kb)
    have HDO := Lib.hid hds.one
    have K2 := Lib.hid (K1.out.over L2)
    have M2 := Lib.hid (step L1.out L2)
    clear hds L2 K1
    go_wp2_with (first
      | ((with_reducible show wpList _ _ _ (⟨some 6, _, _, _, _, _⟩ :: _) _ _); refine wpList_alloc_blk rfl _ rfl zs _ ZH ?_; intro h w3 hg3 hg4 Z3 L3)
      | ((with_reducible show wpList _ _ _ (⟨none, .store _ (.tmp 6) _, _, _, _, _⟩ :: _) _ _); refine wpList_store_blk rfl _ (.tmp 6) (.tmp 14) rfl h rfl _ zs ds rfl Z3 69 size_ask HZ HDL HDO ?_; intro w4 X4 O4 hg5; have L4 := Lib.hid (below_only L3.out O4.out hg3); have M4 := Lib.hid (step M2.out L4.out); have K4 := Lib.hid (K2.out.over L4.out); have HD4 := Lib.hid (HD.out.over L4.out))
      | ((with_reducible show wpList _ _ _ (⟨some 19, _, _, _, _, _⟩ :: _) _ _); refine wpList_load_want (by kernel_rfl) _ (.tmp 6) rfl h rfl _ ds X4 69 _ Tryz.underlying34 rfl size_ask HDL ?_)
      | fail)
    refine (CZ.out w4 ds HD4.out).mono ?_
    rintro e w5 ⟨rfl, L5⟩
    have M5 := Lib.hid (step M4.out L5)
    have K5 := Lib.hid (K4.out.over L5)
    have hs5 := M5.out.size
    clear L5 K4 HD4 HD CZ CB X4 O4 Z3 L3 L4 M4 M2 K2
    obtain ⟨_, gd, _⟩ := FA.out _ _ K5.out
    go_wp2_with fail
    refine (CT.out w5 M5.out).mono ?_
    rintro e w6 ⟨v, rfl, ho, L6⟩
    have HO := Lib.hid ho
    have L6' := Lib.hid L6
    clear ho L6
    go_wp2
    go_ret2
    exact HQ.out _ _ ⟨_, rfl, HO.out.mono hs5, step M5.out L6'.out⟩
  have b3 : (c == 3) = false := by simpa using h3
  have h2 : askErrP c a = 0 := by unfold askErrP; rw [if_pos ⟨hk, hz⟩, if_neg h0, if_neg h1, if_neg h3]
  have HQ : Hid (∀ e w', (∃ v, e = .returned (.tuple #[v, .int .i64 0]) ∧ OwnB w' w.heap.size v (List.replicate 4 0) ∧ Below w.heap.size w w') → PAskPostB w c a e w') := by
    intro e w' hh
    unfold PAskPostB askOfP
    rw [h2, if_pos rfl, if_neg h0, if_neg h1, if_neg h3]
    exact hh
  obtain ⟨b, hb⟩ : ∃ b, b = besideAsk c a := ⟨_, rfl⟩
  rw [← hb] at CB CZ kb
  clear hk hz HA ka ha h2 h0 h1 h3 hb hu0 hu1
  go_enter Tryz.func103, Tryz.ntmps103
  go_wp2_with (first
    | ((with_reducible show wpList _ _ _ (⟨some 3, _, _, _, _, _⟩ :: _) _ _); refine wpList_box_blk rfl _ (.tmp 1) rfl cs rfl ?_; intro g w1 hg1 hg2 K1 L1)
    | ((with_reducible show wpList _ _ _ (⟨some 12, _, _, _, _, _⟩ :: _) _ _); refine wpList_load_blk rfl _ (.tmp 3) rfl g rfl _ cs K1 69 _ Tryz.underlying34 rfl size_ask HL ?_)
    | fail)
  refine (CB.out w1 L1.out).mono ?_
  rintro e w2 ⟨ds, rfl, hds, L2⟩
  have HD := Lib.hid hds
  have HDL := Lib.hid (hds.len kb)
  have HDO := Lib.hid hds.one
  have K2 := Lib.hid (K1.out.over L2)
  have M2 := Lib.hid (step L1.out L2)
  clear hds L2 K1
  go_wp2_with (first
    | ((with_reducible show wpList _ _ _ (⟨some 6, _, _, _, _, _⟩ :: _) _ _); refine wpList_alloc_blk rfl _ rfl zs _ ZH ?_; intro h w3 hg3 hg4 Z3 L3)
    | ((with_reducible show wpList _ _ _ (⟨none, .store _ (.tmp 6) _, _, _, _, _⟩ :: _) _ _); refine wpList_store_blk rfl _ (.tmp 6) (.tmp 14) rfl h rfl _ zs ds rfl Z3 69 size_ask HZ HDL HDO ?_; intro w4 X4 O4 hg5; have L4 := Lib.hid (below_only L3.out O4.out hg3); have M4 := Lib.hid (step M2.out L4.out); have K4 := Lib.hid (K2.out.over L4.out); have HD4 := Lib.hid (HD.out.over L4.out))
    | ((with_reducible show wpList _ _ _ (⟨some 19, _, _, _, _, _⟩ :: _) _ _); refine wpList_load_want (by kernel_rfl) _ (.tmp 6) rfl h rfl _ ds X4 69 _ Tryz.underlying34 rfl size_ask HDL ?_)
    | fail)
  refine (CZ.out w4 ds HD4.out).mono ?_
  rintro e w5 ⟨rfl, L5⟩
  have M5 := Lib.hid (step M4.out L5)
  have K5 := Lib.hid (K4.out.over L5)
  have hs5 := M5.out.size
  clear L5 K4 HD4 HD CZ CB X4 O4 Z3 L3 L4 M4 M2 K2
  go_wp2_with (at_make; refine wpList_make_bytes _ rfl _ _ rfl _ _ 4 rfl rfl rfl rfl (by omega) ?_; intro w6 R6 L6)
  go_ret2
  exact HQ.out _ _ ⟨_, rfl, row_zerosB R6.out hs5 (by omega), step M5.out L6⟩
set_option maxHeartbeats 4000000 in
theorem PutSayB_any (w : World) (c : Int) (cs : List Value) (a : SayV) (hc : 0 ≤ c ∧ c ≤ 65535) (ka : a.ok) (ha : SayIs w w.heap.size cs a) :
    Calls Tryz.prog 105 #[.int .u16 c, .agg cs.toArray] w (PSayPostB w c a) := by
  have HL := Lib.hid (ha.len ka)
  have HO1 := Lib.hid ha.one
  have ZH := Lib.hid zero_say
  have HZ : Hid ((scells (.slice none 0 0) (.slice none 0 0) zeroSay).length = 20) := scells_len zeroSay_ok
  have HA := Lib.hid ha
  have CB : Hid (∀ w' : World, Below w.heap.size w w' → Calls Tryz.prog 147 #[.int .u16 c, .agg cs.toArray] w' fun e w2 => ∃ ds, e = .returned (.tuple #[.agg ds.toArray, .bool (knownT c)]) ∧ SayIs w2 w2.heap.size ds (if knownT c = true then besideSay c a else zeroSay) ∧ Below w'.heap.size w' w2) := fun w' hb => sayBeside_any w' c cs a hc ka (ha.over hb)
  obtain ⟨zs, hzs⟩ : ∃ zs, zs = scells (.slice none 0 0) (.slice none 0 0) zeroSay := ⟨_, rfl⟩
  rw [← hzs] at ZH HZ
  clear hzs
  by_cases hk : knownT c = true
  rotate_left
  · have hk' : knownT c = false := by simpa using hk
    have HQ : Hid (∀ e w', e = .returned (.tuple #[.slice none 0 0, .int .i64 2]) → Below w.heap.size w w' → PSayPostB w c a e w') := by
      intro e w' he hb
      have h2 : sayErrP c a = 2 := by unfold sayErrP; rw [if_neg (fun h => hk h.1)]
      unfold PSayPostB sayOfP
      rw [h2, if_neg (by decide)]
      exact ⟨_, he, OwnZ.nil _ _ _ _, hb⟩
    rw [if_neg hk, hk'] at CB
    have kb := zeroSay_ok
    clear hk hk' HA ka ha
    go_enter Tryz.func105, Tryz.ntmps105
    go_wp2_with (first
      | ((with_reducible show wpList _ _ _ (⟨some 3, _, _, _, _, _⟩ :: _) _ _); refine wpList_box_blk rfl _ (.tmp 1) rfl cs rfl ?_; intro g w1 hg1 hg2 K1 L1)
      | ((with_reducible show wpList _ _ _ (⟨some 12, _, _, _, _, _⟩ :: _) _ _); refine wpList_load_blk rfl _ (.tmp 3) rfl g rfl _ cs K1 20 _ Tryz.underlying39 rfl size_say HL ?_)
      | fail)
    refine (CB.out w1 L1.out).mono ?_
    rintro e w2 ⟨ds, rfl, hds, L2⟩
    have HD := Lib.hid hds
    have HDL := Lib.hid (hds.len kb)
    have HDO := Lib.hid hds.one
    have K2 := Lib.hid (K1.out.over L2)
    have M2 := Lib.hid (step L1.out L2)
    clear hds L2 K1
    go_wp2_with (first
      | ((with_reducible show wpList _ _ _ (⟨some 6, _, _, _, _, _⟩ :: _) _ _); refine wpList_alloc_blk rfl _ rfl zs _ ZH ?_; intro h w3 hg3 hg4 Z3 L3)
      | ((with_reducible show wpList _ _ _ (⟨none, .store _ (.tmp 6) _, _, _, _, _⟩ :: _) _ _); refine wpList_store_blk rfl _ (.tmp 6) (.tmp 14) rfl h rfl _ zs ds rfl Z3 20 size_say HZ HDL HDO ?_; intro w4 X4 O4 hg5; have L4 := Lib.hid (below_only L3.out O4.out hg3); have M4 := Lib.hid (step M2.out L4.out); have K4 := Lib.hid (K2.out.over L4.out); have HD4 := Lib.hid (HD.out.over L4.out))
      | fail)
    go_ret2
    exact HQ.out _ _ rfl M4.out
  rw [if_pos hk, hk] at CB
  have kb := besideSay_ok (c := c) ka
  have CZ : Hid (∀ (w' : World) (ds : List Value), SayIs w' w'.heap.size ds (besideSay c a) → Calls Tryz.prog 148 #[.agg ds.toArray] w' fun e w2 => e = .returned (.bool (decide (besideSay c a = zeroSay))) ∧ Below w'.heap.size w' w2) := fun w' ds hds => isZeroSay_any w' ds _ kb hds
  by_cases hz : besideSay c a = zeroSay
  rotate_left
  · rw [decide_eq_false hz] at CZ
    have HQ : Hid (∀ e w', e = .returned (.tuple #[.slice none 0 0, .int .i64 2]) → Below w.heap.size w w' → PSayPostB w c a e w') := by
      intro e w' he hb
      have h2 : sayErrP c a = 2 := by unfold sayErrP; rw [if_neg (fun h => hz h.2.1)]
      unfold PSayPostB sayOfP
      rw [h2, if_neg (by decide)]
      exact ⟨_, he, OwnZ.nil _ _ _ _, hb⟩
    obtain ⟨b, hb⟩ : ∃ b, b = besideSay c a := ⟨_, rfl⟩
    rw [← hb] at CB CZ kb
    clear hk hz HA ka ha hb
    go_enter Tryz.func105, Tryz.ntmps105
    go_wp2_with (first
      | ((with_reducible show wpList _ _ _ (⟨some 3, _, _, _, _, _⟩ :: _) _ _); refine wpList_box_blk rfl _ (.tmp 1) rfl cs rfl ?_; intro g w1 hg1 hg2 K1 L1)
      | ((with_reducible show wpList _ _ _ (⟨some 12, _, _, _, _, _⟩ :: _) _ _); refine wpList_load_blk rfl _ (.tmp 3) rfl g rfl _ cs K1 20 _ Tryz.underlying39 rfl size_say HL ?_)
      | fail)
    refine (CB.out w1 L1.out).mono ?_
    rintro e w2 ⟨ds, rfl, hds, L2⟩
    have HD := Lib.hid hds
    have HDL := Lib.hid (hds.len kb)
    have HDO := Lib.hid hds.one
    have K2 := Lib.hid (K1.out.over L2)
    have M2 := Lib.hid (step L1.out L2)
    clear hds L2 K1
    go_wp2_with (first
      | ((with_reducible show wpList _ _ _ (⟨some 6, _, _, _, _, _⟩ :: _) _ _); refine wpList_alloc_blk rfl _ rfl zs _ ZH ?_; intro h w3 hg3 hg4 Z3 L3)
      | ((with_reducible show wpList _ _ _ (⟨none, .store _ (.tmp 6) _, _, _, _, _⟩ :: _) _ _); refine wpList_store_blk rfl _ (.tmp 6) (.tmp 14) rfl h rfl _ zs ds rfl Z3 20 size_say HZ HDL HDO ?_; intro w4 X4 O4 hg5; have L4 := Lib.hid (below_only L3.out O4.out hg3); have M4 := Lib.hid (step M2.out L4.out); have K4 := Lib.hid (K2.out.over L4.out); have HD4 := Lib.hid (HD.out.over L4.out))
      | ((with_reducible show wpList _ _ _ (⟨some 19, _, _, _, _, _⟩ :: _) _ _); refine wpList_load_want (by kernel_rfl) _ (.tmp 6) rfl h rfl _ ds X4 20 _ Tryz.underlying39 rfl size_say HDL ?_)
      | fail)
    refine (CZ.out w4 ds HD4.out).mono ?_
    rintro e w5 ⟨rfl, L5⟩
    have M5 := Lib.hid (step M4.out L5)
    have K5 := Lib.hid (K4.out.over L5)
    have hs5 := M5.out.size
    clear L5 K4 HD4 HD CZ CB X4 O4 Z3 L3 L4 M4 M2 K2
    go_wp2
    go_ret2
    exact HQ.out _ _ rfl M5.out
  rw [decide_eq_true hz] at CZ
  by_cases h0 : c = 0
  rotate_left
  · have h2 : sayErrP c a = 0 := by unfold sayErrP; rw [if_pos ⟨hk, hz, fun h => absurd h h0⟩]
    have HQ : Hid (∀ e w', (∃ v, e = .returned (.tuple #[v, .int .i64 0]) ∧ OwnB w' w.heap.size v (List.replicate 4 0) ∧ Below w.heap.size w w') → PSayPostB w c a e w') := by
      intro e w' hh
      unfold PSayPostB sayOfP
      rw [h2, if_pos rfl, if_neg h0]
      exact hh
    have b0 : (c != 0) = true := by simpa using h0
    obtain ⟨b, hb⟩ : ∃ b, b = besideSay c a := ⟨_, rfl⟩
    rw [← hb] at CB CZ kb
    clear hk hz HA ka ha h2 h0 hb
    go_enter Tryz.func105, Tryz.ntmps105
    go_wp2_with (first
      | ((with_reducible show wpList _ _ _ (⟨some 3, _, _, _, _, _⟩ :: _) _ _); refine wpList_box_blk rfl _ (.tmp 1) rfl cs rfl ?_; intro g w1 hg1 hg2 K1 L1)
      | ((with_reducible show wpList _ _ _ (⟨some 12, _, _, _, _, _⟩ :: _) _ _); refine wpList_load_blk rfl _ (.tmp 3) rfl g rfl _ cs K1 20 _ Tryz.underlying39 rfl size_say HL ?_)
      | fail)
    refine (CB.out w1 L1.out).mono ?_
    rintro e w2 ⟨ds, rfl, hds, L2⟩
    have HD := Lib.hid hds
    have HDL := Lib.hid (hds.len kb)
    have HDO := Lib.hid hds.one
    have K2 := Lib.hid (K1.out.over L2)
    have M2 := Lib.hid (step L1.out L2)
    clear hds L2 K1
    go_wp2_with (first
      | ((with_reducible show wpList _ _ _ (⟨some 6, _, _, _, _, _⟩ :: _) _ _); refine wpList_alloc_blk rfl _ rfl zs _ ZH ?_; intro h w3 hg3 hg4 Z3 L3)
      | ((with_reducible show wpList _ _ _ (⟨none, .store _ (.tmp 6) _, _, _, _, _⟩ :: _) _ _); refine wpList_store_blk rfl _ (.tmp 6) (.tmp 14) rfl h rfl _ zs ds rfl Z3 20 size_say HZ HDL HDO ?_; intro w4 X4 O4 hg5; have L4 := Lib.hid (below_only L3.out O4.out hg3); have M4 := Lib.hid (step M2.out L4.out); have K4 := Lib.hid (K2.out.over L4.out); have HD4 := Lib.hid (HD.out.over L4.out))
      | ((with_reducible show wpList _ _ _ (⟨some 19, _, _, _, _, _⟩ :: _) _ _); refine wpList_load_want (by kernel_rfl) _ (.tmp 6) rfl h rfl _ ds X4 20 _ Tryz.underlying39 rfl size_say HDL ?_)
      | fail)
    refine (CZ.out w4 ds HD4.out).mono ?_
    rintro e w5 ⟨rfl, L5⟩
    have M5 := Lib.hid (step M4.out L5)
    have K5 := Lib.hid (K4.out.over L5)
    have hs5 := M5.out.size
    clear L5 K4 HD4 HD CZ CB X4 O4 Z3 L3 L4 M4 M2 K2
    go_wp2_with (at_make; refine wpList_make_bytes _ rfl _ _ rfl _ _ 4 rfl rfl rfl rfl (by omega) ?_; intro w6 R6 L6)
    go_ret2
    exact HQ.out _ _ ⟨_, rfl, row_zerosB R6.out hs5 (by omega), step M5.out L6⟩
  have b0 : (c != 0) = false := by simpa using h0
  have FA : Hid (∀ (w : World) (g : Nat), Blk w g 39 cs → w.cell? ⟨g, 0, none⟩ = some (.int .u16 a.dia) ∧ w.cell? ⟨g, 1, none⟩ = some (.int .u64 a.siz) ∧ Holds w w.heap.size (some ⟨g, 2, none⟩) 8 8 a.chal) := by
    intro w g h
    obtain ⟨X1, X2, X3, M1, M2, M3, rfl, _⟩ := HA.out
    exact ⟨h.at rfl, h.at rfl, scells_chalH ka h⟩
  obtain ⟨s0, s1⟩ := ka.siz
  obtain ⟨d0, d1⟩ := ka.dia
  by_cases hs : a.siz < 4294967296
  rotate_left
  · have h2 : sayErrP c a = 2 := by unfold sayErrP; rw [if_neg (fun h => hs (h.2.2 h0))]
    have HQ : Hid (∀ e w', e = .returned (.tuple #[.slice none 0 0, .int .i64 2]) → Below w.heap.size w w' → PSayPostB w c a e w') := by
      intro e w' he hb
      unfold PSayPostB sayOfP
      rw [h2, if_neg (by decide)]
      exact ⟨_, he, OwnZ.nil _ _ _ _, hb⟩
    have CP : Hid (∀ w' : World, Calls Tryz.prog 54 #[.int .u64 a.siz, .int .i64 4] w' fun e w2 => ∃ A', e = .returned (.tuple #[.slice A' 0 0, .int .i64 2]) ∧ Below w'.heap.size w' w2) := fun w' => by
      have h := Put_any w' a.siz 4 ⟨s0, s1⟩ (by omega)
      unfold PutPost at h
      have hp : putOk a.siz 4 = false := by unfold putOk; rw [show ((4 : Int).toNat) = 4 from rfl, show (256 : Int) ^ 4 = 4294967296 from by decide, decide_eq_false hs]; simp
      unfold putErr putOf at h
      rw [if_neg (by rw [hp]; decide), if_neg (by rw [hp]; decide)] at h
      exact h.mono fun e w2 ⟨A', h1, _, h3⟩ => ⟨A', h1, h3⟩
    obtain ⟨sz, hsz⟩ : ∃ x, x = a.siz := ⟨_, rfl⟩
    rw [← hsz] at FA CP
    obtain ⟨b, hb⟩ : ∃ b, b = besideSay c a := ⟨_, rfl⟩
    rw [← hb] at CB CZ kb
    clear hk hz HA ka ha h2 h0 hb hs s0 s1 hsz
    go_enter Tryz.func105, Tryz.ntmps105
    go_wp2_with (first
      | ((with_reducible show wpList _ _ _ (⟨some 3, _, _, _, _, _⟩ :: _) _ _); refine wpList_box_blk rfl _ (.tmp 1) rfl cs rfl ?_; intro g w1 hg1 hg2 K1 L1)
      | ((with_reducible show wpList _ _ _ (⟨some 12, _, _, _, _, _⟩ :: _) _ _); refine wpList_load_blk rfl _ (.tmp 3) rfl g rfl _ cs K1 20 _ Tryz.underlying39 rfl size_say HL ?_)
      | fail)
    refine (CB.out w1 L1.out).mono ?_
    rintro e w2 ⟨ds, rfl, hds, L2⟩
    have HD := Lib.hid hds
    have HDL := Lib.hid (hds.len kb)
    have HDO := Lib.hid hds.one
    have K2 := Lib.hid (K1.out.over L2)
    have M2 := Lib.hid (step L1.out L2)
    clear hds L2 K1
    go_wp2_with (first
      | ((with_reducible show wpList _ _ _ (⟨some 6, _, _, _, _, _⟩ :: _) _ _); refine wpList_alloc_blk rfl _ rfl zs _ ZH ?_; intro h w3 hg3 hg4 Z3 L3)
      | ((with_reducible show wpList _ _ _ (⟨none, .store _ (.tmp 6) _, _, _, _, _⟩ :: _) _ _); refine wpList_store_blk rfl _ (.tmp 6) (.tmp 14) rfl h rfl _ zs ds rfl Z3 20 size_say HZ HDL HDO ?_; intro w4 X4 O4 hg5; have L4 := Lib.hid (below_only L3.out O4.out hg3); have M4 := Lib.hid (step M2.out L4.out); have K4 := Lib.hid (K2.out.over L4.out); have HD4 := Lib.hid (HD.out.over L4.out))
      | ((with_reducible show wpList _ _ _ (⟨some 19, _, _, _, _, _⟩ :: _) _ _); refine wpList_load_want (by kernel_rfl) _ (.tmp 6) rfl h rfl _ ds X4 20 _ Tryz.underlying39 rfl size_say HDL ?_)
      | fail)
    refine (CZ.out w4 ds HD4.out).mono ?_
    rintro e w5 ⟨rfl, L5⟩
    have M5 := Lib.hid (step M4.out L5)
    have K5 := Lib.hid (K4.out.over L5)
    have hs5 := M5.out.size
    clear L5 K4 HD4 HD CZ CB X4 O4 Z3 L3 L4 M4 M2 K2
    obtain ⟨_, gd, _⟩ := FA.out _ _ K5.out
    go_wp2_with fail
    refine (CP.out w5).mono ?_
    rintro e w6 ⟨A', rfl, L6⟩
    go_wp2
    go_ret2
    exact HQ.out _ _ rfl (step M5.out L6)
  have h2 : sayErrP c a = 0 := by unfold sayErrP; rw [if_pos ⟨hk, hz, fun _ => hs⟩]
  have HQ : Hid (∀ e w', (∃ v, e = .returned (.tuple #[v, .int .i64 0]) ∧ OwnB w' w.heap.size v (le a.dia 2 ++ List.replicate 2 0 ++ le a.siz 4 ++ a.chal) ∧ Below w.heap.size w w') → PSayPostB w c a e w') := by
    intro e w' hh
    unfold PSayPostB sayOfP
    rw [h2, if_pos rfl, if_pos h0]
    exact hh
  have CP : Hid (∀ w' : World, Calls Tryz.prog 54 #[.int .u64 a.siz, .int .i64 4] w' fun e w2 => ∃ A', e = .returned (.tuple #[.slice A' 4 4, .int .i64 0]) ∧ Fresh w2 w'.heap.size A' (le a.siz 4) ∧ Below w'.heap.size w' w2) := fun w' => by
    have h := Put_any w' a.siz 4 ⟨s0, s1⟩ (by omega)
    unfold PutPost at h
    have hp : putOk a.siz 4 = true := by unfold putOk; rw [show ((4 : Int).toNat) = 4 from rfl, show (256 : Int) ^ 4 = 4294967296 from by decide, decide_eq_true hs]; rfl
    unfold putErr putOf at h
    rw [if_pos hp, if_pos hp, show ((4 : Int).toNat) = 4 from rfl, le_length] at h
    exact h
  have CD : Hid (∀ w' : World, Calls Tryz.prog 149 #[.int .u64 a.dia, .int .i64 2] w' fun e w2 => ∃ A', e = .returned (.slice A' 2 2) ∧ Fresh w2 w'.heap.size A' (le a.dia 2) ∧ Below w'.heap.size w' w2) := fun w' => number_le w' a.dia d0 d1
  have CC : Hid (∀ (w : World) (gs m : Nat) (A : Nat → Option Addr) (n c : Nat → Nat) (X : Nat → List Int), Parts w gs m A n c X → m ≤ 1000 → sumN n m ≤ 140737488355328 → Calls Tryz.prog 35 #[.slice (some ⟨gs, 0, none⟩) m m] w fun e w' => ∃ v, e = .returned v ∧ OwnB w' w.heap.size v (catL X m) ∧ Below w.heap.size w w') := ConcatZ_any
  have hdz : IntKind.u64.wrap a.dia = a.dia := by rw [IntKind.wrap_u64]; omega
  have HLS : Hid ((le a.siz 4).length = 4) := le_length _ _
  have HBS : Hid (Bytes (le a.siz 4)) := le_bytes _ _
  have HLD : Hid ((le a.dia 2).length = 2) := le_length _ _
  have HBD : Hid (Bytes (le a.dia 2)) := le_bytes _ _
  obtain ⟨ls, hls⟩ : ∃ x, x = le a.siz 4 := ⟨_, rfl⟩
  obtain ⟨ld, hld⟩ : ∃ x, x = le a.dia 2 := ⟨_, rfl⟩
  rw [← hls, ← hld] at HQ
  rw [← hls] at CP HLS HBS
  rw [← hld] at CD HLD HBD
  obtain ⟨sz, hsz⟩ : ∃ x, x = a.siz := ⟨_, rfl⟩
  obtain ⟨dz, hdz'⟩ : ∃ x, x = a.dia := ⟨_, rfl⟩
  obtain ⟨ch, hch⟩ : ∃ x, x = a.chal := ⟨_, rfl⟩
  rw [← hsz, ← hdz', ← hch] at FA
  rw [← hsz] at CP
  rw [← hdz'] at CD hdz
  rw [← hch] at HQ
  obtain ⟨b, hb⟩ : ∃ b, b = besideSay c a := ⟨_, rfl⟩
  rw [← hb] at CB CZ kb
  clear hk hz HA ka ha h2 h0 hb hs s0 s1 d0 d1 hsz hdz' hch hls hld
  go_enter Tryz.func105, Tryz.ntmps105
  go_wp2_with (first
    | ((with_reducible show wpList _ _ _ (⟨some 3, _, _, _, _, _⟩ :: _) _ _); refine wpList_box_blk rfl _ (.tmp 1) rfl cs rfl ?_; intro g w1 hg1 hg2 K1 L1)
    | ((with_reducible show wpList _ _ _ (⟨some 12, _, _, _, _, _⟩ :: _) _ _); refine wpList_load_blk rfl _ (.tmp 3) rfl g rfl _ cs K1 20 _ Tryz.underlying39 rfl size_say HL ?_)
    | fail)
  refine (CB.out w1 L1.out).mono ?_
  rintro e w2 ⟨ds, rfl, hds, L2⟩
  have HD := Lib.hid hds
  have HDL := Lib.hid (hds.len kb)
  have HDO := Lib.hid hds.one
  have K2 := Lib.hid (K1.out.over L2)
  have M2 := Lib.hid (step L1.out L2)
  clear hds L2 K1
  go_wp2_with (first
    | ((with_reducible show wpList _ _ _ (⟨some 6, _, _, _, _, _⟩ :: _) _ _); refine wpList_alloc_blk rfl _ rfl zs _ ZH ?_; intro h w3 hg3 hg4 Z3 L3)
    | ((with_reducible show wpList _ _ _ (⟨none, .store _ (.tmp 6) _, _, _, _, _⟩ :: _) _ _); refine wpList_store_blk rfl _ (.tmp 6) (.tmp 14) rfl h rfl _ zs ds rfl Z3 20 size_say HZ HDL HDO ?_; intro w4 X4 O4 hg5; have L4 := Lib.hid (below_only L3.out O4.out hg3); have M4 := Lib.hid (step M2.out L4.out); have K4 := Lib.hid (K2.out.over L4.out); have HD4 := Lib.hid (HD.out.over L4.out))
    | ((with_reducible show wpList _ _ _ (⟨some 19, _, _, _, _, _⟩ :: _) _ _); refine wpList_load_want (by kernel_rfl) _ (.tmp 6) rfl h rfl _ ds X4 20 _ Tryz.underlying39 rfl size_say HDL ?_)
    | fail)
  refine (CZ.out w4 ds HD4.out).mono ?_
  rintro e w5 ⟨rfl, L5⟩
  have M5 := Lib.hid (step M4.out L5)
  have K5 := Lib.hid (K4.out.over L5)
  have hs5 := M5.out.size
  clear L5 K4 HD4 HD CZ CB X4 O4 Z3 L3 L4 M4 M2 K2
  obtain ⟨_, gd, _⟩ := FA.out _ _ K5.out
  go_wp2_with fail
  refine (CP.out w5).mono ?_
  rintro e w6 ⟨A6, rfl, hf6, L6⟩
  have K6 := Lib.hid (K5.out.over L6)
  have M6 := Lib.hid (step M5.out L6)
  have HF6 := Lib.hid (hf6.holds HLS.out HBS.out (by omega))
  clear hf6 L6 gd CP K5
  go_upto_region 9 with fail
  refine wp_region_held (S := fun w' => Blk w' g 39 cs) (by kernel_rfl) ?_
  change wpAnyH _ _ _ _ _ _ _ _ w6.drew
  have S0 : Hid (Blk w6.drew g 39 cs) := K6.out.drew
  have b0 : Hid (Below w.heap.size w w6.drew) := M6.out.drew
  refine wpAnyH_take (i := 0) (v := _) rfl (by kernel_rfl) (by kernel_rfl) (by kernel_rfl) (fun _ _ _ h => h) (yieldsIf_fld (by kernel_rfl) _ (.tmp 3) 0 rfl (.pointer (some ⟨g, 0, none⟩)) (.pointer (some ⟨g, 0, none⟩)) (by kernel_rfl) (fld_isZeroSay_0 g)) S0.out ?_
  refine wpAnyH_take (i := 1) (v := _) rfl (by kernel_rfl) (by kernel_rfl) (by kernel_rfl) (fun _ _ _ h => h) (yieldsIf_load_one (by kernel_rfl) _ (.tmp 35) rfl g 0 (by kernel_rfl) (.int .u16 dz) (fun w h => (FA.out w g h).1) _ Tryz.underlying22 rfl) S0.out ?_
  refine wpAnyH_take (i := 2) (v := (.int .u64 dz)) rfl (by kernel_rfl) (by kernel_rfl) (by kernel_rfl) (fun _ _ _ h => h) (.inl ⟨by kernel_rfl, fun w _ => by go_simp⟩) S0.out ?_
  refine wpAnyH_take (i := 5) (v := _) rfl (by kernel_rfl) (by kernel_rfl) (by kernel_rfl) (fun _ _ _ h => h) (yieldsIf_move (by kernel_rfl) (.tmp 8) rfl (.slice A6 4 4) (by kernel_rfl)) S0.out ?_
  refine wpAnyH_take (i := 6) (v := _) rfl (by kernel_rfl) (by kernel_rfl) (by kernel_rfl) (fun _ _ _ h => h) (yieldsIf_fld (by kernel_rfl) _ (.tmp 3) 2 rfl (.pointer (some ⟨g, 0, none⟩)) (.pointer (some ⟨g, 2, none⟩)) (by kernel_rfl) (fld_isZeroSay_2 g)) S0.out ?_
  refine wpAnyH_take (i := 7) (v := (.slice (some ⟨g, 2, none⟩) 8 8)) rfl (by kernel_rfl) (by kernel_rfl) (by kernel_rfl) (fun _ _ _ h => h) (.inl ⟨by kernel_rfl, fun w _ => by go_simp⟩) S0.out ?_
  refine wpAnyH_two 3 4 _ _ (by kernel_rfl) rfl rfl (fun K hK => ?_) (fun K hK => ?_)
  · go_simp
    refine (CD.out _).mono ?_
    rintro e v1 ⟨A3, rfl, hf3, L3⟩
    have S1 := Lib.hid (S0.out.over L3)
    have b1 := Lib.hid (step b0.out L3)
    have HN1 := Lib.hid (hf3.holds HLD.out HBD.out (by omega))
    have HS1 := Lib.hid (HF6.out.drew.over L3)
    refine hK _ _ S1.out ?_
    clear hK K hf3 L3
    refine wpAnyH_one 4 _ (by kernel_rfl) rfl fun K hK => ?_
    refine step_make_bytes rfl _ _ rfl 2 rfl rfl (by omega) ?_
    intro v2 R2 b2'
    have S2 := Lib.hid (S1.out.over b2'.out)
    have b2 := Lib.hid (step b1.out b2'.out)
    have HN2 := Lib.hid (HN1.out.over b2'.out)
    have HS2 := Lib.hid (HS1.out.over b2'.out)
    have HZ2 : Hid (Holds v2 v2.heap.size (some ⟨v1.heap.size, 0, none⟩) 2 2 (List.replicate 2 0)) := Fresh.holds (base := 0) (.inr ⟨_, rfl, Nat.zero_le _, R2.out⟩) rfl (Bytes.zeros 2) (by omega)
    refine hK _ _ S2.out ?_
    clear hK K
    refine wpAnyH_frame fun a1 ha1 => ?_
    refine wpAnyH_one 8 _ (by kernel_rfl) rfl fun K hK => ?_
    refine step_slice_blk rfl _ _ 4 _ rfl Tryz.underlying99 [.slice A3 2 2, .slice (some ⟨v1.heap.size, 0, none⟩) 2 2, .slice A6 4 4, .slice (some ⟨g, 2, none⟩) 8 8] (by rw [ha1]; kernel_rfl) ?_
    intro g9 v3 q2 q3 Y3 b3'
    have S3 := Lib.hid (S2.out.over b3'.out)
    have b3 := Lib.hid (step b2.out b3'.out)
    obtain ⟨_, _, hch⟩ := FA.out _ _ S3.out
    have PP : Hid (Parts v3 g9 4 (partA [(A3, 2, 2, ld), (some ⟨v1.heap.size, 0, none⟩, 2, 2, List.replicate 2 0), (A6, 4, 4, ls), (some ⟨g, 2, none⟩, 8, 8, ch)]) (partN [(A3, 2, 2, ld), (some ⟨v1.heap.size, 0, none⟩, 2, 2, List.replicate 2 0), (A6, 4, 4, ls), (some ⟨g, 2, none⟩, 8, 8, ch)]) (partC [(A3, 2, 2, ld), (some ⟨v1.heap.size, 0, none⟩, 2, 2, List.replicate 2 0), (A6, 4, 4, ls), (some ⟨g, 2, none⟩, 8, 8, ch)]) (partX [(A3, 2, 2, ld), (some ⟨v1.heap.size, 0, none⟩, 2, 2, List.replicate 2 0), (A6, 4, 4, ls), (some ⟨g, 2, none⟩, 8, 8, ch)])) :=
      Parts.of_blk [(A3, 2, 2, ld), (some ⟨v1.heap.size, 0, none⟩, 2, 2, List.replicate 2 0), (A6, 4, 4, ls), (some ⟨g, 2, none⟩, 8, 8, ch)] Y3.out (List.forall_mem_cons.2 ⟨HN2.out.over b3'.out, List.forall_mem_cons.2 ⟨HZ2.out.over b3'.out, List.forall_mem_cons.2 ⟨HS2.out.over b3'.out, List.forall_mem_cons.2 ⟨hch, fun _ h => by cases h⟩⟩⟩⟩)
    refine hK _ _ S3.out ?_
    clear hK K hch
    rw [ha1]
    clear ha1 a1
    refine wpAnyH_one 9 _ (by kernel_rfl) rfl fun K hK => ?_
    go_simp
    refine (CC.out v3 g9 4 _ _ _ _ PP.out (by omega) (by show 0 + 2 + 2 + 4 + 8 ≤ _; omega)).mono ?_
    rintro e v4 ⟨v, rfl, ho, L4⟩
    have HOUT := Lib.hid ho
    have S4 := Lib.hid (S3.out.over L4)
    have b4 := Lib.hid (step b3.out L4)
    refine hK _ _ S4.out ?_
    clear hK K ho L4
    refine wpAnyH_one 10 _ (by kernel_rfl) rfl fun K hK => ?_
    go_simp
    refine hK _ _ S4.out ?_
    clear hK K
    refine wpAnyH_one 11 _ (by kernel_rfl) rfl fun K hK => ?_
    go_simp
    refine hK _ _ S4.out ?_
    clear hK K
    refine wpAnyH_done (by kernel_rfl) ?_ _
    go_wp2
    go_ret2
    refine HQ.out _ _ ⟨_, rfl, ?_, b4.out⟩
    have h9 := HOUT.out.mono (base' := w.heap.size) b3.out.size
    simpa [catL, partX, List.append_assoc] using h9
  · refine step_make_bytes rfl _ _ rfl 2 rfl rfl (by omega) ?_
    intro v1 R1 b1'
    have S1 := Lib.hid (S0.out.over b1'.out)
    have b1 := Lib.hid (step b0.out b1'.out)
    have HS1 := Lib.hid (HF6.out.drew.over b1'.out)
    have HZ1 : Hid (Holds v1 v1.heap.size (some ⟨w6.drew.heap.size, 0, none⟩) 2 2 (List.replicate 2 0)) := Fresh.holds (base := 0) (.inr ⟨_, rfl, Nat.zero_le _, R1.out⟩) rfl (Bytes.zeros 2) (by omega)
    refine hK _ _ S1.out ?_
    clear hK K
    refine wpAnyH_one 3 _ (by kernel_rfl) rfl fun K hK => ?_
    go_simp
    refine (CD.out _).mono ?_
    rintro e v2 ⟨A3, rfl, hf3, L3⟩
    have S2 := Lib.hid (S1.out.over L3)
    have b2 := Lib.hid (step b1.out L3)
    have HN2 := Lib.hid (hf3.holds HLD.out HBD.out (by omega))
    have HS2 := Lib.hid (HS1.out.over L3)
    have HZ2 := Lib.hid (HZ1.out.over L3)
    refine hK _ _ S2.out ?_
    clear hK K hf3 L3
    refine wpAnyH_frame fun a1 ha1 => ?_
    refine wpAnyH_one 8 _ (by kernel_rfl) rfl fun K hK => ?_
    refine step_slice_blk rfl _ _ 4 _ rfl Tryz.underlying99 [.slice A3 2 2, .slice (some ⟨w6.drew.heap.size, 0, none⟩) 2 2, .slice A6 4 4, .slice (some ⟨g, 2, none⟩) 8 8] (by rw [ha1]; kernel_rfl) ?_
    intro g9 v3 q2 q3 Y3 b3'
    have S3 := Lib.hid (S2.out.over b3'.out)
    have b3 := Lib.hid (step b2.out b3'.out)
    obtain ⟨_, _, hch⟩ := FA.out _ _ S3.out
    have PP : Hid (Parts v3 g9 4 (partA [(A3, 2, 2, ld), (some ⟨w6.drew.heap.size, 0, none⟩, 2, 2, List.replicate 2 0), (A6, 4, 4, ls), (some ⟨g, 2, none⟩, 8, 8, ch)]) (partN [(A3, 2, 2, ld), (some ⟨w6.drew.heap.size, 0, none⟩, 2, 2, List.replicate 2 0), (A6, 4, 4, ls), (some ⟨g, 2, none⟩, 8, 8, ch)]) (partC [(A3, 2, 2, ld), (some ⟨w6.drew.heap.size, 0, none⟩, 2, 2, List.replicate 2 0), (A6, 4, 4, ls), (some ⟨g, 2, none⟩, 8, 8, ch)]) (partX [(A3, 2, 2, ld), (some ⟨w6.drew.heap.size, 0, none⟩, 2, 2, List.replicate 2 0), (A6, 4, 4, ls), (some ⟨g, 2, none⟩, 8, 8, ch)])) :=
      Parts.of_blk [(A3, 2, 2, ld), (some ⟨w6.drew.heap.size, 0, none⟩, 2, 2, List.replicate 2 0), (A6, 4, 4, ls), (some ⟨g, 2, none⟩, 8, 8, ch)] Y3.out (List.forall_mem_cons.2 ⟨HN2.out.over b3'.out, List.forall_mem_cons.2 ⟨HZ2.out.over b3'.out, List.forall_mem_cons.2 ⟨HS2.out.over b3'.out, List.forall_mem_cons.2 ⟨hch, fun _ h => by cases h⟩⟩⟩⟩)
    refine hK _ _ S3.out ?_
    clear hK K hch
    rw [ha1]
    clear ha1 a1
    refine wpAnyH_one 9 _ (by kernel_rfl) rfl fun K hK => ?_
    go_simp
    refine (CC.out v3 g9 4 _ _ _ _ PP.out (by omega) (by show 0 + 2 + 2 + 4 + 8 ≤ _; omega)).mono ?_
    rintro e v4 ⟨v, rfl, ho, L4⟩
    have HOUT := Lib.hid ho
    have S4 := Lib.hid (S3.out.over L4)
    have b4 := Lib.hid (step b3.out L4)
    refine hK _ _ S4.out ?_
    clear hK K ho L4
    refine wpAnyH_one 10 _ (by kernel_rfl) rfl fun K hK => ?_
    go_simp
    refine hK _ _ S4.out ?_
    clear hK K
    refine wpAnyH_one 11 _ (by kernel_rfl) rfl fun K hK => ?_
    go_simp
    refine hK _ _ S4.out ?_
    clear hK K
    refine wpAnyH_done (by kernel_rfl) ?_ _
    go_wp2
    go_ret2
    refine HQ.out _ _ ⟨_, rfl, ?_, b4.out⟩
    have h9 := HOUT.out.mono (base' := w.heap.size) b3.out.size
    simpa [catL, partX, List.append_assoc] using h9
end Go.Proofs.YtpodpmckdiijhaaGreatDoor

namespace Go.Proofs.YtpodpmckdiijhaaGreatDoor
set_option linter.all false
set_option linter.unusedVariables false
set_option linter.unusedSimpArgs false
set_option maxRecDepth 100000
theorem b4 {xs : List Int} (hx : Bytes xs) (r : Rd) : 0 ≤ (rdN xs 4 r).1 ∧ (rdN xs 4 r).1 ≤ 4294967295 := by
  have := rdN_lt hx 4 r 4294967296 (by decide) (by decide); exact ⟨this.1, by omega⟩
theorem b1' {xs : List Int} (hx : Bytes xs) (r : Rd) : 0 ≤ (rdN xs 1 r).1 ∧ (rdN xs 1 r).1 ≤ 255 := by
  have := rdN_lt hx 1 r 256 (by decide) (by decide); exact ⟨this.1, by omega⟩
theorem b8 {xs : List Int} (hx : Bytes xs) (r : Rd) : 0 ≤ (rdN xs 8 r).1 ∧ (rdN xs 8 r).1 ≤ 18446744073709551615 := by
  have := rdN_lt hx 8 r 18446744073709551616 (by decide) (by decide); exact ⟨this.1, by omega⟩
theorem whole {xs ys : List Int} {r : Rd} (h : xs.take r.p = ys) (h2 : r.p = xs.length) : ys = xs := by
  rw [← h, h2, List.take_of_length_le (Nat.le_refl _)]
end Go.Proofs.YtpodpmckdiijhaaGreatDoor

namespace Go.Proofs.YtpodpmckdiijhaaGreatDoor
set_option linter.all false
set_option linter.unusedVariables false
set_option linter.unusedSimpArgs false
set_option maxRecDepth 100000
def knownI (c : Int) : Bool := decide (c = 12) || (decide (c = 14) || (decide (16 ≤ c) && decide (c ≤ 18)))
def knownIS (c : Int) : Bool := decide (c = 14) || (decide (16 ≤ c) && decide (c ≤ 18))
def truthI (b : Bool) : Int := if b = true then 1 else 0
/-- an Entry's bytes -/
def entryB (e : EntryV) : List Int := le e.kind 2 ++ (List.replicate 2 0 ++ (le e.size 8 ++ ptextOf e.name.data.toList))
def entriesB : List EntryV → List Int
  | [] => []
  | e :: r => entryB e ++ entriesB r
/-- the first error of names -/
def entsErr : List EntryV → Int
  | [] => 0
  | e :: r => if ptextErr e.name.data.toList = 0 then entsErr r else ptextErr e.name.data.toList
def entOk (e : EntryV) : Bool := decide (e.kind ≤ 2) && (decide (0 ≤ e.size) && decide (e.size ≤ 1048576))
def classI (a : AskV) : Bool := decide (1 ≤ a.cls) && decide (a.cls ≤ 3)
/-- an Ask without what its command's row names -/
def besideI (c : Int) (a : AskV) : AskV :=
  if c = 14 then { a with file := 0, most := 0, pat := .empty, aft := .empty }
  else if c = 16 then { a with file := 0 }
  else if c = 17 then (if a.cls = 1 then { a with siz := 0, file := 0, cls := 0 } else if a.cls = 2 then { a with on := false, file := 0, cls := 0 } else { a with on := false, name := .empty, file := 0, cls := 0 })
  else if c = 18 then { a with file := 0, lev := 0 }
  else a
def nameI (c : Int) (a : AskV) : Bool := knownI c && ((!decide (c = 17) || classI a) && decide (besideI c a = zeroAsk))
def ipErr (c : Int) (a : AskV) : Int :=
  if nameI c a = true then (if c = 14 then (if ptextErr a.pat.data.toList = 0 then ptextErr a.aft.data.toList else ptextErr a.pat.data.toList) else if c = 17 ∧ a.cls = 3 then ptextErr a.name.data.toList else 0) else 2
def bodyI (c : Int) (a : AskV) : List Int :=
  if c = 14 then le a.file 8 ++ (le a.most 2 ++ (List.replicate 2 0 ++ (ptextOf a.pat.data.toList ++ ptextOf a.aft.data.toList)))
  else if c = 16 then le a.file 8
  else if c = 17 then (if a.cls = 1 then le a.file 8 ++ (le a.cls 2 ++ le a.siz 8) else if a.cls = 2 then le a.file 8 ++ (le a.cls 2 ++ le (truthI a.on) 2) else le a.file 8 ++ (le a.cls 2 ++ (le (truthI a.on) 2 ++ ptextOf a.name.data.toList)))
  else if c = 18 then le a.file 8 ++ (le a.lev 1 ++ List.replicate 3 0)
  else List.replicate 4 0
def ipOf (c : Int) (a : AskV) : List Int := if ipErr c a = 0 then bodyI c a else []
def besideIS (c : Int) (s : SayV) : SayV :=
  if c = 14 then { s with ents := [], more := false }
  else if c = 16 then { s with siz := 0, kind := 0, gone := false }
  else if c = 18 then { s with file := 0, lev := 0 }
  else s
def nameIS (c : Int) (s : SayV) : Bool := knownIS c && decide (besideIS c s = zeroSay)
def jpErr (c : Int) (s : SayV) : Int := if nameIS c s = true ∧ s.kind ≤ 2 ∧ s.ents.all entOk = true then (if s.ents.length ≤ 64 then (if c = 14 then entsErr s.ents else 0) else 3) else 2
def bodyIS (c : Int) (s : SayV) : List Int :=
  if c = 14 then le s.ents.length 2 ++ (le (truthI s.more) 2 ++ entriesB s.ents)
  else if c = 16 then le s.siz 8 ++ (le s.kind 2 ++ le (truthI s.gone) 2)
  else if c = 18 then le s.file 8 ++ (le s.lev 1 ++ List.replicate 3 0)
  else List.replicate 4 0
def jpOf (c : Int) (s : SayV) : List Int := if jpErr c s = 0 then bodyIS c s else []
/-! ### reading -/
def rdT (xs : List Int) (r : Rd) : Int × Rd := rdMost xs 2 1 5 r
def rdK (xs : List Int) (r : Rd) : Int × Rd := rdMost xs 2 2 5 r
/-- an error that is kept if it is the first one -/
def rdFail (e : Int) (r : Rd) : Rd := if r.e = 0 then ⟨r.p, e⟩ else r
def e1 (xs : List Int) (r : Rd) := rdK xs r
def e2 (xs : List Int) (r : Rd) := rdZ xs 2 (e1 xs r).2
def e3 (xs : List Int) (r : Rd) := rdMost xs 8 1048576 5 (e2 xs r)
def e4 (xs : List Int) (r : Rd) := rdText xs (e3 xs r).2
def rdEnt (xs : List Int) (r : Rd) : EntryV × Rd := (⟨⟨(e4 xs r).1.toArray⟩, (e1 xs r).1, (e3 xs r).1⟩, (e4 xs r).2)
/-- k Entries: as a loop that never ends early -/
def rdEnts (xs : List Int) (r : Rd) : Nat → List EntryV × Rd
  | 0 => ([], r)
  | k + 1 => ((rdEnts xs r k).1 ++ [(rdEnt xs (rdEnts xs r k).2).1], (rdEnt xs (rdEnts xs r k).2).2)
/-- what is asked: of a List -/
def l1 (xs : List Int) := rdN xs 8 rd0
def l2 (xs : List Int) := rdN xs 2 (l1 xs).2
def l3 (xs : List Int) := rdZ xs 2 (l2 xs).2
def l4 (xs : List Int) := rdText xs (l3 xs)
def l5 (xs : List Int) := rdText xs (l4 xs).2
/-- of a Set (File, Class as of a List: l1, l2): Size, On, Name -/
def t3 (xs : List Int) := rdN xs 8 (l2 xs).2
def t4 (xs : List Int) := rdT xs (l2 xs).2
def t5 (xs : List Int) := rdText xs (t4 xs).2
/-- of a Break: Level, three noughts -/
def k2 (xs : List Int) := rdN xs 1 (l1 xs).2
def k3 (xs : List Int) := rdZ xs 3 (k2 xs).2
def igP (c : Int) (xs : List Int) : AskV × Rd :=
  if c = 14 then ({ zeroAsk with file := (l1 xs).1, most := (l2 xs).1, pat := ⟨(l4 xs).1.toArray⟩, aft := ⟨(l5 xs).1.toArray⟩ }, (l5 xs).2)
  else if c = 16 then ({ zeroAsk with file := (l1 xs).1 }, (l1 xs).2)
  else if c = 17 then (if (l2 xs).1 = 1 then ({ zeroAsk with file := (l1 xs).1, cls := (l2 xs).1, siz := (t3 xs).1 }, (t3 xs).2)
    else if (l2 xs).1 = 2 then ({ zeroAsk with file := (l1 xs).1, cls := (l2 xs).1, on := (t4 xs).1 != 0 }, (t4 xs).2)
    else if (l2 xs).1 = 3 then ({ zeroAsk with file := (l1 xs).1, cls := (l2 xs).1, on := (t4 xs).1 != 0, name := ⟨(t5 xs).1.toArray⟩ }, (t5 xs).2)
    else ({ zeroAsk with file := (l1 xs).1, cls := (l2 xs).1 }, rdFail 5 (l2 xs).2))
  else if c = 18 then ({ zeroAsk with file := (l1 xs).1, lev := (k2 xs).1 }, k3 xs)
  else (zeroAsk, rdZ xs 4 rd0)
def igErr (c : Int) (xs : List Int) : Int := if knownI c = true then rdEnd xs (igP c xs).2 else 2
def igOf (c : Int) (xs : List Int) : AskV := if igErr c xs = 0 then (igP c xs).1 else zeroAsk
/-- what is said: of a List -/
def m1 (xs : List Int) := rdMost xs 2 64 3 rd0
def m2 (xs : List Int) := rdT xs (m1 xs).2
def m3 (xs : List Int) := rdEnts xs (m2 xs).2 (m1 xs).1.toNat
/-- of a Query (Size as File: l1): Kind, Gone -/
def g2 (xs : List Int) := rdK xs (l1 xs).2
def g3 (xs : List Int) := rdT xs (g2 xs).2
def jgP (c : Int) (xs : List Int) : SayV × Rd :=
  if c = 14 then ({ zeroSay with ents := (m3 xs).1, more := (m2 xs).1 != 0 }, (m3 xs).2)
  else if c = 16 then ({ zeroSay with siz := (l1 xs).1, kind := (g2 xs).1, gone := (g3 xs).1 != 0 }, (g3 xs).2)
  else if c = 18 then ({ zeroSay with file := (l1 xs).1, lev := (k2 xs).1 }, k3 xs)
  else (zeroSay, rdZ xs 4 rd0)
def jgErr (c : Int) (xs : List Int) : Int := if knownIS c = true then rdEnd xs (jgP c xs).2 else 2
def jgOf (c : Int) (xs : List Int) : SayV := if jgErr c xs = 0 then (jgP c xs).1 else zeroSay
end Go.Proofs.YtpodpmckdiijhaaGreatDoor

namespace Go.Proofs.YtpodpmckdiijhaaGreatDoor
set_option linter.all false
open Go.RowKit
structure MsgV where
  h : Hd
  a : AskV
  s : SayV
structure MsgV.ok (m : MsgV) : Prop where
  h : m.h.ok
  a : m.a.ok
  s : m.s.ok
def isRep (f : Int) : Bool := decide (f % 2 = 1)
/-- whose row the body has -/
def rowM (h : Hd) : Int := if isRep h.fl = true ∧ h.st ≠ 0 then 13 else h.cm
def pae (c : Int) (a : AskV) : Int := if knownT c = true then askErrP c a else if c ≤ 10 then fpErr c a else ipErr c a
def pao (c : Int) (a : AskV) : List Int := if knownT c = true then askOfP c a else if c ≤ 10 then fpOf c a else ipOf c a
def pse (c : Int) (s : SayV) : Int := if knownT c = true then sayErrP c s else if c ≤ 10 then fsErr c s else jpErr c s
def pso (c : Int) (s : SayV) : List Int := if knownT c = true then sayOfP c s else if c ≤ 10 then fsOf c s else jpOf c s
def gae (c : Int) (xs : List Int) : Int := if knownT c = true then gaskErr c xs else if c ≤ 10 then fgErr c xs else igErr c xs
def gao (c : Int) (xs : List Int) : AskV := if knownT c = true then gaskOf c xs else if c ≤ 10 then fgOf c xs else igOf c xs
def gse (c : Int) (xs : List Int) : Int := if knownT c = true then gsayErr c xs else if c ≤ 10 then sgErr c xs else jgErr c xs
def gso (c : Int) (xs : List Int) : SayV := if knownT c = true then gsayOf c xs else if c ≤ 10 then sgOf c xs else jgOf c xs
def padM (n : Nat) : Nat := (8 - n % 8) % 8
def mbErr (m : MsgV) : Int := if isRep m.h.fl = true then (if askErrP 13 m.a = 0 then pse (rowM m.h) m.s else 2) else (if sayErrP 13 m.s = 0 then pae (rowM m.h) m.a else 2)
def mbOf (m : MsgV) : List Int := if mbErr m = 0 then (if isRep m.h.fl = true then pso (rowM m.h) m.s else pao (rowM m.h) m.a) else []
def mpErr (m : MsgV) : Int := if mayP m.h = true then mbErr m else 2
def padded (h : Hd) (b : List Int) : List Int := if h.nx = 0 then b else b ++ List.replicate (padM b.length) 0
def mpOf (m : MsgV) : List Int := if mpErr m = 0 then putH m.h ++ padded m.h (mbOf m) else []
def gbErr (h : Hd) (xs : List Int) : Int := if isRep h.fl = true then (if gse (rowM h) xs = 2 then 5 else gse (rowM h) xs) else gae (rowM h) xs
def gbA (h : Hd) (xs : List Int) : AskV := if isRep h.fl = true then zeroAsk else gao (rowM h) xs
def gbS (h : Hd) (xs : List Int) : SayV := if isRep h.fl = true then gso (rowM h) xs else zeroSay
def endsZ (xs : List Int) (n : Nat) : Bool := decide (xs.drop (xs.length - n) = List.replicate n 0)
def tryN (h : Hd) (xs : List Int) (n : Nat) : Bool := endsZ xs n && (decide (padM (xs.length - n) = n) && decide (gbErr h (xs.take (xs.length - n)) = 0))
def atN (h : Hd) (xs : List Int) : Option Nat := (List.range 8).find? (tryN h xs)
def bhErr (h : Hd) (xs : List Int) : Int := if h.nx = 0 then gbErr h xs else if (atN h xs).isSome = true then 0 else if gbErr h xs = 0 then 5 else gbErr h xs
def bhCut (h : Hd) (xs : List Int) : List Int := if h.nx = 0 then xs else xs.take (xs.length - (atN h xs).getD 0)
def mgErr (xs : List Int) : Int := if getErrH xs 0 = 0 then bhErr (getOfH xs 0) (xs.drop 64) else getErrH xs 0
def zeroMsg : MsgV := ⟨zeroHd, zeroAsk, zeroSay⟩
def mgOf (xs : List Int) : MsgV := if mgErr xs = 0 then ⟨getOfH xs 0, gbA (getOfH xs 0) (bhCut (getOfH xs 0) (xs.drop 64)), gbS (getOfH xs 0) (bhCut (getOfH xs 0) (xs.drop 64))⟩ else zeroMsg
theorem padM_lt (n : Nat) : padM n < 8 := Nat.mod_lt _ (by decide)
end Go.Proofs.YtpodpmckdiijhaaGreatDoor

namespace Go.Proofs.YtpodpmckdiijhaaGreatDoor
set_option linter.all false
set_option maxRecDepth 100000
open Go.RowKit
theorem flag_as (x : Int) (h0 : 0 ≤ x) (h1 : x ≤ 4294967295) : (bits .and .u32 x 2 != 0) = isAs x := by
  obtain ⟨a, rfl⟩ := Int.eq_ofNat_of_zero_le h0
  rw [show (2 : Int) = ((2 : Nat) : Int) from rfl, u32_and_nat a 2 (by omega) (by omega), show (2 : Nat) = 2 ^ 1 from rfl, nat_bit 1 a]
  unfold isAs
  rw [Bool.eq_iff_iff, bne_iff_ne, decide_eq_true_iff]
  omega
theorem flag_rest (x : Int) (h0 : 0 ≤ x) (h1 : x ≤ 4294967295) : (bits .andNot .u32 x 15 == 0) = decide (x < 16) := by
  obtain ⟨a, rfl⟩ := Int.eq_ofNat_of_zero_le h0
  rw [show (15 : Int) = ((15 : Nat) : Int) from rfl, u32_andNot_nat a 15 (by omega) (by omega)]
  have e1 : (a &&& (4294967295 - 15)) % 2 ^ 4 = 0 := by
    rw [Nat.and_mod_two_pow]
    exact Nat.and_zero _
  have e2 : (a &&& (4294967295 - 15)) / 2 ^ 4 = a / 16 := by
    rw [Nat.and_div_two_pow, show (4294967295 - 15) / 2 ^ 4 = 2 ^ 28 - 1 from by decide, Nat.and_two_pow_sub_one_eq_mod]
    exact Nat.mod_eq_of_lt (by omega)
  rw [Bool.eq_iff_iff, beq_iff_eq, decide_eq_true_iff]
  omega
theorem known_cases {c : Int} (h : known c = true) : c = 0 ∨ c = 1 ∨ c = 2 ∨ c = 3 ∨ c = 4 ∨ c = 5 ∨ c = 6 ∨ c = 7 ∨ c = 8 ∨ c = 9 ∨ c = 10 ∨ c = 12 ∨ c = 13 ∨ c = 14 ∨ c = 16 ∨ c = 17 ∨ c = 18 := by
  simpa [known, commands] using h
theorem known_none {c : Int} (h : known c = false) : ∀ x ∈ commands, (c == x) = false := by
  intro x hx
  rw [beq_eq_false_iff_ne]
  rintro rfl
  rw [show known c = true from List.contains_iff_mem.2 hx] at h
  cases h
set_option maxHeartbeats 1000000 in
theorem Known_any (w : World) (c : Int) :
    Calls Tryz.prog 88 #[.int .u16 c] w fun e w' => e = .returned (.bool (known c)) ∧ w = w' := by
  by_cases h : known c = true
  · rcases known_cases h with rfl | rfl | rfl | rfl | rfl | rfl | rfl | rfl | rfl | rfl | rfl | rfl | rfl | rfl | rfl | rfl | rfl <;>
    · rw [h]
      clear h
      go_enter Tryz.func88, Tryz.ntmps88
      go_wp2
      go_ret
      exact ⟨rfl, rfl⟩
  · have h' : known c = false := by simpa using h
    have k := known_none h'
    rw [h']
    have b0 := k 0 (by decide)
    have b1 := k 1 (by decide)
    have b2 := k 2 (by decide)
    have b3 := k 3 (by decide)
    have b4 := k 4 (by decide)
    have b5 := k 5 (by decide)
    have b6 := k 6 (by decide)
    have b7 := k 7 (by decide)
    have b8 := k 8 (by decide)
    have b9 := k 9 (by decide)
    have b10 := k 10 (by decide)
    have b12 := k 12 (by decide)
    have b13 := k 13 (by decide)
    have b14 := k 14 (by decide)
    have b16 := k 16 (by decide)
    have b17 := k 17 (by decide)
    have b18 := k 18 (by decide)
    clear k h h'
    go_enter Tryz.func88, Tryz.ntmps88
    go_wp2
    go_ret
    exact ⟨rfl, rfl⟩
set_option maxHeartbeats 400000 in
theorem isAsync_any (w : World) (h : Hd) (k : h.ok) :
    Calls Tryz.prog 137 #[hv h] w fun e w' => e = .returned (.bool (isAs h.fl)) ∧ Below w.heap.size w w' := by
  have hb := Lib.hid (flag_as h.fl k.fl.1 k.fl.2)
  obtain ⟨z, hz⟩ : ∃ z, z = isAs h.fl := ⟨_, rfl⟩
  rw [← hz] at hb ⊢
  have HB0 := hb.out
  obtain ⟨v, hvv⟩ : ∃ v, v = hv h := ⟨_, rfl⟩
  have HV := Lib.hid hvv
  rw [← hvv]
  clear hz k hb hvv
  go_enter Tryz.func137, Tryz.ntmps137
  go_wp2_with ((with_reducible show wpList _ _ _ (⟨some 1, _, _, _, _, _⟩ :: _) _ _); refine wpList_box_blk rfl _ (.tmp 0) rfl (hcells h) HV.out ?_; intro g w1 hg1 hg2 B1 L1; have gc := HB.c4 B1.out)
  go_ret
  exact ⟨rfl, L1.out⟩
set_option maxHeartbeats 400000 in
theorem ofKind_any (w : World) (h : Hd) (k : h.ok) :
    Calls Tryz.prog 89 #[hv h] w fun e w' => e = .returned (hv (kindP h)) ∧ Below w.heap.size w w' := by
  have C0 : Hid (∀ w : World, Calls Tryz.prog 137 #[hv h] w fun e w' => e = .returned (.bool (isAs h.fl)) ∧ Below w.heap.size w w') := fun w => isAsync_any w h k
  have HL := Lib.hid (hcells_len k)
  have HK := Lib.hid (hcells_len (kindP_ok k))
  have HKO := Lib.hid (hcells_one (kindP h))
  have HZ := Lib.hid (hcells_len zeroHd_ok)
  have ZH := Lib.hid zero_hd
  have h8 : isAs h.fl = true → (hcells h).set 8 (.int .u32 0) = hcells (kindP h) := fun hi => by unfold kindP; rw [if_pos hi]; rfl
  have h7 : isAs h.fl = false → (hcells h).set 7 (.int .u64 0) = hcells (kindP h) := fun hi => by unfold kindP; rw [if_neg (by rw [hi]; decide)]; rfl
  obtain ⟨zs, hzs⟩ : ∃ zs, zs = hcells zeroHd := ⟨_, rfl⟩
  obtain ⟨cs, hcs⟩ : ∃ cs, cs = hcells h := ⟨_, rfl⟩
  obtain ⟨ds, hds⟩ : ∃ ds, ds = hcells (kindP h) := ⟨_, rfl⟩
  unfold hv at C0 ⊢
  rw [← hcs] at C0 HL h7 h8 ⊢
  rw [← hds] at HK HKO h7 h8 ⊢
  rw [← hzs] at HZ ZH
  clear hzs hcs hds k
  by_cases hi : isAs h.fl = true
  · rw [hi] at C0
    have HE := Lib.hid (h8 hi)
    clear hi h7 h8
    go_enter Tryz.func89, Tryz.ntmps89
    go_wp2_with (first
      | ((with_reducible show wpList _ _ _ (⟨some 1, _, _, _, _, _⟩ :: _) _ _); refine wpList_box_blk rfl _ (.tmp 0) rfl cs rfl ?_; intro g w1 hg1 hg2 B1 L1)
      | ((with_reducible show wpList _ _ _ (⟨some 2, _, _, _, _, _⟩ :: _) _ _); refine wpList_alloc_blk rfl _ rfl zs _ ZH ?_; intro g2 w2 hg3 hg4 B2 L2; have B12 := Lib.hid (B1.out.over L2.out); have L12 := Lib.hid (step L1.out L2.out))
      | ((with_reducible show wpList _ _ _ (⟨some 3, _, _, _, _, _⟩ :: _) _ _); refine wpList_load_blk rfl _ (.tmp 1) rfl g rfl _ _ B12 26 _ Tryz.underlying28 rfl size_hd HL ?_)
      | fail)
    refine (C0.out _).mono ?_
    rintro e w3 ⟨rfl, L3⟩
    have B13 := Lib.hid (B12.out.over L3)
    have B23 := Lib.hid (B2.out.over L3)
    have L13 := Lib.hid (step L12.out L3)
    have hsz := L2.out.size
    have hne : g ≠ g2 := by omega
    clear B12 B2 L12 L3 C0 B1 L1 L2
    go_wp2_with (first
      | ((with_reducible show wpList _ _ _ (⟨none, .store _ (.tmp 5) _, _, _, _, _⟩ :: _) _ _); refine wpList_store_fld rfl _ (.tmp 5) _ rfl g 8 rfl _ cs (.int .u32 0) rfl B13 (by have := HL.out; show 8 < _; omega) (by kernel_rfl) rfl ?_; intro w4 B14 O4 hg5; rw [HE.out] at B14; have B24 := Lib.hid (B23.out.only O4.out (by omega)))
      | ((with_reducible show wpList _ _ _ (⟨some 7, _, _, _, _, _⟩ :: _) _ _); refine wpList_load_blk rfl _ (.tmp 1) rfl g rfl _ ds B14 26 _ Tryz.underlying28 rfl size_hd HK ?_)
      | ((with_reducible show wpList _ _ _ (⟨none, .store _ (.tmp 2) _, _, _, _, _⟩ :: _) _ _); refine wpList_store_blk rfl _ (.tmp 2) (.tmp 7) rfl g2 rfl _ zs ds rfl B24 26 size_hd HZ HK HKO ?_; intro w5 B25 O5 hg6))
    refine bodyPost_ret (v := .agg ds.toArray) ?_ rfl ⟨rfl, below_only (below_only L13.out O4.out (by omega)) O5.out (by omega)⟩
    exact results_cell_row rfl _ _ g2 _ _ (0, 0) _ rfl B25.out Tryz.underlying28 rfl (by rw [size_hd]; have := HK.out; simp [this])
  · have hi' : isAs h.fl = false := by simpa using hi
    rw [hi'] at C0
    have HE := Lib.hid (h7 hi')
    clear hi hi' h7 h8
    go_enter Tryz.func89, Tryz.ntmps89
    go_wp2_with (first
      | ((with_reducible show wpList _ _ _ (⟨some 1, _, _, _, _, _⟩ :: _) _ _); refine wpList_box_blk rfl _ (.tmp 0) rfl cs rfl ?_; intro g w1 hg1 hg2 B1 L1)
      | ((with_reducible show wpList _ _ _ (⟨some 2, _, _, _, _, _⟩ :: _) _ _); refine wpList_alloc_blk rfl _ rfl zs _ ZH ?_; intro g2 w2 hg3 hg4 B2 L2; have B12 := Lib.hid (B1.out.over L2.out); have L12 := Lib.hid (step L1.out L2.out))
      | ((with_reducible show wpList _ _ _ (⟨some 3, _, _, _, _, _⟩ :: _) _ _); refine wpList_load_blk rfl _ (.tmp 1) rfl g rfl _ _ B12 26 _ Tryz.underlying28 rfl size_hd HL ?_)
      | fail)
    refine (C0.out _).mono ?_
    rintro e w3 ⟨rfl, L3⟩
    have B13 := Lib.hid (B12.out.over L3)
    have B23 := Lib.hid (B2.out.over L3)
    have L13 := Lib.hid (step L12.out L3)
    have hsz := L2.out.size
    have hne : g ≠ g2 := by omega
    clear B12 B2 L12 L3 C0 B1 L1 L2
    go_wp2_with (first
      | ((with_reducible show wpList _ _ _ (⟨none, .store _ (.tmp 6) _, _, _, _, _⟩ :: _) _ _); refine wpList_store_fld rfl _ (.tmp 6) _ rfl g 7 rfl _ cs (.int .u64 0) rfl B13 (by have := HL.out; show 7 < _; omega) (by kernel_rfl) rfl ?_; intro w4 B14 O4 hg5; rw [HE.out] at B14; have B24 := Lib.hid (B23.out.only O4.out (by omega)))
      | ((with_reducible show wpList _ _ _ (⟨some 7, _, _, _, _, _⟩ :: _) _ _); refine wpList_load_blk rfl _ (.tmp 1) rfl g rfl _ ds B14 26 _ Tryz.underlying28 rfl size_hd HK ?_)
      | ((with_reducible show wpList _ _ _ (⟨none, .store _ (.tmp 2) _, _, _, _, _⟩ :: _) _ _); refine wpList_store_blk rfl _ (.tmp 2) (.tmp 7) rfl g2 rfl _ zs ds rfl B24 26 size_hd HZ HK HKO ?_; intro w5 B25 O5 hg6))
    refine bodyPost_ret (v := .agg ds.toArray) ?_ rfl ⟨rfl, below_only (below_only L13.out O4.out (by omega)) O5.out (by omega)⟩
    exact results_cell_row rfl _ _ g2 _ _ (0, 0) _ rfl B25.out Tryz.underlying28 rfl (by rw [size_hd]; have := HK.out; simp [this])
set_option maxHeartbeats 400000 in
theorem asyncOrTree_any (w : World) (h : Hd) (k : h.ok) :
    Calls Tryz.prog 98 #[hv h] w fun e w' => e = .returned (.int .u64 (aot h)) ∧ Below w.heap.size w w' := by
  have C0 : Hid (∀ w : World, Calls Tryz.prog 137 #[hv h] w fun e w' => e = .returned (.bool (isAs h.fl)) ∧ Below w.heap.size w w') := fun w => isAsync_any w h k
  have HL := Lib.hid (hcells_len k)
  obtain ⟨t0, t1⟩ := k.tr
  have e1 : isAs h.fl = true → aot h = h.asy := fun hi => by unfold aot; rw [if_pos hi]
  have e0 : isAs h.fl = false → aot h = h.tr * 4294967296 := fun hi => by unfold aot; rw [if_neg (by rw [hi]; decide)]
  obtain ⟨tr, htr⟩ : ∃ tr, tr = h.tr := ⟨_, rfl⟩
  obtain ⟨asy, hasy⟩ : ∃ asy, asy = h.asy := ⟨_, rfl⟩
  obtain ⟨cs, hcs⟩ : ∃ cs, cs = hcells h := ⟨_, rfl⟩
  unfold hv at C0 ⊢
  rw [← hcs] at C0 HL ⊢
  rw [← htr] at t0 t1 e0
  rw [← hasy] at e1
  have HT := Lib.hid htr
  have HA := Lib.hid hasy
  have HC := Lib.hid hcs
  clear htr hasy hcs k
  by_cases hi : isAs h.fl = true
  · rw [hi] at C0
    rw [e1 hi]
    clear hi e0 e1
    go_enter Tryz.func98, Tryz.ntmps98
    go_wp2_with (first
      | ((with_reducible show wpList _ _ _ (⟨some 1, _, _, _, _, _⟩ :: _) _ _); refine wpList_box_blk rfl _ (.tmp 0) rfl cs rfl ?_; intro g w1 hg1 hg2 B1 L1)
      | ((with_reducible show wpList _ _ _ (⟨some 3, _, _, _, _, _⟩ :: _) _ _); refine wpList_load_blk rfl _ (.tmp 1) rfl g rfl _ _ B1 26 _ Tryz.underlying28 rfl size_hd HL ?_)
      | fail)
    refine (C0.out _).mono ?_
    rintro e w3 ⟨rfl, L3⟩
    have gc : w3.cell? ⟨g, 7, none⟩ = some (.int .u64 asy) := by
      rw [HA.out]
      exact HB.c7 (HB.of HC.out (B1.out.over L3))
    go_wp2
    go_ret
    exact ⟨rfl, step L1.out L3⟩
  · have hi' : isAs h.fl = false := by simpa using hi
    rw [hi'] at C0
    rw [e0 hi']
    clear hi hi' e0 e1
    go_enter Tryz.func98, Tryz.ntmps98
    go_wp2_with (first
      | ((with_reducible show wpList _ _ _ (⟨some 1, _, _, _, _, _⟩ :: _) _ _); refine wpList_box_blk rfl _ (.tmp 0) rfl cs rfl ?_; intro g w1 hg1 hg2 B1 L1)
      | ((with_reducible show wpList _ _ _ (⟨some 3, _, _, _, _, _⟩ :: _) _ _); refine wpList_load_blk rfl _ (.tmp 1) rfl g rfl _ _ B1 26 _ Tryz.underlying28 rfl size_hd HL ?_)
      | fail)
    refine (C0.out _).mono ?_
    rintro e w3 ⟨rfl, L3⟩
    have gc : w3.cell? ⟨g, 8, none⟩ = some (.int .u32 tr) := by
      rw [HT.out]
      exact HB.c8 (HB.of HC.out (B1.out.over L3))
    go_wp2
    go_ret
    exact ⟨rfl, step L1.out L3⟩
end Go.Proofs.YtpodpmckdiijhaaGreatDoor

namespace Go.Proofs.YtpodpmckdiijhaaGreatDoor
set_option linter.all false
open Go.RowKit
set_option linter.unusedVariables false
set_option linter.unusedSimpArgs false
set_option maxRecDepth 100000
/-! ### a struct built of lists of cells -/
theorem zipset : ∀ (xs : List Value) (k off : Nat) (cur : List Value), off + k + xs.length ≤ cur.length →
    List.foldl (fun (cs : Array Value) (p : Value × Nat) => cs.setIfInBounds (off + p.2) p.1) cur.toArray (xs.zipIdx k) = (cur.take (off + k) ++ (xs ++ cur.drop (off + k + xs.length))).toArray
  | [], k, off, cur, _ => by simp
  | x :: xs, k, off, cur, h => by
    have h' : off + k + (xs.length + 1) ≤ cur.length := h
    rw [List.zipIdx_cons, List.foldl_cons]
    have e0 : cur.toArray.setIfInBounds (off + k) x = (cur.take (off + k) ++ x :: cur.drop (off + k + 1)).toArray := by
      rw [List.setIfInBounds_toArray, List.set_eq_take_append_cons_drop, if_pos (by omega)]
    show List.foldl _ (cur.toArray.setIfInBounds (off + k) x) _ = _
    have hk : (cur.take (off + k)).length = off + k := by rw [List.length_take]; omega
    rw [e0, zipset xs (k + 1) off _ (by simp only [List.length_append, List.length_cons, List.length_drop, hk]; omega)]
    congr 1
    have e1 : (cur.take (off + k) ++ x :: cur.drop (off + k + 1)).take (off + (k + 1)) = cur.take (off + k) ++ [x] := by
      rw [show cur.take (off + k) ++ x :: cur.drop (off + k + 1) = (cur.take (off + k) ++ [x]) ++ cur.drop (off + k + 1) by simp]
      exact List.take_left' (by rw [List.length_append, hk]; rfl)
    have e2 : (cur.take (off + k) ++ x :: cur.drop (off + k + 1)).drop (off + (k + 1) + xs.length) = cur.drop (off + k + (x :: xs).length) := by
      rw [show cur.take (off + k) ++ x :: cur.drop (off + k + 1) = (cur.take (off + k) ++ [x]) ++ cur.drop (off + k + 1) by simp]
      rw [show off + (k + 1) + xs.length = (cur.take (off + k) ++ [x]).length + xs.length by rw [List.length_append, hk]; rfl, ← List.drop_drop, List.drop_left, List.drop_drop, List.length_cons, show off + k + 1 + xs.length = off + k + (xs.length + 1) by omega]
    rw [e1, e2]
    simp
theorem fill_one (place : Nat → Option (Nat × Nat)) (off size i : Nat) (cur xs : List Value) (hp : place i = some (off, size)) (hl : xs.length = size) (hb : off + size ≤ cur.length) (rest : List (Nat × Value)) :
    Instr.fill place cur.toArray ((i, .agg xs.toArray) :: rest) = Instr.fill place (cur.take off ++ (xs ++ cur.drop (off + size))).toArray rest := by
  have hc : (Value.agg xs.toArray).cells = xs.toArray := rfl
  rw [Instr.fill]
  simp only [hp, hc, List.size_toArray]
  rw [if_neg (by rw [hl]; simpa using hb)]
  have h := zipset xs 0 off cur (by omega)
  rw [hl] at h
  rw [← Array.foldl_toList, Array.toList_zipIdx]
  exact congrArg (fun z => Instr.fill place z rest) h
def placed (P : Program) (T : TypeId) : Option (Array Value × List (Nat × Nat)) :=
  match P.info? T, P.underlying T with
  | some it, some (.struct fields) =>
    match it.zero, fields.toList.mapM (fun f => (P.info? f.type).map fun i => (f.offset, i.size)) with
    | some z, some places => some (z.cells, places)
    | _, _ => none
  | _, _ => none
theorem built_placed {P : Program} {T : TypeId} {z : Array Value} {pl : List (Nat × Nat)} (h : placed P T = some (z, pl)) (parts : List (Nat × Value)) : P.built T parts = Instr.fill (pl.toArray[·]?) z parts := by
  unfold placed at h
  unfold Program.built
  cases hi : P.info? T with
  | none => simp [hi] at h
  | some it =>
    cases hu : P.underlying T with
    | none => simp [hi, hu] at h
    | some d =>
      cases d <;> try (simp [hi, hu] at h; done)
      rename_i fields
      simp only [hi, hu] at h ⊢
      cases hz : it.zero with
      | none => simp [hz] at h
      | some z' =>
        cases hp : fields.toList.mapM (fun f => (P.info? f.type).map fun i => (f.offset, i.size)) with
        | none => simp [hz, hp] at h
        | some places =>
          simp only [hz, hp] at h ⊢
          injection h with h
          injection h with h1 h2
          subst h1 h2
          rfl
/-! ### a message's cells -/
def zmcells : List Value := hcells zeroHd ++ (acells (.slice none 0 0) (.slice none 0 0) (.slice none 0 0) zeroAsk ++ scells (.slice none 0 0) (.slice none 0 0) zeroSay)
theorem placed_message : placed Tryz.prog 65 = some (zmcells.toArray, [(0, 26), (26, 69), (95, 20)]) := by kernel_rfl
theorem placed_msg : placed Tryz.prog 41 = some (zmcells.toArray, [(0, 26), (26, 69), (95, 20)]) := by kernel_rfl
theorem zmcells_len : zmcells.length = 115 := by decide +kernel
theorem zmcells_at : zmcells.take 26 = hcells zeroHd ∧ zmcells.drop 26 = acells (.slice none 0 0) (.slice none 0 0) (.slice none 0 0) zeroAsk ++ scells (.slice none 0 0) (.slice none 0 0) zeroSay := ⟨rfl, rfl⟩
theorem built3 {T : TypeId} (hp : placed Tryz.prog T = some (zmcells.toArray, [(0, 26), (26, 69), (95, 20)])) {hc ac sc : List Value} (h1 : hc.length = 26) (h2 : ac.length = 69) (h3 : sc.length = 20) :
    Tryz.prog.built T [(0, .agg hc.toArray), (1, .agg ac.toArray), (2, .agg sc.toArray)] = some (hc ++ (ac ++ sc)).toArray := by
  have hz := zmcells_len
  rw [built_placed hp, fill_one _ 0 26 0 _ _ rfl h1 (by omega), fill_one _ 26 69 1 _ _ rfl h2 (by simp; omega), fill_one _ 95 20 2 _ _ rfl h3 (by simp; omega), Instr.fill]
  have e1 : zmcells.take 0 ++ (hc ++ zmcells.drop (0 + 26)) = hc ++ zmcells.drop 26 := by simp
  rw [e1]
  have e2 : (hc ++ zmcells.drop 26).take 26 ++ (ac ++ (hc ++ zmcells.drop 26).drop (26 + 69)) = hc ++ (ac ++ zmcells.drop 95) := by
    rw [List.take_left' h1, ← List.drop_drop, List.drop_left' h1, List.drop_drop]
  rw [e2]
  have e3 : (hc ++ (ac ++ zmcells.drop 95)).take 95 ++ (sc ++ (hc ++ (ac ++ zmcells.drop 95)).drop (95 + 20)) = hc ++ (ac ++ sc) := by
    have hl : (hc ++ ac).length = 95 := by rw [List.length_append]; omega
    rw [← List.append_assoc hc, List.take_left' hl, ← List.drop_drop, List.drop_left' hl, List.drop_drop, List.drop_of_length_le (by omega)]
    simp
  rw [e3]
theorem built1 {T : TypeId} (hp : placed Tryz.prog T = some (zmcells.toArray, [(0, 26), (26, 69), (95, 20)])) {hc : List Value} (h1 : hc.length = 26) :
    Tryz.prog.built T [(0, .agg hc.toArray)] = some (hc ++ (acells (.slice none 0 0) (.slice none 0 0) (.slice none 0 0) zeroAsk ++ scells (.slice none 0 0) (.slice none 0 0) zeroSay)).toArray := by
  have hz := zmcells_len
  rw [built_placed hp, fill_one _ 0 26 0 _ _ rfl h1 (by omega), Instr.fill]
  have e1 : zmcells.take 0 ++ (hc ++ zmcells.drop (0 + 26)) = hc ++ zmcells.drop 26 := by simp
  rw [e1, zmcells_at.2]
/-- the cells cs are the message m, its lists in memory below block B -/
def MsgIs (w : World) (B : Nat) (cs : List Value) (m : MsgV) : Prop := ∃ ac sc, cs = hcells m.h ++ (ac ++ sc) ∧ AskIs w B ac m.a ∧ SayIs w B sc m.s
theorem MsgIs.over {w w' : World} {cs : List Value} {m : MsgV} (h : MsgIs w w.heap.size cs m) (hb : Below w.heap.size w w') : MsgIs w' w'.heap.size cs m := by
  obtain ⟨ac, sc, h1, h2, h3⟩ := h
  exact ⟨ac, sc, h1, h2.over hb, h3.over hb⟩
theorem MsgIs.len {w : World} {B : Nat} {cs : List Value} {m : MsgV} (h : MsgIs w B cs m) (k : m.ok) : cs.length = 115 := by
  obtain ⟨ac, sc, rfl, h2, h3⟩ := h
  simp only [List.length_append, hcells_len k.h, h2.len k.a, h3.len k.s]
theorem MsgIs.one {w : World} {B : Nat} {cs : List Value} {m : MsgV} (h : MsgIs w B cs m) : ∀ v ∈ cs, v.oneCell' = true := by
  obtain ⟨ac, sc, rfl, h2, h3⟩ := h
  intro v hv
  rcases List.mem_append.1 hv with hv | hv
  · exact hcells_one _ v hv
  · rcases List.mem_append.1 hv with hv | hv
    · exact h2.one v hv
    · exact h3.one v hv
theorem range_mid {w : World} {g : Nat} {T : TypeId} {pre mid post cs : List Value} (B : Blk w g T cs) (h : cs = pre ++ (mid ++ post)) (n : Nat) (hn : pre.length = n) : w.rangeAt g n mid := fun j v hj => by
  rw [B.cell, h, List.getElem?_append_right (by omega), hn, Nat.add_sub_cancel_left, List.getElem?_append_left (List.getElem?_eq_some_iff.1 hj).1, hj]
theorem range_h {w : World} {g : Nat} {T : TypeId} {hc ac sc : List Value} (B : Blk w g T (hc ++ (ac ++ sc))) : w.rangeAt g 0 hc := range_mid (pre := []) B rfl 0 rfl
theorem range_a {w : World} {g : Nat} {T : TypeId} {hc ac sc : List Value} (B : Blk w g T (hc ++ (ac ++ sc))) (h : hc.length = 26) : w.rangeAt g 26 ac := range_mid B rfl 26 h
theorem range_s {w : World} {g : Nat} {T : TypeId} {hc ac sc : List Value} (B : Blk w g T (hc ++ (ac ++ sc))) (h : hc.length = 26) (h2 : ac.length = 69) : w.rangeAt g 95 sc :=
  range_mid (pre := hc ++ ac) (post := []) B (by simp) 95 (by simp only [List.length_append]; omega)
theorem size_msg : (Tryz.prog.info? 41).map (·.size) = some 115 := by kernel_rfl
theorem size_message : (Tryz.prog.info? 65).map (·.size) = some 115 := by kernel_rfl
theorem zero_msg : (Tryz.prog.info? 41).map (fun i => (i.zero, i.size)) = some (some (.agg zmcells.toArray), 115) := by kernel_rfl
theorem zero_message : (Tryz.prog.info? 65).map (fun i => (i.zero, i.size)) = some (some (.agg zmcells.toArray), 115) := by kernel_rfl
theorem built_msg0 : Tryz.prog.built 41 [] = some zmcells.toArray := by rw [built_placed placed_msg]; rfl
/-! ### the small ones -/
theorem flag_rep (x : Int) (h0 : 0 ≤ x) (h1 : x ≤ 4294967295) : (bits .and .u32 x 1 != 0) = isRep x := by
  obtain ⟨a, rfl⟩ := Int.eq_ofNat_of_zero_le h0
  rw [show (1 : Int) = ((1 : Nat) : Int) from rfl, u32_and_nat a 1 (by omega) (by omega), show (1 : Nat) = 2 ^ 0 from rfl, nat_bit 0 a]
  unfold isRep
  rw [Bool.eq_iff_iff, bne_iff_ne, decide_eq_true_iff]
  omega
theorem isReply_any (w : World) (g : Nat) (h : Hd) (k : h.ok) (r : List Value) (B : Blk w g 65 (hcells h ++ r)) :
    Calls Tryz.prog 56 #[.pointer (some ⟨g, 0, none⟩)] w fun e w' => e = .returned (.bool (isRep h.fl)) ∧ w = w' := by
  have gc : w.cell? ⟨g, 4, none⟩ = some (.int .u32 h.fl) := Blk.cell B 4
  have hb := flag_rep h.fl k.fl.1 k.fl.2
  obtain ⟨z, hz⟩ : ∃ z, z = isRep h.fl := ⟨_, rfl⟩
  rw [← hz] at hb ⊢
  clear hz B k
  go_enter Tryz.func56, Tryz.ntmps56
  go_wp2
  go_ret
  exact ⟨rfl, rfl⟩
theorem row_any (w : World) (g : Nat) (h : Hd) (k : h.ok) (r : List Value) (B : Blk w g 65 (hcells h ++ r)) :
    Calls Tryz.prog 55 #[.pointer (some ⟨g, 0, none⟩)] w fun e w' => e = .returned (.int .u16 (rowM h)) ∧ w = w' := by
  have CR := Lib.hid (isReply_any w g h k r B)
  have gc : w.cell? ⟨g, 1, none⟩ = some (.int .u32 h.st) := Blk.cell B 1
  have gm : w.cell? ⟨g, 2, none⟩ = some (.int .u16 h.cm) := Blk.cell B 2
  by_cases hr : isRep h.fl = true
  · by_cases hs : h.st = 0
    · have e : rowM h = h.cm := by unfold rowM; rw [if_neg (fun h2 => h2.2 hs)]
      rw [e]
      rw [hs] at gc
      rw [hr] at CR
      clear hs hr B k e
      go_enter Tryz.func55, Tryz.ntmps55
      go_wp2_with fail
      refine CR.out.mono ?_
      rintro e w1 ⟨rfl, rfl⟩
      go_wp2
      go_ret
      exact ⟨rfl, rfl⟩
    · have e : rowM h = 13 := by unfold rowM; rw [if_pos ⟨hr, hs⟩]
      have hne : (h.st != 0) = true := by simpa using hs
      rw [e]
      rw [hr] at CR
      clear hs hr B k e gm
      go_enter Tryz.func55, Tryz.ntmps55
      go_wp2_with fail
      refine CR.out.mono ?_
      rintro e w1 ⟨rfl, rfl⟩
      go_wp2
      go_ret
      exact ⟨rfl, rfl⟩
  · have e : rowM h = h.cm := by unfold rowM; rw [if_neg (fun h2 => hr h2.1)]
    have hr' : isRep h.fl = false := by simpa using hr
    rw [e]
    rw [hr'] at CR
    clear hr hr' B k e gc
    go_enter Tryz.func55, Tryz.ntmps55
    go_wp2_with fail
    refine CR.out.mono ?_
    rintro e w1 ⟨rfl, rfl⟩
    go_wp2
    go_ret
    exact ⟨rfl, rfl⟩
theorem and7 (n : Nat) (h : n ≤ 281474976710656) : bits .and .i64 (-(n : Int)) 7 = (padM n : Nat) := by
  rw [pad_bits n h]
  unfold padM padLen
  omega
set_option maxHeartbeats 400000 in
theorem missing_any (w : World) (A : Option Addr) (n c : Nat) (h : n ≤ 281474976710656) :
    Calls Tryz.prog 36 #[.slice A n c] w fun e w' => e = .returned (.int .i64 (padM n : Nat)) ∧ w = w' := by
  have hb := and7 n h
  have hp := padM_lt n
  obtain ⟨p, hpp⟩ : ∃ p, p = padM n := ⟨_, rfl⟩
  rw [← hpp] at hb hp ⊢
  clear hpp
  go_enter Tryz.func36, Tryz.ntmps36
  go_wp2
  go_ret
  exact ⟨rfl, rfl⟩
def fPA (c : Int) : Nat := if knownT c = true then 103 else if c ≤ 10 then 107 else 111
def fGA (c : Int) : Nat := if knownT c = true then 104 else if c ≤ 10 then 108 else 112
def fPS (c : Int) : Nat := if knownT c = true then 105 else if c ≤ 10 then 109 else 113
def fGS (c : Int) : Nat := if knownT c = true then 106 else if c ≤ 10 then 110 else 114
theorem ent_PA (c : Int) : ∀ (args : Array Value) (w : World), (callFunc (fPA c) args).run Tryz.prog w = .ok (.enter (fPA c) args) w := by
  unfold fPA
  split
  · exact enters_of Tryz.func103 (by kernel_rfl) rfl
  · split
    · exact enters_of Tryz.func107 (by kernel_rfl) rfl
    · exact enters_of Tryz.func111 (by kernel_rfl) rfl
theorem ent_GA (c : Int) : ∀ (args : Array Value) (w : World), (callFunc (fGA c) args).run Tryz.prog w = .ok (.enter (fGA c) args) w := by
  unfold fGA
  split
  · exact enters_of Tryz.func104 (by kernel_rfl) rfl
  · split
    · exact enters_of Tryz.func108 (by kernel_rfl) rfl
    · exact enters_of Tryz.func112 (by kernel_rfl) rfl
theorem ent_PS (c : Int) : ∀ (args : Array Value) (w : World), (callFunc (fPS c) args).run Tryz.prog w = .ok (.enter (fPS c) args) w := by
  unfold fPS
  split
  · exact enters_of Tryz.func105 (by kernel_rfl) rfl
  · split
    · exact enters_of Tryz.func109 (by kernel_rfl) rfl
    · exact enters_of Tryz.func113 (by kernel_rfl) rfl
theorem ent_GS (c : Int) : ∀ (args : Array Value) (w : World), (callFunc (fGS c) args).run Tryz.prog w = .ok (.enter (fGS c) args) w := by
  unfold fGS
  split
  · exact enters_of Tryz.func106 (by kernel_rfl) rfl
  · split
    · exact enters_of Tryz.func110 (by kernel_rfl) rfl
    · exact enters_of Tryz.func114 (by kernel_rfl) rfl
def bodiesV (c : Int) : Value := .agg #[.func (.func (fPA c)) #[] #[], .func (.func (fGA c)) #[] #[], .func (.func (fPS c)) #[] #[], .func (.func (fGS c)) #[] #[]]
theorem zero_bodies : (Tryz.prog.info? 96).map (fun i => (i.zero, i.size)) = some (some (.agg ([.nilFunc, .nilFunc, .nilFunc, .nilFunc] : List Value).toArray), 4) := by kernel_rfl
theorem size_bodies : (Tryz.prog.info? 96).map (·.size) = some 4 := by kernel_rfl
def bv_talk : List Value := [.func (.func 103) #[] #[], .func (.func 104) #[] #[], .func (.func 105) #[] #[], .func (.func 106) #[] #[]]
theorem bv_talk_one : ∀ v ∈ bv_talk, v.oneCell' = true := by
  intro v hv
  simp [bv_talk] at hv
  rcases hv with rfl | rfl | rfl | rfl <;> rfl
def bv_file : List Value := [.func (.func 107) #[] #[], .func (.func 108) #[] #[], .func (.func 109) #[] #[], .func (.func 110) #[] #[]]
theorem bv_file_one : ∀ v ∈ bv_file, v.oneCell' = true := by
  intro v hv
  simp [bv_file] at hv
  rcases hv with rfl | rfl | rfl | rfl <;> rfl
def bv_info : List Value := [.func (.func 111) #[] #[], .func (.func 112) #[] #[], .func (.func 113) #[] #[], .func (.func 114) #[] #[]]
theorem bv_info_one : ∀ v ∈ bv_info, v.oneCell' = true := by
  intro v hv
  simp [bv_info] at hv
  rcases hv with rfl | rfl | rfl | rfl <;> rfl
set_option maxHeartbeats 1000000 in
theorem bodiesOf_any (w : World) (c : Int) (hc : 0 ≤ c ∧ c ≤ 65535) :
    Calls Tryz.prog 58 #[.int .u16 c] w fun e w' => e = .returned (bodiesV c) ∧ Below w.heap.size w w' := by
  have ZB := Lib.hid zero_bodies
  have HZ : Hid (([.nilFunc, .nilFunc, .nilFunc, .nilFunc] : List Value).length = 4) := rfl
  by_cases h4 : c ≤ 4
  · have q4 : decide (c ≤ 4) = true := by simpa using h4
    have e : bodiesV c = .agg bv_talk.toArray := by
      have hk : knownT c = true := by unfold knownT; simp [h4]
      unfold bodiesV fPA fGA fPS fGS
      simp only [if_pos hk]
      rfl
    rw [e]
    have H1 := Lib.hid bv_talk_one
    have HN : Hid (bv_talk.length = 4) := rfl
    have BB : Tryz.prog.built 96 [(0, .func (.func 103) #[] #[]), (1, .func (.func 104) #[] #[]), (2, .func (.func 105) #[] #[]), (3, .func (.func 106) #[] #[])] = some bv_talk.toArray := by kernel_rfl
    obtain ⟨bs, hbs⟩ : ∃ bs, bs = bv_talk := ⟨_, rfl⟩
    rw [← hbs] at H1 HN BB ⊢
    clear e hbs
    go_enter Tryz.func58, Tryz.ntmps58
    go_wp2_with (first
      | ((with_reducible show wpList _ _ _ (⟨some 2, _, _, _, _, _⟩ :: _) _ _); refine wpList_alloc_blk rfl _ rfl _ _ ZB ?_; intro g w1 hg1 hg2 Z1 L1)
      | ((with_reducible show wpList _ _ _ (⟨some 8, _, _, _, _, _⟩ :: _) _ _); refine wpList_build_blk rfl _ _ rfl bs (by refine Eq.trans ?_ BB; kernel_rfl) ?_)
      | ((with_reducible show wpList _ _ _ (⟨none, .store _ (.tmp 2) _, _, _, _, _⟩ :: _) _ _); refine wpList_store_blk rfl _ (.tmp 2) (.tmp 8) rfl g rfl _ _ bs rfl Z1 4 size_bodies HZ HN H1 ?_; intro w2 X2 O2 hg3)
      | fail)
    refine bodyPost_ret ?_ rfl ⟨rfl, below_only L1.out O2.out hg1⟩
    exact results_cell_row rfl _ _ g _ _ (0, 0) _ rfl X2.out Tryz.underlying96 rfl (by rw [size_bodies]; have := HN.out; simp [this])
  have q4 : decide (c ≤ 4) = false := by simpa using h4
  by_cases h13 : c = 13
  · subst h13
    have e : bodiesV 13 = .agg bv_talk.toArray := by
      unfold bodiesV fPA fGA fPS fGS
      simp only [if_pos (show knownT 13 = true by decide)]
      rfl
    rw [e]
    have H1 := Lib.hid bv_talk_one
    have HN : Hid (bv_talk.length = 4) := rfl
    have BB : Tryz.prog.built 96 [(0, .func (.func 103) #[] #[]), (1, .func (.func 104) #[] #[]), (2, .func (.func 105) #[] #[]), (3, .func (.func 106) #[] #[])] = some bv_talk.toArray := by kernel_rfl
    obtain ⟨bs, hbs⟩ : ∃ bs, bs = bv_talk := ⟨_, rfl⟩
    rw [← hbs] at H1 HN BB ⊢
    clear e hbs
    go_enter Tryz.func58, Tryz.ntmps58
    go_wp2_with (first
      | ((with_reducible show wpList _ _ _ (⟨some 2, _, _, _, _, _⟩ :: _) _ _); refine wpList_alloc_blk rfl _ rfl _ _ ZB ?_; intro g w1 hg1 hg2 Z1 L1)
      | ((with_reducible show wpList _ _ _ (⟨some 8, _, _, _, _, _⟩ :: _) _ _); refine wpList_build_blk rfl _ _ rfl bs (by refine Eq.trans ?_ BB; kernel_rfl) ?_)
      | ((with_reducible show wpList _ _ _ (⟨none, .store _ (.tmp 2) _, _, _, _, _⟩ :: _) _ _); refine wpList_store_blk rfl _ (.tmp 2) (.tmp 8) rfl g rfl _ _ bs rfl Z1 4 size_bodies HZ HN H1 ?_; intro w2 X2 O2 hg3)
      | fail)
    refine bodyPost_ret ?_ rfl ⟨rfl, below_only L1.out O2.out hg1⟩
    exact results_cell_row rfl _ _ g _ _ (0, 0) _ rfl X2.out Tryz.underlying96 rfl (by rw [size_bodies]; have := HN.out; simp [this])
  have hk : ¬ knownT c = true := by unfold knownT; simp [h4, h13]
  have q13 : (c == 13) = false := by simpa using h13
  by_cases h10 : c ≤ 10
  · have q10 : decide (c ≤ 10) = true := by simpa using h10
    have e : bodiesV c = .agg bv_file.toArray := by
      unfold bodiesV fPA fGA fPS fGS
      simp only [if_neg hk, if_pos h10]
      rfl
    rw [e]
    have H1 := Lib.hid bv_file_one
    have HN : Hid (bv_file.length = 4) := rfl
    have BB : Tryz.prog.built 96 [(0, .func (.func 107) #[] #[]), (1, .func (.func 108) #[] #[]), (2, .func (.func 109) #[] #[]), (3, .func (.func 110) #[] #[])] = some bv_file.toArray := by kernel_rfl
    obtain ⟨bs, hbs⟩ : ∃ bs, bs = bv_file := ⟨_, rfl⟩
    rw [← hbs] at H1 HN BB ⊢
    clear e hbs
    go_enter Tryz.func58, Tryz.ntmps58
    go_wp2_with (first
      | ((with_reducible show wpList _ _ _ (⟨some 2, _, _, _, _, _⟩ :: _) _ _); refine wpList_alloc_blk rfl _ rfl _ _ ZB ?_; intro g w1 hg1 hg2 Z1 L1)
      | ((with_reducible show wpList _ _ _ (⟨some 12, _, _, _, _, _⟩ :: _) _ _); refine wpList_build_blk rfl _ _ rfl bs (by refine Eq.trans ?_ BB; kernel_rfl) ?_)
      | ((with_reducible show wpList _ _ _ (⟨none, .store _ (.tmp 2) _, _, _, _, _⟩ :: _) _ _); refine wpList_store_blk rfl _ (.tmp 2) (.tmp 12) rfl g rfl _ _ bs rfl Z1 4 size_bodies HZ HN H1 ?_; intro w2 X2 O2 hg3)
      | fail)
    refine bodyPost_ret ?_ rfl ⟨rfl, below_only L1.out O2.out hg1⟩
    exact results_cell_row rfl _ _ g _ _ (0, 0) _ rfl X2.out Tryz.underlying96 rfl (by rw [size_bodies]; have := HN.out; simp [this])
  · have q10 : decide (c ≤ 10) = false := by simpa using h10
    have e : bodiesV c = .agg bv_info.toArray := by
      unfold bodiesV fPA fGA fPS fGS
      simp only [if_neg hk, if_neg h10]
      rfl
    rw [e]
    have H1 := Lib.hid bv_info_one
    have HN : Hid (bv_info.length = 4) := rfl
    have BB : Tryz.prog.built 96 [(0, .func (.func 111) #[] #[]), (1, .func (.func 112) #[] #[]), (2, .func (.func 113) #[] #[]), (3, .func (.func 114) #[] #[])] = some bv_info.toArray := by kernel_rfl
    obtain ⟨bs, hbs⟩ : ∃ bs, bs = bv_info := ⟨_, rfl⟩
    rw [← hbs] at H1 HN BB ⊢
    clear e hbs
    go_enter Tryz.func58, Tryz.ntmps58
    go_wp2_with (first
      | ((with_reducible show wpList _ _ _ (⟨some 2, _, _, _, _, _⟩ :: _) _ _); refine wpList_alloc_blk rfl _ rfl _ _ ZB ?_; intro g w1 hg1 hg2 Z1 L1)
      | ((with_reducible show wpList _ _ _ (⟨some 13, _, _, _, _, _⟩ :: _) _ _); refine wpList_build_blk rfl _ _ rfl bs (by refine Eq.trans ?_ BB; kernel_rfl) ?_)
      | ((with_reducible show wpList _ _ _ (⟨none, .store _ (.tmp 2) _, _, _, _, _⟩ :: _) _ _); refine wpList_store_blk rfl _ (.tmp 2) (.tmp 13) rfl g rfl _ _ bs rfl Z1 4 size_bodies HZ HN H1 ?_; intro w2 X2 O2 hg3)
      | fail)
    refine bodyPost_ret ?_ rfl ⟨rfl, below_only L1.out O2.out hg1⟩
    exact results_cell_row rfl _ _ g _ _ (0, 0) _ rfl X2.out Tryz.underlying96 rfl (by rw [size_bodies]; have := HN.out; simp [this])
end Go.Proofs.YtpodpmckdiijhaaGreatDoor

namespace Go.Proofs.YtpodpmckdiijhaaGreatDoor
set_option linter.all false
set_option maxRecDepth 100000
open Go.RowKit
/-- a call that leaves the world as it is, as a quiet region wants it -/
theorem quiet_as_is {P : Program} {f : FuncId} {args : Array Value} {w : World} {n : Nat} {v : Value}
    (h : ∀ w, Calls P f args w fun e w' => e = .returned v ∧ w = w') : Calls P f args (w.drewN n) fun e w'' => e = .returned v ∧ ∃ m, w'' = w.drewN m :=
  (h _).mono fun _ _ ⟨he, hm⟩ => ⟨he, n, hm.symm⟩
theorem guard_hd : Tryz.prog.eqGuardType Tryz.prog.depth 28 = false := by kernel_rfl
set_option maxHeartbeats 400000 in
theorem May_any (w : World) (h : Hd) (k : h.ok) :
    Calls Tryz.prog 52 #[hv h] w fun e w' => e = .returned (.bool (mayP h)) ∧ Below w.heap.size w w' := by
  have CK : Hid (∀ w : World, Calls Tryz.prog 88 #[.int .u16 h.cm] w fun e w' => e = .returned (.bool (known h.cm)) ∧ w = w') := fun w => Known_any w h.cm
  have CO : Hid (∀ w : World, Calls Tryz.prog 89 #[hv h] w fun e w' => e = .returned (hv (kindP h)) ∧ Below w.heap.size w w') := fun w => ofKind_any w h k
  have q0 : ∀ w : World, (Op.equalIn 10000 28 (.agg (hcells h).toArray) (.agg (hcells (kindP h)).toArray)).run Tryz.prog w = .ok (decide (h = kindP h)) w := fun w => run_equalIn_hd h (kindP h) k (kindP_ok k) w
  have hf := flag_rest h.fl k.fl.1 k.fl.2
  have HL := Lib.hid (hcells_len k)
  have HK := Lib.hid (hcells_len (kindP_ok k))
  have HM : Hid (mayP h = (known h.cm && (decide (h.fl < 16) && decide (h = kindP h)))) := by show _ = _; unfold mayP; rw [kindP_eq]
  obtain ⟨z, hz⟩ : ∃ z, z = decide (h = kindP h) := ⟨_, rfl⟩
  obtain ⟨fl, hfl⟩ : ∃ fl, fl = h.fl := ⟨_, rfl⟩
  obtain ⟨cm, hcm⟩ : ∃ cm, cm = h.cm := ⟨_, rfl⟩
  obtain ⟨cs, hcs⟩ : ∃ cs, cs = hcells h := ⟨_, rfl⟩
  obtain ⟨ds, hds⟩ : ∃ ds, ds = hcells (kindP h) := ⟨_, rfl⟩
  have qg := guard_hd
  unfold hv at CO ⊢
  rw [← hcs] at CO HL q0 ⊢
  rw [← hds] at CO HK q0
  rw [← hz] at q0 HM
  rw [← hfl] at hf HM
  rw [← hcm] at CK HM
  have HFL := Lib.hid hfl
  have HCM := Lib.hid hcm
  have HC := Lib.hid hcs
  have F2 : Hid (∀ (w : World) (g : Nat), Blk w g 28 cs → w.cell? ⟨g, 2, none⟩ = some (.int .u16 cm) ∧ w.cell? ⟨g, 4, none⟩ = some (.int .u32 fl)) := fun w g B => ⟨by rw [HCM.out]; exact HB.c2 (HB.of HC.out B), by rw [HFL.out]; exact HB.c4 (HB.of HC.out B)⟩
  clear hz hfl hcm hcs hds k HFL HCM HC
  by_cases hk : known cm = true
  · rw [hk] at CK HM
    by_cases h16 : fl < 16
    · rw [decide_eq_true h16] at hf HM
      rw [show mayP h = z from by rw [HM.out]; simp]
      clear hk h16 HM
      go_enter Tryz.func52, Tryz.ntmps52
      go_upto_region 1 with (first
        | ((with_reducible show wpList _ _ _ (⟨some 1, _, _, _, _, _⟩ :: _) _ _); refine wpList_box_blk rfl _ (.tmp 0) rfl cs rfl ?_; intro g w1 hg1 hg2 B1 L1)
        | fail)
      refine wp_region_held (S := fun w' => Blk w' g 28 cs) (by kernel_rfl) ?_
      change wpAnyH _ _ _ _ _ _ _ _ w1.drew
      have S0 : Hid (Blk w1.drew g 28 cs) := B1.out.drew
      have b0 : Hid (Below w.heap.size w w1.drew) := L1.out.drew
      have gc := (F2.out _ _ S0.out).1
      have gf := (F2.out _ _ S0.out).2
      clear B1 L1
      refine wpAnyH_one 0 _ (by kernel_rfl) rfl fun K hK => ?_
      go_simp
      refine hK _ _ S0.out ?_
      clear hK K
      refine wpAnyH_one 1 _ (by kernel_rfl) rfl fun K hK => ?_
      go_simp
      refine hK _ _ S0.out ?_
      clear hK K
      refine wpAnyH_one 2 _ (by kernel_rfl) rfl fun K hK => ?_
      go_simp
      refine (CK.out _).mono ?_
      rintro e v1 ⟨rfl, rfl⟩
      refine hK _ _ S0.out ?_
      clear hK K
      refine wpAnyH_one 3 _ (by kernel_rfl) rfl fun K hK => ?_
      go_simp
      refine hK _ _ S0.out ?_
      clear hK K
      refine wpAnyH_one 4 _ (by kernel_rfl) rfl fun K hK => ?_
      go_simp
      refine hK _ _ S0.out ?_
      clear hK K
      refine wpAnyH_one 5 _ (by kernel_rfl) rfl fun K hK => ?_
      go_simp
      refine hK _ _ S0.out ?_
      clear hK K
      refine wpAnyH_one 6 _ (by kernel_rfl) rfl fun K hK => ?_
      go_simp
      refine hK _ _ S0.out ?_
      clear hK K
      refine wpAnyH_one 7 _ (by kernel_rfl) rfl fun K hK => ?_
      go_simp
      refine hK _ _ S0.out ?_
      clear hK K
      refine wpAnyH_one 8 _ (by kernel_rfl) rfl fun K hK => ?_
      go_simp
      refine hK _ _ S0.out ?_
      clear hK K
      refine wpAnyH_one 9 _ (by kernel_rfl) rfl fun K hK => ?_
      go_simp
      refine hK _ _ S0.out ?_
      clear hK K
      refine wpAnyH_take (i := 10) (v := _) rfl (by kernel_rfl) (by kernel_rfl) (by kernel_rfl) (fun _ _ _ h => h) (yieldsIf_load_blk rfl _ (.tmp 1) rfl g rfl _ cs (fun _ h => h) 26 _ Tryz.underlying28 rfl size_hd HL) S0.out ?_
      refine wpAnyH_take (i := 11) (v := _) rfl (by kernel_rfl) (by kernel_rfl) (by kernel_rfl) (fun _ _ _ h => h) (yieldsIf_load_blk rfl _ (.tmp 1) rfl g rfl _ cs (fun _ h => h) 26 _ Tryz.underlying28 rfl size_hd HL) S0.out ?_
      refine wpAnyH_one 12 _ (by kernel_rfl) rfl fun K hK => ?_
      go_simp
      refine (CO.out _).mono ?_
      rintro e v2 ⟨rfl, b⟩
      have S2 : Hid (Blk v2 g 28 cs) := S0.out.over b
      have b2 := Lib.hid (step b0.out b)
      refine hK _ _ S2.out ?_
      clear hK K b
      refine wpAnyH_one 13 _ (by kernel_rfl) rfl fun K hK => ?_
      go_simp
      refine hK _ _ S2.out ?_
      clear hK K
      refine wpAnyH_one 14 _ (by kernel_rfl) rfl fun K hK => ?_
      go_simp
      refine hK _ _ S2.out ?_
      clear hK K
      refine wpAnyH_one 15 _ (by kernel_rfl) rfl fun K hK => ?_
      go_simp
      refine hK _ _ S2.out ?_
      clear hK K
      refine wpAnyH_done (by kernel_rfl) ?_ _
      go_wp2_with fail
      go_ret
      exact ⟨rfl, b2.out⟩
    · have h16' : decide (fl < 16) = false := by simpa using h16
      rw [h16'] at hf HM
      rw [show mayP h = false from by rw [HM.out]; simp]
      clear hk h16 h16' HM CO q0
      go_enter Tryz.func52, Tryz.ntmps52
      go_upto_region 1 with (first
        | ((with_reducible show wpList _ _ _ (⟨some 1, _, _, _, _, _⟩ :: _) _ _); refine wpList_box_blk rfl _ (.tmp 0) rfl cs rfl ?_; intro g w1 hg1 hg2 B1 L1)
        | fail)
      have gc := (F2.out _ _ B1.out).1
      have gf := (F2.out _ _ B1.out).2
      go_quiet ((go_at_call 88; exact quiet_as_is CK.out))
      go_wp2_with fail
      go_ret
      exact ⟨rfl, below_drewN L1.out _⟩
  · have hk' : known cm = false := by simpa using hk
    rw [hk'] at CK HM
    rw [show mayP h = false from by rw [HM.out]; simp]
    clear hk hk' HM CO q0
    go_enter Tryz.func52, Tryz.ntmps52
    go_upto_region 1 with (first
      | ((with_reducible show wpList _ _ _ (⟨some 1, _, _, _, _, _⟩ :: _) _ _); refine wpList_box_blk rfl _ (.tmp 0) rfl cs rfl ?_; intro g w1 hg1 hg2 B1 L1)
      | fail)
    have gc := (F2.out _ _ B1.out).1
    have gf := (F2.out _ _ B1.out).2
    go_quiet ((go_at_call 88; exact quiet_as_is CK.out))
    go_wp2_with fail
    go_ret
    exact ⟨rfl, below_drewN L1.out _⟩
end Go.Proofs.YtpodpmckdiijhaaGreatDoor
