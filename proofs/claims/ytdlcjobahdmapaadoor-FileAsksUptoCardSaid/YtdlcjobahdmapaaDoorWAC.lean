import Derived.WalkKit
import Derived.Deep.Draws
import Derived.Laws.Rows
import Derived.Laws.OwnMore
import Derived.Lib.RuneBytes
import Derived.Lib.ValidLaws
import Derived.Test.YtdlcjobahdmapaaDoorRows
import Derived.Laws.CopyOwn
import Derived.Laws.AppendOwnNone
import Derived.Lib.Hide
import Derived.Laws.AppendOwn
import Derived.OwnWalk
import Derived.Lib.OthersKept
import Derived.Laws.BytesArg
import Derived.Shelf.Utf8.AppendRunePlain
import Derived.Shelf.Unicode.ValidAny
import Derived.Test.YtdlcjobahdmapaaDoorProg
import Derived.WalkSpells
import Derived.WalkLawsBesides
import Derived.Deep.QuietTactic
import Derived.BigQuiet
import Derived.Laws.Bits64
import Derived.Laws.BitsAllLaws
import Derived.ProofKit
import Derived.OpenShut
import Derived.ShutString
import Derived.SizedLaws
import Derived.ChangeOld
import Derived.Lib.AppendZeros
import Derived.Deep.RegionWith
import Derived.Deep.DeepCutAuto
import Derived.Great.Walk
import Derived.Laws.Tables
import Derived.Laws.NewFold
import Derived.Deep.WholeRow
import Derived.Deep.MidRow
import Derived.OneCell
import Derived.Deep.Strs
import Derived.OrdersHeld
import Derived.Laws.StructEq
import Derived.ChangeKeysEq
import Derived.Deep.RegionLaw
import Derived.Deep.OwnRows
import Derived.Test.YtdlcjobahdmapaaDoorWAB
namespace Go.Proofs.YtdlcjobahdmapaaDoor
set_option linter.all false
open Go.RowKit
set_option linter.unusedVariables false
set_option maxRecDepth 100000
theorem zero_lk : (Tryd.prog.info? 69).map (fun i => (i.zero, i.size)) = some (some (.agg (lockCells ⟨0, 0, 0, 0⟩).toArray), 4) := by kernel_rfl
theorem fld_lk1 (g : Nat) (w : World) : (Instr.fieldAt 69 (.pointer (some ⟨g, 0, none⟩)) 1).run Tryd.prog w = .ok (.pointer (some ⟨g, 1, none⟩)) w := by go_simp
theorem fld_lk2 (g : Nat) (w : World) : (Instr.fieldAt 69 (.pointer (some ⟨g, 0, none⟩)) 2).run Tryd.prog w = .ok (.pointer (some ⟨g, 2, none⟩)) w := by go_simp
theorem fld_lk3 (g : Nat) (w : World) : (Instr.fieldAt 69 (.pointer (some ⟨g, 0, none⟩)) 3).run Tryd.prog w = .ok (.pointer (some ⟨g, 3, none⟩)) w := by go_simp
/-- what numbers answers, as a row that reads -/
theorem nums_at (w : World) (gl m s : Nat) (vs : List Int) (hB : Blk w gl 28 (vs.map (Value.int .u64))) (hl : vs.length = m) (hm : m ≤ 1000) (hs : sizeOk (s : Int) = true) (hv : ∀ x ∈ vs, 0 ≤ x ∧ x < 256 ^ s) :
    Calls Tryd.prog 33 #[.int .i64 (s : Int), .slice (some ⟨gl, 0, none⟩) m m] w fun e w' => ∃ A' c', e = .returned (.slice A' (numsB s vs).length c') ∧ (OwnZ .u8 5 w' w.heap.size (.slice A' (numsB s vs).length c') (numsB s vs) ∧ Holds w' w'.heap.size A' (numsB s vs).length c' (numsB s vs)) ∧ Below w.heap.size w w' := by
  have h := numbers_any w gl m s vs hB hl hm hs hv
  unfold NumsPost at h
  refine h.mono fun e w' ⟨v, h1, h2, h3⟩ => ?_
  have hlen : (numsB s vs).length ≤ 281474976710656 := by
    rw [numsB_len, hl]
    have hs8 : s ≤ 8 := by rcases sizeOk_cases hs with h | h | h | h <;> omega
    have h1 : s * m ≤ 8 * 1000 := Nat.mul_le_mul hs8 hm
    omega
  obtain ⟨A', c', rfl, hh⟩ := OwnZ.holds8 h2 (numsB_bytes s vs) hlen
  exact ⟨A', c', h1, ⟨h2, hh⟩, h3⟩
theorem numsB1 (s : Nat) (x : Int) : numsB s [x] = le x s := by simp [numsB]
def LockPost (w : World) (ls : List LockV) (e : Ending) (w' : World) : Prop := ∃ v, e = .returned v ∧ OwnZ .u8 5 w' w.heap.size v (le ls.length 2 ++ (List.replicate 2 0 ++ locksB ls)) ∧ Below w.heap.size w w'
set_option maxHeartbeats 4000000 in
theorem putLocks_any (w : World) (A : Option Addr) (n c : Nat) (ls : List LockV) (h : HoldsS lockCells 4 w w.heap.size A n c ls) (hn : n ≤ 16) (hok : ∀ l ∈ ls, l.ok) :
    Calls Tryd.prog 36 #[.slice A n c] w (LockPost w ls) := by
  have hl := h.len
  have HH := Lib.hid h
  have HOK := Lib.hid hok
  have HL := Lib.hid hl
  have hnz : IntKind.u64.wrap (n : Int) = (n : Int) := by rw [IntKind.wrap_u64]; omega
  have CN0 : Hid (∀ (w : World) (gl : Nat), Blk w gl 28 [.int .u64 (n : Int)] → Calls Tryd.prog 33 #[.int .i64 2, .slice (some ⟨gl, 0, none⟩) 1 1] w fun e w' => ∃ v, e = .returned v ∧ OwnZ .u8 5 w' w.heap.size v (le n 2) ∧ Below w.heap.size w w') := fun w gl hB => by
    have h := numbers_any w gl 1 2 [(n : Int)] hB rfl (by decide) (by decide) (fun x hx => by rw [List.mem_singleton.1 hx, show (256 : Int) ^ 2 = 65536 from by decide]; omega)
    unfold NumsPost at h
    rw [numsB1] at h
    exact h
  have CN8 : Hid (∀ (x y : Int), (0 ≤ x ∧ x ≤ 18446744073709551615) → (0 ≤ y ∧ y ≤ 18446744073709551615) → ∀ (w : World) (gl : Nat), Blk w gl 28 [.int .u64 x, .int .u64 y] → Calls Tryd.prog 33 #[.int .i64 8, .slice (some ⟨gl, 0, none⟩) 2 2] w fun e w' => ∃ A' c', e = .returned (.slice A' 16 c') ∧ Holds w' w'.heap.size A' 16 c' (le x 8 ++ le y 8) ∧ Below w.heap.size w w') := fun x y hx hy w gl hB => by
    have h := nums_at w gl 2 8 [x, y] hB rfl (by decide) (by decide) (fun z hz => by
      rw [show (256 : Int) ^ 8 = 18446744073709551616 from by decide]
      rcases List.mem_cons.1 hz with rfl | hz
      · omega
      · rw [List.mem_singleton.1 hz]; omega)
    have e1 : numsB 8 [x, y] = le x 8 ++ le y 8 := by simp [numsB]
    rw [e1, show (le x 8 ++ le y 8).length = 16 from by rw [List.length_append, le_length, le_length]] at h
    exact h.mono fun e w' ⟨A', c', h1, h2, h3⟩ => ⟨A', c', h1, h2.2, h3⟩
  have CN2 : Hid (∀ (x : Int), (0 ≤ x ∧ x ≤ 65535) → ∀ (w : World) (gl : Nat), Blk w gl 28 [.int .u64 x] → Calls Tryd.prog 33 #[.int .i64 2, .slice (some ⟨gl, 0, none⟩) 1 1] w fun e w' => ∃ A' c', e = .returned (.slice A' 2 c') ∧ Holds w' w'.heap.size A' 2 c' (le x 2) ∧ Below w.heap.size w w') := fun x hx w gl hB => by
    have h := nums_at w gl 1 2 [x] hB rfl (by decide) (by decide) (fun z hz => by rw [List.mem_singleton.1 hz, show (256 : Int) ^ 2 = 65536 from by decide]; omega)
    rw [numsB1, le_length] at h
    exact h.mono fun e w' ⟨A', c', h1, h2, h3⟩ => ⟨A', c', h1, h2.2, h3⟩
  have CC : Hid (∀ (w : World) (gs m : Nat) (A : Nat → Option Addr) (n c : Nat → Nat) (X : Nat → List Int), Parts w gs m A n c X → m ≤ 1000 → sumN n m ≤ 140737488355328 → Calls Tryd.prog 35 #[.slice (some ⟨gs, 0, none⟩) m m] w fun e w' => ∃ v, e = .returned v ∧ OwnZ .u8 5 w' w.heap.size v (catL X m) ∧ Below w.heap.size w w') := ConcatZ_any
  have HQ : Hid (∀ e w', (∃ v, e = .returned v ∧ OwnZ .u8 5 w' w.heap.size v (le n 2 ++ (List.replicate 2 0 ++ locksB (ls.take n))) ∧ Below w.heap.size w w') → LockPost w ls e w') := fun e w' hh => by
    rw [← HL.out, List.take_length] at hh
    exact hh
  have HST : Hid (∀ (j : Nat) (l : LockV), ls[j]? = some l → locksB (ls.take (j + 1)) = locksB (ls.take j) ++ lockB l) := fun j l hx => by
    rw [List.take_add_one, hx, Option.toList_some, locksB_snoc]
  have HLN : Hid (∀ j, j ≤ n → (le (n : Int) 2 ++ (List.replicate 2 0 ++ locksB (ls.take j))).length ≤ 1000 ∧ Bytes (le (n : Int) 2 ++ (List.replicate 2 0 ++ locksB (ls.take j)))) := fun j hj => by
    refine ⟨?_, (le_bytes _ _).append ((Bytes.zeros 2).append (locksB_bytes _))⟩
    rw [List.length_append, List.length_append, locksB_len, le_length, List.length_replicate, List.length_take]
    omega
  have H0 : Hid (le (n : Int) 2 ++ (List.replicate 2 0 ++ locksB (ls.take 0)) = le (n : Int) 2 ++ List.replicate 2 0) := by show _ = _; rw [List.take_zero]; simp [locksB]
  obtain ⟨pre, hpre⟩ : ∃ f : Nat → List Int, f = fun j => le (n : Int) 2 ++ (List.replicate 2 0 ++ locksB (ls.take j)) := ⟨_, rfl⟩
  have hpre2 : ∀ j, le (n : Int) 2 ++ (List.replicate 2 0 ++ locksB (ls.take j)) = pre j := fun j => by rw [hpre]
  have HST2 : Hid (∀ (j : Nat) (l : LockV), ls[j]? = some l → pre (j + 1) = pre j ++ lockB l) := fun j l hx => by
    rw [hpre]
    show le (n : Int) 2 ++ (List.replicate 2 0 ++ locksB (ls.take (j + 1))) = (le (n : Int) 2 ++ (List.replicate 2 0 ++ locksB (ls.take j))) ++ lockB l
    rw [HST.out j l hx]
    simp only [List.append_assoc]
  simp only [hpre2] at HLN H0 HQ
  have ZK := Lib.hid zero_lk
  have ZKL : Hid ((lockCells ⟨0, 0, 0, 0⟩).length = 4) := rfl
  obtain ⟨zk, hzk⟩ : ∃ x, x = lockCells ⟨0, 0, 0, 0⟩ := ⟨_, rfl⟩
  rw [← hzk] at ZK ZKL
  have hle2 : (le (n : Int) 2).length = 2 := le_length _ _
  obtain ⟨n2, hn2⟩ : ∃ x, x = le (n : Int) 2 := ⟨_, rfl⟩
  rw [← hn2] at CN0 H0 hle2
  clear h hl hok hpre hpre2 HST hzk hn2 HL
  go_enter Tryd.func36, Tryd.ntmps36
  go_wp2_with (first
    | ((with_reducible show wpList _ _ _ (⟨some 9, _, _, _, _, _⟩ :: _) _ _); refine wpList_slice_blk rfl _ _ 1 _ rfl Tryd.underlying93 ([.int .u64 (n : Int)] : List Value) (by kernel_rfl) ?_; intro g1 w1 hg1 hg2 K1 L1)
    | fail)
  refine (CN0.out w1 g1 K1.out).mono ?_
  rintro e w2 ⟨v2, rfl, hv2, L2⟩
  have HV2 := Lib.hid (OwnZ.mono hv2 L1.out.size)
  have M2 := Lib.hid (step L1.out L2)
  have hs2 := M2.out.size
  clear hv2 L2 L1 K1 CN0
  go_wp2_with (first
    | (at_builtin; refine wpList_append_zeros rfl (.tmp 10) (.const (.int .i64 2)) rfl w.heap.size 2 _ n2 rfl rfl HV2.out (by decide) (by decide) (by omega) hs2 ?_; intro v3 w3 HV3 L3)
    | fail)
  rw [← H0.out] at HV3
  have M3 := Lib.hid (M2.out.trans L3.out)
  clear HV2 M2 L3 H0 hs2 hle2
  go_loopw [3, 14] (fun v i wr => ∃ j : Nat, i = .int .i64 j ∧ j ≤ n ∧ Hid (OwnZ .u8 5 wr w.heap.size v (pre j)) ∧ Hid (Below w.heap.size w wr)) (fun _ i _ => n - (intOf i).toNat)
  case atStart => exact ⟨0, rfl, Nat.zero_le _, HV3, M3⟩
  case round =>
    obtain ⟨j, rfl, hj, HO, HB1⟩ := hrel
    by_cases hlt : j < n
    · have hh := HH.out.below HB1.out
      obtain ⟨b, off, rfl, hb, hc⟩ := hh.cells (by omega)
      obtain ⟨l, hx⟩ : ∃ l, ls[j]? = some l := ⟨_, List.getElem?_eq_getElem (by have := hh.len; omega)⟩
      have Rx : Hid (wr.rangeAt b (off + j * 4) (lockCells l)) := hh.range rfl hlt hx
      have hlo := HOK.out l (List.mem_of_getElem? hx)
      have HE := Lib.hid (HST2.out j l hx)
      obtain ⟨hln, hlb⟩ := HLN.out j hj
      obtain ⟨Ab, cb, rfl, hhold⟩ := OwnZ.holds8 HO.out hlb (by omega)
      have HOb := Lib.hid hhold
      obtain ⟨op, x, y, z⟩ := l
      have D8 := Lib.hid (CN8.out x y hlo.at_ hlo.n)
      have D2 := Lib.hid (CN2.out z hlo.md)
      obtain ⟨z0, z1⟩ := hlo.md
      change 0 ≤ z at z0
      change z ≤ 65535 at z1
      have hz : IntKind.u64.wrap z = z := by rw [IntKind.wrap_u64]; omega
      have LX : Hid ((lockCells ⟨op, x, y, z⟩).length = 4) := rfl
      have HX1 : Hid (∀ v ∈ lockCells ⟨op, x, y, z⟩, v.oneCell' = true) := lockCells_one _
      have FX : Hid (∀ (w : World) (g : Nat), Blk w g 69 (lockCells ⟨op, x, y, z⟩) → w.cell? ⟨g, 1, none⟩ = some (.int .u64 x) ∧ w.cell? ⟨g, 2, none⟩ = some (.int .u64 y) ∧ w.cell? ⟨g, 3, none⟩ = some (.int .u16 z)) := fun w g h => ⟨h.at rfl, h.at rfl, h.at rfl⟩
      obtain ⟨cx, hcx⟩ : ∃ cx, cx = lockCells ⟨op, x, y, z⟩ := ⟨_, rfl⟩
      rw [← hcx] at Rx LX HX1 FX
      have HE2 : Hid (pre (j + 1) = pre j ++ (le x 8 ++ le y 8 ++ (le z 2 ++ List.replicate 2 0))) := by
        show _ = _
        rw [HE.out]
        show pre j ++ (le x 8 ++ (le y 8 ++ (le z 2 ++ List.replicate 2 0))) = _
        simp only [List.append_assoc]
      obtain ⟨pj, hpj⟩ : ∃ p, p = pre j := ⟨_, rfl⟩
      rw [← hpj] at HE2 HOb hln hlb ⊢
      obtain ⟨m, hm⟩ : ∃ m, m = pj.length := ⟨_, rfl⟩
      rw [← hm] at HOb hln ⊢
      obtain ⟨xy, hxy⟩ : ∃ p, p = le x 8 ++ le y 8 := ⟨_, rfl⟩
      obtain ⟨zz, hzz⟩ : ∃ p, p = le z 2 := ⟨_, rfl⟩
      rw [← hxy] at D8 HE2
      rw [← hzz] at D2 HE2
      have hsz := HB1.out.size
      clear hh hc hx hcx hlo HE hpj hm hlb hhold HO hxy hzz
      go_upto_region 5 with (first
        | ((with_reducible show wpList _ _ _ (⟨some 17, _, _, _, _, _⟩ :: _) _ _); refine wpList_load_midu rfl _ (.tmp 16) rfl b (off + j * 4) rfl cx _ Rx Tryd.underlying69 rfl 4 size_lock LX ?_)
        | ((with_reducible show wpList _ _ _ (⟨some 5, _, _, _, _, _⟩ :: _) _ _); refine wpList_alloc_blk rfl _ rfl zk _ ZK ?_; intro g u1 hg1 hg2 Z1 N1; have HOc := Lib.hid (HOb.out.over N1.out); have HB2 := Lib.hid (HB1.out.trans (N1.out.mono hsz)))
        | ((with_reducible show wpList _ _ _ (⟨none, .store _ (.tmp 5) _, _, _, _, _⟩ :: _) _ _); refine wpList_store_blk rfl _ (.tmp 5) (.tmp 17) rfl g rfl _ zk cx rfl Z1 4 size_lock ZKL LX HX1 ?_; intro u2 Z2 O2 hg3; have N2 := Lib.hid (below_only N1.out O2.out hg1); have HOd := Lib.hid (HOb.out.over N2.out); have HB3 := Lib.hid (HB1.out.trans (N2.out.mono hsz)))
        | fail)
      refine wp_region_held (S := fun w' => Blk w' g 69 cx) (by kernel_rfl) ?_
      change wpAnyH _ _ _ _ _ _ _ _ u2.drew
      have S0 : Hid (Blk u2.drew g 69 cx) := Z2.out.drew
      have b0 : Hid (Below w.heap.size w u2.drew) := HB3.out.drew
      have HB_0 := Lib.hid (HOd.out.drew)
      refine wpAnyH_take (i := 0) (v := _) rfl (by kernel_rfl) (by kernel_rfl) (by kernel_rfl) (fun _ _ _ h => h) (yieldsIf_move (by kernel_rfl) (.tmp 3) rfl (.slice Ab m cb) (by kernel_rfl)) S0.out ?_
      refine wpAnyH_take (i := 1) (v := _) rfl (by kernel_rfl) (by kernel_rfl) (by kernel_rfl) (fun _ _ _ h => h) (yieldsIf_fld (by kernel_rfl) _ (.tmp 5) 1 rfl (.pointer (some ⟨g, 0, none⟩)) (.pointer (some ⟨g, 1, none⟩)) (by kernel_rfl) (fld_lk1 g)) S0.out ?_
      refine wpAnyH_take (i := 2) (v := _) rfl (by kernel_rfl) (by kernel_rfl) (by kernel_rfl) (fun _ _ _ h => h) (yieldsIf_load_one (by kernel_rfl) _ (.tmp 19) rfl g 1 (by kernel_rfl) (.int .u64 x) (fun w h => (FX.out w g h).1) _ Tryd.underlying28 rfl) S0.out ?_
      refine wpAnyH_take (i := 3) (v := _) rfl (by kernel_rfl) (by kernel_rfl) (by kernel_rfl) (fun _ _ _ h => h) (yieldsIf_fld (by kernel_rfl) _ (.tmp 5) 2 rfl (.pointer (some ⟨g, 0, none⟩)) (.pointer (some ⟨g, 2, none⟩)) (by kernel_rfl) (fld_lk2 g)) S0.out ?_
      refine wpAnyH_take (i := 4) (v := _) rfl (by kernel_rfl) (by kernel_rfl) (by kernel_rfl) (fun _ _ _ h => h) (yieldsIf_load_one (by kernel_rfl) _ (.tmp 21) rfl g 2 (by kernel_rfl) (.int .u64 y) (fun w h => (FX.out w g h).2.1) _ Tryd.underlying28 rfl) S0.out ?_
      refine wpAnyH_take (i := 7) (v := _) rfl (by kernel_rfl) (by kernel_rfl) (by kernel_rfl) (fun _ _ _ h => h) (yieldsIf_fld (by kernel_rfl) _ (.tmp 5) 3 rfl (.pointer (some ⟨g, 0, none⟩)) (.pointer (some ⟨g, 3, none⟩)) (by kernel_rfl) (fld_lk3 g)) S0.out ?_
      refine wpAnyH_take (i := 8) (v := _) rfl (by kernel_rfl) (by kernel_rfl) (by kernel_rfl) (fun _ _ _ h => h) (yieldsIf_load_one (by kernel_rfl) _ (.tmp 25) rfl g 3 (by kernel_rfl) (.int .u16 z) (fun w h => (FX.out w g h).2.2) _ Tryd.underlying22 rfl) S0.out ?_
      refine wpAnyH_take (i := 9) (v := (.int .u64 z)) rfl (by kernel_rfl) (by kernel_rfl) (by kernel_rfl) (fun _ _ _ h => h) (.inl ⟨by kernel_rfl, fun w _ => by go_simp⟩) S0.out ?_
      refine wpAnyH_frame fun fr1 hfr1 => ?_
      refine wpAnyH_three 5 10 12 _ _ _ (by kernel_rfl) rfl rfl rfl (fun K hK => ?_) (fun K hK => ?_) (fun K hK => ?_)
      · skip
        refine step_slice_blk rfl _ _ 2 _ rfl Tryd.underlying93 ([.int .u64 x, .int .u64 y] : List Value) (by rw [hfr1]; kernel_rfl) ?_
        intro g2 wt2 qa qb Y2 L2
        have S2 := Lib.hid (S0.out.over L2.out)
        have b2 := Lib.hid (step b0.out L2.out)
        have HB_2 := Lib.hid (HB_0.out.over L2.out)
        refine hK _ _ S2.out ?_
        clear hK K
        subst hfr1
        refine wpAnyH_frame fun fr3 hfr3 => ?_
        refine wpAnyH_three 6 10 12 _ _ _ (by kernel_rfl) rfl rfl rfl (fun K hK => ?_) (fun K hK => ?_) (fun K hK => ?_)
        · skip
          subst hfr3
          go_simp
          refine (D8.out _ _ Y2.out).mono ?_
          rintro e wt4 ⟨A4, c4, rfl, hY4, L04⟩
          have Y4 := Lib.hid hY4
          have L4 := Lib.hid L04
          clear hY4 L04
          have S4 := Lib.hid (S2.out.over L4.out)
          have b4 := Lib.hid (step b2.out L4.out)
          have HB_4 := Lib.hid (HB_2.out.over L4.out)
          refine hK _ _ S4.out ?_
          clear hK K
          refine wpAnyH_frame fun fr5 hfr5 => ?_
          refine wpAnyH_two 10 12 _ _ (by kernel_rfl) rfl rfl (fun K hK => ?_) (fun K hK => ?_)
          · skip
            refine step_slice_blk rfl _ _ 1 _ rfl Tryd.underlying93 ([.int .u64 z] : List Value) (by rw [hfr5]; kernel_rfl) ?_
            intro g6 wt6 qa qb Y6 L6
            have S6 := Lib.hid (S4.out.over L6.out)
            have b6 := Lib.hid (step b4.out L6.out)
            have HB_6 := Lib.hid (HB_4.out.over L6.out)
            have xA_6 := Lib.hid (Y4.out.over L6.out)
            refine hK _ _ S6.out ?_
            clear hK K
            subst hfr5
            refine wpAnyH_frame fun fr7 hfr7 => ?_
            refine wpAnyH_two 11 12 _ _ (by kernel_rfl) rfl rfl (fun K hK => ?_) (fun K hK => ?_)
            · skip
              subst hfr7
              go_simp
              refine (D2.out _ _ Y6.out).mono ?_
              rintro e wt8 ⟨A8, c8, rfl, hY8, L08⟩
              have Y8 := Lib.hid hY8
              have L8 := Lib.hid L08
              clear hY8 L08
              have S8 := Lib.hid (S6.out.over L8.out)
              have b8 := Lib.hid (step b6.out L8.out)
              have HB_8 := Lib.hid (HB_6.out.over L8.out)
              have xA_8 := Lib.hid (xA_6.out.over L8.out)
              refine hK _ _ S8.out ?_
              clear hK K
              refine wpAnyH_one 12 _ (by kernel_rfl) rfl fun K hK => ?_
              refine step_make_bytes rfl _ _ rfl 2 rfl rfl (by omega) ?_
              intro wt9 R9 L9
              have Y9 := Lib.hid (Fresh.holds (base := 0) (.inr ⟨_, rfl, Nat.zero_le _, R9.out⟩) (by rfl : (List.replicate 2 (0 : Int)).length = 2) (Bytes.zeros 2) (by omega))
              clear R9
              have S9 := Lib.hid (S8.out.over L9.out)
              have b9 := Lib.hid (step b8.out L9.out)
              have HB_9 := Lib.hid (HB_8.out.over L9.out)
              have xA_9 := Lib.hid (xA_8.out.over L9.out)
              have zC_9 := Lib.hid (Y8.out.over L9.out)
              refine hK _ _ S9.out ?_
              clear hK K
              refine wpAnyH_frame fun fr10 hfr10 => ?_
              refine wpAnyH_one 13 _ (by kernel_rfl) rfl fun K hK => ?_
              refine step_slice_blk rfl _ _ 4 _ rfl Tryd.underlying96 ([.slice Ab m cb, .slice A4 16 c4, .slice A8 2 c8, .slice (some ⟨wt8.heap.size, 0, none⟩) 2 2] : List Value) (by rw [hfr10]; kernel_rfl) ?_
              intro g11 wt11 qa qb Y011 L11
              have Y11 : Hid (Parts wt11 g11 4 (partA [(Ab, m, cb, pj), (A4, 16, c4, xy), (A8, 2, c8, zz), ((some ⟨wt8.heap.size, 0, none⟩), 2, 2, List.replicate 2 0)]) (partN [(Ab, m, cb, pj), (A4, 16, c4, xy), (A8, 2, c8, zz), ((some ⟨wt8.heap.size, 0, none⟩), 2, 2, List.replicate 2 0)]) (partC [(Ab, m, cb, pj), (A4, 16, c4, xy), (A8, 2, c8, zz), ((some ⟨wt8.heap.size, 0, none⟩), 2, 2, List.replicate 2 0)]) (partX [(Ab, m, cb, pj), (A4, 16, c4, xy), (A8, 2, c8, zz), ((some ⟨wt8.heap.size, 0, none⟩), 2, 2, List.replicate 2 0)])) := Parts.of_blk [(Ab, m, cb, pj), (A4, 16, c4, xy), (A8, 2, c8, zz), ((some ⟨wt8.heap.size, 0, none⟩), 2, 2, List.replicate 2 0)] Y011.out (List.forall_mem_cons.2 ⟨HB_9.out.over L11.out, List.forall_mem_cons.2 ⟨xA_9.out.over L11.out, List.forall_mem_cons.2 ⟨zC_9.out.over L11.out, List.forall_mem_cons.2 ⟨Y9.out.over L11.out, fun _ h => by cases h⟩⟩⟩⟩)
              clear Y011
              have S11 := Lib.hid (S9.out.over L11.out)
              have b11 := Lib.hid (step b9.out L11.out)
              refine hK _ _ S11.out ?_
              clear hK K
              subst hfr10
              refine wpAnyH_one 14 _ (by kernel_rfl) rfl fun K hK => ?_
              go_simp
              refine (CC.out _ g11 4 _ _ _ _ Y11.out (by omega) (by show 0 + m + 16 + 2 + 2 ≤ _; omega)).mono ?_
              rintro e wt12 ⟨v, rfl, hY12, L012⟩
              have OUT := Lib.hid hY12
              have L12 := Lib.hid L012
              clear hY12 L012
              have hsz0 := b11.out.size
              have S12 := Lib.hid (S11.out.over L12.out)
              have b12 := Lib.hid (step b11.out L12.out)
              refine hK _ _ S12.out ?_
              clear hK K
              refine wpAnyH_one 15 _ (by kernel_rfl) rfl fun K hK => ?_
              go_simp
              refine hK _ _ S12.out ?_
              clear hK K
              refine wpAnyH_done (by kernel_rfl) ?_ _
              have HO6 := Lib.hid (OwnZ.mono OUT.out (Nat.le_trans hsz0 (Nat.le_refl _)))
              have HO7 : Hid (OwnZ .u8 5 wt12 w.heap.size v (pre (j + 1))) := by
                show OwnZ _ _ _ _ _ _
                rw [HE2.out]
                have h9 := HO6.out
                simpa [catL, partX, List.append_assoc] using h9
              have HB9 := Lib.hid b12.out
              clear OUT HO6
              go_wp2
              go_roundw
              case rel => exact ⟨j + 1, by simp, by omega, HO7, HB9⟩
              case measure => simp [intOf]; omega
            · skip
              subst hfr7
              refine step_make_bytes rfl _ _ rfl 2 rfl rfl (by omega) ?_
              intro wt14 R14 L14
              have Y14 := Lib.hid (Fresh.holds (base := 0) (.inr ⟨_, rfl, Nat.zero_le _, R14.out⟩) (by rfl : (List.replicate 2 (0 : Int)).length = 2) (Bytes.zeros 2) (by omega))
              clear R14
              have S14 := Lib.hid (S6.out.over L14.out)
              have b14 := Lib.hid (step b6.out L14.out)
              have HB_14 := Lib.hid (HB_6.out.over L14.out)
              have xA_14 := Lib.hid (xA_6.out.over L14.out)
              have lC_14 := Lib.hid (Y6.out.over L14.out)
              refine hK _ _ S14.out ?_
              clear hK K
              refine wpAnyH_one 11 _ (by kernel_rfl) rfl fun K hK => ?_
              go_simp
              refine (D2.out _ _ lC_14.out).mono ?_
              rintro e wt15 ⟨A15, c15, rfl, hY15, L015⟩
              have Y15 := Lib.hid hY15
              have L15 := Lib.hid L015
              clear hY15 L015
              have S15 := Lib.hid (S14.out.over L15.out)
              have b15 := Lib.hid (step b14.out L15.out)
              have HB_15 := Lib.hid (HB_14.out.over L15.out)
              have xA_15 := Lib.hid (xA_14.out.over L15.out)
              have nE_15 := Lib.hid (Y14.out.over L15.out)
              refine hK _ _ S15.out ?_
              clear hK K
              refine wpAnyH_frame fun fr16 hfr16 => ?_
              refine wpAnyH_one 13 _ (by kernel_rfl) rfl fun K hK => ?_
              refine step_slice_blk rfl _ _ 4 _ rfl Tryd.underlying96 ([.slice Ab m cb, .slice A4 16 c4, .slice A15 2 c15, .slice (some ⟨wt6.heap.size, 0, none⟩) 2 2] : List Value) (by rw [hfr16]; kernel_rfl) ?_
              intro g17 wt17 qa qb Y017 L17
              have Y17 : Hid (Parts wt17 g17 4 (partA [(Ab, m, cb, pj), (A4, 16, c4, xy), (A15, 2, c15, zz), ((some ⟨wt6.heap.size, 0, none⟩), 2, 2, List.replicate 2 0)]) (partN [(Ab, m, cb, pj), (A4, 16, c4, xy), (A15, 2, c15, zz), ((some ⟨wt6.heap.size, 0, none⟩), 2, 2, List.replicate 2 0)]) (partC [(Ab, m, cb, pj), (A4, 16, c4, xy), (A15, 2, c15, zz), ((some ⟨wt6.heap.size, 0, none⟩), 2, 2, List.replicate 2 0)]) (partX [(Ab, m, cb, pj), (A4, 16, c4, xy), (A15, 2, c15, zz), ((some ⟨wt6.heap.size, 0, none⟩), 2, 2, List.replicate 2 0)])) := Parts.of_blk [(Ab, m, cb, pj), (A4, 16, c4, xy), (A15, 2, c15, zz), ((some ⟨wt6.heap.size, 0, none⟩), 2, 2, List.replicate 2 0)] Y017.out (List.forall_mem_cons.2 ⟨HB_15.out.over L17.out, List.forall_mem_cons.2 ⟨xA_15.out.over L17.out, List.forall_mem_cons.2 ⟨Y15.out.over L17.out, List.forall_mem_cons.2 ⟨nE_15.out.over L17.out, fun _ h => by cases h⟩⟩⟩⟩)
              clear Y017
              have S17 := Lib.hid (S15.out.over L17.out)
              have b17 := Lib.hid (step b15.out L17.out)
              refine hK _ _ S17.out ?_
              clear hK K
              subst hfr16
              refine wpAnyH_one 14 _ (by kernel_rfl) rfl fun K hK => ?_
              go_simp
              refine (CC.out _ g17 4 _ _ _ _ Y17.out (by omega) (by show 0 + m + 16 + 2 + 2 ≤ _; omega)).mono ?_
              rintro e wt18 ⟨v, rfl, hY18, L018⟩
              have OUT := Lib.hid hY18
              have L18 := Lib.hid L018
              clear hY18 L018
              have hsz0 := b17.out.size
              have S18 := Lib.hid (S17.out.over L18.out)
              have b18 := Lib.hid (step b17.out L18.out)
              refine hK _ _ S18.out ?_
              clear hK K
              refine wpAnyH_one 15 _ (by kernel_rfl) rfl fun K hK => ?_
              go_simp
              refine hK _ _ S18.out ?_
              clear hK K
              refine wpAnyH_done (by kernel_rfl) ?_ _
              have HO6 := Lib.hid (OwnZ.mono OUT.out (Nat.le_trans hsz0 (Nat.le_refl _)))
              have HO7 : Hid (OwnZ .u8 5 wt18 w.heap.size v (pre (j + 1))) := by
                show OwnZ _ _ _ _ _ _
                rw [HE2.out]
                have h9 := HO6.out
                simpa [catL, partX, List.append_assoc] using h9
              have HB9 := Lib.hid b18.out
              clear OUT HO6
              go_wp2
              go_roundw
              case rel => exact ⟨j + 1, by simp, by omega, HO7, HB9⟩
              case measure => simp [intOf]; omega
          · skip
            subst hfr5
            refine step_make_bytes rfl _ _ rfl 2 rfl rfl (by omega) ?_
            intro wt20 R20 L20
            have Y20 := Lib.hid (Fresh.holds (base := 0) (.inr ⟨_, rfl, Nat.zero_le _, R20.out⟩) (by rfl : (List.replicate 2 (0 : Int)).length = 2) (Bytes.zeros 2) (by omega))
            clear R20
            have S20 := Lib.hid (S4.out.over L20.out)
            have b20 := Lib.hid (step b4.out L20.out)
            have HB_20 := Lib.hid (HB_4.out.over L20.out)
            have xA_20 := Lib.hid (Y4.out.over L20.out)
            refine hK _ _ S20.out ?_
            clear hK K
            refine wpAnyH_frame fun fr21 hfr21 => ?_
            refine wpAnyH_one 10 _ (by kernel_rfl) rfl fun K hK => ?_
            refine step_slice_blk rfl _ _ 1 _ rfl Tryd.underlying93 ([.int .u64 z] : List Value) (by rw [hfr21]; kernel_rfl) ?_
            intro g22 wt22 qa qb Y22 L22
            have S22 := Lib.hid (S20.out.over L22.out)
            have b22 := Lib.hid (step b20.out L22.out)
            have HB_22 := Lib.hid (HB_20.out.over L22.out)
            have xA_22 := Lib.hid (xA_20.out.over L22.out)
            have nE_22 := Lib.hid (Y20.out.over L22.out)
            refine hK _ _ S22.out ?_
            clear hK K
            subst hfr21
            refine wpAnyH_one 11 _ (by kernel_rfl) rfl fun K hK => ?_
            go_simp
            refine (D2.out _ _ Y22.out).mono ?_
            rintro e wt23 ⟨A23, c23, rfl, hY23, L023⟩
            have Y23 := Lib.hid hY23
            have L23 := Lib.hid L023
            clear hY23 L023
            have S23 := Lib.hid (S22.out.over L23.out)
            have b23 := Lib.hid (step b22.out L23.out)
            have HB_23 := Lib.hid (HB_22.out.over L23.out)
            have xA_23 := Lib.hid (xA_22.out.over L23.out)
            have nE_23 := Lib.hid (nE_22.out.over L23.out)
            refine hK _ _ S23.out ?_
            clear hK K
            refine wpAnyH_frame fun fr24 hfr24 => ?_
            refine wpAnyH_one 13 _ (by kernel_rfl) rfl fun K hK => ?_
            refine step_slice_blk rfl _ _ 4 _ rfl Tryd.underlying96 ([.slice Ab m cb, .slice A4 16 c4, .slice A23 2 c23, .slice (some ⟨wt4.heap.size, 0, none⟩) 2 2] : List Value) (by rw [hfr24]; kernel_rfl) ?_
            intro g25 wt25 qa qb Y025 L25
            have Y25 : Hid (Parts wt25 g25 4 (partA [(Ab, m, cb, pj), (A4, 16, c4, xy), (A23, 2, c23, zz), ((some ⟨wt4.heap.size, 0, none⟩), 2, 2, List.replicate 2 0)]) (partN [(Ab, m, cb, pj), (A4, 16, c4, xy), (A23, 2, c23, zz), ((some ⟨wt4.heap.size, 0, none⟩), 2, 2, List.replicate 2 0)]) (partC [(Ab, m, cb, pj), (A4, 16, c4, xy), (A23, 2, c23, zz), ((some ⟨wt4.heap.size, 0, none⟩), 2, 2, List.replicate 2 0)]) (partX [(Ab, m, cb, pj), (A4, 16, c4, xy), (A23, 2, c23, zz), ((some ⟨wt4.heap.size, 0, none⟩), 2, 2, List.replicate 2 0)])) := Parts.of_blk [(Ab, m, cb, pj), (A4, 16, c4, xy), (A23, 2, c23, zz), ((some ⟨wt4.heap.size, 0, none⟩), 2, 2, List.replicate 2 0)] Y025.out (List.forall_mem_cons.2 ⟨HB_23.out.over L25.out, List.forall_mem_cons.2 ⟨xA_23.out.over L25.out, List.forall_mem_cons.2 ⟨Y23.out.over L25.out, List.forall_mem_cons.2 ⟨nE_23.out.over L25.out, fun _ h => by cases h⟩⟩⟩⟩)
            clear Y025
            have S25 := Lib.hid (S23.out.over L25.out)
            have b25 := Lib.hid (step b23.out L25.out)
            refine hK _ _ S25.out ?_
            clear hK K
            subst hfr24
            refine wpAnyH_one 14 _ (by kernel_rfl) rfl fun K hK => ?_
            go_simp
            refine (CC.out _ g25 4 _ _ _ _ Y25.out (by omega) (by show 0 + m + 16 + 2 + 2 ≤ _; omega)).mono ?_
            rintro e wt26 ⟨v, rfl, hY26, L026⟩
            have OUT := Lib.hid hY26
            have L26 := Lib.hid L026
            clear hY26 L026
            have hsz0 := b25.out.size
            have S26 := Lib.hid (S25.out.over L26.out)
            have b26 := Lib.hid (step b25.out L26.out)
            refine hK _ _ S26.out ?_
            clear hK K
            refine wpAnyH_one 15 _ (by kernel_rfl) rfl fun K hK => ?_
            go_simp
            refine hK _ _ S26.out ?_
            clear hK K
            refine wpAnyH_done (by kernel_rfl) ?_ _
            have HO6 := Lib.hid (OwnZ.mono OUT.out (Nat.le_trans hsz0 (Nat.le_refl _)))
            have HO7 : Hid (OwnZ .u8 5 wt26 w.heap.size v (pre (j + 1))) := by
              show OwnZ _ _ _ _ _ _
              rw [HE2.out]
              have h9 := HO6.out
              simpa [catL, partX, List.append_assoc] using h9
            have HB9 := Lib.hid b26.out
            clear OUT HO6
            go_wp2
            go_roundw
            case rel => exact ⟨j + 1, by simp, by omega, HO7, HB9⟩
            case measure => simp [intOf]; omega
        · skip
          refine step_slice_blk rfl _ _ 1 _ rfl Tryd.underlying93 ([.int .u64 z] : List Value) (by rw [hfr3]; kernel_rfl) ?_
          intro g28 wt28 qa qb Y28 L28
          have S28 := Lib.hid (S2.out.over L28.out)
          have b28 := Lib.hid (step b2.out L28.out)
          have HB_28 := Lib.hid (HB_2.out.over L28.out)
          have lA_28 := Lib.hid (Y2.out.over L28.out)
          refine hK _ _ S28.out ?_
          clear hK K
          subst hfr3
          refine wpAnyH_frame fun fr29 hfr29 => ?_
          refine wpAnyH_two 6 12 _ _ (by kernel_rfl) rfl rfl (fun K hK => ?_) (fun K hK => ?_)
          · skip
            subst hfr29
            go_simp
            refine (D8.out _ _ lA_28.out).mono ?_
            rintro e wt30 ⟨A30, c30, rfl, hY30, L030⟩
            have Y30 := Lib.hid hY30
            have L30 := Lib.hid L030
            clear hY30 L030
            have S30 := Lib.hid (S28.out.over L30.out)
            have b30 := Lib.hid (step b28.out L30.out)
            have HB_30 := Lib.hid (HB_28.out.over L30.out)
            have lC_30 := Lib.hid (Y28.out.over L30.out)
            refine hK _ _ S30.out ?_
            clear hK K
            refine wpAnyH_frame fun fr31 hfr31 => ?_
            refine wpAnyH_two 11 12 _ _ (by kernel_rfl) rfl rfl (fun K hK => ?_) (fun K hK => ?_)
            · skip
              subst hfr31
              go_simp
              refine (D2.out _ _ lC_30.out).mono ?_
              rintro e wt32 ⟨A32, c32, rfl, hY32, L032⟩
              have Y32 := Lib.hid hY32
              have L32 := Lib.hid L032
              clear hY32 L032
              have S32 := Lib.hid (S30.out.over L32.out)
              have b32 := Lib.hid (step b30.out L32.out)
              have HB_32 := Lib.hid (HB_30.out.over L32.out)
              have xA_32 := Lib.hid (Y30.out.over L32.out)
              refine hK _ _ S32.out ?_
              clear hK K
              refine wpAnyH_one 12 _ (by kernel_rfl) rfl fun K hK => ?_
              refine step_make_bytes rfl _ _ rfl 2 rfl rfl (by omega) ?_
              intro wt33 R33 L33
              have Y33 := Lib.hid (Fresh.holds (base := 0) (.inr ⟨_, rfl, Nat.zero_le _, R33.out⟩) (by rfl : (List.replicate 2 (0 : Int)).length = 2) (Bytes.zeros 2) (by omega))
              clear R33
              have S33 := Lib.hid (S32.out.over L33.out)
              have b33 := Lib.hid (step b32.out L33.out)
              have HB_33 := Lib.hid (HB_32.out.over L33.out)
              have xA_33 := Lib.hid (xA_32.out.over L33.out)
              have zC_33 := Lib.hid (Y32.out.over L33.out)
              refine hK _ _ S33.out ?_
              clear hK K
              refine wpAnyH_frame fun fr34 hfr34 => ?_
              refine wpAnyH_one 13 _ (by kernel_rfl) rfl fun K hK => ?_
              refine step_slice_blk rfl _ _ 4 _ rfl Tryd.underlying96 ([.slice Ab m cb, .slice A30 16 c30, .slice A32 2 c32, .slice (some ⟨wt32.heap.size, 0, none⟩) 2 2] : List Value) (by rw [hfr34]; kernel_rfl) ?_
              intro g35 wt35 qa qb Y035 L35
              have Y35 : Hid (Parts wt35 g35 4 (partA [(Ab, m, cb, pj), (A30, 16, c30, xy), (A32, 2, c32, zz), ((some ⟨wt32.heap.size, 0, none⟩), 2, 2, List.replicate 2 0)]) (partN [(Ab, m, cb, pj), (A30, 16, c30, xy), (A32, 2, c32, zz), ((some ⟨wt32.heap.size, 0, none⟩), 2, 2, List.replicate 2 0)]) (partC [(Ab, m, cb, pj), (A30, 16, c30, xy), (A32, 2, c32, zz), ((some ⟨wt32.heap.size, 0, none⟩), 2, 2, List.replicate 2 0)]) (partX [(Ab, m, cb, pj), (A30, 16, c30, xy), (A32, 2, c32, zz), ((some ⟨wt32.heap.size, 0, none⟩), 2, 2, List.replicate 2 0)])) := Parts.of_blk [(Ab, m, cb, pj), (A30, 16, c30, xy), (A32, 2, c32, zz), ((some ⟨wt32.heap.size, 0, none⟩), 2, 2, List.replicate 2 0)] Y035.out (List.forall_mem_cons.2 ⟨HB_33.out.over L35.out, List.forall_mem_cons.2 ⟨xA_33.out.over L35.out, List.forall_mem_cons.2 ⟨zC_33.out.over L35.out, List.forall_mem_cons.2 ⟨Y33.out.over L35.out, fun _ h => by cases h⟩⟩⟩⟩)
              clear Y035
              have S35 := Lib.hid (S33.out.over L35.out)
              have b35 := Lib.hid (step b33.out L35.out)
              refine hK _ _ S35.out ?_
              clear hK K
              subst hfr34
              refine wpAnyH_one 14 _ (by kernel_rfl) rfl fun K hK => ?_
              go_simp
              refine (CC.out _ g35 4 _ _ _ _ Y35.out (by omega) (by show 0 + m + 16 + 2 + 2 ≤ _; omega)).mono ?_
              rintro e wt36 ⟨v, rfl, hY36, L036⟩
              have OUT := Lib.hid hY36
              have L36 := Lib.hid L036
              clear hY36 L036
              have hsz0 := b35.out.size
              have S36 := Lib.hid (S35.out.over L36.out)
              have b36 := Lib.hid (step b35.out L36.out)
              refine hK _ _ S36.out ?_
              clear hK K
              refine wpAnyH_one 15 _ (by kernel_rfl) rfl fun K hK => ?_
              go_simp
              refine hK _ _ S36.out ?_
              clear hK K
              refine wpAnyH_done (by kernel_rfl) ?_ _
              have HO6 := Lib.hid (OwnZ.mono OUT.out (Nat.le_trans hsz0 (Nat.le_refl _)))
              have HO7 : Hid (OwnZ .u8 5 wt36 w.heap.size v (pre (j + 1))) := by
                show OwnZ _ _ _ _ _ _
                rw [HE2.out]
                have h9 := HO6.out
                simpa [catL, partX, List.append_assoc] using h9
              have HB9 := Lib.hid b36.out
              clear OUT HO6
              go_wp2
              go_roundw
              case rel => exact ⟨j + 1, by simp, by omega, HO7, HB9⟩
              case measure => simp [intOf]; omega
            · skip
              subst hfr31
              refine step_make_bytes rfl _ _ rfl 2 rfl rfl (by omega) ?_
              intro wt38 R38 L38
              have Y38 := Lib.hid (Fresh.holds (base := 0) (.inr ⟨_, rfl, Nat.zero_le _, R38.out⟩) (by rfl : (List.replicate 2 (0 : Int)).length = 2) (Bytes.zeros 2) (by omega))
              clear R38
              have S38 := Lib.hid (S30.out.over L38.out)
              have b38 := Lib.hid (step b30.out L38.out)
              have HB_38 := Lib.hid (HB_30.out.over L38.out)
              have lC_38 := Lib.hid (lC_30.out.over L38.out)
              have xA_38 := Lib.hid (Y30.out.over L38.out)
              refine hK _ _ S38.out ?_
              clear hK K
              refine wpAnyH_one 11 _ (by kernel_rfl) rfl fun K hK => ?_
              go_simp
              refine (D2.out _ _ lC_38.out).mono ?_
              rintro e wt39 ⟨A39, c39, rfl, hY39, L039⟩
              have Y39 := Lib.hid hY39
              have L39 := Lib.hid L039
              clear hY39 L039
              have S39 := Lib.hid (S38.out.over L39.out)
              have b39 := Lib.hid (step b38.out L39.out)
              have HB_39 := Lib.hid (HB_38.out.over L39.out)
              have xA_39 := Lib.hid (xA_38.out.over L39.out)
              have nE_39 := Lib.hid (Y38.out.over L39.out)
              refine hK _ _ S39.out ?_
              clear hK K
              refine wpAnyH_frame fun fr40 hfr40 => ?_
              refine wpAnyH_one 13 _ (by kernel_rfl) rfl fun K hK => ?_
              refine step_slice_blk rfl _ _ 4 _ rfl Tryd.underlying96 ([.slice Ab m cb, .slice A30 16 c30, .slice A39 2 c39, .slice (some ⟨wt30.heap.size, 0, none⟩) 2 2] : List Value) (by rw [hfr40]; kernel_rfl) ?_
              intro g41 wt41 qa qb Y041 L41
              have Y41 : Hid (Parts wt41 g41 4 (partA [(Ab, m, cb, pj), (A30, 16, c30, xy), (A39, 2, c39, zz), ((some ⟨wt30.heap.size, 0, none⟩), 2, 2, List.replicate 2 0)]) (partN [(Ab, m, cb, pj), (A30, 16, c30, xy), (A39, 2, c39, zz), ((some ⟨wt30.heap.size, 0, none⟩), 2, 2, List.replicate 2 0)]) (partC [(Ab, m, cb, pj), (A30, 16, c30, xy), (A39, 2, c39, zz), ((some ⟨wt30.heap.size, 0, none⟩), 2, 2, List.replicate 2 0)]) (partX [(Ab, m, cb, pj), (A30, 16, c30, xy), (A39, 2, c39, zz), ((some ⟨wt30.heap.size, 0, none⟩), 2, 2, List.replicate 2 0)])) := Parts.of_blk [(Ab, m, cb, pj), (A30, 16, c30, xy), (A39, 2, c39, zz), ((some ⟨wt30.heap.size, 0, none⟩), 2, 2, List.replicate 2 0)] Y041.out (List.forall_mem_cons.2 ⟨HB_39.out.over L41.out, List.forall_mem_cons.2 ⟨xA_39.out.over L41.out, List.forall_mem_cons.2 ⟨Y39.out.over L41.out, List.forall_mem_cons.2 ⟨nE_39.out.over L41.out, fun _ h => by cases h⟩⟩⟩⟩)
              clear Y041
              have S41 := Lib.hid (S39.out.over L41.out)
              have b41 := Lib.hid (step b39.out L41.out)
              refine hK _ _ S41.out ?_
              clear hK K
              subst hfr40
              refine wpAnyH_one 14 _ (by kernel_rfl) rfl fun K hK => ?_
              go_simp
              refine (CC.out _ g41 4 _ _ _ _ Y41.out (by omega) (by show 0 + m + 16 + 2 + 2 ≤ _; omega)).mono ?_
              rintro e wt42 ⟨v, rfl, hY42, L042⟩
              have OUT := Lib.hid hY42
              have L42 := Lib.hid L042
              clear hY42 L042
              have hsz0 := b41.out.size
              have S42 := Lib.hid (S41.out.over L42.out)
              have b42 := Lib.hid (step b41.out L42.out)
              refine hK _ _ S42.out ?_
              clear hK K
              refine wpAnyH_one 15 _ (by kernel_rfl) rfl fun K hK => ?_
              go_simp
              refine hK _ _ S42.out ?_
              clear hK K
              refine wpAnyH_done (by kernel_rfl) ?_ _
              have HO6 := Lib.hid (OwnZ.mono OUT.out (Nat.le_trans hsz0 (Nat.le_refl _)))
              have HO7 : Hid (OwnZ .u8 5 wt42 w.heap.size v (pre (j + 1))) := by
                show OwnZ _ _ _ _ _ _
                rw [HE2.out]
                have h9 := HO6.out
                simpa [catL, partX, List.append_assoc] using h9
              have HB9 := Lib.hid b42.out
              clear OUT HO6
              go_wp2
              go_roundw
              case rel => exact ⟨j + 1, by simp, by omega, HO7, HB9⟩
              case measure => simp [intOf]; omega
          · skip
            subst hfr29
            refine step_make_bytes rfl _ _ rfl 2 rfl rfl (by omega) ?_
            intro wt44 R44 L44
            have Y44 := Lib.hid (Fresh.holds (base := 0) (.inr ⟨_, rfl, Nat.zero_le _, R44.out⟩) (by rfl : (List.replicate 2 (0 : Int)).length = 2) (Bytes.zeros 2) (by omega))
            clear R44
            have S44 := Lib.hid (S28.out.over L44.out)
            have b44 := Lib.hid (step b28.out L44.out)
            have HB_44 := Lib.hid (HB_28.out.over L44.out)
            have lA_44 := Lib.hid (lA_28.out.over L44.out)
            have lC_44 := Lib.hid (Y28.out.over L44.out)
            refine hK _ _ S44.out ?_
            clear hK K
            refine wpAnyH_one 6 _ (by kernel_rfl) rfl fun K hK => ?_
            go_simp
            refine (D8.out _ _ lA_44.out).mono ?_
            rintro e wt45 ⟨A45, c45, rfl, hY45, L045⟩
            have Y45 := Lib.hid hY45
            have L45 := Lib.hid L045
            clear hY45 L045
            have S45 := Lib.hid (S44.out.over L45.out)
            have b45 := Lib.hid (step b44.out L45.out)
            have HB_45 := Lib.hid (HB_44.out.over L45.out)
            have lC_45 := Lib.hid (lC_44.out.over L45.out)
            have nE_45 := Lib.hid (Y44.out.over L45.out)
            refine hK _ _ S45.out ?_
            clear hK K
            refine wpAnyH_one 11 _ (by kernel_rfl) rfl fun K hK => ?_
            go_simp
            refine (D2.out _ _ lC_45.out).mono ?_
            rintro e wt46 ⟨A46, c46, rfl, hY46, L046⟩
            have Y46 := Lib.hid hY46
            have L46 := Lib.hid L046
            clear hY46 L046
            have S46 := Lib.hid (S45.out.over L46.out)
            have b46 := Lib.hid (step b45.out L46.out)
            have HB_46 := Lib.hid (HB_45.out.over L46.out)
            have nE_46 := Lib.hid (nE_45.out.over L46.out)
            have xA_46 := Lib.hid (Y45.out.over L46.out)
            refine hK _ _ S46.out ?_
            clear hK K
            refine wpAnyH_frame fun fr47 hfr47 => ?_
            refine wpAnyH_one 13 _ (by kernel_rfl) rfl fun K hK => ?_
            refine step_slice_blk rfl _ _ 4 _ rfl Tryd.underlying96 ([.slice Ab m cb, .slice A45 16 c45, .slice A46 2 c46, .slice (some ⟨wt28.heap.size, 0, none⟩) 2 2] : List Value) (by rw [hfr47]; kernel_rfl) ?_
            intro g48 wt48 qa qb Y048 L48
            have Y48 : Hid (Parts wt48 g48 4 (partA [(Ab, m, cb, pj), (A45, 16, c45, xy), (A46, 2, c46, zz), ((some ⟨wt28.heap.size, 0, none⟩), 2, 2, List.replicate 2 0)]) (partN [(Ab, m, cb, pj), (A45, 16, c45, xy), (A46, 2, c46, zz), ((some ⟨wt28.heap.size, 0, none⟩), 2, 2, List.replicate 2 0)]) (partC [(Ab, m, cb, pj), (A45, 16, c45, xy), (A46, 2, c46, zz), ((some ⟨wt28.heap.size, 0, none⟩), 2, 2, List.replicate 2 0)]) (partX [(Ab, m, cb, pj), (A45, 16, c45, xy), (A46, 2, c46, zz), ((some ⟨wt28.heap.size, 0, none⟩), 2, 2, List.replicate 2 0)])) := Parts.of_blk [(Ab, m, cb, pj), (A45, 16, c45, xy), (A46, 2, c46, zz), ((some ⟨wt28.heap.size, 0, none⟩), 2, 2, List.replicate 2 0)] Y048.out (List.forall_mem_cons.2 ⟨HB_46.out.over L48.out, List.forall_mem_cons.2 ⟨xA_46.out.over L48.out, List.forall_mem_cons.2 ⟨Y46.out.over L48.out, List.forall_mem_cons.2 ⟨nE_46.out.over L48.out, fun _ h => by cases h⟩⟩⟩⟩)
            clear Y048
            have S48 := Lib.hid (S46.out.over L48.out)
            have b48 := Lib.hid (step b46.out L48.out)
            refine hK _ _ S48.out ?_
            clear hK K
            subst hfr47
            refine wpAnyH_one 14 _ (by kernel_rfl) rfl fun K hK => ?_
            go_simp
            refine (CC.out _ g48 4 _ _ _ _ Y48.out (by omega) (by show 0 + m + 16 + 2 + 2 ≤ _; omega)).mono ?_
            rintro e wt49 ⟨v, rfl, hY49, L049⟩
            have OUT := Lib.hid hY49
            have L49 := Lib.hid L049
            clear hY49 L049
            have hsz0 := b48.out.size
            have S49 := Lib.hid (S48.out.over L49.out)
            have b49 := Lib.hid (step b48.out L49.out)
            refine hK _ _ S49.out ?_
            clear hK K
            refine wpAnyH_one 15 _ (by kernel_rfl) rfl fun K hK => ?_
            go_simp
            refine hK _ _ S49.out ?_
            clear hK K
            refine wpAnyH_done (by kernel_rfl) ?_ _
            have HO6 := Lib.hid (OwnZ.mono OUT.out (Nat.le_trans hsz0 (Nat.le_refl _)))
            have HO7 : Hid (OwnZ .u8 5 wt49 w.heap.size v (pre (j + 1))) := by
              show OwnZ _ _ _ _ _ _
              rw [HE2.out]
              have h9 := HO6.out
              simpa [catL, partX, List.append_assoc] using h9
            have HB9 := Lib.hid b49.out
            clear OUT HO6
            go_wp2
            go_roundw
            case rel => exact ⟨j + 1, by simp, by omega, HO7, HB9⟩
            case measure => simp [intOf]; omega
        · skip
          subst hfr3
          refine step_make_bytes rfl _ _ rfl 2 rfl rfl (by omega) ?_
          intro wt51 R51 L51
          have Y51 := Lib.hid (Fresh.holds (base := 0) (.inr ⟨_, rfl, Nat.zero_le _, R51.out⟩) (by rfl : (List.replicate 2 (0 : Int)).length = 2) (Bytes.zeros 2) (by omega))
          clear R51
          have S51 := Lib.hid (S2.out.over L51.out)
          have b51 := Lib.hid (step b2.out L51.out)
          have HB_51 := Lib.hid (HB_2.out.over L51.out)
          have lA_51 := Lib.hid (Y2.out.over L51.out)
          refine hK _ _ S51.out ?_
          clear hK K
          refine wpAnyH_frame fun fr52 hfr52 => ?_
          refine wpAnyH_two 6 10 _ _ (by kernel_rfl) rfl rfl (fun K hK => ?_) (fun K hK => ?_)
          · skip
            subst hfr52
            go_simp
            refine (D8.out _ _ lA_51.out).mono ?_
            rintro e wt53 ⟨A53, c53, rfl, hY53, L053⟩
            have Y53 := Lib.hid hY53
            have L53 := Lib.hid L053
            clear hY53 L053
            have S53 := Lib.hid (S51.out.over L53.out)
            have b53 := Lib.hid (step b51.out L53.out)
            have HB_53 := Lib.hid (HB_51.out.over L53.out)
            have nE_53 := Lib.hid (Y51.out.over L53.out)
            refine hK _ _ S53.out ?_
            clear hK K
            refine wpAnyH_frame fun fr54 hfr54 => ?_
            refine wpAnyH_one 10 _ (by kernel_rfl) rfl fun K hK => ?_
            refine step_slice_blk rfl _ _ 1 _ rfl Tryd.underlying93 ([.int .u64 z] : List Value) (by rw [hfr54]; kernel_rfl) ?_
            intro g55 wt55 qa qb Y55 L55
            have S55 := Lib.hid (S53.out.over L55.out)
            have b55 := Lib.hid (step b53.out L55.out)
            have HB_55 := Lib.hid (HB_53.out.over L55.out)
            have nE_55 := Lib.hid (nE_53.out.over L55.out)
            have xA_55 := Lib.hid (Y53.out.over L55.out)
            refine hK _ _ S55.out ?_
            clear hK K
            subst hfr54
            refine wpAnyH_one 11 _ (by kernel_rfl) rfl fun K hK => ?_
            go_simp
            refine (D2.out _ _ Y55.out).mono ?_
            rintro e wt56 ⟨A56, c56, rfl, hY56, L056⟩
            have Y56 := Lib.hid hY56
            have L56 := Lib.hid L056
            clear hY56 L056
            have S56 := Lib.hid (S55.out.over L56.out)
            have b56 := Lib.hid (step b55.out L56.out)
            have HB_56 := Lib.hid (HB_55.out.over L56.out)
            have nE_56 := Lib.hid (nE_55.out.over L56.out)
            have xA_56 := Lib.hid (xA_55.out.over L56.out)
            refine hK _ _ S56.out ?_
            clear hK K
            refine wpAnyH_frame fun fr57 hfr57 => ?_
            refine wpAnyH_one 13 _ (by kernel_rfl) rfl fun K hK => ?_
            refine step_slice_blk rfl _ _ 4 _ rfl Tryd.underlying96 ([.slice Ab m cb, .slice A53 16 c53, .slice A56 2 c56, .slice (some ⟨wt2.heap.size, 0, none⟩) 2 2] : List Value) (by rw [hfr57]; kernel_rfl) ?_
            intro g58 wt58 qa qb Y058 L58
            have Y58 : Hid (Parts wt58 g58 4 (partA [(Ab, m, cb, pj), (A53, 16, c53, xy), (A56, 2, c56, zz), ((some ⟨wt2.heap.size, 0, none⟩), 2, 2, List.replicate 2 0)]) (partN [(Ab, m, cb, pj), (A53, 16, c53, xy), (A56, 2, c56, zz), ((some ⟨wt2.heap.size, 0, none⟩), 2, 2, List.replicate 2 0)]) (partC [(Ab, m, cb, pj), (A53, 16, c53, xy), (A56, 2, c56, zz), ((some ⟨wt2.heap.size, 0, none⟩), 2, 2, List.replicate 2 0)]) (partX [(Ab, m, cb, pj), (A53, 16, c53, xy), (A56, 2, c56, zz), ((some ⟨wt2.heap.size, 0, none⟩), 2, 2, List.replicate 2 0)])) := Parts.of_blk [(Ab, m, cb, pj), (A53, 16, c53, xy), (A56, 2, c56, zz), ((some ⟨wt2.heap.size, 0, none⟩), 2, 2, List.replicate 2 0)] Y058.out (List.forall_mem_cons.2 ⟨HB_56.out.over L58.out, List.forall_mem_cons.2 ⟨xA_56.out.over L58.out, List.forall_mem_cons.2 ⟨Y56.out.over L58.out, List.forall_mem_cons.2 ⟨nE_56.out.over L58.out, fun _ h => by cases h⟩⟩⟩⟩)
            clear Y058
            have S58 := Lib.hid (S56.out.over L58.out)
            have b58 := Lib.hid (step b56.out L58.out)
            refine hK _ _ S58.out ?_
            clear hK K
            subst hfr57
            refine wpAnyH_one 14 _ (by kernel_rfl) rfl fun K hK => ?_
            go_simp
            refine (CC.out _ g58 4 _ _ _ _ Y58.out (by omega) (by show 0 + m + 16 + 2 + 2 ≤ _; omega)).mono ?_
            rintro e wt59 ⟨v, rfl, hY59, L059⟩
            have OUT := Lib.hid hY59
            have L59 := Lib.hid L059
            clear hY59 L059
            have hsz0 := b58.out.size
            have S59 := Lib.hid (S58.out.over L59.out)
            have b59 := Lib.hid (step b58.out L59.out)
            refine hK _ _ S59.out ?_
            clear hK K
            refine wpAnyH_one 15 _ (by kernel_rfl) rfl fun K hK => ?_
            go_simp
            refine hK _ _ S59.out ?_
            clear hK K
            refine wpAnyH_done (by kernel_rfl) ?_ _
            have HO6 := Lib.hid (OwnZ.mono OUT.out (Nat.le_trans hsz0 (Nat.le_refl _)))
            have HO7 : Hid (OwnZ .u8 5 wt59 w.heap.size v (pre (j + 1))) := by
              show OwnZ _ _ _ _ _ _
              rw [HE2.out]
              have h9 := HO6.out
              simpa [catL, partX, List.append_assoc] using h9
            have HB9 := Lib.hid b59.out
            clear OUT HO6
            go_wp2
            go_roundw
            case rel => exact ⟨j + 1, by simp, by omega, HO7, HB9⟩
            case measure => simp [intOf]; omega
          · skip
            refine step_slice_blk rfl _ _ 1 _ rfl Tryd.underlying93 ([.int .u64 z] : List Value) (by rw [hfr52]; kernel_rfl) ?_
            intro g61 wt61 qa qb Y61 L61
            have S61 := Lib.hid (S51.out.over L61.out)
            have b61 := Lib.hid (step b51.out L61.out)
            have HB_61 := Lib.hid (HB_51.out.over L61.out)
            have lA_61 := Lib.hid (lA_51.out.over L61.out)
            have nE_61 := Lib.hid (Y51.out.over L61.out)
            refine hK _ _ S61.out ?_
            clear hK K
            subst hfr52
            refine wpAnyH_one 6 _ (by kernel_rfl) rfl fun K hK => ?_
            go_simp
            refine (D8.out _ _ lA_61.out).mono ?_
            rintro e wt62 ⟨A62, c62, rfl, hY62, L062⟩
            have Y62 := Lib.hid hY62
            have L62 := Lib.hid L062
            clear hY62 L062
            have S62 := Lib.hid (S61.out.over L62.out)
            have b62 := Lib.hid (step b61.out L62.out)
            have HB_62 := Lib.hid (HB_61.out.over L62.out)
            have nE_62 := Lib.hid (nE_61.out.over L62.out)
            have lC_62 := Lib.hid (Y61.out.over L62.out)
            refine hK _ _ S62.out ?_
            clear hK K
            refine wpAnyH_one 11 _ (by kernel_rfl) rfl fun K hK => ?_
            go_simp
            refine (D2.out _ _ lC_62.out).mono ?_
            rintro e wt63 ⟨A63, c63, rfl, hY63, L063⟩
            have Y63 := Lib.hid hY63
            have L63 := Lib.hid L063
            clear hY63 L063
            have S63 := Lib.hid (S62.out.over L63.out)
            have b63 := Lib.hid (step b62.out L63.out)
            have HB_63 := Lib.hid (HB_62.out.over L63.out)
            have nE_63 := Lib.hid (nE_62.out.over L63.out)
            have xA_63 := Lib.hid (Y62.out.over L63.out)
            refine hK _ _ S63.out ?_
            clear hK K
            refine wpAnyH_frame fun fr64 hfr64 => ?_
            refine wpAnyH_one 13 _ (by kernel_rfl) rfl fun K hK => ?_
            refine step_slice_blk rfl _ _ 4 _ rfl Tryd.underlying96 ([.slice Ab m cb, .slice A62 16 c62, .slice A63 2 c63, .slice (some ⟨wt2.heap.size, 0, none⟩) 2 2] : List Value) (by rw [hfr64]; kernel_rfl) ?_
            intro g65 wt65 qa qb Y065 L65
            have Y65 : Hid (Parts wt65 g65 4 (partA [(Ab, m, cb, pj), (A62, 16, c62, xy), (A63, 2, c63, zz), ((some ⟨wt2.heap.size, 0, none⟩), 2, 2, List.replicate 2 0)]) (partN [(Ab, m, cb, pj), (A62, 16, c62, xy), (A63, 2, c63, zz), ((some ⟨wt2.heap.size, 0, none⟩), 2, 2, List.replicate 2 0)]) (partC [(Ab, m, cb, pj), (A62, 16, c62, xy), (A63, 2, c63, zz), ((some ⟨wt2.heap.size, 0, none⟩), 2, 2, List.replicate 2 0)]) (partX [(Ab, m, cb, pj), (A62, 16, c62, xy), (A63, 2, c63, zz), ((some ⟨wt2.heap.size, 0, none⟩), 2, 2, List.replicate 2 0)])) := Parts.of_blk [(Ab, m, cb, pj), (A62, 16, c62, xy), (A63, 2, c63, zz), ((some ⟨wt2.heap.size, 0, none⟩), 2, 2, List.replicate 2 0)] Y065.out (List.forall_mem_cons.2 ⟨HB_63.out.over L65.out, List.forall_mem_cons.2 ⟨xA_63.out.over L65.out, List.forall_mem_cons.2 ⟨Y63.out.over L65.out, List.forall_mem_cons.2 ⟨nE_63.out.over L65.out, fun _ h => by cases h⟩⟩⟩⟩)
            clear Y065
            have S65 := Lib.hid (S63.out.over L65.out)
            have b65 := Lib.hid (step b63.out L65.out)
            refine hK _ _ S65.out ?_
            clear hK K
            subst hfr64
            refine wpAnyH_one 14 _ (by kernel_rfl) rfl fun K hK => ?_
            go_simp
            refine (CC.out _ g65 4 _ _ _ _ Y65.out (by omega) (by show 0 + m + 16 + 2 + 2 ≤ _; omega)).mono ?_
            rintro e wt66 ⟨v, rfl, hY66, L066⟩
            have OUT := Lib.hid hY66
            have L66 := Lib.hid L066
            clear hY66 L066
            have hsz0 := b65.out.size
            have S66 := Lib.hid (S65.out.over L66.out)
            have b66 := Lib.hid (step b65.out L66.out)
            refine hK _ _ S66.out ?_
            clear hK K
            refine wpAnyH_one 15 _ (by kernel_rfl) rfl fun K hK => ?_
            go_simp
            refine hK _ _ S66.out ?_
            clear hK K
            refine wpAnyH_done (by kernel_rfl) ?_ _
            have HO6 := Lib.hid (OwnZ.mono OUT.out (Nat.le_trans hsz0 (Nat.le_refl _)))
            have HO7 : Hid (OwnZ .u8 5 wt66 w.heap.size v (pre (j + 1))) := by
              show OwnZ _ _ _ _ _ _
              rw [HE2.out]
              have h9 := HO6.out
              simpa [catL, partX, List.append_assoc] using h9
            have HB9 := Lib.hid b66.out
            clear OUT HO6
            go_wp2
            go_roundw
            case rel => exact ⟨j + 1, by simp, by omega, HO7, HB9⟩
            case measure => simp [intOf]; omega
      · skip
        refine step_slice_blk rfl _ _ 1 _ rfl Tryd.underlying93 ([.int .u64 z] : List Value) (by rw [hfr1]; kernel_rfl) ?_
        intro g68 wt68 qa qb Y68 L68
        have S68 := Lib.hid (S0.out.over L68.out)
        have b68 := Lib.hid (step b0.out L68.out)
        have HB_68 := Lib.hid (HB_0.out.over L68.out)
        refine hK _ _ S68.out ?_
        clear hK K
        subst hfr1
        refine wpAnyH_frame fun fr69 hfr69 => ?_
        refine wpAnyH_two 5 12 _ _ (by kernel_rfl) rfl rfl (fun K hK => ?_) (fun K hK => ?_)
        · skip
          refine step_slice_blk rfl _ _ 2 _ rfl Tryd.underlying93 ([.int .u64 x, .int .u64 y] : List Value) (by rw [hfr69]; kernel_rfl) ?_
          intro g70 wt70 qa qb Y70 L70
          have S70 := Lib.hid (S68.out.over L70.out)
          have b70 := Lib.hid (step b68.out L70.out)
          have HB_70 := Lib.hid (HB_68.out.over L70.out)
          have lC_70 := Lib.hid (Y68.out.over L70.out)
          refine hK _ _ S70.out ?_
          clear hK K
          subst hfr69
          refine wpAnyH_frame fun fr71 hfr71 => ?_
          refine wpAnyH_two 6 12 _ _ (by kernel_rfl) rfl rfl (fun K hK => ?_) (fun K hK => ?_)
          · skip
            subst hfr71
            go_simp
            refine (D8.out _ _ Y70.out).mono ?_
            rintro e wt72 ⟨A72, c72, rfl, hY72, L072⟩
            have Y72 := Lib.hid hY72
            have L72 := Lib.hid L072
            clear hY72 L072
            have S72 := Lib.hid (S70.out.over L72.out)
            have b72 := Lib.hid (step b70.out L72.out)
            have HB_72 := Lib.hid (HB_70.out.over L72.out)
            have lC_72 := Lib.hid (lC_70.out.over L72.out)
            refine hK _ _ S72.out ?_
            clear hK K
            refine wpAnyH_frame fun fr73 hfr73 => ?_
            refine wpAnyH_two 11 12 _ _ (by kernel_rfl) rfl rfl (fun K hK => ?_) (fun K hK => ?_)
            · skip
              subst hfr73
              go_simp
              refine (D2.out _ _ lC_72.out).mono ?_
              rintro e wt74 ⟨A74, c74, rfl, hY74, L074⟩
              have Y74 := Lib.hid hY74
              have L74 := Lib.hid L074
              clear hY74 L074
              have S74 := Lib.hid (S72.out.over L74.out)
              have b74 := Lib.hid (step b72.out L74.out)
              have HB_74 := Lib.hid (HB_72.out.over L74.out)
              have xA_74 := Lib.hid (Y72.out.over L74.out)
              refine hK _ _ S74.out ?_
              clear hK K
              refine wpAnyH_one 12 _ (by kernel_rfl) rfl fun K hK => ?_
              refine step_make_bytes rfl _ _ rfl 2 rfl rfl (by omega) ?_
              intro wt75 R75 L75
              have Y75 := Lib.hid (Fresh.holds (base := 0) (.inr ⟨_, rfl, Nat.zero_le _, R75.out⟩) (by rfl : (List.replicate 2 (0 : Int)).length = 2) (Bytes.zeros 2) (by omega))
              clear R75
              have S75 := Lib.hid (S74.out.over L75.out)
              have b75 := Lib.hid (step b74.out L75.out)
              have HB_75 := Lib.hid (HB_74.out.over L75.out)
              have xA_75 := Lib.hid (xA_74.out.over L75.out)
              have zC_75 := Lib.hid (Y74.out.over L75.out)
              refine hK _ _ S75.out ?_
              clear hK K
              refine wpAnyH_frame fun fr76 hfr76 => ?_
              refine wpAnyH_one 13 _ (by kernel_rfl) rfl fun K hK => ?_
              refine step_slice_blk rfl _ _ 4 _ rfl Tryd.underlying96 ([.slice Ab m cb, .slice A72 16 c72, .slice A74 2 c74, .slice (some ⟨wt74.heap.size, 0, none⟩) 2 2] : List Value) (by rw [hfr76]; kernel_rfl) ?_
              intro g77 wt77 qa qb Y077 L77
              have Y77 : Hid (Parts wt77 g77 4 (partA [(Ab, m, cb, pj), (A72, 16, c72, xy), (A74, 2, c74, zz), ((some ⟨wt74.heap.size, 0, none⟩), 2, 2, List.replicate 2 0)]) (partN [(Ab, m, cb, pj), (A72, 16, c72, xy), (A74, 2, c74, zz), ((some ⟨wt74.heap.size, 0, none⟩), 2, 2, List.replicate 2 0)]) (partC [(Ab, m, cb, pj), (A72, 16, c72, xy), (A74, 2, c74, zz), ((some ⟨wt74.heap.size, 0, none⟩), 2, 2, List.replicate 2 0)]) (partX [(Ab, m, cb, pj), (A72, 16, c72, xy), (A74, 2, c74, zz), ((some ⟨wt74.heap.size, 0, none⟩), 2, 2, List.replicate 2 0)])) := Parts.of_blk [(Ab, m, cb, pj), (A72, 16, c72, xy), (A74, 2, c74, zz), ((some ⟨wt74.heap.size, 0, none⟩), 2, 2, List.replicate 2 0)] Y077.out (List.forall_mem_cons.2 ⟨HB_75.out.over L77.out, List.forall_mem_cons.2 ⟨xA_75.out.over L77.out, List.forall_mem_cons.2 ⟨zC_75.out.over L77.out, List.forall_mem_cons.2 ⟨Y75.out.over L77.out, fun _ h => by cases h⟩⟩⟩⟩)
              clear Y077
              have S77 := Lib.hid (S75.out.over L77.out)
              have b77 := Lib.hid (step b75.out L77.out)
              refine hK _ _ S77.out ?_
              clear hK K
              subst hfr76
              refine wpAnyH_one 14 _ (by kernel_rfl) rfl fun K hK => ?_
              go_simp
              refine (CC.out _ g77 4 _ _ _ _ Y77.out (by omega) (by show 0 + m + 16 + 2 + 2 ≤ _; omega)).mono ?_
              rintro e wt78 ⟨v, rfl, hY78, L078⟩
              have OUT := Lib.hid hY78
              have L78 := Lib.hid L078
              clear hY78 L078
              have hsz0 := b77.out.size
              have S78 := Lib.hid (S77.out.over L78.out)
              have b78 := Lib.hid (step b77.out L78.out)
              refine hK _ _ S78.out ?_
              clear hK K
              refine wpAnyH_one 15 _ (by kernel_rfl) rfl fun K hK => ?_
              go_simp
              refine hK _ _ S78.out ?_
              clear hK K
              refine wpAnyH_done (by kernel_rfl) ?_ _
              have HO6 := Lib.hid (OwnZ.mono OUT.out (Nat.le_trans hsz0 (Nat.le_refl _)))
              have HO7 : Hid (OwnZ .u8 5 wt78 w.heap.size v (pre (j + 1))) := by
                show OwnZ _ _ _ _ _ _
                rw [HE2.out]
                have h9 := HO6.out
                simpa [catL, partX, List.append_assoc] using h9
              have HB9 := Lib.hid b78.out
              clear OUT HO6
              go_wp2
              go_roundw
              case rel => exact ⟨j + 1, by simp, by omega, HO7, HB9⟩
              case measure => simp [intOf]; omega
            · skip
              subst hfr73
              refine step_make_bytes rfl _ _ rfl 2 rfl rfl (by omega) ?_
              intro wt80 R80 L80
              have Y80 := Lib.hid (Fresh.holds (base := 0) (.inr ⟨_, rfl, Nat.zero_le _, R80.out⟩) (by rfl : (List.replicate 2 (0 : Int)).length = 2) (Bytes.zeros 2) (by omega))
              clear R80
              have S80 := Lib.hid (S72.out.over L80.out)
              have b80 := Lib.hid (step b72.out L80.out)
              have HB_80 := Lib.hid (HB_72.out.over L80.out)
              have lC_80 := Lib.hid (lC_72.out.over L80.out)
              have xA_80 := Lib.hid (Y72.out.over L80.out)
              refine hK _ _ S80.out ?_
              clear hK K
              refine wpAnyH_one 11 _ (by kernel_rfl) rfl fun K hK => ?_
              go_simp
              refine (D2.out _ _ lC_80.out).mono ?_
              rintro e wt81 ⟨A81, c81, rfl, hY81, L081⟩
              have Y81 := Lib.hid hY81
              have L81 := Lib.hid L081
              clear hY81 L081
              have S81 := Lib.hid (S80.out.over L81.out)
              have b81 := Lib.hid (step b80.out L81.out)
              have HB_81 := Lib.hid (HB_80.out.over L81.out)
              have xA_81 := Lib.hid (xA_80.out.over L81.out)
              have nE_81 := Lib.hid (Y80.out.over L81.out)
              refine hK _ _ S81.out ?_
              clear hK K
              refine wpAnyH_frame fun fr82 hfr82 => ?_
              refine wpAnyH_one 13 _ (by kernel_rfl) rfl fun K hK => ?_
              refine step_slice_blk rfl _ _ 4 _ rfl Tryd.underlying96 ([.slice Ab m cb, .slice A72 16 c72, .slice A81 2 c81, .slice (some ⟨wt72.heap.size, 0, none⟩) 2 2] : List Value) (by rw [hfr82]; kernel_rfl) ?_
              intro g83 wt83 qa qb Y083 L83
              have Y83 : Hid (Parts wt83 g83 4 (partA [(Ab, m, cb, pj), (A72, 16, c72, xy), (A81, 2, c81, zz), ((some ⟨wt72.heap.size, 0, none⟩), 2, 2, List.replicate 2 0)]) (partN [(Ab, m, cb, pj), (A72, 16, c72, xy), (A81, 2, c81, zz), ((some ⟨wt72.heap.size, 0, none⟩), 2, 2, List.replicate 2 0)]) (partC [(Ab, m, cb, pj), (A72, 16, c72, xy), (A81, 2, c81, zz), ((some ⟨wt72.heap.size, 0, none⟩), 2, 2, List.replicate 2 0)]) (partX [(Ab, m, cb, pj), (A72, 16, c72, xy), (A81, 2, c81, zz), ((some ⟨wt72.heap.size, 0, none⟩), 2, 2, List.replicate 2 0)])) := Parts.of_blk [(Ab, m, cb, pj), (A72, 16, c72, xy), (A81, 2, c81, zz), ((some ⟨wt72.heap.size, 0, none⟩), 2, 2, List.replicate 2 0)] Y083.out (List.forall_mem_cons.2 ⟨HB_81.out.over L83.out, List.forall_mem_cons.2 ⟨xA_81.out.over L83.out, List.forall_mem_cons.2 ⟨Y81.out.over L83.out, List.forall_mem_cons.2 ⟨nE_81.out.over L83.out, fun _ h => by cases h⟩⟩⟩⟩)
              clear Y083
              have S83 := Lib.hid (S81.out.over L83.out)
              have b83 := Lib.hid (step b81.out L83.out)
              refine hK _ _ S83.out ?_
              clear hK K
              subst hfr82
              refine wpAnyH_one 14 _ (by kernel_rfl) rfl fun K hK => ?_
              go_simp
              refine (CC.out _ g83 4 _ _ _ _ Y83.out (by omega) (by show 0 + m + 16 + 2 + 2 ≤ _; omega)).mono ?_
              rintro e wt84 ⟨v, rfl, hY84, L084⟩
              have OUT := Lib.hid hY84
              have L84 := Lib.hid L084
              clear hY84 L084
              have hsz0 := b83.out.size
              have S84 := Lib.hid (S83.out.over L84.out)
              have b84 := Lib.hid (step b83.out L84.out)
              refine hK _ _ S84.out ?_
              clear hK K
              refine wpAnyH_one 15 _ (by kernel_rfl) rfl fun K hK => ?_
              go_simp
              refine hK _ _ S84.out ?_
              clear hK K
              refine wpAnyH_done (by kernel_rfl) ?_ _
              have HO6 := Lib.hid (OwnZ.mono OUT.out (Nat.le_trans hsz0 (Nat.le_refl _)))
              have HO7 : Hid (OwnZ .u8 5 wt84 w.heap.size v (pre (j + 1))) := by
                show OwnZ _ _ _ _ _ _
                rw [HE2.out]
                have h9 := HO6.out
                simpa [catL, partX, List.append_assoc] using h9
              have HB9 := Lib.hid b84.out
              clear OUT HO6
              go_wp2
              go_roundw
              case rel => exact ⟨j + 1, by simp, by omega, HO7, HB9⟩
              case measure => simp [intOf]; omega
          · skip
            subst hfr71
            refine step_make_bytes rfl _ _ rfl 2 rfl rfl (by omega) ?_
            intro wt86 R86 L86
            have Y86 := Lib.hid (Fresh.holds (base := 0) (.inr ⟨_, rfl, Nat.zero_le _, R86.out⟩) (by rfl : (List.replicate 2 (0 : Int)).length = 2) (Bytes.zeros 2) (by omega))
            clear R86
            have S86 := Lib.hid (S70.out.over L86.out)
            have b86 := Lib.hid (step b70.out L86.out)
            have HB_86 := Lib.hid (HB_70.out.over L86.out)
            have lC_86 := Lib.hid (lC_70.out.over L86.out)
            have lA_86 := Lib.hid (Y70.out.over L86.out)
            refine hK _ _ S86.out ?_
            clear hK K
            refine wpAnyH_one 6 _ (by kernel_rfl) rfl fun K hK => ?_
            go_simp
            refine (D8.out _ _ lA_86.out).mono ?_
            rintro e wt87 ⟨A87, c87, rfl, hY87, L087⟩
            have Y87 := Lib.hid hY87
            have L87 := Lib.hid L087
            clear hY87 L087
            have S87 := Lib.hid (S86.out.over L87.out)
            have b87 := Lib.hid (step b86.out L87.out)
            have HB_87 := Lib.hid (HB_86.out.over L87.out)
            have lC_87 := Lib.hid (lC_86.out.over L87.out)
            have nE_87 := Lib.hid (Y86.out.over L87.out)
            refine hK _ _ S87.out ?_
            clear hK K
            refine wpAnyH_one 11 _ (by kernel_rfl) rfl fun K hK => ?_
            go_simp
            refine (D2.out _ _ lC_87.out).mono ?_
            rintro e wt88 ⟨A88, c88, rfl, hY88, L088⟩
            have Y88 := Lib.hid hY88
            have L88 := Lib.hid L088
            clear hY88 L088
            have S88 := Lib.hid (S87.out.over L88.out)
            have b88 := Lib.hid (step b87.out L88.out)
            have HB_88 := Lib.hid (HB_87.out.over L88.out)
            have nE_88 := Lib.hid (nE_87.out.over L88.out)
            have xA_88 := Lib.hid (Y87.out.over L88.out)
            refine hK _ _ S88.out ?_
            clear hK K
            refine wpAnyH_frame fun fr89 hfr89 => ?_
            refine wpAnyH_one 13 _ (by kernel_rfl) rfl fun K hK => ?_
            refine step_slice_blk rfl _ _ 4 _ rfl Tryd.underlying96 ([.slice Ab m cb, .slice A87 16 c87, .slice A88 2 c88, .slice (some ⟨wt70.heap.size, 0, none⟩) 2 2] : List Value) (by rw [hfr89]; kernel_rfl) ?_
            intro g90 wt90 qa qb Y090 L90
            have Y90 : Hid (Parts wt90 g90 4 (partA [(Ab, m, cb, pj), (A87, 16, c87, xy), (A88, 2, c88, zz), ((some ⟨wt70.heap.size, 0, none⟩), 2, 2, List.replicate 2 0)]) (partN [(Ab, m, cb, pj), (A87, 16, c87, xy), (A88, 2, c88, zz), ((some ⟨wt70.heap.size, 0, none⟩), 2, 2, List.replicate 2 0)]) (partC [(Ab, m, cb, pj), (A87, 16, c87, xy), (A88, 2, c88, zz), ((some ⟨wt70.heap.size, 0, none⟩), 2, 2, List.replicate 2 0)]) (partX [(Ab, m, cb, pj), (A87, 16, c87, xy), (A88, 2, c88, zz), ((some ⟨wt70.heap.size, 0, none⟩), 2, 2, List.replicate 2 0)])) := Parts.of_blk [(Ab, m, cb, pj), (A87, 16, c87, xy), (A88, 2, c88, zz), ((some ⟨wt70.heap.size, 0, none⟩), 2, 2, List.replicate 2 0)] Y090.out (List.forall_mem_cons.2 ⟨HB_88.out.over L90.out, List.forall_mem_cons.2 ⟨xA_88.out.over L90.out, List.forall_mem_cons.2 ⟨Y88.out.over L90.out, List.forall_mem_cons.2 ⟨nE_88.out.over L90.out, fun _ h => by cases h⟩⟩⟩⟩)
            clear Y090
            have S90 := Lib.hid (S88.out.over L90.out)
            have b90 := Lib.hid (step b88.out L90.out)
            refine hK _ _ S90.out ?_
            clear hK K
            subst hfr89
            refine wpAnyH_one 14 _ (by kernel_rfl) rfl fun K hK => ?_
            go_simp
            refine (CC.out _ g90 4 _ _ _ _ Y90.out (by omega) (by show 0 + m + 16 + 2 + 2 ≤ _; omega)).mono ?_
            rintro e wt91 ⟨v, rfl, hY91, L091⟩
            have OUT := Lib.hid hY91
            have L91 := Lib.hid L091
            clear hY91 L091
            have hsz0 := b90.out.size
            have S91 := Lib.hid (S90.out.over L91.out)
            have b91 := Lib.hid (step b90.out L91.out)
            refine hK _ _ S91.out ?_
            clear hK K
            refine wpAnyH_one 15 _ (by kernel_rfl) rfl fun K hK => ?_
            go_simp
            refine hK _ _ S91.out ?_
            clear hK K
            refine wpAnyH_done (by kernel_rfl) ?_ _
            have HO6 := Lib.hid (OwnZ.mono OUT.out (Nat.le_trans hsz0 (Nat.le_refl _)))
            have HO7 : Hid (OwnZ .u8 5 wt91 w.heap.size v (pre (j + 1))) := by
              show OwnZ _ _ _ _ _ _
              rw [HE2.out]
              have h9 := HO6.out
              simpa [catL, partX, List.append_assoc] using h9
            have HB9 := Lib.hid b91.out
            clear OUT HO6
            go_wp2
            go_roundw
            case rel => exact ⟨j + 1, by simp, by omega, HO7, HB9⟩
            case measure => simp [intOf]; omega
        · skip
          subst hfr69
          refine step_make_bytes rfl _ _ rfl 2 rfl rfl (by omega) ?_
          intro wt93 R93 L93
          have Y93 := Lib.hid (Fresh.holds (base := 0) (.inr ⟨_, rfl, Nat.zero_le _, R93.out⟩) (by rfl : (List.replicate 2 (0 : Int)).length = 2) (Bytes.zeros 2) (by omega))
          clear R93
          have S93 := Lib.hid (S68.out.over L93.out)
          have b93 := Lib.hid (step b68.out L93.out)
          have HB_93 := Lib.hid (HB_68.out.over L93.out)
          have lC_93 := Lib.hid (Y68.out.over L93.out)
          refine hK _ _ S93.out ?_
          clear hK K
          refine wpAnyH_frame fun fr94 hfr94 => ?_
          refine wpAnyH_one 5 _ (by kernel_rfl) rfl fun K hK => ?_
          refine step_slice_blk rfl _ _ 2 _ rfl Tryd.underlying93 ([.int .u64 x, .int .u64 y] : List Value) (by rw [hfr94]; kernel_rfl) ?_
          intro g95 wt95 qa qb Y95 L95
          have S95 := Lib.hid (S93.out.over L95.out)
          have b95 := Lib.hid (step b93.out L95.out)
          have HB_95 := Lib.hid (HB_93.out.over L95.out)
          have lC_95 := Lib.hid (lC_93.out.over L95.out)
          have nE_95 := Lib.hid (Y93.out.over L95.out)
          refine hK _ _ S95.out ?_
          clear hK K
          subst hfr94
          refine wpAnyH_one 6 _ (by kernel_rfl) rfl fun K hK => ?_
          go_simp
          refine (D8.out _ _ Y95.out).mono ?_
          rintro e wt96 ⟨A96, c96, rfl, hY96, L096⟩
          have Y96 := Lib.hid hY96
          have L96 := Lib.hid L096
          clear hY96 L096
          have S96 := Lib.hid (S95.out.over L96.out)
          have b96 := Lib.hid (step b95.out L96.out)
          have HB_96 := Lib.hid (HB_95.out.over L96.out)
          have lC_96 := Lib.hid (lC_95.out.over L96.out)
          have nE_96 := Lib.hid (nE_95.out.over L96.out)
          refine hK _ _ S96.out ?_
          clear hK K
          refine wpAnyH_one 11 _ (by kernel_rfl) rfl fun K hK => ?_
          go_simp
          refine (D2.out _ _ lC_96.out).mono ?_
          rintro e wt97 ⟨A97, c97, rfl, hY97, L097⟩
          have Y97 := Lib.hid hY97
          have L97 := Lib.hid L097
          clear hY97 L097
          have S97 := Lib.hid (S96.out.over L97.out)
          have b97 := Lib.hid (step b96.out L97.out)
          have HB_97 := Lib.hid (HB_96.out.over L97.out)
          have nE_97 := Lib.hid (nE_96.out.over L97.out)
          have xA_97 := Lib.hid (Y96.out.over L97.out)
          refine hK _ _ S97.out ?_
          clear hK K
          refine wpAnyH_frame fun fr98 hfr98 => ?_
          refine wpAnyH_one 13 _ (by kernel_rfl) rfl fun K hK => ?_
          refine step_slice_blk rfl _ _ 4 _ rfl Tryd.underlying96 ([.slice Ab m cb, .slice A96 16 c96, .slice A97 2 c97, .slice (some ⟨wt68.heap.size, 0, none⟩) 2 2] : List Value) (by rw [hfr98]; kernel_rfl) ?_
          intro g99 wt99 qa qb Y099 L99
          have Y99 : Hid (Parts wt99 g99 4 (partA [(Ab, m, cb, pj), (A96, 16, c96, xy), (A97, 2, c97, zz), ((some ⟨wt68.heap.size, 0, none⟩), 2, 2, List.replicate 2 0)]) (partN [(Ab, m, cb, pj), (A96, 16, c96, xy), (A97, 2, c97, zz), ((some ⟨wt68.heap.size, 0, none⟩), 2, 2, List.replicate 2 0)]) (partC [(Ab, m, cb, pj), (A96, 16, c96, xy), (A97, 2, c97, zz), ((some ⟨wt68.heap.size, 0, none⟩), 2, 2, List.replicate 2 0)]) (partX [(Ab, m, cb, pj), (A96, 16, c96, xy), (A97, 2, c97, zz), ((some ⟨wt68.heap.size, 0, none⟩), 2, 2, List.replicate 2 0)])) := Parts.of_blk [(Ab, m, cb, pj), (A96, 16, c96, xy), (A97, 2, c97, zz), ((some ⟨wt68.heap.size, 0, none⟩), 2, 2, List.replicate 2 0)] Y099.out (List.forall_mem_cons.2 ⟨HB_97.out.over L99.out, List.forall_mem_cons.2 ⟨xA_97.out.over L99.out, List.forall_mem_cons.2 ⟨Y97.out.over L99.out, List.forall_mem_cons.2 ⟨nE_97.out.over L99.out, fun _ h => by cases h⟩⟩⟩⟩)
          clear Y099
          have S99 := Lib.hid (S97.out.over L99.out)
          have b99 := Lib.hid (step b97.out L99.out)
          refine hK _ _ S99.out ?_
          clear hK K
          subst hfr98
          refine wpAnyH_one 14 _ (by kernel_rfl) rfl fun K hK => ?_
          go_simp
          refine (CC.out _ g99 4 _ _ _ _ Y99.out (by omega) (by show 0 + m + 16 + 2 + 2 ≤ _; omega)).mono ?_
          rintro e wt100 ⟨v, rfl, hY100, L0100⟩
          have OUT := Lib.hid hY100
          have L100 := Lib.hid L0100
          clear hY100 L0100
          have hsz0 := b99.out.size
          have S100 := Lib.hid (S99.out.over L100.out)
          have b100 := Lib.hid (step b99.out L100.out)
          refine hK _ _ S100.out ?_
          clear hK K
          refine wpAnyH_one 15 _ (by kernel_rfl) rfl fun K hK => ?_
          go_simp
          refine hK _ _ S100.out ?_
          clear hK K
          refine wpAnyH_done (by kernel_rfl) ?_ _
          have HO6 := Lib.hid (OwnZ.mono OUT.out (Nat.le_trans hsz0 (Nat.le_refl _)))
          have HO7 : Hid (OwnZ .u8 5 wt100 w.heap.size v (pre (j + 1))) := by
            show OwnZ _ _ _ _ _ _
            rw [HE2.out]
            have h9 := HO6.out
            simpa [catL, partX, List.append_assoc] using h9
          have HB9 := Lib.hid b100.out
          clear OUT HO6
          go_wp2
          go_roundw
          case rel => exact ⟨j + 1, by simp, by omega, HO7, HB9⟩
          case measure => simp [intOf]; omega
      · skip
        subst hfr1
        refine step_make_bytes rfl _ _ rfl 2 rfl rfl (by omega) ?_
        intro wt102 R102 L102
        have Y102 := Lib.hid (Fresh.holds (base := 0) (.inr ⟨_, rfl, Nat.zero_le _, R102.out⟩) (by rfl : (List.replicate 2 (0 : Int)).length = 2) (Bytes.zeros 2) (by omega))
        clear R102
        have S102 := Lib.hid (S0.out.over L102.out)
        have b102 := Lib.hid (step b0.out L102.out)
        have HB_102 := Lib.hid (HB_0.out.over L102.out)
        refine hK _ _ S102.out ?_
        clear hK K
        refine wpAnyH_frame fun fr103 hfr103 => ?_
        refine wpAnyH_two 5 10 _ _ (by kernel_rfl) rfl rfl (fun K hK => ?_) (fun K hK => ?_)
        · skip
          refine step_slice_blk rfl _ _ 2 _ rfl Tryd.underlying93 ([.int .u64 x, .int .u64 y] : List Value) (by rw [hfr103]; kernel_rfl) ?_
          intro g104 wt104 qa qb Y104 L104
          have S104 := Lib.hid (S102.out.over L104.out)
          have b104 := Lib.hid (step b102.out L104.out)
          have HB_104 := Lib.hid (HB_102.out.over L104.out)
          have nE_104 := Lib.hid (Y102.out.over L104.out)
          refine hK _ _ S104.out ?_
          clear hK K
          subst hfr103
          refine wpAnyH_frame fun fr105 hfr105 => ?_
          refine wpAnyH_two 6 10 _ _ (by kernel_rfl) rfl rfl (fun K hK => ?_) (fun K hK => ?_)
          · skip
            subst hfr105
            go_simp
            refine (D8.out _ _ Y104.out).mono ?_
            rintro e wt106 ⟨A106, c106, rfl, hY106, L0106⟩
            have Y106 := Lib.hid hY106
            have L106 := Lib.hid L0106
            clear hY106 L0106
            have S106 := Lib.hid (S104.out.over L106.out)
            have b106 := Lib.hid (step b104.out L106.out)
            have HB_106 := Lib.hid (HB_104.out.over L106.out)
            have nE_106 := Lib.hid (nE_104.out.over L106.out)
            refine hK _ _ S106.out ?_
            clear hK K
            refine wpAnyH_frame fun fr107 hfr107 => ?_
            refine wpAnyH_one 10 _ (by kernel_rfl) rfl fun K hK => ?_
            refine step_slice_blk rfl _ _ 1 _ rfl Tryd.underlying93 ([.int .u64 z] : List Value) (by rw [hfr107]; kernel_rfl) ?_
            intro g108 wt108 qa qb Y108 L108
            have S108 := Lib.hid (S106.out.over L108.out)
            have b108 := Lib.hid (step b106.out L108.out)
            have HB_108 := Lib.hid (HB_106.out.over L108.out)
            have nE_108 := Lib.hid (nE_106.out.over L108.out)
            have xA_108 := Lib.hid (Y106.out.over L108.out)
            refine hK _ _ S108.out ?_
            clear hK K
            subst hfr107
            refine wpAnyH_one 11 _ (by kernel_rfl) rfl fun K hK => ?_
            go_simp
            refine (D2.out _ _ Y108.out).mono ?_
            rintro e wt109 ⟨A109, c109, rfl, hY109, L0109⟩
            have Y109 := Lib.hid hY109
            have L109 := Lib.hid L0109
            clear hY109 L0109
            have S109 := Lib.hid (S108.out.over L109.out)
            have b109 := Lib.hid (step b108.out L109.out)
            have HB_109 := Lib.hid (HB_108.out.over L109.out)
            have nE_109 := Lib.hid (nE_108.out.over L109.out)
            have xA_109 := Lib.hid (xA_108.out.over L109.out)
            refine hK _ _ S109.out ?_
            clear hK K
            refine wpAnyH_frame fun fr110 hfr110 => ?_
            refine wpAnyH_one 13 _ (by kernel_rfl) rfl fun K hK => ?_
            refine step_slice_blk rfl _ _ 4 _ rfl Tryd.underlying96 ([.slice Ab m cb, .slice A106 16 c106, .slice A109 2 c109, .slice (some ⟨u2.drew.heap.size, 0, none⟩) 2 2] : List Value) (by rw [hfr110]; kernel_rfl) ?_
            intro g111 wt111 qa qb Y0111 L111
            have Y111 : Hid (Parts wt111 g111 4 (partA [(Ab, m, cb, pj), (A106, 16, c106, xy), (A109, 2, c109, zz), ((some ⟨u2.drew.heap.size, 0, none⟩), 2, 2, List.replicate 2 0)]) (partN [(Ab, m, cb, pj), (A106, 16, c106, xy), (A109, 2, c109, zz), ((some ⟨u2.drew.heap.size, 0, none⟩), 2, 2, List.replicate 2 0)]) (partC [(Ab, m, cb, pj), (A106, 16, c106, xy), (A109, 2, c109, zz), ((some ⟨u2.drew.heap.size, 0, none⟩), 2, 2, List.replicate 2 0)]) (partX [(Ab, m, cb, pj), (A106, 16, c106, xy), (A109, 2, c109, zz), ((some ⟨u2.drew.heap.size, 0, none⟩), 2, 2, List.replicate 2 0)])) := Parts.of_blk [(Ab, m, cb, pj), (A106, 16, c106, xy), (A109, 2, c109, zz), ((some ⟨u2.drew.heap.size, 0, none⟩), 2, 2, List.replicate 2 0)] Y0111.out (List.forall_mem_cons.2 ⟨HB_109.out.over L111.out, List.forall_mem_cons.2 ⟨xA_109.out.over L111.out, List.forall_mem_cons.2 ⟨Y109.out.over L111.out, List.forall_mem_cons.2 ⟨nE_109.out.over L111.out, fun _ h => by cases h⟩⟩⟩⟩)
            clear Y0111
            have S111 := Lib.hid (S109.out.over L111.out)
            have b111 := Lib.hid (step b109.out L111.out)
            refine hK _ _ S111.out ?_
            clear hK K
            subst hfr110
            refine wpAnyH_one 14 _ (by kernel_rfl) rfl fun K hK => ?_
            go_simp
            refine (CC.out _ g111 4 _ _ _ _ Y111.out (by omega) (by show 0 + m + 16 + 2 + 2 ≤ _; omega)).mono ?_
            rintro e wt112 ⟨v, rfl, hY112, L0112⟩
            have OUT := Lib.hid hY112
            have L112 := Lib.hid L0112
            clear hY112 L0112
            have hsz0 := b111.out.size
            have S112 := Lib.hid (S111.out.over L112.out)
            have b112 := Lib.hid (step b111.out L112.out)
            refine hK _ _ S112.out ?_
            clear hK K
            refine wpAnyH_one 15 _ (by kernel_rfl) rfl fun K hK => ?_
            go_simp
            refine hK _ _ S112.out ?_
            clear hK K
            refine wpAnyH_done (by kernel_rfl) ?_ _
            have HO6 := Lib.hid (OwnZ.mono OUT.out (Nat.le_trans hsz0 (Nat.le_refl _)))
            have HO7 : Hid (OwnZ .u8 5 wt112 w.heap.size v (pre (j + 1))) := by
              show OwnZ _ _ _ _ _ _
              rw [HE2.out]
              have h9 := HO6.out
              simpa [catL, partX, List.append_assoc] using h9
            have HB9 := Lib.hid b112.out
            clear OUT HO6
            go_wp2
            go_roundw
            case rel => exact ⟨j + 1, by simp, by omega, HO7, HB9⟩
            case measure => simp [intOf]; omega
          · skip
            refine step_slice_blk rfl _ _ 1 _ rfl Tryd.underlying93 ([.int .u64 z] : List Value) (by rw [hfr105]; kernel_rfl) ?_
            intro g114 wt114 qa qb Y114 L114
            have S114 := Lib.hid (S104.out.over L114.out)
            have b114 := Lib.hid (step b104.out L114.out)
            have HB_114 := Lib.hid (HB_104.out.over L114.out)
            have nE_114 := Lib.hid (nE_104.out.over L114.out)
            have lA_114 := Lib.hid (Y104.out.over L114.out)
            refine hK _ _ S114.out ?_
            clear hK K
            subst hfr105
            refine wpAnyH_one 6 _ (by kernel_rfl) rfl fun K hK => ?_
            go_simp
            refine (D8.out _ _ lA_114.out).mono ?_
            rintro e wt115 ⟨A115, c115, rfl, hY115, L0115⟩
            have Y115 := Lib.hid hY115
            have L115 := Lib.hid L0115
            clear hY115 L0115
            have S115 := Lib.hid (S114.out.over L115.out)
            have b115 := Lib.hid (step b114.out L115.out)
            have HB_115 := Lib.hid (HB_114.out.over L115.out)
            have nE_115 := Lib.hid (nE_114.out.over L115.out)
            have lC_115 := Lib.hid (Y114.out.over L115.out)
            refine hK _ _ S115.out ?_
            clear hK K
            refine wpAnyH_one 11 _ (by kernel_rfl) rfl fun K hK => ?_
            go_simp
            refine (D2.out _ _ lC_115.out).mono ?_
            rintro e wt116 ⟨A116, c116, rfl, hY116, L0116⟩
            have Y116 := Lib.hid hY116
            have L116 := Lib.hid L0116
            clear hY116 L0116
            have S116 := Lib.hid (S115.out.over L116.out)
            have b116 := Lib.hid (step b115.out L116.out)
            have HB_116 := Lib.hid (HB_115.out.over L116.out)
            have nE_116 := Lib.hid (nE_115.out.over L116.out)
            have xA_116 := Lib.hid (Y115.out.over L116.out)
            refine hK _ _ S116.out ?_
            clear hK K
            refine wpAnyH_frame fun fr117 hfr117 => ?_
            refine wpAnyH_one 13 _ (by kernel_rfl) rfl fun K hK => ?_
            refine step_slice_blk rfl _ _ 4 _ rfl Tryd.underlying96 ([.slice Ab m cb, .slice A115 16 c115, .slice A116 2 c116, .slice (some ⟨u2.drew.heap.size, 0, none⟩) 2 2] : List Value) (by rw [hfr117]; kernel_rfl) ?_
            intro g118 wt118 qa qb Y0118 L118
            have Y118 : Hid (Parts wt118 g118 4 (partA [(Ab, m, cb, pj), (A115, 16, c115, xy), (A116, 2, c116, zz), ((some ⟨u2.drew.heap.size, 0, none⟩), 2, 2, List.replicate 2 0)]) (partN [(Ab, m, cb, pj), (A115, 16, c115, xy), (A116, 2, c116, zz), ((some ⟨u2.drew.heap.size, 0, none⟩), 2, 2, List.replicate 2 0)]) (partC [(Ab, m, cb, pj), (A115, 16, c115, xy), (A116, 2, c116, zz), ((some ⟨u2.drew.heap.size, 0, none⟩), 2, 2, List.replicate 2 0)]) (partX [(Ab, m, cb, pj), (A115, 16, c115, xy), (A116, 2, c116, zz), ((some ⟨u2.drew.heap.size, 0, none⟩), 2, 2, List.replicate 2 0)])) := Parts.of_blk [(Ab, m, cb, pj), (A115, 16, c115, xy), (A116, 2, c116, zz), ((some ⟨u2.drew.heap.size, 0, none⟩), 2, 2, List.replicate 2 0)] Y0118.out (List.forall_mem_cons.2 ⟨HB_116.out.over L118.out, List.forall_mem_cons.2 ⟨xA_116.out.over L118.out, List.forall_mem_cons.2 ⟨Y116.out.over L118.out, List.forall_mem_cons.2 ⟨nE_116.out.over L118.out, fun _ h => by cases h⟩⟩⟩⟩)
            clear Y0118
            have S118 := Lib.hid (S116.out.over L118.out)
            have b118 := Lib.hid (step b116.out L118.out)
            refine hK _ _ S118.out ?_
            clear hK K
            subst hfr117
            refine wpAnyH_one 14 _ (by kernel_rfl) rfl fun K hK => ?_
            go_simp
            refine (CC.out _ g118 4 _ _ _ _ Y118.out (by omega) (by show 0 + m + 16 + 2 + 2 ≤ _; omega)).mono ?_
            rintro e wt119 ⟨v, rfl, hY119, L0119⟩
            have OUT := Lib.hid hY119
            have L119 := Lib.hid L0119
            clear hY119 L0119
            have hsz0 := b118.out.size
            have S119 := Lib.hid (S118.out.over L119.out)
            have b119 := Lib.hid (step b118.out L119.out)
            refine hK _ _ S119.out ?_
            clear hK K
            refine wpAnyH_one 15 _ (by kernel_rfl) rfl fun K hK => ?_
            go_simp
            refine hK _ _ S119.out ?_
            clear hK K
            refine wpAnyH_done (by kernel_rfl) ?_ _
            have HO6 := Lib.hid (OwnZ.mono OUT.out (Nat.le_trans hsz0 (Nat.le_refl _)))
            have HO7 : Hid (OwnZ .u8 5 wt119 w.heap.size v (pre (j + 1))) := by
              show OwnZ _ _ _ _ _ _
              rw [HE2.out]
              have h9 := HO6.out
              simpa [catL, partX, List.append_assoc] using h9
            have HB9 := Lib.hid b119.out
            clear OUT HO6
            go_wp2
            go_roundw
            case rel => exact ⟨j + 1, by simp, by omega, HO7, HB9⟩
            case measure => simp [intOf]; omega
        · skip
          refine step_slice_blk rfl _ _ 1 _ rfl Tryd.underlying93 ([.int .u64 z] : List Value) (by rw [hfr103]; kernel_rfl) ?_
          intro g121 wt121 qa qb Y121 L121
          have S121 := Lib.hid (S102.out.over L121.out)
          have b121 := Lib.hid (step b102.out L121.out)
          have HB_121 := Lib.hid (HB_102.out.over L121.out)
          have nE_121 := Lib.hid (Y102.out.over L121.out)
          refine hK _ _ S121.out ?_
          clear hK K
          subst hfr103
          refine wpAnyH_frame fun fr122 hfr122 => ?_
          refine wpAnyH_one 5 _ (by kernel_rfl) rfl fun K hK => ?_
          refine step_slice_blk rfl _ _ 2 _ rfl Tryd.underlying93 ([.int .u64 x, .int .u64 y] : List Value) (by rw [hfr122]; kernel_rfl) ?_
          intro g123 wt123 qa qb Y123 L123
          have S123 := Lib.hid (S121.out.over L123.out)
          have b123 := Lib.hid (step b121.out L123.out)
          have HB_123 := Lib.hid (HB_121.out.over L123.out)
          have nE_123 := Lib.hid (nE_121.out.over L123.out)
          have lC_123 := Lib.hid (Y121.out.over L123.out)
          refine hK _ _ S123.out ?_
          clear hK K
          subst hfr122
          refine wpAnyH_one 6 _ (by kernel_rfl) rfl fun K hK => ?_
          go_simp
          refine (D8.out _ _ Y123.out).mono ?_
          rintro e wt124 ⟨A124, c124, rfl, hY124, L0124⟩
          have Y124 := Lib.hid hY124
          have L124 := Lib.hid L0124
          clear hY124 L0124
          have S124 := Lib.hid (S123.out.over L124.out)
          have b124 := Lib.hid (step b123.out L124.out)
          have HB_124 := Lib.hid (HB_123.out.over L124.out)
          have nE_124 := Lib.hid (nE_123.out.over L124.out)
          have lC_124 := Lib.hid (lC_123.out.over L124.out)
          refine hK _ _ S124.out ?_
          clear hK K
          refine wpAnyH_one 11 _ (by kernel_rfl) rfl fun K hK => ?_
          go_simp
          refine (D2.out _ _ lC_124.out).mono ?_
          rintro e wt125 ⟨A125, c125, rfl, hY125, L0125⟩
          have Y125 := Lib.hid hY125
          have L125 := Lib.hid L0125
          clear hY125 L0125
          have S125 := Lib.hid (S124.out.over L125.out)
          have b125 := Lib.hid (step b124.out L125.out)
          have HB_125 := Lib.hid (HB_124.out.over L125.out)
          have nE_125 := Lib.hid (nE_124.out.over L125.out)
          have xA_125 := Lib.hid (Y124.out.over L125.out)
          refine hK _ _ S125.out ?_
          clear hK K
          refine wpAnyH_frame fun fr126 hfr126 => ?_
          refine wpAnyH_one 13 _ (by kernel_rfl) rfl fun K hK => ?_
          refine step_slice_blk rfl _ _ 4 _ rfl Tryd.underlying96 ([.slice Ab m cb, .slice A124 16 c124, .slice A125 2 c125, .slice (some ⟨u2.drew.heap.size, 0, none⟩) 2 2] : List Value) (by rw [hfr126]; kernel_rfl) ?_
          intro g127 wt127 qa qb Y0127 L127
          have Y127 : Hid (Parts wt127 g127 4 (partA [(Ab, m, cb, pj), (A124, 16, c124, xy), (A125, 2, c125, zz), ((some ⟨u2.drew.heap.size, 0, none⟩), 2, 2, List.replicate 2 0)]) (partN [(Ab, m, cb, pj), (A124, 16, c124, xy), (A125, 2, c125, zz), ((some ⟨u2.drew.heap.size, 0, none⟩), 2, 2, List.replicate 2 0)]) (partC [(Ab, m, cb, pj), (A124, 16, c124, xy), (A125, 2, c125, zz), ((some ⟨u2.drew.heap.size, 0, none⟩), 2, 2, List.replicate 2 0)]) (partX [(Ab, m, cb, pj), (A124, 16, c124, xy), (A125, 2, c125, zz), ((some ⟨u2.drew.heap.size, 0, none⟩), 2, 2, List.replicate 2 0)])) := Parts.of_blk [(Ab, m, cb, pj), (A124, 16, c124, xy), (A125, 2, c125, zz), ((some ⟨u2.drew.heap.size, 0, none⟩), 2, 2, List.replicate 2 0)] Y0127.out (List.forall_mem_cons.2 ⟨HB_125.out.over L127.out, List.forall_mem_cons.2 ⟨xA_125.out.over L127.out, List.forall_mem_cons.2 ⟨Y125.out.over L127.out, List.forall_mem_cons.2 ⟨nE_125.out.over L127.out, fun _ h => by cases h⟩⟩⟩⟩)
          clear Y0127
          have S127 := Lib.hid (S125.out.over L127.out)
          have b127 := Lib.hid (step b125.out L127.out)
          refine hK _ _ S127.out ?_
          clear hK K
          subst hfr126
          refine wpAnyH_one 14 _ (by kernel_rfl) rfl fun K hK => ?_
          go_simp
          refine (CC.out _ g127 4 _ _ _ _ Y127.out (by omega) (by show 0 + m + 16 + 2 + 2 ≤ _; omega)).mono ?_
          rintro e wt128 ⟨v, rfl, hY128, L0128⟩
          have OUT := Lib.hid hY128
          have L128 := Lib.hid L0128
          clear hY128 L0128
          have hsz0 := b127.out.size
          have S128 := Lib.hid (S127.out.over L128.out)
          have b128 := Lib.hid (step b127.out L128.out)
          refine hK _ _ S128.out ?_
          clear hK K
          refine wpAnyH_one 15 _ (by kernel_rfl) rfl fun K hK => ?_
          go_simp
          refine hK _ _ S128.out ?_
          clear hK K
          refine wpAnyH_done (by kernel_rfl) ?_ _
          have HO6 := Lib.hid (OwnZ.mono OUT.out (Nat.le_trans hsz0 (Nat.le_refl _)))
          have HO7 : Hid (OwnZ .u8 5 wt128 w.heap.size v (pre (j + 1))) := by
            show OwnZ _ _ _ _ _ _
            rw [HE2.out]
            have h9 := HO6.out
            simpa [catL, partX, List.append_assoc] using h9
          have HB9 := Lib.hid b128.out
          clear OUT HO6
          go_wp2
          go_roundw
          case rel => exact ⟨j + 1, by simp, by omega, HO7, HB9⟩
          case measure => simp [intOf]; omega
    · obtain rfl : j = n := by omega
      go_wp2
      go_ret
      exact HQ.out _ _ ⟨_, rfl, HO.out, HB1.out⟩
end Go.Proofs.YtdlcjobahdmapaaDoor

namespace Go.Proofs.YtdlcjobahdmapaaDoor
set_option linter.all false
open Go.RowKit
set_option linter.unusedVariables false
set_option maxRecDepth 100000
set_option maxHeartbeats 1000000 in
theorem isNamedAsk_any (w : World) (c : Int) (cs : List Value) (a : AskV) (hc : 0 ≤ c ∧ c ≤ 65535) (ka : a.ok) (ha : AskIs w w.heap.size cs a) (hu : a.user.size ≤ 17592186044416 ∧ a.share.size ≤ 17592186044416) (hn : a.locks.length ≤ 4398046511104) (hT : Tabs w) :
    Calls Tryd.prog 32 #[.int .u16 c, .agg cs.toArray] w fun e w' => e = .returned (.bool (nameF c a)) ∧ Below w.heap.size w w' := by
  have HL := Lib.hid (ha.len ka)
  have HT := Lib.hid hT
  have hgl := ka.glen
  have hpl := ka.plen
  obtain ⟨hu0, hu1⟩ := hu
  have CP : Hid (∀ (w' : World) (ds : List Value) (b : AskV), b.ok → b.user = a.user → b.share = a.share → AskIs w' w'.heap.size ds b → Below w.heap.size w w' → Calls Tryd.prog 61 #[.int .u16 13, .agg ds.toArray] w' fun e w2 => (∃ v er, e = .returned (.tuple #[v, .int .i64 er]) ∧ (er == 0) = decide (b = zeroAsk)) ∧ Below w'.heap.size w' w2) := fun w' ds b kb h1 h2 hb hL => by
    have h := PutAsk_any w' 13 ds b (by decide) kb hb ⟨by rw [h1]; exact hu0, by rw [h2]; exact hu1⟩ (HT.out.below hL)
    exact h.mono fun e w2 ⟨v, h1, _, h3⟩ => ⟨⟨v, _, h1, echo_err b⟩, h3⟩
  have kb := besideF_ok (c := c) ka
  by_cases hk : knownF c = true
  rotate_left
  · have hn0 : nameF c a = false := by unfold nameF; rw [show knownF c = false from by simpa using hk]; rfl
    have hk' : c ≠ 5 ∧ c ≠ 6 ∧ c ≠ 7 ∧ c ≠ 8 ∧ c ≠ 9 ∧ c ≠ 10 := by
      refine ⟨?_, ?_, ?_, ?_, ?_, ?_⟩ <;> (rintro rfl; exact hk (by decide))
    obtain ⟨h5, h6, h7, h8, h9, h10⟩ := hk'
    have b5 : (c == 5) = false := by simpa using h5
    have b6 : (c == 6) = false := by simpa using h6
    have b7 : (c == 7) = false := by simpa using h7
    have b8 : (c == 8) = false := by simpa using h8
    have b9 : (c == 9) = false := by simpa using h9
    have b10 : (c == 10) = false := by simpa using h10
    rw [hn0]
    clear hk hn0 h5 h6 h7 h8 h9 h10 ha ka kb CP
    go_enter Tryd.func32, Tryd.ntmps32
    go_wp2_with (first
      | ((with_reducible show wpList _ _ _ (⟨some 3, _, _, _, _, _⟩ :: _) _ _); refine wpList_box_blk rfl _ (.tmp 1) rfl cs rfl ?_; intro g w1 hg1 hg2 K1 L1)
      | fail)
    go_ret
    exact ⟨rfl, L1.out⟩
  have hcs : c = 5 ∨ c = 6 ∨ c = 7 ∨ c = 8 ∨ c = 9 ∨ c = 10 := by unfold knownF at hk; simp at hk; omega
  obtain ⟨A1, A2, A3, X1, X2, X3, M1, M2, M3, rfl, hA, hX, hM⟩ := ha
  have FL : Hid (∀ (w : World) (g : Nat), Blk w g 32 (acells (.slice A1 A2 A3) (.slice X1 X2 X3) (.slice M1 M2 M3) a) → w.cell? ⟨g, 62, none⟩ = some (.slice M1 M2 M3)) := fun w g h => h.at (acells_get ka 13)
  have HM := Lib.hid hM
  have hml : M2 ≤ 4398046511104 := by rw [← hM.len]; exact hn
  obtain ⟨C0, hC0⟩ : ∃ x, x = acells (.slice A1 A2 A3) (.slice X1 X2 X3) (.slice M1 M2 M3) a := ⟨_, rfl⟩
  have HC0 := Lib.hid hC0
  rw [← hC0] at HL FL ⊢
  clear hC0
  rcases hcs with h5 | h6 | h7 | h8 | h9 | h10
  · subst h5
    have HI : Hid (∀ w' : World, Below w.heap.size w w' → AskIs w' w'.heap.size (acells (.slice A1 A2 A3) (.slice X1 X2 X3) (.slice M1 M2 M3) (besideF 5 a)) (besideF 5 a)) := fun w' hb => ⟨A1, A2, A3, X1, X2, X3, M1, M2, M3, rfl, hA.over hb, hX.over hb, hM.over hb⟩
    have HEQ : Hid (((((((((C0).set 51 (.int .u32 0)).set 52 (.int .u32 0)).set 53 (.int .u32 0)).set 54 (.int .u32 0)).set 55 (.int .u8 0)).set 56 (.int .u8 0)).set 58 (.string .empty)).set 57 (.int .u64 0) = acells (.slice A1 A2 A3) (.slice X1 X2 X3) (.slice M1 M2 M3) (besideF 5 a)) := by
      show _ = _
      rw [HC0.out]
      simp only [ac51, ac52, ac53, ac54, ac55, ac56, ac58, ac57, hgl, hpl]
      try rfl
    have hbu : (besideF 5 a).user = a.user ∧ (besideF 5 a).share = a.share := ⟨rfl, rfl⟩
    obtain ⟨hbu1, hbu2⟩ := hbu
    rw [nameF_of hk (by decide)]
    obtain ⟨b, hb⟩ : ∃ x, x = besideF 5 a := ⟨_, rfl⟩
    rw [← hb] at HI HEQ kb hbu1 hbu2 ⊢
    obtain ⟨D, hD⟩ : ∃ x, x = acells (.slice A1 A2 A3) (.slice X1 X2 X3) (.slice M1 M2 M3) b := ⟨_, rfl⟩
    rw [← hD] at HI HEQ
    clear hb hD hk ka
    go_enter Tryd.func32, Tryd.ntmps32
    go_wp2_with (first
      | ((with_reducible show wpList _ _ _ (⟨some 3, _, _, _, _, _⟩ :: _) _ _); refine wpList_box_blk rfl _ (.tmp 1) rfl C0 rfl ?_; intro g w1 hg1 hg2 K1 L1)
      | ((with_reducible show wpList _ _ _ (⟨none, .store _ (.tmp 10) _, _, _, _, _⟩ :: _) _ _); refine wpList_store_fld rfl _ (.tmp 10) (.const (.int .u32 0)) rfl g 51 rfl _ C0 (.int .u32 0) rfl K1 (Lib.hid (by have := HL.out; omega)) (by kernel_rfl) rfl ?_; intro w2 K2 O2 hq2; obtain ⟨C1, hC1⟩ : ∃ x, x = C0.set 51 (.int .u32 0) := ⟨_, rfl⟩; have HC1 := Lib.hid hC1; have HL1 : Hid (C1.length = 69) := (by rw [hC1, List.length_set]; exact HL.out); rw [← hC1] at K2; have L2 := Lib.hid (below_only L1.out O2.out hg1); clear hC1)
      | ((with_reducible show wpList _ _ _ (⟨none, .store _ (.tmp 11) _, _, _, _, _⟩ :: _) _ _); refine wpList_store_fld rfl _ (.tmp 11) (.const (.int .u32 0)) rfl g 52 rfl _ C1 (.int .u32 0) rfl K2 (Lib.hid (by have := HL1.out; omega)) (by kernel_rfl) rfl ?_; intro w3 K3 O3 hq3; obtain ⟨C2, hC2⟩ : ∃ x, x = C1.set 52 (.int .u32 0) := ⟨_, rfl⟩; have HC2 := Lib.hid hC2; have HL2 : Hid (C2.length = 69) := (by rw [hC2, List.length_set]; exact HL1.out); rw [← hC2] at K3; have L3 := Lib.hid (below_only L2.out O3.out hg1); clear hC2)
      | ((with_reducible show wpList _ _ _ (⟨none, .store _ (.tmp 12) _, _, _, _, _⟩ :: _) _ _); refine wpList_store_fld rfl _ (.tmp 12) (.const (.int .u32 0)) rfl g 53 rfl _ C2 (.int .u32 0) rfl K3 (Lib.hid (by have := HL2.out; omega)) (by kernel_rfl) rfl ?_; intro w4 K4 O4 hq4; obtain ⟨C3, hC3⟩ : ∃ x, x = C2.set 53 (.int .u32 0) := ⟨_, rfl⟩; have HC3 := Lib.hid hC3; have HL3 : Hid (C3.length = 69) := (by rw [hC3, List.length_set]; exact HL2.out); rw [← hC3] at K4; have L4 := Lib.hid (below_only L3.out O4.out hg1); clear hC3)
      | ((with_reducible show wpList _ _ _ (⟨none, .store _ (.tmp 13) _, _, _, _, _⟩ :: _) _ _); refine wpList_store_fld rfl _ (.tmp 13) (.const (.int .u32 0)) rfl g 54 rfl _ C3 (.int .u32 0) rfl K4 (Lib.hid (by have := HL3.out; omega)) (by kernel_rfl) rfl ?_; intro w5 K5 O5 hq5; obtain ⟨C4, hC4⟩ : ∃ x, x = C3.set 54 (.int .u32 0) := ⟨_, rfl⟩; have HC4 := Lib.hid hC4; have HL4 : Hid (C4.length = 69) := (by rw [hC4, List.length_set]; exact HL3.out); rw [← hC4] at K5; have L5 := Lib.hid (below_only L4.out O5.out hg1); clear hC4)
      | ((with_reducible show wpList _ _ _ (⟨none, .store _ (.tmp 14) _, _, _, _, _⟩ :: _) _ _); refine wpList_store_fld rfl _ (.tmp 14) (.const (.int .u8 0)) rfl g 55 rfl _ C4 (.int .u8 0) rfl K5 (Lib.hid (by have := HL4.out; omega)) (by kernel_rfl) rfl ?_; intro w6 K6 O6 hq6; obtain ⟨C5, hC5⟩ : ∃ x, x = C4.set 55 (.int .u8 0) := ⟨_, rfl⟩; have HC5 := Lib.hid hC5; have HL5 : Hid (C5.length = 69) := (by rw [hC5, List.length_set]; exact HL4.out); rw [← hC5] at K6; have L6 := Lib.hid (below_only L5.out O6.out hg1); clear hC5)
      | ((with_reducible show wpList _ _ _ (⟨none, .store _ (.tmp 15) _, _, _, _, _⟩ :: _) _ _); refine wpList_store_fld rfl _ (.tmp 15) (.const (.int .u8 0)) rfl g 56 rfl _ C5 (.int .u8 0) rfl K6 (Lib.hid (by have := HL5.out; omega)) (by kernel_rfl) rfl ?_; intro w7 K7 O7 hq7; obtain ⟨C6, hC6⟩ : ∃ x, x = C5.set 56 (.int .u8 0) := ⟨_, rfl⟩; have HC6 := Lib.hid hC6; have HL6 : Hid (C6.length = 69) := (by rw [hC6, List.length_set]; exact HL5.out); rw [← hC6] at K7; have L7 := Lib.hid (below_only L6.out O7.out hg1); clear hC6)
      | ((with_reducible show wpList _ _ _ (⟨none, .store _ (.tmp 16) _, _, _, _, _⟩ :: _) _ _); refine wpList_store_fld rfl _ (.tmp 16) (.const (.string .empty)) rfl g 58 rfl _ C6 (.string .empty) rfl K7 (Lib.hid (by have := HL6.out; omega)) (by kernel_rfl) rfl ?_; intro w8 K8 O8 hq8; obtain ⟨C7, hC7⟩ : ∃ x, x = C6.set 58 (.string .empty) := ⟨_, rfl⟩; have HC7 := Lib.hid hC7; have HL7 : Hid (C7.length = 69) := (by rw [hC7, List.length_set]; exact HL6.out); rw [← hC7] at K8; have L8 := Lib.hid (below_only L7.out O8.out hg1); clear hC7)
      | ((with_reducible show wpList _ _ _ (⟨none, .store _ (.tmp 34) _, _, _, _, _⟩ :: _) _ _); refine wpList_store_fld rfl _ (.tmp 34) (.const (.int .u64 0)) rfl g 57 rfl _ C7 (.int .u64 0) rfl K8 (Lib.hid (by have := HL7.out; omega)) (by kernel_rfl) rfl ?_; intro w9 K9 O9 hq9; obtain ⟨C8, hC8⟩ : ∃ x, x = C7.set 57 (.int .u64 0) := ⟨_, rfl⟩; have HC8 := Lib.hid hC8; have HL8 : Hid (C8.length = 69) := (by rw [hC8, List.length_set]; exact HL7.out); rw [← hC8] at K9; have L9 := Lib.hid (below_only L8.out O9.out hg1); clear hC8)
      | ((with_reducible show wpList _ _ _ (⟨some 36, _, _, _, _, _⟩ :: _) _ _); refine wpList_load_blk rfl _ (.tmp 3) rfl g rfl _ C8 K9 69 _ Tryd.underlying32 rfl size_ask HL8 ?_)
      | fail)
    have HF : Hid (C8 = D) := by
      show _ = _
      rw [HC8.out, HC7.out, HC6.out, HC5.out, HC4.out, HC3.out, HC2.out, HC1.out]
      exact HEQ.out
    rw [HF.out]
    refine (CP.out _ D b kb hbu1 hbu2 (HI.out _ L9.out) L9.out).mono ?_
    rintro e v1 ⟨⟨v, er, rfl, her⟩, LQ⟩
    have HER := Lib.hid her
    have L99 := Lib.hid (step L9.out LQ)
    clear her LQ
    go_wp2
    go_ret
    exact ⟨ret_bool HER.out, L99.out⟩
  · subst h6
    have HI : Hid (∀ w' : World, Below w.heap.size w w' → AskIs w' w'.heap.size (acells (.slice A1 A2 A3) (.slice X1 X2 X3) (.slice M1 M2 M3) (besideF 6 a)) (besideF 6 a)) := fun w' hb => ⟨A1, A2, A3, X1, X2, X3, M1, M2, M3, rfl, hA.over hb, hX.over hb, hM.over hb⟩
    have HEQ : Hid ((C0).set 57 (.int .u64 0) = acells (.slice A1 A2 A3) (.slice X1 X2 X3) (.slice M1 M2 M3) (besideF 6 a)) := by
      show _ = _
      rw [HC0.out]
      simp only [ac57, hgl, hpl]
      try rfl
    have hbu : (besideF 6 a).user = a.user ∧ (besideF 6 a).share = a.share := ⟨rfl, rfl⟩
    obtain ⟨hbu1, hbu2⟩ := hbu
    rw [nameF_of hk (by decide)]
    obtain ⟨b, hb⟩ : ∃ x, x = besideF 6 a := ⟨_, rfl⟩
    rw [← hb] at HI HEQ kb hbu1 hbu2 ⊢
    obtain ⟨D, hD⟩ : ∃ x, x = acells (.slice A1 A2 A3) (.slice X1 X2 X3) (.slice M1 M2 M3) b := ⟨_, rfl⟩
    rw [← hD] at HI HEQ
    clear hb hD hk ka
    go_enter Tryd.func32, Tryd.ntmps32
    go_wp2_with (first
      | ((with_reducible show wpList _ _ _ (⟨some 3, _, _, _, _, _⟩ :: _) _ _); refine wpList_box_blk rfl _ (.tmp 1) rfl C0 rfl ?_; intro g w1 hg1 hg2 K1 L1)
      | ((with_reducible show wpList _ _ _ (⟨none, .store _ (.tmp 34) _, _, _, _, _⟩ :: _) _ _); refine wpList_store_fld rfl _ (.tmp 34) (.const (.int .u64 0)) rfl g 57 rfl _ C0 (.int .u64 0) rfl K1 (Lib.hid (by have := HL.out; omega)) (by kernel_rfl) rfl ?_; intro w2 K2 O2 hq2; obtain ⟨C1, hC1⟩ : ∃ x, x = C0.set 57 (.int .u64 0) := ⟨_, rfl⟩; have HC1 := Lib.hid hC1; have HL1 : Hid (C1.length = 69) := (by rw [hC1, List.length_set]; exact HL.out); rw [← hC1] at K2; have L2 := Lib.hid (below_only L1.out O2.out hg1); clear hC1)
      | ((with_reducible show wpList _ _ _ (⟨some 36, _, _, _, _, _⟩ :: _) _ _); refine wpList_load_blk rfl _ (.tmp 3) rfl g rfl _ C1 K2 69 _ Tryd.underlying32 rfl size_ask HL1 ?_)
      | fail)
    have HF : Hid (C1 = D) := by
      show _ = _
      rw [HC1.out]
      exact HEQ.out
    rw [HF.out]
    refine (CP.out _ D b kb hbu1 hbu2 (HI.out _ L2.out) L2.out).mono ?_
    rintro e v1 ⟨⟨v, er, rfl, her⟩, LQ⟩
    have HER := Lib.hid her
    have L99 := Lib.hid (step L2.out LQ)
    clear her LQ
    go_wp2
    go_ret
    exact ⟨ret_bool HER.out, L99.out⟩
  · subst h7
    have HI : Hid (∀ w' : World, Below w.heap.size w w' → AskIs w' w'.heap.size (acells (.slice A1 A2 A3) (.slice X1 X2 X3) (.slice M1 M2 M3) (besideF 7 a)) (besideF 7 a)) := fun w' hb => ⟨A1, A2, A3, X1, X2, X3, M1, M2, M3, rfl, hA.over hb, hX.over hb, hM.over hb⟩
    have HEQ : Hid ((C0).set 57 (.int .u64 0) = acells (.slice A1 A2 A3) (.slice X1 X2 X3) (.slice M1 M2 M3) (besideF 7 a)) := by
      show _ = _
      rw [HC0.out]
      simp only [ac57, hgl, hpl]
      try rfl
    have hbu : (besideF 7 a).user = a.user ∧ (besideF 7 a).share = a.share := ⟨rfl, rfl⟩
    obtain ⟨hbu1, hbu2⟩ := hbu
    rw [nameF_of hk (by decide)]
    obtain ⟨b, hb⟩ : ∃ x, x = besideF 7 a := ⟨_, rfl⟩
    rw [← hb] at HI HEQ kb hbu1 hbu2 ⊢
    obtain ⟨D, hD⟩ : ∃ x, x = acells (.slice A1 A2 A3) (.slice X1 X2 X3) (.slice M1 M2 M3) b := ⟨_, rfl⟩
    rw [← hD] at HI HEQ
    clear hb hD hk ka
    go_enter Tryd.func32, Tryd.ntmps32
    go_wp2_with (first
      | ((with_reducible show wpList _ _ _ (⟨some 3, _, _, _, _, _⟩ :: _) _ _); refine wpList_box_blk rfl _ (.tmp 1) rfl C0 rfl ?_; intro g w1 hg1 hg2 K1 L1)
      | ((with_reducible show wpList _ _ _ (⟨none, .store _ (.tmp 34) _, _, _, _, _⟩ :: _) _ _); refine wpList_store_fld rfl _ (.tmp 34) (.const (.int .u64 0)) rfl g 57 rfl _ C0 (.int .u64 0) rfl K1 (Lib.hid (by have := HL.out; omega)) (by kernel_rfl) rfl ?_; intro w2 K2 O2 hq2; obtain ⟨C1, hC1⟩ : ∃ x, x = C0.set 57 (.int .u64 0) := ⟨_, rfl⟩; have HC1 := Lib.hid hC1; have HL1 : Hid (C1.length = 69) := (by rw [hC1, List.length_set]; exact HL.out); rw [← hC1] at K2; have L2 := Lib.hid (below_only L1.out O2.out hg1); clear hC1)
      | ((with_reducible show wpList _ _ _ (⟨some 36, _, _, _, _, _⟩ :: _) _ _); refine wpList_load_blk rfl _ (.tmp 3) rfl g rfl _ C1 K2 69 _ Tryd.underlying32 rfl size_ask HL1 ?_)
      | fail)
    have HF : Hid (C1 = D) := by
      show _ = _
      rw [HC1.out]
      exact HEQ.out
    rw [HF.out]
    refine (CP.out _ D b kb hbu1 hbu2 (HI.out _ L2.out) L2.out).mono ?_
    rintro e v1 ⟨⟨v, er, rfl, her⟩, LQ⟩
    have HER := Lib.hid her
    have L99 := Lib.hid (step L2.out LQ)
    clear her LQ
    go_wp2
    go_ret
    exact ⟨ret_bool HER.out, L99.out⟩
  · subst h8
    have HI : Hid (∀ w' : World, Below w.heap.size w w' → AskIs w' w'.heap.size (acells (.slice A1 A2 A3) (.slice X1 X2 X3) (.slice M1 M2 M3) (besideF 8 a)) (besideF 8 a)) := fun w' hb => ⟨A1, A2, A3, X1, X2, X3, M1, M2, M3, rfl, hA.over hb, hX.over hb, hM.over hb⟩
    have HEQ : Hid ((((C0).set 59 (.int .u64 0)).set 60 (.int .u32 0)).set 57 (.int .u64 0) = acells (.slice A1 A2 A3) (.slice X1 X2 X3) (.slice M1 M2 M3) (besideF 8 a)) := by
      show _ = _
      rw [HC0.out]
      simp only [ac59, ac60, ac57, hgl, hpl]
      try rfl
    have hbu : (besideF 8 a).user = a.user ∧ (besideF 8 a).share = a.share := ⟨rfl, rfl⟩
    obtain ⟨hbu1, hbu2⟩ := hbu
    rw [nameF_of hk (by decide)]
    obtain ⟨b, hb⟩ : ∃ x, x = besideF 8 a := ⟨_, rfl⟩
    rw [← hb] at HI HEQ kb hbu1 hbu2 ⊢
    obtain ⟨D, hD⟩ : ∃ x, x = acells (.slice A1 A2 A3) (.slice X1 X2 X3) (.slice M1 M2 M3) b := ⟨_, rfl⟩
    rw [← hD] at HI HEQ
    clear hb hD hk ka
    go_enter Tryd.func32, Tryd.ntmps32
    go_wp2_with (first
      | ((with_reducible show wpList _ _ _ (⟨some 3, _, _, _, _, _⟩ :: _) _ _); refine wpList_box_blk rfl _ (.tmp 1) rfl C0 rfl ?_; intro g w1 hg1 hg2 K1 L1)
      | ((with_reducible show wpList _ _ _ (⟨none, .store _ (.tmp 22) _, _, _, _, _⟩ :: _) _ _); refine wpList_store_fld rfl _ (.tmp 22) (.const (.int .u64 0)) rfl g 59 rfl _ C0 (.int .u64 0) rfl K1 (Lib.hid (by have := HL.out; omega)) (by kernel_rfl) rfl ?_; intro w2 K2 O2 hq2; obtain ⟨C1, hC1⟩ : ∃ x, x = C0.set 59 (.int .u64 0) := ⟨_, rfl⟩; have HC1 := Lib.hid hC1; have HL1 : Hid (C1.length = 69) := (by rw [hC1, List.length_set]; exact HL.out); rw [← hC1] at K2; have L2 := Lib.hid (below_only L1.out O2.out hg1); clear hC1)
      | ((with_reducible show wpList _ _ _ (⟨none, .store _ (.tmp 23) _, _, _, _, _⟩ :: _) _ _); refine wpList_store_fld rfl _ (.tmp 23) (.const (.int .u32 0)) rfl g 60 rfl _ C1 (.int .u32 0) rfl K2 (Lib.hid (by have := HL1.out; omega)) (by kernel_rfl) rfl ?_; intro w3 K3 O3 hq3; obtain ⟨C2, hC2⟩ : ∃ x, x = C1.set 60 (.int .u32 0) := ⟨_, rfl⟩; have HC2 := Lib.hid hC2; have HL2 : Hid (C2.length = 69) := (by rw [hC2, List.length_set]; exact HL1.out); rw [← hC2] at K3; have L3 := Lib.hid (below_only L2.out O3.out hg1); clear hC2)
      | ((with_reducible show wpList _ _ _ (⟨none, .store _ (.tmp 34) _, _, _, _, _⟩ :: _) _ _); refine wpList_store_fld rfl _ (.tmp 34) (.const (.int .u64 0)) rfl g 57 rfl _ C2 (.int .u64 0) rfl K3 (Lib.hid (by have := HL2.out; omega)) (by kernel_rfl) rfl ?_; intro w4 K4 O4 hq4; obtain ⟨C3, hC3⟩ : ∃ x, x = C2.set 57 (.int .u64 0) := ⟨_, rfl⟩; have HC3 := Lib.hid hC3; have HL3 : Hid (C3.length = 69) := (by rw [hC3, List.length_set]; exact HL2.out); rw [← hC3] at K4; have L4 := Lib.hid (below_only L3.out O4.out hg1); clear hC3)
      | ((with_reducible show wpList _ _ _ (⟨some 36, _, _, _, _, _⟩ :: _) _ _); refine wpList_load_blk rfl _ (.tmp 3) rfl g rfl _ C3 K4 69 _ Tryd.underlying32 rfl size_ask HL3 ?_)
      | fail)
    have HF : Hid (C3 = D) := by
      show _ = _
      rw [HC3.out, HC2.out, HC1.out]
      exact HEQ.out
    rw [HF.out]
    refine (CP.out _ D b kb hbu1 hbu2 (HI.out _ L4.out) L4.out).mono ?_
    rintro e v1 ⟨⟨v, er, rfl, her⟩, LQ⟩
    have HER := Lib.hid her
    have L99 := Lib.hid (step L4.out LQ)
    clear her LQ
    go_wp2
    go_ret
    exact ⟨ret_bool HER.out, L99.out⟩
  · subst h9
    have HI : Hid (∀ w' : World, Below w.heap.size w w' → AskIs w' w'.heap.size (acells (.slice A1 A2 A3) (.slice none 0 0) (.slice M1 M2 M3) (besideF 9 a)) (besideF 9 a)) := fun w' hb => ⟨A1, A2, A3, none, 0, 0, M1, M2, M3, rfl, hA.over hb, Holds.nil _ _, hM.over hb⟩
    have HEQ : Hid ((((C0).set 59 (.int .u64 0)).set 61 (.slice none 0 0)).set 57 (.int .u64 0) = acells (.slice A1 A2 A3) (.slice none 0 0) (.slice M1 M2 M3) (besideF 9 a)) := by
      show _ = _
      rw [HC0.out]
      simp only [ac59, ac61n, ac57, hgl, hpl]
      try rfl
    have hbu : (besideF 9 a).user = a.user ∧ (besideF 9 a).share = a.share := ⟨rfl, rfl⟩
    obtain ⟨hbu1, hbu2⟩ := hbu
    rw [nameF_of hk (by decide)]
    obtain ⟨b, hb⟩ : ∃ x, x = besideF 9 a := ⟨_, rfl⟩
    rw [← hb] at HI HEQ kb hbu1 hbu2 ⊢
    obtain ⟨D, hD⟩ : ∃ x, x = acells (.slice A1 A2 A3) (.slice none 0 0) (.slice M1 M2 M3) b := ⟨_, rfl⟩
    rw [← hD] at HI HEQ
    clear hb hD hk ka
    go_enter Tryd.func32, Tryd.ntmps32
    go_wp2_with (first
      | ((with_reducible show wpList _ _ _ (⟨some 3, _, _, _, _, _⟩ :: _) _ _); refine wpList_box_blk rfl _ (.tmp 1) rfl C0 rfl ?_; intro g w1 hg1 hg2 K1 L1)
      | ((with_reducible show wpList _ _ _ (⟨none, .store _ (.tmp 26) _, _, _, _, _⟩ :: _) _ _); refine wpList_store_fld rfl _ (.tmp 26) (.const (.int .u64 0)) rfl g 59 rfl _ C0 (.int .u64 0) rfl K1 (Lib.hid (by have := HL.out; omega)) (by kernel_rfl) rfl ?_; intro w2 K2 O2 hq2; obtain ⟨C1, hC1⟩ : ∃ x, x = C0.set 59 (.int .u64 0) := ⟨_, rfl⟩; have HC1 := Lib.hid hC1; have HL1 : Hid (C1.length = 69) := (by rw [hC1, List.length_set]; exact HL.out); rw [← hC1] at K2; have L2 := Lib.hid (below_only L1.out O2.out hg1); clear hC1)
      | ((with_reducible show wpList _ _ _ (⟨none, .store _ (.tmp 27) _, _, _, _, _⟩ :: _) _ _); refine wpList_store_fld rfl _ (.tmp 27) (.const (.slice none 0 0)) rfl g 61 rfl _ C1 (.slice none 0 0) rfl K2 (Lib.hid (by have := HL1.out; omega)) (by kernel_rfl) rfl ?_; intro w3 K3 O3 hq3; obtain ⟨C2, hC2⟩ : ∃ x, x = C1.set 61 (.slice none 0 0) := ⟨_, rfl⟩; have HC2 := Lib.hid hC2; have HL2 : Hid (C2.length = 69) := (by rw [hC2, List.length_set]; exact HL1.out); rw [← hC2] at K3; have L3 := Lib.hid (below_only L2.out O3.out hg1); clear hC2)
      | ((with_reducible show wpList _ _ _ (⟨none, .store _ (.tmp 34) _, _, _, _, _⟩ :: _) _ _); refine wpList_store_fld rfl _ (.tmp 34) (.const (.int .u64 0)) rfl g 57 rfl _ C2 (.int .u64 0) rfl K3 (Lib.hid (by have := HL2.out; omega)) (by kernel_rfl) rfl ?_; intro w4 K4 O4 hq4; obtain ⟨C3, hC3⟩ : ∃ x, x = C2.set 57 (.int .u64 0) := ⟨_, rfl⟩; have HC3 := Lib.hid hC3; have HL3 : Hid (C3.length = 69) := (by rw [hC3, List.length_set]; exact HL2.out); rw [← hC3] at K4; have L4 := Lib.hid (below_only L3.out O4.out hg1); clear hC3)
      | ((with_reducible show wpList _ _ _ (⟨some 36, _, _, _, _, _⟩ :: _) _ _); refine wpList_load_blk rfl _ (.tmp 3) rfl g rfl _ C3 K4 69 _ Tryd.underlying32 rfl size_ask HL3 ?_)
      | fail)
    have HF : Hid (C3 = D) := by
      show _ = _
      rw [HC3.out, HC2.out, HC1.out]
      exact HEQ.out
    rw [HF.out]
    refine (CP.out _ D b kb hbu1 hbu2 (HI.out _ L4.out) L4.out).mono ?_
    rintro e v1 ⟨⟨v, er, rfl, her⟩, LQ⟩
    have HER := Lib.hid her
    have L99 := Lib.hid (step L4.out LQ)
    clear her LQ
    go_wp2
    go_ret
    exact ⟨ret_bool HER.out, L99.out⟩
  · subst h10
    have HI : Hid (∀ w' : World, Below w.heap.size w w' → AskIs w' w'.heap.size (acells (.slice A1 A2 A3) (.slice X1 X2 X3) (.slice none 0 0) (besideF 10 a)) (besideF 10 a)) := fun w' hb => ⟨A1, A2, A3, X1, X2, X3, none, 0, 0, rfl, hA.over hb, hX.over hb, HoldsS.nil _ _ _ _⟩
    have HEQ : Hid (((C0).set 62 (.slice none 0 0)).set 57 (.int .u64 0) = acells (.slice A1 A2 A3) (.slice X1 X2 X3) (.slice none 0 0) (besideF 10 a)) := by
      show _ = _
      rw [HC0.out]
      simp only [ac62n, ac57, hgl, hpl]
      try rfl
    have hbu : (besideF 10 a).user = a.user ∧ (besideF 10 a).share = a.share := ⟨rfl, rfl⟩
    obtain ⟨hbu1, hbu2⟩ := hbu
    have CC : Hid (∀ w', Below w.heap.size w w' → Calls Tryd.prog 59 #[.slice M1 M2 M3, .func (.func 60) #[] #[]] w' fun e w2 => e = .returned (.bool (!shut a.locks)) ∧ Below w'.heap.size w' w2) := fun w' hb => fcontains_any w' M1 M2 M3 a.locks (HM.out.over hb) hml
    have hnf : nameF 10 a = (decide (besideF 10 a = zeroAsk) && shut a.locks) := by unfold nameF; rw [hk, Bool.true_and]
    rw [hnf]
    obtain ⟨b, hb⟩ : ∃ x, x = besideF 10 a := ⟨_, rfl⟩
    rw [← hb] at HI HEQ kb hbu1 hbu2 ⊢
    obtain ⟨D, hD⟩ : ∃ x, x = acells (.slice A1 A2 A3) (.slice X1 X2 X3) (.slice none 0 0) b := ⟨_, rfl⟩
    rw [← hD] at HI HEQ
    clear hb hD hk ka
    by_cases hs : shut a.locks = true
    rotate_left
    · have hsf : shut a.locks = false := by simpa using hs
      rw [hsf, Bool.and_false]
      rw [hsf] at CC
      clear hs hsf
      go_enter Tryd.func32, Tryd.ntmps32
      go_wp2_with (first
        | ((with_reducible show wpList _ _ _ (⟨some 3, _, _, _, _, _⟩ :: _) _ _); refine wpList_box_blk rfl _ (.tmp 1) rfl C0 rfl ?_; intro g w1 hg1 hg2 K1 L1; have cl := FL.out w1 g K1.out)
        | fail)
      refine (CC.out w1 L1.out).mono ?_
      rintro e v1 ⟨rfl, L9⟩
      go_wp2
      go_ret
      exact ⟨rfl, step L1.out L9⟩
    · rw [hs, Bool.and_true]
      rw [hs] at CC
      clear hs
      go_enter Tryd.func32, Tryd.ntmps32
      go_wp2_with (first
        | ((with_reducible show wpList _ _ _ (⟨some 3, _, _, _, _, _⟩ :: _) _ _); refine wpList_box_blk rfl _ (.tmp 1) rfl C0 rfl ?_; intro g w1 hg1 hg2 K1 L1; have cl := FL.out w1 g K1.out)
        | fail)
      refine (CC.out w1 L1.out).mono ?_
      rintro e v0 ⟨rfl, L9⟩
      have Kx := Lib.hid (K1.out.over L9)
      have Lx := Lib.hid (step L1.out L9)
      clear L9 cl K1 L1
      have K1 := Kx
      have L1 := Lx
      clear Kx Lx
      go_wp2_with (first
        | ((with_reducible show wpList _ _ _ (⟨none, .store _ (.tmp 33) _, _, _, _, _⟩ :: _) _ _); refine wpList_store_fld rfl _ (.tmp 33) (.const (.slice none 0 0)) rfl g 62 rfl _ C0 (.slice none 0 0) rfl K1 (Lib.hid (by have := HL.out; omega)) (by kernel_rfl) rfl ?_; intro w2 K2 O2 hq2; obtain ⟨C1, hC1⟩ : ∃ x, x = C0.set 62 (.slice none 0 0) := ⟨_, rfl⟩; have HC1 := Lib.hid hC1; have HL1 : Hid (C1.length = 69) := (by rw [hC1, List.length_set]; exact HL.out); rw [← hC1] at K2; have L2 := Lib.hid (below_only L1.out O2.out hg1); clear hC1)
        | ((with_reducible show wpList _ _ _ (⟨none, .store _ (.tmp 34) _, _, _, _, _⟩ :: _) _ _); refine wpList_store_fld rfl _ (.tmp 34) (.const (.int .u64 0)) rfl g 57 rfl _ C1 (.int .u64 0) rfl K2 (Lib.hid (by have := HL1.out; omega)) (by kernel_rfl) rfl ?_; intro w3 K3 O3 hq3; obtain ⟨C2, hC2⟩ : ∃ x, x = C1.set 57 (.int .u64 0) := ⟨_, rfl⟩; have HC2 := Lib.hid hC2; have HL2 : Hid (C2.length = 69) := (by rw [hC2, List.length_set]; exact HL1.out); rw [← hC2] at K3; have L3 := Lib.hid (below_only L2.out O3.out hg1); clear hC2)
        | ((with_reducible show wpList _ _ _ (⟨some 36, _, _, _, _, _⟩ :: _) _ _); refine wpList_load_blk rfl _ (.tmp 3) rfl g rfl _ C2 K3 69 _ Tryd.underlying32 rfl size_ask HL2 ?_)
        | fail)
      have HF : Hid (C2 = D) := by
        show _ = _
        rw [HC2.out, HC1.out]
        exact HEQ.out
      rw [HF.out]
      refine (CP.out _ D b kb hbu1 hbu2 (HI.out _ L3.out) L3.out).mono ?_
      rintro e v1 ⟨⟨v, er, rfl, her⟩, LQ⟩
      have HER := Lib.hid her
      have L99 := Lib.hid (step L3.out LQ)
      clear her LQ
      go_wp2
      go_ret
      exact ⟨ret_bool HER.out, L99.out⟩
end Go.Proofs.YtdlcjobahdmapaaDoor

namespace Go.Proofs.YtdlcjobahdmapaaDoor
set_option linter.all false
open Go.RowKit
set_option linter.unusedVariables false
set_option maxRecDepth 100000
theorem le1 (x : Int) (h0 : 0 ≤ x) (h1 : x ≤ 255) : le x 1 = [x] := by
  show [x % 256] = [x]
  rw [Int.emod_eq_of_lt h0 (by omega)]
def FPutPost (w : World) (c : Int) (a : AskV) (e : Ending) (w' : World) : Prop := ∃ v, e = .returned (.tuple #[v, .int .i64 (fpErr c a)]) ∧ OwnZ .u8 5 w' w.heap.size v (fpOf c a) ∧ Below w.heap.size w w'
set_option maxHeartbeats 4000000 in
theorem FPutAsk_any (w : World) (c : Int) (cs : List Value) (a : AskV) (hc : 0 ≤ c ∧ c ≤ 65535) (ka : a.ok) (ha : AskIs w w.heap.size cs a) (hu : a.user.size ≤ 17592186044416 ∧ a.share.size ≤ 17592186044416) (hnm : a.name.size ≤ 17592186044416) (hn : a.locks.length ≤ 4398046511104) (hT : Tabs w) :
    Calls Tryd.prog 12 #[.int .u16 c, .agg cs.toArray] w (FPutPost w c a) := by
  have HL := Lib.hid (ha.len ka)
  have HT := Lib.hid hT
  have HA := Lib.hid ha
  have CN : Hid (∀ w', Below w.heap.size w w' → Calls Tryd.prog 32 #[.int .u16 c, .agg cs.toArray] w' fun e w2 => e = .returned (.bool (nameF c a)) ∧ Below w'.heap.size w' w2) := fun w' hb => isNamedAsk_any w' c cs a hc ka (HA.out.over hb) hu hn (HT.out.below hb)
  obtain ⟨A1, A2, A3, X1, X2, X3, M1, M2, M3, hcs, hA, hX, hM⟩ := ha
  have FL : Hid (∀ (w : World) (g : Nat), Blk w g 32 cs → w.cell? ⟨g, 61, none⟩ = some (.slice X1 X2 X3) ∧ w.cell? ⟨g, 62, none⟩ = some (.slice M1 M2 M3)) := fun w g h => by
    rw [hcs] at h
    exact ⟨h.at (acells_get ka 12), h.at (acells_get ka 13)⟩
  have hxl : a.data.length = X2 := hX.len
  have hml : a.locks.length = M2 := hM.len
  have hxr := hX.room
  have HE : Hid (∀ er, fpErr c a = er → er ≠ 0 → ∀ v e w', e = .returned (.tuple #[v, .int .i64 er]) → v = .slice none 0 0 → Below w.heap.size w w' → FPutPost w c a e w') := by
    intro er h1 h2 v e w' he hv hb
    unfold FPutPost fpOf
    rw [h1, if_neg h2]
    exact ⟨_, he, by rw [hv]; exact OwnZ.nil _ _ _ _, hb⟩
  by_cases hnf : nameF c a = true
  rotate_left
  · have hnb : nameF c a = false := by simpa using hnf
    have HQ := Lib.hid (HE.out 2 (by unfold fpErr; rw [if_neg hnf]) (by decide))
    rw [hnb] at CN
    clear hnf hnb HE hA hX hM ka HA hcs hxl hml
    go_enter Tryd.func12, Tryd.ntmps12
    go_wp2_with (first
      | ((with_reducible show wpList _ _ _ (⟨some 3, _, _, _, _, _⟩ :: _) _ _); refine wpList_box_blk rfl _ (.tmp 1) rfl cs rfl ?_; intro g w1 hg1 hg2 K1 L1)
      | ((with_reducible show wpList _ _ _ (⟨some 11, _, _, _, _, _⟩ :: _) _ _); refine wpList_load_blk rfl _ (.tmp 3) rfl g rfl _ cs K1 69 _ Tryd.underlying32 rfl size_ask HL ?_)
      | fail)
    refine (CN.out w1 L1.out).mono ?_
    rintro e w2 ⟨rfl, L2⟩
    have K2 := Lib.hid (K1.out.over L2)
    have M2' := Lib.hid (step L1.out L2)
    obtain ⟨c61, c62⟩ := FL.out w2 g K2.out
    clear L2 K1 L1 CN
    go_wp2
    go_ret2
    exact HQ.out _ _ _ rfl rfl M2'.out
  by_cases hlim : X2 ≤ 32768 ∧ M2 ≤ 16
  rotate_left
  · have HQ := Lib.hid (HE.out 3 (by unfold fpErr; rw [if_pos hnf, hxl, hml, if_neg hlim]) (by decide))
    rw [hnf] at CN
    clear hnf HE hA hX hM ka HA hcs hxl hml
    by_cases hx3 : X2 ≤ 32768
    · have hm3 : ¬ M2 ≤ 16 := fun h => hlim ⟨hx3, h⟩
      clear hlim
      go_enter Tryd.func12, Tryd.ntmps12
      go_wp2_with (first
        | ((with_reducible show wpList _ _ _ (⟨some 3, _, _, _, _, _⟩ :: _) _ _); refine wpList_box_blk rfl _ (.tmp 1) rfl cs rfl ?_; intro g w1 hg1 hg2 K1 L1)
        | ((with_reducible show wpList _ _ _ (⟨some 11, _, _, _, _, _⟩ :: _) _ _); refine wpList_load_blk rfl _ (.tmp 3) rfl g rfl _ cs K1 69 _ Tryd.underlying32 rfl size_ask HL ?_)
        | fail)
      refine (CN.out w1 L1.out).mono ?_
      rintro e w2 ⟨rfl, L2⟩
      have K2 := Lib.hid (K1.out.over L2)
      have M2' := Lib.hid (step L1.out L2)
      obtain ⟨c61, c62⟩ := FL.out w2 g K2.out
      clear L2 K1 L1 CN
      go_wp2
      go_ret2
      exact HQ.out _ _ _ rfl rfl M2'.out
    · clear hlim
      go_enter Tryd.func12, Tryd.ntmps12
      go_wp2_with (first
        | ((with_reducible show wpList _ _ _ (⟨some 3, _, _, _, _, _⟩ :: _) _ _); refine wpList_box_blk rfl _ (.tmp 1) rfl cs rfl ?_; intro g w1 hg1 hg2 K1 L1)
        | ((with_reducible show wpList _ _ _ (⟨some 11, _, _, _, _, _⟩ :: _) _ _); refine wpList_load_blk rfl _ (.tmp 3) rfl g rfl _ cs K1 69 _ Tryd.underlying32 rfl size_ask HL ?_)
        | fail)
      refine (CN.out w1 L1.out).mono ?_
      rintro e w2 ⟨rfl, L2⟩
      have K2 := Lib.hid (K1.out.over L2)
      have M2' := Lib.hid (step L1.out L2)
      obtain ⟨c61, c62⟩ := FL.out w2 g K2.out
      clear L2 K1 L1 CN
      go_wp2
      go_ret2
      exact HQ.out _ _ _ rfl rfl M2'.out
  obtain ⟨hx3, hm3⟩ := hlim
  rw [hnf] at CN
  have hk : knownF c = true := by
    unfold nameF at hnf
    cases h : knownF c
    · rw [h, Bool.false_and] at hnf; exact absurd hnf (by decide)
    · rfl
  have hcc : c = 5 ∨ c = 6 ∨ c = 7 ∨ c = 8 ∨ c = 9 ∨ c = 10 := by unfold knownF at hk; simp at hk; omega
  have HOK : Hid (fpErr c a = if c = 5 then ptextErr a.name.data.toList else 0) := by
    show _ = _
    unfold fpErr
    rw [if_pos hnf, hxl, hml, if_pos ⟨hx3, hm3⟩]
  have HQ0 : Hid (fpErr c a = 0 → ∀ v e w', e = .returned (.tuple #[v, .int .i64 0]) → OwnZ .u8 5 w' w.heap.size v (bodyF c a) → Below w.heap.size w w' → FPutPost w c a e w') := by
    intro h v e w' he hv hb
    unfold FPutPost fpOf
    rw [h, if_pos rfl]
    exact ⟨_, he, hv, hb⟩
  have b_acc := ka.acc
  obtain ⟨l_acc, u_acc⟩ := b_acc
  have b_shr := ka.shr
  obtain ⟨l_shr, u_shr⟩ := b_shr
  have b_way := ka.way
  obtain ⟨l_way, u_way⟩ := b_way
  have b_opt := ka.opt
  obtain ⟨l_opt, u_opt⟩ := b_opt
  have b_lev := ka.lev
  obtain ⟨l_lev, u_lev⟩ := b_lev
  have b_dur := ka.dur
  obtain ⟨l_dur, u_dur⟩ := b_dur
  have b_file := ka.file
  obtain ⟨l_file, u_file⟩ := b_file
  have b_at_ := ka.at_
  obtain ⟨l_at_, u_at_⟩ := b_at_
  have b_n := ka.n
  obtain ⟨l_n, u_n⟩ := b_n
  have z_acc : IntKind.u64.wrap a.acc = a.acc := by rw [IntKind.wrap_u64]; omega
  have z_shr : IntKind.u64.wrap a.shr = a.shr := by rw [IntKind.wrap_u64]; omega
  have z_way : IntKind.u64.wrap a.way = a.way := by rw [IntKind.wrap_u64]; omega
  have z_opt : IntKind.u64.wrap a.opt = a.opt := by rw [IntKind.wrap_u64]; omega
  have z_n : IntKind.u64.wrap a.n = a.n := by rw [IntKind.wrap_u64]; omega
  have z_x : IntKind.u64.wrap (X2 : Int) = (X2 : Int) := by rw [IntKind.wrap_u64]; omega
  have FC : Hid (∀ (w : World) (g : Nat), Blk w g 32 cs → w.cell? ⟨g, 51, none⟩ = some (.int .u32 a.acc) ∧ w.cell? ⟨g, 52, none⟩ = some (.int .u32 a.shr) ∧ w.cell? ⟨g, 53, none⟩ = some (.int .u32 a.way) ∧ w.cell? ⟨g, 54, none⟩ = some (.int .u32 a.opt) ∧ w.cell? ⟨g, 55, none⟩ = some (.int .u8 a.lev) ∧ w.cell? ⟨g, 56, none⟩ = some (.int .u8 a.dur) ∧ w.cell? ⟨g, 57, none⟩ = some (.int .u64 a.file) ∧ w.cell? ⟨g, 58, none⟩ = some (.string a.name) ∧ w.cell? ⟨g, 59, none⟩ = some (.int .u64 a.at_) ∧ w.cell? ⟨g, 60, none⟩ = some (.int .u32 a.n)) := fun w g h => by
    rw [hcs] at h
    exact ⟨h.at (acells_get ka 2), h.at (acells_get ka 3), h.at (acells_get ka 4), h.at (acells_get ka 5), h.at (acells_get ka 6), h.at (acells_get ka 7), h.at (acells_get ka 8), h.at (acells_get ka 9), h.at (acells_get ka 10), h.at (acells_get ka 11)⟩
  have CC : Hid (∀ (w : World) (gs m : Nat) (A : Nat → Option Addr) (n c : Nat → Nat) (X : Nat → List Int), Parts w gs m A n c X → m ≤ 1000 → sumN n m ≤ 140737488355328 → Calls Tryd.prog 35 #[.slice (some ⟨gs, 0, none⟩) m m] w fun e w' => ∃ v, e = .returned v ∧ OwnZ .u8 5 w' w.heap.size v (catL X m) ∧ Below w.heap.size w w') := ConcatZ_any
  have CF8 : Hid (∀ (w : World) (gl : Nat), Blk w gl 28 [.int .u64 a.file] → Calls Tryd.prog 33 #[.int .i64 8, .slice (some ⟨gl, 0, none⟩) 1 1] w fun e w' => ∃ A' c', e = .returned (.slice A' 8 c') ∧ (OwnZ .u8 5 w' w.heap.size (.slice A' 8 c') (le a.file 8) ∧ Holds w' w'.heap.size A' 8 c' (le a.file 8)) ∧ Below w.heap.size w w') := fun w gl hB => by
    have h := nums_at w gl 1 8 ([a.file] : List Int) hB rfl (by decide) (by decide) (fun z hz => by
      rw [show (256 : Int) ^ 8 = 18446744073709551616 from by decide]
      simp only [List.mem_cons, List.not_mem_nil, or_false] at hz
      rw [hz]; omega)
    have e1 : numsB 8 ([a.file] : List Int) = le a.file 8 := by simp [numsB]
    rw [e1] at h
    have e2 : (le a.file 8).length = 8 := by simp [le_length]
    rw [e2] at h
    exact h
  have HX := Lib.hid hX
  have HM := Lib.hid hM
  clear HE hA hX hM HA hcs hnf hxl hml hk
  rcases hcc with h5 | h6 | h7 | h8 | h9 | h10
  · subst h5
    rw [if_pos rfl] at HOK
    have CT : Hid (∀ w', Below w.heap.size w w' → Calls Tryd.prog 34 #[.string a.name] w' fun e w2 => (∃ v, e = .returned (.tuple #[v, .int .i64 (ptextErr a.name.data.toList)]) ∧ OwnZ .u8 5 w2 w'.heap.size v (ptextOf a.name.data.toList)) ∧ Below w'.heap.size w' w2) := fun w' hb => (PutTextB_any a.name w' hnm (HT.out.below hb)).mono fun e w2 ⟨v, h1, h2, h3⟩ => ⟨⟨v, h1, h2⟩, h3⟩
    by_cases hp : ptextErr a.name.data.toList = 0
    rotate_left
    · have HQ : Hid (∀ e w', e = .returned (.tuple #[.slice none 0 0, .int .i64 (ptextErr a.name.data.toList)]) → Below w.heap.size w w' → FPutPost w 5 a e w') := by
        intro e w' he hb
        unfold FPutPost fpOf
        rw [HOK.out, if_neg hp]
        exact ⟨_, he, OwnZ.nil _ _ _ _, hb⟩
      obtain ⟨er, her⟩ : ∃ x, x = ptextErr a.name.data.toList := ⟨_, rfl⟩
      rw [← her] at CT HQ hp
      have hne : (er != 0) = true := by simpa using hp
      clear her hp HOK HQ0
      go_enter Tryd.func12, Tryd.ntmps12
      go_wp2_with (first
        | ((with_reducible show wpList _ _ _ (⟨some 3, _, _, _, _, _⟩ :: _) _ _); refine wpList_box_blk rfl _ (.tmp 1) rfl cs rfl ?_; intro g w1 hg1 hg2 K1 L1)
        | ((with_reducible show wpList _ _ _ (⟨some 11, _, _, _, _, _⟩ :: _) _ _); refine wpList_load_blk rfl _ (.tmp 3) rfl g rfl _ cs K1 69 _ Tryd.underlying32 rfl size_ask HL ?_)
        | fail)
      refine (CN.out w1 L1.out).mono ?_
      rintro e w2 ⟨rfl, L2⟩
      have K2 := Lib.hid (K1.out.over L2)
      have M2' := Lib.hid (step L1.out L2)
      obtain ⟨c61, c62⟩ := FL.out w2 g K2.out
      clear L2 K1 L1 CN
      obtain ⟨c51, c52, c53, c54, c55, c56, c57, c58, c59, c60⟩ := FC.out w2 g K2.out
      go_wp2_with (first
        | ((with_reducible show wpList _ _ _ (⟨some 26, _, _, _, _, _⟩ :: _) _ _); refine wpList_slice_blk rfl _ _ 1 _ rfl Tryd.underlying93 ([.int .u64 a.file] : List Value) (by kernel_rfl) ?_; intro g3 w3 hg5 hg6 Y3 L3)
        | fail)
      refine (CF8.out w3 g3 Y3.out).mono ?_
      rintro e w4 ⟨Af, cf, rfl, ⟨hOf, hHf⟩, L4⟩
      have HF := Lib.hid hHf
      have K4 := Lib.hid ((K2.out.over L3.out).over L4)
      have M4 := Lib.hid (step (step M2'.out L3.out) L4)
      have OF := Lib.hid (OwnZ.mono hOf (Nat.le_trans M2'.out.size L3.out.size))
      have HXD := Lib.hid (HX.out.over M4.out)
      have hs4 := M4.out.size
      clear hHf hOf L4 L3 Y3 K2 M2' c51 c52 c53 c54 c55 c56 c57 c58 c59 c60 c61 c62 CF8
      obtain ⟨c51, c52, c53, c54, c55, c56, c57, c58, c59, c60⟩ := FC.out w4 g K4.out
      go_wp2_with fail
      refine (CT.out w4 M4.out).mono ?_
      rintro e w5 ⟨⟨v, rfl, hv⟩, L5⟩
      have M5 := Lib.hid (step M4.out L5)
      clear hv L5
      go_wp2
      go_ret2
      exact HQ.out _ _ rfl M5.out
    · have HQ := Lib.hid (HQ0.out (by rw [HOK.out, hp]))
      rw [hp] at CT
      have hb5 : bodyF 5 a = (le a.acc 4 ++ (le a.shr 4 ++ (le a.way 4 ++ le a.opt 4))) ++ ([a.lev, a.dur] ++ (List.replicate 2 0 ++ (le a.file 8 ++ ptextOf a.name.data.toList))) := by
        unfold bodyF
        rw [if_pos rfl, le1 a.lev l_lev u_lev, le1 a.dur l_dur u_dur]
        simp only [List.append_assoc, List.cons_append, List.nil_append]
      rw [hb5] at HQ
      have CM4 : Hid (∀ (w : World) (gl : Nat), Blk w gl 28 [.int .u64 a.acc, .int .u64 a.shr, .int .u64 a.way, .int .u64 a.opt] → Calls Tryd.prog 33 #[.int .i64 4, .slice (some ⟨gl, 0, none⟩) 4 4] w fun e w' => ∃ A' c', e = .returned (.slice A' 16 c') ∧ (OwnZ .u8 5 w' w.heap.size (.slice A' 16 c') (le a.acc 4 ++ (le a.shr 4 ++ (le a.way 4 ++ le a.opt 4))) ∧ Holds w' w'.heap.size A' 16 c' (le a.acc 4 ++ (le a.shr 4 ++ (le a.way 4 ++ le a.opt 4)))) ∧ Below w.heap.size w w') := fun w gl hB => by
        have h := nums_at w gl 4 4 ([a.acc, a.shr, a.way, a.opt] : List Int) hB rfl (by decide) (by decide) (fun z hz => by
          rw [show (256 : Int) ^ 4 = 4294967296 from by decide]
          simp only [List.mem_cons, List.not_mem_nil, or_false] at hz
          rcases hz with hz | hz | hz | hz <;> omega)
        have e1 : numsB 4 ([a.acc, a.shr, a.way, a.opt] : List Int) = le a.acc 4 ++ (le a.shr 4 ++ (le a.way 4 ++ le a.opt 4)) := by simp [numsB]
        rw [e1] at h
        have e2 : (le a.acc 4 ++ (le a.shr 4 ++ (le a.way 4 ++ le a.opt 4))).length = 16 := by simp [le_length]
        rw [e2] at h
        exact h
      have HLT : Hid ((ptextOf a.name.data.toList).length ≤ 514 ∧ Bytes (ptextOf a.name.data.toList)) := ⟨rowOf_le _, ptextOf_bytes _⟩
      obtain ⟨tx, htx⟩ : ∃ x, x = ptextOf a.name.data.toList := ⟨_, rfl⟩
      rw [← htx] at CT HQ HLT
      obtain ⟨f8, hf8⟩ : ∃ x, x = le a.file 8 := ⟨_, rfl⟩
      rw [← hf8] at CF8 HQ
      obtain ⟨m4, hm4⟩ : ∃ x, x = le a.acc 4 ++ (le a.shr 4 ++ (le a.way 4 ++ le a.opt 4)) := ⟨_, rfl⟩
      rw [← hm4] at CM4 HQ
      have hld : Bytes [a.lev, a.dur] := by
        intro x hx
        simp only [List.mem_cons, List.not_mem_nil, or_false] at hx
        rcases hx with hx | hx <;> omega
      have HLD := Lib.hid hld
      obtain ⟨hlt, hlb⟩ := HLT.out
      obtain ⟨lt, hltx⟩ : ∃ x, x = tx.length := ⟨_, rfl⟩
      have HLTX := Lib.hid hltx
      rw [← hltx] at hlt
      clear htx hf8 hm4 hp HOK HQ0 hb5 hltx hld
      go_enter Tryd.func12, Tryd.ntmps12
      go_wp2_with (first
        | ((with_reducible show wpList _ _ _ (⟨some 3, _, _, _, _, _⟩ :: _) _ _); refine wpList_box_blk rfl _ (.tmp 1) rfl cs rfl ?_; intro g w1 hg1 hg2 K1 L1)
        | ((with_reducible show wpList _ _ _ (⟨some 11, _, _, _, _, _⟩ :: _) _ _); refine wpList_load_blk rfl _ (.tmp 3) rfl g rfl _ cs K1 69 _ Tryd.underlying32 rfl size_ask HL ?_)
        | fail)
      refine (CN.out w1 L1.out).mono ?_
      rintro e w2 ⟨rfl, L2⟩
      have K2 := Lib.hid (K1.out.over L2)
      have M2' := Lib.hid (step L1.out L2)
      obtain ⟨c61, c62⟩ := FL.out w2 g K2.out
      clear L2 K1 L1 CN
      obtain ⟨c51, c52, c53, c54, c55, c56, c57, c58, c59, c60⟩ := FC.out w2 g K2.out
      go_wp2_with (first
        | ((with_reducible show wpList _ _ _ (⟨some 26, _, _, _, _, _⟩ :: _) _ _); refine wpList_slice_blk rfl _ _ 1 _ rfl Tryd.underlying93 ([.int .u64 a.file] : List Value) (by kernel_rfl) ?_; intro g3 w3 hg5 hg6 Y3 L3)
        | fail)
      refine (CF8.out w3 g3 Y3.out).mono ?_
      rintro e w4 ⟨Af, cf, rfl, ⟨hOf, hHf⟩, L4⟩
      have HF := Lib.hid hHf
      have K4 := Lib.hid ((K2.out.over L3.out).over L4)
      have M4 := Lib.hid (step (step M2'.out L3.out) L4)
      have OF := Lib.hid (OwnZ.mono hOf (Nat.le_trans M2'.out.size L3.out.size))
      have HXD := Lib.hid (HX.out.over M4.out)
      have hs4 := M4.out.size
      clear hHf hOf L4 L3 Y3 K2 M2' c51 c52 c53 c54 c55 c56 c57 c58 c59 c60 c61 c62 CF8
      obtain ⟨c51, c52, c53, c54, c55, c56, c57, c58, c59, c60⟩ := FC.out w4 g K4.out
      go_wp2_with fail
      refine (CT.out w4 M4.out).mono ?_
      rintro e w5 ⟨⟨v, rfl, hv⟩, L5⟩
      obtain ⟨At, ct, rfl, hHt⟩ := OwnZ.holds8 hv hlb (by rw [← HLTX.out]; omega)
      rw [← HLTX.out] at hHt ⊢
      have HTX := Lib.hid hHt
      have K5 := Lib.hid (K4.out.over L5)
      have M5 := Lib.hid (step M4.out L5)
      have HF5 := Lib.hid (HF.out.over L5)
      clear hv hHt L5 K4 M4 HF OF HXD c51 c52 c53 c54 c55 c56 c57 c58 c59 c60
      obtain ⟨c51, c52, c53, c54, c55, c56, c57, c58, c59, c60⟩ := FC.out w5 g K5.out
      go_wp2_with (first
        | ((with_reducible show wpList _ _ _ (⟨some 52, _, _, _, _, _⟩ :: _) _ _); refine wpList_slice_blk rfl _ _ 4 _ rfl Tryd.underlying93 ([.int .u64 a.acc, .int .u64 a.shr, .int .u64 a.way, .int .u64 a.opt] : List Value) (by kernel_rfl) ?_; intro g6 w6 hg7 hg8 Y6 L6)
        | fail)
      refine (CM4.out w6 g6 Y6.out).mono ?_
      rintro e w7 ⟨Am, cm, rfl, ⟨_, hHm⟩, L7⟩
      have HMM := Lib.hid hHm
      have K7 := Lib.hid ((K5.out.over L6.out).over L7)
      have M7 := Lib.hid (step (step M5.out L6.out) L7)
      have HF7 := Lib.hid ((HF5.out.over L6.out).over L7)
      have HTX7 := Lib.hid ((HTX.out.over L6.out).over L7)
      have hs7 := M7.out.size
      clear hHm L6 L7 Y6 K5 M5 HF5 HTX c51 c52 c53 c54 c55 c56 c57 c58 c59 c60
      go_upto_region 12 with fail
      refine wp_region_held (S := fun w' => Blk w' g 32 cs) (by kernel_rfl) ?_
      change wpAnyH _ _ _ _ _ _ _ _ w7.drew
      have S0 : Hid (Blk w7.drew g 32 cs) := K7.out.drew
      have b0 : Hid (Below w.heap.size w w7.drew) := M7.out.drew
      have HMM_0 := Lib.hid (HMM.out.drew)
      have HF_0 := Lib.hid (HF7.out.drew)
      have HTX_0 := Lib.hid (HTX7.out.drew)
      refine wpAnyH_take (i := 0) (v := _) rfl (by kernel_rfl) (by kernel_rfl) (by kernel_rfl) (fun _ _ _ h => h) (yieldsIf_move (by kernel_rfl) (.tmp 9) rfl (.slice Am 16 cm) (by kernel_rfl)) S0.out ?_
      refine wpAnyH_take (i := 1) (v := _) rfl (by kernel_rfl) (by kernel_rfl) (by kernel_rfl) (fun _ _ _ h => h) (yieldsIf_fld (by kernel_rfl) _ (.tmp 3) 9 rfl (.pointer (some ⟨g, 0, none⟩)) (.pointer (some ⟨g, 55, none⟩)) (by kernel_rfl) (fld_isZeroAsk_9 g)) S0.out ?_
      refine wpAnyH_take (i := 2) (v := _) rfl (by kernel_rfl) (by kernel_rfl) (by kernel_rfl) (fun _ _ _ h => h) (yieldsIf_load_one (by kernel_rfl) _ (.tmp 55) rfl g 55 (by kernel_rfl) (.int .u8 a.lev) (fun w h => (FC.out w g h).2.2.2.2.1) _ Tryd.underlying5 rfl) S0.out ?_
      refine wpAnyH_take (i := 3) (v := _) rfl (by kernel_rfl) (by kernel_rfl) (by kernel_rfl) (fun _ _ _ h => h) (yieldsIf_fld (by kernel_rfl) _ (.tmp 3) 10 rfl (.pointer (some ⟨g, 0, none⟩)) (.pointer (some ⟨g, 56, none⟩)) (by kernel_rfl) (fld_isZeroAsk_10 g)) S0.out ?_
      refine wpAnyH_take (i := 4) (v := _) rfl (by kernel_rfl) (by kernel_rfl) (by kernel_rfl) (fun _ _ _ h => h) (yieldsIf_load_one (by kernel_rfl) _ (.tmp 57) rfl g 56 (by kernel_rfl) (.int .u8 a.dur) (fun w h => (FC.out w g h).2.2.2.2.2.1) _ Tryd.underlying5 rfl) S0.out ?_
      refine wpAnyH_take (i := 7) (v := _) rfl (by kernel_rfl) (by kernel_rfl) (by kernel_rfl) (fun _ _ _ h => h) (yieldsIf_move (by kernel_rfl) (.tmp 6) rfl (.slice Af 8 cf) (by kernel_rfl)) S0.out ?_
      refine wpAnyH_take (i := 8) (v := _) rfl (by kernel_rfl) (by kernel_rfl) (by kernel_rfl) (fun _ _ _ h => h) (yieldsIf_move (by kernel_rfl) (.tmp 7) rfl (.slice At lt ct) (by kernel_rfl)) S0.out ?_
      refine wpAnyH_frame fun fr1 hfr1 => ?_
      refine wpAnyH_two 5 6 _ _ (by kernel_rfl) rfl rfl (fun K hK => ?_) (fun K hK => ?_)
      · skip
        refine step_slice_blk rfl _ _ 2 _ rfl Tryd.underlying29 ([.int .u8 a.lev, .int .u8 a.dur] : List Value) (by rw [hfr1]; kernel_rfl) ?_
        intro g2 wt2 qa qb Y02 L2
        have Y2 := Lib.hid (Holds.of_lit (xs := [a.lev, a.dur]) Y02.out HLD.out)
        clear Y02
        have S2 := Lib.hid (S0.out.over L2.out)
        have b2 := Lib.hid (step b0.out L2.out)
        have HMM_2 := Lib.hid (HMM_0.out.over L2.out)
        have HF_2 := Lib.hid (HF_0.out.over L2.out)
        have HTX_2 := Lib.hid (HTX_0.out.over L2.out)
        refine hK _ _ S2.out ?_
        clear hK K
        subst hfr1
        refine wpAnyH_one 6 _ (by kernel_rfl) rfl fun K hK => ?_
        refine step_make_bytes rfl _ _ rfl 2 rfl rfl (by omega) ?_
        intro wt3 R3 L3
        have Y3 := Lib.hid (Fresh.holds (base := 0) (.inr ⟨_, rfl, Nat.zero_le _, R3.out⟩) (by rfl : (List.replicate 2 (0 : Int)).length = 2) (Bytes.zeros 2) (by omega))
        clear R3
        have S3 := Lib.hid (S2.out.over L3.out)
        have b3 := Lib.hid (step b2.out L3.out)
        have HMM_3 := Lib.hid (HMM_2.out.over L3.out)
        have HF_3 := Lib.hid (HF_2.out.over L3.out)
        have HTX_3 := Lib.hid (HTX_2.out.over L3.out)
        have u2_3 := Lib.hid (Y2.out.over L3.out)
        refine hK _ _ S3.out ?_
        clear hK K
        refine wpAnyH_frame fun fr4 hfr4 => ?_
        refine wpAnyH_one 9 _ (by kernel_rfl) rfl fun K hK => ?_
        refine step_slice_blk rfl _ _ 5 _ rfl Tryd.underlying96 ([.slice Am 16 cm, .slice (some ⟨g2, 0, none⟩) 2 2, .slice (some ⟨wt2.heap.size, 0, none⟩) 2 2, .slice Af 8 cf, .slice At lt ct] : List Value) (by rw [hfr4]; kernel_rfl) ?_
        intro g5 wt5 qa qb Y05 L5
        have Y5 : Hid (Parts wt5 g5 5 (partA [(Am, 16, cm, m4), ((some ⟨g2, 0, none⟩), 2, 2, [a.lev, a.dur]), ((some ⟨wt2.heap.size, 0, none⟩), 2, 2, List.replicate 2 0), (Af, 8, cf, f8), (At, lt, ct, tx)]) (partN [(Am, 16, cm, m4), ((some ⟨g2, 0, none⟩), 2, 2, [a.lev, a.dur]), ((some ⟨wt2.heap.size, 0, none⟩), 2, 2, List.replicate 2 0), (Af, 8, cf, f8), (At, lt, ct, tx)]) (partC [(Am, 16, cm, m4), ((some ⟨g2, 0, none⟩), 2, 2, [a.lev, a.dur]), ((some ⟨wt2.heap.size, 0, none⟩), 2, 2, List.replicate 2 0), (Af, 8, cf, f8), (At, lt, ct, tx)]) (partX [(Am, 16, cm, m4), ((some ⟨g2, 0, none⟩), 2, 2, [a.lev, a.dur]), ((some ⟨wt2.heap.size, 0, none⟩), 2, 2, List.replicate 2 0), (Af, 8, cf, f8), (At, lt, ct, tx)])) := Parts.of_blk [(Am, 16, cm, m4), ((some ⟨g2, 0, none⟩), 2, 2, [a.lev, a.dur]), ((some ⟨wt2.heap.size, 0, none⟩), 2, 2, List.replicate 2 0), (Af, 8, cf, f8), (At, lt, ct, tx)] Y05.out (List.forall_mem_cons.2 ⟨HMM_3.out.over L5.out, List.forall_mem_cons.2 ⟨u2_3.out.over L5.out, List.forall_mem_cons.2 ⟨Y3.out.over L5.out, List.forall_mem_cons.2 ⟨HF_3.out.over L5.out, List.forall_mem_cons.2 ⟨HTX_3.out.over L5.out, fun _ h => by cases h⟩⟩⟩⟩⟩)
        clear Y05
        have S5 := Lib.hid (S3.out.over L5.out)
        have b5 := Lib.hid (step b3.out L5.out)
        refine hK _ _ S5.out ?_
        clear hK K
        subst hfr4
        refine wpAnyH_one 10 _ (by kernel_rfl) rfl fun K hK => ?_
        go_simp
        refine (CC.out _ g5 5 _ _ _ _ Y5.out (by omega) (by show 0 + 16 + 2 + 2 + 8 + lt ≤ _; omega)).mono ?_
        rintro e wt6 ⟨v, rfl, hY6, L06⟩
        have OUT := Lib.hid hY6
        have L6 := Lib.hid L06
        clear hY6 L06
        have hsz0 := b5.out.size
        have S6 := Lib.hid (S5.out.over L6.out)
        have b6 := Lib.hid (step b5.out L6.out)
        refine hK _ _ S6.out ?_
        clear hK K
        refine wpAnyH_one 11 _ (by kernel_rfl) rfl fun K hK => ?_
        go_simp
        refine hK _ _ S6.out ?_
        clear hK K
        refine wpAnyH_one 12 _ (by kernel_rfl) rfl fun K hK => ?_
        go_simp
        refine hK _ _ S6.out ?_
        clear hK K
        refine wpAnyH_done (by kernel_rfl) ?_ _
        have HO6 := Lib.hid (OwnZ.mono OUT.out (Nat.le_trans (hsz0) (Nat.le_refl _)))
        go_wp2
        go_ret2
        refine HQ.out _ _ _ rfl ?_ b6.out
        have h9 := HO6.out
        simpa [catL, partX, List.append_assoc] using h9
      · skip
        subst hfr1
        refine step_make_bytes rfl _ _ rfl 2 rfl rfl (by omega) ?_
        intro wt9 R9 L9
        have Y9 := Lib.hid (Fresh.holds (base := 0) (.inr ⟨_, rfl, Nat.zero_le _, R9.out⟩) (by rfl : (List.replicate 2 (0 : Int)).length = 2) (Bytes.zeros 2) (by omega))
        clear R9
        have S9 := Lib.hid (S0.out.over L9.out)
        have b9 := Lib.hid (step b0.out L9.out)
        have HMM_9 := Lib.hid (HMM_0.out.over L9.out)
        have HF_9 := Lib.hid (HF_0.out.over L9.out)
        have HTX_9 := Lib.hid (HTX_0.out.over L9.out)
        refine hK _ _ S9.out ?_
        clear hK K
        refine wpAnyH_frame fun fr10 hfr10 => ?_
        refine wpAnyH_one 5 _ (by kernel_rfl) rfl fun K hK => ?_
        refine step_slice_blk rfl _ _ 2 _ rfl Tryd.underlying29 ([.int .u8 a.lev, .int .u8 a.dur] : List Value) (by rw [hfr10]; kernel_rfl) ?_
        intro g11 wt11 qa qb Y011 L11
        have Y11 := Lib.hid (Holds.of_lit (xs := [a.lev, a.dur]) Y011.out HLD.out)
        clear Y011
        have S11 := Lib.hid (S9.out.over L11.out)
        have b11 := Lib.hid (step b9.out L11.out)
        have HMM_11 := Lib.hid (HMM_9.out.over L11.out)
        have HF_11 := Lib.hid (HF_9.out.over L11.out)
        have HTX_11 := Lib.hid (HTX_9.out.over L11.out)
        have nE_11 := Lib.hid (Y9.out.over L11.out)
        refine hK _ _ S11.out ?_
        clear hK K
        subst hfr10
        refine wpAnyH_frame fun fr12 hfr12 => ?_
        refine wpAnyH_one 9 _ (by kernel_rfl) rfl fun K hK => ?_
        refine step_slice_blk rfl _ _ 5 _ rfl Tryd.underlying96 ([.slice Am 16 cm, .slice (some ⟨g11, 0, none⟩) 2 2, .slice (some ⟨w7.drew.heap.size, 0, none⟩) 2 2, .slice Af 8 cf, .slice At lt ct] : List Value) (by rw [hfr12]; kernel_rfl) ?_
        intro g13 wt13 qa qb Y013 L13
        have Y13 : Hid (Parts wt13 g13 5 (partA [(Am, 16, cm, m4), ((some ⟨g11, 0, none⟩), 2, 2, [a.lev, a.dur]), ((some ⟨w7.drew.heap.size, 0, none⟩), 2, 2, List.replicate 2 0), (Af, 8, cf, f8), (At, lt, ct, tx)]) (partN [(Am, 16, cm, m4), ((some ⟨g11, 0, none⟩), 2, 2, [a.lev, a.dur]), ((some ⟨w7.drew.heap.size, 0, none⟩), 2, 2, List.replicate 2 0), (Af, 8, cf, f8), (At, lt, ct, tx)]) (partC [(Am, 16, cm, m4), ((some ⟨g11, 0, none⟩), 2, 2, [a.lev, a.dur]), ((some ⟨w7.drew.heap.size, 0, none⟩), 2, 2, List.replicate 2 0), (Af, 8, cf, f8), (At, lt, ct, tx)]) (partX [(Am, 16, cm, m4), ((some ⟨g11, 0, none⟩), 2, 2, [a.lev, a.dur]), ((some ⟨w7.drew.heap.size, 0, none⟩), 2, 2, List.replicate 2 0), (Af, 8, cf, f8), (At, lt, ct, tx)])) := Parts.of_blk [(Am, 16, cm, m4), ((some ⟨g11, 0, none⟩), 2, 2, [a.lev, a.dur]), ((some ⟨w7.drew.heap.size, 0, none⟩), 2, 2, List.replicate 2 0), (Af, 8, cf, f8), (At, lt, ct, tx)] Y013.out (List.forall_mem_cons.2 ⟨HMM_11.out.over L13.out, List.forall_mem_cons.2 ⟨Y11.out.over L13.out, List.forall_mem_cons.2 ⟨nE_11.out.over L13.out, List.forall_mem_cons.2 ⟨HF_11.out.over L13.out, List.forall_mem_cons.2 ⟨HTX_11.out.over L13.out, fun _ h => by cases h⟩⟩⟩⟩⟩)
        clear Y013
        have S13 := Lib.hid (S11.out.over L13.out)
        have b13 := Lib.hid (step b11.out L13.out)
        refine hK _ _ S13.out ?_
        clear hK K
        subst hfr12
        refine wpAnyH_one 10 _ (by kernel_rfl) rfl fun K hK => ?_
        go_simp
        refine (CC.out _ g13 5 _ _ _ _ Y13.out (by omega) (by show 0 + 16 + 2 + 2 + 8 + lt ≤ _; omega)).mono ?_
        rintro e wt14 ⟨v, rfl, hY14, L014⟩
        have OUT := Lib.hid hY14
        have L14 := Lib.hid L014
        clear hY14 L014
        have hsz0 := b13.out.size
        have S14 := Lib.hid (S13.out.over L14.out)
        have b14 := Lib.hid (step b13.out L14.out)
        refine hK _ _ S14.out ?_
        clear hK K
        refine wpAnyH_one 11 _ (by kernel_rfl) rfl fun K hK => ?_
        go_simp
        refine hK _ _ S14.out ?_
        clear hK K
        refine wpAnyH_one 12 _ (by kernel_rfl) rfl fun K hK => ?_
        go_simp
        refine hK _ _ S14.out ?_
        clear hK K
        refine wpAnyH_done (by kernel_rfl) ?_ _
        have HO6 := Lib.hid (OwnZ.mono OUT.out (Nat.le_trans (hsz0) (Nat.le_refl _)))
        go_wp2
        go_ret2
        refine HQ.out _ _ _ rfl ?_ b14.out
        have h9 := HO6.out
        simpa [catL, partX, List.append_assoc] using h9
  · subst h6
    rw [if_neg (by decide)] at HOK
    have HQ := Lib.hid (HQ0.out HOK.out)
    have hb0 : bodyF 6 a = le a.file 8 := rfl
    rw [hb0] at HQ
    obtain ⟨f8, hf8⟩ : ∃ x, x = le a.file 8 := ⟨_, rfl⟩
    rw [← hf8] at CF8 HQ
    clear hf8 HOK HQ0 hb0
    go_enter Tryd.func12, Tryd.ntmps12
    go_wp2_with (first
      | ((with_reducible show wpList _ _ _ (⟨some 3, _, _, _, _, _⟩ :: _) _ _); refine wpList_box_blk rfl _ (.tmp 1) rfl cs rfl ?_; intro g w1 hg1 hg2 K1 L1)
      | ((with_reducible show wpList _ _ _ (⟨some 11, _, _, _, _, _⟩ :: _) _ _); refine wpList_load_blk rfl _ (.tmp 3) rfl g rfl _ cs K1 69 _ Tryd.underlying32 rfl size_ask HL ?_)
      | fail)
    refine (CN.out w1 L1.out).mono ?_
    rintro e w2 ⟨rfl, L2⟩
    have K2 := Lib.hid (K1.out.over L2)
    have M2' := Lib.hid (step L1.out L2)
    obtain ⟨c61, c62⟩ := FL.out w2 g K2.out
    clear L2 K1 L1 CN
    obtain ⟨c51, c52, c53, c54, c55, c56, c57, c58, c59, c60⟩ := FC.out w2 g K2.out
    go_wp2_with (first
      | ((with_reducible show wpList _ _ _ (⟨some 26, _, _, _, _, _⟩ :: _) _ _); refine wpList_slice_blk rfl _ _ 1 _ rfl Tryd.underlying93 ([.int .u64 a.file] : List Value) (by kernel_rfl) ?_; intro g3 w3 hg5 hg6 Y3 L3)
      | fail)
    refine (CF8.out w3 g3 Y3.out).mono ?_
    rintro e w4 ⟨Af, cf, rfl, ⟨hOf, hHf⟩, L4⟩
    have HF := Lib.hid hHf
    have K4 := Lib.hid ((K2.out.over L3.out).over L4)
    have M4 := Lib.hid (step (step M2'.out L3.out) L4)
    have OF := Lib.hid (OwnZ.mono hOf (Nat.le_trans M2'.out.size L3.out.size))
    have HXD := Lib.hid (HX.out.over M4.out)
    have hs4 := M4.out.size
    clear hHf hOf L4 L3 Y3 K2 M2' c51 c52 c53 c54 c55 c56 c57 c58 c59 c60 c61 c62 CF8
    go_wp2
    go_ret2
    exact HQ.out _ _ _ rfl OF.out M4.out
  · subst h7
    rw [if_neg (by decide)] at HOK
    have HQ := Lib.hid (HQ0.out HOK.out)
    have hb0 : bodyF 7 a = le a.file 8 := rfl
    rw [hb0] at HQ
    obtain ⟨f8, hf8⟩ : ∃ x, x = le a.file 8 := ⟨_, rfl⟩
    rw [← hf8] at CF8 HQ
    clear hf8 HOK HQ0 hb0
    go_enter Tryd.func12, Tryd.ntmps12
    go_wp2_with (first
      | ((with_reducible show wpList _ _ _ (⟨some 3, _, _, _, _, _⟩ :: _) _ _); refine wpList_box_blk rfl _ (.tmp 1) rfl cs rfl ?_; intro g w1 hg1 hg2 K1 L1)
      | ((with_reducible show wpList _ _ _ (⟨some 11, _, _, _, _, _⟩ :: _) _ _); refine wpList_load_blk rfl _ (.tmp 3) rfl g rfl _ cs K1 69 _ Tryd.underlying32 rfl size_ask HL ?_)
      | fail)
    refine (CN.out w1 L1.out).mono ?_
    rintro e w2 ⟨rfl, L2⟩
    have K2 := Lib.hid (K1.out.over L2)
    have M2' := Lib.hid (step L1.out L2)
    obtain ⟨c61, c62⟩ := FL.out w2 g K2.out
    clear L2 K1 L1 CN
    obtain ⟨c51, c52, c53, c54, c55, c56, c57, c58, c59, c60⟩ := FC.out w2 g K2.out
    go_wp2_with (first
      | ((with_reducible show wpList _ _ _ (⟨some 26, _, _, _, _, _⟩ :: _) _ _); refine wpList_slice_blk rfl _ _ 1 _ rfl Tryd.underlying93 ([.int .u64 a.file] : List Value) (by kernel_rfl) ?_; intro g3 w3 hg5 hg6 Y3 L3)
      | fail)
    refine (CF8.out w3 g3 Y3.out).mono ?_
    rintro e w4 ⟨Af, cf, rfl, ⟨hOf, hHf⟩, L4⟩
    have HF := Lib.hid hHf
    have K4 := Lib.hid ((K2.out.over L3.out).over L4)
    have M4 := Lib.hid (step (step M2'.out L3.out) L4)
    have OF := Lib.hid (OwnZ.mono hOf (Nat.le_trans M2'.out.size L3.out.size))
    have HXD := Lib.hid (HX.out.over M4.out)
    have hs4 := M4.out.size
    clear hHf hOf L4 L3 Y3 K2 M2' c51 c52 c53 c54 c55 c56 c57 c58 c59 c60 c61 c62 CF8
    go_wp2
    go_ret2
    exact HQ.out _ _ _ rfl OF.out M4.out
  · subst h8
    rw [if_neg (by decide)] at HOK
    have HQ := Lib.hid (HQ0.out HOK.out)
    have hb0 : bodyF 8 a = le a.file 8 ++ (le a.at_ 8 ++ le a.n 4) := rfl
    rw [hb0] at HQ
    have CA8 : Hid (∀ (w : World) (gl : Nat), Blk w gl 28 [.int .u64 a.at_] → Calls Tryd.prog 33 #[.int .i64 8, .slice (some ⟨gl, 0, none⟩) 1 1] w fun e w' => ∃ A' c', e = .returned (.slice A' 8 c') ∧ (OwnZ .u8 5 w' w.heap.size (.slice A' 8 c') (le a.at_ 8) ∧ Holds w' w'.heap.size A' 8 c' (le a.at_ 8)) ∧ Below w.heap.size w w') := fun w gl hB => by
      have h := nums_at w gl 1 8 ([a.at_] : List Int) hB rfl (by decide) (by decide) (fun z hz => by
        rw [show (256 : Int) ^ 8 = 18446744073709551616 from by decide]
        simp only [List.mem_cons, List.not_mem_nil, or_false] at hz
        rw [hz]; omega)
      have e1 : numsB 8 ([a.at_] : List Int) = le a.at_ 8 := by simp [numsB]
      rw [e1] at h
      have e2 : (le a.at_ 8).length = 8 := by simp [le_length]
      rw [e2] at h
      exact h
    have CN4 : Hid (∀ (w : World) (gl : Nat), Blk w gl 28 [.int .u64 a.n] → Calls Tryd.prog 33 #[.int .i64 4, .slice (some ⟨gl, 0, none⟩) 1 1] w fun e w' => ∃ A' c', e = .returned (.slice A' 4 c') ∧ (OwnZ .u8 5 w' w.heap.size (.slice A' 4 c') (le a.n 4) ∧ Holds w' w'.heap.size A' 4 c' (le a.n 4)) ∧ Below w.heap.size w w') := fun w gl hB => by
      have h := nums_at w gl 1 4 ([a.n] : List Int) hB rfl (by decide) (by decide) (fun z hz => by
        rw [show (256 : Int) ^ 4 = 4294967296 from by decide]
        simp only [List.mem_cons, List.not_mem_nil, or_false] at hz
        rw [hz]; omega)
      have e1 : numsB 4 ([a.n] : List Int) = le a.n 4 := by simp [numsB]
      rw [e1] at h
      have e2 : (le a.n 4).length = 4 := by simp [le_length]
      rw [e2] at h
      exact h
    obtain ⟨f8, hf8⟩ : ∃ x, x = le a.file 8 := ⟨_, rfl⟩
    rw [← hf8] at CF8 HQ
    obtain ⟨a8, ha8⟩ : ∃ x, x = le a.at_ 8 := ⟨_, rfl⟩
    rw [← ha8] at CA8 HQ
    obtain ⟨n4, hn4⟩ : ∃ x, x = le a.n 4 := ⟨_, rfl⟩
    rw [← hn4] at CN4 HQ
    clear HOK HQ0 hb0 hf8 ha8 hn4
    go_enter Tryd.func12, Tryd.ntmps12
    go_wp2_with (first
      | ((with_reducible show wpList _ _ _ (⟨some 3, _, _, _, _, _⟩ :: _) _ _); refine wpList_box_blk rfl _ (.tmp 1) rfl cs rfl ?_; intro g w1 hg1 hg2 K1 L1)
      | ((with_reducible show wpList _ _ _ (⟨some 11, _, _, _, _, _⟩ :: _) _ _); refine wpList_load_blk rfl _ (.tmp 3) rfl g rfl _ cs K1 69 _ Tryd.underlying32 rfl size_ask HL ?_)
      | fail)
    refine (CN.out w1 L1.out).mono ?_
    rintro e w2 ⟨rfl, L2⟩
    have K2 := Lib.hid (K1.out.over L2)
    have M2' := Lib.hid (step L1.out L2)
    obtain ⟨c61, c62⟩ := FL.out w2 g K2.out
    clear L2 K1 L1 CN
    obtain ⟨c51, c52, c53, c54, c55, c56, c57, c58, c59, c60⟩ := FC.out w2 g K2.out
    go_wp2_with (first
      | ((with_reducible show wpList _ _ _ (⟨some 26, _, _, _, _, _⟩ :: _) _ _); refine wpList_slice_blk rfl _ _ 1 _ rfl Tryd.underlying93 ([.int .u64 a.file] : List Value) (by kernel_rfl) ?_; intro g3 w3 hg5 hg6 Y3 L3)
      | fail)
    refine (CF8.out w3 g3 Y3.out).mono ?_
    rintro e w4 ⟨Af, cf, rfl, ⟨hOf, hHf⟩, L4⟩
    have HF := Lib.hid hHf
    have K4 := Lib.hid ((K2.out.over L3.out).over L4)
    have M4 := Lib.hid (step (step M2'.out L3.out) L4)
    have OF := Lib.hid (OwnZ.mono hOf (Nat.le_trans M2'.out.size L3.out.size))
    have HXD := Lib.hid (HX.out.over M4.out)
    have hs4 := M4.out.size
    clear hHf hOf L4 L3 Y3 K2 M2' c51 c52 c53 c54 c55 c56 c57 c58 c59 c60 c61 c62 CF8
    go_upto_region 14 with fail
    refine wp_region_held (S := fun w' => Blk w' g 32 cs) (by kernel_rfl) ?_
    change wpAnyH _ _ _ _ _ _ _ _ w4.drew
    have S0 : Hid (Blk w4.drew g 32 cs) := K4.out.drew
    have b0 : Hid (Below w.heap.size w w4.drew) := M4.out.drew
    have HF_0 := Lib.hid (HF.out.drew)
    refine wpAnyH_take (i := 0) (v := _) rfl (by kernel_rfl) (by kernel_rfl) (by kernel_rfl) (fun _ _ _ h => h) (yieldsIf_move (by kernel_rfl) (.tmp 6) rfl (.slice Af 8 cf) (by kernel_rfl)) S0.out ?_
    refine wpAnyH_take (i := 1) (v := _) rfl (by kernel_rfl) (by kernel_rfl) (by kernel_rfl) (fun _ _ _ h => h) (yieldsIf_fld (by kernel_rfl) _ (.tmp 3) 13 rfl (.pointer (some ⟨g, 0, none⟩)) (.pointer (some ⟨g, 59, none⟩)) (by kernel_rfl) (fld_isZeroAsk_13 g)) S0.out ?_
    refine wpAnyH_take (i := 2) (v := _) rfl (by kernel_rfl) (by kernel_rfl) (by kernel_rfl) (fun _ _ _ h => h) (yieldsIf_load_one (by kernel_rfl) _ (.tmp 68) rfl g 59 (by kernel_rfl) (.int .u64 a.at_) (fun w h => (FC.out w g h).2.2.2.2.2.2.2.2.1) _ Tryd.underlying28 rfl) S0.out ?_
    refine wpAnyH_take (i := 5) (v := _) rfl (by kernel_rfl) (by kernel_rfl) (by kernel_rfl) (fun _ _ _ h => h) (yieldsIf_fld (by kernel_rfl) _ (.tmp 3) 14 rfl (.pointer (some ⟨g, 0, none⟩)) (.pointer (some ⟨g, 60, none⟩)) (by kernel_rfl) (fld_isZeroAsk_14 g)) S0.out ?_
    refine wpAnyH_take (i := 6) (v := _) rfl (by kernel_rfl) (by kernel_rfl) (by kernel_rfl) (fun _ _ _ h => h) (yieldsIf_load_one (by kernel_rfl) _ (.tmp 72) rfl g 60 (by kernel_rfl) (.int .u32 a.n) (fun w h => (FC.out w g h).2.2.2.2.2.2.2.2.2) _ Tryd.underlying27 rfl) S0.out ?_
    refine wpAnyH_take (i := 7) (v := (.int .u64 a.n)) rfl (by kernel_rfl) (by kernel_rfl) (by kernel_rfl) (fun _ _ _ h => h) (.inl ⟨by kernel_rfl, fun w _ => by go_simp⟩) S0.out ?_
    refine wpAnyH_frame fun fr1 hfr1 => ?_
    refine wpAnyH_two 3 8 _ _ (by kernel_rfl) rfl rfl (fun K hK => ?_) (fun K hK => ?_)
    · skip
      refine step_slice_blk rfl _ _ 1 _ rfl Tryd.underlying93 ([.int .u64 a.at_] : List Value) (by rw [hfr1]; kernel_rfl) ?_
      intro g2 wt2 qa qb Y2 L2
      have S2 := Lib.hid (S0.out.over L2.out)
      have b2 := Lib.hid (step b0.out L2.out)
      have HF_2 := Lib.hid (HF_0.out.over L2.out)
      refine hK _ _ S2.out ?_
      clear hK K
      subst hfr1
      refine wpAnyH_frame fun fr3 hfr3 => ?_
      refine wpAnyH_two 4 8 _ _ (by kernel_rfl) rfl rfl (fun K hK => ?_) (fun K hK => ?_)
      · skip
        subst hfr3
        go_simp
        refine (CA8.out _ _ Y2.out).mono ?_
        rintro e wt4 ⟨A4, c4, rfl, ⟨_, hY4⟩, L04⟩
        have Y4 := Lib.hid hY4
        have L4 := Lib.hid L04
        clear hY4 L04
        have S4 := Lib.hid (S2.out.over L4.out)
        have b4 := Lib.hid (step b2.out L4.out)
        have HF_4 := Lib.hid (HF_2.out.over L4.out)
        refine hK _ _ S4.out ?_
        clear hK K
        refine wpAnyH_frame fun fr5 hfr5 => ?_
        refine wpAnyH_one 8 _ (by kernel_rfl) rfl fun K hK => ?_
        refine step_slice_blk rfl _ _ 1 _ rfl Tryd.underlying93 ([.int .u64 a.n] : List Value) (by rw [hfr5]; kernel_rfl) ?_
        intro g6 wt6 qa qb Y6 L6
        have S6 := Lib.hid (S4.out.over L6.out)
        have b6 := Lib.hid (step b4.out L6.out)
        have HF_6 := Lib.hid (HF_4.out.over L6.out)
        have xA_6 := Lib.hid (Y4.out.over L6.out)
        refine hK _ _ S6.out ?_
        clear hK K
        subst hfr5
        refine wpAnyH_one 9 _ (by kernel_rfl) rfl fun K hK => ?_
        go_simp
        refine (CN4.out _ _ Y6.out).mono ?_
        rintro e wt7 ⟨A7, c7, rfl, ⟨_, hY7⟩, L07⟩
        have Y7 := Lib.hid hY7
        have L7 := Lib.hid L07
        clear hY7 L07
        have S7 := Lib.hid (S6.out.over L7.out)
        have b7 := Lib.hid (step b6.out L7.out)
        have HF_7 := Lib.hid (HF_6.out.over L7.out)
        have xA_7 := Lib.hid (xA_6.out.over L7.out)
        refine hK _ _ S7.out ?_
        clear hK K
        refine wpAnyH_frame fun fr8 hfr8 => ?_
        refine wpAnyH_one 10 _ (by kernel_rfl) rfl fun K hK => ?_
        refine step_slice_blk rfl _ _ 3 _ rfl Tryd.underlying96 ([.slice Af 8 cf, .slice A4 8 c4, .slice A7 4 c7] : List Value) (by rw [hfr8]; kernel_rfl) ?_
        intro g9 wt9 qa qb Y09 L9
        have Y9 : Hid (Parts wt9 g9 3 (partA [(Af, 8, cf, f8), (A4, 8, c4, a8), (A7, 4, c7, n4)]) (partN [(Af, 8, cf, f8), (A4, 8, c4, a8), (A7, 4, c7, n4)]) (partC [(Af, 8, cf, f8), (A4, 8, c4, a8), (A7, 4, c7, n4)]) (partX [(Af, 8, cf, f8), (A4, 8, c4, a8), (A7, 4, c7, n4)])) := Parts.of_blk [(Af, 8, cf, f8), (A4, 8, c4, a8), (A7, 4, c7, n4)] Y09.out (List.forall_mem_cons.2 ⟨HF_7.out.over L9.out, List.forall_mem_cons.2 ⟨xA_7.out.over L9.out, List.forall_mem_cons.2 ⟨Y7.out.over L9.out, fun _ h => by cases h⟩⟩⟩)
        clear Y09
        have S9 := Lib.hid (S7.out.over L9.out)
        have b9 := Lib.hid (step b7.out L9.out)
        refine hK _ _ S9.out ?_
        clear hK K
        subst hfr8
        refine wpAnyH_one 11 _ (by kernel_rfl) rfl fun K hK => ?_
        go_simp
        refine (CC.out _ g9 3 _ _ _ _ Y9.out (by omega) (by show 0 + 8 + 8 + 4 ≤ _; omega)).mono ?_
        rintro e wt10 ⟨v, rfl, hY10, L010⟩
        have OUT := Lib.hid hY10
        have L10 := Lib.hid L010
        clear hY10 L010
        have hsz0 := b9.out.size
        have S10 := Lib.hid (S9.out.over L10.out)
        have b10 := Lib.hid (step b9.out L10.out)
        refine hK _ _ S10.out ?_
        clear hK K
        refine wpAnyH_one 12 _ (by kernel_rfl) rfl fun K hK => ?_
        go_simp
        refine hK _ _ S10.out ?_
        clear hK K
        refine wpAnyH_one 13 _ (by kernel_rfl) rfl fun K hK => ?_
        go_simp
        refine hK _ _ S10.out ?_
        clear hK K
        refine wpAnyH_done (by kernel_rfl) ?_ _
        have HO6 := Lib.hid (OwnZ.mono OUT.out (Nat.le_trans (hsz0) (Nat.le_refl _)))
        go_wp2
        go_ret2
        refine HQ.out _ _ _ rfl ?_ b10.out
        have h9 := HO6.out
        simpa [catL, partX, List.append_assoc] using h9
      · skip
        refine step_slice_blk rfl _ _ 1 _ rfl Tryd.underlying93 ([.int .u64 a.n] : List Value) (by rw [hfr3]; kernel_rfl) ?_
        intro g13 wt13 qa qb Y13 L13
        have S13 := Lib.hid (S2.out.over L13.out)
        have b13 := Lib.hid (step b2.out L13.out)
        have HF_13 := Lib.hid (HF_2.out.over L13.out)
        have lA_13 := Lib.hid (Y2.out.over L13.out)
        refine hK _ _ S13.out ?_
        clear hK K
        subst hfr3
        refine wpAnyH_one 4 _ (by kernel_rfl) rfl fun K hK => ?_
        go_simp
        refine (CA8.out _ _ lA_13.out).mono ?_
        rintro e wt14 ⟨A14, c14, rfl, ⟨_, hY14⟩, L014⟩
        have Y14 := Lib.hid hY14
        have L14 := Lib.hid L014
        clear hY14 L014
        have S14 := Lib.hid (S13.out.over L14.out)
        have b14 := Lib.hid (step b13.out L14.out)
        have HF_14 := Lib.hid (HF_13.out.over L14.out)
        have lC_14 := Lib.hid (Y13.out.over L14.out)
        refine hK _ _ S14.out ?_
        clear hK K
        refine wpAnyH_one 9 _ (by kernel_rfl) rfl fun K hK => ?_
        go_simp
        refine (CN4.out _ _ lC_14.out).mono ?_
        rintro e wt15 ⟨A15, c15, rfl, ⟨_, hY15⟩, L015⟩
        have Y15 := Lib.hid hY15
        have L15 := Lib.hid L015
        clear hY15 L015
        have S15 := Lib.hid (S14.out.over L15.out)
        have b15 := Lib.hid (step b14.out L15.out)
        have HF_15 := Lib.hid (HF_14.out.over L15.out)
        have xA_15 := Lib.hid (Y14.out.over L15.out)
        refine hK _ _ S15.out ?_
        clear hK K
        refine wpAnyH_frame fun fr16 hfr16 => ?_
        refine wpAnyH_one 10 _ (by kernel_rfl) rfl fun K hK => ?_
        refine step_slice_blk rfl _ _ 3 _ rfl Tryd.underlying96 ([.slice Af 8 cf, .slice A14 8 c14, .slice A15 4 c15] : List Value) (by rw [hfr16]; kernel_rfl) ?_
        intro g17 wt17 qa qb Y017 L17
        have Y17 : Hid (Parts wt17 g17 3 (partA [(Af, 8, cf, f8), (A14, 8, c14, a8), (A15, 4, c15, n4)]) (partN [(Af, 8, cf, f8), (A14, 8, c14, a8), (A15, 4, c15, n4)]) (partC [(Af, 8, cf, f8), (A14, 8, c14, a8), (A15, 4, c15, n4)]) (partX [(Af, 8, cf, f8), (A14, 8, c14, a8), (A15, 4, c15, n4)])) := Parts.of_blk [(Af, 8, cf, f8), (A14, 8, c14, a8), (A15, 4, c15, n4)] Y017.out (List.forall_mem_cons.2 ⟨HF_15.out.over L17.out, List.forall_mem_cons.2 ⟨xA_15.out.over L17.out, List.forall_mem_cons.2 ⟨Y15.out.over L17.out, fun _ h => by cases h⟩⟩⟩)
        clear Y017
        have S17 := Lib.hid (S15.out.over L17.out)
        have b17 := Lib.hid (step b15.out L17.out)
        refine hK _ _ S17.out ?_
        clear hK K
        subst hfr16
        refine wpAnyH_one 11 _ (by kernel_rfl) rfl fun K hK => ?_
        go_simp
        refine (CC.out _ g17 3 _ _ _ _ Y17.out (by omega) (by show 0 + 8 + 8 + 4 ≤ _; omega)).mono ?_
        rintro e wt18 ⟨v, rfl, hY18, L018⟩
        have OUT := Lib.hid hY18
        have L18 := Lib.hid L018
        clear hY18 L018
        have hsz0 := b17.out.size
        have S18 := Lib.hid (S17.out.over L18.out)
        have b18 := Lib.hid (step b17.out L18.out)
        refine hK _ _ S18.out ?_
        clear hK K
        refine wpAnyH_one 12 _ (by kernel_rfl) rfl fun K hK => ?_
        go_simp
        refine hK _ _ S18.out ?_
        clear hK K
        refine wpAnyH_one 13 _ (by kernel_rfl) rfl fun K hK => ?_
        go_simp
        refine hK _ _ S18.out ?_
        clear hK K
        refine wpAnyH_done (by kernel_rfl) ?_ _
        have HO6 := Lib.hid (OwnZ.mono OUT.out (Nat.le_trans (hsz0) (Nat.le_refl _)))
        go_wp2
        go_ret2
        refine HQ.out _ _ _ rfl ?_ b18.out
        have h9 := HO6.out
        simpa [catL, partX, List.append_assoc] using h9
    · skip
      refine step_slice_blk rfl _ _ 1 _ rfl Tryd.underlying93 ([.int .u64 a.n] : List Value) (by rw [hfr1]; kernel_rfl) ?_
      intro g21 wt21 qa qb Y21 L21
      have S21 := Lib.hid (S0.out.over L21.out)
      have b21 := Lib.hid (step b0.out L21.out)
      have HF_21 := Lib.hid (HF_0.out.over L21.out)
      refine hK _ _ S21.out ?_
      clear hK K
      subst hfr1
      refine wpAnyH_frame fun fr22 hfr22 => ?_
      refine wpAnyH_one 3 _ (by kernel_rfl) rfl fun K hK => ?_
      refine step_slice_blk rfl _ _ 1 _ rfl Tryd.underlying93 ([.int .u64 a.at_] : List Value) (by rw [hfr22]; kernel_rfl) ?_
      intro g23 wt23 qa qb Y23 L23
      have S23 := Lib.hid (S21.out.over L23.out)
      have b23 := Lib.hid (step b21.out L23.out)
      have HF_23 := Lib.hid (HF_21.out.over L23.out)
      have lC_23 := Lib.hid (Y21.out.over L23.out)
      refine hK _ _ S23.out ?_
      clear hK K
      subst hfr22
      refine wpAnyH_one 4 _ (by kernel_rfl) rfl fun K hK => ?_
      go_simp
      refine (CA8.out _ _ Y23.out).mono ?_
      rintro e wt24 ⟨A24, c24, rfl, ⟨_, hY24⟩, L024⟩
      have Y24 := Lib.hid hY24
      have L24 := Lib.hid L024
      clear hY24 L024
      have S24 := Lib.hid (S23.out.over L24.out)
      have b24 := Lib.hid (step b23.out L24.out)
      have HF_24 := Lib.hid (HF_23.out.over L24.out)
      have lC_24 := Lib.hid (lC_23.out.over L24.out)
      refine hK _ _ S24.out ?_
      clear hK K
      refine wpAnyH_one 9 _ (by kernel_rfl) rfl fun K hK => ?_
      go_simp
      refine (CN4.out _ _ lC_24.out).mono ?_
      rintro e wt25 ⟨A25, c25, rfl, ⟨_, hY25⟩, L025⟩
      have Y25 := Lib.hid hY25
      have L25 := Lib.hid L025
      clear hY25 L025
      have S25 := Lib.hid (S24.out.over L25.out)
      have b25 := Lib.hid (step b24.out L25.out)
      have HF_25 := Lib.hid (HF_24.out.over L25.out)
      have xA_25 := Lib.hid (Y24.out.over L25.out)
      refine hK _ _ S25.out ?_
      clear hK K
      refine wpAnyH_frame fun fr26 hfr26 => ?_
      refine wpAnyH_one 10 _ (by kernel_rfl) rfl fun K hK => ?_
      refine step_slice_blk rfl _ _ 3 _ rfl Tryd.underlying96 ([.slice Af 8 cf, .slice A24 8 c24, .slice A25 4 c25] : List Value) (by rw [hfr26]; kernel_rfl) ?_
      intro g27 wt27 qa qb Y027 L27
      have Y27 : Hid (Parts wt27 g27 3 (partA [(Af, 8, cf, f8), (A24, 8, c24, a8), (A25, 4, c25, n4)]) (partN [(Af, 8, cf, f8), (A24, 8, c24, a8), (A25, 4, c25, n4)]) (partC [(Af, 8, cf, f8), (A24, 8, c24, a8), (A25, 4, c25, n4)]) (partX [(Af, 8, cf, f8), (A24, 8, c24, a8), (A25, 4, c25, n4)])) := Parts.of_blk [(Af, 8, cf, f8), (A24, 8, c24, a8), (A25, 4, c25, n4)] Y027.out (List.forall_mem_cons.2 ⟨HF_25.out.over L27.out, List.forall_mem_cons.2 ⟨xA_25.out.over L27.out, List.forall_mem_cons.2 ⟨Y25.out.over L27.out, fun _ h => by cases h⟩⟩⟩)
      clear Y027
      have S27 := Lib.hid (S25.out.over L27.out)
      have b27 := Lib.hid (step b25.out L27.out)
      refine hK _ _ S27.out ?_
      clear hK K
      subst hfr26
      refine wpAnyH_one 11 _ (by kernel_rfl) rfl fun K hK => ?_
      go_simp
      refine (CC.out _ g27 3 _ _ _ _ Y27.out (by omega) (by show 0 + 8 + 8 + 4 ≤ _; omega)).mono ?_
      rintro e wt28 ⟨v, rfl, hY28, L028⟩
      have OUT := Lib.hid hY28
      have L28 := Lib.hid L028
      clear hY28 L028
      have hsz0 := b27.out.size
      have S28 := Lib.hid (S27.out.over L28.out)
      have b28 := Lib.hid (step b27.out L28.out)
      refine hK _ _ S28.out ?_
      clear hK K
      refine wpAnyH_one 12 _ (by kernel_rfl) rfl fun K hK => ?_
      go_simp
      refine hK _ _ S28.out ?_
      clear hK K
      refine wpAnyH_one 13 _ (by kernel_rfl) rfl fun K hK => ?_
      go_simp
      refine hK _ _ S28.out ?_
      clear hK K
      refine wpAnyH_done (by kernel_rfl) ?_ _
      have HO6 := Lib.hid (OwnZ.mono OUT.out (Nat.le_trans (hsz0) (Nat.le_refl _)))
      go_wp2
      go_ret2
      refine HQ.out _ _ _ rfl ?_ b28.out
      have h9 := HO6.out
      simpa [catL, partX, List.append_assoc] using h9
  · subst h9
    rw [if_neg (by decide)] at HOK
    have HQ := Lib.hid (HQ0.out HOK.out)
    have hb0 : bodyF 9 a = le a.file 8 ++ (le a.at_ 8 ++ (le (X2 : Int) 4 ++ a.data)) := by unfold bodyF; rw [if_neg (by decide), if_neg (by decide), if_pos rfl, HX.out.len]
    rw [hb0] at HQ
    have CA8 : Hid (∀ (w : World) (gl : Nat), Blk w gl 28 [.int .u64 a.at_] → Calls Tryd.prog 33 #[.int .i64 8, .slice (some ⟨gl, 0, none⟩) 1 1] w fun e w' => ∃ A' c', e = .returned (.slice A' 8 c') ∧ (OwnZ .u8 5 w' w.heap.size (.slice A' 8 c') (le a.at_ 8) ∧ Holds w' w'.heap.size A' 8 c' (le a.at_ 8)) ∧ Below w.heap.size w w') := fun w gl hB => by
      have h := nums_at w gl 1 8 ([a.at_] : List Int) hB rfl (by decide) (by decide) (fun z hz => by
        rw [show (256 : Int) ^ 8 = 18446744073709551616 from by decide]
        simp only [List.mem_cons, List.not_mem_nil, or_false] at hz
        rw [hz]; omega)
      have e1 : numsB 8 ([a.at_] : List Int) = le a.at_ 8 := by simp [numsB]
      rw [e1] at h
      have e2 : (le a.at_ 8).length = 8 := by simp [le_length]
      rw [e2] at h
      exact h
    have CN4 : Hid (∀ (w : World) (gl : Nat), Blk w gl 28 [.int .u64 (X2 : Int)] → Calls Tryd.prog 33 #[.int .i64 4, .slice (some ⟨gl, 0, none⟩) 1 1] w fun e w' => ∃ A' c', e = .returned (.slice A' 4 c') ∧ (OwnZ .u8 5 w' w.heap.size (.slice A' 4 c') (le (X2 : Int) 4) ∧ Holds w' w'.heap.size A' 4 c' (le (X2 : Int) 4)) ∧ Below w.heap.size w w') := fun w gl hB => by
      have h := nums_at w gl 1 4 ([(X2 : Int)] : List Int) hB rfl (by decide) (by decide) (fun z hz => by
        rw [show (256 : Int) ^ 4 = 4294967296 from by decide]
        simp only [List.mem_cons, List.not_mem_nil, or_false] at hz
        rw [hz]; omega)
      have e1 : numsB 4 ([(X2 : Int)] : List Int) = le (X2 : Int) 4 := by simp [numsB]
      rw [e1] at h
      have e2 : (le (X2 : Int) 4).length = 4 := by simp [le_length]
      rw [e2] at h
      exact h
    obtain ⟨f8, hf8⟩ : ∃ x, x = le a.file 8 := ⟨_, rfl⟩
    rw [← hf8] at CF8 HQ
    obtain ⟨a8, ha8⟩ : ∃ x, x = le a.at_ 8 := ⟨_, rfl⟩
    rw [← ha8] at CA8 HQ
    obtain ⟨n4, hn4⟩ : ∃ x, x = le (X2 : Int) 4 := ⟨_, rfl⟩
    rw [← hn4] at CN4 HQ
    clear HOK HQ0 hb0 hf8 ha8 hn4
    go_enter Tryd.func12, Tryd.ntmps12
    go_wp2_with (first
      | ((with_reducible show wpList _ _ _ (⟨some 3, _, _, _, _, _⟩ :: _) _ _); refine wpList_box_blk rfl _ (.tmp 1) rfl cs rfl ?_; intro g w1 hg1 hg2 K1 L1)
      | ((with_reducible show wpList _ _ _ (⟨some 11, _, _, _, _, _⟩ :: _) _ _); refine wpList_load_blk rfl _ (.tmp 3) rfl g rfl _ cs K1 69 _ Tryd.underlying32 rfl size_ask HL ?_)
      | fail)
    refine (CN.out w1 L1.out).mono ?_
    rintro e w2 ⟨rfl, L2⟩
    have K2 := Lib.hid (K1.out.over L2)
    have M2' := Lib.hid (step L1.out L2)
    obtain ⟨c61, c62⟩ := FL.out w2 g K2.out
    clear L2 K1 L1 CN
    obtain ⟨c51, c52, c53, c54, c55, c56, c57, c58, c59, c60⟩ := FC.out w2 g K2.out
    go_wp2_with (first
      | ((with_reducible show wpList _ _ _ (⟨some 26, _, _, _, _, _⟩ :: _) _ _); refine wpList_slice_blk rfl _ _ 1 _ rfl Tryd.underlying93 ([.int .u64 a.file] : List Value) (by kernel_rfl) ?_; intro g3 w3 hg5 hg6 Y3 L3)
      | fail)
    refine (CF8.out w3 g3 Y3.out).mono ?_
    rintro e w4 ⟨Af, cf, rfl, ⟨hOf, hHf⟩, L4⟩
    have HF := Lib.hid hHf
    have K4 := Lib.hid ((K2.out.over L3.out).over L4)
    have M4 := Lib.hid (step (step M2'.out L3.out) L4)
    have OF := Lib.hid (OwnZ.mono hOf (Nat.le_trans M2'.out.size L3.out.size))
    have HXD := Lib.hid (HX.out.over M4.out)
    have hs4 := M4.out.size
    clear hHf hOf L4 L3 Y3 K2 M2' c51 c52 c53 c54 c55 c56 c57 c58 c59 c60 c61 c62 CF8
    go_upto_region 16 with fail
    refine wp_region_held (S := fun w' => Blk w' g 32 cs) (by kernel_rfl) ?_
    change wpAnyH _ _ _ _ _ _ _ _ w4.drew
    have S0 : Hid (Blk w4.drew g 32 cs) := K4.out.drew
    have b0 : Hid (Below w.heap.size w w4.drew) := M4.out.drew
    have HF_0 := Lib.hid (HF.out.drew)
    have HD_0 := Lib.hid (HXD.out.drew)
    refine wpAnyH_take (i := 0) (v := _) rfl (by kernel_rfl) (by kernel_rfl) (by kernel_rfl) (fun _ _ _ h => h) (yieldsIf_move (by kernel_rfl) (.tmp 6) rfl (.slice Af 8 cf) (by kernel_rfl)) S0.out ?_
    refine wpAnyH_take (i := 1) (v := _) rfl (by kernel_rfl) (by kernel_rfl) (by kernel_rfl) (fun _ _ _ h => h) (yieldsIf_fld (by kernel_rfl) _ (.tmp 3) 13 rfl (.pointer (some ⟨g, 0, none⟩)) (.pointer (some ⟨g, 59, none⟩)) (by kernel_rfl) (fld_isZeroAsk_13 g)) S0.out ?_
    refine wpAnyH_take (i := 2) (v := _) rfl (by kernel_rfl) (by kernel_rfl) (by kernel_rfl) (fun _ _ _ h => h) (yieldsIf_load_one (by kernel_rfl) _ (.tmp 82) rfl g 59 (by kernel_rfl) (.int .u64 a.at_) (fun w h => (FC.out w g h).2.2.2.2.2.2.2.2.1) _ Tryd.underlying28 rfl) S0.out ?_
    refine wpAnyH_take (i := 5) (v := _) rfl (by kernel_rfl) (by kernel_rfl) (by kernel_rfl) (fun _ _ _ h => h) (yieldsIf_fld (by kernel_rfl) _ (.tmp 3) 15 rfl (.pointer (some ⟨g, 0, none⟩)) (.pointer (some ⟨g, 61, none⟩)) (by kernel_rfl) (fld_isZeroAsk_15 g)) S0.out ?_
    refine wpAnyH_take (i := 6) (v := _) rfl (by kernel_rfl) (by kernel_rfl) (by kernel_rfl) (fun _ _ _ h => h) (yieldsIf_load_one (by kernel_rfl) _ (.tmp 86) rfl g 61 (by kernel_rfl) (.slice X1 X2 X3) (fun w h => (FL.out w g h).1) _ Tryd.underlying29 rfl) S0.out ?_
    refine wpAnyH_take (i := 7) (v := (.int .i64 (X2 : Int))) rfl (by kernel_rfl) (by kernel_rfl) (by kernel_rfl) (fun _ _ _ h => h) (.inl ⟨by kernel_rfl, fun w _ => by go_simp⟩) S0.out ?_
    refine wpAnyH_take (i := 8) (v := (.int .u64 (X2 : Int))) rfl (by kernel_rfl) (by kernel_rfl) (by kernel_rfl) (fun _ _ _ h => h) (.inl ⟨by kernel_rfl, fun w _ => by go_simp⟩) S0.out ?_
    refine wpAnyH_take (i := 11) (v := _) rfl (by kernel_rfl) (by kernel_rfl) (by kernel_rfl) (fun _ _ _ h => h) (yieldsIf_fld (by kernel_rfl) _ (.tmp 3) 15 rfl (.pointer (some ⟨g, 0, none⟩)) (.pointer (some ⟨g, 61, none⟩)) (by kernel_rfl) (fld_isZeroAsk_15 g)) S0.out ?_
    refine wpAnyH_take (i := 12) (v := _) rfl (by kernel_rfl) (by kernel_rfl) (by kernel_rfl) (fun _ _ _ h => h) (yieldsIf_load_one (by kernel_rfl) _ (.tmp 92) rfl g 61 (by kernel_rfl) (.slice X1 X2 X3) (fun w h => (FL.out w g h).1) _ Tryd.underlying29 rfl) S0.out ?_
    refine wpAnyH_frame fun fr1 hfr1 => ?_
    refine wpAnyH_two 3 9 _ _ (by kernel_rfl) rfl rfl (fun K hK => ?_) (fun K hK => ?_)
    · skip
      refine step_slice_blk rfl _ _ 1 _ rfl Tryd.underlying93 ([.int .u64 a.at_] : List Value) (by rw [hfr1]; kernel_rfl) ?_
      intro g2 wt2 qa qb Y2 L2
      have S2 := Lib.hid (S0.out.over L2.out)
      have b2 := Lib.hid (step b0.out L2.out)
      have HF_2 := Lib.hid (HF_0.out.over L2.out)
      have HD_2 := Lib.hid (HD_0.out.over L2.out)
      refine hK _ _ S2.out ?_
      clear hK K
      subst hfr1
      refine wpAnyH_frame fun fr3 hfr3 => ?_
      refine wpAnyH_two 4 9 _ _ (by kernel_rfl) rfl rfl (fun K hK => ?_) (fun K hK => ?_)
      · skip
        subst hfr3
        go_simp
        refine (CA8.out _ _ Y2.out).mono ?_
        rintro e wt4 ⟨A4, c4, rfl, ⟨_, hY4⟩, L04⟩
        have Y4 := Lib.hid hY4
        have L4 := Lib.hid L04
        clear hY4 L04
        have S4 := Lib.hid (S2.out.over L4.out)
        have b4 := Lib.hid (step b2.out L4.out)
        have HF_4 := Lib.hid (HF_2.out.over L4.out)
        have HD_4 := Lib.hid (HD_2.out.over L4.out)
        refine hK _ _ S4.out ?_
        clear hK K
        refine wpAnyH_frame fun fr5 hfr5 => ?_
        refine wpAnyH_one 9 _ (by kernel_rfl) rfl fun K hK => ?_
        refine step_slice_blk rfl _ _ 1 _ rfl Tryd.underlying93 ([.int .u64 (X2 : Int)] : List Value) (by rw [hfr5]; kernel_rfl) ?_
        intro g6 wt6 qa qb Y6 L6
        have S6 := Lib.hid (S4.out.over L6.out)
        have b6 := Lib.hid (step b4.out L6.out)
        have HF_6 := Lib.hid (HF_4.out.over L6.out)
        have HD_6 := Lib.hid (HD_4.out.over L6.out)
        have xA_6 := Lib.hid (Y4.out.over L6.out)
        refine hK _ _ S6.out ?_
        clear hK K
        subst hfr5
        refine wpAnyH_one 10 _ (by kernel_rfl) rfl fun K hK => ?_
        go_simp
        refine (CN4.out _ _ Y6.out).mono ?_
        rintro e wt7 ⟨A7, c7, rfl, ⟨_, hY7⟩, L07⟩
        have Y7 := Lib.hid hY7
        have L7 := Lib.hid L07
        clear hY7 L07
        have S7 := Lib.hid (S6.out.over L7.out)
        have b7 := Lib.hid (step b6.out L7.out)
        have HF_7 := Lib.hid (HF_6.out.over L7.out)
        have HD_7 := Lib.hid (HD_6.out.over L7.out)
        have xA_7 := Lib.hid (xA_6.out.over L7.out)
        refine hK _ _ S7.out ?_
        clear hK K
        refine wpAnyH_frame fun fr8 hfr8 => ?_
        refine wpAnyH_one 13 _ (by kernel_rfl) rfl fun K hK => ?_
        refine step_slice_blk rfl _ _ 4 _ rfl Tryd.underlying96 ([.slice Af 8 cf, .slice A4 8 c4, .slice A7 4 c7, .slice X1 X2 X3] : List Value) (by rw [hfr8]; kernel_rfl) ?_
        intro g9 wt9 qa qb Y09 L9
        have Y9 : Hid (Parts wt9 g9 4 (partA [(Af, 8, cf, f8), (A4, 8, c4, a8), (A7, 4, c7, n4), (X1, X2, X3, a.data)]) (partN [(Af, 8, cf, f8), (A4, 8, c4, a8), (A7, 4, c7, n4), (X1, X2, X3, a.data)]) (partC [(Af, 8, cf, f8), (A4, 8, c4, a8), (A7, 4, c7, n4), (X1, X2, X3, a.data)]) (partX [(Af, 8, cf, f8), (A4, 8, c4, a8), (A7, 4, c7, n4), (X1, X2, X3, a.data)])) := Parts.of_blk [(Af, 8, cf, f8), (A4, 8, c4, a8), (A7, 4, c7, n4), (X1, X2, X3, a.data)] Y09.out (List.forall_mem_cons.2 ⟨HF_7.out.over L9.out, List.forall_mem_cons.2 ⟨xA_7.out.over L9.out, List.forall_mem_cons.2 ⟨Y7.out.over L9.out, List.forall_mem_cons.2 ⟨HD_7.out.over L9.out, fun _ h => by cases h⟩⟩⟩⟩)
        clear Y09
        have S9 := Lib.hid (S7.out.over L9.out)
        have b9 := Lib.hid (step b7.out L9.out)
        refine hK _ _ S9.out ?_
        clear hK K
        subst hfr8
        refine wpAnyH_one 14 _ (by kernel_rfl) rfl fun K hK => ?_
        go_simp
        refine (CC.out _ g9 4 _ _ _ _ Y9.out (by omega) (by show 0 + 8 + 8 + 4 + X2 ≤ _; omega)).mono ?_
        rintro e wt10 ⟨v, rfl, hY10, L010⟩
        have OUT := Lib.hid hY10
        have L10 := Lib.hid L010
        clear hY10 L010
        have hsz0 := b9.out.size
        have S10 := Lib.hid (S9.out.over L10.out)
        have b10 := Lib.hid (step b9.out L10.out)
        refine hK _ _ S10.out ?_
        clear hK K
        refine wpAnyH_one 15 _ (by kernel_rfl) rfl fun K hK => ?_
        go_simp
        refine hK _ _ S10.out ?_
        clear hK K
        refine wpAnyH_one 16 _ (by kernel_rfl) rfl fun K hK => ?_
        go_simp
        refine hK _ _ S10.out ?_
        clear hK K
        refine wpAnyH_done (by kernel_rfl) ?_ _
        have HO6 := Lib.hid (OwnZ.mono OUT.out (Nat.le_trans (hsz0) (Nat.le_refl _)))
        go_wp2
        go_ret2
        refine HQ.out _ _ _ rfl ?_ b10.out
        have h9 := HO6.out
        simpa [catL, partX, List.append_assoc] using h9
      · skip
        refine step_slice_blk rfl _ _ 1 _ rfl Tryd.underlying93 ([.int .u64 (X2 : Int)] : List Value) (by rw [hfr3]; kernel_rfl) ?_
        intro g13 wt13 qa qb Y13 L13
        have S13 := Lib.hid (S2.out.over L13.out)
        have b13 := Lib.hid (step b2.out L13.out)
        have HF_13 := Lib.hid (HF_2.out.over L13.out)
        have HD_13 := Lib.hid (HD_2.out.over L13.out)
        have lA_13 := Lib.hid (Y2.out.over L13.out)
        refine hK _ _ S13.out ?_
        clear hK K
        subst hfr3
        refine wpAnyH_one 4 _ (by kernel_rfl) rfl fun K hK => ?_
        go_simp
        refine (CA8.out _ _ lA_13.out).mono ?_
        rintro e wt14 ⟨A14, c14, rfl, ⟨_, hY14⟩, L014⟩
        have Y14 := Lib.hid hY14
        have L14 := Lib.hid L014
        clear hY14 L014
        have S14 := Lib.hid (S13.out.over L14.out)
        have b14 := Lib.hid (step b13.out L14.out)
        have HF_14 := Lib.hid (HF_13.out.over L14.out)
        have HD_14 := Lib.hid (HD_13.out.over L14.out)
        have lC_14 := Lib.hid (Y13.out.over L14.out)
        refine hK _ _ S14.out ?_
        clear hK K
        refine wpAnyH_one 10 _ (by kernel_rfl) rfl fun K hK => ?_
        go_simp
        refine (CN4.out _ _ lC_14.out).mono ?_
        rintro e wt15 ⟨A15, c15, rfl, ⟨_, hY15⟩, L015⟩
        have Y15 := Lib.hid hY15
        have L15 := Lib.hid L015
        clear hY15 L015
        have S15 := Lib.hid (S14.out.over L15.out)
        have b15 := Lib.hid (step b14.out L15.out)
        have HF_15 := Lib.hid (HF_14.out.over L15.out)
        have HD_15 := Lib.hid (HD_14.out.over L15.out)
        have xA_15 := Lib.hid (Y14.out.over L15.out)
        refine hK _ _ S15.out ?_
        clear hK K
        refine wpAnyH_frame fun fr16 hfr16 => ?_
        refine wpAnyH_one 13 _ (by kernel_rfl) rfl fun K hK => ?_
        refine step_slice_blk rfl _ _ 4 _ rfl Tryd.underlying96 ([.slice Af 8 cf, .slice A14 8 c14, .slice A15 4 c15, .slice X1 X2 X3] : List Value) (by rw [hfr16]; kernel_rfl) ?_
        intro g17 wt17 qa qb Y017 L17
        have Y17 : Hid (Parts wt17 g17 4 (partA [(Af, 8, cf, f8), (A14, 8, c14, a8), (A15, 4, c15, n4), (X1, X2, X3, a.data)]) (partN [(Af, 8, cf, f8), (A14, 8, c14, a8), (A15, 4, c15, n4), (X1, X2, X3, a.data)]) (partC [(Af, 8, cf, f8), (A14, 8, c14, a8), (A15, 4, c15, n4), (X1, X2, X3, a.data)]) (partX [(Af, 8, cf, f8), (A14, 8, c14, a8), (A15, 4, c15, n4), (X1, X2, X3, a.data)])) := Parts.of_blk [(Af, 8, cf, f8), (A14, 8, c14, a8), (A15, 4, c15, n4), (X1, X2, X3, a.data)] Y017.out (List.forall_mem_cons.2 ⟨HF_15.out.over L17.out, List.forall_mem_cons.2 ⟨xA_15.out.over L17.out, List.forall_mem_cons.2 ⟨Y15.out.over L17.out, List.forall_mem_cons.2 ⟨HD_15.out.over L17.out, fun _ h => by cases h⟩⟩⟩⟩)
        clear Y017
        have S17 := Lib.hid (S15.out.over L17.out)
        have b17 := Lib.hid (step b15.out L17.out)
        refine hK _ _ S17.out ?_
        clear hK K
        subst hfr16
        refine wpAnyH_one 14 _ (by kernel_rfl) rfl fun K hK => ?_
        go_simp
        refine (CC.out _ g17 4 _ _ _ _ Y17.out (by omega) (by show 0 + 8 + 8 + 4 + X2 ≤ _; omega)).mono ?_
        rintro e wt18 ⟨v, rfl, hY18, L018⟩
        have OUT := Lib.hid hY18
        have L18 := Lib.hid L018
        clear hY18 L018
        have hsz0 := b17.out.size
        have S18 := Lib.hid (S17.out.over L18.out)
        have b18 := Lib.hid (step b17.out L18.out)
        refine hK _ _ S18.out ?_
        clear hK K
        refine wpAnyH_one 15 _ (by kernel_rfl) rfl fun K hK => ?_
        go_simp
        refine hK _ _ S18.out ?_
        clear hK K
        refine wpAnyH_one 16 _ (by kernel_rfl) rfl fun K hK => ?_
        go_simp
        refine hK _ _ S18.out ?_
        clear hK K
        refine wpAnyH_done (by kernel_rfl) ?_ _
        have HO6 := Lib.hid (OwnZ.mono OUT.out (Nat.le_trans (hsz0) (Nat.le_refl _)))
        go_wp2
        go_ret2
        refine HQ.out _ _ _ rfl ?_ b18.out
        have h9 := HO6.out
        simpa [catL, partX, List.append_assoc] using h9
    · skip
      refine step_slice_blk rfl _ _ 1 _ rfl Tryd.underlying93 ([.int .u64 (X2 : Int)] : List Value) (by rw [hfr1]; kernel_rfl) ?_
      intro g21 wt21 qa qb Y21 L21
      have S21 := Lib.hid (S0.out.over L21.out)
      have b21 := Lib.hid (step b0.out L21.out)
      have HF_21 := Lib.hid (HF_0.out.over L21.out)
      have HD_21 := Lib.hid (HD_0.out.over L21.out)
      refine hK _ _ S21.out ?_
      clear hK K
      subst hfr1
      refine wpAnyH_frame fun fr22 hfr22 => ?_
      refine wpAnyH_one 3 _ (by kernel_rfl) rfl fun K hK => ?_
      refine step_slice_blk rfl _ _ 1 _ rfl Tryd.underlying93 ([.int .u64 a.at_] : List Value) (by rw [hfr22]; kernel_rfl) ?_
      intro g23 wt23 qa qb Y23 L23
      have S23 := Lib.hid (S21.out.over L23.out)
      have b23 := Lib.hid (step b21.out L23.out)
      have HF_23 := Lib.hid (HF_21.out.over L23.out)
      have HD_23 := Lib.hid (HD_21.out.over L23.out)
      have lC_23 := Lib.hid (Y21.out.over L23.out)
      refine hK _ _ S23.out ?_
      clear hK K
      subst hfr22
      refine wpAnyH_one 4 _ (by kernel_rfl) rfl fun K hK => ?_
      go_simp
      refine (CA8.out _ _ Y23.out).mono ?_
      rintro e wt24 ⟨A24, c24, rfl, ⟨_, hY24⟩, L024⟩
      have Y24 := Lib.hid hY24
      have L24 := Lib.hid L024
      clear hY24 L024
      have S24 := Lib.hid (S23.out.over L24.out)
      have b24 := Lib.hid (step b23.out L24.out)
      have HF_24 := Lib.hid (HF_23.out.over L24.out)
      have HD_24 := Lib.hid (HD_23.out.over L24.out)
      have lC_24 := Lib.hid (lC_23.out.over L24.out)
      refine hK _ _ S24.out ?_
      clear hK K
      refine wpAnyH_one 10 _ (by kernel_rfl) rfl fun K hK => ?_
      go_simp
      refine (CN4.out _ _ lC_24.out).mono ?_
      rintro e wt25 ⟨A25, c25, rfl, ⟨_, hY25⟩, L025⟩
      have Y25 := Lib.hid hY25
      have L25 := Lib.hid L025
      clear hY25 L025
      have S25 := Lib.hid (S24.out.over L25.out)
      have b25 := Lib.hid (step b24.out L25.out)
      have HF_25 := Lib.hid (HF_24.out.over L25.out)
      have HD_25 := Lib.hid (HD_24.out.over L25.out)
      have xA_25 := Lib.hid (Y24.out.over L25.out)
      refine hK _ _ S25.out ?_
      clear hK K
      refine wpAnyH_frame fun fr26 hfr26 => ?_
      refine wpAnyH_one 13 _ (by kernel_rfl) rfl fun K hK => ?_
      refine step_slice_blk rfl _ _ 4 _ rfl Tryd.underlying96 ([.slice Af 8 cf, .slice A24 8 c24, .slice A25 4 c25, .slice X1 X2 X3] : List Value) (by rw [hfr26]; kernel_rfl) ?_
      intro g27 wt27 qa qb Y027 L27
      have Y27 : Hid (Parts wt27 g27 4 (partA [(Af, 8, cf, f8), (A24, 8, c24, a8), (A25, 4, c25, n4), (X1, X2, X3, a.data)]) (partN [(Af, 8, cf, f8), (A24, 8, c24, a8), (A25, 4, c25, n4), (X1, X2, X3, a.data)]) (partC [(Af, 8, cf, f8), (A24, 8, c24, a8), (A25, 4, c25, n4), (X1, X2, X3, a.data)]) (partX [(Af, 8, cf, f8), (A24, 8, c24, a8), (A25, 4, c25, n4), (X1, X2, X3, a.data)])) := Parts.of_blk [(Af, 8, cf, f8), (A24, 8, c24, a8), (A25, 4, c25, n4), (X1, X2, X3, a.data)] Y027.out (List.forall_mem_cons.2 ⟨HF_25.out.over L27.out, List.forall_mem_cons.2 ⟨xA_25.out.over L27.out, List.forall_mem_cons.2 ⟨Y25.out.over L27.out, List.forall_mem_cons.2 ⟨HD_25.out.over L27.out, fun _ h => by cases h⟩⟩⟩⟩)
      clear Y027
      have S27 := Lib.hid (S25.out.over L27.out)
      have b27 := Lib.hid (step b25.out L27.out)
      refine hK _ _ S27.out ?_
      clear hK K
      subst hfr26
      refine wpAnyH_one 14 _ (by kernel_rfl) rfl fun K hK => ?_
      go_simp
      refine (CC.out _ g27 4 _ _ _ _ Y27.out (by omega) (by show 0 + 8 + 8 + 4 + X2 ≤ _; omega)).mono ?_
      rintro e wt28 ⟨v, rfl, hY28, L028⟩
      have OUT := Lib.hid hY28
      have L28 := Lib.hid L028
      clear hY28 L028
      have hsz0 := b27.out.size
      have S28 := Lib.hid (S27.out.over L28.out)
      have b28 := Lib.hid (step b27.out L28.out)
      refine hK _ _ S28.out ?_
      clear hK K
      refine wpAnyH_one 15 _ (by kernel_rfl) rfl fun K hK => ?_
      go_simp
      refine hK _ _ S28.out ?_
      clear hK K
      refine wpAnyH_one 16 _ (by kernel_rfl) rfl fun K hK => ?_
      go_simp
      refine hK _ _ S28.out ?_
      clear hK K
      refine wpAnyH_done (by kernel_rfl) ?_ _
      have HO6 := Lib.hid (OwnZ.mono OUT.out (Nat.le_trans (hsz0) (Nat.le_refl _)))
      go_wp2
      go_ret2
      refine HQ.out _ _ _ rfl ?_ b28.out
      have h9 := HO6.out
      simpa [catL, partX, List.append_assoc] using h9
  · subst h10
    rw [if_neg (by decide)] at HOK
    have HQ := Lib.hid (HQ0.out HOK.out)
    have hb0 : bodyF 10 a = le a.file 8 ++ (le a.locks.length 2 ++ (List.replicate 2 0 ++ locksB a.locks)) := rfl
    rw [hb0] at HQ
    have CK : Hid (∀ w', Below w.heap.size w w' → Calls Tryd.prog 36 #[.slice M1 M2 M3] w' fun e w2 => (∃ v, e = .returned v ∧ OwnZ .u8 5 w2 w'.heap.size v (le a.locks.length 2 ++ (List.replicate 2 0 ++ locksB a.locks))) ∧ Below w'.heap.size w' w2) := fun w' hb => (putLocks_any w' M1 M2 M3 a.locks (HM.out.over hb) hm3 ka.locks).mono fun e w2 ⟨v, h1, h2, h3⟩ => ⟨⟨v, h1, h2⟩, h3⟩
    have HLT : Hid ((le a.locks.length 2 ++ (List.replicate 2 0 ++ locksB a.locks)).length ≤ 1000 ∧ Bytes (le a.locks.length 2 ++ (List.replicate 2 0 ++ locksB a.locks))) := by
      refine ⟨?_, (le_bytes _ _).append ((Bytes.zeros 2).append (locksB_bytes _))⟩
      rw [List.length_append, List.length_append, locksB_len, le_length, List.length_replicate, HM.out.len]
      omega
    obtain ⟨f8, hf8⟩ : ∃ x, x = le a.file 8 := ⟨_, rfl⟩
    rw [← hf8] at CF8 HQ
    obtain ⟨tx, htx⟩ : ∃ x, x = le (a.locks.length : Int) 2 ++ (List.replicate 2 0 ++ locksB a.locks) := ⟨_, rfl⟩
    rw [← htx] at CK HQ HLT
    obtain ⟨hlt, hlb⟩ := HLT.out
    obtain ⟨lt, hltx⟩ : ∃ x, x = tx.length := ⟨_, rfl⟩
    have HLTX := Lib.hid hltx
    rw [← hltx] at hlt
    clear hf8 htx HOK HQ0 hb0 hltx
    go_enter Tryd.func12, Tryd.ntmps12
    go_wp2_with (first
      | ((with_reducible show wpList _ _ _ (⟨some 3, _, _, _, _, _⟩ :: _) _ _); refine wpList_box_blk rfl _ (.tmp 1) rfl cs rfl ?_; intro g w1 hg1 hg2 K1 L1)
      | ((with_reducible show wpList _ _ _ (⟨some 11, _, _, _, _, _⟩ :: _) _ _); refine wpList_load_blk rfl _ (.tmp 3) rfl g rfl _ cs K1 69 _ Tryd.underlying32 rfl size_ask HL ?_)
      | fail)
    refine (CN.out w1 L1.out).mono ?_
    rintro e w2 ⟨rfl, L2⟩
    have K2 := Lib.hid (K1.out.over L2)
    have M2' := Lib.hid (step L1.out L2)
    obtain ⟨c61, c62⟩ := FL.out w2 g K2.out
    clear L2 K1 L1 CN
    obtain ⟨c51, c52, c53, c54, c55, c56, c57, c58, c59, c60⟩ := FC.out w2 g K2.out
    go_wp2_with (first
      | ((with_reducible show wpList _ _ _ (⟨some 26, _, _, _, _, _⟩ :: _) _ _); refine wpList_slice_blk rfl _ _ 1 _ rfl Tryd.underlying93 ([.int .u64 a.file] : List Value) (by kernel_rfl) ?_; intro g3 w3 hg5 hg6 Y3 L3)
      | fail)
    refine (CF8.out w3 g3 Y3.out).mono ?_
    rintro e w4 ⟨Af, cf, rfl, ⟨hOf, hHf⟩, L4⟩
    have HF := Lib.hid hHf
    have K4 := Lib.hid ((K2.out.over L3.out).over L4)
    have M4 := Lib.hid (step (step M2'.out L3.out) L4)
    have OF := Lib.hid (OwnZ.mono hOf (Nat.le_trans M2'.out.size L3.out.size))
    have HXD := Lib.hid (HX.out.over M4.out)
    have hs4 := M4.out.size
    clear hHf hOf L4 L3 Y3 K2 M2' c51 c52 c53 c54 c55 c56 c57 c58 c59 c60 c61 c62 CF8
    obtain ⟨c61, c62⟩ := FL.out w4 g K4.out
    go_wp2_with fail
    refine (CK.out w4 M4.out).mono ?_
    rintro e w5 ⟨⟨v, rfl, hv⟩, L5⟩
    obtain ⟨At, ct, rfl, hHt⟩ := OwnZ.holds8 hv hlb (by rw [← HLTX.out]; omega)
    rw [← HLTX.out] at hHt ⊢
    have HTX := Lib.hid hHt
    have M5 := Lib.hid (step M4.out L5)
    have HF5 := Lib.hid (HF.out.over L5)
    have hs5 := M5.out.size
    clear hv hHt L5 K4 M4 HF OF HXD
    go_wp2_with (first
      | ((with_reducible show wpList _ _ _ (⟨some 102, _, _, _, _, _⟩ :: _) _ _); refine wpList_litParts rfl 2 _ rfl [(Af, 8, cf, f8), (At, lt, ct, tx)] rfl (by kernel_rfl) (List.forall_mem_cons.2 ⟨HF5.out, List.forall_mem_cons.2 ⟨HTX.out, fun _ h => by cases h⟩⟩) ?_; intro g6 w6 hP6 L6)
      | fail)
    refine (CC.out w6 g6 2 _ _ _ _ hP6.out (by omega) (by show 0 + 8 + lt ≤ _; omega)).mono ?_
    rintro e w7 ⟨v, rfl, ho, L7⟩
    have HO6 := Lib.hid (OwnZ.mono ho (Nat.le_trans hs5 L6.out.size))
    have M7 := Lib.hid (step (step M5.out L6.out) L7)
    clear ho L7 L6 hP6
    go_wp2
    go_ret2
    refine HQ.out _ _ _ rfl ?_ M7.out
    have h9 := HO6.out
    simpa [catL, partX, List.append_assoc] using h9
end Go.Proofs.YtdlcjobahdmapaaDoor
