/-
  Layer 5: the contract of the closure of glob.fits that tells two places ('wait').
-/
import Derived.Test.YtfligggojiboeaaDoorGlobA
import Derived.Test.YtfligggojiboeaaDoorGlob2
import Derived.Test.YtfligggojiboeaaDoorBox
namespace Go.Proofs.YtfligggojiboeaaDoor
open Go.RowKit

def ints (L : List Nat) : List Int := L.map (fun n : Nat => (n : Int))
theorem ints_len (L : List Nat) : (ints L).length = L.length := by simp [ints]
theorem ints_getD (L : List Nat) (i : Nat) : (ints L).getD i 0 = ((L.getD i 0 : Nat) : Int) := by
  unfold ints
  simp only [List.getD_eq_getElem?_getD, List.getElem?_map]
  cases L[i]? <;> rfl
theorem ints_append (L M : List Nat) : ints (L ++ M) = ints L ++ ints M := by simp [ints]

/-- how long the slice in a variable is -/
def boxLen (w : World) (b : Nat) : Nat := match w.cell? ⟨b, 0, none⟩ with | some (.slice _ n _) => n | _ => 0
theorem boxLen_of {w : World} {b : Nat} {T : TypeId} {A : Option Addr} {n c : Nat} (h : Box w b T (.slice A n c)) : boxLen w b = n := by
  unfold boxLen
  rw [h.cell]

theorem OwnK.oneCell {k : IntKind} {e : TypeId} {w : World} {base : Nat} {v : Value} {xs : List Int} (h : OwnK k e w base v xs) : v.oneCell' = true := by
  obtain ⟨A, n, c, rfl, _⟩ := h.open
  rfl
theorem OwnK.at {k : IntKind} {e : TypeId} {w : World} {base : Nat} {g n c : Nat} {xs : List Int} (h : OwnK k e w base (.slice (some ⟨g, 0, none⟩) n c) xs) {i : Nat} (hi : i < n) : w.cell? ⟨g, i, none⟩ = some (.int k (xs.getD i 0)) := by
  obtain ⟨A', n', c', he, _, _, _, _, hc⟩ := h.open
  cases he
  obtain ⟨g', e1, _, _, hcc⟩ := hc (by omega)
  cases e1
  exact hcc i hi
theorem OwnK.length {k : IntKind} {e : TypeId} {w : World} {base : Nat} {A : Option Addr} {n c : Nat} {xs : List Int} (h : OwnK k e w base (.slice A n c) xs) : xs.length = n := by
  obtain ⟨A', n', c', he, hl, _⟩ := h.open
  cases he
  exact hl

theorem boxLen_own {w w' : World} {b : Nat} {T : TypeId} {v : Value} {k : IntKind} {e : TypeId} {base : Nat} {xs : List Int} (h : Box w b T v) (ho : OwnK k e w' base v xs) : boxLen w b = xs.length := by
  obtain ⟨A, n, c, rfl, hl, _⟩ := ho.open
  rw [boxLen_of h, hl]

def WaitPost (w : World) (base b1 : Nat) (v : Value) (M : List Nat) (e : Ending) (w' : World) : Prop :=
  e = .returned (.tuple #[]) ∧ ∃ v', Box w' b1 33 v' ∧ OwnK .i64 3 w' base v' (ints M) ∧ Turned w w' b1 v ∧ Whither w v v'

theorem last_run {L : List Nat} {m k d : Nat} (h : LastIs L m) (_hm : m ≤ k) : LastIs (L ++ List.range' k d) (if d = 0 then m else k + d) := by
  cases d with
  | zero => simpa using h
  | succ d =>
    refine .inr ⟨by simp [List.range'_succ], ?_⟩
    rw [if_neg (by omega), List.range'_concat]
    simp
    omega

set_option maxRecDepth 100000 in
set_option maxHeartbeats 4000000 in
theorem wait_any (w : World) (base base2 b1 b2 : Nat) (v q : Value) (L : List Nat) (p : List Int) (k m : Nat) (hk : k ≤ p.length) (hp : p.length ≤ 1000000) (hL : L.length ≤ 1000000) (hlast : LastIs L m) (hB1 : Box w b1 33 v) (hB2 : Box w b2 38 q)
    (ho : OwnK .i64 3 w base v (ints L)) (hq : OwnK .i32 21 w base2 q p) (hb : base ≤ w.heap.size) :
    Calls Tryd.prog 34 #[.int .i64 k, .pointer (some ⟨b1, 0, none⟩), .pointer (some ⟨b2, 0, none⟩)] w (WaitPost w base b1 v (waitL p m L k)) := by
  by_cases hm : m ≤ k
  · have hs := stars_le p k hk
    obtain ⟨st1, st2⟩ := stars_spec p _ k rfl
    have hne12 : b1 ≠ b2 := hB1.ne hB2 (by decide)
    have hap : Apart v q := fun i hv hqi => by
      obtain ⟨_, cs, h1⟩ := ho.block hv
      obtain ⟨_, cs', h2⟩ := hq.block hqi
      rw [h1] at h2
      simp at h2
    have hvb2 := hB2.own ho (by decide)
    have hqb1 := hB1.own hq (by decide)
    obtain ⟨S, hS⟩ : ∃ S, S = stars p k := ⟨_, rfl⟩
    have hW : waitL p m L k = L ++ List.range' k (S + 1) := by unfold waitL; rw [if_pos hm, hS]
    rw [hW]
    rw [← hS] at hs st1 st2
    obtain ⟨l0, hl0⟩ : ∃ l, l = L.length := ⟨_, rfl⟩
    have HLAST := Lib.hid hlast
    have HL0 := Lib.hid hl0
    have HQ := Lib.hid hq
    have HB2 := Lib.hid hB2
    have HB1 := Lib.hid hB1
    have HO := Lib.hid ho
    have HAP := Lib.hid hap
    have ST1 := Lib.hid st1
    have ST2 := Lib.hid st2
    clear hW hS hlast hl0 hq hB2 hB1 ho hap st1 st2
    go_enter Tryd.func34, Tryd.ntmps34
    go_wp2
    go_loopw [0] (fun i wr => ∃ (d z : Nat) (v' : Value), ((d ≤ S ∧ z = k + d) ∨ (d = S + 1 ∧ z = k + S)) ∧ i = .int .i64 z ∧ Hid (Box wr b1 33 v') ∧ Hid (OwnK .i64 3 wr base v' (ints (L ++ List.range' k d))) ∧ Hid (Turned w wr b1 v) ∧ Hid (Whither w v v')) (fun _ wr => l0 + S + 1 - boxLen wr b1)
    case atStart => exact ⟨0, k, v, .inl ⟨Nat.zero_le _, rfl⟩, rfl, HB1, by simpa using HO, Turned.refl _ _ _, Whither.refl _ _⟩
    case round =>
      obtain ⟨d, z, v', hd, rfl, BX, OX, TX, WX⟩ := hrel
      obtain ⟨A, n, c, rfl, hn, hnc, _, _, hcell⟩ := OX.out.open
      rw [ints_len] at hn
      have hnl : n = l0 + d := by have := HL0.out; rw [List.length_append, List.length_range'] at hn; omega
      have hlr := last_run (d := d) HLAST.out hm
      have hbx := BX.out.cell
      have hbase : base ≤ wr.heap.size := by have := TX.out.size; omega
      have hboxlen := boxLen_of BX.out
      obtain ⟨M, hM⟩ : ∃ M, M = L ++ List.range' k d := ⟨_, rfl⟩
      have hMz : L ++ List.range' k (d + 1) = M ++ [k + d] := by rw [hM, List.range'_concat]; simp
      rw [← hM] at OX hn hlr hcell
      have HMZ := Lib.hid hMz
      have HN := Lib.hid hn
      have HBL := Lib.hid hboxlen
      have hMM := hM
      clear hM hMz hboxlen
      rcases hd with ⟨hdS, hz⟩ | ⟨hdS, hz⟩
      · obtain ⟨Aq, nq, cq, rfl, hnq, _, _, _, hcq⟩ := HQ.out.open
        have HNQ := Lib.hid hnq
        have hlow : (M = [] ∧ n = 0) ∨ ∃ N1 y, n = N1 + 1 ∧ y < z ∧ M.getD N1 0 = y := by
          rcases hlr with ⟨h1, _⟩ | ⟨h1, h2⟩
          · exact .inl ⟨h1, by rw [h1] at hn; exact hn.symm⟩
          · have hpos : 0 < M.length := List.length_pos_iff.2 h1
            refine .inr ⟨n - 1, M.getD (n - 1) 0, by omega, ?_, rfl⟩
            rw [hn] at h2
            split at h2 <;> omega
        have hzq : z ≤ nq := by omega
        have hmz : Hid (ints (L ++ List.range' k (d + 1)) = ints M ++ [(z : Int)]) := by
          show _ = _
          rw [HMZ.out, ints_append, hz]
          rfl
        rw [← hz] at hlr
        have hnz : n < 2000002 := by have := HL0.out; omega
        rcases hlow with ⟨_, rfl⟩ | ⟨N1, y, rfl, hyz, hy⟩
        · have hz0 := hz
          have HZ := Lib.hid hz
          have HNL := Lib.hid hnl
          by_cases hd1 : d < S
          · have hstar : p.getD z 0 = 42 := by rw [hz]; exact ST1.out d hd1
            have hzl : z < nq := by have := getD_lt (by omega) hstar; omega
            obtain ⟨gq, rfl, _, _, _⟩ := hcq (by omega)
            have HST := Lib.hid hstar
            clear hcell hlr hn hnq hz0 hcq hz hnl hstar
            go_wp2_with (first
              | (at_builtin; go_loud (refine wpList_append_litW rfl (.tmp 17) (.tmp 19) .i64 33 3 8 Tryd.underlying33 info_i64 rfl base _ (ints M) [(z : Int)] _ rfl 1 1 rfl rfl rfl OX.out (by rw [ints_len]; have := HN.out; omega) (by rw [ints_len]; have := HN.out; omega) hbase ?_; intro v1 w1 ho1 hg1 hw1))
              | ((with_reducible show wpList _ _ _ (⟨none, _, _, _, _, _⟩ :: _) _ _); go_loud (refine wpList_store_box rfl _ (.tmp 1) (.tmp 20) rfl b1 rfl v1 rfl 33 _ (BX.out.grew hg1.out OX.out (by decide)) (by kernel_rfl) ho1.out.oneCell ?_; intro w2 hB3 hO2); have T2 := Lib.hid (TX.out.append WX.out hg1.out hO2.out); have gb2 := (HB2.out.turned T2.out hne12.symm hvb2).cell; have gq2 := (HQ.out.turned T2.out hqb1 HAP.out).at hzl; rw [HST.out] at gq2)
              | fail)
            go_roundw
            case rel =>
              refine ⟨d + 1, z + 1, v1, .inl ⟨hd1, by have := HZ.out; omega⟩, by go_num, hB3, ?_, T2, WX.out.trans hw1.out TX.out.size⟩
              have h := ho1.out.only hO2.out (BX.out.grew hg1.out OX.out (by decide)) (by decide)
              rw [← hmz.out] at h
              exact h
            case measure =>
              have e1 := boxLen_own hB3.out ho1.out
              have e2 := HBL.out
              have e3 := HN.out
              have e4 := HNL.out
              rw [List.length_append, ints_len, e3] at e1
              simp only [List.length_cons, List.length_nil] at e1
              rw [e1, e2]
              omega
          have hns : p.getD z 0 ≠ 42 := by rw [hz, show d = S by omega]; exact ST2.out
          by_cases hzl : z < nq
          · obtain ⟨gq, rfl, _, _, _⟩ := hcq (by omega)
            obtain ⟨pc, hpc⟩ : ∃ pc, p.getD z 0 = pc := ⟨_, rfl⟩
            rw [hpc] at hns
            have HPC := Lib.hid hpc
            have htn : (pc == 42) = false := by simpa using hns
            clear hcell hlr hn hnq hz0 hcq hz hnl hpc
            go_wp2_with (first
              | (at_builtin; go_loud (refine wpList_append_litW rfl (.tmp 17) (.tmp 19) .i64 33 3 8 Tryd.underlying33 info_i64 rfl base _ (ints M) [(z : Int)] _ rfl 1 1 rfl rfl rfl OX.out (by rw [ints_len]; have := HN.out; omega) (by rw [ints_len]; have := HN.out; omega) hbase ?_; intro v1 w1 ho1 hg1 hw1))
              | ((with_reducible show wpList _ _ _ (⟨none, _, _, _, _, _⟩ :: _) _ _); go_loud (refine wpList_store_box rfl _ (.tmp 1) (.tmp 20) rfl b1 rfl v1 rfl 33 _ (BX.out.grew hg1.out OX.out (by decide)) (by kernel_rfl) ho1.out.oneCell ?_; intro w2 hB3 hO2); have T2 := Lib.hid (TX.out.append WX.out hg1.out hO2.out); have gb2 := (HB2.out.turned T2.out hne12.symm hvb2).cell; have gq2 := (HQ.out.turned T2.out hqb1 HAP.out).at hzl; rw [HPC.out] at gq2)
              | fail)
            go_roundw
            case rel =>
              refine ⟨d + 1, z, v1, .inr ⟨by omega, by have := HZ.out; omega⟩, rfl, hB3, ?_, T2, WX.out.trans hw1.out TX.out.size⟩
              have h := ho1.out.only hO2.out (BX.out.grew hg1.out OX.out (by decide)) (by decide)
              rw [← hmz.out] at h
              exact h
            case measure =>
              have e1 := boxLen_own hB3.out ho1.out
              have e2 := HBL.out
              have e3 := HN.out
              have e4 := HNL.out
              rw [List.length_append, ints_len, e3] at e1
              simp only [List.length_cons, List.length_nil] at e1
              rw [e1, e2]
              omega
          · clear hcell hlr hn hnq hz0 hcq hz hnl hns
            have hze : ¬ z < nq := hzl
            go_wp2_with (first
              | (at_builtin; go_loud (refine wpList_append_litW rfl (.tmp 17) (.tmp 19) .i64 33 3 8 Tryd.underlying33 info_i64 rfl base _ (ints M) [(z : Int)] _ rfl 1 1 rfl rfl rfl OX.out (by rw [ints_len]; have := HN.out; omega) (by rw [ints_len]; have := HN.out; omega) hbase ?_; intro v1 w1 ho1 hg1 hw1))
              | ((with_reducible show wpList _ _ _ (⟨none, _, _, _, _, _⟩ :: _) _ _); go_loud (refine wpList_store_box rfl _ (.tmp 1) (.tmp 20) rfl b1 rfl v1 rfl 33 _ (BX.out.grew hg1.out OX.out (by decide)) (by kernel_rfl) ho1.out.oneCell ?_; intro w2 hB3 hO2); have T2 := Lib.hid (TX.out.append WX.out hg1.out hO2.out); have gb2 := (HB2.out.turned T2.out hne12.symm hvb2).cell)
              | fail)
            go_roundw
            case rel =>
              refine ⟨d + 1, z, v1, .inr ⟨by omega, by have := HZ.out; omega⟩, rfl, hB3, ?_, T2, WX.out.trans hw1.out TX.out.size⟩
              have h := ho1.out.only hO2.out (BX.out.grew hg1.out OX.out (by decide)) (by decide)
              rw [← hmz.out] at h
              exact h
            case measure =>
              have e1 := boxLen_own hB3.out ho1.out
              have e2 := HBL.out
              have e3 := HN.out
              have e4 := HNL.out
              rw [List.length_append, ints_len, e3] at e1
              simp only [List.length_cons, List.length_nil] at e1
              rw [e1, e2]
              omega
        · obtain ⟨g, rfl, _, _, hcc⟩ := hcell (by omega)
          have gl := hcc N1 (by omega)
          rw [ints_getD, hy] at gl
          have htest : ((N1 : Int) + 1 == 0 || decide (y < z)) = true := by
            have h2 : decide (y < z) = true := decide_eq_true hyz
            rw [h2, Bool.or_true]
          have HZ := Lib.hid hz
          have HNL := Lib.hid hnl
          by_cases hd1 : d < S
          · have hstar : p.getD z 0 = 42 := by rw [hz]; exact ST1.out d hd1
            have hzl : z < nq := by have := getD_lt (by omega) hstar; omega
            obtain ⟨gq, rfl, _, _, _⟩ := hcq (by omega)
            have HST := Lib.hid hstar
            clear hcell hcc hlr hy hn hnq hcq hz hnl hstar
            go_wp2_with (first
              | (at_builtin; go_loud (refine wpList_append_litW rfl (.tmp 17) (.tmp 19) .i64 33 3 8 Tryd.underlying33 info_i64 rfl base _ (ints M) [(z : Int)] _ rfl 1 1 rfl rfl rfl OX.out (by rw [ints_len]; have := HN.out; omega) (by rw [ints_len]; have := HN.out; omega) hbase ?_; intro v1 w1 ho1 hg1 hw1))
              | ((with_reducible show wpList _ _ _ (⟨none, _, _, _, _, _⟩ :: _) _ _); go_loud (refine wpList_store_box rfl _ (.tmp 1) (.tmp 20) rfl b1 rfl v1 rfl 33 _ (BX.out.grew hg1.out OX.out (by decide)) (by kernel_rfl) ho1.out.oneCell ?_; intro w2 hB3 hO2); have T2 := Lib.hid (TX.out.append WX.out hg1.out hO2.out); have gb2 := (HB2.out.turned T2.out hne12.symm hvb2).cell; have gq2 := (HQ.out.turned T2.out hqb1 HAP.out).at hzl; rw [HST.out] at gq2)
              | fail)
            go_roundw
            case rel =>
              refine ⟨d + 1, z + 1, v1, .inl ⟨hd1, by have := HZ.out; omega⟩, by go_num, hB3, ?_, T2, WX.out.trans hw1.out TX.out.size⟩
              have h := ho1.out.only hO2.out (BX.out.grew hg1.out OX.out (by decide)) (by decide)
              rw [← hmz.out] at h
              exact h
            case measure =>
              have e1 := boxLen_own hB3.out ho1.out
              have e2 := HBL.out
              have e3 := HN.out
              have e4 := HNL.out
              rw [List.length_append, ints_len, e3] at e1
              simp only [List.length_cons, List.length_nil] at e1
              rw [e1, e2]
              omega
          have hns : p.getD z 0 ≠ 42 := by rw [hz, show d = S by omega]; exact ST2.out
          by_cases hzl : z < nq
          · obtain ⟨gq, rfl, _, _, _⟩ := hcq (by omega)
            obtain ⟨pc, hpc⟩ : ∃ pc, p.getD z 0 = pc := ⟨_, rfl⟩
            rw [hpc] at hns
            have HPC := Lib.hid hpc
            have htn : (pc == 42) = false := by simpa using hns
            clear hcell hcc hlr hy hn hnq hcq hz hnl hpc
            go_wp2_with (first
              | (at_builtin; go_loud (refine wpList_append_litW rfl (.tmp 17) (.tmp 19) .i64 33 3 8 Tryd.underlying33 info_i64 rfl base _ (ints M) [(z : Int)] _ rfl 1 1 rfl rfl rfl OX.out (by rw [ints_len]; have := HN.out; omega) (by rw [ints_len]; have := HN.out; omega) hbase ?_; intro v1 w1 ho1 hg1 hw1))
              | ((with_reducible show wpList _ _ _ (⟨none, _, _, _, _, _⟩ :: _) _ _); go_loud (refine wpList_store_box rfl _ (.tmp 1) (.tmp 20) rfl b1 rfl v1 rfl 33 _ (BX.out.grew hg1.out OX.out (by decide)) (by kernel_rfl) ho1.out.oneCell ?_; intro w2 hB3 hO2); have T2 := Lib.hid (TX.out.append WX.out hg1.out hO2.out); have gb2 := (HB2.out.turned T2.out hne12.symm hvb2).cell; have gq2 := (HQ.out.turned T2.out hqb1 HAP.out).at hzl; rw [HPC.out] at gq2)
              | fail)
            go_roundw
            case rel =>
              refine ⟨d + 1, z, v1, .inr ⟨by omega, by have := HZ.out; omega⟩, rfl, hB3, ?_, T2, WX.out.trans hw1.out TX.out.size⟩
              have h := ho1.out.only hO2.out (BX.out.grew hg1.out OX.out (by decide)) (by decide)
              rw [← hmz.out] at h
              exact h
            case measure =>
              have e1 := boxLen_own hB3.out ho1.out
              have e2 := HBL.out
              have e3 := HN.out
              have e4 := HNL.out
              rw [List.length_append, ints_len, e3] at e1
              simp only [List.length_cons, List.length_nil] at e1
              rw [e1, e2]
              omega
          · clear hcell hcc hlr hy hn hnq hcq hz hnl hns
            have hze : ¬ z < nq := hzl
            go_wp2_with (first
              | (at_builtin; go_loud (refine wpList_append_litW rfl (.tmp 17) (.tmp 19) .i64 33 3 8 Tryd.underlying33 info_i64 rfl base _ (ints M) [(z : Int)] _ rfl 1 1 rfl rfl rfl OX.out (by rw [ints_len]; have := HN.out; omega) (by rw [ints_len]; have := HN.out; omega) hbase ?_; intro v1 w1 ho1 hg1 hw1))
              | ((with_reducible show wpList _ _ _ (⟨none, _, _, _, _, _⟩ :: _) _ _); go_loud (refine wpList_store_box rfl _ (.tmp 1) (.tmp 20) rfl b1 rfl v1 rfl 33 _ (BX.out.grew hg1.out OX.out (by decide)) (by kernel_rfl) ho1.out.oneCell ?_; intro w2 hB3 hO2); have T2 := Lib.hid (TX.out.append WX.out hg1.out hO2.out); have gb2 := (HB2.out.turned T2.out hne12.symm hvb2).cell)
              | fail)
            go_roundw
            case rel =>
              refine ⟨d + 1, z, v1, .inr ⟨by omega, by have := HZ.out; omega⟩, rfl, hB3, ?_, T2, WX.out.trans hw1.out TX.out.size⟩
              have h := ho1.out.only hO2.out (BX.out.grew hg1.out OX.out (by decide)) (by decide)
              rw [← hmz.out] at h
              exact h
            case measure =>
              have e1 := boxLen_own hB3.out ho1.out
              have e2 := HBL.out
              have e3 := HN.out
              have e4 := HNL.out
              rw [List.length_append, ints_len, e3] at e1
              simp only [List.length_cons, List.length_nil] at e1
              rw [e1, e2]
              omega
      · obtain ⟨N1, y, rfl, hyz, hy⟩ : ∃ N1 y, n = N1 + 1 ∧ y = z ∧ M.getD N1 0 = y := by
          rcases hlr with ⟨h1, h2⟩ | ⟨h1, h2⟩
          · rw [if_neg (by omega)] at h2
            omega
          · have hpos : 0 < M.length := List.length_pos_iff.2 h1
            refine ⟨n - 1, M.getD (n - 1) 0, by omega, ?_, rfl⟩
            rw [hn, if_neg (by omega)] at h2
            omega
        obtain ⟨g, rfl, _, _, hcc⟩ := hcell (by omega)
        have gl := hcc N1 (by omega)
        rw [ints_getD, hy] at gl
        have htest : ((N1 : Int) + 1 == 0 || decide (y < z)) = false := by
          have h1 : ((N1 : Int) + 1 == 0) = false := by simp; omega
          have h2 : decide (y < z) = false := decide_eq_false (by omega)
          rw [h1, h2]
          rfl
        have HMM : Hid (M = L ++ List.range' k (S + 1)) := by
          show _ = _
          rw [hMM, hdS]
        clear hcell hcc hlr hy hn hdS hz hnl hyz hMM
        go_wp2
        go_end0
        refine ⟨rfl, _, BX.out, ?_, TX.out, WX.out⟩
        rw [← HMM.out]
        exact OX.out
  · have hW : waitL p m L k = L := by unfold waitL; rw [if_neg hm]
    rw [hW]
    obtain ⟨A, n, c, rfl, hn, _, _, _, hc⟩ := ho.open
    rw [ints_len] at hn
    obtain ⟨N1, y, rfl, hy, hky⟩ : ∃ N1 y, n = N1 + 1 ∧ L.getD N1 0 = y ∧ k ≤ y := by
      rcases hlast with ⟨h1, h2⟩ | ⟨h1, h2⟩
      · omega
      · have hpos : 0 < L.length := List.length_pos_iff.2 h1
        exact ⟨n - 1, L.getD (n - 1) 0, by omega, rfl, by rw [hn] at h2; omega⟩
    obtain ⟨g, rfl, _, _, hcc⟩ := hc (by omega)
    have gl := hcc N1 (by omega)
    rw [ints_getD, hy] at gl
    have gb := hB1.cell
    have htest : ((N1 : Int) + 1 == 0 || decide (y < k)) = false := by
      have h1 : ((N1 : Int) + 1 == 0) = false := by simp; omega
      have h2 : decide (y < k) = false := decide_eq_false (by omega)
      rw [h1, h2]
      rfl
    have HO := Lib.hid ho
    have HB := Lib.hid hB1
    clear hcc hc ho hB1 hlast hy hq hB2 hW
    go_enter Tryd.func34, Tryd.ntmps34
    go_wp2
    refine wp_loop_rounds 1 ?_
    rw [rounds_succ]
    go_wp2
    go_end0
    exact ⟨rfl, _, HB.out, HO.out, Turned.refl _ _ _, Whither.refl _ _⟩
end Go.Proofs.YtfligggojiboeaaDoor
