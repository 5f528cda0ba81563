/-
  Layer 7 (head): the contract of head.taken.
-/
import Derived.Test.YthoddihoccpidaaHeadT
namespace Go.Proofs.Ythoddihoccpidaa
open Go.RowKit

theorem getOf_at (xs : List Int) (hl : xs.length = 64) (j : Nat) (hj : j < 11) : getOf xs (offs.getD j 0 : Nat) (szs.getD j 0 : Nat) = numAt xs (offs.getD j 0) (szs.getD j 0) := by
  have h1 := offs_step j hj
  have hp : partErr xs.length (offs.getD j 0 : Nat) (szs.getD j 0 : Nat) = 0 := by
    unfold partErr
    rw [if_neg (by omega), if_neg (by omega)]
  unfold getOf getErr numAt
  rw [if_pos (size_of j hj), if_pos hp, Int.toNat_natCast, Int.toNat_natCast]

theorem call_fnk (j : Nat) (hj : j < 11) (args : Array Value) (w : World) : (callFunc (fnk j) args).run Try.prog w = .ok (.enter (fnk j) args) w := by
  refine eleven (p := fun j => (callFunc (fnk j) args).run Try.prog w = .ok (.enter (fnk j) args) w) ?_ ?_ ?_ ?_ ?_ ?_ ?_ ?_ ?_ ?_ ?_ j hj <;> (unfold fnk; go_simp)

set_option maxRecDepth 100000 in
set_option maxHeartbeats 2000000 in
theorem taken_any (w : World) (A : Option Addr) (c : Nat) (xs : List Int) (hx : Holds w w.heap.size A 64 c xs) :
    Calls Try.prog 30 #[.slice A 64 c] w fun e w' => e = .returned (hv (takenP xs)) ∧ Below w.heap.size w w' := by
  have hl := hx.len
  have CF : Hid (∀ (w : World) (g : Nat), HB w g zeroHd → Calls Try.prog 24 #[.pointer (some ⟨g, 0, none⟩)] w (FieldsPost w g zeroHd)) := fun w g B => fields_any w g zeroHd zeroHd_ok B
  have CG : Hid (∀ (w : World) (B : Nat), Holds w B A 64 c xs → ∀ j, j < 11 → Calls Try.prog 49 #[.slice A 64 c, .int .i64 (offs.getD j 0 : Nat), .int .i64 (szs.getD j 0 : Nat)] w fun e w' => ∃ er, e = .returned (.tuple #[.int .u64 (numAt xs (offs.getD j 0) (szs.getD j 0)), .int .i64 er]) ∧ w = w') := fun w B hh j hj => by
    have h1 := offs_step j hj
    rw [← getOf_at xs hl j hj]
    exact (Get_any w B A 64 c xs _ _ hh (by omega) (by omega)).mono fun e w' ⟨he, hw⟩ => ⟨_, he, hw⟩
  have TK : Hid (∀ (w : World) (p g : Nat) (j : Nat), j < 11 → HB w g (tk xs j) → Blk w p 49 [.pointer (some ⟨g, 0, none⟩)] →
      Calls Try.prog (fnk j) (#[.int .u64 (numAt xs (offs.getD j 0) (szs.getD j 0))] ++ (if j < 2 then #[] else #[.pointer (some ⟨p, 0, none⟩)])) w fun e w' => e = .returned (.tuple #[]) ∧ HB w' g (tk xs (j + 1)) ∧ Save g w w') := fun w p g j hj B Pp => by
    have h1 := numAt_k xs hx.byte j
    exact takek_any w p g (tk xs j) _ (tk_ok xs hx.byte j (by omega)) j hj h1.1 h1.2 B Pp
  have HX := Lib.hid hx
  have ZH := Lib.hid zero_hd
  have HZ := Lib.hid (hcells_len zeroHd_ok)
  have HZO := Lib.hid (hcells_one zeroHd)
  have BH := built_hd
  have T0 : Hid (tk xs 0 = zeroHd) := rfl
  have K11 := Lib.hid (tk_ok xs hx.byte 11 (Nat.le_refl _))
  have KF : Hid ((takenP xs).ok) := takenP_ok xs hx.byte hl
  have HS : Hid (((xs.drop 48).take 16).length = 16) := by show _ = _; simp [hl]
  have HT : Hid ({ tk xs 11 with sg := (xs.drop 48).take 16 } = takenP xs) := rfl
  have SP := Lib.hid (hx.part (k := 48) (m := 16) (c' := c - 48) (by omega) (by omega) (by have := hx.fit; omega))
  have hc64 := hx.fit
  obtain ⟨zs, hzs⟩ : ∃ zs, zs = hcells zeroHd := ⟨_, rfl⟩
  have HZS := Lib.hid hzs
  rw [← hzs] at ZH HZ HZO BH
  have ZF := Lib.hid zero_fd
  obtain ⟨zf, hzf⟩ : ∃ zf, zf = fzero := ⟨_, rfl⟩
  have HZF : Hid (zf.length = 4) := by rw [hzf]; rfl
  rw [← hzf] at ZF
  obtain ⟨b, off, rfl, _, _⟩ := hx.cells (by omega)
  clear hx hl hzs hzf
  go_enter Try.func30, Try.ntmps30
  go_wp2_with (first
    | ((with_reducible show wpList _ _ _ (⟨some 2, _, _, _, _, _⟩ :: _) _ _); refine wpList_alloc_blk rfl _ rfl zs _ ZH ?_; intro g0 w1 hg1 hg2 B1 L1)
    | ((with_reducible show wpList _ _ _ (⟨some 8, _, _, _, _, _⟩ :: _) _ _); refine wpList_build_none rfl _ rfl zs BH ?_)
    | ((with_reducible show wpList _ _ _ (⟨some 3, _, _, _, _, _⟩ :: _) _ _); refine wpList_alloc_blk rfl _ rfl zs _ ZH ?_; intro g w2 hg3 hg4 X2 L2)
    | ((with_reducible show wpList _ _ _ (⟨none, .store _ (.tmp 3) _, _, _, _, _⟩ :: _) _ _); refine wpList_store_blk rfl _ (.tmp 3) (.tmp 8) rfl g rfl _ zs zs rfl X2 26 size_hd HZ HZ HZO ?_; intro w3 X3 O3 hg5)
    | fail)
  have hs2 := L2.out.size
  have L13 : Hid (Below w.heap.size w w3) := below_only (step L1.out L2.out) O3.out (by omega)
  have B3 : Hid (Blk w3 g0 28 zs) := (B1.out.over L2.out).only O3.out (by omega)
  have hgg : g0 < g := by omega
  have hgw : w.heap.size ≤ g0 := hg1
  refine (CF.out _ g (HB.of HZS.out X3.out)).mono ?_
  rintro e w4 ⟨p, G, rfl, hp, hpG, P4, F4, L4⟩
  have X4 : Hid (HB w4 g (tk xs 0)) := by rw [T0.out]; exact HB.of HZS.out (X3.out.over L4)
  have B4 : Hid (Blk w4 g0 28 zs) := B3.out.over L4
  have L14 := Lib.hid (step L13.out L4)
  have hgp : g < p := by omega
  have P4' := Lib.hid P4
  have F4' := Lib.hid F4
  clear B1 L1 X2 L2 X3 O3 L13 B3 P4 F4 L4 hs2 hg1 hg2 hg3 hg4 hg5 hp CF T0
  go_wp2_with fail
  go_loopw [5, 6, 7, 11] (fun _ _ _ i wr => ∃ j : Nat, j ≤ 11 ∧ i = .int .i64 j ∧ Hid (HB wr g (tk xs j)) ∧ Hid (Blk wr G 52 (fcells p zeroHd)) ∧ Hid (Blk wr p 49 [.pointer (some ⟨g, 0, none⟩)]) ∧ Hid (Blk wr g0 28 zs) ∧ Hid (Below w.heap.size w wr)) (fun _ _ _ i _ => 11 - (intOf i).toNat)
  case atStart => exact ⟨0, Nat.zero_le _, rfl, X4, F4', P4', B4, L14⟩
  case round =>
    clear X4 F4' P4' B4 L14
    obtain ⟨j, hj, rfl, XX, FF, PP, BB, LL⟩ := hrel
    by_cases hlt : j < 11
    · have h1 := offs_step j hlt
      have hrange := fcells_range FF.out j hlt
      have CGj : Hid (∀ (w : World) (B : Nat), Holds w B (some ⟨b, off, none⟩) 64 c xs → Calls Try.prog 49 #[.slice (some ⟨b, off, none⟩) 64 c, .int .i64 (offs.getD j 0 : Nat), .int .i64 (szs.getD j 0 : Nat)] w fun e w' => ∃ er, e = .returned (.tuple #[.int .u64 (numAt xs (offs.getD j 0) (szs.getD j 0)), .int .i64 er]) ∧ w = w') := fun w B hh => CG.out w B hh j hlt
      have TKj : Hid (∀ (w : World), HB w g (tk xs j) → Blk w p 49 [.pointer (some ⟨g, 0, none⟩)] →
        Calls Try.prog (fnk j) (#[.int .u64 (numAt xs (offs.getD j 0) (szs.getD j 0))] ++ (if j < 2 then #[] else #[.pointer (some ⟨p, 0, none⟩)])) w fun e w' => e = .returned (.tuple #[]) ∧ HB w' g (tk xs (j + 1)) ∧ Save g w w') := fun w B Pp => TK.out w p g j hlt B Pp
      have EL : Hid ((fel p zeroHd j).length = 4) := rfl
      have EO := Lib.hid (fel_one p zeroHd j)
      have E0 : Hid ((fel p zeroHd j)[0]? = some (.int .i64 (offs.getD j 0 : Nat))) := rfl
      have E1 : Hid ((fel p zeroHd j)[1]? = some (.int .i64 (szs.getD j 0 : Nat))) := rfl
      have E3 : Hid ((fel p zeroHd j)[3]? = some (.func (.func (fnk j)) #[] (if j < 2 then #[] else #[.pointer (some ⟨p, 0, none⟩)]))) := rfl
      obtain ⟨el, hel⟩ : ∃ el, el = fel p zeroHd j := ⟨_, rfl⟩
      rw [← hel] at EL EO E0 E1 E3 hrange
      obtain ⟨n, hn⟩ : ∃ n, n = numAt xs (offs.getD j 0) (szs.getD j 0) := ⟨_, rfl⟩
      rw [← hn] at CGj TKj
      obtain ⟨at_, hat⟩ : ∃ at_, at_ = offs.getD j 0 := ⟨_, rfl⟩
      obtain ⟨sz, hsz⟩ : ∃ sz, sz = szs.getD j 0 := ⟨_, rfl⟩
      have hcf := call_fnk j hlt
      obtain ⟨F, hF⟩ : ∃ F, F = fnk j := ⟨_, rfl⟩
      obtain ⟨cap, hcap⟩ : ∃ cap : Array Value, cap = if j < 2 then #[] else #[.pointer (some ⟨p, 0, none⟩)] := ⟨_, rfl⟩
      rw [← hat] at E0 CGj h1
      rw [← hsz] at E1 CGj h1
      rw [← hF, ← hcap] at E3 TKj
      rw [← hF] at hcf
      obtain ⟨_, h48, hs2, hs8⟩ := h1
      have RNG := Lib.hid hrange
      have hgl := XX.out.lt
      have hGl := FF.out.lt
      have hpl := PP.out.lt
      have hwl := LL.out.size
      clear hel hn hat hsz hF hcap hrange CG TK
      go_wp2_with (first
        | ((with_reducible show wpList _ _ _ (⟨some 14, _, _, _, _, _⟩ :: _) _ _); refine wpList_load_mid rfl _ (.tmp 13) rfl G (j * 4) rfl el _ RNG.out Try.underlying52 rfl (by rw [size_fd, EL.out]) ?_)
        | ((with_reducible show wpList _ _ _ (⟨some 5, _, _, _, _, _⟩ :: _) _ _); refine wpList_alloc_blk rfl _ rfl zf _ ZF ?_; intro f w5 hf1 hf2 X5 L5)
        | ((with_reducible show wpList _ _ _ (⟨none, .store _ (.tmp 5) _, _, _, _, _⟩ :: _) _ _); refine wpList_store_blk rfl _ (.tmp 5) (.tmp 14) rfl f rfl _ zf el rfl X5 4 size_fd HZF EL EO ?_; intro w6 X6 O6 hf3; have gc0 := (X6.out.cell 0).trans E0.out; have gc1 := (X6.out.cell 1).trans E1.out; have gc3 := (X6.out.cell 3).trans E3.out)
        | fail)
      have L6 : Hid (Below wr.heap.size wr w6) := below_only L5.out O6.out hf1
      have L66 := Lib.hid (step LL.out L6.out)
      refine (CGj.out w6 _ (HX.out.below L66.out)).mono ?_
      rintro e w7 ⟨er, rfl, rfl⟩
      have X7 : Hid (HB w6 g (tk xs j)) := Blk.over XX.out L6.out
      have P7 := Lib.hid (PP.out.over L6.out)
      go_wp2_with fail
      refine (TKj.out w6 X7.out P7.out).mono ?_
      rintro e w8 ⟨rfl, X8, S8⟩
      have hg6 := X7.out.lt
      have LS : Hid (Below w.heap.size w w8) := L66.out.trans (S8.below (by omega) (by have := L66.out.size; omega))
      have F8 : Hid (Blk w8 G 52 (fcells p zeroHd)) := (FF.out.over L6.out).save S8 (by omega)
      have P8 : Hid (Blk w8 p 49 [.pointer (some ⟨g, 0, none⟩)]) := P7.out.save S8 (by omega)
      have B8 : Hid (Blk w8 g0 28 zs) := (BB.out.over L6.out).save S8 (by omega)
      have X8' := Lib.hid X8
      clear XX FF PP BB LL L5 O6 L6 L66 X5 X6 gc0 gc1 gc3 RNG CGj TKj X7 P7 hcf S8 X8
      go_wp2_with fail
      go_roundw
      case rel => exact ⟨j + 1, by omega, by go_num, X8', F8, P8, B8, LS⟩
      case measure => simp [intOf]; omega
    · obtain rfl : j = 11 := by omega
      have hgl := XX.out.lt
      have XD : Hid (Blk wr.drew g 28 (hcells (tk xs 11))) := XX.out
      have SD : Hid (Holds wr.drew w.heap.size (some ⟨b, off + 48, none⟩) 16 (c - 48) ((xs.drop 48).take 16)) := by
        have h1 := (SP.out.below LL.out).drew
        rw [show Option.map (fun x : Addr => x.add 48) (some ⟨b, off, none⟩) = some ⟨b, off + 48, none⟩ from by simp [Addr.add_mid]] at h1
        exact h1
      have BD : Hid (Blk wr.drew g0 28 zs) := BB.out
      have LD : Hid (Below w.heap.size w wr.drew) := LL.out.drew
      have HF : Hid (10 + 16 ≤ (hcells (tk xs 11)).length) := by show _ ≤ _; rw [hcells_len K11.out]; omega
      have HSP : Hid (spliced (hcells (tk xs 11)) 10 ((xs.drop 48).take 16) = hcells (takenP xs)) := by
        show _ = _
        rw [spliced_sig _ _ K11.out.len HS.out, HT.out]
      have HLT := Lib.hid (hcells_len KF.out)
      have HOT := Lib.hid (hcells_one (takenP xs))
      have HQ : Hid (hv (takenP xs) = .agg (hcells (takenP xs)).toArray) := rfl
      obtain ⟨ts, hts⟩ : ∃ ts, ts = hcells (tk xs 11) := ⟨_, rfl⟩
      obtain ⟨us, hus⟩ : ∃ us, us = hcells (takenP xs) := ⟨_, rfl⟩
      obtain ⟨ss, hss⟩ : ∃ ss, ss = (xs.drop 48).take 16 := ⟨_, rfl⟩
      rw [← hts] at XD HF HSP
      rw [← hus] at HSP HLT HOT HQ
      rw [← hss] at SD HSP
      clear hts hus hss XX FF PP BB LL CG TK SP HS HT K11 KF HX hj
      have hc48 : ¬ c = 48 := by omega
      go_upto_region 8 with fail
      go_region_law ((refine step_copy_mid rfl (.tmp 30) (.tmp 32) rfl g 10 28 16 16 16 (c - 48) (some ⟨b, off + 48, none⟩) rfl rfl ts ss _ XD SD.out (by decide) (by decide) HF ?_; intro w5 X5 O5; rw [HSP.out] at X5; have B5 := Lib.hid (BD.out.only O5.out (by omega))))
      go_wp2_with (first
        | ((with_reducible show wpList _ _ _ (⟨some 34, _, _, _, _, _⟩ :: _) _ _); refine wpList_load_blk rfl _ (.tmp 3) rfl g rfl _ us X5 26 _ Try.underlying28 rfl size_hd HLT ?_)
        | ((with_reducible show wpList _ _ _ (⟨none, .store _ (.tmp 2) _, _, _, _, _⟩ :: _) _ _); refine wpList_store_blk rfl _ (.tmp 2) (.tmp 34) rfl g0 rfl _ zs us rfl B5 26 size_hd HZ HLT HOT ?_; intro w6 B6 O6 hg6))
      refine bodyPost_ret (v := .agg us.toArray) ?_ rfl ⟨by rw [HQ.out], below_only (below_only LD.out O5.out (by omega)) O6.out hgw⟩
      exact results_cell_row rfl _ _ g0 _ _ (0, 0) _ rfl B6.out Try.underlying28 rfl (by rw [size_hd]; have := HLT.out; simp [this])
end Go.Proofs.Ythoddihoccpidaa
