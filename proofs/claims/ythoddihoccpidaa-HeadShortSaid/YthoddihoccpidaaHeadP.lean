/-
  Layer 7 (head): the contract of head.Put.
-/
import Derived.Test.YthoddihoccpidaaHeadC
import Derived.Test.YthoddihoccpidaaEnds4
import Derived.Deep.RegionLaw
namespace Go.Proofs.Ythoddihoccpidaa
open Go.RowKit

/-- what Put answers -/
def PutHPost (w : World) (h : Hd) (e : Ending) (w' : World) : Prop :=
  ∃ A', e = .returned (.tuple #[.slice A' (putOfH h).length (putOfH h).length, .int .i64 (putErrH h)]) ∧ Fresh w' w.heap.size A' (putOfH h) ∧ Below w.heap.size w w'

theorem vals_ok {h : Hd} (k : h.ok) (j : Nat) (hj : j < 11) : 0 ≤ (vals h).getD j 0 ∧ (vals h).getD j 0 ≤ 18446744073709551615 ∧ (vals h).getD j 0 < 256 ^ szs.getD j 0 := by
  have ab := aot_bounds k
  have e2 : (256 : Int) ^ 2 = 65536 := by decide
  have e4 : (256 : Int) ^ 4 = 4294967296 := by decide
  have e8 : (256 : Int) ^ 8 = 18446744073709551616 := by decide
  have k0 := k.ch
  have k1 := k.st
  have k2 := k.cm
  have k3 := k.cr
  have k4 := k.fl
  have k5 := k.nx
  have k6 := k.id
  have k9 := k.se
  refine eleven (p := fun j => 0 ≤ (vals h).getD j 0 ∧ (vals h).getD j 0 ≤ 18446744073709551615 ∧ (vals h).getD j 0 < 256 ^ szs.getD j 0) ?_ ?_ ?_ ?_ ?_ ?_ ?_ ?_ ?_ ?_ ?_ j hj
  · show (0 : Int) ≤ 1112364030 ∧ (1112364030 : Int) ≤ _ ∧ (1112364030 : Int) < 256 ^ 4; omega
  · show (0 : Int) ≤ 64 ∧ (64 : Int) ≤ _ ∧ (64 : Int) < 256 ^ 2; omega
  · show 0 ≤ h.ch ∧ h.ch ≤ _ ∧ h.ch < 256 ^ 2; omega
  · show 0 ≤ h.st ∧ h.st ≤ _ ∧ h.st < 256 ^ 4; omega
  · show 0 ≤ h.cm ∧ h.cm ≤ _ ∧ h.cm < 256 ^ 2; omega
  · show 0 ≤ h.cr ∧ h.cr ≤ _ ∧ h.cr < 256 ^ 2; omega
  · show 0 ≤ h.fl ∧ h.fl ≤ _ ∧ h.fl < 256 ^ 4; omega
  · show 0 ≤ h.nx ∧ h.nx ≤ _ ∧ h.nx < 256 ^ 4; omega
  · show 0 ≤ h.id ∧ h.id ≤ _ ∧ h.id < 256 ^ 8; omega
  · show 0 ≤ aot h ∧ aot h ≤ _ ∧ aot h < 256 ^ 8; omega
  · show 0 ≤ h.se ∧ h.se ≤ _ ∧ h.se < 256 ^ 8; omega

theorem fel_one (p : Nat) (h : Hd) (j : Nat) : ∀ v ∈ fel p h j, v.oneCell' = true := by
  intro v hv
  simp only [fel, List.mem_cons, List.not_mem_nil, or_false] at hv
  rcases hv with rfl | rfl | rfl | rfl <;> rfl
def fzero : List Value := [.int .i64 0, .int .i64 0, .int .u64 0, .nilFunc]
theorem zero_fd : (Try.prog.info? 52).map (fun i => (i.zero, i.size)) = some (some (.agg fzero.toArray), 4) := by kernel_rfl
theorem size_fd : (Try.prog.info? 52).map (·.size) = some 4 := by kernel_rfl

/-- one number of a head, put -/
theorem putk_any (w : World) (h : Hd) (k : h.ok) (j : Nat) (hj : j < 11) :
    Calls Try.prog 25 #[.int .u64 ((vals h).getD j 0), .int .i64 (szs.getD j 0 : Nat)] w fun e w' => ∃ A' er, e = .returned (.tuple #[.slice A' (szs.getD j 0) (szs.getD j 0), .int .i64 er]) ∧ Holds w' w'.heap.size A' (szs.getD j 0) (szs.getD j 0) (le ((vals h).getD j 0) (szs.getD j 0)) ∧ Below w.heap.size w w' := by
  obtain ⟨v0, v1, v2⟩ := vals_ok k j hj
  have h1 := offs_step j hj
  have hok : putOk ((vals h).getD j 0) (szs.getD j 0 : Nat) = true := by
    unfold putOk
    rw [size_of j hj, Int.toNat_natCast, decide_eq_true v2]
    rfl
  have eo : putOf ((vals h).getD j 0) (szs.getD j 0 : Nat) = le ((vals h).getD j 0) (szs.getD j 0) := by unfold putOf; rw [if_pos hok, Int.toNat_natCast]
  refine (Put_any w ((vals h).getD j 0) (szs.getD j 0 : Nat) ⟨v0, v1⟩ (by omega)).mono ?_
  rintro e w' ⟨A', rfl, hf, hb⟩
  rw [eo] at hf ⊢
  rw [le_length]
  exact ⟨A', _, rfl, hf.holds (le_length _ _) (le_bytes _ _) (by omega), hb⟩

set_option maxRecDepth 100000 in
set_option maxHeartbeats 2000000 in
theorem PutH_any (w : World) (h : Hd) (k : h.ok) :
    Calls Try.prog 10 #[hv h] w (PutHPost w h) := by
  have CM : Hid (∀ w : World, Calls Try.prog 13 #[hv h] w fun e w' => e = .returned (.bool (mayP h)) ∧ Below w.heap.size w w') := fun w => May_any w h k
  have HL := Lib.hid (hcells_len k)
  by_cases hm : mayP h = true
  · have HQ : Hid (∀ e w', (∃ A', e = .returned (.tuple #[.slice A' 64 64, .int .i64 0]) ∧ Fresh w' w.heap.size A' (putH h) ∧ Below w.heap.size w w') → PutHPost w h e w') := by
      intro e w' hh
      unfold PutHPost putOfH putErrH
      rw [if_pos hm, if_pos hm, putH_len k.len]
      exact hh
    have CF : Hid (∀ (w : World) (g : Nat), HB w g h → Calls Try.prog 24 #[.pointer (some ⟨g, 0, none⟩)] w (FieldsPost w g h)) := fun w g B => fields_any w g h k B
    have CP : Hid (∀ (w : World) (j : Nat), j < 11 → Calls Try.prog 25 #[.int .u64 ((vals h).getD j 0), .int .i64 (szs.getD j 0 : Nat)] w fun e w' => ∃ A' er, e = .returned (.tuple #[.slice A' (szs.getD j 0) (szs.getD j 0), .int .i64 er]) ∧ Holds w' w'.heap.size A' (szs.getD j 0) (szs.getD j 0) (le ((vals h).getD j 0) (szs.getD j 0)) ∧ Below w.heap.size w w') := fun w j hj => putk_any w h k j hj
    have HK := Lib.hid k
    rw [hm] at CM
    obtain ⟨cs, hcs⟩ : ∃ cs, cs = hcells h := ⟨_, rfl⟩
    have HC := Lib.hid hcs
    unfold hv at CM ⊢
    rw [← hcs] at CM HL ⊢
    have ZF := Lib.hid zero_fd
    obtain ⟨zf, hzf⟩ : ∃ zf, zf = fzero := ⟨_, rfl⟩
    have HZF : Hid (zf.length = 4) := by rw [hzf]; rfl
    rw [← hzf] at ZF
    clear hm k hcs hzf
    go_enter Try.func10, Try.ntmps10
    go_wp2_with (first
      | ((with_reducible show wpList _ _ _ (⟨some 1, _, _, _, _, _⟩ :: _) _ _); refine wpList_box_blk rfl _ (.tmp 0) rfl cs rfl ?_; intro g w1 hg1 hg2 B1 L1)
      | ((with_reducible show wpList _ _ _ (⟨some 9, _, _, _, _, _⟩ :: _) _ _); refine wpList_load_blk rfl _ (.tmp 1) rfl g rfl _ cs B1 26 _ Try.underlying28 rfl size_hd HL ?_)
      | fail)
    refine (CM.out _).mono ?_
    rintro e w2 ⟨rfl, L2⟩
    have B2 := Lib.hid (B1.out.over L2)
    have L12 := Lib.hid (step L1.out L2)
    have hs2 := L2.size
    clear B1 L1 L2 CM
    go_wp2_with (first
      | (at_make; refine wpList_make_bytes _ rfl _ _ rfl _ _ 64 rfl rfl rfl rfl (by omega) ?_; intro w3 R3 L3)
      | fail)
    have B3 := Lib.hid (B2.out.over L3)
    have L13 := Lib.hid (step L12.out L3)
    have hs3 := L3.size
    refine (CF.out _ g (HB.of HC.out B3.out)).mono ?_
    rintro e w4 ⟨p, G, rfl, hp, hpG, P4, F4, L4⟩
    obtain ⟨gb, hgb⟩ : ∃ gb, gb = w2.heap.size := ⟨_, rfl⟩
    rw [← hgb] at R3 ⊢
    have R4 : Hid (Row w4 gb (rowH h 0)) := by rw [rowH_zero]; exact R3.out.over L4
    have B4 : Hid (Blk w4 g 28 cs) := B3.out.over L4
    have F4' := Lib.hid F4
    have L14 := Lib.hid (step L13.out L4)
    have hgb3 := R3.out.lt
    have hgw : w.heap.size ≤ gb := by omega
    have hgg : g < gb := by omega
    have hbG : gb < G := by omega
    clear P4 F4 L4 B3 B2 L13 L3 R3 L12 hp hpG hgb hgb3 hs3 hs2 CF
    go_wp2_with fail
    go_loopw [6, 7, 8, 15] (fun _ _ _ i wr => ∃ j : Nat, j ≤ 11 ∧ i = .int .i64 j ∧ Hid (Row wr gb (rowH h j)) ∧ Hid (Blk wr G 52 (fcells p h)) ∧ Hid (Blk wr g 28 cs) ∧ Hid (Below w.heap.size w wr)) (fun _ _ _ i _ => 11 - (intOf i).toNat)
    case atStart => exact ⟨0, Nat.zero_le _, rfl, R4, F4', B4, L14⟩
    case round =>
      clear R4 F4' B4 L14
      obtain ⟨j, hj, rfl, RR, FF, BB, LL⟩ := hrel
      by_cases hlt : j < 11
      · have h1 := offs_step j hlt
        have hrange := fcells_range FF.out j hlt
        have hstep := rowH_step h j hlt
        have hlen := rowH_len h j hj
        have CPj : Hid (∀ w : World, Calls Try.prog 25 #[.int .u64 ((vals h).getD j 0), .int .i64 (szs.getD j 0 : Nat)] w fun e w' => ∃ A' er, e = .returned (.tuple #[.slice A' (szs.getD j 0) (szs.getD j 0), .int .i64 er]) ∧ Holds w' w'.heap.size A' (szs.getD j 0) (szs.getD j 0) (le ((vals h).getD j 0) (szs.getD j 0)) ∧ Below w.heap.size w w') := fun w => CP.out w j hlt
        have EL : Hid ((fel p h j).length = 4) := rfl
        have EO := Lib.hid (fel_one p h j)
        have E0 : Hid ((fel p h j)[0]? = some (.int .i64 (offs.getD j 0 : Nat))) := rfl
        have E1 : Hid ((fel p h j)[1]? = some (.int .i64 (szs.getD j 0 : Nat))) := rfl
        have E2 : Hid ((fel p h j)[2]? = some (.int .u64 ((vals h).getD j 0))) := rfl
        obtain ⟨el, hel⟩ : ∃ el, el = fel p h j := ⟨_, rfl⟩
        rw [← hel] at EL EO E0 E1 E2 hrange
        obtain ⟨off, hoff⟩ : ∃ off, off = offs.getD j 0 := ⟨_, rfl⟩
        obtain ⟨sz, hsz⟩ : ∃ sz, sz = szs.getD j 0 := ⟨_, rfl⟩
        obtain ⟨n, hn⟩ : ∃ n, n = (vals h).getD j 0 := ⟨_, rfl⟩
        rw [← hoff] at E0 h1 hstep
        rw [← hsz] at E1 h1 hstep CPj
        rw [← hn] at E2 hstep CPj
        obtain ⟨_, h48, hs2, hs8⟩ := h1
        obtain ⟨row, hrow⟩ : ∃ row, row = rowH h j := ⟨_, rfl⟩
        rw [← hrow] at RR hstep hlen
        have RNG := Lib.hid hrange
        have HST := Lib.hid hstep
        have HLN := Lib.hid hlen
        have hgbl := RR.out.lt
        have hgl := BB.out.lt
        have hGl := FF.out.lt
        have hwl := LL.out.size
        clear hel hoff hsz hn hrow hrange hstep hlen CP
        go_wp2_with (first
          | ((with_reducible show wpList _ _ _ (⟨some 18, _, _, _, _, _⟩ :: _) _ _); refine wpList_load_mid rfl _ (.tmp 17) rfl G (j * 4) rfl el _ RNG.out Try.underlying52 rfl (by rw [size_fd, EL.out]) ?_)
          | ((with_reducible show wpList _ _ _ (⟨some 6, _, _, _, _, _⟩ :: _) _ _); refine wpList_alloc_blk rfl _ rfl zf _ ZF ?_; intro f w5 hf1 hf2 X5 L5)
          | ((with_reducible show wpList _ _ _ (⟨none, .store _ (.tmp 6) _, _, _, _, _⟩ :: _) _ _); refine wpList_store_blk rfl _ (.tmp 6) (.tmp 18) rfl f rfl _ zf el rfl X5 4 size_fd HZF EL EO ?_; intro w6 X6 O6 hf3; have gc2 := (X6.out.cell 2).trans E2.out; have gc1 := (X6.out.cell 1).trans E1.out)
          | fail)
        refine (CPj.out _).mono ?_
        rintro e w7 ⟨A', er, rfl, hh, L7⟩
        have gc0 := ((X6.out.over L7).cell 0).trans E0.out
        have L6 : Hid (Below wr.heap.size wr w6) := below_only L5.out O6.out hf1
        have L67 : Hid (Below wr.heap.size wr w7) := step L6.out L7
        have R7 : Hid (Blk w7 gb 5 (row.map (Value.int .u8))) := RR.out.over L67.out
        have F7 : Hid (Blk w7 G 52 (fcells p h)) := FF.out.over L67.out
        have B7 : Hid (Blk w7 g 28 cs) := BB.out.over L67.out
        have L77 := Lib.hid (step LL.out L67.out)
        have HFIT : Hid (off + sz ≤ (row.map (Value.int .u8)).length) := by show _ ≤ _; rw [List.length_map, HLN.out]; omega
        have HLE : Hid ((le n sz).length = sz) := le_length _ _
        obtain ⟨xs, hxs⟩ : ∃ xs, xs = le n sz := ⟨_, rfl⟩
        rw [← hxs] at hh HST HLE
        clear RR FF BB LL L5 O6 L6 L67 L7 X5 X6 gc2 gc1 RNG hxs CPj
        go_wp2_with (first
          | ((with_reducible show wpList _ _ _ (⟨some 32, _, _, _, _, _⟩ :: _) _ _); refine wpList_copy_mid rfl (.tmp 30) (.tmp 31) rfl gb off 5 (64 - off) (64 - off) sz sz A' (by first | rfl | (show Value.slice _ _ _ = _; simp [Addr.add_mid])) rfl _ xs _ R7 hh (by omega) (by omega) HFIT ?_; intro w8 R8 O8)
          | fail)
        have R8' : Hid (Row w8 gb (rowH h (j + 1))) := by
          have := R8.out
          rw [spliced_row, HLE.out, HST.out] at this
          exact this
        have F8 : Hid (Blk w8 G 52 (fcells p h)) := F7.out.only O8.out (by omega)
        have B8 : Hid (Blk w8 g 28 cs) := B7.out.only O8.out (by omega)
        have L8 : Hid (Below w.heap.size w w8) := below_only L77.out O8.out (by omega)
        clear R8 R7 F7 B7 L77 O8
        go_roundw
        case rel => exact ⟨j + 1, by omega, by go_num, R8', F8, B8, L8⟩
        case measure => simp [intOf]; omega
      · obtain rfl : j = 11 := by omega
        have RRd : Hid (Blk wr.drew gb 5 ((rowH h 11).map (Value.int .u8))) := RR.out
        have BBd : HB wr.drew g h := HB.of HC.out BB.out
        have SG := Lib.hid (BBd.sig HK.out)
        have LLd : Hid (Below w.heap.size w wr.drew) := LL.out.drew
        have HFIT : Hid (48 + 16 ≤ ((rowH h 11).map (Value.int .u8)).length) := by show _ ≤ _; rw [List.length_map, rowH_len h 11 (by omega)]; omega
        have HE : Hid ((rowH h 11).take 48 ++ h.sg ++ (rowH h 11).drop (48 + h.sg.length) = putH h) := by show _ = _; rw [HK.out.len]; exact rowH_last h
        obtain ⟨row, hrow⟩ : ∃ row, row = rowH h 11 := ⟨_, rfl⟩
        rw [← hrow] at RRd HFIT HE
        clear hrow RR FF BB LL BBd hj
        go_upto_region 10 with fail
        go_region_law ((refine step_copy_mid rfl (.tmp 35) (.tmp 37) rfl gb 48 5 16 16 16 16 (some ⟨g, 10, none⟩) rfl rfl _ h.sg _ RRd SG.out (by decide) (by decide) HFIT ?_; intro w5 R5 O5))
        go_wp2
        go_ret2
        refine HQ.out _ _ ⟨_, rfl, .inr ⟨gb, rfl, hgw, ?_⟩, below_only LLd.out O5.out hgw⟩
        have := R5.out
        rw [spliced_row, HE.out] at this
        exact this
  · have hm' : mayP h = false := by simpa using hm
    have HQ : Hid (∀ e w', (e = .returned (.tuple #[.slice none 0 0, .int .i64 2]) ∧ Below w.heap.size w w') → PutHPost w h e w') := by
      rintro e w' ⟨rfl, hb⟩
      unfold PutHPost putOfH putErrH
      rw [if_neg hm, if_neg hm]
      exact ⟨none, rfl, .inl ⟨rfl, rfl⟩, hb⟩
    rw [hm'] at CM
    obtain ⟨cs, hcs⟩ : ∃ cs, cs = hcells h := ⟨_, rfl⟩
    unfold hv at CM ⊢
    rw [← hcs] at CM HL ⊢
    clear hm hm' k hcs
    go_enter Try.func10, Try.ntmps10
    go_wp2_with (first
      | ((with_reducible show wpList _ _ _ (⟨some 1, _, _, _, _, _⟩ :: _) _ _); refine wpList_box_blk rfl _ (.tmp 0) rfl cs rfl ?_; intro g w1 hg1 hg2 B1 L1)
      | ((with_reducible show wpList _ _ _ (⟨some 9, _, _, _, _, _⟩ :: _) _ _); refine wpList_load_blk rfl _ (.tmp 1) rfl g rfl _ cs B1 26 _ Try.underlying28 rfl size_hd HL ?_)
      | fail)
    refine (CM.out _).mono ?_
    rintro e w2 ⟨rfl, L2⟩
    go_wp2
    go_ret2
    exact HQ.out _ _ ⟨rfl, step L1.out L2⟩
end Go.Proofs.Ythoddihoccpidaa
