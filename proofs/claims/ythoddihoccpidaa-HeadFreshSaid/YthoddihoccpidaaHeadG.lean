/-
  Layer 7 (head): the contracts of bytes.Equal (rows that are not empty) and head.Get.
-/
import Derived.Test.YthoddihoccpidaaHeadU
import Derived.Test.YthoddihoccpidaaEnds3
namespace Go.Proofs.Ythoddihoccpidaa
open Go.RowKit

theorem strOf_inj {xs ys : List Int} (hx : Bytes xs) (hy : Bytes ys) (h1 : xs.map (fun n => UInt8.ofNat n.toNat) = ys.map (fun n => UInt8.ofNat n.toNat)) : xs = ys := by
  induction xs generalizing ys with
  | nil => cases ys with
    | nil => rfl
    | cons y ys => cases h1
  | cons x xs ih =>
    cases ys with
    | nil => cases h1
    | cons y ys =>
      simp only [List.map_cons, List.cons.injEq] at h1
      have a := hx x List.mem_cons_self
      have b := hy y List.mem_cons_self
      have e : x = y := by
        have h2 := congrArg UInt8.toNat h1.1
        simp at h2
        omega
      rw [e, ih (fun z hz => hx z (List.mem_cons_of_mem _ hz)) (fun z hz => hy z (List.mem_cons_of_mem _ hz)) h1.2]

set_option maxHeartbeats 400000 in
theorem Equal_any (w : World) (B B' : Nat) (A A' : Option Addr) (n c n' c' : Nat) (xs ys : List Int) (h : Holds w B A n c xs) (h' : Holds w B' A' n' c' ys) (hn : 0 < n) (hn' : 0 < n') :
    Calls Try.prog 31 #[.slice A n c, .slice A' n' c'] w fun e w' => e = .returned (.bool (decide (xs = ys))) ∧ w = w' := by
  obtain ⟨b, off, rfl, _, hc⟩ := h.cells hn
  obtain ⟨b', off', rfl, _, hc'⟩ := h'.cells hn'
  have q1 := run_convert_bytes_arg (P := Try.prog) w 29 5 Try.underlying29 Try.underlying5 b off n c xs h.len hc 9 Try.underlying9
  have q2 := run_convert_bytes_arg (P := Try.prog) w 29 5 Try.underlying29 Try.underlying5 b' off' n' c' ys h'.len hc' 9 Try.underlying9
  have HE : Hid (((strOfNums xs).toList == (strOfNums ys).toList) = decide (xs = ys)) := by
    show _ = _
    rw [ByteArray.toList_eq, ByteArray.toList_eq, strOfNums_data, strOfNums_data, Bool.eq_iff_iff, beq_iff_eq, decide_eq_true_iff]
    exact ⟨strOf_inj h.byte h'.byte, fun e => by rw [e]⟩
  obtain ⟨s1, hs1⟩ : ∃ s, s = strOfNums xs := ⟨_, rfl⟩
  obtain ⟨s2, hs2⟩ : ∃ s, s = strOfNums ys := ⟨_, rfl⟩
  rw [← hs1] at q1 HE
  rw [← hs2] at q2 HE
  clear hs1 hs2 hc hc' h h'
  go_enter Try.func31, Try.ntmps31
  go_wp2
  go_ret
  exact ⟨ret_bool HE.out, rfl⟩

theorem results_cell_slot {P : Program} {fn : Func} {p q : Tmp} {ty : TypeId} (h : fn.results = #[.cell p ty, .tmp q]) (tmps : Array Value) (w : World) (g : Nat) (t : TypeId) (cs : Array Value) (fr : Nat × Nat) (d : TypeDesc)
    (hp : tmps.getD p undef = .pointer (some ⟨g, 0, none⟩)) (hg : w.heap[g]? = some (.cells cs t fr))
    (hu : P.underlying ty = some d) (hd : (match d with | .struct _ | .array _ _ => true | _ => false) = true) (hi : (P.info? ty).map (·.size) = some cs.size) {v : Value} (hv : tmps.getD q undef = v) :
    (results fn tmps).run P w = .ok (.tuple #[.agg cs, v]) w := by
  have hp' : tmps[p]?.getD undef = .pointer (some ⟨g, 0, none⟩) := by simpa using hp
  have hv' : tmps[q]?.getD undef = v := by simpa using hv
  simp [results, h, hp', hv', asAddr, run_loadVar_row w g t ty cs fr d hg hu hd hi]

/-- what Get answers -/
def GetHPost (w : World) (xs : List Int) (a : Int) (e : Ending) (w' : World) : Prop := e = .returned (.tuple #[hv (getOfH xs a), .int .i64 (getErrH xs a)]) ∧ Below w.heap.size w w'

set_option maxRecDepth 100000 in
set_option maxHeartbeats 2000000 in
theorem GetH_any (w : World) (A : Option Addr) (n c : Nat) (xs : List Int) (a : Int) (hx : Holds w w.heap.size A n c xs) (ha : -9223372036854775808 ≤ a ∧ a ≤ 9223372036854775807) :
    Calls Try.prog 19 #[.slice A n c, .int .i64 a] w (GetHPost w xs a) := by
  have hl := hx.len
  have CP : Hid (∀ w : World, Holds w w.heap.size A n c xs → Calls Try.prog 29 #[.slice A n c, .int .i64 a, .int .i64 64] w (PartPost w xs a 64)) := fun w hh => Part_any w A n c xs a 64 hh ha (by omega)
  have HX := Lib.hid hx
  have ZH := Lib.hid zero_hd
  have HZ := Lib.hid (hcells_len zeroHd_ok)
  have HZO := Lib.hid (hcells_one zeroHd)
  have BH := built_hd
  have HZV : Hid (hv zeroHd = .agg (hcells zeroHd).toArray) := rfl
  obtain ⟨zs, hzs⟩ : ∃ zs, zs = hcells zeroHd := ⟨_, rfl⟩
  rw [← hzs] at ZH HZ HZO BH HZV
  by_cases hp : partErr xs.length a 64 = 0
  · have hroom := part_room hp
    obtain ⟨ys, hys⟩ : ∃ ys, ys = partOf xs a 64 := ⟨_, rfl⟩
    have hys' : ys = (xs.drop a.toNat).take 64 := by rw [hys]; unfold partOf; rw [if_pos hp]; rfl
    have hyl : ys.length = 64 := by rw [hys']; simp; omega
    have hyb : Bytes ys := by rw [hys']; exact (hx.byte.drop _).take _
    unfold PartPost at CP
    rw [← hys, hyl, hp] at CP
    have CT : Hid (∀ (w : World) (A : Option Addr), Holds w w.heap.size A 64 64 ys → Calls Try.prog 30 #[.slice A 64 64] w fun e w' => e = .returned (hv (takenP ys)) ∧ Below w.heap.size w w') := fun w A hh => taken_any w A 64 ys hh
    have KT := takenP_ok ys hyb hyl
    have HLT := Lib.hid (hcells_len KT)
    have HOT := Lib.hid (hcells_one (takenP ys))
    have HYL := Lib.hid hyl
    have HYB := Lib.hid hyb
    by_cases hm : mayP (takenP ys) = true
    · have CH : Hid (∀ w : World, Calls Try.prog 10 #[hv (takenP ys)] w fun e w' => ∃ A', e = .returned (.tuple #[.slice A' 64 64, .int .i64 0]) ∧ Fresh w' w.heap.size A' (putH (takenP ys)) ∧ Below w.heap.size w w') := fun w => by
        have h1 := PutH_any w (takenP ys) KT
        unfold PutHPost putOfH putErrH at h1
        rwa [if_pos hm, if_pos hm, putH_len KT.len] at h1
      have HPL := Lib.hid (putH_len KT.len)
      have HPB := Lib.hid (putH_bytes KT.byte)
      have hpt := put_taken ys hyb hyl
      by_cases hq : putH (takenP ys) = ys
      · have HQ : Hid (∀ e w', (e = .returned (.tuple #[hv (takenP ys), .int .i64 0]) ∧ Below w.heap.size w w') → GetHPost w xs a e w') := by
          rintro e w' ⟨rfl, hb⟩
          have he : getErrH xs a = 0 := by
            unfold getErrH headP
            rw [if_pos hp, ← hys', ← hpt, hm, decide_eq_true hq]
            rfl
          refine ⟨?_, hb⟩
          unfold getOfH
          rw [he, if_pos rfl, ← hys']
        have HD := Lib.hid (decide_eq_true hq)
        obtain ⟨ps, hps⟩ : ∃ ps, ps = putH (takenP ys) := ⟨_, rfl⟩
        rw [← hps] at CH HPL HPB HD
        obtain ⟨ts, hts⟩ : ∃ ts, ts = hcells (takenP ys) := ⟨_, rfl⟩
        unfold hv at CT CH HQ
        rw [← hts] at CT CH HQ HLT HOT
        clear hys hys' hyl hyb hp hroom hm hpt hq hps hts KT hl hx hzs
        go_enter Try.func19, Try.ntmps19
        go_wp2_with (first
          | ((with_reducible show wpList _ _ _ (⟨some 4, _, _, _, _, _⟩ :: _) _ _); refine wpList_alloc_blk rfl _ rfl zs _ ZH ?_; intro g0 w1 hg1 hg2 B1 L1)
          | fail)
        refine (CP.out _ (HX.out.over L1.out)).mono ?_
        rintro e w2 ⟨A', rfl, hf, L2⟩
        have hh := hf.holds HYL.out HYB.out (by decide)
        have B2 := Lib.hid (B1.out.over L2)
        have L12 := Lib.hid (step L1.out L2)
        clear B1 L1 L2 CP HX hf
        go_wp2_with fail
        refine (CT.out _ _ hh).mono ?_
        rintro e w3 ⟨rfl, L3⟩
        have B3 := Lib.hid (B2.out.over L3)
        have L13 := Lib.hid (step L12.out L3)
        have hh3 := Lib.hid (hh.over L3)
        have hgs := B3.out.lt
        clear B2 L12 hh L3 CT
        go_wp2_with (first
          | ((with_reducible show wpList _ _ _ (⟨some 8, _, _, _, _, _⟩ :: _) _ _); refine wpList_alloc_blk rfl _ rfl zs _ ZH ?_; intro g w4 hg3 hg4 X4 L4)
          | ((with_reducible show wpList _ _ _ (⟨none, .store _ (.tmp 8) _, _, _, _, _⟩ :: _) _ _); refine wpList_store_blk rfl _ (.tmp 8) (.tmp 21) rfl g rfl _ zs ts rfl X4 26 size_hd HZ HLT HOT ?_; intro w5 X5 O5 hg5)
          | ((with_reducible show wpList _ _ _ (⟨some 23, _, _, _, _, _⟩ :: _) _ _); refine wpList_load_blk rfl _ (.tmp 8) rfl g rfl _ ts X5 26 _ Try.underlying28 rfl size_hd HLT ?_)
          | fail)
        have L5 : Below w3.heap.size w3 w5 := below_only L4.out O5.out hg3
        have B5 := Lib.hid (B3.out.over L5)
        have L15 := Lib.hid (step L13.out L5)
        have hh5 := Lib.hid (hh3.out.over L5)
        clear B3 L13 hh3 X4 L4 O5 L5
        refine (CH.out _).mono ?_
        rintro e w6 ⟨A2, rfl, hf2, L6⟩
        have B6 := Lib.hid (B5.out.over L6)
        have X6 := Lib.hid (X5.out.over L6)
        have L16 := Lib.hid (step L15.out L6)
        have hh6 := hh5.out.over L6
        have hk6 := hf2.holds HPL.out HPB.out (by decide)
        have CE := Equal_any w6 _ _ _ _ _ _ _ _ _ _ hk6 hh6 (by decide) (by decide)
        rw [HD.out] at CE
        have CE' := Lib.hid CE
        clear CE B5 X5 L15 hh5 L6 hf2 hh6 hk6 CH HD
        go_wp2_with fail
        refine CE'.out.mono ?_
        rintro e w7 ⟨rfl, rfl⟩
        clear CE'
        go_wp2_with (first
          | ((with_reducible show wpList _ _ _ (⟨some 36, _, _, _, _, _⟩ :: _) _ _); refine wpList_load_blk rfl _ (.tmp 8) rfl g rfl _ ts X6 26 _ Try.underlying28 rfl size_hd HLT ?_)
          | ((with_reducible show wpList _ _ _ (⟨none, .store _ (.tmp 4) _, _, _, _, _⟩ :: _) _ _); refine wpList_store_blk rfl _ (.tmp 4) (.tmp 36) rfl g0 rfl _ zs ts rfl B6 26 size_hd HZ HLT HOT ?_; intro w9 B9 O9 hg9))
        refine bodyPost_ret (v := .tuple #[.agg ts.toArray, .int .i64 0]) ?_ rfl (HQ.out _ _ ⟨rfl, below_only L16.out O9.out hg1⟩)
        exact results_cell_slot rfl _ _ g0 _ _ (0, 0) _ rfl B9.out Try.underlying28 rfl (by rw [size_hd]; have := HLT.out; simp [this]) rfl
      · have HQ : Hid (∀ e w', (e = .returned (.tuple #[hv zeroHd, .int .i64 5]) ∧ Below w.heap.size w w') → GetHPost w xs a e w') := by
          rintro e w' ⟨rfl, hb⟩
          have he : getErrH xs a = 5 := by
            unfold getErrH headP
            rw [if_pos hp, ← hys', ← hpt, hm, decide_eq_false hq]
            rfl
          refine ⟨?_, hb⟩
          unfold getOfH
          rw [he]
          rfl
        have HD := Lib.hid (decide_eq_false hq)
        obtain ⟨ps, hps⟩ : ∃ ps, ps = putH (takenP ys) := ⟨_, rfl⟩
        rw [← hps] at CH HPL HPB HD
        obtain ⟨ts, hts⟩ : ∃ ts, ts = hcells (takenP ys) := ⟨_, rfl⟩
        rw [HZV.out] at HQ
        unfold hv at CT CH
        rw [← hts] at CT CH HLT HOT
        clear hys hys' hyl hyb hp hroom hm hpt hq hps hts KT hl hx hzs
        go_enter Try.func19, Try.ntmps19
        go_wp2_with (first
          | ((with_reducible show wpList _ _ _ (⟨some 4, _, _, _, _, _⟩ :: _) _ _); refine wpList_alloc_blk rfl _ rfl zs _ ZH ?_; intro g0 w1 hg1 hg2 B1 L1)
          | fail)
        refine (CP.out _ (HX.out.over L1.out)).mono ?_
        rintro e w2 ⟨A', rfl, hf, L2⟩
        have hh := hf.holds HYL.out HYB.out (by decide)
        have B2 := Lib.hid (B1.out.over L2)
        have L12 := Lib.hid (step L1.out L2)
        clear B1 L1 L2 CP HX hf
        go_wp2_with fail
        refine (CT.out _ _ hh).mono ?_
        rintro e w3 ⟨rfl, L3⟩
        have B3 := Lib.hid (B2.out.over L3)
        have L13 := Lib.hid (step L12.out L3)
        have hh3 := Lib.hid (hh.over L3)
        have hgs := B3.out.lt
        clear B2 L12 hh L3 CT
        go_wp2_with (first
          | ((with_reducible show wpList _ _ _ (⟨some 8, _, _, _, _, _⟩ :: _) _ _); refine wpList_alloc_blk rfl _ rfl zs _ ZH ?_; intro g w4 hg3 hg4 X4 L4)
          | ((with_reducible show wpList _ _ _ (⟨none, .store _ (.tmp 8) _, _, _, _, _⟩ :: _) _ _); refine wpList_store_blk rfl _ (.tmp 8) (.tmp 21) rfl g rfl _ zs ts rfl X4 26 size_hd HZ HLT HOT ?_; intro w5 X5 O5 hg5)
          | ((with_reducible show wpList _ _ _ (⟨some 23, _, _, _, _, _⟩ :: _) _ _); refine wpList_load_blk rfl _ (.tmp 8) rfl g rfl _ ts X5 26 _ Try.underlying28 rfl size_hd HLT ?_)
          | fail)
        have L5 : Below w3.heap.size w3 w5 := below_only L4.out O5.out hg3
        have B5 := Lib.hid (B3.out.over L5)
        have L15 := Lib.hid (step L13.out L5)
        have hh5 := Lib.hid (hh3.out.over L5)
        clear B3 L13 hh3 X4 L4 O5 L5
        refine (CH.out _).mono ?_
        rintro e w6 ⟨A2, rfl, hf2, L6⟩
        have B6 := Lib.hid (B5.out.over L6)
        have X6 := Lib.hid (X5.out.over L6)
        have L16 := Lib.hid (step L15.out L6)
        have hh6 := hh5.out.over L6
        have hk6 := hf2.holds HPL.out HPB.out (by decide)
        have CE := Equal_any w6 _ _ _ _ _ _ _ _ _ _ hk6 hh6 (by decide) (by decide)
        rw [HD.out] at CE
        have CE' := Lib.hid CE
        clear CE B5 X5 L15 hh5 L6 hf2 hh6 hk6 CH HD
        go_wp2_with fail
        refine CE'.out.mono ?_
        rintro e w7 ⟨rfl, rfl⟩
        clear CE'
        go_wp2_with (first
          | ((with_reducible show wpList _ _ _ (⟨some 35, _, _, _, _, _⟩ :: _) _ _); refine wpList_build_none rfl _ rfl zs BH ?_)
          | ((with_reducible show wpList _ _ _ (⟨none, .store _ (.tmp 4) _, _, _, _, _⟩ :: _) _ _); refine wpList_store_blk rfl _ (.tmp 4) (.tmp 35) rfl g0 rfl _ zs zs rfl B6 26 size_hd HZ HZ HZO ?_; intro w9 B9 O9 hg9))
        refine bodyPost_ret (v := .tuple #[.agg zs.toArray, .int .i64 5]) ?_ rfl (HQ.out _ _ ⟨rfl, below_only L16.out O9.out hg1⟩)
        exact results_cell_slot rfl _ _ g0 _ _ (0, 0) _ rfl B9.out Try.underlying28 rfl (by rw [size_hd]; have := HZ.out; simp [this]) rfl
    · have HQ : Hid (∀ e w', (e = .returned (.tuple #[hv zeroHd, .int .i64 5]) ∧ Below w.heap.size w w') → GetHPost w xs a e w') := by
        rintro e w' ⟨rfl, hb⟩
        have hm' : mayP (takenP ys) = false := by simpa using hm
        have he : getErrH xs a = 5 := by
          unfold getErrH headP
          rw [if_pos hp, ← hys', hm', Bool.and_false]
          rfl
        refine ⟨?_, hb⟩
        unfold getOfH
        rw [he]
        rfl
      have CH : Hid (∀ w : World, Calls Try.prog 10 #[hv (takenP ys)] w fun e w' => ∃ A', e = .returned (.tuple #[.slice A' 0 0, .int .i64 2]) ∧ Below w.heap.size w w') := fun w => by
        have h1 := PutH_any w (takenP ys) KT
        unfold PutHPost putOfH putErrH at h1
        rw [if_neg hm, if_neg hm] at h1
        refine h1.mono ?_
        rintro e w' ⟨A', rfl, hf, hb⟩
        exact ⟨A', rfl, hb⟩
      obtain ⟨ts, hts⟩ : ∃ ts, ts = hcells (takenP ys) := ⟨_, rfl⟩
      rw [HZV.out] at HQ
      unfold hv at CT CH
      rw [← hts] at CT CH HLT HOT
      clear hys hys' hyl hyb hp hroom hm hts KT hl hx hzs
      go_enter Try.func19, Try.ntmps19
      go_wp2_with (first
        | ((with_reducible show wpList _ _ _ (⟨some 4, _, _, _, _, _⟩ :: _) _ _); refine wpList_alloc_blk rfl _ rfl zs _ ZH ?_; intro g0 w1 hg1 hg2 B1 L1)
        | fail)
      refine (CP.out _ (HX.out.over L1.out)).mono ?_
      rintro e w2 ⟨A', rfl, hf, L2⟩
      have hh := hf.holds HYL.out HYB.out (by decide)
      have B2 := Lib.hid (B1.out.over L2)
      have L12 := Lib.hid (step L1.out L2)
      clear B1 L1 L2 CP HX hf
      go_wp2_with fail
      refine (CT.out _ _ hh).mono ?_
      rintro e w3 ⟨rfl, L3⟩
      have B3 := Lib.hid (B2.out.over L3)
      have L13 := Lib.hid (step L12.out L3)
      have hh3 := Lib.hid (hh.over L3)
      have hgs := B3.out.lt
      clear B2 L12 hh L3 CT
      go_wp2_with (first
        | ((with_reducible show wpList _ _ _ (⟨some 8, _, _, _, _, _⟩ :: _) _ _); refine wpList_alloc_blk rfl _ rfl zs _ ZH ?_; intro g w4 hg3 hg4 X4 L4)
        | ((with_reducible show wpList _ _ _ (⟨none, .store _ (.tmp 8) _, _, _, _, _⟩ :: _) _ _); refine wpList_store_blk rfl _ (.tmp 8) (.tmp 21) rfl g rfl _ zs ts rfl X4 26 size_hd HZ HLT HOT ?_; intro w5 X5 O5 hg5)
        | ((with_reducible show wpList _ _ _ (⟨some 23, _, _, _, _, _⟩ :: _) _ _); refine wpList_load_blk rfl _ (.tmp 8) rfl g rfl _ ts X5 26 _ Try.underlying28 rfl size_hd HLT ?_)
        | fail)
      have L5 : Below w3.heap.size w3 w5 := below_only L4.out O5.out hg3
      have B5 := Lib.hid (B3.out.over L5)
      have L15 := Lib.hid (step L13.out L5)
      have hh5 := Lib.hid (hh3.out.over L5)
      clear B3 L13 hh3 X4 L4 O5 L5
      refine (CH.out _).mono ?_
      rintro e w6 ⟨A2, rfl, L6⟩
      have B6 := Lib.hid (B5.out.over L6)
      have L16 := Lib.hid (step L15.out L6)
      clear B5 X5 L15 hh5 L6 CH
      go_wp2_with (first
        | ((with_reducible show wpList _ _ _ (⟨some 35, _, _, _, _, _⟩ :: _) _ _); refine wpList_build_none rfl _ rfl zs BH ?_)
        | ((with_reducible show wpList _ _ _ (⟨none, .store _ (.tmp 4) _, _, _, _, _⟩ :: _) _ _); refine wpList_store_blk rfl _ (.tmp 4) (.tmp 35) rfl g0 rfl _ zs zs rfl B6 26 size_hd HZ HZ HZO ?_; intro w9 B9 O9 hg9))
      refine bodyPost_ret (v := .tuple #[.agg zs.toArray, .int .i64 5]) ?_ rfl (HQ.out _ _ ⟨rfl, below_only L16.out O9.out hg1⟩)
      exact results_cell_slot rfl _ _ g0 _ _ (0, 0) _ rfl B9.out Try.underlying28 rfl (by rw [size_hd]; have := HZ.out; simp [this]) rfl
  · have HQ : Hid (∀ e w', (e = .returned (.tuple #[hv zeroHd, .int .i64 (partErr xs.length a 64)]) ∧ Below w.heap.size w w') → GetHPost w xs a e w') := by
      rintro e w' ⟨rfl, hb⟩
      have he : getErrH xs a = partErr xs.length a 64 := by unfold getErrH; rw [if_neg hp]
      refine ⟨?_, hb⟩
      unfold getOfH
      rw [he, if_neg hp]
    have e2 : partOf xs a 64 = [] := by unfold partOf; rw [if_neg hp]
    unfold PartPost at CP
    rw [e2] at CP
    rw [HZV.out] at HQ
    obtain ⟨er, her⟩ : ∃ er, er = partErr xs.length a 64 := ⟨_, rfl⟩
    rw [← her] at CP HQ hp
    have hne : (er != 0) = true := by simpa using hp
    clear e2 her hp hl hx hzs
    go_enter Try.func19, Try.ntmps19
    go_wp2_with (first
      | ((with_reducible show wpList _ _ _ (⟨some 4, _, _, _, _, _⟩ :: _) _ _); refine wpList_alloc_blk rfl _ rfl zs _ ZH ?_; intro g0 w1 hg1 hg2 B1 L1)
      | fail)
    refine (CP.out _ (HX.out.over L1.out)).mono ?_
    rintro e w2 ⟨A', rfl, hf, L2⟩
    have B2 := Lib.hid (B1.out.over L2)
    have L12 := Lib.hid (step L1.out L2)
    go_wp2_with (first
      | ((with_reducible show wpList _ _ _ (⟨some 18, _, _, _, _, _⟩ :: _) _ _); refine wpList_build_none rfl _ rfl zs BH ?_)
      | ((with_reducible show wpList _ _ _ (⟨none, .store _ (.tmp 4) _, _, _, _, _⟩ :: _) _ _); refine wpList_store_blk rfl _ (.tmp 4) (.tmp 18) rfl g0 rfl _ zs zs rfl B2 26 size_hd HZ HZ HZO ?_; intro w9 B9 O9 hg9))
    refine bodyPost_ret (v := .tuple #[.agg zs.toArray, .int .i64 er]) ?_ rfl (HQ.out _ _ ⟨rfl, below_only L12.out O9.out hg1⟩)
    exact results_cell_slot rfl _ _ g0 _ _ (0, 0) _ rfl B9.out Try.underlying28 rfl (by rw [size_hd]; have := HZ.out; simp [this]) rfl
end Go.Proofs.Ythoddihoccpidaa
