/-
  Layer 8, pure: what is got is put as the same bytes; no beginning of a body is one.
-/
import Derived.Test.YtepkamkgodbffaaDoorYTalkP
namespace Go.Proofs.YtepkamkgodbffaaDoor
open Go.RowKit
set_option linter.unusedVariables false
set_option maxRecDepth 100000

theorem rdN_taken {xs : List Int} {s : Nat} {r : Rd} (hx : Bytes xs) (h : (rdN xs s r).2.e = 0) : r.e = 0 ∧ (rdN xs s r).2 = ⟨r.p + s, 0⟩ ∧ r.p + s ≤ xs.length ∧ xs.take (r.p + s) = xs.take r.p ++ le (rdN xs s r).1 s := by
  unfold rdN at h ⊢
  by_cases h0 : r.e = 0
  · rw [if_pos h0] at h ⊢
    by_cases h1 : xs.length < r.p + s
    · rw [if_pos h1] at h; exact absurd (show (4 : Int) = 0 from h) (by decide)
    · rw [if_neg h1]
      refine ⟨h0, rfl, by omega, ?_⟩
      rw [List.take_add, ← le_numAt xs hx r.p s (by omega)]
  · rw [if_neg h0] at h; exact absurd h h0
theorem rdNums_taken {xs : List Int} (hx : Bytes xs) {r : Rd} : ∀ k, (rdNums xs r k).2.e = 0 → r.e = 0 ∧ (rdNums xs r k).2 = ⟨r.p + 2 * k, 0⟩ ∧ xs.take (r.p + 2 * k) = xs.take r.p ++ dialsOf (rdNums xs r k).1
  | 0, h => ⟨h, by obtain ⟨p, e⟩ := r; simp only [rdNums] at h ⊢; rw [h]; rfl, by simp [rdNums, dialsOf]⟩
  | k + 1, h => by
    simp only [rdNums] at h ⊢
    obtain ⟨h1, h2, h3, h4⟩ := rdN_taken hx h
    obtain ⟨i1, i2, i3⟩ := rdNums_taken hx k h1
    rw [i2] at h2 h3 h4 ⊢
    refine ⟨i1, by rw [h2]; show (⟨r.p + 2 * k + 2, 0⟩ : Rd) = _; congr 1, ?_⟩
    rw [dialsOf_snoc, ← List.append_assoc, ← i3]
    exact h4
theorem rdPart_taken {xs : List Int} {m : Nat} {r : Rd} (h : (rdPart xs m r).2.e = 0) : r.e = 0 ∧ (rdPart xs m r).2 = ⟨r.p + m, 0⟩ ∧ r.p + m ≤ xs.length ∧ xs.take (r.p + m) = xs.take r.p ++ (rdPart xs m r).1 ∧ (rdPart xs m r).1.length = m := by
  unfold rdPart at h ⊢
  by_cases h0 : r.e = 0
  · rw [if_pos h0] at h ⊢
    by_cases h1 : xs.length < r.p + m
    · rw [if_pos h1] at h; exact absurd (show (4 : Int) = 0 from h) (by decide)
    · rw [if_neg h1]
      exact ⟨h0, rfl, by omega, List.take_add .., by simp; omega⟩
  · rw [if_neg h0] at h; exact absurd h h0
theorem rdZ_taken {xs : List Int} {m : Nat} {r : Rd} (h : (rdZ xs m r).e = 0) : r.e = 0 ∧ rdZ xs m r = ⟨r.p + m, 0⟩ ∧ r.p + m ≤ xs.length ∧ xs.take (r.p + m) = xs.take r.p ++ List.replicate m 0 := by
  unfold rdZ at h ⊢
  by_cases h0 : (rdPart xs m r).2.e = 0
  · rw [if_pos h0] at h ⊢
    obtain ⟨h1, h2, h3, h4, h5⟩ := rdPart_taken h0
    by_cases h6 : zeroOf (rdPart xs m r).1 0 (m : Int) = true
    · rw [if_pos h6]
      refine ⟨h1, h2, h3, ?_⟩
      rw [h4]
      congr 1
      unfold zeroOf partOf at h6
      rw [h5] at h6
      have ep : partErr m 0 (m : Int) = 0 := by unfold partErr; rw [if_neg (by omega), if_neg (by omega)]
      rw [ep, if_pos rfl] at h6
      have h7 : (rdPart xs m r).1.all (· == 0) = true := by
        have e1 : ((rdPart xs m r).1.drop (0 : Int).toNat).take (m : Int).toNat = (rdPart xs m r).1 := by
          rw [show (0 : Int).toNat = 0 from rfl, List.drop_zero, Int.toNat_natCast, List.take_of_length_le (Nat.le_of_eq h5)]
        rw [e1] at h6
        simpa using h6
      refine List.eq_replicate_of_mem (fun x hx => ?_) |>.trans (by rw [h5])
      simpa using List.all_eq_true.1 h7 x hx
    · rw [if_neg h6] at h; exact absurd (show (5 : Int) = 0 from h) (by decide)
  · rw [if_neg h0] at h; exact absurd h h0
theorem prdText_taken {xs : List Int} (hx : Bytes xs) {r : Rd} (h : (prdText xs r).2.e = 0) : r.e = 0 ∧ ptextErr (prdText xs r).1 = 0 ∧ (prdText xs r).2.p ≤ xs.length ∧ xs.take (prdText xs r).2.p = xs.take r.p ++ ptextOf (prdText xs r).1 := by
  have h0 := prdText_e h
  unfold prdText at h ⊢
  rw [if_pos h0] at h ⊢
  have hg : gtextErr xs r.p = 0 := h
  have hg2 := hg
  unfold gtextErr at hg2
  by_cases g0 : growErr xs r.p 512 = 0
  rotate_left
  · rw [if_neg g0] at hg2; exact absurd hg2 g0
  rw [if_pos g0] at hg2
  obtain ⟨q1, q2, q3⟩ := growErr_room g0
  have hn := rowN_bounds xs hx (r.p : Int)
  have hl := growOf_len hx g0
  have hb := growOf_bytes hx (r.p : Int) 512
  obtain ⟨p1, p2⟩ := putOf_getT hb hg2
  have e1 : gtextOf xs r.p = getText (growOf xs r.p 512) := by unfold gtextOf; rw [if_pos hg]
  have e2 : gtextNext xs r.p = r.p + 2 + rowN xs r.p := by unfold gtextNext growNext; rw [if_pos hg, if_pos g0]
  have hpe : ptextErr (gtextOf xs r.p) = 0 := by
    unfold ptextErr
    rw [e1, if_pos p2, p1, if_pos (by omega)]
  refine ⟨h0, hpe, by show (gtextNext xs r.p).toNat ≤ _; omega, ?_⟩
  show xs.take (gtextNext xs r.p).toNat = xs.take r.p ++ ptextOf (gtextOf xs r.p)
  obtain ⟨n, hn'⟩ : ∃ n : Nat, rowN xs r.p = (n : Int) := ⟨(rowN xs r.p).toNat, by omega⟩
  have e3 : (gtextNext xs r.p).toNat = r.p + (2 + n) := by omega
  obtain ⟨_, _, e4⟩ := ptext_parts hpe
  rw [e4, e1, p1, e3]
  have e5 : (growOf xs r.p 512).length = n := by omega
  have e6 : growOf xs r.p 512 = (xs.drop (r.p + 2)).take n := by unfold growOf; rw [if_pos g0, hn', Int.toNat_natCast, Int.toNat_natCast]
  have e7 : le (n : Int) 2 = (xs.drop r.p).take 2 := by
    rw [← hn']
    unfold rowN
    rw [Int.toNat_natCast]
    exact le_numAt xs hx r.p 2 (by omega)
  rw [e5, e7, e6, List.take_add, List.take_add, List.drop_drop]
theorem rdEnd_whole {xs : List Int} {r : Rd} (h : rdEnd xs r = 0) : r.e = 0 ∧ r.p = xs.length := by
  have he := rdEnd_zero h
  refine ⟨he, ?_⟩
  unfold rdEnd at h
  by_cases hp : r.p = xs.length
  · exact hp
  · rw [if_pos ⟨he, hp⟩] at h; exact absurd h (by decide)

/-- what is got is put as the same bytes -/
theorem gask_once (c : Int) {xs : List Int} (hx : Bytes xs) (h : gaskErr c xs = 0) : askErrP c (gaskOf c xs) = 0 ∧ askOfP c (gaskOf c xs) = xs ∧ (gaskOf c xs).ok := by
  have e0 : gaskOf c xs = (gaskP c xs).1 := by unfold gaskOf; rw [if_pos h]
  unfold gaskErr at h
  by_cases hk : knownT c = true
  rotate_left
  · rw [if_neg hk] at h; exact absurd h (by decide)
  rw [if_pos hk] at h
  obtain ⟨h1, h2⟩ := rdEnd_whole h
  rw [e0]
  unfold gaskP at h1 h2 ⊢
  by_cases c0 : c = 0
  · simp only [if_pos c0] at h1 h2 ⊢
    obtain ⟨a1, a2, a3, a4, a5⟩ := rdPart_taken h1
    have hd : ¬ 16 < (rdN xs 2 rd0).1 := fun hh => by
      unfold rdTake at a1
      rw [if_pos hh] at a1
      exact absurd (show (3 : Int) = 0 from a1) (by decide)
    have ht : rdTake xs rd0 = rdNums xs (rdN xs 2 rd0).2 (rdN xs 2 rd0).1.toNat := by unfold rdTake; rw [if_neg hd]
    have hb := rdN_bounds hx rd0
    have hdl : (rdTake xs rd0).1.length = (rdN xs 2 rd0).1.toNat := by rw [ht, rdNums_len]
    rw [ht] at a1
    obtain ⟨b1, b2, b3⟩ := rdNums_taken hx _ a1
    obtain ⟨d1, d2, d3, d4⟩ := rdN_taken hx b1
    have hdial := rdTake_dial hx rd0
    have hbq := rdPart_bytes hx 16 (rdTake xs rd0).2
    have kw : ({ zeroAsk with dial := (rdTake xs rd0).1, guid := (rdPart xs 16 (rdTake xs rd0).2).1 } : AskV).ok := ⟨hdial, a5, hbq, zeroAsk_ok.plen, zeroAsk_ok.pbyte, zeroAsk_ok.acc, zeroAsk_ok.shr, zeroAsk_ok.way, zeroAsk_ok.opt, zeroAsk_ok.lev, zeroAsk_ok.dur, zeroAsk_ok.file, zeroAsk_ok.at_, zeroAsk_ok.n, zeroAsk_ok.data, zeroAsk_ok.locks, zeroAsk_ok.most, zeroAsk_ok.cls, zeroAsk_ok.siz⟩
    have e1 : askErrP c { zeroAsk with dial := (rdTake xs rd0).1, guid := (rdPart xs 16 (rdTake xs rd0).2).1 } = 0 := by
      unfold askErrP
      rw [if_pos ⟨hk, by unfold besideAsk; rw [if_pos c0]; rfl⟩, if_pos c0, if_pos (by show (rdTake xs rd0).1.length ≤ 16; omega)]
    refine ⟨e1, ?_, kw⟩
    unfold askOfP
    rw [if_pos e1, if_pos c0]
    unfold offerOf
    show le ((rdTake xs rd0).1.length : Int) 2 ++ dialsOf (rdTake xs rd0).1 ++ (rdPart xs 16 (rdTake xs rd0).2).1 = xs
    have e2 : ((rdTake xs rd0).1.length : Int) = (rdN xs 2 rd0).1 := by omega
    rw [e2]
    rw [a2] at h2
    change (rdTake xs rd0).2.p + 16 = xs.length at h2
    rw [h2, List.take_of_length_le (Nat.le_refl _)] at a4
    have e3 : (rdTake xs rd0).2.p = (rdN xs 2 rd0).2.p + 2 * (rdN xs 2 rd0).1.toNat := by rw [ht, b2]
    rw [e3] at a4
    rw [b3] at a4
    have e4 : (rdN xs 2 rd0).2.p = rd0.p + 2 := by rw [d2]
    rw [e4, d4] at a4
    rw [show xs.take rd0.p = [] from rfl, List.nil_append, ← ht] at a4
    exact a4.symm
  · simp only [if_neg c0] at h1 h2 ⊢
    by_cases c1 : c = 1
    · simp only [if_pos c1] at h1 h2 ⊢
      obtain ⟨t1, t2, t3, t4⟩ := prdText_taken hx h1
      obtain ⟨a1, a2, a3, a4, a5⟩ := rdPart_taken t1
      have hbq := rdPart_bytes hx 32 rd0
      have kw : ({ zeroAsk with proof := (rdPart xs 32 rd0).1, user := ⟨(prdText xs (rdPart xs 32 rd0).2).1.toArray⟩ } : AskV).ok := ⟨zeroAsk_ok.dial, zeroAsk_ok.glen, zeroAsk_ok.gbyte, a5, hbq, zeroAsk_ok.acc, zeroAsk_ok.shr, zeroAsk_ok.way, zeroAsk_ok.opt, zeroAsk_ok.lev, zeroAsk_ok.dur, zeroAsk_ok.file, zeroAsk_ok.at_, zeroAsk_ok.n, zeroAsk_ok.data, zeroAsk_ok.locks, zeroAsk_ok.most, zeroAsk_ok.cls, zeroAsk_ok.siz⟩
      have e1 : askErrP c { zeroAsk with proof := (rdPart xs 32 rd0).1, user := ⟨(prdText xs (rdPart xs 32 rd0).2).1.toArray⟩ } = 0 := by
        unfold askErrP
        rw [if_pos ⟨hk, by unfold besideAsk; rw [if_neg c0, if_pos c1]; rfl⟩, if_neg c0, if_pos c1]
        exact t2
      refine ⟨e1, ?_, kw⟩
      unfold askOfP
      rw [if_pos e1, if_neg c0, if_pos c1]
      show (rdPart xs 32 rd0).1 ++ ptextOf (prdText xs (rdPart xs 32 rd0).2).1 = xs
      rw [h2, List.take_of_length_le (Nat.le_refl _)] at t4
      have e3 : (rdPart xs 32 rd0).2.p = rd0.p + 32 := by rw [a2]
      rw [e3, a4, show xs.take rd0.p = [] from rfl, List.nil_append] at t4
      exact t4.symm
    · simp only [if_neg c1] at h1 h2 ⊢
      by_cases c3 : c = 3
      · simp only [if_pos c3] at h1 h2 ⊢
        obtain ⟨t1, t2, t3, t4⟩ := prdText_taken hx h1
        have kw : ({ zeroAsk with share := ⟨(prdText xs rd0).1.toArray⟩ } : AskV).ok := ⟨zeroAsk_ok.dial, zeroAsk_ok.glen, zeroAsk_ok.gbyte, zeroAsk_ok.plen, zeroAsk_ok.pbyte, zeroAsk_ok.acc, zeroAsk_ok.shr, zeroAsk_ok.way, zeroAsk_ok.opt, zeroAsk_ok.lev, zeroAsk_ok.dur, zeroAsk_ok.file, zeroAsk_ok.at_, zeroAsk_ok.n, zeroAsk_ok.data, zeroAsk_ok.locks, zeroAsk_ok.most, zeroAsk_ok.cls, zeroAsk_ok.siz⟩
        have e1 : askErrP c { zeroAsk with share := ⟨(prdText xs rd0).1.toArray⟩ } = 0 := by
          unfold askErrP
          rw [if_pos ⟨hk, by unfold besideAsk; rw [if_neg c0, if_neg c1, if_pos c3]; rfl⟩, if_neg c0, if_neg c1, if_pos c3]
          exact t2
        refine ⟨e1, ?_, kw⟩
        unfold askOfP
        rw [if_pos e1, if_neg c0, if_neg c1, if_pos c3]
        show ptextOf (prdText xs rd0).1 = xs
        rw [h2, List.take_of_length_le (Nat.le_refl _), show xs.take rd0.p = [] from rfl, List.nil_append] at t4
        exact t4.symm
      · simp only [if_neg c3] at h1 h2 ⊢
        obtain ⟨z1, z2, z3, z4⟩ := rdZ_taken h1
        have e1 : askErrP c zeroAsk = 0 := by
          unfold askErrP
          rw [if_pos ⟨hk, by unfold besideAsk; rw [if_neg c0, if_neg c1, if_neg c3]⟩, if_neg c0, if_neg c1, if_neg c3]
        refine ⟨e1, ?_, zeroAsk_ok⟩
        unfold askOfP
        rw [if_pos e1, if_neg c0, if_neg c1, if_neg c3]
        rw [z2] at h2
        change rd0.p + 4 = xs.length at h2
        rw [h2, List.take_of_length_le (Nat.le_refl _), show xs.take rd0.p = [] from rfl, List.nil_append] at z4
        exact z4.symm
theorem rdN_fits {xs : List Int} {s : Nat} {r : Rd} (h0 : r.e = 0) (h : ¬ xs.length < r.p + s) : rdN xs s r = (numAt xs r.p s, ⟨r.p + s, 0⟩) := by unfold rdN; rw [if_pos h0, if_neg h]
theorem gsay_once (c : Int) {xs : List Int} (hx : Bytes xs) (h : gsayErr c xs = 0) : sayErrP c (gsayOf c xs) = 0 ∧ sayOfP c (gsayOf c xs) = xs ∧ (gsayOf c xs).ok := by
  have e0 : gsayOf c xs = (gsayP c xs).1 := by unfold gsayOf; rw [if_pos h]
  unfold gsayErr at h
  by_cases hk : knownT c = true
  rotate_left
  · rw [if_neg hk] at h; exact absurd h (by decide)
  rw [if_pos hk] at h
  obtain ⟨h1, h2⟩ := rdEnd_whole h
  rw [e0]
  unfold gsayP at h1 h2 ⊢
  by_cases c0 : c = 0
  · simp only [if_pos c0] at h1 h2 ⊢
    obtain ⟨a1, a2, a3, a4, a5⟩ := rdPart_taken h1
    obtain ⟨b1, b2, b3, b4⟩ := rdN_taken hx a1
    obtain ⟨z1, z2, z3, z4⟩ := rdZ_taken b1
    obtain ⟨d1, d2, d3, d4⟩ := rdN_taken hx z1
    have hs := rdN_bounds4 hx (rdZ xs 2 (rdN xs 2 rd0).2)
    have hs4 : (rdN xs 4 (rdZ xs 2 (rdN xs 2 rd0).2)).1 < 4294967296 := by
      have hq : (rdN xs 4 (rdZ xs 2 (rdN xs 2 rd0).2)).1 = numAt xs (rdZ xs 2 (rdN xs 2 rd0).2).p 4 := by
        rw [rdN_fits (xs := xs) (s := 4) b1 (by omega)]
      rw [hq]
      have := numAt_bounds xs hx (rdZ xs 2 (rdN xs 2 rd0).2).p 4 4294967296 (by decide)
      omega
    have kw : ({ zeroSay with dia := (rdN xs 2 rd0).1, siz := (rdN xs 4 (rdZ xs 2 (rdN xs 2 rd0).2)).1, chal := (rdPart xs 8 (rdN xs 4 (rdZ xs 2 (rdN xs 2 rd0).2)).2).1 } : SayV).ok := ⟨rdN_bounds hx rd0, hs, a5, rdPart_bytes hx 8 _, zeroSay_ok.lev, zeroSay_ok.dur, zeroSay_ok.made, zeroSay_ok.file, zeroSay_ok.kind, zeroSay_ok.data, zeroSay_ok.n, zeroSay_ok.ents⟩
    have e1 : sayErrP c { zeroSay with dia := (rdN xs 2 rd0).1, siz := (rdN xs 4 (rdZ xs 2 (rdN xs 2 rd0).2)).1, chal := (rdPart xs 8 (rdN xs 4 (rdZ xs 2 (rdN xs 2 rd0).2)).2).1 } = 0 := by
      unfold sayErrP
      rw [if_pos ⟨hk, by unfold besideSay; rw [if_pos c0]; rfl, fun _ => hs4⟩]
    refine ⟨e1, ?_, kw⟩
    unfold sayOfP
    rw [if_pos e1, if_pos c0]
    show le (rdN xs 2 rd0).1 2 ++ List.replicate 2 0 ++ le (rdN xs 4 (rdZ xs 2 (rdN xs 2 rd0).2)).1 4 ++ (rdPart xs 8 (rdN xs 4 (rdZ xs 2 (rdN xs 2 rd0).2)).2).1 = xs
    rw [a2] at h2
    change (rdN xs 4 (rdZ xs 2 (rdN xs 2 rd0).2)).2.p + 8 = xs.length at h2
    rw [h2, List.take_of_length_le (Nat.le_refl _)] at a4
    have e3 : (rdN xs 4 (rdZ xs 2 (rdN xs 2 rd0).2)).2.p = (rdZ xs 2 (rdN xs 2 rd0).2).p + 4 := by rw [b2]
    rw [e3, b4] at a4
    have e4 : (rdZ xs 2 (rdN xs 2 rd0).2).p = (rdN xs 2 rd0).2.p + 2 := by rw [z2]
    have e5 : (rdN xs 2 rd0).2.p = rd0.p + 2 := by rw [d2]
    rw [e4, z4, e5, d4, show xs.take rd0.p = [] from rfl, List.nil_append] at a4
    exact a4.symm
  · simp only [if_neg c0] at h1 h2 ⊢
    obtain ⟨z1, z2, z3, z4⟩ := rdZ_taken h1
    have e1 : sayErrP c zeroSay = 0 := by
      unfold sayErrP
      rw [if_pos ⟨hk, by unfold besideSay; rw [if_neg c0], fun h => absurd h c0⟩]
    refine ⟨e1, ?_, zeroSay_ok⟩
    unfold sayOfP
    rw [if_pos e1, if_neg c0]
    rw [z2] at h2
    change rd0.p + 4 = xs.length at h2
    rw [h2, List.take_of_length_le (Nat.le_refl _), show xs.take rd0.p = [] from rfl, List.nil_append] at z4
    exact z4.symm

/-! ### no beginning of a body is one -/
theorem rdPart_stick {xs : List Int} {m : Nat} {r : Rd} (h : ¬ r.e = 0) : (rdPart xs m r).2 = r := by unfold rdPart; rw [if_neg h]
theorem prdText_stick {xs : List Int} {r : Rd} (h : ¬ r.e = 0) : (prdText xs r).2 = r := by unfold prdText; rw [if_neg h]
theorem rdN_short {xs : List Int} {s : Nat} {r : Rd} (h0 : r.e = 0) (h : xs.length < r.p + s) : rdN xs s r = (0, ⟨r.p, 4⟩) := by unfold rdN; rw [if_pos h0, if_pos h]
theorem rdPart_short {xs : List Int} {m : Nat} {r : Rd} (h0 : r.e = 0) (h : xs.length < r.p + m) : (rdPart xs m r).2 = ⟨r.p, 4⟩ := by unfold rdPart; rw [if_pos h0, if_pos h]
theorem rdPart_fits {xs : List Int} {m : Nat} {r : Rd} (h0 : r.e = 0) (h : ¬ xs.length < r.p + m) : (rdPart xs m r).2 = ⟨r.p + m, 0⟩ := by unfold rdPart; rw [if_pos h0, if_neg h]
theorem rdNums_fits {xs : List Int} {r : Rd} (h0 : r.e = 0) : ∀ k, r.p + 2 * k ≤ xs.length → (rdNums xs r k).2 = ⟨r.p + 2 * k, 0⟩
  | 0, _ => by obtain ⟨p, e⟩ := r; simp only at h0; subst h0; rfl
  | k + 1, h => by
    simp only [rdNums]
    have ih := rdNums_fits (xs := xs) h0 k (by omega)
    rw [ih, rdN_fits rfl (by show ¬ xs.length < r.p + 2 * k + 2; omega)]
    show (⟨r.p + 2 * k + 2, 0⟩ : Rd) = ⟨r.p + 2 * (k + 1), 0⟩
    congr 1
theorem rdNums_short {xs : List Int} {r : Rd} (h0 : r.e = 0) (hp : r.p ≤ xs.length) : ∀ k, xs.length < r.p + 2 * k → (rdNums xs r k).2.e = 4
  | 0, h => by omega
  | k + 1, h => by
    simp only [rdNums]
    by_cases hk : xs.length < r.p + 2 * k
    · have ih := rdNums_short h0 hp k hk
      rw [rdN_bad (by rw [ih]; decide)]
      exact ih
    · rw [rdNums_fits (xs := xs) h0 k (by omega), rdN_short rfl (by show xs.length < r.p + 2 * k + 2; omega)]
theorem numAt_take (b : List Int) (k p s : Nat) (h : p + s ≤ k) : numAt (b.take k) p s = numAt b p s := by
  unfold numAt
  rw [List.drop_take, List.take_take, Nat.min_eq_left (by omega)]
theorem text_cut (pre : List Int) {l : List UInt8} (h : ptextErr l = 0) (k : Nat) (h1 : pre.length ≤ k) (h2 : k < pre.length + (ptextOf l).length) : (prdText ((pre ++ ptextOf l).take k) ⟨pre.length, 0⟩).2.e = 4 := by
  obtain ⟨t1, t2, t3⟩ := ptext_parts h
  have hl : (ptextOf l).length = 2 + (putOfL l).length := by rw [t3, List.length_append, le_length]
  have hk : ((pre ++ ptextOf l).take k).length = k := by rw [List.length_take, List.length_append]; omega
  have hg : growErr ((pre ++ ptextOf l).take k) pre.length 512 = 4 := by
    unfold growErr
    rw [hk, if_neg (by omega)]
    by_cases h3 : (k : Int) - (pre.length : Nat) < 2
    · rw [if_pos h3]
    · have hr : rowN ((pre ++ ptextOf l).take k) (pre.length : Int) = (putOfL l).length := by
        unfold rowN
        rw [Int.toNat_natCast, numAt_take _ _ _ _ (by omega), t3]
        exact numAt_at pre (putOfL l) (putOfL l).length 2 (by omega) (by rw [show (256 : Int) ^ 2 = 65536 from by decide]; omega)
      rw [if_neg h3, hr, if_neg (by omega), if_pos (by omega)]
  unfold prdText
  rw [if_pos rfl]
  show gtextErr _ _ = 4
  unfold gtextErr
  rw [if_neg (by rw [hg]; decide)]
  exact hg
theorem gask_cut (c : Int) (a : AskV) (ka : a.ok) (he : askErrP c a = 0) (k : Nat) (hk : k < (askOfP c a).length) : gaskErr c ((askOfP c a).take k) = 4 := by
  obtain ⟨_, _, hkn⟩ := gask_at c a ka he []
  have key : (gaskP c ((askOfP c a).take k)).2.e = 4 := by
    have h0 := he
    have hl : ((askOfP c a).take k).length = k := by rw [List.length_take]; omega
    unfold askErrP at he
    by_cases hb : knownT c = true ∧ besideAsk c a = zeroAsk
    rotate_left
    · rw [if_neg hb] at he; exact absurd he (by decide)
    rw [if_pos hb] at he
    unfold askOfP at hl hk ⊢
    rw [if_pos h0] at hl hk ⊢
    unfold gaskP
    by_cases c0 : c = 0
    · simp only [if_pos c0] at hl hk ⊢
      rw [if_pos c0] at he
      have hd : a.dial.length ≤ 16 := by
        by_cases hd : a.dial.length ≤ 16
        · exact hd
        · rw [if_neg hd] at he; exact absurd he (by decide)
      have el : (offerOf a).length = 2 + 2 * a.dial.length + 16 := by unfold offerOf; rw [List.length_append, List.length_append, le_length, dialsOf_len, ka.glen]
      have e4 : (rdTake ((offerOf a).take k) rd0).2.e = 4 ∨ (rdTake ((offerOf a).take k) rd0).2 = ⟨2 + 2 * a.dial.length, 0⟩ := by
        unfold rdTake
        by_cases h2 : k < 2
        · rw [rdN_short rfl (by rw [hl]; exact h2), if_neg (by decide)]
          exact .inl rfl
        · have hn : numAt ((offerOf a).take k) rd0.p 2 = a.dial.length := by
            rw [numAt_take _ _ _ _ (by show 0 + 2 ≤ k; omega)]
            unfold offerOf
            rw [List.append_assoc]
            exact numAt_at [] (dialsOf a.dial ++ a.guid) a.dial.length 2 (by omega) (by rw [show (256 : Int) ^ 2 = 65536 from by decide]; omega)
          rw [rdN_fits rfl (by rw [hl]; exact h2), hn, if_neg (by show ¬ (16 : Int) < (a.dial.length : Nat); omega)]
          show (rdNums _ ⟨2, 0⟩ (a.dial.length : Int).toNat).2.e = 4 ∨ (rdNums _ ⟨2, 0⟩ (a.dial.length : Int).toNat).2 = _
          rw [Int.toNat_natCast]
          by_cases h3 : k < 2 + 2 * a.dial.length
          · exact .inl (rdNums_short rfl (by rw [hl]; show 2 ≤ k; omega) _ (by rw [hl]; exact h3))
          · exact .inr (rdNums_fits rfl _ (by rw [hl]; show 2 + 2 * a.dial.length ≤ k; omega))
      rcases e4 with e4 | e4
      · rw [rdPart_stick (by rw [e4]; decide)]
        exact e4
      · rw [e4, rdPart_short rfl (by rw [hl]; show k < 2 + 2 * a.dial.length + 16; omega)]
    · simp only [if_neg c0] at hl hk ⊢
      rw [if_neg c0] at he
      by_cases c1 : c = 1
      · simp only [if_pos c1] at hl hk ⊢
        rw [if_pos c1] at he
        rw [List.length_append, ka.plen] at hk
        by_cases h2 : k < 32
        · have e4 := rdPart_short (xs := (a.proof ++ ptextOf a.user.data.toList).take k) (m := 32) (r := rd0) rfl (by rw [hl]; show k < 0 + 32; omega)
          rw [e4, prdText_stick (by decide)]
        · have e4 := rdPart_fits (xs := (a.proof ++ ptextOf a.user.data.toList).take k) (m := 32) (r := rd0) rfl (by rw [hl]; show ¬ k < 0 + 32; omega)
          rw [e4]
          have h := text_cut a.proof he k (by rw [ka.plen]; omega) (by rw [ka.plen]; exact hk)
          rw [ka.plen] at h
          exact h
      · simp only [if_neg c1] at hl hk ⊢
        rw [if_neg c1] at he
        by_cases c3 : c = 3
        · simp only [if_pos c3] at hl hk ⊢
          rw [if_pos c3] at he
          exact text_cut [] he k (Nat.zero_le _) (by rw [List.length_nil, Nat.zero_add]; exact hk)
        · simp only [if_neg c3] at hl hk ⊢
          rw [List.length_replicate] at hk
          have e4 := rdPart_short (xs := (List.replicate 4 (0 : Int)).take k) (m := 4) (r := rd0) rfl (by rw [hl]; show k < 0 + 4; omega)
          unfold rdZ
          rw [e4, if_neg (by decide)]
  unfold gaskErr rdEnd
  rw [if_pos hkn, if_neg (fun h => by rw [key] at h; exact absurd h.1 (by decide)), key]
end Go.Proofs.YtepkamkgodbffaaDoor
