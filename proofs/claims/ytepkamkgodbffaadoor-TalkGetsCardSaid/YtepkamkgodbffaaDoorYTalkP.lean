/-
  Layer 8, pure: what is put is got, what is got is put, no beginning of a body is one, none with bytes behind it.
-/
import Derived.Test.YtepkamkgodbffaaDoorZC
import Derived.Test.YtepkamkgodbffaaDoorZD
namespace Go.Proofs.YtepkamkgodbffaaDoor
open Go.RowKit
set_option linter.unusedVariables false
set_option maxRecDepth 100000

theorem textOf_putT {l : List UInt8} (h : isText l = true) : getText (putOfL l) = l ∧ getTErr (putOfL l) = 0 := by
  have e : gets (putOfL l) = some (letters l) := by
    unfold putOfL
    rw [if_pos h]
    exact gets_put (isText_letters h)
  unfold getText getTErr
  rw [e]
  exact ⟨letters_enc l, rfl⟩
theorem putOf_getT {xs : List Int} (hx : Bytes xs) (h : getTErr xs = 0) : putOfL (getText xs) = xs ∧ textErr (getText xs) = 0 := by
  unfold getTErr at h
  cases hg : gets xs with
  | none => rw [hg] at h; exact absurd h (by decide)
  | some rs =>
    obtain ⟨h1, h2⟩ := gets_back hx hg
    have ht := isText_of rs h1
    have e : getText xs = rs.flatMap enc := by unfold getText; rw [hg]
    rw [e]
    refine ⟨?_, if_pos ht⟩
    unfold putOfL
    rw [if_pos ht, letters_of rs h1, h2]

/-! ### reading what stands behind other bytes -/
theorem numAt_at (pre post : List Int) (v : Int) (s : Nat) (h0 : 0 ≤ v) (h1 : v < 256 ^ s) : numAt (pre ++ (le v s ++ post)) pre.length s = v := by
  unfold numAt
  rw [List.drop_left, List.take_left' (le_length v s)]
  exact num_le v s h0 h1
theorem rdN_at (pre post : List Int) (v : Int) (s : Nat) (h0 : 0 ≤ v) (h1 : v < 256 ^ s) : rdN (pre ++ (le v s ++ post)) s ⟨pre.length, 0⟩ = (v, ⟨pre.length + s, 0⟩) := by
  unfold rdN
  rw [if_pos rfl, if_neg (by simp only [List.length_append, le_length]; omega), numAt_at pre post v s h0 h1]
theorem rdPart_at (pre ys post : List Int) (m : Nat) (hm : ys.length = m) : rdPart (pre ++ (ys ++ post)) m ⟨pre.length, 0⟩ = (ys, ⟨pre.length + m, 0⟩) := by
  unfold rdPart
  rw [if_pos rfl, if_neg (by simp only [List.length_append]; omega), List.drop_left, List.take_left' hm]
theorem rdNums_at (pre post ds : List Int) (hd : ∀ x ∈ ds, 0 ≤ x ∧ x ≤ 65535) : ∀ k, k ≤ ds.length → rdNums (pre ++ (dialsOf ds ++ post)) ⟨pre.length, 0⟩ k = (ds.take k, ⟨pre.length + 2 * k, 0⟩) := by
  intro k
  induction k with
  | zero => intro _; rfl
  | succ k ih =>
    intro hk
    have ih' := ih (by omega)
    simp only [rdNums, ih']
    have hx := hd ds[k] (List.getElem_mem (by omega))
    have e : pre ++ (dialsOf ds ++ post) = (pre ++ dialsOf (ds.take k)) ++ (le ds[k] 2 ++ (dialsOf (ds.drop (k + 1)) ++ post)) := by
      have e1 : ds = ds.take k ++ ds[k] :: ds.drop (k + 1) := by rw [← List.drop_eq_getElem_cons (by omega), List.take_append_drop]
      have e2 : dialsOf ds = dialsOf (ds.take k) ++ (le ds[k] 2 ++ dialsOf (ds.drop (k + 1))) := by
        have h1 : dialsOf (ds.take k ++ ds[k] :: ds.drop (k + 1)) = dialsOf (ds.take k) ++ (le ds[k] 2 ++ dialsOf (ds.drop (k + 1))) := by
          unfold dialsOf
          rw [List.flatMap_append, List.flatMap_cons]
        exact (congrArg dialsOf e1).trans h1
      rw [e2]
      simp only [List.append_assoc]
    have hl : (pre ++ dialsOf (ds.take k)).length = pre.length + 2 * k := by rw [List.length_append, dialsOf_len, List.length_take]; omega
    have h := rdN_at (pre ++ dialsOf (ds.take k)) (dialsOf (ds.drop (k + 1)) ++ post) ds[k] 2 hx.1 (by show ds[k] < 256 ^ 2; rw [show (256 : Int) ^ 2 = 65536 from by decide]; omega)
    rw [← e, hl] at h
    rw [h, List.take_add_one, List.getElem?_eq_getElem (by omega), Option.toList_some]
    rfl
theorem ptext_parts {l : List UInt8} (h : ptextErr l = 0) : isText l = true ∧ (putOfL l).length ≤ 512 ∧ ptextOf l = le (putOfL l).length 2 ++ putOfL l := by
  have h0 := h
  unfold ptextErr at h
  by_cases ht : textErr l = 0
  · rw [if_pos ht] at h
    by_cases hm : (putOfL l).length ≤ 512
    · refine ⟨?_, hm, ?_⟩
      · unfold textErr at ht
        by_cases hi : isText l = true
        · exact hi
        · rw [if_neg hi] at ht; exact absurd ht (by decide)
      · unfold ptextOf rowOf
        rw [if_pos h0, if_pos (by omega)]
    · rw [if_neg hm] at h; exact absurd h (by decide)
  · rw [if_neg ht] at h; exact absurd h ht
theorem grow_at (pre ys post : List Int) (hy : ys.length ≤ 512) : growErr (pre ++ (le ys.length 2 ++ (ys ++ post))) pre.length 512 = 0 ∧ growOf (pre ++ (le ys.length 2 ++ (ys ++ post))) pre.length 512 = ys ∧ growNext (pre ++ (le ys.length 2 ++ (ys ++ post))) pre.length 512 = pre.length + 2 + ys.length := by
  have hr : rowN (pre ++ (le ys.length 2 ++ (ys ++ post))) (pre.length : Int) = ys.length := by
    unfold rowN
    rw [Int.toNat_natCast]
    exact numAt_at pre (ys ++ post) ys.length 2 (by omega) (by rw [show (256 : Int) ^ 2 = 65536 from by decide]; omega)
  have h0 : growErr (pre ++ (le ys.length 2 ++ (ys ++ post))) pre.length 512 = 0 := by
    unfold growErr
    rw [hr, if_neg (by simp only [List.length_append, le_length]; omega), if_neg (by simp only [List.length_append, le_length]; omega), if_neg (by omega), if_neg (by simp only [List.length_append, le_length]; omega)]
  refine ⟨h0, ?_, ?_⟩
  · unfold growOf
    rw [h0, if_pos rfl, hr, Int.toNat_natCast, Int.toNat_natCast, ← List.drop_drop, List.drop_left, List.drop_left' (le_length _ _), List.take_left' rfl]
  · unfold growNext
    rw [h0, if_pos rfl, hr]
theorem prdText_at (pre post : List Int) {l : List UInt8} (h : ptextErr l = 0) : prdText (pre ++ (ptextOf l ++ post)) ⟨pre.length, 0⟩ = (l, ⟨pre.length + (ptextOf l).length, 0⟩) := by
  obtain ⟨h1, h2, h3⟩ := ptext_parts h
  obtain ⟨g1, g2, g3⟩ := grow_at pre (putOfL l) post h2
  obtain ⟨t1, t2⟩ := textOf_putT h1
  rw [h3, List.append_assoc]
  have e1 : gtextErr (pre ++ (le (putOfL l).length 2 ++ (putOfL l ++ post))) pre.length = 0 := by unfold gtextErr; rw [if_pos g1, g2, t2]
  unfold prdText gtextOf gtextNext
  rw [if_pos rfl]
  show (if gtextErr (pre ++ (le (putOfL l).length 2 ++ (putOfL l ++ post))) (pre.length : Nat) = 0 then _ else _, _) = _
  rw [e1, if_pos rfl, if_pos rfl, g2, t1, g3, List.length_append, le_length]
  have e2 : ((pre.length : Int) + 2 + ((putOfL l).length : Nat)).toNat = pre.length + (2 + (putOfL l).length) := by omega
  rw [e2]

/-- what is put is got, whatever stands behind -/
theorem gask_at (c : Int) (a : AskV) (ka : a.ok) (he : askErrP c a = 0) (post : List Int) : (gaskP c (askOfP c a ++ post)).2 = ⟨(askOfP c a).length, 0⟩ ∧ (gaskP c (askOfP c a ++ post)).1 = a ∧ knownT c = true := by
  have h0 := he
  unfold askErrP at he
  by_cases hk : knownT c = true ∧ besideAsk c a = zeroAsk
  rotate_left
  · rw [if_neg hk] at he; exact absurd he (by decide)
  rw [if_pos hk] at he
  obtain ⟨hk, hb⟩ := hk
  unfold askOfP gaskP
  rw [if_pos h0]
  by_cases c0 : c = 0
  · rw [if_pos c0] at he
    simp only [if_pos c0]
    have hd : a.dial.length ≤ 16 := by
      by_cases hd : a.dial.length ≤ 16
      · exact hd
      · rw [if_neg hd] at he; exact absurd he (by decide)
    have e1 : offerOf a ++ post = [] ++ (le a.dial.length 2 ++ (dialsOf a.dial ++ (a.guid ++ post))) := by unfold offerOf; simp only [List.append_assoc, List.nil_append]
    have r1 : rdN (offerOf a ++ post) 2 rd0 = ((a.dial.length : Int), ⟨2, 0⟩) := by
      rw [e1]
      exact rdN_at [] _ _ 2 (by omega) (by rw [show (256 : Int) ^ 2 = 65536 from by decide]; omega)
    have e2 : offerOf a ++ post = le a.dial.length 2 ++ (dialsOf a.dial ++ (a.guid ++ post)) := by rw [e1, List.nil_append]
    have r2 : rdTake (offerOf a ++ post) rd0 = (a.dial, ⟨2 + 2 * a.dial.length, 0⟩) := by
      unfold rdTake
      rw [r1, if_neg (by omega)]
      show rdNums _ ⟨2, 0⟩ (a.dial.length : Int).toNat = _
      rw [Int.toNat_natCast, e2]
      have h := rdNums_at (le a.dial.length 2) (a.guid ++ post) a.dial ka.dial a.dial.length (Nat.le_refl _)
      rw [le_length] at h
      rw [h, List.take_of_length_le (Nat.le_refl _)]
    have e3 : offerOf a ++ post = (le a.dial.length 2 ++ dialsOf a.dial) ++ (a.guid ++ post) := by rw [e2, List.append_assoc]
    have r3 : rdPart (offerOf a ++ post) 16 ⟨2 + 2 * a.dial.length, 0⟩ = (a.guid, ⟨2 + 2 * a.dial.length + 16, 0⟩) := by
      have h := rdPart_at (le a.dial.length 2 ++ dialsOf a.dial) a.guid post 16 ka.glen
      rw [List.length_append, le_length, dialsOf_len, ← e3] at h
      exact h
    have el : (offerOf a).length = 2 + 2 * a.dial.length + 16 := by unfold offerOf; rw [List.length_append, List.length_append, le_length, dialsOf_len, ka.glen]
    rw [r2]
    simp only []
    rw [r3, el]
    refine ⟨rfl, ?_, hk⟩
    unfold besideAsk at hb
    rw [if_pos c0] at hb
    cases a
    simp only [zeroAsk, AskV.mk.injEq, true_and] at hb ⊢
    obtain ⟨q3, q4, q5, q6, q7, q8, q9, q10, q11, q12, q13, q14, q15, q16, q17, q18, q19, q20, q21, q22, q23⟩ := hb
    subst_vars
    simp
  · rw [if_neg c0] at he
    simp only [if_neg c0]
    by_cases c1 : c = 1
    · rw [if_pos c1] at he
      simp only [if_pos c1]
      have e1 : a.proof ++ ptextOf a.user.data.toList ++ post = [] ++ (a.proof ++ (ptextOf a.user.data.toList ++ post)) := by simp only [List.append_assoc, List.nil_append]
      have r1 : rdPart (a.proof ++ ptextOf a.user.data.toList ++ post) 32 rd0 = (a.proof, ⟨32, 0⟩) := by
        rw [e1]
        have h := rdPart_at [] a.proof (ptextOf a.user.data.toList ++ post) 32 ka.plen
        rw [List.length_nil, Nat.zero_add] at h
        exact h
      have r2 : prdText (a.proof ++ ptextOf a.user.data.toList ++ post) ⟨32, 0⟩ = (a.user.data.toList, ⟨32 + (ptextOf a.user.data.toList).length, 0⟩) := by
        have h := prdText_at a.proof post he
        rw [ka.plen, ← List.append_assoc] at h
        exact h
      rw [r1]
      simp only []
      rw [r2, List.length_append, ka.plen]
      refine ⟨rfl, ?_, hk⟩
      unfold besideAsk at hb
      rw [if_neg c0, if_pos c1] at hb
      cases a
      simp only [zeroAsk, AskV.mk.injEq, true_and] at hb ⊢
      obtain ⟨q3, q4, q5, q6, q7, q8, q9, q10, q11, q12, q13, q14, q15, q16, q17, q18, q19, q20, q21, q22, q23⟩ := hb
      subst_vars
      simp
    · rw [if_neg c1] at he
      simp only [if_neg c1]
      by_cases c3 : c = 3
      · rw [if_pos c3] at he
        simp only [if_pos c3]
        have r2 : prdText (ptextOf a.share.data.toList ++ post) rd0 = (a.share.data.toList, ⟨(ptextOf a.share.data.toList).length, 0⟩) := by
          have h := prdText_at [] post he
          rw [List.length_nil, Nat.zero_add, List.nil_append] at h
          exact h
        rw [r2]
        refine ⟨rfl, ?_, hk⟩
        unfold besideAsk at hb
        rw [if_neg c0, if_neg c1, if_pos c3] at hb
        cases a
        simp only [zeroAsk, AskV.mk.injEq, true_and] at hb ⊢
        obtain ⟨q2, q3, q4, q5, q6, q7, q8, q9, q10, q11, q12, q13, q14, q15, q16, q17, q18, q19, q20, q21, q22, q23⟩ := hb
        subst_vars
        simp
      · simp only [if_neg c3]
        unfold besideAsk at hb
        rw [if_neg c0, if_neg c1, if_neg c3] at hb
        refine ⟨?_, hb.symm, hk⟩
        have r1 : rdPart (List.replicate 4 0 ++ post) 4 rd0 = (List.replicate 4 0, ⟨4, 0⟩) := by
          have h := rdPart_at [] (List.replicate 4 0) post 4 (by simp)
          rw [List.length_nil, Nat.zero_add, List.nil_append] at h
          exact h
        unfold rdZ
        rw [r1]
        simp only []
        rw [if_pos trivial, if_pos (by decide), List.length_replicate]
theorem gask_back (c : Int) (a : AskV) (ka : a.ok) (he : askErrP c a = 0) : gaskErr c (askOfP c a) = 0 ∧ gaskOf c (askOfP c a) = a := by
  obtain ⟨h1, h2, h3⟩ := gask_at c a ka he []
  rw [List.append_nil] at h1 h2
  have e : gaskErr c (askOfP c a) = 0 := by
    unfold gaskErr rdEnd
    rw [if_pos h3, h1, if_neg (fun h => h.2 rfl)]
  exact ⟨e, by unfold gaskOf; rw [if_pos e, h2]⟩
theorem gask_more (c : Int) (a : AskV) (ka : a.ok) (he : askErrP c a = 0) (more : List Int) (hm : more ≠ []) : gaskErr c (askOfP c a ++ more) = 5 := by
  obtain ⟨h1, h2, h3⟩ := gask_at c a ka he more
  unfold gaskErr rdEnd
  rw [if_pos h3, h1, if_pos ⟨rfl, by have := List.length_pos_iff.2 hm; simp only [List.length_append]; omega⟩]
theorem gsay_back (c : Int) (s : SayV) (ks : s.ok) (he : sayErrP c s = 0) : gsayErr c (sayOfP c s) = 0 ∧ gsayOf c (sayOfP c s) = s := by
  have h0 := he
  unfold sayErrP at he
  by_cases hk : knownT c = true ∧ besideSay c s = zeroSay ∧ (c = 0 → s.siz < 4294967296)
  rotate_left
  · rw [if_neg hk] at he; exact absurd he (by decide)
  obtain ⟨hk, hb, hz⟩ := hk
  have key : (gsayP c (sayOfP c s)).2 = ⟨(sayOfP c s).length, 0⟩ ∧ (gsayP c (sayOfP c s)).1 = s := by
    unfold sayOfP gsayP
    rw [if_pos h0]
    by_cases c0 : c = 0
    · simp only [if_pos c0]
      have hs := hz c0
      have r1 : rdN (le s.dia 2 ++ List.replicate 2 0 ++ le s.siz 4 ++ s.chal) 2 rd0 = (s.dia, ⟨2, 0⟩) := by
        have h := rdN_at [] (List.replicate 2 0 ++ (le s.siz 4 ++ s.chal)) s.dia 2 ks.dia.1 (by rw [show (256 : Int) ^ 2 = 65536 from by decide]; have := ks.dia; omega)
        simp only [List.nil_append, List.length_nil, Nat.zero_add] at h
        simp only [List.append_assoc]
        exact h
      have r2 : rdPart (le s.dia 2 ++ List.replicate 2 0 ++ le s.siz 4 ++ s.chal) 2 ⟨2, 0⟩ = (List.replicate 2 0, ⟨4, 0⟩) := by
        have h := rdPart_at (le s.dia 2) (List.replicate 2 0) (le s.siz 4 ++ s.chal) 2 (by simp)
        rw [le_length] at h
        simpa only [List.append_assoc] using h
      have r2' : rdZ (le s.dia 2 ++ List.replicate 2 0 ++ le s.siz 4 ++ s.chal) 2 ⟨2, 0⟩ = ⟨4, 0⟩ := by
        unfold rdZ
        rw [r2]
        simp only []
        rw [if_pos trivial, if_pos (by decide)]
      have r3 : rdN (le s.dia 2 ++ List.replicate 2 0 ++ le s.siz 4 ++ s.chal) 4 ⟨4, 0⟩ = (s.siz, ⟨8, 0⟩) := by
        have h := rdN_at (le s.dia 2 ++ List.replicate 2 0) s.chal s.siz 4 ks.siz.1 (by rw [show (256 : Int) ^ 4 = 4294967296 from by decide]; exact hs)
        rw [List.length_append, le_length, List.length_replicate] at h
        simpa only [List.append_assoc] using h
      have r4 : rdPart (le s.dia 2 ++ List.replicate 2 0 ++ le s.siz 4 ++ s.chal) 8 ⟨8, 0⟩ = (s.chal, ⟨16, 0⟩) := by
        have h := rdPart_at (le s.dia 2 ++ List.replicate 2 0 ++ le s.siz 4) s.chal [] 8 ks.clen
        rw [List.append_nil, List.length_append, List.length_append, le_length, le_length, List.length_replicate] at h
        exact h
      rw [r1]
      simp only []
      rw [r2', r3]
      simp only []
      rw [r4]
      refine ⟨by simp only [List.length_append, le_length, List.length_replicate, ks.clen], ?_⟩
      unfold besideSay at hb
      rw [if_pos c0] at hb
      cases s
      simp only [zeroSay, SayV.mk.injEq, true_and] at hb ⊢
      obtain ⟨q4, q5, q6, q7, q8, q9, q10, q11, q12, q13⟩ := hb
      subst_vars
      simp
    · simp only [if_neg c0]
      unfold besideSay at hb
      rw [if_neg c0] at hb
      refine ⟨?_, hb.symm⟩
      have r1 : rdPart (List.replicate 4 0) 4 rd0 = (List.replicate 4 0, ⟨4, 0⟩) := by
        have h := rdPart_at [] (List.replicate 4 0) [] 4 (by simp)
        rw [List.length_nil, Nat.zero_add, List.nil_append, List.append_nil] at h
        exact h
      unfold rdZ
      rw [r1]
      simp only []
      rw [if_pos trivial, if_pos (by decide), List.length_replicate]
  have e : gsayErr c (sayOfP c s) = 0 := by
    unfold gsayErr rdEnd
    rw [if_pos hk, key.1, if_neg (fun h => h.2 rfl)]
  exact ⟨e, by unfold gsayOf; rw [if_pos e, key.2]⟩
end Go.Proofs.YtepkamkgodbffaaDoor
