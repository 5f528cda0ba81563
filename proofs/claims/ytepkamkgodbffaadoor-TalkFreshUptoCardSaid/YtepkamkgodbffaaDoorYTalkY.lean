/-
  What the program's PutRow, PutText, PutAsk, PutSay answer, with noughts behind it as far as the row goes (written by tools/gen_talky.py).
-/
import Derived.Test.YtepkamkgodbffaaDoorZC
namespace Go.Proofs.YtepkamkgodbffaaDoor
open Go.RowKit
set_option linter.unusedVariables false
set_option maxRecDepth 100000

abbrev OwnB (w : World) (base : Nat) (v : Value) (xs : List Int) : Prop := OwnZ .u8 5 w base v xs
theorem OwnZ.own8 {w : World} {base : Nat} {v : Value} {xs : List Int} (h : OwnZ .u8 5 w base v xs) : Own w base v xs := h.own
theorem OwnZ.holds8 {w : World} {base : Nat} {v : Value} {xs : List Int} (h : OwnZ .u8 5 w base v xs) (hx : Bytes xs) (hn : xs.length ≤ 281474976710656) :
    ∃ A c, v = .slice A xs.length c ∧ Holds w w.heap.size A xs.length c xs := h.own8.holds hx hn
theorem Fresh.ownB {w : World} {base n : Nat} {A : Option Addr} {xs : List Int} (h : Fresh w base A xs) (hl : xs.length = n) (hn : n ≤ 281474976710656) : OwnZ .u8 5 w base (.slice A n n) xs := by
  rcases h with ⟨rfl, rfl⟩ | ⟨g, rfl, hb, hr⟩
  · obtain rfl : n = 0 := hl.symm
    exact OwnZ.nil _ _ _ _
  · refine .inr ⟨g, 0, by rw [hl, Nat.add_zero], hb, by unfold maxLen; omega, ?_⟩
    rw [List.replicate_zero, List.append_nil]
    exact hr
theorem row_zerosB {w : World} {g base n : Nat} (h : Row w g (List.replicate n 0)) (hb : base ≤ g) (hn : n ≤ 281474976710656) : OwnZ .u8 5 w base (.slice (some ⟨g, 0, none⟩) n n) (List.replicate n 0) :=
  Fresh.ownB (.inr ⟨g, rfl, hb, h⟩) (by simp) hn
def PRowPostB (w : World) (xs : List Int) (e : Ending) (w' : World) : Prop := ∃ v, e = .returned (.tuple #[v, .int .i64 (rowErr xs.length)]) ∧ OwnB w' w.heap.size v (rowOf xs) ∧ Below w.heap.size w w'
def PPTextPostB (w : World) (l : List UInt8) (e : Ending) (w' : World) : Prop := ∃ v, e = .returned (.tuple #[v, .int .i64 (ptextErr l)]) ∧ OwnB w' w.heap.size v (ptextOf l) ∧ Below w.heap.size w w'
def OfferPostB (w : World) (a : AskV) (e : Ending) (w' : World) : Prop := ∃ v, e = .returned (.tuple #[v, .int .i64 (if a.dial.length ≤ 16 then 0 else 3)]) ∧ OwnB w' w.heap.size v (if a.dial.length ≤ 16 then offerOf a else []) ∧ Below w.heap.size w w'
def PAskPostB (w : World) (c : Int) (a : AskV) (e : Ending) (w' : World) : Prop := ∃ v, e = .returned (.tuple #[v, .int .i64 (askErrP c a)]) ∧ OwnB w' w.heap.size v (askOfP c a) ∧ Below w.heap.size w w'
def PSayPostB (w : World) (c : Int) (s : SayV) (e : Ending) (w' : World) : Prop := ∃ v, e = .returned (.tuple #[v, .int .i64 (sayErrP c s)]) ∧ OwnB w' w.heap.size v (sayOfP c s) ∧ Below w.heap.size w w'
set_option maxHeartbeats 1000000 in
theorem PutRowB_any (w : World) (A : Option Addr) (n c : Nat) (xs : List Int) (h : Holds w w.heap.size A n c xs) :
    Calls Tryd.prog 29 #[.slice A n c] w (PRowPostB w xs) := by
  have hl := h.len
  have hr := h.room
  have hf := h.fit
  have C1 := Put_any w (n : Int) 2 (by omega) (by omega)
  unfold PutPost at C1
  have hz : IntKind.u64.wrap (n : Int) = n := by rw [IntKind.wrap_u64]; omega
  by_cases hn : n ≤ 65535
  · obtain ⟨e0, e1⟩ := putOf2 n hn
    rw [e0, e1, le_length] at C1
    have HQ : Hid (∀ e w', (∃ v, e = .returned (.tuple #[v, .int .i64 0]) ∧ OwnB w' w.heap.size v (le n 2 ++ xs) ∧ Below w.heap.size w w') → PRowPostB w xs e w') := by
      intro e w' hh
      unfold PRowPostB rowErr rowOf
      rw [hl, if_pos hn, if_pos hn]
      exact hh
    have HLB : Hid (Bytes (le (n : Int) 2)) := le_bytes _ _
    have HLL : Hid ((le (n : Int) 2).length = 2) := le_length _ _
    obtain ⟨ls, hls⟩ : ∃ ls, ls = le (n : Int) 2 := ⟨_, rfl⟩
    rw [← hls] at C1 HQ HLB HLL
    have C1' := Lib.hid C1
    have HX := Lib.hid h
    clear C1 hls e0 e1 h hl
    go_enter Tryd.func29, Tryd.ntmps29
    go_wp2_with fail
    refine C1'.out.mono ?_
    rintro e w1 ⟨A', rfl, hfr, L1⟩
    have H1 := Lib.hid (hfr.holds (n := 2) HLL.out HLB.out (by omega))
    have HX1 := Lib.hid (HX.out.over L1)
    have M1 := Lib.hid L1
    clear hfr L1 C1' HX
    go_wp2_with (first
      | ((with_reducible show wpList _ _ _ (⟨some 17, _, _, _, _, _⟩ :: _) _ _); refine wpList_litParts rfl 2 _ rfl [(A', 2, 2, ls), (A, n, c, xs)] rfl (by kernel_rfl) (List.forall_mem_cons.2 ⟨H1.out, List.forall_mem_cons.2 ⟨HX1.out, fun _ h => by cases h⟩⟩) ?_; intro g2 w2 P2 b2)
      | fail)
    refine (ConcatZ_any _ g2 2 _ _ _ _ P2.out (by omega) (by show 0 + 2 + n ≤ _; omega)).mono ?_
    rintro e w3 ⟨v, rfl, ho, L3⟩
    have HO := Lib.hid ho
    have L3' := Lib.hid L3
    clear ho L3
    go_wp2
    go_ret2
    refine HQ.out _ _ ⟨_, rfl, ?_, step (step M1.out b2.out) L3'.out⟩
    have := HO.out.mono (base' := w.heap.size) (step M1.out b2.out).size
    simpa [catL, partX] using this
  · obtain ⟨e1, e0⟩ := putErr2 n hn
    rw [e0, e1] at C1
    have HQ : Hid (∀ e w', (∃ v, e = .returned (.tuple #[v, .int .i64 3]) ∧ OwnB w' w.heap.size v [] ∧ Below w.heap.size w w') → PRowPostB w xs e w') := by
      intro e w' hh
      unfold PRowPostB rowErr rowOf
      rw [hl, if_neg hn, if_neg hn]
      exact hh
    have C1' := Lib.hid C1
    clear C1 e0 e1 h hl
    go_enter Tryd.func29, Tryd.ntmps29
    go_wp2_with fail
    refine C1'.out.mono ?_
    rintro e w1 ⟨A', rfl, hfr, L1⟩
    clear hfr C1'
    go_wp2
    go_ret2
    exact HQ.out _ _ ⟨_, rfl, OwnZ.nil _ _ _ _, L1⟩

set_option maxHeartbeats 1000000 in
theorem PutTextB_any (s : ByteArray) (w : World) (hs : s.size ≤ 17592186044416) (hT : Tabs w) :
    Calls Tryd.prog 35 #[.string s] w (PPTextPostB w s.data.toList) := by
  have C1 := TPut_any s w hs hT
  unfold TPutPost at C1
  obtain ⟨l, hl⟩ : ∃ l, l = s.data.toList := ⟨_, rfl⟩
  rw [← hl] at C1 ⊢
  have hlen : (putOfL l).length ≤ 4 * s.size := by
    rw [hl]
    have := putOfL_length s.data.toList
    have := unitsOfL_le s.data.toList
    have e : s.data.toList.length = s.size := by rw [Array.length_toList]; rfl
    omega
  have HBY := Lib.hid (putOfL_byte l)
  by_cases ht : textErr l = 0
  rotate_left
  · have HQ : Hid (∀ e w', e = .returned (.tuple #[.slice none 0 0, .int .i64 (textErr l)]) → Below w.heap.size w w' → PPTextPostB w l e w') := by
      intro e w' he hb
      unfold PPTextPostB ptextOf ptextErr
      rw [if_neg ht, if_neg ht]
      exact ⟨_, he, OwnZ.nil _ _ _ _, hb⟩
    have hne : (textErr l != 0) = true := by simpa using ht
    obtain ⟨er, her⟩ : ∃ er, er = textErr l := ⟨_, rfl⟩
    obtain ⟨ys, hys⟩ : ∃ ys, ys = putOfL l := ⟨_, rfl⟩
    rw [← her] at HQ C1 hne
    rw [← hys] at C1
    have C1' := Lib.hid C1
    clear C1 her ht hl hlen HBY hys
    go_enter Tryd.func35, Tryd.ntmps35
    go_wp2_with fail
    refine C1'.out.mono ?_
    rintro e w1 ⟨v, rfl, ho, L1⟩
    have ho' : Own w1 w.heap.size v ys := ho.own
    obtain ⟨Av, cv, rfl⟩ := ho'.len
    clear ho'
    go_wp2
    go_ret2
    exact HQ.out _ _ rfl L1
  rw [ht] at C1
  by_cases hm : (putOfL l).length ≤ 512
  · have HQ : Hid (∀ e w', (∃ v, e = .returned (.tuple #[v, .int .i64 (rowErr (putOfL l).length)]) ∧ OwnB w' w.heap.size v (rowOf (putOfL l)) ∧ Below w.heap.size w w') → PPTextPostB w l e w') := by
      intro e w' hh
      have e0 : ptextErr l = 0 := by unfold ptextErr; rw [if_pos ht, if_pos hm]
      unfold PPTextPostB ptextOf
      rw [e0, if_pos rfl]
      unfold rowErr at hh
      rwa [if_pos (by omega : (putOfL l).length ≤ 65535)] at hh
    have CR : Hid (∀ (w : World) (A : Option Addr) (n c : Nat), Holds w w.heap.size A n c (putOfL l) → Calls Tryd.prog 29 #[.slice A n c] w (PRowPostB w (putOfL l))) := fun w A n c hh => PutRowB_any w A n c _ hh
    unfold PRowPostB at CR
    obtain ⟨er, her⟩ : ∃ er, er = rowErr (putOfL l).length := ⟨_, rfl⟩
    obtain ⟨rs, hrs⟩ : ∃ rs, rs = rowOf (putOfL l) := ⟨_, rfl⟩
    rw [← her, ← hrs] at HQ CR
    obtain ⟨ys, hys⟩ : ∃ ys, ys = putOfL l := ⟨_, rfl⟩
    rw [← hys] at C1 CR HBY hm
    obtain ⟨m, hm'⟩ : ∃ m, m = ys.length := ⟨_, rfl⟩
    have HM := Lib.hid hm'
    rw [← hm'] at hm
    have C1' := Lib.hid C1
    clear C1 her hrs ht hl hlen hys hm'
    go_enter Tryd.func35, Tryd.ntmps35
    go_wp2_with fail
    refine C1'.out.mono ?_
    rintro e w1 ⟨v, rfl, ho, L1⟩
    have ho' : Own w1 w.heap.size v ys := ho.own
    obtain ⟨Av, cv, rfl, hh⟩ := ho'.holds HBY.out (by have := HM.out; omega)
    rw [← HM.out] at hh ⊢
    have HH := Lib.hid hh
    have M1 := Lib.hid L1
    clear ho ho' hh L1 C1'
    go_wp2_with fail
    refine (CR.out _ _ _ _ HH.out).mono ?_
    rintro e w2 ⟨v, rfl, ho, L2⟩
    have HO := Lib.hid ho
    have L2' := Lib.hid L2
    clear ho L2
    go_wp2
    go_ret2
    exact HQ.out _ _ ⟨_, rfl, HO.out.mono M1.out.size, step M1.out L2'.out⟩
  · have HQ : Hid (∀ e w', e = .returned (.tuple #[.slice none 0 0, .int .i64 3]) → Below w.heap.size w w' → PPTextPostB w l e w') := by
      intro e w' he hb
      unfold PPTextPostB ptextOf ptextErr
      rw [if_pos ht, if_neg hm]
      exact ⟨_, he, OwnZ.nil _ _ _ _, hb⟩
    obtain ⟨ys, hys⟩ : ∃ ys, ys = putOfL l := ⟨_, rfl⟩
    rw [← hys] at C1 HBY hm hlen
    obtain ⟨m, hm'⟩ : ∃ m, m = ys.length := ⟨_, rfl⟩
    have HM := Lib.hid hm'
    rw [← hm'] at hm hlen
    have C1' := Lib.hid C1
    clear C1 ht hl hys hm'
    go_enter Tryd.func35, Tryd.ntmps35
    go_wp2_with fail
    refine C1'.out.mono ?_
    rintro e w1 ⟨v, rfl, ho, L1⟩
    have ho' : Own w1 w.heap.size v ys := ho.own
    obtain ⟨Av, cv, rfl, hh⟩ := ho'.holds HBY.out (by have := HM.out; omega)
    rw [← HM.out]
    clear ho ho' hh C1'
    go_wp2
    go_ret2
    exact HQ.out _ _ rfl L1

set_option maxHeartbeats 2000000 in
theorem putOfferB_any (w : World) (cs : List Value) (a : AskV) (ka : a.ok) (ha : AskIs w w.heap.size cs a) :
    Calls Tryd.prog 40 #[.agg cs.toArray] w (OfferPostB w a) := by
  obtain ⟨D1, D2, D3, X1, X2, X3, M1, M2, M3, rfl, hD, hX, hM⟩ := ha
  have hl := hD.len
  have FA : Hid (∀ (w : World) (g : Nat), Blk w g 32 (acells (.slice D1 D2 D3) (.slice X1 X2 X3) (.slice M1 M2 M3) a) → w.cell? ⟨g, 0, none⟩ = some (.slice D1 D2 D3)) := fun w g h => h.at rfl
  have RG : Hid (∀ (w : World) (g : Nat), Blk w g 32 (acells (.slice D1 D2 D3) (.slice X1 X2 X3) (.slice M1 M2 M3) a) → Holds w w.heap.size (some ⟨g, 1, none⟩) 16 16 a.guid) := fun w g h => acells_guidH ka h
  have HDB := Lib.hid ka.dial
  have HGL := Lib.hid ka.glen
  obtain ⟨cs, hcs⟩ : ∃ c, c = acells (.slice D1 D2 D3) (.slice X1 X2 X3) (.slice M1 M2 M3) a := ⟨_, rfl⟩
  rw [← hcs] at FA RG ⊢
  clear hcs hX hM ka
  by_cases hn : D2 ≤ 16
  rotate_left
  · have HQ : Hid (∀ e w', e = .returned (.tuple #[.slice none 0 0, .int .i64 3]) → Below w.heap.size w w' → OfferPostB w a e w') := by
      intro e w' he hb
      unfold OfferPostB
      rw [hl, if_neg hn, if_neg hn]
      exact ⟨_, he, OwnZ.nil _ _ _ _, hb⟩
    have hn' : 16 < D2 := by omega
    clear hl hD
    go_enter Tryd.func40, Tryd.ntmps40
    go_wp2_with (first
      | ((with_reducible show wpList _ _ _ (⟨some 1, _, _, _, _, _⟩ :: _) _ _); refine wpList_box_blk rfl _ (.tmp 0) rfl cs rfl ?_; intro g w1 hg1 hg2 K1 L1; have gd := FA.out _ _ K1.out)
      | fail)
    go_ret2
    exact HQ.out _ _ rfl L1.out
  have HQ : Hid (∀ e w', (∃ v, e = .returned (.tuple #[v, .int .i64 0]) ∧ OwnB w' w.heap.size v (le D2 2 ++ dialsOf a.dial ++ a.guid) ∧ Below w.heap.size w w') → OfferPostB w a e w') := by
    intro e w' hh
    unfold OfferPostB offerOf
    rw [hl, if_pos hn, if_pos hn]
    exact hh
  have HDL := Lib.hid hl
  have HD := Lib.hid hD
  have HF := Lib.hid hD.fit
  have hz : IntKind.u64.wrap (D2 : Int) = D2 := by rw [IntKind.wrap_u64]; omega
  obtain ⟨ds, hds⟩ : ∃ d, d = a.dial := ⟨_, rfl⟩
  obtain ⟨gs, hgs⟩ : ∃ d, d = a.guid := ⟨_, rfl⟩
  rw [← hds] at HQ HDL HD HDB
  rw [← hgs] at HQ RG HGL
  clear hl hD hds hgs
  go_enter Tryd.func40, Tryd.ntmps40
  go_wp2_with (first
    | ((with_reducible show wpList _ _ _ (⟨some 1, _, _, _, _, _⟩ :: _) _ _); refine wpList_box_blk rfl _ (.tmp 0) rfl cs rfl ?_; intro g w1 hg1 hg2 K1 L1; have gd := FA.out _ _ K1.out)
    | fail)
  refine (number_le w1 (D2 : Int) (by omega) (by omega)).mono ?_
  rintro e w2 ⟨A', rfl, hf2, L2⟩
  have gd2 := FA.out _ _ (K1.out.over L2)
  have HO2 := Lib.hid (hf2.ownB (n := 2) (by rw [le_length]) (by omega))
  have M2 := Lib.hid L2
  have hs2 := L2.size
  clear gd hf2 L2
  go_wp2
  go_loopw [4, 19] (fun v i wr => ∃ j : Nat, i = .int .i64 j ∧ j ≤ D2 ∧ Hid (OwnB wr w1.heap.size v (le D2 2 ++ dialsOf (ds.take j))) ∧ Hid (Below w1.heap.size w1 wr)) (fun _ i _ => D2 - (intOf i).toNat)
  case atStart => exact ⟨0, rfl, Nat.zero_le _, (by show OwnB _ _ _ _; simpa [dialsOf] using HO2.out), M2⟩
  case round =>
    obtain ⟨j, rfl, hj, HO, HL⟩ := hrel
    have hsr := HL.out.size
    by_cases hlt : j < D2
    · have HDr := HD.out.over (step L1.out HL.out)
      have hft := HF.out
      obtain ⟨b, off, rfl, hb, hc⟩ := HDr.cells (by omega)
      obtain ⟨x, hx⟩ : ∃ x, ds[j]? = some x := ⟨_, List.getElem?_eq_getElem (by have := HDL.out; omega)⟩
      have gc := hc j x hx
      obtain ⟨x0, x1⟩ := HDB.out x (List.mem_of_getElem? hx)
      have E1 : Hid (le D2 2 ++ dialsOf (ds.take (j + 1)) = le D2 2 ++ dialsOf (ds.take j) ++ le x 2) := by
        show _ = _
        rw [List.take_add_one, hx, Option.toList_some, dialsOf_snoc, List.append_assoc]
      have HLEN : Hid ((le (D2 : Int) 2 ++ dialsOf (ds.take j)).length + (le x 2).length ≤ 140737488355328) := by
        show _ ≤ _
        rw [List.length_append, le_length, le_length, dialsOf_len, List.length_take]
        omega
      have HXB : Hid (Bytes (le x 2)) := le_bytes _ _
      have HXL : Hid ((le x 2).length = 2) := le_length _ _
      have hxz : IntKind.u64.wrap x = x := by rw [IntKind.wrap_u64]; omega
      obtain ⟨P, hP⟩ : ∃ P, P = le (D2 : Int) 2 ++ dialsOf (ds.take j) := ⟨_, rfl⟩
      rw [← hP] at E1 HLEN HO
      have CN : Hid (∀ w : World, Calls Tryd.prog 49 #[.int .u64 x, .int .i64 2] w fun e w' => ∃ A', e = .returned (.slice A' 2 2) ∧ Fresh w' w.heap.size A' (le x 2) ∧ Below w.heap.size w w') := fun w => number_le w x x0 x1
      obtain ⟨lx, hlx⟩ : ∃ P, P = le x 2 := ⟨_, rfl⟩
      rw [← hlx] at E1 HLEN HXB HXL CN
      clear hc hx hP hlx HDr
      go_wp2_with fail
      refine (CN.out wr).mono ?_
      rintro e w3 ⟨A3, rfl, hf3, L3⟩
      have HH := Lib.hid (hf3.holds HXL.out HXB.out (by omega))
      have HO3 := Lib.hid (HO.out.below L3)
      have M3 := Lib.hid (HL.out.trans (L3.mono hsr))
      have hs3 := M3.out.size
      clear hf3 L3 HO CN gc
      go_wp2_with (first
        | (at_builtin; refine wpList_append_bytesZ rfl (.tmp 23) (.tmp 26) rfl w1.heap.size _ P rfl HO3.out w3.heap.size A3 2 2 lx rfl HH.out HLEN.out hs3 ?_; intro v4 w4 ho4 hb4)
        | fail)
      have HO4 : Hid (OwnB w4 w1.heap.size v4 (le D2 2 ++ dialsOf (ds.take (j + 1)))) := by rw [E1.out]; exact ho4.out
      have M4 := Lib.hid (M3.out.trans hb4)
      clear ho4 hb4 HH HO3 M3
      go_wp2
      go_roundw
      case rel => exact ⟨j + 1, by go_num, hlt, HO4, M4⟩
      case measure => simp [intOf]; omega
    · obtain rfl : j = D2 := by omega
      have HO5 : Hid (OwnB wr w1.heap.size u4 (le (j : Int) 2 ++ dialsOf ds)) := by
        have h := HO.out
        rwa [List.take_of_length_le (by have := HDL.out; omega)] at h
      have HG := Lib.hid (RG.out _ _ (K1.out.over HL.out))
      have HLEN : Hid ((le (j : Int) 2 ++ dialsOf ds).length + gs.length ≤ 140737488355328) := by
        show _ ≤ _
        have h1 := HGL.out
        have h2 := HDL.out
        rw [List.length_append, le_length, dialsOf_len]
        omega
      have hs1 := L1.out.size
      obtain ⟨P, hP⟩ : ∃ P, P = le (j : Int) 2 ++ dialsOf ds := ⟨_, rfl⟩
      rw [← hP] at HO5 HLEN HQ
      clear HO hP
      go_wp2_with (first
        | (at_builtin; refine wpList_append_bytesZ rfl (.tmp 29) (.tmp 31) rfl w1.heap.size _ P rfl HO5.out wr.heap.size (some ⟨g, 1, none⟩) 16 16 gs rfl HG.out HLEN.out hsr ?_; intro v4 w4 ho4 hb4)
        | fail)
      go_ret2
      exact HQ.out _ _ ⟨_, rfl, ho4.out.mono hs1, L1.out.trans ((HL.out.trans hb4).mono hs1)⟩
set_option maxHeartbeats 4000000 in
theorem PutAskB_any (w : World) (c : Int) (cs : List Value) (a : AskV) (hc : 0 ≤ c ∧ c ≤ 65535) (ka : a.ok) (ha : AskIs w w.heap.size cs a) (hu : a.user.size ≤ 17592186044416 ∧ a.share.size ≤ 17592186044416) (hT : Tabs w) :
    Calls Tryd.prog 12 #[.int .u16 c, .agg cs.toArray] w (PAskPostB w c a) := by
  have HL := Lib.hid (ha.len ka)
  have HO1 := Lib.hid ha.one
  have ZH := Lib.hid zero_ask
  have HZ : Hid ((acells (.slice none 0 0) (.slice none 0 0) (.slice none 0 0) zeroAsk).length = 69) := acells_len zeroAsk_ok
  have HA := Lib.hid ha
  have HT := Lib.hid hT
  obtain ⟨hu0, hu1⟩ := hu
  have CB : Hid (∀ w' : World, Below w.heap.size w w' → Calls Tryd.prog 38 #[.int .u16 c, .agg cs.toArray] w' fun e w2 => ∃ ds, e = .returned (.tuple #[.agg ds.toArray, .bool (knownT c)]) ∧ AskIs w2 w2.heap.size ds (if knownT c = true then besideAsk c a else zeroAsk) ∧ Below w'.heap.size w' w2) := fun w' hb => askBeside_any w' c cs a hc ka (ha.over hb)
  obtain ⟨zs, hzs⟩ : ∃ zs, zs = acells (.slice none 0 0) (.slice none 0 0) (.slice none 0 0) zeroAsk := ⟨_, rfl⟩
  rw [← hzs] at ZH HZ
  clear hzs
  by_cases hk : knownT c = true
  rotate_left
  · have hk' : knownT c = false := by simpa using hk
    have HQ : Hid (∀ e w', e = .returned (.tuple #[.slice none 0 0, .int .i64 2]) → Below w.heap.size w w' → PAskPostB w c a e w') := by
      intro e w' he hb
      have h2 : askErrP c a = 2 := by unfold askErrP; rw [if_neg (fun h => hk h.1)]
      unfold PAskPostB askOfP
      rw [h2, if_neg (by decide)]
      exact ⟨_, he, OwnZ.nil _ _ _ _, hb⟩
    rw [if_neg hk, hk'] at CB
    have kb := zeroAsk_ok
    clear hk hk' HA ka ha
    go_enter Tryd.func12, Tryd.ntmps12
    go_wp2_with (first
      | ((with_reducible show wpList _ _ _ (⟨some 3, _, _, _, _, _⟩ :: _) _ _); refine wpList_box_blk rfl _ (.tmp 1) rfl cs rfl ?_; intro g w1 hg1 hg2 K1 L1)
      | ((with_reducible show wpList _ _ _ (⟨some 12, _, _, _, _, _⟩ :: _) _ _); refine wpList_load_blk rfl _ (.tmp 3) rfl g rfl _ cs K1 69 _ Tryd.underlying32 rfl size_ask HL ?_)
      | fail)
    refine (CB.out w1 L1.out).mono ?_
    rintro e w2 ⟨ds, rfl, hds, L2⟩
    have HD := Lib.hid hds
    have HDL := Lib.hid (hds.len kb)
    have HDO := Lib.hid hds.one
    have K2 := Lib.hid (K1.out.over L2)
    have M2 := Lib.hid (step L1.out L2)
    clear hds L2 K1
    go_wp2_with (first
      | ((with_reducible show wpList _ _ _ (⟨some 6, _, _, _, _, _⟩ :: _) _ _); refine wpList_alloc_blk rfl _ rfl zs _ ZH ?_; intro h w3 hg3 hg4 Z3 L3)
      | ((with_reducible show wpList _ _ _ (⟨none, .store _ (.tmp 6) _, _, _, _, _⟩ :: _) _ _); refine wpList_store_blk rfl _ (.tmp 6) (.tmp 14) rfl h rfl _ zs ds rfl Z3 69 size_ask HZ HDL HDO ?_; intro w4 X4 O4 hg5; have L4 := Lib.hid (below_only L3.out O4.out hg3); have M4 := Lib.hid (step M2.out L4.out); have K4 := Lib.hid (K2.out.over L4.out); have HD4 := Lib.hid (HD.out.over L4.out))
      | fail)
    go_ret2
    exact HQ.out _ _ rfl M4.out
  rw [if_pos hk, hk] at CB
  have kb := besideAsk_ok (c := c) ka
  have CZ : Hid (∀ (w' : World) (ds : List Value), AskIs w' w'.heap.size ds (besideAsk c a) → Calls Tryd.prog 39 #[.agg ds.toArray] w' fun e w2 => e = .returned (.bool (decide (besideAsk c a = zeroAsk))) ∧ Below w'.heap.size w' w2) := fun w' ds hds => isZeroAsk_any w' ds _ kb hds
  by_cases hz : besideAsk c a = zeroAsk
  rotate_left
  · rw [decide_eq_false hz] at CZ
    have HQ : Hid (∀ e w', e = .returned (.tuple #[.slice none 0 0, .int .i64 2]) → Below w.heap.size w w' → PAskPostB w c a e w') := by
      intro e w' he hb
      have h2 : askErrP c a = 2 := by unfold askErrP; rw [if_neg (fun h => hz h.2)]
      unfold PAskPostB askOfP
      rw [h2, if_neg (by decide)]
      exact ⟨_, he, OwnZ.nil _ _ _ _, hb⟩
    obtain ⟨b, hb⟩ : ∃ b, b = besideAsk c a := ⟨_, rfl⟩
    rw [← hb] at CB CZ kb
    clear hk hz HA ka ha hb
    go_enter Tryd.func12, Tryd.ntmps12
    go_wp2_with (first
      | ((with_reducible show wpList _ _ _ (⟨some 3, _, _, _, _, _⟩ :: _) _ _); refine wpList_box_blk rfl _ (.tmp 1) rfl cs rfl ?_; intro g w1 hg1 hg2 K1 L1)
      | ((with_reducible show wpList _ _ _ (⟨some 12, _, _, _, _, _⟩ :: _) _ _); refine wpList_load_blk rfl _ (.tmp 3) rfl g rfl _ cs K1 69 _ Tryd.underlying32 rfl size_ask HL ?_)
      | fail)
    refine (CB.out w1 L1.out).mono ?_
    rintro e w2 ⟨ds, rfl, hds, L2⟩
    have HD := Lib.hid hds
    have HDL := Lib.hid (hds.len kb)
    have HDO := Lib.hid hds.one
    have K2 := Lib.hid (K1.out.over L2)
    have M2 := Lib.hid (step L1.out L2)
    clear hds L2 K1
    go_wp2_with (first
      | ((with_reducible show wpList _ _ _ (⟨some 6, _, _, _, _, _⟩ :: _) _ _); refine wpList_alloc_blk rfl _ rfl zs _ ZH ?_; intro h w3 hg3 hg4 Z3 L3)
      | ((with_reducible show wpList _ _ _ (⟨none, .store _ (.tmp 6) _, _, _, _, _⟩ :: _) _ _); refine wpList_store_blk rfl _ (.tmp 6) (.tmp 14) rfl h rfl _ zs ds rfl Z3 69 size_ask HZ HDL HDO ?_; intro w4 X4 O4 hg5; have L4 := Lib.hid (below_only L3.out O4.out hg3); have M4 := Lib.hid (step M2.out L4.out); have K4 := Lib.hid (K2.out.over L4.out); have HD4 := Lib.hid (HD.out.over L4.out))
      | ((with_reducible show wpList _ _ _ (⟨some 19, _, _, _, _, _⟩ :: _) _ _); refine wpList_load_want (by kernel_rfl) _ (.tmp 6) rfl h rfl _ ds X4 69 _ Tryd.underlying32 rfl size_ask HDL ?_)
      | fail)
    refine (CZ.out w4 ds HD4.out).mono ?_
    rintro e w5 ⟨rfl, L5⟩
    have M5 := Lib.hid (step M4.out L5)
    have K5 := Lib.hid (K4.out.over L5)
    have hs5 := M5.out.size
    clear L5 K4 HD4 HD CZ CB X4 O4 Z3 L3 L4 M4 M2 K2
    go_wp2
    go_ret2
    exact HQ.out _ _ rfl M5.out
  rw [decide_eq_true hz] at CZ
  by_cases h0 : c = 0
  · have h2 : askErrP c a = if a.dial.length ≤ 16 then 0 else 3 := by unfold askErrP; rw [if_pos ⟨hk, hz⟩, if_pos h0]
    have HQ : Hid (∀ e w', (∃ v, e = .returned (.tuple #[v, .int .i64 (if a.dial.length ≤ 16 then 0 else 3)]) ∧ OwnB w' w.heap.size v (if a.dial.length ≤ 16 then offerOf a else []) ∧ Below w.heap.size w w') → PAskPostB w c a e w') := by
      intro e w' hh
      unfold PAskPostB askOfP
      rw [h2, if_pos h0]
      by_cases hd : a.dial.length ≤ 16
      · rw [if_pos hd, if_pos hd] at hh; rw [if_pos hd, if_pos rfl]; exact hh
      · rw [if_neg hd, if_neg hd] at hh; rw [if_neg hd, if_neg (by decide)]; exact hh
    have CO : Hid (∀ w' : World, Below w.heap.size w w' → Calls Tryd.prog 40 #[.agg cs.toArray] w' fun e w2 => ∃ v, e = .returned (.tuple #[v, .int .i64 (if a.dial.length ≤ 16 then 0 else 3)]) ∧ OwnB w2 w'.heap.size v (if a.dial.length ≤ 16 then offerOf a else []) ∧ Below w'.heap.size w' w2) := fun w' hb => putOfferB_any w' cs a ka (HA.out.over hb)
    obtain ⟨er, her⟩ : ∃ x : Int, x = if a.dial.length ≤ 16 then 0 else 3 := ⟨_, rfl⟩
    obtain ⟨ys, hys⟩ : ∃ x, x = if a.dial.length ≤ 16 then offerOf a else [] := ⟨_, rfl⟩
    rw [← her, ← hys] at HQ CO
    have c0 : (c == 0) = true := by simpa using h0
    obtain ⟨b, hb⟩ : ∃ b, b = besideAsk c a := ⟨_, rfl⟩
    rw [← hb] at CB CZ kb
    clear hk hz HA ka ha h2 her hys h0 hb
    go_enter Tryd.func12, Tryd.ntmps12
    go_wp2_with (first
      | ((with_reducible show wpList _ _ _ (⟨some 3, _, _, _, _, _⟩ :: _) _ _); refine wpList_box_blk rfl _ (.tmp 1) rfl cs rfl ?_; intro g w1 hg1 hg2 K1 L1)
      | ((with_reducible show wpList _ _ _ (⟨some 12, _, _, _, _, _⟩ :: _) _ _); refine wpList_load_blk rfl _ (.tmp 3) rfl g rfl _ cs K1 69 _ Tryd.underlying32 rfl size_ask HL ?_)
      | fail)
    refine (CB.out w1 L1.out).mono ?_
    rintro e w2 ⟨ds, rfl, hds, L2⟩
    have HD := Lib.hid hds
    have HDL := Lib.hid (hds.len kb)
    have HDO := Lib.hid hds.one
    have K2 := Lib.hid (K1.out.over L2)
    have M2 := Lib.hid (step L1.out L2)
    clear hds L2 K1
    go_wp2_with (first
      | ((with_reducible show wpList _ _ _ (⟨some 6, _, _, _, _, _⟩ :: _) _ _); refine wpList_alloc_blk rfl _ rfl zs _ ZH ?_; intro h w3 hg3 hg4 Z3 L3)
      | ((with_reducible show wpList _ _ _ (⟨none, .store _ (.tmp 6) _, _, _, _, _⟩ :: _) _ _); refine wpList_store_blk rfl _ (.tmp 6) (.tmp 14) rfl h rfl _ zs ds rfl Z3 69 size_ask HZ HDL HDO ?_; intro w4 X4 O4 hg5; have L4 := Lib.hid (below_only L3.out O4.out hg3); have M4 := Lib.hid (step M2.out L4.out); have K4 := Lib.hid (K2.out.over L4.out); have HD4 := Lib.hid (HD.out.over L4.out))
      | ((with_reducible show wpList _ _ _ (⟨some 19, _, _, _, _, _⟩ :: _) _ _); refine wpList_load_want (by kernel_rfl) _ (.tmp 6) rfl h rfl _ ds X4 69 _ Tryd.underlying32 rfl size_ask HDL ?_)
      | fail)
    refine (CZ.out w4 ds HD4.out).mono ?_
    rintro e w5 ⟨rfl, L5⟩
    have M5 := Lib.hid (step M4.out L5)
    have K5 := Lib.hid (K4.out.over L5)
    have hs5 := M5.out.size
    clear L5 K4 HD4 HD CZ CB X4 O4 Z3 L3 L4 M4 M2 K2
    go_wp2_with (first
      | ((with_reducible show wpList _ _ _ (⟨some 26, _, _, _, _, _⟩ :: _) _ _); refine wpList_load_blk rfl _ (.tmp 3) rfl g rfl _ cs K5 69 _ Tryd.underlying32 rfl size_ask HL ?_)
      | fail)
    refine (CO.out w5 M5.out).mono ?_
    rintro e w6 ⟨v, rfl, ho, L6⟩
    have HO := Lib.hid ho
    have L6' := Lib.hid L6
    clear ho L6
    go_wp2
    go_ret2
    exact HQ.out _ _ ⟨_, rfl, HO.out.mono hs5, step M5.out L6'.out⟩
  have b0 : (c == 0) = false := by simpa using h0
  have FA : Hid (∀ (w : World) (g : Nat), Blk w g 32 cs → w.cell? ⟨g, 49, none⟩ = some (.string a.user) ∧ w.cell? ⟨g, 50, none⟩ = some (.string a.share) ∧ Holds w w.heap.size (some ⟨g, 17, none⟩) 32 32 a.proof) := by
    intro w g h
    obtain ⟨D1, D2, D3, X1, X2, X3, M1, M2, M3, rfl, _⟩ := HA.out
    exact ⟨h.at (acells_get ka 0), h.at (acells_get ka 1), acells_proofH ka h⟩
  by_cases h1 : c = 1
  · have CT : Hid (∀ w' : World, Below w.heap.size w w' → Calls Tryd.prog 35 #[.string a.user] w' fun e w2 => ∃ v, e = .returned (.tuple #[v, .int .i64 (ptextErr a.user.data.toList)]) ∧ OwnB w2 w'.heap.size v (ptextOf a.user.data.toList) ∧ Below w'.heap.size w' w2) := fun w' hb => PutTextB_any a.user w' hu0 (HT.out.below hb)
    have h2 : askErrP c a = ptextErr a.user.data.toList := by unfold askErrP; rw [if_pos ⟨hk, hz⟩, if_neg h0, if_pos h1]
    have c1 : (c == 1) = true := by simpa using h1
    have HPB := Lib.hid (ptextOf_bytes a.user.data.toList)
    have hpl := rowOf_le a.user.data.toList
    by_cases hp : ptextErr a.user.data.toList = 0
    · have HQ : Hid (∀ e w', (∃ v, e = .returned (.tuple #[v, .int .i64 0]) ∧ OwnB w' w.heap.size v (a.proof ++ ptextOf a.user.data.toList) ∧ Below w.heap.size w w') → PAskPostB w c a e w') := by
        intro e w' hh
        unfold PAskPostB askOfP
        rw [h2, hp, if_pos rfl, if_neg h0, if_pos h1]
        exact hh
      rw [hp] at CT
      obtain ⟨ys, hys⟩ : ∃ x, x = ptextOf a.user.data.toList := ⟨_, rfl⟩
      rw [← hys] at HQ CT HPB hpl
      obtain ⟨tx, htx⟩ : ∃ x, x = a.user := ⟨_, rfl⟩
      obtain ⟨px, hpx⟩ : ∃ x, x = a.proof := ⟨_, rfl⟩
      rw [← htx, ← hpx] at FA
      rw [← htx] at CT
      rw [← hpx] at HQ
      obtain ⟨b, hb⟩ : ∃ b, b = besideAsk c a := ⟨_, rfl⟩
      rw [← hb] at CB CZ kb
      clear hk hz HA ka ha h2 hys htx hpx h0 h1 hb hu0 hu1 hp
      go_enter Tryd.func12, Tryd.ntmps12
      go_wp2_with (first
        | ((with_reducible show wpList _ _ _ (⟨some 3, _, _, _, _, _⟩ :: _) _ _); refine wpList_box_blk rfl _ (.tmp 1) rfl cs rfl ?_; intro g w1 hg1 hg2 K1 L1)
        | ((with_reducible show wpList _ _ _ (⟨some 12, _, _, _, _, _⟩ :: _) _ _); refine wpList_load_blk rfl _ (.tmp 3) rfl g rfl _ cs K1 69 _ Tryd.underlying32 rfl size_ask HL ?_)
        | fail)
      refine (CB.out w1 L1.out).mono ?_
      rintro e w2 ⟨ds, rfl, hds, L2⟩
      have HD := Lib.hid hds
      have HDL := Lib.hid (hds.len kb)
      have HDO := Lib.hid hds.one
      have K2 := Lib.hid (K1.out.over L2)
      have M2 := Lib.hid (step L1.out L2)
      clear hds L2 K1
      go_wp2_with (first
        | ((with_reducible show wpList _ _ _ (⟨some 6, _, _, _, _, _⟩ :: _) _ _); refine wpList_alloc_blk rfl _ rfl zs _ ZH ?_; intro h w3 hg3 hg4 Z3 L3)
        | ((with_reducible show wpList _ _ _ (⟨none, .store _ (.tmp 6) _, _, _, _, _⟩ :: _) _ _); refine wpList_store_blk rfl _ (.tmp 6) (.tmp 14) rfl h rfl _ zs ds rfl Z3 69 size_ask HZ HDL HDO ?_; intro w4 X4 O4 hg5; have L4 := Lib.hid (below_only L3.out O4.out hg3); have M4 := Lib.hid (step M2.out L4.out); have K4 := Lib.hid (K2.out.over L4.out); have HD4 := Lib.hid (HD.out.over L4.out))
        | ((with_reducible show wpList _ _ _ (⟨some 19, _, _, _, _, _⟩ :: _) _ _); refine wpList_load_want (by kernel_rfl) _ (.tmp 6) rfl h rfl _ ds X4 69 _ Tryd.underlying32 rfl size_ask HDL ?_)
        | fail)
      refine (CZ.out w4 ds HD4.out).mono ?_
      rintro e w5 ⟨rfl, L5⟩
      have M5 := Lib.hid (step M4.out L5)
      have K5 := Lib.hid (K4.out.over L5)
      have hs5 := M5.out.size
      clear L5 K4 HD4 HD CZ CB X4 O4 Z3 L3 L4 M4 M2 K2
      obtain ⟨gd, _, _⟩ := FA.out _ _ K5.out
      go_wp2_with fail
      refine (CT.out w5 M5.out).mono ?_
      rintro e w6 ⟨v, rfl, ho, L6⟩
      obtain ⟨Av, cv, rfl, hh⟩ := ho.holds8 HPB.out (by omega)
      have HH := Lib.hid hh
      obtain ⟨_, _, hpr⟩ := FA.out _ _ (K5.out.over L6)
      have HPR := Lib.hid hpr
      have M6 := Lib.hid (step M5.out L6)
      obtain ⟨m, hm⟩ : ∃ m, m = ys.length := ⟨_, rfl⟩
      rw [← hm] at HH hpl ⊢
      clear ho hh hpr L6 gd hm
      go_wp2_with (first
        | ((with_reducible show wpList _ _ _ (⟨some 44, _, _, _, _, _⟩ :: _) _ _); refine wpList_litParts rfl 2 _ rfl [(some ⟨g, 17, none⟩, 32, 32, px), (Av, m, cv, ys)] rfl (by kernel_rfl) (List.forall_mem_cons.2 ⟨HPR.out, List.forall_mem_cons.2 ⟨HH.out, fun _ h => by cases h⟩⟩) ?_; intro g7 w7 P7 b7)
        | fail)
      refine (ConcatZ_any _ g7 2 _ _ _ _ P7.out (by omega) (by show 0 + 32 + m ≤ _; omega)).mono ?_
      rintro e w8 ⟨v, rfl, ho, L8⟩
      have HO := Lib.hid ho
      have L8' := Lib.hid L8
      clear ho L8
      go_wp2
      go_ret2
      have M7 := step M6.out b7.out
      refine HQ.out _ _ ⟨_, rfl, ?_, step M7 L8'.out⟩
      have h9 := HO.out.mono (base' := w.heap.size) M7.size
      simpa [catL, partX] using h9
    · have HQ : Hid (∀ e w', e = .returned (.tuple #[.slice none 0 0, .int .i64 (ptextErr a.user.data.toList)]) → Below w.heap.size w w' → PAskPostB w c a e w') := by
        intro e w' he hb
        unfold PAskPostB askOfP
        rw [h2, if_neg hp]
        exact ⟨_, he, OwnZ.nil _ _ _ _, hb⟩
      have hne : (ptextErr a.user.data.toList != 0) = true := by simpa using hp
      obtain ⟨ys, hys⟩ : ∃ x, x = ptextOf a.user.data.toList := ⟨_, rfl⟩
      obtain ⟨er, her⟩ : ∃ x, x = ptextErr a.user.data.toList := ⟨_, rfl⟩
      rw [← hys, ← her] at CT
      rw [← her] at HQ hne
      rw [← hys] at HPB hpl
      obtain ⟨tx, htx⟩ : ∃ x, x = a.user := ⟨_, rfl⟩
      rw [← htx] at FA CT
      obtain ⟨b, hb⟩ : ∃ b, b = besideAsk c a := ⟨_, rfl⟩
      rw [← hb] at CB CZ kb
      clear hk hz HA ka ha h2 hys her htx h0 h1 hb hu0 hu1 hp
      go_enter Tryd.func12, Tryd.ntmps12
      go_wp2_with (first
        | ((with_reducible show wpList _ _ _ (⟨some 3, _, _, _, _, _⟩ :: _) _ _); refine wpList_box_blk rfl _ (.tmp 1) rfl cs rfl ?_; intro g w1 hg1 hg2 K1 L1)
        | ((with_reducible show wpList _ _ _ (⟨some 12, _, _, _, _, _⟩ :: _) _ _); refine wpList_load_blk rfl _ (.tmp 3) rfl g rfl _ cs K1 69 _ Tryd.underlying32 rfl size_ask HL ?_)
        | fail)
      refine (CB.out w1 L1.out).mono ?_
      rintro e w2 ⟨ds, rfl, hds, L2⟩
      have HD := Lib.hid hds
      have HDL := Lib.hid (hds.len kb)
      have HDO := Lib.hid hds.one
      have K2 := Lib.hid (K1.out.over L2)
      have M2 := Lib.hid (step L1.out L2)
      clear hds L2 K1
      go_wp2_with (first
        | ((with_reducible show wpList _ _ _ (⟨some 6, _, _, _, _, _⟩ :: _) _ _); refine wpList_alloc_blk rfl _ rfl zs _ ZH ?_; intro h w3 hg3 hg4 Z3 L3)
        | ((with_reducible show wpList _ _ _ (⟨none, .store _ (.tmp 6) _, _, _, _, _⟩ :: _) _ _); refine wpList_store_blk rfl _ (.tmp 6) (.tmp 14) rfl h rfl _ zs ds rfl Z3 69 size_ask HZ HDL HDO ?_; intro w4 X4 O4 hg5; have L4 := Lib.hid (below_only L3.out O4.out hg3); have M4 := Lib.hid (step M2.out L4.out); have K4 := Lib.hid (K2.out.over L4.out); have HD4 := Lib.hid (HD.out.over L4.out))
        | ((with_reducible show wpList _ _ _ (⟨some 19, _, _, _, _, _⟩ :: _) _ _); refine wpList_load_want (by kernel_rfl) _ (.tmp 6) rfl h rfl _ ds X4 69 _ Tryd.underlying32 rfl size_ask HDL ?_)
        | fail)
      refine (CZ.out w4 ds HD4.out).mono ?_
      rintro e w5 ⟨rfl, L5⟩
      have M5 := Lib.hid (step M4.out L5)
      have K5 := Lib.hid (K4.out.over L5)
      have hs5 := M5.out.size
      clear L5 K4 HD4 HD CZ CB X4 O4 Z3 L3 L4 M4 M2 K2
      obtain ⟨gd, _, _⟩ := FA.out _ _ K5.out
      go_wp2_with fail
      refine (CT.out w5 M5.out).mono ?_
      rintro e w6 ⟨v, rfl, ho, L6⟩
      obtain ⟨Av, cv, rfl⟩ := ho.own8.len
      clear ho
      go_wp2
      go_ret2
      exact HQ.out _ _ rfl (step M5.out L6)
  have b1 : (c == 1) = false := by simpa using h1
  by_cases h3 : c = 3
  · have CT : Hid (∀ w' : World, Below w.heap.size w w' → Calls Tryd.prog 35 #[.string a.share] w' fun e w2 => ∃ v, e = .returned (.tuple #[v, .int .i64 (ptextErr a.share.data.toList)]) ∧ OwnB w2 w'.heap.size v (ptextOf a.share.data.toList) ∧ Below w'.heap.size w' w2) := fun w' hb => PutTextB_any a.share w' hu1 (HT.out.below hb)
    have h2 : askErrP c a = ptextErr a.share.data.toList := by unfold askErrP; rw [if_pos ⟨hk, hz⟩, if_neg h0, if_neg h1, if_pos h3]
    have c3 : (c == 3) = true := by simpa using h3
    have HQ : Hid (∀ e w', (∃ v, e = .returned (.tuple #[v, .int .i64 (ptextErr a.share.data.toList)]) ∧ OwnB w' w.heap.size v (ptextOf a.share.data.toList) ∧ Below w.heap.size w w') → PAskPostB w c a e w') := by
      intro e w' hh
      unfold PAskPostB askOfP
      rw [h2, if_neg h0, if_neg h1, if_pos h3]
      by_cases hp : ptextErr a.share.data.toList = 0
      · rw [if_pos hp]; exact hh
      · rw [if_neg hp]; unfold ptextOf at hh; rw [if_neg hp] at hh; exact hh
    obtain ⟨er, her⟩ : ∃ x, x = ptextErr a.share.data.toList := ⟨_, rfl⟩
    obtain ⟨ys, hys⟩ : ∃ x, x = ptextOf a.share.data.toList := ⟨_, rfl⟩
    rw [← her, ← hys] at HQ CT
    obtain ⟨tx, htx⟩ : ∃ x, x = a.share := ⟨_, rfl⟩
    rw [← htx] at FA CT
    obtain ⟨b, hb⟩ : ∃ b, b = besideAsk c a := ⟨_, rfl⟩
    rw [← hb] at CB CZ kb
    clear hk hz HA ka ha h2 her hys htx h0 h1 h3 hb hu0 hu1
    have b1 : (c == 1) = false := by have h := c3; simp only [beq_iff_eq] at h; subst h; rfl
    go_enter Tryd.func12, Tryd.ntmps12
    go_wp2_with (first
      | ((with_reducible show wpList _ _ _ (⟨some 3, _, _, _, _, _⟩ :: _) _ _); refine wpList_box_blk rfl _ (.tmp 1) rfl cs rfl ?_; intro g w1 hg1 hg2 K1 L1)
      | ((with_reducible show wpList _ _ _ (⟨some 12, _, _, _, _, _⟩ :: _) _ _); refine wpList_load_blk rfl _ (.tmp 3) rfl g rfl _ cs K1 69 _ Tryd.underlying32 rfl size_ask HL ?_)
      | fail)
    refine (CB.out w1 L1.out).mono ?_
    rintro e w2 ⟨ds, rfl, hds, L2⟩
    have HD := Lib.hid hds
    have HDL := Lib.hid (hds.len kb)
    have HDO := Lib.hid hds.one
    have K2 := Lib.hid (K1.out.over L2)
    have M2 := Lib.hid (step L1.out L2)
    clear hds L2 K1
    go_wp2_with (first
      | ((with_reducible show wpList _ _ _ (⟨some 6, _, _, _, _, _⟩ :: _) _ _); refine wpList_alloc_blk rfl _ rfl zs _ ZH ?_; intro h w3 hg3 hg4 Z3 L3)
      | ((with_reducible show wpList _ _ _ (⟨none, .store _ (.tmp 6) _, _, _, _, _⟩ :: _) _ _); refine wpList_store_blk rfl _ (.tmp 6) (.tmp 14) rfl h rfl _ zs ds rfl Z3 69 size_ask HZ HDL HDO ?_; intro w4 X4 O4 hg5; have L4 := Lib.hid (below_only L3.out O4.out hg3); have M4 := Lib.hid (step M2.out L4.out); have K4 := Lib.hid (K2.out.over L4.out); have HD4 := Lib.hid (HD.out.over L4.out))
      | ((with_reducible show wpList _ _ _ (⟨some 19, _, _, _, _, _⟩ :: _) _ _); refine wpList_load_want (by kernel_rfl) _ (.tmp 6) rfl h rfl _ ds X4 69 _ Tryd.underlying32 rfl size_ask HDL ?_)
      | fail)
    refine (CZ.out w4 ds HD4.out).mono ?_
    rintro e w5 ⟨rfl, L5⟩
    have M5 := Lib.hid (step M4.out L5)
    have K5 := Lib.hid (K4.out.over L5)
    have hs5 := M5.out.size
    clear L5 K4 HD4 HD CZ CB X4 O4 Z3 L3 L4 M4 M2 K2
    obtain ⟨_, gd, _⟩ := FA.out _ _ K5.out
    go_wp2_with fail
    refine (CT.out w5 M5.out).mono ?_
    rintro e w6 ⟨v, rfl, ho, L6⟩
    have HO := Lib.hid ho
    have L6' := Lib.hid L6
    clear ho L6
    go_wp2
    go_ret2
    exact HQ.out _ _ ⟨_, rfl, HO.out.mono hs5, step M5.out L6'.out⟩
  have b3 : (c == 3) = false := by simpa using h3
  have h2 : askErrP c a = 0 := by unfold askErrP; rw [if_pos ⟨hk, hz⟩, if_neg h0, if_neg h1, if_neg h3]
  have HQ : Hid (∀ e w', (∃ v, e = .returned (.tuple #[v, .int .i64 0]) ∧ OwnB w' w.heap.size v (List.replicate 4 0) ∧ Below w.heap.size w w') → PAskPostB w c a e w') := by
    intro e w' hh
    unfold PAskPostB askOfP
    rw [h2, if_pos rfl, if_neg h0, if_neg h1, if_neg h3]
    exact hh
  obtain ⟨b, hb⟩ : ∃ b, b = besideAsk c a := ⟨_, rfl⟩
  rw [← hb] at CB CZ kb
  clear hk hz HA ka ha h2 h0 h1 h3 hb hu0 hu1
  go_enter Tryd.func12, Tryd.ntmps12
  go_wp2_with (first
    | ((with_reducible show wpList _ _ _ (⟨some 3, _, _, _, _, _⟩ :: _) _ _); refine wpList_box_blk rfl _ (.tmp 1) rfl cs rfl ?_; intro g w1 hg1 hg2 K1 L1)
    | ((with_reducible show wpList _ _ _ (⟨some 12, _, _, _, _, _⟩ :: _) _ _); refine wpList_load_blk rfl _ (.tmp 3) rfl g rfl _ cs K1 69 _ Tryd.underlying32 rfl size_ask HL ?_)
    | fail)
  refine (CB.out w1 L1.out).mono ?_
  rintro e w2 ⟨ds, rfl, hds, L2⟩
  have HD := Lib.hid hds
  have HDL := Lib.hid (hds.len kb)
  have HDO := Lib.hid hds.one
  have K2 := Lib.hid (K1.out.over L2)
  have M2 := Lib.hid (step L1.out L2)
  clear hds L2 K1
  go_wp2_with (first
    | ((with_reducible show wpList _ _ _ (⟨some 6, _, _, _, _, _⟩ :: _) _ _); refine wpList_alloc_blk rfl _ rfl zs _ ZH ?_; intro h w3 hg3 hg4 Z3 L3)
    | ((with_reducible show wpList _ _ _ (⟨none, .store _ (.tmp 6) _, _, _, _, _⟩ :: _) _ _); refine wpList_store_blk rfl _ (.tmp 6) (.tmp 14) rfl h rfl _ zs ds rfl Z3 69 size_ask HZ HDL HDO ?_; intro w4 X4 O4 hg5; have L4 := Lib.hid (below_only L3.out O4.out hg3); have M4 := Lib.hid (step M2.out L4.out); have K4 := Lib.hid (K2.out.over L4.out); have HD4 := Lib.hid (HD.out.over L4.out))
    | ((with_reducible show wpList _ _ _ (⟨some 19, _, _, _, _, _⟩ :: _) _ _); refine wpList_load_want (by kernel_rfl) _ (.tmp 6) rfl h rfl _ ds X4 69 _ Tryd.underlying32 rfl size_ask HDL ?_)
    | fail)
  refine (CZ.out w4 ds HD4.out).mono ?_
  rintro e w5 ⟨rfl, L5⟩
  have M5 := Lib.hid (step M4.out L5)
  have K5 := Lib.hid (K4.out.over L5)
  have hs5 := M5.out.size
  clear L5 K4 HD4 HD CZ CB X4 O4 Z3 L3 L4 M4 M2 K2
  go_wp2_with (at_make; refine wpList_make_bytes _ rfl _ _ rfl _ _ 4 rfl rfl rfl rfl (by omega) ?_; intro w6 R6 L6)
  go_ret2
  exact HQ.out _ _ ⟨_, rfl, row_zerosB R6.out hs5 (by omega), step M5.out L6⟩
set_option maxHeartbeats 4000000 in
theorem PutSayB_any (w : World) (c : Int) (cs : List Value) (a : SayV) (hc : 0 ≤ c ∧ c ≤ 65535) (ka : a.ok) (ha : SayIs w w.heap.size cs a) :
    Calls Tryd.prog 18 #[.int .u16 c, .agg cs.toArray] w (PSayPostB w c a) := by
  have HL := Lib.hid (ha.len ka)
  have HO1 := Lib.hid ha.one
  have ZH := Lib.hid zero_say
  have HZ : Hid ((scells (.slice none 0 0) (.slice none 0 0) zeroSay).length = 20) := scells_len zeroSay_ok
  have HA := Lib.hid ha
  have CB : Hid (∀ w' : World, Below w.heap.size w w' → Calls Tryd.prog 46 #[.int .u16 c, .agg cs.toArray] w' fun e w2 => ∃ ds, e = .returned (.tuple #[.agg ds.toArray, .bool (knownT c)]) ∧ SayIs w2 w2.heap.size ds (if knownT c = true then besideSay c a else zeroSay) ∧ Below w'.heap.size w' w2) := fun w' hb => sayBeside_any w' c cs a hc ka (ha.over hb)
  obtain ⟨zs, hzs⟩ : ∃ zs, zs = scells (.slice none 0 0) (.slice none 0 0) zeroSay := ⟨_, rfl⟩
  rw [← hzs] at ZH HZ
  clear hzs
  by_cases hk : knownT c = true
  rotate_left
  · have hk' : knownT c = false := by simpa using hk
    have HQ : Hid (∀ e w', e = .returned (.tuple #[.slice none 0 0, .int .i64 2]) → Below w.heap.size w w' → PSayPostB w c a e w') := by
      intro e w' he hb
      have h2 : sayErrP c a = 2 := by unfold sayErrP; rw [if_neg (fun h => hk h.1)]
      unfold PSayPostB sayOfP
      rw [h2, if_neg (by decide)]
      exact ⟨_, he, OwnZ.nil _ _ _ _, hb⟩
    rw [if_neg hk, hk'] at CB
    have kb := zeroSay_ok
    clear hk hk' HA ka ha
    go_enter Tryd.func18, Tryd.ntmps18
    go_wp2_with (first
      | ((with_reducible show wpList _ _ _ (⟨some 3, _, _, _, _, _⟩ :: _) _ _); refine wpList_box_blk rfl _ (.tmp 1) rfl cs rfl ?_; intro g w1 hg1 hg2 K1 L1)
      | ((with_reducible show wpList _ _ _ (⟨some 12, _, _, _, _, _⟩ :: _) _ _); refine wpList_load_blk rfl _ (.tmp 3) rfl g rfl _ cs K1 20 _ Tryd.underlying45 rfl size_say HL ?_)
      | fail)
    refine (CB.out w1 L1.out).mono ?_
    rintro e w2 ⟨ds, rfl, hds, L2⟩
    have HD := Lib.hid hds
    have HDL := Lib.hid (hds.len kb)
    have HDO := Lib.hid hds.one
    have K2 := Lib.hid (K1.out.over L2)
    have M2 := Lib.hid (step L1.out L2)
    clear hds L2 K1
    go_wp2_with (first
      | ((with_reducible show wpList _ _ _ (⟨some 6, _, _, _, _, _⟩ :: _) _ _); refine wpList_alloc_blk rfl _ rfl zs _ ZH ?_; intro h w3 hg3 hg4 Z3 L3)
      | ((with_reducible show wpList _ _ _ (⟨none, .store _ (.tmp 6) _, _, _, _, _⟩ :: _) _ _); refine wpList_store_blk rfl _ (.tmp 6) (.tmp 14) rfl h rfl _ zs ds rfl Z3 20 size_say HZ HDL HDO ?_; intro w4 X4 O4 hg5; have L4 := Lib.hid (below_only L3.out O4.out hg3); have M4 := Lib.hid (step M2.out L4.out); have K4 := Lib.hid (K2.out.over L4.out); have HD4 := Lib.hid (HD.out.over L4.out))
      | fail)
    go_ret2
    exact HQ.out _ _ rfl M4.out
  rw [if_pos hk, hk] at CB
  have kb := besideSay_ok (c := c) ka
  have CZ : Hid (∀ (w' : World) (ds : List Value), SayIs w' w'.heap.size ds (besideSay c a) → Calls Tryd.prog 47 #[.agg ds.toArray] w' fun e w2 => e = .returned (.bool (decide (besideSay c a = zeroSay))) ∧ Below w'.heap.size w' w2) := fun w' ds hds => isZeroSay_any w' ds _ kb hds
  by_cases hz : besideSay c a = zeroSay
  rotate_left
  · rw [decide_eq_false hz] at CZ
    have HQ : Hid (∀ e w', e = .returned (.tuple #[.slice none 0 0, .int .i64 2]) → Below w.heap.size w w' → PSayPostB w c a e w') := by
      intro e w' he hb
      have h2 : sayErrP c a = 2 := by unfold sayErrP; rw [if_neg (fun h => hz h.2.1)]
      unfold PSayPostB sayOfP
      rw [h2, if_neg (by decide)]
      exact ⟨_, he, OwnZ.nil _ _ _ _, hb⟩
    obtain ⟨b, hb⟩ : ∃ b, b = besideSay c a := ⟨_, rfl⟩
    rw [← hb] at CB CZ kb
    clear hk hz HA ka ha hb
    go_enter Tryd.func18, Tryd.ntmps18
    go_wp2_with (first
      | ((with_reducible show wpList _ _ _ (⟨some 3, _, _, _, _, _⟩ :: _) _ _); refine wpList_box_blk rfl _ (.tmp 1) rfl cs rfl ?_; intro g w1 hg1 hg2 K1 L1)
      | ((with_reducible show wpList _ _ _ (⟨some 12, _, _, _, _, _⟩ :: _) _ _); refine wpList_load_blk rfl _ (.tmp 3) rfl g rfl _ cs K1 20 _ Tryd.underlying45 rfl size_say HL ?_)
      | fail)
    refine (CB.out w1 L1.out).mono ?_
    rintro e w2 ⟨ds, rfl, hds, L2⟩
    have HD := Lib.hid hds
    have HDL := Lib.hid (hds.len kb)
    have HDO := Lib.hid hds.one
    have K2 := Lib.hid (K1.out.over L2)
    have M2 := Lib.hid (step L1.out L2)
    clear hds L2 K1
    go_wp2_with (first
      | ((with_reducible show wpList _ _ _ (⟨some 6, _, _, _, _, _⟩ :: _) _ _); refine wpList_alloc_blk rfl _ rfl zs _ ZH ?_; intro h w3 hg3 hg4 Z3 L3)
      | ((with_reducible show wpList _ _ _ (⟨none, .store _ (.tmp 6) _, _, _, _, _⟩ :: _) _ _); refine wpList_store_blk rfl _ (.tmp 6) (.tmp 14) rfl h rfl _ zs ds rfl Z3 20 size_say HZ HDL HDO ?_; intro w4 X4 O4 hg5; have L4 := Lib.hid (below_only L3.out O4.out hg3); have M4 := Lib.hid (step M2.out L4.out); have K4 := Lib.hid (K2.out.over L4.out); have HD4 := Lib.hid (HD.out.over L4.out))
      | ((with_reducible show wpList _ _ _ (⟨some 19, _, _, _, _, _⟩ :: _) _ _); refine wpList_load_want (by kernel_rfl) _ (.tmp 6) rfl h rfl _ ds X4 20 _ Tryd.underlying45 rfl size_say HDL ?_)
      | fail)
    refine (CZ.out w4 ds HD4.out).mono ?_
    rintro e w5 ⟨rfl, L5⟩
    have M5 := Lib.hid (step M4.out L5)
    have K5 := Lib.hid (K4.out.over L5)
    have hs5 := M5.out.size
    clear L5 K4 HD4 HD CZ CB X4 O4 Z3 L3 L4 M4 M2 K2
    go_wp2
    go_ret2
    exact HQ.out _ _ rfl M5.out
  rw [decide_eq_true hz] at CZ
  by_cases h0 : c = 0
  rotate_left
  · have h2 : sayErrP c a = 0 := by unfold sayErrP; rw [if_pos ⟨hk, hz, fun h => absurd h h0⟩]
    have HQ : Hid (∀ e w', (∃ v, e = .returned (.tuple #[v, .int .i64 0]) ∧ OwnB w' w.heap.size v (List.replicate 4 0) ∧ Below w.heap.size w w') → PSayPostB w c a e w') := by
      intro e w' hh
      unfold PSayPostB sayOfP
      rw [h2, if_pos rfl, if_neg h0]
      exact hh
    have b0 : (c != 0) = true := by simpa using h0
    obtain ⟨b, hb⟩ : ∃ b, b = besideSay c a := ⟨_, rfl⟩
    rw [← hb] at CB CZ kb
    clear hk hz HA ka ha h2 h0 hb
    go_enter Tryd.func18, Tryd.ntmps18
    go_wp2_with (first
      | ((with_reducible show wpList _ _ _ (⟨some 3, _, _, _, _, _⟩ :: _) _ _); refine wpList_box_blk rfl _ (.tmp 1) rfl cs rfl ?_; intro g w1 hg1 hg2 K1 L1)
      | ((with_reducible show wpList _ _ _ (⟨some 12, _, _, _, _, _⟩ :: _) _ _); refine wpList_load_blk rfl _ (.tmp 3) rfl g rfl _ cs K1 20 _ Tryd.underlying45 rfl size_say HL ?_)
      | fail)
    refine (CB.out w1 L1.out).mono ?_
    rintro e w2 ⟨ds, rfl, hds, L2⟩
    have HD := Lib.hid hds
    have HDL := Lib.hid (hds.len kb)
    have HDO := Lib.hid hds.one
    have K2 := Lib.hid (K1.out.over L2)
    have M2 := Lib.hid (step L1.out L2)
    clear hds L2 K1
    go_wp2_with (first
      | ((with_reducible show wpList _ _ _ (⟨some 6, _, _, _, _, _⟩ :: _) _ _); refine wpList_alloc_blk rfl _ rfl zs _ ZH ?_; intro h w3 hg3 hg4 Z3 L3)
      | ((with_reducible show wpList _ _ _ (⟨none, .store _ (.tmp 6) _, _, _, _, _⟩ :: _) _ _); refine wpList_store_blk rfl _ (.tmp 6) (.tmp 14) rfl h rfl _ zs ds rfl Z3 20 size_say HZ HDL HDO ?_; intro w4 X4 O4 hg5; have L4 := Lib.hid (below_only L3.out O4.out hg3); have M4 := Lib.hid (step M2.out L4.out); have K4 := Lib.hid (K2.out.over L4.out); have HD4 := Lib.hid (HD.out.over L4.out))
      | ((with_reducible show wpList _ _ _ (⟨some 19, _, _, _, _, _⟩ :: _) _ _); refine wpList_load_want (by kernel_rfl) _ (.tmp 6) rfl h rfl _ ds X4 20 _ Tryd.underlying45 rfl size_say HDL ?_)
      | fail)
    refine (CZ.out w4 ds HD4.out).mono ?_
    rintro e w5 ⟨rfl, L5⟩
    have M5 := Lib.hid (step M4.out L5)
    have K5 := Lib.hid (K4.out.over L5)
    have hs5 := M5.out.size
    clear L5 K4 HD4 HD CZ CB X4 O4 Z3 L3 L4 M4 M2 K2
    go_wp2_with (at_make; refine wpList_make_bytes _ rfl _ _ rfl _ _ 4 rfl rfl rfl rfl (by omega) ?_; intro w6 R6 L6)
    go_ret2
    exact HQ.out _ _ ⟨_, rfl, row_zerosB R6.out hs5 (by omega), step M5.out L6⟩
  have b0 : (c != 0) = false := by simpa using h0
  have FA : Hid (∀ (w : World) (g : Nat), Blk w g 45 cs → w.cell? ⟨g, 0, none⟩ = some (.int .u16 a.dia) ∧ w.cell? ⟨g, 1, none⟩ = some (.int .u64 a.siz) ∧ Holds w w.heap.size (some ⟨g, 2, none⟩) 8 8 a.chal) := by
    intro w g h
    obtain ⟨X1, X2, X3, M1, M2, M3, rfl, _⟩ := HA.out
    exact ⟨h.at rfl, h.at rfl, scells_chalH ka h⟩
  obtain ⟨s0, s1⟩ := ka.siz
  obtain ⟨d0, d1⟩ := ka.dia
  by_cases hs : a.siz < 4294967296
  rotate_left
  · have h2 : sayErrP c a = 2 := by unfold sayErrP; rw [if_neg (fun h => hs (h.2.2 h0))]
    have HQ : Hid (∀ e w', e = .returned (.tuple #[.slice none 0 0, .int .i64 2]) → Below w.heap.size w w' → PSayPostB w c a e w') := by
      intro e w' he hb
      unfold PSayPostB sayOfP
      rw [h2, if_neg (by decide)]
      exact ⟨_, he, OwnZ.nil _ _ _ _, hb⟩
    have CP : Hid (∀ w' : World, Calls Tryd.prog 48 #[.int .u64 a.siz, .int .i64 4] w' fun e w2 => ∃ A', e = .returned (.tuple #[.slice A' 0 0, .int .i64 2]) ∧ Below w'.heap.size w' w2) := fun w' => by
      have h := Put_any w' a.siz 4 ⟨s0, s1⟩ (by omega)
      unfold PutPost at h
      have hp : putOk a.siz 4 = false := by unfold putOk; rw [show ((4 : Int).toNat) = 4 from rfl, show (256 : Int) ^ 4 = 4294967296 from by decide, decide_eq_false hs]; simp
      unfold putErr putOf at h
      rw [if_neg (by rw [hp]; decide), if_neg (by rw [hp]; decide)] at h
      exact h.mono fun e w2 ⟨A', h1, _, h3⟩ => ⟨A', h1, h3⟩
    obtain ⟨sz, hsz⟩ : ∃ x, x = a.siz := ⟨_, rfl⟩
    rw [← hsz] at FA CP
    obtain ⟨b, hb⟩ : ∃ b, b = besideSay c a := ⟨_, rfl⟩
    rw [← hb] at CB CZ kb
    clear hk hz HA ka ha h2 h0 hb hs s0 s1 hsz
    go_enter Tryd.func18, Tryd.ntmps18
    go_wp2_with (first
      | ((with_reducible show wpList _ _ _ (⟨some 3, _, _, _, _, _⟩ :: _) _ _); refine wpList_box_blk rfl _ (.tmp 1) rfl cs rfl ?_; intro g w1 hg1 hg2 K1 L1)
      | ((with_reducible show wpList _ _ _ (⟨some 12, _, _, _, _, _⟩ :: _) _ _); refine wpList_load_blk rfl _ (.tmp 3) rfl g rfl _ cs K1 20 _ Tryd.underlying45 rfl size_say HL ?_)
      | fail)
    refine (CB.out w1 L1.out).mono ?_
    rintro e w2 ⟨ds, rfl, hds, L2⟩
    have HD := Lib.hid hds
    have HDL := Lib.hid (hds.len kb)
    have HDO := Lib.hid hds.one
    have K2 := Lib.hid (K1.out.over L2)
    have M2 := Lib.hid (step L1.out L2)
    clear hds L2 K1
    go_wp2_with (first
      | ((with_reducible show wpList _ _ _ (⟨some 6, _, _, _, _, _⟩ :: _) _ _); refine wpList_alloc_blk rfl _ rfl zs _ ZH ?_; intro h w3 hg3 hg4 Z3 L3)
      | ((with_reducible show wpList _ _ _ (⟨none, .store _ (.tmp 6) _, _, _, _, _⟩ :: _) _ _); refine wpList_store_blk rfl _ (.tmp 6) (.tmp 14) rfl h rfl _ zs ds rfl Z3 20 size_say HZ HDL HDO ?_; intro w4 X4 O4 hg5; have L4 := Lib.hid (below_only L3.out O4.out hg3); have M4 := Lib.hid (step M2.out L4.out); have K4 := Lib.hid (K2.out.over L4.out); have HD4 := Lib.hid (HD.out.over L4.out))
      | ((with_reducible show wpList _ _ _ (⟨some 19, _, _, _, _, _⟩ :: _) _ _); refine wpList_load_want (by kernel_rfl) _ (.tmp 6) rfl h rfl _ ds X4 20 _ Tryd.underlying45 rfl size_say HDL ?_)
      | fail)
    refine (CZ.out w4 ds HD4.out).mono ?_
    rintro e w5 ⟨rfl, L5⟩
    have M5 := Lib.hid (step M4.out L5)
    have K5 := Lib.hid (K4.out.over L5)
    have hs5 := M5.out.size
    clear L5 K4 HD4 HD CZ CB X4 O4 Z3 L3 L4 M4 M2 K2
    obtain ⟨_, gd, _⟩ := FA.out _ _ K5.out
    go_wp2_with fail
    refine (CP.out w5).mono ?_
    rintro e w6 ⟨A', rfl, L6⟩
    go_wp2
    go_ret2
    exact HQ.out _ _ rfl (step M5.out L6)
  have h2 : sayErrP c a = 0 := by unfold sayErrP; rw [if_pos ⟨hk, hz, fun _ => hs⟩]
  have HQ : Hid (∀ e w', (∃ v, e = .returned (.tuple #[v, .int .i64 0]) ∧ OwnB w' w.heap.size v (le a.dia 2 ++ List.replicate 2 0 ++ le a.siz 4 ++ a.chal) ∧ Below w.heap.size w w') → PSayPostB w c a e w') := by
    intro e w' hh
    unfold PSayPostB sayOfP
    rw [h2, if_pos rfl, if_pos h0]
    exact hh
  have CP : Hid (∀ w' : World, Calls Tryd.prog 48 #[.int .u64 a.siz, .int .i64 4] w' fun e w2 => ∃ A', e = .returned (.tuple #[.slice A' 4 4, .int .i64 0]) ∧ Fresh w2 w'.heap.size A' (le a.siz 4) ∧ Below w'.heap.size w' w2) := fun w' => by
    have h := Put_any w' a.siz 4 ⟨s0, s1⟩ (by omega)
    unfold PutPost at h
    have hp : putOk a.siz 4 = true := by unfold putOk; rw [show ((4 : Int).toNat) = 4 from rfl, show (256 : Int) ^ 4 = 4294967296 from by decide, decide_eq_true hs]; rfl
    unfold putErr putOf at h
    rw [if_pos hp, if_pos hp, show ((4 : Int).toNat) = 4 from rfl, le_length] at h
    exact h
  have CD : Hid (∀ w' : World, Calls Tryd.prog 49 #[.int .u64 a.dia, .int .i64 2] w' fun e w2 => ∃ A', e = .returned (.slice A' 2 2) ∧ Fresh w2 w'.heap.size A' (le a.dia 2) ∧ Below w'.heap.size w' w2) := fun w' => number_le w' a.dia d0 d1
  have CC : Hid (∀ (w : World) (gs m : Nat) (A : Nat → Option Addr) (n c : Nat → Nat) (X : Nat → List Int), Parts w gs m A n c X → m ≤ 1000 → sumN n m ≤ 140737488355328 → Calls Tryd.prog 41 #[.slice (some ⟨gs, 0, none⟩) m m] w fun e w' => ∃ v, e = .returned v ∧ OwnB w' w.heap.size v (catL X m) ∧ Below w.heap.size w w') := ConcatZ_any
  have hdz : IntKind.u64.wrap a.dia = a.dia := by rw [IntKind.wrap_u64]; omega
  have HLS : Hid ((le a.siz 4).length = 4) := le_length _ _
  have HBS : Hid (Bytes (le a.siz 4)) := le_bytes _ _
  have HLD : Hid ((le a.dia 2).length = 2) := le_length _ _
  have HBD : Hid (Bytes (le a.dia 2)) := le_bytes _ _
  obtain ⟨ls, hls⟩ : ∃ x, x = le a.siz 4 := ⟨_, rfl⟩
  obtain ⟨ld, hld⟩ : ∃ x, x = le a.dia 2 := ⟨_, rfl⟩
  rw [← hls, ← hld] at HQ
  rw [← hls] at CP HLS HBS
  rw [← hld] at CD HLD HBD
  obtain ⟨sz, hsz⟩ : ∃ x, x = a.siz := ⟨_, rfl⟩
  obtain ⟨dz, hdz'⟩ : ∃ x, x = a.dia := ⟨_, rfl⟩
  obtain ⟨ch, hch⟩ : ∃ x, x = a.chal := ⟨_, rfl⟩
  rw [← hsz, ← hdz', ← hch] at FA
  rw [← hsz] at CP
  rw [← hdz'] at CD hdz
  rw [← hch] at HQ
  obtain ⟨b, hb⟩ : ∃ b, b = besideSay c a := ⟨_, rfl⟩
  rw [← hb] at CB CZ kb
  clear hk hz HA ka ha h2 h0 hb hs s0 s1 d0 d1 hsz hdz' hch hls hld
  go_enter Tryd.func18, Tryd.ntmps18
  go_wp2_with (first
    | ((with_reducible show wpList _ _ _ (⟨some 3, _, _, _, _, _⟩ :: _) _ _); refine wpList_box_blk rfl _ (.tmp 1) rfl cs rfl ?_; intro g w1 hg1 hg2 K1 L1)
    | ((with_reducible show wpList _ _ _ (⟨some 12, _, _, _, _, _⟩ :: _) _ _); refine wpList_load_blk rfl _ (.tmp 3) rfl g rfl _ cs K1 20 _ Tryd.underlying45 rfl size_say HL ?_)
    | fail)
  refine (CB.out w1 L1.out).mono ?_
  rintro e w2 ⟨ds, rfl, hds, L2⟩
  have HD := Lib.hid hds
  have HDL := Lib.hid (hds.len kb)
  have HDO := Lib.hid hds.one
  have K2 := Lib.hid (K1.out.over L2)
  have M2 := Lib.hid (step L1.out L2)
  clear hds L2 K1
  go_wp2_with (first
    | ((with_reducible show wpList _ _ _ (⟨some 6, _, _, _, _, _⟩ :: _) _ _); refine wpList_alloc_blk rfl _ rfl zs _ ZH ?_; intro h w3 hg3 hg4 Z3 L3)
    | ((with_reducible show wpList _ _ _ (⟨none, .store _ (.tmp 6) _, _, _, _, _⟩ :: _) _ _); refine wpList_store_blk rfl _ (.tmp 6) (.tmp 14) rfl h rfl _ zs ds rfl Z3 20 size_say HZ HDL HDO ?_; intro w4 X4 O4 hg5; have L4 := Lib.hid (below_only L3.out O4.out hg3); have M4 := Lib.hid (step M2.out L4.out); have K4 := Lib.hid (K2.out.over L4.out); have HD4 := Lib.hid (HD.out.over L4.out))
    | ((with_reducible show wpList _ _ _ (⟨some 19, _, _, _, _, _⟩ :: _) _ _); refine wpList_load_want (by kernel_rfl) _ (.tmp 6) rfl h rfl _ ds X4 20 _ Tryd.underlying45 rfl size_say HDL ?_)
    | fail)
  refine (CZ.out w4 ds HD4.out).mono ?_
  rintro e w5 ⟨rfl, L5⟩
  have M5 := Lib.hid (step M4.out L5)
  have K5 := Lib.hid (K4.out.over L5)
  have hs5 := M5.out.size
  clear L5 K4 HD4 HD CZ CB X4 O4 Z3 L3 L4 M4 M2 K2
  obtain ⟨_, gd, _⟩ := FA.out _ _ K5.out
  go_wp2_with fail
  refine (CP.out w5).mono ?_
  rintro e w6 ⟨A6, rfl, hf6, L6⟩
  have K6 := Lib.hid (K5.out.over L6)
  have M6 := Lib.hid (step M5.out L6)
  have HF6 := Lib.hid (hf6.holds HLS.out HBS.out (by omega))
  clear hf6 L6 gd CP K5
  go_upto_region 9 with fail
  refine wp_region_held (S := fun w' => Blk w' g 45 cs) (by kernel_rfl) ?_
  change wpAnyH _ _ _ _ _ _ _ _ w6.drew
  have S0 : Hid (Blk w6.drew g 45 cs) := K6.out.drew
  have b0 : Hid (Below w.heap.size w w6.drew) := M6.out.drew
  refine wpAnyH_take (i := 0) (v := _) rfl (by kernel_rfl) (by kernel_rfl) (by kernel_rfl) (fun _ _ _ h => h) (yieldsIf_fld (by kernel_rfl) _ (.tmp 3) 0 rfl (.pointer (some ⟨g, 0, none⟩)) (.pointer (some ⟨g, 0, none⟩)) (by kernel_rfl) (fld_isZeroSay_0 g)) S0.out ?_
  refine wpAnyH_take (i := 1) (v := _) rfl (by kernel_rfl) (by kernel_rfl) (by kernel_rfl) (fun _ _ _ h => h) (yieldsIf_load_one (by kernel_rfl) _ (.tmp 35) rfl g 0 (by kernel_rfl) (.int .u16 dz) (fun w h => (FA.out w g h).1) _ Tryd.underlying22 rfl) S0.out ?_
  refine wpAnyH_take (i := 2) (v := (.int .u64 dz)) rfl (by kernel_rfl) (by kernel_rfl) (by kernel_rfl) (fun _ _ _ h => h) (.inl ⟨by kernel_rfl, fun w _ => by go_simp⟩) S0.out ?_
  refine wpAnyH_take (i := 5) (v := _) rfl (by kernel_rfl) (by kernel_rfl) (by kernel_rfl) (fun _ _ _ h => h) (yieldsIf_move (by kernel_rfl) (.tmp 8) rfl (.slice A6 4 4) (by kernel_rfl)) S0.out ?_
  refine wpAnyH_take (i := 6) (v := _) rfl (by kernel_rfl) (by kernel_rfl) (by kernel_rfl) (fun _ _ _ h => h) (yieldsIf_fld (by kernel_rfl) _ (.tmp 3) 2 rfl (.pointer (some ⟨g, 0, none⟩)) (.pointer (some ⟨g, 2, none⟩)) (by kernel_rfl) (fld_isZeroSay_2 g)) S0.out ?_
  refine wpAnyH_take (i := 7) (v := (.slice (some ⟨g, 2, none⟩) 8 8)) rfl (by kernel_rfl) (by kernel_rfl) (by kernel_rfl) (fun _ _ _ h => h) (.inl ⟨by kernel_rfl, fun w _ => by go_simp⟩) S0.out ?_
  refine wpAnyH_two 3 4 _ _ (by kernel_rfl) rfl rfl (fun K hK => ?_) (fun K hK => ?_)
  · go_simp
    refine (CD.out _).mono ?_
    rintro e v1 ⟨A3, rfl, hf3, L3⟩
    have S1 := Lib.hid (S0.out.over L3)
    have b1 := Lib.hid (step b0.out L3)
    have HN1 := Lib.hid (hf3.holds HLD.out HBD.out (by omega))
    have HS1 := Lib.hid (HF6.out.drew.over L3)
    refine hK _ _ S1.out ?_
    clear hK K hf3 L3
    refine wpAnyH_one 4 _ (by kernel_rfl) rfl fun K hK => ?_
    refine step_make_bytes rfl _ _ rfl 2 rfl rfl (by omega) ?_
    intro v2 R2 b2'
    have S2 := Lib.hid (S1.out.over b2'.out)
    have b2 := Lib.hid (step b1.out b2'.out)
    have HN2 := Lib.hid (HN1.out.over b2'.out)
    have HS2 := Lib.hid (HS1.out.over b2'.out)
    have HZ2 : Hid (Holds v2 v2.heap.size (some ⟨v1.heap.size, 0, none⟩) 2 2 (List.replicate 2 0)) := Fresh.holds (base := 0) (.inr ⟨_, rfl, Nat.zero_le _, R2.out⟩) rfl (Bytes.zeros 2) (by omega)
    refine hK _ _ S2.out ?_
    clear hK K
    refine wpAnyH_frame fun a1 ha1 => ?_
    refine wpAnyH_one 8 _ (by kernel_rfl) rfl fun K hK => ?_
    refine step_slice_blk rfl _ _ 4 _ rfl Tryd.underlying104 [.slice A3 2 2, .slice (some ⟨v1.heap.size, 0, none⟩) 2 2, .slice A6 4 4, .slice (some ⟨g, 2, none⟩) 8 8] (by rw [ha1]; kernel_rfl) ?_
    intro g9 v3 q2 q3 Y3 b3'
    have S3 := Lib.hid (S2.out.over b3'.out)
    have b3 := Lib.hid (step b2.out b3'.out)
    obtain ⟨_, _, hch⟩ := FA.out _ _ S3.out
    have PP : Hid (Parts v3 g9 4 (partA [(A3, 2, 2, ld), (some ⟨v1.heap.size, 0, none⟩, 2, 2, List.replicate 2 0), (A6, 4, 4, ls), (some ⟨g, 2, none⟩, 8, 8, ch)]) (partN [(A3, 2, 2, ld), (some ⟨v1.heap.size, 0, none⟩, 2, 2, List.replicate 2 0), (A6, 4, 4, ls), (some ⟨g, 2, none⟩, 8, 8, ch)]) (partC [(A3, 2, 2, ld), (some ⟨v1.heap.size, 0, none⟩, 2, 2, List.replicate 2 0), (A6, 4, 4, ls), (some ⟨g, 2, none⟩, 8, 8, ch)]) (partX [(A3, 2, 2, ld), (some ⟨v1.heap.size, 0, none⟩, 2, 2, List.replicate 2 0), (A6, 4, 4, ls), (some ⟨g, 2, none⟩, 8, 8, ch)])) :=
      Parts.of_blk [(A3, 2, 2, ld), (some ⟨v1.heap.size, 0, none⟩, 2, 2, List.replicate 2 0), (A6, 4, 4, ls), (some ⟨g, 2, none⟩, 8, 8, ch)] Y3.out (List.forall_mem_cons.2 ⟨HN2.out.over b3'.out, List.forall_mem_cons.2 ⟨HZ2.out.over b3'.out, List.forall_mem_cons.2 ⟨HS2.out.over b3'.out, List.forall_mem_cons.2 ⟨hch, fun _ h => by cases h⟩⟩⟩⟩)
    refine hK _ _ S3.out ?_
    clear hK K hch
    rw [ha1]
    clear ha1 a1
    refine wpAnyH_one 9 _ (by kernel_rfl) rfl fun K hK => ?_
    go_simp
    refine (CC.out v3 g9 4 _ _ _ _ PP.out (by omega) (by show 0 + 2 + 2 + 4 + 8 ≤ _; omega)).mono ?_
    rintro e v4 ⟨v, rfl, ho, L4⟩
    have HOUT := Lib.hid ho
    have S4 := Lib.hid (S3.out.over L4)
    have b4 := Lib.hid (step b3.out L4)
    refine hK _ _ S4.out ?_
    clear hK K ho L4
    refine wpAnyH_one 10 _ (by kernel_rfl) rfl fun K hK => ?_
    go_simp
    refine hK _ _ S4.out ?_
    clear hK K
    refine wpAnyH_one 11 _ (by kernel_rfl) rfl fun K hK => ?_
    go_simp
    refine hK _ _ S4.out ?_
    clear hK K
    refine wpAnyH_done (by kernel_rfl) ?_ _
    go_wp2
    go_ret2
    refine HQ.out _ _ ⟨_, rfl, ?_, b4.out⟩
    have h9 := HOUT.out.mono (base' := w.heap.size) b3.out.size
    simpa [catL, partX, List.append_assoc] using h9
  · refine step_make_bytes rfl _ _ rfl 2 rfl rfl (by omega) ?_
    intro v1 R1 b1'
    have S1 := Lib.hid (S0.out.over b1'.out)
    have b1 := Lib.hid (step b0.out b1'.out)
    have HS1 := Lib.hid (HF6.out.drew.over b1'.out)
    have HZ1 : Hid (Holds v1 v1.heap.size (some ⟨w6.drew.heap.size, 0, none⟩) 2 2 (List.replicate 2 0)) := Fresh.holds (base := 0) (.inr ⟨_, rfl, Nat.zero_le _, R1.out⟩) rfl (Bytes.zeros 2) (by omega)
    refine hK _ _ S1.out ?_
    clear hK K
    refine wpAnyH_one 3 _ (by kernel_rfl) rfl fun K hK => ?_
    go_simp
    refine (CD.out _).mono ?_
    rintro e v2 ⟨A3, rfl, hf3, L3⟩
    have S2 := Lib.hid (S1.out.over L3)
    have b2 := Lib.hid (step b1.out L3)
    have HN2 := Lib.hid (hf3.holds HLD.out HBD.out (by omega))
    have HS2 := Lib.hid (HS1.out.over L3)
    have HZ2 := Lib.hid (HZ1.out.over L3)
    refine hK _ _ S2.out ?_
    clear hK K hf3 L3
    refine wpAnyH_frame fun a1 ha1 => ?_
    refine wpAnyH_one 8 _ (by kernel_rfl) rfl fun K hK => ?_
    refine step_slice_blk rfl _ _ 4 _ rfl Tryd.underlying104 [.slice A3 2 2, .slice (some ⟨w6.drew.heap.size, 0, none⟩) 2 2, .slice A6 4 4, .slice (some ⟨g, 2, none⟩) 8 8] (by rw [ha1]; kernel_rfl) ?_
    intro g9 v3 q2 q3 Y3 b3'
    have S3 := Lib.hid (S2.out.over b3'.out)
    have b3 := Lib.hid (step b2.out b3'.out)
    obtain ⟨_, _, hch⟩ := FA.out _ _ S3.out
    have PP : Hid (Parts v3 g9 4 (partA [(A3, 2, 2, ld), (some ⟨w6.drew.heap.size, 0, none⟩, 2, 2, List.replicate 2 0), (A6, 4, 4, ls), (some ⟨g, 2, none⟩, 8, 8, ch)]) (partN [(A3, 2, 2, ld), (some ⟨w6.drew.heap.size, 0, none⟩, 2, 2, List.replicate 2 0), (A6, 4, 4, ls), (some ⟨g, 2, none⟩, 8, 8, ch)]) (partC [(A3, 2, 2, ld), (some ⟨w6.drew.heap.size, 0, none⟩, 2, 2, List.replicate 2 0), (A6, 4, 4, ls), (some ⟨g, 2, none⟩, 8, 8, ch)]) (partX [(A3, 2, 2, ld), (some ⟨w6.drew.heap.size, 0, none⟩, 2, 2, List.replicate 2 0), (A6, 4, 4, ls), (some ⟨g, 2, none⟩, 8, 8, ch)])) :=
      Parts.of_blk [(A3, 2, 2, ld), (some ⟨w6.drew.heap.size, 0, none⟩, 2, 2, List.replicate 2 0), (A6, 4, 4, ls), (some ⟨g, 2, none⟩, 8, 8, ch)] Y3.out (List.forall_mem_cons.2 ⟨HN2.out.over b3'.out, List.forall_mem_cons.2 ⟨HZ2.out.over b3'.out, List.forall_mem_cons.2 ⟨HS2.out.over b3'.out, List.forall_mem_cons.2 ⟨hch, fun _ h => by cases h⟩⟩⟩⟩)
    refine hK _ _ S3.out ?_
    clear hK K hch
    rw [ha1]
    clear ha1 a1
    refine wpAnyH_one 9 _ (by kernel_rfl) rfl fun K hK => ?_
    go_simp
    refine (CC.out v3 g9 4 _ _ _ _ PP.out (by omega) (by show 0 + 2 + 2 + 4 + 8 ≤ _; omega)).mono ?_
    rintro e v4 ⟨v, rfl, ho, L4⟩
    have HOUT := Lib.hid ho
    have S4 := Lib.hid (S3.out.over L4)
    have b4 := Lib.hid (step b3.out L4)
    refine hK _ _ S4.out ?_
    clear hK K ho L4
    refine wpAnyH_one 10 _ (by kernel_rfl) rfl fun K hK => ?_
    go_simp
    refine hK _ _ S4.out ?_
    clear hK K
    refine wpAnyH_one 11 _ (by kernel_rfl) rfl fun K hK => ?_
    go_simp
    refine hK _ _ S4.out ?_
    clear hK K
    refine wpAnyH_done (by kernel_rfl) ?_ _
    go_wp2
    go_ret2
    refine HQ.out _ _ ⟨_, rfl, ?_, b4.out⟩
    have h9 := HOUT.out.mono (base' := w.heap.size) b3.out.size
    simpa [catL, partX, List.append_assoc] using h9
end Go.Proofs.YtepkamkgodbffaaDoor
