/-
  Layer 13 (frame): receivers: New, Take, Waits.
-/
import Derived.Test.YtjpcifmeimcikaaFrD
import Derived.Test.YtjpcifmeimcikaaSpare
import Derived.Test.YtjpcifmeimcikaaCopyB
namespace Go.Proofs.Ytjpcifmeimcikaa
set_option maxRecDepth 100000
open Go.RowKit
set_option linter.unusedVariables false

/-- block g is a receiver that has refused bytes or not, and keeps the bytes k in a row that v heads, in blocks from base on -/
structure Rcv (w : World) (base g : Nat) (st : Bool) (v : Value) (k : List Int) : Prop where
  ge : base ≤ g
  blk : Blk w g 44 [.bool true, .bool st, v]
  own : Own w base v k
  byte : Bytes k
def rcvS (g : Nat) (v : Value) : Nat → Prop := fun j => j = g ∨ v.ownBlock = some j

section
variable {w w' : World} {base base' g : Nat} {st : Bool} {v : Value} {k : List Int} {S : Nat → Prop}
theorem Rcv.spare (h : Rcv w base g st v k) (a : Spare S w w') (hs : ∀ j, rcvS g v j → ¬ S j) : Rcv w' base g st v k :=
  ⟨h.ge, h.blk.spare a (hs g (.inl rfl)), OwnK.spare h.own a fun i hi => hs i (.inr hi), h.byte⟩
theorem Rcv.below (h : Rcv w base g st v k) (hb : Below w.heap.size w w') : Rcv w' base g st v k := ⟨h.ge, h.blk.over hb, Own.below h.own hb, h.byte⟩
theorem Rcv.mono (h : Rcv w base g st v k) (hb : base' ≤ base) : Rcv w base' g st v k := ⟨by have := h.ge; omega, h.blk, Own.mono h.own hb, h.byte⟩
theorem Rcv.set_ge (h : Rcv w base g st v k) : ∀ j, rcvS g v j → base ≤ j := fun j hj => by
  rcases hj with rfl | hj
  · exact h.ge
  · exact (OwnK.block h.own hj).1
end

theorem size_b : (Try.prog.info? 4).map (·.size) = some 1 := by kernel_rfl
theorem size_row : (Try.prog.info? 22).map (·.size) = some 1 := by kernel_rfl

set_option maxHeartbeats 400000 in
theorem NewF_any (w : World) : Calls Try.prog 13 #[] w fun e w' => ∃ g, e = .returned (.pointer (some ⟨g, 0, none⟩)) ∧ w.heap.size ≤ g ∧ Rcv w' w.heap.size g false (.slice none 0 0) [] ∧ Below w.heap.size w w' := by
  go_enter Try.func13, Try.ntmps13
  go_wp2_with (first
    | ((with_reducible show wpList _ _ _ (⟨some 2, _, _, _, _, _⟩ :: _) _ _); refine wpList_box_blk rfl _ (.tmp 1) rfl [.bool true, .bool false, .slice none 0 0] rfl ?_; intro g w1 hg1 hg2 B1 L1)
    | fail)
  go_ret
  exact ⟨g, rfl, hg1, ⟨hg1, B1.out, Own.nil _ _, Bytes.nil⟩, L1.out⟩

set_option maxHeartbeats 400000 in
theorem WaitsF_any (w : World) (base g : Nat) (st : Bool) (v : Value) (k : List Int) (h : Rcv w base g st v k) :
    Calls Try.prog 16 #[.pointer (some ⟨g, 0, none⟩)] w fun e w' => e = .returned (.int .i64 k.length) ∧ w = w' := by
  obtain ⟨A, c, rfl⟩ := h.own.len
  have c2 : w.cell? ⟨g, 2, none⟩ = some (.slice A k.length c) := h.blk.cell 2
  obtain ⟨n, hn⟩ : ∃ n, n = k.length := ⟨_, rfl⟩
  rw [← hn] at c2 ⊢
  clear h hn
  go_enter Try.func16, Try.ntmps16
  go_wp2
  go_ret
  exact ⟨rfl, rfl⟩
set_option maxHeartbeats 400000 in
theorem WaitsF_none (w : World) : Calls Try.prog 16 #[.pointer none] w fun e w' => e = .returned (.int .i64 0) ∧ w = w' := by
  go_enter Try.func16, Try.ntmps16
  go_wp2
  go_ret
  exact ⟨rfl, rfl⟩
set_option maxHeartbeats 400000 in
theorem WaitsF_zero (w : World) (g : Nat) (a b : Value) (h : Blk w g 44 [a, b, .slice none 0 0]) : Calls Try.prog 16 #[.pointer (some ⟨g, 0, none⟩)] w fun e w' => e = .returned (.int .i64 0) ∧ w = w' := by
  have c2 : w.cell? ⟨g, 2, none⟩ = some (.slice none 0 0) := h.cell 2
  go_enter Try.func16, Try.ntmps16
  go_wp2
  go_ret
  exact ⟨rfl, rfl⟩

set_option maxHeartbeats 400000 in
theorem TakeF_none (w : World) (u : Value) : Calls Try.prog 14 #[.pointer none, u] w fun e w' => e = .returned (.tuple #[.slice none 0 0, .int .i64 1]) ∧ w = w' := by
  go_enter Try.func14, Try.ntmps14
  go_wp2
  go_ret2
  exact ⟨rfl, rfl⟩
set_option maxHeartbeats 400000 in
theorem TakeF_zero (w : World) (g : Nat) (b u v : Value) (h : Blk w g 44 [.bool false, b, v]) : Calls Try.prog 14 #[.pointer (some ⟨g, 0, none⟩), u] w fun e w' => e = .returned (.tuple #[.slice none 0 0, .int .i64 1]) ∧ w = w' := by
  have c0 : w.cell? ⟨g, 0, none⟩ = some (.bool false) := h.cell 0
  go_enter Try.func14, Try.ntmps14
  go_wp2
  go_ret2
  exact ⟨rfl, rfl⟩
set_option maxHeartbeats 400000 in
theorem TakeF_state (w : World) (base g : Nat) (u v : Value) (k : List Int) (h : Rcv w base g true v k) : Calls Try.prog 14 #[.pointer (some ⟨g, 0, none⟩), u] w fun e w' => e = .returned (.tuple #[.slice none 0 0, .int .i64 17]) ∧ w = w' := by
  have c0 : w.cell? ⟨g, 0, none⟩ = some (.bool true) := h.blk.cell 0
  have c1 : w.cell? ⟨g, 1, none⟩ = some (.bool true) := h.blk.cell 1
  clear h
  go_enter Try.func14, Try.ntmps14
  go_wp2
  go_ret2
  exact ⟨rfl, rfl⟩

/-- what Take answers of a receiver that takes -/
def TakePost (w : World) (base g : Nat) (v : Value) (r : List Int) (e : Ending) (w' : World) : Prop := ∃ l ps v', e = .returned (.tuple #[l, .int .i64 (frs r).2.2]) ∧ OLst false w' w.heap.size l ps ∧ rowsL ps = (frs r).1 ∧
  Rcv w' base g (!decide ((frs r).2.2 = 0)) v' (frs r).2.1 ∧ Spare (rcvS g v) w w' ∧ Wander w v v' ∧ Away ps v'

theorem OLst.only {Z : Bool} {w w' : World} {base g : Nat} {v : Value} {ps : List PartT} (h : OLst Z w base v ps) (hO : Only g w w') (hg : g < base) : OLst Z w' base v ps :=
  h.spare (Spare.of_only hO) (fun i hi hj => by have := (h.row.block hi).1; omega) fun p hp i hi hj => by have := ((h.each p hp).1.1.block hi).1; omega
theorem Away.newer {Z : Bool} {w : World} {base : Nat} {l v : Value} {ps : List PartT} (h : OLst Z w base l ps) (hv : ∀ i, v.ownBlock = some i → i < base) : Away ps v := fun p hp i hi hj => by
  have h1 := ((h.each p hp).1.1.block hi).1
  have h2 := hv i hj
  omega

theorem take_spare {w w1 w2 w3 : World} {g : Nat} {v : Value} (s1 : Spare (fun j => v.ownBlock = some j) w w1) (O2 : Only g w1 w2) (b3 : Below w2.heap.size w2 w3) : Spare (rcvS g v) w w3 :=
  ((s1.mono (S' := rcvS g v) fun j _ h => .inr h).trans (Spare.of_only O2) fun j _ h => .inl h).trans (Spare.of_over (rcvS g v) b3) fun j _ h => h

theorem OLst.newer' {Z : Bool} {w : World} {base : Nat} {l v : Value} {ps : List PartT} (h : OLst Z w base l ps) (hv : ∀ i, v.ownBlock = some i → i < base) : Away ps v := Away.newer h hv
theorem Away.older {Z : Bool} {w : World} {base : Nat} {l v : Value} {ps : List PartT} (h : OLst Z w base l ps) (hv : ∀ i, v.ownBlock = some i → w.heap.size ≤ i) : Away ps v := fun p hp i hi hj => by
  obtain ⟨_, _, hcs⟩ := (h.each p hp).1.1.block hi
  have h1 := (Array.getElem?_eq_some_iff.1 hcs).1
  have h2 := hv i hj
  omega
set_option maxHeartbeats 4000000 in
theorem TakeF_any (w : World) (base g : Nat) (v : Value) (k : List Int) (A : Option Addr) (n c : Nat) (xs : List Int) (h : Rcv w base g false v k) (hx : Holds w w.heap.size A n c xs) (hb : base ≤ w.heap.size) (hs : k.length + n ≤ 1099511627776) :
    Calls Try.prog 14 #[.pointer (some ⟨g, 0, none⟩), .slice A n c] w (TakePost w base g v (k ++ xs)) := by
  have c0 : w.cell? ⟨g, 0, none⟩ = some (.bool true) := h.blk.cell 0
  have c1 : w.cell? ⟨g, 1, none⟩ = some (.bool false) := h.blk.cell 1
  have c2 : w.cell? ⟨g, 2, none⟩ = some v := h.blk.cell 2
  have hxl := hx.len
  have hgw := h.blk.lt
  have hgb := h.ge
  have HR := Lib.hid h
  have HX := Lib.hid hx
  have HV := Lib.hid (OwnK.notBlk (show OwnK .u8 5 w base v k from h.own) h.blk (by decide))
  have HL : Hid (k.length + xs.length ≤ 140737488355328) := by show _ ≤ _; omega
  have HBY : Hid (Bytes (k ++ xs)) := h.byte.append hx.byte
  have HKL : Hid ((k ++ xs).length ≤ 1099511627776) := by show _ ≤ _; rw [List.length_append]; omega
  obtain ⟨r, hr⟩ : ∃ r, r = k ++ xs := ⟨_, rfl⟩
  have HRE := Lib.hid hr
  rw [← hr] at HBY HKL ⊢
  obtain ⟨N, hN⟩ : ∃ N, N = r.length := ⟨_, rfl⟩
  have HN := Lib.hid hN
  rw [← hN] at HKL
  have HRB : Hid (Bytes (frs r).2.1) := frs_left_bytes HBY.out
  have HRN : Hid ((frs r).1 = [] → (frs r).2.2 = 0 → (frs r).2.1 = r) := fun h1 h2 => frs_none h1 h2
  have HRD : Hid ((frs r).2.2 ≠ 0 → (frs r).2.1 = []) := (frs_left r).2
  have HRL : Hid ((frs r).2.1.length ≤ 1099511627776) := by have h1 := (frs_left r).1; have h2 := HKL.out; show _ ≤ _; omega
  have CC := fun (w2 : World) A1 c1 (hh : Holds w2 w2.heap.size A1 N c1 r) => cutF_any w2 A1 N c1 r hh HKL.out
  unfold CutFPost at CC
  obtain ⟨⟨F, R, E⟩, hq⟩ : ∃ q, q = frs r := ⟨_, rfl⟩
  have HQ : Hid (∀ l ps v' e w', e = .returned (.tuple #[l, .int .i64 E]) → OLst false w' w.heap.size l ps → rowsL ps = F → Rcv w' base g (!decide (E = 0)) v' R → Spare (rcvS g v) w w' → Wander w v v' → Away ps v' → TakePost w base g v r e w') := by
    intro l ps v' e w' h1 h2 h3 h4 h5 h6 h7
    unfold TakePost
    rw [← hq]
    exact ⟨l, ps, v', h1, h2, h3, h4, h5, h6, h7⟩
  rw [← hq] at HRB HRN HRD HRL
  simp only [← hq] at CC
  dsimp only at HRB HRN HRD HRL CC
  have CC' := fun w2 A1 c1 hh => Lib.hid (CC w2 A1 c1 hh)
  clear h hx hr hs hxl hN hq CC
  go_enter Try.func14, Try.ntmps14
  go_wp2_with (first
    | (at_builtin; refine wpList_append_bytesW rfl (.tmp 28) (.tmp 29) rfl base v k rfl HR.out.own w.heap.size A n c xs rfl HX.out HL.out hb ?_; intro v1 w1 o1 s1 n1; rw [← HRE.out] at o1; obtain ⟨A1, c1, hv1⟩ := o1.out.len; rw [← HN.out] at hv1; subst hv1; have B1 := Lib.hid (HR.out.blk.spare s1.out HV.out); have D1 := Lib.hid (OwnK.notBlk (show OwnK .u8 5 w1 base _ r from o1.out) B1.out (by decide)))
    | ((with_reducible show wpList _ _ _ (⟨none, .store _ (.tmp 32) _, _, _, _, _⟩ :: _) _ _); refine wpList_store_fld rfl _ (.tmp 32) (.tmp 30) rfl g 2 rfl _ [.bool true, .bool false, v] _ rfl B1 (by decide : 2 < 3) size_row rfl ?_; intro w2 B2 O2 hg2; have k2 : w2.cell? ⟨g, 2, none⟩ = some (.slice A1 N c1) := B2.out.cell 2; have X2 : Hid (Blk w2 g 44 [.bool true, .bool false, .slice A1 N c1]) := B2)
    | fail)
  have o2 : Own w2 base (.slice A1 N c1) r := OwnK.spare o1.out (Spare.of_only O2.out) fun i hi hj => D1.out (by rw [hi, hj])
  have h2 := Own.holds_at o2 HN.out.symm HBY.out (by have := HKL.out; omega)
  have O2w := Lib.hid o2
  have D2 := Lib.hid (OwnK.notBlk (show OwnK .u8 5 w2 base _ r from o2) X2.out (by decide))
  have hw2 : w.heap.size ≤ w2.heap.size := by have h1 := s1.out.size; have h2 := O2.out.size; omega
  refine (CC' w2 A1 c1 h2).out.mono ?_
  rintro e w3 ⟨l, ps, v3, rfl, o3, q3, b3, h3⟩
  obtain ⟨Al, nl, cl, rfl, l3⟩ := o3.lst
  have hnl : nl = F.length := by rw [← q3, rowsL, List.length_map]; exact l3.row.len.symm
  have S3 := Lib.hid (take_spare s1.out O2.out b3)
  have X3 := Lib.hid (X2.out.over b3)
  have O3 := Lib.hid (Own.below O2w.out b3)
  have L3 := Lib.hid o3
  have Q3 := Lib.hid q3
  have H3 := Lib.hid h3
  have hb3 := b3.size
  have hA1 : Hid (∀ i, (Value.slice A1 N c1).ownBlock = some i → i < w2.heap.size) := fun i hi => by
    obtain ⟨_, _, hcs⟩ := OwnK.block (show OwnK .u8 5 w2 base _ r from O2w.out) hi
    exact (Array.getElem?_eq_some_iff.1 hcs).1
  clear o2 h2 o3 q3 l3 b3 h3 k2 B2 X2 O2 s1 o1 B1 D1 CC' HX HL HV HKL
  by_cases hE : E = 0
  · subst hE
    obtain ⟨A', n', c', rfl, h4⟩ := H3.out rfl
    have H4 := Lib.hid (h4.mono hb3)
    clear h4 H3 HRD
    by_cases hF : F = []
    · have hR := HRN.out hF rfl
      subst hR
      subst hF
      obtain rfl : nl = 0 := hnl
      clear HRN
      go_wp2
      go_ret2
      exact HQ.out _ ps _ _ _ rfl (L3.out.mono hw2) Q3.out ⟨hgb, X3.out, O3.out, HBY.out⟩ S3.out n1.out (L3.out.newer' hA1.out)
    · have hn0 : 0 < nl := by rw [hnl]; exact List.length_pos_iff.2 hF
      have hgw2 : g < w2.heap.size := hg2
      clear HRN hnl hF
      go_wp2_with (first
        | (at_builtin; refine wpList_append_bytes rfl (.const (.slice none 0 0)) (.tmp 56) rfl w3.heap.size _ [] rfl (Own.nil _ _) w3.heap.size A' n' c' R rfl H4.out (by have := HRL.out; simp only [List.length_nil]; omega) (Nat.le_refl _) ?_; intro v5 w5 o5 b5 g5; rw [List.nil_append] at o5; have X5 := Lib.hid (X3.out.over b5); have hge := Lib.hid b5; obtain ⟨A5, c5, hv5⟩ := o5.out.len; subst hv5)
        | ((with_reducible show wpList _ _ _ (⟨none, .store _ (.tmp 59) _, _, _, _, _⟩ :: _) _ _); refine wpList_store_fld rfl _ (.tmp 59) (.tmp 57) rfl g 2 rfl _ [.bool true, .bool false, .slice A1 N c1] _ rfl X5 (by decide : 2 < 3) size_row rfl ?_; intro w6 X6 O6 hg6)
        | fail)
      have B5 := hge.out
      have hgn : g < w3.heap.size := X3.out.lt
      have d5 : ∀ i, (Value.slice A5 R.length c5).ownBlock = some i → w3.heap.size ≤ i := fun i hi => (OwnK.block (show OwnK .u8 5 w5 w3.heap.size _ R from o5.out) hi).1
      have o6 : Own w6 base (.slice A5 R.length c5) R := Own.mono (OwnK.spare o5.out (Spare.of_only O6.out) fun i hi hj => by have := d5 i hi; omega) (by omega)
      have S6 := (S3.out.trans (Spare.of_over (rcvS g v) B5) fun j _ h => h).trans (Spare.of_only O6.out) fun j _ h => .inl h
      have L6 := ((L3.out.below B5).only O6.out (by omega)).mono hw2
      have W6 : Wander w v (.slice A5 R.length c5) := fun i hi => .inr (by have := d5 i hi; omega)
      have AW := Away.older L3.out d5
      go_ret2
      exact HQ.out _ ps _ _ _ rfl L6 Q3.out ⟨hgb, X6.out, o6, HRB.out⟩ S6 W6 AW
  · have hne : (E != 0) = true := by simpa using hE
    obtain rfl := HRD.out hE
    have HD : Hid (false = decide (E = 0)) := (decide_eq_false hE).symm
    clear HRN HRD H3 hnl
    go_wp2_with (first
      | ((with_reducible show wpList _ _ _ (⟨none, .store _ (.tmp 48) _, _, _, _, _⟩ :: _) _ _); refine wpList_store_fld rfl _ (.tmp 48) (.const (.bool true)) rfl g 1 rfl _ [.bool true, .bool false, .slice A1 N c1] _ rfl X3 (by decide : 1 < 3) size_b rfl ?_; intro w5 X5 O5 hg5)
      | ((with_reducible show wpList _ _ _ (⟨none, .store _ (.tmp 50) _, _, _, _, _⟩ :: _) _ _); refine wpList_store_fld rfl _ (.tmp 50) (.const (.slice none 0 0)) rfl g 2 rfl _ [.bool true, .bool true, .slice A1 N c1] _ rfl X5 (by decide : 2 < 3) size_row rfl ?_; intro w6 X6 O6 hg6)
      | fail)
    have S6 := (S3.out.trans (Spare.of_only O5.out) fun j _ h => .inl h).trans (Spare.of_only O6.out) fun j _ h => .inl h
    have L6 := ((L3.out.only O5.out (by omega)).only O6.out (by omega)).mono hw2
    go_ret2
    refine HQ.out _ ps (.slice none 0 0) _ _ rfl L6 Q3.out ⟨hgb, ?_, Own.nil _ _, Bytes.nil⟩ S6 (Wander.none _ _) (fun p hp i hi hj => by cases hj)
    rw [← HD.out]
    exact X6.out
end Go.Proofs.Ytjpcifmeimcikaa
