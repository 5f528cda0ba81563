/-
  The walk of the statement PathFresh: what is handed in stays; what is answered is new memory.
-/
import Derived.Test.YtaggjlobmikagaaDoorWorksP
import Derived.Test.YtaggjlobmikagaaDoorOwnF2
namespace Go.Proofs.YtaggjlobmikagaaDoor
open Go.RowKit
set_option linter.unusedVariables false

theorem set_len {α : Type} {xs : List α} {i n : Nat} {u : α} (h : xs.length = n) : (xs.set i u).length = n := by rw [List.length_set, h]

set_option maxRecDepth 100000 in
set_option maxHeartbeats 4000000 in
theorem walk_PathFresh (W : World) (hT : Tabs W) (a0 : ByteArray) (r0 : a0.size ≤ 1048576) (A1 : Option Addr) (n1 c1 : Nat) (z1 : List ByteArray) (l1 : n1 ≤ c1) (r1 : sumSize z1 ≤ 1048576) (h1 : HoldsF Value.string W W.heap.size A1 c1 c1 z1) :
    Calls Tryd.prog 11 #[.string a0, .slice A1 n1 c1] W fun e W' => e = .returned (.bool true) ∧ Below W.heap.size W W' := by
  have hx := h1.texts l1
  have hxl := argL_le (n := n1) r1
  have hzl := sumSize_len z1
  have hz := h1.len
  have hln := hx.len
  obtain ⟨L, hL⟩ : ∃ L, L = argL z1 n1 := ⟨_, rfl⟩
  rw [← hL] at hx hxl hln
  have cJ := fun (w : World) A n c (hx : HoldsF strV w w.heap.size A n c L) hT => Join_any w A n c L hx (fun p hp => by have := hxl p hp; omega) hT
  have c9 := fun w hT => Lib.hid (works_any w hT)
  have cP := fun w hT => Parse_any a0 w (by omega) hT
  have cR := fun w => RParse_any a0 w (by omega)
  have h8 := parse_le8 a0.data.toList
  unfold ParsePost at cP cR
  unfold JoinPost at cJ
  obtain ⟨M, hM⟩ : ∃ M, M = parseOf a0.data.toList := ⟨_, rfl⟩
  obtain ⟨E, hE⟩ : ∃ E, E = parseErr a0.data.toList := ⟨_, rfl⟩
  rw [← hM, ← hE] at cP cR
  rw [← hM] at h8
  have hn1 : n1 ≤ 1048576 := by omega
  obtain ⟨J, hJ⟩ : ∃ J : ByteArray, J = ⟨(joinOf L).toArray⟩ := ⟨_, rfl⟩
  obtain ⟨F, hF⟩ : ∃ F, F = namesErr L := ⟨_, rfl⟩
  rw [← hJ, ← hF] at cJ
  have HX := Lib.hid hx
  have HLN := Lib.hid hln
  have H8 := Lib.hid h8
  have CP := Lib.hid cP
  have CR := Lib.hid cR
  have CJ := Lib.hid cJ
  clear cP cR cJ hL hM hE hz hzl h1 hxl hln h8 hx r1 hJ hF
  go_enter Tryd.func11, Tryd.ntmps11
  go_wp2_with fail
  refine (CP.out _ hT).mono ?_
  rintro e w1 ⟨v, rfl, ho, hb1⟩
  obtain ⟨A, n, c, rfl, hn, hnc, h63, _, hcc⟩ := ho.open
  have HO := Lib.hid ho
  have hb1' := Lib.hid hb1
  have HNM := Lib.hid hn
  clear ho hn hb1 hcc
  go_wp2
  go_loopw [7] (fun i wr => ∃ (k : Nat) (ps : List (List UInt8)), i = .int .i64 k ∧ k ≤ n ∧ Hid (OwnF strV 9 wr W.heap.size (.slice A n c) ps) ∧ Hid (Below W.heap.size W wr)) (fun i _ => n - (intOf i).toNat)
  case atStart => exact ⟨0, M, rfl, Nat.zero_le _, HO, hb1'⟩
  case round =>
    obtain ⟨k, ps, rfl, hk, HP, HB⟩ := hrel
    by_cases hlt : k < n
    · obtain ⟨A', n', c', he, hn', _, _, _, hcc⟩ := HP.out.open
      cases he
      obtain ⟨g, rfl, hbg, hgw, hcx⟩ := hcc (by omega)
      have hkp : k < ps.length := by omega
      obtain ⟨p, hp⟩ : ∃ p, ps[k]? = some p := ⟨_, List.getElem?_eq_getElem hkp⟩
      have gc := HP.out.cell (i := k) hp
      have gf := HP.out.frozen k
      have hset := HP.out.set k [120]
      unfold strV at gc
      have HS := Lib.hid hset
      have HB2 : Hid (Below W.heap.size W (wr.setCell ⟨g, k, none⟩ (.string ⟨#[120]⟩))) := HB.out.setCell hbg _
      clear hcc hcx hn' hset hkp hp
      go_wp2
      go_roundw
      case rel => exact ⟨k + 1, _, by go_num, hlt, HS, HB2⟩
      case measure => simp [intOf]; omega
    · have hbs := HB.out.size
      have HXw := Lib.hid ((HX.out.below HB.out).mono HB.out.size)
      have hll : L.length ≤ 1048576 := by have := HLN.out; omega
      clear HP HO hb1'
      go_wp2_with (first
        | ((with_reducible show wpList _ _ _ (⟨some 29, _, _, _, _, _⟩ :: _) _ _); go_loud (refine wpList_append_holdF rfl (.tmp 27) (.tmp 28) strV strV_one (.string ⟨#[]⟩) rfl 22 9 16 Tryd.underlying22 info_str rfl W.heap.size _ [] rfl (OwnF.nil _ _ _ _) wr.heap.size A1 n1 c1 L rfl HXw.out (by simp; omega) (by simp; omega) hbs ?_; intro v2 w2 ho2 hb2))
        | fail)
      have hB2 := Lib.hid (HB.out.trans hb2.out)
      have hT2 := hT.below hB2.out
      obtain ⟨A2, n2, c2, rfl, hh2⟩ := ho2.out.holds
      have hn2 := hh2.len
      have hn2' : n2 ≤ 1048576 := by rw [List.nil_append] at hn2; omega
      have D2 := Lib.hid (CJ.out w2 A2 n2 c2 hh2 hT2 (by omega))
      have HH2 := Lib.hid hh2
      clear ho2 hh2 hn2 hb2 HXw CJ
      refine D2.out.mono ?_
      rintro e w3 ⟨rfl, hb3⟩
      have hT3 := hT2.below hb3
      go_wp2_with fail
      refine (CP.out _ hT3).mono ?_
      rintro e w4 ⟨v4, rfl, ho4, hb4⟩
      have HO4 := Lib.hid ho4
      clear ho4
      go_wp2_with fail
      refine (CR.out _).mono ?_
      rintro e w5 ⟨v5, rfl, ho5, hb5⟩
      have hB35 := step (step hb3 hb4) hb5
      have hB5 := Lib.hid (hB2.out.trans (hB35.mono hB2.out.size))
      obtain ⟨A4, n4, c4, rfl, hh4⟩ := (HO4.out.below hb5).holds
      obtain ⟨A5, n5, c5, rfl, hh5⟩ := ho5.holds
      have e4 := hh4.len
      have e5 := hh5.len
      have d6 := Texts_any w5 _ _ _ _ _ _ _ _ L L (HH2.out.below hB35) ((HX.out.below hB5.out)) (by omega) (by omega)
      rw [decide_eq_true rfl] at d6
      have d7 := fun k => Texts_any (w5.drewN k) _ _ _ _ _ _ _ _ M M (hh4.below (drewed w5 k)) (hh5.below (drewed w5 k)) (by have := H8.out; omega) (by have := H8.out; omega)
      rw [decide_eq_true rfl] at d7
      have D6 := Lib.hid d6
      have D7 := Lib.hid d7
      clear HH2 hh4 hh5 ho5 e4 e5 d6 d7 HO4 hb3 hb4 hb5 hB35
      go_wp2_with fail
      refine D6.out.mono ?_
      rintro e w6 ⟨rfl, k6, rfl⟩
      go_wp2_with fail
      refine (D7.out _).mono ?_
      rintro e w7 ⟨rfl, k7, rfl⟩
      have hB7 : Below W.heap.size W ((w5.drewN k6).drewN k7) := (hB5.out.trans ((drewed _ _).mono hB5.out.size)).trans ((drewed _ _).mono hB5.out.size)
      have hs7 : W.heap.size ≤ ((w5.drewN k6).drewN k7).heap.size := hB5.out.size
      obtain ⟨w7, hw7⟩ : ∃ w7, w7 = (w5.drewN k6).drewN k7 := ⟨_, rfl⟩
      rw [← hw7] at hB7 hs7 ⊢
      clear hw7
      go_wp2_with fail
      refine (c9 _ (hT.below hB7)).out.mono ?_
      rintro e w8 ⟨rfl, hb8⟩
      go_wp2
      go_ret
      exact ⟨rfl, hB7.trans (hb8.mono hs7)⟩
end Go.Proofs.YtaggjlobmikagaaDoor
