/-
  Contracts of the program's layer 2 (utf): Units, Put.
-/
import Derived.Test.YtdidileadiockaaDoorUtfA
namespace Go.Proofs.YtdidileadiockaaDoor
open Go.RowKit

/-- the two tables of unicode/utf8 lie as they are laid -/
def Tabs (w : World) : Prop := Lib.Utf8Tabs 0 1 w
theorem Tabs.below {w w' : World} (h : Tabs w) (hb : Below w.heap.size w w') : Tabs w' := Utf8Tabs_below h hb

theorem Valid_any (s : ByteArray) (w : World) (hs : s.size ≤ 9223372036854775807) (hT : Tabs w) :
    Calls Tryd.prog 27 #[.string s] w fun e w' => e = .returned (.bool (isText s.data.toList)) ∧ Below w.heap.size w w' := by
  have := Tryd.utf8_ValidString s w hs hT
  rwa [validD_isText] at this

set_option maxHeartbeats 1000000 in
theorem Units_any (s : ByteArray) (w : World) (hs : s.size ≤ 35184372088832) (hT : Tabs w) :
    Calls Tryd.prog 12 #[.string s] w fun e w' => e = .returned (.tuple #[.int .i64 (unitsOfL s.data.toList), .int .i64 (textErr s.data.toList)]) ∧ Below w.heap.size w w' := by
  have cV := Valid_any s w (by omega) hT
  by_cases ht : isText s.data.toList = true
  · have e1 : unitsOfL s.data.toList = unitCount (letters s.data.toList) := if_pos ht
    have e2 : textErr s.data.toList = 0 := if_pos ht
    obtain ⟨U, hU⟩ : ∃ U, U = unitCount (letters s.data.toList) := ⟨_, rfl⟩
    rw [ht] at cV
    rw [e1, e2, ← hU]
    have HU := Lib.hid hU
    have CV := Lib.hid cV
    have HT := Lib.hid ht
    clear e1 e2 hU cV ht
    go_enter Tryd.func12, Tryd.ntmps12
    go_wp2_with fail
    refine CV.out.mono ?_
    rintro e w1 ⟨rfl, hb1⟩
    clear CV
    go_wp2
    go_loopw [4, 6] (fun n _ wr => ∃ (pos k : Nat), n = .int .i64 k ∧ wr.heap[w1.heap.size]? = some (.stringIter s pos) ∧ Below w.heap.size w wr ∧ Hid (k + unitCount (letters (s.data.toList.drop pos)) = U) ∧ Hid (isText (s.data.toList.drop pos) = true) ∧ k ≤ 2 * pos ∧ pos ≤ s.size) (fun _ _ wr => s.size - wr.iterPos w1.heap.size)
    case atStart =>
      refine ⟨0, 0, rfl, World.iter_heap w1 s 0, hb1.alloc hb1.size _, ?_, HT, by omega, by omega⟩
      show _ = _
      rw [HU.out, List.drop_zero, Nat.zero_add]
    case round =>
      obtain ⟨pos, k, rfl, hit, hb, HE, HX, hk, hps⟩ := hrel
      have hK : w1.heap.size < wr.heap.size := (Array.getElem?_eq_some_iff.1 hit).1
      have hb1s := hb1.size
      by_cases hp : pos < s.size
      · have hnx : ∀ ty, (Instr.next (.pointer (some ⟨w1.heap.size, 0, none⟩)) true ty).run Tryd.prog wr = _ := fun ty => Lib.run_next_any_at wr w1.heap.size s pos ty hit hp
        obtain ⟨n1, n2, n3⟩ := next_any s pos hp
        obtain ⟨m1, m2, m3⟩ := next_text s pos hp HX.out
        obtain ⟨R, hR⟩ : ∃ R : Int, R = ((Utf8.decode s pos).1 : Int) := ⟨_, rfl⟩
        obtain ⟨p', hp'⟩ : ∃ p', p' = pos + (Utf8.decode s pos).2 := ⟨_, rfl⟩
        rw [← hp'] at hnx n1 n3 m1 m2
        rw [← hR] at hnx m1 m3
        have hit2 := Lib.iterAt_heap wr w1.heap.size s pos p' hit
        have hb2 := Lib.below_iterAt hb (k := w1.heap.size) hb1s s p'
        have hpp : pos < p' := by omega
        have HN := Lib.hid m1
        have HX' := Lib.hid m2
        have HI := Lib.hid hit2
        obtain ⟨r0, r1, r2⟩ := m3
        have hit0 := hit
        clear n1 n2 m1 m2 hR hp' hit hit2
        by_cases hlt : R < 65536
        · go_wp2
          go_roundw
          case rel =>
            refine ⟨p', k + 1, by go_num, HI.out, hb2, ?_, HX', by omega, n3⟩
            show _ = _
            have := HE.out
            rw [HN.out, unitCount, if_pos hlt] at this
            omega
          case measure =>
            have := HI.out
            simp only [World.iterPos, hit0, this]
            omega
        · go_wp2
          go_roundw
          case rel =>
            refine ⟨p', k + 2, by go_num, HI.out, hb2, ?_, HX', by omega, n3⟩
            show _ = _
            have := HE.out
            rw [HN.out, unitCount, if_neg hlt] at this
            omega
          case measure =>
            have := HI.out
            simp only [World.iterPos, hit0, this]
            omega
      · have hnx : ∀ ty, (Instr.next (.pointer (some ⟨w1.heap.size, 0, none⟩)) true ty).run Tryd.prog wr = _ := fun ty => Lib.run_next_end_at wr w1.heap.size s pos ty hit hp
        have e : k = U := by
          have := HE.out
          rw [next_end s pos hp] at this
          exact this
        subst e
        go_wp2
        go_ret2
        exact ⟨rfl, hb⟩
  · have ht' : isText s.data.toList = false := by simpa using ht
    have e1 : unitsOfL s.data.toList = 0 := if_neg ht
    have e2 : textErr s.data.toList = 5 := if_neg ht
    rw [ht'] at cV
    rw [e1, e2]
    have CV := Lib.hid cV
    clear e1 e2 cV ht ht'
    go_enter Tryd.func12, Tryd.ntmps12
    go_wp2_with fail
    refine CV.out.mono ?_
    rintro e w1 ⟨rfl, hb1⟩
    go_wp2
    go_ret2
    exact ⟨rfl, hb1⟩

/-- what Put answers -/
def PutPost (w : World) (l : List UInt8) (e : Ending) (w' : World) : Prop :=
  ∃ v, e = .returned (.tuple #[v, .int .i64 (textErr l)]) ∧ OwnZ .u8 5 w' w.heap.size v (putOfL l) ∧ Below w.heap.size w w'

set_option maxHeartbeats 1000000 in
theorem Put_any (s : ByteArray) (w : World) (hs : s.size ≤ 17592186044416) (hT : Tabs w) :
    Calls Tryd.prog 10 #[.string s] w (PutPost w s.data.toList) := by
  have cU := Units_any s w (by omega) hT
  have hq : ∀ e w', (∃ v, e = .returned (.tuple #[v, .int .i64 (textErr s.data.toList)]) ∧ OwnZ .u8 5 w' w.heap.size v (putOfL s.data.toList) ∧ Below w.heap.size w w') → PutPost w s.data.toList e w' := fun _ _ h => h
  by_cases ht : isText s.data.toList = true
  · have e1 : unitsOfL s.data.toList = unitCount (letters s.data.toList) := if_pos ht
    have e2 : textErr s.data.toList = 0 := if_pos ht
    have e3 : putOfL s.data.toList = putBytes (letters s.data.toList) := if_pos ht
    have hle := unitsOfL_le s.data.toList
    rw [← Lib.size_eq] at hle
    obtain ⟨U, hU⟩ : ∃ U, U = unitCount (letters s.data.toList) := ⟨_, rfl⟩
    have hl2 := putBytes_length (letters s.data.toList)
    obtain ⟨Z, hZ⟩ : ∃ Z, Z = putBytes (letters s.data.toList) := ⟨_, rfl⟩
    rw [e1, e2, ← hU] at cU
    rw [e1, ← hU] at hle
    rw [e2, e3, ← hZ] at hq
    rw [← hZ, ← hU] at hl2
    have HQ := Lib.hid hq
    have HZ := Lib.hid hZ
    have CU := Lib.hid cU
    have HT := Lib.hid ht
    have HL2 := Lib.hid hl2
    clear e1 e2 e3 hU cU ht hq hZ hl2
    go_enter Tryd.func10, Tryd.ntmps10
    go_wp2_with fail
    refine CU.out.mono ?_
    rintro e w1 ⟨rfl, hb1⟩
    clear CU
    go_wp2_with (at_make; refine wpList_make_own0 rfl .u8 22 5 1 Tryd.underlying22 info_u8 _ _ rfl _ (2 * U) rfl rfl (by omega) (by omega) (by rw [maxLen_eq]; omega) ?_; intro w2 ho2 hb2)
    have hs1 := hb1.size
    have hs2 := hb2.size
    go_loopw [6, 8] (fun v _ wr => ∃ (pos : Nat) (zs : List Int), Hid (OwnZ .u8 5 wr w1.heap.size v zs) ∧ wr.heap[w2.heap.size]? = some (.stringIter s pos) ∧ Below w.heap.size w wr ∧ Hid (zs ++ putBytes (letters (s.data.toList.drop pos)) = Z) ∧ Hid (isText (s.data.toList.drop pos) = true) ∧ zs.length ≤ 4 * pos ∧ pos ≤ s.size) (fun _ _ wr => s.size - wr.iterPos w2.heap.size)
    case atStart =>
      refine ⟨0, [], ho2.out.alloc _, World.iter_heap w2 s 0, (hb1.trans (hb2.mono hs1)).alloc (by omega) _, ?_, HT, by simp, by omega⟩
      show _ = _
      rw [HZ.out, List.drop_zero, List.nil_append]
    case round =>
      obtain ⟨pos, zs, HO, hit, hb, HE, HX, hzl, hps⟩ := hrel
      have hK : w2.heap.size < wr.heap.size := (Array.getElem?_eq_some_iff.1 hit).1
      by_cases hp : pos < s.size
      · have hnx : ∀ ty, (Instr.next (.pointer (some ⟨w2.heap.size, 0, none⟩)) true ty).run Tryd.prog wr = _ := fun ty => Lib.run_next_any_at wr w2.heap.size s pos ty hit hp
        obtain ⟨n1, n2, n3⟩ := next_any s pos hp
        obtain ⟨m1, m2, m3⟩ := next_text s pos hp HX.out
        obtain ⟨R, hR⟩ : ∃ R : Int, R = ((Utf8.decode s pos).1 : Int) := ⟨_, rfl⟩
        obtain ⟨p', hp'⟩ : ∃ p', p' = pos + (Utf8.decode s pos).2 := ⟨_, rfl⟩
        rw [← hp'] at hnx n1 n3 m1 m2
        rw [← hR] at hnx m1 m3
        have hit2 := Lib.iterAt_heap wr w2.heap.size s pos p' hit
        have hb3 := Lib.below_iterAt hb (k := w2.heap.size) (by omega) s p'
        have HO3 : Hid (OwnZ .u8 5 (wr.iterAt w2.heap.size s p') w1.heap.size _ zs) := HO.out.iterAt hit p'
        have hs3 := Lib.iterAt_size wr w2.heap.size s p'
        obtain ⟨w3, hw3⟩ : ∃ w3, w3 = wr.iterAt w2.heap.size s p' := ⟨_, rfl⟩
        rw [← hw3] at hnx hit2 hb3 HO3 hs3
        have hpp : pos < p' := by omega
        have HN := Lib.hid m1
        have HX' := Lib.hid m2
        obtain ⟨r0, r1, r2⟩ := m3
        have HI0 := Lib.hid hit
        have HI := Lib.hid hit2
        have HS3 := Lib.hid hs3
        clear n1 n2 m1 m2 hR hp' hit hit2 hw3 hs3
        by_cases hlt : R < 65536
        · have c1 := Lib.hid (appendUnit_any w3 w1.heap.size _ zs R (by omega) HO3.out (by omega) (by have := HS3.out; omega))
          go_wp2_with fail
          refine c1.out.mono ?_
          rintro e w4 ⟨v4, rfl, ho4, hg4⟩
          have hb4 := hg4.below HO3.out.own (by have := HS3.out; omega)
          have HI4 := Lib.hid (hg4.iter HO3.out.own HI.out)
          have HO4 := Lib.hid ho4
          clear ho4 hg4 c1
          go_wp2
          go_roundw
          case rel =>
            refine ⟨p', _, HO4, HI4.out, hb3.trans (hb4.mono hs1), ?_, HX', by simp; omega, n3⟩
            show _ = _
            have := HE.out
            rw [HN.out, putBytes, List.flatMap_cons, unitBytes, if_pos hlt, ← List.append_assoc] at this
            exact this
          case measure =>
            have h1 := HI4.out
            have h0 := HI0.out
            simp only [World.iterPos, h0, h1]
            omega
        · have hbit := and_low_i32 (R - 65536) (by omega) (by omega)
          have c1 := Lib.hid (appendUnit_any w3 w1.heap.size _ zs (55296 + (R - 65536) / 1024) (by omega) HO3.out (by omega) (by have := HS3.out; omega))
          go_wp2_with fail
          refine c1.out.mono ?_
          rintro e w4 ⟨v4, rfl, ho4, hg4⟩
          have hb4 := hg4.below HO3.out.own (by have := HS3.out; omega)
          have hs4 : w3.heap.size ≤ w4.heap.size := hb4.size
          have HI4 := Lib.hid (hg4.iter HO3.out.own HI.out)
          have HO4 := Lib.hid ho4
          clear ho4 hg4 c1
          have c2 := Lib.hid (appendUnit_any w4 w1.heap.size _ _ (56320 + (R - 65536) % 1024) (by omega) HO4.out (by simp; omega) (by have := HS3.out; omega))
          go_wp2_with fail
          refine c2.out.mono ?_
          rintro e w5 ⟨v5, rfl, ho5, hg5⟩
          have hb5 := hg5.below HO4.out.own (by have := HS3.out; omega)
          have HI5 := Lib.hid (hg5.iter HO4.out.own HI4.out)
          have HO5 := Lib.hid ho5
          clear ho5 hg5 c2
          go_wp2
          go_roundw
          case rel =>
            refine ⟨p', _, HO5, HI5.out, hb3.trans ((hb4.trans hb5).mono hs1), ?_, HX', by simp; omega, n3⟩
            show _ = _
            have := HE.out
            rw [HN.out, putBytes, List.flatMap_cons, unitBytes, if_neg (by omega)] at this
            rw [← this]
            simp [putBytes]
          case measure =>
            have h1 := HI5.out
            have h0 := HI0.out
            simp only [World.iterPos, h0, h1]
            omega
      · have hnx : ∀ ty, (Instr.next (.pointer (some ⟨w2.heap.size, 0, none⟩)) true ty).run Tryd.prog wr = _ := fun ty => Lib.run_next_end_at wr w2.heap.size s pos ty hit hp
        have HEE : Hid (zs = Z) := by
          have := HE.out
          rw [next_end s pos hp, putBytes, List.flatMap_nil, List.append_nil] at this
          exact this
        clear HE
        go_wp2
        go_ret2
        refine HQ.out _ _ ⟨_, rfl, ?_, hb⟩
        rw [← HEE.out]
        exact HO.out.mono hs1
  · have ht' : isText s.data.toList = false := by simpa using ht
    have e1 : unitsOfL s.data.toList = 0 := if_neg ht
    have e2 : textErr s.data.toList = 5 := if_neg ht
    have e3 : putOfL s.data.toList = [] := if_neg ht
    rw [e1, e2] at cU
    rw [e2, e3] at hq
    have HQ := Lib.hid hq
    have CU := Lib.hid cU
    clear e1 e2 e3 cU ht ht' hq
    go_enter Tryd.func10, Tryd.ntmps10
    go_wp2_with fail
    refine CU.out.mono ?_
    rintro e w1 ⟨rfl, hb1⟩
    go_wp2
    go_ret2
    exact HQ.out _ _ ⟨_, rfl, OwnZ.nil _ _ _ _, hb1⟩
end Go.Proofs.YtdidileadiockaaDoor
