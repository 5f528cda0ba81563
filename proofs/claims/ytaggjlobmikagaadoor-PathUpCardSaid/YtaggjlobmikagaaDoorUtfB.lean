/-
  Contracts of the program's layer 2 (utf): Units, Put.
-/
import Derived.Test.YtaggjlobmikagaaDoorUtfA
namespace Go.Proofs.YtaggjlobmikagaaDoor
open Go.RowKit

/-- the two tables of unicode/utf8 lie as they are laid -/
def Tabs (w : World) : Prop := Lib.Utf8Tabs 1 2 w
theorem Tabs.below {w w' : World} (h : Tabs w) (hb : Below w.heap.size w w') : Tabs w' := Utf8Tabs_below h hb

theorem Valid_any (s : ByteArray) (w : World) (hs : s.size ≤ 9223372036854775807) (hT : Tabs w) :
    Calls Tryd.prog 52 #[.string s] w fun e w' => e = .returned (.bool (isText s.data.toList)) ∧ Below w.heap.size w w' := by
  have := Tryd.utf8_ValidString s w hs hT
  rwa [validD_isText] at this

set_option maxHeartbeats 1000000 in
theorem Units_any (s : ByteArray) (w : World) (hs : s.size ≤ 140737488355328) (hT : Tabs w) :
    Calls Tryd.prog 43 #[.string s] w fun e w' => e = .returned (.tuple #[.int .i64 (unitsOfL s.data.toList), .int .i64 (textErr s.data.toList)]) ∧ Below w.heap.size w w' := by
  have cV := Valid_any s w (by omega) hT
  by_cases ht : isText s.data.toList = true
  · have e1 : unitsOfL s.data.toList = unitCount (letters s.data.toList) := if_pos ht
    have e2 : textErr s.data.toList = 0 := if_pos ht
    obtain ⟨U, hU⟩ : ∃ U, U = unitCount (letters s.data.toList) := ⟨_, rfl⟩
    rw [ht] at cV
    rw [e1, e2, ← hU]
    have HU := Lib.hid hU
    have CV := Lib.hid cV
    have HT := Lib.hid ht
    clear e1 e2 hU cV ht
    go_enter Tryd.func43, Tryd.ntmps43
    go_wp2_with fail
    refine CV.out.mono ?_
    rintro e w1 ⟨rfl, hb1⟩
    clear CV
    go_wp2
    go_loopw [4, 6] (fun n _ wr => ∃ (pos k : Nat), n = .int .i64 k ∧ wr.heap[w1.heap.size]? = some (.stringIter s pos) ∧ Below w.heap.size w wr ∧ Hid (k + unitCount (letters (s.data.toList.drop pos)) = U) ∧ Hid (isText (s.data.toList.drop pos) = true) ∧ k ≤ 2 * pos ∧ pos ≤ s.size) (fun _ _ wr => s.size - wr.iterPos w1.heap.size)
    case atStart =>
      refine ⟨0, 0, rfl, World.iter_heap w1 s 0, hb1.alloc hb1.size _, ?_, HT, by omega, by omega⟩
      show _ = _
      rw [HU.out, List.drop_zero, Nat.zero_add]
    case round =>
      obtain ⟨pos, k, rfl, hit, hb, HE, HX, hk, hps⟩ := hrel
      have hK : w1.heap.size < wr.heap.size := (Array.getElem?_eq_some_iff.1 hit).1
      have hb1s := hb1.size
      by_cases hp : pos < s.size
      · have hnx : ∀ ty, (Instr.next (.pointer (some ⟨w1.heap.size, 0, none⟩)) true ty).run Tryd.prog wr = _ := fun ty => Lib.run_next_any_at wr w1.heap.size s pos ty hit hp
        obtain ⟨n1, n2, n3⟩ := next_any s pos hp
        obtain ⟨m1, m2, m3⟩ := next_text s pos hp HX.out
        obtain ⟨R, hR⟩ : ∃ R : Int, R = ((Utf8.decode s pos).1 : Int) := ⟨_, rfl⟩
        obtain ⟨p', hp'⟩ : ∃ p', p' = pos + (Utf8.decode s pos).2 := ⟨_, rfl⟩
        rw [← hp'] at hnx n1 n3 m1 m2
        rw [← hR] at hnx m1 m3
        have hit2 := Lib.iterAt_heap wr w1.heap.size s pos p' hit
        have hb2 := Lib.below_iterAt hb (k := w1.heap.size) hb1s s p'
        have hpp : pos < p' := by omega
        have HN := Lib.hid m1
        have HX' := Lib.hid m2
        have HI := Lib.hid hit2
        obtain ⟨r0, r1, r2⟩ := m3
        have hit0 := hit
        clear n1 n2 m1 m2 hR hp' hit hit2
        by_cases hlt : R < 65536
        · go_wp2
          go_roundw
          case rel =>
            refine ⟨p', k + 1, by go_num, HI.out, hb2, ?_, HX', by omega, n3⟩
            show _ = _
            have := HE.out
            rw [HN.out, unitCount, if_pos hlt] at this
            omega
          case measure =>
            have := HI.out
            simp only [World.iterPos, hit0, this]
            omega
        · go_wp2
          go_roundw
          case rel =>
            refine ⟨p', k + 2, by go_num, HI.out, hb2, ?_, HX', by omega, n3⟩
            show _ = _
            have := HE.out
            rw [HN.out, unitCount, if_neg hlt] at this
            omega
          case measure =>
            have := HI.out
            simp only [World.iterPos, hit0, this]
            omega
      · have hnx : ∀ ty, (Instr.next (.pointer (some ⟨w1.heap.size, 0, none⟩)) true ty).run Tryd.prog wr = _ := fun ty => Lib.run_next_end_at wr w1.heap.size s pos ty hit hp
        have e : k = U := by
          have := HE.out
          rw [next_end s pos hp] at this
          exact this
        subst e
        go_wp2
        go_ret2
        exact ⟨rfl, hb⟩
  · have ht' : isText s.data.toList = false := by simpa using ht
    have e1 : unitsOfL s.data.toList = 0 := if_neg ht
    have e2 : textErr s.data.toList = 5 := if_neg ht
    rw [ht'] at cV
    rw [e1, e2]
    have CV := Lib.hid cV
    clear e1 e2 cV ht ht'
    go_enter Tryd.func43, Tryd.ntmps43
    go_wp2_with fail
    refine CV.out.mono ?_
    rintro e w1 ⟨rfl, hb1⟩
    go_wp2
    go_ret2
    exact ⟨rfl, hb1⟩

/-- what Put answers -/
def PutPost (w : World) (l : List UInt8) (e : Ending) (w' : World) : Prop :=
  ∃ v, e = .returned (.tuple #[v, .int .i64 (textErr l)]) ∧ OwnZ .u8 5 w' w.heap.size v (putOfL l) ∧ Below w.heap.size w w'

end Go.Proofs.YtaggjlobmikagaaDoor
