/-
  Layer 6: the contracts of strings.Join at the letter 92, path.Join, path.Parent, path.both, slices.EqualFunc over utf.Alike, path.Alike, path.Under.
-/
import Derived.Test.YtaggjlobmikagaaDoorPathC
import Derived.Test.YtaggjlobmikagaaDoorUtfD
import Derived.Lib.Join
namespace Go.Proofs.YtaggjlobmikagaaDoor
open Go.RowKit

theorem join_lib (ps : List (List UInt8)) : Lib.join ps [92] = joinB ps := by
  induction ps with
  | nil => rfl
  | cons p ps ih =>
    by_cases h : ps = []
    · subst h
      exact Lib.join_one p [92]
    · obtain ⟨q, qs, rfl⟩ : ∃ q qs, ps = q :: qs := by
        cases ps with
        | nil => exact absurd rfl h
        | cons q qs => exact ⟨q, qs, rfl⟩
      rw [join_cons p h, ← ih, Lib.join_cons, Lib.join_cons]
      simp [Lib.joinTail]
theorem joinB_le (ps : List (List UInt8)) (m : Nat) (h : ∀ p ∈ ps, p.length ≤ m) : (joinB ps).length ≤ ps.length * (m + 1) := by
  induction ps with
  | nil => simp [joinB]
  | cons p ps ih =>
    have h1 := h p List.mem_cons_self
    have h2 := ih fun q hq => h q (List.mem_cons_of_mem _ hq)
    by_cases hn : ps = []
    · subst hn
      show p.length ≤ _
      simp
      omega
    · rw [join_cons p hn, List.length_append, List.length_cons, List.length_cons, Nat.add_mul]
      omega
theorem HoldsF.pre {α : Type} {f : α → Value} {w : World} {B : Nat} {A : Option Addr} {n c m : Nat} {xs : List α} (h : HoldsF f w B A n c xs) (hm : m ≤ n) : HoldsF f w B A m c (xs.take m) :=
  ⟨by have := h.len; simp; omega, by have := h.fit; omega, h.bare, fun h0 => by
    obtain ⟨b, off, rfl, hb, hc⟩ := h.cells (by omega)
    refine ⟨b, off, rfl, hb, fun i x hi => hc i x ?_⟩
    rw [List.getElem?_take] at hi
    split at hi
    · exact hi
    · cases hi⟩

theorem SJoin_any (w : World) (A : Option Addr) (n c : Nat) (xs : List (List UInt8)) (hx : HoldsF strV w w.heap.size A n c xs) (hn : xs.length ≤ 1000) (hl : ∀ p ∈ xs, p.length ≤ 1000) :
    Calls Tryd.prog 34 #[.slice A n c, .string ⟨#[92]⟩] w fun e w' => e = .returned (.string ⟨(joinB xs).toArray⟩) ∧ Below w.heap.size w w' := by
  by_cases h0 : n = 0
  · subst h0
    obtain rfl : xs = [] := List.eq_nil_of_length_eq_zero hx.len
    exact (Tryd.strings_Join_none A c ⟨#[92]⟩ w).mono fun e w' ⟨he, hw⟩ => ⟨he, hw ▸ Below.refl _ _⟩
  · obtain ⟨b, off, rfl, hb, hc⟩ := hx.cells (by omega)
    have hmm : (xs.map fun p => (⟨p.toArray⟩ : ByteArray)).map (·.data.toList) = xs := by
      rw [List.map_map]
      exact List.map_id xs
    have e1 : (⟨#[92]⟩ : ByteArray).data.toList = [92] := rfl
    have := Tryd.strings_Join b off c (xs.map fun p => ⟨p.toArray⟩) ⟨#[92]⟩ w (fun j x hj => by
      rw [List.getElem?_map] at hj
      cases hp : xs[j]? with
      | none => rw [hp] at hj; cases hj
      | some p =>
        rw [hp] at hj
        cases hj
        exact hc j p hp) hb (by rw [List.length_map]; omega) (by rw [List.length_map, hx.len]; exact hx.fit) (by
      rw [hmm, e1, join_lib]
      have h1 := joinB_le xs 1000 hl
      have h2 : xs.length * (1000 + 1) ≤ 1000 * 1001 := Nat.mul_le_mul hn (Nat.le_refl _)
      omega)
    rw [hmm, e1, join_lib, List.length_map, hx.len] at this
    exact this

/-- what Join answers -/
def JoinPost (w : World) (xs : List (List UInt8)) (e : Ending) (w' : World) : Prop := e = .returned (.tuple #[.string ⟨(joinOf xs).toArray⟩, .int .i64 (namesErr xs)]) ∧ Below w.heap.size w w'

theorem joinOf_bad {xs : List (List UInt8)} (h : namesErr xs ≠ 0) : joinOf xs = [] := if_neg h

set_option maxRecDepth 100000 in
set_option maxHeartbeats 2000000 in
theorem Join_any (w : World) (A : Option Addr) (n c : Nat) (xs : List (List UInt8)) (hx : HoldsF strV w w.heap.size A n c xs) (hl : ∀ p ∈ xs, p.length ≤ 140737488355328) (hT : Tabs w) (hn63 : n ≤ 9223372036854775807) :
    Calls Tryd.prog 18 #[.slice A n c] w (JoinPost w xs) := by
  have c2 := fun (s : ByteArray) (w : World) hs hT => Lib.hid (Name_any s w hs hT)
  have c4 := fun (s : ByteArray) (w : World) hs => Lib.hid (Clone_any s w hs)
  have hq : ∀ (p : List UInt8) (m : Int), joinOf xs = p → namesErr xs = m → ∀ e w', e = .returned (.tuple #[.string ⟨p.toArray⟩, .int .i64 m]) ∧ Below w.heap.size w w' → JoinPost w xs e w' := fun p m hp hm e w' h => by
    unfold JoinPost
    rw [hp, hm]
    exact h
  have HQ := Lib.hid hq
  have HX := Lib.hid hx
  have hxl := hx.len
  have HXL := Lib.hid hxl
  clear hq hx hxl
  go_enter Tryd.func18, Tryd.ntmps18
  go_wp2
  go_loopw [5, 8] (fun _ i wr => ∃ k : Nat, i = .int .i64 k ∧ k ≤ n ∧ Hid (Below w.heap.size w wr) ∧ Hid (∀ p ∈ xs.take k, nameOf p = true)) (fun _ i _ => n - (intOf i).toNat)
  case atStart => exact ⟨0, rfl, Nat.zero_le _, Below.refl _ _, fun p hp => by simp at hp⟩
  case round =>
    obtain ⟨k, rfl, hk, HB, HN⟩ := hrel
    by_cases hlt : k < n
    · obtain ⟨b, off, rfl, hbk, hc⟩ := (HX.out.below HB.out).cells (by omega)
      have hkx : k < xs.length := by have := HXL.out; omega
      obtain ⟨p, hp⟩ : ∃ p, p = xs[k] := ⟨_, rfl⟩
      have gc := hc k p (by rw [hp]; exact List.getElem?_eq_getElem hkx)
      have hpl : p.length ≤ 140737488355328 := hl p (by rw [hp]; exact List.getElem_mem hkx)
      have htk : xs.take (k + 1) = xs.take k ++ [p] := by rw [hp]; exact List.take_succ_eq_append_getElem hkx
      have hpm : p ∈ xs := by rw [hp]; exact List.getElem_mem hkx
      unfold strV at gc
      have d2 := c2 ⟨p.toArray⟩ wr (by rw [mk_size]; exact hpl) (hT.below HB.out)
      rw [show (⟨p.toArray⟩ : ByteArray).data.toList = p from rfl] at d2
      clear hc hp hkx c2 c4
      by_cases hnm : nameOf p = true
      · rw [hnm] at d2
        have HN2 : Hid (∀ p ∈ xs.take (k + 1), nameOf p = true) := fun q hq => by
          rw [htk] at hq
          rcases List.mem_append.1 hq with hq | hq
          · exact HN.out q hq
          · rw [List.mem_singleton.1 hq]; exact hnm
        clear htk hpm hnm HN
        go_wp2_with fail
        refine d2.out.mono ?_
        rintro e w2 ⟨rfl, hb2⟩
        have HB2 := Lib.hid (HB.out.trans (hb2.mono HB.out.size))
        clear hb2
        go_wp2
        go_roundw
        case rel => exact ⟨k + 1, by go_num, hlt, HB2, HN2⟩
        case measure => simp [intOf]; omega
      · have hnm' : nameOf p = false := by simpa using hnm
        rw [hnm'] at d2
        have h1 := namesErr_bad hpm hnm'
        have HF := Lib.hid (HQ.out _ _ (joinOf_bad (by omega)) h1)
        clear htk hpm hnm hnm' HN h1 HQ
        go_wp2_with fail
        refine d2.out.mono ?_
        rintro e w2 ⟨rfl, hb2⟩
        have HB2 := Lib.hid (HB.out.trans (hb2.mono HB.out.size))
        clear hb2
        go_wp2
        go_ret2
        exact HF.out _ _ ⟨rfl, HB2.out⟩
    · obtain rfl : k = n := by omega
      have hall : ∀ p ∈ xs, nameOf p = true := by
        have := HN.out
        rwa [List.take_of_length_le (by have := HXL.out; omega)] at this
      have hE := namesErr_all hall
      rw [HXL.out] at hE
      by_cases h8 : 8 < k
      · rw [if_pos h8] at hE
        have HF := Lib.hid (HQ.out _ _ (joinOf_bad (by omega)) hE)
        clear hE hall HQ HN c2 c4
        go_wp2
        go_ret2
        exact HF.out _ _ ⟨rfl, HB.out⟩
      · rw [if_neg h8] at hE
        have HF := Lib.hid (HQ.out _ _ (if_pos hE) hE)
        have h1000 : ∀ p ∈ xs, p.length ≤ 128 := fun p hp => name_bytes (hall p hp)
        have d3 := SJoin_any wr A k c xs ((HX.out.below HB.out).mono HB.out.size) (by have := HXL.out; omega) (fun p hp => by have := h1000 p hp; omega)
        have hjl := joinB_le xs 128 h1000
        have hjl2 : xs.length * (128 + 1) ≤ 8 * 129 := Nat.mul_le_mul (by have := HXL.out; omega) (Nat.le_refl _)
        have d4 := fun w => c4 ⟨(joinB xs).toArray⟩ w (by rw [mk_size]; omega)
        obtain ⟨J, hJ⟩ : ∃ J : ByteArray, J = ⟨(joinB xs).toArray⟩ := ⟨_, rfl⟩
        rw [← hJ] at HF d3 d4
        have D3 := Lib.hid d3
        clear hE hall HQ HN c2 c4 d3 hjl hjl2 hJ h1000
        go_wp2_with fail
        refine D3.out.mono ?_
        rintro e w1 ⟨rfl, hb1⟩
        go_wp2_with fail
        refine (d4 _).out.mono ?_
        rintro e w2 ⟨rfl, hb2⟩
        have HB2 := Lib.hid (HB.out.trans ((step hb1 hb2).mono HB.out.size))
        clear hb1 hb2
        go_wp2
        go_ret2
        exact HF.out _ _ ⟨rfl, HB2.out⟩
end Go.Proofs.YtaggjlobmikagaaDoor
