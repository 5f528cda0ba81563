/-
  Contracts of the document's answers for layer 2 (refectoryref02): Letters, units, bytes, Put, Units, Get.
-/
import Derived.Test.YtdidileadiockaaDoorRefU1
import Derived.Deep.RegionLaw
namespace Go.Proofs.YtdidileadiockaaDoor
open Go.RowKit

/-- what Letters answers -/
def LettersPost (w : World) (l : List UInt8) (e : Ending) (w' : World) : Prop :=
  ∃ v, e = .returned (.tuple #[v, .bool (isText l)]) ∧ OwnK .i64 3 w' w.heap.size v (letters l) ∧ Below w.heap.size w w'

set_option maxRecDepth 100000 in
set_option maxHeartbeats 2000000 in
theorem Letters_any (s : ByteArray) (w : World) (hs : s.size ≤ 4398046511104) :
    Calls Tryd.prog 25 #[.string s] w (LettersPost w s.data.toList) := by
  have hq : ∀ b, isText s.data.toList = b → ∀ (e : Ending) (w' : World), (∃ v, e = .returned (.tuple #[v, .bool b]) ∧ OwnK .i64 3 w' w.heap.size v (letters s.data.toList) ∧ Below w.heap.size w w') → LettersPost w s.data.toList e w' := fun b hb e w' h => by
    unfold LettersPost
    rw [hb]
    exact h
  have HQ := Lib.hid hq
  have HS := Lib.hid (Lib.size_eq s)
  clear hq
  go_enter Tryd.func25, Tryd.ntmps25
  go_wp2
  go_loopw [4, 5, 6, 7, 8] (fun v b i _ _ wr => ∃ (pos : Nat) (zs : List Int) (t : Bool), i = .int .i64 pos ∧ b = .bool t ∧ Hid (OwnK .i64 3 wr w.heap.size v zs) ∧ Below w.heap.size w wr ∧ Hid (zs ++ letters (s.data.toList.drop pos) = letters s.data.toList) ∧ Hid ((t && isText (s.data.toList.drop pos)) = isText s.data.toList) ∧ zs.length ≤ pos ∧ pos ≤ s.size) (fun _ _ i _ _ _ => s.size - (intOf i).toNat)
  case atStart =>
    refine ⟨0, [], true, rfl, rfl, OwnK.nil _ _ _ _, Below.refl _ _, ?_, ?_, by simp, by omega⟩
    · show _ = _; rw [List.drop_zero, List.nil_append]
    · show _ = _; rw [List.drop_zero, Bool.true_and]
  case round =>
    obtain ⟨pos, zs, t, rfl, rfl, HO, hb, HE, HT, hzl, hps⟩ := hrel
    have hbs := hb.size
    by_cases hp : pos < s.size
    · have hne : s.data.toList.drop pos ≠ [] := by
        intro e
        have := congrArg List.length e
        rw [List.length_drop, ← HS.out] at this
        simp at this
        omega
      obtain ⟨n1, n2, n3⟩ := next_any s pos hp
      have hfd := first_decode _ hne
      have hts := isText_step _ hne
      rw [Lib.decodeL_drop] at hfd hts
      rw [List.drop_drop] at hts
      have c1 := first_any s pos wr hp hs
      have hh := head_at s pos hp
      obtain ⟨h, hh0⟩ : ∃ h, h = headOf (s.data.toList.drop pos) := ⟨_, rfl⟩
      rw [← hh0] at n1 hfd hts hh
      obtain ⟨Z, hZ⟩ : ∃ Z, Z = (Utf8.decode s pos).2 := ⟨_, rfl⟩
      rw [← hZ] at n1 n2 n3 hfd hts hh
      rcases hh with ⟨h1, h2, h3⟩ | ⟨h1, h2, h3⟩
      · rw [if_pos ⟨h1, h2⟩] at hfd
        rw [hfd] at c1
        have C1 := Lib.hid c1
        subst h2
        have HN : Hid (zs ++ [1114112 + ((s[pos]'hp).toNat : Int)] ++ letters (s.data.toList.drop (pos + 1)) = letters s.data.toList) := by
          show _ = _
          rw [← HE.out, n1, h3]
          simp
        have HT' : Hid ((false && isText (s.data.toList.drop (pos + 1))) = isText s.data.toList) := by
          show _ = _
          rw [← HT.out, hts, h3, decide_eq_false (by omega)]
          simp
        have hbyte : 0 ≤ ((s[pos]'hp).toNat : Int) ∧ ((s[pos]'hp).toNat : Int) ≤ 255 := by have := (s[pos]'hp).toNat_lt; omega
        obtain ⟨hy0, hy1⟩ := hbyte
        clear hne hfd hts c1 hh0 hZ n1 h1 h3 HE HT
        go_wp2_with fail
        refine C1.out.mono ?_
        rintro e w' ⟨rfl, rfl⟩
        go_wp2_with (at_builtin; go_loud (refine wpList_append_lit rfl (.tmp 21) (.tmp 27) .i64 43 3 8 Tryd.underlying43 info_i64 rfl w.heap.size _ zs [1114112 + ((s[pos]'hp).toNat : Int)] _ rfl 1 1 rfl rfl rfl HO.out (by omega) (by omega) hbs ?_; intro v5 w5 ho5 hg5))
        have hb5 := hg5.out.below HO.out hbs
        clear hg5
        go_roundw
        case rel => exact ⟨pos + 1, _, false, by go_num, rfl, ho5, hb.trans hb5, HN, HT', by simp; omega, by omega⟩
        case measure => simp [intOf]; omega
      · rw [if_neg h1] at hfd
        rw [hfd] at c1
        have C1 := Lib.hid c1
        have HN : Hid (zs ++ [h] ++ letters (s.data.toList.drop (pos + Z)) = letters s.data.toList) := by
          show _ = _
          rw [← HE.out, n1]
          simp
        have HT' : Hid ((t && isText (s.data.toList.drop (pos + Z))) = isText s.data.toList) := by
          show _ = _
          have := h3.2.1
          rw [← HT.out, hts, h2, decide_eq_true (by omega), Bool.true_and]
        have hZb : ((Z : Int) == 0) = false := by rw [beq_eq_false_iff_ne]; omega
        have hbd : 0 ≤ h ∧ h ≤ 1114111 := by rw [h2]; exact ⟨h3.1, h3.2.1⟩
        obtain ⟨hy0, hy1⟩ := hbd
        clear hne hfd hts c1 hh0 hZ n1 h1 h2 h3 HE HT
        go_wp2_with fail
        refine C1.out.mono ?_
        rintro e w' ⟨rfl, rfl⟩
        go_wp2_with (at_builtin; go_loud (refine wpList_append_lit rfl (.tmp 31) (.tmp 33) .i64 43 3 8 Tryd.underlying43 info_i64 rfl w.heap.size _ zs [h] _ rfl 1 1 rfl rfl rfl HO.out (by omega) (by omega) hbs ?_; intro v5 w5 ho5 hg5))
        have hb5 := hg5.out.below HO.out hbs
        clear hg5
        go_roundw
        case rel => exact ⟨pos + Z, _, t, by go_num, rfl, ho5, hb.trans hb5, HN, HT', by simp; omega, n3⟩
        case measure => simp [intOf]; omega
    · obtain rfl : pos = s.size := by omega
      have HEE : Hid (zs = letters s.data.toList) := by
        have := HE.out
        rw [next_end s _ hp, List.append_nil] at this
        exact this
      have HTT : Hid (isText s.data.toList = t) := by
        show _ = _
        rw [← HT.out, List.drop_of_length_le (by rw [← HS.out]; omega), isText_nil, Bool.and_true]
      clear HE HT
      go_wp2
      go_ret2
      refine HQ.out t HTT.out _ _ ⟨_, rfl, ?_, hb⟩
      rw [← HEE.out]
      exact HO.out

/-- the units of a letter -/
def unitInts (r : Int) : List Int := if r < 65536 then [r] else [55296 + (r - 65536) / 1024, 56320 + (r - 65536) % 1024]
def twoBytes (u : Int) : List Int := [u % 256, u / 256]
theorem unitBytes_two (r : Int) : unitBytes r = (unitInts r).flatMap twoBytes := by
  unfold unitBytes unitInts twoBytes
  split <;> rfl
theorem unitInts_bounds {r : Int} (h : IsLetter r) : ∀ u ∈ unitInts r, 0 ≤ u ∧ u ≤ 65535 := by
  obtain ⟨h0, h1, _⟩ := h
  intro u hu
  unfold unitInts at hu
  split at hu
  · simp at hu; omega
  · simp at hu; omega
theorem twoBytes_length (us : List Int) : (us.flatMap twoBytes).length = 2 * us.length := by
  induction us with
  | nil => rfl
  | cons a q ih =>
    rw [List.flatMap_cons, List.length_append, ih, List.length_cons]
    show 2 + _ = _
    omega
theorem unitInts_length (r : Int) : (unitInts r).length ≤ 2 := by unfold unitInts; split <;> simp

set_option maxHeartbeats 1000000 in
theorem units_any (w : World) (r : Int) (hr : IsLetter r) :
    Calls Tryd.prog 26 #[.int .i64 r] w fun e w' => ∃ v, e = .returned v ∧ OwnK .i64 3 w' w.heap.size v (unitInts r) ∧ Below w.heap.size w w' := by
  obtain ⟨r0, r1, _⟩ := hr
  unfold unitInts
  by_cases h : r < 65536
  · rw [if_pos h]
    have hO := Lib.hid (OwnK.lit .i64 3 w [r] #[.int .i64 r] 1 rfl rfl (by decide))
    go_enter Tryd.func26, Tryd.ntmps26
    go_wp2
    go_ret
    exact ⟨_, rfl, hO.out, (Below.refl _ _).alloc (Nat.le_refl _) _⟩
  · rw [if_neg h]
    have hO := Lib.hid (OwnK.lit .i64 3 w [55296 + (r - 65536) / 1024, 56320 + (r - 65536) % 1024] #[.int .i64 (55296 + (r - 65536) / 1024), .int .i64 (56320 + (r - 65536) % 1024)] 2 rfl rfl (by decide))
    have q1 : (r - 65536).tdiv 1024 = (r - 65536) / 1024 := Int.tdiv_eq_ediv_of_nonneg (by omega)
    have q2 : (r - 65536).tmod 1024 = (r - 65536) % 1024 := Int.tmod_eq_emod_of_nonneg (by omega)
    go_enter Tryd.func26, Tryd.ntmps26
    go_wp2
    go_ret
    exact ⟨_, rfl, hO.out, (Below.refl _ _).alloc (Nat.le_refl _) _⟩

/-- what the document's Put answers -/
def RPutPost (w : World) (l : List UInt8) (e : Ending) (w' : World) : Prop :=
  ∃ v, e = .returned (.tuple #[v, .int .i64 (textErr l)]) ∧ OwnK .u8 5 w' w.heap.size v (putOfL l) ∧ Below w.heap.size w w'

set_option maxRecDepth 100000 in
set_option maxHeartbeats 4000000 in
theorem RPut_any (s : ByteArray) (w : World) (hs : s.size ≤ 4398046511104) :
    Calls Tryd.prog 11 #[.string s] w (RPutPost w s.data.toList) := by
  have hq : ∀ (e : Ending) (w' : World), (∃ v, e = .returned (.tuple #[v, .int .i64 (textErr s.data.toList)]) ∧ OwnK .u8 5 w' w.heap.size v (putOfL s.data.toList) ∧ Below w.heap.size w w') → RPutPost w s.data.toList e w' := fun _ _ h => h
  have c1 := Letters_any s w hs
  unfold LettersPost at c1
  by_cases ht : isText s.data.toList = true
  · have e2 : textErr s.data.toList = 0 := if_pos ht
    have e3 : putOfL s.data.toList = putBytes (letters s.data.toList) := if_pos ht
    have hlet := isText_letters ht
    have hlen := letters_le s.data.toList
    rw [← Lib.size_eq] at hlen
    obtain ⟨L, hL⟩ : ∃ L, L = letters s.data.toList := ⟨_, rfl⟩
    rw [e2, e3, ← hL] at hq
    rw [ht, ← hL] at c1
    rw [← hL] at hlet hlen
    have HQ := Lib.hid hq
    have C1 := Lib.hid c1
    have HLE := Lib.hid hlet
    clear e2 e3 hq c1 hL ht hlet
    go_enter Tryd.func11, Tryd.ntmps11
    go_wp2_with fail
    refine C1.out.mono ?_
    rintro e w1 ⟨v1, rfl, ho1, hb1⟩
    have HO1 := Lib.hid ho1
    obtain ⟨A1, n1, m1, rfl, hn1, hnm1, hn63, _, _⟩ := ho1.open
    have HN1 := Lib.hid hn1
    have hn4 : n1 ≤ 4398046511104 := by omega
    clear ho1 hn1 C1 hlen
    go_wp2
    go_loopw [6, 7, 8, 9] (fun v i _ _ wr => ∃ k : Nat, i = .int .i64 k ∧ k ≤ n1 ∧ Hid (OwnK .u8 5 wr w.heap.size v (putBytes (L.take k))) ∧ Hid (OwnK .i64 3 wr w.heap.size (.slice A1 n1 m1) L) ∧ Hid ((putBytes (L.take k)).length ≤ 4 * k) ∧ Below w.heap.size w wr) (fun _ i _ _ _ => n1 - (intOf i).toNat)
    case atStart => exact ⟨0, rfl, Nat.zero_le _, OwnK.nil _ _ _ _, HO1, (by show _ ≤ _; simp [putBytes]), hb1⟩
    case round =>
      obtain ⟨k, rfl, hk, HO, HR, HL4, hb⟩ := hrel
      have hbs := hb.size
      by_cases hlt : k < n1
      · obtain ⟨A3, n3, m3, he3, _, _, _, _, hc3⟩ := HR.out.open
        cases he3
        obtain ⟨g, rfl, _, _, hc⟩ := hc3 (by omega)
        have gc := hc k hlt
        have hrL := HLE.out (L.getD k 0) (by
          have := HN1.out
          rw [List.getD_eq_getElem?_getD, List.getElem?_eq_getElem (by omega)]
          exact List.getElem_mem _)
        have htk : L.take (k + 1) = L.take k ++ [L.getD k 0] := by
          have := HN1.out
          rw [List.take_succ_eq_append_getElem (by omega)]
          simp [List.getD_eq_getElem?_getD, show k < L.length by omega]
        obtain ⟨r, hrr⟩ : ∃ r, r = L.getD k 0 := ⟨_, rfl⟩
        rw [← hrr] at gc hrL htk
        have hfl : putBytes (L.take (k + 1)) = putBytes (L.take k) ++ (unitInts r).flatMap twoBytes := by
          rw [htk, putBytes_append, ← unitBytes_two]
          simp [putBytes]
        have hub := unitInts_bounds hrL
        have hul := unitInts_length r
        have c2 := Lib.hid (units_any wr r hrL)
        obtain ⟨U, hU⟩ : ∃ U, U = unitInts r := ⟨_, rfl⟩
        rw [← hU] at c2 hfl hub hul
        obtain ⟨P, hP⟩ : ∃ P, P = putBytes (L.take k) := ⟨_, rfl⟩
        rw [← hP] at hfl HO HL4
        have HFL := Lib.hid hfl
        have HUB := Lib.hid hub
        have HUL := Lib.hid hul
        clear hc hc3 htk hrr hrL hfl hub hul hU hP
        go_wp2_with fail
        refine c2.out.mono ?_
        rintro e w2 ⟨v2, rfl, ho2, hb2⟩
        have HU2 := Lib.hid (ho2.mono hbs)
        obtain ⟨A2, n2, m2, rfl, hn2, hnm2, hn263, _, _⟩ := ho2.open
        have HN2 := Lib.hid hn2
        have hn22 : n2 ≤ 2 := by have := HUL.out; omega
        have HO2 := Lib.hid (HO.out.below hb2)
        have HR2 := Lib.hid (HR.out.below hb2)
        have hbb : Below w.heap.size w w2 := hb.trans (hb2.mono hbs)
        clear ho2 hn2 c2 hb2
        go_wp2
        go_loopw [6, 9] (fun v i wr => ∃ j : Nat, i = .int .i64 j ∧ j ≤ n2 ∧ Hid (OwnK .u8 5 wr w.heap.size v (P ++ (U.take j).flatMap twoBytes)) ∧ Hid (OwnK .i64 3 wr w.heap.size (.slice (some ⟨g, 0, none⟩) n1 m1) L) ∧ Hid (OwnK .i64 3 wr w.heap.size (.slice A2 n2 m2) U) ∧ Below w.heap.size w wr) (fun _ i _ => n2 - (intOf i).toNat)
        case atStart => exact ⟨0, rfl, Nat.zero_le _, (by show OwnK _ _ _ _ _ _; simpa using HO2.out), HR2, HU2, hbb⟩
        case round =>
          obtain ⟨j, rfl, hj, HO, HR, HU, hb⟩ := hrel
          have hbs := hb.size
          by_cases hlt2 : j < n2
          · obtain ⟨A4, n4, m4, he4, _, _, _, _, hc4⟩ := HU.out.open
            cases he4
            obtain ⟨g2, rfl, _, _, hcc⟩ := hc4 (by omega)
            have gx := hcc j hlt2
            have hxb := HUB.out (U.getD j 0) (by
              have := HN2.out
              rw [List.getD_eq_getElem?_getD, List.getElem?_eq_getElem (by omega)]
              exact List.getElem_mem _)
            have htk2 : U.take (j + 1) = U.take j ++ [U.getD j 0] := by
              have := HN2.out
              rw [List.take_succ_eq_append_getElem (by omega)]
              simp [List.getD_eq_getElem?_getD, show j < U.length by omega]
            obtain ⟨x, hx⟩ : ∃ x, x = U.getD j 0 := ⟨_, rfl⟩
            rw [← hx] at gx hxb htk2
            have HF2 : Hid (P ++ (U.take (j + 1)).flatMap twoBytes = P ++ (U.take j).flatMap twoBytes ++ [x % 256, x / 256]) := by
              show _ = _
              rw [htk2]
              simp [twoBytes]
            have hlen2 : (P ++ (U.take j).flatMap twoBytes).length ≤ 4 * 4398046511104 + 8 := by
              have h1 := HL4.out
              have h2 := twoBytes_length (U.take j)
              have h3 : (U.take j).length ≤ 2 := by have := HUL.out; rw [List.length_take]; omega
              rw [List.length_append]
              omega
            obtain ⟨hx0, hx1⟩ := hxb
            have q1 : x.tmod 256 = x % 256 := Int.tmod_eq_emod_of_nonneg hx0
            have q2 : x.tdiv 256 = x / 256 := Int.tdiv_eq_ediv_of_nonneg hx0
            have q3 : IntKind.u8.wrap (x % 256) = x % 256 := by rw [IntKind.wrap_u8']; omega
            have q4 : IntKind.u8.wrap (x / 256) = x / 256 := by rw [IntKind.wrap_u8']; omega
            have q5 : IntKind.i64.wrap (x / 256) = x / 256 := by rw [IntKind.wrap_i64]; omega
            have q6 : IntKind.i64.wrap (x % 256) = x % 256 := by rw [IntKind.wrap_i64]; omega
            have hj0 : (0 : Int) ≤ (j : Int) := Int.natCast_nonneg _
            have hj1 : (j : Int) < (n2 : Int) := by omega
            clear hx htk2 hcc hc4
            go_wp2
            go_region_law ((refine step_append_lit rfl (.tmp 34) (.tmp 47) .u8 22 5 1 Tryd.underlying22 info_u8 rfl w.heap.size _ _ [x % 256, x / 256] _ rfl 2 2 rfl rfl rfl HO.out (by omega) (by omega) hbs ?_; intro v5 w5 ho5 hg5))
            all_goals
              have hb5 := hg5.out.below HO.out hbs
              have HR5 := Lib.hid (hg5.out.other HO.out HR.out (by decide))
              have HU5 := Lib.hid (hg5.out.other HO.out HU.out (by decide))
              have HO5 : Hid (OwnK .u8 5 w5 w.heap.size v5 (P ++ (U.take (j + 1)).flatMap twoBytes)) := by rw [HF2.out]; exact ho5.out
              clear ho5 hg5 q1 q2 q3 q4 q5 q6
              go_wp2
              go_roundw
              case rel => exact ⟨j + 1, by go_num, hlt2, HO5, HR5, HU5, hb.trans hb5⟩
              case measure => simp [intOf]; omega
          · obtain rfl : j = n2 := by omega
            have HTK : Hid (P ++ (U.take j).flatMap twoBytes = putBytes (L.take (k + 1))) := by
              show _ = _
              rw [HFL.out, List.take_of_length_le (by have := HN2.out; omega)]
            have HLEN : Hid ((putBytes (L.take (k + 1))).length ≤ 4 * (k + 1)) := by
              show _ ≤ _
              have h1 := HL4.out
              have h2 := HUL.out
              rw [HFL.out, List.length_append, twoBytes_length]
              omega
            have ho6 := HO.out
            rw [HTK.out] at ho6
            have HO6 := Lib.hid ho6
            clear HTK HO HU ho6
            go_wp2
            go_roundw
            case rel => exact ⟨k + 1, by go_num, hlt, HO6, HR, HLEN, hb⟩
            case measure => simp [intOf]; omega
      · obtain rfl : k = n1 := by omega
        have HTK : Hid (L.take k = L) := by
          show _ = _
          exact List.take_of_length_le (by have := HN1.out; omega)
        go_wp2
        go_ret2
        refine HQ.out _ _ ⟨_, rfl, ?_, hb⟩
        rw [← HTK.out]
        exact HO.out
  · have ht' : isText s.data.toList = false := by simpa using ht
    have e2 : textErr s.data.toList = 5 := if_neg ht
    have e3 : putOfL s.data.toList = [] := if_neg ht
    rw [e2, e3] at hq
    rw [ht'] at c1
    have HQ := Lib.hid hq
    have C1 := Lib.hid c1
    clear e2 e3 hq c1 ht ht'
    go_enter Tryd.func11, Tryd.ntmps11
    go_wp2_with fail
    refine C1.out.mono ?_
    rintro e w1 ⟨v1, rfl, ho1, hb1⟩
    go_wp2
    go_ret2
    exact HQ.out _ _ ⟨_, rfl, OwnK.nil _ _ _ _, hb1⟩

set_option maxHeartbeats 1000000 in
theorem RUnits_any (s : ByteArray) (w : World) (hs : s.size ≤ 4398046511104) :
    Calls Tryd.prog 13 #[.string s] w fun e w' => e = .returned (.tuple #[.int .i64 (unitsOfL s.data.toList), .int .i64 (textErr s.data.toList)]) ∧ Below w.heap.size w w' := by
  have c1 := RPut_any s w hs
  unfold RPutPost at c1
  have hlen := putOfL_length s.data.toList
  have hle := unitsOfL_le s.data.toList
  rw [← Lib.size_eq] at hle
  obtain ⟨Z, hZ⟩ : ∃ Z, Z = putOfL s.data.toList := ⟨_, rfl⟩
  obtain ⟨E, hE⟩ : ∃ E, E = textErr s.data.toList := ⟨_, rfl⟩
  obtain ⟨U, hU⟩ : ∃ U, U = unitsOfL s.data.toList := ⟨_, rfl⟩
  rw [← hZ, ← hE] at c1
  rw [← hZ, ← hU] at hlen
  rw [← hU] at hle
  rw [← hE, ← hU]
  have C1 := Lib.hid c1
  have HL := Lib.hid hlen
  clear hZ hE hU c1 hlen
  have q1 : ((2 * U : Nat) : Int).tdiv 2 = (U : Int) := by
    rw [Int.tdiv_eq_ediv_of_nonneg (by omega)]
    omega
  go_enter Tryd.func13, Tryd.ntmps13
  go_wp2_with fail
  refine C1.out.mono ?_
  rintro e w1 ⟨v1, rfl, ho1, hb1⟩
  obtain ⟨A, n, c, rfl, hn, _, _, _, _⟩ := ho1.open
  obtain rfl : n = 2 * U := by rw [← hn]; exact HL.out
  clear hn ho1
  go_wp2
  go_ret2
  exact ⟨rfl, hb1⟩

set_option maxHeartbeats 2000000 in
theorem bytes_any (w : World) (r : Int) (hr : IsLetter r) :
    Calls Tryd.prog 31 #[.int .i64 r] w fun e w' => ∃ v, e = .returned v ∧ OwnK .u8 5 w' w.heap.size v (Lib.encodeRuneZ r) ∧ Below w.heap.size w w' := by
  obtain ⟨r0, r1, r2⟩ := hr
  have p1 : r.tdiv 64 = r / 64 := Int.tdiv_eq_ediv_of_nonneg r0
  have p2 : r.tdiv 4096 = r / 4096 := Int.tdiv_eq_ediv_of_nonneg r0
  have p3 : r.tdiv 262144 = r / 262144 := Int.tdiv_eq_ediv_of_nonneg r0
  have p4 : r.tmod 64 = r % 64 := Int.tmod_eq_emod_of_nonneg r0
  have p5 : (r / 64).tmod 64 = r / 64 % 64 := Int.tmod_eq_emod_of_nonneg (by omega)
  have p6 : (r / 4096).tmod 64 = r / 4096 % 64 := Int.tmod_eq_emod_of_nonneg (by omega)
  by_cases c1 : r < 128
  · rw [Lib.encodeRuneZ_one r0 (by omega)]
    have hO := Lib.hid (OwnK.lit .u8 5 w [r] #[.int .u8 r] 1 rfl rfl (by decide))
    go_enter Tryd.func31, Tryd.ntmps31
    go_wp2
    go_ret
    exact ⟨_, rfl, hO.out, (Below.refl _ _).alloc (Nat.le_refl _) _⟩
  by_cases c2 : r < 2048
  · rw [Lib.encodeRuneZ_two (by omega) (by omega)]
    have hO := Lib.hid (OwnK.lit .u8 5 w [192 + r / 64, 128 + r % 64] #[.int .u8 (192 + r / 64), .int .u8 (128 + r % 64)] 2 rfl rfl (by decide))
    go_enter Tryd.func31, Tryd.ntmps31
    go_wp2
    go_ret
    exact ⟨_, rfl, hO.out, (Below.refl _ _).alloc (Nat.le_refl _) _⟩
  by_cases c3 : r < 65536
  · rw [Lib.encodeRuneZ_three (by omega)]
    have hO := Lib.hid (OwnK.lit .u8 5 w [224 + r / 4096, 128 + r / 64 % 64, 128 + r % 64] #[.int .u8 (224 + r / 4096), .int .u8 (128 + r / 64 % 64), .int .u8 (128 + r % 64)] 3 rfl rfl (by decide))
    go_enter Tryd.func31, Tryd.ntmps31
    go_wp2
    go_ret
    exact ⟨_, rfl, hO.out, (Below.refl _ _).alloc (Nat.le_refl _) _⟩
  · rw [Lib.encodeRuneZ_four (by omega) r1]
    have hO := Lib.hid (OwnK.lit .u8 5 w [240 + r / 262144, 128 + r / 4096 % 64, 128 + r / 64 % 64, 128 + r % 64] #[.int .u8 (240 + r / 262144), .int .u8 (128 + r / 4096 % 64), .int .u8 (128 + r / 64 % 64), .int .u8 (128 + r % 64)] 4 rfl rfl (by decide))
    go_enter Tryd.func31, Tryd.ntmps31
    go_wp2
    go_ret
    exact ⟨_, rfl, hO.out, (Below.refl _ _).alloc (Nat.le_refl _) _⟩
end Go.Proofs.YtdidileadiockaaDoor
