/-
  Contract of the document's answers for layer 2 (refectoryref02): Get.
-/
import Derived.Test.YtdidileadiockaaDoorRefU2
import Derived.Test.YtdidileadiockaaDoorWorksU
namespace Go.Proofs.YtdidileadiockaaDoor
open Go.RowKit

/-- two places of a row of bytes, as they are read -/
theorem Holds.two {w : World} {B n c : Nat} {A : Option Addr} {xs : List Int} (h : Holds w B A n c xs) {k : Nat} (hk : k < n) :
    ∃ b off, A = some ⟨b, off, none⟩ ∧ b < B ∧ ∀ i, i < n → w.cell? ⟨b, off + i, none⟩ = some (.int .u8 (xs.getD i 0)) := h.cells (by omega)

set_option maxRecDepth 100000 in
set_option maxHeartbeats 4000000 in
theorem RGet_any (w : World) (A : Option Addr) (n c : Nat) (xs : List Int) (h : Holds w w.heap.size A n c xs) (hn : n ≤ 4398046511104) :
    Calls Tryd.prog 17 #[.slice A n c] w (GetPost w xs) := by
  have hl := Lib.hid h.len
  have hf := h.fit
  have hby := h.byte
  have hq : ∀ o, gets xs = o → ∀ (e : Ending) (w' : World), (e = .returned (.tuple #[.string ⟨(match o with | some rs => rs.flatMap enc | none => []).toArray⟩, .int .i64 (match o with | some _ => 0 | none => 5)]) ∧ Below w.heap.size w w') → GetPost w xs e w' := by
    intro o ho e w' hh
    subst ho
    exact hh
  have HQ := Lib.hid hq
  have hnm : (n : Int).tmod 2 = (n : Int) % 2 := Int.tmod_eq_emod_of_nonneg (by omega)
  by_cases hodd : n % 2 = 1
  · have ho : gets xs = none := gets_odd hby (by rw [hl.out]; exact hodd)
    have HO := Lib.hid ho
    have hne : ((n : Int) % 2 != 0) = true := by rw [bne_iff_ne]; omega
    clear hq ho
    go_enter Tryd.func17, Tryd.ntmps17
    go_wp2
    go_ret2
    exact HQ.out none HO.out _ _ ⟨rfl, Below.refl _ _⟩
  have hev : n % 2 = 0 := by omega
  have hne : ((n : Int) % 2 != 0) = false := by rw [bne_eq_false_iff_eq]; omega
  obtain ⟨O, hO⟩ : ∃ O, gets xs = O := ⟨_, rfl⟩
  have HO := Lib.hid hO
  have HEV := Lib.hid hev
  clear hq hO hodd hev
  have cL := fun w n h => Lib.hid (Letter_any w n h)
  have cB := fun w r h => Lib.hid (bytes_any w r h)
  go_enter Tryd.func17, Tryd.ntmps17
  go_wp2
  go_loopw [4, 5, 6, 7, 8] (fun v i _ _ _ wr => ∃ (k : Nat) (rs : List Int), i = .int .i64 k ∧ Hid (OwnK .u8 5 wr w.heap.size v (rs.flatMap Lib.encodeRuneZ)) ∧ Below w.heap.size w wr ∧ Hid (∀ r ∈ rs, IsLetter r) ∧ Hid ((getK xs k).map (rs ++ ·) = O) ∧ Hid ((rs.flatMap Lib.encodeRuneZ).length ≤ 4 * k) ∧ k ≤ n ∧ Hid (k % 2 = 0)) (fun _ i _ _ _ _ => n - (intOf i).toNat)
  case atStart =>
    refine ⟨0, [], rfl, OwnK.nil _ _ _ _, Below.refl _ _, (fun _ h => by cases h), ?_, (by show _ ≤ _; simp), by omega, (by show _ = _; rfl)⟩
    show _ = _
    rw [← HO.out, gets_zero]
    cases getK xs 0 <;> rfl
  case round =>
    obtain ⟨k, rs, rfl, HV, hb, HR, HE, HL, hk, HK2⟩ := hrel
    have hbs := hb.size
    by_cases hlt : k < n
    · have hk2 : k + 2 ≤ n := by have := HK2.out; have := HEV.out; omega
      have hstep := getK_step hby (k := k) (by have := hl.out; omega)
      obtain ⟨b, off, rfl, hbb, hc0⟩ := (h.below hb).two hlt
      have g0 := hc0 k (by omega)
      have g1 := hc0 (k + 1) (by omega)
      have bd0 := hby.getD k
      have bd1 := hby.getD (k + 1)
      have hu0 : unitAt xs k = xs.getD k 0 + 256 * xs.getD (k + 1) 0 := rfl
      have hst : ∀ r z, letAt xs k = (r, z) → z ≠ 0 → getK xs k = (getK xs (k + z)).map (r :: ·) := fun r z e hz => by
        rw [hstep, e]
        exact if_neg hz
      have hst0 : letAt xs k = (0, 0) → getK xs k = none := fun e => by rw [hstep, e]; rfl
      have hlet : letAt xs k = if 56320 ≤ unitAt xs k ∧ unitAt xs k < 57344 then (0, 0)
          else if unitAt xs k < 55296 ∨ 56320 ≤ unitAt xs k then (unitAt xs k, 2)
          else if xs.length < k + 4 then (0, 0)
          else if 56320 ≤ unitAt xs (k + 2) ∧ unitAt xs (k + 2) < 57344 then (65536 + (unitAt xs k - 55296) * 1024 + (unitAt xs (k + 2) - 56320), 4)
          else (0, 0) := by
        unfold letAt
        rw [if_neg (by have := hl.out; omega)]
      have hlts := letAt_cases hby k
      obtain ⟨x, hx⟩ : ∃ x, x = xs.getD k 0 := ⟨_, rfl⟩
      obtain ⟨y, hy⟩ : ∃ y, y = xs.getD (k + 1) 0 := ⟨_, rfl⟩
      rw [← hx] at g0 bd0 hu0
      rw [← hy] at g1 bd1 hu0
      rw [hu0] at hlet
      obtain ⟨x0, x1⟩ := bd0
      obtain ⟨y0, y1⟩ := bd1
      have i0 : (k : Int) < (n : Int) := by omega
      have i1 : (k : Int) + 1 < (n : Int) := by omega
      have i2 : (0 : Int) ≤ (k : Int) := by omega
      have i3 : (0 : Int) ≤ (k : Int) + 1 := by omega
      have i4 : ((k : Int) + 1).toNat = k + 1 := by omega
      have i5 : IntKind.i64.wrap ((k : Int) + 1) = (k : Int) + 1 := by rw [IntKind.wrap_i64]; omega
      have j1 : IntKind.i64.wrap (256 * y) = 256 * y := by rw [IntKind.wrap_i64]; omega
      have j2 : IntKind.i64.wrap (x + 256 * y) = x + 256 * y := by rw [IntKind.wrap_i64]; omega
      have HLET := Lib.hid hlet
      have HST := Lib.hid hst
      have HST0 := Lib.hid hst0
      have HLTS := Lib.hid hlts
      have HC0 := Lib.hid hc0
      clear hlet hst hst0 hstep hu0 hx hy hlts hc0
      go_wp2
      go_quiet (fail)
      obtain ⟨w3, hw3⟩ : ∃ w3, w3 = wr.drewN nq := ⟨_, rfl⟩
      have HV3 := Lib.hid (OwnK.keep (w' := w3) HV.out (fun _ _ _ _ => by rw [hw3]; rfl))
      have hb3 : Below w.heap.size w w3 := by rw [hw3]; exact hb.trans ⟨rfl, rfl, rfl, Nat.le_refl _, fun _ _ => rfl⟩
      have HC3 : Hid (∀ i, i < n → w3.cell? ⟨b, off + i, none⟩ = some (.int .u8 (xs.getD i 0))) := by rw [hw3]; exact HC0.out
      have hb3s := hb3.size
      rw [← hw3]
      clear hw3 HV HC0 g0 g1 i0 i1 i2 i3 i4 i5 j1 j2 hb hbs
      obtain ⟨u, hu⟩ : ∃ u, u = x + 256 * y := ⟨_, rfl⟩
      rw [← hu] at HLET ⊢
      have hub : 0 ≤ u ∧ u ≤ 65535 := by omega
      obtain ⟨hu0, hu1⟩ := hub
      clear hu x0 x1 y0 y1
      by_cases hA : 55296 ≤ u ∧ u < 56320
      · obtain ⟨hA0, hA1⟩ := hA
        have hl1 : letAt xs k = if xs.length < k + 4 then (0, 0)
            else if 56320 ≤ unitAt xs (k + 2) ∧ unitAt xs (k + 2) < 57344 then (65536 + (u - 55296) * 1024 + (unitAt xs (k + 2) - 56320), 4)
            else (0, 0) := by rw [HLET.out, if_neg (by omega), if_neg (by omega)]
        by_cases h4 : n < k + 4
        · have HN : Hid (O = none) := by
            have := HE.out
            rw [HST0.out (by rw [hl1, if_pos (by have := hl.out; omega)])] at this
            exact this.symm
          have h4' : (n : Int) ≤ (k : Int) + 3 := by omega
          clear hl1
          go_wp2
          go_ret2
          refine HQ.out O HO.out _ _ ⟨?_, hb3⟩
          rw [HN.out]
          rfl
        · have h4' : ¬ ((n : Int) ≤ (k : Int) + 3) := by omega
          have g2 := HC3.out (k + 2) (by omega)
          have g3 := HC3.out (k + 3) (by omega)
          have bd2 := hby.getD (k + 2)
          have bd3 := hby.getD (k + 3)
          have hu2 : unitAt xs (k + 2) = xs.getD (k + 2) 0 + 256 * xs.getD (k + 3) 0 := rfl
          obtain ⟨x2, hx2⟩ : ∃ x2, x2 = xs.getD (k + 2) 0 := ⟨_, rfl⟩
          obtain ⟨y2, hy2⟩ : ∃ y2, y2 = xs.getD (k + 3) 0 := ⟨_, rfl⟩
          rw [← hx2] at g2 bd2 hu2
          rw [← hy2] at g3 bd3 hu2
          obtain ⟨x20, x21⟩ := bd2
          obtain ⟨y20, y21⟩ := bd3
          rw [if_neg (by have := hl.out; omega), hu2] at hl1
          by_cases hbad : y2 < 220 ∨ 223 < y2
          · have HN : Hid (O = none) := by
              have := HE.out
              rw [HST0.out (by rw [hl1, if_neg (by omega)])] at this
              exact this.symm
            clear hl1 hu2 hx2 hy2
            rcases hbad with hbad | hbad
            · have hq1 : ¬ (223 < y2) := by omega
              go_wp2
              go_ret2
              refine HQ.out O HO.out _ _ ⟨?_, hb3⟩
              rw [HN.out]
              rfl
            · have hq1 : ¬ (y2 < 220) := by omega
              go_wp2
              go_ret2
              refine HQ.out O HO.out _ _ ⟨?_, hb3⟩
              rw [HN.out]
              rfl
          · have hbad1 : ¬ (y2 < 220) := by omega
            have hbad2 : ¬ (223 < y2) := by omega
            rw [if_pos (by omega)] at hl1
            have hlt4 := HLTS.out
            rw [hl1] at hlt4
            have i0 : (k : Int) + 2 < (n : Int) := by omega
            have i1 : (k : Int) + 3 < (n : Int) := by omega
            have i2 : (0 : Int) ≤ (k : Int) + 2 := by omega
            have i3 : (0 : Int) ≤ (k : Int) + 3 := by omega
            have i4 : ((k : Int) + 2).toNat = k + 2 := by omega
            have i5 : ((k : Int) + 3).toNat = k + 3 := by omega
            have i6 : IntKind.i64.wrap ((k : Int) + 2) = (k : Int) + 2 := by rw [IntKind.wrap_i64]; omega
            have i7 : IntKind.i64.wrap ((k : Int) + 3) = (k : Int) + 3 := by rw [IntKind.wrap_i64]; omega
            have j1 : IntKind.i64.wrap (256 * y2) = 256 * y2 := by rw [IntKind.wrap_i64]; omega
            have j2 : IntKind.i64.wrap (x2 + 256 * y2) = x2 + 256 * y2 := by rw [IntKind.wrap_i64]; omega
            have HL1 := Lib.hid hl1
            have HLT4 := Lib.hid hlt4
            clear hl1 hlt4 hu2 hx2 hy2 hbad
            go_wp2
            go_quiet (fail)
            go_wp2_with fail
            have hRl : IsLetter (65536 + 1024 * (u - 55296) + (x2 + 256 * y2) - 56320) := by
              rcases HLT4.out with e | ⟨e, _⟩ | ⟨_, _, e, _⟩
              · exact absurd (show (4 : Nat) = 0 from congrArg Prod.snd e) (by decide)
              · exact absurd (show (4 : Nat) = 2 from e) (by decide)
              · rw [show 65536 + 1024 * (u - 55296) + (x2 + 256 * y2) - 56320 = 65536 + (u - 55296) * 1024 + (x2 + 256 * y2 - 56320) by omega]
                exact e
            have HE' : Hid ((getK xs (k + 4)).map ((rs ++ [65536 + 1024 * (u - 55296) + (x2 + 256 * y2) - 56320]) ++ ·) = O) := by
              have := HE.out
              rw [HST.out (65536 + 1024 * (u - 55296) + (x2 + 256 * y2) - 56320) 4 (by rw [HL1.out]; exact Prod.ext (by dsimp only; omega) rfl) (by decide), Option.map_map] at this
              show _ = _
              rw [← this]
              congr 1
              funext q
              simp
            have HRL := Lib.hid hRl
            have hz4 : (Lib.encodeRuneZ (65536 + 1024 * (u - 55296) + (x2 + 256 * y2) - 56320)).length ≤ 4 := (Lib.encodeRuneZ_length _).2
            have hbz : Bytes (Lib.encodeRuneZ (65536 + 1024 * (u - 55296) + (x2 + 256 * y2) - 56320)) := fun q hq => by have := Lib.encodeRuneZ_byte _ q hq; omega
            obtain ⟨zs, hzs⟩ : ∃ zs, zs = Lib.encodeRuneZ (65536 + 1024 * (u - 55296) + (x2 + 256 * y2) - 56320) := ⟨_, rfl⟩
            have c2 := bytes_any (w3.drewN nq) (65536 + 1024 * (u - 55296) + (x2 + 256 * y2) - 56320) hRl
            rw [← hzs] at c2 hz4 hbz
            have C2 := Lib.hid c2
            have HZS := Lib.hid hzs
            clear c2 hRl hzs
            refine C2.out.mono ?_
            rintro e w4 ⟨v4, rfl, ho4, hb4⟩
            obtain ⟨A4, c4, rfl, hh4⟩ := ho4.holds hbz (by omega)
            have hb34 : Below w3.heap.size w3 w4 := (show Below w3.heap.size w3 (w3.drewN nq) from ⟨rfl, rfl, rfl, Nat.le_refl _, fun _ _ => rfl⟩).trans (show Below w3.heap.size (w3.drewN nq) w4 from hb4)
            have HH4 := Lib.hid hh4
            have HV4 := Lib.hid (HV3.out.below hb34)
            have hs4 := hb34.size
            obtain ⟨mz, hmz⟩ : ∃ mz, mz = zs.length := ⟨_, rfl⟩
            rw [← hmz] at hz4 HH4 ⊢
            have HMZ := Lib.hid hmz
            have hlz : (rs.flatMap Lib.encodeRuneZ).length + zs.length ≤ 140737488355328 := by have := HL.out; omega
            clear ho4 hh4 hb4 hmz C2
            go_wp2_with (at_builtin; go_loud (refine wpList_append_bytes rfl (.tmp 87) (.tmp 88) rfl w.heap.size _ _ rfl HV4.out _ _ _ _ _ rfl HH4.out hlz (by omega) ?_; intro v5 w5 ho5 hb5 hg5))
            go_roundw
            case rel =>
              refine ⟨k + 4, rs ++ [65536 + 1024 * (u - 55296) + (x2 + 256 * y2) - 56320], by go_num, ?_, (hb3.trans (hb34.mono hb3s)).trans hb5, ?_, HE', ?_, by omega, ?_⟩
              · show Own _ _ _ _
                have := ho5.out
                rw [HZS.out] at this
                simpa using this
              · intro q hq
                rcases List.mem_append.1 hq with hq | hq
                · exact HR.out q hq
                · rcases List.mem_singleton.1 hq with rfl
                  exact HRL.out
              · show _ ≤ _
                have h1 := HL.out
                have h2 := HMZ.out
                rw [List.flatMap_append, List.length_append, List.flatMap_cons, List.flatMap_nil, List.append_nil, ← HZS.out]
                omega
              · show _ = _
                have := HK2.out
                omega
            case measure => simp [intOf]; omega
      · by_cases hB : 56320 ≤ u ∧ u < 57344
        · have hlb : letterB u = false := by rw [letterB_false]; unfold IsLetter; omega
          have HN : Hid (O = none) := by
            have := HE.out
            rw [HST0.out (by rw [HLET.out, if_pos hB])] at this
            exact this.symm
          have c3 := (cL w3 u (by omega)).out
          rw [hlb] at c3
          have C3 := Lib.hid c3
          have hA2 : ¬ (u < 56320) := by omega
          clear c3 hlb
          go_wp2_with fail
          refine C3.out.mono ?_
          rintro e w' ⟨rfl, rfl⟩
          go_wp2
          go_ret2
          refine HQ.out O HO.out _ _ ⟨?_, hb3⟩
          rw [HN.out]
          rfl
        · have hul : IsLetter u := ⟨by omega, by omega, by omega⟩
          have HL1 := Lib.hid (HLET.out.trans (by rw [if_neg hB, if_pos (by omega)]))
          have hlb : letterB u = true := by rw [letterB_iff]; exact hul
          have c3 := (cL w3 u (by omega)).out
          rw [hlb] at c3
          have C3 := Lib.hid c3
          clear c3 hlb
          by_cases hC : 55296 ≤ u
          · have hC2 : ¬ (u < 56320) := by omega
            go_wp2_with fail
            refine C3.out.mono ?_
            rintro e w' ⟨rfl, rfl⟩
            go_wp2_with fail
            have hRl : IsLetter (u) := hul
            have HE' : Hid ((getK xs (k + 2)).map ((rs ++ [u]) ++ ·) = O) := by
              have := HE.out
              rw [HST.out _ _ HL1.out (by decide), Option.map_map] at this
              show _ = _
              rw [← this]
              congr 1
              funext q
              simp
            have HRL := Lib.hid hRl
            have hz4 : (Lib.encodeRuneZ (u)).length ≤ 4 := (Lib.encodeRuneZ_length _).2
            have hbz : Bytes (Lib.encodeRuneZ (u)) := fun q hq => by have := Lib.encodeRuneZ_byte _ q hq; omega
            obtain ⟨zs, hzs⟩ : ∃ zs, zs = Lib.encodeRuneZ (u) := ⟨_, rfl⟩
            have c2 := bytes_any w3 (u) hRl
            rw [← hzs] at c2 hz4 hbz
            have C2 := Lib.hid c2
            have HZS := Lib.hid hzs
            clear c2 hRl hzs
            refine C2.out.mono ?_
            rintro e w4 ⟨v4, rfl, ho4, hb4⟩
            obtain ⟨A4, c4, rfl, hh4⟩ := ho4.holds hbz (by omega)
            have hb34 : Below w3.heap.size w3 w4 := hb4
            have HH4 := Lib.hid hh4
            have HV4 := Lib.hid (HV3.out.below hb34)
            have hs4 := hb34.size
            obtain ⟨mz, hmz⟩ : ∃ mz, mz = zs.length := ⟨_, rfl⟩
            rw [← hmz] at hz4 HH4 ⊢
            have HMZ := Lib.hid hmz
            have hlz : (rs.flatMap Lib.encodeRuneZ).length + zs.length ≤ 140737488355328 := by have := HL.out; omega
            clear ho4 hh4 hb4 hmz C2
            go_wp2_with (at_builtin; go_loud (refine wpList_append_bytes rfl (.tmp 87) (.tmp 88) rfl w.heap.size _ _ rfl HV4.out _ _ _ _ _ rfl HH4.out hlz (by omega) ?_; intro v5 w5 ho5 hb5 hg5))
            go_roundw
            case rel =>
              refine ⟨k + 2, rs ++ [u], by go_num, ?_, (hb3.trans (hb34.mono hb3s)).trans hb5, ?_, HE', ?_, by omega, ?_⟩
              · show Own _ _ _ _
                have := ho5.out
                rw [HZS.out] at this
                simpa using this
              · intro q hq
                rcases List.mem_append.1 hq with hq | hq
                · exact HR.out q hq
                · rcases List.mem_singleton.1 hq with rfl
                  exact HRL.out
              · show _ ≤ _
                have h1 := HL.out
                have h2 := HMZ.out
                rw [List.flatMap_append, List.length_append, List.flatMap_cons, List.flatMap_nil, List.append_nil, ← HZS.out]
                omega
              · show _ = _
                have := HK2.out
                omega
            case measure => simp [intOf]; omega
          · go_wp2_with fail
            refine C3.out.mono ?_
            rintro e w' ⟨rfl, rfl⟩
            go_wp2_with fail
            have hRl : IsLetter (u) := hul
            have HE' : Hid ((getK xs (k + 2)).map ((rs ++ [u]) ++ ·) = O) := by
              have := HE.out
              rw [HST.out _ _ HL1.out (by decide), Option.map_map] at this
              show _ = _
              rw [← this]
              congr 1
              funext q
              simp
            have HRL := Lib.hid hRl
            have hz4 : (Lib.encodeRuneZ (u)).length ≤ 4 := (Lib.encodeRuneZ_length _).2
            have hbz : Bytes (Lib.encodeRuneZ (u)) := fun q hq => by have := Lib.encodeRuneZ_byte _ q hq; omega
            obtain ⟨zs, hzs⟩ : ∃ zs, zs = Lib.encodeRuneZ (u) := ⟨_, rfl⟩
            have c2 := bytes_any w3 (u) hRl
            rw [← hzs] at c2 hz4 hbz
            have C2 := Lib.hid c2
            have HZS := Lib.hid hzs
            clear c2 hRl hzs
            refine C2.out.mono ?_
            rintro e w4 ⟨v4, rfl, ho4, hb4⟩
            obtain ⟨A4, c4, rfl, hh4⟩ := ho4.holds hbz (by omega)
            have hb34 : Below w3.heap.size w3 w4 := hb4
            have HH4 := Lib.hid hh4
            have HV4 := Lib.hid (HV3.out.below hb34)
            have hs4 := hb34.size
            obtain ⟨mz, hmz⟩ : ∃ mz, mz = zs.length := ⟨_, rfl⟩
            rw [← hmz] at hz4 HH4 ⊢
            have HMZ := Lib.hid hmz
            have hlz : (rs.flatMap Lib.encodeRuneZ).length + zs.length ≤ 140737488355328 := by have := HL.out; omega
            clear ho4 hh4 hb4 hmz C2
            go_wp2_with (at_builtin; go_loud (refine wpList_append_bytes rfl (.tmp 87) (.tmp 88) rfl w.heap.size _ _ rfl HV4.out _ _ _ _ _ rfl HH4.out hlz (by omega) ?_; intro v5 w5 ho5 hb5 hg5))
            go_roundw
            case rel =>
              refine ⟨k + 2, rs ++ [u], by go_num, ?_, (hb3.trans (hb34.mono hb3s)).trans hb5, ?_, HE', ?_, by omega, ?_⟩
              · show Own _ _ _ _
                have := ho5.out
                rw [HZS.out] at this
                simpa using this
              · intro q hq
                rcases List.mem_append.1 hq with hq | hq
                · exact HR.out q hq
                · rcases List.mem_singleton.1 hq with rfl
                  exact HRL.out
              · show _ ≤ _
                have h1 := HL.out
                have h2 := HMZ.out
                rw [List.flatMap_append, List.length_append, List.flatMap_cons, List.flatMap_nil, List.append_nil, ← HZS.out]
                omega
              · show _ = _
                have := HK2.out
                omega
            case measure => simp [intOf]; omega
    · obtain rfl : k = n := by omega
      have hend := getK_end (xs := xs) (k := k) (by have := hl.out; omega)
      have HS : Hid (O = some rs) := by
        have := HE.out
        rw [hend] at this
        show _ = _
        simpa using this.symm
      have hcv := run_string_own (P := Tryd.prog) (src := 22) Tryd.underlying22 Tryd.underlying5 HV.out
      rw [strOf_enc rs HR.out] at hcv
      obtain ⟨T, hT⟩ : ∃ T : ByteArray, T = ⟨(rs.flatMap enc).toArray⟩ := ⟨_, rfl⟩
      rw [← hT] at hcv
      have HT := Lib.hid hT
      clear hend hT HE
      go_wp2
      go_ret2
      refine HQ.out O HO.out _ _ ⟨?_, hb⟩
      rw [HS.out, HT.out]
      rfl
end Go.Proofs.YtdidileadiockaaDoor
