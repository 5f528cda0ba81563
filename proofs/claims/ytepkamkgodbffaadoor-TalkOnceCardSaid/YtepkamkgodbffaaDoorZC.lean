import Derived.Test.YtepkamkgodbffaaDoorZB
import Derived.Test.YtepkamkgodbffaaDoorZA
import Derived.Deep.OwnRows
import Derived.Deep.QuietTactic
import Derived.BigQuiet
import Derived.Deep.RegionLaw
import Derived.Deep.DeepCutAuto
/-
  Contract of the document's answers for layer 2 (refectoryref02): Get.
-/
namespace Go.Proofs.YtepkamkgodbffaaDoor
open Go.RowKit

/-- two places of a row of bytes, as they are read -/
theorem Holds.two {w : World} {B n c : Nat} {A : Option Addr} {xs : List Int} (h : Holds w B A n c xs) {k : Nat} (hk : k < n) :
    ∃ b off, A = some ⟨b, off, none⟩ ∧ b < B ∧ ∀ i, i < n → w.cell? ⟨b, off + i, none⟩ = some (.int .u8 (xs.getD i 0)) := h.cells (by omega)

set_option maxRecDepth 100000 in
set_option maxHeartbeats 4000000 in
theorem TRGet_any (w : World) (A : Option Addr) (n c : Nat) (xs : List Int) (h : Holds w w.heap.size A n c xs) (hn : n ≤ 4398046511104) :
    Calls Tryd.prog 66 #[.slice A n c] w (GetPost w xs) := by
  have hl := Lib.hid h.len
  have hf := h.fit
  have hby := h.byte
  have hq : ∀ o, gets xs = o → ∀ (e : Ending) (w' : World), (e = .returned (.tuple #[.string ⟨(match o with | some rs => rs.flatMap enc | none => []).toArray⟩, .int .i64 (match o with | some _ => 0 | none => 5)]) ∧ Below w.heap.size w w') → GetPost w xs e w' := by
    intro o ho e w' hh
    subst ho
    exact hh
  have HQ := Lib.hid hq
  have hnm : (n : Int).tmod 2 = (n : Int) % 2 := Int.tmod_eq_emod_of_nonneg (by omega)
  by_cases hodd : n % 2 = 1
  · have ho : gets xs = none := gets_odd hby (by rw [hl.out]; exact hodd)
    have HO := Lib.hid ho
    have hne : ((n : Int) % 2 != 0) = true := by rw [bne_iff_ne]; omega
    clear hq ho
    go_enter Tryd.func66, Tryd.ntmps66
    go_wp2
    go_ret2
    exact HQ.out none HO.out _ _ ⟨rfl, Below.refl _ _⟩
  have hev : n % 2 = 0 := by omega
  have hne : ((n : Int) % 2 != 0) = false := by rw [bne_eq_false_iff_eq]; omega
  obtain ⟨O, hO⟩ : ∃ O, gets xs = O := ⟨_, rfl⟩
  have HO := Lib.hid hO
  have HEV := Lib.hid hev
  clear hq hO hodd hev
  have cL := fun w n h => Lib.hid (Letter_any w n h)
  have cB := fun w r h => Lib.hid (bytes_any w r h)
  go_enter Tryd.func66, Tryd.ntmps66
  go_wp2
  go_loopw [4, 5, 6, 7, 8] (fun v i _ _ _ wr => ∃ (k : Nat) (rs : List Int), i = .int .i64 k ∧ Hid (OwnK .u8 5 wr w.heap.size v (rs.flatMap Lib.encodeRuneZ)) ∧ Below w.heap.size w wr ∧ Hid (∀ r ∈ rs, IsLetter r) ∧ Hid ((getK xs k).map (rs ++ ·) = O) ∧ Hid ((rs.flatMap Lib.encodeRuneZ).length ≤ 4 * k) ∧ k ≤ n ∧ Hid (k % 2 = 0)) (fun _ i _ _ _ _ => n - (intOf i).toNat)
  case atStart =>
    refine ⟨0, [], rfl, OwnK.nil _ _ _ _, Below.refl _ _, (fun _ h => by cases h), ?_, (by show _ ≤ _; simp), by omega, (by show _ = _; rfl)⟩
    show _ = _
    rw [← HO.out, gets_zero]
    cases getK xs 0 <;> rfl
  case round =>
    obtain ⟨k, rs, rfl, HV, hb, HR, HE, HL, hk, HK2⟩ := hrel
    have hbs := hb.size
    by_cases hlt : k < n
    · have hk2 : k + 2 ≤ n := by have := HK2.out; have := HEV.out; omega
      have hstep := getK_step hby (k := k) (by have := hl.out; omega)
      obtain ⟨b, off, rfl, hbb, hc0⟩ := (h.below hb).two hlt
      have g0 := hc0 k (by omega)
      have g1 := hc0 (k + 1) (by omega)
      have bd0 := hby.getD k
      have bd1 := hby.getD (k + 1)
      have hu0 : unitAt xs k = xs.getD k 0 + 256 * xs.getD (k + 1) 0 := rfl
      have hst : ∀ r z, letAt xs k = (r, z) → z ≠ 0 → getK xs k = (getK xs (k + z)).map (r :: ·) := fun r z e hz => by
        rw [hstep, e]
        exact if_neg hz
      have hst0 : letAt xs k = (0, 0) → getK xs k = none := fun e => by rw [hstep, e]; rfl
      have hlet : letAt xs k = if 56320 ≤ unitAt xs k ∧ unitAt xs k < 57344 then (0, 0)
          else if unitAt xs k < 55296 ∨ 56320 ≤ unitAt xs k then (unitAt xs k, 2)
          else if xs.length < k + 4 then (0, 0)
          else if 56320 ≤ unitAt xs (k + 2) ∧ unitAt xs (k + 2) < 57344 then (65536 + (unitAt xs k - 55296) * 1024 + (unitAt xs (k + 2) - 56320), 4)
          else (0, 0) := by
        unfold letAt
        rw [if_neg (by have := hl.out; omega)]
      have hlts := letAt_cases hby k
      obtain ⟨x, hx⟩ : ∃ x, x = xs.getD k 0 := ⟨_, rfl⟩
      obtain ⟨y, hy⟩ : ∃ y, y = xs.getD (k + 1) 0 := ⟨_, rfl⟩
      rw [← hx] at g0 bd0 hu0
      rw [← hy] at g1 bd1 hu0
      rw [hu0] at hlet
      obtain ⟨x0, x1⟩ := bd0
      obtain ⟨y0, y1⟩ := bd1
      have i0 : (k : Int) < (n : Int) := by omega
      have i1 : (k : Int) + 1 < (n : Int) := by omega
      have i2 : (0 : Int) ≤ (k : Int) := by omega
      have i3 : (0 : Int) ≤ (k : Int) + 1 := by omega
      have i4 : ((k : Int) + 1).toNat = k + 1 := by omega
      have i5 : IntKind.i64.wrap ((k : Int) + 1) = (k : Int) + 1 := by rw [IntKind.wrap_i64]; omega
      have j1 : IntKind.i64.wrap (256 * y) = 256 * y := by rw [IntKind.wrap_i64]; omega
      have j2 : IntKind.i64.wrap (x + 256 * y) = x + 256 * y := by rw [IntKind.wrap_i64]; omega
      have HLET := Lib.hid hlet
      have HST := Lib.hid hst
      have HST0 := Lib.hid hst0
      have HLTS := Lib.hid hlts
      have HC0 := Lib.hid hc0
      clear hlet hst hst0 hstep hu0 hx hy hlts hc0
      go_wp2
      go_quiet (fail)
      obtain ⟨w3, hw3⟩ : ∃ w3, w3 = wr.drewN nq := ⟨_, rfl⟩
      have HV3 := Lib.hid (OwnK.keep (w' := w3) HV.out (fun _ _ _ _ => by rw [hw3]; rfl))
      have hb3 : Below w.heap.size w w3 := by rw [hw3]; exact hb.trans ⟨rfl, rfl, rfl, Nat.le_refl _, fun _ _ => rfl⟩
      have HC3 : Hid (∀ i, i < n → w3.cell? ⟨b, off + i, none⟩ = some (.int .u8 (xs.getD i 0))) := by rw [hw3]; exact HC0.out
      have hb3s := hb3.size
      rw [← hw3]
      clear hw3 HV HC0 g0 g1 i0 i1 i2 i3 i4 i5 j1 j2 hb hbs
      obtain ⟨u, hu⟩ : ∃ u, u = x + 256 * y := ⟨_, rfl⟩
      rw [← hu] at HLET ⊢
      have hub : 0 ≤ u ∧ u ≤ 65535 := by omega
      obtain ⟨hu0, hu1⟩ := hub
      clear hu x0 x1 y0 y1
      by_cases hA : 55296 ≤ u ∧ u < 56320
      · obtain ⟨hA0, hA1⟩ := hA
        have hl1 : letAt xs k = if xs.length < k + 4 then (0, 0)
            else if 56320 ≤ unitAt xs (k + 2) ∧ unitAt xs (k + 2) < 57344 then (65536 + (u - 55296) * 1024 + (unitAt xs (k + 2) - 56320), 4)
            else (0, 0) := by rw [HLET.out, if_neg (by omega), if_neg (by omega)]
        by_cases h4 : n < k + 4
        · have HN : Hid (O = none) := by
            have := HE.out
            rw [HST0.out (by rw [hl1, if_pos (by have := hl.out; omega)])] at this
            exact this.symm
          have h4' : (n : Int) ≤ (k : Int) + 3 := by omega
          clear hl1
          go_wp2
          go_ret2
          refine HQ.out O HO.out _ _ ⟨?_, hb3⟩
          rw [HN.out]
          rfl
        · have h4' : ¬ ((n : Int) ≤ (k : Int) + 3) := by omega
          have g2 := HC3.out (k + 2) (by omega)
          have g3 := HC3.out (k + 3) (by omega)
          have bd2 := hby.getD (k + 2)
          have bd3 := hby.getD (k + 3)
          have hu2 : unitAt xs (k + 2) = xs.getD (k + 2) 0 + 256 * xs.getD (k + 3) 0 := rfl
          obtain ⟨x2, hx2⟩ : ∃ x2, x2 = xs.getD (k + 2) 0 := ⟨_, rfl⟩
          obtain ⟨y2, hy2⟩ : ∃ y2, y2 = xs.getD (k + 3) 0 := ⟨_, rfl⟩
          rw [← hx2] at g2 bd2 hu2
          rw [← hy2] at g3 bd3 hu2
          obtain ⟨x20, x21⟩ := bd2
          obtain ⟨y20, y21⟩ := bd3
          rw [if_neg (by have := hl.out; omega), hu2] at hl1
          by_cases hbad : y2 < 220 ∨ 223 < y2
          · have HN : Hid (O = none) := by
              have := HE.out
              rw [HST0.out (by rw [hl1, if_neg (by omega)])] at this
              exact this.symm
            clear hl1 hu2 hx2 hy2
            rcases hbad with hbad | hbad
            · have hq1 : ¬ (223 < y2) := by omega
              go_wp2
              go_ret2
              refine HQ.out O HO.out _ _ ⟨?_, hb3⟩
              rw [HN.out]
              rfl
            · have hq1 : ¬ (y2 < 220) := by omega
              go_wp2
              go_ret2
              refine HQ.out O HO.out _ _ ⟨?_, hb3⟩
              rw [HN.out]
              rfl
          · have hbad1 : ¬ (y2 < 220) := by omega
            have hbad2 : ¬ (223 < y2) := by omega
            rw [if_pos (by omega)] at hl1
            have hlt4 := HLTS.out
            rw [hl1] at hlt4
            have i0 : (k : Int) + 2 < (n : Int) := by omega
            have i1 : (k : Int) + 3 < (n : Int) := by omega
            have i2 : (0 : Int) ≤ (k : Int) + 2 := by omega
            have i3 : (0 : Int) ≤ (k : Int) + 3 := by omega
            have i4 : ((k : Int) + 2).toNat = k + 2 := by omega
            have i5 : ((k : Int) + 3).toNat = k + 3 := by omega
            have i6 : IntKind.i64.wrap ((k : Int) + 2) = (k : Int) + 2 := by rw [IntKind.wrap_i64]; omega
            have i7 : IntKind.i64.wrap ((k : Int) + 3) = (k : Int) + 3 := by rw [IntKind.wrap_i64]; omega
            have j1 : IntKind.i64.wrap (256 * y2) = 256 * y2 := by rw [IntKind.wrap_i64]; omega
            have j2 : IntKind.i64.wrap (x2 + 256 * y2) = x2 + 256 * y2 := by rw [IntKind.wrap_i64]; omega
            have HL1 := Lib.hid hl1
            have HLT4 := Lib.hid hlt4
            clear hl1 hlt4 hu2 hx2 hy2 hbad
            go_wp2
            go_quiet (fail)
            go_wp2_with fail
            have hRl : IsLetter (65536 + 1024 * (u - 55296) + (x2 + 256 * y2) - 56320) := by
              rcases HLT4.out with e | ⟨e, _⟩ | ⟨_, _, e, _⟩
              · exact absurd (show (4 : Nat) = 0 from congrArg Prod.snd e) (by decide)
              · exact absurd (show (4 : Nat) = 2 from e) (by decide)
              · rw [show 65536 + 1024 * (u - 55296) + (x2 + 256 * y2) - 56320 = 65536 + (u - 55296) * 1024 + (x2 + 256 * y2 - 56320) by omega]
                exact e
            have HE' : Hid ((getK xs (k + 4)).map ((rs ++ [65536 + 1024 * (u - 55296) + (x2 + 256 * y2) - 56320]) ++ ·) = O) := by
              have := HE.out
              rw [HST.out (65536 + 1024 * (u - 55296) + (x2 + 256 * y2) - 56320) 4 (by rw [HL1.out]; exact Prod.ext (by dsimp only; omega) rfl) (by decide), Option.map_map] at this
              show _ = _
              rw [← this]
              congr 1
              funext q
              simp
            have HRL := Lib.hid hRl
            have hz4 : (Lib.encodeRuneZ (65536 + 1024 * (u - 55296) + (x2 + 256 * y2) - 56320)).length ≤ 4 := (Lib.encodeRuneZ_length _).2
            have hbz : Bytes (Lib.encodeRuneZ (65536 + 1024 * (u - 55296) + (x2 + 256 * y2) - 56320)) := fun q hq => by have := Lib.encodeRuneZ_byte _ q hq; omega
            obtain ⟨zs, hzs⟩ : ∃ zs, zs = Lib.encodeRuneZ (65536 + 1024 * (u - 55296) + (x2 + 256 * y2) - 56320) := ⟨_, rfl⟩
            have c2 := bytes_any (w3.drewN nq) (65536 + 1024 * (u - 55296) + (x2 + 256 * y2) - 56320) hRl
            rw [← hzs] at c2 hz4 hbz
            have C2 := Lib.hid c2
            have HZS := Lib.hid hzs
            clear c2 hRl hzs
            refine C2.out.mono ?_
            rintro e w4 ⟨v4, rfl, ho4, hb4⟩
            obtain ⟨A4, c4, rfl, hh4⟩ := ho4.holds hbz (by omega)
            have hb34 : Below w3.heap.size w3 w4 := (show Below w3.heap.size w3 (w3.drewN nq) from ⟨rfl, rfl, rfl, Nat.le_refl _, fun _ _ => rfl⟩).trans (show Below w3.heap.size (w3.drewN nq) w4 from hb4)
            have HH4 := Lib.hid hh4
            have HV4 := Lib.hid (HV3.out.below hb34)
            have hs4 := hb34.size
            obtain ⟨mz, hmz⟩ : ∃ mz, mz = zs.length := ⟨_, rfl⟩
            rw [← hmz] at hz4 HH4 ⊢
            have HMZ := Lib.hid hmz
            have hlz : (rs.flatMap Lib.encodeRuneZ).length + zs.length ≤ 140737488355328 := by have := HL.out; omega
            clear ho4 hh4 hb4 hmz C2
            go_wp2_with (at_builtin; go_loud (refine wpList_append_bytes rfl (.tmp 87) (.tmp 88) rfl w.heap.size _ _ rfl HV4.out _ _ _ _ _ rfl HH4.out hlz (by omega) ?_; intro v5 w5 ho5 hb5 hg5))
            go_roundw
            case rel =>
              refine ⟨k + 4, rs ++ [65536 + 1024 * (u - 55296) + (x2 + 256 * y2) - 56320], by go_num, ?_, (hb3.trans (hb34.mono hb3s)).trans hb5, ?_, HE', ?_, by omega, ?_⟩
              · show Own _ _ _ _
                have := ho5.out
                rw [HZS.out] at this
                simpa using this
              · intro q hq
                rcases List.mem_append.1 hq with hq | hq
                · exact HR.out q hq
                · rcases List.mem_singleton.1 hq with rfl
                  exact HRL.out
              · show _ ≤ _
                have h1 := HL.out
                have h2 := HMZ.out
                rw [List.flatMap_append, List.length_append, List.flatMap_cons, List.flatMap_nil, List.append_nil, ← HZS.out]
                omega
              · show _ = _
                have := HK2.out
                omega
            case measure => simp [intOf]; omega
      · by_cases hB : 56320 ≤ u ∧ u < 57344
        · have hlb : letterB u = false := by rw [letterB_false]; unfold IsLetter; omega
          have HN : Hid (O = none) := by
            have := HE.out
            rw [HST0.out (by rw [HLET.out, if_pos hB])] at this
            exact this.symm
          have c3 := (cL w3 u (by omega)).out
          rw [hlb] at c3
          have C3 := Lib.hid c3
          have hA2 : ¬ (u < 56320) := by omega
          clear c3 hlb
          go_wp2_with fail
          refine C3.out.mono ?_
          rintro e w' ⟨rfl, rfl⟩
          go_wp2
          go_ret2
          refine HQ.out O HO.out _ _ ⟨?_, hb3⟩
          rw [HN.out]
          rfl
        · have hul : IsLetter u := ⟨by omega, by omega, by omega⟩
          have HL1 := Lib.hid (HLET.out.trans (by rw [if_neg hB, if_pos (by omega)]))
          have hlb : letterB u = true := by rw [letterB_iff]; exact hul
          have c3 := (cL w3 u (by omega)).out
          rw [hlb] at c3
          have C3 := Lib.hid c3
          clear c3 hlb
          by_cases hC : 55296 ≤ u
          · have hC2 : ¬ (u < 56320) := by omega
            go_wp2_with fail
            refine C3.out.mono ?_
            rintro e w' ⟨rfl, rfl⟩
            go_wp2_with fail
            have hRl : IsLetter (u) := hul
            have HE' : Hid ((getK xs (k + 2)).map ((rs ++ [u]) ++ ·) = O) := by
              have := HE.out
              rw [HST.out _ _ HL1.out (by decide), Option.map_map] at this
              show _ = _
              rw [← this]
              congr 1
              funext q
              simp
            have HRL := Lib.hid hRl
            have hz4 : (Lib.encodeRuneZ (u)).length ≤ 4 := (Lib.encodeRuneZ_length _).2
            have hbz : Bytes (Lib.encodeRuneZ (u)) := fun q hq => by have := Lib.encodeRuneZ_byte _ q hq; omega
            obtain ⟨zs, hzs⟩ : ∃ zs, zs = Lib.encodeRuneZ (u) := ⟨_, rfl⟩
            have c2 := bytes_any w3 (u) hRl
            rw [← hzs] at c2 hz4 hbz
            have C2 := Lib.hid c2
            have HZS := Lib.hid hzs
            clear c2 hRl hzs
            refine C2.out.mono ?_
            rintro e w4 ⟨v4, rfl, ho4, hb4⟩
            obtain ⟨A4, c4, rfl, hh4⟩ := ho4.holds hbz (by omega)
            have hb34 : Below w3.heap.size w3 w4 := hb4
            have HH4 := Lib.hid hh4
            have HV4 := Lib.hid (HV3.out.below hb34)
            have hs4 := hb34.size
            obtain ⟨mz, hmz⟩ : ∃ mz, mz = zs.length := ⟨_, rfl⟩
            rw [← hmz] at hz4 HH4 ⊢
            have HMZ := Lib.hid hmz
            have hlz : (rs.flatMap Lib.encodeRuneZ).length + zs.length ≤ 140737488355328 := by have := HL.out; omega
            clear ho4 hh4 hb4 hmz C2
            go_wp2_with (at_builtin; go_loud (refine wpList_append_bytes rfl (.tmp 87) (.tmp 88) rfl w.heap.size _ _ rfl HV4.out _ _ _ _ _ rfl HH4.out hlz (by omega) ?_; intro v5 w5 ho5 hb5 hg5))
            go_roundw
            case rel =>
              refine ⟨k + 2, rs ++ [u], by go_num, ?_, (hb3.trans (hb34.mono hb3s)).trans hb5, ?_, HE', ?_, by omega, ?_⟩
              · show Own _ _ _ _
                have := ho5.out
                rw [HZS.out] at this
                simpa using this
              · intro q hq
                rcases List.mem_append.1 hq with hq | hq
                · exact HR.out q hq
                · rcases List.mem_singleton.1 hq with rfl
                  exact HRL.out
              · show _ ≤ _
                have h1 := HL.out
                have h2 := HMZ.out
                rw [List.flatMap_append, List.length_append, List.flatMap_cons, List.flatMap_nil, List.append_nil, ← HZS.out]
                omega
              · show _ = _
                have := HK2.out
                omega
            case measure => simp [intOf]; omega
          · go_wp2_with fail
            refine C3.out.mono ?_
            rintro e w' ⟨rfl, rfl⟩
            go_wp2_with fail
            have hRl : IsLetter (u) := hul
            have HE' : Hid ((getK xs (k + 2)).map ((rs ++ [u]) ++ ·) = O) := by
              have := HE.out
              rw [HST.out _ _ HL1.out (by decide), Option.map_map] at this
              show _ = _
              rw [← this]
              congr 1
              funext q
              simp
            have HRL := Lib.hid hRl
            have hz4 : (Lib.encodeRuneZ (u)).length ≤ 4 := (Lib.encodeRuneZ_length _).2
            have hbz : Bytes (Lib.encodeRuneZ (u)) := fun q hq => by have := Lib.encodeRuneZ_byte _ q hq; omega
            obtain ⟨zs, hzs⟩ : ∃ zs, zs = Lib.encodeRuneZ (u) := ⟨_, rfl⟩
            have c2 := bytes_any w3 (u) hRl
            rw [← hzs] at c2 hz4 hbz
            have C2 := Lib.hid c2
            have HZS := Lib.hid hzs
            clear c2 hRl hzs
            refine C2.out.mono ?_
            rintro e w4 ⟨v4, rfl, ho4, hb4⟩
            obtain ⟨A4, c4, rfl, hh4⟩ := ho4.holds hbz (by omega)
            have hb34 : Below w3.heap.size w3 w4 := hb4
            have HH4 := Lib.hid hh4
            have HV4 := Lib.hid (HV3.out.below hb34)
            have hs4 := hb34.size
            obtain ⟨mz, hmz⟩ : ∃ mz, mz = zs.length := ⟨_, rfl⟩
            rw [← hmz] at hz4 HH4 ⊢
            have HMZ := Lib.hid hmz
            have hlz : (rs.flatMap Lib.encodeRuneZ).length + zs.length ≤ 140737488355328 := by have := HL.out; omega
            clear ho4 hh4 hb4 hmz C2
            go_wp2_with (at_builtin; go_loud (refine wpList_append_bytes rfl (.tmp 87) (.tmp 88) rfl w.heap.size _ _ rfl HV4.out _ _ _ _ _ rfl HH4.out hlz (by omega) ?_; intro v5 w5 ho5 hb5 hg5))
            go_roundw
            case rel =>
              refine ⟨k + 2, rs ++ [u], by go_num, ?_, (hb3.trans (hb34.mono hb3s)).trans hb5, ?_, HE', ?_, by omega, ?_⟩
              · show Own _ _ _ _
                have := ho5.out
                rw [HZS.out] at this
                simpa using this
              · intro q hq
                rcases List.mem_append.1 hq with hq | hq
                · exact HR.out q hq
                · rcases List.mem_singleton.1 hq with rfl
                  exact HRL.out
              · show _ ≤ _
                have h1 := HL.out
                have h2 := HMZ.out
                rw [List.flatMap_append, List.length_append, List.flatMap_cons, List.flatMap_nil, List.append_nil, ← HZS.out]
                omega
              · show _ = _
                have := HK2.out
                omega
            case measure => simp [intOf]; omega
    · obtain rfl : k = n := by omega
      have hend := getK_end (xs := xs) (k := k) (by have := hl.out; omega)
      have HS : Hid (O = some rs) := by
        have := HE.out
        rw [hend] at this
        show _ = _
        simpa using this.symm
      have hcv := run_string_own (P := Tryd.prog) (src := 29) Tryd.underlying29 Tryd.underlying5 HV.out
      rw [strOf_enc rs HR.out] at hcv
      obtain ⟨T, hT⟩ : ∃ T : ByteArray, T = ⟨(rs.flatMap enc).toArray⟩ := ⟨_, rfl⟩
      rw [← hT] at hcv
      have HT := Lib.hid hT
      clear hend hT HE
      go_wp2
      go_ret2
      refine HQ.out O HO.out _ _ ⟨?_, hb⟩
      rw [HS.out, HT.out]
      rfl
end Go.Proofs.YtepkamkgodbffaaDoor

/-
  Contracts of the document's answers for layer 1 (refectoryref01): Size, Part, Zero.
-/
namespace Go.Proofs.YtepkamkgodbffaaDoor
open Go.RowKit

set_option maxHeartbeats 400000 in
theorem RSize_any (w : World) (s : Int) : Calls Tryd.prog 74 #[.int .i64 s] w fun e w' => e = .returned (.bool (sizeOk s)) ∧ w = w' := by
  by_cases h1 : s = 1
  · subst h1
    go_enter Tryd.func74, Tryd.ntmps74
    go_wp2
    go_ret
    exact ⟨rfl, rfl⟩
  by_cases h2 : s = 2
  · subst h2
    go_enter Tryd.func74, Tryd.ntmps74
    go_wp2
    go_ret
    exact ⟨rfl, rfl⟩
  by_cases h4 : s = 4
  · subst h4
    go_enter Tryd.func74, Tryd.ntmps74
    go_wp2
    go_ret
    exact ⟨rfl, rfl⟩
  by_cases h8 : s = 8
  · subst h8
    go_enter Tryd.func74, Tryd.ntmps74
    go_wp2
    go_ret
    exact ⟨rfl, rfl⟩
  · have e : sizeOk s = false := by simp [sizeOk, h1, h2, h4, h8]
    have b1 : (s == 1) = false := by simpa using h1
    have b2 : (s == 2) = false := by simpa using h2
    have b4 : (s == 4) = false := by simpa using h4
    have b8 : (s == 8) = false := by simpa using h8
    rw [e]
    clear e h1 h2 h4 h8
    go_enter Tryd.func74, Tryd.ntmps74
    go_wp2
    go_ret
    exact ⟨rfl, rfl⟩

/-- what the document's Part answers -/
def RPartPost (w : World) (xs : List Int) (a m : Int) (e : Ending) (w' : World) : Prop :=
  ∃ v, e = .returned (.tuple #[v, .int .i64 (partErr xs.length a m)]) ∧ Own w' w.heap.size v (partOf xs a m) ∧ Below w.heap.size w w'

theorem num_drop {ys : List Int} {k : Nat} (hk : k < ys.length) : num (ys.drop k) = ys.getD k 0 + 256 * num (ys.drop (k + 1)) := by
  rw [List.drop_eq_getElem_cons hk, num]
  simp [List.getD_eq_getElem?_getD, hk]

set_option maxHeartbeats 400000 in
theorem RGet_any (w : World) (B : Nat) (A : Option Addr) (n c : Nat) (xs : List Int) (a s : Int) (h : Holds w B A n c xs)
    (ha : -9223372036854775808 ≤ a ∧ a ≤ 9223372036854775807) (hs : -9223372036854775808 ≤ s ∧ s ≤ 9223372036854775807) :
    Calls Tryd.prog 73 #[.slice A n c, .int .i64 a, .int .i64 s] w fun e w' => e = .returned (.tuple #[.int .u64 (getOf xs a s), .int .i64 (getErr n a s)]) ∧ w = w' := by
  have hl := Lib.hid h.len
  have hr := h.room
  have c1 := RSize_any w s
  have hzero : getErr n a s ≠ 0 → getOf xs a s = 0 := fun h1 => by unfold getOf; rw [hl.out, if_neg h1]
  by_cases hz : sizeOk s = true
  · have hs8 : 1 ≤ s ∧ s ≤ 8 := by rcases sizeOk_cases hz with e | e | e | e <;> omega
    obtain ⟨hs1, hs8⟩ := hs8
    have e1 : getErr n a s = partErr n a s := by unfold getErr; rw [if_pos hz]
    have e2 : partErr n a s = 0 → getOf xs a s = num ((xs.drop a.toNat).take s.toNat) := fun h1 => by unfold getOf; rw [hl.out, e1, if_pos h1]
    rw [hz] at c1
    have C1 := Lib.hid c1
    clear c1 hz
    by_cases h1 : a < 0
    · have e3 : partErr n a s = 2 := by simp [partErr, h1]
      rw [hzero (by omega), e1, e3]
      clear e1 e2 e3 hzero
      go_enter Tryd.func73, Tryd.ntmps73
      go_wp2_with fail
      refine C1.out.mono ?_
      rintro e w' ⟨rfl, rfl⟩
      go_wp2
      go_ret2
      exact ⟨rfl, rfl⟩
    by_cases h2 : (n : Int) < a
    · have e3 : partErr n a s = 2 := by simp [partErr, h2]
      rw [hzero (by omega), e1, e3]
      clear e1 e2 e3 hzero
      go_enter Tryd.func73, Tryd.ntmps73
      go_wp2_with fail
      refine C1.out.mono ?_
      rintro e w' ⟨rfl, rfl⟩
      go_wp2
      go_ret2
      exact ⟨rfl, rfl⟩
    by_cases h4 : (n : Int) - a < s
    · have e3 : partErr n a s = 4 := by unfold partErr; rw [if_neg (by omega), if_pos h4]
      rw [hzero (by omega), e1, e3]
      clear e1 e2 e3 hzero
      go_enter Tryd.func73, Tryd.ntmps73
      go_wp2_with fail
      refine C1.out.mono ?_
      rintro e w' ⟨rfl, rfl⟩
      go_wp2
      go_ret2
      exact ⟨rfl, rfl⟩
    have e3 : partErr n a s = 0 := by unfold partErr; rw [if_neg (by omega), if_neg h4]
    rw [e2 e3, e1, e3]
    obtain ⟨p, rfl⟩ := Int.eq_ofNat_of_zero_le (show 0 ≤ a by omega)
    obtain ⟨j, rfl⟩ := Int.eq_ofNat_of_zero_le (show 0 ≤ s by omega)
    simp only [Int.toNat_natCast]
    obtain ⟨b, off, rfl, hb, hc⟩ := h.cells (by omega)
    obtain ⟨ys, hys⟩ : ∃ ys, ys = (xs.drop p).take j := ⟨_, rfl⟩
    have hyl : ys.length = j := by have := hl.out; rw [hys]; simp; omega
    have hyb : Bytes ys := by rw [hys]; exact (h.byte.drop _).take _
    have hyc : ∀ i, i < j → w.cell? ⟨b, off + (p + i), none⟩ = some (.int .u8 (ys.getD i 0)) := fun i hi => by
      rw [hc (p + i) (by omega), hys]
      simp [List.getD_eq_getElem?_getD, List.getElem?_drop, hi]
    rw [← hys]
    obtain ⟨z, hz⟩ : ∃ z, z = num ys := ⟨_, rfl⟩
    rw [← hz]
    have HZ := Lib.hid hz
    have HL := Lib.hid hyl
    have HC := Lib.hid hyc
    clear e1 e2 e3 hzero hys hyl hz hc hyc
    go_enter Tryd.func73, Tryd.ntmps73
    go_wp2_with fail
    refine C1.out.mono ?_
    rintro e w' ⟨rfl, rfl⟩
    go_wp2_with fail
    go_loop [8, 9] (fun v i => ∃ k : Nat, k ≤ j ∧ i = .int .i64 ((k : Int) - 1) ∧ ∃ z', v = .int .u64 z' ∧ Hid (z' = num (ys.drop k))) (fun _ i => (intOf i + 1).toNat)
    case atStart => exact ⟨j, Nat.le_refl _, rfl, 0, rfl, by rw [List.drop_of_length_le (by have := HL.out; omega)]; rfl⟩
    case round =>
      obtain ⟨k, hk, rfl, z', rfl, HZ'⟩ := hrel
      rcases k with _ | k
      · have hS : Hid (z' = z) := by show _ = _; rw [HZ'.out, HZ.out]; rfl
        clear HZ'
        go_wp2
        go_ret2
        exact ⟨by rw [hS.out]; rfl, rfl⟩
      · have gc := HC.out k (by omega)
        obtain ⟨y, hy⟩ : ∃ y, y = ys.getD k 0 := ⟨_, rfl⟩
        have hyr := hyb.getD k
        rw [← hy] at gc hyr
        obtain ⟨hy0, hy1⟩ := hyr
        have hz1 : 0 ≤ z' ∧ z' ≤ 72057594037927935 := by
          have h1 := num_bounds (ys.drop (k + 1)) (hyb.drop _)
          rw [← HZ'.out] at h1
          have h2 : (256 : Int) ^ (ys.drop (k + 1)).length ≤ 256 ^ 7 := by
            have h3 : (256 : Nat) ^ (ys.drop (k + 1)).length ≤ 256 ^ 7 := Nat.pow_le_pow_right (by omega) (by have := HL.out; simp; omega)
            have h4 : (((256 : Nat) ^ (ys.drop (k + 1)).length : Nat) : Int) ≤ ((256 ^ 7 : Nat) : Int) := Int.ofNat_le.2 h3
            simpa [Int.natCast_pow] using h4
          have h5 : (256 : Int) ^ 7 = 72057594037927936 := by decide
          omega
        obtain ⟨hz1, hz2⟩ := hz1
        have hS : Hid (256 * z' + y = num (ys.drop k)) := by
          show _ = _
          rw [num_drop (by have := HL.out; omega), ← HZ'.out, ← hy]; omega
        have ek : (((k + 1 : Nat) : Int) - 1) = (k : Int) := by omega
        rw [ek]
        clear HZ' hy ek
        go_wp2
        go_round
        case rel => exact ⟨k, by omega, by go_num, _, rfl, hS⟩
        case measure => simp [intOf]
  · have hz' : sizeOk s = false := by simpa using hz
    have e1 : getErr n a s = 2 := by unfold getErr; rw [if_neg hz]
    rw [hz'] at c1
    have C1 := Lib.hid c1
    rw [hzero (by omega), e1]
    clear c1 hz hz' e1 hzero
    go_enter Tryd.func73, Tryd.ntmps73
    go_wp2_with fail
    refine C1.out.mono ?_
    rintro e w' ⟨rfl, rfl⟩
    go_wp2
    go_ret2
    exact ⟨rfl, rfl⟩
end Go.Proofs.YtepkamkgodbffaaDoor

/-
  Contracts of the document's answers for layer 1 (refectoryref01): Pad, Put.
-/
namespace Go.Proofs.YtepkamkgodbffaaDoor
open Go.RowKit

/-- what the document's Pad answers -/
def RPadPost (w : World) (xs : List Int) (e : Ending) (w' : World) : Prop := ∃ v, e = .returned v ∧ Own w' w.heap.size v (padOf xs) ∧ Below w.heap.size w w'

/-- what the document's Put answers -/
def RPutPost (w : World) (n s : Int) (e : Ending) (w' : World) : Prop := ∃ v, e = .returned (.tuple #[v, .int .i64 (putErr n s)]) ∧ Own w' w.heap.size v (putOf n s) ∧ Below w.heap.size w w'

theorem le_snoc (n : Int) (k : Nat) : le n (k + 1) = le n k ++ [n / 256 ^ k % 256] := by
  have hk : k < (le n (k + 1)).length := by rw [le_length]; omega
  have h1 := List.take_succ_eq_append_getElem hk
  rw [le_getElem n (k + 1) k (by omega) hk, List.take_of_length_le (by rw [le_length]; omega)] at h1
  rw [h1]
  congr 1
  clear h1 hk
  induction k generalizing n with
  | zero => rfl
  | succ k ih => rw [show le n (k + 1 + 1) = n % 256 :: le (n / 256) (k + 1) from rfl, List.take_succ_cons, ih]; rfl

set_option maxHeartbeats 400000 in
theorem RPut_any (w : World) (n s : Int) (hn : 0 ≤ n ∧ n ≤ 18446744073709551615) :
    Calls Tryd.prog 62 #[.int .u64 n, .int .i64 s] w (RPutPost w n s) := by
  have c1 := RSize_any w s
  obtain ⟨hn0, hn1⟩ := hn
  by_cases hz : sizeOk s = true
  · have hs8 : 1 ≤ s ∧ s ≤ 8 := by rcases sizeOk_cases hz with e | e | e | e <;> omega
    obtain ⟨hs1, hs8⟩ := hs8
    obtain ⟨j, rfl⟩ := Int.eq_ofNat_of_zero_le (show 0 ≤ s by omega)
    have hq0 : n / 256 ^ j = 0 → ∀ e w', (∃ v, e = .returned (.tuple #[v, .int .i64 0]) ∧ Own w' w.heap.size v (le n j) ∧ Below w.heap.size w w') → RPutPost w n j e w' := by
      intro h0 e w' hh
      have hp : putOk n j = true := by
        have := putOk_at n j (256 ^ j) hz rfl hn0 (Int.pow_pos (by omega))
        rw [← this, h0]; rfl
      unfold RPutPost putErr putOf
      rw [if_pos hp, if_pos hp, Int.toNat_natCast]
      exact hh
    have hq1 : 0 < n / 256 ^ j → ∀ e w', (∃ v, e = .returned (.tuple #[v, .int .i64 2]) ∧ Own w' w.heap.size v [] ∧ Below w.heap.size w w') → RPutPost w n j e w' := by
      intro h0 e w' hh
      have hp : ¬ putOk n j = true := by
        have := putOk_at n j (256 ^ j) hz rfl hn0 (Int.pow_pos (by omega))
        rw [← this, beq_iff_eq]; omega
      unfold RPutPost putErr putOf
      rw [if_neg hp, if_neg hp]
      exact hh
    rw [hz] at c1
    have C1 := Lib.hid c1
    have HQ0 := Lib.hid hq0
    have HQ1 := Lib.hid hq1
    clear c1 hz hq0 hq1
    go_enter Tryd.func62, Tryd.ntmps62
    go_wp2_with fail
    refine C1.out.mono ?_
    rintro e w' ⟨rfl, rfl⟩
    go_wp2_with fail
    go_loopw [0, 6, 7] (fun nv v i wr => ∃ k : Nat, k ≤ j ∧ i = .int .i64 k ∧ ∃ z, nv = .int .u64 z ∧ Hid (z = n / 256 ^ k) ∧ 0 ≤ z ∧ z ≤ 18446744073709551615 ∧ Hid (Own wr w.heap.size v (le n k)) ∧ Below w.heap.size w wr) (fun _ _ i _ => j - (intOf i).toNat)
    case atStart => exact ⟨0, Nat.zero_le _, rfl, n, rfl, by show n = _; simp, hn0, hn1, Own.nil _ _, Below.refl _ _⟩
    case round =>
      obtain ⟨k, hk, rfl, z, rfl, HZ, hz0, hz1, HO, hb⟩ := hrel
      by_cases hlt : k < j
      · have hm := Int.emod_nonneg z (show (256 : Int) ≠ 0 by omega)
        have hm2 := Int.emod_lt_of_pos z (show (0 : Int) < 256 by omega)
        have hlen : (le n k).length + [z % 256].length ≤ 140737488355328 := by rw [le_length]; simp; omega
        have hbs := hb.size
        have hS1 : Hid (z / 256 = n / 256 ^ (k + 1)) := by
          show _ = _
          rw [HZ.out, Int.pow_succ, Int.ediv_ediv_of_nonneg (Int.le_of_lt (Int.pow_pos (by omega)))]
        have hS2 : Hid (le n k ++ [z % 256] = le n (k + 1)) := by
          show _ = _
          rw [le_snoc, HZ.out]
        go_wp2_with (at_builtin; refine wpList_append_bytes rfl (.tmp 16) (.tmp 20) rfl w.heap.size _ _ rfl (HO.out.alloc _) _ _ 1 1 [z % 256] rfl (Holds.single wr (z % 256) (by omega)) hlen (by simp; omega) ?_; intro v2 w2 ho2 hb2 hgr)
        have ho := ho2.out
        rw [hS2.out] at ho
        go_roundw
        case rel => exact ⟨k + 1, by omega, by go_num, _, rfl, hS1, by omega, by omega, ho, (hb.alloc hb.size _).trans hb2⟩
        case measure => simp [intOf]; omega
      · obtain rfl : k = j := by omega
        by_cases h0 : 0 < z
        · have hS := HQ1.out (by rw [← HZ.out]; exact h0)
          have HS := Lib.hid hS
          clear hS HZ HO
          go_wp2
          go_ret2
          exact HS.out _ _ ⟨_, rfl, Own.nil _ _, hb⟩
        · have hS := HQ0.out (by rw [← HZ.out]; omega)
          have HS := Lib.hid hS
          clear hS HZ
          go_wp2
          go_ret2
          exact HS.out _ _ ⟨_, rfl, HO.out, hb⟩
  · have hz' : sizeOk s = false := by simpa using hz
    have hp : ¬ putOk n s = true := by unfold putOk; rw [hz']; simp
    have hq : ∀ e w', (∃ v, e = .returned (.tuple #[v, .int .i64 2]) ∧ Own w' w.heap.size v [] ∧ Below w.heap.size w w') → RPutPost w n s e w' := by
      intro e w' hh
      unfold RPutPost putErr putOf
      rw [if_neg hp, if_neg hp]
      exact hh
    have HQ := Lib.hid hq
    rw [hz'] at c1
    have C1 := Lib.hid c1
    clear c1 hz hz' hp hq
    go_enter Tryd.func62, Tryd.ntmps62
    go_wp2_with fail
    refine C1.out.mono ?_
    rintro e w' ⟨rfl, rfl⟩
    go_wp2
    go_ret2
    exact HQ.out _ _ ⟨_, rfl, Own.nil _ _, Below.refl _ _⟩
end Go.Proofs.YtepkamkgodbffaaDoor

/-
  Contracts of the document's answer for layer 8 (refectoryref08): PutRow, GetRow, PutText, GetText, Lay, Known.
-/
namespace Go.Proofs.YtepkamkgodbffaaDoor
open Go.RowKit
set_option linter.unusedVariables false

def knownT (c : Int) : Bool := decide (c ≤ 4) || c == 13

theorem RKnownT_any (w : World) (c : Int) : Calls Tryd.prog 42 #[.int .u16 c] w fun e w' => e = .returned (.bool (knownT c)) ∧ w = w' := by
  by_cases h : c ≤ 4
  · have e : knownT c = true := by unfold knownT; rw [decide_eq_true h]; rfl
    rw [e]
    clear e
    go_enter Tryd.func42, Tryd.ntmps42
    go_wp2
    go_ret
    exact ⟨rfl, rfl⟩
  · have e : knownT c = (c == 13) := by unfold knownT; rw [decide_eq_false h]; rfl
    rw [e]
    clear e
    go_enter Tryd.func42, Tryd.ntmps42
    go_wp2
    go_ret
    exact ⟨rfl, rfl⟩

/-- what Lay answers: a number behind others -/
def LayTPost (w : World) (base : Nat) (xs : List Int) (n s : Int) (e : Ending) (w' : World) : Prop := ∃ v, e = .returned v ∧ Own w' base v (xs ++ putOf n s) ∧ Below base w w'

set_option maxHeartbeats 400000 in
theorem LayT_any (w : World) (base : Nat) (v : Value) (xs : List Int) (n s : Int) (hn : 0 ≤ n ∧ n ≤ 18446744073709551615) (ho : Own w base v xs) (hxl : xs.length ≤ 1000000) (hps : (putOf n s).length ≤ 8) (hpb : Bytes (putOf n s)) (hb : base ≤ w.heap.size) :
    Calls Tryd.prog 43 #[v, .int .u64 n, .int .i64 s] w (LayTPost w base xs n s) := by
  have C1 := Lib.hid (RPut_any w n s hn)
  have HO := Lib.hid ho
  have HQ : Hid (∀ e w', (∃ v, e = .returned v ∧ Own w' base v (xs ++ putOf n s) ∧ Below base w w') → LayTPost w base xs n s e w') := fun _ _ hh => hh
  have HPB := Lib.hid hpb
  obtain ⟨A0, c0, hv0⟩ := ho.len
  obtain ⟨ys, hys⟩ : ∃ ys, ys = putOf n s := ⟨_, rfl⟩
  unfold RPutPost at C1
  rw [← hys] at C1 HQ hps HPB
  have hlen : xs.length + ys.length ≤ 140737488355328 := by omega
  clear hys hn hpb ho
  subst hv0
  go_enter Tryd.func43, Tryd.ntmps43
  go_wp2_with fail
  refine C1.out.mono ?_
  rintro e w1 ⟨x, rfl, hx, L1⟩
  obtain ⟨A1, c1, rfl, hh⟩ := hx.holds HPB.out (by omega)
  have HO1 := HO.out.below L1
  have hs1 := L1.size
  obtain ⟨m, hm⟩ : ∃ m, m = ys.length := ⟨_, rfl⟩
  rw [← hm] at hh ⊢
  have HH := Lib.hid hh
  obtain ⟨m0, hm0⟩ : ∃ m, m = xs.length := ⟨_, rfl⟩
  have HO1' := Lib.hid HO1
  have HLEN := Lib.hid hlen
  rw [← hm0] at HO1' ⊢
  clear hm hm0 hh hx HO HO1 hlen
  go_wp2_with (at_builtin; refine wpList_append_bytes rfl (.tmp 15) (.tmp 16) rfl base _ xs rfl HO1'.out _ A1 m c1 ys rfl HH.out HLEN.out (by omega) ?_; intro v2 w2 ho2 hb2 hgr)
  go_ret
  exact HQ.out _ _ ⟨_, rfl, ho2.out, (L1.mono hb).trans hb2⟩

/-- what PutRow answers -/
def RowPost (w : World) (xs : List Int) (e : Ending) (w' : World) : Prop := ∃ v, e = .returned (.tuple #[v, .int .i64 (rowErr xs.length)]) ∧ Own w' w.heap.size v (rowOf xs) ∧ Below w.heap.size w w'

set_option maxHeartbeats 400000 in
theorem RPutRow_any (w : World) (A : Option Addr) (n c : Nat) (xs : List Int) (h : Holds w w.heap.size A n c xs) :
    Calls Tryd.prog 30 #[.slice A n c] w (RowPost w xs) := by
  have hl := h.len
  have hr := h.room
  by_cases hn : n ≤ 65535
  · have e0 : putOf (n : Int) 2 = le n 2 := by
      unfold putOf putOk
      rw [show sizeOk 2 = true from rfl, show ((2 : Int).toNat) = 2 from rfl, show (256 : Int) ^ 2 = 65536 from by decide, decide_eq_true (by omega : (n : Int) < 65536)]
      rfl
    have HQ : Hid (∀ e w', (∃ v, e = .returned (.tuple #[v, .int .i64 0]) ∧ Own w' w.heap.size v (le n 2 ++ xs) ∧ Below w.heap.size w w') → RowPost w xs e w') := by
      intro e w' hh
      unfold RowPost rowErr rowOf
      rw [hl, if_pos hn, if_pos hn]
      exact hh
    have C1 := RPut_any w (n : Int) 2 (by omega)
    unfold RPutPost at C1
    rw [e0] at C1
    have hle := le_length (n : Int) 2
    obtain ⟨ls, hls⟩ : ∃ ls, ls = le (n : Int) 2 := ⟨_, rfl⟩
    obtain ⟨er, her⟩ : ∃ er, er = putErr (n : Int) 2 := ⟨_, rfl⟩
    rw [← hls] at C1 HQ hle
    rw [← her] at C1
    have C1' := Lib.hid C1
    have HX := Lib.hid h
    have HLEN : Hid (ls.length + xs.length ≤ 140737488355328) := by show _ ≤ _; omega
    have hz : IntKind.u64.wrap (n : Int) = n := by rw [IntKind.wrap_u64]; omega
    clear C1 hls her e0 hl h hle
    go_enter Tryd.func30, Tryd.ntmps30
    go_wp2_with fail
    refine C1'.out.mono ?_
    rintro e w1 ⟨x, rfl, hx, L1⟩
    obtain ⟨A1, c1, rfl⟩ := hx.len
    have HO := Lib.hid hx
    have HX1 := Lib.hid (HX.out.below L1)
    have hs1 := L1.size
    have L1' := Lib.hid L1
    clear hx C1' L1
    go_wp2_with (at_builtin; refine wpList_append_bytes rfl (.tmp 16) (.tmp 17) rfl w.heap.size _ ls rfl HO.out w.heap.size A n c xs rfl HX1.out HLEN.out hs1 ?_; intro v2 w2 ho2 hb2 hgr)
    go_ret2
    exact HQ.out _ _ ⟨_, rfl, ho2.out, L1'.out.trans hb2⟩
  · have HQ : Hid (∀ e w', (∃ v, e = .returned (.tuple #[v, .int .i64 3]) ∧ Own w' w.heap.size v [] ∧ Below w.heap.size w w') → RowPost w xs e w') := by
      intro e w' hh
      unfold RowPost rowErr rowOf
      rw [hl, if_neg hn, if_neg hn]
      exact hh
    clear h hl
    go_enter Tryd.func30, Tryd.ntmps30
    go_wp2
    go_ret2
    exact HQ.out _ _ ⟨_, rfl, Own.nil _ _, Below.refl _ _⟩

/-- what PutText answers -/
def PTextPost (w : World) (l : List UInt8) (e : Ending) (w' : World) : Prop := ∃ v, e = .returned (.tuple #[v, .int .i64 (ptextErr l)]) ∧ Own w' w.heap.size v (ptextOf l) ∧ Below w.heap.size w w'

set_option maxHeartbeats 400000 in
theorem RPutText_any (s : ByteArray) (w : World) (hs : s.size ≤ 4398046511104) :
    Calls Tryd.prog 36 #[.string s] w (PTextPost w s.data.toList) := by
  have C1 := TRPut_any s w hs
  unfold TRPutPost at C1
  obtain ⟨l, hl⟩ : ∃ l, l = s.data.toList := ⟨_, rfl⟩
  rw [← hl] at C1 ⊢
  have hlen : (putOfL l).length ≤ 4 * s.size := by
    rw [hl]
    have := putOfL_length s.data.toList
    have := unitsOfL_le s.data.toList
    have e : s.data.toList.length = s.size := by rw [Array.length_toList]; rfl
    omega
  have hby : Bytes (putOfL l) := putOfL_byte l
  have HBY := Lib.hid hby
  by_cases ht : textErr l = 0
  · by_cases hm : (putOfL l).length ≤ 512
    · have HQ : Hid (∀ e w', (∃ v, e = .returned (.tuple #[v, .int .i64 (rowErr (putOfL l).length)]) ∧ Own w' w.heap.size v (rowOf (putOfL l)) ∧ Below w.heap.size w w') → PTextPost w l e w') := by
        intro e w' hh
        have e0 : ptextErr l = 0 := by unfold ptextErr; rw [if_pos ht, if_pos hm]
        unfold PTextPost ptextOf
        rw [e0, if_pos rfl]
        unfold rowErr at hh
        rwa [if_pos (by omega : (putOfL l).length ≤ 65535)] at hh
      have CR : Hid (∀ (w : World) (A : Option Addr) (n c : Nat), Holds w w.heap.size A n c (putOfL l) → Calls Tryd.prog 30 #[.slice A n c] w (RowPost w (putOfL l))) := fun w A n c hh => RPutRow_any w A n c _ hh
      rw [ht] at C1
      unfold RowPost at CR
      obtain ⟨ps, hps⟩ : ∃ ps, ps = putOfL l := ⟨_, rfl⟩
      rw [← hps] at C1 HQ CR hm HBY hlen
      obtain ⟨m, hml⟩ : ∃ m, m = ps.length := ⟨_, rfl⟩
      rw [← hml] at hm hlen HQ CR
      have HM : Hid (ps.length = m) := hml.symm
      have C1' := Lib.hid C1
      clear C1 hl ht hps hml hby
      go_enter Tryd.func36, Tryd.ntmps36
      go_wp2_with fail
      refine C1'.out.mono ?_
      rintro e w1 ⟨x, rfl, hx, L1⟩
      obtain ⟨A1, c1, rfl, hh⟩ := Own.holds (w := w1) (base := w.heap.size) (v := x) (xs := ps) hx HBY.out (by have := HM.out; omega)
      rw [HM.out] at hh ⊢
      have HH := Lib.hid hh
      have L1' := Lib.hid L1
      clear hx C1' L1 hh
      go_wp2_with fail
      refine (CR.out w1 A1 m c1 HH.out).mono ?_
      rintro e w2 ⟨v, rfl, ho, L2⟩
      go_wp2
      go_ret2
      exact HQ.out _ _ ⟨_, rfl, ho.mono L1'.out.size, step L1'.out L2⟩
    · have HQ : Hid (∀ e w', (∃ v, e = .returned (.tuple #[v, .int .i64 3]) ∧ Own w' w.heap.size v [] ∧ Below w.heap.size w w') → PTextPost w l e w') := by
        intro e w' hh
        have e0 : ptextErr l = 3 := by unfold ptextErr; rw [if_pos ht, if_neg hm]
        unfold PTextPost ptextOf
        rw [e0, if_neg (by decide)]
        exact hh
      rw [ht] at C1
      obtain ⟨ps, hps⟩ : ∃ ps, ps = putOfL l := ⟨_, rfl⟩
      rw [← hps] at C1 hm HBY hlen
      obtain ⟨m, hml⟩ : ∃ m, m = ps.length := ⟨_, rfl⟩
      rw [← hml] at hm hlen
      have HM : Hid (ps.length = m) := hml.symm
      have C1' := Lib.hid C1
      clear C1 hl ht hps hml hby
      go_enter Tryd.func36, Tryd.ntmps36
      go_wp2_with fail
      refine C1'.out.mono ?_
      rintro e w1 ⟨x, rfl, hx, L1⟩
      obtain ⟨A1, c1, rfl, hh⟩ := Own.holds (w := w1) (base := w.heap.size) (v := x) (xs := ps) hx HBY.out (by have := HM.out; omega)
      rw [HM.out] at ⊢
      have L1' := Lib.hid L1
      clear hx C1' L1 hh
      go_wp2
      go_ret2
      exact HQ.out _ _ ⟨_, rfl, Own.nil _ _, L1'.out⟩
  · have HQ : Hid (∀ e w', (∃ v, e = .returned (.tuple #[v, .int .i64 (textErr l)]) ∧ Own w' w.heap.size v [] ∧ Below w.heap.size w w') → PTextPost w l e w') := by
      intro e w' hh
      have e0 : ptextErr l = textErr l := by unfold ptextErr; rw [if_neg ht]
      unfold PTextPost ptextOf
      rw [e0, if_neg ht]
      exact hh
    obtain ⟨er, her⟩ : ∃ er, er = textErr l := ⟨_, rfl⟩
    rw [← her] at C1 HQ ht
    have C1' := Lib.hid C1
    clear C1 hl her hby hlen
    go_enter Tryd.func36, Tryd.ntmps36
    go_wp2_with fail
    refine C1'.out.mono ?_
    rintro e w1 ⟨x, rfl, hx, L1⟩
    go_wp2
    go_ret2
    exact HQ.out _ _ ⟨_, rfl, Own.nil _ _, L1⟩
end Go.Proofs.YtepkamkgodbffaaDoor

/-
  Contracts of the program's askBeside, sayBeside: an Ask, a Say without what a command's row names (written by tools/gen_beside.py).
-/
namespace Go.Proofs.YtepkamkgodbffaaDoor
open Go.RowKit
set_option linter.unusedVariables false
set_option maxRecDepth 100000

theorem results_cell_two {P : Program} {fn : Func} {p q : Tmp} {ty : TypeId} (h : fn.results = #[.cell p ty, .tmp q]) (tmps : Array Value) (w : World) (g : Nat) (t : TypeId) (cs : Array Value) (fr : Nat × Nat) (d : TypeDesc)
    (hp : tmps.getD p undef = .pointer (some ⟨g, 0, none⟩)) (hg : w.heap[g]? = some (.cells cs t fr))
    (hu : P.underlying ty = some d) (hd : (match d with | .struct _ | .array _ _ => true | _ => false) = true) (hi : (P.info? ty).map (·.size) = some cs.size) {v : Value} (hv : tmps.getD q undef = v) :
    (results fn tmps).run P w = .ok (.tuple #[.agg cs, v]) w := by
  have hp' : tmps[p]?.getD undef = .pointer (some ⟨g, 0, none⟩) := by simpa using hp
  have hv' : tmps[q]?.getD undef = v := by simpa using hv
  simp [results, h, hp', hv', asAddr, run_loadVar_row w g t ty cs fr d hg hu hd hi]

def besideAsk (c : Int) (a : AskV) : AskV := if c = 0 then { a with dial := [], guid := List.replicate 16 0 } else if c = 1 then { a with proof := List.replicate 32 0, user := .empty } else if c = 3 then { a with share := .empty } else a
def besideSay (c : Int) (s : SayV) : SayV := if c = 0 then { s with dia := 0, siz := 0, chal := List.replicate 8 0 } else s
theorem besideAsk_ok {c : Int} {a : AskV} (k : a.ok) : (besideAsk c a).ok := by
  unfold besideAsk
  split
  · exact ⟨fun x h => (by cases h), rfl, Bytes.zeros 16, k.plen, k.pbyte, k.acc, k.shr, k.way, k.opt, k.lev, k.dur, k.file, k.at_, k.n, k.data, k.locks, k.most, k.cls, k.siz⟩
  · split
    · exact ⟨k.dial, k.glen, k.gbyte, rfl, Bytes.zeros 32, k.acc, k.shr, k.way, k.opt, k.lev, k.dur, k.file, k.at_, k.n, k.data, k.locks, k.most, k.cls, k.siz⟩
    · split
      · exact ⟨k.dial, k.glen, k.gbyte, k.plen, k.pbyte, k.acc, k.shr, k.way, k.opt, k.lev, k.dur, k.file, k.at_, k.n, k.data, k.locks, k.most, k.cls, k.siz⟩
      · exact k
theorem besideSay_ok {c : Int} {s : SayV} (k : s.ok) : (besideSay c s).ok := by
  unfold besideSay
  split
  · exact ⟨by show (0 : Int) ≤ 0 ∧ (0 : Int) ≤ 65535; decide, by show (0 : Int) ≤ 0 ∧ (0 : Int) ≤ 18446744073709551615; decide, rfl, Bytes.zeros 8, k.lev, k.dur, k.made, k.file, k.kind, k.data, k.n, k.ents⟩
  · exact k

section
variable {vd vx vl ve : Value} {a : AskV} {s : SayV}
theorem acells_dial (u : Value) (xs : List Int) : (acells vd vx vl a).set 0 u = acells u vx vl { a with dial := xs } := rfl
theorem acells_guidS (k : a.ok) (xs : List Int) : (acells vd vx vl a).take 1 ++ (xs.map (Value.int .u8) ++ (acells vd vx vl a).drop (1 + 16)) = acells vd vx vl { a with guid := xs } := by
  unfold acells
  rw [show 1 + 16 = 16 + 1 from rfl, List.drop_succ_cons, List.drop_left' (by rw [List.length_map]; exact k.glen)]
  rfl
theorem acells_proofS (k : a.ok) (xs : List Int) : (acells vd vx vl a).take 17 ++ (xs.map (Value.int .u8) ++ (acells vd vx vl a).drop (17 + 32)) = acells vd vx vl { a with proof := xs } := by
  unfold acells
  rw [show 17 + 32 = 48 + 1 from rfl, List.drop_succ_cons, show 17 = 16 + 1 from rfl, List.take_succ_cons, List.take_left' (by rw [List.length_map]; exact k.glen), show 48 = 16 + 32 from rfl, ← List.drop_drop, List.drop_left' (by rw [List.length_map]; exact k.glen), List.drop_left' (by rw [List.length_map]; exact k.plen)]
  simp [atail]
theorem acells_user (k : a.ok) (u : ByteArray) : (acells vd vx vl a).set 49 (.string u) = acells vd vx vl { a with user := u } := (acells_set k 0 (.string u)).trans rfl
theorem acells_share (k : a.ok) (u : ByteArray) : (acells vd vx vl a).set 50 (.string u) = acells vd vx vl { a with share := u } := (acells_set k 1 (.string u)).trans rfl
theorem scells_dia (x : Int) : (scells vx ve s).set 0 (.int .u16 x) = scells vx ve { s with dia := x } := rfl
theorem scells_siz (x : Int) : (scells vx ve s).set 1 (.int .u64 x) = scells vx ve { s with siz := x } := rfl
theorem scells_chalS (k : s.ok) (xs : List Int) : (scells vx ve s).take 2 ++ (xs.map (Value.int .u8) ++ (scells vx ve s).drop (2 + 8)) = scells vx ve { s with chal := xs } := by
  unfold scells
  rw [show 2 + 8 = 8 + 1 + 1 from rfl, List.drop_succ_cons, List.drop_succ_cons, List.drop_left' (by rw [List.length_map]; exact k.clen)]
  rfl
end
def askBesidePost (w : World) (c : Int) (a : AskV) (e : Ending) (w' : World) : Prop := ∃ ds, e = .returned (.tuple #[.agg ds.toArray, .bool (knownT c)]) ∧ AskIs w' w'.heap.size ds (if knownT c = true then besideAsk c a else zeroAsk) ∧ Below w.heap.size w w'
set_option maxHeartbeats 4000000 in
theorem askBeside_any (w : World) (c : Int) (cs : List Value) (a : AskV) (hc : 0 ≤ c ∧ c ≤ 65535) (ka : a.ok) (ha : AskIs w w.heap.size cs a) :
    Calls Tryd.prog 38 #[.int .u16 c, .agg cs.toArray] w (askBesidePost w c a) := by
  have HL := Lib.hid (ha.len ka)
  have HO1 := Lib.hid ha.one
  have ZH := Lib.hid zero_ask
  have BZ := built_ask
  have HZ : Hid ((acells (.slice none 0 0) (.slice none 0 0) (.slice none 0 0) zeroAsk).length = 69) := acells_len zeroAsk_ok
  have HZ1 : Hid (∀ v ∈ acells (.slice none 0 0) (.slice none 0 0) (.slice none 0 0) zeroAsk, v.oneCell' = true) := (zeroAsk_is w 0).one
  have HA := Lib.hid ha
  have HQ : Hid (∀ e w', (∃ ds, e = .returned (.tuple #[.agg ds.toArray, .bool (knownT c)]) ∧ AskIs w' w'.heap.size ds (if knownT c = true then besideAsk c a else zeroAsk) ∧ Below w.heap.size w w') → askBesidePost w c a e w') := fun _ _ h => h
  obtain ⟨zs, hzs⟩ : ∃ zs, zs = acells (.slice none 0 0) (.slice none 0 0) (.slice none 0 0) zeroAsk := ⟨_, rfl⟩
  have HZI : Hid (∀ w' : World, AskIs w' w'.heap.size zs zeroAsk) := by rw [hzs]; exact fun w' => zeroAsk_is w' _
  rw [← hzs] at ZH BZ HZ HZ1
  clear hzs
  by_cases h0 : c = 0
  · subst h0
    have e0 : (if knownT 0 = true then besideAsk 0 a else zeroAsk) = { a with dial := [], guid := List.replicate 16 0 } := rfl
    rw [e0, show knownT 0 = true from rfl] at HQ
    clear e0
    obtain ⟨A1, A2, A3, X1, X2, X3, M1, M2, M3, rfl, hA, hX, hM⟩ := ha
    have HI : Hid (∀ w' : World, Below w.heap.size w w' → AskIs w' w'.heap.size (acells (.slice none 0 0) (.slice X1 X2 X3) (.slice M1 M2 M3) { a with dial := [], guid := List.replicate 16 0 }) ({ a with dial := [], guid := List.replicate 16 0 })) := fun w' hb => ⟨none, 0, 0, X1, X2, X3, M1, M2, M3, rfl, HoldsF.nil _ _ _, hX.over hb, hM.over hb⟩
    have HN : Hid ((acells (.slice none 0 0) (.slice X1 X2 X3) (.slice M1 M2 M3) { a with dial := [], guid := List.replicate 16 0 }).length = 69) := acells_len (by have := besideAsk_ok (c := 0) ka; exact this)
    have HN1 : Hid (∀ v ∈ acells (.slice none 0 0) (.slice X1 X2 X3) (.slice M1 M2 M3) { a with dial := [], guid := List.replicate 16 0 }, v.oneCell' = true) := acells_one rfl rfl rfl
    have HE0 : Hid ((acells (.slice A1 A2 A3) (.slice X1 X2 X3) (.slice M1 M2 M3) a).set 0 (.slice none 0 0) = acells (.slice none 0 0) (.slice X1 X2 X3) (.slice M1 M2 M3) { a with dial := [] }) := acells_dial _ []
    have HE1 : Hid ((acells (.slice none 0 0) (.slice X1 X2 X3) (.slice M1 M2 M3) { a with dial := [] }).take 1 ++ ((List.replicate 16 (0 : Int)).map (Value.int .u8) ++ (acells (.slice none 0 0) (.slice X1 X2 X3) (.slice M1 M2 M3) { a with dial := [] }).drop (1 + 16)) = acells (.slice none 0 0) (.slice X1 X2 X3) (.slice M1 M2 M3) { a with dial := [], guid := List.replicate 16 0 }) := acells_guidS (a := { a with dial := [] }) ⟨fun x h => (by cases h), ka.glen, ka.gbyte, ka.plen, ka.pbyte, ka.acc, ka.shr, ka.way, ka.opt, ka.lev, ka.dur, ka.file, ka.at_, ka.n, ka.data, ka.locks, ka.most, ka.cls, ka.siz⟩ (List.replicate 16 0)
    have HN0 : Hid (0 < (acells (.slice A1 A2 A3) (.slice X1 X2 X3) (.slice M1 M2 M3) a).length) := by show _ < _; simp [acells, atail, ka.glen, ka.plen]
    have HF : Hid (1 + 16 ≤ (acells (.slice none 0 0) (.slice X1 X2 X3) (.slice M1 M2 M3) { a with dial := [] }).length) := by show _ ≤ _; simp [acells, atail, ka.glen, ka.plen]
    have HLZ : Hid (((List.replicate 16 (0 : Int)).map (Value.int .u8)).length = 16) := by show _ = _; simp
    have OZ : Hid (∀ v ∈ (List.replicate 16 (0 : Int)).map (Value.int .u8), v.oneCell' = true) := fun v hv => mem_nums hv
    have BL := built_guid
    obtain ⟨lz, hlz⟩ : ∃ z, z = (List.replicate 16 (0 : Int)).map (Value.int .u8) := ⟨_, rfl⟩
    rw [← hlz] at HLZ OZ BL HE1
    clear hlz
    obtain ⟨cs, hcs⟩ : ∃ c, c = acells (.slice A1 A2 A3) (.slice X1 X2 X3) (.slice M1 M2 M3) a := ⟨_, rfl⟩
    rw [← hcs] at HL HO1 HE0 HN0 ⊢
    clear hcs HA hA hX hM
    obtain ⟨d0, hd0⟩ : ∃ c, c = acells (.slice none 0 0) (.slice X1 X2 X3) (.slice M1 M2 M3) { a with dial := [] } := ⟨_, rfl⟩
    rw [← hd0] at HE0 HE1 HF
    clear hd0
    obtain ⟨d1, hd1⟩ : ∃ c, c = acells (.slice none 0 0) (.slice X1 X2 X3) (.slice M1 M2 M3) { a with dial := [], guid := List.replicate 16 0 } := ⟨_, rfl⟩
    rw [← hd1] at HE1 HI HN HN1
    clear hd1
    go_enter Tryd.func38, Tryd.ntmps38
    go_wp2_with (first
      | ((with_reducible show wpList _ _ _ (⟨some 3, _, _, _, _, _⟩ :: _) _ _); refine wpList_box_blk rfl _ (.tmp 1) rfl cs rfl ?_; intro g w1 hg1 hg2 K1 L1)
      | ((with_reducible show wpList _ _ _ (⟨some 4, _, _, _, _, _⟩ :: _) _ _); refine wpList_alloc_blk rfl _ rfl zs _ ZH ?_; intro h w2 hg3 hg4 Z2 L02; have G2 := Lib.hid (K1.out.over L02.out); have L2 := Lib.hid (step L1.out L02.out); have hgh : g ≠ h := (by omega); have hhw : w.heap.size ≤ h := (by have := L1.out.size; omega))
      | ((with_reducible show wpList _ _ _ (⟨none, .store _ (.tmp 11) _, _, _, _, _⟩ :: _) _ _); refine wpList_store_fld rfl _ (.tmp 11) (.const (.slice none 0 0)) rfl g 0 rfl _ cs (.slice none 0 0) rfl G2 HN0 (by kernel_rfl) rfl ?_; intro w3 K3 O3 q3; rw [HE0.out] at K3; have Z3 := Lib.hid (Z2.out.only O3.out (Ne.symm hgh)); have L3 : Hid (Below w.heap.size w w3) := below_only L2.out O3.out hg1)
      | ((with_reducible show wpList _ _ _ (⟨none, .store _ (.tmp 12) _, _, _, _, _⟩ :: _) _ _); refine wpList_store_midb rfl _ (.tmp 12) (.tmp 10) rfl g 1 rfl _ d0 lz rfl K3 16 size_guid HLZ HF OZ ?_; intro w4 K4 O4 q4; rw [HE1.out] at K4; have Z4 := Lib.hid (Z3.out.only O4.out (Ne.symm hgh)); have L4 : Hid (Below w.heap.size w w4) := below_only L3.out O4.out hg1)
      | ((with_reducible show wpList _ _ _ (⟨some 10, _, _, _, _, _⟩ :: _) _ _); refine wpList_build_none rfl _ rfl lz BL ?_)
      | ((with_reducible show wpList _ _ _ (⟨some 25, _, _, _, _, _⟩ :: _) _ _); refine wpList_load_blk rfl _ (.tmp 3) rfl g rfl _ d1 K4 69 _ Tryd.underlying32 rfl size_ask HN ?_)
      | ((with_reducible show wpList _ _ _ (⟨none, .store _ (.tmp 4) _, _, _, _, _⟩ :: _) _ _); refine wpList_store_blk rfl _ (.tmp 4) (.tmp 25) rfl h rfl _ zs d1 rfl Z4 69 size_ask HZ HN HN1 ?_; intro w9 K9 O9 hg9)
      | fail)
    have L9 := Lib.hid (below_only L4.out O9.out hhw)
    refine bodyPost_ret (v := .tuple #[.agg d1.toArray, .bool true]) ?_ rfl (HQ.out _ _ ⟨_, rfl, HI.out w9 L9.out, L9.out⟩)
    exact results_cell_two rfl _ _ h _ _ (0, 0) _ rfl K9.out Tryd.underlying32 rfl (by rw [size_ask]; have := HN.out; simp [this]) rfl
  by_cases h1 : c = 1
  · subst h1
    have e0 : (if knownT 1 = true then besideAsk 1 a else zeroAsk) = { a with proof := List.replicate 32 0, user := .empty } := rfl
    rw [e0, show knownT 1 = true from rfl] at HQ
    clear e0
    obtain ⟨A1, A2, A3, X1, X2, X3, M1, M2, M3, rfl, hA, hX, hM⟩ := ha
    have HI : Hid (∀ w' : World, Below w.heap.size w w' → AskIs w' w'.heap.size (acells (.slice A1 A2 A3) (.slice X1 X2 X3) (.slice M1 M2 M3) { a with proof := List.replicate 32 0, user := .empty }) ({ a with proof := List.replicate 32 0, user := .empty })) := fun w' hb => ⟨A1, A2, A3, X1, X2, X3, M1, M2, M3, rfl, hA.over hb, hX.over hb, hM.over hb⟩
    have HN : Hid ((acells (.slice A1 A2 A3) (.slice X1 X2 X3) (.slice M1 M2 M3) { a with proof := List.replicate 32 0, user := .empty }).length = 69) := acells_len (by have := besideAsk_ok (c := 1) ka; exact this)
    have HN1 : Hid (∀ v ∈ acells (.slice A1 A2 A3) (.slice X1 X2 X3) (.slice M1 M2 M3) { a with proof := List.replicate 32 0, user := .empty }, v.oneCell' = true) := acells_one rfl rfl rfl
    have HE0 : Hid ((acells (.slice A1 A2 A3) (.slice X1 X2 X3) (.slice M1 M2 M3) a).take 17 ++ ((List.replicate 32 (0 : Int)).map (Value.int .u8) ++ (acells (.slice A1 A2 A3) (.slice X1 X2 X3) (.slice M1 M2 M3) a).drop (17 + 32)) = acells (.slice A1 A2 A3) (.slice X1 X2 X3) (.slice M1 M2 M3) { a with proof := List.replicate 32 0 }) := acells_proofS ka (List.replicate 32 0)
    have HE1 : Hid ((acells (.slice A1 A2 A3) (.slice X1 X2 X3) (.slice M1 M2 M3) { a with proof := List.replicate 32 0 }).set 49 (.string .empty) = acells (.slice A1 A2 A3) (.slice X1 X2 X3) (.slice M1 M2 M3) { a with proof := List.replicate 32 0, user := .empty }) := acells_user (a := { a with proof := List.replicate 32 0 }) ⟨ka.dial, ka.glen, ka.gbyte, rfl, Bytes.zeros 32, ka.acc, ka.shr, ka.way, ka.opt, ka.lev, ka.dur, ka.file, ka.at_, ka.n, ka.data, ka.locks, ka.most, ka.cls, ka.siz⟩ .empty
    have HF : Hid (17 + 32 ≤ (acells (.slice A1 A2 A3) (.slice X1 X2 X3) (.slice M1 M2 M3) a).length) := by show _ ≤ _; simp [acells, atail, ka.glen, ka.plen]
    have HN0 : Hid (49 < (acells (.slice A1 A2 A3) (.slice X1 X2 X3) (.slice M1 M2 M3) { a with proof := List.replicate 32 0 }).length) := by show _ < _; simp [acells, atail, ka.glen]
    have HLZ : Hid (((List.replicate 32 (0 : Int)).map (Value.int .u8)).length = 32) := by show _ = _; simp
    have OZ : Hid (∀ v ∈ (List.replicate 32 (0 : Int)).map (Value.int .u8), v.oneCell' = true) := fun v hv => mem_nums hv
    have BL := built_proof
    obtain ⟨lz, hlz⟩ : ∃ z, z = (List.replicate 32 (0 : Int)).map (Value.int .u8) := ⟨_, rfl⟩
    rw [← hlz] at HLZ OZ BL HE0
    clear hlz
    obtain ⟨cs, hcs⟩ : ∃ c, c = acells (.slice A1 A2 A3) (.slice X1 X2 X3) (.slice M1 M2 M3) a := ⟨_, rfl⟩
    rw [← hcs] at HL HO1 HE0 HF ⊢
    clear hcs HA hA hX hM
    obtain ⟨d0, hd0⟩ : ∃ c, c = acells (.slice A1 A2 A3) (.slice X1 X2 X3) (.slice M1 M2 M3) { a with proof := List.replicate 32 0 } := ⟨_, rfl⟩
    rw [← hd0] at HE0 HE1 HN0
    clear hd0
    obtain ⟨d1, hd1⟩ : ∃ c, c = acells (.slice A1 A2 A3) (.slice X1 X2 X3) (.slice M1 M2 M3) { a with proof := List.replicate 32 0, user := .empty } := ⟨_, rfl⟩
    rw [← hd1] at HE1 HI HN HN1
    clear hd1
    go_enter Tryd.func38, Tryd.ntmps38
    go_wp2_with (first
      | ((with_reducible show wpList _ _ _ (⟨some 3, _, _, _, _, _⟩ :: _) _ _); refine wpList_box_blk rfl _ (.tmp 1) rfl cs rfl ?_; intro g w1 hg1 hg2 K1 L1)
      | ((with_reducible show wpList _ _ _ (⟨some 4, _, _, _, _, _⟩ :: _) _ _); refine wpList_alloc_blk rfl _ rfl zs _ ZH ?_; intro h w2 hg3 hg4 Z2 L02; have G2 := Lib.hid (K1.out.over L02.out); have L2 := Lib.hid (step L1.out L02.out); have hgh : g ≠ h := (by omega); have hhw : w.heap.size ≤ h := (by have := L1.out.size; omega))
      | ((with_reducible show wpList _ _ _ (⟨none, .store _ (.tmp 16) _, _, _, _, _⟩ :: _) _ _); refine wpList_store_midb rfl _ (.tmp 16) (.tmp 15) rfl g 17 rfl _ cs lz rfl G2 32 size_proof HLZ HF OZ ?_; intro w3 K3 O3 q3; rw [HE0.out] at K3; have Z3 := Lib.hid (Z2.out.only O3.out (Ne.symm hgh)); have L3 : Hid (Below w.heap.size w w3) := below_only L2.out O3.out hg1)
      | ((with_reducible show wpList _ _ _ (⟨none, .store _ (.tmp 17) _, _, _, _, _⟩ :: _) _ _); refine wpList_store_fld rfl _ (.tmp 17) (.const (.string .empty)) rfl g 49 rfl _ d0 (.string .empty) rfl K3 HN0 (by kernel_rfl) rfl ?_; intro w4 K4 O4 q4; rw [HE1.out] at K4; have Z4 := Lib.hid (Z3.out.only O4.out (Ne.symm hgh)); have L4 : Hid (Below w.heap.size w w4) := below_only L3.out O4.out hg1)
      | ((with_reducible show wpList _ _ _ (⟨some 15, _, _, _, _, _⟩ :: _) _ _); refine wpList_build_none rfl _ rfl lz BL ?_)
      | ((with_reducible show wpList _ _ _ (⟨some 25, _, _, _, _, _⟩ :: _) _ _); refine wpList_load_blk rfl _ (.tmp 3) rfl g rfl _ d1 K4 69 _ Tryd.underlying32 rfl size_ask HN ?_)
      | ((with_reducible show wpList _ _ _ (⟨none, .store _ (.tmp 4) _, _, _, _, _⟩ :: _) _ _); refine wpList_store_blk rfl _ (.tmp 4) (.tmp 25) rfl h rfl _ zs d1 rfl Z4 69 size_ask HZ HN HN1 ?_; intro w9 K9 O9 hg9)
      | fail)
    have L9 := Lib.hid (below_only L4.out O9.out hhw)
    refine bodyPost_ret (v := .tuple #[.agg d1.toArray, .bool true]) ?_ rfl (HQ.out _ _ ⟨_, rfl, HI.out w9 L9.out, L9.out⟩)
    exact results_cell_two rfl _ _ h _ _ (0, 0) _ rfl K9.out Tryd.underlying32 rfl (by rw [size_ask]; have := HN.out; simp [this]) rfl
  by_cases h3 : c = 3
  · subst h3
    have e0 : (if knownT 3 = true then besideAsk 3 a else zeroAsk) = { a with share := .empty } := rfl
    rw [e0, show knownT 3 = true from rfl] at HQ
    clear e0
    obtain ⟨A1, A2, A3, X1, X2, X3, M1, M2, M3, rfl, hA, hX, hM⟩ := ha
    have HI : Hid (∀ w' : World, Below w.heap.size w w' → AskIs w' w'.heap.size (acells (.slice A1 A2 A3) (.slice X1 X2 X3) (.slice M1 M2 M3) { a with share := .empty }) ({ a with share := .empty })) := fun w' hb => ⟨A1, A2, A3, X1, X2, X3, M1, M2, M3, rfl, hA.over hb, hX.over hb, hM.over hb⟩
    have HN : Hid ((acells (.slice A1 A2 A3) (.slice X1 X2 X3) (.slice M1 M2 M3) { a with share := .empty }).length = 69) := acells_len (by have := besideAsk_ok (c := 3) ka; exact this)
    have HN1 : Hid (∀ v ∈ acells (.slice A1 A2 A3) (.slice X1 X2 X3) (.slice M1 M2 M3) { a with share := .empty }, v.oneCell' = true) := acells_one rfl rfl rfl
    have HE0 : Hid ((acells (.slice A1 A2 A3) (.slice X1 X2 X3) (.slice M1 M2 M3) a).set 50 (.string .empty) = acells (.slice A1 A2 A3) (.slice X1 X2 X3) (.slice M1 M2 M3) { a with share := .empty }) := acells_share ka .empty
    have HN0 : Hid (50 < (acells (.slice A1 A2 A3) (.slice X1 X2 X3) (.slice M1 M2 M3) a).length) := by show _ < _; simp [acells, atail, ka.glen, ka.plen]
    obtain ⟨cs, hcs⟩ : ∃ c, c = acells (.slice A1 A2 A3) (.slice X1 X2 X3) (.slice M1 M2 M3) a := ⟨_, rfl⟩
    rw [← hcs] at HL HO1 HE0 HN0 ⊢
    clear hcs HA hA hX hM
    obtain ⟨d0, hd0⟩ : ∃ c, c = acells (.slice A1 A2 A3) (.slice X1 X2 X3) (.slice M1 M2 M3) { a with share := .empty } := ⟨_, rfl⟩
    rw [← hd0] at HE0 HI HN HN1
    clear hd0
    go_enter Tryd.func38, Tryd.ntmps38
    go_wp2_with (first
      | ((with_reducible show wpList _ _ _ (⟨some 3, _, _, _, _, _⟩ :: _) _ _); refine wpList_box_blk rfl _ (.tmp 1) rfl cs rfl ?_; intro g w1 hg1 hg2 K1 L1)
      | ((with_reducible show wpList _ _ _ (⟨some 4, _, _, _, _, _⟩ :: _) _ _); refine wpList_alloc_blk rfl _ rfl zs _ ZH ?_; intro h w2 hg3 hg4 Z2 L02; have G2 := Lib.hid (K1.out.over L02.out); have L2 := Lib.hid (step L1.out L02.out); have hgh : g ≠ h := (by omega); have hhw : w.heap.size ≤ h := (by have := L1.out.size; omega))
      | ((with_reducible show wpList _ _ _ (⟨none, .store _ (.tmp 20) _, _, _, _, _⟩ :: _) _ _); refine wpList_store_fld rfl _ (.tmp 20) (.const (.string .empty)) rfl g 50 rfl _ cs (.string .empty) rfl G2 HN0 (by kernel_rfl) rfl ?_; intro w3 K3 O3 q3; rw [HE0.out] at K3; have Z3 := Lib.hid (Z2.out.only O3.out (Ne.symm hgh)); have L3 : Hid (Below w.heap.size w w3) := below_only L2.out O3.out hg1)
      | ((with_reducible show wpList _ _ _ (⟨some 25, _, _, _, _, _⟩ :: _) _ _); refine wpList_load_blk rfl _ (.tmp 3) rfl g rfl _ d0 K3 69 _ Tryd.underlying32 rfl size_ask HN ?_)
      | ((with_reducible show wpList _ _ _ (⟨none, .store _ (.tmp 4) _, _, _, _, _⟩ :: _) _ _); refine wpList_store_blk rfl _ (.tmp 4) (.tmp 25) rfl h rfl _ zs d0 rfl Z3 69 size_ask HZ HN HN1 ?_; intro w9 K9 O9 hg9)
      | fail)
    have L9 := Lib.hid (below_only L3.out O9.out hhw)
    refine bodyPost_ret (v := .tuple #[.agg d0.toArray, .bool true]) ?_ rfl (HQ.out _ _ ⟨_, rfl, HI.out w9 L9.out, L9.out⟩)
    exact results_cell_two rfl _ _ h _ _ (0, 0) _ rfl K9.out Tryd.underlying32 rfl (by rw [size_ask]; have := HN.out; simp [this]) rfl
  by_cases h2 : c = 2
  · subst h2
    have e0 : (if knownT 2 = true then besideAsk 2 a else zeroAsk) = a := rfl
    rw [e0, show knownT 2 = true from rfl] at HQ
    clear e0
    obtain ⟨A1, A2, A3, X1, X2, X3, M1, M2, M3, rfl, hA, hX, hM⟩ := ha
    have HI : Hid (∀ w' : World, Below w.heap.size w w' → AskIs w' w'.heap.size (acells (.slice A1 A2 A3) (.slice X1 X2 X3) (.slice M1 M2 M3) a) (a)) := fun w' hb => ⟨A1, A2, A3, X1, X2, X3, M1, M2, M3, rfl, hA.over hb, hX.over hb, hM.over hb⟩
    have HN : Hid ((acells (.slice A1 A2 A3) (.slice X1 X2 X3) (.slice M1 M2 M3) a).length = 69) := acells_len (ka)
    have HN1 : Hid (∀ v ∈ acells (.slice A1 A2 A3) (.slice X1 X2 X3) (.slice M1 M2 M3) a, v.oneCell' = true) := acells_one rfl rfl rfl
    obtain ⟨cs, hcs⟩ : ∃ c, c = acells (.slice A1 A2 A3) (.slice X1 X2 X3) (.slice M1 M2 M3) a := ⟨_, rfl⟩
    rw [← hcs] at HL HO1 HI HN HN1 ⊢
    clear hcs HA hA hX hM
    go_enter Tryd.func38, Tryd.ntmps38
    go_wp2_with (first
      | ((with_reducible show wpList _ _ _ (⟨some 3, _, _, _, _, _⟩ :: _) _ _); refine wpList_box_blk rfl _ (.tmp 1) rfl cs rfl ?_; intro g w1 hg1 hg2 K1 L1)
      | ((with_reducible show wpList _ _ _ (⟨some 4, _, _, _, _, _⟩ :: _) _ _); refine wpList_alloc_blk rfl _ rfl zs _ ZH ?_; intro h w2 hg3 hg4 Z2 L02; have G2 := Lib.hid (K1.out.over L02.out); have L2 := Lib.hid (step L1.out L02.out); have hgh : g ≠ h := (by omega); have hhw : w.heap.size ≤ h := (by have := L1.out.size; omega))
      | ((with_reducible show wpList _ _ _ (⟨some 25, _, _, _, _, _⟩ :: _) _ _); refine wpList_load_blk rfl _ (.tmp 3) rfl g rfl _ cs G2 69 _ Tryd.underlying32 rfl size_ask HN ?_)
      | ((with_reducible show wpList _ _ _ (⟨none, .store _ (.tmp 4) _, _, _, _, _⟩ :: _) _ _); refine wpList_store_blk rfl _ (.tmp 4) (.tmp 25) rfl h rfl _ zs cs rfl Z2 69 size_ask HZ HN HN1 ?_; intro w9 K9 O9 hg9)
      | fail)
    have L9 := Lib.hid (below_only L2.out O9.out hhw)
    refine bodyPost_ret (v := .tuple #[.agg cs.toArray, .bool true]) ?_ rfl (HQ.out _ _ ⟨_, rfl, HI.out w9 L9.out, L9.out⟩)
    exact results_cell_two rfl _ _ h _ _ (0, 0) _ rfl K9.out Tryd.underlying32 rfl (by rw [size_ask]; have := HN.out; simp [this]) rfl
  by_cases h4 : c = 4
  · subst h4
    have e0 : (if knownT 4 = true then besideAsk 4 a else zeroAsk) = a := rfl
    rw [e0, show knownT 4 = true from rfl] at HQ
    clear e0
    obtain ⟨A1, A2, A3, X1, X2, X3, M1, M2, M3, rfl, hA, hX, hM⟩ := ha
    have HI : Hid (∀ w' : World, Below w.heap.size w w' → AskIs w' w'.heap.size (acells (.slice A1 A2 A3) (.slice X1 X2 X3) (.slice M1 M2 M3) a) (a)) := fun w' hb => ⟨A1, A2, A3, X1, X2, X3, M1, M2, M3, rfl, hA.over hb, hX.over hb, hM.over hb⟩
    have HN : Hid ((acells (.slice A1 A2 A3) (.slice X1 X2 X3) (.slice M1 M2 M3) a).length = 69) := acells_len (ka)
    have HN1 : Hid (∀ v ∈ acells (.slice A1 A2 A3) (.slice X1 X2 X3) (.slice M1 M2 M3) a, v.oneCell' = true) := acells_one rfl rfl rfl
    obtain ⟨cs, hcs⟩ : ∃ c, c = acells (.slice A1 A2 A3) (.slice X1 X2 X3) (.slice M1 M2 M3) a := ⟨_, rfl⟩
    rw [← hcs] at HL HO1 HI HN HN1 ⊢
    clear hcs HA hA hX hM
    go_enter Tryd.func38, Tryd.ntmps38
    go_wp2_with (first
      | ((with_reducible show wpList _ _ _ (⟨some 3, _, _, _, _, _⟩ :: _) _ _); refine wpList_box_blk rfl _ (.tmp 1) rfl cs rfl ?_; intro g w1 hg1 hg2 K1 L1)
      | ((with_reducible show wpList _ _ _ (⟨some 4, _, _, _, _, _⟩ :: _) _ _); refine wpList_alloc_blk rfl _ rfl zs _ ZH ?_; intro h w2 hg3 hg4 Z2 L02; have G2 := Lib.hid (K1.out.over L02.out); have L2 := Lib.hid (step L1.out L02.out); have hgh : g ≠ h := (by omega); have hhw : w.heap.size ≤ h := (by have := L1.out.size; omega))
      | ((with_reducible show wpList _ _ _ (⟨some 25, _, _, _, _, _⟩ :: _) _ _); refine wpList_load_blk rfl _ (.tmp 3) rfl g rfl _ cs G2 69 _ Tryd.underlying32 rfl size_ask HN ?_)
      | ((with_reducible show wpList _ _ _ (⟨none, .store _ (.tmp 4) _, _, _, _, _⟩ :: _) _ _); refine wpList_store_blk rfl _ (.tmp 4) (.tmp 25) rfl h rfl _ zs cs rfl Z2 69 size_ask HZ HN HN1 ?_; intro w9 K9 O9 hg9)
      | fail)
    have L9 := Lib.hid (below_only L2.out O9.out hhw)
    refine bodyPost_ret (v := .tuple #[.agg cs.toArray, .bool true]) ?_ rfl (HQ.out _ _ ⟨_, rfl, HI.out w9 L9.out, L9.out⟩)
    exact results_cell_two rfl _ _ h _ _ (0, 0) _ rfl K9.out Tryd.underlying32 rfl (by rw [size_ask]; have := HN.out; simp [this]) rfl
  by_cases h13 : c = 13
  · subst h13
    have e0 : (if knownT 13 = true then besideAsk 13 a else zeroAsk) = a := rfl
    rw [e0, show knownT 13 = true from rfl] at HQ
    clear e0
    obtain ⟨A1, A2, A3, X1, X2, X3, M1, M2, M3, rfl, hA, hX, hM⟩ := ha
    have HI : Hid (∀ w' : World, Below w.heap.size w w' → AskIs w' w'.heap.size (acells (.slice A1 A2 A3) (.slice X1 X2 X3) (.slice M1 M2 M3) a) (a)) := fun w' hb => ⟨A1, A2, A3, X1, X2, X3, M1, M2, M3, rfl, hA.over hb, hX.over hb, hM.over hb⟩
    have HN : Hid ((acells (.slice A1 A2 A3) (.slice X1 X2 X3) (.slice M1 M2 M3) a).length = 69) := acells_len (ka)
    have HN1 : Hid (∀ v ∈ acells (.slice A1 A2 A3) (.slice X1 X2 X3) (.slice M1 M2 M3) a, v.oneCell' = true) := acells_one rfl rfl rfl
    obtain ⟨cs, hcs⟩ : ∃ c, c = acells (.slice A1 A2 A3) (.slice X1 X2 X3) (.slice M1 M2 M3) a := ⟨_, rfl⟩
    rw [← hcs] at HL HO1 HI HN HN1 ⊢
    clear hcs HA hA hX hM
    go_enter Tryd.func38, Tryd.ntmps38
    go_wp2_with (first
      | ((with_reducible show wpList _ _ _ (⟨some 3, _, _, _, _, _⟩ :: _) _ _); refine wpList_box_blk rfl _ (.tmp 1) rfl cs rfl ?_; intro g w1 hg1 hg2 K1 L1)
      | ((with_reducible show wpList _ _ _ (⟨some 4, _, _, _, _, _⟩ :: _) _ _); refine wpList_alloc_blk rfl _ rfl zs _ ZH ?_; intro h w2 hg3 hg4 Z2 L02; have G2 := Lib.hid (K1.out.over L02.out); have L2 := Lib.hid (step L1.out L02.out); have hgh : g ≠ h := (by omega); have hhw : w.heap.size ≤ h := (by have := L1.out.size; omega))
      | ((with_reducible show wpList _ _ _ (⟨some 25, _, _, _, _, _⟩ :: _) _ _); refine wpList_load_blk rfl _ (.tmp 3) rfl g rfl _ cs G2 69 _ Tryd.underlying32 rfl size_ask HN ?_)
      | ((with_reducible show wpList _ _ _ (⟨none, .store _ (.tmp 4) _, _, _, _, _⟩ :: _) _ _); refine wpList_store_blk rfl _ (.tmp 4) (.tmp 25) rfl h rfl _ zs cs rfl Z2 69 size_ask HZ HN HN1 ?_; intro w9 K9 O9 hg9)
      | fail)
    have L9 := Lib.hid (below_only L2.out O9.out hhw)
    refine bodyPost_ret (v := .tuple #[.agg cs.toArray, .bool true]) ?_ rfl (HQ.out _ _ ⟨_, rfl, HI.out w9 L9.out, L9.out⟩)
    exact results_cell_two rfl _ _ h _ _ (0, 0) _ rfl K9.out Tryd.underlying32 rfl (by rw [size_ask]; have := HN.out; simp [this]) rfl
  have hk : knownT c = false := by unfold knownT; simp; omega
  rw [if_neg (by rw [hk]; decide), hk] at HQ
  have b0 : (c == 0) = false := by simpa using h0
  have b1 : (c == 1) = false := by simpa using h1
  have b3 : (c == 3) = false := by simpa using h3
  have b2 : (c == 2) = false := by simpa using h2
  have b4 : (c == 4) = false := by simpa using h4
  have b13 : (c == 13) = false := by simpa using h13
  go_enter Tryd.func38, Tryd.ntmps38
  go_wp2_with (first
    | ((with_reducible show wpList _ _ _ (⟨some 3, _, _, _, _, _⟩ :: _) _ _); refine wpList_box_blk rfl _ (.tmp 1) rfl cs rfl ?_; intro g w1 hg1 hg2 K1 L1)
    | ((with_reducible show wpList _ _ _ (⟨some 4, _, _, _, _, _⟩ :: _) _ _); refine wpList_alloc_blk rfl _ rfl zs _ ZH ?_; intro h w2 hg3 hg4 Z2 L02; have G2 := Lib.hid (K1.out.over L02.out); have L2 := Lib.hid (step L1.out L02.out); have hgh : g ≠ h := (by omega); have hhw : w.heap.size ≤ h := (by have := L1.out.size; omega))
    | ((with_reducible show wpList _ _ _ (⟨some 7, _, _, _, _, _⟩ :: _) _ _); refine wpList_build_none rfl _ rfl zs BZ ?_)
    | ((with_reducible show wpList _ _ _ (⟨none, .store _ (.tmp 4) _, _, _, _, _⟩ :: _) _ _); refine wpList_store_blk rfl _ (.tmp 4) (.tmp 7) rfl h rfl _ zs zs rfl Z2 69 size_ask HZ HZ HZ1 ?_; intro w9 K9 O9 hg9)
    | fail)
  have L9 := Lib.hid (below_only L2.out O9.out hhw)
  refine bodyPost_ret (v := .tuple #[.agg zs.toArray, .bool false]) ?_ rfl (HQ.out _ _ ⟨_, rfl, HZI.out w9, L9.out⟩)
  exact results_cell_two rfl _ _ h _ _ (0, 0) _ rfl K9.out Tryd.underlying32 rfl (by rw [size_ask]; have := HZ.out; simp [this]) rfl
def sayBesidePost (w : World) (c : Int) (a : SayV) (e : Ending) (w' : World) : Prop := ∃ ds, e = .returned (.tuple #[.agg ds.toArray, .bool (knownT c)]) ∧ SayIs w' w'.heap.size ds (if knownT c = true then besideSay c a else zeroSay) ∧ Below w.heap.size w w'
set_option maxHeartbeats 4000000 in
theorem sayBeside_any (w : World) (c : Int) (cs : List Value) (a : SayV) (hc : 0 ≤ c ∧ c ≤ 65535) (ka : a.ok) (ha : SayIs w w.heap.size cs a) :
    Calls Tryd.prog 46 #[.int .u16 c, .agg cs.toArray] w (sayBesidePost w c a) := by
  have HL := Lib.hid (ha.len ka)
  have HO1 := Lib.hid ha.one
  have ZH := Lib.hid zero_say
  have BZ := built_say
  have HZ : Hid ((scells (.slice none 0 0) (.slice none 0 0) zeroSay).length = 20) := scells_len zeroSay_ok
  have HZ1 : Hid (∀ v ∈ scells (.slice none 0 0) (.slice none 0 0) zeroSay, v.oneCell' = true) := (zeroSay_is w 0).one
  have HA := Lib.hid ha
  have HQ : Hid (∀ e w', (∃ ds, e = .returned (.tuple #[.agg ds.toArray, .bool (knownT c)]) ∧ SayIs w' w'.heap.size ds (if knownT c = true then besideSay c a else zeroSay) ∧ Below w.heap.size w w') → sayBesidePost w c a e w') := fun _ _ h => h
  obtain ⟨zs, hzs⟩ : ∃ zs, zs = scells (.slice none 0 0) (.slice none 0 0) zeroSay := ⟨_, rfl⟩
  have HZI : Hid (∀ w' : World, SayIs w' w'.heap.size zs zeroSay) := by rw [hzs]; exact fun w' => zeroSay_is w' _
  rw [← hzs] at ZH BZ HZ HZ1
  clear hzs
  by_cases h0 : c = 0
  · subst h0
    have e0 : (if knownT 0 = true then besideSay 0 a else zeroSay) = { a with dia := 0, siz := 0, chal := List.replicate 8 0 } := rfl
    rw [e0, show knownT 0 = true from rfl] at HQ
    clear e0
    obtain ⟨X1, X2, X3, M1, M2, M3, rfl, hX, hM⟩ := ha
    have HI : Hid (∀ w' : World, Below w.heap.size w w' → SayIs w' w'.heap.size (scells (.slice X1 X2 X3) (.slice M1 M2 M3) { a with dia := 0, siz := 0, chal := List.replicate 8 0 }) ({ a with dia := 0, siz := 0, chal := List.replicate 8 0 })) := fun w' hb => ⟨X1, X2, X3, M1, M2, M3, rfl, hX.over hb, hM.over hb⟩
    have HN : Hid ((scells (.slice X1 X2 X3) (.slice M1 M2 M3) { a with dia := 0, siz := 0, chal := List.replicate 8 0 }).length = 20) := scells_len (by have := besideSay_ok (c := 0) ka; exact this)
    have HN1 : Hid (∀ v ∈ scells (.slice X1 X2 X3) (.slice M1 M2 M3) { a with dia := 0, siz := 0, chal := List.replicate 8 0 }, v.oneCell' = true) := scells_one rfl rfl
    have HE0 : Hid ((scells (.slice X1 X2 X3) (.slice M1 M2 M3) a).set 0 (.int .u16 0) = scells (.slice X1 X2 X3) (.slice M1 M2 M3) { a with dia := 0 }) := scells_dia 0
    have HE1 : Hid ((scells (.slice X1 X2 X3) (.slice M1 M2 M3) { a with dia := 0 }).set 1 (.int .u64 0) = scells (.slice X1 X2 X3) (.slice M1 M2 M3) { a with dia := 0, siz := 0 }) := scells_siz 0
    have HE2 : Hid ((scells (.slice X1 X2 X3) (.slice M1 M2 M3) { a with dia := 0, siz := 0 }).take 2 ++ ((List.replicate 8 (0 : Int)).map (Value.int .u8) ++ (scells (.slice X1 X2 X3) (.slice M1 M2 M3) { a with dia := 0, siz := 0 }).drop (2 + 8)) = scells (.slice X1 X2 X3) (.slice M1 M2 M3) { a with dia := 0, siz := 0, chal := List.replicate 8 0 }) := scells_chalS (s := { a with dia := 0, siz := 0 }) ⟨by show (0 : Int) ≤ 0 ∧ (0 : Int) ≤ 65535; decide, by show (0 : Int) ≤ 0 ∧ (0 : Int) ≤ 18446744073709551615; decide, ka.clen, ka.cbyte, ka.lev, ka.dur, ka.made, ka.file, ka.kind, ka.data, ka.n, ka.ents⟩ (List.replicate 8 0)
    have HN0 : Hid (0 < (scells (.slice X1 X2 X3) (.slice M1 M2 M3) a).length) := by show _ < _; simp [scells, stail, ka.clen]
    have HN2 : Hid (1 < (scells (.slice X1 X2 X3) (.slice M1 M2 M3) { a with dia := 0 }).length) := by show _ < _; simp [scells, stail, ka.clen]
    have HF : Hid (2 + 8 ≤ (scells (.slice X1 X2 X3) (.slice M1 M2 M3) { a with dia := 0, siz := 0 }).length) := by show _ ≤ _; simp [scells, stail, ka.clen]
    have HLZ : Hid (((List.replicate 8 (0 : Int)).map (Value.int .u8)).length = 8) := by show _ = _; simp
    have OZ : Hid (∀ v ∈ (List.replicate 8 (0 : Int)).map (Value.int .u8), v.oneCell' = true) := fun v hv => mem_nums hv
    have BL := built_chal
    obtain ⟨lz, hlz⟩ : ∃ z, z = (List.replicate 8 (0 : Int)).map (Value.int .u8) := ⟨_, rfl⟩
    rw [← hlz] at HLZ OZ BL HE2
    clear hlz
    obtain ⟨cs, hcs⟩ : ∃ c, c = scells (.slice X1 X2 X3) (.slice M1 M2 M3) a := ⟨_, rfl⟩
    rw [← hcs] at HL HO1 HE0 HN0 ⊢
    clear hcs HA hX hM
    obtain ⟨d0, hd0⟩ : ∃ c, c = scells (.slice X1 X2 X3) (.slice M1 M2 M3) { a with dia := 0 } := ⟨_, rfl⟩
    rw [← hd0] at HE0 HE1 HN2
    clear hd0
    obtain ⟨d1, hd1⟩ : ∃ c, c = scells (.slice X1 X2 X3) (.slice M1 M2 M3) { a with dia := 0, siz := 0 } := ⟨_, rfl⟩
    rw [← hd1] at HE1 HE2 HF
    clear hd1
    obtain ⟨d2, hd2⟩ : ∃ c, c = scells (.slice X1 X2 X3) (.slice M1 M2 M3) { a with dia := 0, siz := 0, chal := List.replicate 8 0 } := ⟨_, rfl⟩
    rw [← hd2] at HE2 HI HN HN1
    clear hd2
    go_enter Tryd.func46, Tryd.ntmps46
    go_wp2_with (first
      | ((with_reducible show wpList _ _ _ (⟨some 3, _, _, _, _, _⟩ :: _) _ _); refine wpList_box_blk rfl _ (.tmp 1) rfl cs rfl ?_; intro g w1 hg1 hg2 K1 L1)
      | ((with_reducible show wpList _ _ _ (⟨some 4, _, _, _, _, _⟩ :: _) _ _); refine wpList_alloc_blk rfl _ rfl zs _ ZH ?_; intro h w2 hg3 hg4 Z2 L02; have G2 := Lib.hid (K1.out.over L02.out); have L2 := Lib.hid (step L1.out L02.out); have hgh : g ≠ h := (by omega); have hhw : w.heap.size ≤ h := (by have := L1.out.size; omega))
      | ((with_reducible show wpList _ _ _ (⟨none, .store _ (.tmp 11) _, _, _, _, _⟩ :: _) _ _); refine wpList_store_fld rfl _ (.tmp 11) (.const (.int .u16 0)) rfl g 0 rfl _ cs (.int .u16 0) rfl G2 HN0 (by kernel_rfl) rfl ?_; intro w3 K3 O3 q3; rw [HE0.out] at K3; have Z3 := Lib.hid (Z2.out.only O3.out (Ne.symm hgh)); have L3 : Hid (Below w.heap.size w w3) := below_only L2.out O3.out hg1)
      | ((with_reducible show wpList _ _ _ (⟨none, .store _ (.tmp 12) _, _, _, _, _⟩ :: _) _ _); refine wpList_store_fld rfl _ (.tmp 12) (.const (.int .u64 0)) rfl g 1 rfl _ d0 (.int .u64 0) rfl K3 HN2 (by kernel_rfl) rfl ?_; intro w4 K4 O4 q4; rw [HE1.out] at K4; have Z4 := Lib.hid (Z3.out.only O4.out (Ne.symm hgh)); have L4 : Hid (Below w.heap.size w w4) := below_only L3.out O4.out hg1)
      | ((with_reducible show wpList _ _ _ (⟨none, .store _ (.tmp 13) _, _, _, _, _⟩ :: _) _ _); refine wpList_store_midb rfl _ (.tmp 13) (.tmp 10) rfl g 2 rfl _ d1 lz rfl K4 8 size_chal HLZ HF OZ ?_; intro w5 K5 O5 q5; rw [HE2.out] at K5; have Z5 := Lib.hid (Z4.out.only O5.out (Ne.symm hgh)); have L5 : Hid (Below w.heap.size w w5) := below_only L4.out O5.out hg1)
      | ((with_reducible show wpList _ _ _ (⟨some 10, _, _, _, _, _⟩ :: _) _ _); refine wpList_build_none rfl _ rfl lz BL ?_)
      | ((with_reducible show wpList _ _ _ (⟨some 20, _, _, _, _, _⟩ :: _) _ _); refine wpList_load_blk rfl _ (.tmp 3) rfl g rfl _ d2 K5 20 _ Tryd.underlying45 rfl size_say HN ?_)
      | ((with_reducible show wpList _ _ _ (⟨none, .store _ (.tmp 4) _, _, _, _, _⟩ :: _) _ _); refine wpList_store_blk rfl _ (.tmp 4) (.tmp 20) rfl h rfl _ zs d2 rfl Z5 20 size_say HZ HN HN1 ?_; intro w9 K9 O9 hg9)
      | fail)
    have L9 := Lib.hid (below_only L5.out O9.out hhw)
    refine bodyPost_ret (v := .tuple #[.agg d2.toArray, .bool true]) ?_ rfl (HQ.out _ _ ⟨_, rfl, HI.out w9 L9.out, L9.out⟩)
    exact results_cell_two rfl _ _ h _ _ (0, 0) _ rfl K9.out Tryd.underlying45 rfl (by rw [size_say]; have := HN.out; simp [this]) rfl
  by_cases h1 : c = 1
  · subst h1
    have e0 : (if knownT 1 = true then besideSay 1 a else zeroSay) = a := rfl
    rw [e0, show knownT 1 = true from rfl] at HQ
    clear e0
    obtain ⟨X1, X2, X3, M1, M2, M3, rfl, hX, hM⟩ := ha
    have HI : Hid (∀ w' : World, Below w.heap.size w w' → SayIs w' w'.heap.size (scells (.slice X1 X2 X3) (.slice M1 M2 M3) a) (a)) := fun w' hb => ⟨X1, X2, X3, M1, M2, M3, rfl, hX.over hb, hM.over hb⟩
    have HN : Hid ((scells (.slice X1 X2 X3) (.slice M1 M2 M3) a).length = 20) := scells_len (ka)
    have HN1 : Hid (∀ v ∈ scells (.slice X1 X2 X3) (.slice M1 M2 M3) a, v.oneCell' = true) := scells_one rfl rfl
    obtain ⟨cs, hcs⟩ : ∃ c, c = scells (.slice X1 X2 X3) (.slice M1 M2 M3) a := ⟨_, rfl⟩
    rw [← hcs] at HL HO1 HI HN HN1 ⊢
    clear hcs HA hX hM
    go_enter Tryd.func46, Tryd.ntmps46
    go_wp2_with (first
      | ((with_reducible show wpList _ _ _ (⟨some 3, _, _, _, _, _⟩ :: _) _ _); refine wpList_box_blk rfl _ (.tmp 1) rfl cs rfl ?_; intro g w1 hg1 hg2 K1 L1)
      | ((with_reducible show wpList _ _ _ (⟨some 4, _, _, _, _, _⟩ :: _) _ _); refine wpList_alloc_blk rfl _ rfl zs _ ZH ?_; intro h w2 hg3 hg4 Z2 L02; have G2 := Lib.hid (K1.out.over L02.out); have L2 := Lib.hid (step L1.out L02.out); have hgh : g ≠ h := (by omega); have hhw : w.heap.size ≤ h := (by have := L1.out.size; omega))
      | ((with_reducible show wpList _ _ _ (⟨some 20, _, _, _, _, _⟩ :: _) _ _); refine wpList_load_blk rfl _ (.tmp 3) rfl g rfl _ cs G2 20 _ Tryd.underlying45 rfl size_say HN ?_)
      | ((with_reducible show wpList _ _ _ (⟨none, .store _ (.tmp 4) _, _, _, _, _⟩ :: _) _ _); refine wpList_store_blk rfl _ (.tmp 4) (.tmp 20) rfl h rfl _ zs cs rfl Z2 20 size_say HZ HN HN1 ?_; intro w9 K9 O9 hg9)
      | fail)
    have L9 := Lib.hid (below_only L2.out O9.out hhw)
    refine bodyPost_ret (v := .tuple #[.agg cs.toArray, .bool true]) ?_ rfl (HQ.out _ _ ⟨_, rfl, HI.out w9 L9.out, L9.out⟩)
    exact results_cell_two rfl _ _ h _ _ (0, 0) _ rfl K9.out Tryd.underlying45 rfl (by rw [size_say]; have := HN.out; simp [this]) rfl
  by_cases h3 : c = 3
  · subst h3
    have e0 : (if knownT 3 = true then besideSay 3 a else zeroSay) = a := rfl
    rw [e0, show knownT 3 = true from rfl] at HQ
    clear e0
    obtain ⟨X1, X2, X3, M1, M2, M3, rfl, hX, hM⟩ := ha
    have HI : Hid (∀ w' : World, Below w.heap.size w w' → SayIs w' w'.heap.size (scells (.slice X1 X2 X3) (.slice M1 M2 M3) a) (a)) := fun w' hb => ⟨X1, X2, X3, M1, M2, M3, rfl, hX.over hb, hM.over hb⟩
    have HN : Hid ((scells (.slice X1 X2 X3) (.slice M1 M2 M3) a).length = 20) := scells_len (ka)
    have HN1 : Hid (∀ v ∈ scells (.slice X1 X2 X3) (.slice M1 M2 M3) a, v.oneCell' = true) := scells_one rfl rfl
    obtain ⟨cs, hcs⟩ : ∃ c, c = scells (.slice X1 X2 X3) (.slice M1 M2 M3) a := ⟨_, rfl⟩
    rw [← hcs] at HL HO1 HI HN HN1 ⊢
    clear hcs HA hX hM
    go_enter Tryd.func46, Tryd.ntmps46
    go_wp2_with (first
      | ((with_reducible show wpList _ _ _ (⟨some 3, _, _, _, _, _⟩ :: _) _ _); refine wpList_box_blk rfl _ (.tmp 1) rfl cs rfl ?_; intro g w1 hg1 hg2 K1 L1)
      | ((with_reducible show wpList _ _ _ (⟨some 4, _, _, _, _, _⟩ :: _) _ _); refine wpList_alloc_blk rfl _ rfl zs _ ZH ?_; intro h w2 hg3 hg4 Z2 L02; have G2 := Lib.hid (K1.out.over L02.out); have L2 := Lib.hid (step L1.out L02.out); have hgh : g ≠ h := (by omega); have hhw : w.heap.size ≤ h := (by have := L1.out.size; omega))
      | ((with_reducible show wpList _ _ _ (⟨some 20, _, _, _, _, _⟩ :: _) _ _); refine wpList_load_blk rfl _ (.tmp 3) rfl g rfl _ cs G2 20 _ Tryd.underlying45 rfl size_say HN ?_)
      | ((with_reducible show wpList _ _ _ (⟨none, .store _ (.tmp 4) _, _, _, _, _⟩ :: _) _ _); refine wpList_store_blk rfl _ (.tmp 4) (.tmp 20) rfl h rfl _ zs cs rfl Z2 20 size_say HZ HN HN1 ?_; intro w9 K9 O9 hg9)
      | fail)
    have L9 := Lib.hid (below_only L2.out O9.out hhw)
    refine bodyPost_ret (v := .tuple #[.agg cs.toArray, .bool true]) ?_ rfl (HQ.out _ _ ⟨_, rfl, HI.out w9 L9.out, L9.out⟩)
    exact results_cell_two rfl _ _ h _ _ (0, 0) _ rfl K9.out Tryd.underlying45 rfl (by rw [size_say]; have := HN.out; simp [this]) rfl
  by_cases h2 : c = 2
  · subst h2
    have e0 : (if knownT 2 = true then besideSay 2 a else zeroSay) = a := rfl
    rw [e0, show knownT 2 = true from rfl] at HQ
    clear e0
    obtain ⟨X1, X2, X3, M1, M2, M3, rfl, hX, hM⟩ := ha
    have HI : Hid (∀ w' : World, Below w.heap.size w w' → SayIs w' w'.heap.size (scells (.slice X1 X2 X3) (.slice M1 M2 M3) a) (a)) := fun w' hb => ⟨X1, X2, X3, M1, M2, M3, rfl, hX.over hb, hM.over hb⟩
    have HN : Hid ((scells (.slice X1 X2 X3) (.slice M1 M2 M3) a).length = 20) := scells_len (ka)
    have HN1 : Hid (∀ v ∈ scells (.slice X1 X2 X3) (.slice M1 M2 M3) a, v.oneCell' = true) := scells_one rfl rfl
    obtain ⟨cs, hcs⟩ : ∃ c, c = scells (.slice X1 X2 X3) (.slice M1 M2 M3) a := ⟨_, rfl⟩
    rw [← hcs] at HL HO1 HI HN HN1 ⊢
    clear hcs HA hX hM
    go_enter Tryd.func46, Tryd.ntmps46
    go_wp2_with (first
      | ((with_reducible show wpList _ _ _ (⟨some 3, _, _, _, _, _⟩ :: _) _ _); refine wpList_box_blk rfl _ (.tmp 1) rfl cs rfl ?_; intro g w1 hg1 hg2 K1 L1)
      | ((with_reducible show wpList _ _ _ (⟨some 4, _, _, _, _, _⟩ :: _) _ _); refine wpList_alloc_blk rfl _ rfl zs _ ZH ?_; intro h w2 hg3 hg4 Z2 L02; have G2 := Lib.hid (K1.out.over L02.out); have L2 := Lib.hid (step L1.out L02.out); have hgh : g ≠ h := (by omega); have hhw : w.heap.size ≤ h := (by have := L1.out.size; omega))
      | ((with_reducible show wpList _ _ _ (⟨some 20, _, _, _, _, _⟩ :: _) _ _); refine wpList_load_blk rfl _ (.tmp 3) rfl g rfl _ cs G2 20 _ Tryd.underlying45 rfl size_say HN ?_)
      | ((with_reducible show wpList _ _ _ (⟨none, .store _ (.tmp 4) _, _, _, _, _⟩ :: _) _ _); refine wpList_store_blk rfl _ (.tmp 4) (.tmp 20) rfl h rfl _ zs cs rfl Z2 20 size_say HZ HN HN1 ?_; intro w9 K9 O9 hg9)
      | fail)
    have L9 := Lib.hid (below_only L2.out O9.out hhw)
    refine bodyPost_ret (v := .tuple #[.agg cs.toArray, .bool true]) ?_ rfl (HQ.out _ _ ⟨_, rfl, HI.out w9 L9.out, L9.out⟩)
    exact results_cell_two rfl _ _ h _ _ (0, 0) _ rfl K9.out Tryd.underlying45 rfl (by rw [size_say]; have := HN.out; simp [this]) rfl
  by_cases h4 : c = 4
  · subst h4
    have e0 : (if knownT 4 = true then besideSay 4 a else zeroSay) = a := rfl
    rw [e0, show knownT 4 = true from rfl] at HQ
    clear e0
    obtain ⟨X1, X2, X3, M1, M2, M3, rfl, hX, hM⟩ := ha
    have HI : Hid (∀ w' : World, Below w.heap.size w w' → SayIs w' w'.heap.size (scells (.slice X1 X2 X3) (.slice M1 M2 M3) a) (a)) := fun w' hb => ⟨X1, X2, X3, M1, M2, M3, rfl, hX.over hb, hM.over hb⟩
    have HN : Hid ((scells (.slice X1 X2 X3) (.slice M1 M2 M3) a).length = 20) := scells_len (ka)
    have HN1 : Hid (∀ v ∈ scells (.slice X1 X2 X3) (.slice M1 M2 M3) a, v.oneCell' = true) := scells_one rfl rfl
    obtain ⟨cs, hcs⟩ : ∃ c, c = scells (.slice X1 X2 X3) (.slice M1 M2 M3) a := ⟨_, rfl⟩
    rw [← hcs] at HL HO1 HI HN HN1 ⊢
    clear hcs HA hX hM
    go_enter Tryd.func46, Tryd.ntmps46
    go_wp2_with (first
      | ((with_reducible show wpList _ _ _ (⟨some 3, _, _, _, _, _⟩ :: _) _ _); refine wpList_box_blk rfl _ (.tmp 1) rfl cs rfl ?_; intro g w1 hg1 hg2 K1 L1)
      | ((with_reducible show wpList _ _ _ (⟨some 4, _, _, _, _, _⟩ :: _) _ _); refine wpList_alloc_blk rfl _ rfl zs _ ZH ?_; intro h w2 hg3 hg4 Z2 L02; have G2 := Lib.hid (K1.out.over L02.out); have L2 := Lib.hid (step L1.out L02.out); have hgh : g ≠ h := (by omega); have hhw : w.heap.size ≤ h := (by have := L1.out.size; omega))
      | ((with_reducible show wpList _ _ _ (⟨some 20, _, _, _, _, _⟩ :: _) _ _); refine wpList_load_blk rfl _ (.tmp 3) rfl g rfl _ cs G2 20 _ Tryd.underlying45 rfl size_say HN ?_)
      | ((with_reducible show wpList _ _ _ (⟨none, .store _ (.tmp 4) _, _, _, _, _⟩ :: _) _ _); refine wpList_store_blk rfl _ (.tmp 4) (.tmp 20) rfl h rfl _ zs cs rfl Z2 20 size_say HZ HN HN1 ?_; intro w9 K9 O9 hg9)
      | fail)
    have L9 := Lib.hid (below_only L2.out O9.out hhw)
    refine bodyPost_ret (v := .tuple #[.agg cs.toArray, .bool true]) ?_ rfl (HQ.out _ _ ⟨_, rfl, HI.out w9 L9.out, L9.out⟩)
    exact results_cell_two rfl _ _ h _ _ (0, 0) _ rfl K9.out Tryd.underlying45 rfl (by rw [size_say]; have := HN.out; simp [this]) rfl
  by_cases h13 : c = 13
  · subst h13
    have e0 : (if knownT 13 = true then besideSay 13 a else zeroSay) = a := rfl
    rw [e0, show knownT 13 = true from rfl] at HQ
    clear e0
    obtain ⟨X1, X2, X3, M1, M2, M3, rfl, hX, hM⟩ := ha
    have HI : Hid (∀ w' : World, Below w.heap.size w w' → SayIs w' w'.heap.size (scells (.slice X1 X2 X3) (.slice M1 M2 M3) a) (a)) := fun w' hb => ⟨X1, X2, X3, M1, M2, M3, rfl, hX.over hb, hM.over hb⟩
    have HN : Hid ((scells (.slice X1 X2 X3) (.slice M1 M2 M3) a).length = 20) := scells_len (ka)
    have HN1 : Hid (∀ v ∈ scells (.slice X1 X2 X3) (.slice M1 M2 M3) a, v.oneCell' = true) := scells_one rfl rfl
    obtain ⟨cs, hcs⟩ : ∃ c, c = scells (.slice X1 X2 X3) (.slice M1 M2 M3) a := ⟨_, rfl⟩
    rw [← hcs] at HL HO1 HI HN HN1 ⊢
    clear hcs HA hX hM
    go_enter Tryd.func46, Tryd.ntmps46
    go_wp2_with (first
      | ((with_reducible show wpList _ _ _ (⟨some 3, _, _, _, _, _⟩ :: _) _ _); refine wpList_box_blk rfl _ (.tmp 1) rfl cs rfl ?_; intro g w1 hg1 hg2 K1 L1)
      | ((with_reducible show wpList _ _ _ (⟨some 4, _, _, _, _, _⟩ :: _) _ _); refine wpList_alloc_blk rfl _ rfl zs _ ZH ?_; intro h w2 hg3 hg4 Z2 L02; have G2 := Lib.hid (K1.out.over L02.out); have L2 := Lib.hid (step L1.out L02.out); have hgh : g ≠ h := (by omega); have hhw : w.heap.size ≤ h := (by have := L1.out.size; omega))
      | ((with_reducible show wpList _ _ _ (⟨some 20, _, _, _, _, _⟩ :: _) _ _); refine wpList_load_blk rfl _ (.tmp 3) rfl g rfl _ cs G2 20 _ Tryd.underlying45 rfl size_say HN ?_)
      | ((with_reducible show wpList _ _ _ (⟨none, .store _ (.tmp 4) _, _, _, _, _⟩ :: _) _ _); refine wpList_store_blk rfl _ (.tmp 4) (.tmp 20) rfl h rfl _ zs cs rfl Z2 20 size_say HZ HN HN1 ?_; intro w9 K9 O9 hg9)
      | fail)
    have L9 := Lib.hid (below_only L2.out O9.out hhw)
    refine bodyPost_ret (v := .tuple #[.agg cs.toArray, .bool true]) ?_ rfl (HQ.out _ _ ⟨_, rfl, HI.out w9 L9.out, L9.out⟩)
    exact results_cell_two rfl _ _ h _ _ (0, 0) _ rfl K9.out Tryd.underlying45 rfl (by rw [size_say]; have := HN.out; simp [this]) rfl
  have hk : knownT c = false := by unfold knownT; simp; omega
  rw [if_neg (by rw [hk]; decide), hk] at HQ
  have b0 : (c == 0) = false := by simpa using h0
  have b1 : (c == 1) = false := by simpa using h1
  have b3 : (c == 3) = false := by simpa using h3
  have b2 : (c == 2) = false := by simpa using h2
  have b4 : (c == 4) = false := by simpa using h4
  have b13 : (c == 13) = false := by simpa using h13
  go_enter Tryd.func46, Tryd.ntmps46
  go_wp2_with (first
    | ((with_reducible show wpList _ _ _ (⟨some 3, _, _, _, _, _⟩ :: _) _ _); refine wpList_box_blk rfl _ (.tmp 1) rfl cs rfl ?_; intro g w1 hg1 hg2 K1 L1)
    | ((with_reducible show wpList _ _ _ (⟨some 4, _, _, _, _, _⟩ :: _) _ _); refine wpList_alloc_blk rfl _ rfl zs _ ZH ?_; intro h w2 hg3 hg4 Z2 L02; have G2 := Lib.hid (K1.out.over L02.out); have L2 := Lib.hid (step L1.out L02.out); have hgh : g ≠ h := (by omega); have hhw : w.heap.size ≤ h := (by have := L1.out.size; omega))
    | ((with_reducible show wpList _ _ _ (⟨some 7, _, _, _, _, _⟩ :: _) _ _); refine wpList_build_none rfl _ rfl zs BZ ?_)
    | ((with_reducible show wpList _ _ _ (⟨none, .store _ (.tmp 4) _, _, _, _, _⟩ :: _) _ _); refine wpList_store_blk rfl _ (.tmp 4) (.tmp 7) rfl h rfl _ zs zs rfl Z2 20 size_say HZ HZ HZ1 ?_; intro w9 K9 O9 hg9)
    | fail)
  have L9 := Lib.hid (below_only L2.out O9.out hhw)
  refine bodyPost_ret (v := .tuple #[.agg zs.toArray, .bool false]) ?_ rfl (HQ.out _ _ ⟨_, rfl, HZI.out w9, L9.out⟩)
  exact results_cell_two rfl _ _ h _ _ (0, 0) _ rfl K9.out Tryd.underlying45 rfl (by rw [size_say]; have := HZ.out; simp [this]) rfl
end Go.Proofs.YtepkamkgodbffaaDoor

/-
  Contract of the program's putOffer: a list of dialects and a Guid, as bytes.
-/
namespace Go.Proofs.YtepkamkgodbffaaDoor
open Go.RowKit
set_option linter.unusedVariables false
set_option maxRecDepth 100000

def dialsOf (xs : List Int) : List Int := xs.flatMap (fun d => le d 2)
def offerOf (a : AskV) : List Int := le a.dial.length 2 ++ dialsOf a.dial ++ a.guid
theorem dialsOf_len (xs : List Int) : (dialsOf xs).length = 2 * xs.length := by
  induction xs with
  | nil => rfl
  | cons x xs ih => rw [show dialsOf (x :: xs) = le x 2 ++ dialsOf xs from rfl, List.length_append, le_length, ih, List.length_cons]; omega
theorem dialsOf_snoc (xs : List Int) (x : Int) : dialsOf (xs ++ [x]) = dialsOf xs ++ le x 2 := by simp [dialsOf]
theorem dialsOf_bytes (xs : List Int) : Bytes (dialsOf xs) := by
  induction xs with
  | nil => exact Bytes.nil
  | cons x xs ih => exact (le_bytes x 2).append ih

theorem number_le (w : World) (n : Int) (h0 : 0 ≤ n) (h1 : n ≤ 65535) :
    Calls Tryd.prog 49 #[.int .u64 n, .int .i64 2] w fun e w' => ∃ A', e = .returned (.slice A' 2 2) ∧ Fresh w' w.heap.size A' (le n 2) ∧ Below w.heap.size w w' := by
  obtain ⟨m, rfl⟩ := Int.eq_ofNat_of_zero_le h0
  have h := number_any w (m : Int) 2 (by omega) (by omega)
  unfold NumPost at h
  rw [(putOf2 m (by omega)).1, le_length] at h
  exact h

theorem acells_guidH {vd vx vl : Value} {a : AskV} {w : World} {g : Nat} {T : TypeId} (k : a.ok) (h : Blk w g T (acells vd vx vl a)) : Holds w w.heap.size (some ⟨g, 1, none⟩) 16 16 a.guid := by
  have hr := acells_guid h k
  refine ⟨k.glen, Nat.le_refl _, by decide, k.gbyte, fun hA => (by cases hA), fun _ => ⟨g, 1, rfl, h.lt, fun i hi => ?_⟩⟩
  rw [hr i (.int .u8 (a.guid.getD i 0)) (by
    have : i < a.guid.length := by rw [k.glen]; exact hi
    simp [List.getD_eq_getElem?_getD, this])]
theorem acells_proofH {vd vx vl : Value} {a : AskV} {w : World} {g : Nat} {T : TypeId} (k : a.ok) (h : Blk w g T (acells vd vx vl a)) : Holds w w.heap.size (some ⟨g, 17, none⟩) 32 32 a.proof := by
  have hr := acells_proof h k
  refine ⟨k.plen, Nat.le_refl _, by decide, k.pbyte, fun hA => (by cases hA), fun _ => ⟨g, 17, rfl, h.lt, fun i hi => ?_⟩⟩
  rw [hr i (.int .u8 (a.proof.getD i 0)) (by
    have : i < a.proof.length := by rw [k.plen]; exact hi
    simp [List.getD_eq_getElem?_getD, this])]
theorem scells_chalH {vx ve : Value} {s : SayV} {w : World} {g : Nat} {T : TypeId} (k : s.ok) (h : Blk w g T (scells vx ve s)) : Holds w w.heap.size (some ⟨g, 2, none⟩) 8 8 s.chal := by
  have hr := scells_chal h k
  refine ⟨k.clen, Nat.le_refl _, by decide, k.cbyte, fun hA => (by cases hA), fun _ => ⟨g, 2, rfl, h.lt, fun i hi => ?_⟩⟩
  rw [hr i (.int .u8 (s.chal.getD i 0)) (by
    have : i < s.chal.length := by rw [k.clen]; exact hi
    simp [List.getD_eq_getElem?_getD, this])]

def OfferPost (w : World) (a : AskV) (e : Ending) (w' : World) : Prop := ∃ v, e = .returned (.tuple #[v, .int .i64 (if a.dial.length ≤ 16 then 0 else 3)]) ∧ Own w' w.heap.size v (if a.dial.length ≤ 16 then offerOf a else []) ∧ Below w.heap.size w w'

set_option maxHeartbeats 2000000 in
theorem putOffer_any (w : World) (cs : List Value) (a : AskV) (ka : a.ok) (ha : AskIs w w.heap.size cs a) :
    Calls Tryd.prog 40 #[.agg cs.toArray] w (OfferPost w a) := by
  obtain ⟨D1, D2, D3, X1, X2, X3, M1, M2, M3, rfl, hD, hX, hM⟩ := ha
  have hl := hD.len
  have FA : Hid (∀ (w : World) (g : Nat), Blk w g 32 (acells (.slice D1 D2 D3) (.slice X1 X2 X3) (.slice M1 M2 M3) a) → w.cell? ⟨g, 0, none⟩ = some (.slice D1 D2 D3)) := fun w g h => h.at rfl
  have RG : Hid (∀ (w : World) (g : Nat), Blk w g 32 (acells (.slice D1 D2 D3) (.slice X1 X2 X3) (.slice M1 M2 M3) a) → Holds w w.heap.size (some ⟨g, 1, none⟩) 16 16 a.guid) := fun w g h => acells_guidH ka h
  have HDB := Lib.hid ka.dial
  have HGL := Lib.hid ka.glen
  obtain ⟨cs, hcs⟩ : ∃ c, c = acells (.slice D1 D2 D3) (.slice X1 X2 X3) (.slice M1 M2 M3) a := ⟨_, rfl⟩
  rw [← hcs] at FA RG ⊢
  clear hcs hX hM ka
  by_cases hn : D2 ≤ 16
  rotate_left
  · have HQ : Hid (∀ e w', e = .returned (.tuple #[.slice none 0 0, .int .i64 3]) → Below w.heap.size w w' → OfferPost w a e w') := by
      intro e w' he hb
      unfold OfferPost
      rw [hl, if_neg hn, if_neg hn]
      exact ⟨_, he, Own.nil _ _, hb⟩
    have hn' : 16 < D2 := by omega
    clear hl hD
    go_enter Tryd.func40, Tryd.ntmps40
    go_wp2_with (first
      | ((with_reducible show wpList _ _ _ (⟨some 1, _, _, _, _, _⟩ :: _) _ _); refine wpList_box_blk rfl _ (.tmp 0) rfl cs rfl ?_; intro g w1 hg1 hg2 K1 L1; have gd := FA.out _ _ K1.out)
      | fail)
    go_ret2
    exact HQ.out _ _ rfl L1.out
  have HQ : Hid (∀ e w', (∃ v, e = .returned (.tuple #[v, .int .i64 0]) ∧ Own w' w.heap.size v (le D2 2 ++ dialsOf a.dial ++ a.guid) ∧ Below w.heap.size w w') → OfferPost w a e w') := by
    intro e w' hh
    unfold OfferPost offerOf
    rw [hl, if_pos hn, if_pos hn]
    exact hh
  have HDL := Lib.hid hl
  have HD := Lib.hid hD
  have HF := Lib.hid hD.fit
  have hz : IntKind.u64.wrap (D2 : Int) = D2 := by rw [IntKind.wrap_u64]; omega
  obtain ⟨ds, hds⟩ : ∃ d, d = a.dial := ⟨_, rfl⟩
  obtain ⟨gs, hgs⟩ : ∃ d, d = a.guid := ⟨_, rfl⟩
  rw [← hds] at HQ HDL HD HDB
  rw [← hgs] at HQ RG HGL
  clear hl hD hds hgs
  go_enter Tryd.func40, Tryd.ntmps40
  go_wp2_with (first
    | ((with_reducible show wpList _ _ _ (⟨some 1, _, _, _, _, _⟩ :: _) _ _); refine wpList_box_blk rfl _ (.tmp 0) rfl cs rfl ?_; intro g w1 hg1 hg2 K1 L1; have gd := FA.out _ _ K1.out)
    | fail)
  refine (number_le w1 (D2 : Int) (by omega) (by omega)).mono ?_
  rintro e w2 ⟨A', rfl, hf2, L2⟩
  have gd2 := FA.out _ _ (K1.out.over L2)
  have HO2 := Lib.hid (hf2.own (n := 2) (by rw [le_length]) (by omega))
  have M2 := Lib.hid L2
  have hs2 := L2.size
  clear gd hf2 L2
  go_wp2
  go_loopw [4, 19] (fun v i wr => ∃ j : Nat, i = .int .i64 j ∧ j ≤ D2 ∧ Hid (Own wr w1.heap.size v (le D2 2 ++ dialsOf (ds.take j))) ∧ Hid (Below w1.heap.size w1 wr)) (fun _ i _ => D2 - (intOf i).toNat)
  case atStart => exact ⟨0, rfl, Nat.zero_le _, (by show Own _ _ _ _; simpa [dialsOf] using HO2.out), M2⟩
  case round =>
    obtain ⟨j, rfl, hj, HO, HL⟩ := hrel
    have hsr := HL.out.size
    by_cases hlt : j < D2
    · have HDr := HD.out.over (step L1.out HL.out)
      have hft := HF.out
      obtain ⟨b, off, rfl, hb, hc⟩ := HDr.cells (by omega)
      obtain ⟨x, hx⟩ : ∃ x, ds[j]? = some x := ⟨_, List.getElem?_eq_getElem (by have := HDL.out; omega)⟩
      have gc := hc j x hx
      obtain ⟨x0, x1⟩ := HDB.out x (List.mem_of_getElem? hx)
      have E1 : Hid (le D2 2 ++ dialsOf (ds.take (j + 1)) = le D2 2 ++ dialsOf (ds.take j) ++ le x 2) := by
        show _ = _
        rw [List.take_add_one, hx, Option.toList_some, dialsOf_snoc, List.append_assoc]
      have HLEN : Hid ((le (D2 : Int) 2 ++ dialsOf (ds.take j)).length + (le x 2).length ≤ 140737488355328) := by
        show _ ≤ _
        rw [List.length_append, le_length, le_length, dialsOf_len, List.length_take]
        omega
      have HXB : Hid (Bytes (le x 2)) := le_bytes _ _
      have HXL : Hid ((le x 2).length = 2) := le_length _ _
      have hxz : IntKind.u64.wrap x = x := by rw [IntKind.wrap_u64]; omega
      obtain ⟨P, hP⟩ : ∃ P, P = le (D2 : Int) 2 ++ dialsOf (ds.take j) := ⟨_, rfl⟩
      rw [← hP] at E1 HLEN HO
      have CN : Hid (∀ w : World, Calls Tryd.prog 49 #[.int .u64 x, .int .i64 2] w fun e w' => ∃ A', e = .returned (.slice A' 2 2) ∧ Fresh w' w.heap.size A' (le x 2) ∧ Below w.heap.size w w') := fun w => number_le w x x0 x1
      obtain ⟨lx, hlx⟩ : ∃ P, P = le x 2 := ⟨_, rfl⟩
      rw [← hlx] at E1 HLEN HXB HXL CN
      clear hc hx hP hlx HDr
      go_wp2_with fail
      refine (CN.out wr).mono ?_
      rintro e w3 ⟨A3, rfl, hf3, L3⟩
      have HH := Lib.hid (hf3.holds HXL.out HXB.out (by omega))
      have HO3 := Lib.hid (HO.out.below L3)
      have M3 := Lib.hid (HL.out.trans (L3.mono hsr))
      have hs3 := M3.out.size
      clear hf3 L3 HO CN gc
      go_wp2_with (first
        | (at_builtin; refine wpList_append_bytes rfl (.tmp 23) (.tmp 26) rfl w1.heap.size _ P rfl HO3.out w3.heap.size A3 2 2 lx rfl HH.out HLEN.out hs3 ?_; intro v4 w4 ho4 hb4 hgr)
        | fail)
      have HO4 : Hid (Own w4 w1.heap.size v4 (le D2 2 ++ dialsOf (ds.take (j + 1)))) := by rw [E1.out]; exact ho4.out
      have M4 := Lib.hid (M3.out.trans hb4)
      clear ho4 hb4 hgr HH HO3 M3
      go_wp2
      go_roundw
      case rel => exact ⟨j + 1, by go_num, hlt, HO4, M4⟩
      case measure => simp [intOf]; omega
    · obtain rfl : j = D2 := by omega
      have HO5 : Hid (Own wr w1.heap.size u4 (le (j : Int) 2 ++ dialsOf ds)) := by
        have h := HO.out
        rwa [List.take_of_length_le (by have := HDL.out; omega)] at h
      have HG := Lib.hid (RG.out _ _ (K1.out.over HL.out))
      have HLEN : Hid ((le (j : Int) 2 ++ dialsOf ds).length + gs.length ≤ 140737488355328) := by
        show _ ≤ _
        have h1 := HGL.out
        have h2 := HDL.out
        rw [List.length_append, le_length, dialsOf_len]
        omega
      have hs1 := L1.out.size
      obtain ⟨P, hP⟩ : ∃ P, P = le (j : Int) 2 ++ dialsOf ds := ⟨_, rfl⟩
      rw [← hP] at HO5 HLEN HQ
      clear HO hP
      go_wp2_with (first
        | (at_builtin; refine wpList_append_bytes rfl (.tmp 29) (.tmp 31) rfl w1.heap.size _ P rfl HO5.out wr.heap.size (some ⟨g, 1, none⟩) 16 16 gs rfl HG.out HLEN.out hsr ?_; intro v4 w4 ho4 hb4 hgr)
        | fail)
      go_ret2
      exact HQ.out _ _ ⟨_, rfl, ho4.out.mono hs1, L1.out.trans ((HL.out.trans hb4).mono hs1)⟩
end Go.Proofs.YtepkamkgodbffaaDoor

/-
  A region that draws its order, walked by hand: one of two operations may come up ('wpAnyH_two'). No function of the program is named here.
-/
namespace Go.Proofs.YtepkamkgodbffaaDoor
open Go.RowKit

section
variable {P : Program} {ops : Array Oper} {Q : Exit → Act → World → Prop}
theorem wpAnyH_two {md : Region.Mode} {S : World → Prop} (i j : Nat) (oi oj : Oper) {fuel : Nat} {listed : Array Bool} {a : Act} {w : World} (hr : Region.ready md ops listed = [i, j]) (hi : ops[i]? = some oi) (hj : ops[j]? = some oj)
    (h1 : ∀ K : Act → World → Prop, (∀ a' w', S w' → wpAnyH P md ops Q S fuel (listed.setIfInBounds i true) a' w' → K a' w') → if Region.wanted oi (yielded ops a.tmps) = true then oi.wp P a w K Q else K (a.put oi.dst undef) w)
    (h2 : ∀ K : Act → World → Prop, (∀ a' w', S w' → wpAnyH P md ops Q S fuel (listed.setIfInBounds j true) a' w' → K a' w') → if Region.wanted oj (yielded ops a.tmps) = true then oj.wp P a w K Q else K (a.put oj.dst undef) w) :
    wpAnyH P md ops Q S (fuel + 1) listed a w := by
  refine wpAnyH_all hr (by simp) fun q hq => ?_
  rcases List.mem_cons.1 hq with rfl | hq
  · have h3 := h1 (fun a' w' => S w' ∧ wpAnyH P md ops Q S fuel (listed.setIfInBounds q true) a' w') fun _ _ h2 h3 => ⟨h2, h3⟩
    unfold wpOp
    simp only [hi]
    by_cases hw : Region.wanted oi (yielded ops a.tmps) = true
    · rw [if_pos hw] at h3 ⊢
      exact .inl h3
    · rw [if_neg hw] at h3 ⊢
      exact h3
  · obtain rfl := List.mem_singleton.1 hq
    have h3 := h2 (fun a' w' => S w' ∧ wpAnyH P md ops Q S fuel (listed.setIfInBounds q true) a' w') fun _ _ h2 h3 => ⟨h2, h3⟩
    unfold wpOp
    simp only [hj]
    by_cases hw : Region.wanted oj (yielded ops a.tmps) = true
    · rw [if_pos hw] at h3 ⊢
      exact .inl h3
    · rw [if_neg hw] at h3 ⊢
      exact h3
end
end Go.Proofs.YtepkamkgodbffaaDoor

/-
  Contracts of the program's PutAsk, PutSay (written by tools/gen_putask.py).
-/
namespace Go.Proofs.YtepkamkgodbffaaDoor
open Go.RowKit
set_option linter.unusedVariables false
set_option maxRecDepth 100000

def askErrP (c : Int) (a : AskV) : Int :=
  if knownT c = true ∧ besideAsk c a = zeroAsk then (if c = 0 then (if a.dial.length ≤ 16 then 0 else 3) else if c = 1 then ptextErr a.user.data.toList else if c = 3 then ptextErr a.share.data.toList else 0) else 2
def askOfP (c : Int) (a : AskV) : List Int :=
  if askErrP c a = 0 then (if c = 0 then offerOf a else if c = 1 then a.proof ++ ptextOf a.user.data.toList else if c = 3 then ptextOf a.share.data.toList else List.replicate 4 0) else []
def sayErrP (c : Int) (s : SayV) : Int := if knownT c = true ∧ besideSay c s = zeroSay ∧ (c = 0 → s.siz < 4294967296) then 0 else 2
def sayOfP (c : Int) (s : SayV) : List Int := if sayErrP c s = 0 then (if c = 0 then le s.dia 2 ++ List.replicate 2 0 ++ le s.siz 4 ++ s.chal else List.replicate 4 0) else []
def PAskPost (w : World) (c : Int) (a : AskV) (e : Ending) (w' : World) : Prop := ∃ v, e = .returned (.tuple #[v, .int .i64 (askErrP c a)]) ∧ Own w' w.heap.size v (askOfP c a) ∧ Below w.heap.size w w'
def PSayPost (w : World) (c : Int) (s : SayV) (e : Ending) (w' : World) : Prop := ∃ v, e = .returned (.tuple #[v, .int .i64 (sayErrP c s)]) ∧ Own w' w.heap.size v (sayOfP c s) ∧ Below w.heap.size w w'
theorem row_zeros {w : World} {g base n : Nat} (h : Row w g (List.replicate n 0)) (hb : base ≤ g) (hn : n ≤ 281474976710656) : Own w base (.slice (some ⟨g, 0, none⟩) n n) (List.replicate n 0) :=
  Fresh.own (.inr ⟨g, rfl, hb, h⟩) (by simp) hn
theorem step_make_bytes {o : Oper} {ops : Array Oper} {a : Act} {w : World} {K : Act → World → Prop} {Q : Exit → Act → World → Prop} {E : Prop} (hg : o.guard = none) (l c : Operand) (hop : o.op = Op.makeSlice 29 l c) (n : Nat) (hl : a.eval l = .int .i64 (n : Int)) (hc : a.eval c = .int .i64 (n : Int)) (hn : n ≤ 281474976710656)
    (hK : ∀ w', Hid (Row w' w.heap.size (List.replicate n 0)) → Hid (Below w.heap.size w w') → K (a.put o.dst (.slice (some ⟨w.heap.size, 0, none⟩) n n)) w') :
    if Region.wanted o (yielded ops a.tmps) = true then Oper.wp Tryd.prog o a w K Q else E := by
  rw [if_pos (by simp [Region.wanted, hg])]
  have hrun := run_make_row' (P := Tryd.prog) 29 5 (.int .u8 0) 1 Tryd.underlying29 info_u8 rfl .i64 .i64 n (by omega) (by omega) w
  unfold Oper.wp
  simp [execOp, hop, hl, hc, hrun, Result.andThen]
  refine hK _ ?_ ((Below.refl _ _).alloc (Nat.le_refl _) _)
  show (w.alloc _).heap[w.heap.size]? = _
  rw [heap_alloc_new]
  have h := toList_madeCells_one (.int .u8 0) n
  rw [List.map_replicate, ← h]
theorem Parts.of_blk {w : World} {g : Nat} {T : TypeId} (l : List PartT) (h : Blk w g T (l.map partV)) (hh : ∀ p ∈ l, Holds w w.heap.size p.1 p.2.1 p.2.2.1 p.2.2.2) : Parts w g l.length (partA l) (partN l) (partC l) (partX l) := by
  refine ⟨h.lt, fun i hi => ?_, fun i hi => ?_⟩
  · rw [h.cell]
    simp [partA, partN, partC, List.getD_eq_getElem?_getD, hi, partV]
  · have he : l.getD i part0 = l[i] := by simp [List.getD_eq_getElem?_getD, hi]
    have := hh l[i] (List.getElem_mem hi)
    unfold partA partN partC partX
    rw [he]
    exact this
theorem rowOf_le (l : List UInt8) : (ptextOf l).length ≤ 514 := by
  unfold ptextOf
  split
  · rename_i h
    have h2 : (putOfL l).length ≤ 512 := by
      unfold ptextErr at h
      by_cases ht : textErr l = 0
      · rw [if_pos ht] at h
        by_cases hm : (putOfL l).length ≤ 512
        · exact hm
        · rw [if_neg hm] at h; exact absurd h (by decide)
      · rw [if_neg ht] at h; exact absurd h ht
    rw [rowOf_len _ (by omega)]
    omega
  · simp
theorem ptextOf_bytes (l : List UInt8) : Bytes (ptextOf l) := by
  unfold ptextOf
  split
  · exact rowOf_bytes (putOfL_byte l)
  · exact Bytes.nil
set_option maxHeartbeats 4000000 in
theorem PutAsk_any (w : World) (c : Int) (cs : List Value) (a : AskV) (hc : 0 ≤ c ∧ c ≤ 65535) (ka : a.ok) (ha : AskIs w w.heap.size cs a) (hu : a.user.size ≤ 17592186044416 ∧ a.share.size ≤ 17592186044416) (hT : Tabs w) :
    Calls Tryd.prog 12 #[.int .u16 c, .agg cs.toArray] w (PAskPost w c a) := by
  have HL := Lib.hid (ha.len ka)
  have HO1 := Lib.hid ha.one
  have ZH := Lib.hid zero_ask
  have HZ : Hid ((acells (.slice none 0 0) (.slice none 0 0) (.slice none 0 0) zeroAsk).length = 69) := acells_len zeroAsk_ok
  have HA := Lib.hid ha
  have HT := Lib.hid hT
  obtain ⟨hu0, hu1⟩ := hu
  have CB : Hid (∀ w' : World, Below w.heap.size w w' → Calls Tryd.prog 38 #[.int .u16 c, .agg cs.toArray] w' fun e w2 => ∃ ds, e = .returned (.tuple #[.agg ds.toArray, .bool (knownT c)]) ∧ AskIs w2 w2.heap.size ds (if knownT c = true then besideAsk c a else zeroAsk) ∧ Below w'.heap.size w' w2) := fun w' hb => askBeside_any w' c cs a hc ka (ha.over hb)
  obtain ⟨zs, hzs⟩ : ∃ zs, zs = acells (.slice none 0 0) (.slice none 0 0) (.slice none 0 0) zeroAsk := ⟨_, rfl⟩
  rw [← hzs] at ZH HZ
  clear hzs
  by_cases hk : knownT c = true
  rotate_left
  · have hk' : knownT c = false := by simpa using hk
    have HQ : Hid (∀ e w', e = .returned (.tuple #[.slice none 0 0, .int .i64 2]) → Below w.heap.size w w' → PAskPost w c a e w') := by
      intro e w' he hb
      have h2 : askErrP c a = 2 := by unfold askErrP; rw [if_neg (fun h => hk h.1)]
      unfold PAskPost askOfP
      rw [h2, if_neg (by decide)]
      exact ⟨_, he, Own.nil _ _, hb⟩
    rw [if_neg hk, hk'] at CB
    have kb := zeroAsk_ok
    clear hk hk' HA ka ha
    go_enter Tryd.func12, Tryd.ntmps12
    go_wp2_with (first
      | ((with_reducible show wpList _ _ _ (⟨some 3, _, _, _, _, _⟩ :: _) _ _); refine wpList_box_blk rfl _ (.tmp 1) rfl cs rfl ?_; intro g w1 hg1 hg2 K1 L1)
      | ((with_reducible show wpList _ _ _ (⟨some 12, _, _, _, _, _⟩ :: _) _ _); refine wpList_load_blk rfl _ (.tmp 3) rfl g rfl _ cs K1 69 _ Tryd.underlying32 rfl size_ask HL ?_)
      | fail)
    refine (CB.out w1 L1.out).mono ?_
    rintro e w2 ⟨ds, rfl, hds, L2⟩
    have HD := Lib.hid hds
    have HDL := Lib.hid (hds.len kb)
    have HDO := Lib.hid hds.one
    have K2 := Lib.hid (K1.out.over L2)
    have M2 := Lib.hid (step L1.out L2)
    clear hds L2 K1
    go_wp2_with (first
      | ((with_reducible show wpList _ _ _ (⟨some 6, _, _, _, _, _⟩ :: _) _ _); refine wpList_alloc_blk rfl _ rfl zs _ ZH ?_; intro h w3 hg3 hg4 Z3 L3)
      | ((with_reducible show wpList _ _ _ (⟨none, .store _ (.tmp 6) _, _, _, _, _⟩ :: _) _ _); refine wpList_store_blk rfl _ (.tmp 6) (.tmp 14) rfl h rfl _ zs ds rfl Z3 69 size_ask HZ HDL HDO ?_; intro w4 X4 O4 hg5; have L4 := Lib.hid (below_only L3.out O4.out hg3); have M4 := Lib.hid (step M2.out L4.out); have K4 := Lib.hid (K2.out.over L4.out); have HD4 := Lib.hid (HD.out.over L4.out))
      | fail)
    go_ret2
    exact HQ.out _ _ rfl M4.out
  rw [if_pos hk, hk] at CB
  have kb := besideAsk_ok (c := c) ka
  have CZ : Hid (∀ (w' : World) (ds : List Value), AskIs w' w'.heap.size ds (besideAsk c a) → Calls Tryd.prog 39 #[.agg ds.toArray] w' fun e w2 => e = .returned (.bool (decide (besideAsk c a = zeroAsk))) ∧ Below w'.heap.size w' w2) := fun w' ds hds => isZeroAsk_any w' ds _ kb hds
  by_cases hz : besideAsk c a = zeroAsk
  rotate_left
  · rw [decide_eq_false hz] at CZ
    have HQ : Hid (∀ e w', e = .returned (.tuple #[.slice none 0 0, .int .i64 2]) → Below w.heap.size w w' → PAskPost w c a e w') := by
      intro e w' he hb
      have h2 : askErrP c a = 2 := by unfold askErrP; rw [if_neg (fun h => hz h.2)]
      unfold PAskPost askOfP
      rw [h2, if_neg (by decide)]
      exact ⟨_, he, Own.nil _ _, hb⟩
    obtain ⟨b, hb⟩ : ∃ b, b = besideAsk c a := ⟨_, rfl⟩
    rw [← hb] at CB CZ kb
    clear hk hz HA ka ha hb
    go_enter Tryd.func12, Tryd.ntmps12
    go_wp2_with (first
      | ((with_reducible show wpList _ _ _ (⟨some 3, _, _, _, _, _⟩ :: _) _ _); refine wpList_box_blk rfl _ (.tmp 1) rfl cs rfl ?_; intro g w1 hg1 hg2 K1 L1)
      | ((with_reducible show wpList _ _ _ (⟨some 12, _, _, _, _, _⟩ :: _) _ _); refine wpList_load_blk rfl _ (.tmp 3) rfl g rfl _ cs K1 69 _ Tryd.underlying32 rfl size_ask HL ?_)
      | fail)
    refine (CB.out w1 L1.out).mono ?_
    rintro e w2 ⟨ds, rfl, hds, L2⟩
    have HD := Lib.hid hds
    have HDL := Lib.hid (hds.len kb)
    have HDO := Lib.hid hds.one
    have K2 := Lib.hid (K1.out.over L2)
    have M2 := Lib.hid (step L1.out L2)
    clear hds L2 K1
    go_wp2_with (first
      | ((with_reducible show wpList _ _ _ (⟨some 6, _, _, _, _, _⟩ :: _) _ _); refine wpList_alloc_blk rfl _ rfl zs _ ZH ?_; intro h w3 hg3 hg4 Z3 L3)
      | ((with_reducible show wpList _ _ _ (⟨none, .store _ (.tmp 6) _, _, _, _, _⟩ :: _) _ _); refine wpList_store_blk rfl _ (.tmp 6) (.tmp 14) rfl h rfl _ zs ds rfl Z3 69 size_ask HZ HDL HDO ?_; intro w4 X4 O4 hg5; have L4 := Lib.hid (below_only L3.out O4.out hg3); have M4 := Lib.hid (step M2.out L4.out); have K4 := Lib.hid (K2.out.over L4.out); have HD4 := Lib.hid (HD.out.over L4.out))
      | ((with_reducible show wpList _ _ _ (⟨some 19, _, _, _, _, _⟩ :: _) _ _); refine wpList_load_want (by kernel_rfl) _ (.tmp 6) rfl h rfl _ ds X4 69 _ Tryd.underlying32 rfl size_ask HDL ?_)
      | fail)
    refine (CZ.out w4 ds HD4.out).mono ?_
    rintro e w5 ⟨rfl, L5⟩
    have M5 := Lib.hid (step M4.out L5)
    have K5 := Lib.hid (K4.out.over L5)
    have hs5 := M5.out.size
    clear L5 K4 HD4 HD CZ CB X4 O4 Z3 L3 L4 M4 M2 K2
    go_wp2
    go_ret2
    exact HQ.out _ _ rfl M5.out
  rw [decide_eq_true hz] at CZ
  by_cases h0 : c = 0
  · have h2 : askErrP c a = if a.dial.length ≤ 16 then 0 else 3 := by unfold askErrP; rw [if_pos ⟨hk, hz⟩, if_pos h0]
    have HQ : Hid (∀ e w', (∃ v, e = .returned (.tuple #[v, .int .i64 (if a.dial.length ≤ 16 then 0 else 3)]) ∧ Own w' w.heap.size v (if a.dial.length ≤ 16 then offerOf a else []) ∧ Below w.heap.size w w') → PAskPost w c a e w') := by
      intro e w' hh
      unfold PAskPost askOfP
      rw [h2, if_pos h0]
      by_cases hd : a.dial.length ≤ 16
      · rw [if_pos hd, if_pos hd] at hh; rw [if_pos hd, if_pos rfl]; exact hh
      · rw [if_neg hd, if_neg hd] at hh; rw [if_neg hd, if_neg (by decide)]; exact hh
    have CO : Hid (∀ w' : World, Below w.heap.size w w' → Calls Tryd.prog 40 #[.agg cs.toArray] w' fun e w2 => ∃ v, e = .returned (.tuple #[v, .int .i64 (if a.dial.length ≤ 16 then 0 else 3)]) ∧ Own w2 w'.heap.size v (if a.dial.length ≤ 16 then offerOf a else []) ∧ Below w'.heap.size w' w2) := fun w' hb => putOffer_any w' cs a ka (HA.out.over hb)
    obtain ⟨er, her⟩ : ∃ x : Int, x = if a.dial.length ≤ 16 then 0 else 3 := ⟨_, rfl⟩
    obtain ⟨ys, hys⟩ : ∃ x, x = if a.dial.length ≤ 16 then offerOf a else [] := ⟨_, rfl⟩
    rw [← her, ← hys] at HQ CO
    have c0 : (c == 0) = true := by simpa using h0
    obtain ⟨b, hb⟩ : ∃ b, b = besideAsk c a := ⟨_, rfl⟩
    rw [← hb] at CB CZ kb
    clear hk hz HA ka ha h2 her hys h0 hb
    go_enter Tryd.func12, Tryd.ntmps12
    go_wp2_with (first
      | ((with_reducible show wpList _ _ _ (⟨some 3, _, _, _, _, _⟩ :: _) _ _); refine wpList_box_blk rfl _ (.tmp 1) rfl cs rfl ?_; intro g w1 hg1 hg2 K1 L1)
      | ((with_reducible show wpList _ _ _ (⟨some 12, _, _, _, _, _⟩ :: _) _ _); refine wpList_load_blk rfl _ (.tmp 3) rfl g rfl _ cs K1 69 _ Tryd.underlying32 rfl size_ask HL ?_)
      | fail)
    refine (CB.out w1 L1.out).mono ?_
    rintro e w2 ⟨ds, rfl, hds, L2⟩
    have HD := Lib.hid hds
    have HDL := Lib.hid (hds.len kb)
    have HDO := Lib.hid hds.one
    have K2 := Lib.hid (K1.out.over L2)
    have M2 := Lib.hid (step L1.out L2)
    clear hds L2 K1
    go_wp2_with (first
      | ((with_reducible show wpList _ _ _ (⟨some 6, _, _, _, _, _⟩ :: _) _ _); refine wpList_alloc_blk rfl _ rfl zs _ ZH ?_; intro h w3 hg3 hg4 Z3 L3)
      | ((with_reducible show wpList _ _ _ (⟨none, .store _ (.tmp 6) _, _, _, _, _⟩ :: _) _ _); refine wpList_store_blk rfl _ (.tmp 6) (.tmp 14) rfl h rfl _ zs ds rfl Z3 69 size_ask HZ HDL HDO ?_; intro w4 X4 O4 hg5; have L4 := Lib.hid (below_only L3.out O4.out hg3); have M4 := Lib.hid (step M2.out L4.out); have K4 := Lib.hid (K2.out.over L4.out); have HD4 := Lib.hid (HD.out.over L4.out))
      | ((with_reducible show wpList _ _ _ (⟨some 19, _, _, _, _, _⟩ :: _) _ _); refine wpList_load_want (by kernel_rfl) _ (.tmp 6) rfl h rfl _ ds X4 69 _ Tryd.underlying32 rfl size_ask HDL ?_)
      | fail)
    refine (CZ.out w4 ds HD4.out).mono ?_
    rintro e w5 ⟨rfl, L5⟩
    have M5 := Lib.hid (step M4.out L5)
    have K5 := Lib.hid (K4.out.over L5)
    have hs5 := M5.out.size
    clear L5 K4 HD4 HD CZ CB X4 O4 Z3 L3 L4 M4 M2 K2
    go_wp2_with (first
      | ((with_reducible show wpList _ _ _ (⟨some 26, _, _, _, _, _⟩ :: _) _ _); refine wpList_load_blk rfl _ (.tmp 3) rfl g rfl _ cs K5 69 _ Tryd.underlying32 rfl size_ask HL ?_)
      | fail)
    refine (CO.out w5 M5.out).mono ?_
    rintro e w6 ⟨v, rfl, ho, L6⟩
    have HO := Lib.hid ho
    have L6' := Lib.hid L6
    clear ho L6
    go_wp2
    go_ret2
    exact HQ.out _ _ ⟨_, rfl, HO.out.mono hs5, step M5.out L6'.out⟩
  have b0 : (c == 0) = false := by simpa using h0
  have FA : Hid (∀ (w : World) (g : Nat), Blk w g 32 cs → w.cell? ⟨g, 49, none⟩ = some (.string a.user) ∧ w.cell? ⟨g, 50, none⟩ = some (.string a.share) ∧ Holds w w.heap.size (some ⟨g, 17, none⟩) 32 32 a.proof) := by
    intro w g h
    obtain ⟨D1, D2, D3, X1, X2, X3, M1, M2, M3, rfl, _⟩ := HA.out
    exact ⟨h.at (acells_get ka 0), h.at (acells_get ka 1), acells_proofH ka h⟩
  by_cases h1 : c = 1
  · have CT : Hid (∀ w' : World, Below w.heap.size w w' → Calls Tryd.prog 35 #[.string a.user] w' fun e w2 => ∃ v, e = .returned (.tuple #[v, .int .i64 (ptextErr a.user.data.toList)]) ∧ Own w2 w'.heap.size v (ptextOf a.user.data.toList) ∧ Below w'.heap.size w' w2) := fun w' hb => PutText_any a.user w' hu0 (HT.out.below hb)
    have h2 : askErrP c a = ptextErr a.user.data.toList := by unfold askErrP; rw [if_pos ⟨hk, hz⟩, if_neg h0, if_pos h1]
    have c1 : (c == 1) = true := by simpa using h1
    have HPB := Lib.hid (ptextOf_bytes a.user.data.toList)
    have hpl := rowOf_le a.user.data.toList
    by_cases hp : ptextErr a.user.data.toList = 0
    · have HQ : Hid (∀ e w', (∃ v, e = .returned (.tuple #[v, .int .i64 0]) ∧ Own w' w.heap.size v (a.proof ++ ptextOf a.user.data.toList) ∧ Below w.heap.size w w') → PAskPost w c a e w') := by
        intro e w' hh
        unfold PAskPost askOfP
        rw [h2, hp, if_pos rfl, if_neg h0, if_pos h1]
        exact hh
      rw [hp] at CT
      obtain ⟨ys, hys⟩ : ∃ x, x = ptextOf a.user.data.toList := ⟨_, rfl⟩
      rw [← hys] at HQ CT HPB hpl
      obtain ⟨tx, htx⟩ : ∃ x, x = a.user := ⟨_, rfl⟩
      obtain ⟨px, hpx⟩ : ∃ x, x = a.proof := ⟨_, rfl⟩
      rw [← htx, ← hpx] at FA
      rw [← htx] at CT
      rw [← hpx] at HQ
      obtain ⟨b, hb⟩ : ∃ b, b = besideAsk c a := ⟨_, rfl⟩
      rw [← hb] at CB CZ kb
      clear hk hz HA ka ha h2 hys htx hpx h0 h1 hb hu0 hu1 hp
      go_enter Tryd.func12, Tryd.ntmps12
      go_wp2_with (first
        | ((with_reducible show wpList _ _ _ (⟨some 3, _, _, _, _, _⟩ :: _) _ _); refine wpList_box_blk rfl _ (.tmp 1) rfl cs rfl ?_; intro g w1 hg1 hg2 K1 L1)
        | ((with_reducible show wpList _ _ _ (⟨some 12, _, _, _, _, _⟩ :: _) _ _); refine wpList_load_blk rfl _ (.tmp 3) rfl g rfl _ cs K1 69 _ Tryd.underlying32 rfl size_ask HL ?_)
        | fail)
      refine (CB.out w1 L1.out).mono ?_
      rintro e w2 ⟨ds, rfl, hds, L2⟩
      have HD := Lib.hid hds
      have HDL := Lib.hid (hds.len kb)
      have HDO := Lib.hid hds.one
      have K2 := Lib.hid (K1.out.over L2)
      have M2 := Lib.hid (step L1.out L2)
      clear hds L2 K1
      go_wp2_with (first
        | ((with_reducible show wpList _ _ _ (⟨some 6, _, _, _, _, _⟩ :: _) _ _); refine wpList_alloc_blk rfl _ rfl zs _ ZH ?_; intro h w3 hg3 hg4 Z3 L3)
        | ((with_reducible show wpList _ _ _ (⟨none, .store _ (.tmp 6) _, _, _, _, _⟩ :: _) _ _); refine wpList_store_blk rfl _ (.tmp 6) (.tmp 14) rfl h rfl _ zs ds rfl Z3 69 size_ask HZ HDL HDO ?_; intro w4 X4 O4 hg5; have L4 := Lib.hid (below_only L3.out O4.out hg3); have M4 := Lib.hid (step M2.out L4.out); have K4 := Lib.hid (K2.out.over L4.out); have HD4 := Lib.hid (HD.out.over L4.out))
        | ((with_reducible show wpList _ _ _ (⟨some 19, _, _, _, _, _⟩ :: _) _ _); refine wpList_load_want (by kernel_rfl) _ (.tmp 6) rfl h rfl _ ds X4 69 _ Tryd.underlying32 rfl size_ask HDL ?_)
        | fail)
      refine (CZ.out w4 ds HD4.out).mono ?_
      rintro e w5 ⟨rfl, L5⟩
      have M5 := Lib.hid (step M4.out L5)
      have K5 := Lib.hid (K4.out.over L5)
      have hs5 := M5.out.size
      clear L5 K4 HD4 HD CZ CB X4 O4 Z3 L3 L4 M4 M2 K2
      obtain ⟨gd, _, _⟩ := FA.out _ _ K5.out
      go_wp2_with fail
      refine (CT.out w5 M5.out).mono ?_
      rintro e w6 ⟨v, rfl, ho, L6⟩
      obtain ⟨Av, cv, rfl, hh⟩ := ho.holds HPB.out (by omega)
      have HH := Lib.hid hh
      obtain ⟨_, _, hpr⟩ := FA.out _ _ (K5.out.over L6)
      have HPR := Lib.hid hpr
      have M6 := Lib.hid (step M5.out L6)
      obtain ⟨m, hm⟩ : ∃ m, m = ys.length := ⟨_, rfl⟩
      rw [← hm] at HH hpl ⊢
      clear ho hh hpr L6 gd hm
      go_wp2_with (first
        | ((with_reducible show wpList _ _ _ (⟨some 44, _, _, _, _, _⟩ :: _) _ _); refine wpList_litParts rfl 2 _ rfl [(some ⟨g, 17, none⟩, 32, 32, px), (Av, m, cv, ys)] rfl (by kernel_rfl) (List.forall_mem_cons.2 ⟨HPR.out, List.forall_mem_cons.2 ⟨HH.out, fun _ h => by cases h⟩⟩) ?_; intro g7 w7 P7 b7)
        | fail)
      refine (ConcatN_any _ g7 2 _ _ _ _ P7.out (by omega) (by show 0 + 32 + m ≤ _; omega)).mono ?_
      rintro e w8 ⟨v, rfl, ho, L8⟩
      have HO := Lib.hid ho
      have L8' := Lib.hid L8
      clear ho L8
      go_wp2
      go_ret2
      have M7 := step M6.out b7.out
      refine HQ.out _ _ ⟨_, rfl, ?_, step M7 L8'.out⟩
      have h9 := HO.out.mono (base' := w.heap.size) M7.size
      simpa [catL, partX] using h9
    · have HQ : Hid (∀ e w', e = .returned (.tuple #[.slice none 0 0, .int .i64 (ptextErr a.user.data.toList)]) → Below w.heap.size w w' → PAskPost w c a e w') := by
        intro e w' he hb
        unfold PAskPost askOfP
        rw [h2, if_neg hp]
        exact ⟨_, he, Own.nil _ _, hb⟩
      have hne : (ptextErr a.user.data.toList != 0) = true := by simpa using hp
      obtain ⟨ys, hys⟩ : ∃ x, x = ptextOf a.user.data.toList := ⟨_, rfl⟩
      obtain ⟨er, her⟩ : ∃ x, x = ptextErr a.user.data.toList := ⟨_, rfl⟩
      rw [← hys, ← her] at CT
      rw [← her] at HQ hne
      rw [← hys] at HPB hpl
      obtain ⟨tx, htx⟩ : ∃ x, x = a.user := ⟨_, rfl⟩
      rw [← htx] at FA CT
      obtain ⟨b, hb⟩ : ∃ b, b = besideAsk c a := ⟨_, rfl⟩
      rw [← hb] at CB CZ kb
      clear hk hz HA ka ha h2 hys her htx h0 h1 hb hu0 hu1 hp
      go_enter Tryd.func12, Tryd.ntmps12
      go_wp2_with (first
        | ((with_reducible show wpList _ _ _ (⟨some 3, _, _, _, _, _⟩ :: _) _ _); refine wpList_box_blk rfl _ (.tmp 1) rfl cs rfl ?_; intro g w1 hg1 hg2 K1 L1)
        | ((with_reducible show wpList _ _ _ (⟨some 12, _, _, _, _, _⟩ :: _) _ _); refine wpList_load_blk rfl _ (.tmp 3) rfl g rfl _ cs K1 69 _ Tryd.underlying32 rfl size_ask HL ?_)
        | fail)
      refine (CB.out w1 L1.out).mono ?_
      rintro e w2 ⟨ds, rfl, hds, L2⟩
      have HD := Lib.hid hds
      have HDL := Lib.hid (hds.len kb)
      have HDO := Lib.hid hds.one
      have K2 := Lib.hid (K1.out.over L2)
      have M2 := Lib.hid (step L1.out L2)
      clear hds L2 K1
      go_wp2_with (first
        | ((with_reducible show wpList _ _ _ (⟨some 6, _, _, _, _, _⟩ :: _) _ _); refine wpList_alloc_blk rfl _ rfl zs _ ZH ?_; intro h w3 hg3 hg4 Z3 L3)
        | ((with_reducible show wpList _ _ _ (⟨none, .store _ (.tmp 6) _, _, _, _, _⟩ :: _) _ _); refine wpList_store_blk rfl _ (.tmp 6) (.tmp 14) rfl h rfl _ zs ds rfl Z3 69 size_ask HZ HDL HDO ?_; intro w4 X4 O4 hg5; have L4 := Lib.hid (below_only L3.out O4.out hg3); have M4 := Lib.hid (step M2.out L4.out); have K4 := Lib.hid (K2.out.over L4.out); have HD4 := Lib.hid (HD.out.over L4.out))
        | ((with_reducible show wpList _ _ _ (⟨some 19, _, _, _, _, _⟩ :: _) _ _); refine wpList_load_want (by kernel_rfl) _ (.tmp 6) rfl h rfl _ ds X4 69 _ Tryd.underlying32 rfl size_ask HDL ?_)
        | fail)
      refine (CZ.out w4 ds HD4.out).mono ?_
      rintro e w5 ⟨rfl, L5⟩
      have M5 := Lib.hid (step M4.out L5)
      have K5 := Lib.hid (K4.out.over L5)
      have hs5 := M5.out.size
      clear L5 K4 HD4 HD CZ CB X4 O4 Z3 L3 L4 M4 M2 K2
      obtain ⟨gd, _, _⟩ := FA.out _ _ K5.out
      go_wp2_with fail
      refine (CT.out w5 M5.out).mono ?_
      rintro e w6 ⟨v, rfl, ho, L6⟩
      obtain ⟨Av, cv, rfl⟩ := ho.len
      clear ho
      go_wp2
      go_ret2
      exact HQ.out _ _ rfl (step M5.out L6)
  have b1 : (c == 1) = false := by simpa using h1
  by_cases h3 : c = 3
  · have CT : Hid (∀ w' : World, Below w.heap.size w w' → Calls Tryd.prog 35 #[.string a.share] w' fun e w2 => ∃ v, e = .returned (.tuple #[v, .int .i64 (ptextErr a.share.data.toList)]) ∧ Own w2 w'.heap.size v (ptextOf a.share.data.toList) ∧ Below w'.heap.size w' w2) := fun w' hb => PutText_any a.share w' hu1 (HT.out.below hb)
    have h2 : askErrP c a = ptextErr a.share.data.toList := by unfold askErrP; rw [if_pos ⟨hk, hz⟩, if_neg h0, if_neg h1, if_pos h3]
    have c3 : (c == 3) = true := by simpa using h3
    have HQ : Hid (∀ e w', (∃ v, e = .returned (.tuple #[v, .int .i64 (ptextErr a.share.data.toList)]) ∧ Own w' w.heap.size v (ptextOf a.share.data.toList) ∧ Below w.heap.size w w') → PAskPost w c a e w') := by
      intro e w' hh
      unfold PAskPost askOfP
      rw [h2, if_neg h0, if_neg h1, if_pos h3]
      by_cases hp : ptextErr a.share.data.toList = 0
      · rw [if_pos hp]; exact hh
      · rw [if_neg hp]; unfold ptextOf at hh; rw [if_neg hp] at hh; exact hh
    obtain ⟨er, her⟩ : ∃ x, x = ptextErr a.share.data.toList := ⟨_, rfl⟩
    obtain ⟨ys, hys⟩ : ∃ x, x = ptextOf a.share.data.toList := ⟨_, rfl⟩
    rw [← her, ← hys] at HQ CT
    obtain ⟨tx, htx⟩ : ∃ x, x = a.share := ⟨_, rfl⟩
    rw [← htx] at FA CT
    obtain ⟨b, hb⟩ : ∃ b, b = besideAsk c a := ⟨_, rfl⟩
    rw [← hb] at CB CZ kb
    clear hk hz HA ka ha h2 her hys htx h0 h1 h3 hb hu0 hu1
    have b1 : (c == 1) = false := by have h := c3; simp only [beq_iff_eq] at h; subst h; rfl
    go_enter Tryd.func12, Tryd.ntmps12
    go_wp2_with (first
      | ((with_reducible show wpList _ _ _ (⟨some 3, _, _, _, _, _⟩ :: _) _ _); refine wpList_box_blk rfl _ (.tmp 1) rfl cs rfl ?_; intro g w1 hg1 hg2 K1 L1)
      | ((with_reducible show wpList _ _ _ (⟨some 12, _, _, _, _, _⟩ :: _) _ _); refine wpList_load_blk rfl _ (.tmp 3) rfl g rfl _ cs K1 69 _ Tryd.underlying32 rfl size_ask HL ?_)
      | fail)
    refine (CB.out w1 L1.out).mono ?_
    rintro e w2 ⟨ds, rfl, hds, L2⟩
    have HD := Lib.hid hds
    have HDL := Lib.hid (hds.len kb)
    have HDO := Lib.hid hds.one
    have K2 := Lib.hid (K1.out.over L2)
    have M2 := Lib.hid (step L1.out L2)
    clear hds L2 K1
    go_wp2_with (first
      | ((with_reducible show wpList _ _ _ (⟨some 6, _, _, _, _, _⟩ :: _) _ _); refine wpList_alloc_blk rfl _ rfl zs _ ZH ?_; intro h w3 hg3 hg4 Z3 L3)
      | ((with_reducible show wpList _ _ _ (⟨none, .store _ (.tmp 6) _, _, _, _, _⟩ :: _) _ _); refine wpList_store_blk rfl _ (.tmp 6) (.tmp 14) rfl h rfl _ zs ds rfl Z3 69 size_ask HZ HDL HDO ?_; intro w4 X4 O4 hg5; have L4 := Lib.hid (below_only L3.out O4.out hg3); have M4 := Lib.hid (step M2.out L4.out); have K4 := Lib.hid (K2.out.over L4.out); have HD4 := Lib.hid (HD.out.over L4.out))
      | ((with_reducible show wpList _ _ _ (⟨some 19, _, _, _, _, _⟩ :: _) _ _); refine wpList_load_want (by kernel_rfl) _ (.tmp 6) rfl h rfl _ ds X4 69 _ Tryd.underlying32 rfl size_ask HDL ?_)
      | fail)
    refine (CZ.out w4 ds HD4.out).mono ?_
    rintro e w5 ⟨rfl, L5⟩
    have M5 := Lib.hid (step M4.out L5)
    have K5 := Lib.hid (K4.out.over L5)
    have hs5 := M5.out.size
    clear L5 K4 HD4 HD CZ CB X4 O4 Z3 L3 L4 M4 M2 K2
    obtain ⟨_, gd, _⟩ := FA.out _ _ K5.out
    go_wp2_with fail
    refine (CT.out w5 M5.out).mono ?_
    rintro e w6 ⟨v, rfl, ho, L6⟩
    have HO := Lib.hid ho
    have L6' := Lib.hid L6
    clear ho L6
    go_wp2
    go_ret2
    exact HQ.out _ _ ⟨_, rfl, HO.out.mono hs5, step M5.out L6'.out⟩
  have b3 : (c == 3) = false := by simpa using h3
  have h2 : askErrP c a = 0 := by unfold askErrP; rw [if_pos ⟨hk, hz⟩, if_neg h0, if_neg h1, if_neg h3]
  have HQ : Hid (∀ e w', (∃ v, e = .returned (.tuple #[v, .int .i64 0]) ∧ Own w' w.heap.size v (List.replicate 4 0) ∧ Below w.heap.size w w') → PAskPost w c a e w') := by
    intro e w' hh
    unfold PAskPost askOfP
    rw [h2, if_pos rfl, if_neg h0, if_neg h1, if_neg h3]
    exact hh
  obtain ⟨b, hb⟩ : ∃ b, b = besideAsk c a := ⟨_, rfl⟩
  rw [← hb] at CB CZ kb
  clear hk hz HA ka ha h2 h0 h1 h3 hb hu0 hu1
  go_enter Tryd.func12, Tryd.ntmps12
  go_wp2_with (first
    | ((with_reducible show wpList _ _ _ (⟨some 3, _, _, _, _, _⟩ :: _) _ _); refine wpList_box_blk rfl _ (.tmp 1) rfl cs rfl ?_; intro g w1 hg1 hg2 K1 L1)
    | ((with_reducible show wpList _ _ _ (⟨some 12, _, _, _, _, _⟩ :: _) _ _); refine wpList_load_blk rfl _ (.tmp 3) rfl g rfl _ cs K1 69 _ Tryd.underlying32 rfl size_ask HL ?_)
    | fail)
  refine (CB.out w1 L1.out).mono ?_
  rintro e w2 ⟨ds, rfl, hds, L2⟩
  have HD := Lib.hid hds
  have HDL := Lib.hid (hds.len kb)
  have HDO := Lib.hid hds.one
  have K2 := Lib.hid (K1.out.over L2)
  have M2 := Lib.hid (step L1.out L2)
  clear hds L2 K1
  go_wp2_with (first
    | ((with_reducible show wpList _ _ _ (⟨some 6, _, _, _, _, _⟩ :: _) _ _); refine wpList_alloc_blk rfl _ rfl zs _ ZH ?_; intro h w3 hg3 hg4 Z3 L3)
    | ((with_reducible show wpList _ _ _ (⟨none, .store _ (.tmp 6) _, _, _, _, _⟩ :: _) _ _); refine wpList_store_blk rfl _ (.tmp 6) (.tmp 14) rfl h rfl _ zs ds rfl Z3 69 size_ask HZ HDL HDO ?_; intro w4 X4 O4 hg5; have L4 := Lib.hid (below_only L3.out O4.out hg3); have M4 := Lib.hid (step M2.out L4.out); have K4 := Lib.hid (K2.out.over L4.out); have HD4 := Lib.hid (HD.out.over L4.out))
    | ((with_reducible show wpList _ _ _ (⟨some 19, _, _, _, _, _⟩ :: _) _ _); refine wpList_load_want (by kernel_rfl) _ (.tmp 6) rfl h rfl _ ds X4 69 _ Tryd.underlying32 rfl size_ask HDL ?_)
    | fail)
  refine (CZ.out w4 ds HD4.out).mono ?_
  rintro e w5 ⟨rfl, L5⟩
  have M5 := Lib.hid (step M4.out L5)
  have K5 := Lib.hid (K4.out.over L5)
  have hs5 := M5.out.size
  clear L5 K4 HD4 HD CZ CB X4 O4 Z3 L3 L4 M4 M2 K2
  go_wp2_with (at_make; refine wpList_make_bytes _ rfl _ _ rfl _ _ 4 rfl rfl rfl rfl (by omega) ?_; intro w6 R6 L6)
  go_ret2
  exact HQ.out _ _ ⟨_, rfl, row_zeros R6.out hs5 (by omega), step M5.out L6⟩
set_option maxHeartbeats 4000000 in
theorem PutSay_any (w : World) (c : Int) (cs : List Value) (a : SayV) (hc : 0 ≤ c ∧ c ≤ 65535) (ka : a.ok) (ha : SayIs w w.heap.size cs a) :
    Calls Tryd.prog 18 #[.int .u16 c, .agg cs.toArray] w (PSayPost w c a) := by
  have HL := Lib.hid (ha.len ka)
  have HO1 := Lib.hid ha.one
  have ZH := Lib.hid zero_say
  have HZ : Hid ((scells (.slice none 0 0) (.slice none 0 0) zeroSay).length = 20) := scells_len zeroSay_ok
  have HA := Lib.hid ha
  have CB : Hid (∀ w' : World, Below w.heap.size w w' → Calls Tryd.prog 46 #[.int .u16 c, .agg cs.toArray] w' fun e w2 => ∃ ds, e = .returned (.tuple #[.agg ds.toArray, .bool (knownT c)]) ∧ SayIs w2 w2.heap.size ds (if knownT c = true then besideSay c a else zeroSay) ∧ Below w'.heap.size w' w2) := fun w' hb => sayBeside_any w' c cs a hc ka (ha.over hb)
  obtain ⟨zs, hzs⟩ : ∃ zs, zs = scells (.slice none 0 0) (.slice none 0 0) zeroSay := ⟨_, rfl⟩
  rw [← hzs] at ZH HZ
  clear hzs
  by_cases hk : knownT c = true
  rotate_left
  · have hk' : knownT c = false := by simpa using hk
    have HQ : Hid (∀ e w', e = .returned (.tuple #[.slice none 0 0, .int .i64 2]) → Below w.heap.size w w' → PSayPost w c a e w') := by
      intro e w' he hb
      have h2 : sayErrP c a = 2 := by unfold sayErrP; rw [if_neg (fun h => hk h.1)]
      unfold PSayPost sayOfP
      rw [h2, if_neg (by decide)]
      exact ⟨_, he, Own.nil _ _, hb⟩
    rw [if_neg hk, hk'] at CB
    have kb := zeroSay_ok
    clear hk hk' HA ka ha
    go_enter Tryd.func18, Tryd.ntmps18
    go_wp2_with (first
      | ((with_reducible show wpList _ _ _ (⟨some 3, _, _, _, _, _⟩ :: _) _ _); refine wpList_box_blk rfl _ (.tmp 1) rfl cs rfl ?_; intro g w1 hg1 hg2 K1 L1)
      | ((with_reducible show wpList _ _ _ (⟨some 12, _, _, _, _, _⟩ :: _) _ _); refine wpList_load_blk rfl _ (.tmp 3) rfl g rfl _ cs K1 20 _ Tryd.underlying45 rfl size_say HL ?_)
      | fail)
    refine (CB.out w1 L1.out).mono ?_
    rintro e w2 ⟨ds, rfl, hds, L2⟩
    have HD := Lib.hid hds
    have HDL := Lib.hid (hds.len kb)
    have HDO := Lib.hid hds.one
    have K2 := Lib.hid (K1.out.over L2)
    have M2 := Lib.hid (step L1.out L2)
    clear hds L2 K1
    go_wp2_with (first
      | ((with_reducible show wpList _ _ _ (⟨some 6, _, _, _, _, _⟩ :: _) _ _); refine wpList_alloc_blk rfl _ rfl zs _ ZH ?_; intro h w3 hg3 hg4 Z3 L3)
      | ((with_reducible show wpList _ _ _ (⟨none, .store _ (.tmp 6) _, _, _, _, _⟩ :: _) _ _); refine wpList_store_blk rfl _ (.tmp 6) (.tmp 14) rfl h rfl _ zs ds rfl Z3 20 size_say HZ HDL HDO ?_; intro w4 X4 O4 hg5; have L4 := Lib.hid (below_only L3.out O4.out hg3); have M4 := Lib.hid (step M2.out L4.out); have K4 := Lib.hid (K2.out.over L4.out); have HD4 := Lib.hid (HD.out.over L4.out))
      | fail)
    go_ret2
    exact HQ.out _ _ rfl M4.out
  rw [if_pos hk, hk] at CB
  have kb := besideSay_ok (c := c) ka
  have CZ : Hid (∀ (w' : World) (ds : List Value), SayIs w' w'.heap.size ds (besideSay c a) → Calls Tryd.prog 47 #[.agg ds.toArray] w' fun e w2 => e = .returned (.bool (decide (besideSay c a = zeroSay))) ∧ Below w'.heap.size w' w2) := fun w' ds hds => isZeroSay_any w' ds _ kb hds
  by_cases hz : besideSay c a = zeroSay
  rotate_left
  · rw [decide_eq_false hz] at CZ
    have HQ : Hid (∀ e w', e = .returned (.tuple #[.slice none 0 0, .int .i64 2]) → Below w.heap.size w w' → PSayPost w c a e w') := by
      intro e w' he hb
      have h2 : sayErrP c a = 2 := by unfold sayErrP; rw [if_neg (fun h => hz h.2.1)]
      unfold PSayPost sayOfP
      rw [h2, if_neg (by decide)]
      exact ⟨_, he, Own.nil _ _, hb⟩
    obtain ⟨b, hb⟩ : ∃ b, b = besideSay c a := ⟨_, rfl⟩
    rw [← hb] at CB CZ kb
    clear hk hz HA ka ha hb
    go_enter Tryd.func18, Tryd.ntmps18
    go_wp2_with (first
      | ((with_reducible show wpList _ _ _ (⟨some 3, _, _, _, _, _⟩ :: _) _ _); refine wpList_box_blk rfl _ (.tmp 1) rfl cs rfl ?_; intro g w1 hg1 hg2 K1 L1)
      | ((with_reducible show wpList _ _ _ (⟨some 12, _, _, _, _, _⟩ :: _) _ _); refine wpList_load_blk rfl _ (.tmp 3) rfl g rfl _ cs K1 20 _ Tryd.underlying45 rfl size_say HL ?_)
      | fail)
    refine (CB.out w1 L1.out).mono ?_
    rintro e w2 ⟨ds, rfl, hds, L2⟩
    have HD := Lib.hid hds
    have HDL := Lib.hid (hds.len kb)
    have HDO := Lib.hid hds.one
    have K2 := Lib.hid (K1.out.over L2)
    have M2 := Lib.hid (step L1.out L2)
    clear hds L2 K1
    go_wp2_with (first
      | ((with_reducible show wpList _ _ _ (⟨some 6, _, _, _, _, _⟩ :: _) _ _); refine wpList_alloc_blk rfl _ rfl zs _ ZH ?_; intro h w3 hg3 hg4 Z3 L3)
      | ((with_reducible show wpList _ _ _ (⟨none, .store _ (.tmp 6) _, _, _, _, _⟩ :: _) _ _); refine wpList_store_blk rfl _ (.tmp 6) (.tmp 14) rfl h rfl _ zs ds rfl Z3 20 size_say HZ HDL HDO ?_; intro w4 X4 O4 hg5; have L4 := Lib.hid (below_only L3.out O4.out hg3); have M4 := Lib.hid (step M2.out L4.out); have K4 := Lib.hid (K2.out.over L4.out); have HD4 := Lib.hid (HD.out.over L4.out))
      | ((with_reducible show wpList _ _ _ (⟨some 19, _, _, _, _, _⟩ :: _) _ _); refine wpList_load_want (by kernel_rfl) _ (.tmp 6) rfl h rfl _ ds X4 20 _ Tryd.underlying45 rfl size_say HDL ?_)
      | fail)
    refine (CZ.out w4 ds HD4.out).mono ?_
    rintro e w5 ⟨rfl, L5⟩
    have M5 := Lib.hid (step M4.out L5)
    have K5 := Lib.hid (K4.out.over L5)
    have hs5 := M5.out.size
    clear L5 K4 HD4 HD CZ CB X4 O4 Z3 L3 L4 M4 M2 K2
    go_wp2
    go_ret2
    exact HQ.out _ _ rfl M5.out
  rw [decide_eq_true hz] at CZ
  by_cases h0 : c = 0
  rotate_left
  · have h2 : sayErrP c a = 0 := by unfold sayErrP; rw [if_pos ⟨hk, hz, fun h => absurd h h0⟩]
    have HQ : Hid (∀ e w', (∃ v, e = .returned (.tuple #[v, .int .i64 0]) ∧ Own w' w.heap.size v (List.replicate 4 0) ∧ Below w.heap.size w w') → PSayPost w c a e w') := by
      intro e w' hh
      unfold PSayPost sayOfP
      rw [h2, if_pos rfl, if_neg h0]
      exact hh
    have b0 : (c != 0) = true := by simpa using h0
    obtain ⟨b, hb⟩ : ∃ b, b = besideSay c a := ⟨_, rfl⟩
    rw [← hb] at CB CZ kb
    clear hk hz HA ka ha h2 h0 hb
    go_enter Tryd.func18, Tryd.ntmps18
    go_wp2_with (first
      | ((with_reducible show wpList _ _ _ (⟨some 3, _, _, _, _, _⟩ :: _) _ _); refine wpList_box_blk rfl _ (.tmp 1) rfl cs rfl ?_; intro g w1 hg1 hg2 K1 L1)
      | ((with_reducible show wpList _ _ _ (⟨some 12, _, _, _, _, _⟩ :: _) _ _); refine wpList_load_blk rfl _ (.tmp 3) rfl g rfl _ cs K1 20 _ Tryd.underlying45 rfl size_say HL ?_)
      | fail)
    refine (CB.out w1 L1.out).mono ?_
    rintro e w2 ⟨ds, rfl, hds, L2⟩
    have HD := Lib.hid hds
    have HDL := Lib.hid (hds.len kb)
    have HDO := Lib.hid hds.one
    have K2 := Lib.hid (K1.out.over L2)
    have M2 := Lib.hid (step L1.out L2)
    clear hds L2 K1
    go_wp2_with (first
      | ((with_reducible show wpList _ _ _ (⟨some 6, _, _, _, _, _⟩ :: _) _ _); refine wpList_alloc_blk rfl _ rfl zs _ ZH ?_; intro h w3 hg3 hg4 Z3 L3)
      | ((with_reducible show wpList _ _ _ (⟨none, .store _ (.tmp 6) _, _, _, _, _⟩ :: _) _ _); refine wpList_store_blk rfl _ (.tmp 6) (.tmp 14) rfl h rfl _ zs ds rfl Z3 20 size_say HZ HDL HDO ?_; intro w4 X4 O4 hg5; have L4 := Lib.hid (below_only L3.out O4.out hg3); have M4 := Lib.hid (step M2.out L4.out); have K4 := Lib.hid (K2.out.over L4.out); have HD4 := Lib.hid (HD.out.over L4.out))
      | ((with_reducible show wpList _ _ _ (⟨some 19, _, _, _, _, _⟩ :: _) _ _); refine wpList_load_want (by kernel_rfl) _ (.tmp 6) rfl h rfl _ ds X4 20 _ Tryd.underlying45 rfl size_say HDL ?_)
      | fail)
    refine (CZ.out w4 ds HD4.out).mono ?_
    rintro e w5 ⟨rfl, L5⟩
    have M5 := Lib.hid (step M4.out L5)
    have K5 := Lib.hid (K4.out.over L5)
    have hs5 := M5.out.size
    clear L5 K4 HD4 HD CZ CB X4 O4 Z3 L3 L4 M4 M2 K2
    go_wp2_with (at_make; refine wpList_make_bytes _ rfl _ _ rfl _ _ 4 rfl rfl rfl rfl (by omega) ?_; intro w6 R6 L6)
    go_ret2
    exact HQ.out _ _ ⟨_, rfl, row_zeros R6.out hs5 (by omega), step M5.out L6⟩
  have b0 : (c != 0) = false := by simpa using h0
  have FA : Hid (∀ (w : World) (g : Nat), Blk w g 45 cs → w.cell? ⟨g, 0, none⟩ = some (.int .u16 a.dia) ∧ w.cell? ⟨g, 1, none⟩ = some (.int .u64 a.siz) ∧ Holds w w.heap.size (some ⟨g, 2, none⟩) 8 8 a.chal) := by
    intro w g h
    obtain ⟨X1, X2, X3, M1, M2, M3, rfl, _⟩ := HA.out
    exact ⟨h.at rfl, h.at rfl, scells_chalH ka h⟩
  obtain ⟨s0, s1⟩ := ka.siz
  obtain ⟨d0, d1⟩ := ka.dia
  by_cases hs : a.siz < 4294967296
  rotate_left
  · have h2 : sayErrP c a = 2 := by unfold sayErrP; rw [if_neg (fun h => hs (h.2.2 h0))]
    have HQ : Hid (∀ e w', e = .returned (.tuple #[.slice none 0 0, .int .i64 2]) → Below w.heap.size w w' → PSayPost w c a e w') := by
      intro e w' he hb
      unfold PSayPost sayOfP
      rw [h2, if_neg (by decide)]
      exact ⟨_, he, Own.nil _ _, hb⟩
    have CP : Hid (∀ w' : World, Calls Tryd.prog 48 #[.int .u64 a.siz, .int .i64 4] w' fun e w2 => ∃ A', e = .returned (.tuple #[.slice A' 0 0, .int .i64 2]) ∧ Below w'.heap.size w' w2) := fun w' => by
      have h := Put_any w' a.siz 4 ⟨s0, s1⟩ (by omega)
      unfold PutPost at h
      have hp : putOk a.siz 4 = false := by unfold putOk; rw [show ((4 : Int).toNat) = 4 from rfl, show (256 : Int) ^ 4 = 4294967296 from by decide, decide_eq_false hs]; simp
      unfold putErr putOf at h
      rw [if_neg (by rw [hp]; decide), if_neg (by rw [hp]; decide)] at h
      exact h.mono fun e w2 ⟨A', h1, _, h3⟩ => ⟨A', h1, h3⟩
    obtain ⟨sz, hsz⟩ : ∃ x, x = a.siz := ⟨_, rfl⟩
    rw [← hsz] at FA CP
    obtain ⟨b, hb⟩ : ∃ b, b = besideSay c a := ⟨_, rfl⟩
    rw [← hb] at CB CZ kb
    clear hk hz HA ka ha h2 h0 hb hs s0 s1 hsz
    go_enter Tryd.func18, Tryd.ntmps18
    go_wp2_with (first
      | ((with_reducible show wpList _ _ _ (⟨some 3, _, _, _, _, _⟩ :: _) _ _); refine wpList_box_blk rfl _ (.tmp 1) rfl cs rfl ?_; intro g w1 hg1 hg2 K1 L1)
      | ((with_reducible show wpList _ _ _ (⟨some 12, _, _, _, _, _⟩ :: _) _ _); refine wpList_load_blk rfl _ (.tmp 3) rfl g rfl _ cs K1 20 _ Tryd.underlying45 rfl size_say HL ?_)
      | fail)
    refine (CB.out w1 L1.out).mono ?_
    rintro e w2 ⟨ds, rfl, hds, L2⟩
    have HD := Lib.hid hds
    have HDL := Lib.hid (hds.len kb)
    have HDO := Lib.hid hds.one
    have K2 := Lib.hid (K1.out.over L2)
    have M2 := Lib.hid (step L1.out L2)
    clear hds L2 K1
    go_wp2_with (first
      | ((with_reducible show wpList _ _ _ (⟨some 6, _, _, _, _, _⟩ :: _) _ _); refine wpList_alloc_blk rfl _ rfl zs _ ZH ?_; intro h w3 hg3 hg4 Z3 L3)
      | ((with_reducible show wpList _ _ _ (⟨none, .store _ (.tmp 6) _, _, _, _, _⟩ :: _) _ _); refine wpList_store_blk rfl _ (.tmp 6) (.tmp 14) rfl h rfl _ zs ds rfl Z3 20 size_say HZ HDL HDO ?_; intro w4 X4 O4 hg5; have L4 := Lib.hid (below_only L3.out O4.out hg3); have M4 := Lib.hid (step M2.out L4.out); have K4 := Lib.hid (K2.out.over L4.out); have HD4 := Lib.hid (HD.out.over L4.out))
      | ((with_reducible show wpList _ _ _ (⟨some 19, _, _, _, _, _⟩ :: _) _ _); refine wpList_load_want (by kernel_rfl) _ (.tmp 6) rfl h rfl _ ds X4 20 _ Tryd.underlying45 rfl size_say HDL ?_)
      | fail)
    refine (CZ.out w4 ds HD4.out).mono ?_
    rintro e w5 ⟨rfl, L5⟩
    have M5 := Lib.hid (step M4.out L5)
    have K5 := Lib.hid (K4.out.over L5)
    have hs5 := M5.out.size
    clear L5 K4 HD4 HD CZ CB X4 O4 Z3 L3 L4 M4 M2 K2
    obtain ⟨_, gd, _⟩ := FA.out _ _ K5.out
    go_wp2_with fail
    refine (CP.out w5).mono ?_
    rintro e w6 ⟨A', rfl, L6⟩
    go_wp2
    go_ret2
    exact HQ.out _ _ rfl (step M5.out L6)
  have h2 : sayErrP c a = 0 := by unfold sayErrP; rw [if_pos ⟨hk, hz, fun _ => hs⟩]
  have HQ : Hid (∀ e w', (∃ v, e = .returned (.tuple #[v, .int .i64 0]) ∧ Own w' w.heap.size v (le a.dia 2 ++ List.replicate 2 0 ++ le a.siz 4 ++ a.chal) ∧ Below w.heap.size w w') → PSayPost w c a e w') := by
    intro e w' hh
    unfold PSayPost sayOfP
    rw [h2, if_pos rfl, if_pos h0]
    exact hh
  have CP : Hid (∀ w' : World, Calls Tryd.prog 48 #[.int .u64 a.siz, .int .i64 4] w' fun e w2 => ∃ A', e = .returned (.tuple #[.slice A' 4 4, .int .i64 0]) ∧ Fresh w2 w'.heap.size A' (le a.siz 4) ∧ Below w'.heap.size w' w2) := fun w' => by
    have h := Put_any w' a.siz 4 ⟨s0, s1⟩ (by omega)
    unfold PutPost at h
    have hp : putOk a.siz 4 = true := by unfold putOk; rw [show ((4 : Int).toNat) = 4 from rfl, show (256 : Int) ^ 4 = 4294967296 from by decide, decide_eq_true hs]; rfl
    unfold putErr putOf at h
    rw [if_pos hp, if_pos hp, show ((4 : Int).toNat) = 4 from rfl, le_length] at h
    exact h
  have CD : Hid (∀ w' : World, Calls Tryd.prog 49 #[.int .u64 a.dia, .int .i64 2] w' fun e w2 => ∃ A', e = .returned (.slice A' 2 2) ∧ Fresh w2 w'.heap.size A' (le a.dia 2) ∧ Below w'.heap.size w' w2) := fun w' => number_le w' a.dia d0 d1
  have CC : Hid (∀ (w : World) (gs m : Nat) (A : Nat → Option Addr) (n c : Nat → Nat) (X : Nat → List Int), Parts w gs m A n c X → m ≤ 1000 → sumN n m ≤ 140737488355328 → Calls Tryd.prog 41 #[.slice (some ⟨gs, 0, none⟩) m m] w fun e w' => ∃ v, e = .returned v ∧ Own w' w.heap.size v (catL X m) ∧ Below w.heap.size w w') := ConcatN_any
  have hdz : IntKind.u64.wrap a.dia = a.dia := by rw [IntKind.wrap_u64]; omega
  have HLS : Hid ((le a.siz 4).length = 4) := le_length _ _
  have HBS : Hid (Bytes (le a.siz 4)) := le_bytes _ _
  have HLD : Hid ((le a.dia 2).length = 2) := le_length _ _
  have HBD : Hid (Bytes (le a.dia 2)) := le_bytes _ _
  obtain ⟨ls, hls⟩ : ∃ x, x = le a.siz 4 := ⟨_, rfl⟩
  obtain ⟨ld, hld⟩ : ∃ x, x = le a.dia 2 := ⟨_, rfl⟩
  rw [← hls, ← hld] at HQ
  rw [← hls] at CP HLS HBS
  rw [← hld] at CD HLD HBD
  obtain ⟨sz, hsz⟩ : ∃ x, x = a.siz := ⟨_, rfl⟩
  obtain ⟨dz, hdz'⟩ : ∃ x, x = a.dia := ⟨_, rfl⟩
  obtain ⟨ch, hch⟩ : ∃ x, x = a.chal := ⟨_, rfl⟩
  rw [← hsz, ← hdz', ← hch] at FA
  rw [← hsz] at CP
  rw [← hdz'] at CD hdz
  rw [← hch] at HQ
  obtain ⟨b, hb⟩ : ∃ b, b = besideSay c a := ⟨_, rfl⟩
  rw [← hb] at CB CZ kb
  clear hk hz HA ka ha h2 h0 hb hs s0 s1 d0 d1 hsz hdz' hch hls hld
  go_enter Tryd.func18, Tryd.ntmps18
  go_wp2_with (first
    | ((with_reducible show wpList _ _ _ (⟨some 3, _, _, _, _, _⟩ :: _) _ _); refine wpList_box_blk rfl _ (.tmp 1) rfl cs rfl ?_; intro g w1 hg1 hg2 K1 L1)
    | ((with_reducible show wpList _ _ _ (⟨some 12, _, _, _, _, _⟩ :: _) _ _); refine wpList_load_blk rfl _ (.tmp 3) rfl g rfl _ cs K1 20 _ Tryd.underlying45 rfl size_say HL ?_)
    | fail)
  refine (CB.out w1 L1.out).mono ?_
  rintro e w2 ⟨ds, rfl, hds, L2⟩
  have HD := Lib.hid hds
  have HDL := Lib.hid (hds.len kb)
  have HDO := Lib.hid hds.one
  have K2 := Lib.hid (K1.out.over L2)
  have M2 := Lib.hid (step L1.out L2)
  clear hds L2 K1
  go_wp2_with (first
    | ((with_reducible show wpList _ _ _ (⟨some 6, _, _, _, _, _⟩ :: _) _ _); refine wpList_alloc_blk rfl _ rfl zs _ ZH ?_; intro h w3 hg3 hg4 Z3 L3)
    | ((with_reducible show wpList _ _ _ (⟨none, .store _ (.tmp 6) _, _, _, _, _⟩ :: _) _ _); refine wpList_store_blk rfl _ (.tmp 6) (.tmp 14) rfl h rfl _ zs ds rfl Z3 20 size_say HZ HDL HDO ?_; intro w4 X4 O4 hg5; have L4 := Lib.hid (below_only L3.out O4.out hg3); have M4 := Lib.hid (step M2.out L4.out); have K4 := Lib.hid (K2.out.over L4.out); have HD4 := Lib.hid (HD.out.over L4.out))
    | ((with_reducible show wpList _ _ _ (⟨some 19, _, _, _, _, _⟩ :: _) _ _); refine wpList_load_want (by kernel_rfl) _ (.tmp 6) rfl h rfl _ ds X4 20 _ Tryd.underlying45 rfl size_say HDL ?_)
    | fail)
  refine (CZ.out w4 ds HD4.out).mono ?_
  rintro e w5 ⟨rfl, L5⟩
  have M5 := Lib.hid (step M4.out L5)
  have K5 := Lib.hid (K4.out.over L5)
  have hs5 := M5.out.size
  clear L5 K4 HD4 HD CZ CB X4 O4 Z3 L3 L4 M4 M2 K2
  obtain ⟨_, gd, _⟩ := FA.out _ _ K5.out
  go_wp2_with fail
  refine (CP.out w5).mono ?_
  rintro e w6 ⟨A6, rfl, hf6, L6⟩
  have K6 := Lib.hid (K5.out.over L6)
  have M6 := Lib.hid (step M5.out L6)
  have HF6 := Lib.hid (hf6.holds HLS.out HBS.out (by omega))
  clear hf6 L6 gd CP K5
  go_upto_region 9 with fail
  refine wp_region_held (S := fun w' => Blk w' g 45 cs) (by kernel_rfl) ?_
  change wpAnyH _ _ _ _ _ _ _ _ w6.drew
  have S0 : Hid (Blk w6.drew g 45 cs) := K6.out.drew
  have b0 : Hid (Below w.heap.size w w6.drew) := M6.out.drew
  refine wpAnyH_take (i := 0) (v := _) rfl (by kernel_rfl) (by kernel_rfl) (by kernel_rfl) (fun _ _ _ h => h) (yieldsIf_fld (by kernel_rfl) _ (.tmp 3) 0 rfl (.pointer (some ⟨g, 0, none⟩)) (.pointer (some ⟨g, 0, none⟩)) (by kernel_rfl) (fld_isZeroSay_0 g)) S0.out ?_
  refine wpAnyH_take (i := 1) (v := _) rfl (by kernel_rfl) (by kernel_rfl) (by kernel_rfl) (fun _ _ _ h => h) (yieldsIf_load_one (by kernel_rfl) _ (.tmp 35) rfl g 0 (by kernel_rfl) (.int .u16 dz) (fun w h => (FA.out w g h).1) _ Tryd.underlying22 rfl) S0.out ?_
  refine wpAnyH_take (i := 2) (v := (.int .u64 dz)) rfl (by kernel_rfl) (by kernel_rfl) (by kernel_rfl) (fun _ _ _ h => h) (.inl ⟨by kernel_rfl, fun w _ => by go_simp⟩) S0.out ?_
  refine wpAnyH_take (i := 5) (v := _) rfl (by kernel_rfl) (by kernel_rfl) (by kernel_rfl) (fun _ _ _ h => h) (yieldsIf_move (by kernel_rfl) (.tmp 8) rfl (.slice A6 4 4) (by kernel_rfl)) S0.out ?_
  refine wpAnyH_take (i := 6) (v := _) rfl (by kernel_rfl) (by kernel_rfl) (by kernel_rfl) (fun _ _ _ h => h) (yieldsIf_fld (by kernel_rfl) _ (.tmp 3) 2 rfl (.pointer (some ⟨g, 0, none⟩)) (.pointer (some ⟨g, 2, none⟩)) (by kernel_rfl) (fld_isZeroSay_2 g)) S0.out ?_
  refine wpAnyH_take (i := 7) (v := (.slice (some ⟨g, 2, none⟩) 8 8)) rfl (by kernel_rfl) (by kernel_rfl) (by kernel_rfl) (fun _ _ _ h => h) (.inl ⟨by kernel_rfl, fun w _ => by go_simp⟩) S0.out ?_
  refine wpAnyH_two 3 4 _ _ (by kernel_rfl) rfl rfl (fun K hK => ?_) (fun K hK => ?_)
  · go_simp
    refine (CD.out _).mono ?_
    rintro e v1 ⟨A3, rfl, hf3, L3⟩
    have S1 := Lib.hid (S0.out.over L3)
    have b1 := Lib.hid (step b0.out L3)
    have HN1 := Lib.hid (hf3.holds HLD.out HBD.out (by omega))
    have HS1 := Lib.hid (HF6.out.drew.over L3)
    refine hK _ _ S1.out ?_
    clear hK K hf3 L3
    refine wpAnyH_one 4 _ (by kernel_rfl) rfl fun K hK => ?_
    refine step_make_bytes rfl _ _ rfl 2 rfl rfl (by omega) ?_
    intro v2 R2 b2'
    have S2 := Lib.hid (S1.out.over b2'.out)
    have b2 := Lib.hid (step b1.out b2'.out)
    have HN2 := Lib.hid (HN1.out.over b2'.out)
    have HS2 := Lib.hid (HS1.out.over b2'.out)
    have HZ2 : Hid (Holds v2 v2.heap.size (some ⟨v1.heap.size, 0, none⟩) 2 2 (List.replicate 2 0)) := Fresh.holds (base := 0) (.inr ⟨_, rfl, Nat.zero_le _, R2.out⟩) rfl (Bytes.zeros 2) (by omega)
    refine hK _ _ S2.out ?_
    clear hK K
    refine wpAnyH_frame fun a1 ha1 => ?_
    refine wpAnyH_one 8 _ (by kernel_rfl) rfl fun K hK => ?_
    refine step_slice_blk rfl _ _ 4 _ rfl Tryd.underlying104 [.slice A3 2 2, .slice (some ⟨v1.heap.size, 0, none⟩) 2 2, .slice A6 4 4, .slice (some ⟨g, 2, none⟩) 8 8] (by rw [ha1]; kernel_rfl) ?_
    intro g9 v3 q2 q3 Y3 b3'
    have S3 := Lib.hid (S2.out.over b3'.out)
    have b3 := Lib.hid (step b2.out b3'.out)
    obtain ⟨_, _, hch⟩ := FA.out _ _ S3.out
    have PP : Hid (Parts v3 g9 4 (partA [(A3, 2, 2, ld), (some ⟨v1.heap.size, 0, none⟩, 2, 2, List.replicate 2 0), (A6, 4, 4, ls), (some ⟨g, 2, none⟩, 8, 8, ch)]) (partN [(A3, 2, 2, ld), (some ⟨v1.heap.size, 0, none⟩, 2, 2, List.replicate 2 0), (A6, 4, 4, ls), (some ⟨g, 2, none⟩, 8, 8, ch)]) (partC [(A3, 2, 2, ld), (some ⟨v1.heap.size, 0, none⟩, 2, 2, List.replicate 2 0), (A6, 4, 4, ls), (some ⟨g, 2, none⟩, 8, 8, ch)]) (partX [(A3, 2, 2, ld), (some ⟨v1.heap.size, 0, none⟩, 2, 2, List.replicate 2 0), (A6, 4, 4, ls), (some ⟨g, 2, none⟩, 8, 8, ch)])) :=
      Parts.of_blk [(A3, 2, 2, ld), (some ⟨v1.heap.size, 0, none⟩, 2, 2, List.replicate 2 0), (A6, 4, 4, ls), (some ⟨g, 2, none⟩, 8, 8, ch)] Y3.out (List.forall_mem_cons.2 ⟨HN2.out.over b3'.out, List.forall_mem_cons.2 ⟨HZ2.out.over b3'.out, List.forall_mem_cons.2 ⟨HS2.out.over b3'.out, List.forall_mem_cons.2 ⟨hch, fun _ h => by cases h⟩⟩⟩⟩)
    refine hK _ _ S3.out ?_
    clear hK K hch
    rw [ha1]
    clear ha1 a1
    refine wpAnyH_one 9 _ (by kernel_rfl) rfl fun K hK => ?_
    go_simp
    refine (CC.out v3 g9 4 _ _ _ _ PP.out (by omega) (by show 0 + 2 + 2 + 4 + 8 ≤ _; omega)).mono ?_
    rintro e v4 ⟨v, rfl, ho, L4⟩
    have HOUT := Lib.hid ho
    have S4 := Lib.hid (S3.out.over L4)
    have b4 := Lib.hid (step b3.out L4)
    refine hK _ _ S4.out ?_
    clear hK K ho L4
    refine wpAnyH_one 10 _ (by kernel_rfl) rfl fun K hK => ?_
    go_simp
    refine hK _ _ S4.out ?_
    clear hK K
    refine wpAnyH_one 11 _ (by kernel_rfl) rfl fun K hK => ?_
    go_simp
    refine hK _ _ S4.out ?_
    clear hK K
    refine wpAnyH_done (by kernel_rfl) ?_ _
    go_wp2
    go_ret2
    refine HQ.out _ _ ⟨_, rfl, ?_, b4.out⟩
    have h9 := HOUT.out.mono (base' := w.heap.size) b3.out.size
    simpa [catL, partX, List.append_assoc] using h9
  · refine step_make_bytes rfl _ _ rfl 2 rfl rfl (by omega) ?_
    intro v1 R1 b1'
    have S1 := Lib.hid (S0.out.over b1'.out)
    have b1 := Lib.hid (step b0.out b1'.out)
    have HS1 := Lib.hid (HF6.out.drew.over b1'.out)
    have HZ1 : Hid (Holds v1 v1.heap.size (some ⟨w6.drew.heap.size, 0, none⟩) 2 2 (List.replicate 2 0)) := Fresh.holds (base := 0) (.inr ⟨_, rfl, Nat.zero_le _, R1.out⟩) rfl (Bytes.zeros 2) (by omega)
    refine hK _ _ S1.out ?_
    clear hK K
    refine wpAnyH_one 3 _ (by kernel_rfl) rfl fun K hK => ?_
    go_simp
    refine (CD.out _).mono ?_
    rintro e v2 ⟨A3, rfl, hf3, L3⟩
    have S2 := Lib.hid (S1.out.over L3)
    have b2 := Lib.hid (step b1.out L3)
    have HN2 := Lib.hid (hf3.holds HLD.out HBD.out (by omega))
    have HS2 := Lib.hid (HS1.out.over L3)
    have HZ2 := Lib.hid (HZ1.out.over L3)
    refine hK _ _ S2.out ?_
    clear hK K hf3 L3
    refine wpAnyH_frame fun a1 ha1 => ?_
    refine wpAnyH_one 8 _ (by kernel_rfl) rfl fun K hK => ?_
    refine step_slice_blk rfl _ _ 4 _ rfl Tryd.underlying104 [.slice A3 2 2, .slice (some ⟨w6.drew.heap.size, 0, none⟩) 2 2, .slice A6 4 4, .slice (some ⟨g, 2, none⟩) 8 8] (by rw [ha1]; kernel_rfl) ?_
    intro g9 v3 q2 q3 Y3 b3'
    have S3 := Lib.hid (S2.out.over b3'.out)
    have b3 := Lib.hid (step b2.out b3'.out)
    obtain ⟨_, _, hch⟩ := FA.out _ _ S3.out
    have PP : Hid (Parts v3 g9 4 (partA [(A3, 2, 2, ld), (some ⟨w6.drew.heap.size, 0, none⟩, 2, 2, List.replicate 2 0), (A6, 4, 4, ls), (some ⟨g, 2, none⟩, 8, 8, ch)]) (partN [(A3, 2, 2, ld), (some ⟨w6.drew.heap.size, 0, none⟩, 2, 2, List.replicate 2 0), (A6, 4, 4, ls), (some ⟨g, 2, none⟩, 8, 8, ch)]) (partC [(A3, 2, 2, ld), (some ⟨w6.drew.heap.size, 0, none⟩, 2, 2, List.replicate 2 0), (A6, 4, 4, ls), (some ⟨g, 2, none⟩, 8, 8, ch)]) (partX [(A3, 2, 2, ld), (some ⟨w6.drew.heap.size, 0, none⟩, 2, 2, List.replicate 2 0), (A6, 4, 4, ls), (some ⟨g, 2, none⟩, 8, 8, ch)])) :=
      Parts.of_blk [(A3, 2, 2, ld), (some ⟨w6.drew.heap.size, 0, none⟩, 2, 2, List.replicate 2 0), (A6, 4, 4, ls), (some ⟨g, 2, none⟩, 8, 8, ch)] Y3.out (List.forall_mem_cons.2 ⟨HN2.out.over b3'.out, List.forall_mem_cons.2 ⟨HZ2.out.over b3'.out, List.forall_mem_cons.2 ⟨HS2.out.over b3'.out, List.forall_mem_cons.2 ⟨hch, fun _ h => by cases h⟩⟩⟩⟩)
    refine hK _ _ S3.out ?_
    clear hK K hch
    rw [ha1]
    clear ha1 a1
    refine wpAnyH_one 9 _ (by kernel_rfl) rfl fun K hK => ?_
    go_simp
    refine (CC.out v3 g9 4 _ _ _ _ PP.out (by omega) (by show 0 + 2 + 2 + 4 + 8 ≤ _; omega)).mono ?_
    rintro e v4 ⟨v, rfl, ho, L4⟩
    have HOUT := Lib.hid ho
    have S4 := Lib.hid (S3.out.over L4)
    have b4 := Lib.hid (step b3.out L4)
    refine hK _ _ S4.out ?_
    clear hK K ho L4
    refine wpAnyH_one 10 _ (by kernel_rfl) rfl fun K hK => ?_
    go_simp
    refine hK _ _ S4.out ?_
    clear hK K
    refine wpAnyH_one 11 _ (by kernel_rfl) rfl fun K hK => ?_
    go_simp
    refine hK _ _ S4.out ?_
    clear hK K
    refine wpAnyH_done (by kernel_rfl) ?_ _
    go_wp2
    go_ret2
    refine HQ.out _ _ ⟨_, rfl, ?_, b4.out⟩
    have h9 := HOUT.out.mono (base' := w.heap.size) b3.out.size
    simpa [catL, partX, List.append_assoc] using h9
end Go.Proofs.YtepkamkgodbffaaDoor

/-
  Contracts of the document's answer for layer 8 (refectoryref08): GetRow, GetText.
-/
namespace Go.Proofs.YtepkamkgodbffaaDoor
open Go.RowKit
set_option linter.unusedVariables false

/-- what GetRow answers -/
def GRowPost (w : World) (xs : List Int) (a most : Int) (e : Ending) (w' : World) : Prop :=
  ∃ v, e = .returned (.tuple #[v, .int .i64 (growNext xs a most), .int .i64 (growErr xs a most)]) ∧ Own w' w.heap.size v (growOf xs a most) ∧ Below w.heap.size w w'

set_option maxRecDepth 100000 in
set_option maxHeartbeats 1000000 in
theorem RGetRow_any (w : World) (A : Option Addr) (n c : Nat) (xs : List Int) (a most : Int) (h : Holds w w.heap.size A n c xs) (ha : -9223372036854775808 ≤ a ∧ a ≤ 9223372036854775807) (hm : -9223372036854775808 ≤ most ∧ most ≤ 9223372036854775807) :
    Calls Tryd.prog 32 #[.slice A n c, .int .i64 a, .int .i64 most] w (GRowPost w xs a most) := by
  have hl := h.len
  have hr := h.room
  have hf := h.fit
  obtain ⟨ha0, ha1⟩ := ha
  obtain ⟨hm0, hm1⟩ := hm
  have HE : Hid (∀ er, growErr xs a most = er → er ≠ 0 → ∀ e w', (∃ v, e = .returned (.tuple #[v, .int .i64 0, .int .i64 er]) ∧ Own w' w.heap.size v [] ∧ Below w.heap.size w w') → GRowPost w xs a most e w') := by
    intro er h1 h2 e w' hh
    unfold GRowPost growNext growOf
    rw [h1, if_neg h2, if_neg h2]
    exact hh
  by_cases h1 : a < 0
  · have HQ := Lib.hid (HE.out 2 (by unfold growErr; rw [if_pos (.inl h1)]) (by decide))
    clear HE h hl
    go_enter Tryd.func32, Tryd.ntmps32
    go_wp2
    go_ret3
    exact HQ.out _ _ ⟨_, rfl, Own.nil _ _, Below.refl _ _⟩
  by_cases h2 : (n : Int) < a
  · have HQ := Lib.hid (HE.out 2 (by unfold growErr; rw [hl, if_pos (.inr h2)]) (by decide))
    clear HE h hl
    go_enter Tryd.func32, Tryd.ntmps32
    go_wp2
    go_ret3
    exact HQ.out _ _ ⟨_, rfl, Own.nil _ _, Below.refl _ _⟩
  by_cases h3 : (n : Int) - a < 2
  · have HQ := Lib.hid (HE.out 4 (by unfold growErr; rw [hl, if_neg (by omega), if_pos h3]) (by decide))
    clear HE h hl
    go_enter Tryd.func32, Tryd.ntmps32
    go_wp2
    go_ret3
    exact HQ.out _ _ ⟨_, rfl, Own.nil _ _, Below.refl _ _⟩
  obtain ⟨p, rfl⟩ := Int.eq_ofNat_of_zero_le (show 0 ≤ a by omega)
  obtain ⟨b, off, rfl, hb, hc⟩ := h.cells (by omega)
  have gc0 := hc p (by omega)
  have gc1 := hc (p + 1) (by omega)
  have y0b := h.byte.getD p
  have y1b := h.byte.getD (p + 1)
  have hN : rowN xs (p : Int) = xs.getD p 0 + 256 * xs.getD (p + 1) 0 := by
    unfold rowN
    rw [Int.toNat_natCast]
    exact numAt2 xs p (by omega)
  have hNb := rowN_bounds xs h.byte (p : Int)
  obtain ⟨y0, hy0⟩ : ∃ y, y = xs.getD p 0 := ⟨_, rfl⟩
  obtain ⟨y1, hy1⟩ : ∃ y, y = xs.getD (p + 1) 0 := ⟨_, rfl⟩
  rw [← hy0] at gc0 y0b hN
  rw [← hy1] at gc1 y1b hN
  obtain ⟨y00, y01⟩ := y0b
  obtain ⟨y10, y11⟩ := y1b
  obtain ⟨m, hm'⟩ : ∃ m : Nat, y0 + 256 * y1 = (m : Int) := ⟨(y0 + 256 * y1).toNat, by omega⟩
  have hm65 : m ≤ 65535 := by omega
  rw [hm'] at hN
  have HX := Lib.hid h
  have HM := Lib.hid hm'
  have HN := Lib.hid hN
  have HL := Lib.hid hl
  have hap : ¬ ((p : Int) < 0 ∨ (n : Int) < (p : Int)) := by omega
  by_cases h4 : most < (m : Int)
  · have HQ := Lib.hid (HE.out 3 (by unfold growErr; rw [hl, if_neg hap, if_neg h3, hN, if_pos h4]) (by decide))
    clear HE hc hy0 hy1 hm' hN hNb h hl hap
    go_enter Tryd.func32, Tryd.ntmps32
    go_wp2
    go_quiet (fail)
    rw [HM.out]
    go_wp2
    go_ret3
    exact HQ.out _ _ ⟨_, rfl, Own.nil _ _, drewed _ _⟩
  by_cases h5 : (n : Int) - p - 2 < (m : Int)
  · have HQ := Lib.hid (HE.out 4 (by unfold growErr; rw [hl, if_neg hap, if_neg h3, hN, if_neg h4, if_pos h5]) (by decide))
    clear HE hc hy0 hy1 hm' hN hNb h hl hap
    go_enter Tryd.func32, Tryd.ntmps32
    go_wp2
    go_quiet (fail)
    rw [HM.out]
    go_wp2
    go_ret3
    exact HQ.out _ _ ⟨_, rfl, Own.nil _ _, drewed _ _⟩
  · have e0 : growErr xs (p : Int) most = 0 := by unfold growErr; rw [hl, if_neg hap, if_neg h3, hN, if_neg h4, if_neg h5]
    have HQ : Hid (∀ e w', (∃ v, e = .returned (.tuple #[v, .int .i64 ((p : Int) + 2 + m), .int .i64 0]) ∧ Own w' w.heap.size v ((xs.drop (p + 2)).take m) ∧ Below w.heap.size w w') → GRowPost w xs (p : Int) most e w') := by
      intro e w' hh
      unfold GRowPost growNext growOf
      rw [e0, if_pos rfl, if_pos rfl, HN.out, Int.toNat_natCast, Int.toNat_natCast]
      exact hh
    have hpart : ∀ w' : World, Below w.heap.size w w' → ∀ c', m ≤ c' → Holds w' w'.heap.size (some ⟨b, off + (p + 2), none⟩) m c' ((xs.drop (p + 2)).take m) := fun w' hb c' hc' => by
      rcases Nat.eq_zero_or_pos m with hm0 | hm0
      · rw [hm0, List.take_zero]
        exact Holds.empty _ _ _ _ (fun h0 => by cases h0)
      · have := ((HX.out.over hb).part (k := p + 2) (m := m) (c' := c') (by omega) hm0 hc')
        simpa [Addr.add] using this
    have HP := Lib.hid hpart
    have hmz : c = p + 2 → m = 0 := fun e => by omega
    clear HE hc hy0 hy1 hm' hN hNb h hl hap e0 hpart
    by_cases hcq : c = p + 2
    · have HM0 := Lib.hid (hmz hcq)
      clear hmz
      go_enter Tryd.func32, Tryd.ntmps32
      go_wp2
      go_quiet (fail)
      rw [HM.out]
      go_wp2_with fail
      have hz : Holds (w.drewN nq) (w.drewN nq).heap.size (some ⟨b, off, none⟩) m 0 ((xs.drop (p + 2)).take m) := by
        rw [HM0.out, List.take_zero]
        exact Holds.empty _ _ _ _ (fun h0 => by cases h0)
      refine (Copy_any _ _ _ _ _ hz (by omega)).mono ?_
      rintro e w1 ⟨v, rfl, ho, L1⟩
      have HO := Lib.hid ho
      have L1' := Lib.hid L1
      clear ho L1 hz
      go_wp2
      go_ret3
      exact HQ.out _ _ ⟨_, rfl, HO.out, step (drewed _ _) L1'.out⟩
    · clear hmz
      go_enter Tryd.func32, Tryd.ntmps32
      go_wp2
      go_quiet (fail)
      rw [HM.out]
      go_wp2_with fail
      refine (Copy_any _ _ _ _ _ (HP.out _ (drewed w _) _ (by omega)) (by omega)).mono ?_
      rintro e w1 ⟨v, rfl, ho, L1⟩
      have HO := Lib.hid ho
      have L1' := Lib.hid L1
      clear ho L1
      go_wp2
      go_ret3
      exact HQ.out _ _ ⟨_, rfl, HO.out, step (drewed _ _) L1'.out⟩

/-- what GetText answers -/
def GTextPost (w : World) (xs : List Int) (a : Int) (e : Ending) (w' : World) : Prop :=
  e = .returned (.tuple #[.string ⟨(gtextOf xs a).toArray⟩, .int .i64 (gtextNext xs a), .int .i64 (gtextErr xs a)]) ∧ Below w.heap.size w w'

set_option maxHeartbeats 400000 in
theorem RGetText_any (w : World) (A : Option Addr) (n c : Nat) (xs : List Int) (a : Int) (h : Holds w w.heap.size A n c xs) (ha : -9223372036854775808 ≤ a ∧ a ≤ 9223372036854775807) :
    Calls Tryd.prog 34 #[.slice A n c, .int .i64 a] w (GTextPost w xs a) := by
  have C1 := RGetRow_any w A n c xs a 512 h ha (by omega)
  unfold GRowPost at C1
  have hb := h.byte
  have hrb := growOf_bytes hb a 512
  have hrl := growOf_le hb a 512
  by_cases h0 : growErr xs a 512 = 0
  · have CG : Hid (∀ (w : World) (A : Option Addr) (n c : Nat), Holds w w.heap.size A n c (growOf xs a 512) → Calls Tryd.prog 66 #[.slice A n c] w (GetPost w (growOf xs a 512))) := fun w A n c hh => TRGet_any w A n c _ hh (by have := hh.len; omega)
    unfold GetPost at CG
    have e0 : gtextErr xs a = getTErr (growOf xs a 512) := by unfold gtextErr; rw [if_pos h0]
    have HQ0 : Hid (getTErr (growOf xs a 512) = 0 → ∀ e w', (e = .returned (.tuple #[.string ⟨(getText (growOf xs a 512)).toArray⟩, .int .i64 (growNext xs a 512), .int .i64 0]) ∧ Below w.heap.size w w') → GTextPost w xs a e w') := by
      intro h1 e w' hh
      unfold GTextPost gtextOf gtextNext
      rw [e0, h1, if_pos rfl, if_pos rfl]
      exact hh
    have HQ5 : Hid (getTErr (growOf xs a 512) ≠ 0 → ∀ e w', (e = .returned (.tuple #[.string .empty, .int .i64 0, .int .i64 (getTErr (growOf xs a 512))]) ∧ Below w.heap.size w w') → GTextPost w xs a e w') := by
      intro h1 e w' hh
      unfold GTextPost gtextOf gtextNext
      rw [e0, if_neg h1, if_neg h1]
      exact hh
    rw [h0] at C1
    obtain ⟨nx, hnx⟩ : ∃ nx, nx = growNext xs a 512 := ⟨_, rfl⟩
    obtain ⟨rs, hrs⟩ : ∃ rs, rs = growOf xs a 512 := ⟨_, rfl⟩
    rw [← hnx] at C1 HQ0
    rw [← hrs] at C1 CG HQ0 HQ5 hrb hrl
    obtain ⟨er, her⟩ : ∃ er, er = getTErr rs := ⟨_, rfl⟩
    obtain ⟨tx, htx⟩ : ∃ tx : ByteArray, tx = ⟨(getText rs).toArray⟩ := ⟨_, rfl⟩
    rw [← her, ← htx] at CG
    rw [← her] at HQ5
    rw [← her, ← htx] at HQ0
    have HRB := Lib.hid hrb
    have HRL := Lib.hid hrl
    have C1' := Lib.hid C1
    clear C1 hnx hrs her htx e0 h0 hb hrb hrl
    by_cases h1 : er = 0
    · have HQ := Lib.hid (HQ0.out h1)
      rw [h1] at CG
      clear HQ0 HQ5 h1
      go_enter Tryd.func34, Tryd.ntmps34
      go_wp2_with fail
      refine C1'.out.mono ?_
      rintro e w1 ⟨v, rfl, ho, L1⟩
      obtain ⟨A1, c1, rfl, hh⟩ := ho.holds HRB.out (by have := HRL.out; omega)
      have HH := Lib.hid hh
      have L1' := Lib.hid L1
      clear ho hh L1
      go_wp2_with fail
      refine (CG.out _ _ _ _ HH.out).mono ?_
      rintro e w2 ⟨rfl, L2⟩
      go_wp2
      go_ret3
      exact HQ.out _ _ ⟨rfl, step L1'.out L2⟩
    · have HQ := Lib.hid (HQ5.out h1)
      have hne : (er != 0) = true := by simpa using h1
      clear HQ0 HQ5 h1
      go_enter Tryd.func34, Tryd.ntmps34
      go_wp2_with fail
      refine C1'.out.mono ?_
      rintro e w1 ⟨v, rfl, ho, L1⟩
      obtain ⟨A1, c1, rfl, hh⟩ := ho.holds HRB.out (by have := HRL.out; omega)
      have HH := Lib.hid hh
      have L1' := Lib.hid L1
      clear ho hh L1
      go_wp2_with fail
      refine (CG.out _ _ _ _ HH.out).mono ?_
      rintro e w2 ⟨rfl, L2⟩
      go_wp2
      go_ret3
      exact HQ.out _ _ ⟨rfl, step L1'.out L2⟩
  · have HQ : Hid (∀ e w', (e = .returned (.tuple #[.string .empty, .int .i64 0, .int .i64 (growErr xs a 512)]) ∧ Below w.heap.size w w') → GTextPost w xs a e w') := by
      intro e w' hh
      have e0 : gtextErr xs a = growErr xs a 512 := by unfold gtextErr; rw [if_neg h0]
      unfold GTextPost gtextOf gtextNext
      rw [e0, if_neg h0, if_neg h0]
      exact hh
    obtain ⟨er, her⟩ : ∃ er, er = growErr xs a 512 := ⟨_, rfl⟩
    obtain ⟨nx, hnx⟩ : ∃ nx, nx = growNext xs a 512 := ⟨_, rfl⟩
    rw [← her, ← hnx] at C1
    rw [← her] at HQ h0
    have C1' := Lib.hid C1
    have hne : (er != 0) = true := by simpa using h0
    clear C1 her hnx h0 hb hrb hrl
    go_enter Tryd.func34, Tryd.ntmps34
    go_wp2_with fail
    refine C1'.out.mono ?_
    rintro e w1 ⟨v, rfl, ho, L1⟩
    go_wp2
    go_ret3
    exact HQ.out _ _ ⟨rfl, L1⟩
end Go.Proofs.YtepkamkgodbffaaDoor

/-
  Contracts of the document's reader (refectoryref08.Reader): N, Most, Part, Text, End.
-/
namespace Go.Proofs.YtepkamkgodbffaaDoor
open Go.RowKit
set_option linter.unusedVariables false

/-- a reader: its place, and its first error -/
structure Rd where
  p : Nat
  e : Int
def rdN (xs : List Int) (s : Nat) (r : Rd) : Int × Rd := if r.e = 0 then (if xs.length < r.p + s then (0, ⟨r.p, 4⟩) else (numAt xs r.p s, ⟨r.p + s, 0⟩)) else (0, r)
def rdMost (xs : List Int) (s : Nat) (most er : Int) (r : Rd) : Int × Rd := if (rdN xs s r).2.e = 0 ∧ most < (rdN xs s r).1 then (0, ⟨(rdN xs s r).2.p, er⟩) else rdN xs s r
def rdPart (xs : List Int) (m : Nat) (r : Rd) : List Int × Rd := if r.e = 0 then (if xs.length < r.p + m then ([], ⟨r.p, 4⟩) else ((xs.drop r.p).take m, ⟨r.p + m, 0⟩)) else ([], r)
def rdText (xs : List Int) (r : Rd) : List UInt8 × Rd := if r.e = 0 then (gtextOf xs r.p, ⟨if gtextErr xs r.p = 0 then (gtextNext xs r.p).toNat else r.p, gtextErr xs r.p⟩) else ([], r)
def rdEnd (xs : List Int) (r : Rd) : Int := if r.e = 0 ∧ r.p ≠ xs.length then 5 else r.e

theorem rq_same {P : Program} {f : FuncId} {args : Array Value} {w : World} {n : Nat} {v : Value}
    (h : Calls P f args (w.drewN n) fun e w' => e = .returned v ∧ w.drewN n = w') : Calls P f args (w.drewN n) fun e w'' => e = .returned v ∧ ∃ m, w'' = w.drewN m :=
  h.mono fun _ _ ⟨he, hm⟩ => ⟨he, n, hm.symm⟩

/-- the reader in block g, over the bytes xs -/
def RdIs (w : World) (g : Nat) (A : Option Addr) (n c : Nat) (r : Rd) : Prop := Blk w g 93 [.slice A n c, .int .i64 r.p, .int .i64 r.e]
theorem save_drewN (g : Nat) (w : World) (k : Nat) : Save g w (w.drewN k) := ⟨rfl, rfl, rfl, Nat.le_refl _, fun _ _ _ => rfl⟩
theorem Save.setCell {g : Nat} {w w' : World} (h : Save g w w') (i : Nat) (v : Value) : Save g w (w'.setCell ⟨g, i, none⟩ v) := h.trans (Save.of_only (only_setCell w' g i v))
theorem Save.drewN {g : Nat} {w w' : World} (h : Save g w w') (k : Nat) : Save g w (w'.drewN k) := h.trans (save_drewN g w' k)

/-- what a number's reading answers -/
def RdNPost (w : World) (g : Nat) (A : Option Addr) (n c : Nat) (q : Int × Rd) (e : Ending) (w' : World) : Prop := e = .returned (.int .u64 q.1) ∧ RdIs w' g A n c q.2 ∧ Save g w w'

set_option maxRecDepth 100000 in
set_option maxHeartbeats 1000000 in
theorem rdN_any (w : World) (g B : Nat) (A : Option Addr) (n c : Nat) (xs : List Int) (r : Rd) (s : Nat) (hB : RdIs w g A n c r) (hx : Holds w B A n c xs) (hg : B ≤ g) (hp : r.p ≤ n) (hs : sizeOk (s : Int) = true) :
    Calls Tryd.prog 57 #[.pointer (some ⟨g, 0, none⟩), .int .i64 (s : Int)] w (RdNPost w g A n c (rdN xs s r)) := by
  obtain ⟨p, er⟩ := r
  have hl := hx.len
  have hrm := hx.room
  have hs8 : 1 ≤ s ∧ s ≤ 8 := by rcases sizeOk_cases hs with h | h | h | h <;> omega
  obtain ⟨hs1, hs8⟩ := hs8
  change p ≤ n at hp
  have hlt := hB.lt
  have c0 := Blk.cell hB 0
  have c1 := Blk.cell hB 1
  have c2 := Blk.cell hB 2
  change w.cell? ⟨g, 0, none⟩ = some (.slice A n c) at c0
  change w.cell? ⟨g, 1, none⟩ = some (.int .i64 (p : Int)) at c1
  change w.cell? ⟨g, 2, none⟩ = some (.int .i64 er) at c2
  have f1 := Blk.frozen hB 1
  have f2 := Blk.frozen hB 2
  by_cases he : er = 0
  · subst he
    by_cases hr : n < p + s
    · have HQ : Hid (∀ e w', (e = .returned (.int .u64 0) ∧ Blk w' g 93 [.slice A n c, .int .i64 (p : Int), .int .i64 4] ∧ Save g w w') → RdNPost w g A n c (rdN xs s ⟨p, 0⟩) e w') := by
        intro e w' hh
        unfold rdN
        rw [if_pos rfl, if_pos (by rw [hl]; exact hr)]
        exact hh
      have HR0 := Lib.hid hB
      have hd : ((n : Int) - (p : Int) < (s : Int)) := by omega
      clear hB hx hl
      go_enter Tryd.func57, Tryd.ntmps57
      go_wp2
      go_quiet (fail)
      go_wp2
      go_ret
      refine HQ.out _ _ ⟨rfl, ?_, (save_drewN g w _).setCell 2 _⟩
      exact Blk.set (Blk.drewN HR0.out _) 2 _
    · have CG : Hid (∀ w : World, Holds w B A n c xs → Calls Tryd.prog 73 #[.slice A n c, .int .i64 (p : Int), .int .i64 (s : Int)] w fun e w' => e = .returned (.tuple #[.int .u64 (numAt xs p s), .int .i64 0]) ∧ w = w') := fun w hh => by
        have h1 := RGet_any w B A n c xs p s hh (by omega) (by omega)
        have e1 : getErr n (p : Int) (s : Int) = 0 := by
          unfold getErr partErr
          rw [if_pos hs, if_neg (by omega), if_neg (by omega)]
        have e2 : getOf xs (p : Int) (s : Int) = numAt xs p s := by
          unfold getOf numAt
          rw [hl, e1, if_pos rfl, Int.toNat_natCast, Int.toNat_natCast]
        rwa [e1, e2] at h1
      have HQ : Hid (∀ e w', (e = .returned (.int .u64 (numAt xs p s)) ∧ Blk w' g 93 [.slice A n c, .int .i64 ((p : Int) + s), .int .i64 0] ∧ Save g w w') → RdNPost w g A n c (rdN xs s ⟨p, 0⟩) e w') := by
        intro e w' hh
        unfold rdN
        rw [if_pos rfl, if_neg (by rw [hl]; exact hr)]
        unfold RdNPost RdIs
        rw [show ((p + s : Nat) : Int) = (p : Int) + s from by omega]
        exact hh
      have HR0 := Lib.hid hB
      have HX := Lib.hid hx
      obtain ⟨z, hz⟩ : ∃ z, z = numAt xs p s := ⟨_, rfl⟩
      rw [← hz] at CG HQ
      have hd : ¬ ((n : Int) - (p : Int) < (s : Int)) := by omega
      clear hB hx hl hz
      go_enter Tryd.func57, Tryd.ntmps57
      go_wp2
      go_quiet (fail)
      go_wp2
      obtain ⟨wq, hwq⟩ : ∃ wq, wq = w.drewN nq := ⟨_, rfl⟩
      have d0 : wq.cell? ⟨g, 0, none⟩ = some (.slice A n c) := by rw [hwq]; exact c0
      have d1 : wq.cell? ⟨g, 1, none⟩ = some (.int .i64 (p : Int)) := by rw [hwq]; exact c1
      have d2 : wq.cell? ⟨g, 2, none⟩ = some (.int .i64 0) := by rw [hwq]; exact c2
      have e1 : wq.frozen? ⟨g, 1, none⟩ = false := by rw [hwq]; exact f1
      have HRq : Hid (Blk wq g 93 [.slice A n c, .int .i64 (p : Int), .int .i64 0]) := by rw [hwq]; exact Blk.drewN HR0.out _
      have HXq : Hid (Holds wq B A n c xs) := by rw [hwq]; exact HX.out.drewN _
      have HSq : Hid (Save g w wq) := by rw [hwq]; exact save_drewN g w _
      rw [← hwq]
      have CGq : Hid (∀ k : Nat, Calls Tryd.prog 73 #[.slice A n c, .int .i64 (p : Int), .int .i64 (s : Int)] (wq.drewN k) fun e w' => e = .returned (.tuple #[.int .u64 z, .int .i64 0]) ∧ wq.drewN k = w') := fun k => CG.out _ (HXq.out.drewN k)
      clear hwq c0 c1 c2 f1 f2 HR0 HX CG
      go_quiet ((go_at_call 73; ((with_reducible exact rq_same (CGq.out _)))))
      go_wp2
      go_ret
      exact HQ.out _ _ ⟨rfl, Blk.set (Blk.drewN HRq.out _) 1 _, (HSq.out.drewN _).setCell 1 _⟩
  · have HQ : Hid (∀ e w', (e = .returned (.int .u64 0) ∧ Blk w' g 93 [.slice A n c, .int .i64 (p : Int), .int .i64 er] ∧ Save g w w') → RdNPost w g A n c (rdN xs s ⟨p, er⟩) e w') := by
      intro e w' hh
      unfold rdN
      rw [if_neg he]
      exact hh
    have HR0 := Lib.hid hB
    have hne : (er != 0) = true := by simpa using he
    clear hB hx hl he
    go_enter Tryd.func57, Tryd.ntmps57
    go_wp2
    go_ret
    exact HQ.out _ _ ⟨rfl, HR0.out, Save.refl g w⟩
end Go.Proofs.YtepkamkgodbffaaDoor

/-
  Contracts of the document's reader (refectoryref08.Reader): Most, Part, Text, End (two regions written by tools/gen_reft3.py).
-/
namespace Go.Proofs.YtepkamkgodbffaaDoor
open Go.RowKit
set_option linter.unusedVariables false

theorem fld_rd0 (g : Nat) (w : World) : (Instr.fieldAt 93 (.pointer (some ⟨g, 0, none⟩)) 0).run Tryd.prog w = .ok (.pointer (some ⟨g, 0, none⟩)) w := by go_simp
theorem fld_rd1 (g : Nat) (w : World) : (Instr.fieldAt 93 (.pointer (some ⟨g, 0, none⟩)) 1).run Tryd.prog w = .ok (.pointer (some ⟨g, 1, none⟩)) w := by go_simp
theorem fld_rd2 (g : Nat) (w : World) : (Instr.fieldAt 93 (.pointer (some ⟨g, 0, none⟩)) 2).run Tryd.prog w = .ok (.pointer (some ⟨g, 2, none⟩)) w := by go_simp

set_option maxRecDepth 100000 in
set_option maxHeartbeats 1000000 in
theorem rdMost_any (w : World) (g B : Nat) (A : Option Addr) (n c : Nat) (xs : List Int) (r : Rd) (s : Nat) (most er : Int) (hB : RdIs w g A n c r) (hx : Holds w B A n c xs) (hg : B ≤ g) (hp : r.p ≤ n) (hs : sizeOk (s : Int) = true) :
    Calls Tryd.prog 56 #[.pointer (some ⟨g, 0, none⟩), .int .i64 (s : Int), .int .u64 most, .int .i64 er] w (RdNPost w g A n c (rdMost xs s most er r)) := by
  have C1 := rdN_any w g B A n c xs r s hB hx hg hp hs
  have hQ : ∀ e w', RdNPost w g A n c (if (rdN xs s r).2.e = 0 ∧ most < (rdN xs s r).1 then (0, ⟨(rdN xs s r).2.p, er⟩) else rdN xs s r) e w' → RdNPost w g A n c (rdMost xs s most er r) e w' := fun _ _ h => h
  obtain ⟨q, hq⟩ : ∃ q, q = rdN xs s r := ⟨_, rfl⟩
  rw [← hq] at C1 hQ
  obtain ⟨x, p, e0⟩ := q
  unfold RdNPost RdIs at C1
  have C1' := Lib.hid C1
  clear C1 hq hB hx
  by_cases he : e0 = 0
  · subst he
    by_cases hm : most < x
    · have HQ : Hid (∀ e w', (e = .returned (.int .u64 0) ∧ Blk w' g 93 [.slice A n c, .int .i64 (p : Int), .int .i64 er] ∧ Save g w w') → RdNPost w g A n c (rdMost xs s most er r) e w') := by
        intro e w' hh
        refine hQ e w' ?_
        rw [if_pos ⟨rfl, hm⟩]
        exact hh
      clear hQ
      go_enter Tryd.func56, Tryd.ntmps56
      go_wp2_with fail
      refine C1'.out.mono ?_
      rintro e w1 ⟨rfl, R1, S1⟩
      have c2 : w1.cell? ⟨g, 2, none⟩ = some (.int .i64 0) := R1.at rfl
      have f2 := Blk.frozen R1 2
      have HR1 := Lib.hid R1
      have HS1 := Lib.hid S1
      clear R1 S1 C1'
      go_wp2
      go_ret
      exact HQ.out _ _ ⟨rfl, Blk.set HR1.out 2 _, HS1.out.setCell 2 _⟩
    · have HQ : Hid (∀ e w', (e = .returned (.int .u64 x) ∧ Blk w' g 93 [.slice A n c, .int .i64 (p : Int), .int .i64 0] ∧ Save g w w') → RdNPost w g A n c (rdMost xs s most er r) e w') := by
        intro e w' hh
        refine hQ e w' ?_
        rw [if_neg (fun h => hm h.2)]
        exact hh
      clear hQ
      go_enter Tryd.func56, Tryd.ntmps56
      go_wp2_with fail
      refine C1'.out.mono ?_
      rintro e w1 ⟨rfl, R1, S1⟩
      have c2 : w1.cell? ⟨g, 2, none⟩ = some (.int .i64 0) := R1.at rfl
      have HR1 := Lib.hid R1
      have HS1 := Lib.hid S1
      clear R1 S1 C1'
      go_wp2
      go_ret
      exact HQ.out _ _ ⟨rfl, HR1.out, HS1.out⟩
  · have HQ : Hid (∀ e w', (e = .returned (.int .u64 x) ∧ Blk w' g 93 [.slice A n c, .int .i64 (p : Int), .int .i64 e0] ∧ Save g w w') → RdNPost w g A n c (rdMost xs s most er r) e w') := by
      intro e w' hh
      refine hQ e w' ?_
      rw [if_neg (fun h => he h.1)]
      exact hh
    have hne : (e0 == 0) = false := by simpa using he
    clear hQ he
    go_enter Tryd.func56, Tryd.ntmps56
    go_wp2_with fail
    refine C1'.out.mono ?_
    rintro e w1 ⟨rfl, R1, S1⟩
    have c2 : w1.cell? ⟨g, 2, none⟩ = some (.int .i64 e0) := R1.at rfl
    have HR1 := Lib.hid R1
    have HS1 := Lib.hid S1
    clear R1 S1 C1'
    go_wp2
    go_ret
    exact HQ.out _ _ ⟨rfl, HR1.out, HS1.out⟩

set_option maxRecDepth 100000 in
set_option maxHeartbeats 1000000 in
theorem rdEnd_any (w : World) (g : Nat) (A : Option Addr) (n c : Nat) (xs : List Int) (r : Rd) (hB : RdIs w g A n c r) (hl : xs.length = n) (hn : n ≤ 281474976710656) (hp : r.p ≤ n) :
    Calls Tryd.prog 60 #[.pointer (some ⟨g, 0, none⟩)] w fun e w' => e = .returned (.int .i64 (rdEnd xs r)) ∧ ∃ k, w.drewN k = w' := by
  obtain ⟨p, er⟩ := r
  change p ≤ n at hp
  have c0 : w.cell? ⟨g, 0, none⟩ = some (.slice A n c) := Blk.at hB rfl
  have c1 : w.cell? ⟨g, 1, none⟩ = some (.int .i64 (p : Int)) := Blk.at hB rfl
  have c2 : w.cell? ⟨g, 2, none⟩ = some (.int .i64 er) := Blk.at hB rfl
  have hR : rdEnd xs ⟨p, er⟩ = if er = 0 ∧ p ≠ n then 5 else er := by unfold rdEnd; rw [hl]
  rw [hR]
  clear hB hR
  by_cases he : er = 0
  · subst he
    by_cases hpn : p = n
    · rw [if_neg (fun h => h.2 hpn)]
      have hb : ((p : Int) != (n : Int)) = false := by rw [hpn]; simp
      clear hpn
      go_enter Tryd.func60, Tryd.ntmps60
      go_wp2
      go_quiet (fail)
      go_wp2
      go_ret
      exact ⟨rfl, _, rfl⟩
    · rw [if_pos ⟨rfl, hpn⟩]
      have hb : ((p : Int) != (n : Int)) = true := by simpa using (fun h : (p : Int) = (n : Int) => hpn (by omega))
      clear hpn
      go_enter Tryd.func60, Tryd.ntmps60
      go_wp2
      go_quiet (fail)
      go_wp2
      go_ret
      exact ⟨rfl, _, rfl⟩
  · rw [if_neg (fun h => he h.1)]
    have hb : (er == 0) = false := by simpa using he
    clear he
    go_enter Tryd.func60, Tryd.ntmps60
    go_wp2
    go_quiet (fail)
    go_wp2
    go_ret
    exact ⟨rfl, _, rfl⟩

/-- what a part's reading answers -/
def RdPartPost (w : World) (g : Nat) (A : Option Addr) (n c : Nat) (q : List Int × Rd) (e : Ending) (w' : World) : Prop := ∃ v, e = .returned v ∧ RdIs w' g A n c q.2 ∧ Own w' w.heap.size v q.1 ∧ Save g w w'

set_option maxRecDepth 100000 in
set_option maxHeartbeats 2000000 in
theorem rdPart_any (w : World) (g : Nat) (A : Option Addr) (n c : Nat) (xs : List Int) (r : Rd) (m : Nat) (hB : RdIs w g A n c r) (hx : Holds w w.heap.size A n c xs) (hp : r.p ≤ n) (hm : m ≤ 65536) :
    Calls Tryd.prog 58 #[.pointer (some ⟨g, 0, none⟩), .int .i64 (m : Int)] w (RdPartPost w g A n c (rdPart xs m r)) := by
  obtain ⟨p, er⟩ := r
  change p ≤ n at hp
  have hl := hx.len
  have hrm := hx.room
  have hft := hx.fit
  have hlt := hB.lt
  have c0 : w.cell? ⟨g, 0, none⟩ = some (.slice A n c) := Blk.at hB rfl
  have c1 : w.cell? ⟨g, 1, none⟩ = some (.int .i64 (p : Int)) := Blk.at hB rfl
  have c2 : w.cell? ⟨g, 2, none⟩ = some (.int .i64 er) := Blk.at hB rfl
  have f2 := Blk.frozen hB 2
  have HR0 : Hid (Blk w g 93 [.slice A n c, .int .i64 (p : Int), .int .i64 er]) := hB
  by_cases he : er = 0
  rotate_left
  · have HQ : Hid (∀ e w', (∃ v, e = .returned v ∧ Blk w' g 93 [.slice A n c, .int .i64 (p : Int), .int .i64 er] ∧ Own w' w.heap.size v [] ∧ Save g w w') → RdPartPost w g A n c (rdPart xs m ⟨p, er⟩) e w') := by
      intro e w' hh
      unfold rdPart
      rw [if_neg he]
      exact hh
    have hne : (er != 0) = true := by simpa using he
    clear hB hx hl he
    go_enter Tryd.func58, Tryd.ntmps58
    go_wp2
    go_ret
    exact HQ.out _ _ ⟨_, rfl, HR0.out, Own.nil _ _, Save.refl g w⟩
  subst he
  by_cases hr : n < p + m
  · have HQ : Hid (∀ e w', (∃ v, e = .returned v ∧ Blk w' g 93 [.slice A n c, .int .i64 (p : Int), .int .i64 4] ∧ Own w' w.heap.size v [] ∧ Save g w w') → RdPartPost w g A n c (rdPart xs m ⟨p, 0⟩) e w') := by
      intro e w' hh
      unfold rdPart
      rw [if_pos rfl, if_pos (by rw [hl]; exact hr)]
      exact hh
    have hd : ((n : Int) - (p : Int) < (m : Int)) := by omega
    clear hB hx hl
    go_enter Tryd.func58, Tryd.ntmps58
    go_wp2
    go_quiet (fail)
    go_wp2
    go_ret
    exact HQ.out _ _ ⟨_, rfl, Blk.set (Blk.drewN HR0.out _) 2 _, Own.nil _ _, (save_drewN g w _).setCell 2 _⟩
  have hd : ¬ ((n : Int) - (p : Int) < (m : Int)) := by omega
  have hm48 : m ≤ 140737488355328 := by omega
  have HQ : Hid (∀ e w', (∃ v, e = .returned v ∧ Blk w' g 93 [.slice A n c, .int .i64 ((p : Int) + m), .int .i64 0] ∧ Own w' w.heap.size v ((xs.drop p).take m) ∧ Save g w w') → RdPartPost w g A n c (rdPart xs m ⟨p, 0⟩) e w') := by
    intro e w' hh
    unfold rdPart
    rw [if_pos rfl, if_neg (by rw [hl]; exact hr)]
    unfold RdPartPost RdIs
    rw [show ((p + m : Nat) : Int) = (p : Int) + m from by omega]
    exact hh
  have HX := Lib.hid hx
  clear f2 hB
  rcases A with _ | ad
  · have HP : Hid (∀ w' : World, Below w.heap.size w w' → Holds w' w'.heap.size none m (c - p) ((xs.drop p).take m)) := fun w' hb => by
      have hc0 : c = 0 := hx.bare rfl
      rw [show m = 0 from by omega, show c - p = 0 from by omega, List.take_zero]
      exact Holds.nil _ _
    have hwr : IntKind.i64.wrap ((p : Int) + m) = (p : Int) + m := by rw [IntKind.wrap_i64]; omega
    have hbd0 : 0 ≤ (p : Int) + m := by omega
    have hbd1 : (p : Int) + m ≤ (c : Int) := by omega
    have htn : ((p : Int) + m).toNat = p + m := by omega
    have hle : p ≤ p + m := by omega
    have hsb : p + m - p = m := by omega
    clear hx hl
    go_enter Tryd.func58, Tryd.ntmps58
    go_wp2
    go_quiet (fail)
    go_upto_region 6 with fail
    obtain ⟨wq, hwq⟩ : ∃ wq, wq = w.drewN nq := ⟨_, rfl⟩
    have HRq : Hid (Blk wq g 93 [.slice none n c, .int .i64 (p : Int), .int .i64 0]) := by rw [hwq]; exact Blk.drewN HR0.out _
    have HLq : Hid (Below w.heap.size w wq) := by rw [hwq]; exact drewed w _
    rw [← hwq]
    clear hwq c0 c1 c2 HR0
    refine wp_region_held (S := fun w' => Blk w' g 93 [.slice none n c, .int .i64 (p : Int), .int .i64 0]) (by kernel_rfl) ?_
    change wpAnyH _ _ _ _ _ _ _ _ wq.drew
    have S0 : Hid (Blk wq.drew g 93 [.slice none n c, .int .i64 (p : Int), .int .i64 0]) := HRq.out.drew
    have b0 : Hid (Below w.heap.size w wq.drew) := HLq.out.drew
    refine wpAnyH_take (i := 0) (v := _) rfl (by kernel_rfl) (by kernel_rfl) (by kernel_rfl) (fun _ _ _ h => h) (yieldsIf_move (by kernel_rfl) (.tmp 0) rfl (.pointer (some ⟨g, 0, none⟩)) (by kernel_rfl)) S0.out ?_
    refine wpAnyH_take (i := 1) (v := _) rfl (by kernel_rfl) (by kernel_rfl) (by kernel_rfl) (fun _ _ _ h => h) (yieldsIf_nil (by kernel_rfl) (.tmp 26) rfl ⟨g, 0, none⟩ (by kernel_rfl)) S0.out ?_
    refine wpAnyH_take (i := 2) (v := _) rfl (by kernel_rfl) (by kernel_rfl) (by kernel_rfl) (fun _ _ _ h => h) (yieldsIf_fld (by kernel_rfl) _ (.tmp 27) 0 rfl (.pointer (some ⟨g, 0, none⟩)) (.pointer (some ⟨g, 0, none⟩)) (by kernel_rfl) (fld_rd0 g)) S0.out ?_
    refine wpAnyH_take (i := 3) (v := _) rfl (by kernel_rfl) (by kernel_rfl) (by kernel_rfl) (fun _ _ _ h => h) (yieldsIf_load_one (by kernel_rfl) _ (.tmp 28) rfl g 0 (by kernel_rfl) (.slice none n c) (fun w h => h.at rfl) _ Tryd.underlying29 rfl) S0.out ?_
    refine wpAnyH_take (i := 4) (v := _) rfl (by kernel_rfl) (by kernel_rfl) (by kernel_rfl) (fun _ _ _ h => h) (yieldsIf_move (by kernel_rfl) (.tmp 0) rfl (.pointer (some ⟨g, 0, none⟩)) (by kernel_rfl)) S0.out ?_
    refine wpAnyH_take (i := 5) (v := _) rfl (by kernel_rfl) (by kernel_rfl) (by kernel_rfl) (fun _ _ _ h => h) (yieldsIf_nil (by kernel_rfl) (.tmp 30) rfl ⟨g, 0, none⟩ (by kernel_rfl)) S0.out ?_
    refine wpAnyH_take (i := 6) (v := _) rfl (by kernel_rfl) (by kernel_rfl) (by kernel_rfl) (fun _ _ _ h => h) (yieldsIf_fld (by kernel_rfl) _ (.tmp 31) 1 rfl (.pointer (some ⟨g, 0, none⟩)) (.pointer (some ⟨g, 1, none⟩)) (by kernel_rfl) (fld_rd1 g)) S0.out ?_
    refine wpAnyH_take (i := 7) (v := _) rfl (by kernel_rfl) (by kernel_rfl) (by kernel_rfl) (fun _ _ _ h => h) (yieldsIf_load_one (by kernel_rfl) _ (.tmp 32) rfl g 1 (by kernel_rfl) (.int .i64 (p : Int)) (fun w h => h.at rfl) _ Tryd.underlying3 rfl) S0.out ?_
    refine wpAnyH_take (i := 8) (v := _) rfl (by kernel_rfl) (by kernel_rfl) (by kernel_rfl) (fun _ _ _ h => h) (yieldsIf_move (by kernel_rfl) (.tmp 0) rfl (.pointer (some ⟨g, 0, none⟩)) (by kernel_rfl)) S0.out ?_
    refine wpAnyH_take (i := 9) (v := _) rfl (by kernel_rfl) (by kernel_rfl) (by kernel_rfl) (fun _ _ _ h => h) (yieldsIf_nil (by kernel_rfl) (.tmp 34) rfl ⟨g, 0, none⟩ (by kernel_rfl)) S0.out ?_
    refine wpAnyH_take (i := 10) (v := _) rfl (by kernel_rfl) (by kernel_rfl) (by kernel_rfl) (fun _ _ _ h => h) (yieldsIf_fld (by kernel_rfl) _ (.tmp 35) 1 rfl (.pointer (some ⟨g, 0, none⟩)) (.pointer (some ⟨g, 1, none⟩)) (by kernel_rfl) (fld_rd1 g)) S0.out ?_
    refine wpAnyH_take (i := 11) (v := _) rfl (by kernel_rfl) (by kernel_rfl) (by kernel_rfl) (fun _ _ _ h => h) (yieldsIf_load_one (by kernel_rfl) _ (.tmp 36) rfl g 1 (by kernel_rfl) (.int .i64 (p : Int)) (fun w h => h.at rfl) _ Tryd.underlying3 rfl) S0.out ?_
    refine wpAnyH_take (i := 12) (v := _) rfl (by kernel_rfl) (by kernel_rfl) (by kernel_rfl) (fun _ _ _ h => h) (yieldsIf_move (by kernel_rfl) (.tmp 1) rfl (.int .i64 (m : Int)) (by kernel_rfl)) S0.out ?_
    refine wpAnyH_take (i := 13) (v := .int .i64 ((p : Int) + m)) rfl (by kernel_rfl) (by kernel_rfl) (by kernel_rfl) (fun _ _ _ h => h) (.inl ⟨by kernel_rfl, fun w _ => by go_simp⟩) S0.out ?_
    refine wpAnyH_take (i := 14) (v := .slice none m (c - p)) rfl (by kernel_rfl) (by kernel_rfl) (by kernel_rfl) (fun _ _ _ h => h) (.inl ⟨by kernel_rfl, fun w _ => by go_simp⟩) S0.out ?_
    refine wpAnyH_one 15 _ (by kernel_rfl) rfl fun K hK => ?_
    go_simp
    refine ((Copy_any _ _ _ _ _ (HP.out _ b0.out) hm48)).mono ?_
    rintro e v1w ⟨u, rfl, ho, L1⟩
    have S1 : Hid (Blk v1w g 93 [.slice none n c, .int .i64 (p : Int), .int .i64 0]) := S0.out.over L1
    have b1 : Hid (Below w.heap.size w v1w) := step b0.out L1
    have HO := Lib.hid ho
    refine hK _ _ S1.out ?_
    clear hK K ho L1
    refine wpAnyH_one 16 _ (by kernel_rfl) rfl fun K hK => ?_
    go_simp
    refine hK _ _ S1.out ?_
    clear hK K
    refine wpAnyH_done (by kernel_rfl) ?_ _
    have gd : v1w.cell? ⟨g, 1, none⟩ = some (.int .i64 (p : Int)) := S1.out.at rfl
    have gf := Blk.frozen S1.out 1
    go_wp2_with fail
    go_ret
    exact HQ.out _ _ ⟨_, rfl, Blk.set S1.out 1 _, (HO.out.mono b0.out.size).only (only_setCell _ g 1 _) hlt, (Save.of_below b1.out g).setCell 1 _⟩
  rcases Nat.eq_zero_or_pos p with hp0 | hp0
  · subst hp0
    have HP : Hid (∀ w' : World, Below w.heap.size w w' → Holds w' w'.heap.size (some ad) m c ((xs.drop 0).take m)) := fun w' hb => by
      have h1 := (HX.out.over hb)
      refine ⟨by simp; omega, by omega, by omega, (h1.byte.drop 0).take m, h1.bare, fun h0 => ?_⟩
      obtain ⟨b, off, e1, e2, e3⟩ := h1.cells (by omega)
      refine ⟨b, off, e1, e2, fun i hi => ?_⟩
      rw [e3 i (by omega)]
      simp [List.getD_eq_getElem?_getD, hi]
    rw [show ((0 : Nat) : Int) + (m : Int) = (m : Int) from by omega] at HQ
    have hwr : IntKind.i64.wrap (m : Int) = (m : Int) := by rw [IntKind.wrap_i64]; omega
    have hbd0 : 0 ≤ (m : Int) := by omega
    have hbd1 : (m : Int) ≤ (c : Int) := by omega
    clear hx hl
    go_enter Tryd.func58, Tryd.ntmps58
    go_wp2
    go_quiet (fail)
    go_upto_region 6 with fail
    obtain ⟨wq, hwq⟩ : ∃ wq, wq = w.drewN nq := ⟨_, rfl⟩
    have HRq : Hid (Blk wq g 93 [.slice (some ad) n c, .int .i64 ((0 : Nat) : Int), .int .i64 0]) := by rw [hwq]; exact Blk.drewN HR0.out _
    have HLq : Hid (Below w.heap.size w wq) := by rw [hwq]; exact drewed w _
    rw [← hwq]
    clear hwq c0 c1 c2 HR0
    refine wp_region_held (S := fun w' => Blk w' g 93 [.slice (some ad) n c, .int .i64 ((0 : Nat) : Int), .int .i64 0]) (by kernel_rfl) ?_
    change wpAnyH _ _ _ _ _ _ _ _ wq.drew
    have S0 : Hid (Blk wq.drew g 93 [.slice (some ad) n c, .int .i64 ((0 : Nat) : Int), .int .i64 0]) := HRq.out.drew
    have b0 : Hid (Below w.heap.size w wq.drew) := HLq.out.drew
    refine wpAnyH_take (i := 0) (v := _) rfl (by kernel_rfl) (by kernel_rfl) (by kernel_rfl) (fun _ _ _ h => h) (yieldsIf_move (by kernel_rfl) (.tmp 0) rfl (.pointer (some ⟨g, 0, none⟩)) (by kernel_rfl)) S0.out ?_
    refine wpAnyH_take (i := 1) (v := _) rfl (by kernel_rfl) (by kernel_rfl) (by kernel_rfl) (fun _ _ _ h => h) (yieldsIf_nil (by kernel_rfl) (.tmp 26) rfl ⟨g, 0, none⟩ (by kernel_rfl)) S0.out ?_
    refine wpAnyH_take (i := 2) (v := _) rfl (by kernel_rfl) (by kernel_rfl) (by kernel_rfl) (fun _ _ _ h => h) (yieldsIf_fld (by kernel_rfl) _ (.tmp 27) 0 rfl (.pointer (some ⟨g, 0, none⟩)) (.pointer (some ⟨g, 0, none⟩)) (by kernel_rfl) (fld_rd0 g)) S0.out ?_
    refine wpAnyH_take (i := 3) (v := _) rfl (by kernel_rfl) (by kernel_rfl) (by kernel_rfl) (fun _ _ _ h => h) (yieldsIf_load_one (by kernel_rfl) _ (.tmp 28) rfl g 0 (by kernel_rfl) (.slice (some ad) n c) (fun w h => h.at rfl) _ Tryd.underlying29 rfl) S0.out ?_
    refine wpAnyH_take (i := 4) (v := _) rfl (by kernel_rfl) (by kernel_rfl) (by kernel_rfl) (fun _ _ _ h => h) (yieldsIf_move (by kernel_rfl) (.tmp 0) rfl (.pointer (some ⟨g, 0, none⟩)) (by kernel_rfl)) S0.out ?_
    refine wpAnyH_take (i := 5) (v := _) rfl (by kernel_rfl) (by kernel_rfl) (by kernel_rfl) (fun _ _ _ h => h) (yieldsIf_nil (by kernel_rfl) (.tmp 30) rfl ⟨g, 0, none⟩ (by kernel_rfl)) S0.out ?_
    refine wpAnyH_take (i := 6) (v := _) rfl (by kernel_rfl) (by kernel_rfl) (by kernel_rfl) (fun _ _ _ h => h) (yieldsIf_fld (by kernel_rfl) _ (.tmp 31) 1 rfl (.pointer (some ⟨g, 0, none⟩)) (.pointer (some ⟨g, 1, none⟩)) (by kernel_rfl) (fld_rd1 g)) S0.out ?_
    refine wpAnyH_take (i := 7) (v := _) rfl (by kernel_rfl) (by kernel_rfl) (by kernel_rfl) (fun _ _ _ h => h) (yieldsIf_load_one (by kernel_rfl) _ (.tmp 32) rfl g 1 (by kernel_rfl) (.int .i64 ((0 : Nat) : Int)) (fun w h => h.at rfl) _ Tryd.underlying3 rfl) S0.out ?_
    refine wpAnyH_take (i := 8) (v := _) rfl (by kernel_rfl) (by kernel_rfl) (by kernel_rfl) (fun _ _ _ h => h) (yieldsIf_move (by kernel_rfl) (.tmp 0) rfl (.pointer (some ⟨g, 0, none⟩)) (by kernel_rfl)) S0.out ?_
    refine wpAnyH_take (i := 9) (v := _) rfl (by kernel_rfl) (by kernel_rfl) (by kernel_rfl) (fun _ _ _ h => h) (yieldsIf_nil (by kernel_rfl) (.tmp 34) rfl ⟨g, 0, none⟩ (by kernel_rfl)) S0.out ?_
    refine wpAnyH_take (i := 10) (v := _) rfl (by kernel_rfl) (by kernel_rfl) (by kernel_rfl) (fun _ _ _ h => h) (yieldsIf_fld (by kernel_rfl) _ (.tmp 35) 1 rfl (.pointer (some ⟨g, 0, none⟩)) (.pointer (some ⟨g, 1, none⟩)) (by kernel_rfl) (fld_rd1 g)) S0.out ?_
    refine wpAnyH_take (i := 11) (v := _) rfl (by kernel_rfl) (by kernel_rfl) (by kernel_rfl) (fun _ _ _ h => h) (yieldsIf_load_one (by kernel_rfl) _ (.tmp 36) rfl g 1 (by kernel_rfl) (.int .i64 ((0 : Nat) : Int)) (fun w h => h.at rfl) _ Tryd.underlying3 rfl) S0.out ?_
    refine wpAnyH_take (i := 12) (v := _) rfl (by kernel_rfl) (by kernel_rfl) (by kernel_rfl) (fun _ _ _ h => h) (yieldsIf_move (by kernel_rfl) (.tmp 1) rfl (.int .i64 (m : Int)) (by kernel_rfl)) S0.out ?_
    refine wpAnyH_take (i := 13) (v := .int .i64 (((0 : Nat) : Int) + m)) rfl (by kernel_rfl) (by kernel_rfl) (by kernel_rfl) (fun _ _ _ h => h) (.inl ⟨by kernel_rfl, fun w _ => by go_simp⟩) S0.out ?_
    refine wpAnyH_take (i := 14) (v := .slice (some ad) m c) rfl (by kernel_rfl) (by kernel_rfl) (by kernel_rfl) (fun _ _ _ h => h) (.inl ⟨by kernel_rfl, fun w _ => by go_simp⟩) S0.out ?_
    refine wpAnyH_one 15 _ (by kernel_rfl) rfl fun K hK => ?_
    go_simp
    refine ((Copy_any _ _ _ _ _ (HP.out _ b0.out) hm48)).mono ?_
    rintro e v1w ⟨u, rfl, ho, L1⟩
    have S1 : Hid (Blk v1w g 93 [.slice (some ad) n c, .int .i64 ((0 : Nat) : Int), .int .i64 0]) := S0.out.over L1
    have b1 : Hid (Below w.heap.size w v1w) := step b0.out L1
    have HO := Lib.hid ho
    refine hK _ _ S1.out ?_
    clear hK K ho L1
    refine wpAnyH_one 16 _ (by kernel_rfl) rfl fun K hK => ?_
    go_simp
    refine hK _ _ S1.out ?_
    clear hK K
    refine wpAnyH_done (by kernel_rfl) ?_ _
    have gd : v1w.cell? ⟨g, 1, none⟩ = some (.int .i64 ((0 : Nat) : Int)) := S1.out.at rfl
    have gf := Blk.frozen S1.out 1
    go_wp2_with fail
    go_ret
    exact HQ.out _ _ ⟨_, rfl, Blk.set S1.out 1 _, (HO.out.mono b0.out.size).only (only_setCell _ g 1 _) hlt, (Save.of_below b1.out g).setCell 1 _⟩
  · obtain ⟨b, off, had, hb, _⟩ := hx.cells (by omega)
    obtain rfl : ad = ⟨b, off, none⟩ := by injection had
    clear had
    by_cases hcp : c = p
    · have hm0 : m = 0 := by omega
      have HP : Hid (∀ w' : World, Below w.heap.size w w' → Holds w' w'.heap.size (some ⟨b, off, none⟩) m 0 ((xs.drop p).take m)) := fun w' hb => by
        rw [hm0, List.take_zero]
        exact Holds.empty _ _ _ _ (fun h0 => by cases h0)
      have HM0 := Lib.hid hm0
      have hwr : IntKind.i64.wrap ((p : Int) + m) = (p : Int) + m := by rw [IntKind.wrap_i64]; omega
      have hbd0 : 0 ≤ (p : Int) + m := by omega
      have hbd1 : (p : Int) + m ≤ (c : Int) := by omega
      have htn : ((p : Int) + m).toNat = p + m := by omega
      have hle : p ≤ p + m := by omega
      have hsb : p + m - p = m := by omega
      have hnl : ¬ ((p : Int) < (p : Int) + m) := by omega
      clear hx hl hm0
      go_enter Tryd.func58, Tryd.ntmps58
      go_wp2
      go_quiet (fail)
      go_upto_region 6 with fail
      obtain ⟨wq, hwq⟩ : ∃ wq, wq = w.drewN nq := ⟨_, rfl⟩
      have HRq : Hid (Blk wq g 93 [.slice (some ⟨b, off, none⟩) n c, .int .i64 (p : Int), .int .i64 0]) := by rw [hwq]; exact Blk.drewN HR0.out _
      have HLq : Hid (Below w.heap.size w wq) := by rw [hwq]; exact drewed w _
      rw [← hwq]
      clear hwq c0 c1 c2 HR0
      refine wp_region_held (S := fun w' => Blk w' g 93 [.slice (some ⟨b, off, none⟩) n c, .int .i64 (p : Int), .int .i64 0]) (by kernel_rfl) ?_
      change wpAnyH _ _ _ _ _ _ _ _ wq.drew
      have S0 : Hid (Blk wq.drew g 93 [.slice (some ⟨b, off, none⟩) n c, .int .i64 (p : Int), .int .i64 0]) := HRq.out.drew
      have b0 : Hid (Below w.heap.size w wq.drew) := HLq.out.drew
      refine wpAnyH_take (i := 0) (v := _) rfl (by kernel_rfl) (by kernel_rfl) (by kernel_rfl) (fun _ _ _ h => h) (yieldsIf_move (by kernel_rfl) (.tmp 0) rfl (.pointer (some ⟨g, 0, none⟩)) (by kernel_rfl)) S0.out ?_
      refine wpAnyH_take (i := 1) (v := _) rfl (by kernel_rfl) (by kernel_rfl) (by kernel_rfl) (fun _ _ _ h => h) (yieldsIf_nil (by kernel_rfl) (.tmp 26) rfl ⟨g, 0, none⟩ (by kernel_rfl)) S0.out ?_
      refine wpAnyH_take (i := 2) (v := _) rfl (by kernel_rfl) (by kernel_rfl) (by kernel_rfl) (fun _ _ _ h => h) (yieldsIf_fld (by kernel_rfl) _ (.tmp 27) 0 rfl (.pointer (some ⟨g, 0, none⟩)) (.pointer (some ⟨g, 0, none⟩)) (by kernel_rfl) (fld_rd0 g)) S0.out ?_
      refine wpAnyH_take (i := 3) (v := _) rfl (by kernel_rfl) (by kernel_rfl) (by kernel_rfl) (fun _ _ _ h => h) (yieldsIf_load_one (by kernel_rfl) _ (.tmp 28) rfl g 0 (by kernel_rfl) (.slice (some ⟨b, off, none⟩) n c) (fun w h => h.at rfl) _ Tryd.underlying29 rfl) S0.out ?_
      refine wpAnyH_take (i := 4) (v := _) rfl (by kernel_rfl) (by kernel_rfl) (by kernel_rfl) (fun _ _ _ h => h) (yieldsIf_move (by kernel_rfl) (.tmp 0) rfl (.pointer (some ⟨g, 0, none⟩)) (by kernel_rfl)) S0.out ?_
      refine wpAnyH_take (i := 5) (v := _) rfl (by kernel_rfl) (by kernel_rfl) (by kernel_rfl) (fun _ _ _ h => h) (yieldsIf_nil (by kernel_rfl) (.tmp 30) rfl ⟨g, 0, none⟩ (by kernel_rfl)) S0.out ?_
      refine wpAnyH_take (i := 6) (v := _) rfl (by kernel_rfl) (by kernel_rfl) (by kernel_rfl) (fun _ _ _ h => h) (yieldsIf_fld (by kernel_rfl) _ (.tmp 31) 1 rfl (.pointer (some ⟨g, 0, none⟩)) (.pointer (some ⟨g, 1, none⟩)) (by kernel_rfl) (fld_rd1 g)) S0.out ?_
      refine wpAnyH_take (i := 7) (v := _) rfl (by kernel_rfl) (by kernel_rfl) (by kernel_rfl) (fun _ _ _ h => h) (yieldsIf_load_one (by kernel_rfl) _ (.tmp 32) rfl g 1 (by kernel_rfl) (.int .i64 (p : Int)) (fun w h => h.at rfl) _ Tryd.underlying3 rfl) S0.out ?_
      refine wpAnyH_take (i := 8) (v := _) rfl (by kernel_rfl) (by kernel_rfl) (by kernel_rfl) (fun _ _ _ h => h) (yieldsIf_move (by kernel_rfl) (.tmp 0) rfl (.pointer (some ⟨g, 0, none⟩)) (by kernel_rfl)) S0.out ?_
      refine wpAnyH_take (i := 9) (v := _) rfl (by kernel_rfl) (by kernel_rfl) (by kernel_rfl) (fun _ _ _ h => h) (yieldsIf_nil (by kernel_rfl) (.tmp 34) rfl ⟨g, 0, none⟩ (by kernel_rfl)) S0.out ?_
      refine wpAnyH_take (i := 10) (v := _) rfl (by kernel_rfl) (by kernel_rfl) (by kernel_rfl) (fun _ _ _ h => h) (yieldsIf_fld (by kernel_rfl) _ (.tmp 35) 1 rfl (.pointer (some ⟨g, 0, none⟩)) (.pointer (some ⟨g, 1, none⟩)) (by kernel_rfl) (fld_rd1 g)) S0.out ?_
      refine wpAnyH_take (i := 11) (v := _) rfl (by kernel_rfl) (by kernel_rfl) (by kernel_rfl) (fun _ _ _ h => h) (yieldsIf_load_one (by kernel_rfl) _ (.tmp 36) rfl g 1 (by kernel_rfl) (.int .i64 (p : Int)) (fun w h => h.at rfl) _ Tryd.underlying3 rfl) S0.out ?_
      refine wpAnyH_take (i := 12) (v := _) rfl (by kernel_rfl) (by kernel_rfl) (by kernel_rfl) (fun _ _ _ h => h) (yieldsIf_move (by kernel_rfl) (.tmp 1) rfl (.int .i64 (m : Int)) (by kernel_rfl)) S0.out ?_
      refine wpAnyH_take (i := 13) (v := .int .i64 ((p : Int) + m)) rfl (by kernel_rfl) (by kernel_rfl) (by kernel_rfl) (fun _ _ _ h => h) (.inl ⟨by kernel_rfl, fun w _ => by go_simp⟩) S0.out ?_
      refine wpAnyH_take (i := 14) (v := .slice (some ⟨b, off, none⟩) m 0) rfl (by kernel_rfl) (by kernel_rfl) (by kernel_rfl) (fun _ _ _ h => h) (.inl ⟨by kernel_rfl, fun w _ => by go_simp⟩) S0.out ?_
      refine wpAnyH_one 15 _ (by kernel_rfl) rfl fun K hK => ?_
      go_simp
      refine ((Copy_any _ _ _ _ _ (HP.out _ b0.out) hm48)).mono ?_
      rintro e v1w ⟨u, rfl, ho, L1⟩
      have S1 : Hid (Blk v1w g 93 [.slice (some ⟨b, off, none⟩) n c, .int .i64 (p : Int), .int .i64 0]) := S0.out.over L1
      have b1 : Hid (Below w.heap.size w v1w) := step b0.out L1
      have HO := Lib.hid ho
      refine hK _ _ S1.out ?_
      clear hK K ho L1
      refine wpAnyH_one 16 _ (by kernel_rfl) rfl fun K hK => ?_
      go_simp
      refine hK _ _ S1.out ?_
      clear hK K
      refine wpAnyH_done (by kernel_rfl) ?_ _
      have gd : v1w.cell? ⟨g, 1, none⟩ = some (.int .i64 (p : Int)) := S1.out.at rfl
      have gf := Blk.frozen S1.out 1
      go_wp2_with fail
      go_ret
      exact HQ.out _ _ ⟨_, rfl, Blk.set S1.out 1 _, (HO.out.mono b0.out.size).only (only_setCell _ g 1 _) hlt, (Save.of_below b1.out g).setCell 1 _⟩
    · have HP : Hid (∀ w' : World, Below w.heap.size w w' → Holds w' w'.heap.size (some ⟨b, off + p, none⟩) m (c - p) ((xs.drop p).take m)) := fun w' hb => by
        rcases Nat.eq_zero_or_pos m with hm0 | hm0
        · rw [hm0, List.take_zero]
          exact Holds.empty _ _ _ _ (fun h0 => by cases h0)
        · have := ((HX.out.over hb).part (k := p) (m := m) (c' := c - p) (by omega) hm0 (by omega))
          simpa [Addr.add, show ¬ p = 0 from by omega] using this
      have hwr : IntKind.i64.wrap ((p : Int) + m) = (p : Int) + m := by rw [IntKind.wrap_i64]; omega
      have hbd0 : 0 ≤ (p : Int) + m := by omega
      have hbd1 : (p : Int) + m ≤ (c : Int) := by omega
      have htn : ((p : Int) + m).toNat = p + m := by omega
      have hle : p ≤ p + m := by omega
      have hsb : p + m - p = m := by omega
      have hcp' : ¬ c = p := hcp
      clear hx hl
      go_enter Tryd.func58, Tryd.ntmps58
      go_wp2
      go_quiet (fail)
      go_upto_region 6 with fail
      obtain ⟨wq, hwq⟩ : ∃ wq, wq = w.drewN nq := ⟨_, rfl⟩
      have HRq : Hid (Blk wq g 93 [.slice (some ⟨b, off, none⟩) n c, .int .i64 (p : Int), .int .i64 0]) := by rw [hwq]; exact Blk.drewN HR0.out _
      have HLq : Hid (Below w.heap.size w wq) := by rw [hwq]; exact drewed w _
      rw [← hwq]
      clear hwq c0 c1 c2 HR0
      refine wp_region_held (S := fun w' => Blk w' g 93 [.slice (some ⟨b, off, none⟩) n c, .int .i64 (p : Int), .int .i64 0]) (by kernel_rfl) ?_
      change wpAnyH _ _ _ _ _ _ _ _ wq.drew
      have S0 : Hid (Blk wq.drew g 93 [.slice (some ⟨b, off, none⟩) n c, .int .i64 (p : Int), .int .i64 0]) := HRq.out.drew
      have b0 : Hid (Below w.heap.size w wq.drew) := HLq.out.drew
      refine wpAnyH_take (i := 0) (v := _) rfl (by kernel_rfl) (by kernel_rfl) (by kernel_rfl) (fun _ _ _ h => h) (yieldsIf_move (by kernel_rfl) (.tmp 0) rfl (.pointer (some ⟨g, 0, none⟩)) (by kernel_rfl)) S0.out ?_
      refine wpAnyH_take (i := 1) (v := _) rfl (by kernel_rfl) (by kernel_rfl) (by kernel_rfl) (fun _ _ _ h => h) (yieldsIf_nil (by kernel_rfl) (.tmp 26) rfl ⟨g, 0, none⟩ (by kernel_rfl)) S0.out ?_
      refine wpAnyH_take (i := 2) (v := _) rfl (by kernel_rfl) (by kernel_rfl) (by kernel_rfl) (fun _ _ _ h => h) (yieldsIf_fld (by kernel_rfl) _ (.tmp 27) 0 rfl (.pointer (some ⟨g, 0, none⟩)) (.pointer (some ⟨g, 0, none⟩)) (by kernel_rfl) (fld_rd0 g)) S0.out ?_
      refine wpAnyH_take (i := 3) (v := _) rfl (by kernel_rfl) (by kernel_rfl) (by kernel_rfl) (fun _ _ _ h => h) (yieldsIf_load_one (by kernel_rfl) _ (.tmp 28) rfl g 0 (by kernel_rfl) (.slice (some ⟨b, off, none⟩) n c) (fun w h => h.at rfl) _ Tryd.underlying29 rfl) S0.out ?_
      refine wpAnyH_take (i := 4) (v := _) rfl (by kernel_rfl) (by kernel_rfl) (by kernel_rfl) (fun _ _ _ h => h) (yieldsIf_move (by kernel_rfl) (.tmp 0) rfl (.pointer (some ⟨g, 0, none⟩)) (by kernel_rfl)) S0.out ?_
      refine wpAnyH_take (i := 5) (v := _) rfl (by kernel_rfl) (by kernel_rfl) (by kernel_rfl) (fun _ _ _ h => h) (yieldsIf_nil (by kernel_rfl) (.tmp 30) rfl ⟨g, 0, none⟩ (by kernel_rfl)) S0.out ?_
      refine wpAnyH_take (i := 6) (v := _) rfl (by kernel_rfl) (by kernel_rfl) (by kernel_rfl) (fun _ _ _ h => h) (yieldsIf_fld (by kernel_rfl) _ (.tmp 31) 1 rfl (.pointer (some ⟨g, 0, none⟩)) (.pointer (some ⟨g, 1, none⟩)) (by kernel_rfl) (fld_rd1 g)) S0.out ?_
      refine wpAnyH_take (i := 7) (v := _) rfl (by kernel_rfl) (by kernel_rfl) (by kernel_rfl) (fun _ _ _ h => h) (yieldsIf_load_one (by kernel_rfl) _ (.tmp 32) rfl g 1 (by kernel_rfl) (.int .i64 (p : Int)) (fun w h => h.at rfl) _ Tryd.underlying3 rfl) S0.out ?_
      refine wpAnyH_take (i := 8) (v := _) rfl (by kernel_rfl) (by kernel_rfl) (by kernel_rfl) (fun _ _ _ h => h) (yieldsIf_move (by kernel_rfl) (.tmp 0) rfl (.pointer (some ⟨g, 0, none⟩)) (by kernel_rfl)) S0.out ?_
      refine wpAnyH_take (i := 9) (v := _) rfl (by kernel_rfl) (by kernel_rfl) (by kernel_rfl) (fun _ _ _ h => h) (yieldsIf_nil (by kernel_rfl) (.tmp 34) rfl ⟨g, 0, none⟩ (by kernel_rfl)) S0.out ?_
      refine wpAnyH_take (i := 10) (v := _) rfl (by kernel_rfl) (by kernel_rfl) (by kernel_rfl) (fun _ _ _ h => h) (yieldsIf_fld (by kernel_rfl) _ (.tmp 35) 1 rfl (.pointer (some ⟨g, 0, none⟩)) (.pointer (some ⟨g, 1, none⟩)) (by kernel_rfl) (fld_rd1 g)) S0.out ?_
      refine wpAnyH_take (i := 11) (v := _) rfl (by kernel_rfl) (by kernel_rfl) (by kernel_rfl) (fun _ _ _ h => h) (yieldsIf_load_one (by kernel_rfl) _ (.tmp 36) rfl g 1 (by kernel_rfl) (.int .i64 (p : Int)) (fun w h => h.at rfl) _ Tryd.underlying3 rfl) S0.out ?_
      refine wpAnyH_take (i := 12) (v := _) rfl (by kernel_rfl) (by kernel_rfl) (by kernel_rfl) (fun _ _ _ h => h) (yieldsIf_move (by kernel_rfl) (.tmp 1) rfl (.int .i64 (m : Int)) (by kernel_rfl)) S0.out ?_
      refine wpAnyH_take (i := 13) (v := .int .i64 ((p : Int) + m)) rfl (by kernel_rfl) (by kernel_rfl) (by kernel_rfl) (fun _ _ _ h => h) (.inl ⟨by kernel_rfl, fun w _ => by go_simp⟩) S0.out ?_
      refine wpAnyH_take (i := 14) (v := .slice (some ⟨b, off + p, none⟩) m (c - p)) rfl (by kernel_rfl) (by kernel_rfl) (by kernel_rfl) (fun _ _ _ h => h) (.inl ⟨by kernel_rfl, fun w _ => by go_simp⟩) S0.out ?_
      refine wpAnyH_one 15 _ (by kernel_rfl) rfl fun K hK => ?_
      go_simp
      refine ((Copy_any _ _ _ _ _ (HP.out _ b0.out) hm48)).mono ?_
      rintro e v1w ⟨u, rfl, ho, L1⟩
      have S1 : Hid (Blk v1w g 93 [.slice (some ⟨b, off, none⟩) n c, .int .i64 (p : Int), .int .i64 0]) := S0.out.over L1
      have b1 : Hid (Below w.heap.size w v1w) := step b0.out L1
      have HO := Lib.hid ho
      refine hK _ _ S1.out ?_
      clear hK K ho L1
      refine wpAnyH_one 16 _ (by kernel_rfl) rfl fun K hK => ?_
      go_simp
      refine hK _ _ S1.out ?_
      clear hK K
      refine wpAnyH_done (by kernel_rfl) ?_ _
      have gd : v1w.cell? ⟨g, 1, none⟩ = some (.int .i64 (p : Int)) := S1.out.at rfl
      have gf := Blk.frozen S1.out 1
      go_wp2_with fail
      go_ret
      exact HQ.out _ _ ⟨_, rfl, Blk.set S1.out 1 _, (HO.out.mono b0.out.size).only (only_setCell _ g 1 _) hlt, (Save.of_below b1.out g).setCell 1 _⟩

/-- what a text's reading answers -/
def RdTextPost (w : World) (g : Nat) (A : Option Addr) (n c : Nat) (q : List UInt8 × Rd) (e : Ending) (w' : World) : Prop := e = .returned (.string ⟨q.1.toArray⟩) ∧ RdIs w' g A n c q.2 ∧ Save g w w'

set_option maxRecDepth 100000 in
set_option maxHeartbeats 2000000 in
theorem rdText_any (w : World) (g : Nat) (A : Option Addr) (n c : Nat) (xs : List Int) (r : Rd) (hB : RdIs w g A n c r) (hx : Holds w w.heap.size A n c xs) (hp : r.p ≤ n) :
    Calls Tryd.prog 59 #[.pointer (some ⟨g, 0, none⟩)] w (RdTextPost w g A n c (rdText xs r)) := by
  obtain ⟨p, er⟩ := r
  change p ≤ n at hp
  have hl := hx.len
  have hrm := hx.room
  have c2 : w.cell? ⟨g, 2, none⟩ = some (.int .i64 er) := Blk.at hB rfl
  have HR0 : Hid (Blk w g 93 [.slice A n c, .int .i64 (p : Int), .int .i64 er]) := hB
  by_cases he : er = 0
  rotate_left
  · have HQ : Hid (∀ e w', (e = .returned (.string .empty) ∧ Blk w' g 93 [.slice A n c, .int .i64 (p : Int), .int .i64 er] ∧ Save g w w') → RdTextPost w g A n c (rdText xs ⟨p, er⟩) e w') := by
      intro e w' hh
      unfold rdText
      rw [if_neg he]
      exact hh
    have hne : (er != 0) = true := by simpa using he
    clear hB hx hl he
    go_enter Tryd.func59, Tryd.ntmps59
    go_wp2
    go_ret
    exact HQ.out _ _ ⟨rfl, HR0.out, Save.refl g w⟩
  subst he
  have CG : Hid (∀ w' : World, Below w.heap.size w w' → Calls Tryd.prog 34 #[.slice A n c, .int .i64 (p : Int)] w' fun e v => e = .returned (.tuple #[.string ⟨(gtextOf xs p).toArray⟩, .int .i64 (gtextNext xs p), .int .i64 (gtextErr xs p)]) ∧ Below w'.heap.size w' v) := fun w' hb => RGetText_any w' A n c xs p (hx.over hb) (by omega)
  have HQ : Hid (∀ e w', (e = .returned (.string ⟨(gtextOf xs p).toArray⟩) ∧ Blk w' g 93 [.slice A n c, .int .i64 (if gtextErr xs p = 0 then gtextNext xs p else p), .int .i64 (gtextErr xs p)] ∧ Save g w w') → RdTextPost w g A n c (rdText xs ⟨p, 0⟩) e w') := by
    intro e w' hh
    unfold rdText
    rw [if_pos rfl]
    unfold RdTextPost RdIs
    refine ⟨hh.1, ?_, hh.2.2⟩
    have h2 := hh.2.1
    by_cases h0 : gtextErr xs (p : Int) = 0
    · rw [if_pos h0] at h2
      show Blk w' g _ [_, .int .i64 (((if gtextErr xs (p : Int) = 0 then (gtextNext xs (p : Int)).toNat else p) : Nat) : Int), _]
      rw [if_pos h0]
      have h3 : 0 ≤ gtextNext xs (p : Int) := by
        unfold gtextNext
        rw [if_pos h0]
        unfold growNext
        split
        · have := rowN_bounds xs hx.byte (p : Int); omega
        · exact Int.le_refl 0
      rwa [show (((gtextNext xs (p : Int)).toNat : Nat) : Int) = gtextNext xs p from by omega]
    · rw [if_neg h0] at h2
      show Blk w' g _ [_, .int .i64 (((if gtextErr xs (p : Int) = 0 then (gtextNext xs (p : Int)).toNat else p) : Nat) : Int), _]
      rw [if_neg h0]
      exact h2
  obtain ⟨tx, htx⟩ : ∃ tx : ByteArray, tx = ⟨(gtextOf xs p).toArray⟩ := ⟨_, rfl⟩
  obtain ⟨nx, hnx⟩ : ∃ nx, nx = gtextNext xs (p : Int) := ⟨_, rfl⟩
  obtain ⟨er, her⟩ : ∃ er, er = gtextErr xs (p : Int) := ⟨_, rfl⟩
  rw [← htx, ← hnx, ← her] at CG HQ
  clear hB hx hl htx hnx her
  by_cases h0 : er = 0
  · subst h0
    rw [if_pos rfl] at HQ
    go_enter Tryd.func59, Tryd.ntmps59
    go_wp2
    go_upto_region 3 with fail
    have HRq : Hid (Blk w g 93 [.slice A n c, .int .i64 (p : Int), .int .i64 0]) := HR0
    have HLq : Hid (Below w.heap.size w w) := Below.refl _ _
    clear c2 HR0
    refine wp_region_held (S := fun w' => Blk w' g 93 [.slice A n c, .int .i64 (p : Int), .int .i64 0]) (by kernel_rfl) ?_
    change wpAnyH _ _ _ _ _ _ _ _ w.drew
    have S0 : Hid (Blk w.drew g 93 [.slice A n c, .int .i64 (p : Int), .int .i64 0]) := HRq.out.drew
    have b0 : Hid (Below w.heap.size w w.drew) := HLq.out.drew
    refine wpAnyH_take (i := 0) (v := _) rfl (by kernel_rfl) (by kernel_rfl) (by kernel_rfl) (fun _ _ _ h => h) (yieldsIf_move (by kernel_rfl) (.tmp 0) rfl (.pointer (some ⟨g, 0, none⟩)) (by kernel_rfl)) S0.out ?_
    refine wpAnyH_take (i := 1) (v := _) rfl (by kernel_rfl) (by kernel_rfl) (by kernel_rfl) (fun _ _ _ h => h) (yieldsIf_nil (by kernel_rfl) (.tmp 12) rfl ⟨g, 0, none⟩ (by kernel_rfl)) S0.out ?_
    refine wpAnyH_take (i := 2) (v := _) rfl (by kernel_rfl) (by kernel_rfl) (by kernel_rfl) (fun _ _ _ h => h) (yieldsIf_fld (by kernel_rfl) _ (.tmp 13) 0 rfl (.pointer (some ⟨g, 0, none⟩)) (.pointer (some ⟨g, 0, none⟩)) (by kernel_rfl) (fld_rd0 g)) S0.out ?_
    refine wpAnyH_take (i := 3) (v := _) rfl (by kernel_rfl) (by kernel_rfl) (by kernel_rfl) (fun _ _ _ h => h) (yieldsIf_load_one (by kernel_rfl) _ (.tmp 14) rfl g 0 (by kernel_rfl) (.slice A n c) (fun w h => h.at rfl) _ Tryd.underlying29 rfl) S0.out ?_
    refine wpAnyH_take (i := 4) (v := _) rfl (by kernel_rfl) (by kernel_rfl) (by kernel_rfl) (fun _ _ _ h => h) (yieldsIf_move (by kernel_rfl) (.tmp 0) rfl (.pointer (some ⟨g, 0, none⟩)) (by kernel_rfl)) S0.out ?_
    refine wpAnyH_take (i := 5) (v := _) rfl (by kernel_rfl) (by kernel_rfl) (by kernel_rfl) (fun _ _ _ h => h) (yieldsIf_nil (by kernel_rfl) (.tmp 16) rfl ⟨g, 0, none⟩ (by kernel_rfl)) S0.out ?_
    refine wpAnyH_take (i := 6) (v := _) rfl (by kernel_rfl) (by kernel_rfl) (by kernel_rfl) (fun _ _ _ h => h) (yieldsIf_fld (by kernel_rfl) _ (.tmp 17) 1 rfl (.pointer (some ⟨g, 0, none⟩)) (.pointer (some ⟨g, 1, none⟩)) (by kernel_rfl) (fld_rd1 g)) S0.out ?_
    refine wpAnyH_take (i := 7) (v := _) rfl (by kernel_rfl) (by kernel_rfl) (by kernel_rfl) (fun _ _ _ h => h) (yieldsIf_load_one (by kernel_rfl) _ (.tmp 18) rfl g 1 (by kernel_rfl) (.int .i64 (p : Int)) (fun w h => h.at rfl) _ Tryd.underlying3 rfl) S0.out ?_
    refine wpAnyH_one 8 _ (by kernel_rfl) rfl fun K hK => ?_
    go_simp
    refine ((CG.out _ b0.out)).mono ?_
    rintro e v1w ⟨rfl, L1⟩
    have S1 : Hid (Blk v1w g 93 [.slice A n c, .int .i64 (p : Int), .int .i64 0]) := S0.out.over L1
    have b1 : Hid (Below w.heap.size w v1w) := step b0.out L1
    refine hK _ _ S1.out ?_
    clear hK K L1
    refine wpAnyH_one 9 _ (by kernel_rfl) rfl fun K hK => ?_
    go_simp
    refine hK _ _ S1.out ?_
    clear hK K
    refine wpAnyH_take (i := 10) (v := .string tx) rfl (by kernel_rfl) (by kernel_rfl) (by kernel_rfl) (fun _ _ _ h => h) (.inl ⟨by kernel_rfl, fun w _ => by go_simp⟩) S1.out ?_
    refine wpAnyH_take (i := 11) (v := .int .i64 nx) rfl (by kernel_rfl) (by kernel_rfl) (by kernel_rfl) (fun _ _ _ h => h) (.inl ⟨by kernel_rfl, fun w _ => by go_simp⟩) S1.out ?_
    refine wpAnyH_take (i := 12) (v := .int .i64 0) rfl (by kernel_rfl) (by kernel_rfl) (by kernel_rfl) (fun _ _ _ h => h) (.inl ⟨by kernel_rfl, fun w _ => by go_simp⟩) S1.out ?_
    refine wpAnyH_take (i := 13) (v := _) rfl (by kernel_rfl) (by kernel_rfl) (by kernel_rfl) (fun _ _ _ h => h) (yieldsIf_asg (by kernel_rfl) (.tmp 21) rfl (.string tx) (by kernel_rfl)) S1.out ?_
    refine wpAnyH_take (i := 14) (v := _) rfl (by kernel_rfl) (by kernel_rfl) (by kernel_rfl) (fun _ _ _ h => h) (yieldsIf_asg (by kernel_rfl) (.tmp 22) rfl (.int .i64 nx) (by kernel_rfl)) S1.out ?_
    refine wpAnyH_take (i := 15) (v := _) rfl (by kernel_rfl) (by kernel_rfl) (by kernel_rfl) (fun _ _ _ h => h) (yieldsIf_asg (by kernel_rfl) (.tmp 23) rfl (.int .i64 0) (by kernel_rfl)) S1.out ?_
    refine wpAnyH_done (by kernel_rfl) ?_ _
    have gf1 := Blk.frozen S1.out 1
    have gf2 := Blk.frozen S1.out 2
    have g1 : v1w.cell? ⟨g, 1, none⟩ = some (.int .i64 (p : Int)) := S1.out.at rfl
    have g2 : v1w.cell? ⟨g, 2, none⟩ = some (.int .i64 0) := S1.out.at rfl
    go_wp2_with fail
    go_ret
    exact HQ.out _ _ ⟨rfl, Blk.set (Blk.set S1.out 2 _) 1 _, ((Save.of_below b1.out g).setCell 2 _).setCell 1 _⟩
  · rw [if_neg h0] at HQ
    have hne : (er == 0) = false := by simpa using h0
    clear h0
    go_enter Tryd.func59, Tryd.ntmps59
    go_wp2
    go_upto_region 3 with fail
    have HRq : Hid (Blk w g 93 [.slice A n c, .int .i64 (p : Int), .int .i64 0]) := HR0
    have HLq : Hid (Below w.heap.size w w) := Below.refl _ _
    clear c2 HR0
    refine wp_region_held (S := fun w' => Blk w' g 93 [.slice A n c, .int .i64 (p : Int), .int .i64 0]) (by kernel_rfl) ?_
    change wpAnyH _ _ _ _ _ _ _ _ w.drew
    have S0 : Hid (Blk w.drew g 93 [.slice A n c, .int .i64 (p : Int), .int .i64 0]) := HRq.out.drew
    have b0 : Hid (Below w.heap.size w w.drew) := HLq.out.drew
    refine wpAnyH_take (i := 0) (v := _) rfl (by kernel_rfl) (by kernel_rfl) (by kernel_rfl) (fun _ _ _ h => h) (yieldsIf_move (by kernel_rfl) (.tmp 0) rfl (.pointer (some ⟨g, 0, none⟩)) (by kernel_rfl)) S0.out ?_
    refine wpAnyH_take (i := 1) (v := _) rfl (by kernel_rfl) (by kernel_rfl) (by kernel_rfl) (fun _ _ _ h => h) (yieldsIf_nil (by kernel_rfl) (.tmp 12) rfl ⟨g, 0, none⟩ (by kernel_rfl)) S0.out ?_
    refine wpAnyH_take (i := 2) (v := _) rfl (by kernel_rfl) (by kernel_rfl) (by kernel_rfl) (fun _ _ _ h => h) (yieldsIf_fld (by kernel_rfl) _ (.tmp 13) 0 rfl (.pointer (some ⟨g, 0, none⟩)) (.pointer (some ⟨g, 0, none⟩)) (by kernel_rfl) (fld_rd0 g)) S0.out ?_
    refine wpAnyH_take (i := 3) (v := _) rfl (by kernel_rfl) (by kernel_rfl) (by kernel_rfl) (fun _ _ _ h => h) (yieldsIf_load_one (by kernel_rfl) _ (.tmp 14) rfl g 0 (by kernel_rfl) (.slice A n c) (fun w h => h.at rfl) _ Tryd.underlying29 rfl) S0.out ?_
    refine wpAnyH_take (i := 4) (v := _) rfl (by kernel_rfl) (by kernel_rfl) (by kernel_rfl) (fun _ _ _ h => h) (yieldsIf_move (by kernel_rfl) (.tmp 0) rfl (.pointer (some ⟨g, 0, none⟩)) (by kernel_rfl)) S0.out ?_
    refine wpAnyH_take (i := 5) (v := _) rfl (by kernel_rfl) (by kernel_rfl) (by kernel_rfl) (fun _ _ _ h => h) (yieldsIf_nil (by kernel_rfl) (.tmp 16) rfl ⟨g, 0, none⟩ (by kernel_rfl)) S0.out ?_
    refine wpAnyH_take (i := 6) (v := _) rfl (by kernel_rfl) (by kernel_rfl) (by kernel_rfl) (fun _ _ _ h => h) (yieldsIf_fld (by kernel_rfl) _ (.tmp 17) 1 rfl (.pointer (some ⟨g, 0, none⟩)) (.pointer (some ⟨g, 1, none⟩)) (by kernel_rfl) (fld_rd1 g)) S0.out ?_
    refine wpAnyH_take (i := 7) (v := _) rfl (by kernel_rfl) (by kernel_rfl) (by kernel_rfl) (fun _ _ _ h => h) (yieldsIf_load_one (by kernel_rfl) _ (.tmp 18) rfl g 1 (by kernel_rfl) (.int .i64 (p : Int)) (fun w h => h.at rfl) _ Tryd.underlying3 rfl) S0.out ?_
    refine wpAnyH_one 8 _ (by kernel_rfl) rfl fun K hK => ?_
    go_simp
    refine ((CG.out _ b0.out)).mono ?_
    rintro e v1w ⟨rfl, L1⟩
    have S1 : Hid (Blk v1w g 93 [.slice A n c, .int .i64 (p : Int), .int .i64 0]) := S0.out.over L1
    have b1 : Hid (Below w.heap.size w v1w) := step b0.out L1
    refine hK _ _ S1.out ?_
    clear hK K L1
    refine wpAnyH_one 9 _ (by kernel_rfl) rfl fun K hK => ?_
    go_simp
    refine hK _ _ S1.out ?_
    clear hK K
    refine wpAnyH_take (i := 10) (v := .string tx) rfl (by kernel_rfl) (by kernel_rfl) (by kernel_rfl) (fun _ _ _ h => h) (.inl ⟨by kernel_rfl, fun w _ => by go_simp⟩) S1.out ?_
    refine wpAnyH_take (i := 11) (v := .int .i64 nx) rfl (by kernel_rfl) (by kernel_rfl) (by kernel_rfl) (fun _ _ _ h => h) (.inl ⟨by kernel_rfl, fun w _ => by go_simp⟩) S1.out ?_
    refine wpAnyH_take (i := 12) (v := .int .i64 er) rfl (by kernel_rfl) (by kernel_rfl) (by kernel_rfl) (fun _ _ _ h => h) (.inl ⟨by kernel_rfl, fun w _ => by go_simp⟩) S1.out ?_
    refine wpAnyH_take (i := 13) (v := _) rfl (by kernel_rfl) (by kernel_rfl) (by kernel_rfl) (fun _ _ _ h => h) (yieldsIf_asg (by kernel_rfl) (.tmp 21) rfl (.string tx) (by kernel_rfl)) S1.out ?_
    refine wpAnyH_take (i := 14) (v := _) rfl (by kernel_rfl) (by kernel_rfl) (by kernel_rfl) (fun _ _ _ h => h) (yieldsIf_asg (by kernel_rfl) (.tmp 22) rfl (.int .i64 nx) (by kernel_rfl)) S1.out ?_
    refine wpAnyH_take (i := 15) (v := _) rfl (by kernel_rfl) (by kernel_rfl) (by kernel_rfl) (fun _ _ _ h => h) (yieldsIf_asg (by kernel_rfl) (.tmp 23) rfl (.int .i64 er) (by kernel_rfl)) S1.out ?_
    refine wpAnyH_done (by kernel_rfl) ?_ _
    have gf2 := Blk.frozen S1.out 2
    have g2 : v1w.cell? ⟨g, 2, none⟩ = some (.int .i64 0) := S1.out.at rfl
    go_wp2_with fail
    go_ret
    exact HQ.out _ _ ⟨rfl, Blk.set S1.out 2 _, (Save.of_below b1.out g).setCell 2 _⟩
end Go.Proofs.YtepkamkgodbffaaDoor
