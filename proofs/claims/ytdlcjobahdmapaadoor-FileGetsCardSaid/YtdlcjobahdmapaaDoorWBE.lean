import Derived.WalkKit
import Derived.Deep.Draws
import Derived.Laws.Rows
import Derived.Laws.OwnMore
import Derived.Lib.RuneBytes
import Derived.Lib.ValidLaws
import Derived.Test.YtdlcjobahdmapaaDoorRows
import Derived.Laws.CopyOwn
import Derived.Laws.AppendOwnNone
import Derived.Lib.Hide
import Derived.Laws.AppendOwn
import Derived.OwnWalk
import Derived.Lib.OthersKept
import Derived.Laws.BytesArg
import Derived.Shelf.Utf8.AppendRunePlain
import Derived.Shelf.Unicode.ValidAny
import Derived.Test.YtdlcjobahdmapaaDoorProg
import Derived.WalkSpells
import Derived.WalkLawsBesides
import Derived.Deep.QuietTactic
import Derived.BigQuiet
import Derived.Laws.Bits64
import Derived.Laws.BitsAllLaws
import Derived.Laws.Tables
import Derived.Laws.NewFold
import Derived.Deep.WholeRow
import Derived.Deep.MidRow
import Derived.Great.Walk
import Derived.OrdersHeld
import Derived.Laws.StructEq
import Derived.ChangeKeysEq
import Derived.Deep.RegionLaw
import Derived.Deep.DeepCutAuto
import Derived.OneCell
import Derived.ProofKit
import Derived.OpenShut
import Derived.ShutString
import Derived.SizedLaws
import Derived.ChangeOld
import Derived.Deep.Strs
import Derived.Lib.AppendZeros
import Derived.Deep.RegionWith
import Derived.Deep.OwnRows
import Derived.Test.YtdlcjobahdmapaaDoorWAD
import Derived.Test.YtdlcjobahdmapaaDoorWAE
import Derived.Test.YtdlcjobahdmapaaDoorWAF
import Derived.Test.YtdlcjobahdmapaaDoorWAG
import Derived.Test.YtdlcjobahdmapaaDoorWAH
import Derived.Test.YtdlcjobahdmapaaDoorWAJ
import Derived.Test.YtdlcjobahdmapaaDoorWAK
import Derived.Test.YtdlcjobahdmapaaDoorWAL
import Derived.Test.YtdlcjobahdmapaaDoorWAN
import Derived.Test.YtdlcjobahdmapaaDoorWAO
import Derived.Test.YtdlcjobahdmapaaDoorWAP
import Derived.Test.YtdlcjobahdmapaaDoorWAQ
import Derived.Test.YtdlcjobahdmapaaDoorWAS
import Derived.Test.YtdlcjobahdmapaaDoorWAT
import Derived.Test.YtdlcjobahdmapaaDoorWAU
import Derived.Test.YtdlcjobahdmapaaDoorWAW
import Derived.Test.YtdlcjobahdmapaaDoorWAX
import Derived.Test.YtdlcjobahdmapaaDoorWAY
namespace Go.Proofs.YtdlcjobahdmapaaDoor
set_option linter.all false
open Go.RowKit
theorem gets_odd {xs : List Int} (h : Bytes xs) (ho : xs.length % 2 = 1) : gets xs = none := by
  cases e : gets xs with
  | none => rfl
  | some rs =>
    have h1 := (gets_back h e).2
    have h2 := congrArg List.length h1
    rw [putBytes_length] at h2
    omega
end Go.Proofs.YtdlcjobahdmapaaDoor

namespace Go.Proofs.YtdlcjobahdmapaaDoor
set_option linter.all false
theorem numAt2 (xs : List Int) (p : Nat) (h : p + 2 ≤ xs.length) : numAt xs p 2 = xs.getD p 0 + 256 * xs.getD (p + 1) 0 := by
  unfold numAt
  have e : (xs.drop p).take 2 = [xs.getD p 0, xs.getD (p + 1) 0] := by
    rw [List.drop_eq_getElem_cons (by omega : p < xs.length), List.take_succ_cons, List.drop_eq_getElem_cons (by omega : p + 1 < xs.length), List.take_succ_cons, List.take_zero]
    simp [List.getD_eq_getElem?_getD, show p < xs.length from by omega, show p + 1 < xs.length from by omega]
  rw [e]
  simp [num]
end Go.Proofs.YtdlcjobahdmapaaDoor

namespace Go.Proofs.YtdlcjobahdmapaaDoor
set_option linter.all false
open Go.RowKit
section
section
variable {P : Program} {w : World} {d : Nat} {xs ys : Array Value} {r : List (Bool × TypeId × Nat)} {q : Bool}
end
section
variable {P : Program} {ops : Array Oper} {S : World → Prop}
theorem yieldsIf_nil {op : Oper} {a : Act} (hw : Region.wanted op (yielded ops a.tmps) = true) (x : Operand) (ho : op.op = .nilCheck x) (ad : Addr) (hx : a.eval x = .pointer (some ad)) : YieldsIf P ops S op (.pointer (some ad)) a :=
  .inl ⟨hw, fun w _ => by
    unfold execOp
    simp [ho, hx]⟩
end
end
end Go.Proofs.YtdlcjobahdmapaaDoor

namespace Go.Proofs.YtdlcjobahdmapaaDoor
set_option linter.all false
open Go.RowKit
set_option maxHeartbeats 2000000 in
theorem bytes_any (w : World) (r : Int) (hr : IsLetter r) :
    Calls Tryd.prog 104 #[.int .i64 r] w fun e w' => ∃ v, e = .returned v ∧ OwnK .u8 5 w' w.heap.size v (Lib.encodeRuneZ r) ∧ Below w.heap.size w w' := by
  obtain ⟨r0, r1, r2⟩ := hr
  have p1 : r.tdiv 64 = r / 64 := Int.tdiv_eq_ediv_of_nonneg r0
  have p2 : r.tdiv 4096 = r / 4096 := Int.tdiv_eq_ediv_of_nonneg r0
  have p3 : r.tdiv 262144 = r / 262144 := Int.tdiv_eq_ediv_of_nonneg r0
  have p4 : r.tmod 64 = r % 64 := Int.tmod_eq_emod_of_nonneg r0
  have p5 : (r / 64).tmod 64 = r / 64 % 64 := Int.tmod_eq_emod_of_nonneg (by omega)
  have p6 : (r / 4096).tmod 64 = r / 4096 % 64 := Int.tmod_eq_emod_of_nonneg (by omega)
  by_cases c1 : r < 128
  · rw [Lib.encodeRuneZ_one r0 (by omega)]
    have hO := Lib.hid (OwnK.lit .u8 5 w [r] #[.int .u8 r] 1 rfl rfl (by decide))
    go_enter Tryd.func104, Tryd.ntmps104
    go_wp2
    go_ret
    exact ⟨_, rfl, hO.out, (Below.refl _ _).alloc (Nat.le_refl _) _⟩
  by_cases c2 : r < 2048
  · rw [Lib.encodeRuneZ_two (by omega) (by omega)]
    have hO := Lib.hid (OwnK.lit .u8 5 w [192 + r / 64, 128 + r % 64] #[.int .u8 (192 + r / 64), .int .u8 (128 + r % 64)] 2 rfl rfl (by decide))
    go_enter Tryd.func104, Tryd.ntmps104
    go_wp2
    go_ret
    exact ⟨_, rfl, hO.out, (Below.refl _ _).alloc (Nat.le_refl _) _⟩
  by_cases c3 : r < 65536
  · rw [Lib.encodeRuneZ_three (by omega)]
    have hO := Lib.hid (OwnK.lit .u8 5 w [224 + r / 4096, 128 + r / 64 % 64, 128 + r % 64] #[.int .u8 (224 + r / 4096), .int .u8 (128 + r / 64 % 64), .int .u8 (128 + r % 64)] 3 rfl rfl (by decide))
    go_enter Tryd.func104, Tryd.ntmps104
    go_wp2
    go_ret
    exact ⟨_, rfl, hO.out, (Below.refl _ _).alloc (Nat.le_refl _) _⟩
  · rw [Lib.encodeRuneZ_four (by omega) r1]
    have hO := Lib.hid (OwnK.lit .u8 5 w [240 + r / 262144, 128 + r / 4096 % 64, 128 + r / 64 % 64, 128 + r % 64] #[.int .u8 (240 + r / 262144), .int .u8 (128 + r / 4096 % 64), .int .u8 (128 + r / 64 % 64), .int .u8 (128 + r % 64)] 4 rfl rfl (by decide))
    go_enter Tryd.func104, Tryd.ntmps104
    go_wp2
    go_ret
    exact ⟨_, rfl, hO.out, (Below.refl _ _).alloc (Nat.le_refl _) _⟩
end Go.Proofs.YtdlcjobahdmapaaDoor

namespace Go.Proofs.YtdlcjobahdmapaaDoor
set_option linter.all false
open Go.RowKit
set_option maxRecDepth 100000 in
set_option maxHeartbeats 4000000 in
theorem TRGet_any (w : World) (A : Option Addr) (n c : Nat) (xs : List Int) (h : Holds w w.heap.size A n c xs) (hn : n ≤ 4398046511104) :
    Calls Tryd.prog 97 #[.slice A n c] w (GetPost w xs) := by
  have hl := Lib.hid h.len
  have hf := h.fit
  have hby := h.byte
  have hq : ∀ o, gets xs = o → ∀ (e : Ending) (w' : World), (e = .returned (.tuple #[.string ⟨(match o with | some rs => rs.flatMap enc | none => []).toArray⟩, .int .i64 (match o with | some _ => 0 | none => 5)]) ∧ Below w.heap.size w w') → GetPost w xs e w' := by
    intro o ho e w' hh
    subst ho
    exact hh
  have HQ := Lib.hid hq
  have hnm : (n : Int).tmod 2 = (n : Int) % 2 := Int.tmod_eq_emod_of_nonneg (by omega)
  by_cases hodd : n % 2 = 1
  · have ho : gets xs = none := gets_odd hby (by rw [hl.out]; exact hodd)
    have HO := Lib.hid ho
    have hne : ((n : Int) % 2 != 0) = true := by rw [bne_iff_ne]; omega
    clear hq ho
    go_enter Tryd.func97, Tryd.ntmps97
    go_wp2
    go_ret2
    exact HQ.out none HO.out _ _ ⟨rfl, Below.refl _ _⟩
  have hev : n % 2 = 0 := by omega
  have hne : ((n : Int) % 2 != 0) = false := by rw [bne_eq_false_iff_eq]; omega
  obtain ⟨O, hO⟩ : ∃ O, gets xs = O := ⟨_, rfl⟩
  have HO := Lib.hid hO
  have HEV := Lib.hid hev
  clear hq hO hodd hev
  have cL := fun w n h => Lib.hid (Letter_any w n h)
  have cB := fun w r h => Lib.hid (bytes_any w r h)
  go_enter Tryd.func97, Tryd.ntmps97
  go_wp2
  go_loopw [4, 5, 6, 7, 8] (fun v i _ _ _ wr => ∃ (k : Nat) (rs : List Int), i = .int .i64 k ∧ Hid (OwnK .u8 5 wr w.heap.size v (rs.flatMap Lib.encodeRuneZ)) ∧ Below w.heap.size w wr ∧ Hid (∀ r ∈ rs, IsLetter r) ∧ Hid ((getK xs k).map (rs ++ ·) = O) ∧ Hid ((rs.flatMap Lib.encodeRuneZ).length ≤ 4 * k) ∧ k ≤ n ∧ Hid (k % 2 = 0)) (fun _ i _ _ _ _ => n - (intOf i).toNat)
  case atStart =>
    refine ⟨0, [], rfl, OwnK.nil _ _ _ _, Below.refl _ _, (fun _ h => by cases h), ?_, (by show _ ≤ _; simp), by omega, (by show _ = _; rfl)⟩
    show _ = _
    rw [← HO.out, gets_zero]
    cases getK xs 0 <;> rfl
  case round =>
    obtain ⟨k, rs, rfl, HV, hb, HR, HE, HL, hk, HK2⟩ := hrel
    have hbs := hb.size
    by_cases hlt : k < n
    · have hk2 : k + 2 ≤ n := by have := HK2.out; have := HEV.out; omega
      have hstep := getK_step hby (k := k) (by have := hl.out; omega)
      obtain ⟨b, off, rfl, hbb, hc0⟩ := (h.below hb).two hlt
      have g0 := hc0 k (by omega)
      have g1 := hc0 (k + 1) (by omega)
      have bd0 := hby.getD k
      have bd1 := hby.getD (k + 1)
      have hu0 : unitAt xs k = xs.getD k 0 + 256 * xs.getD (k + 1) 0 := rfl
      have hst : ∀ r z, letAt xs k = (r, z) → z ≠ 0 → getK xs k = (getK xs (k + z)).map (r :: ·) := fun r z e hz => by
        rw [hstep, e]
        exact if_neg hz
      have hst0 : letAt xs k = (0, 0) → getK xs k = none := fun e => by rw [hstep, e]; rfl
      have hlet : letAt xs k = if 56320 ≤ unitAt xs k ∧ unitAt xs k < 57344 then (0, 0)
          else if unitAt xs k < 55296 ∨ 56320 ≤ unitAt xs k then (unitAt xs k, 2)
          else if xs.length < k + 4 then (0, 0)
          else if 56320 ≤ unitAt xs (k + 2) ∧ unitAt xs (k + 2) < 57344 then (65536 + (unitAt xs k - 55296) * 1024 + (unitAt xs (k + 2) - 56320), 4)
          else (0, 0) := by
        unfold letAt
        rw [if_neg (by have := hl.out; omega)]
      have hlts := letAt_cases hby k
      obtain ⟨x, hx⟩ : ∃ x, x = xs.getD k 0 := ⟨_, rfl⟩
      obtain ⟨y, hy⟩ : ∃ y, y = xs.getD (k + 1) 0 := ⟨_, rfl⟩
      rw [← hx] at g0 bd0 hu0
      rw [← hy] at g1 bd1 hu0
      rw [hu0] at hlet
      obtain ⟨x0, x1⟩ := bd0
      obtain ⟨y0, y1⟩ := bd1
      have i0 : (k : Int) < (n : Int) := by omega
      have i1 : (k : Int) + 1 < (n : Int) := by omega
      have i2 : (0 : Int) ≤ (k : Int) := by omega
      have i3 : (0 : Int) ≤ (k : Int) + 1 := by omega
      have i4 : ((k : Int) + 1).toNat = k + 1 := by omega
      have i5 : IntKind.i64.wrap ((k : Int) + 1) = (k : Int) + 1 := by rw [IntKind.wrap_i64]; omega
      have j1 : IntKind.i64.wrap (256 * y) = 256 * y := by rw [IntKind.wrap_i64]; omega
      have j2 : IntKind.i64.wrap (x + 256 * y) = x + 256 * y := by rw [IntKind.wrap_i64]; omega
      have HLET := Lib.hid hlet
      have HST := Lib.hid hst
      have HST0 := Lib.hid hst0
      have HLTS := Lib.hid hlts
      have HC0 := Lib.hid hc0
      clear hlet hst hst0 hstep hu0 hx hy hlts hc0
      go_wp2
      go_quiet (fail)
      obtain ⟨w3, hw3⟩ : ∃ w3, w3 = wr.drewN nq := ⟨_, rfl⟩
      have HV3 := Lib.hid (OwnK.keep (w' := w3) HV.out (fun _ _ _ _ => by rw [hw3]; rfl))
      have hb3 : Below w.heap.size w w3 := by rw [hw3]; exact hb.trans ⟨rfl, rfl, rfl, Nat.le_refl _, fun _ _ => rfl⟩
      have HC3 : Hid (∀ i, i < n → w3.cell? ⟨b, off + i, none⟩ = some (.int .u8 (xs.getD i 0))) := by rw [hw3]; exact HC0.out
      have hb3s := hb3.size
      rw [← hw3]
      clear hw3 HV HC0 g0 g1 i0 i1 i2 i3 i4 i5 j1 j2 hb hbs
      obtain ⟨u, hu⟩ : ∃ u, u = x + 256 * y := ⟨_, rfl⟩
      rw [← hu] at HLET ⊢
      have hub : 0 ≤ u ∧ u ≤ 65535 := by omega
      obtain ⟨hu0, hu1⟩ := hub
      clear hu x0 x1 y0 y1
      by_cases hA : 55296 ≤ u ∧ u < 56320
      · obtain ⟨hA0, hA1⟩ := hA
        have hl1 : letAt xs k = if xs.length < k + 4 then (0, 0)
            else if 56320 ≤ unitAt xs (k + 2) ∧ unitAt xs (k + 2) < 57344 then (65536 + (u - 55296) * 1024 + (unitAt xs (k + 2) - 56320), 4)
            else (0, 0) := by rw [HLET.out, if_neg (by omega), if_neg (by omega)]
        by_cases h4 : n < k + 4
        · have HN : Hid (O = none) := by
            have := HE.out
            rw [HST0.out (by rw [hl1, if_pos (by have := hl.out; omega)])] at this
            exact this.symm
          have h4' : (n : Int) ≤ (k : Int) + 3 := by omega
          clear hl1
          go_wp2
          go_ret2
          refine HQ.out O HO.out _ _ ⟨?_, hb3⟩
          rw [HN.out]
          rfl
        · have h4' : ¬ ((n : Int) ≤ (k : Int) + 3) := by omega
          have g2 := HC3.out (k + 2) (by omega)
          have g3 := HC3.out (k + 3) (by omega)
          have bd2 := hby.getD (k + 2)
          have bd3 := hby.getD (k + 3)
          have hu2 : unitAt xs (k + 2) = xs.getD (k + 2) 0 + 256 * xs.getD (k + 3) 0 := rfl
          obtain ⟨x2, hx2⟩ : ∃ x2, x2 = xs.getD (k + 2) 0 := ⟨_, rfl⟩
          obtain ⟨y2, hy2⟩ : ∃ y2, y2 = xs.getD (k + 3) 0 := ⟨_, rfl⟩
          rw [← hx2] at g2 bd2 hu2
          rw [← hy2] at g3 bd3 hu2
          obtain ⟨x20, x21⟩ := bd2
          obtain ⟨y20, y21⟩ := bd3
          rw [if_neg (by have := hl.out; omega), hu2] at hl1
          by_cases hbad : y2 < 220 ∨ 223 < y2
          · have HN : Hid (O = none) := by
              have := HE.out
              rw [HST0.out (by rw [hl1, if_neg (by omega)])] at this
              exact this.symm
            clear hl1 hu2 hx2 hy2
            rcases hbad with hbad | hbad
            · have hq1 : ¬ (223 < y2) := by omega
              go_wp2
              go_ret2
              refine HQ.out O HO.out _ _ ⟨?_, hb3⟩
              rw [HN.out]
              rfl
            · have hq1 : ¬ (y2 < 220) := by omega
              go_wp2
              go_ret2
              refine HQ.out O HO.out _ _ ⟨?_, hb3⟩
              rw [HN.out]
              rfl
          · have hbad1 : ¬ (y2 < 220) := by omega
            have hbad2 : ¬ (223 < y2) := by omega
            rw [if_pos (by omega)] at hl1
            have hlt4 := HLTS.out
            rw [hl1] at hlt4
            have i0 : (k : Int) + 2 < (n : Int) := by omega
            have i1 : (k : Int) + 3 < (n : Int) := by omega
            have i2 : (0 : Int) ≤ (k : Int) + 2 := by omega
            have i3 : (0 : Int) ≤ (k : Int) + 3 := by omega
            have i4 : ((k : Int) + 2).toNat = k + 2 := by omega
            have i5 : ((k : Int) + 3).toNat = k + 3 := by omega
            have i6 : IntKind.i64.wrap ((k : Int) + 2) = (k : Int) + 2 := by rw [IntKind.wrap_i64]; omega
            have i7 : IntKind.i64.wrap ((k : Int) + 3) = (k : Int) + 3 := by rw [IntKind.wrap_i64]; omega
            have j1 : IntKind.i64.wrap (256 * y2) = 256 * y2 := by rw [IntKind.wrap_i64]; omega
            have j2 : IntKind.i64.wrap (x2 + 256 * y2) = x2 + 256 * y2 := by rw [IntKind.wrap_i64]; omega
            have HL1 := Lib.hid hl1
            have HLT4 := Lib.hid hlt4
            clear hl1 hlt4 hu2 hx2 hy2 hbad
            go_wp2
            go_quiet (fail)
            go_wp2_with fail
            have hRl : IsLetter (65536 + 1024 * (u - 55296) + (x2 + 256 * y2) - 56320) := by
              rcases HLT4.out with e | ⟨e, _⟩ | ⟨_, _, e, _⟩
              · exact absurd (show (4 : Nat) = 0 from congrArg Prod.snd e) (by decide)
              · exact absurd (show (4 : Nat) = 2 from e) (by decide)
              · rw [show 65536 + 1024 * (u - 55296) + (x2 + 256 * y2) - 56320 = 65536 + (u - 55296) * 1024 + (x2 + 256 * y2 - 56320) by omega]
                exact e
            have HE' : Hid ((getK xs (k + 4)).map ((rs ++ [65536 + 1024 * (u - 55296) + (x2 + 256 * y2) - 56320]) ++ ·) = O) := by
              have := HE.out
              rw [HST.out (65536 + 1024 * (u - 55296) + (x2 + 256 * y2) - 56320) 4 (by rw [HL1.out]; exact Prod.ext (by dsimp only; omega) rfl) (by decide), Option.map_map] at this
              show _ = _
              rw [← this]
              congr 1
              funext q
              simp
            have HRL := Lib.hid hRl
            have hz4 : (Lib.encodeRuneZ (65536 + 1024 * (u - 55296) + (x2 + 256 * y2) - 56320)).length ≤ 4 := (Lib.encodeRuneZ_length _).2
            have hbz : Bytes (Lib.encodeRuneZ (65536 + 1024 * (u - 55296) + (x2 + 256 * y2) - 56320)) := fun q hq => by have := Lib.encodeRuneZ_byte _ q hq; omega
            obtain ⟨zs, hzs⟩ : ∃ zs, zs = Lib.encodeRuneZ (65536 + 1024 * (u - 55296) + (x2 + 256 * y2) - 56320) := ⟨_, rfl⟩
            have c2 := bytes_any (w3.drewN nq) (65536 + 1024 * (u - 55296) + (x2 + 256 * y2) - 56320) hRl
            rw [← hzs] at c2 hz4 hbz
            have C2 := Lib.hid c2
            have HZS := Lib.hid hzs
            clear c2 hRl hzs
            refine C2.out.mono ?_
            rintro e w4 ⟨v4, rfl, ho4, hb4⟩
            obtain ⟨A4, c4, rfl, hh4⟩ := ho4.holds hbz (by omega)
            have hb34 : Below w3.heap.size w3 w4 := (show Below w3.heap.size w3 (w3.drewN nq) from ⟨rfl, rfl, rfl, Nat.le_refl _, fun _ _ => rfl⟩).trans (show Below w3.heap.size (w3.drewN nq) w4 from hb4)
            have HH4 := Lib.hid hh4
            have HV4 := Lib.hid (HV3.out.below hb34)
            have hs4 := hb34.size
            obtain ⟨mz, hmz⟩ : ∃ mz, mz = zs.length := ⟨_, rfl⟩
            rw [← hmz] at hz4 HH4 ⊢
            have HMZ := Lib.hid hmz
            have hlz : (rs.flatMap Lib.encodeRuneZ).length + zs.length ≤ 140737488355328 := by have := HL.out; omega
            clear ho4 hh4 hb4 hmz C2
            go_wp2_with (at_builtin; go_loud (refine wpList_append_bytes rfl (.tmp 87) (.tmp 88) rfl w.heap.size _ _ rfl HV4.out _ _ _ _ _ rfl HH4.out hlz (by omega) ?_; intro v5 w5 ho5 hb5 hg5))
            go_roundw
            case rel =>
              refine ⟨k + 4, rs ++ [65536 + 1024 * (u - 55296) + (x2 + 256 * y2) - 56320], by go_num, ?_, (hb3.trans (hb34.mono hb3s)).trans hb5, ?_, HE', ?_, by omega, ?_⟩
              · show Own _ _ _ _
                have := ho5.out
                rw [HZS.out] at this
                simpa using this
              · intro q hq
                rcases List.mem_append.1 hq with hq | hq
                · exact HR.out q hq
                · rcases List.mem_singleton.1 hq with rfl
                  exact HRL.out
              · show _ ≤ _
                have h1 := HL.out
                have h2 := HMZ.out
                rw [List.flatMap_append, List.length_append, List.flatMap_cons, List.flatMap_nil, List.append_nil, ← HZS.out]
                omega
              · show _ = _
                have := HK2.out
                omega
            case measure => simp [intOf]; omega
      · by_cases hB : 56320 ≤ u ∧ u < 57344
        · have hlb : letterB u = false := by rw [letterB_false]; unfold IsLetter; omega
          have HN : Hid (O = none) := by
            have := HE.out
            rw [HST0.out (by rw [HLET.out, if_pos hB])] at this
            exact this.symm
          have c3 := (cL w3 u (by omega)).out
          rw [hlb] at c3
          have C3 := Lib.hid c3
          have hA2 : ¬ (u < 56320) := by omega
          clear c3 hlb
          go_wp2_with fail
          refine C3.out.mono ?_
          rintro e w' ⟨rfl, rfl⟩
          go_wp2
          go_ret2
          refine HQ.out O HO.out _ _ ⟨?_, hb3⟩
          rw [HN.out]
          rfl
        · have hul : IsLetter u := ⟨by omega, by omega, by omega⟩
          have HL1 := Lib.hid (HLET.out.trans (by rw [if_neg hB, if_pos (by omega)]))
          have hlb : letterB u = true := by rw [letterB_iff]; exact hul
          have c3 := (cL w3 u (by omega)).out
          rw [hlb] at c3
          have C3 := Lib.hid c3
          clear c3 hlb
          by_cases hC : 55296 ≤ u
          · have hC2 : ¬ (u < 56320) := by omega
            go_wp2_with fail
            refine C3.out.mono ?_
            rintro e w' ⟨rfl, rfl⟩
            go_wp2_with fail
            have hRl : IsLetter (u) := hul
            have HE' : Hid ((getK xs (k + 2)).map ((rs ++ [u]) ++ ·) = O) := by
              have := HE.out
              rw [HST.out _ _ HL1.out (by decide), Option.map_map] at this
              show _ = _
              rw [← this]
              congr 1
              funext q
              simp
            have HRL := Lib.hid hRl
            have hz4 : (Lib.encodeRuneZ (u)).length ≤ 4 := (Lib.encodeRuneZ_length _).2
            have hbz : Bytes (Lib.encodeRuneZ (u)) := fun q hq => by have := Lib.encodeRuneZ_byte _ q hq; omega
            obtain ⟨zs, hzs⟩ : ∃ zs, zs = Lib.encodeRuneZ (u) := ⟨_, rfl⟩
            have c2 := bytes_any w3 (u) hRl
            rw [← hzs] at c2 hz4 hbz
            have C2 := Lib.hid c2
            have HZS := Lib.hid hzs
            clear c2 hRl hzs
            refine C2.out.mono ?_
            rintro e w4 ⟨v4, rfl, ho4, hb4⟩
            obtain ⟨A4, c4, rfl, hh4⟩ := ho4.holds hbz (by omega)
            have hb34 : Below w3.heap.size w3 w4 := hb4
            have HH4 := Lib.hid hh4
            have HV4 := Lib.hid (HV3.out.below hb34)
            have hs4 := hb34.size
            obtain ⟨mz, hmz⟩ : ∃ mz, mz = zs.length := ⟨_, rfl⟩
            rw [← hmz] at hz4 HH4 ⊢
            have HMZ := Lib.hid hmz
            have hlz : (rs.flatMap Lib.encodeRuneZ).length + zs.length ≤ 140737488355328 := by have := HL.out; omega
            clear ho4 hh4 hb4 hmz C2
            go_wp2_with (at_builtin; go_loud (refine wpList_append_bytes rfl (.tmp 87) (.tmp 88) rfl w.heap.size _ _ rfl HV4.out _ _ _ _ _ rfl HH4.out hlz (by omega) ?_; intro v5 w5 ho5 hb5 hg5))
            go_roundw
            case rel =>
              refine ⟨k + 2, rs ++ [u], by go_num, ?_, (hb3.trans (hb34.mono hb3s)).trans hb5, ?_, HE', ?_, by omega, ?_⟩
              · show Own _ _ _ _
                have := ho5.out
                rw [HZS.out] at this
                simpa using this
              · intro q hq
                rcases List.mem_append.1 hq with hq | hq
                · exact HR.out q hq
                · rcases List.mem_singleton.1 hq with rfl
                  exact HRL.out
              · show _ ≤ _
                have h1 := HL.out
                have h2 := HMZ.out
                rw [List.flatMap_append, List.length_append, List.flatMap_cons, List.flatMap_nil, List.append_nil, ← HZS.out]
                omega
              · show _ = _
                have := HK2.out
                omega
            case measure => simp [intOf]; omega
          · go_wp2_with fail
            refine C3.out.mono ?_
            rintro e w' ⟨rfl, rfl⟩
            go_wp2_with fail
            have hRl : IsLetter (u) := hul
            have HE' : Hid ((getK xs (k + 2)).map ((rs ++ [u]) ++ ·) = O) := by
              have := HE.out
              rw [HST.out _ _ HL1.out (by decide), Option.map_map] at this
              show _ = _
              rw [← this]
              congr 1
              funext q
              simp
            have HRL := Lib.hid hRl
            have hz4 : (Lib.encodeRuneZ (u)).length ≤ 4 := (Lib.encodeRuneZ_length _).2
            have hbz : Bytes (Lib.encodeRuneZ (u)) := fun q hq => by have := Lib.encodeRuneZ_byte _ q hq; omega
            obtain ⟨zs, hzs⟩ : ∃ zs, zs = Lib.encodeRuneZ (u) := ⟨_, rfl⟩
            have c2 := bytes_any w3 (u) hRl
            rw [← hzs] at c2 hz4 hbz
            have C2 := Lib.hid c2
            have HZS := Lib.hid hzs
            clear c2 hRl hzs
            refine C2.out.mono ?_
            rintro e w4 ⟨v4, rfl, ho4, hb4⟩
            obtain ⟨A4, c4, rfl, hh4⟩ := ho4.holds hbz (by omega)
            have hb34 : Below w3.heap.size w3 w4 := hb4
            have HH4 := Lib.hid hh4
            have HV4 := Lib.hid (HV3.out.below hb34)
            have hs4 := hb34.size
            obtain ⟨mz, hmz⟩ : ∃ mz, mz = zs.length := ⟨_, rfl⟩
            rw [← hmz] at hz4 HH4 ⊢
            have HMZ := Lib.hid hmz
            have hlz : (rs.flatMap Lib.encodeRuneZ).length + zs.length ≤ 140737488355328 := by have := HL.out; omega
            clear ho4 hh4 hb4 hmz C2
            go_wp2_with (at_builtin; go_loud (refine wpList_append_bytes rfl (.tmp 87) (.tmp 88) rfl w.heap.size _ _ rfl HV4.out _ _ _ _ _ rfl HH4.out hlz (by omega) ?_; intro v5 w5 ho5 hb5 hg5))
            go_roundw
            case rel =>
              refine ⟨k + 2, rs ++ [u], by go_num, ?_, (hb3.trans (hb34.mono hb3s)).trans hb5, ?_, HE', ?_, by omega, ?_⟩
              · show Own _ _ _ _
                have := ho5.out
                rw [HZS.out] at this
                simpa using this
              · intro q hq
                rcases List.mem_append.1 hq with hq | hq
                · exact HR.out q hq
                · rcases List.mem_singleton.1 hq with rfl
                  exact HRL.out
              · show _ ≤ _
                have h1 := HL.out
                have h2 := HMZ.out
                rw [List.flatMap_append, List.length_append, List.flatMap_cons, List.flatMap_nil, List.append_nil, ← HZS.out]
                omega
              · show _ = _
                have := HK2.out
                omega
            case measure => simp [intOf]; omega
    · obtain rfl : k = n := by omega
      have hend := getK_end (xs := xs) (k := k) (by have := hl.out; omega)
      have HS : Hid (O = some rs) := by
        have := HE.out
        rw [hend] at this
        show _ = _
        simpa using this.symm
      have hcv := run_string_own (P := Tryd.prog) (src := 29) Tryd.underlying29 Tryd.underlying5 HV.out
      rw [strOf_enc rs HR.out] at hcv
      obtain ⟨T, hT⟩ : ∃ T : ByteArray, T = ⟨(rs.flatMap enc).toArray⟩ := ⟨_, rfl⟩
      rw [← hT] at hcv
      have HT := Lib.hid hT
      clear hend hT HE
      go_wp2
      go_ret2
      refine HQ.out O HO.out _ _ ⟨?_, hb⟩
      rw [HS.out, HT.out]
      rfl
end Go.Proofs.YtdlcjobahdmapaaDoor

namespace Go.Proofs.YtdlcjobahdmapaaDoor
set_option linter.all false
open Go.RowKit
theorem num_drop {ys : List Int} {k : Nat} (hk : k < ys.length) : num (ys.drop k) = ys.getD k 0 + 256 * num (ys.drop (k + 1)) := by
  rw [List.drop_eq_getElem_cons hk, num]
  simp [List.getD_eq_getElem?_getD, hk]
set_option maxHeartbeats 400000 in
theorem RGet_any (w : World) (B : Nat) (A : Option Addr) (n c : Nat) (xs : List Int) (a s : Int) (h : Holds w B A n c xs)
    (ha : -9223372036854775808 ≤ a ∧ a ≤ 9223372036854775807) (hs : -9223372036854775808 ≤ s ∧ s ≤ 9223372036854775807) :
    Calls Tryd.prog 76 #[.slice A n c, .int .i64 a, .int .i64 s] w fun e w' => e = .returned (.tuple #[.int .u64 (getOf xs a s), .int .i64 (getErr n a s)]) ∧ w = w' := by
  have hl := Lib.hid h.len
  have hr := h.room
  have c1 := RSize_any w s
  have hzero : getErr n a s ≠ 0 → getOf xs a s = 0 := fun h1 => by unfold getOf; rw [hl.out, if_neg h1]
  by_cases hz : sizeOk s = true
  · have hs8 : 1 ≤ s ∧ s ≤ 8 := by rcases sizeOk_cases hz with e | e | e | e <;> omega
    obtain ⟨hs1, hs8⟩ := hs8
    have e1 : getErr n a s = partErr n a s := by unfold getErr; rw [if_pos hz]
    have e2 : partErr n a s = 0 → getOf xs a s = num ((xs.drop a.toNat).take s.toNat) := fun h1 => by unfold getOf; rw [hl.out, e1, if_pos h1]
    rw [hz] at c1
    have C1 := Lib.hid c1
    clear c1 hz
    by_cases h1 : a < 0
    · have e3 : partErr n a s = 2 := by simp [partErr, h1]
      rw [hzero (by omega), e1, e3]
      clear e1 e2 e3 hzero
      go_enter Tryd.func76, Tryd.ntmps76
      go_wp2_with fail
      refine C1.out.mono ?_
      rintro e w' ⟨rfl, rfl⟩
      go_wp2
      go_ret2
      exact ⟨rfl, rfl⟩
    by_cases h2 : (n : Int) < a
    · have e3 : partErr n a s = 2 := by simp [partErr, h2]
      rw [hzero (by omega), e1, e3]
      clear e1 e2 e3 hzero
      go_enter Tryd.func76, Tryd.ntmps76
      go_wp2_with fail
      refine C1.out.mono ?_
      rintro e w' ⟨rfl, rfl⟩
      go_wp2
      go_ret2
      exact ⟨rfl, rfl⟩
    by_cases h4 : (n : Int) - a < s
    · have e3 : partErr n a s = 4 := by unfold partErr; rw [if_neg (by omega), if_pos h4]
      rw [hzero (by omega), e1, e3]
      clear e1 e2 e3 hzero
      go_enter Tryd.func76, Tryd.ntmps76
      go_wp2_with fail
      refine C1.out.mono ?_
      rintro e w' ⟨rfl, rfl⟩
      go_wp2
      go_ret2
      exact ⟨rfl, rfl⟩
    have e3 : partErr n a s = 0 := by unfold partErr; rw [if_neg (by omega), if_neg h4]
    rw [e2 e3, e1, e3]
    obtain ⟨p, rfl⟩ := Int.eq_ofNat_of_zero_le (show 0 ≤ a by omega)
    obtain ⟨j, rfl⟩ := Int.eq_ofNat_of_zero_le (show 0 ≤ s by omega)
    simp only [Int.toNat_natCast]
    obtain ⟨b, off, rfl, hb, hc⟩ := h.cells (by omega)
    obtain ⟨ys, hys⟩ : ∃ ys, ys = (xs.drop p).take j := ⟨_, rfl⟩
    have hyl : ys.length = j := by have := hl.out; rw [hys]; simp; omega
    have hyb : Bytes ys := by rw [hys]; exact (h.byte.drop _).take _
    have hyc : ∀ i, i < j → w.cell? ⟨b, off + (p + i), none⟩ = some (.int .u8 (ys.getD i 0)) := fun i hi => by
      rw [hc (p + i) (by omega), hys]
      simp [List.getD_eq_getElem?_getD, List.getElem?_drop, hi]
    rw [← hys]
    obtain ⟨z, hz⟩ : ∃ z, z = num ys := ⟨_, rfl⟩
    rw [← hz]
    have HZ := Lib.hid hz
    have HL := Lib.hid hyl
    have HC := Lib.hid hyc
    clear e1 e2 e3 hzero hys hyl hz hc hyc
    go_enter Tryd.func76, Tryd.ntmps76
    go_wp2_with fail
    refine C1.out.mono ?_
    rintro e w' ⟨rfl, rfl⟩
    go_wp2_with fail
    go_loop [8, 9] (fun v i => ∃ k : Nat, k ≤ j ∧ i = .int .i64 ((k : Int) - 1) ∧ ∃ z', v = .int .u64 z' ∧ Hid (z' = num (ys.drop k))) (fun _ i => (intOf i + 1).toNat)
    case atStart => exact ⟨j, Nat.le_refl _, rfl, 0, rfl, by rw [List.drop_of_length_le (by have := HL.out; omega)]; rfl⟩
    case round =>
      obtain ⟨k, hk, rfl, z', rfl, HZ'⟩ := hrel
      rcases k with _ | k
      · have hS : Hid (z' = z) := by show _ = _; rw [HZ'.out, HZ.out]; rfl
        clear HZ'
        go_wp2
        go_ret2
        exact ⟨by rw [hS.out]; rfl, rfl⟩
      · have gc := HC.out k (by omega)
        obtain ⟨y, hy⟩ : ∃ y, y = ys.getD k 0 := ⟨_, rfl⟩
        have hyr := hyb.getD k
        rw [← hy] at gc hyr
        obtain ⟨hy0, hy1⟩ := hyr
        have hz1 : 0 ≤ z' ∧ z' ≤ 72057594037927935 := by
          have h1 := num_bounds (ys.drop (k + 1)) (hyb.drop _)
          rw [← HZ'.out] at h1
          have h2 : (256 : Int) ^ (ys.drop (k + 1)).length ≤ 256 ^ 7 := by
            have h3 : (256 : Nat) ^ (ys.drop (k + 1)).length ≤ 256 ^ 7 := Nat.pow_le_pow_right (by omega) (by have := HL.out; simp; omega)
            have h4 : (((256 : Nat) ^ (ys.drop (k + 1)).length : Nat) : Int) ≤ ((256 ^ 7 : Nat) : Int) := Int.ofNat_le.2 h3
            simpa [Int.natCast_pow] using h4
          have h5 : (256 : Int) ^ 7 = 72057594037927936 := by decide
          omega
        obtain ⟨hz1, hz2⟩ := hz1
        have hS : Hid (256 * z' + y = num (ys.drop k)) := by
          show _ = _
          rw [num_drop (by have := HL.out; omega), ← HZ'.out, ← hy]; omega
        have ek : (((k + 1 : Nat) : Int) - 1) = (k : Int) := by omega
        rw [ek]
        clear HZ' hy ek
        go_wp2
        go_round
        case rel => exact ⟨k, by omega, by go_num, _, rfl, hS⟩
        case measure => simp [intOf]
  · have hz' : sizeOk s = false := by simpa using hz
    have e1 : getErr n a s = 2 := by unfold getErr; rw [if_neg hz]
    rw [hz'] at c1
    have C1 := Lib.hid c1
    rw [hzero (by omega), e1]
    clear c1 hz hz' e1 hzero
    go_enter Tryd.func76, Tryd.ntmps76
    go_wp2_with fail
    refine C1.out.mono ?_
    rintro e w' ⟨rfl, rfl⟩
    go_wp2
    go_ret2
    exact ⟨rfl, rfl⟩
end Go.Proofs.YtdlcjobahdmapaaDoor

namespace Go.Proofs.YtdlcjobahdmapaaDoor
set_option linter.all false
open Go.RowKit
set_option linter.unusedVariables false
/-- what GetRow answers -/
def GRowPost (w : World) (xs : List Int) (a most : Int) (e : Ending) (w' : World) : Prop :=
  ∃ v, e = .returned (.tuple #[v, .int .i64 (growNext xs a most), .int .i64 (growErr xs a most)]) ∧ Own w' w.heap.size v (growOf xs a most) ∧ Below w.heap.size w w'
set_option maxRecDepth 100000 in
set_option maxHeartbeats 1000000 in
theorem RGetRow_any (w : World) (A : Option Addr) (n c : Nat) (xs : List Int) (a most : Int) (h : Holds w w.heap.size A n c xs) (ha : -9223372036854775808 ≤ a ∧ a ≤ 9223372036854775807) (hm : -9223372036854775808 ≤ most ∧ most ≤ 9223372036854775807) :
    Calls Tryd.prog 96 #[.slice A n c, .int .i64 a, .int .i64 most] w (GRowPost w xs a most) := by
  have hl := h.len
  have hr := h.room
  have hf := h.fit
  obtain ⟨ha0, ha1⟩ := ha
  obtain ⟨hm0, hm1⟩ := hm
  have HE : Hid (∀ er, growErr xs a most = er → er ≠ 0 → ∀ e w', (∃ v, e = .returned (.tuple #[v, .int .i64 0, .int .i64 er]) ∧ Own w' w.heap.size v [] ∧ Below w.heap.size w w') → GRowPost w xs a most e w') := by
    intro er h1 h2 e w' hh
    unfold GRowPost growNext growOf
    rw [h1, if_neg h2, if_neg h2]
    exact hh
  by_cases h1 : a < 0
  · have HQ := Lib.hid (HE.out 2 (by unfold growErr; rw [if_pos (.inl h1)]) (by decide))
    clear HE h hl
    go_enter Tryd.func96, Tryd.ntmps96
    go_wp2
    go_ret3
    exact HQ.out _ _ ⟨_, rfl, Own.nil _ _, Below.refl _ _⟩
  by_cases h2 : (n : Int) < a
  · have HQ := Lib.hid (HE.out 2 (by unfold growErr; rw [hl, if_pos (.inr h2)]) (by decide))
    clear HE h hl
    go_enter Tryd.func96, Tryd.ntmps96
    go_wp2
    go_ret3
    exact HQ.out _ _ ⟨_, rfl, Own.nil _ _, Below.refl _ _⟩
  by_cases h3 : (n : Int) - a < 2
  · have HQ := Lib.hid (HE.out 4 (by unfold growErr; rw [hl, if_neg (by omega), if_pos h3]) (by decide))
    clear HE h hl
    go_enter Tryd.func96, Tryd.ntmps96
    go_wp2
    go_ret3
    exact HQ.out _ _ ⟨_, rfl, Own.nil _ _, Below.refl _ _⟩
  obtain ⟨p, rfl⟩ := Int.eq_ofNat_of_zero_le (show 0 ≤ a by omega)
  obtain ⟨b, off, rfl, hb, hc⟩ := h.cells (by omega)
  have gc0 := hc p (by omega)
  have gc1 := hc (p + 1) (by omega)
  have y0b := h.byte.getD p
  have y1b := h.byte.getD (p + 1)
  have hN : rowN xs (p : Int) = xs.getD p 0 + 256 * xs.getD (p + 1) 0 := by
    unfold rowN
    rw [Int.toNat_natCast]
    exact numAt2 xs p (by omega)
  have hNb := rowN_bounds xs h.byte (p : Int)
  obtain ⟨y0, hy0⟩ : ∃ y, y = xs.getD p 0 := ⟨_, rfl⟩
  obtain ⟨y1, hy1⟩ : ∃ y, y = xs.getD (p + 1) 0 := ⟨_, rfl⟩
  rw [← hy0] at gc0 y0b hN
  rw [← hy1] at gc1 y1b hN
  obtain ⟨y00, y01⟩ := y0b
  obtain ⟨y10, y11⟩ := y1b
  obtain ⟨m, hm'⟩ : ∃ m : Nat, y0 + 256 * y1 = (m : Int) := ⟨(y0 + 256 * y1).toNat, by omega⟩
  have hm65 : m ≤ 65535 := by omega
  rw [hm'] at hN
  have HX := Lib.hid h
  have HM := Lib.hid hm'
  have HN := Lib.hid hN
  have HL := Lib.hid hl
  have hap : ¬ ((p : Int) < 0 ∨ (n : Int) < (p : Int)) := by omega
  by_cases h4 : most < (m : Int)
  · have HQ := Lib.hid (HE.out 3 (by unfold growErr; rw [hl, if_neg hap, if_neg h3, hN, if_pos h4]) (by decide))
    clear HE hc hy0 hy1 hm' hN hNb h hl hap
    go_enter Tryd.func96, Tryd.ntmps96
    go_wp2
    go_quiet (fail)
    rw [HM.out]
    go_wp2
    go_ret3
    exact HQ.out _ _ ⟨_, rfl, Own.nil _ _, drewed _ _⟩
  by_cases h5 : (n : Int) - p - 2 < (m : Int)
  · have HQ := Lib.hid (HE.out 4 (by unfold growErr; rw [hl, if_neg hap, if_neg h3, hN, if_neg h4, if_pos h5]) (by decide))
    clear HE hc hy0 hy1 hm' hN hNb h hl hap
    go_enter Tryd.func96, Tryd.ntmps96
    go_wp2
    go_quiet (fail)
    rw [HM.out]
    go_wp2
    go_ret3
    exact HQ.out _ _ ⟨_, rfl, Own.nil _ _, drewed _ _⟩
  · have e0 : growErr xs (p : Int) most = 0 := by unfold growErr; rw [hl, if_neg hap, if_neg h3, hN, if_neg h4, if_neg h5]
    have HQ : Hid (∀ e w', (∃ v, e = .returned (.tuple #[v, .int .i64 ((p : Int) + 2 + m), .int .i64 0]) ∧ Own w' w.heap.size v ((xs.drop (p + 2)).take m) ∧ Below w.heap.size w w') → GRowPost w xs (p : Int) most e w') := by
      intro e w' hh
      unfold GRowPost growNext growOf
      rw [e0, if_pos rfl, if_pos rfl, HN.out, Int.toNat_natCast, Int.toNat_natCast]
      exact hh
    have hpart : ∀ w' : World, Below w.heap.size w w' → ∀ c', m ≤ c' → Holds w' w'.heap.size (some ⟨b, off + (p + 2), none⟩) m c' ((xs.drop (p + 2)).take m) := fun w' hb c' hc' => by
      rcases Nat.eq_zero_or_pos m with hm0 | hm0
      · rw [hm0, List.take_zero]
        exact Holds.empty _ _ _ _ (fun h0 => by cases h0)
      · have := ((HX.out.over hb).part (k := p + 2) (m := m) (c' := c') (by omega) hm0 hc')
        simpa [Addr.add] using this
    have HP := Lib.hid hpart
    have hmz : c = p + 2 → m = 0 := fun e => by omega
    clear HE hc hy0 hy1 hm' hN hNb h hl hap e0 hpart
    by_cases hcq : c = p + 2
    · have HM0 := Lib.hid (hmz hcq)
      clear hmz
      go_enter Tryd.func96, Tryd.ntmps96
      go_wp2
      go_quiet (fail)
      rw [HM.out]
      go_wp2_with fail
      have hz : Holds (w.drewN nq) (w.drewN nq).heap.size (some ⟨b, off, none⟩) m 0 ((xs.drop (p + 2)).take m) := by
        rw [HM0.out, List.take_zero]
        exact Holds.empty _ _ _ _ (fun h0 => by cases h0)
      refine (Copy_any _ _ _ _ _ hz (by omega)).mono ?_
      rintro e w1 ⟨v, rfl, ho, L1⟩
      have HO := Lib.hid ho
      have L1' := Lib.hid L1
      clear ho L1 hz
      go_wp2
      go_ret3
      exact HQ.out _ _ ⟨_, rfl, HO.out, step (drewed _ _) L1'.out⟩
    · clear hmz
      go_enter Tryd.func96, Tryd.ntmps96
      go_wp2
      go_quiet (fail)
      rw [HM.out]
      go_wp2_with fail
      refine (Copy_any _ _ _ _ _ (HP.out _ (drewed w _) _ (by omega)) (by omega)).mono ?_
      rintro e w1 ⟨v, rfl, ho, L1⟩
      have HO := Lib.hid ho
      have L1' := Lib.hid L1
      clear ho L1
      go_wp2
      go_ret3
      exact HQ.out _ _ ⟨_, rfl, HO.out, step (drewed _ _) L1'.out⟩
/-- what GetText answers -/
def GTextPost (w : World) (xs : List Int) (a : Int) (e : Ending) (w' : World) : Prop :=
  e = .returned (.tuple #[.string ⟨(gtextOf xs a).toArray⟩, .int .i64 (gtextNext xs a), .int .i64 (gtextErr xs a)]) ∧ Below w.heap.size w w'
set_option maxHeartbeats 400000 in
theorem RGetText_any (w : World) (A : Option Addr) (n c : Nat) (xs : List Int) (a : Int) (h : Holds w w.heap.size A n c xs) (ha : -9223372036854775808 ≤ a ∧ a ≤ 9223372036854775807) :
    Calls Tryd.prog 77 #[.slice A n c, .int .i64 a] w (GTextPost w xs a) := by
  have C1 := RGetRow_any w A n c xs a 512 h ha (by omega)
  unfold GRowPost at C1
  have hb := h.byte
  have hrb := growOf_bytes hb a 512
  have hrl := growOf_le hb a 512
  by_cases h0 : growErr xs a 512 = 0
  · have CG : Hid (∀ (w : World) (A : Option Addr) (n c : Nat), Holds w w.heap.size A n c (growOf xs a 512) → Calls Tryd.prog 97 #[.slice A n c] w (GetPost w (growOf xs a 512))) := fun w A n c hh => TRGet_any w A n c _ hh (by have := hh.len; omega)
    unfold GetPost at CG
    have e0 : gtextErr xs a = getTErr (growOf xs a 512) := by unfold gtextErr; rw [if_pos h0]
    have HQ0 : Hid (getTErr (growOf xs a 512) = 0 → ∀ e w', (e = .returned (.tuple #[.string ⟨(getText (growOf xs a 512)).toArray⟩, .int .i64 (growNext xs a 512), .int .i64 0]) ∧ Below w.heap.size w w') → GTextPost w xs a e w') := by
      intro h1 e w' hh
      unfold GTextPost gtextOf gtextNext
      rw [e0, h1, if_pos rfl, if_pos rfl]
      exact hh
    have HQ5 : Hid (getTErr (growOf xs a 512) ≠ 0 → ∀ e w', (e = .returned (.tuple #[.string .empty, .int .i64 0, .int .i64 (getTErr (growOf xs a 512))]) ∧ Below w.heap.size w w') → GTextPost w xs a e w') := by
      intro h1 e w' hh
      unfold GTextPost gtextOf gtextNext
      rw [e0, if_neg h1, if_neg h1]
      exact hh
    rw [h0] at C1
    obtain ⟨nx, hnx⟩ : ∃ nx, nx = growNext xs a 512 := ⟨_, rfl⟩
    obtain ⟨rs, hrs⟩ : ∃ rs, rs = growOf xs a 512 := ⟨_, rfl⟩
    rw [← hnx] at C1 HQ0
    rw [← hrs] at C1 CG HQ0 HQ5 hrb hrl
    obtain ⟨er, her⟩ : ∃ er, er = getTErr rs := ⟨_, rfl⟩
    obtain ⟨tx, htx⟩ : ∃ tx : ByteArray, tx = ⟨(getText rs).toArray⟩ := ⟨_, rfl⟩
    rw [← her, ← htx] at CG
    rw [← her] at HQ5
    rw [← her, ← htx] at HQ0
    have HRB := Lib.hid hrb
    have HRL := Lib.hid hrl
    have C1' := Lib.hid C1
    clear C1 hnx hrs her htx e0 h0 hb hrb hrl
    by_cases h1 : er = 0
    · have HQ := Lib.hid (HQ0.out h1)
      rw [h1] at CG
      clear HQ0 HQ5 h1
      go_enter Tryd.func77, Tryd.ntmps77
      go_wp2_with fail
      refine C1'.out.mono ?_
      rintro e w1 ⟨v, rfl, ho, L1⟩
      obtain ⟨A1, c1, rfl, hh⟩ := ho.holds HRB.out (by have := HRL.out; omega)
      have HH := Lib.hid hh
      have L1' := Lib.hid L1
      clear ho hh L1
      go_wp2_with fail
      refine (CG.out _ _ _ _ HH.out).mono ?_
      rintro e w2 ⟨rfl, L2⟩
      go_wp2
      go_ret3
      exact HQ.out _ _ ⟨rfl, step L1'.out L2⟩
    · have HQ := Lib.hid (HQ5.out h1)
      have hne : (er != 0) = true := by simpa using h1
      clear HQ0 HQ5 h1
      go_enter Tryd.func77, Tryd.ntmps77
      go_wp2_with fail
      refine C1'.out.mono ?_
      rintro e w1 ⟨v, rfl, ho, L1⟩
      obtain ⟨A1, c1, rfl, hh⟩ := ho.holds HRB.out (by have := HRL.out; omega)
      have HH := Lib.hid hh
      have L1' := Lib.hid L1
      clear ho hh L1
      go_wp2_with fail
      refine (CG.out _ _ _ _ HH.out).mono ?_
      rintro e w2 ⟨rfl, L2⟩
      go_wp2
      go_ret3
      exact HQ.out _ _ ⟨rfl, step L1'.out L2⟩
  · have HQ : Hid (∀ e w', (e = .returned (.tuple #[.string .empty, .int .i64 0, .int .i64 (growErr xs a 512)]) ∧ Below w.heap.size w w') → GTextPost w xs a e w') := by
      intro e w' hh
      have e0 : gtextErr xs a = growErr xs a 512 := by unfold gtextErr; rw [if_neg h0]
      unfold GTextPost gtextOf gtextNext
      rw [e0, if_neg h0, if_neg h0]
      exact hh
    obtain ⟨er, her⟩ : ∃ er, er = growErr xs a 512 := ⟨_, rfl⟩
    obtain ⟨nx, hnx⟩ : ∃ nx, nx = growNext xs a 512 := ⟨_, rfl⟩
    rw [← her, ← hnx] at C1
    rw [← her] at HQ h0
    have C1' := Lib.hid C1
    have hne : (er != 0) = true := by simpa using h0
    clear C1 her hnx h0 hb hrb hrl
    go_enter Tryd.func77, Tryd.ntmps77
    go_wp2_with fail
    refine C1'.out.mono ?_
    rintro e w1 ⟨v, rfl, ho, L1⟩
    go_wp2
    go_ret3
    exact HQ.out _ _ ⟨rfl, L1⟩
end Go.Proofs.YtdlcjobahdmapaaDoor

namespace Go.Proofs.YtdlcjobahdmapaaDoor
set_option linter.all false
open Go.RowKit
set_option linter.unusedVariables false
theorem rq_same {P : Program} {f : FuncId} {args : Array Value} {w : World} {n : Nat} {v : Value}
    (h : Calls P f args (w.drewN n) fun e w' => e = .returned v ∧ w.drewN n = w') : Calls P f args (w.drewN n) fun e w'' => e = .returned v ∧ ∃ m, w'' = w.drewN m :=
  h.mono fun _ _ ⟨he, hm⟩ => ⟨he, n, hm.symm⟩
/-- the reader in block g, over the bytes xs -/
def RdIs (w : World) (g : Nat) (A : Option Addr) (n c : Nat) (r : Rd) : Prop := Blk w g 86 [.slice A n c, .int .i64 r.p, .int .i64 r.e]
/-- what a number's reading answers -/
def RdNPost (w : World) (g : Nat) (A : Option Addr) (n c : Nat) (q : Int × Rd) (e : Ending) (w' : World) : Prop := e = .returned (.int .u64 q.1) ∧ RdIs w' g A n c q.2 ∧ Save g w w'
set_option maxRecDepth 100000 in
set_option maxHeartbeats 1000000 in
theorem rdN_any (w : World) (g B : Nat) (A : Option Addr) (n c : Nat) (xs : List Int) (r : Rd) (s : Nat) (hB : RdIs w g A n c r) (hx : Holds w B A n c xs) (hg : B ≤ g) (hp : r.p ≤ n) (hs : sizeOk (s : Int) = true) :
    Calls Tryd.prog 53 #[.pointer (some ⟨g, 0, none⟩), .int .i64 (s : Int)] w (RdNPost w g A n c (rdN xs s r)) := by
  obtain ⟨p, er⟩ := r
  have hl := hx.len
  have hrm := hx.room
  have hs8 : 1 ≤ s ∧ s ≤ 8 := by rcases sizeOk_cases hs with h | h | h | h <;> omega
  obtain ⟨hs1, hs8⟩ := hs8
  change p ≤ n at hp
  have hlt := hB.lt
  have c0 := Blk.cell hB 0
  have c1 := Blk.cell hB 1
  have c2 := Blk.cell hB 2
  change w.cell? ⟨g, 0, none⟩ = some (.slice A n c) at c0
  change w.cell? ⟨g, 1, none⟩ = some (.int .i64 (p : Int)) at c1
  change w.cell? ⟨g, 2, none⟩ = some (.int .i64 er) at c2
  have f1 := Blk.frozen hB 1
  have f2 := Blk.frozen hB 2
  by_cases he : er = 0
  · subst he
    by_cases hr : n < p + s
    · have HQ : Hid (∀ e w', (e = .returned (.int .u64 0) ∧ Blk w' g 86 [.slice A n c, .int .i64 (p : Int), .int .i64 4] ∧ Save g w w') → RdNPost w g A n c (rdN xs s ⟨p, 0⟩) e w') := by
        intro e w' hh
        unfold rdN
        rw [if_pos rfl, if_pos (by rw [hl]; exact hr)]
        exact hh
      have HR0 := Lib.hid hB
      have hd : ((n : Int) - (p : Int) < (s : Int)) := by omega
      clear hB hx hl
      go_enter Tryd.func53, Tryd.ntmps53
      go_wp2
      go_quiet (fail)
      go_wp2
      go_ret
      refine HQ.out _ _ ⟨rfl, ?_, (save_drewN g w _).setCell 2 _⟩
      exact Blk.set (Blk.drewN HR0.out _) 2 _
    · have CG : Hid (∀ w : World, Holds w B A n c xs → Calls Tryd.prog 76 #[.slice A n c, .int .i64 (p : Int), .int .i64 (s : Int)] w fun e w' => e = .returned (.tuple #[.int .u64 (numAt xs p s), .int .i64 0]) ∧ w = w') := fun w hh => by
        have h1 := RGet_any w B A n c xs p s hh (by omega) (by omega)
        have e1 : getErr n (p : Int) (s : Int) = 0 := by
          unfold getErr partErr
          rw [if_pos hs, if_neg (by omega), if_neg (by omega)]
        have e2 : getOf xs (p : Int) (s : Int) = numAt xs p s := by
          unfold getOf numAt
          rw [hl, e1, if_pos rfl, Int.toNat_natCast, Int.toNat_natCast]
        rwa [e1, e2] at h1
      have HQ : Hid (∀ e w', (e = .returned (.int .u64 (numAt xs p s)) ∧ Blk w' g 86 [.slice A n c, .int .i64 ((p : Int) + s), .int .i64 0] ∧ Save g w w') → RdNPost w g A n c (rdN xs s ⟨p, 0⟩) e w') := by
        intro e w' hh
        unfold rdN
        rw [if_pos rfl, if_neg (by rw [hl]; exact hr)]
        unfold RdNPost RdIs
        rw [show ((p + s : Nat) : Int) = (p : Int) + s from by omega]
        exact hh
      have HR0 := Lib.hid hB
      have HX := Lib.hid hx
      obtain ⟨z, hz⟩ : ∃ z, z = numAt xs p s := ⟨_, rfl⟩
      rw [← hz] at CG HQ
      have hd : ¬ ((n : Int) - (p : Int) < (s : Int)) := by omega
      clear hB hx hl hz
      go_enter Tryd.func53, Tryd.ntmps53
      go_wp2
      go_quiet (fail)
      go_wp2
      obtain ⟨wq, hwq⟩ : ∃ wq, wq = w.drewN nq := ⟨_, rfl⟩
      have d0 : wq.cell? ⟨g, 0, none⟩ = some (.slice A n c) := by rw [hwq]; exact c0
      have d1 : wq.cell? ⟨g, 1, none⟩ = some (.int .i64 (p : Int)) := by rw [hwq]; exact c1
      have d2 : wq.cell? ⟨g, 2, none⟩ = some (.int .i64 0) := by rw [hwq]; exact c2
      have e1 : wq.frozen? ⟨g, 1, none⟩ = false := by rw [hwq]; exact f1
      have HRq : Hid (Blk wq g 86 [.slice A n c, .int .i64 (p : Int), .int .i64 0]) := by rw [hwq]; exact Blk.drewN HR0.out _
      have HXq : Hid (Holds wq B A n c xs) := by rw [hwq]; exact HX.out.drewN _
      have HSq : Hid (Save g w wq) := by rw [hwq]; exact save_drewN g w _
      rw [← hwq]
      have CGq : Hid (∀ k : Nat, Calls Tryd.prog 76 #[.slice A n c, .int .i64 (p : Int), .int .i64 (s : Int)] (wq.drewN k) fun e w' => e = .returned (.tuple #[.int .u64 z, .int .i64 0]) ∧ wq.drewN k = w') := fun k => CG.out _ (HXq.out.drewN k)
      clear hwq c0 c1 c2 f1 f2 HR0 HX CG
      go_quiet ((go_at_call 76; ((with_reducible exact rq_same (CGq.out _)))))
      go_wp2
      go_ret
      exact HQ.out _ _ ⟨rfl, Blk.set (Blk.drewN HRq.out _) 1 _, (HSq.out.drewN _).setCell 1 _⟩
  · have HQ : Hid (∀ e w', (e = .returned (.int .u64 0) ∧ Blk w' g 86 [.slice A n c, .int .i64 (p : Int), .int .i64 er] ∧ Save g w w') → RdNPost w g A n c (rdN xs s ⟨p, er⟩) e w') := by
      intro e w' hh
      unfold rdN
      rw [if_neg he]
      exact hh
    have HR0 := Lib.hid hB
    have hne : (er != 0) = true := by simpa using he
    clear hB hx hl he
    go_enter Tryd.func53, Tryd.ntmps53
    go_wp2
    go_ret
    exact HQ.out _ _ ⟨rfl, HR0.out, Save.refl g w⟩
end Go.Proofs.YtdlcjobahdmapaaDoor

namespace Go.Proofs.YtdlcjobahdmapaaDoor
set_option linter.all false
open Go.RowKit
set_option linter.unusedVariables false
theorem fld_rd0 (g : Nat) (w : World) : (Instr.fieldAt 86 (.pointer (some ⟨g, 0, none⟩)) 0).run Tryd.prog w = .ok (.pointer (some ⟨g, 0, none⟩)) w := by go_simp
theorem fld_rd1 (g : Nat) (w : World) : (Instr.fieldAt 86 (.pointer (some ⟨g, 0, none⟩)) 1).run Tryd.prog w = .ok (.pointer (some ⟨g, 1, none⟩)) w := by go_simp
set_option maxRecDepth 100000 in
set_option maxHeartbeats 1000000 in
theorem rdMost_any (w : World) (g B : Nat) (A : Option Addr) (n c : Nat) (xs : List Int) (r : Rd) (s : Nat) (most er : Int) (hB : RdIs w g A n c r) (hx : Holds w B A n c xs) (hg : B ≤ g) (hp : r.p ≤ n) (hs : sizeOk (s : Int) = true) :
    Calls Tryd.prog 54 #[.pointer (some ⟨g, 0, none⟩), .int .i64 (s : Int), .int .u64 most, .int .i64 er] w (RdNPost w g A n c (rdMost xs s most er r)) := by
  have C1 := rdN_any w g B A n c xs r s hB hx hg hp hs
  have hQ : ∀ e w', RdNPost w g A n c (if (rdN xs s r).2.e = 0 ∧ most < (rdN xs s r).1 then (0, ⟨(rdN xs s r).2.p, er⟩) else rdN xs s r) e w' → RdNPost w g A n c (rdMost xs s most er r) e w' := fun _ _ h => h
  obtain ⟨q, hq⟩ : ∃ q, q = rdN xs s r := ⟨_, rfl⟩
  rw [← hq] at C1 hQ
  obtain ⟨x, p, e0⟩ := q
  unfold RdNPost RdIs at C1
  have C1' := Lib.hid C1
  clear C1 hq hB hx
  by_cases he : e0 = 0
  · subst he
    by_cases hm : most < x
    · have HQ : Hid (∀ e w', (e = .returned (.int .u64 0) ∧ Blk w' g 86 [.slice A n c, .int .i64 (p : Int), .int .i64 er] ∧ Save g w w') → RdNPost w g A n c (rdMost xs s most er r) e w') := by
        intro e w' hh
        refine hQ e w' ?_
        rw [if_pos ⟨rfl, hm⟩]
        exact hh
      clear hQ
      go_enter Tryd.func54, Tryd.ntmps54
      go_wp2_with fail
      refine C1'.out.mono ?_
      rintro e w1 ⟨rfl, R1, S1⟩
      have c2 : w1.cell? ⟨g, 2, none⟩ = some (.int .i64 0) := R1.at rfl
      have f2 := Blk.frozen R1 2
      have HR1 := Lib.hid R1
      have HS1 := Lib.hid S1
      clear R1 S1 C1'
      go_wp2
      go_ret
      exact HQ.out _ _ ⟨rfl, Blk.set HR1.out 2 _, HS1.out.setCell 2 _⟩
    · have HQ : Hid (∀ e w', (e = .returned (.int .u64 x) ∧ Blk w' g 86 [.slice A n c, .int .i64 (p : Int), .int .i64 0] ∧ Save g w w') → RdNPost w g A n c (rdMost xs s most er r) e w') := by
        intro e w' hh
        refine hQ e w' ?_
        rw [if_neg (fun h => hm h.2)]
        exact hh
      clear hQ
      go_enter Tryd.func54, Tryd.ntmps54
      go_wp2_with fail
      refine C1'.out.mono ?_
      rintro e w1 ⟨rfl, R1, S1⟩
      have c2 : w1.cell? ⟨g, 2, none⟩ = some (.int .i64 0) := R1.at rfl
      have HR1 := Lib.hid R1
      have HS1 := Lib.hid S1
      clear R1 S1 C1'
      go_wp2
      go_ret
      exact HQ.out _ _ ⟨rfl, HR1.out, HS1.out⟩
  · have HQ : Hid (∀ e w', (e = .returned (.int .u64 x) ∧ Blk w' g 86 [.slice A n c, .int .i64 (p : Int), .int .i64 e0] ∧ Save g w w') → RdNPost w g A n c (rdMost xs s most er r) e w') := by
      intro e w' hh
      refine hQ e w' ?_
      rw [if_neg (fun h => he h.1)]
      exact hh
    have hne : (e0 == 0) = false := by simpa using he
    clear hQ he
    go_enter Tryd.func54, Tryd.ntmps54
    go_wp2_with fail
    refine C1'.out.mono ?_
    rintro e w1 ⟨rfl, R1, S1⟩
    have c2 : w1.cell? ⟨g, 2, none⟩ = some (.int .i64 e0) := R1.at rfl
    have HR1 := Lib.hid R1
    have HS1 := Lib.hid S1
    clear R1 S1 C1'
    go_wp2
    go_ret
    exact HQ.out _ _ ⟨rfl, HR1.out, HS1.out⟩
set_option maxRecDepth 100000 in
set_option maxHeartbeats 1000000 in
theorem rdEnd_any (w : World) (g : Nat) (A : Option Addr) (n c : Nat) (xs : List Int) (r : Rd) (hB : RdIs w g A n c r) (hl : xs.length = n) (hn : n ≤ 281474976710656) (hp : r.p ≤ n) :
    Calls Tryd.prog 57 #[.pointer (some ⟨g, 0, none⟩)] w fun e w' => e = .returned (.int .i64 (rdEnd xs r)) ∧ ∃ k, w.drewN k = w' := by
  obtain ⟨p, er⟩ := r
  change p ≤ n at hp
  have c0 : w.cell? ⟨g, 0, none⟩ = some (.slice A n c) := Blk.at hB rfl
  have c1 : w.cell? ⟨g, 1, none⟩ = some (.int .i64 (p : Int)) := Blk.at hB rfl
  have c2 : w.cell? ⟨g, 2, none⟩ = some (.int .i64 er) := Blk.at hB rfl
  have hR : rdEnd xs ⟨p, er⟩ = if er = 0 ∧ p ≠ n then 5 else er := by unfold rdEnd; rw [hl]
  rw [hR]
  clear hB hR
  by_cases he : er = 0
  · subst he
    by_cases hpn : p = n
    · rw [if_neg (fun h => h.2 hpn)]
      have hb : ((p : Int) != (n : Int)) = false := by rw [hpn]; simp
      clear hpn
      go_enter Tryd.func57, Tryd.ntmps57
      go_wp2
      go_quiet (fail)
      go_wp2
      go_ret
      exact ⟨rfl, _, rfl⟩
    · rw [if_pos ⟨rfl, hpn⟩]
      have hb : ((p : Int) != (n : Int)) = true := by simpa using (fun h : (p : Int) = (n : Int) => hpn (by omega))
      clear hpn
      go_enter Tryd.func57, Tryd.ntmps57
      go_wp2
      go_quiet (fail)
      go_wp2
      go_ret
      exact ⟨rfl, _, rfl⟩
  · rw [if_neg (fun h => he h.1)]
    have hb : (er == 0) = false := by simpa using he
    clear he
    go_enter Tryd.func57, Tryd.ntmps57
    go_wp2
    go_quiet (fail)
    go_wp2
    go_ret
    exact ⟨rfl, _, rfl⟩
/-- what a part's reading answers -/
def RdPartPost (w : World) (g : Nat) (A : Option Addr) (n c : Nat) (q : List Int × Rd) (e : Ending) (w' : World) : Prop := ∃ v, e = .returned v ∧ RdIs w' g A n c q.2 ∧ Own w' w.heap.size v q.1 ∧ Save g w w'
set_option maxRecDepth 100000 in
set_option maxHeartbeats 2000000 in
theorem rdPart_any (w : World) (g : Nat) (A : Option Addr) (n c : Nat) (xs : List Int) (r : Rd) (m : Nat) (hB : RdIs w g A n c r) (hx : Holds w w.heap.size A n c xs) (hp : r.p ≤ n) (hm : m ≤ 65536) :
    Calls Tryd.prog 78 #[.pointer (some ⟨g, 0, none⟩), .int .i64 (m : Int)] w (RdPartPost w g A n c (rdPart xs m r)) := by
  obtain ⟨p, er⟩ := r
  change p ≤ n at hp
  have hl := hx.len
  have hrm := hx.room
  have hft := hx.fit
  have hlt := hB.lt
  have c0 : w.cell? ⟨g, 0, none⟩ = some (.slice A n c) := Blk.at hB rfl
  have c1 : w.cell? ⟨g, 1, none⟩ = some (.int .i64 (p : Int)) := Blk.at hB rfl
  have c2 : w.cell? ⟨g, 2, none⟩ = some (.int .i64 er) := Blk.at hB rfl
  have f2 := Blk.frozen hB 2
  have HR0 : Hid (Blk w g 86 [.slice A n c, .int .i64 (p : Int), .int .i64 er]) := hB
  by_cases he : er = 0
  rotate_left
  · have HQ : Hid (∀ e w', (∃ v, e = .returned v ∧ Blk w' g 86 [.slice A n c, .int .i64 (p : Int), .int .i64 er] ∧ Own w' w.heap.size v [] ∧ Save g w w') → RdPartPost w g A n c (rdPart xs m ⟨p, er⟩) e w') := by
      intro e w' hh
      unfold rdPart
      rw [if_neg he]
      exact hh
    have hne : (er != 0) = true := by simpa using he
    clear hB hx hl he
    go_enter Tryd.func78, Tryd.ntmps78
    go_wp2
    go_ret
    exact HQ.out _ _ ⟨_, rfl, HR0.out, Own.nil _ _, Save.refl g w⟩
  subst he
  by_cases hr : n < p + m
  · have HQ : Hid (∀ e w', (∃ v, e = .returned v ∧ Blk w' g 86 [.slice A n c, .int .i64 (p : Int), .int .i64 4] ∧ Own w' w.heap.size v [] ∧ Save g w w') → RdPartPost w g A n c (rdPart xs m ⟨p, 0⟩) e w') := by
      intro e w' hh
      unfold rdPart
      rw [if_pos rfl, if_pos (by rw [hl]; exact hr)]
      exact hh
    have hd : ((n : Int) - (p : Int) < (m : Int)) := by omega
    clear hB hx hl
    go_enter Tryd.func78, Tryd.ntmps78
    go_wp2
    go_quiet (fail)
    go_wp2
    go_ret
    exact HQ.out _ _ ⟨_, rfl, Blk.set (Blk.drewN HR0.out _) 2 _, Own.nil _ _, (save_drewN g w _).setCell 2 _⟩
  have hd : ¬ ((n : Int) - (p : Int) < (m : Int)) := by omega
  have hm48 : m ≤ 140737488355328 := by omega
  have HQ : Hid (∀ e w', (∃ v, e = .returned v ∧ Blk w' g 86 [.slice A n c, .int .i64 ((p : Int) + m), .int .i64 0] ∧ Own w' w.heap.size v ((xs.drop p).take m) ∧ Save g w w') → RdPartPost w g A n c (rdPart xs m ⟨p, 0⟩) e w') := by
    intro e w' hh
    unfold rdPart
    rw [if_pos rfl, if_neg (by rw [hl]; exact hr)]
    unfold RdPartPost RdIs
    rw [show ((p + m : Nat) : Int) = (p : Int) + m from by omega]
    exact hh
  have HX := Lib.hid hx
  clear f2 hB
  rcases A with _ | ad
  · have HP : Hid (∀ w' : World, Below w.heap.size w w' → Holds w' w'.heap.size none m (c - p) ((xs.drop p).take m)) := fun w' hb => by
      have hc0 : c = 0 := hx.bare rfl
      rw [show m = 0 from by omega, show c - p = 0 from by omega, List.take_zero]
      exact Holds.nil _ _
    have hwr : IntKind.i64.wrap ((p : Int) + m) = (p : Int) + m := by rw [IntKind.wrap_i64]; omega
    have hbd0 : 0 ≤ (p : Int) + m := by omega
    have hbd1 : (p : Int) + m ≤ (c : Int) := by omega
    have htn : ((p : Int) + m).toNat = p + m := by omega
    have hle : p ≤ p + m := by omega
    have hsb : p + m - p = m := by omega
    clear hx hl
    go_enter Tryd.func78, Tryd.ntmps78
    go_wp2
    go_quiet (fail)
    go_upto_region 6 with fail
    obtain ⟨wq, hwq⟩ : ∃ wq, wq = w.drewN nq := ⟨_, rfl⟩
    have HRq : Hid (Blk wq g 86 [.slice none n c, .int .i64 (p : Int), .int .i64 0]) := by rw [hwq]; exact Blk.drewN HR0.out _
    have HLq : Hid (Below w.heap.size w wq) := by rw [hwq]; exact drewed w _
    rw [← hwq]
    clear hwq c0 c1 c2 HR0
    refine wp_region_held (S := fun w' => Blk w' g 86 [.slice none n c, .int .i64 (p : Int), .int .i64 0]) (by kernel_rfl) ?_
    change wpAnyH _ _ _ _ _ _ _ _ wq.drew
    have S0 : Hid (Blk wq.drew g 86 [.slice none n c, .int .i64 (p : Int), .int .i64 0]) := HRq.out.drew
    have b0 : Hid (Below w.heap.size w wq.drew) := HLq.out.drew
    refine wpAnyH_take (i := 0) (v := _) rfl (by kernel_rfl) (by kernel_rfl) (by kernel_rfl) (fun _ _ _ h => h) (yieldsIf_move (by kernel_rfl) (.tmp 0) rfl (.pointer (some ⟨g, 0, none⟩)) (by kernel_rfl)) S0.out ?_
    refine wpAnyH_take (i := 1) (v := _) rfl (by kernel_rfl) (by kernel_rfl) (by kernel_rfl) (fun _ _ _ h => h) (yieldsIf_nil (by kernel_rfl) (.tmp 26) rfl ⟨g, 0, none⟩ (by kernel_rfl)) S0.out ?_
    refine wpAnyH_take (i := 2) (v := _) rfl (by kernel_rfl) (by kernel_rfl) (by kernel_rfl) (fun _ _ _ h => h) (yieldsIf_fld (by kernel_rfl) _ (.tmp 27) 0 rfl (.pointer (some ⟨g, 0, none⟩)) (.pointer (some ⟨g, 0, none⟩)) (by kernel_rfl) (fld_rd0 g)) S0.out ?_
    refine wpAnyH_take (i := 3) (v := _) rfl (by kernel_rfl) (by kernel_rfl) (by kernel_rfl) (fun _ _ _ h => h) (yieldsIf_load_one (by kernel_rfl) _ (.tmp 28) rfl g 0 (by kernel_rfl) (.slice none n c) (fun w h => h.at rfl) _ Tryd.underlying29 rfl) S0.out ?_
    refine wpAnyH_take (i := 4) (v := _) rfl (by kernel_rfl) (by kernel_rfl) (by kernel_rfl) (fun _ _ _ h => h) (yieldsIf_move (by kernel_rfl) (.tmp 0) rfl (.pointer (some ⟨g, 0, none⟩)) (by kernel_rfl)) S0.out ?_
    refine wpAnyH_take (i := 5) (v := _) rfl (by kernel_rfl) (by kernel_rfl) (by kernel_rfl) (fun _ _ _ h => h) (yieldsIf_nil (by kernel_rfl) (.tmp 30) rfl ⟨g, 0, none⟩ (by kernel_rfl)) S0.out ?_
    refine wpAnyH_take (i := 6) (v := _) rfl (by kernel_rfl) (by kernel_rfl) (by kernel_rfl) (fun _ _ _ h => h) (yieldsIf_fld (by kernel_rfl) _ (.tmp 31) 1 rfl (.pointer (some ⟨g, 0, none⟩)) (.pointer (some ⟨g, 1, none⟩)) (by kernel_rfl) (fld_rd1 g)) S0.out ?_
    refine wpAnyH_take (i := 7) (v := _) rfl (by kernel_rfl) (by kernel_rfl) (by kernel_rfl) (fun _ _ _ h => h) (yieldsIf_load_one (by kernel_rfl) _ (.tmp 32) rfl g 1 (by kernel_rfl) (.int .i64 (p : Int)) (fun w h => h.at rfl) _ Tryd.underlying3 rfl) S0.out ?_
    refine wpAnyH_take (i := 8) (v := _) rfl (by kernel_rfl) (by kernel_rfl) (by kernel_rfl) (fun _ _ _ h => h) (yieldsIf_move (by kernel_rfl) (.tmp 0) rfl (.pointer (some ⟨g, 0, none⟩)) (by kernel_rfl)) S0.out ?_
    refine wpAnyH_take (i := 9) (v := _) rfl (by kernel_rfl) (by kernel_rfl) (by kernel_rfl) (fun _ _ _ h => h) (yieldsIf_nil (by kernel_rfl) (.tmp 34) rfl ⟨g, 0, none⟩ (by kernel_rfl)) S0.out ?_
    refine wpAnyH_take (i := 10) (v := _) rfl (by kernel_rfl) (by kernel_rfl) (by kernel_rfl) (fun _ _ _ h => h) (yieldsIf_fld (by kernel_rfl) _ (.tmp 35) 1 rfl (.pointer (some ⟨g, 0, none⟩)) (.pointer (some ⟨g, 1, none⟩)) (by kernel_rfl) (fld_rd1 g)) S0.out ?_
    refine wpAnyH_take (i := 11) (v := _) rfl (by kernel_rfl) (by kernel_rfl) (by kernel_rfl) (fun _ _ _ h => h) (yieldsIf_load_one (by kernel_rfl) _ (.tmp 36) rfl g 1 (by kernel_rfl) (.int .i64 (p : Int)) (fun w h => h.at rfl) _ Tryd.underlying3 rfl) S0.out ?_
    refine wpAnyH_take (i := 12) (v := _) rfl (by kernel_rfl) (by kernel_rfl) (by kernel_rfl) (fun _ _ _ h => h) (yieldsIf_move (by kernel_rfl) (.tmp 1) rfl (.int .i64 (m : Int)) (by kernel_rfl)) S0.out ?_
    refine wpAnyH_take (i := 13) (v := .int .i64 ((p : Int) + m)) rfl (by kernel_rfl) (by kernel_rfl) (by kernel_rfl) (fun _ _ _ h => h) (.inl ⟨by kernel_rfl, fun w _ => by go_simp⟩) S0.out ?_
    refine wpAnyH_take (i := 14) (v := .slice none m (c - p)) rfl (by kernel_rfl) (by kernel_rfl) (by kernel_rfl) (fun _ _ _ h => h) (.inl ⟨by kernel_rfl, fun w _ => by go_simp⟩) S0.out ?_
    refine wpAnyH_one 15 _ (by kernel_rfl) rfl fun K hK => ?_
    go_simp
    refine ((Copy_any _ _ _ _ _ (HP.out _ b0.out) hm48)).mono ?_
    rintro e v1w ⟨u, rfl, ho, L1⟩
    have S1 : Hid (Blk v1w g 86 [.slice none n c, .int .i64 (p : Int), .int .i64 0]) := S0.out.over L1
    have b1 : Hid (Below w.heap.size w v1w) := step b0.out L1
    have HO := Lib.hid ho
    refine hK _ _ S1.out ?_
    clear hK K ho L1
    refine wpAnyH_one 16 _ (by kernel_rfl) rfl fun K hK => ?_
    go_simp
    refine hK _ _ S1.out ?_
    clear hK K
    refine wpAnyH_done (by kernel_rfl) ?_ _
    have gd : v1w.cell? ⟨g, 1, none⟩ = some (.int .i64 (p : Int)) := S1.out.at rfl
    have gf := Blk.frozen S1.out 1
    go_wp2_with fail
    go_ret
    exact HQ.out _ _ ⟨_, rfl, Blk.set S1.out 1 _, (HO.out.mono b0.out.size).only (only_setCell _ g 1 _) hlt, (Save.of_below b1.out g).setCell 1 _⟩
  rcases Nat.eq_zero_or_pos p with hp0 | hp0
  · subst hp0
    have HP : Hid (∀ w' : World, Below w.heap.size w w' → Holds w' w'.heap.size (some ad) m c ((xs.drop 0).take m)) := fun w' hb => by
      have h1 := (HX.out.over hb)
      refine ⟨by simp; omega, by omega, by omega, (h1.byte.drop 0).take m, h1.bare, fun h0 => ?_⟩
      obtain ⟨b, off, e1, e2, e3⟩ := h1.cells (by omega)
      refine ⟨b, off, e1, e2, fun i hi => ?_⟩
      rw [e3 i (by omega)]
      simp [List.getD_eq_getElem?_getD, hi]
    rw [show ((0 : Nat) : Int) + (m : Int) = (m : Int) from by omega] at HQ
    have hwr : IntKind.i64.wrap (m : Int) = (m : Int) := by rw [IntKind.wrap_i64]; omega
    have hbd0 : 0 ≤ (m : Int) := by omega
    have hbd1 : (m : Int) ≤ (c : Int) := by omega
    clear hx hl
    go_enter Tryd.func78, Tryd.ntmps78
    go_wp2
    go_quiet (fail)
    go_upto_region 6 with fail
    obtain ⟨wq, hwq⟩ : ∃ wq, wq = w.drewN nq := ⟨_, rfl⟩
    have HRq : Hid (Blk wq g 86 [.slice (some ad) n c, .int .i64 ((0 : Nat) : Int), .int .i64 0]) := by rw [hwq]; exact Blk.drewN HR0.out _
    have HLq : Hid (Below w.heap.size w wq) := by rw [hwq]; exact drewed w _
    rw [← hwq]
    clear hwq c0 c1 c2 HR0
    refine wp_region_held (S := fun w' => Blk w' g 86 [.slice (some ad) n c, .int .i64 ((0 : Nat) : Int), .int .i64 0]) (by kernel_rfl) ?_
    change wpAnyH _ _ _ _ _ _ _ _ wq.drew
    have S0 : Hid (Blk wq.drew g 86 [.slice (some ad) n c, .int .i64 ((0 : Nat) : Int), .int .i64 0]) := HRq.out.drew
    have b0 : Hid (Below w.heap.size w wq.drew) := HLq.out.drew
    refine wpAnyH_take (i := 0) (v := _) rfl (by kernel_rfl) (by kernel_rfl) (by kernel_rfl) (fun _ _ _ h => h) (yieldsIf_move (by kernel_rfl) (.tmp 0) rfl (.pointer (some ⟨g, 0, none⟩)) (by kernel_rfl)) S0.out ?_
    refine wpAnyH_take (i := 1) (v := _) rfl (by kernel_rfl) (by kernel_rfl) (by kernel_rfl) (fun _ _ _ h => h) (yieldsIf_nil (by kernel_rfl) (.tmp 26) rfl ⟨g, 0, none⟩ (by kernel_rfl)) S0.out ?_
    refine wpAnyH_take (i := 2) (v := _) rfl (by kernel_rfl) (by kernel_rfl) (by kernel_rfl) (fun _ _ _ h => h) (yieldsIf_fld (by kernel_rfl) _ (.tmp 27) 0 rfl (.pointer (some ⟨g, 0, none⟩)) (.pointer (some ⟨g, 0, none⟩)) (by kernel_rfl) (fld_rd0 g)) S0.out ?_
    refine wpAnyH_take (i := 3) (v := _) rfl (by kernel_rfl) (by kernel_rfl) (by kernel_rfl) (fun _ _ _ h => h) (yieldsIf_load_one (by kernel_rfl) _ (.tmp 28) rfl g 0 (by kernel_rfl) (.slice (some ad) n c) (fun w h => h.at rfl) _ Tryd.underlying29 rfl) S0.out ?_
    refine wpAnyH_take (i := 4) (v := _) rfl (by kernel_rfl) (by kernel_rfl) (by kernel_rfl) (fun _ _ _ h => h) (yieldsIf_move (by kernel_rfl) (.tmp 0) rfl (.pointer (some ⟨g, 0, none⟩)) (by kernel_rfl)) S0.out ?_
    refine wpAnyH_take (i := 5) (v := _) rfl (by kernel_rfl) (by kernel_rfl) (by kernel_rfl) (fun _ _ _ h => h) (yieldsIf_nil (by kernel_rfl) (.tmp 30) rfl ⟨g, 0, none⟩ (by kernel_rfl)) S0.out ?_
    refine wpAnyH_take (i := 6) (v := _) rfl (by kernel_rfl) (by kernel_rfl) (by kernel_rfl) (fun _ _ _ h => h) (yieldsIf_fld (by kernel_rfl) _ (.tmp 31) 1 rfl (.pointer (some ⟨g, 0, none⟩)) (.pointer (some ⟨g, 1, none⟩)) (by kernel_rfl) (fld_rd1 g)) S0.out ?_
    refine wpAnyH_take (i := 7) (v := _) rfl (by kernel_rfl) (by kernel_rfl) (by kernel_rfl) (fun _ _ _ h => h) (yieldsIf_load_one (by kernel_rfl) _ (.tmp 32) rfl g 1 (by kernel_rfl) (.int .i64 ((0 : Nat) : Int)) (fun w h => h.at rfl) _ Tryd.underlying3 rfl) S0.out ?_
    refine wpAnyH_take (i := 8) (v := _) rfl (by kernel_rfl) (by kernel_rfl) (by kernel_rfl) (fun _ _ _ h => h) (yieldsIf_move (by kernel_rfl) (.tmp 0) rfl (.pointer (some ⟨g, 0, none⟩)) (by kernel_rfl)) S0.out ?_
    refine wpAnyH_take (i := 9) (v := _) rfl (by kernel_rfl) (by kernel_rfl) (by kernel_rfl) (fun _ _ _ h => h) (yieldsIf_nil (by kernel_rfl) (.tmp 34) rfl ⟨g, 0, none⟩ (by kernel_rfl)) S0.out ?_
    refine wpAnyH_take (i := 10) (v := _) rfl (by kernel_rfl) (by kernel_rfl) (by kernel_rfl) (fun _ _ _ h => h) (yieldsIf_fld (by kernel_rfl) _ (.tmp 35) 1 rfl (.pointer (some ⟨g, 0, none⟩)) (.pointer (some ⟨g, 1, none⟩)) (by kernel_rfl) (fld_rd1 g)) S0.out ?_
    refine wpAnyH_take (i := 11) (v := _) rfl (by kernel_rfl) (by kernel_rfl) (by kernel_rfl) (fun _ _ _ h => h) (yieldsIf_load_one (by kernel_rfl) _ (.tmp 36) rfl g 1 (by kernel_rfl) (.int .i64 ((0 : Nat) : Int)) (fun w h => h.at rfl) _ Tryd.underlying3 rfl) S0.out ?_
    refine wpAnyH_take (i := 12) (v := _) rfl (by kernel_rfl) (by kernel_rfl) (by kernel_rfl) (fun _ _ _ h => h) (yieldsIf_move (by kernel_rfl) (.tmp 1) rfl (.int .i64 (m : Int)) (by kernel_rfl)) S0.out ?_
    refine wpAnyH_take (i := 13) (v := .int .i64 (((0 : Nat) : Int) + m)) rfl (by kernel_rfl) (by kernel_rfl) (by kernel_rfl) (fun _ _ _ h => h) (.inl ⟨by kernel_rfl, fun w _ => by go_simp⟩) S0.out ?_
    refine wpAnyH_take (i := 14) (v := .slice (some ad) m c) rfl (by kernel_rfl) (by kernel_rfl) (by kernel_rfl) (fun _ _ _ h => h) (.inl ⟨by kernel_rfl, fun w _ => by go_simp⟩) S0.out ?_
    refine wpAnyH_one 15 _ (by kernel_rfl) rfl fun K hK => ?_
    go_simp
    refine ((Copy_any _ _ _ _ _ (HP.out _ b0.out) hm48)).mono ?_
    rintro e v1w ⟨u, rfl, ho, L1⟩
    have S1 : Hid (Blk v1w g 86 [.slice (some ad) n c, .int .i64 ((0 : Nat) : Int), .int .i64 0]) := S0.out.over L1
    have b1 : Hid (Below w.heap.size w v1w) := step b0.out L1
    have HO := Lib.hid ho
    refine hK _ _ S1.out ?_
    clear hK K ho L1
    refine wpAnyH_one 16 _ (by kernel_rfl) rfl fun K hK => ?_
    go_simp
    refine hK _ _ S1.out ?_
    clear hK K
    refine wpAnyH_done (by kernel_rfl) ?_ _
    have gd : v1w.cell? ⟨g, 1, none⟩ = some (.int .i64 ((0 : Nat) : Int)) := S1.out.at rfl
    have gf := Blk.frozen S1.out 1
    go_wp2_with fail
    go_ret
    exact HQ.out _ _ ⟨_, rfl, Blk.set S1.out 1 _, (HO.out.mono b0.out.size).only (only_setCell _ g 1 _) hlt, (Save.of_below b1.out g).setCell 1 _⟩
  · obtain ⟨b, off, had, hb, _⟩ := hx.cells (by omega)
    obtain rfl : ad = ⟨b, off, none⟩ := by injection had
    clear had
    by_cases hcp : c = p
    · have hm0 : m = 0 := by omega
      have HP : Hid (∀ w' : World, Below w.heap.size w w' → Holds w' w'.heap.size (some ⟨b, off, none⟩) m 0 ((xs.drop p).take m)) := fun w' hb => by
        rw [hm0, List.take_zero]
        exact Holds.empty _ _ _ _ (fun h0 => by cases h0)
      have HM0 := Lib.hid hm0
      have hwr : IntKind.i64.wrap ((p : Int) + m) = (p : Int) + m := by rw [IntKind.wrap_i64]; omega
      have hbd0 : 0 ≤ (p : Int) + m := by omega
      have hbd1 : (p : Int) + m ≤ (c : Int) := by omega
      have htn : ((p : Int) + m).toNat = p + m := by omega
      have hle : p ≤ p + m := by omega
      have hsb : p + m - p = m := by omega
      have hnl : ¬ ((p : Int) < (p : Int) + m) := by omega
      clear hx hl hm0
      go_enter Tryd.func78, Tryd.ntmps78
      go_wp2
      go_quiet (fail)
      go_upto_region 6 with fail
      obtain ⟨wq, hwq⟩ : ∃ wq, wq = w.drewN nq := ⟨_, rfl⟩
      have HRq : Hid (Blk wq g 86 [.slice (some ⟨b, off, none⟩) n c, .int .i64 (p : Int), .int .i64 0]) := by rw [hwq]; exact Blk.drewN HR0.out _
      have HLq : Hid (Below w.heap.size w wq) := by rw [hwq]; exact drewed w _
      rw [← hwq]
      clear hwq c0 c1 c2 HR0
      refine wp_region_held (S := fun w' => Blk w' g 86 [.slice (some ⟨b, off, none⟩) n c, .int .i64 (p : Int), .int .i64 0]) (by kernel_rfl) ?_
      change wpAnyH _ _ _ _ _ _ _ _ wq.drew
      have S0 : Hid (Blk wq.drew g 86 [.slice (some ⟨b, off, none⟩) n c, .int .i64 (p : Int), .int .i64 0]) := HRq.out.drew
      have b0 : Hid (Below w.heap.size w wq.drew) := HLq.out.drew
      refine wpAnyH_take (i := 0) (v := _) rfl (by kernel_rfl) (by kernel_rfl) (by kernel_rfl) (fun _ _ _ h => h) (yieldsIf_move (by kernel_rfl) (.tmp 0) rfl (.pointer (some ⟨g, 0, none⟩)) (by kernel_rfl)) S0.out ?_
      refine wpAnyH_take (i := 1) (v := _) rfl (by kernel_rfl) (by kernel_rfl) (by kernel_rfl) (fun _ _ _ h => h) (yieldsIf_nil (by kernel_rfl) (.tmp 26) rfl ⟨g, 0, none⟩ (by kernel_rfl)) S0.out ?_
      refine wpAnyH_take (i := 2) (v := _) rfl (by kernel_rfl) (by kernel_rfl) (by kernel_rfl) (fun _ _ _ h => h) (yieldsIf_fld (by kernel_rfl) _ (.tmp 27) 0 rfl (.pointer (some ⟨g, 0, none⟩)) (.pointer (some ⟨g, 0, none⟩)) (by kernel_rfl) (fld_rd0 g)) S0.out ?_
      refine wpAnyH_take (i := 3) (v := _) rfl (by kernel_rfl) (by kernel_rfl) (by kernel_rfl) (fun _ _ _ h => h) (yieldsIf_load_one (by kernel_rfl) _ (.tmp 28) rfl g 0 (by kernel_rfl) (.slice (some ⟨b, off, none⟩) n c) (fun w h => h.at rfl) _ Tryd.underlying29 rfl) S0.out ?_
      refine wpAnyH_take (i := 4) (v := _) rfl (by kernel_rfl) (by kernel_rfl) (by kernel_rfl) (fun _ _ _ h => h) (yieldsIf_move (by kernel_rfl) (.tmp 0) rfl (.pointer (some ⟨g, 0, none⟩)) (by kernel_rfl)) S0.out ?_
      refine wpAnyH_take (i := 5) (v := _) rfl (by kernel_rfl) (by kernel_rfl) (by kernel_rfl) (fun _ _ _ h => h) (yieldsIf_nil (by kernel_rfl) (.tmp 30) rfl ⟨g, 0, none⟩ (by kernel_rfl)) S0.out ?_
      refine wpAnyH_take (i := 6) (v := _) rfl (by kernel_rfl) (by kernel_rfl) (by kernel_rfl) (fun _ _ _ h => h) (yieldsIf_fld (by kernel_rfl) _ (.tmp 31) 1 rfl (.pointer (some ⟨g, 0, none⟩)) (.pointer (some ⟨g, 1, none⟩)) (by kernel_rfl) (fld_rd1 g)) S0.out ?_
      refine wpAnyH_take (i := 7) (v := _) rfl (by kernel_rfl) (by kernel_rfl) (by kernel_rfl) (fun _ _ _ h => h) (yieldsIf_load_one (by kernel_rfl) _ (.tmp 32) rfl g 1 (by kernel_rfl) (.int .i64 (p : Int)) (fun w h => h.at rfl) _ Tryd.underlying3 rfl) S0.out ?_
      refine wpAnyH_take (i := 8) (v := _) rfl (by kernel_rfl) (by kernel_rfl) (by kernel_rfl) (fun _ _ _ h => h) (yieldsIf_move (by kernel_rfl) (.tmp 0) rfl (.pointer (some ⟨g, 0, none⟩)) (by kernel_rfl)) S0.out ?_
      refine wpAnyH_take (i := 9) (v := _) rfl (by kernel_rfl) (by kernel_rfl) (by kernel_rfl) (fun _ _ _ h => h) (yieldsIf_nil (by kernel_rfl) (.tmp 34) rfl ⟨g, 0, none⟩ (by kernel_rfl)) S0.out ?_
      refine wpAnyH_take (i := 10) (v := _) rfl (by kernel_rfl) (by kernel_rfl) (by kernel_rfl) (fun _ _ _ h => h) (yieldsIf_fld (by kernel_rfl) _ (.tmp 35) 1 rfl (.pointer (some ⟨g, 0, none⟩)) (.pointer (some ⟨g, 1, none⟩)) (by kernel_rfl) (fld_rd1 g)) S0.out ?_
      refine wpAnyH_take (i := 11) (v := _) rfl (by kernel_rfl) (by kernel_rfl) (by kernel_rfl) (fun _ _ _ h => h) (yieldsIf_load_one (by kernel_rfl) _ (.tmp 36) rfl g 1 (by kernel_rfl) (.int .i64 (p : Int)) (fun w h => h.at rfl) _ Tryd.underlying3 rfl) S0.out ?_
      refine wpAnyH_take (i := 12) (v := _) rfl (by kernel_rfl) (by kernel_rfl) (by kernel_rfl) (fun _ _ _ h => h) (yieldsIf_move (by kernel_rfl) (.tmp 1) rfl (.int .i64 (m : Int)) (by kernel_rfl)) S0.out ?_
      refine wpAnyH_take (i := 13) (v := .int .i64 ((p : Int) + m)) rfl (by kernel_rfl) (by kernel_rfl) (by kernel_rfl) (fun _ _ _ h => h) (.inl ⟨by kernel_rfl, fun w _ => by go_simp⟩) S0.out ?_
      refine wpAnyH_take (i := 14) (v := .slice (some ⟨b, off, none⟩) m 0) rfl (by kernel_rfl) (by kernel_rfl) (by kernel_rfl) (fun _ _ _ h => h) (.inl ⟨by kernel_rfl, fun w _ => by go_simp⟩) S0.out ?_
      refine wpAnyH_one 15 _ (by kernel_rfl) rfl fun K hK => ?_
      go_simp
      refine ((Copy_any _ _ _ _ _ (HP.out _ b0.out) hm48)).mono ?_
      rintro e v1w ⟨u, rfl, ho, L1⟩
      have S1 : Hid (Blk v1w g 86 [.slice (some ⟨b, off, none⟩) n c, .int .i64 (p : Int), .int .i64 0]) := S0.out.over L1
      have b1 : Hid (Below w.heap.size w v1w) := step b0.out L1
      have HO := Lib.hid ho
      refine hK _ _ S1.out ?_
      clear hK K ho L1
      refine wpAnyH_one 16 _ (by kernel_rfl) rfl fun K hK => ?_
      go_simp
      refine hK _ _ S1.out ?_
      clear hK K
      refine wpAnyH_done (by kernel_rfl) ?_ _
      have gd : v1w.cell? ⟨g, 1, none⟩ = some (.int .i64 (p : Int)) := S1.out.at rfl
      have gf := Blk.frozen S1.out 1
      go_wp2_with fail
      go_ret
      exact HQ.out _ _ ⟨_, rfl, Blk.set S1.out 1 _, (HO.out.mono b0.out.size).only (only_setCell _ g 1 _) hlt, (Save.of_below b1.out g).setCell 1 _⟩
    · have HP : Hid (∀ w' : World, Below w.heap.size w w' → Holds w' w'.heap.size (some ⟨b, off + p, none⟩) m (c - p) ((xs.drop p).take m)) := fun w' hb => by
        rcases Nat.eq_zero_or_pos m with hm0 | hm0
        · rw [hm0, List.take_zero]
          exact Holds.empty _ _ _ _ (fun h0 => by cases h0)
        · have := ((HX.out.over hb).part (k := p) (m := m) (c' := c - p) (by omega) hm0 (by omega))
          simpa [Addr.add, show ¬ p = 0 from by omega] using this
      have hwr : IntKind.i64.wrap ((p : Int) + m) = (p : Int) + m := by rw [IntKind.wrap_i64]; omega
      have hbd0 : 0 ≤ (p : Int) + m := by omega
      have hbd1 : (p : Int) + m ≤ (c : Int) := by omega
      have htn : ((p : Int) + m).toNat = p + m := by omega
      have hle : p ≤ p + m := by omega
      have hsb : p + m - p = m := by omega
      have hcp' : ¬ c = p := hcp
      clear hx hl
      go_enter Tryd.func78, Tryd.ntmps78
      go_wp2
      go_quiet (fail)
      go_upto_region 6 with fail
      obtain ⟨wq, hwq⟩ : ∃ wq, wq = w.drewN nq := ⟨_, rfl⟩
      have HRq : Hid (Blk wq g 86 [.slice (some ⟨b, off, none⟩) n c, .int .i64 (p : Int), .int .i64 0]) := by rw [hwq]; exact Blk.drewN HR0.out _
      have HLq : Hid (Below w.heap.size w wq) := by rw [hwq]; exact drewed w _
      rw [← hwq]
      clear hwq c0 c1 c2 HR0
      refine wp_region_held (S := fun w' => Blk w' g 86 [.slice (some ⟨b, off, none⟩) n c, .int .i64 (p : Int), .int .i64 0]) (by kernel_rfl) ?_
      change wpAnyH _ _ _ _ _ _ _ _ wq.drew
      have S0 : Hid (Blk wq.drew g 86 [.slice (some ⟨b, off, none⟩) n c, .int .i64 (p : Int), .int .i64 0]) := HRq.out.drew
      have b0 : Hid (Below w.heap.size w wq.drew) := HLq.out.drew
      refine wpAnyH_take (i := 0) (v := _) rfl (by kernel_rfl) (by kernel_rfl) (by kernel_rfl) (fun _ _ _ h => h) (yieldsIf_move (by kernel_rfl) (.tmp 0) rfl (.pointer (some ⟨g, 0, none⟩)) (by kernel_rfl)) S0.out ?_
      refine wpAnyH_take (i := 1) (v := _) rfl (by kernel_rfl) (by kernel_rfl) (by kernel_rfl) (fun _ _ _ h => h) (yieldsIf_nil (by kernel_rfl) (.tmp 26) rfl ⟨g, 0, none⟩ (by kernel_rfl)) S0.out ?_
      refine wpAnyH_take (i := 2) (v := _) rfl (by kernel_rfl) (by kernel_rfl) (by kernel_rfl) (fun _ _ _ h => h) (yieldsIf_fld (by kernel_rfl) _ (.tmp 27) 0 rfl (.pointer (some ⟨g, 0, none⟩)) (.pointer (some ⟨g, 0, none⟩)) (by kernel_rfl) (fld_rd0 g)) S0.out ?_
      refine wpAnyH_take (i := 3) (v := _) rfl (by kernel_rfl) (by kernel_rfl) (by kernel_rfl) (fun _ _ _ h => h) (yieldsIf_load_one (by kernel_rfl) _ (.tmp 28) rfl g 0 (by kernel_rfl) (.slice (some ⟨b, off, none⟩) n c) (fun w h => h.at rfl) _ Tryd.underlying29 rfl) S0.out ?_
      refine wpAnyH_take (i := 4) (v := _) rfl (by kernel_rfl) (by kernel_rfl) (by kernel_rfl) (fun _ _ _ h => h) (yieldsIf_move (by kernel_rfl) (.tmp 0) rfl (.pointer (some ⟨g, 0, none⟩)) (by kernel_rfl)) S0.out ?_
      refine wpAnyH_take (i := 5) (v := _) rfl (by kernel_rfl) (by kernel_rfl) (by kernel_rfl) (fun _ _ _ h => h) (yieldsIf_nil (by kernel_rfl) (.tmp 30) rfl ⟨g, 0, none⟩ (by kernel_rfl)) S0.out ?_
      refine wpAnyH_take (i := 6) (v := _) rfl (by kernel_rfl) (by kernel_rfl) (by kernel_rfl) (fun _ _ _ h => h) (yieldsIf_fld (by kernel_rfl) _ (.tmp 31) 1 rfl (.pointer (some ⟨g, 0, none⟩)) (.pointer (some ⟨g, 1, none⟩)) (by kernel_rfl) (fld_rd1 g)) S0.out ?_
      refine wpAnyH_take (i := 7) (v := _) rfl (by kernel_rfl) (by kernel_rfl) (by kernel_rfl) (fun _ _ _ h => h) (yieldsIf_load_one (by kernel_rfl) _ (.tmp 32) rfl g 1 (by kernel_rfl) (.int .i64 (p : Int)) (fun w h => h.at rfl) _ Tryd.underlying3 rfl) S0.out ?_
      refine wpAnyH_take (i := 8) (v := _) rfl (by kernel_rfl) (by kernel_rfl) (by kernel_rfl) (fun _ _ _ h => h) (yieldsIf_move (by kernel_rfl) (.tmp 0) rfl (.pointer (some ⟨g, 0, none⟩)) (by kernel_rfl)) S0.out ?_
      refine wpAnyH_take (i := 9) (v := _) rfl (by kernel_rfl) (by kernel_rfl) (by kernel_rfl) (fun _ _ _ h => h) (yieldsIf_nil (by kernel_rfl) (.tmp 34) rfl ⟨g, 0, none⟩ (by kernel_rfl)) S0.out ?_
      refine wpAnyH_take (i := 10) (v := _) rfl (by kernel_rfl) (by kernel_rfl) (by kernel_rfl) (fun _ _ _ h => h) (yieldsIf_fld (by kernel_rfl) _ (.tmp 35) 1 rfl (.pointer (some ⟨g, 0, none⟩)) (.pointer (some ⟨g, 1, none⟩)) (by kernel_rfl) (fld_rd1 g)) S0.out ?_
      refine wpAnyH_take (i := 11) (v := _) rfl (by kernel_rfl) (by kernel_rfl) (by kernel_rfl) (fun _ _ _ h => h) (yieldsIf_load_one (by kernel_rfl) _ (.tmp 36) rfl g 1 (by kernel_rfl) (.int .i64 (p : Int)) (fun w h => h.at rfl) _ Tryd.underlying3 rfl) S0.out ?_
      refine wpAnyH_take (i := 12) (v := _) rfl (by kernel_rfl) (by kernel_rfl) (by kernel_rfl) (fun _ _ _ h => h) (yieldsIf_move (by kernel_rfl) (.tmp 1) rfl (.int .i64 (m : Int)) (by kernel_rfl)) S0.out ?_
      refine wpAnyH_take (i := 13) (v := .int .i64 ((p : Int) + m)) rfl (by kernel_rfl) (by kernel_rfl) (by kernel_rfl) (fun _ _ _ h => h) (.inl ⟨by kernel_rfl, fun w _ => by go_simp⟩) S0.out ?_
      refine wpAnyH_take (i := 14) (v := .slice (some ⟨b, off + p, none⟩) m (c - p)) rfl (by kernel_rfl) (by kernel_rfl) (by kernel_rfl) (fun _ _ _ h => h) (.inl ⟨by kernel_rfl, fun w _ => by go_simp⟩) S0.out ?_
      refine wpAnyH_one 15 _ (by kernel_rfl) rfl fun K hK => ?_
      go_simp
      refine ((Copy_any _ _ _ _ _ (HP.out _ b0.out) hm48)).mono ?_
      rintro e v1w ⟨u, rfl, ho, L1⟩
      have S1 : Hid (Blk v1w g 86 [.slice (some ⟨b, off, none⟩) n c, .int .i64 (p : Int), .int .i64 0]) := S0.out.over L1
      have b1 : Hid (Below w.heap.size w v1w) := step b0.out L1
      have HO := Lib.hid ho
      refine hK _ _ S1.out ?_
      clear hK K ho L1
      refine wpAnyH_one 16 _ (by kernel_rfl) rfl fun K hK => ?_
      go_simp
      refine hK _ _ S1.out ?_
      clear hK K
      refine wpAnyH_done (by kernel_rfl) ?_ _
      have gd : v1w.cell? ⟨g, 1, none⟩ = some (.int .i64 (p : Int)) := S1.out.at rfl
      have gf := Blk.frozen S1.out 1
      go_wp2_with fail
      go_ret
      exact HQ.out _ _ ⟨_, rfl, Blk.set S1.out 1 _, (HO.out.mono b0.out.size).only (only_setCell _ g 1 _) hlt, (Save.of_below b1.out g).setCell 1 _⟩
/-- what a text's reading answers -/
def RdTextPost (w : World) (g : Nat) (A : Option Addr) (n c : Nat) (q : List UInt8 × Rd) (e : Ending) (w' : World) : Prop := e = .returned (.string ⟨q.1.toArray⟩) ∧ RdIs w' g A n c q.2 ∧ Save g w w'
set_option maxRecDepth 100000 in
set_option maxHeartbeats 2000000 in
theorem rdText_any (w : World) (g : Nat) (A : Option Addr) (n c : Nat) (xs : List Int) (r : Rd) (hB : RdIs w g A n c r) (hx : Holds w w.heap.size A n c xs) (hp : r.p ≤ n) :
    Calls Tryd.prog 55 #[.pointer (some ⟨g, 0, none⟩)] w (RdTextPost w g A n c (rdText xs r)) := by
  obtain ⟨p, er⟩ := r
  change p ≤ n at hp
  have hl := hx.len
  have hrm := hx.room
  have c2 : w.cell? ⟨g, 2, none⟩ = some (.int .i64 er) := Blk.at hB rfl
  have HR0 : Hid (Blk w g 86 [.slice A n c, .int .i64 (p : Int), .int .i64 er]) := hB
  by_cases he : er = 0
  rotate_left
  · have HQ : Hid (∀ e w', (e = .returned (.string .empty) ∧ Blk w' g 86 [.slice A n c, .int .i64 (p : Int), .int .i64 er] ∧ Save g w w') → RdTextPost w g A n c (rdText xs ⟨p, er⟩) e w') := by
      intro e w' hh
      unfold rdText
      rw [if_neg he]
      exact hh
    have hne : (er != 0) = true := by simpa using he
    clear hB hx hl he
    go_enter Tryd.func55, Tryd.ntmps55
    go_wp2
    go_ret
    exact HQ.out _ _ ⟨rfl, HR0.out, Save.refl g w⟩
  subst he
  have CG : Hid (∀ w' : World, Below w.heap.size w w' → Calls Tryd.prog 77 #[.slice A n c, .int .i64 (p : Int)] w' fun e v => e = .returned (.tuple #[.string ⟨(gtextOf xs p).toArray⟩, .int .i64 (gtextNext xs p), .int .i64 (gtextErr xs p)]) ∧ Below w'.heap.size w' v) := fun w' hb => RGetText_any w' A n c xs p (hx.over hb) (by omega)
  have HQ : Hid (∀ e w', (e = .returned (.string ⟨(gtextOf xs p).toArray⟩) ∧ Blk w' g 86 [.slice A n c, .int .i64 (if gtextErr xs p = 0 then gtextNext xs p else p), .int .i64 (gtextErr xs p)] ∧ Save g w w') → RdTextPost w g A n c (rdText xs ⟨p, 0⟩) e w') := by
    intro e w' hh
    unfold rdText
    rw [if_pos rfl]
    unfold RdTextPost RdIs
    refine ⟨hh.1, ?_, hh.2.2⟩
    have h2 := hh.2.1
    by_cases h0 : gtextErr xs (p : Int) = 0
    · rw [if_pos h0] at h2
      show Blk w' g _ [_, .int .i64 (((if gtextErr xs (p : Int) = 0 then (gtextNext xs (p : Int)).toNat else p) : Nat) : Int), _]
      rw [if_pos h0]
      have h3 : 0 ≤ gtextNext xs (p : Int) := by
        unfold gtextNext
        rw [if_pos h0]
        unfold growNext
        split
        · have := rowN_bounds xs hx.byte (p : Int); omega
        · exact Int.le_refl 0
      rwa [show (((gtextNext xs (p : Int)).toNat : Nat) : Int) = gtextNext xs p from by omega]
    · rw [if_neg h0] at h2
      show Blk w' g _ [_, .int .i64 (((if gtextErr xs (p : Int) = 0 then (gtextNext xs (p : Int)).toNat else p) : Nat) : Int), _]
      rw [if_neg h0]
      exact h2
  obtain ⟨tx, htx⟩ : ∃ tx : ByteArray, tx = ⟨(gtextOf xs p).toArray⟩ := ⟨_, rfl⟩
  obtain ⟨nx, hnx⟩ : ∃ nx, nx = gtextNext xs (p : Int) := ⟨_, rfl⟩
  obtain ⟨er, her⟩ : ∃ er, er = gtextErr xs (p : Int) := ⟨_, rfl⟩
  rw [← htx, ← hnx, ← her] at CG HQ
  clear hB hx hl htx hnx her
  by_cases h0 : er = 0
  · subst h0
    rw [if_pos rfl] at HQ
    go_enter Tryd.func55, Tryd.ntmps55
    go_wp2
    go_upto_region 3 with fail
    have HRq : Hid (Blk w g 86 [.slice A n c, .int .i64 (p : Int), .int .i64 0]) := HR0
    have HLq : Hid (Below w.heap.size w w) := Below.refl _ _
    clear c2 HR0
    refine wp_region_held (S := fun w' => Blk w' g 86 [.slice A n c, .int .i64 (p : Int), .int .i64 0]) (by kernel_rfl) ?_
    change wpAnyH _ _ _ _ _ _ _ _ w.drew
    have S0 : Hid (Blk w.drew g 86 [.slice A n c, .int .i64 (p : Int), .int .i64 0]) := HRq.out.drew
    have b0 : Hid (Below w.heap.size w w.drew) := HLq.out.drew
    refine wpAnyH_take (i := 0) (v := _) rfl (by kernel_rfl) (by kernel_rfl) (by kernel_rfl) (fun _ _ _ h => h) (yieldsIf_move (by kernel_rfl) (.tmp 0) rfl (.pointer (some ⟨g, 0, none⟩)) (by kernel_rfl)) S0.out ?_
    refine wpAnyH_take (i := 1) (v := _) rfl (by kernel_rfl) (by kernel_rfl) (by kernel_rfl) (fun _ _ _ h => h) (yieldsIf_nil (by kernel_rfl) (.tmp 12) rfl ⟨g, 0, none⟩ (by kernel_rfl)) S0.out ?_
    refine wpAnyH_take (i := 2) (v := _) rfl (by kernel_rfl) (by kernel_rfl) (by kernel_rfl) (fun _ _ _ h => h) (yieldsIf_fld (by kernel_rfl) _ (.tmp 13) 0 rfl (.pointer (some ⟨g, 0, none⟩)) (.pointer (some ⟨g, 0, none⟩)) (by kernel_rfl) (fld_rd0 g)) S0.out ?_
    refine wpAnyH_take (i := 3) (v := _) rfl (by kernel_rfl) (by kernel_rfl) (by kernel_rfl) (fun _ _ _ h => h) (yieldsIf_load_one (by kernel_rfl) _ (.tmp 14) rfl g 0 (by kernel_rfl) (.slice A n c) (fun w h => h.at rfl) _ Tryd.underlying29 rfl) S0.out ?_
    refine wpAnyH_take (i := 4) (v := _) rfl (by kernel_rfl) (by kernel_rfl) (by kernel_rfl) (fun _ _ _ h => h) (yieldsIf_move (by kernel_rfl) (.tmp 0) rfl (.pointer (some ⟨g, 0, none⟩)) (by kernel_rfl)) S0.out ?_
    refine wpAnyH_take (i := 5) (v := _) rfl (by kernel_rfl) (by kernel_rfl) (by kernel_rfl) (fun _ _ _ h => h) (yieldsIf_nil (by kernel_rfl) (.tmp 16) rfl ⟨g, 0, none⟩ (by kernel_rfl)) S0.out ?_
    refine wpAnyH_take (i := 6) (v := _) rfl (by kernel_rfl) (by kernel_rfl) (by kernel_rfl) (fun _ _ _ h => h) (yieldsIf_fld (by kernel_rfl) _ (.tmp 17) 1 rfl (.pointer (some ⟨g, 0, none⟩)) (.pointer (some ⟨g, 1, none⟩)) (by kernel_rfl) (fld_rd1 g)) S0.out ?_
    refine wpAnyH_take (i := 7) (v := _) rfl (by kernel_rfl) (by kernel_rfl) (by kernel_rfl) (fun _ _ _ h => h) (yieldsIf_load_one (by kernel_rfl) _ (.tmp 18) rfl g 1 (by kernel_rfl) (.int .i64 (p : Int)) (fun w h => h.at rfl) _ Tryd.underlying3 rfl) S0.out ?_
    refine wpAnyH_one 8 _ (by kernel_rfl) rfl fun K hK => ?_
    go_simp
    refine ((CG.out _ b0.out)).mono ?_
    rintro e v1w ⟨rfl, L1⟩
    have S1 : Hid (Blk v1w g 86 [.slice A n c, .int .i64 (p : Int), .int .i64 0]) := S0.out.over L1
    have b1 : Hid (Below w.heap.size w v1w) := step b0.out L1
    refine hK _ _ S1.out ?_
    clear hK K L1
    refine wpAnyH_one 9 _ (by kernel_rfl) rfl fun K hK => ?_
    go_simp
    refine hK _ _ S1.out ?_
    clear hK K
    refine wpAnyH_take (i := 10) (v := .string tx) rfl (by kernel_rfl) (by kernel_rfl) (by kernel_rfl) (fun _ _ _ h => h) (.inl ⟨by kernel_rfl, fun w _ => by go_simp⟩) S1.out ?_
    refine wpAnyH_take (i := 11) (v := .int .i64 nx) rfl (by kernel_rfl) (by kernel_rfl) (by kernel_rfl) (fun _ _ _ h => h) (.inl ⟨by kernel_rfl, fun w _ => by go_simp⟩) S1.out ?_
    refine wpAnyH_take (i := 12) (v := .int .i64 0) rfl (by kernel_rfl) (by kernel_rfl) (by kernel_rfl) (fun _ _ _ h => h) (.inl ⟨by kernel_rfl, fun w _ => by go_simp⟩) S1.out ?_
    refine wpAnyH_take (i := 13) (v := _) rfl (by kernel_rfl) (by kernel_rfl) (by kernel_rfl) (fun _ _ _ h => h) (yieldsIf_asg (by kernel_rfl) (.tmp 21) rfl (.string tx) (by kernel_rfl)) S1.out ?_
    refine wpAnyH_take (i := 14) (v := _) rfl (by kernel_rfl) (by kernel_rfl) (by kernel_rfl) (fun _ _ _ h => h) (yieldsIf_asg (by kernel_rfl) (.tmp 22) rfl (.int .i64 nx) (by kernel_rfl)) S1.out ?_
    refine wpAnyH_take (i := 15) (v := _) rfl (by kernel_rfl) (by kernel_rfl) (by kernel_rfl) (fun _ _ _ h => h) (yieldsIf_asg (by kernel_rfl) (.tmp 23) rfl (.int .i64 0) (by kernel_rfl)) S1.out ?_
    refine wpAnyH_done (by kernel_rfl) ?_ _
    have gf1 := Blk.frozen S1.out 1
    have gf2 := Blk.frozen S1.out 2
    have g1 : v1w.cell? ⟨g, 1, none⟩ = some (.int .i64 (p : Int)) := S1.out.at rfl
    have g2 : v1w.cell? ⟨g, 2, none⟩ = some (.int .i64 0) := S1.out.at rfl
    go_wp2_with fail
    go_ret
    exact HQ.out _ _ ⟨rfl, Blk.set (Blk.set S1.out 2 _) 1 _, ((Save.of_below b1.out g).setCell 2 _).setCell 1 _⟩
  · rw [if_neg h0] at HQ
    have hne : (er == 0) = false := by simpa using h0
    clear h0
    go_enter Tryd.func55, Tryd.ntmps55
    go_wp2
    go_upto_region 3 with fail
    have HRq : Hid (Blk w g 86 [.slice A n c, .int .i64 (p : Int), .int .i64 0]) := HR0
    have HLq : Hid (Below w.heap.size w w) := Below.refl _ _
    clear c2 HR0
    refine wp_region_held (S := fun w' => Blk w' g 86 [.slice A n c, .int .i64 (p : Int), .int .i64 0]) (by kernel_rfl) ?_
    change wpAnyH _ _ _ _ _ _ _ _ w.drew
    have S0 : Hid (Blk w.drew g 86 [.slice A n c, .int .i64 (p : Int), .int .i64 0]) := HRq.out.drew
    have b0 : Hid (Below w.heap.size w w.drew) := HLq.out.drew
    refine wpAnyH_take (i := 0) (v := _) rfl (by kernel_rfl) (by kernel_rfl) (by kernel_rfl) (fun _ _ _ h => h) (yieldsIf_move (by kernel_rfl) (.tmp 0) rfl (.pointer (some ⟨g, 0, none⟩)) (by kernel_rfl)) S0.out ?_
    refine wpAnyH_take (i := 1) (v := _) rfl (by kernel_rfl) (by kernel_rfl) (by kernel_rfl) (fun _ _ _ h => h) (yieldsIf_nil (by kernel_rfl) (.tmp 12) rfl ⟨g, 0, none⟩ (by kernel_rfl)) S0.out ?_
    refine wpAnyH_take (i := 2) (v := _) rfl (by kernel_rfl) (by kernel_rfl) (by kernel_rfl) (fun _ _ _ h => h) (yieldsIf_fld (by kernel_rfl) _ (.tmp 13) 0 rfl (.pointer (some ⟨g, 0, none⟩)) (.pointer (some ⟨g, 0, none⟩)) (by kernel_rfl) (fld_rd0 g)) S0.out ?_
    refine wpAnyH_take (i := 3) (v := _) rfl (by kernel_rfl) (by kernel_rfl) (by kernel_rfl) (fun _ _ _ h => h) (yieldsIf_load_one (by kernel_rfl) _ (.tmp 14) rfl g 0 (by kernel_rfl) (.slice A n c) (fun w h => h.at rfl) _ Tryd.underlying29 rfl) S0.out ?_
    refine wpAnyH_take (i := 4) (v := _) rfl (by kernel_rfl) (by kernel_rfl) (by kernel_rfl) (fun _ _ _ h => h) (yieldsIf_move (by kernel_rfl) (.tmp 0) rfl (.pointer (some ⟨g, 0, none⟩)) (by kernel_rfl)) S0.out ?_
    refine wpAnyH_take (i := 5) (v := _) rfl (by kernel_rfl) (by kernel_rfl) (by kernel_rfl) (fun _ _ _ h => h) (yieldsIf_nil (by kernel_rfl) (.tmp 16) rfl ⟨g, 0, none⟩ (by kernel_rfl)) S0.out ?_
    refine wpAnyH_take (i := 6) (v := _) rfl (by kernel_rfl) (by kernel_rfl) (by kernel_rfl) (fun _ _ _ h => h) (yieldsIf_fld (by kernel_rfl) _ (.tmp 17) 1 rfl (.pointer (some ⟨g, 0, none⟩)) (.pointer (some ⟨g, 1, none⟩)) (by kernel_rfl) (fld_rd1 g)) S0.out ?_
    refine wpAnyH_take (i := 7) (v := _) rfl (by kernel_rfl) (by kernel_rfl) (by kernel_rfl) (fun _ _ _ h => h) (yieldsIf_load_one (by kernel_rfl) _ (.tmp 18) rfl g 1 (by kernel_rfl) (.int .i64 (p : Int)) (fun w h => h.at rfl) _ Tryd.underlying3 rfl) S0.out ?_
    refine wpAnyH_one 8 _ (by kernel_rfl) rfl fun K hK => ?_
    go_simp
    refine ((CG.out _ b0.out)).mono ?_
    rintro e v1w ⟨rfl, L1⟩
    have S1 : Hid (Blk v1w g 86 [.slice A n c, .int .i64 (p : Int), .int .i64 0]) := S0.out.over L1
    have b1 : Hid (Below w.heap.size w v1w) := step b0.out L1
    refine hK _ _ S1.out ?_
    clear hK K L1
    refine wpAnyH_one 9 _ (by kernel_rfl) rfl fun K hK => ?_
    go_simp
    refine hK _ _ S1.out ?_
    clear hK K
    refine wpAnyH_take (i := 10) (v := .string tx) rfl (by kernel_rfl) (by kernel_rfl) (by kernel_rfl) (fun _ _ _ h => h) (.inl ⟨by kernel_rfl, fun w _ => by go_simp⟩) S1.out ?_
    refine wpAnyH_take (i := 11) (v := .int .i64 nx) rfl (by kernel_rfl) (by kernel_rfl) (by kernel_rfl) (fun _ _ _ h => h) (.inl ⟨by kernel_rfl, fun w _ => by go_simp⟩) S1.out ?_
    refine wpAnyH_take (i := 12) (v := .int .i64 er) rfl (by kernel_rfl) (by kernel_rfl) (by kernel_rfl) (fun _ _ _ h => h) (.inl ⟨by kernel_rfl, fun w _ => by go_simp⟩) S1.out ?_
    refine wpAnyH_take (i := 13) (v := _) rfl (by kernel_rfl) (by kernel_rfl) (by kernel_rfl) (fun _ _ _ h => h) (yieldsIf_asg (by kernel_rfl) (.tmp 21) rfl (.string tx) (by kernel_rfl)) S1.out ?_
    refine wpAnyH_take (i := 14) (v := _) rfl (by kernel_rfl) (by kernel_rfl) (by kernel_rfl) (fun _ _ _ h => h) (yieldsIf_asg (by kernel_rfl) (.tmp 22) rfl (.int .i64 nx) (by kernel_rfl)) S1.out ?_
    refine wpAnyH_take (i := 15) (v := _) rfl (by kernel_rfl) (by kernel_rfl) (by kernel_rfl) (fun _ _ _ h => h) (yieldsIf_asg (by kernel_rfl) (.tmp 23) rfl (.int .i64 er) (by kernel_rfl)) S1.out ?_
    refine wpAnyH_done (by kernel_rfl) ?_ _
    have gf2 := Blk.frozen S1.out 2
    have g2 : v1w.cell? ⟨g, 2, none⟩ = some (.int .i64 0) := S1.out.at rfl
    go_wp2_with fail
    go_ret
    exact HQ.out _ _ ⟨rfl, Blk.set S1.out 2 _, (Save.of_below b1.out g).setCell 2 _⟩
end Go.Proofs.YtdlcjobahdmapaaDoor

namespace Go.Proofs.YtdlcjobahdmapaaDoor
set_option linter.all false
open Go.RowKit
set_option linter.unusedVariables false
set_option maxRecDepth 100000
theorem rdPart_place {xs : List Int} {m n : Nat} {r : Rd} (hl : xs.length = n) (h : r.p ≤ n) : (rdPart xs m r).2.p ≤ n := by
  unfold rdPart
  split
  · split
    · exact h
    · show r.p + m ≤ n; omega
  · exact h
theorem rdPart_ok {xs : List Int} {m n : Nat} {r : Rd} (hl : xs.length = n) (h : (rdPart xs m r).2.e = 0) : (rdPart xs m r).1.length = m := by
  unfold rdPart at h ⊢
  by_cases h1 : r.e = 0
  · rw [if_pos h1] at h ⊢
    by_cases h2 : xs.length < r.p + m
    · rw [if_pos h2] at h; exact absurd (show (4 : Int) = 0 from h) (by decide)
    · rw [if_neg h2]; simp; omega
  · rw [if_neg h1] at h; exact absurd h h1
/-- a number's reading is that of its part -/
theorem rdPart_N {xs : List Int} {s : Nat} {r : Rd} (hs : sizeOk (s : Int) = true) : (rdPart xs s r).2 = (rdN xs s r).2 ∧ getOf (rdPart xs s r).1 0 (s : Int) = (rdN xs s r).1 := by
  have hs8 : 1 ≤ s ∧ s ≤ 8 := by rcases sizeOk_cases hs with h | h | h | h <;> omega
  have h0 : getOf [] 0 (s : Int) = 0 := by
    have he : getErr 0 0 (s : Int) = 4 := by unfold getErr partErr; rw [if_pos hs, if_neg (by omega), if_pos (by omega)]
    show (if getErr 0 0 (s : Int) = 0 then _ else _) = _
    rw [he, if_neg (by decide)]
  unfold rdPart rdN
  by_cases h1 : r.e = 0
  · rw [if_pos h1, if_pos h1]
    by_cases h2 : xs.length < r.p + s
    · rw [if_pos h2, if_pos h2]; exact ⟨rfl, h0⟩
    · rw [if_neg h2, if_neg h2]
      refine ⟨rfl, ?_⟩
      have hl : ((xs.drop r.p).take s).length = s := by rw [List.length_take, List.length_drop]; omega
      have he : getErr s 0 (s : Int) = 0 := by unfold getErr partErr; rw [if_pos hs, if_neg (by omega), if_neg (by omega)]
      unfold getOf numAt
      rw [hl, he, if_pos rfl]
      simp [List.take_take]
  · rw [if_neg h1, if_neg h1]; exact ⟨rfl, h0⟩
end Go.Proofs.YtdlcjobahdmapaaDoor

namespace Go.Proofs.YtdlcjobahdmapaaDoor
set_option linter.all false
open Go.RowKit
set_option linter.unusedVariables false
set_option maxRecDepth 100000
theorem rdN_place {xs : List Int} {s n : Nat} {r : Rd} (hl : xs.length = n) (h : r.p ≤ n) : (rdN xs s r).2.p ≤ n := by
  unfold rdN
  split
  · split
    · exact h
    · show r.p + s ≤ n; omega
  · exact h
end Go.Proofs.YtdlcjobahdmapaaDoor

namespace Go.Proofs.YtdlcjobahdmapaaDoor
set_option linter.all false
open Go.RowKit
set_option linter.unusedVariables false
set_option maxRecDepth 100000
theorem num_zero {ys : List Int} (h : Bytes ys) : num ys = 0 ↔ ys.all (· == 0) = true := by
  induction ys with
  | nil => simp [num]
  | cons y ys ih =>
    have hy := h y List.mem_cons_self
    have hb : Bytes ys := fun x hx => h x (List.mem_cons_of_mem _ hx)
    have hn := (num_bounds ys hb).1
    have ih' := ih hb
    simp only [num, List.all_cons, Bool.and_eq_true, beq_iff_eq]
    constructor
    · intro he
      exact ⟨by omega, ih'.1 (by omega)⟩
    · rintro ⟨h1, h2⟩
      have := ih'.2 h2
      omega
theorem rdMost_Z {xs : List Int} (hx : Bytes xs) {s : Nat} {r : Rd} (hs : sizeOk (s : Int) = true) : (rdMost xs s 0 5 r).2 = rdZ xs s r := by
  obtain ⟨e2, e1⟩ := rdPart_N (xs := xs) (r := r) hs
  have hb := rdPart_bytes hx s r
  have hs8 : 1 ≤ s ∧ s ≤ 8 := by rcases sizeOk_cases hs with h | h | h | h <;> omega
  unfold rdMost rdZ
  rw [e2]
  by_cases he : (rdN xs s r).2.e = 0
  · rw [if_pos he]
    have hl : (rdPart xs s r).1.length = s := rdPart_ok (n := xs.length) rfl (by rw [e2]; exact he)
    obtain ⟨ys, hys⟩ : ∃ ys, ys = (rdPart xs s r).1 := ⟨_, rfl⟩
    rw [← hys] at e1 hb hl ⊢
    have ep : partErr s 0 (s : Int) = 0 := by unfold partErr; rw [if_neg (by omega), if_neg (by omega)]
    have eg : getErr s 0 (s : Int) = 0 := by unfold getErr; rw [if_pos hs, ep]
    have e3 : (rdN xs s r).1 = num ys := by
      rw [← e1]
      unfold getOf
      rw [hl, eg, if_pos rfl]
      simp [List.take_of_length_le (Nat.le_of_eq hl)]
    have e4 : zeroOf ys 0 (s : Int) = ys.all (· == 0) := by
      unfold zeroOf partOf
      rw [hl, ep, if_pos rfl]
      simp [List.take_of_length_le (Nat.le_of_eq hl)]
    rw [e4, e3]
    by_cases hz : ys.all (· == 0) = true
    · rw [if_pos hz, if_neg (fun h => by have := (num_zero hb).2 hz; omega)]
    · rw [if_neg hz, if_pos ⟨he, by have h1 := (num_bounds ys hb).1; have h2 : ¬ num ys = 0 := fun h => hz ((num_zero hb).1 h); omega⟩]
  · rw [if_neg he, if_neg (fun h => he h.1)]
theorem rdText_place {xs : List Int} {n : Nat} {r : Rd} (hx : Bytes xs) (hl : xs.length = n) (h : r.p ≤ n) : (rdText xs r).2.p ≤ n := by
  unfold rdText
  split
  · have := gtextNext_nonneg hx (r.p : Int) (by omega)
    show (if gtextErr xs r.p = 0 then (gtextNext xs r.p).toNat else r.p) ≤ n
    split
    · omega
    · exact h
  · exact h
theorem rdMost_place {xs : List Int} {s n : Nat} {most er : Int} {r : Rd} (hl : xs.length = n) (h : r.p ≤ n) : (rdMost xs s most er r).2.p ≤ n := by
  have := rdN_place (s := s) hl h
  unfold rdMost
  split
  · exact this
  · exact this
end Go.Proofs.YtdlcjobahdmapaaDoor

namespace Go.Proofs.YtdlcjobahdmapaaDoor
set_option linter.all false
set_option linter.unusedVariables false
set_option maxRecDepth 100000
/-- .. and as one that ends with the first error -/
def rdLocksE (xs : List Int) (r : Rd) : Nat → List LockV × Rd
  | 0 => ([], r)
  | k + 1 => if (rdLocksE xs r k).2.e = 0 then ((rdLocksE xs r k).1 ++ [(rdLock xs (rdLocksE xs r k).2).1], (rdLock xs (rdLocksE xs r k).2).2) else rdLocksE xs r k
theorem rdLocks_same (xs : List Int) (r : Rd) (k : Nat) : (rdLocksE xs r k).2 = (rdLocks xs r k).2 ∧ ((rdLocks xs r k).2.e = 0 → (rdLocksE xs r k).1 = (rdLocks xs r k).1) := by
  induction k with
  | zero => exact ⟨rfl, fun _ => rfl⟩
  | succ k ih =>
    obtain ⟨i1, i2⟩ := ih
    unfold rdLocksE rdLocks
    by_cases h : (rdLocks xs r k).2.e = 0
    · rw [if_pos (by rw [i1]; exact h), i1, i2 h]
      exact ⟨rfl, fun _ => rfl⟩
    · rw [if_neg (by rw [i1]; exact h), i1]
      have := rdLock_stick (xs := xs) h
      exact ⟨this.symm, fun h2 => absurd h2 (by rw [this]; exact h)⟩
theorem rdLocksE_len {xs : List Int} {r : Rd} (k : Nat) : (rdLocksE xs r k).1.length ≤ k := by
  induction k with
  | zero => exact Nat.le_refl 0
  | succ k ih =>
    unfold rdLocksE
    split
    · simp; omega
    · omega
theorem rdLocksE_stop {xs : List Int} {r : Rd} {j : Nat} (h : ¬ (rdLocksE xs r j).2.e = 0) : ∀ k, rdLocksE xs r (j + k) = rdLocksE xs r j := by
  intro k
  induction k with
  | zero => rfl
  | succ k ih =>
    rw [show j + (k + 1) = (j + k) + 1 from rfl]
    show (if (rdLocksE xs r (j + k)).2.e = 0 then _ else rdLocksE xs r (j + k)) = _
    rw [ih, if_neg h]
end Go.Proofs.YtdlcjobahdmapaaDoor

namespace Go.Proofs.YtdlcjobahdmapaaDoor
set_option linter.all false
open Go.RowKit
set_option linter.unusedVariables false
set_option maxRecDepth 100000
def RFGAskPost (w : World) (c : Int) (xs : List Int) (e : Ending) (w' : World) : Prop := ∃ cs : List Value, e = .returned (.tuple #[.agg cs.toArray, .int .i64 (fgErr c xs)]) ∧ AskIs w' w'.heap.size cs (fgOf c xs) ∧ Below w.heap.size w w'
def RFGSayPost (w : World) (c : Int) (xs : List Int) (e : Ending) (w' : World) : Prop := ∃ cs : List Value, e = .returned (.tuple #[.agg cs.toArray, .int .i64 (sgErr c xs)]) ∧ SayIs w' w'.heap.size cs (sgOf c xs) ∧ Below w.heap.size w w'
/-- the document's reader in block g over the bytes xs, which lie below block B -/
def RP (w : World) (g B : Nat) (A : Option Addr) (n k : Nat) (xs : List Int) (r : Rd) : Prop := RdIs w g A n k r ∧ Holds w B A n k xs ∧ B ≤ g ∧ r.p ≤ n
section
variable {w w' : World} {g g' B : Nat} {A : Option Addr} {n k : Nat} {xs : List Int} {r : Rd}
theorem RP.lt (h : RP w g B A n k xs r) : g < w.heap.size := Blk.lt h.1
theorem RP.only (h : RP w g B A n k xs r) (hO : Only g' w w') (hg : g ≠ g') (hb : B ≤ g') : RP w' g B A n k xs r := ⟨Blk.only h.1 hO hg, h.2.1.only hO hb, h.2.2⟩
theorem RP.over (h : RP w g B A n k xs r) (hb : Below w.heap.size w w') : RP w' g B A n k xs r := ⟨Blk.over h.1 hb, h.2.1.below (hb.mono (by have := h.lt; have := h.2.2.1; omega)), h.2.2⟩
theorem RP.belowAt (h : RP w g B A n k xs r) {b : Nat} (hb : Below b w w') (hg : g < b) : RP w' g B A n k xs r := ⟨Blk.below h.1 hb hg, h.2.1.below (hb.mono (by have := h.2.2.1; omega)), h.2.2⟩
theorem RP.next (h : RP w g B A n k xs r) {q : Rd} (hr : RdIs w' g A n k q) (hS : Save g w w') (hq : q.p ≤ n) : RP w' g B A n k xs q :=
  ⟨hr, h.2.1.below (hS.below h.2.2.1 (by have := h.lt; have := h.2.2.1; omega)), h.2.2.1, hq⟩
end
def RNPost (w : World) (g B : Nat) (A : Option Addr) (n k : Nat) (xs : List Int) (q : Int × Rd) (e : Ending) (w' : World) : Prop := e = .returned (.int .u64 q.1) ∧ RP w' g B A n k xs q.2 ∧ Save g w w'
section
variable (w : World) (g B : Nat) (A : Option Addr) (n k : Nat) (xs : List Int) (r : Rd) (h : RP w g B A n k xs r)
include h
theorem rN (s : Nat) (hs : sizeOk (s : Int) = true) : Calls Tryd.prog 53 #[.pointer (some ⟨g, 0, none⟩), .int .i64 (s : Int)] w (RNPost w g B A n k xs (rdN xs s r)) :=
  (rdN_any w g B A n k xs r s h.1 h.2.1 h.2.2.1 h.2.2.2 hs).mono fun e w' ⟨h1, h2, h3⟩ => ⟨h1, h.next h2 h3 (rdN_place h.2.1.len h.2.2.2), h3⟩
theorem rMost (s : Nat) (most er : Int) (hs : sizeOk (s : Int) = true) : Calls Tryd.prog 54 #[.pointer (some ⟨g, 0, none⟩), .int .i64 (s : Int), .int .u64 most, .int .i64 er] w (RNPost w g B A n k xs (rdMost xs s most er r)) :=
  (rdMost_any w g B A n k xs r s most er h.1 h.2.1 h.2.2.1 h.2.2.2 hs).mono fun e w' ⟨h1, h2, h3⟩ => ⟨h1, h.next h2 h3 (rdMost_place h.2.1.len h.2.2.2), h3⟩
theorem rText (hx : Bytes xs) : Calls Tryd.prog 55 #[.pointer (some ⟨g, 0, none⟩)] w fun e w' => e = .returned (.string ⟨(rdText xs r).1.toArray⟩) ∧ RP w' g B A n k xs (rdText xs r).2 ∧ Save g w w' :=
  (rdText_any w g A n k xs r h.1 (h.2.1.mono (by have := h.lt; have := h.2.2.1; omega)) h.2.2.2).mono fun e w' ⟨h1, h2, h3⟩ => ⟨h1, h.next h2 h3 (rdText_place hx h.2.1.len h.2.2.2), h3⟩
theorem rPart (m : Nat) (hm : m ≤ 65536) : Calls Tryd.prog 78 #[.pointer (some ⟨g, 0, none⟩), .int .i64 (m : Int)] w fun e w' => ∃ v, e = .returned v ∧ Own w' w.heap.size v (rdPart xs m r).1 ∧ RP w' g B A n k xs (rdPart xs m r).2 ∧ Save g w w' :=
  (rdPart_any w g A n k xs r m h.1 (h.2.1.mono (by have := h.lt; have := h.2.2.1; omega)) h.2.2.2 hm).mono fun e w' ⟨v, h1, h2, h3, h4⟩ => ⟨v, h1, h3, h.next h2 h4 (rdPart_place h.2.1.len h.2.2.2), h4⟩
theorem rEnd : Calls Tryd.prog 57 #[.pointer (some ⟨g, 0, none⟩)] w fun e w' => e = .returned (.int .i64 (rdEnd xs r)) ∧ ∃ j, w.drewN j = w' :=
  rdEnd_any w g A n k xs r h.1 h.2.1.len h.2.1.room h.2.2.2
end
set_option maxHeartbeats 1000000 in
theorem rdata_any (w : World) (g B : Nat) (A : Option Addr) (n k : Nat) (xs : List Int) (r : Rd) (hx : Bytes xs) (hP : RP w g B A n k xs r) :
    Calls Tryd.prog 56 #[.pointer (some ⟨g, 0, none⟩)] w fun e w' => ∃ v, e = .returned v ∧ Own w' w.heap.size v (rdData xs r).1 ∧ RP w' g B A n k xs (rdData xs r).2 ∧ Save g w w' := by
  have C1 := Lib.hid (rMost w g B A n k xs r hP 4 32768 3 (by decide))
  obtain ⟨m0, m1⟩ := rdMost_lt hx 4 32768 3 r (by decide) (by decide)
  have hq : ∀ (e : Ending) (w' : World), (∃ v, e = .returned v ∧ Own w' w.heap.size v (rdPart xs (rdMost xs 4 32768 3 r).1.toNat (rdMost xs 4 32768 3 r).2).1 ∧ RP w' g B A n k xs (rdPart xs (rdMost xs 4 32768 3 r).1.toNat (rdMost xs 4 32768 3 r).2).2 ∧ Save g w w') → (∃ v, e = .returned v ∧ Own w' w.heap.size v (rdData xs r).1 ∧ RP w' g B A n k xs (rdData xs r).2 ∧ Save g w w') := fun _ _ h => h
  unfold RNPost at C1
  obtain ⟨q, hqq⟩ : ∃ q, q = rdMost xs 4 32768 3 r := ⟨_, rfl⟩
  rw [← hqq] at C1 m0 m1 hq
  obtain ⟨z, p⟩ := q
  change 0 ≤ z at m0
  change z ≤ 32768 at m1
  obtain ⟨m, rfl⟩ := Int.eq_ofNat_of_zero_le m0
  simp only [Int.toNat_natCast] at hq
  have hm : m ≤ 32768 := by omega
  have CP : Hid (∀ w, RP w g B A n k xs p → Calls Tryd.prog 78 #[.pointer (some ⟨g, 0, none⟩), .int .i64 (m : Int)] w fun e w' => ∃ v, e = .returned v ∧ Own w' w.heap.size v (rdPart xs m p).1 ∧ RP w' g B A n k xs (rdPart xs m p).2 ∧ Save g w w') := fun w h => rPart w g B A n k xs p h m (by omega)
  have HQ := Lib.hid hq
  obtain ⟨d, hd⟩ : ∃ d, d = rdPart xs m p := ⟨_, rfl⟩
  rw [← hd] at CP HQ
  obtain ⟨ys, q⟩ := d
  have hwz : IntKind.i64.wrap (m : Int) = (m : Int) := by rw [IntKind.wrap_i64]; omega
  obtain ⟨rd1, hrd1⟩ : ∃ x, x = (rdData xs r).1 := ⟨_, rfl⟩
  obtain ⟨rd2, hrd2⟩ : ∃ x, x = (rdData xs r).2 := ⟨_, rfl⟩
  rw [← hrd1, ← hrd2] at HQ ⊢
  clear hqq hq hd hP m0 m1 hrd1 hrd2
  go_enter Tryd.func56, Tryd.ntmps56
  go_wp2_with fail
  refine C1.out.mono ?_
  rintro e w1 ⟨rfl, hP1, hS1⟩
  have HP1 := Lib.hid hP1
  have HS1 := Lib.hid hS1
  clear hP1 hS1 C1
  go_wp2_with fail
  refine (CP.out w1 HP1.out).mono ?_
  rintro e w2 ⟨v, rfl, hO, hP2, hS2⟩
  have HO2 := Lib.hid (Own.mono hO HS1.out.size)
  have HP2 := Lib.hid hP2
  have HS2 := Lib.hid (HS1.out.trans hS2)
  clear hP2 hS2 hO HS1 HP1 CP
  go_wp2
  go_ret
  exact HQ.out _ _ ⟨_, rfl, HO2.out, HP2.out, HS2.out⟩
theorem OwnS.onlyAt {w w' : World} {base b : Nat} {v : Value} {xs : List LockV} (h : OwnS lockCells 4 69 w base v xs) (hO : Only b w w') (hb : b < base) : OwnS lockCells 4 69 w' base v xs := h.only hO hb
theorem Own.onlyAt {w w' : World} {base b : Nat} {v : Value} {xs : List Int} (h : Own w base v xs) (hO : Only b w w') (hb : b < base) : Own w' base v xs :=
  OwnK.keep (k := .u8) (e := 5) h fun i cs hi hc => hO.rest i (by
    obtain ⟨h1, _⟩ := OwnK.block (k := .u8) (e := 5) h hi
    omega)
theorem own_one {w : World} {base : Nat} {v : Value} {xs : List Int} (h : Own w base v xs) : v.oneCell' = true := by
  obtain ⟨_, _, _, rfl, _⟩ := OwnK.open (k := .u8) (e := 5) h
  rfl
def m5 (xs : List Int) := rdMost xs 2 16 3 (o1 xs).2
def z5 (xs : List Int) := rdZ xs 2 (m5 xs).2
theorem fe_all {xs : List Int} (h : rdEnd xs (o5 xs).2 = 0) : (rdLocks xs (z5 xs) (m5 xs).1.toNat).2.e = 0 := rdEnd_e h
end Go.Proofs.YtdlcjobahdmapaaDoor

namespace Go.Proofs.YtdlcjobahdmapaaDoor
set_option linter.all false
open Go.RowKit
set_option linter.unusedVariables false
set_option maxRecDepth 100000
set_option maxHeartbeats 4000000 in
theorem RFGetAsk_any (w : World) (c : Int) (A : Option Addr) (n k : Nat) (xs : List Int) (hc : 0 ≤ c ∧ c ≤ 65535) (hx : Holds w w.heap.size A n k xs) :
    Calls Tryd.prog 23 #[.int .u16 c, .slice A n k] w (RFGAskPost w c xs) := by
  have hby := hx.byte
  have HX := Lib.hid hx
  have ZH := Lib.hid zero_ask
  have BZ := built_ask
  have HZ : Hid ((acells (.slice none 0 0) (.slice none 0 0) (.slice none 0 0) zeroAsk).length = 69) := acells_len zeroAsk_ok
  have HZ1 : Hid (∀ v ∈ acells (.slice none 0 0) (.slice none 0 0) (.slice none 0 0) zeroAsk, v.oneCell' = true) := (zeroAsk_is w 0).one
  have HZI : Hid (∀ w' : World, AskIs w' w'.heap.size (acells (.slice none 0 0) (.slice none 0 0) (.slice none 0 0) zeroAsk) zeroAsk) := fun w' => zeroAsk_is w' _
  have CK : Hid (∀ w : World, Calls Tryd.prog 37 #[.int .u16 c] w fun e w' => e = .returned (.bool (knownF c)) ∧ w = w') := fun w => RKnownF_any w c hc
  have BR : Tryd.prog.built 86 [(0, .slice A n k)] = some ([.slice A n k, .int .i64 0, .int .i64 0] : List Value).toArray := by kernel_rfl
  have HE : Hid (∀ er, fgErr c xs = er → er ≠ 0 → ∀ e w', e = .returned (.tuple #[.agg (acells (.slice none 0 0) (.slice none 0 0) (.slice none 0 0) zeroAsk).toArray, .int .i64 er]) → Below w.heap.size w w' → RFGAskPost w c xs e w') := by
    intro er h1 h2 e w' he hb
    unfold RFGAskPost fgOf
    rw [h1, if_neg h2]
    exact ⟨_, he, HZI.out w', hb⟩
  obtain ⟨zs, hzs⟩ : ∃ zs, zs = acells (.slice none 0 0) (.slice none 0 0) (.slice none 0 0) zeroAsk := ⟨_, rfl⟩
  have HZS := Lib.hid hzs
  rw [← hzs] at ZH BZ HZ HZ1 HE
  clear hzs HZI
  by_cases hk : knownF c = true
  rotate_left
  · have HQ := Lib.hid (HE.out 2 (by unfold fgErr; rw [if_neg hk]) (by decide))
    rw [show knownF c = false from by simpa using hk] at CK
    clear hk HE hx
    go_enter Tryd.func23, Tryd.ntmps23
    go_wp2_with (first
      | ((with_reducible show wpList _ _ _ (⟨some 4, _, _, _, _, _⟩ :: _) _ _); refine wpList_alloc_blk rfl _ rfl zs _ ZH ?_; intro h w1 hg1 hg2 Z1 L1)
      | fail)
    refine (CK.out _).mono ?_
    rintro e v0 ⟨rfl, rfl⟩
    go_wp2_with (first
      | ((with_reducible show wpList _ _ _ (⟨some 15, _, _, _, _, _⟩ :: _) _ _); refine wpList_build_none rfl _ rfl zs BZ ?_)
      | ((with_reducible show wpList _ _ _ (⟨none, .store _ (.tmp 4) _, _, _, _, _⟩ :: _) _ _); refine wpList_store_blk rfl _ (.tmp 4) (.tmp 15) rfl h rfl _ zs zs rfl Z1 69 size_ask HZ HZ HZ1 ?_; intro w10 K10 O10 hg10)
      | fail)
    refine bodyPost_ret (v := .tuple #[.agg zs.toArray, .int .i64 2]) ?_ rfl (HQ.out _ _ rfl (below_only L1.out O10.out (by omega)))
    exact results_cell_two rfl _ _ h _ _ (0, 0) _ rfl K10.out Tryd.underlying32 rfl (by rw [size_ask]; have := HZ.out; simp [this]) rfl
  rw [hk] at CK
  have hcs : c = 5 ∨ c = 6 ∨ c = 7 ∨ c = 8 ∨ c = 9 ∨ c = 10 := known_cases hk
  rcases hcs with h5 | h6 | h7 | h8 | h9 | h10
  · subst h5
    have D1 : Hid (∀ (w' : World) (g : Nat), RP w' g w.heap.size A n k xs rd0 → Calls Tryd.prog 53 #[.pointer (some ⟨g, 0, none⟩), .int .i64 4] w' fun e w2 => e = .returned (.int .u64 (c1 xs).1) ∧ RP w2 g w.heap.size A n k xs (c1 xs).2 ∧ Save g w' w2) := fun w' g h => rN w' g w.heap.size A n k xs _ h 4 (by decide)
    have D2 : Hid (∀ (w' : World) (g : Nat), RP w' g w.heap.size A n k xs (c1 xs).2 → Calls Tryd.prog 53 #[.pointer (some ⟨g, 0, none⟩), .int .i64 4] w' fun e w2 => e = .returned (.int .u64 (c2 xs).1) ∧ RP w2 g w.heap.size A n k xs (c2 xs).2 ∧ Save g w' w2) := fun w' g h => rN w' g w.heap.size A n k xs _ h 4 (by decide)
    have D3 : Hid (∀ (w' : World) (g : Nat), RP w' g w.heap.size A n k xs (c2 xs).2 → Calls Tryd.prog 53 #[.pointer (some ⟨g, 0, none⟩), .int .i64 4] w' fun e w2 => e = .returned (.int .u64 (c3 xs).1) ∧ RP w2 g w.heap.size A n k xs (c3 xs).2 ∧ Save g w' w2) := fun w' g h => rN w' g w.heap.size A n k xs _ h 4 (by decide)
    have D4 : Hid (∀ (w' : World) (g : Nat), RP w' g w.heap.size A n k xs (c3 xs).2 → Calls Tryd.prog 53 #[.pointer (some ⟨g, 0, none⟩), .int .i64 4] w' fun e w2 => e = .returned (.int .u64 (c4 xs).1) ∧ RP w2 g w.heap.size A n k xs (c4 xs).2 ∧ Save g w' w2) := fun w' g h => rN w' g w.heap.size A n k xs _ h 4 (by decide)
    have D5 : Hid (∀ (w' : World) (g : Nat), RP w' g w.heap.size A n k xs (c4 xs).2 → Calls Tryd.prog 53 #[.pointer (some ⟨g, 0, none⟩), .int .i64 1] w' fun e w2 => e = .returned (.int .u64 (c5 xs).1) ∧ RP w2 g w.heap.size A n k xs (c5 xs).2 ∧ Save g w' w2) := fun w' g h => rN w' g w.heap.size A n k xs _ h 1 (by decide)
    have D6 : Hid (∀ (w' : World) (g : Nat), RP w' g w.heap.size A n k xs (c5 xs).2 → Calls Tryd.prog 53 #[.pointer (some ⟨g, 0, none⟩), .int .i64 1] w' fun e w2 => e = .returned (.int .u64 (c6 xs).1) ∧ RP w2 g w.heap.size A n k xs (c6 xs).2 ∧ Save g w' w2) := fun w' g h => rN w' g w.heap.size A n k xs _ h 1 (by decide)
    have D7 : Hid (∀ (w' : World) (g : Nat), RP w' g w.heap.size A n k xs (c6 xs).2 → Calls Tryd.prog 54 #[.pointer (some ⟨g, 0, none⟩), .int .i64 2, .int .u64 0, .int .i64 5] w' fun e w2 => (∃ u, e = .returned (.int .u64 u)) ∧ RP w2 g w.heap.size A n k xs (c7 xs) ∧ Save g w' w2) := fun w' g h => (rMost w' g w.heap.size A n k xs _ h 2 0 5 (by decide)).mono fun e w2 ⟨h1, h2, h3⟩ => ⟨⟨_, h1⟩, by have e0 := rdMost_Z hby (s := 2) (r := (c6 xs).2) (by decide); exact (e0 ▸ h2 : RP w2 g w.heap.size A n k xs (rdZ xs 2 (c6 xs).2)), h3⟩
    have D8 : Hid (∀ (w' : World) (g : Nat), RP w' g w.heap.size A n k xs (c7 xs) → Calls Tryd.prog 53 #[.pointer (some ⟨g, 0, none⟩), .int .i64 8] w' fun e w2 => e = .returned (.int .u64 (c8 xs).1) ∧ RP w2 g w.heap.size A n k xs (c8 xs).2 ∧ Save g w' w2) := fun w' g h => rN w' g w.heap.size A n k xs _ h 8 (by decide)
    have D9 : Hid (∀ (w' : World) (g : Nat), RP w' g w.heap.size A n k xs (c8 xs).2 → Calls Tryd.prog 55 #[.pointer (some ⟨g, 0, none⟩)] w' fun e w2 => e = .returned (.string ⟨(c9 xs).1.toArray⟩) ∧ RP w2 g w.heap.size A n k xs (c9 xs).2 ∧ Save g w' w2) := fun w' g h => rText w' g w.heap.size A n k xs _ h hby
    have DE : Hid (∀ (w' : World) (g : Nat), RP w' g w.heap.size A n k xs (c9 xs).2 → Calls Tryd.prog 57 #[.pointer (some ⟨g, 0, none⟩)] w' fun e w2 => e = .returned (.int .i64 (rdEnd xs (c9 xs).2)) ∧ ∃ j, w'.drewN j = w2) := fun w' g h => rEnd w' g w.heap.size A n k xs _ h
    have hge : fgErr 5 xs = rdEnd xs (c9 xs).2 := by unfold fgErr; rw [if_pos hk]; rfl
    have HQ : Hid (∀ (cs : List Value) (e : Ending) (w' : World), rdEnd xs (c9 xs).2 = 0 → e = .returned (.tuple #[.agg cs.toArray, .int .i64 0]) → AskIs w' w'.heap.size cs { zeroAsk with acc := (c1 xs).1, shr := (c2 xs).1, way := (c3 xs).1, opt := (c4 xs).1, lev := (c5 xs).1, dur := (c6 xs).1, file := (c8 xs).1, name := ⟨(c9 xs).1.toArray⟩ } → Below w.heap.size w w' → RFGAskPost w 5 xs e w') := by
      intro cs e w' h0 h1 h2 h5
      have ho : fgOf 5 xs = { zeroAsk with acc := (c1 xs).1, shr := (c2 xs).1, way := (c3 xs).1, opt := (c4 xs).1, lev := (c5 xs).1, dur := (c6 xs).1, file := (c8 xs).1, name := ⟨(c9 xs).1.toArray⟩ } := by unfold fgOf; rw [hge, h0, if_pos rfl]; rfl
      unfold RFGAskPost
      rw [hge, h0, ho]
      exact ⟨cs, h1, h2, h5⟩
    have HE' := Lib.hid (HE.out _ hge)
    have zw0 : IntKind.u32.wrap (c1 xs).1 = (c1 xs).1 := by
      obtain ⟨x0, x1⟩ := rdN_lt hby 4 rd0 4294967296 (by decide) (by decide)
      change 0 ≤ (c1 xs).1 at x0
      change (c1 xs).1 ≤ _ at x1
      rw [IntKind.wrap_u32]
      omega
    have zw1 : IntKind.u32.wrap (c2 xs).1 = (c2 xs).1 := by
      obtain ⟨x0, x1⟩ := rdN_lt hby 4 (c1 xs).2 4294967296 (by decide) (by decide)
      change 0 ≤ (c2 xs).1 at x0
      change (c2 xs).1 ≤ _ at x1
      rw [IntKind.wrap_u32]
      omega
    have zw2 : IntKind.u32.wrap (c3 xs).1 = (c3 xs).1 := by
      obtain ⟨x0, x1⟩ := rdN_lt hby 4 (c2 xs).2 4294967296 (by decide) (by decide)
      change 0 ≤ (c3 xs).1 at x0
      change (c3 xs).1 ≤ _ at x1
      rw [IntKind.wrap_u32]
      omega
    have zw3 : IntKind.u32.wrap (c4 xs).1 = (c4 xs).1 := by
      obtain ⟨x0, x1⟩ := rdN_lt hby 4 (c3 xs).2 4294967296 (by decide) (by decide)
      change 0 ≤ (c4 xs).1 at x0
      change (c4 xs).1 ≤ _ at x1
      rw [IntKind.wrap_u32]
      omega
    have zw4 : IntKind.u8.wrap (c5 xs).1 = (c5 xs).1 := by
      obtain ⟨x0, x1⟩ := rdN_lt hby 1 (c4 xs).2 256 (by decide) (by decide)
      change 0 ≤ (c5 xs).1 at x0
      change (c5 xs).1 ≤ _ at x1
      rw [IntKind.wrap_u8]
      omega
    have zw5 : IntKind.u8.wrap (c6 xs).1 = (c6 xs).1 := by
      obtain ⟨x0, x1⟩ := rdN_lt hby 1 (c5 xs).2 256 (by decide) (by decide)
      change 0 ≤ (c6 xs).1 at x0
      change (c6 xs).1 ≤ _ at x1
      rw [IntKind.wrap_u8]
      omega
    obtain ⟨er, her⟩ : ∃ x, x = rdEnd xs (c9 xs).2 := ⟨_, rfl⟩
    rw [← her] at DE HQ HE'
    obtain ⟨q1, hq1⟩ : ∃ x, x = (c1 xs) := ⟨_, rfl⟩
    rw [← hq1] at D1 D2 HQ zw0
    obtain ⟨q2, hq2⟩ : ∃ x, x = (c2 xs) := ⟨_, rfl⟩
    rw [← hq2] at D2 D3 HQ zw1
    obtain ⟨q3, hq3⟩ : ∃ x, x = (c3 xs) := ⟨_, rfl⟩
    rw [← hq3] at D3 D4 HQ zw2
    obtain ⟨q4, hq4⟩ : ∃ x, x = (c4 xs) := ⟨_, rfl⟩
    rw [← hq4] at D4 D5 HQ zw3
    obtain ⟨q5, hq5⟩ : ∃ x, x = (c5 xs) := ⟨_, rfl⟩
    rw [← hq5] at D5 D6 HQ zw4
    obtain ⟨q6, hq6⟩ : ∃ x, x = (c6 xs) := ⟨_, rfl⟩
    rw [← hq6] at D6 D7 HQ zw5
    obtain ⟨q7, hq7⟩ : ∃ x, x = (c7 xs) := ⟨_, rfl⟩
    rw [← hq7] at D7 D8
    obtain ⟨q8, hq8⟩ : ∃ x, x = (c8 xs) := ⟨_, rfl⟩
    rw [← hq8] at D8 D9 HQ
    obtain ⟨q9, hq9⟩ : ∃ x, x = (c9 xs) := ⟨_, rfl⟩
    rw [← hq9] at D9 DE HQ
    clear her hge HE hk hx hq1 hq2 hq3 hq4 hq5 hq6 hq7 hq8 hq9
    go_enter Tryd.func23, Tryd.ntmps23
    go_wp2_with (first
      | ((with_reducible show wpList _ _ _ (⟨some 4, _, _, _, _, _⟩ :: _) _ _); refine wpList_alloc_blk rfl _ rfl zs _ ZH ?_; intro h w1 hg1 hg2 Z1 L1)
      | fail)
    refine (CK.out _).mono ?_
    rintro e v0 ⟨rfl, rfl⟩
    go_wp2_with (first
      | ((with_reducible show wpList _ _ _ (⟨some 17, _, _, _, _, _⟩ :: _) _ _); refine wpList_build_blk rfl _ _ rfl ([.slice A n k, .int .i64 0, .int .i64 0] : List Value) (by refine Eq.trans ?_ BR; kernel_rfl) ?_)
      | ((with_reducible show wpList _ _ _ (⟨some 18, _, _, _, _, _⟩ :: _) _ _); refine wpList_box_blk rfl _ (.tmp 17) rfl ([.slice A n k, .int .i64 0, .int .i64 0] : List Value) rfl ?_; intro g w2 hg3 hg4 R2 L02; have Z2 := Lib.hid (Z1.out.over L02.out); have L2 := Lib.hid (step L1.out L02.out); have hhg : h ≠ g := (by omega); have hwg : w.heap.size ≤ g := (by have := L1.out.size; omega))
      | ((with_reducible show wpList _ _ _ (⟨some 7, _, _, _, _, _⟩ :: _) _ _); refine wpList_alloc_blk rfl _ rfl zs _ ZH ?_; intro a w4 hg5 hg6 K4 L03; have R4 := Lib.hid (R2.out.over L03.out); have Z4 := Lib.hid (Z2.out.over L03.out); have L4 := Lib.hid (step L2.out L03.out); have hag : a ≠ g := (by have := R2.out.lt; omega); have hha : h ≠ a := (by have := Z2.out.lt; omega); have hwa : w.heap.size ≤ a := (by have := L2.out.size; omega))
      | fail)
    have P4 : Hid (RP w4 g w.heap.size A n k xs rd0) := ⟨R4.out, HX.out.below L4.out, hwg, Nat.zero_le _⟩
    clear R4 R2 L02 L03 Z1 Z2 L1 L2 HX CK
    refine (D1.out w4 g P4.out).mono ?_
    rintro e v1 ⟨rfl, hP, hS⟩
    have Pc1 := Lib.hid hP
    have Zc1 := Lib.hid (Z4.out.save hS hhg)
    have Kc1 := Lib.hid (K4.out.save hS hag)
    have Lc1 := Lib.hid (L4.out.trans (hS.below hwg L4.out.size))
    clear hP hS P4 Z4 K4 L4
    go_wp2_with (first
      | ((with_reducible show wpList _ _ _ (⟨none, .store _ (.tmp 24) _, _, _, _, _⟩ :: _) _ _); refine wpList_store_fld rfl _ (.tmp 24) (.tmp 23) rfl a 51 rfl _ zs (.int .u32 q1.1) rfl Kc1 (Lib.hid (by have := HZ.out; omega)) (by kernel_rfl) rfl ?_; intro x1 Ks1 Os1 hqs1; obtain ⟨C1, hC1⟩ : ∃ x, x = zs.set 51 (.int .u32 q1.1) := ⟨_, rfl⟩; have HC1 := Lib.hid hC1; have HL1 : Hid (C1.length = 69) := (by rw [hC1, List.length_set]; exact HZ.out); rw [← hC1] at Ks1; have Zs1 := Lib.hid (Zc1.out.only Os1.out hha); have Ps1 := Lib.hid (Pc1.out.only Os1.out (Ne.symm hag) hwa); have Ls1 := Lib.hid (below_only Lc1.out Os1.out hwa); clear hC1)
      | fail)
    refine (D2.out x1 g Ps1.out).mono ?_
    rintro e v2 ⟨rfl, hP, hS⟩
    have Pc2 := Lib.hid hP
    have Zc2 := Lib.hid (Zs1.out.save hS hhg)
    have Kc2 := Lib.hid (Ks1.out.save hS hag)
    have Lc2 := Lib.hid (Ls1.out.trans (hS.below hwg Ls1.out.size))
    clear hP hS Ps1 Zs1 Ks1 Ls1
    go_wp2_with (first
      | ((with_reducible show wpList _ _ _ (⟨none, .store _ (.tmp 28) _, _, _, _, _⟩ :: _) _ _); refine wpList_store_fld rfl _ (.tmp 28) (.tmp 27) rfl a 52 rfl _ C1 (.int .u32 q2.1) rfl Kc2 (Lib.hid (by have := HL1.out; omega)) (by kernel_rfl) rfl ?_; intro x2 Ks2 Os2 hqs2; obtain ⟨C2, hC2⟩ : ∃ x, x = C1.set 52 (.int .u32 q2.1) := ⟨_, rfl⟩; have HC2 := Lib.hid hC2; have HL2 : Hid (C2.length = 69) := (by rw [hC2, List.length_set]; exact HL1.out); rw [← hC2] at Ks2; have Zs2 := Lib.hid (Zc2.out.only Os2.out hha); have Ps2 := Lib.hid (Pc2.out.only Os2.out (Ne.symm hag) hwa); have Ls2 := Lib.hid (below_only Lc2.out Os2.out hwa); clear hC2)
      | fail)
    refine (D3.out x2 g Ps2.out).mono ?_
    rintro e v3 ⟨rfl, hP, hS⟩
    have Pc3 := Lib.hid hP
    have Zc3 := Lib.hid (Zs2.out.save hS hhg)
    have Kc3 := Lib.hid (Ks2.out.save hS hag)
    have Lc3 := Lib.hid (Ls2.out.trans (hS.below hwg Ls2.out.size))
    clear hP hS Ps2 Zs2 Ks2 Ls2
    go_wp2_with (first
      | ((with_reducible show wpList _ _ _ (⟨none, .store _ (.tmp 32) _, _, _, _, _⟩ :: _) _ _); refine wpList_store_fld rfl _ (.tmp 32) (.tmp 31) rfl a 53 rfl _ C2 (.int .u32 q3.1) rfl Kc3 (Lib.hid (by have := HL2.out; omega)) (by kernel_rfl) rfl ?_; intro x3 Ks3 Os3 hqs3; obtain ⟨C3, hC3⟩ : ∃ x, x = C2.set 53 (.int .u32 q3.1) := ⟨_, rfl⟩; have HC3 := Lib.hid hC3; have HL3 : Hid (C3.length = 69) := (by rw [hC3, List.length_set]; exact HL2.out); rw [← hC3] at Ks3; have Zs3 := Lib.hid (Zc3.out.only Os3.out hha); have Ps3 := Lib.hid (Pc3.out.only Os3.out (Ne.symm hag) hwa); have Ls3 := Lib.hid (below_only Lc3.out Os3.out hwa); clear hC3)
      | fail)
    refine (D4.out x3 g Ps3.out).mono ?_
    rintro e v4 ⟨rfl, hP, hS⟩
    have Pc4 := Lib.hid hP
    have Zc4 := Lib.hid (Zs3.out.save hS hhg)
    have Kc4 := Lib.hid (Ks3.out.save hS hag)
    have Lc4 := Lib.hid (Ls3.out.trans (hS.below hwg Ls3.out.size))
    clear hP hS Ps3 Zs3 Ks3 Ls3
    go_wp2_with (first
      | ((with_reducible show wpList _ _ _ (⟨none, .store _ (.tmp 36) _, _, _, _, _⟩ :: _) _ _); refine wpList_store_fld rfl _ (.tmp 36) (.tmp 35) rfl a 54 rfl _ C3 (.int .u32 q4.1) rfl Kc4 (Lib.hid (by have := HL3.out; omega)) (by kernel_rfl) rfl ?_; intro x4 Ks4 Os4 hqs4; obtain ⟨C4, hC4⟩ : ∃ x, x = C3.set 54 (.int .u32 q4.1) := ⟨_, rfl⟩; have HC4 := Lib.hid hC4; have HL4 : Hid (C4.length = 69) := (by rw [hC4, List.length_set]; exact HL3.out); rw [← hC4] at Ks4; have Zs4 := Lib.hid (Zc4.out.only Os4.out hha); have Ps4 := Lib.hid (Pc4.out.only Os4.out (Ne.symm hag) hwa); have Ls4 := Lib.hid (below_only Lc4.out Os4.out hwa); clear hC4)
      | fail)
    refine (D5.out x4 g Ps4.out).mono ?_
    rintro e v5 ⟨rfl, hP, hS⟩
    have Pc5 := Lib.hid hP
    have Zc5 := Lib.hid (Zs4.out.save hS hhg)
    have Kc5 := Lib.hid (Ks4.out.save hS hag)
    have Lc5 := Lib.hid (Ls4.out.trans (hS.below hwg Ls4.out.size))
    clear hP hS Ps4 Zs4 Ks4 Ls4
    go_wp2_with (first
      | ((with_reducible show wpList _ _ _ (⟨none, .store _ (.tmp 40) _, _, _, _, _⟩ :: _) _ _); refine wpList_store_fld rfl _ (.tmp 40) (.tmp 39) rfl a 55 rfl _ C4 (.int .u8 q5.1) rfl Kc5 (Lib.hid (by have := HL4.out; omega)) (by kernel_rfl) rfl ?_; intro x5 Ks5 Os5 hqs5; obtain ⟨C5, hC5⟩ : ∃ x, x = C4.set 55 (.int .u8 q5.1) := ⟨_, rfl⟩; have HC5 := Lib.hid hC5; have HL5 : Hid (C5.length = 69) := (by rw [hC5, List.length_set]; exact HL4.out); rw [← hC5] at Ks5; have Zs5 := Lib.hid (Zc5.out.only Os5.out hha); have Ps5 := Lib.hid (Pc5.out.only Os5.out (Ne.symm hag) hwa); have Ls5 := Lib.hid (below_only Lc5.out Os5.out hwa); clear hC5)
      | fail)
    refine (D6.out x5 g Ps5.out).mono ?_
    rintro e v6 ⟨rfl, hP, hS⟩
    have Pc6 := Lib.hid hP
    have Zc6 := Lib.hid (Zs5.out.save hS hhg)
    have Kc6 := Lib.hid (Ks5.out.save hS hag)
    have Lc6 := Lib.hid (Ls5.out.trans (hS.below hwg Ls5.out.size))
    clear hP hS Ps5 Zs5 Ks5 Ls5
    go_wp2_with (first
      | ((with_reducible show wpList _ _ _ (⟨none, .store _ (.tmp 44) _, _, _, _, _⟩ :: _) _ _); refine wpList_store_fld rfl _ (.tmp 44) (.tmp 43) rfl a 56 rfl _ C5 (.int .u8 q6.1) rfl Kc6 (Lib.hid (by have := HL5.out; omega)) (by kernel_rfl) rfl ?_; intro x6 Ks6 Os6 hqs6; obtain ⟨C6, hC6⟩ : ∃ x, x = C5.set 56 (.int .u8 q6.1) := ⟨_, rfl⟩; have HC6 := Lib.hid hC6; have HL6 : Hid (C6.length = 69) := (by rw [hC6, List.length_set]; exact HL5.out); rw [← hC6] at Ks6; have Zs6 := Lib.hid (Zc6.out.only Os6.out hha); have Ps6 := Lib.hid (Pc6.out.only Os6.out (Ne.symm hag) hwa); have Ls6 := Lib.hid (below_only Lc6.out Os6.out hwa); clear hC6)
      | fail)
    refine (D7.out x6 g Ps6.out).mono ?_
    rintro e v7 ⟨⟨u7, rfl⟩, hP, hS⟩
    have Pc7 := Lib.hid hP
    have Zc7 := Lib.hid (Zs6.out.save hS hhg)
    have Kc7 := Lib.hid (Ks6.out.save hS hag)
    have Lc7 := Lib.hid (Ls6.out.trans (hS.below hwg Ls6.out.size))
    clear hP hS Ps6 Zs6 Ks6 Ls6
    go_wp2_with fail
    refine (D8.out v7 g Pc7.out).mono ?_
    rintro e v8 ⟨rfl, hP, hS⟩
    have Pc8 := Lib.hid hP
    have Zc8 := Lib.hid (Zc7.out.save hS hhg)
    have Kc8 := Lib.hid (Kc7.out.save hS hag)
    have Lc8 := Lib.hid (Lc7.out.trans (hS.below hwg Lc7.out.size))
    clear hP hS Pc7 Zc7 Kc7 Lc7
    go_wp2_with (first
      | ((with_reducible show wpList _ _ _ (⟨none, .store _ (.tmp 49) _, _, _, _, _⟩ :: _) _ _); refine wpList_store_fld rfl _ (.tmp 49) (.tmp 48) rfl a 57 rfl _ C6 (.int .u64 q8.1) rfl Kc8 (Lib.hid (by have := HL6.out; omega)) (by kernel_rfl) rfl ?_; intro x7 Ks7 Os7 hqs7; obtain ⟨C7, hC7⟩ : ∃ x, x = C6.set 57 (.int .u64 q8.1) := ⟨_, rfl⟩; have HC7 := Lib.hid hC7; have HL7 : Hid (C7.length = 69) := (by rw [hC7, List.length_set]; exact HL6.out); rw [← hC7] at Ks7; have Zs7 := Lib.hid (Zc8.out.only Os7.out hha); have Ps7 := Lib.hid (Pc8.out.only Os7.out (Ne.symm hag) hwa); have Ls7 := Lib.hid (below_only Lc8.out Os7.out hwa); clear hC7)
      | fail)
    refine (D9.out x7 g Ps7.out).mono ?_
    rintro e v9 ⟨rfl, hP, hS⟩
    have Pc9 := Lib.hid hP
    have Zc9 := Lib.hid (Zs7.out.save hS hhg)
    have Kc9 := Lib.hid (Ks7.out.save hS hag)
    have Lc9 := Lib.hid (Ls7.out.trans (hS.below hwg Ls7.out.size))
    clear hP hS Ps7 Zs7 Ks7 Ls7
    go_wp2_with (first
      | ((with_reducible show wpList _ _ _ (⟨none, .store _ (.tmp 55) _, _, _, _, _⟩ :: _) _ _); refine wpList_store_fld rfl _ (.tmp 55) (.tmp 54) rfl a 58 rfl _ C7 (.string ⟨q9.1.toArray⟩) rfl Kc9 (Lib.hid (by have := HL7.out; omega)) (by kernel_rfl) rfl ?_; intro x8 Ks8 Os8 hqs8; obtain ⟨C8, hC8⟩ : ∃ x, x = C7.set 58 (.string ⟨q9.1.toArray⟩) := ⟨_, rfl⟩; have HC8 := Lib.hid hC8; have HL8 : Hid (C8.length = 69) := (by rw [hC8, List.length_set]; exact HL7.out); rw [← hC8] at Ks8; have Zs8 := Lib.hid (Zc9.out.only Os8.out hha); have Ps8 := Lib.hid (Pc9.out.only Os8.out (Ne.symm hag) hwa); have Ls8 := Lib.hid (below_only Lc9.out Os8.out hwa); clear hC8)
      | fail)
    refine (DE.out x8 g Ps8.out).mono ?_
    rintro e we ⟨rfl, kk, rfl⟩
    have Ze := Lib.hid (Blk.drewN Zs8.out kk)
    have Ke := Lib.hid (Blk.drewN Ks8.out kk)
    have Le : Hid (Below w.heap.size w (x8.drewN kk)) := step Ls8.out (drewed _ kk)
    obtain ⟨wq, hwq⟩ : ∃ wq, wq = x8.drewN kk := ⟨_, rfl⟩
    have HWQ := Lib.hid hwq
    rw [← hwq] at Ze Ke Le ⊢
    clear hwq
    by_cases he : er = 0
    rotate_left
    · have hne : (er != 0) = true := by simpa using he
      have HN := Lib.hid (HE'.out he)
      clear he HE' HQ
      go_wp2_with (first
        | ((with_reducible show wpList _ _ _ (⟨some 113, _, _, _, _, _⟩ :: _) _ _); refine wpList_build_none rfl _ rfl zs BZ ?_)
        | ((with_reducible show wpList _ _ _ (⟨none, .store _ (.tmp 4) _, _, _, _, _⟩ :: _) _ _); refine wpList_store_blk rfl _ (.tmp 4) (.tmp 113) rfl h rfl _ zs zs rfl Ze 69 size_ask HZ HZ HZ1 ?_; intro w10 K10 O10 hg10)
        | fail)
      refine bodyPost_ret (v := .tuple #[.agg zs.toArray, .int .i64 er]) ?_ rfl (HN.out _ _ rfl (below_only Le.out O10.out (by omega)))
      exact results_cell_two rfl _ _ h _ _ (0, 0) _ rfl K10.out Tryd.underlying32 rfl (by rw [size_ask]; have := HZ.out; simp [this]) rfl
    · subst he
      have HEQ : Hid (C8 = acells (.slice none 0 0) (.slice none 0 0) (.slice none 0 0) { zeroAsk with acc := q1.1, shr := q2.1, way := q3.1, opt := q4.1, lev := q5.1, dur := q6.1, file := q8.1, name := ⟨q9.1.toArray⟩ }) := by
        show _ = _
        rw [HC8.out, HC7.out, HC6.out, HC5.out, HC4.out, HC3.out, HC2.out, HC1.out, HZS.out]
        rfl
      have H1C : Hid (∀ qv ∈ C8, qv.oneCell' = true) := by
        show _
        rw [HEQ.out]
        exact acells_one rfl rfl rfl
      go_wp2_with (first
        | ((with_reducible show wpList _ _ _ (⟨some 115, _, _, _, _, _⟩ :: _) _ _); refine wpList_load_blk rfl _ (.tmp 7) rfl a rfl _ C8 Ke 69 _ Tryd.underlying32 rfl size_ask HL8 ?_)
        | ((with_reducible show wpList _ _ _ (⟨none, .store _ (.tmp 4) _, _, _, _, _⟩ :: _) _ _); refine wpList_store_blk rfl _ (.tmp 4) (.tmp 115) rfl h rfl _ zs C8 rfl Ze 69 size_ask HZ HL8 H1C ?_; intro w10 K10 O10 hg10)
        | fail)
      refine bodyPost_ret (v := .tuple #[.agg C8.toArray, .int .i64 0]) ?_ rfl ?_
      · exact results_cell_two rfl _ _ h _ _ (0, 0) _ rfl K10.out Tryd.underlying32 rfl (by rw [size_ask]; have := HL8.out; simp [this]) rfl
      · have LF : Below w.heap.size w w10 := below_only Le.out O10.out (by omega)
        exact HQ.out C8 _ _ (by trivial) rfl ⟨none, 0, 0, none, 0, 0, none, 0, 0, by rw [HEQ.out], HoldsF.nil _ _ _, Holds.nil _ _, HoldsS.nil _ _ _ _⟩ LF
  · subst h6
    have D1 : Hid (∀ (w' : World) (g : Nat), RP w' g w.heap.size A n k xs rd0 → Calls Tryd.prog 53 #[.pointer (some ⟨g, 0, none⟩), .int .i64 8] w' fun e w2 => e = .returned (.int .u64 (o1 xs).1) ∧ RP w2 g w.heap.size A n k xs (o1 xs).2 ∧ Save g w' w2) := fun w' g h => rN w' g w.heap.size A n k xs _ h 8 (by decide)
    have DE : Hid (∀ (w' : World) (g : Nat), RP w' g w.heap.size A n k xs (o1 xs).2 → Calls Tryd.prog 57 #[.pointer (some ⟨g, 0, none⟩)] w' fun e w2 => e = .returned (.int .i64 (rdEnd xs (o1 xs).2)) ∧ ∃ j, w'.drewN j = w2) := fun w' g h => rEnd w' g w.heap.size A n k xs _ h
    have hge : fgErr 6 xs = rdEnd xs (o1 xs).2 := by unfold fgErr; rw [if_pos hk]; rfl
    have HQ : Hid (∀ (cs : List Value) (e : Ending) (w' : World), rdEnd xs (o1 xs).2 = 0 → e = .returned (.tuple #[.agg cs.toArray, .int .i64 0]) → AskIs w' w'.heap.size cs { zeroAsk with file := (o1 xs).1 } → Below w.heap.size w w' → RFGAskPost w 6 xs e w') := by
      intro cs e w' h0 h1 h2 h5
      have ho : fgOf 6 xs = { zeroAsk with file := (o1 xs).1 } := by unfold fgOf; rw [hge, h0, if_pos rfl]; rfl
      unfold RFGAskPost
      rw [hge, h0, ho]
      exact ⟨cs, h1, h2, h5⟩
    have HE' := Lib.hid (HE.out _ hge)
    obtain ⟨er, her⟩ : ∃ x, x = rdEnd xs (o1 xs).2 := ⟨_, rfl⟩
    rw [← her] at DE HQ HE'
    obtain ⟨q1, hq1⟩ : ∃ x, x = (o1 xs) := ⟨_, rfl⟩
    rw [← hq1] at D1 DE HQ
    clear her hge HE hk hx hq1
    go_enter Tryd.func23, Tryd.ntmps23
    go_wp2_with (first
      | ((with_reducible show wpList _ _ _ (⟨some 4, _, _, _, _, _⟩ :: _) _ _); refine wpList_alloc_blk rfl _ rfl zs _ ZH ?_; intro h w1 hg1 hg2 Z1 L1)
      | fail)
    refine (CK.out _).mono ?_
    rintro e v0 ⟨rfl, rfl⟩
    go_wp2_with (first
      | ((with_reducible show wpList _ _ _ (⟨some 17, _, _, _, _, _⟩ :: _) _ _); refine wpList_build_blk rfl _ _ rfl ([.slice A n k, .int .i64 0, .int .i64 0] : List Value) (by refine Eq.trans ?_ BR; kernel_rfl) ?_)
      | ((with_reducible show wpList _ _ _ (⟨some 18, _, _, _, _, _⟩ :: _) _ _); refine wpList_box_blk rfl _ (.tmp 17) rfl ([.slice A n k, .int .i64 0, .int .i64 0] : List Value) rfl ?_; intro g w2 hg3 hg4 R2 L02; have Z2 := Lib.hid (Z1.out.over L02.out); have L2 := Lib.hid (step L1.out L02.out); have hhg : h ≠ g := (by omega); have hwg : w.heap.size ≤ g := (by have := L1.out.size; omega))
      | ((with_reducible show wpList _ _ _ (⟨some 7, _, _, _, _, _⟩ :: _) _ _); refine wpList_alloc_blk rfl _ rfl zs _ ZH ?_; intro a w4 hg5 hg6 K4 L03; have R4 := Lib.hid (R2.out.over L03.out); have Z4 := Lib.hid (Z2.out.over L03.out); have L4 := Lib.hid (step L2.out L03.out); have hag : a ≠ g := (by have := R2.out.lt; omega); have hha : h ≠ a := (by have := Z2.out.lt; omega); have hwa : w.heap.size ≤ a := (by have := L2.out.size; omega))
      | fail)
    have P4 : Hid (RP w4 g w.heap.size A n k xs rd0) := ⟨R4.out, HX.out.below L4.out, hwg, Nat.zero_le _⟩
    clear R4 R2 L02 L03 Z1 Z2 L1 L2 HX CK
    refine (D1.out w4 g P4.out).mono ?_
    rintro e v1 ⟨rfl, hP, hS⟩
    have Pc1 := Lib.hid hP
    have Zc1 := Lib.hid (Z4.out.save hS hhg)
    have Kc1 := Lib.hid (K4.out.save hS hag)
    have Lc1 := Lib.hid (L4.out.trans (hS.below hwg L4.out.size))
    clear hP hS P4 Z4 K4 L4
    go_wp2_with (first
      | ((with_reducible show wpList _ _ _ (⟨none, .store _ (.tmp 49) _, _, _, _, _⟩ :: _) _ _); refine wpList_store_fld rfl _ (.tmp 49) (.tmp 48) rfl a 57 rfl _ zs (.int .u64 q1.1) rfl Kc1 (Lib.hid (by have := HZ.out; omega)) (by kernel_rfl) rfl ?_; intro x1 Ks1 Os1 hqs1; obtain ⟨C1, hC1⟩ : ∃ x, x = zs.set 57 (.int .u64 q1.1) := ⟨_, rfl⟩; have HC1 := Lib.hid hC1; have HL1 : Hid (C1.length = 69) := (by rw [hC1, List.length_set]; exact HZ.out); rw [← hC1] at Ks1; have Zs1 := Lib.hid (Zc1.out.only Os1.out hha); have Ps1 := Lib.hid (Pc1.out.only Os1.out (Ne.symm hag) hwa); have Ls1 := Lib.hid (below_only Lc1.out Os1.out hwa); clear hC1)
      | fail)
    refine (DE.out x1 g Ps1.out).mono ?_
    rintro e we ⟨rfl, kk, rfl⟩
    have Ze := Lib.hid (Blk.drewN Zs1.out kk)
    have Ke := Lib.hid (Blk.drewN Ks1.out kk)
    have Le : Hid (Below w.heap.size w (x1.drewN kk)) := step Ls1.out (drewed _ kk)
    obtain ⟨wq, hwq⟩ : ∃ wq, wq = x1.drewN kk := ⟨_, rfl⟩
    have HWQ := Lib.hid hwq
    rw [← hwq] at Ze Ke Le ⊢
    clear hwq
    by_cases he : er = 0
    rotate_left
    · have hne : (er != 0) = true := by simpa using he
      have HN := Lib.hid (HE'.out he)
      clear he HE' HQ
      go_wp2_with (first
        | ((with_reducible show wpList _ _ _ (⟨some 113, _, _, _, _, _⟩ :: _) _ _); refine wpList_build_none rfl _ rfl zs BZ ?_)
        | ((with_reducible show wpList _ _ _ (⟨none, .store _ (.tmp 4) _, _, _, _, _⟩ :: _) _ _); refine wpList_store_blk rfl _ (.tmp 4) (.tmp 113) rfl h rfl _ zs zs rfl Ze 69 size_ask HZ HZ HZ1 ?_; intro w10 K10 O10 hg10)
        | fail)
      refine bodyPost_ret (v := .tuple #[.agg zs.toArray, .int .i64 er]) ?_ rfl (HN.out _ _ rfl (below_only Le.out O10.out (by omega)))
      exact results_cell_two rfl _ _ h _ _ (0, 0) _ rfl K10.out Tryd.underlying32 rfl (by rw [size_ask]; have := HZ.out; simp [this]) rfl
    · subst he
      have HEQ : Hid (C1 = acells (.slice none 0 0) (.slice none 0 0) (.slice none 0 0) { zeroAsk with file := q1.1 }) := by
        show _ = _
        rw [HC1.out, HZS.out]
        rfl
      have H1C : Hid (∀ qv ∈ C1, qv.oneCell' = true) := by
        show _
        rw [HEQ.out]
        exact acells_one rfl rfl rfl
      go_wp2_with (first
        | ((with_reducible show wpList _ _ _ (⟨some 115, _, _, _, _, _⟩ :: _) _ _); refine wpList_load_blk rfl _ (.tmp 7) rfl a rfl _ C1 Ke 69 _ Tryd.underlying32 rfl size_ask HL1 ?_)
        | ((with_reducible show wpList _ _ _ (⟨none, .store _ (.tmp 4) _, _, _, _, _⟩ :: _) _ _); refine wpList_store_blk rfl _ (.tmp 4) (.tmp 115) rfl h rfl _ zs C1 rfl Ze 69 size_ask HZ HL1 H1C ?_; intro w10 K10 O10 hg10)
        | fail)
      refine bodyPost_ret (v := .tuple #[.agg C1.toArray, .int .i64 0]) ?_ rfl ?_
      · exact results_cell_two rfl _ _ h _ _ (0, 0) _ rfl K10.out Tryd.underlying32 rfl (by rw [size_ask]; have := HL1.out; simp [this]) rfl
      · have LF : Below w.heap.size w w10 := below_only Le.out O10.out (by omega)
        exact HQ.out C1 _ _ (by trivial) rfl ⟨none, 0, 0, none, 0, 0, none, 0, 0, by rw [HEQ.out], HoldsF.nil _ _ _, Holds.nil _ _, HoldsS.nil _ _ _ _⟩ LF
  · subst h7
    have D1 : Hid (∀ (w' : World) (g : Nat), RP w' g w.heap.size A n k xs rd0 → Calls Tryd.prog 53 #[.pointer (some ⟨g, 0, none⟩), .int .i64 8] w' fun e w2 => e = .returned (.int .u64 (o1 xs).1) ∧ RP w2 g w.heap.size A n k xs (o1 xs).2 ∧ Save g w' w2) := fun w' g h => rN w' g w.heap.size A n k xs _ h 8 (by decide)
    have DE : Hid (∀ (w' : World) (g : Nat), RP w' g w.heap.size A n k xs (o1 xs).2 → Calls Tryd.prog 57 #[.pointer (some ⟨g, 0, none⟩)] w' fun e w2 => e = .returned (.int .i64 (rdEnd xs (o1 xs).2)) ∧ ∃ j, w'.drewN j = w2) := fun w' g h => rEnd w' g w.heap.size A n k xs _ h
    have hge : fgErr 7 xs = rdEnd xs (o1 xs).2 := by unfold fgErr; rw [if_pos hk]; rfl
    have HQ : Hid (∀ (cs : List Value) (e : Ending) (w' : World), rdEnd xs (o1 xs).2 = 0 → e = .returned (.tuple #[.agg cs.toArray, .int .i64 0]) → AskIs w' w'.heap.size cs { zeroAsk with file := (o1 xs).1 } → Below w.heap.size w w' → RFGAskPost w 7 xs e w') := by
      intro cs e w' h0 h1 h2 h5
      have ho : fgOf 7 xs = { zeroAsk with file := (o1 xs).1 } := by unfold fgOf; rw [hge, h0, if_pos rfl]; rfl
      unfold RFGAskPost
      rw [hge, h0, ho]
      exact ⟨cs, h1, h2, h5⟩
    have HE' := Lib.hid (HE.out _ hge)
    obtain ⟨er, her⟩ : ∃ x, x = rdEnd xs (o1 xs).2 := ⟨_, rfl⟩
    rw [← her] at DE HQ HE'
    obtain ⟨q1, hq1⟩ : ∃ x, x = (o1 xs) := ⟨_, rfl⟩
    rw [← hq1] at D1 DE HQ
    clear her hge HE hk hx hq1
    go_enter Tryd.func23, Tryd.ntmps23
    go_wp2_with (first
      | ((with_reducible show wpList _ _ _ (⟨some 4, _, _, _, _, _⟩ :: _) _ _); refine wpList_alloc_blk rfl _ rfl zs _ ZH ?_; intro h w1 hg1 hg2 Z1 L1)
      | fail)
    refine (CK.out _).mono ?_
    rintro e v0 ⟨rfl, rfl⟩
    go_wp2_with (first
      | ((with_reducible show wpList _ _ _ (⟨some 17, _, _, _, _, _⟩ :: _) _ _); refine wpList_build_blk rfl _ _ rfl ([.slice A n k, .int .i64 0, .int .i64 0] : List Value) (by refine Eq.trans ?_ BR; kernel_rfl) ?_)
      | ((with_reducible show wpList _ _ _ (⟨some 18, _, _, _, _, _⟩ :: _) _ _); refine wpList_box_blk rfl _ (.tmp 17) rfl ([.slice A n k, .int .i64 0, .int .i64 0] : List Value) rfl ?_; intro g w2 hg3 hg4 R2 L02; have Z2 := Lib.hid (Z1.out.over L02.out); have L2 := Lib.hid (step L1.out L02.out); have hhg : h ≠ g := (by omega); have hwg : w.heap.size ≤ g := (by have := L1.out.size; omega))
      | ((with_reducible show wpList _ _ _ (⟨some 7, _, _, _, _, _⟩ :: _) _ _); refine wpList_alloc_blk rfl _ rfl zs _ ZH ?_; intro a w4 hg5 hg6 K4 L03; have R4 := Lib.hid (R2.out.over L03.out); have Z4 := Lib.hid (Z2.out.over L03.out); have L4 := Lib.hid (step L2.out L03.out); have hag : a ≠ g := (by have := R2.out.lt; omega); have hha : h ≠ a := (by have := Z2.out.lt; omega); have hwa : w.heap.size ≤ a := (by have := L2.out.size; omega))
      | fail)
    have P4 : Hid (RP w4 g w.heap.size A n k xs rd0) := ⟨R4.out, HX.out.below L4.out, hwg, Nat.zero_le _⟩
    clear R4 R2 L02 L03 Z1 Z2 L1 L2 HX CK
    refine (D1.out w4 g P4.out).mono ?_
    rintro e v1 ⟨rfl, hP, hS⟩
    have Pc1 := Lib.hid hP
    have Zc1 := Lib.hid (Z4.out.save hS hhg)
    have Kc1 := Lib.hid (K4.out.save hS hag)
    have Lc1 := Lib.hid (L4.out.trans (hS.below hwg L4.out.size))
    clear hP hS P4 Z4 K4 L4
    go_wp2_with (first
      | ((with_reducible show wpList _ _ _ (⟨none, .store _ (.tmp 49) _, _, _, _, _⟩ :: _) _ _); refine wpList_store_fld rfl _ (.tmp 49) (.tmp 48) rfl a 57 rfl _ zs (.int .u64 q1.1) rfl Kc1 (Lib.hid (by have := HZ.out; omega)) (by kernel_rfl) rfl ?_; intro x1 Ks1 Os1 hqs1; obtain ⟨C1, hC1⟩ : ∃ x, x = zs.set 57 (.int .u64 q1.1) := ⟨_, rfl⟩; have HC1 := Lib.hid hC1; have HL1 : Hid (C1.length = 69) := (by rw [hC1, List.length_set]; exact HZ.out); rw [← hC1] at Ks1; have Zs1 := Lib.hid (Zc1.out.only Os1.out hha); have Ps1 := Lib.hid (Pc1.out.only Os1.out (Ne.symm hag) hwa); have Ls1 := Lib.hid (below_only Lc1.out Os1.out hwa); clear hC1)
      | fail)
    refine (DE.out x1 g Ps1.out).mono ?_
    rintro e we ⟨rfl, kk, rfl⟩
    have Ze := Lib.hid (Blk.drewN Zs1.out kk)
    have Ke := Lib.hid (Blk.drewN Ks1.out kk)
    have Le : Hid (Below w.heap.size w (x1.drewN kk)) := step Ls1.out (drewed _ kk)
    obtain ⟨wq, hwq⟩ : ∃ wq, wq = x1.drewN kk := ⟨_, rfl⟩
    have HWQ := Lib.hid hwq
    rw [← hwq] at Ze Ke Le ⊢
    clear hwq
    by_cases he : er = 0
    rotate_left
    · have hne : (er != 0) = true := by simpa using he
      have HN := Lib.hid (HE'.out he)
      clear he HE' HQ
      go_wp2_with (first
        | ((with_reducible show wpList _ _ _ (⟨some 113, _, _, _, _, _⟩ :: _) _ _); refine wpList_build_none rfl _ rfl zs BZ ?_)
        | ((with_reducible show wpList _ _ _ (⟨none, .store _ (.tmp 4) _, _, _, _, _⟩ :: _) _ _); refine wpList_store_blk rfl _ (.tmp 4) (.tmp 113) rfl h rfl _ zs zs rfl Ze 69 size_ask HZ HZ HZ1 ?_; intro w10 K10 O10 hg10)
        | fail)
      refine bodyPost_ret (v := .tuple #[.agg zs.toArray, .int .i64 er]) ?_ rfl (HN.out _ _ rfl (below_only Le.out O10.out (by omega)))
      exact results_cell_two rfl _ _ h _ _ (0, 0) _ rfl K10.out Tryd.underlying32 rfl (by rw [size_ask]; have := HZ.out; simp [this]) rfl
    · subst he
      have HEQ : Hid (C1 = acells (.slice none 0 0) (.slice none 0 0) (.slice none 0 0) { zeroAsk with file := q1.1 }) := by
        show _ = _
        rw [HC1.out, HZS.out]
        rfl
      have H1C : Hid (∀ qv ∈ C1, qv.oneCell' = true) := by
        show _
        rw [HEQ.out]
        exact acells_one rfl rfl rfl
      go_wp2_with (first
        | ((with_reducible show wpList _ _ _ (⟨some 115, _, _, _, _, _⟩ :: _) _ _); refine wpList_load_blk rfl _ (.tmp 7) rfl a rfl _ C1 Ke 69 _ Tryd.underlying32 rfl size_ask HL1 ?_)
        | ((with_reducible show wpList _ _ _ (⟨none, .store _ (.tmp 4) _, _, _, _, _⟩ :: _) _ _); refine wpList_store_blk rfl _ (.tmp 4) (.tmp 115) rfl h rfl _ zs C1 rfl Ze 69 size_ask HZ HL1 H1C ?_; intro w10 K10 O10 hg10)
        | fail)
      refine bodyPost_ret (v := .tuple #[.agg C1.toArray, .int .i64 0]) ?_ rfl ?_
      · exact results_cell_two rfl _ _ h _ _ (0, 0) _ rfl K10.out Tryd.underlying32 rfl (by rw [size_ask]; have := HL1.out; simp [this]) rfl
      · have LF : Below w.heap.size w w10 := below_only Le.out O10.out (by omega)
        exact HQ.out C1 _ _ (by trivial) rfl ⟨none, 0, 0, none, 0, 0, none, 0, 0, by rw [HEQ.out], HoldsF.nil _ _ _, Holds.nil _ _, HoldsS.nil _ _ _ _⟩ LF
  · subst h8
    have D1 : Hid (∀ (w' : World) (g : Nat), RP w' g w.heap.size A n k xs rd0 → Calls Tryd.prog 53 #[.pointer (some ⟨g, 0, none⟩), .int .i64 8] w' fun e w2 => e = .returned (.int .u64 (o1 xs).1) ∧ RP w2 g w.heap.size A n k xs (o1 xs).2 ∧ Save g w' w2) := fun w' g h => rN w' g w.heap.size A n k xs _ h 8 (by decide)
    have D2 : Hid (∀ (w' : World) (g : Nat), RP w' g w.heap.size A n k xs (o1 xs).2 → Calls Tryd.prog 53 #[.pointer (some ⟨g, 0, none⟩), .int .i64 8] w' fun e w2 => e = .returned (.int .u64 (o2 xs).1) ∧ RP w2 g w.heap.size A n k xs (o2 xs).2 ∧ Save g w' w2) := fun w' g h => rN w' g w.heap.size A n k xs _ h 8 (by decide)
    have D3 : Hid (∀ (w' : World) (g : Nat), RP w' g w.heap.size A n k xs (o2 xs).2 → Calls Tryd.prog 53 #[.pointer (some ⟨g, 0, none⟩), .int .i64 4] w' fun e w2 => e = .returned (.int .u64 (o3 xs).1) ∧ RP w2 g w.heap.size A n k xs (o3 xs).2 ∧ Save g w' w2) := fun w' g h => rN w' g w.heap.size A n k xs _ h 4 (by decide)
    have DE : Hid (∀ (w' : World) (g : Nat), RP w' g w.heap.size A n k xs (o3 xs).2 → Calls Tryd.prog 57 #[.pointer (some ⟨g, 0, none⟩)] w' fun e w2 => e = .returned (.int .i64 (rdEnd xs (o3 xs).2)) ∧ ∃ j, w'.drewN j = w2) := fun w' g h => rEnd w' g w.heap.size A n k xs _ h
    have hge : fgErr 8 xs = rdEnd xs (o3 xs).2 := by unfold fgErr; rw [if_pos hk]; rfl
    have HQ : Hid (∀ (cs : List Value) (e : Ending) (w' : World), rdEnd xs (o3 xs).2 = 0 → e = .returned (.tuple #[.agg cs.toArray, .int .i64 0]) → AskIs w' w'.heap.size cs { zeroAsk with file := (o1 xs).1, at_ := (o2 xs).1, n := (o3 xs).1 } → Below w.heap.size w w' → RFGAskPost w 8 xs e w') := by
      intro cs e w' h0 h1 h2 h5
      have ho : fgOf 8 xs = { zeroAsk with file := (o1 xs).1, at_ := (o2 xs).1, n := (o3 xs).1 } := by unfold fgOf; rw [hge, h0, if_pos rfl]; rfl
      unfold RFGAskPost
      rw [hge, h0, ho]
      exact ⟨cs, h1, h2, h5⟩
    have HE' := Lib.hid (HE.out _ hge)
    have zw1 : IntKind.u32.wrap (o3 xs).1 = (o3 xs).1 := by
      obtain ⟨x0, x1⟩ := rdN_lt hby 4 (o2 xs).2 4294967296 (by decide) (by decide)
      change 0 ≤ (o3 xs).1 at x0
      change (o3 xs).1 ≤ _ at x1
      rw [IntKind.wrap_u32]
      omega
    obtain ⟨er, her⟩ : ∃ x, x = rdEnd xs (o3 xs).2 := ⟨_, rfl⟩
    rw [← her] at DE HQ HE'
    obtain ⟨q1, hq1⟩ : ∃ x, x = (o1 xs) := ⟨_, rfl⟩
    rw [← hq1] at D1 D2 HQ
    obtain ⟨q2, hq2⟩ : ∃ x, x = (o2 xs) := ⟨_, rfl⟩
    rw [← hq2] at D2 D3 HQ
    obtain ⟨q3, hq3⟩ : ∃ x, x = (o3 xs) := ⟨_, rfl⟩
    rw [← hq3] at D3 DE HQ zw1
    clear her hge HE hk hx hq1 hq2 hq3
    go_enter Tryd.func23, Tryd.ntmps23
    go_wp2_with (first
      | ((with_reducible show wpList _ _ _ (⟨some 4, _, _, _, _, _⟩ :: _) _ _); refine wpList_alloc_blk rfl _ rfl zs _ ZH ?_; intro h w1 hg1 hg2 Z1 L1)
      | fail)
    refine (CK.out _).mono ?_
    rintro e v0 ⟨rfl, rfl⟩
    go_wp2_with (first
      | ((with_reducible show wpList _ _ _ (⟨some 17, _, _, _, _, _⟩ :: _) _ _); refine wpList_build_blk rfl _ _ rfl ([.slice A n k, .int .i64 0, .int .i64 0] : List Value) (by refine Eq.trans ?_ BR; kernel_rfl) ?_)
      | ((with_reducible show wpList _ _ _ (⟨some 18, _, _, _, _, _⟩ :: _) _ _); refine wpList_box_blk rfl _ (.tmp 17) rfl ([.slice A n k, .int .i64 0, .int .i64 0] : List Value) rfl ?_; intro g w2 hg3 hg4 R2 L02; have Z2 := Lib.hid (Z1.out.over L02.out); have L2 := Lib.hid (step L1.out L02.out); have hhg : h ≠ g := (by omega); have hwg : w.heap.size ≤ g := (by have := L1.out.size; omega))
      | ((with_reducible show wpList _ _ _ (⟨some 7, _, _, _, _, _⟩ :: _) _ _); refine wpList_alloc_blk rfl _ rfl zs _ ZH ?_; intro a w4 hg5 hg6 K4 L03; have R4 := Lib.hid (R2.out.over L03.out); have Z4 := Lib.hid (Z2.out.over L03.out); have L4 := Lib.hid (step L2.out L03.out); have hag : a ≠ g := (by have := R2.out.lt; omega); have hha : h ≠ a := (by have := Z2.out.lt; omega); have hwa : w.heap.size ≤ a := (by have := L2.out.size; omega))
      | fail)
    have P4 : Hid (RP w4 g w.heap.size A n k xs rd0) := ⟨R4.out, HX.out.below L4.out, hwg, Nat.zero_le _⟩
    clear R4 R2 L02 L03 Z1 Z2 L1 L2 HX CK
    refine (D1.out w4 g P4.out).mono ?_
    rintro e v1 ⟨rfl, hP, hS⟩
    have Pc1 := Lib.hid hP
    have Zc1 := Lib.hid (Z4.out.save hS hhg)
    have Kc1 := Lib.hid (K4.out.save hS hag)
    have Lc1 := Lib.hid (L4.out.trans (hS.below hwg L4.out.size))
    clear hP hS P4 Z4 K4 L4
    go_wp2_with (first
      | ((with_reducible show wpList _ _ _ (⟨none, .store _ (.tmp 49) _, _, _, _, _⟩ :: _) _ _); refine wpList_store_fld rfl _ (.tmp 49) (.tmp 48) rfl a 57 rfl _ zs (.int .u64 q1.1) rfl Kc1 (Lib.hid (by have := HZ.out; omega)) (by kernel_rfl) rfl ?_; intro x1 Ks1 Os1 hqs1; obtain ⟨C1, hC1⟩ : ∃ x, x = zs.set 57 (.int .u64 q1.1) := ⟨_, rfl⟩; have HC1 := Lib.hid hC1; have HL1 : Hid (C1.length = 69) := (by rw [hC1, List.length_set]; exact HZ.out); rw [← hC1] at Ks1; have Zs1 := Lib.hid (Zc1.out.only Os1.out hha); have Ps1 := Lib.hid (Pc1.out.only Os1.out (Ne.symm hag) hwa); have Ls1 := Lib.hid (below_only Lc1.out Os1.out hwa); clear hC1)
      | fail)
    refine (D2.out x1 g Ps1.out).mono ?_
    rintro e v2 ⟨rfl, hP, hS⟩
    have Pc2 := Lib.hid hP
    have Zc2 := Lib.hid (Zs1.out.save hS hhg)
    have Kc2 := Lib.hid (Ks1.out.save hS hag)
    have Lc2 := Lib.hid (Ls1.out.trans (hS.below hwg Ls1.out.size))
    clear hP hS Ps1 Zs1 Ks1 Ls1
    go_wp2_with (first
      | ((with_reducible show wpList _ _ _ (⟨none, .store _ (.tmp 60) _, _, _, _, _⟩ :: _) _ _); refine wpList_store_fld rfl _ (.tmp 60) (.tmp 59) rfl a 59 rfl _ C1 (.int .u64 q2.1) rfl Kc2 (Lib.hid (by have := HL1.out; omega)) (by kernel_rfl) rfl ?_; intro x2 Ks2 Os2 hqs2; obtain ⟨C2, hC2⟩ : ∃ x, x = C1.set 59 (.int .u64 q2.1) := ⟨_, rfl⟩; have HC2 := Lib.hid hC2; have HL2 : Hid (C2.length = 69) := (by rw [hC2, List.length_set]; exact HL1.out); rw [← hC2] at Ks2; have Zs2 := Lib.hid (Zc2.out.only Os2.out hha); have Ps2 := Lib.hid (Pc2.out.only Os2.out (Ne.symm hag) hwa); have Ls2 := Lib.hid (below_only Lc2.out Os2.out hwa); clear hC2)
      | fail)
    refine (D3.out x2 g Ps2.out).mono ?_
    rintro e v3 ⟨rfl, hP, hS⟩
    have Pc3 := Lib.hid hP
    have Zc3 := Lib.hid (Zs2.out.save hS hhg)
    have Kc3 := Lib.hid (Ks2.out.save hS hag)
    have Lc3 := Lib.hid (Ls2.out.trans (hS.below hwg Ls2.out.size))
    clear hP hS Ps2 Zs2 Ks2 Ls2
    go_wp2_with (first
      | ((with_reducible show wpList _ _ _ (⟨none, .store _ (.tmp 64) _, _, _, _, _⟩ :: _) _ _); refine wpList_store_fld rfl _ (.tmp 64) (.tmp 63) rfl a 60 rfl _ C2 (.int .u32 q3.1) rfl Kc3 (Lib.hid (by have := HL2.out; omega)) (by kernel_rfl) rfl ?_; intro x3 Ks3 Os3 hqs3; obtain ⟨C3, hC3⟩ : ∃ x, x = C2.set 60 (.int .u32 q3.1) := ⟨_, rfl⟩; have HC3 := Lib.hid hC3; have HL3 : Hid (C3.length = 69) := (by rw [hC3, List.length_set]; exact HL2.out); rw [← hC3] at Ks3; have Zs3 := Lib.hid (Zc3.out.only Os3.out hha); have Ps3 := Lib.hid (Pc3.out.only Os3.out (Ne.symm hag) hwa); have Ls3 := Lib.hid (below_only Lc3.out Os3.out hwa); clear hC3)
      | fail)
    refine (DE.out x3 g Ps3.out).mono ?_
    rintro e we ⟨rfl, kk, rfl⟩
    have Ze := Lib.hid (Blk.drewN Zs3.out kk)
    have Ke := Lib.hid (Blk.drewN Ks3.out kk)
    have Le : Hid (Below w.heap.size w (x3.drewN kk)) := step Ls3.out (drewed _ kk)
    obtain ⟨wq, hwq⟩ : ∃ wq, wq = x3.drewN kk := ⟨_, rfl⟩
    have HWQ := Lib.hid hwq
    rw [← hwq] at Ze Ke Le ⊢
    clear hwq
    by_cases he : er = 0
    rotate_left
    · have hne : (er != 0) = true := by simpa using he
      have HN := Lib.hid (HE'.out he)
      clear he HE' HQ
      go_wp2_with (first
        | ((with_reducible show wpList _ _ _ (⟨some 113, _, _, _, _, _⟩ :: _) _ _); refine wpList_build_none rfl _ rfl zs BZ ?_)
        | ((with_reducible show wpList _ _ _ (⟨none, .store _ (.tmp 4) _, _, _, _, _⟩ :: _) _ _); refine wpList_store_blk rfl _ (.tmp 4) (.tmp 113) rfl h rfl _ zs zs rfl Ze 69 size_ask HZ HZ HZ1 ?_; intro w10 K10 O10 hg10)
        | fail)
      refine bodyPost_ret (v := .tuple #[.agg zs.toArray, .int .i64 er]) ?_ rfl (HN.out _ _ rfl (below_only Le.out O10.out (by omega)))
      exact results_cell_two rfl _ _ h _ _ (0, 0) _ rfl K10.out Tryd.underlying32 rfl (by rw [size_ask]; have := HZ.out; simp [this]) rfl
    · subst he
      have HEQ : Hid (C3 = acells (.slice none 0 0) (.slice none 0 0) (.slice none 0 0) { zeroAsk with file := q1.1, at_ := q2.1, n := q3.1 }) := by
        show _ = _
        rw [HC3.out, HC2.out, HC1.out, HZS.out]
        rfl
      have H1C : Hid (∀ qv ∈ C3, qv.oneCell' = true) := by
        show _
        rw [HEQ.out]
        exact acells_one rfl rfl rfl
      go_wp2_with (first
        | ((with_reducible show wpList _ _ _ (⟨some 115, _, _, _, _, _⟩ :: _) _ _); refine wpList_load_blk rfl _ (.tmp 7) rfl a rfl _ C3 Ke 69 _ Tryd.underlying32 rfl size_ask HL3 ?_)
        | ((with_reducible show wpList _ _ _ (⟨none, .store _ (.tmp 4) _, _, _, _, _⟩ :: _) _ _); refine wpList_store_blk rfl _ (.tmp 4) (.tmp 115) rfl h rfl _ zs C3 rfl Ze 69 size_ask HZ HL3 H1C ?_; intro w10 K10 O10 hg10)
        | fail)
      refine bodyPost_ret (v := .tuple #[.agg C3.toArray, .int .i64 0]) ?_ rfl ?_
      · exact results_cell_two rfl _ _ h _ _ (0, 0) _ rfl K10.out Tryd.underlying32 rfl (by rw [size_ask]; have := HL3.out; simp [this]) rfl
      · have LF : Below w.heap.size w w10 := below_only Le.out O10.out (by omega)
        exact HQ.out C3 _ _ (by trivial) rfl ⟨none, 0, 0, none, 0, 0, none, 0, 0, by rw [HEQ.out], HoldsF.nil _ _ _, Holds.nil _ _, HoldsS.nil _ _ _ _⟩ LF
  · subst h9
    have D1 : Hid (∀ (w' : World) (g : Nat), RP w' g w.heap.size A n k xs rd0 → Calls Tryd.prog 53 #[.pointer (some ⟨g, 0, none⟩), .int .i64 8] w' fun e w2 => e = .returned (.int .u64 (o1 xs).1) ∧ RP w2 g w.heap.size A n k xs (o1 xs).2 ∧ Save g w' w2) := fun w' g h => rN w' g w.heap.size A n k xs _ h 8 (by decide)
    have D2 : Hid (∀ (w' : World) (g : Nat), RP w' g w.heap.size A n k xs (o1 xs).2 → Calls Tryd.prog 53 #[.pointer (some ⟨g, 0, none⟩), .int .i64 8] w' fun e w2 => e = .returned (.int .u64 (o2 xs).1) ∧ RP w2 g w.heap.size A n k xs (o2 xs).2 ∧ Save g w' w2) := fun w' g h => rN w' g w.heap.size A n k xs _ h 8 (by decide)
    have D3 : Hid (∀ (w' : World) (g : Nat), RP w' g w.heap.size A n k xs (o2 xs).2 → Calls Tryd.prog 56 #[.pointer (some ⟨g, 0, none⟩)] w' fun e w2 => ∃ v, e = .returned v ∧ Own w2 w'.heap.size v (o4 xs).1 ∧ RP w2 g w.heap.size A n k xs (o4 xs).2 ∧ Save g w' w2) := fun w' g h => rdata_any w' g w.heap.size A n k xs _ hby h
    have DE : Hid (∀ (w' : World) (g : Nat), RP w' g w.heap.size A n k xs (o4 xs).2 → Calls Tryd.prog 57 #[.pointer (some ⟨g, 0, none⟩)] w' fun e w2 => e = .returned (.int .i64 (rdEnd xs (o4 xs).2)) ∧ ∃ j, w'.drewN j = w2) := fun w' g h => rEnd w' g w.heap.size A n k xs _ h
    have hge : fgErr 9 xs = rdEnd xs (o4 xs).2 := by unfold fgErr; rw [if_pos hk]; rfl
    have HQ : Hid (∀ (cs : List Value) (e : Ending) (w' : World), rdEnd xs (o4 xs).2 = 0 → e = .returned (.tuple #[.agg cs.toArray, .int .i64 0]) → AskIs w' w'.heap.size cs { zeroAsk with file := (o1 xs).1, at_ := (o2 xs).1, data := (o4 xs).1 } → Below w.heap.size w w' → RFGAskPost w 9 xs e w') := by
      intro cs e w' h0 h1 h2 h5
      have ho : fgOf 9 xs = { zeroAsk with file := (o1 xs).1, at_ := (o2 xs).1, data := (o4 xs).1 } := by unfold fgOf; rw [hge, h0, if_pos rfl]; rfl
      unfold RFGAskPost
      rw [hge, h0, ho]
      exact ⟨cs, h1, h2, h5⟩
    have HE' := Lib.hid (HE.out _ hge)
    have DL : Hid (Bytes (o4 xs).1 ∧ (o4 xs).1.length ≤ 32768) := rdData_le hby _
    obtain ⟨er, her⟩ : ∃ x, x = rdEnd xs (o4 xs).2 := ⟨_, rfl⟩
    rw [← her] at DE HQ HE'
    obtain ⟨q1, hq1⟩ : ∃ x, x = (o1 xs) := ⟨_, rfl⟩
    rw [← hq1] at D1 D2 HQ
    obtain ⟨q2, hq2⟩ : ∃ x, x = (o2 xs) := ⟨_, rfl⟩
    rw [← hq2] at D2 D3 HQ
    obtain ⟨q3, hq3⟩ : ∃ x, x = (o4 xs) := ⟨_, rfl⟩
    rw [← hq3] at D3 DE HQ DL
    clear her hge HE hk hx hq1 hq2 hq3
    go_enter Tryd.func23, Tryd.ntmps23
    go_wp2_with (first
      | ((with_reducible show wpList _ _ _ (⟨some 4, _, _, _, _, _⟩ :: _) _ _); refine wpList_alloc_blk rfl _ rfl zs _ ZH ?_; intro h w1 hg1 hg2 Z1 L1)
      | fail)
    refine (CK.out _).mono ?_
    rintro e v0 ⟨rfl, rfl⟩
    go_wp2_with (first
      | ((with_reducible show wpList _ _ _ (⟨some 17, _, _, _, _, _⟩ :: _) _ _); refine wpList_build_blk rfl _ _ rfl ([.slice A n k, .int .i64 0, .int .i64 0] : List Value) (by refine Eq.trans ?_ BR; kernel_rfl) ?_)
      | ((with_reducible show wpList _ _ _ (⟨some 18, _, _, _, _, _⟩ :: _) _ _); refine wpList_box_blk rfl _ (.tmp 17) rfl ([.slice A n k, .int .i64 0, .int .i64 0] : List Value) rfl ?_; intro g w2 hg3 hg4 R2 L02; have Z2 := Lib.hid (Z1.out.over L02.out); have L2 := Lib.hid (step L1.out L02.out); have hhg : h ≠ g := (by omega); have hwg : w.heap.size ≤ g := (by have := L1.out.size; omega))
      | ((with_reducible show wpList _ _ _ (⟨some 7, _, _, _, _, _⟩ :: _) _ _); refine wpList_alloc_blk rfl _ rfl zs _ ZH ?_; intro a w4 hg5 hg6 K4 L03; have R4 := Lib.hid (R2.out.over L03.out); have Z4 := Lib.hid (Z2.out.over L03.out); have L4 := Lib.hid (step L2.out L03.out); have hag : a ≠ g := (by have := R2.out.lt; omega); have hha : h ≠ a := (by have := Z2.out.lt; omega); have hwa : w.heap.size ≤ a := (by have := L2.out.size; omega))
      | fail)
    have P4 : Hid (RP w4 g w.heap.size A n k xs rd0) := ⟨R4.out, HX.out.below L4.out, hwg, Nat.zero_le _⟩
    clear R4 R2 L02 L03 Z1 Z2 L1 L2 HX CK
    refine (D1.out w4 g P4.out).mono ?_
    rintro e v1 ⟨rfl, hP, hS⟩
    have Pc1 := Lib.hid hP
    have Zc1 := Lib.hid (Z4.out.save hS hhg)
    have Kc1 := Lib.hid (K4.out.save hS hag)
    have Lc1 := Lib.hid (L4.out.trans (hS.below hwg L4.out.size))
    clear hP hS P4 Z4 K4 L4
    go_wp2_with (first
      | ((with_reducible show wpList _ _ _ (⟨none, .store _ (.tmp 49) _, _, _, _, _⟩ :: _) _ _); refine wpList_store_fld rfl _ (.tmp 49) (.tmp 48) rfl a 57 rfl _ zs (.int .u64 q1.1) rfl Kc1 (Lib.hid (by have := HZ.out; omega)) (by kernel_rfl) rfl ?_; intro x1 Ks1 Os1 hqs1; obtain ⟨C1, hC1⟩ : ∃ x, x = zs.set 57 (.int .u64 q1.1) := ⟨_, rfl⟩; have HC1 := Lib.hid hC1; have HL1 : Hid (C1.length = 69) := (by rw [hC1, List.length_set]; exact HZ.out); rw [← hC1] at Ks1; have Zs1 := Lib.hid (Zc1.out.only Os1.out hha); have Ps1 := Lib.hid (Pc1.out.only Os1.out (Ne.symm hag) hwa); have Ls1 := Lib.hid (below_only Lc1.out Os1.out hwa); clear hC1)
      | fail)
    refine (D2.out x1 g Ps1.out).mono ?_
    rintro e v2 ⟨rfl, hP, hS⟩
    have Pc2 := Lib.hid hP
    have Zc2 := Lib.hid (Zs1.out.save hS hhg)
    have Kc2 := Lib.hid (Ks1.out.save hS hag)
    have Lc2 := Lib.hid (Ls1.out.trans (hS.below hwg Ls1.out.size))
    clear hP hS Ps1 Zs1 Ks1 Ls1
    go_wp2_with (first
      | ((with_reducible show wpList _ _ _ (⟨none, .store _ (.tmp 69) _, _, _, _, _⟩ :: _) _ _); refine wpList_store_fld rfl _ (.tmp 69) (.tmp 68) rfl a 59 rfl _ C1 (.int .u64 q2.1) rfl Kc2 (Lib.hid (by have := HL1.out; omega)) (by kernel_rfl) rfl ?_; intro x2 Ks2 Os2 hqs2; obtain ⟨C2, hC2⟩ : ∃ x, x = C1.set 59 (.int .u64 q2.1) := ⟨_, rfl⟩; have HC2 := Lib.hid hC2; have HL2 : Hid (C2.length = 69) := (by rw [hC2, List.length_set]; exact HL1.out); rw [← hC2] at Ks2; have Zs2 := Lib.hid (Zc2.out.only Os2.out hha); have Ps2 := Lib.hid (Pc2.out.only Os2.out (Ne.symm hag) hwa); have Ls2 := Lib.hid (below_only Lc2.out Os2.out hwa); clear hC2)
      | fail)
    refine (D3.out x2 g Ps2.out).mono ?_
    rintro e v3 ⟨u3, rfl, hV, hP, hS⟩
    have V3 := Lib.hid hV
    have hbs3 : a < x2.heap.size ∧ h < x2.heap.size ∧ w.heap.size ≤ x2.heap.size := ⟨Ks2.out.lt, Zs2.out.lt, Ls2.out.size⟩
    obtain ⟨b3, hb3⟩ : ∃ x, x = x2.heap.size := ⟨_, rfl⟩
    rw [← hb3] at V3 hbs3
    obtain ⟨hba3, hbh3, hbw3⟩ := hbs3
    clear hV hb3
    have Pc3 := Lib.hid hP
    have Zc3 := Lib.hid (Zs2.out.save hS hhg)
    have Kc3 := Lib.hid (Ks2.out.save hS hag)
    have Lc3 := Lib.hid (Ls2.out.trans (hS.below hwg Ls2.out.size))
    clear hP hS Ps2 Zs2 Ks2 Ls2
    go_wp2_with (first
      | ((with_reducible show wpList _ _ _ (⟨none, .store _ (.tmp 72) _, _, _, _, _⟩ :: _) _ _); refine wpList_store_fld rfl _ (.tmp 72) (.tmp 71) rfl a 61 rfl _ C2 (u3) rfl Kc3 (Lib.hid (by have := HL2.out; omega)) (by kernel_rfl) (own_one V3.out) ?_; intro x3 Ks3 Os3 hqs3; obtain ⟨C3, hC3⟩ : ∃ x, x = C2.set 61 (u3) := ⟨_, rfl⟩; have HC3 := Lib.hid hC3; have HL3 : Hid (C3.length = 69) := (by rw [hC3, List.length_set]; exact HL2.out); rw [← hC3] at Ks3; have Zs3 := Lib.hid (Zc3.out.only Os3.out hha); have Ps3 := Lib.hid (Pc3.out.only Os3.out (Ne.symm hag) hwa); have Ls3 := Lib.hid (below_only Lc3.out Os3.out hwa); have V3s3 := Lib.hid (Own.onlyAt V3.out Os3.out hba3); clear hC3)
      | fail)
    refine (DE.out x3 g Ps3.out).mono ?_
    rintro e we ⟨rfl, kk, rfl⟩
    have Ze := Lib.hid (Blk.drewN Zs3.out kk)
    have Ke := Lib.hid (Blk.drewN Ks3.out kk)
    have Le : Hid (Below w.heap.size w (x3.drewN kk)) := step Ls3.out (drewed _ kk)
    obtain ⟨wq, hwq⟩ : ∃ wq, wq = x3.drewN kk := ⟨_, rfl⟩
    have HWQ := Lib.hid hwq
    rw [← hwq] at Ze Ke Le ⊢
    clear hwq
    by_cases he : er = 0
    rotate_left
    · have hne : (er != 0) = true := by simpa using he
      have HN := Lib.hid (HE'.out he)
      clear he HE' HQ
      go_wp2_with (first
        | ((with_reducible show wpList _ _ _ (⟨some 113, _, _, _, _, _⟩ :: _) _ _); refine wpList_build_none rfl _ rfl zs BZ ?_)
        | ((with_reducible show wpList _ _ _ (⟨none, .store _ (.tmp 4) _, _, _, _, _⟩ :: _) _ _); refine wpList_store_blk rfl _ (.tmp 4) (.tmp 113) rfl h rfl _ zs zs rfl Ze 69 size_ask HZ HZ HZ1 ?_; intro w10 K10 O10 hg10)
        | fail)
      refine bodyPost_ret (v := .tuple #[.agg zs.toArray, .int .i64 er]) ?_ rfl (HN.out _ _ rfl (below_only Le.out O10.out (by omega)))
      exact results_cell_two rfl _ _ h _ _ (0, 0) _ rfl K10.out Tryd.underlying32 rfl (by rw [size_ask]; have := HZ.out; simp [this]) rfl
    · subst he
      have HEQ : Hid (C3 = acells (.slice none 0 0) u3 (.slice none 0 0) { zeroAsk with file := q1.1, at_ := q2.1, data := q3.1 }) := by
        show _ = _
        rw [HC3.out, HC2.out, HC1.out, HZS.out]
        rfl
      have H1C : Hid (∀ qv ∈ C3, qv.oneCell' = true) := by
        show _
        rw [HEQ.out]
        exact acells_one rfl (own_one V3s3.out) rfl
      go_wp2_with (first
        | ((with_reducible show wpList _ _ _ (⟨some 115, _, _, _, _, _⟩ :: _) _ _); refine wpList_load_blk rfl _ (.tmp 7) rfl a rfl _ C3 Ke 69 _ Tryd.underlying32 rfl size_ask HL3 ?_)
        | ((with_reducible show wpList _ _ _ (⟨none, .store _ (.tmp 4) _, _, _, _, _⟩ :: _) _ _); refine wpList_store_blk rfl _ (.tmp 4) (.tmp 115) rfl h rfl _ zs C3 rfl Ze 69 size_ask HZ HL3 H1C ?_; intro w10 K10 O10 hg10)
        | fail)
      refine bodyPost_ret (v := .tuple #[.agg C3.toArray, .int .i64 0]) ?_ rfl ?_
      · exact results_cell_two rfl _ _ h _ _ (0, 0) _ rfl K10.out Tryd.underlying32 rfl (by rw [size_ask]; have := HL3.out; simp [this]) rfl
      · have LF : Below w.heap.size w w10 := below_only Le.out O10.out (by omega)
        have VF0 : Own wq b3 u3 q3.1 := by rw [HWQ.out]; exact V3s3.out
        have VF := Own.onlyAt VF0 O10.out hbh3
        obtain ⟨Ax, kx, hux, hHx⟩ := Own.holds VF DL.out.1 (Nat.le_trans DL.out.2 (by decide))
        exact HQ.out C3 _ _ (by trivial) rfl ⟨none, 0, 0, Ax, _, kx, none, 0, 0, by rw [HEQ.out, hux], HoldsF.nil _ _ _, hHx, HoldsS.nil _ _ _ _⟩ LF
  · subst h10
    have D1 : Hid (∀ (w' : World) (g : Nat), RP w' g w.heap.size A n k xs rd0 → Calls Tryd.prog 53 #[.pointer (some ⟨g, 0, none⟩), .int .i64 8] w' fun e w2 => e = .returned (.int .u64 (o1 xs).1) ∧ RP w2 g w.heap.size A n k xs (o1 xs).2 ∧ Save g w' w2) := fun w' g h => rN w' g w.heap.size A n k xs _ h 8 (by decide)
    have D2 : Hid (∀ (w' : World) (g : Nat), RP w' g w.heap.size A n k xs (o1 xs).2 → Calls Tryd.prog 54 #[.pointer (some ⟨g, 0, none⟩), .int .i64 2, .int .u64 16, .int .i64 3] w' fun e w2 => e = .returned (.int .u64 (m5 xs).1) ∧ RP w2 g w.heap.size A n k xs (m5 xs).2 ∧ Save g w' w2) := fun w' g h => rMost w' g w.heap.size A n k xs _ h 2 16 3 (by decide)
    have D3 : Hid (∀ (w' : World) (g : Nat), RP w' g w.heap.size A n k xs (m5 xs).2 → Calls Tryd.prog 54 #[.pointer (some ⟨g, 0, none⟩), .int .i64 2, .int .u64 0, .int .i64 5] w' fun e w2 => (∃ u, e = .returned (.int .u64 u)) ∧ RP w2 g w.heap.size A n k xs (z5 xs) ∧ Save g w' w2) := fun w' g h => (rMost w' g w.heap.size A n k xs _ h 2 0 5 (by decide)).mono fun e w2 ⟨h1, h2, h3⟩ => ⟨⟨_, h1⟩, by have e0 := rdMost_Z hby (s := 2) (r := (m5 xs).2) (by decide); exact (e0 ▸ h2 : RP w2 g w.heap.size A n k xs (rdZ xs 2 (m5 xs).2)), h3⟩
    have hge : fgErr 10 xs = rdEnd xs (o5 xs).2 := by unfold fgErr; rw [if_pos hk]; rfl
    have HQ : Hid (∀ (cs : List Value) (e : Ending) (w' : World), rdEnd xs (o5 xs).2 = 0 → e = .returned (.tuple #[.agg cs.toArray, .int .i64 0]) → AskIs w' w'.heap.size cs { zeroAsk with file := (o1 xs).1, locks := (o5 xs).1 } → Below w.heap.size w w' → RFGAskPost w 10 xs e w') := by
      intro cs e w' h0 h1 h2 h5
      have ho : fgOf 10 xs = { zeroAsk with file := (o1 xs).1, locks := (o5 xs).1 } := by unfold fgOf; rw [hge, h0, if_pos rfl]; rfl
      unfold RFGAskPost
      rw [hge, h0, ho]
      exact ⟨cs, h1, h2, h5⟩
    have HE' := Lib.hid (HE.out _ hge)
    have hmb : 0 ≤ (m5 xs).1 ∧ (m5 xs).1 ≤ 16 := rdMost_lt hby 2 16 3 (o1 xs).2 (by decide) (by decide)
    obtain ⟨lkE, hlkE⟩ : ∃ f, f = rdLocksE xs (z5 xs) := ⟨_, rfl⟩
    have HL0 : Hid (lkE 0 = ([], z5 xs)) := by show _ = _; rw [hlkE]; rfl
    have HLS : Hid (∀ j, (lkE j).2.e = 0 → (lkE (j + 1)).1 = (lkE j).1 ++ [(rdLock xs (lkE j).2).1] ∧ (lkE (j + 1)).2 = (rdLock xs (lkE j).2).2) := fun j h => by
      rw [hlkE] at h ⊢
      have e1 : rdLocksE xs (z5 xs) (j + 1) = if (rdLocksE xs (z5 xs) j).2.e = 0 then ((rdLocksE xs (z5 xs) j).1 ++ [(rdLock xs (rdLocksE xs (z5 xs) j).2).1], (rdLock xs (rdLocksE xs (z5 xs) j).2).2) else rdLocksE xs (z5 xs) j := rfl
      rw [e1, if_pos h]
      exact ⟨rfl, rfl⟩
    have HLL : Hid (∀ j, (lkE j).1.length ≤ j) := fun j => by rw [hlkE]; exact rdLocksE_len j
    have HLT : Hid (∀ j N, j ≤ N → ¬ (lkE j).2.e = 0 → lkE N = lkE j) := fun j N h1 h2 => by
      rw [hlkE] at h2 ⊢
      have h3 := rdLocksE_stop h2 (N - j)
      rwa [show j + (N - j) = N from by omega] at h3
    have CE : Hid (∀ (w' : World) (g : Nat), RP w' g w.heap.size A n k xs (lkE (m5 xs).1.toNat).2 → Calls Tryd.prog 57 #[.pointer (some ⟨g, 0, none⟩)] w' fun e w2 => e = .returned (.int .i64 (rdEnd xs (o5 xs).2)) ∧ ∃ j, w'.drewN j = w2) := fun w' g h => by
      have h1 := rEnd w' g w.heap.size A n k xs _ h
      rw [hlkE, (rdLocks_same xs _ _).1] at h1
      exact h1
    have HEND : Hid (rdEnd xs (o5 xs).2 = 0 → (o5 xs).1 = (lkE (m5 xs).1.toNat).1) := fun h => by
      rw [hlkE]
      exact ((rdLocks_same xs _ _).2 (fe_all h)).symm
    have C8 : Hid (∀ (w' : World) (g : Nat) (r : Rd), RP w' g w.heap.size A n k xs r → Calls Tryd.prog 53 #[.pointer (some ⟨g, 0, none⟩), .int .i64 8] w' fun e w2 => e = .returned (.int .u64 (rdN xs 8 r).1) ∧ RP w2 g w.heap.size A n k xs (rdN xs 8 r).2 ∧ Save g w' w2) := fun w' g r h => rN w' g w.heap.size A n k xs r h 8 (by decide)
    have C2 : Hid (∀ (w' : World) (g : Nat) (r : Rd), RP w' g w.heap.size A n k xs r → Calls Tryd.prog 53 #[.pointer (some ⟨g, 0, none⟩), .int .i64 2] w' fun e w2 => e = .returned (.int .u64 (rdN xs 2 r).1) ∧ RP w2 g w.heap.size A n k xs (rdN xs 2 r).2 ∧ Save g w' w2) := fun w' g r h => rN w' g w.heap.size A n k xs r h 2 (by decide)
    have CZ : Hid (∀ (w' : World) (g : Nat) (r : Rd), RP w' g w.heap.size A n k xs r → Calls Tryd.prog 54 #[.pointer (some ⟨g, 0, none⟩), .int .i64 2, .int .u64 0, .int .i64 5] w' fun e w2 => (∃ u, e = .returned (.int .u64 u)) ∧ RP w2 g w.heap.size A n k xs (rdZ xs 2 r) ∧ Save g w' w2) := fun w' g r h => (rMost w' g w.heap.size A n k xs r h 2 0 5 (by decide)).mono fun e w2 ⟨h1, h2, h3⟩ => ⟨⟨_, h1⟩, by have e0 := rdMost_Z hby (s := 2) (r := r) (by decide); exact (e0 ▸ h2 : RP w2 g w.heap.size A n k xs (rdZ xs 2 r)), h3⟩
    have HB2 : Hid (∀ r, 0 ≤ (rdN xs 2 r).1 ∧ (rdN xs 2 r).1 ≤ 65535) := fun r => by have := rdN_lt hby 2 r 65536 (by decide) (by decide); exact ⟨this.1, by omega⟩
    obtain ⟨locks5, hlocks5⟩ : ∃ x, x = (o5 xs).1 := ⟨_, rfl⟩
    rw [← hlocks5] at HQ HEND
    clear hlkE hlocks5
    obtain ⟨er, her⟩ : ∃ x, x = rdEnd xs (o5 xs).2 := ⟨_, rfl⟩
    rw [← her] at HQ HE' CE HEND
    obtain ⟨q1, hq1⟩ : ∃ x, x = (o1 xs) := ⟨_, rfl⟩
    rw [← hq1] at D1 D2 HQ
    obtain ⟨q2, hq2⟩ : ∃ x, x = (m5 xs) := ⟨_, rfl⟩
    rw [← hq2] at D2 D3 hmb CE HEND
    obtain ⟨q3, hq3⟩ : ∃ x, x = (z5 xs) := ⟨_, rfl⟩
    rw [← hq3] at D3 HL0
    clear her hge HE hk hx hq1 hq2 hq3
    go_enter Tryd.func23, Tryd.ntmps23
    go_wp2_with (first
      | ((with_reducible show wpList _ _ _ (⟨some 4, _, _, _, _, _⟩ :: _) _ _); refine wpList_alloc_blk rfl _ rfl zs _ ZH ?_; intro h w1 hg1 hg2 Z1 L1)
      | fail)
    refine (CK.out _).mono ?_
    rintro e v0 ⟨rfl, rfl⟩
    go_wp2_with (first
      | ((with_reducible show wpList _ _ _ (⟨some 17, _, _, _, _, _⟩ :: _) _ _); refine wpList_build_blk rfl _ _ rfl ([.slice A n k, .int .i64 0, .int .i64 0] : List Value) (by refine Eq.trans ?_ BR; kernel_rfl) ?_)
      | ((with_reducible show wpList _ _ _ (⟨some 18, _, _, _, _, _⟩ :: _) _ _); refine wpList_box_blk rfl _ (.tmp 17) rfl ([.slice A n k, .int .i64 0, .int .i64 0] : List Value) rfl ?_; intro g w2 hg3 hg4 R2 L02; have Z2 := Lib.hid (Z1.out.over L02.out); have L2 := Lib.hid (step L1.out L02.out); have hhg : h ≠ g := (by omega); have hwg : w.heap.size ≤ g := (by have := L1.out.size; omega))
      | ((with_reducible show wpList _ _ _ (⟨some 7, _, _, _, _, _⟩ :: _) _ _); refine wpList_alloc_blk rfl _ rfl zs _ ZH ?_; intro a w4 hg5 hg6 K4 L03; have R4 := Lib.hid (R2.out.over L03.out); have Z4 := Lib.hid (Z2.out.over L03.out); have L4 := Lib.hid (step L2.out L03.out); have hag : a ≠ g := (by have := R2.out.lt; omega); have hha : h ≠ a := (by have := Z2.out.lt; omega); have hwa : w.heap.size ≤ a := (by have := L2.out.size; omega))
      | fail)
    have P4 : Hid (RP w4 g w.heap.size A n k xs rd0) := ⟨R4.out, HX.out.below L4.out, hwg, Nat.zero_le _⟩
    clear R4 R2 L02 L03 Z1 Z2 L1 L2 HX CK
    refine (D1.out w4 g P4.out).mono ?_
    rintro e v1 ⟨rfl, hP, hS⟩
    have Pc1 := Lib.hid hP
    have Zc1 := Lib.hid (Z4.out.save hS hhg)
    have Kc1 := Lib.hid (K4.out.save hS hag)
    have Lc1 := Lib.hid (L4.out.trans (hS.below hwg L4.out.size))
    clear hP hS P4 Z4 K4 L4
    go_wp2_with (first
      | ((with_reducible show wpList _ _ _ (⟨none, .store _ (.tmp 49) _, _, _, _, _⟩ :: _) _ _); refine wpList_store_fld rfl _ (.tmp 49) (.tmp 48) rfl a 57 rfl _ zs (.int .u64 q1.1) rfl Kc1 (Lib.hid (by have := HZ.out; omega)) (by kernel_rfl) rfl ?_; intro x1 Ks1 Os1 hqs1; obtain ⟨C1, hC1⟩ : ∃ x, x = zs.set 57 (.int .u64 q1.1) := ⟨_, rfl⟩; have HC1 := Lib.hid hC1; have HL1 : Hid (C1.length = 69) := (by rw [hC1, List.length_set]; exact HZ.out); rw [← hC1] at Ks1; have Zs1 := Lib.hid (Zc1.out.only Os1.out hha); have Ps1 := Lib.hid (Pc1.out.only Os1.out (Ne.symm hag) hwa); have Ls1 := Lib.hid (below_only Lc1.out Os1.out hwa); clear hC1)
      | fail)
    refine (D2.out x1 g Ps1.out).mono ?_
    rintro e v2 ⟨rfl, hP, hS⟩
    have Pc2 := Lib.hid hP
    have Zc2 := Lib.hid (Zs1.out.save hS hhg)
    have Kc2 := Lib.hid (Ks1.out.save hS hag)
    have Lc2 := Lib.hid (Ls1.out.trans (hS.below hwg Ls1.out.size))
    clear hP hS Ps1 Zs1 Ks1 Ls1
    go_wp2_with fail
    refine (D3.out v2 g Pc2.out).mono ?_
    rintro e v3 ⟨⟨u3, rfl⟩, hP, hS⟩
    have Pc3 := Lib.hid hP
    have Zc3 := Lib.hid (Zc2.out.save hS hhg)
    have Kc3 := Lib.hid (Kc2.out.save hS hag)
    have Lc3 := Lib.hid (Lc2.out.trans (hS.below hwg Lc2.out.size))
    clear hP hS Pc2 Zc2 Kc2 Lc2
    obtain ⟨m0, m1⟩ := hmb
    obtain ⟨N, hN⟩ := Int.eq_ofNat_of_zero_le m0
    have hN16 : N ≤ 16 := by omega
    rw [hN] at CE HEND
    simp only [Int.toNat_natCast] at CE HEND
    have HN1 := Lib.hid hN
    have HEQ1 := Lib.hid (Eq.trans (HC1.out) (by rw [HZS.out] : _ = _) : C1 = (acells (.slice none 0 0) (.slice none 0 0) (.slice none 0 0) zeroAsk).set 57 _)
    have HC62 : Hid (∀ u v : Value, (C1.set 62 u).set 62 v = C1.set 62 v) := fun u v => by simp
    have HG62 : Hid (∀ u : Value, (C1.set 62 u)[62]? = some u) := fun u => by rw [List.getElem?_set_self (by have := HL1.out; omega)]
    have HS62 : Hid (C1.set 62 (.slice none 0 0) = C1) := by show _ = _; rw [HEQ1.out]; rfl
    have HLC : Hid (∀ u : Value, (C1.set 62 u).length = 69) := fun u => by rw [List.length_set]; exact HL1.out
    have ZK := Lib.hid zero_lk
    rw [hN]
    clear m0 m1 hN
    obtain ⟨bb, hbb⟩ : ∃ x, x = v3.heap.size := ⟨_, rfl⟩
    have hab : a < bb := by rw [hbb]; exact Kc3.out.lt
    have hgb : g < bb := by rw [hbb]; exact Pc3.out.lt
    have hhb : h < bb := by rw [hbb]; exact Zc3.out.lt
    have hwb : w.heap.size ≤ bb := by rw [hbb]; exact Lc3.out.size
    have hbs : bb ≤ v3.heap.size := by omega
    clear hbb
    have HZK : Hid ((lockCells ⟨0, 0, 0, 0⟩).length = 4) := rfl
    obtain ⟨zk, hzk⟩ : ∃ x, x = lockCells ⟨0, 0, 0, 0⟩ := ⟨_, rfl⟩
    have HZKE := Lib.hid hzk
    rw [← hzk] at ZK HZK
    clear hzk
    have BS : ∀ l : LockV, Tryd.prog.builtSlice 69 1 [(0, .agg (lockCells l).toArray)] = some (lockCells l).toArray := fun l => by kernel_rfl
    go_wp2
    go_loopw [9] (fun i wr => ∃ j : Nat, i = .int .u64 j ∧ j ≤ N ∧ ∃ v, Hid (OwnS lockCells 4 69 wr bb v (lkE j).1) ∧ Hid (Blk wr a 32 (C1.set 62 v)) ∧ Hid (Blk wr h 32 zs) ∧ Hid (RP wr g w.heap.size A n k xs (lkE j).2) ∧ Hid (Below w.heap.size w wr) ∧ bb ≤ wr.heap.size) (fun i _ => N - (intOf i).toNat)
    case atStart => exact ⟨0, rfl, Nat.zero_le _, .slice none 0 0, by rw [HL0.out]; exact OwnS.nil _ _ _ _ _, by rw [HS62.out]; exact Kc3, Zc3, by rw [HL0.out]; exact Pc3, Lc3, hbs⟩
    case round =>
      obtain ⟨j, rfl, hj, v, HO, KA, ZR, PR, LR, hsr⟩ := hrel
      have ce : wr.cell? ⟨g, 2, none⟩ = some (.int .i64 (lkE j).2.e) := Blk.at PR.out.1 rfl
      have hln := HLL.out j
      by_cases hlt : j < N
      · by_cases hej : (lkE j).2.e = 0
        · rw [hej] at ce
          obtain ⟨E1, E2⟩ := HLS.out j hej
          have hwj : IntKind.u64.wrap ((j : Int) + 1) = (j : Int) + 1 := by rw [IntKind.wrap_u64]; omega
          obtain ⟨r0, hr0⟩ : ∃ r, r = (lkE j).2 := ⟨_, rfl⟩
          rw [← hr0] at PR E1 E2
          obtain ⟨L0, hL0⟩ : ∃ r, r = (lkE j).1 := ⟨_, rfl⟩
          rw [← hL0] at HO E1 hln
          obtain ⟨r1, hr1⟩ : ∃ r, r = rdN xs 8 r0 := ⟨_, rfl⟩
          have D1 := fun w h => C8.out w g r0 h
          rw [← hr1] at D1
          obtain ⟨r2, hr2⟩ : ∃ r, r = rdN xs 8 r1.2 := ⟨_, rfl⟩
          have D2 := fun w h => C8.out w g r1.2 h
          rw [← hr2] at D2
          obtain ⟨r3, hr3⟩ : ∃ r, r = rdN xs 2 r2.2 := ⟨_, rfl⟩
          have D3 := fun w h => C2.out w g r2.2 h
          rw [← hr3] at D3
          obtain ⟨x0, x1⟩ := HB2.out r2.2
          rw [← hr3] at x0 x1
          have z3 : IntKind.u16.wrap r3.1 = r3.1 := by rw [IntKind.wrap_u16]; omega
          have E1' : (lkE (j + 1)).1 = L0 ++ [(⟨0, r1.1, r2.1, r3.1⟩ : LockV)] := by rw [E1, hr3, hr2, hr1]; rfl
          have E2' : (lkE (j + 1)).2 = rdZ xs 2 r3.2 := by rw [E2, hr3, hr2, hr1]; rfl
          have D4 := fun w h => CZ.out w g r3.2 h
          rw [← E2'] at D4
          have HE1 := Lib.hid E1'
          have D1' := Lib.hid D1
          have D2' := Lib.hid D2
          have D3' := Lib.hid D3
          have D4' := Lib.hid D4
          clear E1 E2 E1' E2' hr0 hL0 hr1 hr2 hr3 D1 D2 D3 D4 hej x0 x1
          go_wp2_with (first
            | ((with_reducible show wpList _ _ _ (⟨some 10, _, _, _, _, _⟩ :: _) _ _); refine wpList_alloc_blk rfl _ rfl zk _ ZK ?_; intro l y1 hl1 hl2 T1 N1; have HO1 := Lib.hid (HO.out.below N1.out); have KA1 := Lib.hid (KA.out.over N1.out); have ZR1 := Lib.hid (ZR.out.over N1.out); have PR1 := Lib.hid (PR.out.over N1.out); have LR1 := Lib.hid (LR.out.trans (N1.out.mono (by have := LR.out.size; omega))); have hlg : l ≠ g := (by omega); have hla : a ≠ l := (by omega); have hlh : h ≠ l := (by omega); have hlw : w.heap.size ≤ l := (by omega); have hlb : bb ≤ l := (by omega); have HT0 : Hid (zk.length = 4) := HZK; have hb1 : bb ≤ y1.heap.size := Nat.le_trans hsr N1.out.size)
            | fail)
          have hil : ∀ i, v.ownBlock = some i → i < l := fun i hi => by have := OwnS.lt HO.out hi; omega
          refine (D1'.out y1 PR1.out).mono ?_
          rintro e y2 ⟨rfl, hP, hS⟩
          have PR2 := Lib.hid hP
          have HO2 := Lib.hid (OwnS.keep HO1.out fun i cs hi hc => hS.rest i (Array.getElem?_eq_some_iff.1 hc).1 (by have := (World.ownsRow.lt HO1.out i hi).1; omega))
          have KA2 := Lib.hid (KA1.out.save hS hag)
          have ZR2 := Lib.hid (ZR1.out.save hS hhg)
          have T2 := Lib.hid (T1.out.save hS hlg)
          have LR2 := Lib.hid (LR1.out.trans (hS.below hwg LR1.out.size))
          have hb2 : bb ≤ y2.heap.size := Nat.le_trans hb1 hS.size
          clear hP hS HO1 KA1 ZR1 PR1 LR1 T1 hb1
          go_wp2_with (first
            | ((with_reducible show wpList _ _ _ (⟨none, .store _ (.tmp 93) _, _, _, _, _⟩ :: _) _ _); refine wpList_store_fld rfl _ (.tmp 93) (.tmp 92) rfl l 1 rfl _ _ (.int .u64 r1.1) rfl T2 (Lib.hid (by have := HT0.out; omega)) (by kernel_rfl) rfl ?_; intro y3 T3 O3 hq3; obtain ⟨t1, ht1⟩ : ∃ x, x = zk.set 1 (.int .u64 r1.1) := ⟨_, rfl⟩; have HTE1 := Lib.hid ht1; have HT1 : Hid (t1.length = 4) := (by rw [ht1, List.length_set]; exact HT0.out); rw [← ht1] at T3; have PR3 := Lib.hid (PR2.out.only O3.out (Ne.symm hlg) hlw); have HO3 := Lib.hid (OwnS.keep HO2.out fun i cs hi hc => O3.out.rest i (by have := hil i hi; omega)); have KA3 := Lib.hid (KA2.out.only O3.out hla); have ZR3 := Lib.hid (ZR2.out.only O3.out hlh); have LR3 := Lib.hid (below_only LR2.out O3.out hlw); have hb3 : bb ≤ y3.heap.size := (by rw [O3.out.size]; exact hb2); clear ht1)
            | fail)
          refine (D2'.out y3 PR3.out).mono ?_
          rintro e y4 ⟨rfl, hP, hS⟩
          have PR4 := Lib.hid hP
          have HO4 := Lib.hid (OwnS.keep HO3.out fun i cs hi hc => hS.rest i (Array.getElem?_eq_some_iff.1 hc).1 (by have := (World.ownsRow.lt HO3.out i hi).1; omega))
          have KA4 := Lib.hid (KA3.out.save hS hag)
          have ZR4 := Lib.hid (ZR3.out.save hS hhg)
          have T4 := Lib.hid (T3.out.save hS hlg)
          have LR4 := Lib.hid (LR3.out.trans (hS.below hwg LR3.out.size))
          have hb4 : bb ≤ y4.heap.size := Nat.le_trans hb3 hS.size
          clear hP hS HO3 KA3 ZR3 PR3 LR3 T3 hb3
          go_wp2_with (first
            | ((with_reducible show wpList _ _ _ (⟨none, .store _ (.tmp 96) _, _, _, _, _⟩ :: _) _ _); refine wpList_store_fld rfl _ (.tmp 96) (.tmp 95) rfl l 2 rfl _ _ (.int .u64 r2.1) rfl T4 (Lib.hid (by have := HT1.out; omega)) (by kernel_rfl) rfl ?_; intro y5 T5 O5 hq5; obtain ⟨t2, ht2⟩ : ∃ x, x = t1.set 2 (.int .u64 r2.1) := ⟨_, rfl⟩; have HTE2 := Lib.hid ht2; have HT2 : Hid (t2.length = 4) := (by rw [ht2, List.length_set]; exact HT1.out); rw [← ht2] at T5; have PR5 := Lib.hid (PR4.out.only O5.out (Ne.symm hlg) hlw); have HO5 := Lib.hid (OwnS.keep HO4.out fun i cs hi hc => O5.out.rest i (by have := hil i hi; omega)); have KA5 := Lib.hid (KA4.out.only O5.out hla); have ZR5 := Lib.hid (ZR4.out.only O5.out hlh); have LR5 := Lib.hid (below_only LR4.out O5.out hlw); have hb5 : bb ≤ y5.heap.size := (by rw [O5.out.size]; exact hb4); clear ht2)
            | fail)
          refine (D3'.out y5 PR5.out).mono ?_
          rintro e y6 ⟨rfl, hP, hS⟩
          have PR6 := Lib.hid hP
          have HO6 := Lib.hid (OwnS.keep HO5.out fun i cs hi hc => hS.rest i (Array.getElem?_eq_some_iff.1 hc).1 (by have := (World.ownsRow.lt HO5.out i hi).1; omega))
          have KA6 := Lib.hid (KA5.out.save hS hag)
          have ZR6 := Lib.hid (ZR5.out.save hS hhg)
          have T6 := Lib.hid (T5.out.save hS hlg)
          have LR6 := Lib.hid (LR5.out.trans (hS.below hwg LR5.out.size))
          have hb6 : bb ≤ y6.heap.size := Nat.le_trans hb5 hS.size
          clear hP hS HO5 KA5 ZR5 PR5 LR5 T5 hb5
          go_wp2_with (first
            | ((with_reducible show wpList _ _ _ (⟨none, .store _ (.tmp 100) _, _, _, _, _⟩ :: _) _ _); refine wpList_store_fld rfl _ (.tmp 100) (.tmp 99) rfl l 3 rfl _ _ (.int .u16 r3.1) rfl T6 (Lib.hid (by have := HT2.out; omega)) (by kernel_rfl) rfl ?_; intro y7 T7 O7 hq7; obtain ⟨t3, ht3⟩ : ∃ x, x = t2.set 3 (.int .u16 r3.1) := ⟨_, rfl⟩; have HTE3 := Lib.hid ht3; have HT3 : Hid (t3.length = 4) := (by rw [ht3, List.length_set]; exact HT2.out); rw [← ht3] at T7; have PR7 := Lib.hid (PR6.out.only O7.out (Ne.symm hlg) hlw); have HO7 := Lib.hid (OwnS.keep HO6.out fun i cs hi hc => O7.out.rest i (by have := hil i hi; omega)); have KA7 := Lib.hid (KA6.out.only O7.out hla); have ZR7 := Lib.hid (ZR6.out.only O7.out hlh); have LR7 := Lib.hid (below_only LR6.out O7.out hlw); have hb7 : bb ≤ y7.heap.size := (by rw [O7.out.size]; exact hb6); clear ht3)
            | fail)
          have HLKC : Hid (t3 = lockCells ⟨0, r1.1, r2.1, r3.1⟩) := by
            show _ = _
            rw [HTE3.out, HTE2.out, HTE1.out, HZKE.out]
            rfl
          refine (D4'.out y7 PR7.out).mono ?_
          rintro e y8 ⟨⟨u8, rfl⟩, hP, hS⟩
          have PR8 := Lib.hid hP
          have HO8 := Lib.hid (OwnS.keep HO7.out fun i cs hi hc => hS.rest i (Array.getElem?_eq_some_iff.1 hc).1 (by have := (World.ownsRow.lt HO7.out i hi).1; omega))
          have KA8 := Lib.hid (KA7.out.save hS hag)
          have ZR8 := Lib.hid (ZR7.out.save hS hhg)
          have T8 := Lib.hid (T7.out.save hS hlg)
          have LR8 := Lib.hid (LR7.out.trans (hS.below hwg LR7.out.size))
          have hb8 : bb ≤ y8.heap.size := Nat.le_trans hb7 hS.size
          clear hP hS HO7 KA7 ZR7 PR7 LR7 T7 hb7
          have c62 : y8.cell? ⟨a, 62, none⟩ = some v := Blk.at KA8.out (HG62.out v)
          have T9 : Hid (Blk y8 l 69 (lockCells ⟨0, r1.1, r2.1, r3.1⟩)) := by rw [← HLKC.out]; exact T8
          obtain ⟨lv, hlv⟩ : ∃ x : LockV, x = ⟨0, r1.1, r2.1, r3.1⟩ := ⟨_, rfl⟩
          rw [← hlv] at T9 HE1
          have HL4 : Hid ((lockCells lv).length = 4) := rfl
          clear hlv HLKC HTE1 HTE2 HTE3 T8
          go_wp2_with (first
            | ((with_reducible show wpList _ _ _ (⟨some 105, _, _, _, _, _⟩ :: _) _ _); refine wpList_load_blk rfl _ (.tmp 10) rfl l rfl _ (lockCells lv) T9 4 _ Tryd.underlying69 rfl size_lock HL4 ?_)
            | ((with_reducible show wpList _ _ _ (⟨some 106, _, _, _, _, _⟩ :: _) _ _); refine wpList_slice_blk rfl _ _ 1 _ rfl Tryd.underlying30 (lockCells lv) (by refine Eq.trans ?_ (BS lv); kernel_rfl) ?_; intro gl z1 hgl1 hgl2 Y1 M1; have HO9 := Lib.hid (HO8.out.below M1.out); have KA9 := Lib.hid (KA8.out.over M1.out); have ZR9 := Lib.hid (ZR8.out.over M1.out); have PR9 := Lib.hid (PR8.out.over M1.out); have LR9 := Lib.hid (LR8.out.trans (M1.out.mono (by have := LR8.out.size; omega))); have hb9 : bb ≤ z1.heap.size := Nat.le_trans hb8 M1.out.size)
            | (at_builtin; refine wpList_append_holdS rfl (.tmp 104) (.tmp 106) lockCells 4 (by omega) lockCells_len lockCells_one _ rfl 30 69 32 Tryd.underlying30 info_lock rfl bb _ L0 rfl HO9.out (gl + 1) _ 1 1 [lv] rfl (HoldsS.oneLock Y1.out) (by show (L0.length + 1) * 32 ≤ _; omega) (by show L0.length + 1 ≤ _; omega) hb9 ?_; intro u5 z2 HOa Ma; have KAa := Lib.hid (KA9.out.below Ma.out hab); have ZRa := Lib.hid (ZR9.out.below Ma.out hhb); have PRa := Lib.hid (PR9.out.belowAt Ma.out hgb); have LRa := Lib.hid (LR9.out.trans (Ma.out.mono hwb)); have hba : bb ≤ z2.heap.size := Nat.le_trans hb9 Ma.out.size)
            | ((with_reducible show wpList _ _ _ (⟨none, .store _ (.tmp 108) _, _, _, _, _⟩ :: _) _ _); refine wpList_store_fld rfl _ (.tmp 108) (.tmp 107) rfl a 62 rfl _ (C1.set 62 v) u5 rfl KAa (Lib.hid (by have := HLC.out v; omega)) (by kernel_rfl) (ownS_one HOa.out) ?_; intro z3 KAb Ob hqb; rw [HC62.out v u5] at KAb; have HOb := Lib.hid (OwnS.only HOa.out Ob.out hab); have ZRb := Lib.hid (ZRa.out.only Ob.out hha); have PRb := Lib.hid (PRa.out.only Ob.out (Ne.symm hag) hwa); have LRb := Lib.hid (below_only LRa.out Ob.out hwa); have hbb' : bb ≤ z3.heap.size := (by rw [Ob.out.size]; exact hba))
            | fail)
          rw [← HE1.out] at HOb
          clear HOa KAa ZRa PRa LRa HO9 KA9 ZR9 PR9 LR9 HO8 KA8 ZR8 PR8 LR8 T9 Y1 M1 Ma Ob c62
          go_roundw
          case rel => exact ⟨j + 1, by simp, by omega, u5, HOb, KAb, ZRb, PRb, LRb, hbb'⟩
          case measure => simp [intOf]; omega
        · skip
          have heb : ((lkE j).2.e == 0) = false := by simpa using hej
          have LKE : lkE N = lkE j := HLT.out j N hj hej
          have PN : Hid (RP wr g w.heap.size A n k xs (lkE N).2) := by rw [LKE]; exact PR
          clear hej
          go_wp2_with fail
          have HVO := Lib.hid (ownS_one HO.out)
          have HLC' : Hid ((C1.set 62 v).length = 69) := HLC.out v
          refine (CE.out wr g PN.out).mono ?_
          rintro e we ⟨rfl, kk, rfl⟩
          have Ze := Lib.hid (Blk.drewN ZR.out kk)
          have Ke := Lib.hid (Blk.drewN KA.out kk)
          have Le : Hid (Below w.heap.size w (wr.drewN kk)) := step LR.out (drewed _ kk)
          obtain ⟨wq, hwq⟩ : ∃ wq, wq = wr.drewN kk := ⟨_, rfl⟩
          have HWQ := Lib.hid hwq
          rw [← hwq] at Ze Ke Le ⊢
          clear hwq
          by_cases he : er = 0
          rotate_left
          · have hne : (er != 0) = true := by simpa using he
            have HN := Lib.hid (HE'.out he)
            clear he HE' HQ
            go_wp2_with (first
              | ((with_reducible show wpList _ _ _ (⟨some 113, _, _, _, _, _⟩ :: _) _ _); refine wpList_build_none rfl _ rfl zs BZ ?_)
              | ((with_reducible show wpList _ _ _ (⟨none, .store _ (.tmp 4) _, _, _, _, _⟩ :: _) _ _); refine wpList_store_blk rfl _ (.tmp 4) (.tmp 113) rfl h rfl _ zs zs rfl Ze 69 size_ask HZ HZ HZ1 ?_; intro w10 K10 O10 hg10)
              | fail)
            refine bodyPost_ret (v := .tuple #[.agg zs.toArray, .int .i64 er]) ?_ rfl (HN.out _ _ rfl (below_only Le.out O10.out (by omega)))
            exact results_cell_two rfl _ _ h _ _ (0, 0) _ rfl K10.out Tryd.underlying32 rfl (by rw [size_ask]; have := HZ.out; simp [this]) rfl
          · subst he
            have HEQ : Hid (C1.set 62 v = acells (.slice none 0 0) (.slice none 0 0) v { zeroAsk with file := q1.1, locks := locks5 }) := by
              show _ = _
              rw [HEQ1.out]
              rfl
            have H1C : Hid (∀ qv ∈ (C1.set 62 v), qv.oneCell' = true) := by
              show _
              rw [HEQ.out]
              exact acells_one rfl rfl HVO.out
            go_wp2_with (first
              | ((with_reducible show wpList _ _ _ (⟨some 115, _, _, _, _, _⟩ :: _) _ _); refine wpList_load_blk rfl _ (.tmp 7) rfl a rfl _ (C1.set 62 v) Ke 69 _ Tryd.underlying32 rfl size_ask HLC' ?_)
              | ((with_reducible show wpList _ _ _ (⟨none, .store _ (.tmp 4) _, _, _, _, _⟩ :: _) _ _); refine wpList_store_blk rfl _ (.tmp 4) (.tmp 115) rfl h rfl _ zs (C1.set 62 v) rfl Ze 69 size_ask HZ HLC' H1C ?_; intro w10 K10 O10 hg10)
              | fail)
            refine bodyPost_ret (v := .tuple #[.agg (C1.set 62 v).toArray, .int .i64 0]) ?_ rfl ?_
            · exact results_cell_two rfl _ _ h _ _ (0, 0) _ rfl K10.out Tryd.underlying32 rfl (by rw [size_ask]; have := HLC'.out; simp [this]) rfl
            · have LF : Below w.heap.size w w10 := below_only Le.out O10.out (by omega)
              have VF0 : OwnS lockCells 4 69 wq bb v (lkE j).1 := by rw [HWQ.out]; exact OwnS.keep HO.out fun _ _ _ _ => rfl
              have VF := OwnS.only VF0 O10.out hhb
              obtain ⟨Al, nl, kl, hul, hHl⟩ := OwnS.holds (by decide) lockCells_len VF
              have HLK := HEND.out (by trivial)
              rw [LKE] at HLK
              rw [← HLK] at hHl
              exact HQ.out _ _ _ (by trivial) rfl ⟨none, 0, 0, none, 0, 0, Al, nl, kl, by rw [HEQ.out, hul], HoldsF.nil _ _ _, Holds.nil _ _, hHl⟩ LF
      · obtain rfl : N = j := by omega
        go_wp2_with fail
        have HVO := Lib.hid (ownS_one HO.out)
        have HLC' : Hid ((C1.set 62 v).length = 69) := HLC.out v
        refine (CE.out wr g PR.out).mono ?_
        rintro e we ⟨rfl, kk, rfl⟩
        have Ze := Lib.hid (Blk.drewN ZR.out kk)
        have Ke := Lib.hid (Blk.drewN KA.out kk)
        have Le : Hid (Below w.heap.size w (wr.drewN kk)) := step LR.out (drewed _ kk)
        obtain ⟨wq, hwq⟩ : ∃ wq, wq = wr.drewN kk := ⟨_, rfl⟩
        have HWQ := Lib.hid hwq
        rw [← hwq] at Ze Ke Le ⊢
        clear hwq
        by_cases he : er = 0
        rotate_left
        · have hne : (er != 0) = true := by simpa using he
          have HN := Lib.hid (HE'.out he)
          clear he HE' HQ
          go_wp2_with (first
            | ((with_reducible show wpList _ _ _ (⟨some 113, _, _, _, _, _⟩ :: _) _ _); refine wpList_build_none rfl _ rfl zs BZ ?_)
            | ((with_reducible show wpList _ _ _ (⟨none, .store _ (.tmp 4) _, _, _, _, _⟩ :: _) _ _); refine wpList_store_blk rfl _ (.tmp 4) (.tmp 113) rfl h rfl _ zs zs rfl Ze 69 size_ask HZ HZ HZ1 ?_; intro w10 K10 O10 hg10)
            | fail)
          refine bodyPost_ret (v := .tuple #[.agg zs.toArray, .int .i64 er]) ?_ rfl (HN.out _ _ rfl (below_only Le.out O10.out (by omega)))
          exact results_cell_two rfl _ _ h _ _ (0, 0) _ rfl K10.out Tryd.underlying32 rfl (by rw [size_ask]; have := HZ.out; simp [this]) rfl
        · subst he
          have HEQ : Hid (C1.set 62 v = acells (.slice none 0 0) (.slice none 0 0) v { zeroAsk with file := q1.1, locks := locks5 }) := by
            show _ = _
            rw [HEQ1.out]
            rfl
          have H1C : Hid (∀ qv ∈ (C1.set 62 v), qv.oneCell' = true) := by
            show _
            rw [HEQ.out]
            exact acells_one rfl rfl HVO.out
          go_wp2_with (first
            | ((with_reducible show wpList _ _ _ (⟨some 115, _, _, _, _, _⟩ :: _) _ _); refine wpList_load_blk rfl _ (.tmp 7) rfl a rfl _ (C1.set 62 v) Ke 69 _ Tryd.underlying32 rfl size_ask HLC' ?_)
            | ((with_reducible show wpList _ _ _ (⟨none, .store _ (.tmp 4) _, _, _, _, _⟩ :: _) _ _); refine wpList_store_blk rfl _ (.tmp 4) (.tmp 115) rfl h rfl _ zs (C1.set 62 v) rfl Ze 69 size_ask HZ HLC' H1C ?_; intro w10 K10 O10 hg10)
            | fail)
          refine bodyPost_ret (v := .tuple #[.agg (C1.set 62 v).toArray, .int .i64 0]) ?_ rfl ?_
          · exact results_cell_two rfl _ _ h _ _ (0, 0) _ rfl K10.out Tryd.underlying32 rfl (by rw [size_ask]; have := HLC'.out; simp [this]) rfl
          · have LF : Below w.heap.size w w10 := below_only Le.out O10.out (by omega)
            have VF0 : OwnS lockCells 4 69 wq bb v (lkE N).1 := by rw [HWQ.out]; exact OwnS.keep HO.out fun _ _ _ _ => rfl
            have VF := OwnS.only VF0 O10.out hhb
            obtain ⟨Al, nl, kl, hul, hHl⟩ := OwnS.holds (by decide) lockCells_len VF
            have HLK := HEND.out (by trivial)
            skip
            rw [← HLK] at hHl
            exact HQ.out _ _ _ (by trivial) rfl ⟨none, 0, 0, none, 0, 0, Al, nl, kl, by rw [HEQ.out, hul], HoldsF.nil _ _ _, Holds.nil _ _, hHl⟩ LF
end Go.Proofs.YtdlcjobahdmapaaDoor
