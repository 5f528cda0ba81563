import Derived.WalkKit
import Derived.Deep.Draws
import Derived.Laws.Rows
import Derived.Laws.OwnMore
import Derived.Lib.RuneBytes
import Derived.Lib.ValidLaws
import Derived.Test.YtdlcjobahdmapaaDoorRows
import Derived.Laws.CopyOwn
import Derived.Laws.AppendOwnNone
import Derived.Lib.Hide
import Derived.Laws.AppendOwn
import Derived.OwnWalk
import Derived.Lib.OthersKept
import Derived.Laws.BytesArg
import Derived.Shelf.Utf8.AppendRunePlain
import Derived.Shelf.Unicode.ValidAny
import Derived.Test.YtdlcjobahdmapaaDoorProg
import Derived.WalkSpells
import Derived.WalkLawsBesides
import Derived.Deep.QuietTactic
import Derived.BigQuiet
import Derived.Laws.Bits64
import Derived.Laws.BitsAllLaws
import Derived.ProofKit
import Derived.OpenShut
import Derived.ShutString
import Derived.SizedLaws
import Derived.ChangeOld
import Derived.Lib.AppendZeros
import Derived.Deep.RegionWith
import Derived.Deep.DeepCutAuto
import Derived.Great.Walk
import Derived.Laws.Tables
import Derived.Laws.NewFold
import Derived.Deep.WholeRow
import Derived.Deep.MidRow
import Derived.OneCell
import Derived.Deep.Strs
import Derived.OrdersHeld
import Derived.Laws.StructEq
import Derived.ChangeKeysEq
import Derived.Deep.RegionLaw
import Derived.Deep.OwnRows
import Derived.Lib.LaidIn
import Derived.Lib.LaidU8T
import Derived.Deep.DeepHandedRow
import Derived.Test.YtdlcjobahdmapaaDoorWAC
namespace Go.Proofs.YtdlcjobahdmapaaDoor
set_option linter.all false
open Go.RowKit
set_option linter.unusedVariables false
set_option maxRecDepth 100000
/-- what GetAsk, GetSay answer; the Data is the call's own, noughts behind it -/
def FGAskPost (w : World) (c : Int) (xs : List Int) (e : Ending) (w' : World) : Prop := ∃ cs vx, e = .returned (.tuple #[.agg cs.toArray, .int .i64 (fgErr c xs)]) ∧ AskIs w' w'.heap.size cs (fgOf c xs) ∧ cs[61]? = some vx ∧ OwnZ .u8 5 w' w.heap.size vx (fgOf c xs).data ∧ Below w.heap.size w w'
def FGSayPost (w : World) (c : Int) (xs : List Int) (e : Ending) (w' : World) : Prop := ∃ cs vx, e = .returned (.tuple #[.agg cs.toArray, .int .i64 (sgErr c xs)]) ∧ SayIs w' w'.heap.size cs (sgOf c xs) ∧ cs[15]? = some vx ∧ OwnZ .u8 5 w' w.heap.size vx (sgOf c xs).data ∧ Below w.heap.size w w'
theorem OwnZ.onlyAt {k : IntKind} {e : TypeId} {w w' : World} {base b : Nat} {v : Value} {xs : List Int} (h : OwnZ k e w base v xs) (hO : Only b w w') (hb : b < base) : OwnZ k e w' base v xs :=
  h.keep fun i cs hi hc => hO.rest i (by
    obtain ⟨h1, _⟩ := h.own.block hi
    omega)
theorem rdEnd_e {xs : List Int} {r : Rd} (h : rdEnd xs r = 0) : r.e = 0 := rdEnd_zero h
theorem rdN_e {xs : List Int} {s : Nat} {r : Rd} (h : (rdN xs s r).2.e = 0) : r.e = 0 := by
  by_cases he : r.e = 0
  · exact he
  · rw [rdN_stick he] at h; exact h
theorem rdZ_e {xs : List Int} {m : Nat} {r : Rd} (h : (rdZ xs m r).e = 0) : r.e = 0 := by
  by_cases he : r.e = 0
  · exact he
  · rw [rdZ_stick he] at h; exact h
theorem rdUp_e {xs : List Int} {m : Int} {r : Rd} (h : (rdUp xs m r).2.e = 0) : r.e = 0 := by
  by_cases he : r.e = 0
  · exact he
  · rw [rdUp_stick he] at h; exact h
theorem zero_fr : (Tryd.prog.info? 75).map (fun i => (i.zero, i.size)) = some (some (.agg ([.slice none 0 0, .int .i64 0] : List Value).toArray), 2) := by kernel_rfl
theorem size_fr : (Tryd.prog.info? 75).map (·.size) = some 2 := by kernel_rfl
theorem sgP_made {xs : List Int} (h : rdEnd xs (s7 xs) = 0) : (s3 xs).1 ≤ 2 ∧ (s6 xs).1 ≤ 2 := by
  have h7 : (s6 xs).2.e = 0 := rdZ_e (rdEnd_e h)
  have h6 := rdUp_ok h7
  have h5 : (s4 xs).2.e = 0 := rdN_e (rdUp_e h7)
  have h3 := rdUp_ok (rdN_e h5)
  exact ⟨by rw [show s3 xs = rdN xs 2 (s2 xs).2 from h3.2.2]; exact h3.2.1, by rw [show s6 xs = rdN xs 2 (s5 xs).2 from h6.2.2]; exact h6.2.1⟩
theorem ownZ_one {w : World} {base : Nat} {v : Value} {xs : List Int} (h : OwnZ .u8 5 w base v xs) : v.oneCell' = true := by
  rcases h with ⟨rfl, _⟩ | ⟨g, m, rfl, _⟩ <;> rfl
theorem ownS_one {w : World} {base : Nat} {v : Value} {xs : List LockV} (h : OwnS lockCells 4 69 w base v xs) : v.oneCell' = true := by
  obtain ⟨_, _, _, rfl, _⟩ := OwnS.holds (by decide) lockCells_len h
  rfl
theorem rdData_le {xs : List Int} (hx : Bytes xs) (r : Rd) : Bytes (rdData xs r).1 ∧ (rdData xs r).1.length ≤ 32768 := by
  obtain ⟨m0, m1⟩ := rdMost_lt hx 4 32768 3 r (by decide) (by decide)
  refine ⟨rdPart_bytes hx _ _, ?_⟩
  have h := rdPart_len (xs := xs) (m := (rdMost xs 4 32768 3 r).1.toNat) (r := (rdMost xs 4 32768 3 r).2)
  show (rdPart xs (rdMost xs 4 32768 3 r).1.toNat (rdMost xs 4 32768 3 r).2).1.length ≤ _
  omega
set_option maxHeartbeats 4000000 in
theorem FGetAsk_any (w : World) (c : Int) (A : Option Addr) (n k : Nat) (xs : List Int) (hc : 0 ≤ c ∧ c ≤ 65535) (hx : Holds w w.heap.size A n k xs) :
    Calls Tryd.prog 22 #[.int .u16 c, .slice A n k] w (FGAskPost w c xs) := by
  have hby := hx.byte
  have HX := Lib.hid hx
  have hmf : ∀ (fn : Fn) (first cap : Array Value) (w : World), (Instr.makeFunc fn first cap).run Tryd.prog w = .ok (.func fn first cap) w := fun _ _ _ _ => rfl
  have ZH := Lib.hid zero_ask
  have BZ := built_ask
  have ZR := Lib.hid zero_fr
  have HZ : Hid ((acells (.slice none 0 0) (.slice none 0 0) (.slice none 0 0) zeroAsk).length = 69) := acells_len zeroAsk_ok
  have HZ1 : Hid (∀ v ∈ acells (.slice none 0 0) (.slice none 0 0) (.slice none 0 0) zeroAsk, v.oneCell' = true) := (zeroAsk_is w 0).one
  have HZI : Hid (∀ w' : World, AskIs w' w'.heap.size (acells (.slice none 0 0) (.slice none 0 0) (.slice none 0 0) zeroAsk) zeroAsk) := fun w' => zeroAsk_is w' _
  have HZD : Hid ((acells (.slice none 0 0) (.slice none 0 0) (.slice none 0 0) zeroAsk)[61]? = some (.slice none 0 0)) := rfl
  have BR : Tryd.prog.built 75 [(0, .slice A n k)] = some ([.slice A n k, .int .i64 0] : List Value).toArray := by kernel_rfl
  have HR0 : Hid (([.slice none 0 0, .int .i64 0] : List Value).length = 2) := rfl
  have HR1 : Hid (([.slice A n k, .int .i64 0] : List Value).length = 2) := rfl
  have HR2 : Hid (∀ v ∈ ([.slice A n k, .int .i64 0] : List Value), v.oneCell' = true) := by
    intro v hv
    rcases List.mem_cons.1 hv with rfl | hv
    · rfl
    · rw [List.mem_singleton.1 hv]; rfl
  have HE : Hid (∀ er, fgErr c xs = er → er ≠ 0 → ∀ e w', e = .returned (.tuple #[.agg (acells (.slice none 0 0) (.slice none 0 0) (.slice none 0 0) zeroAsk).toArray, .int .i64 er]) → Below w.heap.size w w' → FGAskPost w c xs e w') := by
    intro er h1 h2 e w' he hb
    unfold FGAskPost fgOf
    rw [h1, if_neg h2]
    exact ⟨_, _, he, HZI.out w', HZD.out, OwnZ.nil _ _ _ _, hb⟩
  obtain ⟨zs, hzs⟩ : ∃ zs, zs = acells (.slice none 0 0) (.slice none 0 0) (.slice none 0 0) zeroAsk := ⟨_, rfl⟩
  have HZS := Lib.hid hzs
  rw [← hzs] at ZH BZ HZ HZ1 HE
  clear hzs HZI HZD
  by_cases hk : knownF c = true
  rotate_left
  · have HQ := Lib.hid (HE.out 2 (by unfold fgErr; rw [if_neg hk]) (by decide))
    have hk' : c ≠ 5 ∧ c ≠ 6 ∧ c ≠ 7 ∧ c ≠ 8 ∧ c ≠ 9 ∧ c ≠ 10 := by
      refine ⟨?_, ?_, ?_, ?_, ?_, ?_⟩ <;> (rintro rfl; exact hk (by decide))
    obtain ⟨h5, h6, h7, h8, h9, h10⟩ := hk'
    have b5 : (c == 5) = false := by simpa using h5
    have b6 : (c == 6) = false := by simpa using h6
    have b7 : (c == 7) = false := by simpa using h7
    have b8 : (c == 8) = false := by simpa using h8
    have b9 : (c == 9) = false := by simpa using h9
    have b10 : (c == 10) = false := by simpa using h10
    clear hk HE hx h5 h6 h7 h8 h9 h10
    go_enter Tryd.func22, Tryd.ntmps22
    go_wp2_with (first
      | ((with_reducible show wpList _ _ _ (⟨some 4, _, _, _, _, _⟩ :: _) _ _); refine wpList_alloc_blk rfl _ rfl zs _ ZH ?_; intro h w1 hg1 hg2 Z1 L1)
      | ((with_reducible show wpList _ _ _ (⟨some 6, _, _, _, _, _⟩ :: _) _ _); refine wpList_alloc_blk rfl _ rfl zs _ ZH ?_; intro a w2 hg3 hg4 K2 L02; have Z2 := Lib.hid (Z1.out.over L02.out); have L2 := Lib.hid (step L1.out L02.out); have hha : h ≠ a := (by omega); have hwa : w.heap.size ≤ a := (by have := L1.out.size; omega); have hsz2 := L2.out.size)
      | ((with_reducible show wpList _ _ _ (⟨some 13, _, _, _, _, _⟩ :: _) _ _); refine wpList_build_blk rfl _ _ rfl ([.slice A n k, .int .i64 0] : List Value) (by refine Eq.trans ?_ BR; kernel_rfl) ?_)
      | ((with_reducible show wpList _ _ _ (⟨some 7, _, _, _, _, _⟩ :: _) _ _); refine wpList_alloc_blk rfl _ rfl ([.slice none 0 0, .int .i64 0] : List Value) _ ZR ?_; intro g w3 hg5 hg6 R3 L03; have K3 := Lib.hid (K2.out.over L03.out); have Z3 := Lib.hid (Z2.out.over L03.out); have L3 := Lib.hid (step L2.out L03.out); have hag : a ≠ g := (by omega); have hhg : h ≠ g := (by have := Z2.out.lt; omega); have hwg : w.heap.size ≤ g := (by omega))
      | ((with_reducible show wpList _ _ _ (⟨none, .store _ (.tmp 7) _, _, _, _, _⟩ :: _) _ _); refine wpList_store_blk rfl _ (.tmp 7) (.tmp 13) rfl g rfl _ ([.slice none 0 0, .int .i64 0] : List Value) ([.slice A n k, .int .i64 0] : List Value) rfl R3 2 size_fr HR0 HR1 HR2 ?_; intro w4 R4 O4 hg7; have K4 := Lib.hid (K3.out.only O4.out hag); have Z4 := Lib.hid (Z3.out.only O4.out hhg); have L4 := Lib.hid (below_only L3.out O4.out hwg))
      | ((with_reducible show wpList _ _ _ (⟨some 18, _, _, _, _, _⟩ :: _) _ _); refine wpList_build_none rfl _ rfl zs BZ ?_)
      | ((with_reducible show wpList _ _ _ (⟨none, .store _ (.tmp 4) _, _, _, _, _⟩ :: _) _ _); refine wpList_store_blk rfl _ (.tmp 4) (.tmp 18) rfl h rfl _ zs zs rfl Z4 69 size_ask HZ HZ HZ1 ?_; intro w10 K10 O10 hg10)
      | fail)
    refine bodyPost_ret (v := .tuple #[.agg zs.toArray, .int .i64 2]) ?_ rfl (HQ.out _ _ rfl (below_only L4.out O10.out (by omega)))
    exact results_cell_two rfl _ _ h _ _ (0, 0) _ rfl K10.out Tryd.underlying32 rfl (by rw [size_ask]; have := HZ.out; simp [this]) rfl
  have hcs : c = 5 ∨ c = 6 ∨ c = 7 ∨ c = 8 ∨ c = 9 ∨ c = 10 := by unfold knownF at hk; simp at hk; omega
  rcases hcs with h5 | h6 | h7 | h8 | h9 | h10
  · subst h5
    have D1 : Hid (∀ (w' : World) (g : Nat), PF w' g w.heap.size xs rd0 → Calls Tryd.prog 46 #[.pointer (some ⟨g, 0, none⟩)] w' fun e w2 => e = .returned (.int .u32 (c1 xs).1) ∧ PF w2 g w.heap.size xs (c1 xs).2 ∧ Only g w' w2) := fun w' g h => ffour_any w' g w.heap.size xs _ hby h
    have D2 : Hid (∀ (w' : World) (g : Nat), PF w' g w.heap.size xs (c1 xs).2 → Calls Tryd.prog 46 #[.pointer (some ⟨g, 0, none⟩)] w' fun e w2 => e = .returned (.int .u32 (c2 xs).1) ∧ PF w2 g w.heap.size xs (c2 xs).2 ∧ Only g w' w2) := fun w' g h => ffour_any w' g w.heap.size xs _ hby h
    have D3 : Hid (∀ (w' : World) (g : Nat), PF w' g w.heap.size xs (c2 xs).2 → Calls Tryd.prog 46 #[.pointer (some ⟨g, 0, none⟩)] w' fun e w2 => e = .returned (.int .u32 (c3 xs).1) ∧ PF w2 g w.heap.size xs (c3 xs).2 ∧ Only g w' w2) := fun w' g h => ffour_any w' g w.heap.size xs _ hby h
    have D4 : Hid (∀ (w' : World) (g : Nat), PF w' g w.heap.size xs (c3 xs).2 → Calls Tryd.prog 46 #[.pointer (some ⟨g, 0, none⟩)] w' fun e w2 => e = .returned (.int .u32 (c4 xs).1) ∧ PF w2 g w.heap.size xs (c4 xs).2 ∧ Only g w' w2) := fun w' g h => ffour_any w' g w.heap.size xs _ hby h
    have D5 : Hid (∀ (w' : World) (g : Nat), PF w' g w.heap.size xs (c4 xs).2 → Calls Tryd.prog 45 #[.pointer (some ⟨g, 0, none⟩)] w' fun e w2 => e = .returned (.int .u8 (c5 xs).1) ∧ PF w2 g w.heap.size xs (c5 xs).2 ∧ Only g w' w2) := fun w' g h => fone_any w' g w.heap.size xs _ hby h
    have D6 : Hid (∀ (w' : World) (g : Nat), PF w' g w.heap.size xs (c5 xs).2 → Calls Tryd.prog 45 #[.pointer (some ⟨g, 0, none⟩)] w' fun e w2 => e = .returned (.int .u8 (c6 xs).1) ∧ PF w2 g w.heap.size xs (c6 xs).2 ∧ Only g w' w2) := fun w' g h => fone_any w' g w.heap.size xs _ hby h
    have D7 : Hid (∀ (w' : World) (g : Nat), PF w' g w.heap.size xs (c6 xs).2 → Calls Tryd.prog 48 #[.pointer (some ⟨g, 0, none⟩), .int .i64 2] w' fun e w2 => e = .returned (.tuple #[]) ∧ PF w2 g w.heap.size xs (c7 xs) ∧ Only g w' w2) := fun w' g h => fnought_any w' g w.heap.size xs _ 2 hby h (by decide)
    have D8 : Hid (∀ (w' : World) (g : Nat), PF w' g w.heap.size xs (c7 xs) → Calls Tryd.prog 47 #[.pointer (some ⟨g, 0, none⟩)] w' fun e w2 => e = .returned (.int .u64 (c8 xs).1) ∧ PF w2 g w.heap.size xs (c8 xs).2 ∧ Only g w' w2) := fun w' g h => feight_any w' g w.heap.size xs _ hby h
    have D9 : Hid (∀ (w' : World) (g : Nat), PF w' g w.heap.size xs (c8 xs).2 → Calls Tryd.prog 49 #[.pointer (some ⟨g, 0, none⟩)] w' fun e w2 => e = .returned (.string ⟨(c9 xs).1.toArray⟩) ∧ PF w2 g w.heap.size xs (c9 xs).2 ∧ Save g w' w2) := fun w' g h => ftext_any w' g w.heap.size xs _ hby h
    have DE : Hid (∀ (w' : World) (g : Nat), PF w' g w.heap.size xs (c9 xs).2 → Calls Tryd.prog 52 #[.pointer (some ⟨g, 0, none⟩)] w' fun e w2 => e = .returned (.int .i64 (rdEnd xs (c9 xs).2)) ∧ w' = w2) := fun w' g h => fend_any w' g w.heap.size xs _ h
    have hge : fgErr 5 xs = rdEnd xs (c9 xs).2 := by unfold fgErr; rw [if_pos hk]; rfl
    have HQ : Hid (∀ (cs : List Value) (vx : Value) (e : Ending) (w' : World), rdEnd xs (c9 xs).2 = 0 → e = .returned (.tuple #[.agg cs.toArray, .int .i64 0]) → AskIs w' w'.heap.size cs { zeroAsk with acc := (c1 xs).1, shr := (c2 xs).1, way := (c3 xs).1, opt := (c4 xs).1, lev := (c5 xs).1, dur := (c6 xs).1, file := (c8 xs).1, name := ⟨(c9 xs).1.toArray⟩ } → cs[61]? = some vx → OwnZ .u8 5 w' w.heap.size vx ({ zeroAsk with acc := (c1 xs).1, shr := (c2 xs).1, way := (c3 xs).1, opt := (c4 xs).1, lev := (c5 xs).1, dur := (c6 xs).1, file := (c8 xs).1, name := ⟨(c9 xs).1.toArray⟩ }).data → Below w.heap.size w w' → FGAskPost w 5 xs e w') := by
      intro cs vx e w' h0 h1 h2 h3 h4 h5
      have ho : fgOf 5 xs = { zeroAsk with acc := (c1 xs).1, shr := (c2 xs).1, way := (c3 xs).1, opt := (c4 xs).1, lev := (c5 xs).1, dur := (c6 xs).1, file := (c8 xs).1, name := ⟨(c9 xs).1.toArray⟩ } := by unfold fgOf; rw [hge, h0, if_pos rfl]; rfl
      unfold FGAskPost
      rw [hge, h0, ho]
      exact ⟨cs, vx, h1, h2, h3, h4, h5⟩
    have HE' := Lib.hid (HE.out _ hge)
    obtain ⟨er, her⟩ : ∃ x, x = rdEnd xs (c9 xs).2 := ⟨_, rfl⟩
    rw [← her] at DE HQ HE' 
    obtain ⟨q1, hq1⟩ : ∃ x, x = (c1 xs) := ⟨_, rfl⟩
    rw [← hq1] at D1 D2 HQ
    obtain ⟨q2, hq2⟩ : ∃ x, x = (c2 xs) := ⟨_, rfl⟩
    rw [← hq2] at D2 D3 HQ
    obtain ⟨q3, hq3⟩ : ∃ x, x = (c3 xs) := ⟨_, rfl⟩
    rw [← hq3] at D3 D4 HQ
    obtain ⟨q4, hq4⟩ : ∃ x, x = (c4 xs) := ⟨_, rfl⟩
    rw [← hq4] at D4 D5 HQ
    obtain ⟨q5, hq5⟩ : ∃ x, x = (c5 xs) := ⟨_, rfl⟩
    rw [← hq5] at D5 D6 HQ
    obtain ⟨q6, hq6⟩ : ∃ x, x = (c6 xs) := ⟨_, rfl⟩
    rw [← hq6] at D6 D7 HQ
    obtain ⟨q7, hq7⟩ : ∃ x, x = (c7 xs) := ⟨_, rfl⟩
    rw [← hq7] at D7 D8
    obtain ⟨q8, hq8⟩ : ∃ x, x = (c8 xs) := ⟨_, rfl⟩
    rw [← hq8] at D8 D9 HQ
    obtain ⟨q9, hq9⟩ : ∃ x, x = (c9 xs) := ⟨_, rfl⟩
    rw [← hq9] at D9 DE HQ
    clear her hge HE hk hx hq1 hq2 hq3 hq4 hq5 hq6 hq7 hq8 hq9
    go_enter Tryd.func22, Tryd.ntmps22
    go_wp2_with (first
      | ((with_reducible show wpList _ _ _ (⟨some 4, _, _, _, _, _⟩ :: _) _ _); refine wpList_alloc_blk rfl _ rfl zs _ ZH ?_; intro h w1 hg1 hg2 Z1 L1)
      | ((with_reducible show wpList _ _ _ (⟨some 6, _, _, _, _, _⟩ :: _) _ _); refine wpList_alloc_blk rfl _ rfl zs _ ZH ?_; intro a w2 hg3 hg4 K2 L02; have Z2 := Lib.hid (Z1.out.over L02.out); have L2 := Lib.hid (step L1.out L02.out); have hha : h ≠ a := (by omega); have hwa : w.heap.size ≤ a := (by have := L1.out.size; omega); have hsz2 := L2.out.size)
      | ((with_reducible show wpList _ _ _ (⟨some 13, _, _, _, _, _⟩ :: _) _ _); refine wpList_build_blk rfl _ _ rfl ([.slice A n k, .int .i64 0] : List Value) (by refine Eq.trans ?_ BR; kernel_rfl) ?_)
      | ((with_reducible show wpList _ _ _ (⟨some 7, _, _, _, _, _⟩ :: _) _ _); refine wpList_alloc_blk rfl _ rfl ([.slice none 0 0, .int .i64 0] : List Value) _ ZR ?_; intro g w3 hg5 hg6 R3 L03; have K3 := Lib.hid (K2.out.over L03.out); have Z3 := Lib.hid (Z2.out.over L03.out); have L3 := Lib.hid (step L2.out L03.out); have hag : a ≠ g := (by omega); have hhg : h ≠ g := (by have := Z2.out.lt; omega); have hwg : w.heap.size ≤ g := (by omega))
      | ((with_reducible show wpList _ _ _ (⟨none, .store _ (.tmp 7) _, _, _, _, _⟩ :: _) _ _); refine wpList_store_blk rfl _ (.tmp 7) (.tmp 13) rfl g rfl _ ([.slice none 0 0, .int .i64 0] : List Value) ([.slice A n k, .int .i64 0] : List Value) rfl R3 2 size_fr HR0 HR1 HR2 ?_; intro w4 R4 O4 hg7; have K4 := Lib.hid (K3.out.only O4.out hag); have Z4 := Lib.hid (Z3.out.only O4.out hhg); have L4 := Lib.hid (below_only L3.out O4.out hwg))
      | fail)
    have P4 : Hid (PF w4 g w.heap.size xs rd0) := ⟨Nat.zero_le _, hwg, A, n, k, R4.out, HX.out.below L4.out⟩
    clear R3 L03 K2 K3 Z1 Z2 Z3 L02 L1 L2 L3 R4 O4 HX
    refine (D1.out w4 g P4.out).mono ?_
    rintro e v1 ⟨rfl, hP, hO⟩
    have hS := Save.of_only hO
    have Pc1 := Lib.hid hP
    have Zc1 := Lib.hid (Z4.out.save hS hhg)
    have Kc1 := Lib.hid (K4.out.save hS hag)
    have Lc1 := Lib.hid (L4.out.trans (hS.below hwg L4.out.size))
    clear hP hS P4 Z4 K4 L4 hO
    go_wp2_with fail
    refine (D2.out v1 g Pc1.out).mono ?_
    rintro e v2 ⟨rfl, hP, hO⟩
    have hS := Save.of_only hO
    have Pc2 := Lib.hid hP
    have Zc2 := Lib.hid (Zc1.out.save hS hhg)
    have Kc2 := Lib.hid (Kc1.out.save hS hag)
    have Lc2 := Lib.hid (Lc1.out.trans (hS.below hwg Lc1.out.size))
    clear hP hS Pc1 Zc1 Kc1 Lc1 hO
    go_wp2_with fail
    refine (D3.out v2 g Pc2.out).mono ?_
    rintro e v3 ⟨rfl, hP, hO⟩
    have hS := Save.of_only hO
    have Pc3 := Lib.hid hP
    have Zc3 := Lib.hid (Zc2.out.save hS hhg)
    have Kc3 := Lib.hid (Kc2.out.save hS hag)
    have Lc3 := Lib.hid (Lc2.out.trans (hS.below hwg Lc2.out.size))
    clear hP hS Pc2 Zc2 Kc2 Lc2 hO
    go_wp2_with fail
    refine (D4.out v3 g Pc3.out).mono ?_
    rintro e v4 ⟨rfl, hP, hO⟩
    have hS := Save.of_only hO
    have Pc4 := Lib.hid hP
    have Zc4 := Lib.hid (Zc3.out.save hS hhg)
    have Kc4 := Lib.hid (Kc3.out.save hS hag)
    have Lc4 := Lib.hid (Lc3.out.trans (hS.below hwg Lc3.out.size))
    clear hP hS Pc3 Zc3 Kc3 Lc3 hO
    go_wp2_with (first
      | ((with_reducible show wpList _ _ _ (⟨none, .store _ (.tmp 29) _, _, _, _, _⟩ :: _) _ _); refine wpList_store_fld rfl _ (.tmp 29) (.tmp 22) rfl a 51 rfl _ zs (.int .u32 q1.1) rfl Kc4 (Lib.hid (by have := HZ.out; omega)) (by kernel_rfl) rfl ?_; intro x1 Ks1 Os1 hqs1; obtain ⟨C1, hC1⟩ : ∃ x, x = zs.set 51 (.int .u32 q1.1) := ⟨_, rfl⟩; have HC1 := Lib.hid hC1; have HL1 : Hid (C1.length = 69) := (by rw [hC1, List.length_set]; exact HZ.out); rw [← hC1] at Ks1; have Zs1 := Lib.hid (Zc4.out.only Os1.out hha); have Ps1 := Lib.hid (Pc4.out.only Os1.out (Ne.symm hag) hwa); have Ls1 := Lib.hid (below_only Lc4.out Os1.out hwa); clear hC1)
      | ((with_reducible show wpList _ _ _ (⟨none, .store _ (.tmp 30) _, _, _, _, _⟩ :: _) _ _); refine wpList_store_fld rfl _ (.tmp 30) (.tmp 24) rfl a 52 rfl _ C1 (.int .u32 q2.1) rfl Ks1 (Lib.hid (by have := HL1.out; omega)) (by kernel_rfl) rfl ?_; intro x2 Ks2 Os2 hqs2; obtain ⟨C2, hC2⟩ : ∃ x, x = C1.set 52 (.int .u32 q2.1) := ⟨_, rfl⟩; have HC2 := Lib.hid hC2; have HL2 : Hid (C2.length = 69) := (by rw [hC2, List.length_set]; exact HL1.out); rw [← hC2] at Ks2; have Zs2 := Lib.hid (Zs1.out.only Os2.out hha); have Ps2 := Lib.hid (Ps1.out.only Os2.out (Ne.symm hag) hwa); have Ls2 := Lib.hid (below_only Ls1.out Os2.out hwa); clear hC2)
      | ((with_reducible show wpList _ _ _ (⟨none, .store _ (.tmp 31) _, _, _, _, _⟩ :: _) _ _); refine wpList_store_fld rfl _ (.tmp 31) (.tmp 26) rfl a 53 rfl _ C2 (.int .u32 q3.1) rfl Ks2 (Lib.hid (by have := HL2.out; omega)) (by kernel_rfl) rfl ?_; intro x3 Ks3 Os3 hqs3; obtain ⟨C3, hC3⟩ : ∃ x, x = C2.set 53 (.int .u32 q3.1) := ⟨_, rfl⟩; have HC3 := Lib.hid hC3; have HL3 : Hid (C3.length = 69) := (by rw [hC3, List.length_set]; exact HL2.out); rw [← hC3] at Ks3; have Zs3 := Lib.hid (Zs2.out.only Os3.out hha); have Ps3 := Lib.hid (Ps2.out.only Os3.out (Ne.symm hag) hwa); have Ls3 := Lib.hid (below_only Ls2.out Os3.out hwa); clear hC3)
      | ((with_reducible show wpList _ _ _ (⟨none, .store _ (.tmp 32) _, _, _, _, _⟩ :: _) _ _); refine wpList_store_fld rfl _ (.tmp 32) (.tmp 28) rfl a 54 rfl _ C3 (.int .u32 q4.1) rfl Ks3 (Lib.hid (by have := HL3.out; omega)) (by kernel_rfl) rfl ?_; intro x4 Ks4 Os4 hqs4; obtain ⟨C4, hC4⟩ : ∃ x, x = C3.set 54 (.int .u32 q4.1) := ⟨_, rfl⟩; have HC4 := Lib.hid hC4; have HL4 : Hid (C4.length = 69) := (by rw [hC4, List.length_set]; exact HL3.out); rw [← hC4] at Ks4; have Zs4 := Lib.hid (Zs3.out.only Os4.out hha); have Ps4 := Lib.hid (Ps3.out.only Os4.out (Ne.symm hag) hwa); have Ls4 := Lib.hid (below_only Ls3.out Os4.out hwa); clear hC4)
      | fail)
    refine (D5.out x4 g Ps4.out).mono ?_
    rintro e v5 ⟨rfl, hP, hO⟩
    have hS := Save.of_only hO
    have Pc5 := Lib.hid hP
    have Zc5 := Lib.hid (Zs4.out.save hS hhg)
    have Kc5 := Lib.hid (Ks4.out.save hS hag)
    have Lc5 := Lib.hid (Ls4.out.trans (hS.below hwg Ls4.out.size))
    clear hP hS Ps4 Zs4 Ks4 Ls4 hO
    go_wp2_with fail
    refine (D6.out v5 g Pc5.out).mono ?_
    rintro e v6 ⟨rfl, hP, hO⟩
    have hS := Save.of_only hO
    have Pc6 := Lib.hid hP
    have Zc6 := Lib.hid (Zc5.out.save hS hhg)
    have Kc6 := Lib.hid (Kc5.out.save hS hag)
    have Lc6 := Lib.hid (Lc5.out.trans (hS.below hwg Lc5.out.size))
    clear hP hS Pc5 Zc5 Kc5 Lc5 hO
    go_wp2_with (first
      | ((with_reducible show wpList _ _ _ (⟨none, .store _ (.tmp 37) _, _, _, _, _⟩ :: _) _ _); refine wpList_store_fld rfl _ (.tmp 37) (.tmp 34) rfl a 55 rfl _ C4 (.int .u8 q5.1) rfl Kc6 (Lib.hid (by have := HL4.out; omega)) (by kernel_rfl) rfl ?_; intro x5 Ks5 Os5 hqs5; obtain ⟨C5, hC5⟩ : ∃ x, x = C4.set 55 (.int .u8 q5.1) := ⟨_, rfl⟩; have HC5 := Lib.hid hC5; have HL5 : Hid (C5.length = 69) := (by rw [hC5, List.length_set]; exact HL4.out); rw [← hC5] at Ks5; have Zs5 := Lib.hid (Zc6.out.only Os5.out hha); have Ps5 := Lib.hid (Pc6.out.only Os5.out (Ne.symm hag) hwa); have Ls5 := Lib.hid (below_only Lc6.out Os5.out hwa); clear hC5)
      | ((with_reducible show wpList _ _ _ (⟨none, .store _ (.tmp 38) _, _, _, _, _⟩ :: _) _ _); refine wpList_store_fld rfl _ (.tmp 38) (.tmp 36) rfl a 56 rfl _ C5 (.int .u8 q6.1) rfl Ks5 (Lib.hid (by have := HL5.out; omega)) (by kernel_rfl) rfl ?_; intro x6 Ks6 Os6 hqs6; obtain ⟨C6, hC6⟩ : ∃ x, x = C5.set 56 (.int .u8 q6.1) := ⟨_, rfl⟩; have HC6 := Lib.hid hC6; have HL6 : Hid (C6.length = 69) := (by rw [hC6, List.length_set]; exact HL5.out); rw [← hC6] at Ks6; have Zs6 := Lib.hid (Zs5.out.only Os6.out hha); have Ps6 := Lib.hid (Ps5.out.only Os6.out (Ne.symm hag) hwa); have Ls6 := Lib.hid (below_only Ls5.out Os6.out hwa); clear hC6)
      | fail)
    refine (D7.out x6 g Ps6.out).mono ?_
    rintro e v7 ⟨rfl, hP, hO⟩
    have hS := Save.of_only hO
    have Pc7 := Lib.hid hP
    have Zc7 := Lib.hid (Zs6.out.save hS hhg)
    have Kc7 := Lib.hid (Ks6.out.save hS hag)
    have Lc7 := Lib.hid (Ls6.out.trans (hS.below hwg Ls6.out.size))
    clear hP hS Ps6 Zs6 Ks6 Ls6 hO
    go_wp2_with fail
    refine (D8.out v7 g Pc7.out).mono ?_
    rintro e v8 ⟨rfl, hP, hO⟩
    have hS := Save.of_only hO
    have Pc8 := Lib.hid hP
    have Zc8 := Lib.hid (Zc7.out.save hS hhg)
    have Kc8 := Lib.hid (Kc7.out.save hS hag)
    have Lc8 := Lib.hid (Lc7.out.trans (hS.below hwg Lc7.out.size))
    clear hP hS Pc7 Zc7 Kc7 Lc7 hO
    go_wp2_with (first
      | ((with_reducible show wpList _ _ _ (⟨none, .store _ (.tmp 42) _, _, _, _, _⟩ :: _) _ _); refine wpList_store_fld rfl _ (.tmp 42) (.tmp 41) rfl a 57 rfl _ C6 (.int .u64 q8.1) rfl Kc8 (Lib.hid (by have := HL6.out; omega)) (by kernel_rfl) rfl ?_; intro x7 Ks7 Os7 hqs7; obtain ⟨C7, hC7⟩ : ∃ x, x = C6.set 57 (.int .u64 q8.1) := ⟨_, rfl⟩; have HC7 := Lib.hid hC7; have HL7 : Hid (C7.length = 69) := (by rw [hC7, List.length_set]; exact HL6.out); rw [← hC7] at Ks7; have Zs7 := Lib.hid (Zc8.out.only Os7.out hha); have Ps7 := Lib.hid (Pc8.out.only Os7.out (Ne.symm hag) hwa); have Ls7 := Lib.hid (below_only Lc8.out Os7.out hwa); clear hC7)
      | fail)
    refine (D9.out x7 g Ps7.out).mono ?_
    rintro e v9 ⟨rfl, hP, hS⟩
    have Pc9 := Lib.hid hP
    have Zc9 := Lib.hid (Zs7.out.save hS hhg)
    have Kc9 := Lib.hid (Ks7.out.save hS hag)
    have Lc9 := Lib.hid (Ls7.out.trans (hS.below hwg Ls7.out.size))
    clear hP hS Ps7 Zs7 Ks7 Ls7 
    go_wp2_with (first
      | ((with_reducible show wpList _ _ _ (⟨none, .store _ (.tmp 44) _, _, _, _, _⟩ :: _) _ _); refine wpList_store_fld rfl _ (.tmp 44) (.tmp 43) rfl a 58 rfl _ C7 (.string ⟨q9.1.toArray⟩) rfl Kc9 (Lib.hid (by have := HL7.out; omega)) (by kernel_rfl) rfl ?_; intro x8 Ks8 Os8 hqs8; obtain ⟨C8, hC8⟩ : ∃ x, x = C7.set 58 (.string ⟨q9.1.toArray⟩) := ⟨_, rfl⟩; have HC8 := Lib.hid hC8; have HL8 : Hid (C8.length = 69) := (by rw [hC8, List.length_set]; exact HL7.out); rw [← hC8] at Ks8; have Zs8 := Lib.hid (Zc9.out.only Os8.out hha); have Ps8 := Lib.hid (Pc9.out.only Os8.out (Ne.symm hag) hwa); have Ls8 := Lib.hid (below_only Lc9.out Os8.out hwa); clear hC8)
      | fail)
    refine (DE.out x8 g Ps8.out).mono ?_
    rintro e x8' ⟨rfl, rfl⟩
    by_cases he : er = 0
    rotate_left
    · have hne : (er != 0) = true := by simpa using he
      have HN := Lib.hid (HE'.out he)
      clear he HE' HQ
      go_wp2_with (first
        | ((with_reducible show wpList _ _ _ (⟨some 82, _, _, _, _, _⟩ :: _) _ _); refine wpList_build_none rfl _ rfl zs BZ ?_)
        | ((with_reducible show wpList _ _ _ (⟨none, .store _ (.tmp 4) _, _, _, _, _⟩ :: _) _ _); refine wpList_store_blk rfl _ (.tmp 4) (.tmp 82) rfl h rfl _ zs zs rfl Zs8 69 size_ask HZ HZ HZ1 ?_; intro w10 K10 O10 hg10)
        | fail)
      refine bodyPost_ret (v := .tuple #[.agg zs.toArray, .int .i64 er]) ?_ rfl (HN.out _ _ rfl (below_only Ls8.out O10.out (by omega)))
      exact results_cell_two rfl _ _ h _ _ (0, 0) _ rfl K10.out Tryd.underlying32 rfl (by rw [size_ask]; have := HZ.out; simp [this]) rfl
    · subst he
      have HEQ : Hid (C8 = acells (.slice none 0 0) (.slice none 0 0) (.slice none 0 0) { zeroAsk with acc := q1.1, shr := q2.1, way := q3.1, opt := q4.1, lev := q5.1, dur := q6.1, file := q8.1, name := ⟨q9.1.toArray⟩ }) := by
        show _ = _
        rw [HC8.out, HC7.out, HC6.out, HC5.out, HC4.out, HC3.out, HC2.out, HC1.out, HZS.out]
        rfl
      have H1C : Hid (∀ v ∈ C8, v.oneCell' = true) := by
        show _
        rw [HEQ.out]
        exact acells_one rfl rfl rfl
      go_wp2_with (first
        | ((with_reducible show wpList _ _ _ (⟨some 84, _, _, _, _, _⟩ :: _) _ _); refine wpList_load_blk rfl _ (.tmp 6) rfl a rfl _ C8 Ks8 69 _ Tryd.underlying32 rfl size_ask HL8 ?_)
        | ((with_reducible show wpList _ _ _ (⟨none, .store _ (.tmp 4) _, _, _, _, _⟩ :: _) _ _); refine wpList_store_blk rfl _ (.tmp 4) (.tmp 84) rfl h rfl _ zs C8 rfl Zs8 69 size_ask HZ HL8 H1C ?_; intro w10 K10 O10 hg10)
        | fail)
      refine bodyPost_ret (v := .tuple #[.agg C8.toArray, .int .i64 0]) ?_ rfl ?_
      · exact results_cell_two rfl _ _ h _ _ (0, 0) _ rfl K10.out Tryd.underlying32 rfl (by rw [size_ask]; have := HL8.out; simp [this]) rfl
      · have LF : Below w.heap.size w w10 := below_only Ls8.out O10.out (by omega)
        exact HQ.out C8 (.slice none 0 0) _ _ (by trivial) rfl ⟨none, 0, 0, none, 0, 0, none, 0, 0, by rw [HEQ.out], HoldsF.nil _ _ _, Holds.nil _ _, HoldsS.nil _ _ _ _⟩ (by rw [HEQ.out]; rfl) (OwnZ.nil _ _ _ _) LF
  · subst h6
    have D1 : Hid (∀ (w' : World) (g : Nat), PF w' g w.heap.size xs rd0 → Calls Tryd.prog 47 #[.pointer (some ⟨g, 0, none⟩)] w' fun e w2 => e = .returned (.int .u64 (o1 xs).1) ∧ PF w2 g w.heap.size xs (o1 xs).2 ∧ Only g w' w2) := fun w' g h => feight_any w' g w.heap.size xs _ hby h
    have DE : Hid (∀ (w' : World) (g : Nat), PF w' g w.heap.size xs (o1 xs).2 → Calls Tryd.prog 52 #[.pointer (some ⟨g, 0, none⟩)] w' fun e w2 => e = .returned (.int .i64 (rdEnd xs (o1 xs).2)) ∧ w' = w2) := fun w' g h => fend_any w' g w.heap.size xs _ h
    have hge : fgErr 6 xs = rdEnd xs (o1 xs).2 := by unfold fgErr; rw [if_pos hk]; rfl
    have HQ : Hid (∀ (cs : List Value) (vx : Value) (e : Ending) (w' : World), rdEnd xs (o1 xs).2 = 0 → e = .returned (.tuple #[.agg cs.toArray, .int .i64 0]) → AskIs w' w'.heap.size cs { zeroAsk with file := (o1 xs).1 } → cs[61]? = some vx → OwnZ .u8 5 w' w.heap.size vx ({ zeroAsk with file := (o1 xs).1 }).data → Below w.heap.size w w' → FGAskPost w 6 xs e w') := by
      intro cs vx e w' h0 h1 h2 h3 h4 h5
      have ho : fgOf 6 xs = { zeroAsk with file := (o1 xs).1 } := by unfold fgOf; rw [hge, h0, if_pos rfl]; rfl
      unfold FGAskPost
      rw [hge, h0, ho]
      exact ⟨cs, vx, h1, h2, h3, h4, h5⟩
    have HE' := Lib.hid (HE.out _ hge)
    obtain ⟨er, her⟩ : ∃ x, x = rdEnd xs (o1 xs).2 := ⟨_, rfl⟩
    rw [← her] at DE HQ HE' 
    obtain ⟨q1, hq1⟩ : ∃ x, x = (o1 xs) := ⟨_, rfl⟩
    rw [← hq1] at D1 DE HQ
    clear her hge HE hk hx hq1
    go_enter Tryd.func22, Tryd.ntmps22
    go_wp2_with (first
      | ((with_reducible show wpList _ _ _ (⟨some 4, _, _, _, _, _⟩ :: _) _ _); refine wpList_alloc_blk rfl _ rfl zs _ ZH ?_; intro h w1 hg1 hg2 Z1 L1)
      | ((with_reducible show wpList _ _ _ (⟨some 6, _, _, _, _, _⟩ :: _) _ _); refine wpList_alloc_blk rfl _ rfl zs _ ZH ?_; intro a w2 hg3 hg4 K2 L02; have Z2 := Lib.hid (Z1.out.over L02.out); have L2 := Lib.hid (step L1.out L02.out); have hha : h ≠ a := (by omega); have hwa : w.heap.size ≤ a := (by have := L1.out.size; omega); have hsz2 := L2.out.size)
      | ((with_reducible show wpList _ _ _ (⟨some 13, _, _, _, _, _⟩ :: _) _ _); refine wpList_build_blk rfl _ _ rfl ([.slice A n k, .int .i64 0] : List Value) (by refine Eq.trans ?_ BR; kernel_rfl) ?_)
      | ((with_reducible show wpList _ _ _ (⟨some 7, _, _, _, _, _⟩ :: _) _ _); refine wpList_alloc_blk rfl _ rfl ([.slice none 0 0, .int .i64 0] : List Value) _ ZR ?_; intro g w3 hg5 hg6 R3 L03; have K3 := Lib.hid (K2.out.over L03.out); have Z3 := Lib.hid (Z2.out.over L03.out); have L3 := Lib.hid (step L2.out L03.out); have hag : a ≠ g := (by omega); have hhg : h ≠ g := (by have := Z2.out.lt; omega); have hwg : w.heap.size ≤ g := (by omega))
      | ((with_reducible show wpList _ _ _ (⟨none, .store _ (.tmp 7) _, _, _, _, _⟩ :: _) _ _); refine wpList_store_blk rfl _ (.tmp 7) (.tmp 13) rfl g rfl _ ([.slice none 0 0, .int .i64 0] : List Value) ([.slice A n k, .int .i64 0] : List Value) rfl R3 2 size_fr HR0 HR1 HR2 ?_; intro w4 R4 O4 hg7; have K4 := Lib.hid (K3.out.only O4.out hag); have Z4 := Lib.hid (Z3.out.only O4.out hhg); have L4 := Lib.hid (below_only L3.out O4.out hwg))
      | fail)
    have P4 : Hid (PF w4 g w.heap.size xs rd0) := ⟨Nat.zero_le _, hwg, A, n, k, R4.out, HX.out.below L4.out⟩
    clear R3 L03 K2 K3 Z1 Z2 Z3 L02 L1 L2 L3 R4 O4 HX
    refine (D1.out w4 g P4.out).mono ?_
    rintro e v1 ⟨rfl, hP, hO⟩
    have hS := Save.of_only hO
    have Pc1 := Lib.hid hP
    have Zc1 := Lib.hid (Z4.out.save hS hhg)
    have Kc1 := Lib.hid (K4.out.save hS hag)
    have Lc1 := Lib.hid (L4.out.trans (hS.below hwg L4.out.size))
    clear hP hS P4 Z4 K4 L4 hO
    go_wp2_with (first
      | ((with_reducible show wpList _ _ _ (⟨none, .store _ (.tmp 50) _, _, _, _, _⟩ :: _) _ _); refine wpList_store_fld rfl _ (.tmp 50) (.tmp 49) rfl a 57 rfl _ zs (.int .u64 q1.1) rfl Kc1 (Lib.hid (by have := HZ.out; omega)) (by kernel_rfl) rfl ?_; intro x1 Ks1 Os1 hqs1; obtain ⟨C1, hC1⟩ : ∃ x, x = zs.set 57 (.int .u64 q1.1) := ⟨_, rfl⟩; have HC1 := Lib.hid hC1; have HL1 : Hid (C1.length = 69) := (by rw [hC1, List.length_set]; exact HZ.out); rw [← hC1] at Ks1; have Zs1 := Lib.hid (Zc1.out.only Os1.out hha); have Ps1 := Lib.hid (Pc1.out.only Os1.out (Ne.symm hag) hwa); have Ls1 := Lib.hid (below_only Lc1.out Os1.out hwa); clear hC1)
      | fail)
    refine (DE.out x1 g Ps1.out).mono ?_
    rintro e x1' ⟨rfl, rfl⟩
    by_cases he : er = 0
    rotate_left
    · have hne : (er != 0) = true := by simpa using he
      have HN := Lib.hid (HE'.out he)
      clear he HE' HQ
      go_wp2_with (first
        | ((with_reducible show wpList _ _ _ (⟨some 82, _, _, _, _, _⟩ :: _) _ _); refine wpList_build_none rfl _ rfl zs BZ ?_)
        | ((with_reducible show wpList _ _ _ (⟨none, .store _ (.tmp 4) _, _, _, _, _⟩ :: _) _ _); refine wpList_store_blk rfl _ (.tmp 4) (.tmp 82) rfl h rfl _ zs zs rfl Zs1 69 size_ask HZ HZ HZ1 ?_; intro w10 K10 O10 hg10)
        | fail)
      refine bodyPost_ret (v := .tuple #[.agg zs.toArray, .int .i64 er]) ?_ rfl (HN.out _ _ rfl (below_only Ls1.out O10.out (by omega)))
      exact results_cell_two rfl _ _ h _ _ (0, 0) _ rfl K10.out Tryd.underlying32 rfl (by rw [size_ask]; have := HZ.out; simp [this]) rfl
    · subst he
      have HEQ : Hid (C1 = acells (.slice none 0 0) (.slice none 0 0) (.slice none 0 0) { zeroAsk with file := q1.1 }) := by
        show _ = _
        rw [HC1.out, HZS.out]
        rfl
      have H1C : Hid (∀ v ∈ C1, v.oneCell' = true) := by
        show _
        rw [HEQ.out]
        exact acells_one rfl rfl rfl
      go_wp2_with (first
        | ((with_reducible show wpList _ _ _ (⟨some 84, _, _, _, _, _⟩ :: _) _ _); refine wpList_load_blk rfl _ (.tmp 6) rfl a rfl _ C1 Ks1 69 _ Tryd.underlying32 rfl size_ask HL1 ?_)
        | ((with_reducible show wpList _ _ _ (⟨none, .store _ (.tmp 4) _, _, _, _, _⟩ :: _) _ _); refine wpList_store_blk rfl _ (.tmp 4) (.tmp 84) rfl h rfl _ zs C1 rfl Zs1 69 size_ask HZ HL1 H1C ?_; intro w10 K10 O10 hg10)
        | fail)
      refine bodyPost_ret (v := .tuple #[.agg C1.toArray, .int .i64 0]) ?_ rfl ?_
      · exact results_cell_two rfl _ _ h _ _ (0, 0) _ rfl K10.out Tryd.underlying32 rfl (by rw [size_ask]; have := HL1.out; simp [this]) rfl
      · have LF : Below w.heap.size w w10 := below_only Ls1.out O10.out (by omega)
        exact HQ.out C1 (.slice none 0 0) _ _ (by trivial) rfl ⟨none, 0, 0, none, 0, 0, none, 0, 0, by rw [HEQ.out], HoldsF.nil _ _ _, Holds.nil _ _, HoldsS.nil _ _ _ _⟩ (by rw [HEQ.out]; rfl) (OwnZ.nil _ _ _ _) LF
  · subst h7
    have D1 : Hid (∀ (w' : World) (g : Nat), PF w' g w.heap.size xs rd0 → Calls Tryd.prog 47 #[.pointer (some ⟨g, 0, none⟩)] w' fun e w2 => e = .returned (.int .u64 (o1 xs).1) ∧ PF w2 g w.heap.size xs (o1 xs).2 ∧ Only g w' w2) := fun w' g h => feight_any w' g w.heap.size xs _ hby h
    have DE : Hid (∀ (w' : World) (g : Nat), PF w' g w.heap.size xs (o1 xs).2 → Calls Tryd.prog 52 #[.pointer (some ⟨g, 0, none⟩)] w' fun e w2 => e = .returned (.int .i64 (rdEnd xs (o1 xs).2)) ∧ w' = w2) := fun w' g h => fend_any w' g w.heap.size xs _ h
    have hge : fgErr 7 xs = rdEnd xs (o1 xs).2 := by unfold fgErr; rw [if_pos hk]; rfl
    have HQ : Hid (∀ (cs : List Value) (vx : Value) (e : Ending) (w' : World), rdEnd xs (o1 xs).2 = 0 → e = .returned (.tuple #[.agg cs.toArray, .int .i64 0]) → AskIs w' w'.heap.size cs { zeroAsk with file := (o1 xs).1 } → cs[61]? = some vx → OwnZ .u8 5 w' w.heap.size vx ({ zeroAsk with file := (o1 xs).1 }).data → Below w.heap.size w w' → FGAskPost w 7 xs e w') := by
      intro cs vx e w' h0 h1 h2 h3 h4 h5
      have ho : fgOf 7 xs = { zeroAsk with file := (o1 xs).1 } := by unfold fgOf; rw [hge, h0, if_pos rfl]; rfl
      unfold FGAskPost
      rw [hge, h0, ho]
      exact ⟨cs, vx, h1, h2, h3, h4, h5⟩
    have HE' := Lib.hid (HE.out _ hge)
    obtain ⟨er, her⟩ : ∃ x, x = rdEnd xs (o1 xs).2 := ⟨_, rfl⟩
    rw [← her] at DE HQ HE' 
    obtain ⟨q1, hq1⟩ : ∃ x, x = (o1 xs) := ⟨_, rfl⟩
    rw [← hq1] at D1 DE HQ
    clear her hge HE hk hx hq1
    go_enter Tryd.func22, Tryd.ntmps22
    go_wp2_with (first
      | ((with_reducible show wpList _ _ _ (⟨some 4, _, _, _, _, _⟩ :: _) _ _); refine wpList_alloc_blk rfl _ rfl zs _ ZH ?_; intro h w1 hg1 hg2 Z1 L1)
      | ((with_reducible show wpList _ _ _ (⟨some 6, _, _, _, _, _⟩ :: _) _ _); refine wpList_alloc_blk rfl _ rfl zs _ ZH ?_; intro a w2 hg3 hg4 K2 L02; have Z2 := Lib.hid (Z1.out.over L02.out); have L2 := Lib.hid (step L1.out L02.out); have hha : h ≠ a := (by omega); have hwa : w.heap.size ≤ a := (by have := L1.out.size; omega); have hsz2 := L2.out.size)
      | ((with_reducible show wpList _ _ _ (⟨some 13, _, _, _, _, _⟩ :: _) _ _); refine wpList_build_blk rfl _ _ rfl ([.slice A n k, .int .i64 0] : List Value) (by refine Eq.trans ?_ BR; kernel_rfl) ?_)
      | ((with_reducible show wpList _ _ _ (⟨some 7, _, _, _, _, _⟩ :: _) _ _); refine wpList_alloc_blk rfl _ rfl ([.slice none 0 0, .int .i64 0] : List Value) _ ZR ?_; intro g w3 hg5 hg6 R3 L03; have K3 := Lib.hid (K2.out.over L03.out); have Z3 := Lib.hid (Z2.out.over L03.out); have L3 := Lib.hid (step L2.out L03.out); have hag : a ≠ g := (by omega); have hhg : h ≠ g := (by have := Z2.out.lt; omega); have hwg : w.heap.size ≤ g := (by omega))
      | ((with_reducible show wpList _ _ _ (⟨none, .store _ (.tmp 7) _, _, _, _, _⟩ :: _) _ _); refine wpList_store_blk rfl _ (.tmp 7) (.tmp 13) rfl g rfl _ ([.slice none 0 0, .int .i64 0] : List Value) ([.slice A n k, .int .i64 0] : List Value) rfl R3 2 size_fr HR0 HR1 HR2 ?_; intro w4 R4 O4 hg7; have K4 := Lib.hid (K3.out.only O4.out hag); have Z4 := Lib.hid (Z3.out.only O4.out hhg); have L4 := Lib.hid (below_only L3.out O4.out hwg))
      | fail)
    have P4 : Hid (PF w4 g w.heap.size xs rd0) := ⟨Nat.zero_le _, hwg, A, n, k, R4.out, HX.out.below L4.out⟩
    clear R3 L03 K2 K3 Z1 Z2 Z3 L02 L1 L2 L3 R4 O4 HX
    refine (D1.out w4 g P4.out).mono ?_
    rintro e v1 ⟨rfl, hP, hO⟩
    have hS := Save.of_only hO
    have Pc1 := Lib.hid hP
    have Zc1 := Lib.hid (Z4.out.save hS hhg)
    have Kc1 := Lib.hid (K4.out.save hS hag)
    have Lc1 := Lib.hid (L4.out.trans (hS.below hwg L4.out.size))
    clear hP hS P4 Z4 K4 L4 hO
    go_wp2_with (first
      | ((with_reducible show wpList _ _ _ (⟨none, .store _ (.tmp 50) _, _, _, _, _⟩ :: _) _ _); refine wpList_store_fld rfl _ (.tmp 50) (.tmp 49) rfl a 57 rfl _ zs (.int .u64 q1.1) rfl Kc1 (Lib.hid (by have := HZ.out; omega)) (by kernel_rfl) rfl ?_; intro x1 Ks1 Os1 hqs1; obtain ⟨C1, hC1⟩ : ∃ x, x = zs.set 57 (.int .u64 q1.1) := ⟨_, rfl⟩; have HC1 := Lib.hid hC1; have HL1 : Hid (C1.length = 69) := (by rw [hC1, List.length_set]; exact HZ.out); rw [← hC1] at Ks1; have Zs1 := Lib.hid (Zc1.out.only Os1.out hha); have Ps1 := Lib.hid (Pc1.out.only Os1.out (Ne.symm hag) hwa); have Ls1 := Lib.hid (below_only Lc1.out Os1.out hwa); clear hC1)
      | fail)
    refine (DE.out x1 g Ps1.out).mono ?_
    rintro e x1' ⟨rfl, rfl⟩
    by_cases he : er = 0
    rotate_left
    · have hne : (er != 0) = true := by simpa using he
      have HN := Lib.hid (HE'.out he)
      clear he HE' HQ
      go_wp2_with (first
        | ((with_reducible show wpList _ _ _ (⟨some 82, _, _, _, _, _⟩ :: _) _ _); refine wpList_build_none rfl _ rfl zs BZ ?_)
        | ((with_reducible show wpList _ _ _ (⟨none, .store _ (.tmp 4) _, _, _, _, _⟩ :: _) _ _); refine wpList_store_blk rfl _ (.tmp 4) (.tmp 82) rfl h rfl _ zs zs rfl Zs1 69 size_ask HZ HZ HZ1 ?_; intro w10 K10 O10 hg10)
        | fail)
      refine bodyPost_ret (v := .tuple #[.agg zs.toArray, .int .i64 er]) ?_ rfl (HN.out _ _ rfl (below_only Ls1.out O10.out (by omega)))
      exact results_cell_two rfl _ _ h _ _ (0, 0) _ rfl K10.out Tryd.underlying32 rfl (by rw [size_ask]; have := HZ.out; simp [this]) rfl
    · subst he
      have HEQ : Hid (C1 = acells (.slice none 0 0) (.slice none 0 0) (.slice none 0 0) { zeroAsk with file := q1.1 }) := by
        show _ = _
        rw [HC1.out, HZS.out]
        rfl
      have H1C : Hid (∀ v ∈ C1, v.oneCell' = true) := by
        show _
        rw [HEQ.out]
        exact acells_one rfl rfl rfl
      go_wp2_with (first
        | ((with_reducible show wpList _ _ _ (⟨some 84, _, _, _, _, _⟩ :: _) _ _); refine wpList_load_blk rfl _ (.tmp 6) rfl a rfl _ C1 Ks1 69 _ Tryd.underlying32 rfl size_ask HL1 ?_)
        | ((with_reducible show wpList _ _ _ (⟨none, .store _ (.tmp 4) _, _, _, _, _⟩ :: _) _ _); refine wpList_store_blk rfl _ (.tmp 4) (.tmp 84) rfl h rfl _ zs C1 rfl Zs1 69 size_ask HZ HL1 H1C ?_; intro w10 K10 O10 hg10)
        | fail)
      refine bodyPost_ret (v := .tuple #[.agg C1.toArray, .int .i64 0]) ?_ rfl ?_
      · exact results_cell_two rfl _ _ h _ _ (0, 0) _ rfl K10.out Tryd.underlying32 rfl (by rw [size_ask]; have := HL1.out; simp [this]) rfl
      · have LF : Below w.heap.size w w10 := below_only Ls1.out O10.out (by omega)
        exact HQ.out C1 (.slice none 0 0) _ _ (by trivial) rfl ⟨none, 0, 0, none, 0, 0, none, 0, 0, by rw [HEQ.out], HoldsF.nil _ _ _, Holds.nil _ _, HoldsS.nil _ _ _ _⟩ (by rw [HEQ.out]; rfl) (OwnZ.nil _ _ _ _) LF
  · subst h8
    have D1 : Hid (∀ (w' : World) (g : Nat), PF w' g w.heap.size xs rd0 → Calls Tryd.prog 47 #[.pointer (some ⟨g, 0, none⟩)] w' fun e w2 => e = .returned (.int .u64 (o1 xs).1) ∧ PF w2 g w.heap.size xs (o1 xs).2 ∧ Only g w' w2) := fun w' g h => feight_any w' g w.heap.size xs _ hby h
    have D2 : Hid (∀ (w' : World) (g : Nat), PF w' g w.heap.size xs (o1 xs).2 → Calls Tryd.prog 47 #[.pointer (some ⟨g, 0, none⟩)] w' fun e w2 => e = .returned (.int .u64 (o2 xs).1) ∧ PF w2 g w.heap.size xs (o2 xs).2 ∧ Only g w' w2) := fun w' g h => feight_any w' g w.heap.size xs _ hby h
    have D3 : Hid (∀ (w' : World) (g : Nat), PF w' g w.heap.size xs (o2 xs).2 → Calls Tryd.prog 46 #[.pointer (some ⟨g, 0, none⟩)] w' fun e w2 => e = .returned (.int .u32 (o3 xs).1) ∧ PF w2 g w.heap.size xs (o3 xs).2 ∧ Only g w' w2) := fun w' g h => ffour_any w' g w.heap.size xs _ hby h
    have DE : Hid (∀ (w' : World) (g : Nat), PF w' g w.heap.size xs (o3 xs).2 → Calls Tryd.prog 52 #[.pointer (some ⟨g, 0, none⟩)] w' fun e w2 => e = .returned (.int .i64 (rdEnd xs (o3 xs).2)) ∧ w' = w2) := fun w' g h => fend_any w' g w.heap.size xs _ h
    have hge : fgErr 8 xs = rdEnd xs (o3 xs).2 := by unfold fgErr; rw [if_pos hk]; rfl
    have HQ : Hid (∀ (cs : List Value) (vx : Value) (e : Ending) (w' : World), rdEnd xs (o3 xs).2 = 0 → e = .returned (.tuple #[.agg cs.toArray, .int .i64 0]) → AskIs w' w'.heap.size cs { zeroAsk with file := (o1 xs).1, at_ := (o2 xs).1, n := (o3 xs).1 } → cs[61]? = some vx → OwnZ .u8 5 w' w.heap.size vx ({ zeroAsk with file := (o1 xs).1, at_ := (o2 xs).1, n := (o3 xs).1 }).data → Below w.heap.size w w' → FGAskPost w 8 xs e w') := by
      intro cs vx e w' h0 h1 h2 h3 h4 h5
      have ho : fgOf 8 xs = { zeroAsk with file := (o1 xs).1, at_ := (o2 xs).1, n := (o3 xs).1 } := by unfold fgOf; rw [hge, h0, if_pos rfl]; rfl
      unfold FGAskPost
      rw [hge, h0, ho]
      exact ⟨cs, vx, h1, h2, h3, h4, h5⟩
    have HE' := Lib.hid (HE.out _ hge)
    obtain ⟨er, her⟩ : ∃ x, x = rdEnd xs (o3 xs).2 := ⟨_, rfl⟩
    rw [← her] at DE HQ HE' 
    obtain ⟨q1, hq1⟩ : ∃ x, x = (o1 xs) := ⟨_, rfl⟩
    rw [← hq1] at D1 D2 HQ
    obtain ⟨q2, hq2⟩ : ∃ x, x = (o2 xs) := ⟨_, rfl⟩
    rw [← hq2] at D2 D3 HQ
    obtain ⟨q3, hq3⟩ : ∃ x, x = (o3 xs) := ⟨_, rfl⟩
    rw [← hq3] at D3 DE HQ
    clear her hge HE hk hx hq1 hq2 hq3
    go_enter Tryd.func22, Tryd.ntmps22
    go_wp2_with (first
      | ((with_reducible show wpList _ _ _ (⟨some 4, _, _, _, _, _⟩ :: _) _ _); refine wpList_alloc_blk rfl _ rfl zs _ ZH ?_; intro h w1 hg1 hg2 Z1 L1)
      | ((with_reducible show wpList _ _ _ (⟨some 6, _, _, _, _, _⟩ :: _) _ _); refine wpList_alloc_blk rfl _ rfl zs _ ZH ?_; intro a w2 hg3 hg4 K2 L02; have Z2 := Lib.hid (Z1.out.over L02.out); have L2 := Lib.hid (step L1.out L02.out); have hha : h ≠ a := (by omega); have hwa : w.heap.size ≤ a := (by have := L1.out.size; omega); have hsz2 := L2.out.size)
      | ((with_reducible show wpList _ _ _ (⟨some 13, _, _, _, _, _⟩ :: _) _ _); refine wpList_build_blk rfl _ _ rfl ([.slice A n k, .int .i64 0] : List Value) (by refine Eq.trans ?_ BR; kernel_rfl) ?_)
      | ((with_reducible show wpList _ _ _ (⟨some 7, _, _, _, _, _⟩ :: _) _ _); refine wpList_alloc_blk rfl _ rfl ([.slice none 0 0, .int .i64 0] : List Value) _ ZR ?_; intro g w3 hg5 hg6 R3 L03; have K3 := Lib.hid (K2.out.over L03.out); have Z3 := Lib.hid (Z2.out.over L03.out); have L3 := Lib.hid (step L2.out L03.out); have hag : a ≠ g := (by omega); have hhg : h ≠ g := (by have := Z2.out.lt; omega); have hwg : w.heap.size ≤ g := (by omega))
      | ((with_reducible show wpList _ _ _ (⟨none, .store _ (.tmp 7) _, _, _, _, _⟩ :: _) _ _); refine wpList_store_blk rfl _ (.tmp 7) (.tmp 13) rfl g rfl _ ([.slice none 0 0, .int .i64 0] : List Value) ([.slice A n k, .int .i64 0] : List Value) rfl R3 2 size_fr HR0 HR1 HR2 ?_; intro w4 R4 O4 hg7; have K4 := Lib.hid (K3.out.only O4.out hag); have Z4 := Lib.hid (Z3.out.only O4.out hhg); have L4 := Lib.hid (below_only L3.out O4.out hwg))
      | fail)
    have P4 : Hid (PF w4 g w.heap.size xs rd0) := ⟨Nat.zero_le _, hwg, A, n, k, R4.out, HX.out.below L4.out⟩
    clear R3 L03 K2 K3 Z1 Z2 Z3 L02 L1 L2 L3 R4 O4 HX
    refine (D1.out w4 g P4.out).mono ?_
    rintro e v1 ⟨rfl, hP, hO⟩
    have hS := Save.of_only hO
    have Pc1 := Lib.hid hP
    have Zc1 := Lib.hid (Z4.out.save hS hhg)
    have Kc1 := Lib.hid (K4.out.save hS hag)
    have Lc1 := Lib.hid (L4.out.trans (hS.below hwg L4.out.size))
    clear hP hS P4 Z4 K4 L4 hO
    go_wp2_with fail
    refine (D2.out v1 g Pc1.out).mono ?_
    rintro e v2 ⟨rfl, hP, hO⟩
    have hS := Save.of_only hO
    have Pc2 := Lib.hid hP
    have Zc2 := Lib.hid (Zc1.out.save hS hhg)
    have Kc2 := Lib.hid (Kc1.out.save hS hag)
    have Lc2 := Lib.hid (Lc1.out.trans (hS.below hwg Lc1.out.size))
    clear hP hS Pc1 Zc1 Kc1 Lc1 hO
    go_wp2_with fail
    refine (D3.out v2 g Pc2.out).mono ?_
    rintro e v3 ⟨rfl, hP, hO⟩
    have hS := Save.of_only hO
    have Pc3 := Lib.hid hP
    have Zc3 := Lib.hid (Zc2.out.save hS hhg)
    have Kc3 := Lib.hid (Kc2.out.save hS hag)
    have Lc3 := Lib.hid (Lc2.out.trans (hS.below hwg Lc2.out.size))
    clear hP hS Pc2 Zc2 Kc2 Lc2 hO
    go_wp2_with (first
      | ((with_reducible show wpList _ _ _ (⟨none, .store _ (.tmp 59) _, _, _, _, _⟩ :: _) _ _); refine wpList_store_fld rfl _ (.tmp 59) (.tmp 54) rfl a 57 rfl _ zs (.int .u64 q1.1) rfl Kc3 (Lib.hid (by have := HZ.out; omega)) (by kernel_rfl) rfl ?_; intro x1 Ks1 Os1 hqs1; obtain ⟨C1, hC1⟩ : ∃ x, x = zs.set 57 (.int .u64 q1.1) := ⟨_, rfl⟩; have HC1 := Lib.hid hC1; have HL1 : Hid (C1.length = 69) := (by rw [hC1, List.length_set]; exact HZ.out); rw [← hC1] at Ks1; have Zs1 := Lib.hid (Zc3.out.only Os1.out hha); have Ps1 := Lib.hid (Pc3.out.only Os1.out (Ne.symm hag) hwa); have Ls1 := Lib.hid (below_only Lc3.out Os1.out hwa); clear hC1)
      | ((with_reducible show wpList _ _ _ (⟨none, .store _ (.tmp 60) _, _, _, _, _⟩ :: _) _ _); refine wpList_store_fld rfl _ (.tmp 60) (.tmp 56) rfl a 59 rfl _ C1 (.int .u64 q2.1) rfl Ks1 (Lib.hid (by have := HL1.out; omega)) (by kernel_rfl) rfl ?_; intro x2 Ks2 Os2 hqs2; obtain ⟨C2, hC2⟩ : ∃ x, x = C1.set 59 (.int .u64 q2.1) := ⟨_, rfl⟩; have HC2 := Lib.hid hC2; have HL2 : Hid (C2.length = 69) := (by rw [hC2, List.length_set]; exact HL1.out); rw [← hC2] at Ks2; have Zs2 := Lib.hid (Zs1.out.only Os2.out hha); have Ps2 := Lib.hid (Ps1.out.only Os2.out (Ne.symm hag) hwa); have Ls2 := Lib.hid (below_only Ls1.out Os2.out hwa); clear hC2)
      | ((with_reducible show wpList _ _ _ (⟨none, .store _ (.tmp 61) _, _, _, _, _⟩ :: _) _ _); refine wpList_store_fld rfl _ (.tmp 61) (.tmp 58) rfl a 60 rfl _ C2 (.int .u32 q3.1) rfl Ks2 (Lib.hid (by have := HL2.out; omega)) (by kernel_rfl) rfl ?_; intro x3 Ks3 Os3 hqs3; obtain ⟨C3, hC3⟩ : ∃ x, x = C2.set 60 (.int .u32 q3.1) := ⟨_, rfl⟩; have HC3 := Lib.hid hC3; have HL3 : Hid (C3.length = 69) := (by rw [hC3, List.length_set]; exact HL2.out); rw [← hC3] at Ks3; have Zs3 := Lib.hid (Zs2.out.only Os3.out hha); have Ps3 := Lib.hid (Ps2.out.only Os3.out (Ne.symm hag) hwa); have Ls3 := Lib.hid (below_only Ls2.out Os3.out hwa); clear hC3)
      | fail)
    refine (DE.out x3 g Ps3.out).mono ?_
    rintro e x3' ⟨rfl, rfl⟩
    by_cases he : er = 0
    rotate_left
    · have hne : (er != 0) = true := by simpa using he
      have HN := Lib.hid (HE'.out he)
      clear he HE' HQ
      go_wp2_with (first
        | ((with_reducible show wpList _ _ _ (⟨some 82, _, _, _, _, _⟩ :: _) _ _); refine wpList_build_none rfl _ rfl zs BZ ?_)
        | ((with_reducible show wpList _ _ _ (⟨none, .store _ (.tmp 4) _, _, _, _, _⟩ :: _) _ _); refine wpList_store_blk rfl _ (.tmp 4) (.tmp 82) rfl h rfl _ zs zs rfl Zs3 69 size_ask HZ HZ HZ1 ?_; intro w10 K10 O10 hg10)
        | fail)
      refine bodyPost_ret (v := .tuple #[.agg zs.toArray, .int .i64 er]) ?_ rfl (HN.out _ _ rfl (below_only Ls3.out O10.out (by omega)))
      exact results_cell_two rfl _ _ h _ _ (0, 0) _ rfl K10.out Tryd.underlying32 rfl (by rw [size_ask]; have := HZ.out; simp [this]) rfl
    · subst he
      have HEQ : Hid (C3 = acells (.slice none 0 0) (.slice none 0 0) (.slice none 0 0) { zeroAsk with file := q1.1, at_ := q2.1, n := q3.1 }) := by
        show _ = _
        rw [HC3.out, HC2.out, HC1.out, HZS.out]
        rfl
      have H1C : Hid (∀ v ∈ C3, v.oneCell' = true) := by
        show _
        rw [HEQ.out]
        exact acells_one rfl rfl rfl
      go_wp2_with (first
        | ((with_reducible show wpList _ _ _ (⟨some 84, _, _, _, _, _⟩ :: _) _ _); refine wpList_load_blk rfl _ (.tmp 6) rfl a rfl _ C3 Ks3 69 _ Tryd.underlying32 rfl size_ask HL3 ?_)
        | ((with_reducible show wpList _ _ _ (⟨none, .store _ (.tmp 4) _, _, _, _, _⟩ :: _) _ _); refine wpList_store_blk rfl _ (.tmp 4) (.tmp 84) rfl h rfl _ zs C3 rfl Zs3 69 size_ask HZ HL3 H1C ?_; intro w10 K10 O10 hg10)
        | fail)
      refine bodyPost_ret (v := .tuple #[.agg C3.toArray, .int .i64 0]) ?_ rfl ?_
      · exact results_cell_two rfl _ _ h _ _ (0, 0) _ rfl K10.out Tryd.underlying32 rfl (by rw [size_ask]; have := HL3.out; simp [this]) rfl
      · have LF : Below w.heap.size w w10 := below_only Ls3.out O10.out (by omega)
        exact HQ.out C3 (.slice none 0 0) _ _ (by trivial) rfl ⟨none, 0, 0, none, 0, 0, none, 0, 0, by rw [HEQ.out], HoldsF.nil _ _ _, Holds.nil _ _, HoldsS.nil _ _ _ _⟩ (by rw [HEQ.out]; rfl) (OwnZ.nil _ _ _ _) LF
  · subst h9
    have D1 : Hid (∀ (w' : World) (g : Nat), PF w' g w.heap.size xs rd0 → Calls Tryd.prog 47 #[.pointer (some ⟨g, 0, none⟩)] w' fun e w2 => e = .returned (.int .u64 (o1 xs).1) ∧ PF w2 g w.heap.size xs (o1 xs).2 ∧ Only g w' w2) := fun w' g h => feight_any w' g w.heap.size xs _ hby h
    have D2 : Hid (∀ (w' : World) (g : Nat), PF w' g w.heap.size xs (o1 xs).2 → Calls Tryd.prog 47 #[.pointer (some ⟨g, 0, none⟩)] w' fun e w2 => e = .returned (.int .u64 (o2 xs).1) ∧ PF w2 g w.heap.size xs (o2 xs).2 ∧ Only g w' w2) := fun w' g h => feight_any w' g w.heap.size xs _ hby h
    have D3 : Hid (∀ (w' : World) (g : Nat), PF w' g w.heap.size xs (o2 xs).2 → Calls Tryd.prog 50 #[.pointer (some ⟨g, 0, none⟩)] w' fun e w2 => ∃ v, e = .returned v ∧ OwnZ .u8 5 w2 w'.heap.size v (o4 xs).1 ∧ PF w2 g w.heap.size xs (o4 xs).2 ∧ Save g w' w2) := fun w' g h => fdata_any w' g w.heap.size xs _ hby h
    have DE : Hid (∀ (w' : World) (g : Nat), PF w' g w.heap.size xs (o4 xs).2 → Calls Tryd.prog 52 #[.pointer (some ⟨g, 0, none⟩)] w' fun e w2 => e = .returned (.int .i64 (rdEnd xs (o4 xs).2)) ∧ w' = w2) := fun w' g h => fend_any w' g w.heap.size xs _ h
    have hge : fgErr 9 xs = rdEnd xs (o4 xs).2 := by unfold fgErr; rw [if_pos hk]; rfl
    have HQ : Hid (∀ (cs : List Value) (vx : Value) (e : Ending) (w' : World), rdEnd xs (o4 xs).2 = 0 → e = .returned (.tuple #[.agg cs.toArray, .int .i64 0]) → AskIs w' w'.heap.size cs { zeroAsk with file := (o1 xs).1, at_ := (o2 xs).1, data := (o4 xs).1 } → cs[61]? = some vx → OwnZ .u8 5 w' w.heap.size vx ({ zeroAsk with file := (o1 xs).1, at_ := (o2 xs).1, data := (o4 xs).1 }).data → Below w.heap.size w w' → FGAskPost w 9 xs e w') := by
      intro cs vx e w' h0 h1 h2 h3 h4 h5
      have ho : fgOf 9 xs = { zeroAsk with file := (o1 xs).1, at_ := (o2 xs).1, data := (o4 xs).1 } := by unfold fgOf; rw [hge, h0, if_pos rfl]; rfl
      unfold FGAskPost
      rw [hge, h0, ho]
      exact ⟨cs, vx, h1, h2, h3, h4, h5⟩
    have HE' := Lib.hid (HE.out _ hge)
    have DL : Hid (Bytes (o4 xs).1 ∧ (o4 xs).1.length ≤ 32768) := rdData_le hby _
    obtain ⟨er, her⟩ : ∃ x, x = rdEnd xs (o4 xs).2 := ⟨_, rfl⟩
    rw [← her] at DE HQ HE' 
    obtain ⟨q1, hq1⟩ : ∃ x, x = (o1 xs) := ⟨_, rfl⟩
    rw [← hq1] at D1 D2 HQ
    obtain ⟨q2, hq2⟩ : ∃ x, x = (o2 xs) := ⟨_, rfl⟩
    rw [← hq2] at D2 D3 HQ
    obtain ⟨q3, hq3⟩ : ∃ x, x = (o4 xs) := ⟨_, rfl⟩
    rw [← hq3] at D3 DE HQ DL
    clear her hge HE hk hx hq1 hq2 hq3
    go_enter Tryd.func22, Tryd.ntmps22
    go_wp2_with (first
      | ((with_reducible show wpList _ _ _ (⟨some 4, _, _, _, _, _⟩ :: _) _ _); refine wpList_alloc_blk rfl _ rfl zs _ ZH ?_; intro h w1 hg1 hg2 Z1 L1)
      | ((with_reducible show wpList _ _ _ (⟨some 6, _, _, _, _, _⟩ :: _) _ _); refine wpList_alloc_blk rfl _ rfl zs _ ZH ?_; intro a w2 hg3 hg4 K2 L02; have Z2 := Lib.hid (Z1.out.over L02.out); have L2 := Lib.hid (step L1.out L02.out); have hha : h ≠ a := (by omega); have hwa : w.heap.size ≤ a := (by have := L1.out.size; omega); have hsz2 := L2.out.size)
      | ((with_reducible show wpList _ _ _ (⟨some 13, _, _, _, _, _⟩ :: _) _ _); refine wpList_build_blk rfl _ _ rfl ([.slice A n k, .int .i64 0] : List Value) (by refine Eq.trans ?_ BR; kernel_rfl) ?_)
      | ((with_reducible show wpList _ _ _ (⟨some 7, _, _, _, _, _⟩ :: _) _ _); refine wpList_alloc_blk rfl _ rfl ([.slice none 0 0, .int .i64 0] : List Value) _ ZR ?_; intro g w3 hg5 hg6 R3 L03; have K3 := Lib.hid (K2.out.over L03.out); have Z3 := Lib.hid (Z2.out.over L03.out); have L3 := Lib.hid (step L2.out L03.out); have hag : a ≠ g := (by omega); have hhg : h ≠ g := (by have := Z2.out.lt; omega); have hwg : w.heap.size ≤ g := (by omega))
      | ((with_reducible show wpList _ _ _ (⟨none, .store _ (.tmp 7) _, _, _, _, _⟩ :: _) _ _); refine wpList_store_blk rfl _ (.tmp 7) (.tmp 13) rfl g rfl _ ([.slice none 0 0, .int .i64 0] : List Value) ([.slice A n k, .int .i64 0] : List Value) rfl R3 2 size_fr HR0 HR1 HR2 ?_; intro w4 R4 O4 hg7; have K4 := Lib.hid (K3.out.only O4.out hag); have Z4 := Lib.hid (Z3.out.only O4.out hhg); have L4 := Lib.hid (below_only L3.out O4.out hwg))
      | fail)
    have P4 : Hid (PF w4 g w.heap.size xs rd0) := ⟨Nat.zero_le _, hwg, A, n, k, R4.out, HX.out.below L4.out⟩
    clear R3 L03 K2 K3 Z1 Z2 Z3 L02 L1 L2 L3 R4 O4 HX
    refine (D1.out w4 g P4.out).mono ?_
    rintro e v1 ⟨rfl, hP, hO⟩
    have hS := Save.of_only hO
    have Pc1 := Lib.hid hP
    have Zc1 := Lib.hid (Z4.out.save hS hhg)
    have Kc1 := Lib.hid (K4.out.save hS hag)
    have Lc1 := Lib.hid (L4.out.trans (hS.below hwg L4.out.size))
    clear hP hS P4 Z4 K4 L4 hO
    go_wp2_with fail
    refine (D2.out v1 g Pc1.out).mono ?_
    rintro e v2 ⟨rfl, hP, hO⟩
    have hS := Save.of_only hO
    have Pc2 := Lib.hid hP
    have Zc2 := Lib.hid (Zc1.out.save hS hhg)
    have Kc2 := Lib.hid (Kc1.out.save hS hag)
    have Lc2 := Lib.hid (Lc1.out.trans (hS.below hwg Lc1.out.size))
    clear hP hS Pc1 Zc1 Kc1 Lc1 hO
    go_wp2_with (first
      | ((with_reducible show wpList _ _ _ (⟨none, .store _ (.tmp 68) _, _, _, _, _⟩ :: _) _ _); refine wpList_store_fld rfl _ (.tmp 68) (.tmp 65) rfl a 57 rfl _ zs (.int .u64 q1.1) rfl Kc2 (Lib.hid (by have := HZ.out; omega)) (by kernel_rfl) rfl ?_; intro x1 Ks1 Os1 hqs1; obtain ⟨C1, hC1⟩ : ∃ x, x = zs.set 57 (.int .u64 q1.1) := ⟨_, rfl⟩; have HC1 := Lib.hid hC1; have HL1 : Hid (C1.length = 69) := (by rw [hC1, List.length_set]; exact HZ.out); rw [← hC1] at Ks1; have Zs1 := Lib.hid (Zc2.out.only Os1.out hha); have Ps1 := Lib.hid (Pc2.out.only Os1.out (Ne.symm hag) hwa); have Ls1 := Lib.hid (below_only Lc2.out Os1.out hwa); clear hC1)
      | ((with_reducible show wpList _ _ _ (⟨none, .store _ (.tmp 69) _, _, _, _, _⟩ :: _) _ _); refine wpList_store_fld rfl _ (.tmp 69) (.tmp 67) rfl a 59 rfl _ C1 (.int .u64 q2.1) rfl Ks1 (Lib.hid (by have := HL1.out; omega)) (by kernel_rfl) rfl ?_; intro x2 Ks2 Os2 hqs2; obtain ⟨C2, hC2⟩ : ∃ x, x = C1.set 59 (.int .u64 q2.1) := ⟨_, rfl⟩; have HC2 := Lib.hid hC2; have HL2 : Hid (C2.length = 69) := (by rw [hC2, List.length_set]; exact HL1.out); rw [← hC2] at Ks2; have Zs2 := Lib.hid (Zs1.out.only Os2.out hha); have Ps2 := Lib.hid (Ps1.out.only Os2.out (Ne.symm hag) hwa); have Ls2 := Lib.hid (below_only Ls1.out Os2.out hwa); clear hC2)
      | fail)
    refine (D3.out x2 g Ps2.out).mono ?_
    rintro e v3 ⟨u3, rfl, hV, hP, hS⟩
    have V3 := Lib.hid hV
    have hbs3 : a < x2.heap.size ∧ h < x2.heap.size ∧ w.heap.size ≤ x2.heap.size := ⟨Ks2.out.lt, Zs2.out.lt, Ls2.out.size⟩
    obtain ⟨b3, hb3⟩ : ∃ x, x = x2.heap.size := ⟨_, rfl⟩
    rw [← hb3] at V3 hbs3
    obtain ⟨hba3, hbh3, hbw3⟩ := hbs3
    clear hV hb3
    have Pc3 := Lib.hid hP
    have Zc3 := Lib.hid (Zs2.out.save hS hhg)
    have Kc3 := Lib.hid (Ks2.out.save hS hag)
    have Lc3 := Lib.hid (Ls2.out.trans (hS.below hwg Ls2.out.size))
    clear hP hS Ps2 Zs2 Ks2 Ls2 
    go_wp2_with (first
      | ((with_reducible show wpList _ _ _ (⟨none, .store _ (.tmp 71) _, _, _, _, _⟩ :: _) _ _); refine wpList_store_fld rfl _ (.tmp 71) (.tmp 70) rfl a 61 rfl _ C2 (u3) rfl Kc3 (Lib.hid (by have := HL2.out; omega)) (by kernel_rfl) (ownZ_one V3.out) ?_; intro x3 Ks3 Os3 hqs3; obtain ⟨C3, hC3⟩ : ∃ x, x = C2.set 61 (u3) := ⟨_, rfl⟩; have HC3 := Lib.hid hC3; have HL3 : Hid (C3.length = 69) := (by rw [hC3, List.length_set]; exact HL2.out); rw [← hC3] at Ks3; have Zs3 := Lib.hid (Zc3.out.only Os3.out hha); have Ps3 := Lib.hid (Pc3.out.only Os3.out (Ne.symm hag) hwa); have Ls3 := Lib.hid (below_only Lc3.out Os3.out hwa); have V3s3 := Lib.hid (V3.out.onlyAt Os3.out hba3); clear hC3)
      | fail)
    refine (DE.out x3 g Ps3.out).mono ?_
    rintro e x3' ⟨rfl, rfl⟩
    by_cases he : er = 0
    rotate_left
    · have hne : (er != 0) = true := by simpa using he
      have HN := Lib.hid (HE'.out he)
      clear he HE' HQ
      go_wp2_with (first
        | ((with_reducible show wpList _ _ _ (⟨some 82, _, _, _, _, _⟩ :: _) _ _); refine wpList_build_none rfl _ rfl zs BZ ?_)
        | ((with_reducible show wpList _ _ _ (⟨none, .store _ (.tmp 4) _, _, _, _, _⟩ :: _) _ _); refine wpList_store_blk rfl _ (.tmp 4) (.tmp 82) rfl h rfl _ zs zs rfl Zs3 69 size_ask HZ HZ HZ1 ?_; intro w10 K10 O10 hg10)
        | fail)
      refine bodyPost_ret (v := .tuple #[.agg zs.toArray, .int .i64 er]) ?_ rfl (HN.out _ _ rfl (below_only Ls3.out O10.out (by omega)))
      exact results_cell_two rfl _ _ h _ _ (0, 0) _ rfl K10.out Tryd.underlying32 rfl (by rw [size_ask]; have := HZ.out; simp [this]) rfl
    · subst he
      have HEQ : Hid (C3 = acells (.slice none 0 0) u3 (.slice none 0 0) { zeroAsk with file := q1.1, at_ := q2.1, data := q3.1 }) := by
        show _ = _
        rw [HC3.out, HC2.out, HC1.out, HZS.out]
        rfl
      have H1C : Hid (∀ v ∈ C3, v.oneCell' = true) := by
        show _
        rw [HEQ.out]
        exact acells_one rfl (ownZ_one V3s3.out) rfl
      go_wp2_with (first
        | ((with_reducible show wpList _ _ _ (⟨some 84, _, _, _, _, _⟩ :: _) _ _); refine wpList_load_blk rfl _ (.tmp 6) rfl a rfl _ C3 Ks3 69 _ Tryd.underlying32 rfl size_ask HL3 ?_)
        | ((with_reducible show wpList _ _ _ (⟨none, .store _ (.tmp 4) _, _, _, _, _⟩ :: _) _ _); refine wpList_store_blk rfl _ (.tmp 4) (.tmp 84) rfl h rfl _ zs C3 rfl Zs3 69 size_ask HZ HL3 H1C ?_; intro w10 K10 O10 hg10)
        | fail)
      refine bodyPost_ret (v := .tuple #[.agg C3.toArray, .int .i64 0]) ?_ rfl ?_
      · exact results_cell_two rfl _ _ h _ _ (0, 0) _ rfl K10.out Tryd.underlying32 rfl (by rw [size_ask]; have := HL3.out; simp [this]) rfl
      · have LF : Below w.heap.size w w10 := below_only Ls3.out O10.out (by omega)
        have VF := OwnZ.onlyAt V3s3.out O10.out hbh3
        obtain ⟨Ax, kx, hux, hHx⟩ := OwnZ.holds8 VF DL.out.1 (Nat.le_trans DL.out.2 (by decide))
        exact HQ.out C3 u3 _ _ (by trivial) rfl ⟨none, 0, 0, Ax, _, kx, none, 0, 0, by rw [HEQ.out, hux], HoldsF.nil _ _ _, hHx, HoldsS.nil _ _ _ _⟩ (by rw [HEQ.out]; rfl) (VF.mono hbw3) LF
  · subst h10
    have D1 : Hid (∀ (w' : World) (g : Nat), PF w' g w.heap.size xs rd0 → Calls Tryd.prog 47 #[.pointer (some ⟨g, 0, none⟩)] w' fun e w2 => e = .returned (.int .u64 (o1 xs).1) ∧ PF w2 g w.heap.size xs (o1 xs).2 ∧ Only g w' w2) := fun w' g h => feight_any w' g w.heap.size xs _ hby h
    have D2 : Hid (∀ (w' : World) (g : Nat), PF w' g w.heap.size xs (o1 xs).2 → Calls Tryd.prog 51 #[.pointer (some ⟨g, 0, none⟩)] w' fun e w2 => ∃ v, e = .returned v ∧ OwnS lockCells 4 69 w2 w'.heap.size v (o5 xs).1 ∧ PF w2 g w.heap.size xs (o5 xs).2 ∧ Save g w' w2) := fun w' g h => flocks_any w' g w.heap.size xs _ hby h
    have DE : Hid (∀ (w' : World) (g : Nat), PF w' g w.heap.size xs (o5 xs).2 → Calls Tryd.prog 52 #[.pointer (some ⟨g, 0, none⟩)] w' fun e w2 => e = .returned (.int .i64 (rdEnd xs (o5 xs).2)) ∧ w' = w2) := fun w' g h => fend_any w' g w.heap.size xs _ h
    have hge : fgErr 10 xs = rdEnd xs (o5 xs).2 := by unfold fgErr; rw [if_pos hk]; rfl
    have HQ : Hid (∀ (cs : List Value) (vx : Value) (e : Ending) (w' : World), rdEnd xs (o5 xs).2 = 0 → e = .returned (.tuple #[.agg cs.toArray, .int .i64 0]) → AskIs w' w'.heap.size cs { zeroAsk with file := (o1 xs).1, locks := (o5 xs).1 } → cs[61]? = some vx → OwnZ .u8 5 w' w.heap.size vx ({ zeroAsk with file := (o1 xs).1, locks := (o5 xs).1 }).data → Below w.heap.size w w' → FGAskPost w 10 xs e w') := by
      intro cs vx e w' h0 h1 h2 h3 h4 h5
      have ho : fgOf 10 xs = { zeroAsk with file := (o1 xs).1, locks := (o5 xs).1 } := by unfold fgOf; rw [hge, h0, if_pos rfl]; rfl
      unfold FGAskPost
      rw [hge, h0, ho]
      exact ⟨cs, vx, h1, h2, h3, h4, h5⟩
    have HE' := Lib.hid (HE.out _ hge)
    obtain ⟨er, her⟩ : ∃ x, x = rdEnd xs (o5 xs).2 := ⟨_, rfl⟩
    rw [← her] at DE HQ HE' 
    obtain ⟨q1, hq1⟩ : ∃ x, x = (o1 xs) := ⟨_, rfl⟩
    rw [← hq1] at D1 D2 HQ
    obtain ⟨q2, hq2⟩ : ∃ x, x = (o5 xs) := ⟨_, rfl⟩
    rw [← hq2] at D2 DE HQ
    clear her hge HE hk hx hq1 hq2
    go_enter Tryd.func22, Tryd.ntmps22
    go_wp2_with (first
      | ((with_reducible show wpList _ _ _ (⟨some 4, _, _, _, _, _⟩ :: _) _ _); refine wpList_alloc_blk rfl _ rfl zs _ ZH ?_; intro h w1 hg1 hg2 Z1 L1)
      | ((with_reducible show wpList _ _ _ (⟨some 6, _, _, _, _, _⟩ :: _) _ _); refine wpList_alloc_blk rfl _ rfl zs _ ZH ?_; intro a w2 hg3 hg4 K2 L02; have Z2 := Lib.hid (Z1.out.over L02.out); have L2 := Lib.hid (step L1.out L02.out); have hha : h ≠ a := (by omega); have hwa : w.heap.size ≤ a := (by have := L1.out.size; omega); have hsz2 := L2.out.size)
      | ((with_reducible show wpList _ _ _ (⟨some 13, _, _, _, _, _⟩ :: _) _ _); refine wpList_build_blk rfl _ _ rfl ([.slice A n k, .int .i64 0] : List Value) (by refine Eq.trans ?_ BR; kernel_rfl) ?_)
      | ((with_reducible show wpList _ _ _ (⟨some 7, _, _, _, _, _⟩ :: _) _ _); refine wpList_alloc_blk rfl _ rfl ([.slice none 0 0, .int .i64 0] : List Value) _ ZR ?_; intro g w3 hg5 hg6 R3 L03; have K3 := Lib.hid (K2.out.over L03.out); have Z3 := Lib.hid (Z2.out.over L03.out); have L3 := Lib.hid (step L2.out L03.out); have hag : a ≠ g := (by omega); have hhg : h ≠ g := (by have := Z2.out.lt; omega); have hwg : w.heap.size ≤ g := (by omega))
      | ((with_reducible show wpList _ _ _ (⟨none, .store _ (.tmp 7) _, _, _, _, _⟩ :: _) _ _); refine wpList_store_blk rfl _ (.tmp 7) (.tmp 13) rfl g rfl _ ([.slice none 0 0, .int .i64 0] : List Value) ([.slice A n k, .int .i64 0] : List Value) rfl R3 2 size_fr HR0 HR1 HR2 ?_; intro w4 R4 O4 hg7; have K4 := Lib.hid (K3.out.only O4.out hag); have Z4 := Lib.hid (Z3.out.only O4.out hhg); have L4 := Lib.hid (below_only L3.out O4.out hwg))
      | fail)
    have P4 : Hid (PF w4 g w.heap.size xs rd0) := ⟨Nat.zero_le _, hwg, A, n, k, R4.out, HX.out.below L4.out⟩
    clear R3 L03 K2 K3 Z1 Z2 Z3 L02 L1 L2 L3 R4 O4 HX
    refine (D1.out w4 g P4.out).mono ?_
    rintro e v1 ⟨rfl, hP, hO⟩
    have hS := Save.of_only hO
    have Pc1 := Lib.hid hP
    have Zc1 := Lib.hid (Z4.out.save hS hhg)
    have Kc1 := Lib.hid (K4.out.save hS hag)
    have Lc1 := Lib.hid (L4.out.trans (hS.below hwg L4.out.size))
    clear hP hS P4 Z4 K4 L4 hO
    go_wp2_with (first
      | ((with_reducible show wpList _ _ _ (⟨none, .store _ (.tmp 76) _, _, _, _, _⟩ :: _) _ _); refine wpList_store_fld rfl _ (.tmp 76) (.tmp 75) rfl a 57 rfl _ zs (.int .u64 q1.1) rfl Kc1 (Lib.hid (by have := HZ.out; omega)) (by kernel_rfl) rfl ?_; intro x1 Ks1 Os1 hqs1; obtain ⟨C1, hC1⟩ : ∃ x, x = zs.set 57 (.int .u64 q1.1) := ⟨_, rfl⟩; have HC1 := Lib.hid hC1; have HL1 : Hid (C1.length = 69) := (by rw [hC1, List.length_set]; exact HZ.out); rw [← hC1] at Ks1; have Zs1 := Lib.hid (Zc1.out.only Os1.out hha); have Ps1 := Lib.hid (Pc1.out.only Os1.out (Ne.symm hag) hwa); have Ls1 := Lib.hid (below_only Lc1.out Os1.out hwa); clear hC1)
      | fail)
    refine (D2.out x1 g Ps1.out).mono ?_
    rintro e v2 ⟨u2, rfl, hV, hP, hS⟩
    have V2 := Lib.hid hV
    have hbs2 : a < x1.heap.size ∧ h < x1.heap.size ∧ w.heap.size ≤ x1.heap.size := ⟨Ks1.out.lt, Zs1.out.lt, Ls1.out.size⟩
    obtain ⟨b2, hb2⟩ : ∃ x, x = x1.heap.size := ⟨_, rfl⟩
    rw [← hb2] at V2 hbs2
    obtain ⟨hba2, hbh2, hbw2⟩ := hbs2
    clear hV hb2
    have Pc2 := Lib.hid hP
    have Zc2 := Lib.hid (Zs1.out.save hS hhg)
    have Kc2 := Lib.hid (Ks1.out.save hS hag)
    have Lc2 := Lib.hid (Ls1.out.trans (hS.below hwg Ls1.out.size))
    clear hP hS Ps1 Zs1 Ks1 Ls1 
    go_wp2_with (first
      | ((with_reducible show wpList _ _ _ (⟨none, .store _ (.tmp 78) _, _, _, _, _⟩ :: _) _ _); refine wpList_store_fld rfl _ (.tmp 78) (.tmp 77) rfl a 62 rfl _ C1 (u2) rfl Kc2 (Lib.hid (by have := HL1.out; omega)) (by kernel_rfl) (ownS_one V2.out) ?_; intro x2 Ks2 Os2 hqs2; obtain ⟨C2, hC2⟩ : ∃ x, x = C1.set 62 (u2) := ⟨_, rfl⟩; have HC2 := Lib.hid hC2; have HL2 : Hid (C2.length = 69) := (by rw [hC2, List.length_set]; exact HL1.out); rw [← hC2] at Ks2; have Zs2 := Lib.hid (Zc2.out.only Os2.out hha); have Ps2 := Lib.hid (Pc2.out.only Os2.out (Ne.symm hag) hwa); have Ls2 := Lib.hid (below_only Lc2.out Os2.out hwa); have V2s2 := Lib.hid (V2.out.only Os2.out hba2); clear hC2)
      | fail)
    refine (DE.out x2 g Ps2.out).mono ?_
    rintro e x2' ⟨rfl, rfl⟩
    by_cases he : er = 0
    rotate_left
    · have hne : (er != 0) = true := by simpa using he
      have HN := Lib.hid (HE'.out he)
      clear he HE' HQ
      go_wp2_with (first
        | ((with_reducible show wpList _ _ _ (⟨some 82, _, _, _, _, _⟩ :: _) _ _); refine wpList_build_none rfl _ rfl zs BZ ?_)
        | ((with_reducible show wpList _ _ _ (⟨none, .store _ (.tmp 4) _, _, _, _, _⟩ :: _) _ _); refine wpList_store_blk rfl _ (.tmp 4) (.tmp 82) rfl h rfl _ zs zs rfl Zs2 69 size_ask HZ HZ HZ1 ?_; intro w10 K10 O10 hg10)
        | fail)
      refine bodyPost_ret (v := .tuple #[.agg zs.toArray, .int .i64 er]) ?_ rfl (HN.out _ _ rfl (below_only Ls2.out O10.out (by omega)))
      exact results_cell_two rfl _ _ h _ _ (0, 0) _ rfl K10.out Tryd.underlying32 rfl (by rw [size_ask]; have := HZ.out; simp [this]) rfl
    · subst he
      have HEQ : Hid (C2 = acells (.slice none 0 0) (.slice none 0 0) u2 { zeroAsk with file := q1.1, locks := q2.1 }) := by
        show _ = _
        rw [HC2.out, HC1.out, HZS.out]
        rfl
      have H1C : Hid (∀ v ∈ C2, v.oneCell' = true) := by
        show _
        rw [HEQ.out]
        exact acells_one rfl rfl (ownS_one V2s2.out)
      go_wp2_with (first
        | ((with_reducible show wpList _ _ _ (⟨some 84, _, _, _, _, _⟩ :: _) _ _); refine wpList_load_blk rfl _ (.tmp 6) rfl a rfl _ C2 Ks2 69 _ Tryd.underlying32 rfl size_ask HL2 ?_)
        | ((with_reducible show wpList _ _ _ (⟨none, .store _ (.tmp 4) _, _, _, _, _⟩ :: _) _ _); refine wpList_store_blk rfl _ (.tmp 4) (.tmp 84) rfl h rfl _ zs C2 rfl Zs2 69 size_ask HZ HL2 H1C ?_; intro w10 K10 O10 hg10)
        | fail)
      refine bodyPost_ret (v := .tuple #[.agg C2.toArray, .int .i64 0]) ?_ rfl ?_
      · exact results_cell_two rfl _ _ h _ _ (0, 0) _ rfl K10.out Tryd.underlying32 rfl (by rw [size_ask]; have := HL2.out; simp [this]) rfl
      · have LF : Below w.heap.size w w10 := below_only Ls2.out O10.out (by omega)
        have VL := OwnS.only V2s2.out O10.out hbh2
        obtain ⟨Al, nl, kl, hul, hHl⟩ := OwnS.holds (by decide) lockCells_len VL
        exact HQ.out C2 (.slice none 0 0) _ _ (by trivial) rfl ⟨none, 0, 0, none, 0, 0, Al, nl, kl, by rw [HEQ.out, hul], HoldsF.nil _ _ _, Holds.nil _ _, hHl⟩ (by rw [HEQ.out]; rfl) (OwnZ.nil _ _ _ _) LF
set_option maxHeartbeats 4000000 in
theorem FGetSay_any (w : World) (c : Int) (A : Option Addr) (n k : Nat) (xs : List Int) (hc : 0 ≤ c ∧ c ≤ 65535) (hx : Holds w w.heap.size A n k xs) :
    Calls Tryd.prog 24 #[.int .u16 c, .slice A n k] w (FGSayPost w c xs) := by
  have hby := hx.byte
  have HX := Lib.hid hx
  have hmf : ∀ (fn : Fn) (first cap : Array Value) (w : World), (Instr.makeFunc fn first cap).run Tryd.prog w = .ok (.func fn first cap) w := fun _ _ _ _ => rfl
  have ZH := Lib.hid zero_say
  have BZ := built_say
  have ZR := Lib.hid zero_fr
  have HZ : Hid ((scells (.slice none 0 0) (.slice none 0 0) zeroSay).length = 20) := scells_len zeroSay_ok
  have HZ1 : Hid (∀ v ∈ scells (.slice none 0 0) (.slice none 0 0) zeroSay, v.oneCell' = true) := (zeroSay_is w 0).one
  have HZI : Hid (∀ w' : World, SayIs w' w'.heap.size (scells (.slice none 0 0) (.slice none 0 0) zeroSay) zeroSay) := fun w' => zeroSay_is w' _
  have HZD : Hid ((scells (.slice none 0 0) (.slice none 0 0) zeroSay)[15]? = some (.slice none 0 0)) := rfl
  have BR : Tryd.prog.built 75 [(0, .slice A n k)] = some ([.slice A n k, .int .i64 0] : List Value).toArray := by kernel_rfl
  have HR0 : Hid (([.slice none 0 0, .int .i64 0] : List Value).length = 2) := rfl
  have HR1 : Hid (([.slice A n k, .int .i64 0] : List Value).length = 2) := rfl
  have HR2 : Hid (∀ v ∈ ([.slice A n k, .int .i64 0] : List Value), v.oneCell' = true) := by
    intro v hv
    rcases List.mem_cons.1 hv with rfl | hv
    · rfl
    · rw [List.mem_singleton.1 hv]; rfl
  have HE : Hid (∀ er, sgErr c xs = er → er ≠ 0 → ∀ e w', e = .returned (.tuple #[.agg (scells (.slice none 0 0) (.slice none 0 0) zeroSay).toArray, .int .i64 er]) → Below w.heap.size w w' → FGSayPost w c xs e w') := by
    intro er h1 h2 e w' he hb
    unfold FGSayPost sgOf
    rw [h1, if_neg h2]
    exact ⟨_, _, he, HZI.out w', HZD.out, OwnZ.nil _ _ _ _, hb⟩
  obtain ⟨zs, hzs⟩ : ∃ zs, zs = scells (.slice none 0 0) (.slice none 0 0) zeroSay := ⟨_, rfl⟩
  have HZS := Lib.hid hzs
  rw [← hzs] at ZH BZ HZ HZ1 HE
  clear hzs HZI HZD
  by_cases hk : knownF c = true
  rotate_left
  · have HQ := Lib.hid (HE.out 2 (by unfold sgErr; rw [if_neg hk]) (by decide))
    have hk' : c ≠ 5 ∧ c ≠ 6 ∧ c ≠ 7 ∧ c ≠ 8 ∧ c ≠ 9 ∧ c ≠ 10 := by
      refine ⟨?_, ?_, ?_, ?_, ?_, ?_⟩ <;> (rintro rfl; exact hk (by decide))
    obtain ⟨h5, h6, h7, h8, h9, h10⟩ := hk'
    have b5 : (c == 5) = false := by simpa using h5
    have b6 : (c == 6) = false := by simpa using h6
    have b7 : (c == 7) = false := by simpa using h7
    have b8 : (c == 8) = false := by simpa using h8
    have b9 : (c == 9) = false := by simpa using h9
    have b10 : (c == 10) = false := by simpa using h10
    clear hk HE hx h5 h6 h7 h8 h9 h10
    go_enter Tryd.func24, Tryd.ntmps24
    go_wp2_with (first
      | ((with_reducible show wpList _ _ _ (⟨some 4, _, _, _, _, _⟩ :: _) _ _); refine wpList_alloc_blk rfl _ rfl zs _ ZH ?_; intro h w1 hg1 hg2 Z1 L1)
      | ((with_reducible show wpList _ _ _ (⟨some 6, _, _, _, _, _⟩ :: _) _ _); refine wpList_alloc_blk rfl _ rfl zs _ ZH ?_; intro a w2 hg3 hg4 K2 L02; have Z2 := Lib.hid (Z1.out.over L02.out); have L2 := Lib.hid (step L1.out L02.out); have hha : h ≠ a := (by omega); have hwa : w.heap.size ≤ a := (by have := L1.out.size; omega); have hsz2 := L2.out.size)
      | ((with_reducible show wpList _ _ _ (⟨some 13, _, _, _, _, _⟩ :: _) _ _); refine wpList_build_blk rfl _ _ rfl ([.slice A n k, .int .i64 0] : List Value) (by refine Eq.trans ?_ BR; kernel_rfl) ?_)
      | ((with_reducible show wpList _ _ _ (⟨some 7, _, _, _, _, _⟩ :: _) _ _); refine wpList_alloc_blk rfl _ rfl ([.slice none 0 0, .int .i64 0] : List Value) _ ZR ?_; intro g w3 hg5 hg6 R3 L03; have K3 := Lib.hid (K2.out.over L03.out); have Z3 := Lib.hid (Z2.out.over L03.out); have L3 := Lib.hid (step L2.out L03.out); have hag : a ≠ g := (by omega); have hhg : h ≠ g := (by have := Z2.out.lt; omega); have hwg : w.heap.size ≤ g := (by omega))
      | ((with_reducible show wpList _ _ _ (⟨none, .store _ (.tmp 7) _, _, _, _, _⟩ :: _) _ _); refine wpList_store_blk rfl _ (.tmp 7) (.tmp 13) rfl g rfl _ ([.slice none 0 0, .int .i64 0] : List Value) ([.slice A n k, .int .i64 0] : List Value) rfl R3 2 size_fr HR0 HR1 HR2 ?_; intro w4 R4 O4 hg7; have K4 := Lib.hid (K3.out.only O4.out hag); have Z4 := Lib.hid (Z3.out.only O4.out hhg); have L4 := Lib.hid (below_only L3.out O4.out hwg))
      | ((with_reducible show wpList _ _ _ (⟨some 18, _, _, _, _, _⟩ :: _) _ _); refine wpList_build_none rfl _ rfl zs BZ ?_)
      | ((with_reducible show wpList _ _ _ (⟨none, .store _ (.tmp 4) _, _, _, _, _⟩ :: _) _ _); refine wpList_store_blk rfl _ (.tmp 4) (.tmp 18) rfl h rfl _ zs zs rfl Z4 20 size_say HZ HZ HZ1 ?_; intro w10 K10 O10 hg10)
      | fail)
    refine bodyPost_ret (v := .tuple #[.agg zs.toArray, .int .i64 2]) ?_ rfl (HQ.out _ _ rfl (below_only L4.out O10.out (by omega)))
    exact results_cell_two rfl _ _ h _ _ (0, 0) _ rfl K10.out Tryd.underlying45 rfl (by rw [size_say]; have := HZ.out; simp [this]) rfl
  have hcs : c = 5 ∨ c = 6 ∨ c = 7 ∨ c = 8 ∨ c = 9 ∨ c = 10 := by unfold knownF at hk; simp at hk; omega
  rcases hcs with h5 | h6 | h7 | h8 | h9 | h10
  · subst h5
    have D1 : Hid (∀ (w' : World) (g : Nat), PF w' g w.heap.size xs rd0 → Calls Tryd.prog 45 #[.pointer (some ⟨g, 0, none⟩)] w' fun e w2 => e = .returned (.int .u8 (s1 xs).1) ∧ PF w2 g w.heap.size xs (s1 xs).2 ∧ Only g w' w2) := fun w' g h => fone_any w' g w.heap.size xs _ hby h
    have D2 : Hid (∀ (w' : World) (g : Nat), PF w' g w.heap.size xs (s1 xs).2 → Calls Tryd.prog 45 #[.pointer (some ⟨g, 0, none⟩)] w' fun e w2 => e = .returned (.int .u8 (s2 xs).1) ∧ PF w2 g w.heap.size xs (s2 xs).2 ∧ Only g w' w2) := fun w' g h => fone_any w' g w.heap.size xs _ hby h
    have D3 : Hid (∀ (w' : World) (g : Nat), PF w' g w.heap.size xs (s2 xs).2 → Calls Tryd.prog 58 #[.pointer (some ⟨g, 0, none⟩), .int .u16 2] w' fun e w2 => e = .returned (.int .u16 (s3 xs).1) ∧ PF w2 g w.heap.size xs (s3 xs).2 ∧ Only g w' w2) := fun w' g h => fup_any w' g w.heap.size xs _ 2 hby h (by decide)
    have D4 : Hid (∀ (w' : World) (g : Nat), PF w' g w.heap.size xs (s3 xs).2 → Calls Tryd.prog 47 #[.pointer (some ⟨g, 0, none⟩)] w' fun e w2 => e = .returned (.int .u64 (s4 xs).1) ∧ PF w2 g w.heap.size xs (s4 xs).2 ∧ Only g w' w2) := fun w' g h => feight_any w' g w.heap.size xs _ hby h
    have D5 : Hid (∀ (w' : World) (g : Nat), PF w' g w.heap.size xs (s4 xs).2 → Calls Tryd.prog 47 #[.pointer (some ⟨g, 0, none⟩)] w' fun e w2 => e = .returned (.int .u64 (s5 xs).1) ∧ PF w2 g w.heap.size xs (s5 xs).2 ∧ Only g w' w2) := fun w' g h => feight_any w' g w.heap.size xs _ hby h
    have D6 : Hid (∀ (w' : World) (g : Nat), PF w' g w.heap.size xs (s5 xs).2 → Calls Tryd.prog 58 #[.pointer (some ⟨g, 0, none⟩), .int .u16 2] w' fun e w2 => e = .returned (.int .u16 (s6 xs).1) ∧ PF w2 g w.heap.size xs (s6 xs).2 ∧ Only g w' w2) := fun w' g h => fup_any w' g w.heap.size xs _ 2 hby h (by decide)
    have D7 : Hid (∀ (w' : World) (g : Nat), PF w' g w.heap.size xs (s6 xs).2 → Calls Tryd.prog 48 #[.pointer (some ⟨g, 0, none⟩), .int .i64 2] w' fun e w2 => e = .returned (.tuple #[]) ∧ PF w2 g w.heap.size xs (s7 xs) ∧ Only g w' w2) := fun w' g h => fnought_any w' g w.heap.size xs _ 2 hby h (by decide)
    have DE : Hid (∀ (w' : World) (g : Nat), PF w' g w.heap.size xs (s7 xs) → Calls Tryd.prog 52 #[.pointer (some ⟨g, 0, none⟩)] w' fun e w2 => e = .returned (.int .i64 (rdEnd xs (s7 xs))) ∧ w' = w2) := fun w' g h => fend_any w' g w.heap.size xs _ h
    have hge : sgErr 5 xs = rdEnd xs (s7 xs) := by unfold sgErr; rw [if_pos hk]; rfl
    have HQ : Hid (∀ (cs : List Value) (vx : Value) (e : Ending) (w' : World), rdEnd xs (s7 xs) = 0 → e = .returned (.tuple #[.agg cs.toArray, .int .i64 0]) → SayIs w' w'.heap.size cs { zeroSay with lev := (s1 xs).1, dur := (s2 xs).1, made := (s3 xs).1, file := (s4 xs).1, siz := (s5 xs).1, kind := (s6 xs).1 } → cs[15]? = some vx → OwnZ .u8 5 w' w.heap.size vx ({ zeroSay with lev := (s1 xs).1, dur := (s2 xs).1, made := (s3 xs).1, file := (s4 xs).1, siz := (s5 xs).1, kind := (s6 xs).1 }).data → Below w.heap.size w w' → FGSayPost w 5 xs e w') := by
      intro cs vx e w' h0 h1 h2 h3 h4 h5
      have ho : sgOf 5 xs = { zeroSay with lev := (s1 xs).1, dur := (s2 xs).1, made := (s3 xs).1, file := (s4 xs).1, siz := (s5 xs).1, kind := (s6 xs).1 } := by unfold sgOf; rw [hge, h0, if_pos rfl]; rfl
      unfold FGSayPost
      rw [hge, h0, ho]
      exact ⟨cs, vx, h1, h2, h3, h4, h5⟩
    have HE' := Lib.hid (HE.out _ hge)
    obtain ⟨k6, hk6⟩ : ∃ x, IntKind.u8.wrap (s6 xs).1 = x := ⟨_, rfl⟩
    have HK6 : Hid (rdEnd xs (s7 xs) = 0 → k6 = (s6 xs).1) := fun h => by
      have h2 := (sgP_made h).2
      have h0 := (rdUp_lt hby 2 (s5 xs).2).1
      change 0 ≤ (s6 xs).1 at h0
      rw [← hk6, IntKind.wrap_u8]
      omega
    obtain ⟨er, her⟩ : ∃ x, x = rdEnd xs (s7 xs) := ⟨_, rfl⟩
    rw [← her] at DE HQ HE' HK6
    obtain ⟨q1, hq1⟩ : ∃ x, x = (s1 xs) := ⟨_, rfl⟩
    rw [← hq1] at D1 D2 HQ
    obtain ⟨q2, hq2⟩ : ∃ x, x = (s2 xs) := ⟨_, rfl⟩
    rw [← hq2] at D2 D3 HQ
    obtain ⟨q3, hq3⟩ : ∃ x, x = (s3 xs) := ⟨_, rfl⟩
    rw [← hq3] at D3 D4 HQ
    obtain ⟨q4, hq4⟩ : ∃ x, x = (s4 xs) := ⟨_, rfl⟩
    rw [← hq4] at D4 D5 HQ
    obtain ⟨q5, hq5⟩ : ∃ x, x = (s5 xs) := ⟨_, rfl⟩
    rw [← hq5] at D5 D6 HQ
    obtain ⟨q6, hq6⟩ : ∃ x, x = (s6 xs) := ⟨_, rfl⟩
    rw [← hq6] at D6 D7 HQ HK6 hk6
    obtain ⟨q7, hq7⟩ : ∃ x, x = (s7 xs) := ⟨_, rfl⟩
    rw [← hq7] at D7 DE
    clear her hge HE hk hx hq1 hq2 hq3 hq4 hq5 hq6 hq7
    go_enter Tryd.func24, Tryd.ntmps24
    go_wp2_with (first
      | ((with_reducible show wpList _ _ _ (⟨some 4, _, _, _, _, _⟩ :: _) _ _); refine wpList_alloc_blk rfl _ rfl zs _ ZH ?_; intro h w1 hg1 hg2 Z1 L1)
      | ((with_reducible show wpList _ _ _ (⟨some 6, _, _, _, _, _⟩ :: _) _ _); refine wpList_alloc_blk rfl _ rfl zs _ ZH ?_; intro a w2 hg3 hg4 K2 L02; have Z2 := Lib.hid (Z1.out.over L02.out); have L2 := Lib.hid (step L1.out L02.out); have hha : h ≠ a := (by omega); have hwa : w.heap.size ≤ a := (by have := L1.out.size; omega); have hsz2 := L2.out.size)
      | ((with_reducible show wpList _ _ _ (⟨some 13, _, _, _, _, _⟩ :: _) _ _); refine wpList_build_blk rfl _ _ rfl ([.slice A n k, .int .i64 0] : List Value) (by refine Eq.trans ?_ BR; kernel_rfl) ?_)
      | ((with_reducible show wpList _ _ _ (⟨some 7, _, _, _, _, _⟩ :: _) _ _); refine wpList_alloc_blk rfl _ rfl ([.slice none 0 0, .int .i64 0] : List Value) _ ZR ?_; intro g w3 hg5 hg6 R3 L03; have K3 := Lib.hid (K2.out.over L03.out); have Z3 := Lib.hid (Z2.out.over L03.out); have L3 := Lib.hid (step L2.out L03.out); have hag : a ≠ g := (by omega); have hhg : h ≠ g := (by have := Z2.out.lt; omega); have hwg : w.heap.size ≤ g := (by omega))
      | ((with_reducible show wpList _ _ _ (⟨none, .store _ (.tmp 7) _, _, _, _, _⟩ :: _) _ _); refine wpList_store_blk rfl _ (.tmp 7) (.tmp 13) rfl g rfl _ ([.slice none 0 0, .int .i64 0] : List Value) ([.slice A n k, .int .i64 0] : List Value) rfl R3 2 size_fr HR0 HR1 HR2 ?_; intro w4 R4 O4 hg7; have K4 := Lib.hid (K3.out.only O4.out hag); have Z4 := Lib.hid (Z3.out.only O4.out hhg); have L4 := Lib.hid (below_only L3.out O4.out hwg))
      | fail)
    have P4 : Hid (PF w4 g w.heap.size xs rd0) := ⟨Nat.zero_le _, hwg, A, n, k, R4.out, HX.out.below L4.out⟩
    clear R3 L03 K2 K3 Z1 Z2 Z3 L02 L1 L2 L3 R4 O4 HX
    refine (D1.out w4 g P4.out).mono ?_
    rintro e v1 ⟨rfl, hP, hO⟩
    have hS := Save.of_only hO
    have Pc1 := Lib.hid hP
    have Zc1 := Lib.hid (Z4.out.save hS hhg)
    have Kc1 := Lib.hid (K4.out.save hS hag)
    have Lc1 := Lib.hid (L4.out.trans (hS.below hwg L4.out.size))
    clear hP hS P4 Z4 K4 L4 hO
    go_wp2_with fail
    refine (D2.out v1 g Pc1.out).mono ?_
    rintro e v2 ⟨rfl, hP, hO⟩
    have hS := Save.of_only hO
    have Pc2 := Lib.hid hP
    have Zc2 := Lib.hid (Zc1.out.save hS hhg)
    have Kc2 := Lib.hid (Kc1.out.save hS hag)
    have Lc2 := Lib.hid (Lc1.out.trans (hS.below hwg Lc1.out.size))
    clear hP hS Pc1 Zc1 Kc1 Lc1 hO
    go_wp2_with (first
      | ((with_reducible show wpList _ _ _ (⟨none, .store _ (.tmp 25) _, _, _, _, _⟩ :: _) _ _); refine wpList_store_fld rfl _ (.tmp 25) (.tmp 22) rfl a 10 rfl _ zs (.int .u8 q1.1) rfl Kc2 (Lib.hid (by have := HZ.out; omega)) (by kernel_rfl) rfl ?_; intro x1 Ks1 Os1 hqs1; obtain ⟨C1, hC1⟩ : ∃ x, x = zs.set 10 (.int .u8 q1.1) := ⟨_, rfl⟩; have HC1 := Lib.hid hC1; have HL1 : Hid (C1.length = 20) := (by rw [hC1, List.length_set]; exact HZ.out); rw [← hC1] at Ks1; have Zs1 := Lib.hid (Zc2.out.only Os1.out hha); have Ps1 := Lib.hid (Pc2.out.only Os1.out (Ne.symm hag) hwa); have Ls1 := Lib.hid (below_only Lc2.out Os1.out hwa); clear hC1)
      | ((with_reducible show wpList _ _ _ (⟨none, .store _ (.tmp 26) _, _, _, _, _⟩ :: _) _ _); refine wpList_store_fld rfl _ (.tmp 26) (.tmp 24) rfl a 11 rfl _ C1 (.int .u8 q2.1) rfl Ks1 (Lib.hid (by have := HL1.out; omega)) (by kernel_rfl) rfl ?_; intro x2 Ks2 Os2 hqs2; obtain ⟨C2, hC2⟩ : ∃ x, x = C1.set 11 (.int .u8 q2.1) := ⟨_, rfl⟩; have HC2 := Lib.hid hC2; have HL2 : Hid (C2.length = 20) := (by rw [hC2, List.length_set]; exact HL1.out); rw [← hC2] at Ks2; have Zs2 := Lib.hid (Zs1.out.only Os2.out hha); have Ps2 := Lib.hid (Ps1.out.only Os2.out (Ne.symm hag) hwa); have Ls2 := Lib.hid (below_only Ls1.out Os2.out hwa); clear hC2)
      | fail)
    refine (D3.out x2 g Ps2.out).mono ?_
    rintro e v3 ⟨rfl, hP, hO⟩
    have hS := Save.of_only hO
    have Pc3 := Lib.hid hP
    have Zc3 := Lib.hid (Zs2.out.save hS hhg)
    have Kc3 := Lib.hid (Ks2.out.save hS hag)
    have Lc3 := Lib.hid (Ls2.out.trans (hS.below hwg Ls2.out.size))
    clear hP hS Ps2 Zs2 Ks2 Ls2 hO
    go_wp2_with (first
      | ((with_reducible show wpList _ _ _ (⟨none, .store _ (.tmp 29) _, _, _, _, _⟩ :: _) _ _); refine wpList_store_fld rfl _ (.tmp 29) (.tmp 28) rfl a 12 rfl _ C2 (.int .u16 q3.1) rfl Kc3 (Lib.hid (by have := HL2.out; omega)) (by kernel_rfl) rfl ?_; intro x3 Ks3 Os3 hqs3; obtain ⟨C3, hC3⟩ : ∃ x, x = C2.set 12 (.int .u16 q3.1) := ⟨_, rfl⟩; have HC3 := Lib.hid hC3; have HL3 : Hid (C3.length = 20) := (by rw [hC3, List.length_set]; exact HL2.out); rw [← hC3] at Ks3; have Zs3 := Lib.hid (Zc3.out.only Os3.out hha); have Ps3 := Lib.hid (Pc3.out.only Os3.out (Ne.symm hag) hwa); have Ls3 := Lib.hid (below_only Lc3.out Os3.out hwa); clear hC3)
      | fail)
    refine (D4.out x3 g Ps3.out).mono ?_
    rintro e v4 ⟨rfl, hP, hO⟩
    have hS := Save.of_only hO
    have Pc4 := Lib.hid hP
    have Zc4 := Lib.hid (Zs3.out.save hS hhg)
    have Kc4 := Lib.hid (Ks3.out.save hS hag)
    have Lc4 := Lib.hid (Ls3.out.trans (hS.below hwg Ls3.out.size))
    clear hP hS Ps3 Zs3 Ks3 Ls3 hO
    go_wp2_with fail
    refine (D5.out v4 g Pc4.out).mono ?_
    rintro e v5 ⟨rfl, hP, hO⟩
    have hS := Save.of_only hO
    have Pc5 := Lib.hid hP
    have Zc5 := Lib.hid (Zc4.out.save hS hhg)
    have Kc5 := Lib.hid (Kc4.out.save hS hag)
    have Lc5 := Lib.hid (Lc4.out.trans (hS.below hwg Lc4.out.size))
    clear hP hS Pc4 Zc4 Kc4 Lc4 hO
    go_wp2_with (first
      | ((with_reducible show wpList _ _ _ (⟨none, .store _ (.tmp 34) _, _, _, _, _⟩ :: _) _ _); refine wpList_store_fld rfl _ (.tmp 34) (.tmp 31) rfl a 13 rfl _ C3 (.int .u64 q4.1) rfl Kc5 (Lib.hid (by have := HL3.out; omega)) (by kernel_rfl) rfl ?_; intro x4 Ks4 Os4 hqs4; obtain ⟨C4, hC4⟩ : ∃ x, x = C3.set 13 (.int .u64 q4.1) := ⟨_, rfl⟩; have HC4 := Lib.hid hC4; have HL4 : Hid (C4.length = 20) := (by rw [hC4, List.length_set]; exact HL3.out); rw [← hC4] at Ks4; have Zs4 := Lib.hid (Zc5.out.only Os4.out hha); have Ps4 := Lib.hid (Pc5.out.only Os4.out (Ne.symm hag) hwa); have Ls4 := Lib.hid (below_only Lc5.out Os4.out hwa); clear hC4)
      | ((with_reducible show wpList _ _ _ (⟨none, .store _ (.tmp 35) _, _, _, _, _⟩ :: _) _ _); refine wpList_store_fld rfl _ (.tmp 35) (.tmp 33) rfl a 1 rfl _ C4 (.int .u64 q5.1) rfl Ks4 (Lib.hid (by have := HL4.out; omega)) (by kernel_rfl) rfl ?_; intro x5 Ks5 Os5 hqs5; obtain ⟨C5, hC5⟩ : ∃ x, x = C4.set 1 (.int .u64 q5.1) := ⟨_, rfl⟩; have HC5 := Lib.hid hC5; have HL5 : Hid (C5.length = 20) := (by rw [hC5, List.length_set]; exact HL4.out); rw [← hC5] at Ks5; have Zs5 := Lib.hid (Zs4.out.only Os5.out hha); have Ps5 := Lib.hid (Ps4.out.only Os5.out (Ne.symm hag) hwa); have Ls5 := Lib.hid (below_only Ls4.out Os5.out hwa); clear hC5)
      | fail)
    refine (D6.out x5 g Ps5.out).mono ?_
    rintro e v6 ⟨rfl, hP, hO⟩
    have hS := Save.of_only hO
    have Pc6 := Lib.hid hP
    have Zc6 := Lib.hid (Zs5.out.save hS hhg)
    have Kc6 := Lib.hid (Ks5.out.save hS hag)
    have Lc6 := Lib.hid (Ls5.out.trans (hS.below hwg Ls5.out.size))
    clear hP hS Ps5 Zs5 Ks5 Ls5 hO
    go_wp2_with (first
      | ((with_reducible show wpList _ _ _ (⟨none, .store _ (.tmp 39) _, _, _, _, _⟩ :: _) _ _); refine wpList_store_fld rfl _ (.tmp 39) (.tmp 38) rfl a 14 rfl _ C5 (.int .u8 k6) rfl Kc6 (Lib.hid (by have := HL5.out; omega)) (by kernel_rfl) rfl ?_; intro x6 Ks6 Os6 hqs6; obtain ⟨C6, hC6⟩ : ∃ x, x = C5.set 14 (.int .u8 k6) := ⟨_, rfl⟩; have HC6 := Lib.hid hC6; have HL6 : Hid (C6.length = 20) := (by rw [hC6, List.length_set]; exact HL5.out); rw [← hC6] at Ks6; have Zs6 := Lib.hid (Zc6.out.only Os6.out hha); have Ps6 := Lib.hid (Pc6.out.only Os6.out (Ne.symm hag) hwa); have Ls6 := Lib.hid (below_only Lc6.out Os6.out hwa); clear hC6)
      | fail)
    refine (D7.out x6 g Ps6.out).mono ?_
    rintro e v7 ⟨rfl, hP, hO⟩
    have hS := Save.of_only hO
    have Pc7 := Lib.hid hP
    have Zc7 := Lib.hid (Zs6.out.save hS hhg)
    have Kc7 := Lib.hid (Ks6.out.save hS hag)
    have Lc7 := Lib.hid (Ls6.out.trans (hS.below hwg Ls6.out.size))
    clear hP hS Ps6 Zs6 Ks6 Ls6 hO
    go_wp2_with fail
    refine (DE.out v7 g Pc7.out).mono ?_
    rintro e v7' ⟨rfl, rfl⟩
    by_cases he : er = 0
    rotate_left
    · have hne : (er != 0) = true := by simpa using he
      have HN := Lib.hid (HE'.out he)
      clear he HE' HQ
      go_wp2_with (first
        | ((with_reducible show wpList _ _ _ (⟨some 57, _, _, _, _, _⟩ :: _) _ _); refine wpList_build_none rfl _ rfl zs BZ ?_)
        | ((with_reducible show wpList _ _ _ (⟨none, .store _ (.tmp 4) _, _, _, _, _⟩ :: _) _ _); refine wpList_store_blk rfl _ (.tmp 4) (.tmp 57) rfl h rfl _ zs zs rfl Zc7 20 size_say HZ HZ HZ1 ?_; intro w10 K10 O10 hg10)
        | fail)
      refine bodyPost_ret (v := .tuple #[.agg zs.toArray, .int .i64 er]) ?_ rfl (HN.out _ _ rfl (below_only Lc7.out O10.out (by omega)))
      exact results_cell_two rfl _ _ h _ _ (0, 0) _ rfl K10.out Tryd.underlying45 rfl (by rw [size_say]; have := HZ.out; simp [this]) rfl
    · subst he
      have HEQ : Hid (C6 = scells (.slice none 0 0) (.slice none 0 0) { zeroSay with lev := q1.1, dur := q2.1, made := q3.1, file := q4.1, siz := q5.1, kind := q6.1 }) := by
        show _ = _
        rw [HC6.out, HC5.out, HC4.out, HC3.out, HC2.out, HC1.out, HZS.out]
        rw [HK6.out (by trivial)]
        rfl
      have H1C : Hid (∀ v ∈ C6, v.oneCell' = true) := by
        show _
        rw [HEQ.out]
        exact scells_one rfl rfl
      go_wp2_with (first
        | ((with_reducible show wpList _ _ _ (⟨some 59, _, _, _, _, _⟩ :: _) _ _); refine wpList_load_blk rfl _ (.tmp 6) rfl a rfl _ C6 Kc7 20 _ Tryd.underlying45 rfl size_say HL6 ?_)
        | ((with_reducible show wpList _ _ _ (⟨none, .store _ (.tmp 4) _, _, _, _, _⟩ :: _) _ _); refine wpList_store_blk rfl _ (.tmp 4) (.tmp 59) rfl h rfl _ zs C6 rfl Zc7 20 size_say HZ HL6 H1C ?_; intro w10 K10 O10 hg10)
        | fail)
      refine bodyPost_ret (v := .tuple #[.agg C6.toArray, .int .i64 0]) ?_ rfl ?_
      · exact results_cell_two rfl _ _ h _ _ (0, 0) _ rfl K10.out Tryd.underlying45 rfl (by rw [size_say]; have := HL6.out; simp [this]) rfl
      · have LF : Below w.heap.size w w10 := below_only Lc7.out O10.out (by omega)
        exact HQ.out C6 (.slice none 0 0) _ _ (by trivial) rfl ⟨none, 0, 0, none, 0, 0, by rw [HEQ.out], Holds.nil _ _, HoldsS.nil _ _ _ _⟩ (by rw [HEQ.out]; rfl) (OwnZ.nil _ _ _ _) LF
  · subst h6
    have D1 : Hid (∀ (w' : World) (g : Nat), PF w' g w.heap.size xs rd0 → Calls Tryd.prog 48 #[.pointer (some ⟨g, 0, none⟩), .int .i64 4] w' fun e w2 => e = .returned (.tuple #[]) ∧ PF w2 g w.heap.size xs (rdZ xs 4 rd0) ∧ Only g w' w2) := fun w' g h => fnought_any w' g w.heap.size xs _ 4 hby h (by decide)
    have DE : Hid (∀ (w' : World) (g : Nat), PF w' g w.heap.size xs (rdZ xs 4 rd0) → Calls Tryd.prog 52 #[.pointer (some ⟨g, 0, none⟩)] w' fun e w2 => e = .returned (.int .i64 (rdEnd xs (rdZ xs 4 rd0))) ∧ w' = w2) := fun w' g h => fend_any w' g w.heap.size xs _ h
    have hge : sgErr 6 xs = rdEnd xs (rdZ xs 4 rd0) := by unfold sgErr; rw [if_pos hk]; rfl
    have HQ : Hid (∀ (cs : List Value) (vx : Value) (e : Ending) (w' : World), rdEnd xs (rdZ xs 4 rd0) = 0 → e = .returned (.tuple #[.agg cs.toArray, .int .i64 0]) → SayIs w' w'.heap.size cs zeroSay → cs[15]? = some vx → OwnZ .u8 5 w' w.heap.size vx (zeroSay).data → Below w.heap.size w w' → FGSayPost w 6 xs e w') := by
      intro cs vx e w' h0 h1 h2 h3 h4 h5
      have ho : sgOf 6 xs = zeroSay := by unfold sgOf; rw [hge, h0, if_pos rfl]; rfl
      unfold FGSayPost
      rw [hge, h0, ho]
      exact ⟨cs, vx, h1, h2, h3, h4, h5⟩
    have HE' := Lib.hid (HE.out _ hge)
    obtain ⟨er, her⟩ : ∃ x, x = rdEnd xs (rdZ xs 4 rd0) := ⟨_, rfl⟩
    rw [← her] at DE HQ HE' 
    obtain ⟨q1, hq1⟩ : ∃ x, x = (rdZ xs 4 rd0) := ⟨_, rfl⟩
    rw [← hq1] at D1 DE
    clear her hge HE hk hx hq1
    go_enter Tryd.func24, Tryd.ntmps24
    go_wp2_with (first
      | ((with_reducible show wpList _ _ _ (⟨some 4, _, _, _, _, _⟩ :: _) _ _); refine wpList_alloc_blk rfl _ rfl zs _ ZH ?_; intro h w1 hg1 hg2 Z1 L1)
      | ((with_reducible show wpList _ _ _ (⟨some 6, _, _, _, _, _⟩ :: _) _ _); refine wpList_alloc_blk rfl _ rfl zs _ ZH ?_; intro a w2 hg3 hg4 K2 L02; have Z2 := Lib.hid (Z1.out.over L02.out); have L2 := Lib.hid (step L1.out L02.out); have hha : h ≠ a := (by omega); have hwa : w.heap.size ≤ a := (by have := L1.out.size; omega); have hsz2 := L2.out.size)
      | ((with_reducible show wpList _ _ _ (⟨some 13, _, _, _, _, _⟩ :: _) _ _); refine wpList_build_blk rfl _ _ rfl ([.slice A n k, .int .i64 0] : List Value) (by refine Eq.trans ?_ BR; kernel_rfl) ?_)
      | ((with_reducible show wpList _ _ _ (⟨some 7, _, _, _, _, _⟩ :: _) _ _); refine wpList_alloc_blk rfl _ rfl ([.slice none 0 0, .int .i64 0] : List Value) _ ZR ?_; intro g w3 hg5 hg6 R3 L03; have K3 := Lib.hid (K2.out.over L03.out); have Z3 := Lib.hid (Z2.out.over L03.out); have L3 := Lib.hid (step L2.out L03.out); have hag : a ≠ g := (by omega); have hhg : h ≠ g := (by have := Z2.out.lt; omega); have hwg : w.heap.size ≤ g := (by omega))
      | ((with_reducible show wpList _ _ _ (⟨none, .store _ (.tmp 7) _, _, _, _, _⟩ :: _) _ _); refine wpList_store_blk rfl _ (.tmp 7) (.tmp 13) rfl g rfl _ ([.slice none 0 0, .int .i64 0] : List Value) ([.slice A n k, .int .i64 0] : List Value) rfl R3 2 size_fr HR0 HR1 HR2 ?_; intro w4 R4 O4 hg7; have K4 := Lib.hid (K3.out.only O4.out hag); have Z4 := Lib.hid (Z3.out.only O4.out hhg); have L4 := Lib.hid (below_only L3.out O4.out hwg))
      | fail)
    have P4 : Hid (PF w4 g w.heap.size xs rd0) := ⟨Nat.zero_le _, hwg, A, n, k, R4.out, HX.out.below L4.out⟩
    clear R3 L03 K2 K3 Z1 Z2 Z3 L02 L1 L2 L3 R4 O4 HX
    refine (D1.out w4 g P4.out).mono ?_
    rintro e v1 ⟨rfl, hP, hO⟩
    have hS := Save.of_only hO
    have Pc1 := Lib.hid hP
    have Zc1 := Lib.hid (Z4.out.save hS hhg)
    have Kc1 := Lib.hid (K4.out.save hS hag)
    have Lc1 := Lib.hid (L4.out.trans (hS.below hwg L4.out.size))
    clear hP hS P4 Z4 K4 L4 hO
    go_wp2_with fail
    refine (DE.out v1 g Pc1.out).mono ?_
    rintro e v1' ⟨rfl, rfl⟩
    by_cases he : er = 0
    rotate_left
    · have hne : (er != 0) = true := by simpa using he
      have HN := Lib.hid (HE'.out he)
      clear he HE' HQ
      go_wp2_with (first
        | ((with_reducible show wpList _ _ _ (⟨some 57, _, _, _, _, _⟩ :: _) _ _); refine wpList_build_none rfl _ rfl zs BZ ?_)
        | ((with_reducible show wpList _ _ _ (⟨none, .store _ (.tmp 4) _, _, _, _, _⟩ :: _) _ _); refine wpList_store_blk rfl _ (.tmp 4) (.tmp 57) rfl h rfl _ zs zs rfl Zc1 20 size_say HZ HZ HZ1 ?_; intro w10 K10 O10 hg10)
        | fail)
      refine bodyPost_ret (v := .tuple #[.agg zs.toArray, .int .i64 er]) ?_ rfl (HN.out _ _ rfl (below_only Lc1.out O10.out (by omega)))
      exact results_cell_two rfl _ _ h _ _ (0, 0) _ rfl K10.out Tryd.underlying45 rfl (by rw [size_say]; have := HZ.out; simp [this]) rfl
    · subst he
      have HEQ : Hid (zs = scells (.slice none 0 0) (.slice none 0 0) zeroSay) := by
        show _ = _
        exact HZS.out
      have H1C : Hid (∀ v ∈ zs, v.oneCell' = true) := by
        show _
        rw [HEQ.out]
        exact scells_one rfl rfl
      go_wp2_with (first
        | ((with_reducible show wpList _ _ _ (⟨some 59, _, _, _, _, _⟩ :: _) _ _); refine wpList_load_blk rfl _ (.tmp 6) rfl a rfl _ zs Kc1 20 _ Tryd.underlying45 rfl size_say HZ ?_)
        | ((with_reducible show wpList _ _ _ (⟨none, .store _ (.tmp 4) _, _, _, _, _⟩ :: _) _ _); refine wpList_store_blk rfl _ (.tmp 4) (.tmp 59) rfl h rfl _ zs zs rfl Zc1 20 size_say HZ HZ H1C ?_; intro w10 K10 O10 hg10)
        | fail)
      refine bodyPost_ret (v := .tuple #[.agg zs.toArray, .int .i64 0]) ?_ rfl ?_
      · exact results_cell_two rfl _ _ h _ _ (0, 0) _ rfl K10.out Tryd.underlying45 rfl (by rw [size_say]; have := HZ.out; simp [this]) rfl
      · have LF : Below w.heap.size w w10 := below_only Lc1.out O10.out (by omega)
        exact HQ.out zs (.slice none 0 0) _ _ (by trivial) rfl ⟨none, 0, 0, none, 0, 0, by rw [HEQ.out], Holds.nil _ _, HoldsS.nil _ _ _ _⟩ (by rw [HEQ.out]; rfl) (OwnZ.nil _ _ _ _) LF
  · subst h7
    have D1 : Hid (∀ (w' : World) (g : Nat), PF w' g w.heap.size xs rd0 → Calls Tryd.prog 48 #[.pointer (some ⟨g, 0, none⟩), .int .i64 4] w' fun e w2 => e = .returned (.tuple #[]) ∧ PF w2 g w.heap.size xs (rdZ xs 4 rd0) ∧ Only g w' w2) := fun w' g h => fnought_any w' g w.heap.size xs _ 4 hby h (by decide)
    have DE : Hid (∀ (w' : World) (g : Nat), PF w' g w.heap.size xs (rdZ xs 4 rd0) → Calls Tryd.prog 52 #[.pointer (some ⟨g, 0, none⟩)] w' fun e w2 => e = .returned (.int .i64 (rdEnd xs (rdZ xs 4 rd0))) ∧ w' = w2) := fun w' g h => fend_any w' g w.heap.size xs _ h
    have hge : sgErr 7 xs = rdEnd xs (rdZ xs 4 rd0) := by unfold sgErr; rw [if_pos hk]; rfl
    have HQ : Hid (∀ (cs : List Value) (vx : Value) (e : Ending) (w' : World), rdEnd xs (rdZ xs 4 rd0) = 0 → e = .returned (.tuple #[.agg cs.toArray, .int .i64 0]) → SayIs w' w'.heap.size cs zeroSay → cs[15]? = some vx → OwnZ .u8 5 w' w.heap.size vx (zeroSay).data → Below w.heap.size w w' → FGSayPost w 7 xs e w') := by
      intro cs vx e w' h0 h1 h2 h3 h4 h5
      have ho : sgOf 7 xs = zeroSay := by unfold sgOf; rw [hge, h0, if_pos rfl]; rfl
      unfold FGSayPost
      rw [hge, h0, ho]
      exact ⟨cs, vx, h1, h2, h3, h4, h5⟩
    have HE' := Lib.hid (HE.out _ hge)
    obtain ⟨er, her⟩ : ∃ x, x = rdEnd xs (rdZ xs 4 rd0) := ⟨_, rfl⟩
    rw [← her] at DE HQ HE' 
    obtain ⟨q1, hq1⟩ : ∃ x, x = (rdZ xs 4 rd0) := ⟨_, rfl⟩
    rw [← hq1] at D1 DE
    clear her hge HE hk hx hq1
    go_enter Tryd.func24, Tryd.ntmps24
    go_wp2_with (first
      | ((with_reducible show wpList _ _ _ (⟨some 4, _, _, _, _, _⟩ :: _) _ _); refine wpList_alloc_blk rfl _ rfl zs _ ZH ?_; intro h w1 hg1 hg2 Z1 L1)
      | ((with_reducible show wpList _ _ _ (⟨some 6, _, _, _, _, _⟩ :: _) _ _); refine wpList_alloc_blk rfl _ rfl zs _ ZH ?_; intro a w2 hg3 hg4 K2 L02; have Z2 := Lib.hid (Z1.out.over L02.out); have L2 := Lib.hid (step L1.out L02.out); have hha : h ≠ a := (by omega); have hwa : w.heap.size ≤ a := (by have := L1.out.size; omega); have hsz2 := L2.out.size)
      | ((with_reducible show wpList _ _ _ (⟨some 13, _, _, _, _, _⟩ :: _) _ _); refine wpList_build_blk rfl _ _ rfl ([.slice A n k, .int .i64 0] : List Value) (by refine Eq.trans ?_ BR; kernel_rfl) ?_)
      | ((with_reducible show wpList _ _ _ (⟨some 7, _, _, _, _, _⟩ :: _) _ _); refine wpList_alloc_blk rfl _ rfl ([.slice none 0 0, .int .i64 0] : List Value) _ ZR ?_; intro g w3 hg5 hg6 R3 L03; have K3 := Lib.hid (K2.out.over L03.out); have Z3 := Lib.hid (Z2.out.over L03.out); have L3 := Lib.hid (step L2.out L03.out); have hag : a ≠ g := (by omega); have hhg : h ≠ g := (by have := Z2.out.lt; omega); have hwg : w.heap.size ≤ g := (by omega))
      | ((with_reducible show wpList _ _ _ (⟨none, .store _ (.tmp 7) _, _, _, _, _⟩ :: _) _ _); refine wpList_store_blk rfl _ (.tmp 7) (.tmp 13) rfl g rfl _ ([.slice none 0 0, .int .i64 0] : List Value) ([.slice A n k, .int .i64 0] : List Value) rfl R3 2 size_fr HR0 HR1 HR2 ?_; intro w4 R4 O4 hg7; have K4 := Lib.hid (K3.out.only O4.out hag); have Z4 := Lib.hid (Z3.out.only O4.out hhg); have L4 := Lib.hid (below_only L3.out O4.out hwg))
      | fail)
    have P4 : Hid (PF w4 g w.heap.size xs rd0) := ⟨Nat.zero_le _, hwg, A, n, k, R4.out, HX.out.below L4.out⟩
    clear R3 L03 K2 K3 Z1 Z2 Z3 L02 L1 L2 L3 R4 O4 HX
    refine (D1.out w4 g P4.out).mono ?_
    rintro e v1 ⟨rfl, hP, hO⟩
    have hS := Save.of_only hO
    have Pc1 := Lib.hid hP
    have Zc1 := Lib.hid (Z4.out.save hS hhg)
    have Kc1 := Lib.hid (K4.out.save hS hag)
    have Lc1 := Lib.hid (L4.out.trans (hS.below hwg L4.out.size))
    clear hP hS P4 Z4 K4 L4 hO
    go_wp2_with fail
    refine (DE.out v1 g Pc1.out).mono ?_
    rintro e v1' ⟨rfl, rfl⟩
    by_cases he : er = 0
    rotate_left
    · have hne : (er != 0) = true := by simpa using he
      have HN := Lib.hid (HE'.out he)
      clear he HE' HQ
      go_wp2_with (first
        | ((with_reducible show wpList _ _ _ (⟨some 57, _, _, _, _, _⟩ :: _) _ _); refine wpList_build_none rfl _ rfl zs BZ ?_)
        | ((with_reducible show wpList _ _ _ (⟨none, .store _ (.tmp 4) _, _, _, _, _⟩ :: _) _ _); refine wpList_store_blk rfl _ (.tmp 4) (.tmp 57) rfl h rfl _ zs zs rfl Zc1 20 size_say HZ HZ HZ1 ?_; intro w10 K10 O10 hg10)
        | fail)
      refine bodyPost_ret (v := .tuple #[.agg zs.toArray, .int .i64 er]) ?_ rfl (HN.out _ _ rfl (below_only Lc1.out O10.out (by omega)))
      exact results_cell_two rfl _ _ h _ _ (0, 0) _ rfl K10.out Tryd.underlying45 rfl (by rw [size_say]; have := HZ.out; simp [this]) rfl
    · subst he
      have HEQ : Hid (zs = scells (.slice none 0 0) (.slice none 0 0) zeroSay) := by
        show _ = _
        exact HZS.out
      have H1C : Hid (∀ v ∈ zs, v.oneCell' = true) := by
        show _
        rw [HEQ.out]
        exact scells_one rfl rfl
      go_wp2_with (first
        | ((with_reducible show wpList _ _ _ (⟨some 59, _, _, _, _, _⟩ :: _) _ _); refine wpList_load_blk rfl _ (.tmp 6) rfl a rfl _ zs Kc1 20 _ Tryd.underlying45 rfl size_say HZ ?_)
        | ((with_reducible show wpList _ _ _ (⟨none, .store _ (.tmp 4) _, _, _, _, _⟩ :: _) _ _); refine wpList_store_blk rfl _ (.tmp 4) (.tmp 59) rfl h rfl _ zs zs rfl Zc1 20 size_say HZ HZ H1C ?_; intro w10 K10 O10 hg10)
        | fail)
      refine bodyPost_ret (v := .tuple #[.agg zs.toArray, .int .i64 0]) ?_ rfl ?_
      · exact results_cell_two rfl _ _ h _ _ (0, 0) _ rfl K10.out Tryd.underlying45 rfl (by rw [size_say]; have := HZ.out; simp [this]) rfl
      · have LF : Below w.heap.size w w10 := below_only Lc1.out O10.out (by omega)
        exact HQ.out zs (.slice none 0 0) _ _ (by trivial) rfl ⟨none, 0, 0, none, 0, 0, by rw [HEQ.out], Holds.nil _ _, HoldsS.nil _ _ _ _⟩ (by rw [HEQ.out]; rfl) (OwnZ.nil _ _ _ _) LF
  · subst h8
    have D1 : Hid (∀ (w' : World) (g : Nat), PF w' g w.heap.size xs rd0 → Calls Tryd.prog 50 #[.pointer (some ⟨g, 0, none⟩)] w' fun e w2 => ∃ v, e = .returned v ∧ OwnZ .u8 5 w2 w'.heap.size v (s8 xs).1 ∧ PF w2 g w.heap.size xs (s8 xs).2 ∧ Save g w' w2) := fun w' g h => fdata_any w' g w.heap.size xs _ hby h
    have DE : Hid (∀ (w' : World) (g : Nat), PF w' g w.heap.size xs (s8 xs).2 → Calls Tryd.prog 52 #[.pointer (some ⟨g, 0, none⟩)] w' fun e w2 => e = .returned (.int .i64 (rdEnd xs (s8 xs).2)) ∧ w' = w2) := fun w' g h => fend_any w' g w.heap.size xs _ h
    have hge : sgErr 8 xs = rdEnd xs (s8 xs).2 := by unfold sgErr; rw [if_pos hk]; rfl
    have HQ : Hid (∀ (cs : List Value) (vx : Value) (e : Ending) (w' : World), rdEnd xs (s8 xs).2 = 0 → e = .returned (.tuple #[.agg cs.toArray, .int .i64 0]) → SayIs w' w'.heap.size cs { zeroSay with data := (s8 xs).1 } → cs[15]? = some vx → OwnZ .u8 5 w' w.heap.size vx ({ zeroSay with data := (s8 xs).1 }).data → Below w.heap.size w w' → FGSayPost w 8 xs e w') := by
      intro cs vx e w' h0 h1 h2 h3 h4 h5
      have ho : sgOf 8 xs = { zeroSay with data := (s8 xs).1 } := by unfold sgOf; rw [hge, h0, if_pos rfl]; rfl
      unfold FGSayPost
      rw [hge, h0, ho]
      exact ⟨cs, vx, h1, h2, h3, h4, h5⟩
    have HE' := Lib.hid (HE.out _ hge)
    have DL : Hid (Bytes (s8 xs).1 ∧ (s8 xs).1.length ≤ 32768) := rdData_le hby _
    obtain ⟨er, her⟩ : ∃ x, x = rdEnd xs (s8 xs).2 := ⟨_, rfl⟩
    rw [← her] at DE HQ HE' 
    obtain ⟨q1, hq1⟩ : ∃ x, x = (s8 xs) := ⟨_, rfl⟩
    rw [← hq1] at D1 DE HQ DL
    clear her hge HE hk hx hq1
    go_enter Tryd.func24, Tryd.ntmps24
    go_wp2_with (first
      | ((with_reducible show wpList _ _ _ (⟨some 4, _, _, _, _, _⟩ :: _) _ _); refine wpList_alloc_blk rfl _ rfl zs _ ZH ?_; intro h w1 hg1 hg2 Z1 L1)
      | ((with_reducible show wpList _ _ _ (⟨some 6, _, _, _, _, _⟩ :: _) _ _); refine wpList_alloc_blk rfl _ rfl zs _ ZH ?_; intro a w2 hg3 hg4 K2 L02; have Z2 := Lib.hid (Z1.out.over L02.out); have L2 := Lib.hid (step L1.out L02.out); have hha : h ≠ a := (by omega); have hwa : w.heap.size ≤ a := (by have := L1.out.size; omega); have hsz2 := L2.out.size)
      | ((with_reducible show wpList _ _ _ (⟨some 13, _, _, _, _, _⟩ :: _) _ _); refine wpList_build_blk rfl _ _ rfl ([.slice A n k, .int .i64 0] : List Value) (by refine Eq.trans ?_ BR; kernel_rfl) ?_)
      | ((with_reducible show wpList _ _ _ (⟨some 7, _, _, _, _, _⟩ :: _) _ _); refine wpList_alloc_blk rfl _ rfl ([.slice none 0 0, .int .i64 0] : List Value) _ ZR ?_; intro g w3 hg5 hg6 R3 L03; have K3 := Lib.hid (K2.out.over L03.out); have Z3 := Lib.hid (Z2.out.over L03.out); have L3 := Lib.hid (step L2.out L03.out); have hag : a ≠ g := (by omega); have hhg : h ≠ g := (by have := Z2.out.lt; omega); have hwg : w.heap.size ≤ g := (by omega))
      | ((with_reducible show wpList _ _ _ (⟨none, .store _ (.tmp 7) _, _, _, _, _⟩ :: _) _ _); refine wpList_store_blk rfl _ (.tmp 7) (.tmp 13) rfl g rfl _ ([.slice none 0 0, .int .i64 0] : List Value) ([.slice A n k, .int .i64 0] : List Value) rfl R3 2 size_fr HR0 HR1 HR2 ?_; intro w4 R4 O4 hg7; have K4 := Lib.hid (K3.out.only O4.out hag); have Z4 := Lib.hid (Z3.out.only O4.out hhg); have L4 := Lib.hid (below_only L3.out O4.out hwg))
      | fail)
    have P4 : Hid (PF w4 g w.heap.size xs rd0) := ⟨Nat.zero_le _, hwg, A, n, k, R4.out, HX.out.below L4.out⟩
    clear R3 L03 K2 K3 Z1 Z2 Z3 L02 L1 L2 L3 R4 O4 HX
    refine (D1.out w4 g P4.out).mono ?_
    rintro e v1 ⟨u1, rfl, hV, hP, hS⟩
    have V1 := Lib.hid hV
    have hbs1 : a < w4.heap.size ∧ h < w4.heap.size ∧ w.heap.size ≤ w4.heap.size := ⟨K4.out.lt, Z4.out.lt, L4.out.size⟩
    obtain ⟨b1, hb1⟩ : ∃ x, x = w4.heap.size := ⟨_, rfl⟩
    rw [← hb1] at V1 hbs1
    obtain ⟨hba1, hbh1, hbw1⟩ := hbs1
    clear hV hb1
    have Pc1 := Lib.hid hP
    have Zc1 := Lib.hid (Z4.out.save hS hhg)
    have Kc1 := Lib.hid (K4.out.save hS hag)
    have Lc1 := Lib.hid (L4.out.trans (hS.below hwg L4.out.size))
    clear hP hS P4 Z4 K4 L4 
    go_wp2_with (first
      | ((with_reducible show wpList _ _ _ (⟨none, .store _ (.tmp 44) _, _, _, _, _⟩ :: _) _ _); refine wpList_store_fld rfl _ (.tmp 44) (.tmp 43) rfl a 15 rfl _ zs (u1) rfl Kc1 (Lib.hid (by have := HZ.out; omega)) (by kernel_rfl) (ownZ_one V1.out) ?_; intro x1 Ks1 Os1 hqs1; obtain ⟨C1, hC1⟩ : ∃ x, x = zs.set 15 (u1) := ⟨_, rfl⟩; have HC1 := Lib.hid hC1; have HL1 : Hid (C1.length = 20) := (by rw [hC1, List.length_set]; exact HZ.out); rw [← hC1] at Ks1; have Zs1 := Lib.hid (Zc1.out.only Os1.out hha); have Ps1 := Lib.hid (Pc1.out.only Os1.out (Ne.symm hag) hwa); have Ls1 := Lib.hid (below_only Lc1.out Os1.out hwa); have V1s1 := Lib.hid (V1.out.onlyAt Os1.out hba1); clear hC1)
      | fail)
    refine (DE.out x1 g Ps1.out).mono ?_
    rintro e x1' ⟨rfl, rfl⟩
    by_cases he : er = 0
    rotate_left
    · have hne : (er != 0) = true := by simpa using he
      have HN := Lib.hid (HE'.out he)
      clear he HE' HQ
      go_wp2_with (first
        | ((with_reducible show wpList _ _ _ (⟨some 57, _, _, _, _, _⟩ :: _) _ _); refine wpList_build_none rfl _ rfl zs BZ ?_)
        | ((with_reducible show wpList _ _ _ (⟨none, .store _ (.tmp 4) _, _, _, _, _⟩ :: _) _ _); refine wpList_store_blk rfl _ (.tmp 4) (.tmp 57) rfl h rfl _ zs zs rfl Zs1 20 size_say HZ HZ HZ1 ?_; intro w10 K10 O10 hg10)
        | fail)
      refine bodyPost_ret (v := .tuple #[.agg zs.toArray, .int .i64 er]) ?_ rfl (HN.out _ _ rfl (below_only Ls1.out O10.out (by omega)))
      exact results_cell_two rfl _ _ h _ _ (0, 0) _ rfl K10.out Tryd.underlying45 rfl (by rw [size_say]; have := HZ.out; simp [this]) rfl
    · subst he
      have HEQ : Hid (C1 = scells u1 (.slice none 0 0) { zeroSay with data := q1.1 }) := by
        show _ = _
        rw [HC1.out, HZS.out]
        rfl
      have H1C : Hid (∀ v ∈ C1, v.oneCell' = true) := by
        show _
        rw [HEQ.out]
        exact scells_one (ownZ_one V1s1.out) rfl
      go_wp2_with (first
        | ((with_reducible show wpList _ _ _ (⟨some 59, _, _, _, _, _⟩ :: _) _ _); refine wpList_load_blk rfl _ (.tmp 6) rfl a rfl _ C1 Ks1 20 _ Tryd.underlying45 rfl size_say HL1 ?_)
        | ((with_reducible show wpList _ _ _ (⟨none, .store _ (.tmp 4) _, _, _, _, _⟩ :: _) _ _); refine wpList_store_blk rfl _ (.tmp 4) (.tmp 59) rfl h rfl _ zs C1 rfl Zs1 20 size_say HZ HL1 H1C ?_; intro w10 K10 O10 hg10)
        | fail)
      refine bodyPost_ret (v := .tuple #[.agg C1.toArray, .int .i64 0]) ?_ rfl ?_
      · exact results_cell_two rfl _ _ h _ _ (0, 0) _ rfl K10.out Tryd.underlying45 rfl (by rw [size_say]; have := HL1.out; simp [this]) rfl
      · have LF : Below w.heap.size w w10 := below_only Ls1.out O10.out (by omega)
        have VF := OwnZ.onlyAt V1s1.out O10.out hbh1
        obtain ⟨Ax, kx, hux, hHx⟩ := OwnZ.holds8 VF DL.out.1 (Nat.le_trans DL.out.2 (by decide))
        exact HQ.out C1 u1 _ _ (by trivial) rfl ⟨Ax, _, kx, none, 0, 0, by rw [HEQ.out, hux], hHx, HoldsS.nil _ _ _ _⟩ (by rw [HEQ.out]; rfl) (VF.mono hbw1) LF
  · subst h9
    have D1 : Hid (∀ (w' : World) (g : Nat), PF w' g w.heap.size xs rd0 → Calls Tryd.prog 46 #[.pointer (some ⟨g, 0, none⟩)] w' fun e w2 => e = .returned (.int .u32 (s9 xs).1) ∧ PF w2 g w.heap.size xs (s9 xs).2 ∧ Only g w' w2) := fun w' g h => ffour_any w' g w.heap.size xs _ hby h
    have DE : Hid (∀ (w' : World) (g : Nat), PF w' g w.heap.size xs (s9 xs).2 → Calls Tryd.prog 52 #[.pointer (some ⟨g, 0, none⟩)] w' fun e w2 => e = .returned (.int .i64 (rdEnd xs (s9 xs).2)) ∧ w' = w2) := fun w' g h => fend_any w' g w.heap.size xs _ h
    have hge : sgErr 9 xs = rdEnd xs (s9 xs).2 := by unfold sgErr; rw [if_pos hk]; rfl
    have HQ : Hid (∀ (cs : List Value) (vx : Value) (e : Ending) (w' : World), rdEnd xs (s9 xs).2 = 0 → e = .returned (.tuple #[.agg cs.toArray, .int .i64 0]) → SayIs w' w'.heap.size cs { zeroSay with n := (s9 xs).1 } → cs[15]? = some vx → OwnZ .u8 5 w' w.heap.size vx ({ zeroSay with n := (s9 xs).1 }).data → Below w.heap.size w w' → FGSayPost w 9 xs e w') := by
      intro cs vx e w' h0 h1 h2 h3 h4 h5
      have ho : sgOf 9 xs = { zeroSay with n := (s9 xs).1 } := by unfold sgOf; rw [hge, h0, if_pos rfl]; rfl
      unfold FGSayPost
      rw [hge, h0, ho]
      exact ⟨cs, vx, h1, h2, h3, h4, h5⟩
    have HE' := Lib.hid (HE.out _ hge)
    obtain ⟨er, her⟩ : ∃ x, x = rdEnd xs (s9 xs).2 := ⟨_, rfl⟩
    rw [← her] at DE HQ HE' 
    obtain ⟨q1, hq1⟩ : ∃ x, x = (s9 xs) := ⟨_, rfl⟩
    rw [← hq1] at D1 DE HQ
    clear her hge HE hk hx hq1
    go_enter Tryd.func24, Tryd.ntmps24
    go_wp2_with (first
      | ((with_reducible show wpList _ _ _ (⟨some 4, _, _, _, _, _⟩ :: _) _ _); refine wpList_alloc_blk rfl _ rfl zs _ ZH ?_; intro h w1 hg1 hg2 Z1 L1)
      | ((with_reducible show wpList _ _ _ (⟨some 6, _, _, _, _, _⟩ :: _) _ _); refine wpList_alloc_blk rfl _ rfl zs _ ZH ?_; intro a w2 hg3 hg4 K2 L02; have Z2 := Lib.hid (Z1.out.over L02.out); have L2 := Lib.hid (step L1.out L02.out); have hha : h ≠ a := (by omega); have hwa : w.heap.size ≤ a := (by have := L1.out.size; omega); have hsz2 := L2.out.size)
      | ((with_reducible show wpList _ _ _ (⟨some 13, _, _, _, _, _⟩ :: _) _ _); refine wpList_build_blk rfl _ _ rfl ([.slice A n k, .int .i64 0] : List Value) (by refine Eq.trans ?_ BR; kernel_rfl) ?_)
      | ((with_reducible show wpList _ _ _ (⟨some 7, _, _, _, _, _⟩ :: _) _ _); refine wpList_alloc_blk rfl _ rfl ([.slice none 0 0, .int .i64 0] : List Value) _ ZR ?_; intro g w3 hg5 hg6 R3 L03; have K3 := Lib.hid (K2.out.over L03.out); have Z3 := Lib.hid (Z2.out.over L03.out); have L3 := Lib.hid (step L2.out L03.out); have hag : a ≠ g := (by omega); have hhg : h ≠ g := (by have := Z2.out.lt; omega); have hwg : w.heap.size ≤ g := (by omega))
      | ((with_reducible show wpList _ _ _ (⟨none, .store _ (.tmp 7) _, _, _, _, _⟩ :: _) _ _); refine wpList_store_blk rfl _ (.tmp 7) (.tmp 13) rfl g rfl _ ([.slice none 0 0, .int .i64 0] : List Value) ([.slice A n k, .int .i64 0] : List Value) rfl R3 2 size_fr HR0 HR1 HR2 ?_; intro w4 R4 O4 hg7; have K4 := Lib.hid (K3.out.only O4.out hag); have Z4 := Lib.hid (Z3.out.only O4.out hhg); have L4 := Lib.hid (below_only L3.out O4.out hwg))
      | fail)
    have P4 : Hid (PF w4 g w.heap.size xs rd0) := ⟨Nat.zero_le _, hwg, A, n, k, R4.out, HX.out.below L4.out⟩
    clear R3 L03 K2 K3 Z1 Z2 Z3 L02 L1 L2 L3 R4 O4 HX
    refine (D1.out w4 g P4.out).mono ?_
    rintro e v1 ⟨rfl, hP, hO⟩
    have hS := Save.of_only hO
    have Pc1 := Lib.hid hP
    have Zc1 := Lib.hid (Z4.out.save hS hhg)
    have Kc1 := Lib.hid (K4.out.save hS hag)
    have Lc1 := Lib.hid (L4.out.trans (hS.below hwg L4.out.size))
    clear hP hS P4 Z4 K4 L4 hO
    go_wp2_with (first
      | ((with_reducible show wpList _ _ _ (⟨none, .store _ (.tmp 48) _, _, _, _, _⟩ :: _) _ _); refine wpList_store_fld rfl _ (.tmp 48) (.tmp 47) rfl a 16 rfl _ zs (.int .u32 q1.1) rfl Kc1 (Lib.hid (by have := HZ.out; omega)) (by kernel_rfl) rfl ?_; intro x1 Ks1 Os1 hqs1; obtain ⟨C1, hC1⟩ : ∃ x, x = zs.set 16 (.int .u32 q1.1) := ⟨_, rfl⟩; have HC1 := Lib.hid hC1; have HL1 : Hid (C1.length = 20) := (by rw [hC1, List.length_set]; exact HZ.out); rw [← hC1] at Ks1; have Zs1 := Lib.hid (Zc1.out.only Os1.out hha); have Ps1 := Lib.hid (Pc1.out.only Os1.out (Ne.symm hag) hwa); have Ls1 := Lib.hid (below_only Lc1.out Os1.out hwa); clear hC1)
      | fail)
    refine (DE.out x1 g Ps1.out).mono ?_
    rintro e x1' ⟨rfl, rfl⟩
    by_cases he : er = 0
    rotate_left
    · have hne : (er != 0) = true := by simpa using he
      have HN := Lib.hid (HE'.out he)
      clear he HE' HQ
      go_wp2_with (first
        | ((with_reducible show wpList _ _ _ (⟨some 57, _, _, _, _, _⟩ :: _) _ _); refine wpList_build_none rfl _ rfl zs BZ ?_)
        | ((with_reducible show wpList _ _ _ (⟨none, .store _ (.tmp 4) _, _, _, _, _⟩ :: _) _ _); refine wpList_store_blk rfl _ (.tmp 4) (.tmp 57) rfl h rfl _ zs zs rfl Zs1 20 size_say HZ HZ HZ1 ?_; intro w10 K10 O10 hg10)
        | fail)
      refine bodyPost_ret (v := .tuple #[.agg zs.toArray, .int .i64 er]) ?_ rfl (HN.out _ _ rfl (below_only Ls1.out O10.out (by omega)))
      exact results_cell_two rfl _ _ h _ _ (0, 0) _ rfl K10.out Tryd.underlying45 rfl (by rw [size_say]; have := HZ.out; simp [this]) rfl
    · subst he
      have HEQ : Hid (C1 = scells (.slice none 0 0) (.slice none 0 0) { zeroSay with n := q1.1 }) := by
        show _ = _
        rw [HC1.out, HZS.out]
        rfl
      have H1C : Hid (∀ v ∈ C1, v.oneCell' = true) := by
        show _
        rw [HEQ.out]
        exact scells_one rfl rfl
      go_wp2_with (first
        | ((with_reducible show wpList _ _ _ (⟨some 59, _, _, _, _, _⟩ :: _) _ _); refine wpList_load_blk rfl _ (.tmp 6) rfl a rfl _ C1 Ks1 20 _ Tryd.underlying45 rfl size_say HL1 ?_)
        | ((with_reducible show wpList _ _ _ (⟨none, .store _ (.tmp 4) _, _, _, _, _⟩ :: _) _ _); refine wpList_store_blk rfl _ (.tmp 4) (.tmp 59) rfl h rfl _ zs C1 rfl Zs1 20 size_say HZ HL1 H1C ?_; intro w10 K10 O10 hg10)
        | fail)
      refine bodyPost_ret (v := .tuple #[.agg C1.toArray, .int .i64 0]) ?_ rfl ?_
      · exact results_cell_two rfl _ _ h _ _ (0, 0) _ rfl K10.out Tryd.underlying45 rfl (by rw [size_say]; have := HL1.out; simp [this]) rfl
      · have LF : Below w.heap.size w w10 := below_only Ls1.out O10.out (by omega)
        exact HQ.out C1 (.slice none 0 0) _ _ (by trivial) rfl ⟨none, 0, 0, none, 0, 0, by rw [HEQ.out], Holds.nil _ _, HoldsS.nil _ _ _ _⟩ (by rw [HEQ.out]; rfl) (OwnZ.nil _ _ _ _) LF
  · subst h10
    have D1 : Hid (∀ (w' : World) (g : Nat), PF w' g w.heap.size xs rd0 → Calls Tryd.prog 48 #[.pointer (some ⟨g, 0, none⟩), .int .i64 4] w' fun e w2 => e = .returned (.tuple #[]) ∧ PF w2 g w.heap.size xs (rdZ xs 4 rd0) ∧ Only g w' w2) := fun w' g h => fnought_any w' g w.heap.size xs _ 4 hby h (by decide)
    have DE : Hid (∀ (w' : World) (g : Nat), PF w' g w.heap.size xs (rdZ xs 4 rd0) → Calls Tryd.prog 52 #[.pointer (some ⟨g, 0, none⟩)] w' fun e w2 => e = .returned (.int .i64 (rdEnd xs (rdZ xs 4 rd0))) ∧ w' = w2) := fun w' g h => fend_any w' g w.heap.size xs _ h
    have hge : sgErr 10 xs = rdEnd xs (rdZ xs 4 rd0) := by unfold sgErr; rw [if_pos hk]; rfl
    have HQ : Hid (∀ (cs : List Value) (vx : Value) (e : Ending) (w' : World), rdEnd xs (rdZ xs 4 rd0) = 0 → e = .returned (.tuple #[.agg cs.toArray, .int .i64 0]) → SayIs w' w'.heap.size cs zeroSay → cs[15]? = some vx → OwnZ .u8 5 w' w.heap.size vx (zeroSay).data → Below w.heap.size w w' → FGSayPost w 10 xs e w') := by
      intro cs vx e w' h0 h1 h2 h3 h4 h5
      have ho : sgOf 10 xs = zeroSay := by unfold sgOf; rw [hge, h0, if_pos rfl]; rfl
      unfold FGSayPost
      rw [hge, h0, ho]
      exact ⟨cs, vx, h1, h2, h3, h4, h5⟩
    have HE' := Lib.hid (HE.out _ hge)
    obtain ⟨er, her⟩ : ∃ x, x = rdEnd xs (rdZ xs 4 rd0) := ⟨_, rfl⟩
    rw [← her] at DE HQ HE' 
    obtain ⟨q1, hq1⟩ : ∃ x, x = (rdZ xs 4 rd0) := ⟨_, rfl⟩
    rw [← hq1] at D1 DE
    clear her hge HE hk hx hq1
    go_enter Tryd.func24, Tryd.ntmps24
    go_wp2_with (first
      | ((with_reducible show wpList _ _ _ (⟨some 4, _, _, _, _, _⟩ :: _) _ _); refine wpList_alloc_blk rfl _ rfl zs _ ZH ?_; intro h w1 hg1 hg2 Z1 L1)
      | ((with_reducible show wpList _ _ _ (⟨some 6, _, _, _, _, _⟩ :: _) _ _); refine wpList_alloc_blk rfl _ rfl zs _ ZH ?_; intro a w2 hg3 hg4 K2 L02; have Z2 := Lib.hid (Z1.out.over L02.out); have L2 := Lib.hid (step L1.out L02.out); have hha : h ≠ a := (by omega); have hwa : w.heap.size ≤ a := (by have := L1.out.size; omega); have hsz2 := L2.out.size)
      | ((with_reducible show wpList _ _ _ (⟨some 13, _, _, _, _, _⟩ :: _) _ _); refine wpList_build_blk rfl _ _ rfl ([.slice A n k, .int .i64 0] : List Value) (by refine Eq.trans ?_ BR; kernel_rfl) ?_)
      | ((with_reducible show wpList _ _ _ (⟨some 7, _, _, _, _, _⟩ :: _) _ _); refine wpList_alloc_blk rfl _ rfl ([.slice none 0 0, .int .i64 0] : List Value) _ ZR ?_; intro g w3 hg5 hg6 R3 L03; have K3 := Lib.hid (K2.out.over L03.out); have Z3 := Lib.hid (Z2.out.over L03.out); have L3 := Lib.hid (step L2.out L03.out); have hag : a ≠ g := (by omega); have hhg : h ≠ g := (by have := Z2.out.lt; omega); have hwg : w.heap.size ≤ g := (by omega))
      | ((with_reducible show wpList _ _ _ (⟨none, .store _ (.tmp 7) _, _, _, _, _⟩ :: _) _ _); refine wpList_store_blk rfl _ (.tmp 7) (.tmp 13) rfl g rfl _ ([.slice none 0 0, .int .i64 0] : List Value) ([.slice A n k, .int .i64 0] : List Value) rfl R3 2 size_fr HR0 HR1 HR2 ?_; intro w4 R4 O4 hg7; have K4 := Lib.hid (K3.out.only O4.out hag); have Z4 := Lib.hid (Z3.out.only O4.out hhg); have L4 := Lib.hid (below_only L3.out O4.out hwg))
      | fail)
    have P4 : Hid (PF w4 g w.heap.size xs rd0) := ⟨Nat.zero_le _, hwg, A, n, k, R4.out, HX.out.below L4.out⟩
    clear R3 L03 K2 K3 Z1 Z2 Z3 L02 L1 L2 L3 R4 O4 HX
    refine (D1.out w4 g P4.out).mono ?_
    rintro e v1 ⟨rfl, hP, hO⟩
    have hS := Save.of_only hO
    have Pc1 := Lib.hid hP
    have Zc1 := Lib.hid (Z4.out.save hS hhg)
    have Kc1 := Lib.hid (K4.out.save hS hag)
    have Lc1 := Lib.hid (L4.out.trans (hS.below hwg L4.out.size))
    clear hP hS P4 Z4 K4 L4 hO
    go_wp2_with fail
    refine (DE.out v1 g Pc1.out).mono ?_
    rintro e v1' ⟨rfl, rfl⟩
    by_cases he : er = 0
    rotate_left
    · have hne : (er != 0) = true := by simpa using he
      have HN := Lib.hid (HE'.out he)
      clear he HE' HQ
      go_wp2_with (first
        | ((with_reducible show wpList _ _ _ (⟨some 57, _, _, _, _, _⟩ :: _) _ _); refine wpList_build_none rfl _ rfl zs BZ ?_)
        | ((with_reducible show wpList _ _ _ (⟨none, .store _ (.tmp 4) _, _, _, _, _⟩ :: _) _ _); refine wpList_store_blk rfl _ (.tmp 4) (.tmp 57) rfl h rfl _ zs zs rfl Zc1 20 size_say HZ HZ HZ1 ?_; intro w10 K10 O10 hg10)
        | fail)
      refine bodyPost_ret (v := .tuple #[.agg zs.toArray, .int .i64 er]) ?_ rfl (HN.out _ _ rfl (below_only Lc1.out O10.out (by omega)))
      exact results_cell_two rfl _ _ h _ _ (0, 0) _ rfl K10.out Tryd.underlying45 rfl (by rw [size_say]; have := HZ.out; simp [this]) rfl
    · subst he
      have HEQ : Hid (zs = scells (.slice none 0 0) (.slice none 0 0) zeroSay) := by
        show _ = _
        exact HZS.out
      have H1C : Hid (∀ v ∈ zs, v.oneCell' = true) := by
        show _
        rw [HEQ.out]
        exact scells_one rfl rfl
      go_wp2_with (first
        | ((with_reducible show wpList _ _ _ (⟨some 59, _, _, _, _, _⟩ :: _) _ _); refine wpList_load_blk rfl _ (.tmp 6) rfl a rfl _ zs Kc1 20 _ Tryd.underlying45 rfl size_say HZ ?_)
        | ((with_reducible show wpList _ _ _ (⟨none, .store _ (.tmp 4) _, _, _, _, _⟩ :: _) _ _); refine wpList_store_blk rfl _ (.tmp 4) (.tmp 59) rfl h rfl _ zs zs rfl Zc1 20 size_say HZ HZ H1C ?_; intro w10 K10 O10 hg10)
        | fail)
      refine bodyPost_ret (v := .tuple #[.agg zs.toArray, .int .i64 0]) ?_ rfl ?_
      · exact results_cell_two rfl _ _ h _ _ (0, 0) _ rfl K10.out Tryd.underlying45 rfl (by rw [size_say]; have := HZ.out; simp [this]) rfl
      · have LF : Below w.heap.size w w10 := below_only Lc1.out O10.out (by omega)
        exact HQ.out zs (.slice none 0 0) _ _ (by trivial) rfl ⟨none, 0, 0, none, 0, 0, by rw [HEQ.out], Holds.nil _ _, HoldsS.nil _ _ _ _⟩ (by rw [HEQ.out]; rfl) (OwnZ.nil _ _ _ _) LF
end Go.Proofs.YtdlcjobahdmapaaDoor

namespace Go.Proofs.YtdlcjobahdmapaaDoor
set_option linter.all false
open Go.RowKit Go.Shelf
theorem first_data : (Rows.laid_unicode_utf8_first : DataW Unit) = Lib.firstData := by kernel_rfl
theorem accept_data : (Rows.laid_unicode_utf8_acceptRanges : DataW Unit) = Lib.acceptData := by kernel_rfl
theorem tabs_of_laid {W : World} (hL : laidMetH Tryd.prog [("unicode/utf8.acceptRanges", Rows.laid_unicode_utf8_acceptRanges), ("unicode/utf8.first", Rows.laid_unicode_utf8_first)] W) : Tabs W := by
  rw [first_data, accept_data] at hL
  exact utf8Tabs_of_readsT (U8Types.of196 Tryd.lays196) ⟨by kernel_rfl, by kernel_rfl, by kernel_rfl, by kernel_rfl, by kernel_rfl, by kernel_rfl, by kernel_rfl⟩ (Lib.laidMet.reads hL (.tail _ (.head _))) (Lib.laidMet.reads hL (.head _))
/-- A WORLD FOR THE WITNESS: the settled one, the two variables holding what their initialisers lay. -/
noncomputable def laidWorld (os : Os) : World :=
  let w0 := World.holding Tryd.prog os ⟨#[], #[], []⟩
  let put (h : Array Obj) (g : Nat) (cs : Array Value) : Array Obj := h.modify g fun
    | .cells _ t frozen => .cells cs t frozen
    | o => o
  let h1 := put w0.heap 0 (Lib.firstTab.map fun z => Value.int .u8 z).toArray
  let h2 := put h1 1 ((List.range 16).flatMap fun i => [Value.int .u8 (Lib.accLo i), Value.int .u8 (Lib.accHi i)]).toArray
  { w0 with heap := h2 }
theorem laid_met (os : Os) (args : Array Value) : laidMet Tryd.prog [("unicode/utf8.acceptRanges", Rows.laid_unicode_utf8_acceptRanges), ("unicode/utf8.first", Rows.laid_unicode_utf8_first)] ((laidWorld os).forCall (fun _ _ => 0) ⟨#[], args, []⟩).memory :=
  laidMet_of_run' 8 (by kernel_rfl) (by kernel_rfl)
end Go.Proofs.YtdlcjobahdmapaaDoor

namespace Go.Proofs.YtdlcjobahdmapaaDoor
set_option linter.all false
open Go.RowKit
set_option linter.unusedVariables false
set_option maxRecDepth 100000
def ChargePost (w : World) (c : Int) (a : AskV) (e : Ending) (w' : World) : Prop := e = .returned (.int .i64 (chargeF c a)) ∧ Below w.heap.size w w'
set_option maxHeartbeats 1000000 in
theorem Charge_any (w : World) (c : Int) (cs : List Value) (a : AskV) (ka : a.ok) (ha : AskIs w w.heap.size cs a) :
    Calls Tryd.prog 29 #[.int .u16 c, .agg cs.toArray] w (ChargePost w c a) := by
  obtain ⟨A1, A2, A3, X1, X2, X3, M1, M2, M3, hcs, hA, hX, hM⟩ := ha
  have hxl : a.data.length = X2 := hX.len
  have hxr := hX.room
  obtain ⟨n0, n1⟩ := ka.n
  have FC : Hid (∀ (w : World) (g : Nat), Blk w g 32 cs → w.cell? ⟨g, 60, none⟩ = some (.int .u32 a.n) ∧ w.cell? ⟨g, 61, none⟩ = some (.slice X1 X2 X3)) := fun w g h => by
    rw [hcs] at h
    exact ⟨h.at (acells_get ka 11), h.at (acells_get ka 12)⟩
  have z_n : IntKind.u64.wrap a.n = a.n := by rw [IntKind.wrap_u64]; omega
  have z_i : IntKind.i64.wrap a.n = a.n := by rw [IntKind.wrap_i64]; omega
  have z_x : IntKind.u64.wrap (X2 : Int) = (X2 : Int) := by rw [IntKind.wrap_u64]; omega
  have hd9 : c = 9 → chargeF c a = (max (X2 : Int) 1 + 8191) / 8192 := fun h => by unfold chargeF; rw [if_pos h, hxl]
  have hd8 : c = 8 → chargeF c a = (max a.n 1 + 8191) / 8192 := fun h => by unfold chargeF; rw [if_neg (by omega), if_pos h]
  have hd0 : c ≠ 9 → c ≠ 8 → chargeF c a = 1 := fun h1 h2 => by unfold chargeF; rw [if_neg h1, if_neg h2]
  have HQ : Hid (∀ (n : Int) (e : Ending) (w' : World), chargeF c a = n → e = .returned (.int .i64 n) → Below w.heap.size w w' → ChargePost w c a e w') := by
    intro n e w' h0 h1 h2
    unfold ChargePost
    rw [h0]
    exact ⟨h1, h2⟩
  clear hcs hA hX hM hxl
  by_cases h9 : c = 9
  · have h0 := Lib.hid (hd9 h9)
    subst h9
    clear hd9 hd8 hd0
    go_enter Tryd.func29, Tryd.ntmps29
    go_wp2_with (first
      | ((with_reducible show wpList _ _ _ (⟨some 3, _, _, _, _, _⟩ :: _) _ _); refine wpList_box_blk rfl _ (.tmp 1) rfl cs rfl ?_; intro g w1 hg1 hg2 K1 L1; obtain ⟨c60, c61⟩ := FC.out w1 g K1.out)
      | fail)
    go_ret
    exact HQ.out _ _ _ (by rw [h0.out]; congr 1; omega) rfl L1.out
  by_cases h8 : c = 8
  · have h0 := Lib.hid (hd8 h8)
    subst h8
    clear hd9 hd8 hd0 h9
    go_enter Tryd.func29, Tryd.ntmps29
    go_wp2_with (first
      | ((with_reducible show wpList _ _ _ (⟨some 3, _, _, _, _, _⟩ :: _) _ _); refine wpList_box_blk rfl _ (.tmp 1) rfl cs rfl ?_; intro g w1 hg1 hg2 K1 L1; obtain ⟨c60, c61⟩ := FC.out w1 g K1.out)
      | fail)
    go_ret
    exact HQ.out _ _ _ (by rw [h0.out]; congr 1; omega) rfl L1.out
  · have h0 := Lib.hid (hd0 h9 h8)
    have b9 : (c == 9) = false := by simpa using h9
    have b8 : (c == 8) = false := by simpa using h8
    clear hd9 hd8 hd0 h9 h8
    go_enter Tryd.func29, Tryd.ntmps29
    go_wp2_with (first
      | ((with_reducible show wpList _ _ _ (⟨some 3, _, _, _, _, _⟩ :: _) _ _); refine wpList_box_blk rfl _ (.tmp 1) rfl cs rfl ?_; intro g w1 hg1 hg2 K1 L1; obtain ⟨c60, c61⟩ := FC.out w1 g K1.out)
      | fail)
    go_ret
    exact HQ.out _ _ _ h0.out rfl L1.out
def fileA : AskV := { zeroAsk with file := 1 }
def readA : AskV := { zeroAsk with n := 8193 }
theorem fileA_ok : fileA.ok := ⟨zeroAsk_ok.dial, zeroAsk_ok.glen, zeroAsk_ok.gbyte, zeroAsk_ok.plen, zeroAsk_ok.pbyte, zeroAsk_ok.acc, zeroAsk_ok.shr, zeroAsk_ok.way, zeroAsk_ok.opt, zeroAsk_ok.lev, zeroAsk_ok.dur, by decide, zeroAsk_ok.at_, zeroAsk_ok.n, zeroAsk_ok.data, zeroAsk_ok.locks, zeroAsk_ok.most, zeroAsk_ok.cls, zeroAsk_ok.siz⟩
theorem readA_ok : readA.ok := ⟨zeroAsk_ok.dial, zeroAsk_ok.glen, zeroAsk_ok.gbyte, zeroAsk_ok.plen, zeroAsk_ok.pbyte, zeroAsk_ok.acc, zeroAsk_ok.shr, zeroAsk_ok.way, zeroAsk_ok.opt, zeroAsk_ok.lev, zeroAsk_ok.dur, zeroAsk_ok.file, zeroAsk_ok.at_, by decide, zeroAsk_ok.data, zeroAsk_ok.locks, zeroAsk_ok.most, zeroAsk_ok.cls, zeroAsk_ok.siz⟩
theorem flives1 : fpErr 6 fileA = 0 ∧ fpOf 6 fileA = [1, 0, 0, 0, 0, 0, 0, 0] := by decide +kernel
theorem flives2 : sgErr 8 [2, 0, 0, 0, 97, 98] = 0 ∧ (sgOf 8 [2, 0, 0, 0, 97, 98]).data = [97, 98] ∧ (sgOf 8 [2, 0, 0, 0, 97, 98]).chal.length = 8 := by decide +kernel
theorem flives3 : fgErr 8 (List.replicate 19 0) = 4 := by decide +kernel
theorem flives4 : chargeF 8 readA = 2 := by decide +kernel
theorem fbuilt1 : Tryd.prog.built 32 [(11, .int .u64 1)] = some (acells (.slice none 0 0) (.slice none 0 0) (.slice none 0 0) fileA).toArray := by kernel_rfl
theorem fbuilt2 : Tryd.prog.built 32 [(14, .int .u32 8193)] = some (acells (.slice none 0 0) (.slice none 0 0) (.slice none 0 0) readA).toArray := by kernel_rfl
theorem wpList_build_w {P : Program} {ops : Array Oper} {rest : List Oper} {o : Oper} {a : Act} {w : World} {Q : Exit → Act → World → Prop} (hw : Region.wanted o (yielded ops a.tmps) = true) (T : TypeId) (parts : Array (Nat × Operand)) (ho : o.op = .build T parts) (cs : List Value)
    (hf : P.built T (parts.map fun (i, x) => (i, a.eval x)).toList = some cs.toArray) (h : wpList P ops Q rest (a.put o.dst (.agg cs.toArray)) w) : wpList P ops Q (o :: rest) a w :=
  wpList_step fun K hK => by
    rw [if_pos hw]
    unfold Oper.wp execOp
    simp only [ho, Sem.run_bind, run_build w T _ _ hf, Result.andThen_ok]
    exact hK _ _ h
theorem flive_put (w : World) (hT : Tabs w) : Calls Tryd.prog 12 #[.int .u16 6, .agg (acells (.slice none 0 0) (.slice none 0 0) (.slice none 0 0) fileA).toArray] w fun e w' => (∃ A c, e = .returned (.tuple #[.slice A 8 c, .int .i64 0]) ∧ Holds w' w'.heap.size A 8 c [1, 0, 0, 0, 0, 0, 0, 0]) ∧ Below w.heap.size w w' := by
  have h := FPutAsk_any w 6 (acells (.slice none 0 0) (.slice none 0 0) (.slice none 0 0) fileA) fileA (by decide) fileA_ok ⟨none, 0, 0, none, 0, 0, none, 0, 0, rfl, HoldsF.nil _ _ _, Holds.nil _ _, HoldsS.nil _ _ _ _⟩ (by decide) (by decide) (by decide) hT
  unfold FPutPost at h
  rw [flives1.1, flives1.2] at h
  refine h.mono fun e w' ⟨v, h1, h2, h3⟩ => ?_
  obtain ⟨A, c, rfl, hh⟩ := OwnZ.holds8 h2 (Bytes.of_all (by decide)) (by decide)
  exact ⟨⟨A, c, h1, hh⟩, h3⟩
theorem flive_say (w : World) (A : Option Addr) (k : Nat) (hx : Holds w w.heap.size A 6 k [2, 0, 0, 0, 97, 98]) : Calls Tryd.prog 24 #[.int .u16 8, .slice A 6 k] w fun e w' => (∃ (cs : List Value) (Ax : Option Addr) (cx : Nat), e = .returned (.tuple #[.agg cs.toArray, .int .i64 0]) ∧ cs.length = 20 ∧ (∀ v ∈ cs, v.oneCell' = true) ∧ cs[15]? = some (.slice Ax 2 cx)) ∧ Below w.heap.size w w' := by
  have h := FGetSay_any w 8 A 6 k _ (by decide) hx
  unfold FGSayPost at h
  obtain ⟨l1, l2, l3⟩ := flives2
  rw [l1] at h
  refine h.mono fun e w' ⟨cs, vx, h1, h2, h3, h4, h5⟩ => ?_
  rw [l2] at h4
  obtain ⟨Ax, cx, rfl, _⟩ := OwnZ.holds8 h4 (Bytes.of_all (by decide)) (by decide)
  refine ⟨⟨cs, Ax, cx, h1, ?_, h2.one, h3⟩, h5⟩
  obtain ⟨_, _, _, _, _, _, rfl, _⟩ := h2
  simp [scells, stail, l3]
theorem flive_get (w : World) (A : Option Addr) (k : Nat) (hx : Holds w w.heap.size A 19 k (List.replicate 19 0)) : Calls Tryd.prog 22 #[.int .u16 8, .slice A 19 k] w fun e w' => (∃ cs : List Value, e = .returned (.tuple #[.agg cs.toArray, .int .i64 4]) ∧ cs.length = 69 ∧ (∀ v ∈ cs, v.oneCell' = true)) ∧ Below w.heap.size w w' := by
  have h := FGetAsk_any w 8 A 19 k _ (by decide) hx
  unfold FGAskPost at h
  have e0 : fgOf 8 (List.replicate 19 0) = zeroAsk := by unfold fgOf; rw [flives3, if_neg (by decide)]
  rw [flives3, e0] at h
  exact h.mono fun e w' ⟨cs, vx, h1, h2, _, _, h5⟩ => ⟨⟨cs, h1, h2.len zeroAsk_ok, h2.one⟩, h5⟩
theorem flive_charge (w : World) : Calls Tryd.prog 29 #[.int .u16 8, .agg (acells (.slice none 0 0) (.slice none 0 0) (.slice none 0 0) readA).toArray] w fun e w' => e = .returned (.int .i64 2) ∧ Below w.heap.size w w' := by
  have h := Charge_any w 8 (acells (.slice none 0 0) (.slice none 0 0) (.slice none 0 0) readA) readA readA_ok ⟨none, 0, 0, none, 0, 0, none, 0, 0, rfl, HoldsF.nil _ _ _, Holds.nil _ _, HoldsS.nil _ _ _ _⟩
  unfold ChargePost at h
  rw [flives4] at h
  exact h
set_option maxHeartbeats 2000000 in
theorem flives_any (w : World) (hT : Tabs w) : Calls Tryd.prog 16 #[] w fun e w' => e = .returned (.bool true) ∧ Below w.heap.size w w' := by
  have HT := Lib.hid hT
  have C1 := Lib.hid flive_put
  have C4 := Lib.hid flive_charge
  have B1 := fbuilt1
  have B2 := fbuilt2
  have ZA := Lib.hid zero_ask
  have ZS := Lib.hid zero_say
  have HZA : Hid ((acells (.slice none 0 0) (.slice none 0 0) (.slice none 0 0) zeroAsk).length = 69) := acells_len zeroAsk_ok
  have HZS : Hid ((scells (.slice none 0 0) (.slice none 0 0) zeroSay).length = 20) := scells_len zeroSay_ok
  obtain ⟨fa, hfa⟩ : ∃ x, x = acells (.slice none 0 0) (.slice none 0 0) (.slice none 0 0) fileA := ⟨_, rfl⟩
  rw [← hfa] at C1 B1
  obtain ⟨ra, hra⟩ : ∃ x, x = acells (.slice none 0 0) (.slice none 0 0) (.slice none 0 0) readA := ⟨_, rfl⟩
  rw [← hra] at C4 B2
  obtain ⟨za, hza⟩ : ∃ x, x = acells (.slice none 0 0) (.slice none 0 0) (.slice none 0 0) zeroAsk := ⟨_, rfl⟩
  rw [← hza] at ZA HZA
  obtain ⟨zs, hzs⟩ : ∃ x, x = scells (.slice none 0 0) (.slice none 0 0) zeroSay := ⟨_, rfl⟩
  rw [← hzs] at ZS HZS
  clear hfa hra hza hzs hT
  go_enter Tryd.func16, Tryd.ntmps16
  go_wp2_with (first
    | ((with_reducible show wpList _ _ _ (⟨some 8, _, _, _, _, _⟩ :: _) _ _); refine wpList_build_blk rfl _ _ rfl fa (by refine Eq.trans ?_ B1; kernel_rfl) ?_)
    | fail)
  refine (C1.out w HT.out).mono ?_
  rintro e w1 ⟨⟨A1, k1, rfl, h1⟩, L1⟩
  have H1 := Lib.hid h1
  have M1 := Lib.hid L1
  clear h1 L1 C1
  go_wp2_with (first
    | ((with_reducible show wpList _ _ _ (⟨some 13, _, _, _, _, _⟩ :: _) _ _); refine wpList_slice_blk rfl _ _ 6 _ rfl Tryd.underlying29 ([.int .u8 2, .int .u8 0, .int .u8 0, .int .u8 0, .int .u8 97, .int .u8 98] : List Value) (by kernel_rfl) ?_; intro g2 w2 q1 q2 Y2 b2)
    | fail)
  have HX2 : Holds w2 w2.heap.size (some ⟨g2, 0, none⟩) 6 6 [2, 0, 0, 0, 97, 98] := Holds.of_lit (xs := [2, 0, 0, 0, 97, 98]) Y2.out (Bytes.of_all (by decide))
  have M2 := Lib.hid (step M1.out b2.out)
  have H2 := Lib.hid (H1.out.over b2.out)
  refine (flive_say w2 _ 6 HX2).mono ?_
  rintro e w3 ⟨⟨cs, Ax, cx, rfl, hc1, hc2, hc3⟩, L3⟩
  have HC1 := Lib.hid hc1
  have HC2 := Lib.hid hc2
  have HC3 := Lib.hid hc3
  have M3 := Lib.hid (step M2.out L3)
  have H3 := Lib.hid (H2.out.over L3)
  clear HX2 hc1 hc2 hc3 L3 H1 H2 M1 M2 Y2 b2
  go_wp2_with (first
    | ((with_reducible show wpList _ _ _ (⟨some 3, _, _, _, _, _⟩ :: _) _ _); refine wpList_alloc_blk rfl _ rfl zs _ ZS ?_; intro g4 w4 hg1 hg2 X4 L4)
    | ((with_reducible show wpList _ _ _ (⟨none, .store _ (.tmp 3) _, _, _, _, _⟩ :: _) _ _); refine wpList_store_blk rfl _ (.tmp 3) (.tmp 15) rfl g4 rfl _ zs cs rfl X4 20 size_say HZS HC1 HC2 ?_; intro w5 X5 O5 hg5; have b5 := Lib.hid (below_only L4.out O5.out hg1); have M5 := Lib.hid (step M3.out b5.out); have H5 := Lib.hid (H3.out.over b5.out))
    | (at_make; refine wpList_make_bytes _ rfl _ _ rfl _ _ 19 rfl rfl rfl rfl (by omega) ?_; intro w6 R6 b6; have M6 := Lib.hid (step M5.out b6); have H6 := Lib.hid (H5.out.over b6); have X6 := Lib.hid (X5.out.over b6))
    | fail)
  refine (flive_get w6 _ 19 (Fresh.holds (base := 0) (.inr ⟨_, rfl, Nat.zero_le _, R6.out⟩) (by simp) (Bytes.zeros 19) (by omega))).mono ?_
  rintro e w7 ⟨⟨ds, rfl, hd1, hd2⟩, L7⟩
  have HD1 := Lib.hid hd1
  have HD2 := Lib.hid hd2
  have M7 := Lib.hid (step M6.out L7)
  have H7 := Lib.hid (H6.out.over L7)
  have X7 := Lib.hid (X6.out.over L7)
  clear hd1 hd2 L7 H5 H6 M5 M6 R6 b6 X4 X5 X6 L4 O5 b5 H3 M3
  go_wp2_with (first
    | ((with_reducible show wpList _ _ _ (⟨some 5, _, _, _, _, _⟩ :: _) _ _); refine wpList_alloc_blk rfl _ rfl za _ ZA ?_; intro g8 w8 hg7 hg8 X8 L8)
    | ((with_reducible show wpList _ _ _ (⟨none, .store _ (.tmp 5) _, _, _, _, _⟩ :: _) _ _); refine wpList_store_blk rfl _ (.tmp 5) (.tmp 20) rfl g8 rfl _ za ds rfl X8 69 size_ask HZA HD1 HD2 ?_; intro w9 X9 O9 hg9; have b9 := Lib.hid (below_only L8.out O9.out hg7); have M9 := Lib.hid (step M7.out b9.out); have H9 := Lib.hid (H7.out.over b9.out); have Xs9 := Lib.hid (X7.out.over b9.out); have gd : w9.cell? ⟨g4, 15, none⟩ = some (.slice Ax 2 cx) := Xs9.out.at HC3.out; obtain ⟨bb, off, rfl, hbb, hcc⟩ := H9.out.cells (by omega); have gc := hcc 0 (by omega); change w9.cell? ⟨bb, off, none⟩ = some (.int .u8 1) at gc)
    | ((with_reducible show wpList _ _ _ (⟨some 50, _, _, _, _, _⟩ :: _) _ _); refine wpList_build_w (by kernel_rfl) _ _ rfl ra (by refine Eq.trans ?_ B2; kernel_rfl) ?_)
    | fail)
  refine (C4.out w9).mono ?_
  rintro e w10 ⟨rfl, L10⟩
  have M10 := Lib.hid (step M9.out L10)
  clear L10
  go_wp2
  go_ret
  exact ⟨rfl, M10.out⟩
end Go.Proofs.YtdlcjobahdmapaaDoor

namespace Go.Proofs.YtdlcjobahdmapaaDoor
set_option linter.all false
set_option linter.unusedVariables false
set_option linter.unusedSimpArgs false
set_option maxRecDepth 100000
theorem b4 {xs : List Int} (hx : Bytes xs) (r : Rd) : 0 ≤ (rdN xs 4 r).1 ∧ (rdN xs 4 r).1 ≤ 4294967295 := by
  have := rdN_lt hx 4 r 4294967296 (by decide) (by decide); exact ⟨this.1, by omega⟩
theorem b8 {xs : List Int} (hx : Bytes xs) (r : Rd) : 0 ≤ (rdN xs 8 r).1 ∧ (rdN xs 8 r).1 ≤ 18446744073709551615 := by
  have := rdN_lt hx 8 r 18446744073709551616 (by decide) (by decide); exact ⟨this.1, by omega⟩
theorem whole {xs ys : List Int} {r : Rd} (h : xs.take r.p = ys) (h2 : r.p = xs.length) : ys = xs := by
  rw [← h, h2, List.take_of_length_le (Nat.le_refl _)]
end Go.Proofs.YtdlcjobahdmapaaDoor
