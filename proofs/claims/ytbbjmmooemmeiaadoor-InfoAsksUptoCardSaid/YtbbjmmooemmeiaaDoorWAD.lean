import Derived.WalkKit
import Derived.Deep.Draws
import Derived.Laws.Rows
import Derived.Laws.OwnMore
import Derived.Lib.RuneBytes
import Derived.Lib.ValidLaws
import Derived.Test.YtbbjmmooemmeiaaDoorRows
import Derived.Laws.CopyOwn
import Derived.Laws.AppendOwnNone
import Derived.Lib.Hide
import Derived.Laws.AppendOwn
import Derived.OwnWalk
import Derived.Lib.OthersKept
import Derived.Laws.BytesArg
import Derived.Shelf.Utf8.AppendRunePlain
import Derived.Shelf.Unicode.ValidAny
import Derived.Test.YtbbjmmooemmeiaaDoorProg
import Derived.WalkSpells
import Derived.WalkLawsBesides
import Derived.Deep.QuietTactic
import Derived.BigQuiet
import Derived.Laws.Bits64
import Derived.Laws.BitsAllLaws
import Derived.ProofKit
import Derived.OpenShut
import Derived.ShutString
import Derived.SizedLaws
import Derived.ChangeOld
import Derived.Lib.AppendZeros
import Derived.Deep.RegionWith
import Derived.Deep.DeepCutAuto
import Derived.Great.Walk
import Derived.Laws.Tables
import Derived.Laws.NewFold
import Derived.Deep.WholeRow
import Derived.Deep.MidRow
import Derived.OneCell
import Derived.Deep.Strs
import Derived.OrdersHeld
import Derived.Laws.StructEq
import Derived.ChangeKeysEq
import Derived.Deep.RegionLaw
import Derived.Deep.OwnRows
import Derived.Lib.LaidIn
import Derived.Lib.LaidU8T
import Derived.Deep.DeepHandedRow
import Derived.Test.YtbbjmmooemmeiaaDoorWAC
namespace Go.Proofs.YtbbjmmooemmeiaaDoor
set_option linter.all false
open Go.RowKit
set_option linter.unusedVariables false
set_option linter.unusedSimpArgs false
set_option maxRecDepth 100000
theorem fld_say10 (g : Nat) (w : World) : (Instr.fieldAt 45 (.pointer (some ⟨g, 0, none⟩)) 10).run Tryd.prog w = .ok (.pointer (some ⟨g, 17, none⟩)) w := by go_simp
/-- what GetSay answers -/
def IGSayPost (w : World) (c : Int) (xs : List Int) (e : Ending) (w' : World) : Prop := ∃ cs, e = .returned (.tuple #[.agg cs.toArray, .int .i64 (jgErr c xs)]) ∧ SayIs w' w'.heap.size cs (jgOf c xs) ∧ cs[15]? = some (.slice none 0 0) ∧ Below w.heap.size w w'
set_option maxHeartbeats 4000000 in
theorem IGetSay_any (w : World) (c : Int) (A : Option Addr) (n k : Nat) (xs : List Int) (hc : 0 ≤ c ∧ c ≤ 65535) (hx : Holds w w.heap.size A n k xs) :
    Calls Tryd.prog 23 #[.int .u16 c, .slice A n k] w (IGSayPost w c xs) := by
  have hby := hx.byte
  have HX := Lib.hid hx
  have ZH := Lib.hid zero_say
  have BZ := built_say
  have ZR := Lib.hid zero_ird
  have HZ : Hid ((scells (.slice none 0 0) (.slice none 0 0) zeroSay).length = 20) := scells_len zeroSay_ok
  have HZ1 : Hid (∀ v ∈ scells (.slice none 0 0) (.slice none 0 0) zeroSay, v.oneCell' = true) := (zeroSay_is w 0).one
  have HZI : Hid (∀ w' : World, SayIs w' w'.heap.size (scells (.slice none 0 0) (.slice none 0 0) zeroSay) zeroSay) := fun w' => zeroSay_is w' _
  have HZD : Hid ((scells (.slice none 0 0) (.slice none 0 0) zeroSay)[15]? = some (.slice none 0 0)) := rfl
  have BR : Tryd.prog.built 87 [(0, .slice A n k)] = some ([.slice A n k, .int .i64 0, .int .i64 0] : List Value).toArray := by kernel_rfl
  have HR0 : Hid (([.slice none 0 0, .int .i64 0, .int .i64 0] : List Value).length = 3) := rfl
  have HR1 : Hid (([.slice A n k, .int .i64 0, .int .i64 0] : List Value).length = 3) := rfl
  have HR2 : Hid (∀ v ∈ ([.slice A n k, .int .i64 0, .int .i64 0] : List Value), v.oneCell' = true) := by
    intro v hv
    simp only [List.mem_cons, List.not_mem_nil, or_false] at hv
    rcases hv with rfl | rfl | rfl <;> rfl
  have HE : Hid (∀ er, jgErr c xs = er → er ≠ 0 → ∀ e w', e = .returned (.tuple #[.agg (scells (.slice none 0 0) (.slice none 0 0) zeroSay).toArray, .int .i64 er]) → Below w.heap.size w w' → IGSayPost w c xs e w') := by
    intro er h1 h2 e w' he hb
    unfold IGSayPost jgOf
    rw [h1, if_neg h2]
    exact ⟨_, he, HZI.out w', HZD.out, hb⟩
  obtain ⟨zs, hzs⟩ : ∃ zs, zs = scells (.slice none 0 0) (.slice none 0 0) zeroSay := ⟨_, rfl⟩
  have HZS := Lib.hid hzs
  rw [← hzs] at ZH BZ HZ HZ1 HE
  clear hzs HZI HZD
  by_cases hk : knownIS c = true
  rotate_left
  · have HQ := Lib.hid (HE.out 2 (by unfold jgErr; rw [if_neg hk]) (by decide))
    have hk' : c ≠ 14 ∧ c ≠ 16 ∧ c ≠ 17 ∧ c ≠ 18 := by
      refine ⟨?_, ?_, ?_, ?_⟩ <;> (rintro rfl; exact hk (by decide))
    obtain ⟨h14, h16, h17, h18⟩ := hk'
    have b14 : (c == 14) = false := by simpa using h14
    have b16 : (c == 16) = false := by simpa using h16
    have b17 : (c == 17) = false := by simpa using h17
    have b18 : (c == 18) = false := by simpa using h18
    clear hk HE hx h14 h16 h17 h18
    go_enter Tryd.func23, Tryd.ntmps23
    go_wp2_with (first
      | ((with_reducible show wpList _ _ _ (⟨some 4, _, _, _, _, _⟩ :: _) _ _); refine wpList_alloc_blk rfl _ rfl zs _ ZH ?_; intro h w1 hg1 hg2 Z1 L1)
      | ((with_reducible show wpList _ _ _ (⟨some 6, _, _, _, _, _⟩ :: _) _ _); refine wpList_alloc_blk rfl _ rfl zs _ ZH ?_; intro a w2 hg3 hg4 K2 L02; have Z2 := Lib.hid (Z1.out.over L02.out); have L2 := Lib.hid (step L1.out L02.out); have hha : h ≠ a := (by omega); have hwa : w.heap.size ≤ a := (by have := L1.out.size; omega); have hsz2 := L2.out.size)
      | ((with_reducible show wpList _ _ _ (⟨some 11, _, _, _, _, _⟩ :: _) _ _); refine wpList_build_blk rfl _ _ rfl ([.slice A n k, .int .i64 0, .int .i64 0] : List Value) (by refine Eq.trans ?_ BR; kernel_rfl) ?_)
      | ((with_reducible show wpList _ _ _ (⟨some 7, _, _, _, _, _⟩ :: _) _ _); refine wpList_alloc_blk rfl _ rfl ([.slice none 0 0, .int .i64 0, .int .i64 0] : List Value) _ ZR ?_; intro g w3 hg5 hg6 R3 L03; have K3 := Lib.hid (K2.out.over L03.out); have Z3 := Lib.hid (Z2.out.over L03.out); have L3 := Lib.hid (step L2.out L03.out); have hag : a ≠ g := (by omega); have hhg : h ≠ g := (by have := Z2.out.lt; omega); have hwg : w.heap.size ≤ g := (by omega))
      | ((with_reducible show wpList _ _ _ (⟨none, .store _ (.tmp 7) _, _, _, _, _⟩ :: _) _ _); refine wpList_store_blk rfl _ (.tmp 7) (.tmp 11) rfl g rfl _ ([.slice none 0 0, .int .i64 0, .int .i64 0] : List Value) ([.slice A n k, .int .i64 0, .int .i64 0] : List Value) rfl R3 3 size_ird HR0 HR1 HR2 ?_; intro w4 R4 O4 hg7; have K4 := Lib.hid (K3.out.only O4.out hag); have Z4 := Lib.hid (Z3.out.only O4.out hhg); have L4 := Lib.hid (below_only L3.out O4.out hwg))
      | ((with_reducible show wpList _ _ _ (⟨some 13, _, _, _, _, _⟩ :: _) _ _); refine wpList_build_none rfl _ rfl zs BZ ?_)
      | ((with_reducible show wpList _ _ _ (⟨none, .store _ (.tmp 4) _, _, _, _, _⟩ :: _) _ _); refine wpList_store_blk rfl _ (.tmp 4) (.tmp 13) rfl h rfl _ zs zs rfl Z4 20 size_say HZ HZ HZ1 ?_; intro w10 K10 O10 hg10)
      | fail)
    refine bodyPost_ret (v := .tuple #[.agg zs.toArray, .int .i64 2]) ?_ rfl (HQ.out _ _ rfl (below_only L4.out O10.out (by omega)))
    exact results_cell_two rfl _ _ h _ _ (0, 0) _ rfl K10.out Tryd.underlying45 rfl (by rw [size_say]; have := HZ.out; simp [this]) rfl
  rcases knownIS_cases hk with h14 | h16 | h17 | h18
  · subst h14
    have D1 : Hid (∀ (w' : World) (g : Nat), w.heap.size ≤ w'.heap.size → PI w' g w.heap.size A n k xs rd0 → Calls Tryd.prog 61 #[.pointer (some ⟨g, 0, none⟩), .int .u64 64, .int .i64 2, .int .i64 3] w' fun e w2 => e = .returned (.int .u64 (m1 xs).1) ∧ PI w2 g w.heap.size A n k xs (m1 xs).2 ∧ Save g w' w2) := fun w' g hs h => inup_any w' g _ A n k xs _ 2 64 3 h (by decide) (by decide)
    have D2 : Hid (∀ (w' : World) (g : Nat), w.heap.size ≤ w'.heap.size → PI w' g w.heap.size A n k xs (m1 xs).2 → Calls Tryd.prog 53 #[.pointer (some ⟨g, 0, none⟩)] w' fun e w2 => e = .returned (.bool ((m2 xs).1 != 0)) ∧ PI w2 g w.heap.size A n k xs (m2 xs).2 ∧ Save g w' w2) := fun w' g hs h => intruth_any w' g _ A n k xs _ hby h
    have DE : Hid (∀ (w' : World) (g : Nat), PI w' g w.heap.size A n k xs (m3 xs).2 → Calls Tryd.prog 56 #[.pointer (some ⟨g, 0, none⟩)] w' fun e w2 => e = .returned (.int .i64 (rdEnd xs (m3 xs).2)) ∧ Save g w' w2) := fun w' g h => inend_any w' g _ A n k xs _ h
    have hgp : jgP 14 xs = ({ zeroSay with ents := (m3 xs).1, more := ((m2 xs).1 != 0) }, (m3 xs).2) := by unfold jgP; rw [if_pos rfl]
    have hge : jgErr 14 xs = rdEnd xs (m3 xs).2 := by unfold jgErr; rw [if_pos hk, hgp]
    have HQ : Hid (∀ (cs : List Value) (e : Ending) (w' : World), rdEnd xs (m3 xs).2 = 0 → e = .returned (.tuple #[.agg cs.toArray, .int .i64 0]) → SayIs w' w'.heap.size cs { zeroSay with ents := (m3 xs).1, more := ((m2 xs).1 != 0) } → cs[15]? = some (.slice none 0 0) → Below w.heap.size w w' → IGSayPost w 14 xs e w') := by
      intro cs e w' h0 h1 h2 h3 h5
      have ho : jgOf 14 xs = { zeroSay with ents := (m3 xs).1, more := ((m2 xs).1 != 0) } := by unfold jgOf; rw [hge, h0, if_pos rfl, hgp]
      unfold IGSayPost
      rw [hge, h0, ho]
      exact ⟨cs, h1, h2, h3, h5⟩
    have HE' := Lib.hid (HE.out _ hge)
    obtain ⟨er, her⟩ : ∃ x, x = rdEnd xs (m3 xs).2 := ⟨_, rfl⟩
    rw [← her] at DE HQ HE'
    obtain ⟨N, hN⟩ : ∃ N : Nat, (m1 xs).1 = (N : Int) := ⟨(m1 xs).1.toNat, by have := (rdMost_lt hby 2 64 3 rd0 ⟨by decide, by decide⟩ (by decide)).1; show (rdMost xs 2 64 3 rd0).1 = _; change (0 : Int) ≤ (rdMost xs 2 64 3 rd0).1 at this; show (rdMost xs 2 64 3 rd0).1 = ((rdMost xs 2 64 3 rd0).1.toNat : Int); omega⟩
    have hN64 : N ≤ 64 := by have h1 := (rdMost_lt hby 2 64 3 rd0 ⟨by decide, by decide⟩ (by decide)).2; change (m1 xs).1 ≤ 64 at h1; omega
    have HM3 : Hid (m3 xs = rdEnts xs (m2 xs).2 N) := by show _ = _; unfold m3; rw [hN, Int.toNat_natCast]
    rw [hN] at D1
    have HSTP : Hid (∀ j, (rdEnts xs (m2 xs).2 (j + 1)).1 = (rdEnts xs (m2 xs).2 j).1 ++ [(rdEnt xs (rdEnts xs (m2 xs).2 j).2).1] ∧ (rdEnts xs (m2 xs).2 (j + 1)).2 = (rdEnt xs (rdEnts xs (m2 xs).2 j).2).2) := fun j => ⟨rfl, rfl⟩
    have HLN : Hid (∀ j, (rdEnts xs (m2 xs).2 j).1.length = j) := fun j => rdEnts_len j
    have CEN : Hid (∀ (w' : World) (r : Rd) {g : Nat}, w.heap.size ≤ w'.heap.size → PI w' g w.heap.size A n k xs r → Calls Tryd.prog 62 #[.pointer (some ⟨g, 0, none⟩)] w' fun e w2 => e = .returned (.agg (entryCells (rdEnt xs r).1).toArray) ∧ PI w2 g w.heap.size A n k xs (rdEnt xs r).2 ∧ Save g w' w2) := fun w' r g hs h => inentry_any w' g _ A n k xs r hby h hs
    have BL : ∀ l : EntryV, Tryd.prog.builtSlice 82 1 [(0, .agg (entryCells l).toArray)] = some (entryCells l).toArray := fun l => by kernel_rfl
    obtain ⟨ents, hents⟩ : ∃ f, f = rdEnts xs (m2 xs).2 := ⟨_, rfl⟩
    have HE0 : Hid (ents 0 = ([], (m2 xs).2)) := by show _ = _; rw [hents]; rfl
    rw [← hents] at HM3 HSTP HLN
    clear hents
    obtain ⟨tb, htb⟩ : ∃ x, x = ((m2 xs).1 != 0) := ⟨_, rfl⟩
    rw [← htb] at D2 HQ
    obtain ⟨q2, hq2⟩ : ∃ x, x = (m2 xs).2 := ⟨_, rfl⟩
    rw [← hq2] at D2 HE0
    obtain ⟨q1, hq1⟩ : ∃ x, x = (m1 xs).2 := ⟨_, rfl⟩
    rw [← hq1] at D1 D2
    clear HE hk hx her hge hgp htb hq2 hq1
    go_enter Tryd.func23, Tryd.ntmps23
    go_wp2_with (first
      | ((with_reducible show wpList _ _ _ (⟨some 4, _, _, _, _, _⟩ :: _) _ _); refine wpList_alloc_blk rfl _ rfl zs _ ZH ?_; intro h w1 hg1 hg2 Z1 L1)
      | ((with_reducible show wpList _ _ _ (⟨some 6, _, _, _, _, _⟩ :: _) _ _); refine wpList_alloc_blk rfl _ rfl zs _ ZH ?_; intro a w2 hg3 hg4 K2 L02; have Z2 := Lib.hid (Z1.out.over L02.out); have L2 := Lib.hid (step L1.out L02.out); have hha : h ≠ a := (by omega); have hwa : w.heap.size ≤ a := (by have := L1.out.size; omega); have hsz2 := L2.out.size)
      | ((with_reducible show wpList _ _ _ (⟨some 11, _, _, _, _, _⟩ :: _) _ _); refine wpList_build_blk rfl _ _ rfl ([.slice A n k, .int .i64 0, .int .i64 0] : List Value) (by refine Eq.trans ?_ BR; kernel_rfl) ?_)
      | ((with_reducible show wpList _ _ _ (⟨some 7, _, _, _, _, _⟩ :: _) _ _); refine wpList_alloc_blk rfl _ rfl ([.slice none 0 0, .int .i64 0, .int .i64 0] : List Value) _ ZR ?_; intro g w3 hg5 hg6 R3 L03; have K3 := Lib.hid (K2.out.over L03.out); have Z3 := Lib.hid (Z2.out.over L03.out); have L3 := Lib.hid (step L2.out L03.out); have hag : a ≠ g := (by omega); have hhg : h ≠ g := (by have := Z2.out.lt; omega); have hwg : w.heap.size ≤ g := (by omega))
      | ((with_reducible show wpList _ _ _ (⟨none, .store _ (.tmp 7) _, _, _, _, _⟩ :: _) _ _); refine wpList_store_blk rfl _ (.tmp 7) (.tmp 11) rfl g rfl _ ([.slice none 0 0, .int .i64 0, .int .i64 0] : List Value) ([.slice A n k, .int .i64 0, .int .i64 0] : List Value) rfl R3 3 size_ird HR0 HR1 HR2 ?_; intro w4 R4 O4 hg7; have K4 := Lib.hid (K3.out.only O4.out hag); have Z4 := Lib.hid (Z3.out.only O4.out hhg); have L4 := Lib.hid (below_only L3.out O4.out hwg))
      | fail)
    have P4 : Hid (PI w4 g w.heap.size A n k xs rd0) := ⟨Nat.zero_le _, hwg, R4.out, HX.out.below L4.out⟩
    clear R3 L03 K2 K3 Z1 Z2 Z3 L02 L1 L2 L3 R4 O4 HX
    refine (D1.out w4 g L4.out.size P4.out).mono ?_
    rintro e v1 ⟨rfl, hP, hS⟩
    have Pc1 := Lib.hid hP
    have Zc1 := Lib.hid (Z4.out.save hS hhg)
    have Kc1 := Lib.hid (K4.out.save hS hag)
    have Lc1 := Lib.hid (L4.out.trans (hS.below hwg L4.out.size))
    clear hP hS P4 Z4 K4 L4
    go_wp2_with fail
    refine (D2.out v1 g Lc1.out.size Pc1.out).mono ?_
    rintro e v2 ⟨rfl, hP, hS⟩
    have Pc2 := Lib.hid hP
    have Zc2 := Lib.hid (Zc1.out.save hS hhg)
    have Kc2 := Lib.hid (Kc1.out.save hS hag)
    have Lc2 := Lib.hid (Lc1.out.trans (hS.below hwg Lc1.out.size))
    clear hP hS Pc1 Zc1 Kc1 Lc1
    go_wp2_with (first
      | ((with_reducible show wpList _ _ _ (⟨none, .store _ (.tmp 18) _, _, _, _, _⟩ :: _) _ _); refine wpList_store_fld rfl _ (.tmp 18) (.tmp 17) rfl a 18 rfl _ zs (.bool tb) rfl Kc2 (Lib.hid (by have := HZ.out; omega)) (by kernel_rfl) rfl ?_; intro x1 Ks1 Os1 hqs1; obtain ⟨C1, hC1⟩ : ∃ x, x = zs.set 18 (.bool tb) := ⟨_, rfl⟩; have HC1 := Lib.hid hC1; have HL1 : Hid (C1.length = 20) := (by rw [hC1, List.length_set]; exact HZ.out); rw [← hC1] at Ks1; have Zs1 := Lib.hid (Zc2.out.only Os1.out hha); have Ps1 := Lib.hid (Pc2.out.only Os1.out (Ne.symm hag) hwa); have Ls1 := Lib.hid (below_only Lc2.out Os1.out hwa); clear hC1)
      | fail)
    go_wp2
    have HC17 : Hid (∀ u : Value, (C1.set 17 u)[17]? = some u) := fun u => List.getElem?_set_self (by have := HL1.out; omega)
    have hgs : a < x1.heap.size ∧ h < x1.heap.size ∧ g < x1.heap.size := ⟨Ks1.out.lt, Zs1.out.lt, Ps1.out.lt⟩
    have hwv := Ls1.out.size
    obtain ⟨bb, hbb⟩ : ∃ x, x = x1.heap.size := ⟨_, rfl⟩
    rw [← hbb] at hgs hwv
    have hbs : bb ≤ x1.heap.size := by omega
    obtain ⟨hab, hhb, hgb⟩ := hgs
    clear hbb
    have H0 : Hid (Blk x1 a 45 (C1.set 17 (.slice none 0 0))) := by
      have e0 : C1.set 17 (.slice none 0 0) = C1 := by
        rw [HC1.out, HZS.out]
        rfl
      rw [e0]; exact Ks1.out
    go_loopw [20] (fun i wr => ∃ j : Nat, i = .int .u64 j ∧ j ≤ N ∧ bb ≤ wr.heap.size ∧ ∃ u, Hid (Blk wr a 45 (C1.set 17 u)) ∧ Hid (OwnS entryCells 3 82 wr bb u (ents j).1) ∧ Hid (PI wr g w.heap.size A n k xs (ents j).2) ∧ Hid (Blk wr h 45 zs) ∧ Hid (Below w.heap.size w wr)) (fun i _ => N - (intOf i).toNat)
    case atStart => exact ⟨0, rfl, Nat.zero_le _, hbs, .slice none 0 0, H0, (by rw [HE0.out]; exact OwnS.nil _ _ _ _ _), (by rw [HE0.out]; exact Ps1), Zs1, Ls1⟩
    case round =>
      obtain ⟨j, rfl, hj, hbr, u, HK, HO, HP, HZr, HLr⟩ := hrel
      by_cases hlt : j < N
      · have CE := Lib.hid (CEN.out wr.drew (ents j).2 (show w.heap.size ≤ wr.heap.size from HLr.out.size) HP.out.drew)
        have hLn := HLN.out j
        obtain ⟨s1, s2⟩ := HSTP.out j
        obtain ⟨L0, hL0⟩ : ∃ l, l = (ents j).1 := ⟨_, rfl⟩
        rw [← hL0] at HO hLn s1
        obtain ⟨en, hen⟩ : ∃ l, l = rdEnt xs (ents j).2 := ⟨_, rfl⟩
        rw [← hen] at CE s1 s2
        have S1E := Lib.hid s1; have S2E := Lib.hid s2
        obtain ⟨lv, hlv⟩ : ∃ l, l = en.1 := ⟨_, rfl⟩
        rw [← hlv] at CE S1E
        have BLv := BL lv
        clear s1 s2 hL0 hen hlv HP
        go_wp2
        go_upto_region 10 with fail
        refine wp_region_heldK 6 (fun w' => w'.cell? ⟨a, 17, none⟩ = some u) (by kernel_rfl) ?_
        change wpAnyK _ _ _ _ _ _ _ _ _ wr.drew
        have S0 : Hid (wr.drew.cell? ⟨a, 17, none⟩ = some u) := (HK.out.at (HC17.out u))
        have b0 : Hid (Below w.heap.size w wr.drew) := (HLr.out.trans ((drewed wr 1).mono HLr.out.size))
        refine wpAnyK_take (i := 0) (v := _) rfl (by kernel_rfl) (by kernel_rfl) (by kernel_rfl) (fun _ _ _ h => h) rfl (by kernel_rfl) (by kernel_rfl) (by decide) (yieldsIf_fld (by kernel_rfl) _ (.tmp 6) 10 rfl (.pointer (some ⟨a, 0, none⟩)) (.pointer (some ⟨a, 17, none⟩)) (by kernel_rfl) (fld_say10 a)) S0.out ?_
        refine wpAnyK_take (i := 1) (v := _) rfl (by kernel_rfl) (by kernel_rfl) (by kernel_rfl) (fun _ _ _ h => h) rfl (by kernel_rfl) (by kernel_rfl) (by decide) (yieldsIf_load_one (by kernel_rfl) _ (.tmp 22) rfl a 17 (by kernel_rfl) u (fun w h => h) _ Tryd.underlying43 rfl) S0.out ?_
        refine wpAnyK_one 2 _ (by kernel_rfl) rfl fun K hK => ?_
        go_simp
        refine (CE.out).mono ?_
        rintro e v1 ⟨rfl, hP1, hS0⟩
        have S1 : Hid (v1.cell? ⟨a, 17, none⟩ = some u) := ((HK.out.save ((save_drewN g wr 1).trans hS0) hag).at (HC17.out u))
        have b1 : Hid (Below w.heap.size w v1) := (HLr.out.trans (((save_drewN g wr 1).trans hS0).below hwg HLr.out.size))
        have hS1 : Save g wr v1 := (save_drewN g wr 1).trans hS0
        have HK1 := Lib.hid (HK.out.save hS1 hag)
        have HZ1r := Lib.hid (HZr.out.save hS1 hhg)
        have HP1 := Lib.hid hP1
        have hS1s : wr.heap.size ≤ v1.heap.size := hS1.size
        have HO1 : Hid (OwnS entryCells 3 82 v1 bb u L0) := HO.out.keep fun i cs hi hc => hS1.rest i (Array.getElem?_eq_some_iff.1 hc).1 (by have := (World.ownsRow.lt HO.out i hi).1; omega)
        refine hK _ _ (fun _ => S1.out) ?_
        clear hK K
        clear hP1 hS0 hS1
        refine wpAnyK_frame fun a1 ha1 => ?_
        refine wpAnyK_one 3 _ (by kernel_rfl) rfl fun K hK => ?_
        refine step_slice_blk rfl _ _ 1 _ rfl Tryd.underlying43 (entryCells lv) (by rw [ha1]; refine Eq.trans ?_ BLv; kernel_rfl) ?_
        intro g2 v2 q2 q3 Y2 b2
        have HK2 := Lib.hid (HK1.out.over b2.out)
        have HO2 := Lib.hid (HO1.out.below b2.out)
        have HP2 := Lib.hid (HP1.out.below b2.out)
        have HZ2 := Lib.hid (HZ1r.out.over b2.out)
        have HL2 := Lib.hid (b1.out.trans (b2.out.mono b1.out.size))
        have hb2 : bb ≤ v2.heap.size := by have := b2.out.size; omega
        refine hK _ _ (fun _ => HK2.out.at (HC17.out u)) ?_
        clear hK K
        refine wpAnyK_frame fun a2 ha2 => ?_
        try rw [ha1] at ha2
        have e2_23 : a2.eval (.tmp 23) = u := by rw [ha2]; kernel_rfl
        have e2_25 : a2.eval (.tmp 25) = .slice (some ⟨g2, 0, none⟩) 1 1 := by rw [ha2]; kernel_rfl
        refine wpAnyK_one 4 _ (by kernel_rfl) rfl fun K hK => ?_
        refine step_append_entry rfl (.tmp 23) (.tmp 25) rfl bb u L0 g2 lv e2_23 e2_25 HO2.out Y2 (by omega) hb2 ?_
        intro u3 v3 HO3 b3
        have HK3 := Lib.hid (HK2.out.below b3.out hab)
        have HP3 := Lib.hid (HP2.out.belowAt b3.out hgb)
        have HZ3 := Lib.hid (HZ2.out.below b3.out hhb)
        have HL3 := Lib.hid (HL2.out.trans (b3.out.mono hwv))
        have hb3 : bb ≤ v3.heap.size := by have := b3.out.size; omega
        have OU := ownE_one HO3.out
        refine hK _ _ (fun _ => HK3.out.at (HC17.out u)) ?_
        clear hK K
        refine wpAnyK_frame fun a3 ha3 => ?_
        try rw [ha2] at ha3
        have S3 : Hid (v3.cell? ⟨a, 17, none⟩ = some u) := HK3.out.at (HC17.out u)
        rw [ha3]
        refine wpAnyK_one 5 _ (by kernel_rfl) rfl fun K hK => ?_
        go_simp
        refine hK _ _ (fun _ => S3.out) ?_
        clear hK K
        refine wpAnyK_frame fun a4 ha4 => ?_
        try rw [ha3] at ha4
        have e4_27 : a4.eval (.tmp 27) = .pointer (some ⟨a, 17, none⟩) := by rw [ha4]; kernel_rfl
        have e4_26 : a4.eval (.tmp 26) = u3 := by rw [ha4]; kernel_rfl
        refine wpAnyK_one 6 _ (by kernel_rfl) rfl fun K hK => ?_
        refine step_store_fld rfl 43 (.tmp 27) (.tmp 26) (by kernel_rfl) a 17 e4_27 _ _ u3 e4_26 HK3 (by show 17 < (C1.set 17 u).length; rw [List.length_set]; have := HL1.out; omega) (by kernel_rfl) OU ?_
        intro v4 X4 O4 q4
        refine hK _ _ (fun h => Bool.noConfusion (show true = false from h)) ?_
        clear hK K
        change wpAnyK _ _ _ _ _ _ _ _ a4 v4
        rw [ha4]
        refine wpAnyK_done (by kernel_rfl) ?_ _
        have HK4 : Hid (Blk v4 a 45 (C1.set 17 u3)) := by have h4 := X4.out; rw [List.set_set] at h4; exact h4
        have HO4 : Hid (OwnS entryCells 3 82 v4 bb u3 (ents (j + 1)).1) := by rw [S1E.out]; exact HO3.out.only O4.out hab
        have HP4 : Hid (PI v4 g w.heap.size A n k xs (ents (j + 1)).2) := by rw [S2E.out]; exact HP3.out.only O4.out (Ne.symm hag) hwa
        have HZ4 := Lib.hid (HZ3.out.only O4.out hha)
        have HL4 := Lib.hid (below_only HL3.out O4.out hwa)
        have hb4 : bb ≤ v4.heap.size := by have := O4.out.size; omega
        clear X4 O4 HK3 HP3 HZ3 HL3 HO3 S1E S2E
        go_wp2
        go_roundw
        case rel => exact ⟨j + 1, by go_num, hlt, hb4, u3, HK4, HO4, HP4, HZ4, HL4⟩
        case measure => simp [intOf]; omega
      · obtain rfl : j = N := by omega
        obtain ⟨uF, huF⟩ : ∃ x, x = u := ⟨_, rfl⟩
        obtain ⟨C9, hC9⟩ : ∃ x, x = C1.set 17 uF := ⟨_, rfl⟩
        have HC9 := Lib.hid hC9
        have HL9 : Hid (C9.length = 20) := by rw [hC9, List.length_set]; exact HL1.out
        rw [← huF] at HK HO
        rw [← hC9] at HK
        rw [← HM3.out] at HP
        have HOF : Hid (OwnS entryCells 3 82 wr bb uF (m3 xs).1) := by rw [HM3.out]; exact HO.out
        clear hC9 huF
        go_wp2_with fail
        refine (DE.out wr g HP.out).mono ?_
        rintro e ve ⟨rfl, hS⟩
        have ZE := Lib.hid (HZr.out.save hS hhg)
        have KE := Lib.hid (HK.out.save hS hag)
        have LE := Lib.hid (HLr.out.trans (hS.below hwg HLr.out.size))
        have OE := Lib.hid (HOF.out.keep fun i cs hi hc => hS.rest i (Array.getElem?_eq_some_iff.1 hc).1 (by have := (World.ownsRow.lt HOF.out i hi).1; omega))
        clear hS HP HZr HK HLr
        by_cases he : er = 0
        rotate_left
        · have hne : (er != 0) = true := by simpa using he
          have HN := Lib.hid (HE'.out he)
          clear he HE' HQ
          go_wp2_with (first
            | ((with_reducible show wpList _ _ _ (⟨some 51, _, _, _, _, _⟩ :: _) _ _); refine wpList_build_none rfl _ rfl zs BZ ?_)
            | ((with_reducible show wpList _ _ _ (⟨none, .store _ (.tmp 4) _, _, _, _, _⟩ :: _) _ _); refine wpList_store_blk rfl _ (.tmp 4) (.tmp 51) rfl h rfl _ zs zs rfl ZE 20 size_say HZ HZ HZ1 ?_; intro w10 K10 O10 hg10)
            | fail)
          refine bodyPost_ret (v := .tuple #[.agg zs.toArray, .int .i64 er]) ?_ rfl (HN.out _ _ rfl (below_only LE.out O10.out (by omega)))
          exact results_cell_two rfl _ _ h _ _ (0, 0) _ rfl K10.out Tryd.underlying45 rfl (by rw [size_say]; have := HZ.out; simp [this]) rfl
        · subst he
          have HEQ : Hid (C9 = scells (.slice none 0 0) uF { zeroSay with ents := (m3 xs).1, more := tb }) := by
            show _ = _
            rw [HC9.out, HC1.out, HZS.out]
            rfl
          have H1C : Hid (∀ v ∈ C9, v.oneCell' = true) := by
            show _
            rw [HEQ.out]
            exact scells_one rfl (ownE_one OE.out)
          go_wp2_with (first
            | ((with_reducible show wpList _ _ _ (⟨some 53, _, _, _, _, _⟩ :: _) _ _); refine wpList_load_blk rfl _ (.tmp 6) rfl a rfl _ C9 KE 20 _ Tryd.underlying45 rfl size_say HL9 ?_)
            | ((with_reducible show wpList _ _ _ (⟨none, .store _ (.tmp 4) _, _, _, _, _⟩ :: _) _ _); refine wpList_store_blk rfl _ (.tmp 4) (.tmp 53) rfl h rfl _ zs C9 rfl ZE 20 size_say HZ HL9 H1C ?_; intro w10 K10 O10 hg10)
            | fail)
          refine bodyPost_ret (v := .tuple #[.agg C9.toArray, .int .i64 0]) ?_ rfl ?_
          · exact results_cell_two rfl _ _ h _ _ (0, 0) _ rfl K10.out Tryd.underlying45 rfl (by rw [size_say]; have := HL9.out; simp [this]) rfl
          · have LF : Below w.heap.size w w10 := below_only LE.out O10.out (by omega)
            have VF := OwnS.only OE.out O10.out (by omega)
            obtain ⟨Al, nl, kl, hul, hHl⟩ := OwnS.holds (by decide) entryCells_len VF
            exact HQ.out C9 _ _ (by trivial) rfl ⟨none, 0, 0, Al, nl, kl, by rw [HEQ.out, hul], Holds.nil _ _, hHl⟩ (by rw [HEQ.out]; rfl) LF
  · subst h16
    have D1 : Hid (∀ (w' : World) (g : Nat), w.heap.size ≤ w'.heap.size → PI w' g w.heap.size A n k xs rd0 → Calls Tryd.prog 49 #[.pointer (some ⟨g, 0, none⟩)] w' fun e w2 => e = .returned (.int .u64 (l1 xs).1) ∧ PI w2 g w.heap.size A n k xs (l1 xs).2 ∧ Save g w' w2) := fun w' g hs h => ineight_any w' g _ A n k xs _ hby h
    have D2 : Hid (∀ (w' : World) (g : Nat), w.heap.size ≤ w'.heap.size → PI w' g w.heap.size A n k xs (l1 xs).2 → Calls Tryd.prog 63 #[.pointer (some ⟨g, 0, none⟩)] w' fun e w2 => e = .returned (.int .u8 (g2 xs).1) ∧ PI w2 g w.heap.size A n k xs (g2 xs).2 ∧ Save g w' w2) := fun w' g hs h => inkind_any w' g _ A n k xs _ hby h
    have D3 : Hid (∀ (w' : World) (g : Nat), w.heap.size ≤ w'.heap.size → PI w' g w.heap.size A n k xs (g2 xs).2 → Calls Tryd.prog 53 #[.pointer (some ⟨g, 0, none⟩)] w' fun e w2 => e = .returned (.bool ((g3 xs).1 != 0)) ∧ PI w2 g w.heap.size A n k xs (g3 xs).2 ∧ Save g w' w2) := fun w' g hs h => intruth_any w' g _ A n k xs _ hby h
    have DE : Hid (∀ (w' : World) (g : Nat), PI w' g w.heap.size A n k xs (g3 xs).2 → Calls Tryd.prog 56 #[.pointer (some ⟨g, 0, none⟩)] w' fun e w2 => e = .returned (.int .i64 (rdEnd xs (g3 xs).2)) ∧ Save g w' w2) := fun w' g h => inend_any w' g _ A n k xs _ h
    have hgp : jgP 16 xs = ({ zeroSay with siz := (l1 xs).1, kind := (g2 xs).1, gone := ((g3 xs).1 != 0) }, (g3 xs).2) := by unfold jgP; rw [if_neg (by decide), if_pos rfl]
    have hge : jgErr 16 xs = rdEnd xs (g3 xs).2 := by unfold jgErr; rw [if_pos hk, hgp]
    have HQ : Hid (∀ (cs : List Value) (e : Ending) (w' : World), rdEnd xs (g3 xs).2 = 0 → e = .returned (.tuple #[.agg cs.toArray, .int .i64 0]) → SayIs w' w'.heap.size cs { zeroSay with siz := (l1 xs).1, kind := (g2 xs).1, gone := ((g3 xs).1 != 0) } → cs[15]? = some (.slice none 0 0) → Below w.heap.size w w' → IGSayPost w 16 xs e w') := by
      intro cs e w' h0 h1 h2 h3 h5
      have ho : jgOf 16 xs = { zeroSay with siz := (l1 xs).1, kind := (g2 xs).1, gone := ((g3 xs).1 != 0) } := by unfold jgOf; rw [hge, h0, if_pos rfl, hgp]
      unfold IGSayPost
      rw [hge, h0, ho]
      exact ⟨cs, h1, h2, h3, h5⟩
    have HE' := Lib.hid (HE.out _ hge)
    obtain ⟨er, her⟩ : ∃ x, x = rdEnd xs (g3 xs).2 := ⟨_, rfl⟩
    rw [← her] at DE HQ HE'
    obtain ⟨q1, hq1⟩ : ∃ x, x = (l1 xs) := ⟨_, rfl⟩
    rw [← hq1] at D1 D2 HQ
    obtain ⟨q2, hq2⟩ : ∃ x, x = (g2 xs) := ⟨_, rfl⟩
    rw [← hq2] at D2 D3 HQ
    obtain ⟨tb, htb⟩ : ∃ x, x = ((g3 xs).1 != 0) := ⟨_, rfl⟩
    rw [← htb] at D3 HQ
    obtain ⟨q3, hq3⟩ : ∃ x, x = (g3 xs).2 := ⟨_, rfl⟩
    rw [← hq3] at D3 DE
    clear HE hk hx her hge hgp hq1 hq2 htb hq3
    go_enter Tryd.func23, Tryd.ntmps23
    go_wp2_with (first
      | ((with_reducible show wpList _ _ _ (⟨some 4, _, _, _, _, _⟩ :: _) _ _); refine wpList_alloc_blk rfl _ rfl zs _ ZH ?_; intro h w1 hg1 hg2 Z1 L1)
      | ((with_reducible show wpList _ _ _ (⟨some 6, _, _, _, _, _⟩ :: _) _ _); refine wpList_alloc_blk rfl _ rfl zs _ ZH ?_; intro a w2 hg3 hg4 K2 L02; have Z2 := Lib.hid (Z1.out.over L02.out); have L2 := Lib.hid (step L1.out L02.out); have hha : h ≠ a := (by omega); have hwa : w.heap.size ≤ a := (by have := L1.out.size; omega); have hsz2 := L2.out.size)
      | ((with_reducible show wpList _ _ _ (⟨some 11, _, _, _, _, _⟩ :: _) _ _); refine wpList_build_blk rfl _ _ rfl ([.slice A n k, .int .i64 0, .int .i64 0] : List Value) (by refine Eq.trans ?_ BR; kernel_rfl) ?_)
      | ((with_reducible show wpList _ _ _ (⟨some 7, _, _, _, _, _⟩ :: _) _ _); refine wpList_alloc_blk rfl _ rfl ([.slice none 0 0, .int .i64 0, .int .i64 0] : List Value) _ ZR ?_; intro g w3 hg5 hg6 R3 L03; have K3 := Lib.hid (K2.out.over L03.out); have Z3 := Lib.hid (Z2.out.over L03.out); have L3 := Lib.hid (step L2.out L03.out); have hag : a ≠ g := (by omega); have hhg : h ≠ g := (by have := Z2.out.lt; omega); have hwg : w.heap.size ≤ g := (by omega))
      | ((with_reducible show wpList _ _ _ (⟨none, .store _ (.tmp 7) _, _, _, _, _⟩ :: _) _ _); refine wpList_store_blk rfl _ (.tmp 7) (.tmp 11) rfl g rfl _ ([.slice none 0 0, .int .i64 0, .int .i64 0] : List Value) ([.slice A n k, .int .i64 0, .int .i64 0] : List Value) rfl R3 3 size_ird HR0 HR1 HR2 ?_; intro w4 R4 O4 hg7; have K4 := Lib.hid (K3.out.only O4.out hag); have Z4 := Lib.hid (Z3.out.only O4.out hhg); have L4 := Lib.hid (below_only L3.out O4.out hwg))
      | fail)
    have P4 : Hid (PI w4 g w.heap.size A n k xs rd0) := ⟨Nat.zero_le _, hwg, R4.out, HX.out.below L4.out⟩
    clear R3 L03 K2 K3 Z1 Z2 Z3 L02 L1 L2 L3 R4 O4 HX
    refine (D1.out w4 g L4.out.size P4.out).mono ?_
    rintro e v1 ⟨rfl, hP, hS⟩
    have Pc1 := Lib.hid hP
    have Zc1 := Lib.hid (Z4.out.save hS hhg)
    have Kc1 := Lib.hid (K4.out.save hS hag)
    have Lc1 := Lib.hid (L4.out.trans (hS.below hwg L4.out.size))
    clear hP hS P4 Z4 K4 L4
    go_wp2_with fail
    refine (D2.out v1 g Lc1.out.size Pc1.out).mono ?_
    rintro e v2 ⟨rfl, hP, hS⟩
    have Pc2 := Lib.hid hP
    have Zc2 := Lib.hid (Zc1.out.save hS hhg)
    have Kc2 := Lib.hid (Kc1.out.save hS hag)
    have Lc2 := Lib.hid (Lc1.out.trans (hS.below hwg Lc1.out.size))
    clear hP hS Pc1 Zc1 Kc1 Lc1
    go_wp2_with fail
    refine (D3.out v2 g Lc2.out.size Pc2.out).mono ?_
    rintro e v3 ⟨rfl, hP, hS⟩
    have Pc3 := Lib.hid hP
    have Zc3 := Lib.hid (Zc2.out.save hS hhg)
    have Kc3 := Lib.hid (Kc2.out.save hS hag)
    have Lc3 := Lib.hid (Lc2.out.trans (hS.below hwg Lc2.out.size))
    clear hP hS Pc2 Zc2 Kc2 Lc2
    go_wp2_with (first
      | ((with_reducible show wpList _ _ _ (⟨none, .store _ (.tmp 34) _, _, _, _, _⟩ :: _) _ _); refine wpList_store_fld rfl _ (.tmp 34) (.tmp 31) rfl a 1 rfl _ zs (.int .u64 q1.1) rfl Kc3 (Lib.hid (by have := HZ.out; omega)) (by kernel_rfl) rfl ?_; intro x1 Ks1 Os1 hqs1; obtain ⟨C1, hC1⟩ : ∃ x, x = zs.set 1 (.int .u64 q1.1) := ⟨_, rfl⟩; have HC1 := Lib.hid hC1; have HL1 : Hid (C1.length = 20) := (by rw [hC1, List.length_set]; exact HZ.out); rw [← hC1] at Ks1; have Zs1 := Lib.hid (Zc3.out.only Os1.out hha); have Ps1 := Lib.hid (Pc3.out.only Os1.out (Ne.symm hag) hwa); have Ls1 := Lib.hid (below_only Lc3.out Os1.out hwa); clear hC1)
      | ((with_reducible show wpList _ _ _ (⟨none, .store _ (.tmp 35) _, _, _, _, _⟩ :: _) _ _); refine wpList_store_fld rfl _ (.tmp 35) (.tmp 32) rfl a 14 rfl _ C1 (.int .u8 q2.1) rfl Ks1 (Lib.hid (by have := HL1.out; omega)) (by kernel_rfl) rfl ?_; intro x2 Ks2 Os2 hqs2; obtain ⟨C2, hC2⟩ : ∃ x, x = C1.set 14 (.int .u8 q2.1) := ⟨_, rfl⟩; have HC2 := Lib.hid hC2; have HL2 : Hid (C2.length = 20) := (by rw [hC2, List.length_set]; exact HL1.out); rw [← hC2] at Ks2; have Zs2 := Lib.hid (Zs1.out.only Os2.out hha); have Ps2 := Lib.hid (Ps1.out.only Os2.out (Ne.symm hag) hwa); have Ls2 := Lib.hid (below_only Ls1.out Os2.out hwa); clear hC2)
      | ((with_reducible show wpList _ _ _ (⟨none, .store _ (.tmp 36) _, _, _, _, _⟩ :: _) _ _); refine wpList_store_fld rfl _ (.tmp 36) (.tmp 33) rfl a 19 rfl _ C2 (.bool tb) rfl Ks2 (Lib.hid (by have := HL2.out; omega)) (by kernel_rfl) rfl ?_; intro x3 Ks3 Os3 hqs3; obtain ⟨C3, hC3⟩ : ∃ x, x = C2.set 19 (.bool tb) := ⟨_, rfl⟩; have HC3 := Lib.hid hC3; have HL3 : Hid (C3.length = 20) := (by rw [hC3, List.length_set]; exact HL2.out); rw [← hC3] at Ks3; have Zs3 := Lib.hid (Zs2.out.only Os3.out hha); have Ps3 := Lib.hid (Ps2.out.only Os3.out (Ne.symm hag) hwa); have Ls3 := Lib.hid (below_only Ls2.out Os3.out hwa); clear hC3)
      | fail)
    refine (DE.out x3 g Ps3.out).mono ?_
    rintro e ve ⟨rfl, hS⟩
    have ZE := Lib.hid (Zs3.out.save hS hhg)
    have KE := Lib.hid (Ks3.out.save hS hag)
    have LE := Lib.hid (Ls3.out.trans (hS.below hwg Ls3.out.size))
    clear hS Ps3 Zs3 Ks3 Ls3
    by_cases he : er = 0
    rotate_left
    · have hne : (er != 0) = true := by simpa using he
      have HN := Lib.hid (HE'.out he)
      clear he HE' HQ
      go_wp2_with (first
        | ((with_reducible show wpList _ _ _ (⟨some 51, _, _, _, _, _⟩ :: _) _ _); refine wpList_build_none rfl _ rfl zs BZ ?_)
        | ((with_reducible show wpList _ _ _ (⟨none, .store _ (.tmp 4) _, _, _, _, _⟩ :: _) _ _); refine wpList_store_blk rfl _ (.tmp 4) (.tmp 51) rfl h rfl _ zs zs rfl ZE 20 size_say HZ HZ HZ1 ?_; intro w10 K10 O10 hg10)
        | fail)
      refine bodyPost_ret (v := .tuple #[.agg zs.toArray, .int .i64 er]) ?_ rfl (HN.out _ _ rfl (below_only LE.out O10.out (by omega)))
      exact results_cell_two rfl _ _ h _ _ (0, 0) _ rfl K10.out Tryd.underlying45 rfl (by rw [size_say]; have := HZ.out; simp [this]) rfl
    · subst he
      have HEQ : Hid (C3 = scells (.slice none 0 0) (.slice none 0 0) { zeroSay with siz := q1.1, kind := q2.1, gone := tb }) := by
        show _ = _
        rw [HC3.out, HC2.out, HC1.out, HZS.out]
        rfl
      have H1C : Hid (∀ v ∈ C3, v.oneCell' = true) := by
        show _
        rw [HEQ.out]
        exact scells_one rfl rfl
      go_wp2_with (first
        | ((with_reducible show wpList _ _ _ (⟨some 53, _, _, _, _, _⟩ :: _) _ _); refine wpList_load_blk rfl _ (.tmp 6) rfl a rfl _ C3 KE 20 _ Tryd.underlying45 rfl size_say HL3 ?_)
        | ((with_reducible show wpList _ _ _ (⟨none, .store _ (.tmp 4) _, _, _, _, _⟩ :: _) _ _); refine wpList_store_blk rfl _ (.tmp 4) (.tmp 53) rfl h rfl _ zs C3 rfl ZE 20 size_say HZ HL3 H1C ?_; intro w10 K10 O10 hg10)
        | fail)
      refine bodyPost_ret (v := .tuple #[.agg C3.toArray, .int .i64 0]) ?_ rfl ?_
      · exact results_cell_two rfl _ _ h _ _ (0, 0) _ rfl K10.out Tryd.underlying45 rfl (by rw [size_say]; have := HL3.out; simp [this]) rfl
      · have LF : Below w.heap.size w w10 := below_only LE.out O10.out (by omega)
        exact HQ.out C3 _ _ (by trivial) rfl ⟨none, 0, 0, none, 0, 0, by rw [HEQ.out], Holds.nil _ _, HoldsS.nil _ _ _ _⟩ (by rw [HEQ.out]; rfl) LF
  · subst h17
    have D1 : Hid (∀ (w' : World) (g : Nat), w.heap.size ≤ w'.heap.size → PI w' g w.heap.size A n k xs rd0 → Calls Tryd.prog 51 #[.pointer (some ⟨g, 0, none⟩), .int .i64 4] w' fun e w2 => e = .returned (.tuple #[]) ∧ PI w2 g w.heap.size A n k xs (rdZ xs 4 rd0) ∧ Save g w' w2) := fun w' g hs h => innought_any w' g _ A n k xs _ 4 h (by decide) hs
    have DE : Hid (∀ (w' : World) (g : Nat), PI w' g w.heap.size A n k xs (rdZ xs 4 rd0) → Calls Tryd.prog 56 #[.pointer (some ⟨g, 0, none⟩)] w' fun e w2 => e = .returned (.int .i64 (rdEnd xs (rdZ xs 4 rd0))) ∧ Save g w' w2) := fun w' g h => inend_any w' g _ A n k xs _ h
    have hgp : jgP 17 xs = (zeroSay, (rdZ xs 4 rd0)) := by unfold jgP; rw [if_neg (by decide), if_neg (by decide), if_neg (by decide)]
    have hge : jgErr 17 xs = rdEnd xs (rdZ xs 4 rd0) := by unfold jgErr; rw [if_pos hk, hgp]
    have HQ : Hid (∀ (cs : List Value) (e : Ending) (w' : World), rdEnd xs (rdZ xs 4 rd0) = 0 → e = .returned (.tuple #[.agg cs.toArray, .int .i64 0]) → SayIs w' w'.heap.size cs zeroSay → cs[15]? = some (.slice none 0 0) → Below w.heap.size w w' → IGSayPost w 17 xs e w') := by
      intro cs e w' h0 h1 h2 h3 h5
      have ho : jgOf 17 xs = zeroSay := by unfold jgOf; rw [hge, h0, if_pos rfl, hgp]
      unfold IGSayPost
      rw [hge, h0, ho]
      exact ⟨cs, h1, h2, h3, h5⟩
    have HE' := Lib.hid (HE.out _ hge)
    obtain ⟨er, her⟩ : ∃ x, x = rdEnd xs (rdZ xs 4 rd0) := ⟨_, rfl⟩
    rw [← her] at DE HQ HE'
    obtain ⟨q1, hq1⟩ : ∃ x, x = (rdZ xs 4 rd0) := ⟨_, rfl⟩
    rw [← hq1] at D1 DE
    clear HE hk hx her hge hgp hq1
    go_enter Tryd.func23, Tryd.ntmps23
    go_wp2_with (first
      | ((with_reducible show wpList _ _ _ (⟨some 4, _, _, _, _, _⟩ :: _) _ _); refine wpList_alloc_blk rfl _ rfl zs _ ZH ?_; intro h w1 hg1 hg2 Z1 L1)
      | ((with_reducible show wpList _ _ _ (⟨some 6, _, _, _, _, _⟩ :: _) _ _); refine wpList_alloc_blk rfl _ rfl zs _ ZH ?_; intro a w2 hg3 hg4 K2 L02; have Z2 := Lib.hid (Z1.out.over L02.out); have L2 := Lib.hid (step L1.out L02.out); have hha : h ≠ a := (by omega); have hwa : w.heap.size ≤ a := (by have := L1.out.size; omega); have hsz2 := L2.out.size)
      | ((with_reducible show wpList _ _ _ (⟨some 11, _, _, _, _, _⟩ :: _) _ _); refine wpList_build_blk rfl _ _ rfl ([.slice A n k, .int .i64 0, .int .i64 0] : List Value) (by refine Eq.trans ?_ BR; kernel_rfl) ?_)
      | ((with_reducible show wpList _ _ _ (⟨some 7, _, _, _, _, _⟩ :: _) _ _); refine wpList_alloc_blk rfl _ rfl ([.slice none 0 0, .int .i64 0, .int .i64 0] : List Value) _ ZR ?_; intro g w3 hg5 hg6 R3 L03; have K3 := Lib.hid (K2.out.over L03.out); have Z3 := Lib.hid (Z2.out.over L03.out); have L3 := Lib.hid (step L2.out L03.out); have hag : a ≠ g := (by omega); have hhg : h ≠ g := (by have := Z2.out.lt; omega); have hwg : w.heap.size ≤ g := (by omega))
      | ((with_reducible show wpList _ _ _ (⟨none, .store _ (.tmp 7) _, _, _, _, _⟩ :: _) _ _); refine wpList_store_blk rfl _ (.tmp 7) (.tmp 11) rfl g rfl _ ([.slice none 0 0, .int .i64 0, .int .i64 0] : List Value) ([.slice A n k, .int .i64 0, .int .i64 0] : List Value) rfl R3 3 size_ird HR0 HR1 HR2 ?_; intro w4 R4 O4 hg7; have K4 := Lib.hid (K3.out.only O4.out hag); have Z4 := Lib.hid (Z3.out.only O4.out hhg); have L4 := Lib.hid (below_only L3.out O4.out hwg))
      | fail)
    have P4 : Hid (PI w4 g w.heap.size A n k xs rd0) := ⟨Nat.zero_le _, hwg, R4.out, HX.out.below L4.out⟩
    clear R3 L03 K2 K3 Z1 Z2 Z3 L02 L1 L2 L3 R4 O4 HX
    refine (D1.out w4 g L4.out.size P4.out).mono ?_
    rintro e v1 ⟨rfl, hP, hS⟩
    have Pc1 := Lib.hid hP
    have Zc1 := Lib.hid (Z4.out.save hS hhg)
    have Kc1 := Lib.hid (K4.out.save hS hag)
    have Lc1 := Lib.hid (L4.out.trans (hS.below hwg L4.out.size))
    clear hP hS P4 Z4 K4 L4
    go_wp2_with fail
    refine (DE.out v1 g Pc1.out).mono ?_
    rintro e ve ⟨rfl, hS⟩
    have ZE := Lib.hid (Zc1.out.save hS hhg)
    have KE := Lib.hid (Kc1.out.save hS hag)
    have LE := Lib.hid (Lc1.out.trans (hS.below hwg Lc1.out.size))
    clear hS Pc1 Zc1 Kc1 Lc1
    by_cases he : er = 0
    rotate_left
    · have hne : (er != 0) = true := by simpa using he
      have HN := Lib.hid (HE'.out he)
      clear he HE' HQ
      go_wp2_with (first
        | ((with_reducible show wpList _ _ _ (⟨some 51, _, _, _, _, _⟩ :: _) _ _); refine wpList_build_none rfl _ rfl zs BZ ?_)
        | ((with_reducible show wpList _ _ _ (⟨none, .store _ (.tmp 4) _, _, _, _, _⟩ :: _) _ _); refine wpList_store_blk rfl _ (.tmp 4) (.tmp 51) rfl h rfl _ zs zs rfl ZE 20 size_say HZ HZ HZ1 ?_; intro w10 K10 O10 hg10)
        | fail)
      refine bodyPost_ret (v := .tuple #[.agg zs.toArray, .int .i64 er]) ?_ rfl (HN.out _ _ rfl (below_only LE.out O10.out (by omega)))
      exact results_cell_two rfl _ _ h _ _ (0, 0) _ rfl K10.out Tryd.underlying45 rfl (by rw [size_say]; have := HZ.out; simp [this]) rfl
    · subst he
      have HEQ : Hid (zs = scells (.slice none 0 0) (.slice none 0 0) zeroSay) := by
        show _ = _
        exact HZS.out
      have H1C : Hid (∀ v ∈ zs, v.oneCell' = true) := by
        show _
        rw [HEQ.out]
        exact scells_one rfl rfl
      go_wp2_with (first
        | ((with_reducible show wpList _ _ _ (⟨some 53, _, _, _, _, _⟩ :: _) _ _); refine wpList_load_blk rfl _ (.tmp 6) rfl a rfl _ zs KE 20 _ Tryd.underlying45 rfl size_say HZ ?_)
        | ((with_reducible show wpList _ _ _ (⟨none, .store _ (.tmp 4) _, _, _, _, _⟩ :: _) _ _); refine wpList_store_blk rfl _ (.tmp 4) (.tmp 53) rfl h rfl _ zs zs rfl ZE 20 size_say HZ HZ H1C ?_; intro w10 K10 O10 hg10)
        | fail)
      refine bodyPost_ret (v := .tuple #[.agg zs.toArray, .int .i64 0]) ?_ rfl ?_
      · exact results_cell_two rfl _ _ h _ _ (0, 0) _ rfl K10.out Tryd.underlying45 rfl (by rw [size_say]; have := HZ.out; simp [this]) rfl
      · have LF : Below w.heap.size w w10 := below_only LE.out O10.out (by omega)
        exact HQ.out zs _ _ (by trivial) rfl ⟨none, 0, 0, none, 0, 0, by rw [HEQ.out], Holds.nil _ _, HoldsS.nil _ _ _ _⟩ (by rw [HEQ.out]; rfl) LF
  · subst h18
    have D1 : Hid (∀ (w' : World) (g : Nat), w.heap.size ≤ w'.heap.size → PI w' g w.heap.size A n k xs rd0 → Calls Tryd.prog 55 #[.pointer (some ⟨g, 0, none⟩)] w' fun e w2 => e = .returned (.tuple #[.int .u64 (l1 xs).1, .int .u8 (k2 xs).1]) ∧ PI w2 g w.heap.size A n k xs (k3 xs) ∧ Save g w' w2) := fun w' g hs h => inlevel_any w' g _ A n k xs _ hby h hs
    have DE : Hid (∀ (w' : World) (g : Nat), PI w' g w.heap.size A n k xs (k3 xs) → Calls Tryd.prog 56 #[.pointer (some ⟨g, 0, none⟩)] w' fun e w2 => e = .returned (.int .i64 (rdEnd xs (k3 xs))) ∧ Save g w' w2) := fun w' g h => inend_any w' g _ A n k xs _ h
    have hgp : jgP 18 xs = ({ zeroSay with file := (l1 xs).1, lev := (k2 xs).1 }, (k3 xs)) := by unfold jgP; rw [if_neg (by decide), if_neg (by decide), if_pos rfl]
    have hge : jgErr 18 xs = rdEnd xs (k3 xs) := by unfold jgErr; rw [if_pos hk, hgp]
    have HQ : Hid (∀ (cs : List Value) (e : Ending) (w' : World), rdEnd xs (k3 xs) = 0 → e = .returned (.tuple #[.agg cs.toArray, .int .i64 0]) → SayIs w' w'.heap.size cs { zeroSay with file := (l1 xs).1, lev := (k2 xs).1 } → cs[15]? = some (.slice none 0 0) → Below w.heap.size w w' → IGSayPost w 18 xs e w') := by
      intro cs e w' h0 h1 h2 h3 h5
      have ho : jgOf 18 xs = { zeroSay with file := (l1 xs).1, lev := (k2 xs).1 } := by unfold jgOf; rw [hge, h0, if_pos rfl, hgp]
      unfold IGSayPost
      rw [hge, h0, ho]
      exact ⟨cs, h1, h2, h3, h5⟩
    have HE' := Lib.hid (HE.out _ hge)
    obtain ⟨er, her⟩ : ∃ x, x = rdEnd xs (k3 xs) := ⟨_, rfl⟩
    rw [← her] at DE HQ HE'
    obtain ⟨q1, hq1⟩ : ∃ x, x = (l1 xs).1 := ⟨_, rfl⟩
    rw [← hq1] at D1 HQ
    obtain ⟨q2, hq2⟩ : ∃ x, x = (k2 xs).1 := ⟨_, rfl⟩
    rw [← hq2] at D1 HQ
    obtain ⟨q3, hq3⟩ : ∃ x, x = (k3 xs) := ⟨_, rfl⟩
    rw [← hq3] at D1 DE
    clear HE hk hx her hge hgp hq1 hq2 hq3
    go_enter Tryd.func23, Tryd.ntmps23
    go_wp2_with (first
      | ((with_reducible show wpList _ _ _ (⟨some 4, _, _, _, _, _⟩ :: _) _ _); refine wpList_alloc_blk rfl _ rfl zs _ ZH ?_; intro h w1 hg1 hg2 Z1 L1)
      | ((with_reducible show wpList _ _ _ (⟨some 6, _, _, _, _, _⟩ :: _) _ _); refine wpList_alloc_blk rfl _ rfl zs _ ZH ?_; intro a w2 hg3 hg4 K2 L02; have Z2 := Lib.hid (Z1.out.over L02.out); have L2 := Lib.hid (step L1.out L02.out); have hha : h ≠ a := (by omega); have hwa : w.heap.size ≤ a := (by have := L1.out.size; omega); have hsz2 := L2.out.size)
      | ((with_reducible show wpList _ _ _ (⟨some 11, _, _, _, _, _⟩ :: _) _ _); refine wpList_build_blk rfl _ _ rfl ([.slice A n k, .int .i64 0, .int .i64 0] : List Value) (by refine Eq.trans ?_ BR; kernel_rfl) ?_)
      | ((with_reducible show wpList _ _ _ (⟨some 7, _, _, _, _, _⟩ :: _) _ _); refine wpList_alloc_blk rfl _ rfl ([.slice none 0 0, .int .i64 0, .int .i64 0] : List Value) _ ZR ?_; intro g w3 hg5 hg6 R3 L03; have K3 := Lib.hid (K2.out.over L03.out); have Z3 := Lib.hid (Z2.out.over L03.out); have L3 := Lib.hid (step L2.out L03.out); have hag : a ≠ g := (by omega); have hhg : h ≠ g := (by have := Z2.out.lt; omega); have hwg : w.heap.size ≤ g := (by omega))
      | ((with_reducible show wpList _ _ _ (⟨none, .store _ (.tmp 7) _, _, _, _, _⟩ :: _) _ _); refine wpList_store_blk rfl _ (.tmp 7) (.tmp 11) rfl g rfl _ ([.slice none 0 0, .int .i64 0, .int .i64 0] : List Value) ([.slice A n k, .int .i64 0, .int .i64 0] : List Value) rfl R3 3 size_ird HR0 HR1 HR2 ?_; intro w4 R4 O4 hg7; have K4 := Lib.hid (K3.out.only O4.out hag); have Z4 := Lib.hid (Z3.out.only O4.out hhg); have L4 := Lib.hid (below_only L3.out O4.out hwg))
      | fail)
    have P4 : Hid (PI w4 g w.heap.size A n k xs rd0) := ⟨Nat.zero_le _, hwg, R4.out, HX.out.below L4.out⟩
    clear R3 L03 K2 K3 Z1 Z2 Z3 L02 L1 L2 L3 R4 O4 HX
    refine (D1.out w4 g L4.out.size P4.out).mono ?_
    rintro e v1 ⟨rfl, hP, hS⟩
    have Pc1 := Lib.hid hP
    have Zc1 := Lib.hid (Z4.out.save hS hhg)
    have Kc1 := Lib.hid (K4.out.save hS hag)
    have Lc1 := Lib.hid (L4.out.trans (hS.below hwg L4.out.size))
    clear hP hS P4 Z4 K4 L4
    go_wp2_with (first
      | ((with_reducible show wpList _ _ _ (⟨none, .store _ (.tmp 46) _, _, _, _, _⟩ :: _) _ _); refine wpList_store_fld rfl _ (.tmp 46) (.tmp 44) rfl a 13 rfl _ zs (.int .u64 q1) rfl Kc1 (Lib.hid (by have := HZ.out; omega)) (by kernel_rfl) rfl ?_; intro x1 Ks1 Os1 hqs1; obtain ⟨C1, hC1⟩ : ∃ x, x = zs.set 13 (.int .u64 q1) := ⟨_, rfl⟩; have HC1 := Lib.hid hC1; have HL1 : Hid (C1.length = 20) := (by rw [hC1, List.length_set]; exact HZ.out); rw [← hC1] at Ks1; have Zs1 := Lib.hid (Zc1.out.only Os1.out hha); have Ps1 := Lib.hid (Pc1.out.only Os1.out (Ne.symm hag) hwa); have Ls1 := Lib.hid (below_only Lc1.out Os1.out hwa); clear hC1)
      | ((with_reducible show wpList _ _ _ (⟨none, .store _ (.tmp 47) _, _, _, _, _⟩ :: _) _ _); refine wpList_store_fld rfl _ (.tmp 47) (.tmp 45) rfl a 10 rfl _ C1 (.int .u8 q2) rfl Ks1 (Lib.hid (by have := HL1.out; omega)) (by kernel_rfl) rfl ?_; intro x2 Ks2 Os2 hqs2; obtain ⟨C2, hC2⟩ : ∃ x, x = C1.set 10 (.int .u8 q2) := ⟨_, rfl⟩; have HC2 := Lib.hid hC2; have HL2 : Hid (C2.length = 20) := (by rw [hC2, List.length_set]; exact HL1.out); rw [← hC2] at Ks2; have Zs2 := Lib.hid (Zs1.out.only Os2.out hha); have Ps2 := Lib.hid (Ps1.out.only Os2.out (Ne.symm hag) hwa); have Ls2 := Lib.hid (below_only Ls1.out Os2.out hwa); clear hC2)
      | fail)
    refine (DE.out x2 g Ps2.out).mono ?_
    rintro e ve ⟨rfl, hS⟩
    have ZE := Lib.hid (Zs2.out.save hS hhg)
    have KE := Lib.hid (Ks2.out.save hS hag)
    have LE := Lib.hid (Ls2.out.trans (hS.below hwg Ls2.out.size))
    clear hS Ps2 Zs2 Ks2 Ls2
    by_cases he : er = 0
    rotate_left
    · have hne : (er != 0) = true := by simpa using he
      have HN := Lib.hid (HE'.out he)
      clear he HE' HQ
      go_wp2_with (first
        | ((with_reducible show wpList _ _ _ (⟨some 51, _, _, _, _, _⟩ :: _) _ _); refine wpList_build_none rfl _ rfl zs BZ ?_)
        | ((with_reducible show wpList _ _ _ (⟨none, .store _ (.tmp 4) _, _, _, _, _⟩ :: _) _ _); refine wpList_store_blk rfl _ (.tmp 4) (.tmp 51) rfl h rfl _ zs zs rfl ZE 20 size_say HZ HZ HZ1 ?_; intro w10 K10 O10 hg10)
        | fail)
      refine bodyPost_ret (v := .tuple #[.agg zs.toArray, .int .i64 er]) ?_ rfl (HN.out _ _ rfl (below_only LE.out O10.out (by omega)))
      exact results_cell_two rfl _ _ h _ _ (0, 0) _ rfl K10.out Tryd.underlying45 rfl (by rw [size_say]; have := HZ.out; simp [this]) rfl
    · subst he
      have HEQ : Hid (C2 = scells (.slice none 0 0) (.slice none 0 0) { zeroSay with file := q1, lev := q2 }) := by
        show _ = _
        rw [HC2.out, HC1.out, HZS.out]
        rfl
      have H1C : Hid (∀ v ∈ C2, v.oneCell' = true) := by
        show _
        rw [HEQ.out]
        exact scells_one rfl rfl
      go_wp2_with (first
        | ((with_reducible show wpList _ _ _ (⟨some 53, _, _, _, _, _⟩ :: _) _ _); refine wpList_load_blk rfl _ (.tmp 6) rfl a rfl _ C2 KE 20 _ Tryd.underlying45 rfl size_say HL2 ?_)
        | ((with_reducible show wpList _ _ _ (⟨none, .store _ (.tmp 4) _, _, _, _, _⟩ :: _) _ _); refine wpList_store_blk rfl _ (.tmp 4) (.tmp 53) rfl h rfl _ zs C2 rfl ZE 20 size_say HZ HL2 H1C ?_; intro w10 K10 O10 hg10)
        | fail)
      refine bodyPost_ret (v := .tuple #[.agg C2.toArray, .int .i64 0]) ?_ rfl ?_
      · exact results_cell_two rfl _ _ h _ _ (0, 0) _ rfl K10.out Tryd.underlying45 rfl (by rw [size_say]; have := HL2.out; simp [this]) rfl
      · have LF : Below w.heap.size w w10 := below_only LE.out O10.out (by omega)
        exact HQ.out C2 _ _ (by trivial) rfl ⟨none, 0, 0, none, 0, 0, by rw [HEQ.out], Holds.nil _ _, HoldsS.nil _ _ _ _⟩ (by rw [HEQ.out]; rfl) LF
end Go.Proofs.YtbbjmmooemmeiaaDoor

namespace Go.Proofs.YtbbjmmooemmeiaaDoor
set_option linter.all false
open Go.RowKit
section
variable {P : Program} {ops : Array Oper} {Q : Exit → Act → World → Prop}
end
theorem Holds.of_lit {w : World} {g : Nat} {T : TypeId} {xs : List Int} (h : Blk w g T (xs.map (Value.int .u8))) (hx : Bytes xs) (hn : xs.length ≤ 1000 := by simp) : Holds w w.heap.size (some ⟨g, 0, none⟩) xs.length xs.length xs :=
  ⟨rfl, Nat.le_refl _, by omega, hx, fun hA => (by cases hA), fun _ => ⟨g, 0, rfl, h.lt, fun i hi => by
    rw [Nat.zero_add, h.cell]
    simp [List.getD_eq_getElem?_getD, hi]⟩⟩
end Go.Proofs.YtbbjmmooemmeiaaDoor

namespace Go.Proofs.YtbbjmmooemmeiaaDoor
set_option linter.all false
open Go.RowKit
set_option linter.unusedVariables false
set_option linter.unusedSimpArgs false
set_option maxRecDepth 100000
/-- a slice literal, where the operation's guard is met -/
theorem wpList_slice_w {P : Program} {ops : Array Oper} {rest : List Oper} {o : Oper} {a : Act} {w : World} {Q : Exit → Act → World → Prop} (hw : Region.wanted o (yielded ops a.tmps) = true) (t e : TypeId) (len : Nat) (parts : Array (Nat × Operand)) (ho : o.op = .buildSlice t len parts) (hu : P.underlying t = some (.slice e)) (cs : List Value)
    (hf : P.builtSlice e len (parts.map fun (i, x) => (i, a.eval x)).toList = some cs.toArray)
    (h : ∀ g w', w.heap.size ≤ g → g < w'.heap.size → Hid (Blk w' g e cs) → Hid (Below w.heap.size w w') → wpList P ops Q rest (a.put o.dst (.slice (some ⟨g, 0, none⟩) len len)) w') : wpList P ops Q (o :: rest) a w :=
  wpList_step fun K hK => by
    rw [if_pos hw]
    unfold Program.builtSlice at hf
    cases hie : P.info? e with
    | none => simp [hie] at hf
    | some ie =>
      simp only [hie] at hf
      cases hz : ie.zero with
      | none => simp [hz] at hf
      | some z =>
        simp only [hz] at hf
        by_cases hc : len * ie.size > 2 ^ 24 ∨ len * ie.size = 0
        · simp [hc] at hf
        · rw [if_neg hc] at hf
          exact wp_buildSlice t e len parts ho _ ie z hu hie hz (fun h' => hc (Or.inl h')) (fun h' => hc (Or.inr h')) hf (hK _ _ (h _ _ (Nat.le_refl _) (by simp) (Blk.new w e cs) ((Below.refl _ _).alloc (Nat.le_refl _) _)))
def isetA : AskV := { zeroAsk with file := 1, cls := 2, on := true }
theorem isetA_ok : isetA.ok := ⟨zeroAsk_ok.dial, zeroAsk_ok.glen, zeroAsk_ok.gbyte, zeroAsk_ok.plen, zeroAsk_ok.pbyte, zeroAsk_ok.acc, zeroAsk_ok.shr, zeroAsk_ok.way, zeroAsk_ok.opt, zeroAsk_ok.lev, zeroAsk_ok.dur, by decide, zeroAsk_ok.at_, zeroAsk_ok.n, zeroAsk_ok.data, zeroAsk_ok.locks, zeroAsk_ok.most, by decide, zeroAsk_ok.siz⟩
def isayS : SayV := { zeroSay with siz := 7, kind := 2, gone := true }
theorem ilives1 : ipErr 17 isetA = 0 ∧ ipOf 17 isetA = [1, 0, 0, 0, 0, 0, 0, 0, 2, 0, 1, 0] := by decide +kernel
theorem ilives2 : jgErr 16 [7, 0, 0, 0, 0, 0, 0, 0, 2, 0, 1, 0] = 0 ∧ jgOf 16 [7, 0, 0, 0, 0, 0, 0, 0, 2, 0, 1, 0] = isayS := by decide +kernel
theorem ilives3 : jgErr 12 [0, 0, 0, 0] = 2 ∧ jgOf 12 [0, 0, 0, 0] = zeroSay := by decide +kernel
theorem ilives4 : igErr 12 [0, 0, 0, 0] = 0 ∧ igOf 12 [0, 0, 0, 0] = zeroAsk := by decide +kernel
theorem ibuilt1 : Tryd.prog.built 32 [(11, .int .u64 1), (20, .int .u16 2), (22, .bool true)] = some (acells (.slice none 0 0) (.slice none 0 0) (.slice none 0 0) isetA).toArray := by kernel_rfl
theorem ilive_put (w : World) (hT : Tabs w) : Calls Tryd.prog 11 #[.int .u16 17, .agg (acells (.slice none 0 0) (.slice none 0 0) (.slice none 0 0) isetA).toArray] w fun e w' => (∃ A c, e = .returned (.tuple #[.slice A 12 c, .int .i64 0]) ∧ Holds w' w'.heap.size A 12 c [1, 0, 0, 0, 0, 0, 0, 0, 2, 0, 1, 0]) ∧ Below w.heap.size w w' := by
  have h := IPutAsk_any w 17 (acells (.slice none 0 0) (.slice none 0 0) (.slice none 0 0) isetA) isetA (by decide) isetA_ok ⟨none, 0, 0, none, 0, 0, none, 0, 0, rfl, HoldsF.nil _ _ _, Holds.nil _ _, HoldsS.nil _ _ _ _⟩ (by decide) (by decide) hT
  unfold IPAskPost at h
  rw [ilives1.1, ilives1.2] at h
  refine h.mono fun e w' ⟨v, h1, h2, h3⟩ => ?_
  obtain ⟨A, c, rfl, hh⟩ := OwnZ.holds8 h2 (Bytes.of_all (by decide)) (by decide)
  exact ⟨⟨A, c, h1, hh⟩, h3⟩
theorem ilive_say (w : World) (A : Option Addr) (k : Nat) (hx : Holds w w.heap.size A 12 k [7, 0, 0, 0, 0, 0, 0, 0, 2, 0, 1, 0]) : Calls Tryd.prog 23 #[.int .u16 16, .slice A 12 k] w fun e w' => (∃ cs : List Value, e = .returned (.tuple #[.agg cs.toArray, .int .i64 0]) ∧ cs.length = 20 ∧ (∀ v ∈ cs, v.oneCell' = true) ∧ cs[1]? = some (.int .u64 7) ∧ cs[14]? = some (.int .u8 2) ∧ cs[19]? = some (.bool true)) ∧ Below w.heap.size w w' := by
  have h := IGetSay_any w 16 A 12 k _ (by decide) hx
  unfold IGSayPost at h
  rw [ilives2.1, ilives2.2] at h
  refine h.mono fun e w' ⟨cs, h1, h2, h3, h5⟩ => ⟨⟨cs, h1, ?_, h2.one, ?_⟩, h5⟩
  · obtain ⟨_, _, _, _, _, _, rfl, _⟩ := h2
    rfl
  · obtain ⟨_, _, _, _, _, _, rfl, _⟩ := h2
    exact ⟨rfl, rfl, rfl⟩
theorem ilive_no (w : World) (A : Option Addr) (k : Nat) (hx : Holds w w.heap.size A 4 k [0, 0, 0, 0]) : Calls Tryd.prog 23 #[.int .u16 12, .slice A 4 k] w fun e w' => (∃ cs : List Value, e = .returned (.tuple #[.agg cs.toArray, .int .i64 2]) ∧ cs.length = 20 ∧ (∀ v ∈ cs, v.oneCell' = true)) ∧ Below w.heap.size w w' := by
  have h := IGetSay_any w 12 A 4 k _ (by decide) hx
  unfold IGSayPost at h
  rw [ilives3.1, ilives3.2] at h
  exact h.mono fun e w' ⟨cs, h1, h2, h3, h5⟩ => ⟨⟨cs, h1, h2.len zeroSay_ok, h2.one⟩, h5⟩
theorem ilive_get (w : World) (A : Option Addr) (k : Nat) (hx : Holds w w.heap.size A 4 k [0, 0, 0, 0]) : Calls Tryd.prog 21 #[.int .u16 12, .slice A 4 k] w fun e w' => (∃ cs : List Value, e = .returned (.tuple #[.agg cs.toArray, .int .i64 0]) ∧ cs.length = 69 ∧ (∀ v ∈ cs, v.oneCell' = true)) ∧ Below w.heap.size w w' := by
  have h := IGetAsk_any w 12 A 4 k _ (by decide) hx
  unfold IGAskPost at h
  rw [ilives4.1, ilives4.2] at h
  exact h.mono fun e w' ⟨cs, h1, h2, h3, h5⟩ => ⟨⟨cs, h1, h2.len zeroAsk_ok, h2.one⟩, h5⟩
set_option maxHeartbeats 2000000 in
theorem ilives_any (w : World) (hT : Tabs w) : Calls Tryd.prog 15 #[] w fun e w' => e = .returned (.bool true) ∧ Below w.heap.size w w' := by
  have HT := Lib.hid hT
  have C1 := Lib.hid ilive_put
  have B1 := ibuilt1
  have ZA := Lib.hid zero_ask
  have ZS := Lib.hid zero_say
  have HZA : Hid ((acells (.slice none 0 0) (.slice none 0 0) (.slice none 0 0) zeroAsk).length = 69) := acells_len zeroAsk_ok
  have HZS : Hid ((scells (.slice none 0 0) (.slice none 0 0) zeroSay).length = 20) := scells_len zeroSay_ok
  obtain ⟨fa, hfa⟩ : ∃ x, x = acells (.slice none 0 0) (.slice none 0 0) (.slice none 0 0) isetA := ⟨_, rfl⟩
  rw [← hfa] at C1 B1
  obtain ⟨za, hza⟩ : ∃ x, x = acells (.slice none 0 0) (.slice none 0 0) (.slice none 0 0) zeroAsk := ⟨_, rfl⟩
  rw [← hza] at ZA HZA
  obtain ⟨zs, hzs⟩ : ∃ x, x = scells (.slice none 0 0) (.slice none 0 0) zeroSay := ⟨_, rfl⟩
  rw [← hzs] at ZS HZS
  clear hfa hza hzs hT
  go_enter Tryd.func15, Tryd.ntmps15
  go_wp2_with (first
    | ((with_reducible show wpList _ _ _ (⟨some 10, _, _, _, _, _⟩ :: _) _ _); refine wpList_build_blk rfl _ _ rfl fa (by refine Eq.trans ?_ B1; kernel_rfl) ?_)
    | fail)
  refine (C1.out w HT.out).mono ?_
  rintro e w1 ⟨⟨A1, k1, rfl, h1⟩, L1⟩
  have H1 := Lib.hid h1
  have M1 := Lib.hid L1
  clear h1 L1 C1
  go_wp2_with (first
    | ((with_reducible show wpList _ _ _ (⟨some 15, _, _, _, _, _⟩ :: _) _ _); refine wpList_slice_blk rfl _ _ 12 _ rfl Tryd.underlying29 ([.int .u8 7, .int .u8 0, .int .u8 0, .int .u8 0, .int .u8 0, .int .u8 0, .int .u8 0, .int .u8 0, .int .u8 2, .int .u8 0, .int .u8 1, .int .u8 0] : List Value) (by kernel_rfl) ?_; intro g2 w2 q1 q2 Y2 b2)
    | fail)
  have HX2 : Holds w2 w2.heap.size (some ⟨g2, 0, none⟩) 12 12 [7, 0, 0, 0, 0, 0, 0, 0, 2, 0, 1, 0] := Holds.of_lit (xs := [7, 0, 0, 0, 0, 0, 0, 0, 2, 0, 1, 0]) Y2.out (Bytes.of_all (by decide))
  have M2 := Lib.hid (step M1.out b2.out)
  have H2 := Lib.hid (H1.out.over b2.out)
  refine (ilive_say w2 _ 12 HX2).mono ?_
  rintro e w3 ⟨⟨cs, rfl, hc1, hc2, hc3, hc4, hc5⟩, L3⟩
  have HC1 := Lib.hid hc1
  have HC2 := Lib.hid hc2
  have HC3 := Lib.hid hc3
  have HC4 := Lib.hid hc4
  have HC5 := Lib.hid hc5
  have M3 := Lib.hid (step M2.out L3)
  have H3 := Lib.hid (H2.out.over L3)
  clear HX2 hc1 hc2 hc3 hc4 hc5 L3 H1 H2 M1 M2 Y2 b2
  go_wp2_with (first
    | ((with_reducible show wpList _ _ _ (⟨some 3, _, _, _, _, _⟩ :: _) _ _); refine wpList_alloc_blk rfl _ rfl zs _ ZS ?_; intro g4 w4 hg1 hg2 X4 L4)
    | ((with_reducible show wpList _ _ _ (⟨none, .store _ (.tmp 3) _, _, _, _, _⟩ :: _) _ _); refine wpList_store_blk rfl _ (.tmp 3) (.tmp 17) rfl g4 rfl _ zs cs rfl X4 20 size_say HZS HC1 HC2 ?_; intro w5 X5 O5 hg5; have b5 := Lib.hid (below_only L4.out O5.out hg1); have M5 := Lib.hid (step M3.out b5.out); have H5 := Lib.hid (H3.out.over b5.out))
    | ((with_reducible show wpList _ _ _ (⟨some 20, _, _, _, _, _⟩ :: _) _ _); refine wpList_slice_blk rfl _ _ 4 _ rfl Tryd.underlying29 ([.int .u8 0, .int .u8 0, .int .u8 0, .int .u8 0] : List Value) (by kernel_rfl) ?_; intro g6 w6 q3 q4 Y6 b6; have M6 := Lib.hid (step M5.out b6.out); have H6 := Lib.hid (H5.out.over b6.out); have X6 := Lib.hid (X5.out.over b6.out))
    | fail)
  have HX6 : Holds w6 w6.heap.size (some ⟨g6, 0, none⟩) 4 4 [0, 0, 0, 0] := Holds.of_lit (xs := [0, 0, 0, 0]) Y6.out (Bytes.of_all (by decide))
  refine (ilive_no w6 _ 4 HX6).mono ?_
  rintro e w7 ⟨⟨ds, rfl, hd1, hd2⟩, L7⟩
  have HD1 := Lib.hid hd1
  have HD2 := Lib.hid hd2
  have M7 := Lib.hid (step M6.out L7)
  have H7 := Lib.hid (H6.out.over L7)
  have X7 := Lib.hid (X6.out.over L7)
  clear HX6 hd1 hd2 L7 H5 H6 M5 M6 Y6 b6 X4 X5 X6 L4 O5 b5 H3 M3
  go_wp2_with (first
    | ((with_reducible show wpList _ _ _ (⟨some 5, _, _, _, _, _⟩ :: _) _ _); refine wpList_alloc_blk rfl _ rfl zs _ ZS ?_; intro g8 w8 hg7 hg8 X8 L8)
    | ((with_reducible show wpList _ _ _ (⟨none, .store _ (.tmp 5) _, _, _, _, _⟩ :: _) _ _); refine wpList_store_blk rfl _ (.tmp 5) (.tmp 22) rfl g8 rfl _ zs ds rfl X8 20 size_say HZS HD1 HD2 ?_; intro w9 X9 O9 hg9; have b9 := Lib.hid (below_only L8.out O9.out hg7); have M9 := Lib.hid (step M7.out b9.out); have H9 := Lib.hid (H7.out.over b9.out); have X9a := Lib.hid (X7.out.over b9.out))
    | ((with_reducible show wpList _ _ _ (⟨some 25, _, _, _, _, _⟩ :: _) _ _); refine wpList_slice_blk rfl _ _ 4 _ rfl Tryd.underlying29 ([.int .u8 0, .int .u8 0, .int .u8 0, .int .u8 0] : List Value) (by kernel_rfl) ?_; intro g10 w10 q5 q6 Y10 b10; have M10 := Lib.hid (step M9.out b10.out); have H10 := Lib.hid (H9.out.over b10.out); have X10 := Lib.hid (X9a.out.over b10.out))
    | fail)
  have HX10 : Holds w10 w10.heap.size (some ⟨g10, 0, none⟩) 4 4 [0, 0, 0, 0] := Holds.of_lit (xs := [0, 0, 0, 0]) Y10.out (Bytes.of_all (by decide))
  refine (ilive_get w10 _ 4 HX10).mono ?_
  rintro e w11 ⟨⟨es, rfl, he1, he2⟩, L11⟩
  have HF1 := Lib.hid he1
  have HF2 := Lib.hid he2
  have M11 := Lib.hid (step M10.out L11)
  have H11 := Lib.hid (H10.out.over L11)
  have X11 := Lib.hid (X10.out.over L11)
  clear HX10 he1 he2 L11 H7 H9 H10 M7 M9 M10 Y10 b10 X7 X8 X9 X9a X10 L8 O9 b9
  go_wp2_with (first
    | ((with_reducible show wpList _ _ _ (⟨some 7, _, _, _, _, _⟩ :: _) _ _); refine wpList_alloc_blk rfl _ rfl za _ ZA ?_; intro g12 w12 hg11 hg12 X12 L12)
    | ((with_reducible show wpList _ _ _ (⟨none, .store _ (.tmp 7) _, _, _, _, _⟩ :: _) _ _); refine wpList_store_blk rfl _ (.tmp 7) (.tmp 27) rfl g12 rfl _ za es rfl X12 69 size_ask HZA HF1 HF2 ?_; intro w13 X13 O13 hg13; have b13 := Lib.hid (below_only L12.out O13.out hg11); have M13 := Lib.hid (step M11.out b13.out); have H13 := Lib.hid (H11.out.over b13.out); have X13a := Lib.hid (X11.out.over b13.out))
    | ((with_reducible show wpList _ _ _ (⟨some 33, _, _, _, _, _⟩ :: _) _ _); refine wpList_slice_w (by kernel_rfl) _ _ 12 _ rfl Tryd.underlying29 ([.int .u8 1, .int .u8 0, .int .u8 0, .int .u8 0, .int .u8 0, .int .u8 0, .int .u8 0, .int .u8 0, .int .u8 2, .int .u8 0, .int .u8 1, .int .u8 0] : List Value) (by kernel_rfl) ?_; intro g14 w14 q7 q8 Y14 b14; have M14 := Lib.hid (step M13.out b14.out); have H14 := Lib.hid (H13.out.over b14.out); have X14 := Lib.hid (X13a.out.over b14.out))
    | fail)
  have HX14 : Holds w14 w14.heap.size (some ⟨g14, 0, none⟩) 12 12 [1, 0, 0, 0, 0, 0, 0, 0, 2, 0, 1, 0] := Holds.of_lit (xs := [1, 0, 0, 0, 0, 0, 0, 0, 2, 0, 1, 0]) Y14.out (Bytes.of_all (by decide))
  refine (Same_any w14 _ _ _ _ _ _ _ _ _ _ H14.out HX14).mono ?_
  rintro e w15 ⟨rfl, kq, rfl⟩
  have M15 := Lib.hid (below_drewN M14.out kq)
  have d1 : (w14.drewN kq).cell? ⟨g4, 1, none⟩ = some (.int .u64 7) := X14.out.at HC3.out
  have d2 : (w14.drewN kq).cell? ⟨g4, 14, none⟩ = some (.int .u8 2) := X14.out.at HC4.out
  have d3 : (w14.drewN kq).cell? ⟨g4, 19, none⟩ = some (.bool true) := X14.out.at HC5.out
  clear HX14 H14 M14 X14 Y14 b14 H13 M13 X13 X13a X12 L12 O13 b13 H11 M11 X11
  go_wp2
  go_ret
  exact ⟨rfl, M15.out⟩
end Go.Proofs.YtbbjmmooemmeiaaDoor

namespace Go.Proofs.YtbbjmmooemmeiaaDoor
set_option linter.all false
open Go.RowKit Go.Shelf
theorem first_data : (Rows.laid_unicode_utf8_first : DataW Unit) = Lib.firstData := by kernel_rfl
theorem accept_data : (Rows.laid_unicode_utf8_acceptRanges : DataW Unit) = Lib.acceptData := by kernel_rfl
theorem tabs_of_laid {W : World} (hL : laidMetH Tryd.prog [("unicode/utf8.acceptRanges", Rows.laid_unicode_utf8_acceptRanges), ("unicode/utf8.first", Rows.laid_unicode_utf8_first)] W) : Tabs W := by
  rw [first_data, accept_data] at hL
  exact utf8Tabs_of_readsT (U8Types.of196 Tryd.lays196) ⟨by kernel_rfl, by kernel_rfl, by kernel_rfl, by kernel_rfl, by kernel_rfl, by kernel_rfl, by kernel_rfl⟩ (Lib.laidMet.reads hL (.tail _ (.head _))) (Lib.laidMet.reads hL (.head _))
/-- A WORLD FOR THE WITNESS: the settled one, the two variables holding what their initialisers lay. -/
noncomputable def laidWorld (os : Os) : World :=
  let w0 := World.holding Tryd.prog os ⟨#[], #[], []⟩
  let put (h : Array Obj) (g : Nat) (cs : Array Value) : Array Obj := h.modify g fun
    | .cells _ t frozen => .cells cs t frozen
    | o => o
  let h1 := put w0.heap 0 (Lib.firstTab.map fun z => Value.int .u8 z).toArray
  let h2 := put h1 1 ((List.range 16).flatMap fun i => [Value.int .u8 (Lib.accLo i), Value.int .u8 (Lib.accHi i)]).toArray
  { w0 with heap := h2 }
theorem laid_met (os : Os) (args : Array Value) : laidMet Tryd.prog [("unicode/utf8.acceptRanges", Rows.laid_unicode_utf8_acceptRanges), ("unicode/utf8.first", Rows.laid_unicode_utf8_first)] ((laidWorld os).forCall (fun _ _ => 0) ⟨#[], args, []⟩).memory :=
  laidMet_of_run' 8 (by kernel_rfl) (by kernel_rfl)
end Go.Proofs.YtbbjmmooemmeiaaDoor
