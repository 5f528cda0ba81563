import Derived.WalkKit
import Derived.Deep.Draws
import Derived.Laws.Rows
import Derived.Laws.OwnMore
import Derived.Lib.RuneBytes
import Derived.Lib.ValidLaws
import Derived.Test.YtbbjmmooemmeiaaDoorRows
import Derived.Laws.CopyOwn
import Derived.Laws.AppendOwnNone
import Derived.Lib.Hide
import Derived.Laws.AppendOwn
import Derived.OwnWalk
import Derived.Lib.OthersKept
import Derived.Laws.BytesArg
import Derived.Shelf.Utf8.AppendRunePlain
import Derived.Shelf.Unicode.ValidAny
import Derived.Test.YtbbjmmooemmeiaaDoorProg
import Derived.WalkSpells
import Derived.WalkLawsBesides
import Derived.Deep.QuietTactic
import Derived.BigQuiet
import Derived.Laws.Bits64
import Derived.Laws.BitsAllLaws
import Derived.ProofKit
import Derived.OpenShut
import Derived.ShutString
import Derived.SizedLaws
import Derived.ChangeOld
import Derived.Lib.AppendZeros
import Derived.Deep.RegionWith
import Derived.Deep.DeepCutAuto
import Derived.Great.Walk
import Derived.Laws.Tables
import Derived.Laws.NewFold
import Derived.Deep.WholeRow
import Derived.Deep.MidRow
import Derived.OneCell
import Derived.Deep.Strs
import Derived.OrdersHeld
import Derived.Laws.StructEq
import Derived.ChangeKeysEq
import Derived.Deep.RegionLaw
import Derived.Deep.OwnRows
import Derived.Test.YtbbjmmooemmeiaaDoorWAB
namespace Go.Proofs.YtbbjmmooemmeiaaDoor
set_option linter.all false
open Go.RowKit
set_option linter.unusedVariables false
set_option linter.unusedSimpArgs false
set_option maxRecDepth 100000
theorem zero_wr : (Tryd.prog.info? 62).map (fun i => (i.zero, i.size)) = some (some (.agg ([.slice none 0 0, .int .i64 0] : List Value).toArray), 2) := by kernel_rfl
def IPAskPost (w : World) (c : Int) (a : AskV) (e : Ending) (w' : World) : Prop := ∃ v, e = .returned (.tuple #[v, .int .i64 (ipErr c a)]) ∧ OwnZ .u8 5 w' w.heap.size v (ipOf c a) ∧ Below w.heap.size w w'
set_option maxHeartbeats 4000000 in
theorem IPutAsk_any (w : World) (c : Int) (cs : List Value) (a : AskV) (hc : 0 ≤ c ∧ c ≤ 65535) (ka : a.ok) (ha : AskIs w w.heap.size cs a) (hu : a.user.size ≤ 17592186044416 ∧ a.share.size ≤ 17592186044416) (hn : a.name.size ≤ 17592186044416 ∧ a.pat.size ≤ 17592186044416 ∧ a.aft.size ≤ 17592186044416) (hT : Tabs w) :
    Calls Tryd.prog 11 #[.int .u16 c, .agg cs.toArray] w (IPAskPost w c a) := by
  have HL := Lib.hid (ha.len ka)
  have HA := Lib.hid ha
  have HT : Hid (TabsB w.heap.size w) := TabsB.of hT
  obtain ⟨hn1, hn2, hn3⟩ := hn
  have CN : Hid (∀ w', Below w.heap.size w w' → Calls Tryd.prog 29 #[.int .u16 c, .agg cs.toArray] w' fun e w2 => e = .returned (.bool (nameI c a)) ∧ Below w'.heap.size w' w2) := fun w' hb => iNamedAsk_any w' c cs a hc ka (HA.out.over hb) hu (HT.out w' hb)
  have CT : Hid (∀ (w : World) (b : Bool), Calls Tryd.prog 34 #[.bool b] w fun e w' => e = .returned (.int .u64 (truthI b)) ∧ w = w') := wtruth_any
  have FL : Hid (∀ (w : World) (g : Nat), Blk w g 32 cs → w.cell? ⟨g, 57, none⟩ = some (.int .u64 a.file) ∧ w.cell? ⟨g, 63, none⟩ = some (.int .u16 a.most) ∧ w.cell? ⟨g, 64, none⟩ = some (.string a.pat) ∧ w.cell? ⟨g, 65, none⟩ = some (.string a.aft) ∧ w.cell? ⟨g, 66, none⟩ = some (.int .u16 a.cls) ∧ w.cell? ⟨g, 67, none⟩ = some (.int .u64 a.siz) ∧ w.cell? ⟨g, 68, none⟩ = some (.bool a.on) ∧ w.cell? ⟨g, 58, none⟩ = some (.string a.name) ∧ w.cell? ⟨g, 55, none⟩ = some (.int .u8 a.lev)) := by
    obtain ⟨A1, A2, A3, X1, X2, X3, M1, M2, M3, rfl, hA, hX, hM⟩ := ha
    exact fun w g h => ⟨h.at (acells_get ka 8), h.at (acells_get ka 14), h.at (acells_get ka 15), h.at (acells_get ka 16), h.at (acells_get ka 17), h.at (acells_get ka 18), h.at (acells_get ka 19), h.at (acells_get ka 9), h.at (acells_get ka 6)⟩
  have ZW := Lib.hid zero_wr
  have b1 := ka.file; have b2 := ka.most; have b3 := ka.cls; have b4 := ka.siz; have b5 := ka.lev
  have rp := rowOf_le a.pat.data.toList
  have ra := rowOf_le a.aft.data.toList
  have rn := rowOf_le a.name.data.toList
  by_cases hnm : nameI c a = true
  rotate_left
  · have hnf : nameI c a = false := by simpa using hnm
    have he : ipErr c a = 2 := by unfold ipErr; rw [if_neg hnm]
    have HQ : Hid (∀ (e : Ending) (w' : World), e = .returned (.tuple #[.slice none 0 0, .int .i64 2]) → Below w.heap.size w w' → IPAskPost w c a e w') := by
      intro e w' h1 h2
      refine ⟨_, by rw [he]; exact h1, ?_, h2⟩
      unfold ipOf
      rw [he, if_neg (by decide)]
      exact OwnZ.nil _ _ _ _
    rw [hnf] at CN
    clear hnm hnf he ha ka hT hu hc CT ZW FL
    go_enter Tryd.func11, Tryd.ntmps11
    go_wp2_with (first
      | ((with_reducible show wpList _ _ _ (⟨some 3, _, _, _, _, _⟩ :: _) _ _); refine wpList_box_blk rfl _ (.tmp 1) rfl cs rfl ?_; intro z w1 hz1 hz2 Z1 L1)
      | ((with_reducible show wpList _ _ _ (⟨some 8, _, _, _, _, _⟩ :: _) _ _); refine wpList_load_blk rfl _ (.tmp 3) rfl z rfl _ cs Z1 69 _ Tryd.underlying32 rfl size_ask HL ?_)
      | fail)
    refine (CN.out w1 L1.out).mono ?_
    rintro e w2 ⟨rfl, L2⟩
    have L22 := Lib.hid (step L1.out L2)
    clear L2
    go_wp2
    go_ret2
    exact HQ.out _ _ rfl L22.out
  rw [hnm] at CN
  have hk : knownI c = true := by unfold nameI at hnm; simp only [Bool.and_eq_true] at hnm; exact hnm.1
  have hcl : c = 17 → 1 ≤ a.cls ∧ a.cls ≤ 3 := by
    intro h17
    unfold nameI classI at hnm
    simp only [Bool.and_eq_true, Bool.or_eq_true, Bool.not_eq_true', decide_eq_false_iff_not, decide_eq_true_eq] at hnm
    rcases hnm.2.1 with h | h
    · exact absurd h17 h
    · exact h
  have hw1 : IntKind.u64.wrap a.most = a.most := by rw [IntKind.wrap_u64]; omega
  have hw2 : IntKind.u64.wrap a.cls = a.cls := by rw [IntKind.wrap_u64]; omega
  obtain ⟨b10, b11⟩ := b1; obtain ⟨b20, b21⟩ := b2; obtain ⟨b30, b31⟩ := b3; obtain ⟨b40, b41⟩ := b4; obtain ⟨b50, b51⟩ := b5
  have bf : 0 ≤ a.file ∧ a.file ≤ 18446744073709551615 := ⟨b10, b11⟩
  have bs : 0 ≤ a.siz ∧ a.siz ≤ 18446744073709551615 := ⟨b40, b41⟩
  have bm : 0 ≤ a.most ∧ a.most ≤ 65535 := ⟨b20, b21⟩
  have bc : 0 ≤ a.cls ∧ a.cls ≤ 65535 := ⟨b30, b31⟩
  have bl : 0 ≤ a.lev ∧ a.lev ≤ 255 := ⟨b50, b51⟩
  have bo : 0 ≤ truthI a.on ∧ truthI a.on ≤ 65535 := by have := truthI_le a.on; omega
  have H2 : Hid (([.slice none 0 0, .int .i64 0] : List Value).length = 2) := rfl
  rcases knownI_cases hk with h12 | h14 | h16 | h17 | h18
  · subst h12
    have D1 : Hid (∀ (w' : World) (g : Nat), WI w' g w.heap.size ([]) (0) → Calls Tryd.prog 32 #[.pointer (some ⟨g, 0, none⟩), .int .i64 4] w' fun e w2 => e = .returned (.tuple #[]) ∧ WI w2 g w.heap.size ([] ++ List.replicate 4 0) (0) ∧ WKeep g w.heap.size w' w2) := fun w' g h => wnought_any w' g _ _ _ 4 h (by decide) (by decide) (by have h1 := rp; have h2 := ra; have h3 := rn; simp only [List.length_append, le_length, List.length_replicate, List.length_nil]; omega)
    have DE : Hid (∀ (w' : World) (g : Nat), WI w' g w.heap.size ([] ++ List.replicate 4 0) 0 → Calls Tryd.prog 36 #[.pointer (some ⟨g, 0, none⟩)] w' fun e w2 => ∃ v, e = .returned (.tuple #[v, .int .i64 0]) ∧ OwnZ .u8 5 w2 w.heap.size v (if 0 = 0 then [] ++ List.replicate 4 0 else []) ∧ Below w'.heap.size w' w2) := fun w' g h => wend_any w' g w.heap.size _ _ h
    have hbd : [] ++ List.replicate 4 0 = bodyI 12 a := by unfold bodyI; rw [if_neg (by decide), if_neg (by decide), if_neg (by decide), if_neg (by decide), List.nil_append]
    have her : ipErr 12 a = 0 := by unfold ipErr; rw [if_pos hnm, if_neg (by decide), if_neg (fun h => absurd h.1 (by decide))]
    have HQ : Hid (∀ (v : Value) (e : Ending) (w' : World), e = .returned (.tuple #[v, .int .i64 0]) → OwnZ .u8 5 w' w.heap.size v (if 0 = 0 then [] ++ List.replicate 4 0 else []) → Below w.heap.size w w' → IPAskPost w 12 a e w') := by
      intro v e w' h1 h2 h3
      refine ⟨v, by rw [her]; exact h1, ?_, h3⟩
      unfold ipOf
      rw [her, ← hbd]
      exact h2
    obtain ⟨y1, hy1⟩ : ∃ y : List Int, y = [] ++ List.replicate 4 0 := ⟨_, rfl⟩
    rw [← hy1] at D1 DE HQ
    clear hy1
    clear hk hnm hcl her hbd ka ha hT hu hc
    go_enter Tryd.func11, Tryd.ntmps11
    go_wp2_with (first
      | ((with_reducible show wpList _ _ _ (⟨some 3, _, _, _, _, _⟩ :: _) _ _); refine wpList_box_blk rfl _ (.tmp 1) rfl cs rfl ?_; intro z w1 hz1 hz2 Z1 L1)
      | ((with_reducible show wpList _ _ _ (⟨some 8, _, _, _, _, _⟩ :: _) _ _); refine wpList_load_blk rfl _ (.tmp 3) rfl z rfl _ cs Z1 69 _ Tryd.underlying32 rfl size_ask HL ?_)
      | fail)
    refine (CN.out w1 L1.out).mono ?_
    rintro e w2 ⟨rfl, L2⟩
    have Z2 := Lib.hid (Z1.out.over L2)
    have L22 := Lib.hid (step L1.out L2)
    have hzs : z < w2.heap.size := Z2.out.lt
    clear L2 Z1 L1 CN
    have hws := L22.out.size
    obtain ⟨f1, f2, f3, f4, f5, f6, f7, f8, f9⟩ := FL.out _ _ Z2.out
    go_wp2_with (first
      | ((with_reducible show wpList _ _ _ (⟨some 6, _, _, _, _, _⟩ :: _) _ _); refine wpList_alloc_blk rfl _ rfl _ _ ZW ?_; intro g u0 hg1 hg2 G0 N0; have hzg : z ≠ g := (by omega); have Z0 := Lib.hid (Z2.out.over N0.out); have K0 : Hid (WKeep g w.heap.size w u0) := (WKeep.of_below (L22.out.trans (N0.out.mono hws)) (Nat.le_refl _)); have V0 : Hid (WI u0 g w.heap.size [] 0) := ⟨by omega, _, G0.out, OwnZ.nil _ _ _ _⟩; clear f1 f2 f3 f4 f5 f6 f7 f8 f9; obtain ⟨f1, f2, f3, f4, f5, f6, f7, f8, f9⟩ := FL.out _ _ Z0.out)
      | fail)
    have F1 := Lib.hid (D1.out _ _ V0.out)
    go_wp2_with fail
    refine F1.out.mono ?_
    rintro e u1 ⟨rfl, p1, p2⟩
    have V1 := Lib.hid p1
    have K1 := Lib.hid (K0.out.trans p2)
    have Z1 := Lib.hid (p2.blk Z0.out (by decide) hzg)
    obtain ⟨c1_1, c1_2, c1_3, c1_4, c1_5, c1_6, c1_7, c1_8, c1_9⟩ := FL.out _ _ Z1.out
    clear p1 p2 F1 V0
    have FE := Lib.hid (DE.out _ _ V1.out)
    go_wp2_with fail
    refine FE.out.mono ?_
    rintro e ue ⟨v, rfl, p1, p2⟩
    have OE := Lib.hid p1
    have LE := Lib.hid (K1.out.below.trans (p2.mono (by have := K1.out.below.size; omega)))
    clear p1 p2 FE
    go_wp2
    go_ret2
    exact HQ.out _ _ _ rfl OE.out LE.out
  · subst h14
    have D1 : Hid (∀ (w' : World) (g : Nat), WI w' g w.heap.size ([]) (0) → Calls Tryd.prog 30 #[.pointer (some ⟨g, 0, none⟩), .int .u64 a.file] w' fun e w2 => e = .returned (.tuple #[]) ∧ WI w2 g w.heap.size ([] ++ le a.file 8) (0) ∧ WKeep g w.heap.size w' w2) := fun w' g h => weight_any w' g _ _ _ a.file h bf (by have h1 := rp; have h2 := ra; have h3 := rn; simp only [List.length_append, le_length, List.length_replicate, List.length_nil]; omega)
    have D2 : Hid (∀ (w' : World) (g : Nat), WI w' g w.heap.size ([] ++ le a.file 8) (0) → Calls Tryd.prog 31 #[.pointer (some ⟨g, 0, none⟩), .int .u64 a.most] w' fun e w2 => e = .returned (.tuple #[]) ∧ WI w2 g w.heap.size ([] ++ le a.file 8 ++ le a.most 2) (0) ∧ WKeep g w.heap.size w' w2) := fun w' g h => wtwo_any w' g _ _ _ a.most h bm (by have h1 := rp; have h2 := ra; have h3 := rn; simp only [List.length_append, le_length, List.length_replicate, List.length_nil]; omega)
    have D3 : Hid (∀ (w' : World) (g : Nat), WI w' g w.heap.size ([] ++ le a.file 8 ++ le a.most 2) (0) → Calls Tryd.prog 32 #[.pointer (some ⟨g, 0, none⟩), .int .i64 2] w' fun e w2 => e = .returned (.tuple #[]) ∧ WI w2 g w.heap.size ([] ++ le a.file 8 ++ le a.most 2 ++ List.replicate 2 0) (0) ∧ WKeep g w.heap.size w' w2) := fun w' g h => wnought_any w' g _ _ _ 2 h (by decide) (by decide) (by have h1 := rp; have h2 := ra; have h3 := rn; simp only [List.length_append, le_length, List.length_replicate, List.length_nil]; omega)
    have D4 : Hid (∀ (w' : World) (g : Nat), TabsB w.heap.size w' → WI w' g w.heap.size ([] ++ le a.file 8 ++ le a.most 2 ++ List.replicate 2 0) (0) → Calls Tryd.prog 33 #[.pointer (some ⟨g, 0, none⟩), .string a.pat] w' fun e w2 => e = .returned (.tuple #[]) ∧ WI w2 g w.heap.size ([] ++ le a.file 8 ++ le a.most 2 ++ List.replicate 2 0 ++ ptextOf a.pat.data.toList) (ptextErr a.pat.data.toList) ∧ WKeep g w.heap.size w' w2) := fun w' g ht h => by have h1 := wtext_any w' g _ _ _ a.pat h hn2 ht (by have h1 := rp; have h2 := ra; have h3 := rn; simp only [List.length_append, le_length, List.length_replicate, List.length_nil]; omega); rw [if_pos rfl] at h1; exact h1
    have D5 : Hid (∀ (w' : World) (g : Nat), TabsB w.heap.size w' → WI w' g w.heap.size ([] ++ le a.file 8 ++ le a.most 2 ++ List.replicate 2 0 ++ ptextOf a.pat.data.toList) ((ptextErr a.pat.data.toList)) → Calls Tryd.prog 33 #[.pointer (some ⟨g, 0, none⟩), .string a.aft] w' fun e w2 => e = .returned (.tuple #[]) ∧ WI w2 g w.heap.size ([] ++ le a.file 8 ++ le a.most 2 ++ List.replicate 2 0 ++ ptextOf a.pat.data.toList ++ ptextOf a.aft.data.toList) (if (ptextErr a.pat.data.toList) = 0 then ptextErr a.aft.data.toList else (ptextErr a.pat.data.toList)) ∧ WKeep g w.heap.size w' w2) := fun w' g ht h => wtext_any w' g _ _ _ a.aft h hn3 ht (by have h1 := rp; have h2 := ra; have h3 := rn; simp only [List.length_append, le_length, List.length_replicate, List.length_nil]; omega)
    have DE : Hid (∀ (w' : World) (g : Nat), WI w' g w.heap.size ([] ++ le a.file 8 ++ le a.most 2 ++ List.replicate 2 0 ++ ptextOf a.pat.data.toList ++ ptextOf a.aft.data.toList) (if (ptextErr a.pat.data.toList) = 0 then ptextErr a.aft.data.toList else (ptextErr a.pat.data.toList)) → Calls Tryd.prog 36 #[.pointer (some ⟨g, 0, none⟩)] w' fun e w2 => ∃ v, e = .returned (.tuple #[v, .int .i64 (if (ptextErr a.pat.data.toList) = 0 then ptextErr a.aft.data.toList else (ptextErr a.pat.data.toList))]) ∧ OwnZ .u8 5 w2 w.heap.size v (if (if (ptextErr a.pat.data.toList) = 0 then ptextErr a.aft.data.toList else (ptextErr a.pat.data.toList)) = 0 then [] ++ le a.file 8 ++ le a.most 2 ++ List.replicate 2 0 ++ ptextOf a.pat.data.toList ++ ptextOf a.aft.data.toList else []) ∧ Below w'.heap.size w' w2) := fun w' g h => wend_any w' g w.heap.size _ _ h
    have hbd : [] ++ le a.file 8 ++ le a.most 2 ++ List.replicate 2 0 ++ ptextOf a.pat.data.toList ++ ptextOf a.aft.data.toList = bodyI 14 a := by unfold bodyI; rw [if_pos rfl]; simp only [List.nil_append, List.append_assoc]
    have her : ipErr 14 a = (if (ptextErr a.pat.data.toList) = 0 then ptextErr a.aft.data.toList else (ptextErr a.pat.data.toList)) := by unfold ipErr; rw [if_pos hnm, if_pos rfl]
    have HQ : Hid (∀ (v : Value) (e : Ending) (w' : World), e = .returned (.tuple #[v, .int .i64 (if (ptextErr a.pat.data.toList) = 0 then ptextErr a.aft.data.toList else (ptextErr a.pat.data.toList))]) → OwnZ .u8 5 w' w.heap.size v (if (if (ptextErr a.pat.data.toList) = 0 then ptextErr a.aft.data.toList else (ptextErr a.pat.data.toList)) = 0 then [] ++ le a.file 8 ++ le a.most 2 ++ List.replicate 2 0 ++ ptextOf a.pat.data.toList ++ ptextOf a.aft.data.toList else []) → Below w.heap.size w w' → IPAskPost w 14 a e w') := by
      intro v e w' h1 h2 h3
      refine ⟨v, by rw [her]; exact h1, ?_, h3⟩
      unfold ipOf
      rw [her, ← hbd]
      exact h2
    obtain ⟨y5, hy5⟩ : ∃ y : List Int, y = [] ++ le a.file 8 ++ le a.most 2 ++ List.replicate 2 0 ++ ptextOf a.pat.data.toList ++ ptextOf a.aft.data.toList := ⟨_, rfl⟩
    rw [← hy5] at D5 DE HQ
    obtain ⟨y4, hy4⟩ : ∃ y : List Int, y = [] ++ le a.file 8 ++ le a.most 2 ++ List.replicate 2 0 ++ ptextOf a.pat.data.toList := ⟨_, rfl⟩
    rw [← hy4] at D4 D5
    obtain ⟨y3, hy3⟩ : ∃ y : List Int, y = [] ++ le a.file 8 ++ le a.most 2 ++ List.replicate 2 0 := ⟨_, rfl⟩
    rw [← hy3] at D3 D4
    obtain ⟨y2, hy2⟩ : ∃ y : List Int, y = [] ++ le a.file 8 ++ le a.most 2 := ⟨_, rfl⟩
    rw [← hy2] at D2 D3
    obtain ⟨y1, hy1⟩ : ∃ y : List Int, y = [] ++ le a.file 8 := ⟨_, rfl⟩
    rw [← hy1] at D1 D2
    obtain ⟨er5, her5⟩ : ∃ y : Int, y = (if (ptextErr a.pat.data.toList) = 0 then ptextErr a.aft.data.toList else (ptextErr a.pat.data.toList)) := ⟨_, rfl⟩
    try rw [← her5] at D5
    try rw [← her5] at DE
    try rw [← her5] at HQ
    obtain ⟨er4, her4⟩ : ∃ y : Int, y = (ptextErr a.pat.data.toList) := ⟨_, rfl⟩
    try rw [← her4] at D4
    try rw [← her4] at D5
    try rw [← her4] at DE
    try rw [← her4] at HQ
    clear her5
    clear her4
    clear hy1
    clear hy2
    clear hy3
    clear hy4
    clear hy5
    clear hk hnm hcl her hbd ka ha hT hu hc
    go_enter Tryd.func11, Tryd.ntmps11
    go_wp2_with (first
      | ((with_reducible show wpList _ _ _ (⟨some 3, _, _, _, _, _⟩ :: _) _ _); refine wpList_box_blk rfl _ (.tmp 1) rfl cs rfl ?_; intro z w1 hz1 hz2 Z1 L1)
      | ((with_reducible show wpList _ _ _ (⟨some 8, _, _, _, _, _⟩ :: _) _ _); refine wpList_load_blk rfl _ (.tmp 3) rfl z rfl _ cs Z1 69 _ Tryd.underlying32 rfl size_ask HL ?_)
      | fail)
    refine (CN.out w1 L1.out).mono ?_
    rintro e w2 ⟨rfl, L2⟩
    have Z2 := Lib.hid (Z1.out.over L2)
    have L22 := Lib.hid (step L1.out L2)
    have hzs : z < w2.heap.size := Z2.out.lt
    clear L2 Z1 L1 CN
    have hws := L22.out.size
    obtain ⟨f1, f2, f3, f4, f5, f6, f7, f8, f9⟩ := FL.out _ _ Z2.out
    go_wp2_with (first
      | ((with_reducible show wpList _ _ _ (⟨some 6, _, _, _, _, _⟩ :: _) _ _); refine wpList_alloc_blk rfl _ rfl _ _ ZW ?_; intro g u0 hg1 hg2 G0 N0; have hzg : z ≠ g := (by omega); have Z0 := Lib.hid (Z2.out.over N0.out); have K0 : Hid (WKeep g w.heap.size w u0) := (WKeep.of_below (L22.out.trans (N0.out.mono hws)) (Nat.le_refl _)); have V0 : Hid (WI u0 g w.heap.size [] 0) := ⟨by omega, _, G0.out, OwnZ.nil _ _ _ _⟩; clear f1 f2 f3 f4 f5 f6 f7 f8 f9; obtain ⟨f1, f2, f3, f4, f5, f6, f7, f8, f9⟩ := FL.out _ _ Z0.out)
      | fail)
    have F1 := Lib.hid (D1.out _ _ V0.out)
    go_wp2_with fail
    refine F1.out.mono ?_
    rintro e u1 ⟨rfl, p1, p2⟩
    have V1 := Lib.hid p1
    have K1 := Lib.hid (K0.out.trans p2)
    have Z1 := Lib.hid (p2.blk Z0.out (by decide) hzg)
    obtain ⟨c1_1, c1_2, c1_3, c1_4, c1_5, c1_6, c1_7, c1_8, c1_9⟩ := FL.out _ _ Z1.out
    clear p1 p2 F1 V0
    have F2 := Lib.hid (D2.out _ _ V1.out)
    go_wp2_with fail
    refine F2.out.mono ?_
    rintro e u2 ⟨rfl, p1, p2⟩
    have V2 := Lib.hid p1
    have K2 := Lib.hid (K1.out.trans p2)
    have Z2 := Lib.hid (p2.blk Z1.out (by decide) hzg)
    obtain ⟨c2_1, c2_2, c2_3, c2_4, c2_5, c2_6, c2_7, c2_8, c2_9⟩ := FL.out _ _ Z2.out
    clear p1 p2 F2 V1
    have F3 := Lib.hid (D3.out _ _ V2.out)
    go_wp2_with fail
    refine F3.out.mono ?_
    rintro e u3 ⟨rfl, p1, p2⟩
    have V3 := Lib.hid p1
    have K3 := Lib.hid (K2.out.trans p2)
    have Z3 := Lib.hid (p2.blk Z2.out (by decide) hzg)
    obtain ⟨c3_1, c3_2, c3_3, c3_4, c3_5, c3_6, c3_7, c3_8, c3_9⟩ := FL.out _ _ Z3.out
    clear p1 p2 F3 V2
    have F4 := Lib.hid (D4.out _ _ (HT.out.next K3.out.below) V3.out)
    go_wp2_with fail
    refine F4.out.mono ?_
    rintro e u4 ⟨rfl, p1, p2⟩
    have V4 := Lib.hid p1
    have K4 := Lib.hid (K3.out.trans p2)
    have Z4 := Lib.hid (p2.blk Z3.out (by decide) hzg)
    obtain ⟨c4_1, c4_2, c4_3, c4_4, c4_5, c4_6, c4_7, c4_8, c4_9⟩ := FL.out _ _ Z4.out
    clear p1 p2 F4 V3
    have F5 := Lib.hid (D5.out _ _ (HT.out.next K4.out.below) V4.out)
    go_wp2_with fail
    refine F5.out.mono ?_
    rintro e u5 ⟨rfl, p1, p2⟩
    have V5 := Lib.hid p1
    have K5 := Lib.hid (K4.out.trans p2)
    have Z5 := Lib.hid (p2.blk Z4.out (by decide) hzg)
    obtain ⟨c5_1, c5_2, c5_3, c5_4, c5_5, c5_6, c5_7, c5_8, c5_9⟩ := FL.out _ _ Z5.out
    clear p1 p2 F5 V4
    have FE := Lib.hid (DE.out _ _ V5.out)
    go_wp2_with fail
    refine FE.out.mono ?_
    rintro e ue ⟨v, rfl, p1, p2⟩
    have OE := Lib.hid p1
    have LE := Lib.hid (K5.out.below.trans (p2.mono (by have := K5.out.below.size; omega)))
    clear p1 p2 FE
    go_wp2
    go_ret2
    exact HQ.out _ _ _ rfl OE.out LE.out
  · subst h16
    have D1 : Hid (∀ (w' : World) (g : Nat), WI w' g w.heap.size ([]) (0) → Calls Tryd.prog 30 #[.pointer (some ⟨g, 0, none⟩), .int .u64 a.file] w' fun e w2 => e = .returned (.tuple #[]) ∧ WI w2 g w.heap.size ([] ++ le a.file 8) (0) ∧ WKeep g w.heap.size w' w2) := fun w' g h => weight_any w' g _ _ _ a.file h bf (by have h1 := rp; have h2 := ra; have h3 := rn; simp only [List.length_append, le_length, List.length_replicate, List.length_nil]; omega)
    have DE : Hid (∀ (w' : World) (g : Nat), WI w' g w.heap.size ([] ++ le a.file 8) 0 → Calls Tryd.prog 36 #[.pointer (some ⟨g, 0, none⟩)] w' fun e w2 => ∃ v, e = .returned (.tuple #[v, .int .i64 0]) ∧ OwnZ .u8 5 w2 w.heap.size v (if 0 = 0 then [] ++ le a.file 8 else []) ∧ Below w'.heap.size w' w2) := fun w' g h => wend_any w' g w.heap.size _ _ h
    have hbd : [] ++ le a.file 8 = bodyI 16 a := by unfold bodyI; rw [if_neg (by decide), if_pos rfl, List.nil_append]
    have her : ipErr 16 a = 0 := by unfold ipErr; rw [if_pos hnm, if_neg (by decide), if_neg (fun h => absurd h.1 (by decide))]
    have HQ : Hid (∀ (v : Value) (e : Ending) (w' : World), e = .returned (.tuple #[v, .int .i64 0]) → OwnZ .u8 5 w' w.heap.size v (if 0 = 0 then [] ++ le a.file 8 else []) → Below w.heap.size w w' → IPAskPost w 16 a e w') := by
      intro v e w' h1 h2 h3
      refine ⟨v, by rw [her]; exact h1, ?_, h3⟩
      unfold ipOf
      rw [her, ← hbd]
      exact h2
    obtain ⟨y1, hy1⟩ : ∃ y : List Int, y = [] ++ le a.file 8 := ⟨_, rfl⟩
    rw [← hy1] at D1 DE HQ
    clear hy1
    clear hk hnm hcl her hbd ka ha hT hu hc
    go_enter Tryd.func11, Tryd.ntmps11
    go_wp2_with (first
      | ((with_reducible show wpList _ _ _ (⟨some 3, _, _, _, _, _⟩ :: _) _ _); refine wpList_box_blk rfl _ (.tmp 1) rfl cs rfl ?_; intro z w1 hz1 hz2 Z1 L1)
      | ((with_reducible show wpList _ _ _ (⟨some 8, _, _, _, _, _⟩ :: _) _ _); refine wpList_load_blk rfl _ (.tmp 3) rfl z rfl _ cs Z1 69 _ Tryd.underlying32 rfl size_ask HL ?_)
      | fail)
    refine (CN.out w1 L1.out).mono ?_
    rintro e w2 ⟨rfl, L2⟩
    have Z2 := Lib.hid (Z1.out.over L2)
    have L22 := Lib.hid (step L1.out L2)
    have hzs : z < w2.heap.size := Z2.out.lt
    clear L2 Z1 L1 CN
    have hws := L22.out.size
    obtain ⟨f1, f2, f3, f4, f5, f6, f7, f8, f9⟩ := FL.out _ _ Z2.out
    go_wp2_with (first
      | ((with_reducible show wpList _ _ _ (⟨some 6, _, _, _, _, _⟩ :: _) _ _); refine wpList_alloc_blk rfl _ rfl _ _ ZW ?_; intro g u0 hg1 hg2 G0 N0; have hzg : z ≠ g := (by omega); have Z0 := Lib.hid (Z2.out.over N0.out); have K0 : Hid (WKeep g w.heap.size w u0) := (WKeep.of_below (L22.out.trans (N0.out.mono hws)) (Nat.le_refl _)); have V0 : Hid (WI u0 g w.heap.size [] 0) := ⟨by omega, _, G0.out, OwnZ.nil _ _ _ _⟩; clear f1 f2 f3 f4 f5 f6 f7 f8 f9; obtain ⟨f1, f2, f3, f4, f5, f6, f7, f8, f9⟩ := FL.out _ _ Z0.out)
      | fail)
    have F1 := Lib.hid (D1.out _ _ V0.out)
    go_wp2_with fail
    refine F1.out.mono ?_
    rintro e u1 ⟨rfl, p1, p2⟩
    have V1 := Lib.hid p1
    have K1 := Lib.hid (K0.out.trans p2)
    have Z1 := Lib.hid (p2.blk Z0.out (by decide) hzg)
    obtain ⟨c1_1, c1_2, c1_3, c1_4, c1_5, c1_6, c1_7, c1_8, c1_9⟩ := FL.out _ _ Z1.out
    clear p1 p2 F1 V0
    have FE := Lib.hid (DE.out _ _ V1.out)
    go_wp2_with fail
    refine FE.out.mono ?_
    rintro e ue ⟨v, rfl, p1, p2⟩
    have OE := Lib.hid p1
    have LE := Lib.hid (K1.out.below.trans (p2.mono (by have := K1.out.below.size; omega)))
    clear p1 p2 FE
    go_wp2
    go_ret2
    exact HQ.out _ _ _ rfl OE.out LE.out
  · subst h17
    obtain ⟨hc1, hc3⟩ := hcl rfl
    have hcs : a.cls = 1 ∨ a.cls = 2 ∨ a.cls = 3 := by omega
    rcases hcs with q | q | q
    · have D1 : Hid (∀ (w' : World) (g : Nat), WI w' g w.heap.size ([]) (0) → Calls Tryd.prog 30 #[.pointer (some ⟨g, 0, none⟩), .int .u64 a.file] w' fun e w2 => e = .returned (.tuple #[]) ∧ WI w2 g w.heap.size ([] ++ le a.file 8) (0) ∧ WKeep g w.heap.size w' w2) := fun w' g h => weight_any w' g _ _ _ a.file h bf (by have h1 := rp; have h2 := ra; have h3 := rn; simp only [List.length_append, le_length, List.length_replicate, List.length_nil]; omega)
      have D2 : Hid (∀ (w' : World) (g : Nat), WI w' g w.heap.size ([] ++ le a.file 8) (0) → Calls Tryd.prog 31 #[.pointer (some ⟨g, 0, none⟩), .int .u64 1] w' fun e w2 => e = .returned (.tuple #[]) ∧ WI w2 g w.heap.size ([] ++ le a.file 8 ++ le 1 2) (0) ∧ WKeep g w.heap.size w' w2) := fun w' g h => wtwo_any w' g _ _ _ 1 h ⟨by decide, by decide⟩ (by have h1 := rp; have h2 := ra; have h3 := rn; simp only [List.length_append, le_length, List.length_replicate, List.length_nil]; omega)
      have D3 : Hid (∀ (w' : World) (g : Nat), WI w' g w.heap.size ([] ++ le a.file 8 ++ le 1 2) (0) → Calls Tryd.prog 30 #[.pointer (some ⟨g, 0, none⟩), .int .u64 a.siz] w' fun e w2 => e = .returned (.tuple #[]) ∧ WI w2 g w.heap.size ([] ++ le a.file 8 ++ le 1 2 ++ le a.siz 8) (0) ∧ WKeep g w.heap.size w' w2) := fun w' g h => weight_any w' g _ _ _ a.siz h bs (by have h1 := rp; have h2 := ra; have h3 := rn; simp only [List.length_append, le_length, List.length_replicate, List.length_nil]; omega)
      have DE : Hid (∀ (w' : World) (g : Nat), WI w' g w.heap.size ([] ++ le a.file 8 ++ le 1 2 ++ le a.siz 8) 0 → Calls Tryd.prog 36 #[.pointer (some ⟨g, 0, none⟩)] w' fun e w2 => ∃ v, e = .returned (.tuple #[v, .int .i64 0]) ∧ OwnZ .u8 5 w2 w.heap.size v (if 0 = 0 then [] ++ le a.file 8 ++ le 1 2 ++ le a.siz 8 else []) ∧ Below w'.heap.size w' w2) := fun w' g h => wend_any w' g w.heap.size _ _ h
      rw [q] at FL
      have hbd : [] ++ le a.file 8 ++ le 1 2 ++ le a.siz 8 = bodyI 17 a := by unfold bodyI; rw [if_neg (by decide), if_neg (by decide), if_pos rfl, if_pos q]; simp only [List.nil_append, List.append_assoc, q]
      have her : ipErr 17 a = 0 := by unfold ipErr; rw [if_pos hnm, if_neg (by decide), if_neg (fun h => by have := h.2; omega)]
      have HQ : Hid (∀ (v : Value) (e : Ending) (w' : World), e = .returned (.tuple #[v, .int .i64 0]) → OwnZ .u8 5 w' w.heap.size v (if 0 = 0 then [] ++ le a.file 8 ++ le 1 2 ++ le a.siz 8 else []) → Below w.heap.size w w' → IPAskPost w 17 a e w') := by
        intro v e w' h1 h2 h3
        refine ⟨v, by rw [her]; exact h1, ?_, h3⟩
        unfold ipOf
        rw [her, ← hbd]
        exact h2
      obtain ⟨y3, hy3⟩ : ∃ y : List Int, y = [] ++ le a.file 8 ++ le 1 2 ++ le a.siz 8 := ⟨_, rfl⟩
      rw [← hy3] at D3 DE HQ
      obtain ⟨y2, hy2⟩ : ∃ y : List Int, y = [] ++ le a.file 8 ++ le 1 2 := ⟨_, rfl⟩
      rw [← hy2] at D2 D3
      obtain ⟨y1, hy1⟩ : ∃ y : List Int, y = [] ++ le a.file 8 := ⟨_, rfl⟩
      rw [← hy1] at D1 D2
      clear hy1
      clear hy2
      clear hy3
      clear hk hnm hcl her hbd ka ha hT hu hc
      go_enter Tryd.func11, Tryd.ntmps11
      go_wp2_with (first
        | ((with_reducible show wpList _ _ _ (⟨some 3, _, _, _, _, _⟩ :: _) _ _); refine wpList_box_blk rfl _ (.tmp 1) rfl cs rfl ?_; intro z w1 hz1 hz2 Z1 L1)
        | ((with_reducible show wpList _ _ _ (⟨some 8, _, _, _, _, _⟩ :: _) _ _); refine wpList_load_blk rfl _ (.tmp 3) rfl z rfl _ cs Z1 69 _ Tryd.underlying32 rfl size_ask HL ?_)
        | fail)
      refine (CN.out w1 L1.out).mono ?_
      rintro e w2 ⟨rfl, L2⟩
      have Z2 := Lib.hid (Z1.out.over L2)
      have L22 := Lib.hid (step L1.out L2)
      have hzs : z < w2.heap.size := Z2.out.lt
      clear L2 Z1 L1 CN
      have hws := L22.out.size
      obtain ⟨f1, f2, f3, f4, f5, f6, f7, f8, f9⟩ := FL.out _ _ Z2.out
      go_wp2_with (first
        | ((with_reducible show wpList _ _ _ (⟨some 6, _, _, _, _, _⟩ :: _) _ _); refine wpList_alloc_blk rfl _ rfl _ _ ZW ?_; intro g u0 hg1 hg2 G0 N0; have hzg : z ≠ g := (by omega); have Z0 := Lib.hid (Z2.out.over N0.out); have K0 : Hid (WKeep g w.heap.size w u0) := (WKeep.of_below (L22.out.trans (N0.out.mono hws)) (Nat.le_refl _)); have V0 : Hid (WI u0 g w.heap.size [] 0) := ⟨by omega, _, G0.out, OwnZ.nil _ _ _ _⟩; clear f1 f2 f3 f4 f5 f6 f7 f8 f9; obtain ⟨f1, f2, f3, f4, f5, f6, f7, f8, f9⟩ := FL.out _ _ Z0.out)
        | fail)
      have F1 := Lib.hid (D1.out _ _ V0.out)
      go_wp2_with fail
      refine F1.out.mono ?_
      rintro e u1 ⟨rfl, p1, p2⟩
      have V1 := Lib.hid p1
      have K1 := Lib.hid (K0.out.trans p2)
      have Z1 := Lib.hid (p2.blk Z0.out (by decide) hzg)
      obtain ⟨c1_1, c1_2, c1_3, c1_4, c1_5, c1_6, c1_7, c1_8, c1_9⟩ := FL.out _ _ Z1.out
      clear p1 p2 F1 V0
      have F2 := Lib.hid (D2.out _ _ V1.out)
      go_wp2_with fail
      refine F2.out.mono ?_
      rintro e u2 ⟨rfl, p1, p2⟩
      have V2 := Lib.hid p1
      have K2 := Lib.hid (K1.out.trans p2)
      have Z2 := Lib.hid (p2.blk Z1.out (by decide) hzg)
      obtain ⟨c2_1, c2_2, c2_3, c2_4, c2_5, c2_6, c2_7, c2_8, c2_9⟩ := FL.out _ _ Z2.out
      clear p1 p2 F2 V1
      have F3 := Lib.hid (D3.out _ _ V2.out)
      go_wp2_with fail
      refine F3.out.mono ?_
      rintro e u3 ⟨rfl, p1, p2⟩
      have V3 := Lib.hid p1
      have K3 := Lib.hid (K2.out.trans p2)
      have Z3 := Lib.hid (p2.blk Z2.out (by decide) hzg)
      obtain ⟨c3_1, c3_2, c3_3, c3_4, c3_5, c3_6, c3_7, c3_8, c3_9⟩ := FL.out _ _ Z3.out
      clear p1 p2 F3 V2
      have FE := Lib.hid (DE.out _ _ V3.out)
      go_wp2_with fail
      refine FE.out.mono ?_
      rintro e ue ⟨v, rfl, p1, p2⟩
      have OE := Lib.hid p1
      have LE := Lib.hid (K3.out.below.trans (p2.mono (by have := K3.out.below.size; omega)))
      clear p1 p2 FE
      go_wp2
      go_ret2
      exact HQ.out _ _ _ rfl OE.out LE.out
    · have D1 : Hid (∀ (w' : World) (g : Nat), WI w' g w.heap.size ([]) (0) → Calls Tryd.prog 30 #[.pointer (some ⟨g, 0, none⟩), .int .u64 a.file] w' fun e w2 => e = .returned (.tuple #[]) ∧ WI w2 g w.heap.size ([] ++ le a.file 8) (0) ∧ WKeep g w.heap.size w' w2) := fun w' g h => weight_any w' g _ _ _ a.file h bf (by have h1 := rp; have h2 := ra; have h3 := rn; simp only [List.length_append, le_length, List.length_replicate, List.length_nil]; omega)
      have D2 : Hid (∀ (w' : World) (g : Nat), WI w' g w.heap.size ([] ++ le a.file 8) (0) → Calls Tryd.prog 31 #[.pointer (some ⟨g, 0, none⟩), .int .u64 2] w' fun e w2 => e = .returned (.tuple #[]) ∧ WI w2 g w.heap.size ([] ++ le a.file 8 ++ le 2 2) (0) ∧ WKeep g w.heap.size w' w2) := fun w' g h => wtwo_any w' g _ _ _ 2 h ⟨by decide, by decide⟩ (by have h1 := rp; have h2 := ra; have h3 := rn; simp only [List.length_append, le_length, List.length_replicate, List.length_nil]; omega)
      have D3 : Hid (∀ (w' : World) (g : Nat), WI w' g w.heap.size ([] ++ le a.file 8 ++ le 2 2) (0) → Calls Tryd.prog 31 #[.pointer (some ⟨g, 0, none⟩), .int .u64 (truthI a.on)] w' fun e w2 => e = .returned (.tuple #[]) ∧ WI w2 g w.heap.size ([] ++ le a.file 8 ++ le 2 2 ++ le (truthI a.on) 2) (0) ∧ WKeep g w.heap.size w' w2) := fun w' g h => wtwo_any w' g _ _ _ (truthI a.on) h bo (by have h1 := rp; have h2 := ra; have h3 := rn; simp only [List.length_append, le_length, List.length_replicate, List.length_nil]; omega)
      have DE : Hid (∀ (w' : World) (g : Nat), WI w' g w.heap.size ([] ++ le a.file 8 ++ le 2 2 ++ le (truthI a.on) 2) 0 → Calls Tryd.prog 36 #[.pointer (some ⟨g, 0, none⟩)] w' fun e w2 => ∃ v, e = .returned (.tuple #[v, .int .i64 0]) ∧ OwnZ .u8 5 w2 w.heap.size v (if 0 = 0 then [] ++ le a.file 8 ++ le 2 2 ++ le (truthI a.on) 2 else []) ∧ Below w'.heap.size w' w2) := fun w' g h => wend_any w' g w.heap.size _ _ h
      rw [q] at FL
      have hbd : [] ++ le a.file 8 ++ le 2 2 ++ le (truthI a.on) 2 = bodyI 17 a := by unfold bodyI; rw [if_neg (by decide), if_neg (by decide), if_pos rfl, if_neg (by omega), if_pos q]; simp only [List.nil_append, List.append_assoc, q]
      have her : ipErr 17 a = 0 := by unfold ipErr; rw [if_pos hnm, if_neg (by decide), if_neg (fun h => by have := h.2; omega)]
      have HQ : Hid (∀ (v : Value) (e : Ending) (w' : World), e = .returned (.tuple #[v, .int .i64 0]) → OwnZ .u8 5 w' w.heap.size v (if 0 = 0 then [] ++ le a.file 8 ++ le 2 2 ++ le (truthI a.on) 2 else []) → Below w.heap.size w w' → IPAskPost w 17 a e w') := by
        intro v e w' h1 h2 h3
        refine ⟨v, by rw [her]; exact h1, ?_, h3⟩
        unfold ipOf
        rw [her, ← hbd]
        exact h2
      obtain ⟨y3, hy3⟩ : ∃ y : List Int, y = [] ++ le a.file 8 ++ le 2 2 ++ le (truthI a.on) 2 := ⟨_, rfl⟩
      rw [← hy3] at D3 DE HQ
      obtain ⟨y2, hy2⟩ : ∃ y : List Int, y = [] ++ le a.file 8 ++ le 2 2 := ⟨_, rfl⟩
      rw [← hy2] at D2 D3
      obtain ⟨y1, hy1⟩ : ∃ y : List Int, y = [] ++ le a.file 8 := ⟨_, rfl⟩
      rw [← hy1] at D1 D2
      clear hy1
      clear hy2
      clear hy3
      clear hk hnm hcl her hbd ka ha hT hu hc
      go_enter Tryd.func11, Tryd.ntmps11
      go_wp2_with (first
        | ((with_reducible show wpList _ _ _ (⟨some 3, _, _, _, _, _⟩ :: _) _ _); refine wpList_box_blk rfl _ (.tmp 1) rfl cs rfl ?_; intro z w1 hz1 hz2 Z1 L1)
        | ((with_reducible show wpList _ _ _ (⟨some 8, _, _, _, _, _⟩ :: _) _ _); refine wpList_load_blk rfl _ (.tmp 3) rfl z rfl _ cs Z1 69 _ Tryd.underlying32 rfl size_ask HL ?_)
        | fail)
      refine (CN.out w1 L1.out).mono ?_
      rintro e w2 ⟨rfl, L2⟩
      have Z2 := Lib.hid (Z1.out.over L2)
      have L22 := Lib.hid (step L1.out L2)
      have hzs : z < w2.heap.size := Z2.out.lt
      clear L2 Z1 L1 CN
      have hws := L22.out.size
      obtain ⟨f1, f2, f3, f4, f5, f6, f7, f8, f9⟩ := FL.out _ _ Z2.out
      go_wp2_with (first
        | ((with_reducible show wpList _ _ _ (⟨some 6, _, _, _, _, _⟩ :: _) _ _); refine wpList_alloc_blk rfl _ rfl _ _ ZW ?_; intro g u0 hg1 hg2 G0 N0; have hzg : z ≠ g := (by omega); have Z0 := Lib.hid (Z2.out.over N0.out); have K0 : Hid (WKeep g w.heap.size w u0) := (WKeep.of_below (L22.out.trans (N0.out.mono hws)) (Nat.le_refl _)); have V0 : Hid (WI u0 g w.heap.size [] 0) := ⟨by omega, _, G0.out, OwnZ.nil _ _ _ _⟩; clear f1 f2 f3 f4 f5 f6 f7 f8 f9; obtain ⟨f1, f2, f3, f4, f5, f6, f7, f8, f9⟩ := FL.out _ _ Z0.out)
        | fail)
      have F1 := Lib.hid (D1.out _ _ V0.out)
      go_wp2_with fail
      refine F1.out.mono ?_
      rintro e u1 ⟨rfl, p1, p2⟩
      have V1 := Lib.hid p1
      have K1 := Lib.hid (K0.out.trans p2)
      have Z1 := Lib.hid (p2.blk Z0.out (by decide) hzg)
      obtain ⟨c1_1, c1_2, c1_3, c1_4, c1_5, c1_6, c1_7, c1_8, c1_9⟩ := FL.out _ _ Z1.out
      clear p1 p2 F1 V0
      have F2 := Lib.hid (D2.out _ _ V1.out)
      go_wp2_with fail
      refine F2.out.mono ?_
      rintro e u2 ⟨rfl, p1, p2⟩
      have V2 := Lib.hid p1
      have K2 := Lib.hid (K1.out.trans p2)
      have Z2 := Lib.hid (p2.blk Z1.out (by decide) hzg)
      obtain ⟨c2_1, c2_2, c2_3, c2_4, c2_5, c2_6, c2_7, c2_8, c2_9⟩ := FL.out _ _ Z2.out
      clear p1 p2 F2 V1
      go_wp2_with fail
      refine (CT.out _ _).mono ?_
      rintro e wt ⟨rfl, rfl⟩
      have F3 := Lib.hid (D3.out _ _ V2.out)
      go_wp2_with fail
      refine F3.out.mono ?_
      rintro e u3 ⟨rfl, p1, p2⟩
      have V3 := Lib.hid p1
      have K3 := Lib.hid (K2.out.trans p2)
      have Z3 := Lib.hid (p2.blk Z2.out (by decide) hzg)
      obtain ⟨c3_1, c3_2, c3_3, c3_4, c3_5, c3_6, c3_7, c3_8, c3_9⟩ := FL.out _ _ Z3.out
      clear p1 p2 F3 V2
      have FE := Lib.hid (DE.out _ _ V3.out)
      go_wp2_with fail
      refine FE.out.mono ?_
      rintro e ue ⟨v, rfl, p1, p2⟩
      have OE := Lib.hid p1
      have LE := Lib.hid (K3.out.below.trans (p2.mono (by have := K3.out.below.size; omega)))
      clear p1 p2 FE
      go_wp2
      go_ret2
      exact HQ.out _ _ _ rfl OE.out LE.out
    · have D1 : Hid (∀ (w' : World) (g : Nat), WI w' g w.heap.size ([]) (0) → Calls Tryd.prog 30 #[.pointer (some ⟨g, 0, none⟩), .int .u64 a.file] w' fun e w2 => e = .returned (.tuple #[]) ∧ WI w2 g w.heap.size ([] ++ le a.file 8) (0) ∧ WKeep g w.heap.size w' w2) := fun w' g h => weight_any w' g _ _ _ a.file h bf (by have h1 := rp; have h2 := ra; have h3 := rn; simp only [List.length_append, le_length, List.length_replicate, List.length_nil]; omega)
      have D2 : Hid (∀ (w' : World) (g : Nat), WI w' g w.heap.size ([] ++ le a.file 8) (0) → Calls Tryd.prog 31 #[.pointer (some ⟨g, 0, none⟩), .int .u64 3] w' fun e w2 => e = .returned (.tuple #[]) ∧ WI w2 g w.heap.size ([] ++ le a.file 8 ++ le 3 2) (0) ∧ WKeep g w.heap.size w' w2) := fun w' g h => wtwo_any w' g _ _ _ 3 h ⟨by decide, by decide⟩ (by have h1 := rp; have h2 := ra; have h3 := rn; simp only [List.length_append, le_length, List.length_replicate, List.length_nil]; omega)
      have D3 : Hid (∀ (w' : World) (g : Nat), WI w' g w.heap.size ([] ++ le a.file 8 ++ le 3 2) (0) → Calls Tryd.prog 31 #[.pointer (some ⟨g, 0, none⟩), .int .u64 (truthI a.on)] w' fun e w2 => e = .returned (.tuple #[]) ∧ WI w2 g w.heap.size ([] ++ le a.file 8 ++ le 3 2 ++ le (truthI a.on) 2) (0) ∧ WKeep g w.heap.size w' w2) := fun w' g h => wtwo_any w' g _ _ _ (truthI a.on) h bo (by have h1 := rp; have h2 := ra; have h3 := rn; simp only [List.length_append, le_length, List.length_replicate, List.length_nil]; omega)
      have D4 : Hid (∀ (w' : World) (g : Nat), TabsB w.heap.size w' → WI w' g w.heap.size ([] ++ le a.file 8 ++ le 3 2 ++ le (truthI a.on) 2) (0) → Calls Tryd.prog 33 #[.pointer (some ⟨g, 0, none⟩), .string a.name] w' fun e w2 => e = .returned (.tuple #[]) ∧ WI w2 g w.heap.size ([] ++ le a.file 8 ++ le 3 2 ++ le (truthI a.on) 2 ++ ptextOf a.name.data.toList) (ptextErr a.name.data.toList) ∧ WKeep g w.heap.size w' w2) := fun w' g ht h => by have h1 := wtext_any w' g _ _ _ a.name h hn1 ht (by have h1 := rp; have h2 := ra; have h3 := rn; simp only [List.length_append, le_length, List.length_replicate, List.length_nil]; omega); rw [if_pos rfl] at h1; exact h1
      have DE : Hid (∀ (w' : World) (g : Nat), WI w' g w.heap.size ([] ++ le a.file 8 ++ le 3 2 ++ le (truthI a.on) 2 ++ ptextOf a.name.data.toList) (ptextErr a.name.data.toList) → Calls Tryd.prog 36 #[.pointer (some ⟨g, 0, none⟩)] w' fun e w2 => ∃ v, e = .returned (.tuple #[v, .int .i64 (ptextErr a.name.data.toList)]) ∧ OwnZ .u8 5 w2 w.heap.size v (if (ptextErr a.name.data.toList) = 0 then [] ++ le a.file 8 ++ le 3 2 ++ le (truthI a.on) 2 ++ ptextOf a.name.data.toList else []) ∧ Below w'.heap.size w' w2) := fun w' g h => wend_any w' g w.heap.size _ _ h
      rw [q] at FL
      have hbd : [] ++ le a.file 8 ++ le 3 2 ++ le (truthI a.on) 2 ++ ptextOf a.name.data.toList = bodyI 17 a := by unfold bodyI; rw [if_neg (by decide), if_neg (by decide), if_pos rfl, if_neg (by omega), if_neg (by omega)]; simp only [List.nil_append, List.append_assoc, q]
      have her : ipErr 17 a = (ptextErr a.name.data.toList) := by unfold ipErr; rw [if_pos hnm, if_neg (by decide), if_pos ⟨rfl, q⟩]
      have HQ : Hid (∀ (v : Value) (e : Ending) (w' : World), e = .returned (.tuple #[v, .int .i64 (ptextErr a.name.data.toList)]) → OwnZ .u8 5 w' w.heap.size v (if (ptextErr a.name.data.toList) = 0 then [] ++ le a.file 8 ++ le 3 2 ++ le (truthI a.on) 2 ++ ptextOf a.name.data.toList else []) → Below w.heap.size w w' → IPAskPost w 17 a e w') := by
        intro v e w' h1 h2 h3
        refine ⟨v, by rw [her]; exact h1, ?_, h3⟩
        unfold ipOf
        rw [her, ← hbd]
        exact h2
      obtain ⟨y4, hy4⟩ : ∃ y : List Int, y = [] ++ le a.file 8 ++ le 3 2 ++ le (truthI a.on) 2 ++ ptextOf a.name.data.toList := ⟨_, rfl⟩
      rw [← hy4] at D4 DE HQ
      obtain ⟨y3, hy3⟩ : ∃ y : List Int, y = [] ++ le a.file 8 ++ le 3 2 ++ le (truthI a.on) 2 := ⟨_, rfl⟩
      rw [← hy3] at D3 D4
      obtain ⟨y2, hy2⟩ : ∃ y : List Int, y = [] ++ le a.file 8 ++ le 3 2 := ⟨_, rfl⟩
      rw [← hy2] at D2 D3
      obtain ⟨y1, hy1⟩ : ∃ y : List Int, y = [] ++ le a.file 8 := ⟨_, rfl⟩
      rw [← hy1] at D1 D2
      obtain ⟨er4, her4⟩ : ∃ y : Int, y = (ptextErr a.name.data.toList) := ⟨_, rfl⟩
      try rw [← her4] at D4
      try rw [← her4] at DE
      try rw [← her4] at HQ
      clear her4
      clear hy1
      clear hy2
      clear hy3
      clear hy4
      clear hk hnm hcl her hbd ka ha hT hu hc
      go_enter Tryd.func11, Tryd.ntmps11
      go_wp2_with (first
        | ((with_reducible show wpList _ _ _ (⟨some 3, _, _, _, _, _⟩ :: _) _ _); refine wpList_box_blk rfl _ (.tmp 1) rfl cs rfl ?_; intro z w1 hz1 hz2 Z1 L1)
        | ((with_reducible show wpList _ _ _ (⟨some 8, _, _, _, _, _⟩ :: _) _ _); refine wpList_load_blk rfl _ (.tmp 3) rfl z rfl _ cs Z1 69 _ Tryd.underlying32 rfl size_ask HL ?_)
        | fail)
      refine (CN.out w1 L1.out).mono ?_
      rintro e w2 ⟨rfl, L2⟩
      have Z2 := Lib.hid (Z1.out.over L2)
      have L22 := Lib.hid (step L1.out L2)
      have hzs : z < w2.heap.size := Z2.out.lt
      clear L2 Z1 L1 CN
      have hws := L22.out.size
      obtain ⟨f1, f2, f3, f4, f5, f6, f7, f8, f9⟩ := FL.out _ _ Z2.out
      go_wp2_with (first
        | ((with_reducible show wpList _ _ _ (⟨some 6, _, _, _, _, _⟩ :: _) _ _); refine wpList_alloc_blk rfl _ rfl _ _ ZW ?_; intro g u0 hg1 hg2 G0 N0; have hzg : z ≠ g := (by omega); have Z0 := Lib.hid (Z2.out.over N0.out); have K0 : Hid (WKeep g w.heap.size w u0) := (WKeep.of_below (L22.out.trans (N0.out.mono hws)) (Nat.le_refl _)); have V0 : Hid (WI u0 g w.heap.size [] 0) := ⟨by omega, _, G0.out, OwnZ.nil _ _ _ _⟩; clear f1 f2 f3 f4 f5 f6 f7 f8 f9; obtain ⟨f1, f2, f3, f4, f5, f6, f7, f8, f9⟩ := FL.out _ _ Z0.out)
        | fail)
      have F1 := Lib.hid (D1.out _ _ V0.out)
      go_wp2_with fail
      refine F1.out.mono ?_
      rintro e u1 ⟨rfl, p1, p2⟩
      have V1 := Lib.hid p1
      have K1 := Lib.hid (K0.out.trans p2)
      have Z1 := Lib.hid (p2.blk Z0.out (by decide) hzg)
      obtain ⟨c1_1, c1_2, c1_3, c1_4, c1_5, c1_6, c1_7, c1_8, c1_9⟩ := FL.out _ _ Z1.out
      clear p1 p2 F1 V0
      have F2 := Lib.hid (D2.out _ _ V1.out)
      go_wp2_with fail
      refine F2.out.mono ?_
      rintro e u2 ⟨rfl, p1, p2⟩
      have V2 := Lib.hid p1
      have K2 := Lib.hid (K1.out.trans p2)
      have Z2 := Lib.hid (p2.blk Z1.out (by decide) hzg)
      obtain ⟨c2_1, c2_2, c2_3, c2_4, c2_5, c2_6, c2_7, c2_8, c2_9⟩ := FL.out _ _ Z2.out
      clear p1 p2 F2 V1
      go_wp2_with fail
      refine (CT.out _ _).mono ?_
      rintro e wt ⟨rfl, rfl⟩
      have F3 := Lib.hid (D3.out _ _ V2.out)
      go_wp2_with fail
      refine F3.out.mono ?_
      rintro e u3 ⟨rfl, p1, p2⟩
      have V3 := Lib.hid p1
      have K3 := Lib.hid (K2.out.trans p2)
      have Z3 := Lib.hid (p2.blk Z2.out (by decide) hzg)
      obtain ⟨c3_1, c3_2, c3_3, c3_4, c3_5, c3_6, c3_7, c3_8, c3_9⟩ := FL.out _ _ Z3.out
      clear p1 p2 F3 V2
      have F4 := Lib.hid (D4.out _ _ (HT.out.next K3.out.below) V3.out)
      go_wp2_with fail
      refine F4.out.mono ?_
      rintro e u4 ⟨rfl, p1, p2⟩
      have V4 := Lib.hid p1
      have K4 := Lib.hid (K3.out.trans p2)
      have Z4 := Lib.hid (p2.blk Z3.out (by decide) hzg)
      obtain ⟨c4_1, c4_2, c4_3, c4_4, c4_5, c4_6, c4_7, c4_8, c4_9⟩ := FL.out _ _ Z4.out
      clear p1 p2 F4 V3
      have FE := Lib.hid (DE.out _ _ V4.out)
      go_wp2_with fail
      refine FE.out.mono ?_
      rintro e ue ⟨v, rfl, p1, p2⟩
      have OE := Lib.hid p1
      have LE := Lib.hid (K4.out.below.trans (p2.mono (by have := K4.out.below.size; omega)))
      clear p1 p2 FE
      go_wp2
      go_ret2
      exact HQ.out _ _ _ rfl OE.out LE.out
  · subst h18
    have D1 : Hid (∀ (w' : World) (g : Nat), WI w' g w.heap.size ([]) (0) → Calls Tryd.prog 35 #[.pointer (some ⟨g, 0, none⟩), .int .u64 a.file, .int .u8 a.lev] w' fun e w2 => e = .returned (.tuple #[]) ∧ WI w2 g w.heap.size ([] ++ (le a.file 8 ++ (le a.lev 1 ++ List.replicate 3 0))) (0) ∧ WKeep g w.heap.size w' w2) := fun w' g h => wlevel_any w' g _ _ _ a.file a.lev h bf bl (by have h1 := rp; have h2 := ra; have h3 := rn; simp only [List.length_append, le_length, List.length_replicate, List.length_nil]; omega)
    have DE : Hid (∀ (w' : World) (g : Nat), WI w' g w.heap.size ([] ++ (le a.file 8 ++ (le a.lev 1 ++ List.replicate 3 0))) 0 → Calls Tryd.prog 36 #[.pointer (some ⟨g, 0, none⟩)] w' fun e w2 => ∃ v, e = .returned (.tuple #[v, .int .i64 0]) ∧ OwnZ .u8 5 w2 w.heap.size v (if 0 = 0 then [] ++ (le a.file 8 ++ (le a.lev 1 ++ List.replicate 3 0)) else []) ∧ Below w'.heap.size w' w2) := fun w' g h => wend_any w' g w.heap.size _ _ h
    have hbd : [] ++ (le a.file 8 ++ (le a.lev 1 ++ List.replicate 3 0)) = bodyI 18 a := by unfold bodyI; rw [if_neg (by decide), if_neg (by decide), if_neg (by decide), if_pos rfl, List.nil_append]
    have her : ipErr 18 a = 0 := by unfold ipErr; rw [if_pos hnm, if_neg (by decide), if_neg (fun h => absurd h.1 (by decide))]
    have HQ : Hid (∀ (v : Value) (e : Ending) (w' : World), e = .returned (.tuple #[v, .int .i64 0]) → OwnZ .u8 5 w' w.heap.size v (if 0 = 0 then [] ++ (le a.file 8 ++ (le a.lev 1 ++ List.replicate 3 0)) else []) → Below w.heap.size w w' → IPAskPost w 18 a e w') := by
      intro v e w' h1 h2 h3
      refine ⟨v, by rw [her]; exact h1, ?_, h3⟩
      unfold ipOf
      rw [her, ← hbd]
      exact h2
    obtain ⟨y1, hy1⟩ : ∃ y : List Int, y = [] ++ (le a.file 8 ++ (le a.lev 1 ++ List.replicate 3 0)) := ⟨_, rfl⟩
    rw [← hy1] at D1 DE HQ
    clear hy1
    clear hk hnm hcl her hbd ka ha hT hu hc
    go_enter Tryd.func11, Tryd.ntmps11
    go_wp2_with (first
      | ((with_reducible show wpList _ _ _ (⟨some 3, _, _, _, _, _⟩ :: _) _ _); refine wpList_box_blk rfl _ (.tmp 1) rfl cs rfl ?_; intro z w1 hz1 hz2 Z1 L1)
      | ((with_reducible show wpList _ _ _ (⟨some 8, _, _, _, _, _⟩ :: _) _ _); refine wpList_load_blk rfl _ (.tmp 3) rfl z rfl _ cs Z1 69 _ Tryd.underlying32 rfl size_ask HL ?_)
      | fail)
    refine (CN.out w1 L1.out).mono ?_
    rintro e w2 ⟨rfl, L2⟩
    have Z2 := Lib.hid (Z1.out.over L2)
    have L22 := Lib.hid (step L1.out L2)
    have hzs : z < w2.heap.size := Z2.out.lt
    clear L2 Z1 L1 CN
    have hws := L22.out.size
    obtain ⟨f1, f2, f3, f4, f5, f6, f7, f8, f9⟩ := FL.out _ _ Z2.out
    go_wp2_with (first
      | ((with_reducible show wpList _ _ _ (⟨some 6, _, _, _, _, _⟩ :: _) _ _); refine wpList_alloc_blk rfl _ rfl _ _ ZW ?_; intro g u0 hg1 hg2 G0 N0; have hzg : z ≠ g := (by omega); have Z0 := Lib.hid (Z2.out.over N0.out); have K0 : Hid (WKeep g w.heap.size w u0) := (WKeep.of_below (L22.out.trans (N0.out.mono hws)) (Nat.le_refl _)); have V0 : Hid (WI u0 g w.heap.size [] 0) := ⟨by omega, _, G0.out, OwnZ.nil _ _ _ _⟩; clear f1 f2 f3 f4 f5 f6 f7 f8 f9; obtain ⟨f1, f2, f3, f4, f5, f6, f7, f8, f9⟩ := FL.out _ _ Z0.out)
      | fail)
    have F1 := Lib.hid (D1.out _ _ V0.out)
    go_wp2_with fail
    refine F1.out.mono ?_
    rintro e u1 ⟨rfl, p1, p2⟩
    have V1 := Lib.hid p1
    have K1 := Lib.hid (K0.out.trans p2)
    have Z1 := Lib.hid (p2.blk Z0.out (by decide) hzg)
    obtain ⟨c1_1, c1_2, c1_3, c1_4, c1_5, c1_6, c1_7, c1_8, c1_9⟩ := FL.out _ _ Z1.out
    clear p1 p2 F1 V0
    have FE := Lib.hid (DE.out _ _ V1.out)
    go_wp2_with fail
    refine FE.out.mono ?_
    rintro e ue ⟨v, rfl, p1, p2⟩
    have OE := Lib.hid p1
    have LE := Lib.hid (K1.out.below.trans (p2.mono (by have := K1.out.below.size; omega)))
    clear p1 p2 FE
    go_wp2
    go_ret2
    exact HQ.out _ _ _ rfl OE.out LE.out
end Go.Proofs.YtbbjmmooemmeiaaDoor

namespace Go.Proofs.YtbbjmmooemmeiaaDoor
set_option linter.all false
open Go.RowKit
set_option linter.unusedVariables false
set_option maxRecDepth 100000
theorem fld_ir0 (g : Nat) (w : World) : (Instr.fieldAt 87 (.pointer (some ⟨g, 0, none⟩)) 0).run Tryd.prog w = .ok (.pointer (some ⟨g, 0, none⟩)) w := by go_simp
theorem fld_ir1 (g : Nat) (w : World) : (Instr.fieldAt 87 (.pointer (some ⟨g, 0, none⟩)) 1).run Tryd.prog w = .ok (.pointer (some ⟨g, 1, none⟩)) w := by go_simp
/-- the program's reader in block g, over the bytes xs, which lie below block B -/
def PI (w : World) (g B : Nat) (A : Option Addr) (n c : Nat) (xs : List Int) (r : Rd) : Prop := r.p ≤ n ∧ B ≤ g ∧ Blk w g 87 [.slice A n c, .int .i64 r.p, .int .i64 r.e] ∧ Holds w B A n c xs
def IPost (w : World) (g B : Nat) (A : Option Addr) (n c : Nat) (xs : List Int) (v : Value) (r : Rd) (e : Ending) (w' : World) : Prop := e = .returned v ∧ PI w' g B A n c xs r ∧ Save g w w'
section
variable {w w' : World} {g g' B : Nat} {A : Option Addr} {n c : Nat} {xs : List Int} {r : Rd} {p : Nat} {er : Int}
theorem PI.lt (h : PI w g B A n c xs r) : g < w.heap.size := h.2.2.1.lt
theorem PI.c0 (h : PI w g B A n c xs r) : w.cell? ⟨g, 0, none⟩ = some (.slice A n c) := h.2.2.1.at rfl
theorem PI.c1 (h : PI w g B A n c xs ⟨p, er⟩) : w.cell? ⟨g, 1, none⟩ = some (.int .i64 (p : Int)) := h.2.2.1.at rfl
theorem PI.c2 (h : PI w g B A n c xs ⟨p, er⟩) : w.cell? ⟨g, 2, none⟩ = some (.int .i64 er) := h.2.2.1.at rfl
theorem PI.fz (h : PI w g B A n c xs r) (i : Nat) : w.frozen? ⟨g, i, none⟩ = false := h.2.2.1.frozen i
theorem PI.setE (h : PI w g B A n c xs ⟨p, er⟩) (x : Int) : PI (w.setCell ⟨g, 2, none⟩ (.int .i64 x)) g B A n c xs ⟨p, x⟩ :=
  ⟨h.1, h.2.1, h.2.2.1.set 2 _, h.2.2.2.only (only_setCell w g 2 _) h.2.1⟩
theorem PI.setP (h : PI w g B A n c xs ⟨p, er⟩) (q : Nat) (hq : q ≤ n) : PI (w.setCell ⟨g, 1, none⟩ (.int .i64 (q : Int))) g B A n c xs ⟨q, er⟩ :=
  ⟨hq, h.2.1, h.2.2.1.set 1 _, h.2.2.2.only (only_setCell w g 1 _) h.2.1⟩
theorem PI.drewN (h : PI w g B A n c xs r) (k : Nat) : PI (w.drewN k) g B A n c xs r := ⟨h.1, h.2.1, h.2.2.1.drewN k, h.2.2.2.drewN k⟩
theorem PI.drew (h : PI w g B A n c xs r) : PI w.drew g B A n c xs r := ⟨h.1, h.2.1, h.2.2.1.drew, h.2.2.2.drew⟩
theorem PI.below (h : PI w g B A n c xs r) (hb : Below w.heap.size w w') : PI w' g B A n c xs r := by
  have hlt := h.lt
  exact ⟨h.1, h.2.1, h.2.2.1.over hb, h.2.2.2.below (hb.mono (by have := h.2.1; omega))⟩
theorem PI.only (h : PI w g B A n c xs r) (hO : Only g' w w') (hg : g ≠ g') (hb : B ≤ g') : PI w' g B A n c xs r := ⟨h.1, h.2.1, h.2.2.1.only hO hg, h.2.2.2.only hO hb⟩
theorem rdN_no {s : Nat} (h : ¬ r.e = 0) : rdN xs s r = (0, r) := by unfold rdN; rw [if_neg h]
theorem rdN_e0 {s : Nat} (h : ¬ (rdN xs s r).2.e = 0) : (rdN xs s r).1 = 0 := by
  unfold rdN at h ⊢
  by_cases h1 : r.e = 0
  · rw [if_pos h1] at h ⊢
    by_cases h2 : xs.length < r.p + s
    · rw [if_pos h2]
    · rw [if_neg h2] at h; exact absurd rfl h
  · rw [if_neg h1]
end
set_option maxHeartbeats 1000000 in
theorem infail_any (w : World) (g B : Nat) (A : Option Addr) (n c : Nat) (xs : List Int) (r : Rd) (x : Int) (hP : PI w g B A n c xs r) :
    Calls Tryd.prog 54 #[.pointer (some ⟨g, 0, none⟩), .int .i64 x] w (IPost w g B A n c xs (.tuple #[]) (rdFail x r)) := by
  obtain ⟨p, er⟩ := r
  have HP := Lib.hid hP
  have c2 := hP.c2
  have f2 := hP.fz 2
  by_cases he : er = 0
  · subst he
    have HQ : Hid (∀ e w', (e = .returned (.tuple #[]) ∧ PI w' g B A n c xs ⟨p, x⟩ ∧ Save g w w') → IPost w g B A n c xs (.tuple #[]) (rdFail x ⟨p, 0⟩) e w') := fun _ _ h => h
    clear hP
    go_enter Tryd.func54, Tryd.ntmps54
    go_wp2
    go_end0
    exact HQ.out _ _ ⟨rfl, HP.out.setE x, (Save.refl g w).setCell 2 _⟩
  · have HQ : Hid (∀ e w', (e = .returned (.tuple #[]) ∧ PI w' g B A n c xs ⟨p, er⟩ ∧ Save g w w') → IPost w g B A n c xs (.tuple #[]) (rdFail x ⟨p, er⟩) e w') := by
      intro e w' h
      unfold rdFail
      rw [if_neg he]
      exact h
    have hne : (er == 0) = false := by simpa using he
    clear hP he
    go_enter Tryd.func54, Tryd.ntmps54
    go_wp2
    go_end0
    exact HQ.out _ _ ⟨rfl, HP.out, Save.refl g w⟩
set_option maxHeartbeats 1000000 in
theorem inum_any (w : World) (g B : Nat) (A : Option Addr) (n c : Nat) (xs : List Int) (r : Rd) (s : Nat) (hP : PI w g B A n c xs r) (hs : sizeOk (s : Int) = true) :
    Calls Tryd.prog 71 #[.pointer (some ⟨g, 0, none⟩), .int .i64 (s : Int)] w (IPost w g B A n c xs (.int .u64 (rdN xs s r).1) (rdN xs s r).2) := by
  obtain ⟨p, er⟩ := r
  have hs8 : 1 ≤ s ∧ s ≤ 8 := by rcases sizeOk_cases hs with h | h | h | h <;> omega
  obtain ⟨hs1, hs8⟩ := hs8
  have HP := Lib.hid hP
  have hl := hP.2.2.2.len
  have hrm := hP.2.2.2.room
  have hp : p ≤ n := hP.1
  have c0 := hP.c0
  have c1 := hP.c1
  have CG : Hid (∀ k : Nat, Calls Tryd.prog 90 #[.slice A n c, .int .i64 (p : Int), .int .i64 (s : Int)] (w.drewN k) fun e w' => e = .returned (.tuple #[.int .u64 (getOf xs (p : Int) (s : Int)), .int .i64 (getErr n (p : Int) (s : Int))]) ∧ w.drewN k = w') := fun k => Get_any (w.drewN k) B A n c xs (p : Int) (s : Int) (hP.2.2.2.drewN k) (by omega) (by omega)
  have CF : Hid (∀ (w' : World) (x : Int), PI w' g B A n c xs ⟨p, er⟩ → Calls Tryd.prog 54 #[.pointer (some ⟨g, 0, none⟩), .int .i64 x] w' fun e w2 => e = .returned (.tuple #[]) ∧ PI w2 g B A n c xs (rdFail x ⟨p, er⟩) ∧ Save g w' w2) := fun w' x h => infail_any w' g B A n c xs ⟨p, er⟩ x h
  by_cases he : er = 0
  rotate_left
  · have HQ : Hid (∀ e w', (e = .returned (.int .u64 0) ∧ PI w' g B A n c xs ⟨p, er⟩ ∧ Save g w w') → IPost w g B A n c xs (.int .u64 (rdN xs s ⟨p, er⟩).1) (rdN xs s ⟨p, er⟩).2 e w') := by
      intro e w' h
      rw [rdN_no he]
      exact h
    have hrf : ∀ x, rdFail x ⟨p, er⟩ = ⟨p, er⟩ := fun x => by unfold rdFail; rw [if_neg he]
    simp only [hrf] at CF
    obtain ⟨z, hz⟩ : ∃ z, z = getOf xs (p : Int) (s : Int) := ⟨_, rfl⟩
    obtain ⟨ze, hze⟩ : ∃ z, z = getErr n (p : Int) (s : Int) := ⟨_, rfl⟩
    rw [← hz, ← hze] at CG
    have hne : (er != 0) = true := by simpa using he
    clear hP hl he hrf hz hze hs
    go_enter Tryd.func71, Tryd.ntmps71
    go_wp2
    go_quiet ((go_at_call 90; ((with_reducible exact rq_same (CG.out _)))))
    have CF1 := Lib.hid (CF.out _ ze (HP.out.drewN nq))
    clear CF CG
    go_wp2_with fail
    refine CF1.out.mono ?_
    rintro e w1 ⟨rfl, hP1, hS1⟩
    have d2 := hP1.c2
    have HP1 := Lib.hid hP1
    have HS1 := Lib.hid ((save_drewN g w nq).trans hS1)
    clear hP1 hS1 CF1
    go_wp2
    go_ret
    exact HQ.out _ _ ⟨rfl, HP1.out, HS1.out⟩
  subst he
  by_cases hr : n < p + s
  · have HQ : Hid (∀ e w', (e = .returned (.int .u64 0) ∧ PI w' g B A n c xs ⟨p, 4⟩ ∧ Save g w w') → IPost w g B A n c xs (.int .u64 (rdN xs s ⟨p, 0⟩).1) (rdN xs s ⟨p, 0⟩).2 e w') := by
      intro e w' h
      rw [rdN_short rfl (by rw [hl]; exact hr)]
      exact h
    have e1 : getErr n (p : Int) (s : Int) = 4 := by
      unfold getErr partErr
      rw [if_pos hs, if_neg (by omega), if_pos (by omega)]
    rw [e1] at CG
    have CF1 : Hid (∀ w' : World, PI w' g B A n c xs ⟨p, 0⟩ → Calls Tryd.prog 54 #[.pointer (some ⟨g, 0, none⟩), .int .i64 4] w' fun e w2 => e = .returned (.tuple #[]) ∧ PI w2 g B A n c xs ⟨p, 4⟩ ∧ Save g w' w2) := fun w' h => CF.out w' 4 h
    obtain ⟨z, hz⟩ : ∃ z, z = getOf xs (p : Int) (s : Int) := ⟨_, rfl⟩
    rw [← hz] at CG
    clear hP hl hz hs CF e1
    go_enter Tryd.func71, Tryd.ntmps71
    go_wp2
    go_quiet ((go_at_call 90; ((with_reducible exact rq_same (CG.out _)))))
    have CF2 := Lib.hid (CF1.out _ (HP.out.drewN nq))
    clear CF1 CG
    go_wp2_with fail
    refine CF2.out.mono ?_
    rintro e w1 ⟨rfl, hP1, hS1⟩
    have d2 := hP1.c2
    have HP1 := Lib.hid hP1
    have HS1 := Lib.hid ((save_drewN g w nq).trans hS1)
    clear hP1 hS1 CF2
    go_wp2
    go_ret
    exact HQ.out _ _ ⟨rfl, HP1.out, HS1.out⟩
  · have HQ : Hid (∀ e w', (e = .returned (.int .u64 (numAt xs p s)) ∧ PI w' g B A n c xs ⟨p + s, 0⟩ ∧ Save g w w') → IPost w g B A n c xs (.int .u64 (rdN xs s ⟨p, 0⟩).1) (rdN xs s ⟨p, 0⟩).2 e w') := by
      intro e w' h
      rw [rdN_fits rfl (by rw [hl]; exact hr)]
      exact h
    have e1 : getErr n (p : Int) (s : Int) = 0 := by
      unfold getErr partErr
      rw [if_pos hs, if_neg (by omega), if_neg (by omega)]
    have e2 : getOf xs (p : Int) (s : Int) = numAt xs p s := by
      unfold getOf numAt
      rw [hl, e1, if_pos rfl, Int.toNat_natCast, Int.toNat_natCast]
    rw [e1, e2] at CG
    have CF1 : Hid (∀ w' : World, PI w' g B A n c xs ⟨p, 0⟩ → Calls Tryd.prog 54 #[.pointer (some ⟨g, 0, none⟩), .int .i64 0] w' fun e w2 => e = .returned (.tuple #[]) ∧ PI w2 g B A n c xs ⟨p, 0⟩ ∧ Save g w' w2) := fun w' h => CF.out w' 0 h
    obtain ⟨z, hz⟩ : ∃ z, z = numAt xs p s := ⟨_, rfl⟩
    rw [← hz] at CG HQ
    have HSP : Hid (∀ w1 : World, PI w1 g B A n c xs ⟨p, 0⟩ → PI (w1.setCell ⟨g, 1, none⟩ (.int .i64 ((p : Int) + s))) g B A n c xs ⟨p + s, 0⟩) := fun w1 h => h.setP (p + s) (by omega)
    clear hP hl hz hs CF e1 e2
    go_enter Tryd.func71, Tryd.ntmps71
    go_wp2
    go_quiet ((go_at_call 90; ((with_reducible exact rq_same (CG.out _)))))
    have CF2 := Lib.hid (CF1.out _ (HP.out.drewN nq))
    clear CF1 CG
    go_wp2_with fail
    refine CF2.out.mono ?_
    rintro e w1 ⟨rfl, hP1, hS1⟩
    have d1 := hP1.c1
    have d2 := hP1.c2
    have f1 := hP1.fz 1
    have HP1 := Lib.hid (HSP.out w1 hP1)
    have HS1 := Lib.hid ((save_drewN g w nq).trans hS1)
    clear hP1 hS1 CF2 HSP
    go_wp2
    go_ret
    exact HQ.out _ _ ⟨rfl, HP1.out, HS1.out.setCell 1 _⟩
theorem intwo_any (w : World) (g B : Nat) (A : Option Addr) (n c : Nat) (xs : List Int) (r : Rd) (hx : Bytes xs) (hP : PI w g B A n c xs r) :
    Calls Tryd.prog 50 #[.pointer (some ⟨g, 0, none⟩)] w (IPost w g B A n c xs (.int .u16 (rdN xs 2 r).1) (rdN xs 2 r).2) := by
  have C1 := Lib.hid (inum_any w g B A n c xs r 2 hP (by decide))
  have hb := rdN_lt hx 2 r 65536 (by decide) (by decide)
  have HQ : Hid (∀ e w', (e = .returned (.int .u16 (rdN xs 2 r).1) ∧ PI w' g B A n c xs (rdN xs 2 r).2 ∧ Save g w w') → IPost w g B A n c xs (.int .u16 (rdN xs 2 r).1) (rdN xs 2 r).2 e w') := fun _ _ h => h
  unfold IPost at C1
  obtain ⟨q, hq⟩ : ∃ q, q = rdN xs 2 r := ⟨_, rfl⟩
  rw [← hq] at C1 HQ hb ⊢
  obtain ⟨z, p⟩ := q
  change 0 ≤ z ∧ z ≤ _ at hb
  obtain ⟨hb0, hb1⟩ := hb
  have hz : IntKind.u16.wrap z = z := by rw [IntKind.wrap_u16]; omega
  clear hq hP
  go_enter Tryd.func50, Tryd.ntmps50
  go_wp2_with fail
  refine C1.out.mono ?_
  rintro e w1 ⟨rfl, hP1, hS1⟩
  have HP1 := Lib.hid hP1
  have HS1 := Lib.hid hS1
  clear hP1 hS1
  go_wp2
  go_ret
  exact HQ.out _ _ ⟨rfl, HP1.out, HS1.out⟩
theorem ineight_any (w : World) (g B : Nat) (A : Option Addr) (n c : Nat) (xs : List Int) (r : Rd) (hx : Bytes xs) (hP : PI w g B A n c xs r) :
    Calls Tryd.prog 49 #[.pointer (some ⟨g, 0, none⟩)] w (IPost w g B A n c xs (.int .u64 (rdN xs 8 r).1) (rdN xs 8 r).2) := by
  have C1 := Lib.hid (inum_any w g B A n c xs r 8 hP (by decide))
  have hb := rdN_lt hx 8 r 18446744073709551616 (by decide) (by decide)
  have HQ : Hid (∀ e w', (e = .returned (.int .u64 (rdN xs 8 r).1) ∧ PI w' g B A n c xs (rdN xs 8 r).2 ∧ Save g w w') → IPost w g B A n c xs (.int .u64 (rdN xs 8 r).1) (rdN xs 8 r).2 e w') := fun _ _ h => h
  unfold IPost at C1
  obtain ⟨q, hq⟩ : ∃ q, q = rdN xs 8 r := ⟨_, rfl⟩
  rw [← hq] at C1 HQ hb ⊢
  obtain ⟨z, p⟩ := q
  change 0 ≤ z ∧ z ≤ _ at hb
  obtain ⟨hb0, hb1⟩ := hb
  have hz : IntKind.u64.wrap z = z := by rw [IntKind.wrap_u64]; omega
  clear hq hP
  go_enter Tryd.func49, Tryd.ntmps49
  go_wp2_with fail
  refine C1.out.mono ?_
  rintro e w1 ⟨rfl, hP1, hS1⟩
  have HP1 := Lib.hid hP1
  have HS1 := Lib.hid hS1
  clear hP1 hS1
  go_wp2
  go_ret
  exact HQ.out _ _ ⟨rfl, HP1.out, HS1.out⟩
set_option maxHeartbeats 1000000 in
theorem inup_any (w : World) (g B : Nat) (A : Option Addr) (n c : Nat) (xs : List Int) (r : Rd) (s : Nat) (most er : Int) (hP : PI w g B A n c xs r) (hs : sizeOk (s : Int) = true) (hm : 0 ≤ most) :
    Calls Tryd.prog 61 #[.pointer (some ⟨g, 0, none⟩), .int .u64 most, .int .i64 (s : Int), .int .i64 er] w (IPost w g B A n c xs (.int .u64 (rdMost xs s most er r).1) (rdMost xs s most er r).2) := by
  have C1 := Lib.hid (inum_any w g B A n c xs r s hP hs)
  have h0 := rdN_e0 (xs := xs) (s := s) (r := r)
  unfold IPost at C1
  have HQ : Hid (∀ e w', (e = .returned (.int .u64 (rdMost xs s most er r).1) ∧ PI w' g B A n c xs (rdMost xs s most er r).2 ∧ Save g w w') → IPost w g B A n c xs (.int .u64 (rdMost xs s most er r).1) (rdMost xs s most er r).2 e w') := fun _ _ h => h
  have hu : rdMost xs s most er r = if (rdN xs s r).2.e = 0 ∧ most < (rdN xs s r).1 then (0, ⟨(rdN xs s r).2.p, er⟩) else rdN xs s r := rfl
  rw [hu] at HQ ⊢
  obtain ⟨q, hq⟩ : ∃ q, q = rdN xs s r := ⟨_, rfl⟩
  rw [← hq] at C1 HQ h0 ⊢
  obtain ⟨z, p, e0⟩ := q
  change ¬ e0 = 0 → z = 0 at h0
  clear hq hP hu hs
  by_cases hg : most < z
  · have he : e0 = 0 := by
      by_cases he : e0 = 0
      · exact he
      · have : z = 0 := h0 he
        omega
    subst he
    rw [if_pos ⟨rfl, hg⟩] at HQ ⊢
    have CF : Hid (∀ w' : World, PI w' g B A n c xs ⟨p, 0⟩ → Calls Tryd.prog 54 #[.pointer (some ⟨g, 0, none⟩), .int .i64 er] w' fun e w2 => e = .returned (.tuple #[]) ∧ PI w2 g B A n c xs ⟨p, er⟩ ∧ Save g w' w2) := fun w' h => infail_any w' g B A n c xs ⟨p, 0⟩ er h
    clear h0
    go_enter Tryd.func61, Tryd.ntmps61
    go_wp2_with fail
    refine C1.out.mono ?_
    rintro e w1 ⟨rfl, hP1, hS1⟩
    have CF1 := Lib.hid (CF.out w1 hP1)
    have HS1 := Lib.hid hS1
    clear hP1 hS1 CF
    go_wp2_with fail
    refine CF1.out.mono ?_
    rintro e w2 ⟨rfl, hP2, hS2⟩
    have HP2 := Lib.hid hP2
    have HS2 := Lib.hid (HS1.out.trans hS2)
    clear hP2 hS2
    go_wp2
    go_ret
    exact HQ.out _ _ ⟨rfl, HP2.out, HS2.out⟩
  · rw [if_neg (fun h => hg h.2)] at HQ ⊢
    clear h0
    go_enter Tryd.func61, Tryd.ntmps61
    go_wp2_with fail
    refine C1.out.mono ?_
    rintro e w1 ⟨rfl, hP1, hS1⟩
    have HP1 := Lib.hid hP1
    have HS1 := Lib.hid hS1
    clear hP1 hS1
    go_wp2
    go_ret
    exact HQ.out _ _ ⟨rfl, HP1.out, HS1.out⟩
theorem intruth_any (w : World) (g B : Nat) (A : Option Addr) (n c : Nat) (xs : List Int) (r : Rd) (hx : Bytes xs) (hP : PI w g B A n c xs r) :
    Calls Tryd.prog 53 #[.pointer (some ⟨g, 0, none⟩)] w (IPost w g B A n c xs (.bool ((rdT xs r).1 != 0)) (rdT xs r).2) := by
  have C1 : Hid (Calls Tryd.prog 61 #[.pointer (some ⟨g, 0, none⟩), .int .u64 1, .int .i64 2, .int .i64 5] w fun e w' => e = .returned (.int .u64 (rdT xs r).1) ∧ PI w' g B A n c xs (rdT xs r).2 ∧ Save g w w') := inup_any w g B A n c xs r 2 1 5 hP (by decide) (by decide)
  have hb := rdT_lt hx r
  have HQ : Hid (∀ e w', (e = .returned (.bool ((rdT xs r).1 != 0)) ∧ PI w' g B A n c xs (rdT xs r).2 ∧ Save g w w') → IPost w g B A n c xs (.bool ((rdT xs r).1 != 0)) (rdT xs r).2 e w') := fun _ _ h => h
  obtain ⟨q, hq⟩ : ∃ q, q = rdT xs r := ⟨_, rfl⟩
  rw [← hq] at C1 HQ hb ⊢
  obtain ⟨z, p⟩ := q
  change 0 ≤ z ∧ z ≤ _ at hb
  obtain ⟨hb0, hb1⟩ := hb
  clear hq hP
  go_enter Tryd.func53, Tryd.ntmps53
  go_wp2_with fail
  refine C1.out.mono ?_
  rintro e w1 ⟨rfl, hP1, hS1⟩
  have HP1 := Lib.hid hP1
  have HS1 := Lib.hid hS1
  clear hP1 hS1
  go_wp2
  go_ret
  exact HQ.out _ _ ⟨rfl, HP1.out, HS1.out⟩
theorem inkind_any (w : World) (g B : Nat) (A : Option Addr) (n c : Nat) (xs : List Int) (r : Rd) (hx : Bytes xs) (hP : PI w g B A n c xs r) :
    Calls Tryd.prog 63 #[.pointer (some ⟨g, 0, none⟩)] w (IPost w g B A n c xs (.int .u8 (rdK xs r).1) (rdK xs r).2) := by
  have C1 : Hid (Calls Tryd.prog 61 #[.pointer (some ⟨g, 0, none⟩), .int .u64 2, .int .i64 2, .int .i64 5] w fun e w' => e = .returned (.int .u64 (rdK xs r).1) ∧ PI w' g B A n c xs (rdK xs r).2 ∧ Save g w w') := inup_any w g B A n c xs r 2 2 5 hP (by decide) (by decide)
  have hb := rdK_lt hx r
  have HQ : Hid (∀ e w', (e = .returned (.int .u8 (rdK xs r).1) ∧ PI w' g B A n c xs (rdK xs r).2 ∧ Save g w w') → IPost w g B A n c xs (.int .u8 (rdK xs r).1) (rdK xs r).2 e w') := fun _ _ h => h
  obtain ⟨q, hq⟩ : ∃ q, q = rdK xs r := ⟨_, rfl⟩
  rw [← hq] at C1 HQ hb ⊢
  obtain ⟨z, p⟩ := q
  change 0 ≤ z ∧ z ≤ _ at hb
  obtain ⟨hb0, hb1⟩ := hb
  have hz : IntKind.u8.wrap z = z := by rw [IntKind.wrap_u8]; omega
  clear hq hP
  go_enter Tryd.func63, Tryd.ntmps63
  go_wp2_with fail
  refine C1.out.mono ?_
  rintro e w1 ⟨rfl, hP1, hS1⟩
  have HP1 := Lib.hid hP1
  have HS1 := Lib.hid hS1
  clear hP1 hS1
  go_wp2
  go_ret
  exact HQ.out _ _ ⟨rfl, HP1.out, HS1.out⟩
set_option maxHeartbeats 2000000 in
theorem innought_any (w : World) (g B : Nat) (A : Option Addr) (n c : Nat) (xs : List Int) (r : Rd) (m : Nat) (hP : PI w g B A n c xs r) (hm : m ≤ 65536) (hBw : B ≤ w.heap.size) :
    Calls Tryd.prog 51 #[.pointer (some ⟨g, 0, none⟩), .int .i64 (m : Int)] w (IPost w g B A n c xs (.tuple #[]) (rdZ xs m r)) := by
  obtain ⟨p, er⟩ := r
  have HP := Lib.hid hP
  have hl := hP.2.2.2.len
  have hrm := hP.2.2.2.room
  have hp : p ≤ n := hP.1
  have CF : Hid (∀ (w' : World) (q : Rd) (x : Int), PI w' g B A n c xs q → Calls Tryd.prog 54 #[.pointer (some ⟨g, 0, none⟩), .int .i64 x] w' fun e w2 => e = .returned (.tuple #[]) ∧ PI w2 g B A n c xs (rdFail x q) ∧ Save g w' w2) := fun w' q x h => infail_any w' g B A n c xs q x h
  have hpe : partErr n (p : Int) (m : Int) = if n < p + m then 4 else 0 := by
    unfold partErr
    rw [if_neg (by omega)]
    by_cases h5 : n < p + m
    · rw [if_pos h5, if_pos (by omega)]
    · rw [if_neg h5, if_neg (by omega)]
  have C0 : ∀ k, Calls Tryd.prog 72 #[.slice A n c, .int .i64 (p : Int), .int .i64 (m : Int)] (w.drewN k) fun e w' => ∃ A' k', e = .returned (.tuple #[.slice A' k' k', .int .i64 (partErr n (p : Int) (m : Int))]) ∧ Below (w.drewN k).heap.size (w.drewN k) w' := fun k => by
    have h1 := Part_any (w.drewN k) A n c xs (p : Int) (m : Int) ((hP.2.2.2.drewN k).mono hBw) (by omega) (by omega)
    unfold PartPost at h1
    rw [hl] at h1
    exact h1.mono fun e w' ⟨A', h1, _, h3⟩ => ⟨A', _, h1, h3⟩
  by_cases he : er = 0
  rotate_left
  · have HQ : Hid (∀ e w', (e = .returned (.tuple #[]) ∧ PI w' g B A n c xs ⟨p, er⟩ ∧ Save g w w') → IPost w g B A n c xs (.tuple #[]) (rdZ xs m ⟨p, er⟩) e w') := by
      intro e w' h
      rw [rdZ_stick he]
      exact h
    have hrf : ∀ x, rdFail x ⟨p, er⟩ = ⟨p, er⟩ := fun x => by unfold rdFail; rw [if_neg he]
    have CF0 : Hid (∀ (w' : World) (x : Int), PI w' g B A n c xs ⟨p, er⟩ → Calls Tryd.prog 54 #[.pointer (some ⟨g, 0, none⟩), .int .i64 x] w' fun e w2 => e = .returned (.tuple #[]) ∧ PI w2 g B A n c xs ⟨p, er⟩ ∧ Save g w' w2) := fun w' x h => by
      have h1 := CF.out w' ⟨p, er⟩ x h
      rw [hrf] at h1
      exact h1
    obtain ⟨ze, hze⟩ : ∃ z, z = partErr n (p : Int) (m : Int) := ⟨_, rfl⟩
    rw [← hze] at C0
    have C1 := Lib.hid C0
    have hne : (er != 0) = true := by simpa using he
    clear hP hl he hrf hze hpe C0 CF
    go_enter Tryd.func51, Tryd.ntmps51
    go_upto_region 0 with fail
    refine wp_region_held (S := fun w' => PI w' g B A n c xs ⟨p, er⟩) (by kernel_rfl) ?_
    change wpAnyH _ _ _ _ _ _ _ _ w.drew
    have S0 : Hid (PI w.drew g B A n c xs ⟨p, er⟩) := HP.out.drew
    have b0 : Hid (Below w.heap.size w w.drew) := (drewed w 1)
    refine wpAnyH_take (i := 0) (v := _) rfl (by kernel_rfl) (by kernel_rfl) (by kernel_rfl) (fun _ _ _ h => h) (yieldsIf_move (by kernel_rfl) (.tmp 0) rfl (.pointer (some ⟨g, 0, none⟩)) (by kernel_rfl)) S0.out ?_
    refine wpAnyH_take (i := 1) (v := _) rfl (by kernel_rfl) (by kernel_rfl) (by kernel_rfl) (fun _ _ _ h => h) (yieldsIf_nil (by kernel_rfl) (.tmp 7) rfl ⟨g, 0, none⟩ (by kernel_rfl)) S0.out ?_
    refine wpAnyH_take (i := 2) (v := _) rfl (by kernel_rfl) (by kernel_rfl) (by kernel_rfl) (fun _ _ _ h => h) (yieldsIf_fld (by kernel_rfl) _ (.tmp 8) 0 rfl (.pointer (some ⟨g, 0, none⟩)) (.pointer (some ⟨g, 0, none⟩)) (by kernel_rfl) (fld_ir0 g)) S0.out ?_
    refine wpAnyH_take (i := 3) (v := _) rfl (by kernel_rfl) (by kernel_rfl) (by kernel_rfl) (fun _ _ _ h => h) (yieldsIf_load_one (by kernel_rfl) _ (.tmp 9) rfl g 0 (by kernel_rfl) (.slice A n c) (fun w h => PI.c0 h) _ Tryd.underlying29 rfl) S0.out ?_
    refine wpAnyH_take (i := 4) (v := _) rfl (by kernel_rfl) (by kernel_rfl) (by kernel_rfl) (fun _ _ _ h => h) (yieldsIf_move (by kernel_rfl) (.tmp 0) rfl (.pointer (some ⟨g, 0, none⟩)) (by kernel_rfl)) S0.out ?_
    refine wpAnyH_take (i := 5) (v := _) rfl (by kernel_rfl) (by kernel_rfl) (by kernel_rfl) (fun _ _ _ h => h) (yieldsIf_nil (by kernel_rfl) (.tmp 11) rfl ⟨g, 0, none⟩ (by kernel_rfl)) S0.out ?_
    refine wpAnyH_take (i := 6) (v := _) rfl (by kernel_rfl) (by kernel_rfl) (by kernel_rfl) (fun _ _ _ h => h) (yieldsIf_fld (by kernel_rfl) _ (.tmp 12) 1 rfl (.pointer (some ⟨g, 0, none⟩)) (.pointer (some ⟨g, 1, none⟩)) (by kernel_rfl) (fld_ir1 g)) S0.out ?_
    refine wpAnyH_take (i := 7) (v := _) rfl (by kernel_rfl) (by kernel_rfl) (by kernel_rfl) (fun _ _ _ h => h) (yieldsIf_load_one (by kernel_rfl) _ (.tmp 13) rfl g 1 (by kernel_rfl) (.int .i64 (p : Int)) (fun w h => PI.c1 h) _ Tryd.underlying3 rfl) S0.out ?_
    refine wpAnyH_take (i := 8) (v := _) rfl (by kernel_rfl) (by kernel_rfl) (by kernel_rfl) (fun _ _ _ h => h) (yieldsIf_move (by kernel_rfl) (.tmp 1) rfl (.int .i64 (m : Int)) (by kernel_rfl)) S0.out ?_
    refine wpAnyH_one 9 _ (by kernel_rfl) rfl fun K hK => ?_
    go_simp
    refine (C1.out 1).mono ?_
    rintro e v1 ⟨A', k', rfl, L1⟩
    have S1 : Hid (PI v1 g B A n c xs ⟨p, er⟩) := S0.out.below L1
    have b1 : Hid (Below w.heap.size w v1) := step b0.out L1
    refine hK _ _ S1.out ?_
    clear hK K L1
    refine wpAnyH_take (i := 10) (v := (.tuple #[.slice A' k' k', .int .i64 ze])) rfl (by kernel_rfl) (by kernel_rfl) (by kernel_rfl) (fun _ _ _ h => h) (.inl ⟨by kernel_rfl, fun w _ => by go_simp⟩) S1.out ?_
    refine wpAnyH_take (i := 11) (v := (.slice A' k' k')) rfl (by kernel_rfl) (by kernel_rfl) (by kernel_rfl) (fun _ _ _ h => h) (.inl ⟨by kernel_rfl, fun w _ => by go_simp⟩) S1.out ?_
    refine wpAnyH_take (i := 12) (v := (.int .i64 ze)) rfl (by kernel_rfl) (by kernel_rfl) (by kernel_rfl) (fun _ _ _ h => h) (.inl ⟨by kernel_rfl, fun w _ => by go_simp⟩) S1.out ?_
    refine wpAnyH_take (i := 13) (v := (.slice A' k' k')) rfl (by kernel_rfl) (by kernel_rfl) (by kernel_rfl) (fun _ _ _ h => h) (.inl ⟨by kernel_rfl, fun w _ => by go_simp⟩) S1.out ?_
    refine wpAnyH_take (i := 14) (v := (.int .i64 ze)) rfl (by kernel_rfl) (by kernel_rfl) (by kernel_rfl) (fun _ _ _ h => h) (.inl ⟨by kernel_rfl, fun w _ => by go_simp⟩) S1.out ?_
    refine wpAnyH_done (by kernel_rfl) ?_ _
    have CF1 := Lib.hid (CF0.out v1 ze S1.out)
    clear CF0
    go_wp2_with fail
    refine CF1.out.mono ?_
    rintro e w1 ⟨rfl, hP1, hS1⟩
    have d2 := hP1.c2
    have HP1 := Lib.hid hP1
    have HS1 := Lib.hid ((Save.of_below b1.out g).trans hS1)
    clear hP1 hS1 CF1
    go_wp2
    go_end0
    exact HQ.out _ _ ⟨rfl, HP1.out, HS1.out⟩
  subst he
  by_cases hr : n < p + m
  · have HQ : Hid (∀ e w', (e = .returned (.tuple #[]) ∧ PI w' g B A n c xs ⟨p, 4⟩ ∧ Save g w w') → IPost w g B A n c xs (.tuple #[]) (rdZ xs m ⟨p, 0⟩) e w') := by
      intro e w' h
      have e1 : rdZ xs m ⟨p, 0⟩ = ⟨p, 4⟩ := by
        have h1 := rdPart_short (xs := xs) (m := m) (r := ⟨p, 0⟩) rfl (by rw [hl]; exact hr)
        unfold rdZ
        rw [h1, if_neg (show ¬ (4 : Int) = 0 by decide)]
      rw [e1]
      exact h
    rw [hpe, if_pos hr] at C0
    have C1 := Lib.hid C0
    have CF0 : Hid (∀ (w' : World), PI w' g B A n c xs ⟨p, 0⟩ → Calls Tryd.prog 54 #[.pointer (some ⟨g, 0, none⟩), .int .i64 4] w' fun e w2 => e = .returned (.tuple #[]) ∧ PI w2 g B A n c xs ⟨p, 4⟩ ∧ Save g w' w2) := fun w' h => CF.out w' ⟨p, 0⟩ 4 h
    clear hP hl hpe C0 CF
    go_enter Tryd.func51, Tryd.ntmps51
    go_upto_region 0 with fail
    refine wp_region_held (S := fun w' => PI w' g B A n c xs ⟨p, 0⟩) (by kernel_rfl) ?_
    change wpAnyH _ _ _ _ _ _ _ _ w.drew
    have S0 : Hid (PI w.drew g B A n c xs ⟨p, 0⟩) := HP.out.drew
    have b0 : Hid (Below w.heap.size w w.drew) := (drewed w 1)
    refine wpAnyH_take (i := 0) (v := _) rfl (by kernel_rfl) (by kernel_rfl) (by kernel_rfl) (fun _ _ _ h => h) (yieldsIf_move (by kernel_rfl) (.tmp 0) rfl (.pointer (some ⟨g, 0, none⟩)) (by kernel_rfl)) S0.out ?_
    refine wpAnyH_take (i := 1) (v := _) rfl (by kernel_rfl) (by kernel_rfl) (by kernel_rfl) (fun _ _ _ h => h) (yieldsIf_nil (by kernel_rfl) (.tmp 7) rfl ⟨g, 0, none⟩ (by kernel_rfl)) S0.out ?_
    refine wpAnyH_take (i := 2) (v := _) rfl (by kernel_rfl) (by kernel_rfl) (by kernel_rfl) (fun _ _ _ h => h) (yieldsIf_fld (by kernel_rfl) _ (.tmp 8) 0 rfl (.pointer (some ⟨g, 0, none⟩)) (.pointer (some ⟨g, 0, none⟩)) (by kernel_rfl) (fld_ir0 g)) S0.out ?_
    refine wpAnyH_take (i := 3) (v := _) rfl (by kernel_rfl) (by kernel_rfl) (by kernel_rfl) (fun _ _ _ h => h) (yieldsIf_load_one (by kernel_rfl) _ (.tmp 9) rfl g 0 (by kernel_rfl) (.slice A n c) (fun w h => PI.c0 h) _ Tryd.underlying29 rfl) S0.out ?_
    refine wpAnyH_take (i := 4) (v := _) rfl (by kernel_rfl) (by kernel_rfl) (by kernel_rfl) (fun _ _ _ h => h) (yieldsIf_move (by kernel_rfl) (.tmp 0) rfl (.pointer (some ⟨g, 0, none⟩)) (by kernel_rfl)) S0.out ?_
    refine wpAnyH_take (i := 5) (v := _) rfl (by kernel_rfl) (by kernel_rfl) (by kernel_rfl) (fun _ _ _ h => h) (yieldsIf_nil (by kernel_rfl) (.tmp 11) rfl ⟨g, 0, none⟩ (by kernel_rfl)) S0.out ?_
    refine wpAnyH_take (i := 6) (v := _) rfl (by kernel_rfl) (by kernel_rfl) (by kernel_rfl) (fun _ _ _ h => h) (yieldsIf_fld (by kernel_rfl) _ (.tmp 12) 1 rfl (.pointer (some ⟨g, 0, none⟩)) (.pointer (some ⟨g, 1, none⟩)) (by kernel_rfl) (fld_ir1 g)) S0.out ?_
    refine wpAnyH_take (i := 7) (v := _) rfl (by kernel_rfl) (by kernel_rfl) (by kernel_rfl) (fun _ _ _ h => h) (yieldsIf_load_one (by kernel_rfl) _ (.tmp 13) rfl g 1 (by kernel_rfl) (.int .i64 (p : Int)) (fun w h => PI.c1 h) _ Tryd.underlying3 rfl) S0.out ?_
    refine wpAnyH_take (i := 8) (v := _) rfl (by kernel_rfl) (by kernel_rfl) (by kernel_rfl) (fun _ _ _ h => h) (yieldsIf_move (by kernel_rfl) (.tmp 1) rfl (.int .i64 (m : Int)) (by kernel_rfl)) S0.out ?_
    refine wpAnyH_one 9 _ (by kernel_rfl) rfl fun K hK => ?_
    go_simp
    refine (C1.out 1).mono ?_
    rintro e v1 ⟨A', k', rfl, L1⟩
    have S1 : Hid (PI v1 g B A n c xs ⟨p, 0⟩) := S0.out.below L1
    have b1 : Hid (Below w.heap.size w v1) := step b0.out L1
    refine hK _ _ S1.out ?_
    clear hK K L1
    refine wpAnyH_take (i := 10) (v := (.tuple #[.slice A' k' k', .int .i64 4])) rfl (by kernel_rfl) (by kernel_rfl) (by kernel_rfl) (fun _ _ _ h => h) (.inl ⟨by kernel_rfl, fun w _ => by go_simp⟩) S1.out ?_
    refine wpAnyH_take (i := 11) (v := (.slice A' k' k')) rfl (by kernel_rfl) (by kernel_rfl) (by kernel_rfl) (fun _ _ _ h => h) (.inl ⟨by kernel_rfl, fun w _ => by go_simp⟩) S1.out ?_
    refine wpAnyH_take (i := 12) (v := (.int .i64 4)) rfl (by kernel_rfl) (by kernel_rfl) (by kernel_rfl) (fun _ _ _ h => h) (.inl ⟨by kernel_rfl, fun w _ => by go_simp⟩) S1.out ?_
    refine wpAnyH_take (i := 13) (v := (.slice A' k' k')) rfl (by kernel_rfl) (by kernel_rfl) (by kernel_rfl) (fun _ _ _ h => h) (.inl ⟨by kernel_rfl, fun w _ => by go_simp⟩) S1.out ?_
    refine wpAnyH_take (i := 14) (v := (.int .i64 4)) rfl (by kernel_rfl) (by kernel_rfl) (by kernel_rfl) (fun _ _ _ h => h) (.inl ⟨by kernel_rfl, fun w _ => by go_simp⟩) S1.out ?_
    refine wpAnyH_done (by kernel_rfl) ?_ _
    have CF1 := Lib.hid (CF0.out v1 S1.out)
    clear CF0
    go_wp2_with fail
    refine CF1.out.mono ?_
    rintro e w1 ⟨rfl, hP1, hS1⟩
    have d2 := hP1.c2
    have HP1 := Lib.hid hP1
    have HS1 := Lib.hid ((Save.of_below b1.out g).trans hS1)
    clear hP1 hS1 CF1
    go_wp2
    go_end0
    exact HQ.out _ _ ⟨rfl, HP1.out, HS1.out⟩
  have hpf : rdPart xs m ⟨p, 0⟩ = ((xs.drop p).take m, ⟨p + m, 0⟩) := by
    unfold rdPart
    rw [if_pos rfl, if_neg (by rw [hl]; exact hr)]
  have hzz : zeroOf ((xs.drop p).take m) 0 (m : Int) = zeroOf xs (p : Int) (m : Int) := by
    have hlt : ((xs.drop p).take m).length = m := by rw [List.length_take, List.length_drop]; omega
    have q1 : partErr m 0 (m : Int) = 0 := by unfold partErr; rw [if_neg (by omega), if_neg (by omega)]
    have q2 : partErr n (p : Int) (m : Int) = 0 := by rw [hpe, if_neg hr]
    unfold zeroOf partOf
    rw [hlt, hl, q1, q2, if_pos rfl, if_pos rfl, show Int.toNat 0 = 0 from rfl, List.drop_zero, Int.toNat_natCast, Int.toNat_natCast, List.take_take, Nat.min_self]
  have hrz : rdZ xs m ⟨p, 0⟩ = if zeroOf xs (p : Int) (m : Int) = true then ⟨p + m, 0⟩ else ⟨p + m, 5⟩ := by
    unfold rdZ
    rw [hpf]
    show (if (0 : Int) = 0 then (if zeroOf ((xs.drop p).take m) 0 (m : Int) = true then (⟨p + m, 0⟩ : Rd) else ⟨p + m, 5⟩) else ⟨p + m, 0⟩) = _
    rw [if_pos rfl, hzz]
  have CZ : Hid (∀ (w' : World) (k : Nat), PI w' g B A n c xs ⟨p, 0⟩ → Calls Tryd.prog 73 #[.slice A n c, .int .i64 (p : Int), .int .i64 (m : Int)] (w'.drewN k) fun e w2 => e = .returned (.bool (zeroOf xs (p : Int) (m : Int))) ∧ w'.drewN k = w2) := fun w' k h => Zero_any (w'.drewN k) B A n c xs (p : Int) (m : Int) (h.2.2.2.drewN k) (by omega) (by omega)
  rw [hpe, if_neg hr] at C0
  have C1 := Lib.hid C0
  have CF0 : Hid (∀ (w' : World), PI w' g B A n c xs ⟨p, 0⟩ → Calls Tryd.prog 54 #[.pointer (some ⟨g, 0, none⟩), .int .i64 0] w' fun e w2 => e = .returned (.tuple #[]) ∧ PI w2 g B A n c xs ⟨p, 0⟩ ∧ Save g w' w2) := fun w' h => CF.out w' ⟨p, 0⟩ 0 h
  have CF5 : Hid (∀ (w' : World), PI w' g B A n c xs ⟨p, 0⟩ → Calls Tryd.prog 54 #[.pointer (some ⟨g, 0, none⟩), .int .i64 5] w' fun e w2 => e = .returned (.tuple #[]) ∧ PI w2 g B A n c xs ⟨p, 5⟩ ∧ Save g w' w2) := fun w' h => CF.out w' ⟨p, 0⟩ 5 h
  have HSP : Hid (∀ (w1 : World) (x : Int), PI w1 g B A n c xs ⟨p, x⟩ → PI (w1.setCell ⟨g, 1, none⟩ (.int .i64 ((p : Int) + m))) g B A n c xs ⟨p + m, x⟩) := fun w1 x h => h.setP (p + m) (by omega)
  rw [hrz]
  obtain ⟨z, hz⟩ : ∃ z, z = zeroOf xs (p : Int) (m : Int) := ⟨_, rfl⟩
  rw [← hz] at CZ ⊢
  clear hP hl hpe hpf hzz hrz hz C0 CF
  cases z
  · have HQ : Hid (∀ e w', (e = .returned (.tuple #[]) ∧ PI w' g B A n c xs ⟨p + m, 5⟩ ∧ Save g w w') → IPost w g B A n c xs (.tuple #[]) (if false = true then ⟨p + m, 0⟩ else ⟨p + m, 5⟩) e w') := fun _ _ h => h
    go_enter Tryd.func51, Tryd.ntmps51
    go_upto_region 0 with fail
    refine wp_region_held (S := fun w' => PI w' g B A n c xs ⟨p, 0⟩) (by kernel_rfl) ?_
    change wpAnyH _ _ _ _ _ _ _ _ w.drew
    have S0 : Hid (PI w.drew g B A n c xs ⟨p, 0⟩) := HP.out.drew
    have b0 : Hid (Below w.heap.size w w.drew) := (drewed w 1)
    refine wpAnyH_take (i := 0) (v := _) rfl (by kernel_rfl) (by kernel_rfl) (by kernel_rfl) (fun _ _ _ h => h) (yieldsIf_move (by kernel_rfl) (.tmp 0) rfl (.pointer (some ⟨g, 0, none⟩)) (by kernel_rfl)) S0.out ?_
    refine wpAnyH_take (i := 1) (v := _) rfl (by kernel_rfl) (by kernel_rfl) (by kernel_rfl) (fun _ _ _ h => h) (yieldsIf_nil (by kernel_rfl) (.tmp 7) rfl ⟨g, 0, none⟩ (by kernel_rfl)) S0.out ?_
    refine wpAnyH_take (i := 2) (v := _) rfl (by kernel_rfl) (by kernel_rfl) (by kernel_rfl) (fun _ _ _ h => h) (yieldsIf_fld (by kernel_rfl) _ (.tmp 8) 0 rfl (.pointer (some ⟨g, 0, none⟩)) (.pointer (some ⟨g, 0, none⟩)) (by kernel_rfl) (fld_ir0 g)) S0.out ?_
    refine wpAnyH_take (i := 3) (v := _) rfl (by kernel_rfl) (by kernel_rfl) (by kernel_rfl) (fun _ _ _ h => h) (yieldsIf_load_one (by kernel_rfl) _ (.tmp 9) rfl g 0 (by kernel_rfl) (.slice A n c) (fun w h => PI.c0 h) _ Tryd.underlying29 rfl) S0.out ?_
    refine wpAnyH_take (i := 4) (v := _) rfl (by kernel_rfl) (by kernel_rfl) (by kernel_rfl) (fun _ _ _ h => h) (yieldsIf_move (by kernel_rfl) (.tmp 0) rfl (.pointer (some ⟨g, 0, none⟩)) (by kernel_rfl)) S0.out ?_
    refine wpAnyH_take (i := 5) (v := _) rfl (by kernel_rfl) (by kernel_rfl) (by kernel_rfl) (fun _ _ _ h => h) (yieldsIf_nil (by kernel_rfl) (.tmp 11) rfl ⟨g, 0, none⟩ (by kernel_rfl)) S0.out ?_
    refine wpAnyH_take (i := 6) (v := _) rfl (by kernel_rfl) (by kernel_rfl) (by kernel_rfl) (fun _ _ _ h => h) (yieldsIf_fld (by kernel_rfl) _ (.tmp 12) 1 rfl (.pointer (some ⟨g, 0, none⟩)) (.pointer (some ⟨g, 1, none⟩)) (by kernel_rfl) (fld_ir1 g)) S0.out ?_
    refine wpAnyH_take (i := 7) (v := _) rfl (by kernel_rfl) (by kernel_rfl) (by kernel_rfl) (fun _ _ _ h => h) (yieldsIf_load_one (by kernel_rfl) _ (.tmp 13) rfl g 1 (by kernel_rfl) (.int .i64 (p : Int)) (fun w h => PI.c1 h) _ Tryd.underlying3 rfl) S0.out ?_
    refine wpAnyH_take (i := 8) (v := _) rfl (by kernel_rfl) (by kernel_rfl) (by kernel_rfl) (fun _ _ _ h => h) (yieldsIf_move (by kernel_rfl) (.tmp 1) rfl (.int .i64 (m : Int)) (by kernel_rfl)) S0.out ?_
    refine wpAnyH_one 9 _ (by kernel_rfl) rfl fun K hK => ?_
    go_simp
    refine (C1.out 1).mono ?_
    rintro e v1 ⟨A', k', rfl, L1⟩
    have S1 : Hid (PI v1 g B A n c xs ⟨p, 0⟩) := S0.out.below L1
    have b1 : Hid (Below w.heap.size w v1) := step b0.out L1
    refine hK _ _ S1.out ?_
    clear hK K L1
    refine wpAnyH_take (i := 10) (v := (.tuple #[.slice A' k' k', .int .i64 0])) rfl (by kernel_rfl) (by kernel_rfl) (by kernel_rfl) (fun _ _ _ h => h) (.inl ⟨by kernel_rfl, fun w _ => by go_simp⟩) S1.out ?_
    refine wpAnyH_take (i := 11) (v := (.slice A' k' k')) rfl (by kernel_rfl) (by kernel_rfl) (by kernel_rfl) (fun _ _ _ h => h) (.inl ⟨by kernel_rfl, fun w _ => by go_simp⟩) S1.out ?_
    refine wpAnyH_take (i := 12) (v := (.int .i64 0)) rfl (by kernel_rfl) (by kernel_rfl) (by kernel_rfl) (fun _ _ _ h => h) (.inl ⟨by kernel_rfl, fun w _ => by go_simp⟩) S1.out ?_
    refine wpAnyH_take (i := 13) (v := (.slice A' k' k')) rfl (by kernel_rfl) (by kernel_rfl) (by kernel_rfl) (fun _ _ _ h => h) (.inl ⟨by kernel_rfl, fun w _ => by go_simp⟩) S1.out ?_
    refine wpAnyH_take (i := 14) (v := (.int .i64 0)) rfl (by kernel_rfl) (by kernel_rfl) (by kernel_rfl) (fun _ _ _ h => h) (.inl ⟨by kernel_rfl, fun w _ => by go_simp⟩) S1.out ?_
    refine wpAnyH_done (by kernel_rfl) ?_ _
    have CF1 := Lib.hid (CF0.out v1 S1.out)
    clear CF0
    go_wp2_with fail
    refine CF1.out.mono ?_
    rintro e w1 ⟨rfl, hP1, hS1⟩
    have d0 := hP1.c0
    have d1 := hP1.c1
    have d2 := hP1.c2
    have HP1 := Lib.hid hP1
    have HS1 := Lib.hid ((Save.of_below b1.out g).trans hS1)
    have CZ1 := Lib.hid (CZ.out w1 · hP1)
    clear hP1 hS1 CF1 CZ
    go_wp2
    go_quiet ((go_at_call 73; ((with_reducible exact rq_same (CZ1.out _)))))
    have CF2 := Lib.hid (CF5.out _ (HP1.out.drewN nq))
    have HS2 := Lib.hid (HS1.out.drewN nq)
    clear CF5 CZ1
    go_wp2_with fail
    refine CF2.out.mono ?_
    rintro e w2 ⟨rfl, hP2, hS2⟩
    have g1 := hP2.c1
    have k1 := hP2.fz 1
    have HP2 := Lib.hid (HSP.out w2 5 hP2)
    have HS3 := Lib.hid (HS2.out.trans hS2)
    clear hP2 hS2 CF2 HSP
    go_wp2
    go_end0
    exact HQ.out _ _ ⟨rfl, HP2.out, HS3.out.setCell 1 _⟩
  · have HQ : Hid (∀ e w', (e = .returned (.tuple #[]) ∧ PI w' g B A n c xs ⟨p + m, 0⟩ ∧ Save g w w') → IPost w g B A n c xs (.tuple #[]) (if true = true then ⟨p + m, 0⟩ else ⟨p + m, 5⟩) e w') := fun _ _ h => h
    go_enter Tryd.func51, Tryd.ntmps51
    go_upto_region 0 with fail
    refine wp_region_held (S := fun w' => PI w' g B A n c xs ⟨p, 0⟩) (by kernel_rfl) ?_
    change wpAnyH _ _ _ _ _ _ _ _ w.drew
    have S0 : Hid (PI w.drew g B A n c xs ⟨p, 0⟩) := HP.out.drew
    have b0 : Hid (Below w.heap.size w w.drew) := (drewed w 1)
    refine wpAnyH_take (i := 0) (v := _) rfl (by kernel_rfl) (by kernel_rfl) (by kernel_rfl) (fun _ _ _ h => h) (yieldsIf_move (by kernel_rfl) (.tmp 0) rfl (.pointer (some ⟨g, 0, none⟩)) (by kernel_rfl)) S0.out ?_
    refine wpAnyH_take (i := 1) (v := _) rfl (by kernel_rfl) (by kernel_rfl) (by kernel_rfl) (fun _ _ _ h => h) (yieldsIf_nil (by kernel_rfl) (.tmp 7) rfl ⟨g, 0, none⟩ (by kernel_rfl)) S0.out ?_
    refine wpAnyH_take (i := 2) (v := _) rfl (by kernel_rfl) (by kernel_rfl) (by kernel_rfl) (fun _ _ _ h => h) (yieldsIf_fld (by kernel_rfl) _ (.tmp 8) 0 rfl (.pointer (some ⟨g, 0, none⟩)) (.pointer (some ⟨g, 0, none⟩)) (by kernel_rfl) (fld_ir0 g)) S0.out ?_
    refine wpAnyH_take (i := 3) (v := _) rfl (by kernel_rfl) (by kernel_rfl) (by kernel_rfl) (fun _ _ _ h => h) (yieldsIf_load_one (by kernel_rfl) _ (.tmp 9) rfl g 0 (by kernel_rfl) (.slice A n c) (fun w h => PI.c0 h) _ Tryd.underlying29 rfl) S0.out ?_
    refine wpAnyH_take (i := 4) (v := _) rfl (by kernel_rfl) (by kernel_rfl) (by kernel_rfl) (fun _ _ _ h => h) (yieldsIf_move (by kernel_rfl) (.tmp 0) rfl (.pointer (some ⟨g, 0, none⟩)) (by kernel_rfl)) S0.out ?_
    refine wpAnyH_take (i := 5) (v := _) rfl (by kernel_rfl) (by kernel_rfl) (by kernel_rfl) (fun _ _ _ h => h) (yieldsIf_nil (by kernel_rfl) (.tmp 11) rfl ⟨g, 0, none⟩ (by kernel_rfl)) S0.out ?_
    refine wpAnyH_take (i := 6) (v := _) rfl (by kernel_rfl) (by kernel_rfl) (by kernel_rfl) (fun _ _ _ h => h) (yieldsIf_fld (by kernel_rfl) _ (.tmp 12) 1 rfl (.pointer (some ⟨g, 0, none⟩)) (.pointer (some ⟨g, 1, none⟩)) (by kernel_rfl) (fld_ir1 g)) S0.out ?_
    refine wpAnyH_take (i := 7) (v := _) rfl (by kernel_rfl) (by kernel_rfl) (by kernel_rfl) (fun _ _ _ h => h) (yieldsIf_load_one (by kernel_rfl) _ (.tmp 13) rfl g 1 (by kernel_rfl) (.int .i64 (p : Int)) (fun w h => PI.c1 h) _ Tryd.underlying3 rfl) S0.out ?_
    refine wpAnyH_take (i := 8) (v := _) rfl (by kernel_rfl) (by kernel_rfl) (by kernel_rfl) (fun _ _ _ h => h) (yieldsIf_move (by kernel_rfl) (.tmp 1) rfl (.int .i64 (m : Int)) (by kernel_rfl)) S0.out ?_
    refine wpAnyH_one 9 _ (by kernel_rfl) rfl fun K hK => ?_
    go_simp
    refine (C1.out 1).mono ?_
    rintro e v1 ⟨A', k', rfl, L1⟩
    have S1 : Hid (PI v1 g B A n c xs ⟨p, 0⟩) := S0.out.below L1
    have b1 : Hid (Below w.heap.size w v1) := step b0.out L1
    refine hK _ _ S1.out ?_
    clear hK K L1
    refine wpAnyH_take (i := 10) (v := (.tuple #[.slice A' k' k', .int .i64 0])) rfl (by kernel_rfl) (by kernel_rfl) (by kernel_rfl) (fun _ _ _ h => h) (.inl ⟨by kernel_rfl, fun w _ => by go_simp⟩) S1.out ?_
    refine wpAnyH_take (i := 11) (v := (.slice A' k' k')) rfl (by kernel_rfl) (by kernel_rfl) (by kernel_rfl) (fun _ _ _ h => h) (.inl ⟨by kernel_rfl, fun w _ => by go_simp⟩) S1.out ?_
    refine wpAnyH_take (i := 12) (v := (.int .i64 0)) rfl (by kernel_rfl) (by kernel_rfl) (by kernel_rfl) (fun _ _ _ h => h) (.inl ⟨by kernel_rfl, fun w _ => by go_simp⟩) S1.out ?_
    refine wpAnyH_take (i := 13) (v := (.slice A' k' k')) rfl (by kernel_rfl) (by kernel_rfl) (by kernel_rfl) (fun _ _ _ h => h) (.inl ⟨by kernel_rfl, fun w _ => by go_simp⟩) S1.out ?_
    refine wpAnyH_take (i := 14) (v := (.int .i64 0)) rfl (by kernel_rfl) (by kernel_rfl) (by kernel_rfl) (fun _ _ _ h => h) (.inl ⟨by kernel_rfl, fun w _ => by go_simp⟩) S1.out ?_
    refine wpAnyH_done (by kernel_rfl) ?_ _
    have CF1 := Lib.hid (CF0.out v1 S1.out)
    clear CF0
    go_wp2_with fail
    refine CF1.out.mono ?_
    rintro e w1 ⟨rfl, hP1, hS1⟩
    have d0 := hP1.c0
    have d1 := hP1.c1
    have d2 := hP1.c2
    have k1 := hP1.fz 1
    have HP1 := Lib.hid hP1
    have HS1 := Lib.hid ((Save.of_below b1.out g).trans hS1)
    have CZ1 := Lib.hid (CZ.out w1 · hP1)
    clear hP1 hS1 CF1 CZ
    go_wp2
    go_quiet ((go_at_call 73; ((with_reducible exact rq_same (CZ1.out _)))))
    go_wp2
    go_end0
    exact HQ.out _ _ ⟨rfl, HSP.out _ 0 (HP1.out.drewN nq), (HS1.out.drewN nq).setCell 1 _⟩
set_option maxHeartbeats 2000000 in
theorem intext_any (w : World) (g B : Nat) (A : Option Addr) (n c : Nat) (xs : List Int) (r : Rd) (hP : PI w g B A n c xs r) (hBw : B ≤ w.heap.size) :
    Calls Tryd.prog 52 #[.pointer (some ⟨g, 0, none⟩)] w (IPost w g B A n c xs (.string ⟨(rdText xs r).1.toArray⟩) (rdText xs r).2) := by
  obtain ⟨p, er⟩ := r
  have HP := Lib.hid hP
  have hl := hP.2.2.2.len
  have hby := hP.2.2.2.byte
  have hrm := hP.2.2.2.room
  have hp : p ≤ n := hP.1
  have CF : Hid (∀ (w' : World) (q : Rd) (x : Int), PI w' g B A n c xs q → Calls Tryd.prog 54 #[.pointer (some ⟨g, 0, none⟩), .int .i64 x] w' fun e w2 => e = .returned (.tuple #[]) ∧ PI w2 g B A n c xs (rdFail x q) ∧ Save g w' w2) := fun w' q x h => infail_any w' g B A n c xs q x h
  obtain ⟨hg0, hg1⟩ := gtextNext_nonneg hby (p : Int) (by omega)
  have C1 : Hid (∀ k, Calls Tryd.prog 74 #[.slice A n c, .int .i64 (p : Int)] (w.drewN k) fun e w' => e = .returned (.tuple #[.string ⟨(gtextOf xs (p : Int)).toArray⟩, .int .i64 (gtextNext xs (p : Int)), .int .i64 (gtextErr xs (p : Int))]) ∧ Below (w.drewN k).heap.size (w.drewN k) w') := fun k => GetText_any (w.drewN k) A n c xs (p : Int) ((hP.2.2.2.drewN k).mono hBw) (by omega)
  by_cases he : er = 0
  rotate_left
  · have HQ : Hid (∀ e w', (e = .returned (.string .empty) ∧ PI w' g B A n c xs ⟨p, er⟩ ∧ Save g w w') → IPost w g B A n c xs (.string ⟨(rdText xs ⟨p, er⟩).1.toArray⟩) (rdText xs ⟨p, er⟩).2 e w') := by
      intro e w' h
      unfold rdText
      rw [if_neg he]
      exact h
    have hrf : ∀ x, rdFail x ⟨p, er⟩ = ⟨p, er⟩ := fun x => by unfold rdFail; rw [if_neg he]
    have CF0 : Hid (∀ (w' : World) (x : Int), PI w' g B A n c xs ⟨p, er⟩ → Calls Tryd.prog 54 #[.pointer (some ⟨g, 0, none⟩), .int .i64 x] w' fun e w2 => e = .returned (.tuple #[]) ∧ PI w2 g B A n c xs ⟨p, er⟩ ∧ Save g w' w2) := fun w' x h => by
      have h1 := CF.out w' ⟨p, er⟩ x h
      rw [hrf] at h1
      exact h1
    obtain ⟨tx, htx⟩ : ∃ z, z = gtextOf xs (p : Int) := ⟨_, rfl⟩
    obtain ⟨nx, hnx⟩ : ∃ z, z = gtextNext xs (p : Int) := ⟨_, rfl⟩
    obtain ⟨ex, hex⟩ : ∃ z, z = gtextErr xs (p : Int) := ⟨_, rfl⟩
    rw [← htx, ← hnx, ← hex] at C1
    have hne : (er != 0) = true := by simpa using he
    clear hP hl hby he hrf htx hnx hex hg0 hg1 CF
    go_enter Tryd.func52, Tryd.ntmps52
    go_upto_region 1 with fail
    refine wp_region_held (S := fun w' => PI w' g B A n c xs ⟨p, er⟩) (by kernel_rfl) ?_
    change wpAnyH _ _ _ _ _ _ _ _ w.drew
    have S0 : Hid (PI w.drew g B A n c xs ⟨p, er⟩) := HP.out.drew
    have b0 : Hid (Below w.heap.size w w.drew) := (drewed w 1)
    refine wpAnyH_take (i := 0) (v := _) rfl (by kernel_rfl) (by kernel_rfl) (by kernel_rfl) (fun _ _ _ h => h) (yieldsIf_move (by kernel_rfl) (.tmp 0) rfl (.pointer (some ⟨g, 0, none⟩)) (by kernel_rfl)) S0.out ?_
    refine wpAnyH_take (i := 1) (v := _) rfl (by kernel_rfl) (by kernel_rfl) (by kernel_rfl) (fun _ _ _ h => h) (yieldsIf_nil (by kernel_rfl) (.tmp 7) rfl ⟨g, 0, none⟩ (by kernel_rfl)) S0.out ?_
    refine wpAnyH_take (i := 2) (v := _) rfl (by kernel_rfl) (by kernel_rfl) (by kernel_rfl) (fun _ _ _ h => h) (yieldsIf_fld (by kernel_rfl) _ (.tmp 8) 0 rfl (.pointer (some ⟨g, 0, none⟩)) (.pointer (some ⟨g, 0, none⟩)) (by kernel_rfl) (fld_ir0 g)) S0.out ?_
    refine wpAnyH_take (i := 3) (v := _) rfl (by kernel_rfl) (by kernel_rfl) (by kernel_rfl) (fun _ _ _ h => h) (yieldsIf_load_one (by kernel_rfl) _ (.tmp 9) rfl g 0 (by kernel_rfl) (.slice A n c) (fun w h => PI.c0 h) _ Tryd.underlying29 rfl) S0.out ?_
    refine wpAnyH_take (i := 4) (v := _) rfl (by kernel_rfl) (by kernel_rfl) (by kernel_rfl) (fun _ _ _ h => h) (yieldsIf_move (by kernel_rfl) (.tmp 0) rfl (.pointer (some ⟨g, 0, none⟩)) (by kernel_rfl)) S0.out ?_
    refine wpAnyH_take (i := 5) (v := _) rfl (by kernel_rfl) (by kernel_rfl) (by kernel_rfl) (fun _ _ _ h => h) (yieldsIf_nil (by kernel_rfl) (.tmp 11) rfl ⟨g, 0, none⟩ (by kernel_rfl)) S0.out ?_
    refine wpAnyH_take (i := 6) (v := _) rfl (by kernel_rfl) (by kernel_rfl) (by kernel_rfl) (fun _ _ _ h => h) (yieldsIf_fld (by kernel_rfl) _ (.tmp 12) 1 rfl (.pointer (some ⟨g, 0, none⟩)) (.pointer (some ⟨g, 1, none⟩)) (by kernel_rfl) (fld_ir1 g)) S0.out ?_
    refine wpAnyH_take (i := 7) (v := _) rfl (by kernel_rfl) (by kernel_rfl) (by kernel_rfl) (fun _ _ _ h => h) (yieldsIf_load_one (by kernel_rfl) _ (.tmp 13) rfl g 1 (by kernel_rfl) (.int .i64 (p : Int)) (fun w h => PI.c1 h) _ Tryd.underlying3 rfl) S0.out ?_
    refine wpAnyH_one 8 _ (by kernel_rfl) rfl fun K hK => ?_
    go_simp
    refine (C1.out 1).mono ?_
    rintro e v1 ⟨rfl, L1⟩
    have S1 : Hid (PI v1 g B A n c xs ⟨p, er⟩) := S0.out.below L1
    have b1 : Hid (Below w.heap.size w v1) := step b0.out L1
    refine hK _ _ S1.out ?_
    clear hK K L1
    refine wpAnyH_take (i := 9) (v := (.tuple #[.string ⟨tx.toArray⟩, .int .i64 nx, .int .i64 ex])) rfl (by kernel_rfl) (by kernel_rfl) (by kernel_rfl) (fun _ _ _ h => h) (.inl ⟨by kernel_rfl, fun w _ => by go_simp⟩) S1.out ?_
    refine wpAnyH_take (i := 10) (v := (.string ⟨tx.toArray⟩)) rfl (by kernel_rfl) (by kernel_rfl) (by kernel_rfl) (fun _ _ _ h => h) (.inl ⟨by kernel_rfl, fun w _ => by go_simp⟩) S1.out ?_
    refine wpAnyH_take (i := 11) (v := (.int .i64 nx)) rfl (by kernel_rfl) (by kernel_rfl) (by kernel_rfl) (fun _ _ _ h => h) (.inl ⟨by kernel_rfl, fun w _ => by go_simp⟩) S1.out ?_
    refine wpAnyH_take (i := 12) (v := (.int .i64 ex)) rfl (by kernel_rfl) (by kernel_rfl) (by kernel_rfl) (fun _ _ _ h => h) (.inl ⟨by kernel_rfl, fun w _ => by go_simp⟩) S1.out ?_
    refine wpAnyH_take (i := 13) (v := (.string ⟨tx.toArray⟩)) rfl (by kernel_rfl) (by kernel_rfl) (by kernel_rfl) (fun _ _ _ h => h) (.inl ⟨by kernel_rfl, fun w _ => by go_simp⟩) S1.out ?_
    refine wpAnyH_take (i := 14) (v := (.int .i64 nx)) rfl (by kernel_rfl) (by kernel_rfl) (by kernel_rfl) (fun _ _ _ h => h) (.inl ⟨by kernel_rfl, fun w _ => by go_simp⟩) S1.out ?_
    refine wpAnyH_take (i := 15) (v := (.int .i64 ex)) rfl (by kernel_rfl) (by kernel_rfl) (by kernel_rfl) (fun _ _ _ h => h) (.inl ⟨by kernel_rfl, fun w _ => by go_simp⟩) S1.out ?_
    refine wpAnyH_done (by kernel_rfl) ?_ _
    have CF1 := Lib.hid (CF0.out v1 ex S1.out)
    clear CF0
    go_wp2_with fail
    refine CF1.out.mono ?_
    rintro e w1 ⟨rfl, hP1, hS1⟩
    have d2 := hP1.c2
    have HP1 := Lib.hid hP1
    have HS1 := Lib.hid ((Save.of_below b1.out g).trans hS1)
    clear hP1 hS1 CF1
    go_wp2
    go_ret
    exact HQ.out _ _ ⟨rfl, HP1.out, HS1.out⟩
  subst he
  by_cases hte : gtextErr xs (p : Int) = 0
  · have HQ : Hid (∀ e w', (e = .returned (.string ⟨(gtextOf xs (p : Int)).toArray⟩) ∧ PI w' g B A n c xs ⟨(gtextNext xs (p : Int)).toNat, 0⟩ ∧ Save g w w') → IPost w g B A n c xs (.string ⟨(rdText xs ⟨p, 0⟩).1.toArray⟩) (rdText xs ⟨p, 0⟩).2 e w') := by
      intro e w' h
      unfold rdText
      rw [if_pos rfl]
      show IPost w g B A n c xs (.string ⟨(gtextOf xs (p : Int)).toArray⟩) ⟨if gtextErr xs (p : Int) = 0 then (gtextNext xs (p : Int)).toNat else p, gtextErr xs (p : Int)⟩ e w'
      rw [if_pos hte, hte]
      exact h
    have HSP : Hid (∀ (w1 : World), PI w1 g B A n c xs ⟨p, 0⟩ → PI (w1.setCell ⟨g, 1, none⟩ (.int .i64 (gtextNext xs (p : Int)))) g B A n c xs ⟨(gtextNext xs (p : Int)).toNat, 0⟩) := fun w1 h => by
      have h1 := h.setP (gtextNext xs (p : Int)).toNat (by omega)
      rw [Int.toNat_of_nonneg hg0] at h1
      exact h1
    rw [hte] at C1
    have CF0 : Hid (∀ (w' : World), PI w' g B A n c xs ⟨p, 0⟩ → Calls Tryd.prog 54 #[.pointer (some ⟨g, 0, none⟩), .int .i64 0] w' fun e w2 => e = .returned (.tuple #[]) ∧ PI w2 g B A n c xs ⟨p, 0⟩ ∧ Save g w' w2) := fun w' h => CF.out w' ⟨p, 0⟩ 0 h
    obtain ⟨tx, htx⟩ : ∃ z, z = gtextOf xs (p : Int) := ⟨_, rfl⟩
    obtain ⟨nx, hnx⟩ : ∃ z, z = gtextNext xs (p : Int) := ⟨_, rfl⟩
    rw [← htx, ← hnx] at C1 HQ
    rw [← hnx] at hg0 hg1 HSP
    clear hP hl hby htx hnx hte CF
    go_enter Tryd.func52, Tryd.ntmps52
    go_upto_region 1 with fail
    refine wp_region_held (S := fun w' => PI w' g B A n c xs ⟨p, 0⟩) (by kernel_rfl) ?_
    change wpAnyH _ _ _ _ _ _ _ _ w.drew
    have S0 : Hid (PI w.drew g B A n c xs ⟨p, 0⟩) := HP.out.drew
    have b0 : Hid (Below w.heap.size w w.drew) := (drewed w 1)
    refine wpAnyH_take (i := 0) (v := _) rfl (by kernel_rfl) (by kernel_rfl) (by kernel_rfl) (fun _ _ _ h => h) (yieldsIf_move (by kernel_rfl) (.tmp 0) rfl (.pointer (some ⟨g, 0, none⟩)) (by kernel_rfl)) S0.out ?_
    refine wpAnyH_take (i := 1) (v := _) rfl (by kernel_rfl) (by kernel_rfl) (by kernel_rfl) (fun _ _ _ h => h) (yieldsIf_nil (by kernel_rfl) (.tmp 7) rfl ⟨g, 0, none⟩ (by kernel_rfl)) S0.out ?_
    refine wpAnyH_take (i := 2) (v := _) rfl (by kernel_rfl) (by kernel_rfl) (by kernel_rfl) (fun _ _ _ h => h) (yieldsIf_fld (by kernel_rfl) _ (.tmp 8) 0 rfl (.pointer (some ⟨g, 0, none⟩)) (.pointer (some ⟨g, 0, none⟩)) (by kernel_rfl) (fld_ir0 g)) S0.out ?_
    refine wpAnyH_take (i := 3) (v := _) rfl (by kernel_rfl) (by kernel_rfl) (by kernel_rfl) (fun _ _ _ h => h) (yieldsIf_load_one (by kernel_rfl) _ (.tmp 9) rfl g 0 (by kernel_rfl) (.slice A n c) (fun w h => PI.c0 h) _ Tryd.underlying29 rfl) S0.out ?_
    refine wpAnyH_take (i := 4) (v := _) rfl (by kernel_rfl) (by kernel_rfl) (by kernel_rfl) (fun _ _ _ h => h) (yieldsIf_move (by kernel_rfl) (.tmp 0) rfl (.pointer (some ⟨g, 0, none⟩)) (by kernel_rfl)) S0.out ?_
    refine wpAnyH_take (i := 5) (v := _) rfl (by kernel_rfl) (by kernel_rfl) (by kernel_rfl) (fun _ _ _ h => h) (yieldsIf_nil (by kernel_rfl) (.tmp 11) rfl ⟨g, 0, none⟩ (by kernel_rfl)) S0.out ?_
    refine wpAnyH_take (i := 6) (v := _) rfl (by kernel_rfl) (by kernel_rfl) (by kernel_rfl) (fun _ _ _ h => h) (yieldsIf_fld (by kernel_rfl) _ (.tmp 12) 1 rfl (.pointer (some ⟨g, 0, none⟩)) (.pointer (some ⟨g, 1, none⟩)) (by kernel_rfl) (fld_ir1 g)) S0.out ?_
    refine wpAnyH_take (i := 7) (v := _) rfl (by kernel_rfl) (by kernel_rfl) (by kernel_rfl) (fun _ _ _ h => h) (yieldsIf_load_one (by kernel_rfl) _ (.tmp 13) rfl g 1 (by kernel_rfl) (.int .i64 (p : Int)) (fun w h => PI.c1 h) _ Tryd.underlying3 rfl) S0.out ?_
    refine wpAnyH_one 8 _ (by kernel_rfl) rfl fun K hK => ?_
    go_simp
    refine (C1.out 1).mono ?_
    rintro e v1 ⟨rfl, L1⟩
    have S1 : Hid (PI v1 g B A n c xs ⟨p, 0⟩) := S0.out.below L1
    have b1 : Hid (Below w.heap.size w v1) := step b0.out L1
    refine hK _ _ S1.out ?_
    clear hK K L1
    refine wpAnyH_take (i := 9) (v := (.tuple #[.string ⟨tx.toArray⟩, .int .i64 nx, .int .i64 0])) rfl (by kernel_rfl) (by kernel_rfl) (by kernel_rfl) (fun _ _ _ h => h) (.inl ⟨by kernel_rfl, fun w _ => by go_simp⟩) S1.out ?_
    refine wpAnyH_take (i := 10) (v := (.string ⟨tx.toArray⟩)) rfl (by kernel_rfl) (by kernel_rfl) (by kernel_rfl) (fun _ _ _ h => h) (.inl ⟨by kernel_rfl, fun w _ => by go_simp⟩) S1.out ?_
    refine wpAnyH_take (i := 11) (v := (.int .i64 nx)) rfl (by kernel_rfl) (by kernel_rfl) (by kernel_rfl) (fun _ _ _ h => h) (.inl ⟨by kernel_rfl, fun w _ => by go_simp⟩) S1.out ?_
    refine wpAnyH_take (i := 12) (v := (.int .i64 0)) rfl (by kernel_rfl) (by kernel_rfl) (by kernel_rfl) (fun _ _ _ h => h) (.inl ⟨by kernel_rfl, fun w _ => by go_simp⟩) S1.out ?_
    refine wpAnyH_take (i := 13) (v := (.string ⟨tx.toArray⟩)) rfl (by kernel_rfl) (by kernel_rfl) (by kernel_rfl) (fun _ _ _ h => h) (.inl ⟨by kernel_rfl, fun w _ => by go_simp⟩) S1.out ?_
    refine wpAnyH_take (i := 14) (v := (.int .i64 nx)) rfl (by kernel_rfl) (by kernel_rfl) (by kernel_rfl) (fun _ _ _ h => h) (.inl ⟨by kernel_rfl, fun w _ => by go_simp⟩) S1.out ?_
    refine wpAnyH_take (i := 15) (v := (.int .i64 0)) rfl (by kernel_rfl) (by kernel_rfl) (by kernel_rfl) (fun _ _ _ h => h) (.inl ⟨by kernel_rfl, fun w _ => by go_simp⟩) S1.out ?_
    refine wpAnyH_done (by kernel_rfl) ?_ _
    have CF1 := Lib.hid (CF0.out v1 S1.out)
    clear CF0
    go_wp2_with fail
    refine CF1.out.mono ?_
    rintro e w1 ⟨rfl, hP1, hS1⟩
    have d1 := hP1.c1
    have d2 := hP1.c2
    have k1 := hP1.fz 1
    have HP1 := Lib.hid (HSP.out w1 hP1)
    have HS1 := Lib.hid ((Save.of_below b1.out g).trans hS1)
    clear hP1 hS1 CF1 HSP
    go_wp2
    go_ret
    exact HQ.out _ _ ⟨rfl, HP1.out, HS1.out.setCell 1 _⟩
  · have HQ : Hid (∀ e w', (e = .returned (.string .empty) ∧ PI w' g B A n c xs ⟨p, gtextErr xs (p : Int)⟩ ∧ Save g w w') → IPost w g B A n c xs (.string ⟨(rdText xs ⟨p, 0⟩).1.toArray⟩) (rdText xs ⟨p, 0⟩).2 e w') := by
      intro e w' h
      unfold rdText
      rw [if_pos rfl]
      show IPost w g B A n c xs (.string ⟨(gtextOf xs (p : Int)).toArray⟩) ⟨if gtextErr xs (p : Int) = 0 then (gtextNext xs (p : Int)).toNat else p, gtextErr xs (p : Int)⟩ e w'
      rw [if_neg hte]
      have e0 : gtextOf xs (p : Int) = [] := by unfold gtextOf; rw [if_neg hte]
      rw [e0]
      exact h
    have CF0 : Hid (∀ (w' : World), PI w' g B A n c xs ⟨p, 0⟩ → Calls Tryd.prog 54 #[.pointer (some ⟨g, 0, none⟩), .int .i64 (gtextErr xs (p : Int))] w' fun e w2 => e = .returned (.tuple #[]) ∧ PI w2 g B A n c xs ⟨p, gtextErr xs (p : Int)⟩ ∧ Save g w' w2) := fun w' h => CF.out w' ⟨p, 0⟩ _ h
    obtain ⟨tx, htx⟩ : ∃ z, z = gtextOf xs (p : Int) := ⟨_, rfl⟩
    obtain ⟨nx, hnx⟩ : ∃ z, z = gtextNext xs (p : Int) := ⟨_, rfl⟩
    obtain ⟨ex, hex⟩ : ∃ z, z = gtextErr xs (p : Int) := ⟨_, rfl⟩
    rw [← htx, ← hnx, ← hex] at C1
    rw [← hex] at HQ CF0 hte
    have hne : (ex != 0) = true := by simpa using hte
    clear hP hl hby htx hnx hex hte CF
    go_enter Tryd.func52, Tryd.ntmps52
    go_upto_region 1 with fail
    refine wp_region_held (S := fun w' => PI w' g B A n c xs ⟨p, 0⟩) (by kernel_rfl) ?_
    change wpAnyH _ _ _ _ _ _ _ _ w.drew
    have S0 : Hid (PI w.drew g B A n c xs ⟨p, 0⟩) := HP.out.drew
    have b0 : Hid (Below w.heap.size w w.drew) := (drewed w 1)
    refine wpAnyH_take (i := 0) (v := _) rfl (by kernel_rfl) (by kernel_rfl) (by kernel_rfl) (fun _ _ _ h => h) (yieldsIf_move (by kernel_rfl) (.tmp 0) rfl (.pointer (some ⟨g, 0, none⟩)) (by kernel_rfl)) S0.out ?_
    refine wpAnyH_take (i := 1) (v := _) rfl (by kernel_rfl) (by kernel_rfl) (by kernel_rfl) (fun _ _ _ h => h) (yieldsIf_nil (by kernel_rfl) (.tmp 7) rfl ⟨g, 0, none⟩ (by kernel_rfl)) S0.out ?_
    refine wpAnyH_take (i := 2) (v := _) rfl (by kernel_rfl) (by kernel_rfl) (by kernel_rfl) (fun _ _ _ h => h) (yieldsIf_fld (by kernel_rfl) _ (.tmp 8) 0 rfl (.pointer (some ⟨g, 0, none⟩)) (.pointer (some ⟨g, 0, none⟩)) (by kernel_rfl) (fld_ir0 g)) S0.out ?_
    refine wpAnyH_take (i := 3) (v := _) rfl (by kernel_rfl) (by kernel_rfl) (by kernel_rfl) (fun _ _ _ h => h) (yieldsIf_load_one (by kernel_rfl) _ (.tmp 9) rfl g 0 (by kernel_rfl) (.slice A n c) (fun w h => PI.c0 h) _ Tryd.underlying29 rfl) S0.out ?_
    refine wpAnyH_take (i := 4) (v := _) rfl (by kernel_rfl) (by kernel_rfl) (by kernel_rfl) (fun _ _ _ h => h) (yieldsIf_move (by kernel_rfl) (.tmp 0) rfl (.pointer (some ⟨g, 0, none⟩)) (by kernel_rfl)) S0.out ?_
    refine wpAnyH_take (i := 5) (v := _) rfl (by kernel_rfl) (by kernel_rfl) (by kernel_rfl) (fun _ _ _ h => h) (yieldsIf_nil (by kernel_rfl) (.tmp 11) rfl ⟨g, 0, none⟩ (by kernel_rfl)) S0.out ?_
    refine wpAnyH_take (i := 6) (v := _) rfl (by kernel_rfl) (by kernel_rfl) (by kernel_rfl) (fun _ _ _ h => h) (yieldsIf_fld (by kernel_rfl) _ (.tmp 12) 1 rfl (.pointer (some ⟨g, 0, none⟩)) (.pointer (some ⟨g, 1, none⟩)) (by kernel_rfl) (fld_ir1 g)) S0.out ?_
    refine wpAnyH_take (i := 7) (v := _) rfl (by kernel_rfl) (by kernel_rfl) (by kernel_rfl) (fun _ _ _ h => h) (yieldsIf_load_one (by kernel_rfl) _ (.tmp 13) rfl g 1 (by kernel_rfl) (.int .i64 (p : Int)) (fun w h => PI.c1 h) _ Tryd.underlying3 rfl) S0.out ?_
    refine wpAnyH_one 8 _ (by kernel_rfl) rfl fun K hK => ?_
    go_simp
    refine (C1.out 1).mono ?_
    rintro e v1 ⟨rfl, L1⟩
    have S1 : Hid (PI v1 g B A n c xs ⟨p, 0⟩) := S0.out.below L1
    have b1 : Hid (Below w.heap.size w v1) := step b0.out L1
    refine hK _ _ S1.out ?_
    clear hK K L1
    refine wpAnyH_take (i := 9) (v := (.tuple #[.string ⟨tx.toArray⟩, .int .i64 nx, .int .i64 ex])) rfl (by kernel_rfl) (by kernel_rfl) (by kernel_rfl) (fun _ _ _ h => h) (.inl ⟨by kernel_rfl, fun w _ => by go_simp⟩) S1.out ?_
    refine wpAnyH_take (i := 10) (v := (.string ⟨tx.toArray⟩)) rfl (by kernel_rfl) (by kernel_rfl) (by kernel_rfl) (fun _ _ _ h => h) (.inl ⟨by kernel_rfl, fun w _ => by go_simp⟩) S1.out ?_
    refine wpAnyH_take (i := 11) (v := (.int .i64 nx)) rfl (by kernel_rfl) (by kernel_rfl) (by kernel_rfl) (fun _ _ _ h => h) (.inl ⟨by kernel_rfl, fun w _ => by go_simp⟩) S1.out ?_
    refine wpAnyH_take (i := 12) (v := (.int .i64 ex)) rfl (by kernel_rfl) (by kernel_rfl) (by kernel_rfl) (fun _ _ _ h => h) (.inl ⟨by kernel_rfl, fun w _ => by go_simp⟩) S1.out ?_
    refine wpAnyH_take (i := 13) (v := (.string ⟨tx.toArray⟩)) rfl (by kernel_rfl) (by kernel_rfl) (by kernel_rfl) (fun _ _ _ h => h) (.inl ⟨by kernel_rfl, fun w _ => by go_simp⟩) S1.out ?_
    refine wpAnyH_take (i := 14) (v := (.int .i64 nx)) rfl (by kernel_rfl) (by kernel_rfl) (by kernel_rfl) (fun _ _ _ h => h) (.inl ⟨by kernel_rfl, fun w _ => by go_simp⟩) S1.out ?_
    refine wpAnyH_take (i := 15) (v := (.int .i64 ex)) rfl (by kernel_rfl) (by kernel_rfl) (by kernel_rfl) (fun _ _ _ h => h) (.inl ⟨by kernel_rfl, fun w _ => by go_simp⟩) S1.out ?_
    refine wpAnyH_done (by kernel_rfl) ?_ _
    have CF1 := Lib.hid (CF0.out v1 S1.out)
    clear CF0
    go_wp2_with fail
    refine CF1.out.mono ?_
    rintro e w1 ⟨rfl, hP1, hS1⟩
    have d2 := hP1.c2
    have HP1 := Lib.hid hP1
    have HS1 := Lib.hid ((Save.of_below b1.out g).trans hS1)
    clear hP1 hS1 CF1
    go_wp2
    go_ret
    exact HQ.out _ _ ⟨rfl, HP1.out, HS1.out⟩
set_option maxHeartbeats 1000000 in
theorem inlevel_any (w : World) (g B : Nat) (A : Option Addr) (n c : Nat) (xs : List Int) (r : Rd) (hx : Bytes xs) (hP : PI w g B A n c xs r) (hBw : B ≤ w.heap.size) :
    Calls Tryd.prog 55 #[.pointer (some ⟨g, 0, none⟩)] w (IPost w g B A n c xs (.tuple #[.int .u64 (rdN xs 8 r).1, .int .u8 (rdN xs 1 (rdN xs 8 r).2).1]) (rdZ xs 3 (rdN xs 1 (rdN xs 8 r).2).2)) := by
  have C1 := Lib.hid (ineight_any w g B A n c xs r hx hP)
  have C2 : Hid (∀ w' : World, PI w' g B A n c xs (rdN xs 8 r).2 → Calls Tryd.prog 71 #[.pointer (some ⟨g, 0, none⟩), .int .i64 1] w' fun e w2 => e = .returned (.int .u64 (rdN xs 1 (rdN xs 8 r).2).1) ∧ PI w2 g B A n c xs (rdN xs 1 (rdN xs 8 r).2).2 ∧ Save g w' w2) := fun w' h => inum_any w' g B A n c xs _ 1 h (by decide)
  have C3 : Hid (∀ w' : World, w.heap.size ≤ w'.heap.size → PI w' g B A n c xs (rdN xs 1 (rdN xs 8 r).2).2 → Calls Tryd.prog 51 #[.pointer (some ⟨g, 0, none⟩), .int .i64 3] w' fun e w2 => e = .returned (.tuple #[]) ∧ PI w2 g B A n c xs (rdZ xs 3 (rdN xs 1 (rdN xs 8 r).2).2) ∧ Save g w' w2) := fun w' hs h => innought_any w' g B A n c xs _ 3 h (by decide) (by omega)
  have hb := rdN_lt hx 1 (rdN xs 8 r).2 256 (by decide) (by decide)
  have HQ : Hid (∀ e w', (e = .returned (.tuple #[.int .u64 (rdN xs 8 r).1, .int .u8 (rdN xs 1 (rdN xs 8 r).2).1]) ∧ PI w' g B A n c xs (rdZ xs 3 (rdN xs 1 (rdN xs 8 r).2).2) ∧ Save g w w') → IPost w g B A n c xs (.tuple #[.int .u64 (rdN xs 8 r).1, .int .u8 (rdN xs 1 (rdN xs 8 r).2).1]) (rdZ xs 3 (rdN xs 1 (rdN xs 8 r).2).2) e w') := fun _ _ h => h
  unfold IPost at C1
  obtain ⟨q3, hq3⟩ : ∃ q, q = rdZ xs 3 (rdN xs 1 (rdN xs 8 r).2).2 := ⟨_, rfl⟩
  rw [← hq3] at C3 HQ ⊢
  obtain ⟨q2, hq2⟩ : ∃ q, q = rdN xs 1 (rdN xs 8 r).2 := ⟨_, rfl⟩
  rw [← hq2] at C2 C3 HQ hb ⊢
  obtain ⟨q1, hq1⟩ : ∃ q, q = rdN xs 8 r := ⟨_, rfl⟩
  rw [← hq1] at C1 C2 HQ ⊢
  obtain ⟨y, q1⟩ := q1
  obtain ⟨z, q2⟩ := q2
  change 0 ≤ z ∧ z ≤ _ at hb
  obtain ⟨hb0, hb1⟩ := hb
  have hz : IntKind.u8.wrap z = z := by rw [IntKind.wrap_u8]; omega
  clear hq1 hq2 hq3 hP
  go_enter Tryd.func55, Tryd.ntmps55
  go_wp2_with fail
  refine C1.out.mono ?_
  rintro e w1 ⟨rfl, hP1, hS1⟩
  have CA := Lib.hid (C2.out w1 hP1)
  have HS1 := Lib.hid hS1
  clear hP1 hS1 C1 C2
  go_wp2_with fail
  refine CA.out.mono ?_
  rintro e w2 ⟨rfl, hP2, hS2⟩
  have HS2 := Lib.hid (HS1.out.trans hS2)
  have CB := Lib.hid (C3.out w2 HS2.out.size hP2)
  clear hP2 hS2 CA C3
  go_wp2_with fail
  refine CB.out.mono ?_
  rintro e w3 ⟨rfl, hP3, hS3⟩
  have HP3 := Lib.hid hP3
  have HS3 := Lib.hid (HS2.out.trans hS3)
  clear hP3 hS3 CB
  go_wp2
  go_ret2
  exact HQ.out _ _ ⟨rfl, HP3.out, HS3.out⟩
set_option maxHeartbeats 1000000 in
theorem inend_any (w : World) (g B : Nat) (A : Option Addr) (n c : Nat) (xs : List Int) (r : Rd) (hP : PI w g B A n c xs r) :
    Calls Tryd.prog 56 #[.pointer (some ⟨g, 0, none⟩)] w fun e w' => e = .returned (.int .i64 (rdEnd xs r)) ∧ Save g w w' := by
  obtain ⟨p, er⟩ := r
  have HP := Lib.hid hP
  have hl := hP.2.2.2.len
  have hrm := hP.2.2.2.room
  have hp : p ≤ n := hP.1
  have c0 := hP.c0
  have c1 := hP.c1
  have c2 := hP.c2
  have CF : Hid (∀ (w' : World), PI w' g B A n c xs ⟨p, er⟩ → Calls Tryd.prog 54 #[.pointer (some ⟨g, 0, none⟩), .int .i64 5] w' fun e w2 => e = .returned (.tuple #[]) ∧ PI w2 g B A n c xs (rdFail 5 ⟨p, er⟩) ∧ Save g w' w2) := fun w' h => infail_any w' g B A n c xs _ 5 h
  have hrd : rdEnd xs ⟨p, er⟩ = if er = 0 ∧ p ≠ n then 5 else er := by unfold rdEnd; rw [hl]
  rw [hrd]
  by_cases hpn : p = n
  · rw [if_neg (fun h => h.2 hpn)]
    have hd : ¬ ((p : Int) < (n : Int)) := by omega
    clear hP hl hrd hpn CF
    go_enter Tryd.func56, Tryd.ntmps56
    go_wp2
    go_quiet (fail)
    go_wp2
    go_ret
    exact ⟨rfl, save_drewN g w _⟩
  · have hd : (p : Int) < (n : Int) := by omega
    have hrf : rdFail 5 ⟨p, er⟩ = ⟨p, if er = 0 ∧ p ≠ n then 5 else er⟩ := by
      unfold rdFail
      by_cases he : er = 0
      · rw [if_pos he, if_pos ⟨he, hpn⟩]
      · rw [if_neg he, if_neg (fun h => he h.1)]
    rw [hrf] at CF
    obtain ⟨z, hz⟩ : ∃ z, z = if er = 0 ∧ p ≠ n then 5 else er := ⟨_, rfl⟩
    rw [← hz] at CF ⊢
    clear hP hl hrd hpn hrf hz
    go_enter Tryd.func56, Tryd.ntmps56
    go_wp2
    go_quiet (fail)
    have CF1 := Lib.hid (CF.out _ (HP.out.drewN nq))
    clear CF
    go_wp2_with fail
    refine CF1.out.mono ?_
    rintro e w1 ⟨rfl, hP1, hS1⟩
    have d2 := hP1.c2
    have HS1 := Lib.hid ((save_drewN g w nq).trans hS1)
    clear hP1 hS1 CF1
    go_wp2
    go_ret
    exact ⟨rfl, HS1.out⟩
end Go.Proofs.YtbbjmmooemmeiaaDoor

namespace Go.Proofs.YtbbjmmooemmeiaaDoor
set_option linter.all false
open Go.RowKit
set_option linter.unusedVariables false
set_option linter.unusedSimpArgs false
set_option maxRecDepth 100000
theorem ownE_one {w : World} {base : Nat} {v : Value} {xs : List EntryV} (h : OwnS entryCells 3 82 w base v xs) : v.oneCell' = true := by
  obtain ⟨_, _, _, rfl, _⟩ := OwnS.holds (by decide) entryCells_len h
  rfl
/-- append(out, x), x the one Entry of a literal, as a step -/
theorem step_append_entry {ops : Array Oper} {o : Oper} {a : Act} {w : World} {K : Act → World → Prop} {Q : Exit → Act → World → Prop} {E : Prop} (hgd : o.guard = none) (s x : Operand)
    (ho : o.op = .call { callee := .builtin .append, args := #[s, x], argTypes := #[43, 43] })
    (base : Nat) (v : Value) (xs : List EntryV) (g2 : Nat) (l : EntryV) (hs : a.eval s = v) (hx : a.eval x = .slice (some ⟨g2, 0, none⟩) 1 1)
    (hown : OwnS entryCells 3 82 w base v xs) (hY : Hid (Blk w g2 82 (entryCells l))) (hlen : xs.length ≤ 100) (hbase : base ≤ w.heap.size)
    (h : ∀ v' w', Hid (OwnS entryCells 3 82 w' base v' (xs ++ [l])) → Hid (Below base w w') → K (a.put o.dst v') w') :
    if Region.wanted o (yielded ops a.tmps) = true then Oper.wp Tryd.prog o a w K Q else E := by
  have hw : Region.wanted o (yielded ops a.tmps) = true := by simp [Region.wanted, hgd]
  rw [if_pos hw]
  obtain ⟨i0, hi0, hz0, hz1, hz2⟩ := info_parts info_entry
  have hr := hY.out
  refine wp_append_own _ s x 43 ho base 82 i0 (.agg (entryCells ⟨.empty, 0, 0⟩).toArray) 3 32 Tryd.underlying43 hi0 hz0 hz1 hz2 rfl (by omega) v xs.length (xs.flatMap entryCells) hs hown ⟨g2, 0, none⟩ 1 1 (entryCells l) hx (by rw [entryCells_len]) ?_
    (fun u hu => entryCells_one l u hu) (by unfold maxLen; omega) (by omega) hbase ?_
  · intro j y hj
    have e1 : (⟨g2, 0, none⟩ : Addr).add j = ⟨g2, j, none⟩ := by
      by_cases hj0 : j = 0
      · subst hj0; simp [Addr.add]
      · simp [Addr.add, hj0]
    rw [e1, hr.cell j, ← hj]
  · intro v' w' hown' hgr _
    refine h v' w' ?_ ((Below.refl base w).grown hgr hbase fun i hi => (World.ownsRow.lt hown i hi).1)
    show World.ownsRow _ _ _ _ _ _ _
    rw [List.length_append, List.flatMap_append]
    simpa using hown'
theorem PI.belowAt {w w' : World} {g B B' : Nat} {A : Option Addr} {n c : Nat} {xs : List Int} {r : Rd} (h : PI w g B A n c xs r) (hb : Below B' w w') (hg : g < B') : PI w' g B A n c xs r :=
  ⟨h.1, h.2.1, h.2.2.1.below hb hg, h.2.2.2.below (hb.mono (by have := h.2.1; omega))⟩
theorem PI.save {w w' : World} {g g' B : Nat} {A : Option Addr} {n c : Nat} {xs : List Int} {r : Rd} (h : PI w g B A n c xs r) (hS : Save g' w w') (hg : g ≠ g') (hb : B ≤ g') : PI w' g B A n c xs r :=
  ⟨h.1, h.2.1, h.2.2.1.save hS hg, h.2.2.2.below (hS.below hb (by have := h.lt; have := h.2.1; omega))⟩
set_option maxHeartbeats 2000000 in
theorem inentry_any (w : World) (g B : Nat) (A : Option Addr) (n c : Nat) (xs : List Int) (r : Rd) (hx : Bytes xs) (hP : PI w g B A n c xs r) (hBw : B ≤ w.heap.size) :
    Calls Tryd.prog 62 #[.pointer (some ⟨g, 0, none⟩)] w (IPost w g B A n c xs (.agg (entryCells (rdEnt xs r).1).toArray) (rdEnt xs r).2) := by
  have hlt := hP.lt
  have hgB := hP.2.1
  have HP := Lib.hid hP
  have D1 : Hid (∀ w' : World, w.heap.size ≤ w'.heap.size → PI w' g B A n c xs r → Calls Tryd.prog 63 #[.pointer (some ⟨g, 0, none⟩)] w' fun e w2 => e = .returned (.int .u8 (e1 xs r).1) ∧ PI w2 g B A n c xs (e1 xs r).2 ∧ Save g w' w2) := fun w' hs h => inkind_any w' g B A n c xs r hx h
  have D2 : Hid (∀ w' : World, w.heap.size ≤ w'.heap.size → PI w' g B A n c xs (e1 xs r).2 → Calls Tryd.prog 51 #[.pointer (some ⟨g, 0, none⟩), .int .i64 2] w' fun e w2 => e = .returned (.tuple #[]) ∧ PI w2 g B A n c xs (e2 xs r) ∧ Save g w' w2) := fun w' hs h => innought_any w' g B A n c xs _ 2 h (by decide) (by omega)
  have D3 : Hid (∀ w' : World, w.heap.size ≤ w'.heap.size → PI w' g B A n c xs (e2 xs r) → Calls Tryd.prog 61 #[.pointer (some ⟨g, 0, none⟩), .int .u64 1048576, .int .i64 8, .int .i64 5] w' fun e w2 => e = .returned (.int .u64 (e3 xs r).1) ∧ PI w2 g B A n c xs (e3 xs r).2 ∧ Save g w' w2) := fun w' hs h => inup_any w' g B A n c xs _ 8 1048576 5 h (by decide) (by decide)
  have D4 : Hid (∀ w' : World, w.heap.size ≤ w'.heap.size → PI w' g B A n c xs (e3 xs r).2 → Calls Tryd.prog 52 #[.pointer (some ⟨g, 0, none⟩)] w' fun e w2 => e = .returned (.string ⟨(e4 xs r).1.toArray⟩) ∧ PI w2 g B A n c xs (e4 xs r).2 ∧ Save g w' w2) := fun w' hs h => intext_any w' g B A n c xs _ h (by omega)
  have hb := rdMost_lt hx 8 1048576 5 (e2 xs r) (by decide) (by decide)
  change 0 ≤ (e3 xs r).1 ∧ (e3 xs r).1 ≤ _ at hb
  have HQ : Hid (∀ (e : Ending) (w' : World), e = .returned (.agg (entryCells ⟨⟨(e4 xs r).1.toArray⟩, (e1 xs r).1, (e3 xs r).1⟩).toArray) → PI w' g B A n c xs (e4 xs r).2 → Save g w w' → IPost w g B A n c xs (.agg (entryCells (rdEnt xs r).1).toArray) (rdEnt xs r).2 e w') := fun e w' h1 h2 h3 => ⟨h1, h2, h3⟩
  obtain ⟨q4, hq4⟩ : ∃ q, q = e4 xs r := ⟨_, rfl⟩
  rw [← hq4] at D4 HQ
  obtain ⟨q3, hq3⟩ : ∃ q, q = e3 xs r := ⟨_, rfl⟩
  rw [← hq3] at D3 D4 HQ hb
  obtain ⟨q2, hq2⟩ : ∃ q, q = e2 xs r := ⟨_, rfl⟩
  rw [← hq2] at D2 D3
  obtain ⟨q1, hq1⟩ : ∃ q, q = e1 xs r := ⟨_, rfl⟩
  rw [← hq1] at D1 D2 HQ
  obtain ⟨hb0, hb1⟩ := hb
  obtain ⟨tx, htx⟩ : ∃ b : ByteArray, b = ⟨q4.1.toArray⟩ := ⟨_, rfl⟩
  rw [← htx] at D4 HQ
  have hz : IntKind.i64.wrap q3.1 = q3.1 := by rw [IntKind.wrap_i64]; omega
  clear hq1 hq2 hq3 hq4 htx hP
  have ZE := Lib.hid zero_entry
  have HZ3 : Hid (([.string .empty, .int .u8 0, .int .i64 0] : List Value).length = 3) := rfl
  go_enter Tryd.func62, Tryd.ntmps62
  go_wp2_with (first
    | ((with_reducible show wpList _ _ _ (⟨some 2, _, _, _, _, _⟩ :: _) _ _); refine wpList_alloc_blk rfl _ rfl _ _ ZE ?_; intro h w1 hg1 hg2 Z1 N1; have P1 := Lib.hid (HP.out.below N1.out); have S1 : Hid (Save g w w1) := (Save.of_below N1.out g); have hhg : h ≠ g := (by omega))
    | ((with_reducible show wpList _ _ _ (⟨some 3, _, _, _, _, _⟩ :: _) _ _); refine wpList_alloc_blk rfl _ rfl _ _ ZE ?_; intro x w2 hx1 hx2 X2 N2; have Z2 := Lib.hid (Z1.out.over N2.out); have P2 := Lib.hid (P1.out.below N2.out); have S2 : Hid (Save g w w2) := (S1.out.trans (Save.of_below N2.out g)); have hxg : x ≠ g := (by omega); have hhx : h ≠ x := (by omega))
    | fail)
  refine (D1.out w2 S2.out.size P2.out).mono ?_
  rintro e w3 ⟨rfl, hP1, hS1⟩
  have X3 := Lib.hid (X2.out.save hS1 hxg)
  have Z3 := Lib.hid (Z2.out.save hS1 hhg)
  have P3 := Lib.hid hP1
  have S3 := Lib.hid (S2.out.trans hS1)
  clear hP1 hS1 X2 Z2 P2 S2 Z1 P1 S1
  go_wp2_with (first
    | ((with_reducible show wpList _ _ _ (⟨none, .store _ (.tmp 7) _, _, _, _, _⟩ :: _) _ _); refine wpList_store_fld rfl _ (.tmp 7) (.tmp 5) rfl x 1 rfl _ ([.string .empty, .int .u8 0, .int .i64 0] : List Value) (.int .u8 q1.1) rfl X3 (Lib.hid (by show 1 < 3; decide)) (by kernel_rfl) rfl ?_; intro w4 X4 O4 hq4; have Z4 := Lib.hid (Z3.out.only O4.out hhx); have P4 := Lib.hid (P3.out.only O4.out (Ne.symm hxg) (by omega)); have S4 : Hid (Save g w w4) := (S3.out.thenBelow (O4.out.below (by omega))))
    | fail)
  refine (D2.out w4 S4.out.size P4.out).mono ?_
  rintro e w5 ⟨rfl, hP1, hS1⟩
  have X5 : Hid (Blk w5 x 82 [.string .empty, .int .u8 q1.1, .int .i64 0]) := X4.out.save hS1 hxg
  have Z5 := Lib.hid (Z4.out.save hS1 hhg)
  have P5 := Lib.hid hP1
  have S5 := Lib.hid (S4.out.trans hS1)
  clear hP1 hS1 X4 Z4 P4 S4 X3 Z3 P3 S3
  go_wp2_with fail
  refine (D3.out w5 S5.out.size P5.out).mono ?_
  rintro e w6 ⟨rfl, hP1, hS1⟩
  have X6 := Lib.hid (X5.out.save hS1 hxg)
  have Z6 := Lib.hid (Z5.out.save hS1 hhg)
  have P6 := Lib.hid hP1
  have S6 := Lib.hid (S5.out.trans hS1)
  clear hP1 hS1 X5 Z5 P5 S5
  go_wp2_with (first
    | ((with_reducible show wpList _ _ _ (⟨none, .store _ (.tmp 14) _, _, _, _, _⟩ :: _) _ _); refine wpList_store_fld rfl _ (.tmp 14) (.tmp 12) rfl x 2 rfl _ ([.string .empty, .int .u8 q1.1, .int .i64 0] : List Value) (.int .i64 q3.1) rfl X6 (Lib.hid (by show 2 < 3; decide)) (by kernel_rfl) rfl ?_; intro w7 X7 O7 hq7; have Z7 := Lib.hid (Z6.out.only O7.out hhx); have P7 := Lib.hid (P6.out.only O7.out (Ne.symm hxg) (by omega)); have S7 : Hid (Save g w w7) := (S6.out.thenBelow (O7.out.below (by omega))))
    | fail)
  refine (D4.out w7 S7.out.size P7.out).mono ?_
  rintro e w8 ⟨rfl, hP1, hS1⟩
  have X8 : Hid (Blk w8 x 82 [.string .empty, .int .u8 q1.1, .int .i64 q3.1]) := X7.out.save hS1 hxg
  have Z8 := Lib.hid (Z7.out.save hS1 hhg)
  have P8 := Lib.hid hP1
  have S8 := Lib.hid (S7.out.trans hS1)
  clear hP1 hS1 X7 Z7 P7 S7 X6 Z6 P6 S6
  have HE3 : Hid (([.string tx, .int .u8 q1.1, .int .i64 q3.1] : List Value).length = 3) := rfl
  have HE1 : Hid (∀ v ∈ ([.string tx, .int .u8 q1.1, .int .i64 q3.1] : List Value), v.oneCell' = true) := entryCells_one ⟨tx, q1.1, q3.1⟩
  go_wp2_with (first
    | ((with_reducible show wpList _ _ _ (⟨none, .store _ (.tmp 17) _, _, _, _, _⟩ :: _) _ _); refine wpList_store_fld rfl _ (.tmp 17) (.tmp 16) rfl x 0 rfl _ ([.string .empty, .int .u8 q1.1, .int .i64 q3.1] : List Value) (.string tx) rfl X8 (Lib.hid (by show 0 < 3; decide)) (by kernel_rfl) rfl ?_; intro w9 X9a O9 hq9; have X9 : Hid (Blk w9 x 82 [.string tx, .int .u8 q1.1, .int .i64 q3.1]) := X9a.out; have Z9 := Lib.hid (Z8.out.only O9.out hhx); have P9 := Lib.hid (P8.out.only O9.out (Ne.symm hxg) (by omega)); have S9 : Hid (Save g w w9) := (S8.out.thenBelow (O9.out.below (by omega))))
    | ((with_reducible show wpList _ _ _ (⟨some 18, _, _, _, _, _⟩ :: _) _ _); refine wpList_load_blk rfl _ (.tmp 3) rfl x rfl _ _ X9 3 _ Tryd.underlying82 rfl size_entry HE3 ?_)
    | ((with_reducible show wpList _ _ _ (⟨none, .store _ (.tmp 2) _, _, _, _, _⟩ :: _) _ _); refine wpList_store_blk rfl _ (.tmp 2) (.tmp 18) rfl h rfl _ ([.string .empty, .int .u8 0, .int .i64 0] : List Value) ([.string tx, .int .u8 q1.1, .int .i64 q3.1] : List Value) rfl Z9 3 size_entry HZ3 HE3 HE1 ?_; intro w10 Z10 O10 hq10)
    | fail)
  refine bodyPost_ret (v := .agg (entryCells ⟨tx, q1.1, q3.1⟩).toArray) ?_ rfl (HQ.out _ _ rfl (P9.out.only O10.out (Ne.symm hhg) (by omega)) (S9.out.thenBelow (O10.out.below (by omega))))
  exact results_cell_row rfl _ _ h _ _ (0, 0) _ rfl Z10.out Tryd.underlying82 rfl (by rw [size_entry]; rfl)
end Go.Proofs.YtbbjmmooemmeiaaDoor

namespace Go.Proofs.YtbbjmmooemmeiaaDoor
set_option linter.all false
open Go.RowKit
set_option linter.unusedVariables false
set_option linter.unusedSimpArgs false
set_option maxRecDepth 100000
theorem zero_ird : (Tryd.prog.info? 87).map (fun i => (i.zero, i.size)) = some (some (.agg ([.slice none 0 0, .int .i64 0, .int .i64 0] : List Value).toArray), 3) := by kernel_rfl
theorem size_ird : (Tryd.prog.info? 87).map (·.size) = some 3 := by kernel_rfl
/-- what GetAsk answers -/
def IGAskPost (w : World) (c : Int) (xs : List Int) (e : Ending) (w' : World) : Prop := ∃ cs, e = .returned (.tuple #[.agg cs.toArray, .int .i64 (igErr c xs)]) ∧ AskIs w' w'.heap.size cs (igOf c xs) ∧ cs[61]? = some (.slice none 0 0) ∧ Below w.heap.size w w'
set_option maxHeartbeats 4000000 in
theorem IGetAsk_any (w : World) (c : Int) (A : Option Addr) (n k : Nat) (xs : List Int) (hc : 0 ≤ c ∧ c ≤ 65535) (hx : Holds w w.heap.size A n k xs) :
    Calls Tryd.prog 21 #[.int .u16 c, .slice A n k] w (IGAskPost w c xs) := by
  have hby := hx.byte
  have HX := Lib.hid hx
  have ZH := Lib.hid zero_ask
  have BZ := built_ask
  have ZR := Lib.hid zero_ird
  have HZ : Hid ((acells (.slice none 0 0) (.slice none 0 0) (.slice none 0 0) zeroAsk).length = 69) := acells_len zeroAsk_ok
  have HZ1 : Hid (∀ v ∈ acells (.slice none 0 0) (.slice none 0 0) (.slice none 0 0) zeroAsk, v.oneCell' = true) := (zeroAsk_is w 0).one
  have HZI : Hid (∀ w' : World, AskIs w' w'.heap.size (acells (.slice none 0 0) (.slice none 0 0) (.slice none 0 0) zeroAsk) zeroAsk) := fun w' => zeroAsk_is w' _
  have HZD : Hid ((acells (.slice none 0 0) (.slice none 0 0) (.slice none 0 0) zeroAsk)[61]? = some (.slice none 0 0)) := rfl
  have BR : Tryd.prog.built 87 [(0, .slice A n k)] = some ([.slice A n k, .int .i64 0, .int .i64 0] : List Value).toArray := by kernel_rfl
  have HR0 : Hid (([.slice none 0 0, .int .i64 0, .int .i64 0] : List Value).length = 3) := rfl
  have HR1 : Hid (([.slice A n k, .int .i64 0, .int .i64 0] : List Value).length = 3) := rfl
  have HR2 : Hid (∀ v ∈ ([.slice A n k, .int .i64 0, .int .i64 0] : List Value), v.oneCell' = true) := by
    intro v hv
    simp only [List.mem_cons, List.not_mem_nil, or_false] at hv
    rcases hv with rfl | rfl | rfl <;> rfl
  have HE : Hid (∀ er, igErr c xs = er → er ≠ 0 → ∀ e w', e = .returned (.tuple #[.agg (acells (.slice none 0 0) (.slice none 0 0) (.slice none 0 0) zeroAsk).toArray, .int .i64 er]) → Below w.heap.size w w' → IGAskPost w c xs e w') := by
    intro er h1 h2 e w' he hb
    unfold IGAskPost igOf
    rw [h1, if_neg h2]
    exact ⟨_, he, HZI.out w', HZD.out, hb⟩
  obtain ⟨zs, hzs⟩ : ∃ zs, zs = acells (.slice none 0 0) (.slice none 0 0) (.slice none 0 0) zeroAsk := ⟨_, rfl⟩
  have HZS := Lib.hid hzs
  rw [← hzs] at ZH BZ HZ HZ1 HE
  clear hzs HZI HZD
  by_cases hk : knownI c = true
  rotate_left
  · have HQ := Lib.hid (HE.out 2 (by unfold igErr; rw [if_neg hk]) (by decide))
    have hk' : c ≠ 12 ∧ c ≠ 14 ∧ c ≠ 16 ∧ c ≠ 17 ∧ c ≠ 18 := by
      refine ⟨?_, ?_, ?_, ?_, ?_⟩ <;> (rintro rfl; exact hk (by decide))
    obtain ⟨h12, h14, h16, h17, h18⟩ := hk'
    have b12 : (c == 12) = false := by simpa using h12
    have b14 : (c == 14) = false := by simpa using h14
    have b16 : (c == 16) = false := by simpa using h16
    have b17 : (c == 17) = false := by simpa using h17
    have b18 : (c == 18) = false := by simpa using h18
    clear hk HE hx h12 h14 h16 h17 h18
    go_enter Tryd.func21, Tryd.ntmps21
    go_wp2_with (first
      | ((with_reducible show wpList _ _ _ (⟨some 4, _, _, _, _, _⟩ :: _) _ _); refine wpList_alloc_blk rfl _ rfl zs _ ZH ?_; intro h w1 hg1 hg2 Z1 L1)
      | ((with_reducible show wpList _ _ _ (⟨some 6, _, _, _, _, _⟩ :: _) _ _); refine wpList_alloc_blk rfl _ rfl zs _ ZH ?_; intro a w2 hg3 hg4 K2 L02; have Z2 := Lib.hid (Z1.out.over L02.out); have L2 := Lib.hid (step L1.out L02.out); have hha : h ≠ a := (by omega); have hwa : w.heap.size ≤ a := (by have := L1.out.size; omega); have hsz2 := L2.out.size)
      | ((with_reducible show wpList _ _ _ (⟨some 10, _, _, _, _, _⟩ :: _) _ _); refine wpList_build_blk rfl _ _ rfl ([.slice A n k, .int .i64 0, .int .i64 0] : List Value) (by refine Eq.trans ?_ BR; kernel_rfl) ?_)
      | ((with_reducible show wpList _ _ _ (⟨some 7, _, _, _, _, _⟩ :: _) _ _); refine wpList_alloc_blk rfl _ rfl ([.slice none 0 0, .int .i64 0, .int .i64 0] : List Value) _ ZR ?_; intro g w3 hg5 hg6 R3 L03; have K3 := Lib.hid (K2.out.over L03.out); have Z3 := Lib.hid (Z2.out.over L03.out); have L3 := Lib.hid (step L2.out L03.out); have hag : a ≠ g := (by omega); have hhg : h ≠ g := (by have := Z2.out.lt; omega); have hwg : w.heap.size ≤ g := (by omega))
      | ((with_reducible show wpList _ _ _ (⟨none, .store _ (.tmp 7) _, _, _, _, _⟩ :: _) _ _); refine wpList_store_blk rfl _ (.tmp 7) (.tmp 10) rfl g rfl _ ([.slice none 0 0, .int .i64 0, .int .i64 0] : List Value) ([.slice A n k, .int .i64 0, .int .i64 0] : List Value) rfl R3 3 size_ird HR0 HR1 HR2 ?_; intro w4 R4 O4 hg7; have K4 := Lib.hid (K3.out.only O4.out hag); have Z4 := Lib.hid (Z3.out.only O4.out hhg); have L4 := Lib.hid (below_only L3.out O4.out hwg))
      | ((with_reducible show wpList _ _ _ (⟨some 12, _, _, _, _, _⟩ :: _) _ _); refine wpList_build_none rfl _ rfl zs BZ ?_)
      | ((with_reducible show wpList _ _ _ (⟨none, .store _ (.tmp 4) _, _, _, _, _⟩ :: _) _ _); refine wpList_store_blk rfl _ (.tmp 4) (.tmp 12) rfl h rfl _ zs zs rfl Z4 69 size_ask HZ HZ HZ1 ?_; intro w10 K10 O10 hg10)
      | fail)
    refine bodyPost_ret (v := .tuple #[.agg zs.toArray, .int .i64 2]) ?_ rfl (HQ.out _ _ rfl (below_only L4.out O10.out (by omega)))
    exact results_cell_two rfl _ _ h _ _ (0, 0) _ rfl K10.out Tryd.underlying32 rfl (by rw [size_ask]; have := HZ.out; simp [this]) rfl
  rcases knownI_cases hk with h12 | h14 | h16 | h17 | h18
  · subst h12
    have D1 : Hid (∀ (w' : World) (g : Nat), w.heap.size ≤ w'.heap.size → PI w' g w.heap.size A n k xs rd0 → Calls Tryd.prog 51 #[.pointer (some ⟨g, 0, none⟩), .int .i64 4] w' fun e w2 => e = .returned (.tuple #[]) ∧ PI w2 g w.heap.size A n k xs (rdZ xs 4 rd0) ∧ Save g w' w2) := fun w' g hs h => innought_any w' g _ A n k xs _ 4 h (by decide) hs
    have DE : Hid (∀ (w' : World) (g : Nat), PI w' g w.heap.size A n k xs (rdZ xs 4 rd0) → Calls Tryd.prog 56 #[.pointer (some ⟨g, 0, none⟩)] w' fun e w2 => e = .returned (.int .i64 (rdEnd xs (rdZ xs 4 rd0))) ∧ Save g w' w2) := fun w' g h => inend_any w' g _ A n k xs _ h
    have hgp : igP 12 xs = (zeroAsk, (rdZ xs 4 rd0)) := by unfold igP; rw [if_neg (by decide), if_neg (by decide), if_neg (by decide), if_neg (by decide)]
    have hge : igErr 12 xs = rdEnd xs (rdZ xs 4 rd0) := by unfold igErr; rw [if_pos hk, hgp]
    have HQ : Hid (∀ (cs : List Value) (e : Ending) (w' : World), rdEnd xs (rdZ xs 4 rd0) = 0 → e = .returned (.tuple #[.agg cs.toArray, .int .i64 0]) → AskIs w' w'.heap.size cs zeroAsk → cs[61]? = some (.slice none 0 0) → Below w.heap.size w w' → IGAskPost w 12 xs e w') := by
      intro cs e w' h0 h1 h2 h3 h5
      have ho : igOf 12 xs = zeroAsk := by unfold igOf; rw [hge, h0, if_pos rfl, hgp]
      unfold IGAskPost
      rw [hge, h0, ho]
      exact ⟨cs, h1, h2, h3, h5⟩
    have HE' := Lib.hid (HE.out _ hge)
    obtain ⟨er, her⟩ : ∃ x, x = rdEnd xs (rdZ xs 4 rd0) := ⟨_, rfl⟩
    rw [← her] at DE HQ HE'
    obtain ⟨q1, hq1⟩ : ∃ x, x = (rdZ xs 4 rd0) := ⟨_, rfl⟩
    rw [← hq1] at D1 DE
    clear HE hk hx her hge hgp hq1
    go_enter Tryd.func21, Tryd.ntmps21
    go_wp2_with (first
      | ((with_reducible show wpList _ _ _ (⟨some 4, _, _, _, _, _⟩ :: _) _ _); refine wpList_alloc_blk rfl _ rfl zs _ ZH ?_; intro h w1 hg1 hg2 Z1 L1)
      | ((with_reducible show wpList _ _ _ (⟨some 6, _, _, _, _, _⟩ :: _) _ _); refine wpList_alloc_blk rfl _ rfl zs _ ZH ?_; intro a w2 hg3 hg4 K2 L02; have Z2 := Lib.hid (Z1.out.over L02.out); have L2 := Lib.hid (step L1.out L02.out); have hha : h ≠ a := (by omega); have hwa : w.heap.size ≤ a := (by have := L1.out.size; omega); have hsz2 := L2.out.size)
      | ((with_reducible show wpList _ _ _ (⟨some 10, _, _, _, _, _⟩ :: _) _ _); refine wpList_build_blk rfl _ _ rfl ([.slice A n k, .int .i64 0, .int .i64 0] : List Value) (by refine Eq.trans ?_ BR; kernel_rfl) ?_)
      | ((with_reducible show wpList _ _ _ (⟨some 7, _, _, _, _, _⟩ :: _) _ _); refine wpList_alloc_blk rfl _ rfl ([.slice none 0 0, .int .i64 0, .int .i64 0] : List Value) _ ZR ?_; intro g w3 hg5 hg6 R3 L03; have K3 := Lib.hid (K2.out.over L03.out); have Z3 := Lib.hid (Z2.out.over L03.out); have L3 := Lib.hid (step L2.out L03.out); have hag : a ≠ g := (by omega); have hhg : h ≠ g := (by have := Z2.out.lt; omega); have hwg : w.heap.size ≤ g := (by omega))
      | ((with_reducible show wpList _ _ _ (⟨none, .store _ (.tmp 7) _, _, _, _, _⟩ :: _) _ _); refine wpList_store_blk rfl _ (.tmp 7) (.tmp 10) rfl g rfl _ ([.slice none 0 0, .int .i64 0, .int .i64 0] : List Value) ([.slice A n k, .int .i64 0, .int .i64 0] : List Value) rfl R3 3 size_ird HR0 HR1 HR2 ?_; intro w4 R4 O4 hg7; have K4 := Lib.hid (K3.out.only O4.out hag); have Z4 := Lib.hid (Z3.out.only O4.out hhg); have L4 := Lib.hid (below_only L3.out O4.out hwg))
      | fail)
    have P4 : Hid (PI w4 g w.heap.size A n k xs rd0) := ⟨Nat.zero_le _, hwg, R4.out, HX.out.below L4.out⟩
    clear R3 L03 K2 K3 Z1 Z2 Z3 L02 L1 L2 L3 R4 O4 HX
    refine (D1.out w4 g L4.out.size P4.out).mono ?_
    rintro e v1 ⟨rfl, hP, hS⟩
    have Pc1 := Lib.hid hP
    have Zc1 := Lib.hid (Z4.out.save hS hhg)
    have Kc1 := Lib.hid (K4.out.save hS hag)
    have Lc1 := Lib.hid (L4.out.trans (hS.below hwg L4.out.size))
    clear hP hS P4 Z4 K4 L4
    go_wp2_with fail
    refine (DE.out v1 g Pc1.out).mono ?_
    rintro e ve ⟨rfl, hS⟩
    have ZE := Lib.hid (Zc1.out.save hS hhg)
    have KE := Lib.hid (Kc1.out.save hS hag)
    have LE := Lib.hid (Lc1.out.trans (hS.below hwg Lc1.out.size))
    clear hS Pc1 Zc1 Kc1 Lc1
    by_cases he : er = 0
    rotate_left
    · have hne : (er != 0) = true := by simpa using he
      have HN := Lib.hid (HE'.out he)
      clear he HE' HQ
      go_wp2_with (first
        | ((with_reducible show wpList _ _ _ (⟨some 65, _, _, _, _, _⟩ :: _) _ _); refine wpList_build_none rfl _ rfl zs BZ ?_)
        | ((with_reducible show wpList _ _ _ (⟨none, .store _ (.tmp 4) _, _, _, _, _⟩ :: _) _ _); refine wpList_store_blk rfl _ (.tmp 4) (.tmp 65) rfl h rfl _ zs zs rfl ZE 69 size_ask HZ HZ HZ1 ?_; intro w10 K10 O10 hg10)
        | fail)
      refine bodyPost_ret (v := .tuple #[.agg zs.toArray, .int .i64 er]) ?_ rfl (HN.out _ _ rfl (below_only LE.out O10.out (by omega)))
      exact results_cell_two rfl _ _ h _ _ (0, 0) _ rfl K10.out Tryd.underlying32 rfl (by rw [size_ask]; have := HZ.out; simp [this]) rfl
    · subst he
      have HEQ : Hid (zs = acells (.slice none 0 0) (.slice none 0 0) (.slice none 0 0) zeroAsk) := by
        show _ = _
        exact HZS.out
      have H1C : Hid (∀ v ∈ zs, v.oneCell' = true) := by
        show _
        rw [HEQ.out]
        exact acells_one rfl rfl rfl
      go_wp2_with (first
        | ((with_reducible show wpList _ _ _ (⟨some 67, _, _, _, _, _⟩ :: _) _ _); refine wpList_load_blk rfl _ (.tmp 6) rfl a rfl _ zs KE 69 _ Tryd.underlying32 rfl size_ask HZ ?_)
        | ((with_reducible show wpList _ _ _ (⟨none, .store _ (.tmp 4) _, _, _, _, _⟩ :: _) _ _); refine wpList_store_blk rfl _ (.tmp 4) (.tmp 67) rfl h rfl _ zs zs rfl ZE 69 size_ask HZ HZ H1C ?_; intro w10 K10 O10 hg10)
        | fail)
      refine bodyPost_ret (v := .tuple #[.agg zs.toArray, .int .i64 0]) ?_ rfl ?_
      · exact results_cell_two rfl _ _ h _ _ (0, 0) _ rfl K10.out Tryd.underlying32 rfl (by rw [size_ask]; have := HZ.out; simp [this]) rfl
      · have LF : Below w.heap.size w w10 := below_only LE.out O10.out (by omega)
        exact HQ.out zs _ _ (by trivial) rfl ⟨none, 0, 0, none, 0, 0, none, 0, 0, by rw [HEQ.out], HoldsF.nil _ _ _, Holds.nil _ _, HoldsS.nil _ _ _ _⟩ (by rw [HEQ.out]; rfl) LF
  · subst h14
    have D1 : Hid (∀ (w' : World) (g : Nat), w.heap.size ≤ w'.heap.size → PI w' g w.heap.size A n k xs rd0 → Calls Tryd.prog 49 #[.pointer (some ⟨g, 0, none⟩)] w' fun e w2 => e = .returned (.int .u64 (l1 xs).1) ∧ PI w2 g w.heap.size A n k xs (l1 xs).2 ∧ Save g w' w2) := fun w' g hs h => ineight_any w' g _ A n k xs _ hby h
    have D2 : Hid (∀ (w' : World) (g : Nat), w.heap.size ≤ w'.heap.size → PI w' g w.heap.size A n k xs (l1 xs).2 → Calls Tryd.prog 50 #[.pointer (some ⟨g, 0, none⟩)] w' fun e w2 => e = .returned (.int .u16 (l2 xs).1) ∧ PI w2 g w.heap.size A n k xs (l2 xs).2 ∧ Save g w' w2) := fun w' g hs h => intwo_any w' g _ A n k xs _ hby h
    have D3 : Hid (∀ (w' : World) (g : Nat), w.heap.size ≤ w'.heap.size → PI w' g w.heap.size A n k xs (l2 xs).2 → Calls Tryd.prog 51 #[.pointer (some ⟨g, 0, none⟩), .int .i64 2] w' fun e w2 => e = .returned (.tuple #[]) ∧ PI w2 g w.heap.size A n k xs (l3 xs) ∧ Save g w' w2) := fun w' g hs h => innought_any w' g _ A n k xs _ 2 h (by decide) hs
    have D4 : Hid (∀ (w' : World) (g : Nat), w.heap.size ≤ w'.heap.size → PI w' g w.heap.size A n k xs (l3 xs) → Calls Tryd.prog 52 #[.pointer (some ⟨g, 0, none⟩)] w' fun e w2 => e = .returned (.string ⟨(l4 xs).1.toArray⟩) ∧ PI w2 g w.heap.size A n k xs (l4 xs).2 ∧ Save g w' w2) := fun w' g hs h => intext_any w' g _ A n k xs _ h hs
    have D5 : Hid (∀ (w' : World) (g : Nat), w.heap.size ≤ w'.heap.size → PI w' g w.heap.size A n k xs (l4 xs).2 → Calls Tryd.prog 52 #[.pointer (some ⟨g, 0, none⟩)] w' fun e w2 => e = .returned (.string ⟨(l5 xs).1.toArray⟩) ∧ PI w2 g w.heap.size A n k xs (l5 xs).2 ∧ Save g w' w2) := fun w' g hs h => intext_any w' g _ A n k xs _ h hs
    have DE : Hid (∀ (w' : World) (g : Nat), PI w' g w.heap.size A n k xs (l5 xs).2 → Calls Tryd.prog 56 #[.pointer (some ⟨g, 0, none⟩)] w' fun e w2 => e = .returned (.int .i64 (rdEnd xs (l5 xs).2)) ∧ Save g w' w2) := fun w' g h => inend_any w' g _ A n k xs _ h
    have hgp : igP 14 xs = ({ zeroAsk with file := (l1 xs).1, most := (l2 xs).1, pat := ⟨(l4 xs).1.toArray⟩, aft := ⟨(l5 xs).1.toArray⟩ }, (l5 xs).2) := by unfold igP; rw [if_pos rfl]
    have hge : igErr 14 xs = rdEnd xs (l5 xs).2 := by unfold igErr; rw [if_pos hk, hgp]
    have HQ : Hid (∀ (cs : List Value) (e : Ending) (w' : World), rdEnd xs (l5 xs).2 = 0 → e = .returned (.tuple #[.agg cs.toArray, .int .i64 0]) → AskIs w' w'.heap.size cs { zeroAsk with file := (l1 xs).1, most := (l2 xs).1, pat := ⟨(l4 xs).1.toArray⟩, aft := ⟨(l5 xs).1.toArray⟩ } → cs[61]? = some (.slice none 0 0) → Below w.heap.size w w' → IGAskPost w 14 xs e w') := by
      intro cs e w' h0 h1 h2 h3 h5
      have ho : igOf 14 xs = { zeroAsk with file := (l1 xs).1, most := (l2 xs).1, pat := ⟨(l4 xs).1.toArray⟩, aft := ⟨(l5 xs).1.toArray⟩ } := by unfold igOf; rw [hge, h0, if_pos rfl, hgp]
      unfold IGAskPost
      rw [hge, h0, ho]
      exact ⟨cs, h1, h2, h3, h5⟩
    have HE' := Lib.hid (HE.out _ hge)
    obtain ⟨er, her⟩ : ∃ x, x = rdEnd xs (l5 xs).2 := ⟨_, rfl⟩
    rw [← her] at DE HQ HE'
    obtain ⟨q1, hq1⟩ : ∃ x, x = (l1 xs) := ⟨_, rfl⟩
    rw [← hq1] at D1 D2 HQ
    obtain ⟨q2, hq2⟩ : ∃ x, x = (l2 xs) := ⟨_, rfl⟩
    rw [← hq2] at D2 D3 HQ
    obtain ⟨q3, hq3⟩ : ∃ x, x = (l3 xs) := ⟨_, rfl⟩
    rw [← hq3] at D3 D4
    obtain ⟨q4, hq4⟩ : ∃ x, x = (l4 xs) := ⟨_, rfl⟩
    rw [← hq4] at D4 D5 HQ
    obtain ⟨q5, hq5⟩ : ∃ x, x = (l5 xs) := ⟨_, rfl⟩
    rw [← hq5] at D5 DE HQ
    clear HE hk hx her hge hgp hq1 hq2 hq3 hq4 hq5
    go_enter Tryd.func21, Tryd.ntmps21
    go_wp2_with (first
      | ((with_reducible show wpList _ _ _ (⟨some 4, _, _, _, _, _⟩ :: _) _ _); refine wpList_alloc_blk rfl _ rfl zs _ ZH ?_; intro h w1 hg1 hg2 Z1 L1)
      | ((with_reducible show wpList _ _ _ (⟨some 6, _, _, _, _, _⟩ :: _) _ _); refine wpList_alloc_blk rfl _ rfl zs _ ZH ?_; intro a w2 hg3 hg4 K2 L02; have Z2 := Lib.hid (Z1.out.over L02.out); have L2 := Lib.hid (step L1.out L02.out); have hha : h ≠ a := (by omega); have hwa : w.heap.size ≤ a := (by have := L1.out.size; omega); have hsz2 := L2.out.size)
      | ((with_reducible show wpList _ _ _ (⟨some 10, _, _, _, _, _⟩ :: _) _ _); refine wpList_build_blk rfl _ _ rfl ([.slice A n k, .int .i64 0, .int .i64 0] : List Value) (by refine Eq.trans ?_ BR; kernel_rfl) ?_)
      | ((with_reducible show wpList _ _ _ (⟨some 7, _, _, _, _, _⟩ :: _) _ _); refine wpList_alloc_blk rfl _ rfl ([.slice none 0 0, .int .i64 0, .int .i64 0] : List Value) _ ZR ?_; intro g w3 hg5 hg6 R3 L03; have K3 := Lib.hid (K2.out.over L03.out); have Z3 := Lib.hid (Z2.out.over L03.out); have L3 := Lib.hid (step L2.out L03.out); have hag : a ≠ g := (by omega); have hhg : h ≠ g := (by have := Z2.out.lt; omega); have hwg : w.heap.size ≤ g := (by omega))
      | ((with_reducible show wpList _ _ _ (⟨none, .store _ (.tmp 7) _, _, _, _, _⟩ :: _) _ _); refine wpList_store_blk rfl _ (.tmp 7) (.tmp 10) rfl g rfl _ ([.slice none 0 0, .int .i64 0, .int .i64 0] : List Value) ([.slice A n k, .int .i64 0, .int .i64 0] : List Value) rfl R3 3 size_ird HR0 HR1 HR2 ?_; intro w4 R4 O4 hg7; have K4 := Lib.hid (K3.out.only O4.out hag); have Z4 := Lib.hid (Z3.out.only O4.out hhg); have L4 := Lib.hid (below_only L3.out O4.out hwg))
      | fail)
    have P4 : Hid (PI w4 g w.heap.size A n k xs rd0) := ⟨Nat.zero_le _, hwg, R4.out, HX.out.below L4.out⟩
    clear R3 L03 K2 K3 Z1 Z2 Z3 L02 L1 L2 L3 R4 O4 HX
    refine (D1.out w4 g L4.out.size P4.out).mono ?_
    rintro e v1 ⟨rfl, hP, hS⟩
    have Pc1 := Lib.hid hP
    have Zc1 := Lib.hid (Z4.out.save hS hhg)
    have Kc1 := Lib.hid (K4.out.save hS hag)
    have Lc1 := Lib.hid (L4.out.trans (hS.below hwg L4.out.size))
    clear hP hS P4 Z4 K4 L4
    go_wp2_with fail
    refine (D2.out v1 g Lc1.out.size Pc1.out).mono ?_
    rintro e v2 ⟨rfl, hP, hS⟩
    have Pc2 := Lib.hid hP
    have Zc2 := Lib.hid (Zc1.out.save hS hhg)
    have Kc2 := Lib.hid (Kc1.out.save hS hag)
    have Lc2 := Lib.hid (Lc1.out.trans (hS.below hwg Lc1.out.size))
    clear hP hS Pc1 Zc1 Kc1 Lc1
    go_wp2_with (first
      | ((with_reducible show wpList _ _ _ (⟨none, .store _ (.tmp 17) _, _, _, _, _⟩ :: _) _ _); refine wpList_store_fld rfl _ (.tmp 17) (.tmp 15) rfl a 57 rfl _ zs (.int .u64 q1.1) rfl Kc2 (Lib.hid (by have := HZ.out; omega)) (by kernel_rfl) rfl ?_; intro x1 Ks1 Os1 hqs1; obtain ⟨C1, hC1⟩ : ∃ x, x = zs.set 57 (.int .u64 q1.1) := ⟨_, rfl⟩; have HC1 := Lib.hid hC1; have HL1 : Hid (C1.length = 69) := (by rw [hC1, List.length_set]; exact HZ.out); rw [← hC1] at Ks1; have Zs1 := Lib.hid (Zc2.out.only Os1.out hha); have Ps1 := Lib.hid (Pc2.out.only Os1.out (Ne.symm hag) hwa); have Ls1 := Lib.hid (below_only Lc2.out Os1.out hwa); clear hC1)
      | ((with_reducible show wpList _ _ _ (⟨none, .store _ (.tmp 18) _, _, _, _, _⟩ :: _) _ _); refine wpList_store_fld rfl _ (.tmp 18) (.tmp 16) rfl a 63 rfl _ C1 (.int .u16 q2.1) rfl Ks1 (Lib.hid (by have := HL1.out; omega)) (by kernel_rfl) rfl ?_; intro x2 Ks2 Os2 hqs2; obtain ⟨C2, hC2⟩ : ∃ x, x = C1.set 63 (.int .u16 q2.1) := ⟨_, rfl⟩; have HC2 := Lib.hid hC2; have HL2 : Hid (C2.length = 69) := (by rw [hC2, List.length_set]; exact HL1.out); rw [← hC2] at Ks2; have Zs2 := Lib.hid (Zs1.out.only Os2.out hha); have Ps2 := Lib.hid (Ps1.out.only Os2.out (Ne.symm hag) hwa); have Ls2 := Lib.hid (below_only Ls1.out Os2.out hwa); clear hC2)
      | fail)
    refine (D3.out x2 g Ls2.out.size Ps2.out).mono ?_
    rintro e v3 ⟨rfl, hP, hS⟩
    have Pc3 := Lib.hid hP
    have Zc3 := Lib.hid (Zs2.out.save hS hhg)
    have Kc3 := Lib.hid (Ks2.out.save hS hag)
    have Lc3 := Lib.hid (Ls2.out.trans (hS.below hwg Ls2.out.size))
    clear hP hS Ps2 Zs2 Ks2 Ls2
    go_wp2_with fail
    refine (D4.out v3 g Lc3.out.size Pc3.out).mono ?_
    rintro e v4 ⟨rfl, hP, hS⟩
    have Pc4 := Lib.hid hP
    have Zc4 := Lib.hid (Zc3.out.save hS hhg)
    have Kc4 := Lib.hid (Kc3.out.save hS hag)
    have Lc4 := Lib.hid (Lc3.out.trans (hS.below hwg Lc3.out.size))
    clear hP hS Pc3 Zc3 Kc3 Lc3
    go_wp2_with fail
    refine (D5.out v4 g Lc4.out.size Pc4.out).mono ?_
    rintro e v5 ⟨rfl, hP, hS⟩
    have Pc5 := Lib.hid hP
    have Zc5 := Lib.hid (Zc4.out.save hS hhg)
    have Kc5 := Lib.hid (Kc4.out.save hS hag)
    have Lc5 := Lib.hid (Lc4.out.trans (hS.below hwg Lc4.out.size))
    clear hP hS Pc4 Zc4 Kc4 Lc4
    go_wp2_with (first
      | ((with_reducible show wpList _ _ _ (⟨none, .store _ (.tmp 22) _, _, _, _, _⟩ :: _) _ _); refine wpList_store_fld rfl _ (.tmp 22) (.tmp 20) rfl a 64 rfl _ C2 (.string ⟨q4.1.toArray⟩) rfl Kc5 (Lib.hid (by have := HL2.out; omega)) (by kernel_rfl) rfl ?_; intro x3 Ks3 Os3 hqs3; obtain ⟨C3, hC3⟩ : ∃ x, x = C2.set 64 (.string ⟨q4.1.toArray⟩) := ⟨_, rfl⟩; have HC3 := Lib.hid hC3; have HL3 : Hid (C3.length = 69) := (by rw [hC3, List.length_set]; exact HL2.out); rw [← hC3] at Ks3; have Zs3 := Lib.hid (Zc5.out.only Os3.out hha); have Ps3 := Lib.hid (Pc5.out.only Os3.out (Ne.symm hag) hwa); have Ls3 := Lib.hid (below_only Lc5.out Os3.out hwa); clear hC3)
      | ((with_reducible show wpList _ _ _ (⟨none, .store _ (.tmp 23) _, _, _, _, _⟩ :: _) _ _); refine wpList_store_fld rfl _ (.tmp 23) (.tmp 21) rfl a 65 rfl _ C3 (.string ⟨q5.1.toArray⟩) rfl Ks3 (Lib.hid (by have := HL3.out; omega)) (by kernel_rfl) rfl ?_; intro x4 Ks4 Os4 hqs4; obtain ⟨C4, hC4⟩ : ∃ x, x = C3.set 65 (.string ⟨q5.1.toArray⟩) := ⟨_, rfl⟩; have HC4 := Lib.hid hC4; have HL4 : Hid (C4.length = 69) := (by rw [hC4, List.length_set]; exact HL3.out); rw [← hC4] at Ks4; have Zs4 := Lib.hid (Zs3.out.only Os4.out hha); have Ps4 := Lib.hid (Ps3.out.only Os4.out (Ne.symm hag) hwa); have Ls4 := Lib.hid (below_only Ls3.out Os4.out hwa); clear hC4)
      | fail)
    refine (DE.out x4 g Ps4.out).mono ?_
    rintro e ve ⟨rfl, hS⟩
    have ZE := Lib.hid (Zs4.out.save hS hhg)
    have KE := Lib.hid (Ks4.out.save hS hag)
    have LE := Lib.hid (Ls4.out.trans (hS.below hwg Ls4.out.size))
    clear hS Ps4 Zs4 Ks4 Ls4
    by_cases he : er = 0
    rotate_left
    · have hne : (er != 0) = true := by simpa using he
      have HN := Lib.hid (HE'.out he)
      clear he HE' HQ
      go_wp2_with (first
        | ((with_reducible show wpList _ _ _ (⟨some 65, _, _, _, _, _⟩ :: _) _ _); refine wpList_build_none rfl _ rfl zs BZ ?_)
        | ((with_reducible show wpList _ _ _ (⟨none, .store _ (.tmp 4) _, _, _, _, _⟩ :: _) _ _); refine wpList_store_blk rfl _ (.tmp 4) (.tmp 65) rfl h rfl _ zs zs rfl ZE 69 size_ask HZ HZ HZ1 ?_; intro w10 K10 O10 hg10)
        | fail)
      refine bodyPost_ret (v := .tuple #[.agg zs.toArray, .int .i64 er]) ?_ rfl (HN.out _ _ rfl (below_only LE.out O10.out (by omega)))
      exact results_cell_two rfl _ _ h _ _ (0, 0) _ rfl K10.out Tryd.underlying32 rfl (by rw [size_ask]; have := HZ.out; simp [this]) rfl
    · subst he
      have HEQ : Hid (C4 = acells (.slice none 0 0) (.slice none 0 0) (.slice none 0 0) { zeroAsk with file := q1.1, most := q2.1, pat := ⟨q4.1.toArray⟩, aft := ⟨q5.1.toArray⟩ }) := by
        show _ = _
        rw [HC4.out, HC3.out, HC2.out, HC1.out, HZS.out]
        rfl
      have H1C : Hid (∀ v ∈ C4, v.oneCell' = true) := by
        show _
        rw [HEQ.out]
        exact acells_one rfl rfl rfl
      go_wp2_with (first
        | ((with_reducible show wpList _ _ _ (⟨some 67, _, _, _, _, _⟩ :: _) _ _); refine wpList_load_blk rfl _ (.tmp 6) rfl a rfl _ C4 KE 69 _ Tryd.underlying32 rfl size_ask HL4 ?_)
        | ((with_reducible show wpList _ _ _ (⟨none, .store _ (.tmp 4) _, _, _, _, _⟩ :: _) _ _); refine wpList_store_blk rfl _ (.tmp 4) (.tmp 67) rfl h rfl _ zs C4 rfl ZE 69 size_ask HZ HL4 H1C ?_; intro w10 K10 O10 hg10)
        | fail)
      refine bodyPost_ret (v := .tuple #[.agg C4.toArray, .int .i64 0]) ?_ rfl ?_
      · exact results_cell_two rfl _ _ h _ _ (0, 0) _ rfl K10.out Tryd.underlying32 rfl (by rw [size_ask]; have := HL4.out; simp [this]) rfl
      · have LF : Below w.heap.size w w10 := below_only LE.out O10.out (by omega)
        exact HQ.out C4 _ _ (by trivial) rfl ⟨none, 0, 0, none, 0, 0, none, 0, 0, by rw [HEQ.out], HoldsF.nil _ _ _, Holds.nil _ _, HoldsS.nil _ _ _ _⟩ (by rw [HEQ.out]; rfl) LF
  · subst h16
    have D1 : Hid (∀ (w' : World) (g : Nat), w.heap.size ≤ w'.heap.size → PI w' g w.heap.size A n k xs rd0 → Calls Tryd.prog 49 #[.pointer (some ⟨g, 0, none⟩)] w' fun e w2 => e = .returned (.int .u64 (l1 xs).1) ∧ PI w2 g w.heap.size A n k xs (l1 xs).2 ∧ Save g w' w2) := fun w' g hs h => ineight_any w' g _ A n k xs _ hby h
    have DE : Hid (∀ (w' : World) (g : Nat), PI w' g w.heap.size A n k xs (l1 xs).2 → Calls Tryd.prog 56 #[.pointer (some ⟨g, 0, none⟩)] w' fun e w2 => e = .returned (.int .i64 (rdEnd xs (l1 xs).2)) ∧ Save g w' w2) := fun w' g h => inend_any w' g _ A n k xs _ h
    have hgp : igP 16 xs = ({ zeroAsk with file := (l1 xs).1 }, (l1 xs).2) := by unfold igP; rw [if_neg (by decide), if_pos rfl]
    have hge : igErr 16 xs = rdEnd xs (l1 xs).2 := by unfold igErr; rw [if_pos hk, hgp]
    have HQ : Hid (∀ (cs : List Value) (e : Ending) (w' : World), rdEnd xs (l1 xs).2 = 0 → e = .returned (.tuple #[.agg cs.toArray, .int .i64 0]) → AskIs w' w'.heap.size cs { zeroAsk with file := (l1 xs).1 } → cs[61]? = some (.slice none 0 0) → Below w.heap.size w w' → IGAskPost w 16 xs e w') := by
      intro cs e w' h0 h1 h2 h3 h5
      have ho : igOf 16 xs = { zeroAsk with file := (l1 xs).1 } := by unfold igOf; rw [hge, h0, if_pos rfl, hgp]
      unfold IGAskPost
      rw [hge, h0, ho]
      exact ⟨cs, h1, h2, h3, h5⟩
    have HE' := Lib.hid (HE.out _ hge)
    obtain ⟨er, her⟩ : ∃ x, x = rdEnd xs (l1 xs).2 := ⟨_, rfl⟩
    rw [← her] at DE HQ HE'
    obtain ⟨q1, hq1⟩ : ∃ x, x = (l1 xs) := ⟨_, rfl⟩
    rw [← hq1] at D1 DE HQ
    clear HE hk hx her hge hgp hq1
    go_enter Tryd.func21, Tryd.ntmps21
    go_wp2_with (first
      | ((with_reducible show wpList _ _ _ (⟨some 4, _, _, _, _, _⟩ :: _) _ _); refine wpList_alloc_blk rfl _ rfl zs _ ZH ?_; intro h w1 hg1 hg2 Z1 L1)
      | ((with_reducible show wpList _ _ _ (⟨some 6, _, _, _, _, _⟩ :: _) _ _); refine wpList_alloc_blk rfl _ rfl zs _ ZH ?_; intro a w2 hg3 hg4 K2 L02; have Z2 := Lib.hid (Z1.out.over L02.out); have L2 := Lib.hid (step L1.out L02.out); have hha : h ≠ a := (by omega); have hwa : w.heap.size ≤ a := (by have := L1.out.size; omega); have hsz2 := L2.out.size)
      | ((with_reducible show wpList _ _ _ (⟨some 10, _, _, _, _, _⟩ :: _) _ _); refine wpList_build_blk rfl _ _ rfl ([.slice A n k, .int .i64 0, .int .i64 0] : List Value) (by refine Eq.trans ?_ BR; kernel_rfl) ?_)
      | ((with_reducible show wpList _ _ _ (⟨some 7, _, _, _, _, _⟩ :: _) _ _); refine wpList_alloc_blk rfl _ rfl ([.slice none 0 0, .int .i64 0, .int .i64 0] : List Value) _ ZR ?_; intro g w3 hg5 hg6 R3 L03; have K3 := Lib.hid (K2.out.over L03.out); have Z3 := Lib.hid (Z2.out.over L03.out); have L3 := Lib.hid (step L2.out L03.out); have hag : a ≠ g := (by omega); have hhg : h ≠ g := (by have := Z2.out.lt; omega); have hwg : w.heap.size ≤ g := (by omega))
      | ((with_reducible show wpList _ _ _ (⟨none, .store _ (.tmp 7) _, _, _, _, _⟩ :: _) _ _); refine wpList_store_blk rfl _ (.tmp 7) (.tmp 10) rfl g rfl _ ([.slice none 0 0, .int .i64 0, .int .i64 0] : List Value) ([.slice A n k, .int .i64 0, .int .i64 0] : List Value) rfl R3 3 size_ird HR0 HR1 HR2 ?_; intro w4 R4 O4 hg7; have K4 := Lib.hid (K3.out.only O4.out hag); have Z4 := Lib.hid (Z3.out.only O4.out hhg); have L4 := Lib.hid (below_only L3.out O4.out hwg))
      | fail)
    have P4 : Hid (PI w4 g w.heap.size A n k xs rd0) := ⟨Nat.zero_le _, hwg, R4.out, HX.out.below L4.out⟩
    clear R3 L03 K2 K3 Z1 Z2 Z3 L02 L1 L2 L3 R4 O4 HX
    refine (D1.out w4 g L4.out.size P4.out).mono ?_
    rintro e v1 ⟨rfl, hP, hS⟩
    have Pc1 := Lib.hid hP
    have Zc1 := Lib.hid (Z4.out.save hS hhg)
    have Kc1 := Lib.hid (K4.out.save hS hag)
    have Lc1 := Lib.hid (L4.out.trans (hS.below hwg L4.out.size))
    clear hP hS P4 Z4 K4 L4
    go_wp2_with (first
      | ((with_reducible show wpList _ _ _ (⟨none, .store _ (.tmp 27) _, _, _, _, _⟩ :: _) _ _); refine wpList_store_fld rfl _ (.tmp 27) (.tmp 26) rfl a 57 rfl _ zs (.int .u64 q1.1) rfl Kc1 (Lib.hid (by have := HZ.out; omega)) (by kernel_rfl) rfl ?_; intro x1 Ks1 Os1 hqs1; obtain ⟨C1, hC1⟩ : ∃ x, x = zs.set 57 (.int .u64 q1.1) := ⟨_, rfl⟩; have HC1 := Lib.hid hC1; have HL1 : Hid (C1.length = 69) := (by rw [hC1, List.length_set]; exact HZ.out); rw [← hC1] at Ks1; have Zs1 := Lib.hid (Zc1.out.only Os1.out hha); have Ps1 := Lib.hid (Pc1.out.only Os1.out (Ne.symm hag) hwa); have Ls1 := Lib.hid (below_only Lc1.out Os1.out hwa); clear hC1)
      | fail)
    refine (DE.out x1 g Ps1.out).mono ?_
    rintro e ve ⟨rfl, hS⟩
    have ZE := Lib.hid (Zs1.out.save hS hhg)
    have KE := Lib.hid (Ks1.out.save hS hag)
    have LE := Lib.hid (Ls1.out.trans (hS.below hwg Ls1.out.size))
    clear hS Ps1 Zs1 Ks1 Ls1
    by_cases he : er = 0
    rotate_left
    · have hne : (er != 0) = true := by simpa using he
      have HN := Lib.hid (HE'.out he)
      clear he HE' HQ
      go_wp2_with (first
        | ((with_reducible show wpList _ _ _ (⟨some 65, _, _, _, _, _⟩ :: _) _ _); refine wpList_build_none rfl _ rfl zs BZ ?_)
        | ((with_reducible show wpList _ _ _ (⟨none, .store _ (.tmp 4) _, _, _, _, _⟩ :: _) _ _); refine wpList_store_blk rfl _ (.tmp 4) (.tmp 65) rfl h rfl _ zs zs rfl ZE 69 size_ask HZ HZ HZ1 ?_; intro w10 K10 O10 hg10)
        | fail)
      refine bodyPost_ret (v := .tuple #[.agg zs.toArray, .int .i64 er]) ?_ rfl (HN.out _ _ rfl (below_only LE.out O10.out (by omega)))
      exact results_cell_two rfl _ _ h _ _ (0, 0) _ rfl K10.out Tryd.underlying32 rfl (by rw [size_ask]; have := HZ.out; simp [this]) rfl
    · subst he
      have HEQ : Hid (C1 = acells (.slice none 0 0) (.slice none 0 0) (.slice none 0 0) { zeroAsk with file := q1.1 }) := by
        show _ = _
        rw [HC1.out, HZS.out]
        rfl
      have H1C : Hid (∀ v ∈ C1, v.oneCell' = true) := by
        show _
        rw [HEQ.out]
        exact acells_one rfl rfl rfl
      go_wp2_with (first
        | ((with_reducible show wpList _ _ _ (⟨some 67, _, _, _, _, _⟩ :: _) _ _); refine wpList_load_blk rfl _ (.tmp 6) rfl a rfl _ C1 KE 69 _ Tryd.underlying32 rfl size_ask HL1 ?_)
        | ((with_reducible show wpList _ _ _ (⟨none, .store _ (.tmp 4) _, _, _, _, _⟩ :: _) _ _); refine wpList_store_blk rfl _ (.tmp 4) (.tmp 67) rfl h rfl _ zs C1 rfl ZE 69 size_ask HZ HL1 H1C ?_; intro w10 K10 O10 hg10)
        | fail)
      refine bodyPost_ret (v := .tuple #[.agg C1.toArray, .int .i64 0]) ?_ rfl ?_
      · exact results_cell_two rfl _ _ h _ _ (0, 0) _ rfl K10.out Tryd.underlying32 rfl (by rw [size_ask]; have := HL1.out; simp [this]) rfl
      · have LF : Below w.heap.size w w10 := below_only LE.out O10.out (by omega)
        exact HQ.out C1 _ _ (by trivial) rfl ⟨none, 0, 0, none, 0, 0, none, 0, 0, by rw [HEQ.out], HoldsF.nil _ _ _, Holds.nil _ _, HoldsS.nil _ _ _ _⟩ (by rw [HEQ.out]; rfl) LF
  · subst h17
    by_cases c1 : (l2 xs).1 = 1
    · have D1 : Hid (∀ (w' : World) (g : Nat), w.heap.size ≤ w'.heap.size → PI w' g w.heap.size A n k xs rd0 → Calls Tryd.prog 49 #[.pointer (some ⟨g, 0, none⟩)] w' fun e w2 => e = .returned (.int .u64 (l1 xs).1) ∧ PI w2 g w.heap.size A n k xs (l1 xs).2 ∧ Save g w' w2) := fun w' g hs h => ineight_any w' g _ A n k xs _ hby h
      have D2 : Hid (∀ (w' : World) (g : Nat), w.heap.size ≤ w'.heap.size → PI w' g w.heap.size A n k xs (l1 xs).2 → Calls Tryd.prog 50 #[.pointer (some ⟨g, 0, none⟩)] w' fun e w2 => e = .returned (.int .u16 (l2 xs).1) ∧ PI w2 g w.heap.size A n k xs (l2 xs).2 ∧ Save g w' w2) := fun w' g hs h => intwo_any w' g _ A n k xs _ hby h
      have D3 : Hid (∀ (w' : World) (g : Nat), w.heap.size ≤ w'.heap.size → PI w' g w.heap.size A n k xs (l2 xs).2 → Calls Tryd.prog 49 #[.pointer (some ⟨g, 0, none⟩)] w' fun e w2 => e = .returned (.int .u64 (t3 xs).1) ∧ PI w2 g w.heap.size A n k xs (t3 xs).2 ∧ Save g w' w2) := fun w' g hs h => ineight_any w' g _ A n k xs _ hby h
      have DE : Hid (∀ (w' : World) (g : Nat), PI w' g w.heap.size A n k xs (t3 xs).2 → Calls Tryd.prog 56 #[.pointer (some ⟨g, 0, none⟩)] w' fun e w2 => e = .returned (.int .i64 (rdEnd xs (t3 xs).2)) ∧ Save g w' w2) := fun w' g h => inend_any w' g _ A n k xs _ h
      have hgp : igP 17 xs = ({ zeroAsk with file := (l1 xs).1, cls := (l2 xs).1, siz := (t3 xs).1 }, (t3 xs).2) := by unfold igP; rw [if_neg (by decide), if_neg (by decide), if_pos rfl, if_pos c1]
      have hge : igErr 17 xs = rdEnd xs (t3 xs).2 := by unfold igErr; rw [if_pos hk, hgp]
      have HQ : Hid (∀ (cs : List Value) (e : Ending) (w' : World), rdEnd xs (t3 xs).2 = 0 → e = .returned (.tuple #[.agg cs.toArray, .int .i64 0]) → AskIs w' w'.heap.size cs { zeroAsk with file := (l1 xs).1, cls := (l2 xs).1, siz := (t3 xs).1 } → cs[61]? = some (.slice none 0 0) → Below w.heap.size w w' → IGAskPost w 17 xs e w') := by
        intro cs e w' h0 h1 h2 h3 h5
        have ho : igOf 17 xs = { zeroAsk with file := (l1 xs).1, cls := (l2 xs).1, siz := (t3 xs).1 } := by unfold igOf; rw [hge, h0, if_pos rfl, hgp]
        unfold IGAskPost
        rw [hge, h0, ho]
        exact ⟨cs, h1, h2, h3, h5⟩
      have HE' := Lib.hid (HE.out _ hge)
      obtain ⟨er, her⟩ : ∃ x, x = rdEnd xs (t3 xs).2 := ⟨_, rfl⟩
      rw [← her] at DE HQ HE'
      have cf1 : ((l2 xs).1 == 1) = true := by simpa using c1
      clear c1
      obtain ⟨q1, hq1⟩ : ∃ x, x = (l1 xs) := ⟨_, rfl⟩
      rw [← hq1] at D1 D2 HQ
      obtain ⟨q2, hq2⟩ : ∃ x, x = (l2 xs) := ⟨_, rfl⟩
      rw [← hq2] at D2 D3 HQ cf1
      obtain ⟨q3, hq3⟩ : ∃ x, x = (t3 xs) := ⟨_, rfl⟩
      rw [← hq3] at D3 DE HQ
      clear HE hk hx her hge hgp hq1 hq2 hq3
      go_enter Tryd.func21, Tryd.ntmps21
      go_wp2_with (first
        | ((with_reducible show wpList _ _ _ (⟨some 4, _, _, _, _, _⟩ :: _) _ _); refine wpList_alloc_blk rfl _ rfl zs _ ZH ?_; intro h w1 hg1 hg2 Z1 L1)
        | ((with_reducible show wpList _ _ _ (⟨some 6, _, _, _, _, _⟩ :: _) _ _); refine wpList_alloc_blk rfl _ rfl zs _ ZH ?_; intro a w2 hg3 hg4 K2 L02; have Z2 := Lib.hid (Z1.out.over L02.out); have L2 := Lib.hid (step L1.out L02.out); have hha : h ≠ a := (by omega); have hwa : w.heap.size ≤ a := (by have := L1.out.size; omega); have hsz2 := L2.out.size)
        | ((with_reducible show wpList _ _ _ (⟨some 10, _, _, _, _, _⟩ :: _) _ _); refine wpList_build_blk rfl _ _ rfl ([.slice A n k, .int .i64 0, .int .i64 0] : List Value) (by refine Eq.trans ?_ BR; kernel_rfl) ?_)
        | ((with_reducible show wpList _ _ _ (⟨some 7, _, _, _, _, _⟩ :: _) _ _); refine wpList_alloc_blk rfl _ rfl ([.slice none 0 0, .int .i64 0, .int .i64 0] : List Value) _ ZR ?_; intro g w3 hg5 hg6 R3 L03; have K3 := Lib.hid (K2.out.over L03.out); have Z3 := Lib.hid (Z2.out.over L03.out); have L3 := Lib.hid (step L2.out L03.out); have hag : a ≠ g := (by omega); have hhg : h ≠ g := (by have := Z2.out.lt; omega); have hwg : w.heap.size ≤ g := (by omega))
        | ((with_reducible show wpList _ _ _ (⟨none, .store _ (.tmp 7) _, _, _, _, _⟩ :: _) _ _); refine wpList_store_blk rfl _ (.tmp 7) (.tmp 10) rfl g rfl _ ([.slice none 0 0, .int .i64 0, .int .i64 0] : List Value) ([.slice A n k, .int .i64 0, .int .i64 0] : List Value) rfl R3 3 size_ird HR0 HR1 HR2 ?_; intro w4 R4 O4 hg7; have K4 := Lib.hid (K3.out.only O4.out hag); have Z4 := Lib.hid (Z3.out.only O4.out hhg); have L4 := Lib.hid (below_only L3.out O4.out hwg))
        | fail)
      have P4 : Hid (PI w4 g w.heap.size A n k xs rd0) := ⟨Nat.zero_le _, hwg, R4.out, HX.out.below L4.out⟩
      clear R3 L03 K2 K3 Z1 Z2 Z3 L02 L1 L2 L3 R4 O4 HX
      refine (D1.out w4 g L4.out.size P4.out).mono ?_
      rintro e v1 ⟨rfl, hP, hS⟩
      have Pc1 := Lib.hid hP
      have Zc1 := Lib.hid (Z4.out.save hS hhg)
      have Kc1 := Lib.hid (K4.out.save hS hag)
      have Lc1 := Lib.hid (L4.out.trans (hS.below hwg L4.out.size))
      clear hP hS P4 Z4 K4 L4
      go_wp2_with fail
      refine (D2.out v1 g Lc1.out.size Pc1.out).mono ?_
      rintro e v2 ⟨rfl, hP, hS⟩
      have Pc2 := Lib.hid hP
      have Zc2 := Lib.hid (Zc1.out.save hS hhg)
      have Kc2 := Lib.hid (Kc1.out.save hS hag)
      have Lc2 := Lib.hid (Lc1.out.trans (hS.below hwg Lc1.out.size))
      clear hP hS Pc1 Zc1 Kc1 Lc1
      go_wp2_with (first
        | ((with_reducible show wpList _ _ _ (⟨none, .store _ (.tmp 32) _, _, _, _, _⟩ :: _) _ _); refine wpList_store_fld rfl _ (.tmp 32) (.tmp 30) rfl a 57 rfl _ zs (.int .u64 q1.1) rfl Kc2 (Lib.hid (by have := HZ.out; omega)) (by kernel_rfl) rfl ?_; intro x1 Ks1 Os1 hqs1; obtain ⟨C1, hC1⟩ : ∃ x, x = zs.set 57 (.int .u64 q1.1) := ⟨_, rfl⟩; have HC1 := Lib.hid hC1; have HL1 : Hid (C1.length = 69) := (by rw [hC1, List.length_set]; exact HZ.out); rw [← hC1] at Ks1; have Zs1 := Lib.hid (Zc2.out.only Os1.out hha); have Ps1 := Lib.hid (Pc2.out.only Os1.out (Ne.symm hag) hwa); have Ls1 := Lib.hid (below_only Lc2.out Os1.out hwa); clear hC1)
        | ((with_reducible show wpList _ _ _ (⟨none, .store _ (.tmp 33) _, _, _, _, _⟩ :: _) _ _); refine wpList_store_fld rfl _ (.tmp 33) (.tmp 31) rfl a 66 rfl _ C1 (.int .u16 q2.1) rfl Ks1 (Lib.hid (by have := HL1.out; omega)) (by kernel_rfl) rfl ?_; intro x2 Ks2 Os2 hqs2; obtain ⟨C2, hC2⟩ : ∃ x, x = C1.set 66 (.int .u16 q2.1) := ⟨_, rfl⟩; have HC2 := Lib.hid hC2; have HL2 : Hid (C2.length = 69) := (by rw [hC2, List.length_set]; exact HL1.out); rw [← hC2] at Ks2; have Zs2 := Lib.hid (Zs1.out.only Os2.out hha); have Ps2 := Lib.hid (Ps1.out.only Os2.out (Ne.symm hag) hwa); have Ls2 := Lib.hid (below_only Ls1.out Os2.out hwa); have hcl : x2.cell? ⟨a, 66, none⟩ = some (.int .u16 q2.1) := (Ks2.out.at (by rw [hC2]; exact List.getElem?_set_self (by have := HL1.out; omega))); clear hC2)
        | fail)
      refine (D3.out x2 g Ls2.out.size Ps2.out).mono ?_
      rintro e v3 ⟨rfl, hP, hS⟩
      have Pc3 := Lib.hid hP
      have Zc3 := Lib.hid (Zs2.out.save hS hhg)
      have Kc3 := Lib.hid (Ks2.out.save hS hag)
      have Lc3 := Lib.hid (Ls2.out.trans (hS.below hwg Ls2.out.size))
      clear hP hS Ps2 Zs2 Ks2 Ls2
      go_wp2_with (first
        | ((with_reducible show wpList _ _ _ (⟨none, .store _ (.tmp 40) _, _, _, _, _⟩ :: _) _ _); refine wpList_store_fld rfl _ (.tmp 40) (.tmp 39) rfl a 67 rfl _ C2 (.int .u64 q3.1) rfl Kc3 (Lib.hid (by have := HL2.out; omega)) (by kernel_rfl) rfl ?_; intro x3 Ks3 Os3 hqs3; obtain ⟨C3, hC3⟩ : ∃ x, x = C2.set 67 (.int .u64 q3.1) := ⟨_, rfl⟩; have HC3 := Lib.hid hC3; have HL3 : Hid (C3.length = 69) := (by rw [hC3, List.length_set]; exact HL2.out); rw [← hC3] at Ks3; have Zs3 := Lib.hid (Zc3.out.only Os3.out hha); have Ps3 := Lib.hid (Pc3.out.only Os3.out (Ne.symm hag) hwa); have Ls3 := Lib.hid (below_only Lc3.out Os3.out hwa); clear hC3)
        | fail)
      refine (DE.out x3 g Ps3.out).mono ?_
      rintro e ve ⟨rfl, hS⟩
      have ZE := Lib.hid (Zs3.out.save hS hhg)
      have KE := Lib.hid (Ks3.out.save hS hag)
      have LE := Lib.hid (Ls3.out.trans (hS.below hwg Ls3.out.size))
      clear hS Ps3 Zs3 Ks3 Ls3
      by_cases he : er = 0
      rotate_left
      · have hne : (er != 0) = true := by simpa using he
        have HN := Lib.hid (HE'.out he)
        clear he HE' HQ
        go_wp2_with (first
          | ((with_reducible show wpList _ _ _ (⟨some 65, _, _, _, _, _⟩ :: _) _ _); refine wpList_build_none rfl _ rfl zs BZ ?_)
          | ((with_reducible show wpList _ _ _ (⟨none, .store _ (.tmp 4) _, _, _, _, _⟩ :: _) _ _); refine wpList_store_blk rfl _ (.tmp 4) (.tmp 65) rfl h rfl _ zs zs rfl ZE 69 size_ask HZ HZ HZ1 ?_; intro w10 K10 O10 hg10)
          | fail)
        refine bodyPost_ret (v := .tuple #[.agg zs.toArray, .int .i64 er]) ?_ rfl (HN.out _ _ rfl (below_only LE.out O10.out (by omega)))
        exact results_cell_two rfl _ _ h _ _ (0, 0) _ rfl K10.out Tryd.underlying32 rfl (by rw [size_ask]; have := HZ.out; simp [this]) rfl
      · subst he
        have HEQ : Hid (C3 = acells (.slice none 0 0) (.slice none 0 0) (.slice none 0 0) { zeroAsk with file := q1.1, cls := q2.1, siz := q3.1 }) := by
          show _ = _
          rw [HC3.out, HC2.out, HC1.out, HZS.out]
          rfl
        have H1C : Hid (∀ v ∈ C3, v.oneCell' = true) := by
          show _
          rw [HEQ.out]
          exact acells_one rfl rfl rfl
        go_wp2_with (first
          | ((with_reducible show wpList _ _ _ (⟨some 67, _, _, _, _, _⟩ :: _) _ _); refine wpList_load_blk rfl _ (.tmp 6) rfl a rfl _ C3 KE 69 _ Tryd.underlying32 rfl size_ask HL3 ?_)
          | ((with_reducible show wpList _ _ _ (⟨none, .store _ (.tmp 4) _, _, _, _, _⟩ :: _) _ _); refine wpList_store_blk rfl _ (.tmp 4) (.tmp 67) rfl h rfl _ zs C3 rfl ZE 69 size_ask HZ HL3 H1C ?_; intro w10 K10 O10 hg10)
          | fail)
        refine bodyPost_ret (v := .tuple #[.agg C3.toArray, .int .i64 0]) ?_ rfl ?_
        · exact results_cell_two rfl _ _ h _ _ (0, 0) _ rfl K10.out Tryd.underlying32 rfl (by rw [size_ask]; have := HL3.out; simp [this]) rfl
        · have LF : Below w.heap.size w w10 := below_only LE.out O10.out (by omega)
          exact HQ.out C3 _ _ (by trivial) rfl ⟨none, 0, 0, none, 0, 0, none, 0, 0, by rw [HEQ.out], HoldsF.nil _ _ _, Holds.nil _ _, HoldsS.nil _ _ _ _⟩ (by rw [HEQ.out]; rfl) LF
    · by_cases c2 : (l2 xs).1 = 2
      · have D1 : Hid (∀ (w' : World) (g : Nat), w.heap.size ≤ w'.heap.size → PI w' g w.heap.size A n k xs rd0 → Calls Tryd.prog 49 #[.pointer (some ⟨g, 0, none⟩)] w' fun e w2 => e = .returned (.int .u64 (l1 xs).1) ∧ PI w2 g w.heap.size A n k xs (l1 xs).2 ∧ Save g w' w2) := fun w' g hs h => ineight_any w' g _ A n k xs _ hby h
        have D2 : Hid (∀ (w' : World) (g : Nat), w.heap.size ≤ w'.heap.size → PI w' g w.heap.size A n k xs (l1 xs).2 → Calls Tryd.prog 50 #[.pointer (some ⟨g, 0, none⟩)] w' fun e w2 => e = .returned (.int .u16 (l2 xs).1) ∧ PI w2 g w.heap.size A n k xs (l2 xs).2 ∧ Save g w' w2) := fun w' g hs h => intwo_any w' g _ A n k xs _ hby h
        have D3 : Hid (∀ (w' : World) (g : Nat), w.heap.size ≤ w'.heap.size → PI w' g w.heap.size A n k xs (l2 xs).2 → Calls Tryd.prog 53 #[.pointer (some ⟨g, 0, none⟩)] w' fun e w2 => e = .returned (.bool ((t4 xs).1 != 0)) ∧ PI w2 g w.heap.size A n k xs (t4 xs).2 ∧ Save g w' w2) := fun w' g hs h => intruth_any w' g _ A n k xs _ hby h
        have DE : Hid (∀ (w' : World) (g : Nat), PI w' g w.heap.size A n k xs (t4 xs).2 → Calls Tryd.prog 56 #[.pointer (some ⟨g, 0, none⟩)] w' fun e w2 => e = .returned (.int .i64 (rdEnd xs (t4 xs).2)) ∧ Save g w' w2) := fun w' g h => inend_any w' g _ A n k xs _ h
        have hgp : igP 17 xs = ({ zeroAsk with file := (l1 xs).1, cls := (l2 xs).1, on := ((t4 xs).1 != 0) }, (t4 xs).2) := by unfold igP; rw [if_neg (by decide), if_neg (by decide), if_pos rfl, if_neg c1, if_pos c2]
        have hge : igErr 17 xs = rdEnd xs (t4 xs).2 := by unfold igErr; rw [if_pos hk, hgp]
        have HQ : Hid (∀ (cs : List Value) (e : Ending) (w' : World), rdEnd xs (t4 xs).2 = 0 → e = .returned (.tuple #[.agg cs.toArray, .int .i64 0]) → AskIs w' w'.heap.size cs { zeroAsk with file := (l1 xs).1, cls := (l2 xs).1, on := ((t4 xs).1 != 0) } → cs[61]? = some (.slice none 0 0) → Below w.heap.size w w' → IGAskPost w 17 xs e w') := by
          intro cs e w' h0 h1 h2 h3 h5
          have ho : igOf 17 xs = { zeroAsk with file := (l1 xs).1, cls := (l2 xs).1, on := ((t4 xs).1 != 0) } := by unfold igOf; rw [hge, h0, if_pos rfl, hgp]
          unfold IGAskPost
          rw [hge, h0, ho]
          exact ⟨cs, h1, h2, h3, h5⟩
        have HE' := Lib.hid (HE.out _ hge)
        obtain ⟨er, her⟩ : ∃ x, x = rdEnd xs (t4 xs).2 := ⟨_, rfl⟩
        rw [← her] at DE HQ HE'
        have cf1 : ((l2 xs).1 == 1) = false := by simpa using c1
        have cf2 : ((l2 xs).1 == 2) = true := by simpa using c2
        clear c1 c2
        obtain ⟨q1, hq1⟩ : ∃ x, x = (l1 xs) := ⟨_, rfl⟩
        rw [← hq1] at D1 D2 HQ
        obtain ⟨q2, hq2⟩ : ∃ x, x = (l2 xs) := ⟨_, rfl⟩
        rw [← hq2] at D2 D3 HQ cf1 cf2
        obtain ⟨tb, htb⟩ : ∃ x, x = ((t4 xs).1 != 0) := ⟨_, rfl⟩
        rw [← htb] at D3 HQ
        obtain ⟨q3, hq3⟩ : ∃ x, x = (t4 xs).2 := ⟨_, rfl⟩
        rw [← hq3] at D3 DE
        clear HE hk hx her hge hgp hq1 hq2 htb hq3
        go_enter Tryd.func21, Tryd.ntmps21
        go_wp2_with (first
          | ((with_reducible show wpList _ _ _ (⟨some 4, _, _, _, _, _⟩ :: _) _ _); refine wpList_alloc_blk rfl _ rfl zs _ ZH ?_; intro h w1 hg1 hg2 Z1 L1)
          | ((with_reducible show wpList _ _ _ (⟨some 6, _, _, _, _, _⟩ :: _) _ _); refine wpList_alloc_blk rfl _ rfl zs _ ZH ?_; intro a w2 hg3 hg4 K2 L02; have Z2 := Lib.hid (Z1.out.over L02.out); have L2 := Lib.hid (step L1.out L02.out); have hha : h ≠ a := (by omega); have hwa : w.heap.size ≤ a := (by have := L1.out.size; omega); have hsz2 := L2.out.size)
          | ((with_reducible show wpList _ _ _ (⟨some 10, _, _, _, _, _⟩ :: _) _ _); refine wpList_build_blk rfl _ _ rfl ([.slice A n k, .int .i64 0, .int .i64 0] : List Value) (by refine Eq.trans ?_ BR; kernel_rfl) ?_)
          | ((with_reducible show wpList _ _ _ (⟨some 7, _, _, _, _, _⟩ :: _) _ _); refine wpList_alloc_blk rfl _ rfl ([.slice none 0 0, .int .i64 0, .int .i64 0] : List Value) _ ZR ?_; intro g w3 hg5 hg6 R3 L03; have K3 := Lib.hid (K2.out.over L03.out); have Z3 := Lib.hid (Z2.out.over L03.out); have L3 := Lib.hid (step L2.out L03.out); have hag : a ≠ g := (by omega); have hhg : h ≠ g := (by have := Z2.out.lt; omega); have hwg : w.heap.size ≤ g := (by omega))
          | ((with_reducible show wpList _ _ _ (⟨none, .store _ (.tmp 7) _, _, _, _, _⟩ :: _) _ _); refine wpList_store_blk rfl _ (.tmp 7) (.tmp 10) rfl g rfl _ ([.slice none 0 0, .int .i64 0, .int .i64 0] : List Value) ([.slice A n k, .int .i64 0, .int .i64 0] : List Value) rfl R3 3 size_ird HR0 HR1 HR2 ?_; intro w4 R4 O4 hg7; have K4 := Lib.hid (K3.out.only O4.out hag); have Z4 := Lib.hid (Z3.out.only O4.out hhg); have L4 := Lib.hid (below_only L3.out O4.out hwg))
          | fail)
        have P4 : Hid (PI w4 g w.heap.size A n k xs rd0) := ⟨Nat.zero_le _, hwg, R4.out, HX.out.below L4.out⟩
        clear R3 L03 K2 K3 Z1 Z2 Z3 L02 L1 L2 L3 R4 O4 HX
        refine (D1.out w4 g L4.out.size P4.out).mono ?_
        rintro e v1 ⟨rfl, hP, hS⟩
        have Pc1 := Lib.hid hP
        have Zc1 := Lib.hid (Z4.out.save hS hhg)
        have Kc1 := Lib.hid (K4.out.save hS hag)
        have Lc1 := Lib.hid (L4.out.trans (hS.below hwg L4.out.size))
        clear hP hS P4 Z4 K4 L4
        go_wp2_with fail
        refine (D2.out v1 g Lc1.out.size Pc1.out).mono ?_
        rintro e v2 ⟨rfl, hP, hS⟩
        have Pc2 := Lib.hid hP
        have Zc2 := Lib.hid (Zc1.out.save hS hhg)
        have Kc2 := Lib.hid (Kc1.out.save hS hag)
        have Lc2 := Lib.hid (Lc1.out.trans (hS.below hwg Lc1.out.size))
        clear hP hS Pc1 Zc1 Kc1 Lc1
        go_wp2_with (first
          | ((with_reducible show wpList _ _ _ (⟨none, .store _ (.tmp 32) _, _, _, _, _⟩ :: _) _ _); refine wpList_store_fld rfl _ (.tmp 32) (.tmp 30) rfl a 57 rfl _ zs (.int .u64 q1.1) rfl Kc2 (Lib.hid (by have := HZ.out; omega)) (by kernel_rfl) rfl ?_; intro x1 Ks1 Os1 hqs1; obtain ⟨C1, hC1⟩ : ∃ x, x = zs.set 57 (.int .u64 q1.1) := ⟨_, rfl⟩; have HC1 := Lib.hid hC1; have HL1 : Hid (C1.length = 69) := (by rw [hC1, List.length_set]; exact HZ.out); rw [← hC1] at Ks1; have Zs1 := Lib.hid (Zc2.out.only Os1.out hha); have Ps1 := Lib.hid (Pc2.out.only Os1.out (Ne.symm hag) hwa); have Ls1 := Lib.hid (below_only Lc2.out Os1.out hwa); clear hC1)
          | ((with_reducible show wpList _ _ _ (⟨none, .store _ (.tmp 33) _, _, _, _, _⟩ :: _) _ _); refine wpList_store_fld rfl _ (.tmp 33) (.tmp 31) rfl a 66 rfl _ C1 (.int .u16 q2.1) rfl Ks1 (Lib.hid (by have := HL1.out; omega)) (by kernel_rfl) rfl ?_; intro x2 Ks2 Os2 hqs2; obtain ⟨C2, hC2⟩ : ∃ x, x = C1.set 66 (.int .u16 q2.1) := ⟨_, rfl⟩; have HC2 := Lib.hid hC2; have HL2 : Hid (C2.length = 69) := (by rw [hC2, List.length_set]; exact HL1.out); rw [← hC2] at Ks2; have Zs2 := Lib.hid (Zs1.out.only Os2.out hha); have Ps2 := Lib.hid (Ps1.out.only Os2.out (Ne.symm hag) hwa); have Ls2 := Lib.hid (below_only Ls1.out Os2.out hwa); have hcl : x2.cell? ⟨a, 66, none⟩ = some (.int .u16 q2.1) := (Ks2.out.at (by rw [hC2]; exact List.getElem?_set_self (by have := HL1.out; omega))); clear hC2)
          | fail)
        refine (D3.out x2 g Ls2.out.size Ps2.out).mono ?_
        rintro e v3 ⟨rfl, hP, hS⟩
        have Pc3 := Lib.hid hP
        have Zc3 := Lib.hid (Zs2.out.save hS hhg)
        have Kc3 := Lib.hid (Ks2.out.save hS hag)
        have Lc3 := Lib.hid (Ls2.out.trans (hS.below hwg Ls2.out.size))
        clear hP hS Ps2 Zs2 Ks2 Ls2
        go_wp2_with (first
          | ((with_reducible show wpList _ _ _ (⟨none, .store _ (.tmp 44) _, _, _, _, _⟩ :: _) _ _); refine wpList_store_fld rfl _ (.tmp 44) (.tmp 43) rfl a 68 rfl _ C2 (.bool tb) rfl Kc3 (Lib.hid (by have := HL2.out; omega)) (by kernel_rfl) rfl ?_; intro x3 Ks3 Os3 hqs3; obtain ⟨C3, hC3⟩ : ∃ x, x = C2.set 68 (.bool tb) := ⟨_, rfl⟩; have HC3 := Lib.hid hC3; have HL3 : Hid (C3.length = 69) := (by rw [hC3, List.length_set]; exact HL2.out); rw [← hC3] at Ks3; have Zs3 := Lib.hid (Zc3.out.only Os3.out hha); have Ps3 := Lib.hid (Pc3.out.only Os3.out (Ne.symm hag) hwa); have Ls3 := Lib.hid (below_only Lc3.out Os3.out hwa); clear hC3)
          | fail)
        refine (DE.out x3 g Ps3.out).mono ?_
        rintro e ve ⟨rfl, hS⟩
        have ZE := Lib.hid (Zs3.out.save hS hhg)
        have KE := Lib.hid (Ks3.out.save hS hag)
        have LE := Lib.hid (Ls3.out.trans (hS.below hwg Ls3.out.size))
        clear hS Ps3 Zs3 Ks3 Ls3
        by_cases he : er = 0
        rotate_left
        · have hne : (er != 0) = true := by simpa using he
          have HN := Lib.hid (HE'.out he)
          clear he HE' HQ
          go_wp2_with (first
            | ((with_reducible show wpList _ _ _ (⟨some 65, _, _, _, _, _⟩ :: _) _ _); refine wpList_build_none rfl _ rfl zs BZ ?_)
            | ((with_reducible show wpList _ _ _ (⟨none, .store _ (.tmp 4) _, _, _, _, _⟩ :: _) _ _); refine wpList_store_blk rfl _ (.tmp 4) (.tmp 65) rfl h rfl _ zs zs rfl ZE 69 size_ask HZ HZ HZ1 ?_; intro w10 K10 O10 hg10)
            | fail)
          refine bodyPost_ret (v := .tuple #[.agg zs.toArray, .int .i64 er]) ?_ rfl (HN.out _ _ rfl (below_only LE.out O10.out (by omega)))
          exact results_cell_two rfl _ _ h _ _ (0, 0) _ rfl K10.out Tryd.underlying32 rfl (by rw [size_ask]; have := HZ.out; simp [this]) rfl
        · subst he
          have HEQ : Hid (C3 = acells (.slice none 0 0) (.slice none 0 0) (.slice none 0 0) { zeroAsk with file := q1.1, cls := q2.1, on := tb }) := by
            show _ = _
            rw [HC3.out, HC2.out, HC1.out, HZS.out]
            rfl
          have H1C : Hid (∀ v ∈ C3, v.oneCell' = true) := by
            show _
            rw [HEQ.out]
            exact acells_one rfl rfl rfl
          go_wp2_with (first
            | ((with_reducible show wpList _ _ _ (⟨some 67, _, _, _, _, _⟩ :: _) _ _); refine wpList_load_blk rfl _ (.tmp 6) rfl a rfl _ C3 KE 69 _ Tryd.underlying32 rfl size_ask HL3 ?_)
            | ((with_reducible show wpList _ _ _ (⟨none, .store _ (.tmp 4) _, _, _, _, _⟩ :: _) _ _); refine wpList_store_blk rfl _ (.tmp 4) (.tmp 67) rfl h rfl _ zs C3 rfl ZE 69 size_ask HZ HL3 H1C ?_; intro w10 K10 O10 hg10)
            | fail)
          refine bodyPost_ret (v := .tuple #[.agg C3.toArray, .int .i64 0]) ?_ rfl ?_
          · exact results_cell_two rfl _ _ h _ _ (0, 0) _ rfl K10.out Tryd.underlying32 rfl (by rw [size_ask]; have := HL3.out; simp [this]) rfl
          · have LF : Below w.heap.size w w10 := below_only LE.out O10.out (by omega)
            exact HQ.out C3 _ _ (by trivial) rfl ⟨none, 0, 0, none, 0, 0, none, 0, 0, by rw [HEQ.out], HoldsF.nil _ _ _, Holds.nil _ _, HoldsS.nil _ _ _ _⟩ (by rw [HEQ.out]; rfl) LF
      · by_cases c3 : (l2 xs).1 = 3
        · have D1 : Hid (∀ (w' : World) (g : Nat), w.heap.size ≤ w'.heap.size → PI w' g w.heap.size A n k xs rd0 → Calls Tryd.prog 49 #[.pointer (some ⟨g, 0, none⟩)] w' fun e w2 => e = .returned (.int .u64 (l1 xs).1) ∧ PI w2 g w.heap.size A n k xs (l1 xs).2 ∧ Save g w' w2) := fun w' g hs h => ineight_any w' g _ A n k xs _ hby h
          have D2 : Hid (∀ (w' : World) (g : Nat), w.heap.size ≤ w'.heap.size → PI w' g w.heap.size A n k xs (l1 xs).2 → Calls Tryd.prog 50 #[.pointer (some ⟨g, 0, none⟩)] w' fun e w2 => e = .returned (.int .u16 (l2 xs).1) ∧ PI w2 g w.heap.size A n k xs (l2 xs).2 ∧ Save g w' w2) := fun w' g hs h => intwo_any w' g _ A n k xs _ hby h
          have D3 : Hid (∀ (w' : World) (g : Nat), w.heap.size ≤ w'.heap.size → PI w' g w.heap.size A n k xs (l2 xs).2 → Calls Tryd.prog 53 #[.pointer (some ⟨g, 0, none⟩)] w' fun e w2 => e = .returned (.bool ((t4 xs).1 != 0)) ∧ PI w2 g w.heap.size A n k xs (t4 xs).2 ∧ Save g w' w2) := fun w' g hs h => intruth_any w' g _ A n k xs _ hby h
          have D4 : Hid (∀ (w' : World) (g : Nat), w.heap.size ≤ w'.heap.size → PI w' g w.heap.size A n k xs (t4 xs).2 → Calls Tryd.prog 52 #[.pointer (some ⟨g, 0, none⟩)] w' fun e w2 => e = .returned (.string ⟨(t5 xs).1.toArray⟩) ∧ PI w2 g w.heap.size A n k xs (t5 xs).2 ∧ Save g w' w2) := fun w' g hs h => intext_any w' g _ A n k xs _ h hs
          have DE : Hid (∀ (w' : World) (g : Nat), PI w' g w.heap.size A n k xs (t5 xs).2 → Calls Tryd.prog 56 #[.pointer (some ⟨g, 0, none⟩)] w' fun e w2 => e = .returned (.int .i64 (rdEnd xs (t5 xs).2)) ∧ Save g w' w2) := fun w' g h => inend_any w' g _ A n k xs _ h
          have hgp : igP 17 xs = ({ zeroAsk with file := (l1 xs).1, cls := (l2 xs).1, on := ((t4 xs).1 != 0), name := ⟨(t5 xs).1.toArray⟩ }, (t5 xs).2) := by unfold igP; rw [if_neg (by decide), if_neg (by decide), if_pos rfl, if_neg c1, if_neg c2, if_pos c3]
          have hge : igErr 17 xs = rdEnd xs (t5 xs).2 := by unfold igErr; rw [if_pos hk, hgp]
          have HQ : Hid (∀ (cs : List Value) (e : Ending) (w' : World), rdEnd xs (t5 xs).2 = 0 → e = .returned (.tuple #[.agg cs.toArray, .int .i64 0]) → AskIs w' w'.heap.size cs { zeroAsk with file := (l1 xs).1, cls := (l2 xs).1, on := ((t4 xs).1 != 0), name := ⟨(t5 xs).1.toArray⟩ } → cs[61]? = some (.slice none 0 0) → Below w.heap.size w w' → IGAskPost w 17 xs e w') := by
            intro cs e w' h0 h1 h2 h3 h5
            have ho : igOf 17 xs = { zeroAsk with file := (l1 xs).1, cls := (l2 xs).1, on := ((t4 xs).1 != 0), name := ⟨(t5 xs).1.toArray⟩ } := by unfold igOf; rw [hge, h0, if_pos rfl, hgp]
            unfold IGAskPost
            rw [hge, h0, ho]
            exact ⟨cs, h1, h2, h3, h5⟩
          have HE' := Lib.hid (HE.out _ hge)
          obtain ⟨er, her⟩ : ∃ x, x = rdEnd xs (t5 xs).2 := ⟨_, rfl⟩
          rw [← her] at DE HQ HE'
          have cf1 : ((l2 xs).1 == 1) = false := by simpa using c1
          have cf2 : ((l2 xs).1 == 2) = false := by simpa using c2
          have cf3 : ((l2 xs).1 == 3) = true := by simpa using c3
          clear c1 c2 c3
          obtain ⟨q1, hq1⟩ : ∃ x, x = (l1 xs) := ⟨_, rfl⟩
          rw [← hq1] at D1 D2 HQ
          obtain ⟨q2, hq2⟩ : ∃ x, x = (l2 xs) := ⟨_, rfl⟩
          rw [← hq2] at D2 D3 HQ cf1 cf2 cf3
          obtain ⟨tb, htb⟩ : ∃ x, x = ((t4 xs).1 != 0) := ⟨_, rfl⟩
          rw [← htb] at D3 HQ
          obtain ⟨q3, hq3⟩ : ∃ x, x = (t4 xs).2 := ⟨_, rfl⟩
          rw [← hq3] at D3 D4
          obtain ⟨q4, hq4⟩ : ∃ x, x = (t5 xs) := ⟨_, rfl⟩
          rw [← hq4] at D4 DE HQ
          clear HE hk hx her hge hgp hq1 hq2 htb hq3 hq4
          go_enter Tryd.func21, Tryd.ntmps21
          go_wp2_with (first
            | ((with_reducible show wpList _ _ _ (⟨some 4, _, _, _, _, _⟩ :: _) _ _); refine wpList_alloc_blk rfl _ rfl zs _ ZH ?_; intro h w1 hg1 hg2 Z1 L1)
            | ((with_reducible show wpList _ _ _ (⟨some 6, _, _, _, _, _⟩ :: _) _ _); refine wpList_alloc_blk rfl _ rfl zs _ ZH ?_; intro a w2 hg3 hg4 K2 L02; have Z2 := Lib.hid (Z1.out.over L02.out); have L2 := Lib.hid (step L1.out L02.out); have hha : h ≠ a := (by omega); have hwa : w.heap.size ≤ a := (by have := L1.out.size; omega); have hsz2 := L2.out.size)
            | ((with_reducible show wpList _ _ _ (⟨some 10, _, _, _, _, _⟩ :: _) _ _); refine wpList_build_blk rfl _ _ rfl ([.slice A n k, .int .i64 0, .int .i64 0] : List Value) (by refine Eq.trans ?_ BR; kernel_rfl) ?_)
            | ((with_reducible show wpList _ _ _ (⟨some 7, _, _, _, _, _⟩ :: _) _ _); refine wpList_alloc_blk rfl _ rfl ([.slice none 0 0, .int .i64 0, .int .i64 0] : List Value) _ ZR ?_; intro g w3 hg5 hg6 R3 L03; have K3 := Lib.hid (K2.out.over L03.out); have Z3 := Lib.hid (Z2.out.over L03.out); have L3 := Lib.hid (step L2.out L03.out); have hag : a ≠ g := (by omega); have hhg : h ≠ g := (by have := Z2.out.lt; omega); have hwg : w.heap.size ≤ g := (by omega))
            | ((with_reducible show wpList _ _ _ (⟨none, .store _ (.tmp 7) _, _, _, _, _⟩ :: _) _ _); refine wpList_store_blk rfl _ (.tmp 7) (.tmp 10) rfl g rfl _ ([.slice none 0 0, .int .i64 0, .int .i64 0] : List Value) ([.slice A n k, .int .i64 0, .int .i64 0] : List Value) rfl R3 3 size_ird HR0 HR1 HR2 ?_; intro w4 R4 O4 hg7; have K4 := Lib.hid (K3.out.only O4.out hag); have Z4 := Lib.hid (Z3.out.only O4.out hhg); have L4 := Lib.hid (below_only L3.out O4.out hwg))
            | fail)
          have P4 : Hid (PI w4 g w.heap.size A n k xs rd0) := ⟨Nat.zero_le _, hwg, R4.out, HX.out.below L4.out⟩
          clear R3 L03 K2 K3 Z1 Z2 Z3 L02 L1 L2 L3 R4 O4 HX
          refine (D1.out w4 g L4.out.size P4.out).mono ?_
          rintro e v1 ⟨rfl, hP, hS⟩
          have Pc1 := Lib.hid hP
          have Zc1 := Lib.hid (Z4.out.save hS hhg)
          have Kc1 := Lib.hid (K4.out.save hS hag)
          have Lc1 := Lib.hid (L4.out.trans (hS.below hwg L4.out.size))
          clear hP hS P4 Z4 K4 L4
          go_wp2_with fail
          refine (D2.out v1 g Lc1.out.size Pc1.out).mono ?_
          rintro e v2 ⟨rfl, hP, hS⟩
          have Pc2 := Lib.hid hP
          have Zc2 := Lib.hid (Zc1.out.save hS hhg)
          have Kc2 := Lib.hid (Kc1.out.save hS hag)
          have Lc2 := Lib.hid (Lc1.out.trans (hS.below hwg Lc1.out.size))
          clear hP hS Pc1 Zc1 Kc1 Lc1
          go_wp2_with (first
            | ((with_reducible show wpList _ _ _ (⟨none, .store _ (.tmp 32) _, _, _, _, _⟩ :: _) _ _); refine wpList_store_fld rfl _ (.tmp 32) (.tmp 30) rfl a 57 rfl _ zs (.int .u64 q1.1) rfl Kc2 (Lib.hid (by have := HZ.out; omega)) (by kernel_rfl) rfl ?_; intro x1 Ks1 Os1 hqs1; obtain ⟨C1, hC1⟩ : ∃ x, x = zs.set 57 (.int .u64 q1.1) := ⟨_, rfl⟩; have HC1 := Lib.hid hC1; have HL1 : Hid (C1.length = 69) := (by rw [hC1, List.length_set]; exact HZ.out); rw [← hC1] at Ks1; have Zs1 := Lib.hid (Zc2.out.only Os1.out hha); have Ps1 := Lib.hid (Pc2.out.only Os1.out (Ne.symm hag) hwa); have Ls1 := Lib.hid (below_only Lc2.out Os1.out hwa); clear hC1)
            | ((with_reducible show wpList _ _ _ (⟨none, .store _ (.tmp 33) _, _, _, _, _⟩ :: _) _ _); refine wpList_store_fld rfl _ (.tmp 33) (.tmp 31) rfl a 66 rfl _ C1 (.int .u16 q2.1) rfl Ks1 (Lib.hid (by have := HL1.out; omega)) (by kernel_rfl) rfl ?_; intro x2 Ks2 Os2 hqs2; obtain ⟨C2, hC2⟩ : ∃ x, x = C1.set 66 (.int .u16 q2.1) := ⟨_, rfl⟩; have HC2 := Lib.hid hC2; have HL2 : Hid (C2.length = 69) := (by rw [hC2, List.length_set]; exact HL1.out); rw [← hC2] at Ks2; have Zs2 := Lib.hid (Zs1.out.only Os2.out hha); have Ps2 := Lib.hid (Ps1.out.only Os2.out (Ne.symm hag) hwa); have Ls2 := Lib.hid (below_only Ls1.out Os2.out hwa); have hcl : x2.cell? ⟨a, 66, none⟩ = some (.int .u16 q2.1) := (Ks2.out.at (by rw [hC2]; exact List.getElem?_set_self (by have := HL1.out; omega))); clear hC2)
            | fail)
          refine (D3.out x2 g Ls2.out.size Ps2.out).mono ?_
          rintro e v3 ⟨rfl, hP, hS⟩
          have Pc3 := Lib.hid hP
          have Zc3 := Lib.hid (Zs2.out.save hS hhg)
          have Kc3 := Lib.hid (Ks2.out.save hS hag)
          have Lc3 := Lib.hid (Ls2.out.trans (hS.below hwg Ls2.out.size))
          clear hP hS Ps2 Zs2 Ks2 Ls2
          go_wp2_with (first
            | ((with_reducible show wpList _ _ _ (⟨none, .store _ (.tmp 48) _, _, _, _, _⟩ :: _) _ _); refine wpList_store_fld rfl _ (.tmp 48) (.tmp 47) rfl a 68 rfl _ C2 (.bool tb) rfl Kc3 (Lib.hid (by have := HL2.out; omega)) (by kernel_rfl) rfl ?_; intro x3 Ks3 Os3 hqs3; obtain ⟨C3, hC3⟩ : ∃ x, x = C2.set 68 (.bool tb) := ⟨_, rfl⟩; have HC3 := Lib.hid hC3; have HL3 : Hid (C3.length = 69) := (by rw [hC3, List.length_set]; exact HL2.out); rw [← hC3] at Ks3; have Zs3 := Lib.hid (Zc3.out.only Os3.out hha); have Ps3 := Lib.hid (Pc3.out.only Os3.out (Ne.symm hag) hwa); have Ls3 := Lib.hid (below_only Lc3.out Os3.out hwa); clear hC3)
            | fail)
          refine (D4.out x3 g Ls3.out.size Ps3.out).mono ?_
          rintro e v4 ⟨rfl, hP, hS⟩
          have Pc4 := Lib.hid hP
          have Zc4 := Lib.hid (Zs3.out.save hS hhg)
          have Kc4 := Lib.hid (Ks3.out.save hS hag)
          have Lc4 := Lib.hid (Ls3.out.trans (hS.below hwg Ls3.out.size))
          clear hP hS Ps3 Zs3 Ks3 Ls3
          go_wp2_with (first
            | ((with_reducible show wpList _ _ _ (⟨none, .store _ (.tmp 50) _, _, _, _, _⟩ :: _) _ _); refine wpList_store_fld rfl _ (.tmp 50) (.tmp 49) rfl a 58 rfl _ C3 (.string ⟨q4.1.toArray⟩) rfl Kc4 (Lib.hid (by have := HL3.out; omega)) (by kernel_rfl) rfl ?_; intro x4 Ks4 Os4 hqs4; obtain ⟨C4, hC4⟩ : ∃ x, x = C3.set 58 (.string ⟨q4.1.toArray⟩) := ⟨_, rfl⟩; have HC4 := Lib.hid hC4; have HL4 : Hid (C4.length = 69) := (by rw [hC4, List.length_set]; exact HL3.out); rw [← hC4] at Ks4; have Zs4 := Lib.hid (Zc4.out.only Os4.out hha); have Ps4 := Lib.hid (Pc4.out.only Os4.out (Ne.symm hag) hwa); have Ls4 := Lib.hid (below_only Lc4.out Os4.out hwa); clear hC4)
            | fail)
          refine (DE.out x4 g Ps4.out).mono ?_
          rintro e ve ⟨rfl, hS⟩
          have ZE := Lib.hid (Zs4.out.save hS hhg)
          have KE := Lib.hid (Ks4.out.save hS hag)
          have LE := Lib.hid (Ls4.out.trans (hS.below hwg Ls4.out.size))
          clear hS Ps4 Zs4 Ks4 Ls4
          by_cases he : er = 0
          rotate_left
          · have hne : (er != 0) = true := by simpa using he
            have HN := Lib.hid (HE'.out he)
            clear he HE' HQ
            go_wp2_with (first
              | ((with_reducible show wpList _ _ _ (⟨some 65, _, _, _, _, _⟩ :: _) _ _); refine wpList_build_none rfl _ rfl zs BZ ?_)
              | ((with_reducible show wpList _ _ _ (⟨none, .store _ (.tmp 4) _, _, _, _, _⟩ :: _) _ _); refine wpList_store_blk rfl _ (.tmp 4) (.tmp 65) rfl h rfl _ zs zs rfl ZE 69 size_ask HZ HZ HZ1 ?_; intro w10 K10 O10 hg10)
              | fail)
            refine bodyPost_ret (v := .tuple #[.agg zs.toArray, .int .i64 er]) ?_ rfl (HN.out _ _ rfl (below_only LE.out O10.out (by omega)))
            exact results_cell_two rfl _ _ h _ _ (0, 0) _ rfl K10.out Tryd.underlying32 rfl (by rw [size_ask]; have := HZ.out; simp [this]) rfl
          · subst he
            have HEQ : Hid (C4 = acells (.slice none 0 0) (.slice none 0 0) (.slice none 0 0) { zeroAsk with file := q1.1, cls := q2.1, on := tb, name := ⟨q4.1.toArray⟩ }) := by
              show _ = _
              rw [HC4.out, HC3.out, HC2.out, HC1.out, HZS.out]
              rfl
            have H1C : Hid (∀ v ∈ C4, v.oneCell' = true) := by
              show _
              rw [HEQ.out]
              exact acells_one rfl rfl rfl
            go_wp2_with (first
              | ((with_reducible show wpList _ _ _ (⟨some 67, _, _, _, _, _⟩ :: _) _ _); refine wpList_load_blk rfl _ (.tmp 6) rfl a rfl _ C4 KE 69 _ Tryd.underlying32 rfl size_ask HL4 ?_)
              | ((with_reducible show wpList _ _ _ (⟨none, .store _ (.tmp 4) _, _, _, _, _⟩ :: _) _ _); refine wpList_store_blk rfl _ (.tmp 4) (.tmp 67) rfl h rfl _ zs C4 rfl ZE 69 size_ask HZ HL4 H1C ?_; intro w10 K10 O10 hg10)
              | fail)
            refine bodyPost_ret (v := .tuple #[.agg C4.toArray, .int .i64 0]) ?_ rfl ?_
            · exact results_cell_two rfl _ _ h _ _ (0, 0) _ rfl K10.out Tryd.underlying32 rfl (by rw [size_ask]; have := HL4.out; simp [this]) rfl
            · have LF : Below w.heap.size w w10 := below_only LE.out O10.out (by omega)
              exact HQ.out C4 _ _ (by trivial) rfl ⟨none, 0, 0, none, 0, 0, none, 0, 0, by rw [HEQ.out], HoldsF.nil _ _ _, Holds.nil _ _, HoldsS.nil _ _ _ _⟩ (by rw [HEQ.out]; rfl) LF
        · have D1 : Hid (∀ (w' : World) (g : Nat), w.heap.size ≤ w'.heap.size → PI w' g w.heap.size A n k xs rd0 → Calls Tryd.prog 49 #[.pointer (some ⟨g, 0, none⟩)] w' fun e w2 => e = .returned (.int .u64 (l1 xs).1) ∧ PI w2 g w.heap.size A n k xs (l1 xs).2 ∧ Save g w' w2) := fun w' g hs h => ineight_any w' g _ A n k xs _ hby h
          have D2 : Hid (∀ (w' : World) (g : Nat), w.heap.size ≤ w'.heap.size → PI w' g w.heap.size A n k xs (l1 xs).2 → Calls Tryd.prog 50 #[.pointer (some ⟨g, 0, none⟩)] w' fun e w2 => e = .returned (.int .u16 (l2 xs).1) ∧ PI w2 g w.heap.size A n k xs (l2 xs).2 ∧ Save g w' w2) := fun w' g hs h => intwo_any w' g _ A n k xs _ hby h
          have D3 : Hid (∀ (w' : World) (g : Nat), w.heap.size ≤ w'.heap.size → PI w' g w.heap.size A n k xs (l2 xs).2 → Calls Tryd.prog 54 #[.pointer (some ⟨g, 0, none⟩), .int .i64 5] w' fun e w2 => e = .returned (.tuple #[]) ∧ PI w2 g w.heap.size A n k xs (rdFail 5 (l2 xs).2) ∧ Save g w' w2) := fun w' g hs h => infail_any w' g _ A n k xs _ 5 h
          have DE : Hid (∀ (w' : World) (g : Nat), PI w' g w.heap.size A n k xs (rdFail 5 (l2 xs).2) → Calls Tryd.prog 56 #[.pointer (some ⟨g, 0, none⟩)] w' fun e w2 => e = .returned (.int .i64 (rdEnd xs (rdFail 5 (l2 xs).2))) ∧ Save g w' w2) := fun w' g h => inend_any w' g _ A n k xs _ h
          have hgp : igP 17 xs = ({ zeroAsk with file := (l1 xs).1, cls := (l2 xs).1 }, (rdFail 5 (l2 xs).2)) := by unfold igP; rw [if_neg (by decide), if_neg (by decide), if_pos rfl, if_neg c1, if_neg c2, if_neg c3]
          have hge : igErr 17 xs = rdEnd xs (rdFail 5 (l2 xs).2) := by unfold igErr; rw [if_pos hk, hgp]
          have HQ : Hid (∀ (cs : List Value) (e : Ending) (w' : World), rdEnd xs (rdFail 5 (l2 xs).2) = 0 → e = .returned (.tuple #[.agg cs.toArray, .int .i64 0]) → AskIs w' w'.heap.size cs { zeroAsk with file := (l1 xs).1, cls := (l2 xs).1 } → cs[61]? = some (.slice none 0 0) → Below w.heap.size w w' → IGAskPost w 17 xs e w') := by
            intro cs e w' h0 h1 h2 h3 h5
            have ho : igOf 17 xs = { zeroAsk with file := (l1 xs).1, cls := (l2 xs).1 } := by unfold igOf; rw [hge, h0, if_pos rfl, hgp]
            unfold IGAskPost
            rw [hge, h0, ho]
            exact ⟨cs, h1, h2, h3, h5⟩
          have HE' := Lib.hid (HE.out _ hge)
          obtain ⟨er, her⟩ : ∃ x, x = rdEnd xs (rdFail 5 (l2 xs).2) := ⟨_, rfl⟩
          rw [← her] at DE HQ HE'
          have cf1 : ((l2 xs).1 == 1) = false := by simpa using c1
          have cf2 : ((l2 xs).1 == 2) = false := by simpa using c2
          have cf3 : ((l2 xs).1 == 3) = false := by simpa using c3
          clear c1 c2 c3
          obtain ⟨q1, hq1⟩ : ∃ x, x = (l1 xs) := ⟨_, rfl⟩
          rw [← hq1] at D1 D2 HQ
          obtain ⟨q2, hq2⟩ : ∃ x, x = (l2 xs) := ⟨_, rfl⟩
          rw [← hq2] at D2 D3 DE HQ cf1 cf2 cf3
          obtain ⟨q3, hq3⟩ : ∃ x, x = (rdFail 5 q2.2) := ⟨_, rfl⟩
          rw [← hq3] at D3 DE
          clear HE hk hx her hge hgp hq1 hq2 hq3
          go_enter Tryd.func21, Tryd.ntmps21
          go_wp2_with (first
            | ((with_reducible show wpList _ _ _ (⟨some 4, _, _, _, _, _⟩ :: _) _ _); refine wpList_alloc_blk rfl _ rfl zs _ ZH ?_; intro h w1 hg1 hg2 Z1 L1)
            | ((with_reducible show wpList _ _ _ (⟨some 6, _, _, _, _, _⟩ :: _) _ _); refine wpList_alloc_blk rfl _ rfl zs _ ZH ?_; intro a w2 hg3 hg4 K2 L02; have Z2 := Lib.hid (Z1.out.over L02.out); have L2 := Lib.hid (step L1.out L02.out); have hha : h ≠ a := (by omega); have hwa : w.heap.size ≤ a := (by have := L1.out.size; omega); have hsz2 := L2.out.size)
            | ((with_reducible show wpList _ _ _ (⟨some 10, _, _, _, _, _⟩ :: _) _ _); refine wpList_build_blk rfl _ _ rfl ([.slice A n k, .int .i64 0, .int .i64 0] : List Value) (by refine Eq.trans ?_ BR; kernel_rfl) ?_)
            | ((with_reducible show wpList _ _ _ (⟨some 7, _, _, _, _, _⟩ :: _) _ _); refine wpList_alloc_blk rfl _ rfl ([.slice none 0 0, .int .i64 0, .int .i64 0] : List Value) _ ZR ?_; intro g w3 hg5 hg6 R3 L03; have K3 := Lib.hid (K2.out.over L03.out); have Z3 := Lib.hid (Z2.out.over L03.out); have L3 := Lib.hid (step L2.out L03.out); have hag : a ≠ g := (by omega); have hhg : h ≠ g := (by have := Z2.out.lt; omega); have hwg : w.heap.size ≤ g := (by omega))
            | ((with_reducible show wpList _ _ _ (⟨none, .store _ (.tmp 7) _, _, _, _, _⟩ :: _) _ _); refine wpList_store_blk rfl _ (.tmp 7) (.tmp 10) rfl g rfl _ ([.slice none 0 0, .int .i64 0, .int .i64 0] : List Value) ([.slice A n k, .int .i64 0, .int .i64 0] : List Value) rfl R3 3 size_ird HR0 HR1 HR2 ?_; intro w4 R4 O4 hg7; have K4 := Lib.hid (K3.out.only O4.out hag); have Z4 := Lib.hid (Z3.out.only O4.out hhg); have L4 := Lib.hid (below_only L3.out O4.out hwg))
            | fail)
          have P4 : Hid (PI w4 g w.heap.size A n k xs rd0) := ⟨Nat.zero_le _, hwg, R4.out, HX.out.below L4.out⟩
          clear R3 L03 K2 K3 Z1 Z2 Z3 L02 L1 L2 L3 R4 O4 HX
          refine (D1.out w4 g L4.out.size P4.out).mono ?_
          rintro e v1 ⟨rfl, hP, hS⟩
          have Pc1 := Lib.hid hP
          have Zc1 := Lib.hid (Z4.out.save hS hhg)
          have Kc1 := Lib.hid (K4.out.save hS hag)
          have Lc1 := Lib.hid (L4.out.trans (hS.below hwg L4.out.size))
          clear hP hS P4 Z4 K4 L4
          go_wp2_with fail
          refine (D2.out v1 g Lc1.out.size Pc1.out).mono ?_
          rintro e v2 ⟨rfl, hP, hS⟩
          have Pc2 := Lib.hid hP
          have Zc2 := Lib.hid (Zc1.out.save hS hhg)
          have Kc2 := Lib.hid (Kc1.out.save hS hag)
          have Lc2 := Lib.hid (Lc1.out.trans (hS.below hwg Lc1.out.size))
          clear hP hS Pc1 Zc1 Kc1 Lc1
          go_wp2_with (first
            | ((with_reducible show wpList _ _ _ (⟨none, .store _ (.tmp 32) _, _, _, _, _⟩ :: _) _ _); refine wpList_store_fld rfl _ (.tmp 32) (.tmp 30) rfl a 57 rfl _ zs (.int .u64 q1.1) rfl Kc2 (Lib.hid (by have := HZ.out; omega)) (by kernel_rfl) rfl ?_; intro x1 Ks1 Os1 hqs1; obtain ⟨C1, hC1⟩ : ∃ x, x = zs.set 57 (.int .u64 q1.1) := ⟨_, rfl⟩; have HC1 := Lib.hid hC1; have HL1 : Hid (C1.length = 69) := (by rw [hC1, List.length_set]; exact HZ.out); rw [← hC1] at Ks1; have Zs1 := Lib.hid (Zc2.out.only Os1.out hha); have Ps1 := Lib.hid (Pc2.out.only Os1.out (Ne.symm hag) hwa); have Ls1 := Lib.hid (below_only Lc2.out Os1.out hwa); clear hC1)
            | ((with_reducible show wpList _ _ _ (⟨none, .store _ (.tmp 33) _, _, _, _, _⟩ :: _) _ _); refine wpList_store_fld rfl _ (.tmp 33) (.tmp 31) rfl a 66 rfl _ C1 (.int .u16 q2.1) rfl Ks1 (Lib.hid (by have := HL1.out; omega)) (by kernel_rfl) rfl ?_; intro x2 Ks2 Os2 hqs2; obtain ⟨C2, hC2⟩ : ∃ x, x = C1.set 66 (.int .u16 q2.1) := ⟨_, rfl⟩; have HC2 := Lib.hid hC2; have HL2 : Hid (C2.length = 69) := (by rw [hC2, List.length_set]; exact HL1.out); rw [← hC2] at Ks2; have Zs2 := Lib.hid (Zs1.out.only Os2.out hha); have Ps2 := Lib.hid (Ps1.out.only Os2.out (Ne.symm hag) hwa); have Ls2 := Lib.hid (below_only Ls1.out Os2.out hwa); have hcl : x2.cell? ⟨a, 66, none⟩ = some (.int .u16 q2.1) := (Ks2.out.at (by rw [hC2]; exact List.getElem?_set_self (by have := HL1.out; omega))); clear hC2)
            | fail)
          refine (D3.out x2 g Ls2.out.size Ps2.out).mono ?_
          rintro e v3 ⟨rfl, hP, hS⟩
          have Pc3 := Lib.hid hP
          have Zc3 := Lib.hid (Zs2.out.save hS hhg)
          have Kc3 := Lib.hid (Ks2.out.save hS hag)
          have Lc3 := Lib.hid (Ls2.out.trans (hS.below hwg Ls2.out.size))
          clear hP hS Ps2 Zs2 Ks2 Ls2
          go_wp2_with fail
          refine (DE.out v3 g Pc3.out).mono ?_
          rintro e ve ⟨rfl, hS⟩
          have ZE := Lib.hid (Zc3.out.save hS hhg)
          have KE := Lib.hid (Kc3.out.save hS hag)
          have LE := Lib.hid (Lc3.out.trans (hS.below hwg Lc3.out.size))
          clear hS Pc3 Zc3 Kc3 Lc3
          by_cases he : er = 0
          rotate_left
          · have hne : (er != 0) = true := by simpa using he
            have HN := Lib.hid (HE'.out he)
            clear he HE' HQ
            go_wp2_with (first
              | ((with_reducible show wpList _ _ _ (⟨some 65, _, _, _, _, _⟩ :: _) _ _); refine wpList_build_none rfl _ rfl zs BZ ?_)
              | ((with_reducible show wpList _ _ _ (⟨none, .store _ (.tmp 4) _, _, _, _, _⟩ :: _) _ _); refine wpList_store_blk rfl _ (.tmp 4) (.tmp 65) rfl h rfl _ zs zs rfl ZE 69 size_ask HZ HZ HZ1 ?_; intro w10 K10 O10 hg10)
              | fail)
            refine bodyPost_ret (v := .tuple #[.agg zs.toArray, .int .i64 er]) ?_ rfl (HN.out _ _ rfl (below_only LE.out O10.out (by omega)))
            exact results_cell_two rfl _ _ h _ _ (0, 0) _ rfl K10.out Tryd.underlying32 rfl (by rw [size_ask]; have := HZ.out; simp [this]) rfl
          · subst he
            have HEQ : Hid (C2 = acells (.slice none 0 0) (.slice none 0 0) (.slice none 0 0) { zeroAsk with file := q1.1, cls := q2.1 }) := by
              show _ = _
              rw [HC2.out, HC1.out, HZS.out]
              rfl
            have H1C : Hid (∀ v ∈ C2, v.oneCell' = true) := by
              show _
              rw [HEQ.out]
              exact acells_one rfl rfl rfl
            go_wp2_with (first
              | ((with_reducible show wpList _ _ _ (⟨some 67, _, _, _, _, _⟩ :: _) _ _); refine wpList_load_blk rfl _ (.tmp 6) rfl a rfl _ C2 KE 69 _ Tryd.underlying32 rfl size_ask HL2 ?_)
              | ((with_reducible show wpList _ _ _ (⟨none, .store _ (.tmp 4) _, _, _, _, _⟩ :: _) _ _); refine wpList_store_blk rfl _ (.tmp 4) (.tmp 67) rfl h rfl _ zs C2 rfl ZE 69 size_ask HZ HL2 H1C ?_; intro w10 K10 O10 hg10)
              | fail)
            refine bodyPost_ret (v := .tuple #[.agg C2.toArray, .int .i64 0]) ?_ rfl ?_
            · exact results_cell_two rfl _ _ h _ _ (0, 0) _ rfl K10.out Tryd.underlying32 rfl (by rw [size_ask]; have := HL2.out; simp [this]) rfl
            · have LF : Below w.heap.size w w10 := below_only LE.out O10.out (by omega)
              exact HQ.out C2 _ _ (by trivial) rfl ⟨none, 0, 0, none, 0, 0, none, 0, 0, by rw [HEQ.out], HoldsF.nil _ _ _, Holds.nil _ _, HoldsS.nil _ _ _ _⟩ (by rw [HEQ.out]; rfl) LF
  · subst h18
    have D1 : Hid (∀ (w' : World) (g : Nat), w.heap.size ≤ w'.heap.size → PI w' g w.heap.size A n k xs rd0 → Calls Tryd.prog 55 #[.pointer (some ⟨g, 0, none⟩)] w' fun e w2 => e = .returned (.tuple #[.int .u64 (l1 xs).1, .int .u8 (k2 xs).1]) ∧ PI w2 g w.heap.size A n k xs (k3 xs) ∧ Save g w' w2) := fun w' g hs h => inlevel_any w' g _ A n k xs _ hby h hs
    have DE : Hid (∀ (w' : World) (g : Nat), PI w' g w.heap.size A n k xs (k3 xs) → Calls Tryd.prog 56 #[.pointer (some ⟨g, 0, none⟩)] w' fun e w2 => e = .returned (.int .i64 (rdEnd xs (k3 xs))) ∧ Save g w' w2) := fun w' g h => inend_any w' g _ A n k xs _ h
    have hgp : igP 18 xs = ({ zeroAsk with file := (l1 xs).1, lev := (k2 xs).1 }, (k3 xs)) := by unfold igP; rw [if_neg (by decide), if_neg (by decide), if_neg (by decide), if_pos rfl]
    have hge : igErr 18 xs = rdEnd xs (k3 xs) := by unfold igErr; rw [if_pos hk, hgp]
    have HQ : Hid (∀ (cs : List Value) (e : Ending) (w' : World), rdEnd xs (k3 xs) = 0 → e = .returned (.tuple #[.agg cs.toArray, .int .i64 0]) → AskIs w' w'.heap.size cs { zeroAsk with file := (l1 xs).1, lev := (k2 xs).1 } → cs[61]? = some (.slice none 0 0) → Below w.heap.size w w' → IGAskPost w 18 xs e w') := by
      intro cs e w' h0 h1 h2 h3 h5
      have ho : igOf 18 xs = { zeroAsk with file := (l1 xs).1, lev := (k2 xs).1 } := by unfold igOf; rw [hge, h0, if_pos rfl, hgp]
      unfold IGAskPost
      rw [hge, h0, ho]
      exact ⟨cs, h1, h2, h3, h5⟩
    have HE' := Lib.hid (HE.out _ hge)
    obtain ⟨er, her⟩ : ∃ x, x = rdEnd xs (k3 xs) := ⟨_, rfl⟩
    rw [← her] at DE HQ HE'
    obtain ⟨q1, hq1⟩ : ∃ x, x = (l1 xs).1 := ⟨_, rfl⟩
    rw [← hq1] at D1 HQ
    obtain ⟨q2, hq2⟩ : ∃ x, x = (k2 xs).1 := ⟨_, rfl⟩
    rw [← hq2] at D1 HQ
    obtain ⟨q3, hq3⟩ : ∃ x, x = (k3 xs) := ⟨_, rfl⟩
    rw [← hq3] at D1 DE
    clear HE hk hx her hge hgp hq1 hq2 hq3
    go_enter Tryd.func21, Tryd.ntmps21
    go_wp2_with (first
      | ((with_reducible show wpList _ _ _ (⟨some 4, _, _, _, _, _⟩ :: _) _ _); refine wpList_alloc_blk rfl _ rfl zs _ ZH ?_; intro h w1 hg1 hg2 Z1 L1)
      | ((with_reducible show wpList _ _ _ (⟨some 6, _, _, _, _, _⟩ :: _) _ _); refine wpList_alloc_blk rfl _ rfl zs _ ZH ?_; intro a w2 hg3 hg4 K2 L02; have Z2 := Lib.hid (Z1.out.over L02.out); have L2 := Lib.hid (step L1.out L02.out); have hha : h ≠ a := (by omega); have hwa : w.heap.size ≤ a := (by have := L1.out.size; omega); have hsz2 := L2.out.size)
      | ((with_reducible show wpList _ _ _ (⟨some 10, _, _, _, _, _⟩ :: _) _ _); refine wpList_build_blk rfl _ _ rfl ([.slice A n k, .int .i64 0, .int .i64 0] : List Value) (by refine Eq.trans ?_ BR; kernel_rfl) ?_)
      | ((with_reducible show wpList _ _ _ (⟨some 7, _, _, _, _, _⟩ :: _) _ _); refine wpList_alloc_blk rfl _ rfl ([.slice none 0 0, .int .i64 0, .int .i64 0] : List Value) _ ZR ?_; intro g w3 hg5 hg6 R3 L03; have K3 := Lib.hid (K2.out.over L03.out); have Z3 := Lib.hid (Z2.out.over L03.out); have L3 := Lib.hid (step L2.out L03.out); have hag : a ≠ g := (by omega); have hhg : h ≠ g := (by have := Z2.out.lt; omega); have hwg : w.heap.size ≤ g := (by omega))
      | ((with_reducible show wpList _ _ _ (⟨none, .store _ (.tmp 7) _, _, _, _, _⟩ :: _) _ _); refine wpList_store_blk rfl _ (.tmp 7) (.tmp 10) rfl g rfl _ ([.slice none 0 0, .int .i64 0, .int .i64 0] : List Value) ([.slice A n k, .int .i64 0, .int .i64 0] : List Value) rfl R3 3 size_ird HR0 HR1 HR2 ?_; intro w4 R4 O4 hg7; have K4 := Lib.hid (K3.out.only O4.out hag); have Z4 := Lib.hid (Z3.out.only O4.out hhg); have L4 := Lib.hid (below_only L3.out O4.out hwg))
      | fail)
    have P4 : Hid (PI w4 g w.heap.size A n k xs rd0) := ⟨Nat.zero_le _, hwg, R4.out, HX.out.below L4.out⟩
    clear R3 L03 K2 K3 Z1 Z2 Z3 L02 L1 L2 L3 R4 O4 HX
    refine (D1.out w4 g L4.out.size P4.out).mono ?_
    rintro e v1 ⟨rfl, hP, hS⟩
    have Pc1 := Lib.hid hP
    have Zc1 := Lib.hid (Z4.out.save hS hhg)
    have Kc1 := Lib.hid (K4.out.save hS hag)
    have Lc1 := Lib.hid (L4.out.trans (hS.below hwg L4.out.size))
    clear hP hS P4 Z4 K4 L4
    go_wp2_with (first
      | ((with_reducible show wpList _ _ _ (⟨none, .store _ (.tmp 57) _, _, _, _, _⟩ :: _) _ _); refine wpList_store_fld rfl _ (.tmp 57) (.tmp 55) rfl a 57 rfl _ zs (.int .u64 q1) rfl Kc1 (Lib.hid (by have := HZ.out; omega)) (by kernel_rfl) rfl ?_; intro x1 Ks1 Os1 hqs1; obtain ⟨C1, hC1⟩ : ∃ x, x = zs.set 57 (.int .u64 q1) := ⟨_, rfl⟩; have HC1 := Lib.hid hC1; have HL1 : Hid (C1.length = 69) := (by rw [hC1, List.length_set]; exact HZ.out); rw [← hC1] at Ks1; have Zs1 := Lib.hid (Zc1.out.only Os1.out hha); have Ps1 := Lib.hid (Pc1.out.only Os1.out (Ne.symm hag) hwa); have Ls1 := Lib.hid (below_only Lc1.out Os1.out hwa); clear hC1)
      | ((with_reducible show wpList _ _ _ (⟨none, .store _ (.tmp 58) _, _, _, _, _⟩ :: _) _ _); refine wpList_store_fld rfl _ (.tmp 58) (.tmp 56) rfl a 55 rfl _ C1 (.int .u8 q2) rfl Ks1 (Lib.hid (by have := HL1.out; omega)) (by kernel_rfl) rfl ?_; intro x2 Ks2 Os2 hqs2; obtain ⟨C2, hC2⟩ : ∃ x, x = C1.set 55 (.int .u8 q2) := ⟨_, rfl⟩; have HC2 := Lib.hid hC2; have HL2 : Hid (C2.length = 69) := (by rw [hC2, List.length_set]; exact HL1.out); rw [← hC2] at Ks2; have Zs2 := Lib.hid (Zs1.out.only Os2.out hha); have Ps2 := Lib.hid (Ps1.out.only Os2.out (Ne.symm hag) hwa); have Ls2 := Lib.hid (below_only Ls1.out Os2.out hwa); clear hC2)
      | fail)
    refine (DE.out x2 g Ps2.out).mono ?_
    rintro e ve ⟨rfl, hS⟩
    have ZE := Lib.hid (Zs2.out.save hS hhg)
    have KE := Lib.hid (Ks2.out.save hS hag)
    have LE := Lib.hid (Ls2.out.trans (hS.below hwg Ls2.out.size))
    clear hS Ps2 Zs2 Ks2 Ls2
    by_cases he : er = 0
    rotate_left
    · have hne : (er != 0) = true := by simpa using he
      have HN := Lib.hid (HE'.out he)
      clear he HE' HQ
      go_wp2_with (first
        | ((with_reducible show wpList _ _ _ (⟨some 65, _, _, _, _, _⟩ :: _) _ _); refine wpList_build_none rfl _ rfl zs BZ ?_)
        | ((with_reducible show wpList _ _ _ (⟨none, .store _ (.tmp 4) _, _, _, _, _⟩ :: _) _ _); refine wpList_store_blk rfl _ (.tmp 4) (.tmp 65) rfl h rfl _ zs zs rfl ZE 69 size_ask HZ HZ HZ1 ?_; intro w10 K10 O10 hg10)
        | fail)
      refine bodyPost_ret (v := .tuple #[.agg zs.toArray, .int .i64 er]) ?_ rfl (HN.out _ _ rfl (below_only LE.out O10.out (by omega)))
      exact results_cell_two rfl _ _ h _ _ (0, 0) _ rfl K10.out Tryd.underlying32 rfl (by rw [size_ask]; have := HZ.out; simp [this]) rfl
    · subst he
      have HEQ : Hid (C2 = acells (.slice none 0 0) (.slice none 0 0) (.slice none 0 0) { zeroAsk with file := q1, lev := q2 }) := by
        show _ = _
        rw [HC2.out, HC1.out, HZS.out]
        rfl
      have H1C : Hid (∀ v ∈ C2, v.oneCell' = true) := by
        show _
        rw [HEQ.out]
        exact acells_one rfl rfl rfl
      go_wp2_with (first
        | ((with_reducible show wpList _ _ _ (⟨some 67, _, _, _, _, _⟩ :: _) _ _); refine wpList_load_blk rfl _ (.tmp 6) rfl a rfl _ C2 KE 69 _ Tryd.underlying32 rfl size_ask HL2 ?_)
        | ((with_reducible show wpList _ _ _ (⟨none, .store _ (.tmp 4) _, _, _, _, _⟩ :: _) _ _); refine wpList_store_blk rfl _ (.tmp 4) (.tmp 67) rfl h rfl _ zs C2 rfl ZE 69 size_ask HZ HL2 H1C ?_; intro w10 K10 O10 hg10)
        | fail)
      refine bodyPost_ret (v := .tuple #[.agg C2.toArray, .int .i64 0]) ?_ rfl ?_
      · exact results_cell_two rfl _ _ h _ _ (0, 0) _ rfl K10.out Tryd.underlying32 rfl (by rw [size_ask]; have := HL2.out; simp [this]) rfl
      · have LF : Below w.heap.size w w10 := below_only LE.out O10.out (by omega)
        exact HQ.out C2 _ _ (by trivial) rfl ⟨none, 0, 0, none, 0, 0, none, 0, 0, by rw [HEQ.out], HoldsF.nil _ _ _, Holds.nil _ _, HoldsS.nil _ _ _ _⟩ (by rw [HEQ.out]; rfl) LF
end Go.Proofs.YtbbjmmooemmeiaaDoor
