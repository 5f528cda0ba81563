import Derived.WalkKit
import Derived.Deep.Draws
import Derived.Laws.Rows
import Derived.Laws.OwnMore
import Derived.Test.YtpodpmckdiijhaaGreatDoorRows
import Derived.Laws.CopyOwn
import Derived.Laws.AppendOwnNone
import Derived.Lib.Hide
import Derived.Laws.Tables
import Derived.Laws.NewFold
import Derived.Deep.WholeRow
import Derived.Deep.MidRow
import Derived.Great.Walk
import Derived.Laws.Bits64
import Derived.Laws.BitsAllLaws
import Derived.WalkSpells
import Derived.WalkLawsBesides
import Derived.Deep.QuietTactic
import Derived.BigQuiet
import Derived.OrdersHeld
import Derived.Laws.StructEq
import Derived.ChangeKeysEq
import Derived.Deep.DeepCutAuto
import Derived.Deep.RegionLaw
import Derived.Lib.RuneBytes
import Derived.Lib.ValidLaws
import Derived.Laws.AppendOwn
import Derived.OwnWalk
import Derived.Lib.OthersKept
import Derived.Laws.BytesArg
import Derived.Shelf.Utf8.AppendRunePlain
import Derived.Shelf.Unicode.ValidAny
import Derived.Test.YtpodpmckdiijhaaGreatDoorProg
import Derived.ProofKit
import Derived.OpenShut
import Derived.ShutString
import Derived.SizedLaws
import Derived.ChangeOld
import Derived.Lib.AppendZeros
import Derived.Deep.RegionWith
import Derived.OneCell
import Derived.Deep.Strs
import Derived.Deep.OwnRows
import Derived.Shelf.Abstract
import Derived.Test.YtpodpmckdiijhaaGreatDoorWAC
namespace Go.Proofs.YtpodpmckdiijhaaGreatDoor
set_option linter.all false
set_option maxRecDepth 100000
open Go.RowKit
/-- the function that takes number k -/
def fnk : Nat → FuncId
  | 0 => 90
  | 1 => 90
  | 2 => 91
  | 3 => 92
  | 4 => 93
  | 5 => 94
  | 6 => 95
  | 7 => 96
  | 8 => 97
  | 9 => 99
  | 10 => 101
  | _ => 0
def fnv (p k : Nat) : Value := .func (.func (fnk k)) #[] (if k < 2 then #[] else #[.pointer (some ⟨p, 0, none⟩)])
/-- the list's cells -/
def fcellsV (p : Nat) (c0 c1 c2 c3 c4 c5 c6 c9 c10 : Int) : List Value :=
  [.int .i64 0, .int .i64 4, .int .u64 1112364030, .func (.func 90) #[] #[],
    .int .i64 4, .int .i64 2, .int .u64 64, .func (.func 90) #[] #[],
    .int .i64 6, .int .i64 2, .int .u64 c0, .func (.func 91) #[] #[.pointer (some ⟨p, 0, none⟩)],
    .int .i64 8, .int .i64 4, .int .u64 c1, .func (.func 92) #[] #[.pointer (some ⟨p, 0, none⟩)],
    .int .i64 12, .int .i64 2, .int .u64 c2, .func (.func 93) #[] #[.pointer (some ⟨p, 0, none⟩)],
    .int .i64 14, .int .i64 2, .int .u64 c3, .func (.func 94) #[] #[.pointer (some ⟨p, 0, none⟩)],
    .int .i64 16, .int .i64 4, .int .u64 c4, .func (.func 95) #[] #[.pointer (some ⟨p, 0, none⟩)],
    .int .i64 20, .int .i64 4, .int .u64 c5, .func (.func 96) #[] #[.pointer (some ⟨p, 0, none⟩)],
    .int .i64 24, .int .i64 8, .int .u64 c6, .func (.func 97) #[] #[.pointer (some ⟨p, 0, none⟩)],
    .int .i64 32, .int .i64 8, .int .u64 c9, .func (.func 99) #[] #[.pointer (some ⟨p, 0, none⟩)],
    .int .i64 40, .int .i64 8, .int .u64 c10, .func (.func 101) #[] #[.pointer (some ⟨p, 0, none⟩)]]
def fcells (p : Nat) (h : Hd) : List Value := fcellsV p h.ch h.st h.cm h.cr h.fl h.nx h.id (aot h) h.se
/-- number k of them -/
def fel (p : Nat) (h : Hd) (k : Nat) : List Value := [.int .i64 (offs.getD k 0 : Nat), .int .i64 (szs.getD k 0 : Nat), .int .u64 ((vals h).getD k 0), fnv p k]
theorem fcells_at (p : Nat) (h : Hd) (k : Nat) (hk : k < 11) (j : Nat) (v : Value) (hj : (fel p h k)[j]? = some v) : (fcells p h)[k * 4 + j]? = some v := by
  have h4 : j < 4 := by
    have := (List.getElem?_eq_some_iff.1 hj).1
    simpa [fel] using this
  rw [← hj]
  revert hk
  match j, h4 with
  | 0, _ => exact fun hk => eleven (p := fun k => (fcells p h)[k * 4 + 0]? = (fel p h k)[0]?) rfl rfl rfl rfl rfl rfl rfl rfl rfl rfl rfl k hk
  | 1, _ => exact fun hk => eleven (p := fun k => (fcells p h)[k * 4 + 1]? = (fel p h k)[1]?) rfl rfl rfl rfl rfl rfl rfl rfl rfl rfl rfl k hk
  | 2, _ => exact fun hk => eleven (p := fun k => (fcells p h)[k * 4 + 2]? = (fel p h k)[2]?) rfl rfl rfl rfl rfl rfl rfl rfl rfl rfl rfl k hk
  | 3, _ => exact fun hk => eleven (p := fun k => (fcells p h)[k * 4 + 3]? = (fel p h k)[3]?) rfl rfl rfl rfl rfl rfl rfl rfl rfl rfl rfl k hk
theorem fcells_range {w : World} {G p : Nat} {T : TypeId} {h : Hd} (B : Blk w G T (fcells p h)) (k : Nat) (hk : k < 11) : w.rangeAt G (k * 4) (fel p h k) := fun j v hj => by
  rw [B.cell]
  exact fcells_at p h k hk j v hj
/-- what fields answers -/
def FieldsPost (w : World) (g : Nat) (h : Hd) (e : Ending) (w' : World) : Prop :=
  ∃ p G, e = .returned (.slice (some ⟨G, 0, none⟩) 11 11) ∧ w.heap.size ≤ p ∧ p < G ∧ Blk w' p 83 [.pointer (some ⟨g, 0, none⟩)] ∧ Blk w' G 86 (fcells p h) ∧ Below w.heap.size w w'
set_option maxRecDepth 100000 in
set_option maxHeartbeats 8000000 in
theorem fields_any (w : World) (g : Nat) (h : Hd) (k : h.ok) (hB : HB w g h) :
    Calls Tryz.prog 53 #[.pointer (some ⟨g, 0, none⟩)] w (FieldsPost w g h) := by
  have hmf : ∀ (fn : Fn) (first cap : Array Value) (w : World), (Instr.makeFunc fn first cap).run Tryz.prog w = .ok (.func fn first cap) w := fun _ _ _ _ => rfl
  have HL := Lib.hid (hcells_len k)
  have C0 : Hid (∀ w : World, Calls Tryz.prog 98 #[hv h] w fun e w' => e = .returned (.int .u64 (aot h)) ∧ Below w.heap.size w w') := fun w => asyncOrTree_any w h k
  have HQ : Hid (∀ e w', (∃ p G, e = .returned (.slice (some ⟨G, 0, none⟩) 11 11) ∧ w.heap.size ≤ p ∧ p < G ∧ Blk w' p 83 [.pointer (some ⟨g, 0, none⟩)] ∧ Blk w' G 86 (fcells p h) ∧ Below w.heap.size w w') → FieldsPost w g h e w') := fun _ _ hh => hh
  obtain ⟨k0, k1, k2, k3, k4, k5, k6, k7, k8, k9, _, _⟩ := k
  have HB0 := Lib.hid hB
  unfold hv at C0
  unfold fcells at HQ
  obtain ⟨n9, hn9⟩ : ∃ n, n = aot h := ⟨_, rfl⟩
  obtain ⟨cs, hcs⟩ : ∃ cs, cs = hcells h := ⟨_, rfl⟩
  have HC := Lib.hid hcs
  rw [← hcs] at C0 HL
  rw [← hn9] at C0 HQ
  have FW : Hid (∀ w', Blk w' g 28 cs → w'.cell? ⟨g, 0, none⟩ = some (.int .u16 h.ch) ∧ w'.cell? ⟨g, 1, none⟩ = some (.int .u32 h.st) ∧ w'.cell? ⟨g, 2, none⟩ = some (.int .u16 h.cm) ∧ w'.cell? ⟨g, 3, none⟩ = some (.int .u16 h.cr) ∧
      w'.cell? ⟨g, 4, none⟩ = some (.int .u32 h.fl) ∧ w'.cell? ⟨g, 5, none⟩ = some (.int .u32 h.nx) ∧ w'.cell? ⟨g, 6, none⟩ = some (.int .u64 h.id) ∧ w'.cell? ⟨g, 9, none⟩ = some (.int .u64 h.se)) := fun w' b => by
    have X : HB w' g h := HB.of HC.out b
    exact ⟨X.c0, X.c1, X.c2, X.c3, X.c4, X.c5, X.c6, X.c9⟩
  have HB1 : Hid (Blk w g 28 cs) := by show Blk _ _ _ _; rw [HC.out]; exact HB0.out
  clear hB hcs hn9 HB0
  obtain ⟨n0, hn0⟩ : ∃ n, n = h.ch := ⟨_, rfl⟩
  obtain ⟨n1, hn1⟩ : ∃ n, n = h.st := ⟨_, rfl⟩
  obtain ⟨n2, hn2⟩ : ∃ n, n = h.cm := ⟨_, rfl⟩
  obtain ⟨n3, hn3⟩ : ∃ n, n = h.cr := ⟨_, rfl⟩
  obtain ⟨n4, hn4⟩ : ∃ n, n = h.fl := ⟨_, rfl⟩
  obtain ⟨n5, hn5⟩ : ∃ n, n = h.nx := ⟨_, rfl⟩
  obtain ⟨n6, hn6⟩ : ∃ n, n = h.id := ⟨_, rfl⟩
  obtain ⟨n10, hn10⟩ : ∃ n, n = h.se := ⟨_, rfl⟩
  rw [← hn0] at FW HQ k0
  rw [← hn1] at FW HQ k1
  rw [← hn2] at FW HQ k2
  rw [← hn3] at FW HQ k3
  rw [← hn4] at FW HQ k4
  rw [← hn5] at FW HQ k5
  rw [← hn6] at FW HQ k6
  rw [← hn10] at FW HQ k9
  obtain ⟨k00, k01⟩ := k0
  obtain ⟨k10, k11⟩ := k1
  obtain ⟨k20, k21⟩ := k2
  obtain ⟨k30, k31⟩ := k3
  obtain ⟨k40, k41⟩ := k4
  obtain ⟨k50, k51⟩ := k5






  clear hn0 hn1 hn2 hn3 hn4 hn5 hn6 hn10 k6 k7 k8 k9
  go_enter Tryz.func53, Tryz.ntmps53
  go_upto_region 2 with (first
    | ((with_reducible show wpList _ _ _ (⟨some 1, _, _, _, _, _⟩ :: _) _ _); refine wpList_box_one rfl _ (.tmp 0) rfl _ rfl rfl ?_; intro p w1 hp1 hp2 P1 L1)
    | fail)
  refine wp_region_held (S := fun w' => Blk w' p 83 [.pointer (some ⟨g, 0, none⟩)] ∧ Blk w' g 28 cs) (by kernel_rfl) ?_
  change wpAnyH _ _ _ _ _ _ _ _ w1.drew
  have S0 : Hid (Blk w1.drew p 83 [.pointer (some ⟨g, 0, none⟩)] ∧ Blk w1.drew g 28 cs) := ⟨P1.out.drew, (HB1.out.over L1.out).drew⟩
  have b0 : Hid (Below w.heap.size w w1.drew) := L1.out.drew
  have hp2' : p < w1.drew.heap.size := hp2
  obtain ⟨w0, hw0⟩ : ∃ w0, w0 = w1.drew := ⟨_, rfl⟩
  rw [← hw0] at S0 b0 hp2' ⊢
  clear hw0 HB1 P1 L1 hp2
  -- region, by tools/gen_region_takes.py
  refine wpAnyH_take (i := 0) (v := _) rfl (by kernel_rfl) (by kernel_rfl) (by kernel_rfl) (fun _ _ _ h => h) (yieldsIf_move (by kernel_rfl) (.tmp 3) rfl (.func (.func 90) #[] #[]) (by kernel_rfl)) S0.out ?_
  refine wpAnyH_take (i := 1) (v := _) rfl (by kernel_rfl) (by kernel_rfl) (by kernel_rfl) (fun _ _ _ h => h) (yieldsIf_build_blk (by kernel_rfl) _ _ rfl [.int .i64 0, .int .i64 4, .int .u64 1112364030, .func (.func 90) #[] #[]] (by kernel_rfl)) S0.out ?_
  refine wpAnyH_take (i := 2) (v := _) rfl (by kernel_rfl) (by kernel_rfl) (by kernel_rfl) (fun _ _ _ h => h) (yieldsIf_move (by kernel_rfl) (.tmp 3) rfl (.func (.func 90) #[] #[]) (by kernel_rfl)) S0.out ?_
  refine wpAnyH_take (i := 3) (v := _) rfl (by kernel_rfl) (by kernel_rfl) (by kernel_rfl) (fun _ _ _ h => h) (yieldsIf_build_blk (by kernel_rfl) _ _ rfl [.int .i64 4, .int .i64 2, .int .u64 64, .func (.func 90) #[] #[]] (by kernel_rfl)) S0.out ?_
  refine wpAnyH_take (i := 4) (v := _) rfl (by kernel_rfl) (by kernel_rfl) (by kernel_rfl) (fun _ _ _ h => h) (yieldsIf_load_one (by kernel_rfl) _ (.tmp 1) rfl p 0 (by kernel_rfl) (.pointer (some ⟨g, 0, none⟩)) (fun _ h => h.1.cell 0) _ Tryz.underlying83 rfl) S0.out ?_
  refine wpAnyH_take (i := 5) (v := _) rfl (by kernel_rfl) (by kernel_rfl) (by kernel_rfl) (fun _ _ _ h => h) (yieldsIf_nil (by kernel_rfl) (.tmp 8) rfl ⟨g, 0, none⟩ (by kernel_rfl)) S0.out ?_
  refine wpAnyH_take (i := 6) (v := _) rfl (by kernel_rfl) (by kernel_rfl) (by kernel_rfl) (fun _ _ _ h => h) (yieldsIf_fld (by kernel_rfl) _ (.tmp 9) 0 rfl (.pointer (some ⟨g, 0, none⟩)) (.pointer (some ⟨g, 0, none⟩)) (by kernel_rfl) (fld_hd g 0 (by decide))) S0.out ?_
  refine wpAnyH_take (i := 7) (v := _) rfl (by kernel_rfl) (by kernel_rfl) (by kernel_rfl) (fun _ _ _ h => h) (yieldsIf_load_one (by kernel_rfl) _ (.tmp 10) rfl g 0 (by kernel_rfl) (.int .u16 n0) (fun w h => (FW.out w h.2).1) _ Tryz.underlying22 rfl) S0.out ?_
  refine wpAnyH_take (i := 8) (v := _) rfl (by kernel_rfl) (by kernel_rfl) (by kernel_rfl) (fun _ _ _ h => h) (yieldsIf_conv (by kernel_rfl) _ _ (.tmp 11) rfl (.int .u16 n0) (.int .u64 n0) (by kernel_rfl) (conv_u16 n0 k00 k01)) S0.out ?_
  refine wpAnyH_take (i := 9) (v := _) rfl (by kernel_rfl) (by kernel_rfl) (by kernel_rfl) (fun _ _ _ h => h) (yieldsIf_fn (by kernel_rfl) _ _ _ rfl #[] #[.pointer (some ⟨p, 0, none⟩)] (by kernel_rfl) (by kernel_rfl) (hmf _ _ _)) S0.out ?_
  refine wpAnyH_take (i := 10) (v := _) rfl (by kernel_rfl) (by kernel_rfl) (by kernel_rfl) (fun _ _ _ h => h) (yieldsIf_build_blk (by kernel_rfl) _ _ rfl [.int .i64 6, .int .i64 2, .int .u64 n0, .func (.func 91) #[] #[.pointer (some ⟨p, 0, none⟩)]] (by kernel_rfl)) S0.out ?_
  refine wpAnyH_take (i := 11) (v := _) rfl (by kernel_rfl) (by kernel_rfl) (by kernel_rfl) (fun _ _ _ h => h) (yieldsIf_load_one (by kernel_rfl) _ (.tmp 1) rfl p 0 (by kernel_rfl) (.pointer (some ⟨g, 0, none⟩)) (fun _ h => h.1.cell 0) _ Tryz.underlying83 rfl) S0.out ?_
  refine wpAnyH_take (i := 12) (v := _) rfl (by kernel_rfl) (by kernel_rfl) (by kernel_rfl) (fun _ _ _ h => h) (yieldsIf_nil (by kernel_rfl) (.tmp 15) rfl ⟨g, 0, none⟩ (by kernel_rfl)) S0.out ?_
  refine wpAnyH_take (i := 13) (v := _) rfl (by kernel_rfl) (by kernel_rfl) (by kernel_rfl) (fun _ _ _ h => h) (yieldsIf_fld (by kernel_rfl) _ (.tmp 16) 1 rfl (.pointer (some ⟨g, 0, none⟩)) (.pointer (some ⟨g, 1, none⟩)) (by kernel_rfl) (fld_hd g 1 (by decide))) S0.out ?_
  refine wpAnyH_take (i := 14) (v := _) rfl (by kernel_rfl) (by kernel_rfl) (by kernel_rfl) (fun _ _ _ h => h) (yieldsIf_load_one (by kernel_rfl) _ (.tmp 17) rfl g 1 (by kernel_rfl) (.int .u32 n1) (fun w h => (FW.out w h.2).2.1) _ Tryz.underlying23 rfl) S0.out ?_
  refine wpAnyH_take (i := 15) (v := _) rfl (by kernel_rfl) (by kernel_rfl) (by kernel_rfl) (fun _ _ _ h => h) (yieldsIf_conv (by kernel_rfl) _ _ (.tmp 18) rfl (.int .u32 n1) (.int .u64 n1) (by kernel_rfl) (conv_u32 n1 k10 k11)) S0.out ?_
  refine wpAnyH_take (i := 16) (v := _) rfl (by kernel_rfl) (by kernel_rfl) (by kernel_rfl) (fun _ _ _ h => h) (yieldsIf_fn (by kernel_rfl) _ _ _ rfl #[] #[.pointer (some ⟨p, 0, none⟩)] (by kernel_rfl) (by kernel_rfl) (hmf _ _ _)) S0.out ?_
  refine wpAnyH_take (i := 17) (v := _) rfl (by kernel_rfl) (by kernel_rfl) (by kernel_rfl) (fun _ _ _ h => h) (yieldsIf_build_blk (by kernel_rfl) _ _ rfl [.int .i64 8, .int .i64 4, .int .u64 n1, .func (.func 92) #[] #[.pointer (some ⟨p, 0, none⟩)]] (by kernel_rfl)) S0.out ?_
  refine wpAnyH_take (i := 18) (v := _) rfl (by kernel_rfl) (by kernel_rfl) (by kernel_rfl) (fun _ _ _ h => h) (yieldsIf_load_one (by kernel_rfl) _ (.tmp 1) rfl p 0 (by kernel_rfl) (.pointer (some ⟨g, 0, none⟩)) (fun _ h => h.1.cell 0) _ Tryz.underlying83 rfl) S0.out ?_
  refine wpAnyH_take (i := 19) (v := _) rfl (by kernel_rfl) (by kernel_rfl) (by kernel_rfl) (fun _ _ _ h => h) (yieldsIf_nil (by kernel_rfl) (.tmp 22) rfl ⟨g, 0, none⟩ (by kernel_rfl)) S0.out ?_
  refine wpAnyH_take (i := 20) (v := _) rfl (by kernel_rfl) (by kernel_rfl) (by kernel_rfl) (fun _ _ _ h => h) (yieldsIf_fld (by kernel_rfl) _ (.tmp 23) 2 rfl (.pointer (some ⟨g, 0, none⟩)) (.pointer (some ⟨g, 2, none⟩)) (by kernel_rfl) (fld_hd g 2 (by decide))) S0.out ?_
  refine wpAnyH_take (i := 21) (v := _) rfl (by kernel_rfl) (by kernel_rfl) (by kernel_rfl) (fun _ _ _ h => h) (yieldsIf_load_one (by kernel_rfl) _ (.tmp 24) rfl g 2 (by kernel_rfl) (.int .u16 n2) (fun w h => (FW.out w h.2).2.2.1) _ Tryz.underlying24 rfl) S0.out ?_
  refine wpAnyH_take (i := 22) (v := _) rfl (by kernel_rfl) (by kernel_rfl) (by kernel_rfl) (fun _ _ _ h => h) (yieldsIf_conv (by kernel_rfl) _ _ (.tmp 25) rfl (.int .u16 n2) (.int .u64 n2) (by kernel_rfl) (conv_cmd n2 k20 k21)) S0.out ?_
  refine wpAnyH_take (i := 23) (v := _) rfl (by kernel_rfl) (by kernel_rfl) (by kernel_rfl) (fun _ _ _ h => h) (yieldsIf_fn (by kernel_rfl) _ _ _ rfl #[] #[.pointer (some ⟨p, 0, none⟩)] (by kernel_rfl) (by kernel_rfl) (hmf _ _ _)) S0.out ?_
  refine wpAnyH_take (i := 24) (v := _) rfl (by kernel_rfl) (by kernel_rfl) (by kernel_rfl) (fun _ _ _ h => h) (yieldsIf_build_blk (by kernel_rfl) _ _ rfl [.int .i64 12, .int .i64 2, .int .u64 n2, .func (.func 93) #[] #[.pointer (some ⟨p, 0, none⟩)]] (by kernel_rfl)) S0.out ?_
  refine wpAnyH_take (i := 25) (v := _) rfl (by kernel_rfl) (by kernel_rfl) (by kernel_rfl) (fun _ _ _ h => h) (yieldsIf_load_one (by kernel_rfl) _ (.tmp 1) rfl p 0 (by kernel_rfl) (.pointer (some ⟨g, 0, none⟩)) (fun _ h => h.1.cell 0) _ Tryz.underlying83 rfl) S0.out ?_
  refine wpAnyH_take (i := 26) (v := _) rfl (by kernel_rfl) (by kernel_rfl) (by kernel_rfl) (fun _ _ _ h => h) (yieldsIf_nil (by kernel_rfl) (.tmp 29) rfl ⟨g, 0, none⟩ (by kernel_rfl)) S0.out ?_
  refine wpAnyH_take (i := 27) (v := _) rfl (by kernel_rfl) (by kernel_rfl) (by kernel_rfl) (fun _ _ _ h => h) (yieldsIf_fld (by kernel_rfl) _ (.tmp 30) 3 rfl (.pointer (some ⟨g, 0, none⟩)) (.pointer (some ⟨g, 3, none⟩)) (by kernel_rfl) (fld_hd g 3 (by decide))) S0.out ?_
  refine wpAnyH_take (i := 28) (v := _) rfl (by kernel_rfl) (by kernel_rfl) (by kernel_rfl) (fun _ _ _ h => h) (yieldsIf_load_one (by kernel_rfl) _ (.tmp 31) rfl g 3 (by kernel_rfl) (.int .u16 n3) (fun w h => (FW.out w h.2).2.2.2.1) _ Tryz.underlying22 rfl) S0.out ?_
  refine wpAnyH_take (i := 29) (v := _) rfl (by kernel_rfl) (by kernel_rfl) (by kernel_rfl) (fun _ _ _ h => h) (yieldsIf_conv (by kernel_rfl) _ _ (.tmp 32) rfl (.int .u16 n3) (.int .u64 n3) (by kernel_rfl) (conv_u16 n3 k30 k31)) S0.out ?_
  refine wpAnyH_take (i := 30) (v := _) rfl (by kernel_rfl) (by kernel_rfl) (by kernel_rfl) (fun _ _ _ h => h) (yieldsIf_fn (by kernel_rfl) _ _ _ rfl #[] #[.pointer (some ⟨p, 0, none⟩)] (by kernel_rfl) (by kernel_rfl) (hmf _ _ _)) S0.out ?_
  refine wpAnyH_take (i := 31) (v := _) rfl (by kernel_rfl) (by kernel_rfl) (by kernel_rfl) (fun _ _ _ h => h) (yieldsIf_build_blk (by kernel_rfl) _ _ rfl [.int .i64 14, .int .i64 2, .int .u64 n3, .func (.func 94) #[] #[.pointer (some ⟨p, 0, none⟩)]] (by kernel_rfl)) S0.out ?_
  refine wpAnyH_take (i := 32) (v := _) rfl (by kernel_rfl) (by kernel_rfl) (by kernel_rfl) (fun _ _ _ h => h) (yieldsIf_load_one (by kernel_rfl) _ (.tmp 1) rfl p 0 (by kernel_rfl) (.pointer (some ⟨g, 0, none⟩)) (fun _ h => h.1.cell 0) _ Tryz.underlying83 rfl) S0.out ?_
  refine wpAnyH_take (i := 33) (v := _) rfl (by kernel_rfl) (by kernel_rfl) (by kernel_rfl) (fun _ _ _ h => h) (yieldsIf_nil (by kernel_rfl) (.tmp 36) rfl ⟨g, 0, none⟩ (by kernel_rfl)) S0.out ?_
  refine wpAnyH_take (i := 34) (v := _) rfl (by kernel_rfl) (by kernel_rfl) (by kernel_rfl) (fun _ _ _ h => h) (yieldsIf_fld (by kernel_rfl) _ (.tmp 37) 4 rfl (.pointer (some ⟨g, 0, none⟩)) (.pointer (some ⟨g, 4, none⟩)) (by kernel_rfl) (fld_hd g 4 (by decide))) S0.out ?_
  refine wpAnyH_take (i := 35) (v := _) rfl (by kernel_rfl) (by kernel_rfl) (by kernel_rfl) (fun _ _ _ h => h) (yieldsIf_load_one (by kernel_rfl) _ (.tmp 38) rfl g 4 (by kernel_rfl) (.int .u32 n4) (fun w h => (FW.out w h.2).2.2.2.2.1) _ Tryz.underlying23 rfl) S0.out ?_
  refine wpAnyH_take (i := 36) (v := _) rfl (by kernel_rfl) (by kernel_rfl) (by kernel_rfl) (fun _ _ _ h => h) (yieldsIf_conv (by kernel_rfl) _ _ (.tmp 39) rfl (.int .u32 n4) (.int .u64 n4) (by kernel_rfl) (conv_u32 n4 k40 k41)) S0.out ?_
  refine wpAnyH_take (i := 37) (v := _) rfl (by kernel_rfl) (by kernel_rfl) (by kernel_rfl) (fun _ _ _ h => h) (yieldsIf_fn (by kernel_rfl) _ _ _ rfl #[] #[.pointer (some ⟨p, 0, none⟩)] (by kernel_rfl) (by kernel_rfl) (hmf _ _ _)) S0.out ?_
  refine wpAnyH_take (i := 38) (v := _) rfl (by kernel_rfl) (by kernel_rfl) (by kernel_rfl) (fun _ _ _ h => h) (yieldsIf_build_blk (by kernel_rfl) _ _ rfl [.int .i64 16, .int .i64 4, .int .u64 n4, .func (.func 95) #[] #[.pointer (some ⟨p, 0, none⟩)]] (by kernel_rfl)) S0.out ?_
  refine wpAnyH_take (i := 39) (v := _) rfl (by kernel_rfl) (by kernel_rfl) (by kernel_rfl) (fun _ _ _ h => h) (yieldsIf_load_one (by kernel_rfl) _ (.tmp 1) rfl p 0 (by kernel_rfl) (.pointer (some ⟨g, 0, none⟩)) (fun _ h => h.1.cell 0) _ Tryz.underlying83 rfl) S0.out ?_
  refine wpAnyH_take (i := 40) (v := _) rfl (by kernel_rfl) (by kernel_rfl) (by kernel_rfl) (fun _ _ _ h => h) (yieldsIf_nil (by kernel_rfl) (.tmp 43) rfl ⟨g, 0, none⟩ (by kernel_rfl)) S0.out ?_
  refine wpAnyH_take (i := 41) (v := _) rfl (by kernel_rfl) (by kernel_rfl) (by kernel_rfl) (fun _ _ _ h => h) (yieldsIf_fld (by kernel_rfl) _ (.tmp 44) 5 rfl (.pointer (some ⟨g, 0, none⟩)) (.pointer (some ⟨g, 5, none⟩)) (by kernel_rfl) (fld_hd g 5 (by decide))) S0.out ?_
  refine wpAnyH_take (i := 42) (v := _) rfl (by kernel_rfl) (by kernel_rfl) (by kernel_rfl) (fun _ _ _ h => h) (yieldsIf_load_one (by kernel_rfl) _ (.tmp 45) rfl g 5 (by kernel_rfl) (.int .u32 n5) (fun w h => (FW.out w h.2).2.2.2.2.2.1) _ Tryz.underlying23 rfl) S0.out ?_
  refine wpAnyH_take (i := 43) (v := _) rfl (by kernel_rfl) (by kernel_rfl) (by kernel_rfl) (fun _ _ _ h => h) (yieldsIf_conv (by kernel_rfl) _ _ (.tmp 46) rfl (.int .u32 n5) (.int .u64 n5) (by kernel_rfl) (conv_u32 n5 k50 k51)) S0.out ?_
  refine wpAnyH_take (i := 44) (v := _) rfl (by kernel_rfl) (by kernel_rfl) (by kernel_rfl) (fun _ _ _ h => h) (yieldsIf_fn (by kernel_rfl) _ _ _ rfl #[] #[.pointer (some ⟨p, 0, none⟩)] (by kernel_rfl) (by kernel_rfl) (hmf _ _ _)) S0.out ?_
  refine wpAnyH_take (i := 45) (v := _) rfl (by kernel_rfl) (by kernel_rfl) (by kernel_rfl) (fun _ _ _ h => h) (yieldsIf_build_blk (by kernel_rfl) _ _ rfl [.int .i64 20, .int .i64 4, .int .u64 n5, .func (.func 96) #[] #[.pointer (some ⟨p, 0, none⟩)]] (by kernel_rfl)) S0.out ?_
  refine wpAnyH_take (i := 46) (v := _) rfl (by kernel_rfl) (by kernel_rfl) (by kernel_rfl) (fun _ _ _ h => h) (yieldsIf_load_one (by kernel_rfl) _ (.tmp 1) rfl p 0 (by kernel_rfl) (.pointer (some ⟨g, 0, none⟩)) (fun _ h => h.1.cell 0) _ Tryz.underlying83 rfl) S0.out ?_
  refine wpAnyH_take (i := 47) (v := _) rfl (by kernel_rfl) (by kernel_rfl) (by kernel_rfl) (fun _ _ _ h => h) (yieldsIf_nil (by kernel_rfl) (.tmp 50) rfl ⟨g, 0, none⟩ (by kernel_rfl)) S0.out ?_
  refine wpAnyH_take (i := 48) (v := _) rfl (by kernel_rfl) (by kernel_rfl) (by kernel_rfl) (fun _ _ _ h => h) (yieldsIf_fld (by kernel_rfl) _ (.tmp 51) 6 rfl (.pointer (some ⟨g, 0, none⟩)) (.pointer (some ⟨g, 6, none⟩)) (by kernel_rfl) (fld_hd g 6 (by decide))) S0.out ?_
  refine wpAnyH_take (i := 49) (v := _) rfl (by kernel_rfl) (by kernel_rfl) (by kernel_rfl) (fun _ _ _ h => h) (yieldsIf_load_one (by kernel_rfl) _ (.tmp 52) rfl g 6 (by kernel_rfl) (.int .u64 n6) (fun w h => (FW.out w h.2).2.2.2.2.2.2.1) _ Tryz.underlying25 rfl) S0.out ?_
  refine wpAnyH_take (i := 50) (v := _) rfl (by kernel_rfl) (by kernel_rfl) (by kernel_rfl) (fun _ _ _ h => h) (yieldsIf_fn (by kernel_rfl) _ _ _ rfl #[] #[.pointer (some ⟨p, 0, none⟩)] (by kernel_rfl) (by kernel_rfl) (hmf _ _ _)) S0.out ?_
  refine wpAnyH_take (i := 51) (v := _) rfl (by kernel_rfl) (by kernel_rfl) (by kernel_rfl) (fun _ _ _ h => h) (yieldsIf_build_blk (by kernel_rfl) _ _ rfl [.int .i64 24, .int .i64 8, .int .u64 n6, .func (.func 97) #[] #[.pointer (some ⟨p, 0, none⟩)]] (by kernel_rfl)) S0.out ?_
  refine wpAnyH_take (i := 52) (v := _) rfl (by kernel_rfl) (by kernel_rfl) (by kernel_rfl) (fun _ _ _ h => h) (yieldsIf_load_one (by kernel_rfl) _ (.tmp 1) rfl p 0 (by kernel_rfl) (.pointer (some ⟨g, 0, none⟩)) (fun _ h => h.1.cell 0) _ Tryz.underlying83 rfl) S0.out ?_
  refine wpAnyH_take (i := 53) (v := _) rfl (by kernel_rfl) (by kernel_rfl) (by kernel_rfl) (fun _ _ _ h => h) (yieldsIf_nil (by kernel_rfl) (.tmp 56) rfl ⟨g, 0, none⟩ (by kernel_rfl)) S0.out ?_
  refine wpAnyH_take (i := 54) (v := _) rfl (by kernel_rfl) (by kernel_rfl) (by kernel_rfl) (fun _ _ _ h => h) (yieldsIf_load_blk (by kernel_rfl) _ (.tmp 57) rfl g (by kernel_rfl) _ cs (fun _ h => h.2) 26 _ Tryz.underlying28 rfl size_hd HL) S0.out ?_
  refine wpAnyH_take (i := 56) (v := _) rfl (by kernel_rfl) (by kernel_rfl) (by kernel_rfl) (fun _ _ _ h => h) (yieldsIf_fn (by kernel_rfl) _ _ _ rfl #[] #[.pointer (some ⟨p, 0, none⟩)] (by kernel_rfl) (by kernel_rfl) (hmf _ _ _)) S0.out ?_
  refine wpAnyH_take (i := 58) (v := _) rfl (by kernel_rfl) (by kernel_rfl) (by kernel_rfl) (fun _ _ _ h => h) (yieldsIf_load_one (by kernel_rfl) _ (.tmp 1) rfl p 0 (by kernel_rfl) (.pointer (some ⟨g, 0, none⟩)) (fun _ h => h.1.cell 0) _ Tryz.underlying83 rfl) S0.out ?_
  refine wpAnyH_take (i := 59) (v := _) rfl (by kernel_rfl) (by kernel_rfl) (by kernel_rfl) (fun _ _ _ h => h) (yieldsIf_nil (by kernel_rfl) (.tmp 62) rfl ⟨g, 0, none⟩ (by kernel_rfl)) S0.out ?_
  refine wpAnyH_take (i := 60) (v := _) rfl (by kernel_rfl) (by kernel_rfl) (by kernel_rfl) (fun _ _ _ h => h) (yieldsIf_fld (by kernel_rfl) _ (.tmp 63) 9 rfl (.pointer (some ⟨g, 0, none⟩)) (.pointer (some ⟨g, 9, none⟩)) (by kernel_rfl) (fld_hd g 9 (by decide))) S0.out ?_
  refine wpAnyH_take (i := 61) (v := _) rfl (by kernel_rfl) (by kernel_rfl) (by kernel_rfl) (fun _ _ _ h => h) (yieldsIf_load_one (by kernel_rfl) _ (.tmp 64) rfl g 9 (by kernel_rfl) (.int .u64 n10) (fun w h => (FW.out w h.2).2.2.2.2.2.2.2) _ Tryz.underlying25 rfl) S0.out ?_
  refine wpAnyH_take (i := 62) (v := _) rfl (by kernel_rfl) (by kernel_rfl) (by kernel_rfl) (fun _ _ _ h => h) (yieldsIf_fn (by kernel_rfl) _ _ _ rfl #[] #[.pointer (some ⟨p, 0, none⟩)] (by kernel_rfl) (by kernel_rfl) (hmf _ _ _)) S0.out ?_
  refine wpAnyH_take (i := 63) (v := _) rfl (by kernel_rfl) (by kernel_rfl) (by kernel_rfl) (fun _ _ _ h => h) (yieldsIf_build_blk (by kernel_rfl) _ _ rfl [.int .i64 40, .int .i64 8, .int .u64 n10, .func (.func 101) #[] #[.pointer (some ⟨p, 0, none⟩)]] (by kernel_rfl)) S0.out ?_
  refine wpAnyH_frame fun a1 ha1 => ?_
  have e58 : a1.eval (.tmp 58) = .agg cs.toArray := by rw [ha1]; kernel_rfl
  refine wpAnyH_one 55 _ (by kernel_rfl) rfl fun K hK => ?_
  go_simp
  refine (C0.out _).mono ?_
  rintro e w2 ⟨rfl, b⟩
  have S2 : Hid (Blk w2 p 83 [.pointer (some ⟨g, 0, none⟩)] ∧ Blk w2 g 28 cs) := ⟨S0.out.1.over b, S0.out.2.over b⟩
  have b2 := Lib.hid (step b0.out b)
  have hsz := b.size
  refine hK _ _ S2.out ?_
  clear hK K b e58
  subst ha1
  refine wpAnyH_take (i := 57) (v := _) rfl (by kernel_rfl) (by kernel_rfl) (by kernel_rfl) (fun _ _ _ h => h) (yieldsIf_build_blk (by kernel_rfl) _ _ rfl [.int .i64 32, .int .i64 8, .int .u64 n9, .func (.func 99) #[] #[.pointer (some ⟨p, 0, none⟩)]] (by kernel_rfl)) S2.out ?_
  refine wpAnyH_one 64 _ (by kernel_rfl) rfl fun K hK => ?_
  refine step_slice_blk rfl _ _ 11 _ rfl Tryz.underlying81 (fcellsV p n0 n1 n2 n3 n4 n5 n6 n9 n10) (by kernel_rfl) ?_
  intro G w3 hG1 hG2 G3 L3
  have S3 : Hid (Blk w3 p 83 [.pointer (some ⟨g, 0, none⟩)] ∧ Blk w3 g 28 cs) := ⟨S2.out.1.over L3.out, S2.out.2.over L3.out⟩
  refine hK _ _ S3.out ?_
  clear hK K
  refine wpAnyH_take (i := 65) (v := _) rfl (by kernel_rfl) (by kernel_rfl) (by kernel_rfl) (fun _ _ _ h => h) (yieldsIf_asg (by kernel_rfl) (.tmp 68) rfl (.slice (some ⟨G, 0, none⟩) 11 11) (by kernel_rfl)) S3.out ?_
  refine wpAnyH_done (by kernel_rfl) ?_ _
  go_wp2_with fail
  go_ret
  exact HQ.out _ _ ⟨p, G, rfl, hp1, by omega, S3.out.1, G3.out, step b2.out L3.out⟩
end Go.Proofs.YtpodpmckdiijhaaGreatDoor

namespace Go.Proofs.YtpodpmckdiijhaaGreatDoor
set_option linter.all false
set_option maxRecDepth 100000
open Go.RowKit
/-- what Put answers -/
def PutHPost (w : World) (h : Hd) (e : Ending) (w' : World) : Prop :=
  ∃ A', e = .returned (.tuple #[.slice A' (putOfH h).length (putOfH h).length, .int .i64 (putErrH h)]) ∧ Fresh w' w.heap.size A' (putOfH h) ∧ Below w.heap.size w w'
theorem vals_ok {h : Hd} (k : h.ok) (j : Nat) (hj : j < 11) : 0 ≤ (vals h).getD j 0 ∧ (vals h).getD j 0 ≤ 18446744073709551615 ∧ (vals h).getD j 0 < 256 ^ szs.getD j 0 := by
  have ab := aot_bounds k
  have e2 : (256 : Int) ^ 2 = 65536 := by decide
  have e4 : (256 : Int) ^ 4 = 4294967296 := by decide
  have e8 : (256 : Int) ^ 8 = 18446744073709551616 := by decide
  have k0 := k.ch
  have k1 := k.st
  have k2 := k.cm
  have k3 := k.cr
  have k4 := k.fl
  have k5 := k.nx
  have k6 := k.id
  have k9 := k.se
  refine eleven (p := fun j => 0 ≤ (vals h).getD j 0 ∧ (vals h).getD j 0 ≤ 18446744073709551615 ∧ (vals h).getD j 0 < 256 ^ szs.getD j 0) ?_ ?_ ?_ ?_ ?_ ?_ ?_ ?_ ?_ ?_ ?_ j hj
  · show (0 : Int) ≤ 1112364030 ∧ (1112364030 : Int) ≤ _ ∧ (1112364030 : Int) < 256 ^ 4; omega
  · show (0 : Int) ≤ 64 ∧ (64 : Int) ≤ _ ∧ (64 : Int) < 256 ^ 2; omega
  · show 0 ≤ h.ch ∧ h.ch ≤ _ ∧ h.ch < 256 ^ 2; omega
  · show 0 ≤ h.st ∧ h.st ≤ _ ∧ h.st < 256 ^ 4; omega
  · show 0 ≤ h.cm ∧ h.cm ≤ _ ∧ h.cm < 256 ^ 2; omega
  · show 0 ≤ h.cr ∧ h.cr ≤ _ ∧ h.cr < 256 ^ 2; omega
  · show 0 ≤ h.fl ∧ h.fl ≤ _ ∧ h.fl < 256 ^ 4; omega
  · show 0 ≤ h.nx ∧ h.nx ≤ _ ∧ h.nx < 256 ^ 4; omega
  · show 0 ≤ h.id ∧ h.id ≤ _ ∧ h.id < 256 ^ 8; omega
  · show 0 ≤ aot h ∧ aot h ≤ _ ∧ aot h < 256 ^ 8; omega
  · show 0 ≤ h.se ∧ h.se ≤ _ ∧ h.se < 256 ^ 8; omega
theorem fel_one (p : Nat) (h : Hd) (j : Nat) : ∀ v ∈ fel p h j, v.oneCell' = true := by
  intro v hv
  simp only [fel, List.mem_cons, List.not_mem_nil, or_false] at hv
  rcases hv with rfl | rfl | rfl | rfl <;> rfl
def fzero : List Value := [.int .i64 0, .int .i64 0, .int .u64 0, .nilFunc]
theorem zero_fd : (Tryz.prog.info? 86).map (fun i => (i.zero, i.size)) = some (some (.agg fzero.toArray), 4) := by kernel_rfl
theorem size_fd : (Tryz.prog.info? 86).map (·.size) = some 4 := by kernel_rfl
/-- one number of a head, put -/
theorem putk_any (w : World) (h : Hd) (k : h.ok) (j : Nat) (hj : j < 11) :
    Calls Tryz.prog 54 #[.int .u64 ((vals h).getD j 0), .int .i64 (szs.getD j 0 : Nat)] w fun e w' => ∃ A' er, e = .returned (.tuple #[.slice A' (szs.getD j 0) (szs.getD j 0), .int .i64 er]) ∧ Holds w' w'.heap.size A' (szs.getD j 0) (szs.getD j 0) (le ((vals h).getD j 0) (szs.getD j 0)) ∧ Below w.heap.size w w' := by
  obtain ⟨v0, v1, v2⟩ := vals_ok k j hj
  have h1 := offs_step j hj
  have hok : putOk ((vals h).getD j 0) (szs.getD j 0 : Nat) = true := by
    unfold putOk
    rw [size_of j hj, Int.toNat_natCast, decide_eq_true v2]
    rfl
  have eo : putOf ((vals h).getD j 0) (szs.getD j 0 : Nat) = le ((vals h).getD j 0) (szs.getD j 0) := by unfold putOf; rw [if_pos hok, Int.toNat_natCast]
  refine (Put_any w ((vals h).getD j 0) (szs.getD j 0 : Nat) ⟨v0, v1⟩ (by omega)).mono ?_
  rintro e w' ⟨A', rfl, hf, hb⟩
  rw [eo] at hf ⊢
  rw [le_length]
  exact ⟨A', _, rfl, hf.holds (le_length _ _) (le_bytes _ _) (by omega), hb⟩
set_option maxRecDepth 100000 in
set_option maxHeartbeats 2000000 in
theorem PutH_any (w : World) (h : Hd) (k : h.ok) :
    Calls Tryz.prog 33 #[hv h] w (PutHPost w h) := by
  have CM : Hid (∀ w : World, Calls Tryz.prog 52 #[hv h] w fun e w' => e = .returned (.bool (mayP h)) ∧ Below w.heap.size w w') := fun w => May_any w h k
  have HL := Lib.hid (hcells_len k)
  by_cases hm : mayP h = true
  · have HQ : Hid (∀ e w', (∃ A', e = .returned (.tuple #[.slice A' 64 64, .int .i64 0]) ∧ Fresh w' w.heap.size A' (putH h) ∧ Below w.heap.size w w') → PutHPost w h e w') := by
      intro e w' hh
      unfold PutHPost putOfH putErrH
      rw [if_pos hm, if_pos hm, putH_len k.len]
      exact hh
    have CF : Hid (∀ (w : World) (g : Nat), HB w g h → Calls Tryz.prog 53 #[.pointer (some ⟨g, 0, none⟩)] w (FieldsPost w g h)) := fun w g B => fields_any w g h k B
    have CP : Hid (∀ (w : World) (j : Nat), j < 11 → Calls Tryz.prog 54 #[.int .u64 ((vals h).getD j 0), .int .i64 (szs.getD j 0 : Nat)] w fun e w' => ∃ A' er, e = .returned (.tuple #[.slice A' (szs.getD j 0) (szs.getD j 0), .int .i64 er]) ∧ Holds w' w'.heap.size A' (szs.getD j 0) (szs.getD j 0) (le ((vals h).getD j 0) (szs.getD j 0)) ∧ Below w.heap.size w w') := fun w j hj => putk_any w h k j hj
    have HK := Lib.hid k
    rw [hm] at CM
    obtain ⟨cs, hcs⟩ : ∃ cs, cs = hcells h := ⟨_, rfl⟩
    have HC := Lib.hid hcs
    unfold hv at CM ⊢
    rw [← hcs] at CM HL ⊢
    have ZF := Lib.hid zero_fd
    obtain ⟨zf, hzf⟩ : ∃ zf, zf = fzero := ⟨_, rfl⟩
    have HZF : Hid (zf.length = 4) := by rw [hzf]; rfl
    rw [← hzf] at ZF
    clear hm k hcs hzf
    go_enter Tryz.func33, Tryz.ntmps33
    go_wp2_with (first
      | ((with_reducible show wpList _ _ _ (⟨some 1, _, _, _, _, _⟩ :: _) _ _); refine wpList_box_blk rfl _ (.tmp 0) rfl cs rfl ?_; intro g w1 hg1 hg2 B1 L1)
      | ((with_reducible show wpList _ _ _ (⟨some 9, _, _, _, _, _⟩ :: _) _ _); refine wpList_load_blk rfl _ (.tmp 1) rfl g rfl _ cs B1 26 _ Tryz.underlying28 rfl size_hd HL ?_)
      | fail)
    refine (CM.out _).mono ?_
    rintro e w2 ⟨rfl, L2⟩
    have B2 := Lib.hid (B1.out.over L2)
    have L12 := Lib.hid (step L1.out L2)
    have hs2 := L2.size
    clear B1 L1 L2 CM
    go_wp2_with (first
      | (at_make; refine wpList_make_bytes _ rfl _ _ rfl _ _ 64 rfl rfl rfl rfl (by omega) ?_; intro w3 R3 L3)
      | fail)
    have B3 := Lib.hid (B2.out.over L3)
    have L13 := Lib.hid (step L12.out L3)
    have hs3 := L3.size
    refine (CF.out _ g (HB.of HC.out B3.out)).mono ?_
    rintro e w4 ⟨p, G, rfl, hp, hpG, P4, F4, L4⟩
    obtain ⟨gb, hgb⟩ : ∃ gb, gb = w2.heap.size := ⟨_, rfl⟩
    rw [← hgb] at R3 ⊢
    have R4 : Hid (Row w4 gb (rowH h 0)) := by rw [rowH_zero]; exact R3.out.over L4
    have B4 : Hid (Blk w4 g 28 cs) := B3.out.over L4
    have F4' := Lib.hid F4
    have L14 := Lib.hid (step L13.out L4)
    have hgb3 := R3.out.lt
    have hgw : w.heap.size ≤ gb := by omega
    have hgg : g < gb := by omega
    have hbG : gb < G := by omega
    clear P4 F4 L4 B3 B2 L13 L3 R3 L12 hp hpG hgb hgb3 hs3 hs2 CF
    go_wp2_with fail
    go_loopw [6, 7, 8, 15] (fun _ _ _ i wr => ∃ j : Nat, j ≤ 11 ∧ i = .int .i64 j ∧ Hid (Row wr gb (rowH h j)) ∧ Hid (Blk wr G 86 (fcells p h)) ∧ Hid (Blk wr g 28 cs) ∧ Hid (Below w.heap.size w wr)) (fun _ _ _ i _ => 11 - (intOf i).toNat)
    case atStart => exact ⟨0, Nat.zero_le _, rfl, R4, F4', B4, L14⟩
    case round =>
      clear R4 F4' B4 L14
      obtain ⟨j, hj, rfl, RR, FF, BB, LL⟩ := hrel
      by_cases hlt : j < 11
      · have h1 := offs_step j hlt
        have hrange := fcells_range FF.out j hlt
        have hstep := rowH_step h j hlt
        have hlen := rowH_len h j hj
        have CPj : Hid (∀ w : World, Calls Tryz.prog 54 #[.int .u64 ((vals h).getD j 0), .int .i64 (szs.getD j 0 : Nat)] w fun e w' => ∃ A' er, e = .returned (.tuple #[.slice A' (szs.getD j 0) (szs.getD j 0), .int .i64 er]) ∧ Holds w' w'.heap.size A' (szs.getD j 0) (szs.getD j 0) (le ((vals h).getD j 0) (szs.getD j 0)) ∧ Below w.heap.size w w') := fun w => CP.out w j hlt
        have EL : Hid ((fel p h j).length = 4) := rfl
        have EO := Lib.hid (fel_one p h j)
        have E0 : Hid ((fel p h j)[0]? = some (.int .i64 (offs.getD j 0 : Nat))) := rfl
        have E1 : Hid ((fel p h j)[1]? = some (.int .i64 (szs.getD j 0 : Nat))) := rfl
        have E2 : Hid ((fel p h j)[2]? = some (.int .u64 ((vals h).getD j 0))) := rfl
        obtain ⟨el, hel⟩ : ∃ el, el = fel p h j := ⟨_, rfl⟩
        rw [← hel] at EL EO E0 E1 E2 hrange
        obtain ⟨off, hoff⟩ : ∃ off, off = offs.getD j 0 := ⟨_, rfl⟩
        obtain ⟨sz, hsz⟩ : ∃ sz, sz = szs.getD j 0 := ⟨_, rfl⟩
        obtain ⟨n, hn⟩ : ∃ n, n = (vals h).getD j 0 := ⟨_, rfl⟩
        rw [← hoff] at E0 h1 hstep
        rw [← hsz] at E1 h1 hstep CPj
        rw [← hn] at E2 hstep CPj
        obtain ⟨_, h48, hs2, hs8⟩ := h1
        obtain ⟨row, hrow⟩ : ∃ row, row = rowH h j := ⟨_, rfl⟩
        rw [← hrow] at RR hstep hlen
        have RNG := Lib.hid hrange
        have HST := Lib.hid hstep
        have HLN := Lib.hid hlen
        have hgbl := RR.out.lt
        have hgl := BB.out.lt
        have hGl := FF.out.lt
        have hwl := LL.out.size
        clear hel hoff hsz hn hrow hrange hstep hlen CP
        go_wp2_with (first
          | ((with_reducible show wpList _ _ _ (⟨some 18, _, _, _, _, _⟩ :: _) _ _); refine wpList_load_mid rfl _ (.tmp 17) rfl G (j * 4) rfl el _ RNG.out Tryz.underlying86 rfl (by rw [size_fd, EL.out]) ?_)
          | ((with_reducible show wpList _ _ _ (⟨some 6, _, _, _, _, _⟩ :: _) _ _); refine wpList_alloc_blk rfl _ rfl zf _ ZF ?_; intro f w5 hf1 hf2 X5 L5)
          | ((with_reducible show wpList _ _ _ (⟨none, .store _ (.tmp 6) _, _, _, _, _⟩ :: _) _ _); refine wpList_store_blk rfl _ (.tmp 6) (.tmp 18) rfl f rfl _ zf el rfl X5 4 size_fd HZF EL EO ?_; intro w6 X6 O6 hf3; have gc2 := (X6.out.cell 2).trans E2.out; have gc1 := (X6.out.cell 1).trans E1.out)
          | fail)
        refine (CPj.out _).mono ?_
        rintro e w7 ⟨A', er, rfl, hh, L7⟩
        have gc0 := ((X6.out.over L7).cell 0).trans E0.out
        have L6 : Hid (Below wr.heap.size wr w6) := below_only L5.out O6.out hf1
        have L67 : Hid (Below wr.heap.size wr w7) := step L6.out L7
        have R7 : Hid (Blk w7 gb 5 (row.map (Value.int .u8))) := RR.out.over L67.out
        have F7 : Hid (Blk w7 G 86 (fcells p h)) := FF.out.over L67.out
        have B7 : Hid (Blk w7 g 28 cs) := BB.out.over L67.out
        have L77 := Lib.hid (step LL.out L67.out)
        have HFIT : Hid (off + sz ≤ (row.map (Value.int .u8)).length) := by show _ ≤ _; rw [List.length_map, HLN.out]; omega
        have HLE : Hid ((le n sz).length = sz) := le_length _ _
        obtain ⟨xs, hxs⟩ : ∃ xs, xs = le n sz := ⟨_, rfl⟩
        rw [← hxs] at hh HST HLE
        clear RR FF BB LL L5 O6 L6 L67 L7 X5 X6 gc2 gc1 RNG hxs CPj
        go_wp2_with (first
          | ((with_reducible show wpList _ _ _ (⟨some 32, _, _, _, _, _⟩ :: _) _ _); refine wpList_copy_mid rfl (.tmp 30) (.tmp 31) rfl gb off 5 (64 - off) (64 - off) sz sz A' (by first | rfl | (show Value.slice _ _ _ = _; simp [Addr.add_mid])) rfl _ xs _ R7 hh (by omega) (by omega) HFIT ?_; intro w8 R8 O8)
          | fail)
        have R8' : Hid (Row w8 gb (rowH h (j + 1))) := by
          have := R8.out
          rw [spliced_row, HLE.out, HST.out] at this
          exact this
        have F8 : Hid (Blk w8 G 86 (fcells p h)) := F7.out.only O8.out (by omega)
        have B8 : Hid (Blk w8 g 28 cs) := B7.out.only O8.out (by omega)
        have L8 : Hid (Below w.heap.size w w8) := below_only L77.out O8.out (by omega)
        clear R8 R7 F7 B7 L77 O8
        go_roundw
        case rel => exact ⟨j + 1, by omega, by go_num, R8', F8, B8, L8⟩
        case measure => simp [intOf]; omega
      · obtain rfl : j = 11 := by omega
        have RRd : Hid (Blk wr.drew gb 5 ((rowH h 11).map (Value.int .u8))) := RR.out
        have BBd : HB wr.drew g h := HB.of HC.out BB.out
        have SG := Lib.hid (BBd.sig HK.out)
        have LLd : Hid (Below w.heap.size w wr.drew) := LL.out.drew
        have HFIT : Hid (48 + 16 ≤ ((rowH h 11).map (Value.int .u8)).length) := by show _ ≤ _; rw [List.length_map, rowH_len h 11 (by omega)]; omega
        have HE : Hid ((rowH h 11).take 48 ++ h.sg ++ (rowH h 11).drop (48 + h.sg.length) = putH h) := by show _ = _; rw [HK.out.len]; exact rowH_last h
        obtain ⟨row, hrow⟩ : ∃ row, row = rowH h 11 := ⟨_, rfl⟩
        rw [← hrow] at RRd HFIT HE
        clear hrow RR FF BB LL BBd hj
        go_upto_region 10 with fail
        go_region_law ((refine step_copy_mid rfl (.tmp 35) (.tmp 37) rfl gb 48 5 16 16 16 16 (some ⟨g, 10, none⟩) rfl rfl _ h.sg _ RRd SG.out (by decide) (by decide) HFIT ?_; intro w5 R5 O5))
        go_wp2
        go_ret2
        refine HQ.out _ _ ⟨_, rfl, .inr ⟨gb, rfl, hgw, ?_⟩, below_only LLd.out O5.out hgw⟩
        have := R5.out
        rw [spliced_row, HE.out] at this
        exact this
  · have hm' : mayP h = false := by simpa using hm
    have HQ : Hid (∀ e w', (e = .returned (.tuple #[.slice none 0 0, .int .i64 2]) ∧ Below w.heap.size w w') → PutHPost w h e w') := by
      rintro e w' ⟨rfl, hb⟩
      unfold PutHPost putOfH putErrH
      rw [if_neg hm, if_neg hm]
      exact ⟨none, rfl, .inl ⟨rfl, rfl⟩, hb⟩
    rw [hm'] at CM
    obtain ⟨cs, hcs⟩ : ∃ cs, cs = hcells h := ⟨_, rfl⟩
    unfold hv at CM ⊢
    rw [← hcs] at CM HL ⊢
    clear hm hm' k hcs
    go_enter Tryz.func33, Tryz.ntmps33
    go_wp2_with (first
      | ((with_reducible show wpList _ _ _ (⟨some 1, _, _, _, _, _⟩ :: _) _ _); refine wpList_box_blk rfl _ (.tmp 0) rfl cs rfl ?_; intro g w1 hg1 hg2 B1 L1)
      | ((with_reducible show wpList _ _ _ (⟨some 9, _, _, _, _, _⟩ :: _) _ _); refine wpList_load_blk rfl _ (.tmp 1) rfl g rfl _ cs B1 26 _ Tryz.underlying28 rfl size_hd HL ?_)
      | fail)
    refine (CM.out _).mono ?_
    rintro e w2 ⟨rfl, L2⟩
    go_wp2
    go_ret2
    exact HQ.out _ _ ⟨rfl, step L1.out L2⟩
end Go.Proofs.YtpodpmckdiijhaaGreatDoor

namespace Go.Proofs.YtpodpmckdiijhaaGreatDoor
set_option linter.all false
set_option maxRecDepth 100000
open Go.RowKit
theorem Save.over {w w' w2 : World} {g : Nat} (a : Save g w w') (hb : Below w'.heap.size w' w2) : Save g w w2 := a.trans (Save.of_below hb g)
set_option maxHeartbeats 400000 in
theorem take2_any (w : World) (p g : Nat) (h : Hd) (n : Int) (k : h.ok) (hn0 : 0 ≤ n) (hn1 : n ≤ 65535) (B : HB w g h) (Pp : Blk w p 83 [.pointer (some ⟨g, 0, none⟩)]) :
    Calls Tryz.prog 91 #[.int .u64 n, .pointer (some ⟨p, 0, none⟩)] w fun e w' => e = .returned (.tuple #[]) ∧ HB w' g { h with ch := n } ∧ Save g w w' := by
  have hw : IntKind.u16.wrap n = n := by rw [IntKind.wrap_u16]; omega
  have gp := Pp.cell 0
  have HL := Lib.hid (hcells_len k)
  have HE : Hid ((hcells h).set 0 (.int .u16 n) = hcells { h with ch := n }) := rfl
  obtain ⟨cs, hcs⟩ : ∃ cs, cs = hcells h := ⟨_, rfl⟩
  obtain ⟨ds, hds⟩ : ∃ ds, ds = hcells { h with ch := n } := ⟨_, rfl⟩
  have HD := Lib.hid hds
  have BB : Hid (Blk w g 28 cs) := by rw [hcs]; exact B
  rw [← hcs, ← hds] at HE
  rw [← hcs] at HL
  clear hcs hds B Pp k
  go_enter Tryz.func91, Tryz.ntmps91
  go_wp2_with (((with_reducible show wpList _ _ _ (⟨none, .store _ (.tmp 7) _, _, _, _, _⟩ :: _) _ _); refine wpList_store_fld rfl _ (.tmp 7) (.tmp 5) rfl g 0 rfl _ cs (.int .u16 n) rfl BB (by have := HL.out; show 0 < _; omega) (by kernel_rfl) rfl ?_; intro w1 B1 O1 hg1; rw [HE.out] at B1))
  go_end0
  exact ⟨rfl, HB.of HD.out B1.out, Save.of_only O1.out⟩
set_option maxHeartbeats 400000 in
theorem take3_any (w : World) (p g : Nat) (h : Hd) (n : Int) (k : h.ok) (hn0 : 0 ≤ n) (hn1 : n ≤ 4294967295) (B : HB w g h) (Pp : Blk w p 83 [.pointer (some ⟨g, 0, none⟩)]) :
    Calls Tryz.prog 92 #[.int .u64 n, .pointer (some ⟨p, 0, none⟩)] w fun e w' => e = .returned (.tuple #[]) ∧ HB w' g { h with st := n } ∧ Save g w w' := by
  have hw : IntKind.u32.wrap n = n := by rw [IntKind.wrap_u32']; omega
  have gp := Pp.cell 0
  have HL := Lib.hid (hcells_len k)
  have HE : Hid ((hcells h).set 1 (.int .u32 n) = hcells { h with st := n }) := rfl
  obtain ⟨cs, hcs⟩ : ∃ cs, cs = hcells h := ⟨_, rfl⟩
  obtain ⟨ds, hds⟩ : ∃ ds, ds = hcells { h with st := n } := ⟨_, rfl⟩
  have HD := Lib.hid hds
  have BB : Hid (Blk w g 28 cs) := by rw [hcs]; exact B
  rw [← hcs, ← hds] at HE
  rw [← hcs] at HL
  clear hcs hds B Pp k
  go_enter Tryz.func92, Tryz.ntmps92
  go_wp2_with (((with_reducible show wpList _ _ _ (⟨none, .store _ (.tmp 7) _, _, _, _, _⟩ :: _) _ _); refine wpList_store_fld rfl _ (.tmp 7) (.tmp 5) rfl g 1 rfl _ cs (.int .u32 n) rfl BB (by have := HL.out; show 1 < _; omega) (by kernel_rfl) rfl ?_; intro w1 B1 O1 hg1; rw [HE.out] at B1))
  go_end0
  exact ⟨rfl, HB.of HD.out B1.out, Save.of_only O1.out⟩
set_option maxHeartbeats 400000 in
theorem take4_any (w : World) (p g : Nat) (h : Hd) (n : Int) (k : h.ok) (hn0 : 0 ≤ n) (hn1 : n ≤ 65535) (B : HB w g h) (Pp : Blk w p 83 [.pointer (some ⟨g, 0, none⟩)]) :
    Calls Tryz.prog 93 #[.int .u64 n, .pointer (some ⟨p, 0, none⟩)] w fun e w' => e = .returned (.tuple #[]) ∧ HB w' g { h with cm := n } ∧ Save g w w' := by
  have hw : IntKind.u16.wrap n = n := by rw [IntKind.wrap_u16]; omega
  have gp := Pp.cell 0
  have HL := Lib.hid (hcells_len k)
  have HE : Hid ((hcells h).set 2 (.int .u16 n) = hcells { h with cm := n }) := rfl
  obtain ⟨cs, hcs⟩ : ∃ cs, cs = hcells h := ⟨_, rfl⟩
  obtain ⟨ds, hds⟩ : ∃ ds, ds = hcells { h with cm := n } := ⟨_, rfl⟩
  have HD := Lib.hid hds
  have BB : Hid (Blk w g 28 cs) := by rw [hcs]; exact B
  rw [← hcs, ← hds] at HE
  rw [← hcs] at HL
  clear hcs hds B Pp k
  go_enter Tryz.func93, Tryz.ntmps93
  go_wp2_with (((with_reducible show wpList _ _ _ (⟨none, .store _ (.tmp 7) _, _, _, _, _⟩ :: _) _ _); refine wpList_store_fld rfl _ (.tmp 7) (.tmp 5) rfl g 2 rfl _ cs (.int .u16 n) rfl BB (by have := HL.out; show 2 < _; omega) (by kernel_rfl) rfl ?_; intro w1 B1 O1 hg1; rw [HE.out] at B1))
  go_end0
  exact ⟨rfl, HB.of HD.out B1.out, Save.of_only O1.out⟩
set_option maxHeartbeats 400000 in
theorem take5_any (w : World) (p g : Nat) (h : Hd) (n : Int) (k : h.ok) (hn0 : 0 ≤ n) (hn1 : n ≤ 65535) (B : HB w g h) (Pp : Blk w p 83 [.pointer (some ⟨g, 0, none⟩)]) :
    Calls Tryz.prog 94 #[.int .u64 n, .pointer (some ⟨p, 0, none⟩)] w fun e w' => e = .returned (.tuple #[]) ∧ HB w' g { h with cr := n } ∧ Save g w w' := by
  have hw : IntKind.u16.wrap n = n := by rw [IntKind.wrap_u16]; omega
  have gp := Pp.cell 0
  have HL := Lib.hid (hcells_len k)
  have HE : Hid ((hcells h).set 3 (.int .u16 n) = hcells { h with cr := n }) := rfl
  obtain ⟨cs, hcs⟩ : ∃ cs, cs = hcells h := ⟨_, rfl⟩
  obtain ⟨ds, hds⟩ : ∃ ds, ds = hcells { h with cr := n } := ⟨_, rfl⟩
  have HD := Lib.hid hds
  have BB : Hid (Blk w g 28 cs) := by rw [hcs]; exact B
  rw [← hcs, ← hds] at HE
  rw [← hcs] at HL
  clear hcs hds B Pp k
  go_enter Tryz.func94, Tryz.ntmps94
  go_wp2_with (((with_reducible show wpList _ _ _ (⟨none, .store _ (.tmp 7) _, _, _, _, _⟩ :: _) _ _); refine wpList_store_fld rfl _ (.tmp 7) (.tmp 5) rfl g 3 rfl _ cs (.int .u16 n) rfl BB (by have := HL.out; show 3 < _; omega) (by kernel_rfl) rfl ?_; intro w1 B1 O1 hg1; rw [HE.out] at B1))
  go_end0
  exact ⟨rfl, HB.of HD.out B1.out, Save.of_only O1.out⟩
set_option maxHeartbeats 400000 in
theorem take6_any (w : World) (p g : Nat) (h : Hd) (n : Int) (k : h.ok) (hn0 : 0 ≤ n) (hn1 : n ≤ 4294967295) (B : HB w g h) (Pp : Blk w p 83 [.pointer (some ⟨g, 0, none⟩)]) :
    Calls Tryz.prog 95 #[.int .u64 n, .pointer (some ⟨p, 0, none⟩)] w fun e w' => e = .returned (.tuple #[]) ∧ HB w' g { h with fl := n } ∧ Save g w w' := by
  have hw : IntKind.u32.wrap n = n := by rw [IntKind.wrap_u32']; omega
  have gp := Pp.cell 0
  have HL := Lib.hid (hcells_len k)
  have HE : Hid ((hcells h).set 4 (.int .u32 n) = hcells { h with fl := n }) := rfl
  obtain ⟨cs, hcs⟩ : ∃ cs, cs = hcells h := ⟨_, rfl⟩
  obtain ⟨ds, hds⟩ : ∃ ds, ds = hcells { h with fl := n } := ⟨_, rfl⟩
  have HD := Lib.hid hds
  have BB : Hid (Blk w g 28 cs) := by rw [hcs]; exact B
  rw [← hcs, ← hds] at HE
  rw [← hcs] at HL
  clear hcs hds B Pp k
  go_enter Tryz.func95, Tryz.ntmps95
  go_wp2_with (((with_reducible show wpList _ _ _ (⟨none, .store _ (.tmp 7) _, _, _, _, _⟩ :: _) _ _); refine wpList_store_fld rfl _ (.tmp 7) (.tmp 5) rfl g 4 rfl _ cs (.int .u32 n) rfl BB (by have := HL.out; show 4 < _; omega) (by kernel_rfl) rfl ?_; intro w1 B1 O1 hg1; rw [HE.out] at B1))
  go_end0
  exact ⟨rfl, HB.of HD.out B1.out, Save.of_only O1.out⟩
set_option maxHeartbeats 400000 in
theorem take7_any (w : World) (p g : Nat) (h : Hd) (n : Int) (k : h.ok) (hn0 : 0 ≤ n) (hn1 : n ≤ 4294967295) (B : HB w g h) (Pp : Blk w p 83 [.pointer (some ⟨g, 0, none⟩)]) :
    Calls Tryz.prog 96 #[.int .u64 n, .pointer (some ⟨p, 0, none⟩)] w fun e w' => e = .returned (.tuple #[]) ∧ HB w' g { h with nx := n } ∧ Save g w w' := by
  have hw : IntKind.u32.wrap n = n := by rw [IntKind.wrap_u32']; omega
  have gp := Pp.cell 0
  have HL := Lib.hid (hcells_len k)
  have HE : Hid ((hcells h).set 5 (.int .u32 n) = hcells { h with nx := n }) := rfl
  obtain ⟨cs, hcs⟩ : ∃ cs, cs = hcells h := ⟨_, rfl⟩
  obtain ⟨ds, hds⟩ : ∃ ds, ds = hcells { h with nx := n } := ⟨_, rfl⟩
  have HD := Lib.hid hds
  have BB : Hid (Blk w g 28 cs) := by rw [hcs]; exact B
  rw [← hcs, ← hds] at HE
  rw [← hcs] at HL
  clear hcs hds B Pp k
  go_enter Tryz.func96, Tryz.ntmps96
  go_wp2_with (((with_reducible show wpList _ _ _ (⟨none, .store _ (.tmp 7) _, _, _, _, _⟩ :: _) _ _); refine wpList_store_fld rfl _ (.tmp 7) (.tmp 5) rfl g 5 rfl _ cs (.int .u32 n) rfl BB (by have := HL.out; show 5 < _; omega) (by kernel_rfl) rfl ?_; intro w1 B1 O1 hg1; rw [HE.out] at B1))
  go_end0
  exact ⟨rfl, HB.of HD.out B1.out, Save.of_only O1.out⟩
set_option maxHeartbeats 400000 in
theorem take8_any (w : World) (p g : Nat) (h : Hd) (n : Int) (k : h.ok) (_ : 0 ≤ n) (_ : n ≤ 18446744073709551615) (B : HB w g h) (Pp : Blk w p 83 [.pointer (some ⟨g, 0, none⟩)]) :
    Calls Tryz.prog 97 #[.int .u64 n, .pointer (some ⟨p, 0, none⟩)] w fun e w' => e = .returned (.tuple #[]) ∧ HB w' g { h with id := n } ∧ Save g w w' := by
  have gp := Pp.cell 0
  have HL := Lib.hid (hcells_len k)
  have HE : Hid ((hcells h).set 6 (.int .u64 n) = hcells { h with id := n }) := rfl
  obtain ⟨cs, hcs⟩ : ∃ cs, cs = hcells h := ⟨_, rfl⟩
  obtain ⟨ds, hds⟩ : ∃ ds, ds = hcells { h with id := n } := ⟨_, rfl⟩
  have HD := Lib.hid hds
  have BB : Hid (Blk w g 28 cs) := by rw [hcs]; exact B
  rw [← hcs, ← hds] at HE
  rw [← hcs] at HL
  clear hcs hds B Pp k
  go_enter Tryz.func97, Tryz.ntmps97
  go_wp2_with (((with_reducible show wpList _ _ _ (⟨none, .store _ (.tmp 6) _, _, _, _, _⟩ :: _) _ _); refine wpList_store_fld rfl _ (.tmp 6) (.tmp 4) rfl g 6 rfl _ cs (.int .u64 n) rfl BB (by have := HL.out; show 6 < _; omega) (by kernel_rfl) rfl ?_; intro w1 B1 O1 hg1; rw [HE.out] at B1))
  go_end0
  exact ⟨rfl, HB.of HD.out B1.out, Save.of_only O1.out⟩
set_option maxHeartbeats 400000 in
theorem take10_any (w : World) (p g : Nat) (h : Hd) (n : Int) (k : h.ok) (_ : 0 ≤ n) (_ : n ≤ 18446744073709551615) (B : HB w g h) (Pp : Blk w p 83 [.pointer (some ⟨g, 0, none⟩)]) :
    Calls Tryz.prog 101 #[.int .u64 n, .pointer (some ⟨p, 0, none⟩)] w fun e w' => e = .returned (.tuple #[]) ∧ HB w' g { h with se := n } ∧ Save g w w' := by
  have gp := Pp.cell 0
  have HL := Lib.hid (hcells_len k)
  have HE : Hid ((hcells h).set 9 (.int .u64 n) = hcells { h with se := n }) := rfl
  obtain ⟨cs, hcs⟩ : ∃ cs, cs = hcells h := ⟨_, rfl⟩
  obtain ⟨ds, hds⟩ : ∃ ds, ds = hcells { h with se := n } := ⟨_, rfl⟩
  have HD := Lib.hid hds
  have BB : Hid (Blk w g 28 cs) := by rw [hcs]; exact B
  rw [← hcs, ← hds] at HE
  rw [← hcs] at HL
  clear hcs hds B Pp k
  go_enter Tryz.func101, Tryz.ntmps101
  go_wp2_with (((with_reducible show wpList _ _ _ (⟨none, .store _ (.tmp 6) _, _, _, _, _⟩ :: _) _ _); refine wpList_store_fld rfl _ (.tmp 6) (.tmp 4) rfl g 9 rfl _ cs (.int .u64 n) rfl BB (by have := HL.out; show 9 < _; omega) (by kernel_rfl) rfl ?_; intro w1 B1 O1 hg1; rw [HE.out] at B1))
  go_end0
  exact ⟨rfl, HB.of HD.out B1.out, Save.of_only O1.out⟩
set_option maxHeartbeats 400000 in
theorem take0_any (w : World) (n : Int) : Calls Tryz.prog 90 #[.int .u64 n] w fun e w' => e = .returned (.tuple #[]) ∧ w = w' := by
  go_enter Tryz.func90, Tryz.ntmps90
  go_wp2
  go_end0
  exact ⟨rfl, rfl⟩
/-- a head that takes Async or Tree -/
def setAT (n : Int) (h : Hd) : Hd := if isAs h.fl = true then { h with asy := n } else { h with tr := n / 4294967296 }
set_option maxHeartbeats 400000 in
theorem takeAT_any (w : World) (g : Nat) (h : Hd) (n : Int) (k : h.ok) (hn0 : 0 ≤ n) (hn1 : n ≤ 18446744073709551615) (B : HB w g h) :
    Calls Tryz.prog 100 #[.pointer (some ⟨g, 0, none⟩), .int .u64 n] w fun e w' => e = .returned (.tuple #[]) ∧ HB w' g (setAT n h) ∧ Save g w w' := by
  have C0 : Hid (∀ w : World, Calls Tryz.prog 137 #[hv h] w fun e w' => e = .returned (.bool (isAs h.fl)) ∧ Below w.heap.size w w') := fun w => isAsync_any w h k
  have hw : IntKind.u32.wrap (n / 4294967296) = n / 4294967296 := by rw [IntKind.wrap_u32']; omega
  have HL := Lib.hid (hcells_len k)
  have h7 : isAs h.fl = true → (hcells h).set 7 (.int .u64 n) = hcells (setAT n h) := fun hi => by unfold setAT; rw [if_pos hi]; rfl
  have h8 : isAs h.fl = false → (hcells h).set 8 (.int .u32 (n / 4294967296)) = hcells (setAT n h) := fun hi => by unfold setAT; rw [if_neg (by rw [hi]; decide)]; rfl
  obtain ⟨cs, hcs⟩ : ∃ cs, cs = hcells h := ⟨_, rfl⟩
  obtain ⟨ds, hds⟩ : ∃ ds, ds = hcells (setAT n h) := ⟨_, rfl⟩
  have HD := Lib.hid hds
  have BB : Hid (Blk w g 28 cs) := by rw [hcs]; exact B
  unfold hv at C0
  rw [← hcs] at HL C0 h7 h8
  rw [← hds] at h7 h8
  clear hcs hds B k
  by_cases hi : isAs h.fl = true
  · rw [hi] at C0
    have HE := Lib.hid (h7 hi)
    clear hi h7 h8
    go_enter Tryz.func100, Tryz.ntmps100
    go_wp2_with (first
      | ((with_reducible show wpList _ _ _ (⟨some 6, _, _, _, _, _⟩ :: _) _ _); refine wpList_load_blk rfl _ (.tmp 5) rfl g rfl _ cs BB 26 _ Tryz.underlying28 rfl size_hd HL ?_)
      | fail)
    refine (C0.out _).mono ?_
    rintro e w2 ⟨rfl, L2⟩
    have B2 := Lib.hid (BB.out.over L2)
    go_wp2_with (((with_reducible show wpList _ _ _ (⟨none, .store _ (.tmp 11) _, _, _, _, _⟩ :: _) _ _); refine wpList_store_fld rfl _ (.tmp 11) (.tmp 9) rfl g 7 rfl _ cs (.int .u64 n) rfl B2 (by have := HL.out; show 7 < _; omega) (by kernel_rfl) rfl ?_; intro w3 B3 O3 hg3; rw [HE.out] at B3))
    go_end0
    exact ⟨rfl, HB.of HD.out B3.out, (Save.of_below L2 g).trans (Save.of_only O3.out)⟩
  · have hi' : isAs h.fl = false := by simpa using hi
    rw [hi'] at C0
    have HE := Lib.hid (h8 hi')
    clear hi hi' h7 h8
    go_enter Tryz.func100, Tryz.ntmps100
    go_wp2_with (first
      | ((with_reducible show wpList _ _ _ (⟨some 6, _, _, _, _, _⟩ :: _) _ _); refine wpList_load_blk rfl _ (.tmp 5) rfl g rfl _ cs BB 26 _ Tryz.underlying28 rfl size_hd HL ?_)
      | fail)
    refine (C0.out _).mono ?_
    rintro e w2 ⟨rfl, L2⟩
    have B2 := Lib.hid (BB.out.over L2)
    go_wp2_with (((with_reducible show wpList _ _ _ (⟨none, .store _ (.tmp 17) _, _, _, _, _⟩ :: _) _ _); refine wpList_store_fld rfl _ (.tmp 17) (.tmp 15) rfl g 8 rfl _ cs (.int .u32 (n / 4294967296)) rfl B2 (by have := HL.out; show 8 < _; omega) (by kernel_rfl) rfl ?_; intro w3 B3 O3 hg3; rw [HE.out] at B3))
    go_end0
    exact ⟨rfl, HB.of HD.out B3.out, (Save.of_below L2 g).trans (Save.of_only O3.out)⟩
set_option maxHeartbeats 400000 in
theorem take9_any (w : World) (p g : Nat) (h : Hd) (n : Int) (k : h.ok) (hn0 : 0 ≤ n) (hn1 : n ≤ 18446744073709551615) (B : HB w g h) (Pp : Blk w p 83 [.pointer (some ⟨g, 0, none⟩)]) :
    Calls Tryz.prog 99 #[.int .u64 n, .pointer (some ⟨p, 0, none⟩)] w fun e w' => e = .returned (.tuple #[]) ∧ HB w' g (setAT n h) ∧ Save g w w' := by
  have C0 := Lib.hid (takeAT_any w g h n k hn0 hn1 B)
  have gp := Pp.cell 0
  clear B Pp k
  go_enter Tryz.func99, Tryz.ntmps99
  go_wp2_with fail
  refine C0.out.mono ?_
  rintro e w2 ⟨rfl, B2, S2⟩
  go_wp2
  go_end0
  exact ⟨rfl, B2, S2⟩
theorem args_lo {j : Nat} (a b : Value) (h : j < 2) : (#[a] ++ (if j < 2 then #[] else #[b])) = #[a] := by rw [if_pos h]; rfl
theorem args_hi {j : Nat} (a b : Value) (h : ¬ j < 2) : (#[a] ++ (if j < 2 then #[] else #[b])) = #[a, b] := by rw [if_neg h]; rfl
/-- number j of a head, taken by its function -/
def TakeK (w : World) (p g : Nat) (h : Hd) (n : Int) (j : Nat) : Prop :=
  Calls Tryz.prog (fnk j) (#[.int .u64 n] ++ (if j < 2 then #[] else #[.pointer (some ⟨p, 0, none⟩)])) w fun e w' => e = .returned (.tuple #[]) ∧ HB w' g (setK j n h) ∧ Save g w w'
theorem takeK0 (w : World) (p g : Nat) (h : Hd) (n : Int) (B : HB w g h) : TakeK w p g h n 0 := by
  unfold TakeK
  rw [args_lo _ _ (by decide), show fnk 0 = 90 from rfl, show setK 0 n h = h from rfl]
  exact (take0_any w n).mono fun e w' ⟨he, hw⟩ => ⟨he, hw ▸ B, hw ▸ Save.refl _ _⟩
theorem takeK1 (w : World) (p g : Nat) (h : Hd) (n : Int) (B : HB w g h) : TakeK w p g h n 1 := by
  unfold TakeK
  rw [args_lo _ _ (by decide), show fnk 1 = 90 from rfl, show setK 1 n h = h from rfl]
  exact (take0_any w n).mono fun e w' ⟨he, hw⟩ => ⟨he, hw ▸ B, hw ▸ Save.refl _ _⟩
theorem takeK2 (w : World) (p g : Nat) (h : Hd) (n : Int) (k : h.ok) (hn0 : 0 ≤ n) (hn1 : n < 256 ^ 2) (B : HB w g h) (Pp : Blk w p 83 [.pointer (some ⟨g, 0, none⟩)]) : TakeK w p g h n 2 := by
  unfold TakeK
  rw [args_hi _ _ (by decide), show fnk 2 = 91 from rfl, show setK 2 n h = { h with ch := n } from rfl]
  have e : (256 : Int) ^ 2 = 65536 := by decide
  exact take2_any w p g h n k hn0 (by omega) B Pp
theorem takeK3 (w : World) (p g : Nat) (h : Hd) (n : Int) (k : h.ok) (hn0 : 0 ≤ n) (hn1 : n < 256 ^ 4) (B : HB w g h) (Pp : Blk w p 83 [.pointer (some ⟨g, 0, none⟩)]) : TakeK w p g h n 3 := by
  unfold TakeK
  rw [args_hi _ _ (by decide), show fnk 3 = 92 from rfl, show setK 3 n h = { h with st := n } from rfl]
  have e : (256 : Int) ^ 4 = 4294967296 := by decide
  exact take3_any w p g h n k hn0 (by omega) B Pp
theorem takeK4 (w : World) (p g : Nat) (h : Hd) (n : Int) (k : h.ok) (hn0 : 0 ≤ n) (hn1 : n < 256 ^ 2) (B : HB w g h) (Pp : Blk w p 83 [.pointer (some ⟨g, 0, none⟩)]) : TakeK w p g h n 4 := by
  unfold TakeK
  rw [args_hi _ _ (by decide), show fnk 4 = 93 from rfl, show setK 4 n h = { h with cm := n } from rfl]
  have e : (256 : Int) ^ 2 = 65536 := by decide
  exact take4_any w p g h n k hn0 (by omega) B Pp
theorem takeK5 (w : World) (p g : Nat) (h : Hd) (n : Int) (k : h.ok) (hn0 : 0 ≤ n) (hn1 : n < 256 ^ 2) (B : HB w g h) (Pp : Blk w p 83 [.pointer (some ⟨g, 0, none⟩)]) : TakeK w p g h n 5 := by
  unfold TakeK
  rw [args_hi _ _ (by decide), show fnk 5 = 94 from rfl, show setK 5 n h = { h with cr := n } from rfl]
  have e : (256 : Int) ^ 2 = 65536 := by decide
  exact take5_any w p g h n k hn0 (by omega) B Pp
theorem takeK6 (w : World) (p g : Nat) (h : Hd) (n : Int) (k : h.ok) (hn0 : 0 ≤ n) (hn1 : n < 256 ^ 4) (B : HB w g h) (Pp : Blk w p 83 [.pointer (some ⟨g, 0, none⟩)]) : TakeK w p g h n 6 := by
  unfold TakeK
  rw [args_hi _ _ (by decide), show fnk 6 = 95 from rfl, show setK 6 n h = { h with fl := n } from rfl]
  have e : (256 : Int) ^ 4 = 4294967296 := by decide
  exact take6_any w p g h n k hn0 (by omega) B Pp
theorem takeK7 (w : World) (p g : Nat) (h : Hd) (n : Int) (k : h.ok) (hn0 : 0 ≤ n) (hn1 : n < 256 ^ 4) (B : HB w g h) (Pp : Blk w p 83 [.pointer (some ⟨g, 0, none⟩)]) : TakeK w p g h n 7 := by
  unfold TakeK
  rw [args_hi _ _ (by decide), show fnk 7 = 96 from rfl, show setK 7 n h = { h with nx := n } from rfl]
  have e : (256 : Int) ^ 4 = 4294967296 := by decide
  exact take7_any w p g h n k hn0 (by omega) B Pp
theorem takeK8 (w : World) (p g : Nat) (h : Hd) (n : Int) (k : h.ok) (hn0 : 0 ≤ n) (hn1 : n < 256 ^ 8) (B : HB w g h) (Pp : Blk w p 83 [.pointer (some ⟨g, 0, none⟩)]) : TakeK w p g h n 8 := by
  unfold TakeK
  rw [args_hi _ _ (by decide), show fnk 8 = 97 from rfl, show setK 8 n h = { h with id := n } from rfl]
  have e : (256 : Int) ^ 8 = 18446744073709551616 := by decide
  exact take8_any w p g h n k hn0 (by omega) B Pp
theorem takeK9 (w : World) (p g : Nat) (h : Hd) (n : Int) (k : h.ok) (hn0 : 0 ≤ n) (hn1 : n < 256 ^ 8) (B : HB w g h) (Pp : Blk w p 83 [.pointer (some ⟨g, 0, none⟩)]) : TakeK w p g h n 9 := by
  unfold TakeK
  rw [args_hi _ _ (by decide), show fnk 9 = 99 from rfl, show setK 9 n h = setAT n h from rfl]
  have e : (256 : Int) ^ 8 = 18446744073709551616 := by decide
  exact take9_any w p g h n k hn0 (by omega) B Pp
theorem takeK10 (w : World) (p g : Nat) (h : Hd) (n : Int) (k : h.ok) (hn0 : 0 ≤ n) (hn1 : n < 256 ^ 8) (B : HB w g h) (Pp : Blk w p 83 [.pointer (some ⟨g, 0, none⟩)]) : TakeK w p g h n 10 := by
  unfold TakeK
  rw [args_hi _ _ (by decide), show fnk 10 = 101 from rfl, show setK 10 n h = { h with se := n } from rfl]
  have e : (256 : Int) ^ 8 = 18446744073709551616 := by decide
  exact take10_any w p g h n k hn0 (by omega) B Pp
theorem takek_any (w : World) (p g : Nat) (h : Hd) (n : Int) (k : h.ok) (j : Nat) (hj : j < 11) (hn0 : 0 ≤ n) (hn1 : n < 256 ^ szs.getD j 0) (B : HB w g h) (Pp : Blk w p 83 [.pointer (some ⟨g, 0, none⟩)]) : TakeK w p g h n j := by
  match j, hj, hn1 with
  | 0, _, _ => exact takeK0 w p g h n B
  | 1, _, _ => exact takeK1 w p g h n B
  | 2, _, hn1 => exact takeK2 w p g h n k hn0 hn1 B Pp
  | 3, _, hn1 => exact takeK3 w p g h n k hn0 hn1 B Pp
  | 4, _, hn1 => exact takeK4 w p g h n k hn0 hn1 B Pp
  | 5, _, hn1 => exact takeK5 w p g h n k hn0 hn1 B Pp
  | 6, _, hn1 => exact takeK6 w p g h n k hn0 hn1 B Pp
  | 7, _, hn1 => exact takeK7 w p g h n k hn0 hn1 B Pp
  | 8, _, hn1 => exact takeK8 w p g h n k hn0 hn1 B Pp
  | 9, _, hn1 => exact takeK9 w p g h n k hn0 hn1 B Pp
  | 10, _, hn1 => exact takeK10 w p g h n k hn0 hn1 B Pp
theorem setK_ok {h : Hd} (k : h.ok) (j : Nat) (hj : j < 11) (n : Int) (hn0 : 0 ≤ n) (hn1 : n < 256 ^ szs.getD j 0) : (setK j n h).ok := by
  have e2 : (256 : Int) ^ 2 = 65536 := by decide
  have e4 : (256 : Int) ^ 4 = 4294967296 := by decide
  have e8 : (256 : Int) ^ 8 = 18446744073709551616 := by decide
  revert hn1
  refine eleven (p := fun j => n < 256 ^ szs.getD j 0 → (setK j n h).ok) ?_ ?_ ?_ ?_ ?_ ?_ ?_ ?_ ?_ ?_ ?_ j hj <;> intro hn1
  · exact k
  · exact k
  · change n < 256 ^ 2 at hn1; exact ⟨by show 0 ≤ n ∧ n ≤ _; omega, k.st, k.cm, k.cr, k.fl, k.nx, k.id, k.asy, k.tr, k.se, k.len, k.byte⟩
  · change n < 256 ^ 4 at hn1; exact ⟨k.ch, by show 0 ≤ n ∧ n ≤ _; omega, k.cm, k.cr, k.fl, k.nx, k.id, k.asy, k.tr, k.se, k.len, k.byte⟩
  · change n < 256 ^ 2 at hn1; exact ⟨k.ch, k.st, by show 0 ≤ n ∧ n ≤ _; omega, k.cr, k.fl, k.nx, k.id, k.asy, k.tr, k.se, k.len, k.byte⟩
  · change n < 256 ^ 2 at hn1; exact ⟨k.ch, k.st, k.cm, by show 0 ≤ n ∧ n ≤ _; omega, k.fl, k.nx, k.id, k.asy, k.tr, k.se, k.len, k.byte⟩
  · change n < 256 ^ 4 at hn1; exact ⟨k.ch, k.st, k.cm, k.cr, by show 0 ≤ n ∧ n ≤ _; omega, k.nx, k.id, k.asy, k.tr, k.se, k.len, k.byte⟩
  · change n < 256 ^ 4 at hn1; exact ⟨k.ch, k.st, k.cm, k.cr, k.fl, by show 0 ≤ n ∧ n ≤ _; omega, k.id, k.asy, k.tr, k.se, k.len, k.byte⟩
  · change n < 256 ^ 8 at hn1; exact ⟨k.ch, k.st, k.cm, k.cr, k.fl, k.nx, by show 0 ≤ n ∧ n ≤ _; omega, k.asy, k.tr, k.se, k.len, k.byte⟩
  · change n < 256 ^ 8 at hn1
    show (if isAs h.fl = true then { h with asy := n } else { h with tr := n / 4294967296 }).ok
    split
    · exact ⟨k.ch, k.st, k.cm, k.cr, k.fl, k.nx, k.id, by show 0 ≤ n ∧ n ≤ _; omega, k.tr, k.se, k.len, k.byte⟩
    · exact ⟨k.ch, k.st, k.cm, k.cr, k.fl, k.nx, k.id, k.asy, by show 0 ≤ n / 4294967296 ∧ n / 4294967296 ≤ _; omega, k.se, k.len, k.byte⟩
  · change n < 256 ^ 8 at hn1; exact ⟨k.ch, k.st, k.cm, k.cr, k.fl, k.nx, k.id, k.asy, k.tr, by show 0 ≤ n ∧ n ≤ _; omega, k.len, k.byte⟩
theorem tk_ok (xs : List Int) (hx : Bytes xs) (j : Nat) (hj : j ≤ 11) : (tk xs j).ok := by
  induction j with
  | zero => exact zeroHd_ok
  | succ j ih =>
    have := numAt_k xs hx j
    exact setK_ok (ih (by omega)) j (by omega) _ this.1 this.2
end Go.Proofs.YtpodpmckdiijhaaGreatDoor

namespace Go.Proofs.YtpodpmckdiijhaaGreatDoor
set_option linter.all false
set_option maxRecDepth 100000
open Go.RowKit
theorem getOf_at (xs : List Int) (hl : xs.length = 64) (j : Nat) (hj : j < 11) : getOf xs (offs.getD j 0 : Nat) (szs.getD j 0 : Nat) = numAt xs (offs.getD j 0) (szs.getD j 0) := by
  have h1 := offs_step j hj
  have hp : partErr xs.length (offs.getD j 0 : Nat) (szs.getD j 0 : Nat) = 0 := by
    unfold partErr
    rw [if_neg (by omega), if_neg (by omega)]
  unfold getOf getErr numAt
  rw [if_pos (size_of j hj), if_pos hp, Int.toNat_natCast, Int.toNat_natCast]
theorem call_fnk (j : Nat) (hj : j < 11) (args : Array Value) (w : World) : (callFunc (fnk j) args).run Tryz.prog w = .ok (.enter (fnk j) args) w := by
  refine eleven (p := fun j => (callFunc (fnk j) args).run Tryz.prog w = .ok (.enter (fnk j) args) w) ?_ ?_ ?_ ?_ ?_ ?_ ?_ ?_ ?_ ?_ ?_ j hj <;> (unfold fnk; go_simp)
set_option maxRecDepth 100000 in
set_option maxHeartbeats 2000000 in
theorem taken_any (w : World) (A : Option Addr) (c : Nat) (xs : List Int) (hx : Holds w w.heap.size A 64 c xs) :
    Calls Tryz.prog 74 #[.slice A 64 c] w fun e w' => e = .returned (hv (takenP xs)) ∧ Below w.heap.size w w' := by
  have hl := hx.len
  have CF : Hid (∀ (w : World) (g : Nat), HB w g zeroHd → Calls Tryz.prog 53 #[.pointer (some ⟨g, 0, none⟩)] w (FieldsPost w g zeroHd)) := fun w g B => fields_any w g zeroHd zeroHd_ok B
  have CG : Hid (∀ (w : World) (B : Nat), Holds w B A 64 c xs → ∀ j, j < 11 → Calls Tryz.prog 124 #[.slice A 64 c, .int .i64 (offs.getD j 0 : Nat), .int .i64 (szs.getD j 0 : Nat)] w fun e w' => ∃ er, e = .returned (.tuple #[.int .u64 (numAt xs (offs.getD j 0) (szs.getD j 0)), .int .i64 er]) ∧ w = w') := fun w B hh j hj => by
    have h1 := offs_step j hj
    rw [← getOf_at xs hl j hj]
    exact (Get_any w B A 64 c xs _ _ hh (by omega) (by omega)).mono fun e w' ⟨he, hw⟩ => ⟨_, he, hw⟩
  have TK : Hid (∀ (w : World) (p g : Nat) (j : Nat), j < 11 → HB w g (tk xs j) → Blk w p 83 [.pointer (some ⟨g, 0, none⟩)] →
      Calls Tryz.prog (fnk j) (#[.int .u64 (numAt xs (offs.getD j 0) (szs.getD j 0))] ++ (if j < 2 then #[] else #[.pointer (some ⟨p, 0, none⟩)])) w fun e w' => e = .returned (.tuple #[]) ∧ HB w' g (tk xs (j + 1)) ∧ Save g w w') := fun w p g j hj B Pp => by
    have h1 := numAt_k xs hx.byte j
    exact takek_any w p g (tk xs j) _ (tk_ok xs hx.byte j (by omega)) j hj h1.1 h1.2 B Pp
  have HX := Lib.hid hx
  have ZH := Lib.hid zero_hd
  have HZ := Lib.hid (hcells_len zeroHd_ok)
  have HZO := Lib.hid (hcells_one zeroHd)
  have BH := built_hd
  have T0 : Hid (tk xs 0 = zeroHd) := rfl
  have K11 := Lib.hid (tk_ok xs hx.byte 11 (Nat.le_refl _))
  have KF : Hid ((takenP xs).ok) := takenP_ok xs hx.byte hl
  have HS : Hid (((xs.drop 48).take 16).length = 16) := by show _ = _; simp [hl]
  have HT : Hid ({ tk xs 11 with sg := (xs.drop 48).take 16 } = takenP xs) := rfl
  have SP := Lib.hid (hx.part (k := 48) (m := 16) (c' := c - 48) (by omega) (by omega) (by have := hx.fit; omega))
  have hc64 := hx.fit
  obtain ⟨zs, hzs⟩ : ∃ zs, zs = hcells zeroHd := ⟨_, rfl⟩
  have HZS := Lib.hid hzs
  rw [← hzs] at ZH HZ HZO BH
  have ZF := Lib.hid zero_fd
  obtain ⟨zf, hzf⟩ : ∃ zf, zf = fzero := ⟨_, rfl⟩
  have HZF : Hid (zf.length = 4) := by rw [hzf]; rfl
  rw [← hzf] at ZF
  obtain ⟨b, off, rfl, _, _⟩ := hx.cells (by omega)
  clear hx hl hzs hzf
  go_enter Tryz.func74, Tryz.ntmps74
  go_wp2_with (first
    | ((with_reducible show wpList _ _ _ (⟨some 2, _, _, _, _, _⟩ :: _) _ _); refine wpList_alloc_blk rfl _ rfl zs _ ZH ?_; intro g0 w1 hg1 hg2 B1 L1)
    | ((with_reducible show wpList _ _ _ (⟨some 8, _, _, _, _, _⟩ :: _) _ _); refine wpList_build_none rfl _ rfl zs BH ?_)
    | ((with_reducible show wpList _ _ _ (⟨some 3, _, _, _, _, _⟩ :: _) _ _); refine wpList_alloc_blk rfl _ rfl zs _ ZH ?_; intro g w2 hg3 hg4 X2 L2)
    | ((with_reducible show wpList _ _ _ (⟨none, .store _ (.tmp 3) _, _, _, _, _⟩ :: _) _ _); refine wpList_store_blk rfl _ (.tmp 3) (.tmp 8) rfl g rfl _ zs zs rfl X2 26 size_hd HZ HZ HZO ?_; intro w3 X3 O3 hg5)
    | fail)
  have hs2 := L2.out.size
  have L13 : Hid (Below w.heap.size w w3) := below_only (step L1.out L2.out) O3.out (by omega)
  have B3 : Hid (Blk w3 g0 28 zs) := (B1.out.over L2.out).only O3.out (by omega)
  have hgg : g0 < g := by omega
  have hgw : w.heap.size ≤ g0 := hg1
  refine (CF.out _ g (HB.of HZS.out X3.out)).mono ?_
  rintro e w4 ⟨p, G, rfl, hp, hpG, P4, F4, L4⟩
  have X4 : Hid (HB w4 g (tk xs 0)) := by rw [T0.out]; exact HB.of HZS.out (X3.out.over L4)
  have B4 : Hid (Blk w4 g0 28 zs) := B3.out.over L4
  have L14 := Lib.hid (step L13.out L4)
  have hgp : g < p := by omega
  have P4' := Lib.hid P4
  have F4' := Lib.hid F4
  clear B1 L1 X2 L2 X3 O3 L13 B3 P4 F4 L4 hs2 hg1 hg2 hg3 hg4 hg5 hp CF T0
  go_wp2_with fail
  go_loopw [5, 6, 7, 11] (fun _ _ _ i wr => ∃ j : Nat, j ≤ 11 ∧ i = .int .i64 j ∧ Hid (HB wr g (tk xs j)) ∧ Hid (Blk wr G 86 (fcells p zeroHd)) ∧ Hid (Blk wr p 83 [.pointer (some ⟨g, 0, none⟩)]) ∧ Hid (Blk wr g0 28 zs) ∧ Hid (Below w.heap.size w wr)) (fun _ _ _ i _ => 11 - (intOf i).toNat)
  case atStart => exact ⟨0, Nat.zero_le _, rfl, X4, F4', P4', B4, L14⟩
  case round =>
    clear X4 F4' P4' B4 L14
    obtain ⟨j, hj, rfl, XX, FF, PP, BB, LL⟩ := hrel
    by_cases hlt : j < 11
    · have h1 := offs_step j hlt
      have hrange := fcells_range FF.out j hlt
      have CGj : Hid (∀ (w : World) (B : Nat), Holds w B (some ⟨b, off, none⟩) 64 c xs → Calls Tryz.prog 124 #[.slice (some ⟨b, off, none⟩) 64 c, .int .i64 (offs.getD j 0 : Nat), .int .i64 (szs.getD j 0 : Nat)] w fun e w' => ∃ er, e = .returned (.tuple #[.int .u64 (numAt xs (offs.getD j 0) (szs.getD j 0)), .int .i64 er]) ∧ w = w') := fun w B hh => CG.out w B hh j hlt
      have TKj : Hid (∀ (w : World), HB w g (tk xs j) → Blk w p 83 [.pointer (some ⟨g, 0, none⟩)] →
        Calls Tryz.prog (fnk j) (#[.int .u64 (numAt xs (offs.getD j 0) (szs.getD j 0))] ++ (if j < 2 then #[] else #[.pointer (some ⟨p, 0, none⟩)])) w fun e w' => e = .returned (.tuple #[]) ∧ HB w' g (tk xs (j + 1)) ∧ Save g w w') := fun w B Pp => TK.out w p g j hlt B Pp
      have EL : Hid ((fel p zeroHd j).length = 4) := rfl
      have EO := Lib.hid (fel_one p zeroHd j)
      have E0 : Hid ((fel p zeroHd j)[0]? = some (.int .i64 (offs.getD j 0 : Nat))) := rfl
      have E1 : Hid ((fel p zeroHd j)[1]? = some (.int .i64 (szs.getD j 0 : Nat))) := rfl
      have E3 : Hid ((fel p zeroHd j)[3]? = some (.func (.func (fnk j)) #[] (if j < 2 then #[] else #[.pointer (some ⟨p, 0, none⟩)]))) := rfl
      obtain ⟨el, hel⟩ : ∃ el, el = fel p zeroHd j := ⟨_, rfl⟩
      rw [← hel] at EL EO E0 E1 E3 hrange
      obtain ⟨n, hn⟩ : ∃ n, n = numAt xs (offs.getD j 0) (szs.getD j 0) := ⟨_, rfl⟩
      rw [← hn] at CGj TKj
      obtain ⟨at_, hat⟩ : ∃ at_, at_ = offs.getD j 0 := ⟨_, rfl⟩
      obtain ⟨sz, hsz⟩ : ∃ sz, sz = szs.getD j 0 := ⟨_, rfl⟩
      have hcf := call_fnk j hlt
      obtain ⟨F, hF⟩ : ∃ F, F = fnk j := ⟨_, rfl⟩
      obtain ⟨cap, hcap⟩ : ∃ cap : Array Value, cap = if j < 2 then #[] else #[.pointer (some ⟨p, 0, none⟩)] := ⟨_, rfl⟩
      rw [← hat] at E0 CGj h1
      rw [← hsz] at E1 CGj h1
      rw [← hF, ← hcap] at E3 TKj
      rw [← hF] at hcf
      obtain ⟨_, h48, hs2, hs8⟩ := h1
      have RNG := Lib.hid hrange
      have hgl := XX.out.lt
      have hGl := FF.out.lt
      have hpl := PP.out.lt
      have hwl := LL.out.size
      clear hel hn hat hsz hF hcap hrange CG TK
      go_wp2_with (first
        | ((with_reducible show wpList _ _ _ (⟨some 14, _, _, _, _, _⟩ :: _) _ _); refine wpList_load_mid rfl _ (.tmp 13) rfl G (j * 4) rfl el _ RNG.out Tryz.underlying86 rfl (by rw [size_fd, EL.out]) ?_)
        | ((with_reducible show wpList _ _ _ (⟨some 5, _, _, _, _, _⟩ :: _) _ _); refine wpList_alloc_blk rfl _ rfl zf _ ZF ?_; intro f w5 hf1 hf2 X5 L5)
        | ((with_reducible show wpList _ _ _ (⟨none, .store _ (.tmp 5) _, _, _, _, _⟩ :: _) _ _); refine wpList_store_blk rfl _ (.tmp 5) (.tmp 14) rfl f rfl _ zf el rfl X5 4 size_fd HZF EL EO ?_; intro w6 X6 O6 hf3; have gc0 := (X6.out.cell 0).trans E0.out; have gc1 := (X6.out.cell 1).trans E1.out; have gc3 := (X6.out.cell 3).trans E3.out)
        | fail)
      have L6 : Hid (Below wr.heap.size wr w6) := below_only L5.out O6.out hf1
      have L66 := Lib.hid (step LL.out L6.out)
      refine (CGj.out w6 _ (HX.out.below L66.out)).mono ?_
      rintro e w7 ⟨er, rfl, rfl⟩
      have X7 : Hid (HB w6 g (tk xs j)) := Blk.over XX.out L6.out
      have P7 := Lib.hid (PP.out.over L6.out)
      go_wp2_with fail
      refine (TKj.out w6 X7.out P7.out).mono ?_
      rintro e w8 ⟨rfl, X8, S8⟩
      have hg6 := X7.out.lt
      have LS : Hid (Below w.heap.size w w8) := L66.out.trans (S8.below (by omega) (by have := L66.out.size; omega))
      have F8 : Hid (Blk w8 G 86 (fcells p zeroHd)) := (FF.out.over L6.out).save S8 (by omega)
      have P8 : Hid (Blk w8 p 83 [.pointer (some ⟨g, 0, none⟩)]) := P7.out.save S8 (by omega)
      have B8 : Hid (Blk w8 g0 28 zs) := (BB.out.over L6.out).save S8 (by omega)
      have X8' := Lib.hid X8
      clear XX FF PP BB LL L5 O6 L6 L66 X5 X6 gc0 gc1 gc3 RNG CGj TKj X7 P7 hcf S8 X8
      go_wp2_with fail
      go_roundw
      case rel => exact ⟨j + 1, by omega, by go_num, X8', F8, P8, B8, LS⟩
      case measure => simp [intOf]; omega
    · obtain rfl : j = 11 := by omega
      have hgl := XX.out.lt
      have XD : Hid (Blk wr.drew g 28 (hcells (tk xs 11))) := XX.out
      have SD : Hid (Holds wr.drew w.heap.size (some ⟨b, off + 48, none⟩) 16 (c - 48) ((xs.drop 48).take 16)) := by
        have h1 := (SP.out.below LL.out).drew
        rw [show Option.map (fun x : Addr => x.add 48) (some ⟨b, off, none⟩) = some ⟨b, off + 48, none⟩ from by simp [Addr.add_mid]] at h1
        exact h1
      have BD : Hid (Blk wr.drew g0 28 zs) := BB.out
      have LD : Hid (Below w.heap.size w wr.drew) := LL.out.drew
      have HF : Hid (10 + 16 ≤ (hcells (tk xs 11)).length) := by show _ ≤ _; rw [hcells_len K11.out]; omega
      have HSP : Hid (spliced (hcells (tk xs 11)) 10 ((xs.drop 48).take 16) = hcells (takenP xs)) := by
        show _ = _
        rw [spliced_sig _ _ K11.out.len HS.out, HT.out]
      have HLT := Lib.hid (hcells_len KF.out)
      have HOT := Lib.hid (hcells_one (takenP xs))
      have HQ : Hid (hv (takenP xs) = .agg (hcells (takenP xs)).toArray) := rfl
      obtain ⟨ts, hts⟩ : ∃ ts, ts = hcells (tk xs 11) := ⟨_, rfl⟩
      obtain ⟨us, hus⟩ : ∃ us, us = hcells (takenP xs) := ⟨_, rfl⟩
      obtain ⟨ss, hss⟩ : ∃ ss, ss = (xs.drop 48).take 16 := ⟨_, rfl⟩
      rw [← hts] at XD HF HSP
      rw [← hus] at HSP HLT HOT HQ
      rw [← hss] at SD HSP
      clear hts hus hss XX FF PP BB LL CG TK SP HS HT K11 KF HX hj
      have hc48 : ¬ c = 48 := by omega
      go_upto_region 8 with fail
      go_region_law ((refine step_copy_mid rfl (.tmp 30) (.tmp 32) rfl g 10 28 16 16 16 (c - 48) (some ⟨b, off + 48, none⟩) rfl rfl ts ss _ XD SD.out (by decide) (by decide) HF ?_; intro w5 X5 O5; rw [HSP.out] at X5; have B5 := Lib.hid (BD.out.only O5.out (by omega))))
      go_wp2_with (first
        | ((with_reducible show wpList _ _ _ (⟨some 34, _, _, _, _, _⟩ :: _) _ _); refine wpList_load_blk rfl _ (.tmp 3) rfl g rfl _ us X5 26 _ Tryz.underlying28 rfl size_hd HLT ?_)
        | ((with_reducible show wpList _ _ _ (⟨none, .store _ (.tmp 2) _, _, _, _, _⟩ :: _) _ _); refine wpList_store_blk rfl _ (.tmp 2) (.tmp 34) rfl g0 rfl _ zs us rfl B5 26 size_hd HZ HLT HOT ?_; intro w6 B6 O6 hg6))
      refine bodyPost_ret (v := .agg us.toArray) ?_ rfl ⟨by rw [HQ.out], below_only (below_only LD.out O5.out (by omega)) O6.out hgw⟩
      exact results_cell_row rfl _ _ g0 _ _ (0, 0) _ rfl B6.out Tryz.underlying28 rfl (by rw [size_hd]; have := HLT.out; simp [this])
end Go.Proofs.YtpodpmckdiijhaaGreatDoor

namespace Go.Proofs.YtpodpmckdiijhaaGreatDoor
set_option linter.all false
set_option maxRecDepth 100000
open Go.RowKit
theorem strOf_inj {xs ys : List Int} (hx : Bytes xs) (hy : Bytes ys) (h1 : xs.map (fun n => UInt8.ofNat n.toNat) = ys.map (fun n => UInt8.ofNat n.toNat)) : xs = ys := by
  induction xs generalizing ys with
  | nil => cases ys with
    | nil => rfl
    | cons y ys => cases h1
  | cons x xs ih =>
    cases ys with
    | nil => cases h1
    | cons y ys =>
      simp only [List.map_cons, List.cons.injEq] at h1
      have a := hx x List.mem_cons_self
      have b := hy y List.mem_cons_self
      have e : x = y := by
        have h2 := congrArg UInt8.toNat h1.1
        simp at h2
        omega
      rw [e, ih (fun z hz => hx z (List.mem_cons_of_mem _ hz)) (fun z hz => hy z (List.mem_cons_of_mem _ hz)) h1.2]
set_option maxHeartbeats 400000 in
theorem Equal_any (w : World) (B B' : Nat) (A A' : Option Addr) (n c n' c' : Nat) (xs ys : List Int) (h : Holds w B A n c xs) (h' : Holds w B' A' n' c' ys) (hn : 0 < n) (hn' : 0 < n') :
    Calls Tryz.prog 75 #[.slice A n c, .slice A' n' c'] w fun e w' => e = .returned (.bool (decide (xs = ys))) ∧ w = w' := by
  obtain ⟨b, off, rfl, _, hc⟩ := h.cells hn
  obtain ⟨b', off', rfl, _, hc'⟩ := h'.cells hn'
  have q1 := run_convert_bytes_arg (P := Tryz.prog) w 31 5 Tryz.underlying31 Tryz.underlying5 b off n c xs h.len hc 9 Tryz.underlying9
  have q2 := run_convert_bytes_arg (P := Tryz.prog) w 31 5 Tryz.underlying31 Tryz.underlying5 b' off' n' c' ys h'.len hc' 9 Tryz.underlying9
  have HE : Hid (((strOfNums xs).toList == (strOfNums ys).toList) = decide (xs = ys)) := by
    show _ = _
    rw [ByteArray.toList_eq, ByteArray.toList_eq, strOfNums_data, strOfNums_data, Bool.eq_iff_iff, beq_iff_eq, decide_eq_true_iff]
    exact ⟨strOf_inj h.byte h'.byte, fun e => by rw [e]⟩
  obtain ⟨s1, hs1⟩ : ∃ s, s = strOfNums xs := ⟨_, rfl⟩
  obtain ⟨s2, hs2⟩ : ∃ s, s = strOfNums ys := ⟨_, rfl⟩
  rw [← hs1] at q1 HE
  rw [← hs2] at q2 HE
  clear hs1 hs2 hc hc' h h'
  go_enter Tryz.func75, Tryz.ntmps75
  go_wp2
  go_ret
  exact ⟨ret_bool HE.out, rfl⟩
theorem results_cell_slot {P : Program} {fn : Func} {p q : Tmp} {ty : TypeId} (h : fn.results = #[.cell p ty, .tmp q]) (tmps : Array Value) (w : World) (g : Nat) (t : TypeId) (cs : Array Value) (fr : Nat × Nat) (d : TypeDesc)
    (hp : tmps.getD p undef = .pointer (some ⟨g, 0, none⟩)) (hg : w.heap[g]? = some (.cells cs t fr))
    (hu : P.underlying ty = some d) (hd : (match d with | .struct _ | .array _ _ => true | _ => false) = true) (hi : (P.info? ty).map (·.size) = some cs.size) {v : Value} (hv : tmps.getD q undef = v) :
    (results fn tmps).run P w = .ok (.tuple #[.agg cs, v]) w := by
  have hp' : tmps[p]?.getD undef = .pointer (some ⟨g, 0, none⟩) := by simpa using hp
  have hv' : tmps[q]?.getD undef = v := by simpa using hv
  simp [results, h, hp', hv', asAddr, run_loadVar_row w g t ty cs fr d hg hu hd hi]
/-- what Get answers -/
def GetHPost (w : World) (xs : List Int) (a : Int) (e : Ending) (w' : World) : Prop := e = .returned (.tuple #[hv (getOfH xs a), .int .i64 (getErrH xs a)]) ∧ Below w.heap.size w w'
set_option maxRecDepth 100000 in
set_option maxHeartbeats 2000000 in
theorem GetH_any (w : World) (A : Option Addr) (n c : Nat) (xs : List Int) (a : Int) (hx : Holds w w.heap.size A n c xs) (ha : -9223372036854775808 ≤ a ∧ a ≤ 9223372036854775807) :
    Calls Tryz.prog 41 #[.slice A n c, .int .i64 a] w (GetHPost w xs a) := by
  have hl := hx.len
  have CP : Hid (∀ w : World, Holds w w.heap.size A n c xs → Calls Tryz.prog 73 #[.slice A n c, .int .i64 a, .int .i64 64] w (PartPost w xs a 64)) := fun w hh => Part_any w A n c xs a 64 hh ha (by omega)
  have HX := Lib.hid hx
  have ZH := Lib.hid zero_hd
  have HZ := Lib.hid (hcells_len zeroHd_ok)
  have HZO := Lib.hid (hcells_one zeroHd)
  have BH := built_hd
  have HZV : Hid (hv zeroHd = .agg (hcells zeroHd).toArray) := rfl
  obtain ⟨zs, hzs⟩ : ∃ zs, zs = hcells zeroHd := ⟨_, rfl⟩
  rw [← hzs] at ZH HZ HZO BH HZV
  by_cases hp : partErr xs.length a 64 = 0
  · have hroom := part_room hp
    obtain ⟨ys, hys⟩ : ∃ ys, ys = partOf xs a 64 := ⟨_, rfl⟩
    have hys' : ys = (xs.drop a.toNat).take 64 := by rw [hys]; unfold partOf; rw [if_pos hp]; rfl
    have hyl : ys.length = 64 := by rw [hys']; simp; omega
    have hyb : Bytes ys := by rw [hys']; exact (hx.byte.drop _).take _
    unfold PartPost at CP
    rw [← hys, hyl, hp] at CP
    have CT : Hid (∀ (w : World) (A : Option Addr), Holds w w.heap.size A 64 64 ys → Calls Tryz.prog 74 #[.slice A 64 64] w fun e w' => e = .returned (hv (takenP ys)) ∧ Below w.heap.size w w') := fun w A hh => taken_any w A 64 ys hh
    have KT := takenP_ok ys hyb hyl
    have HLT := Lib.hid (hcells_len KT)
    have HOT := Lib.hid (hcells_one (takenP ys))
    have HYL := Lib.hid hyl
    have HYB := Lib.hid hyb
    by_cases hm : mayP (takenP ys) = true
    · have CH : Hid (∀ w : World, Calls Tryz.prog 33 #[hv (takenP ys)] w fun e w' => ∃ A', e = .returned (.tuple #[.slice A' 64 64, .int .i64 0]) ∧ Fresh w' w.heap.size A' (putH (takenP ys)) ∧ Below w.heap.size w w') := fun w => by
        have h1 := PutH_any w (takenP ys) KT
        unfold PutHPost putOfH putErrH at h1
        rwa [if_pos hm, if_pos hm, putH_len KT.len] at h1
      have HPL := Lib.hid (putH_len KT.len)
      have HPB := Lib.hid (putH_bytes KT.byte)
      have hpt := put_taken ys hyb hyl
      by_cases hq : putH (takenP ys) = ys
      · have HQ : Hid (∀ e w', (e = .returned (.tuple #[hv (takenP ys), .int .i64 0]) ∧ Below w.heap.size w w') → GetHPost w xs a e w') := by
          rintro e w' ⟨rfl, hb⟩
          have he : getErrH xs a = 0 := by
            unfold getErrH headP
            rw [if_pos hp, ← hys', ← hpt, hm, decide_eq_true hq]
            rfl
          refine ⟨?_, hb⟩
          unfold getOfH
          rw [he, if_pos rfl, ← hys']
        have HD := Lib.hid (decide_eq_true hq)
        obtain ⟨ps, hps⟩ : ∃ ps, ps = putH (takenP ys) := ⟨_, rfl⟩
        rw [← hps] at CH HPL HPB HD
        obtain ⟨ts, hts⟩ : ∃ ts, ts = hcells (takenP ys) := ⟨_, rfl⟩
        unfold hv at CT CH HQ
        rw [← hts] at CT CH HQ HLT HOT
        clear hys hys' hyl hyb hp hroom hm hpt hq hps hts KT hl hx hzs
        go_enter Tryz.func41, Tryz.ntmps41
        go_wp2_with (first
          | ((with_reducible show wpList _ _ _ (⟨some 4, _, _, _, _, _⟩ :: _) _ _); refine wpList_alloc_blk rfl _ rfl zs _ ZH ?_; intro g0 w1 hg1 hg2 B1 L1)
          | fail)
        refine (CP.out _ (HX.out.over L1.out)).mono ?_
        rintro e w2 ⟨A', rfl, hf, L2⟩
        have hh := hf.holds HYL.out HYB.out (by decide)
        have B2 := Lib.hid (B1.out.over L2)
        have L12 := Lib.hid (step L1.out L2)
        clear B1 L1 L2 CP HX hf
        go_wp2_with fail
        refine (CT.out _ _ hh).mono ?_
        rintro e w3 ⟨rfl, L3⟩
        have B3 := Lib.hid (B2.out.over L3)
        have L13 := Lib.hid (step L12.out L3)
        have hh3 := Lib.hid (hh.over L3)
        have hgs := B3.out.lt
        clear B2 L12 hh L3 CT
        go_wp2_with (first
          | ((with_reducible show wpList _ _ _ (⟨some 8, _, _, _, _, _⟩ :: _) _ _); refine wpList_alloc_blk rfl _ rfl zs _ ZH ?_; intro g w4 hg3 hg4 X4 L4)
          | ((with_reducible show wpList _ _ _ (⟨none, .store _ (.tmp 8) _, _, _, _, _⟩ :: _) _ _); refine wpList_store_blk rfl _ (.tmp 8) (.tmp 21) rfl g rfl _ zs ts rfl X4 26 size_hd HZ HLT HOT ?_; intro w5 X5 O5 hg5)
          | ((with_reducible show wpList _ _ _ (⟨some 23, _, _, _, _, _⟩ :: _) _ _); refine wpList_load_blk rfl _ (.tmp 8) rfl g rfl _ ts X5 26 _ Tryz.underlying28 rfl size_hd HLT ?_)
          | fail)
        have L5 : Below w3.heap.size w3 w5 := below_only L4.out O5.out hg3
        have B5 := Lib.hid (B3.out.over L5)
        have L15 := Lib.hid (step L13.out L5)
        have hh5 := Lib.hid (hh3.out.over L5)
        clear B3 L13 hh3 X4 L4 O5 L5
        refine (CH.out _).mono ?_
        rintro e w6 ⟨A2, rfl, hf2, L6⟩
        have B6 := Lib.hid (B5.out.over L6)
        have X6 := Lib.hid (X5.out.over L6)
        have L16 := Lib.hid (step L15.out L6)
        have hh6 := hh5.out.over L6
        have hk6 := hf2.holds HPL.out HPB.out (by decide)
        have CE := Equal_any w6 _ _ _ _ _ _ _ _ _ _ hk6 hh6 (by decide) (by decide)
        rw [HD.out] at CE
        have CE' := Lib.hid CE
        clear CE B5 X5 L15 hh5 L6 hf2 hh6 hk6 CH HD
        go_wp2_with fail
        refine CE'.out.mono ?_
        rintro e w7 ⟨rfl, rfl⟩
        clear CE'
        go_wp2_with (first
          | ((with_reducible show wpList _ _ _ (⟨some 36, _, _, _, _, _⟩ :: _) _ _); refine wpList_load_blk rfl _ (.tmp 8) rfl g rfl _ ts X6 26 _ Tryz.underlying28 rfl size_hd HLT ?_)
          | ((with_reducible show wpList _ _ _ (⟨none, .store _ (.tmp 4) _, _, _, _, _⟩ :: _) _ _); refine wpList_store_blk rfl _ (.tmp 4) (.tmp 36) rfl g0 rfl _ zs ts rfl B6 26 size_hd HZ HLT HOT ?_; intro w9 B9 O9 hg9))
        refine bodyPost_ret (v := .tuple #[.agg ts.toArray, .int .i64 0]) ?_ rfl (HQ.out _ _ ⟨rfl, below_only L16.out O9.out hg1⟩)
        exact results_cell_slot rfl _ _ g0 _ _ (0, 0) _ rfl B9.out Tryz.underlying28 rfl (by rw [size_hd]; have := HLT.out; simp [this]) rfl
      · have HQ : Hid (∀ e w', (e = .returned (.tuple #[hv zeroHd, .int .i64 5]) ∧ Below w.heap.size w w') → GetHPost w xs a e w') := by
          rintro e w' ⟨rfl, hb⟩
          have he : getErrH xs a = 5 := by
            unfold getErrH headP
            rw [if_pos hp, ← hys', ← hpt, hm, decide_eq_false hq]
            rfl
          refine ⟨?_, hb⟩
          unfold getOfH
          rw [he]
          rfl
        have HD := Lib.hid (decide_eq_false hq)
        obtain ⟨ps, hps⟩ : ∃ ps, ps = putH (takenP ys) := ⟨_, rfl⟩
        rw [← hps] at CH HPL HPB HD
        obtain ⟨ts, hts⟩ : ∃ ts, ts = hcells (takenP ys) := ⟨_, rfl⟩
        rw [HZV.out] at HQ
        unfold hv at CT CH
        rw [← hts] at CT CH HLT HOT
        clear hys hys' hyl hyb hp hroom hm hpt hq hps hts KT hl hx hzs
        go_enter Tryz.func41, Tryz.ntmps41
        go_wp2_with (first
          | ((with_reducible show wpList _ _ _ (⟨some 4, _, _, _, _, _⟩ :: _) _ _); refine wpList_alloc_blk rfl _ rfl zs _ ZH ?_; intro g0 w1 hg1 hg2 B1 L1)
          | fail)
        refine (CP.out _ (HX.out.over L1.out)).mono ?_
        rintro e w2 ⟨A', rfl, hf, L2⟩
        have hh := hf.holds HYL.out HYB.out (by decide)
        have B2 := Lib.hid (B1.out.over L2)
        have L12 := Lib.hid (step L1.out L2)
        clear B1 L1 L2 CP HX hf
        go_wp2_with fail
        refine (CT.out _ _ hh).mono ?_
        rintro e w3 ⟨rfl, L3⟩
        have B3 := Lib.hid (B2.out.over L3)
        have L13 := Lib.hid (step L12.out L3)
        have hh3 := Lib.hid (hh.over L3)
        have hgs := B3.out.lt
        clear B2 L12 hh L3 CT
        go_wp2_with (first
          | ((with_reducible show wpList _ _ _ (⟨some 8, _, _, _, _, _⟩ :: _) _ _); refine wpList_alloc_blk rfl _ rfl zs _ ZH ?_; intro g w4 hg3 hg4 X4 L4)
          | ((with_reducible show wpList _ _ _ (⟨none, .store _ (.tmp 8) _, _, _, _, _⟩ :: _) _ _); refine wpList_store_blk rfl _ (.tmp 8) (.tmp 21) rfl g rfl _ zs ts rfl X4 26 size_hd HZ HLT HOT ?_; intro w5 X5 O5 hg5)
          | ((with_reducible show wpList _ _ _ (⟨some 23, _, _, _, _, _⟩ :: _) _ _); refine wpList_load_blk rfl _ (.tmp 8) rfl g rfl _ ts X5 26 _ Tryz.underlying28 rfl size_hd HLT ?_)
          | fail)
        have L5 : Below w3.heap.size w3 w5 := below_only L4.out O5.out hg3
        have B5 := Lib.hid (B3.out.over L5)
        have L15 := Lib.hid (step L13.out L5)
        have hh5 := Lib.hid (hh3.out.over L5)
        clear B3 L13 hh3 X4 L4 O5 L5
        refine (CH.out _).mono ?_
        rintro e w6 ⟨A2, rfl, hf2, L6⟩
        have B6 := Lib.hid (B5.out.over L6)
        have X6 := Lib.hid (X5.out.over L6)
        have L16 := Lib.hid (step L15.out L6)
        have hh6 := hh5.out.over L6
        have hk6 := hf2.holds HPL.out HPB.out (by decide)
        have CE := Equal_any w6 _ _ _ _ _ _ _ _ _ _ hk6 hh6 (by decide) (by decide)
        rw [HD.out] at CE
        have CE' := Lib.hid CE
        clear CE B5 X5 L15 hh5 L6 hf2 hh6 hk6 CH HD
        go_wp2_with fail
        refine CE'.out.mono ?_
        rintro e w7 ⟨rfl, rfl⟩
        clear CE'
        go_wp2_with (first
          | ((with_reducible show wpList _ _ _ (⟨some 35, _, _, _, _, _⟩ :: _) _ _); refine wpList_build_none rfl _ rfl zs BH ?_)
          | ((with_reducible show wpList _ _ _ (⟨none, .store _ (.tmp 4) _, _, _, _, _⟩ :: _) _ _); refine wpList_store_blk rfl _ (.tmp 4) (.tmp 35) rfl g0 rfl _ zs zs rfl B6 26 size_hd HZ HZ HZO ?_; intro w9 B9 O9 hg9))
        refine bodyPost_ret (v := .tuple #[.agg zs.toArray, .int .i64 5]) ?_ rfl (HQ.out _ _ ⟨rfl, below_only L16.out O9.out hg1⟩)
        exact results_cell_slot rfl _ _ g0 _ _ (0, 0) _ rfl B9.out Tryz.underlying28 rfl (by rw [size_hd]; have := HZ.out; simp [this]) rfl
    · have HQ : Hid (∀ e w', (e = .returned (.tuple #[hv zeroHd, .int .i64 5]) ∧ Below w.heap.size w w') → GetHPost w xs a e w') := by
        rintro e w' ⟨rfl, hb⟩
        have hm' : mayP (takenP ys) = false := by simpa using hm
        have he : getErrH xs a = 5 := by
          unfold getErrH headP
          rw [if_pos hp, ← hys', hm', Bool.and_false]
          rfl
        refine ⟨?_, hb⟩
        unfold getOfH
        rw [he]
        rfl
      have CH : Hid (∀ w : World, Calls Tryz.prog 33 #[hv (takenP ys)] w fun e w' => ∃ A', e = .returned (.tuple #[.slice A' 0 0, .int .i64 2]) ∧ Below w.heap.size w w') := fun w => by
        have h1 := PutH_any w (takenP ys) KT
        unfold PutHPost putOfH putErrH at h1
        rw [if_neg hm, if_neg hm] at h1
        refine h1.mono ?_
        rintro e w' ⟨A', rfl, hf, hb⟩
        exact ⟨A', rfl, hb⟩
      obtain ⟨ts, hts⟩ : ∃ ts, ts = hcells (takenP ys) := ⟨_, rfl⟩
      rw [HZV.out] at HQ
      unfold hv at CT CH
      rw [← hts] at CT CH HLT HOT
      clear hys hys' hyl hyb hp hroom hm hts KT hl hx hzs
      go_enter Tryz.func41, Tryz.ntmps41
      go_wp2_with (first
        | ((with_reducible show wpList _ _ _ (⟨some 4, _, _, _, _, _⟩ :: _) _ _); refine wpList_alloc_blk rfl _ rfl zs _ ZH ?_; intro g0 w1 hg1 hg2 B1 L1)
        | fail)
      refine (CP.out _ (HX.out.over L1.out)).mono ?_
      rintro e w2 ⟨A', rfl, hf, L2⟩
      have hh := hf.holds HYL.out HYB.out (by decide)
      have B2 := Lib.hid (B1.out.over L2)
      have L12 := Lib.hid (step L1.out L2)
      clear B1 L1 L2 CP HX hf
      go_wp2_with fail
      refine (CT.out _ _ hh).mono ?_
      rintro e w3 ⟨rfl, L3⟩
      have B3 := Lib.hid (B2.out.over L3)
      have L13 := Lib.hid (step L12.out L3)
      have hh3 := Lib.hid (hh.over L3)
      have hgs := B3.out.lt
      clear B2 L12 hh L3 CT
      go_wp2_with (first
        | ((with_reducible show wpList _ _ _ (⟨some 8, _, _, _, _, _⟩ :: _) _ _); refine wpList_alloc_blk rfl _ rfl zs _ ZH ?_; intro g w4 hg3 hg4 X4 L4)
        | ((with_reducible show wpList _ _ _ (⟨none, .store _ (.tmp 8) _, _, _, _, _⟩ :: _) _ _); refine wpList_store_blk rfl _ (.tmp 8) (.tmp 21) rfl g rfl _ zs ts rfl X4 26 size_hd HZ HLT HOT ?_; intro w5 X5 O5 hg5)
        | ((with_reducible show wpList _ _ _ (⟨some 23, _, _, _, _, _⟩ :: _) _ _); refine wpList_load_blk rfl _ (.tmp 8) rfl g rfl _ ts X5 26 _ Tryz.underlying28 rfl size_hd HLT ?_)
        | fail)
      have L5 : Below w3.heap.size w3 w5 := below_only L4.out O5.out hg3
      have B5 := Lib.hid (B3.out.over L5)
      have L15 := Lib.hid (step L13.out L5)
      have hh5 := Lib.hid (hh3.out.over L5)
      clear B3 L13 hh3 X4 L4 O5 L5
      refine (CH.out _).mono ?_
      rintro e w6 ⟨A2, rfl, L6⟩
      have B6 := Lib.hid (B5.out.over L6)
      have L16 := Lib.hid (step L15.out L6)
      clear B5 X5 L15 hh5 L6 CH
      go_wp2_with (first
        | ((with_reducible show wpList _ _ _ (⟨some 35, _, _, _, _, _⟩ :: _) _ _); refine wpList_build_none rfl _ rfl zs BH ?_)
        | ((with_reducible show wpList _ _ _ (⟨none, .store _ (.tmp 4) _, _, _, _, _⟩ :: _) _ _); refine wpList_store_blk rfl _ (.tmp 4) (.tmp 35) rfl g0 rfl _ zs zs rfl B6 26 size_hd HZ HZ HZO ?_; intro w9 B9 O9 hg9))
      refine bodyPost_ret (v := .tuple #[.agg zs.toArray, .int .i64 5]) ?_ rfl (HQ.out _ _ ⟨rfl, below_only L16.out O9.out hg1⟩)
      exact results_cell_slot rfl _ _ g0 _ _ (0, 0) _ rfl B9.out Tryz.underlying28 rfl (by rw [size_hd]; have := HZ.out; simp [this]) rfl
  · have HQ : Hid (∀ e w', (e = .returned (.tuple #[hv zeroHd, .int .i64 (partErr xs.length a 64)]) ∧ Below w.heap.size w w') → GetHPost w xs a e w') := by
      rintro e w' ⟨rfl, hb⟩
      have he : getErrH xs a = partErr xs.length a 64 := by unfold getErrH; rw [if_neg hp]
      refine ⟨?_, hb⟩
      unfold getOfH
      rw [he, if_neg hp]
    have e2 : partOf xs a 64 = [] := by unfold partOf; rw [if_neg hp]
    unfold PartPost at CP
    rw [e2] at CP
    rw [HZV.out] at HQ
    obtain ⟨er, her⟩ : ∃ er, er = partErr xs.length a 64 := ⟨_, rfl⟩
    rw [← her] at CP HQ hp
    have hne : (er != 0) = true := by simpa using hp
    clear e2 her hp hl hx hzs
    go_enter Tryz.func41, Tryz.ntmps41
    go_wp2_with (first
      | ((with_reducible show wpList _ _ _ (⟨some 4, _, _, _, _, _⟩ :: _) _ _); refine wpList_alloc_blk rfl _ rfl zs _ ZH ?_; intro g0 w1 hg1 hg2 B1 L1)
      | fail)
    refine (CP.out _ (HX.out.over L1.out)).mono ?_
    rintro e w2 ⟨A', rfl, hf, L2⟩
    have B2 := Lib.hid (B1.out.over L2)
    have L12 := Lib.hid (step L1.out L2)
    go_wp2_with (first
      | ((with_reducible show wpList _ _ _ (⟨some 18, _, _, _, _, _⟩ :: _) _ _); refine wpList_build_none rfl _ rfl zs BH ?_)
      | ((with_reducible show wpList _ _ _ (⟨none, .store _ (.tmp 4) _, _, _, _, _⟩ :: _) _ _); refine wpList_store_blk rfl _ (.tmp 4) (.tmp 18) rfl g0 rfl _ zs zs rfl B2 26 size_hd HZ HZ HZO ?_; intro w9 B9 O9 hg9))
    refine bodyPost_ret (v := .tuple #[.agg zs.toArray, .int .i64 er]) ?_ rfl (HQ.out _ _ ⟨rfl, below_only L12.out O9.out hg1⟩)
    exact results_cell_slot rfl _ _ g0 _ _ (0, 0) _ rfl B9.out Tryz.underlying28 rfl (by rw [size_hd]; have := HZ.out; simp [this]) rfl
end Go.Proofs.YtpodpmckdiijhaaGreatDoor

namespace Go.Proofs.YtpodpmckdiijhaaGreatDoor
set_option linter.all false
set_option maxRecDepth 100000
open Go.RowKit
/-- what Put answers of a head that may be -/
theorem put_may (w : World) (h : Hd) (k : h.ok) (hm : mayP h = true) : Calls Tryz.prog 33 #[hv h] w fun e w' => ∃ A', e = .returned (.tuple #[.slice A' 64 64, .int .i64 0]) ∧ Fresh w' w.heap.size A' (putH h) ∧ Below w.heap.size w w' := by
  have h1 := PutH_any w h k
  unfold PutHPost putOfH putErrH at h1
  rwa [if_pos hm, if_pos hm, putH_len k.len] at h1
/-- .. of one that may not -/
theorem put_may_not (w : World) (h : Hd) (k : h.ok) (hm : mayP h = false) : Calls Tryz.prog 33 #[hv h] w fun e w' => ∃ A', e = .returned (.tuple #[.slice A' 0 0, .int .i64 2]) ∧ Below w.heap.size w w' := by
  have h1 := PutH_any w h k
  unfold PutHPost putOfH putErrH at h1
  rw [if_neg (by rw [hm]; decide), if_neg (by rw [hm]; decide)] at h1
  refine h1.mono ?_
  rintro e w' ⟨A', rfl, _, hb⟩
  exact ⟨A', rfl, hb⟩
end Go.Proofs.YtpodpmckdiijhaaGreatDoor

namespace Go.Proofs.YtpodpmckdiijhaaGreatDoor
set_option linter.all false
open Go.RowKit
set_option linter.unusedVariables false
set_option linter.unusedSimpArgs false
set_option maxRecDepth 100000
theorem yieldsIf_load_midb {P : Program} {ops : Array Oper} {S : World → Prop} {op : Oper} {a : Act} (hw : Region.wanted op (yielded ops a.tmps) = true) (T : TypeId) (x : Operand) (ho : op.op = .load T x) (g i : Nat) (hx : a.eval x = .pointer (some ⟨g, i, none⟩)) (cs : List Value)
    (hS : ∀ w, S w → w.rangeAt g i cs) (n : Nat) (d : TypeDesc) (hu : P.underlying T = some d) (hd : d.isRow = true) (hi : (P.info? T).map (·.size) = some n) (hn : Hid (cs.length = n)) : YieldsIf P ops S op (.agg cs.toArray) a :=
  .inl ⟨hw, fun w hw' => by
    unfold execOp
    simp only [ho, hx, Instr.loadAt, Instr.sureAddr, Sem.run_bind, Sem.run_pure, Result.andThen_ok, run_loadVar_mid w g i T cs d (hS w hw') hu hd (by rw [hi, hn.out])]⟩
theorem pse_no {c : Int} {s : SayV} (h : ¬ pse c s = 0) : pso c s = [] := by
  unfold pso
  unfold pse at h
  split
  · rename_i h1; rw [if_pos h1] at h; unfold sayOfP; rw [if_neg h]
  · rename_i h1
    rw [if_neg h1] at h
    split
    · rename_i h2; rw [if_pos h2] at h; unfold fsOf; rw [if_neg h]
    · rename_i h2; rw [if_neg h2] at h; unfold jpOf; rw [if_neg h]
theorem pae_no {c : Int} {a : AskV} (h : ¬ pae c a = 0) : pao c a = [] := by
  unfold pao
  unfold pae at h
  split
  · rename_i h1; rw [if_pos h1] at h; unfold askOfP; rw [if_neg h]
  · rename_i h1
    rw [if_neg h1] at h
    split
    · rename_i h2; rw [if_pos h2] at h; unfold fpOf; rw [if_neg h]
    · rename_i h2; rw [if_neg h2] at h; unfold ipOf; rw [if_neg h]
set_option maxHeartbeats 1000000 in
theorem asksNothing_any (w : World) (ac : List Value) (a : AskV) (k : a.ok) (ha : AskIs w w.heap.size ac a) (hu : a.user.size ≤ 17592186044416 ∧ a.share.size ≤ 17592186044416) (hT : Tabs w) :
    Calls Tryz.prog 57 #[.agg ac.toArray] w fun e w' => e = .returned (.bool (askErrP 13 a == 0)) ∧ Below w.heap.size w w' := by
  have HL := Lib.hid (ha.len k)
  have CP : Hid (∀ w', Below w.heap.size w w' → Calls Tryz.prog 103 #[.int .u16 13, .agg ac.toArray] w' fun e w2 => ∃ v, e = .returned (.tuple #[v, .int .i64 (askErrP 13 a)]) ∧ Below w'.heap.size w' w2) := fun w' hb => (PutAskB_any w' 13 ac a (by decide) k (ha.over hb) hu (hT.below hb)).mono fun e w2 ⟨v, h1, _, h2⟩ => ⟨v, h1, h2⟩
  obtain ⟨er, her⟩ : ∃ x, x = askErrP 13 a := ⟨_, rfl⟩
  rw [← her] at CP ⊢
  clear her ha
  go_enter Tryz.func57, Tryz.ntmps57
  go_wp2_with (first
    | ((with_reducible show wpList _ _ _ (⟨some 1, _, _, _, _, _⟩ :: _) _ _); refine wpList_box_blk rfl _ (.tmp 0) rfl ac rfl ?_; intro g w1 hg1 hg2 B1 L1)
    | ((with_reducible show wpList _ _ _ (⟨some 6, _, _, _, _, _⟩ :: _) _ _); refine wpList_load_blk rfl _ (.tmp 1) rfl g rfl _ ac B1 69 _ Tryz.underlying34 rfl size_ask HL ?_)
    | fail)
  refine (CP.out w1 L1.out).mono ?_
  rintro e w2 ⟨v, rfl, L2⟩
  go_wp2
  go_ret
  exact ⟨rfl, step L1.out L2⟩
set_option maxHeartbeats 1000000 in
theorem saysNothing_any (w : World) (ac : List Value) (a : SayV) (k : a.ok) (ha : SayIs w w.heap.size ac a) :
    Calls Tryz.prog 59 #[.agg ac.toArray] w fun e w' => e = .returned (.bool (sayErrP 13 a == 0)) ∧ Below w.heap.size w w' := by
  have HL := Lib.hid (ha.len k)
  have CP : Hid (∀ w', Below w.heap.size w w' → Calls Tryz.prog 105 #[.int .u16 13, .agg ac.toArray] w' fun e w2 => ∃ v, e = .returned (.tuple #[v, .int .i64 (sayErrP 13 a)]) ∧ Below w'.heap.size w' w2) := fun w' hb => (PutSayB_any w' 13 ac a (by decide) k (ha.over hb)).mono fun e w2 ⟨v, h1, _, h2⟩ => ⟨v, h1, h2⟩
  obtain ⟨er, her⟩ : ∃ x, x = sayErrP 13 a := ⟨_, rfl⟩
  rw [← her] at CP ⊢
  clear her ha
  go_enter Tryz.func59, Tryz.ntmps59
  go_wp2_with (first
    | ((with_reducible show wpList _ _ _ (⟨some 1, _, _, _, _, _⟩ :: _) _ _); refine wpList_box_blk rfl _ (.tmp 0) rfl ac rfl ?_; intro g w1 hg1 hg2 B1 L1)
    | ((with_reducible show wpList _ _ _ (⟨some 6, _, _, _, _, _⟩ :: _) _ _); refine wpList_load_blk rfl _ (.tmp 1) rfl g rfl _ ac B1 20 _ Tryz.underlying39 rfl size_say HL ?_)
    | fail)
  refine (CP.out w1 L1.out).mono ?_
  rintro e w2 ⟨v, rfl, L2⟩
  go_wp2
  go_ret
  exact ⟨rfl, step L1.out L2⟩
/-- what putBody answers -/
def PBPost (w : World) (m : MsgV) (e : Ending) (w' : World) : Prop := ∃ v, e = .returned (.tuple #[v, .int .i64 (mbErr m)]) ∧ OwnB w' w.heap.size v (mbOf m) ∧ Below w.heap.size w w'
def PutsA (w : World) (c : Int) (ac : List Value) (a : AskV) : Prop := ∀ w', Below w.heap.size w w' → Calls Tryz.prog (fPA c) #[.int .u16 c, .agg ac.toArray] w' fun e w2 => ∃ v, e = .returned (.tuple #[v, .int .i64 (pae c a)]) ∧ OwnB w2 w'.heap.size v (pao c a) ∧ Below w'.heap.size w' w2
def PutsS (w : World) (c : Int) (sc : List Value) (s : SayV) : Prop := ∀ w', Below w.heap.size w w' → Calls Tryz.prog (fPS c) #[.int .u16 c, .agg sc.toArray] w' fun e w2 => ∃ v, e = .returned (.tuple #[v, .int .i64 (pse c s)]) ∧ OwnB w2 w'.heap.size v (pso c s) ∧ Below w'.heap.size w' w2
theorem fld_message1 (g : Nat) (w : World) : (Instr.fieldAt 65 (.pointer (some ⟨g, 0, none⟩)) 1).run Tryz.prog w = .ok (.pointer (some ⟨g, 26, none⟩)) w := by go_simp
theorem fld_message2 (g : Nat) (w : World) : (Instr.fieldAt 65 (.pointer (some ⟨g, 0, none⟩)) 2).run Tryz.prog w = .ok (.pointer (some ⟨g, 95, none⟩)) w := by go_simp
theorem rowM_in {h : Hd} (k : h.ok) : 0 ≤ rowM h ∧ rowM h ≤ 65535 := by
  unfold rowM
  have := k.cm
  split <;> omega
set_option maxHeartbeats 4000000 in
theorem putBody_of (w : World) (g : Nat) (m : MsgV) (ac sc : List Value) (k : m.ok) (B : Blk w g 65 (hcells m.h ++ (ac ++ sc))) (ha : AskIs w w.heap.size ac m.a) (hs : SayIs w w.heap.size sc m.s) (hu : m.a.user.size ≤ 17592186044416 ∧ m.a.share.size ≤ 17592186044416) (hT : Tabs w)
    (CA : isRep m.h.fl = false → PutsA w (rowM m.h) ac m.a) (CS : isRep m.h.fl = true → PutsS w (rowM m.h) sc m.s) :
    Calls Tryz.prog 34 #[.pointer (some ⟨g, 0, none⟩)] w (PBPost w m) := by
  have CR := Lib.hid (row_any w g m.h k.h _ B)
  have CI := Lib.hid (isReply_any w g m.h k.h _ B)
  have H26 := Lib.hid (hcells_len k.h)
  have H69 := Lib.hid (ha.len k.a)
  have H20 := Lib.hid (hs.len k.s)
  have CN := Lib.hid (asksNothing_any w ac m.a k.a ha hu hT)
  have CM := Lib.hid (saysNothing_any w sc m.s k.s hs)
  have CB : Hid (∀ w', Calls Tryz.prog 58 #[.int .u16 (rowM m.h)] w' fun e w2 => e = .returned (bodiesV (rowM m.h)) ∧ Below w'.heap.size w' w2) := fun w' => bodiesOf_any w' _ (rowM_in k.h)
  have HE : Hid (mbErr m = 2 → ∀ v e w', e = .returned (.tuple #[v, .int .i64 2]) → v = .slice none 0 0 → Below w.heap.size w w' → PBPost w m e w') := by
    intro h v e w' h1 h2 h3
    unfold PBPost mbOf
    rw [h, if_neg (by decide)]
    exact ⟨v, h1, by rw [h2]; exact OwnZ.nil _ _ _ _, h3⟩
  obtain ⟨c, hc⟩ : ∃ c, c = rowM m.h := ⟨_, rfl⟩
  rw [← hc] at CR CA CS CB
  obtain ⟨hcs, hhc⟩ : ∃ x, x = hcells m.h := ⟨_, rfl⟩
  rw [← hhc] at B H26
  have BH := Lib.hid B
  have gl := B.lt
  clear B hhc ha hs
  by_cases hr : isRep m.h.fl = true
  · skip
    have hr' : isRep m.h.fl = true := by simpa using hr
    rw [hr'] at CI
    have CC := Lib.hid (CS hr')
    clear CA CS
    by_cases hz : askErrP 13 m.a = 0
    rotate_left
    · have hE := HE.out (by unfold mbErr; rw [if_pos hr, if_neg hz])
      have hz' : (askErrP 13 m.a == 0) = false := by simpa using hz
      rw [hz'] at CN
      have HE2 := Lib.hid hE
      have B1 := BH.out
      clear hE HE CC CB hz hz' hr hr' hc
      go_enter Tryz.func34, Tryz.ntmps34
      go_wp2_with fail
      refine CR.out.mono ?_
      rintro e w1 ⟨rfl, rfl⟩
      go_wp2_with fail
      refine CI.out.mono ?_
      rintro e w1 ⟨rfl, rfl⟩
      go_wp2_with (first
        | ((with_reducible show wpList _ _ _ (⟨some 12, _, _, _, _, _⟩ :: _) _ _); refine wpList_load_midu rfl _ (.tmp 11) rfl g 26 rfl ac _ (Lib.hid (range_a B1 H26.out)) Tryz.underlying34 rfl 69 size_ask H69 ?_)
        | fail)
      refine CN.out.mono ?_
      rintro e w1 ⟨rfl, L1⟩
      go_wp2
      go_ret2
      exact HE2.out _ _ _ rfl rfl L1
    have hz' : (askErrP 13 m.a == 0) = true := by simpa using hz
    rw [hz'] at CN
    have HQ : Hid (∀ v e (w1 w' : World), e = .returned (.tuple #[v, .int .i64 (pse c m.s)]) → OwnB w' w1.heap.size v (pso c m.s) → w.heap.size ≤ w1.heap.size → Below w.heap.size w w' → PBPost w m e w') := by
      intro v e w1 w' h1 h2 h3 h4
      have hme : mbErr m = pse c m.s := by unfold mbErr; rw [if_pos hr, if_pos hz, hc]
      have hmo : mbOf m = pso c m.s := by
        unfold mbOf
        by_cases h0 : pse c m.s = 0
        · rw [hme, if_pos h0, if_pos hr, hc]
        · rw [hme, if_neg h0, pse_no h0]
      unfold PBPost
      rw [hme, hmo]
      exact ⟨v, h1, h2.mono h3, h4⟩
    unfold PutsS at CC
    obtain ⟨er, her⟩ : ∃ x, x = pse c m.s := ⟨_, rfl⟩
    rw [← her] at CC HQ
    obtain ⟨ys, hys⟩ : ∃ x, x = pso c m.s := ⟨_, rfl⟩
    rw [← hys] at CC HQ
    have HB2 : Hid (∃ F1 F2 F3, bodiesV c = .agg #[F1, F2, .func (.func (fPS c)) #[] #[], F3]) := ⟨_, _, _, rfl⟩
    obtain ⟨F1, F2, F3, hF⟩ := HB2.out
    rw [hF] at CB
    have hent := ent_PS c
    obtain ⟨fn, hfn⟩ : ∃ x, x = fPS c := ⟨_, rfl⟩
    rw [← hfn] at CC CB hent
    have B1 := BH.out
    clear HE hz hz' hr hr' hc her hys hF HB2 hfn
    go_enter Tryz.func34, Tryz.ntmps34
    go_wp2_with fail
    refine CR.out.mono ?_
    rintro e w1 ⟨rfl, rfl⟩
    go_wp2_with fail
    refine CI.out.mono ?_
    rintro e w1 ⟨rfl, rfl⟩
    go_wp2_with (first
      | ((with_reducible show wpList _ _ _ (⟨some 12, _, _, _, _, _⟩ :: _) _ _); refine wpList_load_midu rfl _ (.tmp 11) rfl g 26 rfl ac _ (Lib.hid (range_a B1 H26.out)) Tryz.underlying34 rfl 69 size_ask H69 ?_)
      | fail)
    refine CN.out.mono ?_
    rintro e w1 ⟨rfl, L1⟩
    have B2 := Lib.hid (B1.over L1)
    have M1 := Lib.hid L1
    clear L1 B1 BH CR CI CN CM
    go_upto_region 13 with fail
    refine wp_region_held (S := fun w' => Blk w' g 65 (hcs ++ (ac ++ sc)) ∧ Below w.heap.size w w') (by kernel_rfl) ?_
    change wpAnyH _ _ _ _ _ _ _ _ w1.drew
    have S0 : Hid (Blk w1.drew g 65 (hcs ++ (ac ++ sc)) ∧ Below w.heap.size w w1.drew) := ⟨B2.out.drew, M1.out.drew⟩
    have b0 : Hid (w.heap.size ≤ w1.drew.heap.size) := M1.out.drew.size
    refine wpAnyH_take (i := 0) (v := _) rfl (by kernel_rfl) (by kernel_rfl) (by kernel_rfl) (fun _ _ _ h => h) (yieldsIf_move (by kernel_rfl) (.tmp 4) rfl (.int .u16 c) (by kernel_rfl)) S0.out ?_
    refine wpAnyH_take (i := 3) (v := _) rfl (by kernel_rfl) (by kernel_rfl) (by kernel_rfl) (fun _ _ _ h => h) (yieldsIf_move (by kernel_rfl) (.tmp 4) rfl (.int .u16 c) (by kernel_rfl)) S0.out ?_
    refine wpAnyH_take (i := 4) (v := _) rfl (by kernel_rfl) (by kernel_rfl) (by kernel_rfl) (fun _ _ _ h => h) (yieldsIf_move (by kernel_rfl) (.tmp 0) rfl (.pointer (some ⟨g, 0, none⟩)) (by kernel_rfl)) S0.out ?_
    refine wpAnyH_take (i := 5) (v := _) rfl (by kernel_rfl) (by kernel_rfl) (by kernel_rfl) (fun _ _ _ h => h) (yieldsIf_nil (by kernel_rfl) (.tmp 19) rfl ⟨g, 0, none⟩ (by kernel_rfl)) S0.out ?_
    refine wpAnyH_take (i := 6) (v := _) rfl (by kernel_rfl) (by kernel_rfl) (by kernel_rfl) (fun _ _ _ h => h) (yieldsIf_fld (by kernel_rfl) _ (.tmp 20) 2 rfl (.pointer (some ⟨g, 0, none⟩)) (.pointer (some ⟨g, 95, none⟩)) (by kernel_rfl) (fld_message2 g)) S0.out ?_
    refine wpAnyH_take (i := 7) (v := _) rfl (by kernel_rfl) (by kernel_rfl) (by kernel_rfl) (fun _ _ _ h => h) (yieldsIf_load_midb (by kernel_rfl) _ (.tmp 21) rfl g 95 (by kernel_rfl) sc (fun _ h => range_s h.1 H26.out H69.out) 20 _ Tryz.underlying39 rfl size_say H20) S0.out ?_
    refine wpAnyH_one 1 _ (by kernel_rfl) rfl fun K hK => ?_
    go_simp
    refine (CB.out _).mono ?_
    rintro e v1 ⟨rfl, b⟩
    have S1 : Hid (Blk v1 g 65 (hcs ++ (ac ++ sc)) ∧ Below w.heap.size w v1) := ⟨S0.out.1.over b, step S0.out.2 b⟩
    have b1 : Hid (w.heap.size ≤ v1.heap.size) := Nat.le_trans b0.out b.size
    refine hK _ _ S1.out ?_
    clear hK K b
    refine wpAnyH_one 2 _ (by kernel_rfl) rfl fun K hK => ?_
    go_simp
    refine hK _ _ S1.out ?_
    clear hK K
    refine wpAnyH_one 8 _ (by kernel_rfl) rfl fun K hK => ?_
    go_simp
    refine (CC.out _ S1.out.2).mono ?_
    rintro e v2 ⟨v, rfl, ho, b⟩
    have S2 : Hid (Blk v2 g 65 (hcs ++ (ac ++ sc)) ∧ Below w.heap.size w v2) := ⟨S1.out.1.over b, step S1.out.2 b⟩
    have b2 : Hid (w.heap.size ≤ v2.heap.size) := Nat.le_trans b1.out b.size
    have HO := Lib.hid (HQ.out v _ _ _ rfl ho b1.out (step S1.out.2 b))
    refine hK _ _ S2.out ?_
    clear hK K b ho
    refine wpAnyH_take (i := 9) (v := v) rfl (by kernel_rfl) (by kernel_rfl) (by kernel_rfl) (fun _ _ _ h => h) (.inl ⟨by kernel_rfl, fun w _ => by go_simp⟩) S2.out ?_
    refine wpAnyH_take (i := 10) (v := .int .i64 er) rfl (by kernel_rfl) (by kernel_rfl) (by kernel_rfl) (fun _ _ _ h => h) (.inl ⟨by kernel_rfl, fun w _ => by go_simp⟩) S2.out ?_
    refine wpAnyH_one 11 _ (by kernel_rfl) rfl fun K hK => ?_
    go_simp
    refine hK _ _ S2.out ?_
    clear hK K
    refine wpAnyH_one 12 _ (by kernel_rfl) rfl fun K hK => ?_
    go_simp
    refine hK _ _ S2.out ?_
    clear hK K
    refine wpAnyH_done (by kernel_rfl) ?_ _
    go_wp2
    go_ret2
    exact HO.out
  · skip
    have hr' : isRep m.h.fl = false := by simpa using hr
    rw [hr'] at CI
    have CC := Lib.hid (CA hr')
    clear CA CS
    by_cases hz : sayErrP 13 m.s = 0
    rotate_left
    · have hE := HE.out (by unfold mbErr; rw [if_neg hr, if_neg hz])
      have hz' : (sayErrP 13 m.s == 0) = false := by simpa using hz
      rw [hz'] at CM
      have HE2 := Lib.hid hE
      have B1 := BH.out
      clear hE HE CC CB hz hz' hr hr' hc
      go_enter Tryz.func34, Tryz.ntmps34
      go_wp2_with fail
      refine CR.out.mono ?_
      rintro e w1 ⟨rfl, rfl⟩
      go_wp2_with fail
      refine CI.out.mono ?_
      rintro e w1 ⟨rfl, rfl⟩
      go_wp2_with (first
        | ((with_reducible show wpList _ _ _ (⟨some 29, _, _, _, _, _⟩ :: _) _ _); refine wpList_load_midu rfl _ (.tmp 28) rfl g 95 rfl sc _ (Lib.hid (range_s B1 H26.out H69.out)) Tryz.underlying39 rfl 20 size_say H20 ?_)
        | fail)
      refine CM.out.mono ?_
      rintro e w1 ⟨rfl, L1⟩
      go_wp2
      go_ret2
      exact HE2.out _ _ _ rfl rfl L1
    have hz' : (sayErrP 13 m.s == 0) = true := by simpa using hz
    rw [hz'] at CM
    have HQ : Hid (∀ v e (w1 w' : World), e = .returned (.tuple #[v, .int .i64 (pae c m.a)]) → OwnB w' w1.heap.size v (pao c m.a) → w.heap.size ≤ w1.heap.size → Below w.heap.size w w' → PBPost w m e w') := by
      intro v e w1 w' h1 h2 h3 h4
      have hme : mbErr m = pae c m.a := by unfold mbErr; rw [if_neg hr, if_pos hz, hc]
      have hmo : mbOf m = pao c m.a := by
        unfold mbOf
        by_cases h0 : pae c m.a = 0
        · rw [hme, if_pos h0, if_neg hr, hc]
        · rw [hme, if_neg h0, pae_no h0]
      unfold PBPost
      rw [hme, hmo]
      exact ⟨v, h1, h2.mono h3, h4⟩
    unfold PutsA at CC
    obtain ⟨er, her⟩ : ∃ x, x = pae c m.a := ⟨_, rfl⟩
    rw [← her] at CC HQ
    obtain ⟨ys, hys⟩ : ∃ x, x = pao c m.a := ⟨_, rfl⟩
    rw [← hys] at CC HQ
    have HB2 : Hid (∃ F1 F2 F3, bodiesV c = .agg #[.func (.func (fPA c)) #[] #[], F1, F2, F3]) := ⟨_, _, _, rfl⟩
    obtain ⟨F1, F2, F3, hF⟩ := HB2.out
    rw [hF] at CB
    have hent := ent_PA c
    obtain ⟨fn, hfn⟩ : ∃ x, x = fPA c := ⟨_, rfl⟩
    rw [← hfn] at CC CB hent
    have B1 := BH.out
    clear HE hz hz' hr hr' hc her hys hF HB2 hfn
    go_enter Tryz.func34, Tryz.ntmps34
    go_wp2_with fail
    refine CR.out.mono ?_
    rintro e w1 ⟨rfl, rfl⟩
    go_wp2_with fail
    refine CI.out.mono ?_
    rintro e w1 ⟨rfl, rfl⟩
    go_wp2_with (first
      | ((with_reducible show wpList _ _ _ (⟨some 29, _, _, _, _, _⟩ :: _) _ _); refine wpList_load_midu rfl _ (.tmp 28) rfl g 95 rfl sc _ (Lib.hid (range_s B1 H26.out H69.out)) Tryz.underlying39 rfl 20 size_say H20 ?_)
      | fail)
    refine CM.out.mono ?_
    rintro e w1 ⟨rfl, L1⟩
    have B2 := Lib.hid (B1.over L1)
    have M1 := Lib.hid L1
    clear L1 B1 BH CR CI CN CM
    go_upto_region 13 with fail
    refine wp_region_held (S := fun w' => Blk w' g 65 (hcs ++ (ac ++ sc)) ∧ Below w.heap.size w w') (by kernel_rfl) ?_
    change wpAnyH _ _ _ _ _ _ _ _ w1.drew
    have S0 : Hid (Blk w1.drew g 65 (hcs ++ (ac ++ sc)) ∧ Below w.heap.size w w1.drew) := ⟨B2.out.drew, M1.out.drew⟩
    have b0 : Hid (w.heap.size ≤ w1.drew.heap.size) := M1.out.drew.size
    refine wpAnyH_take (i := 0) (v := _) rfl (by kernel_rfl) (by kernel_rfl) (by kernel_rfl) (fun _ _ _ h => h) (yieldsIf_move (by kernel_rfl) (.tmp 4) rfl (.int .u16 c) (by kernel_rfl)) S0.out ?_
    refine wpAnyH_take (i := 3) (v := _) rfl (by kernel_rfl) (by kernel_rfl) (by kernel_rfl) (fun _ _ _ h => h) (yieldsIf_move (by kernel_rfl) (.tmp 4) rfl (.int .u16 c) (by kernel_rfl)) S0.out ?_
    refine wpAnyH_take (i := 4) (v := _) rfl (by kernel_rfl) (by kernel_rfl) (by kernel_rfl) (fun _ _ _ h => h) (yieldsIf_move (by kernel_rfl) (.tmp 0) rfl (.pointer (some ⟨g, 0, none⟩)) (by kernel_rfl)) S0.out ?_
    refine wpAnyH_take (i := 5) (v := _) rfl (by kernel_rfl) (by kernel_rfl) (by kernel_rfl) (fun _ _ _ h => h) (yieldsIf_nil (by kernel_rfl) (.tmp 36) rfl ⟨g, 0, none⟩ (by kernel_rfl)) S0.out ?_
    refine wpAnyH_take (i := 6) (v := _) rfl (by kernel_rfl) (by kernel_rfl) (by kernel_rfl) (fun _ _ _ h => h) (yieldsIf_fld (by kernel_rfl) _ (.tmp 37) 1 rfl (.pointer (some ⟨g, 0, none⟩)) (.pointer (some ⟨g, 26, none⟩)) (by kernel_rfl) (fld_message1 g)) S0.out ?_
    refine wpAnyH_take (i := 7) (v := _) rfl (by kernel_rfl) (by kernel_rfl) (by kernel_rfl) (fun _ _ _ h => h) (yieldsIf_load_midb (by kernel_rfl) _ (.tmp 38) rfl g 26 (by kernel_rfl) ac (fun _ h => range_a h.1 H26.out) 69 _ Tryz.underlying34 rfl size_ask H69) S0.out ?_
    refine wpAnyH_one 1 _ (by kernel_rfl) rfl fun K hK => ?_
    go_simp
    refine (CB.out _).mono ?_
    rintro e v1 ⟨rfl, b⟩
    have S1 : Hid (Blk v1 g 65 (hcs ++ (ac ++ sc)) ∧ Below w.heap.size w v1) := ⟨S0.out.1.over b, step S0.out.2 b⟩
    have b1 : Hid (w.heap.size ≤ v1.heap.size) := Nat.le_trans b0.out b.size
    refine hK _ _ S1.out ?_
    clear hK K b
    refine wpAnyH_one 2 _ (by kernel_rfl) rfl fun K hK => ?_
    go_simp
    refine hK _ _ S1.out ?_
    clear hK K
    refine wpAnyH_one 8 _ (by kernel_rfl) rfl fun K hK => ?_
    go_simp
    refine (CC.out _ S1.out.2).mono ?_
    rintro e v2 ⟨v, rfl, ho, b⟩
    have S2 : Hid (Blk v2 g 65 (hcs ++ (ac ++ sc)) ∧ Below w.heap.size w v2) := ⟨S1.out.1.over b, step S1.out.2 b⟩
    have b2 : Hid (w.heap.size ≤ v2.heap.size) := Nat.le_trans b1.out b.size
    have HO := Lib.hid (HQ.out v _ _ _ rfl ho b1.out (step S1.out.2 b))
    refine hK _ _ S2.out ?_
    clear hK K b ho
    refine wpAnyH_take (i := 9) (v := v) rfl (by kernel_rfl) (by kernel_rfl) (by kernel_rfl) (fun _ _ _ h => h) (.inl ⟨by kernel_rfl, fun w _ => by go_simp⟩) S2.out ?_
    refine wpAnyH_take (i := 10) (v := .int .i64 er) rfl (by kernel_rfl) (by kernel_rfl) (by kernel_rfl) (fun _ _ _ h => h) (.inl ⟨by kernel_rfl, fun w _ => by go_simp⟩) S2.out ?_
    refine wpAnyH_one 11 _ (by kernel_rfl) rfl fun K hK => ?_
    go_simp
    refine hK _ _ S2.out ?_
    clear hK K
    refine wpAnyH_one 12 _ (by kernel_rfl) rfl fun K hK => ?_
    go_simp
    refine hK _ _ S2.out ?_
    clear hK K
    refine wpAnyH_done (by kernel_rfl) ?_ _
    go_wp2
    go_ret2
    exact HO.out
/-- what Put answers -/
def MPPost (w : World) (m : MsgV) (e : Ending) (w' : World) : Prop := ∃ v, e = .returned (.tuple #[v, .int .i64 (mpErr m)]) ∧ OwnB w' w.heap.size v (mpOf m) ∧ Below w.heap.size w w'
def PutsM (w : World) (m : MsgV) (ac sc : List Value) : Prop := ∀ w' g, Below w.heap.size w w' → Blk w' g 65 (hcells m.h ++ (ac ++ sc)) → Calls Tryz.prog 34 #[.pointer (some ⟨g, 0, none⟩)] w' (PBPost w' m)
set_option maxHeartbeats 4000000 in
theorem Put_of (w : World) (m : MsgV) (ac sc : List Value) (k : m.ok) (l1 : ac.length = 69) (l2 : sc.length = 20) (o1 : ∀ v ∈ ac, v.oneCell' = true) (o2 : ∀ v ∈ sc, v.oneCell' = true) (hy : Bytes (mbOf m)) (hl : (mbOf m).length ≤ 70000) (CB : PutsM w m ac sc) :
    Calls Tryz.prog 12 #[.agg (hcells m.h ++ (ac ++ sc)).toArray] w (MPPost w m) := by
  have H26 := Lib.hid (hcells_len k.h)
  have H69 := Lib.hid l1
  have H20 := Lib.hid l2
  have BM := built3 placed_message H26.out l1 l2
  have ZM := Lib.hid zero_message
  have HZ := Lib.hid zmcells_len
  have HLL : Hid ((hcells m.h ++ (ac ++ sc)).length = 115) := by
    show _ = _
    simp only [List.length_append, H26.out, l1, l2]
  have HOO : Hid (∀ v ∈ hcells m.h ++ (ac ++ sc), v.oneCell' = true) := by
    intro v hv
    rcases List.mem_append.1 hv with hv | hv
    · exact hcells_one _ v hv
    · rcases List.mem_append.1 hv with hv | hv
      · exact o1 v hv
      · exact o2 v hv
  have RH : Hid (∀ (w : World) g T, Blk w g T (hcells m.h ++ (ac ++ sc)) → w.rangeAt g 0 (hcells m.h)) := fun w g T b => range_h b
  have RA : Hid (∀ (w : World) g T, Blk w g T (hcells m.h ++ (ac ++ sc)) → w.rangeAt g 26 ac) := fun w g T b => range_a b H26.out
  have RS : Hid (∀ (w : World) g T, Blk w g T (hcells m.h ++ (ac ++ sc)) → w.rangeAt g 95 sc) := fun w g T b => range_s b H26.out l1
  have RN : Hid (∀ (w : World) g T, Blk w g T (hcells m.h ++ (ac ++ sc)) → w.cell? ⟨g, 5, none⟩ = some (.int .u32 m.h.nx)) := fun w g T b => Blk.cell b 5
  have HY := Lib.hid hy
  have CB' := Lib.hid CB
  unfold PutsM PBPost at CB'
  have HP := Lib.hid (putH_len k.h.len)
  have HPB := Lib.hid (putH_bytes k.h.byte)
  have hE : Hid (∀ er, mpErr m = er → er ≠ 0 → ∀ e w', e = .returned (.tuple #[.slice none 0 0, .int .i64 er]) → Below w.heap.size w w' → MPPost w m e w') := by
    intro er h1 h2 e w' h3 h4
    unfold MPPost mpOf
    rw [h1, if_neg h2]
    exact ⟨_, h3, OwnZ.nil _ _ _ _, h4⟩
  have hQ : Hid (mpErr m = 0 → ∀ v e w', e = .returned (.tuple #[v, .int .i64 0]) → OwnB w' w.heap.size v (putH m.h ++ padded m.h (mbOf m)) → Below w.heap.size w w' → MPPost w m e w') := by
    intro h1 v e w' h3 h4 h5
    unfold MPPost mpOf
    rw [h1, if_pos rfl]
    exact ⟨v, h3, h4, h5⟩
  have hpd := padM_lt (mbOf m).length
  have CM : Hid (∀ (w : World) A n c, n ≤ 281474976710656 → Calls Tryz.prog 36 #[.slice A n c] w fun e w' => e = .returned (.int .i64 (padM n : Nat)) ∧ w = w') := fun w A n c h => missing_any w A n c h
  by_cases hm : mayP m.h = true
  rotate_left
  · have HE := Lib.hid (hE.out 2 (by unfold mpErr; rw [if_neg hm]) (by decide))
    have CH : Hid (∀ w', Calls Tryz.prog 33 #[hv m.h] w' fun e w2 => ∃ A', e = .returned (.tuple #[.slice A' 0 0, .int .i64 2]) ∧ Below w'.heap.size w' w2) := fun w' => put_may_not w' m.h k.h (by simpa using hm)
    obtain ⟨MC, hMC⟩ : ∃ x, x = hcells m.h ++ (ac ++ sc) := ⟨_, rfl⟩
    rw [← hMC] at BM HLL HOO RH RA RS RN CB' ⊢
    obtain ⟨hcs, hhc⟩ : ∃ x, x = hcells m.h := ⟨_, rfl⟩
    unfold hv at CH
    rw [← hhc] at CH H26 BM RH
    obtain ⟨zm, hzm⟩ : ∃ x, x = zmcells := ⟨_, rfl⟩
    rw [← hzm] at ZM HZ
    clear hE hQ hMC hhc hzm hm k CB CB' hy hl RN CM l1 l2 o1 o2 HP HPB HY hpd
    go_enter Tryz.func12, Tryz.ntmps12
    go_wp2_with (first
      | ((with_reducible show wpList _ _ _ (⟨some 1, _, _, _, _, _⟩ :: _) _ _); refine wpList_box_blk rfl _ (.tmp 0) rfl MC rfl ?_; intro g1 w1 hg1 hg2 K1 L1)
      | ((with_reducible show wpList _ _ _ (⟨some 9, _, _, _, _, _⟩ :: _) _ _); refine wpList_load_midu rfl _ (.tmp 8) rfl g1 0 rfl hcs _ (Lib.hid (RH.out _ _ _ K1.out)) Tryz.underlying28 rfl 26 size_hd H26 ?_)
      | ((with_reducible show wpList _ _ _ (⟨some 11, _, _, _, _, _⟩ :: _) _ _); refine wpList_load_midu rfl _ (.tmp 10) rfl g1 26 rfl ac _ (Lib.hid (RA.out _ _ _ K1.out)) Tryz.underlying34 rfl 69 size_ask H69 ?_)
      | ((with_reducible show wpList _ _ _ (⟨some 13, _, _, _, _, _⟩ :: _) _ _); refine wpList_load_midu rfl _ (.tmp 12) rfl g1 95 rfl sc _ (Lib.hid (RS.out _ _ _ K1.out)) Tryz.underlying39 rfl 20 size_say H20 ?_)
      | ((with_reducible show wpList _ _ _ (⟨some 14, _, _, _, _, _⟩ :: _) _ _); refine wpList_build_blk rfl _ _ rfl MC (by refine Eq.trans ?_ BM; kernel_rfl) ?_)
      | ((with_reducible show wpList _ _ _ (⟨some 4, _, _, _, _, _⟩ :: _) _ _); refine wpList_alloc_blk rfl _ rfl zm _ ZM ?_; intro g w2 hg3 hg4 Z2 L02; have L2 := Lib.hid (step L1.out L02.out); have hle : w.heap.size ≤ g := (by have := L1.out.size; omega))
      | ((with_reducible show wpList _ _ _ (⟨none, .store _ (.tmp 4) _, _, _, _, _⟩ :: _) _ _); refine wpList_store_blk rfl _ (.tmp 4) (.tmp 14) rfl g rfl _ zm MC rfl Z2 115 size_message HZ HLL HOO ?_; intro w3 B3 O3 hg5; have L3 := Lib.hid (below_only L2.out O3.out hle))
      | ((with_reducible show wpList _ _ _ (⟨some 17, _, _, _, _, _⟩ :: _) _ _); refine wpList_load_midu rfl _ (.tmp 16) rfl g 0 rfl hcs _ (Lib.hid (RH.out _ _ _ B3.out)) Tryz.underlying28 rfl 26 size_hd H26 ?_)
      | fail)
    refine (CH.out w3).mono ?_
    rintro e w4 ⟨A', rfl, L4⟩
    go_wp2
    go_ret2
    exact HE.out _ _ rfl (step L3.out L4)
  have CH : Hid (∀ w', Calls Tryz.prog 33 #[hv m.h] w' fun e w2 => ∃ A', e = .returned (.tuple #[.slice A' 64 64, .int .i64 0]) ∧ Fresh w2 w'.heap.size A' (putH m.h) ∧ Below w'.heap.size w' w2) := fun w' => put_may w' m.h k.h hm
  have hme : mpErr m = mbErr m := by unfold mpErr; rw [if_pos hm]
  rw [hme] at hE hQ
  obtain ⟨MC, hMC⟩ : ∃ x, x = hcells m.h ++ (ac ++ sc) := ⟨_, rfl⟩
  rw [← hMC] at BM HLL HOO RH RA RS RN CB' ⊢
  obtain ⟨hcs, hhc⟩ : ∃ x, x = hcells m.h := ⟨_, rfl⟩
  unfold hv at CH
  rw [← hhc] at CH H26 BM RH
  obtain ⟨zm, hzm⟩ : ∃ x, x = zmcells := ⟨_, rfl⟩
  rw [← hzm] at ZM HZ
  obtain ⟨er, her⟩ : ∃ x, x = mbErr m := ⟨_, rfl⟩
  rw [← her] at hE hQ CB'
  by_cases h0 : er = 0
  rotate_left
  · have HE := Lib.hid (hE.out er rfl h0)
    have hne : (er != 0) = true := by simpa using h0
    clear hE hQ hMC hhc hzm hm k CB hy hl RN CM l1 l2 o1 o2 HY hpd her h0 hme
    go_enter Tryz.func12, Tryz.ntmps12
    go_wp2_with (first
      | ((with_reducible show wpList _ _ _ (⟨some 1, _, _, _, _, _⟩ :: _) _ _); refine wpList_box_blk rfl _ (.tmp 0) rfl MC rfl ?_; intro g1 w1 hg1 hg2 K1 L1)
      | ((with_reducible show wpList _ _ _ (⟨some 9, _, _, _, _, _⟩ :: _) _ _); refine wpList_load_midu rfl _ (.tmp 8) rfl g1 0 rfl hcs _ (Lib.hid (RH.out _ _ _ K1.out)) Tryz.underlying28 rfl 26 size_hd H26 ?_)
      | ((with_reducible show wpList _ _ _ (⟨some 11, _, _, _, _, _⟩ :: _) _ _); refine wpList_load_midu rfl _ (.tmp 10) rfl g1 26 rfl ac _ (Lib.hid (RA.out _ _ _ K1.out)) Tryz.underlying34 rfl 69 size_ask H69 ?_)
      | ((with_reducible show wpList _ _ _ (⟨some 13, _, _, _, _, _⟩ :: _) _ _); refine wpList_load_midu rfl _ (.tmp 12) rfl g1 95 rfl sc _ (Lib.hid (RS.out _ _ _ K1.out)) Tryz.underlying39 rfl 20 size_say H20 ?_)
      | ((with_reducible show wpList _ _ _ (⟨some 14, _, _, _, _, _⟩ :: _) _ _); refine wpList_build_blk rfl _ _ rfl MC (by refine Eq.trans ?_ BM; kernel_rfl) ?_)
      | ((with_reducible show wpList _ _ _ (⟨some 4, _, _, _, _, _⟩ :: _) _ _); refine wpList_alloc_blk rfl _ rfl zm _ ZM ?_; intro g w2 hg3 hg4 Z2 L02; have L2 := Lib.hid (step L1.out L02.out); have hle : w.heap.size ≤ g := (by have := L1.out.size; omega))
      | ((with_reducible show wpList _ _ _ (⟨none, .store _ (.tmp 4) _, _, _, _, _⟩ :: _) _ _); refine wpList_store_blk rfl _ (.tmp 4) (.tmp 14) rfl g rfl _ zm MC rfl Z2 115 size_message HZ HLL HOO ?_; intro w3 B3 O3 hg5; have L3 := Lib.hid (below_only L2.out O3.out hle))
      | ((with_reducible show wpList _ _ _ (⟨some 17, _, _, _, _, _⟩ :: _) _ _); refine wpList_load_midu rfl _ (.tmp 16) rfl g 0 rfl hcs _ (Lib.hid (RH.out _ _ _ B3.out)) Tryz.underlying28 rfl 26 size_hd H26 ?_)
      | fail)
    refine (CH.out w3).mono ?_
    rintro e w4 ⟨A', rfl, hf, L4⟩
    have B4 := Lib.hid (B3.out.over L4)
    have L4a := Lib.hid (step L3.out L4)
    have HA := Lib.hid (hf.holds HP.out HPB.out (by omega))
    clear K1 L1 Z2 L02 L2 B3 O3 L3 L4 hf CH
    go_wp2_with fail
    refine (CB'.out w4 g L4a.out B4.out).mono ?_
    rintro e w5 ⟨v, rfl, ho, L5⟩
    have L5a := Lib.hid (step L4a.out L5)
    go_wp2
    go_ret2
    exact HE.out _ _ rfl L5a.out
  subst h0
  have HQ := Lib.hid (hQ.out rfl)
  obtain ⟨ys, hys⟩ : ∃ x, x = mbOf m := ⟨_, rfl⟩
  rw [← hys] at HQ HY CB' hl hpd
  obtain ⟨ps, hps⟩ : ∃ x, x = putH m.h := ⟨_, rfl⟩
  rw [← hps] at HQ HP HPB CH
  by_cases hn : m.h.nx = 0
  · have HQ2 : Hid (∀ v e w', e = .returned (.tuple #[v, .int .i64 0]) → OwnB w' w.heap.size v (ps ++ ys) → Below w.heap.size w w' → MPPost w m e w') := by
      have := HQ.out
      unfold padded at this
      rw [if_pos hn] at this
      exact this
    rw [hn] at RN
    clear hE hQ hMC hhc hzm hm k CB hy l1 l2 o1 o2 hpd her hme hn HQ CM hps hys
    go_enter Tryz.func12, Tryz.ntmps12
    go_wp2_with (first
      | ((with_reducible show wpList _ _ _ (⟨some 1, _, _, _, _, _⟩ :: _) _ _); refine wpList_box_blk rfl _ (.tmp 0) rfl MC rfl ?_; intro g1 w1 hg1 hg2 K1 L1)
      | ((with_reducible show wpList _ _ _ (⟨some 9, _, _, _, _, _⟩ :: _) _ _); refine wpList_load_midu rfl _ (.tmp 8) rfl g1 0 rfl hcs _ (Lib.hid (RH.out _ _ _ K1.out)) Tryz.underlying28 rfl 26 size_hd H26 ?_)
      | ((with_reducible show wpList _ _ _ (⟨some 11, _, _, _, _, _⟩ :: _) _ _); refine wpList_load_midu rfl _ (.tmp 10) rfl g1 26 rfl ac _ (Lib.hid (RA.out _ _ _ K1.out)) Tryz.underlying34 rfl 69 size_ask H69 ?_)
      | ((with_reducible show wpList _ _ _ (⟨some 13, _, _, _, _, _⟩ :: _) _ _); refine wpList_load_midu rfl _ (.tmp 12) rfl g1 95 rfl sc _ (Lib.hid (RS.out _ _ _ K1.out)) Tryz.underlying39 rfl 20 size_say H20 ?_)
      | ((with_reducible show wpList _ _ _ (⟨some 14, _, _, _, _, _⟩ :: _) _ _); refine wpList_build_blk rfl _ _ rfl MC (by refine Eq.trans ?_ BM; kernel_rfl) ?_)
      | ((with_reducible show wpList _ _ _ (⟨some 4, _, _, _, _, _⟩ :: _) _ _); refine wpList_alloc_blk rfl _ rfl zm _ ZM ?_; intro g w2 hg3 hg4 Z2 L02; have L2 := Lib.hid (step L1.out L02.out); have hle : w.heap.size ≤ g := (by have := L1.out.size; omega))
      | ((with_reducible show wpList _ _ _ (⟨none, .store _ (.tmp 4) _, _, _, _, _⟩ :: _) _ _); refine wpList_store_blk rfl _ (.tmp 4) (.tmp 14) rfl g rfl _ zm MC rfl Z2 115 size_message HZ HLL HOO ?_; intro w3 B3 O3 hg5; have L3 := Lib.hid (below_only L2.out O3.out hle))
      | ((with_reducible show wpList _ _ _ (⟨some 17, _, _, _, _, _⟩ :: _) _ _); refine wpList_load_midu rfl _ (.tmp 16) rfl g 0 rfl hcs _ (Lib.hid (RH.out _ _ _ B3.out)) Tryz.underlying28 rfl 26 size_hd H26 ?_)
      | fail)
    refine (CH.out w3).mono ?_
    rintro e w4 ⟨A', rfl, hf, L4⟩
    have B4 := Lib.hid (B3.out.over L4)
    have L4a := Lib.hid (step L3.out L4)
    have HA := Lib.hid (hf.holds HP.out HPB.out (by omega))
    clear K1 L1 Z2 L02 L2 B3 O3 L3 L4 hf CH
    go_wp2_with fail
    refine (CB'.out w4 g L4a.out B4.out).mono ?_
    rintro e w5 ⟨v, rfl, ho, L5⟩
    have L5a := Lib.hid (step L4a.out L5)
    have B5 := Lib.hid (B4.out.over L5)
    have gn := RN.out _ _ _ B5.out
    have HA5 := Lib.hid (HA.out.over L5)
    obtain ⟨A5, c5, rfl, hh5⟩ := OwnZ.holds8 ho HY.out (by omega)
    have H5 := Lib.hid hh5
    obtain ⟨n, hnn⟩ : ∃ x, x = ys.length := ⟨_, rfl⟩
    rw [← hnn] at H5 hl ⊢
    clear B4 L4a HA ho hh5 hnn L5
    go_wp2_with (first
      | ((with_reducible show wpList _ _ _ (⟨some 37, _, _, _, _, _⟩ :: _) _ _); refine wpList_litParts rfl 2 _ rfl [(A', 64, 64, ps), (A5, n, c5, ys)] rfl (by kernel_rfl) (List.forall_mem_cons.2 ⟨HA5.out, List.forall_mem_cons.2 ⟨H5.out, fun _ h => by cases h⟩⟩) ?_; intro g6 w6 P6 b6)
      | fail)
    refine (ConcatZ_any _ g6 2 _ _ _ _ P6.out (by omega) (by show 0 + 64 + n ≤ _; omega)).mono ?_
    rintro e w7 ⟨u, rfl, hu, L7⟩
    have M6 := Lib.hid (step L5a.out b6.out)
    have HO : Hid (OwnB w7 w.heap.size u (ps ++ ys)) := by
      show OwnZ .u8 5 w7 w.heap.size u (ps ++ ys)
      have := hu.mono (base' := w.heap.size) M6.out.size
      simpa [catL, partX] using this
    have M7 := Lib.hid (step M6.out L7)
    clear hu L7 P6 b6 M6
    go_wp2
    go_ret2
    exact HQ2.out _ _ _ rfl HO.out M7.out
  · have HQ2 : Hid (∀ v e w', e = .returned (.tuple #[v, .int .i64 0]) → OwnB w' w.heap.size v (ps ++ (ys ++ List.replicate (padM ys.length) 0)) → Below w.heap.size w w' → MPPost w m e w') := by
      have := HQ.out
      unfold padded at this
      rw [if_neg hn] at this
      exact this
    have hnx : (m.h.nx == 0) = false := by simpa using hn
    obtain ⟨nx, hnxe⟩ : ∃ x, x = m.h.nx := ⟨_, rfl⟩
    rw [← hnxe] at RN hnx
    clear hE hQ hMC hhc hzm hm k CB hy l1 l2 o1 o2 her hme hn HQ hnxe hps hys
    go_enter Tryz.func12, Tryz.ntmps12
    go_wp2_with (first
      | ((with_reducible show wpList _ _ _ (⟨some 1, _, _, _, _, _⟩ :: _) _ _); refine wpList_box_blk rfl _ (.tmp 0) rfl MC rfl ?_; intro g1 w1 hg1 hg2 K1 L1)
      | ((with_reducible show wpList _ _ _ (⟨some 9, _, _, _, _, _⟩ :: _) _ _); refine wpList_load_midu rfl _ (.tmp 8) rfl g1 0 rfl hcs _ (Lib.hid (RH.out _ _ _ K1.out)) Tryz.underlying28 rfl 26 size_hd H26 ?_)
      | ((with_reducible show wpList _ _ _ (⟨some 11, _, _, _, _, _⟩ :: _) _ _); refine wpList_load_midu rfl _ (.tmp 10) rfl g1 26 rfl ac _ (Lib.hid (RA.out _ _ _ K1.out)) Tryz.underlying34 rfl 69 size_ask H69 ?_)
      | ((with_reducible show wpList _ _ _ (⟨some 13, _, _, _, _, _⟩ :: _) _ _); refine wpList_load_midu rfl _ (.tmp 12) rfl g1 95 rfl sc _ (Lib.hid (RS.out _ _ _ K1.out)) Tryz.underlying39 rfl 20 size_say H20 ?_)
      | ((with_reducible show wpList _ _ _ (⟨some 14, _, _, _, _, _⟩ :: _) _ _); refine wpList_build_blk rfl _ _ rfl MC (by refine Eq.trans ?_ BM; kernel_rfl) ?_)
      | ((with_reducible show wpList _ _ _ (⟨some 4, _, _, _, _, _⟩ :: _) _ _); refine wpList_alloc_blk rfl _ rfl zm _ ZM ?_; intro g w2 hg3 hg4 Z2 L02; have L2 := Lib.hid (step L1.out L02.out); have hle : w.heap.size ≤ g := (by have := L1.out.size; omega))
      | ((with_reducible show wpList _ _ _ (⟨none, .store _ (.tmp 4) _, _, _, _, _⟩ :: _) _ _); refine wpList_store_blk rfl _ (.tmp 4) (.tmp 14) rfl g rfl _ zm MC rfl Z2 115 size_message HZ HLL HOO ?_; intro w3 B3 O3 hg5; have L3 := Lib.hid (below_only L2.out O3.out hle))
      | ((with_reducible show wpList _ _ _ (⟨some 17, _, _, _, _, _⟩ :: _) _ _); refine wpList_load_midu rfl _ (.tmp 16) rfl g 0 rfl hcs _ (Lib.hid (RH.out _ _ _ B3.out)) Tryz.underlying28 rfl 26 size_hd H26 ?_)
      | fail)
    refine (CH.out w3).mono ?_
    rintro e w4 ⟨A', rfl, hf, L4⟩
    have B4 := Lib.hid (B3.out.over L4)
    have L4a := Lib.hid (step L3.out L4)
    have HA := Lib.hid (hf.holds HP.out HPB.out (by omega))
    clear K1 L1 Z2 L02 L2 B3 O3 L3 L4 hf CH
    go_wp2_with fail
    refine (CB'.out w4 g L4a.out B4.out).mono ?_
    rintro e w5 ⟨v, rfl, ho, L5⟩
    have L5a := Lib.hid (step L4a.out L5)
    have B5 := Lib.hid (B4.out.over L5)
    have gn := RN.out _ _ _ B5.out
    have HA5 := Lib.hid (HA.out.over L5)
    obtain ⟨A5, c5, rfl, hh5⟩ := OwnZ.holds8 ho HY.out (by omega)
    have H5 := Lib.hid hh5
    obtain ⟨n, hnn⟩ : ∃ x, x = ys.length := ⟨_, rfl⟩
    rw [← hnn] at H5 hl HQ2 hpd ⊢
    clear B4 L4a HA ho hh5 hnn L5
    obtain ⟨p, hp⟩ : ∃ x, x = padM n := ⟨_, rfl⟩
    have CMn : Hid (∀ w' : World, Calls Tryz.prog 36 #[.slice A5 n c5] w' fun e w2 => e = .returned (.int .i64 (p : Nat)) ∧ w' = w2) := by
      rw [hp]
      exact fun w' => CM.out w' A5 n c5 (by omega)
    rw [← hp] at HQ2 hpd
    clear hp CM
    have hpl : p ≤ 281474976710656 := by omega
    go_wp2_with fail
    refine (CMn.out _).mono ?_
    rintro e w6 ⟨rfl, rfl⟩
    go_wp2_with (first
      | (at_make; refine wpList_make_bytes _ rfl _ _ rfl _ _ p rfl rfl rfl rfl hpl ?_; intro w6 R6 L6; have HR6 : Hid (Holds w6 w6.heap.size (some ⟨w5.heap.size, 0, none⟩) p p (List.replicate p 0)) := Fresh.holds (base := w5.heap.size) (.inr ⟨_, rfl, Nat.le_refl _, R6.out⟩) (by simp) (Bytes.zeros _) (by omega))
      | ((with_reducible show wpList _ _ _ (⟨some 44, _, _, _, _, _⟩ :: _) _ _); refine wpList_litParts rfl 3 _ rfl [(A', 64, 64, ps), (A5, n, c5, ys), (some ⟨w5.heap.size, 0, none⟩, p, p, List.replicate p 0)] rfl (by kernel_rfl) (List.forall_mem_cons.2 ⟨HA5.out.over L6, List.forall_mem_cons.2 ⟨H5.out.over L6, List.forall_mem_cons.2 ⟨HR6.out, fun _ h => by cases h⟩⟩⟩) ?_; intro g7 w7 P7 b7)
      | fail)
    refine (ConcatZ_any _ g7 3 _ _ _ _ P7.out (by omega) (by show 0 + 64 + n + p ≤ _; omega)).mono ?_
    rintro e w8 ⟨u, rfl, hu, L8⟩
    have M7 := Lib.hid (step (step L5a.out L6) b7.out)
    have HO : Hid (OwnB w8 w.heap.size u (ps ++ (ys ++ List.replicate p 0))) := by
      show OwnZ .u8 5 w8 w.heap.size u (ps ++ (ys ++ List.replicate p 0))
      have := hu.mono (base' := w.heap.size) M7.out.size
      simpa [catL, partX] using this
    have M8 := Lib.hid (step M7.out L8)
    clear hu L8 P7 b7 M7 L6 R6
    go_wp2
    go_ret2
    exact HQ2.out _ _ _ rfl HO.out M8.out
end Go.Proofs.YtpodpmckdiijhaaGreatDoor

namespace Go.Proofs.YtpodpmckdiijhaaGreatDoor
set_option linter.all false
open Go.RowKit
set_option linter.unusedVariables false
set_option linter.unusedSimpArgs false
set_option maxRecDepth 100000
/-! ### an Ask, a Say, whose lists lie above a block -/
def UpV (lo : Nat) (o : Option Value) : Prop := ∀ b off s n c, o = some (.slice (some ⟨b, off, s⟩) n c) → lo ≤ b
def UpA (lo : Nat) (cs : List Value) (a : AskV) : Prop := (a.dial = [] ∨ UpV lo cs[0]?) ∧ (a.data = [] ∨ UpV lo cs[61]?) ∧ (a.locks = [] ∨ UpV lo cs[62]?)
def UpS (lo : Nat) (cs : List Value) (s : SayV) : Prop := (s.data = [] ∨ UpV lo cs[15]?) ∧ (s.ents = [] ∨ UpV lo cs[17]?)
theorem UpV.mono {lo lo' : Nat} {o : Option Value} (h : UpV lo o) (hl : lo' ≤ lo) : UpV lo' o := fun b off s n c e => Nat.le_trans hl (h b off s n c e)
theorem UpA.mono {lo lo' : Nat} {cs : List Value} {a : AskV} (h : UpA lo cs a) (hl : lo' ≤ lo) : UpA lo' cs a := ⟨h.1.imp id (·.mono hl), h.2.1.imp id (·.mono hl), h.2.2.imp id (·.mono hl)⟩
theorem UpS.mono {lo lo' : Nat} {cs : List Value} {s : SayV} (h : UpS lo cs s) (hl : lo' ≤ lo) : UpS lo' cs s := ⟨h.1.imp id (·.mono hl), h.2.imp id (·.mono hl)⟩
theorem Only.cellNe {w w' : World} {g b o : Nat} (hO : Only g w w') (hb : b ≠ g) : w'.cell? ⟨b, o, none⟩ = w.cell? ⟨b, o, none⟩ := by
  unfold World.cell?
  rw [hO.rest b hb]
theorem HoldsF.onlyUp {α : Type} {f : α → Value} {w w' : World} {B g lo n c : Nat} {A : Option Addr} {xs : List α} (h : HoldsF f w B A n c xs) (hO : Only g w w') (hu : xs = [] ∨ UpV lo (some (.slice A n c))) (hg : g < lo) : HoldsF f w' B A n c xs :=
  ⟨h.len, h.fit, h.bare, fun h0 => by
    obtain ⟨b, off, hA, hb, hc⟩ := h.cells h0
    refine ⟨b, off, hA, hb, fun i x hi => ?_⟩
    have hne : b ≠ g := by
      rcases hu with hu | hu
      · have := h.len; rw [hu] at this; simp at this; omega
      · have := hu b off none n c (by rw [hA]); omega
    rw [hO.cellNe hne]
    exact hc i x hi⟩
theorem Holds.onlyUp {w w' : World} {B g lo n c : Nat} {A : Option Addr} {xs : List Int} (h : Holds w B A n c xs) (hO : Only g w w') (hu : xs = [] ∨ UpV lo (some (.slice A n c))) (hg : g < lo) : Holds w' B A n c xs :=
  ⟨h.len, h.fit, h.room, h.byte, h.bare, fun h0 => by
    obtain ⟨b, off, hA, hb, hc⟩ := h.cells h0
    refine ⟨b, off, hA, hb, fun i hi => ?_⟩
    have hne : b ≠ g := by
      rcases hu with hu | hu
      · have := h.len; rw [hu] at this; simp at this; omega
      · have := hu b off none n c (by rw [hA]); omega
    rw [hO.cellNe hne]
    exact hc i hi⟩
theorem HoldsS.onlyUp {α : Type} {f : α → List Value} {s : Nat} {w w' : World} {B g lo n c : Nat} {A : Option Addr} {xs : List α} (h : HoldsS f s w B A n c xs) (hO : Only g w w') (hu : xs = [] ∨ UpV lo (some (.slice A n c))) (hg : g < lo) : HoldsS f s w' B A n c xs :=
  ⟨h.len, h.fit, h.bare, fun h0 => by
    obtain ⟨b, off, hA, hb, hc⟩ := h.cells h0
    refine ⟨b, off, hA, hb, fun i x hi j u hj => ?_⟩
    have hne : b ≠ g := by
      rcases hu with hu | hu
      · have := h.len; rw [hu] at this; simp at this; omega
      · have := hu b off none n c (by rw [hA]); omega
    rw [hO.cellNe hne]
    exact hc i x hi j u hj⟩
/-- an Ask that came of a call: its lists lie above block lo, its Data is the call's own -/
def GA (w : World) (lo : Nat) (ac : List Value) (a : AskV) : Prop := a.ok ∧ AskIs w w.heap.size ac a ∧ UpA lo ac a ∧ ∃ vx, ac[61]? = some vx ∧ OwnB w lo vx a.data
def GS (w : World) (lo : Nat) (sc : List Value) (s : SayV) : Prop := s.ok ∧ SayIs w w.heap.size sc s ∧ UpS lo sc s ∧ ∃ vx, sc[15]? = some vx ∧ OwnB w lo vx s.data
theorem OwnZ.onlyLow {k : IntKind} {e : TypeId} {w w' : World} {base b : Nat} {v : Value} {xs : List Int} (h : OwnZ k e w base v xs) (hO : Only b w w') (hb : b < base) : OwnZ k e w' base v xs :=
  h.keep fun i cs hi hc => hO.rest i (by
    obtain ⟨h1, _⟩ := h.own.block hi
    omega)
theorem GA.only {w w' : World} {lo g : Nat} {ac : List Value} {a : AskV} (h : GA w lo ac a) (hO : Only g w w') (hg : g < lo) : GA w' lo ac a := by
  obtain ⟨k, ⟨Ad, nd, cd, Ax, nx, cx, Al, nl, cl, rfl, h1, h2, h3⟩, ⟨u1, u2, u3⟩, vx, hx, ho⟩ := h
  rw [show (acells (.slice Ad nd cd) (.slice Ax nx cx) (.slice Al nl cl) a)[61]? = some (.slice Ax nx cx) from acells_get k 12] at u2
  rw [show (acells (.slice Ad nd cd) (.slice Ax nx cx) (.slice Al nl cl) a)[62]? = some (.slice Al nl cl) from acells_get k 13] at u3
  have u1' : a.dial = [] ∨ UpV lo (some (.slice Ad nd cd)) := u1
  refine ⟨k, ⟨Ad, nd, cd, Ax, nx, cx, Al, nl, cl, rfl, ?_, ?_, ?_⟩, ⟨u1, ?_, ?_⟩, vx, hx, ho.onlyLow hO hg⟩
  · rw [hO.size]; exact h1.onlyUp hO u1' hg
  · rw [hO.size]; exact h2.onlyUp hO u2 hg
  · rw [hO.size]; exact h3.onlyUp hO u3 hg
  · rw [show (acells (.slice Ad nd cd) (.slice Ax nx cx) (.slice Al nl cl) a)[61]? = some (.slice Ax nx cx) from acells_get k 12]; exact u2
  · rw [show (acells (.slice Ad nd cd) (.slice Ax nx cx) (.slice Al nl cl) a)[62]? = some (.slice Al nl cl) from acells_get k 13]; exact u3
theorem GS.only {w w' : World} {lo g : Nat} {sc : List Value} {s : SayV} (h : GS w lo sc s) (hO : Only g w w') (hg : g < lo) : GS w' lo sc s := by
  obtain ⟨k, ⟨Ax, nx, cx, Al, nl, cl, rfl, h2, h3⟩, ⟨u2, u3⟩, vx, hx, ho⟩ := h
  rw [show (scells (.slice Ax nx cx) (.slice Al nl cl) s)[15]? = some (.slice Ax nx cx) from scells_get k 5] at u2
  rw [show (scells (.slice Ax nx cx) (.slice Al nl cl) s)[17]? = some (.slice Al nl cl) from scells_get k 7] at u3
  refine ⟨k, ⟨Ax, nx, cx, Al, nl, cl, rfl, ?_, ?_⟩, ⟨?_, ?_⟩, vx, hx, ho.onlyLow hO hg⟩
  · rw [hO.size]; exact h2.onlyUp hO u2 hg
  · rw [hO.size]; exact h3.onlyUp hO u3 hg
  · rw [show (scells (.slice Ax nx cx) (.slice Al nl cl) s)[15]? = some (.slice Ax nx cx) from scells_get k 5]; exact u2
  · rw [show (scells (.slice Ax nx cx) (.slice Al nl cl) s)[17]? = some (.slice Al nl cl) from scells_get k 7]; exact u3
theorem GA.over {w w' : World} {lo : Nat} {ac : List Value} {a : AskV} (h : GA w lo ac a) (hb : Below w.heap.size w w') : GA w' lo ac a := by
  obtain ⟨k, h1, h2, vx, hx, ho⟩ := h
  exact ⟨k, h1.over hb, h2, vx, hx, ho.below hb⟩
theorem GS.over {w w' : World} {lo : Nat} {sc : List Value} {s : SayV} (h : GS w lo sc s) (hb : Below w.heap.size w w') : GS w' lo sc s := by
  obtain ⟨k, h1, h2, vx, hx, ho⟩ := h
  exact ⟨k, h1.over hb, h2, vx, hx, ho.below hb⟩
theorem GA.mono {w : World} {lo lo' : Nat} {ac : List Value} {a : AskV} (h : GA w lo ac a) (hl : lo' ≤ lo) : GA w lo' ac a := by
  obtain ⟨k, h1, h2, vx, hx, ho⟩ := h
  exact ⟨k, h1, h2.mono hl, vx, hx, ho.mono hl⟩
theorem GS.mono {w : World} {lo lo' : Nat} {sc : List Value} {s : SayV} (h : GS w lo sc s) (hl : lo' ≤ lo) : GS w lo' sc s := by
  obtain ⟨k, h1, h2, vx, hx, ho⟩ := h
  exact ⟨k, h1, h2.mono hl, vx, hx, ho.mono hl⟩
def zac : List Value := acells (.slice none 0 0) (.slice none 0 0) (.slice none 0 0) zeroAsk
def zsc : List Value := scells (.slice none 0 0) (.slice none 0 0) zeroSay
theorem GA.zero (w : World) (lo : Nat) : GA w lo zac zeroAsk := ⟨zeroAsk_ok, zeroAsk_is w _, ⟨.inl rfl, .inl rfl, .inl rfl⟩, .slice none 0 0, rfl, OwnZ.nil _ _ _ _⟩
theorem GS.zero (w : World) (lo : Nat) : GS w lo zsc zeroSay := ⟨zeroSay_ok, zeroSay_is w _, ⟨.inl rfl, .inl rfl⟩, .slice none 0 0, rfl, OwnZ.nil _ _ _ _⟩
theorem GA.len {w : World} {lo : Nat} {ac : List Value} {a : AskV} (h : GA w lo ac a) : ac.length = 69 := h.2.1.len h.1
theorem GS.len {w : World} {lo : Nat} {sc : List Value} {s : SayV} (h : GS w lo sc s) : sc.length = 20 := h.2.1.len h.1
theorem GA.one {w : World} {lo : Nat} {ac : List Value} {a : AskV} (h : GA w lo ac a) : ∀ v ∈ ac, v.oneCell' = true := h.2.1.one
theorem GS.one {w : World} {lo : Nat} {sc : List Value} {s : SayV} (h : GS w lo sc s) : ∀ v ∈ sc, v.oneCell' = true := h.2.1.one
/-! ### getBody -/
def GetsA (w : World) (c : Int) (A : Option Addr) (n k : Nat) (xs : List Int) : Prop := ∀ w', Below w.heap.size w w' → Calls Tryz.prog (fGA c) #[.int .u16 c, .slice A n k] w' fun e w2 => ∃ cs, e = .returned (.tuple #[.agg cs.toArray, .int .i64 (gae c xs)]) ∧ GA w2 w'.heap.size cs (gao c xs) ∧ Below w'.heap.size w' w2
def GetsS (w : World) (c : Int) (A : Option Addr) (n k : Nat) (xs : List Int) : Prop := ∀ w', Below w.heap.size w w' → Calls Tryz.prog (fGS c) #[.int .u16 c, .slice A n k] w' fun e w2 => ∃ cs, e = .returned (.tuple #[.agg cs.toArray, .int .i64 (gse c xs)]) ∧ GS w2 w'.heap.size cs (gso c xs) ∧ Below w'.heap.size w' w2
def GotM (w w' : World) (h : Hd) (ac sc ac' sc' : List Value) (xs : List Int) : Prop := (isRep h.fl = true → ac' = ac ∧ GS w' w.heap.size sc' (gso (rowM h) xs)) ∧ (isRep h.fl = false → sc' = sc ∧ GA w' w.heap.size ac' (gao (rowM h) xs))
def GBPost (w : World) (g : Nat) (h : Hd) (ac sc : List Value) (xs : List Int) (e : Ending) (w' : World) : Prop :=
  ∃ ac' sc', e = .returned (.int .i64 (gbErr h xs)) ∧ Blk w' g 65 (hcells h ++ (ac' ++ sc')) ∧ ac'.length = 69 ∧ sc'.length = 20 ∧ Save g w w' ∧ GotM w w' h ac sc ac' sc' xs
set_option maxHeartbeats 4000000 in
theorem getBody_of (w : World) (g : Nat) (h : Hd) (ac sc : List Value) (k : h.ok) (B : Blk w g 65 (hcells h ++ (ac ++ sc))) (l1 : ac.length = 69) (l2 : sc.length = 20) (A : Option Addr) (n c : Nat) (xs : List Int)
    (CA : isRep h.fl = false → GetsA w (rowM h) A n c xs) (CS : isRep h.fl = true → GetsS w (rowM h) A n c xs) :
    Calls Tryz.prog 76 #[.pointer (some ⟨g, 0, none⟩), .slice A n c] w (GBPost w g h ac sc xs) := by
  have CR := Lib.hid (row_any w g h k _ B)
  have CI := Lib.hid (isReply_any w g h k _ B)
  have H26 := Lib.hid (hcells_len k)
  have HLL : Hid ((hcells h ++ (ac ++ sc)).length = 115) := by
    show _ = _
    simp only [List.length_append, H26.out, l1, l2]
  have CB : Hid (∀ w', Calls Tryz.prog 58 #[.int .u16 (rowM h)] w' fun e w2 => e = .returned (bodiesV (rowM h)) ∧ Below w'.heap.size w' w2) := fun w' => bodiesOf_any w' _ (rowM_in k)
  have TA : Hid (∀ ac', (hcells h ++ (ac ++ sc)).take 26 ++ (ac' ++ (hcells h ++ (ac ++ sc)).drop (26 + 69)) = hcells h ++ (ac' ++ sc)) := fun ac' => by
    rw [List.take_left' H26.out, ← List.drop_drop, List.drop_left' H26.out, List.drop_left' l1]
  have TS : Hid (∀ sc', (hcells h ++ (ac ++ sc)).take 95 ++ (sc' ++ (hcells h ++ (ac ++ sc)).drop (95 + 20)) = hcells h ++ (ac ++ sc')) := fun sc' => by
    have hl : (hcells h ++ ac).length = 95 := by rw [List.length_append, H26.out, l1]
    rw [← List.append_assoc (hcells h), List.take_left' hl, ← List.drop_drop, List.drop_left' hl, List.drop_of_length_le (by omega)]
    simp
  have gl := B.lt
  have BH := Lib.hid B
  have F1 := fld_message1 g
  have F2 := fld_message2 g
  obtain ⟨MC, hMC⟩ : ∃ x, x = hcells h ++ (ac ++ sc) := ⟨_, rfl⟩
  rw [← hMC] at TA TS BH HLL
  obtain ⟨q, hq⟩ : ∃ x, x = rowM h := ⟨_, rfl⟩
  rw [← hq] at CR CB CA CS
  clear hMC B H26
  by_cases hr : isRep h.fl = true
  · skip
    have CC := Lib.hid (CS hr)
    rw [hr] at CI
    have hent := ent_GS q
    obtain ⟨fA, fB, fC, hF⟩ : ∃ F1 F2 F3, bodiesV q = .agg #[F1, F2, F3, .func (.func (fGS q)) #[] #[]] := ⟨_, _, _, rfl⟩
    rw [hF] at CB
    unfold GetsS at CC
    obtain ⟨fn, hfn⟩ : ∃ x, x = fGS q := ⟨_, rfl⟩
    rw [← hfn] at CC CB hent
    have HP : Hid (∀ sc' e w', e = .returned (.int .i64 (gbErr h xs)) → Blk w' g 65 (hcells h ++ (ac ++ sc')) → Save g w w' → GS w' w.heap.size sc' (gso q xs) → GBPost w g h ac sc xs e w') := by
      intro sc' e w' h1 h2 h3 h4
      exact ⟨ac, sc', h1, h2, l1, h4.len, h3, fun _ => ⟨rfl, by rw [← hq]; exact h4⟩, fun h5 => absurd h5 (by rw [hr]; decide)⟩
    have hge : gbErr h xs = if gse q xs = 2 then 5 else gse q xs := by unfold gbErr; rw [if_pos hr, hq]
    rw [hge] at HP
    obtain ⟨er, her⟩ : ∃ x, x = gse q xs := ⟨_, rfl⟩
    rw [← her] at CC HP
    by_cases h2 : er = 2
    · subst h2
      rw [if_pos rfl] at HP
      clear her hge hfn hF hr CA CS hq l1 l2 k
      go_enter Tryz.func76, Tryz.ntmps76
      go_wp2_with fail
      refine CR.out.mono ?_
      rintro e w1 ⟨rfl, rfl⟩
      go_wp2_with fail
      refine CI.out.mono ?_
      rintro e w1 ⟨rfl, rfl⟩
      go_wp2_with fail
      refine (CB.out w).mono ?_
      rintro e w2 ⟨rfl, L2⟩
      have B2 := Lib.hid (BH.out.over L2)
      have M2 := Lib.hid L2
      have e2 := L2.size
      clear L2 BH CB CR CI
      go_wp2_with (first
        | ((with_reducible show wpList _ _ _ (⟨some 28, _, _, _, _, _⟩ :: _) _ _); refine wpList_plain rfl fun K hK => ?_; go_simp; refine hK _ _ ?_; clear hK K)
        | fail)
      refine (CC.out w2 M2.out).mono ?_
      rintro e w3 ⟨cs, rfl, hg, L3⟩
      have B3 := Lib.hid (B2.out.over L3)
      have M3 := Lib.hid (step M2.out L3)
      have GG := Lib.hid hg
      have e3 := L3.size
      have HL1 := Lib.hid hg.len
      have HO1 := Lib.hid hg.one
      clear hg L3 B2 M2 CC
      go_wp2_with (first
        | ((with_reducible show wpList _ _ _ (⟨none, .store _ (.tmp 35) _, _, _, _, _⟩ :: _) _ _); refine wpList_store_midb rfl _ (.tmp 35) (.tmp 32) rfl g 95 rfl _ MC cs rfl B3 20 size_say HL1 (Lib.hid (by rw [HLL.out]; omega)) HO1 ?_; intro w4 B4 O4 hg4; rw [TS.out] at B4; have SV : Hid (Save g w w4) := (Save.of_below M3.out g).trans (Save.of_only O4.out); have G4 : Hid (GS w4 w.heap.size cs (gso q xs)) := (GG.out.mono e2).only O4.out gl)
        | fail)
      go_ret
      exact HP.out cs _ _ rfl B4.out SV.out G4.out
    · rw [if_neg h2] at HP
      have hne : (er == 2) = false := by simpa using h2
      clear her hge hfn hF hr CA CS hq h2 l1 l2 k
      go_enter Tryz.func76, Tryz.ntmps76
      go_wp2_with fail
      refine CR.out.mono ?_
      rintro e w1 ⟨rfl, rfl⟩
      go_wp2_with fail
      refine CI.out.mono ?_
      rintro e w1 ⟨rfl, rfl⟩
      go_wp2_with fail
      refine (CB.out w).mono ?_
      rintro e w2 ⟨rfl, L2⟩
      have B2 := Lib.hid (BH.out.over L2)
      have M2 := Lib.hid L2
      have e2 := L2.size
      clear L2 BH CB CR CI
      go_wp2_with (first
        | ((with_reducible show wpList _ _ _ (⟨some 28, _, _, _, _, _⟩ :: _) _ _); refine wpList_plain rfl fun K hK => ?_; go_simp; refine hK _ _ ?_; clear hK K)
        | fail)
      refine (CC.out w2 M2.out).mono ?_
      rintro e w3 ⟨cs, rfl, hg, L3⟩
      have B3 := Lib.hid (B2.out.over L3)
      have M3 := Lib.hid (step M2.out L3)
      have GG := Lib.hid hg
      have e3 := L3.size
      have HL1 := Lib.hid hg.len
      have HO1 := Lib.hid hg.one
      clear hg L3 B2 M2 CC
      go_wp2_with (first
        | ((with_reducible show wpList _ _ _ (⟨none, .store _ (.tmp 35) _, _, _, _, _⟩ :: _) _ _); refine wpList_store_midb rfl _ (.tmp 35) (.tmp 32) rfl g 95 rfl _ MC cs rfl B3 20 size_say HL1 (Lib.hid (by rw [HLL.out]; omega)) HO1 ?_; intro w4 B4 O4 hg4; rw [TS.out] at B4; have SV : Hid (Save g w w4) := (Save.of_below M3.out g).trans (Save.of_only O4.out); have G4 : Hid (GS w4 w.heap.size cs (gso q xs)) := (GG.out.mono e2).only O4.out gl)
        | fail)
      go_ret
      exact HP.out cs _ _ rfl B4.out SV.out G4.out
  · have hr' : isRep h.fl = false := by simpa using hr
    have CC := Lib.hid (CA hr')
    rw [hr'] at CI
    have hent := ent_GA q
    obtain ⟨fA, fB, fC, hF⟩ : ∃ F1 F2 F3, bodiesV q = .agg #[F1, .func (.func (fGA q)) #[] #[], F2, F3] := ⟨_, _, _, rfl⟩
    rw [hF] at CB
    unfold GetsA at CC
    obtain ⟨fn, hfn⟩ : ∃ x, x = fGA q := ⟨_, rfl⟩
    rw [← hfn] at CC CB hent
    have HP : Hid (∀ ac' e w', e = .returned (.int .i64 (gbErr h xs)) → Blk w' g 65 (hcells h ++ (ac' ++ sc)) → Save g w w' → GA w' w.heap.size ac' (gao q xs) → GBPost w g h ac sc xs e w') := by
      intro ac' e w' h1 h2 h3 h4
      exact ⟨ac', sc, h1, h2, h4.len, l2, h3, fun h5 => absurd h5 (by rw [hr']; decide), fun _ => ⟨rfl, by rw [← hq]; exact h4⟩⟩
    have hge : gbErr h xs = gae q xs := by unfold gbErr; rw [if_neg hr, hq]
    rw [hge] at HP
    obtain ⟨er, her⟩ : ∃ x, x = gae q xs := ⟨_, rfl⟩
    rw [← her] at CC HP
    clear her hge hfn hF hr hr' CA CS hq l1 l2 k
    go_enter Tryz.func76, Tryz.ntmps76
    go_wp2_with fail
    refine CR.out.mono ?_
    rintro e w1 ⟨rfl, rfl⟩
    go_wp2_with fail
    refine CI.out.mono ?_
    rintro e w1 ⟨rfl, rfl⟩
    go_wp2_with fail
    refine (CB.out w).mono ?_
    rintro e w2 ⟨rfl, L2⟩
    have B2 := Lib.hid (BH.out.over L2)
    have M2 := Lib.hid L2
    have e2 := L2.size
    clear L2 BH CB CR CI
    go_wp2_with (first
      | ((with_reducible show wpList _ _ _ (⟨some 15, _, _, _, _, _⟩ :: _) _ _); refine wpList_plain rfl fun K hK => ?_; go_simp; refine hK _ _ ?_; clear hK K)
      | fail)
    refine (CC.out w2 M2.out).mono ?_
    rintro e w3 ⟨cs, rfl, hg, L3⟩
    have B3 := Lib.hid (B2.out.over L3)
    have M3 := Lib.hid (step M2.out L3)
    have GG := Lib.hid hg
    have e3 := L3.size
    have HL1 := Lib.hid hg.len
    have HO1 := Lib.hid hg.one
    clear hg L3 B2 M2 CC
    go_wp2_with (first
      | ((with_reducible show wpList _ _ _ (⟨none, .store _ (.tmp 22) _, _, _, _, _⟩ :: _) _ _); refine wpList_store_midb rfl _ (.tmp 22) (.tmp 19) rfl g 26 rfl _ MC cs rfl B3 69 size_ask HL1 (Lib.hid (by rw [HLL.out]; omega)) HO1 ?_; intro w4 B4 O4 hg4; rw [TA.out] at B4; have SV : Hid (Save g w w4) := (Save.of_below M3.out g).trans (Save.of_only O4.out); have G4 : Hid (GA w4 w.heap.size cs (gao q xs)) := (GG.out.mono e2).only O4.out gl)
      | fail)
    go_ret
    exact HP.out cs _ _ rfl B4.out SV.out G4.out
/-! ### getBehind, where no message follows -/
def BHPost (w : World) (g : Nat) (h : Hd) (ac sc : List Value) (xs : List Int) (e : Ending) (w' : World) : Prop :=
  ∃ ac' sc', e = .returned (.int .i64 (bhErr h xs)) ∧ Blk w' g 65 (hcells h ++ (ac' ++ sc')) ∧ Save g w w' ∧ (bhErr h xs = 0 → GotM w w' h ac sc ac' sc' (bhCut h xs))
set_option maxHeartbeats 1000000 in
theorem behind0_of (w : World) (g : Nat) (h : Hd) (ac sc : List Value) (k : h.ok) (B : Blk w g 65 (hcells h ++ (ac ++ sc))) (l1 : ac.length = 69) (l2 : sc.length = 20) (A : Option Addr) (n c : Nat) (xs : List Int) (hn : h.nx = 0)
    (CA : isRep h.fl = false → GetsA w (rowM h) A n c xs) (CS : isRep h.fl = true → GetsS w (rowM h) A n c xs) :
    Calls Tryz.prog 42 #[.pointer (some ⟨g, 0, none⟩), .slice A n c] w (BHPost w g h ac sc xs) := by
  have CG := Lib.hid (getBody_of w g h ac sc k B l1 l2 A n c xs CA CS)
  unfold GBPost at CG
  have HP : Hid (∀ ac' sc' e w', e = .returned (.int .i64 (gbErr h xs)) → Blk w' g 65 (hcells h ++ (ac' ++ sc')) → Save g w w' → GotM w w' h ac sc ac' sc' xs → BHPost w g h ac sc xs e w') := by
    intro ac' sc' e w' h1 h2 h3 h4
    unfold BHPost bhErr bhCut
    rw [if_pos hn, if_pos hn]
    exact ⟨ac', sc', h1, h2, h3, fun _ => h4⟩
  have RN : Hid (∀ (w : World) ac' sc', Blk w g 65 (hcells h ++ (ac' ++ sc')) → w.cell? ⟨g, 5, none⟩ = some (.int .u32 0)) := fun w ac' sc' b => by
    rw [← hn]
    exact Blk.cell b 5
  obtain ⟨er, her⟩ : ∃ x, x = gbErr h xs := ⟨_, rfl⟩
  rw [← her] at CG HP
  clear her hn CA CS k B
  go_enter Tryz.func42, Tryz.ntmps42
  go_wp2_with fail
  refine CG.out.mono ?_
  rintro e w1 ⟨ac', sc', rfl, hb, _, _, hs, hgm⟩
  have gn := RN.out _ _ _ hb
  have HX := Lib.hid (HP.out ac' sc' _ w1 rfl hb hs hgm)
  clear hb hs hgm HP CG
  go_wp2
  go_ret
  exact HX.out
/-! ### Get -/
def MGPost (w : World) (xs : List Int) (e : Ending) (w' : World) : Prop := ∃ ac sc, e = .returned (.tuple #[.agg (hcells (mgOf xs).h ++ (ac ++ sc)).toArray, .int .i64 (mgErr xs)]) ∧ GA w' w.heap.size ac (mgOf xs).a ∧ GS w' w.heap.size sc (mgOf xs).s ∧ Below w.heap.size w w'
def BehM (w : World) (h : Hd) (xs : List Int) : Prop := ∀ w' g A n c, Below w.heap.size w w' → Blk w' g 65 (hcells h ++ (zac ++ zsc)) → Holds w' w'.heap.size A n c xs → Calls Tryz.prog 42 #[.pointer (some ⟨g, 0, none⟩), .slice A n c] w' (BHPost w' g h zac zsc xs)
theorem zac_len : zac.length = 69 := acells_len zeroAsk_ok
theorem zsc_len : zsc.length = 20 := scells_len zeroSay_ok
set_option maxHeartbeats 4000000 in
theorem Get_of (w : World) (A : Option Addr) (n c : Nat) (xs : List Int) (hx : Holds w w.heap.size A n c xs) (CB : getErrH xs 0 = 0 → BehM w (getOfH xs 0) (xs.drop 64)) :
    Calls Tryz.prog 18 #[.slice A n c] w (MGPost w xs) := by
  have hk := getOfH_ok xs 0 hx.byte
  have CH : Hid (∀ w', Below w.heap.size w w' → Calls Tryz.prog 41 #[.slice A n c, .int .i64 0] w' fun e w2 => e = .returned (.tuple #[.agg (hcells (getOfH xs 0)).toArray, .int .i64 (getErrH xs 0)]) ∧ Below w'.heap.size w' w2) := fun w' hb => GetH_any w' A n c xs 0 (hx.over hb) (by omega)
  have ZM := Lib.hid zero_msg
  have ZG := Lib.hid zero_message
  have HZ := Lib.hid zmcells_len
  have HZO : Hid (∀ v ∈ zmcells, v.oneCell' = true) := by
    intro v hv
    unfold zmcells at hv
    rcases List.mem_append.1 hv with hv | hv
    · exact hcells_one _ v hv
    · rcases List.mem_append.1 hv with hv | hv
      · exact acells_one rfl rfl rfl v hv
      · exact scells_one rfl rfl v hv
  have BZ := built_msg0
  have ZH := Lib.hid zero_hd
  have HZH := Lib.hid (hcells_len zeroHd_ok)
  have H26 := Lib.hid (hcells_len hk)
  have HO26 := Lib.hid (hcells_one (getOfH xs 0))
  have B1 := built1 placed_message (hcells_len hk)
  have hE : Hid (∀ er, mgErr xs = er → er ≠ 0 → ∀ e w', e = .returned (.tuple #[.agg zmcells.toArray, .int .i64 er]) → Below w.heap.size w w' → MGPost w xs e w') := by
    intro er h1 h2 e w' h3 h4
    unfold MGPost mgOf
    rw [h1, if_neg h2]
    exact ⟨zac, zsc, h3, GA.zero _ _, GS.zero _ _, h4⟩
  have HX := Lib.hid hx
  have hl := hx.len
  have hf := hx.fit
  have hrm := hx.room
  by_cases h0 : getErrH xs 0 = 0
  rotate_left
  · have HE := Lib.hid (hE.out (getErrH xs 0) (by unfold mgErr; rw [if_neg h0]) h0)
    obtain ⟨er, her⟩ : ∃ x, x = getErrH xs 0 := ⟨_, rfl⟩
    rw [← her] at CH HE
    have hne : (er != 0) = true := by rw [her]; simpa using h0
    obtain ⟨hcs, hhc⟩ : ∃ x, x = hcells (getOfH xs 0) := ⟨_, rfl⟩
    rw [← hhc] at CH H26 HO26
    obtain ⟨zm, hzm⟩ : ∃ x, x = zmcells := ⟨_, rfl⟩
    rw [← hzm] at ZM HZ HZO BZ HE
    obtain ⟨zh, hzh⟩ : ∃ x, x = hcells zeroHd := ⟨_, rfl⟩
    rw [← hzh] at ZH HZH
    clear hE her h0 hhc hzm hzh CB hk B1 hx ZG
    go_enter Tryz.func18, Tryz.ntmps18
    go_wp2_with (first
      | ((with_reducible show wpList _ _ _ (⟨some 2, _, _, _, _, _⟩ :: _) _ _); refine wpList_alloc_blk rfl _ rfl zm _ ZM ?_; intro g0 w1 hg1 hg2 Z1 L1)
      | fail)
    refine (CH.out w1 L1.out).mono ?_
    rintro e w2 ⟨rfl, L2⟩
    have Z2 := Lib.hid (Z1.out.over L2)
    have M2 := Lib.hid (step L1.out L2)
    have e2 := L2.size
    clear L2 L1 Z1 CH
    go_wp2_with (first
      | ((with_reducible show wpList _ _ _ (⟨some 4, _, _, _, _, _⟩ :: _) _ _); refine wpList_alloc_blk rfl _ rfl zh _ ZH ?_; intro g3 w3 hg3 hg4 X3 L3; have M3 := Lib.hid (step M2.out L3.out); have Z3 := Lib.hid (Z2.out.over L3.out))
      | ((with_reducible show wpList _ _ _ (⟨none, .store _ (.tmp 4) _, _, _, _, _⟩ :: _) _ _); refine wpList_store_blk rfl _ (.tmp 4) (.tmp 11) rfl g3 rfl _ zh hcs rfl X3 26 size_hd HZH H26 HO26 ?_; intro w4 X4 O4 hg5; have M4 := Lib.hid (below_only M3.out O4.out (by omega)); have Z4 := Lib.hid (Z3.out.only O4.out (by omega)))
      | ((with_reducible show wpList _ _ _ (⟨some 15, _, _, _, _, _⟩ :: _) _ _); refine wpList_build_none rfl _ rfl zm BZ ?_)
      | ((with_reducible show wpList _ _ _ (⟨none, .store _ (.tmp 2) _, _, _, _, _⟩ :: _) _ _); refine wpList_store_blk rfl _ (.tmp 2) (.tmp 15) rfl g0 rfl _ zm zm rfl Z4 115 size_msg HZ HZ HZO ?_; intro w5 X5 O5 hg6)
      | fail)
    refine bodyPost_ret (v := .tuple #[.agg zm.toArray, .int .i64 er]) ?_ rfl (HE.out _ _ rfl (below_only M4.out O5.out (by omega)))
    exact results_cell_two rfl _ _ g0 _ _ (0, 0) _ rfl X5.out Tryz.underlying41 rfl (by rw [size_msg]; have := HZ.out; simp [this]) rfl
  have hrn : 64 ≤ n := by
    have h1 := h0
    unfold getErrH at h1
    by_cases hp : partErr xs.length 0 64 = 0
    · have := part_room hp; omega
    · rw [if_neg hp] at h1; exact absurd h1 hp
  have hbe : mgErr xs = bhErr (getOfH xs 0) (xs.drop 64) := by unfold mgErr; rw [if_pos h0]
  have CB' := Lib.hid (CB h0)
  unfold BehM BHPost at CB'
  rw [h0] at CH
  have HQ : Hid (mgErr xs = 0 → ∀ ac sc e w', e = .returned (.tuple #[.agg (hcells (getOfH xs 0) ++ (ac ++ sc)).toArray, .int .i64 0]) → GA w' w.heap.size ac (gbA (getOfH xs 0) (bhCut (getOfH xs 0) (xs.drop 64))) → GS w' w.heap.size sc (gbS (getOfH xs 0) (bhCut (getOfH xs 0) (xs.drop 64))) → Below w.heap.size w w' → MGPost w xs e w') := by
    intro h1 ac sc e w' h2 h3 h4 h5
    unfold MGPost mgOf
    rw [h1, if_pos rfl]
    exact ⟨ac, sc, h2, h3, h4, h5⟩
  have TG : Hid (∀ w1 w' lo ac sc ys, lo ≤ w1.heap.size → GotM w1 w' (getOfH xs 0) zac zsc ac sc ys → GA w' lo ac (gbA (getOfH xs 0) ys) ∧ GS w' lo sc (gbS (getOfH xs 0) ys)) := by
    intro w1 w' lo ac sc ys hlo hgm
    unfold gbA gbS
    by_cases hr : isRep (getOfH xs 0).fl = true
    · obtain ⟨rfl, h2⟩ := hgm.1 hr
      rw [if_pos hr, if_pos hr]
      exact ⟨GA.zero _ _, h2.mono hlo⟩
    · obtain ⟨rfl, h2⟩ := hgm.2 (by simpa using hr)
      rw [if_neg hr, if_neg hr]
      exact ⟨h2.mono hlo, GS.zero _ _⟩
  rw [hbe] at hE HQ
  obtain ⟨hh, hhe⟩ : ∃ x, x = getOfH xs 0 := ⟨_, rfl⟩
  rw [← hhe] at CH H26 HO26 B1 CB' hE HQ TG
  obtain ⟨er, her⟩ : ∃ x, x = bhErr hh (xs.drop 64) := ⟨_, rfl⟩
  rw [← her] at CB' hE HQ
  have RH : Hid (∀ (w : World) g T ac sc, Blk w g T (hcells hh ++ (ac ++ sc)) → w.rangeAt g 0 (hcells hh)) := fun w g T ac sc b => range_h b
  have RA : Hid (∀ (w : World) g T ac sc, Blk w g T (hcells hh ++ (ac ++ sc)) → w.rangeAt g 26 ac) := fun w g T ac sc b => range_a b H26.out
  have RS : Hid (∀ (w : World) g T ac sc, ac.length = 69 → Blk w g T (hcells hh ++ (ac ++ sc)) → w.rangeAt g 95 sc) := fun w g T ac sc h1 b => range_s b H26.out h1
  have HLL : Hid ((hcells hh ++ (zac ++ zsc)).length = 115) := by
    show _ = _
    simp only [List.length_append, H26.out, zac_len, zsc_len]
  have HOO : Hid (∀ ac sc, (∀ v ∈ ac, v.oneCell' = true) → (∀ v ∈ sc, v.oneCell' = true) → ∀ v ∈ hcells hh ++ (ac ++ sc), v.oneCell' = true) := by
    intro ac sc o1 o2 v hv
    rcases List.mem_append.1 hv with hv | hv
    · exact HO26.out v hv
    · rcases List.mem_append.1 hv with hv | hv
      · exact o1 v hv
      · exact o2 v hv
  have HO0 : Hid (∀ v ∈ hcells hh ++ (zac ++ zsc), v.oneCell' = true) := HOO.out _ _ (acells_one rfl rfl rfl) (scells_one rfl rfl)
  have BM : Hid (∀ ac sc, ac.length = 69 → sc.length = 20 → Tryz.prog.built 41 [(0, .agg (hcells hh).toArray), (1, .agg ac.toArray), (2, .agg sc.toArray)] = some (hcells hh ++ (ac ++ sc)).toArray) := fun ac sc h1 h2 => built3 placed_msg H26.out h1 h2
  change Tryz.prog.built _ _ = some (hcells hh ++ (zac ++ zsc)).toArray at B1
  obtain ⟨MZ, hMZ⟩ : ∃ x, x = hcells hh ++ (zac ++ zsc) := ⟨_, rfl⟩
  rw [← hMZ] at B1 HLL HO0 CB'
  obtain ⟨hcs, hhc⟩ : ∃ x, x = hcells hh := ⟨_, rfl⟩
  rw [← hhc] at CH H26 HO26 B1 CB' HQ RH RA RS BM HOO
  obtain ⟨zm, hzm⟩ : ∃ x, x = zmcells := ⟨_, rfl⟩
  rw [← hzm] at ZM ZG HZ HZO BZ hE
  obtain ⟨zh, hzh⟩ : ∃ x, x = hcells zeroHd := ⟨_, rfl⟩
  rw [← hzh] at ZH HZH
  obtain ⟨ys, hys⟩ : ∃ x, x = xs.drop 64 := ⟨_, rfl⟩
  rw [← hys] at CB' HQ
  obtain ⟨b, off, rfl, hbl, hcell⟩ := hx.cells (by omega)
  have HY : Hid (∀ w', Below w.heap.size w w' → c ≠ 64 → Holds w' w'.heap.size (some ⟨b, off + 64, none⟩) (n - 64) (c - 64) ys) := by
    intro w' hb hc
    have h1 := (hx.over hb).rest (k := 64) hrn
    rw [if_neg hc, ← hys] at h1
    exact h1
  have HY0 : Hid (∀ w', Below w.heap.size w w' → c = 64 → Holds w' w'.heap.size (some ⟨b, off, none⟩) 0 0 ys) := by
    intro w' hb hc
    have h1 := (hx.over hb).rest (k := 64) hrn
    rw [if_pos hc, ← hys, show n - 64 = 0 by omega, show c - 64 = 0 by omega] at h1
    exact h1
  clear h0 CB hk hx hMZ hhc hzm hzh hys hbe her hhe hcell HX hl
  by_cases her0 : er = 0
  rotate_left
  · have HE := Lib.hid (hE.out er rfl her0)
    have hne : (er != 0) = true := by simpa using her0
    clear hE HQ her0 TG BM HOO RA RS RH
    by_cases hc : c = 64
    · subst hc
      obtain rfl : n = 64 := by omega
      go_enter Tryz.func18, Tryz.ntmps18
      go_wp2_with (first
        | ((with_reducible show wpList _ _ _ (⟨some 2, _, _, _, _, _⟩ :: _) _ _); refine wpList_alloc_blk rfl _ rfl zm _ ZM ?_; intro g0 w1 hg1 hg2 Z1 L1)
        | fail)
      refine (CH.out w1 L1.out).mono ?_
      rintro e w2 ⟨rfl, L2⟩
      have Z2 := Lib.hid (Z1.out.over L2)
      have M2 := Lib.hid (step L1.out L2)
      have e2 := L2.size
      clear L2 L1 Z1 CH
      go_wp2_with (first
        | ((with_reducible show wpList _ _ _ (⟨some 4, _, _, _, _, _⟩ :: _) _ _); refine wpList_alloc_blk rfl _ rfl zh _ ZH ?_; intro g3 w3 hg3 hg4 X3 L3; have M3 := Lib.hid (step M2.out L3.out); have Z3 := Lib.hid (Z2.out.over L3.out))
        | ((with_reducible show wpList _ _ _ (⟨none, .store _ (.tmp 4) _, _, _, _, _⟩ :: _) _ _); refine wpList_store_blk rfl _ (.tmp 4) (.tmp 11) rfl g3 rfl _ zh hcs rfl X3 26 size_hd HZH H26 HO26 ?_; intro w4 X4 O4 hg5; have M4 := Lib.hid (below_only M3.out O4.out (by omega)); have Z4 := Lib.hid (Z3.out.only O4.out (by omega)))
        | ((with_reducible show wpList _ _ _ (⟨some 17, _, _, _, _, _⟩ :: _) _ _); refine wpList_load_blk rfl _ (.tmp 4) rfl g3 rfl _ hcs X4 26 _ Tryz.underlying28 rfl size_hd H26 ?_)
        | ((with_reducible show wpList _ _ _ (⟨some 18, _, _, _, _, _⟩ :: _) _ _); refine wpList_build_blk rfl _ _ rfl MZ (by refine Eq.trans ?_ B1; kernel_rfl) ?_)
        | ((with_reducible show wpList _ _ _ (⟨some 6, _, _, _, _, _⟩ :: _) _ _); refine wpList_alloc_blk rfl _ rfl zm _ ZG ?_; intro g w5 hg6 hg7 X5 L5; have M5 := Lib.hid (step M4.out L5.out); have Z5 := Lib.hid (Z4.out.over L5.out))
        | ((with_reducible show wpList _ _ _ (⟨none, .store _ (.tmp 6) _, _, _, _, _⟩ :: _) _ _); refine wpList_store_blk rfl _ (.tmp 6) (.tmp 18) rfl g rfl _ zm MZ rfl X5 115 size_message HZ HLL HO0 ?_; intro w6 B6 O6 hg8; have e6 := O4.out.size; have M6 := Lib.hid (below_only M5.out O6.out (by omega)); have Z6 := Lib.hid (Z5.out.only O6.out (by omega)))
        | fail)
      refine (CB'.out w6 g _ _ _ M6.out B6.out (HY0.out w6 M6.out (by trivial))).mono ?_
      rintro e w7 ⟨ac, sc, rfl, hb7, hs7, hg7m⟩
      have M7 := Lib.hid (M6.out.trans (hs7.below (by omega) M6.out.size))
      have Z7 := Lib.hid (Z6.out.save hs7 (by omega))
      clear hb7 hs7 hg7m X3 L3 X4 O4 X5 L5 B6 O6 M3 M4 M5 M6 Z2 Z3 Z4 Z5 Z6
      go_wp2_with (first
        | ((with_reducible show wpList _ _ _ (⟨some 24, _, _, _, _, _⟩ :: _) _ _); refine wpList_build_none rfl _ rfl zm BZ ?_)
        | ((with_reducible show wpList _ _ _ (⟨none, .store _ (.tmp 2) _, _, _, _, _⟩ :: _) _ _); refine wpList_store_blk rfl _ (.tmp 2) (.tmp 24) rfl g0 rfl _ zm zm rfl Z7 115 size_msg HZ HZ HZO ?_; intro w8 X8 O8 hg9)
        | fail)
      refine bodyPost_ret (v := .tuple #[.agg zm.toArray, .int .i64 er]) ?_ rfl (HE.out _ _ rfl (below_only M7.out O8.out (by omega)))
      exact results_cell_two rfl _ _ g0 _ _ (0, 0) _ rfl X8.out Tryz.underlying41 rfl (by rw [size_msg]; have := HZ.out; simp [this]) rfl
    · have hc1 : ¬ ((c : Int) = 64) := by omega
      have hc2 : (64 : Int) ≤ (n : Int) := by omega
      have hc3 : ¬ (c - 64 = 0) := by omega
      go_enter Tryz.func18, Tryz.ntmps18
      go_wp2_with (first
        | ((with_reducible show wpList _ _ _ (⟨some 2, _, _, _, _, _⟩ :: _) _ _); refine wpList_alloc_blk rfl _ rfl zm _ ZM ?_; intro g0 w1 hg1 hg2 Z1 L1)
        | fail)
      refine (CH.out w1 L1.out).mono ?_
      rintro e w2 ⟨rfl, L2⟩
      have Z2 := Lib.hid (Z1.out.over L2)
      have M2 := Lib.hid (step L1.out L2)
      have e2 := L2.size
      clear L2 L1 Z1 CH
      go_wp2_with (first
        | ((with_reducible show wpList _ _ _ (⟨some 4, _, _, _, _, _⟩ :: _) _ _); refine wpList_alloc_blk rfl _ rfl zh _ ZH ?_; intro g3 w3 hg3 hg4 X3 L3; have M3 := Lib.hid (step M2.out L3.out); have Z3 := Lib.hid (Z2.out.over L3.out))
        | ((with_reducible show wpList _ _ _ (⟨none, .store _ (.tmp 4) _, _, _, _, _⟩ :: _) _ _); refine wpList_store_blk rfl _ (.tmp 4) (.tmp 11) rfl g3 rfl _ zh hcs rfl X3 26 size_hd HZH H26 HO26 ?_; intro w4 X4 O4 hg5; have M4 := Lib.hid (below_only M3.out O4.out (by omega)); have Z4 := Lib.hid (Z3.out.only O4.out (by omega)))
        | ((with_reducible show wpList _ _ _ (⟨some 17, _, _, _, _, _⟩ :: _) _ _); refine wpList_load_blk rfl _ (.tmp 4) rfl g3 rfl _ hcs X4 26 _ Tryz.underlying28 rfl size_hd H26 ?_)
        | ((with_reducible show wpList _ _ _ (⟨some 18, _, _, _, _, _⟩ :: _) _ _); refine wpList_build_blk rfl _ _ rfl MZ (by refine Eq.trans ?_ B1; kernel_rfl) ?_)
        | ((with_reducible show wpList _ _ _ (⟨some 6, _, _, _, _, _⟩ :: _) _ _); refine wpList_alloc_blk rfl _ rfl zm _ ZG ?_; intro g w5 hg6 hg7 X5 L5; have M5 := Lib.hid (step M4.out L5.out); have Z5 := Lib.hid (Z4.out.over L5.out))
        | ((with_reducible show wpList _ _ _ (⟨none, .store _ (.tmp 6) _, _, _, _, _⟩ :: _) _ _); refine wpList_store_blk rfl _ (.tmp 6) (.tmp 18) rfl g rfl _ zm MZ rfl X5 115 size_message HZ HLL HO0 ?_; intro w6 B6 O6 hg8; have e6 := O4.out.size; have M6 := Lib.hid (below_only M5.out O6.out (by omega)); have Z6 := Lib.hid (Z5.out.only O6.out (by omega)))
        | fail)
      refine (CB'.out w6 g _ _ _ M6.out B6.out (HY.out w6 M6.out hc)).mono ?_
      rintro e w7 ⟨ac, sc, rfl, hb7, hs7, hg7m⟩
      have M7 := Lib.hid (M6.out.trans (hs7.below (by omega) M6.out.size))
      have Z7 := Lib.hid (Z6.out.save hs7 (by omega))
      clear hb7 hs7 hg7m X3 L3 X4 O4 X5 L5 B6 O6 M3 M4 M5 M6 Z2 Z3 Z4 Z5 Z6
      go_wp2_with (first
        | ((with_reducible show wpList _ _ _ (⟨some 24, _, _, _, _, _⟩ :: _) _ _); refine wpList_build_none rfl _ rfl zm BZ ?_)
        | ((with_reducible show wpList _ _ _ (⟨none, .store _ (.tmp 2) _, _, _, _, _⟩ :: _) _ _); refine wpList_store_blk rfl _ (.tmp 2) (.tmp 24) rfl g0 rfl _ zm zm rfl Z7 115 size_msg HZ HZ HZO ?_; intro w8 X8 O8 hg9)
        | fail)
      refine bodyPost_ret (v := .tuple #[.agg zm.toArray, .int .i64 er]) ?_ rfl (HE.out _ _ rfl (below_only M7.out O8.out (by omega)))
      exact results_cell_two rfl _ _ g0 _ _ (0, 0) _ rfl X8.out Tryz.underlying41 rfl (by rw [size_msg]; have := HZ.out; simp [this]) rfl
  subst her0
  have HQ2 := Lib.hid (HQ.out rfl)
  clear hE HQ
  by_cases hc : c = 64
  · subst hc
    obtain rfl : n = 64 := by omega
    go_enter Tryz.func18, Tryz.ntmps18
    go_wp2_with (first
      | ((with_reducible show wpList _ _ _ (⟨some 2, _, _, _, _, _⟩ :: _) _ _); refine wpList_alloc_blk rfl _ rfl zm _ ZM ?_; intro g0 w1 hg1 hg2 Z1 L1)
      | fail)
    refine (CH.out w1 L1.out).mono ?_
    rintro e w2 ⟨rfl, L2⟩
    have Z2 := Lib.hid (Z1.out.over L2)
    have M2 := Lib.hid (step L1.out L2)
    have e2 := L2.size
    clear L2 L1 Z1 CH
    go_wp2_with (first
      | ((with_reducible show wpList _ _ _ (⟨some 4, _, _, _, _, _⟩ :: _) _ _); refine wpList_alloc_blk rfl _ rfl zh _ ZH ?_; intro g3 w3 hg3 hg4 X3 L3; have M3 := Lib.hid (step M2.out L3.out); have Z3 := Lib.hid (Z2.out.over L3.out))
      | ((with_reducible show wpList _ _ _ (⟨none, .store _ (.tmp 4) _, _, _, _, _⟩ :: _) _ _); refine wpList_store_blk rfl _ (.tmp 4) (.tmp 11) rfl g3 rfl _ zh hcs rfl X3 26 size_hd HZH H26 HO26 ?_; intro w4 X4 O4 hg5; have M4 := Lib.hid (below_only M3.out O4.out (by omega)); have Z4 := Lib.hid (Z3.out.only O4.out (by omega)))
      | ((with_reducible show wpList _ _ _ (⟨some 17, _, _, _, _, _⟩ :: _) _ _); refine wpList_load_blk rfl _ (.tmp 4) rfl g3 rfl _ hcs X4 26 _ Tryz.underlying28 rfl size_hd H26 ?_)
      | ((with_reducible show wpList _ _ _ (⟨some 18, _, _, _, _, _⟩ :: _) _ _); refine wpList_build_blk rfl _ _ rfl MZ (by refine Eq.trans ?_ B1; kernel_rfl) ?_)
      | ((with_reducible show wpList _ _ _ (⟨some 6, _, _, _, _, _⟩ :: _) _ _); refine wpList_alloc_blk rfl _ rfl zm _ ZG ?_; intro g w5 hg6 hg7 X5 L5; have M5 := Lib.hid (step M4.out L5.out); have Z5 := Lib.hid (Z4.out.over L5.out))
      | ((with_reducible show wpList _ _ _ (⟨none, .store _ (.tmp 6) _, _, _, _, _⟩ :: _) _ _); refine wpList_store_blk rfl _ (.tmp 6) (.tmp 18) rfl g rfl _ zm MZ rfl X5 115 size_message HZ HLL HO0 ?_; intro w6 B6 O6 hg8; have e6 := O4.out.size; have M6 := Lib.hid (below_only M5.out O6.out (by omega)); have Z6 := Lib.hid (Z5.out.only O6.out (by omega)))
      | fail)
    refine (CB'.out w6 g _ _ _ M6.out B6.out (HY0.out w6 M6.out (by trivial))).mono ?_
    rintro e w7 ⟨ac, sc, rfl, hb7, hs7, hg7m⟩
    have M7 := Lib.hid (M6.out.trans (hs7.below (by omega) M6.out.size))
    have Z7 := Lib.hid (Z6.out.save hs7 (by omega))
    obtain ⟨ga, gs⟩ := TG.out w6 w7 _ ac sc _ (Nat.le_refl _) (hg7m (by trivial))
    have e60 : g0 < w6.heap.size := Z6.out.lt
    have B7 := Lib.hid hb7
    have HA7 := Lib.hid ga.len
    have HS7 := Lib.hid gs.len
    have BB := BM.out ac sc HA7.out HS7.out
    have HL7 : Hid ((hcs ++ (ac ++ sc)).length = 115) := by
      show _ = _
      simp only [List.length_append, H26.out, HA7.out, HS7.out]
    have HO7 := Lib.hid (HOO.out ac sc ga.one gs.one)
    have ga7 := Lib.hid ga
    have gs7 := Lib.hid gs
    have RA7 := Lib.hid (RA.out _ _ _ _ _ hb7)
    have RH7 := Lib.hid (RH.out _ _ _ _ _ hb7)
    have RS7 := Lib.hid (RS.out _ _ _ _ _ HA7.out hb7)
    obtain ⟨MF, hMF⟩ : ∃ x, x = hcs ++ (ac ++ sc) := ⟨_, rfl⟩
    rw [← hMF] at BB HL7 HO7
    have HMF := Lib.hid hMF
    clear hMF hb7 hs7 hg7m ga gs X3 L3 X4 O4 X5 L5 B6 O6 M3 M4 M5 Z2 Z3 Z4 Z5 Z6 B7
    go_wp2_with (first
      | ((with_reducible show wpList _ _ _ (⟨some 27, _, _, _, _, _⟩ :: _) _ _); refine wpList_load_midu rfl _ (.tmp 26) rfl g 0 rfl hcs _ RH7 Tryz.underlying28 rfl 26 size_hd H26 ?_)
      | ((with_reducible show wpList _ _ _ (⟨some 29, _, _, _, _, _⟩ :: _) _ _); refine wpList_load_midu rfl _ (.tmp 28) rfl g 26 rfl ac _ RA7 Tryz.underlying34 rfl 69 size_ask HA7 ?_)
      | ((with_reducible show wpList _ _ _ (⟨some 31, _, _, _, _, _⟩ :: _) _ _); refine wpList_load_midu rfl _ (.tmp 30) rfl g 95 rfl sc _ RS7 Tryz.underlying39 rfl 20 size_say HS7 ?_)
      | ((with_reducible show wpList _ _ _ (⟨some 32, _, _, _, _, _⟩ :: _) _ _); refine wpList_build_blk rfl _ _ rfl MF (by refine Eq.trans ?_ BB; kernel_rfl) ?_)
      | ((with_reducible show wpList _ _ _ (⟨none, .store _ (.tmp 2) _, _, _, _, _⟩ :: _) _ _); refine wpList_store_blk rfl _ (.tmp 2) (.tmp 32) rfl g0 rfl _ zm MF rfl Z7 115 size_msg HZ HL7 HO7 ?_; intro w8 X8 O8 hg9)
      | fail)
    refine bodyPost_ret (v := .tuple #[.agg MF.toArray, .int .i64 0]) ?_ rfl (HQ2.out _ _ _ _ (by rw [HMF.out]) ((ga7.out.only O8.out e60).mono M6.out.size) ((gs7.out.only O8.out e60).mono M6.out.size) (below_only M7.out O8.out (by omega)))
    exact results_cell_two rfl _ _ g0 _ _ (0, 0) _ rfl X8.out Tryz.underlying41 rfl (by rw [size_msg]; have := HL7.out; simp [this]) rfl
  · have hc1 : ¬ ((c : Int) = 64) := by omega
    have hc2 : (64 : Int) ≤ (n : Int) := by omega
    have hc3 : ¬ (c - 64 = 0) := by omega
    go_enter Tryz.func18, Tryz.ntmps18
    go_wp2_with (first
      | ((with_reducible show wpList _ _ _ (⟨some 2, _, _, _, _, _⟩ :: _) _ _); refine wpList_alloc_blk rfl _ rfl zm _ ZM ?_; intro g0 w1 hg1 hg2 Z1 L1)
      | fail)
    refine (CH.out w1 L1.out).mono ?_
    rintro e w2 ⟨rfl, L2⟩
    have Z2 := Lib.hid (Z1.out.over L2)
    have M2 := Lib.hid (step L1.out L2)
    have e2 := L2.size
    clear L2 L1 Z1 CH
    go_wp2_with (first
      | ((with_reducible show wpList _ _ _ (⟨some 4, _, _, _, _, _⟩ :: _) _ _); refine wpList_alloc_blk rfl _ rfl zh _ ZH ?_; intro g3 w3 hg3 hg4 X3 L3; have M3 := Lib.hid (step M2.out L3.out); have Z3 := Lib.hid (Z2.out.over L3.out))
      | ((with_reducible show wpList _ _ _ (⟨none, .store _ (.tmp 4) _, _, _, _, _⟩ :: _) _ _); refine wpList_store_blk rfl _ (.tmp 4) (.tmp 11) rfl g3 rfl _ zh hcs rfl X3 26 size_hd HZH H26 HO26 ?_; intro w4 X4 O4 hg5; have M4 := Lib.hid (below_only M3.out O4.out (by omega)); have Z4 := Lib.hid (Z3.out.only O4.out (by omega)))
      | ((with_reducible show wpList _ _ _ (⟨some 17, _, _, _, _, _⟩ :: _) _ _); refine wpList_load_blk rfl _ (.tmp 4) rfl g3 rfl _ hcs X4 26 _ Tryz.underlying28 rfl size_hd H26 ?_)
      | ((with_reducible show wpList _ _ _ (⟨some 18, _, _, _, _, _⟩ :: _) _ _); refine wpList_build_blk rfl _ _ rfl MZ (by refine Eq.trans ?_ B1; kernel_rfl) ?_)
      | ((with_reducible show wpList _ _ _ (⟨some 6, _, _, _, _, _⟩ :: _) _ _); refine wpList_alloc_blk rfl _ rfl zm _ ZG ?_; intro g w5 hg6 hg7 X5 L5; have M5 := Lib.hid (step M4.out L5.out); have Z5 := Lib.hid (Z4.out.over L5.out))
      | ((with_reducible show wpList _ _ _ (⟨none, .store _ (.tmp 6) _, _, _, _, _⟩ :: _) _ _); refine wpList_store_blk rfl _ (.tmp 6) (.tmp 18) rfl g rfl _ zm MZ rfl X5 115 size_message HZ HLL HO0 ?_; intro w6 B6 O6 hg8; have e6 := O4.out.size; have M6 := Lib.hid (below_only M5.out O6.out (by omega)); have Z6 := Lib.hid (Z5.out.only O6.out (by omega)))
      | fail)
    refine (CB'.out w6 g _ _ _ M6.out B6.out (HY.out w6 M6.out hc)).mono ?_
    rintro e w7 ⟨ac, sc, rfl, hb7, hs7, hg7m⟩
    have M7 := Lib.hid (M6.out.trans (hs7.below (by omega) M6.out.size))
    have Z7 := Lib.hid (Z6.out.save hs7 (by omega))
    obtain ⟨ga, gs⟩ := TG.out w6 w7 _ ac sc _ (Nat.le_refl _) (hg7m (by trivial))
    have e60 : g0 < w6.heap.size := Z6.out.lt
    have B7 := Lib.hid hb7
    have HA7 := Lib.hid ga.len
    have HS7 := Lib.hid gs.len
    have BB := BM.out ac sc HA7.out HS7.out
    have HL7 : Hid ((hcs ++ (ac ++ sc)).length = 115) := by
      show _ = _
      simp only [List.length_append, H26.out, HA7.out, HS7.out]
    have HO7 := Lib.hid (HOO.out ac sc ga.one gs.one)
    have ga7 := Lib.hid ga
    have gs7 := Lib.hid gs
    have RA7 := Lib.hid (RA.out _ _ _ _ _ hb7)
    have RH7 := Lib.hid (RH.out _ _ _ _ _ hb7)
    have RS7 := Lib.hid (RS.out _ _ _ _ _ HA7.out hb7)
    obtain ⟨MF, hMF⟩ : ∃ x, x = hcs ++ (ac ++ sc) := ⟨_, rfl⟩
    rw [← hMF] at BB HL7 HO7
    have HMF := Lib.hid hMF
    clear hMF hb7 hs7 hg7m ga gs X3 L3 X4 O4 X5 L5 B6 O6 M3 M4 M5 Z2 Z3 Z4 Z5 Z6 B7
    go_wp2_with (first
      | ((with_reducible show wpList _ _ _ (⟨some 27, _, _, _, _, _⟩ :: _) _ _); refine wpList_load_midu rfl _ (.tmp 26) rfl g 0 rfl hcs _ RH7 Tryz.underlying28 rfl 26 size_hd H26 ?_)
      | ((with_reducible show wpList _ _ _ (⟨some 29, _, _, _, _, _⟩ :: _) _ _); refine wpList_load_midu rfl _ (.tmp 28) rfl g 26 rfl ac _ RA7 Tryz.underlying34 rfl 69 size_ask HA7 ?_)
      | ((with_reducible show wpList _ _ _ (⟨some 31, _, _, _, _, _⟩ :: _) _ _); refine wpList_load_midu rfl _ (.tmp 30) rfl g 95 rfl sc _ RS7 Tryz.underlying39 rfl 20 size_say HS7 ?_)
      | ((with_reducible show wpList _ _ _ (⟨some 32, _, _, _, _, _⟩ :: _) _ _); refine wpList_build_blk rfl _ _ rfl MF (by refine Eq.trans ?_ BB; kernel_rfl) ?_)
      | ((with_reducible show wpList _ _ _ (⟨none, .store _ (.tmp 2) _, _, _, _, _⟩ :: _) _ _); refine wpList_store_blk rfl _ (.tmp 2) (.tmp 32) rfl g0 rfl _ zm MF rfl Z7 115 size_msg HZ HL7 HO7 ?_; intro w8 X8 O8 hg9)
      | fail)
    refine bodyPost_ret (v := .tuple #[.agg MF.toArray, .int .i64 0]) ?_ rfl (HQ2.out _ _ _ _ (by rw [HMF.out]) ((ga7.out.only O8.out e60).mono M6.out.size) ((gs7.out.only O8.out e60).mono M6.out.size) (below_only M7.out O8.out (by omega)))
    exact results_cell_two rfl _ _ g0 _ _ (0, 0) _ rfl X8.out Tryz.underlying41 rfl (by rw [size_msg]; have := HL7.out; simp [this]) rfl
end Go.Proofs.YtpodpmckdiijhaaGreatDoor

namespace Go.Proofs.YtpodpmckdiijhaaGreatDoor
set_option linter.all false
open Go.RowKit
set_option linter.unusedVariables false
set_option maxRecDepth 100000 in
set_option maxHeartbeats 8000000 in
theorem Asks_any (w : World) (cs ds : List Value) (a b : AskV) (ka : a.ok) (kb : b.ok) (ha : AskIs w w.heap.size cs a) (hb : AskIs w w.heap.size ds b) (la : a.dial.length ≤ 281474976710656 ∧ a.data.length ≤ 281474976710656 ∧ a.locks.length ≤ 281474976710656) (lb : b.dial.length ≤ 281474976710656 ∧ b.data.length ≤ 281474976710656 ∧ b.locks.length ≤ 281474976710656) :
    Calls Tryz.prog 38 #[.agg cs.toArray, .agg ds.toArray] w fun e w' => e = .returned (.bool (decide (a = b))) ∧ Below w.heap.size w w' := by
  obtain ⟨la1, la2, la3⟩ := la
  obtain ⟨lb1, lb2, lb3⟩ := lb
  have HL := Lib.hid (ha.len ka)
  have HM := Lib.hid (hb.len kb)
  obtain ⟨A1, An1, Ac1, A2, An2, Ac2, A3, An3, Ac3, rfl, hx1, hx2, hx3⟩ := ha
  obtain ⟨B1, Bn1, Bc1, B2, Bn2, Bc2, B3, Bn3, Bc3, rfl, hy1, hy2, hy3⟩ := hb
  have bA1 : An1 ≤ 281474976710656 := by have := hx1.len; omega
  have bA2 : An2 ≤ 281474976710656 := by have := hx2.len; omega
  have bA3 : An3 ≤ 281474976710656 := by have := hx3.len; omega
  have bB1 : Bn1 ≤ 281474976710656 := by have := hy1.len; omega
  have bB2 : Bn2 ≤ 281474976710656 := by have := hy2.len; omega
  have bB3 : Bn3 ≤ 281474976710656 := by have := hy3.len; omega
  have CW : Hid (∀ w' : World, Below w.heap.size w w' → Calls Tryz.prog 62 #[.slice A1 An1 Ac1, .slice B1 Bn1 Bc1] w' fun e v => e = .returned (.bool (decide (a.dial = b.dial))) ∧ ∃ k, w'.drewN k = v) := fun w' hb => words16_any w' _ _ _ _ _ _ _ _ _ _ (hx1.below hb) (hy1.below hb) bA1 bB1
  have CS : Hid (∀ w' : World, Below w.heap.size w w' → Calls Tryz.prog 14 #[.slice A2 An2 Ac2, .slice B2 Bn2 Bc2] w' fun e v => e = .returned (.bool (decide (a.data = b.data))) ∧ ∃ k, w'.drewN k = v) := fun w' hb => Same_any w' _ _ _ _ _ _ _ _ _ _ (hx2.below hb) (hy2.below hb)
  have CR : Hid (∀ w' : World, Below w.heap.size w w' → Calls Tryz.prog 63 #[.slice A3 An3 Ac3, .slice B3 Bn3 Bc3] w' fun e v => e = .returned (.bool (decide (a.locks = b.locks))) ∧ ∃ k, w'.drewN k = v) := fun w' hb => Locks_any w' _ _ _ _ _ _ _ _ _ _ (hx3.below hb) (hy3.below hb) bA3 bB3
  have f_dial : Hid (¬ a.dial = b.dial → decide (a = b) = false) := fun h => decide_eq_false fun he => h (by rw [he])
  have f_guid : Hid (¬ a.guid = b.guid → decide (a = b) = false) := fun h => decide_eq_false fun he => h (by rw [he])
  have f_proof : Hid (¬ a.proof = b.proof → decide (a = b) = false) := fun h => decide_eq_false fun he => h (by rw [he])
  have f_user : Hid (¬ a.user = b.user → decide (a = b) = false) := fun h => decide_eq_false fun he => h (by rw [he])
  have f_share : Hid (¬ a.share = b.share → decide (a = b) = false) := fun h => decide_eq_false fun he => h (by rw [he])
  have f_acc : Hid (¬ a.acc = b.acc → decide (a = b) = false) := fun h => decide_eq_false fun he => h (by rw [he])
  have f_shr : Hid (¬ a.shr = b.shr → decide (a = b) = false) := fun h => decide_eq_false fun he => h (by rw [he])
  have f_way : Hid (¬ a.way = b.way → decide (a = b) = false) := fun h => decide_eq_false fun he => h (by rw [he])
  have f_opt : Hid (¬ a.opt = b.opt → decide (a = b) = false) := fun h => decide_eq_false fun he => h (by rw [he])
  have f_lev : Hid (¬ a.lev = b.lev → decide (a = b) = false) := fun h => decide_eq_false fun he => h (by rw [he])
  have f_dur : Hid (¬ a.dur = b.dur → decide (a = b) = false) := fun h => decide_eq_false fun he => h (by rw [he])
  have f_file : Hid (¬ a.file = b.file → decide (a = b) = false) := fun h => decide_eq_false fun he => h (by rw [he])
  have f_name : Hid (¬ a.name = b.name → decide (a = b) = false) := fun h => decide_eq_false fun he => h (by rw [he])
  have f_at_ : Hid (¬ a.at_ = b.at_ → decide (a = b) = false) := fun h => decide_eq_false fun he => h (by rw [he])
  have f_n : Hid (¬ a.n = b.n → decide (a = b) = false) := fun h => decide_eq_false fun he => h (by rw [he])
  have f_data : Hid (¬ a.data = b.data → decide (a = b) = false) := fun h => decide_eq_false fun he => h (by rw [he])
  have f_locks : Hid (¬ a.locks = b.locks → decide (a = b) = false) := fun h => decide_eq_false fun he => h (by rw [he])
  have f_most : Hid (¬ a.most = b.most → decide (a = b) = false) := fun h => decide_eq_false fun he => h (by rw [he])
  have f_pat : Hid (¬ a.pat = b.pat → decide (a = b) = false) := fun h => decide_eq_false fun he => h (by rw [he])
  have f_aft : Hid (¬ a.aft = b.aft → decide (a = b) = false) := fun h => decide_eq_false fun he => h (by rw [he])
  have f_cls : Hid (¬ a.cls = b.cls → decide (a = b) = false) := fun h => decide_eq_false fun he => h (by rw [he])
  have f_siz : Hid (¬ a.siz = b.siz → decide (a = b) = false) := fun h => decide_eq_false fun he => h (by rw [he])
  have f_on : Hid (¬ a.on = b.on → decide (a = b) = false) := fun h => decide_eq_false fun he => h (by rw [he])
  have HT : Hid (a.dial = b.dial → a.guid = b.guid → a.proof = b.proof → a.user = b.user → a.share = b.share → a.acc = b.acc → a.shr = b.shr → a.way = b.way → a.opt = b.opt → a.lev = b.lev → a.dur = b.dur → a.file = b.file → a.name = b.name → a.at_ = b.at_ → a.n = b.n → a.data = b.data → a.locks = b.locks → a.most = b.most → a.pat = b.pat → a.aft = b.aft → a.cls = b.cls → a.siz = b.siz → a.on = b.on → decide (a = b) = true) := by
    intro e0 e1 e2 e3 e4 e5 e6 e7 e8 e9 e10 e11 e12 e13 e14 e15 e16 e17 e18 e19 e20 e21 e22
    rw [decide_eq_true_iff]
    cases a; cases b
    simp only at e0 e1 e2 e3 e4 e5 e6 e7 e8 e9 e10 e11 e12 e13 e14 e15 e16 e17 e18 e19 e20 e21 e22
    subst e0 e1 e2 e3 e4 e5 e6 e7 e8 e9 e10 e11 e12 e13 e14 e15 e16 e17 e18 e19 e20 e21 e22
    rfl
  have q_guid : ∀ w : World, (Op.equalIn 10000 26 (.agg (a.guid.map (Value.int .u8)).toArray) (.agg (b.guid.map (Value.int .u8)).toArray)).run Tryz.prog w = .ok (decide (a.guid = b.guid)) w := fun w => run_equalIn_arr3 Tryz.underlying26 Tryz.underlying5 size_u8e a.guid b.guid ka.glen kb.glen 9998 w
  have qg_guid := guard_guid
  have RA_guid : Hid (∀ (w : World) (g : Nat), Blk w g 34 (acells (.slice A1 An1 Ac1) (.slice A2 An2 Ac2) (.slice A3 An3 Ac3) a) → w.rangeAt g 1 (a.guid.map (Value.int .u8))) := fun w g h => acells_guid h ka
  have NA_guid : Hid ((a.guid.map (Value.int .u8)).length = 16) := by show _ = _; rw [List.length_map]; exact ka.glen
  have RB_guid : Hid (∀ (w : World) (g : Nat), Blk w g 34 (acells (.slice B1 Bn1 Bc1) (.slice B2 Bn2 Bc2) (.slice B3 Bn3 Bc3) b) → w.rangeAt g 1 (b.guid.map (Value.int .u8))) := fun w g h => acells_guid h kb
  have NB_guid : Hid ((b.guid.map (Value.int .u8)).length = 16) := by show _ = _; rw [List.length_map]; exact kb.glen
  have q_proof : ∀ w : World, (Op.equalIn 10000 30 (.agg (a.proof.map (Value.int .u8)).toArray) (.agg (b.proof.map (Value.int .u8)).toArray)).run Tryz.prog w = .ok (decide (a.proof = b.proof)) w := fun w => run_equalIn_arr3 Tryz.underlying30 Tryz.underlying5 size_u8e a.proof b.proof ka.plen kb.plen 9998 w
  have qg_proof := guard_proof
  have RA_proof : Hid (∀ (w : World) (g : Nat), Blk w g 34 (acells (.slice A1 An1 Ac1) (.slice A2 An2 Ac2) (.slice A3 An3 Ac3) a) → w.rangeAt g 17 (a.proof.map (Value.int .u8))) := fun w g h => acells_proof h ka
  have NA_proof : Hid ((a.proof.map (Value.int .u8)).length = 32) := by show _ = _; rw [List.length_map]; exact ka.plen
  have RB_proof : Hid (∀ (w : World) (g : Nat), Blk w g 34 (acells (.slice B1 Bn1 Bc1) (.slice B2 Bn2 Bc2) (.slice B3 Bn3 Bc3) b) → w.rangeAt g 17 (b.proof.map (Value.int .u8))) := fun w g h => acells_proof h kb
  have NB_proof : Hid ((b.proof.map (Value.int .u8)).length = 32) := by show _ = _; rw [List.length_map]; exact kb.plen
  have FA : Hid (∀ (w : World) (g : Nat), Blk w g 34 (acells (.slice A1 An1 Ac1) (.slice A2 An2 Ac2) (.slice A3 An3 Ac3) a) → w.cell? ⟨g, 0, none⟩ = some (.slice A1 An1 Ac1) ∧ w.cell? ⟨g, 49, none⟩ = some (.string a.user) ∧ w.cell? ⟨g, 50, none⟩ = some (.string a.share) ∧ w.cell? ⟨g, 51, none⟩ = some (.int .u32 a.acc) ∧ w.cell? ⟨g, 52, none⟩ = some (.int .u32 a.shr) ∧ w.cell? ⟨g, 53, none⟩ = some (.int .u32 a.way) ∧ w.cell? ⟨g, 54, none⟩ = some (.int .u32 a.opt) ∧ w.cell? ⟨g, 55, none⟩ = some (.int .u8 a.lev) ∧ w.cell? ⟨g, 56, none⟩ = some (.int .u8 a.dur) ∧ w.cell? ⟨g, 57, none⟩ = some (.int .u64 a.file) ∧ w.cell? ⟨g, 58, none⟩ = some (.string a.name) ∧ w.cell? ⟨g, 59, none⟩ = some (.int .u64 a.at_) ∧ w.cell? ⟨g, 60, none⟩ = some (.int .u32 a.n) ∧ w.cell? ⟨g, 61, none⟩ = some (.slice A2 An2 Ac2) ∧ w.cell? ⟨g, 62, none⟩ = some (.slice A3 An3 Ac3) ∧ w.cell? ⟨g, 63, none⟩ = some (.int .u16 a.most) ∧ w.cell? ⟨g, 64, none⟩ = some (.string a.pat) ∧ w.cell? ⟨g, 65, none⟩ = some (.string a.aft) ∧ w.cell? ⟨g, 66, none⟩ = some (.int .u16 a.cls) ∧ w.cell? ⟨g, 67, none⟩ = some (.int .u64 a.siz) ∧ w.cell? ⟨g, 68, none⟩ = some (.bool a.on)) := fun w g h =>
    ⟨h.at rfl, h.at (acells_get ka 0), h.at (acells_get ka 1), h.at (acells_get ka 2), h.at (acells_get ka 3), h.at (acells_get ka 4), h.at (acells_get ka 5), h.at (acells_get ka 6), h.at (acells_get ka 7), h.at (acells_get ka 8), h.at (acells_get ka 9), h.at (acells_get ka 10), h.at (acells_get ka 11), h.at (acells_get ka 12), h.at (acells_get ka 13), h.at (acells_get ka 14), h.at (acells_get ka 15), h.at (acells_get ka 16), h.at (acells_get ka 17), h.at (acells_get ka 18), h.at (acells_get ka 19)⟩
  have FB : Hid (∀ (w : World) (g : Nat), Blk w g 34 (acells (.slice B1 Bn1 Bc1) (.slice B2 Bn2 Bc2) (.slice B3 Bn3 Bc3) b) → w.cell? ⟨g, 0, none⟩ = some (.slice B1 Bn1 Bc1) ∧ w.cell? ⟨g, 49, none⟩ = some (.string b.user) ∧ w.cell? ⟨g, 50, none⟩ = some (.string b.share) ∧ w.cell? ⟨g, 51, none⟩ = some (.int .u32 b.acc) ∧ w.cell? ⟨g, 52, none⟩ = some (.int .u32 b.shr) ∧ w.cell? ⟨g, 53, none⟩ = some (.int .u32 b.way) ∧ w.cell? ⟨g, 54, none⟩ = some (.int .u32 b.opt) ∧ w.cell? ⟨g, 55, none⟩ = some (.int .u8 b.lev) ∧ w.cell? ⟨g, 56, none⟩ = some (.int .u8 b.dur) ∧ w.cell? ⟨g, 57, none⟩ = some (.int .u64 b.file) ∧ w.cell? ⟨g, 58, none⟩ = some (.string b.name) ∧ w.cell? ⟨g, 59, none⟩ = some (.int .u64 b.at_) ∧ w.cell? ⟨g, 60, none⟩ = some (.int .u32 b.n) ∧ w.cell? ⟨g, 61, none⟩ = some (.slice B2 Bn2 Bc2) ∧ w.cell? ⟨g, 62, none⟩ = some (.slice B3 Bn3 Bc3) ∧ w.cell? ⟨g, 63, none⟩ = some (.int .u16 b.most) ∧ w.cell? ⟨g, 64, none⟩ = some (.string b.pat) ∧ w.cell? ⟨g, 65, none⟩ = some (.string b.aft) ∧ w.cell? ⟨g, 66, none⟩ = some (.int .u16 b.cls) ∧ w.cell? ⟨g, 67, none⟩ = some (.int .u64 b.siz) ∧ w.cell? ⟨g, 68, none⟩ = some (.bool b.on)) := fun w g h =>
    ⟨h.at rfl, h.at (acells_get kb 0), h.at (acells_get kb 1), h.at (acells_get kb 2), h.at (acells_get kb 3), h.at (acells_get kb 4), h.at (acells_get kb 5), h.at (acells_get kb 6), h.at (acells_get kb 7), h.at (acells_get kb 8), h.at (acells_get kb 9), h.at (acells_get kb 10), h.at (acells_get kb 11), h.at (acells_get kb 12), h.at (acells_get kb 13), h.at (acells_get kb 14), h.at (acells_get kb 15), h.at (acells_get kb 16), h.at (acells_get kb 17), h.at (acells_get kb 18), h.at (acells_get kb 19)⟩
  obtain ⟨z_dial, hz_dial⟩ : ∃ z, z = decide (a.dial = b.dial) := ⟨_, rfl⟩
  rw [← hz_dial] at CW
  have Z_dial := Lib.hid hz_dial
  clear hz_dial
  obtain ⟨z_guid, hz_guid⟩ : ∃ z, z = decide (a.guid = b.guid) := ⟨_, rfl⟩
  rw [← hz_guid] at q_guid
  have Z_guid := Lib.hid hz_guid
  clear hz_guid
  obtain ⟨la_guid, hl⟩ : ∃ l, l = a.guid.map (Value.int .u8) := ⟨_, rfl⟩
  rw [← hl] at q_guid RA_guid NA_guid
  clear hl
  obtain ⟨lb_guid, hl⟩ : ∃ l, l = b.guid.map (Value.int .u8) := ⟨_, rfl⟩
  rw [← hl] at q_guid RB_guid NB_guid
  clear hl
  obtain ⟨z_proof, hz_proof⟩ : ∃ z, z = decide (a.proof = b.proof) := ⟨_, rfl⟩
  rw [← hz_proof] at q_proof
  have Z_proof := Lib.hid hz_proof
  clear hz_proof
  obtain ⟨la_proof, hl⟩ : ∃ l, l = a.proof.map (Value.int .u8) := ⟨_, rfl⟩
  rw [← hl] at q_proof RA_proof NA_proof
  clear hl
  obtain ⟨lb_proof, hl⟩ : ∃ l, l = b.proof.map (Value.int .u8) := ⟨_, rfl⟩
  rw [← hl] at q_proof RB_proof NB_proof
  clear hl
  obtain ⟨z_data, hz_data⟩ : ∃ z, z = decide (a.data = b.data) := ⟨_, rfl⟩
  rw [← hz_data] at CS
  have Z_data := Lib.hid hz_data
  clear hz_data
  obtain ⟨z_locks, hz_locks⟩ : ∃ z, z = decide (a.locks = b.locks) := ⟨_, rfl⟩
  rw [← hz_locks] at CR
  have Z_locks := Lib.hid hz_locks
  clear hz_locks
  obtain ⟨a_user, ha_user⟩ : ∃ x, x = a.user := ⟨_, rfl⟩
  rw [← ha_user] at FA f_user HT
  obtain ⟨b_user, hb_user⟩ : ∃ x, x = b.user := ⟨_, rfl⟩
  rw [← hb_user] at FB f_user HT
  obtain ⟨a_share, ha_share⟩ : ∃ x, x = a.share := ⟨_, rfl⟩
  rw [← ha_share] at FA f_share HT
  obtain ⟨b_share, hb_share⟩ : ∃ x, x = b.share := ⟨_, rfl⟩
  rw [← hb_share] at FB f_share HT
  obtain ⟨a_acc, ha_acc⟩ : ∃ x, x = a.acc := ⟨_, rfl⟩
  rw [← ha_acc] at FA f_acc HT
  obtain ⟨b_acc, hb_acc⟩ : ∃ x, x = b.acc := ⟨_, rfl⟩
  rw [← hb_acc] at FB f_acc HT
  obtain ⟨a_shr, ha_shr⟩ : ∃ x, x = a.shr := ⟨_, rfl⟩
  rw [← ha_shr] at FA f_shr HT
  obtain ⟨b_shr, hb_shr⟩ : ∃ x, x = b.shr := ⟨_, rfl⟩
  rw [← hb_shr] at FB f_shr HT
  obtain ⟨a_way, ha_way⟩ : ∃ x, x = a.way := ⟨_, rfl⟩
  rw [← ha_way] at FA f_way HT
  obtain ⟨b_way, hb_way⟩ : ∃ x, x = b.way := ⟨_, rfl⟩
  rw [← hb_way] at FB f_way HT
  obtain ⟨a_opt, ha_opt⟩ : ∃ x, x = a.opt := ⟨_, rfl⟩
  rw [← ha_opt] at FA f_opt HT
  obtain ⟨b_opt, hb_opt⟩ : ∃ x, x = b.opt := ⟨_, rfl⟩
  rw [← hb_opt] at FB f_opt HT
  obtain ⟨a_lev, ha_lev⟩ : ∃ x, x = a.lev := ⟨_, rfl⟩
  rw [← ha_lev] at FA f_lev HT
  obtain ⟨b_lev, hb_lev⟩ : ∃ x, x = b.lev := ⟨_, rfl⟩
  rw [← hb_lev] at FB f_lev HT
  obtain ⟨a_dur, ha_dur⟩ : ∃ x, x = a.dur := ⟨_, rfl⟩
  rw [← ha_dur] at FA f_dur HT
  obtain ⟨b_dur, hb_dur⟩ : ∃ x, x = b.dur := ⟨_, rfl⟩
  rw [← hb_dur] at FB f_dur HT
  obtain ⟨a_file, ha_file⟩ : ∃ x, x = a.file := ⟨_, rfl⟩
  rw [← ha_file] at FA f_file HT
  obtain ⟨b_file, hb_file⟩ : ∃ x, x = b.file := ⟨_, rfl⟩
  rw [← hb_file] at FB f_file HT
  obtain ⟨a_name, ha_name⟩ : ∃ x, x = a.name := ⟨_, rfl⟩
  rw [← ha_name] at FA f_name HT
  obtain ⟨b_name, hb_name⟩ : ∃ x, x = b.name := ⟨_, rfl⟩
  rw [← hb_name] at FB f_name HT
  obtain ⟨a_at_, ha_at_⟩ : ∃ x, x = a.at_ := ⟨_, rfl⟩
  rw [← ha_at_] at FA f_at_ HT
  obtain ⟨b_at_, hb_at_⟩ : ∃ x, x = b.at_ := ⟨_, rfl⟩
  rw [← hb_at_] at FB f_at_ HT
  obtain ⟨a_n, ha_n⟩ : ∃ x, x = a.n := ⟨_, rfl⟩
  rw [← ha_n] at FA f_n HT
  obtain ⟨b_n, hb_n⟩ : ∃ x, x = b.n := ⟨_, rfl⟩
  rw [← hb_n] at FB f_n HT
  obtain ⟨a_most, ha_most⟩ : ∃ x, x = a.most := ⟨_, rfl⟩
  rw [← ha_most] at FA f_most HT
  obtain ⟨b_most, hb_most⟩ : ∃ x, x = b.most := ⟨_, rfl⟩
  rw [← hb_most] at FB f_most HT
  obtain ⟨a_pat, ha_pat⟩ : ∃ x, x = a.pat := ⟨_, rfl⟩
  rw [← ha_pat] at FA f_pat HT
  obtain ⟨b_pat, hb_pat⟩ : ∃ x, x = b.pat := ⟨_, rfl⟩
  rw [← hb_pat] at FB f_pat HT
  obtain ⟨a_aft, ha_aft⟩ : ∃ x, x = a.aft := ⟨_, rfl⟩
  rw [← ha_aft] at FA f_aft HT
  obtain ⟨b_aft, hb_aft⟩ : ∃ x, x = b.aft := ⟨_, rfl⟩
  rw [← hb_aft] at FB f_aft HT
  obtain ⟨a_cls, ha_cls⟩ : ∃ x, x = a.cls := ⟨_, rfl⟩
  rw [← ha_cls] at FA f_cls HT
  obtain ⟨b_cls, hb_cls⟩ : ∃ x, x = b.cls := ⟨_, rfl⟩
  rw [← hb_cls] at FB f_cls HT
  obtain ⟨a_siz, ha_siz⟩ : ∃ x, x = a.siz := ⟨_, rfl⟩
  rw [← ha_siz] at FA f_siz HT
  obtain ⟨b_siz, hb_siz⟩ : ∃ x, x = b.siz := ⟨_, rfl⟩
  rw [← hb_siz] at FB f_siz HT
  obtain ⟨a_on, ha_on⟩ : ∃ x, x = a.on := ⟨_, rfl⟩
  rw [← ha_on] at FA f_on HT
  obtain ⟨b_on, hb_on⟩ : ∃ x, x = b.on := ⟨_, rfl⟩
  rw [← hb_on] at FB f_on HT
  obtain ⟨cs, hcs⟩ : ∃ c, c = acells (.slice A1 An1 Ac1) (.slice A2 An2 Ac2) (.slice A3 An3 Ac3) a := ⟨_, rfl⟩
  rw [← hcs] at FA RA_guid RA_proof HL ⊢
  obtain ⟨ds, hds⟩ : ∃ c, c = acells (.slice B1 Bn1 Bc1) (.slice B2 Bn2 Bc2) (.slice B3 Bn3 Bc3) b := ⟨_, rfl⟩
  rw [← hds] at FB RB_guid RB_proof HM ⊢
  obtain ⟨r, hr⟩ : ∃ r, r = decide (a = b) := ⟨_, rfl⟩
  rw [← hr] at HT f_dial f_guid f_proof f_user f_share f_acc f_shr f_way f_opt f_lev f_dur f_file f_name f_at_ f_n f_data f_locks f_most f_pat f_aft f_cls f_siz f_on ⊢
  clear hr hcs hds ka kb ha_user hb_user ha_share hb_share ha_acc hb_acc ha_shr hb_shr ha_way hb_way ha_opt hb_opt ha_lev hb_lev ha_dur hb_dur ha_file hb_file ha_name hb_name ha_at_ hb_at_ ha_n hb_n ha_most hb_most ha_pat hb_pat ha_aft hb_aft ha_cls hb_cls ha_siz hb_siz ha_on hb_on hx1 hx2 hx3 hy1 hy2 hy3 la1 la2 la3 lb1 lb2 lb3 bA1 bA2 bA3 bB1 bB2 bB3
  go_enter Tryz.func38, Tryz.ntmps38
  simp only [List.append_eq, List.cons_append, List.nil_append]
  go_wp2_with (first | ((with_reducible show wpList _ _ _ (⟨some 2, _, _, _, _, _⟩ :: _) _ _); refine wpList_box_blk rfl _ (.tmp 0) rfl cs rfl ?_; intro g w1 hg1 hg2 K0 L1) | ((with_reducible show wpList _ _ _ (⟨some 3, _, _, _, _, _⟩ :: _) _ _); refine wpList_box_blk rfl _ (.tmp 1) rfl ds rfl ?_; intro h w2 hg3 hg4 K2 L2'; have K1 := Lib.hid (K0.out.over L2'.out); have L2 := Lib.hid (step L1.out L2'.out); obtain ⟨ca_dial, ca_user, ca_share, ca_acc, ca_shr, ca_way, ca_opt, ca_lev, ca_dur, ca_file, ca_name, ca_at_, ca_n, ca_data, ca_locks, ca_most, ca_pat, ca_aft, ca_cls, ca_siz, ca_on⟩ := FA.out _ _ K1.out; obtain ⟨cb_dial, cb_user, cb_share, cb_acc, cb_shr, cb_way, cb_opt, cb_lev, cb_dur, cb_file, cb_name, cb_at_, cb_n, cb_data, cb_locks, cb_most, cb_pat, cb_aft, cb_cls, cb_siz, cb_on⟩ := FB.out _ _ K2.out; have rA_guid := Lib.hid (RA_guid.out _ _ K1.out); have rB_guid := Lib.hid (RB_guid.out _ _ K2.out); have rA_proof := Lib.hid (RA_proof.out _ _ K1.out); have rB_proof := Lib.hid (RB_proof.out _ _ K2.out)) | fail)
  clear K0 L1 L2' ca_dial cb_dial ca_user cb_user ca_share cb_share ca_acc cb_acc ca_shr cb_shr ca_way cb_way ca_opt cb_opt ca_lev cb_lev ca_dur cb_dur ca_file cb_file ca_name cb_name ca_at_ cb_at_ ca_n cb_n ca_data cb_data ca_locks cb_locks ca_most cb_most ca_pat cb_pat ca_aft cb_aft ca_cls cb_cls ca_siz cb_siz ca_on cb_on rA_guid rB_guid rA_proof rB_proof
  refine (CW.out _ L2.out).mono ?_
  rintro e w' ⟨rfl, j_dial, rfl⟩
  have K1_dial' := K1.out.drewN j_dial
  have K2_dial' := K2.out.drewN j_dial
  have L_dial' := below_drewN L2.out j_dial
  obtain ⟨w_dial, hw_dial⟩ : ∃ v, v = World.drewN w2 j_dial := ⟨_, rfl⟩
  rw [← hw_dial] at K1_dial' K2_dial' L_dial' ⊢
  have K1_dial := Lib.hid K1_dial'
  have K2_dial := Lib.hid K2_dial'
  have L_dial := Lib.hid L_dial'
  clear hw_dial K1_dial' K2_dial' L_dial' 
  cases z_dial
  · have ne : ¬ a.dial = b.dial := by have := Z_dial.out; simpa using this.symm
    have RS := Lib.hid (f_dial.out ne)
    clear ne
    go_wp2_with fail
    go_ret
    exact ⟨ret_bool RS.out.symm, L_dial.out⟩
  · have e_dial : Hid (a.dial = b.dial) := by have := Z_dial.out; show _ = _; simpa using this.symm
    obtain ⟨ca_dial, ca_user, ca_share, ca_acc, ca_shr, ca_way, ca_opt, ca_lev, ca_dur, ca_file, ca_name, ca_at_, ca_n, ca_data, ca_locks, ca_most, ca_pat, ca_aft, ca_cls, ca_siz, ca_on⟩ := FA.out _ _ K1_dial.out
    obtain ⟨cb_dial, cb_user, cb_share, cb_acc, cb_shr, cb_way, cb_opt, cb_lev, cb_dur, cb_file, cb_name, cb_at_, cb_n, cb_data, cb_locks, cb_most, cb_pat, cb_aft, cb_cls, cb_siz, cb_on⟩ := FB.out _ _ K2_dial.out
    have rA_guid := Lib.hid (RA_guid.out _ _ K1_dial.out)
    have rB_guid := Lib.hid (RB_guid.out _ _ K2_dial.out)
    have rA_proof := Lib.hid (RA_proof.out _ _ K1_dial.out)
    have rB_proof := Lib.hid (RB_proof.out _ _ K2_dial.out)
    cases z_guid
    · have ne : ¬ a.guid = b.guid := by have := Z_guid.out; simpa using this.symm
      have RS := Lib.hid (f_guid.out ne)
      clear ne
      go_wp2_with (first | ((with_reducible show wpList _ _ _ (⟨some 11, _, _, _, _, _⟩ :: _) _ _); refine wpList_fld_w (by kernel_rfl) _ (.tmp 2) 1 rfl (.pointer (some ⟨g, 0, none⟩)) (.pointer (some ⟨g, 1, none⟩)) (by kernel_rfl) (fld_ask1 g) ?_) | ((with_reducible show wpList _ _ _ (⟨some 12, _, _, _, _, _⟩ :: _) _ _); refine wpList_load_midw (by kernel_rfl) _ (.tmp 11) rfl g 1 rfl la_guid _ rA_guid Tryz.underlying26 rfl 16 size_guid NA_guid ?_) | ((with_reducible show wpList _ _ _ (⟨some 13, _, _, _, _, _⟩ :: _) _ _); refine wpList_fld_w (by kernel_rfl) _ (.tmp 3) 1 rfl (.pointer (some ⟨h, 0, none⟩)) (.pointer (some ⟨h, 1, none⟩)) (by kernel_rfl) (fld_ask1 h) ?_) | ((with_reducible show wpList _ _ _ (⟨some 14, _, _, _, _, _⟩ :: _) _ _); refine wpList_load_midw (by kernel_rfl) _ (.tmp 13) rfl h 1 rfl lb_guid _ rB_guid Tryz.underlying26 rfl 16 size_guid NB_guid ?_) | fail)
      go_ret
      exact ⟨ret_bool RS.out.symm, L_dial.out⟩
    · have e_guid : Hid (a.guid = b.guid) := by have := Z_guid.out; show _ = _; simpa using this.symm
      cases z_proof
      · have ne : ¬ a.proof = b.proof := by have := Z_proof.out; simpa using this.symm
        have RS := Lib.hid (f_proof.out ne)
        clear ne
        go_wp2_with (first | ((with_reducible show wpList _ _ _ (⟨some 11, _, _, _, _, _⟩ :: _) _ _); refine wpList_fld_w (by kernel_rfl) _ (.tmp 2) 1 rfl (.pointer (some ⟨g, 0, none⟩)) (.pointer (some ⟨g, 1, none⟩)) (by kernel_rfl) (fld_ask1 g) ?_) | ((with_reducible show wpList _ _ _ (⟨some 12, _, _, _, _, _⟩ :: _) _ _); refine wpList_load_midw (by kernel_rfl) _ (.tmp 11) rfl g 1 rfl la_guid _ rA_guid Tryz.underlying26 rfl 16 size_guid NA_guid ?_) | ((with_reducible show wpList _ _ _ (⟨some 13, _, _, _, _, _⟩ :: _) _ _); refine wpList_fld_w (by kernel_rfl) _ (.tmp 3) 1 rfl (.pointer (some ⟨h, 0, none⟩)) (.pointer (some ⟨h, 1, none⟩)) (by kernel_rfl) (fld_ask1 h) ?_) | ((with_reducible show wpList _ _ _ (⟨some 14, _, _, _, _, _⟩ :: _) _ _); refine wpList_load_midw (by kernel_rfl) _ (.tmp 13) rfl h 1 rfl lb_guid _ rB_guid Tryz.underlying26 rfl 16 size_guid NB_guid ?_) | ((with_reducible show wpList _ _ _ (⟨some 18, _, _, _, _, _⟩ :: _) _ _); refine wpList_fld_w (by kernel_rfl) _ (.tmp 2) 2 rfl (.pointer (some ⟨g, 0, none⟩)) (.pointer (some ⟨g, 17, none⟩)) (by kernel_rfl) (fld_ask2 g) ?_) | ((with_reducible show wpList _ _ _ (⟨some 19, _, _, _, _, _⟩ :: _) _ _); refine wpList_load_midw (by kernel_rfl) _ (.tmp 18) rfl g 17 rfl la_proof _ rA_proof Tryz.underlying30 rfl 32 size_proof NA_proof ?_) | ((with_reducible show wpList _ _ _ (⟨some 20, _, _, _, _, _⟩ :: _) _ _); refine wpList_fld_w (by kernel_rfl) _ (.tmp 3) 2 rfl (.pointer (some ⟨h, 0, none⟩)) (.pointer (some ⟨h, 17, none⟩)) (by kernel_rfl) (fld_ask2 h) ?_) | ((with_reducible show wpList _ _ _ (⟨some 21, _, _, _, _, _⟩ :: _) _ _); refine wpList_load_midw (by kernel_rfl) _ (.tmp 20) rfl h 17 rfl lb_proof _ rB_proof Tryz.underlying30 rfl 32 size_proof NB_proof ?_) | fail)
        go_ret
        exact ⟨ret_bool RS.out.symm, L_dial.out⟩
      · have e_proof : Hid (a.proof = b.proof) := by have := Z_proof.out; show _ = _; simpa using this.symm
        by_cases t_user : a_user = b_user
        rotate_left
        have nb : (a_user.toList == b_user.toList) = false := by rw [bytes_beq]; exact decide_eq_false t_user
        have RS := Lib.hid (f_user.out t_user)
        clear t_user
        rotate_right
        have nb_user : (a_user.toList == b_user.toList) = true := by rw [bytes_beq]; exact decide_eq_true t_user
        have e_user := Lib.hid t_user
        clear t_user
        by_cases t_share : a_share = b_share
        rotate_left
        have nb : (a_share.toList == b_share.toList) = false := by rw [bytes_beq]; exact decide_eq_false t_share
        have RS := Lib.hid (f_share.out t_share)
        clear t_share
        rotate_right
        have nb_share : (a_share.toList == b_share.toList) = true := by rw [bytes_beq]; exact decide_eq_true t_share
        have e_share := Lib.hid t_share
        clear t_share
        by_cases t_acc : a_acc = b_acc
        rotate_left
        have nb : (a_acc == b_acc) = false := by simpa using t_acc
        have RS := Lib.hid (f_acc.out t_acc)
        clear t_acc
        rotate_right
        have nb_acc : (a_acc == b_acc) = true := by simpa using t_acc
        have e_acc := Lib.hid t_acc
        clear t_acc
        by_cases t_shr : a_shr = b_shr
        rotate_left
        have nb : (a_shr == b_shr) = false := by simpa using t_shr
        have RS := Lib.hid (f_shr.out t_shr)
        clear t_shr
        rotate_right
        have nb_shr : (a_shr == b_shr) = true := by simpa using t_shr
        have e_shr := Lib.hid t_shr
        clear t_shr
        by_cases t_way : a_way = b_way
        rotate_left
        have nb : (a_way == b_way) = false := by simpa using t_way
        have RS := Lib.hid (f_way.out t_way)
        clear t_way
        rotate_right
        have nb_way : (a_way == b_way) = true := by simpa using t_way
        have e_way := Lib.hid t_way
        clear t_way
        by_cases t_opt : a_opt = b_opt
        rotate_left
        have nb : (a_opt == b_opt) = false := by simpa using t_opt
        have RS := Lib.hid (f_opt.out t_opt)
        clear t_opt
        rotate_right
        have nb_opt : (a_opt == b_opt) = true := by simpa using t_opt
        have e_opt := Lib.hid t_opt
        clear t_opt
        by_cases t_lev : a_lev = b_lev
        rotate_left
        have nb : (a_lev == b_lev) = false := by simpa using t_lev
        have RS := Lib.hid (f_lev.out t_lev)
        clear t_lev
        rotate_right
        have nb_lev : (a_lev == b_lev) = true := by simpa using t_lev
        have e_lev := Lib.hid t_lev
        clear t_lev
        by_cases t_dur : a_dur = b_dur
        rotate_left
        have nb : (a_dur == b_dur) = false := by simpa using t_dur
        have RS := Lib.hid (f_dur.out t_dur)
        clear t_dur
        rotate_right
        have nb_dur : (a_dur == b_dur) = true := by simpa using t_dur
        have e_dur := Lib.hid t_dur
        clear t_dur
        by_cases t_file : a_file = b_file
        rotate_left
        have nb : (a_file == b_file) = false := by simpa using t_file
        have RS := Lib.hid (f_file.out t_file)
        clear t_file
        rotate_right
        have nb_file : (a_file == b_file) = true := by simpa using t_file
        have e_file := Lib.hid t_file
        clear t_file
        by_cases t_name : a_name = b_name
        rotate_left
        have nb : (a_name.toList == b_name.toList) = false := by rw [bytes_beq]; exact decide_eq_false t_name
        have RS := Lib.hid (f_name.out t_name)
        clear t_name
        rotate_right
        have nb_name : (a_name.toList == b_name.toList) = true := by rw [bytes_beq]; exact decide_eq_true t_name
        have e_name := Lib.hid t_name
        clear t_name
        by_cases t_at_ : a_at_ = b_at_
        rotate_left
        have nb : (a_at_ == b_at_) = false := by simpa using t_at_
        have RS := Lib.hid (f_at_.out t_at_)
        clear t_at_
        rotate_right
        have nb_at_ : (a_at_ == b_at_) = true := by simpa using t_at_
        have e_at_ := Lib.hid t_at_
        clear t_at_
        by_cases t_n : a_n = b_n
        rotate_left
        have nb : (a_n == b_n) = false := by simpa using t_n
        have RS := Lib.hid (f_n.out t_n)
        clear t_n
        rotate_right
        have nb_n : (a_n == b_n) = true := by simpa using t_n
        have e_n := Lib.hid t_n
        clear t_n
        go_wp2_with (first | ((with_reducible show wpList _ _ _ (⟨some 11, _, _, _, _, _⟩ :: _) _ _); refine wpList_fld_w (by kernel_rfl) _ (.tmp 2) 1 rfl (.pointer (some ⟨g, 0, none⟩)) (.pointer (some ⟨g, 1, none⟩)) (by kernel_rfl) (fld_ask1 g) ?_) | ((with_reducible show wpList _ _ _ (⟨some 12, _, _, _, _, _⟩ :: _) _ _); refine wpList_load_midw (by kernel_rfl) _ (.tmp 11) rfl g 1 rfl la_guid _ rA_guid Tryz.underlying26 rfl 16 size_guid NA_guid ?_) | ((with_reducible show wpList _ _ _ (⟨some 13, _, _, _, _, _⟩ :: _) _ _); refine wpList_fld_w (by kernel_rfl) _ (.tmp 3) 1 rfl (.pointer (some ⟨h, 0, none⟩)) (.pointer (some ⟨h, 1, none⟩)) (by kernel_rfl) (fld_ask1 h) ?_) | ((with_reducible show wpList _ _ _ (⟨some 14, _, _, _, _, _⟩ :: _) _ _); refine wpList_load_midw (by kernel_rfl) _ (.tmp 13) rfl h 1 rfl lb_guid _ rB_guid Tryz.underlying26 rfl 16 size_guid NB_guid ?_) | ((with_reducible show wpList _ _ _ (⟨some 18, _, _, _, _, _⟩ :: _) _ _); refine wpList_fld_w (by kernel_rfl) _ (.tmp 2) 2 rfl (.pointer (some ⟨g, 0, none⟩)) (.pointer (some ⟨g, 17, none⟩)) (by kernel_rfl) (fld_ask2 g) ?_) | ((with_reducible show wpList _ _ _ (⟨some 19, _, _, _, _, _⟩ :: _) _ _); refine wpList_load_midw (by kernel_rfl) _ (.tmp 18) rfl g 17 rfl la_proof _ rA_proof Tryz.underlying30 rfl 32 size_proof NA_proof ?_) | ((with_reducible show wpList _ _ _ (⟨some 20, _, _, _, _, _⟩ :: _) _ _); refine wpList_fld_w (by kernel_rfl) _ (.tmp 3) 2 rfl (.pointer (some ⟨h, 0, none⟩)) (.pointer (some ⟨h, 17, none⟩)) (by kernel_rfl) (fld_ask2 h) ?_) | ((with_reducible show wpList _ _ _ (⟨some 21, _, _, _, _, _⟩ :: _) _ _); refine wpList_load_midw (by kernel_rfl) _ (.tmp 20) rfl h 17 rfl lb_proof _ rB_proof Tryz.underlying30 rfl 32 size_proof NB_proof ?_) | fail)
        refine (CS.out _ L_dial.out).mono ?_
        rintro e w' ⟨rfl, j_data, rfl⟩
        have K1_data' := K1_dial.out.drewN j_data
        have K2_data' := K2_dial.out.drewN j_data
        have L_data' := below_drewN L_dial.out j_data
        obtain ⟨w_data, hw_data⟩ : ∃ v, v = World.drewN w_dial j_data := ⟨_, rfl⟩
        rw [← hw_data] at K1_data' K2_data' L_data' ⊢
        have K1_data := Lib.hid K1_data'
        have K2_data := Lib.hid K2_data'
        have L_data := Lib.hid L_data'
        clear hw_data K1_data' K2_data' L_data' ca_dial cb_dial ca_user cb_user ca_share cb_share ca_acc cb_acc ca_shr cb_shr ca_way cb_way ca_opt cb_opt ca_lev cb_lev ca_dur cb_dur ca_file cb_file ca_name cb_name ca_at_ cb_at_ ca_n cb_n ca_data cb_data ca_locks cb_locks ca_most cb_most ca_pat cb_pat ca_aft cb_aft ca_cls cb_cls ca_siz cb_siz ca_on cb_on
        clear rA_guid rB_guid rA_proof rB_proof
        cases z_data
        · have ne : ¬ a.data = b.data := by have := Z_data.out; simpa using this.symm
          have RS := Lib.hid (f_data.out ne)
          clear ne
          go_wp2_with fail
          go_ret
          exact ⟨ret_bool RS.out.symm, L_data.out⟩
        · have e_data : Hid (a.data = b.data) := by have := Z_data.out; show _ = _; simpa using this.symm
          obtain ⟨ca_dial, ca_user, ca_share, ca_acc, ca_shr, ca_way, ca_opt, ca_lev, ca_dur, ca_file, ca_name, ca_at_, ca_n, ca_data, ca_locks, ca_most, ca_pat, ca_aft, ca_cls, ca_siz, ca_on⟩ := FA.out _ _ K1_data.out
          obtain ⟨cb_dial, cb_user, cb_share, cb_acc, cb_shr, cb_way, cb_opt, cb_lev, cb_dur, cb_file, cb_name, cb_at_, cb_n, cb_data, cb_locks, cb_most, cb_pat, cb_aft, cb_cls, cb_siz, cb_on⟩ := FB.out _ _ K2_data.out
          have rA_guid := Lib.hid (RA_guid.out _ _ K1_data.out)
          have rB_guid := Lib.hid (RB_guid.out _ _ K2_data.out)
          have rA_proof := Lib.hid (RA_proof.out _ _ K1_data.out)
          have rB_proof := Lib.hid (RB_proof.out _ _ K2_data.out)
          go_wp2_with fail
          refine (CR.out _ L_data.out).mono ?_
          rintro e w' ⟨rfl, j_locks, rfl⟩
          have K1_locks' := K1_data.out.drewN j_locks
          have K2_locks' := K2_data.out.drewN j_locks
          have L_locks' := below_drewN L_data.out j_locks
          obtain ⟨w_locks, hw_locks⟩ : ∃ v, v = World.drewN w_data j_locks := ⟨_, rfl⟩
          rw [← hw_locks] at K1_locks' K2_locks' L_locks' ⊢
          have K1_locks := Lib.hid K1_locks'
          have K2_locks := Lib.hid K2_locks'
          have L_locks := Lib.hid L_locks'
          clear hw_locks K1_locks' K2_locks' L_locks' 
          cases z_locks
          · have ne : ¬ a.locks = b.locks := by have := Z_locks.out; simpa using this.symm
            have RS := Lib.hid (f_locks.out ne)
            clear ne
            go_wp2_with fail
            go_ret
            exact ⟨ret_bool RS.out.symm, L_locks.out⟩
          · have e_locks : Hid (a.locks = b.locks) := by have := Z_locks.out; show _ = _; simpa using this.symm
            obtain ⟨ca_dial, ca_user, ca_share, ca_acc, ca_shr, ca_way, ca_opt, ca_lev, ca_dur, ca_file, ca_name, ca_at_, ca_n, ca_data, ca_locks, ca_most, ca_pat, ca_aft, ca_cls, ca_siz, ca_on⟩ := FA.out _ _ K1_locks.out
            obtain ⟨cb_dial, cb_user, cb_share, cb_acc, cb_shr, cb_way, cb_opt, cb_lev, cb_dur, cb_file, cb_name, cb_at_, cb_n, cb_data, cb_locks, cb_most, cb_pat, cb_aft, cb_cls, cb_siz, cb_on⟩ := FB.out _ _ K2_locks.out
            have rA_guid := Lib.hid (RA_guid.out _ _ K1_locks.out)
            have rB_guid := Lib.hid (RB_guid.out _ _ K2_locks.out)
            have rA_proof := Lib.hid (RA_proof.out _ _ K1_locks.out)
            have rB_proof := Lib.hid (RB_proof.out _ _ K2_locks.out)
            by_cases t_most : a_most = b_most
            rotate_left
            have nb : (a_most == b_most) = false := by simpa using t_most
            have RS := Lib.hid (f_most.out t_most)
            clear t_most
            rotate_right
            have nb_most : (a_most == b_most) = true := by simpa using t_most
            have e_most := Lib.hid t_most
            clear t_most
            by_cases t_pat : a_pat = b_pat
            rotate_left
            have nb : (a_pat.toList == b_pat.toList) = false := by rw [bytes_beq]; exact decide_eq_false t_pat
            have RS := Lib.hid (f_pat.out t_pat)
            clear t_pat
            rotate_right
            have nb_pat : (a_pat.toList == b_pat.toList) = true := by rw [bytes_beq]; exact decide_eq_true t_pat
            have e_pat := Lib.hid t_pat
            clear t_pat
            by_cases t_aft : a_aft = b_aft
            rotate_left
            have nb : (a_aft.toList == b_aft.toList) = false := by rw [bytes_beq]; exact decide_eq_false t_aft
            have RS := Lib.hid (f_aft.out t_aft)
            clear t_aft
            rotate_right
            have nb_aft : (a_aft.toList == b_aft.toList) = true := by rw [bytes_beq]; exact decide_eq_true t_aft
            have e_aft := Lib.hid t_aft
            clear t_aft
            by_cases t_cls : a_cls = b_cls
            rotate_left
            have nb : (a_cls == b_cls) = false := by simpa using t_cls
            have RS := Lib.hid (f_cls.out t_cls)
            clear t_cls
            rotate_right
            have nb_cls : (a_cls == b_cls) = true := by simpa using t_cls
            have e_cls := Lib.hid t_cls
            clear t_cls
            by_cases t_siz : a_siz = b_siz
            rotate_left
            have nb : (a_siz == b_siz) = false := by simpa using t_siz
            have RS := Lib.hid (f_siz.out t_siz)
            clear t_siz
            rotate_right
            have nb_siz : (a_siz == b_siz) = true := by simpa using t_siz
            have e_siz := Lib.hid t_siz
            clear t_siz
            by_cases t_on : a_on = b_on
            rotate_left
            have nb : (a_on == b_on) = false := by simpa using t_on
            have RS := Lib.hid (f_on.out t_on)
            clear t_on
            rotate_right
            have nb_on : (a_on == b_on) = true := by simpa using t_on
            have e_on := Lib.hid t_on
            clear t_on
            go_wp2_with fail
            go_ret
            exact ⟨ret_bool (HT.out e_dial.out e_guid.out e_proof.out e_user.out e_share.out e_acc.out e_shr.out e_way.out e_opt.out e_lev.out e_dur.out e_file.out e_name.out e_at_.out e_n.out e_data.out e_locks.out e_most.out e_pat.out e_aft.out e_cls.out e_siz.out e_on.out).symm, L_locks.out⟩
            all_goals
              go_wp2_with fail
              go_ret
              exact ⟨ret_bool RS.out.symm, L_locks.out⟩
        all_goals
          go_wp2_with (first | ((with_reducible show wpList _ _ _ (⟨some 11, _, _, _, _, _⟩ :: _) _ _); refine wpList_fld_w (by kernel_rfl) _ (.tmp 2) 1 rfl (.pointer (some ⟨g, 0, none⟩)) (.pointer (some ⟨g, 1, none⟩)) (by kernel_rfl) (fld_ask1 g) ?_) | ((with_reducible show wpList _ _ _ (⟨some 12, _, _, _, _, _⟩ :: _) _ _); refine wpList_load_midw (by kernel_rfl) _ (.tmp 11) rfl g 1 rfl la_guid _ rA_guid Tryz.underlying26 rfl 16 size_guid NA_guid ?_) | ((with_reducible show wpList _ _ _ (⟨some 13, _, _, _, _, _⟩ :: _) _ _); refine wpList_fld_w (by kernel_rfl) _ (.tmp 3) 1 rfl (.pointer (some ⟨h, 0, none⟩)) (.pointer (some ⟨h, 1, none⟩)) (by kernel_rfl) (fld_ask1 h) ?_) | ((with_reducible show wpList _ _ _ (⟨some 14, _, _, _, _, _⟩ :: _) _ _); refine wpList_load_midw (by kernel_rfl) _ (.tmp 13) rfl h 1 rfl lb_guid _ rB_guid Tryz.underlying26 rfl 16 size_guid NB_guid ?_) | ((with_reducible show wpList _ _ _ (⟨some 18, _, _, _, _, _⟩ :: _) _ _); refine wpList_fld_w (by kernel_rfl) _ (.tmp 2) 2 rfl (.pointer (some ⟨g, 0, none⟩)) (.pointer (some ⟨g, 17, none⟩)) (by kernel_rfl) (fld_ask2 g) ?_) | ((with_reducible show wpList _ _ _ (⟨some 19, _, _, _, _, _⟩ :: _) _ _); refine wpList_load_midw (by kernel_rfl) _ (.tmp 18) rfl g 17 rfl la_proof _ rA_proof Tryz.underlying30 rfl 32 size_proof NA_proof ?_) | ((with_reducible show wpList _ _ _ (⟨some 20, _, _, _, _, _⟩ :: _) _ _); refine wpList_fld_w (by kernel_rfl) _ (.tmp 3) 2 rfl (.pointer (some ⟨h, 0, none⟩)) (.pointer (some ⟨h, 17, none⟩)) (by kernel_rfl) (fld_ask2 h) ?_) | ((with_reducible show wpList _ _ _ (⟨some 21, _, _, _, _, _⟩ :: _) _ _); refine wpList_load_midw (by kernel_rfl) _ (.tmp 20) rfl h 17 rfl lb_proof _ rB_proof Tryz.underlying30 rfl 32 size_proof NB_proof ?_) | fail)
          go_ret
          exact ⟨ret_bool RS.out.symm, L_dial.out⟩
end Go.Proofs.YtpodpmckdiijhaaGreatDoor
