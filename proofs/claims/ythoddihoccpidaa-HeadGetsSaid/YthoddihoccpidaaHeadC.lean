/-
  Layer 7 (head): the contract of head.fields: the list of a head's numbers, each with the function that takes it.
-/
import Derived.Test.YthoddihoccpidaaHeadB
namespace Go.Proofs.Ythoddihoccpidaa
open Go.RowKit

/-- the function that takes number k -/
def fnk : Nat → FuncId
  | 0 => 33
  | 1 => 33
  | 2 => 34
  | 3 => 35
  | 4 => 36
  | 5 => 37
  | 6 => 38
  | 7 => 39
  | 8 => 40
  | 9 => 42
  | 10 => 44
  | _ => 0
def fnv (p k : Nat) : Value := .func (.func (fnk k)) #[] (if k < 2 then #[] else #[.pointer (some ⟨p, 0, none⟩)])
/-- the list's cells -/
def fcellsV (p : Nat) (c0 c1 c2 c3 c4 c5 c6 c9 c10 : Int) : List Value :=
  [.int .i64 0, .int .i64 4, .int .u64 1112364030, .func (.func 33) #[] #[],
    .int .i64 4, .int .i64 2, .int .u64 64, .func (.func 33) #[] #[],
    .int .i64 6, .int .i64 2, .int .u64 c0, .func (.func 34) #[] #[.pointer (some ⟨p, 0, none⟩)],
    .int .i64 8, .int .i64 4, .int .u64 c1, .func (.func 35) #[] #[.pointer (some ⟨p, 0, none⟩)],
    .int .i64 12, .int .i64 2, .int .u64 c2, .func (.func 36) #[] #[.pointer (some ⟨p, 0, none⟩)],
    .int .i64 14, .int .i64 2, .int .u64 c3, .func (.func 37) #[] #[.pointer (some ⟨p, 0, none⟩)],
    .int .i64 16, .int .i64 4, .int .u64 c4, .func (.func 38) #[] #[.pointer (some ⟨p, 0, none⟩)],
    .int .i64 20, .int .i64 4, .int .u64 c5, .func (.func 39) #[] #[.pointer (some ⟨p, 0, none⟩)],
    .int .i64 24, .int .i64 8, .int .u64 c6, .func (.func 40) #[] #[.pointer (some ⟨p, 0, none⟩)],
    .int .i64 32, .int .i64 8, .int .u64 c9, .func (.func 42) #[] #[.pointer (some ⟨p, 0, none⟩)],
    .int .i64 40, .int .i64 8, .int .u64 c10, .func (.func 44) #[] #[.pointer (some ⟨p, 0, none⟩)]]
def fcells (p : Nat) (h : Hd) : List Value := fcellsV p h.ch h.st h.cm h.cr h.fl h.nx h.id (aot h) h.se
theorem fcells_len (p : Nat) (h : Hd) : (fcells p h).length = 44 := rfl
/-- number k of them -/
def fel (p : Nat) (h : Hd) (k : Nat) : List Value := [.int .i64 (offs.getD k 0 : Nat), .int .i64 (szs.getD k 0 : Nat), .int .u64 ((vals h).getD k 0), fnv p k]
theorem fcells_at (p : Nat) (h : Hd) (k : Nat) (hk : k < 11) (j : Nat) (v : Value) (hj : (fel p h k)[j]? = some v) : (fcells p h)[k * 4 + j]? = some v := by
  have h4 : j < 4 := by
    have := (List.getElem?_eq_some_iff.1 hj).1
    simpa [fel] using this
  rw [← hj]
  revert hk
  match j, h4 with
  | 0, _ => exact fun hk => eleven (p := fun k => (fcells p h)[k * 4 + 0]? = (fel p h k)[0]?) rfl rfl rfl rfl rfl rfl rfl rfl rfl rfl rfl k hk
  | 1, _ => exact fun hk => eleven (p := fun k => (fcells p h)[k * 4 + 1]? = (fel p h k)[1]?) rfl rfl rfl rfl rfl rfl rfl rfl rfl rfl rfl k hk
  | 2, _ => exact fun hk => eleven (p := fun k => (fcells p h)[k * 4 + 2]? = (fel p h k)[2]?) rfl rfl rfl rfl rfl rfl rfl rfl rfl rfl rfl k hk
  | 3, _ => exact fun hk => eleven (p := fun k => (fcells p h)[k * 4 + 3]? = (fel p h k)[3]?) rfl rfl rfl rfl rfl rfl rfl rfl rfl rfl rfl k hk
theorem fcells_range {w : World} {G p : Nat} {T : TypeId} {h : Hd} (B : Blk w G T (fcells p h)) (k : Nat) (hk : k < 11) : w.rangeAt G (k * 4) (fel p h k) := fun j v hj => by
  rw [B.cell]
  exact fcells_at p h k hk j v hj

/-- what fields answers -/
def FieldsPost (w : World) (g : Nat) (h : Hd) (e : Ending) (w' : World) : Prop :=
  ∃ p G, e = .returned (.slice (some ⟨G, 0, none⟩) 11 11) ∧ w.heap.size ≤ p ∧ p < G ∧ Blk w' p 49 [.pointer (some ⟨g, 0, none⟩)] ∧ Blk w' G 52 (fcells p h) ∧ Below w.heap.size w w'

set_option maxRecDepth 100000 in
set_option maxHeartbeats 8000000 in
theorem fields_any (w : World) (g : Nat) (h : Hd) (k : h.ok) (hB : HB w g h) :
    Calls Try.prog 24 #[.pointer (some ⟨g, 0, none⟩)] w (FieldsPost w g h) := by
  have hmf : ∀ (fn : Fn) (first cap : Array Value) (w : World), (Instr.makeFunc fn first cap).run Try.prog w = .ok (.func fn first cap) w := fun _ _ _ _ => rfl
  have HL := Lib.hid (hcells_len k)
  have C0 : Hid (∀ w : World, Calls Try.prog 41 #[hv h] w fun e w' => e = .returned (.int .u64 (aot h)) ∧ Below w.heap.size w w') := fun w => asyncOrTree_any w h k
  have HQ : Hid (∀ e w', (∃ p G, e = .returned (.slice (some ⟨G, 0, none⟩) 11 11) ∧ w.heap.size ≤ p ∧ p < G ∧ Blk w' p 49 [.pointer (some ⟨g, 0, none⟩)] ∧ Blk w' G 52 (fcells p h) ∧ Below w.heap.size w w') → FieldsPost w g h e w') := fun _ _ hh => hh
  obtain ⟨k0, k1, k2, k3, k4, k5, k6, k7, k8, k9, _, _⟩ := k
  have HB0 := Lib.hid hB
  unfold hv at C0
  unfold fcells at HQ
  obtain ⟨n9, hn9⟩ : ∃ n, n = aot h := ⟨_, rfl⟩
  obtain ⟨cs, hcs⟩ : ∃ cs, cs = hcells h := ⟨_, rfl⟩
  have HC := Lib.hid hcs
  rw [← hcs] at C0 HL
  rw [← hn9] at C0 HQ
  have FW : Hid (∀ w', Blk w' g 28 cs → w'.cell? ⟨g, 0, none⟩ = some (.int .u16 h.ch) ∧ w'.cell? ⟨g, 1, none⟩ = some (.int .u32 h.st) ∧ w'.cell? ⟨g, 2, none⟩ = some (.int .u16 h.cm) ∧ w'.cell? ⟨g, 3, none⟩ = some (.int .u16 h.cr) ∧
      w'.cell? ⟨g, 4, none⟩ = some (.int .u32 h.fl) ∧ w'.cell? ⟨g, 5, none⟩ = some (.int .u32 h.nx) ∧ w'.cell? ⟨g, 6, none⟩ = some (.int .u64 h.id) ∧ w'.cell? ⟨g, 9, none⟩ = some (.int .u64 h.se)) := fun w' b => by
    have X : HB w' g h := HB.of HC.out b
    exact ⟨X.c0, X.c1, X.c2, X.c3, X.c4, X.c5, X.c6, X.c9⟩
  have HB1 : Hid (Blk w g 28 cs) := by show Blk _ _ _ _; rw [HC.out]; exact HB0.out
  clear hB hcs hn9 HB0
  obtain ⟨n0, hn0⟩ : ∃ n, n = h.ch := ⟨_, rfl⟩
  obtain ⟨n1, hn1⟩ : ∃ n, n = h.st := ⟨_, rfl⟩
  obtain ⟨n2, hn2⟩ : ∃ n, n = h.cm := ⟨_, rfl⟩
  obtain ⟨n3, hn3⟩ : ∃ n, n = h.cr := ⟨_, rfl⟩
  obtain ⟨n4, hn4⟩ : ∃ n, n = h.fl := ⟨_, rfl⟩
  obtain ⟨n5, hn5⟩ : ∃ n, n = h.nx := ⟨_, rfl⟩
  obtain ⟨n6, hn6⟩ : ∃ n, n = h.id := ⟨_, rfl⟩
  obtain ⟨n10, hn10⟩ : ∃ n, n = h.se := ⟨_, rfl⟩
  rw [← hn0] at FW HQ k0
  rw [← hn1] at FW HQ k1
  rw [← hn2] at FW HQ k2
  rw [← hn3] at FW HQ k3
  rw [← hn4] at FW HQ k4
  rw [← hn5] at FW HQ k5
  rw [← hn6] at FW HQ k6
  rw [← hn10] at FW HQ k9
  obtain ⟨k00, k01⟩ := k0
  obtain ⟨k10, k11⟩ := k1
  obtain ⟨k20, k21⟩ := k2
  obtain ⟨k30, k31⟩ := k3
  obtain ⟨k40, k41⟩ := k4
  obtain ⟨k50, k51⟩ := k5






  clear hn0 hn1 hn2 hn3 hn4 hn5 hn6 hn10 k6 k7 k8 k9
  go_enter Try.func24, Try.ntmps24
  go_upto_region 2 with (first
    | ((with_reducible show wpList _ _ _ (⟨some 1, _, _, _, _, _⟩ :: _) _ _); refine wpList_box_one rfl _ (.tmp 0) rfl _ rfl rfl ?_; intro p w1 hp1 hp2 P1 L1)
    | fail)
  refine wp_region_held (S := fun w' => Blk w' p 49 [.pointer (some ⟨g, 0, none⟩)] ∧ Blk w' g 28 cs) (by kernel_rfl) ?_
  change wpAnyH _ _ _ _ _ _ _ _ w1.drew
  have S0 : Hid (Blk w1.drew p 49 [.pointer (some ⟨g, 0, none⟩)] ∧ Blk w1.drew g 28 cs) := ⟨P1.out.drew, (HB1.out.over L1.out).drew⟩
  have b0 : Hid (Below w.heap.size w w1.drew) := L1.out.drew
  have hp2' : p < w1.drew.heap.size := hp2
  obtain ⟨w0, hw0⟩ : ∃ w0, w0 = w1.drew := ⟨_, rfl⟩
  rw [← hw0] at S0 b0 hp2' ⊢
  clear hw0 HB1 P1 L1 hp2
  -- region, by tools/gen_region_takes.py
  refine wpAnyH_take (i := 0) (v := _) rfl (by kernel_rfl) (by kernel_rfl) (by kernel_rfl) (fun _ _ _ h => h) (yieldsIf_move (by kernel_rfl) (.tmp 3) rfl (.func (.func 33) #[] #[]) (by kernel_rfl)) S0.out ?_
  refine wpAnyH_take (i := 1) (v := _) rfl (by kernel_rfl) (by kernel_rfl) (by kernel_rfl) (fun _ _ _ h => h) (yieldsIf_build_blk (by kernel_rfl) _ _ rfl [.int .i64 0, .int .i64 4, .int .u64 1112364030, .func (.func 33) #[] #[]] (by kernel_rfl)) S0.out ?_
  refine wpAnyH_take (i := 2) (v := _) rfl (by kernel_rfl) (by kernel_rfl) (by kernel_rfl) (fun _ _ _ h => h) (yieldsIf_move (by kernel_rfl) (.tmp 3) rfl (.func (.func 33) #[] #[]) (by kernel_rfl)) S0.out ?_
  refine wpAnyH_take (i := 3) (v := _) rfl (by kernel_rfl) (by kernel_rfl) (by kernel_rfl) (fun _ _ _ h => h) (yieldsIf_build_blk (by kernel_rfl) _ _ rfl [.int .i64 4, .int .i64 2, .int .u64 64, .func (.func 33) #[] #[]] (by kernel_rfl)) S0.out ?_
  refine wpAnyH_take (i := 4) (v := _) rfl (by kernel_rfl) (by kernel_rfl) (by kernel_rfl) (fun _ _ _ h => h) (yieldsIf_load_one (by kernel_rfl) _ (.tmp 1) rfl p 0 (by kernel_rfl) (.pointer (some ⟨g, 0, none⟩)) (fun _ h => h.1.cell 0) _ Try.underlying49 rfl) S0.out ?_
  refine wpAnyH_take (i := 5) (v := _) rfl (by kernel_rfl) (by kernel_rfl) (by kernel_rfl) (fun _ _ _ h => h) (yieldsIf_nil (by kernel_rfl) (.tmp 8) rfl ⟨g, 0, none⟩ (by kernel_rfl)) S0.out ?_
  refine wpAnyH_take (i := 6) (v := _) rfl (by kernel_rfl) (by kernel_rfl) (by kernel_rfl) (fun _ _ _ h => h) (yieldsIf_fld (by kernel_rfl) _ (.tmp 9) 0 rfl (.pointer (some ⟨g, 0, none⟩)) (.pointer (some ⟨g, 0, none⟩)) (by kernel_rfl) (fld_hd g 0 (by decide))) S0.out ?_
  refine wpAnyH_take (i := 7) (v := _) rfl (by kernel_rfl) (by kernel_rfl) (by kernel_rfl) (fun _ _ _ h => h) (yieldsIf_load_one (by kernel_rfl) _ (.tmp 10) rfl g 0 (by kernel_rfl) (.int .u16 n0) (fun w h => (FW.out w h.2).1) _ Try.underlying22 rfl) S0.out ?_
  refine wpAnyH_take (i := 8) (v := _) rfl (by kernel_rfl) (by kernel_rfl) (by kernel_rfl) (fun _ _ _ h => h) (yieldsIf_conv (by kernel_rfl) _ _ (.tmp 11) rfl (.int .u16 n0) (.int .u64 n0) (by kernel_rfl) (conv_u16 n0 k00 k01)) S0.out ?_
  refine wpAnyH_take (i := 9) (v := _) rfl (by kernel_rfl) (by kernel_rfl) (by kernel_rfl) (fun _ _ _ h => h) (yieldsIf_fn (by kernel_rfl) _ _ _ rfl #[] #[.pointer (some ⟨p, 0, none⟩)] (by kernel_rfl) (by kernel_rfl) (hmf _ _ _)) S0.out ?_
  refine wpAnyH_take (i := 10) (v := _) rfl (by kernel_rfl) (by kernel_rfl) (by kernel_rfl) (fun _ _ _ h => h) (yieldsIf_build_blk (by kernel_rfl) _ _ rfl [.int .i64 6, .int .i64 2, .int .u64 n0, .func (.func 34) #[] #[.pointer (some ⟨p, 0, none⟩)]] (by kernel_rfl)) S0.out ?_
  refine wpAnyH_take (i := 11) (v := _) rfl (by kernel_rfl) (by kernel_rfl) (by kernel_rfl) (fun _ _ _ h => h) (yieldsIf_load_one (by kernel_rfl) _ (.tmp 1) rfl p 0 (by kernel_rfl) (.pointer (some ⟨g, 0, none⟩)) (fun _ h => h.1.cell 0) _ Try.underlying49 rfl) S0.out ?_
  refine wpAnyH_take (i := 12) (v := _) rfl (by kernel_rfl) (by kernel_rfl) (by kernel_rfl) (fun _ _ _ h => h) (yieldsIf_nil (by kernel_rfl) (.tmp 15) rfl ⟨g, 0, none⟩ (by kernel_rfl)) S0.out ?_
  refine wpAnyH_take (i := 13) (v := _) rfl (by kernel_rfl) (by kernel_rfl) (by kernel_rfl) (fun _ _ _ h => h) (yieldsIf_fld (by kernel_rfl) _ (.tmp 16) 1 rfl (.pointer (some ⟨g, 0, none⟩)) (.pointer (some ⟨g, 1, none⟩)) (by kernel_rfl) (fld_hd g 1 (by decide))) S0.out ?_
  refine wpAnyH_take (i := 14) (v := _) rfl (by kernel_rfl) (by kernel_rfl) (by kernel_rfl) (fun _ _ _ h => h) (yieldsIf_load_one (by kernel_rfl) _ (.tmp 17) rfl g 1 (by kernel_rfl) (.int .u32 n1) (fun w h => (FW.out w h.2).2.1) _ Try.underlying23 rfl) S0.out ?_
  refine wpAnyH_take (i := 15) (v := _) rfl (by kernel_rfl) (by kernel_rfl) (by kernel_rfl) (fun _ _ _ h => h) (yieldsIf_conv (by kernel_rfl) _ _ (.tmp 18) rfl (.int .u32 n1) (.int .u64 n1) (by kernel_rfl) (conv_u32 n1 k10 k11)) S0.out ?_
  refine wpAnyH_take (i := 16) (v := _) rfl (by kernel_rfl) (by kernel_rfl) (by kernel_rfl) (fun _ _ _ h => h) (yieldsIf_fn (by kernel_rfl) _ _ _ rfl #[] #[.pointer (some ⟨p, 0, none⟩)] (by kernel_rfl) (by kernel_rfl) (hmf _ _ _)) S0.out ?_
  refine wpAnyH_take (i := 17) (v := _) rfl (by kernel_rfl) (by kernel_rfl) (by kernel_rfl) (fun _ _ _ h => h) (yieldsIf_build_blk (by kernel_rfl) _ _ rfl [.int .i64 8, .int .i64 4, .int .u64 n1, .func (.func 35) #[] #[.pointer (some ⟨p, 0, none⟩)]] (by kernel_rfl)) S0.out ?_
  refine wpAnyH_take (i := 18) (v := _) rfl (by kernel_rfl) (by kernel_rfl) (by kernel_rfl) (fun _ _ _ h => h) (yieldsIf_load_one (by kernel_rfl) _ (.tmp 1) rfl p 0 (by kernel_rfl) (.pointer (some ⟨g, 0, none⟩)) (fun _ h => h.1.cell 0) _ Try.underlying49 rfl) S0.out ?_
  refine wpAnyH_take (i := 19) (v := _) rfl (by kernel_rfl) (by kernel_rfl) (by kernel_rfl) (fun _ _ _ h => h) (yieldsIf_nil (by kernel_rfl) (.tmp 22) rfl ⟨g, 0, none⟩ (by kernel_rfl)) S0.out ?_
  refine wpAnyH_take (i := 20) (v := _) rfl (by kernel_rfl) (by kernel_rfl) (by kernel_rfl) (fun _ _ _ h => h) (yieldsIf_fld (by kernel_rfl) _ (.tmp 23) 2 rfl (.pointer (some ⟨g, 0, none⟩)) (.pointer (some ⟨g, 2, none⟩)) (by kernel_rfl) (fld_hd g 2 (by decide))) S0.out ?_
  refine wpAnyH_take (i := 21) (v := _) rfl (by kernel_rfl) (by kernel_rfl) (by kernel_rfl) (fun _ _ _ h => h) (yieldsIf_load_one (by kernel_rfl) _ (.tmp 24) rfl g 2 (by kernel_rfl) (.int .u16 n2) (fun w h => (FW.out w h.2).2.2.1) _ Try.underlying24 rfl) S0.out ?_
  refine wpAnyH_take (i := 22) (v := _) rfl (by kernel_rfl) (by kernel_rfl) (by kernel_rfl) (fun _ _ _ h => h) (yieldsIf_conv (by kernel_rfl) _ _ (.tmp 25) rfl (.int .u16 n2) (.int .u64 n2) (by kernel_rfl) (conv_cmd n2 k20 k21)) S0.out ?_
  refine wpAnyH_take (i := 23) (v := _) rfl (by kernel_rfl) (by kernel_rfl) (by kernel_rfl) (fun _ _ _ h => h) (yieldsIf_fn (by kernel_rfl) _ _ _ rfl #[] #[.pointer (some ⟨p, 0, none⟩)] (by kernel_rfl) (by kernel_rfl) (hmf _ _ _)) S0.out ?_
  refine wpAnyH_take (i := 24) (v := _) rfl (by kernel_rfl) (by kernel_rfl) (by kernel_rfl) (fun _ _ _ h => h) (yieldsIf_build_blk (by kernel_rfl) _ _ rfl [.int .i64 12, .int .i64 2, .int .u64 n2, .func (.func 36) #[] #[.pointer (some ⟨p, 0, none⟩)]] (by kernel_rfl)) S0.out ?_
  refine wpAnyH_take (i := 25) (v := _) rfl (by kernel_rfl) (by kernel_rfl) (by kernel_rfl) (fun _ _ _ h => h) (yieldsIf_load_one (by kernel_rfl) _ (.tmp 1) rfl p 0 (by kernel_rfl) (.pointer (some ⟨g, 0, none⟩)) (fun _ h => h.1.cell 0) _ Try.underlying49 rfl) S0.out ?_
  refine wpAnyH_take (i := 26) (v := _) rfl (by kernel_rfl) (by kernel_rfl) (by kernel_rfl) (fun _ _ _ h => h) (yieldsIf_nil (by kernel_rfl) (.tmp 29) rfl ⟨g, 0, none⟩ (by kernel_rfl)) S0.out ?_
  refine wpAnyH_take (i := 27) (v := _) rfl (by kernel_rfl) (by kernel_rfl) (by kernel_rfl) (fun _ _ _ h => h) (yieldsIf_fld (by kernel_rfl) _ (.tmp 30) 3 rfl (.pointer (some ⟨g, 0, none⟩)) (.pointer (some ⟨g, 3, none⟩)) (by kernel_rfl) (fld_hd g 3 (by decide))) S0.out ?_
  refine wpAnyH_take (i := 28) (v := _) rfl (by kernel_rfl) (by kernel_rfl) (by kernel_rfl) (fun _ _ _ h => h) (yieldsIf_load_one (by kernel_rfl) _ (.tmp 31) rfl g 3 (by kernel_rfl) (.int .u16 n3) (fun w h => (FW.out w h.2).2.2.2.1) _ Try.underlying22 rfl) S0.out ?_
  refine wpAnyH_take (i := 29) (v := _) rfl (by kernel_rfl) (by kernel_rfl) (by kernel_rfl) (fun _ _ _ h => h) (yieldsIf_conv (by kernel_rfl) _ _ (.tmp 32) rfl (.int .u16 n3) (.int .u64 n3) (by kernel_rfl) (conv_u16 n3 k30 k31)) S0.out ?_
  refine wpAnyH_take (i := 30) (v := _) rfl (by kernel_rfl) (by kernel_rfl) (by kernel_rfl) (fun _ _ _ h => h) (yieldsIf_fn (by kernel_rfl) _ _ _ rfl #[] #[.pointer (some ⟨p, 0, none⟩)] (by kernel_rfl) (by kernel_rfl) (hmf _ _ _)) S0.out ?_
  refine wpAnyH_take (i := 31) (v := _) rfl (by kernel_rfl) (by kernel_rfl) (by kernel_rfl) (fun _ _ _ h => h) (yieldsIf_build_blk (by kernel_rfl) _ _ rfl [.int .i64 14, .int .i64 2, .int .u64 n3, .func (.func 37) #[] #[.pointer (some ⟨p, 0, none⟩)]] (by kernel_rfl)) S0.out ?_
  refine wpAnyH_take (i := 32) (v := _) rfl (by kernel_rfl) (by kernel_rfl) (by kernel_rfl) (fun _ _ _ h => h) (yieldsIf_load_one (by kernel_rfl) _ (.tmp 1) rfl p 0 (by kernel_rfl) (.pointer (some ⟨g, 0, none⟩)) (fun _ h => h.1.cell 0) _ Try.underlying49 rfl) S0.out ?_
  refine wpAnyH_take (i := 33) (v := _) rfl (by kernel_rfl) (by kernel_rfl) (by kernel_rfl) (fun _ _ _ h => h) (yieldsIf_nil (by kernel_rfl) (.tmp 36) rfl ⟨g, 0, none⟩ (by kernel_rfl)) S0.out ?_
  refine wpAnyH_take (i := 34) (v := _) rfl (by kernel_rfl) (by kernel_rfl) (by kernel_rfl) (fun _ _ _ h => h) (yieldsIf_fld (by kernel_rfl) _ (.tmp 37) 4 rfl (.pointer (some ⟨g, 0, none⟩)) (.pointer (some ⟨g, 4, none⟩)) (by kernel_rfl) (fld_hd g 4 (by decide))) S0.out ?_
  refine wpAnyH_take (i := 35) (v := _) rfl (by kernel_rfl) (by kernel_rfl) (by kernel_rfl) (fun _ _ _ h => h) (yieldsIf_load_one (by kernel_rfl) _ (.tmp 38) rfl g 4 (by kernel_rfl) (.int .u32 n4) (fun w h => (FW.out w h.2).2.2.2.2.1) _ Try.underlying23 rfl) S0.out ?_
  refine wpAnyH_take (i := 36) (v := _) rfl (by kernel_rfl) (by kernel_rfl) (by kernel_rfl) (fun _ _ _ h => h) (yieldsIf_conv (by kernel_rfl) _ _ (.tmp 39) rfl (.int .u32 n4) (.int .u64 n4) (by kernel_rfl) (conv_u32 n4 k40 k41)) S0.out ?_
  refine wpAnyH_take (i := 37) (v := _) rfl (by kernel_rfl) (by kernel_rfl) (by kernel_rfl) (fun _ _ _ h => h) (yieldsIf_fn (by kernel_rfl) _ _ _ rfl #[] #[.pointer (some ⟨p, 0, none⟩)] (by kernel_rfl) (by kernel_rfl) (hmf _ _ _)) S0.out ?_
  refine wpAnyH_take (i := 38) (v := _) rfl (by kernel_rfl) (by kernel_rfl) (by kernel_rfl) (fun _ _ _ h => h) (yieldsIf_build_blk (by kernel_rfl) _ _ rfl [.int .i64 16, .int .i64 4, .int .u64 n4, .func (.func 38) #[] #[.pointer (some ⟨p, 0, none⟩)]] (by kernel_rfl)) S0.out ?_
  refine wpAnyH_take (i := 39) (v := _) rfl (by kernel_rfl) (by kernel_rfl) (by kernel_rfl) (fun _ _ _ h => h) (yieldsIf_load_one (by kernel_rfl) _ (.tmp 1) rfl p 0 (by kernel_rfl) (.pointer (some ⟨g, 0, none⟩)) (fun _ h => h.1.cell 0) _ Try.underlying49 rfl) S0.out ?_
  refine wpAnyH_take (i := 40) (v := _) rfl (by kernel_rfl) (by kernel_rfl) (by kernel_rfl) (fun _ _ _ h => h) (yieldsIf_nil (by kernel_rfl) (.tmp 43) rfl ⟨g, 0, none⟩ (by kernel_rfl)) S0.out ?_
  refine wpAnyH_take (i := 41) (v := _) rfl (by kernel_rfl) (by kernel_rfl) (by kernel_rfl) (fun _ _ _ h => h) (yieldsIf_fld (by kernel_rfl) _ (.tmp 44) 5 rfl (.pointer (some ⟨g, 0, none⟩)) (.pointer (some ⟨g, 5, none⟩)) (by kernel_rfl) (fld_hd g 5 (by decide))) S0.out ?_
  refine wpAnyH_take (i := 42) (v := _) rfl (by kernel_rfl) (by kernel_rfl) (by kernel_rfl) (fun _ _ _ h => h) (yieldsIf_load_one (by kernel_rfl) _ (.tmp 45) rfl g 5 (by kernel_rfl) (.int .u32 n5) (fun w h => (FW.out w h.2).2.2.2.2.2.1) _ Try.underlying23 rfl) S0.out ?_
  refine wpAnyH_take (i := 43) (v := _) rfl (by kernel_rfl) (by kernel_rfl) (by kernel_rfl) (fun _ _ _ h => h) (yieldsIf_conv (by kernel_rfl) _ _ (.tmp 46) rfl (.int .u32 n5) (.int .u64 n5) (by kernel_rfl) (conv_u32 n5 k50 k51)) S0.out ?_
  refine wpAnyH_take (i := 44) (v := _) rfl (by kernel_rfl) (by kernel_rfl) (by kernel_rfl) (fun _ _ _ h => h) (yieldsIf_fn (by kernel_rfl) _ _ _ rfl #[] #[.pointer (some ⟨p, 0, none⟩)] (by kernel_rfl) (by kernel_rfl) (hmf _ _ _)) S0.out ?_
  refine wpAnyH_take (i := 45) (v := _) rfl (by kernel_rfl) (by kernel_rfl) (by kernel_rfl) (fun _ _ _ h => h) (yieldsIf_build_blk (by kernel_rfl) _ _ rfl [.int .i64 20, .int .i64 4, .int .u64 n5, .func (.func 39) #[] #[.pointer (some ⟨p, 0, none⟩)]] (by kernel_rfl)) S0.out ?_
  refine wpAnyH_take (i := 46) (v := _) rfl (by kernel_rfl) (by kernel_rfl) (by kernel_rfl) (fun _ _ _ h => h) (yieldsIf_load_one (by kernel_rfl) _ (.tmp 1) rfl p 0 (by kernel_rfl) (.pointer (some ⟨g, 0, none⟩)) (fun _ h => h.1.cell 0) _ Try.underlying49 rfl) S0.out ?_
  refine wpAnyH_take (i := 47) (v := _) rfl (by kernel_rfl) (by kernel_rfl) (by kernel_rfl) (fun _ _ _ h => h) (yieldsIf_nil (by kernel_rfl) (.tmp 50) rfl ⟨g, 0, none⟩ (by kernel_rfl)) S0.out ?_
  refine wpAnyH_take (i := 48) (v := _) rfl (by kernel_rfl) (by kernel_rfl) (by kernel_rfl) (fun _ _ _ h => h) (yieldsIf_fld (by kernel_rfl) _ (.tmp 51) 6 rfl (.pointer (some ⟨g, 0, none⟩)) (.pointer (some ⟨g, 6, none⟩)) (by kernel_rfl) (fld_hd g 6 (by decide))) S0.out ?_
  refine wpAnyH_take (i := 49) (v := _) rfl (by kernel_rfl) (by kernel_rfl) (by kernel_rfl) (fun _ _ _ h => h) (yieldsIf_load_one (by kernel_rfl) _ (.tmp 52) rfl g 6 (by kernel_rfl) (.int .u64 n6) (fun w h => (FW.out w h.2).2.2.2.2.2.2.1) _ Try.underlying25 rfl) S0.out ?_
  refine wpAnyH_take (i := 50) (v := _) rfl (by kernel_rfl) (by kernel_rfl) (by kernel_rfl) (fun _ _ _ h => h) (yieldsIf_fn (by kernel_rfl) _ _ _ rfl #[] #[.pointer (some ⟨p, 0, none⟩)] (by kernel_rfl) (by kernel_rfl) (hmf _ _ _)) S0.out ?_
  refine wpAnyH_take (i := 51) (v := _) rfl (by kernel_rfl) (by kernel_rfl) (by kernel_rfl) (fun _ _ _ h => h) (yieldsIf_build_blk (by kernel_rfl) _ _ rfl [.int .i64 24, .int .i64 8, .int .u64 n6, .func (.func 40) #[] #[.pointer (some ⟨p, 0, none⟩)]] (by kernel_rfl)) S0.out ?_
  refine wpAnyH_take (i := 52) (v := _) rfl (by kernel_rfl) (by kernel_rfl) (by kernel_rfl) (fun _ _ _ h => h) (yieldsIf_load_one (by kernel_rfl) _ (.tmp 1) rfl p 0 (by kernel_rfl) (.pointer (some ⟨g, 0, none⟩)) (fun _ h => h.1.cell 0) _ Try.underlying49 rfl) S0.out ?_
  refine wpAnyH_take (i := 53) (v := _) rfl (by kernel_rfl) (by kernel_rfl) (by kernel_rfl) (fun _ _ _ h => h) (yieldsIf_nil (by kernel_rfl) (.tmp 56) rfl ⟨g, 0, none⟩ (by kernel_rfl)) S0.out ?_
  refine wpAnyH_take (i := 54) (v := _) rfl (by kernel_rfl) (by kernel_rfl) (by kernel_rfl) (fun _ _ _ h => h) (yieldsIf_load_blk (by kernel_rfl) _ (.tmp 57) rfl g (by kernel_rfl) _ cs (fun _ h => h.2) 26 _ Try.underlying28 rfl size_hd HL) S0.out ?_
  refine wpAnyH_take (i := 56) (v := _) rfl (by kernel_rfl) (by kernel_rfl) (by kernel_rfl) (fun _ _ _ h => h) (yieldsIf_fn (by kernel_rfl) _ _ _ rfl #[] #[.pointer (some ⟨p, 0, none⟩)] (by kernel_rfl) (by kernel_rfl) (hmf _ _ _)) S0.out ?_
  refine wpAnyH_take (i := 58) (v := _) rfl (by kernel_rfl) (by kernel_rfl) (by kernel_rfl) (fun _ _ _ h => h) (yieldsIf_load_one (by kernel_rfl) _ (.tmp 1) rfl p 0 (by kernel_rfl) (.pointer (some ⟨g, 0, none⟩)) (fun _ h => h.1.cell 0) _ Try.underlying49 rfl) S0.out ?_
  refine wpAnyH_take (i := 59) (v := _) rfl (by kernel_rfl) (by kernel_rfl) (by kernel_rfl) (fun _ _ _ h => h) (yieldsIf_nil (by kernel_rfl) (.tmp 62) rfl ⟨g, 0, none⟩ (by kernel_rfl)) S0.out ?_
  refine wpAnyH_take (i := 60) (v := _) rfl (by kernel_rfl) (by kernel_rfl) (by kernel_rfl) (fun _ _ _ h => h) (yieldsIf_fld (by kernel_rfl) _ (.tmp 63) 9 rfl (.pointer (some ⟨g, 0, none⟩)) (.pointer (some ⟨g, 9, none⟩)) (by kernel_rfl) (fld_hd g 9 (by decide))) S0.out ?_
  refine wpAnyH_take (i := 61) (v := _) rfl (by kernel_rfl) (by kernel_rfl) (by kernel_rfl) (fun _ _ _ h => h) (yieldsIf_load_one (by kernel_rfl) _ (.tmp 64) rfl g 9 (by kernel_rfl) (.int .u64 n10) (fun w h => (FW.out w h.2).2.2.2.2.2.2.2) _ Try.underlying25 rfl) S0.out ?_
  refine wpAnyH_take (i := 62) (v := _) rfl (by kernel_rfl) (by kernel_rfl) (by kernel_rfl) (fun _ _ _ h => h) (yieldsIf_fn (by kernel_rfl) _ _ _ rfl #[] #[.pointer (some ⟨p, 0, none⟩)] (by kernel_rfl) (by kernel_rfl) (hmf _ _ _)) S0.out ?_
  refine wpAnyH_take (i := 63) (v := _) rfl (by kernel_rfl) (by kernel_rfl) (by kernel_rfl) (fun _ _ _ h => h) (yieldsIf_build_blk (by kernel_rfl) _ _ rfl [.int .i64 40, .int .i64 8, .int .u64 n10, .func (.func 44) #[] #[.pointer (some ⟨p, 0, none⟩)]] (by kernel_rfl)) S0.out ?_
  refine wpAnyH_frame fun a1 ha1 => ?_
  have e58 : a1.eval (.tmp 58) = .agg cs.toArray := by rw [ha1]; kernel_rfl
  refine wpAnyH_one 55 _ (by kernel_rfl) rfl fun K hK => ?_
  go_simp
  refine (C0.out _).mono ?_
  rintro e w2 ⟨rfl, b⟩
  have S2 : Hid (Blk w2 p 49 [.pointer (some ⟨g, 0, none⟩)] ∧ Blk w2 g 28 cs) := ⟨S0.out.1.over b, S0.out.2.over b⟩
  have b2 := Lib.hid (step b0.out b)
  have hsz := b.size
  refine hK _ _ S2.out ?_
  clear hK K b e58
  subst ha1
  refine wpAnyH_take (i := 57) (v := _) rfl (by kernel_rfl) (by kernel_rfl) (by kernel_rfl) (fun _ _ _ h => h) (yieldsIf_build_blk (by kernel_rfl) _ _ rfl [.int .i64 32, .int .i64 8, .int .u64 n9, .func (.func 42) #[] #[.pointer (some ⟨p, 0, none⟩)]] (by kernel_rfl)) S2.out ?_
  refine wpAnyH_one 64 _ (by kernel_rfl) rfl fun K hK => ?_
  refine step_slice_blk rfl _ _ 11 _ rfl Try.underlying47 (fcellsV p n0 n1 n2 n3 n4 n5 n6 n9 n10) (by kernel_rfl) ?_
  intro G w3 hG1 hG2 G3 L3
  have S3 : Hid (Blk w3 p 49 [.pointer (some ⟨g, 0, none⟩)] ∧ Blk w3 g 28 cs) := ⟨S2.out.1.over L3.out, S2.out.2.over L3.out⟩
  refine hK _ _ S3.out ?_
  clear hK K
  refine wpAnyH_take (i := 65) (v := _) rfl (by kernel_rfl) (by kernel_rfl) (by kernel_rfl) (fun _ _ _ h => h) (yieldsIf_asg (by kernel_rfl) (.tmp 68) rfl (.slice (some ⟨G, 0, none⟩) 11 11) (by kernel_rfl)) S3.out ?_
  refine wpAnyH_done (by kernel_rfl) ?_ _
  go_wp2_with fail
  go_ret
  exact HQ.out _ _ ⟨p, G, rfl, hp1, by omega, S3.out.1, G3.out, step b2.out L3.out⟩
end Go.Proofs.Ythoddihoccpidaa
