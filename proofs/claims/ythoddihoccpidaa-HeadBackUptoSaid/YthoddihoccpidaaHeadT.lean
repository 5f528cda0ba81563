/-
  Layer 7 (head): the contracts of the functions that take a head's numbers (head.fields's own), and of head.taken.
-/
import Derived.Test.YthoddihoccpidaaHeadP
import Derived.Test.YthoddihoccpidaaEnds2
namespace Go.Proofs.Ythoddihoccpidaa
open Go.RowKit

theorem Save.over {w w' w2 : World} {g : Nat} (a : Save g w w') (hb : Below w'.heap.size w' w2) : Save g w w2 := a.trans (Save.of_below hb g)

set_option maxHeartbeats 400000 in
theorem take2_any (w : World) (p g : Nat) (h : Hd) (n : Int) (k : h.ok) (hn0 : 0 ≤ n) (hn1 : n ≤ 65535) (B : HB w g h) (Pp : Blk w p 49 [.pointer (some ⟨g, 0, none⟩)]) :
    Calls Try.prog 34 #[.int .u64 n, .pointer (some ⟨p, 0, none⟩)] w fun e w' => e = .returned (.tuple #[]) ∧ HB w' g { h with ch := n } ∧ Save g w w' := by
  have hw : IntKind.u16.wrap n = n := by rw [IntKind.wrap_u16]; omega
  have gp := Pp.cell 0
  have HL := Lib.hid (hcells_len k)
  have HE : Hid ((hcells h).set 0 (.int .u16 n) = hcells { h with ch := n }) := rfl
  obtain ⟨cs, hcs⟩ : ∃ cs, cs = hcells h := ⟨_, rfl⟩
  obtain ⟨ds, hds⟩ : ∃ ds, ds = hcells { h with ch := n } := ⟨_, rfl⟩
  have HD := Lib.hid hds
  have BB : Hid (Blk w g 28 cs) := by rw [hcs]; exact B
  rw [← hcs, ← hds] at HE
  rw [← hcs] at HL
  clear hcs hds B Pp k
  go_enter Try.func34, Try.ntmps34
  go_wp2_with (((with_reducible show wpList _ _ _ (⟨none, .store _ (.tmp 7) _, _, _, _, _⟩ :: _) _ _); refine wpList_store_fld rfl _ (.tmp 7) (.tmp 5) rfl g 0 rfl _ cs (.int .u16 n) rfl BB (by have := HL.out; show 0 < _; omega) (by kernel_rfl) rfl ?_; intro w1 B1 O1 hg1; rw [HE.out] at B1))
  go_end0
  exact ⟨rfl, HB.of HD.out B1.out, Save.of_only O1.out⟩

set_option maxHeartbeats 400000 in
theorem take3_any (w : World) (p g : Nat) (h : Hd) (n : Int) (k : h.ok) (hn0 : 0 ≤ n) (hn1 : n ≤ 4294967295) (B : HB w g h) (Pp : Blk w p 49 [.pointer (some ⟨g, 0, none⟩)]) :
    Calls Try.prog 35 #[.int .u64 n, .pointer (some ⟨p, 0, none⟩)] w fun e w' => e = .returned (.tuple #[]) ∧ HB w' g { h with st := n } ∧ Save g w w' := by
  have hw : IntKind.u32.wrap n = n := by rw [IntKind.wrap_u32']; omega
  have gp := Pp.cell 0
  have HL := Lib.hid (hcells_len k)
  have HE : Hid ((hcells h).set 1 (.int .u32 n) = hcells { h with st := n }) := rfl
  obtain ⟨cs, hcs⟩ : ∃ cs, cs = hcells h := ⟨_, rfl⟩
  obtain ⟨ds, hds⟩ : ∃ ds, ds = hcells { h with st := n } := ⟨_, rfl⟩
  have HD := Lib.hid hds
  have BB : Hid (Blk w g 28 cs) := by rw [hcs]; exact B
  rw [← hcs, ← hds] at HE
  rw [← hcs] at HL
  clear hcs hds B Pp k
  go_enter Try.func35, Try.ntmps35
  go_wp2_with (((with_reducible show wpList _ _ _ (⟨none, .store _ (.tmp 7) _, _, _, _, _⟩ :: _) _ _); refine wpList_store_fld rfl _ (.tmp 7) (.tmp 5) rfl g 1 rfl _ cs (.int .u32 n) rfl BB (by have := HL.out; show 1 < _; omega) (by kernel_rfl) rfl ?_; intro w1 B1 O1 hg1; rw [HE.out] at B1))
  go_end0
  exact ⟨rfl, HB.of HD.out B1.out, Save.of_only O1.out⟩

set_option maxHeartbeats 400000 in
theorem take4_any (w : World) (p g : Nat) (h : Hd) (n : Int) (k : h.ok) (hn0 : 0 ≤ n) (hn1 : n ≤ 65535) (B : HB w g h) (Pp : Blk w p 49 [.pointer (some ⟨g, 0, none⟩)]) :
    Calls Try.prog 36 #[.int .u64 n, .pointer (some ⟨p, 0, none⟩)] w fun e w' => e = .returned (.tuple #[]) ∧ HB w' g { h with cm := n } ∧ Save g w w' := by
  have hw : IntKind.u16.wrap n = n := by rw [IntKind.wrap_u16]; omega
  have gp := Pp.cell 0
  have HL := Lib.hid (hcells_len k)
  have HE : Hid ((hcells h).set 2 (.int .u16 n) = hcells { h with cm := n }) := rfl
  obtain ⟨cs, hcs⟩ : ∃ cs, cs = hcells h := ⟨_, rfl⟩
  obtain ⟨ds, hds⟩ : ∃ ds, ds = hcells { h with cm := n } := ⟨_, rfl⟩
  have HD := Lib.hid hds
  have BB : Hid (Blk w g 28 cs) := by rw [hcs]; exact B
  rw [← hcs, ← hds] at HE
  rw [← hcs] at HL
  clear hcs hds B Pp k
  go_enter Try.func36, Try.ntmps36
  go_wp2_with (((with_reducible show wpList _ _ _ (⟨none, .store _ (.tmp 7) _, _, _, _, _⟩ :: _) _ _); refine wpList_store_fld rfl _ (.tmp 7) (.tmp 5) rfl g 2 rfl _ cs (.int .u16 n) rfl BB (by have := HL.out; show 2 < _; omega) (by kernel_rfl) rfl ?_; intro w1 B1 O1 hg1; rw [HE.out] at B1))
  go_end0
  exact ⟨rfl, HB.of HD.out B1.out, Save.of_only O1.out⟩

set_option maxHeartbeats 400000 in
theorem take5_any (w : World) (p g : Nat) (h : Hd) (n : Int) (k : h.ok) (hn0 : 0 ≤ n) (hn1 : n ≤ 65535) (B : HB w g h) (Pp : Blk w p 49 [.pointer (some ⟨g, 0, none⟩)]) :
    Calls Try.prog 37 #[.int .u64 n, .pointer (some ⟨p, 0, none⟩)] w fun e w' => e = .returned (.tuple #[]) ∧ HB w' g { h with cr := n } ∧ Save g w w' := by
  have hw : IntKind.u16.wrap n = n := by rw [IntKind.wrap_u16]; omega
  have gp := Pp.cell 0
  have HL := Lib.hid (hcells_len k)
  have HE : Hid ((hcells h).set 3 (.int .u16 n) = hcells { h with cr := n }) := rfl
  obtain ⟨cs, hcs⟩ : ∃ cs, cs = hcells h := ⟨_, rfl⟩
  obtain ⟨ds, hds⟩ : ∃ ds, ds = hcells { h with cr := n } := ⟨_, rfl⟩
  have HD := Lib.hid hds
  have BB : Hid (Blk w g 28 cs) := by rw [hcs]; exact B
  rw [← hcs, ← hds] at HE
  rw [← hcs] at HL
  clear hcs hds B Pp k
  go_enter Try.func37, Try.ntmps37
  go_wp2_with (((with_reducible show wpList _ _ _ (⟨none, .store _ (.tmp 7) _, _, _, _, _⟩ :: _) _ _); refine wpList_store_fld rfl _ (.tmp 7) (.tmp 5) rfl g 3 rfl _ cs (.int .u16 n) rfl BB (by have := HL.out; show 3 < _; omega) (by kernel_rfl) rfl ?_; intro w1 B1 O1 hg1; rw [HE.out] at B1))
  go_end0
  exact ⟨rfl, HB.of HD.out B1.out, Save.of_only O1.out⟩

set_option maxHeartbeats 400000 in
theorem take6_any (w : World) (p g : Nat) (h : Hd) (n : Int) (k : h.ok) (hn0 : 0 ≤ n) (hn1 : n ≤ 4294967295) (B : HB w g h) (Pp : Blk w p 49 [.pointer (some ⟨g, 0, none⟩)]) :
    Calls Try.prog 38 #[.int .u64 n, .pointer (some ⟨p, 0, none⟩)] w fun e w' => e = .returned (.tuple #[]) ∧ HB w' g { h with fl := n } ∧ Save g w w' := by
  have hw : IntKind.u32.wrap n = n := by rw [IntKind.wrap_u32']; omega
  have gp := Pp.cell 0
  have HL := Lib.hid (hcells_len k)
  have HE : Hid ((hcells h).set 4 (.int .u32 n) = hcells { h with fl := n }) := rfl
  obtain ⟨cs, hcs⟩ : ∃ cs, cs = hcells h := ⟨_, rfl⟩
  obtain ⟨ds, hds⟩ : ∃ ds, ds = hcells { h with fl := n } := ⟨_, rfl⟩
  have HD := Lib.hid hds
  have BB : Hid (Blk w g 28 cs) := by rw [hcs]; exact B
  rw [← hcs, ← hds] at HE
  rw [← hcs] at HL
  clear hcs hds B Pp k
  go_enter Try.func38, Try.ntmps38
  go_wp2_with (((with_reducible show wpList _ _ _ (⟨none, .store _ (.tmp 7) _, _, _, _, _⟩ :: _) _ _); refine wpList_store_fld rfl _ (.tmp 7) (.tmp 5) rfl g 4 rfl _ cs (.int .u32 n) rfl BB (by have := HL.out; show 4 < _; omega) (by kernel_rfl) rfl ?_; intro w1 B1 O1 hg1; rw [HE.out] at B1))
  go_end0
  exact ⟨rfl, HB.of HD.out B1.out, Save.of_only O1.out⟩

set_option maxHeartbeats 400000 in
theorem take7_any (w : World) (p g : Nat) (h : Hd) (n : Int) (k : h.ok) (hn0 : 0 ≤ n) (hn1 : n ≤ 4294967295) (B : HB w g h) (Pp : Blk w p 49 [.pointer (some ⟨g, 0, none⟩)]) :
    Calls Try.prog 39 #[.int .u64 n, .pointer (some ⟨p, 0, none⟩)] w fun e w' => e = .returned (.tuple #[]) ∧ HB w' g { h with nx := n } ∧ Save g w w' := by
  have hw : IntKind.u32.wrap n = n := by rw [IntKind.wrap_u32']; omega
  have gp := Pp.cell 0
  have HL := Lib.hid (hcells_len k)
  have HE : Hid ((hcells h).set 5 (.int .u32 n) = hcells { h with nx := n }) := rfl
  obtain ⟨cs, hcs⟩ : ∃ cs, cs = hcells h := ⟨_, rfl⟩
  obtain ⟨ds, hds⟩ : ∃ ds, ds = hcells { h with nx := n } := ⟨_, rfl⟩
  have HD := Lib.hid hds
  have BB : Hid (Blk w g 28 cs) := by rw [hcs]; exact B
  rw [← hcs, ← hds] at HE
  rw [← hcs] at HL
  clear hcs hds B Pp k
  go_enter Try.func39, Try.ntmps39
  go_wp2_with (((with_reducible show wpList _ _ _ (⟨none, .store _ (.tmp 7) _, _, _, _, _⟩ :: _) _ _); refine wpList_store_fld rfl _ (.tmp 7) (.tmp 5) rfl g 5 rfl _ cs (.int .u32 n) rfl BB (by have := HL.out; show 5 < _; omega) (by kernel_rfl) rfl ?_; intro w1 B1 O1 hg1; rw [HE.out] at B1))
  go_end0
  exact ⟨rfl, HB.of HD.out B1.out, Save.of_only O1.out⟩

set_option maxHeartbeats 400000 in
theorem take8_any (w : World) (p g : Nat) (h : Hd) (n : Int) (k : h.ok) (_ : 0 ≤ n) (_ : n ≤ 18446744073709551615) (B : HB w g h) (Pp : Blk w p 49 [.pointer (some ⟨g, 0, none⟩)]) :
    Calls Try.prog 40 #[.int .u64 n, .pointer (some ⟨p, 0, none⟩)] w fun e w' => e = .returned (.tuple #[]) ∧ HB w' g { h with id := n } ∧ Save g w w' := by
  have gp := Pp.cell 0
  have HL := Lib.hid (hcells_len k)
  have HE : Hid ((hcells h).set 6 (.int .u64 n) = hcells { h with id := n }) := rfl
  obtain ⟨cs, hcs⟩ : ∃ cs, cs = hcells h := ⟨_, rfl⟩
  obtain ⟨ds, hds⟩ : ∃ ds, ds = hcells { h with id := n } := ⟨_, rfl⟩
  have HD := Lib.hid hds
  have BB : Hid (Blk w g 28 cs) := by rw [hcs]; exact B
  rw [← hcs, ← hds] at HE
  rw [← hcs] at HL
  clear hcs hds B Pp k
  go_enter Try.func40, Try.ntmps40
  go_wp2_with (((with_reducible show wpList _ _ _ (⟨none, .store _ (.tmp 6) _, _, _, _, _⟩ :: _) _ _); refine wpList_store_fld rfl _ (.tmp 6) (.tmp 4) rfl g 6 rfl _ cs (.int .u64 n) rfl BB (by have := HL.out; show 6 < _; omega) (by kernel_rfl) rfl ?_; intro w1 B1 O1 hg1; rw [HE.out] at B1))
  go_end0
  exact ⟨rfl, HB.of HD.out B1.out, Save.of_only O1.out⟩

set_option maxHeartbeats 400000 in
theorem take10_any (w : World) (p g : Nat) (h : Hd) (n : Int) (k : h.ok) (_ : 0 ≤ n) (_ : n ≤ 18446744073709551615) (B : HB w g h) (Pp : Blk w p 49 [.pointer (some ⟨g, 0, none⟩)]) :
    Calls Try.prog 44 #[.int .u64 n, .pointer (some ⟨p, 0, none⟩)] w fun e w' => e = .returned (.tuple #[]) ∧ HB w' g { h with se := n } ∧ Save g w w' := by
  have gp := Pp.cell 0
  have HL := Lib.hid (hcells_len k)
  have HE : Hid ((hcells h).set 9 (.int .u64 n) = hcells { h with se := n }) := rfl
  obtain ⟨cs, hcs⟩ : ∃ cs, cs = hcells h := ⟨_, rfl⟩
  obtain ⟨ds, hds⟩ : ∃ ds, ds = hcells { h with se := n } := ⟨_, rfl⟩
  have HD := Lib.hid hds
  have BB : Hid (Blk w g 28 cs) := by rw [hcs]; exact B
  rw [← hcs, ← hds] at HE
  rw [← hcs] at HL
  clear hcs hds B Pp k
  go_enter Try.func44, Try.ntmps44
  go_wp2_with (((with_reducible show wpList _ _ _ (⟨none, .store _ (.tmp 6) _, _, _, _, _⟩ :: _) _ _); refine wpList_store_fld rfl _ (.tmp 6) (.tmp 4) rfl g 9 rfl _ cs (.int .u64 n) rfl BB (by have := HL.out; show 9 < _; omega) (by kernel_rfl) rfl ?_; intro w1 B1 O1 hg1; rw [HE.out] at B1))
  go_end0
  exact ⟨rfl, HB.of HD.out B1.out, Save.of_only O1.out⟩

set_option maxHeartbeats 400000 in
theorem take0_any (w : World) (n : Int) : Calls Try.prog 33 #[.int .u64 n] w fun e w' => e = .returned (.tuple #[]) ∧ w = w' := by
  go_enter Try.func33, Try.ntmps33
  go_wp2
  go_end0
  exact ⟨rfl, rfl⟩

/-- a head that takes Async or Tree -/
def setAT (n : Int) (h : Hd) : Hd := if isAs h.fl = true then { h with asy := n } else { h with tr := n / 4294967296 }

set_option maxHeartbeats 400000 in
theorem takeAT_any (w : World) (g : Nat) (h : Hd) (n : Int) (k : h.ok) (hn0 : 0 ≤ n) (hn1 : n ≤ 18446744073709551615) (B : HB w g h) :
    Calls Try.prog 43 #[.pointer (some ⟨g, 0, none⟩), .int .u64 n] w fun e w' => e = .returned (.tuple #[]) ∧ HB w' g (setAT n h) ∧ Save g w w' := by
  have C0 : Hid (∀ w : World, Calls Try.prog 47 #[hv h] w fun e w' => e = .returned (.bool (isAs h.fl)) ∧ Below w.heap.size w w') := fun w => isAsync_any w h k
  have hw : IntKind.u32.wrap (n / 4294967296) = n / 4294967296 := by rw [IntKind.wrap_u32']; omega
  have HL := Lib.hid (hcells_len k)
  have h7 : isAs h.fl = true → (hcells h).set 7 (.int .u64 n) = hcells (setAT n h) := fun hi => by unfold setAT; rw [if_pos hi]; rfl
  have h8 : isAs h.fl = false → (hcells h).set 8 (.int .u32 (n / 4294967296)) = hcells (setAT n h) := fun hi => by unfold setAT; rw [if_neg (by rw [hi]; decide)]; rfl
  obtain ⟨cs, hcs⟩ : ∃ cs, cs = hcells h := ⟨_, rfl⟩
  obtain ⟨ds, hds⟩ : ∃ ds, ds = hcells (setAT n h) := ⟨_, rfl⟩
  have HD := Lib.hid hds
  have BB : Hid (Blk w g 28 cs) := by rw [hcs]; exact B
  unfold hv at C0
  rw [← hcs] at HL C0 h7 h8
  rw [← hds] at h7 h8
  clear hcs hds B k
  by_cases hi : isAs h.fl = true
  · rw [hi] at C0
    have HE := Lib.hid (h7 hi)
    clear hi h7 h8
    go_enter Try.func43, Try.ntmps43
    go_wp2_with (first
      | ((with_reducible show wpList _ _ _ (⟨some 6, _, _, _, _, _⟩ :: _) _ _); refine wpList_load_blk rfl _ (.tmp 5) rfl g rfl _ cs BB 26 _ Try.underlying28 rfl size_hd HL ?_)
      | fail)
    refine (C0.out _).mono ?_
    rintro e w2 ⟨rfl, L2⟩
    have B2 := Lib.hid (BB.out.over L2)
    go_wp2_with (((with_reducible show wpList _ _ _ (⟨none, .store _ (.tmp 11) _, _, _, _, _⟩ :: _) _ _); refine wpList_store_fld rfl _ (.tmp 11) (.tmp 9) rfl g 7 rfl _ cs (.int .u64 n) rfl B2 (by have := HL.out; show 7 < _; omega) (by kernel_rfl) rfl ?_; intro w3 B3 O3 hg3; rw [HE.out] at B3))
    go_end0
    exact ⟨rfl, HB.of HD.out B3.out, (Save.of_below L2 g).trans (Save.of_only O3.out)⟩
  · have hi' : isAs h.fl = false := by simpa using hi
    rw [hi'] at C0
    have HE := Lib.hid (h8 hi')
    clear hi hi' h7 h8
    go_enter Try.func43, Try.ntmps43
    go_wp2_with (first
      | ((with_reducible show wpList _ _ _ (⟨some 6, _, _, _, _, _⟩ :: _) _ _); refine wpList_load_blk rfl _ (.tmp 5) rfl g rfl _ cs BB 26 _ Try.underlying28 rfl size_hd HL ?_)
      | fail)
    refine (C0.out _).mono ?_
    rintro e w2 ⟨rfl, L2⟩
    have B2 := Lib.hid (BB.out.over L2)
    go_wp2_with (((with_reducible show wpList _ _ _ (⟨none, .store _ (.tmp 17) _, _, _, _, _⟩ :: _) _ _); refine wpList_store_fld rfl _ (.tmp 17) (.tmp 15) rfl g 8 rfl _ cs (.int .u32 (n / 4294967296)) rfl B2 (by have := HL.out; show 8 < _; omega) (by kernel_rfl) rfl ?_; intro w3 B3 O3 hg3; rw [HE.out] at B3))
    go_end0
    exact ⟨rfl, HB.of HD.out B3.out, (Save.of_below L2 g).trans (Save.of_only O3.out)⟩

set_option maxHeartbeats 400000 in
theorem take9_any (w : World) (p g : Nat) (h : Hd) (n : Int) (k : h.ok) (hn0 : 0 ≤ n) (hn1 : n ≤ 18446744073709551615) (B : HB w g h) (Pp : Blk w p 49 [.pointer (some ⟨g, 0, none⟩)]) :
    Calls Try.prog 42 #[.int .u64 n, .pointer (some ⟨p, 0, none⟩)] w fun e w' => e = .returned (.tuple #[]) ∧ HB w' g (setAT n h) ∧ Save g w w' := by
  have C0 := Lib.hid (takeAT_any w g h n k hn0 hn1 B)
  have gp := Pp.cell 0
  clear B Pp k
  go_enter Try.func42, Try.ntmps42
  go_wp2_with fail
  refine C0.out.mono ?_
  rintro e w2 ⟨rfl, B2, S2⟩
  go_wp2
  go_end0
  exact ⟨rfl, B2, S2⟩

theorem args_lo {j : Nat} (a b : Value) (h : j < 2) : (#[a] ++ (if j < 2 then #[] else #[b])) = #[a] := by rw [if_pos h]; rfl
theorem args_hi {j : Nat} (a b : Value) (h : ¬ j < 2) : (#[a] ++ (if j < 2 then #[] else #[b])) = #[a, b] := by rw [if_neg h]; rfl
/-- number j of a head, taken by its function -/
def TakeK (w : World) (p g : Nat) (h : Hd) (n : Int) (j : Nat) : Prop :=
  Calls Try.prog (fnk j) (#[.int .u64 n] ++ (if j < 2 then #[] else #[.pointer (some ⟨p, 0, none⟩)])) w fun e w' => e = .returned (.tuple #[]) ∧ HB w' g (setK j n h) ∧ Save g w w'
theorem takeK0 (w : World) (p g : Nat) (h : Hd) (n : Int) (B : HB w g h) : TakeK w p g h n 0 := by
  unfold TakeK
  rw [args_lo _ _ (by decide), show fnk 0 = 33 from rfl, show setK 0 n h = h from rfl]
  exact (take0_any w n).mono fun e w' ⟨he, hw⟩ => ⟨he, hw ▸ B, hw ▸ Save.refl _ _⟩
theorem takeK1 (w : World) (p g : Nat) (h : Hd) (n : Int) (B : HB w g h) : TakeK w p g h n 1 := by
  unfold TakeK
  rw [args_lo _ _ (by decide), show fnk 1 = 33 from rfl, show setK 1 n h = h from rfl]
  exact (take0_any w n).mono fun e w' ⟨he, hw⟩ => ⟨he, hw ▸ B, hw ▸ Save.refl _ _⟩
theorem takeK2 (w : World) (p g : Nat) (h : Hd) (n : Int) (k : h.ok) (hn0 : 0 ≤ n) (hn1 : n < 256 ^ 2) (B : HB w g h) (Pp : Blk w p 49 [.pointer (some ⟨g, 0, none⟩)]) : TakeK w p g h n 2 := by
  unfold TakeK
  rw [args_hi _ _ (by decide), show fnk 2 = 34 from rfl, show setK 2 n h = { h with ch := n } from rfl]
  have e : (256 : Int) ^ 2 = 65536 := by decide
  exact take2_any w p g h n k hn0 (by omega) B Pp
theorem takeK3 (w : World) (p g : Nat) (h : Hd) (n : Int) (k : h.ok) (hn0 : 0 ≤ n) (hn1 : n < 256 ^ 4) (B : HB w g h) (Pp : Blk w p 49 [.pointer (some ⟨g, 0, none⟩)]) : TakeK w p g h n 3 := by
  unfold TakeK
  rw [args_hi _ _ (by decide), show fnk 3 = 35 from rfl, show setK 3 n h = { h with st := n } from rfl]
  have e : (256 : Int) ^ 4 = 4294967296 := by decide
  exact take3_any w p g h n k hn0 (by omega) B Pp
theorem takeK4 (w : World) (p g : Nat) (h : Hd) (n : Int) (k : h.ok) (hn0 : 0 ≤ n) (hn1 : n < 256 ^ 2) (B : HB w g h) (Pp : Blk w p 49 [.pointer (some ⟨g, 0, none⟩)]) : TakeK w p g h n 4 := by
  unfold TakeK
  rw [args_hi _ _ (by decide), show fnk 4 = 36 from rfl, show setK 4 n h = { h with cm := n } from rfl]
  have e : (256 : Int) ^ 2 = 65536 := by decide
  exact take4_any w p g h n k hn0 (by omega) B Pp
theorem takeK5 (w : World) (p g : Nat) (h : Hd) (n : Int) (k : h.ok) (hn0 : 0 ≤ n) (hn1 : n < 256 ^ 2) (B : HB w g h) (Pp : Blk w p 49 [.pointer (some ⟨g, 0, none⟩)]) : TakeK w p g h n 5 := by
  unfold TakeK
  rw [args_hi _ _ (by decide), show fnk 5 = 37 from rfl, show setK 5 n h = { h with cr := n } from rfl]
  have e : (256 : Int) ^ 2 = 65536 := by decide
  exact take5_any w p g h n k hn0 (by omega) B Pp
theorem takeK6 (w : World) (p g : Nat) (h : Hd) (n : Int) (k : h.ok) (hn0 : 0 ≤ n) (hn1 : n < 256 ^ 4) (B : HB w g h) (Pp : Blk w p 49 [.pointer (some ⟨g, 0, none⟩)]) : TakeK w p g h n 6 := by
  unfold TakeK
  rw [args_hi _ _ (by decide), show fnk 6 = 38 from rfl, show setK 6 n h = { h with fl := n } from rfl]
  have e : (256 : Int) ^ 4 = 4294967296 := by decide
  exact take6_any w p g h n k hn0 (by omega) B Pp
theorem takeK7 (w : World) (p g : Nat) (h : Hd) (n : Int) (k : h.ok) (hn0 : 0 ≤ n) (hn1 : n < 256 ^ 4) (B : HB w g h) (Pp : Blk w p 49 [.pointer (some ⟨g, 0, none⟩)]) : TakeK w p g h n 7 := by
  unfold TakeK
  rw [args_hi _ _ (by decide), show fnk 7 = 39 from rfl, show setK 7 n h = { h with nx := n } from rfl]
  have e : (256 : Int) ^ 4 = 4294967296 := by decide
  exact take7_any w p g h n k hn0 (by omega) B Pp
theorem takeK8 (w : World) (p g : Nat) (h : Hd) (n : Int) (k : h.ok) (hn0 : 0 ≤ n) (hn1 : n < 256 ^ 8) (B : HB w g h) (Pp : Blk w p 49 [.pointer (some ⟨g, 0, none⟩)]) : TakeK w p g h n 8 := by
  unfold TakeK
  rw [args_hi _ _ (by decide), show fnk 8 = 40 from rfl, show setK 8 n h = { h with id := n } from rfl]
  have e : (256 : Int) ^ 8 = 18446744073709551616 := by decide
  exact take8_any w p g h n k hn0 (by omega) B Pp
theorem takeK9 (w : World) (p g : Nat) (h : Hd) (n : Int) (k : h.ok) (hn0 : 0 ≤ n) (hn1 : n < 256 ^ 8) (B : HB w g h) (Pp : Blk w p 49 [.pointer (some ⟨g, 0, none⟩)]) : TakeK w p g h n 9 := by
  unfold TakeK
  rw [args_hi _ _ (by decide), show fnk 9 = 42 from rfl, show setK 9 n h = setAT n h from rfl]
  have e : (256 : Int) ^ 8 = 18446744073709551616 := by decide
  exact take9_any w p g h n k hn0 (by omega) B Pp
theorem takeK10 (w : World) (p g : Nat) (h : Hd) (n : Int) (k : h.ok) (hn0 : 0 ≤ n) (hn1 : n < 256 ^ 8) (B : HB w g h) (Pp : Blk w p 49 [.pointer (some ⟨g, 0, none⟩)]) : TakeK w p g h n 10 := by
  unfold TakeK
  rw [args_hi _ _ (by decide), show fnk 10 = 44 from rfl, show setK 10 n h = { h with se := n } from rfl]
  have e : (256 : Int) ^ 8 = 18446744073709551616 := by decide
  exact take10_any w p g h n k hn0 (by omega) B Pp
theorem takek_any (w : World) (p g : Nat) (h : Hd) (n : Int) (k : h.ok) (j : Nat) (hj : j < 11) (hn0 : 0 ≤ n) (hn1 : n < 256 ^ szs.getD j 0) (B : HB w g h) (Pp : Blk w p 49 [.pointer (some ⟨g, 0, none⟩)]) : TakeK w p g h n j := by
  match j, hj, hn1 with
  | 0, _, _ => exact takeK0 w p g h n B
  | 1, _, _ => exact takeK1 w p g h n B
  | 2, _, hn1 => exact takeK2 w p g h n k hn0 hn1 B Pp
  | 3, _, hn1 => exact takeK3 w p g h n k hn0 hn1 B Pp
  | 4, _, hn1 => exact takeK4 w p g h n k hn0 hn1 B Pp
  | 5, _, hn1 => exact takeK5 w p g h n k hn0 hn1 B Pp
  | 6, _, hn1 => exact takeK6 w p g h n k hn0 hn1 B Pp
  | 7, _, hn1 => exact takeK7 w p g h n k hn0 hn1 B Pp
  | 8, _, hn1 => exact takeK8 w p g h n k hn0 hn1 B Pp
  | 9, _, hn1 => exact takeK9 w p g h n k hn0 hn1 B Pp
  | 10, _, hn1 => exact takeK10 w p g h n k hn0 hn1 B Pp

theorem setK_ok {h : Hd} (k : h.ok) (j : Nat) (hj : j < 11) (n : Int) (hn0 : 0 ≤ n) (hn1 : n < 256 ^ szs.getD j 0) : (setK j n h).ok := by
  have e2 : (256 : Int) ^ 2 = 65536 := by decide
  have e4 : (256 : Int) ^ 4 = 4294967296 := by decide
  have e8 : (256 : Int) ^ 8 = 18446744073709551616 := by decide
  revert hn1
  refine eleven (p := fun j => n < 256 ^ szs.getD j 0 → (setK j n h).ok) ?_ ?_ ?_ ?_ ?_ ?_ ?_ ?_ ?_ ?_ ?_ j hj <;> intro hn1
  · exact k
  · exact k
  · change n < 256 ^ 2 at hn1; exact ⟨by show 0 ≤ n ∧ n ≤ _; omega, k.st, k.cm, k.cr, k.fl, k.nx, k.id, k.asy, k.tr, k.se, k.len, k.byte⟩
  · change n < 256 ^ 4 at hn1; exact ⟨k.ch, by show 0 ≤ n ∧ n ≤ _; omega, k.cm, k.cr, k.fl, k.nx, k.id, k.asy, k.tr, k.se, k.len, k.byte⟩
  · change n < 256 ^ 2 at hn1; exact ⟨k.ch, k.st, by show 0 ≤ n ∧ n ≤ _; omega, k.cr, k.fl, k.nx, k.id, k.asy, k.tr, k.se, k.len, k.byte⟩
  · change n < 256 ^ 2 at hn1; exact ⟨k.ch, k.st, k.cm, by show 0 ≤ n ∧ n ≤ _; omega, k.fl, k.nx, k.id, k.asy, k.tr, k.se, k.len, k.byte⟩
  · change n < 256 ^ 4 at hn1; exact ⟨k.ch, k.st, k.cm, k.cr, by show 0 ≤ n ∧ n ≤ _; omega, k.nx, k.id, k.asy, k.tr, k.se, k.len, k.byte⟩
  · change n < 256 ^ 4 at hn1; exact ⟨k.ch, k.st, k.cm, k.cr, k.fl, by show 0 ≤ n ∧ n ≤ _; omega, k.id, k.asy, k.tr, k.se, k.len, k.byte⟩
  · change n < 256 ^ 8 at hn1; exact ⟨k.ch, k.st, k.cm, k.cr, k.fl, k.nx, by show 0 ≤ n ∧ n ≤ _; omega, k.asy, k.tr, k.se, k.len, k.byte⟩
  · change n < 256 ^ 8 at hn1
    show (if isAs h.fl = true then { h with asy := n } else { h with tr := n / 4294967296 }).ok
    split
    · exact ⟨k.ch, k.st, k.cm, k.cr, k.fl, k.nx, k.id, by show 0 ≤ n ∧ n ≤ _; omega, k.tr, k.se, k.len, k.byte⟩
    · exact ⟨k.ch, k.st, k.cm, k.cr, k.fl, k.nx, k.id, k.asy, by show 0 ≤ n / 4294967296 ∧ n / 4294967296 ≤ _; omega, k.se, k.len, k.byte⟩
  · change n < 256 ^ 8 at hn1; exact ⟨k.ch, k.st, k.cm, k.cr, k.fl, k.nx, k.id, k.asy, k.tr, by show 0 ≤ n ∧ n ≤ _; omega, k.len, k.byte⟩
theorem tk_ok (xs : List Int) (hx : Bytes xs) (j : Nat) (hj : j ≤ 11) : (tk xs j).ok := by
  induction j with
  | zero => exact zeroHd_ok
  | succ j ih =>
    have := numAt_k xs hx j
    exact setK_ok (ih (by omega)) j (by omega) _ this.1 this.2
end Go.Proofs.Ythoddihoccpidaa
