/-
  Contract of the program's layer 3 (sha): Press. The table of constants is a hypothesis ('KTab').
-/
import Derived.Test.YtomdgiikjnghcaaDoorShaB
import Derived.Test.YtomdgiikjnghcaaDoorSame
namespace Go.Proofs.YtomdgiikjnghcaaDoor
open Go.RowKit

/-- the constants, as the document's roots are shown to tell them -/
def KK : List Int := [
  0x428a2f98, 0x71374491, 0xb5c0fbcf, 0xe9b5dba5, 0x3956c25b, 0x59f111f1, 0x923f82a4, 0xab1c5ed5,
  0xd807aa98, 0x12835b01, 0x243185be, 0x550c7dc3, 0x72be5d74, 0x80deb1fe, 0x9bdc06a7, 0xc19bf174,
  0xe49b69c1, 0xefbe4786, 0x0fc19dc6, 0x240ca1cc, 0x2de92c6f, 0x4a7484aa, 0x5cb0a9dc, 0x76f988da,
  0x983e5152, 0xa831c66d, 0xb00327c8, 0xbf597fc7, 0xc6e00bf3, 0xd5a79147, 0x06ca6351, 0x14292967,
  0x27b70a85, 0x2e1b2138, 0x4d2c6dfc, 0x53380d13, 0x650a7354, 0x766a0abb, 0x81c2c92e, 0x92722c85,
  0xa2bfe8a1, 0xa81a664b, 0xc24b8b70, 0xc76c51a3, 0xd192e819, 0xd6990624, 0xf40e3585, 0x106aa070,
  0x19a4c116, 0x1e376c08, 0x2748774c, 0x34b0bcb5, 0x391c0cb3, 0x4ed8aa4a, 0x5b9cca4f, 0x682e6ff3,
  0x748f82ee, 0x78a5636f, 0x84c87814, 0x8cc70208, 0x90befffa, 0xa4506ceb, 0xbef9a3f7, 0xc67178f2]
theorem KK_len : KK.length = 64 := rfl
theorem W32.of_all {xs : List Int} (h : xs.all (fun x => decide (0 ≤ x) && decide (x ≤ 4294967295)) = true) : W32 xs := fun x hx => by
  have := List.all_eq_true.1 h x hx
  simpa using this
theorem KK_w : W32 KK := W32.of_all (by decide +kernel)

/-- the program's table holds the constants -/
def KTab (w : World) : Prop := ∀ i, i < 64 → w.cell? ⟨0, i, none⟩ = some (.int .u32 (KK.getD i 0))
theorem KTab.lt {w : World} (h : KTab w) : 0 < w.heap.size := by
  have := World.block_lt_of_cell? w _ (h 0 (by omega))
  exact this
theorem KTab.below {w w' : World} (h : KTab w) (hb : Below w.heap.size w w') : KTab w' := fun i hi => by
  have hl := h.lt
  rw [← h i hi]
  exact hb.cell (p := ⟨0, i, none⟩) hl
theorem KTab.only {w w' : World} {g : Nat} (h : KTab w) (hb : Only g w w') (hg : 0 < g) : KTab w' := fun i hi => by
  rw [← h i hi]
  simp only [World.cell?]
  rw [hb.rest _ (by omega)]
theorem KTab.drewN {w : World} (h : KTab w) (n : Nat) : KTab (w.drewN n) := h

/-- eight words of state -/
structure St where
  a : Int
  b : Int
  c : Int
  d : Int
  e : Int
  f : Int
  g : Int
  h : Int
def St.list (s : St) : List Int := [s.a, s.b, s.c, s.d, s.e, s.f, s.g, s.h]
def St.of (l : List Int) : St := ⟨l.getD 0 0, l.getD 1 0, l.getD 2 0, l.getD 3 0, l.getD 4 0, l.getD 5 0, l.getD 6 0, l.getD 7 0⟩
def ch (e f g : Int) : Int := bits .xor .u32 (bits .and .u32 e f) (bits .and .u32 (bits .xor .u32 IntKind.u32.max e) g)
def maj (a b c : Int) : Int := bits .xor .u32 (bits .xor .u32 (bits .and .u32 a b) (bits .and .u32 a c)) (bits .and .u32 b c)
def t1Of (s : St) (k x : Int) : Int := (s.h + rots s.e 6 11 25 + ch s.e s.f s.g + k + x) % 4294967296
def t2Of (s : St) : Int := (rots s.a 2 13 22 + maj s.a s.b s.c) % 4294967296
def roundS (k x : Int) (s : St) : St := ⟨(t1Of s k x + t2Of s) % 4294967296, s.a, s.b, s.c, (s.d + t1Of s k x) % 4294967296, s.e, s.f, s.g⟩
def runS (K W : List Int) (s : St) : Nat → St
  | 0 => s
  | t + 1 => roundS (K.getD t 0) (W.getD t 0) (runS K W s t)
/-- what the words of old and new come to -/
def addS (old new : List Int) : List Int := List.zipWith (fun x y => (x + y) % 4294967296) old new
def pressOf (state block : List Int) : List Int := addS state (runS KK (sched block) (St.of state) 64).list

def St.W (s : St) : Prop := (0 ≤ s.a ∧ s.a ≤ 4294967295) ∧ (0 ≤ s.b ∧ s.b ≤ 4294967295) ∧ (0 ≤ s.c ∧ s.c ≤ 4294967295) ∧ (0 ≤ s.d ∧ s.d ≤ 4294967295) ∧ (0 ≤ s.e ∧ s.e ≤ 4294967295) ∧ (0 ≤ s.f ∧ s.f ≤ 4294967295) ∧ (0 ≤ s.g ∧ s.g ≤ 4294967295) ∧ (0 ≤ s.h ∧ s.h ≤ 4294967295)
theorem St.of_w {l : List Int} (h : W32 l) : (St.of l).W := ⟨h.getD 0, h.getD 1, h.getD 2, h.getD 3, h.getD 4, h.getD 5, h.getD 6, h.getD 7⟩
theorem roundS_w {s : St} (h : s.W) (k x : Int) : (roundS k x s).W := by
  obtain ⟨ha, hb, hc, hd, he, hf, hg, hh⟩ := h
  refine ⟨?_, ha, hb, hc, ?_, he, hf, hg⟩ <;> (simp only [roundS]; omega)
theorem runS_w {s : St} (h : s.W) (K W : List Int) (t : Nat) : (runS K W s t).W := by
  induction t with
  | zero => exact h
  | succ t ih => exact roundS_w ih _ _
theorem list_w {s : St} (h : s.W) : W32 s.list := by
  obtain ⟨ha, hb, hc, hd, he, hf, hg, hh⟩ := h
  intro x hx
  simp only [St.list, List.mem_cons, List.not_mem_nil, or_false] at hx
  rcases hx with rfl | rfl | rfl | rfl | rfl | rfl | rfl | rfl <;> assumption
theorem addS_len (l m : List Int) (h : l.length = 8) (h' : m.length = 8) : (addS l m).length = 8 := by simp [addS, h, h']
theorem addS_w (l m : List Int) : W32 (addS l m) := by
  intro x hx
  obtain ⟨i, hi, rfl⟩ := List.getElem_of_mem hx
  simp only [addS, List.getElem_zipWith]
  omega
theorem pressOf_len (s b : List Int) (h : s.length = 8) : (pressOf s b).length = 8 := addS_len _ _ h rfl
theorem pressOf_w (s b : List Int) : W32 (pressOf s b) := addS_w _ _
/-- the row of state, behind i of the eight sums -/
def sumRow (old new : List Int) (i : Nat) : List Int := (addS old new).take i ++ old.drop i
theorem sumRow_len (l m : List Int) (h : l.length = 8) (h' : m.length = 8) (i : Nat) (hi : i ≤ 8) : (sumRow l m i).length = 8 := by simp [sumRow, addS_len l m h h', h]; omega
theorem sumRow_getD (l m : List Int) (h : l.length = 8) (h' : m.length = 8) (i : Nat) (hi : i < 8) : (sumRow l m i).getD i 0 = l.getD i 0 := by
  have hl : ((addS l m).take i).length = i := by simp [addS_len l m h h']; omega
  unfold sumRow
  rw [List.getD_eq_getElem?_getD, List.getElem?_append_right (by omega), hl, Nat.sub_self, List.getElem?_drop, Nat.add_zero, ← List.getD_eq_getElem?_getD]
theorem sumRow_set (l m : List Int) (h : l.length = 8) (h' : m.length = 8) (i : Nat) (hi : i < 8) : (sumRow l m i).set i ((l.getD i 0 + m.getD i 0) % 4294967296) = sumRow l m (i + 1) := by
  have hl : ((addS l m).take i).length = i := by simp [addS_len l m h h']; omega
  have hil : i < (addS l m).length := by rw [addS_len l m h h']; exact hi
  unfold sumRow
  rw [List.set_append_right _ _ (by omega), hl, Nat.sub_self, List.drop_eq_getElem_cons (by omega), List.set_cons_zero, List.take_succ_eq_append_getElem hil, List.append_assoc]
  have e : (addS l m)[i] = (l.getD i 0 + m.getD i 0) % 4294967296 := by
    have h1 : i < l.length := by omega
    have h2 : i < m.length := by omega
    simp [addS, h1, h2]
  rw [e]
  rfl
theorem sumRow_zero (l m : List Int) : sumRow l m 0 = l := by simp [sumRow]
theorem sumRow_full (l m : List Int) (h : l.length = 8) (h' : m.length = 8) : sumRow l m 8 = addS l m := by
  unfold sumRow
  rw [List.take_of_length_le (by rw [addS_len l m h h']; omega), List.drop_of_length_le (by omega), List.append_nil]
theorem addS_comm (l m : List Int) : addS l m = addS m l := by
  unfold addS
  rw [List.zipWith_comm]
  congr 1
  funext x y
  rw [Int.add_comm]

theorem quiet_same {P : Program} {f : FuncId} {args : Array Value} {w : World} {n : Nat} {v : Value}
    (h : Calls P f args (w.drewN n) fun e w' => e = .returned v ∧ w.drewN n = w') : Calls P f args (w.drewN n) fun e w'' => e = .returned v ∧ ∃ m, w'' = w.drewN m :=
  h.mono fun _ _ ⟨he, hm⟩ => ⟨he, n, hm.symm⟩

theorem zero_s : (Tryd.prog.info? 55).map (fun i => (i.zero, i.size)) = some (some (.agg ((List.replicate 8 (0 : Int)).map (Value.int .u32)).toArray), 8) := by kernel_rfl
theorem size_s : (Tryd.prog.info? 55).map (·.size) = some 8 := by kernel_rfl

set_option maxRecDepth 100000 in
set_option maxHeartbeats 2000000 in
theorem Press_any (w : World) (st xs : List Int) (hs : st.length = 8) (hsw : W32 st) (hl : xs.length = 64) (hx : Bytes xs) (hK : KTab w) :
    Calls Tryd.prog 48 #[.agg (st.map (Value.int .u32)).toArray, .agg (xs.map (Value.int .u8)).toArray] w
      fun e w' => e = .returned (.agg ((pressOf st xs).map (Value.int .u32)).toArray) ∧ Below w.heap.size w w' := by
  have HL := Lib.hid hl
  have HS := Lib.hid hs
  obtain ⟨Z, hZ⟩ : ∃ Z : List Int, Z = List.replicate 64 0 := ⟨_, rfl⟩
  have HZ := len0 64
  have hz1 := zero_w
  rw [← hZ] at HZ hz1
  obtain ⟨Y, hY⟩ : ∃ Z : List Int, Z = List.replicate 8 0 := ⟨_, rfl⟩
  have HY := len0 8
  have hy1 := zero_s
  rw [← hY] at HY hy1
  have HZ1 := Lib.hid hz1
  have HY1 := Lib.hid hy1
  have cw := fun w => Lib.hid (words_any w xs hl hx)
  have hsl := sched_len xs
  have hscw := sched_w xs hx
  obtain ⟨sc, hsc⟩ : ∃ sc, sc = sched xs := ⟨_, rfl⟩
  rw [← hsc] at cw hsl hscw
  have HSC := Lib.hid hsc
  have HSL := Lib.hid hsl
  have HK := Lib.hid hK
  clear hl hs hZ hz1 hY hy1 hsc hsl hK
  go_enter Tryd.func48, Tryd.ntmps48
  go_wp2_with (first
    | ((with_reducible show wpList _ _ _ (⟨some 2, _, _, _, _, _⟩ :: _) _ _); refine wpList_box_arr rfl _ (.tmp 0) rfl .u32 st rfl ?_; intro g2 w2 e2 s2 A2 b2)
    | ((with_reducible show wpList _ _ _ (⟨some 3, _, _, _, _, _⟩ :: _) _ _); refine wpList_box_arr rfl _ (.tmp 1) rfl .u8 xs rfl ?_; intro g3 w3 e3 s3 A3 b3)
    | ((with_reducible show wpList _ _ _ (⟨some 4, _, _, _, _, _⟩ :: _) _ _); refine wpList_alloc_arr rfl _ rfl .u32 Y 8 HY1 ?_; intro g4 w4 e4 s4 A4 b4; have A34 := Lib.hid (A3.out.over b4.out))
    | ((with_reducible show wpList _ _ _ (⟨some 20, _, _, _, _, _⟩ :: _) _ _); refine wpList_load_arr rfl _ (.tmp 3) rfl g3 rfl .u8 _ xs A34 64 _ Tryd.underlying44 size_b HL ?_)
    | fail)
  refine (cw _).out.mono ?_
  rintro e w5 ⟨rfl, b5⟩
  have B5 := Lib.hid b5
  clear b5
  go_wp2_with (first
    | ((with_reducible show wpList _ _ _ (⟨some 5, _, _, _, _, _⟩ :: _) _ _); refine wpList_alloc_arr rfl _ rfl .u32 Z 64 HZ1 ?_; intro g5 w6 e6 s6 A6 b6)
    | ((with_reducible show wpList _ _ _ (⟨none, _, _, _, _, _⟩ :: _) _ _); refine wpList_store_arr rfl _ (.tmp 5) (.tmp 21) rfl g5 rfl .u32 _ _ sc rfl A6 64 size_w HZ HSL ?_; intro w7 A7 o7 s7)
    | fail)
  have hsz2 := b3.out.size
  have hsz3 := b4.out.size
  have hsz4 := B5.out.size
  have hsz5 := b6.out.size
  have B07 : Hid (Below w.heap.size w w7) := (step b2.out (step b3.out (step b4.out (step B5.out b6.out)))).trans (o7.out.below (by omega))
  have A27 := Lib.hid (((((A2.out.over b3.out).over b4.out).over B5.out).over b6.out).only o7.out (by omega))
  have A47 := Lib.hid (((A4.out.over B5.out).over b6.out).only o7.out (by omega))
  have HK7 := Lib.hid ((((((HK.out.below b2.out).below b3.out).below b4.out).below B5.out).below b6.out).only o7.out (by have := HK.out.lt; omega))
  have l24 : g2 < g4 := by omega
  have lw2 : w.heap.size ≤ g2 := by omega
  clear A2 b2 A3 b3 A4 b4 A34 B5 A6 b6 o7 hsz2 hsz3 hsz4 hsz5 s2 s3 s4 s6 e3 e4 e6
  have k0 := A27.out.cell (i := 0) (by rw [HS.out]; omega)
  have k1 := A27.out.cell (i := 1) (by rw [HS.out]; omega)
  have k2 := A27.out.cell (i := 2) (by rw [HS.out]; omega)
  have k3 := A27.out.cell (i := 3) (by rw [HS.out]; omega)
  have k4 := A27.out.cell (i := 4) (by rw [HS.out]; omega)
  have k5 := A27.out.cell (i := 5) (by rw [HS.out]; omega)
  have k6 := A27.out.cell (i := 6) (by rw [HS.out]; omega)
  have k7 := A27.out.cell (i := 7) (by rw [HS.out]; omega)
  obtain ⟨s0, hs0⟩ : ∃ s0, s0 = St.of st := ⟨_, rfl⟩
  have hsw0 := St.of_w hsw
  rw [← hs0] at hsw0
  have e0 : st.getD 0 0 = s0.a := by rw [hs0]; rfl
  have e1 : st.getD 1 0 = s0.b := by rw [hs0]; rfl
  have e2' : st.getD 2 0 = s0.c := by rw [hs0]; rfl
  have e3 : st.getD 3 0 = s0.d := by rw [hs0]; rfl
  have e4 : st.getD 4 0 = s0.e := by rw [hs0]; rfl
  have e5 : st.getD 5 0 = s0.f := by rw [hs0]; rfl
  have e6 : st.getD 6 0 = s0.g := by rw [hs0]; rfl
  have e7 : st.getD 7 0 = s0.h := by rw [hs0]; rfl
  rw [e0] at k0
  rw [e1] at k1
  rw [e2'] at k2
  rw [e3] at k3
  rw [e4] at k4
  rw [e5] at k5
  rw [e6] at k6
  rw [e7] at k7
  have HS0 := Lib.hid hs0
  clear e0 e1 e2' e3 e4 e5 e6 e7 hs0
  go_quiet (fail)
  go_wp2_with (first
    | ((with_reducible show wpList _ _ _ (⟨some 38, _, _, _, _, _⟩ :: _) _ _); refine wpList_load_arr rfl _ (.tmp 5) rfl g5 rfl .u32 _ sc (A7.out.drewN nq) 64 _ Tryd.underlying60 size_w HSL ?_)
    | fail)
  clear k0 k1 k2 k3 k4 k5 k6 k7
  go_loopw [6, 7, 8, 9, 10, 11, 12, 13, 39] (fun sa sb sc' sd se sf sg sh i wr => ∃ t : Nat, t ≤ 64 ∧ i = .int .i64 t ∧ (∃ s : St, Hid (s = runS KK sc s0 t) ∧ sa = .int .u32 s.a ∧ sb = .int .u32 s.b ∧ sc' = .int .u32 s.c ∧ sd = .int .u32 s.d ∧ se = .int .u32 s.e ∧ sf = .int .u32 s.f ∧ sg = .int .u32 s.g ∧ sh = .int .u32 s.h) ∧ ∃ n, wr = w7.drewN n)
    (fun _ _ _ _ _ _ _ _ i _ => 64 - (intOf i).toNat)
  case atStart => exact ⟨0, by omega, rfl, ⟨s0, rfl, rfl, rfl, rfl, rfl, rfl, rfl, rfl, rfl⟩, _, rfl⟩
  case round =>
    obtain ⟨t, ht, rfl, ⟨s, hSt, rfl, rfl, rfl, rfl, rfl, rfl, rfl, rfl⟩, n, rfl⟩ := hrel
    by_cases hlt : t < 64
    · have hw := runS_w hsw0 KK sc t
      rw [← hSt.out] at hw
      obtain ⟨a, b, c, d, e, f, g, h8⟩ := s
      obtain ⟨⟨a0, a1⟩, ⟨b0, b1⟩, ⟨c0, c1⟩, ⟨d0, d1⟩, ⟨e0, e1⟩, ⟨f0, f1⟩, ⟨g0, g1⟩, ⟨h0, h1⟩⟩ := hw
      have hsig : IntKind.u32.signed = false := rfl
      simp only at a0 a1 b0 b1 c0 c1 d0 d1 e0 e1 f0 f1 g0 g1 h0 h1
      obtain ⟨wq, hwq⟩ : ∃ wq, wq = w7.drewN n := ⟨_, rfl⟩
      have gk : wq.cell? ⟨0, t, none⟩ = some (.int .u32 (KK.getD t 0)) := by rw [hwq]; exact HK7.out t hlt
      rw [← hwq]
      have HWQ := Lib.hid hwq
      clear hwq
      have hk := KK_w.getD t
      obtain ⟨kt, hkt⟩ : ∃ kt, kt = KK.getD t 0 := ⟨_, rfl⟩
      rw [← hkt] at gk hk
      have HKT := Lib.hid hkt
      have hx' := hscw.getD t
      obtain ⟨x, hxe⟩ : ∃ x, x = sc.getD t 0 := ⟨_, rfl⟩
      rw [← hxe] at hx'
      have HXE := Lib.hid hxe
      obtain ⟨hk0, hk1⟩ := hk
      obtain ⟨hx0, hx1⟩ := hx'
      clear hkt hxe
      have re := rots_bounds e 6 11 25
      have ra := rots_bounds a 2 13 22
      obtain ⟨re0, re1⟩ := re
      obtain ⟨ra0, ra1⟩ := ra
      have ct := fun w => Lib.hid (turns_any w e 6 11 25 ⟨e0, e1⟩ (by omega) (by omega) (by omega))
      have ct2 := fun w => Lib.hid (turns_any w a 2 13 22 ⟨a0, a1⟩ (by omega) (by omega) (by omega))
      go_wp2_with (first
        | (refine wpList_index_arr rfl _ (.tmp 38) (.tmp 39) rfl .u32 sc rfl 64 _ Tryd.underlying60 Tryd.underlying54 one_u32 t rfl hlt HSL ?_; rw [← HXE.out])
        | fail)
      go_quiet ((go_at_call 50; exact quiet_same (ct _).out))
      go_wp2_with fail
      refine (ct2 _).out.mono ?_
      rintro ee w' ⟨rfl, rfl⟩
      go_wp2_with fail
      go_roundw
      case rel =>
        refine ⟨t + 1, by omega, by go_num, ⟨roundS kt x ⟨a, b, c, d, e, f, g, h8⟩, ?_, ?_, rfl, rfl, rfl, ?_, rfl, rfl, rfl⟩, n + nq, by rw [HWQ.out, World.drewN_drewN]⟩
        · show _ = _
          rw [hSt.out, HKT.out, HXE.out]
          rfl
        all_goals simp only [roundS, t1Of, t2Of, ch, maj]
      case measure => simp [intOf]; omega
    · have hge : (64 : Int) ≤ (t : Int) := by omega
      have hw := runS_w hsw0 KK sc t
      rw [← hSt.out] at hw
      have hlw := list_w hw
      have hSt' : Hid (s = runS KK sc s0 64) := by show _ = _; rw [hSt.out, show t = 64 by omega]
      clear hSt hw
      obtain ⟨a, b, c, d, e, f, g, h⟩ := s
      obtain ⟨w8, hw8⟩ : ∃ w8, w8 = w7.drewN n := ⟨_, rfl⟩
      have A28 : Hid (Arr w8 g2 .u32 55 (sumRow st [a, b, c, d, e, f, g, h] 0)) := by rw [hw8, sumRow_zero]; exact A27.out.drewN n
      have A48 : Hid (Arr w8 g4 .u32 55 Y) := by rw [hw8]; exact A47.out.drewN n
      have B08 : Hid (Below w.heap.size w w8) := by rw [hw8]; exact below_drewN B07.out n
      rw [← hw8]
      clear hw8 A27 A47 HK7
      go_wp2_with fail
      obtain ⟨new, hnew⟩ : ∃ new : List Int, new = [a, b, c, d, e, f, g, h] := ⟨_, rfl⟩
      have HN := Lib.hid (show new.length = 8 by rw [hnew]; rfl)
      have HNe := Lib.hid hnew
      rw [← hnew] at A28
      clear hnew
      go_loopw [98] (fun i wr => ∃ k : Nat, k ≤ 8 ∧ i = .int .i64 k ∧ Hid (Arr wr g2 .u32 55 (sumRow st new k)) ∧ Hid (Only g2 w8 wr)) (fun i _ => 8 - (intOf i).toNat)
      case atStart => exact ⟨0, by omega, rfl, A28, Only.refl _ _⟩
      case round =>
        obtain ⟨k, hk, rfl, hR, hO⟩ := hrel
        by_cases hlt : k < 8
        · have hs8 := HS.out
          have hn8 := HN.out
          have gc := hR.out.cell (i := k) (by rw [sumRow_len _ _ hs8 hn8 _ hk]; omega)
          rw [sumRow_getD _ _ hs8 hn8 _ hlt] at gc
          have gf := hR.out.frozen k
          have hS := hR.out.set k ((st.getD k 0 + new.getD k 0) % 4294967296)
          rw [sumRow_set _ _ hs8 hn8 _ hlt] at hS
          have hb := hsw.getD k
          obtain ⟨y, hy⟩ : ∃ y, y = st.getD k 0 := ⟨_, rfl⟩
          rw [← hy] at gc hS hb
          obtain ⟨x, hx⟩ : ∃ x, x = new.getD k 0 := ⟨_, rfl⟩
          rw [← hx] at hS
          have hb' : 0 ≤ x ∧ x ≤ 4294967295 := by rw [hx, HNe.out]; exact hlw.getD k
          have HX := Lib.hid hx
          have hSh := Lib.hid hS
          obtain ⟨hb0, hb1⟩ := hb
          obtain ⟨hb2, hb3⟩ := hb'
          clear hs8 hn8 hS hx hy hR
          go_wp2_with (first
            | (refine wpList_index_arr rfl _ (.tmp 97) (.tmp 98) rfl .u32 new (by rw [HNe.out]; rfl) 8 _ Tryd.underlying55 Tryd.underlying54 one_u32 k rfl hlt HN ?_; rw [← HX.out])
            | fail)
          go_roundw
          case rel => exact ⟨k + 1, by omega, by go_num, hSh, hO.out.setCell _ _⟩
          case measure => simp [intOf]; omega
        · have hge2 : (8 : Int) ≤ (k : Int) := by omega
          have hF : Hid (Arr wr g2 .u32 55 (pressOf st xs)) := by
            have h0 := hR.out
            rw [show k = 8 by omega, sumRow_full _ _ HS.out HN.out, HNe.out] at h0
            have e : pressOf st xs = addS st [a, b, c, d, e, f, g, h] := by
              unfold pressOf
              rw [← HSC.out, ← HS0.out, ← hSt'.out]
              rfl
            rw [e]
            exact h0
          have A4f := Lib.hid (A48.out.only hO.out (by omega))
          have Bf : Hid (Below w.heap.size w wr) := B08.out.trans (hO.out.below lw2)
          have HP := Lib.hid (pressOf_len st xs HS.out)
          obtain ⟨p, hp⟩ : ∃ p, p = pressOf st xs := ⟨_, rfl⟩
          rw [← hp] at hF HP
          have HPe := Lib.hid hp
          clear hR hO hp
          go_wp2_with (first
            | ((with_reducible show wpList _ _ _ (⟨some 109, _, _, _, _, _⟩ :: _) _ _); refine wpList_load_arr rfl _ (.tmp 2) rfl g2 rfl .u32 _ p hF 8 _ Tryd.underlying55 size_s HP ?_)
            | ((with_reducible show wpList _ _ _ (⟨none, _, _, _, _, _⟩ :: _) _ _); refine wpList_store_arr rfl _ (.tmp 4) (.tmp 109) rfl g4 rfl .u32 _ _ p rfl A4f 8 size_s HY HP ?_; intro w9 A9 o9 s9)
            | fail)
          rw [← HPe.out]
          refine bodyPost_ret (v := .agg (p.map (Value.int .u32)).toArray) ?_ rfl ⟨rfl, Bf.out.trans (o9.out.below (by omega))⟩
          exact results_cell_row rfl _ _ g4 _ _ (0, 0) _ rfl A9.out Tryd.underlying55 rfl (by rw [size_s]; have := HP.out; simp [this])
end Go.Proofs.YtomdgiikjnghcaaDoor
