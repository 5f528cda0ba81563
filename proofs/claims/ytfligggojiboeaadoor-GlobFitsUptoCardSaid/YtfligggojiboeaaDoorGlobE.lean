/-
  Layer 5: the contracts of glob.Short and of its closure ('end').
-/
import Derived.Test.YtfligggojiboeaaDoorGlobD
namespace Go.Proofs.YtfligggojiboeaaDoor
open Go.RowKit

def owed (h : Bool) : List Int := if h then [42] else []

def EndPost (w : World) (base b4 b5 : Nat) (xs : List Int) (e : Ending) (w' : World) : Prop :=
  e = .returned (.tuple #[]) ∧ ∃ v', Box w' b4 38 v' ∧ Box w' b5 4 (.bool false) ∧ OwnK .i32 21 w' base v' xs ∧ Below base w w' ∧ ∀ (K : Nat) (s : ByteArray) (p : Nat), w.heap[K]? = some (.stringIter s p) → w'.heap[K]? = some (.stringIter s p)

set_option maxHeartbeats 2000000 in
theorem end_any (w : World) (base b4 b5 : Nat) (v : Value) (h : Bool) (xs : List Int) (hx : xs.length ≤ 1000000) (hB4 : Box w b4 38 v) (hB5 : Box w b5 4 (.bool h)) (ho : OwnK .i32 21 w base v xs) (h4 : base ≤ b4) (h5 : base ≤ b5) (hb : base ≤ w.heap.size) :
    Calls Tryd.prog 27 #[.pointer (some ⟨b5, 0, none⟩), .pointer (some ⟨b4, 0, none⟩)] w (EndPost w base b4 b5 (xs ++ owed h)) := by
  have hne : b4 ≠ b5 := hB4.ne hB5 (by decide)
  have g5 := hB5.cell
  have g4 := hB4.cell
  have HB4 := Lib.hid hB4
  have HB5 := Lib.hid hB5
  have HO := Lib.hid ho
  clear hB4 hB5 ho
  cases h
  · have e1 : xs ++ owed false = xs := List.append_nil xs
    rw [e1]
    clear e1
    go_enter Tryd.func27, Tryd.ntmps27
    go_wp2_with (first
      | ((with_reducible show wpList _ _ _ (⟨none, .store _ (.tmp 0) _, _, _, _, _⟩ :: _) _ _); refine wpList_store_box rfl _ (.tmp 0) _ rfl b5 rfl (.bool false) rfl 4 _ HB5.out (by kernel_rfl) rfl ?_; intro w2 B5 O2)
      | fail)
    go_end0
    exact ⟨rfl, v, HB4.out.only O2.out hne, B5.out, HO.out.only O2.out HB5.out (by decide), O2.out.below h5, fun K s p hK => O2.out.iter HB5.out hK⟩
  · have e1 : xs ++ owed true = xs ++ [42] := rfl
    rw [e1]
    clear e1
    go_enter Tryd.func27, Tryd.ntmps27
    go_wp2_with (first
      | (at_builtin; go_loud (refine wpList_append_lit rfl (.tmp 3) (.tmp 4) .i32 38 21 4 Tryd.underlying38 info_i32 rfl base _ xs [42] _ rfl 1 1 rfl rfl rfl HO.out (by omega) (by omega) hb ?_; intro v1 w1 ho1 hg1))
      | ((with_reducible show wpList _ _ _ (⟨none, .store _ (.tmp 1) _, _, _, _, _⟩ :: _) _ _); go_loud (refine wpList_store_box rfl _ (.tmp 1) (.tmp 5) rfl b4 rfl v1 rfl 38 _ (HB4.out.grew hg1.out HO.out (by decide)) (by kernel_rfl) ho1.out.oneCell ?_; intro w2 B4 O2))
      | ((with_reducible show wpList _ _ _ (⟨none, .store _ (.tmp 0) _, _, _, _, _⟩ :: _) _ _); go_loud (refine wpList_store_box rfl _ (.tmp 0) _ rfl b5 rfl (.bool false) rfl 4 _ ((HB5.out.grew hg1.out HO.out (by decide)).only O2.out hne.symm) (by kernel_rfl) rfl ?_; intro w3 B5 O3))
      | fail)
    go_end0
    have X4 := HB4.out.grew hg1.out HO.out (by decide)
    have X5 := HB5.out.grew hg1.out HO.out (by decide)
    exact ⟨rfl, v1, B4.out.only O3.out hne, B5.out, (ho1.out.only O2.out X4 (by decide)).only O3.out (X5.only O2.out hne.symm) (by decide), ((hg1.out.below HO.out hb).trans (O2.out.below h4)).trans (O3.out.below h5),
      fun K s p hK => O3.out.iter (X5.only O2.out hne.symm) (O2.out.iter X4 (hg1.out.iter HO.out hK))⟩

/-- what Short answers -/
def ShortPost (w : World) (p : List UInt8) (e : Ending) (w' : World) : Prop := e = .returned (.tuple #[.string ⟨(shortO p).toArray⟩, .int .i64 (patErr p [])]) ∧ Below w.heap.size w w'

theorem info_slice : (Tryd.prog.info? 38).map (fun i => (i.zero, i.size)) = some (some (.slice none 0 0), 1) := by kernel_rfl
theorem info_bool : (Tryd.prog.info? 4).map (fun i => (i.zero, i.size)) = some (some (.bool false), 1) := by kernel_rfl

theorem shortF_star (h : Bool) (r : List Int) : shortF h (42 :: r) = shortF true r := by simp [shortF]
theorem shortF_mark (h : Bool) (r : List Int) : shortF h (63 :: r) = 63 :: shortF h r := by simp [shortF]
theorem shortF_else (h : Bool) (c : Int) (r : List Int) (h1 : c ≠ 42) (h2 : c ≠ 63) : shortF h (c :: r) = owed h ++ c :: shortF false r := by
  rw [shortF, if_neg h1, if_neg h2]
  rfl
theorem shortF_end (h : Bool) : shortF h [] = owed h := by simp [shortF, owed]

set_option maxRecDepth 100000 in
set_option maxHeartbeats 4000000 in
theorem Short_any (s : ByteArray) (w : World) (hs : s.size ≤ 4398046511104) (hT : Tabs w) :
    Calls Tryd.prog 13 #[.string s] w (ShortPost w s.data.toList) := by
  have c1 := fun w hT => Lib.hid (IsText_any s w (by omega) hT)
  have c3 := fun w => Lib.hid (longer_any s 64 w (by omega))
  have hq : ∀ (x : List UInt8) (n : Int), shortO s.data.toList = x → patErr s.data.toList [] = n → ∀ e w', e = .returned (.tuple #[.string ⟨x.toArray⟩, .int .i64 n]) ∧ Below w.heap.size w w' → ShortPost w s.data.toList e w' := fun x n hx hn e w' h => by
    unfold ShortPost
    rw [hx, hn]
    exact h
  by_cases ts' : isText s.data.toList = false
  · have he := patErr_form (t := []) (.inl ts')
    have HQ := Lib.hid (hq [] _ (if_neg (by omega)) he)
    rw [ts'] at c1
    clear hq he ts' c3
    go_enter Tryd.func13, Tryd.ntmps13
    go_wp2_with fail
    refine (c1 _ hT).out.mono ?_
    rintro e w1 ⟨rfl, hb1⟩
    go_wp2
    go_ret2
    exact HQ.out _ _ ⟨rfl, hb1⟩
  have ts : isText s.data.toList = true := by simpa using ts'
  rw [ts] at c1
  clear ts'
  by_cases lp : 64 < (letters s.data.toList).length
  · have he := patErr_limit (t := []) ts rfl (.inl lp)
    have HQ := Lib.hid (hq [] _ (if_neg (by omega)) he)
    rw [decide_eq_true (show (64 : Int) < ((letters s.data.toList).length : Int) by omega)] at c3
    clear hq he ts lp
    go_enter Tryd.func13, Tryd.ntmps13
    go_wp2_with fail
    refine (c1 _ hT).out.mono ?_
    rintro e w1 ⟨rfl, hb1⟩
    go_wp2_with fail
    refine (c3 _).out.mono ?_
    rintro e w3 ⟨rfl, hb3⟩
    go_wp2
    go_ret2
    exact HQ.out _ _ ⟨rfl, step hb1 hb3⟩
  rw [decide_eq_false (show ¬ (64 : Int) < ((letters s.data.toList).length : Int) by omega)] at c3
  have he : patErr s.data.toList [] = 0 := patErr_empty.2 ⟨ts, by omega⟩
  have hO : shortO s.data.toList = (shortL (letters s.data.toList)).flatMap enc := if_pos he
  have HQ := Lib.hid (hq _ _ hO he)
  have HLT := Lib.hid (shortL_letters ts)
  have hll : (shortL (letters s.data.toList)).length ≤ 64 := by have := shortL_len (letters s.data.toList); omega
  obtain ⟨Z, hZ⟩ : ∃ Z, Z = shortL (letters s.data.toList) := ⟨_, rfl⟩
  rw [← hZ] at HQ HLT hll
  have HZ := Lib.hid hZ
  have HTX := Lib.hid ts
  have hmf : ∀ (fn : Fn) (first cap : Array Value) (w : World), (Instr.makeFunc fn first cap).run Tryd.prog w = .ok (.func fn first cap) w := fun _ _ _ _ => rfl
  clear hq he hO hZ ts lp
  go_enter Tryd.func13, Tryd.ntmps13
  go_wp2_with fail
  refine (c1 _ hT).out.mono ?_
  rintro e w1 ⟨rfl, hb1⟩
  go_wp2_with fail
  refine (c3 _).out.mono ?_
  rintro e w2 ⟨rfl, hb2⟩
  have hB2 := step hb1 hb2
  clear c1 c3 hb1 hb2
  go_wp2_with (first
    | (at_make; refine wpList_make_own0 rfl .i32 38 21 4 Tryd.underlying38 info_i32 _ _ rfl _ 64 rfl rfl rfl (by omega) (by rw [maxLen_eq]; omega) ?_; intro w3 ho3 hb3)
    | ((with_reducible show wpList _ _ _ (⟨some 4, _, _, _, _, _⟩ :: _) _ _); refine wpList_alloc_box rfl _ rfl _ info_slice rfl ?_; intro b4 w4 e4 s4 B4 hb4)
    | ((with_reducible show wpList _ _ _ (⟨none, .store _ (.tmp 4) _, _, _, _, _⟩ :: _) _ _); refine wpList_store_box rfl _ (.tmp 4) (.tmp 16) rfl b4 rfl _ rfl 38 _ B4.out (by kernel_rfl) rfl ?_; intro w5 C4 O5)
    | ((with_reducible show wpList _ _ _ (⟨some 5, _, _, _, _, _⟩ :: _) _ _); refine wpList_alloc_box rfl _ rfl _ info_bool rfl ?_; intro b5 w6 e6 s6 B5 hb6)
    | ((with_reducible show wpList _ _ _ (⟨none, .store _ (.tmp 5) _, _, _, _, _⟩ :: _) _ _); refine wpList_store_box rfl _ (.tmp 5) _ rfl b5 rfl (.bool false) rfl 4 _ B5.out (by kernel_rfl) rfl ?_; intro w7 C5 O7)
    | fail)
  have hs2 := hB2.size
  have hs3 := hb3.size
  have hs4 := hb4.out.size
  have X4 := C4.out.below hb6.out
  have hne : b4 ≠ b5 := X4.ne B5.out (by decide)
  have Y4 : Hid (Box w7 b4 38 (.slice (some ⟨w2.heap.size, 0, none⟩) 0 64)) := X4.only O7.out hne
  have YO : Hid (OwnK .i32 21 w7 w.heap.size (.slice (some ⟨w2.heap.size, 0, none⟩) 0 64) []) := (((((ho3.out.own.below hb4.out).only O5.out B4.out (by decide)).below hb6.out).only O7.out B5.out (by decide))).mono hs2
  have h4 : w.heap.size ≤ b4 := by omega
  have hs5 : w5.heap.size = w4.heap.size := O5.out.size
  have h5 : w.heap.size ≤ b5 := by omega
  have YB : Hid (Below w.heap.size w w7) := (((((hB2.trans (hb3.mono hs2)).trans (hb4.out.mono (by omega))).trans (O5.out.below h4)).trans (hb6.out.mono (by omega))).trans (O7.out.below h5))
  have hs7 := YB.out.size
  obtain ⟨v7, hv7⟩ : ∃ v7 : Value, v7 = .slice (some ⟨w2.heap.size, 0, none⟩) 0 64 := ⟨_, rfl⟩
  rw [← hv7] at Y4 YO
  clear hv7 X4 ho3 hb3 B4 hb4 C4 O5 B5 hb6 O7 hB2 hs2 hs3 hs4 e4 s4 e6 s6 hs5
  go_wp2
  go_loopw [8] (fun _ wr => ∃ (pos : Nat) (xs : List Int) (hd : Bool) (v : Value), wr.heap[w7.heap.size]? = some (.stringIter s pos) ∧ Hid (Box wr b4 38 v) ∧ Hid (Box wr b5 4 (.bool hd)) ∧ Hid (OwnK .i32 21 wr w.heap.size v xs) ∧ Hid (Below w.heap.size w wr)
    ∧ Hid (xs ++ shortF hd (letters (s.data.toList.drop pos)) = Z) ∧ Hid (isText (s.data.toList.drop pos) = true) ∧ pos ≤ s.size) (fun _ wr => s.size - wr.iterPos w7.heap.size)
  case atStart =>
    refine ⟨0, [], false, v7, World.iter_heap w7 s 0, Y4.out.alloc _, C5.out.alloc _, YO.out.alloc _, YB.out.alloc (by omega) _, ?_, HTX, by omega⟩
    show _ = _
    rw [HZ.out, List.drop_zero]
    rfl
  case round =>
    clear Y4 YO YB C5
    obtain ⟨pos, xs, hd, v, hit, X4, X5, XO, XB, HE, HX, hps⟩ := hrel
    have hbs := XB.out.size
    have hK : w7.heap.size < wr.heap.size := (Array.getElem?_eq_some_iff.1 hit).1
    have hxl : xs.length ≤ 64 := by
      have := congrArg List.length HE.out
      rw [List.length_append] at this
      omega
    by_cases hp : pos < s.size
    · have hnx : ∀ ty, (Instr.next (.pointer (some ⟨w7.heap.size, 0, none⟩)) true ty).run Tryd.prog wr = _ := fun ty => Lib.run_next_any_at wr w7.heap.size s pos ty hit hp
      obtain ⟨n1, n2, n3⟩ := next_any s pos hp
      obtain ⟨m1, m2, m3⟩ := next_text s pos hp HX.out
      obtain ⟨R, hR⟩ : ∃ R : Int, R = ((Utf8.decode s pos).1 : Int) := ⟨_, rfl⟩
      obtain ⟨p', hp'⟩ : ∃ p', p' = pos + (Utf8.decode s pos).2 := ⟨_, rfl⟩
      rw [← hp'] at hnx n1 n3 m1 m2
      rw [← hR] at hnx m1 m3
      have hit2 := Lib.iterAt_heap wr w7.heap.size s pos p' hit
      have hb3 := Lib.below_iterAt XB.out (k := w7.heap.size) (by omega) s p'
      have A4 : Hid (Box (wr.iterAt w7.heap.size s p') b4 _ _) := X4.out.iterAt hit p'
      have A5 : Hid (Box (wr.iterAt w7.heap.size s p') b5 _ _) := X5.out.iterAt hit p'
      have AO : Hid (OwnK .i32 21 (wr.iterAt w7.heap.size s p') w.heap.size _ xs) := XO.out.iterAt hit p'
      have hs3 := Lib.iterAt_size wr w7.heap.size s p'
      obtain ⟨w3, hw3⟩ : ∃ w3, w3 = wr.iterAt w7.heap.size s p' := ⟨_, rfl⟩
      rw [← hw3] at hnx hit2 hb3 A4 A5 AO hs3
      have hpp : pos < p' := by omega
      have HN := Lib.hid m1
      have HX' := Lib.hid m2
      have HI0 := Lib.hid hit
      have HI := Lib.hid hit2
      have HB3 := Lib.hid hb3
      have hbs3 : w.heap.size ≤ w3.heap.size := hb3.size
      have g4 := A4.out.cell
      have g5 := A5.out.cell
      obtain ⟨r0, r1, r2⟩ := m3
      clear n1 n2 m1 m2 hR hp' hit hit2 hw3 hs3 hb3 X4 X5 XO XB HX
      by_cases h42 : R = 42
      · subst h42
        have HF : Hid (xs ++ shortF true (letters (s.data.toList.drop p')) = Z) := by
          show _ = _
          have := HE.out
          rwa [HN.out, shortF_star] at this
        clear HE HN
        go_wp2_with (first
          | ((with_reducible show wpList _ _ _ (⟨none, .store _ (.tmp 5) _, _, _, _, _⟩ :: _) _ _); go_loud (refine wpList_store_box rfl _ (.tmp 5) _ rfl b5 rfl (.bool true) rfl 4 _ A5.out (by kernel_rfl) rfl ?_; intro w4 D5 O4))
          | fail)
        have HI4 := Lib.hid (O4.out.iter A5.out HI.out)
        have D4 := Lib.hid (A4.out.only O4.out hne)
        have DO := Lib.hid (AO.out.only O4.out A5.out (by decide))
        have DB := Lib.hid (HB3.out.trans (O4.out.below h5))
        clear O4
        go_roundw
        case rel => exact ⟨p', xs, true, v, HI4.out, D4, D5, DO, DB, HF, HX', n3⟩
        case measure =>
          have h1 := HI4.out
          have h0 := HI0.out
          simp only [World.iterPos, h0, h1]
          omega
      by_cases h63 : R = 63
      · subst h63
        have HF : Hid (xs ++ [63] ++ shortF hd (letters (s.data.toList.drop p')) = Z) := by
          show _ = _
          have := HE.out
          rwa [HN.out, shortF_mark, List.append_cons] at this
        clear HE HN h42
        go_wp2_with (first
          | (at_builtin; go_loud (refine wpList_append_lit rfl (.tmp 34) (.tmp 36) .i32 38 21 4 Tryd.underlying38 info_i32 rfl w.heap.size _ xs [63] _ rfl 1 1 rfl rfl rfl AO.out (by omega) (by omega) hbs3 ?_; intro v4 w4 ho4 hg4; go_simp))
          | ((with_reducible show wpList _ _ _ (⟨none, .store _ (.tmp 4) _, _, _, _, _⟩ :: _) _ _); go_loud (refine wpList_store_box rfl _ (.tmp 4) (.tmp 37) rfl b4 rfl v4 rfl 38 _ (A4.out.grew hg4.out AO.out (by decide)) (by kernel_rfl) ho4.out.oneCell ?_; intro w5 D4 O5))
          | fail)
        have E4 := A4.out.grew hg4.out AO.out (by decide)
        have HI4 := Lib.hid (O5.out.iter E4 (hg4.out.iter AO.out HI.out))
        have D5 := Lib.hid ((A5.out.grew hg4.out AO.out (by decide)).only O5.out hne.symm)
        have DO := Lib.hid (ho4.out.only O5.out E4 (by decide))
        have DB := Lib.hid ((HB3.out.trans (hg4.out.below AO.out hbs3)).trans (O5.out.below h4))
        clear O5 E4 hg4 ho4
        go_roundw
        case rel => exact ⟨p', xs ++ [63], hd, v4, HI4.out, D4, D5, DO, DB, HF, HX', n3⟩
        case measure =>
          have h1 := HI4.out
          have h0 := HI0.out
          simp only [World.iterPos, h0, h1]
          omega
      · have HF : Hid (xs ++ owed hd ++ [R] ++ shortF false (letters (s.data.toList.drop p')) = Z) := by
          show _ = _
          have := HE.out
          rwa [HN.out, shortF_else _ _ _ h42 h63, ← List.append_assoc, List.append_cons] at this
        have hxl2 : (xs ++ owed hd).length ≤ 64 := by
          have := congrArg List.length HF.out
          rw [List.length_append, List.length_append] at this
          omega
        have ht1 : (R == 42) = false := by simpa using h42
        have ht2 : (R == 63) = false := by simpa using h63
        have c5 := Lib.hid (end_any w3 w.heap.size b4 b5 v hd xs (by omega) A4.out A5.out AO.out h4 h5 hbs3)
        obtain ⟨ys, hys⟩ : ∃ ys, ys = xs ++ owed hd := ⟨_, rfl⟩
        rw [← hys] at HF hxl2 c5
        clear HE HN h42 h63 hys
        go_wp2_with fail
        refine c5.out.mono ?_
        rintro e w4 ⟨rfl, v4, B4, B5, ho4, hb4, hi4⟩
        have HI4 := Lib.hid (hi4 _ _ _ HI.out)
        have HB4 := Lib.hid (HB3.out.trans hb4)
        have hbs4 : w.heap.size ≤ w4.heap.size := by have := hb4.size; omega
        have X4 := Lib.hid B4
        have X5 := Lib.hid B5
        have XO := Lib.hid ho4
        have g44 := B4.cell
        clear B4 B5 ho4 hb4 hi4 c5 A4 A5 AO HI g4 g5
        go_wp2_with (first
          | (at_builtin; go_loud (refine wpList_append_lit rfl (.tmp 26) (.tmp 28) .i32 38 21 4 Tryd.underlying38 info_i32 rfl w.heap.size _ ys [R] _ rfl 1 1 rfl rfl rfl XO.out (by omega) (by omega) hbs4 ?_; intro v5 w5 ho5 hg5; go_simp))
          | ((with_reducible show wpList _ _ _ (⟨none, .store _ (.tmp 4) _, _, _, _, _⟩ :: _) _ _); go_loud (refine wpList_store_box rfl _ (.tmp 4) (.tmp 29) rfl b4 rfl v5 rfl 38 _ (X4.out.grew hg5.out XO.out (by decide)) (by kernel_rfl) ho5.out.oneCell ?_; intro w6 D4 O6))
          | fail)
        have E4 := X4.out.grew hg5.out XO.out (by decide)
        have HI6 := Lib.hid (O6.out.iter E4 (hg5.out.iter XO.out HI4.out))
        have D5 := Lib.hid ((X5.out.grew hg5.out XO.out (by decide)).only O6.out hne.symm)
        have DO := Lib.hid (ho5.out.only O6.out E4 (by decide))
        have DB := Lib.hid ((HB4.out.trans (hg5.out.below XO.out hbs4)).trans (O6.out.below h4))
        clear O6 E4 hg5 ho5
        go_roundw
        case rel => exact ⟨p', ys ++ [R], false, v5, HI6.out, D4, D5, DO, DB, HF, HX', n3⟩
        case measure =>
          have h1 := HI6.out
          have h0 := HI0.out
          simp only [World.iterPos, h0, h1]
          omega
    · have hnx : ∀ ty, (Instr.next (.pointer (some ⟨w7.heap.size, 0, none⟩)) true ty).run Tryd.prog wr = _ := fun ty => Lib.run_next_end_at wr w7.heap.size s pos ty hit hp
      have HF : Hid (xs ++ owed hd = Z) := by
        show _ = _
        have := HE.out
        rwa [next_end s pos hp, shortF_end] at this
      have c5 := Lib.hid (end_any wr w.heap.size b4 b5 v hd xs (by omega) X4.out X5.out XO.out h4 h5 hbs)
      rw [HF.out] at c5
      have HB := Lib.hid XB.out
      clear HE HX X4 X5 XO XB hit
      go_wp2_with fail
      refine c5.out.mono ?_
      rintro e w4 ⟨rfl, v4, B4, B5, ho4, hb4, hi4⟩
      have hcv := run_string_runes ho4 HLT.out
      have g44 := B4.cell
      have HB4 := Lib.hid (HB.out.trans hb4)
      obtain ⟨X, hX⟩ : ∃ X : ByteArray, X = ⟨(Z.flatMap enc).toArray⟩ := ⟨_, rfl⟩
      rw [← hX] at hcv HQ
      clear hX B4 B5 ho4 hb4 hi4 c5
      go_wp2
      go_ret2
      exact HQ.out _ _ ⟨rfl, HB4.out⟩
end Go.Proofs.YtfligggojiboeaaDoor
