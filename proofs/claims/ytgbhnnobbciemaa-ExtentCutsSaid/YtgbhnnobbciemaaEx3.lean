/-
  Layer 14 (extent): lists of extents: such as a call has made ('OExt'), read ('LExt'); the document's Same.
-/
import Derived.Test.YtgbhnnobbciemaaEx1
import Derived.Test.YtgbhnnobbciemaaRowS
import Derived.Laws.BytesString
import Derived.Laws.IdiomStrings
import Derived.Test.YtgbhnnobbciemaaSame
namespace Go.Proofs.Ytgbhnnobbciemaa
set_option maxRecDepth 100000
open Go.RowKit
set_option linter.unusedVariables false

/-- an extent: where it stands, its bytes -/
abbrev ExtV := Nat × PartT
def extCells (x : ExtV) : List Value := [.int .i64 (x.1 : Int), partV x.2]
theorem extCells_len (x : ExtV) : (extCells x).length = 2 := rfl
theorem extCells_one (x : ExtV) : ∀ u ∈ extCells x, u.oneCell' = true := by
  intro u hu
  simp only [extCells, List.mem_cons, List.not_mem_nil, or_false] at hu
  rcases hu with rfl | rfl <;> rfl
/-- what the extents are -/
def extsL (l : List ExtV) : List (Nat × List Int) := l.map fun x => (x.1, x.2.2.2.2)
/-- the slice value '.slice A n c' holds extents, in memory below block B -/
structure LExt (w : World) (B : Nat) (A : Option Addr) (n c : Nat) (l : List ExtV) : Prop where
  row : HoldsS extCells 2 w B A n c l
  each : ∀ x ∈ l, Holds w B x.2.1 x.2.2.1 x.2.2.2.1 x.2.2.2.2
/-- extents that the call has made -/
structure OExt (Z : Bool) (w : World) (base : Nat) (v : Value) (l : List ExtV) : Prop where
  row : OwnS extCells 2 41 w base v l
  each : ∀ x ∈ l, OwnB Z w base (partV x.2) x.2.2.2.2 ∧ Bytes x.2.2.2.2 ∧ x.2.2.2.2.length ≤ 140737488355328
  apart : l.Pairwise fun x y => ∀ i, (partV x.2).ownBlock = some i → (partV y.2).ownBlock ≠ some i

section
variable {Z : Bool} {w w' : World} {B B' base base' : Nat} {v : Value} {l : List ExtV} {A : Option Addr} {n c : Nat} {S : Nat → Prop}
theorem LExt.below (h : LExt w B A n c l) (hb : Below B w w') : LExt w' B A n c l := ⟨h.row.below hb, fun x hx => (h.each x hx).below hb⟩
theorem LExt.mono (h : LExt w B A n c l) (hB : B ≤ B') : LExt w B' A n c l := ⟨h.row.mono hB, fun x hx => (h.each x hx).mono hB⟩
theorem LExt.over (h : LExt w w.heap.size A n c l) (hb : Below w.heap.size w w') : LExt w' w'.heap.size A n c l := (h.below hb).mono hb.size
theorem LExt.drewN (h : LExt w B A n c l) (k : Nat) : LExt (w.drewN k) B A n c l := ⟨h.row.drewN k, fun x hx => (h.each x hx).drewN k⟩
theorem LExt.len (h : LExt w B A n c l) : l.length = n := h.row.len
theorem LExt.at (h : LExt w B A n c l) {i : Nat} (hi : i < n) : ∃ b off x, A = some ⟨b, off, none⟩ ∧ b < B ∧ l[i]? = some x ∧ w.cell? ⟨b, off + i * 2, none⟩ = some (.int .i64 (x.1 : Int)) ∧ w.cell? ⟨b, off + i * 2 + 1, none⟩ = some (partV x.2) ∧ Holds w B x.2.1 x.2.2.1 x.2.2.2.1 x.2.2.2.2 := by
  obtain ⟨b, off, e, hb, hc⟩ := h.row.cells (by omega)
  have hl := h.row.len
  have hx : l[i]? = some l[i] := List.getElem?_eq_getElem (by omega)
  exact ⟨b, off, l[i], e, hb, hx, hc i _ hx 0 _ rfl, by rw [Nat.add_assoc]; exact hc i _ hx 1 _ rfl, h.each _ (List.getElem_mem _)⟩
theorem OExt.nil (Z : Bool) (w : World) (base : Nat) : OExt Z w base (.slice none 0 0) [] := ⟨OwnS.nil _ _ _ _ _, (fun x h => by cases h), List.Pairwise.nil⟩
theorem OExt.below (h : OExt Z w base v l) (hb : Below w.heap.size w w') : OExt Z w' base v l := ⟨h.row.below hb, fun x hx => ⟨(h.each x hx).1.below hb, (h.each x hx).2⟩, h.apart⟩
theorem OExt.mono (h : OExt Z w base v l) (hb : base' ≤ base) : OExt Z w base' v l := ⟨h.row.mono hb, fun x hx => ⟨(h.each x hx).1.mono hb, (h.each x hx).2⟩, h.apart⟩
theorem OExt.lst (h : OExt Z w base v l) : ∃ A n c, v = .slice A n c ∧ LExt w w.heap.size A n c l := by
  obtain ⟨A, n, c, rfl, hh⟩ := h.row.holds (by decide) extCells_len
  exact ⟨A, n, c, rfl, hh, fun x hx => (h.each x hx).1.holds (h.each x hx).2.1 (h.each x hx).2.2⟩
theorem OwnS.block {α : Type} {f : α → List Value} {s : Nat} {e : TypeId} {xs : List α} (h : OwnS f s e w base v xs) {i : Nat} (hi : v.ownBlock = some i) : base ≤ i ∧ ∃ cs, w.heap[i]? = some (.cells cs e (0, 0)) := by
  rcases h.2 with ⟨rfl, _⟩ | ⟨g, cap, cur, rfl, h1, hg, rest⟩
  · cases hi
  · simp only [Value.ownBlock, Option.some.injEq] at hi
    subst hi
    exact ⟨h1, cur, hg⟩
theorem OExt.spare (h : OExt Z w base v l) (a : Spare S w w') (hv : ∀ i, v.ownBlock = some i → ¬ S i) (hp : ∀ x ∈ l, ∀ i, (partV x.2).ownBlock = some i → ¬ S i) : OExt Z w' base v l :=
  ⟨h.row.keep fun i _ hi hcs => a.rest i (Array.getElem?_eq_some_iff.1 hcs).1 (hv i hi), fun x hx => ⟨(h.each x hx).1.spare a (hp x hx), (h.each x hx).2⟩, h.apart⟩
end

theorem extsL_take {l : List ExtV} {k : Nat} {x : ExtV} (h : l[k]? = some x) : (extsL l)[k]? = some (x.1, x.2.2.2.2) := by
  unfold extsL
  rw [List.getElem?_map, h]
  rfl
theorem extsL_len (l : List ExtV) : (extsL l).length = l.length := List.length_map _
theorem ext_take_step {L M : List (Nat × List Int)} {k : Nat} {x y : Nat × List Int} (hx : L[k]? = some x) (hy : M[k]? = some y) (h : L.take k = M.take k) (he : x = y) : L.take (k + 1) = M.take (k + 1) := by
  obtain ⟨h1, h2⟩ := List.getElem?_eq_some_iff.1 hx
  obtain ⟨h3, h4⟩ := List.getElem?_eq_some_iff.1 hy
  rw [List.take_succ_eq_append_getElem h1, List.take_succ_eq_append_getElem h3, h, h2, h4, he]

/-- bytes as a text -/
def strB (xs : List Int) : ByteArray := ⟨(xs.map fun x => UInt8.ofNat x.toNat).toArray⟩
theorem strB_inj {xs ys : List Int} (hx : Bytes xs) (hy : Bytes ys) (h : strB xs = strB ys) : xs = ys := by
  have h1 := congrArg (fun b => b.data.toList) h
  unfold strB at h1
  simp only at h1
  have back : ∀ zs : List Int, Bytes zs → (zs.map fun x => UInt8.ofNat x.toNat).map (fun b => (b.toNat : Int)) = zs := fun zs hz => by
    rw [List.map_map]
    conv => rhs; rw [← List.map_id zs]
    refine List.map_congr_left fun x hxm => ?_
    have := hz x hxm
    show ((UInt8.ofNat x.toNat).toNat : Int) = x
    rw [UInt8.toNat_ofNat']
    omega
  rw [← back xs hx, ← back ys hy, h1]
theorem conv_text {w : World} {B : Nat} {A : Option Addr} {n c : Nat} {xs : List Int} (h : Holds w B A n c xs) : (convert 29 9 (.slice A n c)).run Try.prog w = .ok (.string (strB xs)) w := by
  have hl := h.len
  rcases A with _ | ad
  · have hc := h.bare rfl
    have hf := h.fit
    obtain rfl : n = 0 := by omega
    obtain rfl : xs = [] := List.eq_nil_of_length_eq_zero hl
    rw [run_convert_bytes_string w _ _ 5 none 0 c Try.underlying29 Try.underlying5 Try.underlying9]
    rfl
  · rw [run_convert_bytes_string w _ _ 5 (some ad) n c Try.underlying29 Try.underlying5 Try.underlying9]
    have hlc : (loadCells ad n).run Try.prog w = .ok (xs.map (Value.int .u8)).toArray w := by
      have := run_loadCells_list (P := Try.prog) w ad (xs.map (Value.int .u8)) (fun j v hj => by
        have hjl : j < xs.length := by
          have := (List.getElem?_eq_some_iff.1 hj).1
          simpa using this
        obtain ⟨b, off, he, _, hcl⟩ := h.cells (by omega)
        obtain rfl := Option.some.inj he
        have e : (⟨b, off, none⟩ : Addr).add j = ⟨b, off + j, none⟩ := by
          by_cases hj0 : j = 0
          · subst hj0; simp [Addr.add]
          · simp [Addr.add, hj0]
        rw [e, hcl j (by omega), ← hj]
        simp [hjl])
      rwa [List.length_map, hl] at this
    rw [run_bytesToString w ad n c xs hlc]
    congr 2
    have gen : ∀ (ys : List Int) (r : ByteArray), ys.foldl (fun r n => r.push (UInt8.ofNat n.toNat)) r = ⟨r.data ++ (ys.map fun x => UInt8.ofNat x.toNat).toArray⟩ := by
      intro ys
      induction ys with
      | nil => intro r; simp
      | cons y ys ih =>
        intro r
        rw [List.foldl_cons, ih]
        simp [ByteArray.push]
    rw [gen]
    unfold strB
    congr 1
    have he0 : ByteArray.empty.data = #[] := rfl
    rw [he0]
    simp

set_option maxHeartbeats 4000000 in
theorem RExSame_any (w : World) (B B' : Nat) (A A' : Option Addr) (n c n' c' : Nat) (l m : List ExtV) (h : LExt w B A n c l) (h' : LExt w B' A' n' c' m) (hn : n ≤ 70368744177664) (hn' : n' ≤ 70368744177664) (hs : ∀ x ∈ l, x.1 ≤ 70368744177664) (hs' : ∀ x ∈ m, x.1 ≤ 70368744177664) :
    Calls Try.prog 21 #[.slice A n c, .slice A' n' c'] w fun e w' => e = .returned (.bool (decide (extsL l = extsL m))) ∧ ∃ k, w.drewN k = w' := by
  have hl : (extsL l).length = n := by rw [extsL_len]; exact h.len
  have hl' : (extsL m).length = n' := by rw [extsL_len]; exact h'.len
  by_cases hne : n = n'
  · subst hne
    have HL := Lib.hid hl
    have HL' := Lib.hid hl'
    have HH := Lib.hid h
    have HH' := Lib.hid h'
    have HS := Lib.hid hs
    have HS' := Lib.hid hs'
    clear hl hl' h h' hn' hs hs'
    go_enter Try.func21, Try.ntmps21
    go_wp2_with fail
    go_loopw [5] (fun i wr => ∃ k : Nat, k ≤ n ∧ i = .int .i64 k ∧ Hid ((extsL l).take k = (extsL m).take k) ∧ ∃ j, wr = w.drewN j) (fun i _ => n - (intOf i).toNat)
    case atStart => exact ⟨0, Nat.zero_le _, rfl, by simp [Hid], 0, rfl⟩
    case round =>
      obtain ⟨k, hk, rfl, HT, j, hwj⟩ := hrel
      have WJ := Lib.hid hwj
      by_cases hlt : k < n
      · obtain ⟨b, off, x, rfl, hbb, hx, ca, cb, hhx⟩ := (HH.out.drewN j).at hlt
        obtain ⟨b', off', y, rfl, hbb', hy, ca', cb', hhy⟩ := (HH'.out.drewN j).at hlt
        rw [← hwj] at ca cb ca' cb' hhx hhy
        clear hwj
        have hxs := HS.out x (List.mem_of_getElem? hx)
        have hys := HS'.out y (List.mem_of_getElem? hy)
        have hx' := Lib.hid (extsL_take hx)
        have hy' := Lib.hid (extsL_take hy)
        obtain ⟨⟨xa, pA, pn, pc, px⟩, hxe⟩ : ∃ r, r = x := ⟨_, rfl⟩
        obtain ⟨⟨ya, qA, qn, qc, qx⟩, hye⟩ : ∃ r, r = y := ⟨_, rfl⟩
        rw [← hxe] at ca cb hhx hx' hxs
        rw [← hye] at ca' cb' hhy hy' hys
        unfold partV at cb cb'
        dsimp only at ca cb hhx hx' hxs ca' cb' hhy hy' hys
        clear hx hy hxe hye
        by_cases hat : xa = ya
        · subst hat
          have t1 : ((xa : Int) != (xa : Int)) = false := by simp
          have cv1 : ∀ d : Nat, (convert 29 9 (.slice pA pn pc)).run Try.prog (wr.drewN d) = .ok (.string (strB px)) (wr.drewN d) := fun d => conv_text (hhx.drewN d)
          have cv2 : ∀ d : Nat, (convert 29 9 (.slice qA qn qc)).run Try.prog (wr.drewN d) = .ok (.string (strB qx)) (wr.drewN d) := fun d => conv_text (hhy.drewN d)
          have hinj : strB px = strB qx → px = qx := strB_inj hhx.byte hhy.byte
          obtain ⟨s1, hs1⟩ : ∃ s, s = strB px := ⟨_, rfl⟩
          obtain ⟨s2, hs2⟩ : ∃ s, s = strB qx := ⟨_, rfl⟩
          simp only [← hs1] at cv1 hinj
          simp only [← hs2] at cv2 hinj
          by_cases hpq : px = qx
          · subst hpq
            obtain rfl : s1 = s2 := hs1.trans hs2.symm
            have HN : Hid ((extsL l).take (k + 1) = (extsL m).take (k + 1)) := ext_take_step hx'.out hy'.out HT.out rfl
            clear hs1 hs2 hinj hhx hhy
            go_wp2_with fail
            go_quiet (fail)
            go_wp2_with fail
            go_roundw
            case rel => exact ⟨k + 1, by omega, by go_num, HN, _, by rw [WJ.out, World.drewN_drewN]⟩
            case measure => simp [intOf]; omega
          · have hne2 : s1 ≠ s2 := fun h => hpq (hinj h)
            have hS : Hid (decide (extsL l = extsL m) = false) := by
              show _ = _
              rw [decide_eq_false_iff_not]
              intro h
              have h1 := hx'.out
              rw [h, hy'.out] at h1
              injection h1 with h1
              exact hpq (congrArg Prod.snd h1).symm
            have t3 : (s1.toList == s2.toList) = false := by
              rw [Lib.toList_data, Lib.toList_data, beq_eq_false_iff_ne]
              intro h
              apply hne2
              cases s1
              cases s2
              congr 1
              exact Array.toList_inj.1 h
            clear hs1 hs2 hinj hhx hhy hpq
            go_wp2_with fail
            go_quiet (fail)
            go_wp2_with fail
            go_ret
            exact ⟨ret_bool hS.out.symm, _, by rw [WJ.out, World.drewN_drewN]⟩
        · have t1 : ((xa : Int) != (ya : Int)) = true := by simp; omega
          have hS : Hid (decide (extsL l = extsL m) = false) := by
            show _ = _
            rw [decide_eq_false_iff_not]
            intro h
            have h1 := hx'.out
            rw [h, hy'.out] at h1
            injection h1 with h1
            exact hat (congrArg Prod.fst h1).symm
          clear hat hhx hhy
          go_wp2_with fail
          go_quiet (fail)
          go_wp2_with fail
          go_ret
          exact ⟨ret_bool hS.out.symm, _, by rw [WJ.out, World.drewN_drewN]⟩
      · have hS : Hid (decide (extsL l = extsL m) = true) := by
          show _ = _
          rw [decide_eq_true_iff]
          have h1 := HT.out
          rwa [List.take_of_length_le (by rw [HL.out]; omega), List.take_of_length_le (by rw [HL'.out]; omega)] at h1
        clear HT
        go_wp2_with fail
        go_ret
        exact ⟨ret_bool hS.out.symm, j, rfl⟩
  · have e1 : decide (extsL l = extsL m) = false := by
      rw [decide_eq_false_iff_not]
      intro he
      rw [he] at hl
      omega
    have hb : ((n : Int) == (n' : Int)) = false := by simp; omega
    have hb' : ((n : Int) != (n' : Int)) = true := by simp; omega
    rw [e1]
    clear e1 hl hl' h h' hs hs'
    go_enter Try.func21, Try.ntmps21
    go_wp2
    go_ret
    exact ⟨rfl, 0, rfl⟩
end Go.Proofs.Ytgbhnnobbciemaa
