/-
  Contracts: the library's slices.Grow of nil and slices.Concat of however many parts ('Parts'); the program's layer 4 (mac): laid, sumOf, short, cut.
-/
import Derived.Test.YtomdgiikjnghcaaDoorMacA
namespace Go.Proofs.YtomdgiikjnghcaaDoor
open Go.RowKit

/-- what is put together of the first k parts -/
def catL (X : Nat → List Int) : Nat → List Int
  | 0 => []
  | k + 1 => catL X k ++ X k
def sumN (n : Nat → Nat) : Nat → Nat
  | 0 => 0
  | k + 1 => sumN n k + n k
theorem sumN_le (n : Nat → Nat) {k m : Nat} (h : k ≤ m) : sumN n k ≤ sumN n m := by
  induction m with
  | zero => obtain rfl : k = 0 := by omega
            exact Nat.le_refl _
  | succ m ih =>
    by_cases he : k = m + 1
    · subst he; exact Nat.le_refl _
    · have := ih (by omega)
      simp only [sumN]
      omega
theorem catL_len {X : Nat → List Int} {n : Nat → Nat} {m : Nat} (h : ∀ i, i < m → (X i).length = n i) {k : Nat} (hk : k ≤ m) : (catL X k).length = sumN n k := by
  induction k with
  | zero => rfl
  | succ k ih => simp only [catL, sumN, List.length_append, ih (by omega), h k (by omega)]
theorem catL_bytes {X : Nat → List Int} {m : Nat} (h : ∀ i, i < m → Bytes (X i)) {k : Nat} (hk : k ≤ m) : Bytes (catL X k) := by
  induction k with
  | zero => exact Bytes.nil
  | succ k ih => exact (ih (by omega)).append (h k (by omega))

/-- block gs is a row of m slices, each of which reads as bytes -/
structure Parts (w : World) (gs m : Nat) (A : Nat → Option Addr) (n c : Nat → Nat) (X : Nat → List Int) : Prop where
  lt : gs < w.heap.size
  cell : ∀ i, i < m → w.cell? ⟨gs, i, none⟩ = some (.slice (A i) (n i) (c i))
  holds : ∀ i, i < m → Holds w w.heap.size (A i) (n i) (c i) (X i)
theorem Parts.over {w w' : World} {gs m : Nat} {A : Nat → Option Addr} {n c : Nat → Nat} {X : Nat → List Int} (h : Parts w gs m A n c X) (hb : Below w.heap.size w w') : Parts w' gs m A n c X :=
  ⟨Nat.lt_of_lt_of_le h.lt hb.size, fun i hi => by rw [← h.cell i hi]; exact hb.cell (p := ⟨gs, i, none⟩) h.lt, fun i hi => (h.holds i hi).over hb⟩
theorem Parts.drewN {w : World} {gs m : Nat} {A : Nat → Option Addr} {n c : Nat → Nat} {X : Nat → List Int} (h : Parts w gs m A n c X) (d : Nat) : Parts (w.drewN d) gs m A n c X := h.over (drewed w d)

set_option maxHeartbeats 1000000 in
theorem Grow0_any (w : World) : Calls Tryd.prog 38 #[.slice none 0 0, .int .i64 0] w fun e w' => e = .returned (.slice none 0 0) ∧ w = w' := by
  go_enter Tryd.func38, Tryd.ntmps38
  go_wp2_with fail
  go_ret
  exact ⟨rfl, rfl⟩

/-- append(out, src...), out the call's own with noughts behind it, src whatever reads as bytes -/
theorem wpList_append_bytesZ {w : World} {ops : Array Oper} {rest : List Oper} {o : Oper} {a : Act} {Q : Exit → Act → World → Prop} (hgd : o.guard = none) (s x : Operand)
    (ho : o.op = .call { callee := .builtin .append, args := #[s, x], argTypes := #[22, 22] })
    (base : Nat) (v : Value) (xs : List Int) (hs : a.eval s = v) (hown : OwnZ .u8 5 w base v xs) (B : Nat) (A : Option Addr) (m c : Nat) (ys : List Int) (hx : a.eval x = .slice A m c)
    (hr : Holds w B A m c ys) (hlen : xs.length + ys.length ≤ 140737488355328) (hbase : base ≤ w.heap.size)
    (h : ∀ v' w', Hid (OwnZ .u8 5 w' base v' (xs ++ ys)) → Below base w w' → wpList Tryd.prog ops Q rest (a.put o.dst v') w') :
    wpList Tryd.prog ops Q (o :: rest) a w := by
  obtain ⟨i0, hi0, hz0, hz1, hz2⟩ := info_parts info_u8
  have hl := hr.len
  have hOK := hown.own
  rcases A with _ | ad
  · have hc := hr.bare rfl
    have hf := hr.fit
    have hm : m = 0 := by omega
    subst hm
    subst hc
    have : ys = [] := List.eq_nil_of_length_eq_zero hl
    subst this
    refine wpList_append_own_none hgd s x 22 ho base 5 i0 1 Tryd.underlying22 hi0 v xs.length _ hs hOK hx ?_
    exact h v w (by rw [List.append_nil]; exact hown) (Below.refl _ _)
  · have hnews : ∀ j y, (ys.map (Value.int .u8))[j]? = some y → w.cell? (ad.add j) = some y := by
      intro j u hj
      have hjl : j < ys.length := by
        by_cases hj' : j < ys.length
        · exact hj'
        · rw [List.getElem?_eq_none (by simp; omega)] at hj
          cases hj
      obtain ⟨b, off, he, _, hcl⟩ := hr.cells (by omega)
      injection he with he
      subst he
      have e : (⟨b, off, none⟩ : Addr).add j = ⟨b, off + j, none⟩ := by
        by_cases hj0 : j = 0
        · subst hj0; simp [Addr.add]
        · simp [Addr.add, hj0]
      rw [e, hcl j (by omega), ← hj]
      simp [hjl]
    have h1 : ∀ y ∈ ys.map (Value.int .u8), y.oneCell' = true := by intro v hv; obtain ⟨x, _, rfl⟩ := List.mem_map.1 hv; rfl
    have hmax : maxLen = 9223372036854775807 := rfl
    have key : ∀ ty, ∃ v' w', (Builtin.append_ #[22, 22] ty #[v, .slice (some ad) m c]).run Tryd.prog w = .ok v' w' ∧ OwnZ .u8 5 w' base v' (xs ++ ys) ∧ w.grownBy w' v.ownBlock := by
      intro ty
      rcases hown with ⟨rfl, rfl⟩ | ⟨g, z, rfl, hb, hz, hg⟩
      · by_cases hm0 : m = 0
        · subst hm0
          have : ys = [] := List.eq_nil_of_length_eq_zero hl
          subst this
          obtain ⟨v', w', hrun, _, hgr, hnil⟩ := run_append_own (P := Tryd.prog) w base 22 ty 5 i0 (.int .u8 0) 1 1 Tryd.underlying22 hi0 hz0 hz1 hz2 rfl (by omega) (.slice none 0 0) 0 [] (World.ownsRow_nil w base _ 1) ad 0 c [] rfl (fun j u hj => by cases hj) (fun u hu => by cases hu) (by omega) (by omega) hbase
          obtain rfl := hnil.2 ⟨rfl, rfl⟩
          exact ⟨_, _, hrun, OwnZ.nil _ _ _ _, hgr⟩
        · have hrun := run_append_nil (P := Tryd.prog) w 22 ty 5 i0 (.int .u8 0) Tryd.underlying22 hi0 hz0 ad m c (ys.map (Value.int .u8)) (by simp [hl, hz1]) hnews (by omega) (by omega) (by rw [hz2]; simp at hlen; omega)
          exact ⟨_, _, hrun, by simpa using grew_new .u8 5 w base ys 0 m hl hbase (by omega), ⟨rfl, rfl, rfl, by simp, fun j hj _ => Below.heap_alloc w.drew _ j hj⟩⟩
      · by_cases hroom : xs.length + m ≤ xs.length + z
        · have hrun := run_append_room (P := Tryd.prog) w 22 ty 5 i0 Tryd.underlying22 hi0 g xs.length (xs.length + z) _ hg ad m c (ys.map (Value.int .u8)) (by simp [hl, hz1]) hnews h1 hroom (by simp [hz1]; omega)
          refine ⟨_, _, hrun, .inr ⟨g, z - m, by simp [hl]; omega, hb, by simp; omega, ?_⟩, ⟨rfl, rfl, rfl, by simp, fun j _ hj => setRow_other w g j _ (fun e => hj (by simp [Value.ownBlock, e]))⟩⟩
          rw [setRow_heap w g _ _ 5 _ hg]
          congr 2
          have e1 : ((xs ++ List.replicate z 0).map (Value.int .u8)).take (xs.length * i0.size) = xs.map (Value.int .u8) := by
            rw [hz1, Nat.mul_one, List.map_append, List.take_left' (by simp)]
          have e2 : ((xs ++ List.replicate z 0).map (Value.int .u8)).drop (xs.length * i0.size + (ys.map (Value.int .u8)).length) = (List.replicate (z - m) 0).map (Value.int .u8) := by
            rw [hz1, Nat.mul_one, List.length_map, hl, ← List.drop_drop, List.map_append, List.drop_left' (by simp), ← List.map_drop, List.drop_replicate]
          rw [e1, e2]
          simp
        · have hcells : ∀ j y, (xs.map (Value.int .u8))[j]? = some y → w.cell? ((⟨g, 0, none⟩ : Addr).add j) = some y := hOK.cells (g := g) rfl
          have hrun := run_append_grow (P := Tryd.prog) w 22 ty 5 i0 (.int .u8 0) Tryd.underlying22 hi0 hz0 ⟨g, 0, none⟩ xs.length (xs.length + z) (xs.map (Value.int .u8)) (by simp [hz1]) hcells ad m c (ys.map (Value.int .u8)) (by simp [hl, hz1]) hnews (by omega) (by omega) (growslice_fits (by omega) (by rw [hz2]; omega))
          refine ⟨_, _, hrun, ?_, ⟨rfl, rfl, rfl, by simp, fun j hj _ => Below.heap_alloc w.drew _ j hj⟩⟩
          have := grew_new .u8 5 w base (xs ++ ys) (xs.length + z) (xs.length + m) (by simp [hl]) hbase (by omega)
          simpa using this
    refine wpList_plain hgd fun K hK' => ?_
    obtain ⟨v', w', hrun, h2, h3⟩ := key o.type
    unfold Oper.wp execOp
    simp only [ho, resolve, invoke, builtin, Sem.run_bind, Sem.run_pure, Result.andThen_ok, List.map_toArray, List.map_cons, List.map_nil, hs, hx, hrun]
    exact hK' _ _ (h v' w' h2 ((Below.refl _ _).grown h3 hbase (fun k hk => (World.ownsRow.lt hOK k hk).1)))

set_option maxHeartbeats 1000000 in
theorem GrowZ_any (w : World) (n : Nat) (h0 : 0 < n) (h1 : n ≤ 281474976710656) :
    Calls Tryd.prog 38 #[.slice none 0 0, .int .i64 n] w fun e w' => ∃ v, e = .returned v ∧ OwnZ .u8 5 w' w.heap.size v [] ∧ Below w.heap.size w w' := by
  obtain ⟨i0, hi, hz0, hz1, hz2⟩ := info_parts info_u8
  have hrun := fun ty => Lib.run_append_nil_zeros (P := Tryd.prog) w 22 3 ty 5 i0 (.int .u8 0) .i64 .i64 Tryd.underlying22 Tryd.underlying3 hi hz0 n h0 (by omega) (by omega) (by rw [hz2]; omega)
  have hge := grownCap_ge w n 0 5
  have hle := grownCap_le_maxLen w n 0 5 (by rw [show maxLen = 9223372036854775807 from rfl]; omega)
  obtain ⟨c, hc⟩ : ∃ c, c = grownCap w n 0 5 := ⟨_, rfl⟩
  rw [← hc] at hrun hge hle
  have hown : OwnZ .u8 5 (w.drew.alloc (.cells (Builtin.zeroCells (Value.int .u8 0).cells n ++ Builtin.zeroCells (Value.int .u8 0).cells (c - n)) 5)) w.heap.size (.slice (some ⟨w.heap.size, 0, none⟩) 0 c) [] := by
    refine .inr ⟨w.heap.size, c, by simp, Nat.le_refl _, by simpa using hle, ?_⟩
    rw [zeroCells_int, zeroCells_int, List.append_toArray, List.replicate_append_replicate, show n + (c - n) = c by omega, List.nil_append, List.map_replicate]
    exact heap_alloc_new w.drew _
  have hbel : Below w.heap.size w (w.drew.alloc (.cells (Builtin.zeroCells (Value.int .u8 0).cells n ++ Builtin.zeroCells (Value.int .u8 0).cells (c - n)) 5)) := ((Below.refl _ w).drew).alloc (Nat.le_refl _) _
  obtain ⟨w1, hw1⟩ : ∃ w1, w1 = (w.drew.alloc (.cells (Builtin.zeroCells (Value.int .u8 0).cells n ++ Builtin.zeroCells (Value.int .u8 0).cells (c - n)) 5)) := ⟨_, rfl⟩
  rw [← hw1] at hown hbel hrun
  have HR := Lib.hid hrun
  have HO := Lib.hid hown
  have hcn : (n : Int) ≤ (c : Int) := by omega
  have hc63 : c ≤ 9223372036854775807 := hle
  clear hrun hown hc hw1 hi hz0 hz1 hz2 hge hle
  go_enter Tryd.func38, Tryd.ntmps38
  go_wp2_with (first
    | (at_builtin; refine Lib.wpList_append_run _ rfl (.tmp 20) (.tmp 21) 22 3 rfl (.slice none 0 0) (.int .i64 n) rfl rfl _ w1 (HR.out _) ?_)
    | fail)
  go_ret
  exact ⟨_, rfl, HO.out, hbel⟩

theorem GrowN_any (w : World) (n : Nat) (h1 : n ≤ 281474976710656) :
    Calls Tryd.prog 38 #[.slice none 0 0, .int .i64 n] w fun e w' => ∃ v, e = .returned v ∧ OwnZ .u8 5 w' w.heap.size v [] ∧ Below w.heap.size w w' := by
  by_cases h0 : n = 0
  · subst h0
    refine (Grow0_any w).mono ?_
    rintro e w' ⟨rfl, rfl⟩
    exact ⟨_, rfl, OwnZ.nil _ _ _ _, Below.refl _ _⟩
  · exact GrowZ_any w n (by omega) h1

set_option maxHeartbeats 2000000 in
theorem ConcatZ_any (w : World) (gs m : Nat) (A : Nat → Option Addr) (n c : Nat → Nat) (X : Nat → List Int) (hP : Parts w gs m A n c X) (hm : m ≤ 1000) (hb : sumN n m ≤ 140737488355328) :
    Calls Tryd.prog 31 #[.slice (some ⟨gs, 0, none⟩) m m] w fun e w' => ∃ v, e = .returned v ∧ OwnZ .u8 5 w' w.heap.size v (catL X m) ∧ Below w.heap.size w w' := by
  have cg := fun w => Lib.hid (GrowN_any w (sumN n m) (by omega))
  have HB : Hid (∀ k, k ≤ m → sumN n k ≤ 140737488355328) := fun k hk => by have := sumN_le n hk; omega
  have HP := Lib.hid hP
  have HC : Hid (∀ k, k ≤ m → (catL X k).length = sumN n k) := fun k hk => catL_len (fun i hi => (hP.holds i hi).len) hk
  have hgs := hP.lt
  have hcell := hP.cell
  clear hP hb
  go_enter Tryd.func31, Tryd.ntmps31
  go_wp2_with fail
  go_loop [3, 11] (fun sz i => ∃ k : Nat, k ≤ m ∧ i = .int .i64 k ∧ sz = .int .i64 (sumN n k : Nat)) (fun _ i => m - (intOf i).toNat)
  case atStart => exact ⟨0, by omega, rfl, rfl⟩
  case round =>
    obtain ⟨k, hk, rfl, rfl⟩ := hrel
    by_cases hlt : k < m
    · have q0 := hcell k hlt
      have hs1 := HB.out (k + 1) (by omega)
      have hs0 : sumN n k ≤ 140737488355328 := HB.out k hk
      have hnk : n k ≤ 140737488355328 := by simp only [sumN] at hs1; omega
      obtain ⟨s0, es0⟩ : ∃ s0, s0 = sumN n k := ⟨_, rfl⟩
      obtain ⟨nk, enk⟩ : ∃ nk, nk = n k := ⟨_, rfl⟩
      have es1 : sumN n (k + 1) = s0 + nk := by rw [es0, enk]; rfl
      rw [← es0] at hs0 ⊢
      rw [← enk] at hnk q0
      have ES := Lib.hid es1
      clear es0 enk es1 hs1 hcell
      go_wp2_with fail
      go_round
      case rel => exact ⟨k + 1, by omega, by go_num, by rw [ES.out]; go_num⟩
      case measure => simp [intOf]; omega
    · obtain rfl : k = m := by omega
      clear hcell
      go_wp2_with fail
      refine (cg _).out.mono ?_
      rintro e w1 ⟨v1, rfl, ho1, hbel1⟩
      have HO1 := Lib.hid ho1
      clear ho1
      go_wp2_with fail
      have hbs1 := hbel1.size
      go_loopw [6, 27] (fun v i wr => ∃ j : Nat, j ≤ k ∧ i = .int .i64 j ∧ Hid (OwnZ .u8 5 wr w.heap.size v (catL X j)) ∧ Below w.heap.size w wr) (fun _ i _ => k - (intOf i).toNat)
      case atStart => exact ⟨0, by omega, rfl, HO1, hbel1⟩
      case round =>
        obtain ⟨j, hj, rfl, hO, hbl⟩ := hrel
        by_cases hlt2 : j < k
        · have q0 : wr.cell? ⟨gs, j, none⟩ = some (.slice (A j) (n j) (c j)) := by rw [← HP.out.cell j hlt2]; exact hbl.cell (p := ⟨gs, j, none⟩) hgs
          have hH := (HP.out.holds j hlt2).below hbl
          have hlen : (catL X j).length + (X j).length ≤ 140737488355328 := by
            have h1 := HB.out (j + 1) (by omega)
            rw [HC.out j hj, hH.len]
            simp only [sumN] at h1
            exact h1
          have hsz := Lib.hid hbl.size
          have HE : Hid (catL X (j + 1) = catL X j ++ X j) := rfl
          obtain ⟨Aj, eA⟩ : ∃ Aj, Aj = A j := ⟨_, rfl⟩
          obtain ⟨nj, en⟩ : ∃ nj, nj = n j := ⟨_, rfl⟩
          obtain ⟨cj, ec⟩ : ∃ cj, cj = c j := ⟨_, rfl⟩
          rw [← eA, ← en, ← ec] at q0 hH
          have HH := Lib.hid hH
          have HLn := Lib.hid hlen
          clear hH hlen eA en ec
          go_wp2_with (first
            | (at_builtin; refine wpList_append_bytesZ rfl (.tmp 31) (.tmp 32) rfl w.heap.size _ _ rfl hO.out w.heap.size Aj nj cj (X j) rfl HH.out HLn.out hsz.out ?_; intro v2 w2 ho2 hb2)
            | fail)
          go_roundw
          case rel => exact ⟨j + 1, by omega, by go_num, by rw [HE.out]; exact ho2, hbl.trans hb2⟩
          case measure => simp [intOf]; omega
        · obtain rfl : j = k := by omega
          go_wp2_with fail
          go_ret
          exact ⟨_, rfl, hO.out, hbl⟩


theorem ConcatN_any (w : World) (gs m : Nat) (A : Nat → Option Addr) (n c : Nat → Nat) (X : Nat → List Int) (hP : Parts w gs m A n c X) (hm : m ≤ 1000) (hb : sumN n m ≤ 140737488355328) :
    Calls Tryd.prog 31 #[.slice (some ⟨gs, 0, none⟩) m m] w fun e w' => ∃ v, e = .returned v ∧ Own w' w.heap.size v (catL X m) ∧ Below w.heap.size w w' :=
  (ConcatZ_any w gs m A n c X hP hm hb).mono fun _ _ ⟨v, h1, h2, h3⟩ => ⟨v, h1, h2.own, h3⟩

theorem size_k : (Tryd.prog.info? 44).map (·.size) = some 64 := by kernel_rfl
theorem zero_k : (Tryd.prog.info? 44).map (fun i => (i.zero, i.size)) = some (some (.agg ((List.replicate 64 (0 : Int)).map (Value.int .u8)).toArray), 64) := by kernel_rfl
theorem built_k : Tryd.prog.built 44 [] = some ((List.replicate 64 (0 : Int)).map (Value.int .u8)).toArray := by kernel_rfl
theorem zero_m : (Tryd.prog.info? 24).map (fun i => (i.zero, i.size)) = some (some (.agg ((List.replicate 32 (0 : Int)).map (Value.int .u8)).toArray), 32) := by kernel_rfl
theorem size_g : (Tryd.prog.info? 26).map (·.size) = some 16 := by kernel_rfl
theorem zero_g : (Tryd.prog.info? 26).map (fun i => (i.zero, i.size)) = some (some (.agg ((List.replicate 16 (0 : Int)).map (Value.int .u8)).toArray), 16) := by kernel_rfl
theorem built_g : Tryd.prog.built 26 [] = some ((List.replicate 16 (0 : Int)).map (Value.int .u8)).toArray := by kernel_rfl

set_option maxRecDepth 100000 in
set_option maxHeartbeats 2000000 in
theorem laid_any (w : World) (A : Option Addr) (n c : Nat) (xs : List Int) (hn : n ≤ 140737488355200) (h : Holds w w.heap.size A n c xs) (hK : KTab w) :
    Calls Tryd.prog 33 #[.slice A n c] w fun e w' => e = .returned (.agg ((keyL xs).map (Value.int .u8)).toArray) ∧ Below w.heap.size w w' := by
  have HL := Lib.hid h.len
  obtain ⟨Z, hZ⟩ : ∃ Z : List Int, Z = List.replicate 64 0 := ⟨_, rfl⟩
  have HZ := len0 64
  have hz1 := zero_k
  have hz2 := built_k
  rw [← hZ] at HZ hz1 hz2
  have HZ1 := Lib.hid hz1
  have HZ2 := Lib.hid hz2
  have HZe := Lib.hid hZ
  obtain ⟨X, hX⟩ : ∃ Z : List Int, Z = List.replicate 32 0 := ⟨_, rfl⟩
  have HX := len0 32
  have hx1 := zero_m
  rw [← hX] at HX hx1
  have HX1 := Lib.hid hx1
  have HP := Lib.hid (keyL_len xs)
  clear hz1 hz2 hZ hx1 hX
  by_cases hlt : 64 < n
  · have cs := fun w h hK => Lib.hid (Sum_any w A n c xs hn h hK)
    have hk : keyL xs = sumOf xs ++ List.replicate 32 0 := by
      unfold keyL padK
      rw [if_pos (by rw [HL.out]; exact hlt), sumOf_len]
    have HSl : Hid ((sumOf xs).length = 32) := sumOf_len xs
    have hsb := sumOf_bytes xs
    obtain ⟨s, hs⟩ : ∃ s, s = sumOf xs := ⟨_, rfl⟩
    rw [← hs] at cs hk HSl hsb
    obtain ⟨p, hp⟩ : ∃ p, p = keyL xs := ⟨_, rfl⟩
    rw [← hp] at hk HP ⊢
    have HKe : Hid (s ++ Z.drop 32 = p) := by
      show _ = _
      rw [hk, HZe.out, List.drop_replicate]
    clear hs hp hk
    go_enter Tryd.func33, Tryd.ntmps33
    go_wp2_with (first
      | ((with_reducible show wpList _ _ _ (⟨some 2, _, _, _, _, _⟩ :: _) _ _); refine wpList_alloc_arr rfl _ rfl .u8 Z 64 HZ1 ?_; intro g2 w2 e2 s2 A2 b2)
      | fail)
    have h2 : Holds w2 w2.heap.size A n c xs := h.over b2.out
    refine (cs _ h2 (hK.below b2.out)).out.mono ?_
    rintro e w3 ⟨rfl, b3⟩
    have A23 : Hid (Arr w3 g2 .u8 44 Z) := A2.out.over b3
    have B3 : Hid (Below w.heap.size w w3) := step b2.out b3
    have HF : Hid (∀ w', Below w3.heap.size w3 w' → w.heap.size ≤ w3.heap.size) := fun _ _ => B3.out.size
    clear h2 b3 b2 A2 s2
    go_wp2_with (first
      | ((with_reducible show wpList _ _ _ (⟨some 3, _, _, _, _, _⟩ :: _) _ _); refine wpList_alloc_arr rfl _ rfl .u8 X 32 HX1 ?_; intro g3 w4 e4 s4 A4 b4)
      | ((with_reducible show wpList _ _ _ (⟨none, .store _ (.tmp 3) _, _, _, _, _⟩ :: _) _ _); refine wpList_store_arr rfl _ (.tmp 3) (.tmp 9) rfl g3 rfl .u8 _ _ s rfl A4 32 size_o HX HSl ?_; intro w5 A5 o5 s5)
      | (refine wpList_build_zero rfl _ rfl .u8 Z HZ2 ?_)
      | ((with_reducible show wpList _ _ _ (⟨some 4, _, _, _, _, _⟩ :: _) _ _); refine wpList_alloc_arr rfl _ rfl .u8 Z 64 HZ1 ?_; intro g4 w6 e6 s6 A6 b6)
      | ((with_reducible show wpList _ _ _ (⟨none, .store _ (.tmp 4) _, _, _, _, _⟩ :: _) _ _); refine wpList_store_arr rfl _ (.tmp 4) (.tmp 11) rfl g4 rfl .u8 _ _ Z rfl A6 64 size_k HZ HZ ?_; intro w7 A7 o7 s7; have H7 := Lib.hid (((A5.out.holds HSl.out hsb (by omega)).below b6.out).below (o7.out.below e6)))
      | ((with_reducible show wpList _ _ _ (⟨some 14, _, _, _, _, _⟩ :: _) _ _); refine wpList_copy_into rfl (.tmp 12) (.tmp 13) rfl g4 _ 64 64 32 32 _ rfl rfl Z s _ A7 H7.out (by omega) (by rw [HZ.out]; omega) ?_; intro w8 A8 b8; rw [HKe.out] at A8; have A28 : Hid (Arr w8 g2 .u8 44 Z) := (((((A23.out.over b4.out).only o5.out (by have := A23.out.lt; omega)).over b6.out).only o7.out (by have := A23.out.lt; omega)).below b8.out (by have := A23.out.lt; omega)))
      | ((with_reducible show wpList _ _ _ (⟨some 15, _, _, _, _, _⟩ :: _) _ _); refine wpList_load_arr rfl _ (.tmp 4) rfl g4 rfl .u8 _ p A8 64 _ Tryd.underlying44 size_k HP ?_)
      | ((with_reducible show wpList _ _ _ (⟨none, .store _ (.tmp 2) _, _, _, _, _⟩ :: _) _ _); refine wpList_store_arr rfl _ (.tmp 2) (.tmp 15) rfl g2 rfl .u8 _ _ p rfl A28 64 size_k HZ HP ?_; intro w9 A9 o9 s9)
      | fail)
    have hs3 := B3.out.size
    have B9 : Below w.heap.size w w9 := (((((B3.out.trans (b4.out.mono hs3)).trans (o5.out.below (by omega))).trans (b6.out.mono (by omega))).trans (o7.out.below (by omega))).trans (b8.out.mono (by omega))).trans (o9.out.below e2)
    refine bodyPost_ret (v := .agg (p.map (Value.int .u8)).toArray) ?_ rfl ⟨rfl, B9⟩
    exact results_cell_row rfl _ _ g2 _ _ (0, 0) _ rfl A9.out Tryd.underlying44 rfl (by rw [size_k]; have := HP.out; simp [this])
  · have hk : keyL xs = xs ++ List.replicate (64 - n) 0 := by
      unfold keyL padK
      rw [if_neg (by rw [HL.out]; exact hlt), HL.out]
    obtain ⟨p, hp⟩ : ∃ p, p = keyL xs := ⟨_, rfl⟩
    rw [← hp] at hk HP ⊢
    have HKe : Hid (xs ++ Z.drop n = p) := by
      show _ = _
      rw [hk, HZe.out, List.drop_replicate]
    have hle : (n : Int) ≤ 64 := by omega
    clear hp hk
    go_enter Tryd.func33, Tryd.ntmps33
    go_wp2_with (first
      | ((with_reducible show wpList _ _ _ (⟨some 2, _, _, _, _, _⟩ :: _) _ _); refine wpList_alloc_arr rfl _ rfl .u8 Z 64 HZ1 ?_; intro g2 w2 e2 s2 A2 b2)
      | (refine wpList_build_zero rfl _ rfl .u8 Z HZ2 ?_)
      | ((with_reducible show wpList _ _ _ (⟨some 4, _, _, _, _, _⟩ :: _) _ _); refine wpList_alloc_arr rfl _ rfl .u8 Z 64 HZ1 ?_; intro g4 w6 e6 s6 A6 b6)
      | ((with_reducible show wpList _ _ _ (⟨none, .store _ (.tmp 4) _, _, _, _, _⟩ :: _) _ _); refine wpList_store_arr rfl _ (.tmp 4) (.tmp 11) rfl g4 rfl .u8 _ _ Z rfl A6 64 size_k HZ HZ ?_; intro w7 A7 o7 s7; have H7 := Lib.hid (((h.over b2.out).below b6.out).below (o7.out.below e6)))
      | ((with_reducible show wpList _ _ _ (⟨some 14, _, _, _, _, _⟩ :: _) _ _); refine wpList_copy_into rfl (.tmp 12) (.tmp 13) rfl g4 _ 64 64 n c _ rfl rfl Z xs _ A7 H7.out (by omega) (by rw [HZ.out]; omega) ?_; intro w8 A8 b8; rw [HKe.out] at A8; have A28 : Hid (Arr w8 g2 .u8 44 Z) := (((A2.out.over b6.out).only o7.out (by omega)).below b8.out (by omega)))
      | ((with_reducible show wpList _ _ _ (⟨some 15, _, _, _, _, _⟩ :: _) _ _); refine wpList_load_arr rfl _ (.tmp 4) rfl g4 rfl .u8 _ p A8 64 _ Tryd.underlying44 size_k HP ?_)
      | ((with_reducible show wpList _ _ _ (⟨none, .store _ (.tmp 2) _, _, _, _, _⟩ :: _) _ _); refine wpList_store_arr rfl _ (.tmp 2) (.tmp 15) rfl g2 rfl .u8 _ _ p rfl A28 64 size_k HZ HP ?_; intro w9 A9 o9 s9)
      | fail)
    have hs2 := b2.out.size
    have B9 : Below w.heap.size w w9 := (((b2.out.trans (b6.out.mono hs2)).trans (o7.out.below (by omega))).trans (b8.out.mono (by omega))).trans (o9.out.below e2)
    refine bodyPost_ret (v := .agg (p.map (Value.int .u8)).toArray) ?_ rfl ⟨rfl, B9⟩
    exact results_cell_row rfl _ _ g2 _ _ (0, 0) _ rfl A9.out Tryd.underlying44 rfl (by rw [size_k]; have := HP.out; simp [this])

/-- the parts of two -/
theorem parts2 {w : World} {gs : Nat} {A1 A2 : Option Addr} {n1 c1 n2 c2 : Nat} {xs ys : List Int} (hg : gs < w.heap.size) (k0 : w.cell? ⟨gs, 0, none⟩ = some (.slice A1 n1 c1)) (k1 : w.cell? ⟨gs, 1, none⟩ = some (.slice A2 n2 c2))
    (h1 : Holds w w.heap.size A1 n1 c1 xs) (h2 : Holds w w.heap.size A2 n2 c2 ys) :
    Parts w gs 2 (fun i => if i = 0 then A1 else A2) (fun i => if i = 0 then n1 else n2) (fun i => if i = 0 then c1 else c2) (fun i => if i = 0 then xs else ys) := by
  refine ⟨hg, fun i hi => ?_, fun i hi => ?_⟩
  · have : i = 0 ∨ i = 1 := by omega
    rcases this with rfl | rfl
    · exact k0
    · exact k1
  · have : i = 0 ∨ i = 1 := by omega
    rcases this with rfl | rfl
    · exact h1
    · exact h2

set_option maxRecDepth 100000 in
set_option maxHeartbeats 2000000 in
theorem sumOf_any (w : World) (gs : Nat) (A1 A2 : Option Addr) (n1 c1 n2 c2 : Nat) (xs ys : List Int) (hP : Parts w gs 2 (fun i => if i = 0 then A1 else A2) (fun i => if i = 0 then n1 else n2) (fun i => if i = 0 then c1 else c2) (fun i => if i = 0 then xs else ys))
    (hb : n1 + n2 ≤ 140737488355200) (hK : KTab w) :
    Calls Tryd.prog 34 #[.slice (some ⟨gs, 0, none⟩) 2 2] w fun e w' => e = .returned (.agg ((sumOf (xs ++ ys)).map (Value.int .u8)).toArray) ∧ Below w.heap.size w w' := by
  have hc := fun w hP => ConcatN_any w gs 2 (fun i => if i = 0 then A1 else A2) (fun i => if i = 0 then n1 else n2) (fun i => if i = 0 then c1 else c2) (fun i => if i = 0 then xs else ys) hP (by omega) (show sumN (fun i => if i = 0 then n1 else n2) 2 ≤ 140737488355328 by show 0 + n1 + n2 ≤ _; omega)
  have hl : (xs ++ ys).length = n1 + n2 := by
    have h1 := (hP.holds 0 (by omega)).len
    have h2 := (hP.holds 1 (by omega)).len
    rw [List.length_append]
    show xs.length + ys.length = _
    simp only [if_true] at h1
    simp only [show ¬ (1 = 0) by omega, if_false] at h2
    omega
  have hbb : Bytes (xs ++ ys) := (hP.holds 0 (by omega)).byte.append (hP.holds 1 (by omega)).byte
  have hC := fun w hP => Lib.hid (hc w hP)
  have he : catL (fun i => if i = 0 then xs else ys) 2 = xs ++ ys := rfl
  rw [he] at hC
  obtain ⟨N, hN⟩ : ∃ N, N = n1 + n2 := ⟨_, rfl⟩
  rw [← hN] at hl hb
  obtain ⟨all, hall⟩ : ∃ all, all = xs ++ ys := ⟨_, rfl⟩
  rw [← hall] at hl hbb hC ⊢
  have HL := Lib.hid hl
  have cs := fun w A c h hK => Lib.hid (Sum_any w A N c all hb h hK)
  have HSl : Hid ((sumOf all).length = 32) := sumOf_len all
  obtain ⟨s, hs⟩ : ∃ s, s = sumOf all := ⟨_, rfl⟩
  rw [← hs] at cs HSl ⊢
  obtain ⟨X, hX⟩ : ∃ Z : List Int, Z = List.replicate 32 0 := ⟨_, rfl⟩
  have HX := len0 32
  have hx1 := zero_m
  rw [← hX] at HX hx1
  have HX1 := Lib.hid hx1
  clear hx1 hX hl he hc hs hN hall
  go_enter Tryd.func34, Tryd.ntmps34
  go_wp2_with (first
    | ((with_reducible show wpList _ _ _ (⟨some 2, _, _, _, _, _⟩ :: _) _ _); refine wpList_alloc_arr rfl _ rfl .u8 X 32 HX1 ?_; intro g2 w2 e2 s2 A2 b2)
    | fail)
  refine (hC _ (hP.over b2.out)).out.mono ?_
  rintro e w3 ⟨v3, rfl, o3, b3⟩
  obtain ⟨A3, c3, rfl, h3⟩ := o3.holds hbb (by rw [HL.out]; omega)
  rw [HL.out] at h3 ⊢
  have H3 := Lib.hid h3
  have B3 : Hid (Below w.heap.size w w3) := step b2.out b3
  have A23 : Hid (Arr w3 g2 .u8 24 X) := A2.out.over b3
  clear o3 h3 b3 A2 b2
  go_wp2_with fail
  refine (cs _ _ _ H3.out (hK.below B3.out)).out.mono ?_
  rintro e w4 ⟨rfl, b4⟩
  have A24 : Hid (Arr w4 g2 .u8 24 X) := A23.out.over b4
  have B4 : Hid (Below w.heap.size w w4) := step B3.out b4
  clear A23 B3 b4 H3
  go_wp2_with (first
    | ((with_reducible show wpList _ _ _ (⟨none, .store _ (.tmp 2) _, _, _, _, _⟩ :: _) _ _); refine wpList_store_arr rfl _ (.tmp 2) (.tmp 5) rfl g2 rfl .u8 _ _ s rfl A24 32 size_o HX HSl ?_; intro w9 A9 o9 s9)
    | fail)
  refine bodyPost_ret (v := .agg (s.map (Value.int .u8)).toArray) ?_ rfl ⟨rfl, B4.out.trans (o9.out.below e2)⟩
  exact results_cell_row rfl _ _ g2 _ _ (0, 0) _ rfl A9.out Tryd.underlying24 rfl (by rw [size_o]; have := HSl.out; simp [this])

set_option maxRecDepth 100000 in
set_option maxHeartbeats 2000000 in
theorem short_any (w : World) (xs : List Int) (hl : xs.length = 32) :
    Calls Tryd.prog 27 #[.agg (xs.map (Value.int .u8)).toArray] w fun e w' => e = .returned (.agg ((xs.take 16).map (Value.int .u8)).toArray) ∧ Below w.heap.size w w' := by
  have HP : Hid ((xs.take 16).length = 16) := by show _ = _; rw [List.length_take]; omega
  have HC : Hid (∀ i, i < 16 → (xs.take 16).getD i 0 = xs.getD i 0) := fun i hi => by simp [List.getD_eq_getElem?_getD, hi]
  obtain ⟨p, hp⟩ : ∃ p, p = xs.take 16 := ⟨_, rfl⟩
  rw [← hp] at HP HC ⊢
  have HL := Lib.hid hl
  obtain ⟨X, hX⟩ : ∃ Z : List Int, Z = List.replicate 16 0 := ⟨_, rfl⟩
  have HX := len0 16
  have hx1 := zero_g
  rw [← hX] at HX hx1
  have HX1 := Lib.hid hx1
  clear hp hl hX hx1
  go_enter Tryd.func27, Tryd.ntmps27
  go_wp2_with (first
    | ((with_reducible show wpList _ _ _ (⟨some 1, _, _, _, _, _⟩ :: _) _ _); refine wpList_box_arr rfl _ (.tmp 0) rfl .u8 xs rfl ?_; intro g1 w1 e1 s1 A1 b1)
    | ((with_reducible show wpList _ _ _ (⟨some 2, _, _, _, _, _⟩ :: _) _ _); refine wpList_alloc_arr rfl _ rfl .u8 X 16 HX1 ?_; intro g2 w2 e2 s2 A2 b2)
    | ((with_reducible show wpList _ _ _ (⟨some 4, _, _, _, _, _⟩ :: _) _ _); refine wpList_s2ap rfl _ (.tmp 3) rfl 16 16 32 _ ⟨g1, 0, none⟩ rfl Tryd.underlying26 (by omega) ?_)
    | ((with_reducible show wpList _ _ _ (⟨some 5, _, _, _, _, _⟩ :: _) _ _); refine wpList_load_part rfl _ (.tmp 4) rfl g1 0 rfl .u8 p 16 _ Tryd.underlying26 size_g HP (fun i hi => by rw [HC.out i hi, Nat.zero_add]; exact (A1.out.over b2.out).cell (by rw [HL.out]; omega)) ?_)
    | ((with_reducible show wpList _ _ _ (⟨none, .store _ (.tmp 2) _, _, _, _, _⟩ :: _) _ _); refine wpList_store_arr rfl _ (.tmp 2) (.tmp 5) rfl g2 rfl .u8 _ _ p rfl A2 16 size_g HX HP ?_; intro w9 A9 o9 s9)
    | fail)
  refine bodyPost_ret (v := .agg (p.map (Value.int .u8)).toArray) ?_ rfl ⟨rfl, (step b1.out b2.out).trans (o9.out.below (by omega))⟩
  exact results_cell_row rfl _ _ g2 _ _ (0, 0) _ rfl A9.out Tryd.underlying26 rfl (by rw [size_g]; have := HP.out; simp [this])

/-- the three parts of a message -/
def CutPost (w : World) (b off n : Nat) (xs : List Int) (e : Ending) (w' : World) : Prop :=
  ∃ A3, e = .returned (.tuple #[.slice (some ⟨b, off, none⟩) 48 48, .slice (some ⟨b, off + 48, none⟩) 16 16, .slice A3 (n - 64) (n - 64)]) ∧ w = w' ∧
    ∀ w1 B c, Holds w1 B (some ⟨b, off, none⟩) n c xs → Holds w1 B A3 (n - 64) (n - 64) (xs.drop 64)
set_option maxHeartbeats 2000000 in
theorem cut_any (w : World) (b off n c : Nat) (xs : List Int) (hn : 64 ≤ n) (hc : n ≤ c) (hb : n ≤ 281474976710656) :
    Calls Tryd.prog 29 #[.slice (some ⟨b, off, none⟩) n c] w (CutPost w b off n xs) := by
  by_cases h64 : n = 64
  · subst h64
    go_enter Tryd.func29, Tryd.ntmps29
    go_wp2_with fail
    go_ret3
    refine ⟨some ⟨b, off, none⟩, rfl, rfl, fun w1 B c hh => ?_⟩
    have := hh.len
    rw [show xs.drop 64 = [] from List.drop_of_length_le (by omega)]
    exact Holds.empty _ _ _ _ fun hA => (by cases hA)
  · have h1 : ¬ ((n : Int) = 64) := by omega
    have h2 : (64 : Int) ≤ (n : Int) := by omega
    have h3 : ¬ (n - 64 = 0) := by omega
    go_enter Tryd.func29, Tryd.ntmps29
    go_wp2_with fail
    go_ret3
    refine ⟨some ⟨b, off + 64, none⟩, rfl, rfl, fun w1 B c hh => ?_⟩
    have hl := hh.len
    have h4 := hh.cut (k := 64) (m := n - 64) (by omega) (by omega)
    rwa [List.take_of_length_le (by rw [List.length_drop]; omega)] at h4
end Go.Proofs.YtomdgiikjnghcaaDoor
