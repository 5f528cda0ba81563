/-
  Contracts of the document's layer 4 (refectoryref04): half, Mac. Rows that lie apart ('Apart').
-/
import Derived.Test.YtomdgiikjnghcaaDoorMacC
import Derived.Test.YtomdgiikjnghcaaDoorRefS5
import Derived.Deep.DeepCutAuto
namespace Go.Proofs.YtomdgiikjnghcaaDoor
open Go.RowKit

/-! ### two rows of one kind, in blocks of their own -/

/-- the two slices head different blocks -/
def Apart (v u : Value) : Prop := ∀ i, v.ownBlock = some i → u.ownBlock ≠ some i
theorem Apart.nil (u : Value) : Apart (.slice none 0 0) u := fun i h => by cases h
theorem Apart.nil' (v : Value) : Apart v (.slice none 0 0) := fun i _ h => by cases h
theorem Apart.symm {v u : Value} (h : Apart v u) : Apart u v := fun i hu hv => h i hv hu

section
variable {k k' : IntKind} {e e' : TypeId} {w w' : World} {base base' : Nat} {v v' u : Value} {xs ys : List Int}
theorem OwnK.lt (h : OwnK k e w base v xs) {i : Nat} (hi : v.ownBlock = some i) : i < w.heap.size := (World.ownsRow.lt h i hi).2
theorem Grew.apart (hg : Grew w w' v) (h' : OwnK k' e' w base' u ys) (ha : Apart v u) : OwnK k' e' w' base' u ys :=
  h'.keep fun i cs hi hcs => by rw [hg.block hcs fun hv => ha i hv hi, hcs]
theorem OwnK.grown (h' : OwnK k' e' w base' u ys) (hg : w.grownBy w' v.ownBlock) (ha : Apart v u) : OwnK k' e' w' base' u ys :=
  h'.keep fun i _ hi hcs => hg.block i (Array.getElem?_eq_some_iff.1 hcs).1 fun he => ha i he.symm hi
theorem Arr.grew {g : Nat} {T : TypeId} {zs : List Int} (a : Arr w g k' T zs) (hg : Grew w w' v) (h : OwnK k e w base v xs) (hT : T ≠ e) : Arr w' g k' T zs :=
  hg.block a fun hv => by
    obtain ⟨_, cs, hcs⟩ := h.block hv
    unfold Arr at a
    rw [hcs] at a
    simp only [Option.some.injEq, Obj.cells.injEq] at a
    exact hT a.2.1.symm
/-- where the new slice heads: the old block, or a new one -/
def Whither (w : World) (v v' : Value) : Prop := v'.ownBlock = v.ownBlock ∨ ∃ g, v'.ownBlock = some g ∧ w.heap.size ≤ g
theorem Apart.whither (ha : Apart v u) (hw : Whither w v v') (hu : OwnK k e w base u ys) : Apart v' u := fun i hi hui => by
  rcases hw with h | ⟨g, hg, hge⟩
  · exact ha i (h ▸ hi) hui
  · rw [hg] at hi
    injection hi with hi
    subst hi
    have := hu.lt hui
    omega
end

theorem run_append_whither {P : Program} (w : World) (t ty e : TypeId) (i : TypeInfo) (z : Value) (bytes : Nat) (ht : P.underlying t = some (.slice e)) (hi : P.info? e = some i) (hz : i.zero = some z) (hsize : i.size = 1) (hby : i.bytes = bytes) (hzs : z.cells.size = 1)
    (base : Nat) (v : Value) (n : Nat) (xs : List Value) (hown : w.ownsRow base e 1 v n xs) (a : Addr) (m c : Nat) (news : List Value) (hl : news.length = m * 1) (hnews : ∀ j u, news[j]? = some u → w.cell? (a.add j) = some u) (h1 : ∀ u ∈ news, u.oneCell' = true)
    (h63 : n + m ≤ maxLen) (hbytes : (n + m) * bytes ≤ 140737488355328) (hbase : base ≤ w.heap.size) :
    ∃ v' w', (Builtin.append_ #[t, t] ty #[v, .slice (some a) m c]).run P w = .ok v' w' ∧ w'.ownsRow base e 1 v' (n + m) (xs ++ news) ∧ w.grownBy w' v.ownBlock ∧ Whither w v v' := by
  obtain ⟨v', w', hr, ho, hg, hnil⟩ := run_append_own (P := P) w base t ty e i z 1 bytes ht hi hz hsize hby hzs (by omega) v n xs hown a m c news hl hnews h1 h63 hbytes hbase
  refine ⟨v', w', hr, ho, hg, ?_⟩
  have hsmall : n + m ≤ 9223372036854775807 := by simp only [maxLen] at h63; omega
  rcases hown.2 with ⟨rfl, rfl⟩ | ⟨g, cap, cur, rfl, hbg, hgg, hnc, hcm, hcs, htake⟩
  · have hx : xs = [] := List.eq_nil_of_length_eq_zero (by simpa using hown.1)
    subst hx
    obtain ⟨v2, w2, hr2, ho2, _, _⟩ := run_append_own (P := P) w w.heap.size t ty e i z 1 bytes ht hi hz hsize hby hzs (by omega) (.slice none 0 0) 0 [] (World.ownsRow_nil w _ e 1) a m c news hl hnews h1 h63 hbytes (Nat.le_refl _)
    rw [hr] at hr2
    injection hr2 with e1 e2
    subst e1 e2
    rcases ho2.2 with ⟨rfl, _⟩ | ⟨g, cap, cur, rfl, hb, _⟩
    · exact .inl rfl
    · exact .inr ⟨g, rfl, hb⟩
  · by_cases hroom : n + m ≤ cap
    · have hfit : n * i.size + news.length ≤ cur.size := by rw [hl, hcs, hsize]; omega
      have hr2 := run_append_room (P := P) w t ty e i ht hi g n cap cur hgg a m c news (by rw [hl, hsize]) hnews h1 hroom hfit
      rw [hr] at hr2
      injection hr2 with e1 e2
      subst e1
      exact .inl rfl
    · have holds : ∀ j u, xs[j]? = some u → w.cell? ((⟨g, 0, none⟩ : Addr).add j) = some u := hown.cells (g := g) rfl
      have hr2 := run_append_grow (P := P) w t ty e i z ht hi hz ⟨g, 0, none⟩ n cap xs (by rw [hsize]; exact hown.1) holds a m c news (by rw [hl, hsize]) hnews (by omega) (by omega) (growslice_fits (by omega) (by rw [hby]; exact hbytes))
      rw [hr] at hr2
      injection hr2 with e1 e2
      subst e1
      exact .inr ⟨_, rfl, Nat.le_refl _⟩

/-- append(l, xs..), the new ones lying in a block of their own that has just been laid, onto a row of the call's own; where the new slice heads is told -/
theorem wpList_append_litW {P : Program} {w : World} {ops : Array Oper} {rest : List Oper} {o : Oper} {a : Act} {Q : Exit → Act → World → Prop} (hgd : o.guard = none) (s x : Operand) (k : IntKind) (T e : TypeId) (bytes : Nat)
    (ht : P.underlying T = some (.slice e)) (hi : (P.info? e).map (fun i => (i.zero, i.size, i.bytes)) = some (some (.int k 0), 1, bytes))
    (ho : o.op = .call { callee := .builtin .append, args := #[s, x], argTypes := #[T, T] })
    (base : Nat) (v : Value) (xs ys : List Int) (cs : Array Value) (hcs : cs = (ys.map (Value.int k)).toArray) (m c : Nat) (hm : ys.length = m) (hs : a.eval s = v) (hx : a.eval x = .slice (some ⟨w.heap.size, 0, none⟩) m c)
    (hown : OwnK k e w base v xs) (hlen : (xs.length + m) * bytes ≤ 140737488355328) (h63 : xs.length + m ≤ 9223372036854775807) (hbase : base ≤ w.heap.size)
    (h : ∀ v' w', Hid (OwnK k e w' base v' (xs ++ ys)) → Hid (Grew w w' v) → Hid (Whither w v v') → wpList P ops Q rest (a.put o.dst v') w') :
    wpList P ops Q (o :: rest) a (w.alloc (.cells cs e)) := by
  obtain ⟨i0, hi0, hz0, hz1, hz2⟩ := info_parts hi
  subst hcs
  have hr : (w.alloc (.cells (ys.map (Value.int k)).toArray e)).heap[w.heap.size]? = some (.cells (ys.map (Value.int k)).toArray e (0, 0)) := heap_alloc_new w _
  obtain ⟨v', w', hrun, ho', hg', hwh⟩ := run_append_whither (P := P) (w.alloc (.cells (ys.map (Value.int k)).toArray e)) T o.type e i0 (.int k 0) bytes ht hi0 hz0 hz1 hz2 rfl base v xs.length (xs.map (Value.int k)) (OwnK.alloc hown _) ⟨w.heap.size, 0, none⟩ m c (ys.map (Value.int k)) (by simp [hm])
    (fun j y hj => by
      have e1 : (⟨w.heap.size, 0, none⟩ : Addr).add j = ⟨w.heap.size, j, none⟩ := by
        by_cases hj0 : j = 0
        · subst hj0; simp [Addr.add]
        · simp [Addr.add, hj0]
      rw [e1, cell_of_row _ w.heap.size j _ e (0, 0) hr, ← hj]
      simp)
    (by intro v hv; obtain ⟨x, _, rfl⟩ := List.mem_map.1 hv; rfl) (by unfold maxLen; omega) hlen (by simp; omega)
  refine wpList_plain hgd fun K hK => ?_
  unfold Oper.wp execOp
  simp only [ho, resolve, invoke, builtin, Sem.run_bind, Sem.run_pure, Result.andThen_ok, List.map_toArray, List.map_cons, List.map_nil, hs, hx, hrun]
  refine hK _ _ (h v' w' ?_ ⟨_, hg'⟩ ?_)
  · show World.ownsRow _ _ _ _ _ _ _
    rw [List.length_append, List.map_append, hm]
    exact ho'
  · rcases hwh with h1 | ⟨g, h1, h2⟩
    · exact .inl h1
    · exact .inr ⟨g, h1, by simp at h2; omega⟩

/-! ### half -/

def halfRow (xs : List Int) (k : Nat) : List Int := xs.take k ++ List.replicate (16 - k) 0
theorem halfRow_len (xs : List Int) (k : Nat) (hl : 16 ≤ xs.length) (hk : k ≤ 16) : (halfRow xs k).length = 16 := by simp [halfRow]; omega
theorem halfRow_zero (xs : List Int) : halfRow xs 0 = List.replicate 16 0 := by simp [halfRow]
theorem halfRow_full (xs : List Int) : halfRow xs 16 = xs.take 16 := by simp [halfRow]
theorem halfRow_set (xs : List Int) (k : Nat) (hl : 16 ≤ xs.length) (hk : k < 16) : (halfRow xs k).set k (xs.getD k 0) = halfRow xs (k + 1) := by
  have hx : k < xs.length := by omega
  unfold halfRow
  rw [fill_set _ _ _ _ (by simp; omega) (by omega), List.take_succ_eq_append_getElem hx, show 16 - k - 1 = 16 - (k + 1) by omega]
  congr 2
  simp [hx]

set_option maxRecDepth 100000 in
set_option maxHeartbeats 2000000 in
theorem half_any (w : World) (xs : List Int) (hl : xs.length = 32) (hb : Bytes xs) :
    Calls Tryd.prog 28 #[.agg (xs.map (Value.int .u8)).toArray] w fun e w' => e = .returned (.agg ((xs.take 16).map (Value.int .u8)).toArray) ∧ Below w.heap.size w w' := by
  have HP : Hid ((xs.take 16).length = 16) := by show _ = _; rw [List.length_take]; omega
  have HF : Hid (halfRow xs 16 = xs.take 16) := halfRow_full xs
  obtain ⟨p, hp⟩ : ∃ p, p = xs.take 16 := ⟨_, rfl⟩
  rw [← hp] at HP HF ⊢
  have HL := Lib.hid hl
  obtain ⟨X, hX⟩ : ∃ Z : List Int, Z = List.replicate 16 0 := ⟨_, rfl⟩
  have HX := len0 16
  have hx1 := zero_g
  have H0 := halfRow_zero xs
  rw [← hX] at HX hx1 H0
  have HX1 := Lib.hid hx1
  have HX0 := Lib.hid H0
  clear hp hl hX hx1 H0
  go_enter Tryd.func28, Tryd.ntmps28
  go_wp2_with (first
    | ((with_reducible show wpList _ _ _ (⟨some 1, _, _, _, _, _⟩ :: _) _ _); refine wpList_box_arr rfl _ (.tmp 0) rfl .u8 xs rfl ?_; intro g1 w1 e1 s1 A1 b1)
    | ((with_reducible show wpList _ _ _ (⟨some 2, _, _, _, _, _⟩ :: _) _ _); refine wpList_alloc_arr rfl _ rfl .u8 X 16 HX1 ?_; intro g2 w2 e2 s2 A2 b2)
    | ((with_reducible show wpList _ _ _ (⟨some 3, _, _, _, _, _⟩ :: _) _ _); refine wpList_alloc_arr rfl _ rfl .u8 X 16 HX1 ?_; intro g3 w3 e3 s3 A3 b3)
    | fail)
  have l12 : g1 < g2 := by omega
  have l23 : g2 < g3 := by omega
  have A13 : Hid (Arr w3 g1 .u8 24 xs) := (A1.out.over b2.out).over b3.out
  have A23 : Hid (Arr w3 g2 .u8 26 X) := A2.out.over b3.out
  have B3 : Hid (Below w.heap.size w w3) := step (step b1.out b2.out) b3.out
  have lw1 : w.heap.size ≤ g1 := e1
  clear A1 A2 b1 b2 b3 e1 s1 e2 s2 e3 s3
  go_loopw [4] (fun i wr => ∃ k : Nat, k ≤ 16 ∧ i = .int .i64 k ∧ Hid (Arr wr g3 .u8 26 (halfRow xs k)) ∧ Hid (Only g3 w3 wr)) (fun i _ => 16 - (intOf i).toNat)
  case atStart => exact ⟨0, by omega, rfl, by rw [HX0.out]; exact A3, Only.refl _ _⟩
  case round =>
    obtain ⟨k, hk, rfl, hR, hO⟩ := hrel
    by_cases hlt : k < 16
    · have gc := (A13.out.only hO.out (by omega)).cell (i := k) (by rw [HL.out]; omega)
      have hS := hR.out.set k (xs.getD k 0)
      rw [halfRow_set xs k (by rw [HL.out]; omega) hlt] at hS
      have hbk := hb.getD k
      obtain ⟨y, hy⟩ : ∃ y, y = xs.getD k 0 := ⟨_, rfl⟩
      rw [← hy] at gc hS hbk
      have gd := hR.out.cell (i := k) (by rw [halfRow_len xs k (by rw [HL.out]; omega) hk]; exact hlt)
      obtain ⟨old, hold⟩ : ∃ old, old = (halfRow xs k).getD k 0 := ⟨_, rfl⟩
      rw [← hold] at gd
      have gf := hR.out.frozen k
      have hSh := Lib.hid hS
      obtain ⟨hbk0, hbk1⟩ := hbk
      clear hy hold hS hR
      go_wp2_with fail
      go_roundw
      case rel => exact ⟨k + 1, by omega, by go_num, hSh, hO.out.setCell _ _⟩
      case measure => simp [intOf]; omega
    · have hge : (16 : Int) ≤ (k : Int) := by omega
      have hF : Hid (Arr wr g3 .u8 26 p) := by
        have h0 := hR.out
        rwa [show k = 16 by omega, HF.out] at h0
      have A2f := Lib.hid (A23.out.only hO.out (by omega))
      have Bf : Hid (Below w.heap.size w wr) := B3.out.trans (hO.out.below (by omega))
      clear hR hO
      go_wp2_with (first
        | ((with_reducible show wpList _ _ _ (⟨some 14, _, _, _, _, _⟩ :: _) _ _); refine wpList_load_arr rfl _ (.tmp 3) rfl g3 rfl .u8 _ p hF 16 _ Tryd.underlying26 size_g HP ?_)
        | ((with_reducible show wpList _ _ _ (⟨none, .store _ (.tmp 2) _, _, _, _, _⟩ :: _) _ _); refine wpList_store_arr rfl _ (.tmp 2) (.tmp 14) rfl g2 rfl .u8 _ _ p rfl A2f 16 size_g HX HP ?_; intro w14 A14 o14 s14)
        | fail)
      refine bodyPost_ret (v := .agg (p.map (Value.int .u8)).toArray) ?_ rfl ⟨rfl, Bf.out.trans (o14.out.below (by omega))⟩
      exact results_cell_row rfl _ _ g2 _ _ (0, 0) _ rfl A14.out Tryd.underlying26 rfl (by rw [size_g]; have := HP.out; simp [this])

/-! ### Mac -/

theorem snoc_zero (l : List Int) (j : Nat) : l ++ List.replicate j 0 ++ [0] = l ++ List.replicate (j + 1) 0 := by rw [List.append_assoc, ← List.replicate_succ']
theorem take_snoc (l : List Int) (j : Nat) (h : j < l.length) : l.take j ++ [l.getD j 0] = l.take (j + 1) := by
  rw [List.take_succ_eq_append_getElem h]
  simp [h]
theorem take_snoc_xor (c : Int) (l : List Int) (j : Nat) (h : j < l.length) : (xorL c l).take j ++ [bits .xor .u8 (l.getD j 0) c] = (xorL c l).take (j + 1) := by
  rw [← take_snoc _ _ (by rw [xorL_len]; exact h)]
  simp [xorL, h]

set_option maxRecDepth 100000 in
set_option maxHeartbeats 4000000 in
theorem RMac_any (w : World) (A : Option Addr) (n c : Nat) (ks : List Int) (hn : n ≤ 140737488355100) (h : Holds w w.heap.size A n c ks) (A2 : Option Addr) (n2 c2 : Nat) (bs : List Int) (hn2 : n2 ≤ 140737488355100) (h2 : Holds w w.heap.size A2 n2 c2 bs) :
    Calls Tryd.prog 11 #[.slice A n c, .slice A2 n2 c2] w fun e w' => e = .returned (.agg ((macL ks bs).map (Value.int .u8)).toArray) ∧ Below w.heap.size w w' := by
  have hmac : macL ks bs = sumOf (xorL 92 (keyL ks) ++ sumOf (xorL 54 (keyL ks) ++ bs)) := rfl
  have HR : Hid ((macL ks bs).length = 32) := macL_len _ _
  obtain ⟨R, hR⟩ : ∃ R, R = macL ks bs := ⟨_, rfl⟩
  rw [← hR] at hmac HR ⊢
  have hkk : keyL ks = padK (if 64 < ks.length then sumOf ks else ks) := rfl
  have HKl : Hid ((keyL ks).length = 64) := keyL_len ks
  have hKb : Bytes (keyL ks) := keyL_bytes ks h.byte
  obtain ⟨K, hKe⟩ : ∃ K, K = keyL ks := ⟨_, rfl⟩
  rw [← hKe] at hkk HKl hKb hmac
  have hLl : (if 64 < ks.length then sumOf ks else ks).length ≤ 64 := by
    split
    · rw [sumOf_len]; omega
    · omega
  have hLb : Bytes (if 64 < ks.length then sumOf ks else ks) := by
    split
    · exact sumOf_bytes _
    · exact h.byte
  have hL1 : 64 < n → (if 64 < ks.length then sumOf ks else ks) = sumOf ks := fun hh => if_pos (by rw [h.len]; exact hh)
  have hL2 : ¬ 64 < n → (if 64 < ks.length then sumOf ks else ks) = ks := fun hh => if_neg (by rw [h.len]; exact hh)
  obtain ⟨L, hLe⟩ : ∃ L, L = if 64 < ks.length then sumOf ks else ks := ⟨_, rfl⟩
  rw [← hLe] at hkk hLl hLb hL1 hL2
  have HMAC := Lib.hid hmac
  have HKK := Lib.hid hkk
  have HL1 := Lib.hid hL1
  have HL2 := Lib.hid hL2
  have HB := Lib.hid h2.byte
  have HBL := Lib.hid h2.len
  have HNL := Lib.hid h.len
  have cs := fun w A n c xs hn h => Lib.hid (RSum_any w A n c xs hn h)
  obtain ⟨X, hX⟩ : ∃ Z : List Int, Z = List.replicate 32 0 := ⟨_, rfl⟩
  have HX := len0 32
  have hx1 := zero_m
  rw [← hX] at HX hx1
  have HX1 := Lib.hid hx1
  have HH := Lib.hid h
  have HH2 := Lib.hid h2
  clear hR hKe hLe hmac hkk hL1 hL2 hx1 hX h h2
  go_enter Tryd.func11, Tryd.ntmps11
  go_upto_if 15 with (first
    | ((with_reducible show wpList _ _ _ (⟨some 4, _, _, _, _, _⟩ :: _) _ _); refine wpList_alloc_arr rfl _ rfl .u8 X 32 HX1 ?_; intro g4 w4 e4 s4 A4 b4)
    | fail)
  go_cut [5] (fun s5 wx => Hid (OwnK .u8 5 wx w4.heap.size s5 L) ∧ Hid (Below w4.heap.size w4 wx))
  case first =>
    by_cases hlt : 64 < n
    · have e := HL1.out hlt
      have HS : Hid ((sumOf ks).length = 32) := sumOf_len ks
      have hSb := sumOf_bytes ks
      have cs1 := fun w h => cs w A n c ks (by omega) h
      obtain ⟨S, hS⟩ : ∃ S, S = sumOf ks := ⟨_, rfl⟩
      rw [← hS] at HS hSb cs1 e
      have HE := Lib.hid e
      have hlt' : (64 : Int) < (n : Int) := by omega
      clear hS e
      go_wp2_with fail
      refine (cs1 _ (HH.out.over b4.out)).out.mono ?_
      rintro e w5 ⟨rfl, b5⟩
      have B5 := Lib.hid b5
      clear b5
      go_wp2_with (first
        | ((with_reducible show wpList _ _ _ (⟨some 6, _, _, _, _, _⟩ :: _) _ _); refine wpList_alloc_arr rfl _ rfl .u8 X 32 HX1 ?_; intro g6 w6 e6 s6 A6 b6)
        | ((with_reducible show wpList _ _ _ (⟨none, .store _ (.tmp 6) _, _, _, _, _⟩ :: _) _ _); refine wpList_store_arr rfl _ (.tmp 6) (.tmp 17) rfl g6 rfl .u8 _ _ S rfl A6 32 size_o HX HS ?_; intro w7 A7 o7 s7)
        | fail)
      have hs5 := B5.out.size
      have B7 : Hid (Below w4.heap.size w4 w7) := (step B5.out b6.out).trans (o7.out.below (by omega))
      have hs7 := B7.out.size
      have l64 : w4.heap.size ≤ g6 := by omega
      clear B5 A6 b6 o7 e6 s6 hs5
      go_loopw [5, 7] (fun v i wr => ∃ k : Nat, k ≤ 32 ∧ i = .int .i64 k ∧ Hid (OwnK .u8 5 wr w7.heap.size v (S.take k)) ∧ Hid (Below w7.heap.size w7 wr)) (fun _ i _ => 32 - (intOf i).toNat)
      case atStart => exact ⟨0, by omega, rfl, OwnK.nil _ _ _ _, Below.refl _ _⟩
      case round =>
        obtain ⟨k, hk, rfl, hO, hB⟩ := hrel
        obtain ⟨Av, l, cv, rfl, hl, _⟩ := hO.out.open
        have hl0 : (S.take k).length = k := by rw [List.length_take, HS.out]; omega
        rw [hl0] at hl
        subst hl
        have hbs := Lib.hid hB.out.size
        by_cases hlt2 : k < 32
        · have gc := (A7.out.below hB.out s7).cell (i := k) (by rw [HS.out]; exact hlt2)
          have he := take_snoc S k (by rw [HS.out]; exact hlt2)
          have hbk := hSb.getD k
          obtain ⟨y, hy⟩ : ∃ y, y = S.getD k 0 := ⟨_, rfl⟩
          rw [← hy] at gc he hbk
          have hpl := Lib.hid hl0
          clear hy
          go_wp2_with (first
            | (at_builtin; refine wpList_append_lit rfl (.tmp 22) (.tmp 26) .u8 22 5 1 Tryd.underlying22 info_b rfl w7.heap.size _ (S.take k) [y] _ rfl 1 1 rfl rfl rfl hO.out (by rw [hpl.out]; omega) (by rw [hpl.out]; omega) hbs.out ?_; intro v1 w1 ho1 hg1)
            | fail)
          have hO1 := ho1.out
          rw [he] at hO1
          go_roundw
          case rel => exact ⟨k + 1, by omega, by go_num, hO1, hB.out.trans (hg1.out.below hO.out hbs.out)⟩
          case measure => simp [intOf]; omega
        · have hge : (32 : Int) ≤ (k : Int) := by omega
          have hF : Hid (OwnK .u8 5 wr w4.heap.size (.slice Av k cv) L) := by
            have h0 := hO.out
            rw [List.take_of_length_le (by rw [HS.out]; omega), ← HE.out] at h0
            exact h0.mono hs7
          have hBF : Hid (Below w4.heap.size w4 wr) := B7.out.trans (hB.out.mono hs7)
          clear hO hB
          go_wp2_with fail
          go_meet
          exact ⟨hF, hBF⟩
    · have e := HL2.out hlt
      have hle : (n : Int) ≤ 64 := by omega
      have HE := Lib.hid e
      clear e
      go_wp2_with (first
        | (at_builtin; refine wpList_append_bytes rfl (.tmp 28) (.tmp 29) rfl w4.heap.size _ [] rfl (Own.nil _ _) _ A n c ks rfl (HH.out.over b4.out) (by rw [HNL.out]; simp; omega) (Nat.le_refl _) ?_; intro v5 w5 o5 b5 gr5)
        | fail)
      rw [List.nil_append] at o5
      go_meet
      exact ⟨by rw [HE.out]; exact o5, b5⟩
  case rest =>
    obtain ⟨HO5, HB5⟩ := hcut
    have B0 : Hid (Below w.heap.size w wc) := step b4.out HB5.out
    have A4c : Hid (Arr wc g4 .u8 24 X) := A4.out.over HB5.out
    have s4c : g4 < wc.heap.size := A4c.out.lt
    have hs4 := HB5.out.size
    obtain ⟨w5, hw5⟩ : ∃ x, x = wc := ⟨_, rfl⟩
    rw [← hw5] at HO5 HB5 B0 A4c s4c hs4 ⊢
    clear hw5
    obtain ⟨l, hl⟩ : ∃ l, l = L.length := ⟨_, rfl⟩
    have HLL := Lib.hid hl
    rw [← hl] at hLl
    have hw4 := b4.out.size
    clear hl HH A4 b4 HL1 HL2 HNL
    go_wp2_with fail
    go_loopw [5] (fun v wr => ∃ j : Nat, l + j ≤ 64 ∧ Hid (OwnK .u8 5 wr w4.heap.size v (L ++ List.replicate j 0)) ∧ Hid (Below w4.heap.size w5 wr)) (fun v _ => 64 - lenV v)
    case atStart => exact ⟨0, by omega, by rw [List.replicate_zero, List.append_nil]; exact HO5, Below.refl _ _⟩
    case round =>
      obtain ⟨j, hj, hO, hB⟩ := hrel
      obtain ⟨Av, q, cv, rfl, hq, _⟩ := hO.out.open
      have hl0 : (L ++ List.replicate j 0).length = l + j := by rw [List.length_append, List.length_replicate, ← HLL.out]
      rw [hl0] at hq
      subst hq
      have hbs : Hid (w4.heap.size ≤ wr.heap.size) := Nat.le_trans hs4 hB.out.size
      have hpl := Lib.hid hl0
      by_cases hlt : l + j < 64
      · go_wp2_with (first
          | (at_builtin; refine wpList_append_lit rfl (.tmp 34) (.tmp 35) .u8 22 5 1 Tryd.underlying22 info_b rfl w4.heap.size _ (L ++ List.replicate j 0) [0] _ rfl 1 1 rfl rfl rfl hO.out (by rw [hpl.out]; omega) (by rw [hpl.out]; omega) hbs.out ?_; intro v1 w1 ho1 hg1)
          | fail)
        have hO1 := ho1.out
        rw [snoc_zero] at hO1
        have hv1 : 64 - lenV v1 < 64 - lenV (.slice Av (l + j) cv) := by
          obtain ⟨A', l', c', rfl, hl', _⟩ := hO1.open
          rw [List.length_append, List.length_replicate, ← HLL.out] at hl'
          show 64 - l' < 64 - (l + j)
          omega
        have HV1 := Lib.hid hv1
        clear hv1
        go_roundw
        case rel => exact ⟨j + 1, by omega, hO1, hB.out.trans (hg1.out.below hO.out hbs.out)⟩
        case measure => exact HV1.out
      · have hK5 : Hid (OwnK .u8 5 wr w4.heap.size (.slice Av 64 cv) K) := by
          have h0 := hO.out
          rw [show l + j = 64 by omega, show j = 64 - L.length by rw [← HLL.out]; omega] at h0
          rw [HKK.out]
          exact h0
        have B6 : Hid (Below w.heap.size w wr) := B0.out.trans (hB.out.mono (by omega))
        have A46 : Hid (Arr wr g4 .u8 24 X) := A4c.out.below hB.out s4
        have hl64 : l + j = 64 := by omega
        rw [hl64]
        obtain ⟨w6, hw6⟩ : ∃ x, x = wr := ⟨_, rfl⟩
        rw [← hw6] at hK5 B6 A46 hbs ⊢
        clear hw6 hO hB B0 A4c HO5 HB5
        obtain ⟨_, _, _, e0, _, _, _, _, hcells⟩ := hK5.out.open
        simp only [Value.slice.injEq] at e0
        obtain ⟨rfl, rfl, rfl⟩ := e0
        obtain ⟨g5, rfl, _, hg5, hcl⟩ := hcells (by omega)
        have HCL := Lib.hid hcl
        have hbs4 := hbs
        clear hcl hcells hK5 hl0 hpl hj hl64 hlt hbs
        go_wp2_with fail
        go_loopw [8, 9, 10] (fun v8 v9 i wr => ∃ k : Nat, k ≤ 64 ∧ i = .int .i64 k ∧ Hid (OwnK .u8 5 wr w6.heap.size v8 ((xorL 54 K).take k)) ∧ Hid (OwnK .u8 5 wr w6.heap.size v9 ((xorL 92 K).take k)) ∧ Hid (Apart v8 v9) ∧ Hid (Below w6.heap.size w6 wr)) (fun _ _ i _ => 64 - (intOf i).toNat)
        case atStart => exact ⟨0, by omega, rfl, OwnK.nil _ _ _ _, OwnK.nil _ _ _ _, Apart.nil _, Below.refl _ _⟩
        case round =>
          obtain ⟨k, hk, rfl, hO8, hO9, hAp, hB⟩ := hrel
          have hbs := Lib.hid hB.out.size
          have hl8 : Hid (((xorL 54 K).take k).length = k) := by show _ = _; rw [List.length_take, xorL_len, HKl.out]; omega
          have hl9 : Hid (((xorL 92 K).take k).length = k) := by show _ = _; rw [List.length_take, xorL_len, HKl.out]; omega
          by_cases hlt2 : k < 64
          · have gc : wr.cell? ⟨g5, k, none⟩ = some (.int .u8 (K.getD k 0)) := by rw [← HCL.out k hlt2]; exact hB.out.cell (p := ⟨g5, k, none⟩) hg5
            have he8 := take_snoc_xor 54 K k (by rw [HKl.out]; exact hlt2)
            have he9 := take_snoc_xor 92 K k (by rw [HKl.out]; exact hlt2)
            have hbk := hKb.getD k
            obtain ⟨y, hy⟩ : ∃ y, y = K.getD k 0 := ⟨_, rfl⟩
            rw [← hy] at gc he8 he9 hbk
            obtain ⟨hbk0, hbk1⟩ := hbk
            clear hy
            go_wp2_with (first
              | (at_builtin; refine wpList_append_litW rfl (.tmp 41) (.tmp 47) .u8 22 5 1 Tryd.underlying22 info_b rfl w6.heap.size _ ((xorL 54 K).take k) [bits .xor .u8 y 54] _ rfl 1 1 rfl rfl rfl hO8.out (by rw [hl8.out]; omega) (by rw [hl8.out]; omega) hbs.out ?_; intro v1 w1 ho1 hg1 hw1; have hb1 := Lib.hid (hg1.out.below hO8.out hbs.out); have hbs1 := Lib.hid (Nat.le_trans hbs.out hb1.out.size); have gc1 : w1.cell? ⟨g5, k, none⟩ = some (.int .u8 y) := gc ▸ hb1.out.cell (p := ⟨g5, k, none⟩) hg5; have hO9' := Lib.hid (hg1.out.apart hO9.out hAp.out); have hAp' := Lib.hid (hAp.out.whither hw1.out hO9.out))
              | (at_builtin; refine wpList_append_litW rfl (.tmp 49) (.tmp 55) .u8 22 5 1 Tryd.underlying22 info_b rfl w6.heap.size _ ((xorL 92 K).take k) [bits .xor .u8 y 92] _ rfl 1 1 rfl rfl rfl hO9'.out (by rw [hl9.out]; omega) (by rw [hl9.out]; omega) hbs1.out ?_; intro v2 w2 ho2 hg2 hw2)
              | fail)
            have F8 := hg2.out.apart ho1.out hAp'.out.symm
            have F9 := ho2.out
            have FA := (hAp'.out.symm.whither hw2.out ho1.out).symm
            have FB := (hB.out.trans hb1.out).trans (hg2.out.below hO9'.out hbs1.out)
            rw [he8] at F8
            rw [he9] at F9
            go_roundw
            case rel => exact ⟨k + 1, by omega, by go_num, F8, F9, FA, FB⟩
            case measure => simp [intOf]; omega
          · have hk64 : k = 64 := by omega
            have F8 := hO8.out
            have F9 := hO9.out
            rw [List.take_of_length_le (by rw [xorL_len, HKl.out]; omega)] at F8 F9
            have HI : Hid ((xorL 54 K).length = 64) := by show _ = _; rw [xorL_len, HKl.out]
            have HO : Hid ((xorL 92 K).length = 64) := by show _ = _; rw [xorL_len, HKl.out]
            have hIb := xorL_bytes 54 K
            have hOb := xorL_bytes 92 K
            have HM1 := HMAC.out
            obtain ⟨inn, hinn⟩ : ∃ p, p = xorL 54 K := ⟨_, rfl⟩
            obtain ⟨out, hout⟩ : ∃ p, p = xorL 92 K := ⟨_, rfl⟩
            rw [← hinn] at F8 HI hIb HM1
            rw [← hout] at F9 HO hOb HM1
            have HS1 : Hid ((sumOf (inn ++ bs)).length = 32) := sumOf_len _
            have hS1b := sumOf_bytes (inn ++ bs)
            have hal : (inn ++ bs).length = 64 + n2 := by rw [List.length_append, HI.out, HBL.out]
            have hab := hIb.append HB.out
            have cs1 := fun w A c h => cs w A (64 + n2) c (inn ++ bs) (by omega) h
            obtain ⟨s1, hs1⟩ : ∃ p, p = sumOf (inn ++ bs) := ⟨_, rfl⟩
            rw [← hs1] at HS1 hS1b cs1 HM1
            have hal2 : (out ++ s1).length = 96 := by rw [List.length_append, HO.out, HS1.out]
            have hab2 := hOb.append hS1b
            have cs2 := fun w A c h => cs w A 96 c (out ++ s1) (by omega) h
            rw [← HM1] at cs2
            have HF8 := Lib.hid F8
            have HF9 := Lib.hid F9
            have HAL := Lib.hid hal
            have HAL2 := Lib.hid hal2
            have A4r := Lib.hid (A46.out.over hB.out)
            have Br := Lib.hid (step B6.out hB.out)
            have H2r := Lib.hid (HH2.out.over Br.out)
            obtain ⟨w7, hw7⟩ : ∃ x, x = wr := ⟨_, rfl⟩
            rw [← hw7] at HF8 HF9 A4r Br H2r hbs hB ⊢
            clear hw7 hinn hout hs1 HM1 hal hal2 F8 F9 hO8 hO9 hl8 hl9 A46 B6 HMAC cs
            go_wp2_with (first
              | (at_builtin; refine wpList_append_bytes rfl (.tmp 57) (.tmp 58) rfl w6.heap.size _ inn rfl HF8.out _ A2 n2 c2 bs rfl H2r.out (by rw [HI.out, HBL.out]; omega) hbs.out ?_; intro v8 w8 o8 b8 g8; have hO9' := Lib.hid (HF9.out.grown g8 hAp.out); obtain ⟨A8, c8, rfl, h8⟩ := o8.out.holds hab (by rw [HAL.out]; omega); rw [HAL.out] at h8 ⊢; have H8 := Lib.hid h8; have B8 := Lib.hid (Br.out.trans (b8.mono (Nat.le_trans hw4 hbs4.out))); have A48 := Lib.hid (A4r.out.below b8 (Nat.lt_of_lt_of_le s4 hbs4.out)); have Q8 := Lib.hid (hB.out.trans b8); clear g8 o8 h8 b8)
              | fail)
            refine (cs1 _ _ _ H8.out).out.mono ?_
            rintro e w9 ⟨rfl, b9⟩
            have O99 := Lib.hid (hO9'.out.below b9)
            have A49 := Lib.hid (A48.out.over b9)
            have B9 := Lib.hid (step B8.out b9)
            have Q9 := Lib.hid (Q8.out.trans (b9.mono Q8.out.size))
            clear b9 hO9' A48 B8 Q8 H8 cs1 H2r A4r Br HF8 HF9 hB
            go_wp2_with (first
              | ((with_reducible show wpList _ _ _ (⟨some 11, _, _, _, _, _⟩ :: _) _ _); refine wpList_alloc_arr rfl _ rfl .u8 X 32 HX1 ?_; intro g11 w10 e10 s10 A10 b10)
              | ((with_reducible show wpList _ _ _ (⟨none, .store _ (.tmp 11) _, _, _, _, _⟩ :: _) _ _); refine wpList_store_arr rfl _ (.tmp 11) (.tmp 61) rfl g11 rfl .u8 _ _ s1 rfl A10 32 size_o HX HS1 ?_; intro w11 A11 o11 s11)
              | fail)
            have q9 := Q9.out.size
            have d9 := B9.out.size
            have b11 : Below w9.heap.size w9 w11 := b10.out.trans (o11.out.below e10)
            have O911 := Lib.hid (O99.out.below b11)
            have A411 := Lib.hid (A49.out.over b11)
            have B11 := Lib.hid (step B9.out b11)
            have Q11 := Lib.hid (Q9.out.trans (b11.mono q9))
            have hg4w6 : g4 < w6.heap.size := Nat.lt_of_lt_of_le s4 hbs4.out
            have hT : (24 : TypeId) ≠ 5 := by decide
            have hq11 := Q11.out.size
            have d6 : w.heap.size ≤ w6.heap.size := Nat.le_trans hw4 hbs4.out
            clear O99 A49 B9 Q9 b11 b10 o11 A10 q9 d9 e10 s10
            go_loopw [9, 12] (fun v9 i wr => ∃ k : Nat, k ≤ 32 ∧ i = .int .i64 k ∧ Hid (OwnK .u8 5 wr w6.heap.size v9 (out ++ s1.take k)) ∧ Hid (Arr wr g11 .u8 24 s1) ∧ Hid (Below w6.heap.size w11 wr)) (fun _ i _ => 32 - (intOf i).toNat)
            case atStart => exact ⟨0, by omega, rfl, by rw [List.take_zero, List.append_nil]; exact O911, A11, Below.refl _ _⟩
            case round =>
              obtain ⟨k, hk, rfl, hO9, hA, hB⟩ := hrel
              have hbs9 : Hid (w6.heap.size ≤ wr.heap.size) := Nat.le_trans hq11 hB.out.size
              have hl9 : Hid ((out ++ s1.take k).length = 64 + k) := by show _ = _; rw [List.length_append, HO.out, List.length_take, HS1.out]; omega
              by_cases hlt3 : k < 32
              · have gc := hA.out.cell (i := k) (by rw [HS1.out]; exact hlt3)
                have he := take_snoc s1 k (by rw [HS1.out]; exact hlt3)
                have hbk := hS1b.getD k
                obtain ⟨y, hy⟩ : ∃ y, y = s1.getD k 0 := ⟨_, rfl⟩
                rw [← hy] at gc he hbk
                obtain ⟨hbk0, hbk1⟩ := hbk
                clear hy
                go_wp2_with (first
                  | (at_builtin; refine wpList_append_lit rfl (.tmp 66) (.tmp 70) .u8 22 5 1 Tryd.underlying22 info_b rfl w6.heap.size _ (out ++ s1.take k) [y] _ rfl 1 1 rfl rfl rfl hO9.out (by rw [hl9.out]; omega) (by rw [hl9.out]; omega) hbs9.out ?_; intro v1 w1 ho1 hg1)
                  | fail)
                have F9 := ho1.out
                rw [List.append_assoc, he] at F9
                have FA := hA.out.grew hg1.out hO9.out hT
                have FB := hB.out.trans (hg1.out.below hO9.out hbs9.out)
                go_roundw
                case rel => exact ⟨k + 1, by omega, by go_num, F9, FA, FB⟩
                case measure => simp [intOf]; omega
              · have hk32 : k = 32 := by omega
                have F9 : Own wr w6.heap.size u9 (out ++ s1) := by
                  have h0 := hO9.out
                  rwa [List.take_of_length_le (by rw [HS1.out]; omega)] at h0
                obtain ⟨A9, c9, rfl, h9⟩ := F9.holds hab2 (by rw [HAL2.out]; omega)
                rw [HAL2.out] at h9 ⊢
                have H9 := Lib.hid h9
                have A4f := Lib.hid (A411.out.below hB.out hg4w6)
                have Bf := Lib.hid (B11.out.trans (hB.out.mono d6))
                clear h9 F9 hO9 hA hB hl9 A411 B11 Q11 O911 A11
                go_wp2_with fail
                refine (cs2 _ _ _ H9.out).out.mono ?_
                rintro e w12 ⟨rfl, b12⟩
                have A412 := Lib.hid (A4f.out.over b12)
                have B12 := Lib.hid (step Bf.out b12)
                clear b12 A4f Bf H9
                go_wp2_with (first
                  | ((with_reducible show wpList _ _ _ (⟨none, .store _ (.tmp 4) _, _, _, _, _⟩ :: _) _ _); refine wpList_store_arr rfl _ (.tmp 4) (.tmp 73) rfl g4 rfl .u8 _ _ R rfl A412 32 size_o HX HR ?_; intro w19 A19 o19 s19)
                  | fail)
                refine bodyPost_ret (v := .agg (R.map (Value.int .u8)).toArray) ?_ rfl ⟨rfl, B12.out.trans (o19.out.below e4)⟩
                exact results_cell_row rfl _ _ g4 _ _ (0, 0) _ rfl A19.out Tryd.underlying24 rfl (by rw [size_o]; have := HR.out; simp [this])
end Go.Proofs.YtomdgiikjnghcaaDoor
