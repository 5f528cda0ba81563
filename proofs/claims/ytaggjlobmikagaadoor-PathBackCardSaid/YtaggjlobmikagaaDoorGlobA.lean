/-
  Layer 5: the conversions between texts and rows of runes; contracts of glob.isText, glob.longer, glob.Plain.
-/
import Derived.Test.YtaggjlobmikagaaDoorUtfD
import Derived.Test.YtaggjlobmikagaaDoorGlob1
import Derived.Test.YtaggjlobmikagaaDoorSide
import Derived.Laws.IdiomStrings
import Derived.Laws.Cover4
import Derived.Lib.RuneCount
import Derived.Lib.IndexLaws
namespace Go.Proofs.YtaggjlobmikagaaDoor
open Go.RowKit

/-! ### a text as a row of runes -/

theorem runesFrom_text (s : ByteArray) (bound pos : Nat) (acc : Array Value) (hb : s.size ≤ pos + bound) (ht : isText (s.data.toList.drop pos) = true) :
    (Conv.runesFrom s bound pos acc).toList = acc.toList ++ (letters (s.data.toList.drop pos)).map (Value.int .i32) := by
  induction bound generalizing pos acc with
  | zero => rw [next_end s pos (by omega)]; simp [Conv.runesFrom]
  | succ b ih =>
    unfold Conv.runesFrom
    by_cases hp : pos < s.size
    · obtain ⟨m1, m2, _⟩ := next_text s pos hp ht
      obtain ⟨_, n2, _⟩ := next_any s pos hp
      rw [if_pos hp]
      show (Conv.runesFrom s b (pos + (Utf8.decode s pos).2) (acc.push (.int .i32 (Int.ofNat (Utf8.decode s pos).1)))).toList = _
      rw [ih (pos + (Utf8.decode s pos).2) _ (by omega) m2, m1]
      simp
    · rw [if_neg hp, next_end s pos hp]; simp
theorem runesFrom_all (s : ByteArray) (ht : isText s.data.toList = true) : Conv.runesFrom s s.size 0 #[] = ((letters s.data.toList).map (Value.int .i32)).toArray := by
  have h := runesFrom_text s s.size 0 #[] (by omega) (by rwa [List.drop_zero])
  rw [List.drop_zero] at h
  apply Array.toList_inj.1
  rw [h]
  rfl
theorem runeCount_from (s : ByteArray) (bound pos : Nat) (hb : s.size ≤ pos + bound) : Lib.runeCountFrom s bound pos = (letters (s.data.toList.drop pos)).length := by
  induction bound generalizing pos with
  | zero => rw [next_end s pos (by omega)]; rfl
  | succ b ih =>
    unfold Lib.runeCountFrom
    by_cases hp : pos < s.size
    · obtain ⟨n1, n2, _⟩ := next_any s pos hp
      rw [if_pos hp, ih (pos + (Utf8.decode s pos).2) (by omega), n1, List.length_cons, Nat.add_comm]
    · rw [if_neg hp, next_end s pos hp]; rfl
theorem runeCount_letters (s : ByteArray) : Lib.runeCount s = (letters s.data.toList).length := by
  have h := runeCount_from s s.size 0 (by omega)
  rwa [List.drop_zero] at h

/-- '[]rune(s)' of a text -/
theorem wpList_runes {w : World} {ops : Array Oper} {rest : List Oper} {o : Oper} {a : Act} {Q : Exit → Act → World → Prop} (hg : o.guard = none) (x : Operand) (ho : o.op = .convert 9 51 x) (s : ByteArray) (hx : a.eval x = .string s) (ht : isText s.data.toList = true) (hn : s.size ≤ 70368744177664)
    (h : ∀ v w', Hid (OwnK .i32 21 w' w.heap.size v (letters s.data.toList)) → Hid (Below w.heap.size w w') → wpList Tryd.prog ops Q rest (a.put o.dst v) w') :
    wpList Tryd.prog ops Q (o :: rest) a w := by
  have hl := letters_le s.data.toList
  rw [← Lib.size_eq] at hl
  have hrun := run_runes_of_string (P := Tryd.prog) w 9 51 21 s Tryd.underlying9 Tryd.underlying51 Tryd.underlying21 (by rw [runesFrom_all s ht]; simp; omega)
  rw [runesFrom_all s ht] at hrun
  simp only [List.size_toArray, List.length_map] at hrun
  refine wpList_plain hg fun K hK => ?_
  unfold Oper.wp execOp
  simp only [ho, hx, hrun, Sem.run_bind, Result.andThen_ok, Sem.run_pure]
  refine hK _ _ (h _ _ ?_ (((Below.refl _ _).drew).alloc (Nat.le_refl _) _))
  have hge := grownCap_ge w (letters s.data.toList).length 0 21
  have hle := grownCap_le_maxLen w (letters s.data.toList).length 0 21 (by unfold maxLen; omega)
  refine ⟨by simp, .inr ⟨w.heap.size, _, _, rfl, Nat.le_refl _, heap_alloc_new w.drew _, hge, hle, by simp; omega, ?_⟩⟩
  rw [Array.toList_append]
  simp

theorem utf8_encode {r : Int} (h : IsLetter r) : Utf8.encode r = ⟨(enc r).toArray⟩ := by
  have hv : Utf8.valid r = true := by
    obtain ⟨h0, h1, h2⟩ := h
    unfold Utf8.valid
    simp only [Bool.or_eq_true, Bool.and_eq_true, decide_eq_true_eq]
    omega
  rw [enc_letter h]
  obtain ⟨h0, h1, h2⟩ := h
  unfold Utf8.encode Lib.encodeRune
  simp only [hv, if_true]
  obtain ⟨n, rfl⟩ := Int.eq_ofNat_of_zero_le h0
  simp only [Int.toNat_natCast]
  by_cases c1 : n < 128
  · rw [if_pos c1, Lib.encodeRuneZ_one (by omega) (by omega)]
    rfl
  rw [if_neg c1]
  by_cases c2 : n < 2048
  · rw [if_pos c2, Lib.encodeRuneZ_two (by omega) (by omega)]
    rfl
  rw [if_neg c2]
  by_cases c3 : n < 65536
  · rw [if_pos c3, Lib.encodeRuneZ_three (by omega)]
    rfl
  · rw [if_neg c3, Lib.encodeRuneZ_four (by omega) (by omega)]
    rfl
theorem runesBytes_from (ns : List Int) (h : ∀ r ∈ ns, IsLetter r) (s : ByteArray) : ns.foldl (fun r n => r ++ Utf8.encode n) s = ⟨(s.data.toList ++ ns.flatMap enc).toArray⟩ := by
  induction ns generalizing s with
  | nil => simp
  | cons r rs ih =>
    rw [List.foldl_cons, ih (fun q hq => h q (List.mem_cons_of_mem _ hq)), utf8_encode (h r List.mem_cons_self), List.flatMap_cons]
    simp [ByteArray.data_append]
/-- 'string(b)' of a row of letters of the call's own -/
theorem run_string_runes {w : World} {base : Nat} {v : Value} {xs : List Int} (h : OwnK .i32 21 w base v xs) (hx : ∀ r ∈ xs, IsLetter r) :
    (convert 51 9 v).run Tryd.prog w = .ok (.string ⟨(xs.flatMap enc).toArray⟩) w := by
  have hb : runesBytes xs = ⟨(xs.flatMap enc).toArray⟩ := by
    unfold runesBytes
    rw [runesBytes_from xs hx]
    rfl
  obtain ⟨A, n, c, rfl, hl, _, _, hA, hc⟩ := h.open
  rcases h.2 with ⟨h1, h0⟩ | ⟨g, cap, cur, h1, _, hg, _, _, hcs, htk⟩
  · cases h1
    obtain rfl : xs = [] := List.eq_nil_of_length_eq_zero h0
    exact run_convert_runes_nil w 51 9 21 0 0 Tryd.underlying51 Tryd.underlying21 Tryd.underlying9
  · cases h1
    have := run_convert_runes (P := Tryd.prog) w 51 9 21 ⟨g, 0, none⟩ xs.length c xs (by omega) Tryd.underlying51 Tryd.underlying21 Tryd.underlying9 (fun j hj => by
      obtain ⟨g', e1, _, _, hcc⟩ := hc (by omega)
      cases e1
      have e2 : (⟨g, 0, none⟩ : Addr).add j = ⟨g, j, none⟩ := by
        by_cases hj0 : j = 0
        · subst hj0; simp [Addr.add]
        · simp [Addr.add, hj0]
      rw [e2]
      exact hcc j (by omega))
    rw [List.take_of_length_le (by omega), hb] at this
    exact this

/-! ### isText, longer, Plain -/

theorem textErr_zero (l : List UInt8) : (textErr l == 0) = isText l := by
  unfold textErr
  cases isText l <;> rfl

theorem index_mem (l : List UInt8) (c : UInt8) : decide (0 ≤ Lib.indexByte l c) = l.any fun b => decide (b.toNat = c.toNat) := by
  rw [Bool.eq_iff_iff, decide_eq_true_eq, List.any_eq_true]
  constructor
  · intro h
    obtain ⟨o, ho⟩ := Int.eq_ofNat_of_zero_le h
    have := (Lib.indexByte_some ho).1
    refine ⟨c, List.mem_of_getElem? this, by simp⟩
  · rintro ⟨b, hb, he⟩
    have he : b = c := UInt8.toNat_inj.1 (by simpa using he)
    subst he
    have h1 := Lib.indexByte_ge l b
    by_cases h : Lib.indexByte l b = -1
    · obtain ⟨k, hk⟩ := List.getElem?_of_mem hb
      exact absurd hk (Lib.indexByte_none h k)
    · omega
theorem plain_split (l : List UInt8) : plainOf l = (isText l && !(l.any fun b => decide (b.toNat = 42)) && !(l.any fun b => decide (b.toNat = 63))) := by
  unfold plainOf
  rw [Bool.and_assoc]
  congr 1
  induction l with
  | nil => rfl
  | cons b l ih =>
    rw [List.all_cons, List.any_cons, List.any_cons, ih]
    by_cases h1 : b.toNat = 42 <;> by_cases h2 : b.toNat = 63 <;> cases (l.any fun b => decide (b.toNat = 42)) <;> cases (l.any fun b => decide (b.toNat = 63)) <;> simp [h1, h2]

end Go.Proofs.YtaggjlobmikagaaDoor
