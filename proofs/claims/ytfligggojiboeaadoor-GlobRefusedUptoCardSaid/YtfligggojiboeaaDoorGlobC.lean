/-
  Layer 5: the contract of glob.fits.
-/
import Derived.Test.YtfligggojiboeaaDoorGlobB
import Derived.StillTailTactics
import Derived.WalkMore
import Derived.Deep.DeepCutAuto
namespace Go.Proofs.YtfligggojiboeaaDoor
open Go.RowKit

theorem Contains_any (w : World) (base : Nat) (v : Value) (xs : List Int) (x : Int) (h : OwnK .i64 3 w base v xs) :
    Calls Tryd.prog 35 #[v, .int .i64 x] w fun e w' => e = .returned (.bool (xs.contains x)) ∧ w' = w := by
  obtain ⟨A, n, c, rfl, hl, _, h63, _, hc⟩ := h.open
  by_cases h0 : 0 < n
  · obtain ⟨g, rfl, _, _, hcc⟩ := hc h0
    have := Tryd.slices_Contains_int g 0 n c xs x w (by omega) h63 (fun j hj => by rw [Nat.zero_add]; exact hcc j (by omega))
    rwa [List.take_of_length_le (by omega)] at this
  · obtain rfl : n = 0 := by omega
    obtain rfl : xs = [] := List.eq_nil_of_length_eq_zero hl
    exact Tryd.slices_Contains_int_empty A c x w

theorem contains_end (p t : List Int) : (ints (places p t)).contains (p.length : Int) = fitAt p p.length t := by
  rw [Bool.eq_iff_iff, fitAt_all p t _ (Nat.le_refl _), ← places_end, List.contains_iff_mem]
  unfold ints
  rw [List.mem_map]
  constructor
  · rintro ⟨a, ha, he⟩
    rwa [show a = p.length by omega] at ha
  · intro h
    exact ⟨_, h, rfl⟩

/-- the same slice, without its elements -/
theorem OwnK.cut0 {k : IntKind} {e : TypeId} {w : World} {base : Nat} {A : Option Addr} {n c : Nat} {xs : List Int} (h : OwnK k e w base (.slice A n c) xs) : OwnK k e w base (.slice A 0 c) [] := by
  refine ⟨rfl, ?_⟩
  rcases h.2 with ⟨h1, _⟩ | ⟨g, cap, cur, h1, hb, hg, hnc, hcm, hcs, htk⟩
  · cases h1
    exact .inl ⟨rfl, rfl⟩
  · cases h1
    exact .inr ⟨g, c, cur, rfl, hb, hg, Nat.zero_le _, hcm, hcs, by simp⟩

theorem apart_types {k k' : IntKind} {e e' : TypeId} {w : World} {base base' : Nat} {v u : Value} {xs ys : List Int} (h : OwnK k e w base v xs) (h' : OwnK k' e' w base' u ys) (hne : e ≠ e') : Apart v u := fun i hv hui => by
  obtain ⟨_, cs, h1⟩ := h.block hv
  obtain ⟨_, cs', h2⟩ := h'.block hui
  rw [h1] at h2
  simp only [Option.some.injEq, Obj.cells.injEq] at h2
  exact hne h2.2.1

/-- what stays while the places are told: the pattern's variable, the letters, the row u of places before -/
structure Kept (w wr : World) (base base' : Nat) (q t u : Value) (p xs zs : List Int) : Prop where
  box : Box wr w.heap.size 38 q
  pat : OwnK .i32 21 wr base q p
  text : OwnK .i32 21 wr base' t xs
  row : OwnK .i64 3 wr w.heap.size u zs
  below : Below w.heap.size w wr
theorem Kept.turned {w wr w' : World} {base base' : Nat} {q t u v : Value} {p xs zs ys : List Int} (K : Kept w wr base base' q t u p xs zs) (hB : Box wr (w.heap.size + 1) 33 v) (ho : OwnK .i64 3 wr w.heap.size v ys) (ha : Apart v u) (hT : Turned wr w' (w.heap.size + 1) v) :
    Kept w w' base base' q t u p xs zs :=
  ⟨K.box.turned hT (by omega) (K.box.own ho (by decide)), K.pat.turned hT (hB.own K.pat (by decide)) (apart_types ho K.pat (by decide)), K.text.turned hT (hB.own K.text (by decide)) (apart_types ho K.text (by decide)),
    K.row.turned hT (hB.own K.row (by decide)) ha, K.below.trans (hT.below (by omega) ho K.below.size)⟩
theorem Kept.only {w wr w' : World} {base base' : Nat} {q t u v : Value} {p xs zs : List Int} (K : Kept w wr base base' q t u p xs zs) (hB : Box wr (w.heap.size + 1) 33 v) (hO : Only (w.heap.size + 1) wr.drew w') : Kept w w' base base' q t u p xs zs := by
  have hO' : Only (w.heap.size + 1) wr w' := ⟨hO.os, hO.tape, hO.output, hO.size, hO.rest⟩
  exact ⟨K.box.only hO' (by omega), K.pat.only hO' hB (by decide), K.text.only hO' hB (by decide), K.row.only hO' hB (by decide), K.below.trans (hO'.below (by omega))⟩

set_option maxRecDepth 100000 in
set_option maxHeartbeats 4000000 in
theorem fits_any (w : World) (q t : Value) (p xs : List Int) (base base' : Nat) (hq : OwnK .i32 21 w base q p) (ht : OwnK .i32 21 w base' t xs) (hp : p.length ≤ 1000) (_hx : xs.length ≤ 1000) :
    Calls Tryd.prog 24 #[q, t] w fun e w' => e = .returned (.bool (fitAt p p.length xs)) ∧ Below w.heap.size w w' := by
  have hmf : ∀ (fn : Fn) (first cap : Array Value) (w : World), (Instr.makeFunc fn first cap).run Tryd.prog w = .ok (.func fn first cap) w := fun _ _ _ _ => rfl
  obtain ⟨Aq, nq, cq, hqe, hnq, _, _, _, hcq⟩ := hq.open
  obtain ⟨At, nt, ct, hte, hnt, _, _, _, hct⟩ := ht.open
  have B2 : Box ((w.alloc (.cells #[q] 38)).alloc (.cells #[.slice none 0 0] 33)) w.heap.size 38 q := Box.alloc (heap_alloc_new w _) _
  have B1 : Box ((w.alloc (.cells #[q] 38)).alloc (.cells #[.slice none 0 0] 33)) (w.heap.size + 1) 33 (.slice none 0 0) := by
    have e : (w.alloc (.cells #[q] 38)).heap.size = w.heap.size + 1 := by simp
    rw [← e]
    exact heap_alloc_new (w.alloc (.cells #[q] 38)) (.cells #[.slice none 0 0] 33)
  have hq2 := (hq.alloc (.cells #[q] 38)).alloc (.cells #[.slice none 0 0] 33)
  have ht2 := (ht.alloc (.cells #[q] 38)).alloc (.cells #[.slice none 0 0] 33)
  have hb2 : Below w.heap.size w ((w.alloc (.cells #[q] 38)).alloc (.cells #[.slice none 0 0] 33)) := ((Below.refl _ _).alloc (Nat.le_refl _) _).alloc (by simp) _
  have hsz2 : w.heap.size ≤ ((w.alloc (.cells #[q] 38)).alloc (.cells #[.slice none 0 0] 33)).heap.size := by simp; omega
  have c0 := wait_any ((w.alloc (.cells #[q] 38)).alloc (.cells #[.slice none 0 0] 33)) w.heap.size base (w.heap.size + 1) w.heap.size (.slice none 0 0) q [] p 0 0 (Nat.zero_le _) (by omega) (by simp) (.inl ⟨rfl, rfl⟩) B1 B2 (OwnK.nil _ _ _ _) hq2 hsz2
  rw [wait_first, show ((0 : Nat) : Int) = 0 from rfl] at c0
  have C0 := Lib.hid c0
  have HB2 := Lib.hid B2
  have HB1 := Lib.hid B1
  have HQ2 := Lib.hid hq2
  have HT2 := Lib.hid ht2
  have HBB := Lib.hid hb2
  have HS2 := Lib.hid hsz2
  have HNQ := Lib.hid hnq
  have HNT := Lib.hid hnt
  clear c0 B2 B1 hq2 ht2 hb2 hsz2 hnq hnt
  subst hqe
  subst hte
  go_enter Tryd.func24, Tryd.ntmps24
  go_wp2_with fail
  refine C0.out.mono ?_
  rintro e w1 ⟨rfl, u1, hB1, ho1, hT1, hW1⟩
  have X2 : Hid (Box w1 w.heap.size 38 (.slice Aq nq cq)) := HB2.out.turned hT1 (by omega) (by intro h; cases h)
  have XQ : Hid (OwnK .i32 21 w1 base (.slice Aq nq cq) p) := HQ2.out.turned hT1 (HB1.out.own HQ2.out (by decide)) (Apart.nil _)
  have XT : Hid (OwnK .i32 21 w1 base' (.slice At nt ct) xs) := HT2.out.turned hT1 (HB1.out.own HT2.out (by decide)) (Apart.nil _)
  have XB : Hid (Below w.heap.size w w1) := HBB.out.trans (hT1.below (by omega) (OwnK.nil .i64 3 _ w.heap.size) HS2.out)
  have X1 := Lib.hid hB1
  have XO := Lib.hid ho1
  clear hB1 ho1 hT1 hW1 HB2 HB1 HQ2 HT2 HBB HS2 C0
  go_wp2
  go_loopw [5, 17] (fun v i wr => ∃ (j : Nat) (u : Value) (zs : List Int), i = .int .i64 j ∧ j ≤ nt ∧ Hid (Box wr (w.heap.size + 1) 33 u) ∧ Hid (OwnK .i64 3 wr w.heap.size u (ints (places p (xs.take j)))) ∧ Hid (Apart u v) ∧ Hid (Kept w wr base base' (.slice Aq nq cq) (.slice At nt ct) v p xs zs)) (fun _ i _ => nt - (intOf i).toNat)
  case atStart => exact ⟨0, u1, [], rfl, Nat.zero_le _, X1, by simpa using XO, Apart.nil' _, ⟨X2.out, XQ.out, XT.out, OwnK.nil _ _ _ _, XB.out⟩⟩
  case round =>
    clear X1 X2 XQ XT XB XO
    obtain ⟨j, u, zs, rfl, hj, X1, XU, XA, XK⟩ := hrel
    have hbs := XK.out.below.size
    by_cases hlt : j < nt
    · obtain ⟨gt, rfl, _, _, _⟩ := hct (by omega)
      have gx := XK.out.text.at hlt
      obtain ⟨x, hxx⟩ : ∃ x, x = xs.getD j 0 := ⟨_, rfl⟩
      rw [← hxx] at gx
      obtain ⟨T, hTT⟩ : ∃ T, T = xs.take j := ⟨_, rfl⟩
      have hTn : xs.take (j + 1) = T ++ [x] := by
        have := HNT.out
        rw [List.take_succ_eq_append_getElem (by omega), hTT, hxx]
        simp [show j < xs.length by omega]
      rw [← hTT] at XU
      have HTN := Lib.hid hTn
      obtain ⟨Av, nv, cv, rfl, hnv, hnc, h63, _, _⟩ := XK.out.row.open
      obtain ⟨Au, nu, cu, rfl, hnu, hnuc, hu63, _, hcu⟩ := XU.out.open
      rw [ints_len] at hnu
      have HNU := Lib.hid hnu
      have gb1 := X1.out.cell
      have gf1 := X1.out.frozen
      clear hxx hnv hnu hcu hct hTT hTn
      go_wp2
      go_step3
      apply wp_seq_k
      intro _ _
      go_still_tail 4, (by kernel_rfl)
      change wpList _ _ _ _ _ wr.drew
      have XV0 : Hid (OwnK .i64 3 wr w.heap.size (.slice Av 0 cv) []) := XK.out.row.cut0
      have XA0 : Hid (Apart (.slice Av 0 cv) (.slice Au nu cu)) := by
        intro i hi hu
        cases Av with
        | none => cases hi
        | some ad => exact XA.out i hu hi
      refine wpList_store_box rfl _ (.tmp 6) (.tmp 23) rfl (w.heap.size + 1) rfl (.slice Av 0 cv) rfl 33 _ (show Box wr.drew _ _ _ from X1.out) (by kernel_rfl) rfl ?_
      intro w2 Y1 O2
      have YK : Hid (Kept w w2 base base' (.slice Aq nq cq) (.slice (some ⟨gt, 0, none⟩) nt ct) (.slice Au nu cu) p xs (ints (places p T))) :=
        Kept.only ⟨XK.out.box, XK.out.pat, XK.out.text, XU.out, XK.out.below⟩ X1.out O2.out
      have O2' : Only (w.heap.size + 1) wr w2 := ⟨O2.out.os, O2.out.tape, O2.out.output, O2.out.size, O2.out.rest⟩
      have YV : Hid (OwnK .i64 3 w2 w.heap.size (.slice Av 0 cv) []) := XV0.out.only O2' X1.out (by decide)
      clear X1 XU XA XK XV0 O2 O2' gb1 gf1 gx hnc h63 hbs
      go_wp2
      go_step3
      go_wp2
      go_loopw [26] (fun i wr => ∃ (c m : Nat) (v : Value), i = .int .i64 c ∧ c ≤ nu ∧ Hid (Done p T x c m) ∧ Hid (Box wr (w.heap.size + 1) 33 v) ∧ Hid (OwnK .i64 3 wr w.heap.size v (ints (pre p (T ++ [x]) m))) ∧ Hid (Apart v (.slice Au nu cu)) ∧ Hid (Kept w wr base base' (.slice Aq nq cq) (.slice (some ⟨gt, 0, none⟩) nt ct) (.slice Au nu cu) p xs (ints (places p T)))) (fun i _ => nu - (intOf i).toNat)
      case atStart => exact ⟨0, 0, _, rfl, Nat.zero_le _, Done.start p T x, Y1, YV, XA0, YK⟩
      case round =>
        clear Y1 YV XA0 YK
        obtain ⟨c, m, v, rfl, hc, HD, X1, XV, XA, XK⟩ := hrel
        have hbs := XK.out.below.size
        have gb2 := XK.out.box.cell
        by_cases hcu : c < nu
        · have hcF : c < (places p T).length := by have := HNU.out; omega
          have hmm : m ≤ p.length + 1 := Told.le HD.out
          obtain ⟨gu, rfl, _, _, _⟩ : ∃ gu, Au = some ⟨gu, 0, none⟩ ∧ True ∧ True ∧ True := by
            obtain ⟨A', n', c', he, _, _, _, _, hcc⟩ := XK.out.row.open
            cases he
            obtain ⟨g, e1, _⟩ := hcc (by omega)
            exact ⟨g, e1, trivial, trivial, trivial⟩
          have ga := XK.out.row.at hcu
          rw [ints_getD] at ga
          obtain ⟨hale, hal⟩ := places_at p T hcF
          obtain ⟨a, ha⟩ : ∃ a, a = (places p T).getD c 0 := ⟨_, rfl⟩
          have hS := fun h => Done.star HD.out hcF h
          have hO := fun h1 h2 h3 => Done.one HD.out hcF h1 h2 h3
          have hN := fun h1 h2 => Done.none HD.out hcF h1 h2
          rw [← ha] at ga hale hS hO hN
          have hlast := Done.last HD.out
          have gaN := HNQ.out
          have hcell := fun (h : a < nq) => (hcq (by omega))
          by_cases hae : a < nq
          · obtain ⟨gq, rfl, _, _, _⟩ := hcell hae
            have gp := XK.out.pat.at hae
            have hane : ((a : Int) == nq) = false := by simp; omega
            have hap : a < p.length := by omega
            have hpl : p.length ≤ 1000000 := by omega
            have hml : (pre p (T ++ [x]) m).length ≤ 1000000 := by have := pre_len p (T ++ [x]) m; omega
            have c1 := fun k hk => wait_any wr w.heap.size base (w.heap.size + 1) w.heap.size v _ (pre p (T ++ [x]) m) p k m hk hpl hml hlast X1.out XK.out.box XV.out XK.out.pat hbs
            by_cases hs : p.getD a 0 = 42
            · rw [hs] at gp
              have c1 := c1 a hale
              obtain ⟨h1, h2⟩ := hS hs
              rw [h1] at c1
              obtain ⟨M, hM⟩ : ∃ M, M = waitM p m a := ⟨_, rfl⟩
              rw [← hM] at c1 h2
              have C1 := Lib.hid c1
              have HD' := Lib.hid h2
              clear h1 h2 c1 hM hS hO hN hlast hs hcell hale hal ha hcF hmm gaN hap hpl hml
              go_wp2_with fail
              refine C1.out.mono ?_
              rintro e w3 ⟨rfl, v3, hB3, ho3, hT3, hW3⟩
              have HB3 := Lib.hid hB3
              have HO3 := Lib.hid ho3
              have HA3 := Lib.hid (XA.out.whither hW3 XK.out.row)
              have HK3 := Lib.hid (XK.out.turned X1.out XV.out XA.out hT3)
              clear hB3 ho3 hT3 hW3 C1
              go_wp2
              go_roundw
              case rel => exact ⟨c + 1, M, v3, by go_num, hcu, HD', HB3, HO3, HA3, HK3⟩
              case measure => simp [intOf]; omega
            · obtain ⟨pc, hpc⟩ : ∃ pc, pc = p.getD a 0 := ⟨_, rfl⟩
              rw [← hpc] at gp hs hO hN hS
              have ht1 : (pc == 42) = false := by simpa using hs
              have c1 := c1 (a + 1) hap
              rw [show ((a + 1 : Nat) : Int) = (a : Int) + 1 from rfl] at c1
              by_cases h63 : pc = 63
              · have ht2 : (pc == 63) = true := by simpa using h63
                obtain ⟨h1, h2⟩ := hO hap hs (.inl h63)
                rw [h1] at c1
                obtain ⟨M, hM⟩ : ∃ M, M = waitM p m (a + 1) := ⟨_, rfl⟩
                rw [← hM] at c1 h2
                have C1 := Lib.hid c1
                have HD' := Lib.hid h2
                clear h1 h2 c1 hM hS hO hN hlast hs hcell hale hal ha hcF hmm gaN hap hpl hml hpc h63
                go_wp2_with fail
                refine C1.out.mono ?_
                rintro e w3 ⟨rfl, v3, hB3, ho3, hT3, hW3⟩
                have HB3 := Lib.hid hB3
                have HO3 := Lib.hid ho3
                have HA3 := Lib.hid (XA.out.whither hW3 XK.out.row)
                have HK3 := Lib.hid (XK.out.turned X1.out XV.out XA.out hT3)
                clear hB3 ho3 hT3 hW3 C1
                go_wp2
                go_roundw
                case rel => exact ⟨c + 1, M, v3, by go_num, hcu, HD', HB3, HO3, HA3, HK3⟩
                case measure => simp [intOf]; omega
              · have ht2 : (pc == 63) = false := by simpa using h63
                by_cases hx' : pc = x
                · have ht3 : (pc == x) = true := by simpa using hx'
                  obtain ⟨h1, h2⟩ := hO hap hs (.inr hx')
                  rw [h1] at c1
                  obtain ⟨M, hM⟩ : ∃ M, M = waitM p m (a + 1) := ⟨_, rfl⟩
                  rw [← hM] at c1 h2
                  have C1 := Lib.hid c1
                  have HD' := Lib.hid h2
                  clear h1 h2 c1 hM hS hO hN hlast hs hcell hale hal ha hcF hmm gaN hap hpl hml hpc h63 hx'
                  go_wp2_with fail
                  refine C1.out.mono ?_
                  rintro e w3 ⟨rfl, v3, hB3, ho3, hT3, hW3⟩
                  have HB3 := Lib.hid hB3
                  have HO3 := Lib.hid ho3
                  have HA3 := Lib.hid (XA.out.whither hW3 XK.out.row)
                  have HK3 := Lib.hid (XK.out.turned X1.out XV.out XA.out hT3)
                  clear hB3 ho3 hT3 hW3 C1
                  go_wp2
                  go_roundw
                  case rel => exact ⟨c + 1, M, v3, by go_num, hcu, HD', HB3, HO3, HA3, HK3⟩
                  case measure => simp [intOf]; omega
                · have ht3 : (pc == x) = false := by simpa using hx'
                  have HD' := Lib.hid (hN hs (by rintro (h | h) <;> contradiction))
                  clear hS hO hN hlast c1 hs hcell hale hal ha hcF hmm gaN hap hpl hml hpc h63 hx'
                  go_wp2
                  go_roundw
                  case rel => exact ⟨c + 1, m, v, by go_num, hcu, HD', X1, XV, XA, XK⟩
                  case measure => simp [intOf]; omega
          · have hae' : a = nq := by omega
            have HF := Lib.hid (Done.all HD.out (.inr ⟨hcF, by omega⟩))
            clear hS hO hN hlast hcell hale hal hcF hmm gaN
            have hane : ((a : Int) == nq) = true := by simp; omega
            clear hae' ha hae
            go_wp2
            rw [Exit.noGoto_normal]
            go_wp2
            go_roundw
            case rel => exact ⟨j + 1, v, _, by go_num, hlt, X1, by rw [HTN.out, ← HF.out]; exact XV, XA, XK⟩
            case measure => simp [intOf]; omega
        · have hcn : c = nu := by omega
          have HF := Lib.hid (Done.all HD.out (.inl (by rw [hcn]; exact HNU.out.symm)))
          have hcN : ¬ c < nu := hcu
          clear hcn gb2 hcu
          go_wp2
          rw [Exit.noGoto_normal]
          go_wp2
          go_roundw
          case rel => exact ⟨j + 1, v, _, by go_num, hlt, X1, by rw [HTN.out, ← HF.out]; exact XV, XA, XK⟩
          case measure => simp [intOf]; omega
    · obtain rfl : j = nt := by omega
      have c9 := Contains_any wr w.heap.size u (ints (places p (xs.take j))) (p.length : Int) XU.out
      rw [List.take_of_length_le (by have := HNT.out; omega), contains_end, HNQ.out] at c9
      have C9 := Lib.hid c9
      have HB := Lib.hid XK.out.below
      have gb1 := X1.out.cell
      have gb2 := XK.out.box.cell
      have HGoal : Hid (fitAt p p.length xs = fitAt p nq xs) := by show _ = _; rw [HNQ.out]
      obtain ⟨R, hR⟩ : ∃ R, R = fitAt p nq xs := ⟨_, rfl⟩
      rw [← hR] at C9 HGoal
      clear hcq hct c9 X1 XU XA hR
      go_wp2_with fail
      refine C9.out.mono ?_
      rintro e w9 ⟨rfl, rfl⟩
      go_wp2
      go_ret
      exact ⟨ret_bool HGoal.out.symm, HB.out⟩
end Go.Proofs.YtfligggojiboeaaDoor
