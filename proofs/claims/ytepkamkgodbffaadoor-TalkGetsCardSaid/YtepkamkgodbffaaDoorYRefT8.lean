/-
  Contract of the document's GetSay (written by tools/gen_reft8.py).
-/
import Derived.Test.YtepkamkgodbffaaDoorYRefT7
import Derived.Test.YtepkamkgodbffaaDoorZC
namespace Go.Proofs.YtepkamkgodbffaaDoor
open Go.RowKit
set_option linter.unusedVariables false
set_option maxRecDepth 100000

theorem spliced_zero (cur : List Value) (off : Nat) (x : List Int) : spliced cur off (x.take 0) = cur := by
  unfold spliced
  rw [List.take_zero, List.map_nil, List.nil_append, List.length_nil, Nat.add_zero, List.take_append_drop]
theorem spliced_set {cur : List Value} {off j : Nat} {x : List Int} (hj : j < x.length) (hlen : off + x.length ≤ cur.length) : (spliced cur off (x.take j)).set (off + j) (.int .u8 (x.getD j 0)) = spliced cur off (x.take (j + 1)) := by
  have hjl : (x.take j).length = j := by rw [List.length_take]; omega
  have hx : x[j]? = some (x.getD j 0) := by simp [List.getD_eq_getElem?_getD, hj]
  have ht : x.take (j + 1) = x.take j ++ [x.getD j 0] := by rw [List.take_add_one, hx, Option.toList_some]
  unfold spliced
  rw [ht, List.map_append, List.length_append, hjl]
  rw [List.set_append_right _ _ (by rw [List.length_take]; omega), List.length_take, Nat.min_eq_left (by omega), Nat.add_sub_cancel_left, List.set_append_right _ _ (by rw [List.length_map, hjl]; exact Nat.le_refl _), List.length_map, hjl, Nat.sub_self]
  rw [List.drop_eq_getElem_cons (by omega : off + j < cur.length), List.set_cons_zero]
  simp [Nat.add_assoc]
set_option maxHeartbeats 4000000 in
theorem RGetSay_any (w : World) (c : Int) (A : Option Addr) (n k : Nat) (xs : List Int) (hc : 0 ≤ c ∧ c ≤ 65535) (hx : Holds w w.heap.size A n k xs) :
    Calls Tryd.prog 25 #[.int .u16 c, .slice A n k] w (PGSayPost w c xs) := by
  have hl := hx.len
  have hrm := hx.room
  have HX := Lib.hid hx
  have hby := hx.byte
  have ZH := Lib.hid zero_say
  have BZ := built_say
  have HZ : Hid ((scells (.slice none 0 0) (.slice none 0 0) zeroSay).length = 20) := scells_len zeroSay_ok
  have HZ1 : Hid (∀ v ∈ (scells (.slice none 0 0) (.slice none 0 0) zeroSay), v.oneCell' = true) := (zeroSay_is w 0).one
  have B1 : Tryd.prog.built 93 [(0, .slice A n k)] = some ([.slice A n k, .int .i64 0, .int .i64 0] : List Value).toArray := by kernel_rfl
  have HE : Hid (∀ er, gsayErr c xs = er → er ≠ 0 → ∀ e w', e = .returned (.tuple #[.agg (scells (.slice none 0 0) (.slice none 0 0) zeroSay).toArray, .int .i64 er]) → Below w.heap.size w w' → PGSayPost w c xs e w') := by
    intro er h1 h2 e w' he hb
    unfold PGSayPost gsayOf
    rw [h1, if_neg h2]
    exact ⟨he, hb⟩
  have CK : Hid (∀ w' : World, Calls Tryd.prog 42 #[.int .u16 c] w' fun e w2 => e = .returned (.bool (knownT c)) ∧ w' = w2) := fun w' => RKnownT_any w' c
  obtain ⟨zs, hzs⟩ : ∃ zs, zs = (scells (.slice none 0 0) (.slice none 0 0) zeroSay) := ⟨_, rfl⟩
  have HZS := Lib.hid hzs
  rw [← hzs] at ZH BZ HZ HZ1 HE
  clear hzs
  by_cases hk : knownT c = true
  rotate_left
  · have HQ := Lib.hid (HE.out 2 (by unfold gsayErr; rw [if_neg hk]) (by decide))
    have hk' : knownT c = false := by simpa using hk
    rw [hk'] at CK
    clear hk hk' HE hx
    go_enter Tryd.func25, Tryd.ntmps25
    go_wp2_with (first
      | ((with_reducible show wpList _ _ _ (⟨some 4, _, _, _, _, _⟩ :: _) _ _); refine wpList_alloc_blk rfl _ rfl zs _ ZH ?_; intro h w1 hg1 hg2 Z1 L1)
      | fail)
    refine (CK.out w1).mono ?_
    rintro e w' ⟨rfl, rfl⟩
    go_wp2_with (first
      | ((with_reducible show wpList _ _ _ (⟨some 14, _, _, _, _, _⟩ :: _) _ _); refine wpList_build_none rfl _ rfl zs BZ ?_)
      | ((with_reducible show wpList _ _ _ (⟨none, .store _ (.tmp 4) _, _, _, _, _⟩ :: _) _ _); refine wpList_store_blk rfl _ (.tmp 4) (.tmp 14) rfl h rfl _ zs zs rfl Z1 20 size_say HZ HZ HZ1 ?_; intro wz KZ OZ hgz)
      | fail)
    refine bodyPost_ret (v := .tuple #[.agg zs.toArray, .int .i64 2]) ?_ rfl (HQ.out _ _ rfl (below_only L1.out OZ.out hg1))
    exact results_cell_two rfl _ _ h _ _ (0, 0) _ rfl KZ.out Tryd.underlying45 rfl (by rw [size_say]; have := HZ.out; simp [this]) rfl
  rw [hk] at CK
  by_cases h0 : c = 0
  · subst h0
    have p0 : rd0.p ≤ n := Nat.zero_le _
    have p1 : (rdN xs 2 rd0).2.p ≤ n := rdN_place hl p0
    have p2 : (rdZ xs 2 (rdN xs 2 rd0).2).p ≤ n := rdZ_place hl p1
    have p3 : (rdN xs 4 (rdZ xs 2 (rdN xs 2 rd0).2)).2.p ≤ n := rdN_place hl p2
    have p4 : (rdPart xs 8 (rdN xs 4 (rdZ xs 2 (rdN xs 2 rd0).2)).2).2.p ≤ n := rdPart_place hl p3
    have C1 : Hid (∀ (w' : World) (g : Nat), RdIs w' g A n k rd0 → Below w.heap.size w w' → w.heap.size ≤ g → Calls Tryd.prog 57 #[.pointer (some ⟨g, 0, none⟩), .int .i64 2] w' (RdNPost w' g A n k (rdN xs 2 rd0))) := fun w' g h1 hb hg => rdN_any w' g w.heap.size A n k xs rd0 2 h1 (HX.out.below hb) hg p0 rfl
    have C2 : Hid (∀ (w' : World) (g : Nat), RdIs w' g A n k (rdN xs 2 rd0).2 → Below w.heap.size w w' → w.heap.size ≤ g → Calls Tryd.prog 56 #[.pointer (some ⟨g, 0, none⟩), .int .i64 2, .int .u64 0, .int .i64 5] w' fun e w2 => ∃ y, e = .returned (.int .u64 y) ∧ RdIs w2 g A n k (rdZ xs 2 (rdN xs 2 rd0).2) ∧ Save g w' w2) := fun w' g h1 hb hg => (rdMost_any w' g w.heap.size A n k xs (rdN xs 2 rd0).2 2 0 5 h1 (HX.out.below hb) hg p1 rfl).mono fun e w2 ⟨h1, h2, h3⟩ => ⟨_, h1, by rw [rdMost_Z hby rfl] at h2; exact h2, h3⟩
    have C3 : Hid (∀ (w' : World) (g : Nat), RdIs w' g A n k (rdZ xs 2 (rdN xs 2 rd0).2) → Below w.heap.size w w' → w.heap.size ≤ g → Calls Tryd.prog 57 #[.pointer (some ⟨g, 0, none⟩), .int .i64 4] w' (RdNPost w' g A n k (rdN xs 4 (rdZ xs 2 (rdN xs 2 rd0).2)))) := fun w' g h1 hb hg => rdN_any w' g w.heap.size A n k xs (rdZ xs 2 (rdN xs 2 rd0).2) 4 h1 (HX.out.below hb) hg p2 rfl
    have C4 : Hid (∀ (w' : World) (g : Nat), RdIs w' g A n k (rdN xs 4 (rdZ xs 2 (rdN xs 2 rd0).2)).2 → Below w.heap.size w w' → w.heap.size ≤ g → Calls Tryd.prog 58 #[.pointer (some ⟨g, 0, none⟩), .int .i64 8] w' (RdPartPost w' g A n k (rdPart xs 8 (rdN xs 4 (rdZ xs 2 (rdN xs 2 rd0).2)).2))) := fun w' g h1 hb hg => rdPart_any w' g A n k xs (rdN xs 4 (rdZ xs 2 (rdN xs 2 rd0).2)).2 8 h1 ((HX.out.below hb).mono hb.size) p3 (by omega)
    have CE : Hid (∀ (w' : World) (g : Nat), RdIs w' g A n k (rdPart xs 8 (rdN xs 4 (rdZ xs 2 (rdN xs 2 rd0).2)).2).2 → Calls Tryd.prog 60 #[.pointer (some ⟨g, 0, none⟩)] w' fun e w2 => e = .returned (.int .i64 (rdEnd xs (rdPart xs 8 (rdN xs 4 (rdZ xs 2 (rdN xs 2 rd0).2)).2).2)) ∧ ∃ k, w'.drewN k = w2) := fun w' g h1 => rdEnd_any w' g A n k xs _ h1 hl hrm p4
    unfold RdNPost at C1 C3
    unfold RdPartPost at C4
    have hok := rdPart_ok (m := 8) (r := (rdN xs 4 (rdZ xs 2 (rdN xs 2 rd0).2)).2) hl
    have hbyq := rdPart_bytes hby 8 (rdN xs 4 (rdZ xs 2 (rdN xs 2 rd0).2)).2
    have hm8 : (rdPart xs 8 (rdN xs 4 (rdZ xs 2 (rdN xs 2 rd0).2)).2).1.length ≤ 8 := by unfold rdPart; split <;> (try split) <;> simp <;> omega
    have hd1 := rdN_bounds hby rd0
    have hs1 := rdN_bounds4 hby (rdZ xs 2 (rdN xs 2 rd0).2)
    have hre : rdEnd xs (rdPart xs 8 (rdN xs 4 (rdZ xs 2 (rdN xs 2 rd0).2)).2).2 = 0 → (rdPart xs 8 (rdN xs 4 (rdZ xs 2 (rdN xs 2 rd0).2)).2).2.e = 0 := rdEnd_zero
    have hge : gsayErr 0 xs = rdEnd xs (rdPart xs 8 (rdN xs 4 (rdZ xs 2 (rdN xs 2 rd0).2)).2).2 := by unfold gsayErr gsayP; rw [if_pos hk, if_pos rfl]
    by_cases he : rdEnd xs (rdPart xs 8 (rdN xs 4 (rdZ xs 2 (rdN xs 2 rd0).2)).2).2 = 0
    rotate_left
    · have HQ := Lib.hid (HE.out _ hge he)
      obtain ⟨q1, hq1⟩ : ∃ x, x = rdN xs 2 rd0 := ⟨_, rfl⟩
      rw [← hq1] at C1 C2 C3 C4 p1 p2 p3 p4 hok hbyq hm8 hd1 hs1 CE hre he HQ
      clear hq1
      obtain ⟨z, hz⟩ : ∃ x, x = rdZ xs 2 q1.2 := ⟨_, rfl⟩
      rw [← hz] at C2 C3 C4 p2 p3 p4 hok hbyq hm8 hs1 CE hre he HQ
      clear hz
      obtain ⟨q2, hq2⟩ : ∃ x, x = rdN xs 4 z := ⟨_, rfl⟩
      rw [← hq2] at C3 C4 p3 p4 hok hbyq hm8 hs1 CE hre he HQ
      clear hq2
      obtain ⟨q3, hq3⟩ : ∃ x, x = rdPart xs 8 q2.2 := ⟨_, rfl⟩
      rw [← hq3] at C4 p4 hok hbyq hm8 CE hre he HQ
      clear hq3
      obtain ⟨er, her⟩ : ∃ x, x = rdEnd xs q3.2 := ⟨_, rfl⟩
      rw [← her] at CE he HQ hre
      clear her hre HE hx hk hge hok p0 p1 p2 p3 p4
      obtain ⟨q, hq⟩ : ∃ q, q = q3.1 := ⟨_, rfl⟩
      have HQQ := Lib.hid hq
      rw [← hq] at hbyq hm8 C4
      have HBQ := Lib.hid hbyq
      clear hq
      go_enter Tryd.func25, Tryd.ntmps25
      go_wp2_with (first
        | ((with_reducible show wpList _ _ _ (⟨some 4, _, _, _, _, _⟩ :: _) _ _); refine wpList_alloc_blk rfl _ rfl zs _ ZH ?_; intro h w1 hg1 hg2 Z1 L1)
        | fail)
      refine (CK.out w1).mono ?_
      rintro e w' ⟨rfl, rfl⟩
      go_wp2_with (first
        | ((with_reducible show wpList _ _ _ (⟨some 16, _, _, _, _, _⟩ :: _) _ _); refine wpList_build_blk rfl _ _ rfl [.slice A n k, .int .i64 0, .int .i64 0] (by refine Eq.trans ?_ B1; kernel_rfl) ?_)
        | ((with_reducible show wpList _ _ _ (⟨some 17, _, _, _, _, _⟩ :: _) _ _); refine wpList_box_blk rfl _ (.tmp 16) rfl [.slice A n k, .int .i64 0, .int .i64 0] rfl ?_; intro g w2 hg3 hg4 R2 L2)
        | ((with_reducible show wpList _ _ _ (⟨some 7, _, _, _, _, _⟩ :: _) _ _); refine wpList_alloc_blk rfl _ rfl zs _ ZH ?_; intro s w3 hg5 hg6 X3 L3)
        | fail)
      have B3 := Lib.hid (step (step L1.out L2.out) L3.out)
      have Z3 := Lib.hid ((Z1.out.over L2.out).over L3.out)
      have R3 : Hid (RdIs w3 g A n k rd0) := R2.out.over L3.out
      have hs1 := L1.out.size
      have hs2 := L2.out.size
      have hwg : w.heap.size ≤ g := by omega
      have hws : w.heap.size ≤ s := by omega
      have hsg : s ≠ g := by omega
      have hhg : h ≠ g := by omega
      have hhs : h ≠ s := by omega
      clear R2 L2 L3 Z1 L1 hg3 hg4 hg5 hg6 hs1 hs2 hg2
      refine (C1.out w3 g R3.out B3.out hwg).mono ?_
      rintro e w4 ⟨rfl, hR, hS⟩
      have R4 := Lib.hid hR
      have X4 := Lib.hid (X3.out.save hS hsg)
      have Z4 := Lib.hid (Z3.out.save hS hhg)
      have B4 := Lib.hid (B3.out.trans (hS.below hwg B3.out.size))
      clear hR hS R3 X3 Z3 B3
      go_wp2_with (first
        | ((with_reducible show wpList _ _ _ (⟨none, .store _ (.tmp 23) _, _, _, _, _⟩ :: _) _ _); refine wpList_store_fld rfl _ (.tmp 23) (.tmp 22) rfl s 0 rfl _ zs (.int .u16 q1.1) rfl X4 (by have := HZ.out; show 0 < _; omega) (by kernel_rfl) rfl ?_; intro w5 X5 O5 hgx; have B5 := Lib.hid (below_only B4.out O5.out hws); have Z5 := Lib.hid (Z4.out.only O5.out hhs); have R5 : Hid (RdIs w5 g A n k _) := Blk.only R4.out O5.out (Ne.symm hsg))
        | fail)
      obtain ⟨r1, hr1⟩ : ∃ x, x = zs.set 0 (.int .u16 q1.1) := ⟨_, rfl⟩
      have Hr1 := Lib.hid hr1
      rw [← hr1] at X5
      have Lr1 : Hid (r1.length = 20) := by show _ = _; rw [hr1, List.length_set]; exact HZ.out
      clear hr1 O5 hgx R4 X4 Z4 B4
      refine (C2.out w5 g R5.out B5.out hwg).mono ?_
      rintro e w6 ⟨y6, rfl, hR, hS⟩
      have R6 := Lib.hid hR
      have X6 := Lib.hid (X5.out.save hS hsg)
      have Z6 := Lib.hid (Z5.out.save hS hhg)
      have B6 := Lib.hid (B5.out.trans (hS.below hwg B5.out.size))
      clear hR hS R5 X5 Z5 B5
      go_wp2_with fail
      refine (C3.out w6 g R6.out B6.out hwg).mono ?_
      rintro e w7 ⟨rfl, hR, hS⟩
      have R7 := Lib.hid hR
      have X7 := Lib.hid (X6.out.save hS hsg)
      have Z7 := Lib.hid (Z6.out.save hS hhg)
      have B7 := Lib.hid (B6.out.trans (hS.below hwg B6.out.size))
      clear hR hS R6 X6 Z6 B6
      go_wp2_with (first
        | ((with_reducible show wpList _ _ _ (⟨none, .store _ (.tmp 28) _, _, _, _, _⟩ :: _) _ _); refine wpList_store_fld rfl _ (.tmp 28) (.tmp 27) rfl s 1 rfl _ r1 (.int .u64 q2.1) rfl X7 (by have := Lr1.out; show 1 < _; omega) (by kernel_rfl) rfl ?_; intro w8 X8 O8 hgx; have B8 := Lib.hid (below_only B7.out O8.out hws); have Z8 := Lib.hid (Z7.out.only O8.out hhs); have R8 : Hid (RdIs w8 g A n k _) := Blk.only R7.out O8.out (Ne.symm hsg))
        | fail)
      obtain ⟨r2, hr2⟩ : ∃ x, x = r1.set 1 (.int .u64 q2.1) := ⟨_, rfl⟩
      have Hr2 := Lib.hid hr2
      rw [← hr2] at X8
      have Lr2 : Hid (r2.length = 20) := by show _ = _; rw [hr2, List.length_set]; exact Lr1.out
      clear hr2 O8 hgx R7 X7 Z7 B7
      have hss8 := X8.out.lt
      refine (C4.out w8 g R8.out B8.out hwg).mono ?_
      rintro e w9 ⟨vd, rfl, hR, ho, hS⟩
      have R9 := Lib.hid hR
      have X9 := Lib.hid (X8.out.save hS hsg)
      have Z9 := Lib.hid (Z8.out.save hS hhg)
      have B9 := Lib.hid (B8.out.trans (hS.below hwg B8.out.size))
      have hsz := hS.size
      clear hR hS R8 X8 Z8 B8
      obtain ⟨Av, cv, rfl⟩ := ho.len
      obtain ⟨m, hm⟩ : ∃ m, m = q.length := ⟨_, rfl⟩
      rw [← hm] at ho hm8 ⊢
      have HM := Lib.hid hm
      have P9 := Lib.hid ho
      obtain ⟨bs, hbs⟩ : ∃ x, x = w8.heap.size := ⟨_, rfl⟩
      have hsb : s < bs := by rw [hbs]; exact hss8
      rw [← hbs] at P9
      clear ho hm hbs hsz
      obtain ⟨sc, hsc⟩ : ∃ sc : Nat → List Value, sc = fun j => spliced r2 2 (q.take j) := ⟨_, rfl⟩
      have S0 : Hid (sc 0 = r2) := by rw [hsc]; exact spliced_zero _ _ _
      have SS : Hid (∀ j, j < m → (sc j).set (2 + j) (.int .u8 (q.getD j 0)) = sc (j + 1)) := fun j hj => by rw [hsc]; exact spliced_set (by rw [← HM.out]; exact hj) (by rw [← HM.out, Lr2.out]; omega)
      have SL : Hid (∀ j, j ≤ m → (sc j).length = 20) := fun j hj => by rw [hsc]; show (spliced _ _ _).length = _; rw [spliced_len (by rw [List.length_take, Lr2.out]; omega), Lr2.out]
      have SE : Hid (sc m = spliced r2 2 q) := by show _ = _; rw [hsc, HM.out]; show spliced _ _ _ = _; rw [List.take_of_length_le (Nat.le_refl _)]
      clear hsc
      go_wp2_with fail
      go_loopw [9] (fun i wr => ∃ j : Nat, j ≤ m ∧ i = .int .i64 j ∧ Hid (Blk wr s 45 (sc j)) ∧ Hid (Own wr bs (.slice Av m cv) q) ∧ Hid (RdIs wr g A n k q3.2) ∧ Hid (Blk wr h 45 zs) ∧ Hid (Below w.heap.size w wr)) (fun i _ => m - (intOf i).toNat)
      case atStart => exact ⟨0, Nat.zero_le _, rfl, by rw [S0.out]; exact X9, P9, R9, Z9, B9⟩
      case round =>
        clear X9 P9 R9 Z9 B9
        obtain ⟨j, hj, rfl, XX, PP, RR, ZZ, BB⟩ := hrel
        by_cases hlt : j < m
        · have hh := PP.out.holds_at HM.out.symm HBQ.out (by omega)
          have hmc := hh.fit
          obtain ⟨ab, ao, rfl, hab, hcl⟩ := hh.cells (by omega)
          have gc := hcl j hlt
          have HSN := Lib.hid (SS.out j hlt)
          have HSL := Lib.hid (SL.out j (by omega))
          obtain ⟨y, hy⟩ : ∃ y, y = q.getD j 0 := ⟨_, rfl⟩
          rw [← hy] at gc HSN
          obtain ⟨cj, hcj⟩ : ∃ x, x = sc j := ⟨_, rfl⟩
          rw [← hcj] at XX HSN HSL
          clear hy hcj hcl hh hab
          go_wp2_with (first
            | ((with_reducible show wpList _ _ _ (⟨none, .store _ (.tmp 43) _, _, _, _, _⟩ :: _) _ _); refine wpList_store_fld rfl _ (.tmp 43) (.tmp 41) rfl s (2 + j) rfl _ cj (.int .u8 y) rfl XX (by have := HSL.out; show 2 + j < _; omega) (by kernel_rfl) rfl ?_; intro w1' XN ON hgN; rw [HSN.out] at XN)
            | fail)
          have BN : Hid (Below w.heap.size w w1') := below_only BB.out ON.out hws
          have ZN : Hid (Blk w1' h 45 zs) := ZZ.out.only ON.out hhs
          have RN : Hid (RdIs w1' g A n k q3.2) := Blk.only RR.out ON.out (Ne.symm hsg)
          have PN := Lib.hid (PP.out.only ON.out hsb)
          clear gc HSN XX ZZ RR PP BB ON hgN
          go_roundw
          case rel => exact ⟨j + 1, by omega, by go_num, XN, PN, RN, ZN, BN⟩
          case measure => simp [intOf]; omega
        · obtain rfl : j = m := by omega
          rw [SE.out] at XX
          go_wp2_with fail
          refine (CE.out wr g RR.out).mono ?_
          rintro e wd ⟨rfl, kk, rfl⟩
          have Zd := Lib.hid (Blk.drewN ZZ.out kk)
          have Xd := Lib.hid (Blk.drewN XX.out kk)
          have Bd : Hid (Below w.heap.size w (wr.drewN kk)) := step BB.out (drewed _ kk)
          obtain ⟨wq, hwq⟩ : ∃ wq, wq = wr.drewN kk := ⟨_, rfl⟩
          rw [← hwq] at Zd Xd Bd ⊢
          clear hwq
          go_wp2_with (first
            | ((with_reducible show wpList _ _ _ (⟨some 50, _, _, _, _, _⟩ :: _) _ _); refine wpList_build_none rfl _ rfl zs BZ ?_)
            | ((with_reducible show wpList _ _ _ (⟨none, .store _ (.tmp 4) _, _, _, _, _⟩ :: _) _ _); refine wpList_store_blk rfl _ (.tmp 4) (.tmp 50) rfl h rfl _ zs zs rfl Zd 20 size_say HZ HZ HZ1 ?_; intro wz KZ OZ hgz)
            | fail)
          refine bodyPost_ret (v := .tuple #[.agg zs.toArray, .int .i64 er]) ?_ rfl (HQ.out _ _ rfl (below_only Bd.out OZ.out hg1))
          exact results_cell_two rfl _ _ h _ _ (0, 0) _ rfl KZ.out Tryd.underlying45 rfl (by rw [size_say]; have := HZ.out; simp [this]) rfl
    have HQ : Hid (∀ e w', e = .returned (.tuple #[.agg (scells (.slice none 0 0) (.slice none 0 0) ({ zeroSay with dia := (rdN xs 2 rd0).1, siz := (rdN xs 4 (rdZ xs 2 (rdN xs 2 rd0).2)).1, chal := (rdPart xs 8 (rdN xs 4 (rdZ xs 2 (rdN xs 2 rd0).2)).2).1 } : SayV)).toArray, .int .i64 0]) → Below w.heap.size w w' → PGSayPost w 0 xs e w') := by
      intro e w' h1 h3
      have h4 : gsayOf 0 xs = { zeroSay with dia := (rdN xs 2 rd0).1, siz := (rdN xs 4 (rdZ xs 2 (rdN xs 2 rd0).2)).1, chal := (rdPart xs 8 (rdN xs 4 (rdZ xs 2 (rdN xs 2 rd0).2)).2).1 } := by unfold gsayOf; rw [hge, he, if_pos rfl]; unfold gsayP; rw [if_pos rfl]
      unfold PGSayPost
      rw [h4, hge, he]
      exact ⟨h1, h3⟩
    obtain ⟨q1, hq1⟩ : ∃ x, x = rdN xs 2 rd0 := ⟨_, rfl⟩
    rw [← hq1] at C1 C2 C3 C4 p1 p2 p3 p4 hok hbyq hm8 hd1 hs1 CE hre he HQ
    clear hq1
    obtain ⟨z, hz⟩ : ∃ x, x = rdZ xs 2 q1.2 := ⟨_, rfl⟩
    rw [← hz] at C2 C3 C4 p2 p3 p4 hok hbyq hm8 hs1 CE hre he HQ
    clear hz
    obtain ⟨q2, hq2⟩ : ∃ x, x = rdN xs 4 z := ⟨_, rfl⟩
    rw [← hq2] at C3 C4 p3 p4 hok hbyq hm8 hs1 CE hre he HQ
    clear hq2
    obtain ⟨q3, hq3⟩ : ∃ x, x = rdPart xs 8 q2.2 := ⟨_, rfl⟩
    rw [← hq3] at C4 p4 hok hbyq hm8 CE hre he HQ
    clear hq3
    have HQL := Lib.hid (hok (hre he))
    rw [he] at CE
    clear he hre HE hx hk hge hok p0 p1 p2 p3 p4
    obtain ⟨q, hq⟩ : ∃ q, q = q3.1 := ⟨_, rfl⟩
    have HQQ := Lib.hid hq
    rw [← hq] at hbyq hm8 C4 HQL
    have HBQ := Lib.hid hbyq
    clear hq
    go_enter Tryd.func25, Tryd.ntmps25
    go_wp2_with (first
      | ((with_reducible show wpList _ _ _ (⟨some 4, _, _, _, _, _⟩ :: _) _ _); refine wpList_alloc_blk rfl _ rfl zs _ ZH ?_; intro h w1 hg1 hg2 Z1 L1)
      | fail)
    refine (CK.out w1).mono ?_
    rintro e w' ⟨rfl, rfl⟩
    go_wp2_with (first
      | ((with_reducible show wpList _ _ _ (⟨some 16, _, _, _, _, _⟩ :: _) _ _); refine wpList_build_blk rfl _ _ rfl [.slice A n k, .int .i64 0, .int .i64 0] (by refine Eq.trans ?_ B1; kernel_rfl) ?_)
      | ((with_reducible show wpList _ _ _ (⟨some 17, _, _, _, _, _⟩ :: _) _ _); refine wpList_box_blk rfl _ (.tmp 16) rfl [.slice A n k, .int .i64 0, .int .i64 0] rfl ?_; intro g w2 hg3 hg4 R2 L2)
      | ((with_reducible show wpList _ _ _ (⟨some 7, _, _, _, _, _⟩ :: _) _ _); refine wpList_alloc_blk rfl _ rfl zs _ ZH ?_; intro s w3 hg5 hg6 X3 L3)
      | fail)
    have B3 := Lib.hid (step (step L1.out L2.out) L3.out)
    have Z3 := Lib.hid ((Z1.out.over L2.out).over L3.out)
    have R3 : Hid (RdIs w3 g A n k rd0) := R2.out.over L3.out
    have hs1 := L1.out.size
    have hs2 := L2.out.size
    have hwg : w.heap.size ≤ g := by omega
    have hws : w.heap.size ≤ s := by omega
    have hsg : s ≠ g := by omega
    have hhg : h ≠ g := by omega
    have hhs : h ≠ s := by omega
    clear R2 L2 L3 Z1 L1 hg3 hg4 hg5 hg6 hs1 hs2 hg2
    refine (C1.out w3 g R3.out B3.out hwg).mono ?_
    rintro e w4 ⟨rfl, hR, hS⟩
    have R4 := Lib.hid hR
    have X4 := Lib.hid (X3.out.save hS hsg)
    have Z4 := Lib.hid (Z3.out.save hS hhg)
    have B4 := Lib.hid (B3.out.trans (hS.below hwg B3.out.size))
    clear hR hS R3 X3 Z3 B3
    go_wp2_with (first
      | ((with_reducible show wpList _ _ _ (⟨none, .store _ (.tmp 23) _, _, _, _, _⟩ :: _) _ _); refine wpList_store_fld rfl _ (.tmp 23) (.tmp 22) rfl s 0 rfl _ zs (.int .u16 q1.1) rfl X4 (by have := HZ.out; show 0 < _; omega) (by kernel_rfl) rfl ?_; intro w5 X5 O5 hgx; have B5 := Lib.hid (below_only B4.out O5.out hws); have Z5 := Lib.hid (Z4.out.only O5.out hhs); have R5 : Hid (RdIs w5 g A n k _) := Blk.only R4.out O5.out (Ne.symm hsg))
      | fail)
    obtain ⟨r1, hr1⟩ : ∃ x, x = zs.set 0 (.int .u16 q1.1) := ⟨_, rfl⟩
    have Hr1 := Lib.hid hr1
    rw [← hr1] at X5
    have Lr1 : Hid (r1.length = 20) := by show _ = _; rw [hr1, List.length_set]; exact HZ.out
    clear hr1 O5 hgx R4 X4 Z4 B4
    refine (C2.out w5 g R5.out B5.out hwg).mono ?_
    rintro e w6 ⟨y6, rfl, hR, hS⟩
    have R6 := Lib.hid hR
    have X6 := Lib.hid (X5.out.save hS hsg)
    have Z6 := Lib.hid (Z5.out.save hS hhg)
    have B6 := Lib.hid (B5.out.trans (hS.below hwg B5.out.size))
    clear hR hS R5 X5 Z5 B5
    go_wp2_with fail
    refine (C3.out w6 g R6.out B6.out hwg).mono ?_
    rintro e w7 ⟨rfl, hR, hS⟩
    have R7 := Lib.hid hR
    have X7 := Lib.hid (X6.out.save hS hsg)
    have Z7 := Lib.hid (Z6.out.save hS hhg)
    have B7 := Lib.hid (B6.out.trans (hS.below hwg B6.out.size))
    clear hR hS R6 X6 Z6 B6
    go_wp2_with (first
      | ((with_reducible show wpList _ _ _ (⟨none, .store _ (.tmp 28) _, _, _, _, _⟩ :: _) _ _); refine wpList_store_fld rfl _ (.tmp 28) (.tmp 27) rfl s 1 rfl _ r1 (.int .u64 q2.1) rfl X7 (by have := Lr1.out; show 1 < _; omega) (by kernel_rfl) rfl ?_; intro w8 X8 O8 hgx; have B8 := Lib.hid (below_only B7.out O8.out hws); have Z8 := Lib.hid (Z7.out.only O8.out hhs); have R8 : Hid (RdIs w8 g A n k _) := Blk.only R7.out O8.out (Ne.symm hsg))
      | fail)
    obtain ⟨r2, hr2⟩ : ∃ x, x = r1.set 1 (.int .u64 q2.1) := ⟨_, rfl⟩
    have Hr2 := Lib.hid hr2
    rw [← hr2] at X8
    have Lr2 : Hid (r2.length = 20) := by show _ = _; rw [hr2, List.length_set]; exact Lr1.out
    clear hr2 O8 hgx R7 X7 Z7 B7
    have hss8 := X8.out.lt
    refine (C4.out w8 g R8.out B8.out hwg).mono ?_
    rintro e w9 ⟨vd, rfl, hR, ho, hS⟩
    have R9 := Lib.hid hR
    have X9 := Lib.hid (X8.out.save hS hsg)
    have Z9 := Lib.hid (Z8.out.save hS hhg)
    have B9 := Lib.hid (B8.out.trans (hS.below hwg B8.out.size))
    have hsz := hS.size
    clear hR hS R8 X8 Z8 B8
    obtain ⟨Av, cv, rfl⟩ := ho.len
    obtain ⟨m, hm⟩ : ∃ m, m = q.length := ⟨_, rfl⟩
    rw [← hm] at ho hm8 ⊢
    have HM := Lib.hid hm
    have P9 := Lib.hid ho
    obtain ⟨bs, hbs⟩ : ∃ x, x = w8.heap.size := ⟨_, rfl⟩
    have hsb : s < bs := by rw [hbs]; exact hss8
    rw [← hbs] at P9
    clear ho hm hbs hsz
    obtain ⟨sc, hsc⟩ : ∃ sc : Nat → List Value, sc = fun j => spliced r2 2 (q.take j) := ⟨_, rfl⟩
    have S0 : Hid (sc 0 = r2) := by rw [hsc]; exact spliced_zero _ _ _
    have SS : Hid (∀ j, j < m → (sc j).set (2 + j) (.int .u8 (q.getD j 0)) = sc (j + 1)) := fun j hj => by rw [hsc]; exact spliced_set (by rw [← HM.out]; exact hj) (by rw [← HM.out, Lr2.out]; omega)
    have SL : Hid (∀ j, j ≤ m → (sc j).length = 20) := fun j hj => by rw [hsc]; show (spliced _ _ _).length = _; rw [spliced_len (by rw [List.length_take, Lr2.out]; omega), Lr2.out]
    have SE : Hid (sc m = spliced r2 2 q) := by show _ = _; rw [hsc, HM.out]; show spliced _ _ _ = _; rw [List.take_of_length_le (Nat.le_refl _)]
    clear hsc
    go_wp2_with fail
    go_loopw [9] (fun i wr => ∃ j : Nat, j ≤ m ∧ i = .int .i64 j ∧ Hid (Blk wr s 45 (sc j)) ∧ Hid (Own wr bs (.slice Av m cv) q) ∧ Hid (RdIs wr g A n k q3.2) ∧ Hid (Blk wr h 45 zs) ∧ Hid (Below w.heap.size w wr)) (fun i _ => m - (intOf i).toNat)
    case atStart => exact ⟨0, Nat.zero_le _, rfl, by rw [S0.out]; exact X9, P9, R9, Z9, B9⟩
    case round =>
      clear X9 P9 R9 Z9 B9
      obtain ⟨j, hj, rfl, XX, PP, RR, ZZ, BB⟩ := hrel
      by_cases hlt : j < m
      · have hh := PP.out.holds_at HM.out.symm HBQ.out (by omega)
        have hmc := hh.fit
        obtain ⟨ab, ao, rfl, hab, hcl⟩ := hh.cells (by omega)
        have gc := hcl j hlt
        have HSN := Lib.hid (SS.out j hlt)
        have HSL := Lib.hid (SL.out j (by omega))
        obtain ⟨y, hy⟩ : ∃ y, y = q.getD j 0 := ⟨_, rfl⟩
        rw [← hy] at gc HSN
        obtain ⟨cj, hcj⟩ : ∃ x, x = sc j := ⟨_, rfl⟩
        rw [← hcj] at XX HSN HSL
        clear hy hcj hcl hh hab
        go_wp2_with (first
          | ((with_reducible show wpList _ _ _ (⟨none, .store _ (.tmp 43) _, _, _, _, _⟩ :: _) _ _); refine wpList_store_fld rfl _ (.tmp 43) (.tmp 41) rfl s (2 + j) rfl _ cj (.int .u8 y) rfl XX (by have := HSL.out; show 2 + j < _; omega) (by kernel_rfl) rfl ?_; intro w1' XN ON hgN; rw [HSN.out] at XN)
          | fail)
        have BN : Hid (Below w.heap.size w w1') := below_only BB.out ON.out hws
        have ZN : Hid (Blk w1' h 45 zs) := ZZ.out.only ON.out hhs
        have RN : Hid (RdIs w1' g A n k q3.2) := Blk.only RR.out ON.out (Ne.symm hsg)
        have PN := Lib.hid (PP.out.only ON.out hsb)
        clear gc HSN XX ZZ RR PP BB ON hgN
        go_roundw
        case rel => exact ⟨j + 1, by omega, by go_num, XN, PN, RN, ZN, BN⟩
        case measure => simp [intOf]; omega
      · obtain rfl : j = m := by omega
        rw [SE.out] at XX
        go_wp2_with fail
        refine (CE.out wr g RR.out).mono ?_
        rintro e wd ⟨rfl, kk, rfl⟩
        have Zd := Lib.hid (Blk.drewN ZZ.out kk)
        have Xd := Lib.hid (Blk.drewN XX.out kk)
        have Bd : Hid (Below w.heap.size w (wr.drewN kk)) := step BB.out (drewed _ kk)
        obtain ⟨wq, hwq⟩ : ∃ wq, wq = wr.drewN kk := ⟨_, rfl⟩
        rw [← hwq] at Zd Xd Bd ⊢
        clear hwq
        have HEQ : Hid (spliced r2 2 q = scells (.slice none 0 0) (.slice none 0 0) { zeroSay with dia := q1.1, siz := q2.1, chal := q }) := by
          show _ = _
          have e1 : r2 = scells (.slice none 0 0) (.slice none 0 0) { zeroSay with dia := q1.1, siz := q2.1 } := by rw [Hr2.out, Hr1.out, HZS.out]; rfl
          have kd : ({ zeroSay with dia := q1.1, siz := q2.1 } : SayV).ok := ⟨hd1, hs1, rfl, Bytes.zeros 8, zeroSay_ok.lev, zeroSay_ok.dur, zeroSay_ok.made, zeroSay_ok.file, zeroSay_ok.kind, zeroSay_ok.data, zeroSay_ok.n, zeroSay_ok.ents⟩
          rw [e1, ← scells_chalS (vx := .slice none 0 0) (ve := .slice none 0 0) (s := { zeroSay with dia := q1.1, siz := q2.1 }) kd q]
          unfold spliced
          rw [HQL.out]
        have LE : Hid ((spliced r2 2 q).length = 20) := by show _ = _; rw [← SE.out]; exact SL.out _ (Nat.le_refl _)
        have LO : Hid (∀ v ∈ spliced r2 2 q, v.oneCell' = true) := by rw [HEQ.out]; exact scells_one rfl rfl
        rw [← HQQ.out] at HQ
        rw [← HEQ.out] at HQ
        obtain ⟨rs, hrs⟩ : ∃ x, x = spliced r2 2 q := ⟨_, rfl⟩
        rw [← hrs] at Xd LE LO HQ
        clear hrs HEQ XX ZZ RR BB PP
        go_wp2_with (first
          | ((with_reducible show wpList _ _ _ (⟨some 52, _, _, _, _, _⟩ :: _) _ _); refine wpList_load_blk rfl _ (.tmp 7) rfl s rfl _ rs Xd 20 _ Tryd.underlying45 rfl size_say LE ?_)
          | ((with_reducible show wpList _ _ _ (⟨none, .store _ (.tmp 4) _, _, _, _, _⟩ :: _) _ _); refine wpList_store_blk rfl _ (.tmp 4) (.tmp 52) rfl h rfl _ zs rs rfl Zd 20 size_say HZ LE LO ?_; intro wz KZ OZ hgz)
          | fail)
        refine bodyPost_ret (v := .tuple #[.agg rs.toArray, .int .i64 0]) ?_ rfl (HQ.out _ wz rfl (below_only Bd.out OZ.out hg1))
        exact results_cell_two rfl _ _ h _ _ (0, 0) _ rfl KZ.out Tryd.underlying45 rfl (by rw [size_say]; have := LE.out; simp [this]) rfl
  have b0 : (c == 0) = false := by simpa using h0
  have p0 : rd0.p ≤ n := Nat.zero_le _
  have p1 : (rdZ xs 4 rd0).p ≤ n := rdZ_place hl p0
  have C2 : Hid (∀ (w' : World) (g : Nat), RdIs w' g A n k rd0 → Below w.heap.size w w' → w.heap.size ≤ g → Calls Tryd.prog 56 #[.pointer (some ⟨g, 0, none⟩), .int .i64 4, .int .u64 0, .int .i64 5] w' fun e w2 => ∃ y, e = .returned (.int .u64 y) ∧ RdIs w2 g A n k (rdZ xs 4 rd0) ∧ Save g w' w2) := fun w' g h1 hb hg => (rdMost_any w' g w.heap.size A n k xs rd0 4 0 5 h1 (HX.out.below hb) hg p0 rfl).mono fun e w2 ⟨h1, h2, h3⟩ => ⟨_, h1, by rw [rdMost_Z hby rfl] at h2; exact h2, h3⟩
  have CE : Hid (∀ (w' : World) (g : Nat), RdIs w' g A n k (rdZ xs 4 rd0) → Calls Tryd.prog 60 #[.pointer (some ⟨g, 0, none⟩)] w' fun e w2 => e = .returned (.int .i64 (rdEnd xs (rdZ xs 4 rd0))) ∧ ∃ k, w'.drewN k = w2) := fun w' g h1 => rdEnd_any w' g A n k xs _ h1 hl hrm p1
  have hge : gsayErr c xs = rdEnd xs (rdZ xs 4 rd0) := by unfold gsayErr gsayP; rw [if_pos hk, if_neg h0]
  by_cases he : rdEnd xs (rdZ xs 4 rd0) = 0
  rotate_left
  · have HQ := Lib.hid (HE.out _ hge he)
    obtain ⟨z, hz⟩ : ∃ x, x = (rdZ xs 4 rd0) := ⟨_, rfl⟩
    rw [← hz] at C2 CE he HQ
    obtain ⟨er, her⟩ : ∃ x, x = rdEnd xs z := ⟨_, rfl⟩
    rw [← her] at CE he HQ
    clear her hz HE hx hk hge h0 p0 p1
    go_enter Tryd.func25, Tryd.ntmps25
    go_wp2_with (first
      | ((with_reducible show wpList _ _ _ (⟨some 4, _, _, _, _, _⟩ :: _) _ _); refine wpList_alloc_blk rfl _ rfl zs _ ZH ?_; intro h w1 hg1 hg2 Z1 L1)
      | fail)
    refine (CK.out w1).mono ?_
    rintro e w' ⟨rfl, rfl⟩
    go_wp2_with (first
      | ((with_reducible show wpList _ _ _ (⟨some 16, _, _, _, _, _⟩ :: _) _ _); refine wpList_build_blk rfl _ _ rfl [.slice A n k, .int .i64 0, .int .i64 0] (by refine Eq.trans ?_ B1; kernel_rfl) ?_)
      | ((with_reducible show wpList _ _ _ (⟨some 17, _, _, _, _, _⟩ :: _) _ _); refine wpList_box_blk rfl _ (.tmp 16) rfl [.slice A n k, .int .i64 0, .int .i64 0] rfl ?_; intro g w2 hg3 hg4 R2 L2)
      | ((with_reducible show wpList _ _ _ (⟨some 7, _, _, _, _, _⟩ :: _) _ _); refine wpList_alloc_blk rfl _ rfl zs _ ZH ?_; intro s w3 hg5 hg6 X3 L3)
      | fail)
    have B3 := Lib.hid (step (step L1.out L2.out) L3.out)
    have Z3 := Lib.hid ((Z1.out.over L2.out).over L3.out)
    have R3 : Hid (RdIs w3 g A n k rd0) := R2.out.over L3.out
    have hs1 := L1.out.size
    have hs2 := L2.out.size
    have hwg : w.heap.size ≤ g := by omega
    have hws : w.heap.size ≤ s := by omega
    have hsg : s ≠ g := by omega
    have hhg : h ≠ g := by omega
    have hhs : h ≠ s := by omega
    clear R2 L2 L3 Z1 L1 hg3 hg4 hg5 hg6 hs1 hs2 hg2
    refine (C2.out w3 g R3.out B3.out hwg).mono ?_
    rintro e w4 ⟨y4, rfl, hR, hS⟩
    have R4 := Lib.hid hR
    have X4 := Lib.hid (X3.out.save hS hsg)
    have Z4 := Lib.hid (Z3.out.save hS hhg)
    have B4 := Lib.hid (B3.out.trans (hS.below hwg B3.out.size))
    clear hR hS R3 X3 Z3 B3
    go_wp2_with fail
    refine (CE.out w4 g R4.out).mono ?_
    rintro e wd ⟨rfl, kk, rfl⟩
    have Zd := Lib.hid (Blk.drewN Z4.out kk)
    have Xd := Lib.hid (Blk.drewN X4.out kk)
    have Bd : Hid (Below w.heap.size w (w4.drewN kk)) := step B4.out (drewed _ kk)
    obtain ⟨wq, hwq⟩ : ∃ wq, wq = w4.drewN kk := ⟨_, rfl⟩
    rw [← hwq] at Zd Xd Bd ⊢
    clear hwq
    go_wp2_with (first
      | ((with_reducible show wpList _ _ _ (⟨some 50, _, _, _, _, _⟩ :: _) _ _); refine wpList_build_none rfl _ rfl zs BZ ?_)
      | ((with_reducible show wpList _ _ _ (⟨none, .store _ (.tmp 4) _, _, _, _, _⟩ :: _) _ _); refine wpList_store_blk rfl _ (.tmp 4) (.tmp 50) rfl h rfl _ zs zs rfl Zd 20 size_say HZ HZ HZ1 ?_; intro wz KZ OZ hgz)
      | fail)
    refine bodyPost_ret (v := .tuple #[.agg zs.toArray, .int .i64 er]) ?_ rfl (HQ.out _ _ rfl (below_only Bd.out OZ.out hg1))
    exact results_cell_two rfl _ _ h _ _ (0, 0) _ rfl KZ.out Tryd.underlying45 rfl (by rw [size_say]; have := HZ.out; simp [this]) rfl
  have HQ : Hid (∀ e w', e = .returned (.tuple #[.agg zs.toArray, .int .i64 0]) → Below w.heap.size w w' → PGSayPost w c xs e w') := by
    intro e w' h1 h3
    have h4 : gsayOf c xs = zeroSay := by unfold gsayOf; rw [hge, he, if_pos rfl]; unfold gsayP; rw [if_neg h0]
    unfold PGSayPost
    rw [h4, hge, he, ← HZS.out]
    exact ⟨h1, h3⟩
  rw [he] at CE
  obtain ⟨z, hz⟩ : ∃ x, x = (rdZ xs 4 rd0) := ⟨_, rfl⟩
  rw [← hz] at C2 CE
  clear hz HE hx hk hge h0 p0 p1 he
  go_enter Tryd.func25, Tryd.ntmps25
  go_wp2_with (first
    | ((with_reducible show wpList _ _ _ (⟨some 4, _, _, _, _, _⟩ :: _) _ _); refine wpList_alloc_blk rfl _ rfl zs _ ZH ?_; intro h w1 hg1 hg2 Z1 L1)
    | fail)
  refine (CK.out w1).mono ?_
  rintro e w' ⟨rfl, rfl⟩
  go_wp2_with (first
    | ((with_reducible show wpList _ _ _ (⟨some 16, _, _, _, _, _⟩ :: _) _ _); refine wpList_build_blk rfl _ _ rfl [.slice A n k, .int .i64 0, .int .i64 0] (by refine Eq.trans ?_ B1; kernel_rfl) ?_)
    | ((with_reducible show wpList _ _ _ (⟨some 17, _, _, _, _, _⟩ :: _) _ _); refine wpList_box_blk rfl _ (.tmp 16) rfl [.slice A n k, .int .i64 0, .int .i64 0] rfl ?_; intro g w2 hg3 hg4 R2 L2)
    | ((with_reducible show wpList _ _ _ (⟨some 7, _, _, _, _, _⟩ :: _) _ _); refine wpList_alloc_blk rfl _ rfl zs _ ZH ?_; intro s w3 hg5 hg6 X3 L3)
    | fail)
  have B3 := Lib.hid (step (step L1.out L2.out) L3.out)
  have Z3 := Lib.hid ((Z1.out.over L2.out).over L3.out)
  have R3 : Hid (RdIs w3 g A n k rd0) := R2.out.over L3.out
  have hs1 := L1.out.size
  have hs2 := L2.out.size
  have hwg : w.heap.size ≤ g := by omega
  have hws : w.heap.size ≤ s := by omega
  have hsg : s ≠ g := by omega
  have hhg : h ≠ g := by omega
  have hhs : h ≠ s := by omega
  clear R2 L2 L3 Z1 L1 hg3 hg4 hg5 hg6 hs1 hs2 hg2
  refine (C2.out w3 g R3.out B3.out hwg).mono ?_
  rintro e w4 ⟨y4, rfl, hR, hS⟩
  have R4 := Lib.hid hR
  have X4 := Lib.hid (X3.out.save hS hsg)
  have Z4 := Lib.hid (Z3.out.save hS hhg)
  have B4 := Lib.hid (B3.out.trans (hS.below hwg B3.out.size))
  clear hR hS R3 X3 Z3 B3
  go_wp2_with fail
  refine (CE.out w4 g R4.out).mono ?_
  rintro e wd ⟨rfl, kk, rfl⟩
  have Zd := Lib.hid (Blk.drewN Z4.out kk)
  have Xd := Lib.hid (Blk.drewN X4.out kk)
  have Bd : Hid (Below w.heap.size w (w4.drewN kk)) := step B4.out (drewed _ kk)
  obtain ⟨wq, hwq⟩ : ∃ wq, wq = w4.drewN kk := ⟨_, rfl⟩
  rw [← hwq] at Zd Xd Bd ⊢
  clear hwq
  go_wp2_with (first
    | ((with_reducible show wpList _ _ _ (⟨some 52, _, _, _, _, _⟩ :: _) _ _); refine wpList_load_blk rfl _ (.tmp 7) rfl s rfl _ zs Xd 20 _ Tryd.underlying45 rfl size_say HZ ?_)
    | ((with_reducible show wpList _ _ _ (⟨none, .store _ (.tmp 4) _, _, _, _, _⟩ :: _) _ _); refine wpList_store_blk rfl _ (.tmp 4) (.tmp 52) rfl h rfl _ zs zs rfl Zd 20 size_say HZ HZ HZ1 ?_; intro wz KZ OZ hgz)
    | fail)
  refine bodyPost_ret (v := .tuple #[.agg zs.toArray, .int .i64 0]) ?_ rfl (HQ.out _ wz rfl (below_only Bd.out OZ.out hg1))
  exact results_cell_two rfl _ _ h _ _ (0, 0) _ rfl KZ.out Tryd.underlying45 rfl (by rw [size_say]; have := HZ.out; simp [this]) rfl
end Go.Proofs.YtepkamkgodbffaaDoor
