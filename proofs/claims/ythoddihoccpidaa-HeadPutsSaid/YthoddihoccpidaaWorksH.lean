/-
  Contract of the statements' own 'lives' (refectorylaw07); an argument that is a head, opened ('open_head'); what Put and Get come to in the statements' words.
-/
import Derived.Test.YthoddihoccpidaaHeadG
import Derived.Test.YthoddihoccpidaaSame
namespace Go.Proofs.Ythoddihoccpidaa
open Go.RowKit

def echoHd : Hd := { zeroHd with cm := 13, id := 5 }
theorem echo_ok : echoHd.ok := ⟨by decide, by decide, by decide, by decide, by decide, by decide, by decide, by decide, by decide, by decide, by decide, Bytes.zeros 16⟩
theorem echo_may : mayP echoHd = true := by decide

/-- what Put answers of a head that may be -/
theorem put_may (w : World) (h : Hd) (k : h.ok) (hm : mayP h = true) : Calls Try.prog 10 #[hv h] w fun e w' => ∃ A', e = .returned (.tuple #[.slice A' 64 64, .int .i64 0]) ∧ Fresh w' w.heap.size A' (putH h) ∧ Below w.heap.size w w' := by
  have h1 := PutH_any w h k
  unfold PutHPost putOfH putErrH at h1
  rwa [if_pos hm, if_pos hm, putH_len k.len] at h1
/-- .. of one that may not -/
theorem put_may_not (w : World) (h : Hd) (k : h.ok) (hm : mayP h = false) : Calls Try.prog 10 #[hv h] w fun e w' => ∃ A', e = .returned (.tuple #[.slice A' 0 0, .int .i64 2]) ∧ Below w.heap.size w w' := by
  have h1 := PutH_any w h k
  unfold PutHPost putOfH putErrH at h1
  rw [if_neg (by rw [hm]; decide), if_neg (by rw [hm]; decide)] at h1
  refine h1.mono ?_
  rintro e w' ⟨A', rfl, _, hb⟩
  exact ⟨A', rfl, hb⟩
/-- what Get answers of what Put answered, wherever it stands -/
theorem get_put_any (w : World) (A : Option Addr) (n c : Nat) (h : Hd) (k : h.ok) (hm : mayP h = true) (x z : List Int) (hx : Holds w w.heap.size A n c (x ++ putH h ++ z)) :
    Calls Try.prog 19 #[.slice A n c, .int .i64 (x.length : Int)] w fun e w' => e = .returned (.tuple #[hv h, .int .i64 0]) ∧ Below w.heap.size w w' := by
  have hr := hx.room
  have hl := hx.len
  have h0 : x.length ≤ n := by rw [← hl]; simp
  have h1 := GetH_any w A n c _ (x.length : Int) hx (by omega)
  unfold GetHPost at h1
  have h2 := get_put k hm x z
  rwa [h2.1, h2.2] at h1

set_option maxRecDepth 100000 in
set_option maxHeartbeats 1000000 in
theorem lives_any (w : World) : Calls Try.prog 17 #[] w fun e w' => e = .returned (.bool true) ∧ Below w.heap.size w w' := by
  have C1 := Lib.hid (put_may w echoHd echo_ok echo_may)
  have C2 : Hid (∀ (w : World) (A : Option Addr), Holds w w.heap.size A 64 64 (putH echoHd) → Calls Try.prog 19 #[.slice A 64 64, .int .i64 0] w fun e w' => e = .returned (.tuple #[hv echoHd, .int .i64 0]) ∧ Below w.heap.size w w') := fun w A hh =>
    get_put_any w A 64 64 echoHd echo_ok echo_may [] [] (by simpa using hh)
  have c11 : Hid (∀ w : World, Calls Try.prog 15 #[.int .u16 11] w fun e w' => e = .returned (.bool false) ∧ w = w') := fun w => Known_any w 11
  have c18 : Hid (∀ w : World, Calls Try.prog 15 #[.int .u16 18] w fun e w' => e = .returned (.bool true) ∧ w = w') := fun w => Known_any w 18
  have c19 : Hid (∀ w : World, Calls Try.prog 15 #[.int .u16 19] w fun e w' => e = .returned (.bool false) ∧ w = w') := fun w => Known_any w 19
  have HPL : Hid ((putH echoHd).length = 64) := putH_len echo_ok.len
  have HPB : Hid (Bytes (putH echoHd)) := putH_bytes echo_ok.byte
  have H12 : Hid ((putH echoHd).getD 12 0 = 13) := by show _ = _; decide
  have ZH := Lib.hid zero_hd
  have HZ := Lib.hid (hcells_len zeroHd_ok)
  have HL := Lib.hid (hcells_len echo_ok)
  have HO := Lib.hid (hcells_one echoHd)
  have E6 : Hid ((hcells echoHd)[6]? = some (.int .u64 5)) := rfl
  have BE : Try.prog.built 28 [(2, .int .u16 13), (6, .int .u64 5)] = some (hcells echoHd).toArray := by kernel_rfl
  obtain ⟨zs, hzs⟩ : ∃ zs, zs = hcells zeroHd := ⟨_, rfl⟩
  obtain ⟨cs, hcs⟩ : ∃ cs, cs = hcells echoHd := ⟨_, rfl⟩
  obtain ⟨ps, hps⟩ : ∃ ps, ps = putH echoHd := ⟨_, rfl⟩
  unfold hv at C1 C2
  rw [← hcs] at C1 C2 HL HO E6 BE
  rw [← hzs] at HZ ZH
  rw [← hps] at C1 C2 HPL HPB H12
  clear hzs hcs hps
  go_enter Try.func17, Try.ntmps17
  go_wp2_with (first
    | ((with_reducible show wpList _ _ _ (⟨some 6, _, _, _, _, _⟩ :: _) _ _); refine wpList_build_blk rfl _ _ rfl cs (by refine Eq.trans ?_ BE; kernel_rfl) ?_)
    | fail)
  refine C1.out.mono ?_
  rintro e w1 ⟨A', rfl, hf, L1⟩
  have hh := hf.holds HPL.out HPB.out (by decide)
  have HH := Lib.hid hh
  obtain ⟨b, off, rfl, hb, hc⟩ := hh.cells (by decide)
  have g12 := hc 12 (by decide)
  rw [H12.out] at g12
  have HG := Lib.hid g12
  clear hc hh hf C1 g12
  go_wp2_with fail
  refine (C2.out _ _ HH.out).mono ?_
  rintro e w2 ⟨rfl, L2⟩
  have L12 := Lib.hid (step L1 L2)
  have g2 : Hid (w2.cell? ⟨b, off + 12, none⟩ = some (.int .u8 13)) := by
    show _ = _
    rw [← HG.out]
    exact L2.cell hb
  have hs2 := L2.size
  clear L1 L2 HH HG C2
  go_wp2_with (first
    | ((with_reducible show wpList _ _ _ (⟨some 3, _, _, _, _, _⟩ :: _) _ _); refine wpList_alloc_blk rfl _ rfl zs _ ZH ?_; intro g w3 hg3 hg4 X3 L3)
    | ((with_reducible show wpList _ _ _ (⟨none, .store _ (.tmp 3) _, _, _, _, _⟩ :: _) _ _); refine wpList_store_blk rfl _ (.tmp 3) (.tmp 13) rfl g rfl _ zs cs rfl X3 26 size_hd HZ HL HO ?_; intro w4 X4 O4 hg5; have L4 : Hid (Below w2.heap.size w2 w4) := below_only L3.out O4.out hg3; have gd := (X4.out.cell 6).trans E6.out; have ge : w4.cell? ⟨b, off + 12, none⟩ = some (.int .u8 13) := (L4.out.cell (by show b < _; omega)).trans g2.out)
    | fail)
  refine (c11.out _).mono ?_
  rintro e w5 ⟨rfl, rfl⟩
  go_wp2_with fail
  refine (c18.out _).mono ?_
  rintro e w5 ⟨rfl, rfl⟩
  go_wp2_with fail
  refine (c19.out _).mono ?_
  rintro e w5 ⟨rfl, rfl⟩
  go_wp2
  go_ret
  exact ⟨rfl, step L12.out L4.out⟩
end Go.Proofs.Ythoddihoccpidaa
