import Derived.WalkKit
import Derived.Deep.Draws
import Derived.Laws.Rows
import Derived.Laws.OwnMore
import Derived.Lib.RuneBytes
import Derived.Lib.ValidLaws
import Derived.Test.YtdgpbhdihhchgaaGreatDoorRows
import Derived.Laws.CopyOwn
import Derived.Laws.AppendOwnNone
import Derived.Lib.Hide
import Derived.Laws.AppendOwn
import Derived.OwnWalk
import Derived.Lib.OthersKept
import Derived.Laws.BytesArg
import Derived.Shelf.Strings.Builder1
import Derived.Shelf.Strings.Builder2
import Derived.Shelf.Strings.OnBuilder
import Derived.Shelf.Strings.BuilderF
import Derived.Shelf.Strings.BuilderK
import Derived.Shelf.Utf8.AppendRunePlain
import Derived.Shelf.Utf8.RuneCount
import Derived.Shelf.LaysM
import Derived.Shelf.Strconv.Clone
import Derived.Shelf.Strings.Search1
import Derived.Shelf.Strings.Search2
import Derived.Shelf.Strings.Cut
import Derived.Shelf.Strings.Shaped
import Derived.Shelf.Unicode.DecodeSlow
import Derived.Shelf.Unicode.DecodeAny
import Derived.Shelf.Slices.Turned
import Derived.Ground.SlgmProg
import Derived.Shelf.SortM.Plain
import Derived.Shelf.SortM.SortNone
import Derived.Shelf.Unicode.ValidAny
import Derived.Test.YtdgpbhdihhchgaaGreatDoorProg
import Derived.WalkSpells
import Derived.WalkLawsBesides
import Derived.Deep.QuietTactic
import Derived.BigQuiet
import Derived.Laws.Bits64
import Derived.Laws.BitsAllLaws
import Derived.Laws.Tables
import Derived.Laws.NewFold
import Derived.Deep.WholeRow
import Derived.Deep.DeepCutAuto
import Derived.Laws.IdiomStrings
import Derived.Laws.Cover4
import Derived.Lib.RuneCount
import Derived.Lib.IndexLaws
import Derived.OneCell
import Derived.StillTailTactics
import Derived.WalkMore
import Derived.Maps.OwnSet
import Derived.ProofKit
import Derived.OpenShut
import Derived.ShutString
import Derived.SizedLaws
import Derived.ChangeOld
import Derived.Lib.AppendZeros
import Derived.Deep.RegionWith
import Derived.Great.Walk
import Derived.Deep.Strs
import Derived.Deep.Slices
import Derived.Deep.MidRow
import Derived.Lib.Join
import Derived.Deep.RegionLaw
import Derived.Deep.CutBlock
import Derived.Lib.SliceRun
import Derived.Maps.AppendAt
import Derived.Lib.Overlaps
import Derived.OrdersHeld
import Derived.Laws.StructEq
import Derived.ChangeKeysEq
import Derived.StringKeys
import Derived.Laws.Externs
import Derived.Laws.BytesString
import Derived.Maps.RangeWalk
import Derived.Lib.Slices
import Derived.Shelf.SlGeneric
import Derived.Shelf.SlIterI.Nil
import Derived.Lib.SlKeysI
import Derived.Shelf.SlIterI.Sorted
import Derived.Shelf.SlIterI.Keys
import Derived.OwnWalkIn
import Derived.TacticsInMore
import Derived.RangeFuncNested
import Derived.RangeFuncCalls
import Derived.RangeFuncLeaves
import Derived.RangeFuncBound
import Derived.Shelf.Abstract
import Derived.Shelf.RegionOpen
import Derived.LoopNIn
import Derived.LoopIn
import Derived.RangeFuncFrom
import Derived.Test.YtdgpbhdihhchgaaGreatDoorWAC
namespace Go.Proofs.YtdgpbhdihhchgaaGreatDoor
set_option linter.all false
set_option maxRecDepth 100000
open Go.RowKit
set_option linter.unusedVariables false
structure PV (DI : DrI) (EI : FiI) (w : World) (base q m : Nat) (D : DataW Unit) (V : VolM) (M : List VN) : Prop where
  p : PVol DI EI w base q m D V.quota V.last M (regs V.l)
  is : M.map (·.1) = V.l
  ok : Vok V
  big : V.last ≤ 1048576
  tb : DI.tb base w
/-- the tables are those of texts -/
def HasT (DI : DrI) : Prop := ∀ {b : Nat} {w : World}, DI.tb b w → b ≤ w.heap.size → Tabs w
section
variable {DI : DrI} {EI : FiI} {w w' : World} {base q m : Nat} {D : DataW Unit} {V : VolM} {M : List VN} {y : VN} {x : VNode} {n : Int} {s : NameL}
theorem PV.below (h : PV DI EI w base q m D V M) (hb : Below w.heap.size w w') : PV DI EI w' base q m D V M := ⟨h.p.below hb, h.is, h.ok, h.big, DI.tbNext h.tb (hb.mono h.p.hb)⟩
theorem PV.mem (h : PV DI EI w base q m D V M) (hy : y ∈ M) : y.1 ∈ V.l := by rw [← h.is]; exact List.mem_map.2 ⟨y, hy, rfl⟩
theorem PV.node (h : PV DI EI w base q m D V M) (hx : x ∈ V.l) : ∃ y ∈ M, y.1 = x := by rw [← h.is] at hx; exact List.mem_map.1 hx
theorem PV.at (h : PV DI EI w base q m D V M) (hx : vAt V.l n = some x) : ∃ y ∈ M, y.1 = x ∧ y.1.n = n := by
  obtain ⟨h1, h2⟩ := vAt_mem hx
  obtain ⟨y, hy, e⟩ := h.node h1
  exact ⟨y, hy, e, by rw [e, h2]⟩
theorem PV.no (h : PV DI EI w base q m D V M) (hx : vAt V.l n = none) : ∀ y ∈ M, y.1.n ≠ n := fun y hy => vAt_none hx _ (h.mem hy)
theorem PV.kindOf (h : PV DI EI w base q m D V M) (hy : y ∈ M) : vKind V.l y.1.n = y.1.kind := h.ok.rise.kind (h.mem hy)
theorem PV.tabs (h : PV DI EI w base q m D V M) (HT : HasT DI) : Tabs w := HT h.tb h.p.hb
theorem PV.dirB (h : PV DI EI w base q m D V M) (hy : y ∈ M) : y.1.kind = 1 → y.1.B = [] := fun hk => (h.ok.dirB _ (h.mem hy) hk).1
theorem PV.dir (h : PV DI EI w base q m D V M) (hy : y ∈ M) (h1 : y.1.n ≠ 1) : ∃ z ∈ M, z.1.n = y.1.par ∧ z.1.kind = 1 := by
  have hk := h.ok.up _ (h.mem hy) h1
  obtain ⟨x, hx⟩ := kind_some (V := V) (n := y.1.par) (by rw [hk]; decide)
  obtain ⟨z, hz, e, en⟩ := h.at hx
  refine ⟨z, hz, en, ?_⟩
  rw [← h.kindOf hz, en, hk]
theorem PV.small (h : PV DI EI w base q m D V M) (hy : y ∈ M) : y.1.name.length ≤ 1048576 := by
  by_cases h1 : y.1.n = 1
  · rw [h.ok.one (h.mem hy) h1]
    exact Nat.zero_le _
  · have := name_bytes (h.ok.good _ (h.mem hy) h1)
    omega
theorem PV.many (h : PV DI EI w base q m D V M) : M.length ≤ 256 := by
  have := h.ok.many
  rw [← h.is, List.length_map] at this
  exact this
/-- a name is looked for in a directory -/
theorem PV.findAt (h : PV DI EI w base q m D V M) (hy : y ∈ M) (hk : y.1.kind = 1) (hs : nameOf s = true) : ∃ X, Calls Tryz.prog 42 #[ptrD y.2.q, strV s] w fun e w' => e = .returned (.tuple #[.int .i64 (vChild V.l y.1.n s), X, .int .i64 (if vChild V.l y.1.n s = 0 then 7 else 0)]) ∧ Below w.heap.size w w' := by
  obtain ⟨K, k, d⟩ := h.p.dirs y hy hk
  obtain ⟨f1, f2⟩ := k.child h.ok hs
  have := name_bytes hs
  have c := DI.find d h.tb h.p.hb (s := ba s) (by rw [ba_size]; omega)
  rw [f1, f2] at c
  exact ⟨_, c⟩
/-! ### the numbers of a node and of those over it -/
def vLn (L : List VNode) : Nat → Int → List Int
  | 0, _ => []
  | f + 1, n => if n = 1 then [] else match vAt L n with | some x => n :: vLn L f x.par | none => []
def vLine (L : List VNode) (n : Int) : List Int := vLn L 10 n
def nmAt (L : List VNode) (n : Int) : NameL := match vAt L n with | some x => x.name | none => []
theorem vLn_one (L : List VNode) (f : Nat) : vLn L (f + 1) 1 = [] := rfl
theorem vLn_step {L : List VNode} {f : Nat} (hx : vAt L n = some x) (h1 : n ≠ 1) : vLn L (f + 1) n = n :: vLn L f x.par := by
  show (if n = 1 then [] else match vAt L n with | some x => n :: vLn L f x.par | none => []) = _
  rw [if_neg h1, hx]
theorem Way.ln {L : List VNode} {ps : List NameL} (h : Way L n ps) : ∀ f, ps.length < f → (vLn L f n).length = ps.length ∧ (vLn L f n).reverse.map (nmAt L) = ps := by
  induction h with
  | root =>
    intro f hf
    cases f with
    | zero => omega
    | succ f => exact ⟨rfl, rfl⟩
  | @step x ps a b c ih =>
    intro f hf
    cases f with
    | zero => omega
    | succ f =>
      obtain ⟨i1, i2⟩ := ih f (by simp at hf; omega)
      rw [vLn_step a b]
      refine ⟨by rw [List.length_cons, i1, List.length_append]; rfl, ?_⟩
      rw [List.reverse_cons, List.map_append, i2]
      unfold nmAt
      rw [List.map_cons, a]
      rfl
theorem PV.way (h : PV DI EI w base q m D V M) (hy : y ∈ M) : ∃ ps, Way V.l y.1.n ps ∧ ps.length ≤ 8 := h.ok.way _ (h.mem hy)
def sliceN : Value → Nat
  | .slice _ n _ => n
  | _ => 0
set_option maxHeartbeats 4000000 in
theorem VLine_any (h : PV DI EI w base q m D V M) (hy : y ∈ M) (hn : y.1.n = n) : Calls Tryz.prog 50 #[ptrV q, .int .i64 n] w fun e w' => ∃ v, e = .returned v ∧ OwnF (Value.int .i64) 3 w' w.heap.size v (vLine V.l n) ∧ Below w.heap.size w w' := by
  obtain ⟨ps0, hw0, h80⟩ := h.way hy
  rw [hn] at hw0
  have HF : Hid ((vLn V.l 10 n).length ≤ 8) := by have := (hw0.ln 10 (by omega)).1; show _ ≤ 8; omega
  obtain ⟨F, hF⟩ : ∃ F, F = vLine V.l n := ⟨_, rfl⟩
  have H0 : Hid ([] ++ vLn V.l 10 n = F) := by rw [hF]; rfl
  have HL8 : Hid (F.length ≤ 8) := by rw [hF]; exact HF.out
  rw [← hF]
  have k1 := h.p.c1
  have H := Lib.hid h
  have HW0 := Lib.hid hw0
  clear hF h hy hn HF hw0
  unfold ptrV
  go_enter Tryz.func50, Tryz.ntmps50
  go_wp2_with fail
  go_loopw [1, 5] (fun I O wr => ∃ (pre : List Int) (c : Int) (f : Nat) (ps : List NameL), I = .int .i64 c ∧ Hid (pre ++ vLn V.l f c = F) ∧ Hid (Way V.l c ps) ∧ ps.length < f ∧ pre.length ≤ 8 ∧ Hid (OwnF (Value.int .i64) 3 wr w.heap.size O pre) ∧ Hid (Below w.heap.size w wr)) (fun _ O _ => 9 - sliceN O)
  case atStart => exact ⟨[], n, 10, ps0, rfl, H0, HW0, by omega, by decide, OwnF.nil _ _ _ _, Below.refl _ _⟩
  case round =>
    obtain ⟨pre, c, f, ps, rfl, HP, HW, hf, hpl, OR, LR⟩ := hrel
    rename World => w1
    clear H0 HW0
    obtain ⟨f, rfl⟩ : ∃ g, f = g + 1 := ⟨f - 1, by omega⟩
    by_cases h1 : c = 1
    · subst h1
      have HR : Hid (pre = F) := by
        have := HP.out
        rw [vLn_one, List.append_nil] at this
        exact this
      go_wp2_with fail
      go_ret
      exact ⟨_, rfl, by rw [← HR.out]; exact OR.out, LR.out⟩
    · have STEP : Hid (∃ (g : Nat) (d : Int) (ps' : List NameL), Way V.l d ps' ∧ ps'.length < f ∧ vLn V.l (f + 1) c = c :: vLn V.l f d ∧ I64V c ∧ ∀ w2, Below w.heap.size w w2 → w2.cell? ⟨q, 1, none⟩ = some (.map (some m)) ∧ (Instr.lookup 69 (.map (some m)) (.int .i64 c) false).run Tryz.prog w2 = .ok (.pointer (some ⟨g, 0, none⟩)) w2 ∧ w2.cell? ⟨g, 1, none⟩ = some (.int .i64 d)) := by
        obtain ⟨x, hx⟩ := HW.out.at H.out.ok
        obtain ⟨y, hy, e, en⟩ := H.out.at hx
        have hwy := HW.out
        obtain ⟨ps', hw', hl'⟩ : ∃ ps', Way V.l x.par ps' ∧ ps'.length < f := by
          have hxn := (vAt_mem hx).2
          generalize hcc : c = c' at hwy
          cases hwy with
          | root => exact absurd hcc h1
          | @step x' ps' a b r =>
            rw [hcc, a] at hx
            injection hx with hx
            subst hx
            exact ⟨ps', r, by simp at hf; omega⟩
        refine ⟨y.2.g, x.par, ps', hw', hl', vLn_step hx h1, by rw [← en]; exact H.out.p.i64 hy, fun w2 hb => ?_⟩
        have p2 := H.out.p.below hb
        have l2 := p2.look1 hy
        rw [en] at l2
        have n1 := p2.n1 hy
        rw [e] at n1
        exact ⟨p2.c1, l2, n1⟩
      obtain ⟨g, d, ps', hw', hl', hstep, hci, cells⟩ := STEP.out
      have HW' := Lib.hid hw'
      have HP' : Hid ((pre ++ [c]) ++ vLn V.l f d = F) := by
        have := HP.out
        rw [hstep] at this
        rw [List.append_assoc]
        exact this
      have hpl' : (pre ++ [c]).length ≤ 8 := by
        have a := congrArg List.length HP'.out
        rw [List.length_append] at a
        have b := HL8.out
        omega
      have CELLS := Lib.hid cells
      have HPL := Lib.hid hpl'
      clear STEP hw' hstep cells HW HP hpl' hci
      go_wp2_with (first
        | ((with_reducible show wpList _ _ _ (⟨some 21, _, _, _, _, _⟩ :: _) _ _); go_loud (refine wpList_append_litF rfl (.tmp 18) (.tmp 20) (Value.int .i64) (fun _ => rfl) (.int .i64 0) rfl 44 3 8 Tryz.underlying44 info_i64 rfl w.heap.size _ pre [c] _ rfl 1 1 rfl rfl rfl OR.out (by omega) (by omega) LR.out.size ?_); intro v5 w5 O5 G5 H5; go_loud (have L5 := Lib.hid (LR.out.trans (G5.out.belowF OR.out LR.out.size))); go_loud (obtain ⟨j1, j2, j3⟩ := CELLS.out w5 L5.out))
        | fail)
      obtain ⟨A5, n5, c5, rfl, h5⟩ := O5.out.holds
      obtain ⟨A4, n4, c4, rfl, h4⟩ := OR.out.holds
      have e5 := h5.len
      have e4 := h4.len
      have e6 := HPL.out
      rw [List.length_append] at e5 e6
      simp only [List.length_cons, List.length_nil] at e5 e6
      clear h5 h4
      go_roundw
      case rel => exact ⟨pre ++ [c], d, f, ps', rfl, HP', HW', hl', HPL.out, O5, L5⟩
      case measure => simp only [sliceN]; omega
end
section
variable {DI : DrI} {EI : FiI} {w w' : World} {base q m : Nat} {D : DataW Unit} {V : VolM} {M : List VN} {y : VN} {x : VNode} {n : Int} {s : NameL}
/-- what Find asks of one node -/
theorem PV.stop (h : PV DI EI w base q m D V M) (hy : y ∈ M) (hn : y.1.n = n) (hk : y.1.kind = 2) : ∃ g, ∀ w2, Below w.heap.size w w2 → w2.cell? ⟨q, 1, none⟩ = some (.map (some m)) ∧ (Instr.lookup 69 (.map (some m)) (.int .i64 n) false).run Tryz.prog w2 = .ok (.pointer (some ⟨g, 0, none⟩)) w2 ∧ w2.cell? ⟨g, 0, none⟩ = some (.int .u8 2) := by
  refine ⟨y.2.g, fun w2 hb => ?_⟩
  have p2 := h.p.below hb
  have l2 := p2.look1 hy
  rw [hn] at l2
  have n0 := p2.n0 hy
  rw [hk] at n0
  exact ⟨p2.c1, l2, n0⟩
theorem PV.step (h : PV DI EI w base q m D V M) (hy : y ∈ M) (hn : y.1.n = n) (hk : y.1.kind = 1) (hs : nameOf s = true) : ∃ (g : Nat) (u X : Value), ∀ w2, Below w.heap.size w w2 → w2.cell? ⟨q, 1, none⟩ = some (.map (some m)) ∧ (Instr.lookup 69 (.map (some m)) (.int .i64 n) false).run Tryz.prog w2 = .ok (.pointer (some ⟨g, 0, none⟩)) w2 ∧ w2.cell? ⟨g, 0, none⟩ = some (.int .u8 1) ∧ w2.cell? ⟨g, 3, none⟩ = some u ∧
    Calls Tryz.prog 42 #[u, strV s] w2 fun e w' => e = .returned (.tuple #[.int .i64 (vChild V.l n s), X, .int .i64 (if vChild V.l n s = 0 then 7 else 0)]) ∧ Below w2.heap.size w2 w' := by
  obtain ⟨K, k, d⟩ := h.p.dirs y hy hk
  obtain ⟨f1, f2⟩ := k.child h.ok hs
  have hl := name_bytes hs
  refine ⟨y.2.g, ptrD y.2.q, .string (dFind K (ba s)).1, fun w2 hb => ?_⟩
  have h2 := h.below hb
  have l2 := h2.p.look1 hy
  have n0 := h2.p.n0 hy
  have n3 := h2.p.n3 hy
  rw [hk] at n0
  rw [pnEnt_dir hk] at n3
  have c := DI.find (DI.keep d (Spare.of_over (fun _ => False) hb) fun _ _ e => e) h2.tb h2.p.hb (s := ba s) (by rw [ba_size]; omega)
  rw [f1, f2] at c
  rw [hn] at l2 c
  exact ⟨h2.p.c1, l2, n0, n3, c⟩
set_option maxHeartbeats 8000000 in
theorem VFind_any (HT : HasT DI) (h : PV DI EI w base q m D V M) (hs : s.length ≤ 1048576) : Calls Tryz.prog 13 #[ptrV q, strV s] w fun e w' => e = .returned (.tuple #[.int .i64 (vFind V.l s).1, .int .i64 (vFind V.l s).2]) ∧ Below w.heap.size w w' := by
  have c1 := Parse_any ⟨s.toArray⟩ w (by rw [mk_size]; omega) (h.tabs HT)
  unfold ParsePost at c1
  rw [show (⟨s.toArray⟩ : ByteArray).data.toList = s from rfl] at c1
  obtain ⟨S, hS⟩ : ∃ S : ByteArray, S = ⟨s.toArray⟩ := ⟨_, rfl⟩
  have hS1 : strV s = .string S := by rw [hS]; rfl
  rw [hS1]
  rw [← hS] at c1
  clear hS hS1
  obtain ⟨r, hr⟩ : ∃ r, r = vFind V.l s := ⟨_, rfl⟩
  obtain ⟨r1, r2⟩ := r
  rw [← hr]
  have CN := Lib.hid (VNone_any w q m h.p.c1)
  have H := Lib.hid h
  clear h
  unfold ptrV at CN ⊢
  by_cases he : parseErr s = 0
  · rw [vFind_ok he] at hr
    rw [he] at c1
    have hn := parse_names (l := s)
    have h8 := parse_le8 s
    obtain ⟨L, hL⟩ : ∃ L, L = parseOf s := ⟨_, rfl⟩
    rw [← hL] at hr c1 hn h8
    have HR := Lib.hid hr
    have HN := Lib.hid hn
    have C1 := Lib.hid c1
    have R1 : Hid (∃ y ∈ M, y.1.n = 1) := by
      obtain ⟨y, hy, e⟩ := H.out.node H.out.ok.mem1
      exact ⟨y, hy, by rw [e]; rfl⟩
    clear hr hn c1 hL he
    go_enter Tryz.func13, Tryz.ntmps13
    go_wp2
    go_step3
    go_wp2_with fail
    refine CN.out.mono ?_
    rintro e w0 ⟨rfl, rfl⟩
    go_wp2_with fail
    refine C1.out.mono ?_
    rintro e w1 ⟨v1, rfl, o1, l1⟩
    obtain ⟨A1, k1, c1, rfl, hh⟩ := o1.holds
    have hlen := hh.len
    have hfit := hh.fit
    have L1 := Lib.hid l1
    have HH := Lib.hid hh
    have hk8 : k1 ≤ 8 := by omega
    have HLEN := Lib.hid hlen
    clear l1 hh o1 C1 hlen h8 CN
    go_wp2_with fail
    go_step3
    go_wp2
    go_loopw [7, 8, 24] (fun E N I wr => ∃ (n : Int) (i : Nat), E = .int .i64 0 ∧ N = .int .i64 n ∧ I = .int .i64 (i : Nat) ∧ i ≤ k1 ∧ Hid (∃ y ∈ M, y.1.n = n) ∧ Hid (vGo V.l n (L.drop i) = (r1, r2)) ∧ Hid (Below w1.heap.size w1 wr)) (fun _ _ I _ => k1 - (intOf I).toNat)
    case atStart => exact ⟨1, 0, rfl, rfl, rfl, Nat.zero_le _, R1, by rw [List.drop_zero]; exact HR.out.symm, Below.refl _ _⟩
    case round =>
      obtain ⟨n, i, rfl, rfl, rfl, hi, HY, HG, LR⟩ := hrel
      by_cases hlt : i < k1
      · have hil : i < L.length := by have := HLEN.out; omega
        obtain ⟨x, hx⟩ : ∃ x, x = L[i] := ⟨_, rfl⟩
        have hxg : nameOf x = true := HN.out x (by rw [hx]; exact List.getElem_mem hil)
        have e1 : L.drop i = x :: L.drop (i + 1) := by rw [hx]; exact List.drop_eq_getElem_cons hil
        have e2 : L[i]? = some x := by rw [hx]; exact List.getElem?_eq_getElem hil
        rw [e1] at HG
        obtain ⟨b, off, rfl, hb, hc⟩ := (HH.out.below LR.out).cells (by omega)
        have gc := hc i x e2
        obtain ⟨y, hy, hyn⟩ := HY.out
        have hkk : vKind V.l n = y.1.kind := by rw [← hyn]; exact H.out.kindOf hy
        have HM1 := H.out.ok
        rcases H.out.p.kind y hy with hk | hk
        · rw [hk] at hkk
          obtain ⟨g, u, X, cells⟩ := H.out.step hy hyn hk hxg
          obtain ⟨j1, j2, j3, j4, ca⟩ := cells wr (step L1.out LR.out)
          obtain ⟨C, hC⟩ : ∃ C, C = vChild V.l n x := ⟨_, rfl⟩
          rw [← hC] at ca
          have CA := Lib.hid ca
          have HK := Lib.hid hkk
          have HC := Lib.hid hC
          clear hx e1 e2 hc hy hyn hkk hk cells ca hC hxg HY HM1
          obtain ⟨X2, hX⟩ : ∃ X : ByteArray, X = ⟨x.toArray⟩ := ⟨_, rfl⟩
          unfold strV at gc CA
          rw [← hX] at gc CA
          clear hX
          by_cases hc0 : C = 0
          · subst hc0
            rw [if_pos rfl] at CA
            have e3 : Hid ((0 : Int) = r1 ∧ (7 : Int) = r2) := by
              have := HG.out
              rw [vGo_none HK.out HC.out.symm] at this
              exact Prod.mk.injEq .. ▸ this
            obtain ⟨rfl, rfl⟩ := e3.out
            go_wp2_with fail
            refine CA.out.mono ?_
            rintro e w3 ⟨rfl, l3⟩
            have L3 := Lib.hid (step LR.out l3)
            clear l3 CA gc
            go_wp2
            rw [Exit.noGoto_ret]
            go_ret2
            exact ⟨rfl, step L1.out L3.out⟩
          · rw [if_neg hc0] at CA
            have HG2 : Hid (vGo V.l C (L.drop (i + 1)) = (r1, r2)) := by
              have := HG.out
              rw [vGo_on HK.out (by rw [← HC.out]; exact hc0), ← HC.out] at this
              exact this
            have HY2 : Hid (∃ y ∈ M, y.1.n = C) := by
              have hq := HC.out
              rw [hq] at hc0 ⊢
              obtain ⟨z, hz, _, _, e⟩ := vChild_some hc0
              obtain ⟨y, hy, e2⟩ := H.out.node hz
              exact ⟨y, hy, by rw [e2, e]⟩
            clear hc0 HG HK HC
            go_wp2_with fail
            refine CA.out.mono ?_
            rintro e w3 ⟨rfl, l3⟩
            have L3 := Lib.hid (step LR.out l3)
            clear l3 CA gc
            go_wp2_with fail
            go_roundw
            case rel => exact ⟨C, i + 1, rfl, rfl, by go_num, by omega, HY2, HG2, L3⟩
            case measure => simp [intOf]; omega
        · rw [hk] at hkk
          have e3 : Hid ((0 : Int) = r1 ∧ (9 : Int) = r2) := by
            have := HG.out
            rw [vGo_kind (by rw [hkk]; decide)] at this
            exact Prod.mk.injEq .. ▸ this
          obtain ⟨rfl, rfl⟩ := e3.out
          obtain ⟨g, cells⟩ := H.out.stop hy hyn hk
          obtain ⟨j1, j2, j3⟩ := cells wr (step L1.out LR.out)
          clear hx e1 e2 hc hy hyn hkk hk cells hxg HY HM1 e3
          obtain ⟨X2, hX⟩ : ∃ X : ByteArray, X = ⟨x.toArray⟩ := ⟨_, rfl⟩
          unfold strV at gc
          rw [← hX] at gc
          clear hX
          go_wp2
          rw [Exit.noGoto_ret]
          go_ret2
          exact ⟨rfl, step L1.out LR.out⟩
      · obtain rfl : i = k1 := by omega
        have e3 : Hid (n = r1 ∧ (0 : Int) = r2) := by
          have := HG.out
          rw [List.drop_of_length_le (by have := HLEN.out; omega)] at this
          exact Prod.mk.injEq .. ▸ this
        obtain ⟨rfl, rfl⟩ := e3.out
        go_wp2
        go_ret2
        exact ⟨rfl, step L1.out LR.out⟩
  · rw [vFind_bad he] at hr
    obtain ⟨E, hE⟩ : ∃ E, E = parseErr s := ⟨_, rfl⟩
    rw [← hE] at c1 hr he
    injection hr with hr1 hr2
    subst hr1 hr2
    have C1 := Lib.hid c1
    clear c1 hE H
    go_enter Tryz.func13, Tryz.ntmps13
    go_wp2
    go_step3
    go_wp2_with fail
    refine CN.out.mono ?_
    rintro e w0 ⟨rfl, rfl⟩
    go_wp2_with fail
    refine C1.out.mono ?_
    rintro e w1 ⟨v1, rfl, o1, l1⟩
    have L1 := Lib.hid l1
    clear o1 l1
    go_wp2_with fail
    rw [Exit.noGoto_ret]
    go_ret2
    exact ⟨rfl, L1.out⟩
end
end Go.Proofs.YtdgpbhdihhchgaaGreatDoor

namespace Go.Proofs.YtdgpbhdihhchgaaGreatDoor
set_option linter.all false
set_option maxRecDepth 100000
open Go.RowKit
set_option linter.unusedVariables false
section
variable {V : VolM} {m n t : Int} {x : VNode} {ps qs : List NameL}
theorem idx_line (h : Vok V) (hn : Way V.l n qs) (h1 : n ≠ 1) (hw : Way V.l m ps) : ∀ f i, ps.length < f →
    Lib.idxFrom (vLn V.l f m) n i = (if m = n then (i : Int) else if vBel V.l (ps.length + 1) m n = true then ((i + (ps.length - qs.length) : Nat) : Int) else -1) ∧ (m ≠ n → vBel V.l (ps.length + 1) m n = true → qs.length < ps.length) := by
  induction hw with
  | root =>
    intro f i hf
    cases f with
    | zero => omega
    | succ f =>
      rw [vLn_one, if_neg (fun e => h1 e.symm), bel_root h]
      exact ⟨rfl, fun _ e => by cases e⟩
  | @step x ps a b c ih =>
    intro f i hf
    cases f with
    | zero => omega
    | succ f =>
      have hx1 : 1 < x.n := by have := (h.num x (vAt_mem a).1).1; omega
      rw [vLn_step a b, bel_step h a hx1]
      show (if x.n = n then (i : Int) else Lib.idxFrom (vLn V.l f x.par) n (i + 1)) = _ ∧ _
      obtain ⟨i1, i2⟩ := ih f (i + 1) (by simp at hf; omega)
      by_cases hxn : x.n = n
      · rw [if_pos hxn, if_pos hxn]
        exact ⟨rfl, fun e => absurd hxn e⟩
      · rw [if_neg hxn, if_neg hxn, i1]
        by_cases hp : x.par = n
        · have hps : ps = qs := by
            rw [hp] at c
            exact c.same hn
          rw [if_pos hp, decide_eq_true hp, Bool.true_or, if_pos rfl, hps]
          simp
        · rw [if_neg hp, decide_eq_false hp, Bool.false_or]
          by_cases hb : vBel V.l (ps.length + 1) x.par n = true
          · have := i2 hp hb
            rw [if_pos hb, if_pos hb]
            simp
            omega
          · rw [if_neg hb, if_neg hb]
            exact ⟨rfl, fun _ e => absurd e hb⟩
/-- where n stands among the numbers from a node upwards -/
def ixV (L : List VNode) (n m : Int) : Int := Lib.idxOf (vLine L m) n
theorem ixV_of (h : Vok V) (hn : Way V.l n qs) (hq : qs.length ≤ 8) (h1 : n ≠ 1) (hw : Way V.l m ps) (hp : ps.length ≤ 8) :
    ixV V.l n m = (if m = n then 0 else if vUnder V.l m n = true then (((vNames V.l m).length - (vNames V.l n).length : Nat) : Int) else -1) := by
  obtain ⟨i1, _⟩ := idx_line h hn h1 hw 10 0 (by omega)
  unfold ixV Lib.idxOf vLine vUnder
  rw [i1, hn.names hq, hw.names hp, hw.bel h 10 (by omega)]
  simp
theorem foldl_max_has (f : VNode → Bool) (g : VNode → Nat) : ∀ (l : List VNode) (m : Nat), l.foldl (fun m x => if f x = true then max m (g x) else m) m = m ∨ ∃ x ∈ l, f x = true ∧ l.foldl (fun m x => if f x = true then max m (g x) else m) m = g x
  | [], m => .inl rfl
  | y :: r, m => by
    rw [List.foldl_cons]
    rcases foldl_max_has f g r (if f y = true then max m (g y) else m) with h | ⟨x, hx, h1, h2⟩
    · rw [h]
      by_cases hy : f y = true
      · rw [if_pos hy]
        rcases Nat.le_total m (g y) with h3 | h3
        · exact .inr ⟨y, List.mem_cons_self .., hy, Nat.max_eq_right h3⟩
        · exact .inl (Nat.max_eq_left h3)
      · rw [if_neg hy]
        exact .inl rfl
    · exact .inr ⟨x, List.mem_cons_of_mem _ hx, h1, h2⟩
/-- the greatest of those places is how deep it is -/
theorem deep_of (h : Vok V) (hx0 : x ∈ V.l) (h1 : x.n ≠ 1) {k : Nat} (ha : ∀ y ∈ V.l, ixV V.l x.n y.n ≤ (k : Int)) (hb : k = 0 ∨ ∃ y ∈ V.l, ixV V.l x.n y.n = (k : Int)) : k = vDeep V.l x.n := by
  obtain ⟨qs, hn, hq⟩ := h.way x hx0
  have key : ∀ y ∈ V.l, ixV V.l x.n y.n = (if y.n = x.n then 0 else if vUnder V.l y.n x.n = true then (((vNames V.l y.n).length - (vNames V.l x.n).length : Nat) : Int) else -1) := fun y hy => by
    obtain ⟨ps, hw, hp⟩ := h.way y hy
    exact ixV_of h hn hq h1 hw hp
  have hle : ∀ y ∈ V.l, vUnder V.l y.n x.n = true → (vNames V.l y.n).length - (vNames V.l x.n).length ≤ vDeep V.l x.n := fun y hy hu => by
    have := (foldl_max_le (fun z => vUnder V.l z.n x.n) (fun z => (vNames V.l z.n).length - (vNames V.l x.n).length) V.l 0).2 y hy hu
    unfold vDeep vDeepN
    rw [List.take_length]
    exact this
  have hhas : vDeep V.l x.n = 0 ∨ ∃ y ∈ V.l, vUnder V.l y.n x.n = true ∧ vDeep V.l x.n = (vNames V.l y.n).length - (vNames V.l x.n).length := by
    have := foldl_max_has (fun z => vUnder V.l z.n x.n) (fun z => (vNames V.l z.n).length - (vNames V.l x.n).length) V.l 0
    unfold vDeep vDeepN
    rw [List.take_length]
    exact this
  have a1 : k ≤ vDeep V.l x.n := by
    rcases hb with rfl | ⟨y, hy, e⟩
    · exact Nat.zero_le _
    · rw [key y hy] at e
      by_cases e1 : y.n = x.n
      · rw [if_pos e1] at e
        omega
      · rw [if_neg e1] at e
        by_cases e2 : vUnder V.l y.n x.n = true
        · rw [if_pos e2] at e
          have := hle y hy e2
          omega
        · rw [if_neg e2] at e
          omega
  have a2 : vDeep V.l x.n ≤ k := by
    rcases hhas with e | ⟨y, hy, hu, e⟩
    · omega
    · have h3 := ha y hy
      rw [key y hy] at h3
      by_cases e1 : y.n = x.n
      · rw [e, e1]
        omega
      · rw [if_neg e1, if_pos hu] at h3
        omega
  omega
theorem ix_small (h : Vok V) {y : VNode} (hy : y ∈ V.l) (hx0 : x ∈ V.l) (h1 : x.n ≠ 1) : -1 ≤ ixV V.l x.n y.n ∧ ixV V.l x.n y.n ≤ 8 := by
  obtain ⟨qs, hn, hq⟩ := h.way x hx0
  obtain ⟨ps, hw, hp⟩ := h.way y hy
  rw [ixV_of h hn hq h1 hw hp, hw.names hp, hn.names hq]
  split
  · omega
  · split <;> omega
end
/-! ### what all files have, of those that have come -/
def lenL (M : List VN) (left : Lit → Bool) : Nat := (M.map fun y => if left (.int .i64 y.1.n) = true then 0 else y.1.B.length).sum
section
variable {M : List VN} {left : Lit → Bool} {y : VN}
theorem lenL_start (h : ∀ y ∈ M, left (.int .i64 y.1.n) = true) : lenL M left = 0 := by
  unfold lenL
  induction M with
  | nil => rfl
  | cons z r ih =>
    rw [List.map_cons, List.sum_cons, if_pos (h z (List.mem_cons_self ..)), ih fun y hy => h y (List.mem_cons_of_mem _ hy)]
theorem lenL_end (h : ∀ kl, left kl = false) : lenL M left = vUsed (M.map (·.1)) := by
  unfold lenL vUsed
  rw [List.map_map]
  congr 1
  refine List.map_congr_left fun z hz => ?_
  rw [h]
  rfl
theorem strike_other {z : VN} (h : z.1.n ≠ y.1.n) : (left (.int .i64 z.1.n) && !(Lit.int .i64 z.1.n).sameKey (.int .i64 y.1.n)) = left (.int .i64 z.1.n) := by
  rw [Maps.sameKey_ne (fun e => h (by injection e)), Bool.not_false, Bool.and_true]
theorem strike_same : (left (.int .i64 y.1.n) && !(Lit.int .i64 y.1.n).sameKey (.int .i64 y.1.n)) = false := by
  rw [WideAt.sameKey_self (nkey _), Bool.not_true, Bool.and_false]
theorem lenL_step : ∀ {M : List VN}, M.Pairwise (fun y z => y.1.n < z.1.n) → y ∈ M → left (.int .i64 y.1.n) = true → lenL M (fun z => left z && !z.sameKey (.int .i64 y.1.n)) = lenL M left + y.1.B.length
  | [], _, hy, _ => by cases hy
  | z :: r, hp, hy, hl => by
    obtain ⟨p1, p2⟩ := List.pairwise_cons.1 hp
    unfold lenL
    rw [List.map_cons, List.sum_cons, List.map_cons, List.sum_cons]
    rcases List.mem_cons.1 hy with rfl | hy
    · have e : (r.map fun x : VN => if (left (.int .i64 x.1.n) && !(Lit.int .i64 x.1.n).sameKey (.int .i64 y.1.n)) = true then 0 else x.1.B.length) = r.map fun x => if left (.int .i64 x.1.n) = true then 0 else x.1.B.length := List.map_congr_left fun x hx => by
        rw [strike_other (fun e => by have := p1 x hx; omega)]
      rw [e]
      show ((if (left (.int .i64 y.1.n) && !(Lit.int .i64 y.1.n).sameKey (.int .i64 y.1.n)) = true then 0 else y.1.B.length) + _ : Nat) = _
      rw [strike_same, if_pos hl, if_neg (by decide)]
      omega
    · have ih := lenL_step p2 hy hl
      unfold lenL at ih
      rw [ih]
      show ((if (left (.int .i64 z.1.n) && !(Lit.int .i64 z.1.n).sameKey (.int .i64 y.1.n)) = true then 0 else z.1.B.length) + _ : Nat) = _
      rw [strike_other (y := y) (z := z) (fun e => by have := p1 y hy; omega)]
      omega
theorem lenL_le : lenL M left ≤ vUsed (M.map (·.1)) := by
  unfold lenL vUsed
  rw [List.map_map]
  induction M with
  | nil => exact Nat.le_refl _
  | cons z r ih =>
    rw [List.map_cons, List.sum_cons, List.map_cons, List.sum_cons]
    have : (if left (.int .i64 z.1.n) = true then 0 else z.1.B.length) ≤ z.1.B.length := by split <;> omega
    simp only [Function.comp] at ih ⊢
    omega
end
end Go.Proofs.YtdgpbhdihhchgaaGreatDoor

namespace Go.Proofs.YtdgpbhdihhchgaaGreatDoor
set_option linter.all false
set_option maxRecDepth 100000
open Go.RowKit
set_option linter.unusedVariables false
section
variable {DI : DrI} {EI : FiI} {w w' : World} {base q m : Nat} {D : DataW Unit} {V : VolM} {M : List VN} {y z : VN} {x : VNode} {n : Int} {s : NameL}
theorem VSpot_bad (HT : HasT DI) (h : PV DI EI w base q m D V M) (hs : s.length ≤ 1048576) {E : Int} (hE : parentErr s = E) (h0 : E ≠ 0) : Calls Tryz.prog 66 #[ptrV q, strV s] w fun e w' => e = .returned (.tuple #[.int .i64 0, strV [], .int .i64 E]) ∧ Below w.heap.size w w' := by
  have c1 := Parent_any ⟨s.toArray⟩ w (by rw [mk_size]; omega) (h.tabs HT)
  unfold ParentPost at c1
  rw [show (⟨s.toArray⟩ : ByteArray).data.toList = s from rfl, hE] at c1
  obtain ⟨S, hS⟩ : ∃ S : ByteArray, S = ⟨s.toArray⟩ := ⟨_, rfl⟩
  obtain ⟨Q, hQ⟩ : ∃ S : ByteArray, S = ⟨(dirOf s).toArray⟩ := ⟨_, rfl⟩
  obtain ⟨Z, hZ⟩ : ∃ S : ByteArray, S = ⟨(lastOf s).toArray⟩ := ⟨_, rfl⟩
  have hS1 : strV s = .string S := by rw [hS]; rfl
  rw [← hS, ← hQ, ← hZ] at c1
  rw [hS1]
  have C1 := Lib.hid c1
  clear c1 hS hS1 hQ hZ h hE
  unfold ptrV
  go_enter Tryz.func66, Tryz.ntmps66
  go_wp2_with fail
  refine C1.out.mono ?_
  rintro e w1 ⟨rfl, l1⟩
  have L1 := Lib.hid l1
  clear l1 C1
  go_wp2_with fail
  go_ret3
  exact ⟨rfl, L1.out⟩
set_option maxHeartbeats 4000000 in
theorem VSpot_any (HT : HasT DI) (h : PV DI EI w base q m D V M) (hs : s.length ≤ 1048576) (hE : parentErr s = 0) : Calls Tryz.prog 66 #[ptrV q, strV s] w fun e w' => e = .returned (.tuple #[.int .i64 (vParN V.l s), strV (vParS V.l s), .int .i64 (vParE V.l s)]) ∧ Below w.heap.size w w' := by
  have c1 := Parent_any ⟨s.toArray⟩ w (by rw [mk_size]; omega) (h.tabs HT)
  unfold ParentPost at c1
  rw [show (⟨s.toArray⟩ : ByteArray).data.toList = s from rfl, hE] at c1
  have hdl := (dir_len s).1
  obtain ⟨d, hd⟩ : ∃ d, d = dirOf s := ⟨_, rfl⟩
  obtain ⟨z, hz⟩ : ∃ z, z = lastOf s := ⟨_, rfl⟩
  have c2 : ∀ w1, Below w.heap.size w w1 → _ := fun w1 hb => VFind_any HT (h.below hb) (s := d) (by rw [hd]; omega)
  obtain ⟨fe, hfe⟩ : ∃ fe, fe = (vFind V.l d).2 := ⟨_, rfl⟩
  obtain ⟨fn, hfn⟩ : ∃ fn, fn = (vFind V.l d).1 := ⟨_, rfl⟩
  have hE : vParE V.l s = if fe ≠ 0 then fe else if vKind V.l fn ≠ 1 then 9 else 0 := by
    unfold vParE
    rw [← hd, ← hfe, ← hfn]
  have hNn : vParN V.l s = if vParE V.l s = 0 then fn else 0 := by
    unfold vParN
    rw [← hd, ← hfn]
  have hNs : vParS V.l s = if vParE V.l s = 0 then z else [] := by
    unfold vParS
    rw [← hz]
  have hnode : fe = 0 → ∃ y ∈ M, y.1.n = fn := fun e => by
    by_cases hp : parseErr d = 0
    · rw [vFind_ok hp] at hfe hfn
      obtain ⟨rs, hw, _⟩ := h.ok.go (n := fn) Way.root (qs := parseOf d) (by rw [hfn]; exact Prod.ext rfl (hfe.symm.trans e))
      obtain ⟨x, hx⟩ := hw.at h.ok
      obtain ⟨y, hy, _, en⟩ := h.at hx
      exact ⟨y, hy, en⟩
    · rw [vFind_bad hp] at hfe
      exact absurd (hfe.symm.trans e) hp
  rw [hNn, hNs, hE]
  rw [← hd, ← hz] at c1
  rw [← hfe, ← hfn] at c2
  obtain ⟨Q, hQ⟩ : ∃ Q : ByteArray, Q = ⟨d.toArray⟩ := ⟨_, rfl⟩
  obtain ⟨Z, hZ⟩ : ∃ Z : ByteArray, Z = ⟨z.toArray⟩ := ⟨_, rfl⟩
  obtain ⟨S, hS⟩ : ∃ S : ByteArray, S = ⟨s.toArray⟩ := ⟨_, rfl⟩
  have hS1 : strV s = .string S := by rw [hS]; rfl
  have hZ1 : strV z = .string Z := by rw [hZ]; rfl
  have hQ1 : strV d = .string Q := by rw [hQ]; rfl
  rw [← hQ, ← hZ, ← hS] at c1
  rw [hQ1] at c2
  rw [hS1]
  have C1 := Lib.hid c1
  have C2 := Lib.hid c2
  have HZ1 := Lib.hid hZ1
  have H := Lib.hid h
  have HNODE := Lib.hid hnode
  clear c1 c2 hE hNn hNs hd hz hfe hfn hQ hZ hS hS1 hQ1 hZ1 hdl hnode h
  unfold ptrV at C2 ⊢
  by_cases h1 : fe = 0
  · subst h1
    obtain ⟨y, hy, hyn⟩ := HNODE.out rfl
    rcases H.out.p.kind y hy with hk | hk
    · have hkk : vKind V.l fn = 1 := by rw [← hyn, H.out.kindOf hy, hk]
      rw [hkk, show (if (0 : Int) ≠ 0 then (0 : Int) else if (1 : Int) ≠ 1 then 9 else 0) = 0 from rfl, if_pos rfl, if_pos rfl, HZ1.out]
      have FACT : Hid (∃ g, ∀ w2, Below w.heap.size w w2 → w2.cell? ⟨q, 1, none⟩ = some (.map (some m)) ∧ (Instr.lookup 69 (.map (some m)) (.int .i64 fn) false).run Tryz.prog w2 = .ok (.pointer (some ⟨g, 0, none⟩)) w2 ∧ w2.cell? ⟨g, 0, none⟩ = some (.int .u8 1)) := ⟨y.2.g, fun w2 hb => by
        have p2 := H.out.p.below hb
        have l2 := p2.look1 hy
        rw [hyn] at l2
        have n0 := p2.n0 hy
        rw [hk] at n0
        exact ⟨p2.c1, l2, n0⟩⟩
      obtain ⟨g, cells⟩ := FACT.out
      have CELLS := Lib.hid cells
      clear hy hyn hk hkk FACT cells
      go_enter Tryz.func66, Tryz.ntmps66
      go_wp2_with fail
      refine C1.out.mono ?_
      rintro e w1 ⟨rfl, l1⟩
      have L1 := Lib.hid l1
      have D2 := Lib.hid (C2.out w1 l1)
      clear l1 C1
      go_wp2_with fail
      refine D2.out.mono ?_
      rintro e w2 ⟨rfl, l2⟩
      have L2 := Lib.hid (step L1.out l2)
      obtain ⟨j1, j2, j3⟩ := CELLS.out w2 L2.out
      clear l2 C2 D2
      go_wp2_with fail
      go_ret3
      exact ⟨rfl, L2.out⟩
    · have hkk : vKind V.l fn = 2 := by rw [← hyn, H.out.kindOf hy, hk]
      rw [hkk, show (if (0 : Int) ≠ 0 then (0 : Int) else if (2 : Int) ≠ 1 then 9 else 0) = 9 from rfl, if_neg (by decide), if_neg (by decide)]
      obtain ⟨g, cells⟩ := H.out.stop hy hyn hk
      have CELLS := Lib.hid cells
      clear hy hyn hk hkk cells
      go_enter Tryz.func66, Tryz.ntmps66
      go_wp2_with fail
      refine C1.out.mono ?_
      rintro e w1 ⟨rfl, l1⟩
      have L1 := Lib.hid l1
      have D2 := Lib.hid (C2.out w1 l1)
      clear l1 C1
      go_wp2_with fail
      refine D2.out.mono ?_
      rintro e w2 ⟨rfl, l2⟩
      have L2 := Lib.hid (step L1.out l2)
      obtain ⟨j1, j2, j3⟩ := CELLS.out w2 L2.out
      clear l2 C2 D2
      go_wp2_with fail
      go_ret3
      exact ⟨rfl, L2.out⟩
  · rw [if_pos h1, if_neg h1, if_neg h1]
    have t : (fe != 0) = true := by simpa using h1
    clear h1 HNODE
    go_enter Tryz.func66, Tryz.ntmps66
    go_wp2_with fail
    refine C1.out.mono ?_
    rintro e w1 ⟨rfl, l1⟩
    have L1 := Lib.hid l1
    have D2 := Lib.hid (C2.out w1 l1)
    clear l1 C1
    go_wp2_with fail
    refine D2.out.mono ?_
    rintro e w2 ⟨rfl, l2⟩
    have L2 := Lib.hid (step L1.out l2)
    clear l2 C2 D2
    go_wp2_with fail
    go_ret3
    exact ⟨rfl, L2.out⟩
/-- does a node make room for another one -/
def vYieldE (k k' : Int) (o : Bool) : Int := if o = false then 8 else if k = 1 ∨ k' = 1 then 9 else 0
theorem VYields_any (h : PVol DI EI w base q m D V.quota V.last M (regs V.l)) (hz : z ∈ M) (hy : y ∈ M) {t : Int} (hzn : z.1.n = t) (hyn : y.1.n = n) (o : Bool) : Calls Tryz.prog 68 #[ptrV q, .int .i64 t, .int .i64 n, .bool o] w fun e w' => e = .returned (.int .i64 (vYieldE z.1.kind y.1.kind o)) ∧ w = w' := by
  have k1 := h.c1
  have lz := h.look1 hz
  have ly := h.look1 hy
  have nz := h.n0 hz
  have ny := h.n0 hy
  rw [hzn] at lz
  rw [hyn] at ly
  have hkz := h.kind z hz
  have hky := h.kind y hy
  obtain ⟨gz, hgz⟩ : ∃ g, g = z.2.g := ⟨_, rfl⟩
  obtain ⟨gy, hgy⟩ : ∃ g, g = y.2.g := ⟨_, rfl⟩
  obtain ⟨kz, hkz'⟩ : ∃ g, g = z.1.kind := ⟨_, rfl⟩
  obtain ⟨ky, hky'⟩ : ∃ g, g = y.1.kind := ⟨_, rfl⟩
  rw [← hgz] at lz nz
  rw [← hgy] at ly ny
  rw [← hkz'] at nz hkz ⊢
  rw [← hky'] at ny hky ⊢
  clear h hz hy hzn hyn hgz hgy hkz' hky'
  unfold ptrV at lz ly ⊢
  cases o with
  | false =>
    go_enter Tryz.func68, Tryz.ntmps68
    go_wp2_with fail
    go_ret
    exact ⟨rfl, rfl⟩
  | true =>
    rcases hkz with rfl | rfl
    · go_enter Tryz.func68, Tryz.ntmps68
      go_wp2_with fail
      go_ret
      exact ⟨rfl, rfl⟩
    · rcases hky with rfl | rfl
      · go_enter Tryz.func68, Tryz.ntmps68
        go_wp2_with fail
        go_ret
        exact ⟨rfl, rfl⟩
      · go_enter Tryz.func68, Tryz.ntmps68
        go_wp2_with fail
        go_ret
        exact ⟨rfl, rfl⟩
theorem VIndex_any (w : World) (B : Nat) (A : Option Addr) (k c : Nat) (zs : List Int) (hh : HoldsF (Value.int .i64) w B A k c zs) (x : Int) (hk : k ≤ 9223372036854775807) : Calls Tryz.prog 117 #[.slice A k c, .int .i64 x] w fun e w' => e = .returned (.int .i64 (Lib.idxOf zs x)) ∧ w = w' := by
  have hl := hh.len
  by_cases h0 : k = 0
  · subst h0
    obtain rfl : zs = [] := List.eq_nil_of_length_eq_zero hl
    refine (Tryz.slices_Index_int_empty A c x w).mono ?_
    rintro e w' ⟨rfl, rfl⟩
    exact ⟨rfl, rfl⟩
  · obtain ⟨b, off, rfl, _, hc⟩ := hh.cells (by omega)
    refine (Tryz.slices_Index_int b off k c zs x w (by omega) hk fun j hj => ?_).mono ?_
    · rw [hc j zs[j] (List.getElem?_eq_getElem hj), List.getD_eq_getElem?_getD, List.getElem?_eq_getElem hj]
      rfl
    · rintro e w' ⟨rfl, rfl⟩
      rw [List.take_of_length_le (by omega)]
      exact ⟨rfl, rfl⟩
abbrev VRng (w : World) (m r N : Nat) (D : DataW Unit) (left : Lit → Bool) (cnt : Nat) : Prop := w.ranges Tryz.prog 3 ptrR m r N D left cnt
theorem VRng.below {r N cnt : Nat} {left : Lit → Bool} (h : VRng w m r N D left cnt) (hb : Below w.heap.size w w') : VRng w' m r N D left cnt := World.ranges.kept h (row := none) ⟨hb.os, hb.tape, hb.output, hb.size, fun i hi _ => hb.block i hi⟩ (by simp) (by simp)
theorem wpList_next_vol {ops : Array Oper} {rest : List Oper} {o : Oper} {a : Act} {Q : Exit → Act → World → Prop} (hg : o.guard = none) (it : Operand) (hop : o.op = Op.next it false) (r N : Nat) (L : List (Int × Nat)) (left : Lit → Bool) (cnt : Nat)
    (hit : a.eval it = .pointer (some ⟨r, 0, none⟩)) (h : VRng w m r N D left cnt) (hN : NMap D L)
    (hDone : cnt = 0 → (∀ kl, left kl = false) → wpList Tryz.prog ops Q rest (a.put o.dst (.tuple #[.bool false])) w)
    (hMore : ∀ (k : Int) (g : Nat) (w' : World) (cnt' : Nat), (k, g) ∈ L → left (.int .i64 k) = true → VRng w' m r N D (fun z => left z && !z.sameKey (.int .i64 k)) cnt' → cnt' < cnt → w.grownBy w' (some r) → w'.heap.size = w.heap.size →
      (Instr.entry (.pointer (some ⟨r, 0, none⟩))).run Tryz.prog w' = .ok (.tuple #[.int .i64 k, .pointer (some ⟨g, 0, none⟩)]) w' → wpList Tryz.prog ops Q rest (a.put o.dst (.tuple #[.bool true, .int .i64 k, .pointer (some ⟨g, 0, none⟩)])) w') :
    wpList Tryz.prog ops Q (o :: rest) a w :=
  wpList_next_ranges w hg it hop 3 vol_keyed ptrR (Value.int .i64) Value.pointer (fun key kl hkey => by obtain ⟨x, rfl, _⟩ := Maps.keyOf_int_inv Tryz.underlying3 hkey; exact ⟨x, rfl⟩) (fun v y hv => ptrR_any hv) m r N D left cnt hit h hDone
    (fun x c kl y w' cnt' hkey hlk hv hat hrg hlt hgr hsz hen => by
      obtain ⟨x', ex, rfl, hwx⟩ := Maps.keyOf_int_inv Tryz.underlying3 hkey
      cases ex
      have hh := Maps.has_true_of_atKey hat
      rw [hN.has, List.any_eq_true] at hh
      obtain ⟨p, hp, e⟩ := hh
      have e : p.1 = x := by simpa using e
      subst e
      have h3 := hat (.lit (.int .i64 0))
      rw [hN.num p hp] at h3
      obtain ⟨y1, y2⟩ := y
      have h3 : DataW.lit (.int .i64 (p.2 : Nat)) = y1 := h3
      subst h3
      have h4 := ptrR_inv hv
      unfold ptrV at h4
      rw [h4] at hen ⊢
      exact hMore p.1 p.2 w' cnt' hp hlk hrg hlt hgr hsz hen)
/-- the greatest place among those that have come -/
def Most (V : VolM) (M : List VN) (n : Int) (left : Lit → Bool) (k : Nat) : Prop := (∀ y ∈ M, left (.int .i64 y.1.n) = false → ixV V.l n y.1.n ≤ (k : Int)) ∧ (k = 0 ∨ ∃ y ∈ M, ixV V.l n y.1.n = (k : Int))
theorem Most.step {left : Lit → Bool} {k : Nat} (h : PV DI EI w base q m D V M) (a : Most V M n left k) (hy : y ∈ M) : Most V M n (fun z => left z && !z.sameKey (.int .i64 y.1.n)) (max (k : Int) (ixV V.l n y.1.n)).toNat := by
  refine ⟨fun z hz hl => ?_, ?_⟩
  · by_cases e : z.1.n = y.1.n
    · rw [h.p.same hz hy e]
      omega
    · have hl' : left (.int .i64 z.1.n) = false := by
        rw [← strike_other (left := left) e]
        exact hl
      have := a.1 z hz hl'
      omega
  · rcases Int.le_total (ixV V.l n y.1.n) (k : Int) with h1 | h1
    · have e : (max (k : Int) (ixV V.l n y.1.n)).toNat = k := by omega
      rw [e]
      exact a.2
    · exact .inr ⟨y, hy, by omega⟩
theorem has_nums (h : PVol DI EI w base q m D V.quota V.last M (regs V.l)) : ∀ y ∈ M, Maps.has D (.int .i64 y.1.n) = true := fun y hy => by
  rw [h.is.has, List.any_eq_true]
  exact ⟨_, mem_nums hy, by simp⟩
set_option maxHeartbeats 8000000 in
theorem VDepth_any (h : PV DI EI w base q m D V M) (hy : y ∈ M) (hn : y.1.n = n) (h1 : n ≠ 1) : Calls Tryz.prog 67 #[ptrV q, .int .i64 n] w fun e w' => e = .returned (.int .i64 (vDeep V.l n : Nat)) ∧ Below w.heap.size w w' := by
  have k1 := h.p.c1
  have NM := Lib.hid h.p.is
  have MP := Lib.hid h.p.map
  have H := Lib.hid h
  have SM : Hid (∀ z ∈ M, -1 ≤ ixV V.l n z.1.n ∧ ixV V.l n z.1.n ≤ 8) := fun z hz => by
    have := ix_small h.ok (h.mem hz) (h.mem hy) (by rw [hn]; exact h1)
    rw [hn] at this
    exact this
  have FIN : Hid (∀ k : Nat, Most V M n (fun _ => false) k → k = vDeep V.l n) := fun k a => by
    have := deep_of h.ok (h.mem hy) (by rw [hn]; exact h1) (k := k) (fun x hx => by
      obtain ⟨z, hz, e⟩ := h.node hx
      have := a.1 z hz rfl
      rw [e] at this
      rw [hn]
      exact this) (a.2.imp id fun ⟨z, hz, e⟩ => ⟨z.1, h.mem hz, by rw [hn]; exact e⟩)
    rw [hn] at this
    exact this
  have M0 : Hid (Most V M n (Maps.has D) 0) := ⟨fun z hz hl => (by rw [has_nums h.p z hz] at hl; cases hl), .inl rfl⟩
  clear h hy hn
  unfold ptrV
  go_enter Tryz.func67, Tryz.ntmps67
  go_wp2_with (first
    | ((with_reducible show wpList _ _ _ (⟨some 11, _, _, _, _, _⟩ :: _) _ _); go_loud (refine wpList_range_own _ rfl (.tmp 10) 69 rfl 3 81 vol_keyed Tryz.underlying69 ptrR m M.length D rfl MP.out ?_); intro w0 rg0 g0 s0; have RG0 : Hid (VRng w0 m w.heap.size M.length D (Maps.has D) (Maps.size D)) := rg0; have L0 : Hid (Below w.heap.size w w0) := (Below.refl _ w).grown g0 (Nat.le_refl _) (fun j hj => by cases hj); clear rg0 g0 s0)
    | fail)
  go_frame
  go_loopw [5] (fun O wr => ∃ (left : Lit → Bool) (cnt k : Nat), O = .int .i64 (k : Nat) ∧ k ≤ 8 ∧ Hid (VRng wr m w.heap.size M.length D left cnt) ∧ Hid (Most V M n left k) ∧ Hid (Below w.heap.size w wr)) (fun _ wr => wr.rangeLeft m w.heap.size)
  case atStart => exact ⟨_, _, 0, rfl, by omega, RG0, M0, L0⟩
  case round =>
    obtain ⟨left, cnt, k, rfl, hk, RG, MO, LR⟩ := hrel
    rename World => w1
    clear RG0 M0 L0
    go_wp2_with (first
      | ((with_reducible show wpList _ _ _ (⟨some 12, _, _, _, _, _⟩ :: _) _ _); go_loud (refine wpList_next_vol rfl (.tmp 11) rfl w.heap.size M.length (nums M) left cnt rfl RG.out NM.out ?_ ?_))
      | fail)
    · intro hc hl
      have e0 : left = fun _ => false := funext hl
      subst e0
      have HK := Lib.hid (FIN.out k MO.out)
      clear hl hc
      go_wp2_with fail
      go_ret
      exact ⟨by rw [HK.out]; rfl, LR.out⟩
    · intro p g w2 cnt2 hp hlp rg2 hlt g2 s2 hen
      obtain ⟨z, hz, ez⟩ := List.mem_map.1 hp
      injection ez with e1 e2
      subst e1
      have L2 : Hid (Below w.heap.size w w2) := LR.out.grown g2 LR.out.size (fun j hj => by injection hj with hj; omega)
      have MO2 := Lib.hid (MO.out.step H.out hz)
      have CL := Lib.hid (VLine_any (H.out.below L2.out) hz rfl)
      have hsm := SM.out z hz
      have RG2 := Lib.hid rg2
      have HLT : Hid (w2.rangeLeft m w.heap.size < w1.rangeLeft m w.heap.size) := by
        show _ < _
        rw [World.ranges.left_eq rg2, World.ranges.left_eq RG.out]
        exact hlt
      obtain ⟨zn, hzn⟩ : ∃ zn, zn = z.1.n := ⟨_, rfl⟩
      obtain ⟨ix, hix⟩ : ∃ ix, ix = ixV V.l n z.1.n := ⟨_, rfl⟩
      have HIX : Hid (Lib.idxOf (vLine V.l zn) n = ix) := by rw [hzn, hix]; rfl
      rw [← hix] at MO2 hsm
      rw [← hzn] at CL RG2 hen MO2
      clear hp hlp rg2 hlt g2 hz hix hzn RG MO e2 s2
      unfold ptrV at CL
      go_wp2_with fail
      refine CL.out.mono ?_
      rintro e w3 ⟨v3, rfl, o3, l3⟩
      obtain ⟨A, k3, c3, rfl, hh⟩ := o3.holds
      have hl3 := hh.len
      have hf3 := hh.fit
      have L3 := Lib.hid (step L2.out l3)
      have RG3 := Lib.hid (RG2.out.below l3)
      have HLT3 : Hid (w3.rangeLeft m w.heap.size < w1.rangeLeft m w.heap.size) := by
        show _ < _
        rw [World.ranges.left_eq RG3.out, ← World.ranges.left_eq RG2.out]
        exact HLT.out
      have hk3 : k3 ≤ 9223372036854775807 := by
        rcases o3.open with ⟨_, _, _, e, _, _, h3, _⟩
        injection e with _ e2 _
        omega
      have CX := Lib.hid (VIndex_any w3 _ A k3 c3 _ hh n hk3)
      rw [HIX.out] at CX
      clear o3 hh l3 CL RG2 HLT hl3 hf3 hk3
      go_wp2_with fail
      refine CX.out.mono ?_
      rintro e w4 ⟨rfl, rfl⟩
      clear CX
      have e5 : ∃ k' : Nat, (max (k : Int) ix) = (k' : Int) ∧ k' ≤ 8 ∧ k' = (max (k : Int) ix).toNat := ⟨(max (k : Int) ix).toNat, by omega, by omega, rfl⟩
      obtain ⟨k', hk1, hk2, hk3⟩ := e5
      rw [← hk3] at MO2
      clear hk3
      go_wp2_with fail
      go_roundw
      case rel => exact ⟨_, _, k', by go_num, hk2, RG3, MO2, L3⟩
      case measure => exact HLT3.out
end
end Go.Proofs.YtdgpbhdihhchgaaGreatDoor

namespace Go.Proofs
set_option linter.all false
open Go.Shelf
def Tryz.keysA_ren : Go.Shelf.Ren := ⟨fun | 7 => 60 | 10 => 109 | n => n, fun | 23 => 69 | 26 => 3 | 3 => 81 | 28 => 120 | 0 => 0 | 27 => 119 | 33 => 153 | 4 => 4 | n => n, fun | n => n⟩
theorem Tryz.keysA : Go.Proofs.SlLaysZI.n7 Tryz.prog Tryz.keysA_ren := {
  mixed := by kernel_rfl
  f7 := ⟨Tryz.f60.name, by decide, Tryz.func60.trans (congrArg some (by kernel_rfl))⟩
  f10 := ⟨Tryz.f109.name, by decide, Tryz.func109.trans (congrArg some (by kernel_rfl))⟩
  t0 := Tryz.underlying0
  a0 := Tryz.isAgg0
  z0 := Tryz.sizeOf0
  v0 := Tryz.zeroValue0
  t4 := Tryz.underlying4
  a4 := Tryz.isAgg4
  z4 := Tryz.sizeOf4
  v4 := Tryz.zeroValue4
  t23 := Tryz.underlying69
  a23 := Tryz.isAgg69
  z23 := Tryz.sizeOf69
  v23 := Tryz.zeroValue69
  t26 := Tryz.underlying3
  a26 := Tryz.isAgg3
  z26 := Tryz.sizeOf3
  v26 := Tryz.zeroValue3
  t27 := Tryz.underlying119
  a27 := Tryz.isAgg119
  z27 := Tryz.sizeOf119
  v27 := Tryz.zeroValue119
  t28 := Tryz.underlying120
  a28 := Tryz.isAgg120
  z28 := Tryz.sizeOf120
  v28 := Tryz.zeroValue120
  t33 := Tryz.underlying153
  a33 := Tryz.isAgg153
  z33 := Tryz.sizeOf153
  v33 := Tryz.zeroValue153 }
def Tryz.sortedA_ren : Go.Shelf.Ren := ⟨fun | 6 => 59 | 8 => 107 | 9 => 108 | 11 => 158 | 13 => 160 | 12 => 159 | 23 => 195 | 24 => 196 | 14 => 186 | 15 => 187 | 16 => 188 | 17 => 189 | 18 => 190 | 19 => 191 | 20 => 192 | 21 => 193 | 22 => 194 | 25 => 213 | 26 => 214 | 27 => 215 | 28 => 216 | 29 => 217 | 30 => 218 | 31 => 226 | n => n, fun | 26 => 3 | 28 => 120 | 24 => 44 | 0 => 0 | 3 => 3 | 37 => 196 | 48 => 204 | 50 => 219 | 4 => 4 | 40 => 212 | 39 => 211 | 45 => 178 | 5 => 5 | 9 => 9 | 51 => 237 | 55 => 241 | 57 => 247 | 58 => 191 | 33 => 153 | n => n, fun | n => n⟩
theorem Tryz.sortedA : Go.Proofs.SlLaysZI.n6 Tryz.prog Tryz.sortedA_ren := {
  mixed := by kernel_rfl
  f6 := ⟨Tryz.f59.name, by decide, Tryz.func59.trans (congrArg some (by kernel_rfl))⟩
  f8 := ⟨Tryz.f107.name, by decide, Tryz.func107.trans (congrArg some (by kernel_rfl))⟩
  f11 := ⟨Tryz.f158.name, by decide, Tryz.func158.trans (congrArg some (by kernel_rfl))⟩
  t0 := Tryz.underlying0
  a0 := Tryz.isAgg0
  z0 := Tryz.sizeOf0
  v0 := Tryz.zeroValue0
  t24 := Tryz.underlying44
  a24 := Tryz.isAgg44
  z24 := Tryz.sizeOf44
  v24 := Tryz.zeroValue44
  t26 := Tryz.underlying3
  a26 := Tryz.isAgg3
  z26 := Tryz.sizeOf3
  v26 := Tryz.zeroValue3
  t28 := Tryz.underlying120
  a28 := Tryz.isAgg120
  z28 := Tryz.sizeOf120
  v28 := Tryz.zeroValue120
  i26 := by kernel_rfl }
end Go.Proofs

namespace Go.Proofs.YtdgpbhdihhchgaaGreatDoor
set_option linter.all false
set_option maxRecDepth 100000
open Go.RowKit
set_option linter.unusedVariables false
section
variable {DI : DrI} {EI : FiI} {w w' : World} {base q m : Nat} {D : DataW Unit} {V : VolM} {M : List VN} {y z : VN} {x : VNode} {n : Int} {s : NameL}
set_option maxHeartbeats 8000000 in
theorem VUsed_any (h : PV DI EI w base q m D V M) : Calls Tryz.prog 24 #[ptrV q] w fun e w' => e = .returned (.int .i64 (vUsed V.l : Nat)) ∧ Below w.heap.size w w' := by
  have k1 := h.p.c1
  have CN := Lib.hid (VNone_any w q m k1)
  have NM := Lib.hid h.p.is
  have MP := Lib.hid h.p.map
  have H := Lib.hid h
  have HU : Hid ((vUsed V.l : Nat) ≤ 1048576) := by have := h.ok.used; have := h.ok.q1; show _ ≤ _; omega
  have U0 : Hid (0 = lenL M (Maps.has D)) := (lenL_start (has_nums h.p)).symm
  have FIN : Hid (lenL M (fun _ => false) = vUsed V.l) := by rw [← h.is]; exact lenL_end fun _ => rfl
  clear h
  unfold ptrV at CN ⊢
  go_enter Tryz.func24, Tryz.ntmps24
  go_wp2_with fail
  refine CN.out.mono ?_
  rintro e w0 ⟨rfl, rfl⟩
  go_wp2_with (first
    | ((with_reducible show wpList _ _ _ (⟨some 12, _, _, _, _, _⟩ :: _) _ _); go_loud (refine wpList_range_own _ rfl (.tmp 11) 69 rfl 3 81 vol_keyed Tryz.underlying69 ptrR m M.length D rfl MP.out ?_); intro w0 rg0 g0 s0; have RG0 : Hid (VRng w0 m w.heap.size M.length D (Maps.has D) (Maps.size D)) := rg0; have L0 : Hid (Below w.heap.size w w0) := (Below.refl _ w).grown g0 (Nat.le_refl _) (fun j hj => by cases hj); clear rg0 g0 s0)
    | fail)
  go_frame
  go_loopw [3] (fun O wr => ∃ (left : Lit → Bool) (cnt k : Nat), O = .int .i64 (k : Nat) ∧ k ≤ 1048576 ∧ Hid (VRng wr m w.heap.size M.length D left cnt) ∧ Hid (k = lenL M left) ∧ Hid (Below w.heap.size w wr)) (fun _ wr => wr.rangeLeft m w.heap.size)
  case atStart => exact ⟨_, _, 0, rfl, by omega, RG0, U0, L0⟩
  case round =>
    obtain ⟨left, cnt, k, rfl, hk, RG, MO, LR⟩ := hrel
    rename World => w1
    clear RG0 U0 L0
    go_wp2_with (first
      | ((with_reducible show wpList _ _ _ (⟨some 13, _, _, _, _, _⟩ :: _) _ _); go_loud (refine wpList_next_vol rfl (.tmp 12) rfl w.heap.size M.length (nums M) left cnt rfl RG.out NM.out ?_ ?_))
      | fail)
    · intro hc hl
      have e0 : left = fun _ => false := funext hl
      subst e0
      have HK : Hid (k = vUsed V.l) := by rw [MO.out]; exact FIN.out
      clear hl hc
      go_wp2_with fail
      go_ret
      exact ⟨by rw [HK.out]; rfl, LR.out⟩
    · intro p g w2 cnt2 hp hlp rg2 hlt g2 s2 hen
      obtain ⟨z, hz, ez⟩ := List.mem_map.1 hp
      injection ez with e1 e2
      subst e1
      subst e2
      have L2 : Hid (Below w.heap.size w w2) := LR.out.grown g2 LR.out.size (fun j hj => by injection hj with hj; omega)
      have H2 := H.out.below L2.out
      have CS := Lib.hid (H2.p.size hz (H2.dirB hz))
      have n4 := H2.p.n4 hz
      have e3 : k + z.1.B.length = lenL M (fun kl => left kl && !kl.sameKey (.int .i64 z.1.n)) := by rw [MO.out]; exact (lenL_step H.out.p.rise hz hlp).symm
      have hk2 : k + z.1.B.length ≤ 1048576 := by
        have a := lenL_le (M := M) (left := fun kl => left kl && !kl.sameKey (.int .i64 z.1.n))
        rw [← e3, H.out.is] at a
        have b := HU.out
        omega
      have RG2 := Lib.hid rg2
      have HLT : Hid (w2.rangeLeft m w.heap.size < w1.rangeLeft m w.heap.size) := by
        show _ < _
        rw [World.ranges.left_eq rg2, World.ranges.left_eq RG.out]
        exact hlt
      obtain ⟨zn, hzn⟩ : ∃ zn, zn = z.1.n := ⟨_, rfl⟩
      obtain ⟨g, hg⟩ : ∃ zn, zn = z.2.g := ⟨_, rfl⟩
      obtain ⟨u, hu⟩ : ∃ zn, zn = pnDat z := ⟨_, rfl⟩
      obtain ⟨B, hB⟩ : ∃ zn, zn = z.1.B.length := ⟨_, rfl⟩
      rw [← hB] at CS e3 hk2
      rw [← hu] at CS n4
      rw [← hg] at n4 hen
      rw [← hzn] at RG2 hen e3
      have E3 := Lib.hid e3
      clear hp hlp rg2 hlt g2 hz hB hzn hg hu RG MO s2 e3 H2
      go_wp2_with fail
      refine CS.out.mono ?_
      rintro e w3 ⟨rfl, j, rfl⟩
      have L3 : Hid (Below w.heap.size w (w2.drewN j)) := L2.out.trans ((drewed w2 j).mono L2.out.size)
      have RG3 : Hid (VRng (w2.drewN j) m w.heap.size M.length D (fun kl => left kl && !kl.sameKey (.int .i64 zn)) cnt2) := RG2.out.below (drewed w2 j)
      obtain ⟨w3, hw3⟩ : ∃ x, x = w2.drewN j := ⟨_, rfl⟩
      rw [← hw3] at L3 RG3 ⊢
      have HLT3 : Hid (w3.rangeLeft m w.heap.size < w1.rangeLeft m w.heap.size) := by
        show _ < _
        rw [World.ranges.left_eq RG3.out, ← World.ranges.left_eq RG2.out]
        exact HLT.out
      clear hw3 CS RG2 HLT L2
      go_wp2_with fail
      go_roundw
      case rel => exact ⟨_, _, k + B, by go_num, hk2, RG3, E3, L3⟩
      case measure => exact HLT3.out
theorem sorted_perm_eq : ∀ {l r : List Int}, l.Perm r → l.Pairwise (fun a b => a ≤ b) → r.Pairwise (fun a b => a < b) → l = r
  | [], r, h, _, _ => h.nil_eq
  | a :: l, [], h, _, _ => absurd h.symm.nil_eq (by simp)
  | a :: l, b :: r, h, h1, h2 => by
    obtain ⟨a1, a2⟩ := List.pairwise_cons.1 h1
    obtain ⟨b1, b2⟩ := List.pairwise_cons.1 h2
    have e : a = b := by
      rcases List.mem_cons.1 (h.mem_iff.1 (List.mem_cons_self ..)) with e | e
      · exact e
      · rcases List.mem_cons.1 (h.mem_iff.2 (List.mem_cons_self ..)) with e2 | e2
        · exact e2.symm
        · have := b1 a e
          have := a1 b e2
          omega
    subst e
    rw [sorted_perm_eq h.cons_inv a2 b2]
theorem keys_perm (h : PVol DI EI w base q m D V.quota V.last M (regs V.l)) : (M.map fun y => y.1.n).Perm (Go.intKeys D) := by
  obtain ⟨es, rfl, hp, hk⟩ := World.ownsMap.entries h.map vol_keyed
  have hint : ∀ p ∈ es, ∃ x, p.1 = .int .i64 x := fun p hp' => by
    obtain ⟨es0, clock, _, F, _, e⟩ := World.ownsMap.tidy h.map vol_keyed |> fun _ => h.map
    injection e with e
    rw [e] at hp'
    obtain ⟨x, hx, e2⟩ := List.mem_map.1 (mem_sorted.1 hp')
    obtain ⟨key, hkey⟩ := Maps.fit_keys F (Go.WideElems.rg Tryz.prog 3 ptrR x) (List.mem_map.2 ⟨x, hx, rfl⟩)
    obtain ⟨k, _, e3, _⟩ := Maps.keyOf_int_inv Tryz.underlying3 hkey
    exact ⟨k, by rw [← e2]; exact e3⟩
  refine Go.perm_intKeys hp hint ?_ fun k => ?_
  · exact List.nodup_iff_pairwise_ne.2 (List.pairwise_map.2 (h.rise.imp fun a b => by omega))
  · rw [h.is.has, List.any_eq_true]
    constructor
    · intro hx
      obtain ⟨y, hy, rfl⟩ := List.mem_map.1 hx
      exact ⟨_, mem_nums hy, by simp⟩
    · rintro ⟨p, hp, e⟩
      obtain ⟨y, hy, rfl⟩ := List.mem_map.1 hp
      exact List.mem_map.2 ⟨y, hy, by simpa using e⟩
theorem sortsV (k : Nat) : AnyZI.SortsIn Tryz.prog Tryz.sortedA_ren Fence.wide k :=
  ⟨fun blk off cap ss W hH hblk hsz => callsIn_wide.2 (Tryz.slices_Sort_int blk off cap ss W hH hblk hsz), fun p cap W => callsIn_wide.2 (Tryz.slices_Sort_int_none p cap W)⟩
set_option maxHeartbeats 2000000 in
theorem VNodes_any (h : PV DI EI w base q m D V M) : Calls Tryz.prog 22 #[ptrV q] w fun e w' => ∃ u, e = .returned u ∧ OwnF (Value.int .i64) 3 w' w.heap.size u (vNodes V.l) ∧ Below w.heap.size w w' := by
  have hperm := keys_perm h.p
  have hns : (M.map fun y => y.1.n) = vNodes V.l := by
    unfold vNodes
    rw [← h.is, List.map_map]
    rfl
  rw [hns] at hperm
  have hrise : (vNodes V.l).Pairwise fun a b => a < b := List.pairwise_map.2 h.ok.rise
  have hsz : Maps.size D ≤ 256 := by
    rw [h.p.is.size]
    unfold nums
    rw [List.length_map]
    exact h.many
  have hown := h.p.map
  have k1 := h.p.c1
  have CN := Lib.hid (VNone_any w q m k1)
  clear h hns
  unfold ptrV at CN ⊢
  refine (callsIn_wide (n := 6)).1 ?_
  have hbl := World.ownsMap.lt hown
  have hseq : SeqGives Fence.wide 2 Tryz.prog 109 #[.pointer (some ⟨w.heap.size, 0, none⟩)] Go.encZ (fun ss => ss.Perm (Go.intKeys D)) (Maps.size D) (w.alloc (.cells #[.map (some m)] 69)) :=
    AnyZI.keys_gives (ρ := Tryz.keysA_ren) { Tryz.keysA with } Fence.wide _ trivial rfl (by omega) w.heap.size m _ D _ (by simp) (by simp) (by
      obtain ⟨es, clock, hb, Ft, hs, hD⟩ := hown
      exact ⟨es, clock, (Below.heap_alloc _ _ m hbl).trans hb, Ft, hs, hD⟩)
  have cK : ∀ mb W, CallsIn Fence.wide 5 Tryz.prog 60 #[.map mb] W fun e w' => e = .returned (.func (.func 109) #[] #[.pointer (some ⟨W.heap.size, 0, none⟩)]) ∧ w' = W.alloc (.cells #[.map mb] 69) := fun mb W => AnyZI.keys_in Tryz.keysA Fence.wide 5 trivial rfl mb W
  have cS := AnyZI.sorted_in Tryz.sortedA Fence.wide 5 trivial trivial trivial trivial rfl (by omega) (sortsV _) (enters_of Tryz.func108 (by kernel_rfl) rfl) 109 #[.pointer (some ⟨w.heap.size, 0, none⟩)] trivial (enters_of Tryz.func109 (by kernel_rfl) rfl) _ _ (show Maps.size D ≤ maxLen by unfold maxLen; omega) (by omega) _ hseq
  change CallsIn _ _ Tryz.prog 59 _ _ _ at cS
  have cN : CallsIn Fence.wide 5 Tryz.prog 40 #[.pointer (some ⟨q, 0, none⟩)] w fun e w' => e = .returned (.bool false) ∧ w = w' := callsIn_wide.2 CN.out
  have hfN : Fence.wide.fn 40 := trivial
  have hfK : Fence.wide.fn 60 := trivial
  have hfS : Fence.wide.fn 59 := trivial
  refine callsIn_of_wp Tryz.func22 rfl trivial ?_ rfl
  simp only [Tryz.ntmps22, List.size_toArray, List.length_cons, List.length_nil, Nat.reduceAdd, Nat.reduceSub, Array.replicate_succ, Array.replicate_zero, List.push_toArray, List.append_toArray, List.nil_append, List.cons_append]
  gi_wp2_with (first
    | (gi_at_call 40; refine cN.mono ?_; rintro e w' ⟨rfl, rfl⟩)
    | (gi_at_call 60; refine (cK _ _).mono ?_; rintro e w' ⟨rfl, rfl⟩)
    | (gi_at_call 59; refine cS.mono ?_; rintro e w' ⟨v, ss, rfl, hS, hrow, hnil, hb⟩))
  go_ret
  have tr : ∀ a b c : Int, decide (a ≤ b) = true → decide (b ≤ c) = true → decide (a ≤ c) = true := fun a b c h1 h2 => by simp only [decide_eq_true_eq] at *; omega
  have tt : ∀ a b : Int, (decide (a ≤ b) || decide (b ≤ a)) = true := fun a b => by simp only [Bool.or_eq_true, decide_eq_true_eq]; omega
  have e1 : ss.mergeSort (fun x y => decide (x ≤ y)) = vNodes V.l := by
    refine sorted_perm_eq (((List.mergeSort_perm ss _).trans hS).trans hperm.symm) ?_ hrise
    exact (List.pairwise_mergeSort tr tt ss).imp fun h => of_decide_eq_true h
  have e2 : ss.length = (vNodes V.l).length := by rw [← e1, List.length_mergeSort]
  rw [e1, e2] at hrow
  exact ⟨v, rfl, ownsRow_base_a hrow (by simp), ((Below.refl _ w).alloc (Nat.le_refl _) _).trans (hb.mono (by simp))⟩
end
end Go.Proofs.YtdgpbhdihhchgaaGreatDoor

namespace Go.Proofs.YtdgpbhdihhchgaaGreatDoor
set_option linter.all false
set_option maxRecDepth 100000
open Go.RowKit
set_option linter.unusedVariables false
section
variable {w : World} {ops : Array Oper} {rest : List Oper} {o : Oper} {a : Act} {Q : Exit → Act → World → Prop} {K0 : Act → World → Prop} {E0 : Prop}
theorem wpList_insert_own (hg : o.guard = none) (m x v : Operand) (t : TypeId) (hop : o.op = Op.insert t m x v) (ht : Tryz.prog.underlying t = some (.map 3 81)) (b n : Nat) (D : DataW Unit)
    (hm : a.eval m = .map (some b)) (hown : VMap w b n D) (hn : n < maxLen) (k : Int) (g : Nat) (hx : a.eval x = .int .i64 k) (hv : a.eval v = .pointer (some ⟨g, 0, none⟩)) (hk : I64V k)
    (hK : ∀ w', Hid (VMap w' b (n + 1) (D.put (.int .i64 k) (.lit (.int .i64 (g : Nat))))) → Hid (w.mapTurned w' b) → wpList Tryz.prog ops Q rest (a.put o.dst undef) w') : wpList Tryz.prog ops Q (o :: rest) a w := by
  refine wpList_plain hg fun K' hK' => ?_
  obtain ⟨w', hrun, r1, r2⟩ := World.ownsMap.store hown vol_keyed ht hn (vol_key hk) (ptrR_mk g)
  unfold ptrV at hrun
  unfold Oper.wp
  simp [execOp, hop, hm, hx, hv, hrun, Result.andThen]
  exact hK' _ _ (hK w' r1 r2)
theorem step_putV (hg : o.guard = none) (m x v : Operand) (t : TypeId) (hop : o.op = Op.mapUpdate t m x v) (ht : Tryz.prog.underlying t = some (.map 3 81)) (b n : Nat) (D : DataW Unit)
    (hm : a.eval m = .map (some b)) (hown : VMap w b n D) (hn : n < maxLen) (k : Int) (g : Nat) (hx : a.eval x = .int .i64 k) (hv : a.eval v = .pointer (some ⟨g, 0, none⟩)) (hk : I64V k)
    (hK : ∀ w', Hid (VMap w' b (n + 1) (D.put (.int .i64 k) (.lit (.int .i64 (g : Nat))))) → Hid (w.mapTurned w' b) → K0 (a.put o.dst undef) w') :
    if Region.wanted o (yielded ops a.tmps) = true then Oper.wp Tryz.prog o a w K0 Q else E0 := by
  have hw : Region.wanted o (yielded ops a.tmps) = true := by simp [Region.wanted, hg]
  rw [if_pos hw]
  obtain ⟨w', hrun, r1, r2⟩ := World.ownsMap.store hown vol_keyed ht hn (vol_key hk) (ptrR_mk g)
  unfold ptrV at hrun
  unfold Oper.wp
  simp [execOp, hop, hm, hx, hv, hrun, Result.andThen]
  exact hK w' r1 r2
end
/-- a volume is what VolI asks -/
def isV (DI : DrI) (EI : FiI) (w : World) (b q : Nat) (V : VolM) (S : Nat → Prop) : Prop := ∃ m D M, PVol DI EI w b q m D V.quota V.last M (regs V.l) ∧ M.map (·.1) = V.l ∧ Vok V ∧ V.last ≤ 1048576 ∧ S = pvS q m M
section
variable {DI : DrI} {EI : FiI} {w w' : World} {base q m : Nat} {D : DataW Unit} {V V' : VolM} {M M' : List VN} {y z : VN} {x : VNode} {n : Int} {s : NameL} {S : Nat → Prop}
theorem vturn_of (p : PTurn DI EI w base q m M V'.quota V'.last M' (regs V'.l) w') (e : M'.map (·.1) = V'.l) (ok : Vok V') (big : V'.last ≤ 1048576) : VTurn (isV DI EI) w base q (pvS q m M) V' w' := by
  obtain ⟨D', p', a, n⟩ := p
  exact ⟨pvS q m M', ⟨m, D', M', p', e, ok, big, rfl⟩, a, n⟩
theorem PV.still (h : PV DI EI w base q m D V M) (hb : Below w.heap.size w w') : VTurn (isV DI EI) w base q (pvS q m M) V w' := vturn_of (PTurn.refl h.p hb) h.is h.ok h.big
theorem New_pvol (DI : DrI) (EI : FiI) {w w2 w3 w4 : World} {b m q : Nat} {k : Int} {P : PN} (hb : b ≤ w.heap.size) (hk : vNewE k = 0) (hm1 : w.heap.size ≤ m) (hm2 : m < w2.heap.size) (hN : NewN DI EI w2 1 P w3) (hM : VMap w4 m 1 (DataW.put (.map []) (.int .i64 1) (.lit (.int .i64 (P.g : Nat))))) (ht : w3.mapTurned w4 m)
    (hq : w4.heap.size ≤ q) (hQ : Blk w' q 71 [.int .i64 k, .map (some m), .int .i64 1]) (hbw : Below w4.heap.size w4 w') : isV DI EI w' w.heap.size q (vNew k) (pvS q m [(vRoot, P)]) := by
  obtain ⟨g1, B1, d1, _, o1, L1⟩ := hN
  have a := Spare.of_turned ht
  have s1 := L1.size
  have s2 := a.size
  have B4 := B1.spare a (show P.g ≠ m by omega)
  have D4 := DI.keep (d1 rfl) a fun j hj => by have := (o1 j hj).1; omega
  have hI : NMap (DataW.put (.map []) (.int .i64 1) (.lit (.int .i64 (P.g : Nat)))) [(1, P.g)] := NMap.put (D := .map []) (N := []) (n := 1) (g := P.g) ⟨Maps.tidy_empty, List.Pairwise.nil, fun _ => rfl, (fun p hp => by cases hp), rfl⟩ fun p hp => by cases hp
  have hone : ∀ y ∈ [((vRoot, P) : VN)], y = (vRoot, P) := fun y hy => List.mem_singleton.1 hy
  have lt4 : ∀ j, P.S j → w2.heap.size ≤ j ∧ j < w4.heap.size := fun j hj => ⟨(o1 j hj).1, (DI.ge D4 j hj).2⟩
  refine ⟨m, _, [(vRoot, P)], ⟨by omega, hm1, hQ, ?_, hI, ?_, ?_, ?_, ?_, ?_, ?_, ?_⟩, rfl, Vok.new hk, (by show (1 : Int) ≤ 1048576; decide), rfl⟩
  · exact owns_same hM (hbw.block m (World.ownsMap.lt hM))
  · intro y hy
    rw [hone y hy]
    show (1 : Int) ≤ 1 ∧ (1 : Int) ≤ 2097152
    decide
  · intro y hy
    rw [hone y hy]
    exact .inl rfl
  · intro y hy
    rw [hone y hy]
    exact ⟨by show _ ≤ P.g; omega, B4.over hbw⟩
  · intro y hy _
    rw [hone y hy]
    refine ⟨[], Kid.nil fun p hp => ?_, DI.mono (DI.keep D4 (Spare.of_over (fun _ => False) hbw) fun _ _ e => e) (by omega)⟩
    obtain ⟨x, hx, e, _⟩ := regs_mem.1 hp
    rw [List.mem_singleton.1 hx] at e
    exact absurd (show (0 : Int) = 1 from e) (by decide)
  · intro y hy hk2
    rw [hone y hy] at hk2
    exact absurd (show (1 : Int) = 2 from hk2) (by decide)
  · intro y hy j hj
    rw [hone y hy] at hj
    have := lt4 j hj
    refine ⟨by omega, by omega, fun z hz => ?_⟩
    rw [hone z hz]
    exact (o1 j hj).2
  · intro y hy z hz hne
    rw [hone y hy, hone z hz] at hne
    exact absurd rfl hne
set_option maxHeartbeats 4000000 in
theorem VNew_any (DI : DrI) (EI : FiI) {w : World} {b : Nat} {k : Int} (htb : DI.tb b w) (hb : b ≤ w.heap.size) (hk : I64V k) : Calls Tryz.prog 37 #[.int .i64 k] w fun e w' => (vNewE k ≠ 0 → e = .returned (.tuple #[.pointer none, .int .i64 (vNewE k)]) ∧ Below w.heap.size w w') ∧
    (vNewE k = 0 → ∃ q S, e = .returned (.tuple #[ptrV q, .int .i64 0]) ∧ isV DI EI w' w.heap.size q (vNew k) S ∧ Below w.heap.size w w') := by
  have CN : Hid (∀ w', Below w.heap.size w w' → Calls Tryz.prog 72 #[.int .u8 1] w' fun e w2 => ∃ P, e = .returned (ptrV P.g) ∧ NewN DI EI w' 1 P w2) := fun w' hb' => VNew_dir DI EI w' (DI.tbUp (DI.tbNext htb (hb'.mono hb)) (Nat.le_trans hb hb'.size))
  have hmm := @run_makeMap Tryz.prog
  have LT : Hid (∀ (k' g' : Int), I64V k) := fun _ _ => hk
  unfold ptrV at CN ⊢
  unfold I64V at hk
  by_cases h1 : k < 0
  · obtain ⟨E, hE⟩ : ∃ E, E = vNewE k := ⟨_, rfl⟩
    have HE : Hid (E = 2) := hE.trans (if_pos (.inl h1))
    rw [← hE]
    clear hE CN
    go_enter Tryz.func37, Tryz.ntmps37
    go_wp2_with fail
    go_ret2
    exact ⟨fun _ => ⟨by rw [HE.out]; rfl, Below.refl _ _⟩, fun e => by have e2 := HE.out; omega⟩
  · by_cases h2 : 1048576 < k
    · obtain ⟨E, hE⟩ : ∃ E, E = vNewE k := ⟨_, rfl⟩
      have HE : Hid (E = 2) := hE.trans (if_pos (.inr h2))
      rw [← hE]
      clear hE CN
      go_enter Tryz.func37, Tryz.ntmps37
      go_wp2_with fail
      go_ret2
      exact ⟨fun _ => ⟨by rw [HE.out]; rfl, Below.refl _ _⟩, fun e => by have e2 := HE.out; omega⟩
    · obtain ⟨E, hE⟩ : ∃ E, E = vNewE k := ⟨_, rfl⟩
      have HE0 : Hid (E = 0) := hE.trans (if_neg (by omega))
      have HE : Hid (vNewE k = 0) := hE.symm.trans HE0.out
      rw [← hE]
      clear hE
      go_enter Tryz.func37, Tryz.ntmps37
      go_wp2_with fail
      have L1 : Hid (Below w.heap.size w (w.alloc (.map #[] 0))) := (Below.refl _ w).alloc (Nat.le_refl _) _
      refine (CN.out _ L1.out).mono ?_
      rintro e w2 ⟨P, rfl, n2⟩
      have N2 := Lib.hid n2
      have l2 := n2.2.2.2.2.2
      have L2 := Lib.hid (step L1.out l2)
      have M2 : Hid (VMap w2 w.heap.size 0 (.map [])) := owns_same (World.ownsMap_made w Tryz.prog 3 ptrR) (l2.block _ (by simp))
      obtain ⟨g, hg⟩ : ∃ g, g = P.g := ⟨_, rfl⟩
      have HG := Lib.hid hg
      rw [← hg]
      clear n2 l2 hg
      go_wp2_with (first
        | ((with_reducible show wpList _ _ _ (⟨none, .insert _ _ _ _, _, _, _, _⟩ :: _) _ _); go_loud (refine wpList_insert_own rfl (.tmp 11) (.const (.int .i64 1)) (.tmp 12) _ rfl Tryz.underlying69 w.heap.size 0 (.map []) rfl M2.out (by unfold maxLen; omega) 1 g rfl rfl (by unfold I64V; omega) ?_); intro w3 M3 T3)
        | ((with_reducible show wpList _ _ _ (⟨some 14, _, _, _, _, _⟩ :: _) _ _); go_loud (refine wpList_build_blk rfl _ _ rfl [.int .i64 k, .map (some w.heap.size), .int .i64 1] (by kernel_rfl) ?_))
        | ((with_reducible show wpList _ _ _ (⟨some 15, _, _, _, _, _⟩ :: _) _ _); go_loud (refine wpList_box_blk rfl _ (.tmp 14) rfl [.int .i64 k, .map (some w.heap.size), .int .i64 1] rfl ?_); intro q w4 hq1 hq2 B4 L4)
        | fail)
      go_ret2
      have hM := M3.out
      rw [HG.out] at hM
      have t3 := Spare.of_turned T3.out
      refine ⟨fun e => absurd HE0.out e, fun _ => ⟨q, _, rfl, New_pvol DI EI hb HE.out (Nat.le_refl _) (by simp) N2.out hM T3.out hq1 B4.out L4.out, ?_⟩⟩
      have b3 := (t3.below (B := w.heap.size) (fun j e => by rw [e]; exact Nat.le_refl _) L2.out.size)
      exact (L2.out.trans b3).trans (L4.out.mono (Nat.le_trans L2.out.size t3.size))
end
end Go.Proofs.YtdgpbhdihhchgaaGreatDoor

namespace Go.Proofs.YtdgpbhdihhchgaaGreatDoor
set_option linter.all false
set_option maxRecDepth 100000
open Go.RowKit
set_option linter.unusedVariables false
theorem DLen_none (w : World) : Calls Tryz.prog 73 #[.pointer none] w fun e w' => e = .returned (.int .i64 0) ∧ w = w' := by
  go_enter Tryz.func73, Tryz.ntmps73
  go_wp2_with fail
  go_ret
  exact ⟨rfl, rfl⟩
section
variable {DI : DrI} {EI : FiI} {w w' : World} {base q m : Nat} {D : DataW Unit} {V : VolM} {M : List VN} {y z : VN} {x : VNode} {n k : Int} {s : NameL}
theorem PV.len (h : PV DI EI w base q m D V M) (hy : y ∈ M) : ∃ c : Nat, c ≤ 4096 ∧ vEmpty V.l y.1.n = decide (c = 0) ∧ Calls Tryz.prog 73 #[pnEnt y] w fun e w' => e = .returned (.int .i64 (c : Nat)) ∧ ∃ k, w.drewN k = w' := by
  rcases h.p.kind y hy with hk | hk
  · obtain ⟨K, kk, d⟩ := h.p.dirs y hy hk
    rw [pnEnt_dir hk]
    exact ⟨K.length, (DI.ok d).2.1, kk.empty, DI.len d⟩
  · rw [pnEnt_no hk]
    refine ⟨0, by omega, ?_, (DLen_none w).mono ?_⟩
    · unfold vEmpty
      rw [decide_eq_true rfl, List.all_eq_true]
      intro x hx
      refine decide_eq_true fun e => ?_
      have hn := (h.ok.num _ (h.mem hy)).1
      by_cases h1 : x.n = 1
      · rw [h.ok.one hx h1] at e
        have e : (0 : Int) = y.1.n := e
        omega
      · have := h.ok.up x hx h1
        rw [e, h.kindOf hy, hk] at this
        exact absurd this (by decide)
    · rintro e w' ⟨rfl, rfl⟩
      exact ⟨rfl, 0, rfl⟩
theorem at_of (h : PV DI EI w base q m D V M) (hy : y ∈ M) : vAt V.l y.1.n = some y.1 := h.ok.at (h.mem hy)
/-- a node is taken out of its directory and gone -/
theorem PV.drop (h : PV DI EI w base q m D V M) (hy : y ∈ M) (h1 : y.1.n ≠ 1) (hn : y.1.n = n) : Calls Tryz.prog 69 #[ptrV q, .int .i64 n] w fun e w' => e = .returned (.tuple #[]) ∧ ∃ M', PTurn DI EI w base q m M V.quota V.last M' (regs (vAway V.l n)) w' ∧ M'.map (·.1) = vAway V.l n := by
  obtain ⟨z, hz, e1, e2⟩ := h.dir hy h1
  have ha := at_of h hy
  rw [← h.is]
  refine VDrop_any h.p h.tb hy hz e1.symm e2 (h.small hy) (fun K k => ?_) (fun d p hd => ?_) hn
  · rw [e1] at k ⊢
    rw [h.is, ← hn]
    exact (Kid.drop h.ok ha h1 k).2
  · rw [h.is, ← hn, away_regs h.ok ha]
    exact ⟨fun a => ⟨a, fun e => absurd (e.trans e1.symm) hd⟩, fun a => a.1⟩
/-- what Remove answers -/
def RemPost (DI : DrI) (EI : FiI) (w : World) (base q m : Nat) (V : VolM) (M : List VN) (n : Int) (e : Ending) (w' : World) : Prop := e = .returned (.int .i64 (vRemE V.l n)) ∧ VTurn (isV DI EI) w base q (pvS q m M) (vRem V n) w'
theorem vRem_no {V : VolM} {n : Int} (h : vRemE V.l n ≠ 0) : vRem V n = V := if_neg h
theorem vRem_ok {V : VolM} {n : Int} (h : vRemE V.l n = 0) : vRem V n = ⟨V.quota, V.last, vAway V.l n⟩ := if_pos h
set_option maxHeartbeats 4000000 in
theorem VRemove_any (h : PV DI EI w base q m D V M) (hn : I64V n) : Calls Tryz.prog 29 #[ptrV q, .int .i64 n] w (RemPost DI EI w base q m V M n) := by
  have STILL : Hid (∀ w', Below w.heap.size w w' → vRemE V.l n ≠ 0 → VTurn (isV DI EI) w base q (pvS q m M) (vRem V n) w') := fun w' hb he => by rw [vRem_no he]; exact h.still hb
  cases hat : vAt V.l n with
  | none =>
    have HE : Hid (vRemE V.l n = 7) := by
      unfold vRemE vThereE
      rw [hat]
      rfl
    have C := Lib.hid (VBelow_no h.p hn (h.no hat))
    clear h hn hat
    unfold ptrV at C ⊢
    go_enter Tryz.func29, Tryz.ntmps29
    go_wp2_with fail
    refine C.out.mono ?_
    rintro e w0 ⟨rfl, rfl⟩
    go_wp2_with fail
    go_ret
    exact ⟨by rw [HE.out]; rfl, STILL.out _ (Below.refl _ _) (by rw [HE.out]; decide)⟩
  | some x =>
    obtain ⟨y, hy, ey, en⟩ := h.at hat
    by_cases h1 : n = 1
    · subst h1
      have HE : Hid (vRemE V.l 1 = 2) := by
        unfold vRemE vThereE
        rw [hat]
        rfl
      have C := Lib.hid (VBelow_one h.p hy en)
      clear h hn hat hy en ey
      unfold ptrV at C ⊢
      go_enter Tryz.func29, Tryz.ntmps29
      go_wp2_with fail
      refine C.out.mono ?_
      rintro e w0 ⟨rfl, rfl⟩
      go_wp2_with fail
      go_ret
      exact ⟨by rw [HE.out]; rfl, STILL.out _ (Below.refl _ _) (by rw [HE.out]; decide)⟩
    · have C := Lib.hid (VBelow_yes h.p hy en h1)
      obtain ⟨c, hc, hem, cl⟩ := h.len hy
      rw [en] at hem
      have CL := Lib.hid cl
      have n3 := h.p.n3 hy
      have HE0 : Hid (vRemE V.l n = if c = 0 then 0 else 16) := by
        show vRemE V.l n = _
        unfold vRemE vThereE
        rw [hat, hem, if_neg h1]
        by_cases h0 : c = 0
        · rw [if_pos h0, decide_eq_true h0]
          rfl
        · rw [if_neg h0, decide_eq_false h0]
          rfl
      have CD : Hid (∀ w', Below w.heap.size w w' → Calls Tryz.prog 69 #[ptrV q, .int .i64 n] w' fun e w2 => e = .returned (.tuple #[]) ∧ (c = 0 → VTurn (isV DI EI) w base q (pvS q m M) (vRem V n) w2)) := fun w' hb => by
        refine ((h.below hb).drop hy (by rw [en]; exact h1) en).mono fun e w2 ⟨he, M', p, e2⟩ => ⟨he, fun h0 => ?_⟩
        have hE := HE0.out
        rw [if_pos h0] at hE
        have ok := h.ok.rem n
        rw [vRem_ok hE] at ok ⊢
        exact vturn_of (V' := ⟨V.quota, V.last, vAway V.l n⟩) ((PTurn.refl h.p hb).trans p) e2 ok h.big
      obtain ⟨g, hg⟩ : ∃ g, g = y.2.g := ⟨_, rfl⟩
      obtain ⟨u, hu⟩ : ∃ u, u = pnEnt y := ⟨_, rfl⟩
      rw [← hg] at C n3
      rw [← hu] at CL n3
      clear h hn hat hy en ey hem cl hg hu
      unfold ptrV at C CD ⊢
      by_cases h0 : c = 0
      · subst h0
        have HE : Hid (vRemE V.l n = 0) := HE0.out
        clear HE0 STILL
        go_enter Tryz.func29, Tryz.ntmps29
        go_wp2_with fail
        refine C.out.mono ?_
        rintro e w0 ⟨rfl, rfl⟩
        go_wp2_with fail
        refine CL.out.mono ?_
        rintro e w1 ⟨rfl, j, rfl⟩
        have L1 : Hid (Below w.heap.size w (w.drewN j)) := drewed w j
        obtain ⟨w1, hw1⟩ : ∃ x, x = w.drewN j := ⟨_, rfl⟩
        rw [← hw1] at L1 ⊢
        clear hw1
        go_wp2_with fail
        refine (CD.out w1 L1.out).mono ?_
        rintro e w2 ⟨rfl, t2⟩
        have T2 := Lib.hid (t2 (by trivial))
        clear t2
        go_wp2_with fail
        go_ret
        exact ⟨by rw [HE.out]; rfl, T2.out⟩
      · have HE : Hid (vRemE V.l n = 16) := by have := HE0.out; rw [if_neg h0] at this; exact this
        have hc1 : 1 ≤ c := by omega
        clear HE0 CD h0
        go_enter Tryz.func29, Tryz.ntmps29
        go_wp2_with fail
        refine C.out.mono ?_
        rintro e w0 ⟨rfl, rfl⟩
        go_wp2_with fail
        refine CL.out.mono ?_
        rintro e w1 ⟨rfl, j, rfl⟩
        have L1 : Hid (Below w.heap.size w (w.drewN j)) := drewed w j
        obtain ⟨w1, hw1⟩ : ∃ x, x = w.drewN j := ⟨_, rfl⟩
        rw [← hw1] at L1 ⊢
        clear hw1
        go_wp2_with fail
        go_ret
        exact ⟨by rw [HE.out]; rfl, STILL.out _ L1.out (by rw [HE.out]; decide)⟩
/-! ### Make -/
def MakePost (DI : DrI) (EI : FiI) (w : World) (base q m : Nat) (V : VolM) (M : List VN) (s : NameL) (k : Int) (e : Ending) (w' : World) : Prop := e = .returned (.tuple #[.int .i64 (vMakeN V s k), .int .i64 (vMakeE V s k)]) ∧ VTurn (isV DI EI) w base q (pvS q m M) (vMake V s k) w'
theorem vMake_no (h : PV DI EI w base q m D V M) (hb : Below w.heap.size w w') (he : vMakeE V s k ≠ 0) : VTurn (isV DI EI) w base q (pvS q m M) (vMake V s k) w' ∧ vMakeN V s k = 0 := by
  have e1 : vMake V s k = V := if_neg he
  rw [e1]
  exact ⟨h.still hb, if_neg he⟩
theorem vparse_nil : parseErr ([] : NameL) = 0 := by decide
theorem VNewNode_any (DI : DrI) (EI : FiI) (w : World) (hk : k = 1 ∨ k = 2) (htb : DI.tb w.heap.size w) : Calls Tryz.prog 72 #[.int .u8 k] w fun e w' => ∃ P, e = .returned (ptrV P.g) ∧ NewN DI EI w k P w' := by
  rcases hk with rfl | rfl
  · exact VNew_dir DI EI w htb
  · exact VNew_file DI EI w
theorem vSet_snoc {L : List VNode} {n k d : Int} {s : NameL} (h : ∀ y ∈ L, y.n ≠ n) : vSet (L ++ [⟨n, k, 0, [], [], []⟩]) n d s = L ++ [⟨n, k, d, s, [], []⟩] := by
  unfold vSet
  rw [List.map_append, List.map_cons, List.map_nil, if_pos rfl]
  congr 1
  conv => rhs; rw [← List.map_id L]
  exact List.map_congr_left fun y hy => if_neg (h y hy)
/-- the new node, as it stands behind all -/
theorem PV.made (h : PV DI EI w base q m D V M) (he : vMakeE V s k = 0) {w4 w5 w6 : World} (hl : V.last < 1048576) (hb : Below w.heap.size w w') (a4 : Spare (fun j => j = q) w' w4) (B4 : Blk w4 q 71 [.int .i64 V.quota, .map (some m), .int .i64 (V.last + 1)])
    {P : PN} (hN : NewN DI EI w4.drew k P w5) {K : Nat} (hM : VMap w6 m K (D.put (.int .i64 (V.last + 1)) (.lit (.int .i64 (P.g : Nat))))) (ht : w5.mapTurned w6 m) :
    Calls Tryz.prog 71 #[ptrV q, .int .i64 (V.last + 1), .int .i64 (vParN V.l s), strV (vParS V.l s)] w6 fun e w7 => e = .returned (.tuple #[]) ∧ VTurn (isV DI EI) w base q (pvS q m M) (vMake V s k) w7 ∧ w7.cell? ⟨q, 2, none⟩ = some (.int .i64 (V.last + 1)) := by
  obtain ⟨e1, e2, e3, e4, e5, e6⟩ := vMakeE_ok he
  obtain ⟨rs, w1, w2, w3, w5'⟩ := h.ok.par e1 e2 e3
  obtain ⟨_, _, hname, _⟩ := parent_parse e1 e2
  have h1 := h.below hb
  have p4 := h1.p.setLast a4 B4
  have a4' : PTurn DI EI w' base q m M V.quota (V.last + 1) M (regs V.l) w4 := ⟨_, p4, a4.mono fun j _ e => .inl e, fun j hj => .inl hj⟩
  have p4d := p4.below (Below.refl _ w4).drew
  obtain ⟨n1, n2, n3, n4, n5, n6⟩ := hN
  have hl1 : 1 ≤ V.last := (h.ok.num vRoot h.ok.mem1).2
  have hnew : ∀ z ∈ M, z.1.n < V.last + 1 := fun z hz => by have := (h.ok.num _ (h.mem hz)).2; omega
  have t6 := p4d.add (y := (⟨V.last + 1, k, 0, [], [], []⟩, P)) n6 (Spare.of_turned ht) hM hnew (by show 1 ≤ V.last + 1; omega) (by show V.last + 1 ≤ 2097152; omega) e5 n1 n2 n3 n4 n5 fun p hp => by
    obtain ⟨x, hx, ex, _⟩ := regs_mem.1 hp
    have ex : x.par = V.last + 1 := ex
    by_cases hx1 : x.n = 1
    · rw [h.ok.one hx hx1] at ex
      have ex : (0 : Int) = V.last + 1 := ex
      omega
    · have hu := h.ok.up x hx hx1
      obtain ⟨y, hy⟩ := kind_some (V := V) (n := x.par) (by rw [hu]; decide)
      have := (h.ok.num y (vAt_mem hy).1).2
      have := (vAt_mem hy).2
      omega
  have tall := ((PTurn.refl h.p hb).trans a4').trans ((PTurn.refl p4 (Below.refl _ w4).drew).trans t6)
  have htb6 := h.p.tbs h.tb tall
  obtain ⟨D6, p6, s6, n6'⟩ := t6
  obtain ⟨x, hx⟩ := w1.at h.ok
  obtain ⟨z, hz, ez, ezn⟩ := h.at hx
  have hkz : z.1.kind = 1 := by rw [← h.kindOf hz, ezn, w3]
  have hz6 : z ∈ M ++ [((⟨V.last + 1, k, 0, [], [], []⟩ : VNode), P)] := List.mem_append_left _ hz
  have hy6 : ((⟨V.last + 1, k, 0, [], [], []⟩ : VNode), P) ∈ M ++ [((⟨V.last + 1, k, 0, [], [], []⟩ : VNode), P)] := List.mem_append_right _ (List.mem_singleton.2 rfl)
  have hno : ∀ p, (vParN V.l s, p) ∈ regs V.l → alk p.1 (ba (lastOf s)) = false := fun p hp => by
    obtain ⟨y, hy, e1, rfl⟩ := regs_mem.1 hp
    rw [w5'] at e4
    exact vChild_zero (fun y hy => (h.ok.num y hy).1) e4 y hy e1
  have hreg : ∀ d p, (d, p) ∈ regs (V.l ++ [⟨V.last + 1, k, vParN V.l s, vParS V.l s, [], []⟩]) ↔ (d, p) ∈ (vParN V.l s, (ba (lastOf s), V.last + 1)) :: regs V.l := fun d p => by
    unfold regs
    rw [List.map_append, List.mem_append, List.mem_cons, w5']
    constructor
    · rintro (a | a)
      · exact .inr a
      · exact .inl (List.mem_singleton.1 a)
    · rintro (a | a)
      · exact .inr (List.mem_singleton.2 a)
      · exact .inl a
  have hnn : nameOf (vParS V.l s) = true := by rw [w5']; exact hname
  have hl7 := name_bytes hnn
  refine (VEnter_any (R' := regs (V.l ++ [⟨V.last + 1, k, vParN V.l s, vParS V.l s, [], []⟩])) p6 htb6 hy6 hz6 (by show z.1.n ≠ V.last + 1; have := hnew z hz; omega) hkz (by omega) (fun K kk => ?_) (fun K kk => ?_) (fun d p hd => ?_) rfl ezn).mono ?_
  · have := Kid.le h.ok.rise kk
    have := h.ok.many
    omega
  · rw [ezn] at kk ⊢
    have := (Kid.put (n := V.last + 1) kk hname hno).2
    rw [w5'] at *
    refine Kid.same this fun p => (hreg _ p).symm
  · rw [ezn] at hd
    rw [hreg, List.mem_cons]
    constructor
    · exact fun a => .inr a
    · rintro (a | a)
      · injection a with a _
        exact absurd a hd
      · exact a
  · rintro e w7 ⟨he7, M7, t7, e7⟩
    have hfin := tall.trans t7
    have ok := h.ok.make s k
    have ev : vMake V s k = ⟨V.quota, V.last + 1, V.l ++ [⟨V.last + 1, k, vParN V.l s, vParS V.l s, [], []⟩]⟩ := if_pos he
    have hc : w7.cell? ⟨q, 2, none⟩ = some (.int .i64 (V.last + 1)) := by
      obtain ⟨_, p7, _, _⟩ := hfin
      exact p7.c2
    rw [ev] at ok ⊢
    refine ⟨he7, vturn_of (V' := ⟨V.quota, V.last + 1, V.l ++ [⟨V.last + 1, k, vParN V.l s, vParS V.l s, [], []⟩]⟩) hfin ?_ ok (by show V.last + 1 ≤ 1048576; omega), hc⟩
    rw [e7, List.map_append, h.is]
    exact vSet_snoc fun y hy => by have := (h.ok.num y hy).2; omega
set_option maxHeartbeats 8000000 in
theorem VMake_early (HT : HasT DI) (h : PV DI EI w base q m D V M) (hs : s.length ≤ 1048576) (he : s = [] ∨ s ≠ [] ∧ (parseErr s ≠ 0 ∨ vParE V.l s ≠ 0)) : Calls Tryz.prog 28 #[ptrV q, strV s, .int .u8 k] w (MakePost DI EI w base q m V M s k) := by
  have STILL : Hid (∀ w', Below w.heap.size w w' → vMakeE V s k ≠ 0 → VTurn (isV DI EI) w base q (pvS q m M) (vMake V s k) w' ∧ vMakeN V s k = 0) := fun w' hb he => vMake_no h hb he
  have CN := Lib.hid (VNone_any w q m h.p.c1)
  unfold ptrV at CN ⊢
  rcases he with rfl | ⟨hne, he⟩
  · have HE : Hid (vMakeE V [] k = 8) := by
      unfold vMakeE
      rw [vparse_nil]
      rfl
    clear h hs
    unfold strV
    go_enter Tryz.func28, Tryz.ntmps28
    go_wp2_with fail
    refine CN.out.mono ?_
    rintro e w0 ⟨rfl, rfl⟩
    go_wp2_with fail
    go_ret2
    obtain ⟨t, e⟩ := STILL.out _ (Below.refl _ w) (by rw [HE.out]; decide)
    exact ⟨by rw [HE.out, e]; rfl, t⟩
  · have CSE : ∃ (E X : Value) (Z : Int), Z ≠ 0 ∧ vMakeE V s k = Z ∧ Calls Tryz.prog 66 #[ptrV q, strV s] w fun e w' => e = .returned (.tuple #[E, X, .int .i64 Z]) ∧ Below w.heap.size w w' := by
      by_cases hp : parseErr s ≠ 0
      · have e1 : parentErr s = parseErr s := if_pos hp
        exact ⟨_, _, parseErr s, hp, if_pos hp, VSpot_bad HT h hs e1 hp⟩
      · have hv := he.resolve_left hp
        have hp0 : parseErr s = 0 := by simpa using hp
        refine ⟨_, _, vParE V.l s, hv, ?_, VSpot_any HT h hs (parentErr_ok.2 ⟨hp0, hne⟩)⟩
        unfold vMakeE
        rw [if_neg hp, if_neg hne, if_pos hv]
    obtain ⟨E, X, Z, hZ, hE, cs⟩ := CSE
    have CS := Lib.hid cs
    have HE := Lib.hid hE
    have tz : (Z != 0) = true := by simpa using hZ
    obtain ⟨S, hS⟩ : ∃ S : ByteArray, S = ⟨s.toArray⟩ := ⟨_, rfl⟩
    have t0 : (S.toList == []) = false := by rw [empty_beq, hS]; exact decide_eq_false fun e => hne (List.eq_nil_of_length_eq_zero e)
    have t1 : S.toList.isEmpty = false := by rw [empty_isEmpty, hS]; exact decide_eq_false fun e => hne (List.eq_nil_of_length_eq_zero e)
    have hS1 : strV s = .string S := by rw [hS]; rfl
    rw [hS1] at CS ⊢
    have HZ := Lib.hid hZ
    clear h hs hS hS1 hE cs hne he hZ
    unfold ptrV at CS
    go_enter Tryz.func28, Tryz.ntmps28
    go_wp2_with fail
    refine CN.out.mono ?_
    rintro e w0 ⟨rfl, rfl⟩
    go_wp2_with fail
    refine CS.out.mono ?_
    rintro e w1 ⟨rfl, l1⟩
    have L1 := Lib.hid l1
    clear l1
    go_wp2_with fail
    go_ret2
    obtain ⟨t, e⟩ := STILL.out _ L1.out (by rw [HE.out]; exact HZ.out)
    exact ⟨by rw [HE.out, e]; rfl, t⟩
set_option maxHeartbeats 16000000 in
theorem VMake_any (HT : HasT DI) (h : PV DI EI w base q m D V M) (hs : s.length ≤ 1048576) (hl : V.last < 1048576) : Calls Tryz.prog 28 #[ptrV q, strV s, .int .u8 k] w (MakePost DI EI w base q m V M s k) := by
  by_cases hne : s = []
  · exact VMake_early HT h hs (.inl hne)
  by_cases hp : parseErr s = 0
  · by_cases hv : vParE V.l s = 0
    · have STILL : Hid (∀ w', Below w.heap.size w w' → vMakeE V s k ≠ 0 → VTurn (isV DI EI) w base q (pvS q m M) (vMake V s k) w' ∧ vMakeN V s k = 0) := fun w' hb he => vMake_no h hb he
      have hl1 : 1 ≤ V.last := (h.ok.num vRoot h.ok.mem1).2
      obtain ⟨rs, w1', _, hk1, hsn⟩ := h.ok.par hp hne hv
      obtain ⟨_, _, hname, _⟩ := parent_parse hp hne
      rw [← hsn] at hname
      obtain ⟨x, hx⟩ := w1'.at h.ok
      obtain ⟨z, hz, _, ezn⟩ := h.at hx
      have hkz : z.1.kind = 1 := by rw [← h.kindOf hz, ezn, hk1]
      have hEE : vMakeE V s k = if vChild V.l (vParN V.l s) (vParS V.l s) ≠ 0 then 8 else if k ≠ 1 ∧ k ≠ 2 then 2 else if 256 ≤ V.l.length then 3 else 0 := by
        unfold vMakeE
        rw [if_neg (fun e => e hp), if_neg hne, if_neg (fun e => e hv)]
      have cs := VSpot_any HT h hs (parentErr_ok.2 ⟨hp, hne⟩)
      rw [hv] at cs
      obtain ⟨gz, u, X, step⟩ := h.step hz ezn hkz hname
      have STEP := Lib.hid step
      have CN := Lib.hid (VNone_any w q m h.p.c1)
      have MADE : Hid (vMakeE V s k = 0 → ∀ w1 w4 w5 w6 P K, Below w.heap.size w w1 → Spare (fun j => j = q) w1 w4 → Blk w4 q 71 [.int .i64 V.quota, .map (some m), .int .i64 (V.last + 1)] → NewN DI EI w4.drew k P w5 → VMap w6 m K (D.put (.int .i64 (V.last + 1)) (.lit (.int .i64 (P.g : Nat)))) → w5.mapTurned w6 m →
        Calls Tryz.prog 71 #[ptrV q, .int .i64 (V.last + 1), .int .i64 (vParN V.l s), strV (vParS V.l s)] w6 fun e w7 => e = .returned (.tuple #[]) ∧ VTurn (isV DI EI) w base q (pvS q m M) (vMake V s k) w7 ∧ w7.cell? ⟨q, 2, none⟩ = some (.int .i64 (V.last + 1))) := fun he w1 w4 w5 w6 P K hb a B N M T => h.made he hl hb a B N M T
      have CNEW0 : Hid (k = 1 ∨ k = 2 → ∀ w1 w4, Below w.heap.size w w1 → Spare (fun j => j = q) w1 w4 → Calls Tryz.prog 72 #[.int .u8 k] w4.drew fun e w5 => ∃ P, e = .returned (ptrV P.g) ∧ NewN DI EI w4.drew k P w5) := fun hk w1 w4 hb a => by
        have b4 : Below base w w4 := (hb.mono h.p.hb).trans (a.below (fun j e => by rw [e]; exact h.p.ge) (Nat.le_trans h.p.hb hb.size))
        exact VNewNode_any DI EI w4.drew hk (DI.tbUp (DI.tbNext h.tb b4.drew) (by show base ≤ w4.heap.size; exact Nat.le_trans h.p.hb (Nat.le_trans hb.size a.size)))
      have MP : Hid (∀ w', Below w.heap.size w w' → VMap w' m M.length D) := fun w' hb => (h.p.below hb).map
      have BQ : Hid (∀ w', Below w.heap.size w w' → Blk w' q 71 [.int .i64 V.quota, .map (some m), .int .i64 V.last]) := fun w' hb => (h.p.below hb).blk
      have HSZ : Hid (Maps.size D = M.length) := by rw [h.p.is.size]; exact List.length_map _
      have HLM : Hid (V.l.length = M.length) := by show _ = _; rw [← h.is, List.length_map]
      have HQM : Hid (¬ q = m) := h.p.off.1
      have hmany := h.many
      obtain ⟨up, hup⟩ : ∃ u, u = vParN V.l s := ⟨_, rfl⟩
      obtain ⟨nm, hnm⟩ : ∃ u, u = vParS V.l s := ⟨_, rfl⟩
      obtain ⟨C, hC⟩ : ∃ C, C = vChild V.l up nm := ⟨_, rfl⟩
      obtain ⟨T, hT⟩ : ∃ T, T = V.last := ⟨_, rfl⟩
      have HT9 : Hid (T = V.last) := hT
      obtain ⟨N, hN⟩ : ∃ N, N = M.length := ⟨_, rfl⟩
      obtain ⟨Q0, hQ0⟩ : ∃ N, N = V.quota := ⟨_, rfl⟩
      rw [← hup, ← hnm] at cs STEP MADE hEE
      rw [← hC] at STEP hEE
      rw [HLM.out] at hEE
      rw [← hT] at MADE BQ hl hl1
      rw [← hQ0] at MADE BQ
      rw [← hN] at MP HSZ hEE hmany
      obtain ⟨S, hS⟩ : ∃ S : ByteArray, S = ⟨s.toArray⟩ := ⟨_, rfl⟩
      obtain ⟨NM, hNM⟩ : ∃ S : ByteArray, S = ⟨nm.toArray⟩ := ⟨_, rfl⟩
      have t0 : (S.toList == []) = false := by rw [empty_beq, hS]; exact decide_eq_false fun e => hne (List.eq_nil_of_length_eq_zero e)
      have t1 : S.toList.isEmpty = false := by rw [empty_isEmpty, hS]; exact decide_eq_false fun e => hne (List.eq_nil_of_length_eq_zero e)
      have hS1 : strV s = .string S := by rw [hS]; rfl
      have hN1 : strV nm = .string NM := by rw [hNM]; rfl
      rw [hS1] at cs ⊢
      rw [hN1] at cs STEP MADE
      have CS := Lib.hid cs
      clear h hs hp hv hk1 hsn hname hx hz ezn hkz cs step w1' hS hS1 hNM hN1 hC hup hnm hN hT hQ0 hne
      unfold ptrV at CS CN MADE CNEW0 ⊢
      by_cases hC0 : C = 0
      · subst hC0
        rw [if_neg (by decide)] at hEE
        rw [if_pos rfl] at STEP
        by_cases hk : k ≠ 1 ∧ k ≠ 2
        · rw [if_pos hk] at hEE
          have HE := Lib.hid hEE
          obtain ⟨hka, hkb⟩ := hk
          have ta : (k != 1) = true := by simpa using hka
          have tb : (k != 2) = true := by simpa using hkb
          clear hEE MADE CNEW0 MP BQ hka hkb
          go_enter Tryz.func28, Tryz.ntmps28
          go_wp2_with fail
          refine CN.out.mono ?_
          rintro e w0 ⟨rfl, rfl⟩
          go_wp2_with fail
          refine CS.out.mono ?_
          rintro e w1 ⟨rfl, l1⟩
          have L1 := Lib.hid l1
          obtain ⟨j1, j2, j3, j4, ca⟩ := STEP.out w1 l1
          have CA := Lib.hid ca
          clear l1 ca STEP
          go_wp2_with fail
          refine CA.out.mono ?_
          rintro e w2 ⟨rfl, l2⟩
          have L2 := Lib.hid (step L1.out l2)
          clear l2
          go_wp2_with fail
          go_ret2
          obtain ⟨t, e⟩ := STILL.out _ L2.out (by rw [HE.out]; decide)
          exact ⟨by rw [HE.out, e]; rfl, t⟩
        · rw [if_neg hk] at hEE
          have hk12 : k = 1 ∨ k = 2 := by omega
          have HK := Lib.hid hk12
          have tk : (k != 1) = false ∨ (k != 1) = true ∧ (k != 2) = false := by rcases hk12 with rfl | rfl <;> decide
          have TK := Lib.hid tk
          clear hk hk12 tk
          by_cases h256 : 256 ≤ N
          · rw [if_pos h256] at hEE
            have HE := Lib.hid hEE
            clear hEE MADE CNEW0 BQ
            rcases TK.out with ta | ⟨ta, tb⟩
            all_goals
              go_enter Tryz.func28, Tryz.ntmps28
              go_wp2_with fail
              refine CN.out.mono ?_
              rintro e w0 ⟨rfl, rfl⟩
              go_wp2_with fail
              refine CS.out.mono ?_
              rintro e w1 ⟨rfl, l1⟩
              have L1 := Lib.hid l1
              obtain ⟨j1, j2, j3, j4, ca⟩ := STEP.out w1 l1
              have CA := Lib.hid ca
              clear l1 ca
              go_wp2_with fail
              refine CA.out.mono ?_
              rintro e w2 ⟨rfl, l2⟩
              have L2 := Lib.hid (step L1.out l2)
              obtain ⟨i1, _⟩ := STEP.out w2 L2.out
              have M2 := Lib.hid (MP.out w2 L2.out)
              clear l2 STEP
              go_wp2_with (first
                | ((with_reducible show wpList _ _ _ (⟨some 57, _, _, _, _, _⟩ :: _) _ _); refine wpList_len_own _ rfl (.tmp 56) 69 rfl 3 81 Tryz.underlying69 ptrR m N D rfl M2.out ?_; rw [HSZ.out])
                | fail)
              go_ret2
              obtain ⟨t, e⟩ := STILL.out _ L2.out (by rw [HE.out]; decide)
              exact ⟨by rw [HE.out, e]; rfl, t⟩
          · rw [if_neg h256] at hEE
            have HE := Lib.hid hEE
            have HI : Hid (I64V (T + 1)) := by show I64V (T + 1); unfold I64V; omega
            have MADE1 := Lib.hid (MADE.out hEE)
            have CNEW1 := Lib.hid (CNEW0.out HK.out)
            clear hEE STILL MADE CNEW0
            rcases TK.out with ta | ⟨ta, tb⟩
            all_goals
              go_enter Tryz.func28, Tryz.ntmps28
              go_wp2_with fail
              refine CN.out.mono ?_
              rintro e w0 ⟨rfl, rfl⟩
              go_wp2_with fail
              refine CS.out.mono ?_
              rintro e w1 ⟨rfl, l1⟩
              have L1 := Lib.hid l1
              obtain ⟨j1, j2, j3, j4, ca⟩ := STEP.out w1 l1
              have CA := Lib.hid ca
              clear l1 ca
              go_wp2_with fail
              refine CA.out.mono ?_
              rintro e w2 ⟨rfl, l2⟩
              have L2 := Lib.hid (step L1.out l2)
              obtain ⟨i1, _⟩ := STEP.out w2 L2.out
              have M2 := Lib.hid (MP.out w2 L2.out)
              have B2 := Lib.hid (BQ.out w2 L2.out)
              have i2 : w2.cell? ⟨q, 2, none⟩ = some (.int .i64 T) := B2.out.cell 2
              clear l2
              go_upto_region 16 with (first
                | ((with_reducible show wpList _ _ _ (⟨some 57, _, _, _, _, _⟩ :: _) _ _); refine wpList_len_own _ rfl (.tmp 56) 69 rfl 3 81 Tryz.underlying69 ptrR m N D rfl M2.out ?_; rw [HSZ.out])
                | ((with_reducible show wpList _ _ _ (⟨none, .store _ (.tmp 65) _, _, _, _, _⟩ :: _) _ _); go_loud (refine wpList_store_fld rfl _ (.tmp 65) (.tmp 63) rfl q 2 rfl _ _ (.int .i64 (T + 1)) rfl B2 (show 2 < 3 by omega) (by kernel_rfl) rfl ?_); intro w4 B4 O4 hg4)
                | fail)
              have B4' : Hid (Blk w4 q 71 [.int .i64 Q0, .map (some m), .int .i64 (T + 1)]) := B4.out
              have j1 : w4.cell? ⟨q, 1, none⟩ = some (.map (some m)) := B4'.out.cell 1
              have j2 : w4.cell? ⟨q, 2, none⟩ = some (.int .i64 (T + 1)) := B4'.out.cell 2
              have A4 := Lib.hid (Spare.of_only O4.out)
              have L4s : Hid (w.heap.size ≤ w4.drew.heap.size) := Nat.le_trans L2.out.size A4.out.size
              have CNEW := Lib.hid (CNEW1.out w2 w4 L2.out A4.out)
              have MM0 : Hid (∀ w5, Below w4.drew.heap.size w4.drew w5 → VMap w5 m N D) := fun w5 hb => owns_same (w := w4) (owns_same M2.out (A4.out.rest m (World.ownsMap.lt M2.out) fun e => HQM.out e.symm)) (hb.block m (Nat.lt_of_lt_of_le (World.ownsMap.lt M2.out) A4.out.size))
              refine wp_region_held (S := fun w' => w'.cell? ⟨q, 1, none⟩ = some (.map (some m)) ∧ w'.cell? ⟨q, 2, none⟩ = some (.int .i64 (T + 1))) (by kernel_rfl) ?_
              change wpAnyH _ _ _ _ _ _ _ _ w4.drew
              have Sr0 : Hid (w4.drew.cell? ⟨q, 1, none⟩ = some (.map (some m)) ∧ w4.drew.cell? ⟨q, 2, none⟩ = some (.int .i64 (T + 1))) := ⟨j1, j2⟩
              have br0 : Hid (Below w.heap.size w4.drew w4.drew) := (Below.refl w4.drew.heap.size w4.drew).mono (L4s.out)
              refine wpAnyH_take (i := 0) (v := _) rfl (by kernel_rfl) (by kernel_rfl) (by kernel_rfl) (fun _ _ _ h => h) (yieldsIf_move (by kernel_rfl) (.tmp 0) rfl (.pointer (some ⟨q, 0, none⟩)) (by kernel_rfl)) Sr0.out ?_
              refine wpAnyH_take (i := 1) (v := _) rfl (by kernel_rfl) (by kernel_rfl) (by kernel_rfl) (fun _ _ _ h => h) (yieldsIf_nil (by kernel_rfl) (.tmp 66) rfl ⟨q, 0, none⟩ (by kernel_rfl)) Sr0.out ?_
              refine wpAnyH_take (i := 2) (v := _) rfl (by kernel_rfl) (by kernel_rfl) (by kernel_rfl) (fun _ _ _ h => h) (yieldsIf_fld (by kernel_rfl) _ (.tmp 67) 1 rfl (.pointer (some ⟨q, 0, none⟩)) (.pointer (some ⟨q, 1, none⟩)) (by kernel_rfl) (fun w => by go_simp)) Sr0.out ?_
              refine wpAnyH_take (i := 3) (v := _) rfl (by kernel_rfl) (by kernel_rfl) (by kernel_rfl) (fun _ _ _ h => h) (yieldsIf_load_one (by kernel_rfl) _ (.tmp 68) rfl q (1) (by kernel_rfl) (.map (some m)) (fun _ h => h.1) _ Tryz.underlying69 rfl) Sr0.out ?_
              refine wpAnyH_take (i := 4) (v := _) rfl (by kernel_rfl) (by kernel_rfl) (by kernel_rfl) (fun _ _ _ h => h) (yieldsIf_move (by kernel_rfl) (.tmp 0) rfl (.pointer (some ⟨q, 0, none⟩)) (by kernel_rfl)) Sr0.out ?_
              refine wpAnyH_take (i := 5) (v := _) rfl (by kernel_rfl) (by kernel_rfl) (by kernel_rfl) (fun _ _ _ h => h) (yieldsIf_nil (by kernel_rfl) (.tmp 70) rfl ⟨q, 0, none⟩ (by kernel_rfl)) Sr0.out ?_
              refine wpAnyH_take (i := 6) (v := _) rfl (by kernel_rfl) (by kernel_rfl) (by kernel_rfl) (fun _ _ _ h => h) (yieldsIf_fld (by kernel_rfl) _ (.tmp 71) 2 rfl (.pointer (some ⟨q, 0, none⟩)) (.pointer (some ⟨q, 2, none⟩)) (by kernel_rfl) (fun w => by go_simp)) Sr0.out ?_
              refine wpAnyH_take (i := 7) (v := _) rfl (by kernel_rfl) (by kernel_rfl) (by kernel_rfl) (fun _ _ _ h => h) (yieldsIf_load_one (by kernel_rfl) _ (.tmp 72) rfl q (2) (by kernel_rfl) (.int .i64 (T + 1)) (fun _ h => h.2) _ Tryz.underlying3 rfl) Sr0.out ?_
              refine wpAnyH_take (i := 8) (v := _) rfl (by kernel_rfl) (by kernel_rfl) (by kernel_rfl) (fun _ _ _ h => h) (yieldsIf_move (by kernel_rfl) (.tmp 2) rfl (.int .u8 k) (by kernel_rfl)) Sr0.out ?_
              refine wpAnyH_one 9 _ (by kernel_rfl) rfl fun K hK => ?_
              go_simp
              refine (CNEW.out).mono ?_
              rintro e w5 ⟨P, rfl, nn⟩
              have Sr1 : Hid (w5.cell? ⟨q, 1, none⟩ = some (.map (some m)) ∧ w5.cell? ⟨q, 2, none⟩ = some (.int .i64 (T + 1))) := ⟨(nn.2.2.2.2.2.cell (lt_of_cellD j1)).trans j1, (nn.2.2.2.2.2.cell (lt_of_cellD j2)).trans j2⟩
              have br1 : Hid (Below w.heap.size w4.drew w5) := (nn.2.2.2.2.2).mono (L4s.out)
              have NN := Lib.hid nn
              have MM := Lib.hid (MM0.out _ nn.2.2.2.2.2)
              obtain ⟨g, hg⟩ : ∃ g, g = P.g := ⟨_, rfl⟩
              rw [← hg]
              have HG := Lib.hid hg
              clear nn hg
              refine hK _ _ Sr1.out ?_
              clear hK K 
              refine wpAnyH_one 10 _ (by kernel_rfl) rfl fun K hK => ?_
              refine step_putV rfl (.tmp 69) (.tmp 73) (.tmp 75) _ rfl Tryz.underlying69 m N D (by kernel_rfl) MM.out (by unfold maxLen; omega) (T + 1) g (by kernel_rfl) (by kernel_rfl) HI.out ?_
              intro w6 M6 T6
              have X6 := Lib.hid (Spare.of_turned T6.out)
              have c61 : w6.cell? ⟨q, 1, none⟩ = some (.map (some m)) := (spare_cellD X6.out HQM.out (lt_of_cellD Sr1.out.1)).trans Sr1.out.1
              have c62 : w6.cell? ⟨q, 2, none⟩ = some (.int .i64 (T + 1)) := (spare_cellD X6.out HQM.out (lt_of_cellD Sr1.out.2)).trans Sr1.out.2
              refine hK _ _ ⟨c61, c62⟩ ?_
              clear hK K
              refine wpAnyH_done (by kernel_rfl) ?_ _
              have M6' := M6.out
              rw [HG.out] at M6'
              have CE := Lib.hid (MADE1.out w2 w4 w5 w6 P _ L2.out A4.out B4'.out NN.out M6' T6.out)
              clear M6' MADE1 CNEW1 CNEW MM0 MM
              go_wp2_with fail
              refine CE.out.mono ?_
              rintro e w7 ⟨rfl, t7, c7⟩
              have T7 := Lib.hid t7
              clear t7 CE
              go_wp2_with fail
              go_ret2
              refine ⟨?_, T7.out⟩
              have e9 : vMakeN V s k = V.last + 1 := if_pos HE.out
              rw [HE.out, e9, ← HT9.out]
              rfl
      · rw [if_pos hC0] at hEE
        rw [if_neg hC0] at STEP
        have HE := Lib.hid hEE
        clear hEE MADE CNEW0 MP BQ hC0
        go_enter Tryz.func28, Tryz.ntmps28
        go_wp2_with fail
        refine CN.out.mono ?_
        rintro e w0 ⟨rfl, rfl⟩
        go_wp2_with fail
        refine CS.out.mono ?_
        rintro e w1 ⟨rfl, l1⟩
        have L1 := Lib.hid l1
        obtain ⟨j1, j2, j3, j4, ca⟩ := STEP.out w1 l1
        have CA := Lib.hid ca
        clear l1 ca STEP
        go_wp2_with fail
        refine CA.out.mono ?_
        rintro e w2 ⟨rfl, l2⟩
        have L2 := Lib.hid (step L1.out l2)
        clear l2
        go_wp2_with fail
        go_ret2
        obtain ⟨t, e⟩ := STILL.out _ L2.out (by rw [HE.out]; decide)
        exact ⟨by rw [HE.out, e]; rfl, t⟩
    · exact VMake_early HT h hs (.inr ⟨hne, .inr hv⟩)
  · exact VMake_early HT h hs (.inr ⟨hne, .inl hp⟩)
end
end Go.Proofs.YtdgpbhdihhchgaaGreatDoor

namespace Go.Proofs.YtdgpbhdihhchgaaGreatDoor
set_option linter.all false
set_option maxRecDepth 100000
open Go.RowKit
set_option linter.unusedVariables false
def ChangeE (V : VolM) (n AE : Int) (B A : List Int) : Int := if vDatE V.l n ≠ 0 then vDatE V.l n else if AE ≠ 0 then AE else if V.quota < (vUsed V.l : Int) - B.length + A.length then 13 else 0
def ChangeV (V : VolM) (n AE : Int) (B A : List Int) (L : List VNode) : VolM := if ChangeE V n AE B A = 0 then ⟨V.quota, V.last, L⟩ else V
def ChangePost (DI : DrI) (EI : FiI) (w : World) (base q m : Nat) (V : VolM) (M : List VN) (n AE : Int) (B A : List Int) (L : List VNode) (e : Ending) (w' : World) : Prop := e = .returned (.int .i64 (ChangeE V n AE B A)) ∧ VTurn (isV DI EI) w base q (pvS q m M) (ChangeV V n AE B A L) w'
theorem regs_lay {L : List VNode} {n : Int} {B : List Int} {Z : List Bool} : regs L = regs (vLay L n B Z) := by
  unfold regs vLay
  rw [List.map_map]
  refine List.map_congr_left fun x hx => ?_
  simp only [Function.comp]
  by_cases h : x.n = n
  · rw [if_pos h]
    rfl
  · rw [if_neg h]
section
variable {DI : DrI} {EI : FiI} {w w' : World} {base q m : Nat} {D : DataW Unit} {V : VolM} {M : List VN} {y z : VN} {x : VNode} {n k : Int} {s : NameL}
theorem vmUp_lay {Q T : Int} {R : List (Int × DItem)} (h : PVol DI EI w base q m D Q T M R) (hy : y ∈ M) (P : PN) (B : List Int) (Z : List Bool) : (vmUp M y.1.n (⟨y.1.n, y.1.kind, y.1.par, y.1.name, B, Z⟩, P)).map (·.1) = vLay (M.map (·.1)) y.1.n B Z := by
  unfold vmUp vLay
  rw [List.map_map, List.map_map]
  refine List.map_congr_left fun z hz => ?_
  simp only [Function.comp]
  by_cases hn : z.1.n = y.1.n
  · rw [if_pos hn, if_pos hn, h.same hz hy hn]
  · rw [if_neg hn, if_neg hn]
theorem PV.fileErr (h : PV DI EI w base q m D V M) (hn : I64V n) (hD : vDatE V.l n ≠ 0) : Calls Tryz.prog 62 #[ptrV q, .int .i64 n] w fun e w' => e = .returned (.tuple #[.pointer none, .int .i64 (vDatE V.l n)]) ∧ w = w' := by
  cases hat : vAt V.l n with
  | none =>
    have e : vDatE V.l n = 7 := by unfold vDatE; rw [hat]; rfl
    rw [e]
    exact VFile_no h.p hn (h.no hat)
  | some x =>
    obtain ⟨y, hy, ey, en⟩ := h.at hat
    have hkk : vKind V.l n = y.1.kind := by rw [← en]; exact h.kindOf hy
    rcases h.p.kind y hy with hk | hk
    · have e : vDatE V.l n = 9 := by unfold vDatE; rw [hat, hkk, hk]; rfl
      rw [e]
      exact VFile_dir h.p hy en hk
    · have e : vDatE V.l n = 0 := by unfold vDatE; rw [hat, hkk, hk]; rfl
      exact absurd e hD
set_option maxHeartbeats 8000000 in
theorem VChangeW_any (h : PV DI EI w base q m D V M) (hn : I64V n) (F : Nat) (hent : ∀ (args : Array Value) (w : World), (callFunc F args).run Tryz.prog w = .ok (.enter F args) w) (x1 x2 : Value) (AE : Int) (fB : List Int → List Int) (fZ : List Bool → List Bool) (B : List Int) (Z : List Bool) (hB : vBytes V.l n = B) (hZ : vWas V.l n = Z)
    (ca : ∀ w' b qq B Z S, Below w.heap.size w w' → EI.is w' b qq B Z S → base ≤ b → b ≤ w'.heap.size → (∀ j, S j → pvS q m M j ∨ w.heap.size ≤ j) → Calls Tryz.prog F #[ptr qq, x1, x2] w' fun e w2 => e = .returned (.int .i64 AE) ∧ ∃ S', EI.is w2 b qq (fB B) (fZ Z) S' ∧ Spare S w' w2 ∧ ∀ j, S' j → S j ∨ w'.heap.size ≤ j)
    (hlB : (fB []).length ≤ 65536) (hok : ChangeE V n AE B (fB []) = 0 → Vok ⟨V.quota, V.last, vLay V.l n (fB B) (fZ Z)⟩) :
    Calls Tryz.prog 74 #[ptrV q, .int .i64 n, .func (.func F) #[] #[x1, x2]] w (ChangePost DI EI w base q m V M n AE B (fB []) (vLay V.l n (fB B) (fZ Z))) := by
  have STILL : Hid (∀ w', Below w.heap.size w w' → ChangeE V n AE B (fB []) ≠ 0 → VTurn (isV DI EI) w base q (pvS q m M) (ChangeV V n AE B (fB []) (vLay V.l n (fB B) (fZ Z))) w') := fun w' hb he => by
    unfold ChangeV
    rw [if_neg he]
    exact h.still hb
  by_cases hD : vDatE V.l n ≠ 0
  · have C := Lib.hid (h.fileErr hn hD)
    have HE : Hid (ChangeE V n AE B (fB []) = vDatE V.l n) := if_pos hD
    have td : (vDatE V.l n != 0) = true := by simpa using hD
    have HD := Lib.hid hD
    obtain ⟨E, hE⟩ : ∃ E, E = vDatE V.l n := ⟨_, rfl⟩
    rw [← hE] at C td HE HD
    clear h hn hB hZ ca hlB hok hD hE
    unfold ptrV at C ⊢
    go_enter Tryz.func74, Tryz.ntmps74
    go_wp2_with fail
    refine C.out.mono ?_
    rintro e w0 ⟨rfl, rfl⟩
    go_wp2_with fail
    go_ret
    exact ⟨by rw [HE.out]; rfl, STILL.out _ (Below.refl _ _) (by rw [HE.out]; exact HD.out)⟩
  · obtain ⟨x, hx, hk2, hb1, hz1⟩ := vDatE_ok (L := V.l) (n := n) (by simpa using hD)
    obtain ⟨y, hy, ey, en⟩ := h.at hx
    have hk : y.1.kind = 2 := by rw [ey, hk2]
    have hyB : y.1.B = B := by rw [ey, ← hb1, hB]
    have hyZ : y.1.Z = Z := by rw [ey, ← hz1, hZ]
    have C := Lib.hid (VFile_yes h.p hy en hk)
    have hl : B.length ≤ vUsed V.l := by
      have := lay_used (B := []) (Z := []) h.ok.rise hx
      rw [← ey, hyB] at this
      simp at this
      omega
    have hu := h.ok.used
    have hq1 := h.ok.q1
    have hq0 := h.ok.q0
    have FD := h.p.files y hy hk
    rw [hyB, hyZ] at FD
    have CU : Hid (∀ w', Below w.heap.size w w' → Calls Tryz.prog 24 #[ptrV q] w' fun e w2 => e = .returned (.int .i64 (vUsed V.l : Nat)) ∧ Below w'.heap.size w' w2) := fun w' hb => VUsed_any (h.below hb)
    have CD : Hid (∀ w', Below w.heap.size w w' → Calls Tryz.prog 61 #[ptr y.2.q] w' fun e w2 => e = .returned (.int .i64 (B.length : Nat)) ∧ ∃ k, w'.drewN k = w2) := fun w' hb => EI.size (EI.keep FD (Spare.of_over (fun _ => False) hb) fun _ _ e => e)
    have J0 : Hid (∀ w', Below w.heap.size w w' → w'.cell? ⟨q, 0, none⟩ = some (.int .i64 V.quota)) := fun w' hb => (h.p.below hb).c0
    have FIN : Hid (ChangeE V n AE B (fB []) = 0 → ∀ w3, Below w.heap.size w w3 → Calls Tryz.prog F #[ptr y.2.q, x1, x2] w3 fun e w4 => e = .returned (.int .i64 AE) ∧ VTurn (isV DI EI) w base q (pvS q m M) (ChangeV V n AE B (fB []) (vLay V.l n (fB B) (fZ Z))) w4) := fun he w3 hb => by
      have h3 := h.below hb
      refine (ca w3 base y.2.q B Z y.2.S hb (EI.keep FD (Spare.of_over (fun _ => False) hb) fun _ _ e => e) (Nat.le_refl _) h3.p.hb fun j hj => .inl (.inr (.inr ⟨y, hy, .inr hj⟩))).mono ?_
      rintro e w4 ⟨he4, S', f4, a4, n4⟩
      refine ⟨he4, ?_⟩
      have t := h3.p.up (R' := regs V.l) hy (y' := (⟨y.1.n, y.1.kind, y.1.par, y.1.name, fB B, fZ Z⟩, ⟨y.2.g, y.2.q, S'⟩)) rfl rfl rfl (a4.mono fun j _ hj => .inr hj) ((h3.p.node y hy).2.spare a4 fun hj => (h.p.own y hy _ hj).2.2 y hy rfl) (fun e => by rw [hk] at e; cases e) (fun _ => f4) n4 fun _ _ _ => Iff.rfl
      have e5 : (vmUp M y.1.n (⟨y.1.n, y.1.kind, y.1.par, y.1.name, fB B, fZ Z⟩, ⟨y.2.g, y.2.q, S'⟩)).map (·.1) = vLay V.l n (fB B) (fZ Z) := by
        rw [← h.is, ← en]
        exact vmUp_lay h.p hy _ _ _
      unfold ChangeV
      rw [if_pos he]
      have hreg : regs V.l = regs (vLay V.l n (fB B) (fZ Z)) := regs_lay
      rw [hreg] at t
      exact vturn_of (V' := ⟨V.quota, V.last, vLay V.l n (fB B) (fZ Z)⟩) ((PTurn.refl h.p hb).trans t) e5 (hok he) h.big
    have CA1 : Hid (∀ w1 q0 S0, Below w.heap.size w w1 → EI.is w1 w.heap.size q0 [] [] S0 → Calls Tryz.prog F #[ptr q0, x1, x2] w1 fun e w2 => e = .returned (.int .i64 AE) ∧ Below w.heap.size w w2 ∧ ∀ w3, Below w2.heap.size w2 w3 → Calls Tryz.prog 61 #[ptr q0] w3 fun e w4 => e = .returned (.int .i64 ((fB []).length : Nat)) ∧ ∃ k, w3.drewN k = w4) := fun w1 q0 S0 hb f0 => by
      refine (ca w1 w.heap.size q0 [] [] S0 hb f0 h.p.hb hb.size fun j hj => .inr (EI.ge f0 j hj).1).mono ?_
      rintro e w2 ⟨he, S', f2, a2, n2⟩
      exact ⟨he, hb.trans (a2.below (fun j hj => (EI.ge f0 j hj).1) hb.size), fun w3 h3 => EI.size (EI.keep f2 (Spare.of_over (fun _ => False) h3) fun _ _ e => e)⟩
    have NEW := Lib.hid (EI.new w)
    have HEE : Hid (ChangeE V n AE B (fB []) = if AE ≠ 0 then AE else if V.quota < (vUsed V.l : Int) - B.length + (fB []).length then 13 else 0) := if_neg hD
    obtain ⟨E, hE⟩ : ∃ E, E = ChangeE V n AE B (fB []) := ⟨_, rfl⟩
    obtain ⟨VV, hVV⟩ : ∃ E, E = ChangeV V n AE B (fB []) (vLay V.l n (fB B) (fZ Z)) := ⟨_, rfl⟩
    unfold ChangePost
    rw [← hE, ← hVV] at FIN STILL ⊢
    rw [← hE] at HEE
    obtain ⟨Q0, hQ0⟩ : ∃ E, E = V.quota := ⟨_, rfl⟩
    obtain ⟨u, hu9⟩ : ∃ E, E = vUsed V.l := ⟨_, rfl⟩
    obtain ⟨lb, hlb⟩ : ∃ E, E = B.length := ⟨_, rfl⟩
    obtain ⟨lf, hlf⟩ : ∃ E, E = (fB []).length := ⟨_, rfl⟩
    obtain ⟨qd, hqd⟩ : ∃ E, E = y.2.q := ⟨_, rfl⟩
    rw [← hQ0] at J0 HEE hu hq1 hq0
    rw [← hu9] at CU HEE hl hu
    rw [← hlb] at CD HEE hl
    rw [← hlf] at CA1 HEE hlB
    rw [← hqd] at C CD FIN
    clear h hn hB hZ ca hok hD hx hk2 hb1 hz1 hy ey en hk hyB hyZ FD hE hVV hQ0 hu9 hlb hlf hqd
    unfold ptrV at C CU ⊢
    unfold ptr at C CD CA1 FIN NEW
    obtain ⟨t1, ht1⟩ : ∃ t, t = (u : Int) - (lb : Int) := ⟨_, rfl⟩
    have hsub : IntKind.i64.wrap ((u : Int) - (lb : Int)) = t1 := by rw [IntKind.wrap_i64, ht1]; omega
    obtain ⟨t2, ht2⟩ : ∃ t, t = t1 + (lf : Int) := ⟨_, rfl⟩
    have hadd : IntKind.i64.wrap (t1 + (lf : Int)) = t2 := by rw [IntKind.wrap_i64, ht2]; omega
    have HEE2 : Hid (E = if AE ≠ 0 then AE else if Q0 < t2 then 13 else 0) := by
      have := HEE.out
      rw [← ht1, ← ht2] at this
      exact this
    obtain ⟨z, hz⟩ : ∃ z, z = decide (Q0 < t2) := ⟨_, rfl⟩
    have HZ := Lib.hid hz
    have hz' : decide (Q0 < t2) = z := hz.symm
    clear HEE ht1 ht2 hl hu hq1 hq0 hlB hz
    go_enter Tryz.func74, Tryz.ntmps74
    go_wp2_with fail
    refine C.out.mono ?_
    rintro e w0 ⟨rfl, rfl⟩
    go_wp2_with fail
    refine NEW.out.mono ?_
    rintro e w1 ⟨q0, S0, rfl, f1, l1⟩
    have L1 := Lib.hid l1
    have CA2 := Lib.hid (CA1.out w1 q0 S0 l1 f1)
    clear f1 l1 CA1 NEW C
    go_wp2_with fail
    refine CA2.out.mono ?_
    rintro e w2 ⟨rfl, l2, cz⟩
    have L2 := Lib.hid l2
    have CZ := Lib.hid cz
    have j0 := J0.out w2 l2
    clear l2 cz CA2 J0
    by_cases hA : AE = 0
    · subst hA
      rw [if_neg (by decide)] at HEE2
      go_upto_region 8 with fail
      refine wp_region_held (S := fun w' => w'.cell? ⟨q, 0, none⟩ = some (.int .i64 Q0)) (by kernel_rfl) ?_
      change wpAnyH _ _ _ _ _ _ _ _ w2.drew
      have Sr0 : Hid (w2.drew.cell? ⟨q, 0, none⟩ = some (.int .i64 Q0)) := j0
      have br0 : Hid (Below w2.heap.size w2 w2.drew) := (Below.refl _ _).drew
      refine wpAnyH_take (i := 0) (v := _) rfl (by kernel_rfl) (by kernel_rfl) (by kernel_rfl) (fun _ _ _ h => h) (yieldsIf_move (by kernel_rfl) (.tmp 0) rfl (.pointer (some ⟨q, 0, none⟩)) (by kernel_rfl)) Sr0.out ?_
      refine wpAnyH_take (i := 2) (v := _) rfl (by kernel_rfl) (by kernel_rfl) (by kernel_rfl) (fun _ _ _ h => h) (yieldsIf_move (by kernel_rfl) (.tmp 7) rfl (.pointer (some ⟨qd, 0, none⟩)) (by kernel_rfl)) Sr0.out ?_
      refine wpAnyH_take (i := 5) (v := _) rfl (by kernel_rfl) (by kernel_rfl) (by kernel_rfl) (fun _ _ _ h => h) (yieldsIf_move (by kernel_rfl) (.tmp 9) rfl (.pointer (some ⟨q0, 0, none⟩)) (by kernel_rfl)) Sr0.out ?_
      refine wpAnyH_take (i := 8) (v := _) rfl (by kernel_rfl) (by kernel_rfl) (by kernel_rfl) (fun _ _ _ h => h) (yieldsIf_move (by kernel_rfl) (.tmp 0) rfl (.pointer (some ⟨q, 0, none⟩)) (by kernel_rfl)) Sr0.out ?_
      refine wpAnyH_take (i := 9) (v := _) rfl (by kernel_rfl) (by kernel_rfl) (by kernel_rfl) (fun _ _ _ h => h) (yieldsIf_nil (by kernel_rfl) (.tmp 35) rfl ⟨q, 0, none⟩ (by kernel_rfl)) Sr0.out ?_
      refine wpAnyH_take (i := 10) (v := _) rfl (by kernel_rfl) (by kernel_rfl) (by kernel_rfl) (fun _ _ _ h => h) (yieldsIf_fld (by kernel_rfl) _ (.tmp 36) 0 rfl (.pointer (some ⟨q, 0, none⟩)) (.pointer (some ⟨q, 0, none⟩)) (by kernel_rfl) (fun w => by go_simp)) Sr0.out ?_
      refine wpAnyH_take (i := 11) (v := _) rfl (by kernel_rfl) (by kernel_rfl) (by kernel_rfl) (fun _ _ _ h => h) (yieldsIf_load_one (by kernel_rfl) _ (.tmp 37) rfl q (0) (by kernel_rfl) (.int .i64 Q0) (fun _ h => h) _ Tryz.underlying3 rfl) Sr0.out ?_
      refine wpAnyH_one 1 _ (by kernel_rfl) rfl fun K hK => ?_
      go_simp
      refine (CU.out _ (step L2.out br0.out)).mono ?_
      rintro e vr1 ⟨rfl, l⟩
      have Sr1 : Hid (vr1.cell? ⟨q, 0, none⟩ = some (.int .i64 Q0)) := (l.cell (lt_of_cellD Sr0.out)).trans Sr0.out
      have br1 : Hid (Below w2.heap.size w2 vr1) := step br0.out l
      refine hK _ _ Sr1.out ?_
      clear hK K l
      refine wpAnyH_one 3 _ (by kernel_rfl) rfl fun K hK => ?_
      go_simp
      refine (CD.out _ (step L2.out br1.out)).mono ?_
      rintro e vr2 ⟨rfl, k1, rfl⟩
      have Sr2 : Hid ((vr1.drewN k1).cell? ⟨q, 0, none⟩ = some (.int .i64 Q0)) := Sr1.out
      have br2 : Hid (Below w2.heap.size w2 (vr1.drewN k1)) := br1.out.trans ((drewed vr1 k1).mono (Below.size br1.out))
      refine hK _ _ Sr2.out ?_
      clear hK K 
      refine wpAnyH_take (i := 4) (v := .int .i64 t1) rfl (by kernel_rfl) (by kernel_rfl) (by kernel_rfl) (fun _ _ _ h => h) (.inl ⟨by kernel_rfl, fun w _ => by go_simp⟩) Sr2.out ?_
      refine wpAnyH_one 6 _ (by kernel_rfl) rfl fun K hK => ?_
      go_simp
      refine (CZ.out _ br2.out).mono ?_
      rintro e vr3 ⟨rfl, k2, rfl⟩
      have Sr3 : Hid (((vr1.drewN k1).drewN k2).cell? ⟨q, 0, none⟩ = some (.int .i64 Q0)) := Sr2.out
      have br3 : Hid (Below w2.heap.size w2 ((vr1.drewN k1).drewN k2)) := br2.out.trans ((drewed (vr1.drewN k1) k2).mono (Below.size br2.out))
      refine hK _ _ Sr3.out ?_
      clear hK K 
      refine wpAnyH_one 7 _ (by kernel_rfl) rfl fun K hK => ?_
      go_simp
      refine hK _ _ Sr3.out ?_
      clear hK K
      refine wpAnyH_one 12 _ (by kernel_rfl) rfl fun K hK => ?_
      go_simp
      refine hK _ _ Sr3.out ?_
      clear hK K
      refine wpAnyH_done (by kernel_rfl) ?_ _
      obtain ⟨w3, hw3⟩ : ∃ x, x = vr1.drewN (k1 + k2) := ⟨_, rfl⟩
      have L3 : Hid (Below w.heap.size w w3) := by rw [hw3]; exact step L2.out (br1.out.trans ((drewed vr1 (k1 + k2)).mono (Below.size br1.out)))
      rw [← hw3]
      clear hw3
      cases z with
      | true =>
        have HE : Hid (E = 13) := by have := HEE2.out; rw [if_pos (of_decide_eq_true hz')] at this; exact this
        go_wp2_with fail
        go_ret
        exact ⟨by rw [HE.out]; rfl, STILL.out _ L3.out (by rw [HE.out]; decide)⟩
      | false =>
        have HE : Hid (E = 0) := by have := HEE2.out; rw [if_neg (of_decide_eq_false hz')] at this; exact this
        go_wp2_with fail
        refine (FIN.out HE.out w3 L3.out).mono ?_
        rintro e w4 ⟨rfl, t4⟩
        have T4 := Lib.hid t4
        clear t4
        go_wp2_with fail
        go_ret
        exact ⟨by rw [HE.out]; rfl, T4.out⟩
    · have HE : Hid (E = AE) := by have := HEE2.out; rw [if_pos hA] at this; exact this
      have ta : (AE != 0) = true := by simpa using hA
      have HA := Lib.hid hA
      clear hA
      go_wp2_with fail
      go_ret
      exact ⟨by rw [HE.out]; rfl, STILL.out _ L2.out (by rw [HE.out]; exact HA.out)⟩
set_option maxHeartbeats 8000000 in
theorem VChangeC_any (h : PV DI EI w base q m D V M) (hn : I64V n) (F : Nat) (hent : ∀ (args : Array Value) (w : World), (callFunc F args).run Tryz.prog w = .ok (.enter F args) w) (x1 : Value) (AE : Int) (fB : List Int → List Int) (fZ : List Bool → List Bool) (B : List Int) (Z : List Bool) (hB : vBytes V.l n = B) (hZ : vWas V.l n = Z)
    (ca : ∀ w' b qq B Z S, Below w.heap.size w w' → EI.is w' b qq B Z S → base ≤ b → b ≤ w'.heap.size → (∀ j, S j → pvS q m M j ∨ w.heap.size ≤ j) → Calls Tryz.prog F #[ptr qq, x1] w' fun e w2 => e = .returned (.int .i64 AE) ∧ ∃ S', EI.is w2 b qq (fB B) (fZ Z) S' ∧ Spare S w' w2 ∧ ∀ j, S' j → S j ∨ w'.heap.size ≤ j)
    (hlB : (fB []).length ≤ 65536) (hok : ChangeE V n AE B (fB []) = 0 → Vok ⟨V.quota, V.last, vLay V.l n (fB B) (fZ Z)⟩) :
    Calls Tryz.prog 74 #[ptrV q, .int .i64 n, .func (.func F) #[] #[x1]] w (ChangePost DI EI w base q m V M n AE B (fB []) (vLay V.l n (fB B) (fZ Z))) := by
  have STILL : Hid (∀ w', Below w.heap.size w w' → ChangeE V n AE B (fB []) ≠ 0 → VTurn (isV DI EI) w base q (pvS q m M) (ChangeV V n AE B (fB []) (vLay V.l n (fB B) (fZ Z))) w') := fun w' hb he => by
    unfold ChangeV
    rw [if_neg he]
    exact h.still hb
  by_cases hD : vDatE V.l n ≠ 0
  · have C := Lib.hid (h.fileErr hn hD)
    have HE : Hid (ChangeE V n AE B (fB []) = vDatE V.l n) := if_pos hD
    have td : (vDatE V.l n != 0) = true := by simpa using hD
    have HD := Lib.hid hD
    obtain ⟨E, hE⟩ : ∃ E, E = vDatE V.l n := ⟨_, rfl⟩
    rw [← hE] at C td HE HD
    clear h hn hB hZ ca hlB hok hD hE
    unfold ptrV at C ⊢
    go_enter Tryz.func74, Tryz.ntmps74
    go_wp2_with fail
    refine C.out.mono ?_
    rintro e w0 ⟨rfl, rfl⟩
    go_wp2_with fail
    go_ret
    exact ⟨by rw [HE.out]; rfl, STILL.out _ (Below.refl _ _) (by rw [HE.out]; exact HD.out)⟩
  · obtain ⟨x, hx, hk2, hb1, hz1⟩ := vDatE_ok (L := V.l) (n := n) (by simpa using hD)
    obtain ⟨y, hy, ey, en⟩ := h.at hx
    have hk : y.1.kind = 2 := by rw [ey, hk2]
    have hyB : y.1.B = B := by rw [ey, ← hb1, hB]
    have hyZ : y.1.Z = Z := by rw [ey, ← hz1, hZ]
    have C := Lib.hid (VFile_yes h.p hy en hk)
    have hl : B.length ≤ vUsed V.l := by
      have := lay_used (B := []) (Z := []) h.ok.rise hx
      rw [← ey, hyB] at this
      simp at this
      omega
    have hu := h.ok.used
    have hq1 := h.ok.q1
    have hq0 := h.ok.q0
    have FD := h.p.files y hy hk
    rw [hyB, hyZ] at FD
    have CU : Hid (∀ w', Below w.heap.size w w' → Calls Tryz.prog 24 #[ptrV q] w' fun e w2 => e = .returned (.int .i64 (vUsed V.l : Nat)) ∧ Below w'.heap.size w' w2) := fun w' hb => VUsed_any (h.below hb)
    have CD : Hid (∀ w', Below w.heap.size w w' → Calls Tryz.prog 61 #[ptr y.2.q] w' fun e w2 => e = .returned (.int .i64 (B.length : Nat)) ∧ ∃ k, w'.drewN k = w2) := fun w' hb => EI.size (EI.keep FD (Spare.of_over (fun _ => False) hb) fun _ _ e => e)
    have J0 : Hid (∀ w', Below w.heap.size w w' → w'.cell? ⟨q, 0, none⟩ = some (.int .i64 V.quota)) := fun w' hb => (h.p.below hb).c0
    have FIN : Hid (ChangeE V n AE B (fB []) = 0 → ∀ w3, Below w.heap.size w w3 → Calls Tryz.prog F #[ptr y.2.q, x1] w3 fun e w4 => e = .returned (.int .i64 AE) ∧ VTurn (isV DI EI) w base q (pvS q m M) (ChangeV V n AE B (fB []) (vLay V.l n (fB B) (fZ Z))) w4) := fun he w3 hb => by
      have h3 := h.below hb
      refine (ca w3 base y.2.q B Z y.2.S hb (EI.keep FD (Spare.of_over (fun _ => False) hb) fun _ _ e => e) (Nat.le_refl _) h3.p.hb fun j hj => .inl (.inr (.inr ⟨y, hy, .inr hj⟩))).mono ?_
      rintro e w4 ⟨he4, S', f4, a4, n4⟩
      refine ⟨he4, ?_⟩
      have t := h3.p.up (R' := regs V.l) hy (y' := (⟨y.1.n, y.1.kind, y.1.par, y.1.name, fB B, fZ Z⟩, ⟨y.2.g, y.2.q, S'⟩)) rfl rfl rfl (a4.mono fun j _ hj => .inr hj) ((h3.p.node y hy).2.spare a4 fun hj => (h.p.own y hy _ hj).2.2 y hy rfl) (fun e => by rw [hk] at e; cases e) (fun _ => f4) n4 fun _ _ _ => Iff.rfl
      have e5 : (vmUp M y.1.n (⟨y.1.n, y.1.kind, y.1.par, y.1.name, fB B, fZ Z⟩, ⟨y.2.g, y.2.q, S'⟩)).map (·.1) = vLay V.l n (fB B) (fZ Z) := by
        rw [← h.is, ← en]
        exact vmUp_lay h.p hy _ _ _
      unfold ChangeV
      rw [if_pos he]
      have hreg : regs V.l = regs (vLay V.l n (fB B) (fZ Z)) := regs_lay
      rw [hreg] at t
      exact vturn_of (V' := ⟨V.quota, V.last, vLay V.l n (fB B) (fZ Z)⟩) ((PTurn.refl h.p hb).trans t) e5 (hok he) h.big
    have CA1 : Hid (∀ w1 q0 S0, Below w.heap.size w w1 → EI.is w1 w.heap.size q0 [] [] S0 → Calls Tryz.prog F #[ptr q0, x1] w1 fun e w2 => e = .returned (.int .i64 AE) ∧ Below w.heap.size w w2 ∧ ∀ w3, Below w2.heap.size w2 w3 → Calls Tryz.prog 61 #[ptr q0] w3 fun e w4 => e = .returned (.int .i64 ((fB []).length : Nat)) ∧ ∃ k, w3.drewN k = w4) := fun w1 q0 S0 hb f0 => by
      refine (ca w1 w.heap.size q0 [] [] S0 hb f0 h.p.hb hb.size fun j hj => .inr (EI.ge f0 j hj).1).mono ?_
      rintro e w2 ⟨he, S', f2, a2, n2⟩
      exact ⟨he, hb.trans (a2.below (fun j hj => (EI.ge f0 j hj).1) hb.size), fun w3 h3 => EI.size (EI.keep f2 (Spare.of_over (fun _ => False) h3) fun _ _ e => e)⟩
    have NEW := Lib.hid (EI.new w)
    have HEE : Hid (ChangeE V n AE B (fB []) = if AE ≠ 0 then AE else if V.quota < (vUsed V.l : Int) - B.length + (fB []).length then 13 else 0) := if_neg hD
    obtain ⟨E, hE⟩ : ∃ E, E = ChangeE V n AE B (fB []) := ⟨_, rfl⟩
    obtain ⟨VV, hVV⟩ : ∃ E, E = ChangeV V n AE B (fB []) (vLay V.l n (fB B) (fZ Z)) := ⟨_, rfl⟩
    unfold ChangePost
    rw [← hE, ← hVV] at FIN STILL ⊢
    rw [← hE] at HEE
    obtain ⟨Q0, hQ0⟩ : ∃ E, E = V.quota := ⟨_, rfl⟩
    obtain ⟨u, hu9⟩ : ∃ E, E = vUsed V.l := ⟨_, rfl⟩
    obtain ⟨lb, hlb⟩ : ∃ E, E = B.length := ⟨_, rfl⟩
    obtain ⟨lf, hlf⟩ : ∃ E, E = (fB []).length := ⟨_, rfl⟩
    obtain ⟨qd, hqd⟩ : ∃ E, E = y.2.q := ⟨_, rfl⟩
    rw [← hQ0] at J0 HEE hu hq1 hq0
    rw [← hu9] at CU HEE hl hu
    rw [← hlb] at CD HEE hl
    rw [← hlf] at CA1 HEE hlB
    rw [← hqd] at C CD FIN
    clear h hn hB hZ ca hok hD hx hk2 hb1 hz1 hy ey en hk hyB hyZ FD hE hVV hQ0 hu9 hlb hlf hqd
    unfold ptrV at C CU ⊢
    unfold ptr at C CD CA1 FIN NEW
    obtain ⟨t1, ht1⟩ : ∃ t, t = (u : Int) - (lb : Int) := ⟨_, rfl⟩
    have hsub : IntKind.i64.wrap ((u : Int) - (lb : Int)) = t1 := by rw [IntKind.wrap_i64, ht1]; omega
    obtain ⟨t2, ht2⟩ : ∃ t, t = t1 + (lf : Int) := ⟨_, rfl⟩
    have hadd : IntKind.i64.wrap (t1 + (lf : Int)) = t2 := by rw [IntKind.wrap_i64, ht2]; omega
    have HEE2 : Hid (E = if AE ≠ 0 then AE else if Q0 < t2 then 13 else 0) := by
      have := HEE.out
      rw [← ht1, ← ht2] at this
      exact this
    obtain ⟨z, hz⟩ : ∃ z, z = decide (Q0 < t2) := ⟨_, rfl⟩
    have HZ := Lib.hid hz
    have hz' : decide (Q0 < t2) = z := hz.symm
    clear HEE ht1 ht2 hl hu hq1 hq0 hlB hz
    go_enter Tryz.func74, Tryz.ntmps74
    go_wp2_with fail
    refine C.out.mono ?_
    rintro e w0 ⟨rfl, rfl⟩
    go_wp2_with fail
    refine NEW.out.mono ?_
    rintro e w1 ⟨q0, S0, rfl, f1, l1⟩
    have L1 := Lib.hid l1
    have CA2 := Lib.hid (CA1.out w1 q0 S0 l1 f1)
    clear f1 l1 CA1 NEW C
    go_wp2_with fail
    refine CA2.out.mono ?_
    rintro e w2 ⟨rfl, l2, cz⟩
    have L2 := Lib.hid l2
    have CZ := Lib.hid cz
    have j0 := J0.out w2 l2
    clear l2 cz CA2 J0
    by_cases hA : AE = 0
    · subst hA
      rw [if_neg (by decide)] at HEE2
      go_upto_region 8 with fail
      refine wp_region_held (S := fun w' => w'.cell? ⟨q, 0, none⟩ = some (.int .i64 Q0)) (by kernel_rfl) ?_
      change wpAnyH _ _ _ _ _ _ _ _ w2.drew
      have Sr0 : Hid (w2.drew.cell? ⟨q, 0, none⟩ = some (.int .i64 Q0)) := j0
      have br0 : Hid (Below w2.heap.size w2 w2.drew) := (Below.refl _ _).drew
      refine wpAnyH_take (i := 0) (v := _) rfl (by kernel_rfl) (by kernel_rfl) (by kernel_rfl) (fun _ _ _ h => h) (yieldsIf_move (by kernel_rfl) (.tmp 0) rfl (.pointer (some ⟨q, 0, none⟩)) (by kernel_rfl)) Sr0.out ?_
      refine wpAnyH_take (i := 2) (v := _) rfl (by kernel_rfl) (by kernel_rfl) (by kernel_rfl) (fun _ _ _ h => h) (yieldsIf_move (by kernel_rfl) (.tmp 7) rfl (.pointer (some ⟨qd, 0, none⟩)) (by kernel_rfl)) Sr0.out ?_
      refine wpAnyH_take (i := 5) (v := _) rfl (by kernel_rfl) (by kernel_rfl) (by kernel_rfl) (fun _ _ _ h => h) (yieldsIf_move (by kernel_rfl) (.tmp 9) rfl (.pointer (some ⟨q0, 0, none⟩)) (by kernel_rfl)) Sr0.out ?_
      refine wpAnyH_take (i := 8) (v := _) rfl (by kernel_rfl) (by kernel_rfl) (by kernel_rfl) (fun _ _ _ h => h) (yieldsIf_move (by kernel_rfl) (.tmp 0) rfl (.pointer (some ⟨q, 0, none⟩)) (by kernel_rfl)) Sr0.out ?_
      refine wpAnyH_take (i := 9) (v := _) rfl (by kernel_rfl) (by kernel_rfl) (by kernel_rfl) (fun _ _ _ h => h) (yieldsIf_nil (by kernel_rfl) (.tmp 35) rfl ⟨q, 0, none⟩ (by kernel_rfl)) Sr0.out ?_
      refine wpAnyH_take (i := 10) (v := _) rfl (by kernel_rfl) (by kernel_rfl) (by kernel_rfl) (fun _ _ _ h => h) (yieldsIf_fld (by kernel_rfl) _ (.tmp 36) 0 rfl (.pointer (some ⟨q, 0, none⟩)) (.pointer (some ⟨q, 0, none⟩)) (by kernel_rfl) (fun w => by go_simp)) Sr0.out ?_
      refine wpAnyH_take (i := 11) (v := _) rfl (by kernel_rfl) (by kernel_rfl) (by kernel_rfl) (fun _ _ _ h => h) (yieldsIf_load_one (by kernel_rfl) _ (.tmp 37) rfl q (0) (by kernel_rfl) (.int .i64 Q0) (fun _ h => h) _ Tryz.underlying3 rfl) Sr0.out ?_
      refine wpAnyH_one 1 _ (by kernel_rfl) rfl fun K hK => ?_
      go_simp
      refine (CU.out _ (step L2.out br0.out)).mono ?_
      rintro e vr1 ⟨rfl, l⟩
      have Sr1 : Hid (vr1.cell? ⟨q, 0, none⟩ = some (.int .i64 Q0)) := (l.cell (lt_of_cellD Sr0.out)).trans Sr0.out
      have br1 : Hid (Below w2.heap.size w2 vr1) := step br0.out l
      refine hK _ _ Sr1.out ?_
      clear hK K l
      refine wpAnyH_one 3 _ (by kernel_rfl) rfl fun K hK => ?_
      go_simp
      refine (CD.out _ (step L2.out br1.out)).mono ?_
      rintro e vr2 ⟨rfl, k1, rfl⟩
      have Sr2 : Hid ((vr1.drewN k1).cell? ⟨q, 0, none⟩ = some (.int .i64 Q0)) := Sr1.out
      have br2 : Hid (Below w2.heap.size w2 (vr1.drewN k1)) := br1.out.trans ((drewed vr1 k1).mono (Below.size br1.out))
      refine hK _ _ Sr2.out ?_
      clear hK K 
      refine wpAnyH_take (i := 4) (v := .int .i64 t1) rfl (by kernel_rfl) (by kernel_rfl) (by kernel_rfl) (fun _ _ _ h => h) (.inl ⟨by kernel_rfl, fun w _ => by go_simp⟩) Sr2.out ?_
      refine wpAnyH_one 6 _ (by kernel_rfl) rfl fun K hK => ?_
      go_simp
      refine (CZ.out _ br2.out).mono ?_
      rintro e vr3 ⟨rfl, k2, rfl⟩
      have Sr3 : Hid (((vr1.drewN k1).drewN k2).cell? ⟨q, 0, none⟩ = some (.int .i64 Q0)) := Sr2.out
      have br3 : Hid (Below w2.heap.size w2 ((vr1.drewN k1).drewN k2)) := br2.out.trans ((drewed (vr1.drewN k1) k2).mono (Below.size br2.out))
      refine hK _ _ Sr3.out ?_
      clear hK K 
      refine wpAnyH_one 7 _ (by kernel_rfl) rfl fun K hK => ?_
      go_simp
      refine hK _ _ Sr3.out ?_
      clear hK K
      refine wpAnyH_one 12 _ (by kernel_rfl) rfl fun K hK => ?_
      go_simp
      refine hK _ _ Sr3.out ?_
      clear hK K
      refine wpAnyH_done (by kernel_rfl) ?_ _
      obtain ⟨w3, hw3⟩ : ∃ x, x = vr1.drewN (k1 + k2) := ⟨_, rfl⟩
      have L3 : Hid (Below w.heap.size w w3) := by rw [hw3]; exact step L2.out (br1.out.trans ((drewed vr1 (k1 + k2)).mono (Below.size br1.out)))
      rw [← hw3]
      clear hw3
      cases z with
      | true =>
        have HE : Hid (E = 13) := by have := HEE2.out; rw [if_pos (of_decide_eq_true hz')] at this; exact this
        go_wp2_with fail
        go_ret
        exact ⟨by rw [HE.out]; rfl, STILL.out _ L3.out (by rw [HE.out]; decide)⟩
      | false =>
        have HE : Hid (E = 0) := by have := HEE2.out; rw [if_neg (of_decide_eq_false hz')] at this; exact this
        go_wp2_with fail
        refine (FIN.out HE.out w3 L3.out).mono ?_
        rintro e w4 ⟨rfl, t4⟩
        have T4 := Lib.hid t4
        clear t4
        go_wp2_with fail
        go_ret
        exact ⟨by rw [HE.out]; rfl, T4.out⟩
    · have HE : Hid (E = AE) := by have := HEE2.out; rw [if_pos hA] at this; exact this
      have ta : (AE != 0) = true := by simpa using hA
      have HA := Lib.hid hA
      clear hA
      go_wp2_with fail
      go_ret
      exact ⟨by rw [HE.out]; rfl, STILL.out _ L2.out (by rw [HE.out]; exact HA.out)⟩
end
end Go.Proofs.YtdgpbhdihhchgaaGreatDoor

namespace Go.Proofs.YtdgpbhdihhchgaaGreatDoor
set_option linter.all false
set_option maxRecDepth 100000
open Go.RowKit
set_option linter.unusedVariables false
section
variable {DI : DrI} {EI : FiI} {w w' w2 : World} {base q m : Nat} {D : DataW Unit} {V V' : VolM} {M : List VN} {y z : VN} {x : VNode} {n a : Int} {s : NameL} {S : Nat → Prop} {xs : List Int}
theorem VTurn.over {is : World → Nat → Nat → VolM → (Nat → Prop) → Prop} (hb : Below w.heap.size w w2) (t : VTurn is w2 base q S V' w') : VTurn is w base q S V' w' := by
  obtain ⟨S', x, a, n⟩ := t
  exact ⟨S', x, (Spare.of_over S hb).trans a fun j _ h => h, fun j hj => (n j hj).imp id fun h => Nat.le_trans hb.size h⟩
theorem len_used (h : Vok V) : ((vBytes V.l n).length : Int) ≤ vUsed V.l := by
  unfold vBytes
  cases hq : vAt V.l n with
  | none => simp
  | some x =>
    have := lay_used (B := []) (Z := []) h.rise hq
    simp at this ⊢
    omega
theorem wr_same (h : Vok V) : ChangeE V n (exWrE a xs.length) (vBytes V.l n) (exWr 0 [] a xs) = vWrE V n a xs := by
  unfold ChangeE vWrE
  by_cases h1 : vDatE V.l n ≠ 0
  · rw [if_pos h1, if_pos h1]
  · rw [if_neg h1, if_neg h1]
    by_cases h2 : exWrE a xs.length ≠ 0
    · rw [if_pos h2, if_pos h2]
    · rw [if_neg h2, if_neg h2]
      have hu := h.used
      have hl := len_used (n := n) h
      have h2' : exWrE a xs.length = 0 := by simpa using h2
      by_cases h3 : xs = []
      · have e1 : exWr 0 [] a xs = [] := if_neg fun q => q.2 h3
        have e2 : exWr 0 (vBytes V.l n) a xs = vBytes V.l n := if_neg fun q => q.2 h3
        rw [e1, e2]
        simp only [List.length_nil]
        rw [if_neg (by omega), if_neg (by omega)]
      · have e1 : exWr 0 [] a xs = layAt 0 [] a.toNat xs := if_pos ⟨h2', h3⟩
        have e2 : exWr 0 (vBytes V.l n) a xs = layAt 0 (vBytes V.l n) a.toNat xs := if_pos ⟨h2', h3⟩
        rw [e1, e2, layAt_len, layAt_len]
        simp only [List.length_nil]
        by_cases h4 : V.quota < (vUsed V.l : Int) - (vBytes V.l n).length + (max (vBytes V.l n).length (a.toNat + xs.length) : Nat)
        · rw [if_pos h4, if_pos (by omega)]
        · rw [if_neg h4, if_neg (by omega)]
theorem cut_same (h : Vok V) : ChangeE V n (exCutE a) (vBytes V.l n) (exCut 0 [] a) = vCutE V n a := by
  unfold ChangeE vCutE
  by_cases h1 : vDatE V.l n ≠ 0
  · rw [if_pos h1, if_pos h1]
  · rw [if_neg h1, if_neg h1]
    by_cases h2 : exCutE a ≠ 0
    · rw [if_pos h2, if_pos h2]
    · rw [if_neg h2, if_neg h2]
      have h2' : exCutE a = 0 := by simpa using h2
      have e1 : (exCut (0 : Int) [] a).length = a.toNat := by
        unfold exCut
        rw [if_pos h2', padTo_len]
      have e2 : (exCut 0 (vBytes V.l n) a).length = a.toNat := by
        unfold exCut
        rw [if_pos h2', padTo_len]
      rw [e1, e2]
theorem VWrite1_any (w : World) (p1 p2 : Nat) (u : Value) (A : Option Addr) (l c : Nat) (E : Int) (R : World → Prop) (c1 : w.cell? ⟨p1, 0, none⟩ = some (.int .i64 a)) (c2 : w.cell? ⟨p2, 0, none⟩ = some (.slice A l c)) (ca : Calls Tryz.prog 76 #[u, .int .i64 a, .slice A l c] w fun e w' => e = .returned (.int .i64 E) ∧ R w') :
    Calls Tryz.prog 75 #[u, .pointer (some ⟨p1, 0, none⟩), .pointer (some ⟨p2, 0, none⟩)] w fun e w' => e = .returned (.int .i64 E) ∧ R w' := by
  have CA := Lib.hid ca
  clear ca
  go_enter Tryz.func75, Tryz.ntmps75
  go_wp2_with fail
  refine CA.out.mono ?_
  rintro e w1 ⟨rfl, r⟩
  have RR := Lib.hid r
  clear r
  go_wp2_with fail
  go_ret
  exact ⟨rfl, RR.out⟩
theorem VCut1_any (w : World) (p1 : Nat) (u : Value) (E : Int) (R : World → Prop) (c1 : w.cell? ⟨p1, 0, none⟩ = some (.int .i64 a)) (ca : Calls Tryz.prog 78 #[u, .int .i64 a] w fun e w' => e = .returned (.int .i64 E) ∧ R w') :
    Calls Tryz.prog 77 #[u, .pointer (some ⟨p1, 0, none⟩)] w fun e w' => e = .returned (.int .i64 E) ∧ R w' := by
  have CA := Lib.hid ca
  clear ca
  go_enter Tryz.func77, Tryz.ntmps77
  go_wp2_with fail
  refine CA.out.mono ?_
  rintro e w1 ⟨rfl, r⟩
  have RR := Lib.hid r
  clear r
  go_wp2_with fail
  go_ret
  exact ⟨rfl, RR.out⟩
def WrPost (DI : DrI) (EI : FiI) (w : World) (base q m : Nat) (V : VolM) (M : List VN) (n a : Int) (xs : List Int) (e : Ending) (w' : World) : Prop := e = .returned (.int .i64 (vWrE V n a xs)) ∧ VTurn (isV DI EI) w base q (pvS q m M) (vWr V n a xs) w'
def CutPost16 (DI : DrI) (EI : FiI) (w : World) (base q m : Nat) (V : VolM) (M : List VN) (n a : Int) (e : Ending) (w' : World) : Prop := e = .returned (.int .i64 (vCutE V n a)) ∧ VTurn (isV DI EI) w base q (pvS q m M) (vCut V n a) w'
set_option maxHeartbeats 4000000 in
theorem VWrite_any (h : PV DI EI w base q m D V M) (hn : I64V n) (ha : I64V a) {A : Option Addr} {l c : Nat} (hh : Holds w w.heap.size A l c xs) (hoff : 0 < l → ∀ x, A = some x → ¬ pvS q m M x.block) (hc : c ≤ 140737488355328) : Calls Tryz.prog 30 #[ptrV q, .int .i64 n, .int .i64 a, .slice A l c] w (WrPost DI EI w base q m V M n a xs) := by
  have hmf : ∀ (fn : Fn) (first cap : Array Value) (w : World), (Instr.makeFunc fn first cap).run Tryz.prog w = .ok (.func fn first cap) w := fun _ _ _ _ => rfl
  have CC : Hid (∀ w2 p6 p7, Below w.heap.size w w2 → Blk w2 p6 3 [.int .i64 a] → Blk w2 p7 51 [.slice A l c] → Calls Tryz.prog 74 #[ptrV q, .int .i64 n, .func (.func 75) #[] #[.pointer (some ⟨p6, 0, none⟩), .pointer (some ⟨p7, 0, none⟩)]] w2 (WrPost DI EI w base q m V M n a xs)) := fun w2 p6 p7 hb b6 b7 => by
    have ok := h.ok.wr n a hh.byte
    refine (VChangeW_any (h.below hb) hn 75 (enters_of Tryz.func75 (by kernel_rfl) rfl) _ _ (exWrE a xs.length) (fun B => exWr 0 B a xs) (fun Z => exWr false Z a (List.replicate xs.length true)) (vBytes V.l n) (vWas V.l n) rfl rfl (fun w3 b q3 B Z S3 hb3 f3 hbb hbs hS3 => ?_) (exWr_small 0 (by simp) a) (fun he => ?_)).mono ?_
    · have hw3 : Below w.heap.size w w3 := hb.trans (hb3.mono hb.size)
      have hh3 := hh.over hw3
      refine VWrite1_any w3 p6 p7 _ A l c _ _ ((hb3.cell (lt_of_cellD (b6.cell 0))).trans (b6.cell 0)) ((hb3.cell (lt_of_cellD (b7.cell 0))).trans (b7.cell 0)) (EI.write f3 ha hh3 hc (fun h0 x hx hs => ?_) hbs)
      rcases hS3 _ hs with h1 | h1
      · exact hoff h0 x hx h1
      · obtain ⟨bb, off, e, hlt, _⟩ := hh.cells h0
        rw [hx] at e
        injection e with e
        rw [e] at h1
        have h2 : w2.heap.size ≤ bb := h1
        have := hb.size
        omega
    · rw [wr_same h.ok] at he
      have ev : vWr V n a xs = ⟨V.quota, V.last, vLay V.l n (exWr 0 (vBytes V.l n) a xs) (exWr false (vWas V.l n) a (List.replicate xs.length true))⟩ := if_pos he
      rw [ev] at ok
      exact ok
    · rintro e w' ⟨he, t⟩
      rw [wr_same h.ok] at he
      have ev : ChangeV V n (exWrE a xs.length) (vBytes V.l n) (exWr 0 [] a xs) (vLay V.l n (exWr 0 (vBytes V.l n) a xs) (exWr false (vWas V.l n) a (List.replicate xs.length true))) = vWr V n a xs := by
        unfold ChangeV vWr
        rw [wr_same h.ok]
      rw [ev] at t
      exact ⟨he, t.over hb⟩
  clear h hn ha hh hc hoff
  unfold ptrV at CC ⊢
  go_enter Tryz.func30, Tryz.ntmps30
  go_wp2_with (first
    | ((with_reducible show wpList _ _ _ (⟨some 6, _, _, _, _, _⟩ :: _) _ _); refine wpList_box_one rfl _ (.tmp 2) rfl (.int .i64 a) rfl rfl ?_; intro p6 w1 g1 g2 B1 L1)
    | ((with_reducible show wpList _ _ _ (⟨some 7, _, _, _, _, _⟩ :: _) _ _); refine wpList_box_one rfl _ (.tmp 3) rfl (.slice A l c) rfl rfl ?_; intro p7 w2 g3 g4 B2 L2; have B12 := Lib.hid (B1.out.over L2.out); have L12 := Lib.hid (step L1.out L2.out))
    | fail)
  refine (CC.out w2 p6 p7 L12.out B12.out B2.out).mono ?_
  rintro e w3 ⟨rfl, t⟩
  have T := Lib.hid t
  clear t
  go_wp2_with fail
  go_ret
  exact ⟨rfl, T.out⟩
set_option maxHeartbeats 4000000 in
theorem VCut_any (h : PV DI EI w base q m D V M) (hn : I64V n) (ha : I64V a) : Calls Tryz.prog 31 #[ptrV q, .int .i64 n, .int .i64 a] w (CutPost16 DI EI w base q m V M n a) := by
  have hmf : ∀ (fn : Fn) (first cap : Array Value) (w : World), (Instr.makeFunc fn first cap).run Tryz.prog w = .ok (.func fn first cap) w := fun _ _ _ _ => rfl
  have CC : Hid (∀ w2 p6, Below w.heap.size w w2 → Blk w2 p6 3 [.int .i64 a] → Calls Tryz.prog 74 #[ptrV q, .int .i64 n, .func (.func 77) #[] #[.pointer (some ⟨p6, 0, none⟩)]] w2 (CutPost16 DI EI w base q m V M n a)) := fun w2 p6 hb b6 => by
    have ok := h.ok.cut n a
    refine (VChangeC_any (h.below hb) hn 77 (enters_of Tryz.func77 (by kernel_rfl) rfl) _ (exCutE a) (fun B => exCut 0 B a) (fun Z => exCut false Z a) (vBytes V.l n) (vWas V.l n) rfl rfl (fun w3 b q3 B Z S3 hb3 f3 hbb hbs hS3 => ?_) (exCut_small 0 (by simp) a) (fun he => ?_)).mono ?_
    · exact VCut1_any w3 p6 _ _ _ ((hb3.cell (lt_of_cellD (b6.cell 0))).trans (b6.cell 0)) (EI.cut f3 ha hbs)
    · rw [cut_same h.ok] at he
      have ev : vCut V n a = ⟨V.quota, V.last, vLay V.l n (exCut 0 (vBytes V.l n) a) (exCut false (vWas V.l n) a)⟩ := if_pos he
      rw [ev] at ok
      exact ok
    · rintro e w' ⟨he, t⟩
      rw [cut_same h.ok] at he
      have ev : ChangeV V n (exCutE a) (vBytes V.l n) (exCut 0 [] a) (vLay V.l n (exCut 0 (vBytes V.l n) a) (exCut false (vWas V.l n) a)) = vCut V n a := by
        unfold ChangeV vCut
        rw [cut_same h.ok]
      rw [ev] at t
      exact ⟨he, t.over hb⟩
  clear h hn ha
  unfold ptrV at CC ⊢
  go_enter Tryz.func31, Tryz.ntmps31
  go_wp2_with (first
    | ((with_reducible show wpList _ _ _ (⟨some 5, _, _, _, _, _⟩ :: _) _ _); refine wpList_box_one rfl _ (.tmp 2) rfl (.int .i64 a) rfl rfl ?_; intro p6 w1 g1 g2 B1 L1)
    | fail)
  refine (CC.out w1 p6 L1.out B1.out).mono ?_
  rintro e w3 ⟨rfl, t⟩
  have T := Lib.hid t
  clear t
  go_wp2_with fail
  go_ret
  exact ⟨rfl, T.out⟩
end
end Go.Proofs.YtdgpbhdihhchgaaGreatDoor

namespace Go.Proofs.YtdgpbhdihhchgaaGreatDoor
set_option linter.all false
open Go Go.RowKit
set_option linter.unusedVariables false
section
variable {P : Program} {ops : Array Oper} {Q : Exit → Act → World → Prop} {r n : Nat}
theorem rowsIn_of {row : String} {args : Array Value} {w : World} {R : Value → World → Prop} (h : Rows P row args w R) : RowsIn (Fence.wide.inRound r) n P row args w R := fun c cs _ =>
  let ⟨v, w', a, b⟩ := h c cs
  ⟨v, w', a, stepsIn_wide.2 b⟩
theorem uponIn_of {o : Oper} {a : Act} {next next' : Act → World → Prop} (hn : ∀ a w, next a w → next' a w) : ∀ (res : Result Next), o.upon P a next Q res → o.uponIn (Fence.wide.inRound r) n P a next' Q res
  | .ok (.value v) w', h => hn _ _ h
  | .ok .skip w', h => hn _ _ h
  | .ok (.defer d) w', h => hn _ _ h
  | .ok (.enter f args) w', h => ⟨fun q => (by cases q), CallsIn.inRound r (callsIn_wide.2 (Calls.mono h fun e w q => by
      cases e with
      | returned v => exact hn _ _ q
      | panicked c => exact q
      | outgrown => exact q))⟩
  | .ok (.row row args) w', h => ⟨fun q => (by cases q), rowsIn_of (Rows.mono h fun v w q => hn _ _ q)⟩
  | .halt (.panic v) w', h => h
  | .ok (.round _ _ _ _ _) _, h => h.elim
theorem wpOpsIn_of (hd : ∀ (i : Nat) (o : Oper), ops[i]? = some o → ∀ c, o.op ≠ .defer c) (hL : ¬ LetsOut Q) : ∀ (l : List Nat) (a : Act) (w : World), wpOps P ops Q l a w → wpOpsIn (Fence.wide.inRound r) n P ops Q l a w
  | [], _, _, h => h
  | i :: rest, a, w, h => by
    unfold wpOps at h
    unfold wpOpsIn
    cases ho : ops[i]? with
    | none =>
      simp only [ho] at h ⊢
      exact wpOpsIn_of hd hL rest a w h
    | some o =>
      simp only [ho] at h ⊢
      split
      · rename_i hw
        rw [if_pos hw] at h
        rcases h with h | h
        · refine ⟨fun f _ => trivial, ?_⟩
          rw [Oper.semAt_eq _ _ _ (hd i o ho)]
          exact uponIn_of (fun a w q => wpOpsIn_of hd hL rest a w q) _ h
        · exact absurd h.2 hL
      · rename_i hw
        rw [if_neg hw] at h
        exact ⟨fun f _ => trivial, wpOpsIn_of hd hL rest _ w h⟩
/-- no operation of the list defers -/
def noDefer (ops : Array Oper) : Bool := ops.all fun o => match o.op with | .defer _ => false | _ => true
theorem noDefer_spec (h : noDefer ops = true) : ∀ (i : Nat) (o : Oper), ops[i]? = some o → ∀ c, o.op ≠ .defer c := fun i o hi c e => by
  unfold noDefer at h
  obtain ⟨hl, hv⟩ := Array.getElem?_eq_some_iff.1 hi
  have h1 := Array.all_eq_true.1 h i hl
  rw [hv, e] at h1
  cases h1
theorem wpIn_region_heldKR {id : Nat} {a : Act} {w : World} (k : Nat) (S : World → Prop) (hm : P.follows .mixedOrders = true) (hd : noDefer ops = true) (hL : ¬ LetsOut Q)
    (h : wpAnyK P .any ops Q S k ops.size (Array.replicate ops.size false) a { w with drawn := w.drawn + 1 }) : (Code.region id ops true).wpIn (Fence.wide.inRound r) n P Q a w :=
  wpIn_region_draw fun t => wpOpsIn_of (noDefer_spec hd) hL _ _ _ (by
    simp only [Region.schedule, hm, Bool.true_or, if_true]
    exact wpAny_sound ops.size t _ a _ (wpAny_of_K _ _ _ _ h))
end
section
variable {S : Nat → Prop} {w w' : World}
theorem spare_putObj (w : World) (l : Nat) (o : Obj) (h : S l) : Spare S w (w.putObj l o) := by
  have g := grownBy_putObj' w l o
  exact ⟨g.os, g.tape, g.output, g.size, fun j hj hs => g.block j hj fun e => hs (by injection e with e; rw [e]; exact h)⟩
theorem spare_setCell (w : World) (g i : Nat) (v : Value) (h : S g) : Spare S w (w.setCell ⟨g, i, none⟩ v) := (Spare.of_only ((Only.refl g w).setCell i v)).mono fun j _ e => by rw [e]; exact h
theorem KeepsOthers.of_spare (a : Spare S w w') (h : ∀ j o, S j → w.heap[j]? = some o → o.isCells = true) : KeepsOthers w w' :=
  ⟨a.size, fun k o hk ho => by
    have hlt := (Array.getElem?_eq_some_iff.1 hk).1
    rw [a.rest k hlt fun hs => by rw [h k o hs hk] at ho; cases ho]
    exact hk⟩
/-- a turn of a block that holds no cells -/
theorem Spare.of_row {row : Option Nat} {B : Nat} (hg : w.grownBy w' row) (hr : ∀ r, row = some r → B ≤ r ∧ ∃ o : Obj, w.heap[r]? = some o ∧ o.isCells = false) : Spare (fun j => B ≤ j ∧ ∃ o : Obj, w.heap[j]? = some o ∧ o.isCells = false) w w' :=
  ⟨hg.os, hg.tape, hg.output, hg.size, fun j hj hs => hg.block j hj fun e => hs (hr j e.symm)⟩
end
end Go.Proofs.YtdgpbhdihhchgaaGreatDoor

namespace Go.Proofs.YtdgpbhdihhchgaaGreatDoor
set_option linter.all false
set_option maxRecDepth 100000
open Go.RowKit
set_option linter.unusedVariables false
set_option maxHeartbeats 4000000 in
theorem DGlobs_any (w : World) (base q : Nat) (v : Value) (m : Nat) (D : DataW Unit) (L : List DItem) (d : PDr w base q v m D L) (hb : base ≤ w.heap.size) (htb : TabsD base w) (p : ByteArray) (hp : p.size ≤ 1048576) :
    Calls Tryz.prog 100 #[.pointer (some ⟨q, 0, none⟩), .string p] w fun e w' => e = .returned (.int .i64 (dGlobE L p)) ∧ Below w.heap.size w w' := by
  have hsm := d.small
  have hG : dGlobE L p = if patErr p.data.toList [] ≠ 0 then patErr p.data.toList [] else dPatE L p := rfl
  have C1 : Hid (∀ w', Below w.heap.size w w' → Calls Tryz.prog 151 #[.string p, .string ⟨#[]⟩] w' (FitsPost w' p.data.toList [])) := fun w' h => Fits_any p ⟨#[]⟩ w' (by omega) (by decide) (htb.at h hb)
  have C2 : Hid (∀ (x : ByteArray) w', x.size ≤ 1048576 → Below w.heap.size w w' → Calls Tryz.prog 151 #[.string ⟨#[]⟩, .string x] w' (FitsPost w' [] x.data.toList)) := fun x w' hx h => Fits_any ⟨#[]⟩ x w' (by decide) (by omega) (htb.at h hb)
  unfold FitsPost at C1 C2
  obtain ⟨z1, hz1⟩ : ∃ z, z = fitsOf p.data.toList [] := ⟨_, rfl⟩
  obtain ⟨e1, he1⟩ : ∃ e, e = patErr p.data.toList [] := ⟨_, rfl⟩
  rw [← hz1, ← he1] at C1
  rw [← he1] at hG
  by_cases h1 : e1 = 0
  · have hp0 : Hid (patErr p.data.toList [] = 0) := he1.symm.trans h1
    rw [if_neg (fun q => q h1)] at hG
    have HG := Lib.hid hG
    rw [h1] at C1
    clear hG he1 hz1 h1
    obtain ⟨A, c, rfl⟩ := d.len
    have k0 : w.cell? ⟨q, 0, none⟩ = some (.slice A L.length c) := d.c0
    have D0 := Lib.hid d
    obtain ⟨n, hn⟩ : ∃ n, n = L.length := ⟨_, rfl⟩
    rw [← hn] at k0 hsm
    have HN := Lib.hid hn
    clear d hn
    go_enter Tryz.func100, Tryz.ntmps100
    go_wp2_with fail
    refine (C1.out w (Below.refl _ _)).mono ?_
    rintro e w1 ⟨rfl, l1⟩
    have L1 := Lib.hid l1
    have k1 : w1.cell? ⟨q, 0, none⟩ = some (.slice A n c) := (L1.out.cell (lt_of_cellD k0)).trans k0
    clear l1 C1
    go_wp2_with fail
    go_loopw [24] (fun I wr => ∃ i : Nat, i ≤ n ∧ I = .int .i64 (i : Nat) ∧ Hid (∀ j (hj : j < L.length), j < i → patErr p.data.toList L[j].1.data.toList = 0) ∧ Hid (Below w.heap.size w wr)) (fun I _ => n - (intOf I).toNat)
    case atStart => exact ⟨0, Nat.zero_le _, rfl, (fun j _ h => absurd h (Nat.not_lt_zero _)), L1.out⟩
    case round =>
      obtain ⟨i, hi, rfl, NO, LR⟩ := hrel
      by_cases hlt : i < n
      · have hil : i < L.length := by have := HN.out; omega
        obtain ⟨g, c', e, hnc, hcm, k4⟩ := D0.out.at hil
        injection e with e1 e2 e3
        subst e1 e3
        have k4' : wr.cell? ⟨g, i, none⟩ = some (.string L[i].1) := (LR.out.cell (lt_of_cellD k4)).trans k4
        have CF := Lib.hid (C2.out L[i].1 wr (D0.out.text _ (List.getElem_mem hil)) LR.out)
        have hpe : patErr p.data.toList L[i].1.data.toList = patErr [] L[i].1.data.toList := patErr_any hp0.out _
        obtain ⟨z, hz⟩ : ∃ z, z = fitsOf [] L[i].1.data.toList := ⟨_, rfl⟩
        obtain ⟨er, her⟩ : ∃ e, e = patErr [] L[i].1.data.toList := ⟨_, rfl⟩
        rw [← hz, ← her] at CF
        rw [← her] at hpe
        have HPE := Lib.hid hpe
        obtain ⟨x, hx⟩ : ∃ x, x = L[i].1 := ⟨_, rfl⟩
        rw [← hx] at k4' CF
        clear hz her hpe k4 e2 hx
        by_cases h0 : er = 0
        · go_wp2_with fail
          refine CF.out.mono ?_
          rintro e w2 ⟨rfl, l2⟩
          have L2 := Lib.hid (LR.out.trans (l2.mono LR.out.size))
          clear l2 CF
          have HPE0 : Hid (patErr p.data.toList L[i].1.data.toList = 0) := HPE.out.trans h0
          clear HPE
          subst h0
          go_wp2_with fail
          go_roundw
          case rel => exact ⟨i + 1, by omega, by go_num, (fun j hj hji => by
            rcases Nat.lt_or_ge j i with h | h
            · exact NO.out j hj h
            · obtain rfl : j = i := by omega
              exact HPE0.out), L2.out⟩
          case measure => simp [intOf]; omega
        · have HR : Hid (dGlobE L p = er) := HG.out.trans ((dPatN_at hil (fun j hj hji => NO.out j hj hji) (by rw [HPE.out]; exact h0)).trans HPE.out)
          go_wp2_with fail
          refine CF.out.mono ?_
          rintro e w2 ⟨rfl, l2⟩
          have L2 := Lib.hid (LR.out.trans (l2.mono LR.out.size))
          clear l2 CF
          go_wp2_with fail
          go_ret
          exact ⟨by rw [HR.out]; rfl, L2.out⟩
      · obtain rfl : i = n := by omega
        have HR : Hid (dGlobE L p = 0) := HG.out.trans (dPatN_none fun j hj => NO.out j hj (by have := HN.out; omega))
        go_wp2_with fail
        go_ret
        exact ⟨by rw [HR.out]; rfl, LR.out⟩
  · rw [if_pos h1] at hG
    rw [hG]
    clear hG d htb he1 hz1
    go_enter Tryz.func100, Tryz.ntmps100
    go_wp2_with fail
    refine (C1.out w (Below.refl _ _)).mono ?_
    rintro e w1 ⟨rfl, l1⟩
    have L1 := Lib.hid l1
    clear l1 C1
    go_wp2_with fail
    go_ret
    exact ⟨rfl, L1.out⟩
theorem DFitting_any (w : World) (q : Nat) (p a : ByteArray) :
    Calls Tryz.prog 102 #[.pointer (some ⟨q, 0, none⟩), .string p, .string a] w fun e w' => ∃ pd pp pa, e = .returned (.func (.func 153) #[] #[.pointer (some ⟨pd, 0, none⟩), .pointer (some ⟨pa, 0, none⟩), .pointer (some ⟨pp, 0, none⟩)]) ∧
      w.heap.size ≤ pd ∧ w.heap.size ≤ pp ∧ w.heap.size ≤ pa ∧ w'.cell? ⟨pd, 0, none⟩ = some (.pointer (some ⟨q, 0, none⟩)) ∧ w'.cell? ⟨pp, 0, none⟩ = some (.string p) ∧ w'.cell? ⟨pa, 0, none⟩ = some (.string a) ∧ Below w.heap.size w w' := by
  have hmf : ∀ (fn : Fn) (first cap : Array Value) (w : World), (Instr.makeFunc fn first cap).run Tryz.prog w = .ok (.func fn first cap) w := fun _ _ _ _ => rfl
  go_enter Tryz.func102, Tryz.ntmps102
  go_wp2_with (first
    | ((with_reducible show wpList _ _ _ (⟨some 3, _, _, _, _, _⟩ :: _) _ _); refine wpList_box_one rfl _ (.tmp 0) rfl (.pointer (some ⟨q, 0, none⟩)) rfl rfl ?_; intro p1 w1 hg1 hg2 B1 L1)
    | ((with_reducible show wpList _ _ _ (⟨some 4, _, _, _, _, _⟩ :: _) _ _); refine wpList_box_one rfl _ (.tmp 1) rfl (.string p) rfl rfl ?_; intro p2 w2 hg3 hg4 B2 L2)
    | ((with_reducible show wpList _ _ _ (⟨some 5, _, _, _, _, _⟩ :: _) _ _); refine wpList_box_one rfl _ (.tmp 2) rfl (.string a) rfl rfl ?_; intro p3 w3 hg5 hg6 B3 L3)
    | fail)
  go_ret
  have q2 := L1.out.trans (L2.out.mono L1.out.size)
  exact ⟨p1, p2, p3, rfl, hg1, Nat.le_trans L1.out.size hg3, Nat.le_trans q2.size hg5, (L3.out.cell (Nat.lt_of_lt_of_le hg2 L2.out.size)).trans ((L2.out.cell hg2).trans (B1.out.cell 0)), (L3.out.cell hg4).trans (B2.out.cell 0), B3.out.cell 0, q2.trans (L3.out.mono q2.size)⟩
theorem run_load_plain {P : Program} (w : World) (ad : Addr) (v : Value) (h : w.cell? ad = some v) (T : TypeId) (d : TypeDesc) (hu : P.underlying T = some d) (hd : (match d with | .struct _ | .array _ _ => true | _ => false) = false) : (loadVar T ad).run P w = .ok v w := by
  have hagg : (isAgg T).run P w = .ok false w := by
    unfold isAgg
    rw [Sem.run_bind, run_underlying hu]
    cases d <;> simp_all [Result.andThen]
  simp [loadVar, hagg, h, Result.andThen]
theorem results_cell3 {fn : Func} {p1 p2 p3 : Tmp} {t1 t2 t3 : TypeId} (h : fn.results = #[.cell p1 t1, .cell p2 t2, .cell p3 t3]) (tmps : Array Value) (P : Program) (w : World) (a1 a2 a3 : Addr) (v1 v2 v3 : Value)
    (e1 : tmps.getD p1 undef = .pointer (some a1)) (e2 : tmps.getD p2 undef = .pointer (some a2)) (e3 : tmps.getD p3 undef = .pointer (some a3)) (h1 : (loadVar t1 a1).run P w = .ok v1 w) (h2 : (loadVar t2 a2).run P w = .ok v2 w) (h3 : (loadVar t3 a3).run P w = .ok v3 w) :
    (results fn tmps).run P w = .ok (.tuple #[v1, v2, v3]) w := by
  have e1' : tmps[p1]?.getD undef = .pointer (some a1) := by simpa using e1
  have e2' : tmps[p2]?.getD undef = .pointer (some a2) := by simpa using e2
  have e3' : tmps[p3]?.getD undef = .pointer (some a3) := by simpa using e3
  simp [results, h, e1', e2', e3', asAddr, h1, h2, h3, Result.andThen]
/-- names from a place on, sliced out of the row -/
theorem slice_names (w : World) (A : Option Addr) (n c k : Nat) (hk : k ≤ n) (hnc : n ≤ c) (hc : c ≤ maxLen) (hA : A = none → c = 0) (ho : ∀ ad, A = some ad → ∃ g, ad = ⟨g, 0, none⟩) :
    ∃ A1 c1, (∀ w, (Instr.sliceAt 78 (.slice A n c) (some (.int .i64 (k : Nat))) none none).run Tryz.prog w = .ok (.slice A1 (n - k) c1) w) ∧ n - k ≤ c1 ∧ (0 < n - k → ∃ g, A = some ⟨g, 0, none⟩ ∧ A1 = some ⟨g, k, none⟩) := by
  unfold maxLen at hc
  have e1 : (k : Int) ≤ (n : Int) := by omega
  have e2 : (n : Int) ≤ (c : Int) := by omega
  rcases A with _ | ad
  · obtain rfl : c = 0 := hA rfl
    obtain rfl : n = 0 := by omega
    obtain rfl : k = 0 := by omega
    exact ⟨none, 0, fun w => by go_simp, Nat.le_refl _, fun h => absurd h (Nat.lt_irrefl _)⟩
  · obtain ⟨g, rfl⟩ := ho ad rfl
    by_cases hck : c = k
    · have hnk : n = k := by omega
      subst hck
      exact ⟨some ⟨g, 0, none⟩, 0, fun w => by go_simp, by omega, fun h => by omega⟩
    · by_cases hc0 : c = 0
      · omega
      · exact ⟨some ⟨g, k, none⟩, c - k, fun w => by go_simp, by omega, fun _ => ⟨g, rfl, rfl⟩⟩
end Go.Proofs.YtdgpbhdihhchgaaGreatDoor

namespace Go.Proofs.YtdgpbhdihhchgaaGreatDoor
set_option linter.all false
set_option maxRecDepth 100000
open Go.RowKit Go.Shelf
set_option linter.unusedVariables false
attribute [local go_sem] Oper.semAt_some
/-- a name of a directory -/
abbrev NmD := { x : ByteArray // x.size ≤ 1048576 }
theorem grown_of_below {w w' : World} (h : Below w.heap.size w w') : w.grownBy w' none := ⟨h.os, h.tape, h.output, h.size, fun i hi _ => h.block i hi⟩
/-- what the iterator reads: the directory at w, and the three boxes -/
structure ItD (w : World) (T : Nat → Prop) (q pd pp pa : Nat) (p a : ByteArray) (W : World) : Prop where
  b : Below w.heap.size w W
  td : T pd
  tp : T pp
  ta : T pa
  tw : ∀ j, j < w.heap.size → T j
  cd : W.cell? ⟨pd, 0, none⟩ = some (.pointer (some ⟨q, 0, none⟩))
  cp : W.cell? ⟨pp, 0, none⟩ = some (.string p)
  ca : W.cell? ⟨pa, 0, none⟩ = some (.string a)
section
variable {w W W' : World} {T : Nat → Prop} {q pd pp pa : Nat} {p a : ByteArray}
theorem ItD.below (h : ItD w T q pd pp pa p a W) (hb : Below W.heap.size W W') : ItD w T q pd pp pa p a W' :=
  ⟨h.b.trans (hb.mono h.b.size), h.td, h.tp, h.ta, h.tw, (hb.cell (lt_of_cellD h.cd)).trans h.cd, (hb.cell (lt_of_cellD h.cp)).trans h.cp, (hb.cell (lt_of_cellD h.ca)).trans h.ca⟩
theorem ItD.stay (h : ItD w T q pd pp pa p a W) (hb : Spare (fun j => ¬ T j) W W') : ItD w T q pd pp pa p a W' :=
  ⟨h.b.trans (hb.below (fun j hj => Nat.le_of_not_lt fun q => hj (h.tw j q)) h.b.size), h.td, h.tp, h.ta, h.tw, (spare_cellD hb (fun q => q h.td) (lt_of_cellD h.cd)).trans h.cd, (spare_cellD hb (fun q => q h.tp) (lt_of_cellD h.cp)).trans h.cp, (spare_cellD hb (fun q => q h.ta) (lt_of_cellD h.ca)).trans h.ca⟩
end
/-- what has been told of the names from place k on, behind j of them -/
noncomputable def toldD (X : List ByteArray) (p : ByteArray) (k j : Nat) : List ByteArray := ((X.drop k).take j).filter (dFit p)
section
variable {X : List ByteArray} {p : ByteArray} {k j : Nat} {x : ByteArray}
theorem toldD_zero : toldD X p k 0 = [] := by unfold toldD; rw [List.take_zero]; rfl
theorem toldD_snoc (hx : X[k + j]? = some x) : toldD X p k (j + 1) = if dFit p x = true then toldD X p k j ++ [x] else toldD X p k j := by
  have h1 : (X.drop k)[j]? = some x := by rw [List.getElem?_drop]; exact hx
  obtain ⟨h2, h3⟩ := List.getElem?_eq_some_iff.1 h1
  unfold toldD
  rw [List.take_succ_eq_append_getElem h2, List.filter_append, h3]
  simp only [List.filter_cons, List.filter_nil]
  split
  · rfl
  · rw [List.append_nil]
theorem toldD_all (h : X.length ≤ k + j) : toldD X p k j = (X.drop k).filter (dFit p) := by
  unfold toldD
  rw [List.take_of_length_le (by rw [List.length_drop]; omega)]
theorem toldD_len : (toldD X p k j).length ≤ j := by
  unfold toldD
  exact Nat.le_trans (List.length_filter_le _ _) (by rw [List.length_take]; omega)
theorem toldD_pre : toldD X p k j <+: (X.drop k).filter (dFit p) := by
  unfold toldD
  exact (List.take_prefix _ _).filter _
end
set_option maxHeartbeats 8000000 in
theorem fitIt_any (n : Nat) (w : World) (base q : Nat) (v : Value) (m : Nat) (D : DataW Unit) (L : List DItem) (d : PDr w base q v m D L) (hb : base ≤ w.heap.size) (htb : TabsD base w) (p a : ByteArray) (hp : p.size ≤ 1048576) (ha : a.size ≤ 1048576) (T : Nat → Prop) (pd pp pa : Nat)
    (l : Nat) (J Jx : List NmD → World → Prop) (W : World) (hJ : AbidesFrom W.heap.size J) (it : ItD w T q pd pp pa p a W)
    (hY : ∀ pre x W1, J pre W1 → pre.length < 4096 → YieldAt Fence.wide n Tryz.prog l #[.string x.1] W1 fun e W' =>
      (e = .returned (.bool true) ∧ J (pre ++ [x]) W' ∧ Spare (fun j => ¬ T j) W1 W') ∨ (e = .returned (.bool false) ∧ Jx (pre ++ [x]) W'))
    (h0 : J [] W) :
    CallsIn Fence.wide (n + 1) Tryz.prog 153 #[.func (.yield l) #[] #[], .pointer (some ⟨pd, 0, none⟩), .pointer (some ⟨pa, 0, none⟩), .pointer (some ⟨pp, 0, none⟩)] W fun e W' => (∃ v, e = .returned v) ∧
      ((∃ xs : List NmD, xs.map (·.1) = dNames L p a ∧ J xs W') ∨ (∃ pre : List NmD, pre.map (·.1) <+: dNames L p a ∧ Jx pre W')) := by
  have hmf : ∀ (fn : Fn) (first cap : Array Value) (w : World), (Instr.makeFunc fn first cap).run Tryz.prog w = .ok (.func fn first cap) w := fun _ _ _ _ => rfl
  obtain ⟨A, c, rfl⟩ := d.len
  have hsm := d.small
  have hkle : dFr L a ≤ L.length := dFr_le
  have hNM : dNames L p a = ((dNm L).drop (dFr L a)).filter (dFit p) := dNames_fr d.ok
  have hshape : L.length ≤ c ∧ c ≤ maxLen ∧ (A = none → c = 0) ∧ ∀ ad, A = some ad → ∃ g, ad = ⟨g, 0, none⟩ := by
    rcases d.row.2 with ⟨h1, h2⟩ | ⟨g, cap, cur, h1, _, _, h3, h4, _⟩
    · injection h1 with e1 e2 e3
      subst e1 e3
      exact ⟨by omega, by unfold maxLen; omega, fun _ => rfl, fun ad h => by cases h⟩
    · injection h1 with e1 e2 e3
      rw [dNm_len] at h3
      subst e1 e3
      exact ⟨h3, h4, (fun h => by cases h), fun ad h => ⟨g, by injection h with h; exact h.symm⟩⟩
  obtain ⟨hnc, hcm, hA0, hA1⟩ := hshape
  obtain ⟨A1, c1, hsl, hnk, hat⟩ := slice_names w A L.length c (dFr L a) hkle hnc hcm hA0 hA1
  have D0 := Lib.hid d
  have k0 : ∀ W, Below w.heap.size w W → W.cell? ⟨q, 0, none⟩ = some (.slice A L.length c) := fun W h => (d.below h).c0
  have CS : Hid (∀ W, ItD w T q pd pp pa p a W → CallsIn Fence.wide n Tryz.prog 144 #[.int .i64 (L.length : Nat), .func (.func 154) #[] #[.pointer (some ⟨pa, 0, none⟩), .pointer (some ⟨pd, 0, none⟩)]] W fun e w' => e = .returned (.int .i64 (dFr L a : Nat)) ∧ Below W.heap.size W w') := fun W it =>
    callsIn_wide.2 (d.frS hb htb a ha W pd pa it.b it.cd it.ca)
  have CF : Hid (∀ W (x : ByteArray), Below w.heap.size w W → x.size ≤ 1048576 → CallsIn Fence.wide n Tryz.prog 151 #[.string p, .string x] W (FitsPost W p.data.toList x.data.toList)) := fun W x h hx => callsIn_wide.2 (Fits_any p x W (by omega) (by omega) (htb.at h hb))
  unfold FitsPost at CF
  obtain ⟨N, hN⟩ : ∃ N, N = L.length := ⟨_, rfl⟩
  obtain ⟨k, hk⟩ : ∃ k, k = dFr L a := ⟨_, rfl⟩
  rw [← hN] at k0 CS hsl hkle hnk hat hsm hnc
  rw [← hk] at CS hsl hkle hnk hat hNM
  have HN := Lib.hid hN
  have HNM := Lib.hid hNM
  have HJ := Lib.hid hJ
  have HY := Lib.hid hY
  have ITW := Lib.hid it
  have J0 := Lib.hid h0
  have HAT := Lib.hid hat
  have K0 := Lib.hid k0
  have k0W := k0 W it.b
  have cdW := it.cd
  have caW := it.ca
  have kT : Hid (∀ W', Below W.heap.size W W' → J [] W' ∧ ItD w T q pd pp pa p a W') := fun W' h => ⟨hJ _ _ _ none h0 (grown_of_below h) (fun r e => by cases e), it.below h⟩
  clear hN hk d htb hb hNM hJ hY it h0 hat k0 hA0 hA1
  refine callsIn_of_wp Tryz.func153 rfl trivial ?_ rfl
  simp only [Tryz.ntmps153, List.size_toArray, List.length_cons, List.length_nil, Nat.reduceAdd, Nat.reduceSub, Array.replicate_succ, Array.replicate_zero, List.push_toArray, List.append_toArray, List.nil_append, List.cons_append]
  gi_wp2_with fail
  refine ⟨trivial, ?_⟩
  refine (CS.out W ITW.out).mono ?_
  rintro e W1 ⟨rfl, l1⟩
  have L1 := Lib.hid l1
  have IT1 := Lib.hid (kT.out W1 l1).2
  have J1 := Lib.hid (kT.out W1 l1).1
  have k01 := K0.out W1 IT1.out.b
  have cd1 := IT1.out.cd
  clear l1 CS kT
  gi_wp2_with fail
  gi_loopw [24] (fun I wr => ∃ (j : Nat) (pre : List NmD), j ≤ N - k ∧ I = .int .i64 (j : Nat) ∧ Hid (pre.map (·.1) = toldD (dNm L) p k j) ∧ Hid (J pre wr) ∧ Hid (ItD w T q pd pp pa p a wr)) (fun I _ => N - k - (intOf I).toNat)
  case atStart => exact ⟨0, [], Nat.zero_le _, rfl, toldD_zero.symm, J1.out, IT1.out⟩
  case round =>
    obtain ⟨j, pre, hj, rfl, TP, JR, IR⟩ := hrel
    by_cases hlt : j < N - k
    · obtain ⟨g, hAg, hA1g⟩ := HAT.out (by omega)
      have hil : k + j < L.length := by have := HN.out; omega
      obtain ⟨g', c', e, _, _, k4⟩ := (D0.out.below IR.out.b).at hil
      rw [hAg] at e
      injection e with e1 e2 e3
      injection e1 with e1
      injection e1 with e1
      subst e1
      have hxs : L[k + j].1.size ≤ 1048576 := D0.out.text _ (List.getElem_mem hil)
      have hX : (dNm L)[k + j]? = some L[k + j].1 := dNm_get hil
      obtain ⟨x, hx⟩ : ∃ x, x = L[k + j].1 := ⟨_, rfl⟩
      rw [← hx] at k4 hxs hX
      have cpr := IR.out.cp
      have hSN := Lib.hid (toldD_snoc (p := p) hX)
      have hpl : pre.length ≤ j := by
        have := congrArg List.length TP.out
        rw [List.length_map] at this
        rw [this]
        exact toldD_len
      have CF1 := Lib.hid (CF.out wr x IR.out.b hxs)
      obtain ⟨z, hz⟩ : ∃ z, z = fitsOf p.data.toList x.data.toList := ⟨_, rfl⟩
      obtain ⟨er, her⟩ : ∃ e, e = patErr p.data.toList x.data.toList := ⟨_, rfl⟩
      rw [← hz, ← her] at CF1
      have hz' : dFit p x = z := hz.symm
      rw [hz'] at hSN
      subst hA1g
      clear hz hz' her hX hx e2 e3 hAg
      gi_wp2_with fail
      refine ⟨trivial, ?_⟩
      refine CF1.out.mono ?_
      rintro e W2 ⟨rfl, l2⟩
      have IT2 := Lib.hid (IR.out.below l2)
      have J2 := Lib.hid (HJ.out _ _ _ none JR.out (grown_of_below l2) (fun r e => by cases e))
      clear l2 CF1
      cases z with
      | false =>
        rw [if_neg (by decide)] at hSN
        gi_wp2_with fail
        refine ⟨fun _ h => (by cases h), ?_⟩
        gi_wp2_with fail
        go_roundw
        case rel => exact ⟨j + 1, pre, by omega, by go_num, TP.out.trans hSN.out.symm, J2.out, IT2.out⟩
        case measure => simp [intOf]; omega
      | true =>
        rw [if_pos rfl] at hSN
        obtain ⟨fn, tmps, assign, body, hy, hR⟩ := HY.out pre ⟨x, hxs⟩ W2 J2.out (by omega)
        dsimp only at hy
        have HR := Lib.hid hR
        have hpx : Hid ((pre ++ [(⟨x, hxs⟩ : NmD)]).map (·.1) = toldD (dNm L) p k (j + 1)) := by
          show _ = _
          rw [List.map_append, TP.out, hSN.out]
          rfl
        clear hR
        gi_wp2_with fail
        refine HR.out.mono ?_
        rintro e W3 (⟨rfl, hJ3, hk3⟩ | ⟨rfl, hJx3⟩)
        · have J3 := Lib.hid hJ3
          have IT3 := Lib.hid (IT2.out.stay hk3)
          clear hJ3 hk3
          gi_wp2_with fail
          go_roundw
          case rel => exact ⟨j + 1, _, by omega, by go_num, hpx.out, J3.out, IT3.out⟩
          case measure => simp [intOf]; omega
        · have J3 := Lib.hid hJx3
          clear hJx3
          gi_wp2_with fail
          refine bodyPost_ret (results_none rfl _ _ _) rfl ?_
          exact ⟨⟨_, rfl⟩, .inr ⟨_, by rw [hpx.out, HNM.out]; exact toldD_pre, J3.out⟩⟩
    · obtain rfl : j = N - k := by omega
      gi_wp2_with fail
      go_end0
      exact ⟨⟨_, rfl⟩, .inl ⟨pre, by rw [TP.out, HNM.out]; exact toldD_all (by rw [dNm_len]; have := HN.out; omega), JR.out⟩⟩
end Go.Proofs.YtdgpbhdihhchgaaGreatDoor

namespace Go.Proofs.YtdgpbhdihhchgaaGreatDoor
set_option linter.all false
set_option maxRecDepth 100000
open Go.RowKit
set_option linter.unusedVariables false
theorem owns_look1 {w : World} {m N : Nat} {D : DataW Unit} (h : w.ownsMap Tryz.prog 9 (plainElem Tryz.prog 3) m N D) (s : ByteArray) (hs : s.size ≤ 1048576) : (Instr.lookup 136 (.map (some m)) (.string (foldT s)) false).run Tryz.prog w = .ok (.int .i64 (numD D s)) w := by
  obtain ⟨u, ps, hrun, hu⟩ := h.lookup dir_keyed Tryz.underlying136 (dir_zero w) (plainElem_int (H := Unit) Tryz.underlying3 (a := 0) (by decide)) (dir_key hs)
  obtain ⟨c, rfl, hc, _⟩ := plainElem_int_inv Tryz.underlying3 hu
  rw [hrun, numD_of (congrArg Prod.fst hc)]
structure MpC (w : World) (q m N : Nat) (D : DataW Unit) : Prop where
  c1 : w.cell? ⟨q, 1, none⟩ = some (.map (some m))
  map : w.ownsMap Tryz.prog 9 (plainElem Tryz.prog 3) m N D
theorem MpC.below {w w' : World} {q m N : Nat} {D : DataW Unit} (h : MpC w q m N D) (hb : Below w.heap.size w w') : MpC w' q m N D := ⟨(hb.cell (lt_of_cellD h.c1)).trans h.c1, owns_same h.map (hb.block m h.map.lt)⟩
structure FnC (w : World) (q g n c k : Nat) (x : ByteArray) (m N : Nat) (D : DataW Unit) : Prop where
  c0 : w.cell? ⟨q, 0, none⟩ = some (.slice (some ⟨g, 0, none⟩) n c)
  c1 : w.cell? ⟨q, 1, none⟩ = some (.map (some m))
  c4 : w.cell? ⟨g, k, none⟩ = some (.string x)
  map : w.ownsMap Tryz.prog 9 (plainElem Tryz.prog 3) m N D
theorem FnC.below {w w' : World} {q g n c k : Nat} {x : ByteArray} {m N : Nat} {D : DataW Unit} (h : FnC w q g n c k x m N D) (hb : Below w.heap.size w w') : FnC w' q g n c k x m N D :=
  ⟨(hb.cell (lt_of_cellD h.c0)).trans h.c0, (hb.cell (lt_of_cellD h.c1)).trans h.c1, (hb.cell (lt_of_cellD h.c4)).trans h.c4, owns_same h.map (hb.block m h.map.lt)⟩
theorem Turned15.over {w w2 w' : World} {base q m : Nat} {v v' : Value} {L' : List DItem} {D' : DataW Unit} (t : Turned15 w2 base q m v L' w' v' D') (hb : Below w.heap.size w w2) : Turned15 w base q m v L' w' v' D' :=
  ⟨t.d, (Spare.of_over (pdrS q m v) hb).trans t.a fun j _ h => h, fun j hj => by
    rcases t.n j hj with h | h
    · exact .inl h
    · exact .inr (Nat.le_trans hb.size h)⟩
set_option maxHeartbeats 4000000 in
theorem DFind_any (w : World) (base q : Nat) (v : Value) (m : Nat) (D : DataW Unit) (L : List DItem) (d : PDr w base q v m D L) (hb : base ≤ w.heap.size) (htb : TabsD base w) (s : ByteArray) (hs : s.size ≤ 1048576) :
    Calls Tryz.prog 42 #[.pointer (some ⟨q, 0, none⟩), .string s] w fun e w' => e = .returned (.tuple #[.int .i64 (dFind L s).2, .string (dFind L s).1, .int .i64 (dFindE L s)]) ∧ Below w.heap.size w w' := by
  have hE : dFindE L s = if dBad s = true then 5 else if dHas L s = true then 0 else 7 := rfl
  have hF : dFindE L s ≠ 0 → dFind L s = (.empty, 0) := dFind_no
  have CN := Lib.hid (DNone_any w q m d.c1)
  have TB : Hid (∀ w', Below w.heap.size w w' → Tabs w') := fun w' hb' => htb.at hb' hb
  have CM : Hid (∀ w', Below w.heap.size w w' → Calls Tryz.prog 92 #[.string s] w' fun e w2 => e = .returned (.bool (!dBad s)) ∧ Below w'.heap.size w' w2) := fun w' hb' => DName_any s w' hs (htb.at hb' hb)
  have CH : Hid (∀ w', Below w.heap.size w w' → Calls Tryz.prog 93 #[.pointer (some ⟨q, 0, none⟩), .string s] w' fun e w2 => e = .returned (.bool (dHas L s)) ∧ Below w'.heap.size w' w2) := fun w' hb' => DHas_any w' base q v m D L (d.below hb') (Nat.le_trans hb hb'.size) (htb.next (hb'.mono hb)) s hs
  have SAME : Hid (∀ w', Below w.heap.size w w' → ∃ v' D', Turned15 w base q m v L w' v' D') := fun w' h => ⟨v, D, d.below h, Spare.of_over _ h, fun j hj => .inl hj⟩
  have D0 := Lib.hid d
  obtain ⟨b, hbb⟩ : ∃ b, b = dBad s := ⟨_, rfl⟩
  obtain ⟨z, hz⟩ : ∃ z, z = dHas L s := ⟨_, rfl⟩
  rw [← hbb] at hE CM
  rw [← hz] at hE CH
  cases b with
  | true =>
    rw [if_pos rfl] at hE
    rw [hF (by rw [hE]; decide), hE]
    clear hE hF d hbb htb hz
    go_enter Tryz.func42, Tryz.ntmps42
    go_wp2_with fail
    refine CN.out.mono ?_
    rintro e w0 ⟨rfl, rfl⟩
    go_wp2_with fail
    refine (CM.out _ (Below.refl _ _)).mono ?_
    rintro e w1 ⟨rfl, l1⟩
    have L1 := Lib.hid (l1)
    clear l1
    go_wp2_with fail
    go_ret3
    exact ⟨rfl, L1.out⟩
  | false =>
    rw [if_neg (by decide)] at hE
    cases z with
    | false =>
      rw [if_neg (by decide)] at hE
      rw [hF (by rw [hE]; decide), hE]
      clear hE hF d hbb htb hz
      go_enter Tryz.func42, Tryz.ntmps42
      go_wp2_with fail
      refine CN.out.mono ?_
      rintro e w0 ⟨rfl, rfl⟩
      go_wp2_with fail
      refine (CM.out _ (Below.refl _ _)).mono ?_
      rintro e w1 ⟨rfl, l1⟩
      have L1 := Lib.hid (l1)
      clear l1
      go_wp2_with fail
      refine (CH.out _ L1.out).mono ?_
      rintro e w2 ⟨rfl, l1⟩
      have L2 := Lib.hid ((L1.out).trans (l1.mono (Below.size L1.out)))
      clear l1
      go_wp2_with fail
      go_ret3
      exact ⟨rfl, L2.out⟩
    | true =>
      rw [if_pos rfl] at hE
      have hlt := dPl_lt d.ok hE
      have hfd := dFind_pl d.ok hE
      have hnm := d.num hE
      obtain ⟨g, c, rfl, _, _, k4⟩ := d.at hlt
      have hx : (L[dPl L s]'hlt).1.size ≤ 1048576 := d.text _ (List.getElem_mem hlt)
      have CP : Hid (∀ w', Below w.heap.size w w' → Calls Tryz.prog 95 #[.pointer (some ⟨q, 0, none⟩), .string s] w' fun e w2 => e = .returned (.int .i64 (dPl L s : Nat)) ∧ Below w'.heap.size w' w2) := fun w' hb' => DPlace_any w' base q _ m D L (d.below hb') (Nat.le_trans hb hb'.size) (htb.next (hb'.mono hb)) s hs
      rw [hE, ← hnm, hfd]
      have FC0 : FnC w q g L.length c (dPl L s) (L[dPl L s]'hlt).1 m L.length D := ⟨d.c0, d.c1, k4, d.map⟩
      have hsm := d.small
      obtain ⟨x, hxx⟩ : ∃ x, x = (L[dPl L s]'hlt).1 := ⟨_, rfl⟩
      rw [← hxx] at FC0 hx ⊢
      clear hxx hfd k4 hnm
      obtain ⟨n, hn⟩ : ∃ n, n = L.length := ⟨_, rfl⟩
      obtain ⟨k, hk⟩ : ∃ k, k = dPl L s := ⟨_, rfl⟩
      rw [← hn, ← hk] at FC0 hlt
      rw [← hk] at CP
      rw [← hn] at hsm
      have FC : Hid (∀ w', Below w.heap.size w w' → FnC w' q g n c k x m n D) := fun w' h => FC0.below h
      clear hE hF d hbb htb hz hn hk FC0 SAME D0
      go_enter Tryz.func42, Tryz.ntmps42
      go_wp2_with fail
      refine CN.out.mono ?_
      rintro e w0 ⟨rfl, rfl⟩
      go_wp2_with fail
      refine (CM.out _ (Below.refl _ _)).mono ?_
      rintro e w1 ⟨rfl, l1⟩
      have L1 := Lib.hid (l1)
      clear l1
      go_wp2_with fail
      refine (CH.out _ L1.out).mono ?_
      rintro e w2 ⟨rfl, l1⟩
      have L2 := Lib.hid ((L1.out).trans (l1.mono (Below.size L1.out)))
      clear l1
      go_upto_region 7 with fail
      refine wp_region_held (S := fun w' => FnC w' q g n c k x m n D) (by kernel_rfl) ?_
      change wpAnyH _ _ _ _ _ _ _ _ w2.drew
      have Sr0 : Hid (FnC w2.drew q g n c k x m n D) := (FC.out _ L2.out).below (Below.refl _ _).drew
      have br0 : Hid (Below w.heap.size w w2.drew) := L2.out.drew
      refine wpAnyH_take (i := 0) (v := _) rfl (by kernel_rfl) (by kernel_rfl) (by kernel_rfl) (fun _ _ _ h => h) (yieldsIf_move (by kernel_rfl) (.tmp 0) rfl (.pointer (some ⟨q, 0, none⟩)) (by kernel_rfl)) Sr0.out ?_
      refine wpAnyH_take (i := 1) (v := _) rfl (by kernel_rfl) (by kernel_rfl) (by kernel_rfl) (fun _ _ _ h => h) (yieldsIf_nil (by kernel_rfl) (.tmp 19) rfl ⟨q, 0, none⟩ (by kernel_rfl)) Sr0.out ?_
      refine wpAnyH_take (i := 2) (v := _) rfl (by kernel_rfl) (by kernel_rfl) (by kernel_rfl) (fun _ _ _ h => h) (yieldsIf_fld (by kernel_rfl) _ (.tmp 20) 1 rfl (.pointer (some ⟨q, 0, none⟩)) (.pointer (some ⟨q, 1, none⟩)) (by kernel_rfl) (fun w => by go_simp)) Sr0.out ?_
      refine wpAnyH_take (i := 3) (v := _) rfl (by kernel_rfl) (by kernel_rfl) (by kernel_rfl) (fun _ _ _ h => h) (yieldsIf_load_one (by kernel_rfl) _ (.tmp 21) rfl q (1) (by kernel_rfl) (.map (some m)) (fun _ h => h.c1) _ Tryz.underlying136 rfl) Sr0.out ?_
      refine wpAnyH_take (i := 4) (v := _) rfl (by kernel_rfl) (by kernel_rfl) (by kernel_rfl) (fun _ _ _ h => h) (yieldsIf_move (by kernel_rfl) (.tmp 1) rfl (.string s) (by kernel_rfl)) Sr0.out ?_
      refine wpAnyH_take (i := 7) (v := _) rfl (by kernel_rfl) (by kernel_rfl) (by kernel_rfl) (fun _ _ _ h => h) (yieldsIf_move (by kernel_rfl) (.tmp 0) rfl (.pointer (some ⟨q, 0, none⟩)) (by kernel_rfl)) Sr0.out ?_
      refine wpAnyH_take (i := 8) (v := _) rfl (by kernel_rfl) (by kernel_rfl) (by kernel_rfl) (fun _ _ _ h => h) (yieldsIf_nil (by kernel_rfl) (.tmp 26) rfl ⟨q, 0, none⟩ (by kernel_rfl)) Sr0.out ?_
      refine wpAnyH_take (i := 9) (v := _) rfl (by kernel_rfl) (by kernel_rfl) (by kernel_rfl) (fun _ _ _ h => h) (yieldsIf_fld (by kernel_rfl) _ (.tmp 27) 0 rfl (.pointer (some ⟨q, 0, none⟩)) (.pointer (some ⟨q, 0, none⟩)) (by kernel_rfl) (fun w => by go_simp)) Sr0.out ?_
      refine wpAnyH_take (i := 10) (v := _) rfl (by kernel_rfl) (by kernel_rfl) (by kernel_rfl) (fun _ _ _ h => h) (yieldsIf_load_one (by kernel_rfl) _ (.tmp 28) rfl q (0) (by kernel_rfl) (.slice (some ⟨g, 0, none⟩) n c) (fun _ h => h.c0) _ Tryz.underlying78 rfl) Sr0.out ?_
      refine wpAnyH_take (i := 11) (v := _) rfl (by kernel_rfl) (by kernel_rfl) (by kernel_rfl) (fun _ _ _ h => h) (yieldsIf_move (by kernel_rfl) (.tmp 0) rfl (.pointer (some ⟨q, 0, none⟩)) (by kernel_rfl)) Sr0.out ?_
      refine wpAnyH_take (i := 12) (v := _) rfl (by kernel_rfl) (by kernel_rfl) (by kernel_rfl) (fun _ _ _ h => h) (yieldsIf_move (by kernel_rfl) (.tmp 1) rfl (.string s) (by kernel_rfl)) Sr0.out ?_
      refine wpAnyH_one 5 _ (by kernel_rfl) rfl fun K hK => ?_
      go_simp
      refine (Fold1_any s _ hs (TB.out _ br0.out)).mono ?_
      rintro e vr1 ⟨rfl, l1⟩
      have Sr1 : Hid (FnC vr1 q g n c k x m n D) := FnC.below Sr0.out l1
      have br1 : Hid (Below w.heap.size w vr1) := Below.trans br0.out (l1.mono (Below.size br0.out))
      refine hK _ _ Sr1.out ?_
      clear hK K l1
      refine wpAnyH_take (i := 6) (v := .int .i64 (numD D s)) rfl (by kernel_rfl) (by kernel_rfl) (by kernel_rfl) (fun _ _ _ h => h) (yieldsIf_look (by kernel_rfl) _ (.tmp 22) (.tmp 24) false rfl (.map (some m)) (.string (foldT s)) (by kernel_rfl) (by kernel_rfl) (fun w' h => owns_look1 h.map s hs)) Sr1.out ?_
      refine wpAnyH_one 13 _ (by kernel_rfl) rfl fun K hK => ?_
      go_simp
      refine (CP.out _ br1.out).mono ?_
      rintro e vr2 ⟨rfl, l1⟩
      have Sr2 : Hid (FnC vr2 q g n c k x m n D) := FnC.below Sr1.out l1
      have br2 : Hid (Below w.heap.size w vr2) := Below.trans br1.out (l1.mono (Below.size br1.out))
      refine hK _ _ Sr2.out ?_
      clear hK K l1
      refine wpAnyH_take (i := 14) (v := .pointer (some ⟨g, k, none⟩)) rfl (by kernel_rfl) (by kernel_rfl) (by kernel_rfl) (fun _ _ _ h => h) (.inl ⟨by kernel_rfl, fun w _ => by go_simp⟩) Sr2.out ?_
      refine wpAnyH_take (i := 15) (v := _) rfl (by kernel_rfl) (by kernel_rfl) (by kernel_rfl) (fun _ _ _ h => h) (yieldsIf_load_one (by kernel_rfl) _ (.tmp 33) rfl g (k) (by kernel_rfl) (.string x) (fun _ h => h.c4) _ Tryz.underlying9 rfl) Sr2.out ?_
      refine wpAnyH_one 16 _ (by kernel_rfl) rfl fun K hK => ?_
      go_simp
      refine (SClone_any x _ hx).mono ?_
      rintro e vr3 ⟨rfl, l1⟩
      have Sr3 : Hid (FnC vr3 q g n c k x m n D) := FnC.below Sr2.out l1
      have br3 : Hid (Below w.heap.size w vr3) := Below.trans br2.out (l1.mono (Below.size br2.out))
      refine hK _ _ Sr3.out ?_
      clear hK K l1
      refine wpAnyH_take (i := 17) (v := _) rfl (by kernel_rfl) (by kernel_rfl) (by kernel_rfl) (fun _ _ _ h => h) (yieldsIf_asg (by kernel_rfl) (.tmp 25) rfl (.int .i64 (numD D s)) (by kernel_rfl)) Sr3.out ?_
      refine wpAnyH_take (i := 18) (v := _) rfl (by kernel_rfl) (by kernel_rfl) (by kernel_rfl) (fun _ _ _ h => h) (yieldsIf_asg (by kernel_rfl) (.tmp 35) rfl (.string x) (by kernel_rfl)) Sr3.out ?_
      refine wpAnyH_one 19 _ (by kernel_rfl) rfl fun K hK => ?_
      go_simp
      refine hK _ _ Sr3.out ?_
      clear hK K
      refine wpAnyH_done (by kernel_rfl) ?_ _
      go_wp2_with fail
      go_ret3
      exact ⟨rfl, br3.out⟩
set_option maxHeartbeats 4000000 in
theorem DAdd_any (w : World) (base q : Nat) (v : Value) (m : Nat) (D : DataW Unit) (L : List DItem) (d : PDr w base q v m D L) (hb : base ≤ w.heap.size) (htb : TabsD base w) (s : ByteArray) (hs : s.size ≤ 1048576) (n : Int) (hn : I64D n) (hL : L.length < 4096) :
    Calls Tryz.prog 119 #[.pointer (some ⟨q, 0, none⟩), .string s, .int .i64 n] w (TPost15 w base q m v (dAdd L s n) (.int .i64 (dAddE L s))) := by
  have hE : dAddE L s = if dBad s = true then 5 else if dHas L s = true then 8 else 0 := rfl
  have hF : dAddE L s ≠ 0 → dAdd L s n = L := fun h => if_neg h
  unfold TPost15
  have CN := Lib.hid (DNone_any w q m d.c1)
  have TB : Hid (∀ w', Below w.heap.size w w' → Tabs w') := fun w' hb' => htb.at hb' hb
  have CM : Hid (∀ w', Below w.heap.size w w' → Calls Tryz.prog 92 #[.string s] w' fun e w2 => e = .returned (.bool (!dBad s)) ∧ Below w'.heap.size w' w2) := fun w' hb' => DName_any s w' hs (htb.at hb' hb)
  have CH : Hid (∀ w', Below w.heap.size w w' → Calls Tryz.prog 93 #[.pointer (some ⟨q, 0, none⟩), .string s] w' fun e w2 => e = .returned (.bool (dHas L s)) ∧ Below w'.heap.size w' w2) := fun w' hb' => DHas_any w' base q v m D L (d.below hb') (Nat.le_trans hb hb'.size) (htb.next (hb'.mono hb)) s hs
  have SAME : Hid (∀ w', Below w.heap.size w w' → ∃ v' D', Turned15 w base q m v L w' v' D') := fun w' h => ⟨v, D, d.below h, Spare.of_over _ h, fun j hj => .inl hj⟩
  have D0 := Lib.hid d
  obtain ⟨b, hbb⟩ : ∃ b, b = dBad s := ⟨_, rfl⟩
  obtain ⟨z, hz⟩ : ∃ z, z = dHas L s := ⟨_, rfl⟩
  rw [← hbb] at hE CM
  rw [← hz] at hE CH
  cases b with
  | true =>
    rw [if_pos rfl] at hE
    rw [hF (by rw [hE]; decide), hE]
    clear hE hF d hbb htb hz
    go_enter Tryz.func119, Tryz.ntmps119
    go_wp2_with fail
    refine CN.out.mono ?_
    rintro e w0 ⟨rfl, rfl⟩
    go_wp2_with fail
    refine (CM.out _ (Below.refl _ _)).mono ?_
    rintro e w1 ⟨rfl, l1⟩
    have L1 := Lib.hid (l1)
    clear l1
    go_wp2_with fail
    go_ret
    exact ⟨rfl, SAME.out _ L1.out⟩
  | false =>
    rw [if_neg (by decide)] at hE
    cases z with
    | true =>
      rw [if_pos rfl] at hE
      rw [hF (by rw [hE]; decide), hE]
      clear hE hF d hbb htb hz
      go_enter Tryz.func119, Tryz.ntmps119
      go_wp2_with fail
      refine CN.out.mono ?_
      rintro e w0 ⟨rfl, rfl⟩
      go_wp2_with fail
      refine (CM.out _ (Below.refl _ _)).mono ?_
      rintro e w1 ⟨rfl, l1⟩
      have L1 := Lib.hid (l1)
      clear l1
      go_wp2_with fail
      refine (CH.out _ L1.out).mono ?_
      rintro e w2 ⟨rfl, l1⟩
      have L2 := Lib.hid ((L1.out).trans (l1.mono (Below.size L1.out)))
      clear l1
      go_wp2_with fail
      go_ret
      exact ⟨rfl, SAME.out _ L2.out⟩
    | false =>
      rw [if_neg (by decide)] at hE
      have hA : dAdd L s n = dPut L s n := by unfold dAdd; rw [if_pos hE]
      rw [hE, hA]
      have CU : Hid (∀ w', Below w.heap.size w w' → Calls Tryz.prog 164 #[.pointer (some ⟨q, 0, none⟩), .string s, .int .i64 n] w' (TPost15 w' base q m v (dPut L s n) (.tuple #[]))) := fun w' hb' => DPut_any w' base q v m D L (d.below hb') (Nat.le_trans hb hb'.size) (htb.next (hb'.mono hb)) s hs n hn hbb.symm hz.symm hL
      obtain ⟨L', hL'⟩ : ∃ L', L' = dPut L s n := ⟨_, rfl⟩
      rw [← hL'] at CU ⊢
      clear hE hF hA d hbb htb hz hL' SAME D0
      go_enter Tryz.func119, Tryz.ntmps119
      go_wp2_with fail
      refine CN.out.mono ?_
      rintro e w0 ⟨rfl, rfl⟩
      go_wp2_with fail
      refine (CM.out _ (Below.refl _ _)).mono ?_
      rintro e w1 ⟨rfl, l1⟩
      have L1 := Lib.hid (l1)
      clear l1
      go_wp2_with fail
      refine (CH.out _ L1.out).mono ?_
      rintro e w2 ⟨rfl, l1⟩
      have L2 := Lib.hid ((L1.out).trans (l1.mono (Below.size L1.out)))
      clear l1
      go_wp2_with fail
      refine (CU.out _ L2.out).mono ?_
      rintro e w3 ⟨rfl, v', D', t⟩
      have TT := Lib.hid t
      clear t
      go_wp2_with fail
      go_ret
      exact ⟨rfl, v', D', TT.out.over L2.out⟩
set_option maxHeartbeats 4000000 in
theorem DRemove_any (w : World) (base q : Nat) (v : Value) (m : Nat) (D : DataW Unit) (L : List DItem) (d : PDr w base q v m D L) (hb : base ≤ w.heap.size) (htb : TabsD base w) (s : ByteArray) (hs : s.size ≤ 1048576) :
    Calls Tryz.prog 118 #[.pointer (some ⟨q, 0, none⟩), .string s] w (TPost15 w base q m v (dRem L s) (.int .i64 (dFindE L s))) := by
  have hE : dFindE L s = if dBad s = true then 5 else if dHas L s = true then 0 else 7 := rfl
  have hF : dFindE L s ≠ 0 → dRem L s = L := fun h => if_neg h
  unfold TPost15
  have CN := Lib.hid (DNone_any w q m d.c1)
  have TB : Hid (∀ w', Below w.heap.size w w' → Tabs w') := fun w' hb' => htb.at hb' hb
  have CM : Hid (∀ w', Below w.heap.size w w' → Calls Tryz.prog 92 #[.string s] w' fun e w2 => e = .returned (.bool (!dBad s)) ∧ Below w'.heap.size w' w2) := fun w' hb' => DName_any s w' hs (htb.at hb' hb)
  have CH : Hid (∀ w', Below w.heap.size w w' → Calls Tryz.prog 93 #[.pointer (some ⟨q, 0, none⟩), .string s] w' fun e w2 => e = .returned (.bool (dHas L s)) ∧ Below w'.heap.size w' w2) := fun w' hb' => DHas_any w' base q v m D L (d.below hb') (Nat.le_trans hb hb'.size) (htb.next (hb'.mono hb)) s hs
  have SAME : Hid (∀ w', Below w.heap.size w w' → ∃ v' D', Turned15 w base q m v L w' v' D') := fun w' h => ⟨v, D, d.below h, Spare.of_over _ h, fun j hj => .inl hj⟩
  have D0 := Lib.hid d
  obtain ⟨b, hbb⟩ : ∃ b, b = dBad s := ⟨_, rfl⟩
  obtain ⟨z, hz⟩ : ∃ z, z = dHas L s := ⟨_, rfl⟩
  rw [← hbb] at hE CM
  rw [← hz] at hE CH
  cases b with
  | true =>
    rw [if_pos rfl] at hE
    rw [hF (by rw [hE]; decide), hE]
    clear hE hF d hbb htb hz
    go_enter Tryz.func118, Tryz.ntmps118
    go_wp2_with fail
    refine CN.out.mono ?_
    rintro e w0 ⟨rfl, rfl⟩
    go_wp2_with fail
    refine (CM.out _ (Below.refl _ _)).mono ?_
    rintro e w1 ⟨rfl, l1⟩
    have L1 := Lib.hid (l1)
    clear l1
    go_wp2_with fail
    go_ret
    exact ⟨rfl, SAME.out _ L1.out⟩
  | false =>
    rw [if_neg (by decide)] at hE
    cases z with
    | false =>
      rw [if_neg (by decide)] at hE
      rw [hF (by rw [hE]; decide), hE]
      clear hE hF d hbb htb hz
      go_enter Tryz.func118, Tryz.ntmps118
      go_wp2_with fail
      refine CN.out.mono ?_
      rintro e w0 ⟨rfl, rfl⟩
      go_wp2_with fail
      refine (CM.out _ (Below.refl _ _)).mono ?_
      rintro e w1 ⟨rfl, l1⟩
      have L1 := Lib.hid (l1)
      clear l1
      go_wp2_with fail
      refine (CH.out _ L1.out).mono ?_
      rintro e w2 ⟨rfl, l1⟩
      have L2 := Lib.hid ((L1.out).trans (l1.mono (Below.size L1.out)))
      clear l1
      go_wp2_with fail
      go_ret
      exact ⟨rfl, SAME.out _ L2.out⟩
    | true =>
      rw [if_pos rfl] at hE
      have CU : Hid (∀ w', Below w.heap.size w w' → Calls Tryz.prog 163 #[.pointer (some ⟨q, 0, none⟩), .string s] w' (TPost15 w' base q m v (dRem L s) (.tuple #[]))) := fun w' hb' => DDrop_any w' base q v m D L (d.below hb') (Nat.le_trans hb hb'.size) (htb.next (hb'.mono hb)) s hs hE
      rw [hE]
      obtain ⟨L', hL'⟩ : ∃ L', L' = dRem L s := ⟨_, rfl⟩
      rw [← hL'] at CU ⊢
      clear hE hF d hbb htb hz hL' SAME D0
      go_enter Tryz.func118, Tryz.ntmps118
      go_wp2_with fail
      refine CN.out.mono ?_
      rintro e w0 ⟨rfl, rfl⟩
      go_wp2_with fail
      refine (CM.out _ (Below.refl _ _)).mono ?_
      rintro e w1 ⟨rfl, l1⟩
      have L1 := Lib.hid (l1)
      clear l1
      go_wp2_with fail
      refine (CH.out _ L1.out).mono ?_
      rintro e w2 ⟨rfl, l1⟩
      have L2 := Lib.hid ((L1.out).trans (l1.mono (Below.size L1.out)))
      clear l1
      go_wp2_with fail
      refine (CU.out _ L2.out).mono ?_
      rintro e w3 ⟨rfl, v', D', t⟩
      have TT := Lib.hid t
      clear t
      go_wp2_with fail
      go_ret
      exact ⟨rfl, v', D', TT.out.over L2.out⟩
end Go.Proofs.YtdgpbhdihhchgaaGreatDoor

namespace Go.Proofs.YtdgpbhdihhchgaaGreatDoor
set_option linter.all false
set_option maxRecDepth 100000
open Go.RowKit
set_option linter.unusedVariables false
section
variable {P : Program} {w : World} {ops : Array Oper} {rest : List Oper} {o : Oper} {a : Act} {Q : Exit → Act → World → Prop}
theorem wpList_alloc_oneD (hg : o.guard = none) (T : TypeId) (ho : o.op = .alloc T) (z : Value) (hi : (P.info? T).map (fun i => (i.zero, i.size)) = some (some z, 1)) (hz : z.cells = #[z])
    (h : ∀ g w', w.heap.size ≤ g → g < w'.heap.size → Hid (Blk w' g T [z]) → Hid (Below w.heap.size w w') → wpList P ops Q rest (a.put o.dst (.pointer (some ⟨g, 0, none⟩))) w') : wpList P ops Q (o :: rest) a w := by
  refine wpList_plain hg fun K hK => ?_
  unfold Oper.wp execOp
  have hz0 := (zero_of_info hi).1
  simp only [ho, Sem.run_bind, Instr.alloc, hz0, newVar, newRow, hz, run_newObj_alloc, Sem.run_pure, Result.andThen_ok]
  refine hK _ _ (h _ _ (Nat.le_refl _) (by simp) ?_ ((Below.refl _ _).alloc (Nat.le_refl _) _))
  exact Blk.new w T [z]
end
theorem boxes4 {w w1 w2 w3 w4 : World} {p7 p8 p9 p10 : Nat} {T7 T8 T9 T10 : TypeId} {a7 a8 a9 a10 : List Value} {ad : Addr} {u : Value} (g7 : w.heap.size ≤ p7) (h7 : p7 < w1.heap.size) (B7 : Hid (Blk w1 p7 T7 a7)) (L1 : Hid (Below w.heap.size w w1)) (g8 : w1.heap.size ≤ p8) (h8 : p8 < w2.heap.size) (B8 : Hid (Blk w2 p8 T8 a8)) (L2 : Hid (Below w1.heap.size w1 w2))
    (g9 : w2.heap.size ≤ p9) (h9 : p9 < w3.heap.size) (B9 : Hid (Blk w3 p9 T9 a9)) (L3 : Hid (Below w2.heap.size w2 w3)) (g10 : w3.heap.size ≤ p10) (h10 : p10 < w4.heap.size) (B10 : Hid (Blk w4 p10 T10 a10)) (L4 : Hid (Below w3.heap.size w3 w4)) (k0 : w.cell? ad = some u) :
    Hid (Below w.heap.size w w4) ∧ Hid (Blk w4 p7 T7 a7) ∧ Hid (Blk w4 p8 T8 a8) ∧ Hid (Blk w4 p9 T9 a9) ∧ Hid (Blk w4 p10 T10 a10) ∧ Hid (p9 ≠ p8 ∧ p10 ≠ p8 ∧ p7 ≠ p8) ∧ Hid (p8 ≠ p9 ∧ p10 ≠ p9 ∧ p7 ≠ p9) ∧ Hid (p8 ≠ p10 ∧ p9 ≠ p10 ∧ p7 ≠ p10) ∧ Hid (w4.cell? ad = some u) := by
  have q2 := L1.out.trans (L2.out.mono L1.out.size)
  have q3 := q2.trans (L3.out.mono q2.size)
  have q4 := q3.trans (L4.out.mono q3.size)
  have s2 := L2.out.size
  have s3 := L3.out.size
  exact ⟨q4, ((B7.out.over L2.out).over L3.out).over L4.out, (B8.out.over L3.out).over L4.out, B9.out.over L4.out, B10.out, (by show _ ∧ _ ∧ _; omega), (by show _ ∧ _ ∧ _; omega), (by show _ ∧ _ ∧ _; omega), (q4.cell (lt_of_cellD k0)).trans k0⟩
theorem below_three {w v v1 v2 v3 : World} {p8 p9 p10 : Nat} (h : Below w.heap.size w v) (P1 : Only p8 v v1) (P2 : Only p9 v1 v2) (P3 : Only p10 v2 v3) (h8 : w.heap.size ≤ p8) (h9 : w.heap.size ≤ p9) (h10 : w.heap.size ≤ p10) : Below w.heap.size w v3 :=
  h.trans (((P1.below h8).trans (P2.below h9)).trans (P3.below h10))
set_option maxHeartbeats 8000000 in
theorem DList_err (w : World) (base q : Nat) (v : Value) (m : Nat) (D : DataW Unit) (L : List DItem) (d : PDr w base q v m D L) (hb : base ≤ w.heap.size) (htb : TabsD base w) (p a : ByteArray) (hp : p.size ≤ 1048576) (ha : a.size ≤ 1048576) (mo : Int) (E : Int) (hE : dListE L p a mo = E) (h0 : E ≠ 0) :
    Calls Tryz.prog 54 #[.pointer (some ⟨q, 0, none⟩), .string p, .string a, .int .i64 mo] w (LsPost w [] false E) := by
  rw [dListE_glob] at hE
  have k0 : w.cell? ⟨q, 1, none⟩ = some (.map (some m)) := d.c1
  have CN : Hid (∀ w', Below w.heap.size w w' → Calls Tryz.prog 91 #[.pointer (some ⟨q, 0, none⟩)] w' fun e w2 => e = .returned (.bool false) ∧ w' = w2) := fun w' h => DNone_any w' q m (d.below h).c1
  have CG : Hid (∀ w', Below w.heap.size w w' → Calls Tryz.prog 100 #[.pointer (some ⟨q, 0, none⟩), .string p] w' fun e w2 => e = .returned (.int .i64 (dGlobE L p)) ∧ Below w'.heap.size w' w2) := fun w' h => DGlobs_any w' base q v m D L (d.below h) (Nat.le_trans hb h.size) (htb.next (h.mono hb)) p hp
  have CT : Hid (∀ w', Below w.heap.size w w' → Calls Tryz.prog 101 #[.string a] w' fun e w2 => e = .returned (.bool (isText a.data.toList)) ∧ Below w'.heap.size w' w2) := fun w' h => DText_any a w' ha (htb.at h hb)
  have E0 : Hid (∀ v0 v1 v2 v3 (p8 p9 p10 : Nat) (w1 w2 w3 : World), Below w.heap.size w v0 → Only p8 v0 v1 → Only p9 v1 v2 → Only p10 v2 v3 → w.heap.size ≤ w1.heap.size → w1.heap.size ≤ p8 → w1.heap.size ≤ w2.heap.size → w2.heap.size ≤ p9 → w2.heap.size ≤ w3.heap.size → w3.heap.size ≤ p10 → Below w.heap.size w v3) := fun v0 v1 v2 v3 p8 p9 p10 w1 w2 w3 a1 a2 a3 a4 a5 a6 a7 a8 a9 a10 => below_three a1 a2 a3 a4 (by omega) (by omega) (by omega)
  by_cases h1 : mo < 0
  · rw [if_pos h1] at hE
    subst hE
    clear d htb CG CT
    go_enter Tryz.func54, Tryz.ntmps54
    go_wp2_with (first
      | ((with_reducible show wpList _ _ _ (⟨some 7, _, _, _, _, _⟩ :: _) _ _); refine wpList_box_one rfl _ (.tmp 3) rfl (.int .i64 mo) rfl rfl ?_; intro p7 w1 g7 h7 B7 L1)
      | ((with_reducible show wpList _ _ _ (⟨some 8, _, _, _, _, _⟩ :: _) _ _); refine wpList_alloc_oneD rfl 78 rfl (.slice none 0 0) (by kernel_rfl) rfl ?_; intro p8 w2 g8 h8 B8 L2)
      | ((with_reducible show wpList _ _ _ (⟨some 9, _, _, _, _, _⟩ :: _) _ _); refine wpList_alloc_oneD rfl 4 rfl (.bool false) (by kernel_rfl) rfl ?_; intro p9 w3 g9 h9 B9 L3)
      | ((with_reducible show wpList _ _ _ (⟨some 10, _, _, _, _, _⟩ :: _) _ _); refine wpList_alloc_oneD rfl 29 rfl (.int .i64 0) (by kernel_rfl) rfl ?_; intro p10 w4 g10 h10 B10 L4; go_loud (obtain ⟨K4, C7, C8, C9, C10, E1, E2, E3, Q0⟩ := boxes4 g7 h7 B7 L1 g8 h8 B8 L2 g9 h9 B9 L3 g10 h10 B10 L4 k0); go_loud (have c7 := C7.out.cell 0; have c8 := C8.out.cell 0; have c9 := C9.out.cell 0; have c10 := C10.out.cell 0))
      | fail)
    refine (CN.out w4 K4.out).mono ?_
    rintro e w0 ⟨rfl, rfl⟩
    have X8 := C8
    have X9 := C9
    have X10 := C10
    go_wp2_with (first
      | ((with_reducible show wpList _ _ _ (⟨none, .store _ (.tmp 8) _, _, _, _, _⟩ :: _) _ _); go_loud (refine wpList_store_fld rfl 78 _ _ rfl p8 0 rfl 78 [.slice none 0 0] (.slice none 0 0) rfl X8 (show 0 < 1 by omega) (by kernel_rfl) rfl ?_); intro v1 Y8 P1 _; have Y9 := Lib.hid (X9.out.only P1.out E1.out.1); have Y10 := Lib.hid (X10.out.only P1.out E1.out.2.1))
      | ((with_reducible show wpList _ _ _ (⟨none, .store _ (.tmp 9) _, _, _, _, _⟩ :: _) _ _); go_loud (refine wpList_store_fld rfl 4 _ _ rfl p9 0 rfl 4 [.bool false] (.bool false) rfl Y9 (show 0 < 1 by omega) (by kernel_rfl) rfl ?_); intro v2 Z9 P2 _; have Z8 := Lib.hid (Y8.out.only P2.out E2.out.1); have Z10 := Lib.hid (Y10.out.only P2.out E2.out.2.1))
      | ((with_reducible show wpList _ _ _ (⟨none, .store _ (.tmp 10) _, _, _, _, _⟩ :: _) _ _); go_loud (refine wpList_store_fld rfl 29 _ _ rfl p10 0 rfl 29 [.int .i64 0] (.int .i64 2) rfl Z10 (show 0 < 1 by omega) (by kernel_rfl) rfl ?_); intro v3 U10 P3 _; have U8 := Lib.hid (Z8.out.only P3.out E3.out.1); have U9 := Lib.hid (Z9.out.only P3.out E3.out.2.1))
      | fail)
    refine bodyPost_ret (results_cell3 rfl _ _ _ ⟨p8, 0, none⟩ ⟨p9, 0, none⟩ ⟨p10, 0, none⟩ (.slice none 0 0) (.bool false) (.int .i64 2) rfl rfl rfl (run_load_plain _ _ _ (U8.out.cell 0) _ _ Tryz.underlying78 rfl) (run_load_plain _ _ _ (U9.out.cell 0) _ _ Tryz.underlying4 rfl) (run_load_plain _ _ _ (U10.out.cell 0) _ _ Tryz.underlying29 rfl)) rfl ?_
    exact LsPost.err (E0.out _ _ _ _ p8 p9 p10 w1 w2 w3 K4.out P1.out P2.out P3.out L1.out.size g8 L2.out.size g9 L3.out.size g10)
  · rw [if_neg h1] at hE
    obtain ⟨G, hG⟩ : ∃ G, G = dGlobE L p := ⟨_, rfl⟩
    rw [← hG] at hE CG
    by_cases h2 : G = 0
    · rw [if_neg (fun q => q h2)] at hE
      cases ht : isText a.data.toList with
      | true =>
        rw [ht, if_pos rfl] at hE
        exact absurd hE.symm h0
      | false =>
        rw [ht, if_neg (by decide)] at hE
        rw [ht] at CT
        subst hE
        rw [h2] at CG
        clear d htb ht hG h2 G
        go_enter Tryz.func54, Tryz.ntmps54
        go_wp2_with (first
          | ((with_reducible show wpList _ _ _ (⟨some 7, _, _, _, _, _⟩ :: _) _ _); refine wpList_box_one rfl _ (.tmp 3) rfl (.int .i64 mo) rfl rfl ?_; intro p7 w1 g7 h7 B7 L1)
          | ((with_reducible show wpList _ _ _ (⟨some 8, _, _, _, _, _⟩ :: _) _ _); refine wpList_alloc_oneD rfl 78 rfl (.slice none 0 0) (by kernel_rfl) rfl ?_; intro p8 w2 g8 h8 B8 L2)
          | ((with_reducible show wpList _ _ _ (⟨some 9, _, _, _, _, _⟩ :: _) _ _); refine wpList_alloc_oneD rfl 4 rfl (.bool false) (by kernel_rfl) rfl ?_; intro p9 w3 g9 h9 B9 L3)
          | ((with_reducible show wpList _ _ _ (⟨some 10, _, _, _, _, _⟩ :: _) _ _); refine wpList_alloc_oneD rfl 29 rfl (.int .i64 0) (by kernel_rfl) rfl ?_; intro p10 w4 g10 h10 B10 L4; go_loud (obtain ⟨K4, C7, C8, C9, C10, E1, E2, E3, Q0⟩ := boxes4 g7 h7 B7 L1 g8 h8 B8 L2 g9 h9 B9 L3 g10 h10 B10 L4 k0); go_loud (have c7 := C7.out.cell 0; have c8 := C8.out.cell 0; have c9 := C9.out.cell 0; have c10 := C10.out.cell 0))
          | fail)
        refine (CN.out w4 K4.out).mono ?_
        rintro e w0 ⟨rfl, rfl⟩
        go_wp2_with fail
        refine (CG.out w4 K4.out).mono ?_
        rintro e w5 ⟨rfl, l1⟩
        have K5 := Lib.hid (K4.out.trans (l1.mono (Below.size K4.out)))
        have D7 := Lib.hid (C7.out.over l1)
        have D8 := Lib.hid (C8.out.over l1)
        have D9 := Lib.hid (C9.out.over l1)
        have D10 := Lib.hid (C10.out.over l1)
        have c7 := D7.out.cell 0
        clear l1
        go_wp2_with fail
        refine (CT.out w5 K5.out).mono ?_
        rintro e w6 ⟨rfl, l1⟩
        have K6 := Lib.hid (K5.out.trans (l1.mono (Below.size K5.out)))
        have E7 := Lib.hid (D7.out.over l1)
        have E8 := Lib.hid (D8.out.over l1)
        have E9 := Lib.hid (D9.out.over l1)
        have E10 := Lib.hid (D10.out.over l1)
        have c7 := E7.out.cell 0
        clear l1
        have X8 := E8
        have X9 := E9
        have X10 := E10
        go_wp2_with (first
          | ((with_reducible show wpList _ _ _ (⟨none, .store _ (.tmp 8) _, _, _, _, _⟩ :: _) _ _); go_loud (refine wpList_store_fld rfl 78 _ _ rfl p8 0 rfl 78 [.slice none 0 0] (.slice none 0 0) rfl X8 (show 0 < 1 by omega) (by kernel_rfl) rfl ?_); intro v1 Y8 P1 _; have Y9 := Lib.hid (X9.out.only P1.out E1.out.1); have Y10 := Lib.hid (X10.out.only P1.out E1.out.2.1))
          | ((with_reducible show wpList _ _ _ (⟨none, .store _ (.tmp 9) _, _, _, _, _⟩ :: _) _ _); go_loud (refine wpList_store_fld rfl 4 _ _ rfl p9 0 rfl 4 [.bool false] (.bool false) rfl Y9 (show 0 < 1 by omega) (by kernel_rfl) rfl ?_); intro v2 Z9 P2 _; have Z8 := Lib.hid (Y8.out.only P2.out E2.out.1); have Z10 := Lib.hid (Y10.out.only P2.out E2.out.2.1))
          | ((with_reducible show wpList _ _ _ (⟨none, .store _ (.tmp 10) _, _, _, _, _⟩ :: _) _ _); go_loud (refine wpList_store_fld rfl 29 _ _ rfl p10 0 rfl 29 [.int .i64 0] (.int .i64 5) rfl Z10 (show 0 < 1 by omega) (by kernel_rfl) rfl ?_); intro v3 U10 P3 _; have U8 := Lib.hid (Z8.out.only P3.out E3.out.1); have U9 := Lib.hid (Z9.out.only P3.out E3.out.2.1))
          | fail)
        refine bodyPost_ret (results_cell3 rfl _ _ _ ⟨p8, 0, none⟩ ⟨p9, 0, none⟩ ⟨p10, 0, none⟩ (.slice none 0 0) (.bool false) (.int .i64 5) rfl rfl rfl (run_load_plain _ _ _ (U8.out.cell 0) _ _ Tryz.underlying78 rfl) (run_load_plain _ _ _ (U9.out.cell 0) _ _ Tryz.underlying4 rfl) (run_load_plain _ _ _ (U10.out.cell 0) _ _ Tryz.underlying29 rfl)) rfl ?_
        exact LsPost.err (E0.out _ _ _ _ p8 p9 p10 w1 w2 w3 K6.out P1.out P2.out P3.out L1.out.size g8 L2.out.size g9 L3.out.size g10)
    · rw [if_pos h2] at hE
      subst hE
      clear d htb CT hG
      go_enter Tryz.func54, Tryz.ntmps54
      go_wp2_with (first
        | ((with_reducible show wpList _ _ _ (⟨some 7, _, _, _, _, _⟩ :: _) _ _); refine wpList_box_one rfl _ (.tmp 3) rfl (.int .i64 mo) rfl rfl ?_; intro p7 w1 g7 h7 B7 L1)
        | ((with_reducible show wpList _ _ _ (⟨some 8, _, _, _, _, _⟩ :: _) _ _); refine wpList_alloc_oneD rfl 78 rfl (.slice none 0 0) (by kernel_rfl) rfl ?_; intro p8 w2 g8 h8 B8 L2)
        | ((with_reducible show wpList _ _ _ (⟨some 9, _, _, _, _, _⟩ :: _) _ _); refine wpList_alloc_oneD rfl 4 rfl (.bool false) (by kernel_rfl) rfl ?_; intro p9 w3 g9 h9 B9 L3)
        | ((with_reducible show wpList _ _ _ (⟨some 10, _, _, _, _, _⟩ :: _) _ _); refine wpList_alloc_oneD rfl 29 rfl (.int .i64 0) (by kernel_rfl) rfl ?_; intro p10 w4 g10 h10 B10 L4; go_loud (obtain ⟨K4, C7, C8, C9, C10, E1, E2, E3, Q0⟩ := boxes4 g7 h7 B7 L1 g8 h8 B8 L2 g9 h9 B9 L3 g10 h10 B10 L4 k0); go_loud (have c7 := C7.out.cell 0; have c8 := C8.out.cell 0; have c9 := C9.out.cell 0; have c10 := C10.out.cell 0))
        | fail)
      refine (CN.out w4 K4.out).mono ?_
      rintro e w0 ⟨rfl, rfl⟩
      go_wp2_with fail
      refine (CG.out w4 K4.out).mono ?_
      rintro e w5 ⟨rfl, l1⟩
      have K5 := Lib.hid (K4.out.trans (l1.mono (Below.size K4.out)))
      have D7 := Lib.hid (C7.out.over l1)
      have D8 := Lib.hid (C8.out.over l1)
      have D9 := Lib.hid (C9.out.over l1)
      have D10 := Lib.hid (C10.out.over l1)
      have c7 := D7.out.cell 0
      clear l1
      have X8 := D8
      have X9 := D9
      have X10 := D10
      go_wp2_with (first
        | ((with_reducible show wpList _ _ _ (⟨none, .store _ (.tmp 8) _, _, _, _, _⟩ :: _) _ _); go_loud (refine wpList_store_fld rfl 78 _ _ rfl p8 0 rfl 78 [.slice none 0 0] (.slice none 0 0) rfl X8 (show 0 < 1 by omega) (by kernel_rfl) rfl ?_); intro v1 Y8 P1 _; have Y9 := Lib.hid (X9.out.only P1.out E1.out.1); have Y10 := Lib.hid (X10.out.only P1.out E1.out.2.1))
        | ((with_reducible show wpList _ _ _ (⟨none, .store _ (.tmp 9) _, _, _, _, _⟩ :: _) _ _); go_loud (refine wpList_store_fld rfl 4 _ _ rfl p9 0 rfl 4 [.bool false] (.bool false) rfl Y9 (show 0 < 1 by omega) (by kernel_rfl) rfl ?_); intro v2 Z9 P2 _; have Z8 := Lib.hid (Y8.out.only P2.out E2.out.1); have Z10 := Lib.hid (Y10.out.only P2.out E2.out.2.1))
        | ((with_reducible show wpList _ _ _ (⟨none, .store _ (.tmp 10) _, _, _, _, _⟩ :: _) _ _); go_loud (refine wpList_store_fld rfl 29 _ _ rfl p10 0 rfl 29 [.int .i64 0] (.int .i64 G) rfl Z10 (show 0 < 1 by omega) (by kernel_rfl) rfl ?_); intro v3 U10 P3 _; have U8 := Lib.hid (Z8.out.only P3.out E3.out.1); have U9 := Lib.hid (Z9.out.only P3.out E3.out.2.1))
        | fail)
      refine bodyPost_ret (results_cell3 rfl _ _ _ ⟨p8, 0, none⟩ ⟨p9, 0, none⟩ ⟨p10, 0, none⟩ (.slice none 0 0) (.bool false) (.int .i64 G) rfl rfl rfl (run_load_plain _ _ _ (U8.out.cell 0) _ _ Tryz.underlying78 rfl) (run_load_plain _ _ _ (U9.out.cell 0) _ _ Tryz.underlying4 rfl) (run_load_plain _ _ _ (U10.out.cell 0) _ _ Tryz.underlying29 rfl)) rfl ?_
      exact LsPost.err (E0.out _ _ _ _ p8 p9 p10 w1 w2 w3 K5.out P1.out P2.out P3.out L1.out.size g8 L2.out.size g9 L3.out.size g10)
theorem fit_stops (n : Nat) (w : World) (base q : Nat) (v : Value) (m : Nat) (D : DataW Unit) (L : List DItem) (d : PDr w base q v m D L) (hb : base ≤ w.heap.size) (htb : TabsD base w) (p a : ByteArray) (hp : p.size ≤ 1048576) (ha : a.size ≤ 1048576) (T : Nat → Prop) (pd pp pa : Nat) (W0 : World) (it : ItD w T q pd pp pa p a W0) :
    SeqStopsK Fence.wide (n + 1) Tryz.prog 153 #[.pointer (some ⟨pd, 0, none⟩), .pointer (some ⟨pa, 0, none⟩), .pointer (some ⟨pp, 0, none⟩)] (fun x : NmD => #[.string x.1]) (fun W W' => Spare (fun j => ¬ T j) W W')
      (fun xs => xs.map (·.1) = dNames L p a) (fun pre => pre.map (·.1) <+: dNames L p a) 4096 W0 := fun l J Jx W hW hJ _ hY h0 =>
  fitIt_any n w base q v m D L d hb htb p a hp ha T pd pp pa l J Jx W hJ (it.below hW) hY h0
/-- what the loop's body looks at, and leaves: the names told so far in a row of the call's own -/
structure LiD (w : World) (T : Nat → Prop) (q pd pp pa : Nat) (p a : ByteArray) (B p7 p8 p9 p10 : Nat) (mo : Int) (v : Value) (z : Bool) (xs : List ByteArray) (W : World) : Prop where
  it : ItD w T q pd pp pa p a W
  b7 : Blk W p7 3 [.int .i64 mo]
  b8 : Blk W p8 78 [v]
  b9 : Blk W p9 4 [.bool z]
  b10 : Blk W p10 29 [.int .i64 0]
  row : OwnS txtCells 1 9 W B v xs
  hB : B ≤ W.heap.size
theorem LiD.turn {w : World} {T : Nat → Prop} {q pd pp pa : Nat} {p a : ByteArray} {B p7 p8 p9 p10 : Nat} {mo : Int} {v : Value} {z : Bool} {xs : List ByteArray} {W W' : World} {S : Nat → Prop} (h : LiD w T q pd pp pa p a B p7 p8 p9 p10 mo v z xs W) (s : Spare S W W') (hT : ∀ j, T j → ¬ S j) (h7 : ¬ S p7) (h8 : ¬ S p8) (h9 : ¬ S p9) (h10 : ¬ S p10) (hv : ∀ i, v.ownBlock = some i → ¬ S i) :
    LiD w T q pd pp pa p a B p7 p8 p9 p10 mo v z xs W' :=
  ⟨h.it.stay (s.mono fun j _ hs ht => hT j ht hs), h.b7.spare s h7, h.b8.spare s h8, h.b9.spare s h9, h.b10.spare s h10, h.row.sparS s hv, Nat.le_trans h.hB s.size⟩
/-- a block that holds no cells -/
theorem not_cells {W : World} {g : Nat} {T : TypeId} {cs : List Value} (h : Blk W g T cs) : ¬ ∃ o : Obj, W.heap[g]? = some o ∧ o.isCells = false := fun ⟨o, h1, h2⟩ => by
  rw [show W.heap[g]? = _ from h] at h1
  injection h1 with h1
  subst h1
  cases h2
theorem LiD.row' {w : World} {T : Nat → Prop} {q pd pp pa : Nat} {p a : ByteArray} {B B' p7 p8 p9 p10 : Nat} {mo : Int} {v : Value} {z : Bool} {xs : List ByteArray} {W W' : World} {row : Option Nat} (h : LiD w T q pd pp pa p a B p7 p8 p9 p10 mo v z xs W) (hg : W.grownBy W' row) (hr : ∀ r, row = some r → B' ≤ r ∧ ∃ o : Obj, W.heap[r]? = some o ∧ o.isCells = false) (hT : ∀ j, T j → j < B') :
    LiD w T q pd pp pa p a B p7 p8 p9 p10 mo v z xs W' :=
  h.turn (Spare.of_row hg hr) (fun j ht hs => by have := hT j ht; omega) (fun hs => not_cells h.b7 hs.2) (fun hs => not_cells h.b8 hs.2) (fun hs => not_cells h.b9 hs.2) (fun hs => not_cells h.b10 hs.2) fun i hi hs => by
    obtain ⟨_, cs, hcs⟩ := h.row.block hi
    obtain ⟨_, o, ho, hf⟩ := hs
    rw [hcs] at ho
    injection ho with ho
    subst ho
    cases hf
theorem ownS_F {e : TypeId} {w : World} {base : Nat} {v : Value} {xs : List ByteArray} : OwnS txtCells 1 e w base v xs ↔ OwnF Value.string e w base v xs := by
  unfold OwnS OwnF
  rw [flat1]
section
variable {w : World} {T : Nat → Prop} {q pd pp pa : Nat} {p a : ByteArray} {B p7 p8 p9 p10 : Nat} {mo : Int} {v v' : Value} {z : Bool} {xs ys : List ByteArray} {W W' w3 w4 w5 : World}
theorem LiD.below (h : LiD w T q pd pp pa p a B p7 p8 p9 p10 mo v z xs W) (hb : Below W.heap.size W W') : LiD w T q pd pp pa p a B p7 p8 p9 p10 mo v z xs W' :=
  h.turn (Spare.of_over (fun _ => False) hb) (fun _ _ h => h) (fun h => h) (fun h => h) (fun h => h) (fun h => h) fun _ _ h => h
theorem LiD.cellsS (h : LiD w T q pd pp pa p a B p7 p8 p9 p10 mo v z xs W) : ∀ j o, (v.ownBlock = some j ∨ j = p8 ∨ j = p9 ∨ j = p10) → W.heap[j]? = some o → o.isCells = true := fun j o hj ho => by
  have bl : ∀ {g T' cs}, Blk W g T' cs → W.heap[g]? = some o → o.isCells = true := fun b ho => by
    rw [show W.heap[_]? = _ from b] at ho
    injection ho with ho
    subst ho
    rfl
  rcases hj with hj | rfl | rfl | rfl
  · obtain ⟨_, cs, hcs⟩ := h.row.block hj
    rw [hcs] at ho
    injection ho with ho
    subst ho
    rfl
  · exact bl h.b8 ho
  · exact bl h.b9 ho
  · exact bl h.b10 ho
theorem LiD.grow (h : LiD w T q pd pp pa p a B p7 p8 p9 p10 mo v z xs W) (hT : ∀ j, T j → j < B) (q7 : p7 < B) (q8 : p8 < B) (q9 : p9 < B) (q10 : p10 < B) (hT8 : ¬ T p8) (n7 : p7 ≠ p8) (n9 : p9 ≠ p8) (n10 : p10 ≠ p8) (L3 : Below W.heap.size W w3) (O4 : OwnS txtCells 1 9 w4 B v' ys) (S4 : Spare (fun j => v.ownBlock = some j) w3 w4)
    (B5 : Blk w5 p8 78 [v']) (P5 : Only p8 w4 w5) : KeepsOthers W w5 ∧ Spare (fun j => ¬ T j) W w5 ∧ LiD w T q pd pp pa p a B p7 p8 p9 p10 mo v' z ys w5 := by
  have h3 := h.below L3
  have hv : ∀ i, v.ownBlock = some i → B ≤ i := fun i hi => (h3.row.block hi).1
  have hv' : ∀ i, v'.ownBlock = some i → B ≤ i := fun i hi => (O4.block hi).1
  have nv : ∀ j, j < B → ¬ v.ownBlock = some j := fun j hj e => by have := hv j e; omega
  have P : Spare (fun j => j = p8) w4 w5 := Spare.of_only P5
  have i5 := (h3.it.stay (S4.mono fun j _ e ht => nv j (hT j ht) e)).stay (P.mono fun j _ e ht => hT8 (by rw [← e]; exact ht))
  have all : Spare (fun j => v.ownBlock = some j ∨ j = p8 ∨ j = p9 ∨ j = p10) W w5 := ((Spare.of_over _ L3).trans (S4.mono fun j _ e => .inl e) fun j _ h => h).trans (P.mono fun j _ e => .inr (.inl e)) fun j _ h => h
  have allT : Spare (fun j => ¬ T j) W w5 := ((Spare.of_over (fun j => ¬ T j) L3).trans (S4.mono (S' := fun j => ¬ T j) fun j _ e ht => nv j (hT j ht) e) fun j _ h => h).trans (P.mono (S' := fun j => ¬ T j) fun j _ e ht => hT8 (by rw [← e]; exact ht)) fun j _ h => h
  exact ⟨KeepsOthers.of_spare all h.cellsS, allT, i5, (h3.b7.spare S4 (nv _ q7)).spare P n7, B5, (h3.b9.spare S4 (nv _ q9)).spare P n9, (h3.b10.spare S4 (nv _ q10)).spare P n10, O4.sparS P fun i hi e => by have := hv' i hi; omega, Nat.le_trans h3.hB (Nat.le_trans S4.size (Nat.le_of_eq P5.size.symm))⟩
/-- the three results stored as they are, but for whether there are more -/
theorem LiD.tell (h : LiD w T q pd pp pa p a B p7 p8 p9 p10 mo v z xs W) (z' : Bool) (hT : ∀ j, T j → j < B) (q7 : p7 < B) (q8 : p8 < B) (q9 : p9 < B) (q10 : p10 < B) (t8 : ¬ T p8) (t9 : ¬ T p9) (t10 : ¬ T p10) (n1 : p9 ≠ p8 ∧ p10 ≠ p8 ∧ p7 ≠ p8) (n2 : p8 ≠ p9 ∧ p10 ≠ p9 ∧ p7 ≠ p9) (n3 : p8 ≠ p10 ∧ p9 ≠ p10 ∧ p7 ≠ p10) :
    KeepsOthers W (((W.setCell ⟨p8, 0, none⟩ v).setCell ⟨p9, 0, none⟩ (.bool z')).setCell ⟨p10, 0, none⟩ (.int .i64 0)) ∧ LiD w T q pd pp pa p a B p7 p8 p9 p10 mo v z' xs (((W.setCell ⟨p8, 0, none⟩ v).setCell ⟨p9, 0, none⟩ (.bool z')).setCell ⟨p10, 0, none⟩ (.int .i64 0)) := by
  have nv : ∀ j, j < B → ¬ v.ownBlock = some j := fun j hj e => by have := (h.row.block e).1; omega
  have s1 : Spare (fun j => j = p8) W (W.setCell ⟨p8, 0, none⟩ v) := spare_setCell W p8 0 v rfl
  obtain ⟨W1, hW1⟩ : ∃ W1, W1 = W.setCell ⟨p8, 0, none⟩ v := ⟨_, rfl⟩
  have b81 : Blk W1 p8 78 [v] := by rw [hW1]; exact h.b8.set 0 v
  have s2 : Spare (fun j => j = p9) W1 (W1.setCell ⟨p9, 0, none⟩ (.bool z')) := spare_setCell W1 p9 0 _ rfl
  rw [← hW1] at s1 ⊢
  obtain ⟨W2, hW2⟩ : ∃ W2, W2 = W1.setCell ⟨p9, 0, none⟩ (.bool z') := ⟨_, rfl⟩
  have b91 : Blk W1 p9 4 [.bool z] := h.b9.spare s1 n1.1
  have b92 : Blk W2 p9 4 [.bool z'] := by rw [hW2]; exact b91.set 0 (.bool z')
  rw [← hW2] at s2 ⊢
  have s3 : Spare (fun j => j = p10) W2 (W2.setCell ⟨p10, 0, none⟩ (.int .i64 0)) := spare_setCell W2 p10 0 _ rfl
  have b102 : Blk W2 p10 29 [.int .i64 0] := (h.b10.spare s1 n1.2.1).spare s2 n2.2.1
  have b103 : Blk (W2.setCell ⟨p10, 0, none⟩ (.int .i64 0)) p10 29 [.int .i64 0] := b102.set 0 (.int .i64 0)
  have all : Spare (fun j => v.ownBlock = some j ∨ j = p8 ∨ j = p9 ∨ j = p10) W (W2.setCell ⟨p10, 0, none⟩ (.int .i64 0)) :=
    ((s1.mono fun j _ e => .inr (.inl e)).trans (s2.mono (S' := fun j => v.ownBlock = some j ∨ j = p8 ∨ j = p9 ∨ j = p10) fun j _ e => .inr (.inr (.inl e))) fun j _ h => h).trans (s3.mono fun j _ e => .inr (.inr (.inr e))) fun j _ h => h
  have cut : ∀ {u : Nat} {A C : World}, u < B → ¬ T u → ItD w T q pd pp pa p a A → Spare (fun j => j = u) A C → ItD w T q pd pp pa p a C := fun _ ht i s => i.stay (s.mono fun j _ e ht' => ht (by rw [← e]; exact ht'))
  have row3 := ((h.row.sparS s1 fun i hi e => nv p8 q8 (by rw [← e]; exact hi)).sparS s2 fun i hi e => nv p9 q9 (by rw [← e]; exact hi)).sparS s3 fun i hi e => nv p10 q10 (by rw [← e]; exact hi)
  exact ⟨KeepsOthers.of_spare all h.cellsS, cut q10 t10 (cut q9 t9 (cut q8 t8 h.it s1) s2) s3, ((h.b7.spare s1 n1.2.2).spare s2 n2.2.2).spare s3 n3.2.2, (b81.spare s2 n2.1).spare s3 n3.1, b92.spare s3 n3.2.1, b103, row3, Nat.le_trans h.hB (Nat.le_trans s1.size (Nat.le_trans s2.size s3.size))⟩
theorem LiD.len (h : LiD w T q pd pp pa p a B p7 p8 p9 p10 mo v z xs W) : ∃ A c, v = .slice A xs.length c := by
  rcases h.row.2 with ⟨h1, h2⟩ | ⟨g, cap, cur, h1, _⟩
  · exact ⟨none, 0, by rw [h1, h2]⟩
  · exact ⟨_, _, h1⟩
/-- behind the loop's own book-keeping -/
theorem LiD.taken (h : LiD w T q pd pp pa p a B p7 p8 p9 p10 mo v z xs W) (hT : ∀ j, T j → j < B) (q7 : p7 < B) (q8 : p8 < B) (q9 : p9 < B) (q10 : p10 < B) {D : Nat} {o : Obj} (hD : B ≤ D) (hK : W.heap[D]? = some o) (ho : o.isCells = false) (o' : Obj) : LiD w T q pd pp pa p a B p7 p8 p9 p10 mo v z xs (W.putObj D o') :=
  h.turn (S := fun j => j = D) (spare_putObj W D o' rfl) (fun j ht e => by have := hT j ht; omega) (by omega) (by omega) (by omega) (by omega) fun i hi e => by
    have := h.cellsS i o (.inl hi) (by rw [e]; exact hK)
    rw [ho] at this
    cases this
/-- the results, and what they are worth -/
theorem LiD.post (h : LiD w T q pd pp pa p a B p7 p8 p9 p10 mo v z xs W) (hw : w.heap.size ≤ B) : LsPost w xs z 0 (.returned (.tuple #[v, .bool z, .int .i64 0])) W := ⟨v, rfl, h.row.mono hw, h.it.b⟩
theorem LiD.results (h : LiD w T q pd pp pa p a B p7 p8 p9 p10 mo v z xs W) {fn : Func} {r1 r2 r3 : Tmp} (hf : fn.results = #[.cell r1 78, .cell r2 4, .cell r3 29]) (tmps : Array Value)
    (e1 : tmps.getD r1 undef = .pointer (some ⟨p8, 0, none⟩)) (e2 : tmps.getD r2 undef = .pointer (some ⟨p9, 0, none⟩)) (e3 : tmps.getD r3 undef = .pointer (some ⟨p10, 0, none⟩)) : (results fn tmps).run Tryz.prog W = .ok (.tuple #[v, .bool z, .int .i64 0]) W :=
  results_cell3 hf tmps _ _ _ _ _ _ _ _ e1 e2 e3 (run_load_plain _ _ _ (h.b8.cell 0) _ _ Tryz.underlying78 rfl) (run_load_plain _ _ _ (h.b9.cell 0) _ _ Tryz.underlying4 rfl) (run_load_plain _ _ _ (h.b10.cell 0) _ _ Tryz.underlying29 rfl)
end
attribute [local go_sem] Oper.semAt_some
set_option maxHeartbeats 8000000 in
theorem DList_ok (w : World) (base q : Nat) (v : Value) (m : Nat) (D : DataW Unit) (L : List DItem) (d : PDr w base q v m D L) (hb : base ≤ w.heap.size) (htb : TabsD base w) (p a : ByteArray) (hp : p.size ≤ 1048576) (ha : a.size ≤ 1048576) (mx : Nat) (hmx : I64D (mx : Int)) (hE : dListE L p a (mx : Int) = 0) :
    Calls Tryz.prog 54 #[.pointer (some ⟨q, 0, none⟩), .string p, .string a, .int .i64 (mx : Int)] w (LsPost w ((dNames L p a).take mx) (decide ((mx : Int) < ((dNames L p a).length : Int))) 0) := by
  rw [dListE_glob, if_neg (by omega)] at hE
  have k0 : w.cell? ⟨q, 1, none⟩ = some (.map (some m)) := d.c1
  have CN : Hid (∀ w', Below w.heap.size w w' → Calls Tryz.prog 91 #[.pointer (some ⟨q, 0, none⟩)] w' fun e w2 => e = .returned (.bool false) ∧ w' = w2) := fun w' h => DNone_any w' q m (d.below h).c1
  have CG : Hid (∀ w', Below w.heap.size w w' → Calls Tryz.prog 100 #[.pointer (some ⟨q, 0, none⟩), .string p] w' fun e w2 => e = .returned (.int .i64 (dGlobE L p)) ∧ Below w'.heap.size w' w2) := fun w' h => DGlobs_any w' base q v m D L (d.below h) (Nat.le_trans hb h.size) (htb.next (h.mono hb)) p hp
  have CT : Hid (∀ w', Below w.heap.size w w' → Calls Tryz.prog 101 #[.string a] w' fun e w2 => e = .returned (.bool (isText a.data.toList)) ∧ Below w'.heap.size w' w2) := fun w' h => DText_any a w' ha (htb.at h hb)
  obtain ⟨G, hG⟩ : ∃ G, G = dGlobE L p := ⟨_, rfl⟩
  rw [← hG] at hE CG
  have h2 : G = 0 := by
    by_cases q : G = 0
    · exact q
    · rw [if_pos q] at hE
      exact absurd hE q
  have ht : isText a.data.toList = true := by
    rw [if_neg (fun q => q h2)] at hE
    cases q : isText a.data.toList with
    | true => rfl
    | false => rw [q, if_neg (by decide)] at hE; cases hE
  rw [h2] at CG
  rw [ht] at CT
  have D0 := Lib.hid d
  have TB0 := Lib.hid htb
  have HB0 := Lib.hid hb
  obtain ⟨mo, hmo⟩ : ∃ mo : Int, mo = (mx : Int) := ⟨_, rfl⟩
  have hmo0 : 0 ≤ mo := by omega
  rw [← hmo]
  have HM := Lib.hid hmo
  clear d htb hb hE ht hG h2 G hmo
  refine (callsIn_wide (n := 9)).1 ?_
  refine callsIn_of_wp_marks Tryz.func54 rfl trivial ?_ rfl
  simp only [Tryz.ntmps54, List.size_toArray, List.length_cons, List.length_nil, Nat.reduceAdd, Nat.reduceSub, Array.replicate_succ, Array.replicate_zero, List.push_toArray, List.append_toArray, List.nil_append, List.cons_append]
  refine wpIn_wide.2 ?_
  go_wp2_with (first
    | ((with_reducible show wpList _ _ _ (⟨some 7, _, _, _, _, _⟩ :: _) _ _); refine wpList_box_one rfl _ (.tmp 3) rfl (.int .i64 mo) rfl rfl ?_; intro p7 w1 g7 h7 B7 L1)
    | ((with_reducible show wpList _ _ _ (⟨some 8, _, _, _, _, _⟩ :: _) _ _); refine wpList_alloc_oneD rfl 78 rfl (.slice none 0 0) (by kernel_rfl) rfl ?_; intro p8 w2 g8 h8 B8 L2)
    | ((with_reducible show wpList _ _ _ (⟨some 9, _, _, _, _, _⟩ :: _) _ _); refine wpList_alloc_oneD rfl 4 rfl (.bool false) (by kernel_rfl) rfl ?_; intro p9 w3 g9 h9 B9 L3)
    | ((with_reducible show wpList _ _ _ (⟨some 10, _, _, _, _, _⟩ :: _) _ _); refine wpList_alloc_oneD rfl 29 rfl (.int .i64 0) (by kernel_rfl) rfl ?_; intro p10 w4 g10 h10 B10 L4; go_loud (obtain ⟨K4, C7, C8, C9, C10, E1, E2, E3, Q0⟩ := boxes4 g7 h7 B7 L1 g8 h8 B8 L2 g9 h9 B9 L3 g10 h10 B10 L4 k0); go_loud (have c7 := C7.out.cell 0; have c8 := C8.out.cell 0; have c9 := C9.out.cell 0; have c10 := C10.out.cell 0))
    | fail)
  refine (CN.out w4 K4.out).mono ?_
  rintro e w0 ⟨rfl, rfl⟩
  go_wp2_with fail
  refine (CG.out w4 K4.out).mono ?_
  rintro e w5 ⟨rfl, l1⟩
  have K5 := Lib.hid (K4.out.trans (l1.mono (Below.size K4.out)))
  have D7 := Lib.hid (C7.out.over l1)
  have D8 := Lib.hid (C8.out.over l1)
  have D9 := Lib.hid (C9.out.over l1)
  have D10 := Lib.hid (C10.out.over l1)
  have c7 := D7.out.cell 0
  clear l1
  go_wp2_with fail
  refine (CT.out w5 K5.out).mono ?_
  rintro e w6 ⟨rfl, l1⟩
  have K6 := Lib.hid (K5.out.trans (l1.mono (Below.size K5.out)))
  have E7 := Lib.hid (D7.out.over l1)
  have E8 := Lib.hid (D8.out.over l1)
  have E9 := Lib.hid (D9.out.over l1)
  have E10 := Lib.hid (D10.out.over l1)
  have c7 := E7.out.cell 0
  clear l1
  go_wp2_with fail
  refine (DFitting_any w6 q p a).mono ?_
  rintro e w7 ⟨pd, pp, pa, rfl, gd, gp, ga, cd, cp, ca, l1⟩
  have K7 := Lib.hid (K6.out.trans (l1.mono (Below.size K6.out)))
  have F7 := Lib.hid (E7.out.over l1)
  have F8 := Lib.hid (E8.out.over l1)
  have F9 := Lib.hid (E9.out.over l1)
  have F10 := Lib.hid (E10.out.over l1)
  go_wp2_with fail
  obtain ⟨T, hT⟩ : ∃ T : Nat → Prop, T = fun j => j < w.heap.size ∨ j = pd ∨ j = pp ∨ j = pa := ⟨_, rfl⟩
  have hTd : T pd := by rw [hT]; exact .inr (.inl rfl)
  have hTp : T pp := by rw [hT]; exact .inr (.inr (.inl rfl))
  have hTa : T pa := by rw [hT]; exact .inr (.inr (.inr rfl))
  have hTw : ∀ j, j < w.heap.size → T j := fun j hj => by rw [hT]; exact .inl hj
  have hTB : ∀ j, T j → j < w7.heap.size := fun j hj => by
    rw [hT] at hj
    have := K7.out.size
    rcases hj with h | rfl | rfl | rfl
    · omega
    · exact lt_of_cellD cd
    · exact lt_of_cellD cp
    · exact lt_of_cellD ca
  have q7 := E7.out.lt
  have q8 := E8.out.lt
  have q9 := E9.out.lt
  have q10 := E10.out.lt
  have s1 := L1.out.size
  have s2 := L2.out.size
  have s3 := L3.out.size
  have s4 := L4.out.size
  have s6 := Below.size K6.out
  have r7 : p7 < w7.heap.size := F7.out.lt
  have r8 : p8 < w7.heap.size := F8.out.lt
  have r9 : p9 < w7.heap.size := F9.out.lt
  have r10 : p10 < w7.heap.size := F10.out.lt
  have hT7 : ¬ T p7 := by rw [hT]; rintro (h | h | h | h) <;> omega
  have hT8 : ¬ T p8 := by rw [hT]; rintro (h | h | h | h) <;> omega
  have hT9 : ¬ T p9 := by rw [hT]; rintro (h | h | h | h) <;> omega
  have hT10 : ¬ T p10 := by rw [hT]; rintro (h | h | h | h) <;> omega
  have it7 : ItD w T q pd pp pa p a w7 := ⟨K7.out, hTd, hTp, hTa, hTw, cd, cp, ca⟩
  have lid7 : LiD w T q pd pp pa p a w7.heap.size p7 p8 p9 p10 mo (.slice none 0 0) false [] w7 := ⟨it7, F7.out, F8.out, F9.out, F10.out, OwnS.nil _ _ _ _ _, Nat.le_refl _⟩
  refine (wpIn_wide (n := 9)).1 ?_
  refine wpIn_rangeFunc_ownF (F := Fence.wide) (n := 9) rfl (by decide) (gf := 153) (lb := #[.pointer (some ⟨pd, 0, none⟩), .pointer (some ⟨pa, 0, none⟩), .pointer (some ⟨pp, 0, none⟩)]) rfl trivial (enters_of Tryz.func153 (by kernel_rfl) rfl)
    (fit_stops 7 w base q v m D L D0.out HB0.out TB0.out p a hp ha T pd pp pa w7 it7) (fun h k => h.trans k fun j _ hs => hs) (fun W l o o' hl _ _ _ => spare_putObj W l o' fun ht => by have := hTB l ht; omega) (Below.refl _ _) (fun _ => rfl)
    (fun pre W => pre.length ≤ mx ∧ ∃ v, LiD w T q pd pp pa p a w7.heap.size p7 p8 p9 p10 mo v false (pre.map (·.1)) W)
    (fun c pre W => c = .ret ∧ ∃ v x0 pre0, pre = pre0 ++ [x0] ∧ pre0.length = mx ∧ LiD w T q pd pp pa p a w7.heap.size p7 p8 p9 p10 mo v true (pre0.map (·.1)) W)
    (fun pre W W' row hs hg hr => ⟨hs.1, by obtain ⟨_, v, h⟩ := hs; exact ⟨v, h.row' hg hr hTB⟩⟩)
    (fun c pre W W' row hs hg hr => by
      obtain ⟨rfl, v, x0, pre0, h1, h2, h⟩ := hs
      exact ⟨rfl, v, x0, pre0, h1, h2, h.row' hg hr hTB⟩)
    ⟨Nat.zero_le _, _, lid7⟩
    (fun x => { tmps := #[.pointer (some ⟨q, 0, none⟩), .string p, .string a, .int .i64 mo, undef, undef, undef, .pointer (some ⟨p7, 0, none⟩), .pointer (some ⟨p8, 0, none⟩), .pointer (some ⟨p9, 0, none⟩), .pointer (some ⟨p10, 0, none⟩), .int .i64 0, .string x.1, .bool false, .pointer (some ⟨q, 0, none⟩), .bool false, .bool (decide (mo < 0)), .int .i64 mo, .bool (decide (mo < 0)), .pointer (some ⟨q, 0, none⟩), .string p, .int .i64 0, .int .i64 0, .bool false, undef, .string a, .bool true, .bool false, .pointer (some ⟨q, 0, none⟩), .string p, .string a, .func (.func 153) #[] #[.pointer (some ⟨pd, 0, none⟩), .pointer (some ⟨pa, 0, none⟩), .pointer (some ⟨pp, 0, none⟩)], .string x.1, undef, undef, undef, undef, undef, undef, undef, undef, undef, undef, undef], defers := [] }) ?assign ?body ?done ?stop
  case assign =>
    intro l x W K hK
    gi_wp2
    exact hK
  case body =>
    rintro l pre x W ⟨hle, v, h⟩ hlen
    obtain ⟨A, c, rfl⟩ := h.len
    rw [List.length_map] at h
    have c7 := h.b7.cell 0
    have c8 := h.b8.cell 0
    have c9 := h.b9.cell 0
    have c10 := h.b10.cell 0
    have f8 := h.b8.frozen 0
    have f9 := h.b9.frozen 0
    have f10 := h.b10.frozen 0
    simp only [List.getElem?_cons_zero] at c7 c8 c9 c10
    obtain ⟨n, hn⟩ : ∃ n, n = pre.length := ⟨_, rfl⟩
    rw [← hn] at h c8 hle hlen
    have HN := Lib.hid hn
    have HH := Lib.hid h
    clear hn h
    by_cases hnm : n = mx
    · have hq : ((n : Int) == mo) = true := by rw [HM.out, hnm]; exact beq_self_eq_true _
      have RT := HH.out.tell true hTB r7 r8 r9 r10 hT8 hT9 hT10 E1.out E2.out E3.out
      have RT' := Lib.hid RT
      clear RT
      subst hnm
      gi_wp2_with fail
      exact ⟨RT'.out.1, rfl, _, x, pre, rfl, HN.out.symm, RT'.out.2⟩
    · have hq : ((n : Int) == mo) = false := by rw [HM.out]; simp only [beq_eq_false_iff_ne, ne_eq]; omega
      gi_wp2_with fail
      refine wpIn_region_heldKR 5 (fun w' => w'.cell? ⟨p8, 0, none⟩ = some (.slice A n c)) (by kernel_rfl) (by kernel_rfl) (fun ⟨_, _, h0⟩ => h0) ?_
      change wpAnyK _ _ _ _ _ _ _ _ _ W.drew
      have Sr0 : Hid (W.drew.cell? ⟨p8, 0, none⟩ = some (.slice A n c)) := c8
      have br0 : Hid (True) := trivial
      have K0 : Hid (Below W.heap.size W W.drew) := (Below.refl _ _).drew
      obtain ⟨XS, hXS⟩ : ∃ XS, XS = List.map (fun x : NmD => x.val) pre := ⟨_, rfl⟩
      have HXS := Lib.hid hXS
      have hXL : XS.length = n := by rw [hXS, List.length_map]; exact HN.out.symm
      rw [← hXS] at HH
      clear hXS
      refine wpAnyK_take (i := 0) (v := _) rfl (by kernel_rfl) (by kernel_rfl) (by kernel_rfl) (fun _ _ _ h => h) rfl (by kernel_rfl) (by kernel_rfl) (by decide) (yieldsIf_load_one (by kernel_rfl) _ (.tmp 8) rfl p8 (0) (by kernel_rfl) (.slice A n c) (fun _ h => h) _ Tryz.underlying78 rfl) Sr0.out ?_
      refine wpAnyK_take (i := 1) (v := _) rfl (by kernel_rfl) (by kernel_rfl) (by kernel_rfl) (fun _ _ _ h => h) rfl (by kernel_rfl) (by kernel_rfl) (by decide) (yieldsIf_move (by kernel_rfl) (.tmp 12) rfl (.string x.1) (by kernel_rfl)) Sr0.out ?_
      refine wpAnyK_one 2 _ (by kernel_rfl) rfl fun K hK => ?_
      go_simp
      refine (SClone_any x.1 _ x.2).mono ?_
      rintro e vr1 ⟨rfl, l1⟩
      have Sr1 : Hid (vr1.cell? ⟨p8, 0, none⟩ = some (.slice A n c)) := (l1.cell (lt_of_cellD Sr0.out)).trans Sr0.out
      have br1 : Hid (True) := trivial
      have K1 := Lib.hid (K0.out.trans (l1.mono K0.out.size))
      refine hK _ _ (fun _ => Sr1.out) ?_
      clear hK K
      clear l1
      refine wpAnyK_one 3 _ (by kernel_rfl) rfl fun K hK => ?_
      refine step_slice_blk rfl _ _ _ _ rfl Tryz.underlying78 [.string x.1] (by kernel_rfl) ?_
      intro gv w3' hgv hgv2 V3 l3
      have K3 := Lib.hid (K1.out.trans (l3.out.mono K1.out.size))
      have Sr3 : Hid (w3'.cell? ⟨p8, 0, none⟩ = some (.slice A n c)) := (l3.out.cell (lt_of_cellD Sr1.out)).trans Sr1.out
      have O3 : Hid (OwnF Value.string 9 w3' w7.heap.size (.slice A n c) XS) := ownS_F.1 (HH.out.row.below K3.out)
      have hb3 : w7.heap.size ≤ w3'.heap.size := Nat.le_trans HH.out.hB K3.out.size
      clear l3
      refine hK _ _ (fun _ => Sr3.out) ?_
      clear hK K
      refine wpAnyK_one 4 _ (by kernel_rfl) rfl fun K hK => ?_
      refine step_append_any Value.string (fun _ => rfl) (.string ⟨#[]⟩) rfl 78 9 16 rfl (.tmp 38) (.tmp 41) Tryz.underlying78 info_str rfl w7.heap.size _ XS [x.1] 1 1 gv rfl (by kernel_rfl) (by kernel_rfl) V3.out O3.out (by omega) (by omega) hb3 ?_
      intro v' w4' O4 S4 N4
      have n8 : Hid (¬ (Value.slice A n c).ownBlock = some p8) := fun e => by have := (HH.out.row.block e).1; omega
      have Sr4 : Hid (w4'.cell? ⟨p8, 0, none⟩ = some (.slice A n c)) := (spare_cellD S4.out n8.out (lt_of_cellD Sr3.out)).trans Sr3.out
      refine hK _ _ (fun _ => Sr4.out) ?_
      clear hK K
      refine wpAnyK_frame fun a1 ha1 => ?_
      have e1_8 : a1.eval (.tmp 8) = .pointer (some ⟨p8, 0, none⟩) := by rw [ha1]; kernel_rfl
      have e1_42 : a1.eval (.tmp 42) = v' := by rw [ha1]; kernel_rfl
      refine wpAnyK_one 5 _ (by kernel_rfl) rfl fun K hK => ?_
      have B84 : Hid (Blk w4' p8 78 [.slice A n c]) := (HH.out.b8.over K3.out).spare S4.out n8.out
      refine step_store_fld (by kernel_rfl) 78 (.tmp 8) (.tmp 42) (by kernel_rfl) p8 0 e1_8 78 [.slice A n c] v' e1_42 B84 (show 0 < 1 by omega) (by kernel_rfl) (ownS_F.2 O4.out).oneCD ?_
      intro w5' BQ5 P5 hq5
      refine hK _ _ (fun h => Bool.noConfusion (show true = false from h)) ?_
      clear hK K
      rw [ha1]
      refine wpAnyK_done (by kernel_rfl) ?_ _
      obtain ⟨r1, r2, r3⟩ := HH.out.grow hTB r7 r8 r9 r10 hT8 E1.out.2.2 E1.out.1 E1.out.2.1 K3.out (ownS_F.2 O4.out) S4.out BQ5.out P5.out
      refine ⟨r1, r2, by rw [List.length_append, ← HN.out]; show n + 1 ≤ mx; omega, v', ?_⟩
      rw [List.map_append, ← HXS.out]
      exact r3
  case done =>
    rintro DD xs W hD hxs ⟨hle, v, h⟩ hK
    obtain ⟨A, c, rfl⟩ := h.len
    have c8 := h.b8.cell 0
    have c9 := h.b9.cell 0
    have c10 := h.b10.cell 0
    have f8 := h.b8.frozen 0
    have f9 := h.b9.frozen 0
    have f10 := h.b10.frozen 0
    simp only [List.getElem?_cons_zero] at c8 c9 c10
    obtain ⟨n, hn⟩ : ∃ n, n = (List.map (fun x : NmD => x.val) xs).length := ⟨_, rfl⟩
    rw [← hn] at h c8
    have RT := Lib.hid (h.tell false hTB r7 r8 r9 r10 hT8 hT9 hT10 E1.out E2.out E3.out)
    have HXX := Lib.hid hxs
    have HLE : Hid ((List.map (fun x : NmD => x.val) xs).length ≤ mx) := by show _ ≤ _; rw [List.length_map]; exact hle
    have HK := Lib.hid hK
    clear h hxs hle hn hK
    go_wp2_with fail
    have hK' := RT.out.1.same DD _ HK.out rfl
    have t := RT.out.2.taken hTB r7 r8 r9 r10 hD hK' rfl (.deferred none)
    refine ⟨by simp, .inl ⟨_, _, rfl, run_takeDeferred hK', ?_⟩⟩
    refine ⟨_, t.results rfl _ rfl rfl rfl, ?_⟩
    have h1 := HXX.out
    have h2 := HLE.out
    have e1 : (dNames L p a).take mx = List.map (fun x : NmD => x.val) xs := by rw [← h1]; exact List.take_of_length_le h2
    have e2 : decide (mo < ((dNames L p a).length : Int)) = false := by rw [← h1, HM.out]; exact decide_eq_false (by omega)
    rw [e1, e2]
    exact t.post K7.out.size
  case stop =>
    rintro DD cc pre W hD hpre ⟨rfl, v, x0, pre0, hpp, hlen, h⟩ hK
    have t := h.taken hTB r7 r8 r9 r10 hD hK rfl (.deferred none)
    have TT := Lib.hid t
    have HK := Lib.hid hK
    have HP := Lib.hid hpre
    have HPP := Lib.hid hpp
    have HL := Lib.hid hlen
    clear h t hK hpre hpp hlen
    gi_wp2_with fail
    refine ⟨by simp, .inl ⟨_, _, rfl, run_takeDeferred HK.out, ?_⟩⟩
    refine ⟨_, TT.out.results rfl _ rfl rfl rfl, ?_⟩
    obtain ⟨rest, hr⟩ := HP.out
    rw [HPP.out, List.map_append] at hr
    have hl : (List.map (fun x : NmD => x.val) pre0).length = mx := by rw [List.length_map]; exact HL.out
    have e1 : (dNames L p a).take mx = List.map (fun x : NmD => x.val) pre0 := by rw [← hr, List.append_assoc]; exact List.take_left' hl
    have e2 : decide (mo < ((dNames L p a).length : Int)) = true := by
      rw [← hr, HM.out]
      refine decide_eq_true ?_
      rw [List.length_append, List.length_append, hl]
      simp
      omega
    rw [e1, e2]
    exact TT.out.post K7.out.size
end Go.Proofs.YtdgpbhdihhchgaaGreatDoor
