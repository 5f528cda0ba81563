/-
  Contract of the statements' own 'Copy' (refectoryref00); what Get answers where it refuses; two more steps of a region that draws its order.
-/
import Derived.Test.YthoddihoccpidaaWorksH
import Derived.Test.YthoddihoccpidaaOpen
import Derived.Test.YthoddihoccpidaaMem
namespace Go.Proofs.Ythoddihoccpidaa
open Go.RowKit

/-- the whole of a variable out of its block, where the operation's guard is met -/
theorem wpList_load_want {P : Program} {ops : Array Oper} {rest : List Oper} {o : Oper} {a : Act} {w : World} {Q : Exit → Act → World → Prop} (hw : Region.wanted o (yielded ops a.tmps) = true) (T : TypeId) (x : Operand) (ho : o.op = .load T x) (g : Nat) (hx : a.eval x = .pointer (some ⟨g, 0, none⟩)) (T' : TypeId) (cs : List Value)
    (hA : Hid (Blk w g T' cs)) (n : Nat) (d : TypeDesc) (hu : P.underlying T = some d) (hd : (match d with | .struct _ | .array _ _ => true | _ => false) = true) (hi : (P.info? T).map (·.size) = some n) (hn : Hid (cs.length = n))
    (h : wpList P ops Q rest (a.put o.dst (.agg cs.toArray)) w) : wpList P ops Q (o :: rest) a w :=
  wpList_step fun K hK => by
    rw [if_pos hw]
    exact wp_load_row T x ho g hx T' _ (0, 0) d hA.out hu hd (by rw [hi]; have := hn.out; simp [this]) (hK _ _ h)

set_option maxHeartbeats 400000 in
theorem Copy_any (w : World) (A : Option Addr) (n c : Nat) (xs : List Int) (h : Holds w w.heap.size A n c xs) (hn : n ≤ 140737488355328) :
    Calls Try.prog 22 #[.slice A n c] w fun e w' => ∃ v, e = .returned v ∧ Own w' w.heap.size v xs ∧ Below w.heap.size w w' := by
  have hxl : xs.length ≤ 140737488355328 := by have := h.len; omega
  go_enter Try.func22, Try.ntmps22
  go_wp2_with (at_builtin; refine wpList_append_bytes rfl (.tmp 4) (.tmp 5) rfl w.heap.size _ [] rfl (Own.nil _ _) w.heap.size A n c xs rfl h (by simpa using hxl) (Nat.le_refl _) ?_; intro v1 w1 ho1 hb1 hgr)
  have ho := ho1.out
  rw [List.nil_append] at ho
  go_ret
  exact ⟨_, rfl, ho, hb1⟩

set_option maxHeartbeats 400000 in
/-- Spoil over a whole row: it writes nothing but that -/
theorem Spoil_only (w : World) (g : Nat) (xs : List Int) (n : Nat) (hn : xs.length = n) (hn2 : n ≤ 281474976710656) (by_ : Int) (h0 : 0 ≤ by_ ∧ by_ ≤ 255) (hr : Row w g xs) :
    Calls Try.prog 23 #[.slice (some ⟨g, 0, none⟩) n n, .int .u8 by_] w fun e w' => e = .returned (.tuple #[]) ∧ Only g w w' := by
  obtain ⟨h00, h01⟩ := h0
  have HN := Lib.hid hn
  clear hn
  go_enter Try.func23, Try.ntmps23
  go_wp2
  go_loopw [4] (fun i wr => ∃ k : Nat, k ≤ n ∧ i = .int .i64 k ∧ (∃ ys : List Int, Hid (ys.length = n) ∧ Hid (Row wr g ys)) ∧ Hid (Only g w wr)) (fun i _ => n - (intOf i).toNat)
  case atStart => exact ⟨0, Nat.zero_le _, rfl, ⟨xs, HN, hr⟩, Only.refl _ _⟩
  case round =>
    obtain ⟨k, hk, rfl, ⟨ys, HY, hR⟩, hb⟩ := hrel
    by_cases hlt : k < n
    · have hc := hR.out.cell (i := k) (by have := HY.out; omega)
      have hz := hR.out.frozen k
      obtain ⟨old, hold⟩ : ∃ old, old = ys.getD k 0 := ⟨_, rfl⟩
      rw [← hold] at hc
      clear hold
      go_wp2
      go_roundw
      case rel => exact ⟨k + 1, by omega, by go_num, ⟨_, (by show _ = _; rw [List.length_set]; exact HY.out), hR.out.set k _⟩, hb.out.setCell k _⟩
      case measure => simp [intOf]; omega
    · go_wp2
      go_end0
      exact ⟨rfl, hb.out⟩

theorem Own.only {w w' : World} {base g : Nat} {v : Value} {xs : List Int} (h : Own w base v xs) (hO : Only g w w') (hg : g < base) : Own w' base v xs := by
  refine ⟨h.1, ?_⟩
  rcases h.2 with h0 | ⟨q, cap, cur, rfl, h1, hq, rest⟩
  · exact .inl h0
  · exact .inr ⟨q, cap, cur, rfl, h1, (hO.rest q (by omega)).trans hq, rest⟩
theorem Own.holds_at {w : World} {base n c : Nat} {A : Option Addr} {xs : List Int} (h : Own w base (.slice A n c) xs) (hl : xs.length = n) (hx : Bytes xs) (hn : n ≤ 281474976710656) : Holds w w.heap.size A n c xs := by
  obtain ⟨A1, c1, e, hh⟩ := h.holds hx (by omega)
  rw [hl] at e hh
  injection e with e1 e2 e3
  subst e1
  subst e3
  exact hh

/-- where Get refuses for the place -/
theorem get_err (w : World) (A : Option Addr) (n c : Nat) (xs : List Int) (a er : Int) (hx : Holds w w.heap.size A n c xs) (ha : -9223372036854775808 ≤ a ∧ a ≤ 9223372036854775807) (hp : partErr n a 64 = er) (h0 : er ≠ 0) :
    Calls Try.prog 19 #[.slice A n c, .int .i64 a] w fun e w' => e = .returned (.tuple #[hv zeroHd, .int .i64 er]) ∧ Below w.heap.size w w' := by
  have h1 := GetH_any w A n c xs a hx ha
  have he : getErrH xs a = er := by
    unfold getErrH
    rw [hx.len, hp, if_neg h0]
  unfold GetHPost getOfH at h1
  rwa [he, if_neg h0] at h1
end Go.Proofs.Ythoddihoccpidaa
