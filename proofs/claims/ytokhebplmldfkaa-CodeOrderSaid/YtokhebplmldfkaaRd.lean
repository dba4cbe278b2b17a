/-
  CONTRACTS: bytes.Clone, Writer.Bytes, NewReader, and the Reader's inner calls: next, big, number.
-/
import Derived.Test.YtokhebplmldfkaaWr3
namespace Go.Proofs.Ytokhebplmldfkaa
set_option linter.unusedSimpArgs false
set_option linter.unusedVariables false
open Go Go.RowKit

set_option maxHeartbeats 400000 in
/-- A copy in new memory: a row of the call's own. -/
theorem clone_c (w : World) (A : Option Addr) (n c : Nat) (l : List UInt8) (hr : Rd w A n (bv l)) (hb : n ≤ 140737488355328) :
    Calls Try.prog 38 #[.slice A n c] w fun e w' => ∃ v, e = .returned v ∧ w'.ownsRow w.heap.size 5 1 v n (bv l) ∧ Fr (fun _ => False) w w' := by
  have hs1 := fun W => Lib.run_eql_slice_nil (P := Try.prog) W 27 5 A n c 0 0 Try.underlying27
  cases A with
  | none =>
    have hn : n = 0 := by
      rcases Nat.eq_zero_or_pos n with h0 | h0
      · exact h0
      · obtain ⟨ad, he, _⟩ := hr.2 h0
        cases he
    subst hn
    have hl : bv l = [] := List.eq_nil_of_length_eq_zero hr.1
    rw [hl]
    clear hl hr
    go_enter Try.func38, Try.ntmps38
    go_wp2_with fail
    go_ret
    exact ⟨_, rfl, World.ownsRow_nil _ _ _ _, Fr.refl _ _⟩
  | some ad =>
    obtain ⟨i0, hi, hz0, hz1, hz2⟩ := info_parts u8_info
    have HR := Lib.hid hr
    clear hr
    go_enter Try.func38, Try.ntmps38
    go_wp2_with (
      (at_builtin
       refine wpList_app rfl (.tmp 5) (.tmp 6) _ _ rfl w.heap.size 5 i0 _ 1 1 Try.underlying27 hi hz0 hz1 hz2 rfl _ 0 [] rfl (World.ownsRow_lit w #[] 0 (Nat.le_refl _) (Nat.zero_le _) rfl) _ n (bv l) rfl (Src.rd Try.underlying27 c (HR.out.alloc _) (bv_one l)) (by omega) (by unfold maxLen; omega) (by simp) ?_
       intro v1 w1 hown1 hf1 hn1
       have H1 := Lib.hid hown1
       clear hown1))
    go_ret
    refine ⟨v1, rfl, by simpa using H1.out, (((Fr.refl _ w).alloc _).trans hf1 (fun i hi hq => ?_))⟩
    have hq' : Value.ownBlock (.slice (some ⟨w.heap.size, 0, none⟩) 0 0) = some i := hq
    have hq2 : w.heap.size = i := by simpa [Value.ownBlock] using hq'
    omega

set_option maxHeartbeats 400000 in
theorem wbytes_c (w : World) (b : Nat) (v : Value) (l : List UInt8) (h : Wr w b v l) (hb : l.length ≤ 140737488355328) :
    Calls Try.prog 14 #[.pointer (some ⟨b, 0, none⟩)] w fun e w' => ∃ v', e = .returned v' ∧ w'.ownsRow w.heap.size 5 1 v' l.length (bv l) ∧ Fr (fun _ => False) w w' := by
  obtain ⟨A, c, rfl, _, _⟩ := own_slice h.2
  have c0 := h.1.cell 0
  have H := Lib.hid h
  clear h
  go_enter Try.func14, Try.ntmps14
  go_wp2_with fail
  refine (clone_c w A l.length c l (Rd.of_own H.out.2) hb).mono ?_
  rintro e w' ⟨v1, rfl, h1, f1⟩
  have H1 := Lib.hid h1
  clear h1
  go_wp2_with fail
  go_ret
  exact ⟨v1, rfl, H1.out, f1⟩
set_option maxHeartbeats 400000 in
theorem wbytes_nil (w : World) : Calls Try.prog 14 #[.pointer none] w fun e w' => e = .returned (.slice none 0 0) ∧ w = w' := by
  go_enter Try.func14, Try.ntmps14
  go_wp2_with fail
  go_ret
  exact ⟨rfl, rfl⟩

/-- A Reader lies in block b: its bytes l (a row of the call's own), the place, whether it has failed. -/
def Rr (w : World) (b : Nat) (v : Value) (l : List UInt8) (at_ : Nat) (f : Bool) : Prop :=
  Blk w b 49 #[v, .int .i64 at_, .bool f] ∧ w.ownsRow 0 5 1 v l.length (bv l) ∧ at_ ≤ l.length ∧ l.length ≤ 140737488355328

set_option maxHeartbeats 400000 in
theorem newReader_c (w : World) (A : Option Addr) (n c : Nat) (l : List UInt8) (hr : Rd w A n (bv l)) (hb : n ≤ 140737488355328) :
    Calls Try.prog 17 #[.slice A n c] w fun e w' => ∃ b v, e = .returned (.pointer (some ⟨b, 0, none⟩)) ∧ Rr w' b v l 0 false ∧ Fr (fun _ => False) w w' ∧ w.heap.size ≤ b ∧ ∀ k, v.ownBlock = some k → w.heap.size ≤ k := by
  have hl : l.length = n := by rw [← hr.1, bv_length]
  subst hl
  have HR := Lib.hid hr
  clear hr
  go_enter Try.func17, Try.ntmps17
  go_wp2_with fail
  refine (clone_c w A l.length c l HR.out hb).mono ?_
  rintro e w1 ⟨v1, rfl, h1, f1⟩
  obtain ⟨A1, c1, rfl, _, _⟩ := own_slice h1
  have H1 := Lib.hid h1
  clear h1
  go_wp2_with fail
  go_ret
  exact ⟨_, _, rfl, ⟨Blk.new _ _ _, own_base (H1.out.alloc _) (fun _ _ => Nat.zero_le _), Nat.zero_le _, hb⟩, f1.alloc _, f1.size, fun k hk => (H1.out.lt k hk).1⟩
end Go.Proofs.Ytokhebplmldfkaa
