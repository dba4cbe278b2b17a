/-
  CONTRACT of bytes.Clone; a string out of bytes.
-/
import Derived.Test.YtpgklhbbjbdejaaNo
import Derived.Lib.AppendZerosOnto
import Derived.Deep.RegionWith
import Derived.Deep.Draws
import Derived.Laws.BytesString
import Derived.Laws.BytesArg
import Derived.Lib.QuoteBits
namespace Go.Proofs.Ytpgklhbbjbdejaa
set_option linter.unusedSimpArgs false
set_option linter.unusedVariables false
open Go Go.RowKit

theorem u8_info : (Try.prog.info? 5).map (fun i => (i.zero, i.size, i.bytes)) = some (some (.int .u8 0), 1, 1) := by kernel_rfl
set_option maxRecDepth 100000 in
set_option maxHeartbeats 1000000 in
theorem clone_c (w : World) (A : Option Addr) (n c : Nat) (l : List UInt8) (hr : Rd w A n (bv l)) (hb : n ≤ 140737488355328) :
    Calls Try.prog 34 #[.slice A n c] w fun e w' => ∃ v, e = .returned v ∧ w'.ownsRow w.heap.size 5 1 v n (bv l) ∧ Fr (fun _ => False) w w' := by
  have hs1 := fun W => Lib.run_eql_slice_nil (P := Try.prog) W 33 5 A n c 0 0 Try.underlying33
  cases A with
  | none =>
    have hn : n = 0 := by
      rcases Nat.eq_zero_or_pos n with h0 | h0
      · exact h0
      · obtain ⟨ad, he, _⟩ := hr.2 h0
        cases he
    subst hn
    have hl : bv l = [] := List.eq_nil_of_length_eq_zero hr.1
    rw [hl]
    clear hl hr
    go_enter Try.func34, Try.ntmps34
    go_wp2_with fail
    go_ret
    exact ⟨_, rfl, World.ownsRow_nil _ _ _ _, Fr.refl _ _⟩
  | some ad =>
    obtain ⟨i0, hi, hz0, hz1, hz2⟩ := info_parts u8_info
    have HR := Lib.hid hr
    clear hr
    go_enter Try.func34, Try.ntmps34
    go_wp2_with (
      (at_builtin
       refine wpList_app rfl (.tmp 5) (.tmp 6) _ _ rfl w.heap.size 5 i0 _ 1 1 Try.underlying33 hi hz0 hz1 hz2 rfl _ 0 [] rfl (World.ownsRow_lit w #[] 0 (Nat.le_refl _) (Nat.zero_le _) rfl) _ n (bv l) rfl (Src.rd Try.underlying33 c (HR.out.alloc _) (bv_one l)) (by omega) (by unfold maxLen; omega) (by simp) ?_
       intro v1 w1 hown1 hf1 hn1
       have H1 := Lib.hid hown1
       clear hown1))
    go_ret
    refine ⟨v1, rfl, by simpa using H1.out, (((Fr.refl _ w).alloc _).trans hf1 (fun i hi hq => ?_))⟩
    have hq' : Value.ownBlock (.slice (some ⟨w.heap.size, 0, none⟩) 0 0) = some i := hq
    have hq2 : w.heap.size = i := by simpa [Value.ownBlock] using hq'
    omega
def strOf (l : List UInt8) : ByteArray := ⟨l.toArray⟩
theorem conv_str (w : World) (A : Option Addr) (n c : Nat) (l : List UInt8) (h : Rd w A n (bv l)) : (convert 33 9 (.slice A n c)).run Try.prog w = .ok (.string (strOf l)) w := by
  rw [run_convert_bytes_string w 33 9 5 A n c Try.underlying33 Try.underlying5 Try.underlying9]
  have hl : l.length = n := by rw [← h.1, bv_length]
  have hbv : bv l = (l.map fun b => (b.toNat : Int)).map (Value.int .u8) := by simp [bv]
  cases A with
  | none =>
    have hn : n = 0 := by
      rcases Nat.eq_zero_or_pos n with h0 | h0
      · exact h0
      · obtain ⟨ad, he, _⟩ := h.2 h0
        cases he
    subst hn
    obtain rfl : l = [] := List.eq_nil_of_length_eq_zero hl
    rfl
  | some ad =>
    have hload : (loadCells ad n).run Try.prog w = .ok ((l.map fun b => (b.toNat : Int)).map (Value.int .u8)).toArray w := by
      have := run_loadCells_list (P := Try.prog) w ad ((l.map fun b => (b.toNat : Int)).map (Value.int .u8)) (fun j u hj => by
        rw [← hbv] at hj
        have hjl : 0 < n := by
          rcases Nat.eq_zero_or_pos n with h0 | h0
          · subst h0
            obtain rfl : l = [] := List.eq_nil_of_length_eq_zero hl
            simp [bv] at hj
          · exact h0
        obtain ⟨ad', he, hc⟩ := h.2 hjl
        injection he with he
        subst he
        exact hc j u hj)
      simpa [hl] using this
    rw [run_bytesToString w ad n c _ hload, foldl_push_bytes]
    congr 1
    have e : l.map ((fun n : Int => UInt8.ofNat n.toNat) ∘ fun b : UInt8 => (b.toNat : Int)) = l := by
      conv => rhs; rw [← List.map_id l]
      apply List.map_congr_left
      intro b _
      simp
    simp [strOf, ByteArray.empty, ByteArray.emptyWithCapacity]
    exact e
end Go.Proofs.Ytpgklhbbjbdejaa
