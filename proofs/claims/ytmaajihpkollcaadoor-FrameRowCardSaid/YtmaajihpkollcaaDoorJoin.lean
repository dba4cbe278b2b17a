/-
  CONTRACT of the law's 'join': rows, one behind the other, in a row of its own.
-/
import Derived.Test.YtmaajihpkollcaaDoorFc
namespace Go.Proofs.YtmaajihpkollcaaDoor
set_option linter.unusedSimpArgs false
set_option linter.unusedVariables false
open Go Go.RowKit

set_option maxHeartbeats 2000000 in
theorem join_c (w : World) (A : Option Addr) (n c : Nat) (ls : List (List UInt8)) (hr : RdB w A n ls) (hn : n ≤ 9223372036854775807) (hl : ls.flatten.length ≤ 1000000000) :
    Calls Tryd.prog 20 #[.slice A n c] w fun e w' => ∃ v, e = .returned v ∧ w'.ownsRow w.heap.size 5 1 v ls.flatten.length (bv ls.flatten) ∧ Fr (fun _ => False) w w' := by
  obtain ⟨i0, hi, hz0, hz1, hz2⟩ := info_parts u8_info
  have HR := Lib.hid hr
  have HL := Lib.hid hl
  have hI := Lib.hid hi
  clear hr hi hl
  go_enter Tryd.func20, Tryd.ntmps20
  go_wp2_with fail
  go_loopw [3, 4] (fun av iv wr => ∃ (k : Nat) (aA : Option Addr) (ac L : Nat), k ≤ n ∧ iv = .int .i64 k ∧ av = .slice aA L ac ∧ Hid (L = (ls.take k).flatten.length) ∧ Hid (wr.ownsRow w.heap.size 5 1 (.slice aA L ac) L (bv (ls.take k).flatten)) ∧ Hid (Fr (fun _ => False) w wr)) (fun _ iv _ => n - (intOf iv).toNat)
  case atStart => exact ⟨0, none, 0, 0, Nat.zero_le _, rfl, rfl, rfl, World.ownsRow_nil w _ _ _, Fr.refl _ w⟩
  case round =>
    obtain ⟨k, aA, ac, L, hk, rfl, rfl, hL, ho, hf⟩ := hrel
    by_cases hlt : k < n
    · obtain ⟨b, off, rfl, hc⟩ := (HR.out.far hf.out).2 (by omega)
      obtain ⟨B, m, c0, r0, hm, hm2⟩ := hc k (by rw [HR.out.1]; exact hlt)
      have hfl : Hid ((ls.take (k + 1)).flatten = (ls.take k).flatten ++ (ls[k]'(by rw [HR.out.1]; exact hlt))) := by
        show _ = _
        rw [List.take_succ_eq_append_getElem (by rw [HR.out.1]; exact hlt), List.flatten_append]
        simp
      have hle : (ls.take (k + 1)).flatten.length ≤ ls.flatten.length := by
        have h := congrArg List.length (congrArg List.flatten (List.take_append_drop (k + 1) ls))
        rw [List.flatten_append, List.length_append] at h
        omega
      generalize (ls[k]'(by rw [HR.out.1]; exact hlt)) = p at *
      obtain ⟨M, hM⟩ : ∃ M, p.length = M := ⟨_, rfl⟩
      rw [hM] at c0 r0 hm
      have hLM : L + M ≤ 1000000000 := by
        have h3 := HL.out
        rw [hfl.out, List.length_append, ← hL.out, hM] at hle
        omega
      have HM := Lib.hid hM
      have R0 := Lib.hid r0
      have HM2 := Lib.hid hm2
      clear hc r0 hM hm2 hle
      go_wp2_with (
        (at_builtin
         refine wpList_app rfl _ _ _ _ rfl w.heap.size 5 i0 _ 1 1 Tryd.underlying25 hI.out hz0 hz1 hz2 rfl _ L _ rfl ho.out _ M _ rfl (Src.rd Tryd.underlying25 _ R0.out (bv_one _)) (by omega) (by unfold maxLen; omega) hf.out.size ?_
         intro v3 w3 hown3 hf3 hn3
         obtain ⟨A3, c3, rfl, _, _⟩ := own_slice hown3
         have H3 := Lib.hid hown3
         have F3 := Lib.hid (hf.out.trans hf3 (fun i hi hq => by have := (ho.out.lt i hq).1; omega))
         clear hown3 hf3 hn3))
      refine ⟨⟨k + 1, A3, c3, L + M, hlt, by go_num, rfl, ?_, ?_, F3.out⟩, by simp [intOf]; omega⟩
      · show _ = _
        rw [hfl.out, List.length_append, ← hL.out, HM.out]
      · show World.ownsRow _ _ _ _ _ _ _
        rw [hfl.out, bv_append]
        exact H3.out
    · obtain rfl : k = n := by omega
      have hall : Hid (ls.take k = ls) := List.take_of_length_le (by rw [HR.out.1]; exact Nat.le_refl _)
      rw [hall.out] at hL ho
      go_wp2_with fail
      go_ret
      exact ⟨_, rfl, by rw [← hL.out]; exact ho.out, hf.out⟩
end Go.Proofs.YtmaajihpkollcaaDoor
