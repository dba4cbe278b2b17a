/-
  CONTRACTS: slices.Concat, slices.Reverse of four bytes, bytes.Equal; frame's number.
-/
import Derived.Test.YtmaajihpkollcaaDoorFr1
import Derived.BigQuiet
import Derived.Deep.QuietTactic
namespace Go.Proofs.YtmaajihpkollcaaDoor
set_option linter.unusedSimpArgs false
set_option linter.unusedVariables false
open Go Go.RowKit

theorem RdB.far {w w' : World} {A : Option Addr} {n : Nat} {ls : List (List UInt8)} (h : RdB w A n ls) (hf : Fr (fun _ => False) w w') : RdB w' A n ls := by
  refine ⟨h.1, fun hn => ?_⟩
  obtain ⟨b, off, rfl, hc⟩ := h.2 hn
  refine ⟨b, off, rfl, fun i hi => ?_⟩
  obtain ⟨B, c, h1, h2, h3, h4⟩ := hc i hi
  exact ⟨B, c, by rw [hf.cell (World.block_lt_of_cell? w _ h1) (fun h => h)]; exact h1, h2.far hf, h3, h4⟩
theorem flat_take (ls : List (List UInt8)) (k : Nat) : (ls.take k).flatten.length ≤ ls.flatten.length := by
  have h : ls.flatten = (ls.take k).flatten ++ (ls.drop k).flatten := by rw [← List.flatten_append, List.take_append_drop]
  rw [h, List.length_append]
  omega
theorem flat_succ (ls : List (List UInt8)) (k : Nat) (h : k < ls.length) : (ls.take (k + 1)).flatten = (ls.take k).flatten ++ ls[k] := by
  rw [List.take_succ_eq_append_getElem h, List.flatten_append]
  simp

set_option maxRecDepth 100000 in
set_option maxHeartbeats 2000000 in
theorem concat_c (w : World) (A : Option Addr) (n c : Nat) (ls : List (List UInt8)) (hr : RdB w A n ls) (hn : n ≤ 9223372036854775807) (hl : ls.flatten.length ≤ 140737488355328) :
    Calls Tryd.prog 25 #[.slice A n c] w fun e w' => ∃ v, e = .returned v ∧ w'.ownsRow w.heap.size 5 1 v ls.flatten.length (bv ls.flatten) ∧ Fr (fun _ => False) w w' := by
  have HR := Lib.hid hr
  have HLL := Lib.hid hl
  clear hr hl
  go_enter Tryd.func25, Tryd.ntmps25
  go_wp2_with fail
  go_loop [3, 11] (fun sv iv => ∃ (k s : Nat), k ≤ n ∧ iv = .int .i64 k ∧ sv = .int .i64 (s : Int) ∧ s ≤ 140737488355328 ∧ Hid (s = (ls.take k).flatten.length)) (fun _ iv => n - (intOf iv).toNat)
  case atStart => exact ⟨0, 0, Nat.zero_le _, rfl, rfl, by omega, rfl⟩
  case round =>
    obtain ⟨k, s, hk, rfl, rfl, hs, hst⟩ := hrel
    by_cases hlt : k < n
    · obtain ⟨b, off, rfl, hc⟩ := HR.out.2 (by omega)
      obtain ⟨B, m, c0, r0, hm, hm2⟩ := hc k (by rw [HR.out.1]; exact hlt)
      have hsum : Hid (s + (ls[k]'(by rw [HR.out.1]; exact hlt)).length = (ls.take (k + 1)).flatten.length) := by
        show _ = _
        rw [flat_succ _ _ (by rw [HR.out.1]; exact hlt), List.length_append, ← hst.out]
      have hsb : s + (ls[k]'(by rw [HR.out.1]; exact hlt)).length ≤ 140737488355328 := by
        rw [hsum.out]
        exact Nat.le_trans (flat_take _ _) HLL.out
      generalize (ls[k]'(by rw [HR.out.1]; exact hlt)).length = M at *
      clear hc r0
      go_wp2_with fail
      exact ⟨⟨k + 1, s + M, hlt, by go_num, by go_num, hsb, hsum.out⟩, by simp [intOf]; omega⟩
    · obtain rfl : k = n := by omega
      go_wp2_with fail
      refine (grow_c _ s hs).mono ?_
      rintro e w1 ⟨v1, rfl, o1, f1⟩
      have O1 := Lib.hid o1
      have F1 := Lib.hid f1
      clear o1 f1
      obtain ⟨i0, hi, hz0, hz1, hz2⟩ := info_parts u8_info
      go_wp2_with fail
      go_loopw [6, 27] (fun sv iv wr => ∃ (q : Nat) (aA : Option Addr) (ac L : Nat), q ≤ k ∧ iv = .int .i64 q ∧ sv = .slice aA L ac ∧ Hid (L = (ls.take q).flatten.length) ∧ Hid (wr.ownsRow w.heap.size 5 1 sv L (bv (ls.take q).flatten)) ∧ Hid (Fr (fun _ => False) w wr)) (fun _ iv _ => k - (intOf iv).toNat)
      case atStart =>
        obtain ⟨A1, c1, rfl, _, _⟩ := own_slice O1.out
        exact ⟨0, A1, c1, 0, Nat.zero_le _, rfl, rfl, rfl, O1.out, F1.out⟩
      case round =>
        obtain ⟨q, aA, ac, L, hq, rfl, rfl, hL, ho, hf⟩ := hrel
        by_cases hlt : q < k
        · obtain ⟨b, off, rfl, hc⟩ := (HR.out.far hf.out).2 (by omega)
          obtain ⟨B, m, c0, r0, hm, hm2⟩ := hc q (by rw [HR.out.1]; exact hlt)
          have hsum : Hid (L + (ls[q]'(by rw [HR.out.1]; exact hlt)).length = (ls.take (q + 1)).flatten.length) := by
            show _ = _
            rw [flat_succ _ _ (by rw [HR.out.1]; exact hlt), List.length_append, ← hL.out]
          have hbv : Hid (bv (ls.take (q + 1)).flatten = bv (ls.take q).flatten ++ bv (ls[q]'(by rw [HR.out.1]; exact hlt))) := by
            show _ = _
            rw [flat_succ _ _ (by rw [HR.out.1]; exact hlt), bv_append]
          have hsb : L + (ls[q]'(by rw [HR.out.1]; exact hlt)).length ≤ 140737488355328 := by
            rw [hsum.out]
            exact Nat.le_trans (flat_take _ _) HLL.out
          generalize (ls[q]'(by rw [HR.out.1]; exact hlt)) = l at *
          obtain ⟨M, hM⟩ : ∃ M, l.length = M := ⟨_, rfl⟩
          rw [hM] at c0 r0 hm hsb hsum
          have R0 := Lib.hid r0
          clear hc r0 hM
          go_wp2_with (
            (at_builtin
             refine wpList_app rfl _ _ _ _ rfl w.heap.size 5 i0 _ 1 1 Tryd.underlying25 hi hz0 hz1 hz2 rfl _ L _ rfl ho.out _ M _ rfl (Src.rd Tryd.underlying25 _ R0.out (bv_one _)) (by omega) (by unfold maxLen; omega) hf.out.size ?_
             intro v3 w3 hown3 hf3 hn3
             obtain ⟨A3, c3, rfl, _, _⟩ := own_slice hown3
             have H3 := Lib.hid hown3
             have F3 := Lib.hid (hf.out.trans hf3 (fun i hi hq => by have := (ho.out.lt i hq).1; omega))
             clear hown3 hf3 hn3))
          exact ⟨⟨q + 1, A3, c3, L + M, hlt, by go_num, rfl, hsum.out, by rw [hbv.out]; exact H3.out, F3.out⟩, by simp [intOf]; omega⟩
        · obtain rfl : q = k := by omega
          have he : Hid ((ls.take q) = ls) := List.take_of_length_le (by rw [HR.out.1]; exact Nat.le_refl _)
          go_wp2_with fail
          go_ret
          have h1 := ho.out
          have h2 := hL.out
          rw [he.out] at h1 h2
          exact ⟨_, rfl, by rw [← h2]; exact h1, hf.out⟩
end Go.Proofs.YtmaajihpkollcaaDoor
