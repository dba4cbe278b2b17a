/-
  THE WALK of FrameChecks.
-/
import Derived.Test.YtmaajihpkollcaaDoorAwake
import Derived.Test.YtmaajihpkollcaaDoorRck
import Derived.Test.YtmaajihpkollcaaDoorFr7
namespace Go.Proofs.YtmaajihpkollcaaDoor
set_option linter.unusedSimpArgs false
set_option linter.unusedVariables false
open Go Go.RowKit

theorem flat_len : ∀ l : List (List UInt8), l.flatten.length ≤ bulk l
  | [] => Nat.le_refl _
  | p :: l => by
    have := flat_len l
    simp only [List.flatten_cons, List.length_append, bulk, List.map_cons, List.sum_cons] at *
    omega
theorem bulk_take_le (l : List (List UInt8)) (k : Nat) : bulk (l.take k) ≤ bulk l := by
  have h := List.take_append_drop k l
  have : bulk l = bulk (l.take k) + bulk (l.drop k) := by
    conv => lhs; rw [← h]
    rw [show bulk (l.take k ++ l.drop k) = bulk (l.take k) + bulk (l.drop k) from by unfold bulk; rw [List.map_append, List.sum_append]]
  omega
theorem bulk_len : ∀ l : List (List UInt8), l.length ≤ bulk l
  | [] => Nat.le_refl _
  | p :: l => by
    have := bulk_len l
    simp only [bulk, List.map_cons, List.sum_cons, List.length_cons] at *
    omega

set_option maxRecDepth 100000 in
set_option maxHeartbeats 4000000 in
theorem frameChecks_c (w : World) (A : Option Addr) (n c : Nat) (ls : List (List UInt8)) (hr : RdB w A n ls) (hn : n ≤ c) (hc : c ≤ 140737488355328) (hp : ∀ p ∈ ls, p.length ≤ 140737488355328) (hN : Nb w) :
    Calls Tryd.prog 3 #[.slice A n c] w fun e w' => e = .returned (.bool true) ∧ Fr (fun _ => False) w w' := by
  obtain ⟨i0, hi, hz0, hz1, hz2⟩ := info_parts u8_info
  have HR := Lib.hid hr
  have HN := Lib.hid hN
  have HP := Lib.hid hp
  have hI := Lib.hid hi
  clear hr hN hp hi
  go_enter Tryd.func3, Tryd.ntmps3
  go_wp2_with fail
  refine (long_c w A n c ls HR.out (by omega) HP.out).mono ?_
  rintro e w1 ⟨rfl, rfl | ⟨rfl, hb⟩⟩
  · go_wp2_with fail
    refine (awake_c w HN.out).mono ?_
    rintro e w2 ⟨rfl, f2⟩
    have F2 := Lib.hid f2
    clear f2
    go_wp2_with fail
    go_ret
    exact ⟨rfl, F2.out⟩
  · have HB := Lib.hid hb
    clear hb
    go_wp2_with fail
    go_loopw [3, 4] (fun av iv wr => ∃ (k : Nat) (aA : Option Addr) (ac L : Nat), k ≤ n ∧ iv = .int .i64 k ∧ av = .slice aA L ac ∧ Hid (L = (ls.take k).flatten.length) ∧ Hid (wr.ownsRow w.heap.size 5 1 (.slice aA L ac) L (bv (ls.take k).flatten)) ∧ Hid (Fr (fun _ => False) w wr)) (fun _ iv _ => n - (intOf iv).toNat)
    case atStart => exact ⟨0, none, 0, 0, Nat.zero_le _, rfl, rfl, rfl, World.ownsRow_nil w _ _ _, Fr.refl _ w⟩
    case round =>
      obtain ⟨k, aA, ac, L, hk, rfl, rfl, hL, ho, hf⟩ := hrel
      have hL6 : L ≤ 60000 := by
        have h1 := flat_len (ls.take k)
        have h2 := bulk_take_le ls k
        have h3 := HB.out
        have h4 := hL.out
        omega
      by_cases hlt : k < n
      · obtain ⟨b, off, rfl, hc⟩ := (HR.out.far hf.out).2 (by omega)
        obtain ⟨B, m, c0, r0, hm, hm2⟩ := hc k (by rw [HR.out.1]; exact hlt)
        have hpl := HP.out _ (List.getElem_mem (by rw [HR.out.1]; exact hlt : k < ls.length))
        have hfl : Hid ((ls.take (k + 1)).flatten = (ls.take k).flatten ++ (ls[k]'(by rw [HR.out.1]; exact hlt))) := by
          show _ = _
          rw [List.take_succ_eq_append_getElem (by rw [HR.out.1]; exact hlt), List.flatten_append]
          simp
        generalize (ls[k]'(by rw [HR.out.1]; exact hlt)) = p at *
        obtain ⟨M, hM⟩ : ∃ M, p.length = M := ⟨_, rfl⟩
        rw [hM] at c0 r0 hm hpl
        have hLM : L + M ≤ 60000 := by
          have h1 := flat_len (ls.take (k + 1))
          have h2 := bulk_take_le ls (k + 1)
          have h3 := HB.out
          rw [hfl.out, List.length_append, ← hL.out, hM] at h1
          omega
        have HM := Lib.hid hM
        have R0 := Lib.hid r0
        have HM2 := Lib.hid hm2
        clear hc r0 hM hm2
        go_wp2_with (
          (at_builtin
           refine wpList_app rfl _ _ _ _ rfl w.heap.size 5 i0 _ 1 1 Tryd.underlying25 hI.out hz0 hz1 hz2 rfl _ L _ rfl ho.out _ M _ rfl (Src.rd Tryd.underlying25 _ R0.out (bv_one _)) (by omega) (by unfold maxLen; omega) hf.out.size ?_
           intro v3 w3 hown3 hf3 hn3
           obtain ⟨A3, c3, rfl, _, _⟩ := own_slice hown3
           have H3 := Lib.hid hown3
           have F3 := Lib.hid (hf.out.trans hf3 (fun i hi hq => by have := (ho.out.lt i hq).1; omega))
           clear hown3 hf3 hn3))
        refine ⟨⟨k + 1, A3, c3, L + M, hlt, by go_num, rfl, ?_, ?_, F3.out⟩, by simp [intOf]; omega⟩
        · show _ = _
          rw [hfl.out, List.length_append, ← hL.out, HM.out]
        · show World.ownsRow _ _ _ _ _ _ _
          rw [hfl.out, bv_append]
          exact H3.out
      · obtain rfl : k = n := by omega
        have hall : Hid (ls.take k = ls) := List.take_of_length_le (by rw [HR.out.1]; exact Nat.le_refl _)
        rw [hall.out] at hL ho
        go_wp2_with fail
        refine (check_c _ _ _ _ ls (HR.out.far hf.out) (HN.out.far hf.out) (by omega)).mono ?_
        rintro e w2 ⟨rfl, rfl⟩
        go_wp2_with fail
        have hra := Lib.hid (Rd.of_own (own_base ho.out (base' := 0) (fun _ _ => Nat.zero_le _)))
        refine (rcheck_c _ aA L ac ls.flatten hra.out (by omega)).mono ?_
        rintro e w2 ⟨rfl, rfl⟩
        obtain ⟨X, hX⟩ : ∃ X, (check ls.flatten : Int) = X := ⟨_, rfl⟩
        rw [hX]
        have HX := Lib.hid hX
        obtain ⟨A', c', hsl, hac1, hac2⟩ := own_slice ho.out
        obtain ⟨rfl, rfl⟩ : aA = A' ∧ ac = c' := by injection hsl with h1 _ h2; exact ⟨h1, h2⟩
        clear hX hsl
        have hxx : (X == X) = true := by simp
        go_wp2_with fail
        have RB1 : Hid (RdB (wr.alloc (.cells #[.slice aA L ac] 25)) (some ⟨wr.heap.size, 0, none⟩) 1 [ls.flatten]) := by
          have r := rdB1 wr 25 aA ac ls.flatten (by rw [← hL.out]; exact hra.out) (by rw [← hL.out]; exact hac1) hac2
          rw [← hL.out] at r
          exact r
        have F2 := Lib.hid (hf.out.alloc (.cells #[.slice aA L ac] 25))
        refine (check_c _ _ 1 1 [ls.flatten] RB1.out (HN.out.far F2.out) (by omega)).mono ?_
        rintro e w2 ⟨rfl, rfl⟩
        rw [show [ls.flatten].flatten = ls.flatten from by simp, HX.out]
        go_wp2_with fail
        refine (check_c _ _ _ _ ls (HR.out.far F2.out) (HN.out.far F2.out) (by omega)).mono ?_
        rintro e w2 ⟨rfl, rfl⟩
        rw [HX.out]
        go_wp2_with fail
        refine (awake_c _ (HN.out.far F2.out)).mono ?_
        rintro e w3 ⟨rfl, f3⟩
        have F3 := Lib.hid (F2.out.trans f3 (fun _ _ h => h))
        clear f3
        go_wp2_with fail
        go_ret
        exact ⟨rfl, F3.out⟩
end Go.Proofs.YtmaajihpkollcaaDoor
