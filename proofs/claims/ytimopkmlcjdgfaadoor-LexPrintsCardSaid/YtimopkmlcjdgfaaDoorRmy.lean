/-
  CONTRACTS of the reference's May, Digits, Same.
-/
import Derived.Test.YtimopkmlcjdgfaaDoorRtb
import Derived.Test.YtimopkmlcjdgfaaDoorLbc
namespace Go.Proofs.YtimopkmlcjdgfaaDoor
set_option linter.unusedSimpArgs false
set_option linter.unusedVariables false
open Go Go.RowKit

set_option maxRecDepth 100000 in
set_option maxHeartbeats 4000000 in
theorem rMay_c (w : World) (k : Int) (t : List UInt8) (n a : Int) (ht : t.length ≤ 1000000) : Calls Tryd.prog 14 #[.agg (tcs k t n a)] w fun e w' => e = .returned (.bool (mayT k t n a)) ∧ Fr (fun _ => False) w w' := by
  have hsz := strOf_size t
  obtain ⟨z, hz⟩ : ∃ z, mayT k t n a = z := ⟨_, rfl⟩
  rw [hz]
  unfold mayT at hz
  have HZ := Lib.hid hz
  obtain ⟨g, hg⟩ : ∃ g, w.heap.size = g := ⟨_, rfl⟩
  have HG := Lib.hid hg
  clear hz hg
  go_enter Tryd.func14, Tryd.ntmps14
  go_upto_region 1 with fail
  refine abs_world (fun W => Hid (Blk W w.heap.size 32 (tcs k t n a)) ∧ Hid (Fr (fun _ => False) w W)) ⟨Blk.new w _ _, (Fr.refl _ w).alloc _⟩ ?_
  rintro W1 ⟨B1, F1⟩
  rw [HG.out] at B1 ⊢
  have c0 : W1.cell? ⟨g, 0, none⟩ = some (.int .i64 k) := B1.out.cell 0
  have c1 : W1.cell? ⟨g, 1, none⟩ = some (.string (strOf t)) := B1.out.cell 1
  have c2 : W1.cell? ⟨g, 2, none⟩ = some (.int .i64 n) := B1.out.cell 2
  have c3 : W1.cell? ⟨g, 3, none⟩ = some (.int .i64 a) := B1.out.cell 3
  by_cases ha : a < 0
  · have d1 : decide (a < 0) = true := decide_eq_true ha
    have HR : Hid (z = false) := Lib.hid (by rw [← HZ.out, if_pos ha])
    clear ha
    go_wp2_with fail
    go_ret
    exact ⟨ret_bool HR.out.symm, F1.out⟩
  have d1 : decide (a < 0) = false := decide_eq_false ha
  by_cases h3 : k = 3
  case pos =>
    have HR0 : Hid (z = t.isEmpty) := Lib.hid (by rw [← HZ.out, if_neg ha, if_neg (fun h => h.1 h3), if_neg (by omega), if_neg (by omega), if_pos h3])
    subst h3
    clear ha
    cases t with
    | nil =>
      have HR : Hid (z = true) := Lib.hid HR0.out
      have hst : (strOf ([] : List UInt8)).toList.isEmpty = true := by rw [strOf_toList]; rfl
      go_wp2_with fail
      go_ret
      exact ⟨ret_bool HR.out.symm, F1.out⟩
    | cons c r =>
      have HR : Hid (z = false) := Lib.hid HR0.out
      have hst : (strOf (c :: r)).toList.isEmpty = false := by rw [strOf_toList]; rfl
      go_wp2_with fail
      go_ret
      exact ⟨ret_bool HR.out.symm, F1.out⟩
  have m3 : (k == 3) = false := by simpa using h3
  by_cases hn : n = 0
  case neg =>
    have e1 : (n == 0) = false := by simpa using hn
    have HR : Hid (z = false) := Lib.hid (by rw [← HZ.out, if_neg ha, if_pos ⟨h3, hn⟩])
    clear ha hn h3
    by_cases k1 : k = 1
    · subst k1
      go_wp2_with fail
      go_ret
      exact ⟨ret_bool HR.out.symm, F1.out⟩
    have m1 : (k == 1) = false := by simpa using k1
    by_cases k2 : k = 2
    · subst k2
      clear k1
      go_wp2_with fail
      go_ret
      exact ⟨ret_bool HR.out.symm, F1.out⟩
    have m2 : (k == 2) = false := by simpa using k2
    by_cases k4 : k = 4
    · subst k4
      clear k1 k2
      go_wp2_with fail
      go_ret
      exact ⟨ret_bool HR.out.symm, F1.out⟩
    have m4 : (k == 4) = false := by simpa using k4
    clear k1 k2 k4
    go_wp2_with fail
    go_ret
    exact ⟨ret_bool HR.out.symm, F1.out⟩
  subst hn
  have HZ2 := Lib.hid (show (if k = 1 then wordT t else if k = 2 then decide (t.length ≤ 64) && t.all plB else if k = 4 then marksL.contains t else false) = z from by
    rw [← HZ.out, if_neg ha, if_neg (show ¬ (k ≠ 3 ∧ (0 : Int) ≠ 0) from fun h => h.2 rfl), if_neg h3])
  have WC := Lib.hid (fun W => rWord_c W t (by omega))
  have PC := Lib.hid (fun W => rPlain_c W t (by omega))
  have MC := Lib.hid (fun W => rMark_c W t)
  clear ha HZ h3
  by_cases k1 : k = 1
  · subst k1
    rw [if_pos rfl] at HZ2
    rw [HZ2.out] at WC
    go_wp2_with (
      go_at_call 28
      refine (WC.out _).mono ?_
      rintro e w' ⟨rfl, rfl⟩)
    go_ret
    exact ⟨rfl, F1.out⟩
  have m1 : (k == 1) = false := by simpa using k1
  rw [if_neg k1] at HZ2
  by_cases k2 : k = 2
  · subst k2
    clear k1
    rw [if_pos rfl] at HZ2
    rw [HZ2.out] at PC
    go_wp2_with (
      go_at_call 29
      refine (PC.out _).mono ?_
      rintro e w' ⟨rfl, rfl⟩)
    go_ret
    exact ⟨rfl, F1.out⟩
  have m2 : (k == 2) = false := by simpa using k2
  rw [if_neg k2] at HZ2
  by_cases k4 : k = 4
  · subst k4
    clear k1 k2
    rw [if_pos rfl] at HZ2
    rw [HZ2.out] at MC
    go_wp2_with (
      go_at_call 30
      refine (MC.out _).mono ?_
      rintro e w' ⟨rfl, rfl⟩)
    go_ret
    exact ⟨rfl, F1.out⟩
  have m4 : (k == 4) = false := by simpa using k4
  rw [if_neg k4] at HZ2
  clear k1 k2 k4
  go_wp2_with fail
  go_ret
  exact ⟨ret_bool HZ2.out, F1.out⟩
set_option maxRecDepth 100000 in
set_option maxHeartbeats 4000000 in
theorem rDigits_c (w : World) (n : Int) (h0 : -9223372036854775808 ≤ n) (h1 : n ≤ 9223372036854775807) : Calls Tryd.prog 33 #[.int .i64 n] w fun e w' => e = .returned (.string (strOf (Lib.itoa n))) ∧ Fr (fun _ => False) w w' := by
  by_cases hn : n < 0
  case neg =>
    obtain ⟨u, rfl⟩ := Int.eq_ofNat_of_zero_le (show 0 ≤ n by omega)
    have DG := Lib.hid (rdigits_c u w (by omega))
    have HI : Hid (Lib.itoa (u : Int) = Lib.decDigits u) := Lib.hid (by rw [itoa_nat (by omega)]; rfl)
    have e1 : decide ((u : Int) ≥ 0) = true := decide_eq_true (by omega)
    have e1' : decide ((0 : Int) ≤ (u : Int)) = true := decide_eq_true (by omega)
    have c2 : IntKind.u64.wrap (u : Int) = (u : Int) := by
      show (u : Int) % 18446744073709551616 = _
      omega
    clear hn
    go_enter Tryd.func33, Tryd.ntmps33
    go_wp2_with (
      go_at_call 54
      refine DG.out.mono ?_
      rintro e W2 ⟨rfl, f2⟩
      have F2 := Lib.hid f2
      clear f2)
    go_ret
    rw [HI.out]
    exact ⟨rfl, F2.out⟩
  case pos =>
    obtain ⟨u, hu⟩ : ∃ u : Nat, n.natAbs = u := ⟨_, rfl⟩
    have hnu : n = -(u : Int) := by omega
    have HI : Hid (Lib.itoa n = 45 :: Lib.decDigits u) := Lib.hid (by rw [itoa_neg hn, hu])
    have hul : u ≤ 9223372036854775808 := by omega
    have hu1 : 1 ≤ u := by omega
    have DG := Lib.hid (rdigits_c u w (by omega))
    have hdl := dec_len u (by omega)
    obtain ⟨z, hz⟩ : ∃ z, Lib.decDigits u = z := ⟨_, rfl⟩
    rw [hz] at DG HI hdl
    have e1 : decide (n ≥ 0) = false := decide_eq_false (by omega)
    have e1' : decide ((0 : Int) ≤ n) = false := decide_eq_false (by omega)
    have c1 : IntKind.i64.wrap (n + 1) = n + 1 := IntWalk.i64_in _ (by omega)
    have c2 : IntKind.i64.wrap (-(n + 1)) = -(n + 1) := IntWalk.i64_in _ (by omega)
    have c3 : IntKind.u64.wrap (-(n + 1)) = -(n + 1) := by
      show (-(n + 1)) % 18446744073709551616 = _
      omega
    have c4 : IntKind.u64.wrap (-(n + 1) + 1) = (u : Int) := by
      show (-(n + 1) + 1) % 18446744073709551616 = _
      omega
    have c5 : -(n + 1) + 1 = (u : Int) := by omega
    have hs1 : ¬ 9223372036854775807 < 1 + (strOf z).size := by rw [strOf_size]; omega
    clear hz hn hnu hu
    go_enter Tryd.func33, Tryd.ntmps33
    go_wp2_with (
      (try simp only [c5])
      go_at_call 54
      refine DG.out.mono ?_
      rintro e W2 ⟨rfl, f2⟩
      have F2 := Lib.hid f2
      clear f2)
    go_ret
    rw [HI.out]
    refine ⟨?_, F2.out⟩
    show Ending.returned (.string (strOf [45] ++ strOf z)) = _
    rw [strOf_app]
    rfl
end Go.Proofs.YtimopkmlcjdgfaaDoor
