/-
  CONTRACTS of the reference's two kinds of a byte. Written by gen_rby.py.
-/
import Derived.Test.YtimopkmlcjdgfaaDoorLby
namespace Go.Proofs.YtimopkmlcjdgfaaDoor
set_option linter.unusedSimpArgs false
set_option linter.unusedVariables false
open Go Go.RowKit

set_option maxHeartbeats 2000000 in
theorem rletter_c (w : World) (x : Nat) (hx : x < 256) : Calls Tryd.prog 42 #[.int .u8 (x : Int)] w fun e w' => e = .returned (.bool (ltrN x)) ∧ w = w' := by
  rcases (show (0 ≤ x ∧ x ≤ 64) ∨ (65 ≤ x ∧ x ≤ 90) ∨ (91 ≤ x ∧ x ≤ 94) ∨ (95 ≤ x ∧ x ≤ 95) ∨ (96 ≤ x ∧ x ≤ 96) ∨ (97 ≤ x ∧ x ≤ 122) ∨ (123 ≤ x ∧ x ≤ 255) by omega) with h | h | h | h | h | h | h
  · have hv : ltrN x = false := by unfold ltrN; simp; omega
    have q0a : decide ((97 : Int) ≤ (x : Int)) = false := decide_eq_false (by omega)
    have q0b : decide (97 ≤ x) = false := decide_eq_false (by omega)
    have q1a : decide ((x : Int) ≤ 122) = true := decide_eq_true (by omega)
    have q1b : decide (x ≤ 122) = true := decide_eq_true (by omega)
    have q2a : decide ((65 : Int) ≤ (x : Int)) = false := decide_eq_false (by omega)
    have q2b : decide (65 ≤ x) = false := decide_eq_false (by omega)
    have q3a : decide ((x : Int) ≤ 90) = true := decide_eq_true (by omega)
    have q3b : decide (x ≤ 90) = true := decide_eq_true (by omega)
    have q4a : decide ((x : Int) = 95) = false := decide_eq_false (by omega)
    have q4b : decide (x = 95) = false := decide_eq_false (by omega)
    have q4c : ((x : Int) == 95) = false := beq_eq_false_iff_ne.2 (by omega)
    have q4d : (x == 95) = false := beq_eq_false_iff_ne.2 (by omega)
    have HV := Lib.hid hv
    clear hv
    go_enter Tryd.func42, Tryd.ntmps42
    go_wp2_with fail
    go_ret
    exact ⟨ret_bool HV.out.symm, rfl⟩
  · have hv : ltrN x = true := by unfold ltrN; simp; omega
    have q0a : decide ((97 : Int) ≤ (x : Int)) = false := decide_eq_false (by omega)
    have q0b : decide (97 ≤ x) = false := decide_eq_false (by omega)
    have q1a : decide ((x : Int) ≤ 122) = true := decide_eq_true (by omega)
    have q1b : decide (x ≤ 122) = true := decide_eq_true (by omega)
    have q2a : decide ((65 : Int) ≤ (x : Int)) = true := decide_eq_true (by omega)
    have q2b : decide (65 ≤ x) = true := decide_eq_true (by omega)
    have q3a : decide ((x : Int) ≤ 90) = true := decide_eq_true (by omega)
    have q3b : decide (x ≤ 90) = true := decide_eq_true (by omega)
    have q4a : decide ((x : Int) = 95) = false := decide_eq_false (by omega)
    have q4b : decide (x = 95) = false := decide_eq_false (by omega)
    have q4c : ((x : Int) == 95) = false := beq_eq_false_iff_ne.2 (by omega)
    have q4d : (x == 95) = false := beq_eq_false_iff_ne.2 (by omega)
    have HV := Lib.hid hv
    clear hv
    go_enter Tryd.func42, Tryd.ntmps42
    go_wp2_with fail
    go_ret
    exact ⟨ret_bool HV.out.symm, rfl⟩
  · have hv : ltrN x = false := by unfold ltrN; simp; omega
    have q0a : decide ((97 : Int) ≤ (x : Int)) = false := decide_eq_false (by omega)
    have q0b : decide (97 ≤ x) = false := decide_eq_false (by omega)
    have q1a : decide ((x : Int) ≤ 122) = true := decide_eq_true (by omega)
    have q1b : decide (x ≤ 122) = true := decide_eq_true (by omega)
    have q2a : decide ((65 : Int) ≤ (x : Int)) = true := decide_eq_true (by omega)
    have q2b : decide (65 ≤ x) = true := decide_eq_true (by omega)
    have q3a : decide ((x : Int) ≤ 90) = false := decide_eq_false (by omega)
    have q3b : decide (x ≤ 90) = false := decide_eq_false (by omega)
    have q4a : decide ((x : Int) = 95) = false := decide_eq_false (by omega)
    have q4b : decide (x = 95) = false := decide_eq_false (by omega)
    have q4c : ((x : Int) == 95) = false := beq_eq_false_iff_ne.2 (by omega)
    have q4d : (x == 95) = false := beq_eq_false_iff_ne.2 (by omega)
    have HV := Lib.hid hv
    clear hv
    go_enter Tryd.func42, Tryd.ntmps42
    go_wp2_with fail
    go_ret
    exact ⟨ret_bool HV.out.symm, rfl⟩
  · have hv : ltrN x = true := by unfold ltrN; simp; omega
    have q0a : decide ((97 : Int) ≤ (x : Int)) = false := decide_eq_false (by omega)
    have q0b : decide (97 ≤ x) = false := decide_eq_false (by omega)
    have q1a : decide ((x : Int) ≤ 122) = true := decide_eq_true (by omega)
    have q1b : decide (x ≤ 122) = true := decide_eq_true (by omega)
    have q2a : decide ((65 : Int) ≤ (x : Int)) = true := decide_eq_true (by omega)
    have q2b : decide (65 ≤ x) = true := decide_eq_true (by omega)
    have q3a : decide ((x : Int) ≤ 90) = false := decide_eq_false (by omega)
    have q3b : decide (x ≤ 90) = false := decide_eq_false (by omega)
    have q4a : decide ((x : Int) = 95) = true := decide_eq_true (by omega)
    have q4b : decide (x = 95) = true := decide_eq_true (by omega)
    have q4c : ((x : Int) == 95) = true := beq_iff_eq.2 (by omega)
    have q4d : (x == 95) = true := beq_iff_eq.2 (by omega)
    have HV := Lib.hid hv
    clear hv
    go_enter Tryd.func42, Tryd.ntmps42
    go_wp2_with fail
    go_ret
    exact ⟨ret_bool HV.out.symm, rfl⟩
  · have hv : ltrN x = false := by unfold ltrN; simp; omega
    have q0a : decide ((97 : Int) ≤ (x : Int)) = false := decide_eq_false (by omega)
    have q0b : decide (97 ≤ x) = false := decide_eq_false (by omega)
    have q1a : decide ((x : Int) ≤ 122) = true := decide_eq_true (by omega)
    have q1b : decide (x ≤ 122) = true := decide_eq_true (by omega)
    have q2a : decide ((65 : Int) ≤ (x : Int)) = true := decide_eq_true (by omega)
    have q2b : decide (65 ≤ x) = true := decide_eq_true (by omega)
    have q3a : decide ((x : Int) ≤ 90) = false := decide_eq_false (by omega)
    have q3b : decide (x ≤ 90) = false := decide_eq_false (by omega)
    have q4a : decide ((x : Int) = 95) = false := decide_eq_false (by omega)
    have q4b : decide (x = 95) = false := decide_eq_false (by omega)
    have q4c : ((x : Int) == 95) = false := beq_eq_false_iff_ne.2 (by omega)
    have q4d : (x == 95) = false := beq_eq_false_iff_ne.2 (by omega)
    have HV := Lib.hid hv
    clear hv
    go_enter Tryd.func42, Tryd.ntmps42
    go_wp2_with fail
    go_ret
    exact ⟨ret_bool HV.out.symm, rfl⟩
  · have hv : ltrN x = true := by unfold ltrN; simp; omega
    have q0a : decide ((97 : Int) ≤ (x : Int)) = true := decide_eq_true (by omega)
    have q0b : decide (97 ≤ x) = true := decide_eq_true (by omega)
    have q1a : decide ((x : Int) ≤ 122) = true := decide_eq_true (by omega)
    have q1b : decide (x ≤ 122) = true := decide_eq_true (by omega)
    have q2a : decide ((65 : Int) ≤ (x : Int)) = true := decide_eq_true (by omega)
    have q2b : decide (65 ≤ x) = true := decide_eq_true (by omega)
    have q3a : decide ((x : Int) ≤ 90) = false := decide_eq_false (by omega)
    have q3b : decide (x ≤ 90) = false := decide_eq_false (by omega)
    have q4a : decide ((x : Int) = 95) = false := decide_eq_false (by omega)
    have q4b : decide (x = 95) = false := decide_eq_false (by omega)
    have q4c : ((x : Int) == 95) = false := beq_eq_false_iff_ne.2 (by omega)
    have q4d : (x == 95) = false := beq_eq_false_iff_ne.2 (by omega)
    have HV := Lib.hid hv
    clear hv
    go_enter Tryd.func42, Tryd.ntmps42
    go_wp2_with fail
    go_ret
    exact ⟨ret_bool HV.out.symm, rfl⟩
  · have hv : ltrN x = false := by unfold ltrN; simp; omega
    have q0a : decide ((97 : Int) ≤ (x : Int)) = true := decide_eq_true (by omega)
    have q0b : decide (97 ≤ x) = true := decide_eq_true (by omega)
    have q1a : decide ((x : Int) ≤ 122) = false := decide_eq_false (by omega)
    have q1b : decide (x ≤ 122) = false := decide_eq_false (by omega)
    have q2a : decide ((65 : Int) ≤ (x : Int)) = true := decide_eq_true (by omega)
    have q2b : decide (65 ≤ x) = true := decide_eq_true (by omega)
    have q3a : decide ((x : Int) ≤ 90) = false := decide_eq_false (by omega)
    have q3b : decide (x ≤ 90) = false := decide_eq_false (by omega)
    have q4a : decide ((x : Int) = 95) = false := decide_eq_false (by omega)
    have q4b : decide (x = 95) = false := decide_eq_false (by omega)
    have q4c : ((x : Int) == 95) = false := beq_eq_false_iff_ne.2 (by omega)
    have q4d : (x == 95) = false := beq_eq_false_iff_ne.2 (by omega)
    have HV := Lib.hid hv
    clear hv
    go_enter Tryd.func42, Tryd.ntmps42
    go_wp2_with fail
    go_ret
    exact ⟨ret_bool HV.out.symm, rfl⟩
set_option maxHeartbeats 2000000 in
theorem rdigit_c (w : World) (x : Nat) (hx : x < 256) : Calls Tryd.prog 43 #[.int .u8 (x : Int)] w fun e w' => e = .returned (.bool (dgtN x)) ∧ w = w' := by
  rcases (show (0 ≤ x ∧ x ≤ 47) ∨ (48 ≤ x ∧ x ≤ 57) ∨ (58 ≤ x ∧ x ≤ 255) by omega) with h | h | h
  · have hv : dgtN x = false := by unfold dgtN; simp; omega
    have q0a : decide ((48 : Int) ≤ (x : Int)) = false := decide_eq_false (by omega)
    have q0b : decide (48 ≤ x) = false := decide_eq_false (by omega)
    have q1a : decide ((x : Int) ≤ 57) = true := decide_eq_true (by omega)
    have q1b : decide (x ≤ 57) = true := decide_eq_true (by omega)
    have HV := Lib.hid hv
    clear hv
    go_enter Tryd.func43, Tryd.ntmps43
    go_wp2_with fail
    go_ret
    exact ⟨ret_bool HV.out.symm, rfl⟩
  · have hv : dgtN x = true := by unfold dgtN; simp; omega
    have q0a : decide ((48 : Int) ≤ (x : Int)) = true := decide_eq_true (by omega)
    have q0b : decide (48 ≤ x) = true := decide_eq_true (by omega)
    have q1a : decide ((x : Int) ≤ 57) = true := decide_eq_true (by omega)
    have q1b : decide (x ≤ 57) = true := decide_eq_true (by omega)
    have HV := Lib.hid hv
    clear hv
    go_enter Tryd.func43, Tryd.ntmps43
    go_wp2_with fail
    go_ret
    exact ⟨ret_bool HV.out.symm, rfl⟩
  · have hv : dgtN x = false := by unfold dgtN; simp; omega
    have q0a : decide ((48 : Int) ≤ (x : Int)) = true := decide_eq_true (by omega)
    have q0b : decide (48 ≤ x) = true := decide_eq_true (by omega)
    have q1a : decide ((x : Int) ≤ 57) = false := decide_eq_false (by omega)
    have q1b : decide (x ≤ 57) = false := decide_eq_false (by omega)
    have HV := Lib.hid hv
    clear hv
    go_enter Tryd.func43, Tryd.ntmps43
    go_wp2_with fail
    go_ret
    exact ⟨ret_bool HV.out.symm, rfl⟩
end Go.Proofs.YtimopkmlcjdgfaaDoor
