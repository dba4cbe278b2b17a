/-
  CONTRACTS of the three kinds of a byte. Written by gen_lxb.py.
-/
import Derived.Test.YtimopkmlcjdgfaaDoorLxm
namespace Go.Proofs.YtimopkmlcjdgfaaDoor
set_option linter.unusedSimpArgs false
set_option linter.unusedVariables false
open Go Go.RowKit

def ltrN (x : Nat) : Bool := (decide (97 ≤ x) && decide (x ≤ 122)) || (decide (65 ≤ x) && decide (x ≤ 90)) || decide (x = 95)
def dgtN (x : Nat) : Bool := decide (48 ≤ x) && decide (x ≤ 57)
def folN (x : Nat) : Bool := ltrN x || dgtN x || decide (x = 45)
theorem eq_n (c : UInt8) (k : Nat) (hk : k < 256) : (c == k.toUInt8) = decide (c.toNat = k) := by
  have hkk : k.toUInt8.toNat = k := by simp; omega
  rw [Bool.eq_iff_iff, beq_iff_eq, decide_eq_true_eq]
  constructor
  · intro h; rw [h, hkk]
  · intro h; exact UInt8.toNat_inj.1 (by rw [h, hkk])
theorem ltr_n (c : UInt8) : ltr c = ltrN c.toNat := by
  unfold ltr ltrN
  rw [show (95 : UInt8) = Nat.toUInt8 95 from rfl, eq_n c 95 (by decide)]
  rfl
theorem dgt_n (c : UInt8) : dgt c = dgtN c.toNat := rfl
theorem fol_n (c : UInt8) : fol c = folN c.toNat := by
  unfold fol folN
  rw [ltr_n, dgt_n, show (45 : UInt8) = Nat.toUInt8 45 from rfl, eq_n c 45 (by decide)]
set_option maxHeartbeats 2000000 in
theorem begins_c (w : World) (x : Nat) (hx : x < 256) : Calls Tryd.prog 23 #[.int .u8 (x : Int)] w fun e w' => e = .returned (.bool (ltrN x)) ∧ w = w' := by
  rcases (show (0 ≤ x ∧ x ≤ 64) ∨ (65 ≤ x ∧ x ≤ 90) ∨ (91 ≤ x ∧ x ≤ 94) ∨ (95 ≤ x ∧ x ≤ 95) ∨ (96 ≤ x ∧ x ≤ 96) ∨ (97 ≤ x ∧ x ≤ 122) ∨ (123 ≤ x ∧ x ≤ 255) by omega) with h | h | h | h | h | h | h
  · have hv : ltrN x = false := by unfold ltrN; simp; omega
    have q0a : decide ((97 : Int) ≤ (x : Int)) = false := decide_eq_false (by omega)
    have q0b : decide (97 ≤ x) = false := decide_eq_false (by omega)
    have q1a : decide ((x : Int) ≤ 122) = true := decide_eq_true (by omega)
    have q1b : decide (x ≤ 122) = true := decide_eq_true (by omega)
    have q2a : decide ((65 : Int) ≤ (x : Int)) = false := decide_eq_false (by omega)
    have q2b : decide (65 ≤ x) = false := decide_eq_false (by omega)
    have q3a : decide ((x : Int) ≤ 90) = true := decide_eq_true (by omega)
    have q3b : decide (x ≤ 90) = true := decide_eq_true (by omega)
    have q4a : decide ((x : Int) = 95) = false := decide_eq_false (by omega)
    have q4b : decide (x = 95) = false := decide_eq_false (by omega)
    have q4c : ((x : Int) == 95) = false := beq_eq_false_iff_ne.2 (by omega)
    have q4d : (x == 95) = false := beq_eq_false_iff_ne.2 (by omega)
    have HV := Lib.hid hv
    clear hv
    go_enter Tryd.func23, Tryd.ntmps23
    go_wp2_with fail
    go_ret
    exact ⟨ret_bool HV.out.symm, rfl⟩
  · have hv : ltrN x = true := by unfold ltrN; simp; omega
    have q0a : decide ((97 : Int) ≤ (x : Int)) = false := decide_eq_false (by omega)
    have q0b : decide (97 ≤ x) = false := decide_eq_false (by omega)
    have q1a : decide ((x : Int) ≤ 122) = true := decide_eq_true (by omega)
    have q1b : decide (x ≤ 122) = true := decide_eq_true (by omega)
    have q2a : decide ((65 : Int) ≤ (x : Int)) = true := decide_eq_true (by omega)
    have q2b : decide (65 ≤ x) = true := decide_eq_true (by omega)
    have q3a : decide ((x : Int) ≤ 90) = true := decide_eq_true (by omega)
    have q3b : decide (x ≤ 90) = true := decide_eq_true (by omega)
    have q4a : decide ((x : Int) = 95) = false := decide_eq_false (by omega)
    have q4b : decide (x = 95) = false := decide_eq_false (by omega)
    have q4c : ((x : Int) == 95) = false := beq_eq_false_iff_ne.2 (by omega)
    have q4d : (x == 95) = false := beq_eq_false_iff_ne.2 (by omega)
    have HV := Lib.hid hv
    clear hv
    go_enter Tryd.func23, Tryd.ntmps23
    go_wp2_with fail
    go_ret
    exact ⟨ret_bool HV.out.symm, rfl⟩
  · have hv : ltrN x = false := by unfold ltrN; simp; omega
    have q0a : decide ((97 : Int) ≤ (x : Int)) = false := decide_eq_false (by omega)
    have q0b : decide (97 ≤ x) = false := decide_eq_false (by omega)
    have q1a : decide ((x : Int) ≤ 122) = true := decide_eq_true (by omega)
    have q1b : decide (x ≤ 122) = true := decide_eq_true (by omega)
    have q2a : decide ((65 : Int) ≤ (x : Int)) = true := decide_eq_true (by omega)
    have q2b : decide (65 ≤ x) = true := decide_eq_true (by omega)
    have q3a : decide ((x : Int) ≤ 90) = false := decide_eq_false (by omega)
    have q3b : decide (x ≤ 90) = false := decide_eq_false (by omega)
    have q4a : decide ((x : Int) = 95) = false := decide_eq_false (by omega)
    have q4b : decide (x = 95) = false := decide_eq_false (by omega)
    have q4c : ((x : Int) == 95) = false := beq_eq_false_iff_ne.2 (by omega)
    have q4d : (x == 95) = false := beq_eq_false_iff_ne.2 (by omega)
    have HV := Lib.hid hv
    clear hv
    go_enter Tryd.func23, Tryd.ntmps23
    go_wp2_with fail
    go_ret
    exact ⟨ret_bool HV.out.symm, rfl⟩
  · have hv : ltrN x = true := by unfold ltrN; simp; omega
    have q0a : decide ((97 : Int) ≤ (x : Int)) = false := decide_eq_false (by omega)
    have q0b : decide (97 ≤ x) = false := decide_eq_false (by omega)
    have q1a : decide ((x : Int) ≤ 122) = true := decide_eq_true (by omega)
    have q1b : decide (x ≤ 122) = true := decide_eq_true (by omega)
    have q2a : decide ((65 : Int) ≤ (x : Int)) = true := decide_eq_true (by omega)
    have q2b : decide (65 ≤ x) = true := decide_eq_true (by omega)
    have q3a : decide ((x : Int) ≤ 90) = false := decide_eq_false (by omega)
    have q3b : decide (x ≤ 90) = false := decide_eq_false (by omega)
    have q4a : decide ((x : Int) = 95) = true := decide_eq_true (by omega)
    have q4b : decide (x = 95) = true := decide_eq_true (by omega)
    have q4c : ((x : Int) == 95) = true := beq_iff_eq.2 (by omega)
    have q4d : (x == 95) = true := beq_iff_eq.2 (by omega)
    have HV := Lib.hid hv
    clear hv
    go_enter Tryd.func23, Tryd.ntmps23
    go_wp2_with fail
    go_ret
    exact ⟨ret_bool HV.out.symm, rfl⟩
  · have hv : ltrN x = false := by unfold ltrN; simp; omega
    have q0a : decide ((97 : Int) ≤ (x : Int)) = false := decide_eq_false (by omega)
    have q0b : decide (97 ≤ x) = false := decide_eq_false (by omega)
    have q1a : decide ((x : Int) ≤ 122) = true := decide_eq_true (by omega)
    have q1b : decide (x ≤ 122) = true := decide_eq_true (by omega)
    have q2a : decide ((65 : Int) ≤ (x : Int)) = true := decide_eq_true (by omega)
    have q2b : decide (65 ≤ x) = true := decide_eq_true (by omega)
    have q3a : decide ((x : Int) ≤ 90) = false := decide_eq_false (by omega)
    have q3b : decide (x ≤ 90) = false := decide_eq_false (by omega)
    have q4a : decide ((x : Int) = 95) = false := decide_eq_false (by omega)
    have q4b : decide (x = 95) = false := decide_eq_false (by omega)
    have q4c : ((x : Int) == 95) = false := beq_eq_false_iff_ne.2 (by omega)
    have q4d : (x == 95) = false := beq_eq_false_iff_ne.2 (by omega)
    have HV := Lib.hid hv
    clear hv
    go_enter Tryd.func23, Tryd.ntmps23
    go_wp2_with fail
    go_ret
    exact ⟨ret_bool HV.out.symm, rfl⟩
  · have hv : ltrN x = true := by unfold ltrN; simp; omega
    have q0a : decide ((97 : Int) ≤ (x : Int)) = true := decide_eq_true (by omega)
    have q0b : decide (97 ≤ x) = true := decide_eq_true (by omega)
    have q1a : decide ((x : Int) ≤ 122) = true := decide_eq_true (by omega)
    have q1b : decide (x ≤ 122) = true := decide_eq_true (by omega)
    have q2a : decide ((65 : Int) ≤ (x : Int)) = true := decide_eq_true (by omega)
    have q2b : decide (65 ≤ x) = true := decide_eq_true (by omega)
    have q3a : decide ((x : Int) ≤ 90) = false := decide_eq_false (by omega)
    have q3b : decide (x ≤ 90) = false := decide_eq_false (by omega)
    have q4a : decide ((x : Int) = 95) = false := decide_eq_false (by omega)
    have q4b : decide (x = 95) = false := decide_eq_false (by omega)
    have q4c : ((x : Int) == 95) = false := beq_eq_false_iff_ne.2 (by omega)
    have q4d : (x == 95) = false := beq_eq_false_iff_ne.2 (by omega)
    have HV := Lib.hid hv
    clear hv
    go_enter Tryd.func23, Tryd.ntmps23
    go_wp2_with fail
    go_ret
    exact ⟨ret_bool HV.out.symm, rfl⟩
  · have hv : ltrN x = false := by unfold ltrN; simp; omega
    have q0a : decide ((97 : Int) ≤ (x : Int)) = true := decide_eq_true (by omega)
    have q0b : decide (97 ≤ x) = true := decide_eq_true (by omega)
    have q1a : decide ((x : Int) ≤ 122) = false := decide_eq_false (by omega)
    have q1b : decide (x ≤ 122) = false := decide_eq_false (by omega)
    have q2a : decide ((65 : Int) ≤ (x : Int)) = true := decide_eq_true (by omega)
    have q2b : decide (65 ≤ x) = true := decide_eq_true (by omega)
    have q3a : decide ((x : Int) ≤ 90) = false := decide_eq_false (by omega)
    have q3b : decide (x ≤ 90) = false := decide_eq_false (by omega)
    have q4a : decide ((x : Int) = 95) = false := decide_eq_false (by omega)
    have q4b : decide (x = 95) = false := decide_eq_false (by omega)
    have q4c : ((x : Int) == 95) = false := beq_eq_false_iff_ne.2 (by omega)
    have q4d : (x == 95) = false := beq_eq_false_iff_ne.2 (by omega)
    have HV := Lib.hid hv
    clear hv
    go_enter Tryd.func23, Tryd.ntmps23
    go_wp2_with fail
    go_ret
    exact ⟨ret_bool HV.out.symm, rfl⟩
set_option maxHeartbeats 2000000 in
theorem digit_c (w : World) (x : Nat) (hx : x < 256) : Calls Tryd.prog 37 #[.int .u8 (x : Int)] w fun e w' => e = .returned (.bool (dgtN x)) ∧ w = w' := by
  rcases (show (0 ≤ x ∧ x ≤ 47) ∨ (48 ≤ x ∧ x ≤ 57) ∨ (58 ≤ x ∧ x ≤ 255) by omega) with h | h | h
  · have hv : dgtN x = false := by unfold dgtN; simp; omega
    have q0a : decide ((48 : Int) ≤ (x : Int)) = false := decide_eq_false (by omega)
    have q0b : decide (48 ≤ x) = false := decide_eq_false (by omega)
    have q1a : decide ((x : Int) ≤ 57) = true := decide_eq_true (by omega)
    have q1b : decide (x ≤ 57) = true := decide_eq_true (by omega)
    have HV := Lib.hid hv
    clear hv
    go_enter Tryd.func37, Tryd.ntmps37
    go_wp2_with fail
    go_ret
    exact ⟨ret_bool HV.out.symm, rfl⟩
  · have hv : dgtN x = true := by unfold dgtN; simp; omega
    have q0a : decide ((48 : Int) ≤ (x : Int)) = true := decide_eq_true (by omega)
    have q0b : decide (48 ≤ x) = true := decide_eq_true (by omega)
    have q1a : decide ((x : Int) ≤ 57) = true := decide_eq_true (by omega)
    have q1b : decide (x ≤ 57) = true := decide_eq_true (by omega)
    have HV := Lib.hid hv
    clear hv
    go_enter Tryd.func37, Tryd.ntmps37
    go_wp2_with fail
    go_ret
    exact ⟨ret_bool HV.out.symm, rfl⟩
  · have hv : dgtN x = false := by unfold dgtN; simp; omega
    have q0a : decide ((48 : Int) ≤ (x : Int)) = true := decide_eq_true (by omega)
    have q0b : decide (48 ≤ x) = true := decide_eq_true (by omega)
    have q1a : decide ((x : Int) ≤ 57) = false := decide_eq_false (by omega)
    have q1b : decide (x ≤ 57) = false := decide_eq_false (by omega)
    have HV := Lib.hid hv
    clear hv
    go_enter Tryd.func37, Tryd.ntmps37
    go_wp2_with fail
    go_ret
    exact ⟨ret_bool HV.out.symm, rfl⟩
set_option maxHeartbeats 2000000 in
theorem follows_c (w : World) (x : Nat) (hx : x < 256) : Calls Tryd.prog 45 #[.int .u8 (x : Int)] w fun e w' => e = .returned (.bool (folN x)) ∧ w = w' := by
  have B := Lib.hid (begins_c w x hx)
  have D := Lib.hid (digit_c w x hx)
  have hv : folN x = (ltrN x || dgtN x || decide (x = 45)) := rfl
  have HV := Lib.hid hv
  clear hv
  cases h1 : ltrN x with
  | true =>
    rw [h1] at B HV
    clear h1
    go_enter Tryd.func45, Tryd.ntmps45
    go_wp2_with fail
    refine B.out.mono ?_
    rintro e w' ⟨rfl, rfl⟩
    go_wp2_with fail
    go_ret
    exact ⟨ret_bool (by rw [HV.out]; rfl), rfl⟩
  | false =>
    cases h2 : dgtN x with
    | true =>
      rw [h1, h2] at HV
      rw [h1] at B
      rw [h2] at D
      clear h1 h2
      go_enter Tryd.func45, Tryd.ntmps45
      go_wp2_with fail
      refine B.out.mono ?_
      rintro e w' ⟨rfl, rfl⟩
      go_wp2_with fail
      refine D.out.mono ?_
      rintro e w' ⟨rfl, rfl⟩
      go_wp2_with fail
      go_ret
      exact ⟨ret_bool (by rw [HV.out]; rfl), rfl⟩
    | false =>
      rw [h1, h2] at HV
      rw [h1] at B
      rw [h2] at D
      clear h1 h2
      go_enter Tryd.func45, Tryd.ntmps45
      go_wp2_with fail
      refine B.out.mono ?_
      rintro e w' ⟨rfl, rfl⟩
      go_wp2_with fail
      refine D.out.mono ?_
      rintro e w' ⟨rfl, rfl⟩
      by_cases h3 : x = 45
      · have e3 : ((x : Int) == 45) = true := beq_iff_eq.2 (by omega)
        have e3' : decide (x = 45) = true := decide_eq_true h3
        have HW : Hid (folN x = true) := Lib.hid (by rw [HV.out, e3']; rfl)
        clear h3
        go_wp2_with fail
        go_ret
        exact ⟨ret_bool HW.out.symm, rfl⟩
      · have e3 : ((x : Int) == 45) = false := beq_eq_false_iff_ne.2 (by omega)
        have e3' : decide (x = 45) = false := decide_eq_false h3
        have HW : Hid (folN x = false) := Lib.hid (by rw [HV.out, e3']; rfl)
        clear h3
        go_wp2_with fail
        go_ret
        exact ⟨ret_bool HW.out.symm, rfl⟩
end Go.Proofs.YtimopkmlcjdgfaaDoor
