/-
  CONTRACTS of rev.May and its reference's.
-/
import Derived.Test.YtjaocgmicdnghaaGreatDoorRevP
import Derived.Test.YtjaocgmicdnghaaGreatDoorPar3
import Derived.Test.YtjaocgmicdnghaaGreatDoorChecked
import Derived.Laws.Rows
import Derived.Deep.MidRow
namespace Go.Proofs.YtjaocgmicdnghaaGreatDoor
set_option linter.unusedSimpArgs false
set_option linter.unusedVariables false
open Go Go.RowKit

/-- A name's cells. -/
def rc (g : Nat) (s : List UInt8) : List Value := .int .u64 (g : Nat) :: bv s
theorem rc_len {g : Nat} {s : List UInt8} (h : s.length = 16) : (rc g s).length = 17 := by simp [rc, bv_length, h]
theorem mayG_eq (g : Nat) : (decide ((1 : Int) ≤ (g : Nat)) && decide (((g : Nat) : Int) ≤ 4611686018427387903)) = mayG g := by
  unfold mayG
  rw [Bool.eq_iff_iff]
  simp only [Bool.and_eq_true, decide_eq_true_eq]
  omega

set_option maxRecDepth 100000 in
set_option maxHeartbeats 1000000 in
theorem may_c (w : World) (g : Nat) (s : List UInt8) (hs : s.length = 16) (hg : g < 18446744073709551616) :
    Calls Tryz.prog 8 #[.agg (rc g s).toArray] w fun e w' => e = .returned (.bool (mayG g)) ∧ Fr (fun _ => False) w w' := by
  obtain ⟨C, hC⟩ : ∃ C, (rc g s).toArray = C := ⟨_, rfl⟩
  have hsz : C.size = 17 := by rw [← hC]; simpa using rc_len hs
  have h0 : C[0]'(by omega) = .int .u64 (g : Nat) := by subst hC; rfl
  rw [hC]
  clear hC
  have hm := mayG_eq g
  obtain ⟨r, hr⟩ : ∃ r, mayG g = r := ⟨_, rfl⟩
  rw [hr] at hm ⊢
  clear hr
  have HM := Lib.hid hm
  clear hm
  go_enter Tryz.func8, Tryz.ntmps8
  by_cases h1 : (1 : Int) ≤ (g : Nat)
  · have hd1 : decide ((1 : Int) ≤ (g : Nat)) = true := decide_eq_true h1
    go_wp2_with fail
    go_ret
    refine ⟨?_, (Fr.refl _ w).alloc _⟩
    rw [← HM.out, hd1]
    simp
  · have hd1 : decide ((1 : Int) ≤ (g : Nat)) = false := decide_eq_false h1
    go_wp2_with fail
    go_ret
    refine ⟨?_, (Fr.refl _ w).alloc _⟩
    rw [← HM.out, hd1]
    simp
theorem rmayG_eq (g : Nat) : (decide ((0 : Int) < (g : Nat)) && decide (((g : Nat) : Int) < 4611686018427387904)) = mayG g := by
  unfold mayG
  rw [Bool.eq_iff_iff]
  simp only [Bool.and_eq_true, decide_eq_true_eq]
  omega
set_option maxRecDepth 100000 in
set_option maxHeartbeats 1000000 in
theorem rMay_c (w : World) (g : Nat) (s : List UInt8) (hs : s.length = 16) (hg : g < 18446744073709551616) :
    Calls Tryz.prog 9 #[.agg (rc g s).toArray] w fun e w' => e = .returned (.bool (mayG g)) ∧ Fr (fun _ => False) w w' := by
  obtain ⟨C, hC⟩ : ∃ C, (rc g s).toArray = C := ⟨_, rfl⟩
  have hsz : C.size = 17 := by rw [← hC]; simpa using rc_len hs
  have h0 : C[0]'(by omega) = .int .u64 (g : Nat) := by subst hC; rfl
  rw [hC]
  clear hC
  have hm := rmayG_eq g
  obtain ⟨r, hr⟩ : ∃ r, mayG g = r := ⟨_, rfl⟩
  rw [hr] at hm ⊢
  clear hr
  have HM := Lib.hid hm
  clear hm
  go_enter Tryz.func9, Tryz.ntmps9
  by_cases h1 : (0 : Int) < (g : Nat)
  · have hd1 : decide ((0 : Int) < (g : Nat)) = true := decide_eq_true h1
    go_wp2_with fail
    go_ret
    refine ⟨?_, (Fr.refl _ w).alloc _⟩
    rw [← HM.out, hd1]
    simp
  · have hd1 : decide ((0 : Int) < (g : Nat)) = false := decide_eq_false h1
    go_wp2_with fail
    go_ret
    refine ⟨?_, (Fr.refl _ w).alloc _⟩
    rw [← HM.out, hd1]
    simp
end Go.Proofs.YtjaocgmicdnghaaGreatDoor
