/-
  THE DOCUMENT's NUMBER, plain: digits one behind the other, and whether the number stands just so. No program is walked here.
-/
import Derived.Test.YtimopkmlcjdgfaaDoorRfp
namespace Go.Proofs.YtimopkmlcjdgfaaDoor
set_option linter.unusedSimpArgs false
set_option linter.unusedVariables false
open Go Go.RowKit Go.Lib

/-- What the reference makes of digits; none: no digit, or too great. -/
def rnum : Nat → List UInt8 → Option Nat
  | n, [] => some n
  | n, b :: r => if dgt b && decide (n ≤ 4611686018427387904) then rnum ((10 * n % 18446744073709551616 + (b.toNat - 48)) % 18446744073709551616) r else none
theorem rnum_step {n : Nat} {b : UInt8} {r : List UInt8} (h : dgt b = true) (hn : n ≤ 4611686018427387904) : rnum n (b :: r) = rnum ((10 * n % 18446744073709551616 + (b.toNat - 48)) % 18446744073709551616) r := by
  show (if dgt b && decide (n ≤ 4611686018427387904) then _ else none) = _
  rw [if_pos (by rw [h, decide_eq_true hn]; rfl)]
theorem rnum_no {n : Nat} {b : UInt8} {r : List UInt8} (h : dgt b = false ∨ ¬ n ≤ 4611686018427387904) : rnum n (b :: r) = none := by
  show (if dgt b && decide (n ≤ 4611686018427387904) then _ else none) = _
  rw [if_neg]
  intro e
  rw [Bool.and_eq_true, decide_eq_true_eq] at e
  rcases h with h | h
  · rw [h] at e; exact absurd e.1 (by decide)
  · exact h e.2
theorem rnum_app : ∀ (l : List UInt8) (n v : Nat) (r : List UInt8), rnum n l = some v → rnum n (l ++ r) = rnum v r
  | [], n, v, r, h => by
    have h' : some n = some v := h
    injection h' with h'
    rw [h']; rfl
  | b :: l, n, v, r, h => by
    by_cases hc : dgt b = true ∧ n ≤ 4611686018427387904
    · rw [rnum_step hc.1 hc.2] at h
      rw [List.cons_append, rnum_step hc.1 hc.2]
      exact rnum_app l _ v r h
    · rw [rnum_no (by
        by_cases h1 : dgt b = true
        · exact .inr (fun e => hc ⟨h1, e⟩)
        · exact .inl (by simpa using h1))] at h
      cases h
theorem rnum_dec (u : Nat) (hu : u ≤ 9223372036854775808) : rnum 0 (decDigits u) = some u := by
  induction u using Nat.strongRecOn with
  | _ u ih =>
    rw [decDigits]
    split
    · rename_i h
      rw [rnum_step (dgt_of (by rw [digit_toNat h]; omega)) (by omega), digit_toNat h]
      show some _ = some _
      congr 1
      omega
    · rename_i h
      rw [rnum_app _ _ _ _ (ih (u / 10) (by omega) (by omega))]
      have h10 : u % 10 < 10 := by omega
      rw [rnum_step (dgt_of (by rw [digit_toNat h10]; omega)) (by omega), digit_toNat h10]
      show some _ = some _
      congr 1
      omega
theorem itoa_neg {v : Int} (h : v < 0) : itoa v = 45 :: decDigits v.natAbs := by unfold itoa; rw [if_pos h]
theorem itoa_nat {v : Int} (h : 0 ≤ v) : itoa v = decDigits v.natAbs := by
  unfold itoa
  rw [if_neg (by omega)]
  congr 1
  omega
theorem dec_no45 {u : Nat} {r : List UInt8} (h : decDigits u = 45 :: r) : False := by
  have := decDigits_digit u 45 (by rw [h]; exact List.mem_cons_self)
  exact absurd this (by decide)
/-- With a sign. -/
theorem num_minus {d : List UInt8} {v : Int} (h : NumIs (45 :: d) v) : ∃ u : Nat, 0 < u ∧ u ≤ 9223372036854775808 ∧ v = -(u : Int) ∧ d = decDigits u := by
  obtain ⟨e, h0, h1⟩ := h
  by_cases hv : v < 0
  · rw [itoa_neg hv] at e
    injection e with _ e
    exact ⟨v.natAbs, by omega, by omega, by omega, e⟩
  · rw [itoa_nat (by omega)] at e
    exact (dec_no45 e.symm).elim
theorem num_plus {c : UInt8} {r : List UInt8} (hc : c ≠ 45) {v : Int} (h : NumIs (c :: r) v) : ∃ u : Nat, u < 9223372036854775808 ∧ v = (u : Int) ∧ c :: r = decDigits u := by
  obtain ⟨e, h0, h1⟩ := h
  by_cases hv : v < 0
  · rw [itoa_neg hv] at e
    injection e with e _
    exact absurd e hc
  · rw [itoa_nat (by omega)] at e
    exact ⟨v.natAbs, by omega, by omega, e⟩
theorem minus_is {d : List UInt8} {u : Nat} (h0 : 0 < u) (h1 : u ≤ 9223372036854775808) (h : decDigits u = d) : NumIs (45 :: d) (-(u : Int)) := by
  refine ⟨?_, by omega, by omega⟩
  rw [itoa_neg (by omega), show (-(u : Int)).natAbs = u by omega, h]
theorem plus_is {s : List UInt8} {u : Nat} (h1 : u < 9223372036854775808) (h : decDigits u = s) : NumIs s (u : Int) := by
  refine ⟨?_, by omega, by omega⟩
  rw [itoa_nat (by omega), show ((u : Int)).natAbs = u by omega, h]
theorem minus_no {d : List UInt8} (h : ∀ n, rnum 0 d = some n → ¬ (0 < n ∧ n ≤ 9223372036854775808 ∧ decDigits n = d)) : ∀ v, ¬ NumIs (45 :: d) v := by
  intro v hv
  obtain ⟨u, h1, h2, -, h4⟩ := num_minus hv
  exact h u (by rw [h4]; exact rnum_dec u h2) ⟨h1, h2, h4.symm⟩
theorem plus_no {c : UInt8} {r : List UInt8} (hc : c ≠ 45) (h : ∀ n, rnum 0 (c :: r) = some n → ¬ (n < 9223372036854775808 ∧ decDigits n = c :: r)) : ∀ v, ¬ NumIs (c :: r) v := by
  intro v hv
  obtain ⟨u, h1, -, h4⟩ := num_plus hc hv
  exact h u (by rw [h4]; exact rnum_dec u (by omega)) ⟨h1, h4.symm⟩
end Go.Proofs.YtimopkmlcjdgfaaDoor
