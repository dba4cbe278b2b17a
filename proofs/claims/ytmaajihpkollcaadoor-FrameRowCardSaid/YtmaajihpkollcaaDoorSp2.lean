/-
  PLAIN: how many bits of a word are set, odd or even, stays under sh1: so an odd number of turned bits never cancels.
-/
import Derived.Test.YtmaajihpkollcaaDoorCrc
namespace Go.Proofs.YtmaajihpkollcaaDoor
set_option linter.unusedSimpArgs false
set_option linter.unusedVariables false

def parN : Nat → Nat → Bool
  | 0, _ => false
  | k + 1, y => (y % 2 == 1) ^^ parN k (y / 2)
theorem parN_zero : ∀ k, parN k 0 = false
  | 0 => rfl
  | k + 1 => by rw [parN, Nat.zero_div, parN_zero k]; rfl
theorem parN_xor : ∀ k a b, parN k (a ^^^ b) = (parN k a ^^ parN k b)
  | 0, _, _ => rfl
  | k + 1, a, b => by
    rw [parN, parN, parN, xor_div2, parN_xor k, xor_mod2]
    rcases Nat.mod_two_eq_zero_or_one a with ha | ha <;> rcases Nat.mod_two_eq_zero_or_one b with hb | hb <;> rw [ha, hb] <;> cases parN k (a / 2) <;> cases parN k (b / 2) <;> rfl
theorem parN_more : ∀ k y, y < 2 ^ k → parN (k + 1) y = parN k y
  | 0, y, h => by
    obtain rfl : y = 0 := by simpa using h
    rfl
  | k + 1, y, h => by
    rw [parN, parN_more k (y / 2) (by rw [Nat.pow_succ] at h; omega), parN]
theorem par_sh1 (y : Nat) (h : y < 4294967296) : parN 32 (sh1 y) = parN 32 y := by
  have e : parN 32 y = ((y % 2 == 1) ^^ parN 32 (y / 2)) := (parN_more 32 y h).symm
  rw [e]
  unfold sh1
  split
  · rename_i hy
    rw [parN_xor, hy, show parN 32 2197175160 = true from by decide]
    cases parN 32 (y / 2) <;> rfl
  · rename_i hy
    rw [show y % 2 = 0 from by omega]
    cases parN 32 (y / 2) <;> rfl
theorem par_shN (k y : Nat) (h : y < 4294967296) : parN 32 (shN k y) = parN 32 y := by
  induction k with
  | zero => rfl
  | succ k ih => rw [shN, par_sh1 _ (shN_lt k y h), ih]
/-- Three turned bits do not cancel. -/
theorem three_bits (i j k : Nat) : shN i 2147483648 ^^^ shN j 2147483648 ^^^ shN k 2147483648 ≠ 0 := by
  intro e
  have h := congrArg (parN 32) e
  rw [parN_xor, parN_xor, par_shN _ _ (by omega), par_shN _ _ (by omega), par_shN _ _ (by omega), parN_zero, show parN 32 2147483648 = true from by decide] at h
  cases h
end Go.Proofs.YtmaajihpkollcaaDoor
