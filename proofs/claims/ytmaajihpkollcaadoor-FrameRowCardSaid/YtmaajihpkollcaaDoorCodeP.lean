/-
  PLAIN: the encoding of numbers as bytes (chapter 2). No program is named here.
-/
import Derived.Lib.BitFns
namespace Go.Proofs.YtmaajihpkollcaaDoor
set_option linter.unusedSimpArgs false
set_option linter.unusedVariables false
open Go

/-- How many bytes a number needs (0: none). -/
def need (x : Nat) : Nat :=
  if x = 0 then 0 else if x < 256 then 1 else if x < 65536 then 2 else if x < 16777216 then 3 else if x < 4294967296 then 4
  else if x < 1099511627776 then 5 else if x < 281474976710656 then 6 else if x < 72057594037927936 then 7 else 8
/-- The length of a number's encoding. -/
def size (x : Nat) : Nat := if x ≤ 247 then 1 else 1 + need x
theorem need_le (x : Nat) : need x ≤ 8 := by unfold need; (repeat' split) <;> omega
theorem size_le (x : Nat) : 1 ≤ size x ∧ size x ≤ 9 := by have := need_le x; unfold size; split <;> omega
theorem need_bits (x : Nat) (h : x < 18446744073709551616) : (Lib.bitLen x + 7) / 8 = need x := by
  have b : ∀ i, i < 256 → i ≠ 0 → 1 ≤ Lib.bitLen i ∧ Lib.bitLen i ≤ 8 := by decide +kernel
  unfold need
  split
  · subst_vars; decide +kernel
  split
  · have := b x (by omega) (by omega); omega
  split
  · have := b (x / 256) (by omega) (by omega); rw [Lib.bitLen_shift8 x (by omega) h]; omega
  split
  · have := b (x / 65536) (by omega) (by omega); rw [Lib.bitLen_shift16 x (by omega) h]; omega
  split
  · have := b (x / 16777216) (by omega) (by omega); rw [Lib.bitLen_shift24 x (by omega) h]; omega
  split
  · have := b (x / 4294967296) (by omega) (by omega); rw [Lib.bitLen_shift32 x (by omega) h]; omega
  split
  · have := b (x / 1099511627776) (by omega) (by omega); rw [Lib.bitLen_shift40 x (by omega) h]; omega
  split
  · have := b (x / 281474976710656) (by omega) (by omega); rw [Lib.bitLen_shift48 x (by omega) h]; omega
  · have := b (x / 72057594037927936) (by omega) (by omega); rw [Lib.bitLen_shift56 x (by omega) h]; omega

/-- A byte. -/
def by8 (x : Nat) : UInt8 := UInt8.ofNat x
theorem by8_toNat (x : Nat) : (by8 x).toNat = x % 256 := by simp [by8]
/-- The last n bytes of a number, the most significant one first. -/
def be : Nat → Nat → List UInt8
  | 0, _ => []
  | n + 1, x => be n (x / 256) ++ [by8 x]
theorem be_length : ∀ (n x : Nat), (be n x).length = n
  | 0, _ => rfl
  | n + 1, x => by simp [be, be_length n]
theorem be_cons : ∀ (t x : Nat), be (t + 1) x = by8 (x / 256 ^ t) :: be t x
  | 0, x => by simp [be]
  | t + 1, x => by
    rw [be, be_cons t (x / 256), be, Nat.div_div_eq_div_mul, Nat.pow_succ, Nat.mul_comm 256]
    rfl
/-- The encoding of a number. -/
def enc (x : Nat) : List UInt8 := if x ≤ 247 then [by8 x] else by8 (247 + need x) :: be (need x) x
theorem enc_length (x : Nat) : (enc x).length = size x := by
  unfold enc size
  split
  · rfl
  · simp [be_length]; omega
theorem enc_one (x : Nat) (h : size x = 1) : enc x = be 1 x := by
  unfold size at h
  unfold enc
  split at h
  · rename_i h1; rw [if_pos h1]; rfl
  · rename_i h1
    exfalso
    have : need x ≠ 0 := by unfold need; (repeat' split) <;> omega
    omega
theorem enc_more (x : Nat) (h : size x ≠ 1) : enc x = by8 (247 + (size x - 1)) :: be (size x - 1) x := by
  unfold size at h ⊢
  unfold enc
  split at h
  · exact absurd rfl h
  · rename_i h1; rw [if_neg h1, if_neg h1]; simp
/-- A row of bytes as a number. -/
def num (l : List UInt8) : Nat := l.foldl (fun x c => x * 256 + c.toNat) 0
theorem num_snoc (l : List UInt8) (c : UInt8) : num (l ++ [c]) = num l * 256 + c.toNat := by simp [num]
theorem num_be : ∀ (n x : Nat), num (be n x) = x % 256 ^ n
  | 0, x => by simp [be, num, Nat.mod_one]
  | n + 1, x => by
    rw [be, num_snoc, num_be n, by8_toNat, Nat.pow_succ, Nat.mul_comm (256 ^ n) 256, Nat.mod_mul]
    omega
theorem num_lt_aux : ∀ (l : List UInt8) (a : Nat), l.foldl (fun x c => x * 256 + c.toNat) a < (a + 1) * 256 ^ l.length
  | [], a => by simp
  | c :: l, a => by
    have h := num_lt_aux l (a * 256 + c.toNat)
    have := c.toNat_lt
    rw [List.foldl_cons, List.length_cons, Nat.pow_succ, Nat.mul_comm (256 ^ l.length) 256, ← Nat.mul_assoc]
    exact Nat.lt_of_lt_of_le h (Nat.mul_le_mul_right _ (by omega))
theorem num_lt (l : List UInt8) : num l < 256 ^ l.length := by have := num_lt_aux l 0; simpa [num] using this
end Go.Proofs.YtmaajihpkollcaaDoor
