/-
  PLAIN: what is read of a number's encoding, and only of it. No program is named here.
-/
import Derived.Test.YtokhebplmldfkaaRd3
namespace Go.Proofs.Ytokhebplmldfkaa
set_option linter.unusedSimpArgs false
set_option linter.unusedVariables false
open Go

theorem by8_of (c : UInt8) : by8 c.toNat = c := by simp [by8]
theorem by8_mod (x : Nat) (c : UInt8) (h : x % 256 = c.toNat) : by8 x = c := UInt8.toNat_inj.1 (by rw [by8_toNat]; exact h)
theorem be_num_aux : ∀ (n : Nat) (l : List UInt8), l.length = n → be n (num l) = l
  | 0, l, h => by rw [List.eq_nil_of_length_eq_zero h]; rfl
  | n + 1, l, h => by
    obtain ⟨m, c, rfl⟩ : ∃ m c, l = m ++ [c] := ⟨l.dropLast, l.getLast (by rintro rfl; simp at h), (List.dropLast_concat_getLast _).symm⟩
    have hm : m.length = n := by simpa using h
    have hc := c.toNat_lt
    rw [num_snoc, be, show (num m * 256 + c.toNat) / 256 = num m by omega, be_num_aux n m hm, by8_mod _ c (by omega)]
theorem be_num (l : List UInt8) : be l.length (num l) = l := be_num_aux _ l rfl
theorem need_pow (x : Nat) (h : x < 18446744073709551616) : x < 256 ^ need x := by
  unfold need
  (repeat' split) <;> simp <;> omega
/-- What was read has the number's encoding. -/
theorem rdNum_some {m : List UInt8} {x n : Nat} (h : rdNum m = some (x, n)) : n ≤ m.length ∧ m.take n = enc x ∧ n = size x ∧ x < 18446744073709551616 := by
  unfold rdNum at h
  split at h
  · cases h
  · rename_i c r
    have hc := c.toNat_lt
    split at h
    · rename_i h1
      injection h with h
      injection h with h2 h3
      subst h2 h3
      refine ⟨by simp, ?_, ?_, by omega⟩
      · simp [enc, if_pos h1, by8_of]
      · simp [size, if_pos h1]
    · rename_i h1
      split at h
      · cases h
      · rename_i h2
        split at h
        · rename_i h3
          injection h with h
          injection h with h4 h5
          subst h4 h5
          have hl : (r.take (c.toNat - 247)).length = c.toNat - 247 := by rw [List.length_take]; omega
          have hX : ¬ num (r.take (c.toNat - 247)) ≤ 247 := by
            intro hle
            unfold size at h3
            rw [if_pos hle] at h3
            omega
          have hn : need (num (r.take (c.toNat - 247))) = c.toNat - 247 := by
            unfold size at h3
            rw [if_neg hX] at h3
            omega
          refine ⟨by simp; omega, ?_, h3.symm, ?_⟩
          · rw [List.take_succ_cons, enc, if_neg hX, hn, show 247 + (c.toNat - 247) = c.toNat by omega, by8_of]
            have := be_num (r.take (c.toNat - 247))
            rw [hl] at this
            rw [this]
          · exact Nat.lt_of_lt_of_le (num_lt _) (by rw [hl]; exact pow256_mono (b := 8) (by omega))
        · cases h
/-- A number's encoding is read as it, whatever stands behind. -/
theorem rdNum_enc (x : Nat) (h : x < 18446744073709551616) (r : List UInt8) : rdNum (enc x ++ r) = some (x, size x) := by
  have hn := need_le x
  unfold enc
  by_cases h1 : x ≤ 247
  · rw [if_pos h1]
    simp only [List.cons_append, List.nil_append, rdNum, by8_toNat]
    rw [if_pos (by omega)]
    simp [size, if_pos h1]
    omega
  · have hp := need_pow x h
    have hn0 : need x ≠ 0 := by unfold need; (repeat' split) <;> omega
    have hs : size x = 1 + need x := by unfold size; rw [if_neg h1]
    rw [if_neg h1]
    simp only [List.cons_append, rdNum, by8_toNat]
    rw [show (247 + need x) % 256 = 247 + need x by omega, if_neg (by omega), show 247 + need x - 247 = need x by omega, if_neg (by simp [be_length])]
    have ht : (be (need x) x ++ r).take (need x) = be (need x) x := by rw [List.take_append_of_le_length (by rw [be_length]; exact Nat.le_refl _), List.take_of_length_le (by rw [be_length]; exact Nat.le_refl _)]
    rw [ht, num_be, Nat.mod_eq_of_lt hp, if_pos (by omega)]
    congr 2
    omega
end Go.Proofs.Ytokhebplmldfkaa
