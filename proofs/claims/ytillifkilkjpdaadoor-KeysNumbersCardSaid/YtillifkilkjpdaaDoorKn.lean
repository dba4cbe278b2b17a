/-
  KeysNumbers.
-/
import Derived.Test.YtillifkilkjpdaaDoorAwk
namespace Go.Proofs.YtillifkilkjpdaaDoor
set_option linter.unusedSimpArgs false
set_option linter.unusedVariables false
open Go Go.RowKit

theorem kl_snoc : ∀ (a b : List UInt8) (c d : UInt8), a.length = b.length → kl (a ++ [c]) (b ++ [d]) = (kl a b || (decide (a = b) && decide (c < d)))
  | [], [], c, d, _ => by simp [kl, Op.bytesLess]
  | [], _ :: _, _, _, h => by simp at h
  | _ :: _, [], _, _, h => by simp at h
  | x :: a, y :: b, c, d, h => by
    have ih := kl_snoc a b c d (by simpa using h)
    simp only [kl, List.cons_append, Op.bytesLess] at ih ⊢
    rw [ih]
    by_cases hxy : x = y
    · subst hxy
      have hx : ¬ x < x := UInt8.lt_irrefl x
      simp [hx]
    · have h2 : (x == y) = false := by simpa using hxy
      simp [hxy, h2]
theorem u8_digit (x : Nat) (h : x < 10) : (UInt8.ofNat (48 + x)).toNat = 48 + x := by
  rw [UInt8.toNat_ofNat']
  omega
theorem kl_digs : ∀ (k x y : Nat), kl (digs k x) (digs k y) = true ↔ x % 10 ^ k < y % 10 ^ k
  | 0, x, y => by simp [digs, kl, Op.bytesLess, Nat.mod_one]
  | k + 1, x, y => by
    have hd : ∀ a b, digs k a = digs k b → a % 10 ^ k = b % 10 ^ k := fun a b h => by
      have h1 := kl_digs k a b
      have h2 := kl_digs k b a
      rw [h, kl_irr] at h1
      rw [h, kl_irr] at h2
      simp at h1 h2
      omega
    have he : ∀ a b, a % 10 ^ k = b % 10 ^ k → digs k a = digs k b := fun a b h => by
      have h1 := kl_digs k a b
      have h2 := kl_digs k b a
      refine kl_tot _ _ ?_ ?_
      · rw [Bool.eq_false_iff]; intro h3; have := h1.1 h3; omega
      · rw [Bool.eq_false_iff]; intro h3; have := h2.1 h3; omega
    have e : ∀ z, z % 10 ^ (k + 1) = z / 10 % 10 ^ k * 10 + z % 10 := fun z => by
      rw [Nat.pow_succ, Nat.mul_comm (10 ^ k) 10, Nat.mod_mul]
      omega
    rw [digs, digs, kl_snoc _ _ _ _ (by rw [digs_length, digs_length]), e x, e y]
    have hx := Nat.mod_lt x (show 10 > 0 by decide)
    have hy := Nat.mod_lt y (show 10 > 0 by decide)
    have hlt : (UInt8.ofNat (48 + x % 10) < UInt8.ofNat (48 + y % 10)) ↔ x % 10 < y % 10 := by
      rw [UInt8.lt_iff_toNat_lt, u8_digit _ hx, u8_digit _ hy]
      omega
    simp only [Bool.or_eq_true, Bool.and_eq_true, decide_eq_true_eq, hlt, kl_digs k (x / 10) (y / 10)]
    constructor
    · rintro (h | ⟨h, h2⟩)
      · omega
      · have := hd _ _ h; omega
    · intro h
      by_cases h1 : x / 10 % 10 ^ k < y / 10 % 10 ^ k
      · exact .inl h1
      · exact .inr ⟨he _ _ (by omega), by omega⟩
theorem kl_keyNum (x y : Nat) (hx : x ≤ 9999999999) (hy : y ≤ 9999999999) : kl (keyNum x) (keyNum y) = decide (x < y) := by
  rw [keyNum_digs x hx, keyNum_digs y hy, Bool.eq_iff_iff, kl_digs, decide_eq_true_eq, Nat.mod_eq_of_lt (by omega), Nat.mod_eq_of_lt (by omega)]
theorem clampN_le (n : Int) : clampN n ≤ 9999999999 := by unfold clampN; omega

set_option maxRecDepth 100000 in
set_option maxHeartbeats 1000000 in
theorem keysNumbers_c (w : World) (a b : Int) (ha0 : -9223372036854775808 ≤ a) (ha1 : a ≤ 9223372036854775807) (hb0 : -9223372036854775808 ≤ b) (hb1 : b ≤ 9223372036854775807) (htab : TabOk w) :
    Calls Tryd.prog 5 #[.int .i64 a, .int .i64 b] w fun e w' => e = .returned (.bool true) ∧ Fr (fun _ => False) w w' := by
  have HT := Lib.hid htab
  obtain ⟨Ka, hKa⟩ : ∃ K, keyNum (clampN a) = K := ⟨_, rfl⟩
  obtain ⟨Kb, hKb⟩ : ∃ K, keyNum (clampN b) = K := ⟨_, rfl⟩
  have hkk : kl Ka Kb = decide (clampN a < clampN b) := by rw [← hKa, ← hKb]; exact kl_keyNum _ _ (clampN_le a) (clampN_le b)
  have HK := Lib.hid hkk
  have HA := Lib.hid (And.intro ha0 ha1)
  have HB := Lib.hid (And.intro hb0 hb1)
  have HKa := Lib.hid hKa
  have HKb := Lib.hid hKb
  have n1 : ((strOf Ka).toList != (strOf Ka).toList) = false := by simp
  have n2 : ((strOf Kb).toList != (strOf Kb).toList) = false := by simp
  have n3 : ((strOf Ka).toList == (strOf Ka).toList) = true := by simp
  have n4 : ((strOf Kb).toList == (strOf Kb).toList) = true := by simp
  clear htab hkk ha0 ha1 hb0 hb1 hKa hKb
  go_enter Tryd.func5, Tryd.ntmps5
  go_wp2_with fail
  refine (number_c w a HA.out.1 HA.out.2 HT.out).mono ?_
  rintro e w1 ⟨rfl, f1⟩
  rw [HKa.out]
  have F1 := Lib.hid f1
  clear f1
  go_wp2_with fail
  refine (rnumber_c w1 a HA.out.1 HA.out.2).mono ?_
  rintro e w2 ⟨rfl, f2⟩
  rw [HKa.out]
  have F2 := Lib.hid (F1.out.trans f2 (fun _ _ h => h))
  clear f2 F1
  go_wp2_with fail
  refine (number_c w2 b HB.out.1 HB.out.2 (HT.out.far F2.out)).mono ?_
  rintro e w3 ⟨rfl, f3⟩
  rw [HKb.out]
  have F3 := Lib.hid (F2.out.trans f3 (fun _ _ h => h))
  clear f3 F2
  go_wp2_with fail
  refine (rnumber_c w3 b HB.out.1 HB.out.2).mono ?_
  rintro e w4 ⟨rfl, f4⟩
  rw [HKb.out]
  have F4 := Lib.hid (F3.out.trans f4 (fun _ _ h => h))
  clear f4 F3
  go_wp2_with fail
  refine (number_c w4 a HA.out.1 HA.out.2 (HT.out.far F4.out)).mono ?_
  rintro e w5 ⟨rfl, f5⟩
  rw [HKa.out]
  have F5 := Lib.hid (F4.out.trans f5 (fun _ _ h => h))
  clear f5 F4
  go_wp2_with fail
  refine (number_c w5 b HB.out.1 HB.out.2 (HT.out.far F5.out)).mono ?_
  rintro e w6 ⟨rfl, f6⟩
  rw [HKb.out]
  have F6 := Lib.hid (F5.out.trans f6 (fun _ _ h => h))
  clear f6 F5
  obtain ⟨r, hr⟩ : ∃ r, kl Ka Kb = r := ⟨_, rfl⟩
  have hl : Op.bytesLess (strOf Ka).toList (strOf Kb).toList = r := by rw [strOf_toList, strOf_toList]; exact hr
  have hd : decide (min (max a 0) 9999999999 < min (max b 0) 9999999999) = r := by
    rw [← hr, HK.out, Bool.eq_iff_iff, decide_eq_true_eq, decide_eq_true_eq]
    unfold clampN
    omega
  clear hr
  have AW := Lib.hid (awake_c w6 (HT.out.far F6.out))
  cases r
  all_goals
    go_wp2_with fail
    refine AW.out.mono ?_
    rintro e w7 ⟨rfl, f7⟩
    have F7 := Lib.hid (F6.out.trans f7 (fun _ _ h => h))
    clear f7
    go_wp2_with fail
    go_ret
    exact ⟨rfl, F7.out⟩
end Go.Proofs.YtillifkilkjpdaaDoor
