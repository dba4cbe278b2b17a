/-
  CONTRACTS of the reference's Check, and of the law's 'long'.
-/
import Derived.Test.YtmaajihpkollcaaDoorCk
namespace Go.Proofs.YtmaajihpkollcaaDoor
set_option linter.unusedSimpArgs false
set_option linter.unusedVariables false
open Go Go.RowKit

/-- How much 'long' goes through. -/
def bulk (l : List (List UInt8)) : Nat := (l.map fun p => 1 + p.length).sum
theorem bulk_take (l : List (List UInt8)) (k : Nat) (h : k < l.length) : bulk (l.take (k + 1)) = bulk (l.take k) + (1 + l[k].length) := by
  unfold bulk
  rw [List.take_succ_eq_append_getElem h, List.map_append, List.sum_append]
  simp

set_option maxHeartbeats 1000000 in
theorem long_c (w : World) (A : Option Addr) (n c : Nat) (ls : List (List UInt8)) (hr : RdB w A n ls) (hn : n ≤ 9223372036854775807) (hp : ∀ p ∈ ls, p.length ≤ 140737488355328) :
    Calls Tryd.prog 9 #[.slice A n c] w fun e w' => w = w' ∧ ((e = .returned (.bool true)) ∨ (e = .returned (.bool false) ∧ bulk ls ≤ 60000)) := by
  have HR := Lib.hid hr
  have HP := Lib.hid hp
  clear hr hp
  go_enter Tryd.func9, Tryd.ntmps9
  go_wp2_with fail
  go_loop [3, 4] (fun sv iv => ∃ (k : Nat) (s : Nat), k ≤ n ∧ iv = .int .i64 k ∧ sv = .int .i64 (s : Int) ∧ s ≤ 60000 ∧ Hid (s = bulk (ls.take k))) (fun _ iv => n - (intOf iv).toNat)
  case atStart => exact ⟨0, 0, Nat.zero_le _, rfl, rfl, by omega, rfl⟩
  case round =>
    obtain ⟨k, s, hk, rfl, rfl, hs, hst⟩ := hrel
    by_cases hlt : k < n
    · obtain ⟨b, off, rfl, hc⟩ := HR.out.2 (by omega)
      obtain ⟨B, m, c0, r0, hm, hm2⟩ := hc k (by rw [HR.out.1]; exact hlt)
      unfold maxLen at hm2
      have hcr : Hid (bulk (ls.take (k + 1)) = s + (1 + (ls[k]'(by rw [HR.out.1]; exact hlt)).length)) := by
        show _ = _
        rw [bulk_take _ _ (by rw [HR.out.1]; exact hlt), ← hst.out]
      have hpl := HP.out _ (List.getElem_mem (by rw [HR.out.1]; exact hlt : k < ls.length))
      clear hc r0
      generalize (ls[k]'(by rw [HR.out.1]; exact hlt)) = l at *
      obtain ⟨M, hM⟩ : ∃ M, l.length = M := ⟨_, rfl⟩
      rw [hM] at c0 hm hcr hpl
      clear hM
      by_cases hb : s + (1 + M) ≤ 60000
      · go_wp2_with fail
        exact ⟨⟨k + 1, s + (1 + M), hlt, by go_num, by go_num, hb, hcr.out.symm⟩, by simp [intOf]; omega⟩
      · go_wp2_with fail
        go_ret
        exact ⟨rfl, .inl rfl⟩
    · obtain rfl : k = n := by omega
      have hend : bulk ls ≤ 60000 := by
        have := hst.out
        rw [List.take_of_length_le (by rw [HR.out.1]; exact Nat.le_refl _)] at this
        omega
      go_wp2_with fail
      go_ret
      exact ⟨rfl, .inr rfl⟩

theorem low_bit (t : Nat) (h : t < 4294967296) : bits .and .u32 (t : Int) 1 = ((t % 2 : Nat) : Int) := by
  have := u32_and_nat t 1 h (by omega)
  rw [show ((1 : Nat) : Int) = 1 from rfl] at this
  rw [this, Nat.and_one_is_mod]
theorem bit_at (x q : Nat) (h : x < 2 ^ 8) : bits .and .u32 ((x : Int) / 2 ^ q % 4294967296) 1 = ((x / 2 ^ q % 2 : Nat) : Int) := by
  have h1 : x / 2 ^ q ≤ x := Nat.div_le_self _ _
  have h2 : ((x : Int) / 2 ^ q) = ((x / 2 ^ q : Nat) : Int) := by simp
  rw [h2]
  generalize x / 2 ^ q = y at *
  rw [show ((y : Int) % 4294967296) = (y : Int) from by omega]
  exact low_bit _ (by omega)

set_option maxHeartbeats 2000000 in
theorem rcheck_c (w : World) (A : Option Addr) (n c : Nat) (l : List UInt8) (hr : Rd w A n (bv l)) (hn : n ≤ 9223372036854775807) :
    Calls Tryd.prog 12 #[.slice A n c] w fun e w' => e = .returned (.int .u32 (check l : Int)) ∧ w = w' := by
  have HR := Lib.hid hr
  have hL : l.length = n := by rw [← bv_length]; exact hr.1
  have HL := Lib.hid hL
  clear hr hL
  go_enter Tryd.func12, Tryd.ntmps12
  go_wp2_with fail
  go_loop [3, 4] (fun sv iv => ∃ (k : Nat) (s : Nat), k ≤ n ∧ iv = .int .i64 k ∧ sv = .int .u32 (s : Int) ∧ s < 4294967296 ∧ Hid (s = crcL 4294967295 (l.take k))) (fun _ iv => n - (intOf iv).toNat)
  case atStart => exact ⟨0, 4294967295, Nat.zero_le _, rfl, rfl, by omega, rfl⟩
  case round =>
    obtain ⟨k, s, hk, rfl, rfl, hs, hst⟩ := hrel
    by_cases hlt : k < n
    · obtain ⟨bb, oo, rfl, -⟩ := HR.out.lit (by omega)
      have d0 := HR.out.cell (k := k) hlt
      rw [bv_get _ _ (by rw [HL.out]; exact hlt)] at d0
      have hsn : Hid (crcL 4294967295 (l.take (k + 1)) = crcB s (l[k]'(by rw [HL.out]; exact hlt)).toNat) := by
        show _ = _
        rw [List.take_succ_eq_append_getElem (by rw [HL.out]; exact hlt), crcL_snoc, ← hst.out]
      have hb := (l[k]'(by rw [HL.out]; exact hlt)).toNat_lt
      generalize (l[k]'(by rw [HL.out]; exact hlt)).toNat = x at *
      go_wp2_with fail
      go_loop [3, 5] (fun sv iv => ∃ (q : Nat) (t : Nat), q ≤ 8 ∧ iv = .int .i64 q ∧ sv = .int .u32 (t : Int) ∧ t < 4294967296 ∧ Hid (t = shN q (s ^^^ (x % 2 ^ q)))) (fun _ iv => 8 - (intOf iv).toNat)
      case atStart => exact ⟨0, s, Nat.zero_le _, rfl, rfl, hs, by show s = _; simp [shN, Nat.mod_one]⟩
      case round =>
        obtain ⟨q, t, hq, rfl, rfl, ht, htt⟩ := hrel
        by_cases hql : q < 8
        · have xA := low_bit t ht
          have xB := bit_at x q hb
          have hstep : Hid (shN (q + 1) (s ^^^ (x % 2 ^ (q + 1))) = sh1 (t ^^^ (x / 2 ^ q % 2))) := by show _ = _; rw [← ref_step, ← htt.out]
          have hif := bit_if t (x / 2 ^ q % 2) (Nat.mod_lt _ (by omega))
          obtain ⟨b, hbb⟩ : ∃ b, x / 2 ^ q % 2 = b := ⟨_, rfl⟩
          rw [hbb] at xB hstep hif
          have hx2 := u32_xor_nat (t / 2) 2197175160 (by omega) (by omega)
          have hx3 : (t / 2) ^^^ 2197175160 < 4294967296 := Nat.xor_lt_two_pow (n := 32) (by omega) (by omega)
          clear hbb
          by_cases hq2 : t % 2 = b
          · have hc : (((t % 2 : Nat) : Int) != (b : Int)) = false := by simp [hq2]
            rw [if_pos hq2] at hif
            have hst2 : Hid (t / 2 = shN (q + 1) (s ^^^ (x % 2 ^ (q + 1)))) := by show _ = _; rw [hstep.out, hif]
            clear hif
            go_wp2_with fail
            exact ⟨⟨q + 1, t / 2, hql, by go_num, by go_num, by omega, hst2⟩, by simp [intOf]; omega⟩
          · have hc : (((t % 2 : Nat) : Int) != (b : Int)) = true := by simp; omega
            rw [if_neg hq2] at hif
            have hst2 : Hid ((t / 2) ^^^ 2197175160 = shN (q + 1) (s ^^^ (x % 2 ^ (q + 1)))) := by show _ = _; rw [hstep.out, hif]
            clear hif
            generalize (t / 2) ^^^ 2197175160 = T at *
            rw [show (((t / 2 : Nat) : Int)) = (t : Int) / 2 from by omega, show ((2197175160 : Nat) : Int) = 2197175160 from rfl] at hx2
            go_wp2_with fail
            exact ⟨⟨q + 1, T, hql, by go_num, by go_num, hx3, hst2⟩, by simp [intOf]; omega⟩
        · obtain rfl : q = 8 := by omega
          have hend : Hid (t = crcB s x) := by show _ = _; rw [htt.out, crcB_ref _ _ (by simpa using hb)]
          go_wp2_with fail
          exact ⟨⟨k + 1, t, hlt, by go_num, rfl, ht, by show t = _; rw [hsn.out, hend.out]⟩, by simp [intOf]; omega⟩
    · obtain rfl : k = n := by omega
      have hend : Hid (s ^^^ 4294967295 = check l) := by
        show _ = _
        rw [hst.out, List.take_of_length_le (by rw [HL.out]; exact Nat.le_refl _)]
        rfl
      have x2 := u32_xor_nat s 4294967295 hs (by omega)
      rw [hend.out] at x2
      go_wp2_with fail
      go_ret
      exact ⟨by rw [← x2]; rfl, rfl⟩
end Go.Proofs.YtmaajihpkollcaaDoor
