/-
  CONTRACTS of the reference's digits.
-/
import Derived.Test.YtnkfkicabgajmaaGreatDoorRp
import Derived.Test.YtnkfkicabgajmaaGreatDoorPrint
namespace Go.Proofs.YtnkfkicabgajmaaGreatDoor
set_option linter.unusedSimpArgs false
set_option linter.unusedVariables false
open Go Go.RowKit

theorem strOf_app (a b : List UInt8) : strOf a ++ strOf b = strOf (a ++ b) := by
  apply ByteArray.ext
  simp [strOf, ByteArray.data_append]
theorem run_cat (w : World) (a b : List UInt8) (h : a.length + b.length ≤ 1000000000000) : (Op.stringOp .add (strOf a) (strOf b)).run Tryz.prog w = .ok (.string (strOf (a ++ b))) w := by
  rw [run_string_add_sum w _ _ (by rw [strOf_size, strOf_size]; omega), strOf_app]
theorem dec_step {u : Nat} (h : ¬ u < 10) : Lib.decDigits u = Lib.decDigits (u / 10) ++ [UInt8.ofNat (48 + u % 10)] := by
  conv => lhs; unfold Lib.decDigits
  rw [dif_neg h]
theorem dec_small {u : Nat} (h : u < 10) : Lib.decDigits u = [UInt8.ofNat (48 + u)] := by
  unfold Lib.decDigits
  rw [dif_pos h]
theorem bv_one8 (d : Nat) (h : d < 10) : bv [UInt8.ofNat (48 + d)] = [.int .u8 ((48 + d : Nat) : Int)] := by
  have : (UInt8.ofNat (48 + d)).toNat = 48 + d := by
    rw [UInt8.toNat_ofNat']
    omega
  show [Value.int .u8 ((UInt8.ofNat (48 + d)).toNat : Int)] = _
  rw [this]
set_option maxRecDepth 100000 in
set_option maxHeartbeats 4000000 in
theorem rdigits_c (w : World) (n : Int) (h0 : -9223372036854775808 ≤ n) (h1 : n ≤ 9223372036854775807) : Calls Tryz.prog 33 #[.int .i64 n] w fun e w' => e = .returned (.string (strOf (decI n))) ∧ Fr (fun _ => False) w w' := by
  obtain ⟨z, hz⟩ : ∃ z, decI n = z := ⟨_, rfl⟩
  rw [hz]
  have HZ : Hid (z = if n < 0 then 45 :: Lib.decDigits n.natAbs else Lib.decDigits n.natAbs) := Lib.hid (by
    rw [← hz]
    unfold decI Lib.itoa
    by_cases h : n < 0
    · rw [if_pos h, if_pos h]
    · rw [if_neg h, if_neg h]
      congr 1
      omega)
  obtain ⟨ng, hng⟩ : ∃ b, decide (n < 0) = b := ⟨_, rfl⟩
  clear hz
  go_enter Tryz.func33, Tryz.ntmps33
  go_wp2_with fail
  go_loopw [0, 4] (fun nv sv wr => ∃ (m : Int) (l : List UInt8), nv = .int .i64 m ∧ sv = .string (strOf l) ∧ -9223372036854775808 ≤ m ∧ m ≤ 9223372036854775807 ∧ l.length ≤ 100 ∧ m.natAbs * 2 ^ l.length ≤ 9223372036854775808 ∧ Hid (Lib.decDigits n.natAbs = Lib.decDigits m.natAbs ++ l) ∧ Hid (Fr (fun _ => False) w wr)) (fun nv _ _ => (intOf nv).natAbs)
  case atStart => exact ⟨n, [], rfl, rfl, h0, h1, by simp, by simp; omega, Lib.hid (by simp), Fr.refl _ _⟩
  case round =>
    obtain ⟨m, l, rfl, rfl, hm0, hm1, hl, hl2, hd, hf⟩ := hrel
    obtain ⟨k, hk⟩ : ∃ k : Nat, m.natAbs = k := ⟨_, rfl⟩
    rw [hk] at hd hl2
    obtain ⟨d, hdd⟩ : ∃ d : Nat, k % 10 = d := ⟨_, rfl⟩
    have hr : (k : Int) % 10 = (d : Int) := by omega
    have hd10 : d < 10 := by omega
    by_cases hneg : m < 0
    case pos =>
      obtain rfl : m = -(k : Int) := by omega
      by_cases hd0 : d = 0
      case pos =>
        subst hd0
        have HC : Hid (bv [UInt8.ofNat (48 + 0)] = [.int .u8 48]) := Lib.hid (by rw [bv_one8 0 (by omega)]; simp)
        obtain ⟨c, hc⟩ : ∃ c, UInt8.ofNat (48 + 0) = c := ⟨_, rfl⟩
        have HCD := Lib.hid hc
        rw [hc] at HC
        clear hc
        have hconv : (convert 79 9 (.slice (some ⟨wr.heap.size, 0, none⟩) 1 1)).run Tryz.prog (wr.alloc (.cells #[.int .u8 48] 5)) = .ok (.string (strOf [c])) (wr.alloc (.cells #[.int .u8 48] 5)) := conv_str _ _ 1 1 [c] (by rw [HC.out]; exact Rd.of_blk (Blk.new wr 5 #[.int .u8 48]) (Nat.le_refl _))
        have hcat := fun W => run_cat W [c] l (by simp; omega)
        simp only [List.cons_append, List.nil_append] at hcat
        by_cases hk10 : k < 10
        case pos =>
          exfalso
          omega
        case neg =>
          obtain ⟨q, hq⟩ : ∃ q : Nat, k / 10 = q := ⟨_, rfl⟩
          have hqi : (k : Int) / 10 = (q : Int) := by omega
          have hq1 : 1 ≤ q := by omega
          have HD : Hid (Lib.decDigits n.natAbs = Lib.decDigits q ++ (c :: l)) := Lib.hid (by
            rw [hd.out, dec_step hk10, hq, ← HCD.out]
            have : k % 10 = 0 := by omega
            rw [this]
            simp)
          have FF : Hid (Fr (fun _ => False) w (wr.alloc (.cells #[.int .u8 48] 5))) := Lib.hid (hf.out.alloc _)
          have hpow : q * 2 ^ (c :: l).length ≤ 9223372036854775808 := by
            have : (c :: l).length = l.length + 1 := rfl
            rw [this, Nat.pow_succ]
            have h5 : q * 2 ≤ k := by omega
            have := Nat.mul_le_mul_right (2 ^ l.length) h5
            have e : q * (2 ^ l.length * 2) = q * 2 * 2 ^ l.length := by rw [Nat.mul_comm (2 ^ l.length) 2, Nat.mul_assoc]
            rw [e]
            exact Nat.le_trans this hl2
          have hlen : (c :: l).length ≤ 100 := by
            rcases Nat.lt_or_ge 99 l.length with h | h
            · have h6 : 2 ^ 100 ≤ 2 ^ l.length := Nat.pow_le_pow_right (by omega) (by omega)
              have h7 := Nat.mul_le_mul_right (2 ^ l.length) (show 1 ≤ k by omega)
              rw [Nat.one_mul] at h7
              have : (2 : Nat) ^ 100 ≤ 9223372036854775808 := Nat.le_trans h6 (Nat.le_trans h7 hl2)
              exact absurd this (by decide)
            · show l.length + 1 ≤ 100
              omega
          have nq : ¬ ((q : Int) = 0) := by omega
          have nq' : ¬ (-(q : Int) = 0) := by omega
          have eq1 : ((q : Int) == 0) = false := by simpa using nq
          have eq2 : (-(q : Int) == 0) = false := by simpa using nq'
          have hq0 : ¬ q = 0 := by omega
          go_wp2_with fail
          go_roundw
          case rel => exact ⟨-(q : Int), c :: l, by go_num, rfl, by omega, by omega, hlen, by rw [show (-(q : Int)).natAbs = q by omega]; exact hpow, by rw [show (-(q : Int)).natAbs = q by omega]; exact HD.out, FF.out⟩
          case measure => simp [intOf]; omega
      case neg =>
        have hdp : (0 : Int) < (d : Int) := by omega
        have hdp' : decide ((0 : Int) < (d : Int)) = true := decide_eq_true hdp
        have HC : Hid (bv [UInt8.ofNat (48 + d)] = [.int .u8 (48 + (d : Int))]) := Lib.hid (by rw [bv_one8 d (by omega)]; simp)
        obtain ⟨c, hc⟩ : ∃ c, UInt8.ofNat (48 + d) = c := ⟨_, rfl⟩
        have HCD := Lib.hid hc
        rw [hc] at HC
        clear hc
        have hconv : (convert 79 9 (.slice (some ⟨wr.heap.size, 0, none⟩) 1 1)).run Tryz.prog (wr.alloc (.cells #[.int .u8 (48 + (d : Int))] 5)) = .ok (.string (strOf [c])) (wr.alloc (.cells #[.int .u8 (48 + (d : Int))] 5)) := conv_str _ _ 1 1 [c] (by rw [HC.out]; exact Rd.of_blk (Blk.new wr 5 #[.int .u8 (48 + (d : Int))]) (Nat.le_refl _))
        have hcat := fun W => run_cat W [c] l (by simp; omega)
        simp only [List.cons_append, List.nil_append] at hcat
        by_cases hk10 : k < 10
        case pos =>
          have hq0 : (k : Int) / 10 = 0 := by omega
          have HD : Hid (Lib.decDigits n.natAbs = c :: l) := Lib.hid (by
            rw [hd.out, dec_small hk10, ← HCD.out]
            have : k = d := by omega
            rw [this]
            rfl)
          have hcat2 : ∀ W, (Op.stringOp .add ⟨#[45]⟩ (strOf (c :: l))).run Tryz.prog W = .ok (.string (strOf (45 :: c :: l))) W := fun W => run_cat W [45] (c :: l) (by simp; omega)
          have FF : Hid (Fr (fun _ => False) w (wr.alloc (.cells #[.int .u8 (48 + (d : Int))] 5))) := Lib.hid (hf.out.alloc _)
          cases ng with
          | true =>
            have HF : Hid (z = 45 :: c :: l) := Lib.hid (by rw [HZ.out, if_pos (of_decide_eq_true hng), HD.out])
            clear hng
            go_wp2_with fail
            go_ret
            exact ⟨by rw [HF.out]; rfl, FF.out⟩
          | false =>
            have HF : Hid (z = c :: l) := Lib.hid (by rw [HZ.out, if_neg (of_decide_eq_false hng), HD.out])
            clear hng
            go_wp2_with fail
            go_ret
            exact ⟨by rw [HF.out]; rfl, FF.out⟩
        case neg =>
          obtain ⟨q, hq⟩ : ∃ q : Nat, k / 10 = q := ⟨_, rfl⟩
          have hqi : (k : Int) / 10 = (q : Int) := by omega
          have hq1 : 1 ≤ q := by omega
          have HD : Hid (Lib.decDigits n.natAbs = Lib.decDigits q ++ (c :: l)) := Lib.hid (by
            rw [hd.out, dec_step hk10, hq, ← HCD.out]
            have : k % 10 = d := by omega
            rw [this]
            simp)
          have FF : Hid (Fr (fun _ => False) w (wr.alloc (.cells #[.int .u8 (48 + (d : Int))] 5))) := Lib.hid (hf.out.alloc _)
          have hpow : q * 2 ^ (c :: l).length ≤ 9223372036854775808 := by
            have : (c :: l).length = l.length + 1 := rfl
            rw [this, Nat.pow_succ]
            have h5 : q * 2 ≤ k := by omega
            have := Nat.mul_le_mul_right (2 ^ l.length) h5
            have e : q * (2 ^ l.length * 2) = q * 2 * 2 ^ l.length := by rw [Nat.mul_comm (2 ^ l.length) 2, Nat.mul_assoc]
            rw [e]
            exact Nat.le_trans this hl2
          have hlen : (c :: l).length ≤ 100 := by
            rcases Nat.lt_or_ge 99 l.length with h | h
            · have h6 : 2 ^ 100 ≤ 2 ^ l.length := Nat.pow_le_pow_right (by omega) (by omega)
              have h7 := Nat.mul_le_mul_right (2 ^ l.length) (show 1 ≤ k by omega)
              rw [Nat.one_mul] at h7
              have : (2 : Nat) ^ 100 ≤ 9223372036854775808 := Nat.le_trans h6 (Nat.le_trans h7 hl2)
              exact absurd this (by decide)
            · show l.length + 1 ≤ 100
              omega
          have nq : ¬ ((q : Int) = 0) := by omega
          have nq' : ¬ (-(q : Int) = 0) := by omega
          have eq1 : ((q : Int) == 0) = false := by simpa using nq
          have eq2 : (-(q : Int) == 0) = false := by simpa using nq'
          have hq0 : ¬ q = 0 := by omega
          go_wp2_with fail
          go_roundw
          case rel => exact ⟨-(q : Int), c :: l, by go_num, rfl, by omega, by omega, hlen, by rw [show (-(q : Int)).natAbs = q by omega]; exact hpow, by rw [show (-(q : Int)).natAbs = q by omega]; exact HD.out, FF.out⟩
          case measure => simp [intOf]; omega
    case neg =>
      obtain rfl : m = (k : Int) := by omega
      have hdn : ¬ ((d : Int) < 0) := by omega
      have hdn' : decide ((d : Int) < 0) = false := decide_eq_false hdn
      have HC : Hid (bv [UInt8.ofNat (48 + d)] = [.int .u8 (48 + (d : Int))]) := Lib.hid (by rw [bv_one8 d (by omega)]; simp)
      obtain ⟨c, hc⟩ : ∃ c, UInt8.ofNat (48 + d) = c := ⟨_, rfl⟩
      have HCD := Lib.hid hc
      rw [hc] at HC
      clear hc
      have hconv : (convert 79 9 (.slice (some ⟨wr.heap.size, 0, none⟩) 1 1)).run Tryz.prog (wr.alloc (.cells #[.int .u8 (48 + (d : Int))] 5)) = .ok (.string (strOf [c])) (wr.alloc (.cells #[.int .u8 (48 + (d : Int))] 5)) := conv_str _ _ 1 1 [c] (by rw [HC.out]; exact Rd.of_blk (Blk.new wr 5 #[.int .u8 (48 + (d : Int))]) (Nat.le_refl _))
      have hcat := fun W => run_cat W [c] l (by simp; omega)
      simp only [List.cons_append, List.nil_append] at hcat
      by_cases hk10 : k < 10
      case pos =>
        have hq0 : (k : Int) / 10 = 0 := by omega
        have HD : Hid (Lib.decDigits n.natAbs = c :: l) := Lib.hid (by
          rw [hd.out, dec_small hk10, ← HCD.out]
          have : k = d := by omega
          rw [this]
          rfl)
        have hcat2 : ∀ W, (Op.stringOp .add ⟨#[45]⟩ (strOf (c :: l))).run Tryz.prog W = .ok (.string (strOf (45 :: c :: l))) W := fun W => run_cat W [45] (c :: l) (by simp; omega)
        have FF : Hid (Fr (fun _ => False) w (wr.alloc (.cells #[.int .u8 (48 + (d : Int))] 5))) := Lib.hid (hf.out.alloc _)
        cases ng with
        | true =>
          have HF : Hid (z = 45 :: c :: l) := Lib.hid (by rw [HZ.out, if_pos (of_decide_eq_true hng), HD.out])
          clear hng
          go_wp2_with fail
          go_ret
          exact ⟨by rw [HF.out]; rfl, FF.out⟩
        | false =>
          have HF : Hid (z = c :: l) := Lib.hid (by rw [HZ.out, if_neg (of_decide_eq_false hng), HD.out])
          clear hng
          go_wp2_with fail
          go_ret
          exact ⟨by rw [HF.out]; rfl, FF.out⟩
      case neg =>
        obtain ⟨q, hq⟩ : ∃ q : Nat, k / 10 = q := ⟨_, rfl⟩
        have hqi : (k : Int) / 10 = (q : Int) := by omega
        have hq1 : 1 ≤ q := by omega
        have HD : Hid (Lib.decDigits n.natAbs = Lib.decDigits q ++ (c :: l)) := Lib.hid (by
          rw [hd.out, dec_step hk10, hq, ← HCD.out]
          have : k % 10 = d := by omega
          rw [this]
          simp)
        have FF : Hid (Fr (fun _ => False) w (wr.alloc (.cells #[.int .u8 (48 + (d : Int))] 5))) := Lib.hid (hf.out.alloc _)
        have hpow : q * 2 ^ (c :: l).length ≤ 9223372036854775808 := by
          have : (c :: l).length = l.length + 1 := rfl
          rw [this, Nat.pow_succ]
          have h5 : q * 2 ≤ k := by omega
          have := Nat.mul_le_mul_right (2 ^ l.length) h5
          have e : q * (2 ^ l.length * 2) = q * 2 * 2 ^ l.length := by rw [Nat.mul_comm (2 ^ l.length) 2, Nat.mul_assoc]
          rw [e]
          exact Nat.le_trans this hl2
        have hlen : (c :: l).length ≤ 100 := by
          rcases Nat.lt_or_ge 99 l.length with h | h
          · have h6 : 2 ^ 100 ≤ 2 ^ l.length := Nat.pow_le_pow_right (by omega) (by omega)
            have h7 := Nat.mul_le_mul_right (2 ^ l.length) (show 1 ≤ k by omega)
            rw [Nat.one_mul] at h7
            have : (2 : Nat) ^ 100 ≤ 9223372036854775808 := Nat.le_trans h6 (Nat.le_trans h7 hl2)
            exact absurd this (by decide)
          · show l.length + 1 ≤ 100
            omega
        have nq : ¬ ((q : Int) = 0) := by omega
        have nq' : ¬ (-(q : Int) = 0) := by omega
        have eq1 : ((q : Int) == 0) = false := by simpa using nq
        have eq2 : (-(q : Int) == 0) = false := by simpa using nq'
        have hq0 : ¬ q = 0 := by omega
        go_wp2_with fail
        go_roundw
        case rel => exact ⟨(q : Int), c :: l, by go_num, rfl, by omega, by omega, hlen, by rw [show ((q : Int)).natAbs = q by omega]; exact hpow, by rw [show ((q : Int)).natAbs = q by omega]; exact HD.out, FF.out⟩
        case measure => simp [intOf]; omega
end Go.Proofs.YtnkfkicabgajmaaGreatDoor
