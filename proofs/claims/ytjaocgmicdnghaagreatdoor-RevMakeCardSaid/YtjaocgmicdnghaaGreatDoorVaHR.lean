/-
  VaRp, VaRd, VaRu, VaRpr, VaRpc, VaDeep, in one text (merge.py).
-/
import Derived.Test.YtjaocgmicdnghaaGreatDoorVaGMay
import Derived.BigQuiet
import Derived.Test.YtjaocgmicdnghaaGreatDoorVaHP
import Derived.Test.YtjaocgmicdnghaaGreatDoorVaHT
import Derived.Lib.ItoaLen

/-
  CONTRACTS of the reference's plain, Key, Texts.
-/
namespace Go.Proofs.YtjaocgmicdnghaaGreatDoor.V1
set_option linter.unusedSimpArgs false
set_option linter.unusedVariables false
open Go Go.RowKit

set_option maxHeartbeats 1000000 in
theorem rplain_c (w : World) (s : List UInt8) (hs : s.length ≤ 140737488355328) : Calls Tryz.prog 54 #[.string (strOf s)] w fun e w' => e = .returned (.bool (plainT s)) ∧ w = w' := by
  have hsz := strOf_size s
  go_enter Tryz.func54, Tryz.ntmps54
  go_wp2_with fail
  go_loop [3] (fun iv => ∃ i : Nat, i ≤ s.length ∧ iv = .int .i64 (i : Int) ∧ Hid (∀ j (h : j < s.length), j < i → plainB s[j] = true)) (fun iv => s.length - (intOf iv).toNat)
  case atStart => exact ⟨0, Nat.zero_le _, rfl, fun j h h' => by omega⟩
  case round =>
    obtain ⟨i, hi, rfl, hp⟩ := hrel
    by_cases hlt : i < s.length
    · have hdl : decide ((i : Int) < (s.length : Int)) = true := decide_eq_true (by omega)
      have hdl' : decide (i < s.length) = true := decide_eq_true hlt
      have hix := fun W => run_index_str W s i hlt
      obtain ⟨x, hx⟩ : ∃ x, (s[i]).toNat = x := ⟨_, rfl⟩
      have hpb : plainB s[i] = (decide (32 ≤ x) && decide (x ≤ 126)) := by unfold plainB; rw [hx]
      simp only [hx] at hix
      have HB := Lib.hid hpb
      clear hpb hx
      by_cases h1 : x < 32
      · have e1 : decide ((x : Int) < 32) = true := decide_eq_true (by omega)
        have e1' : decide (x < 32) = true := decide_eq_true h1
        have hno : plainT s = false := plainT_no hlt (by rw [HB.out, decide_eq_false (by omega)]; rfl)
        have HN := Lib.hid hno
        clear hno
        go_wp2_with fail
        go_ret
        exact ⟨ret_bool HN.out.symm, rfl⟩
      · have e1 : decide ((x : Int) < 32) = false := decide_eq_false (by omega)
        have e1' : decide (x < 32) = false := decide_eq_false h1
        by_cases h2 : 126 < x
        · have e2 : decide (126 < (x : Int)) = true := decide_eq_true (by omega)
          have e2' : decide (126 < x) = true := decide_eq_true h2
          have hno : plainT s = false := plainT_no hlt (by rw [HB.out, decide_eq_false (show ¬ x ≤ 126 by omega)]; simp)
          have HN := Lib.hid hno
          clear hno
          go_wp2_with fail
          go_ret
          exact ⟨ret_bool HN.out.symm, rfl⟩
        · have e2 : decide (126 < (x : Int)) = false := decide_eq_false (by omega)
          have e2' : decide (126 < x) = false := decide_eq_false h2
          go_wp2_with fail
          go_round
          case rel => exact ⟨i + 1, by omega, by go_num, fun j h h' => by
            rcases Nat.lt_or_ge j i with hj | hj
            · exact hp.out j h hj
            · obtain rfl : j = i := by omega
              rw [HB.out, decide_eq_true (show 32 ≤ x by omega), decide_eq_true (show x ≤ 126 by omega)]
              rfl⟩
          case measure => simp [intOf]; omega
    · obtain rfl : i = s.length := by omega
      have hdl : decide ((s.length : Int) < (s.length : Int)) = false := decide_eq_false (by omega)
      have hdl' : decide (s.length < s.length) = false := decide_eq_false (by omega)
      have hyes : plainT s = true := plainT_yes fun j h => hp.out j h h
      have HY := Lib.hid hyes
      clear hyes
      go_wp2_with fail
      go_ret
      exact ⟨ret_bool HY.out.symm, rfl⟩

theorem keyB_all {s : List UInt8} (h : ∀ j (h : j < s.length), keyB s[j] = true) : s.all keyB = true := by
  rw [List.all_eq_true]
  intro b hb
  obtain ⟨i, hi, rfl⟩ := List.mem_iff_getElem.1 hb
  exact h i hi
theorem keyB_no {s : List UInt8} {i : Nat} (h : i < s.length) (hn : keyB s[i] = false) : s.all keyB = false := by
  rw [Bool.eq_false_iff]
  intro e
  rw [List.all_eq_true] at e
  rw [e s[i] (List.getElem_mem h)] at hn
  cases hn
set_option maxHeartbeats 4000000 in
theorem rkey_c (w : World) (s : List UInt8) (hs : s.length ≤ 140737488355328) : Calls Tryz.prog 55 #[.string (strOf s)] w fun e w' => e = .returned (.bool (keyOk s)) ∧ w = w' := by
  have hsz := strOf_size s
  obtain ⟨z, hz⟩ : ∃ z, keyOk s = z := ⟨_, rfl⟩
  rw [hz]
  unfold keyOk at hz
  have HZ := Lib.hid hz
  clear hz
  by_cases h1 : s.length < 1
  case pos =>
    have d1 : decide ((s.length : Int) < 1) = true := decide_eq_true (by omega)
    have d1' : decide (s.length < 1) = true := decide_eq_true h1
    have HF : Hid (z = false) := Lib.hid (by rw [← HZ.out, decide_eq_false (show ¬ 0 < s.length by omega)]; rfl)
    have hl0 : s.length = 0 := by omega
    go_enter Tryz.func55, Tryz.ntmps55
    go_wp2_with fail
    go_ret
    exact ⟨ret_bool HF.out.symm, rfl⟩
  have d1 : decide ((s.length : Int) < 1) = false := decide_eq_false (by omega)
  have d1' : decide (s.length < 1) = false := decide_eq_false h1
  by_cases h2 : 24 < s.length
  case pos =>
    have d2 : decide (24 < (s.length : Int)) = true := decide_eq_true (by omega)
    have d2' : decide (24 < s.length) = true := decide_eq_true h2
    have HF : Hid (z = false) := Lib.hid (by rw [← HZ.out, decide_eq_false (show ¬ s.length ≤ 24 by omega)]; simp)
    go_enter Tryz.func55, Tryz.ntmps55
    go_wp2_with fail
    go_ret
    exact ⟨ret_bool HF.out.symm, rfl⟩
  have d2 : decide (24 < (s.length : Int)) = false := decide_eq_false (by omega)
  have d2' : decide (24 < s.length) = false := decide_eq_false h2
  have HA : Hid (z = s.all keyB) := Lib.hid (by rw [← HZ.out, decide_eq_true (show 0 < s.length by omega), decide_eq_true (show s.length ≤ 24 by omega)]; simp)
  clear HZ
  go_enter Tryz.func55, Tryz.ntmps55
  go_wp2_with fail
  go_loop [3] (fun iv => ∃ i : Nat, i ≤ s.length ∧ iv = .int .i64 (i : Int) ∧ Hid (∀ j (h : j < s.length), j < i → keyB s[j] = true)) (fun iv => s.length - (intOf iv).toNat)
  case atStart => exact ⟨0, Nat.zero_le _, rfl, fun j h h' => by omega⟩
  case round =>
    obtain ⟨i, hi, rfl, hp⟩ := hrel
    clear d1 d1' d2 d2'
    by_cases hlt : i < s.length
    · have hdl : decide ((i : Int) < (s.length : Int)) = true := decide_eq_true (by omega)
      have hdl' : decide (i < s.length) = true := decide_eq_true hlt
      have hix := fun W => run_index_str W s i hlt
      obtain ⟨x, hx⟩ : ∃ x, (s[i]).toNat = x := ⟨_, rfl⟩
      have hpb : keyB s[i] = (decide (33 ≤ x) && decide (x ≤ 126) && !decide (x = 46) && !decide (x = 34)) := by
        have e46 : (s[i] == 46) = decide (x = 46) := by
          rw [Bool.eq_iff_iff, beq_iff_eq, decide_eq_true_eq, ← hx]
          exact ⟨fun h => by rw [h]; rfl, fun h => UInt8.toNat_inj.1 h⟩
        have e34 : (s[i] == 34) = decide (x = 34) := by
          rw [Bool.eq_iff_iff, beq_iff_eq, decide_eq_true_eq, ← hx]
          exact ⟨fun h => by rw [h]; rfl, fun h => UInt8.toNat_inj.1 h⟩
        unfold keyB
        rw [e46, e34, hx]
      simp only [hx] at hix
      have HB := Lib.hid hpb
      clear hpb hx
      by_cases hbad : x < 33 ∨ 126 < x ∨ x = 46 ∨ x = 34
      · have hno : s.all keyB = false := keyB_no hlt (by
          rw [HB.out]
          rcases hbad with h | h | h | h
          · rw [decide_eq_false (show ¬ 33 ≤ x by omega)]; rfl
          · rw [decide_eq_false (show ¬ x ≤ 126 by omega)]; simp
          · subst h; rfl
          · subst h; rfl)
        have HN : Hid (z = false) := Lib.hid (HA.out.trans hno)
        clear hno
        by_cases h3 : x < 33
        · have e1 : decide ((x : Int) < 33) = true := decide_eq_true (by omega)
          have e1' : decide (x < 33) = true := decide_eq_true h3
          go_wp2_with fail
          go_ret
          exact ⟨ret_bool HN.out.symm, rfl⟩
        have e1 : decide ((x : Int) < 33) = false := decide_eq_false (by omega)
        have e1' : decide (x < 33) = false := decide_eq_false h3
        by_cases h4 : 126 < x
        · have e2 : decide (126 < (x : Int)) = true := decide_eq_true (by omega)
          have e2' : decide (126 < x) = true := decide_eq_true h4
          go_wp2_with fail
          go_ret
          exact ⟨ret_bool HN.out.symm, rfl⟩
        have e2 : decide (126 < (x : Int)) = false := decide_eq_false (by omega)
        have e2' : decide (126 < x) = false := decide_eq_false h4
        by_cases h5 : x = 46
        · subst h5
          go_wp2_with fail
          go_ret
          exact ⟨ret_bool HN.out.symm, rfl⟩
        have h6 : x = 34 := by omega
        subst h6
        go_wp2_with fail
        go_ret
        exact ⟨ret_bool HN.out.symm, rfl⟩
      · have e1 : decide ((x : Int) < 33) = false := decide_eq_false (by omega)
        have e1' : decide (x < 33) = false := decide_eq_false (by omega)
        have e2 : decide (126 < (x : Int)) = false := decide_eq_false (by omega)
        have e2' : decide (126 < x) = false := decide_eq_false (by omega)
        have e3 : ((x : Int) == 46) = false := by simp; omega
        have e3' : (x == 46) = false := by simp; omega
        have e4 : ((x : Int) == 34) = false := by simp; omega
        have e4' : (x == 34) = false := by simp; omega
        have HG : Hid (keyB s[i] = true) := Lib.hid (by
          rw [HB.out, decide_eq_true (show 33 ≤ x by omega), decide_eq_true (show x ≤ 126 by omega), decide_eq_false (show ¬ x = 46 by omega), decide_eq_false (show ¬ x = 34 by omega)]
          rfl)
        have n1 : ¬ ((x : Int) = 46) := by omega
        have n2 : ¬ ((x : Int) = 34) := by omega
        clear hbad
        go_wp2_with fail
        go_round
        case rel => exact ⟨i + 1, by omega, by go_num, fun j h h' => by
          rcases Nat.lt_or_ge j i with hj | hj
          · exact hp.out j h hj
          · obtain rfl : j = i := by omega
            exact HG.out⟩
        case measure => simp [intOf]; omega
    · obtain rfl : i = s.length := by omega
      have hdl : decide ((s.length : Int) < (s.length : Int)) = false := decide_eq_false (by omega)
      have hdl' : decide (s.length < s.length) = false := decide_eq_false (by omega)
      have HY : Hid (z = true) := Lib.hid (HA.out.trans (keyB_all fun j h => hp.out j h h))
      go_wp2_with fail
      go_ret
      exact ⟨ret_bool HY.out.symm, rfl⟩
/-! Texts. -/
theorem cmpT_step {a b : List UInt8} {i : Nat} (h1 : i < a.length) (h2 : i < b.length) (he : a[i] = b[i]) : cmpT (a.drop i) (b.drop i) = cmpT (a.drop (i + 1)) (b.drop (i + 1)) := by
  rw [List.drop_eq_getElem_cons h1, List.drop_eq_getElem_cons h2, he, cmpT, if_neg (by simp), if_neg (by simp)]
theorem cmpT_lt {a b : List UInt8} {i : Nat} (h1 : i < a.length) (h2 : i < b.length) (he : a[i].toNat < b[i].toNat) : cmpT (a.drop i) (b.drop i) = -1 := by
  rw [List.drop_eq_getElem_cons h1, List.drop_eq_getElem_cons h2, cmpT, if_pos (by rw [UInt8.lt_iff_toNat_lt]; exact he)]
theorem cmpT_gt {a b : List UInt8} {i : Nat} (h1 : i < a.length) (h2 : i < b.length) (he : b[i].toNat < a[i].toNat) : cmpT (a.drop i) (b.drop i) = 1 := by
  rw [List.drop_eq_getElem_cons h1, List.drop_eq_getElem_cons h2, cmpT, if_neg (by rw [UInt8.lt_iff_toNat_lt]; omega), if_pos (by rw [UInt8.lt_iff_toNat_lt]; exact he)]
theorem cmpT_end : ∀ (a b : List UInt8), a.length = 0 ∨ b.length = 0 → cmpT a b = if a.length = b.length then 0 else if a.length < b.length then -1 else 1
  | [], [], _ => rfl
  | [], _ :: _, _ => rfl
  | _ :: _, [], _ => rfl
  | _ :: _, _ :: _, h => by simp at h
end Go.Proofs.YtjaocgmicdnghaaGreatDoor.V1

/-
  CONTRACTS of the reference's digits.
-/
namespace Go.Proofs.YtjaocgmicdnghaaGreatDoor.V1
set_option linter.unusedSimpArgs false
set_option linter.unusedVariables false
open Go Go.RowKit

theorem strOf_app (a b : List UInt8) : strOf a ++ strOf b = strOf (a ++ b) := by
  apply ByteArray.ext
  simp [strOf, ByteArray.data_append]
theorem run_cat (w : World) (a b : List UInt8) (h : a.length + b.length ≤ 1000000000000) : (Op.stringOp .add (strOf a) (strOf b)).run Tryz.prog w = .ok (.string (strOf (a ++ b))) w := by
  rw [run_string_add_sum w _ _ (by rw [strOf_size, strOf_size]; omega), strOf_app]
theorem dec_step {u : Nat} (h : ¬ u < 10) : Lib.decDigits u = Lib.decDigits (u / 10) ++ [UInt8.ofNat (48 + u % 10)] := by
  conv => lhs; unfold Lib.decDigits
  rw [dif_neg h]
theorem dec_small {u : Nat} (h : u < 10) : Lib.decDigits u = [UInt8.ofNat (48 + u)] := by
  unfold Lib.decDigits
  rw [dif_pos h]
theorem bv_one8 (d : Nat) (h : d < 10) : bv [UInt8.ofNat (48 + d)] = [.int .u8 ((48 + d : Nat) : Int)] := by
  have : (UInt8.ofNat (48 + d)).toNat = 48 + d := by
    rw [UInt8.toNat_ofNat']
    omega
  show [Value.int .u8 ((UInt8.ofNat (48 + d)).toNat : Int)] = _
  rw [this]
set_option maxRecDepth 100000 in
set_option maxHeartbeats 4000000 in
theorem rdigits_c (w : World) (n : Int) (h0 : -9223372036854775808 ≤ n) (h1 : n ≤ 9223372036854775807) : Calls Tryz.prog 32 #[.int .i64 n] w fun e w' => e = .returned (.string (strOf (decI n))) ∧ Fr (fun _ => False) w w' := by
  obtain ⟨z, hz⟩ : ∃ z, decI n = z := ⟨_, rfl⟩
  rw [hz]
  have HZ : Hid (z = if n < 0 then 45 :: Lib.decDigits n.natAbs else Lib.decDigits n.natAbs) := Lib.hid (by
    rw [← hz]
    unfold decI Lib.itoa
    by_cases h : n < 0
    · rw [if_pos h, if_pos h]
    · rw [if_neg h, if_neg h]
      congr 1
      omega)
  obtain ⟨ng, hng⟩ : ∃ b, decide (n < 0) = b := ⟨_, rfl⟩
  clear hz
  go_enter Tryz.func32, Tryz.ntmps32
  go_wp2_with fail
  go_loopw [0, 4] (fun nv sv wr => ∃ (m : Int) (l : List UInt8), nv = .int .i64 m ∧ sv = .string (strOf l) ∧ -9223372036854775808 ≤ m ∧ m ≤ 9223372036854775807 ∧ l.length ≤ 100 ∧ m.natAbs * 2 ^ l.length ≤ 9223372036854775808 ∧ Hid (Lib.decDigits n.natAbs = Lib.decDigits m.natAbs ++ l) ∧ Hid (Fr (fun _ => False) w wr)) (fun nv _ _ => (intOf nv).natAbs)
  case atStart => exact ⟨n, [], rfl, rfl, h0, h1, by simp, by simp; omega, Lib.hid (by simp), Fr.refl _ _⟩
  case round =>
    obtain ⟨m, l, rfl, rfl, hm0, hm1, hl, hl2, hd, hf⟩ := hrel
    obtain ⟨k, hk⟩ : ∃ k : Nat, m.natAbs = k := ⟨_, rfl⟩
    rw [hk] at hd hl2
    obtain ⟨d, hdd⟩ : ∃ d : Nat, k % 10 = d := ⟨_, rfl⟩
    have hr : (k : Int) % 10 = (d : Int) := by omega
    have hd10 : d < 10 := by omega
    by_cases hneg : m < 0
    case pos =>
      obtain rfl : m = -(k : Int) := by omega
      by_cases hd0 : d = 0
      case pos =>
        subst hd0
        have HC : Hid (bv [UInt8.ofNat (48 + 0)] = [.int .u8 48]) := Lib.hid (by rw [bv_one8 0 (by omega)]; simp)
        obtain ⟨c, hc⟩ : ∃ c, UInt8.ofNat (48 + 0) = c := ⟨_, rfl⟩
        have HCD := Lib.hid hc
        rw [hc] at HC
        clear hc
        have hconv : (convert 43 9 (.slice (some ⟨wr.heap.size, 0, none⟩) 1 1)).run Tryz.prog (wr.alloc (.cells #[.int .u8 48] 5)) = .ok (.string (strOf [c])) (wr.alloc (.cells #[.int .u8 48] 5)) := conv_str _ _ 1 1 [c] (by rw [HC.out]; exact Rd.of_blk (Blk.new wr 5 #[.int .u8 48]) (Nat.le_refl _))
        have hcat := fun W => run_cat W [c] l (by simp; omega)
        simp only [List.cons_append, List.nil_append] at hcat
        by_cases hk10 : k < 10
        case pos =>
          exfalso
          omega
        case neg =>
          obtain ⟨q, hq⟩ : ∃ q : Nat, k / 10 = q := ⟨_, rfl⟩
          have hqi : (k : Int) / 10 = (q : Int) := by omega
          have hq1 : 1 ≤ q := by omega
          have HD : Hid (Lib.decDigits n.natAbs = Lib.decDigits q ++ (c :: l)) := Lib.hid (by
            rw [hd.out, dec_step hk10, hq, ← HCD.out]
            have : k % 10 = 0 := by omega
            rw [this]
            simp)
          have FF : Hid (Fr (fun _ => False) w (wr.alloc (.cells #[.int .u8 48] 5))) := Lib.hid (hf.out.alloc _)
          have hpow : q * 2 ^ (c :: l).length ≤ 9223372036854775808 := by
            have : (c :: l).length = l.length + 1 := rfl
            rw [this, Nat.pow_succ]
            have h5 : q * 2 ≤ k := by omega
            have := Nat.mul_le_mul_right (2 ^ l.length) h5
            have e : q * (2 ^ l.length * 2) = q * 2 * 2 ^ l.length := by rw [Nat.mul_comm (2 ^ l.length) 2, Nat.mul_assoc]
            rw [e]
            exact Nat.le_trans this hl2
          have hlen : (c :: l).length ≤ 100 := by
            rcases Nat.lt_or_ge 99 l.length with h | h
            · have h6 : 2 ^ 100 ≤ 2 ^ l.length := Nat.pow_le_pow_right (by omega) (by omega)
              have h7 := Nat.mul_le_mul_right (2 ^ l.length) (show 1 ≤ k by omega)
              rw [Nat.one_mul] at h7
              have : (2 : Nat) ^ 100 ≤ 9223372036854775808 := Nat.le_trans h6 (Nat.le_trans h7 hl2)
              exact absurd this (by decide)
            · show l.length + 1 ≤ 100
              omega
          have nq : ¬ ((q : Int) = 0) := by omega
          have nq' : ¬ (-(q : Int) = 0) := by omega
          have eq1 : ((q : Int) == 0) = false := by simpa using nq
          have eq2 : (-(q : Int) == 0) = false := by simpa using nq'
          have hq0 : ¬ q = 0 := by omega
          go_wp2_with fail
          go_roundw
          case rel => exact ⟨-(q : Int), c :: l, by go_num, rfl, by omega, by omega, hlen, by rw [show (-(q : Int)).natAbs = q by omega]; exact hpow, by rw [show (-(q : Int)).natAbs = q by omega]; exact HD.out, FF.out⟩
          case measure => simp [intOf]; omega
      case neg =>
        have hdp : (0 : Int) < (d : Int) := by omega
        have hdp' : decide ((0 : Int) < (d : Int)) = true := decide_eq_true hdp
        have HC : Hid (bv [UInt8.ofNat (48 + d)] = [.int .u8 (48 + (d : Int))]) := Lib.hid (by rw [bv_one8 d (by omega)]; simp)
        obtain ⟨c, hc⟩ : ∃ c, UInt8.ofNat (48 + d) = c := ⟨_, rfl⟩
        have HCD := Lib.hid hc
        rw [hc] at HC
        clear hc
        have hconv : (convert 43 9 (.slice (some ⟨wr.heap.size, 0, none⟩) 1 1)).run Tryz.prog (wr.alloc (.cells #[.int .u8 (48 + (d : Int))] 5)) = .ok (.string (strOf [c])) (wr.alloc (.cells #[.int .u8 (48 + (d : Int))] 5)) := conv_str _ _ 1 1 [c] (by rw [HC.out]; exact Rd.of_blk (Blk.new wr 5 #[.int .u8 (48 + (d : Int))]) (Nat.le_refl _))
        have hcat := fun W => run_cat W [c] l (by simp; omega)
        simp only [List.cons_append, List.nil_append] at hcat
        by_cases hk10 : k < 10
        case pos =>
          have hq0 : (k : Int) / 10 = 0 := by omega
          have HD : Hid (Lib.decDigits n.natAbs = c :: l) := Lib.hid (by
            rw [hd.out, dec_small hk10, ← HCD.out]
            have : k = d := by omega
            rw [this]
            rfl)
          have hcat2 : ∀ W, (Op.stringOp .add ⟨#[45]⟩ (strOf (c :: l))).run Tryz.prog W = .ok (.string (strOf (45 :: c :: l))) W := fun W => run_cat W [45] (c :: l) (by simp; omega)
          have FF : Hid (Fr (fun _ => False) w (wr.alloc (.cells #[.int .u8 (48 + (d : Int))] 5))) := Lib.hid (hf.out.alloc _)
          cases ng with
          | true =>
            have HF : Hid (z = 45 :: c :: l) := Lib.hid (by rw [HZ.out, if_pos (of_decide_eq_true hng), HD.out])
            clear hng
            go_wp2_with fail
            go_ret
            exact ⟨by rw [HF.out]; rfl, FF.out⟩
          | false =>
            have HF : Hid (z = c :: l) := Lib.hid (by rw [HZ.out, if_neg (of_decide_eq_false hng), HD.out])
            clear hng
            go_wp2_with fail
            go_ret
            exact ⟨by rw [HF.out]; rfl, FF.out⟩
        case neg =>
          obtain ⟨q, hq⟩ : ∃ q : Nat, k / 10 = q := ⟨_, rfl⟩
          have hqi : (k : Int) / 10 = (q : Int) := by omega
          have hq1 : 1 ≤ q := by omega
          have HD : Hid (Lib.decDigits n.natAbs = Lib.decDigits q ++ (c :: l)) := Lib.hid (by
            rw [hd.out, dec_step hk10, hq, ← HCD.out]
            have : k % 10 = d := by omega
            rw [this]
            simp)
          have FF : Hid (Fr (fun _ => False) w (wr.alloc (.cells #[.int .u8 (48 + (d : Int))] 5))) := Lib.hid (hf.out.alloc _)
          have hpow : q * 2 ^ (c :: l).length ≤ 9223372036854775808 := by
            have : (c :: l).length = l.length + 1 := rfl
            rw [this, Nat.pow_succ]
            have h5 : q * 2 ≤ k := by omega
            have := Nat.mul_le_mul_right (2 ^ l.length) h5
            have e : q * (2 ^ l.length * 2) = q * 2 * 2 ^ l.length := by rw [Nat.mul_comm (2 ^ l.length) 2, Nat.mul_assoc]
            rw [e]
            exact Nat.le_trans this hl2
          have hlen : (c :: l).length ≤ 100 := by
            rcases Nat.lt_or_ge 99 l.length with h | h
            · have h6 : 2 ^ 100 ≤ 2 ^ l.length := Nat.pow_le_pow_right (by omega) (by omega)
              have h7 := Nat.mul_le_mul_right (2 ^ l.length) (show 1 ≤ k by omega)
              rw [Nat.one_mul] at h7
              have : (2 : Nat) ^ 100 ≤ 9223372036854775808 := Nat.le_trans h6 (Nat.le_trans h7 hl2)
              exact absurd this (by decide)
            · show l.length + 1 ≤ 100
              omega
          have nq : ¬ ((q : Int) = 0) := by omega
          have nq' : ¬ (-(q : Int) = 0) := by omega
          have eq1 : ((q : Int) == 0) = false := by simpa using nq
          have eq2 : (-(q : Int) == 0) = false := by simpa using nq'
          have hq0 : ¬ q = 0 := by omega
          go_wp2_with fail
          go_roundw
          case rel => exact ⟨-(q : Int), c :: l, by go_num, rfl, by omega, by omega, hlen, by rw [show (-(q : Int)).natAbs = q by omega]; exact hpow, by rw [show (-(q : Int)).natAbs = q by omega]; exact HD.out, FF.out⟩
          case measure => simp [intOf]; omega
    case neg =>
      obtain rfl : m = (k : Int) := by omega
      have hdn : ¬ ((d : Int) < 0) := by omega
      have hdn' : decide ((d : Int) < 0) = false := decide_eq_false hdn
      have HC : Hid (bv [UInt8.ofNat (48 + d)] = [.int .u8 (48 + (d : Int))]) := Lib.hid (by rw [bv_one8 d (by omega)]; simp)
      obtain ⟨c, hc⟩ : ∃ c, UInt8.ofNat (48 + d) = c := ⟨_, rfl⟩
      have HCD := Lib.hid hc
      rw [hc] at HC
      clear hc
      have hconv : (convert 43 9 (.slice (some ⟨wr.heap.size, 0, none⟩) 1 1)).run Tryz.prog (wr.alloc (.cells #[.int .u8 (48 + (d : Int))] 5)) = .ok (.string (strOf [c])) (wr.alloc (.cells #[.int .u8 (48 + (d : Int))] 5)) := conv_str _ _ 1 1 [c] (by rw [HC.out]; exact Rd.of_blk (Blk.new wr 5 #[.int .u8 (48 + (d : Int))]) (Nat.le_refl _))
      have hcat := fun W => run_cat W [c] l (by simp; omega)
      simp only [List.cons_append, List.nil_append] at hcat
      by_cases hk10 : k < 10
      case pos =>
        have hq0 : (k : Int) / 10 = 0 := by omega
        have HD : Hid (Lib.decDigits n.natAbs = c :: l) := Lib.hid (by
          rw [hd.out, dec_small hk10, ← HCD.out]
          have : k = d := by omega
          rw [this]
          rfl)
        have hcat2 : ∀ W, (Op.stringOp .add ⟨#[45]⟩ (strOf (c :: l))).run Tryz.prog W = .ok (.string (strOf (45 :: c :: l))) W := fun W => run_cat W [45] (c :: l) (by simp; omega)
        have FF : Hid (Fr (fun _ => False) w (wr.alloc (.cells #[.int .u8 (48 + (d : Int))] 5))) := Lib.hid (hf.out.alloc _)
        cases ng with
        | true =>
          have HF : Hid (z = 45 :: c :: l) := Lib.hid (by rw [HZ.out, if_pos (of_decide_eq_true hng), HD.out])
          clear hng
          go_wp2_with fail
          go_ret
          exact ⟨by rw [HF.out]; rfl, FF.out⟩
        | false =>
          have HF : Hid (z = c :: l) := Lib.hid (by rw [HZ.out, if_neg (of_decide_eq_false hng), HD.out])
          clear hng
          go_wp2_with fail
          go_ret
          exact ⟨by rw [HF.out]; rfl, FF.out⟩
      case neg =>
        obtain ⟨q, hq⟩ : ∃ q : Nat, k / 10 = q := ⟨_, rfl⟩
        have hqi : (k : Int) / 10 = (q : Int) := by omega
        have hq1 : 1 ≤ q := by omega
        have HD : Hid (Lib.decDigits n.natAbs = Lib.decDigits q ++ (c :: l)) := Lib.hid (by
          rw [hd.out, dec_step hk10, hq, ← HCD.out]
          have : k % 10 = d := by omega
          rw [this]
          simp)
        have FF : Hid (Fr (fun _ => False) w (wr.alloc (.cells #[.int .u8 (48 + (d : Int))] 5))) := Lib.hid (hf.out.alloc _)
        have hpow : q * 2 ^ (c :: l).length ≤ 9223372036854775808 := by
          have : (c :: l).length = l.length + 1 := rfl
          rw [this, Nat.pow_succ]
          have h5 : q * 2 ≤ k := by omega
          have := Nat.mul_le_mul_right (2 ^ l.length) h5
          have e : q * (2 ^ l.length * 2) = q * 2 * 2 ^ l.length := by rw [Nat.mul_comm (2 ^ l.length) 2, Nat.mul_assoc]
          rw [e]
          exact Nat.le_trans this hl2
        have hlen : (c :: l).length ≤ 100 := by
          rcases Nat.lt_or_ge 99 l.length with h | h
          · have h6 : 2 ^ 100 ≤ 2 ^ l.length := Nat.pow_le_pow_right (by omega) (by omega)
            have h7 := Nat.mul_le_mul_right (2 ^ l.length) (show 1 ≤ k by omega)
            rw [Nat.one_mul] at h7
            have : (2 : Nat) ^ 100 ≤ 9223372036854775808 := Nat.le_trans h6 (Nat.le_trans h7 hl2)
            exact absurd this (by decide)
          · show l.length + 1 ≤ 100
            omega
        have nq : ¬ ((q : Int) = 0) := by omega
        have nq' : ¬ (-(q : Int) = 0) := by omega
        have eq1 : ((q : Int) == 0) = false := by simpa using nq
        have eq2 : (-(q : Int) == 0) = false := by simpa using nq'
        have hq0 : ¬ q = 0 := by omega
        go_wp2_with fail
        go_roundw
        case rel => exact ⟨(q : Int), c :: l, by go_num, rfl, by omega, by omega, hlen, by rw [show ((q : Int)).natAbs = q by omega]; exact hpow, by rw [show ((q : Int)).natAbs = q by omega]; exact HD.out, FF.out⟩
        case measure => simp [intOf]; omega
end Go.Proofs.YtjaocgmicdnghaaGreatDoor.V1

/-
  CONTRACT of the reference's quoted. Written by gen_rquo.py.
-/
namespace Go.Proofs.YtjaocgmicdnghaaGreatDoor.V1
set_option linter.unusedSimpArgs false
set_option linter.unusedVariables false
open Go Go.RowKit

theorem own_lits (w : World) (base : Nat) (l : List Value) (n : Nat) (hl : l.length = n) (hb : base ≤ w.heap.size) (hn : n ≤ maxLen) :
    (w.alloc (.cells l.toArray 5)).ownsRow base 5 1 (.slice (some ⟨w.heap.size, 0, none⟩) n n) n l :=
  ⟨by rw [hl, Nat.mul_one], .inr ⟨w.heap.size, n, l.toArray, rfl, hb, heap_alloc_new w _, Nat.le_refl _, hn, by simp [hl], by rw [Nat.mul_one, ← hl]; simp⟩⟩
set_option maxRecDepth 100000 in
set_option maxHeartbeats 4000000 in
theorem rquoted_c (w : World) (s : List UInt8) (hs : s.length ≤ 1000000) : Calls Tryz.prog 33 #[.string (strOf s)] w fun e w' => e = .returned (.string (strOf (quoted s))) ∧ Fr (fun _ => False) w w' := by
  obtain ⟨i0, hi0, hz0', hz1', hz2'⟩ := info_parts u8_info
  have HI0 := Lib.hid hi0
  have hsz := strOf_size s
  have hne := nesc_le s
  clear hi0
  go_enter Tryz.func33, Tryz.ntmps33
  go_upto_region 2 with fail
  have BN := Lib.hid (own_lits w w.heap.size [.int .u8 34] 1 rfl (Nat.le_refl _) (by unfold maxLen; omega))
  refine abs_world (fun W => Hid (W.ownsRow w.heap.size 5 1 (.slice (some ⟨w.heap.size, 0, none⟩) 1 1) 1 (bv (34 :: escs (s.take 0)))) ∧ Hid (Fr (fun _ => False) w W)) ⟨BN.out, (Fr.refl _ w).alloc _⟩ ?_
  rintro W1 ⟨O1, F1⟩
  clear BN
  go_wp2_with fail
  go_loopw [3, 4] (fun ov iv wr => ∃ (i m : Nat) (A2 : Option Addr) (c2 : Nat), i ≤ s.length ∧ iv = .int .i64 (i : Int) ∧ ov = .slice A2 m c2 ∧ Hid (m = 1 + (escs (s.take i)).length) ∧ Hid (wr.ownsRow w.heap.size 5 1 (.slice A2 m c2) m (bv (34 :: escs (s.take i)))) ∧ Hid (Fr (fun _ => False) w wr)) (fun _ iv _ => s.length - (intOf iv).toNat)
  case atStart => exact ⟨0, 1, _, 1, Nat.zero_le _, rfl, rfl, rfl, O1.out, F1.out⟩
  case round =>
    obtain ⟨i, m, A2, c2, hi, rfl, rfl, hm, ho, hk⟩ := hrel
    have hz := hk.out.size
    have hml : m ≤ 1 + s.length + nesc s := by
      have h1 := hm.out
      have h2 := (escs_pre s i).length_le
      have h3 := escs_len s
      omega
    by_cases hlt : i < s.length
    case neg =>
      obtain rfl : i = s.length := by omega
      have hdl : decide ((s.length : Int) < (s.length : Int)) = false := decide_eq_false (by omega)
      have hdl' : decide (s.length < s.length) = false := decide_eq_false (by omega)
      have htk : s.take s.length = s := List.take_length
      rw [htk] at ho hm
      clear htk hdl'
      go_wp2_with (first
        | (at_builtin
           refine wpList_app rfl _ _ _ _ rfl w.heap.size 5 i0 _ 1 1 Tryz.underlying43 HI0.out hz0' hz1' hz2' rfl _ m (bv (34 :: escs s)) rfl (own_al ho.out _) _ 1 [.int .u8 34] rfl (src1 wr 34) (by omega) (by unfold maxLen; omega) (by rw [World.size_alloc]; omega) ?_
           intro v3 W3 o3 f3 n3
           obtain ⟨A3, c3, rfl, -, -⟩ := own_slice o3
           have O3 := Lib.hid o3
           have F3 := Lib.hid f3
           have hcv : (convert 43 9 (.slice A3 (m + 1) c3)).run Tryz.prog W3 = .ok (.string (strOf (quoted s))) W3 := conv_str W3 A3 (m + 1) c3 (quoted s) (by have h := Rd.of_own (own_base o3 (base' := 0) (fun _ _ => Nat.zero_le _)); rw [show bv (34 :: escs s) ++ [.int .u8 34] = bv (quoted s) from by rw [show quoted s = (34 :: escs s) ++ [34] from rfl, bv_append]; rfl] at h; exact h)
           clear o3 f3 n3))
      go_ret
      exact ⟨rfl, (hk.out.alloc _).trans F3.out (fun q hq he => by have := (ho.out.lt q he).1; omega)⟩
    have hdl : decide ((i : Int) < (s.length : Int)) = true := decide_eq_true (by omega)
    have hdl' : decide (i < s.length) = true := decide_eq_true hlt
    have hix := fun W => run_index_str W s i hlt
    have hes := escs_take s i hlt
    have hsm : ((escs (s.take (i + 1))).length : Nat) ≤ s.length + nesc s := by
      have h2 := (escs_pre s (i + 1)).length_le
      have h3 := escs_len s
      omega
    have HM := Lib.hid hsm
    obtain ⟨x, hx⟩ : ∃ x, s[i] = x := ⟨_, rfl⟩
    simp only [hx] at hix hes
    have HES := Lib.hid hes
    clear hx hes hsm
    by_cases he : x = 34 ∨ x = 92
    case pos =>
      have hxt : x.toNat = 34 ∨ x.toNat = 92 := by rcases he with rfl | rfl <;> simp
      have he1 : esc1 x = [92, x] := by rcases he with rfl | rfl <;> rfl
      have HE1 := Lib.hid he1
      clear he1
      have hm2 : m + 2 ≤ 1 + s.length + nesc s := by
        have h1 := HM.out
        rw [HES.out, HE1.out] at h1
        simp at h1
        have := hm.out
        omega
      obtain ⟨y, hy⟩ : ∃ y, x.toNat = y := ⟨_, rfl⟩
      rw [hy] at hxt
      simp only [hy] at hix
      have HY := Lib.hid hy
      clear hy he
      rcases hxt with rfl | rfl
      all_goals
        go_upto_region 7 with (first
          | (at_builtin
             refine wpList_app rfl _ _ _ _ rfl w.heap.size 5 i0 _ 1 1 Tryz.underlying43 HI0.out hz0' hz1' hz2' rfl _ m (bv (34 :: escs (s.take i))) rfl (own_al ho.out _) _ 1 [.int .u8 92] rfl (src1 wr 92) (by omega) (by unfold maxLen; omega) (by rw [World.size_alloc]; omega) ?_
             intro v3 W3 o3 f3 n3
             obtain ⟨A3, c3, rfl, -, -⟩ := own_slice o3
             have O3 := Lib.hid o3
             have F3 := Lib.hid f3
             skip
             clear o3 f3 n3))
        have K3 : Hid (Fr (fun _ => False) w W3) := Lib.hid ((hk.out.alloc _).trans F3.out (fun q hq he => by have := (ho.out.lt q he).1; omega))
        have Z3 := K3.out.size
        have O4 : Hid (W3.ownsRow w.heap.size 5 1 (.slice A3 (m + 1) c3) (m + 1) (bv (34 :: escs (s.take i) ++ [92]))) := Lib.hid (by
          have h := O3.out
          rw [show bv (34 :: escs (s.take i)) ++ [.int .u8 92] = bv (34 :: escs (s.take i) ++ [92]) from by rw [bv_append]; rfl] at h
          exact h)
        clear O3 F3
        go_wp2_with (first
          | (at_builtin
             refine wpList_app rfl _ _ _ _ rfl w.heap.size 5 i0 _ 1 1 Tryz.underlying43 HI0.out hz0' hz1' hz2' rfl _ (m + 1) (bv (34 :: escs (s.take i) ++ [92])) rfl (own_al O4.out _) _ 1 [.int .u8 _] rfl (src1 W3 _) (by omega) (by unfold maxLen; omega) (by rw [World.size_alloc]; omega) ?_
             intro v5 W5 o5 f5 n5
             obtain ⟨A5, c5, rfl, -, -⟩ := own_slice o5
             have O5 := Lib.hid o5
             have F5 := Lib.hid f5
             skip
             clear o5 f5 n5))
        have K5 : Hid (Fr (fun _ => False) w W5) := Lib.hid ((K3.out.alloc _).trans F5.out (fun q hq he => by have := (O4.out.lt q he).1; omega))
        have O6 : Hid (W5.ownsRow w.heap.size 5 1 (.slice A5 (m + 1 + 1) c5) (m + 1 + 1) (bv (34 :: escs (s.take (i + 1))))) := Lib.hid (by
          have h := O5.out
          have e : ∀ z : Int, z = (x.toNat : Int) → bv (34 :: escs (s.take i) ++ [92]) ++ [.int .u8 z] = bv (34 :: escs (s.take (i + 1))) := by
            intro z hz
            rw [HES.out, HE1.out, hz, ← bv1, ← bv_append, List.append_assoc]
            rfl
          rw [e] at h
          · exact h
          · rw [HY.out]; rfl)
        have hm5 : Hid (m + 2 = 1 + (escs (s.take (i + 1))).length) := by
          refine Lib.hid ?_
          rw [HES.out, HE1.out, hm.out]
          simp
          omega
        clear O5 F5 hix
        go_wp2_with fail
        go_roundw
        case rel => exact ⟨i + 1, m + 2, A5, c5, by omega, by go_num, rfl, hm5.out, O6.out, K5.out⟩
        case measure => simp [intOf]; omega
    case neg =>
      simp only [not_or] at he
      have he1 : esc1 x = [x] := by unfold esc1; simp [he.1, he.2]
      have hxt : x.toNat ≠ 34 ∧ x.toNat ≠ 92 := ⟨fun h => he.1 (UInt8.toNat_inj.1 h), fun h => he.2 (UInt8.toNat_inj.1 h)⟩
      have HE1 := Lib.hid he1
      clear he1 he
      have hm2 : m + 1 ≤ 1 + s.length + nesc s := by
        have h1 := HM.out
        rw [HES.out, HE1.out] at h1
        simp at h1
        have := hm.out
        omega
      obtain ⟨y, hy⟩ : ∃ y, x.toNat = y := ⟨_, rfl⟩
      rw [hy] at hxt
      simp only [hy] at hix
      have HY := Lib.hid hy
      clear hy
      have e1 : ((y : Int) == 34) = false := by simp; omega
      have e2 : ((y : Int) == 92) = false := by simp; omega
      have e1' : (y == 34) = false := by simp; omega
      have e2' : (y == 92) = false := by simp; omega
      clear hxt
      go_wp2_with (first
        | (at_builtin
           refine wpList_app rfl _ _ _ _ rfl w.heap.size 5 i0 _ 1 1 Tryz.underlying43 HI0.out hz0' hz1' hz2' rfl _ m (bv (34 :: escs (s.take i))) rfl (own_al ho.out _) _ 1 [.int .u8 _] rfl (src1 wr _) (by omega) (by unfold maxLen; omega) (by rw [World.size_alloc]; omega) ?_
           intro v5 W5 o5 f5 n5
           obtain ⟨A5, c5, rfl, -, -⟩ := own_slice o5
           have O5 := Lib.hid o5
           have F5 := Lib.hid f5
           skip
           clear o5 f5 n5))
      have K5 : Hid (Fr (fun _ => False) w W5) := Lib.hid ((hk.out.alloc _).trans F5.out (fun q hq he => by have := (ho.out.lt q he).1; omega))
      have O6 : Hid (W5.ownsRow w.heap.size 5 1 (.slice A5 (m + 1) c5) (m + 1) (bv (34 :: escs (s.take (i + 1))))) := Lib.hid (by
        have h := O5.out
        rw [show bv (34 :: escs (s.take i)) ++ [.int .u8 (y : Nat)] = bv (34 :: escs (s.take (i + 1))) from by
          rw [HES.out, HE1.out, ← HY.out, ← bv1, ← bv_append]
          rfl] at h
        exact h)
      have hm5 : Hid (m + 1 = 1 + (escs (s.take (i + 1))).length) := by
        refine Lib.hid ?_
        rw [HES.out, HE1.out, hm.out]
        simp
        omega
      clear O5 F5 hix
      go_wp2_with fail
      go_roundw
      case rel => exact ⟨i + 1, m + 1, A5, c5, by omega, by go_num, rfl, hm5.out, O6.out, K5.out⟩
      case measure => simp [intOf]; omega
end Go.Proofs.YtjaocgmicdnghaaGreatDoor.V1

/-
  CONTRACT of the reference's Print. Written by gen_rpr.py.
-/
namespace Go.Proofs.YtjaocgmicdnghaaGreatDoor.V1
set_option linter.unusedSimpArgs false
set_option linter.unusedVariables false
open Go Go.RowKit

abbrev RpIH (D : Nat → Prop) (l : List V) : Prop := ∀ (x : V), x ∈ l → fieldsV x = true → (prV x).length ≤ 1000000000 → Sm x → ∀ (W : World) (C : Array Value), RdV D W C x → Calls Tryz.prog 18 #[.agg C] W fun e w' => e = .returned (.string (strOf (prV x))) ∧ Fr (fun _ => False) W w'
theorem strOf_ret {a b : List UInt8} (h : a = b) : Ending.returned (.string (strOf a)) = .returned (.string (strOf b)) := by rw [h]
set_option maxRecDepth 100000 in
set_option maxHeartbeats 8000000 in
theorem rpr0 (w : World) {D : Nat → Prop} {n : Int} {t : List UInt8} {l : List V} {ks : List (List UInt8)} {Al Ak : Option Addr} {cl ck : Nat} {css : List (Array Value)} (hp : VP D w 0 0 [] l ks Al cl Ak ck css) :
    Calls Tryz.prog 18 #[.agg (vcs 0 0 [] Al l.length cl Ak ks.length ck)] w fun e w' => e = .returned (.string (strOf (prV (.mk 0 0 [] l ks)))) ∧ Fr (fun _ => False) w w' := by
  go_enter Tryz.func18, Tryz.ntmps18
  go_wp2_with fail
  go_ret
  exact ⟨rfl, (Fr.refl _ w).alloc _⟩
set_option maxRecDepth 100000 in
set_option maxHeartbeats 8000000 in
theorem rpr1 (w : World) {D : Nat → Prop} {n : Int} {t : List UInt8} {l : List V} {ks : List (List UInt8)} {Al Ak : Option Addr} {cl ck : Nat} {css : List (Array Value)} (hp : VP D w 1 0 [] l ks Al cl Ak ck css) :
    Calls Tryz.prog 18 #[.agg (vcs 1 0 [] Al l.length cl Ak ks.length ck)] w fun e w' => e = .returned (.string (strOf (prV (.mk 1 0 [] l ks)))) ∧ Fr (fun _ => False) w w' := by
  go_enter Tryz.func18, Tryz.ntmps18
  go_wp2_with fail
  go_ret
  exact ⟨rfl, (Fr.refl _ w).alloc _⟩
set_option maxRecDepth 100000 in
set_option maxHeartbeats 8000000 in
theorem rpr2 (w : World) {D : Nat → Prop} {n : Int} {t : List UInt8} {l : List V} {ks : List (List UInt8)} {Al Ak : Option Addr} {cl ck : Nat} {css : List (Array Value)} (hp : VP D w 2 0 [] l ks Al cl Ak ck css) :
    Calls Tryz.prog 18 #[.agg (vcs 2 0 [] Al l.length cl Ak ks.length ck)] w fun e w' => e = .returned (.string (strOf (prV (.mk 2 0 [] l ks)))) ∧ Fr (fun _ => False) w w' := by
  go_enter Tryz.func18, Tryz.ntmps18
  go_wp2_with fail
  go_ret
  exact ⟨rfl, (Fr.refl _ w).alloc _⟩
set_option maxRecDepth 100000 in
set_option maxHeartbeats 8000000 in
theorem rpr3 (w : World) {D : Nat → Prop} {n : Int} {t : List UInt8} {l : List V} {ks : List (List UInt8)} {Al Ak : Option Addr} {cl ck : Nat} {css : List (Array Value)} (hp : VP D w 3 n [] l ks Al cl Ak ck css) :
    Calls Tryz.prog 18 #[.agg (vcs 3 n [] Al l.length cl Ak ks.length ck)] w fun e w' => e = .returned (.string (strOf (prV (.mk 3 n [] l ks)))) ∧ Fr (fun _ => False) w w' := by
  have CL := Lib.hid (fun W => rdigits_c W n hp.b.n0 hp.b.n1)
  go_enter Tryz.func18, Tryz.ntmps18
  go_wp2_with fail
  refine (CL.out _).mono ?_
  rintro e W2 ⟨rfl, f2⟩
  have F2 : Hid (Fr (fun _ => False) w W2) := Lib.hid (((Fr.refl _ w).alloc _).trans f2 (fun _ _ h => h))
  clear f2
  go_wp2_with fail
  go_ret
  exact ⟨rfl, F2.out⟩
set_option maxRecDepth 100000 in
set_option maxHeartbeats 8000000 in
theorem rpr4 (w : World) {D : Nat → Prop} {n : Int} {t : List UInt8} {l : List V} {ks : List (List UInt8)} {Al Ak : Option Addr} {cl ck : Nat} {css : List (Array Value)} (hp : VP D w 4 0 t l ks Al cl Ak ck css) (ht : t.length ≤ 1000000) :
    Calls Tryz.prog 18 #[.agg (vcs 4 0 t Al l.length cl Ak ks.length ck)] w fun e w' => e = .returned (.string (strOf (prV (.mk 4 0 t l ks)))) ∧ Fr (fun _ => False) w w' := by
  have CL := Lib.hid (fun W => rquoted_c W t ht)
  go_enter Tryz.func18, Tryz.ntmps18
  go_wp2_with fail
  refine (CL.out _).mono ?_
  rintro e W2 ⟨rfl, f2⟩
  have F2 : Hid (Fr (fun _ => False) w W2) := Lib.hid (((Fr.refl _ w).alloc _).trans f2 (fun _ _ h => h))
  clear f2
  go_wp2_with fail
  go_ret
  exact ⟨rfl, F2.out⟩
set_option maxRecDepth 100000 in
set_option maxHeartbeats 8000000 in
theorem rpr5 (w : World) {D : Nat → Prop} {n : Int} {t : List UInt8} {l : List V} {ks : List (List UInt8)} {Al Ak : Option Addr} {cl ck : Nat} {css : List (Array Value)} (hp : VP D w 5 0 [] l ks Al cl Ak ck css) (hB : (prV (.mk 5 0 [] l ks)).length ≤ 1000000000) (hfs : fieldss l = true) (hsm : ∀ x ∈ l, Sm x) (hks : ∀ s ∈ ks, s.length ≤ 1000000) (ih : RpIH D l) :
    Calls Tryz.prog 18 #[.agg (vcs 5 0 [] Al l.length cl Ak ks.length ck)] w fun e w' => e = .returned (.string (strOf (prV (.mk 5 0 [] l ks)))) ∧ Fr (fun _ => False) w w' := by
  have HP := Lib.hid hp
  have IH := Lib.hid ih
  have hll := hp.b.ll
  have hbl : (prE false true l ks).length + 2 ≤ 1000000000 := by
    have : prV (.mk 5 0 [] l ks) = 91 :: (prE false true l ks ++ [93]) := by rw [prV]; rfl
    rw [this] at hB
    simp at hB
    omega
  have HR : Hid (prV (.mk 5 0 [] l ks) = 91 :: (prE false true l ks ++ [93])) := Lib.hid (by rw [prV]; rfl)
  obtain ⟨z, hz⟩ : ∃ z, prV (.mk 5 0 [] l ks) = z := ⟨_, rfl⟩
  rw [hz] at HR ⊢
  obtain ⟨g, hg⟩ : ∃ g, w.heap.size = g := ⟨_, rfl⟩
  have HG := Lib.hid hg
  have HFS := Lib.hid hfs
  have HSM := Lib.hid hsm
  have HKS := Lib.hid hks
  clear hp ih hB hz hg hfs hsm hks
  go_enter Tryz.func18, Tryz.ntmps18
  go_upto_region 1 with fail
  refine abs_world (fun W => Hid (Blk W w.heap.size 29 (vcs 5 0 [] Al l.length cl Ak ks.length ck)) ∧ Hid (Fr (fun _ => False) w W)) ⟨Blk.new w _ _, (Fr.refl _ w).alloc _⟩ ?_
  rintro W1 ⟨B1, F1⟩
  rw [HG.out] at B1 ⊢
  have c0 : W1.cell? ⟨g, 0, none⟩ = some (.int .i64 5) := B1.out.cell 0
  go_wp2_with fail
  go_loopw [3, 4] (fun sv iv wr => ∃ (i : Nat) (s : List UInt8), i ≤ l.length ∧ iv = .int .i64 (i : Int) ∧ sv = .string (strOf s) ∧ Hid (s = prE false true (l.take i) ks) ∧ Hid (Blk wr g 29 (vcs 5 0 [] Al l.length cl Ak ks.length ck)) ∧ Hid (Fr (fun _ => False) w wr)) (fun _ iv _ => l.length - (intOf iv).toNat)
  case atStart => exact ⟨0, [], Nat.zero_le _, rfl, rfl, Lib.hid (by rw [List.take_zero, prE]), B1.out, F1.out⟩
  case round =>
    obtain ⟨i, s, hi, rfl, rfl, hs, hb, hf⟩ := hrel
    clear c0
    have c0 : wr.cell? ⟨g, 0, none⟩ = some (.int .i64 5) := hb.out.cell 0
    have c3 : wr.cell? ⟨g, 3, none⟩ = some (.slice Al l.length cl) := hb.out.cell 3
    have c4 : wr.cell? ⟨g, 4, none⟩ = some (.slice Ak ks.length ck) := hb.out.cell 4
    have hsl : s.length ≤ (prE false true l ks).length := by
      rw [hs.out]
      exact (prE_pre false l ks true i).length_le
    by_cases hlt : i < l.length
    case neg =>
      have hdl : decide ((i : Int) < (l.length : Int)) = false := decide_eq_false (by omega)
      have hdl' : decide (i < l.length) = false := decide_eq_false hlt
      have hc5 : ∀ W, (Op.stringOp .add ⟨#[91]⟩ (strOf s)).run Tryz.prog W = .ok (.string (strOf (91 :: s))) W := fun W => run_cat W [91] s (by simp; omega)
      have hc6 : ∀ W, (Op.stringOp .add (strOf (91 :: s)) ⟨#[93]⟩).run Tryz.prog W = .ok (.string (strOf ((91 :: s) ++ [93]))) W := fun W => run_cat W (91 :: s) [93] (by simp; omega)
      have HE : Hid ((91 :: s) ++ [93] = z) := Lib.hid (by rw [HR.out, hs.out, List.take_of_length_le (by omega)]; rfl)
      go_wp2_with fail
      go_ret
      exact ⟨strOf_ret HE.out, hf.out⟩
    have hdl : decide ((i : Int) < (l.length : Int)) = true := decide_eq_true (by omega)
    have hdl' : decide (i < l.length) = true := decide_eq_true hlt
    have hel := prE_take false l ks true i hlt
    have hbd : (prE false true (l.take (i + 1)) ks).length ≤ (prE false true l ks).length := (prE_pre false l ks true (i + 1)).length_le
    have hbd0 := hbd
    rw [hel, ← hs.out] at hbd
    unfold elT at hbd
    obtain ⟨b, off, C, hA, -, hrv, hrg, -⟩ := HP.out.at_ hlt
    subst hA
    have H5 := Lib.hid (szV hrv)
    have hmem := List.getElem_mem hlt
    have hfx : fieldsV l[i] = true := by
      have h : ∀ l : List V, fieldss l = true → ∀ x ∈ l, fieldsV x = true := by
        intro l
        induction l with
        | nil => intro _ x hx; cases hx
        | cons a l ih =>
          intro h x hx
          unfold fieldss at h
          simp only [Bool.and_eq_true] at h
          rcases List.mem_cons.1 hx with rfl | hx
          · exact h.1
          · exact ih h.2 x hx
      exact h l HFS.out _ hmem
    have hpl : (prV l[i]).length ≤ 1000000000 := by
      simp only [List.length_append] at hbd
      omega
    have CALL : Hid (∀ W, Fr (fun _ => False) w W → Calls Tryz.prog 18 #[.agg C] W fun e w' => e = .returned (.string (strOf (prV l[i]))) ∧ Fr (fun _ => False) W w') := Lib.hid (fun W hW => IH.out l[i] hmem hfx hpl (HSM.out _ hmem) W C (hrv.far hW))
    have HGR : Hid (∀ W, Fr (fun _ => False) w W → W.rangeAt b (off + i * 5) C.toList) := Lib.hid (fun W hW => rng_far hrg hW)
    clear hrv hrg hmem hfx
    rcases Nat.eq_zero_or_pos i with rfl | hi0
    · have l0 : s.length = s.length := rfl
      obtain ⟨s1, hs1⟩ : ∃ y, s ++ prV l[0] = y := ⟨_, rfl⟩
      have ls1 : s1.length = s.length + (prV l[0]).length := by rw [← hs1, List.length_append]
      have hc1 : ∀ W, (Op.stringOp .add (strOf s) (strOf (prV l[0]))).run Tryz.prog W = .ok (.string (strOf s1)) W := fun W => hs1 ▸ run_cat W s (prV l[0]) (by simp at hbd ⊢; omega)
      have Hs1 := Lib.hid hs1
      clear hs1
      have HS : Hid (s1 = prE false true (l.take (0 + 1)) ks) := Lib.hid (by rw [← Hs1.out, hel, hs.out]; unfold elT; simp)
      have F2 := Lib.hid hf.out
      have B2 := Lib.hid hb.out
      have CALL := Lib.hid (CALL.out wr F2.out)
      have HGR := Lib.hid (HGR.out wr F2.out)
      go_wp2_with (refine wpList_load_val rfl 29 _ rfl b _ rfl C HGR.out _ Tryz.underlying29 rfl H5.out ?_)
      refine CALL.out.mono ?_
      rintro e W3 ⟨rfl, f3⟩
      have F3 := Lib.hid (F2.out.trans f3 (fun _ _ h => h))
      have B3 := Lib.hid (keepB B2.out f3)
      clear f3
      go_wp2_with fail
      go_roundw
      case rel => exact ⟨1, _, by omega, by first | rfl | go_num, rfl, HS.out, B3.out, F3.out⟩
      case measure => simp [intOf]; omega
    · have d0 : decide ((0 : Int) < (i : Int)) = true := decide_eq_true (by omega)
      have d0' : decide (0 < i) = true := decide_eq_true hi0
      have hi0 : (i == 0) = false := by simp; omega
      have l0 : s.length = s.length := rfl
      obtain ⟨s1, hs1⟩ : ∃ y, s ++ ([44] : List UInt8) = y := ⟨_, rfl⟩
      have ls1 : s1.length = s.length + 1 := by rw [← hs1, List.length_append]; rfl
      have hc1 : ∀ W, (Op.stringOp .add (strOf s) ⟨#[44]⟩).run Tryz.prog W = .ok (.string (strOf s1)) W := fun W => hs1 ▸ run_cat W s (([44] : List UInt8)) (by simp at hbd ⊢; omega)
      have Hs1 := Lib.hid hs1
      clear hs1
      obtain ⟨s2, hs2⟩ : ∃ y, s1 ++ prV l[i] = y := ⟨_, rfl⟩
      have ls2 : s2.length = s1.length + (prV l[i]).length := by rw [← hs2, List.length_append]
      have hc2 : ∀ W, (Op.stringOp .add (strOf s1) (strOf (prV l[i]))).run Tryz.prog W = .ok (.string (strOf s2)) W := fun W => hs2 ▸ run_cat W s1 (prV l[i]) (by simp at hbd ⊢; omega)
      have Hs2 := Lib.hid hs2
      clear hs2
      have HS : Hid (s2 = prE false true (l.take (i + 1)) ks) := Lib.hid (by rw [← Hs2.out, ← Hs1.out, hel, hs.out]; unfold elT; rw [hi0]; simp)
      have F2 := Lib.hid hf.out
      have B2 := Lib.hid hb.out
      have CALL := Lib.hid (CALL.out wr F2.out)
      have HGR := Lib.hid (HGR.out wr F2.out)
      go_wp2_with (refine wpList_load_val rfl 29 _ rfl b _ rfl C HGR.out _ Tryz.underlying29 rfl H5.out ?_)
      refine CALL.out.mono ?_
      rintro e W3 ⟨rfl, f3⟩
      have F3 := Lib.hid (F2.out.trans f3 (fun _ _ h => h))
      have B3 := Lib.hid (keepB B2.out f3)
      clear f3
      go_wp2_with fail
      go_roundw
      case rel => exact ⟨i + 1, _, by omega, by first | rfl | go_num, rfl, HS.out, B3.out, F3.out⟩
      case measure => simp [intOf]; omega
set_option maxRecDepth 100000 in
set_option maxHeartbeats 8000000 in
theorem rpr6 (w : World) {D : Nat → Prop} {n : Int} {t : List UInt8} {l : List V} {ks : List (List UInt8)} {Al Ak : Option Addr} {cl ck : Nat} {css : List (Array Value)} (hp : VP D w 6 0 [] l ks Al cl Ak ck css) (hB : (prV (.mk 6 0 [] l ks)).length ≤ 1000000000) (hfs : fieldss l = true) (hsm : ∀ x ∈ l, Sm x) (hks : ∀ s ∈ ks, s.length ≤ 1000000) (hkl : ks.length = l.length) (ih : RpIH D l) :
    Calls Tryz.prog 18 #[.agg (vcs 6 0 [] Al l.length cl Ak ks.length ck)] w fun e w' => e = .returned (.string (strOf (prV (.mk 6 0 [] l ks)))) ∧ Fr (fun _ => False) w w' := by
  have HP := Lib.hid hp
  have IH := Lib.hid ih
  have hll := hp.b.ll
  have hbl : (prE true true l ks).length + 2 ≤ 1000000000 := by
    have : prV (.mk 6 0 [] l ks) = 123 :: (prE true true l ks ++ [125]) := by rw [prV]; rfl
    rw [this] at hB
    simp at hB
    omega
  have HR : Hid (prV (.mk 6 0 [] l ks) = 123 :: (prE true true l ks ++ [125])) := Lib.hid (by rw [prV]; rfl)
  obtain ⟨z, hz⟩ : ∃ z, prV (.mk 6 0 [] l ks) = z := ⟨_, rfl⟩
  rw [hz] at HR ⊢
  obtain ⟨g, hg⟩ : ∃ g, w.heap.size = g := ⟨_, rfl⟩
  have HG := Lib.hid hg
  have HFS := Lib.hid hfs
  have HSM := Lib.hid hsm
  have HKS := Lib.hid hks
  clear hp ih hB hz hg hfs hsm hks
  have HKL := Lib.hid hkl
  clear hkl
  go_enter Tryz.func18, Tryz.ntmps18
  go_upto_region 1 with fail
  refine abs_world (fun W => Hid (Blk W w.heap.size 29 (vcs 6 0 [] Al l.length cl Ak ks.length ck)) ∧ Hid (Fr (fun _ => False) w W)) ⟨Blk.new w _ _, (Fr.refl _ w).alloc _⟩ ?_
  rintro W1 ⟨B1, F1⟩
  rw [HG.out] at B1 ⊢
  have c0 : W1.cell? ⟨g, 0, none⟩ = some (.int .i64 6) := B1.out.cell 0
  go_wp2_with fail
  go_loopw [3, 4] (fun sv iv wr => ∃ (i : Nat) (s : List UInt8), i ≤ l.length ∧ iv = .int .i64 (i : Int) ∧ sv = .string (strOf s) ∧ Hid (s = prE true true (l.take i) ks) ∧ Hid (Blk wr g 29 (vcs 6 0 [] Al l.length cl Ak ks.length ck)) ∧ Hid (Fr (fun _ => False) w wr)) (fun _ iv _ => l.length - (intOf iv).toNat)
  case atStart => exact ⟨0, [], Nat.zero_le _, rfl, rfl, Lib.hid (by rw [List.take_zero, prE]), B1.out, F1.out⟩
  case round =>
    obtain ⟨i, s, hi, rfl, rfl, hs, hb, hf⟩ := hrel
    clear c0
    have c0 : wr.cell? ⟨g, 0, none⟩ = some (.int .i64 6) := hb.out.cell 0
    have c3 : wr.cell? ⟨g, 3, none⟩ = some (.slice Al l.length cl) := hb.out.cell 3
    have c4 : wr.cell? ⟨g, 4, none⟩ = some (.slice Ak ks.length ck) := hb.out.cell 4
    have hsl : s.length ≤ (prE true true l ks).length := by
      rw [hs.out]
      exact (prE_pre true l ks true i).length_le
    by_cases hlt : i < l.length
    case neg =>
      have hdl : decide ((i : Int) < (l.length : Int)) = false := decide_eq_false (by omega)
      have hdl' : decide (i < l.length) = false := decide_eq_false hlt
      have hc5 : ∀ W, (Op.stringOp .add ⟨#[123]⟩ (strOf s)).run Tryz.prog W = .ok (.string (strOf (123 :: s))) W := fun W => run_cat W [123] s (by simp; omega)
      have hc6 : ∀ W, (Op.stringOp .add (strOf (123 :: s)) ⟨#[125]⟩).run Tryz.prog W = .ok (.string (strOf ((123 :: s) ++ [125]))) W := fun W => run_cat W (123 :: s) [125] (by simp; omega)
      have HE : Hid ((123 :: s) ++ [125] = z) := Lib.hid (by rw [HR.out, hs.out, List.take_of_length_le (by omega)]; rfl)
      go_wp2_with fail
      go_ret
      exact ⟨strOf_ret HE.out, hf.out⟩
    have hdl : decide ((i : Int) < (l.length : Int)) = true := decide_eq_true (by omega)
    have hdl' : decide (i < l.length) = true := decide_eq_true hlt
    have hel := prE_take true l ks true i hlt
    have hbd : (prE true true (l.take (i + 1)) ks).length ≤ (prE true true l ks).length := (prE_pre true l ks true (i + 1)).length_le
    have hbd0 := hbd
    rw [hel, ← hs.out] at hbd
    unfold elT at hbd
    obtain ⟨b, off, C, hA, -, hrv, hrg, -⟩ := HP.out.at_ hlt
    subst hA
    have H5 := Lib.hid (szV hrv)
    have hmem := List.getElem_mem hlt
    have hfx : fieldsV l[i] = true := by
      have h : ∀ l : List V, fieldss l = true → ∀ x ∈ l, fieldsV x = true := by
        intro l
        induction l with
        | nil => intro _ x hx; cases hx
        | cons a l ih =>
          intro h x hx
          unfold fieldss at h
          simp only [Bool.and_eq_true] at h
          rcases List.mem_cons.1 hx with rfl | hx
          · exact h.1
          · exact ih h.2 x hx
      exact h l HFS.out _ hmem
    have hpl : (prV l[i]).length ≤ 1000000000 := by
      simp only [List.length_append] at hbd
      omega
    have CALL : Hid (∀ W, Fr (fun _ => False) w W → Calls Tryz.prog 18 #[.agg C] W fun e w' => e = .returned (.string (strOf (prV l[i]))) ∧ Fr (fun _ => False) W w') := Lib.hid (fun W hW => IH.out l[i] hmem hfx hpl (HSM.out _ hmem) W C (hrv.far hW))
    have HGR : Hid (∀ W, Fr (fun _ => False) w W → W.rangeAt b (off + i * 5) C.toList) := Lib.hid (fun W hW => rng_far hrg hW)
    have hik : i < ks.length := by have := HKL.out; omega
    have hhd : (ks.drop i).headD [] = ks[i] := by rw [List.drop_eq_getElem_cons hik]; rfl
    rw [hhd] at hbd
    obtain ⟨b2, off2, hA2, ck2⟩ := (HP.out.far hf.out).key hik
    subst hA2
    have q1 : (0 : Int) ≤ (i : Int) := by omega
    have q2 : (i : Int) < (ks.length : Int) := by omega
    have QU := Lib.hid (fun W => rquoted_c W ks[i] (HKS.out _ (List.getElem_mem hik)))
    clear hrv hrg hmem hfx
    rcases Nat.eq_zero_or_pos i with rfl | hi0
    · have l0 : s.length = s.length := rfl
      obtain ⟨s1, hs1⟩ : ∃ y, s ++ quoted ks[0] = y := ⟨_, rfl⟩
      have ls1 : s1.length = s.length + (quoted ks[0]).length := by rw [← hs1, List.length_append]
      have hc1 : ∀ W, (Op.stringOp .add (strOf s) (strOf (quoted ks[0]))).run Tryz.prog W = .ok (.string (strOf s1)) W := fun W => hs1 ▸ run_cat W s (quoted ks[0]) (by simp at hbd ⊢; omega)
      have Hs1 := Lib.hid hs1
      clear hs1
      obtain ⟨s2, hs2⟩ : ∃ y, s1 ++ ([58] : List UInt8) = y := ⟨_, rfl⟩
      have ls2 : s2.length = s1.length + 1 := by rw [← hs2, List.length_append]; rfl
      have hc2 : ∀ W, (Op.stringOp .add (strOf s1) ⟨#[58]⟩).run Tryz.prog W = .ok (.string (strOf s2)) W := fun W => hs2 ▸ run_cat W s1 (([58] : List UInt8)) (by simp at hbd ⊢; omega)
      have Hs2 := Lib.hid hs2
      clear hs2
      obtain ⟨s3, hs3⟩ : ∃ y, s2 ++ prV l[0] = y := ⟨_, rfl⟩
      have ls3 : s3.length = s2.length + (prV l[0]).length := by rw [← hs3, List.length_append]
      have hc3 : ∀ W, (Op.stringOp .add (strOf s2) (strOf (prV l[0]))).run Tryz.prog W = .ok (.string (strOf s3)) W := fun W => hs3 ▸ run_cat W s2 (prV l[0]) (by simp at hbd ⊢; omega)
      have Hs3 := Lib.hid hs3
      clear hs3
      have HS : Hid (s3 = prE true true (l.take (0 + 1)) ks) := Lib.hid (by rw [← Hs3.out, ← Hs2.out, ← Hs1.out, hel, hs.out]; unfold elT; rw [hhd]; simp)
      have ck2' : wr.cell? ⟨b2, off2, none⟩ = some (.string (strOf ks[0])) := ck2
      go_wp2_with fail
      refine (QU.out _).mono ?_
      rintro e W2 ⟨rfl, f2⟩
      have F2 := Lib.hid (hf.out.trans f2 (fun _ _ h => h))
      have B2 := Lib.hid (keepB hb.out f2)
      clear f2 c0 c3 c4
      have c3 : W2.cell? ⟨g, 3, none⟩ = some (.slice (some ⟨b, off, none⟩) l.length cl) := B2.out.cell 3
      have CALL := Lib.hid (CALL.out W2 F2.out)
      have HGR := Lib.hid (HGR.out W2 F2.out)
      go_wp2_with (refine wpList_load_val rfl 29 _ rfl b _ rfl C HGR.out _ Tryz.underlying29 rfl H5.out ?_)
      refine CALL.out.mono ?_
      rintro e W3 ⟨rfl, f3⟩
      have F3 := Lib.hid (F2.out.trans f3 (fun _ _ h => h))
      have B3 := Lib.hid (keepB B2.out f3)
      clear f3
      go_wp2_with fail
      go_roundw
      case rel => exact ⟨1, _, by omega, by first | rfl | go_num, rfl, HS.out, B3.out, F3.out⟩
      case measure => simp [intOf]; omega
    · have d0 : decide ((0 : Int) < (i : Int)) = true := decide_eq_true (by omega)
      have d0' : decide (0 < i) = true := decide_eq_true hi0
      have hi0 : (i == 0) = false := by simp; omega
      have l0 : s.length = s.length := rfl
      obtain ⟨s1, hs1⟩ : ∃ y, s ++ ([44] : List UInt8) = y := ⟨_, rfl⟩
      have ls1 : s1.length = s.length + 1 := by rw [← hs1, List.length_append]; rfl
      have hc1 : ∀ W, (Op.stringOp .add (strOf s) ⟨#[44]⟩).run Tryz.prog W = .ok (.string (strOf s1)) W := fun W => hs1 ▸ run_cat W s (([44] : List UInt8)) (by simp at hbd ⊢; omega)
      have Hs1 := Lib.hid hs1
      clear hs1
      obtain ⟨s2, hs2⟩ : ∃ y, s1 ++ quoted ks[i] = y := ⟨_, rfl⟩
      have ls2 : s2.length = s1.length + (quoted ks[i]).length := by rw [← hs2, List.length_append]
      have hc2 : ∀ W, (Op.stringOp .add (strOf s1) (strOf (quoted ks[i]))).run Tryz.prog W = .ok (.string (strOf s2)) W := fun W => hs2 ▸ run_cat W s1 (quoted ks[i]) (by simp at hbd ⊢; omega)
      have Hs2 := Lib.hid hs2
      clear hs2
      obtain ⟨s3, hs3⟩ : ∃ y, s2 ++ ([58] : List UInt8) = y := ⟨_, rfl⟩
      have ls3 : s3.length = s2.length + 1 := by rw [← hs3, List.length_append]; rfl
      have hc3 : ∀ W, (Op.stringOp .add (strOf s2) ⟨#[58]⟩).run Tryz.prog W = .ok (.string (strOf s3)) W := fun W => hs3 ▸ run_cat W s2 (([58] : List UInt8)) (by simp at hbd ⊢; omega)
      have Hs3 := Lib.hid hs3
      clear hs3
      obtain ⟨s4, hs4⟩ : ∃ y, s3 ++ prV l[i] = y := ⟨_, rfl⟩
      have ls4 : s4.length = s3.length + (prV l[i]).length := by rw [← hs4, List.length_append]
      have hc4 : ∀ W, (Op.stringOp .add (strOf s3) (strOf (prV l[i]))).run Tryz.prog W = .ok (.string (strOf s4)) W := fun W => hs4 ▸ run_cat W s3 (prV l[i]) (by simp at hbd ⊢; omega)
      have Hs4 := Lib.hid hs4
      clear hs4
      have HS : Hid (s4 = prE true true (l.take (i + 1)) ks) := Lib.hid (by rw [← Hs4.out, ← Hs3.out, ← Hs2.out, ← Hs1.out, hel, hs.out]; unfold elT; rw [hhd]; rw [hi0]; simp)
      go_wp2_with fail
      refine (QU.out _).mono ?_
      rintro e W2 ⟨rfl, f2⟩
      have F2 := Lib.hid (hf.out.trans f2 (fun _ _ h => h))
      have B2 := Lib.hid (keepB hb.out f2)
      clear f2 c0 c3 c4
      have c3 : W2.cell? ⟨g, 3, none⟩ = some (.slice (some ⟨b, off, none⟩) l.length cl) := B2.out.cell 3
      have CALL := Lib.hid (CALL.out W2 F2.out)
      have HGR := Lib.hid (HGR.out W2 F2.out)
      go_wp2_with (refine wpList_load_val rfl 29 _ rfl b _ rfl C HGR.out _ Tryz.underlying29 rfl H5.out ?_)
      refine CALL.out.mono ?_
      rintro e W3 ⟨rfl, f3⟩
      have F3 := Lib.hid (F2.out.trans f3 (fun _ _ h => h))
      have B3 := Lib.hid (keepB B2.out f3)
      clear f3
      go_wp2_with fail
      go_roundw
      case rel => exact ⟨i + 1, _, by omega, by first | rfl | go_num, rfl, HS.out, B3.out, F3.out⟩
      case measure => simp [intOf]; omega
end Go.Proofs.YtjaocgmicdnghaaGreatDoor.V1

/-
  CONTRACT of the reference's Print: every value of good fields.
-/
namespace Go.Proofs.YtjaocgmicdnghaaGreatDoor.V1
set_option linter.unusedSimpArgs false
set_option linter.unusedVariables false
open Go Go.RowKit
theorem rprint_c : ∀ (v : V), fieldsV v = true → (prV v).length ≤ 1000000000 → Sm v → ∀ (w : World) (D : Nat → Prop) (C : Array Value), RdV D w C v → Calls Tryz.prog 18 #[.agg C] w fun e w' => e = .returned (.string (strOf (prV v))) ∧ Fr (fun _ => False) w w' := by
  intro v
  induction v using V.ind with
  | h k n t l ks ih =>
    intro hf hB hs w D C h
    obtain ⟨k1, n1, t1, l1, ks1, Al, cl, Ak, ck, css, e, rfl, hp⟩ := h.inv
    injection e with e1 e2 e3 e4 e5
    subst e1 e2 e3 e4 e5
    obtain ⟨hu, -, -, hfs⟩ := fields_kids hf
    rw [uses_iff] at hu
    have hk : k = 0 ∨ k = 1 ∨ k = 2 ∨ k = 3 ∨ k = 4 ∨ k = 5 ∨ k = 6 := by have := hu.k0; have := hu.k6; omega
    have IH : RpIH D l := fun x hx h1 h2 h3 W C hC => ih x hx h1 h2 h3 W D C hC
    rcases hk with rfl | rfl | rfl | rfl | rfl | rfl | rfl
    · obtain rfl := hu.num (by decide)
      obtain rfl := hu.txt (by decide)
      exact rpr0 (n := 0) (t := []) w hp
    · obtain rfl := hu.num (by decide)
      obtain rfl := hu.txt (by decide)
      exact rpr1 (n := 0) (t := []) w hp
    · obtain rfl := hu.num (by decide)
      obtain rfl := hu.txt (by decide)
      exact rpr2 (n := 0) (t := []) w hp
    · obtain rfl := hu.txt (by decide)
      exact rpr3 (t := []) w hp
    · obtain rfl := hu.num (by decide)
      exact rpr4 (n := 0) w hp hs.inv.tl
    · obtain rfl := hu.num (by decide)
      obtain rfl := hu.txt (by decide)
      exact rpr5 (n := 0) (t := []) w hp hB hfs hs.inv.el hs.inv.ks IH
    · obtain rfl := hu.num (by decide)
      obtain rfl := hu.txt (by decide)
      exact rpr6 (n := 0) (t := []) w hp hB hfs hs.inv.el hs.inv.ks (hu.obj rfl) IH
/-! How long its text is. -/
theorem partsL_sum : ∀ (l : List V) (d n : Nat), partsL l d n ≤ 4000 → partsL l d n = n + (l.map (partsV · d)).sum
  | [], d, n, h => by simp [partsL]
  | v :: l, d, n, h => by
    have hn : n < 100000 := by
      rcases Nat.lt_or_ge n 100000 with h1 | h1
      · exact h1
      · rw [partsL, if_neg (by omega)] at h
        omega
    rw [partsL, if_pos hn] at h ⊢
    rw [partsL_sum l d _ h, List.map_cons, List.sum_cons]
    omega
theorem prE_bd (obj : Bool) (d : Nat) : ∀ (l : List V) (ks : List (List UInt8)) (first : Bool), (obj = true → ks.length = l.length) → (∀ x ∈ l, (prV x).length + 1 ≤ 8100 * partsV x d) → (prE obj first l ks).length ≤ 8100 * (l.map (partsV · d)).sum + 8100 * kparts ks
  | [], ks, first, _, _ => by simp [prE]
  | v :: l, ks, first, hk, h => by
    have h1 := h v List.mem_cons_self
    rw [prE, List.map_cons, List.sum_cons]
    cases obj with
    | false =>
      have ih := prE_bd false d l ks.tail false (fun h => by cases h) (fun x hx => h x (List.mem_cons_of_mem _ hx))
      have hkt : kparts ks.tail ≤ kparts ks := by
        cases ks with
        | nil => exact Nat.le_refl _
        | cons a b => simp only [List.tail_cons, kparts]; omega
      simp only [List.length_append]
      have hc : ((if first then [] else [44]) : List UInt8).length ≤ 1 := by cases first <;> simp
      simp only [Bool.false_eq_true, if_false, List.length_nil]
      omega
    | true =>
      cases ks with
      | nil => exact absurd (hk rfl) (by simp)
      | cons a b =>
        have ih := prE_bd true d l b false (fun _ => by have := hk rfl; simpa using this) (fun x hx => h x (List.mem_cons_of_mem _ hx))
        have hc : ((if first then [] else [44]) : List UInt8).length ≤ 1 := by cases first <;> simp
        have hq := quoted_len a
        have hn := nesc_le a
        simp only [List.length_append, List.headD_cons, List.tail_cons, if_true, kparts, List.length_cons, List.length_nil]
        omega
theorem prV_parts : ∀ (v : V) (d : Nat), fieldsV v = true → Nums v → partsV v d ≤ 4000 → (prV v).length + 1 ≤ 8100 * partsV v d := by
  intro v
  induction v using V.ind with
  | h k n t l ks ih =>
    intro d hf hn hp
    obtain ⟨hu, -, -, hfs⟩ := fields_kids hf
    rw [uses_iff] at hu
    have hk : k = 0 ∨ k = 1 ∨ k = 2 ∨ k = 3 ∨ k = 4 ∨ k = 5 ∨ k = 6 := by have := hu.k0; have := hu.k6; omega
    cases hn with
    | mk n0 n1 hnl =>
      by_cases hc : d < 1 ∨ 3000 < l.length ∨ 3000 < ks.length ∨ 4000 < t.length
      · rw [partsV_early hc] at hp
        omega
      · rw [partsV_late hc] at hp ⊢
        have hel := (partsL_sm l _ _ hp).2
        rw [partsL_sum l _ _ hp]
        have hx : ∀ x ∈ l, (prV x).length + 1 ≤ 8100 * partsV x (d - 1) := fun x hx => ih x hx _ (fieldss_mem hfs x hx) (hnl x hx) (hel x hx)
        rcases hk with rfl | rfl | rfl | rfl | rfl | rfl | rfl
        · have : prV (.mk 0 n t l ks) = tNull := by rw [prV]; rfl
          rw [this]
          have : tNull.length = 4 := rfl
          omega
        · have : prV (.mk 1 n t l ks) = tFalse := by rw [prV]; rfl
          rw [this]
          have : tFalse.length = 5 := rfl
          omega
        · have : prV (.mk 2 n t l ks) = tTrue := by rw [prV]; rfl
          rw [this]
          have : tTrue.length = 4 := rfl
          omega
        · have : prV (.mk 3 n t l ks) = decI n := by rw [prV]; rfl
          rw [this]
          have : (decI n).length ≤ 21 := Lib.itoa_length_le n n0 n1
          omega
        · have : prV (.mk 4 n t l ks) = quoted t := by rw [prV]; rfl
          rw [this]
          have h1 := quoted_len t
          have h2 := nesc_le t
          omega
        · have : prV (.mk 5 n t l ks) = 91 :: (prE false true l ks ++ [93]) := by rw [prV]; rfl
          rw [this]
          have h1 := prE_bd false (d - 1) l ks true (fun h => by cases h) hx
          simp only [List.length_cons, List.length_append, List.length_nil]
          omega
        · have : prV (.mk 6 n t l ks) = 123 :: (prE true true l ks ++ [125]) := by rw [prV]; rfl
          rw [this]
          have h1 := prE_bd true (d - 1) l ks true (fun _ => hu.obj rfl) hx
          simp only [List.length_cons, List.length_append, List.length_nil]
          omega
theorem prV_not_long {v : V} (hf : fieldsV v = true) (hn : Nums v) (h : decide (4000 < partsV v 20) = false) : (prV v).length ≤ 1000000000 := by
  have hp : partsV v 20 ≤ 4000 := by simpa using h
  have := prV_parts v 20 hf hn hp
  omega
end Go.Proofs.YtjaocgmicdnghaaGreatDoor.V1

/-
  CONTRACT of the reference's Deep.
-/
namespace Go.Proofs.YtjaocgmicdnghaaGreatDoor.V1
set_option linter.unusedSimpArgs false
set_option linter.unusedVariables false
open Go Go.RowKit

mutual
def deepV : V → Nat → Nat
  | .mk _ _ _ l _, m => if m < 1 then 20 else 1 + deepL l (m - 1)
def deepL : List V → Nat → Nat
  | [], _ => 0
  | v :: l, m => max (deepV v m) (deepL l m)
end
theorem deepL_snoc (l : List V) (x : V) (m : Nat) : deepL (l ++ [x]) m = max (deepL l m) (deepV x m) := by
  induction l with
  | nil => simp [deepL]
  | cons a l ih => rw [List.cons_append, deepL, ih, deepL]; omega
theorem deepL_take (l : List V) (m i : Nat) (h : i < l.length) : deepL (l.take (i + 1)) m = max (deepL (l.take i) m) (deepV l[i] m) := by
  rw [List.take_succ_eq_append_getElem h, deepL_snoc]
theorem deepL_le {l : List V} {m B : Nat} (h : ∀ x ∈ l, deepV x m ≤ B) : deepL l m ≤ B := by
  induction l with
  | nil => simp [deepL]
  | cons a l ih =>
    rw [deepL]
    have h1 := h a List.mem_cons_self
    have h2 := ih (fun x hx => h x (List.mem_cons_of_mem _ hx))
    omega
theorem deepL_ge {l : List V} {m : Nat} {x : V} (h : x ∈ l) : deepV x m ≤ deepL l m := by
  induction l with
  | nil => cases h
  | cons a l ih =>
    rw [deepL]
    rcases List.mem_cons.1 h with rfl | h
    · omega
    · have := ih h
      omega
theorem deepV_bd : ∀ (v : V) (m : Nat), deepV v m ≤ m + 20 := by
  intro v
  induction v using V.ind with
  | h k n t l ks ih =>
    intro m
    rw [deepV]
    by_cases hm : m < 1
    · rw [if_pos hm]; omega
    · rw [if_neg hm]
      have := deepL_le (l := l) (m := m - 1) (B := m - 1 + 20) (fun x hx => ih x hx _)
      omega
theorem deps_le {l : List V} {B : Nat} (h : ∀ x ∈ l, dep x ≤ B) : deps l ≤ B := by
  induction l with
  | nil => simp [deps]
  | cons a l ih =>
    rw [deps]
    have h1 := h a List.mem_cons_self
    have h2 := ih (fun x hx => h x (List.mem_cons_of_mem _ hx))
    omega
theorem deps_ge {l : List V} {x : V} (h : x ∈ l) : dep x ≤ deps l := by
  induction l with
  | nil => cases h
  | cons a l ih =>
    rw [deps]
    rcases List.mem_cons.1 h with rfl | h
    · omega
    · have := ih h
      omega
theorem deps_ex : ∀ {l : List V} {B : Nat}, B < deps l → ∃ x ∈ l, B < dep x
  | [], B, h => by simp [deps] at h
  | a :: l, B, h => by
    rw [deps] at h
    by_cases h1 : B < dep a
    · exact ⟨a, List.mem_cons_self, h1⟩
    · obtain ⟨x, hx, h2⟩ := deps_ex (l := l) (B := B) (by omega)
      exact ⟨x, List.mem_cons_of_mem _ hx, h2⟩
theorem deepV_dep : ∀ (v : V) (m : Nat), (dep v ≤ m → deepV v m = dep v) ∧ (m < dep v → 8 < deepV v m) := by
  intro v
  induction v using V.ind with
  | h k n t l ks ih =>
    intro m
    rw [deepV, dep]
    by_cases hm : m < 1
    · rw [if_pos hm]
      exact ⟨fun h => by omega, fun _ => by omega⟩
    · rw [if_neg hm]
      refine ⟨fun h => ?_, fun h => ?_⟩
      · congr 1
        apply Nat.le_antisymm
        · exact deepL_le (fun x hx => by
            have h1 := deps_ge hx
            rw [(ih x hx (m - 1)).1 (by omega)]
            exact h1)
        · exact deps_le (fun x hx => by
            have h1 := deps_ge hx
            rw [← (ih x hx (m - 1)).1 (by omega)]
            exact deepL_ge hx)
      · obtain ⟨x, hx, h2⟩ := deps_ex (l := l) (B := m - 1) (by omega)
        have h3 := (ih x hx (m - 1)).2 h2
        have h4 := deepL_ge (m := m - 1) hx
        omega
theorem deep_is (v : V) : decide (deepV v 15 ≤ 8) = decide (dep v ≤ 8) := by
  have h := deepV_dep v 15
  by_cases h1 : dep v ≤ 15
  · rw [h.1 h1]
  · have := h.2 (by omega)
    rw [decide_eq_false (by omega), decide_eq_false (by omega)]
set_option maxRecDepth 100000 in
set_option maxHeartbeats 4000000 in
theorem rdeep_step (w : World) {D : Nat → Prop} {k n : Int} {t : List UInt8} {l : List V} {ks : List (List UInt8)} {Al Ak : Option Addr} {cl ck : Nat} {css : List (Array Value)} (hp : VP D w k n t l ks Al cl Ak ck css) (m : Nat) (hm : m ≤ 100)
    (ih : ∀ (x : V), x ∈ l → ∀ (m : Nat), m ≤ 100 → ∀ (W : World) (C : Array Value), RdV D W C x → Calls Tryz.prog 30 #[.agg C, .int .i64 (m : Int)] W fun e w' => e = .returned (.int .i64 (deepV x m : Nat)) ∧ Fr (fun _ => False) W w') :
    Calls Tryz.prog 30 #[.agg (vcs k n t Al l.length cl Ak ks.length ck), .int .i64 (m : Int)] w fun e w' => e = .returned (.int .i64 (deepV (.mk k n t l ks) m : Nat)) ∧ Fr (fun _ => False) w w' := by
  have HP := Lib.hid hp
  have IH := Lib.hid ih
  have hll := hp.b.ll
  obtain ⟨z, hz⟩ : ∃ z, deepV (.mk k n t l ks) m = z := ⟨_, rfl⟩
  rw [hz]
  rw [deepV] at hz
  have HZ := Lib.hid hz
  obtain ⟨g, hg⟩ : ∃ g, w.heap.size = g := ⟨_, rfl⟩
  have HG := Lib.hid hg
  clear hp ih hz hg
  go_enter Tryz.func30, Tryz.ntmps30
  go_upto_region 1 with fail
  refine abs_world (fun W => Hid (Blk W w.heap.size 29 (vcs k n t Al l.length cl Ak ks.length ck)) ∧ Hid (Fr (fun _ => False) w W)) ⟨Blk.new w _ _, (Fr.refl _ w).alloc _⟩ ?_
  rintro W1 ⟨B1, F1⟩
  rw [HG.out] at B1 ⊢
  by_cases h1 : m < 1
  case pos =>
    obtain rfl : m = 0 := by omega
    have HF : Hid (z = 20) := Lib.hid (by rw [← HZ.out]; rfl)
    go_wp2_with fail
    go_ret
    exact ⟨ret_int (by rw [HF.out]; rfl), F1.out⟩
  have d1 : decide ((m : Int) < 1) = false := decide_eq_false (by omega)
  have d1' : decide (m < 1) = false := decide_eq_false h1
  have HZ2 : Hid (z = 1 + deepL l (m - 1)) := Lib.hid (by rw [← HZ.out, if_neg h1])
  obtain ⟨m1, rfl⟩ : ∃ m1, m = m1 + 1 := ⟨m - 1, by omega⟩
  simp only [Nat.add_sub_cancel] at HZ2
  clear HZ h1
  have hcm : (((m1 + 1 : Nat) : Int)) = (m1 : Int) + 1 := by omega
  rw [hcm]
  have d1 : decide ((m1 : Int) + 1 < 1) = false := decide_eq_false (by omega)
  go_wp2_with fail
  go_loopw [5, 6] (fun nv iv wr => ∃ (i q : Nat), i ≤ l.length ∧ iv = .int .i64 (i : Int) ∧ nv = .int .i64 (q : Int) ∧ q ≤ 200 ∧ Hid (q = deepL (l.take i) m1) ∧ Hid (Blk wr g 29 (vcs k n t Al l.length cl Ak ks.length ck)) ∧ Hid (Fr (fun _ => False) w wr)) (fun _ iv _ => l.length - (intOf iv).toNat)
  case atStart => exact ⟨0, 0, Nat.zero_le _, rfl, rfl, by omega, rfl, B1.out, F1.out⟩
  case round =>
    obtain ⟨i, q, hi, rfl, rfl, hq2, hq, hb, hf⟩ := hrel
    have c3 : wr.cell? ⟨g, 3, none⟩ = some (.slice Al l.length cl) := hb.out.cell 3
    by_cases hlt : i < l.length
    case neg =>
      have d2 : decide ((i : Int) < (l.length : Int)) = false := decide_eq_false (by omega)
      have d2' : decide (i < l.length) = false := decide_eq_false hlt
      have HF : Hid (z = 1 + q) := Lib.hid (by rw [HZ2.out, hq.out, List.take_of_length_le (by omega)])
      go_wp2_with fail
      go_ret
      exact ⟨ret_int (by rw [HF.out]; omega), hf.out⟩
    have d2 : decide ((i : Int) < (l.length : Int)) = true := decide_eq_true (by omega)
    have d2' : decide (i < l.length) = true := decide_eq_true hlt
    obtain ⟨b, off, C, hA, -, hrv, hrg, -⟩ := (HP.out.far hf.out).at_ hlt
    subst hA
    have HGR := Lib.hid hrg
    have H5 := Lib.hid (szV hrv)
    have CALL := Lib.hid (IH.out l[i] (List.getElem_mem hlt) m1 (by omega) wr C hrv)
    have hxb := deepV_bd l[i] m1
    have HQ : Hid (max q (deepV l[i] m1) = deepL (l.take (i + 1)) m1) := Lib.hid (by rw [deepL_take l m1 i hlt, hq.out])
    obtain ⟨u, hu⟩ : ∃ u, deepV l[i] m1 = u := ⟨_, rfl⟩
    rw [hu] at CALL hxb HQ
    clear hu hrv hrg
    have e1 : (m1 : Int) + 1 - 1 = (m1 : Int) := by omega
    go_wp2_with (refine wpList_load_val rfl 29 _ rfl b _ rfl C HGR.out _ Tryz.underlying29 rfl H5.out ?_)
    refine CALL.out.mono ?_
    rintro e W2 ⟨rfl, f2⟩
    have F2 := Lib.hid (hf.out.trans f2 (fun _ _ h => h))
    have B2 := Lib.hid (keepB hb.out f2)
    have e2 : max (q : Int) (u : Int) = ((max q u : Nat) : Int) := by omega
    clear f2 CALL
    go_wp2_with fail
    go_roundw
    case rel => exact ⟨i + 1, max q u, by omega, by go_num, by go_num, by omega, HQ.out, B2.out, F2.out⟩
    case measure => simp [intOf]; omega
theorem rdeep_c : ∀ (v : V) (m : Nat), m ≤ 100 → ∀ (w : World) (D : Nat → Prop) (C : Array Value), RdV D w C v → Calls Tryz.prog 30 #[.agg C, .int .i64 (m : Int)] w fun e w' => e = .returned (.int .i64 (deepV v m : Nat)) ∧ Fr (fun _ => False) w w' := by
  intro v
  induction v using V.ind with
  | h k n t l ks ih =>
    intro m hm w D C h
    obtain ⟨k1, n1, t1, l1, ks1, Al, cl, Ak, ck, css, e, rfl, hp⟩ := h.inv
    injection e with e1 e2 e3 e4 e5
    subst e1 e2 e3 e4 e5
    exact rdeep_step w hp m hm fun x hx m' hm' W C hC => ih x hx m' hm' W D C hC
end Go.Proofs.YtjaocgmicdnghaaGreatDoor.V1
