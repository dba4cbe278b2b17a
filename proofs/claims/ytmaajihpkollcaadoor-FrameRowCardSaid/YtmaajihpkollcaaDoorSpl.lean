/-
  PLAIN: a record of which three bits are turned (none of its length) is none. No program is named here.
-/
import Derived.Test.YtmaajihpkollcaaDoorFrameQ
import Derived.Test.YtmaajihpkollcaaDoorSp2
namespace Go.Proofs.YtmaajihpkollcaaDoor
set_option linter.unusedSimpArgs false
set_option linter.unusedVariables false
open Go

theorem mul256_add (a c : Nat) (hc : c < 256) : a * 256 + c = (a * 256) ^^^ c := by
  have h := split_pow 8 (a * 256 + c)
  rw [show (2 : Nat) ^ 8 = 256 from rfl, show (a * 256 + c) / 256 = a from by omega, show (a * 256 + c) % 256 = c from by omega, Nat.mul_comm 256 a] at h
  exact h
theorem xor_mul256 (a b : Nat) : (a ^^^ b) * 256 = (a * 256) ^^^ (b * 256) := by
  rw [show (256 : Nat) = 2 ^ 8 from rfl, ← Nat.shiftLeft_eq, ← Nat.shiftLeft_eq, ← Nat.shiftLeft_eq, Nat.shiftLeft_xor_distrib]
theorem step256 (a b c : Nat) (hc : c < 256) : (a ^^^ b) * 256 + c = (a * 256 + c) ^^^ (b * 256) := by
  rw [mul256_add _ c hc, mul256_add a c hc, xor_mul256]
  ac_rfl
theorem numF_xor : ∀ (l : List UInt8) (a b : Nat), l.foldl (fun x c => x * 256 + c.toNat) (a ^^^ b) = l.foldl (fun x c => x * 256 + c.toNat) a ^^^ (b * 256 ^ l.length)
  | [], a, b => by simp
  | c :: l, a, b => by
    rw [List.foldl_cons, List.foldl_cons, step256 a b c.toNat c.toNat_lt, numF_xor l, List.length_cons, Nat.pow_succ, Nat.mul_assoc, Nat.mul_comm 256]
theorem crcL_xor : ∀ (l : List UInt8) (a b : Nat), crcL (a ^^^ b) l = crcL a l ^^^ shN (8 * l.length) b
  | [], a, b => by simp [crcL, shN]
  | c :: l, a, b => by
    have h : crcB (a ^^^ b) c.toNat = crcB a c.toNat ^^^ shN 8 b := by
      unfold crcB
      rw [show a ^^^ b ^^^ c.toNat = (a ^^^ c.toNat) ^^^ b from by ac_rfl, shN_xor]
    show crcL (crcB (a ^^^ b) c.toNat) l = crcL (crcB a c.toNat) l ^^^ _
    rw [h, crcL_xor l, ← shN_add, List.length_cons]
    congr 2
    omega
/-- A byte of which a bit is turned. -/
def turnB (c : UInt8) (q : Nat) : UInt8 := by8 (c.toNat ^^^ 2 ^ q)
theorem turnB_toNat (c : UInt8) (q : Nat) (hq : q < 8) : (turnB c q).toNat = c.toNat ^^^ 2 ^ q := by
  unfold turnB
  rw [by8_toNat]
  exact Nat.mod_eq_of_lt (Nat.xor_lt_two_pow (n := 8) c.toNat_lt (Nat.pow_lt_pow_right (by omega) hq))
/-- Bytes of which one bit is turned. -/
def turn (l : List UInt8) (o t : Nat) : List UInt8 := l.set (o + t / 8) (turnB (l[o + t / 8]?.getD 0) (t % 8))
theorem turn_length (l : List UInt8) (o t : Nat) : (turn l o t).length = l.length := by simp [turn]
theorem turn_in (A l R : List UInt8) (t : Nat) (h : t / 8 < l.length) : turn (A ++ (l ++ R)) A.length t = A ++ (turn l 0 t ++ R) := by
  unfold turn
  have e : (A ++ (l ++ R))[A.length + t / 8]?.getD 0 = l[0 + t / 8]?.getD 0 := by
    rw [List.getElem?_append_right (by omega), Nat.add_sub_cancel_left, List.getElem?_append_left h, Nat.zero_add]
  rw [e, List.set_append_right _ _ (by omega), Nat.add_sub_cancel_left, List.set_append_left _ _ h, Nat.zero_add]
theorem split_at (l : List UInt8) (j : Nat) (h : j < l.length) : l = l.take j ++ l[j] :: l.drop (j + 1) := by
  rw [List.getElem_cons_drop, List.take_append_drop]
theorem set_at (l : List UInt8) (j : Nat) (h : j < l.length) (x : UInt8) : l.set j x = l.take j ++ x :: l.drop (j + 1) := by
  rw [List.set_eq_take_append_cons_drop, if_pos h]
theorem num_turn (l : List UInt8) (j q : Nat) (h : j < l.length) (hq : q < 8) : num (l.set j (turnB l[j] q)) = num l ^^^ 2 ^ (q + 8 * (l.length - 1 - j)) := by
  rw [set_at l j h]
  conv => rhs; lhs; rw [split_at l j h]
  have hl : (l.drop (j + 1)).length = l.length - 1 - j := by rw [List.length_drop]; omega
  unfold num
  rw [List.foldl_append, List.foldl_append, List.foldl_cons, List.foldl_cons, turnB_toNat _ _ hq]
  generalize List.foldl (fun x c => x * 256 + c.toNat) 0 (l.take j) = a
  have h2 : a * 256 + (l[j].toNat ^^^ 2 ^ q) = (a * 256 + l[j].toNat) ^^^ 2 ^ q := by
    rw [mul256_add _ _ (by rw [← turnB_toNat _ _ hq]; exact (turnB _ _).toNat_lt), mul256_add _ _ (l[j]).toNat_lt]
    ac_rfl
  rw [h2, numF_xor, hl, pow_256, ← Nat.pow_add]
theorem crcL_turn (l : List UInt8) (x j q : Nat) (h : j < l.length) (hq : q < 8) : crcL x (l.set j (turnB l[j] q)) = crcL x l ^^^ shN (8 + 8 * (l.length - 1 - j)) (2 ^ q) := by
  rw [set_at l j h]
  conv => rhs; lhs; rw [split_at l j h]
  have hl : (l.drop (j + 1)).length = l.length - 1 - j := by rw [List.length_drop]; omega
  rw [crcL_append, crcL_append]
  generalize crcL x (l.take j) = a
  show crcL (crcB a (turnB l[j] q).toNat) _ = crcL (crcB a l[j].toNat) _ ^^^ _
  have h2 : crcB a (turnB l[j] q).toNat = crcB a l[j].toNat ^^^ shN 8 (2 ^ q) := by
    rw [turnB_toNat _ _ hq]
    unfold crcB
    rw [← Nat.xor_assoc, shN_xor]
  rw [h2, crcL_xor, hl, ← shN_add]
/-- How the sum that stands and the sum that is due part. -/
def dueL (x : Nat) (l : List UInt8) : Nat := crcL x (l.drop 4) ^^^ num (l.take 4)
theorem top_pow (i : Nat) (h : i ≤ 31) : 2 ^ i = shN (31 - i) 2147483648 := by
  have := shN_pow (31 - i) (2 ^ i)
  rw [← Nat.pow_add, show 31 - i + i = 31 from by omega] at this
  exact this.symm
theorem due_turn (x : Nat) (l : List UInt8) (t : Nat) (h4 : 4 ≤ l.length) (h : t / 8 < l.length) : ∃ e, dueL x (turn l 0 t) = dueL x l ^^^ shN e 2147483648 := by
  unfold dueL turn
  rw [Nat.zero_add, List.getElem?_eq_getElem h, Option.getD_some, List.take_set, List.drop_set]
  have hq : t % 8 < 8 := Nat.mod_lt _ (by omega)
  by_cases hj : t / 8 < 4
  · rw [if_pos hj]
    have hl4 : (l.take 4).length = 4 := by rw [List.length_take]; omega
    have e : l[t / 8] = (l.take 4)[t / 8]'(by omega) := by simp
    rw [e, num_turn (l.take 4) (t / 8) (t % 8) (by omega) hq, hl4, top_pow (t % 8 + 8 * (4 - 1 - t / 8)) (by omega)]
    exact ⟨_, by ac_rfl⟩
  · rw [if_neg hj, List.set_eq_of_length_le (l := l.take 4) (by rw [List.length_take]; omega)]
    have e : l[t / 8] = (l.drop 4)[t / 8 - 4]'(by rw [List.length_drop]; omega) := by
      rw [List.getElem_drop]
      congr 1
      omega
    rw [e, crcL_turn (l.drop 4) x (t / 8 - 4) (t % 8) (by rw [List.length_drop]; omega) hq, top_pow (t % 8) (by omega), ← shN_add]
    exact ⟨_, by ac_rfl⟩
theorem due_rec (s : Nat) (p : List UInt8) : dueL (crcL 4294967295 (le 4 s ++ be 4 p.length)) (be 4 (sumOf s p) ++ p) = 4294967295 := by
  unfold dueL
  rw [List.take_append_of_le_length (by rw [be_length]; exact Nat.le_refl _), List.take_of_length_le (by rw [be_length]; exact Nat.le_refl _),
    List.drop_append_of_le_length (by rw [be_length]; exact Nat.le_refl _), List.drop_of_length_le (by rw [be_length]; exact Nat.le_refl _), List.nil_append, num_be,
    Nat.mod_eq_of_lt (by have := sumOf_lt s p; omega)]
  unfold sumOf check
  rw [crcL_append _ (le 4 s ++ be 4 p.length) p, ← Nat.xor_assoc, Nat.xor_self, Nat.zero_xor]
/-- A record of which three bits are turned, none of its length. -/
theorem one_spoilt (s : Nat) (p R : List UInt8) (a b c : Nat) (hp : p.length ≤ 16384) (ha : a / 8 < 4 + p.length) (hb : b / 8 < 4 + p.length) (hc : c / 8 < 4 + p.length) :
    one s (be 4 p.length ++ (turn (turn (turn (be 4 (sumOf s p) ++ p) 0 a) 0 b) 0 c ++ R)) = none := by
  have hl0 : (be 4 (sumOf s p) ++ p).length = 4 + p.length := by rw [List.length_append, be_length]
  have hd := due_rec s p
  generalize be 4 (sumOf s p) ++ p = l0 at *
  obtain ⟨e1, h1⟩ := due_turn (crcL 4294967295 (le 4 s ++ be 4 p.length)) l0 a (by omega) (by omega)
  have hl1 := turn_length l0 0 a
  generalize turn l0 0 a = l1 at *
  obtain ⟨e2, h2⟩ := due_turn (crcL 4294967295 (le 4 s ++ be 4 p.length)) l1 b (by omega) (by omega)
  have hl2 := turn_length l1 0 b
  generalize turn l1 0 b = l2 at *
  obtain ⟨e3, h3⟩ := due_turn (crcL 4294967295 (le 4 s ++ be 4 p.length)) l2 c (by omega) (by omega)
  have hl3 := turn_length l2 0 c
  generalize turn l2 0 c = l3 at *
  cases h : one s (be 4 p.length ++ (l3 ++ R)) with
  | none => rfl
  | some q =>
    exfalso
    obtain ⟨g1, g2, g3⟩ := one_some h
    have h5 : (recB s q).take 4 = be 4 q.length := by
      unfold recB
      rw [List.append_assoc, List.take_append_of_le_length (by rw [be_length]; exact Nat.le_refl _), List.take_of_length_le (by rw [be_length]; exact Nat.le_refl _)]
    have hlen : q.length = p.length := by
      have e : be 4 q.length = be 4 p.length := by
        rw [← h5, ← g2, List.take_take, Nat.min_eq_left (by omega), List.take_append_of_le_length (by rw [be_length]; exact Nat.le_refl _), List.take_of_length_le (by rw [be_length]; exact Nat.le_refl _)]
      exact be_inj 4 _ _ (by omega) (by omega) e
    have hall : (be 4 p.length ++ (l3 ++ R)).take (8 + q.length) = be 4 p.length ++ l3 := by
      rw [← List.append_assoc, List.take_append_of_le_length (by rw [List.length_append, be_length]; omega), List.take_of_length_le (by rw [List.length_append, be_length]; omega)]
    rw [hall] at g2
    unfold recB at g2
    rw [hlen, List.append_assoc] at g2
    have h6 := List.append_cancel_left g2
    have h7 := due_rec s q
    rw [← h6, hlen, h3, h2, h1, hd, Nat.xor_assoc, Nat.xor_assoc] at h7
    have h8 := three_bits e1 e2 e3
    apply h8
    have h9 : 4294967295 ^^^ (4294967295 ^^^ (shN e1 2147483648 ^^^ (shN e2 2147483648 ^^^ shN e3 2147483648))) = 4294967295 ^^^ 4294967295 := by rw [h7]
    rw [← Nat.xor_assoc, Nat.xor_self, Nat.zero_xor] at h9
    rw [Nat.xor_assoc]
    exact h9
/-- A log of which three bits of a record are turned. -/
theorem tells_spoilt (ls : List (List UInt8)) (k : Nat) (hk : k < ls.length) (a b c : Nat) (h : ∀ p ∈ ls, p.length ≤ 16384) (ha : a / 8 < 4 + ls[k].length) (hb : b / 8 < 4 + ls[k].length) (hc : c / 8 < 4 + ls[k].length) :
    tells 0 (turn (turn (turn (rowB 0 ls) (sizes (ls.take k) + 4) a) (sizes (ls.take k) + 4) b) (sizes (ls.take k) + 4) c) = (ls.take k, rowS 0 (ls.take k)) := by
  have hp : ls[k].length ≤ 16384 := h _ (List.getElem_mem _)
  have ht : ∀ p ∈ ls.take k, p.length ≤ 16384 := fun p hp => h p (List.mem_of_mem_take hp)
  have e : rowB 0 ls = (rowB 0 (ls.take k) ++ be 4 ls[k].length) ++ ((be 4 (sumOf (rowS 0 (ls.take k)) ls[k]) ++ ls[k]) ++ rowB (sumOf (rowS 0 (ls.take k)) ls[k]) (ls.drop (k + 1))) := by
    conv => lhs; rw [← List.take_append_drop k ls]
    rw [rowB_append, ← List.getElem_cons_drop (h := hk), rowB]
    unfold recB
    simp only [List.append_assoc]
  have hA : sizes (ls.take k) + 4 = (rowB 0 (ls.take k) ++ be 4 ls[k].length).length := by rw [List.length_append, rowB_length, be_length]
  have hl0 : (be 4 (sumOf (rowS 0 (ls.take k)) ls[k]) ++ ls[k]).length = 4 + ls[k].length := by rw [List.length_append, be_length]
  rw [e, hA, turn_in _ _ _ _ (by rw [hl0]; exact ha), turn_in _ _ _ _ (by rw [turn_length, hl0]; exact hb), turn_in _ _ _ _ (by rw [turn_length, turn_length, hl0]; exact hc), List.append_assoc,
    tells_row _ _ _ ht, tells_none (one_spoilt _ _ _ _ _ _ hp ha hb hc), List.append_nil]
end Go.Proofs.YtmaajihpkollcaaDoor
