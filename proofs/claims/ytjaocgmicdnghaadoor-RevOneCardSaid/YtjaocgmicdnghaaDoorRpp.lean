/-
  WHAT A TEXT IS READ AS, step by step, on lists. No program is named here.
-/
import Derived.Test.YtjaocgmicdnghaaDoorParse
namespace Go.Proofs.YtjaocgmicdnghaaDoor
set_option linter.unusedSimpArgs false
set_option linter.unusedVariables false
open Go Go.RowKit Go.Lib

/-- A whole array or struct, loaded under a guard that says yes. -/
theorem wpList_load_g {P : Program} {ops : Array Oper} {rest : List Oper} {op : Oper} {a : Act} {w : World} {Q : Exit → Act → World → Prop} (hw : Region.wanted op (yielded ops a.tmps) = true) (ty : TypeId) (x : Operand) (ho : op.op = .load ty x)
    (b o : Nat) (hx : a.eval x = .pointer (some ⟨b, o, none⟩)) (cs : List Value) (d : TypeDesc) (hc : w.rangeAt b o cs)
    (hu : P.underlying ty = some d) (hd : d.isRow = true) (hi : (P.info? ty).map (·.size) = some cs.length)
    (h : wpList P ops Q rest (a.put op.dst (.agg cs.toArray)) w) : wpList P ops Q (op :: rest) a w :=
  wpList_step fun K hK => by rw [if_pos hw]; exact wp_load_mid ty x ho b o hx cs d hc hu hd hi (hK _ _ h)
def isDig (c : UInt8) : Prop := 48 ≤ c.toNat ∧ c.toNat ≤ 57
def isHex (c : UInt8) : Prop := (48 ≤ c.toNat ∧ c.toNat ≤ 57) ∨ (97 ≤ c.toNat ∧ c.toNat ≤ 102)
def gstep (a : Nat) (c : UInt8) : Nat := (a * 10 + (c.toNat - 48)) % 18446744073709551616
theorem fold_dec (u : Nat) (hu : u < 18446744073709551616) : (decDigits u).foldl gstep 0 = u := by
  induction u using Nat.strongRecOn with
  | _ u ih =>
    rw [decDigits]
    split
    · rename_i h
      simp only [List.foldl_cons, List.foldl_nil, gstep, digit_toNat h]
      omega
    · rename_i h
      rw [List.foldl_append, ih (u / 10) (by omega) (by omega)]
      simp only [List.foldl_cons, List.foldl_nil, gstep, digit_toNat (show u % 10 < 10 by omega)]
      omega
theorem fold_lt : ∀ (l : List UInt8) (a : Nat), a < 18446744073709551616 → l.foldl gstep a < 18446744073709551616
  | [], a, h => h
  | c :: l, a, _ => fold_lt l (gstep a c) (by unfold gstep; omega)
theorem hexL_hex : ∀ (s : List UInt8), ∀ c ∈ hexL s, isHex c
  | [], c, h => by simp [hexL] at h
  | x :: s, c, h => by
    have hk : ∀ k : Fin 16, isHex (hxd k.val) := by unfold isHex; decide +kernel
    have hx := x.toNat_lt
    simp only [hexL, List.mem_cons] at h
    rcases h with rfl | rfl | h
    · exact hk ⟨x.toNat / 16, by omega⟩
    · exact hk ⟨x.toNat % 16, by omega⟩
    · exact hexL_hex s c h
theorem scan_end {g : Nat} {sum s : List UInt8} {k : Nat} (h : isName g sum s) (hk : k ≤ s.length) (hd : ∀ (j : Nat) (hj : j < k), isDig (s[j]'(Nat.lt_of_lt_of_le hj hk)))
    (he : k = s.length ∨ k = 20 ∨ ∃ hl : k < s.length, ¬ isDig (s[k]'hl)) : (s.take k).foldl gstep 0 = g ∧ s.drop (k + 1) = hexL sum ∧ s.length = k + 33 ∧ s[k]? = some 45 := by
  obtain ⟨h1, h2, h3⟩ := h
  have hl : (decDigits g).length ≤ 20 := by
    rw [decDigits_length]
    exact nDigits_le20 g (by omega)
  have hdd := decDigits_digit g
  have hfd := fold_dec g (by omega)
  have hhl : (hexL sum).length = 32 := by rw [hexL_length, h2]
  unfold txt at h3
  obtain ⟨D, hD⟩ : ∃ D, decDigits g = D := ⟨_, rfl⟩
  rw [hD] at hl hdd hfd h3
  obtain ⟨H, hH⟩ : ∃ H, hexL sum = H := ⟨_, rfl⟩
  rw [hH] at hhl h3 ⊢
  subst h3
  have e : k = D.length := by
    rcases Nat.lt_trichotomy k D.length with hlt | heq | hgt
    · exfalso
      rcases he with he | he | ⟨hl2, he⟩
      · simp at he; omega
      · omega
      · refine he ?_
        rw [List.getElem_append_left hlt]
        exact hdd _ (List.getElem_mem _)
    · exact heq
    · exfalso
      have := hd D.length hgt
      rw [List.getElem_append_right (Nat.le_refl _)] at this
      simp [isDig] at this
  subst e
  refine ⟨by rw [List.take_left]; exact hfd, ?_, by simp [hhl], by simp⟩
  rw [show D ++ 45 :: H = (D ++ [45]) ++ H by simp, show D.length + 1 = (D ++ [45]).length by simp, List.drop_left]
theorem name_of {g : Nat} {sum s : List UInt8} (h : isName g sum s) : parse s = some (g, sum) := parse_txt h
/-- The sixteen bytes while their digits come: q of them whole, o digits of the next. -/
def mid2 (L : List UInt8) (q o : Nat) : List UInt8 := if o = 0 then mid L q else (mid L q).set q (UInt8.ofNat (dgt (L.getD (2 * q) 0)))
theorem mid_at {L : List UInt8} (h : L.length = 32) {q : Nat} (hq : q < 16) : (mid L q)[q]? = some 0 := by
  unfold mid
  have hl : (unhex (L.take (2 * q))).length = q := by rw [unhex_length, List.length_take]; omega
  rw [List.getElem?_append_right (by omega), hl, Nat.sub_self, List.getElem?_eq_getElem (by rw [List.length_replicate]; omega), List.getElem_replicate]
theorem mid2_len {L : List UInt8} (h : L.length = 32) {q o : Nat} (hq : q ≤ 16) : (mid2 L q o).length = 16 := by
  unfold mid2
  split
  · exact mid_len h hq
  · rw [List.length_set]; exact mid_len h hq
theorem mid2_at0 {L : List UInt8} (h : L.length = 32) {q : Nat} (hq : q < 16) : (mid2 L q 0)[q]? = some 0 := mid_at h hq
theorem mid2_at1 {L : List UInt8} (h : L.length = 32) {q : Nat} (hq : q < 16) : (mid2 L q 1)[q]? = some (UInt8.ofNat (dgt (L.getD (2 * q) 0))) := by
  show ((mid L q).set q _)[q]? = _
  rw [List.getElem?_set_self (by rw [mid_len h (by omega)]; omega)]
theorem mid2_set0 {L : List UInt8} {q : Nat} : (mid2 L q 0).set q (UInt8.ofNat (dgt (L.getD (2 * q) 0))) = mid2 L q 1 := rfl
theorem mid2_set1 {L : List UInt8} (h : L.length = 32) {q : Nat} (hq : q < 16) : (mid2 L q 1).set q (UInt8.ofNat (dgt (L.getD (2 * q) 0) * 16 + dgt (L.getD (2 * q + 1) 0))) = mid2 L (q + 1) 0 := by
  show ((mid L q).set q _).set q _ = mid L (q + 1)
  rw [List.set_set, ← mid_succ h hq]
  simp [show 2 * q < L.length by omega, show 2 * q + 1 < L.length by omega]
def midI (L : List UInt8) (i : Nat) : List UInt8 := mid2 L (i / 2) (i % 2)
theorem midI_zero (L : List UInt8) : midI L 0 = zN := mid_zero L
theorem midI_end {L : List UInt8} (h : L.length = 32) : midI L 32 = unhex L := mid_end h
theorem midI_len {L : List UInt8} (h : L.length = 32) {i : Nat} (hi : i ≤ 32) : (midI L i).length = 16 := mid2_len h (by omega)
theorem nib_step {L : List UInt8} (h : L.length = 32) {i : Nat} (hi : i < 32) : ∃ a, a < 16 ∧ (midI L i)[i / 2]? = some (UInt8.ofNat a) ∧ (midI L i).set (i / 2) (UInt8.ofNat (a * 16 + dgt (L.getD i 0))) = midI L (i + 1) := by
  rcases Nat.mod_two_eq_zero_or_one i with ho | ho
  · obtain ⟨q, rfl⟩ : ∃ q, i = 2 * q := ⟨i / 2, by omega⟩
    refine ⟨0, by omega, ?_, ?_⟩
    · unfold midI
      rw [show 2 * q / 2 = q by omega, ho, mid2_at0 h (by omega)]
      rfl
    · unfold midI
      rw [show 2 * q / 2 = q by omega, ho, show (2 * q + 1) / 2 = q by omega, show (2 * q + 1) % 2 = 1 by omega, Nat.zero_mul, Nat.zero_add]
      exact mid2_set0
  · obtain ⟨q, rfl⟩ : ∃ q, i = 2 * q + 1 := ⟨i / 2, by omega⟩
    refine ⟨dgt (L.getD (2 * q) 0), by have := dgt_lt (L.getD (2 * q) 0); omega, ?_, ?_⟩
    · unfold midI
      rw [show (2 * q + 1) / 2 = q by omega, ho, mid2_at1 h (by omega)]
    · unfold midI
      rw [show (2 * q + 1) / 2 = q by omega, ho, show (2 * q + 1 + 1) / 2 = q + 1 by omega, show (2 * q + 1 + 1) % 2 = 0 by omega]
      exact mid2_set1 h (by omega)
theorem dgt_num {c : UInt8} (h : 48 ≤ c.toNat ∧ c.toNat ≤ 57) : c.toNat - 48 = dgt c := by unfold dgt; rw [if_pos h]
theorem dgt_let {c : UInt8} (h : 97 ≤ c.toNat ∧ c.toNat ≤ 102) : c.toNat - 97 + 10 = dgt c := by
  unfold dgt
  rw [if_neg (by omega), if_pos h]
  omega
end Go.Proofs.YtjaocgmicdnghaaDoor
