/-
  THE NAMES' TEXTS, ON LISTS: a name's text, and the name that a text may be, as functions of bytes. No program is named here, and no statement is proved here.
-/
import Derived.Test.YtjaocgmicdnghaaGreatDoorMem
import Derived.Lib.ItoaNum
import Derived.Lib.ParseIntB
import Derived.Lib.IndexLaws
import Derived.Lib.IndexBytes
import Derived.Lib.IndexMore
namespace Go.Proofs.YtjaocgmicdnghaaGreatDoor
set_option linter.unusedSimpArgs false
set_option linter.unusedVariables false
open Go Go.RowKit Go.Lib

/-- A hexadecimal digit. -/
def hxd (k : Nat) : UInt8 := if k < 10 then UInt8.ofNat (48 + k) else UInt8.ofNat (87 + k)
/-- Bytes as hexadecimal digits. -/
def hexL : List UInt8 → List UInt8
  | [] => []
  | c :: r => hxd (c.toNat / 16) :: hxd (c.toNat % 16) :: hexL r
/-- What a digit stands for; 15 for what is none. -/
def dgt (c : UInt8) : Nat := if 48 ≤ c.toNat ∧ c.toNat ≤ 57 then c.toNat - 48 else if 97 ≤ c.toNat ∧ c.toNat ≤ 102 then c.toNat - 87 else 15
def unhex : List UInt8 → List UInt8
  | a :: b :: r => UInt8.ofNat (dgt a * 16 + dgt b) :: unhex r
  | _ => []
/-- A name's text. -/
def txt (g : Nat) (s : List UInt8) : List UInt8 := decDigits g ++ 45 :: hexL s
def mayG (g : Nat) : Bool := decide (1 ≤ g ∧ g ≤ 4611686018427387903)
/-- Is s the text of that name? -/
def isName (g : Nat) (sum s : List UInt8) : Prop := (1 ≤ g ∧ g ≤ 4611686018427387903) ∧ sum.length = 16 ∧ txt g sum = s
instance (g : Nat) (sum s : List UInt8) : Decidable (isName g sum s) := by unfold isName; exact inferInstance
/-- What strconv.ParseUint(.., 10, 64) answers, its error aside. -/
def genOf (l : List UInt8) : Nat := match parseUintB 64 l with | .ok v => v | .range => 18446744073709551615 | _ => 0
def cut1 (s : List UInt8) : List UInt8 × List UInt8 := ((cut s [45]).1, (cut s [45]).2.1)
/-- The name whose text it is. -/
def parse (s : List UInt8) : Option (Nat × List UInt8) := if isName (genOf (cut1 s).1) (unhex (cut1 s).2) s then some (genOf (cut1 s).1, unhex (cut1 s).2) else none

theorem dgt_hxd : ∀ k : Fin 16, dgt (hxd k.val) = k.val := by decide +kernel
theorem dgt_lt : ∀ c : UInt8, dgt c ≤ 15 := by intro c; unfold dgt; split; · omega
                                               split <;> omega
theorem hexL_length : ∀ s : List UInt8, (hexL s).length = 2 * s.length
  | [] => rfl
  | _ :: r => by simp only [hexL, List.length_cons, hexL_length r]; omega
theorem hexL_append : ∀ a b : List UInt8, hexL (a ++ b) = hexL a ++ hexL b
  | [], _ => rfl
  | c :: r, b => by simp only [List.cons_append, hexL, hexL_append r b]
theorem unhex_hexL : ∀ s : List UInt8, unhex (hexL s) = s
  | [] => rfl
  | c :: r => by
    have hc := c.toNat_lt
    simp only [hexL, unhex, unhex_hexL r, List.cons.injEq, and_true]
    rw [dgt_hxd ⟨c.toNat / 16, by omega⟩, dgt_hxd ⟨c.toNat % 16, by omega⟩]
    apply UInt8.toNat_inj.1
    simp only [UInt8.toNat_ofNat']
    omega
theorem unhex_length : ∀ l : List UInt8, (unhex l).length = l.length / 2
  | [] => by simp [unhex]
  | [_] => by simp [unhex]
  | _ :: _ :: r => by simp only [unhex, List.length_cons, unhex_length r]; omega

theorem digit_toNat {k : Nat} (h : k < 10) : (UInt8.ofNat (48 + k)).toNat = 48 + k := by simp only [UInt8.toNat_ofNat']; omega
theorem decDigits_digit (u : Nat) : ∀ c ∈ decDigits u, 48 ≤ c.toNat ∧ c.toNat ≤ 57 := by
  induction u using Nat.strongRecOn with
  | _ u ih =>
    intro c hc
    rw [decDigits] at hc
    split at hc
    · simp only [List.mem_singleton] at hc; subst hc; rw [digit_toNat (by omega)]; omega
    · rcases List.mem_append.1 hc with h | h
      · exact ih (u / 10) (by omega) c h
      · simp only [List.mem_singleton] at h; subst h; rw [digit_toNat (by omega)]; omega

theorem parseUintM_append {M : Nat} : ∀ (l : List UInt8) (acc v : Nat) (r : List UInt8), parseUintM M acc l = .ok v → parseUintM M acc (l ++ r) = parseUintM M v r
  | [], acc, v, r, h => by simp only [parseUintM, NumEnd.ok.injEq] at h; subst h; rfl
  | c :: l, acc, v, r, h => by
    simp only [parseUintM, List.cons_append] at h ⊢
    split at h
    · rename_i h1
      rw [if_pos h1]
      split at h
      · cases h
      · rename_i h2
        rw [if_neg h2]
        split at h
        · cases h
        · rename_i h3
          rw [if_neg h3]
          exact parseUintM_append l _ v r h
    · cases h
theorem parseUintM_dec (u : Nat) (hu : u ≤ 18446744073709551615) : parseUintM 18446744073709551615 0 (decDigits u) = .ok u := by
  induction u using Nat.strongRecOn with
  | _ u ih =>
    rw [decDigits]
    split
    · rename_i h
      simp only [parseUintM, digit_toNat h]
      rw [if_pos (by omega), if_neg (by omega), if_neg (by omega)]
      congr 1
      omega
    · rename_i h
      rw [parseUintM_append _ _ _ _ (ih (u / 10) (by omega) (by omega))]
      simp only [parseUintM, digit_toNat (show u % 10 < 10 by omega)]
      rw [if_pos (by omega), if_neg (by omega), if_neg (by omega)]
      congr 1
      omega
theorem decDigits_ne (u : Nat) : decDigits u ≠ [] := by
  intro h
  have h1 := decDigits_length u
  have h2 := nDigits_pos u
  rw [h] at h1
  simp at h1
  omega
theorem genOf_dec (u : Nat) (hu : u ≤ 18446744073709551615) : genOf (decDigits u) = u := by
  unfold genOf parseUintB
  rw [if_neg (decDigits_ne u), show (2 : Nat) ^ 64 - 1 = 18446744073709551615 by decide, parseUintM_dec u hu]
theorem index_minus {l r : List UInt8} (h : ∀ c ∈ l, c ≠ 45) : index (l ++ 45 :: r) [45] = l.length := by
  refine index_first (by simp) ?_ ?_
  · simp [occAt]
  · intro j hj
    simp only [occAt]
    have e : (l ++ 45 :: r).drop j = l[j] :: (l ++ 45 :: r).drop (j + 1) := by
      rw [List.drop_eq_getElem_cons (by simp; omega)]
      simp [List.getElem_append_left hj]
    rw [e]
    have hn := h _ (List.getElem_mem hj)
    simp [List.isPrefixOf, Ne.symm hn]
theorem cut1_txt (g : Nat) (sum : List UInt8) : cut1 (txt g sum) = (decDigits g, hexL sum) := by
  have hi : index (txt g sum) [45] = (decDigits g).length := index_minus (fun c hc => by
    have := decDigits_digit g c hc
    rintro rfl
    simp at this)
  unfold cut1 cut
  rw [hi, if_pos (by omega)]
  simp [txt, List.drop_append]
theorem parse_txt {g : Nat} {sum s : List UInt8} (h : isName g sum s) : parse s = some (g, sum) := by
  obtain ⟨h1, h2, rfl⟩ := h
  unfold parse
  rw [cut1_txt, genOf_dec g (by omega), unhex_hexL, if_pos ⟨h1, h2, rfl⟩]
theorem parse_some {g : Nat} {sum s : List UInt8} (h : parse s = some (g, sum)) : isName g sum s := by
  unfold parse at h
  split at h
  · rename_i hn
    simp only [Option.some.injEq, Prod.mk.injEq] at h
    obtain ⟨h1, h2⟩ := h
    rw [← h1, ← h2]
    exact hn
  · cases h
theorem parse_none {s : List UInt8} (h : parse s = none) (g : Nat) (sum : List UInt8) : ¬ isName g sum s := fun hn => by rw [parse_txt hn] at h; cases h
theorem txt_inj {g g' : Nat} {a b : List UInt8} (hg : g ≤ 4611686018427387903) (hg' : g' ≤ 4611686018427387903) (h : txt g a = txt g' b) : g = g' ∧ a = b := by
  have h1 := cut1_txt g a
  rw [h, cut1_txt] at h1
  simp only [Prod.mk.injEq] at h1
  refine ⟨?_, ?_⟩
  · rw [← genOf_dec g (by omega), ← genOf_dec g' (by omega), h1.1]
  · rw [← unhex_hexL a, ← unhex_hexL b, h1.2]
end Go.Proofs.YtjaocgmicdnghaaGreatDoor
