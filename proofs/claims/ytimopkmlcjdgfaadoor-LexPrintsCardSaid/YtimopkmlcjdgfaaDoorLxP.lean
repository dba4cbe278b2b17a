/-
  TOKENS AS PLAIN DATA: what stands between them, the one that begins here, all of a text. No program is named here.
-/
import Derived.Lib.ItoaNum
import Derived.Lib.ParseIntB
import Derived.Lib.ParseIntBCases
namespace Go.Proofs.YtimopkmlcjdgfaaDoor
set_option linter.unusedSimpArgs false
set_option linter.unusedVariables false
open Go

def ltr (c : UInt8) : Bool := (decide (97 ≤ c) && decide (c ≤ 122)) || (decide (65 ≤ c) && decide (c ≤ 90)) || c == 95
def dgt (c : UInt8) : Bool := decide (48 ≤ c) && decide (c ≤ 57)
def fol (c : UInt8) : Bool := ltr c || dgt c || c == 45
def plB (c : UInt8) : Bool := decide (32 ≤ c) && decide (c ≤ 126)
def gapB (c : UInt8) : Bool := c == 32 || c == 9 || c == 10 || c == 13
structure Tk where
  k : Int
  t : List UInt8
  n : Int
  a : Int
/-- How many bytes more a word has. -/
def wEnd : List UInt8 → Nat
  | [] => 0
  | [b] => if fol b then 1 else 0
  | b :: c :: r => if fol b then 1 + wEnd (c :: r) else if b == 46 && c != 45 && fol c then 2 + wEnd r else 0
/-- What begins behind blanks, line ends, comments; true: from the midst of a comment. -/
def skp : Bool → List UInt8 → List UInt8
  | _, [] => []
  | true, b :: r => if b == 10 then skp false r else skp true r
  | false, b :: r => if gapB b then skp false r else if b == 35 then skp true r else b :: r
def endOk : List UInt8 → Bool
  | [] => true
  | b :: _ => !fol b && b != 46
/-- What stands up to the closing quote, and how many bytes that is. -/
def txt : List UInt8 → Option (List UInt8 × Nat)
  | [] => none
  | [b] => if b == 34 then some ([], 1) else none
  | b :: c :: r => if b == 34 then some ([], 1) else if b == 92 then (if c == 34 || c == 92 then (txt r).map fun q => (c :: q.1, q.2 + 2) else none) else (txt (c :: r)).map fun q => (b :: q.1, q.2 + 1)
def marksL : List (List UInt8) := [[123], [125], [40], [41], [59], [61], [60], [33, 61]]
/-- The token that begins here: its kind, text, number, how many bytes. -/
def tok : List UInt8 → Option (Int × List UInt8 × Int × Nat)
  | [] => none
  | c :: r =>
    if ltr c then (if endOk (r.drop (wEnd r)) && decide (wEnd r < 64) then some (1, c :: r.take (wEnd r), 0, 1 + wEnd r) else none)
    else if dgt c || c == 45 then
      (match Lib.parseIntB 64 (c :: r.takeWhile dgt) with
        | .ok v => if Lib.itoa v == c :: r.takeWhile dgt && endOk (r.drop (r.takeWhile dgt).length) then some (3, [], v, 1 + (r.takeWhile dgt).length) else none
        | _ => none)
    else if c == 34 then
      (match txt r with
        | some (o, m) => if decide (o.length ≤ 64) && o.all plB then some (2, o, 0, m + 1) else none
        | none => none)
    else if c == 33 && r.head? == some 61 then some (4, [33, 61], 0, 2)
    else if marksL.contains [c] then some (4, [c], 0, 1) else none
theorem tok_c (c : UInt8) (r : List UInt8) : tok (c :: r) =
    (if ltr c then (if endOk (r.drop (wEnd r)) && decide (wEnd r < 64) then some (1, c :: r.take (wEnd r), 0, 1 + wEnd r) else none)
    else if dgt c || c == 45 then
      (match Lib.parseIntB 64 (c :: r.takeWhile dgt) with
        | .ok v => if Lib.itoa v == c :: r.takeWhile dgt && endOk (r.drop (r.takeWhile dgt).length) then some (3, [], v, 1 + (r.takeWhile dgt).length) else none
        | _ => none)
    else if c == 34 then
      (match txt r with
        | some (o, m) => if decide (o.length ≤ 64) && o.all plB then some (2, o, 0, m + 1) else none
        | none => none)
    else if c == 33 && r.head? == some 61 then some (4, [33, 61], 0, 2)
    else if marksL.contains [c] then some (4, [c], 0, 1) else none : Option (Int × List UInt8 × Int × Nat)) := rfl
/-- All tokens, or the place where there is none. -/
def lexL (L : Nat) : Nat → List UInt8 → List Tk ⊕ Nat
  | 0, _ => .inl []
  | f + 1, s => match skp false s with
    | [] => .inl []
    | c :: r => match tok (c :: r) with
      | none => .inr (L - (r.length + 1))
      | some q => match lexL L f ((c :: r).drop q.2.2.2) with
        | .inl l => .inl (⟨q.1, q.2.1, q.2.2.1, ((L - (r.length + 1) : Nat) : Int)⟩ :: l)
        | .inr e => .inr e
def allS (s : List UInt8) : List Tk ⊕ Nat := lexL s.length (s.length + 1) s

theorem skp_len : ∀ (b : Bool) (s : List UInt8), (skp b s).length ≤ s.length
  | _, [] => by simp [skp]
  | true, b :: r => by
    unfold skp
    split
    · have := skp_len false r; simp only [List.length_cons]; omega
    · have := skp_len true r; simp only [List.length_cons]; omega
  | false, b :: r => by
    unfold skp
    split
    · have := skp_len false r; simp only [List.length_cons]; omega
    · split
      · have := skp_len true r; simp only [List.length_cons]; omega
      · exact Nat.le_refl _
theorem wEnd_le : ∀ s : List UInt8, wEnd s ≤ s.length
  | [] => by simp [wEnd]
  | [b] => by unfold wEnd; split <;> simp
  | b :: c :: r => by
    unfold wEnd
    split
    · have := wEnd_le (c :: r); simp only [List.length_cons] at this ⊢; omega
    · split
      · have := wEnd_le r; simp only [List.length_cons]; omega
      · exact Nat.zero_le _
theorem txt_le : ∀ (s : List UInt8) (o : List UInt8) (m : Nat), txt s = some (o, m) → 0 < m ∧ m ≤ s.length
  | [], o, m, h => by simp [txt] at h
  | [b], o, m, h => by
    unfold txt at h
    split at h
    · simp at h; obtain ⟨-, rfl⟩ := h; exact ⟨by decide, by simp⟩
    · cases h
  | b :: c :: r, o, m, h => by
    unfold txt at h
    split at h
    · simp at h; obtain ⟨-, rfl⟩ := h; exact ⟨by decide, by simp⟩
    · split at h
      · split at h
        · cases hq : txt r with
          | none => rw [hq] at h; simp at h
          | some q =>
            rw [hq] at h
            simp at h
            have := txt_le r q.1 q.2 hq
            obtain ⟨-, rfl⟩ := h
            simp only [List.length_cons]
            omega
        · cases h
      · cases hq : txt (c :: r) with
        | none => rw [hq] at h; simp at h
        | some q =>
          rw [hq] at h
          simp at h
          have := txt_le (c :: r) q.1 q.2 hq
          obtain ⟨-, rfl⟩ := h
          simp only [List.length_cons] at this ⊢
          omega
theorem tok_le {s : List UInt8} {q : Int × List UInt8 × Int × Nat} (h : tok s = some q) : 0 < q.2.2.2 ∧ q.2.2.2 ≤ s.length := by
  cases s with
  | nil => simp [tok] at h
  | cons c r =>
    rw [tok_c] at h
    have h1 := wEnd_le r
    have h2 := List.takeWhile_sublist (p := dgt) (l := r)
    have h3 := h2.length_le
    simp only [List.length_cons]
    split at h
    · split at h
      · injection h with h; subst h; dsimp only; omega
      · cases h
    · split at h
      · split at h
        · split at h
          · injection h with h; subst h; dsimp only; omega
          · cases h
        · cases h
      · split at h
        · split at h
          · rename_i o m hm
            split at h
            · injection h with h; subst h
              have := txt_le _ _ _ hm
              dsimp only; omega
            · cases h
          · cases h
        · split at h
          · rename_i hc
            injection h with h; subst h
            cases r with
            | nil => simp at hc
            | cons d r => dsimp only; simp only [List.length_cons]; omega
          · split at h
            · injection h with h; subst h; dsimp only; omega
            · cases h
/-- More fuel than there are bytes: how much more does not matter. -/
theorem lex_fuel (L : Nat) : ∀ (f g : Nat) (s : List UInt8), s.length < f → s.length < g → lexL L f s = lexL L g s
  | 0, _, _, h, _ => absurd h (Nat.not_lt_zero _)
  | _ + 1, 0, _, _, h => absurd h (Nat.not_lt_zero _)
  | f + 1, g + 1, s, hf, hg => by
    unfold lexL
    have hl := skp_len false s
    cases hs : skp false s with
    | nil => rfl
    | cons c r =>
      rw [hs] at hl
      dsimp only
      cases ht : tok (c :: r) with
      | none => rfl
      | some q =>
        dsimp only
        have hm := tok_le ht
        have hd : ((c :: r).drop q.2.2.2).length < (c :: r).length := by rw [List.length_drop]; simp only [List.length_cons] at *; omega
        rw [lex_fuel L f g _ (by omega) (by omega)]
theorem lex_step {L f : Nat} {s r : List UInt8} {c : UInt8} (hs : skp false s = c :: r) (hf : s.length < f + 1) : lexL L (f + 1) s = match tok (c :: r) with
      | none => .inr (L - (r.length + 1))
      | some q => match lexL L f ((c :: r).drop q.2.2.2) with
        | .inl l => .inl (⟨q.1, q.2.1, q.2.2.1, ((L - (r.length + 1) : Nat) : Int)⟩ :: l)
        | .inr e => .inr e := by
  conv => lhs; unfold lexL
  rw [hs]
end Go.Proofs.YtimopkmlcjdgfaaDoor
