/-
  PLAIN: records (chapter 4): what a row of bytes tells; rows of records; cuts. No program is named here.
-/
import Derived.Test.YtmaajihpkollcaaDoorCrc
namespace Go.Proofs.YtmaajihpkollcaaDoor
set_option linter.unusedSimpArgs false
set_option linter.unusedVariables false
open Go

theorem be_num : ∀ (n : Nat) (l : List UInt8), l.length = n → be n (num l) = l
  | 0, l, h => by rw [List.eq_nil_of_length_eq_zero h]; rfl
  | n + 1, l, h => by
    obtain ⟨m, c, rfl⟩ : ∃ m c, l = m ++ [c] := by
      have hne : l ≠ [] := by intro e; rw [e] at h; cases h
      exact ⟨l.dropLast, l.getLast hne, (List.dropLast_concat_getLast hne).symm⟩
    have hm : m.length = n := by simpa using h
    rw [num_snoc, be]
    have hc := c.toNat_lt
    rw [show (num m * 256 + c.toNat) / 256 = num m from by omega, be_num n m hm]
    have hb : by8 (num m * 256 + c.toNat) = c := by
      apply UInt8.toNat_inj.1
      rw [by8_toNat]
      omega
    rw [hb]
theorem be_inj (n x y : Nat) (hx : x < 256 ^ n) (hy : y < 256 ^ n) (h : be n x = be n y) : x = y := by
  have := congrArg num h
  rwa [num_be, num_be, Nat.mod_eq_of_lt hx, Nat.mod_eq_of_lt hy] at this

/-- The record of a payload behind a sum. -/
def recB (s : Nat) (p : List UInt8) : List UInt8 := be 4 p.length ++ be 4 (sumOf s p) ++ p
theorem recB_length (s : Nat) (p : List UInt8) : (recB s p).length = 8 + p.length := by unfold recB; simp [be_length]; omega
/-- The payload that stands first, if one does. -/
def one (s : Nat) (b : List UInt8) : Option (List UInt8) :=
  if b.length < 8 then none
  else if 16384 < num (b.take 4) ∨ b.length < 8 + num (b.take 4) then none
  else if be 4 (sumOf s ((b.drop 8).take (num (b.take 4)))) = (b.drop 4).take 4 then some ((b.drop 8).take (num (b.take 4))) else none
theorem one_some {s : Nat} {b p : List UInt8} (h : one s b = some p) : p.length ≤ 16384 ∧ b.take (8 + p.length) = recB s p ∧ 8 + p.length ≤ b.length := by
  unfold one at h
  split at h
  · cases h
  split at h
  · cases h
  split at h
  · rename_i h1 h2 h3
    injection h with h
    subst h
    have hl : ((b.drop 8).take (num (b.take 4))).length = num (b.take 4) := by rw [List.length_take, List.length_drop]; omega
    refine ⟨by omega, ?_, by omega⟩
    unfold recB
    rw [h3, hl, be_num 4 _ (by rw [List.length_take]; omega)]
    rw [List.append_assoc, show 8 + num (b.take 4) = 4 + (4 + num (b.take 4)) from by omega, List.take_add, List.take_add, List.drop_drop]
  · cases h
theorem one_rec (s : Nat) (p m : List UInt8) (hp : p.length ≤ 16384) : one s (recB s p ++ m) = some p := by
  have h4 : (recB s p ++ m).take 4 = be 4 p.length := by
    unfold recB
    rw [List.append_assoc, List.append_assoc, List.take_append_of_le_length (by rw [be_length]; exact Nat.le_refl _), List.take_of_length_le (by rw [be_length]; exact Nat.le_refl _)]
  have hn : num ((recB s p ++ m).take 4) = p.length := by rw [h4, num_be, Nat.mod_eq_of_lt (by omega)]
  have hd4 : (recB s p ++ m).drop 4 = be 4 (sumOf s p) ++ (p ++ m) := by
    unfold recB
    rw [List.append_assoc, List.append_assoc, List.drop_append_of_le_length (by rw [be_length]; exact Nat.le_refl _), List.drop_of_length_le (by rw [be_length]; exact Nat.le_refl _), List.nil_append]
  have hd8 : (recB s p ++ m).drop 8 = p ++ m := by
    rw [show (8 : Nat) = 4 + 4 from rfl, ← List.drop_drop, hd4, List.drop_append_of_le_length (by rw [be_length]; exact Nat.le_refl _), List.drop_of_length_le (by rw [be_length]; exact Nat.le_refl _), List.nil_append]
  have hl : (recB s p ++ m).length = 8 + p.length + m.length := by rw [List.length_append, recB_length]
  unfold one
  rw [hn, hd8, hd4, if_neg (by omega), if_neg (by omega), List.take_append_of_le_length (Nat.le_refl _), List.take_of_length_le (Nat.le_refl _),
    List.take_append_of_le_length (by rw [be_length]; exact Nat.le_refl _), List.take_of_length_le (by rw [be_length]; exact Nat.le_refl _), if_pos rfl]
/-- A record whose sum is another one's. -/
theorem one_other (s t : Nat) (p m : List UInt8) (hp : p.length ≤ 16384) (hs : s < 4294967296) (ht : t < 4294967296) (hne : s ≠ t) : one s (recB t p ++ m) = none := by
  cases h : one s (recB t p ++ m) with
  | none => rfl
  | some q =>
    exfalso
    obtain ⟨h1, h2, h3⟩ := one_some h
    have h4 : (recB t p ++ m).take 4 = be 4 p.length := by
      unfold recB
      rw [List.append_assoc, List.append_assoc, List.take_append_of_le_length (by rw [be_length]; exact Nat.le_refl _), List.take_of_length_le (by rw [be_length]; exact Nat.le_refl _)]
    have h5 : (recB s q).take 4 = be 4 q.length := by
      unfold recB
      rw [List.append_assoc, List.take_append_of_le_length (by rw [be_length]; exact Nat.le_refl _), List.take_of_length_le (by rw [be_length]; exact Nat.le_refl _)]
    have hlen : q.length = p.length := by
      have e : be 4 q.length = be 4 p.length := by
        rw [← h5, ← h2, List.take_take, Nat.min_eq_left (by omega), h4]
      exact be_inj 4 _ _ (by omega) (by omega) e
    rw [hlen, show 8 + p.length = (recB t p).length from (recB_length t p).symm, List.take_append_of_le_length (Nat.le_refl _), List.take_of_length_le (Nat.le_refl _)] at h2
    unfold recB at h2
    rw [hlen, List.append_assoc, List.append_assoc] at h2
    have h6 := List.append_cancel_left h2
    have h7 := List.append_inj h6 (by rw [be_length, be_length])
    obtain ⟨h8, rfl⟩ := h7
    have h9 := be_inj 4 _ _ (by have := sumOf_lt t p; omega) (by have := sumOf_lt s p; omega) h8
    exact hne (sumOf_inj t s p ht hs h9).symm
/-- Of a record that is cut. -/
theorem one_cut (s : Nat) (p : List UInt8) (c : Nat) (hp : p.length ≤ 16384) (hc : c < 8 + p.length) : one s ((recB s p).take c) = none := by
  have hl : ((recB s p).take c).length = c := by rw [List.length_take, recB_length]; omega
  unfold one
  by_cases h : c < 8
  · rw [if_pos (by omega)]
  · have h4 : ((recB s p).take c).take 4 = be 4 p.length := by
      rw [List.take_take, Nat.min_eq_left (by omega)]
      unfold recB
      rw [List.append_assoc, List.take_append_of_le_length (by rw [be_length]; exact Nat.le_refl _), List.take_of_length_le (by rw [be_length]; exact Nat.le_refl _)]
    rw [if_neg (by omega), h4, num_be, Nat.mod_eq_of_lt (by omega), if_pos (by omega)]

/-- What bytes tell: the payloads, and the last sum. -/
def recs : Nat → Nat → List UInt8 → List (List UInt8) × Nat
  | 0, s, _ => ([], s)
  | k + 1, s, b => match one s b with
    | none => ([], s)
    | some p => (p :: (recs k (sumOf s p) (b.drop (8 + p.length))).1, (recs k (sumOf s p) (b.drop (8 + p.length))).2)
/-- More rounds tell no more. -/
theorem recs_fuel : ∀ (k j s : Nat) (b : List UInt8), b.length ≤ 8 * k → b.length ≤ 8 * j → recs k s b = recs j s b
  | 0, 0, s, b, _, _ => rfl
  | 0, j + 1, s, b, h, _ => by
    have : one s b = none := by unfold one; rw [if_pos (by omega)]
    rw [recs, recs, this]
  | k + 1, 0, s, b, _, h => by
    have : one s b = none := by unfold one; rw [if_pos (by omega)]
    rw [recs, recs, this]
  | k + 1, j + 1, s, b, h1, h2 => by
    rw [recs, recs]
    cases h : one s b with
    | none => rfl
    | some p =>
      have hp := (one_some h).2.2
      simp only
      rw [recs_fuel k j (sumOf s p) (b.drop (8 + p.length)) (by rw [List.length_drop]; omega) (by rw [List.length_drop]; omega)]
/-- Of any bytes. -/
def tells (s : Nat) (b : List UInt8) : List (List UInt8) × Nat := recs b.length s b
theorem tells_none {s : Nat} {b : List UInt8} (h : one s b = none) : tells s b = ([], s) := by
  unfold tells
  cases b with
  | nil => rfl
  | cons x r => rw [List.length_cons, recs, h]
theorem tells_some {s : Nat} {b p : List UInt8} (h : one s b = some p) : tells s b = (p :: (tells (sumOf s p) (b.drop (8 + p.length))).1, (tells (sumOf s p) (b.drop (8 + p.length))).2) := by
  have hp := (one_some h).2.2
  unfold tells
  rw [recs_fuel b.length (b.length + 1) s b (by omega) (by omega), recs, h]
  simp only
  rw [recs_fuel b.length (b.drop (8 + p.length)).length _ _ (by rw [List.length_drop]; omega) (by omega)]
/-- A row of records behind a sum, and the last sum. -/
def rowB : Nat → List (List UInt8) → List UInt8
  | _, [] => []
  | s, p :: r => recB s p ++ rowB (sumOf s p) r
def rowS : Nat → List (List UInt8) → Nat
  | s, [] => s
  | s, p :: r => rowS (sumOf s p) r
def sizes (l : List (List UInt8)) : Nat := (l.map fun p => 8 + p.length).sum
theorem rowB_length : ∀ (s : Nat) (l : List (List UInt8)), (rowB s l).length = sizes l
  | _, [] => rfl
  | s, p :: r => by rw [rowB, List.length_append, recB_length, rowB_length _ r]; simp [sizes]
theorem rowB_append : ∀ (s : Nat) (l m : List (List UInt8)), rowB s (l ++ m) = rowB s l ++ rowB (rowS s l) m
  | _, [], _ => rfl
  | s, p :: r, m => by rw [List.cons_append, rowB, rowB, rowS, rowB_append _ r m, List.append_assoc]
theorem rowS_append : ∀ (s : Nat) (l m : List (List UInt8)), rowS s (l ++ m) = rowS (rowS s l) m
  | _, [], _ => rfl
  | s, p :: r, m => by rw [List.cons_append, rowS, rowS, rowS_append _ r m]
theorem rowS_lt : ∀ (s : Nat) (l : List (List UInt8)), s < 4294967296 → rowS s l < 4294967296
  | _, [], h => h
  | s, p :: r, _ => rowS_lt _ r (sumOf_lt s p)
/-- A row of records, with whatever behind it. -/
theorem tells_row : ∀ (l : List (List UInt8)) (s : Nat) (m : List UInt8), (∀ p ∈ l, p.length ≤ 16384) → tells s (rowB s l ++ m) = (l ++ (tells (rowS s l) m).1, (tells (rowS s l) m).2)
  | [], s, m, _ => rfl
  | p :: r, s, m, h => by
    have hp := h p (List.mem_cons_self ..)
    have h1 : one s (rowB s (p :: r) ++ m) = some p := by rw [rowB, List.append_assoc]; exact one_rec s p _ hp
    rw [tells_some h1]
    have hd : (rowB s (p :: r) ++ m).drop (8 + p.length) = rowB (sumOf s p) r ++ m := by
      rw [rowB, List.append_assoc, ← recB_length s p, List.drop_append_of_le_length (Nat.le_refl _), List.drop_of_length_le (Nat.le_refl _), List.nil_append]
    rw [hd, tells_row r (sumOf s p) m (fun q hq => h q (List.mem_cons_of_mem _ hq))]
    rfl
/-- What is told is a row of records that stands first. -/
theorem tells_is : ∀ (k s : Nat) (b : List UInt8), b.length ≤ 8 * k → ∃ m, b = rowB s (recs k s b).1 ++ m ∧ (recs k s b).2 = rowS s (recs k s b).1 ∧ one (recs k s b).2 m = none ∧ ∀ p ∈ (recs k s b).1, p.length ≤ 16384
  | 0, s, b, h => ⟨b, rfl, rfl, by unfold one; rw [if_pos (by omega)], fun _ h => by cases h⟩
  | k + 1, s, b, h => by
    rw [recs]
    cases h1 : one s b with
    | none => exact ⟨b, rfl, rfl, h1, fun _ h => by cases h⟩
    | some p =>
      obtain ⟨g1, g2, g3⟩ := one_some h1
      obtain ⟨m, h2, h3, h4, h5⟩ := tells_is k (sumOf s p) (b.drop (8 + p.length)) (by rw [List.length_drop]; omega)
      refine ⟨m, ?_, by simp only; rw [rowS]; exact h3, h4, fun q hq => ?_⟩
      · simp only
        rw [rowB, ← g2, List.append_assoc, ← h2, List.take_append_drop]
      · rcases List.mem_cons.1 hq with rfl | hq
        · exact g1
        · exact h5 q hq
end Go.Proofs.YtmaajihpkollcaaDoor
