/-
  PLAIN: rows of records that are cut, out of which one is taken, into which one is put. No program is named here.
-/
import Derived.Test.YtmaajihpkollcaaDoorFrameP
namespace Go.Proofs.YtmaajihpkollcaaDoor
set_option linter.unusedSimpArgs false
set_option linter.unusedVariables false
open Go

theorem sizes_cons (p : List UInt8) (r : List (List UInt8)) : sizes (p :: r) = 8 + p.length + sizes r := by simp [sizes]
theorem sizes_append (l m : List (List UInt8)) : sizes (l ++ m) = sizes l + sizes m := by simp [sizes]
/-- However a row of records is cut. -/
theorem cut_row : ∀ (l : List (List UInt8)) (s k w : Nat), (∀ p ∈ l, p.length ≤ 16384) → w ≤ l.length → sizes (l.take w) ≤ k → (w < l.length → k < sizes (l.take (w + 1))) →
    ∃ m, (rowB s l).take k = rowB s (l.take w) ++ m ∧ one (rowS s (l.take w)) m = none
  | [], s, k, w, _, _, _, _ => ⟨[], by simp [rowB], by unfold one; simp⟩
  | p :: r, s, k, 0, h, _, _, h2 => by
    have hk := h2 (by simp)
    rw [List.take_succ_cons, List.take_zero, sizes_cons] at hk
    simp only [sizes, List.map_nil, List.sum_nil] at hk
    refine ⟨(rowB s (p :: r)).take k, rfl, ?_⟩
    rw [rowB, List.take_append_of_le_length (by rw [recB_length]; omega)]
    exact one_cut s p k (h p (List.mem_cons_self ..)) (by omega)
  | p :: r, s, k, w + 1, h, hw, h1, h2 => by
    rw [List.take_succ_cons, sizes_cons] at h1
    obtain ⟨m, e, hn⟩ := cut_row r (sumOf s p) (k - (8 + p.length)) w (fun q hq => h q (List.mem_cons_of_mem _ hq)) (by simpa using hw) (by omega) (fun hlt => by
      have := h2 (by simp; omega)
      rw [List.take_succ_cons, sizes_cons] at this
      omega)
    refine ⟨m, ?_, by rw [List.take_succ_cons, rowS]; exact hn⟩
    rw [List.take_succ_cons, rowB, rowB, List.append_assoc, ← e, List.take_append, recB_length, List.take_of_length_le (by rw [recB_length]; omega)]
theorem tells_cut (l : List (List UInt8)) (s k w : Nat) (h : ∀ p ∈ l, p.length ≤ 16384) (hw : w ≤ l.length) (h1 : sizes (l.take w) ≤ k) (h2 : w < l.length → k < sizes (l.take (w + 1))) :
    tells s ((rowB s l).take k) = (l.take w, rowS s (l.take w)) ∧ ∀ more, ∃ x y, tells s ((rowB s l).take k ++ more) = (l.take w ++ x, y) := by
  obtain ⟨m, e, hn⟩ := cut_row l s k w h hw h1 h2
  have ht : ∀ p ∈ l.take w, p.length ≤ 16384 := fun p hp => h p (List.mem_of_mem_take hp)
  constructor
  · rw [e, tells_row _ _ _ ht, tells_none hn, List.append_nil]
  · intro more
    rw [e, List.append_assoc, tells_row _ _ _ ht]
    exact ⟨_, _, rfl⟩
/-- A record of another sum behind a row. -/
theorem tells_other (l : List (List UInt8)) (p m : List UInt8) (s t : Nat) (h : ∀ q ∈ l, q.length ≤ 16384) (hp : p.length ≤ 16384) (hs : s < 4294967296) (ht : t < 4294967296) (hne : rowS s l ≠ t) :
    tells s (rowB s l ++ (recB t p ++ m)) = (l, rowS s l) := by
  rw [tells_row _ _ _ h, tells_none (one_other _ _ _ _ hp (rowS_lt _ _ hs) ht hne), List.append_nil]
/-- .. of its own sum. -/
theorem tells_again (l : List (List UInt8)) (p m : List UInt8) (s : Nat) (h : ∀ q ∈ l, q.length ≤ 16384) (hp : p.length ≤ 16384) :
    ∃ x y, tells s (rowB s l ++ (recB (rowS s l) p ++ m)) = (l ++ p :: x, y) := by
  rw [tells_row _ _ _ h, tells_some (one_rec _ _ _ hp)]
  exact ⟨_, _, rfl⟩
end Go.Proofs.YtmaajihpkollcaaDoor
