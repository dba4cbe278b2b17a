/-
  WHAT IS NOT LONG IS SMALL. No statement is proved here.
-/
import Derived.Test.YtnkfkicabgajmaaGreatDoorAw
import Derived.Test.YtnkfkicabgajmaaGreatDoorLong
import Derived.Test.YtnkfkicabgajmaaGreatDoorGCmp
namespace Go.Proofs.YtnkfkicabgajmaaGreatDoor
set_option linter.unusedSimpArgs false
set_option linter.unusedVariables false
open Go Go.RowKit
theorem partsL_sm : ∀ (l : List V) (d n : Nat), partsL l d n ≤ 4000 → n ≤ 4000 ∧ ∀ x ∈ l, partsV x d ≤ 4000
  | [], d, n, h => by
    unfold partsL at h
    exact ⟨h, fun x hx => by cases hx⟩
  | v :: l, d, n, h => by
    unfold partsL at h
    by_cases hn : n < 100000
    · rw [if_pos hn] at h
      obtain ⟨h1, h2⟩ := partsL_sm l d _ h
      refine ⟨by omega, fun x hx => ?_⟩
      rcases List.mem_cons.1 hx with rfl | hx
      · omega
      · exact h2 x hx
    · rw [if_neg hn] at h
      omega
theorem kparts_mem : ∀ (l : List (List UInt8)) (s : List UInt8), s ∈ l → s.length / 100 ≤ kparts l
  | a :: l, s, h => by
    unfold kparts
    rcases List.mem_cons.1 h with rfl | h
    · omega
    · have := kparts_mem l s h
      omega
theorem sm_of_parts : ∀ (v : V) (d : Nat), partsV v d ≤ 4000 → Sm v := by
  intro v
  induction v using V.ind with
  | h k n t l ks ih =>
    intro d h
    unfold partsV at h
    by_cases hc : d < 1 ∨ 3000 < l.length ∨ 3000 < ks.length ∨ 4000 < t.length
    · rw [if_pos hc] at h
      omega
    · rw [if_neg hc] at h
      obtain ⟨h1, h2⟩ := partsL_sm l _ _ h
      refine .mk (by omega) (by omega) (by omega) (fun s hs => ?_) (fun x hx => ih x hx _ (h2 x hx))
      have := kparts_mem ks s hs
      omega
theorem sm_of_not_long {v : V} (h : decide (4000 < partsV v 20) = false) : Sm v := sm_of_parts v 20 (by simpa using h)
end Go.Proofs.YtnkfkicabgajmaaGreatDoor
