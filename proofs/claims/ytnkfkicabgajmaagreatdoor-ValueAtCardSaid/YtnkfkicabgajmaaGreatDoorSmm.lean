/-
  WHAT MAY BE IS NOT GREAT.
-/
import Derived.Test.YtnkfkicabgajmaaGreatDoorPut
namespace Go.Proofs.YtnkfkicabgajmaaGreatDoor
set_option linter.unusedSimpArgs false
set_option linter.unusedVariables false
open Go Go.RowKit

theorem psz_mem : ∀ {l : List V} {x : V}, x ∈ l → psz x ≤ pszs l
  | v :: l, x, h => by
    rw [pszs]
    rcases List.mem_cons.1 h with rfl | h
    · omega
    · have := psz_mem h
      omega
theorem sm_of_fields : ∀ v : V, fieldsV v = true → psz v ≤ 512 → Sm v := by
  intro v
  induction v using V.ind with
  | h k n t l ks ih =>
    intro hf hp
    obtain ⟨hu, -, hr, hl⟩ := fields_kids hf
    have U := uses_iff.1 hu
    unfold psz at hp
    have hkey : ∀ s ∈ ks, s.length ≤ 1000000 := fun s hs => by
      obtain ⟨j, hj, rfl⟩ := List.getElem_of_mem hs
      have := (rising_iff ks).1 hr j hj
      unfold riseAt keyOk at this
      simp only [Bool.and_eq_true, decide_eq_true_eq] at this
      have h1 := this.1.1.2
      rw [show ks.getD j [] = ks[j] by simp [hj]] at h1
      omega
    have hown : ownSz k n t l.length ks ≤ 512 := by omega
    have htl : t.length ≤ 1000000 := by
      by_cases h4 : k = 4
      · subst h4
        unfold ownSz at hown
        simp at hown
        omega
      · rw [U.txt h4]; exact Nat.zero_le _
    have hll : l.length ≤ 1000000 := by
      by_cases h5 : k < 5
      · rw [U.lst h5]; exact Nat.zero_le _
      · have h56 : k = 5 ∨ k = 6 := by have := U.k6; omega
        have e : ownSz k n t l.length ks = 2 + (l.length - 1) + ksz ks := by
          unfold ownSz
          rw [if_neg (by omega), if_neg (by omega), if_neg (by omega), if_pos h56]
        omega
    have hkl : ks.length ≤ 1000000 := by
      by_cases h6 : k = 6
      · rw [U.obj h6]; exact hll
      · rw [U.key h6]; exact Nat.zero_le _
    exact .mk htl hll hkl hkey (fun x hx => ih x hx (fieldss_mem hl x hx) (by have := psz_mem hx; omega))
theorem sm_of_may {v : V} (h : mayV v = true) : Sm v := by
  unfold mayV at h
  simp only [Bool.and_eq_true, decide_eq_true_eq] at h
  exact sm_of_fields v h.1.2 h.2
end Go.Proofs.YtnkfkicabgajmaaGreatDoor
