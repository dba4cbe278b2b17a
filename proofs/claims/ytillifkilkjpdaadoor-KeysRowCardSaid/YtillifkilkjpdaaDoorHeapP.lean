/-
  HEAPS AS FUNCTIONS: what up and down keep. No program is named here.
-/
import Derived.Test.YtillifkilkjpdaaDoorHp
namespace Go.Proofs.YtillifkilkjpdaaDoor
set_option linter.unusedSimpArgs false
set_option linter.unusedVariables false
open Go Go.RowKit

theorem fless_irr (a : Frt) : fless a a = false := by
  unfold fless
  rw [kl_irr]
  simp
theorem fless_trans {a b c : Frt} (h1 : fless a b = true) (h2 : fless b c = true) : fless a c = true := by
  unfold fless at *
  simp only [Bool.or_eq_true, Bool.and_eq_true, decide_eq_true_eq] at *
  rcases h1 with h1 | ⟨e1, p1⟩
  · rcases h2 with h2 | ⟨e2, p2⟩
    · exact .inl (kl_trans _ _ _ h1 h2)
    · exact .inl (e2 ▸ h1)
  · rcases h2 with h2 | ⟨e2, p2⟩
    · exact .inl (e1 ▸ h2)
    · exact .inr ⟨e1.trans e2, by omega⟩
theorem fless_asym {a b : Frt} (h : fless a b = true) : fless b a = false := by
  cases h2 : fless b a with
  | false => rfl
  | true => have := fless_trans h h2; rw [fless_irr] at this; cases this
/-- What is not less than what is not less is not less. -/
theorem fless_neg {a b c : Frt} (h1 : fless a b = false) (h2 : fless b c = false) : fless a c = false := by
  cases h : fless a c with
  | false => rfl
  | true =>
    unfold fless at *
    simp only [Bool.or_eq_true, Bool.and_eq_true, decide_eq_true_eq, Bool.or_eq_false_iff, Bool.and_eq_false_iff, decide_eq_false_iff_not] at *
    obtain ⟨k1, q1⟩ := h1
    obtain ⟨k2, q2⟩ := h2
    have hca : kl (fkey a) (fkey c) = false := kl_le_trans (a := fkey c) (b := fkey b) (c := fkey a) k2 k1
    rcases h with h | ⟨e, p⟩
    · rw [hca] at h; cases h
    · rw [e] at k1 q1
      have hbc : fkey b = fkey c := kl_tot _ _ k2 k1
      rcases q1 with q1 | q1
      · exact absurd hbc.symm q1
      · rcases q2 with q2 | q2
        · exact absurd hbc q2
        · omega

/-- The parent. -/
def par (k : Nat) : Nat := (k - 1) / 2
def Heap (g : Nat → Frt) (n : Nat) : Prop := ∀ k, 0 < k → k < n → fless (g k) (g (par k)) = false
def UpI (g : Nat → Frt) (n j : Nat) : Prop := (∀ k, 0 < k → k < n → k ≠ j → fless (g k) (g (par k)) = false) ∧ (∀ k, 0 < k → k < n → par k = j → 0 < j → fless (g k) (g (par j)) = false)
def DownI (g : Nat → Frt) (n i : Nat) : Prop := (∀ k, 0 < k → k < n → par k ≠ i → fless (g k) (g (par k)) = false) ∧ (∀ k, 0 < k → k < n → par k = i → 0 < i → fless (g k) (g (par i)) = false)
def swp (g : Nat → Frt) (i j : Nat) : Nat → Frt := fun k => if k = j then g i else if k = i then g j else g k
theorem swp_i (g : Nat → Frt) (i j : Nat) : swp g i j i = g j := by unfold swp; split <;> simp_all
theorem swp_j (g : Nat → Frt) (i j : Nat) : swp g i j j = g i := by unfold swp; rw [if_pos rfl]
theorem swp_o (g : Nat → Frt) {i j k : Nat} (h1 : k ≠ i) (h2 : k ≠ j) : swp g i j k = g k := by unfold swp; rw [if_neg h2, if_neg h1]
theorem par_lt {k : Nat} (h : 0 < k) : par k < k := by unfold par; omega

theorem up_zero {g : Nat → Frt} {n : Nat} (h : UpI g n 0) : Heap g n := fun k h0 hn => h.1 k h0 hn (by omega)
theorem up_stop {g : Nat → Frt} {n j : Nat} (h : UpI g n j) (hl : fless (g j) (g (par j)) = false) : Heap g n := fun k h0 hn => by
  by_cases e : k = j
  · subst e; exact hl
  · exact h.1 k h0 hn e
theorem up_step {g : Nat → Frt} {n j : Nat} (h : UpI g n j) (hj : 0 < j) (hn : j < n) (hl : fless (g j) (g (par j)) = true) : UpI (swp g (par j) j) n (par j) := by
  have hp := par_lt hj
  constructor
  · intro k h0 hk hne
    by_cases e : k = j
    · subst e
      rw [swp_j, swp_i]
      exact fless_asym hl
    · rw [swp_o g hne e]
      have hkp := par_lt h0
      by_cases e2 : par k = j
      · rw [e2, swp_j]
        exact h.2 k h0 hk e2 hj
      · by_cases e3 : par k = par j
        · rw [e3, swp_i]
          have h1 := h.1 k h0 hk e
          rw [e3] at h1
          cases h4 : fless (g k) (g j) with
          | false => rfl
          | true => have := fless_trans h4 hl; rw [h1] at this; cases this
        · rw [swp_o g e3 e2]
          exact h.1 k h0 hk e
  · intro k h0 hk hpk hpj
    have hpp := par_lt hpj
    rw [swp_o g (k := par (par j)) (by omega) (by omega)]
    by_cases e : k = j
    · subst e
      rw [swp_j]
      exact h.1 _ hpj (by omega) (by omega)
    · have hkp := par_lt h0
      rw [swp_o g (by omega) e]
      have h1 := h.1 k h0 hk e
      rw [hpk] at h1
      exact fless_neg h1 (h.1 _ hpj (by omega) (by omega))

theorem down_stop {g : Nat → Frt} {n i : Nat} (h : DownI g n i) (hl : ∀ k, 0 < k → k < n → par k = i → fless (g k) (g i) = false) : Heap g n := fun k h0 hn => by
  by_cases e : par k = i
  · rw [e]; exact hl k h0 hn e
  · exact h.1 k h0 hn e
theorem down_step {g : Nat → Frt} {n i j : Nat} (h : DownI g n i) (hj : 0 < j) (hn : j < n) (hp : par j = i) (hl : fless (g j) (g i) = true) (ho : ∀ k, 0 < k → k < n → par k = i → fless (g k) (g j) = false) : DownI (swp g i j) n j := by
  have hij := par_lt hj
  rw [hp] at hij
  constructor
  · intro k h0 hk hne
    have hkp := par_lt h0
    by_cases e : k = j
    · subst e
      rw [hp, swp_j, swp_i]
      exact fless_asym hl
    · by_cases e2 : par k = i
      · rw [e2, swp_i, swp_o g (by omega) e]
        exact ho k h0 hk e2
      · by_cases e3 : k = i
        · subst e3
          rw [swp_i, swp_o g (by omega) hne]
          exact h.2 j hj hn hp h0
        · rw [swp_o g e3 e, swp_o g e2 hne]
          exact h.1 k h0 hk e2
  · intro k h0 hk hpk _
    have hkp := par_lt h0
    rw [hp, swp_i, swp_o g (by omega) (by omega)]
    have := h.1 k h0 hk (by omega)
    rw [hpk] at this
    exact this
/-- The root is the least. -/
theorem heap_root {g : Nat → Frt} {n : Nat} (h : Heap g n) : ∀ k, k < n → fless (g k) (g 0) = false := by
  intro k
  induction k using Nat.strongRecOn with
  | _ k ih =>
    intro hk
    rcases Nat.eq_zero_or_pos k with h0 | h0
    · subst h0; exact fless_irr _
    · exact fless_neg (h k h0 hk) (ih (par k) (par_lt h0) (by have := par_lt h0; omega))
end Go.Proofs.YtillifkilkjpdaaDoor
