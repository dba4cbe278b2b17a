/-
  CONTRACT of the reference's Print: every value of good fields.
-/
import Derived.Test.YtnkfkicabgajmaaGreatDoorRpr
import Derived.Test.YtnkfkicabgajmaaGreatDoorSm
import Derived.Lib.ItoaLen
namespace Go.Proofs.YtnkfkicabgajmaaGreatDoor
set_option linter.unusedSimpArgs false
set_option linter.unusedVariables false
open Go Go.RowKit
theorem rprint_c : ∀ (v : V), fieldsV v = true → (prV v).length ≤ 1000000000 → Sm v → ∀ (w : World) (D : Nat → Prop) (C : Array Value), RdV D w C v → Calls Tryz.prog 32 #[.agg C] w fun e w' => e = .returned (.string (strOf (prV v))) ∧ Fr (fun _ => False) w w' := by
  intro v
  induction v using V.ind with
  | h k n t l ks ih =>
    intro hf hB hs w D C h
    obtain ⟨k1, n1, t1, l1, ks1, Al, cl, Ak, ck, css, e, rfl, hp⟩ := h.inv
    injection e with e1 e2 e3 e4 e5
    subst e1 e2 e3 e4 e5
    obtain ⟨hu, -, -, hfs⟩ := fields_kids hf
    rw [uses_iff] at hu
    have hk : k = 0 ∨ k = 1 ∨ k = 2 ∨ k = 3 ∨ k = 4 ∨ k = 5 ∨ k = 6 := by have := hu.k0; have := hu.k6; omega
    have IH : RpIH D l := fun x hx h1 h2 h3 W C hC => ih x hx h1 h2 h3 W D C hC
    rcases hk with rfl | rfl | rfl | rfl | rfl | rfl | rfl
    · obtain rfl := hu.num (by decide)
      obtain rfl := hu.txt (by decide)
      exact rpr0 (n := 0) (t := []) w hp
    · obtain rfl := hu.num (by decide)
      obtain rfl := hu.txt (by decide)
      exact rpr1 (n := 0) (t := []) w hp
    · obtain rfl := hu.num (by decide)
      obtain rfl := hu.txt (by decide)
      exact rpr2 (n := 0) (t := []) w hp
    · obtain rfl := hu.txt (by decide)
      exact rpr3 (t := []) w hp
    · obtain rfl := hu.num (by decide)
      exact rpr4 (n := 0) w hp hs.inv.tl
    · obtain rfl := hu.num (by decide)
      obtain rfl := hu.txt (by decide)
      exact rpr5 (n := 0) (t := []) w hp hB hfs hs.inv.el hs.inv.ks IH
    · obtain rfl := hu.num (by decide)
      obtain rfl := hu.txt (by decide)
      exact rpr6 (n := 0) (t := []) w hp hB hfs hs.inv.el hs.inv.ks (hu.obj rfl) IH
/-! How long its text is. -/
theorem partsL_sum : ∀ (l : List V) (d n : Nat), partsL l d n ≤ 4000 → partsL l d n = n + (l.map (partsV · d)).sum
  | [], d, n, h => by simp [partsL]
  | v :: l, d, n, h => by
    have hn : n < 100000 := by
      rcases Nat.lt_or_ge n 100000 with h1 | h1
      · exact h1
      · rw [partsL, if_neg (by omega)] at h
        omega
    rw [partsL, if_pos hn] at h ⊢
    rw [partsL_sum l d _ h, List.map_cons, List.sum_cons]
    omega
theorem prE_bd (obj : Bool) (d : Nat) : ∀ (l : List V) (ks : List (List UInt8)) (first : Bool), (obj = true → ks.length = l.length) → (∀ x ∈ l, (prV x).length + 1 ≤ 8100 * partsV x d) → (prE obj first l ks).length ≤ 8100 * (l.map (partsV · d)).sum + 8100 * kparts ks
  | [], ks, first, _, _ => by simp [prE]
  | v :: l, ks, first, hk, h => by
    have h1 := h v List.mem_cons_self
    rw [prE, List.map_cons, List.sum_cons]
    cases obj with
    | false =>
      have ih := prE_bd false d l ks.tail false (fun h => by cases h) (fun x hx => h x (List.mem_cons_of_mem _ hx))
      have hkt : kparts ks.tail ≤ kparts ks := by
        cases ks with
        | nil => exact Nat.le_refl _
        | cons a b => simp only [List.tail_cons, kparts]; omega
      simp only [List.length_append]
      have hc : ((if first then [] else [44]) : List UInt8).length ≤ 1 := by cases first <;> simp
      simp only [Bool.false_eq_true, if_false, List.length_nil]
      omega
    | true =>
      cases ks with
      | nil => exact absurd (hk rfl) (by simp)
      | cons a b =>
        have ih := prE_bd true d l b false (fun _ => by have := hk rfl; simpa using this) (fun x hx => h x (List.mem_cons_of_mem _ hx))
        have hc : ((if first then [] else [44]) : List UInt8).length ≤ 1 := by cases first <;> simp
        have hq := quoted_len a
        have hn := nesc_le a
        simp only [List.length_append, List.headD_cons, List.tail_cons, if_true, kparts, List.length_cons, List.length_nil]
        omega
theorem prV_parts : ∀ (v : V) (d : Nat), fieldsV v = true → Nums v → partsV v d ≤ 4000 → (prV v).length + 1 ≤ 8100 * partsV v d := by
  intro v
  induction v using V.ind with
  | h k n t l ks ih =>
    intro d hf hn hp
    obtain ⟨hu, -, -, hfs⟩ := fields_kids hf
    rw [uses_iff] at hu
    have hk : k = 0 ∨ k = 1 ∨ k = 2 ∨ k = 3 ∨ k = 4 ∨ k = 5 ∨ k = 6 := by have := hu.k0; have := hu.k6; omega
    cases hn with
    | mk n0 n1 hnl =>
      by_cases hc : d < 1 ∨ 3000 < l.length ∨ 3000 < ks.length ∨ 4000 < t.length
      · rw [partsV_early hc] at hp
        omega
      · rw [partsV_late hc] at hp ⊢
        have hel := (partsL_sm l _ _ hp).2
        rw [partsL_sum l _ _ hp]
        have hx : ∀ x ∈ l, (prV x).length + 1 ≤ 8100 * partsV x (d - 1) := fun x hx => ih x hx _ (fieldss_mem hfs x hx) (hnl x hx) (hel x hx)
        rcases hk with rfl | rfl | rfl | rfl | rfl | rfl | rfl
        · have : prV (.mk 0 n t l ks) = tNull := by rw [prV]; rfl
          rw [this]
          have : tNull.length = 4 := rfl
          omega
        · have : prV (.mk 1 n t l ks) = tFalse := by rw [prV]; rfl
          rw [this]
          have : tFalse.length = 5 := rfl
          omega
        · have : prV (.mk 2 n t l ks) = tTrue := by rw [prV]; rfl
          rw [this]
          have : tTrue.length = 4 := rfl
          omega
        · have : prV (.mk 3 n t l ks) = decI n := by rw [prV]; rfl
          rw [this]
          have : (decI n).length ≤ 21 := Lib.itoa_length_le n n0 n1
          omega
        · have : prV (.mk 4 n t l ks) = quoted t := by rw [prV]; rfl
          rw [this]
          have h1 := quoted_len t
          have h2 := nesc_le t
          omega
        · have : prV (.mk 5 n t l ks) = 91 :: (prE false true l ks ++ [93]) := by rw [prV]; rfl
          rw [this]
          have h1 := prE_bd false (d - 1) l ks true (fun h => by cases h) hx
          simp only [List.length_cons, List.length_append, List.length_nil]
          omega
        · have : prV (.mk 6 n t l ks) = 123 :: (prE true true l ks ++ [125]) := by rw [prV]; rfl
          rw [this]
          have h1 := prE_bd true (d - 1) l ks true (fun _ => hu.obj rfl) hx
          simp only [List.length_cons, List.length_append, List.length_nil]
          omega
theorem prV_not_long {v : V} (hf : fieldsV v = true) (hn : Nums v) (h : decide (4000 < partsV v 20) = false) : (prV v).length ≤ 1000000000 := by
  have hp : partsV v 20 ≤ 4000 := by simpa using h
  have := prV_parts v 20 hf hn hp
  omega
end Go.Proofs.YtnkfkicabgajmaaGreatDoor
