/-
  STRINGS AND THEIR ORDER; CONTRACTS of cmp.Compare at strings, and of the index's comparison.
-/
import Derived.Test.YtillifkilkjpdaaDoorMid
import Derived.Test.YtillifkilkjpdaaDoorChecked
import Derived.Deep.OwnRows
import Derived.Deep.QuietTactic
import Derived.BigQuiet
import Derived.IntWalk
namespace Go.Proofs.YtillifkilkjpdaaDoor
set_option linter.unusedSimpArgs false
set_option linter.unusedVariables false
open Go Go.RowKit

def strOf (l : List UInt8) : ByteArray := ⟨l.toArray⟩
theorem strOf_toList (l : List UInt8) : (strOf l).toList = l := by simp [strOf]
theorem strOf_of (s : ByteArray) : strOf s.data.toList = s := by
  cases s
  simp [strOf]
theorem strOf_inj {l m : List UInt8} (h : strOf l = strOf m) : l = m := by rw [← strOf_toList l, h, strOf_toList]
/-- The order of texts. -/
def kl (a b : List UInt8) : Bool := Op.bytesLess a b
theorem kl_irr : ∀ a, kl a a = false
  | [] => rfl
  | a :: l => by
    have := kl_irr l
    simp only [kl, Op.bytesLess] at this ⊢
    simp [this]
theorem kl_trans : ∀ a b c, kl a b = true → kl b c = true → kl a c = true
  | _, _, [], _, h => by cases ‹List UInt8› <;> simp [kl, Op.bytesLess] at h
  | _, [], _ :: _, h, _ => by cases ‹List UInt8› <;> simp [kl, Op.bytesLess] at h
  | [], _ :: _, _ :: _, _, _ => rfl
  | a :: x, b :: y, c :: z, h1, h2 => by
    have ih := kl_trans x y z
    simp only [kl, Op.bytesLess, Bool.or_eq_true, Bool.and_eq_true, decide_eq_true_eq, beq_iff_eq] at h1 h2 ih ⊢
    rcases h1 with h1 | ⟨rfl, h1⟩
    · rcases h2 with h2 | ⟨rfl, h2⟩
      · exact .inl (UInt8.lt_trans h1 h2)
      · exact .inl h1
    · rcases h2 with h2 | ⟨rfl, h2⟩
      · exact .inl h2
      · exact .inr ⟨rfl, ih h1 h2⟩
theorem kl_tot : ∀ a b, kl a b = false → kl b a = false → a = b
  | [], [], _, _ => rfl
  | [], _ :: _, h, _ => by simp [kl, Op.bytesLess] at h
  | _ :: _, [], _, h => by simp [kl, Op.bytesLess] at h
  | a :: x, b :: y, h1, h2 => by
    have ih := kl_tot x y
    simp only [kl, Op.bytesLess, Bool.or_eq_false_iff, Bool.and_eq_false_iff, decide_eq_false_iff_not] at h1 h2 ih
    have e : a = b := UInt8.le_antisymm (UInt8.not_lt.1 h2.1) (UInt8.not_lt.1 h1.1)
    subst e
    rcases h1.2 with h | h
    · simp at h
    · rcases h2.2 with h' | h'
      · simp at h'
      · rw [ih h h']
theorem kl_asym {a b : List UInt8} (h : kl a b = true) : kl b a = false := by
  cases hb : kl b a with
  | false => rfl
  | true => have := kl_trans a b a h hb; rw [kl_irr] at this; cases this
theorem kl_ne {a b : List UInt8} (h : kl a b = true) : a ≠ b := fun e => by rw [e, kl_irr] at h; cases h
/-- a is not behind b. -/
theorem kl_le_trans {a b c : List UInt8} (h1 : kl b a = false) (h2 : kl c b = false) : kl c a = false := by
  cases h : kl c a with
  | false => rfl
  | true =>
    cases hab : kl a b with
    | true => have := kl_trans c a b h hab; rw [h2] at this; cases this
    | false =>
      have := kl_tot a b hab h1
      subst this
      rw [h2] at h
      cases h
def cmpK (a b : List UInt8) : Int := if kl a b then -1 else if a = b then 0 else 1

theorem cmpS_c (w : World) (a b : List UInt8) : Calls Tryd.prog 47 #[.string (strOf a), .string (strOf b)] w fun e w' => e = .returned (.int .i64 (cmpK a b)) ∧ w = w' := by
  have h1 : ((strOf a).toList != (strOf a).toList) = false := by simp
  have h2 : ((strOf b).toList != (strOf b).toList) = false := by simp
  have ha := strOf_toList a
  have hb := strOf_toList b
  have hlt : Op.bytesLess (strOf a).toList (strOf b).toList = kl a b := by rw [ha, hb]; rfl
  clear ha hb
  cases hk : kl a b with
  | true =>
    rw [hk] at hlt
    go_enter Tryd.func47, Tryd.ntmps47
    go_wp2
    go_ret
    exact ⟨by unfold cmpK; rw [if_pos hk]; rfl, rfl⟩
  | false =>
    rw [hk] at hlt
    by_cases he : a = b
    · subst he
      have heq : ((strOf a).toList == (strOf a).toList) = true := by simp
      go_enter Tryd.func47, Tryd.ntmps47
      go_wp2
      go_ret
      exact ⟨by unfold cmpK; rw [if_neg (by rw [hk]; decide), if_pos rfl]; rfl, rfl⟩
    · have heq : ((strOf a).toList == (strOf b).toList) = false := by
        rw [strOf_toList, strOf_toList]
        simpa using he
      go_enter Tryd.func47, Tryd.ntmps47
      go_wp2
      go_ret
      exact ⟨by unfold cmpK; rw [if_neg (by rw [hk]; decide), if_neg he]; rfl, rfl⟩

theorem find1_c (w : World) (k key : List UInt8) (v : Int) : Calls Tryd.prog 46 #[.agg #[.string (strOf k), .int .i64 v], .string (strOf key)] w fun e w' => e = .returned (.int .i64 (cmpK k key)) ∧ Fr (fun _ => False) w w' := by
  go_enter Tryd.func46, Tryd.ntmps46
  go_wp2_with fail
  refine (cmpS_c _ k key).mono ?_
  rintro e w' ⟨rfl, rfl⟩
  go_wp2_with fail
  go_ret
  exact ⟨rfl, (Fr.refl _ w).alloc _⟩
end Go.Proofs.YtillifkilkjpdaaDoor
