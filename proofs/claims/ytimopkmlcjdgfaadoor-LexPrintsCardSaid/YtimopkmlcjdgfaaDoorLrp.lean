/-
  WHAT IS WRITTEN: strings.ReplaceAll of one byte, plain; strings.ReplaceAll, strings.Join at this seat; the contract of written.
-/
import Derived.Test.YtimopkmlcjdgfaaDoorLsm
import Derived.Shelf.Strings.SplitShaped
import Derived.Shelf.Strings.OnBuilder
import Derived.Lib.ReplaceLaws
import Derived.Lib.CountLaws
import Derived.Lib.JoinLaws
namespace Go.Proofs.YtimopkmlcjdgfaaDoor
set_option linter.unusedSimpArgs false
set_option linter.unusedVariables false
open Go Go.RowKit Go.Shelf

def rep1 (c : UInt8) (new : List UInt8) (s : List UInt8) : List UInt8 := s.flatMap fun b => if b == c then new else [b]
theorem rep1_app (c : UInt8) (new a b : List UInt8) : rep1 c new (a ++ b) = rep1 c new a ++ rep1 c new b := by simp [rep1]
theorem rep1_no {c : UInt8} {new : List UInt8} : ∀ {s : List UInt8}, c ∉ s → rep1 c new s = s
  | [], _ => rfl
  | b :: s, h => by
    have hb : (b == c) = false := by
      simp only [List.mem_cons, not_or] at h
      simpa using fun e => h.1 e.symm
    show (if b == c then new else [b]) ++ rep1 c new s = b :: s
    rw [hb, rep1_no (fun e => h (List.mem_cons_of_mem _ e))]
    rfl
theorem ix1 {c : UInt8} : ∀ (s : List UInt8), (Lib.index s [c] = -1 → c ∉ s) ∧ ∀ i : Nat, Lib.index s [c] = (i : Int) → c ∉ s.take i ∧ s.drop i = c :: s.drop (i + 1)
  | [] => ⟨fun _ => by simp, fun i h => by simp [Lib.index] at h⟩
  | b :: s => by
    obtain ⟨h1, h2⟩ := ix1 (c := c) s
    have hge := Lib.index_ge s [c]
    unfold Lib.index
    by_cases hb : c = b
    · subst hb
      have hp : [c].isPrefixOf (c :: s) = true := by simp [List.isPrefixOf]
      rw [hp]
      refine ⟨fun h => by simp at h, fun i h => ?_⟩
      simp at h
      have : i = 0 := by omega
      subst this
      simp
    · have hp : [c].isPrefixOf (b :: s) = false := by simp [List.isPrefixOf, hb]
      rw [hp]
      simp only [Bool.false_eq_true, if_false]
      by_cases hm : Lib.index s [c] = -1
      · refine ⟨fun _ => ?_, fun i h => ?_⟩
        · simp only [List.mem_cons, not_or]
          exact ⟨hb, h1 hm⟩
        · simp [hm] at h
      · have hm' : (Lib.index s [c] == -1) = false := by simpa using hm
        rw [hm']
        simp only [Bool.false_eq_true, if_false]
        refine ⟨fun h => by omega, fun i h => ?_⟩
        obtain ⟨m, hm2⟩ : ∃ m : Nat, Lib.index s [c] = (m : Int) := ⟨(Lib.index s [c]).toNat, by omega⟩
        obtain ⟨h3, h4⟩ := h2 m hm2
        have : i = m + 1 := by omega
        subst this
        refine ⟨?_, ?_⟩
        · rw [List.take_succ_cons]
          simp only [List.mem_cons, not_or]
          exact ⟨hb, h3⟩
        · rw [List.drop_succ_cons, List.drop_succ_cons]
          exact h4
theorem repK {c : UInt8} {new : List UInt8} : ∀ (k : Nat) (s : List UInt8), Lib.count s [c] ≤ k → Lib.replaceK [c] new k s = rep1 c new s := by
  intro k
  induction k with
  | zero =>
    intro s h
    rw [Lib.replaceK]
    have hge := Lib.index_ge s [c]
    by_cases hm : Lib.index s [c] = -1
    · exact (rep1_no ((ix1 s).1 hm)).symm
    · obtain ⟨m, hm2⟩ : ∃ m : Nat, Lib.index s [c] = (m : Int) := ⟨(Lib.index s [c]).toNat, by omega⟩
      have := Lib.count_hit (by simp) hm2
      omega
  | succ k ih =>
    intro s h
    have hge := Lib.index_ge s [c]
    by_cases hm : Lib.index s [c] = -1
    · rw [Lib.replaceK, if_pos (by simpa using hm)]
      exact (rep1_no ((ix1 s).1 hm)).symm
    · obtain ⟨m, hm2⟩ : ∃ m : Nat, Lib.index s [c] = (m : Int) := ⟨(Lib.index s [c]).toNat, by omega⟩
      have hc := Lib.count_hit (by simp) hm2
      obtain ⟨h3, h4⟩ := (ix1 s).2 m hm2
      rw [Lib.replaceK_hit _ _ _ _ _ hm2]
      have hl : ([c] : List UInt8).length = 1 := rfl
      rw [hl] at hc ⊢
      rw [ih _ (by omega)]
      have hd : s = s.take m ++ c :: s.drop (m + 1) := by rw [← h4, List.take_append_drop]
      conv => rhs; rw [hd, rep1_app, rep1_no h3]
      show _ = s.take m ++ ((if c == c then new else [c]) ++ rep1 c new (s.drop (m + 1)))
      simp
theorem repAll {c : UInt8} {new : List UInt8} (h : [c] ≠ new) (s : List UInt8) : Lib.replaceAll s [c] new = rep1 c new s := by
  unfold Lib.replaceAll Lib.replace Lib.replaceNum
  rw [if_neg (by simpa using h), if_pos (.inl (by decide))]
  exact repK _ s (Nat.le_refl _)
/-- A text as it stands in rules, without the quotes. -/
def esc (s : List UInt8) : List UInt8 := s.flatMap fun b => if b == 34 || b == 92 then [92, b] else [b]
theorem esc_two : ∀ s : List UInt8, rep1 34 [92, 34] (rep1 92 [92, 92] s) = esc s
  | [] => rfl
  | b :: s => by
    show rep1 34 [92, 34] ((if b == 92 then [92, 92] else [b]) ++ rep1 92 [92, 92] s) = (if b == 34 || b == 92 then [92, b] else [b]) ++ esc s
    rw [rep1_app, esc_two s]
    congr 1
    by_cases h1 : b = 92
    · subst h1; rfl
    · have h1' : (b == 92) = false := by simpa using h1
      rw [h1']
      by_cases h2 : b = 34
      · subst h2; rfl
      · have h2' : (b == 34) = false := by simpa using h2
        simp [rep1, h2', h1', h2]
theorem rep1_le (c : UInt8) (new : List UInt8) (hn : new.length = 2) : ∀ s : List UInt8, (rep1 c new s).length ≤ 2 * s.length
  | [] => Nat.le_refl _
  | b :: s => by
    have ih := rep1_le c new hn s
    show ((if b == c then new else [b]) ++ rep1 c new s).length ≤ _
    rw [List.length_append, List.length_cons]
    split
    · omega
    · simp only [List.length_cons, List.length_nil]; omega
def wrt (x : Tk) : List UInt8 := if x.k = 2 then 34 :: (esc x.t ++ [34]) else if x.k = 3 then Lib.itoa x.n else x.t
theorem x155 : Builder.Extra Tryd.prog Tryd.laysM155_ren where
  sizeBuilder := by kernel_rfl
  liesBuilder := by kernel_rfl
  t5 := Tryd.laysM155.t5
  a5 := Tryd.laysM155.a5
  z5 := Tryd.laysM155.z5
  v5 := Tryd.laysM155.v5
  infoByte := by kernel_rfl
  cellsByte := by kernel_rfl
  sizeByte := by kernel_rfl
  neB5 := by decide
theorem x156 : Builder.Extra Tryd.prog Tryd.lays156_ren where
  sizeBuilder := by kernel_rfl
  liesBuilder := by kernel_rfl
  t5 := x155.t5
  a5 := x155.a5
  z5 := x155.z5
  v5 := x155.v5
  infoByte := by kernel_rfl
  cellsByte := by kernel_rfl
  sizeByte := by kernel_rfl
  neB5 := by decide
theorem repl_c (w : World) (s : List UInt8) (c : UInt8) (new : List UInt8) (hn : new.length = 2) (hs : s.length ≤ 4000000) (hL : LaidOk w) :
    Calls Tryd.prog 49 #[.string (strOf s), .string (strOf [c]), .string (strOf new)] w fun e w' => e = .returned (.string (strOf (rep1 c new s))) ∧ Fr (fun _ => False) w w' := by
  obtain ⟨m, hm⟩ := hL.max
  have hcb := Lib.countB_mul_le (strOf [c]) (by rw [strOf_size]; exact Nat.le_refl _) _ (strOf s) (Nat.le_refl _)
  rw [strOf_size, strOf_size] at hcb
  simp only [List.length_cons, List.length_nil] at hcb
  have hne : [c] ≠ new := fun e => by rw [← e] at hn; cases hn
  refine (Any.strings_ReplaceAll { Tryd.laysM155 with } x155 (strOf s) (strOf [c]) (strOf new) m w (by rw [strOf_size]; omega) hm (by rw [strOf_size]; exact Nat.le_refl _) (by rw [strOf_size, strOf_size, hn]; omega)).mono ?_
  rintro e w' ⟨rfl, hb⟩
  refine ⟨?_, fr_below hb⟩
  rw [strOf_data, strOf_data, strOf_data, repAll hne]
  rfl
end Go.Proofs.YtimopkmlcjdgfaaDoor
