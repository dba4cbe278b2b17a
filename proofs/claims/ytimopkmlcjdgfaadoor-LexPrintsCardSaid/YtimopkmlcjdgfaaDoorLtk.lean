/-
  WHAT THE FOUR READERS MAKE, AGAINST THE TOKEN THAT BEGINS HERE. No program is walked here.
-/
import Derived.Test.YtimopkmlcjdgfaaDoorLma
import Derived.Test.YtimopkmlcjdgfaaDoorLnu
import Derived.Test.YtimopkmlcjdgfaaDoorLtx
import Derived.Test.YtimopkmlcjdgfaaDoorLre
namespace Go.Proofs.YtimopkmlcjdgfaaDoor
set_option linter.unusedSimpArgs false
set_option linter.unusedVariables false
open Go Go.RowKit

/-- A reader's answer, as one fact. -/
def TokIs (c : UInt8) (r : List UInt8) (k : Int) (t : List UInt8) (n : Int) (m : Nat) (ok : Bool) : Prop := ∀ a : Int, 0 ≤ a → tok (c :: r) = if ok && mayT k t n a then some (k, t, n, m) else none
theorem mayT_1 {t : List UInt8} {a : Int} (ha : 0 ≤ a) : mayT 1 t 0 a = wordT t := by unfold mayT; rw [if_neg (by omega), if_neg (by simp)]; rfl
theorem mayT_2 {t : List UInt8} {a : Int} (ha : 0 ≤ a) : mayT 2 t 0 a = (decide (t.length ≤ 64) && t.all plB) := by unfold mayT; rw [if_neg (by omega), if_neg (by simp)]; rfl
theorem mayT_3 {n a : Int} (ha : 0 ≤ a) : mayT 3 [] n a = true := by unfold mayT; rw [if_neg (by omega), if_neg (by simp)]; rfl
theorem mayT_4 {t : List UInt8} {a : Int} (ha : 0 ≤ a) : mayT 4 t 0 a = marksL.contains t := by unfold mayT; rw [if_neg (by omega), if_neg (by simp)]; rfl
theorem tok_word {c : UInt8} {r : List UInt8} (h : ltr c = true) : TokIs c r 1 ((c :: r).take (1 + wEnd r)) 0 (1 + wEnd r) (endOk (r.drop (wEnd r))) := by
  intro a ha
  rw [tok_c, if_pos h, mayT_1 ha]
  have e1 : (c :: r).take (1 + wEnd r) = c :: r.take (wEnd r) := by rw [Nat.add_comm, List.take_succ_cons]
  have hl : (r.take (wEnd r)).length = wEnd r := by rw [List.length_take]; have := wEnd_le r; omega
  have e2 : wEnd (r.take (wEnd r)) = wEnd r := by
    have := wEnd_cut (r.drop (wEnd r)) (r.take (wEnd r)) (by rw [List.take_append_drop, hl]; exact Nat.le_refl _)
    rw [this, List.take_append_drop]
  rw [e1]
  have e3 : wordT (c :: r.take (wEnd r)) = decide (wEnd r < 64) := by
    show (ltr c && decide ((r.take (wEnd r)).length + 1 ≤ 64) && decide (1 + wEnd (r.take (wEnd r)) = (r.take (wEnd r)).length + 1)) = _
    rw [h, e2, hl]
    rw [Bool.eq_iff_iff]
    simp
    omega
  rw [e3]
theorem takeW_take (r : List UInt8) : r.take (r.takeWhile dgt).length = r.takeWhile dgt := by
  induction r with
  | nil => rfl
  | cons b r ih =>
    cases hb : dgt b with
    | true => rw [takeW_step hb, List.length_cons, List.take_succ_cons, ih]
    | false => rw [takeW_stop hb]; rfl
theorem tok_num {c : UInt8} {r : List UInt8} {v : Int} (h : ltr c = false) (h2 : (dgt c || c == 45) = true)
    (hv : ∀ x, numOk ((c :: r).take (1 + (r.takeWhile dgt).length)) (r.drop (r.takeWhile dgt).length) = some x → v = x) :
    TokIs c r 3 [] v (1 + (r.takeWhile dgt).length) (numOk ((c :: r).take (1 + (r.takeWhile dgt).length)) (r.drop (r.takeWhile dgt).length)).isSome := by
  intro a ha
  have e1 : (c :: r).take (1 + (r.takeWhile dgt).length) = c :: r.takeWhile dgt := by rw [Nat.add_comm, List.take_succ_cons, takeW_take]
  rw [e1] at hv ⊢
  rw [tok_c, if_neg (by rw [h]; decide), if_pos h2, mayT_3 ha]
  unfold numOk at hv ⊢
  cases hp : Lib.parseIntB 64 (c :: r.takeWhile dgt) with
  | ok x =>
    rw [hp] at hv
    dsimp only at hv ⊢
    rcases Bool.eq_false_or_eq_true (Lib.itoa x == c :: r.takeWhile dgt && endOk (r.drop (r.takeWhile dgt).length)) with hB | hB
    · have := hv x (if_pos hB)
      subst this
      simp only [hB, if_true, Option.isSome, Bool.true_and]
    · simp only [hB, Option.isSome, Bool.false_and, Bool.false_eq_true, if_false]
  | _ => rfl
theorem tok_txt {c : UInt8} {r : List UInt8} (h : c = 34) : TokIs c r (match txt r with | some _ => 2 | none => 0) (match txt r with | some q => q.1 | none => []) 0 (match txt r with | some q => q.2 + 1 | none => 0) (txt r).isSome := by
  intro a ha
  subst h
  rw [tok_c, if_neg (by decide), if_neg (by decide), if_pos (by decide)]
  cases txt r with
  | none => rfl
  | some q =>
    dsimp only
    rw [mayT_2 ha]
    rfl
theorem tok_mark {c : UInt8} {r : List UInt8} (h : ltr c = false) (h2 : (dgt c || c == 45) = false) (h3 : c ≠ 34) : TokIs c r 4 ((c :: r).take (if [33, 61].isPrefixOf (c :: r) then 2 else 1)) 0 (if [33, 61].isPrefixOf (c :: r) then 2 else 1) true := by
  intro a ha
  rw [tok_c, if_neg (by rw [h]; decide), if_neg (by rw [h2]; decide), if_neg (by simpa using h3), mayT_4 ha]
  cases r with
  | nil =>
    have e : [33, 61].isPrefixOf [c] = false := by simp [List.isPrefixOf]
    rw [e]
    simp
  | cons d r =>
    by_cases hp : c = 33 ∧ d = 61
    · obtain ⟨rfl, rfl⟩ := hp
      rfl
    · have e : [33, 61].isPrefixOf (c :: d :: r) = false := by
        cases hq : [33, 61].isPrefixOf (c :: d :: r) with
        | false => rfl
        | true =>
          exfalso
          simp [List.isPrefixOf] at hq
          exact hp ⟨hq.1.symm, hq.2.symm⟩
      have e2 : ¬ (c == 33 && (d :: r).head? == some 61) = true := by
        intro h
        simp at h
        exact hp h
      rw [e, if_neg e2]
      simp
theorem skp_idem : ∀ (b : Bool) (s : List UInt8), skp false (skp b s) = skp b s := by
  intro b s
  induction s generalizing b with
  | nil => cases b <;> rfl
  | cons x s ih =>
    cases b with
    | true =>
      rw [show skp true (x :: s) = if x == 10 then skp false s else skp true s from by conv => lhs; unfold skp]
      split
      · exact ih false
      · exact ih true
    | false =>
      rw [show skp false (x :: s) = if gapB x then skp false s else if x == 35 then skp true s else x :: s from by conv => lhs; unfold skp]
      split
      · exact ih false
      · split
        · exact ih true
        · rename_i h1 h2
          rw [show skp false (x :: s) = if gapB x then skp false s else if x == 35 then skp true s else x :: s from by conv => lhs; unfold skp]
          rw [if_neg h1, if_neg h2]
theorem lex_skp (L f : Nat) (s : List UInt8) : lexL L (f + 1) (skp false s) = lexL L (f + 1) s := by
  conv => lhs; unfold lexL
  rw [skp_idem]
  conv => rhs; unfold lexL
theorem lex_nil (L f : Nat) : lexL L (f + 1) [] = .inl [] := by unfold lexL; rfl
def tkc (x : Tk) : List Value := (tcs x.k x.t x.n x.a).toList
def flatT (l : List Tk) : List Value := l.flatMap tkc
theorem flatT_app (a b : List Tk) : flatT (a ++ b) = flatT a ++ flatT b := by simp [flatT]
theorem flatT_len : ∀ l : List Tk, (flatT l).length = l.length * 4
  | [] => rfl
  | x :: l => by
    rw [flatT, List.flatMap_cons, List.length_append, List.length_cons, Nat.add_mul]
    have := flatT_len l
    unfold flatT at this
    rw [this]
    show 4 + _ = _
    omega
theorem lex_bound (L : Nat) : ∀ (f : Nat) (s : List UInt8) (l : List Tk), lexL L f s = .inl l → l.length ≤ s.length
  | 0, s, l, h => by
    have h' : (Sum.inl [] : List Tk ⊕ Nat) = .inl l := h
    injection h' with h'
    rw [← h']; exact Nat.zero_le _
  | f + 1, s, l, h => by
    have hl := skp_len false s
    unfold lexL at h
    cases hs : skp false s with
    | nil => rw [hs] at h; injection h with h; subst h; exact Nat.zero_le _
    | cons c r =>
      rw [hs] at h hl
      dsimp only at h
      cases ht : tok (c :: r) with
      | none => rw [ht] at h; cases h
      | some q =>
        rw [ht] at h
        dsimp only at h
        have hm := tok_le ht
        cases hr : lexL L f ((c :: r).drop q.2.2.2) with
        | inr e => rw [hr] at h; cases h
        | inl l2 =>
          rw [hr] at h
          dsimp only at h
          injection h with h
          subst h
          have := lex_bound L f _ l2 hr
          rw [List.length_drop] at this
          simp only [List.length_cons] at *
          omega
theorem join_inl (a b : List Tk) (x : List Tk ⊕ Nat) : joinR (.inl a) (joinR (.inl b) x) = joinR (.inl (a ++ b)) x := by
  cases x with
  | inl m => simp [joinR]
  | inr e => rfl
theorem join_nil (x : List Tk ⊕ Nat) : joinR (.inl []) x = x := by cases x <;> rfl
theorem lex_at {s : List UInt8} {j : Nat} (hj : j < s.length) (hs : s.drop j = skp false (s.drop j)) : lexL s.length (s.length + 1) (s.drop j) = match tok (s.drop j) with
    | none => .inr j
    | some q => joinR (.inl [⟨q.1, q.2.1, q.2.2.1, (j : Nat)⟩]) (lexL s.length (s.length + 1) (s.drop (j + q.2.2.2))) := by
  have hdr := List.drop_eq_getElem_cons hj
  have hle : (s.drop j).length = s.length - j := List.length_drop
  rw [hdr] at hs hle ⊢
  rw [lex_step hs.symm (by omega)]
  have hr : s.length - ((s.drop (j + 1)).length + 1) = j := by rw [List.length_drop]; omega
  cases ht : tok (s[j] :: s.drop (j + 1)) with
  | none => dsimp only; rw [hr]
  | some q =>
    dsimp only
    have hm := tok_le ht
    rw [← hdr, List.drop_drop]
    have hl2 : (s.drop (j + q.2.2.2)).length < s.length := by rw [List.length_drop]; omega
    rw [lex_fuel s.length s.length (s.length + 1) _ hl2 (by omega), hr]
    cases lexL s.length (s.length + 1) (s.drop (j + q.2.2.2)) <;> rfl
end Go.Proofs.YtimopkmlcjdgfaaDoor
