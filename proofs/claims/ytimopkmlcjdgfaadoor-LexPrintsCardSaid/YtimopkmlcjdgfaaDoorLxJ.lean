/-
  TWO TEXTS, a line end between: their tokens. No program is named here.
-/
import Derived.Test.YtimopkmlcjdgfaaDoorLxP
namespace Go.Proofs.YtimopkmlcjdgfaaDoor
set_option linter.unusedSimpArgs false
set_option linter.unusedVariables false
open Go

/-- A byte that no token goes over, but for one in quotes. -/
structure Sep (z : UInt8) : Prop where
  f : fol z = false
  d : dgt z = false
  p : (z == 46) = false
  e : (z == 61) = false
theorem sep_10 : Sep 10 := ⟨by decide, by decide, by decide, by decide⟩
theorem wEnd_app {z : UInt8} (h : Sep z) (t : List UInt8) : ∀ r : List UInt8, wEnd (r ++ z :: t) = wEnd r
  | [] => by
    show wEnd (z :: t) = 0
    cases t with
    | nil => unfold wEnd; rw [h.f]; rfl
    | cons c t => unfold wEnd; rw [h.f, h.p]; rfl
  | [b] => by
    show wEnd (b :: z :: t) = wEnd [b]
    unfold wEnd
    have h0 := wEnd_app h t []
    rw [show ([] : List UInt8) ++ z :: t = z :: t from rfl] at h0
    rw [h0, h.f]
    cases fol b <;> simp [wEnd]
  | b :: c :: r => by
    show wEnd (b :: c :: (r ++ z :: t)) = wEnd (b :: c :: r)
    have h1 := wEnd_app h t (c :: r)
    have h2 := wEnd_app h t r
    rw [List.cons_append] at h1
    unfold wEnd
    rw [h1, h2]
theorem endOk_app {z : UInt8} (h : Sep z) (t : List UInt8) (r : List UInt8) : endOk (r ++ z :: t) = endOk r := by
  cases r with
  | nil => simp [endOk, h.f, h.p, bne]
  | cons b r => rfl
theorem takeW_app {z : UInt8} (h : Sep z) (t : List UInt8) : ∀ r : List UInt8, (r ++ z :: t).takeWhile dgt = r.takeWhile dgt
  | [] => by simp [h.d]
  | b :: r => by
    have := takeW_app h t r
    rw [List.cons_append, List.takeWhile_cons, List.takeWhile_cons, this]
theorem txt_app : ∀ (r y : List UInt8) (q : List UInt8 × Nat), txt r = some q → txt (r ++ y) = some q
  | [], y, q, h => by simp [txt] at h
  | [b], y, q, h => by
    unfold txt at h
    split at h
    · rename_i hb
      cases y with
      | nil => show txt [b] = _; unfold txt; rw [if_pos hb]; exact h
      | cons c y => show txt (b :: c :: y) = _; unfold txt; rw [if_pos hb]; exact h
    · cases h
  | b :: c :: r, y, q, h => by
    show txt (b :: c :: (r ++ y)) = some q
    unfold txt at h ⊢
    split at h
    · rename_i hb; rw [if_pos hb]; exact h
    · rename_i hb
      rw [if_neg hb]
      split at h
      · rename_i hb2
        rw [if_pos hb2]
        split at h
        · rename_i hc
          rw [if_pos hc]
          cases hq : txt r with
          | none => rw [hq] at h; simp at h
          | some q' => rw [txt_app r y q' hq]; rw [hq] at h; exact h
        · cases h
      · rename_i hb2
        rw [if_neg hb2]
        cases hq : txt (c :: r) with
        | none => rw [hq] at h; simp at h
        | some q' =>
          have := txt_app (c :: r) y q' hq
          rw [List.cons_append] at this
          rw [this]; rw [hq] at h; exact h
/-- An open text goes on over a line end, and may not be. -/
theorem txt_open {z : UInt8} (hz : plB z = false) (h34 : (z == 34) = false) (h92 : (z == 92) = false) (t : List UInt8) : ∀ r : List UInt8, txt r = none → ∀ q, txt (r ++ z :: t) = some q → q.1.all plB = false
  | [], _, q, h => by
    have hc : ∀ x : List UInt8, txt (z :: x) = some q → q.1.all plB = false := fun x hx => by
      cases x with
      | nil => unfold txt at hx; rw [h34] at hx; cases hx
      | cons c x =>
        unfold txt at hx
        rw [h34, h92] at hx
        simp only [Bool.false_eq_true, if_false] at hx
        cases hq : txt (c :: x) with
        | none => rw [hq] at hx; simp at hx
        | some q' =>
          rw [hq] at hx
          simp at hx
          subst hx
          simp [hz]
    exact hc t h
  | [b], hn, q, h => by
    have h' : txt (b :: z :: t) = some q := h
    unfold txt at hn
    split at hn
    · cases hn
    · rename_i hb
      unfold txt at h'
      rw [if_neg hb, h34, h92] at h'
      split at h'
      · simp at h'
      · cases hq : txt (z :: t) with
        | none => rw [hq] at h'; simp at h'
        | some q' =>
          have := txt_open hz h34 h92 t [] rfl q' hq
          rw [hq] at h'
          simp at h'
          subst h'
          simp only [List.all_cons, this, Bool.and_false]
  | b :: c :: r, hn, q, h => by
    have h' : txt (b :: c :: (r ++ z :: t)) = some q := h
    unfold txt at hn h'
    split at hn
    · cases hn
    · rename_i hb
      rw [if_neg hb] at h'
      split at hn
      · rename_i hb2
        rw [if_pos hb2] at h'
        split at hn
        · rename_i hc
          rw [if_pos hc] at h'
          cases hq0 : txt r with
          | some _ => rw [hq0] at hn; simp at hn
          | none =>
            cases hq : txt (r ++ z :: t) with
            | none => rw [hq] at h'; simp at h'
            | some q' =>
              have := txt_open hz h34 h92 t r hq0 q' hq
              rw [hq] at h'
              simp at h'
              subst h'
              simp only [List.all_cons, this, Bool.and_false]
        · rename_i hc
          rw [if_neg hc] at h'
          cases h'
      · rename_i hb2
        rw [if_neg hb2] at h'
        cases hq0 : txt (c :: r) with
        | some _ => rw [hq0] at hn; simp at hn
        | none =>
          cases hq : txt (c :: (r ++ z :: t)) with
          | none => rw [hq] at h'; simp at h'
          | some q' =>
            have := txt_open hz h34 h92 t (c :: r) hq0 q' (by rw [List.cons_append]; exact hq)
            rw [hq] at h'
            simp at h'
            subst h'
            simp only [List.all_cons, this, Bool.and_false]
/-- A token, with what comes behind a line end. -/
theorem tok_nl (c : UInt8) (r t : List UInt8) : tok (c :: (r ++ 10 :: t)) = tok (c :: r) := by
  have S := sep_10
  have h1 := wEnd_le r
  rw [tok_c, tok_c, wEnd_app S, takeW_app S, List.drop_append_of_le_length h1, endOk_app S, List.take_append_of_le_length h1, List.drop_append_of_le_length (List.takeWhile_sublist (p := dgt) (l := r)).length_le, endOk_app S]
  by_cases hl : ltr c = true
  · rw [if_pos hl, if_pos hl]
  · rw [if_neg hl, if_neg hl]
    by_cases hd : (dgt c || c == 45) = true
    · rw [if_pos hd, if_pos hd]
    · rw [if_neg hd, if_neg hd]
      by_cases hq : (c == 34) = true
      · rw [if_pos hq, if_pos hq]
        cases hr : txt r with
        | some q =>
          rw [txt_app r (10 :: t) q hr]
        | none =>
          cases hr2 : txt (r ++ 10 :: t) with
          | none => rfl
          | some q =>
            have := txt_open (z := 10) (by decide) (by decide) (by decide) t r hr q hr2
            dsimp only
            rw [this]
            simp
      · rw [if_neg hq, if_neg hq]
        cases r with
        | nil => simp
        | cons d r => rfl
theorem skp_nl (t : List UInt8) : ∀ (b : Bool) (s : List UInt8), skp b (s ++ 10 :: t) = if skp b s = [] then skp false t else skp b s ++ 10 :: t
  | b, [] => by
    have e1 : skp b [] = [] := by cases b <;> rfl
    rw [e1, if_pos rfl, List.nil_append]
    cases b with
    | true =>
      have h : skp true (10 :: t) = if (10 : UInt8) == 10 then skp false t else skp true t := by conv => lhs; unfold skp
      rw [h]; rfl
    | false =>
      have h : skp false (10 :: t) = if gapB 10 then skp false t else if (10 : UInt8) == 35 then skp true t else 10 :: t := by conv => lhs; unfold skp
      rw [h]; rfl
  | true, x :: s => by
    rw [List.cons_append]
    conv => lhs; unfold skp
    rw [show skp true (x :: s) = if x == 10 then skp false s else skp true s from by conv => lhs; unfold skp]
    split
    · exact skp_nl t false s
    · exact skp_nl t true s
  | false, x :: s => by
    rw [List.cons_append]
    conv => lhs; unfold skp
    rw [show skp false (x :: s) = if gapB x then skp false s else if x == 35 then skp true s else x :: s from by conv => lhs; unfold skp]
    split
    · exact skp_nl t false s
    · split
      · exact skp_nl t true s
      · rw [if_neg (by simp)]; rfl
def shT (d : Nat) (x : Tk) : Tk := ⟨x.k, x.t, x.n, x.a + d⟩
def shR (d : Nat) : List Tk ⊕ Nat → List Tk ⊕ Nat
  | .inl l => .inl (l.map (shT d))
  | .inr e => .inr (e + d)
/-- Tokens, counted from further ahead. -/
theorem lex_shift (d L : Nat) : ∀ (f : Nat) (s : List UInt8), s.length ≤ L → lexL (L + d) f s = shR d (lexL L f s)
  | 0, s, _ => rfl
  | f + 1, s, h => by
    unfold lexL
    have hl := skp_len false s
    cases hs : skp false s with
    | nil => rfl
    | cons c r =>
      rw [hs] at hl
      simp only [List.length_cons] at hl
      dsimp only
      cases ht : tok (c :: r) with
      | none => show Sum.inr _ = Sum.inr _; congr 1; omega
      | some q =>
        dsimp only
        rw [lex_shift d L f _ (by rw [List.length_drop]; simp only [List.length_cons]; omega)]
        cases lexL L f ((c :: r).drop q.2.2.2) with
        | inl l =>
          show Sum.inl _ = Sum.inl _
          congr 1
          show _ :: _ = _ :: _
          congr 1
          show Tk.mk _ _ _ _ = Tk.mk _ _ _ _
          congr 1
          show ((L + d - (r.length + 1) : Nat) : Int) = ((L - (r.length + 1) : Nat) : Int) + (d : Int)
          omega
        | inr e => rfl
def joinR (a : List Tk ⊕ Nat) (b : List Tk ⊕ Nat) : List Tk ⊕ Nat := match a with
  | .inr e => .inr e
  | .inl l => match b with
    | .inl m => .inl (l ++ m)
    | .inr e => .inr e
theorem lex_join (L : Nat) (t : List UInt8) : ∀ (f g h : Nat) (s : List UInt8), s.length < f → s.length + 1 + t.length < g → t.length < h → s.length ≤ L →
    lexL (L + 1 + t.length) g (s ++ 10 :: t) = joinR (lexL L f s) (lexL (L + 1 + t.length) h t)
  | 0, _, _, s, hf, _, _, _ => absurd hf (Nat.not_lt_zero _)
  | f + 1, 0, _, s, _, hg, _, _ => absurd hg (Nat.not_lt_zero _)
  | f + 1, g + 1, h, s, hf, hg, hh, hL => by
    have hl := skp_len false s
    have hk := skp_nl t false s
    cases hs : skp false s with
    | nil =>
      rw [hs, if_pos rfl] at hk
      have e1 : lexL L (f + 1) s = .inl [] := by unfold lexL; rw [hs]
      rw [e1]
      have e2 : lexL (L + 1 + t.length) (g + 1) (s ++ 10 :: t) = lexL (L + 1 + t.length) (g + 1) t := by
        conv => lhs; unfold lexL
        rw [hk]
        conv => rhs; unfold lexL
      rw [e2, lex_fuel _ (g + 1) h t (by omega) hh]
      cases lexL (L + 1 + t.length) h t <;> rfl
    | cons c r =>
      rw [hs] at hl
      rw [hs, if_neg (by simp)] at hk
      simp only [List.length_cons] at hl
      rw [lex_step hs hf, lex_step (r := r ++ 10 :: t) (by rw [hk]; rfl) (by simp only [List.length_append, List.length_cons]; omega), tok_nl]
      cases ht : tok (c :: r) with
      | none =>
        show Sum.inr _ = Sum.inr _
        congr 1
        simp only [List.length_append, List.length_cons]
        omega
      | some q =>
        have hm := tok_le ht
        simp only [List.length_cons] at hm
        dsimp only
        have hdr : (c :: (r ++ 10 :: t)).drop q.2.2.2 = (c :: r).drop q.2.2.2 ++ 10 :: t := by
          rw [show c :: (r ++ 10 :: t) = (c :: r) ++ 10 :: t from rfl, List.drop_append_of_le_length (by simp only [List.length_cons]; omega)]
        have hdl : ((c :: r).drop q.2.2.2).length = r.length + 1 - q.2.2.2 := by rw [List.length_drop]; rfl
        rw [hdr, lex_join L t f g h _ (by omega) (by omega) hh (by omega)]
        cases lexL L f ((c :: r).drop q.2.2.2) with
        | inr e => rfl
        | inl l =>
          cases lexL (L + 1 + t.length) h t with
          | inr e => rfl
          | inl m =>
            show Sum.inl _ = Sum.inl _
            congr 1
            show Tk.mk _ _ _ _ :: _ = Tk.mk _ _ _ _ :: _
            congr 2
            simp only [List.length_append, List.length_cons]
            omega
theorem all_join (s t : List UInt8) : allS (s ++ 10 :: t) = joinR (allS s) (shR (s.length + 1) (allS t)) := by
  unfold allS
  have h := lex_join s.length t (s.length + 1) ((s ++ 10 :: t).length + 1) (t.length + 1) s (by omega) (by simp only [List.length_append, List.length_cons]; omega) (by omega) (Nat.le_refl _)
  have e : (s ++ 10 :: t).length = s.length + 1 + t.length := by simp only [List.length_append, List.length_cons]; omega
  rw [e] at h ⊢
  rw [h]
  congr 1
  have := lex_shift (s.length + 1) t.length (t.length + 1) t (Nat.le_refl _)
  rw [show t.length + (s.length + 1) = s.length + 1 + t.length by omega] at this
  exact this
end Go.Proofs.YtimopkmlcjdgfaaDoor
