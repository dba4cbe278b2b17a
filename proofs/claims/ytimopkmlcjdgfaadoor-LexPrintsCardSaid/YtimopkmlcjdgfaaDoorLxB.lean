/-
  WHAT IS PUT BETWEEN TWO TOKENS. No program is named here.
-/
import Derived.Test.YtimopkmlcjdgfaaDoorLxJ
namespace Go.Proofs.YtimopkmlcjdgfaaDoor
set_option linter.unusedSimpArgs false
set_option linter.unusedVariables false
open Go

theorem wEnd_cut (y : List UInt8) : ∀ r : List UInt8, wEnd (r ++ y) ≤ r.length → wEnd r = wEnd (r ++ y)
  | [], h => by
    have h' : wEnd y ≤ 0 := h
    show 0 = wEnd y
    omega
  | [b], h => by
    have h' : wEnd (b :: y) ≤ 1 := h
    show wEnd [b] = wEnd (b :: y)
    cases y with
    | nil => rfl
    | cons c y =>
      unfold wEnd at h' ⊢
      split at h'
      · rename_i hb
        rw [if_pos hb, if_pos hb]
        omega
      · rename_i hb
        rw [if_neg hb, if_neg hb]
        split at h'
        · omega
        · rename_i h2
          rw [if_neg h2]
  | b :: c :: r, h => by
    have h' : wEnd (b :: c :: (r ++ y)) ≤ r.length + 2 := h
    show wEnd (b :: c :: r) = wEnd (b :: c :: (r ++ y))
    unfold wEnd at h' ⊢
    split at h'
    · rename_i hb
      rw [if_pos hb, if_pos hb]
      have := wEnd_cut y (c :: r) (by simp only [List.cons_append, List.length_cons]; omega)
      rw [List.cons_append] at this
      omega
    · rename_i hb
      rw [if_neg hb, if_neg hb]
      split at h'
      · rename_i h2
        rw [if_pos h2, if_pos h2]
        have := wEnd_cut y r (by omega)
        omega
      · rename_i h2
        rw [if_neg h2, if_neg h2]
theorem endOk_cut (r y : List UInt8) (h : endOk (r ++ y) = true) : endOk r = true := by
  cases r with
  | nil => rfl
  | cons b r => exact h
theorem takeW_cut (y : List UInt8) : ∀ r : List UInt8, ((r ++ y).takeWhile dgt).length ≤ r.length → r.takeWhile dgt = (r ++ y).takeWhile dgt
  | [], h => by
    have : (y.takeWhile dgt) = [] := List.eq_nil_of_length_eq_zero (by simpa using h)
    simp [this]
  | b :: r, h => by
    rw [List.cons_append, List.takeWhile_cons, List.takeWhile_cons] at *
    cases hb : dgt b with
    | false => simp
    | true =>
      rw [hb] at h
      simp only [if_true, List.length_cons] at h ⊢
      rw [takeW_cut y r (by omega)]
theorem txt_cut (y : List UInt8) : ∀ (r : List UInt8) (q : List UInt8 × Nat), txt (r ++ y) = some q → q.2 ≤ r.length → txt r = some q
  | [], q, h, hl => by
    have := txt_le _ _ _ h
    simp at hl
    omega
  | [b], q, h, hl => by
    have h' : txt (b :: y) = some q := h
    simp only [List.length_cons, List.length_nil] at hl
    cases y with
    | nil => exact h'
    | cons c y =>
      unfold txt at h' ⊢
      split at h'
      · rename_i hb; rw [if_pos hb]; exact h'
      · split at h'
        · split at h'
          · cases hq : txt y with
            | none => rw [hq] at h'; simp at h'
            | some q' => rw [hq] at h'; simp at h'; subst h'; simp at hl
          · cases h'
        · cases hq : txt (c :: y) with
          | none => rw [hq] at h'; simp at h'
          | some q' =>
            have := txt_le _ _ _ hq
            rw [hq] at h'; simp at h'; subst h'
            dsimp only at hl
            omega
  | b :: c :: r, q, h, hl => by
    have h' : txt (b :: c :: (r ++ y)) = some q := h
    simp only [List.length_cons] at hl
    unfold txt at h' ⊢
    split at h'
    · rename_i hb; rw [if_pos hb]; exact h'
    · rename_i hb
      rw [if_neg hb]
      split at h'
      · rename_i hb2
        rw [if_pos hb2]
        split at h'
        · rename_i hc
          rw [if_pos hc]
          cases hq : txt (r ++ y) with
          | none => rw [hq] at h'; simp at h'
          | some q' =>
            rw [hq] at h'
            simp at h'
            subst h'
            dsimp only at hl
            rw [txt_cut y r q' hq (by omega)]
            rfl
        · cases h'
      · rename_i hb2
        rw [if_neg hb2]
        cases hq : txt (c :: (r ++ y)) with
        | none => rw [hq] at h'; simp at h'
        | some q' =>
          rw [hq] at h'
          simp at h'
          subst h'
          dsimp only at hl
          rw [txt_cut y (c :: r) q' hq (by simp only [List.length_cons]; omega)]
          rfl
theorem tok_cut (c : UInt8) (r y : List UInt8) (q : Int × List UInt8 × Int × Nat) (h : tok (c :: (r ++ y)) = some q) (hl : q.2.2.2 ≤ r.length + 1) : tok (c :: r) = some q := by
  rw [tok_c] at h ⊢
  split at h
  · rename_i h1
    rw [if_pos h1]
    split at h
    · rename_i h2
      injection h with h
      subst h
      dsimp only at hl
      have e := wEnd_cut y r (by omega)
      simp only [Bool.and_eq_true, decide_eq_true_eq] at h2
      rw [← e] at h2 ⊢
      have hw := wEnd_le r
      rw [List.drop_append_of_le_length hw] at h2
      rw [List.take_append_of_le_length hw, if_pos (by simp only [Bool.and_eq_true, decide_eq_true_eq]; exact ⟨endOk_cut _ _ h2.1, h2.2⟩)]
    · cases h
  · rename_i h1
    rw [if_neg h1]
    split at h
    · rename_i h2
      rw [if_pos h2]
      split at h
      · rename_i v hv
        split at h
        · rename_i h3
          injection h with h
          subst h
          dsimp only at hl
          have e := takeW_cut y r (by omega)
          rw [← e] at hv h3 ⊢
          rw [hv]
          dsimp only
          simp only [Bool.and_eq_true] at h3
          have hw := (List.takeWhile_sublist (p := dgt) (l := r)).length_le
          rw [List.drop_append_of_le_length hw] at h3
          rw [if_pos (by simp only [Bool.and_eq_true]; exact ⟨h3.1, endOk_cut _ _ h3.2⟩)]
        · cases h
      · cases h
    · rename_i h2
      rw [if_neg h2]
      split at h
      · rename_i h3
        rw [if_pos h3]
        split at h
        · rename_i o m hm
          split at h
          · rename_i h4
            injection h with h
            subst h
            dsimp only at hl
            rw [txt_cut y r (o, m) hm (by dsimp only; omega)]
            dsimp only
            rw [if_pos h4]
          · cases h
        · cases h
      · rename_i h3
        rw [if_neg h3]
        split at h
        · rename_i h4
          injection h with h
          subst h
          dsimp only at hl
          cases r with
          | nil => simp at hl
          | cons d r =>
            rw [if_pos (by simpa using h4)]
        · split at h
          · rename_i h4 h5
            have h6 : ¬ (c == 33 && r.head? == some 61) = true := by
              intro e
              simp only [Bool.and_eq_true, beq_iff_eq] at e
              rw [e.1] at h5
              exact absurd h5 (by decide)
            rw [if_neg h6, if_pos h5]
            exact h
          · cases h
theorem tok_ext {z : UInt8} (hz : Sep z) (c : UInt8) (r y : List UInt8) (q : Int × List UInt8 × Int × Nat) (h : tok (c :: r) = some q) : tok (c :: (r ++ z :: y)) = some q := by
  have h1 := wEnd_le r
  have h2 := (List.takeWhile_sublist (p := dgt) (l := r)).length_le
  rw [tok_c] at h ⊢
  rw [wEnd_app hz, takeW_app hz, List.drop_append_of_le_length h1, endOk_app hz, List.take_append_of_le_length h1, List.drop_append_of_le_length h2, endOk_app hz]
  by_cases hl : ltr c = true
  · rw [if_pos hl] at h ⊢; exact h
  · rw [if_neg hl] at h ⊢
    by_cases hd : (dgt c || c == 45) = true
    · rw [if_pos hd] at h ⊢; exact h
    · rw [if_neg hd] at h ⊢
      by_cases hq : (c == 34) = true
      · rw [if_pos hq] at h ⊢
        cases hr : txt r with
        | some q' => rw [txt_app r _ q' hr]; rw [hr] at h; exact h
        | none => rw [hr] at h; cases h
      · rw [if_neg hq] at h ⊢
        cases r with
        | nil =>
          have e : ¬ (c == 33 && (([] : List UInt8) ++ z :: y).head? == some 61) = true := by
            intro e
            simp only [List.nil_append, List.head?_cons, Bool.and_eq_true, beq_iff_eq, Option.some.injEq] at e
            have := hz.e
            rw [e.2] at this
            exact absurd this (by decide)
          rw [if_neg e]
          rw [if_neg (by simp)] at h
          exact h
        | cons d r => exact h
theorem skp_suf : ∀ (b : Bool) (s : List UInt8), ∃ p, p ++ skp b s = s
  | b, [] => ⟨[], by cases b <;> rfl⟩
  | true, x :: s => by
    rw [show skp true (x :: s) = if x == 10 then skp false s else skp true s from by conv => lhs; unfold skp]
    split
    · obtain ⟨p, hp⟩ := skp_suf false s; exact ⟨x :: p, by rw [List.cons_append, hp]⟩
    · obtain ⟨p, hp⟩ := skp_suf true s; exact ⟨x :: p, by rw [List.cons_append, hp]⟩
  | false, x :: s => by
    rw [show skp false (x :: s) = if gapB x then skp false s else if x == 35 then skp true s else x :: s from by conv => lhs; unfold skp]
    split
    · obtain ⟨p, hp⟩ := skp_suf false s; exact ⟨x :: p, by rw [List.cons_append, hp]⟩
    · split
      · obtain ⟨p, hp⟩ := skp_suf true s; exact ⟨x :: p, by rw [List.cons_append, hp]⟩
      · exact ⟨[], rfl⟩
theorem skp_ins {g y : List UInt8} (hg : skp false (g ++ y) = y) (hy : 0 < y.length) : ∀ (b : Bool) (u w : List UInt8), skp b (u ++ y) = w ++ y → skp b (u ++ (g ++ y)) = if w = [] then y else w ++ (g ++ y)
  | b, [], w, h => by
    rw [List.nil_append] at h ⊢
    have hl := congrArg List.length h
    rw [List.length_append] at hl
    have h1 := skp_len b y
    have hw : w = [] := List.eq_nil_of_length_eq_zero (by omega)
    rw [if_pos hw]
    cases b with
    | false => exact hg
    | true =>
      exfalso
      cases y with
      | nil => simp at hy
      | cons c r =>
        rw [show skp true (c :: r) = if c == 10 then skp false r else skp true r from by conv => lhs; unfold skp] at hl
        simp only [List.length_cons] at hl
        split at hl
        · have := skp_len false r; omega
        · have := skp_len true r; omega
  | true, x :: u, w, h => by
    rw [List.cons_append] at h ⊢
    rw [show ∀ s, skp true (x :: s) = if x == 10 then skp false s else skp true s from fun s => by conv => lhs; unfold skp] at h ⊢
    split at h
    · rename_i hx; rw [if_pos hx]; exact skp_ins hg hy false u w h
    · rename_i hx; rw [if_neg hx]; exact skp_ins hg hy true u w h
  | false, x :: u, w, h => by
    rw [List.cons_append] at h ⊢
    rw [show ∀ s, skp false (x :: s) = if gapB x then skp false s else if x == 35 then skp true s else x :: s from fun s => by conv => lhs; unfold skp] at h ⊢
    split at h
    · rename_i hx; rw [if_pos hx]; exact skp_ins hg hy false u w h
    · rename_i hx
      rw [if_neg hx]
      split at h
      · rename_i hx2; rw [if_pos hx2]; exact skp_ins hg hy true u w h
      · rename_i hx2
        rw [if_neg hx2]
        have hw : w = x :: u := by
          have : (x :: u) ++ y = w ++ y := h
          exact (List.append_cancel_right this).symm
        rw [hw, if_neg (by simp)]
        rfl
theorem lex_pos (L : Nat) : ∀ (f : Nat) (s : List UInt8) (l : List Tk), s.length ≤ L → lexL L f s = .inl l → ∀ x ∈ l, ((L - s.length : Nat) : Int) ≤ x.a
  | 0, s, l, _, h, x, hx => by
    have : l = [] := by
      have h' : (Sum.inl [] : List Tk ⊕ Nat) = .inl l := h
      injection h' with h'
      exact h'.symm
    rw [this] at hx; cases hx
  | f + 1, s, l, hL, h, x, hx => by
    unfold lexL at h
    have hl := skp_len false s
    cases hs : skp false s with
    | nil => rw [hs] at h; injection h with h; subst h; cases hx
    | cons c r =>
      rw [hs] at h hl
      simp only [List.length_cons] at hl
      dsimp only at h
      cases ht : tok (c :: r) with
      | none => rw [ht] at h; cases h
      | some q =>
        rw [ht] at h
        dsimp only at h
        cases hr : lexL L f ((c :: r).drop q.2.2.2) with
        | inr e => rw [hr] at h; cases h
        | inl l2 =>
          rw [hr] at h
          dsimp only at h
          injection h with h
          subst h
          rcases List.mem_cons.1 hx with rfl | hx
          · dsimp only; omega
          · have := lex_pos L f _ l2 (by rw [List.length_drop]; simp only [List.length_cons]; omega) hr x hx
            rw [List.length_drop] at this
            simp only [List.length_cons] at this
            omega
def insT (at_ : Int) (d : Nat) (x : Tk) : Tk := if x.a < at_ then x else shT d x
theorem lex_ins {g y : List UInt8} {z : UInt8} {g' : List UInt8} (hg : skp false (g ++ y) = y) (hz : Sep z) (hgz : g = z :: g') (hy : 0 < y.length) (L : Nat) : ∀ (f h : Nat) (u : List UInt8) (l : List Tk), (u ++ y).length < f → (u ++ (g ++ y)).length < h → (u ++ y).length ≤ L →
    lexL L f (u ++ y) = .inl l → (∃ x ∈ l, x.a = ((L - y.length : Nat) : Int)) → lexL (L + g.length) h (u ++ (g ++ y)) = .inl (l.map (insT ((L - y.length : Nat) : Int) g.length))
  | 0, _, u, l, hf, _, _, _, _ => absurd hf (Nat.not_lt_zero _)
  | _ + 1, 0, u, l, _, hh, _, _, _ => absurd hh (Nat.not_lt_zero _)
  | f + 1, h + 1, u, l, hf, hh, hL, hlex, hex => by
    obtain ⟨p, hp⟩ := skp_suf false (u ++ y)
    have hlen := congrArg List.length hp
    rw [List.length_append] at hlen
    have hpos := lex_pos L (f + 1) (u ++ y) l hL hlex
    have hyL : y.length ≤ L := by rw [List.length_append] at hL; omega
    cases hs : skp false (u ++ y) with
    | nil =>
      unfold lexL at hlex
      rw [hs] at hlex
      injection hlex with hlex
      subst hlex
      obtain ⟨x, hx, _⟩ := hex
      cases hx
    | cons c r =>
      have hstep := lex_step (L := L) hs hf
      rw [hs] at hp hlen
      simp only [List.length_cons] at hlen
      rw [hstep] at hlex
      rcases Nat.lt_trichotomy (r.length + 1) y.length with hv | hv | hv
      · -- all tokens stand behind
        exfalso
        obtain ⟨x, hx, ha⟩ := hex
        cases ht : tok (c :: r) with
        | none => rw [ht] at hlex; cases hlex
        | some q =>
          rw [ht] at hlex
          dsimp only at hlex
          cases hr : lexL L f ((c :: r).drop q.2.2.2) with
          | inr e => rw [hr] at hlex; cases hlex
          | inl l2 =>
            rw [hr] at hlex
            dsimp only at hlex
            injection hlex with hlex
            subst hlex
            rcases List.mem_cons.1 hx with rfl | hx
            · dsimp only at ha; omega
            · have := lex_pos L f _ l2 (by rw [List.length_drop]; simp only [List.length_cons]; omega) hr x hx
              rw [List.length_drop] at this
              simp only [List.length_cons] at this
              omega
      · -- here
        have hpu : p = u ∧ c :: r = y := List.append_inj' hp (by simp only [List.length_cons]; omega)
        have e1 : skp false (u ++ (g ++ y)) = y := by
          have := skp_ins hg hy false u [] (by rw [hs, hpu.2]; rfl)
          rw [if_pos rfl] at this
          exact this
        have e2 : lexL (L + g.length) (h + 1) (u ++ (g ++ y)) = lexL (L + g.length) (h + 1) y := by
          have hyy : skp false y = y := by
            have h0 := skp_ins hg hy false u [] (by rw [hs, hpu.2]; rfl)
            -- y begins with no gap: it is what skp gives
            rw [← hpu.2, ← hs]
            have : ∀ (b : Bool) (s : List UInt8), skp false (skp b s) = skp b s := by
              intro b s
              induction s generalizing b with
              | nil => cases b <;> rfl
              | cons x s ih =>
                cases b with
                | true =>
                  rw [show skp true (x :: s) = if x == 10 then skp false s else skp true s from by conv => lhs; unfold skp]
                  split
                  · exact ih false
                  · exact ih true
                | false =>
                  rw [show skp false (x :: s) = if gapB x then skp false s else if x == 35 then skp true s else x :: s from by conv => lhs; unfold skp]
                  split
                  · exact ih false
                  · split
                    · exact ih true
                    · rename_i h1 h2
                      rw [show skp false (x :: s) = if gapB x then skp false s else if x == 35 then skp true s else x :: s from by conv => lhs; unfold skp]
                      rw [if_neg h1, if_neg h2]
            exact this false _
          conv => lhs; unfold lexL
          rw [e1]
          conv => rhs; unfold lexL
          rw [hyy]
        have e3 : lexL L (f + 1) y = .inl l := by
          rw [← hlex]
          have hyy : skp false y = c :: r := by
            rw [← hpu.2]
            have h3 := hs
            have : ∀ (b : Bool) (s : List UInt8), skp false (skp b s) = skp b s := by
              intro b s
              induction s generalizing b with
              | nil => cases b <;> rfl
              | cons x s ih =>
                cases b with
                | true =>
                  rw [show skp true (x :: s) = if x == 10 then skp false s else skp true s from by conv => lhs; unfold skp]
                  split
                  · exact ih false
                  · exact ih true
                | false =>
                  rw [show skp false (x :: s) = if gapB x then skp false s else if x == 35 then skp true s else x :: s from by conv => lhs; unfold skp]
                  split
                  · exact ih false
                  · split
                    · exact ih true
                    · rename_i h1 h2
                      rw [show skp false (x :: s) = if gapB x then skp false s else if x == 35 then skp true s else x :: s from by conv => lhs; unfold skp]
                      rw [if_neg h1, if_neg h2]
            have h4 := this false (u ++ y)
            rw [hs] at h4
            exact h4
          exact lex_step hyy (by rw [List.length_append] at hf; omega)
        rw [e2]
        have hfl : y.length < h + 1 := by simp only [List.length_append] at hh; omega
        rw [lex_fuel (L + g.length) (h + 1) (f + 1) y hfl (by rw [List.length_append] at hf; omega), lex_shift g.length L (f + 1) y hyL, e3]
        show Sum.inl _ = Sum.inl _
        congr 1
        apply List.map_congr_left
        intro x hx
        have := lex_pos L (f + 1) y l hyL e3 x hx
        unfold insT
        rw [if_neg (by omega)]
      · -- further ahead
        obtain ⟨u', hu'⟩ : ∃ u', c :: r = u' ++ y ∧ u = p ++ u' := by
          have hle : p.length ≤ u.length := by rw [List.length_append] at hlen; omega
          have h1 : u = p ++ u.drop p.length := by
            have h2 := congrArg (List.take p.length) hp
            rw [List.take_left', List.take_append_of_le_length hle] at h2
            · conv => lhs; rw [← List.take_append_drop p.length u]
              rw [← h2]
            · rfl
          refine ⟨u.drop p.length, ?_, h1⟩
          have h2 := congrArg (List.drop p.length) hp
          rw [List.drop_left', List.drop_append_of_le_length hle] at h2
          · exact h2
          · rfl
        obtain ⟨hcr, hu⟩ := hu'
        cases u' with
        | nil =>
          have := congrArg List.length hcr
          simp only [List.length_cons, List.nil_append] at this
          omega
        | cons c' u'' =>
          rw [List.cons_append] at hcr
          injection hcr with hc hr'
          subst hc
          subst hr'
          have e1 : skp false (u ++ (g ++ y)) = c :: (u'' ++ (g ++ y)) := by
            have := skp_ins hg hy false u (c :: u'') (by rw [hs]; rfl)
            rw [if_neg (by simp)] at this
            exact this
          cases ht : tok (c :: (u'' ++ y)) with
          | none => rw [ht] at hlex; cases hlex
          | some q =>
            rw [ht] at hlex
            dsimp only at hlex
            have hm := tok_le ht
            simp only [List.length_cons, List.length_append] at hm hlen hv
            rw [List.length_append] at hL
            cases hr : lexL L f ((c :: (u'' ++ y)).drop q.2.2.2) with
            | inr e => rw [hr] at hlex; cases hlex
            | inl l2 =>
              rw [hr] at hlex
              dsimp only at hlex
              injection hlex with hlex
              subst hlex
              have hpos2 := lex_pos L f _ l2 (by rw [List.length_drop]; simp only [List.length_cons, List.length_append]; omega) hr
              have hex2 : ∃ x ∈ l2, x.a = ((L - y.length : Nat) : Int) := by
                obtain ⟨x, hx, ha⟩ := hex
                rcases List.mem_cons.1 hx with rfl | hx
                · exfalso
                  simp only [List.length_append] at ha
                  omega
                · exact ⟨x, hx, ha⟩
              have hmu : q.2.2.2 ≤ u''.length + 1 := by
                obtain ⟨x, hx, ha⟩ := hex2
                have := hpos2 x hx
                rw [List.length_drop] at this
                simp only [List.length_cons, List.length_append] at this
                omega
              have ht2 : tok (c :: (u'' ++ (g ++ y))) = some q := by
                rw [hgz]
                exact tok_ext hz c u'' (g' ++ y) q (tok_cut c u'' y q ht hmu)
              have hd1 : (c :: (u'' ++ y)).drop q.2.2.2 = (c :: u'').drop q.2.2.2 ++ y := by
                rw [show c :: (u'' ++ y) = (c :: u'') ++ y from rfl, List.drop_append_of_le_length (by simp only [List.length_cons]; omega)]
              have hd2 : (c :: (u'' ++ (g ++ y))).drop q.2.2.2 = (c :: u'').drop q.2.2.2 ++ (g ++ y) := by
                rw [show c :: (u'' ++ (g ++ y)) = (c :: u'') ++ (g ++ y) from rfl, List.drop_append_of_le_length (by simp only [List.length_cons]; omega)]
              rw [hd1] at hr
              have hdl : ((c :: u'').drop q.2.2.2).length = u''.length + 1 - q.2.2.2 := by rw [List.length_drop]; rfl
              have ih := lex_ins hg hz hgz hy L f h ((c :: u'').drop q.2.2.2) l2 (by simp only [List.length_append] at hf ⊢; omega) (by simp only [List.length_append] at hh ⊢; rw [hu] at hh; simp only [List.length_append, List.length_cons] at hh; omega) (by simp only [List.length_append]; omega) hr hex2
              rw [lex_step e1 hh, ht2]
              dsimp only
              rw [hd2, ih]
              show Sum.inl _ = Sum.inl _
              congr 1
              rw [List.map_cons]
              congr 1
              unfold insT
              rw [if_pos (by simp only [List.length_append]; omega)]
              congr 1
              simp only [List.length_append]
              omega
end Go.Proofs.YtimopkmlcjdgfaaDoor
