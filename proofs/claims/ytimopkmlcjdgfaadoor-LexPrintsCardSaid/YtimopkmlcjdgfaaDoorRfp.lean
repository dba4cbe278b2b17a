/-
  THE DOCUMENT's WAY OF A TOKEN, plain, against the same token: words, numbers, texts, marks. No program is walked here.
-/
import Derived.Test.YtimopkmlcjdgfaaDoorLbk
namespace Go.Proofs.YtimopkmlcjdgfaaDoor
set_option linter.unusedSimpArgs false
set_option linter.unusedVariables false
open Go Go.RowKit Go.Lib

/-- What the reference's token goes over. -/
def spB (b : UInt8) : Bool := fol b || b == 46
def spn (r : List UInt8) : List UInt8 := r.takeWhile spB
theorem spn_cons {b : UInt8} {r : List UInt8} (h : spB b = true) : spn (b :: r) = b :: spn r := by unfold spn; rw [List.takeWhile_cons, if_pos h]
theorem spn_stop {b : UInt8} {r : List UInt8} (h : spB b = false) : spn (b :: r) = [] := by unfold spn; rw [List.takeWhile_cons, if_neg (by rw [h]; decide)]
theorem sp_fol {b : UInt8} (h : fol b = true) : spB b = true := by unfold spB; rw [h]; rfl
theorem fol_dot : fol 46 = false := by decide
theorem spn_le (r : List UInt8) : (spn r).length ≤ r.length := (List.takeWhile_sublist (p := spB) (l := r)).length_le
theorem spn_take (r : List UInt8) : r.take (spn r).length = spn r := by
  induction r with
  | nil => rfl
  | cons b r ih =>
    cases hb : spB b with
    | true => rw [spn_cons hb, List.length_cons, List.take_succ_cons, ih]
    | false => rw [spn_stop hb]; rfl
theorem spn_end (r : List UInt8) : endOk (r.drop (spn r).length) = true := by
  induction r with
  | nil => rfl
  | cons b r ih =>
    cases hb : spB b with
    | true => rw [spn_cons hb, List.length_cons, List.drop_succ_cons]; exact ih
    | false =>
      rw [spn_stop hb]
      show (!fol b && b != 46) = true
      unfold spB at hb
      rw [Bool.or_eq_false_iff] at hb
      rw [hb.1]
      simp only [bne, hb.2]
      rfl
/-- Behind less than all of them nothing ends. -/
theorem spn_end_eq : ∀ (r : List UInt8) (n : Nat), n ≤ (spn r).length → endOk (r.drop n) = true → n = (spn r).length
  | [], n, h, _ => by
    have h' : n ≤ 0 := h
    show n = 0
    omega
  | b :: r, 0, _, he => by
    cases hb : spB b with
    | false => rw [spn_stop hb]; rfl
    | true =>
      exfalso
      have h2 : (!fol b && b != 46) = true := he
      unfold spB at hb
      rw [Bool.and_eq_true] at h2
      rw [Bool.or_eq_true] at hb
      rcases hb with hb | hb
      · rw [hb] at h2; exact absurd h2.1 (by decide)
      · have h3 := h2.2
        simp only [bne, hb] at h3
        exact absurd h3 (by decide)
  | b :: r, n + 1, h, he => by
    cases hb : spB b with
    | false => rw [spn_stop hb] at h; exact absurd h (by simp)
    | true =>
      rw [spn_cons hb, List.length_cons] at h ⊢
      rw [List.drop_succ_cons] at he
      rw [← spn_end_eq r n (by omega) he]
theorem wEnd_sp : ∀ r : List UInt8, wEnd r ≤ (spn r).length
  | [] => Nat.le_refl _
  | [b] => by
    cases hb : fol b with
    | true => rw [spn_cons (sp_fol hb), wEnd_f hb]; simp [wEnd]
    | false => rw [wEnd_1 hb]; exact Nat.zero_le _
  | b :: c :: r => by
    cases hb : fol b with
    | true =>
      rw [spn_cons (sp_fol hb), wEnd_f hb, List.length_cons]
      have := wEnd_sp (c :: r)
      omega
    | false =>
      by_cases h2 : (b == 46) = true ∧ (c == 45) = false ∧ fol c = true
      · obtain ⟨h3, h4, h5⟩ := h2
        rw [wEnd_3 hb h3 h4 h5, spn_cons (by unfold spB; rw [h3]; simp), spn_cons (sp_fol h5), List.length_cons, List.length_cons]
        have := wEnd_sp r
        omega
      · have : wEnd (b :: c :: r) = 0 := by
          by_cases h3 : (b == 46) = true
          · refine wEnd_2 hb ?_
            by_cases h4 : (c == 45) = true
            · exact .inl h4
            · refine .inr ?_
              rw [Bool.not_eq_true] at h4
              cases h5 : fol c with
              | false => rfl
              | true => exact absurd ⟨h3, h4, h5⟩ h2
          · rw [Bool.not_eq_true] at h3
            exact wEnd_n hb h3
        omega
/-- The reference's test of what stands behind a word's first byte. -/
def wRest : List UInt8 → Bool
  | [] => true
  | b :: r => (if b == 46 then (match r with | [] => false | c :: _ => ltr c || dgt c) else fol b) && wRest r
theorem wRest_dot (c : UInt8) (r : List UInt8) : wRest (46 :: c :: r) = ((ltr c || dgt c) && wRest (c :: r)) := rfl
theorem wRest_one {b : UInt8} {r : List UInt8} (h : (b == 46) = false) : wRest (b :: r) = (fol b && wRest r) := by
  show ((if b == 46 then _ else fol b) && wRest r) = _
  rw [h]
  rfl
theorem fol_46 {b : UInt8} (h : fol b = true) : (b == 46) = false := by
  cases h2 : (b == 46) with
  | false => rfl
  | true =>
    rw [beq_iff_eq] at h2
    rw [h2] at h
    exact absurd h (by decide)
theorem ld_fol (c : UInt8) : (ltr c || dgt c) = (fol c && !(c == 45)) := by
  unfold fol
  cases h : (c == 45) with
  | false => simp
  | true =>
    rw [beq_iff_eq] at h
    subst h
    rfl
theorem wRest_eq : ∀ u : List UInt8, wRest u = decide (wEnd u = u.length)
  | [] => rfl
  | [b] => by
    cases hb : fol b with
    | true =>
      rw [wRest_one (fol_46 hb), hb, wEnd_f hb]
      rfl
    | false =>
      rw [wEnd_1 hb]
      cases h2 : (b == 46) with
      | true =>
        rw [beq_iff_eq] at h2
        subst h2
        rfl
      | false =>
        rw [wRest_one h2, hb]
        rfl
  | b :: c :: r => by
    cases hb : fol b with
    | true =>
      rw [wRest_one (fol_46 hb), hb, wEnd_f hb, wRest_eq (c :: r), Bool.true_and, Bool.eq_iff_iff]
      simp only [decide_eq_true_eq, List.length_cons]
      omega
    | false =>
      cases h2 : (b == 46) with
      | true =>
        have h3 := h2
        rw [beq_iff_eq] at h3
        subst h3
        rw [wRest_dot, ld_fol]
        cases h4 : fol c with
        | false =>
          rw [wEnd_2 hb (.inr h4)]
          simp
        | true =>
          cases h5 : (c == 45) with
          | true =>
            rw [wEnd_2 hb (.inl h5)]
            simp
          | false =>
            rw [wEnd_3 hb h2 h5 h4, wRest_one (fol_46 h4), h4, wRest_eq r, Bool.eq_iff_iff]
            simp only [Bool.not_false, Bool.true_and, decide_eq_true_eq, List.length_cons]
            omega
      | false =>
        rw [wRest_one h2, hb, wEnd_n hb h2]
        simp
theorem wordT_r (c : UInt8) (r : List UInt8) : wordT (c :: r) = (ltr c && decide (r.length + 1 ≤ 64) && wRest r) := by
  show (ltr c && decide (r.length + 1 ≤ 64) && decide (1 + wEnd r = r.length + 1)) = _
  rw [wRest_eq]
  congr 1
  rw [Bool.eq_iff_iff]
  simp
  omega
/-- The token that begins with a letter, by what the reference goes over. -/
theorem tok_wordS {c : UInt8} {r : List UInt8} (h : ltr c = true) : tok (c :: r) = if wordT (c :: spn r) then some (1, c :: spn r, 0, 1 + (spn r).length) else none := by
  have hle := wEnd_sp r
  have hwl := wEnd_le r
  -- wEnd of what it goes over
  have hcut : wEnd (spn r) = wEnd r := by
    have := wEnd_cut (r.drop (spn r).length) (r.take (spn r).length) (by rw [List.take_append_drop, List.length_take]; have := spn_le r; omega)
    rw [List.take_append_drop, spn_take] at this
    exact this
  have hW : wordT (c :: spn r) = (decide ((spn r).length + 1 ≤ 64) && decide (wEnd r = (spn r).length)) := by
    show (ltr c && decide ((spn r).length + 1 ≤ 64) && decide (1 + wEnd (spn r) = (spn r).length + 1)) = _
    rw [h, hcut, Bool.true_and]
    congr 1
    rw [Bool.eq_iff_iff]
    simp
    omega
  rw [tok_c, if_pos h, hW]
  by_cases he : wEnd r = (spn r).length
  · rw [he, spn_end, spn_take]
    by_cases hl : (spn r).length < 64
    · rw [if_pos (by simp [hl]), if_pos (by simp; omega)]
    · rw [if_neg (by simp [hl]), if_neg (by simp; omega)]
  · have hno : endOk (r.drop (wEnd r)) = false := by
      rw [Bool.eq_false_iff]
      intro h2
      exact he (spn_end_eq r _ hle h2)
    rw [hno, if_neg (by simp), if_neg (by simp [he])]
theorem dgt_sp {b : UInt8} (h : dgt b = true) : spB b = true := sp_fol (by unfold fol; rw [h]; simp)
theorem takeD_le (r : List UInt8) : (r.takeWhile dgt).length ≤ (spn r).length := by
  induction r with
  | nil => exact Nat.le_refl _
  | cons b r ih =>
    cases hb : dgt b with
    | true => rw [takeW_step hb, spn_cons (dgt_sp hb), List.length_cons, List.length_cons]; omega
    | false => rw [takeW_stop hb]; exact Nat.zero_le _
/-- A number of 64 bits, as it stands. -/
def NumIs (s : List UInt8) (v : Int) : Prop := s = itoa v ∧ -9223372036854775808 ≤ v ∧ v ≤ 9223372036854775807
theorem NumIs.one {s : List UInt8} {v v' : Int} (h : NumIs s v) (h' : NumIs s v') : v = v' := by
  have e1 := parseIntB_itoa v h.2.1 h.2.2
  have e2 := parseIntB_itoa v' h'.2.1 h'.2.2
  rw [← h.1] at e1
  rw [← h'.1, e1] at e2
  injection e2
theorem tok_numY {c : UInt8} {r : List UInt8} (h : ltr c = false) (h2 : (dgt c || c == 45) = true) {v : Int} (hv : NumIs (c :: spn r) v) : tok (c :: r) = some (3, [], v, 1 + (spn r).length) := by
  obtain ⟨e, h0, h1⟩ := hv
  obtain ⟨c', r', e', _, hr⟩ := itoa_head v
  rw [← e] at e'
  injection e' with ec er
  subst ec
  have hD : r.takeWhile dgt = spn r := by
    have h3 : (spn r).takeWhile dgt = spn r := takeW_all (by rw [er]; exact hr)
    have h4 := takeW_cut (r.drop (spn r).length) (r.take (spn r).length) (by
      rw [List.take_append_drop, List.length_take]
      have := takeD_le r
      have := spn_le r
      omega)
    rw [List.take_append_drop, spn_take, h3] at h4
    exact h4.symm
  have hp := parseIntB_itoa v h0 h1
  rw [← e] at hp
  rw [tok_c, if_neg (by rw [h]; decide), if_pos h2, hD, hp]
  dsimp only
  rw [← e, spn_end, if_pos (by simp)]
theorem tok_numN {c : UInt8} {r : List UInt8} (h : ltr c = false) (h2 : (dgt c || c == 45) = true) (hv : ∀ v, ¬ NumIs (c :: spn r) v) : tok (c :: r) = none := by
  rw [tok_c, if_neg (by rw [h]; decide), if_pos h2]
  split
  · rename_i v hp
    split
    · rename_i h3
      exfalso
      rw [Bool.and_eq_true] at h3
      obtain ⟨h4, h5⟩ := h3
      have hl := spn_end_eq r _ (takeD_le r) h5
      have hD : r.takeWhile dgt = spn r := by
        rw [← takeW_take, hl, spn_take]
      have hb := Lib.parseIntB_bounds hp
      refine hv v ⟨?_, by omega, by omega⟩
      rw [← hD]
      have h6 : itoa v = c :: r.takeWhile dgt := by simpa using h4
      exact h6.symm
    · rfl
  · rfl
/-- The reference's test for a mark. -/
theorem tok_marks {c : UInt8} {r : List UInt8} (h : ltr c = false) (h2 : (dgt c || c == 45) = false) (h3 : c ≠ 34) :
    (marksL.contains [c] = true → tok (c :: r) = some (4, [c], 0, 1)) ∧ (marksL.contains [c] = false → ∀ d r', r = d :: r' → marksL.contains [c, d] = true → tok (c :: r) = some (4, [c, d], 0, 2)) ∧
    (marksL.contains [c] = false → (∀ d r', r = d :: r' → marksL.contains [c, d] = false) → tok (c :: r) = none) := by
  have h33 : marksL.contains [(33 : UInt8)] = false := by decide
  have two : ∀ d : UInt8, marksL.contains [c, d] = true → c = 33 ∧ d = 61 := by
    intro d hd
    have hm : [c, d] ∈ marksL := by simpa using hd
    unfold marksL at hm
    simpa using hm
  rw [tok_c, if_neg (by rw [h]; decide), if_neg (by rw [h2]; decide), if_neg (by simpa using h3)]
  refine ⟨fun hm => ?_, fun hm d r' hr hd => ?_, fun hm hno => ?_⟩
  · have hc : ¬ (c == 33 && r.head? == some 61) = true := by
      intro e
      simp only [Bool.and_eq_true, beq_iff_eq] at e
      rw [e.1, h33] at hm
      cases hm
    rw [if_neg hc, if_pos hm]
  · obtain ⟨rfl, rfl⟩ := two d hd
    subst hr
    rfl
  · have hc : ¬ (c == 33 && r.head? == some 61) = true := by
      intro e
      simp only [Bool.and_eq_true, beq_iff_eq] at e
      obtain ⟨rfl, e2⟩ := e
      cases r with
      | nil => cases e2
      | cons d r' =>
        have hd : d = 61 := by simpa using e2
        subst hd
        have := hno 61 r' rfl
        exact absurd this (by decide)
    rw [if_neg hc, if_neg (by rw [hm]; decide)]
/-- A text that is met so far, all plain. -/
structure TxP (r acc : List UInt8) (m : Nat) (rest : List UInt8) : Prop where
  at_ : TxAt r acc m rest
  pl : acc.all plB = true
theorem TxP.start (r : List UInt8) : TxP r [] 0 r := ⟨by unfold TxAt; cases txt r <;> simp, rfl⟩
theorem tok_q {r : List UInt8} : tok (34 :: r) = (match txt r with
        | some (o, m) => if decide (o.length ≤ 64) && o.all plB then some (2, o, 0, m + 1) else none
        | none => none) := by
  rw [tok_c, if_neg (by decide), if_neg (by decide), if_pos (by decide)]
  cases txt r <;> rfl
theorem TxP.done {r acc : List UInt8} {m : Nat} {rest : List UInt8} (h : TxP r acc m (34 :: rest)) : tok (34 :: r) = if acc.length ≤ 64 then some (2, acc, 0, m + 2) else none := by
  have h1 := h.at_
  unfold TxAt at h1
  rw [txt_q] at h1
  rw [tok_q, h1]
  simp only [Option.map_some, List.append_nil]
  rw [h.pl, Bool.and_true]
  by_cases hl : acc.length ≤ 64
  · rw [if_pos (by simpa using hl), if_pos hl, show 1 + m + 1 = m + 2 by omega]
  · rw [if_neg (by simpa using hl), if_neg hl]
theorem TxP.none_ {r acc : List UInt8} {m : Nat} {rest : List UInt8} (h : TxP r acc m rest) (he : txt rest = none) : tok (34 :: r) = none := by
  have h1 := h.at_
  unfold TxAt at h1
  rw [he] at h1
  rw [tok_q, h1]
  rfl
theorem TxP.odd {r acc : List UInt8} {m : Nat} {rest : List UInt8} {b : UInt8} (h : TxP r acc m (b :: rest)) (hb : plB b = false) : tok (34 :: r) = none := by
  have h34 : b ≠ 34 := fun e => by rw [e] at hb; exact absurd hb (by decide)
  have h92 : b ≠ 92 := fun e => by rw [e] at hb; exact absurd hb (by decide)
  have h1 := h.at_
  unfold TxAt at h1
  rw [txt_o b rest h34 h92] at h1
  rw [tok_q, h1]
  cases txt rest with
  | none => rfl
  | some q =>
    simp only [Option.map_some, List.all_append, List.all_cons, hb, Bool.false_and, Bool.and_false]
    rfl
theorem TxP.one {r acc : List UInt8} {m : Nat} {rest : List UInt8} {b : UInt8} (h : TxP r acc m (b :: rest)) (h1 : b ≠ 34) (h2 : b ≠ 92) (hb : plB b = true) : TxP r (acc ++ [b]) (m + 1) rest :=
  ⟨h.at_.step (txt_o b rest h1 h2), by rw [List.all_append, h.pl]; simp [hb]⟩
theorem TxP.two {r acc : List UInt8} {m : Nat} {rest : List UInt8} {b : UInt8} (h : TxP r acc m (92 :: b :: rest)) (hb : b = 34 ∨ b = 92) : TxP r (acc ++ [b]) (m + 2) rest :=
  ⟨h.at_.step (txt_b b rest hb), by rw [List.all_append, h.pl]; rcases hb with rfl | rfl <;> rfl⟩
end Go.Proofs.YtimopkmlcjdgfaaDoor
