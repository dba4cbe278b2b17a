/-
  WHAT LexBack WANTS, plain: a token that may be, as it is written, is cut into itself; what any text is cut into may be, and its places rise. No program is walked here.
-/
import Derived.Test.YtimopkmlcjdgfaaDoorLjo
import Derived.Lib.ParseIntBCases
namespace Go.Proofs.YtimopkmlcjdgfaaDoor
set_option linter.unusedSimpArgs false
set_option linter.unusedVariables false
open Go Go.RowKit Go.Lib

theorem digit_toNat {k : Nat} (h : k < 10) : (UInt8.ofNat (48 + k)).toNat = 48 + k := by simp only [UInt8.toNat_ofNat']; omega
theorem decDigits_digit (u : Nat) : ∀ c ∈ decDigits u, 48 ≤ c.toNat ∧ c.toNat ≤ 57 := by
  induction u using Nat.strongRecOn with
  | _ u ih =>
    intro c hc
    rw [decDigits] at hc
    split at hc
    · simp only [List.mem_singleton] at hc; subst hc; rw [digit_toNat (by omega)]; omega
    · rcases List.mem_append.1 hc with h | h
      · exact ih (u / 10) (by omega) c h
      · simp only [List.mem_singleton] at h; subst h; rw [digit_toNat (by omega)]; omega

theorem parseUintM_append {M : Nat} : ∀ (l : List UInt8) (acc v : Nat) (r : List UInt8), parseUintM M acc l = .ok v → parseUintM M acc (l ++ r) = parseUintM M v r
  | [], acc, v, r, h => by simp only [parseUintM, NumEnd.ok.injEq] at h; subst h; rfl
  | c :: l, acc, v, r, h => by
    simp only [parseUintM, List.cons_append] at h ⊢
    split at h
    · rename_i h1
      rw [if_pos h1]
      split at h
      · cases h
      · rename_i h2
        rw [if_neg h2]
        split at h
        · cases h
        · rename_i h3
          rw [if_neg h3]
          exact parseUintM_append l _ v r h
    · cases h
theorem parseUintM_dec (u : Nat) (hu : u ≤ 18446744073709551615) : parseUintM 18446744073709551615 0 (decDigits u) = .ok u := by
  induction u using Nat.strongRecOn with
  | _ u ih =>
    rw [decDigits]
    split
    · rename_i h
      simp only [parseUintM, digit_toNat h]
      rw [if_pos (by omega), if_neg (by omega), if_neg (by omega)]
      congr 1
      omega
    · rename_i h
      rw [parseUintM_append _ _ _ _ (ih (u / 10) (by omega) (by omega))]
      simp only [parseUintM, digit_toNat (show u % 10 < 10 by omega)]
      rw [if_pos (by omega), if_neg (by omega), if_neg (by omega)]
      congr 1
      omega
theorem decDigits_ne (u : Nat) : decDigits u ≠ [] := by
  intro h
  have h1 := decDigits_length u
  have h2 := nDigits_pos u
  rw [h] at h1
  simp at h1
  omega

theorem parseIntB_itoa (n : Int) (h0 : -9223372036854775808 ≤ n) (h1 : n ≤ 9223372036854775807) : parseIntB 64 (itoa n) = .ok n := by
  have hu : ∀ u : Nat, u ≤ 18446744073709551615 → parseUintB 64 (decDigits u) = .ok u := fun u hu => by
    unfold parseUintB
    rw [if_neg (decDigits_ne u)]
    exact parseUintM_dec u hu
  unfold itoa
  by_cases hn : n < 0
  · rw [if_pos hn]
    unfold parseIntB
    simp only [show (45 : UInt8).toNat = 45 from rfl, or_true, if_true]
    rw [hu _ (by omega)]
    simp only [not_true_eq_false, false_and, if_false, true_and]
    rw [if_neg (by omega)]
    congr 1
    omega
  · rw [if_neg hn]
    obtain ⟨c, r, hc⟩ : ∃ c r, decDigits n.toNat = c :: r := by
      cases h : decDigits n.toNat with
      | nil => exact absurd h (decDigits_ne _)
      | cons c r => exact ⟨c, r, rfl⟩
    have hd := decDigits_digit n.toNat c (by rw [hc]; exact List.mem_cons_self)
    unfold parseIntB
    rw [hc]
    simp only
    rw [if_neg (by omega), ← hc, hu _ (by omega)]
    simp only [show ¬ c.toNat = 45 by omega, not_false_eq_true, true_and, false_and, if_false]
    rw [if_neg (by omega)]
    congr 1
    omega

theorem dgt_of {c : UInt8} (h : 48 ≤ c.toNat ∧ c.toNat ≤ 57) : dgt c = true := by
  rw [dgt_n]
  unfold dgtN
  simp only [Bool.and_eq_true, decide_eq_true_eq]
  exact h
theorem takeW_all : ∀ {r : List UInt8}, (∀ c ∈ r, dgt c = true) → r.takeWhile dgt = r
  | [], _ => rfl
  | b :: r, h => by rw [takeW_step (h b List.mem_cons_self), takeW_all (fun c hc => h c (List.mem_cons_of_mem _ hc))]
theorem itoa_head (n : Int) : ∃ c r, itoa n = c :: r ∧ (dgt c || c == 45) = true ∧ ∀ b ∈ r, dgt b = true := by
  unfold itoa
  by_cases hn : n < 0
  · rw [if_pos hn]
    exact ⟨_, _, rfl, by decide, fun b hb => dgt_of (decDigits_digit _ b hb)⟩
  · rw [if_neg hn]
    cases h : decDigits n.toNat with
    | nil => exact absurd h (decDigits_ne _)
    | cons c r =>
      have hd : ∀ b ∈ c :: r, dgt b = true := fun b hb => dgt_of (decDigits_digit n.toNat b (by rw [h]; exact hb))
      exact ⟨c, r, rfl, by rw [hd c List.mem_cons_self]; rfl, fun b hb => hd b (List.mem_cons_of_mem _ hb)⟩
theorem num_not_ltr {c : UInt8} (h : (dgt c || c == 45) = true) : ltr c = false := by
  rw [show (45 : UInt8) = Nat.toUInt8 45 from rfl, eq_n c 45 (by decide), dgt_n] at h
  rw [ltr_n]
  unfold dgtN at h
  unfold ltrN
  simp at h ⊢
  omega
theorem gap_num {c : UInt8} (h : (dgt c || c == 45) = true) : gapB c = false ∧ (c == 35) = false := by
  rw [show (45 : UInt8) = Nat.toUInt8 45 from rfl, eq_n c 45 (by decide), dgt_n] at h
  rw [gap_n, show (35 : UInt8) = Nat.toUInt8 35 from rfl, eq_n c 35 (by decide)]
  unfold dgtN at h
  simp at h ⊢
  omega
theorem gap_ltr {c : UInt8} (h : ltr c = true) : gapB c = false ∧ (c == 35) = false := by
  rw [ltr_n] at h
  rw [gap_n, show (35 : UInt8) = Nat.toUInt8 35 from rfl, eq_n c 35 (by decide)]
  unfold ltrN at h
  simp at h ⊢
  omega
theorem txt_esc : ∀ t : List UInt8, txt (esc t ++ [34]) = some (t, (esc t).length + 1)
  | [] => rfl
  | b :: t => by
    have ih := txt_esc t
    show txt (((if b == 34 || b == 92 then [92, b] else [b]) ++ esc t) ++ [34]) = some (b :: t, ((if b == 34 || b == 92 then [92, b] else [b]) ++ esc t).length + 1)
    by_cases hb : b = 34 ∨ b = 92
    · have e : (b == 34 || b == 92) = true := by simpa using hb
      rw [e]
      simp only [if_true, List.cons_append, List.nil_append]
      rw [txt_b b _ hb, ih]
      simp
    · have e : (b == 34 || b == 92) = false := by simpa using hb
      rw [e]
      simp only [Bool.false_eq_true, if_false, List.cons_append, List.nil_append]
      rw [txt_o b _ (fun e => hb (.inl e)) (fun e => hb (.inr e)), ih]
      simp
/-- Where a token that is written begins, and that it is that token. -/
def WrtOk (x : Tk) : Prop := ∃ c r, wrt x = c :: r ∧ tok (c :: r) = some (x.k, x.t, x.n, r.length + 1) ∧ gapB c = false ∧ (c == 35) = false
theorem wrt_ok (x : Tk) (h : mayK x = true) (h0 : -9223372036854775808 ≤ x.n) (h1 : x.n ≤ 9223372036854775807) : WrtOk x := by
  obtain ⟨k, t, n, a⟩ := x
  unfold mayK mayT at h
  dsimp only at h h0 h1
  split at h
  · cases h
  · split at h
    · cases h
    · rename_i hkn
      split at h
      · rename_i hk
        subst hk
        obtain rfl : n = 0 := by omega
        cases t with
        | nil => cases h
        | cons c r =>
          have h2 : (ltr c && decide (r.length + 1 ≤ 64) && decide (1 + wEnd r = r.length + 1)) = true := h
          simp only [Bool.and_eq_true, decide_eq_true_eq] at h2
          obtain ⟨⟨hc, hl⟩, hw⟩ := h2
          have hwe : wEnd r = r.length := by omega
          refine ⟨c, r, rfl, ?_, gap_ltr hc⟩
          rw [tok_c, if_pos hc, hwe, List.drop_length, List.take_length, if_pos (by simp [endOk]; omega)]
          rw [Nat.add_comm]
      · split at h
        · rename_i hk
          subst hk
          obtain rfl : n = 0 := by omega
          refine ⟨34, esc t ++ [34], rfl, ?_, by decide, by decide⟩
          rw [tok_c, if_neg (by decide), if_neg (by decide), if_pos (by decide), txt_esc]
          dsimp only
          rw [if_pos h, List.length_append]
          rfl
        · split at h
          · rename_i hk
            subst hk
            obtain rfl : t = [] := by simpa using h
            obtain ⟨c, r, e, hc, hr⟩ := itoa_head n
            refine ⟨c, r, ?_, ?_, gap_num hc⟩
            · unfold wrt
              rw [if_neg (show ¬ (3 : Int) = 2 by decide), if_pos rfl]
              exact e
            · have hp := parseIntB_itoa n h0 h1
              rw [e] at hp
              rw [tok_c, if_neg (by rw [num_not_ltr hc]; decide), if_pos hc, takeW_all hr, hp]
              dsimp only
              rw [e, List.drop_length, if_pos (by simp [endOk]), Nat.add_comm]
          · split at h
            · rename_i h2 h3 hk
              subst hk
              obtain rfl : n = 0 := by omega
              have hm : t ∈ marksL := by simpa using h
              unfold marksL at hm
              simp only [List.mem_cons, List.not_mem_nil, or_false] at hm
              rcases hm with rfl | rfl | rfl | rfl | rfl | rfl | rfl | rfl
              all_goals exact ⟨_, _, rfl, rfl, by decide, by decide⟩
            · cases h
theorem sep_32 : Sep 32 := ⟨by decide, by decide, by decide, by decide⟩
theorem join_two (x y : List UInt8) (l : List (List UInt8)) : Lib.join (x :: y :: l) [32] = x ++ 32 :: Lib.join (y :: l) [32] := by
  rw [Lib.join_cons, Lib.join_cons]
  simp [Lib.joinTail]
theorem lex_back (L : Nat) : ∀ (l : List Tk) (f : Nat), (∀ x ∈ l, WrtOk x) → (Lib.join (l.map wrt) [32]).length < f → ∃ m, lexL L f (Lib.join (l.map wrt) [32]) = .inl m ∧ sameT l m = true
  | [], f, _, hf => by
    obtain ⟨f, rfl⟩ : ∃ g, f = g + 1 := ⟨f - 1, by omega⟩
    exact ⟨[], lex_nil L f, rfl⟩
  | [x], f, h, hf => by
    obtain ⟨c, r, e, ht, hg, hs⟩ := h x List.mem_cons_self
    have e2 : Lib.join ([x].map wrt) [32] = c :: r := by
      show Lib.join [wrt x] [32] = _
      rw [Lib.join_one, e]
    rw [e2] at hf ⊢
    simp only [List.length_cons] at hf
    obtain ⟨f, rfl⟩ : ∃ g, f = g + 1 := ⟨f - 1, by omega⟩
    obtain ⟨f, rfl⟩ : ∃ g, f = g + 1 := ⟨f - 1, by omega⟩
    rw [lex_step (skp_stop hg hs) (by simp only [List.length_cons]; omega), ht]
    dsimp only
    rw [List.drop_of_length_le (by simp), lex_nil]
    refine ⟨_, rfl, ?_⟩
    simp [sameT, eqT]
  | x :: y :: l, f, h, hf => by
    obtain ⟨c, r, e, ht, hg, hs⟩ := h x List.mem_cons_self
    obtain ⟨J, hJ⟩ : ∃ J, Lib.join ((y :: l).map wrt) [32] = J := ⟨_, rfl⟩
    have e2 : Lib.join ((x :: y :: l).map wrt) [32] = c :: (r ++ 32 :: J) := by
      rw [← hJ]
      show Lib.join (wrt x :: wrt y :: l.map wrt) [32] = _
      rw [join_two, e]
      rfl
    rw [e2] at hf ⊢
    simp only [List.length_cons, List.length_append] at hf
    obtain ⟨f, rfl⟩ : ∃ g, f = g + 1 := ⟨f - 1, by omega⟩
    obtain ⟨f, rfl⟩ : ∃ g, f = g + 1 := ⟨f - 1, by omega⟩
    obtain ⟨m, hm, hsm⟩ := lex_back L (y :: l) (f + 1) (fun z hz => h z (List.mem_cons_of_mem _ hz)) (by rw [hJ]; omega)
    rw [hJ] at hm
    have h32 : lexL L (f + 1) (32 :: J) = .inl m := by
      rw [← hm, ← lex_skp, ← lex_skp L f J]
      rfl
    rw [lex_step (skp_stop hg hs) (by simp only [List.length_cons, List.length_append]; omega), tok_ext sep_32 c r J _ ht]
    dsimp only
    have hd : (c :: (r ++ 32 :: J)).drop (r.length + 1) = 32 :: J := by
      rw [List.drop_succ_cons, List.drop_left]
    rw [hd, h32]
    refine ⟨_, rfl, ?_⟩
    show (eqT x _ && sameT (y :: l) m) = true
    rw [hsm]
    simp [eqT]
theorem may_bnd {k : Int} {t : List UInt8} {n a : Int} (h : mayT k t n a = true) : t.length ≤ 64 := by
  unfold mayT at h
  split at h
  · cases h
  · split at h
    · cases h
    · split at h
      · cases t with
        | nil => exact Nat.zero_le _
        | cons c r =>
          have h2 : (ltr c && decide (r.length + 1 ≤ 64) && decide (1 + wEnd r = r.length + 1)) = true := h
          simp only [Bool.and_eq_true, decide_eq_true_eq] at h2
          exact h2.1.2
      · split at h
        · simp only [Bool.and_eq_true, decide_eq_true_eq] at h
          exact h.1
        · split at h
          · obtain rfl : t = [] := by simpa using h
            exact Nat.zero_le _
          · split at h
            · have hm : t ∈ marksL := by simpa using h
              unfold marksL at hm
              simp only [List.mem_cons, List.not_mem_nil, or_false] at hm
              rcases hm with rfl | rfl | rfl | rfl | rfl | rfl | rfl | rfl
              all_goals decide
            · cases h
theorem tok_may {s : List UInt8} {q : Int × List UInt8 × Int × Nat} (h : tok s = some q) {a : Int} (ha : 0 ≤ a) : mayT q.1 q.2.1 q.2.2.1 a = true ∧ -9223372036854775808 ≤ q.2.2.1 ∧ q.2.2.1 ≤ 9223372036854775807 := by
  have use : ∀ {c : UInt8} {r : List UInt8} {k : Int} {t : List UInt8} {n : Int} {m : Nat} {ok : Bool}, TokIs c r k t n m ok → tok (c :: r) = some q → (-9223372036854775808 ≤ n ∧ n ≤ 9223372036854775807) → mayT q.1 q.2.1 q.2.2.1 a = true ∧ -9223372036854775808 ≤ q.2.2.1 ∧ q.2.2.1 ≤ 9223372036854775807 := by
    intro c r k t n m ok hi hq hb
    rw [hi a ha] at hq
    split at hq
    · rename_i hc
      injection hq with hq
      subst hq
      rw [Bool.and_eq_true] at hc
      exact ⟨hc.2, hb⟩
    · cases hq
  cases s with
  | nil => cases h
  | cons c r =>
    cases h1 : ltr c with
    | true => exact use (tok_word h1) h ⟨by decide, by decide⟩
    | false =>
      cases h2 : (dgt c || c == 45) with
      | true =>
        obtain ⟨v, hv⟩ : ∃ v, v = (numOk ((c :: r).take (1 + (r.takeWhile dgt).length)) (r.drop (r.takeWhile dgt).length)).getD 0 := ⟨_, rfl⟩
        refine use (tok_num (v := v) h1 h2 (fun x hx => by rw [hv, hx]; rfl)) h ?_
        rw [hv]
        unfold numOk
        split
        · rename_i x hx
          have := Lib.parseIntB_bounds hx
          split
          · show _ ≤ x ∧ x ≤ _
            omega
          · exact ⟨by decide, by decide⟩
        · exact ⟨by decide, by decide⟩
      | false =>
        by_cases h3 : c = 34
        · exact use (tok_txt h3) h ⟨by decide, by decide⟩
        · exact use (tok_mark h1 h2 h3) h ⟨by decide, by decide⟩
/-- What a text is cut into, each alone. -/
structure CutOk (L : Nat) (x : Tk) : Prop where
  may : mayK x = true
  n0 : -9223372036854775808 ≤ x.n
  n1 : x.n ≤ 9223372036854775807
  a0 : 0 ≤ x.a
  a1 : x.a < (L : Int)
theorem CutOk.ok {L : Nat} {x : Tk} (h : CutOk L x) : TkOk x := ⟨by have := may_bnd h.may; omega, h.n0, h.n1⟩
theorem lex_may (L : Nat) : ∀ (f : Nat) (s : List UInt8) (l : List Tk), s.length ≤ L → lexL L f s = .inl l → (∀ x ∈ l, CutOk L x) ∧ l.Pairwise fun x y => x.a < y.a
  | 0, s, l, hL, h => by
    have h' : (Sum.inl [] : List Tk ⊕ Nat) = .inl l := h
    injection h' with h'
    rw [← h']
    exact ⟨fun x hx => by (cases hx), .nil⟩
  | f + 1, s, l, hL, h => by
    have hl := skp_len false s
    unfold lexL at h
    cases hs : skp false s with
    | nil => rw [hs] at h; injection h with h; rw [← h]; exact ⟨fun x hx => by (cases hx), .nil⟩
    | cons c r =>
      rw [hs] at h hl
      simp only [List.length_cons] at hl
      dsimp only at h
      cases ht : tok (c :: r) with
      | none => rw [ht] at h; cases h
      | some q =>
        rw [ht] at h
        dsimp only at h
        have hm := tok_le ht
        cases hr : lexL L f ((c :: r).drop q.2.2.2) with
        | inr e => rw [hr] at h; cases h
        | inl l2 =>
          rw [hr] at h
          dsimp only at h
          injection h with h
          subst h
          have hdl : ((c :: r).drop q.2.2.2).length ≤ L := by rw [List.length_drop]; simp only [List.length_cons]; omega
          obtain ⟨i1, i2⟩ := lex_may L f _ l2 hdl hr
          have hpos := lex_pos L f _ l2 hdl hr
          have hmay := tok_may ht (a := ((L - (r.length + 1) : Nat) : Int)) (by omega)
          refine ⟨fun x hx => ?_, List.pairwise_cons.2 ⟨fun x hx => ?_, i2⟩⟩
          · rcases List.mem_cons.1 hx with rfl | hx
            · exact ⟨hmay.1, hmay.2.1, hmay.2.2, by dsimp only; omega, by dsimp only; omega⟩
            · exact i1 x hx
          · have := hpos x hx
            rw [List.length_drop] at this
            simp only [List.length_cons] at this hm
            dsimp only
            omega
/-- What any text is cut into. -/
theorem all_cut {s : List UInt8} {l : List Tk} (h : allS s = .inl l) : (∀ x ∈ l, CutOk s.length x) ∧ ∀ (i j : Nat) (h1 : i < l.length) (h2 : j < l.length), i < j → l[i].a < l[j].a := by
  obtain ⟨h1, h2⟩ := lex_may _ _ _ _ (Nat.le_refl _) h
  exact ⟨h1, fun i j hi hj hij => List.pairwise_iff_getElem.1 h2 i j hi hj hij⟩
/-- Tokens that may be, printed, are cut into just those. -/
theorem all_back {l : List Tk} {p : List UInt8} (h : prt l = some p) (hb : ∀ x ∈ l, TkOk x) : p = Lib.join (l.map wrt) [32] ∧ ∃ m, allS p = .inl m ∧ sameT l m = true := by
  unfold prt at h
  split at h
  · rename_i hm
    injection h with h
    refine ⟨h.symm, ?_⟩
    rw [List.all_eq_true] at hm
    unfold allS
    rw [← h]
    exact lex_back _ l _ (fun x hx => wrt_ok x (hm x hx) (hb x hx).n0 (hb x hx).n1) (by omega)
  · cases h
theorem prt_cut {s : List UInt8} {l : List Tk} (h : allS s = .inl l) : prt l = some (Lib.join (l.map wrt) [32]) := by
  have h1 := (all_cut h).1
  exact prt_yes fun j hj => (h1 _ (List.getElem_mem hj)).may
end Go.Proofs.YtimopkmlcjdgfaaDoor
