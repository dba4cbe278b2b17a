/-
  VALUES' TEXTS, ON LISTS: printed, and parsed by a parser on lists; there and back. No program is named here.
-/
import Derived.Test.YtnkfkicabgajmaaDoorValP
namespace Go.Proofs.YtnkfkicabgajmaaDoor
set_option linter.unusedSimpArgs false
set_option linter.unusedVariables false
open Go Go.Lib

theorem digit_toNat {k : Nat} (h : k < 10) : (UInt8.ofNat (48 + k)).toNat = 48 + k := by simp only [UInt8.toNat_ofNat']; omega
theorem decDigits_digit (u : Nat) : ∀ c ∈ decDigits u, 48 ≤ c.toNat ∧ c.toNat ≤ 57 := by
  induction u using Nat.strongRecOn with
  | _ u ih =>
    intro c hc
    rw [decDigits] at hc
    split at hc
    · simp only [List.mem_singleton] at hc; subst hc; rw [digit_toNat (by omega)]; omega
    · rcases List.mem_append.1 hc with h | h
      · exact ih (u / 10) (by omega) c h
      · simp only [List.mem_singleton] at h; subst h; rw [digit_toNat (by omega)]; omega

theorem parseUintM_append {M : Nat} : ∀ (l : List UInt8) (acc v : Nat) (r : List UInt8), parseUintM M acc l = .ok v → parseUintM M acc (l ++ r) = parseUintM M v r
  | [], acc, v, r, h => by simp only [parseUintM, NumEnd.ok.injEq] at h; subst h; rfl
  | c :: l, acc, v, r, h => by
    simp only [parseUintM, List.cons_append] at h ⊢
    split at h
    · rename_i h1
      rw [if_pos h1]
      split at h
      · cases h
      · rename_i h2
        rw [if_neg h2]
        split at h
        · cases h
        · rename_i h3
          rw [if_neg h3]
          exact parseUintM_append l _ v r h
    · cases h
theorem parseUintM_dec (u : Nat) (hu : u ≤ 18446744073709551615) : parseUintM 18446744073709551615 0 (decDigits u) = .ok u := by
  induction u using Nat.strongRecOn with
  | _ u ih =>
    rw [decDigits]
    split
    · rename_i h
      simp only [parseUintM, digit_toNat h]
      rw [if_pos (by omega), if_neg (by omega), if_neg (by omega)]
      congr 1
      omega
    · rename_i h
      rw [parseUintM_append _ _ _ _ (ih (u / 10) (by omega) (by omega))]
      simp only [parseUintM, digit_toNat (show u % 10 < 10 by omega)]
      rw [if_pos (by omega), if_neg (by omega), if_neg (by omega)]
      congr 1
      omega
theorem decDigits_ne (u : Nat) : decDigits u ≠ [] := by
  intro h
  have h1 := decDigits_length u
  have h2 := nDigits_pos u
  rw [h] at h1
  simp at h1
  omega

theorem parseIntB_itoa (n : Int) (h0 : -9223372036854775808 ≤ n) (h1 : n ≤ 9223372036854775807) : parseIntB 64 (itoa n) = .ok n := by
  have hu : ∀ u : Nat, u ≤ 18446744073709551615 → parseUintB 64 (decDigits u) = .ok u := fun u hu => by
    unfold parseUintB
    rw [if_neg (decDigits_ne u)]
    exact parseUintM_dec u hu
  unfold itoa
  by_cases hn : n < 0
  · rw [if_pos hn]
    unfold parseIntB
    simp only [show (45 : UInt8).toNat = 45 from rfl, or_true, if_true]
    rw [hu _ (by omega)]
    simp only [not_true_eq_false, false_and, if_false, true_and]
    rw [if_neg (by omega)]
    congr 1
    omega
  · rw [if_neg hn]
    obtain ⟨c, r, hc⟩ : ∃ c r, decDigits n.toNat = c :: r := by
      cases h : decDigits n.toNat with
      | nil => exact absurd h (decDigits_ne _)
      | cons c r => exact ⟨c, r, rfl⟩
    have hd := decDigits_digit n.toNat c (by rw [hc]; exact List.mem_cons_self)
    unfold parseIntB
    rw [hc]
    simp only
    rw [if_neg (by omega), ← hc, hu _ (by omega)]
    simp only [show ¬ c.toNat = 45 by omega, not_false_eq_true, true_and, false_and, if_false]
    rw [if_neg (by omega)]
    congr 1
    omega
def isNum (c : UInt8) : Bool := c == 45 || (decide (48 ≤ c.toNat) && decide (c.toNat ≤ 57))
theorem itoa_num (n : Int) : ∀ c ∈ itoa n, isNum c = true := by
  intro c hc
  unfold itoa at hc
  have hd : ∀ u, ∀ c ∈ decDigits u, isNum c = true := fun u c h => by
    have := decDigits_digit u c h
    simp [isNum, this.1, this.2]
  split at hc
  · rcases List.mem_cons.1 hc with rfl | h
    · rfl
    · exact hd _ c h
  · exact hd _ c hc
theorem itoa_ne (n : Int) : itoa n ≠ [] := by
  unfold itoa
  split
  · simp
  · exact decDigits_ne _

/-! The text. -/
def tNull : List UInt8 := [110, 117, 108, 108]
def tFalse : List UInt8 := [102, 97, 108, 115, 101]
def tTrue : List UInt8 := [116, 114, 117, 101]
mutual
def prV : V → List UInt8
  | .mk k n t l ks =>
    if k = 1 then tFalse else if k = 2 then tTrue else if k = 3 then decI n else if k = 4 then quoted t
    else if k = 5 then 91 :: (prE false true l ks ++ [93]) else if k = 6 then 123 :: (prE true true l ks ++ [125]) else tNull
def prE (obj first : Bool) : List V → List (List UInt8) → List UInt8
  | [], _ => []
  | v :: l, ks => (if first then [] else [44]) ++ (if obj then quoted (ks.headD []) ++ [58] else []) ++ prV v ++ prE obj false l ks.tail
end

/-! The parser. -/
def cutP (s p : List UInt8) : Option (List UInt8) := if p.isPrefixOf s then some (s.drop p.length) else none
def pQuote : List UInt8 → List UInt8 → Option (List UInt8 × List UInt8)
  | [], _ => none
  | [c], acc => if c == 34 then some (acc, []) else none
  | c :: d :: r, acc => if c == 34 then some (acc, d :: r) else if c == 92 then pQuote r (acc ++ [d]) else pQuote (d :: r) (acc ++ [c])
def pText (s : List UInt8) : Option (List UInt8 × List UInt8) := match cutP s [34] with
  | some r => pQuote r []
  | none => none
def pKey (k : Int) (ak : List (List UInt8)) (s : List UInt8) : Option (List (List UInt8) × List UInt8) :=
  if k = 6 then (match pText s with | none => none | some x => (match cutP x.2 [58] with | none => none | some r => some (ak ++ [x.1], r))) else some (ak, s)
mutual
def pval : Nat → List UInt8 → Option (V × List UInt8)
  | 0, _ => none
  | f + 1, s => match cutP s tNull with
    | some r => some (V.zero, r)
    | none => match cutP s tFalse with
      | some r => some (.mk 1 0 [] [] [], r)
      | none => match cutP s tTrue with
        | some r => some (.mk 2 0 [] [] [], r)
        | none => match cutP s [91] with
          | some r => pel f 5 93 r
          | none => match cutP s [123] with
            | some r => pel f 6 125 r
            | none => if [34].isPrefixOf s then (match pText s with | some x => some (.mk 4 0 x.1 [] [], x.2) | none => none)
              else match parseIntB 64 (s.takeWhile isNum) with
                | .ok n => some (.mk 3 n [] [] [], s.dropWhile isNum)
                | _ => none
def pel : Nat → Int → UInt8 → List UInt8 → Option (V × List UInt8)
  | 0, _, _, _ => none
  | f + 1, k, e, s => match cutP s [e] with
    | some r => some (.mk k 0 [] [] [], r)
    | none => ploop f k e [] [] s
def ploop : Nat → Int → UInt8 → List V → List (List UInt8) → List UInt8 → Option (V × List UInt8)
  | 0, _, _, _, _, _ => none
  | f + 1, k, e, al, ak, s => match pKey k ak s with
    | none => none
    | some q => match pval f q.2 with
      | none => none
      | some x => match cutP x.2 [e] with
        | some r => some (.mk k 0 [] (al ++ [x.1]) q.1, r)
        | none => match cutP x.2 [44] with
          | some r => ploop f k e (al ++ [x.1]) q.1 r
          | none => none
end
def parseV (s : List UInt8) : Option V := if 512 < s.length then none else match pval (3 * s.length + 3) s with
  | none => none
  | some x => if mayV x.1 && prV x.1 == s then some x.1 else none

theorem cutP_app (p r : List UInt8) : cutP (p ++ r) p = some r := by
  unfold cutP
  rw [if_pos (by rw [List.isPrefixOf_iff_prefix]; exact List.prefix_append _ _)]
  simp
theorem cutP_cons (c : UInt8) (r : List UInt8) : cutP (c :: r) [c] = some r := cutP_app [c] r
theorem cutP_ne {c d : UInt8} (h : c ≠ d) (p r : List UInt8) : cutP (c :: r) (d :: p) = none := by
  unfold cutP
  rw [if_neg]
  simp only [List.isPrefixOf, Bool.and_eq_true, beq_iff_eq, not_and]
  intro e
  exact absurd e.symm h
theorem cutP_some {s p r : List UInt8} (h : cutP s p = some r) : s = p ++ r := by
  unfold cutP at h
  split at h
  · rename_i h1
    rw [List.isPrefixOf_iff_prefix] at h1
    obtain ⟨q, rfl⟩ := h1
    injection h with h
    rw [← h]
    simp
  · cases h
theorem pQuote_len : ∀ (m : Nat) (s acc : List UInt8), s.length ≤ m → ∀ a r, pQuote s acc = some (a, r) → r.length < s.length
  | _, [], _, _, a, r, h => by simp [pQuote] at h
  | _, [c], acc, _, a, r, h => by
    rw [pQuote] at h
    split at h
    · injection h with h; injection h with h1 h2; subst h2; simp
    · cases h
  | 0, c :: d :: s, _, hm, a, r, h => by simp at hm
  | m + 1, c :: d :: s, acc, hm, a, r, h => by
    rw [pQuote] at h
    simp only [List.length_cons] at hm ⊢
    split at h
    · injection h with h; injection h with h1 h2; subst h2; simp
    · split at h
      · have := pQuote_len m s _ (by omega) a r h; omega
      · have := pQuote_len m (d :: s) _ (by simp; omega) a r h; simp at this; omega
theorem pText_len {s : List UInt8} {x} (h : pText s = some x) : x.2.length < s.length := by
  unfold pText at h
  split at h
  · rename_i r hr
    have e := cutP_some hr
    subst e
    have := pQuote_len r.length r [] (Nat.le_refl _) x.1 x.2 h
    simp
    omega
  · cases h
theorem pQuote_escs : ∀ (s acc r : List UInt8), pQuote (escs s ++ 34 :: r) acc = some (acc ++ s, r)
  | [], acc, r => by
    simp only [escs, List.flatMap_nil, List.nil_append, List.append_nil]
    cases r <;> simp [pQuote]
  | c :: s, acc, r => by
    have ih := pQuote_escs s (acc ++ [c]) r
    have e : escs (c :: s) = esc1 c ++ escs s := by unfold escs; rw [List.flatMap_cons]
    rw [e, List.append_assoc]
    obtain ⟨d, m, hd⟩ : ∃ d m, escs s ++ 34 :: r = d :: m := by
      cases h : escs s ++ 34 :: r with
      | nil => simp at h
      | cons d m => exact ⟨d, m, rfl⟩
    rw [hd] at ih ⊢
    unfold esc1
    by_cases h1 : c = 34
    · subst h1
      simp only [BEq.rfl, Bool.true_or, if_true, List.cons_append, List.nil_append]
      rw [pQuote]
      simp [ih]
    · by_cases h2 : c = 92
      · subst h2
        simp only [BEq.rfl, Bool.or_true, if_true, List.cons_append, List.nil_append]
        rw [pQuote]
        simp [ih]
      · simp only [beq_eq_false_iff_ne.2 h1, beq_eq_false_iff_ne.2 h2, Bool.or_self, Bool.false_eq_true, if_false, List.cons_append, List.nil_append]
        rw [pQuote]
        simp [h1, h2, ih]
theorem pText_quoted (s r : List UInt8) : pText (quoted s ++ r) = some (s, r) := by
  unfold pText quoted
  rw [List.cons_append, cutP_cons, List.append_assoc]
  exact pQuote_escs s [] r
def noNum : List UInt8 → Prop
  | [] => True
  | c :: _ => isNum c = false
theorem takeWhile_app : ∀ {p : UInt8 → Bool} (l r : List UInt8), (∀ c ∈ l, p c = true) → (∀ c m, r = c :: m → p c = false) → (l ++ r).takeWhile p = l ∧ (l ++ r).dropWhile p = r
  | p, [], r, _, h => by
    cases r with
    | nil => simp
    | cons c m => have := h c m rfl; simp [this]
  | p, c :: l, r, h, h' => by
    have h1 := h c List.mem_cons_self
    have := takeWhile_app l r (fun x hx => h x (List.mem_cons_of_mem _ hx)) h'
    simp [h1, this]
inductive Nums : V → Prop
  | mk {k n t l ks} : -9223372036854775808 ≤ n → n ≤ 9223372036854775807 → (∀ x ∈ l, Nums x) → Nums (.mk k n t l ks)
theorem prV_ne (v : V) : 0 < (prV v).length := by
  obtain ⟨k, n, t, l, ks⟩ := v
  rw [prV]
  repeat' split
  all_goals first
    | exact List.length_pos_iff.2 (itoa_ne n)
    | simp [tNull, tFalse, tTrue, quoted]
/-- A text of a value begins with none of these. -/
theorem prV_head (v : V) (c : UInt8) (m : List UInt8) (h : prV v = c :: m) : c ≠ 93 ∧ c ≠ 125 ∧ c ≠ 44 := by
  obtain ⟨k, n, t, l, ks⟩ := v
  rw [prV] at h
  repeat' split at h
  all_goals first
    | (injection h with h1 h2; subst h1; decide)
    | (have := itoa_num n c (by unfold decI at h; rw [h]; exact List.mem_cons_self)
       refine ⟨?_, ?_, ?_⟩ <;> (rintro rfl; revert this; decide))
theorem back : ∀ v : V, fieldsV v = true → Nums v → ∀ (r : List UInt8) (f : Nat), noNum r → 3 * (prV v ++ r).length + 1 ≤ f → pval f (prV v ++ r) = some (v, r) := by
  intro v
  induction v using V.ind with
  | h k n t l ks ih =>
    intro hv hn r f hr hf
    obtain ⟨hu, -, -, hfs⟩ := fields_kids hv
    rw [uses_iff] at hu
    obtain ⟨g, rfl⟩ : ∃ g, f = g + 1 := ⟨f - 1, by omega⟩
    cases hn with
    | mk hn0 hn1 hnl =>
    -- the elements
    have key : ∀ (l : List V), (∀ x ∈ l, fieldsV x = true → Nums x → ∀ (r : List UInt8) (f : Nat), noNum r → 3 * (prV x ++ r).length + 1 ≤ f → pval f (prV x ++ r) = some (x, r)) → fieldss l = true → (∀ x ∈ l, Nums x) →
        ∀ (obj : Bool) (e : UInt8) (ks al ak) (f : Nat) (first : Bool), l ≠ [] → (e = 93 ∨ e = 125) → (obj = true → ks.length = l.length) → (obj = false → ks = []) → 3 * (prE obj true l ks ++ e :: r).length + 2 ≤ f →
        ploop f (if obj then 6 else 5) e al ak (prE obj true l ks ++ e :: r) = some (.mk (if obj then 6 else 5) 0 [] (al ++ l) (ak ++ ks), r) := by
      intro l
      induction l with
      | nil => intro _ _ _ obj e ks al ak f first hne; exact absurd rfl hne
      | cons x l il =>
        intro hx hfs hns obj e ks al ak f first _ he ho ho' hf
        obtain ⟨g, rfl⟩ : ∃ g, f = g + 1 := ⟨f - 1, by omega⟩
        rw [fieldss, Bool.and_eq_true] at hfs
        have hx1 := hx x List.mem_cons_self hfs.1 (hns x List.mem_cons_self)
        -- what stands behind the element
        obtain ⟨tl, htl⟩ : ∃ tl, tl = prE obj false l ks.tail ++ e :: r := ⟨_, rfl⟩
        have hpe : prE obj true (x :: l) ks ++ e :: r = (if obj then quoted (ks.headD []) ++ [58] else []) ++ (prV x ++ tl) := by
          rw [prE, htl]; simp
        have hnn : noNum tl := by
          rw [htl]
          cases l with
          | nil => rw [prE]; rcases he with rfl | rfl <;> (show isNum _ = false; decide)
          | cons y l => rw [prE]; show isNum 44 = false; decide
        have hk : pKey (if obj then 6 else 5) ak (prE obj true (x :: l) ks ++ e :: r) = some (ak ++ ks.take 1, prV x ++ tl) := by
          rw [hpe]
          unfold pKey
          cases obj with
          | false => simp [ho' rfl]
          | true =>
            cases ks with
            | nil => have := ho rfl; simp at this
            | cons s ks =>
              simp only [if_true, List.headD_cons, List.append_assoc, List.take_succ_cons, List.take_zero]
              rw [pText_quoted]
              simp only [List.cons_append, List.nil_append]
              rw [cutP_cons]
        rw [ploop, hk]
        simp only
        have hl0 : 3 * (prV x ++ tl).length + 1 ≤ g := by
          rw [hpe] at hf
          simp only [List.length_append] at hf ⊢
          omega
        rw [hx1 tl g hnn hl0]
        simp only
        cases l with
        | nil =>
          have ht : tl = e :: r := by rw [htl, prE]; rfl
          rw [ht, cutP_cons]
          simp only
          have hks : ks.take 1 = ks := by
            cases obj with
            | false => rw [ho' rfl]; rfl
            | true => have := ho rfl; rw [List.take_of_length_le (by rw [this]; simp)]
          rw [hks]
        | cons y l =>
          have ht : tl = 44 :: (prE obj true (y :: l) ks.tail ++ e :: r) := by rw [htl, prE, prE]; simp
          rw [ht, cutP_ne (by rcases he with rfl | rfl <;> decide), cutP_cons]
          simp only
          have hln : 3 * (prE obj true (y :: l) ks.tail ++ e :: r).length + 2 ≤ g := by
            rw [ht] at hl0
            have := prV_ne x
            simp only [List.length_append, List.length_cons] at hl0 ⊢
            omega
          rw [il (fun z hz => hx z (List.mem_cons_of_mem _ hz)) hfs.2 (fun z hz => hns z (List.mem_cons_of_mem _ hz)) obj e ks.tail (al ++ [x]) (ak ++ ks.take 1) g true (by simp) he
            (fun h => by have := ho h; simp at this ⊢; omega) (fun h => by rw [ho' h]; rfl) hln]
          have hks : ks.take 1 ++ ks.tail = ks := by cases ks <;> rfl
          simp only [List.append_assoc, List.cons_append, List.nil_append, hks]
    have numT : ∀ c m, r = c :: m → isNum c = false := by
      intro c m e
      subst e
      exact hr
    have k06 : k = 0 ∨ k = 1 ∨ k = 2 ∨ k = 3 ∨ k = 4 ∨ k = 5 ∨ k = 6 := by have := hu.k0; have := hu.k6; omega
    have dn : k ≠ 3 → n = 0 := hu.num
    have dt : k ≠ 4 → t = [] := hu.txt
    have dl : k < 5 → l = [] := fun h => List.eq_nil_of_length_eq_zero (hu.lst h)
    have dk : k ≠ 6 → ks = [] := fun h => List.eq_nil_of_length_eq_zero (hu.key h)
    rw [prV] at hf ⊢
    rcases k06 with rfl | rfl | rfl | rfl | rfl | rfl | rfl
    · rw [dn (by omega), dt (by omega), dl (by omega), dk (by omega)]
      simp only [show ¬ (0 : Int) = 1 by omega, show ¬ (0 : Int) = 2 by omega, show ¬ (0 : Int) = 3 by omega, show ¬ (0 : Int) = 4 by omega, show ¬ (0 : Int) = 5 by omega, show ¬ (0 : Int) = 6 by omega, if_false]
      rw [pval, cutP_app]
    · rw [dn (by omega), dt (by omega), dl (by omega), dk (by omega)]
      simp only [if_true]
      have hc := cutP_app tFalse r
      rw [pval]
      simp only [tFalse, tNull, List.cons_append, List.nil_append] at hc ⊢
      rw [cutP_ne (by decide), hc]
    · rw [dn (by omega), dt (by omega), dl (by omega), dk (by omega)]
      simp only [show ¬ (2 : Int) = 1 by omega, if_false, if_true]
      have hc := cutP_app tTrue r
      rw [pval]
      simp only [tFalse, tTrue, tNull, List.cons_append, List.nil_append] at hc ⊢
      rw [cutP_ne (by decide)]
      simp only
      rw [cutP_ne (by decide), hc]
    · rw [dt (by omega), dl (by omega), dk (by omega)]
      simp only [show ¬ (3 : Int) = 1 by omega, show ¬ (3 : Int) = 2 by omega, if_false, if_true]
      unfold decI
      have hnum := itoa_num n
      obtain ⟨h1, h2⟩ := takeWhile_app (p := isNum) (itoa n) r hnum numT
      have hpi := parseIntB_itoa n hn0 hn1
      cases hi : itoa n with
      | nil => exact absurd hi (itoa_ne n)
      | cons c m =>
        have hc := hnum c (by rw [hi]; exact List.mem_cons_self)
        rw [hi] at h1 h2 hpi
        have ne : ∀ d : UInt8, isNum d = false → c ≠ d := fun d hd e => by rw [e, hd] at hc; cases hc
        rw [pval, h1, h2, hpi]
        simp only [List.cons_append]
        rw [tNull, cutP_ne (ne _ (by decide)), tFalse, cutP_ne (ne _ (by decide)), tTrue, cutP_ne (ne _ (by decide)), cutP_ne (ne _ (by decide)), cutP_ne (ne _ (by decide))]
        have : ([34].isPrefixOf (c :: (m ++ r))) = false := by
          simp only [List.isPrefixOf, Bool.and_eq_false_iff, beq_eq_false_iff_ne]
          exact .inl (fun e => ne 34 (by decide) e.symm)
        simp [this]
    · rw [dn (by omega), dl (by omega), dk (by omega)]
      simp only [show ¬ (4 : Int) = 1 by omega, show ¬ (4 : Int) = 2 by omega, show ¬ (4 : Int) = 3 by omega, if_false, if_true]
      have hp := pText_quoted t r
      rw [pval]
      have e : quoted t ++ r = 34 :: (escs t ++ [34] ++ r) := by unfold quoted; simp
      rw [e] at hp ⊢
      rw [tNull, cutP_ne (by decide), tFalse, cutP_ne (by decide), tTrue, cutP_ne (by decide), cutP_ne (by decide), cutP_ne (by decide)]
      simp only
      rw [if_pos (by simp [List.isPrefixOf]), hp]
    · rw [dn (by omega), dt (by omega), dk (by omega)]
      simp only [show ¬ (5 : Int) = 1 by omega, show ¬ (5 : Int) = 2 by omega, show ¬ (5 : Int) = 3 by omega, show ¬ (5 : Int) = 4 by omega, if_false, if_true] at hf ⊢
      rw [pval, List.cons_append, tNull, cutP_ne (by decide), tFalse, cutP_ne (by decide), tTrue, cutP_ne (by decide), cutP_cons]
      simp only
      rw [dk (by omega)] at hf
      simp only [List.cons_append, List.length_cons, List.append_assoc, List.nil_append] at hf ⊢
      obtain ⟨g', rfl⟩ : ∃ g', g = g' + 1 := ⟨g - 1, by omega⟩
      rw [pel]
      cases l with
      | nil => rw [prE, List.nil_append, cutP_cons]
      | cons x l =>
        have hne : cutP (prE false true (x :: l) [] ++ 93 :: r) [93] = none := by
          rw [prE]
          cases hx : prV x with
          | nil => have := prV_ne x; rw [hx] at this; simp at this
          | cons c m =>
            have := prV_head x c m hx
            simp only [if_true, Bool.false_eq_true, if_false, List.nil_append, List.cons_append]
            exact cutP_ne this.1 _ _
        rw [hne]
        simp only
        have := key (x :: l) ih hfs hnl false 93 [] [] [] g' true (by simp) (.inl rfl) (fun h => by cases h) (fun _ => rfl) (by omega)
        simpa using this
    · rw [dn (by omega), dt (by omega)]
      simp only [show ¬ (6 : Int) = 1 by omega, show ¬ (6 : Int) = 2 by omega, show ¬ (6 : Int) = 3 by omega, show ¬ (6 : Int) = 4 by omega, show ¬ (6 : Int) = 5 by omega, if_false, if_true] at hf ⊢
      rw [pval, List.cons_append, tNull, cutP_ne (by decide), tFalse, cutP_ne (by decide), tTrue, cutP_ne (by decide), cutP_ne (by decide), cutP_cons]
      simp only
      simp only [List.cons_append, List.length_cons, List.append_assoc, List.nil_append] at hf ⊢
      obtain ⟨g', rfl⟩ : ∃ g', g = g' + 1 := ⟨g - 1, by omega⟩
      rw [pel]
      cases l with
      | nil =>
        have hk0 : ks = [] := List.eq_nil_of_length_eq_zero (hu.obj rfl)
        rw [hk0, prE, List.nil_append, cutP_cons]
      | cons x l =>
        have hne : cutP (prE true true (x :: l) ks ++ 125 :: r) [125] = none := by
          rw [prE]
          simp only [if_true, quoted, List.nil_append, List.cons_append]
          exact cutP_ne (by decide) _ _
        rw [hne]
        simp only
        have := key (x :: l) ih hfs hnl true 125 ks [] [] g' true (by simp) (.inr rfl) (fun _ => hu.obj rfl) (fun h => by cases h) (by omega)
        simpa using this
end Go.Proofs.YtnkfkicabgajmaaDoor
