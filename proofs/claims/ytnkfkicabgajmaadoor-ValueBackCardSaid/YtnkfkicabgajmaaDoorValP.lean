/-
  VALUES AS PLAIN DATA, what may be, how they stand, their texts. No program is named here.
-/
import Derived.Lib.ItoaNum
import Derived.Lib.ParseIntB
import Derived.Lib.ParseIntBCases
namespace Go.Proofs.YtnkfkicabgajmaaDoor
set_option linter.unusedSimpArgs false
set_option linter.unusedVariables false
open Go

inductive V where
  | mk (k n : Int) (t : List UInt8) (l : List V) (ks : List (List UInt8))
namespace V
def k : V → Int | .mk k _ _ _ _ => k
def n : V → Int | .mk _ n _ _ _ => n
def t : V → List UInt8 | .mk _ _ t _ _ => t
def l : V → List V | .mk _ _ _ l _ => l
def ks : V → List (List UInt8) | .mk _ _ _ _ ks => ks
end V
abbrev V.zero : V := .mk 0 0 [] [] []
mutual
def V.sz : V → Nat
  | .mk _ _ _ l _ => 1 + szs l
def szs : List V → Nat
  | [] => 0
  | v :: l => v.sz + szs l
end
theorem sz_mem {x : V} : ∀ {l : List V}, x ∈ l → x.sz ≤ szs l
  | v :: l, h => by
    rw [szs]
    rcases List.mem_cons.1 h with rfl | h
    · omega
    · have := sz_mem h
      omega
theorem V.sz_pos : ∀ v : V, 0 < v.sz
  | .mk _ _ _ _ _ => by rw [V.sz]; omega
theorem sz_kid {x : V} {k n : Int} {t : List UInt8} {l : List V} {ks : List (List UInt8)} (h : x ∈ l) : x.sz < (V.mk k n t l ks).sz := by
  have := sz_mem h
  rw [V.sz]
  omega
theorem V.ind {P : V → Prop} (h : ∀ k n t l ks, (∀ x ∈ l, P x) → P (.mk k n t l ks)) : ∀ v, P v := by
  have : ∀ m, ∀ v : V, v.sz ≤ m → P v := by
    intro m
    induction m with
    | zero => intro v hv; have := v.sz_pos; omega
    | succ m ih =>
      intro v hv
      obtain ⟨k, n, t, l, ks⟩ := v
      exact h k n t l ks (fun x hx => ih x (by have := sz_kid (k := k) (n := n) (t := t) (ks := ks) hx; omega))
  exact fun v => this _ v (Nat.le_refl _)

/-! Alike. -/
mutual
def eqv : V → V → Bool
  | .mk k n t l ks, .mk k' n' t' l' ks' => k == k' && n == n' && t == t' && ks == ks' && eqvs l l'
def eqvs : List V → List V → Bool
  | [], [] => true
  | a :: l, b :: m => eqv a b && eqvs l m
  | _, _ => false
end
theorem eqv_iff : ∀ a b : V, eqv a b = true ↔ a = b := by
  intro a
  induction a using V.ind with
  | h k n t l ks ih =>
    intro b
    obtain ⟨k', n', t', l', ks'⟩ := b
    have key : ∀ (l m : List V), (∀ x ∈ l, ∀ b, eqv x b = true ↔ x = b) → (eqvs l m = true ↔ l = m) := by
      intro l
      induction l with
      | nil => intro m _; cases m <;> simp [eqvs]
      | cons x l il =>
        intro m hx
        cases m with
        | nil => simp [eqvs]
        | cons y m =>
          simp only [eqvs, Bool.and_eq_true, List.cons.injEq]
          rw [hx x List.mem_cons_self, il m (fun z hz => hx z (List.mem_cons_of_mem _ hz))]
    simp only [eqv, Bool.and_eq_true, beq_iff_eq, V.mk.injEq]
    rw [key l l' ih]
    constructor
    · rintro ⟨⟨⟨⟨h1, h2⟩, h3⟩, h4⟩, h5⟩
      exact ⟨h1, h2, h3, h5, h4⟩
    · rintro ⟨h1, h2, h3, h5, h4⟩
      exact ⟨⟨⟨⟨h1, h2⟩, h3⟩, h4⟩, h5⟩
theorem eqvs_iff (l m : List V) : eqvs l m = true ↔ l = m := by
  induction l generalizing m with
  | nil => cases m <;> simp [eqvs]
  | cons x l il =>
    cases m with
    | nil => simp [eqvs]
    | cons y m => simp only [eqvs, Bool.and_eq_true, List.cons.injEq, eqv_iff, il]
theorem eqv_comm (a b : V) : eqv a b = eqv b a := by
  rw [Bool.eq_iff_iff, eqv_iff, eqv_iff]
  exact eq_comm

/-! Texts, side by side. -/
def cmpT : List UInt8 → List UInt8 → Int
  | [], [] => 0
  | [], _ :: _ => -1
  | _ :: _, [] => 1
  | a :: l, b :: m => if a < b then -1 else if b < a then 1 else cmpT l m
theorem u8_tri (a b : UInt8) : a < b ∧ ¬ b < a ∧ a ≠ b ∨ b < a ∧ ¬ a < b ∧ a ≠ b ∨ a = b ∧ ¬ a < b ∧ ¬ b < a := by
  simp only [UInt8.lt_iff_toNat_lt]
  rcases Nat.lt_trichotomy a.toNat b.toNat with h | h | h
  · exact .inl ⟨h, by omega, fun e => by rw [e] at h; omega⟩
  · exact .inr (.inr ⟨UInt8.toNat_inj.1 h, by omega, by omega⟩)
  · exact .inr (.inl ⟨h, by omega, fun e => by rw [e] at h; omega⟩)
theorem cmpT_bd : ∀ a b, cmpT a b = -1 ∨ cmpT a b = 0 ∨ cmpT a b = 1
  | [], [] => by simp [cmpT]
  | [], _ :: _ => by simp [cmpT]
  | _ :: _, [] => by simp [cmpT]
  | a :: l, b :: m => by
    rw [cmpT]
    split
    · simp
    · split
      · simp
      · exact cmpT_bd l m
theorem cmpT_neg : ∀ a b, cmpT a b = - cmpT b a
  | [], [] => by simp [cmpT]
  | [], _ :: _ => by simp [cmpT]
  | _ :: _, [] => by simp [cmpT]
  | a :: l, b :: m => by
    rw [cmpT, cmpT]
    rcases u8_tri a b with ⟨h1, h2, -⟩ | ⟨h1, h2, -⟩ | ⟨rfl, h1, -⟩
    · simp [h1, h2]
    · simp [h1, h2]
    · simp only [h1, if_false]; exact cmpT_neg l m
theorem cmpT_zero : ∀ a b, cmpT a b = 0 ↔ a = b
  | [], [] => by simp [cmpT]
  | [], _ :: _ => by simp [cmpT]
  | _ :: _, [] => by simp [cmpT]
  | a :: l, b :: m => by
    rw [cmpT]
    rcases u8_tri a b with ⟨h1, h2, h3⟩ | ⟨h1, h2, h3⟩ | ⟨rfl, h1, -⟩
    · simp [h1, h3]
    · simp [h1, h2, h3]
    · simp [cmpT_zero l m]
/-- Of three: what stands ahead of what stands ahead. -/
def Tr (x y z : Int) : Prop := x ≤ 0 → y ≤ 0 → z ≤ 0 ∧ ((x < 0 ∨ y < 0) → z < 0) ∧ (x = 0 → y = 0 → z = 0)
def lex (c d : Int) : Int := if c = 0 then d else c
theorem Tr.lex {x y z x' y' z' : Int} (h : Tr x y z) (h' : Tr x' y' z') : Tr (lex x x') (lex y y') (lex z z') := by
  unfold Tr Go.Proofs.YtnkfkicabgajmaaDoor.lex at *
  intro h1 h2
  by_cases hx : x = 0
  · rw [if_pos hx] at h1 ⊢
    by_cases hy : y = 0
    · have hz := (h (by omega) (by omega)).2.2 hx hy
      rw [if_pos hy] at h2 ⊢
      rw [if_pos hz]
      exact h' h1 h2
    · rw [if_neg hy] at h2 ⊢
      have hz := (h (by omega) (by omega)).2.1 (by omega)
      rw [if_neg (by omega)]
      omega
  · rw [if_neg hx] at h1 ⊢
    have hy : y ≤ 0 := by
      by_cases hy : y = 0
      · omega
      · rw [if_neg hy] at h2; exact h2
    have hz := (h (by omega) (by omega)).2.1 (by omega)
    rw [if_neg (show ¬ z = 0 by omega)]
    refine ⟨by omega, fun _ => hz, fun h => absurd h hx⟩
theorem cmpT_tr : ∀ a b c, Tr (cmpT a b) (cmpT b c) (cmpT a c)
  | [], [], c => by intro h1 h2; refine ⟨h2, fun h => ?_, fun _ h => h⟩; simpa [cmpT] using h
  | [], _ :: _, [] => by intro h1 h2; simp [cmpT] at h2
  | [], _ :: _, _ :: _ => by intro h1 h2; simp [cmpT]
  | _ :: _, [], _ => by intro h1 h2; simp [cmpT] at h1
  | _ :: _, _ :: _, [] => by intro h1 h2; simp [cmpT] at h2
  | a :: l, b :: m, c :: r => by
    have ih := cmpT_tr l m r
    intro h1 h2
    rw [cmpT] at h1 h2 ⊢
    rcases u8_tri a b with ⟨p1, p2, p3⟩ | ⟨p1, p2, p3⟩ | ⟨rfl, p1, p2⟩
    · rcases u8_tri b c with ⟨q1, q2, q3⟩ | ⟨q1, q2, q3⟩ | ⟨rfl, q1, q2⟩
      · have : a < c := by simp only [UInt8.lt_iff_toNat_lt] at *; omega
        simp [this, p1, q1, cmpT]
      · simp [q1, q2] at h2
      · simp [p1, q1, q2, cmpT]
    · simp [p1, p2] at h1
    · rcases u8_tri a c with ⟨q1, q2, q3⟩ | ⟨q1, q2, q3⟩ | ⟨rfl, q1, q2⟩
      · simp [p1, q1, cmpT]
      · simp [q1, q2] at h2
      · simp only [p1, if_false, cmpT] at h1 h2 ⊢
        exact ih h1 h2

/-! Values, side by side. -/
def ord (b : Bool) : Int := if b then -1 else 1
def headC : List (List UInt8) → List (List UInt8) → Int
  | x :: _, y :: _ => cmpT x y
  | _, _ => 0
mutual
def cmpV : V → V → Int
  | .mk k n t l ks, .mk k' n' t' l' ks' =>
    if k ≠ k' then ord (decide (k < k')) else if k = 3 ∧ n ≠ n' then ord (decide (n < n')) else if k = 4 then cmpT t t' else cmpL l ks l' ks'
def cmpL : List V → List (List UInt8) → List V → List (List UInt8) → Int
  | [], _, [], _ => 0
  | [], _, _ :: _, _ => -1
  | _ :: _, _, [], _ => 1
  | a :: l, ks, b :: m, js => lex (headC ks js) (lex (cmpV a b) (cmpL l ks.tail m js.tail))
end
theorem ord_bd (b : Bool) : ord b = -1 ∨ ord b = 0 ∨ ord b = 1 := by cases b <;> simp [ord]
theorem headC_bd (a b) : headC a b = -1 ∨ headC a b = 0 ∨ headC a b = 1 := by
  cases a <;> cases b <;> simp [headC, cmpT_bd]
theorem lex_bd {a b : Int} (h1 : a = -1 ∨ a = 0 ∨ a = 1) (h2 : b = -1 ∨ b = 0 ∨ b = 1) : lex a b = -1 ∨ lex a b = 0 ∨ lex a b = 1 := by
  unfold lex; split <;> assumption
theorem cmpV_bd : ∀ a b, cmpV a b = -1 ∨ cmpV a b = 0 ∨ cmpV a b = 1 := by
  intro a
  induction a using V.ind with
  | h k n t l ks ih =>
    rintro ⟨k', n', t', l', ks'⟩
    have key : ∀ (l : List V), (∀ x ∈ l, ∀ b, cmpV x b = -1 ∨ cmpV x b = 0 ∨ cmpV x b = 1) → ∀ ks m js, cmpL l ks m js = -1 ∨ cmpL l ks m js = 0 ∨ cmpL l ks m js = 1 := by
      intro l
      induction l with
      | nil => intro _ ks m js; cases m <;> simp [cmpL]
      | cons x l il =>
        intro hx ks m js
        cases m with
        | nil => simp [cmpL]
        | cons y m =>
          rw [cmpL]
          exact lex_bd (headC_bd _ _) (lex_bd (hx x List.mem_cons_self y) (il (fun z hz => hx z (List.mem_cons_of_mem _ hz)) _ _ _))
    rw [cmpV]
    repeat' split
    · exact ord_bd _
    · exact ord_bd _
    · exact cmpT_bd _ _
    · exact key l ih _ _ _
theorem lex_neg {a b c d : Int} (h1 : a = -c) (h2 : b = -d) : lex a b = - lex c d := by
  unfold lex
  subst h1 h2
  by_cases h : c = 0
  · simp [h]
  · simp [h]
theorem headC_neg (a b) : headC a b = - headC b a := by
  cases a <;> cases b <;> simp [headC]
  exact cmpT_neg _ _
theorem ord_neg {a b : Int} (h : a ≠ b) : ord (decide (a < b)) = - ord (decide (b < a)) := by
  unfold ord
  rcases Int.lt_trichotomy a b with h1 | h1 | h1
  · simp [h1, show ¬ b < a by omega]
  · exact absurd h1 h
  · simp [h1, show ¬ a < b by omega]
theorem cmpV_neg : ∀ a b, cmpV a b = - cmpV b a := by
  intro a
  induction a using V.ind with
  | h k n t l ks ih =>
    rintro ⟨k', n', t', l', ks'⟩
    have key : ∀ (l : List V), (∀ x ∈ l, ∀ b, cmpV x b = - cmpV b x) → ∀ ks m js, cmpL l ks m js = - cmpL m js l ks := by
      intro l
      induction l with
      | nil => intro _ ks m js; cases m <;> simp [cmpL]
      | cons x l il =>
        intro hx ks m js
        cases m with
        | nil => simp [cmpL]
        | cons y m =>
          rw [cmpL, cmpL]
          exact lex_neg (headC_neg _ _) (lex_neg (hx x List.mem_cons_self y) (il (fun z hz => hx z (List.mem_cons_of_mem _ hz)) _ _ _))
    rw [cmpV, cmpV]
    by_cases h1 : k = k'
    · subst h1
      simp only [ne_eq, not_true_eq_false, if_false]
      by_cases h2 : k = 3
      · by_cases h3 : n = n'
        · subst h3
          simp [h2]
          exact key l ih _ _ _
        · simp only [h2, h3, true_and, Ne.symm h3, not_false_eq_true, if_true, ne_eq, show ¬ n' = n from fun e => h3 e.symm]
          exact ord_neg h3
      · simp only [h2, false_and, if_false]
        split
        · exact cmpT_neg _ _
        · exact key l ih _ _ _
    · simp only [ne_eq, h1, not_false_eq_true, if_true, show ¬ k' = k from fun e => h1 e.symm]
      exact ord_neg h1

/-! What may be. -/
def usesOwn (k n : Int) (t : List UInt8) (nl nk : Nat) : Bool :=
  decide (0 ≤ k) && decide (k ≤ 6) && (decide (k = 3) || decide (n = 0)) && (decide (k = 4) || t.isEmpty) && (decide (5 ≤ k) || nl == 0) && (decide (k = 6) || nk == 0) && (!decide (k = 6) || nk == nl)
def plainB (c : UInt8) : Bool := decide (32 ≤ c.toNat) && decide (c.toNat ≤ 126)
def plainT (s : List UInt8) : Bool := s.all plainB
def keyB (c : UInt8) : Bool := decide (33 ≤ c.toNat) && decide (c.toNat ≤ 126) && !(c == 46) && !(c == 34)
def keyOk (s : List UInt8) : Bool := decide (0 < s.length) && decide (s.length ≤ 24) && s.all keyB
def riseAt (ks : List (List UInt8)) (i : Nat) : Bool := keyOk (ks.getD i []) && (i == 0 || decide (cmpT (ks.getD (i - 1) []) (ks.getD i []) < 0))
def rising (ks : List (List UInt8)) : Bool := (List.range ks.length).all (riseAt ks)
theorem rising_iff (ks : List (List UInt8)) : rising ks = true ↔ ∀ i, i < ks.length → riseAt ks i = true := by
  simp [rising]
theorem rising_no {ks : List (List UInt8)} {i : Nat} (h : i < ks.length) (hr : riseAt ks i = false) : rising ks = false := by
  rw [Bool.eq_false_iff]
  intro h1
  rw [(rising_iff ks).1 h1 i h] at hr
  cases hr
def esc1 (c : UInt8) : List UInt8 := if c == 34 || c == 92 then [92, c] else [c]
def escs (s : List UInt8) : List UInt8 := s.flatMap esc1
def nesc (s : List UInt8) : Nat := s.count 34 + s.count 92
theorem escs_len (s : List UInt8) : (escs s).length = s.length + nesc s := by
  unfold escs nesc
  induction s with
  | nil => rfl
  | cons c s ih =>
    rw [List.flatMap_cons, List.length_append, ih]
    simp only [List.count_cons, List.length_cons, esc1]
    by_cases h1 : c = 34
    · subst h1; simp; omega
    · by_cases h2 : c = 92
      · subst h2; simp; omega
      · simp [h1, h2]; omega
def quoted (s : List UInt8) : List UInt8 := 34 :: (escs s ++ [34])
theorem quoted_len (s : List UInt8) : (quoted s).length = s.length + nesc s + 2 := by
  simp [quoted, escs_len]
mutual
def dep : V → Nat
  | .mk _ _ _ l _ => 1 + deps l
def deps : List V → Nat
  | [] => 0
  | v :: l => max (dep v) (deps l)
end
mutual
def fieldsV : V → Bool
  | .mk k n t l ks => usesOwn k n t l.length ks.length && plainT t && rising ks && fieldss l
def fieldss : List V → Bool
  | [] => true
  | v :: l => fieldsV v && fieldss l
end
def ksz : List (List UInt8) → Nat
  | [] => 0
  | s :: ks => s.length + nesc s + 3 + ksz ks
/-- The bytes of a number's text. -/
def decI (n : Int) : List UInt8 := Lib.itoa n
def ownSz (k n : Int) (t : List UInt8) (nl : Nat) (ks : List (List UInt8)) : Nat :=
  if k = 1 then 5 else if k = 3 then (decI n).length else if k = 4 then t.length + nesc t + 2 else if k = 5 ∨ k = 6 then 2 + (nl - 1) + ksz ks else 4
mutual
def psz : V → Nat
  | .mk k n t l ks => ownSz k n t l.length ks + pszs l
def pszs : List V → Nat
  | [] => 0
  | v :: l => psz v + pszs l
end
def mayV (v : V) : Bool := decide (dep v ≤ 8) && fieldsV v && decide (psz v ≤ 512)
mutual
/-- What room is left. -/
def inv (d : Nat) : V → Int → Option Int
  | .mk k n t l ks, room =>
    if 8 < d ∨ usesOwn k n t l.length ks.length = false then none
    else if room - ownSz k n t l.length ks < 0 ∨ plainT t = false ∨ rising ks = false then none
    else invs (d + 1) l (room - ownSz k n t l.length ks)
def invs (d : Nat) : List V → Int → Option Int
  | [], room => some room
  | v :: l, room => match inv d v room with
    | none => none
    | some r => invs d l r
end
def invB (d : Nat) (v : V) (room : Int) : Bool := decide (d + dep v ≤ 9) && fieldsV v && decide ((psz v : Int) ≤ room)
theorem dep_pos (v : V) : 1 ≤ dep v := by
  obtain ⟨k, n, t, l, ks⟩ := v
  rw [dep]; omega
theorem inv_eq : ∀ (v : V) (d : Nat) (room : Int), 0 ≤ room → inv d v room = if invB d v room then some (room - psz v) else none := by
  intro v
  induction v using V.ind with
  | h k n t l ks ih =>
    intro d room h0
    have key : ∀ (l : List V), (∀ x ∈ l, ∀ (d : Nat) (room : Int), 0 ≤ room → inv d x room = if invB d x room then some (room - psz x) else none) → ∀ (d : Nat) (room : Int), 0 ≤ room →
        invs d l room = if (l = [] ∨ d + deps l ≤ 9) ∧ fieldss l = true ∧ (pszs l : Int) ≤ room then some (room - pszs l) else none := by
      intro l
      induction l with
      | nil => intro _ d room h0; simp [invs, fieldss, pszs, h0]
      | cons x l il =>
        intro hx d room h0
        rw [invs, hx x List.mem_cons_self d room h0]
        by_cases h1 : invB d x room = true
        · rw [if_pos h1]
          unfold invB at h1
          simp only [Bool.and_eq_true, decide_eq_true_eq] at h1
          simp only
          rw [il (fun z hz => hx z (List.mem_cons_of_mem _ hz)) d _ (by omega)]
          have e : ((l = [] ∨ d + deps l ≤ 9) ∧ fieldss l = true ∧ (pszs l : Int) ≤ room - psz x) ↔ ((x :: l = [] ∨ d + deps (x :: l) ≤ 9) ∧ fieldss (x :: l) = true ∧ (pszs (x :: l) : Int) ≤ room) := by
            rw [deps, fieldss, pszs]
            simp only [reduceCtorEq, false_or, h1.1.2, Bool.true_and]
            have : l = [] → deps l = 0 := fun h => by rw [h, deps]
            constructor
            · rintro ⟨a, b, c⟩
              refine ⟨?_, b, by omega⟩
              rcases a with a | a
              · have := this a; omega
              · omega
            · rintro ⟨a, b, c⟩
              exact ⟨.inr (by omega), b, by omega⟩
          by_cases h2 : (l = [] ∨ d + deps l ≤ 9) ∧ fieldss l = true ∧ (pszs l : Int) ≤ room - psz x
          · rw [if_pos h2, if_pos (e.1 h2), pszs]
            congr 1
            omega
          · rw [if_neg h2, if_neg (fun h => h2 (e.2 h))]
        · rw [if_neg h1, if_neg]
          rintro ⟨a, b, c⟩
          apply h1
          rw [deps] at a
          rw [fieldss] at b
          rw [pszs] at c
          unfold invB
          simp only [Bool.and_eq_true] at b
          simp only [reduceCtorEq, false_or] at a
          simp only [b.1, Bool.and_eq_true, decide_eq_true_eq, and_true]
          omega
    rw [inv]
    unfold invB
    rw [dep, fieldsV, psz]
    by_cases h1 : 8 < d ∨ usesOwn k n t l.length ks.length = false
    · rw [if_pos h1, if_neg]
      simp only [Bool.and_eq_true, decide_eq_true_eq]
      rintro ⟨⟨a, b⟩, c⟩
      rcases h1 with h1 | h1
      · omega
      · rw [h1] at b; simp at b
    · rw [if_neg h1]
      simp only [not_or, Bool.not_eq_false] at h1
      by_cases h2 : room - ownSz k n t l.length ks < 0 ∨ plainT t = false ∨ rising ks = false
      · rw [if_pos h2, if_neg]
        simp only [Bool.and_eq_true, decide_eq_true_eq]
        rintro ⟨⟨a, b⟩, c⟩
        rcases h2 with h2 | h2 | h2
        · omega
        · rw [h2] at b; simp at b
        · rw [h2] at b; simp at b
      · rw [if_neg h2]
        simp only [not_or, Bool.not_eq_false] at h2
        rw [key l ih (d + 1) _ (by omega)]
        have e : ((l = [] ∨ d + 1 + deps l ≤ 9) ∧ fieldss l = true ∧ (pszs l : Int) ≤ room - ownSz k n t l.length ks) ↔ (decide (d + (1 + deps l) ≤ 9) && (usesOwn k n t l.length ks.length && plainT t && rising ks && fieldss l) && decide (((ownSz k n t l.length ks + pszs l : Nat) : Int) ≤ room)) = true := by
          simp only [h1.2, h2.2.1, h2.2.2, Bool.true_and, Bool.and_eq_true, decide_eq_true_eq]
          have : l = [] → deps l = 0 := fun h => by rw [h, deps]
          constructor
          · rintro ⟨a, b, c⟩
            refine ⟨⟨?_, b⟩, by omega⟩
            rcases a with a | a
            · have := this a; omega
            · omega
          · rintro ⟨⟨a, b⟩, c⟩
            exact ⟨.inr (by omega), b, by omega⟩
        by_cases h3 : (l = [] ∨ d + 1 + deps l ≤ 9) ∧ fieldss l = true ∧ (pszs l : Int) ≤ room - ownSz k n t l.length ks
        · rw [if_pos h3, if_pos (e.1 h3)]
          congr 1
          omega
        · rw [if_neg h3, if_neg (fun h => h3 (e.2 h))]
theorem inv_may (v : V) : (inv 1 v 512).isSome = mayV v := by
  rw [inv_eq v 1 512 (by omega)]
  have e : invB 1 v 512 = mayV v := by
    unfold invB mayV
    have : decide (1 + dep v ≤ 9) = decide (dep v ≤ 8) := by rw [decide_eq_decide]; omega
    rw [this]
    have h2 : decide ((psz v : Int) ≤ 512) = decide (psz v ≤ 512) := by rw [decide_eq_decide]; omega
    rw [h2]
  rw [e]
  cases mayV v <;> rfl

/-! Of three values that may be. -/
theorem fields_kids {k n : Int} {t : List UInt8} {l : List V} {ks : List (List UInt8)} (h : fieldsV (.mk k n t l ks) = true) : usesOwn k n t l.length ks.length = true ∧ plainT t = true ∧ rising ks = true ∧ fieldss l = true := by
  rw [fieldsV] at h
  simp only [Bool.and_eq_true] at h
  exact ⟨h.1.1.1, h.1.1.2, h.1.2, h.2⟩
theorem fieldss_mem : ∀ {l : List V}, fieldss l = true → ∀ x ∈ l, fieldsV x = true
  | v :: l, h, x, hx => by
    rw [fieldss, Bool.and_eq_true] at h
    rcases List.mem_cons.1 hx with rfl | hx
    · exact h.1
    · exact fieldss_mem h.2 x hx
theorem fieldss_of {l : List V} (h : ∀ x ∈ l, fieldsV x = true) : fieldss l = true := by
  induction l with
  | nil => rfl
  | cons v l ih => rw [fieldss, h v List.mem_cons_self, ih (fun x hx => h x (List.mem_cons_of_mem _ hx))]; rfl
structure Uses (k n : Int) (t : List UInt8) (nl nk : Nat) : Prop where
  k0 : 0 ≤ k
  k6 : k ≤ 6
  num : k ≠ 3 → n = 0
  txt : k ≠ 4 → t = []
  lst : k < 5 → nl = 0
  key : k ≠ 6 → nk = 0
  obj : k = 6 → nk = nl
theorem uses_iff {k n : Int} {t : List UInt8} {nl nk : Nat} : usesOwn k n t nl nk = true ↔ Uses k n t nl nk := by
  unfold usesOwn
  simp only [Bool.and_eq_true, Bool.or_eq_true, decide_eq_true_eq, List.isEmpty_iff, beq_iff_eq, Bool.not_eq_true', decide_eq_false_iff_not]
  constructor
  · rintro ⟨⟨⟨⟨⟨⟨a, b⟩, c⟩, d⟩, e⟩, f⟩, g⟩
    exact ⟨a, b, fun h => c.resolve_left h, fun h => d.resolve_left h, fun h => e.resolve_left (by omega), fun h => f.resolve_left h, fun h => g.resolve_left (fun h' => h' h)⟩
  · rintro ⟨a, b, c, d, e, f, g⟩
    refine ⟨⟨⟨⟨⟨⟨a, b⟩, ?_⟩, ?_⟩, ?_⟩, ?_⟩, ?_⟩
    · by_cases h : k = 3
      · exact .inl h
      · exact .inr (c h)
    · by_cases h : k = 4
      · exact .inl h
      · exact .inr (d h)
    · by_cases h : 5 ≤ k
      · exact .inl h
      · exact .inr (e (by omega))
    · by_cases h : k = 6
      · exact .inl h
      · exact .inr (f h)
    · by_cases h : k = 6
      · exact .inr (g h)
      · exact .inl h
theorem lex_zero {a b : Int} : lex a b = 0 ↔ a = 0 ∧ b = 0 := by
  unfold lex
  by_cases h : a = 0 <;> simp [h]
theorem ord_ne (b : Bool) : ord b ≠ 0 := by cases b <;> simp [ord]
theorem cmpV_zero : ∀ a b, fieldsV a = true → fieldsV b = true → (cmpV a b = 0 ↔ a = b) := by
  intro a
  induction a using V.ind with
  | h k n t l ks ih =>
    rintro ⟨k', n', t', l', ks'⟩ ha hb
    obtain ⟨ua, -, -, fa⟩ := fields_kids ha
    obtain ⟨ub, -, -, fb⟩ := fields_kids hb
    rw [uses_iff] at ua ub
    have key : ∀ (l : List V), (∀ x ∈ l, ∀ b, fieldsV x = true → fieldsV b = true → (cmpV x b = 0 ↔ x = b)) → ∀ ks m js, fieldss l = true → fieldss m = true → (ks = [] ∧ js = [] ∨ ks.length = l.length ∧ js.length = m.length) → (cmpL l ks m js = 0 ↔ l = m ∧ ks = js) := by
      intro l
      induction l with
      | nil =>
        intro _ ks m js _ _ hl
        cases m with
        | nil =>
          rw [cmpL]
          rcases hl with ⟨rfl, rfl⟩ | ⟨h1, h2⟩
          · simp
          · rw [List.eq_nil_of_length_eq_zero h1, List.eq_nil_of_length_eq_zero h2]; simp
        | cons y m => simp [cmpL]
      | cons x l il =>
        intro hx ks m js h1 h2 hl
        cases m with
        | nil => simp [cmpL]
        | cons y m =>
          rw [fieldss, Bool.and_eq_true] at h1 h2
          rw [cmpL, lex_zero, lex_zero, hx x List.mem_cons_self y h1.1 h2.1]
          rcases hl with ⟨rfl, rfl⟩ | ⟨g1, g2⟩
          · simp only [List.tail_nil]
            rw [il (fun z hz => hx z (List.mem_cons_of_mem _ hz)) _ _ _ h1.2 h2.2 (.inl ⟨rfl, rfl⟩)]
            simp [headC]
          · cases ks with
            | nil => simp at g1
            | cons u ks =>
              cases js with
              | nil => simp at g2
              | cons v js =>
                rw [il (fun z hz => hx z (List.mem_cons_of_mem _ hz)) _ _ _ h1.2 h2.2 (.inr ⟨by simpa using g1, by simpa using g2⟩)]
                simp only [headC, List.tail_cons, cmpT_zero, List.cons.injEq]
                constructor
                · rintro ⟨a, b, c, d⟩; exact ⟨⟨b, c⟩, a, d⟩
                · rintro ⟨⟨b, c⟩, a, d⟩; exact ⟨a, b, c, d⟩
    rw [cmpV]
    by_cases h1 : k = k'
    · subst h1
      rw [if_neg (fun h => h rfl)]
      by_cases h2 : k = 3 ∧ n ≠ n'
      · rw [if_pos h2]
        refine ⟨fun h => absurd h (ord_ne _), fun h => ?_⟩
        injection h with _ h
        exact absurd h h2.2
      · rw [if_neg h2]
        have hn : n = n' := by
          by_cases h3 : k = 3
          · exact Decidable.not_not.1 fun h => h2 ⟨h3, h⟩
          · rw [ua.num h3, ub.num h3]
        subst hn
        by_cases h4 : k = 4
        · rw [if_pos h4, cmpT_zero]
          have e1 : l = [] := List.eq_nil_of_length_eq_zero (ua.lst (by omega))
          have e2 : l' = [] := List.eq_nil_of_length_eq_zero (ub.lst (by omega))
          have e3 : ks = [] := List.eq_nil_of_length_eq_zero (ua.key (by omega))
          have e4 : ks' = [] := List.eq_nil_of_length_eq_zero (ub.key (by omega))
          subst e1 e2 e3 e4
          simp
        · rw [if_neg h4, key l ih ks l' ks' fa fb ?_]
          · rw [ua.txt h4, ub.txt h4]
            simp
          · by_cases h6 : k = 6
            · exact .inr ⟨ua.obj h6, ub.obj h6⟩
            · exact .inl ⟨List.eq_nil_of_length_eq_zero (ua.key h6), List.eq_nil_of_length_eq_zero (ub.key h6)⟩
    · rw [if_pos h1]
      refine ⟨fun h => absurd h (ord_ne _), fun h => ?_⟩
      injection h with h
      exact absurd h h1
theorem ord_tr (a b c : Int) : Tr (if a ≠ b then ord (decide (a < b)) else 0) (if b ≠ c then ord (decide (b < c)) else 0) (if a ≠ c then ord (decide (a < c)) else 0) := by
  unfold Tr ord
  intro h1 h2
  by_cases p : a = b
  · subst p
    simp only [ne_eq, not_true_eq_false, if_false] at *
    refine ⟨h2, fun h => by simpa using h, fun _ h => h⟩
  · rw [if_pos p] at h1 ⊢
    by_cases p1 : a < b
    · by_cases q : b = c
      · subst q
        simp [p, p1]
      · rw [if_pos q] at h2 ⊢
        by_cases q1 : b < c
        · simp [show ¬ a = c by omega, show a < c by omega, p1, q1]
        · simp [q1] at h2
    · simp [p1] at h1
theorem ord_lex (a b c : Int) {x y z : Int} (h : a = b → b = c → Tr x y z) : Tr (if a ≠ b then ord (decide (a < b)) else x) (if b ≠ c then ord (decide (b < c)) else y) (if a ≠ c then ord (decide (a < c)) else z) := by
  by_cases p : a = b
  · by_cases q : b = c
    · subst p q
      simpa using h rfl rfl
    · subst p
      unfold Tr ord
      intro h1 h2
      simp only [ne_eq, not_true_eq_false, q, not_false_eq_true, if_false, if_true] at h1 h2 ⊢
      by_cases q1 : a < c
      · simp [q1]
      · simp [q1] at h2
  · unfold Tr ord
    intro h1 h2
    rw [if_pos p] at h1 ⊢
    by_cases p1 : a < b
    · by_cases q : b = c
      · subst q
        simp [p, p1]
      · rw [if_pos q] at h2 ⊢
        by_cases q1 : b < c
        · simp [show ¬ a = c by omega, show a < c by omega, p1, q1]
        · simp [q1] at h2
    · simp [p1] at h1
theorem cmpV_tr : ∀ a b c, fieldsV a = true → fieldsV b = true → fieldsV c = true → Tr (cmpV a b) (cmpV b c) (cmpV a c) := by
  intro a
  induction a using V.ind with
  | h k n t l ks ih =>
    rintro ⟨k', n', t', l', ks'⟩ ⟨k'', n'', t'', l'', ks''⟩ ha hb hc
    obtain ⟨ua, -, -, fa⟩ := fields_kids ha
    obtain ⟨ub, -, -, fb⟩ := fields_kids hb
    obtain ⟨uc, -, -, fc⟩ := fields_kids hc
    rw [uses_iff] at ua ub uc
    have key : ∀ (l : List V), (∀ x ∈ l, ∀ b c, fieldsV x = true → fieldsV b = true → fieldsV c = true → Tr (cmpV x b) (cmpV b c) (cmpV x c)) → ∀ ks m js r is, fieldss l = true → fieldss m = true → fieldss r = true → (ks = [] ∧ js = [] ∧ is = [] ∨ ks.length = l.length ∧ js.length = m.length ∧ is.length = r.length) → Tr (cmpL l ks m js) (cmpL m js r is) (cmpL l ks r is) := by
      intro l
      induction l with
      | nil =>
        intro _ ks m js r is _ _ _ _
        cases m <;> cases r <;> simp [cmpL, Tr]
      | cons x l il =>
        intro hx ks m js r is h1 h2 h3 hl
        cases m with
        | nil => cases r <;> simp [cmpL, Tr]
        | cons y m =>
          cases r with
          | nil => simp [cmpL, Tr]
          | cons z r =>
            rw [fieldss, Bool.and_eq_true] at h1 h2 h3
            rw [cmpL, cmpL, cmpL]
            refine Tr.lex ?_ (Tr.lex (hx x List.mem_cons_self y z h1.1 h2.1 h3.1) (il (fun z hz => hx z (List.mem_cons_of_mem _ hz)) _ _ _ _ _ h1.2 h2.2 h3.2 ?_))
            · rcases hl with ⟨rfl, rfl, rfl⟩ | ⟨g1, g2, g3⟩
              · simp [headC, Tr]
              · cases ks with
                | nil => simp at g1
                | cons u ks => cases js with
                  | nil => simp at g2
                  | cons v js => cases is with
                    | nil => simp at g3
                    | cons w is => exact cmpT_tr _ _ _
            · rcases hl with ⟨rfl, rfl, rfl⟩ | ⟨g1, g2, g3⟩
              · exact .inl ⟨rfl, rfl, rfl⟩
              · exact .inr ⟨by simp [g1], by simp [g2], by simp [g3]⟩
    rw [cmpV, cmpV, cmpV]
    refine ord_lex k k' k'' ?_
    rintro rfl rfl
    by_cases h3 : k = 3
    · simp only [h3, true_and]
      refine ord_lex n n' n'' ?_
      rintro rfl rfl
      subst h3
      simp only [show ¬ (3 : Int) = 4 by omega, if_false]
      exact key l ih _ _ _ _ _ fa fb fc (.inl ⟨List.eq_nil_of_length_eq_zero (ua.key (by omega)), List.eq_nil_of_length_eq_zero (ub.key (by omega)), List.eq_nil_of_length_eq_zero (uc.key (by omega))⟩)
    · simp only [h3, false_and, if_false]
      by_cases h4 : k = 4
      · simp only [h4, if_true]
        exact cmpT_tr _ _ _
      · simp only [h4, if_false]
        refine key l ih _ _ _ _ _ fa fb fc ?_
        by_cases h6 : k = 6
        · exact .inr ⟨ua.obj h6, ub.obj h6, uc.obj h6⟩
        · exact .inl ⟨List.eq_nil_of_length_eq_zero (ua.key h6), List.eq_nil_of_length_eq_zero (ub.key h6), List.eq_nil_of_length_eq_zero (uc.key h6)⟩
end Go.Proofs.YtnkfkicabgajmaaDoor
