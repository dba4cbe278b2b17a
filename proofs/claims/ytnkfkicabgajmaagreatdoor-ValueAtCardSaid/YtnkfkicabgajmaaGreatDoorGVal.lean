/-
  ValP, ValQ, Val, in one text (merge.py).
-/
import Derived.Lib.ItoaNum
import Derived.Lib.ParseIntB
import Derived.Lib.ParseIntBCases
import Derived.Test.YtnkfkicabgajmaaGreatDoorGBase
import Derived.Deep.OwnRows
import Derived.Deep.QuietTactic
import Derived.BigQuiet
import Derived.IntWalk
import Derived.Deep.CutRange
import Derived.Outline
import Derived.StillTailTactics
import Derived.Deep.RegionHeld3

/-
  VALUES AS PLAIN DATA, what may be, how they stand, their texts. No program is named here.
-/
namespace Go.Proofs.YtnkfkicabgajmaaGreatDoor
set_option linter.unusedSimpArgs false
set_option linter.unusedVariables false
open Go

inductive V where
  | mk (k n : Int) (t : List UInt8) (l : List V) (ks : List (List UInt8))
namespace V
set_option linter.unusedSimpArgs false
set_option linter.unusedVariables false
def k : V → Int | .mk k _ _ _ _ => k
def n : V → Int | .mk _ n _ _ _ => n
def t : V → List UInt8 | .mk _ _ t _ _ => t
def l : V → List V | .mk _ _ _ l _ => l
def ks : V → List (List UInt8) | .mk _ _ _ _ ks => ks
end V
abbrev V.zero : V := .mk 0 0 [] [] []
mutual
def V.sz : V → Nat
  | .mk _ _ _ l _ => 1 + szs l
def szs : List V → Nat
  | [] => 0
  | v :: l => v.sz + szs l
end
theorem sz_mem {x : V} : ∀ {l : List V}, x ∈ l → x.sz ≤ szs l
  | v :: l, h => by
    rw [szs]
    rcases List.mem_cons.1 h with rfl | h
    · omega
    · have := sz_mem h
      omega
theorem V.sz_pos : ∀ v : V, 0 < v.sz
  | .mk _ _ _ _ _ => by rw [V.sz]; omega
theorem sz_kid {x : V} {k n : Int} {t : List UInt8} {l : List V} {ks : List (List UInt8)} (h : x ∈ l) : x.sz < (V.mk k n t l ks).sz := by
  have := sz_mem h
  rw [V.sz]
  omega
theorem V.ind {P : V → Prop} (h : ∀ k n t l ks, (∀ x ∈ l, P x) → P (.mk k n t l ks)) : ∀ v, P v := by
  have : ∀ m, ∀ v : V, v.sz ≤ m → P v := by
    intro m
    induction m with
    | zero => intro v hv; have := v.sz_pos; omega
    | succ m ih =>
      intro v hv
      obtain ⟨k, n, t, l, ks⟩ := v
      exact h k n t l ks (fun x hx => ih x (by have := sz_kid (k := k) (n := n) (t := t) (ks := ks) hx; omega))
  exact fun v => this _ v (Nat.le_refl _)

/-! Alike. -/
mutual
def eqv : V → V → Bool
  | .mk k n t l ks, .mk k' n' t' l' ks' => k == k' && n == n' && t == t' && ks == ks' && eqvs l l'
def eqvs : List V → List V → Bool
  | [], [] => true
  | a :: l, b :: m => eqv a b && eqvs l m
  | _, _ => false
end
theorem eqv_iff : ∀ a b : V, eqv a b = true ↔ a = b := by
  intro a
  induction a using V.ind with
  | h k n t l ks ih =>
    intro b
    obtain ⟨k', n', t', l', ks'⟩ := b
    have key : ∀ (l m : List V), (∀ x ∈ l, ∀ b, eqv x b = true ↔ x = b) → (eqvs l m = true ↔ l = m) := by
      intro l
      induction l with
      | nil => intro m _; cases m <;> simp [eqvs]
      | cons x l il =>
        intro m hx
        cases m with
        | nil => simp [eqvs]
        | cons y m =>
          simp only [eqvs, Bool.and_eq_true, List.cons.injEq]
          rw [hx x List.mem_cons_self, il m (fun z hz => hx z (List.mem_cons_of_mem _ hz))]
    simp only [eqv, Bool.and_eq_true, beq_iff_eq, V.mk.injEq]
    rw [key l l' ih]
    constructor
    · rintro ⟨⟨⟨⟨h1, h2⟩, h3⟩, h4⟩, h5⟩
      exact ⟨h1, h2, h3, h5, h4⟩
    · rintro ⟨h1, h2, h3, h5, h4⟩
      exact ⟨⟨⟨⟨h1, h2⟩, h3⟩, h4⟩, h5⟩
theorem eqvs_iff (l m : List V) : eqvs l m = true ↔ l = m := by
  induction l generalizing m with
  | nil => cases m <;> simp [eqvs]
  | cons x l il =>
    cases m with
    | nil => simp [eqvs]
    | cons y m => simp only [eqvs, Bool.and_eq_true, List.cons.injEq, eqv_iff, il]
theorem eqv_comm (a b : V) : eqv a b = eqv b a := by
  rw [Bool.eq_iff_iff, eqv_iff, eqv_iff]
  exact eq_comm

/-! Texts, side by side. -/
def cmpT : List UInt8 → List UInt8 → Int
  | [], [] => 0
  | [], _ :: _ => -1
  | _ :: _, [] => 1
  | a :: l, b :: m => if a < b then -1 else if b < a then 1 else cmpT l m
theorem u8_tri (a b : UInt8) : a < b ∧ ¬ b < a ∧ a ≠ b ∨ b < a ∧ ¬ a < b ∧ a ≠ b ∨ a = b ∧ ¬ a < b ∧ ¬ b < a := by
  simp only [UInt8.lt_iff_toNat_lt]
  rcases Nat.lt_trichotomy a.toNat b.toNat with h | h | h
  · exact .inl ⟨h, by omega, fun e => by rw [e] at h; omega⟩
  · exact .inr (.inr ⟨UInt8.toNat_inj.1 h, by omega, by omega⟩)
  · exact .inr (.inl ⟨h, by omega, fun e => by rw [e] at h; omega⟩)
theorem cmpT_bd : ∀ a b, cmpT a b = -1 ∨ cmpT a b = 0 ∨ cmpT a b = 1
  | [], [] => by simp [cmpT]
  | [], _ :: _ => by simp [cmpT]
  | _ :: _, [] => by simp [cmpT]
  | a :: l, b :: m => by
    rw [cmpT]
    split
    · simp
    · split
      · simp
      · exact cmpT_bd l m
theorem cmpT_neg : ∀ a b, cmpT a b = - cmpT b a
  | [], [] => by simp [cmpT]
  | [], _ :: _ => by simp [cmpT]
  | _ :: _, [] => by simp [cmpT]
  | a :: l, b :: m => by
    rw [cmpT, cmpT]
    rcases u8_tri a b with ⟨h1, h2, -⟩ | ⟨h1, h2, -⟩ | ⟨rfl, h1, -⟩
    · simp [h1, h2]
    · simp [h1, h2]
    · simp only [h1, if_false]; exact cmpT_neg l m
theorem cmpT_zero : ∀ a b, cmpT a b = 0 ↔ a = b
  | [], [] => by simp [cmpT]
  | [], _ :: _ => by simp [cmpT]
  | _ :: _, [] => by simp [cmpT]
  | a :: l, b :: m => by
    rw [cmpT]
    rcases u8_tri a b with ⟨h1, h2, h3⟩ | ⟨h1, h2, h3⟩ | ⟨rfl, h1, -⟩
    · simp [h1, h3]
    · simp [h1, h2, h3]
    · simp [cmpT_zero l m]
/-- Of three: what stands ahead of what stands ahead. -/
def Tr (x y z : Int) : Prop := x ≤ 0 → y ≤ 0 → z ≤ 0 ∧ ((x < 0 ∨ y < 0) → z < 0) ∧ (x = 0 → y = 0 → z = 0)
def lex (c d : Int) : Int := if c = 0 then d else c
theorem Tr.lex {x y z x' y' z' : Int} (h : Tr x y z) (h' : Tr x' y' z') : Tr (lex x x') (lex y y') (lex z z') := by
  unfold Tr Go.Proofs.YtnkfkicabgajmaaGreatDoor.lex at *
  intro h1 h2
  by_cases hx : x = 0
  · rw [if_pos hx] at h1 ⊢
    by_cases hy : y = 0
    · have hz := (h (by omega) (by omega)).2.2 hx hy
      rw [if_pos hy] at h2 ⊢
      rw [if_pos hz]
      exact h' h1 h2
    · rw [if_neg hy] at h2 ⊢
      have hz := (h (by omega) (by omega)).2.1 (by omega)
      rw [if_neg (by omega)]
      omega
  · rw [if_neg hx] at h1 ⊢
    have hy : y ≤ 0 := by
      by_cases hy : y = 0
      · omega
      · rw [if_neg hy] at h2; exact h2
    have hz := (h (by omega) (by omega)).2.1 (by omega)
    rw [if_neg (show ¬ z = 0 by omega)]
    refine ⟨by omega, fun _ => hz, fun h => absurd h hx⟩
theorem cmpT_tr : ∀ a b c, Tr (cmpT a b) (cmpT b c) (cmpT a c)
  | [], [], c => by intro h1 h2; refine ⟨h2, fun h => ?_, fun _ h => h⟩; simpa [cmpT] using h
  | [], _ :: _, [] => by intro h1 h2; simp [cmpT] at h2
  | [], _ :: _, _ :: _ => by intro h1 h2; simp [cmpT]
  | _ :: _, [], _ => by intro h1 h2; simp [cmpT] at h1
  | _ :: _, _ :: _, [] => by intro h1 h2; simp [cmpT] at h2
  | a :: l, b :: m, c :: r => by
    have ih := cmpT_tr l m r
    intro h1 h2
    rw [cmpT] at h1 h2 ⊢
    rcases u8_tri a b with ⟨p1, p2, p3⟩ | ⟨p1, p2, p3⟩ | ⟨rfl, p1, p2⟩
    · rcases u8_tri b c with ⟨q1, q2, q3⟩ | ⟨q1, q2, q3⟩ | ⟨rfl, q1, q2⟩
      · have : a < c := by simp only [UInt8.lt_iff_toNat_lt] at *; omega
        simp [this, p1, q1, cmpT]
      · simp [q1, q2] at h2
      · simp [p1, q1, q2, cmpT]
    · simp [p1, p2] at h1
    · rcases u8_tri a c with ⟨q1, q2, q3⟩ | ⟨q1, q2, q3⟩ | ⟨rfl, q1, q2⟩
      · simp [p1, q1, cmpT]
      · simp [q1, q2] at h2
      · simp only [p1, if_false, cmpT] at h1 h2 ⊢
        exact ih h1 h2

/-! Values, side by side. -/
def ord (b : Bool) : Int := if b then -1 else 1
def headC : List (List UInt8) → List (List UInt8) → Int
  | x :: _, y :: _ => cmpT x y
  | _, _ => 0
mutual
def cmpV : V → V → Int
  | .mk k n t l ks, .mk k' n' t' l' ks' =>
    if k ≠ k' then ord (decide (k < k')) else if k = 3 ∧ n ≠ n' then ord (decide (n < n')) else if k = 4 then cmpT t t' else cmpL l ks l' ks'
def cmpL : List V → List (List UInt8) → List V → List (List UInt8) → Int
  | [], _, [], _ => 0
  | [], _, _ :: _, _ => -1
  | _ :: _, _, [], _ => 1
  | a :: l, ks, b :: m, js => lex (headC ks js) (lex (cmpV a b) (cmpL l ks.tail m js.tail))
end
theorem ord_bd (b : Bool) : ord b = -1 ∨ ord b = 0 ∨ ord b = 1 := by cases b <;> simp [ord]
theorem headC_bd (a b) : headC a b = -1 ∨ headC a b = 0 ∨ headC a b = 1 := by
  cases a <;> cases b <;> simp [headC, cmpT_bd]
theorem lex_bd {a b : Int} (h1 : a = -1 ∨ a = 0 ∨ a = 1) (h2 : b = -1 ∨ b = 0 ∨ b = 1) : lex a b = -1 ∨ lex a b = 0 ∨ lex a b = 1 := by
  unfold lex; split <;> assumption
theorem cmpV_bd : ∀ a b, cmpV a b = -1 ∨ cmpV a b = 0 ∨ cmpV a b = 1 := by
  intro a
  induction a using V.ind with
  | h k n t l ks ih =>
    rintro ⟨k', n', t', l', ks'⟩
    have key : ∀ (l : List V), (∀ x ∈ l, ∀ b, cmpV x b = -1 ∨ cmpV x b = 0 ∨ cmpV x b = 1) → ∀ ks m js, cmpL l ks m js = -1 ∨ cmpL l ks m js = 0 ∨ cmpL l ks m js = 1 := by
      intro l
      induction l with
      | nil => intro _ ks m js; cases m <;> simp [cmpL]
      | cons x l il =>
        intro hx ks m js
        cases m with
        | nil => simp [cmpL]
        | cons y m =>
          rw [cmpL]
          exact lex_bd (headC_bd _ _) (lex_bd (hx x List.mem_cons_self y) (il (fun z hz => hx z (List.mem_cons_of_mem _ hz)) _ _ _))
    rw [cmpV]
    repeat' split
    · exact ord_bd _
    · exact ord_bd _
    · exact cmpT_bd _ _
    · exact key l ih _ _ _
theorem lex_neg {a b c d : Int} (h1 : a = -c) (h2 : b = -d) : lex a b = - lex c d := by
  unfold lex
  subst h1 h2
  by_cases h : c = 0
  · simp [h]
  · simp [h]
theorem headC_neg (a b) : headC a b = - headC b a := by
  cases a <;> cases b <;> simp [headC]
  exact cmpT_neg _ _
theorem ord_neg {a b : Int} (h : a ≠ b) : ord (decide (a < b)) = - ord (decide (b < a)) := by
  unfold ord
  rcases Int.lt_trichotomy a b with h1 | h1 | h1
  · simp [h1, show ¬ b < a by omega]
  · exact absurd h1 h
  · simp [h1, show ¬ a < b by omega]
theorem cmpV_neg : ∀ a b, cmpV a b = - cmpV b a := by
  intro a
  induction a using V.ind with
  | h k n t l ks ih =>
    rintro ⟨k', n', t', l', ks'⟩
    have key : ∀ (l : List V), (∀ x ∈ l, ∀ b, cmpV x b = - cmpV b x) → ∀ ks m js, cmpL l ks m js = - cmpL m js l ks := by
      intro l
      induction l with
      | nil => intro _ ks m js; cases m <;> simp [cmpL]
      | cons x l il =>
        intro hx ks m js
        cases m with
        | nil => simp [cmpL]
        | cons y m =>
          rw [cmpL, cmpL]
          exact lex_neg (headC_neg _ _) (lex_neg (hx x List.mem_cons_self y) (il (fun z hz => hx z (List.mem_cons_of_mem _ hz)) _ _ _))
    rw [cmpV, cmpV]
    by_cases h1 : k = k'
    · subst h1
      simp only [ne_eq, not_true_eq_false, if_false]
      by_cases h2 : k = 3
      · by_cases h3 : n = n'
        · subst h3
          simp [h2]
          exact key l ih _ _ _
        · simp only [h2, h3, true_and, Ne.symm h3, not_false_eq_true, if_true, ne_eq, show ¬ n' = n from fun e => h3 e.symm]
          exact ord_neg h3
      · simp only [h2, false_and, if_false]
        split
        · exact cmpT_neg _ _
        · exact key l ih _ _ _
    · simp only [ne_eq, h1, not_false_eq_true, if_true, show ¬ k' = k from fun e => h1 e.symm]
      exact ord_neg h1

/-! What may be. -/
def usesOwn (k n : Int) (t : List UInt8) (nl nk : Nat) : Bool :=
  decide (0 ≤ k) && decide (k ≤ 6) && (decide (k = 3) || decide (n = 0)) && (decide (k = 4) || t.isEmpty) && (decide (5 ≤ k) || nl == 0) && (decide (k = 6) || nk == 0) && (!decide (k = 6) || nk == nl)
def plainB (c : UInt8) : Bool := decide (32 ≤ c.toNat) && decide (c.toNat ≤ 126)
def plainT (s : List UInt8) : Bool := s.all plainB
def keyB (c : UInt8) : Bool := decide (33 ≤ c.toNat) && decide (c.toNat ≤ 126) && !(c == 46) && !(c == 34)
def keyOk (s : List UInt8) : Bool := decide (0 < s.length) && decide (s.length ≤ 24) && s.all keyB
def riseAt (ks : List (List UInt8)) (i : Nat) : Bool := keyOk (ks.getD i []) && (i == 0 || decide (cmpT (ks.getD (i - 1) []) (ks.getD i []) < 0))
def rising (ks : List (List UInt8)) : Bool := (List.range ks.length).all (riseAt ks)
theorem rising_iff (ks : List (List UInt8)) : rising ks = true ↔ ∀ i, i < ks.length → riseAt ks i = true := by
  simp [rising]
theorem rising_no {ks : List (List UInt8)} {i : Nat} (h : i < ks.length) (hr : riseAt ks i = false) : rising ks = false := by
  rw [Bool.eq_false_iff]
  intro h1
  rw [(rising_iff ks).1 h1 i h] at hr
  cases hr
def esc1 (c : UInt8) : List UInt8 := if c == 34 || c == 92 then [92, c] else [c]
def escs (s : List UInt8) : List UInt8 := s.flatMap esc1
def nesc (s : List UInt8) : Nat := s.count 34 + s.count 92
theorem escs_len (s : List UInt8) : (escs s).length = s.length + nesc s := by
  unfold escs nesc
  induction s with
  | nil => rfl
  | cons c s ih =>
    rw [List.flatMap_cons, List.length_append, ih]
    simp only [List.count_cons, List.length_cons, esc1]
    by_cases h1 : c = 34
    · subst h1; simp; omega
    · by_cases h2 : c = 92
      · subst h2; simp; omega
      · simp [h1, h2]; omega
def quoted (s : List UInt8) : List UInt8 := 34 :: (escs s ++ [34])
theorem quoted_len (s : List UInt8) : (quoted s).length = s.length + nesc s + 2 := by
  simp [quoted, escs_len]
mutual
def dep : V → Nat
  | .mk _ _ _ l _ => 1 + deps l
def deps : List V → Nat
  | [] => 0
  | v :: l => max (dep v) (deps l)
end
mutual
def fieldsV : V → Bool
  | .mk k n t l ks => usesOwn k n t l.length ks.length && plainT t && rising ks && fieldss l
def fieldss : List V → Bool
  | [] => true
  | v :: l => fieldsV v && fieldss l
end
def ksz : List (List UInt8) → Nat
  | [] => 0
  | s :: ks => s.length + nesc s + 3 + ksz ks
/-- The bytes of a number's text. -/
def decI (n : Int) : List UInt8 := Lib.itoa n
def ownSz (k n : Int) (t : List UInt8) (nl : Nat) (ks : List (List UInt8)) : Nat :=
  if k = 1 then 5 else if k = 3 then (decI n).length else if k = 4 then t.length + nesc t + 2 else if k = 5 ∨ k = 6 then 2 + (nl - 1) + ksz ks else 4
mutual
def psz : V → Nat
  | .mk k n t l ks => ownSz k n t l.length ks + pszs l
def pszs : List V → Nat
  | [] => 0
  | v :: l => psz v + pszs l
end
def mayV (v : V) : Bool := decide (dep v ≤ 8) && fieldsV v && decide (psz v ≤ 512)
mutual
/-- What room is left. -/
def inv (d : Nat) : V → Int → Option Int
  | .mk k n t l ks, room =>
    if 8 < d ∨ usesOwn k n t l.length ks.length = false then none
    else if room - ownSz k n t l.length ks < 0 ∨ plainT t = false ∨ rising ks = false then none
    else invs (d + 1) l (room - ownSz k n t l.length ks)
def invs (d : Nat) : List V → Int → Option Int
  | [], room => some room
  | v :: l, room => match inv d v room with
    | none => none
    | some r => invs d l r
end
def invB (d : Nat) (v : V) (room : Int) : Bool := decide (d + dep v ≤ 9) && fieldsV v && decide ((psz v : Int) ≤ room)
theorem dep_pos (v : V) : 1 ≤ dep v := by
  obtain ⟨k, n, t, l, ks⟩ := v
  rw [dep]; omega
theorem inv_eq : ∀ (v : V) (d : Nat) (room : Int), 0 ≤ room → inv d v room = if invB d v room then some (room - psz v) else none := by
  intro v
  induction v using V.ind with
  | h k n t l ks ih =>
    intro d room h0
    have key : ∀ (l : List V), (∀ x ∈ l, ∀ (d : Nat) (room : Int), 0 ≤ room → inv d x room = if invB d x room then some (room - psz x) else none) → ∀ (d : Nat) (room : Int), 0 ≤ room →
        invs d l room = if (l = [] ∨ d + deps l ≤ 9) ∧ fieldss l = true ∧ (pszs l : Int) ≤ room then some (room - pszs l) else none := by
      intro l
      induction l with
      | nil => intro _ d room h0; simp [invs, fieldss, pszs, h0]
      | cons x l il =>
        intro hx d room h0
        rw [invs, hx x List.mem_cons_self d room h0]
        by_cases h1 : invB d x room = true
        · rw [if_pos h1]
          unfold invB at h1
          simp only [Bool.and_eq_true, decide_eq_true_eq] at h1
          simp only
          rw [il (fun z hz => hx z (List.mem_cons_of_mem _ hz)) d _ (by omega)]
          have e : ((l = [] ∨ d + deps l ≤ 9) ∧ fieldss l = true ∧ (pszs l : Int) ≤ room - psz x) ↔ ((x :: l = [] ∨ d + deps (x :: l) ≤ 9) ∧ fieldss (x :: l) = true ∧ (pszs (x :: l) : Int) ≤ room) := by
            rw [deps, fieldss, pszs]
            simp only [reduceCtorEq, false_or, h1.1.2, Bool.true_and]
            have : l = [] → deps l = 0 := fun h => by rw [h, deps]
            constructor
            · rintro ⟨a, b, c⟩
              refine ⟨?_, b, by omega⟩
              rcases a with a | a
              · have := this a; omega
              · omega
            · rintro ⟨a, b, c⟩
              exact ⟨.inr (by omega), b, by omega⟩
          by_cases h2 : (l = [] ∨ d + deps l ≤ 9) ∧ fieldss l = true ∧ (pszs l : Int) ≤ room - psz x
          · rw [if_pos h2, if_pos (e.1 h2), pszs]
            congr 1
            omega
          · rw [if_neg h2, if_neg (fun h => h2 (e.2 h))]
        · rw [if_neg h1, if_neg]
          rintro ⟨a, b, c⟩
          apply h1
          rw [deps] at a
          rw [fieldss] at b
          rw [pszs] at c
          unfold invB
          simp only [Bool.and_eq_true] at b
          simp only [reduceCtorEq, false_or] at a
          simp only [b.1, Bool.and_eq_true, decide_eq_true_eq, and_true]
          omega
    rw [inv]
    unfold invB
    rw [dep, fieldsV, psz]
    by_cases h1 : 8 < d ∨ usesOwn k n t l.length ks.length = false
    · rw [if_pos h1, if_neg]
      simp only [Bool.and_eq_true, decide_eq_true_eq]
      rintro ⟨⟨a, b⟩, c⟩
      rcases h1 with h1 | h1
      · omega
      · rw [h1] at b; simp at b
    · rw [if_neg h1]
      simp only [not_or, Bool.not_eq_false] at h1
      by_cases h2 : room - ownSz k n t l.length ks < 0 ∨ plainT t = false ∨ rising ks = false
      · rw [if_pos h2, if_neg]
        simp only [Bool.and_eq_true, decide_eq_true_eq]
        rintro ⟨⟨a, b⟩, c⟩
        rcases h2 with h2 | h2 | h2
        · omega
        · rw [h2] at b; simp at b
        · rw [h2] at b; simp at b
      · rw [if_neg h2]
        simp only [not_or, Bool.not_eq_false] at h2
        rw [key l ih (d + 1) _ (by omega)]
        have e : ((l = [] ∨ d + 1 + deps l ≤ 9) ∧ fieldss l = true ∧ (pszs l : Int) ≤ room - ownSz k n t l.length ks) ↔ (decide (d + (1 + deps l) ≤ 9) && (usesOwn k n t l.length ks.length && plainT t && rising ks && fieldss l) && decide (((ownSz k n t l.length ks + pszs l : Nat) : Int) ≤ room)) = true := by
          simp only [h1.2, h2.2.1, h2.2.2, Bool.true_and, Bool.and_eq_true, decide_eq_true_eq]
          have : l = [] → deps l = 0 := fun h => by rw [h, deps]
          constructor
          · rintro ⟨a, b, c⟩
            refine ⟨⟨?_, b⟩, by omega⟩
            rcases a with a | a
            · have := this a; omega
            · omega
          · rintro ⟨⟨a, b⟩, c⟩
            exact ⟨.inr (by omega), b, by omega⟩
        by_cases h3 : (l = [] ∨ d + 1 + deps l ≤ 9) ∧ fieldss l = true ∧ (pszs l : Int) ≤ room - ownSz k n t l.length ks
        · rw [if_pos h3, if_pos (e.1 h3)]
          congr 1
          omega
        · rw [if_neg h3, if_neg (fun h => h3 (e.2 h))]
theorem inv_may (v : V) : (inv 1 v 512).isSome = mayV v := by
  rw [inv_eq v 1 512 (by omega)]
  have e : invB 1 v 512 = mayV v := by
    unfold invB mayV
    have : decide (1 + dep v ≤ 9) = decide (dep v ≤ 8) := by rw [decide_eq_decide]; omega
    rw [this]
    have h2 : decide ((psz v : Int) ≤ 512) = decide (psz v ≤ 512) := by rw [decide_eq_decide]; omega
    rw [h2]
  rw [e]
  cases mayV v <;> rfl

/-! Of three values that may be. -/
theorem fields_kids {k n : Int} {t : List UInt8} {l : List V} {ks : List (List UInt8)} (h : fieldsV (.mk k n t l ks) = true) : usesOwn k n t l.length ks.length = true ∧ plainT t = true ∧ rising ks = true ∧ fieldss l = true := by
  rw [fieldsV] at h
  simp only [Bool.and_eq_true] at h
  exact ⟨h.1.1.1, h.1.1.2, h.1.2, h.2⟩
theorem fieldss_mem : ∀ {l : List V}, fieldss l = true → ∀ x ∈ l, fieldsV x = true
  | v :: l, h, x, hx => by
    rw [fieldss, Bool.and_eq_true] at h
    rcases List.mem_cons.1 hx with rfl | hx
    · exact h.1
    · exact fieldss_mem h.2 x hx
theorem fieldss_of {l : List V} (h : ∀ x ∈ l, fieldsV x = true) : fieldss l = true := by
  induction l with
  | nil => rfl
  | cons v l ih => rw [fieldss, h v List.mem_cons_self, ih (fun x hx => h x (List.mem_cons_of_mem _ hx))]; rfl
structure Uses (k n : Int) (t : List UInt8) (nl nk : Nat) : Prop where
  k0 : 0 ≤ k
  k6 : k ≤ 6
  num : k ≠ 3 → n = 0
  txt : k ≠ 4 → t = []
  lst : k < 5 → nl = 0
  key : k ≠ 6 → nk = 0
  obj : k = 6 → nk = nl
theorem uses_iff {k n : Int} {t : List UInt8} {nl nk : Nat} : usesOwn k n t nl nk = true ↔ Uses k n t nl nk := by
  unfold usesOwn
  simp only [Bool.and_eq_true, Bool.or_eq_true, decide_eq_true_eq, List.isEmpty_iff, beq_iff_eq, Bool.not_eq_true', decide_eq_false_iff_not]
  constructor
  · rintro ⟨⟨⟨⟨⟨⟨a, b⟩, c⟩, d⟩, e⟩, f⟩, g⟩
    exact ⟨a, b, fun h => c.resolve_left h, fun h => d.resolve_left h, fun h => e.resolve_left (by omega), fun h => f.resolve_left h, fun h => g.resolve_left (fun h' => h' h)⟩
  · rintro ⟨a, b, c, d, e, f, g⟩
    refine ⟨⟨⟨⟨⟨⟨a, b⟩, ?_⟩, ?_⟩, ?_⟩, ?_⟩, ?_⟩
    · by_cases h : k = 3
      · exact .inl h
      · exact .inr (c h)
    · by_cases h : k = 4
      · exact .inl h
      · exact .inr (d h)
    · by_cases h : 5 ≤ k
      · exact .inl h
      · exact .inr (e (by omega))
    · by_cases h : k = 6
      · exact .inl h
      · exact .inr (f h)
    · by_cases h : k = 6
      · exact .inr (g h)
      · exact .inl h
theorem lex_zero {a b : Int} : lex a b = 0 ↔ a = 0 ∧ b = 0 := by
  unfold lex
  by_cases h : a = 0 <;> simp [h]
theorem ord_ne (b : Bool) : ord b ≠ 0 := by cases b <;> simp [ord]
theorem cmpV_zero : ∀ a b, fieldsV a = true → fieldsV b = true → (cmpV a b = 0 ↔ a = b) := by
  intro a
  induction a using V.ind with
  | h k n t l ks ih =>
    rintro ⟨k', n', t', l', ks'⟩ ha hb
    obtain ⟨ua, -, -, fa⟩ := fields_kids ha
    obtain ⟨ub, -, -, fb⟩ := fields_kids hb
    rw [uses_iff] at ua ub
    have key : ∀ (l : List V), (∀ x ∈ l, ∀ b, fieldsV x = true → fieldsV b = true → (cmpV x b = 0 ↔ x = b)) → ∀ ks m js, fieldss l = true → fieldss m = true → (ks = [] ∧ js = [] ∨ ks.length = l.length ∧ js.length = m.length) → (cmpL l ks m js = 0 ↔ l = m ∧ ks = js) := by
      intro l
      induction l with
      | nil =>
        intro _ ks m js _ _ hl
        cases m with
        | nil =>
          rw [cmpL]
          rcases hl with ⟨rfl, rfl⟩ | ⟨h1, h2⟩
          · simp
          · rw [List.eq_nil_of_length_eq_zero h1, List.eq_nil_of_length_eq_zero h2]; simp
        | cons y m => simp [cmpL]
      | cons x l il =>
        intro hx ks m js h1 h2 hl
        cases m with
        | nil => simp [cmpL]
        | cons y m =>
          rw [fieldss, Bool.and_eq_true] at h1 h2
          rw [cmpL, lex_zero, lex_zero, hx x List.mem_cons_self y h1.1 h2.1]
          rcases hl with ⟨rfl, rfl⟩ | ⟨g1, g2⟩
          · simp only [List.tail_nil]
            rw [il (fun z hz => hx z (List.mem_cons_of_mem _ hz)) _ _ _ h1.2 h2.2 (.inl ⟨rfl, rfl⟩)]
            simp [headC]
          · cases ks with
            | nil => simp at g1
            | cons u ks =>
              cases js with
              | nil => simp at g2
              | cons v js =>
                rw [il (fun z hz => hx z (List.mem_cons_of_mem _ hz)) _ _ _ h1.2 h2.2 (.inr ⟨by simpa using g1, by simpa using g2⟩)]
                simp only [headC, List.tail_cons, cmpT_zero, List.cons.injEq]
                constructor
                · rintro ⟨a, b, c, d⟩; exact ⟨⟨b, c⟩, a, d⟩
                · rintro ⟨⟨b, c⟩, a, d⟩; exact ⟨a, b, c, d⟩
    rw [cmpV]
    by_cases h1 : k = k'
    · subst h1
      rw [if_neg (fun h => h rfl)]
      by_cases h2 : k = 3 ∧ n ≠ n'
      · rw [if_pos h2]
        refine ⟨fun h => absurd h (ord_ne _), fun h => ?_⟩
        injection h with _ h
        exact absurd h h2.2
      · rw [if_neg h2]
        have hn : n = n' := by
          by_cases h3 : k = 3
          · exact Decidable.not_not.1 fun h => h2 ⟨h3, h⟩
          · rw [ua.num h3, ub.num h3]
        subst hn
        by_cases h4 : k = 4
        · rw [if_pos h4, cmpT_zero]
          have e1 : l = [] := List.eq_nil_of_length_eq_zero (ua.lst (by omega))
          have e2 : l' = [] := List.eq_nil_of_length_eq_zero (ub.lst (by omega))
          have e3 : ks = [] := List.eq_nil_of_length_eq_zero (ua.key (by omega))
          have e4 : ks' = [] := List.eq_nil_of_length_eq_zero (ub.key (by omega))
          subst e1 e2 e3 e4
          simp
        · rw [if_neg h4, key l ih ks l' ks' fa fb ?_]
          · rw [ua.txt h4, ub.txt h4]
            simp
          · by_cases h6 : k = 6
            · exact .inr ⟨ua.obj h6, ub.obj h6⟩
            · exact .inl ⟨List.eq_nil_of_length_eq_zero (ua.key h6), List.eq_nil_of_length_eq_zero (ub.key h6)⟩
    · rw [if_pos h1]
      refine ⟨fun h => absurd h (ord_ne _), fun h => ?_⟩
      injection h with h
      exact absurd h h1
theorem ord_tr (a b c : Int) : Tr (if a ≠ b then ord (decide (a < b)) else 0) (if b ≠ c then ord (decide (b < c)) else 0) (if a ≠ c then ord (decide (a < c)) else 0) := by
  unfold Tr ord
  intro h1 h2
  by_cases p : a = b
  · subst p
    simp only [ne_eq, not_true_eq_false, if_false] at *
    refine ⟨h2, fun h => by simpa using h, fun _ h => h⟩
  · rw [if_pos p] at h1 ⊢
    by_cases p1 : a < b
    · by_cases q : b = c
      · subst q
        simp [p, p1]
      · rw [if_pos q] at h2 ⊢
        by_cases q1 : b < c
        · simp [show ¬ a = c by omega, show a < c by omega, p1, q1]
        · simp [q1] at h2
    · simp [p1] at h1
theorem ord_lex (a b c : Int) {x y z : Int} (h : a = b → b = c → Tr x y z) : Tr (if a ≠ b then ord (decide (a < b)) else x) (if b ≠ c then ord (decide (b < c)) else y) (if a ≠ c then ord (decide (a < c)) else z) := by
  by_cases p : a = b
  · by_cases q : b = c
    · subst p q
      simpa using h rfl rfl
    · subst p
      unfold Tr ord
      intro h1 h2
      simp only [ne_eq, not_true_eq_false, q, not_false_eq_true, if_false, if_true] at h1 h2 ⊢
      by_cases q1 : a < c
      · simp [q1]
      · simp [q1] at h2
  · unfold Tr ord
    intro h1 h2
    rw [if_pos p] at h1 ⊢
    by_cases p1 : a < b
    · by_cases q : b = c
      · subst q
        simp [p, p1]
      · rw [if_pos q] at h2 ⊢
        by_cases q1 : b < c
        · simp [show ¬ a = c by omega, show a < c by omega, p1, q1]
        · simp [q1] at h2
    · simp [p1] at h1
theorem cmpV_tr : ∀ a b c, fieldsV a = true → fieldsV b = true → fieldsV c = true → Tr (cmpV a b) (cmpV b c) (cmpV a c) := by
  intro a
  induction a using V.ind with
  | h k n t l ks ih =>
    rintro ⟨k', n', t', l', ks'⟩ ⟨k'', n'', t'', l'', ks''⟩ ha hb hc
    obtain ⟨ua, -, -, fa⟩ := fields_kids ha
    obtain ⟨ub, -, -, fb⟩ := fields_kids hb
    obtain ⟨uc, -, -, fc⟩ := fields_kids hc
    rw [uses_iff] at ua ub uc
    have key : ∀ (l : List V), (∀ x ∈ l, ∀ b c, fieldsV x = true → fieldsV b = true → fieldsV c = true → Tr (cmpV x b) (cmpV b c) (cmpV x c)) → ∀ ks m js r is, fieldss l = true → fieldss m = true → fieldss r = true → (ks = [] ∧ js = [] ∧ is = [] ∨ ks.length = l.length ∧ js.length = m.length ∧ is.length = r.length) → Tr (cmpL l ks m js) (cmpL m js r is) (cmpL l ks r is) := by
      intro l
      induction l with
      | nil =>
        intro _ ks m js r is _ _ _ _
        cases m <;> cases r <;> simp [cmpL, Tr]
      | cons x l il =>
        intro hx ks m js r is h1 h2 h3 hl
        cases m with
        | nil => cases r <;> simp [cmpL, Tr]
        | cons y m =>
          cases r with
          | nil => simp [cmpL, Tr]
          | cons z r =>
            rw [fieldss, Bool.and_eq_true] at h1 h2 h3
            rw [cmpL, cmpL, cmpL]
            refine Tr.lex ?_ (Tr.lex (hx x List.mem_cons_self y z h1.1 h2.1 h3.1) (il (fun z hz => hx z (List.mem_cons_of_mem _ hz)) _ _ _ _ _ h1.2 h2.2 h3.2 ?_))
            · rcases hl with ⟨rfl, rfl, rfl⟩ | ⟨g1, g2, g3⟩
              · simp [headC, Tr]
              · cases ks with
                | nil => simp at g1
                | cons u ks => cases js with
                  | nil => simp at g2
                  | cons v js => cases is with
                    | nil => simp at g3
                    | cons w is => exact cmpT_tr _ _ _
            · rcases hl with ⟨rfl, rfl, rfl⟩ | ⟨g1, g2, g3⟩
              · exact .inl ⟨rfl, rfl, rfl⟩
              · exact .inr ⟨by simp [g1], by simp [g2], by simp [g3]⟩
    rw [cmpV, cmpV, cmpV]
    refine ord_lex k k' k'' ?_
    rintro rfl rfl
    by_cases h3 : k = 3
    · simp only [h3, true_and]
      refine ord_lex n n' n'' ?_
      rintro rfl rfl
      subst h3
      simp only [show ¬ (3 : Int) = 4 by omega, if_false]
      exact key l ih _ _ _ _ _ fa fb fc (.inl ⟨List.eq_nil_of_length_eq_zero (ua.key (by omega)), List.eq_nil_of_length_eq_zero (ub.key (by omega)), List.eq_nil_of_length_eq_zero (uc.key (by omega))⟩)
    · simp only [h3, false_and, if_false]
      by_cases h4 : k = 4
      · simp only [h4, if_true]
        exact cmpT_tr _ _ _
      · simp only [h4, if_false]
        refine key l ih _ _ _ _ _ fa fb fc ?_
        by_cases h6 : k = 6
        · exact .inr ⟨ua.obj h6, ub.obj h6, uc.obj h6⟩
        · exact .inl ⟨List.eq_nil_of_length_eq_zero (ua.key h6), List.eq_nil_of_length_eq_zero (ub.key h6), List.eq_nil_of_length_eq_zero (uc.key h6)⟩
end Go.Proofs.YtnkfkicabgajmaaGreatDoor

/-
  VALUES' TEXTS, ON LISTS: printed, and parsed by a parser on lists; there and back. No program is named here.
-/
namespace Go.Proofs.YtnkfkicabgajmaaGreatDoor
set_option linter.unusedSimpArgs false
set_option linter.unusedVariables false
open Go Go.Lib

theorem digit_toNat {k : Nat} (h : k < 10) : (UInt8.ofNat (48 + k)).toNat = 48 + k := by simp only [UInt8.toNat_ofNat']; omega
theorem decDigits_digit (u : Nat) : ∀ c ∈ decDigits u, 48 ≤ c.toNat ∧ c.toNat ≤ 57 := by
  induction u using Nat.strongRecOn with
  | _ u ih =>
    intro c hc
    rw [decDigits] at hc
    split at hc
    · simp only [List.mem_singleton] at hc; subst hc; rw [digit_toNat (by omega)]; omega
    · rcases List.mem_append.1 hc with h | h
      · exact ih (u / 10) (by omega) c h
      · simp only [List.mem_singleton] at h; subst h; rw [digit_toNat (by omega)]; omega

theorem parseUintM_append {M : Nat} : ∀ (l : List UInt8) (acc v : Nat) (r : List UInt8), parseUintM M acc l = .ok v → parseUintM M acc (l ++ r) = parseUintM M v r
  | [], acc, v, r, h => by simp only [parseUintM, NumEnd.ok.injEq] at h; subst h; rfl
  | c :: l, acc, v, r, h => by
    simp only [parseUintM, List.cons_append] at h ⊢
    split at h
    · rename_i h1
      rw [if_pos h1]
      split at h
      · cases h
      · rename_i h2
        rw [if_neg h2]
        split at h
        · cases h
        · rename_i h3
          rw [if_neg h3]
          exact parseUintM_append l _ v r h
    · cases h
theorem parseUintM_dec (u : Nat) (hu : u ≤ 18446744073709551615) : parseUintM 18446744073709551615 0 (decDigits u) = .ok u := by
  induction u using Nat.strongRecOn with
  | _ u ih =>
    rw [decDigits]
    split
    · rename_i h
      simp only [parseUintM, digit_toNat h]
      rw [if_pos (by omega), if_neg (by omega), if_neg (by omega)]
      congr 1
      omega
    · rename_i h
      rw [parseUintM_append _ _ _ _ (ih (u / 10) (by omega) (by omega))]
      simp only [parseUintM, digit_toNat (show u % 10 < 10 by omega)]
      rw [if_pos (by omega), if_neg (by omega), if_neg (by omega)]
      congr 1
      omega
theorem decDigits_ne (u : Nat) : decDigits u ≠ [] := by
  intro h
  have h1 := decDigits_length u
  have h2 := nDigits_pos u
  rw [h] at h1
  simp at h1
  omega

theorem parseIntB_itoa (n : Int) (h0 : -9223372036854775808 ≤ n) (h1 : n ≤ 9223372036854775807) : parseIntB 64 (itoa n) = .ok n := by
  have hu : ∀ u : Nat, u ≤ 18446744073709551615 → parseUintB 64 (decDigits u) = .ok u := fun u hu => by
    unfold parseUintB
    rw [if_neg (decDigits_ne u)]
    exact parseUintM_dec u hu
  unfold itoa
  by_cases hn : n < 0
  · rw [if_pos hn]
    unfold parseIntB
    simp only [show (45 : UInt8).toNat = 45 from rfl, or_true, if_true]
    rw [hu _ (by omega)]
    simp only [not_true_eq_false, false_and, if_false, true_and]
    rw [if_neg (by omega)]
    congr 1
    omega
  · rw [if_neg hn]
    obtain ⟨c, r, hc⟩ : ∃ c r, decDigits n.toNat = c :: r := by
      cases h : decDigits n.toNat with
      | nil => exact absurd h (decDigits_ne _)
      | cons c r => exact ⟨c, r, rfl⟩
    have hd := decDigits_digit n.toNat c (by rw [hc]; exact List.mem_cons_self)
    unfold parseIntB
    rw [hc]
    simp only
    rw [if_neg (by omega), ← hc, hu _ (by omega)]
    simp only [show ¬ c.toNat = 45 by omega, not_false_eq_true, true_and, false_and, if_false]
    rw [if_neg (by omega)]
    congr 1
    omega
def isNum (c : UInt8) : Bool := c == 45 || (decide (48 ≤ c.toNat) && decide (c.toNat ≤ 57))
theorem itoa_num (n : Int) : ∀ c ∈ itoa n, isNum c = true := by
  intro c hc
  unfold itoa at hc
  have hd : ∀ u, ∀ c ∈ decDigits u, isNum c = true := fun u c h => by
    have := decDigits_digit u c h
    simp [isNum, this.1, this.2]
  split at hc
  · rcases List.mem_cons.1 hc with rfl | h
    · rfl
    · exact hd _ c h
  · exact hd _ c hc
theorem itoa_ne (n : Int) : itoa n ≠ [] := by
  unfold itoa
  split
  · simp
  · exact decDigits_ne _

/-! The text. -/
def tNull : List UInt8 := [110, 117, 108, 108]
def tFalse : List UInt8 := [102, 97, 108, 115, 101]
def tTrue : List UInt8 := [116, 114, 117, 101]
mutual
def prV : V → List UInt8
  | .mk k n t l ks =>
    if k = 1 then tFalse else if k = 2 then tTrue else if k = 3 then decI n else if k = 4 then quoted t
    else if k = 5 then 91 :: (prE false true l ks ++ [93]) else if k = 6 then 123 :: (prE true true l ks ++ [125]) else tNull
def prE (obj first : Bool) : List V → List (List UInt8) → List UInt8
  | [], _ => []
  | v :: l, ks => (if first then [] else [44]) ++ (if obj then quoted (ks.headD []) ++ [58] else []) ++ prV v ++ prE obj false l ks.tail
end

/-! The parser. -/
def cutP (s p : List UInt8) : Option (List UInt8) := if p.isPrefixOf s then some (s.drop p.length) else none
def pQuote : List UInt8 → List UInt8 → Option (List UInt8 × List UInt8)
  | [], _ => none
  | [c], acc => if c == 34 then some (acc, []) else none
  | c :: d :: r, acc => if c == 34 then some (acc, d :: r) else if c == 92 then pQuote r (acc ++ [d]) else pQuote (d :: r) (acc ++ [c])
def pText (s : List UInt8) : Option (List UInt8 × List UInt8) := match cutP s [34] with
  | some r => pQuote r []
  | none => none
def pKey (k : Int) (ak : List (List UInt8)) (s : List UInt8) : Option (List (List UInt8) × List UInt8) :=
  if k = 6 then (match pText s with | none => none | some x => (match cutP x.2 [58] with | none => none | some r => some (ak ++ [x.1], r))) else some (ak, s)
mutual
def pval : Nat → List UInt8 → Option (V × List UInt8)
  | 0, _ => none
  | f + 1, s => match cutP s tNull with
    | some r => some (V.zero, r)
    | none => match cutP s tFalse with
      | some r => some (.mk 1 0 [] [] [], r)
      | none => match cutP s tTrue with
        | some r => some (.mk 2 0 [] [] [], r)
        | none => match cutP s [91] with
          | some r => pel f 5 93 r
          | none => match cutP s [123] with
            | some r => pel f 6 125 r
            | none => if [34].isPrefixOf s then (match pText s with | some x => some (.mk 4 0 x.1 [] [], x.2) | none => none)
              else match parseIntB 64 (s.takeWhile isNum) with
                | .ok n => some (.mk 3 n [] [] [], s.dropWhile isNum)
                | _ => none
def pel : Nat → Int → UInt8 → List UInt8 → Option (V × List UInt8)
  | 0, _, _, _ => none
  | f + 1, k, e, s => match cutP s [e] with
    | some r => some (.mk k 0 [] [] [], r)
    | none => ploop f k e [] [] s
def ploop : Nat → Int → UInt8 → List V → List (List UInt8) → List UInt8 → Option (V × List UInt8)
  | 0, _, _, _, _, _ => none
  | f + 1, k, e, al, ak, s => match pKey k ak s with
    | none => none
    | some q => match pval f q.2 with
      | none => none
      | some x => match cutP x.2 [e] with
        | some r => some (.mk k 0 [] (al ++ [x.1]) q.1, r)
        | none => match cutP x.2 [44] with
          | some r => ploop f k e (al ++ [x.1]) q.1 r
          | none => none
end
def parseV (s : List UInt8) : Option V := if 512 < s.length then none else match pval (3 * s.length + 3) s with
  | none => none
  | some x => if mayV x.1 && prV x.1 == s then some x.1 else none

theorem cutP_app (p r : List UInt8) : cutP (p ++ r) p = some r := by
  unfold cutP
  rw [if_pos (by rw [List.isPrefixOf_iff_prefix]; exact List.prefix_append _ _)]
  simp
theorem cutP_cons (c : UInt8) (r : List UInt8) : cutP (c :: r) [c] = some r := cutP_app [c] r
theorem cutP_ne {c d : UInt8} (h : c ≠ d) (p r : List UInt8) : cutP (c :: r) (d :: p) = none := by
  unfold cutP
  rw [if_neg]
  simp only [List.isPrefixOf, Bool.and_eq_true, beq_iff_eq, not_and]
  intro e
  exact absurd e.symm h
theorem cutP_some {s p r : List UInt8} (h : cutP s p = some r) : s = p ++ r := by
  unfold cutP at h
  split at h
  · rename_i h1
    rw [List.isPrefixOf_iff_prefix] at h1
    obtain ⟨q, rfl⟩ := h1
    injection h with h
    rw [← h]
    simp
  · cases h
theorem pQuote_len : ∀ (m : Nat) (s acc : List UInt8), s.length ≤ m → ∀ a r, pQuote s acc = some (a, r) → r.length < s.length
  | _, [], _, _, a, r, h => by simp [pQuote] at h
  | _, [c], acc, _, a, r, h => by
    rw [pQuote] at h
    split at h
    · injection h with h; injection h with h1 h2; subst h2; simp
    · cases h
  | 0, c :: d :: s, _, hm, a, r, h => by simp at hm
  | m + 1, c :: d :: s, acc, hm, a, r, h => by
    rw [pQuote] at h
    simp only [List.length_cons] at hm ⊢
    split at h
    · injection h with h; injection h with h1 h2; subst h2; simp
    · split at h
      · have := pQuote_len m s _ (by omega) a r h; omega
      · have := pQuote_len m (d :: s) _ (by simp; omega) a r h; simp at this; omega
theorem pText_len {s : List UInt8} {x} (h : pText s = some x) : x.2.length < s.length := by
  unfold pText at h
  split at h
  · rename_i r hr
    have e := cutP_some hr
    subst e
    have := pQuote_len r.length r [] (Nat.le_refl _) x.1 x.2 h
    simp
    omega
  · cases h
theorem pQuote_escs : ∀ (s acc r : List UInt8), pQuote (escs s ++ 34 :: r) acc = some (acc ++ s, r)
  | [], acc, r => by
    simp only [escs, List.flatMap_nil, List.nil_append, List.append_nil]
    cases r <;> simp [pQuote]
  | c :: s, acc, r => by
    have ih := pQuote_escs s (acc ++ [c]) r
    have e : escs (c :: s) = esc1 c ++ escs s := by unfold escs; rw [List.flatMap_cons]
    rw [e, List.append_assoc]
    obtain ⟨d, m, hd⟩ : ∃ d m, escs s ++ 34 :: r = d :: m := by
      cases h : escs s ++ 34 :: r with
      | nil => simp at h
      | cons d m => exact ⟨d, m, rfl⟩
    rw [hd] at ih ⊢
    unfold esc1
    by_cases h1 : c = 34
    · subst h1
      simp only [BEq.rfl, Bool.true_or, if_true, List.cons_append, List.nil_append]
      rw [pQuote]
      simp [ih]
    · by_cases h2 : c = 92
      · subst h2
        simp only [BEq.rfl, Bool.or_true, if_true, List.cons_append, List.nil_append]
        rw [pQuote]
        simp [ih]
      · simp only [beq_eq_false_iff_ne.2 h1, beq_eq_false_iff_ne.2 h2, Bool.or_self, Bool.false_eq_true, if_false, List.cons_append, List.nil_append]
        rw [pQuote]
        simp [h1, h2, ih]
theorem pText_quoted (s r : List UInt8) : pText (quoted s ++ r) = some (s, r) := by
  unfold pText quoted
  rw [List.cons_append, cutP_cons, List.append_assoc]
  exact pQuote_escs s [] r
def noNum : List UInt8 → Prop
  | [] => True
  | c :: _ => isNum c = false
theorem takeWhile_app : ∀ {p : UInt8 → Bool} (l r : List UInt8), (∀ c ∈ l, p c = true) → (∀ c m, r = c :: m → p c = false) → (l ++ r).takeWhile p = l ∧ (l ++ r).dropWhile p = r
  | p, [], r, _, h => by
    cases r with
    | nil => simp
    | cons c m => have := h c m rfl; simp [this]
  | p, c :: l, r, h, h' => by
    have h1 := h c List.mem_cons_self
    have := takeWhile_app l r (fun x hx => h x (List.mem_cons_of_mem _ hx)) h'
    simp [h1, this]
inductive Nums : V → Prop
  | mk {k n t l ks} : -9223372036854775808 ≤ n → n ≤ 9223372036854775807 → (∀ x ∈ l, Nums x) → Nums (.mk k n t l ks)
theorem prV_ne (v : V) : 0 < (prV v).length := by
  obtain ⟨k, n, t, l, ks⟩ := v
  rw [prV]
  repeat' split
  all_goals first
    | exact List.length_pos_iff.2 (itoa_ne n)
    | simp [tNull, tFalse, tTrue, quoted]
/-- A text of a value begins with none of these. -/
theorem prV_head (v : V) (c : UInt8) (m : List UInt8) (h : prV v = c :: m) : c ≠ 93 ∧ c ≠ 125 ∧ c ≠ 44 := by
  obtain ⟨k, n, t, l, ks⟩ := v
  rw [prV] at h
  repeat' split at h
  all_goals first
    | (injection h with h1 h2; subst h1; decide)
    | (have := itoa_num n c (by unfold decI at h; rw [h]; exact List.mem_cons_self)
       refine ⟨?_, ?_, ?_⟩ <;> (rintro rfl; revert this; decide))
theorem back : ∀ v : V, fieldsV v = true → Nums v → ∀ (r : List UInt8) (f : Nat), noNum r → 3 * (prV v ++ r).length + 1 ≤ f → pval f (prV v ++ r) = some (v, r) := by
  intro v
  induction v using V.ind with
  | h k n t l ks ih =>
    intro hv hn r f hr hf
    obtain ⟨hu, -, -, hfs⟩ := fields_kids hv
    rw [uses_iff] at hu
    obtain ⟨g, rfl⟩ : ∃ g, f = g + 1 := ⟨f - 1, by omega⟩
    cases hn with
    | mk hn0 hn1 hnl =>
    -- the elements
    have key : ∀ (l : List V), (∀ x ∈ l, fieldsV x = true → Nums x → ∀ (r : List UInt8) (f : Nat), noNum r → 3 * (prV x ++ r).length + 1 ≤ f → pval f (prV x ++ r) = some (x, r)) → fieldss l = true → (∀ x ∈ l, Nums x) →
        ∀ (obj : Bool) (e : UInt8) (ks al ak) (f : Nat) (first : Bool), l ≠ [] → (e = 93 ∨ e = 125) → (obj = true → ks.length = l.length) → (obj = false → ks = []) → 3 * (prE obj true l ks ++ e :: r).length + 2 ≤ f →
        ploop f (if obj then 6 else 5) e al ak (prE obj true l ks ++ e :: r) = some (.mk (if obj then 6 else 5) 0 [] (al ++ l) (ak ++ ks), r) := by
      intro l
      induction l with
      | nil => intro _ _ _ obj e ks al ak f first hne; exact absurd rfl hne
      | cons x l il =>
        intro hx hfs hns obj e ks al ak f first _ he ho ho' hf
        obtain ⟨g, rfl⟩ : ∃ g, f = g + 1 := ⟨f - 1, by omega⟩
        rw [fieldss, Bool.and_eq_true] at hfs
        have hx1 := hx x List.mem_cons_self hfs.1 (hns x List.mem_cons_self)
        -- what stands behind the element
        obtain ⟨tl, htl⟩ : ∃ tl, tl = prE obj false l ks.tail ++ e :: r := ⟨_, rfl⟩
        have hpe : prE obj true (x :: l) ks ++ e :: r = (if obj then quoted (ks.headD []) ++ [58] else []) ++ (prV x ++ tl) := by
          rw [prE, htl]; simp
        have hnn : noNum tl := by
          rw [htl]
          cases l with
          | nil => rw [prE]; rcases he with rfl | rfl <;> (show isNum _ = false; decide)
          | cons y l => rw [prE]; show isNum 44 = false; decide
        have hk : pKey (if obj then 6 else 5) ak (prE obj true (x :: l) ks ++ e :: r) = some (ak ++ ks.take 1, prV x ++ tl) := by
          rw [hpe]
          unfold pKey
          cases obj with
          | false => simp [ho' rfl]
          | true =>
            cases ks with
            | nil => have := ho rfl; simp at this
            | cons s ks =>
              simp only [if_true, List.headD_cons, List.append_assoc, List.take_succ_cons, List.take_zero]
              rw [pText_quoted]
              simp only [List.cons_append, List.nil_append]
              rw [cutP_cons]
        rw [ploop, hk]
        simp only
        have hl0 : 3 * (prV x ++ tl).length + 1 ≤ g := by
          rw [hpe] at hf
          simp only [List.length_append] at hf ⊢
          omega
        rw [hx1 tl g hnn hl0]
        simp only
        cases l with
        | nil =>
          have ht : tl = e :: r := by rw [htl, prE]; rfl
          rw [ht, cutP_cons]
          simp only
          have hks : ks.take 1 = ks := by
            cases obj with
            | false => rw [ho' rfl]; rfl
            | true => have := ho rfl; rw [List.take_of_length_le (by rw [this]; simp)]
          rw [hks]
        | cons y l =>
          have ht : tl = 44 :: (prE obj true (y :: l) ks.tail ++ e :: r) := by rw [htl, prE, prE]; simp
          rw [ht, cutP_ne (by rcases he with rfl | rfl <;> decide), cutP_cons]
          simp only
          have hln : 3 * (prE obj true (y :: l) ks.tail ++ e :: r).length + 2 ≤ g := by
            rw [ht] at hl0
            have := prV_ne x
            simp only [List.length_append, List.length_cons] at hl0 ⊢
            omega
          rw [il (fun z hz => hx z (List.mem_cons_of_mem _ hz)) hfs.2 (fun z hz => hns z (List.mem_cons_of_mem _ hz)) obj e ks.tail (al ++ [x]) (ak ++ ks.take 1) g true (by simp) he
            (fun h => by have := ho h; simp at this ⊢; omega) (fun h => by rw [ho' h]; rfl) hln]
          have hks : ks.take 1 ++ ks.tail = ks := by cases ks <;> rfl
          simp only [List.append_assoc, List.cons_append, List.nil_append, hks]
    have numT : ∀ c m, r = c :: m → isNum c = false := by
      intro c m e
      subst e
      exact hr
    have k06 : k = 0 ∨ k = 1 ∨ k = 2 ∨ k = 3 ∨ k = 4 ∨ k = 5 ∨ k = 6 := by have := hu.k0; have := hu.k6; omega
    have dn : k ≠ 3 → n = 0 := hu.num
    have dt : k ≠ 4 → t = [] := hu.txt
    have dl : k < 5 → l = [] := fun h => List.eq_nil_of_length_eq_zero (hu.lst h)
    have dk : k ≠ 6 → ks = [] := fun h => List.eq_nil_of_length_eq_zero (hu.key h)
    rw [prV] at hf ⊢
    rcases k06 with rfl | rfl | rfl | rfl | rfl | rfl | rfl
    · rw [dn (by omega), dt (by omega), dl (by omega), dk (by omega)]
      simp only [show ¬ (0 : Int) = 1 by omega, show ¬ (0 : Int) = 2 by omega, show ¬ (0 : Int) = 3 by omega, show ¬ (0 : Int) = 4 by omega, show ¬ (0 : Int) = 5 by omega, show ¬ (0 : Int) = 6 by omega, if_false]
      rw [pval, cutP_app]
    · rw [dn (by omega), dt (by omega), dl (by omega), dk (by omega)]
      simp only [if_true]
      have hc := cutP_app tFalse r
      rw [pval]
      simp only [tFalse, tNull, List.cons_append, List.nil_append] at hc ⊢
      rw [cutP_ne (by decide), hc]
    · rw [dn (by omega), dt (by omega), dl (by omega), dk (by omega)]
      simp only [show ¬ (2 : Int) = 1 by omega, if_false, if_true]
      have hc := cutP_app tTrue r
      rw [pval]
      simp only [tFalse, tTrue, tNull, List.cons_append, List.nil_append] at hc ⊢
      rw [cutP_ne (by decide)]
      simp only
      rw [cutP_ne (by decide), hc]
    · rw [dt (by omega), dl (by omega), dk (by omega)]
      simp only [show ¬ (3 : Int) = 1 by omega, show ¬ (3 : Int) = 2 by omega, if_false, if_true]
      unfold decI
      have hnum := itoa_num n
      obtain ⟨h1, h2⟩ := takeWhile_app (p := isNum) (itoa n) r hnum numT
      have hpi := parseIntB_itoa n hn0 hn1
      cases hi : itoa n with
      | nil => exact absurd hi (itoa_ne n)
      | cons c m =>
        have hc := hnum c (by rw [hi]; exact List.mem_cons_self)
        rw [hi] at h1 h2 hpi
        have ne : ∀ d : UInt8, isNum d = false → c ≠ d := fun d hd e => by rw [e, hd] at hc; cases hc
        rw [pval, h1, h2, hpi]
        simp only [List.cons_append]
        rw [tNull, cutP_ne (ne _ (by decide)), tFalse, cutP_ne (ne _ (by decide)), tTrue, cutP_ne (ne _ (by decide)), cutP_ne (ne _ (by decide)), cutP_ne (ne _ (by decide))]
        have : ([34].isPrefixOf (c :: (m ++ r))) = false := by
          simp only [List.isPrefixOf, Bool.and_eq_false_iff, beq_eq_false_iff_ne]
          exact .inl (fun e => ne 34 (by decide) e.symm)
        simp [this]
    · rw [dn (by omega), dl (by omega), dk (by omega)]
      simp only [show ¬ (4 : Int) = 1 by omega, show ¬ (4 : Int) = 2 by omega, show ¬ (4 : Int) = 3 by omega, if_false, if_true]
      have hp := pText_quoted t r
      rw [pval]
      have e : quoted t ++ r = 34 :: (escs t ++ [34] ++ r) := by unfold quoted; simp
      rw [e] at hp ⊢
      rw [tNull, cutP_ne (by decide), tFalse, cutP_ne (by decide), tTrue, cutP_ne (by decide), cutP_ne (by decide), cutP_ne (by decide)]
      simp only
      rw [if_pos (by simp [List.isPrefixOf]), hp]
    · rw [dn (by omega), dt (by omega), dk (by omega)]
      simp only [show ¬ (5 : Int) = 1 by omega, show ¬ (5 : Int) = 2 by omega, show ¬ (5 : Int) = 3 by omega, show ¬ (5 : Int) = 4 by omega, if_false, if_true] at hf ⊢
      rw [pval, List.cons_append, tNull, cutP_ne (by decide), tFalse, cutP_ne (by decide), tTrue, cutP_ne (by decide), cutP_cons]
      simp only
      rw [dk (by omega)] at hf
      simp only [List.cons_append, List.length_cons, List.append_assoc, List.nil_append] at hf ⊢
      obtain ⟨g', rfl⟩ : ∃ g', g = g' + 1 := ⟨g - 1, by omega⟩
      rw [pel]
      cases l with
      | nil => rw [prE, List.nil_append, cutP_cons]
      | cons x l =>
        have hne : cutP (prE false true (x :: l) [] ++ 93 :: r) [93] = none := by
          rw [prE]
          cases hx : prV x with
          | nil => have := prV_ne x; rw [hx] at this; simp at this
          | cons c m =>
            have := prV_head x c m hx
            simp only [if_true, Bool.false_eq_true, if_false, List.nil_append, List.cons_append]
            exact cutP_ne this.1 _ _
        rw [hne]
        simp only
        have := key (x :: l) ih hfs hnl false 93 [] [] [] g' true (by simp) (.inl rfl) (fun h => by cases h) (fun _ => rfl) (by omega)
        simpa using this
    · rw [dn (by omega), dt (by omega)]
      simp only [show ¬ (6 : Int) = 1 by omega, show ¬ (6 : Int) = 2 by omega, show ¬ (6 : Int) = 3 by omega, show ¬ (6 : Int) = 4 by omega, show ¬ (6 : Int) = 5 by omega, if_false, if_true] at hf ⊢
      rw [pval, List.cons_append, tNull, cutP_ne (by decide), tFalse, cutP_ne (by decide), tTrue, cutP_ne (by decide), cutP_ne (by decide), cutP_cons]
      simp only
      simp only [List.cons_append, List.length_cons, List.append_assoc, List.nil_append] at hf ⊢
      obtain ⟨g', rfl⟩ : ∃ g', g = g' + 1 := ⟨g - 1, by omega⟩
      rw [pel]
      cases l with
      | nil =>
        have hk0 : ks = [] := List.eq_nil_of_length_eq_zero (hu.obj rfl)
        rw [hk0, prE, List.nil_append, cutP_cons]
      | cons x l =>
        have hne : cutP (prE true true (x :: l) ks ++ 125 :: r) [125] = none := by
          rw [prE]
          simp only [if_true, quoted, List.nil_append, List.cons_append]
          exact cutP_ne (by decide) _ _
        rw [hne]
        simp only
        have := key (x :: l) ih hfs hnl true 125 ks [] [] g' true (by simp) (.inr rfl) (fun _ => hu.obj rfl) (fun h => by cases h) (by omega)
        simpa using this
end Go.Proofs.YtnkfkicabgajmaaGreatDoor

/-
  HOW A VALUE LIES IN MEMORY, over whatever program: five cells; its lists and keys behind slices; all blocks that it leads to are D's. No statement is proved here.
-/
namespace Go.Proofs.YtnkfkicabgajmaaGreatDoor
set_option linter.unusedSimpArgs false
set_option linter.unusedVariables false
open Go Go.RowKit

def strOf (l : List UInt8) : ByteArray := ⟨l.toArray⟩
theorem strOf_toList (l : List UInt8) : (strOf l).toList = l := by simp [strOf]
theorem strOf_of (s : ByteArray) : strOf s.data.toList = s := by
  cases s
  simp [strOf]
theorem strOf_inj {l m : List UInt8} (h : strOf l = strOf m) : l = m := by rw [← strOf_toList l, h, strOf_toList]
/-- The order of texts. -/
def kl (a b : List UInt8) : Bool := Op.bytesLess a b
theorem kl_irr : ∀ a, kl a a = false
  | [] => rfl
  | a :: l => by
    have := kl_irr l
    simp only [kl, Op.bytesLess] at this ⊢
    simp [this]
theorem kl_trans : ∀ a b c, kl a b = true → kl b c = true → kl a c = true
  | _, _, [], _, h => by cases ‹List UInt8› <;> simp [kl, Op.bytesLess] at h
  | _, [], _ :: _, h, _ => by cases ‹List UInt8› <;> simp [kl, Op.bytesLess] at h
  | [], _ :: _, _ :: _, _, _ => rfl
  | a :: x, b :: y, c :: z, h1, h2 => by
    have ih := kl_trans x y z
    simp only [kl, Op.bytesLess, Bool.or_eq_true, Bool.and_eq_true, decide_eq_true_eq, beq_iff_eq] at h1 h2 ih ⊢
    rcases h1 with h1 | ⟨rfl, h1⟩
    · rcases h2 with h2 | ⟨rfl, h2⟩
      · exact .inl (UInt8.lt_trans h1 h2)
      · exact .inl h1
    · rcases h2 with h2 | ⟨rfl, h2⟩
      · exact .inl h2
      · exact .inr ⟨rfl, ih h1 h2⟩
theorem kl_tot : ∀ a b, kl a b = false → kl b a = false → a = b
  | [], [], _, _ => rfl
  | [], _ :: _, h, _ => by simp [kl, Op.bytesLess] at h
  | _ :: _, [], _, h => by simp [kl, Op.bytesLess] at h
  | a :: x, b :: y, h1, h2 => by
    have ih := kl_tot x y
    simp only [kl, Op.bytesLess, Bool.or_eq_false_iff, Bool.and_eq_false_iff, decide_eq_false_iff_not] at h1 h2 ih
    have e : a = b := UInt8.le_antisymm (UInt8.not_lt.1 h2.1) (UInt8.not_lt.1 h1.1)
    subst e
    rcases h1.2 with h | h
    · simp at h
    · rcases h2.2 with h' | h'
      · simp at h'
      · rw [ih h h']
theorem kl_asym {a b : List UInt8} (h : kl a b = true) : kl b a = false := by
  cases hb : kl b a with
  | false => rfl
  | true => have := kl_trans a b a h hb; rw [kl_irr] at this; cases this
theorem kl_ne {a b : List UInt8} (h : kl a b = true) : a ≠ b := fun e => by rw [e, kl_irr] at h; cases h
/-- a is not behind b. -/
theorem kl_le_trans {a b c : List UInt8} (h1 : kl b a = false) (h2 : kl c b = false) : kl c a = false := by
  cases h : kl c a with
  | false => rfl
  | true =>
    cases hab : kl a b with
    | true => have := kl_trans c a b h hab; rw [h2] at this; cases this
    | false =>
      have := kl_tot a b hab h1
      subst this
      rw [h2] at h
      cases h
def cmpK (a b : List UInt8) : Int := if kl a b then -1 else if a = b then 0 else 1


theorem strOf_size (l : List UInt8) : (strOf l).size = l.length := by simp [strOf, ByteArray.size]
theorem strOf_data (l : List UInt8) : (strOf l).data.toList = l := rfl
theorem kl_cmpT : ∀ a b, kl a b = decide (cmpT a b < 0)
  | [], [] => rfl
  | [], _ :: _ => rfl
  | _ :: _, [] => rfl
  | a :: l, b :: m => by
    have ih := kl_cmpT l m
    rw [cmpT]
    simp only [kl, Op.bytesLess] at ih ⊢
    rw [ih]
    rcases u8_tri a b with ⟨h1, h2, h3⟩ | ⟨h1, h2, h3⟩ | ⟨rfl, h1, -⟩
    · simp [h1]
    · simp [h1, h2, h3]
    · simp [h1]

abbrev vcs (k n : Int) (t : List UInt8) (Al : Option Addr) (nl cl : Nat) (Ak : Option Addr) (nk ck : Nat) : Array Value :=
  #[.int .i64 k, .int .i64 n, .string (strOf t), .slice Al nl cl, .slice Ak nk ck]
def strs (ks : List (List UInt8)) : List Value := ks.map fun s => .string (strOf s)
theorem strs_len (ks : List (List UInt8)) : (strs ks).length = ks.length := by simp [strs]
theorem strs_get (ks : List (List UInt8)) (i : Nat) (h : i < ks.length) : (strs ks)[i]? = some (.string (strOf ks[i])) := by simp [strs, h]
theorem strs_one (ks : List (List UInt8)) : ∀ u ∈ strs ks, u.oneCell' = true := by
  intro u hu
  obtain ⟨_, _, rfl⟩ := List.mem_map.1 hu
  rfl
theorem strs_append (a b : List (List UInt8)) : strs (a ++ b) = strs a ++ strs b := by simp [strs]
def flat (css : List (Array Value)) : List Value := css.flatMap Array.toList
theorem flat_append (a b : List (Array Value)) : flat (a ++ b) = flat a ++ flat b := by simp [flat]
theorem flat_one (C : Array Value) : flat [C] = C.toList := by simp [flat]
theorem flat_get : ∀ (css : List (Array Value)) (hc : ∀ C ∈ css, C.size = 5) (i : Nat) (C : Array Value), css[i]? = some C → ∀ j, j < 5 → (flat css)[i * 5 + j]? = C[j]?
  | [], _, i, C, h, _, _ => by simp at h
  | A :: css, hc, 0, C, h, j, hj => by
    have e : A = C := by simpa using h
    subst e
    have := hc A List.mem_cons_self
    rw [flat, List.flatMap_cons, Nat.zero_mul, Nat.zero_add, List.getElem?_append_left (by rw [Array.length_toList]; omega)]
    simp
  | A :: css, hc, i + 1, C, h, j, hj => by
    have h5 := hc A List.mem_cons_self
    rw [flat, List.flatMap_cons, List.getElem?_append_right (by rw [Array.length_toList, h5, Nat.add_mul]; omega), Array.length_toList, h5, show (i + 1) * 5 + j - 5 = i * 5 + j by rw [Nat.add_mul]; omega]
    exact flat_get css (fun C hC => hc C (List.mem_cons_of_mem _ hC)) i C (by simpa using h) j hj
theorem flat_len : ∀ (css : List (Array Value)), (∀ C ∈ css, C.size = 5) → (flat css).length = css.length * 5
  | [], _ => rfl
  | A :: css, h => by
    rw [flat, List.flatMap_cons, List.length_append, Array.length_toList, h A List.mem_cons_self, List.length_cons, Nat.add_mul]
    have := flat_len css (fun C hC => h C (List.mem_cons_of_mem _ hC))
    unfold flat at this
    omega

/-- What a value's own numbers and lengths are. -/
structure VB (k n : Int) (t : List UInt8) (nl : Nat) (ks : List (List UInt8)) : Prop where
  k0 : -9223372036854775808 ≤ k
  k1 : k ≤ 9223372036854775807
  n0 : -9223372036854775808 ≤ n
  n1 : n ≤ 9223372036854775807
  tl : t.length ≤ 140737488355328
  ll : nl ≤ 140737488355328
  kl : ks.length ≤ 140737488355328
  ks : ∀ s ∈ ks, s.length ≤ 140737488355328
/-- These cells read as this value; what it leads to lies in D. -/
inductive RdV (D : Nat → Prop) (w : World) : Array Value → V → Prop
  | mk {k n : Int} {t : List UInt8} {l : List V} {ks : List (List UInt8)} {Al : Option Addr} {cl : Nat} {Ak : Option Addr} {ck : Nat} (css : List (Array Value)) : VB k n t l.length ks →
      Rd w Ak ks.length (strs ks) → (0 < ks.length → ∀ b, inA Ak b → D b) → ks.length ≤ ck →
      css.length = l.length → (∀ C ∈ css, C.size = 5) → Rd w Al (l.length * 5) (flat css) → (0 < l.length → ∀ b, inA Al b → D b) → l.length ≤ cl →
      (∀ (i : Nat) (C : Array Value) (x : V), css[i]? = some C → l[i]? = some x → RdV D w C x) → RdV D w (vcs k n t Al l.length cl Ak ks.length ck) (.mk k n t l ks)
/-- Its parts. -/
structure VP (D : Nat → Prop) (w : World) (k n : Int) (t : List UInt8) (l : List V) (ks : List (List UInt8)) (Al : Option Addr) (cl : Nat) (Ak : Option Addr) (ck : Nat) (css : List (Array Value)) : Prop where
  b : VB k n t l.length ks
  kr : Rd w Ak ks.length (strs ks)
  kd : 0 < ks.length → ∀ b, inA Ak b → D b
  kc : ks.length ≤ ck
  cn : css.length = l.length
  c5 : ∀ C ∈ css, C.size = 5
  lr : Rd w Al (l.length * 5) (flat css)
  ld : 0 < l.length → ∀ b, inA Al b → D b
  lc : l.length ≤ cl
  el : ∀ (i : Nat) (C : Array Value) (x : V), css[i]? = some C → l[i]? = some x → RdV D w C x
section
variable {D : Nat → Prop} {w w' : World} {C : Array Value} {v : V}
theorem RdV.inv (h : RdV D w C v) : ∃ k n t l ks Al cl Ak ck css, v = .mk k n t l ks ∧ C = vcs k n t Al l.length cl Ak ks.length ck ∧ VP D w k n t l ks Al cl Ak ck css := by
  cases h with
  | mk css a b c d e f g i j m => exact ⟨_, _, _, _, _, _, _, _, _, css, rfl, rfl, ⟨a, b, c, d, e, f, g, i, j, m⟩⟩
theorem VP.rd {k n t l ks Al cl Ak ck css} (h : VP D w k n t l ks Al cl Ak ck css) : RdV D w (vcs k n t Al l.length cl Ak ks.length ck) (.mk k n t l ks) :=
  .mk css h.b h.kr h.kd h.kc h.cn h.c5 h.lr h.ld h.lc h.el
theorem RdV.size (h : RdV D w C v) : C.size = 5 := by
  obtain ⟨_, _, _, _, _, _, _, _, _, _, -, rfl, -⟩ := h.inv
  rfl
theorem RdV.one (h : RdV D w C v) : ∀ u ∈ C.toList, u.oneCell' = true := by
  obtain ⟨_, _, _, _, _, _, _, _, _, _, -, rfl, -⟩ := h.inv
  simp [vcs, Value.oneCell']
theorem Rd.fr0 {A : Option Addr} {n : Nat} {xs : List Value} {fp : Nat → Prop} (h : Rd w A n xs) (hf : Fr fp w w') (hd : 0 < n → ∀ k, inA A k → ¬ fp k) : Rd w' A n xs := by
  rcases Nat.eq_zero_or_pos n with rfl | hn
  · exact ⟨h.1, fun h => absurd h (by omega)⟩
  · exact h.fr hf (hd hn)
theorem RdV.fr {fp : Nat → Prop} (h : RdV D w C v) (hf : Fr fp w w') (hd : ∀ b, D b → ¬ fp b) : RdV D w' C v := by
  induction h with
  | mk css a b c d e f g i j m ih =>
    exact .mk css a (b.fr0 hf fun hn k hk => hd k (c hn k hk)) c d e f (g.fr0 hf fun hn k hk => hd k (i (by omega) k hk)) i j ih
theorem RdV.far (h : RdV D w C v) (hf : Fr (fun _ => False) w w') : RdV D w' C v := h.fr hf (fun _ _ h => h)
theorem RdV.mono {E : Nat → Prop} (h : RdV D w C v) (hd : ∀ b, D b → E b) : RdV E w C v := by
  induction h with
  | mk css a b c d e f g i j m ih => exact .mk css a b (fun hn k hk => hd k (c hn k hk)) d e f g (fun hn k hk => hd k (i hn k hk)) j ih
theorem RdV.lts (h : RdV D w C v) : RdV (fun b => D b ∧ b < w.heap.size) w C v := by
  induction h with
  | mk css a b c d e f g i j m ih => exact .mk css a b (fun hn k hk => ⟨c hn k hk, b.lt hn hk⟩) d e f g (fun hn k hk => ⟨i hn k hk, g.lt (by omega) hk⟩) j ih
theorem VP.fr {fp : Nat → Prop} {k n t l ks Al cl Ak ck css} (h : VP D w k n t l ks Al cl Ak ck css) (hf : Fr fp w w') (hd : ∀ b, D b → ¬ fp b) : VP D w' k n t l ks Al cl Ak ck css :=
  ⟨h.b, h.kr.fr0 hf fun hn k hk => hd k (h.kd hn k hk), h.kd, h.kc, h.cn, h.c5, h.lr.fr0 hf fun hn k hk => hd k (h.ld (by omega) k hk), h.ld, h.lc, fun i C x h1 h2 => (h.el i C x h1 h2).fr hf hd⟩
theorem VP.far {k n t l ks Al cl Ak ck css} (h : VP D w k n t l ks Al cl Ak ck css) (hf : Fr (fun _ => False) w w') : VP D w' k n t l ks Al cl Ak ck css := h.fr hf (fun _ _ h => h)
/-- An element's cells. -/
theorem VP.at_ {k n t l ks Al cl Ak ck css} (h : VP D w k n t l ks Al cl Ak ck css) {i : Nat} (hi : i < l.length) :
    ∃ b off C, Al = some ⟨b, off, none⟩ ∧ css[i]? = some C ∧ RdV D w C l[i] ∧ w.rangeAt b (off + i * 5) C.toList ∧ C.size = 5 := by
  obtain ⟨b, off, rfl, hc⟩ := h.lr.lit (by omega)
  have hci : i < css.length := by rw [h.cn]; exact hi
  refine ⟨b, off, css[i], rfl, List.getElem?_eq_getElem hci, h.el i _ _ (List.getElem?_eq_getElem hci) (List.getElem?_eq_getElem hi), fun j u hu => ?_, h.c5 _ (List.getElem_mem hci)⟩
  have h5 := h.c5 _ (List.getElem_mem hci)
  have hj : j < 5 := by
    have := (List.getElem?_eq_some_iff.1 hu).1
    rw [Array.length_toList, h5] at this
    exact this
  have hn : i * 5 + j < l.length * 5 := by omega
  rw [Nat.add_assoc, hc _ hn, flat_get css h.c5 i css[i] (List.getElem?_eq_getElem hci) j hj]
  simpa using hu
theorem VP.key {k n t l ks Al cl Ak ck css} (h : VP D w k n t l ks Al cl Ak ck css) {i : Nat} (hi : i < ks.length) :
    ∃ b off, Ak = some ⟨b, off, none⟩ ∧ w.cell? ⟨b, off + i, none⟩ = some (.string (strOf ks[i])) := by
  obtain ⟨b, off, rfl, hc⟩ := h.kr.lit (by omega)
  exact ⟨b, off, rfl, by rw [hc i hi, strs_get ks i hi]⟩
end
theorem abs_world {P : Program} {c : Code} {Q : Exit → Act → World → Prop} {a : Act} {w : World} (Φ : World → Prop) (h : Φ w) (k : ∀ W, Φ W → Code.wp P c Q a W) : Code.wp P c Q a w := k w h
theorem abs_exit {K : Act → World → Prop} {Q : Exit → Act → World → Prop} {e : Exit} {a : Act} {w : World} (Φ : World → Prop) (h : Φ w) (k : ∀ W, Φ W → Exit.then K Q e a W) : Exit.then K Q e a w := k w h
theorem fr_below {w w' : World} (h : Below w.heap.size w w') : Fr (fun _ => False) w w' := (Fr.of_below h).mono (fun i hi hh => by omega)
section
variable {P : Program}
theorem wpList_load_val {ops : Array Oper} {rest : List Oper} {op : Oper} {a : Act} {w : World} {Q : Exit → Act → World → Prop} (hgd : op.guard = none) (ty : TypeId) (x : Operand) (ho : op.op = .load ty x)
    (g off : Nat) (hx : a.eval x = .pointer (some ⟨g, off, none⟩)) (C : Array Value) (hr : w.rangeAt g off C.toList) (d : TypeDesc) (hu : P.underlying ty = some d) (hd : d.isRow = true) (hi : (P.info? ty).map (·.size) = some C.size)
    (h : wpList P ops Q rest (a.put op.dst (.agg C)) w) : wpList P ops Q (op :: rest) a w :=
  wpList_load_mid hgd ty x ho g off hx C.toList d hr hu hd (by rw [Array.length_toList]; exact hi) (by rw [Array.toArray_toList]; exact h)
end
theorem rng_fr {fp : Nat → Prop} {w w' : World} {g off : Nat} {l : List Value} (h : w.rangeAt g off l) (hf : Fr fp w w') (hn : ¬ fp g) : w'.rangeAt g off l := fun j v hv => by
  have hc := h j v hv
  rw [hf.cell (World.block_lt_of_cell? w _ hc) hn]
  exact hc
theorem rng_far {w w' : World} {g off : Nat} {l : List Value} (h : w.rangeAt g off l) (hf : Fr (fun _ => False) w w') : w'.rangeAt g off l := rng_fr h hf (fun h => h)
theorem blk_all {w : World} {g : Nat} {t : TypeId} {C : Array Value} (h : Blk w g t C) : w.rangeAt g 0 C.toList := h.rng
theorem ret_int {k : IntKind} {a b : Int} (h : a = b) : Ending.returned (.int k a) = .returned (.int k b) := by rw [h]
theorem ret_bool {a b : Bool} (h : a = b) : Ending.returned (.bool a) = .returned (.bool b) := by rw [h]
/-- The zero value. -/
theorem RdV.zero (D : Nat → Prop) (w : World) : RdV D w (vcs 0 0 [] none 0 0 none 0 0) V.zero :=
  .mk (l := []) (ks := []) [] ⟨by decide, by decide, by decide, by decide, Nat.zero_le _, Nat.zero_le _, Nat.zero_le _, fun _ h => by cases h⟩ (Rd.none_ _ _) (fun h => absurd h (by decide)) (Nat.le_refl _) rfl (fun _ h => by cases h) (Rd.none_ _ _) (fun h => absurd h (by decide)) (Nat.le_refl _) (fun i C x h => by simp at h)
end Go.Proofs.YtnkfkicabgajmaaGreatDoor
