/-
  WHAT Put MAKES OF AN OBJECT, as plain data: where a key stands, what is found by it behind. No program is walked here.
-/
import Derived.Test.YtnkfkicabgajmaaGreatDoorAt
import Derived.Shelf.Spec.SearchS
namespace Go.Proofs.YtnkfkicabgajmaaGreatDoor
set_option linter.unusedSimpArgs false
set_option linter.unusedVariables false
open Go Go.RowKit

/-- How many keys stand ahead of this one, as the halving tells. -/
def posK (ks : List (List UInt8)) (key : List UInt8) : Nat := Lib.bsGo (fun t => kl (ks.getD t []) key) ks.length 0 ks.length
def hasK (ks : List (List UInt8)) (key : List UInt8) : Bool := decide (posK ks key < ks.length ∧ ks.getD (posK ks key) [] = key)
def putV : V → List UInt8 → V → V
  | .mk k n t l ks, key, x => if hasK ks key then .mk k n t (l.set (posK ks key) x) ks else .mk k n t (l.take (posK ks key) ++ x :: l.drop (posK ks key)) (ks.take (posK ks key) ++ key :: ks.drop (posK ks key))
theorem put_mk (k n : Int) (t : List UInt8) (l : List V) (ks : List (List UInt8)) (key : List UInt8) (x : V) : putV (.mk k n t l ks) key x = if hasK ks key then .mk k n t (l.set (posK ks key) x) ks else .mk k n t (l.take (posK ks key) ++ x :: l.drop (posK ks key)) (ks.take (posK ks key) ++ key :: ks.drop (posK ks key)) := rfl
def putO (v : V) (key : List UInt8) (x : V) : Option V := if v.k = 6 ∧ mayV v = true ∧ mayV x = true ∧ mayV (putV v key x) = true then some (putV v key x) else none

theorem bsGo_congr {f g : Nat → Bool} : ∀ (m lo hi : Nat), (∀ t, lo ≤ t → t < hi → f t = g t) → Lib.bsGo f m lo hi = Lib.bsGo g m lo hi
  | 0, _, _, _ => rfl
  | m + 1, lo, hi, h => by
    unfold Lib.bsGo
    by_cases hl : lo < hi
    · rw [if_pos hl, if_pos hl, h ((lo + hi) / 2) (by omega) (by omega), bsGo_congr m _ hi (fun t h1 h2 => h t (by omega) h2), bsGo_congr m lo _ (fun t h1 h2 => h t h1 (by omega))]
    · rw [if_neg hl, if_neg hl]
theorem part_of {p : Nat → Bool} : ∀ n : Nat, (∀ t, t + 1 < n → p (t + 1) = true → p t = true) → ∃ q, q ≤ n ∧ (∀ t, t < q → p t = true) ∧ ∀ t, q ≤ t → t < n → p t = false
  | 0, _ => ⟨0, Nat.le_refl _, fun t h => by omega, fun t h1 h2 => by omega⟩
  | n + 1, h => by
    obtain ⟨q, hq, h1, h2⟩ := part_of n (fun t ht => h t (by omega))
    by_cases hqn : q = n
    · subst hqn
      cases hp : p q with
      | true => exact ⟨q + 1, Nat.le_refl _, fun t ht => by
          by_cases e : t = q
          · rw [e]; exact hp
          · exact h1 t (by omega), fun t a b => by omega⟩
      | false => exact ⟨q, by omega, h1, fun t a b => by
          have : t = q := by omega
          rw [this]; exact hp⟩
    · refine ⟨q, by omega, h1, fun t a b => ?_⟩
      by_cases e : t = n
      · subst e
        have hf := h2 (t - 1) (by omega) (by omega)
        cases hp : p t with
        | false => rfl
        | true =>
          have := h (t - 1) (by omega) (by rw [show t - 1 + 1 = t by omega]; exact hp)
          rw [hf] at this
          cases this
      · exact h2 t a (by omega)
theorem rising_lt {ks : List (List UInt8)} (h : rising ks = true) {i : Nat} (hi : i + 1 < ks.length) : kl (ks.getD i []) (ks.getD (i + 1) []) = true := by
  have h1 := (rising_iff ks).1 h (i + 1) hi
  unfold riseAt at h1
  simp only [Bool.and_eq_true, Bool.or_eq_true, Nat.add_sub_cancel] at h1
  rw [kl_cmpT]
  rcases h1.2 with h2 | h2
  · simp at h2
  · exact h2
theorem rising_lt2 {ks : List (List UInt8)} (h : rising ks = true) : ∀ (d i : Nat), i + d + 1 < ks.length → kl (ks.getD i []) (ks.getD (i + d + 1) []) = true
  | 0, i, hi => rising_lt h hi
  | d + 1, i, hi => kl_trans _ _ _ (rising_lt2 h d i (by omega)) (rising_lt h (i := i + d + 1) hi)
theorem posK_spec {ks : List (List UInt8)} (h : rising ks = true) (key : List UInt8) : posK ks key ≤ ks.length ∧ (∀ t, t < posK ks key → kl (ks.getD t []) key = true) ∧ ∀ t, posK ks key ≤ t → t < ks.length → kl (ks.getD t []) key = false := by
  obtain ⟨q, h1, h2, h3⟩ := part_of (p := fun t => kl (ks.getD t []) key) ks.length (fun t ht hk => kl_trans _ _ _ (rising_lt h ht) hk)
  have hq : posK ks key = q := by
    unfold posK
    rw [bsGo_congr (g := fun t => decide (t < q)) ks.length 0 ks.length (fun t _ ht => by
      by_cases e : t < q
      · rw [h2 t e, decide_eq_true e]
      · rw [h3 t (by omega) ht, decide_eq_false e])]
    exact Lib.bsGo_spec _ q (fun t ht => decide_eq_true ht) (fun t ht => decide_eq_false (by omega)) _ _ _ (by omega) (by omega) h1
  rw [hq]
  exact ⟨h1, h2, h3⟩
theorem hasK_iff {ks : List (List UInt8)} (h : rising ks = true) (key : List UInt8) : hasK ks key = true ↔ key ∈ ks := by
  obtain ⟨h1, h2, h3⟩ := posK_spec h key
  unfold hasK
  rw [decide_eq_true_eq]
  constructor
  · rintro ⟨a, b⟩
    rw [← b, show ks.getD (posK ks key) [] = ks[posK ks key] by simp [a]]
    exact List.getElem_mem a
  · intro hm
    obtain ⟨j, hj, hk⟩ := List.getElem_of_mem hm
    have hg : ks.getD j [] = key := by simp [hj, hk]
    have hp : posK ks key ≤ j := by
      rcases Nat.lt_or_ge j (posK ks key) with a | a
      · have := h2 j a; rw [hg, kl_irr] at this; cases this
      · exact a
    rcases Nat.lt_or_ge (posK ks key) j with a | a
    · have := rising_lt2 h (j - posK ks key - 1) (posK ks key) (by omega)
      rw [show posK ks key + (j - posK ks key - 1) + 1 = j by omega, hg, h3 _ (Nat.le_refl _) (by omega)] at this
      cases this
    · have e : posK ks key = j := by omega
      rw [e]
      exact ⟨hj, hg⟩
/-- What is found by a key. -/
def lkp : List (List UInt8) → List V → List UInt8 → Option V
  | a :: ks, x :: l, c => if a = c then some x else lkp ks l c
  | _, _, _ => none
theorem lkp_is : ∀ (ks : List (List UInt8)) (l : List V) (c : List UInt8), ks.length = l.length → (ixO ks c).bind (fun i => l[i]?) = lkp ks l c
  | [], [], _, _ => rfl
  | a :: ks, x :: l, c, h => by
    have ih := lkp_is ks l c (by simpa using h)
    rw [lkp, ← ih]
    unfold ixO
    rw [List.findIdx?_cons]
    by_cases e : a = c
    · subst e; simp
    · simp only [show (a == c) = false by simpa using e, e, if_false]
      cases List.findIdx? (fun x => x == c) ks <;> simp
  | [], _ :: _, _, h => by simp at h
  | _ :: _, [], _, h => by simp at h
theorem lkp_ins_ne : ∀ (p : Nat) (ks : List (List UInt8)) (l : List V) (key c : List UInt8) (x : V), ks.length = l.length → p ≤ ks.length → key ≠ c → lkp (ks.take p ++ key :: ks.drop p) (l.take p ++ x :: l.drop p) c = lkp ks l c
  | 0, ks, l, key, c, x, _, _, h => by simp [lkp, h]
  | p + 1, a :: ks, y :: l, key, c, x, hl, hp, h => by
    simp only [List.take_succ_cons, List.drop_succ_cons, List.cons_append, lkp]
    rw [lkp_ins_ne p ks l key c x (by simpa using hl) (by simpa using hp) h]
  | p + 1, [], _, _, _, _, _, hp, _ => by simp at hp
  | p + 1, _ :: _, [], _, _, _, hl, _, _ => by simp at hl
theorem lkp_ins_eq : ∀ (p : Nat) (ks : List (List UInt8)) (l : List V) (key : List UInt8) (x : V), ks.length = l.length → p ≤ ks.length → (∀ t, t < p → ks.getD t [] ≠ key) → lkp (ks.take p ++ key :: ks.drop p) (l.take p ++ x :: l.drop p) key = some x
  | 0, ks, l, key, x, _, _, _ => by simp [lkp]
  | p + 1, a :: ks, y :: l, key, x, hl, hp, h => by
    have h0 := h 0 (by omega)
    simp only [List.getD_cons_zero] at h0
    simp only [List.take_succ_cons, List.drop_succ_cons, List.cons_append, lkp, h0, if_false]
    exact lkp_ins_eq p ks l key x (by simpa using hl) (by simpa using hp) (fun t ht => by simpa using h (t + 1) (by omega))
  | p + 1, [], _, _, _, _, hp, _ => by simp at hp
  | p + 1, _ :: _, [], _, _, hl, _, _ => by simp at hl
theorem lkp_set_ne : ∀ (p : Nat) (ks : List (List UInt8)) (l : List V) (c : List UInt8) (x : V), ks.length = l.length → p < ks.length → ks.getD p [] ≠ c → lkp ks (l.set p x) c = lkp ks l c
  | 0, a :: ks, y :: l, c, x, _, _, h => by
    simp only [List.getD_cons_zero] at h
    simp [lkp, h]
  | p + 1, a :: ks, y :: l, c, x, hl, hp, h => by
    simp only [List.set_cons_succ, lkp]
    rw [lkp_set_ne p ks l c x (by simpa using hl) (by simpa using hp) (by simpa using h)]
  | _, [], _, _, _, _, hp, _ => by simp at hp
  | _, _ :: _, [], _, _, hl, _, _ => by simp at hl
theorem lkp_set_eq : ∀ (p : Nat) (ks : List (List UInt8)) (l : List V) (c : List UInt8) (x : V), ks.length = l.length → p < ks.length → ks.getD p [] = c → (∀ t, t < p → ks.getD t [] ≠ c) → lkp ks (l.set p x) c = some x
  | 0, a :: ks, y :: l, c, x, _, _, h, _ => by
    simp only [List.getD_cons_zero] at h
    simp [lkp, h]
  | p + 1, a :: ks, y :: l, c, x, hl, hp, h, hn => by
    have h0 := hn 0 (by omega)
    simp only [List.getD_cons_zero] at h0
    simp only [List.set_cons_succ, lkp, h0, if_false]
    exact lkp_set_eq p ks l c x (by simpa using hl) (by simpa using hp) (by simpa using h) (fun t ht => by simpa using hn (t + 1) (by omega))
  | _, [], _, _, _, _, hp, _, _ => by simp at hp
  | _, _ :: _, [], _, _, hl, _, _, _ => by simp at hl
/-- A key is one component. -/
theorem comps_key {c : List UInt8} (h : keyOk c = true) : comps c = [c] := by
  have h46 : c.count 46 = 0 := by
    unfold keyOk at h
    simp only [Bool.and_eq_true] at h
    rw [List.count_eq_zero]
    intro hm
    have := List.all_eq_true.1 h.2 46 hm
    simp [keyB] at this
  unfold comps
  have hc : Lib.countB (strOf c) (strOf [46]) = 0 := by
    show Lib.count (strOf c).data.toList (strOf [46]).data.toList = 0
    rw [strOf_data, strOf_data, Lib.count_one]
    exact h46
  rw [hc, Lib.splitB_zero]
  rfl
theorem keyOk_ne {c : List UInt8} (h : keyOk c = true) : c ≠ [] := by
  rintro rfl
  simp [keyOk] at h
theorem at_obj {v : V} {c : List UInt8} (hm : mayV v = true) (h6 : v.k = 6) (hc : keyOk c = true) : atO v c = match lkp v.ks v.l c with
    | none => (none, 4)
    | some x => (some x, 0) := by
  obtain ⟨k, n, t, l, ks⟩ := v
  have h6' : k = 6 := h6
  subst h6'
  obtain ⟨hu, -, -, -⟩ := fields_kids (may_fields hm).1
  have hlen := (uses_iff.1 hu).obj rfl
  unfold atO
  rw [if_neg (by rw [hm]; simp [keyOk_ne hc]), comps_key hc]
  show _ = match lkp ks l c with | none => _ | some x => _
  rw [← lkp_is ks l c hlen]
  unfold atV
  have hp : posV (.mk 6 n t l ks) c = ixO ks c := by rw [posV, if_pos rfl]
  rw [hp]
  cases hi : ixO ks c with
  | none => rfl
  | some i =>
    show (match (match l[i]? with | none => none | some x => atV x []) with | none => _ | some x => _) = match (l[i]?) with | none => _ | some x => _
    cases l[i]? with
    | none => rfl
    | some y => rfl
theorem putO_some {v x o : V} {key : List UInt8} (h : putO v key x = some o) : v.k = 6 ∧ mayV v = true ∧ mayV x = true ∧ mayV o = true ∧ putV v key x = o := by
  unfold putO at h
  split at h
  · rename_i hc
    injection h with h
    subst h
    exact ⟨hc.1, hc.2.1, hc.2.2.1, hc.2.2.2, rfl⟩
  · cases h
theorem put_k (v x : V) (key : List UInt8) : (putV v key x).k = v.k := by
  obtain ⟨k, n, t, l, ks⟩ := v
  rw [put_mk]
  split <;> rfl
/-- What is put is there; all else is as it was; the key may be one. -/
theorem put_look {v x o : V} {key : List UInt8} (h : putO v key x = some o) : keyOk key = true ∧ lkp o.ks o.l key = some x ∧ ∀ c, key ≠ c → lkp o.ks o.l c = lkp v.ks v.l c := by
  obtain ⟨h6, hm, hx, ho, rfl⟩ := putO_some h
  obtain ⟨k, n, t, l, ks⟩ := v
  have h6' : k = 6 := h6
  subst h6'
  obtain ⟨hu, -, hr, -⟩ := fields_kids (may_fields hm).1
  have hlen := (uses_iff.1 hu).obj rfl
  obtain ⟨p1, p2, p3⟩ := posK_spec hr key
  have hne : ∀ t, t < posK ks key → ks.getD t [] ≠ key := fun t ht => kl_ne (p2 t ht)
  cases hh : hasK ks key with
  | true =>
    have e : putV (.mk 6 n t l ks) key x = .mk 6 n t (l.set (posK ks key) x) ks := by rw [put_mk, if_pos hh]
    rw [e] at ho ⊢
    have hh2 := hh
    unfold hasK at hh2
    rw [decide_eq_true_eq] at hh2
    refine ⟨?_, lkp_set_eq _ ks l key x hlen hh2.1 hh2.2 hne, fun c hc => lkp_set_ne _ ks l c x hlen hh2.1 (by rw [hh2.2]; exact hc)⟩
    have := (rising_iff ks).1 hr _ hh2.1
    unfold riseAt at this
    simp only [Bool.and_eq_true] at this
    rw [hh2.2] at this
    exact this.1
  | false =>
    have e : putV (.mk 6 n t l ks) key x = .mk 6 n t (l.take (posK ks key) ++ x :: l.drop (posK ks key)) (ks.take (posK ks key) ++ key :: ks.drop (posK ks key)) := by rw [put_mk, if_neg (by simp [hh])]
    rw [e] at ho ⊢
    obtain ⟨-, -, hr2, -⟩ := fields_kids (may_fields ho).1
    refine ⟨?_, lkp_ins_eq _ ks l key x hlen p1 hne, fun c hc => lkp_ins_ne _ ks l key c x hlen p1 hc⟩
    have := (rising_iff _).1 hr2 (posK ks key) (by simp; omega)
    unfold riseAt at this
    simp only [Bool.and_eq_true] at this
    have hg : (ks.take (posK ks key) ++ key :: ks.drop (posK ks key)).getD (posK ks key) [] = key := by
      rw [List.getD_eq_getElem?_getD, List.getElem?_append_right (by simp; omega)]
      simp [Nat.min_eq_left p1]
    rw [hg] at this
    exact this.1
theorem lkp_ix : ∀ (ks : List (List UInt8)) (l : List V) (c : List UInt8) (x : V), ks.length = l.length → lkp ks l c = some x → ∃ i, i < ks.length ∧ ks.getD i [] = c ∧ l[i]? = some x
  | [], _, _, _, _, h => by simp [lkp] at h
  | _ :: _, [], _, _, _, h => by simp [lkp] at h
  | a :: ks, y :: l, c, x, hl, h => by
    rw [lkp] at h
    by_cases e : a = c
    · rw [if_pos e] at h
      exact ⟨0, by simp, by simpa using e, by simpa using h⟩
    · rw [if_neg e] at h
      obtain ⟨i, h1, h2, h3⟩ := lkp_ix ks l c x (by simpa using hl) h
      exact ⟨i + 1, by simpa using h1, by simpa using h2, by simpa using h3⟩
theorem put_twice {v x o : V} {key : List UInt8} (h : putO v key x = some o) : putO o key x = some o := by
  obtain ⟨-, hl, -⟩ := put_look h
  obtain ⟨h6, hm, hx, ho, he⟩ := putO_some h
  have ho6 : o.k = 6 := by rw [← he, put_k]; exact h6
  clear h he
  obtain ⟨k, n, t, l, ks⟩ := o
  have h6' : k = 6 := ho6
  subst h6'
  have hl' : lkp ks l key = some x := hl
  obtain ⟨hu, -, hr, -⟩ := fields_kids (may_fields ho).1
  have hlen := (uses_iff.1 hu).obj rfl
  obtain ⟨i, hi, hk, hv⟩ := lkp_ix ks l key x hlen hl'
  have hmem : key ∈ ks := by
    rw [← hk, show ks.getD i [] = ks[i] by simp [hi]]
    exact List.getElem_mem hi
  have hh := (hasK_iff hr key).2 hmem
  have hh2 := hh
  unfold hasK at hh2
  rw [decide_eq_true_eq] at hh2
  have e : posK ks key = i := by
    obtain ⟨p1, p2, p3⟩ := posK_spec hr key
    rcases Nat.lt_trichotomy (posK ks key) i with a | a | a
    · have := rising_lt2 hr (i - posK ks key - 1) (posK ks key) (by omega)
      rw [show posK ks key + (i - posK ks key - 1) + 1 = i by omega, hk, hh2.2, kl_irr] at this
      cases this
    · exact a
    · have := p2 i a
      rw [hk, kl_irr] at this
      cases this
  have e2 : putV (.mk 6 n t l ks) key x = .mk 6 n t l ks := by
    rw [put_mk, if_pos hh, e]
    congr 1
    apply List.ext_getElem?
    intro j
    rw [List.getElem?_set]
    by_cases hj : i = j
    · subst hj
      rw [if_pos rfl, if_pos (by omega), hv]
    · rw [if_neg hj]
  unfold putO
  rw [if_pos ⟨rfl, ho, hx, by rw [e2]; exact ho⟩, e2]
end Go.Proofs.YtnkfkicabgajmaaGreatDoor
