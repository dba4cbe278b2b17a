/-
  WHAT LexBetween WANTS, plain: where a token begins; the texts that may stand between. No program is walked here.
-/
import Derived.Test.YtimopkmlcjdgfaaDoorLjo
import Derived.Laws.BitsLemmas
namespace Go.Proofs.YtimopkmlcjdgfaaDoor
set_option linter.unusedSimpArgs false
set_option linter.unusedVariables false
open Go Go.RowKit

/-- Where a token begins, the text goes on so that nothing is passed. -/
theorem lex_tok (L : Nat) : ∀ (f : Nat) (s : List UInt8) (l : List Tk), lexL L f s = .inl l → ∀ x ∈ l, ∃ u y : List UInt8, s = u ++ y ∧ 0 < y.length ∧ skp false y = y ∧ x.a = ((L - y.length : Nat) : Int)
  | 0, s, l, h, x, hx => by
    have h' : (Sum.inl [] : List Tk ⊕ Nat) = .inl l := h
    injection h' with h'
    rw [← h'] at hx; cases hx
  | f + 1, s, l, h, x, hx => by
    unfold lexL at h
    obtain ⟨p, hp⟩ := skp_suf false s
    cases hs : skp false s with
    | nil => rw [hs] at h; injection h with h; rw [← h] at hx; cases hx
    | cons c r =>
      rw [hs] at h hp
      dsimp only at h
      cases ht : tok (c :: r) with
      | none => rw [ht] at h; cases h
      | some q =>
        rw [ht] at h
        dsimp only at h
        cases hr : lexL L f ((c :: r).drop q.2.2.2) with
        | inr e => rw [hr] at h; cases h
        | inl l2 =>
          rw [hr] at h
          dsimp only at h
          injection h with h
          subst h
          rcases List.mem_cons.1 hx with rfl | hx
          · exact ⟨p, c :: r, hp.symm, by simp, by have := skp_idem false s; rw [hs] at this; exact this, rfl⟩
          · obtain ⟨u, y, hu, hy, hk, ha⟩ := lex_tok L f _ l2 hr x hx
            refine ⟨p ++ (c :: r).take q.2.2.2 ++ u, y, ?_, hy, hk, ha⟩
            rw [List.append_assoc, List.append_assoc, ← hu, List.take_append_drop]
            exact hp.symm
theorem skp_com10 (y : List UInt8) : ∀ c : List UInt8, 10 ∉ c → skp true (c ++ 10 :: y) = skp false y
  | [], _ => by
    show skp true (10 :: y) = _
    rw [show skp true (10 :: y) = if (10 : UInt8) == 10 then skp false y else skp true y from by conv => lhs; unfold skp]
    rfl
  | b :: c, h => by
    simp only [List.mem_cons, not_or] at h
    have hb : (b == 10) = false := by simpa using fun e => h.1 e.symm
    show skp true (b :: (c ++ 10 :: y)) = _
    rw [show skp true (b :: (c ++ 10 :: y)) = if b == 10 then skp false (c ++ 10 :: y) else skp true (c ++ 10 :: y) from by conv => lhs; unfold skp]
    rw [hb]
    exact skp_com10 y c h.2
/-- The five texts that may stand between tokens. -/
def gapT (c : List UInt8) (i : Nat) : List UInt8 := match i with
  | 0 => [32]
  | 1 => [9]
  | 2 => [10]
  | 3 => [13, 10]
  | _ => 35 :: (c ++ [10])
theorem gapT_skp {c y : List UInt8} (hc : 10 ∉ c) (hy : skp false y = y) (i : Nat) : skp false (gapT c i ++ y) = y := by
  unfold gapT
  split
  · exact (skp_gap (by decide)).trans hy
  · exact (skp_gap (by decide)).trans hy
  · exact (skp_gap (by decide)).trans hy
  · exact (skp_gap (by decide)).trans ((skp_gap (by decide)).trans hy)
  · show skp false (35 :: ((c ++ [10]) ++ y)) = y
    rw [skp_hash, List.append_assoc]
    exact (skp_com10 y c hc).trans hy
theorem gapT_hd (c : List UInt8) (i : Nat) : ∃ z g', gapT c i = z :: g' ∧ Sep z := by
  unfold gapT
  split
  all_goals exact ⟨_, _, rfl, ⟨by decide, by decide, by decide, by decide⟩⟩
theorem gapT_len {c : List UInt8} (hc : c.length ≤ 300) (i : Nat) : (gapT c i).length ≤ 302 := by
  unfold gapT
  split
  all_goals simp only [List.length_cons, List.length_append, List.length_nil]; omega
/-- What LexBetween says, plain. -/
theorem all_ins {s c : List UInt8} {l : List Tk} (h : allS s = .inl l) (hc : 10 ∉ c) (i : Nat) {x : Tk} (hx : x ∈ l) : ∃ n : Nat, x.a = (n : Int) ∧ n < s.length ∧ allS (s.take n ++ (gapT c i ++ s.drop n)) = .inl (l.map (insT (n : Int) (gapT c i).length)) := by
  obtain ⟨u, y, hs, hy, hk, ha⟩ := lex_tok _ _ _ _ h x hx
  have hl : s.length = u.length + y.length := by rw [hs, List.length_append]
  have hn : s.length - y.length = u.length := by omega
  rw [hn] at ha
  refine ⟨u.length, ha, by omega, ?_⟩
  have ht : s.take u.length = u := by rw [hs, List.take_left]
  have hd : s.drop u.length = y := by rw [hs, List.drop_left]
  rw [ht, hd]
  obtain ⟨z, g', hg, hz⟩ := gapT_hd c i
  unfold allS at h ⊢
  have := lex_ins (g := gapT c i) (y := y) (gapT_skp hc hk i) hz hg hy s.length (s.length + 1) ((u ++ (gapT c i ++ y)).length + 1) u l (by rw [← hs]; omega) (by omega) (by rw [← hs]; exact Nat.le_refl _) (by rw [← hs]; exact h) ⟨x, hx, by rw [hn]; exact ha⟩
  rw [hn] at this
  rw [show (u ++ (gapT c i ++ y)).length = s.length + (gapT c i).length by rw [List.length_append, List.length_append, hl]; omega] at this ⊢
  exact this
theorem eqT_ins (a : Int) (d : Nat) (x : Tk) : eqT x (insT a d x) = true := by
  unfold insT
  split
  · exact eqT_refl x
  · simp [eqT, shT]
theorem same_ins (a : Int) (d : Nat) : ∀ l : List Tk, sameT l (l.map (insT a d)) = true
  | [] => rfl
  | x :: l => by
    show (eqT x (insT a d x) && sameT l (l.map (insT a d))) = true
    rw [eqT_ins, same_ins a d l]
    rfl
theorem and_low (x : Int) : ∃ n : Nat, bits .and .i64 x 65535 = (n : Int) ∧ n ≤ 65535 := by
  have h : ((BitVec.ofInt 64 x) &&& (BitVec.ofInt 64 65535)).toNat ≤ 65535 := by
    rw [BitVec.toNat_and]
    exact Nat.and_le_right
  refine ⟨((BitVec.ofInt 64 x) &&& (BitVec.ofInt 64 65535)).toNat, ?_, h⟩
  show IntKind.i64.wrap ((BitVec.ofInt 64 x &&& BitVec.ofInt 64 65535).toNat : Int) = _
  exact IntWalk.i64_in _ (by omega)
theorem tmod_low (n : Nat) (m : Nat) (hm : 0 < m) : ∃ r : Nat, (n : Int).tmod (m : Int) = (r : Int) ∧ r < m := by
  refine ⟨n % m, ?_, Nat.mod_lt _ hm⟩
  rw [Int.tmod_eq_emod_of_nonneg (by omega)]
  rfl
end Go.Proofs.YtimopkmlcjdgfaaDoor
