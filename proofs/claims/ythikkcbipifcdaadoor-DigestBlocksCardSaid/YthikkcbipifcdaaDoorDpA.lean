/-
  WHAT WAS WRITTEN TO A DIGEST, named once: its cells hold the state behind a list of bytes.
-/
import Derived.Test.YthikkcbipifcdaaDoorDs
import Derived.Test.YthikkcbipifcdaaDoorPar3
namespace Go.Proofs.YthikkcbipifcdaaDoor
set_option linter.unusedSimpArgs false
set_option linter.unusedVariables false
open Go Go.RowKit

/-- The Digest dc H (.slice A r c) N S lies in W and is what the bytes l gave. -/
def WdP (W : World) (H : List Nat) (N : Nat) (A : Option Addr) (r c : Nat) (l : List UInt8) (S : Nat) : Prop :=
  Ws 8 H ∧ N < 18446744073709551616 ∧ (∃ t, wrL (begL S) 0 l = (H, N, t) ∧ t.length ≤ 64 ∧ Rd W A r (bv t)) ∧ r ≤ c ∧ c ≤ maxLen ∧ ∀ k, inA A k → ∃ cs, Blk W k 5 cs
/-- A Digest as a value, and what was written to it. -/
def Wd (W : World) (v : Value) (l : List UInt8) (S : Nat) : Prop := ∃ H N A r c, v = .agg (dc H (.slice A r c) N S) ∧ WdP W H N A r c l S
theorem WdP.fr {fp : Nat → Prop} {W W' : World} {H : List Nat} {N : Nat} {A : Option Addr} {r c : Nat} {l : List UInt8} {S : Nat} (h : WdP W H N A r c l S) (hf : Fr fp W W') (hd : ∀ k, fp k → ∃ t cs, Blk W k t cs ∧ t ≠ 5) : WdP W' H N A r c l S := by
  obtain ⟨h1, h2, ⟨t, h3, h4, h5⟩, h6, h7, h8⟩ := h
  have hn : ∀ k, inA A k → ¬ fp k := fun k hk hf => by
    obtain ⟨cs, hb⟩ := h8 k hk
    obtain ⟨t, cs', hb', hne⟩ := hd k hf
    exact hb.ne_ hb' (Ne.symm hne) rfl
  exact ⟨h1, h2, ⟨t, h3, h4, h5.fr hf hn⟩, h6, h7, fun k hk => by obtain ⟨cs, hb⟩ := h8 k hk; exact ⟨cs, hb.fr hf (hn k hk)⟩⟩
theorem WdP.far {W W' : World} {H : List Nat} {N : Nat} {A : Option Addr} {r c : Nat} {l : List UInt8} {S : Nat} (h : WdP W H N A r c l S) (hf : Fr (fun _ => False) W W') : WdP W' H N A r c l S := h.fr hf (fun _ h => h.elim)
theorem Wd.far {W W' : World} {v : Value} {l : List UInt8} {S : Nat} (h : Wd W v l S) (hf : Fr (fun _ => False) W W') : Wd W' v l S := by
  obtain ⟨H, N, A, r, c, e, h⟩ := h
  exact ⟨H, N, A, r, c, e, h.far hf⟩
theorem wd_beg (W : World) (S : Nat) (h : S ≤ 32) : WdP W (begL S) 0 none 0 0 [] S :=
  ⟨ws_begL S h, by omega, ⟨[], wrL_less (by simp) _ _, by simp, Rd.none_ _ _⟩, Nat.le_refl _, by unfold maxLen; omega, fun k hk => by obtain ⟨ad, h, _⟩ := hk; cases h⟩
theorem wd_write (w : World) (H : List Nat) (N : Nat) (A : Option Addr) (r c : Nat) (l : List UInt8) (S : Nat) (B : Option Addr) (n cb : Nat) (b : List UInt8) (h : WdP w H N A r c l S) (hB : Rd w B n (bv b)) (hn : n ≤ cb) (hc : cb ≤ maxLen) (hb : b.length ≤ 100000000000) (hT : Tabs w) :
    Calls Tryd.prog 12 #[.agg (dc H (.slice A r c) N S), .slice B n cb] w fun e w' => ∃ v, e = .returned v ∧ Wd w' v (l ++ b) S ∧ Fr (fun _ => False) w w' := by
  obtain ⟨h1, h2, ⟨t, h3, h4, h5⟩, h6, h7, h8⟩ := h
  have hp := wrL_parts _ l b (begL S) 0 (Nat.le_refl _)
  rw [h3] at hp
  have hw := write_c w H A r c t N S B n cb b h1 h5 ⟨h6, h7⟩ hB ⟨hn, hc⟩ h2 (by omega) hT
  have hok := wrL_ok _ (t ++ b) H N (Nat.le_refl _) h1 h2
  have hp' : wrL (begL S) 0 (l ++ b) = wrL H N (t ++ b) := hp
  obtain ⟨st, hst⟩ : ∃ st, wrL H N (t ++ b) = st := ⟨_, rfl⟩
  rw [hst] at hw hok hp'
  refine hw.mono ?_
  rintro e w' ⟨v, rfl, o, f⟩
  obtain ⟨A', c', rfl, h9, h10⟩ := own_slice o
  exact ⟨_, rfl, ⟨st.1, st.2.1, A', st.2.2.length, c', rfl, hok.1.1, hok.1.2, ⟨st.2.2, hp', hok.2.1, Rd.of_own o⟩, h9, h10, own_blks o⟩, f⟩
theorem wd_sum (w : World) (H : List Nat) (N : Nat) (A : Option Addr) (r c : Nat) (l : List UInt8) (S : Nat) (h : WdP w H N A r c l S) (hS : szB (S : Int) = true) (hS2 : 1 ≤ S ∧ S ≤ 32) (hT : Tabs w) :
    Calls Tryd.prog 15 #[.agg (dc H (.slice A r c) N S)] w fun e w' => ∃ v, e = .returned v ∧ (∃ A9 c9, v = .slice A9 S c9 ∧ Rd w' A9 S (bv (sumL (begL S) 0 l S))) ∧ Fr (fun _ => False) w w' := by
  obtain ⟨h1, h2, ⟨t, h3, h4, h5⟩, h6, h7, h8⟩ := h
  have hs := sum_again (begL S) 0 l S (ws_begL S hS2.2) (by omega)
  rw [h3] at hs
  have hs' : sumL H N t S = sumL (begL S) 0 l S := hs
  obtain ⟨q, hq⟩ : ∃ q, sumL (begL S) 0 l S = q := ⟨_, rfl⟩
  have hw := sum_c w H A r c t N S h1 h5 ⟨h6, h7⟩ h2 (by omega) hS hS2 hT
  rw [hs', hq] at hw
  rw [hq]
  refine hw.mono ?_
  rintro e w' ⟨v, rfl, o, f⟩
  obtain ⟨A', c', rfl, h9, h10⟩ := own_slice o
  exact ⟨_, rfl, ⟨A', c', rfl, Rd.of_own o⟩, f⟩
/-- max(0, x) % (n + 1), as a number. -/
theorem rem_max (x : Int) (n : Nat) : ∃ k : Nat, k ≤ n ∧ Int.tmod (max 0 x) ((n : Int) + 1) = (k : Int) := by
  refine ⟨((max 0 x).tmod ((n : Int) + 1)).toNat, ?_, ?_⟩
  · have := Int.tmod_lt_of_pos (max 0 x) (show (0 : Int) < (n : Int) + 1 by omega)
    omega
  · have := Int.tmod_nonneg (((n : Int) + 1)) (show (0 : Int) ≤ max 0 x by omega)
    omega
theorem wpOpIn_go {F : Fence} {n : Nat} {P : Program} {ops : Array Oper} {Q : Exit → Act → World → Prop} {i : Nat} {K : Act → World → Prop} {a : Act} {w : World} (o : Oper) (ho : ops[i]? = some o) (hw : Region.wanted o (yielded ops a.tmps) = true) (h : o.wpIn F n P a w K Q) : wpOpIn F n P ops Q i K a w := by
  unfold wpOpIn
  simp only [ho]
  rw [if_pos hw]
  exact h
end Go.Proofs.YthikkcbipifcdaaDoor
