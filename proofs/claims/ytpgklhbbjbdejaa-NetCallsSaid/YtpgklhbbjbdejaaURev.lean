/-
  CONTRACTS of reverseRangeOrdered at uint64. Written by gen_u1.py.
-/
import Derived.Test.YtpgklhbbjbdejaaU
namespace Go.Proofs.Ytpgklhbbjbdejaa
set_option linter.unusedSimpArgs false
set_option linter.unusedVariables false
open Go Go.RowKit Go.Sort

theorem rev_step {α : Type} [Inhabited α] (i j : Nat) (d : Array α) (h : i < j) : reverseLoop i j d = reverseLoop (i + 1) (j - 1) (swp d i j) := by
  conv => lhs; rw [reverseLoop, if_pos h]
set_option maxRecDepth 100000 in
set_option maxHeartbeats 4000000 in
theorem rev_c (w : World) (g c a b : Nat) (d : Array Nat) (rest : List Value) (hR : RowU w g d rest) (hab : a < b) (hb : b ≤ d.size) (hsz : d.size ≤ 1000000) :
    Calls Try.prog 45 #[.slice (some ⟨g, 0, none⟩) d.size c, .int .i64 a, .int .i64 b] w fun e w' => e = .returned (.tuple #[]) ∧ Now w g rest d.size w' (reverseRange d a b) := by
  obtain ⟨n, hn⟩ : ∃ n, d.size = n := ⟨_, rfl⟩
  have H0 : Hid (Now w g rest n w d) := hn ▸ Now.start hR
  rw [hn] at hb hsz ⊢
  clear hR hn
  have i0 : (b : Int) - 1 = ((b - 1 : Nat) : Int) := by omega
  go_enter Try.func45, Try.ntmps45
  go_wp2_with fail
  go_loopw [6, 7] (fun vi vj wr => ∃ (i j : Nat) (dk : Array Nat), vi = .int .i64 i ∧ vj = .int .i64 j ∧ a ≤ i ∧ j < b ∧ i ≤ j + 1 ∧ Hid (Now w g rest n wr dk) ∧ Hid (reverseLoop i j dk = reverseLoop a (b - 1) d)) (fun vi vj _ => (intOf vj + 1 - intOf vi).toNat)
  case atStart => exact ⟨a, b - 1, d, rfl, by go_num, Nat.le_refl _, by omega, by omega, H0, rfl⟩
  case round =>
    obtain ⟨i, j, dk, rfl, rfl, hi, hj, hij, N1, HS⟩ := hrel
    clear H0 i0
    by_cases hlt : i < j
    · have hdl : decide ((i : Int) < (j : Int)) = true := decide_eq_true (by omega)
      have k1 : (i : Int) < n := by omega
      have k2 : (j : Int) < n := by omega
      have l1 : i < n := by omega
      have l2 : j < n := by omega
      obtain ⟨G, hG⟩ : ∃ G : Nat → Nat, ∀ t, dk[t]! = G t := ⟨fun t => dk[t]!, fun _ => rfl⟩
      have hcw := N1.out.cells
      have hfw := N1.out.froz
      simp only [hG] at hcw
      have HG := Lib.hid hG
      clear hG
      go_wp2_with fail
      go_region
      all_goals go_wp2_with fail
      all_goals go_roundw
      case rel => exact ⟨i + 1, j - 1, swp dk i j, by go_num, by congr 1; omega, by omega, by omega, by omega, by have h := (N1.out.drew).swp (i := i) (j := j) l1 l2; rw [HG.out, HG.out] at h; exact h, by rw [← HS.out]; exact (rev_step i j dk hlt).symm⟩
      case measure => simp [intOf]; omega
    · have hdl : decide ((i : Int) < (j : Int)) = false := decide_eq_false (by omega)
      go_wp2_with fail
      go_end0
      refine ⟨rfl, ?_⟩
      have h0 : dk = reverseLoop a (b - 1) d := by rw [← HS.out, reverseLoop, if_neg hlt]
      have := N1.out
      rw [h0] at this
      exact this
end Go.Proofs.Ytpgklhbbjbdejaa
