/-
  CONTRACTS of the reference's digits and Digits.
-/
import Derived.Test.YtimopkmlcjdgfaaDoorRfn
import Derived.Test.YtimopkmlcjdgfaaDoorRby
namespace Go.Proofs.YtimopkmlcjdgfaaDoor
set_option linter.unusedSimpArgs false
set_option linter.unusedVariables false
open Go Go.RowKit Go.Lib

theorem dec_step {u : Nat} (h : ¬ u < 10) : decDigits u = decDigits (u / 10) ++ [UInt8.ofNat (48 + u % 10)] := by
  conv => lhs; unfold Lib.decDigits
  rw [dif_neg h]
theorem dec_small {u : Nat} (h : u < 10) : decDigits u = [UInt8.ofNat (48 + u)] := by
  unfold Lib.decDigits
  rw [dif_pos h]
theorem bv_one8 (d : Nat) (h : d < 10) : bv [UInt8.ofNat (48 + d)] = [.int .u8 (48 + (d : Int))] := by
  have : (UInt8.ofNat (48 + d)).toNat = 48 + d := by
    rw [UInt8.toNat_ofNat']
    omega
  show [Value.int .u8 ((UInt8.ofNat (48 + d)).toNat : Int)] = _
  rw [this]
  rfl
theorem dec_len (u : Nat) (h : u < 18446744073709551616) : (decDigits u).length ≤ 20 := by
  rw [decDigits_length]
  exact nDigits_le20 u h
set_option maxRecDepth 100000 in
set_option maxHeartbeats 2000000 in
theorem rdigits_c : ∀ (n : Nat) (w : World), n < 18446744073709551616 → Calls Tryd.prog 54 #[.int .u64 (n : Int)] w fun e w' => e = .returned (.string (strOf (decDigits n))) ∧ Fr (fun _ => False) w w' := by
  intro n
  induction n using Nat.strongRecOn with
  | _ n ih =>
  intro w hn
  obtain ⟨d, hd⟩ : ∃ d : Nat, n % 10 = d := ⟨_, rfl⟩
  have hr : (n : Int) % 10 = (d : Int) := by omega
  have hr2 : (n : Int).tmod 10 = (d : Int) := by rw [Int.tmod_eq_emod_of_nonneg (by omega)]; exact hr
  have hd10 : d < 10 := by omega
  have hbv := bv_one8 d hd10
  obtain ⟨c, hc⟩ : ∃ c, UInt8.ofNat (48 + d) = c := ⟨_, rfl⟩
  rw [hc] at hbv
  have HCD := Lib.hid hc
  have HDD := Lib.hid hd
  have hconv : (convert 56 9 (.slice (some ⟨w.heap.size, 0, none⟩) 1 1)).run Tryd.prog (w.alloc (.cells #[.int .u8 (48 + (d : Int))] 5)) = .ok (.string (strOf [c])) (w.alloc (.cells #[.int .u8 (48 + (d : Int))] 5)) := conv_str _ _ 1 1 [c] (by rw [hbv]; exact Rd.of_blk (Blk.new w 5 #[.int .u8 (48 + (d : Int))]) (Nat.le_refl _))
  have FA := Lib.hid ((Fr.refl (fun _ => False) w).alloc (.cells #[.int .u8 (48 + (d : Int))] 5))
  clear hbv hc hd
  by_cases hsm : n < 10
  case pos =>
    have e1 : decide ((n : Int) < 10) = true := decide_eq_true (by omega)
    have e1' : decide (n < 10) = true := decide_eq_true hsm
    have HR : Hid (decDigits n = [c]) := Lib.hid (by
      have := HDD.out
      rw [dec_small hsm, ← HCD.out, show d = n by omega])
    clear ih hr hr2
    have hr : (n : Int) % 10 = (d : Int) := by have := HDD.out; omega
    go_enter Tryd.func54, Tryd.ntmps54
    go_wp2_with fail
    go_ret
    rw [HR.out]
    exact ⟨rfl, FA.out⟩
  case neg =>
    have e1 : decide ((n : Int) < 10) = false := decide_eq_false (by omega)
    have e1' : decide (n < 10) = false := decide_eq_false hsm
    obtain ⟨q, hq⟩ : ∃ q : Nat, n / 10 = q := ⟨_, rfl⟩
    have hqi : (n : Int) / 10 = (q : Int) := by omega
    have hqi2 : (n : Int).tdiv 10 = (q : Int) := by rw [Int.tdiv_eq_ediv_of_nonneg (by omega)]; exact hqi
    have IH := Lib.hid (fun W => ih q (by omega) W (by omega))
    have HR : Hid (decDigits n = decDigits q ++ [c]) := Lib.hid (by
      have := HDD.out
      rw [dec_step hsm, hq, ← HCD.out, this])
    have hl := dec_len q (by omega)
    obtain ⟨z, hz⟩ : ∃ z, decDigits q = z := ⟨_, rfl⟩
    rw [hz] at IH HR hl
    have hs1 : ¬ 9223372036854775807 < (strOf z).size + (strOf [c]).size := by rw [strOf_size, strOf_size]; simp only [List.length_cons, List.length_nil]; omega
    clear ih hz hq hl hsm
    go_enter Tryd.func54, Tryd.ntmps54
    go_wp2_with (
      go_at_call 54
      refine (IH.out _).mono ?_
      rintro e W2 ⟨rfl, f2⟩
      have F2 := Lib.hid f2
      clear f2)
    go_ret
    rw [HR.out, ← strOf_app]
    exact ⟨rfl, FA.out.trans F2.out (fun _ _ h => h)⟩
end Go.Proofs.YtimopkmlcjdgfaaDoor
