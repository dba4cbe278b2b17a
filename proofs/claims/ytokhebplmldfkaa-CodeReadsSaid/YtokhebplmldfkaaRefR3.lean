/-
  CONTRACTS of the reference's Reader: ahead.
-/
import Derived.Test.YtokhebplmldfkaaRefR2
namespace Go.Proofs.Ytokhebplmldfkaa
set_option linter.unusedSimpArgs false
set_option linter.unusedVariables false
open Go Go.RowKit

/-- What stands ahead: nothing (0, 0), or a number and how many bytes it has. -/
def aheadOf (m : List UInt8) : Nat × Nat := match rdNum m with | some (x, n) => (n, x) | none => (0, 0)

theorem ahead_big (x : UInt8) (r : List UInt8) (k : Nat) (hk : x.toNat = 247 + k) (h1 : 1 ≤ k) (h2 : k ≤ r.length) : aheadOf (x :: r) = if size (num (r.take k)) = k + 1 then (k + 1, num (r.take k)) else (0, 0) := by
  unfold aheadOf rdNum
  simp only
  rw [if_neg (by omega), if_neg (by omega), show x.toNat - 247 = k from by omega]
  by_cases h : size (num (r.take k)) = k + 1
  · rw [if_pos h, if_pos h]
  · rw [if_neg h, if_neg h]

set_option maxRecDepth 100000 in
set_option maxHeartbeats 1000000 in
theorem ahead_c (w : World) (b : Nat) (A : Option Addr) (l : List UInt8) (bad : Bool) (h : Rm w b A l bad) (hl : l.length ≤ 60000) :
    Calls Try.prog 64 #[.pointer (some ⟨b, 0, none⟩)] w fun e w' => e = .returned (.tuple #[.int .i64 ((aheadOf l).1 : Int), .int .u64 ((aheadOf l).2 : Int)]) ∧ ∃ q, w' = w.drewN q := by
  obtain ⟨c, h1, h2, h3, h4, h5⟩ := h
  unfold maxLen at h4
  have c0 := h1.cell 0
  have c1 := h1.cell 1
  clear h1 h5
  cases l with
  | nil =>
    have e0 : aheadOf [] = (0, 0) := rfl
    rw [e0]
    clear h2 e0 hl
    go_enter Try.func64, Try.ntmps64
    go_wp2_with fail
    go_ret2
    exact ⟨rfl, 0, rfl⟩
  | cons x r =>
    obtain ⟨bb, off, rfl, hc⟩ := h2.lit (by simp)
    have d0 := hc 0 (by simp)
    rw [bv_get _ _ (by simp)] at d0
    simp only [List.getElem_cons_zero, Nat.add_zero] at d0
    have hx := x.toNat_lt
    by_cases hx1 : x.toNat ≤ 247
    · have e0 : aheadOf (x :: r) = (1, x.toNat) := by simp [aheadOf, rdNum, hx1]
      rw [e0]
      clear h2 hc e0
      obtain ⟨R, hR⟩ : ∃ R, (x :: r).length = R + 1 := ⟨r.length, rfl⟩
      rw [hR] at c0 h3
      clear hR hl
      have hmax : max (0 : Int) ((x.toNat : Int) - 247) = 0 := by omega
      go_enter Try.func64, Try.ntmps64
      go_wp2_with fail
      go_quiet (fail)
      go_wp2_with fail
      go_ret2
      exact ⟨rfl, nq, rfl⟩
    · obtain ⟨k, hk⟩ : ∃ k, x.toNat = 247 + k := ⟨x.toNat - 247, by omega⟩
      have hmax : max (0 : Int) ((x.toNat : Int) - 247) = (k : Int) := by omega
      rw [hk] at d0 hmax
      obtain ⟨R, hR⟩ : ∃ R, R = r.length := ⟨_, rfl⟩
      have hk8 : k ≤ 8 := by omega
      have hk1 : 1 ≤ k := by omega
      have hRl : (x :: r).length = R + 1 := by rw [List.length_cons, hR]
      rw [hRl] at c0 h3 hl
      by_cases hlt : R < k
      · have e0 : aheadOf (x :: r) = (0, 0) := by simp [aheadOf, rdNum, hk, hk1, show r.length < k by omega, show ¬ 247 + k ≤ 247 by omega]
        rw [e0]
        clear h2 hc e0 hl
        push_cast at d0 hmax
        go_enter Try.func64, Try.ntmps64
        go_wp2_with fail
        go_ret2
        exact ⟨rfl, 0, rfl⟩
      · have e0 := ahead_big x r k hk hk1 (by omega)
        have hml : (r.take k).length = k := by rw [List.length_take]; omega
        have hX := num_cons_le (r.take k) (by omega)
        have cut := (h2.cut (k := 1) (cap := c) (by rw [hRl]; omega) (by rw [hRl]; exact h3)).take (k := k) (by rw [hRl]; omega)
        rw [if_neg (by omega), ← bv_drop, ← bv_take, List.drop_succ_cons, List.drop_zero] at cut
        have cut2 : Rd w (some ⟨bb, off + 1, none⟩) k (bv (r.take k)) := by simpa [Addr.add] using cut
        have CUT := Lib.hid cut2
        have E0 := Lib.hid e0
        generalize hm : r.take k = m at *
        have hsz : size (num m) = if num m < 248 then 1 else 1 + need (num m) := by unfold size; by_cases h : num m < 248 <;> simp [h] <;> omega
        obtain ⟨X, hXX⟩ : ∃ X, num m = X := ⟨_, rfl⟩
        have HXX := Lib.hid hXX
        rw [hXX] at hX hsz
        have HSZ := Lib.hid hsz
        clear h2 hc e0 hl cut cut2 hm hml hXX hsz hR
        push_cast at d0 hmax
        go_enter Try.func64, Try.ntmps64
        go_wp2_with fail
        refine (sum_c _ _ k _ m CUT.out hk8 (by omega) (by unfold maxLen; omega)).mono ?_
        rintro e w2 ⟨rfl, q, rfl⟩
        rw [HXX.out]
        by_cases hx2 : X < 248
        · have he : aheadOf (x :: r) = (0, 0) := by rw [E0.out, HXX.out, HSZ.out, if_pos hx2, if_neg (by omega)]
          have HE := Lib.hid he
          clear he
          go_wp2_with fail
          go_ret2
          exact ⟨by rw [HE.out]; rfl, q, rfl⟩
        · by_cases hnd : need X = k
          · have he : aheadOf (x :: r) = (k + 1, X) := by rw [E0.out, HXX.out, HSZ.out, if_neg hx2, if_pos (by omega)]
            have HE := Lib.hid he
            clear he
            go_wp2_with fail
            refine (needs_c _ X (by omega)).mono ?_
            rintro e w3 ⟨rfl, rfl⟩
            rw [hnd]
            have hkk : ((k : Int) != 1 + (k : Int) - 1) = false := by rw [bne_eq_false_iff_eq]; omega
            go_wp2_with fail
            go_ret2
            refine ⟨?_, q, rfl⟩
            rw [HE.out]
            show Ending.returned (.tuple #[.int .i64 (1 + (k : Int)), .int .u64 (X : Int)]) = .returned (.tuple #[.int .i64 ((k + 1 : Nat) : Int), .int .u64 (X : Int)])
            rw [show (1 + (k : Int)) = ((k + 1 : Nat) : Int) from by omega]
          · have he : aheadOf (x :: r) = (0, 0) := by rw [E0.out, HXX.out, HSZ.out, if_neg hx2, if_neg (by omega)]
            have HE := Lib.hid he
            clear he
            have hnd2 : ((need X : Int) != 1 + (k : Int) - 1) = true := by rw [bne_iff_ne]; omega
            go_wp2_with fail
            refine (needs_c _ X (by omega)).mono ?_
            rintro e w3 ⟨rfl, rfl⟩
            go_wp2_with fail
            go_ret2
            exact ⟨by rw [HE.out]; rfl, q, rfl⟩
end Go.Proofs.Ytokhebplmldfkaa
