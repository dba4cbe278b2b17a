/-
  CONTRACT of the reference's Same.
-/
import Derived.Test.YtimopkmlcjdgfaaDoorLbc
namespace Go.Proofs.YtimopkmlcjdgfaaDoor
set_option linter.unusedSimpArgs false
set_option linter.unusedVariables false
open Go Go.RowKit

set_option maxRecDepth 100000 in
set_option maxHeartbeats 4000000 in
theorem rSame_c (w : World) {A A' : Option Addr} {c c' : Nat} {l m : List Tk} (hp : RdT w A l) (hq : RdT w A' m) (h1 : l.length ≤ 140737488355328) (h2 : m.length ≤ 140737488355328) :
    Calls Tryd.prog 18 #[.slice A l.length c, .slice A' m.length c'] w fun e w' => e = .returned (.bool (sameT l m)) ∧ Fr (fun _ => False) w w' := by
  by_cases hl : l.length = m.length
  case neg =>
    have dl : ((l.length : Int) != (m.length : Int)) = true := by simp; omega
    have dl' : (l.length != m.length) = true := by simp; omega
    have HN := Lib.hid (sameNo hl)
    clear hp hq hl
    go_enter Tryd.func18, Tryd.ntmps18
    go_wp2_with fail
    go_ret
    exact ⟨ret_bool HN.out.symm, Fr.refl _ _⟩
  case pos =>
  have dl : ((l.length : Int) != (m.length : Int)) = false := by simp [hl]
  have dl' : (l.length != m.length) = false := by simp [hl]
  have HP := Lib.hid hp
  have HQ := Lib.hid hq
  have HL := Lib.hid hl
  clear hp hq hl
  go_enter Tryd.func18, Tryd.ntmps18
  go_wp2_with fail
  go_loopw [5] (fun iv wr => ∃ i : Nat, i ≤ l.length ∧ iv = .int .i64 (i : Int) ∧ Hid (∀ (j : Nat) (h1 : j < l.length) (h2 : j < m.length), j < i → eqT l[j] m[j] = true) ∧ Hid (Fr (fun _ => False) w wr)) (fun iv _ => l.length - (intOf iv).toNat)
  case atStart => exact ⟨0, Nat.zero_le _, rfl, fun j h1 h2 h => by omega, Fr.refl _ _⟩
  case round =>
    obtain ⟨i, hi, rfl, he, hf⟩ := hrel
    by_cases hlt : i < l.length
    case neg =>
      obtain rfl : i = l.length := by omega
      have hdl : decide ((l.length : Int) < (l.length : Int)) = false := decide_eq_false (by omega)
      have hdl' : decide (l.length < l.length) = false := decide_eq_false (by omega)
      have hyes : sameT l m = true := (sameT_at HL.out).2 fun j h1 h2 => he.out j h1 h2 h1
      have HY := Lib.hid hyes
      clear hyes
      go_wp2_with fail
      go_ret
      exact ⟨ret_bool HY.out.symm, hf.out⟩
    case pos =>
    have hdl : decide ((i : Int) < (l.length : Int)) = true := decide_eq_true (by omega)
    have hdl' : decide (i < l.length) = true := decide_eq_true hlt
    have hlt' : i < m.length := by rw [← HL.out]; exact hlt
    have q1 : (0 : Int) ≤ (i : Int) := by omega
    have q2 : (i : Int) < (l.length : Int) := by omega
    have q3 : (i : Int) < (m.length : Int) := by omega
    obtain ⟨b, off, hA, hrg⟩ := (HP.out.far hf.out).at_ hlt
    subst hA
    obtain ⟨b', off', hA', hrg'⟩ := (HQ.out.far hf.out).at_ hlt'
    subst hA'
    obtain ⟨x, hx⟩ : ∃ x, l[i] = x := ⟨_, rfl⟩
    obtain ⟨y, hy⟩ : ∃ y, m[i] = y := ⟨_, rfl⟩
    rw [hx] at hrg
    rw [hy] at hrg'
    have HXY : Hid (eqT l[i] m[i] = eqT x y) := Lib.hid (by rw [hx, hy])
    obtain ⟨k, t, n, a⟩ := x
    obtain ⟨k', t', n', a'⟩ := y
    have x0 : wr.cell? ⟨b, off + i * 4, none⟩ = some (.int .i64 k) := hrg 0 (.int .i64 k) rfl
    have x1 : wr.cell? ⟨b, off + i * 4 + 1, none⟩ = some (.string (strOf t)) := hrg 1 (.string (strOf t)) rfl
    have x2 : wr.cell? ⟨b, off + i * 4 + 2, none⟩ = some (.int .i64 n) := hrg 2 (.int .i64 n) rfl
    have y0 : wr.cell? ⟨b', off' + i * 4, none⟩ = some (.int .i64 k') := hrg' 0 (.int .i64 k') rfl
    have y1 : wr.cell? ⟨b', off' + i * 4 + 1, none⟩ = some (.string (strOf t')) := hrg' 1 (.string (strOf t')) rfl
    have y2 : wr.cell? ⟨b', off' + i * 4 + 2, none⟩ = some (.int .i64 n') := hrg' 2 (.int .i64 n') rfl
    have hst : ((strOf t).toList == (strOf t').toList) = (t == t') := by rw [strOf_toList, strOf_toList]
    obtain ⟨b1, hb1⟩ : ∃ b, (k == k') = b := ⟨_, rfl⟩
    obtain ⟨b2, hb2⟩ : ∃ b, (t == t') = b := ⟨_, rfl⟩
    obtain ⟨b3, hb3⟩ : ∃ b, (n == n') = b := ⟨_, rfl⟩
    rw [hb2] at hst
    have HE : Hid (eqT l[i] m[i] = (b1 && b2 && b3)) := Lib.hid (by rw [HXY.out]; unfold eqT; dsimp only; rw [hb1, hb2, hb3])
    have hb1' : (k != k') = !b1 := by rw [bne, hb1]
    have hb3' : (n != n') = !b3 := by rw [bne, hb3]
    have hst' : ((strOf t).toList != (strOf t').toList) = !b2 := by rw [bne, hst]
    clear hrg hrg' hx hy HXY hb2
    have NOT : Hid ((b1 && b2 && b3) = false → sameT l m = false) := Lib.hid (fun hz => by
      rw [Bool.eq_false_iff]
      intro h
      have := (sameT_at HL.out).1 h i hlt hlt'
      rw [HE.out, hz] at this
      cases this)
    cases b1 with
    | false =>
      have HN : Hid (sameT l m = false) := Lib.hid (NOT.out rfl)
      go_upto_region 6 with fail
      go_quiet (fail)
      go_wp2_with fail
      go_ret
      exact ⟨ret_bool HN.out.symm, hf.out.drewN _⟩
    | true =>
    cases b2 with
    | false =>
      have HN : Hid (sameT l m = false) := Lib.hid (NOT.out rfl)
      go_upto_region 6 with fail
      go_quiet (fail)
      go_wp2_with fail
      go_ret
      exact ⟨ret_bool HN.out.symm, hf.out.drewN _⟩
    | true =>
    cases b3 with
    | false =>
      have HN : Hid (sameT l m = false) := Lib.hid (NOT.out rfl)
      go_upto_region 6 with fail
      go_quiet (fail)
      go_wp2_with fail
      go_ret
      exact ⟨ret_bool HN.out.symm, hf.out.drewN _⟩
    | true =>
      go_upto_region 6 with fail
      go_quiet (fail)
      go_wp2_with fail
      go_roundw
      case rel => exact ⟨i + 1, by omega, by go_num, fun j h1 h2 h => by
        rcases Nat.lt_or_ge j i with hj | hj
        · exact he.out j h1 h2 hj
        · obtain rfl : j = i := by omega
          exact HE.out, hf.out.drewN _⟩
      case measure => simp [intOf]; omega
end Go.Proofs.YtimopkmlcjdgfaaDoor
