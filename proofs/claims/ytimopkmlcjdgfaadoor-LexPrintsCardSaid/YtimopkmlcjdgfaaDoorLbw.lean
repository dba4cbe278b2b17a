/-
  CONTRACT of weigh: how much tokens are.
-/
import Derived.Test.YtimopkmlcjdgfaaDoorLbk
import Derived.Test.YtimopkmlcjdgfaaDoorLaw
namespace Go.Proofs.YtimopkmlcjdgfaaDoor
set_option linter.unusedSimpArgs false
set_option linter.unusedVariables false
open Go Go.RowKit Go.Shelf

def wgh : Nat → List Tk → Nat
  | n, [] => n
  | n, x :: l => if n ≤ 20000 then wgh (n + x.t.length) l else n
theorem wgh_stop {n : Nat} {l : List Tk} (h : ¬ n ≤ 20000) : wgh n l = n := by
  cases l with
  | nil => rfl
  | cons x l =>
    show (if n ≤ 20000 then _ else n) = n
    rw [if_neg h]
theorem wgh_step {n i : Nat} {l : List Tk} (hi : i < l.length) (h : n ≤ 20000) : wgh n (l.drop i) = wgh (n + (l[i]).t.length) (l.drop (i + 1)) := by
  rw [List.drop_eq_getElem_cons hi]
  show (if n ≤ 20000 then _ else n) = _
  rw [if_pos h]
theorem wgh_ge : ∀ (l : List Tk) (n : Nat), n ≤ wgh n l
  | [], n => Nat.le_refl _
  | x :: l, n => by
    show n ≤ if n ≤ 20000 then wgh (n + x.t.length) l else n
    split
    · have := wgh_ge l (n + x.t.length); omega
    · exact Nat.le_refl _
theorem wgh_small : ∀ (l : List Tk) (n : Nat), wgh n l ≤ 20000 → ∀ x ∈ l, x.t.length ≤ 20000
  | [], _, _, x, hx => by cases hx
  | y :: l, n, h, x, hx => by
    have h' : (if n ≤ 20000 then wgh (n + y.t.length) l else n) ≤ 20000 := h
    split at h'
    · have := wgh_ge l (n + y.t.length)
      rcases List.mem_cons.1 hx with rfl | hx
      · omega
      · exact wgh_small l _ h' x hx
    · omega
set_option maxRecDepth 100000 in
set_option maxHeartbeats 4000000 in
theorem weigh_c (w : World) {A : Option Addr} {c : Nat} {l : List Tk} (hp : RdT w A l) (hl : l.length ≤ 140737488355328) (hin : ∀ x ∈ l, x.t.length ≤ 140737488355328) :
    Calls Tryd.prog 12 #[.slice A l.length c] w fun e w' => e = .returned (.int .i64 (wgh l.length l : Nat)) ∧ w = w' := by
  have HP := Lib.hid hp
  have HIN := Lib.hid hin
  clear hp hin
  go_enter Tryd.func12, Tryd.ntmps12
  go_wp2_with fail
  go_loopw [3, 4] (fun nv iv W => ∃ n i : Nat, i ≤ l.length ∧ n ≤ 140737488375328 ∧ nv = .int .i64 (n : Int) ∧ iv = .int .i64 (i : Int) ∧ Hid (wgh l.length l = wgh n (l.drop i)) ∧ w = W) (fun _ iv _ => l.length - (intOf iv).toNat)
  case atStart => exact ⟨l.length, 0, Nat.zero_le _, by omega, rfl, rfl, Lib.hid (by rw [List.drop_zero]), rfl⟩
  case round =>
    obtain ⟨n, i, hi, hn, rfl, rfl, HW, rfl⟩ := hrel
    by_cases hlt : i < l.length
    case neg =>
      obtain rfl : i = l.length := by omega
      have hdl : decide ((l.length : Int) < (l.length : Int)) = false := decide_eq_false (by omega)
      have hdl' : decide (l.length < l.length) = false := decide_eq_false (by omega)
      go_wp2_with fail
      go_ret
      refine ⟨?_, rfl⟩
      have h := HW.out
      rw [List.drop_length] at h
      have h2 : wgh l.length l = n := h
      exact ret_int (by omega)
    case pos =>
    have hdl : decide ((i : Int) < (l.length : Int)) = true := decide_eq_true (by omega)
    have hdl' : decide (i < l.length) = true := decide_eq_true hlt
    by_cases hsm : n ≤ 20000
    case neg =>
      have d1 : decide ((n : Int) ≤ 20000) = false := decide_eq_false (by omega)
      have d1' : decide (n ≤ 20000) = false := decide_eq_false hsm
      go_wp2_with fail
      go_ret
      refine ⟨?_, rfl⟩
      have h := HW.out
      rw [wgh_stop hsm] at h
      exact ret_int (by omega)
    case pos =>
      have d1 : decide ((n : Int) ≤ 20000) = true := decide_eq_true (by omega)
      have d1' : decide (n ≤ 20000) = true := decide_eq_true hsm
      have q1 : (0 : Int) ≤ (i : Int) := by omega
      have q2 : (i : Int) < (l.length : Int) := by omega
      obtain ⟨b, off, hA, hrg⟩ := HP.out.at_ hlt
      subst hA
      have htl := HIN.out _ (List.getElem_mem hlt)
      have HST := Lib.hid (wgh_step hlt hsm)
      obtain ⟨x, hx⟩ : ∃ x, l[i] = x := ⟨_, rfl⟩
      rw [hx] at hrg HST htl
      have hc : w.cell? ⟨b, off + i * 4 + 1, none⟩ = some (.string (strOf x.t)) := hrg 1 (.string (strOf x.t)) rfl
      have hsz := strOf_size x.t
      have hwr : IntKind.i64.wrap ((n : Int) + (x.t.length : Int)) = (n : Int) + (x.t.length : Int) := IntWalk.i64_in _ (by omega)
      clear hrg hx
      go_wp2_with fail
      go_roundw
      case rel => exact ⟨n + x.t.length, i + 1, by omega, by omega, by go_num, by go_num, Lib.hid (by rw [HW.out, HST.out]), trivial⟩
      case measure => simp [intOf]; omega
end Go.Proofs.YtimopkmlcjdgfaaDoor
