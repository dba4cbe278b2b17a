/-
  CONTRACTS of what value.May asks: escapes, plain, mayKey, rising.
-/
import Derived.Test.YtnkfkicabgajmaaDoorSame
namespace Go.Proofs.YtnkfkicabgajmaaDoor
set_option linter.unusedSimpArgs false
set_option linter.unusedVariables false
open Go Go.RowKit

theorem run_index_str (W : World) (s : List UInt8) (i : Nat) (h : i < s.length) : (Instr.index 9 (.string (strOf s)) (.int .i64 (i : Nat))).run Tryd.prog W = .ok (.int .u8 ((s[i]).toNat : Nat)) W := by
  rw [run_index_string W _ _ _ _ Tryd.underlying9]
  rw [dif_pos ⟨by omega, by rw [strOf_size]; omega⟩]
  rfl
theorem nesc_le (s : List UInt8) : nesc s ≤ 2 * s.length := by
  unfold nesc
  have h1 := List.count_le_length (a := (34 : UInt8)) (l := s)
  have h2 := List.count_le_length (a := (92 : UInt8)) (l := s)
  omega
theorem escapes_c (w : World) (s : List UInt8) (hs : s.length ≤ 140737488355328) : Calls Tryd.prog 32 #[.string (strOf s)] w fun e w' => e = .returned (.int .i64 (nesc s : Nat)) ∧ w = w' := by
  have h1 := List.count_le_length (a := (34 : UInt8)) (l := s)
  have h2 := List.count_le_length (a := (92 : UInt8)) (l := s)
  go_enter Tryd.func32, Tryd.ntmps32
  go_wp2_with fail
  refine (count_c _ s 34).mono ?_
  rintro e w' ⟨rfl, rfl⟩
  go_wp2_with fail
  refine (count_c _ s 92).mono ?_
  rintro e w' ⟨rfl, rfl⟩
  go_wp2_with fail
  go_ret
  exact ⟨ret_int (by unfold nesc; omega), rfl⟩
theorem plainT_no {s : List UInt8} {i : Nat} (h : i < s.length) (hb : plainB s[i] = false) : plainT s = false := by
  rw [Bool.eq_false_iff]
  intro hp
  have := List.all_eq_true.1 hp s[i] (List.getElem_mem h)
  rw [hb] at this
  cases this
theorem plainT_yes {s : List UInt8} (h : ∀ i (hi : i < s.length), plainB s[i] = true) : plainT s = true := by
  unfold plainT
  rw [List.all_eq_true]
  intro b hb
  obtain ⟨i, hi, rfl⟩ := List.mem_iff_getElem.1 hb
  exact h i hi
set_option maxHeartbeats 1000000 in
theorem plain_c (w : World) (s : List UInt8) (hs : s.length ≤ 140737488355328) : Calls Tryd.prog 17 #[.string (strOf s)] w fun e w' => e = .returned (.bool (plainT s)) ∧ w = w' := by
  have hsz := strOf_size s
  go_enter Tryd.func17, Tryd.ntmps17
  go_wp2_with fail
  go_loop [6] (fun iv => ∃ i : Nat, i ≤ s.length ∧ iv = .int .i64 (i : Int) ∧ Hid (∀ j (h : j < s.length), j < i → plainB s[j] = true)) (fun iv => s.length - (intOf iv).toNat)
  case atStart => exact ⟨0, Nat.zero_le _, rfl, fun j h h' => by omega⟩
  case round =>
    obtain ⟨i, hi, rfl, hp⟩ := hrel
    by_cases hlt : i < s.length
    · have hdl : decide ((i : Int) < (s.length : Int)) = true := decide_eq_true (by omega)
      have hdl' : decide (i < s.length) = true := decide_eq_true hlt
      have hix := fun W => run_index_str W s i hlt
      obtain ⟨x, hx⟩ : ∃ x, (s[i]).toNat = x := ⟨_, rfl⟩
      have hpb : plainB s[i] = (decide (32 ≤ x) && decide (x ≤ 126)) := by unfold plainB; rw [hx]
      simp only [hx] at hix
      have HB := Lib.hid hpb
      clear hpb hx
      by_cases h1 : x < 32
      · have e1 : decide ((x : Int) < 32) = true := decide_eq_true (by omega)
        have e1' : decide (x < 32) = true := decide_eq_true h1
        have hno : plainT s = false := plainT_no hlt (by rw [HB.out, decide_eq_false (by omega)]; rfl)
        have HN := Lib.hid hno
        clear hno
        go_wp2_with fail
        go_ret
        exact ⟨ret_bool HN.out.symm, rfl⟩
      · have e1 : decide ((x : Int) < 32) = false := decide_eq_false (by omega)
        have e1' : decide (x < 32) = false := decide_eq_false h1
        by_cases h2 : 126 < x
        · have e2 : decide (126 < (x : Int)) = true := decide_eq_true (by omega)
          have e2' : decide (126 < x) = true := decide_eq_true h2
          have hno : plainT s = false := plainT_no hlt (by rw [HB.out, decide_eq_false (show ¬ x ≤ 126 by omega)]; simp)
          have HN := Lib.hid hno
          clear hno
          go_wp2_with fail
          go_ret
          exact ⟨ret_bool HN.out.symm, rfl⟩
        · have e2 : decide (126 < (x : Int)) = false := decide_eq_false (by omega)
          have e2' : decide (126 < x) = false := decide_eq_false h2
          go_wp2_with fail
          go_round
          case rel => exact ⟨i + 1, by omega, by go_num, fun j h h' => by
            rcases Nat.lt_or_ge j i with hj | hj
            · exact hp.out j h hj
            · obtain rfl : j = i := by omega
              rw [HB.out, decide_eq_true (show 32 ≤ x by omega), decide_eq_true (show x ≤ 126 by omega)]
              rfl⟩
          case measure => simp [intOf]; omega
    · obtain rfl : i = s.length := by omega
      have hdl : decide ((s.length : Int) < (s.length : Int)) = false := decide_eq_false (by omega)
      have hdl' : decide (s.length < s.length) = false := decide_eq_false (by omega)
      have hyes : plainT s = true := plainT_yes fun j h => hp.out j h h
      have HY := Lib.hid hyes
      clear hyes
      go_wp2_with fail
      go_ret
      exact ⟨ret_bool HY.out.symm, rfl⟩
theorem keyOk_iff (s : List UInt8) : keyOk s = (decide (0 < s.length) && decide (s.length ≤ 24) && plainT s && !(s.any fun b => b == 32 || b == 46 || b == 34)) := by
  unfold keyOk
  have : s.all keyB = (plainT s && !(s.any fun b => b == 32 || b == 46 || b == 34)) := by
    unfold plainT
    rw [List.not_any_eq_all_not]
    induction s with
    | nil => rfl
    | cons c s ih =>
      simp only [List.all_cons, ih]
      have hc : keyB c = (plainB c && !(c == 32 || c == 46 || c == 34)) := by
        unfold keyB plainB
        have e1 : (c == 32) = decide (c.toNat = 32) := by
          rw [Bool.eq_iff_iff, beq_iff_eq, decide_eq_true_eq, ← UInt8.toNat_inj]; rfl
        rw [e1, Bool.eq_iff_iff]
        simp only [Bool.and_eq_true, Bool.not_eq_true', Bool.or_eq_false_iff, decide_eq_true_eq, decide_eq_false_iff_not]
        constructor
        · rintro ⟨⟨⟨a, b⟩, c⟩, d⟩; exact ⟨⟨by omega, b⟩, ⟨by omega, c⟩, d⟩
        · rintro ⟨⟨a, b⟩, ⟨c, d⟩, e⟩; exact ⟨⟨⟨by omega, b⟩, d⟩, e⟩
      rw [hc]
      cases plainB c <;> cases (c == 32 || c == 46 || c == 34) <;> simp
  rw [this]
  simp only [Bool.and_assoc]
set_option maxHeartbeats 1000000 in
theorem mayKey_c (w : World) (s : List UInt8) (hs : s.length ≤ 140737488355328) : Calls Tryd.prog 33 #[.string (strOf s)] w fun e w' => e = .returned (.bool (keyOk s)) ∧ Fr (fun _ => False) w w' := by
  have hsz := strOf_size s
  rw [keyOk_iff]
  by_cases h1 : 0 < s.length
  case neg =>
    have d1 : decide (0 < (s.length : Int)) = false := decide_eq_false (by omega)
    have d1' : decide (0 < s.length) = false := decide_eq_false h1
    rw [d1']
    go_enter Tryd.func33, Tryd.ntmps33
    go_wp2_with fail
    go_ret
    exact ⟨ret_bool (by simp), Fr.refl _ _⟩
  have d1 : decide (0 < (s.length : Int)) = true := decide_eq_true (by omega)
  have d1' : decide (0 < s.length) = true := decide_eq_true h1
  by_cases h2 : s.length ≤ 24
  case neg =>
    have d2 : decide ((s.length : Int) ≤ 24) = false := decide_eq_false (by omega)
    have d2' : decide (s.length ≤ 24) = false := decide_eq_false h2
    rw [d2']
    go_enter Tryd.func33, Tryd.ntmps33
    go_wp2_with fail
    go_ret
    exact ⟨ret_bool (by simp), Fr.refl _ _⟩
  have d2 : decide ((s.length : Int) ≤ 24) = true := decide_eq_true (by omega)
  have d2' : decide (s.length ≤ 24) = true := decide_eq_true h2
  rw [d1', d2']
  obtain ⟨z, hz⟩ : ∃ z, plainT s = z := ⟨_, rfl⟩
  rw [hz]
  have HZ := Lib.hid hz
  clear hz
  have PL := Lib.hid (fun W => (plain_c W s hs).mono (fun e w' h => h))
  cases z with
  | false =>
    go_enter Tryd.func33, Tryd.ntmps33
    go_wp2_with fail
    refine (PL.out _).mono ?_
    rintro e w' ⟨rfl, rfl⟩
    rw [HZ.out]
    go_wp2_with fail
    go_ret
    exact ⟨ret_bool (by simp), Fr.refl _ _⟩
  | true =>
    have CT := Lib.hid (fun W => contains_c W s (by omega) HZ.out)
    obtain ⟨y, hy⟩ : ∃ y, (s.any fun b => b == 32 || b == 46 || b == 34) = y := ⟨_, rfl⟩
    rw [hy] at CT ⊢
    clear hy
    cases y <;>
    · go_enter Tryd.func33, Tryd.ntmps33
      go_wp2_with fail
      refine (PL.out _).mono ?_
      rintro e w' ⟨rfl, rfl⟩
      rw [HZ.out]
      go_wp2_with fail
      refine (CT.out _).mono ?_
      rintro e w' ⟨rfl, f2⟩
      have F2 := Lib.hid f2
      clear f2
      go_wp2_with fail
      go_ret
      exact ⟨ret_bool (by simp), F2.out⟩
end Go.Proofs.YtnkfkicabgajmaaDoor
