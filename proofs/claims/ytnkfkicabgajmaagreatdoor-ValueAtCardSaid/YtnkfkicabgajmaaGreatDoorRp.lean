/-
  CONTRACTS of the reference's plain, Key, Texts.
-/
import Derived.Test.YtnkfkicabgajmaaGreatDoorGMay
import Derived.BigQuiet
namespace Go.Proofs.YtnkfkicabgajmaaGreatDoor
set_option linter.unusedSimpArgs false
set_option linter.unusedVariables false
open Go Go.RowKit

set_option maxHeartbeats 1000000 in
theorem rplain_c (w : World) (s : List UInt8) (hs : s.length ≤ 140737488355328) : Calls Tryz.prog 56 #[.string (strOf s)] w fun e w' => e = .returned (.bool (plainT s)) ∧ w = w' := by
  have hsz := strOf_size s
  go_enter Tryz.func56, Tryz.ntmps56
  go_wp2_with fail
  go_loop [3] (fun iv => ∃ i : Nat, i ≤ s.length ∧ iv = .int .i64 (i : Int) ∧ Hid (∀ j (h : j < s.length), j < i → plainB s[j] = true)) (fun iv => s.length - (intOf iv).toNat)
  case atStart => exact ⟨0, Nat.zero_le _, rfl, fun j h h' => by omega⟩
  case round =>
    obtain ⟨i, hi, rfl, hp⟩ := hrel
    by_cases hlt : i < s.length
    · have hdl : decide ((i : Int) < (s.length : Int)) = true := decide_eq_true (by omega)
      have hdl' : decide (i < s.length) = true := decide_eq_true hlt
      have hix := fun W => run_index_str W s i hlt
      obtain ⟨x, hx⟩ : ∃ x, (s[i]).toNat = x := ⟨_, rfl⟩
      have hpb : plainB s[i] = (decide (32 ≤ x) && decide (x ≤ 126)) := by unfold plainB; rw [hx]
      simp only [hx] at hix
      have HB := Lib.hid hpb
      clear hpb hx
      by_cases h1 : x < 32
      · have e1 : decide ((x : Int) < 32) = true := decide_eq_true (by omega)
        have e1' : decide (x < 32) = true := decide_eq_true h1
        have hno : plainT s = false := plainT_no hlt (by rw [HB.out, decide_eq_false (by omega)]; rfl)
        have HN := Lib.hid hno
        clear hno
        go_wp2_with fail
        go_ret
        exact ⟨ret_bool HN.out.symm, rfl⟩
      · have e1 : decide ((x : Int) < 32) = false := decide_eq_false (by omega)
        have e1' : decide (x < 32) = false := decide_eq_false h1
        by_cases h2 : 126 < x
        · have e2 : decide (126 < (x : Int)) = true := decide_eq_true (by omega)
          have e2' : decide (126 < x) = true := decide_eq_true h2
          have hno : plainT s = false := plainT_no hlt (by rw [HB.out, decide_eq_false (show ¬ x ≤ 126 by omega)]; simp)
          have HN := Lib.hid hno
          clear hno
          go_wp2_with fail
          go_ret
          exact ⟨ret_bool HN.out.symm, rfl⟩
        · have e2 : decide (126 < (x : Int)) = false := decide_eq_false (by omega)
          have e2' : decide (126 < x) = false := decide_eq_false h2
          go_wp2_with fail
          go_round
          case rel => exact ⟨i + 1, by omega, by go_num, fun j h h' => by
            rcases Nat.lt_or_ge j i with hj | hj
            · exact hp.out j h hj
            · obtain rfl : j = i := by omega
              rw [HB.out, decide_eq_true (show 32 ≤ x by omega), decide_eq_true (show x ≤ 126 by omega)]
              rfl⟩
          case measure => simp [intOf]; omega
    · obtain rfl : i = s.length := by omega
      have hdl : decide ((s.length : Int) < (s.length : Int)) = false := decide_eq_false (by omega)
      have hdl' : decide (s.length < s.length) = false := decide_eq_false (by omega)
      have hyes : plainT s = true := plainT_yes fun j h => hp.out j h h
      have HY := Lib.hid hyes
      clear hyes
      go_wp2_with fail
      go_ret
      exact ⟨ret_bool HY.out.symm, rfl⟩

theorem keyB_all {s : List UInt8} (h : ∀ j (h : j < s.length), keyB s[j] = true) : s.all keyB = true := by
  rw [List.all_eq_true]
  intro b hb
  obtain ⟨i, hi, rfl⟩ := List.mem_iff_getElem.1 hb
  exact h i hi
theorem keyB_no {s : List UInt8} {i : Nat} (h : i < s.length) (hn : keyB s[i] = false) : s.all keyB = false := by
  rw [Bool.eq_false_iff]
  intro e
  rw [List.all_eq_true] at e
  rw [e s[i] (List.getElem_mem h)] at hn
  cases hn
set_option maxHeartbeats 4000000 in
theorem rkey_c (w : World) (s : List UInt8) (hs : s.length ≤ 140737488355328) : Calls Tryz.prog 24 #[.string (strOf s)] w fun e w' => e = .returned (.bool (keyOk s)) ∧ w = w' := by
  have hsz := strOf_size s
  obtain ⟨z, hz⟩ : ∃ z, keyOk s = z := ⟨_, rfl⟩
  rw [hz]
  unfold keyOk at hz
  have HZ := Lib.hid hz
  clear hz
  by_cases h1 : s.length < 1
  case pos =>
    have d1 : decide ((s.length : Int) < 1) = true := decide_eq_true (by omega)
    have d1' : decide (s.length < 1) = true := decide_eq_true h1
    have HF : Hid (z = false) := Lib.hid (by rw [← HZ.out, decide_eq_false (show ¬ 0 < s.length by omega)]; rfl)
    have hl0 : s.length = 0 := by omega
    go_enter Tryz.func24, Tryz.ntmps24
    go_wp2_with fail
    go_ret
    exact ⟨ret_bool HF.out.symm, rfl⟩
  have d1 : decide ((s.length : Int) < 1) = false := decide_eq_false (by omega)
  have d1' : decide (s.length < 1) = false := decide_eq_false h1
  by_cases h2 : 24 < s.length
  case pos =>
    have d2 : decide (24 < (s.length : Int)) = true := decide_eq_true (by omega)
    have d2' : decide (24 < s.length) = true := decide_eq_true h2
    have HF : Hid (z = false) := Lib.hid (by rw [← HZ.out, decide_eq_false (show ¬ s.length ≤ 24 by omega)]; simp)
    go_enter Tryz.func24, Tryz.ntmps24
    go_wp2_with fail
    go_ret
    exact ⟨ret_bool HF.out.symm, rfl⟩
  have d2 : decide (24 < (s.length : Int)) = false := decide_eq_false (by omega)
  have d2' : decide (24 < s.length) = false := decide_eq_false h2
  have HA : Hid (z = s.all keyB) := Lib.hid (by rw [← HZ.out, decide_eq_true (show 0 < s.length by omega), decide_eq_true (show s.length ≤ 24 by omega)]; simp)
  clear HZ
  go_enter Tryz.func24, Tryz.ntmps24
  go_wp2_with fail
  go_loop [3] (fun iv => ∃ i : Nat, i ≤ s.length ∧ iv = .int .i64 (i : Int) ∧ Hid (∀ j (h : j < s.length), j < i → keyB s[j] = true)) (fun iv => s.length - (intOf iv).toNat)
  case atStart => exact ⟨0, Nat.zero_le _, rfl, fun j h h' => by omega⟩
  case round =>
    obtain ⟨i, hi, rfl, hp⟩ := hrel
    clear d1 d1' d2 d2'
    by_cases hlt : i < s.length
    · have hdl : decide ((i : Int) < (s.length : Int)) = true := decide_eq_true (by omega)
      have hdl' : decide (i < s.length) = true := decide_eq_true hlt
      have hix := fun W => run_index_str W s i hlt
      obtain ⟨x, hx⟩ : ∃ x, (s[i]).toNat = x := ⟨_, rfl⟩
      have hpb : keyB s[i] = (decide (33 ≤ x) && decide (x ≤ 126) && !decide (x = 46) && !decide (x = 34)) := by
        have e46 : (s[i] == 46) = decide (x = 46) := by
          rw [Bool.eq_iff_iff, beq_iff_eq, decide_eq_true_eq, ← hx]
          exact ⟨fun h => by rw [h]; rfl, fun h => UInt8.toNat_inj.1 h⟩
        have e34 : (s[i] == 34) = decide (x = 34) := by
          rw [Bool.eq_iff_iff, beq_iff_eq, decide_eq_true_eq, ← hx]
          exact ⟨fun h => by rw [h]; rfl, fun h => UInt8.toNat_inj.1 h⟩
        unfold keyB
        rw [e46, e34, hx]
      simp only [hx] at hix
      have HB := Lib.hid hpb
      clear hpb hx
      by_cases hbad : x < 33 ∨ 126 < x ∨ x = 46 ∨ x = 34
      · have hno : s.all keyB = false := keyB_no hlt (by
          rw [HB.out]
          rcases hbad with h | h | h | h
          · rw [decide_eq_false (show ¬ 33 ≤ x by omega)]; rfl
          · rw [decide_eq_false (show ¬ x ≤ 126 by omega)]; simp
          · subst h; rfl
          · subst h; rfl)
        have HN : Hid (z = false) := Lib.hid (HA.out.trans hno)
        clear hno
        by_cases h3 : x < 33
        · have e1 : decide ((x : Int) < 33) = true := decide_eq_true (by omega)
          have e1' : decide (x < 33) = true := decide_eq_true h3
          go_wp2_with fail
          go_ret
          exact ⟨ret_bool HN.out.symm, rfl⟩
        have e1 : decide ((x : Int) < 33) = false := decide_eq_false (by omega)
        have e1' : decide (x < 33) = false := decide_eq_false h3
        by_cases h4 : 126 < x
        · have e2 : decide (126 < (x : Int)) = true := decide_eq_true (by omega)
          have e2' : decide (126 < x) = true := decide_eq_true h4
          go_wp2_with fail
          go_ret
          exact ⟨ret_bool HN.out.symm, rfl⟩
        have e2 : decide (126 < (x : Int)) = false := decide_eq_false (by omega)
        have e2' : decide (126 < x) = false := decide_eq_false h4
        by_cases h5 : x = 46
        · subst h5
          go_wp2_with fail
          go_ret
          exact ⟨ret_bool HN.out.symm, rfl⟩
        have h6 : x = 34 := by omega
        subst h6
        go_wp2_with fail
        go_ret
        exact ⟨ret_bool HN.out.symm, rfl⟩
      · have e1 : decide ((x : Int) < 33) = false := decide_eq_false (by omega)
        have e1' : decide (x < 33) = false := decide_eq_false (by omega)
        have e2 : decide (126 < (x : Int)) = false := decide_eq_false (by omega)
        have e2' : decide (126 < x) = false := decide_eq_false (by omega)
        have e3 : ((x : Int) == 46) = false := by simp; omega
        have e3' : (x == 46) = false := by simp; omega
        have e4 : ((x : Int) == 34) = false := by simp; omega
        have e4' : (x == 34) = false := by simp; omega
        have HG : Hid (keyB s[i] = true) := Lib.hid (by
          rw [HB.out, decide_eq_true (show 33 ≤ x by omega), decide_eq_true (show x ≤ 126 by omega), decide_eq_false (show ¬ x = 46 by omega), decide_eq_false (show ¬ x = 34 by omega)]
          rfl)
        have n1 : ¬ ((x : Int) = 46) := by omega
        have n2 : ¬ ((x : Int) = 34) := by omega
        clear hbad
        go_wp2_with fail
        go_round
        case rel => exact ⟨i + 1, by omega, by go_num, fun j h h' => by
          rcases Nat.lt_or_ge j i with hj | hj
          · exact hp.out j h hj
          · obtain rfl : j = i := by omega
            exact HG.out⟩
        case measure => simp [intOf]; omega
    · obtain rfl : i = s.length := by omega
      have hdl : decide ((s.length : Int) < (s.length : Int)) = false := decide_eq_false (by omega)
      have hdl' : decide (s.length < s.length) = false := decide_eq_false (by omega)
      have HY : Hid (z = true) := Lib.hid (HA.out.trans (keyB_all fun j h => hp.out j h h))
      go_wp2_with fail
      go_ret
      exact ⟨ret_bool HY.out.symm, rfl⟩
/-! Texts. -/
theorem cmpT_step {a b : List UInt8} {i : Nat} (h1 : i < a.length) (h2 : i < b.length) (he : a[i] = b[i]) : cmpT (a.drop i) (b.drop i) = cmpT (a.drop (i + 1)) (b.drop (i + 1)) := by
  rw [List.drop_eq_getElem_cons h1, List.drop_eq_getElem_cons h2, he, cmpT, if_neg (by simp), if_neg (by simp)]
theorem cmpT_lt {a b : List UInt8} {i : Nat} (h1 : i < a.length) (h2 : i < b.length) (he : a[i].toNat < b[i].toNat) : cmpT (a.drop i) (b.drop i) = -1 := by
  rw [List.drop_eq_getElem_cons h1, List.drop_eq_getElem_cons h2, cmpT, if_pos (by rw [UInt8.lt_iff_toNat_lt]; exact he)]
theorem cmpT_gt {a b : List UInt8} {i : Nat} (h1 : i < a.length) (h2 : i < b.length) (he : b[i].toNat < a[i].toNat) : cmpT (a.drop i) (b.drop i) = 1 := by
  rw [List.drop_eq_getElem_cons h1, List.drop_eq_getElem_cons h2, cmpT, if_neg (by rw [UInt8.lt_iff_toNat_lt]; omega), if_pos (by rw [UInt8.lt_iff_toNat_lt]; exact he)]
theorem cmpT_end : ∀ (a b : List UInt8), a.length = 0 ∨ b.length = 0 → cmpT a b = if a.length = b.length then 0 else if a.length < b.length then -1 else 1
  | [], [], _ => rfl
  | [], _ :: _, _ => rfl
  | _ :: _, [], _ => rfl
  | _ :: _, _ :: _, h => by simp at h
set_option maxHeartbeats 4000000 in
theorem rtexts_c (w : World) (a b : List UInt8) (ha : a.length ≤ 140737488355328) (hb : b.length ≤ 140737488355328) : Calls Tryz.prog 37 #[.string (strOf a), .string (strOf b)] w fun e w' => e = .returned (.int .i64 (cmpT a b)) ∧ Fr (fun _ => False) w w' := by
  have hsa := strOf_size a
  have hsb := strOf_size b
  obtain ⟨z, hz⟩ : ∃ z, cmpT a b = z := ⟨_, rfl⟩
  rw [hz]
  have HZ := Lib.hid hz
  clear hz
  go_enter Tryz.func37, Tryz.ntmps37
  go_wp2_with fail
  go_loopw [5] (fun iv wr => ∃ i : Nat, i ≤ a.length ∧ i ≤ b.length ∧ iv = .int .i64 (i : Int) ∧ Hid (cmpT (a.drop i) (b.drop i) = z) ∧ Hid (Fr (fun _ => False) w wr)) (fun iv _ => a.length - (intOf iv).toNat)
  case atStart => exact ⟨0, Nat.zero_le _, Nat.zero_le _, rfl, HZ.out, Fr.refl _ _⟩
  case round =>
    obtain ⟨i, hia, hib, rfl, hc, hf⟩ := hrel
    by_cases hin : i < a.length ∧ i < b.length
    case neg =>
      have HE : Hid (z = if a.length = b.length then 0 else if a.length < b.length then -1 else 1) := Lib.hid (by
        have := cmpT_end (a.drop i) (b.drop i) (by simp only [List.length_drop]; omega)
        rw [← hc.out, this]
        simp only [List.length_drop]
        by_cases h1 : a.length = b.length
        · rw [if_pos (by omega), if_pos h1]
        · rw [if_neg (by omega), if_neg h1]
          by_cases h2 : a.length < b.length
          · rw [if_pos (by omega), if_pos h2]
          · rw [if_neg (by omega), if_neg h2])
      by_cases h1 : a.length = b.length
      case pos =>
        have HE : Hid (z = 0) := Lib.hid (by rw [HE.out, if_pos h1])
        have d1 : decide ((i : Int) < (b.length : Int)) = false := decide_eq_false (by omega)
        have d1' : decide (i < b.length) = false := decide_eq_false (by omega)
        rw [h1] at hsa
        clear hin h1
        go_wp2_with fail
        go_ret
        exact ⟨ret_int HE.out.symm, hf.out⟩
      have n1 : ¬ ((a.length : Int) = (b.length : Int)) := by omega
      have e1 : ((a.length : Int) == (b.length : Int)) = false := by simpa using n1
      have e1' : (a.length == b.length) = false := by simpa using h1
      by_cases h2 : a.length < b.length
      case pos =>
        have HE : Hid (z = -1) := Lib.hid (by rw [HE.out, if_neg h1, if_pos h2])
        have d1 : decide ((i : Int) < (a.length : Int)) = false := decide_eq_false (by omega)
        have d1' : decide (i < a.length) = false := decide_eq_false (by omega)
        have d2 : decide ((a.length : Int) < (b.length : Int)) = true := decide_eq_true (by omega)
        have d2' : decide (a.length < b.length) = true := decide_eq_true h2
        clear hin
        go_wp2_with fail
        go_ret
        exact ⟨ret_int HE.out.symm, hf.out⟩
      have HE : Hid (z = 1) := Lib.hid (by rw [HE.out, if_neg h1, if_neg h2])
      have d1 : decide ((i : Int) < (a.length : Int)) = true := decide_eq_true (by omega)
      have d1' : decide (i < a.length) = true := decide_eq_true (by omega)
      have d3 : decide ((i : Int) < (b.length : Int)) = false := decide_eq_false (by omega)
      have d3' : decide (i < b.length) = false := decide_eq_false (by omega)
      have d2 : decide ((a.length : Int) < (b.length : Int)) = false := decide_eq_false (by omega)
      have d2' : decide (a.length < b.length) = false := decide_eq_false h2
      clear hin
      go_wp2_with fail
      go_ret
      exact ⟨ret_int HE.out.symm, hf.out⟩
    obtain ⟨hna, hnb⟩ := hin
    have d1 : decide ((i : Int) < (a.length : Int)) = true := decide_eq_true (by omega)
    have d1' : decide (i < a.length) = true := decide_eq_true hna
    have d2 : decide ((i : Int) < (b.length : Int)) = true := decide_eq_true (by omega)
    have d2' : decide (i < b.length) = true := decide_eq_true hnb
    have hxa := fun W => run_index_str W a i hna
    have hxb := fun W => run_index_str W b i hnb
    obtain ⟨x, hx⟩ : ∃ x, (a[i]).toNat = x := ⟨_, rfl⟩
    obtain ⟨y, hy⟩ : ∃ y, (b[i]).toNat = y := ⟨_, rfl⟩
    simp only [hx] at hxa
    simp only [hy] at hxb
    rcases Nat.lt_trichotomy x y with h | h | h
    · have HE : Hid (z = -1) := Lib.hid (by rw [← hc.out]; exact cmpT_lt hna hnb (by rw [hx, hy]; exact h))
      have e1 : ((x : Int) == (y : Int)) = false := by simp; omega
      have e1' : (x == y) = false := by simp; omega
      have n1 : ¬ x = y := by omega
      have e2 : decide ((x : Int) < (y : Int)) = true := decide_eq_true (by omega)
      have e2' : decide (x < y) = true := decide_eq_true h
      clear hx hy
      go_upto_region 4 with fail
      go_quiet (fail)
      go_upto_region 5 with fail
      go_quiet (fail)
      go_wp2_with fail
      go_ret
      exact ⟨ret_int HE.out.symm, ((hf.out.drewN _).drewN _)⟩
    · subst h
      have HE : Hid (cmpT (a.drop (i + 1)) (b.drop (i + 1)) = z) := Lib.hid (by
        rw [← hc.out]
        exact (cmpT_step hna hnb (UInt8.toNat_inj.1 (by rw [hx, hy]))).symm)
      have e1 : ((x : Int) == (x : Int)) = true := by simp
      clear hx hy
      go_upto_region 4 with fail
      go_quiet (fail)
      go_wp2_with fail
      go_roundw
      case rel => exact ⟨i + 1, by omega, by omega, by go_num, HE.out, hf.out.drewN _⟩
      case measure => simp [intOf]; omega
    · have HE : Hid (z = 1) := Lib.hid (by rw [← hc.out]; exact cmpT_gt hna hnb (by rw [hx, hy]; exact h))
      have e1 : ((x : Int) == (y : Int)) = false := by simp; omega
      have e1' : (x == y) = false := by simp; omega
      have n1 : ¬ x = y := by omega
      have e2 : decide ((x : Int) < (y : Int)) = false := decide_eq_false (by omega)
      have e2' : decide (x < y) = false := decide_eq_false (by omega)
      clear hx hy
      go_upto_region 4 with fail
      go_quiet (fail)
      go_upto_region 5 with fail
      go_quiet (fail)
      go_wp2_with fail
      go_ret
      exact ⟨ret_int HE.out.symm, ((hf.out.drewN _).drewN _)⟩
end Go.Proofs.YtnkfkicabgajmaaGreatDoor
