/-
  May, May2, May3, May4, Inv, MayC, in one text (merge.py).
-/
import Derived.Test.YtnkfkicabgajmaaGreatDoorGCmp
import Derived.Laws.EntriesVeiled

/-
  CONTRACTS of what value.May asks: escapes, plain, mayKey, rising.
-/
namespace Go.Proofs.YtnkfkicabgajmaaGreatDoor
set_option linter.unusedSimpArgs false
set_option linter.unusedVariables false
open Go Go.RowKit

theorem run_index_str (W : World) (s : List UInt8) (i : Nat) (h : i < s.length) : (Instr.index 9 (.string (strOf s)) (.int .i64 (i : Nat))).run Tryz.prog W = .ok (.int .u8 ((s[i]).toNat : Nat)) W := by
  rw [run_index_string W _ _ _ _ Tryz.underlying9]
  rw [dif_pos ⟨by omega, by rw [strOf_size]; omega⟩]
  rfl
theorem nesc_le (s : List UInt8) : nesc s ≤ 2 * s.length := by
  unfold nesc
  have h1 := List.count_le_length (a := (34 : UInt8)) (l := s)
  have h2 := List.count_le_length (a := (92 : UInt8)) (l := s)
  omega
theorem escapes_c (w : World) (s : List UInt8) (hs : s.length ≤ 140737488355328) : Calls Tryz.prog 66 #[.string (strOf s)] w fun e w' => e = .returned (.int .i64 (nesc s : Nat)) ∧ w = w' := by
  have h1 := List.count_le_length (a := (34 : UInt8)) (l := s)
  have h2 := List.count_le_length (a := (92 : UInt8)) (l := s)
  go_enter Tryz.func66, Tryz.ntmps66
  go_wp2_with fail
  refine (count_c _ s 34).mono ?_
  rintro e w' ⟨rfl, rfl⟩
  go_wp2_with fail
  refine (count_c _ s 92).mono ?_
  rintro e w' ⟨rfl, rfl⟩
  go_wp2_with fail
  go_ret
  exact ⟨ret_int (by unfold nesc; omega), rfl⟩
theorem plainT_no {s : List UInt8} {i : Nat} (h : i < s.length) (hb : plainB s[i] = false) : plainT s = false := by
  rw [Bool.eq_false_iff]
  intro hp
  have := List.all_eq_true.1 hp s[i] (List.getElem_mem h)
  rw [hb] at this
  cases this
theorem plainT_yes {s : List UInt8} (h : ∀ i (hi : i < s.length), plainB s[i] = true) : plainT s = true := by
  unfold plainT
  rw [List.all_eq_true]
  intro b hb
  obtain ⟨i, hi, rfl⟩ := List.mem_iff_getElem.1 hb
  exact h i hi
set_option maxHeartbeats 1000000 in
theorem plain_c (w : World) (s : List UInt8) (hs : s.length ≤ 140737488355328) : Calls Tryz.prog 45 #[.string (strOf s)] w fun e w' => e = .returned (.bool (plainT s)) ∧ w = w' := by
  have hsz := strOf_size s
  go_enter Tryz.func45, Tryz.ntmps45
  go_wp2_with fail
  go_loop [6] (fun iv => ∃ i : Nat, i ≤ s.length ∧ iv = .int .i64 (i : Int) ∧ Hid (∀ j (h : j < s.length), j < i → plainB s[j] = true)) (fun iv => s.length - (intOf iv).toNat)
  case atStart => exact ⟨0, Nat.zero_le _, rfl, fun j h h' => by omega⟩
  case round =>
    obtain ⟨i, hi, rfl, hp⟩ := hrel
    by_cases hlt : i < s.length
    · have hdl : decide ((i : Int) < (s.length : Int)) = true := decide_eq_true (by omega)
      have hdl' : decide (i < s.length) = true := decide_eq_true hlt
      have hix := fun W => run_index_str W s i hlt
      obtain ⟨x, hx⟩ : ∃ x, (s[i]).toNat = x := ⟨_, rfl⟩
      have hpb : plainB s[i] = (decide (32 ≤ x) && decide (x ≤ 126)) := by unfold plainB; rw [hx]
      simp only [hx] at hix
      have HB := Lib.hid hpb
      clear hpb hx
      by_cases h1 : x < 32
      · have e1 : decide ((x : Int) < 32) = true := decide_eq_true (by omega)
        have e1' : decide (x < 32) = true := decide_eq_true h1
        have hno : plainT s = false := plainT_no hlt (by rw [HB.out, decide_eq_false (by omega)]; rfl)
        have HN := Lib.hid hno
        clear hno
        go_wp2_with fail
        go_ret
        exact ⟨ret_bool HN.out.symm, rfl⟩
      · have e1 : decide ((x : Int) < 32) = false := decide_eq_false (by omega)
        have e1' : decide (x < 32) = false := decide_eq_false h1
        by_cases h2 : 126 < x
        · have e2 : decide (126 < (x : Int)) = true := decide_eq_true (by omega)
          have e2' : decide (126 < x) = true := decide_eq_true h2
          have hno : plainT s = false := plainT_no hlt (by rw [HB.out, decide_eq_false (show ¬ x ≤ 126 by omega)]; simp)
          have HN := Lib.hid hno
          clear hno
          go_wp2_with fail
          go_ret
          exact ⟨ret_bool HN.out.symm, rfl⟩
        · have e2 : decide (126 < (x : Int)) = false := decide_eq_false (by omega)
          have e2' : decide (126 < x) = false := decide_eq_false h2
          go_wp2_with fail
          go_round
          case rel => exact ⟨i + 1, by omega, by go_num, fun j h h' => by
            rcases Nat.lt_or_ge j i with hj | hj
            · exact hp.out j h hj
            · obtain rfl : j = i := by omega
              rw [HB.out, decide_eq_true (show 32 ≤ x by omega), decide_eq_true (show x ≤ 126 by omega)]
              rfl⟩
          case measure => simp [intOf]; omega
    · obtain rfl : i = s.length := by omega
      have hdl : decide ((s.length : Int) < (s.length : Int)) = false := decide_eq_false (by omega)
      have hdl' : decide (s.length < s.length) = false := decide_eq_false (by omega)
      have hyes : plainT s = true := plainT_yes fun j h => hp.out j h h
      have HY := Lib.hid hyes
      clear hyes
      go_wp2_with fail
      go_ret
      exact ⟨ret_bool HY.out.symm, rfl⟩
theorem keyOk_iff (s : List UInt8) : keyOk s = (decide (0 < s.length) && decide (s.length ≤ 24) && plainT s && !(s.any fun b => b == 32 || b == 46 || b == 34)) := by
  unfold keyOk
  have : s.all keyB = (plainT s && !(s.any fun b => b == 32 || b == 46 || b == 34)) := by
    unfold plainT
    rw [List.not_any_eq_all_not]
    induction s with
    | nil => rfl
    | cons c s ih =>
      simp only [List.all_cons, ih]
      have hc : keyB c = (plainB c && !(c == 32 || c == 46 || c == 34)) := by
        unfold keyB plainB
        have e1 : (c == 32) = decide (c.toNat = 32) := by
          rw [Bool.eq_iff_iff, beq_iff_eq, decide_eq_true_eq, ← UInt8.toNat_inj]; rfl
        rw [e1, Bool.eq_iff_iff]
        simp only [Bool.and_eq_true, Bool.not_eq_true', Bool.or_eq_false_iff, decide_eq_true_eq, decide_eq_false_iff_not]
        constructor
        · rintro ⟨⟨⟨a, b⟩, c⟩, d⟩; exact ⟨⟨by omega, b⟩, ⟨by omega, c⟩, d⟩
        · rintro ⟨⟨a, b⟩, ⟨c, d⟩, e⟩; exact ⟨⟨⟨by omega, b⟩, d⟩, e⟩
      rw [hc]
      cases plainB c <;> cases (c == 32 || c == 46 || c == 34) <;> simp
  rw [this]
  simp only [Bool.and_assoc]
set_option maxHeartbeats 1000000 in
theorem mayKey_c (w : World) (s : List UInt8) (hs : s.length ≤ 140737488355328) : Calls Tryz.prog 67 #[.string (strOf s)] w fun e w' => e = .returned (.bool (keyOk s)) ∧ Fr (fun _ => False) w w' := by
  have hsz := strOf_size s
  rw [keyOk_iff]
  by_cases h1 : 0 < s.length
  case neg =>
    have d1 : decide (0 < (s.length : Int)) = false := decide_eq_false (by omega)
    have d1' : decide (0 < s.length) = false := decide_eq_false h1
    rw [d1']
    go_enter Tryz.func67, Tryz.ntmps67
    go_wp2_with fail
    go_ret
    exact ⟨ret_bool (by simp), Fr.refl _ _⟩
  have d1 : decide (0 < (s.length : Int)) = true := decide_eq_true (by omega)
  have d1' : decide (0 < s.length) = true := decide_eq_true h1
  by_cases h2 : s.length ≤ 24
  case neg =>
    have d2 : decide ((s.length : Int) ≤ 24) = false := decide_eq_false (by omega)
    have d2' : decide (s.length ≤ 24) = false := decide_eq_false h2
    rw [d2']
    go_enter Tryz.func67, Tryz.ntmps67
    go_wp2_with fail
    go_ret
    exact ⟨ret_bool (by simp), Fr.refl _ _⟩
  have d2 : decide ((s.length : Int) ≤ 24) = true := decide_eq_true (by omega)
  have d2' : decide (s.length ≤ 24) = true := decide_eq_true h2
  rw [d1', d2']
  obtain ⟨z, hz⟩ : ∃ z, plainT s = z := ⟨_, rfl⟩
  rw [hz]
  have HZ := Lib.hid hz
  clear hz
  have PL := Lib.hid (fun W => (plain_c W s hs).mono (fun e w' h => h))
  cases z with
  | false =>
    go_enter Tryz.func67, Tryz.ntmps67
    go_wp2_with fail
    refine (PL.out _).mono ?_
    rintro e w' ⟨rfl, rfl⟩
    rw [HZ.out]
    go_wp2_with fail
    go_ret
    exact ⟨ret_bool (by simp), Fr.refl _ _⟩
  | true =>
    have CT := Lib.hid (fun W => contains_c W s (by omega) HZ.out)
    obtain ⟨y, hy⟩ : ∃ y, (s.any fun b => b == 32 || b == 46 || b == 34) = y := ⟨_, rfl⟩
    rw [hy] at CT ⊢
    clear hy
    cases y <;>
    · go_enter Tryz.func67, Tryz.ntmps67
      go_wp2_with fail
      refine (PL.out _).mono ?_
      rintro e w' ⟨rfl, rfl⟩
      rw [HZ.out]
      go_wp2_with fail
      refine (CT.out _).mono ?_
      rintro e w' ⟨rfl, f2⟩
      have F2 := Lib.hid f2
      clear f2
      go_wp2_with fail
      go_ret
      exact ⟨ret_bool (by simp), F2.out⟩
end Go.Proofs.YtnkfkicabgajmaaGreatDoor

/-
  CONTRACT of value.rising.
-/
namespace Go.Proofs.YtnkfkicabgajmaaGreatDoor
set_option linter.unusedSimpArgs false
set_option linter.unusedVariables false
open Go Go.RowKit

theorem riseAt_zero {ks : List (List UInt8)} (h : 0 < ks.length) : riseAt ks 0 = keyOk ks[0] := by
  unfold riseAt
  simp [h]
theorem riseAt_succ {ks : List (List UInt8)} {j : Nat} (h : j + 1 < ks.length) : riseAt ks (j + 1) = (keyOk ks[j + 1] && kl ks[j] ks[j + 1]) := by
  unfold riseAt
  rw [kl_cmpT]
  simp [h, show j < ks.length by omega]
set_option maxRecDepth 100000 in
set_option maxHeartbeats 1000000 in
theorem rising_c (w : World) {A : Option Addr} {ks : List (List UInt8)} (ck : Nat) (hr : Rd w A ks.length (strs ks)) (hk : ks.length ≤ 140737488355328) (hs : ∀ s ∈ ks, s.length ≤ 140737488355328) :
    Calls Tryz.prog 46 #[.slice A ks.length ck] w fun e w' => e = .returned (.bool (rising ks)) ∧ Fr (fun _ => False) w w' := by
  have HR := Lib.hid hr
  have HS := Lib.hid hs
  clear hr hs
  go_enter Tryz.func46, Tryz.ntmps46
  go_wp2_with fail
  go_loopw [7] (fun iv wr => ∃ i : Nat, i ≤ ks.length ∧ iv = .int .i64 (i : Int) ∧ Hid (∀ j, j < ks.length → j < i → riseAt ks j = true) ∧ Hid (Fr (fun _ => False) w wr)) (fun iv _ => ks.length - (intOf iv).toNat)
  case atStart => exact ⟨0, Nat.zero_le _, rfl, fun j h h' => by omega, Fr.refl _ _⟩
  case round =>
    obtain ⟨i, hi, rfl, hp, hf⟩ := hrel
    by_cases hlt : i < ks.length
    case neg =>
      obtain rfl : i = ks.length := by omega
      have hdl : decide ((ks.length : Int) < (ks.length : Int)) = false := decide_eq_false (by omega)
      have hdl' : decide (ks.length < ks.length) = false := decide_eq_false (by omega)
      have HY := Lib.hid ((rising_iff ks).2 fun j h => hp.out j h h)
      go_wp2_with fail
      go_ret
      exact ⟨ret_bool HY.out.symm, hf.out⟩
    have hdl : decide ((i : Int) < (ks.length : Int)) = true := decide_eq_true (by omega)
    have hdl' : decide (i < ks.length) = true := decide_eq_true hlt
    have hrw := HR.out.far hf.out
    obtain ⟨b, off, hA, -⟩ := hrw.lit (by omega)
    subst hA
    have hc : wr.cell? ⟨b, off + i, none⟩ = some (.string (strOf ks[i])) := by rw [hrw.cell hlt, strs_get ks i hlt]
    have MK := Lib.hid (mayKey_c wr ks[i] (HS.out _ (List.getElem_mem hlt)))
    obtain ⟨z, hz⟩ : ∃ z, keyOk ks[i] = z := ⟨_, rfl⟩
    rw [hz] at MK
    have HZ := Lib.hid hz
    have HRW := Lib.hid hrw
    clear hz hrw
    cases z with
    | false =>
      have hno : rising ks = false := rising_no hlt (by unfold riseAt; simp [hlt, HZ.out])
      have HN := Lib.hid hno
      clear hno
      go_wp2_with fail
      refine MK.out.mono ?_
      rintro e w2 ⟨rfl, f2⟩
      have F2 := Lib.hid (hf.out.trans f2 (fun _ _ h => h))
      clear f2
      go_wp2_with fail
      go_ret
      exact ⟨ret_bool HN.out.symm, F2.out⟩
    | true =>
      rcases i with _ | j
      · have hc0 : wr.cell? ⟨b, off, none⟩ = some (.string (strOf ks[0])) := hc
        go_wp2_with fail
        refine MK.out.mono ?_
        rintro e w2 ⟨rfl, f2⟩
        have F2 := Lib.hid (hf.out.trans f2 (fun _ _ h => h))
        clear f2
        go_wp2_with fail
        go_roundw
        case rel => exact ⟨1, by omega, by first | rfl | go_num, fun j h h' => by
          obtain rfl : j = 0 := by omega
          rw [riseAt_zero h]; exact HZ.out, F2.out⟩
        case measure => simp [intOf]; omega
      · have hj : j < ks.length := by omega
        have hcj : wr.cell? ⟨b, off + j, none⟩ = some (.string (strOf ks[j])) := by rw [HRW.out.cell hj, strs_get ks j hj]
        have d0 : decide (0 < ((j : Int) + 1)) = true := decide_eq_true (by omega)
        go_wp2_with fail
        refine MK.out.mono ?_
        rintro e w2 ⟨rfl, f2⟩
        have F2 := Lib.hid (hf.out.trans f2 (fun _ _ h => h))
        have hcj2 := cell_far hcj f2
        clear f2 hcj
        obtain ⟨z, hz⟩ : ∃ z, kl ks[j] ks[j + 1] = z := ⟨_, rfl⟩
        have hbl : Op.bytesLess (strOf ks[j]).toList (strOf ks[j + 1]).toList = z := by rw [strOf_toList, strOf_toList]; exact hz
        have HK := Lib.hid hz
        clear hz
        cases z with
        | true =>
          go_wp2_with fail
          go_roundw
          case rel => exact ⟨j + 1 + 1, by omega, by go_num, fun q h h' => by
            rcases Nat.lt_or_ge q (j + 1) with hq | hq
            · exact hp.out q h hq
            · obtain rfl : q = j + 1 := by omega
              rw [riseAt_succ hlt, HZ.out, HK.out]; rfl, F2.out⟩
          case measure => simp [intOf]; omega
        | false =>
          have hno : rising ks = false := rising_no hlt (by rw [riseAt_succ hlt, HK.out]; simp)
          have HN := Lib.hid hno
          clear hno
          go_wp2_with fail
          go_ret
          exact ⟨ret_bool HN.out.symm, F2.out⟩
end Go.Proofs.YtnkfkicabgajmaaGreatDoor

/-
  CONTRACT of value.usesItsOwn.
-/
namespace Go.Proofs.YtnkfkicabgajmaaGreatDoor
set_option linter.unusedSimpArgs false
set_option linter.unusedVariables false
open Go Go.RowKit
set_option maxRecDepth 100000 in
set_option maxHeartbeats 4000000 in
theorem usesOwn_c (w : World) (k n : Int) (t : List UInt8) (Al Ak : Option Addr) (nl cl nk ck : Nat) (hl : nl ≤ 140737488355328) (hk : nk ≤ 140737488355328) :
    Calls Tryz.prog 43 #[.agg (vcs k n t Al nl cl Ak nk ck)] w fun e w' => e = .returned (.bool (usesOwn k n t nl nk)) ∧ Fr (fun _ => False) w w' := by
  obtain ⟨z, hz⟩ : ∃ z, t.isEmpty = z := ⟨_, rfl⟩
  have hts : (strOf t).toList.isEmpty = z := by rw [strOf_toList]; exact hz
  have HZ := Lib.hid hz
  clear hz
  cases z <;>
  · go_enter Tryz.func43, Tryz.ntmps43
    go_upto_region 1 with fail
    refine abs_world (fun W => Hid (Blk W w.heap.size 25 (vcs k n t Al nl cl Ak nk ck)) ∧ Hid (Fr (fun _ => False) w W)) ⟨Blk.new w _ _, (Fr.refl _ w).alloc _⟩ ?_
    rintro W1 ⟨B1, F1⟩
    have c0 : W1.cell? ⟨w.heap.size, 0, none⟩ = some (.int .i64 k) := B1.out.cell 0
    have c1 : W1.cell? ⟨w.heap.size, 1, none⟩ = some (.int .i64 n) := B1.out.cell 1
    have c2 : W1.cell? ⟨w.heap.size, 2, none⟩ = some (.string (strOf t)) := B1.out.cell 2
    have c3 : W1.cell? ⟨w.heap.size, 3, none⟩ = some (.slice Al nl cl) := B1.out.cell 3
    have c4 : W1.cell? ⟨w.heap.size, 4, none⟩ = some (.slice Ak nk ck) := B1.out.cell 4
    go_wp2_with fail
    all_goals go_ret
    all_goals refine ⟨ret_bool ?_, F1.out⟩
    all_goals clear c0 c1 c2 c3 c4 B1 F1
    all_goals unfold usesOwn
    all_goals rw [HZ.out]
    all_goals try simp only [bne_iff_ne, beq_iff_eq, ne_eq, Bool.not_eq_true, beq_eq_false_iff_ne, bne_eq_false_iff_eq, decide_eq_true_eq, decide_eq_false_iff_not] at *
    all_goals rw [Bool.eq_iff_iff]
    all_goals try simp only [Bool.and_eq_true, Bool.or_eq_true, decide_eq_true_eq, beq_iff_eq, Bool.not_eq_true', decide_eq_false_iff_not, Bool.false_eq_true, false_iff, true_iff, not_and, not_or, or_false, or_true, true_and, and_true, false_or, true_or]
    all_goals omega
end Go.Proofs.YtnkfkicabgajmaaGreatDoor

/-
  CONTRACT of value.ownSize. Written by gen_size.py.
-/
namespace Go.Proofs.YtnkfkicabgajmaaGreatDoor
set_option linter.unusedSimpArgs false
set_option linter.unusedVariables false
open Go Go.RowKit

/-- Not great, all through. -/
inductive Sm : V → Prop
  | mk {k n : Int} {t : List UInt8} {l : List V} {ks : List (List UInt8)} : t.length ≤ 1000000 → l.length ≤ 1000000 → ks.length ≤ 1000000 → (∀ s ∈ ks, s.length ≤ 1000000) → (∀ x ∈ l, Sm x) → Sm (.mk k n t l ks)
structure SmP (t : List UInt8) (l : List V) (ks : List (List UInt8)) : Prop where
  tl : t.length ≤ 1000000
  ll : l.length ≤ 1000000
  kl : ks.length ≤ 1000000
  ks : ∀ s ∈ ks, s.length ≤ 1000000
  el : ∀ x ∈ l, Sm x
theorem Sm.inv {k n : Int} {t : List UInt8} {l : List V} {ks : List (List UInt8)} (h : Sm (.mk k n t l ks)) : SmP t l ks := by
  cases h with
  | mk a b c d e => exact ⟨a, b, c, d, e⟩
theorem ksz_snoc (l : List (List UInt8)) (s : List UInt8) : ksz (l ++ [s]) = ksz l + (s.length + nesc s + 3) := by
  induction l with
  | nil => simp [ksz]
  | cons a l ih => rw [List.cons_append, ksz, ih, ksz]; omega
theorem ksz_le (l : List (List UInt8)) (h : ∀ s ∈ l, s.length ≤ 1000000) : ksz l ≤ l.length * 3000003 := by
  induction l with
  | nil => simp [ksz]
  | cons a l ih =>
    have h1 := ih (fun s hs => h s (List.mem_cons_of_mem _ hs))
    have h2 := h a List.mem_cons_self
    have h3 := nesc_le a
    rw [ksz, List.length_cons]
    omega
theorem ksz_take (ks : List (List UInt8)) (i : Nat) : ksz (ks.take i) ≤ ksz ks := by
  induction ks generalizing i with
  | nil => simp
  | cons s ks ih =>
    cases i with
    | zero => simp [ksz]
    | succ i => have := ih i; rw [List.take_succ_cons, ksz, ksz]; omega
theorem pow_nDig (u : Nat) (h : 1 ≤ u) : 10 ^ (Lib.nDigits u - 1) ≤ u := by
  induction u using Nat.strongRecOn with
  | _ u ih =>
    by_cases hs : u < 10
    · rw [Lib.nDigits_small hs]; simpa using h
    · rw [Lib.nDigits_big hs]
      have := ih (u / 10) (by omega) (by omega)
      have hp := Lib.nDigits_pos (u / 10)
      rw [show Lib.nDigits (u / 10) + 1 - 1 = (Lib.nDigits (u / 10) - 1) + 1 by omega, Nat.pow_succ]
      omega
theorem nDig19 (u : Nat) (h : u ≤ 9223372036854775808) : Lib.nDigits u ≤ 19 := by
  rcases Nat.lt_or_ge u 1 with h0 | h0
  · have : u = 0 := by omega
    subst this
    rw [Lib.nDigits_small (by omega)]; omega
  · rcases Nat.lt_or_ge (Lib.nDigits u) 20 with h1 | h1
    · omega
    · exfalso
      have h2 := pow_nDig u h0
      have h3 : 10 ^ 19 ≤ 10 ^ (Lib.nDigits u - 1) := Nat.pow_le_pow_right (by omega) (by omega)
      omega
theorem decI_len (n : Int) (h0 : -9223372036854775808 ≤ n) (h1 : n ≤ 9223372036854775807) : (decI n).length ≤ 20 := by
  unfold decI Lib.itoa
  split
  · rw [List.length_cons, Lib.decDigits_length]
    have := nDig19 n.natAbs (by omega)
    omega
  · rw [Lib.decDigits_length]
    have := nDig19 n.toNat (by omega)
    omega
theorem ownSz_le {k n : Int} {t : List UInt8} {l : List V} {ks : List (List UInt8)} (h0 : -9223372036854775808 ≤ n) (h1 : n ≤ 9223372036854775807) (h : SmP t l ks) : ownSz k n t l.length ks ≤ 3000010000010 := by
  have h2 := nesc_le t
  have h3 := h.tl
  have h4 := ksz_le ks h.ks
  have h5 := h.kl
  have h6 := h.ll
  have h7 := decI_len n h0 h1
  unfold ownSz
  repeat' split
  all_goals omega
set_option maxRecDepth 100000 in
set_option maxHeartbeats 2000000 in
theorem ownSize_c (w : World) {D : Nat → Prop} {k n : Int} {t : List UInt8} {l : List V} {ks : List (List UInt8)} {Al Ak : Option Addr} {cl ck : Nat} {css : List (Array Value)}
    (hp : VP D w k n t l ks Al cl Ak ck css) (hs : SmP t l ks) (hL : LaidOk w) :
    Calls Tryz.prog 44 #[.agg (vcs k n t Al l.length cl Ak ks.length ck)] w fun e w' => e = .returned (.int .i64 (ownSz k n t l.length ks : Nat)) ∧ Fr (fun _ => False) w w' := by
  have b1 := hs.tl
  have b2 := hs.ll
  have b3 := hs.kl
  have b4 := nesc_le t
  have hts := strOf_size t
  have HP := Lib.hid hp
  have HSM := Lib.hid hs
  have FMT := Lib.hid (fun W (hW : Fr (fun _ => False) w W) => format_c W n hp.b.n0 hp.b.n1 (hL.far hW))
  have hdl := decI_len n hp.b.n0 hp.b.n1
  clear hp hs hL
  by_cases h1 : k = 1
  case pos =>
    obtain rfl := h1
    go_enter Tryz.func44, Tryz.ntmps44
    go_upto_region 1 with fail
    refine abs_world (fun W => Hid (Blk W w.heap.size 25 (vcs 1 n t Al l.length cl Ak ks.length ck)) ∧ Hid (Fr (fun _ => False) w W)) ⟨Blk.new w _ _, (Fr.refl _ w).alloc _⟩ ?_
    rintro W1 ⟨B1, F1⟩
    have c0 : W1.cell? ⟨w.heap.size, 0, none⟩ = some (.int .i64 1) := B1.out.cell 0
    have c1 : W1.cell? ⟨w.heap.size, 1, none⟩ = some (.int .i64 n) := B1.out.cell 1
    have c2 : W1.cell? ⟨w.heap.size, 2, none⟩ = some (.string (strOf t)) := B1.out.cell 2
    have c3 : W1.cell? ⟨w.heap.size, 3, none⟩ = some (.slice Al l.length cl) := B1.out.cell 3
    have c4 : W1.cell? ⟨w.heap.size, 4, none⟩ = some (.slice Ak ks.length ck) := B1.out.cell 4
    go_wp2_with fail
    go_ret
    exact ⟨ret_int (by simp [ownSz]), F1.out⟩
  by_cases h3 : k = 3
  case pos =>
    obtain rfl := h3
    go_enter Tryz.func44, Tryz.ntmps44
    go_upto_region 1 with fail
    refine abs_world (fun W => Hid (Blk W w.heap.size 25 (vcs 3 n t Al l.length cl Ak ks.length ck)) ∧ Hid (Fr (fun _ => False) w W)) ⟨Blk.new w _ _, (Fr.refl _ w).alloc _⟩ ?_
    rintro W1 ⟨B1, F1⟩
    have c0 : W1.cell? ⟨w.heap.size, 0, none⟩ = some (.int .i64 3) := B1.out.cell 0
    have c1 : W1.cell? ⟨w.heap.size, 1, none⟩ = some (.int .i64 n) := B1.out.cell 1
    have c2 : W1.cell? ⟨w.heap.size, 2, none⟩ = some (.string (strOf t)) := B1.out.cell 2
    have c3 : W1.cell? ⟨w.heap.size, 3, none⟩ = some (.slice Al l.length cl) := B1.out.cell 3
    have c4 : W1.cell? ⟨w.heap.size, 4, none⟩ = some (.slice Ak ks.length ck) := B1.out.cell 4
    go_wp2_with fail
    refine (FMT.out W1 F1.out).mono ?_
    rintro e W2 ⟨rfl, f2⟩
    have F2 := Lib.hid (F1.out.trans f2 (fun _ _ h => h))
    have hsz := strOf_size (decI n)
    clear f2
    go_wp2_with fail
    go_ret
    exact ⟨ret_int (by simp [ownSz]), F2.out⟩
  by_cases h4 : k = 4
  case pos =>
    obtain rfl := h4
    go_enter Tryz.func44, Tryz.ntmps44
    go_upto_region 1 with fail
    refine abs_world (fun W => Hid (Blk W w.heap.size 25 (vcs 4 n t Al l.length cl Ak ks.length ck)) ∧ Hid (Fr (fun _ => False) w W)) ⟨Blk.new w _ _, (Fr.refl _ w).alloc _⟩ ?_
    rintro W1 ⟨B1, F1⟩
    have c0 : W1.cell? ⟨w.heap.size, 0, none⟩ = some (.int .i64 4) := B1.out.cell 0
    have c1 : W1.cell? ⟨w.heap.size, 1, none⟩ = some (.int .i64 n) := B1.out.cell 1
    have c2 : W1.cell? ⟨w.heap.size, 2, none⟩ = some (.string (strOf t)) := B1.out.cell 2
    have c3 : W1.cell? ⟨w.heap.size, 3, none⟩ = some (.slice Al l.length cl) := B1.out.cell 3
    have c4 : W1.cell? ⟨w.heap.size, 4, none⟩ = some (.slice Ak ks.length ck) := B1.out.cell 4
    have ESC := Lib.hid (fun W => (escapes_c W t (by omega)).mono (fun e w' (h : e = .returned (.int .i64 (nesc t : Nat)) ∧ W = w') => (⟨h.1, h.2.symm⟩ : e = .returned (.int .i64 (nesc t : Nat)) ∧ w' = W)))
    go_wp2_with fail
    have s1 : IntKind.i64.wrap ((t.length : Int) + (nesc t : Int)) = (t.length : Int) + (nesc t : Int) := IntWalk.i64_in _ (by omega)
    have s2 : IntKind.i64.wrap ((t.length : Int) + (nesc t : Int) + 2) = (t.length : Int) + (nesc t : Int) + 2 := IntWalk.i64_in _ (by omega)
    go_quiet ((go_at_call 66; exact Calls.quiet_of_same (ESC.out _)))
    clear s1 s2
    go_wp2_with fail
    go_ret
    exact ⟨ret_int (by simp [ownSz]), F1.out.drewN _⟩
  by_cases h5 : k = 5
  case pos =>
    obtain rfl := h5
    go_enter Tryz.func44, Tryz.ntmps44
    go_upto_region 1 with fail
    refine abs_world (fun W => Hid (Blk W w.heap.size 25 (vcs 5 n t Al l.length cl Ak ks.length ck)) ∧ Hid (Fr (fun _ => False) w W)) ⟨Blk.new w _ _, (Fr.refl _ w).alloc _⟩ ?_
    rintro W1 ⟨B1, F1⟩
    have c0 : W1.cell? ⟨w.heap.size, 0, none⟩ = some (.int .i64 5) := B1.out.cell 0
    have c1 : W1.cell? ⟨w.heap.size, 1, none⟩ = some (.int .i64 n) := B1.out.cell 1
    have c2 : W1.cell? ⟨w.heap.size, 2, none⟩ = some (.string (strOf t)) := B1.out.cell 2
    have c3 : W1.cell? ⟨w.heap.size, 3, none⟩ = some (.slice Al l.length cl) := B1.out.cell 3
    have c4 : W1.cell? ⟨w.heap.size, 4, none⟩ = some (.slice Ak ks.length ck) := B1.out.cell 4
    go_wp2_with fail
    have hmx : max (0 : Int) ((l.length : Int) - 1) = ((l.length - 1 : Nat) : Int) := by omega
    have HMX := Lib.hid hmx
    clear hmx
    have hkt := ksz_le ks HSM.out.ks
    have HKT := Lib.hid (ksz_take ks)
    clear c0 c1 c2 c3
    go_loopw [3, 38] (fun nv iv wr => ∃ i : Nat, i ≤ ks.length ∧ iv = .int .i64 (i : Int) ∧ nv = .int .i64 ((2 + (l.length - 1) + ksz (ks.take i) : Nat) : Int) ∧ wr = W1) (fun _ iv _ => ks.length - (intOf iv).toNat)
    case atStart => exact ⟨0, Nat.zero_le _, rfl, by have := HMX.out; congr 1; simp only [List.take_zero, ksz]; omega, rfl⟩
    case round =>
      obtain ⟨i, hi, rfl, rfl, rfl⟩ := hrel
      have hkp := HKT.out i
      by_cases hlt : i < ks.length
      · obtain ⟨b, off, hA, hc⟩ := (HP.out.far F1.out).key hlt
        subst hA
        have hq := HSM.out.ks ks[i] (List.getElem_mem hlt)
        have hne := nesc_le ks[i]
        have hsz : (strOf ks[i]).size = (ks[i]).length := strOf_size _
        have hdl2 : decide ((i : Int) < (ks.length : Int)) = true := decide_eq_true (by omega)
        have hdl' : decide (i < ks.length) = true := decide_eq_true hlt
        have hsn : ksz (ks.take (i + 1)) = ksz (ks.take i) + ((ks[i]).length + nesc ks[i] + 3) := by rw [List.take_succ_eq_append_getElem hlt, ksz_snoc]
        have HSN := Lib.hid hsn
        clear hsn
        go_wp2_with fail
        refine (escapes_c wr ks[i] (by omega)).mono ?_
        rintro e W2 ⟨rfl, rfl⟩
        go_wp2_with fail
        go_roundw
        case rel => exact ⟨i + 1, by omega, by go_num, by rw [HSN.out]; congr 1; omega, trivial⟩
        case measure => simp [intOf]; omega
      · obtain rfl : i = ks.length := by omega
        have hdl2 : decide ((ks.length : Int) < (ks.length : Int)) = false := decide_eq_false (by omega)
        have hdl' : decide (ks.length < ks.length) = false := decide_eq_false (by omega)
        go_wp2_with fail
        go_ret
        exact ⟨ret_int (by simp [ownSz]), F1.out⟩
  by_cases h6 : k = 6
  case pos =>
    obtain rfl := h6
    go_enter Tryz.func44, Tryz.ntmps44
    go_upto_region 1 with fail
    refine abs_world (fun W => Hid (Blk W w.heap.size 25 (vcs 6 n t Al l.length cl Ak ks.length ck)) ∧ Hid (Fr (fun _ => False) w W)) ⟨Blk.new w _ _, (Fr.refl _ w).alloc _⟩ ?_
    rintro W1 ⟨B1, F1⟩
    have c0 : W1.cell? ⟨w.heap.size, 0, none⟩ = some (.int .i64 6) := B1.out.cell 0
    have c1 : W1.cell? ⟨w.heap.size, 1, none⟩ = some (.int .i64 n) := B1.out.cell 1
    have c2 : W1.cell? ⟨w.heap.size, 2, none⟩ = some (.string (strOf t)) := B1.out.cell 2
    have c3 : W1.cell? ⟨w.heap.size, 3, none⟩ = some (.slice Al l.length cl) := B1.out.cell 3
    have c4 : W1.cell? ⟨w.heap.size, 4, none⟩ = some (.slice Ak ks.length ck) := B1.out.cell 4
    go_wp2_with fail
    have hmx : max (0 : Int) ((l.length : Int) - 1) = ((l.length - 1 : Nat) : Int) := by omega
    have HMX := Lib.hid hmx
    clear hmx
    have hkt := ksz_le ks HSM.out.ks
    have HKT := Lib.hid (ksz_take ks)
    clear c0 c1 c2 c3
    go_loopw [3, 38] (fun nv iv wr => ∃ i : Nat, i ≤ ks.length ∧ iv = .int .i64 (i : Int) ∧ nv = .int .i64 ((2 + (l.length - 1) + ksz (ks.take i) : Nat) : Int) ∧ wr = W1) (fun _ iv _ => ks.length - (intOf iv).toNat)
    case atStart => exact ⟨0, Nat.zero_le _, rfl, by have := HMX.out; congr 1; simp only [List.take_zero, ksz]; omega, rfl⟩
    case round =>
      obtain ⟨i, hi, rfl, rfl, rfl⟩ := hrel
      have hkp := HKT.out i
      by_cases hlt : i < ks.length
      · obtain ⟨b, off, hA, hc⟩ := (HP.out.far F1.out).key hlt
        subst hA
        have hq := HSM.out.ks ks[i] (List.getElem_mem hlt)
        have hne := nesc_le ks[i]
        have hsz : (strOf ks[i]).size = (ks[i]).length := strOf_size _
        have hdl2 : decide ((i : Int) < (ks.length : Int)) = true := decide_eq_true (by omega)
        have hdl' : decide (i < ks.length) = true := decide_eq_true hlt
        have hsn : ksz (ks.take (i + 1)) = ksz (ks.take i) + ((ks[i]).length + nesc ks[i] + 3) := by rw [List.take_succ_eq_append_getElem hlt, ksz_snoc]
        have HSN := Lib.hid hsn
        clear hsn
        go_wp2_with fail
        refine (escapes_c wr ks[i] (by omega)).mono ?_
        rintro e W2 ⟨rfl, rfl⟩
        go_wp2_with fail
        go_roundw
        case rel => exact ⟨i + 1, by omega, by go_num, by rw [HSN.out]; congr 1; omega, trivial⟩
        case measure => simp [intOf]; omega
      · obtain rfl : i = ks.length := by omega
        have hdl2 : decide ((ks.length : Int) < (ks.length : Int)) = false := decide_eq_false (by omega)
        have hdl' : decide (ks.length < ks.length) = false := decide_eq_false (by omega)
        go_wp2_with fail
        go_ret
        exact ⟨ret_int (by simp [ownSz]), F1.out⟩
  have e1 : (k == 1) = false := by simpa using h1
  have e3 : (k == 3) = false := by simpa using h3
  have e4 : (k == 4) = false := by simpa using h4
  have e5 : (k == 5) = false := by simpa using h5
  have e6 : (k == 6) = false := by simpa using h6
  have HV : Hid (ownSz k n t l.length ks = 4) := by
    refine Lib.hid ?_
    unfold ownSz
    rw [if_neg h1, if_neg h3, if_neg h4, if_neg (fun h => h.elim h5 h6)]
  clear h1 h3 h4 h5 h6
  go_enter Tryz.func44, Tryz.ntmps44
  go_upto_region 1 with fail
  refine abs_world (fun W => Hid (Blk W w.heap.size 25 (vcs k n t Al l.length cl Ak ks.length ck)) ∧ Hid (Fr (fun _ => False) w W)) ⟨Blk.new w _ _, (Fr.refl _ w).alloc _⟩ ?_
  rintro W1 ⟨B1, F1⟩
  have c0 : W1.cell? ⟨w.heap.size, 0, none⟩ = some (.int .i64 k) := B1.out.cell 0
  have c1 : W1.cell? ⟨w.heap.size, 1, none⟩ = some (.int .i64 n) := B1.out.cell 1
  have c2 : W1.cell? ⟨w.heap.size, 2, none⟩ = some (.string (strOf t)) := B1.out.cell 2
  have c3 : W1.cell? ⟨w.heap.size, 3, none⟩ = some (.slice Al l.length cl) := B1.out.cell 3
  have c4 : W1.cell? ⟨w.heap.size, 4, none⟩ = some (.slice Ak ks.length ck) := B1.out.cell 4
  go_wp2_with fail
  go_ret
  exact ⟨ret_int (by rw [HV.out]; rfl), F1.out⟩
end Go.Proofs.YtnkfkicabgajmaaGreatDoor

/-
  CONTRACT of the closure in value.May, and of value.May. Written by gen_inv.py.
-/
namespace Go.Proofs.YtnkfkicabgajmaaGreatDoor
set_option linter.unusedSimpArgs false
set_option linter.unusedVariables false
open Go Go.RowKit

def ivX (rm sz : Int) (M : Array Value) (i : Nat) (v : Value) (W : World) : Prop := match i with
  | 0 => v = .int .i64 rm
  | 1 => v = .agg M
  | 2 => v = .int .i64 sz
  | 3 => v = .int .i64 (rm - sz)
  | _ => True
theorem ivX_far {rm sz : Int} {M : Array Value} {i : Nat} {v : Value} {W W' : World} (hg : Fr (fun _ => False) W W') (hx : ivX rm sz M i v W) : ivX rm sz M i v W' := by
  match i with
  | 0 => exact hx
  | 1 => exact hx
  | 2 => exact hx
  | 3 => exact hx
  | (n + 4) => exact hx
theorem inv_bd {v : V} {d : Nat} {room q : Int} (h0 : 0 ≤ room) (h : inv d v room = some q) : 0 ≤ q ∧ q ≤ room := by
  rw [inv_eq v d room h0] at h
  by_cases hb : invB d v room = true
  · rw [if_pos hb] at h
    unfold invB at hb
    simp only [Bool.and_eq_true, decide_eq_true_eq] at hb
    injection h with h
    omega
  · rw [if_neg hb] at h
    cases h
theorem invs_drop (l : List V) (d i : Nat) (r : Int) (h : i < l.length) : invs d (l.drop i) r = match inv d l[i] r with | none => none | some q => invs d (l.drop (i + 1)) q := by
  rw [List.drop_eq_getElem_cons h, invs]
  rfl
/-- What the closure leaves. -/
def InvQ (o : Option Int) (r : Nat) (w : World) (e : Ending) (w' : World) : Prop :=
  (o = none ∧ e = .returned (.bool true) ∧ Fr (fun k => k = r) w w') ∨ ∃ q, o = some q ∧ e = .returned (.bool false) ∧ Fr (fun k => k = r) w w' ∧ Blk w' r 3 #[.int .i64 q]
abbrev invF (r f : Nat) : Array Value := #[.func (.func 42) #[] #[.pointer (some ⟨r, 0, none⟩), .pointer (some ⟨f, 0, none⟩)]]
theorem Fr.false_ {fp : Nat → Prop} {w w' : World} (h : Fr (fun _ => False) w w') : Fr fp w w' := h.mono (fun _ _ h => h.elim)
set_option maxRecDepth 100000 in
set_option maxHeartbeats 4000000 in
theorem inv_step (w : World) {D : Nat → Prop} {k n : Int} {t : List UInt8} {l : List V} {ks : List (List UInt8)} {Al Ak : Option Addr} {cl ck : Nat} {css : List (Array Value)}
    (hp : VP D w k n t l ks Al cl Ak ck css) (hs : SmP t l ks) (d : Nat) (hd : d ≤ 100) (r f : Nat) (rm : Int) (h0 : 0 ≤ rm) (h512 : rm ≤ 512) (hD : ∀ b, D b → b ≠ r) (hr8 : 8 ≤ r)
    (hR : Blk w r 3 #[.int .i64 rm]) (hF : Blk w f 60 (invF r f)) (hL : LaidOk w)
    (ih : d ≤ 8 → ∀ (x : V), x ∈ l → ∀ (W : World) (C : Array Value) (rm : Int), RdV D W C x → 0 ≤ rm → rm ≤ 512 → Blk W r 3 #[.int .i64 rm] → Blk W f 60 (invF r f) → LaidOk W → Calls Tryz.prog 42 #[.agg C, .int .i64 ((d : Int) + 1), .pointer (some ⟨r, 0, none⟩), .pointer (some ⟨f, 0, none⟩)] W (InvQ (inv (d + 1) x rm) r W)) :
    Calls Tryz.prog 42 #[.agg (vcs k n t Al l.length cl Ak ks.length ck), .int .i64 (d : Int), .pointer (some ⟨r, 0, none⟩), .pointer (some ⟨f, 0, none⟩)] w (InvQ (inv d (.mk k n t l ks) rm) r w) := by
  have b1 := hs.tl
  have b2 := hs.ll
  have b3 := hs.kl
  have hrlt := hR.lt
  have hflt := hF.lt
  have hfr : f ≠ r := hF.ne_ hR (by decide)
  have hszb := ownSz_le (k := k) hp.b.n0 hp.b.n1 hs
  have HFR := Lib.hid hfr
  have HP := Lib.hid hp
  have HSM := Lib.hid hs
  have HR := Lib.hid hR
  have HF := Lib.hid hF
  have HL := Lib.hid hL
  have IH := Lib.hid ih
  have HD := Lib.hid hD
  have HS1 := Lib.hid (show (Tryz.prog.info? 25).map (·.size) = some (vcs k n t Al l.length cl Ak ks.length ck).size from lw5)
  clear hp hs hR hF hL ih hfr hD
  by_cases h1 : 8 < d
  case pos =>
    have d1 : decide (8 < (d : Int)) = true := decide_eq_true (by omega)
    have HV : Hid (inv d (.mk k n t l ks) rm = none) := by
      refine Lib.hid ?_
      rw [inv, if_pos (.inl h1)]
    clear h1
    go_enter Tryz.func42, Tryz.ntmps42
    go_wp2_with fail
    go_ret
    exact .inl ⟨HV.out, rfl, ((Fr.refl _ w).alloc _)⟩
  have d1 : decide (8 < (d : Int)) = false := decide_eq_false (by omega)
  obtain ⟨z, hz⟩ : ∃ z, usesOwn k n t l.length ks.length = z := ⟨_, rfl⟩
  have HZ := Lib.hid hz
  have USE := Lib.hid (fun W => usesOwn_c W k n t Al Ak l.length cl ks.length ck HP.out.b.ll HP.out.b.kl)
  rw [hz] at USE
  clear hz
  go_enter Tryz.func42, Tryz.ntmps42
  go_upto_region 1 with fail
  refine abs_world (fun W => Hid (Blk W w.heap.size 25 (vcs k n t Al l.length cl Ak ks.length ck)) ∧ Hid (Fr (fun _ => False) w W)) ⟨Blk.new w _ _, (Fr.refl _ w).alloc _⟩ ?_
  rintro W0 ⟨B0, F0⟩
  have BA := Lib.hid (blk_all B0.out)
  have hgr : w.heap.size ≠ r := by omega
  have hgf : w.heap.size ≠ f := by omega
  have HGR := Lib.hid hgr
  have HGF := Lib.hid hgf
  have R0 := Lib.hid (keepB HR.out F0.out)
  have K0 := Lib.hid (keepB HF.out F0.out)
  have HP0 := Lib.hid (HP.out.far F0.out)
  have HL0 := Lib.hid (HL.out.far F0.out)
  have HG8 := Lib.hid HL.out.size
  generalize hg : w.heap.size = g at *
  clear HR HF HL hgr hgf
  have y0 : W0.cell? ⟨g, 0, none⟩ = some (.int .i64 k) := B0.out.cell 0
  have y1 : W0.cell? ⟨g, 1, none⟩ = some (.int .i64 n) := B0.out.cell 1
  have y2 : W0.cell? ⟨g, 2, none⟩ = some (.string (strOf t)) := B0.out.cell 2
  have y3 : W0.cell? ⟨g, 3, none⟩ = some (.slice Al l.length cl) := B0.out.cell 3
  have y4 : W0.cell? ⟨g, 4, none⟩ = some (.slice Ak ks.length ck) := B0.out.cell 4
  cases z with
  | false =>
    have HV : Hid (inv d (.mk k n t l ks) rm = none) := by
      refine Lib.hid ?_
      rw [inv, if_pos (.inr HZ.out)]
    go_wp2_with fail
    clear y0 y1 y2 y3 y4
    refine (USE.out W0).mono ?_
    rintro e W1 ⟨rfl, f1⟩
    have F1 := Lib.hid (F0.out.trans f1 (fun _ _ h => h))
    clear f1
    go_wp2_with fail
    go_ret
    exact .inl ⟨HV.out, rfl, F1.out.false_⟩
  | true =>
    go_wp2_with fail
    clear y0 y1 y2 y3 y4
    refine (USE.out W0).mono ?_
    rintro e W1 ⟨rfl, f1⟩
    have F1 := Lib.hid (F0.out.trans f1 (fun _ _ h => h))
    have R1 := Lib.hid (keepB R0.out f1)
    have K1 := Lib.hid (keepB K0.out f1)
    have B1 := Lib.hid (keepB B0.out f1)
    have HP1 := Lib.hid (HP0.out.far f1)
    have HL1 := Lib.hid (HL0.out.far f1)
    clear f1 BA B0 R0 K0 HP0 HL0 F0 USE
    go_upto_region 3 with fail
    obtain ⟨sz, hsz⟩ : ∃ sz : Int, (ownSz k n t l.length ks : Int) = sz := ⟨_, rfl⟩
    have HSZ := Lib.hid hsz
    have SIZ : Hid (∀ W, Fr (fun _ => False) W1 W → Calls Tryz.prog 44 #[.agg (vcs k n t Al l.length cl Ak ks.length ck)] W fun e w' => e = .returned (.int .i64 sz) ∧ Fr (fun _ => False) W w') := fun W hW => by
      have := ownSize_c W (HP1.out.far hW) HSM.out (HL1.out.far hW)
      rw [HSZ.out] at this
      exact this
    have HBD := Lib.hid (show 0 ≤ sz ∧ sz ≤ 3000010000010 ∧ 0 ≤ rm ∧ rm ≤ 512 by omega)
    clear hsz hszb
    obtain ⟨M, hM⟩ : ∃ M, vcs k n t Al l.length cl Ak ks.length ck = M := ⟨_, rfl⟩
    have HM := Lib.hid hM
    rw [hM] at HS1 SIZ B1
    have BR1 := Lib.hid (blk_all B1.out)
    clear hM
    refine (wpIn_wide (n := 9)).1 ?_
    refine wpIn_region_factsG (ms := [0, 0, 2, 7, 15]) (k := 4) (Fr (fun _ => False)) (ivX rm sz M) (fun i v W => True) (by kernel_rfl) (by kernel_rfl) (Fr.refl _ _) (fun a b c h1 h2 => h1.trans h2 (fun _ _ h => h)) (fun i v w w' hg hx => ivX_far hg hx) ?walk3
    case walk3 =>
    have hdr : ∀ W, Fr (fun _ => False) W1.drew W → Fr (fun _ => False) W1 W := fun W h => ((Fr.refl (fun _ => False) W1).drew).trans h (fun _ _ h => h)
    have HDR := Lib.hid hdr
    clear hdr
    refine factWalkG_cons (fun W hW hf K hK => ?_) (fun x0 => ?_)
    · skip
      have c0 := (R1.out.fr (HDR.out W hW) (fun h => h)).cell 0
      refine ⟨by kernel_rfl, ?_⟩
      gi_step
      exact hK _ _ (Fr.refl _ _) rfl trivial
    simp only [Act.put, List.setIfInBounds_toArray, List.set_cons_succ, List.set_cons_zero]
    refine factWalkG_cons (fun W hW hf K hK => ?_) (fun x1 => ?_)
    · skip
      have hld := load_val (P := Tryz.prog) W g 0 M (rng_far BR1.out (HDR.out W hW)) 25 _ Tryz.underlying25 rfl HS1.out
      refine ⟨by kernel_rfl, ?_⟩
      refine operIn_load 25 _ rfl _ rfl hld ?_
      exact hK _ _ (Fr.refl _ _) rfl trivial
    simp only [Act.put, List.setIfInBounds_toArray, List.set_cons_succ, List.set_cons_zero]
    refine factWalkG_cons (fun W hW hf K hK => ?_) (fun x2 => ?_)
    · skip
      have e1 : x1 = .agg M := hf 1 (by omega) (by kernel_rfl)
      subst e1
      refine ⟨by kernel_rfl, ?_⟩
      gi_step
      refine ⟨trivial, ?_⟩
      refine (callsIn_wide.2 (SIZ.out W (HDR.out W hW))).mono ?_
      rintro e W' ⟨rfl, f2⟩
      dsimp only
      exact hK _ _ f2 rfl trivial
    simp only [Act.put, List.setIfInBounds_toArray, List.set_cons_succ, List.set_cons_zero]
    refine factWalkG_cons (fun W hW hf K hK => ?_) (fun x3 => ?_)
    · skip
      have e0 : x0 = .int .i64 rm := hf 0 (by omega) (by kernel_rfl)
      have e2 : x2 = .int .i64 sz := hf 2 (by omega) (by kernel_rfl)
      subst e0 e2
      obtain ⟨hb0, hb1, hb2, hb3⟩ := HBD.out
      refine ⟨by kernel_rfl, ?_⟩
      gi_step
      exact hK _ _ (Fr.refl _ _) rfl trivial
    simp only [Act.put, List.setIfInBounds_toArray, List.set_cons_succ, List.set_cons_zero]
    refine factWalkG_nil (fun W hW hf3 hmet => ?_)
    have e3 : x3 = .int .i64 (rm - sz) := hf3 3 (by omega)
    subst e3
    have hWf := HDR.out W hW
    have BRW := keepB R1.out hWf
    have BXW := keepB B1.out hWf
    have BKW := keepB K1.out hWf
    have c0 := BRW.cell 0
    have m0 := BRW.frozen 0
    have FW := F1.out.trans hWf (fun _ _ h => h)
    have FW1 := hWf
    change wpAnyIn _ _ _ _ _ _ 1 _ _ _
    refine wpAnyIn_ready (rs := [4]) (by kernel_rfl) (by simp) ?_
    refine AllReadyIn.cons rfl (fun K hK => ?_) AllReadyIn.nil
    go_simp
    refine hK _ _ ?_
    refine wpAnyIn_done (by kernel_rfl) ?_ _
    clear hK K hmet hf3 HDR c0 m0
    refine abs_exit (fun W => Hid (Blk W r 3 #[.int .i64 (rm - sz)]) ∧ Hid (Blk W g 25 M) ∧ Hid (Blk W f 60 (invF r f)) ∧ Hid (Fr (fun k => k = r) W1 W) ∧ Hid (Fr (fun k => k = r) w W)) ⟨BRW.set_ 0 _, BXW.far HGR.out _, BKW.far HFR.out _, (FW1.false_ (fp := fun k => k = r)).setCell (p := ⟨r, 0, none⟩) (fun _ => rfl) _, (FW.false_ (fp := fun k => k = r)).setCell (p := ⟨r, 0, none⟩) (fun _ => rfl) _⟩ ?_
    clear BRW BXW BKW FW FW1 hWf hW W R1 B1 K1 BR1 F1
    rintro W2 ⟨R2, B2, K2, F12, F2⟩
    have hM := HM.out
    subst hM
    have HP2 := Lib.hid (HP1.out.fr F12.out HD.out)
    have HL2 := Lib.hid (HL1.out.fr F12.out (fun k hk he => by omega))
    clear HP1 HL1 F12 HM HP
    have r0 : W2.cell? ⟨r, 0, none⟩ = some (.int .i64 (rm - sz)) := R2.out.cell 0
    have c2 : W2.cell? ⟨g, 2, none⟩ = some (.string (strOf t)) := B2.out.cell 2
    have c3 : W2.cell? ⟨g, 3, none⟩ = some (.slice Al l.length cl) := B2.out.cell 3
    have c4 : W2.cell? ⟨g, 4, none⟩ = some (.slice Ak ks.length ck) := B2.out.cell 4
    have hin : inv d (.mk k n t l ks) rm = if rm - sz < 0 ∨ plainT t = false ∨ rising ks = false then none else invs (d + 1) l (rm - sz) := by
      rw [inv, if_neg (fun h => h.elim (by omega) (by rw [HZ.out]; simp)), HSZ.out]
    have HIN := Lib.hid hin
    clear hin HSZ SIZ HZ
    obtain ⟨q1, q2, -, -⟩ := HBD.out
    by_cases h2 : rm - sz < 0
    case pos =>
      have e1 : decide (rm - sz < 0) = true := decide_eq_true h2
      have e1' : decide (rm < sz) = true := decide_eq_true (by omega)
      have HV : Hid (inv d (.mk k n t l ks) rm = none) := by
        refine Lib.hid ?_
        rw [HIN.out, if_pos (.inl h2)]
      go_wp2_with fail
      go_ret
      exact .inl ⟨HV.out, rfl, F2.out⟩
    have e1 : decide (rm - sz < 0) = false := decide_eq_false h2
    have e1' : decide (rm < sz) = false := decide_eq_false (by omega)
    obtain ⟨zp, hzp⟩ : ∃ z, plainT t = z := ⟨_, rfl⟩
    have PL := Lib.hid (plain_c W2 t (by omega))
    rw [hzp] at PL
    have HZP := Lib.hid hzp
    clear hzp
    cases zp with
    | false =>
      have HV : Hid (inv d (.mk k n t l ks) rm = none) := by
        refine Lib.hid ?_
        rw [HIN.out, if_pos (.inr (.inl HZP.out))]
      go_wp2_with fail
      refine PL.out.mono ?_
      rintro e W3 ⟨rfl, rfl⟩
      go_wp2_with fail
      go_ret
      exact .inl ⟨HV.out, rfl, F2.out⟩
    | true =>
      obtain ⟨zr, hzr⟩ : ∃ z, rising ks = z := ⟨_, rfl⟩
      have RI := Lib.hid (rising_c W2 ck HP2.out.kr HP2.out.b.kl HP2.out.b.ks)
      rw [hzr] at RI
      have HZR := Lib.hid hzr
      clear hzr
      cases zr with
      | false =>
        have HV : Hid (inv d (.mk k n t l ks) rm = none) := by
          refine Lib.hid ?_
          rw [HIN.out, if_pos (.inr (.inr HZR.out))]
        go_wp2_with fail
        refine PL.out.mono ?_
        rintro e W3 ⟨rfl, rfl⟩
        go_wp2_with fail
        refine RI.out.mono ?_
        rintro e W4 ⟨rfl, f4⟩
        have F4 := Lib.hid (F2.out.trans f4.false_ (fun _ _ h => h))
        clear f4
        go_wp2_with fail
        go_ret
        exact .inl ⟨HV.out, rfl, F4.out⟩
      | true =>
        have HV : Hid (inv d (.mk k n t l ks) rm = invs (d + 1) l (rm - sz)) := by
          refine Lib.hid ?_
          rw [HIN.out, if_neg]
          rintro (h | h | h)
          · omega
          · rw [HZP.out] at h; cases h
          · rw [HZR.out] at h; cases h
        go_wp2_with fail
        refine PL.out.mono ?_
        rintro e W3 ⟨rfl, rfl⟩
        go_wp2_with fail
        refine RI.out.mono ?_
        rintro e W4 ⟨rfl, f4⟩
        have F4 := Lib.hid (F2.out.trans f4.false_ (fun _ _ h => h))
        have R4 := Lib.hid (keepB R2.out f4)
        have B4 := Lib.hid (keepB B2.out f4)
        have K4 := Lib.hid (keepB K2.out f4)
        have HP4 := Lib.hid (HP2.out.far f4)
        have HL4 := Lib.hid (HL2.out.far f4)
        have c3 : W4.cell? ⟨g, 3, none⟩ = some (.slice Al l.length cl) := B4.out.cell 3
        clear f4 HIN HZP HZR PL RI R2 B2 K2 HP2 HL2 F2
        go_wp2_with fail
        obtain ⟨rs, hrs⟩ : ∃ rs, rm - sz = rs := ⟨_, rfl⟩
        have HRS := Lib.hid (show 0 ≤ rs ∧ rs ≤ 512 by omega)
        rw [hrs] at R4 HV ⊢
        clear c3 hrs e1 e1' h2
        go_loopw [37] (fun iv wr => ∃ (i : Nat) (q : Int), i ≤ l.length ∧ iv = .int .i64 (i : Int) ∧ Hid (0 ≤ q ∧ q ≤ 512) ∧ Hid (invs (d + 1) l rs = invs (d + 1) (l.drop i) q) ∧ Hid (Blk wr r 3 #[.int .i64 q]) ∧ Hid (Fr (fun k => k = r) W4 wr)) (fun iv _ => l.length - (intOf iv).toNat)
        case atStart => exact ⟨0, rs, Nat.zero_le _, rfl, HRS.out, rfl, R4.out, Fr.refl _ _⟩
        case round =>
          obtain ⟨i, q, hi, rfl, hq, he, hb, hf⟩ := hrel
          by_cases hlt : i < l.length
          case neg =>
            obtain rfl : i = l.length := by omega
            have hdl : decide ((l.length : Int) < (l.length : Int)) = false := decide_eq_false (by omega)
            have hdl' : decide (l.length < l.length) = false := decide_eq_false (by omega)
            have hfin : invs (d + 1) l rs = some q := by rw [he.out, List.drop_length, invs]
            have HFIN := Lib.hid hfin
            clear hfin
            go_wp2_with fail
            go_ret
            exact .inr ⟨q, HV.out.trans HFIN.out, rfl, F4.out.trans hf.out (fun _ _ h => h), hb.out⟩
          have hdl : decide ((i : Int) < (l.length : Int)) = true := decide_eq_true (by omega)
          have hdl' : decide (i < l.length) = true := decide_eq_true hlt
          have HPW := Lib.hid (HP4.out.fr hf.out HD.out)
          have HLW := Lib.hid (HL4.out.fr hf.out (fun k hk he => by omega))
          have KW := Lib.hid (K4.out.fr hf.out HFR.out)
          obtain ⟨b, off, C, hA, hci, hrv, hrg, h5⟩ := HPW.out.at_ hlt
          subst hA
          have HRV := Lib.hid hrv
          have HG := Lib.hid hrg
          have HSC := Lib.hid (szV hrv)
          have HO := Lib.hid (oneV hrv)
          have H5 := Lib.hid h5
          clear hci hrv hrg h5
          go_upto_region 9 with (first
            | (refine wpList_load_val rfl 25 _ rfl b _ rfl C HG.out _ Tryz.underlying25 rfl HSC.out ?_)
            | (refine wpList_store_blk rfl 25 _ _ rfl wr.heap.size C rfl rfl (Blk.new wr 25 _) H5.out HSC.out HO.out ?_
               intro W5 q5 f5
               have F5 := Lib.hid (((Fr.refl (fun _ => False) wr).alloc _).trans f5 (fun i hi h => by have : i = wr.heap.size := h; omega))
               have Q5 := Lib.hid (blk_all q5)
               clear q5 f5))
          have hk5 : W5.cell? ⟨f, 0, none⟩ = some (.func (.func 42) #[] #[.pointer (some ⟨r, 0, none⟩), .pointer (some ⟨f, 0, none⟩)]) := (keepB KW.out F5.out).cell 0
          have CALL := Lib.hid (IH.out (by omega) l[i] (List.getElem_mem hlt) W5 C q (HRV.out.far F5.out) hq.out.1 hq.out.2 (keepB hb.out F5.out) (keepB KW.out F5.out) (HLW.out.far F5.out))
          generalize wr.heap.size = g5 at *
          go_wp2_with (refine wpList_load_val rfl 25 _ rfl g5 _ rfl C Q5.out _ Tryz.underlying25 rfl HSC.out ?_)
          refine CALL.out.mono ?_
          rintro e W6 h6
          have H6 := Lib.hid h6
          clear h6 CALL hk5
          have hdr := invs_drop l (d + 1) i q hlt
          rw [← he.out] at hdr
          have HDRP := Lib.hid hdr
          clear hdr he
          rcases H6.out with ⟨ho, rfl, f6⟩ | ⟨q6, ho, rfl, f6, b6⟩
          · have HN : Hid (invs (d + 1) l rs = none) := by
              refine Lib.hid ?_
              rw [HDRP.out, ho]
            have F6 := Lib.hid (F4.out.trans (hf.out.trans (F5.out.false_.trans f6 (fun _ _ h => h)) (fun _ _ h => h)) (fun _ _ h => h))
            clear ho f6 H6 HDRP
            go_wp2_with fail
            go_ret
            exact .inl ⟨HV.out.trans HN.out, rfl, F6.out⟩
          · have HE6 : Hid (invs (d + 1) l rs = invs (d + 1) (l.drop (i + 1)) q6) := by
              refine Lib.hid ?_
              rw [HDRP.out, ho]
            have hq6 := inv_bd hq.out.1 ho
            have HQ6 := Lib.hid (show 0 ≤ q6 ∧ q6 ≤ 512 from ⟨hq6.1, Int.le_trans hq6.2 hq.out.2⟩)
            have F6 := Lib.hid (hf.out.trans (F5.out.false_.trans f6 (fun _ _ h => h)) (fun _ _ h => h))
            have B6 := Lib.hid b6
            clear ho f6 b6 H6 HDRP hq6
            go_wp2_with fail
            go_roundw
            case rel => exact ⟨i + 1, q6, by omega, by go_num, HQ6.out, HE6.out, B6.out, F6.out⟩
            case measure => simp [intOf]; omega
theorem inv_c : ∀ (v : V) (d : Nat) (w : World) (D : Nat → Prop) (C : Array Value) (r f : Nat) (rm : Int), RdV D w C v → Sm v → d ≤ 9 → 0 ≤ rm → rm ≤ 512 → (∀ b, D b → b ≠ r) → 8 ≤ r → Blk w r 3 #[.int .i64 rm] → Blk w f 60 (invF r f) → LaidOk w →
    Calls Tryz.prog 42 #[.agg C, .int .i64 (d : Int), .pointer (some ⟨r, 0, none⟩), .pointer (some ⟨f, 0, none⟩)] w (InvQ (inv d v rm) r w) := by
  intro v
  induction v using V.ind with
  | h k n t l ks ih =>
    intro d w D C r f rm h hs hd h0 h1 hD hr8 hR hF hL
    obtain ⟨k1, n1, t1, l1, ks1, Al, cl, Ak, ck, css, e, rfl, hp⟩ := h.inv
    injection e with e1 e2 e3 e4 e5
    subst e1 e2 e3 e4 e5
    refine inv_step w hp hs.inv d (by omega) r f rm h0 h1 hD hr8 hR hF hL (fun hd8 x hx W C q h1 h2 h3 h4 h5 h6 => ?_)
    exact ih x hx (d + 1) W D C r f q h1 (hs.inv.el x hx) (by omega) h2 h3 hD hr8 h4 h5 h6
end Go.Proofs.YtnkfkicabgajmaaGreatDoor

/-
  CONTRACT of value.May.
-/
namespace Go.Proofs.YtnkfkicabgajmaaGreatDoor
set_option linter.unusedSimpArgs false
set_option linter.unusedVariables false
open Go Go.RowKit
theorem Fr.new_ {w w' a : World} {r : Nat} (h : Fr (fun _ => False) w a) (h2 : Fr (fun k => k = r) a w') (hr : w.heap.size ≤ r) : Fr (fun _ => False) w w' :=
  h.trans h2 (fun i hi he => by have : i = r := he; omega)
set_option maxRecDepth 100000 in
set_option maxHeartbeats 1000000 in
theorem may_c (v : V) (w : World) (D : Nat → Prop) (C : Array Value) (h : RdV D w C v) (hs : Sm v) (hL : LaidOk w) : Calls Tryz.prog 22 #[.agg C] w fun e w' => e = .returned (.bool (mayV v)) ∧ Fr (fun _ => False) w w' := by
  have hL8 := hL.size
  have HRV := Lib.hid h.lts
  have HS := Lib.hid hs
  have HL := Lib.hid hL
  have HSC := Lib.hid (szV h)
  clear h hs hL
  go_enter Tryz.func22, Tryz.ntmps22
  go_upto_region 4 with fail
  refine abs_world (fun W => Hid (Blk W w.heap.size 25 C) ∧ Hid (Blk W (w.heap.size + 1) 3 #[.int .i64 512]) ∧ Hid (Blk W (w.heap.size + 1 + 1) 60 (invF (w.heap.size + 1) (w.heap.size + 1 + 1))) ∧ Hid (Fr (fun _ => False) w W)) ⟨((Blk.new w _ _).alloc _).alloc _, (Blk.new1 w _ 3 _).alloc _, ?_, (((Fr.refl _ w).alloc _).alloc _).alloc _⟩ ?_
  · have h := Blk.new ((w.alloc (.cells C 25)).alloc (.cells #[.int .i64 512] 3)) 60 (invF (w.heap.size + 1) (w.heap.size + 1 + 1))
    rw [World.size_alloc, World.size_alloc] at h
    exact h
  rintro W1 ⟨B1, R1, K1, F1⟩
  have k5 : W1.cell? ⟨w.heap.size + 1 + 1, 0, none⟩ = some (.func (.func 42) #[] #[.pointer (some ⟨w.heap.size + 1, 0, none⟩), .pointer (some ⟨w.heap.size + 1 + 1, 0, none⟩)]) := K1.out.cell 0
  have BA := Lib.hid (blk_all B1.out)
  go_wp2_with (refine wpList_load_val rfl 25 _ rfl w.heap.size _ rfl C BA.out _ Tryz.underlying25 rfl HSC.out ?_)
  refine (inv_c v 1 W1 _ C (w.heap.size + 1) (w.heap.size + 1 + 1) 512 (HRV.out.far F1.out) HS.out (by omega) (by omega) (by omega) (fun b hb => by have := hb.2; omega) (by omega) R1.out K1.out (HL.out.far F1.out)).mono ?_
  rintro e W2 h2
  have H2 := Lib.hid h2
  clear h2 k5
  have HM := Lib.hid (inv_may v)
  rcases H2.out with ⟨ho, rfl, f2⟩ | ⟨q, ho, rfl, f2, -⟩
  · have F2 := Lib.hid (F1.out.new_ f2 (by omega))
    have HO := Lib.hid ho
    clear f2 ho
    go_wp2_with fail
    go_ret
    exact ⟨ret_bool (by rw [← HM.out, HO.out]; rfl), F2.out⟩
  · have F2 := Lib.hid (F1.out.new_ f2 (by omega))
    have HO := Lib.hid ho
    clear f2 ho
    go_wp2_with fail
    go_ret
    exact ⟨ret_bool (by rw [← HM.out, HO.out]; rfl), F2.out⟩
end Go.Proofs.YtnkfkicabgajmaaGreatDoor
