/-
  CONTRACTS of the reference's Word, Plain, Mark.
-/
import Derived.Test.YtimopkmlcjdgfaaDoorRby
import Derived.Test.YtimopkmlcjdgfaaDoorRfp
namespace Go.Proofs.YtimopkmlcjdgfaaDoor
set_option linter.unusedSimpArgs false
set_option linter.unusedVariables false
open Go Go.RowKit

theorem ltr_n46 {x : Nat} (h : ltrN x = true) : ¬ x = 46 := by
  unfold ltrN at h
  simp at h
  omega
set_option maxRecDepth 100000 in
set_option maxHeartbeats 1000000 in
theorem rWord_c (w : World) (s : List UInt8) (hs : s.length ≤ 1000000000) : Calls Tryd.prog 28 #[.string (strOf s)] w fun e w' => e = .returned (.bool (wordT s)) ∧ w = w' := by
  have hsz := strOf_size s
  by_cases h0 : s.length = 0
  case pos =>
    obtain rfl : s = [] := List.eq_nil_of_length_eq_zero h0
    go_enter Tryd.func28, Tryd.ntmps28
    go_wp2_with fail
    go_ret
    exact ⟨rfl, rfl⟩
  case neg =>
  have hpos : 0 < s.length := by omega
  have HWT : Hid (wordT s = (ltr s[0] && decide (s.length ≤ 64) && wRest (s.drop 1))) := Lib.hid (by
    cases s with
    | nil => exact absurd hpos (by simp)
    | cons c r => exact wordT_r c r)
  obtain ⟨z, hz⟩ : ∃ z, wordT s = z := ⟨_, rfl⟩
  rw [hz] at HWT ⊢
  clear hz
  have d0 : ((s.length : Int) == 0) = false := beq_eq_false_iff_ne.2 (by omega)
  have d0' : (s.length == 0) = false := beq_eq_false_iff_ne.2 (by omega)
  by_cases hlen : 64 < s.length
  case pos =>
    have d1 : decide ((64 : Int) < (s.length : Int)) = true := decide_eq_true (by omega)
    have d1' : decide ((s.length : Int) > 64) = true := decide_eq_true (by omega)
    have HN : Hid (z = false) := Lib.hid (by rw [HWT.out, decide_eq_false (by omega)]; simp)
    go_enter Tryd.func28, Tryd.ntmps28
    go_wp2_with fail
    go_ret
    exact ⟨ret_bool HN.out.symm, rfl⟩
  case neg =>
  have d1 : decide ((64 : Int) < (s.length : Int)) = false := decide_eq_false (by omega)
  have d1' : decide ((s.length : Int) > 64) = false := decide_eq_false (by omega)
  have hix0 : ∀ W, (Instr.index 9 (.string (strOf s)) (.int .i64 0)).run Tryd.prog W = .ok (.int .u8 ((s[0]).toNat : Nat)) W := fun W => run_index_str W s 0 hpos
  have hcl0 := u8_lt s[0]
  have hln := ltr_n s[0]
  have LT := Lib.hid (fun W => rletter_c W (s[0]).toNat hcl0)
  obtain ⟨x, hx⟩ : ∃ x, (s[0]).toNat = x := ⟨_, rfl⟩
  rw [hx] at hix0 hcl0 hln LT
  have HLN := Lib.hid hln
  clear hln hx
  cases hl : ltrN x with
  | false =>
    rw [hl] at LT HLN
    have HN : Hid (z = false) := Lib.hid (by rw [HWT.out, HLN.out]; rfl)
    clear hl
    go_enter Tryd.func28, Tryd.ntmps28
    go_wp2_with fail
    refine (LT.out _).mono ?_
    rintro e w' ⟨rfl, rfl⟩
    go_wp2_with fail
    go_ret
    exact ⟨ret_bool HN.out.symm, rfl⟩
  | true =>
  rw [hl] at LT HLN
  have HZ : Hid (z = wRest (s.drop 1)) := Lib.hid (by rw [HWT.out, HLN.out, decide_eq_true (by omega)]; rfl)
  clear hl
  go_enter Tryd.func28, Tryd.ntmps28
  go_upto_region 2 with (
    go_at_call 42
    refine (LT.out _).mono ?_
    rintro e w' ⟨rfl, rfl⟩)
  go_wp2_with fail
  go_loop [3] (fun iv => ∃ i : Nat, 1 ≤ i ∧ i ≤ s.length ∧ iv = .int .i64 (i : Int) ∧ Hid (z = wRest (s.drop i))) (fun iv => s.length - (intOf iv).toNat)
  case atStart => exact ⟨1, Nat.le_refl _, hpos, rfl, HZ.out⟩
  case round =>
    obtain ⟨i, hi1, hi, rfl, hw⟩ := hrel
    by_cases hlt : i < s.length
    case neg =>
      obtain rfl : i = s.length := by omega
      have e1 : decide ((s.length : Int) < (s.length : Int)) = false := decide_eq_false (by omega)
      have e1' : decide (s.length < s.length) = false := decide_eq_false (by omega)
      have HR : Hid (z = true) := Lib.hid (by rw [hw.out, List.drop_length]; rfl)
      go_wp2_with fail
      go_ret
      exact ⟨ret_bool HR.out.symm, rfl⟩
    have e1 : decide ((i : Int) < (s.length : Int)) = true := decide_eq_true (by omega)
    have e1' : decide (i < s.length) = true := decide_eq_true hlt
    have hix := fun W => run_index_str W s i hlt
    have hdr := List.drop_eq_getElem_cons hlt
    have hcl := u8_lt s[i]
    obtain ⟨c, hc⟩ : ∃ c, s[i] = c := ⟨_, rfl⟩
    rw [hc] at hix hdr hcl
    have LC := Lib.hid (fun W => rletter_c W c.toNat hcl)
    have DC := Lib.hid (fun W => rdigit_c W c.toNat hcl)
    have hfn := fol_n c
    have h46 := eq46 c
    obtain ⟨y, hy⟩ : ∃ y, c.toNat = y := ⟨_, rfl⟩
    rw [hy] at hix LC DC hfn hcl h46
    have HDR := Lib.hid hdr
    have H46 := Lib.hid h46
    have HFN := Lib.hid hfn
    have HY := Lib.hid hy
    clear hc hdr h46 hfn hy
    by_cases h46 : y = 46
    case neg =>
      have e2 : ((y : Int) == 46) = false := beq_eq_false_iff_ne.2 (by omega)
      have e2' : decide (y = 46) = false := decide_eq_false h46
      have HS : Hid (z = (folN y && wRest (s.drop (i + 1)))) := Lib.hid (by rw [hw.out, HDR.out, wRest_one (by rw [H46.out]; exact e2'), HFN.out])
      have HF : Hid (folN y = (ltrN y || dgtN y || decide (y = 45))) := Lib.hid rfl
      clear h46
      cases hl : ltrN y with
      | true =>
        rw [hl] at LC HF
        have HT : Hid (z = wRest (s.drop (i + 1))) := Lib.hid (by rw [HS.out, HF.out]; rfl)
        clear hl
        go_wp2_with (
          go_at_call 42
          refine (LC.out _).mono ?_
          rintro e w' ⟨rfl, rfl⟩)
        go_round
        case rel => exact ⟨i + 1, by omega, by omega, by go_num, HT.out⟩
        case measure => simp [intOf]; omega
      | false =>
        rw [hl] at LC HF
        clear hl
        cases hd : dgtN y with
        | true =>
          rw [hd] at DC HF
          have HT : Hid (z = wRest (s.drop (i + 1))) := Lib.hid (by rw [HS.out, HF.out]; rfl)
          clear hd
          go_wp2_with (first
            | (go_at_call 42
               refine (LC.out _).mono ?_
               rintro e w' ⟨rfl, rfl⟩)
            | (go_at_call 43
               refine (DC.out _).mono ?_
               rintro e w' ⟨rfl, rfl⟩))
          go_round
          case rel => exact ⟨i + 1, by omega, by omega, by go_num, HT.out⟩
          case measure => simp [intOf]; omega
        | false =>
          rw [hd] at DC HF
          clear hd
          by_cases h45 : y = 45
          case pos =>
            have HT : Hid (z = wRest (s.drop (i + 1))) := Lib.hid (by rw [HS.out, HF.out, decide_eq_true h45]; rfl)
            have e3 : ((y : Int) == 45) = true := beq_iff_eq.2 (by omega)
            have e3' : ((y : Int) != 45) = false := by rw [bne, e3]; rfl
            subst h45
            go_wp2_with (first
              | (go_at_call 42
                 refine (LC.out _).mono ?_
                 rintro e w' ⟨rfl, rfl⟩)
              | (go_at_call 43
                 refine (DC.out _).mono ?_
                 rintro e w' ⟨rfl, rfl⟩))
            go_round
            case rel => exact ⟨i + 1, by omega, by omega, by go_num, HT.out⟩
            case measure => simp [intOf]; omega
          case neg =>
            have HT : Hid (z = false) := Lib.hid (by rw [HS.out, HF.out, decide_eq_false h45]; rfl)
            have e3 : ((y : Int) == 45) = false := beq_eq_false_iff_ne.2 (by omega)
            have e3' : ((y : Int) != 45) = true := bne_iff_ne.2 (by omega)
            clear h45
            go_wp2_with (first
              | (go_at_call 42
                 refine (LC.out _).mono ?_
                 rintro e w' ⟨rfl, rfl⟩)
              | (go_at_call 43
                 refine (DC.out _).mono ?_
                 rintro e w' ⟨rfl, rfl⟩))
            go_ret
            exact ⟨ret_bool HT.out.symm, rfl⟩
    case pos =>
      have HC : Hid (c = 46) := Lib.hid (UInt8.toNat_inj.1 (by rw [HY.out]; exact h46))
      subst h46
      by_cases hlt2 : i + 1 < s.length
      case neg =>
        have HN : Hid (z = false) := Lib.hid (by rw [hw.out, HDR.out, List.drop_eq_nil_of_le (by omega), HC.out]; rfl)
        have e2 : ((i : Int) == (s.length : Int) - 1) = true := beq_iff_eq.2 (by omega)
        go_wp2_with fail
        go_ret
        exact ⟨ret_bool HN.out.symm, rfl⟩
      have e2 : ((i : Int) == (s.length : Int) - 1) = false := beq_eq_false_iff_ne.2 (by omega)
      have hiy : ∀ W, (Instr.index 9 (.string (strOf s)) (.int .i64 ((i : Int) + 1))).run Tryd.prog W = .ok (.int .u8 ((s[i + 1]).toNat : Nat)) W := fun W => run_index_str W s (i + 1) hlt2
      have hdr2 := List.drop_eq_getElem_cons hlt2
      have hcl2 := u8_lt s[i + 1]
      obtain ⟨d, hd⟩ : ∃ d, s[i + 1] = d := ⟨_, rfl⟩
      rw [hd] at hiy hdr2 hcl2
      have HS : Hid (z = ((ltr d || dgt d) && wRest (s.drop (i + 1)))) := Lib.hid (by rw [hw.out, HDR.out, hdr2, HC.out, wRest_dot])
      have LD := Lib.hid (fun W => rletter_c W d.toNat hcl2)
      have DD := Lib.hid (fun W => rdigit_c W d.toNat hcl2)
      rw [ltr_n d, dgt_n d] at HS
      obtain ⟨y, hy⟩ : ∃ y, d.toNat = y := ⟨_, rfl⟩
      rw [hy] at hiy LD DD HS hcl2
      clear hd hdr2 hy
      cases hl : ltrN y with
      | true =>
        rw [hl] at LD HS
        have HT : Hid (z = wRest (s.drop (i + 1))) := Lib.hid (by rw [HS.out]; rfl)
        clear hl
        go_wp2_with (
          go_at_call 42
          refine (LD.out _).mono ?_
          rintro e w' ⟨rfl, rfl⟩)
        go_round
        case rel => exact ⟨i + 1, by omega, by omega, by go_num, HT.out⟩
        case measure => simp [intOf]; omega
      | false =>
        rw [hl] at LD HS
        clear hl
        cases hd : dgtN y with
        | true =>
          rw [hd] at DD HS
          have HT : Hid (z = wRest (s.drop (i + 1))) := Lib.hid (by rw [HS.out]; rfl)
          clear hd
          go_wp2_with (first
            | (go_at_call 42
               refine (LD.out _).mono ?_
               rintro e w' ⟨rfl, rfl⟩)
            | (go_at_call 43
               refine (DD.out _).mono ?_
               rintro e w' ⟨rfl, rfl⟩))
          go_round
          case rel => exact ⟨i + 1, by omega, by omega, by go_num, HT.out⟩
          case measure => simp [intOf]; omega
        | false =>
          rw [hd] at DD HS
          have HT : Hid (z = false) := Lib.hid (by rw [HS.out]; rfl)
          clear hd
          go_wp2_with (first
            | (go_at_call 42
               refine (LD.out _).mono ?_
               rintro e w' ⟨rfl, rfl⟩)
            | (go_at_call 43
               refine (DD.out _).mono ?_
               rintro e w' ⟨rfl, rfl⟩))
          go_ret
          exact ⟨ret_bool HT.out.symm, rfl⟩
set_option maxRecDepth 100000 in
set_option maxHeartbeats 4000000 in
theorem rPlain_c (w : World) (s : List UInt8) (hs : s.length ≤ 1000000000) : Calls Tryd.prog 29 #[.string (strOf s)] w fun e w' => e = .returned (.bool (decide (s.length ≤ 64) && s.all plB)) ∧ w = w' := by
  have hsz := strOf_size s
  obtain ⟨z, hz⟩ : ∃ z, (decide (s.length ≤ 64) && s.all plB) = z := ⟨_, rfl⟩
  rw [hz]
  have HZ := Lib.hid hz
  clear hz
  go_enter Tryd.func29, Tryd.ntmps29
  go_wp2_with fail
  go_loop [3] (fun iv => ∃ i : Nat, i ≤ s.length ∧ iv = .int .i64 (i : Int) ∧ Hid (s.all plB = (s.drop i).all plB)) (fun iv => s.length - (intOf iv).toNat)
  case atStart => exact ⟨0, Nat.zero_le _, rfl, rfl⟩
  case round =>
    obtain ⟨i, hi, rfl, hw⟩ := hrel
    by_cases hlt : i < s.length
    case neg =>
      obtain rfl : i = s.length := by omega
      have e1 : decide ((s.length : Int) < (s.length : Int)) = false := decide_eq_false (by omega)
      have e1' : decide (s.length < s.length) = false := decide_eq_false (by omega)
      have HR : Hid (z = decide (s.length ≤ 64)) := Lib.hid (by rw [← HZ.out, hw.out, List.drop_length]; simp)
      by_cases hl : s.length ≤ 64
      · have e2 : decide ((s.length : Int) ≤ 64) = true := decide_eq_true (by omega)
        rw [decide_eq_true hl] at HR
        go_wp2_with fail
        go_ret
        exact ⟨ret_bool HR.out.symm, rfl⟩
      · have e2 : decide ((s.length : Int) ≤ 64) = false := decide_eq_false (by omega)
        rw [decide_eq_false hl] at HR
        go_wp2_with fail
        go_ret
        exact ⟨ret_bool HR.out.symm, rfl⟩
    have e1 : decide ((i : Int) < (s.length : Int)) = true := decide_eq_true (by omega)
    have e1' : decide (i < s.length) = true := decide_eq_true hlt
    have hix := fun W => run_index_str W s i hlt
    have hdr := List.drop_eq_getElem_cons hlt
    have hcl := u8_lt s[i]
    obtain ⟨c, hc⟩ : ∃ c, s[i] = c := ⟨_, rfl⟩
    rw [hc] at hix hdr hcl
    have hpn := pl_n c
    obtain ⟨y, hy⟩ : ∃ y, c.toNat = y := ⟨_, rfl⟩
    rw [hy] at hix hpn hcl
    have HDR := Lib.hid hdr
    have HP := Lib.hid hpn
    clear hc hdr hpn hy
    by_cases h32 : 32 ≤ y
    · by_cases h126 : y ≤ 126
      · have q1 : decide ((y : Int) < 32) = false := decide_eq_false (by omega)
        have q2 : decide ((126 : Int) < (y : Int)) = false := decide_eq_false (by omega)
        have q1' : decide (y < 32) = false := decide_eq_false (by omega)
        have q2' : decide (126 < y) = false := decide_eq_false (by omega)
        have HT : Hid (s.all plB = (s.drop (i + 1)).all plB) := Lib.hid (by rw [hw.out, HDR.out, List.all_cons, HP.out, decide_eq_true h32, decide_eq_true h126]; rfl)
        go_wp2_with fail
        go_round
        case rel => exact ⟨i + 1, by omega, by go_num, HT.out⟩
        case measure => simp [intOf]; omega
      · have q1 : decide ((y : Int) < 32) = false := decide_eq_false (by omega)
        have q2 : decide ((126 : Int) < (y : Int)) = true := decide_eq_true (by omega)
        have q1' : decide (y < 32) = false := decide_eq_false (by omega)
        have q2' : decide (126 < y) = true := decide_eq_true (by omega)
        have HT : Hid (z = false) := Lib.hid (by rw [← HZ.out, hw.out, HDR.out, List.all_cons, HP.out, decide_eq_false h126]; simp)
        go_wp2_with fail
        go_ret
        exact ⟨ret_bool HT.out.symm, rfl⟩
    · have q1 : decide ((y : Int) < 32) = true := decide_eq_true (by omega)
      have q1' : decide (y < 32) = true := decide_eq_true (by omega)
      have HT : Hid (z = false) := Lib.hid (by rw [← HZ.out, hw.out, HDR.out, List.all_cons, HP.out, decide_eq_false h32]; simp)
      go_wp2_with fail
      go_ret
      exact ⟨ret_bool HT.out.symm, rfl⟩
end Go.Proofs.YtimopkmlcjdgfaaDoor
