/-
  CONTRACTS of wordEnd, plain, ends.
-/
import Derived.Test.YtimopkmlcjdgfaaDoorLby
namespace Go.Proofs.YtimopkmlcjdgfaaDoor
set_option linter.unusedSimpArgs false
set_option linter.unusedVariables false
open Go Go.RowKit

theorem wEnd_f {b : UInt8} {r : List UInt8} (h : fol b = true) : wEnd (b :: r) = 1 + wEnd r := by
  cases r with
  | nil => unfold wEnd; rw [if_pos h]
  | cons c r => conv => lhs; unfold wEnd
                rw [if_pos h]
theorem wEnd_n {b : UInt8} {r : List UInt8} (h : fol b = false) (h2 : (b == 46) = false) : wEnd (b :: r) = 0 := by
  cases r with
  | nil => unfold wEnd; rw [h]; rfl
  | cons c r => unfold wEnd; rw [h, h2]; rfl
theorem wEnd_1 {b : UInt8} (h : fol b = false) : wEnd [b] = 0 := by unfold wEnd; rw [h]; rfl
theorem wEnd_2 {b c : UInt8} {r : List UInt8} (h : fol b = false) (hc : (c == 45) = true ∨ fol c = false) : wEnd (b :: c :: r) = 0 := by
  unfold wEnd
  rw [h]
  rcases hc with hc | hc
  · simp [bne, hc]
  · simp [hc]
theorem wEnd_3 {b c : UInt8} {r : List UInt8} (h : fol b = false) (hb : (b == 46) = true) (hc : (c == 45) = false) (hf : fol c = true) : wEnd (b :: c :: r) = 2 + wEnd r := by
  conv => lhs; unfold wEnd
  rw [h, hb, hf]
  simp [bne, hc]
theorem eq46 (c : UInt8) : (c == 46) = decide (c.toNat = 46) := eq_n c 46 (by decide)
theorem eq45 (c : UInt8) : (c == 45) = decide (c.toNat = 45) := eq_n c 45 (by decide)
set_option maxRecDepth 100000 in
set_option maxHeartbeats 4000000 in
theorem wordEnd_c (w : World) (s : List UInt8) (hs : s.length ≤ 1000000000) (h0 : 0 < s.length) : Calls Tryd.prog 24 #[.string (strOf s)] w fun e w' => e = .returned (.int .i64 ((1 + wEnd (s.drop 1) : Nat) : Int)) ∧ w = w' := by
  have hsz := strOf_size s
  obtain ⟨z, hz⟩ : ∃ z, 1 + wEnd (s.drop 1) = z := ⟨_, rfl⟩
  rw [hz]
  have HZ := Lib.hid hz
  clear hz
  go_enter Tryd.func24, Tryd.ntmps24
  go_wp2_with fail
  go_loop [3] (fun iv => ∃ i : Nat, 1 ≤ i ∧ i ≤ s.length ∧ iv = .int .i64 (i : Int) ∧ Hid (z = i + wEnd (s.drop i))) (fun iv => s.length - (intOf iv).toNat)
  case atStart => exact ⟨1, Nat.le_refl _, h0, rfl, HZ.out.symm⟩
  case round =>
    obtain ⟨i, hi1, hi, rfl, hw⟩ := hrel
    by_cases hlt : i < s.length
    case neg =>
      obtain rfl : i = s.length := by omega
      have d1 : decide ((s.length : Int) < (s.length : Int)) = false := decide_eq_false (by omega)
      have d1' : decide (s.length < s.length) = false := decide_eq_false (by omega)
      have HR : Hid (z = s.length) := Lib.hid (by rw [hw.out, List.drop_length]; rfl)
      go_wp2_with fail
      go_ret
      exact ⟨ret_int (by rw [HR.out]), rfl⟩
    have d1 : decide ((i : Int) < (s.length : Int)) = true := decide_eq_true (by omega)
    have d1' : decide (i < s.length) = true := decide_eq_true hlt
    have hix := fun W => run_index_str W s i hlt
    have hdr := List.drop_eq_getElem_cons hlt
    have hcl := u8_lt s[i]
    obtain ⟨c, hc⟩ : ∃ c, s[i] = c := ⟨_, rfl⟩
    rw [hc] at hix hdr hcl
    have FC := Lib.hid (fun W => follows_c W c.toNat hcl)
    have hfn := fol_n c
    obtain ⟨x, hx⟩ : ∃ x, c.toNat = x := ⟨_, rfl⟩
    have h46 := eq46 c
    rw [hx] at hix FC hfn hcl h46
    have HDR := Lib.hid hdr
    have H46 := Lib.hid h46
    have HFN := Lib.hid hfn
    clear hc hdr h46 hfn hx
    cases hf : folN x with
    | true =>
      rw [hf] at HFN
      have HW : Hid (z = i + 1 + wEnd (s.drop (i + 1))) := Lib.hid (by rw [hw.out, HDR.out, wEnd_f HFN.out]; omega)
      rw [hf] at FC
      clear hf
      go_wp2_with fail
      refine (FC.out _).mono ?_
      rintro e w' ⟨rfl, rfl⟩
      go_wp2_with fail
      go_round
      case rel => exact ⟨i + 1, by omega, by omega, by go_num, HW.out⟩
      case measure => simp [intOf]; omega
    | false =>
      rw [hf] at HFN FC
      clear hf
      by_cases h46 : x = 46
      case neg =>
        have HW : Hid (z = i) := Lib.hid (by rw [hw.out, HDR.out, wEnd_n HFN.out (by rw [H46.out]; exact decide_eq_false h46)]; rfl)
        have e1 : ((x : Int) == 46) = false := beq_eq_false_iff_ne.2 (by omega)
        have e1' : decide (x = 46) = false := decide_eq_false h46
        go_wp2_with fail
        refine (FC.out _).mono ?_
        rintro e w' ⟨rfl, rfl⟩
        go_wp2_with fail
        go_ret
        exact ⟨ret_int (by rw [HW.out]), rfl⟩
      have H46' : Hid ((c == 46) = true) := Lib.hid (by rw [H46.out]; exact decide_eq_true h46)
      subst h46
      by_cases hlt2 : i + 1 < s.length
      case neg =>
        have hdr2 : s.drop (i + 1) = [] := List.drop_eq_nil_of_le (by omega)
        have HW : Hid (z = i) := Lib.hid (by rw [hw.out, HDR.out, hdr2, wEnd_1 HFN.out]; rfl)
        have e1 : decide ((i : Int) + 1 < (s.length : Int)) = false := decide_eq_false (by omega)
        have e1' : decide (i + 1 < s.length) = false := decide_eq_false hlt2
        clear hdr2
        go_wp2_with fail
        refine (FC.out _).mono ?_
        rintro e w' ⟨rfl, rfl⟩
        go_wp2_with fail
        go_ret
        exact ⟨ret_int (by rw [HW.out]), rfl⟩
      have e1 : decide ((i : Int) + 1 < (s.length : Int)) = true := decide_eq_true (by omega)
      have e1' : decide (i + 1 < s.length) = true := decide_eq_true hlt2
      have hiy : ∀ W, (Instr.index 9 (.string (strOf s)) (.int .i64 ((i : Int) + 1))).run Tryd.prog W = .ok (.int .u8 ((s[i + 1]).toNat : Nat)) W := fun W => run_index_str W s (i + 1) hlt2
      have hdr2 := List.drop_eq_getElem_cons hlt2
      have hcl2 := u8_lt s[i + 1]
      obtain ⟨d, hd⟩ : ∃ d, s[i + 1] = d := ⟨_, rfl⟩
      rw [hd] at hiy hdr2 hcl2
      have FD := Lib.hid (fun W => follows_c W d.toNat hcl2)
      have hfd := fol_n d
      have h45 := eq45 d
      obtain ⟨y, hy⟩ : ∃ y, d.toNat = y := ⟨_, rfl⟩
      rw [hy] at hiy FD hfd hcl2 h45
      have HDR2 : Hid (s.drop i = c :: d :: s.drop (i + 2)) := Lib.hid (by rw [HDR.out, hdr2])
      have H45 := Lib.hid h45
      have HFD := Lib.hid hfd
      clear hd hdr2 h45 hfd hy
      by_cases h45 : y = 45
      case pos =>
        have HW : Hid (z = i) := Lib.hid (by rw [hw.out, HDR2.out, wEnd_2 HFN.out (.inl (by rw [H45.out]; exact decide_eq_true h45))]; rfl)
        subst h45
        go_wp2_with fail
        refine (FC.out _).mono ?_
        rintro e w' ⟨rfl, rfl⟩
        go_wp2_with fail
        go_ret
        exact ⟨ret_int (by rw [HW.out]), rfl⟩
      have e2 : ((y : Int) == 45) = false := beq_eq_false_iff_ne.2 (by omega)
      have e2' : ((y : Int) != 45) = true := bne_iff_ne.2 (by omega)
      have e2'' : decide (y = 45) = false := decide_eq_false h45
      cases hf : folN y with
      | true =>
        rw [hf] at HFD FD
        have HW : Hid (z = i + 2 + wEnd (s.drop (i + 2))) := Lib.hid (by rw [hw.out, HDR2.out, wEnd_3 HFN.out H46'.out (by rw [H45.out]; exact decide_eq_false h45) HFD.out]; omega)
        clear hf h45
        go_wp2_with fail
        refine (FC.out _).mono ?_
        rintro e w' ⟨rfl, rfl⟩
        go_wp2_with fail
        refine (FD.out _).mono ?_
        rintro e w' ⟨rfl, rfl⟩
        go_wp2_with fail
        go_round
        case rel => exact ⟨i + 2, by omega, by omega, by go_num, HW.out⟩
        case measure => simp [intOf]; omega
      | false =>
        rw [hf] at HFD FD
        have HW : Hid (z = i) := Lib.hid (by rw [hw.out, HDR2.out, wEnd_2 HFN.out (.inr HFD.out)]; rfl)
        clear hf h45
        go_wp2_with fail
        refine (FC.out _).mono ?_
        rintro e w' ⟨rfl, rfl⟩
        go_wp2_with fail
        refine (FD.out _).mono ?_
        rintro e w' ⟨rfl, rfl⟩
        go_wp2_with fail
        go_ret
        exact ⟨ret_int (by rw [HW.out]), rfl⟩
theorem endOk_c' {b : UInt8} {r : List UInt8} : endOk (b :: r) = (!fol b && b != 46) := rfl
set_option maxRecDepth 100000 in
set_option maxHeartbeats 4000000 in
theorem ends_c (w : World) (p at_ n : Nat) (s : List UInt8) (hs : s.length ≤ 1000000000) (hp : Blk w p 45 (xcs s at_)) (h : at_ + n ≤ s.length) : Calls Tryd.prog 55 #[.pointer (some ⟨p, 0, none⟩), .int .i64 (n : Int)] w fun e w' => e = .returned (.bool (endOk (s.drop (at_ + n)))) ∧ w = w' := by
  have hsz := strOf_size s
  have c0 : w.cell? ⟨p, 0, none⟩ = some (.string (strOf s)) := hp.cell 0
  have c1 : w.cell? ⟨p, 1, none⟩ = some (.int .i64 (at_ : Nat)) := hp.cell 1
  obtain ⟨z, hz⟩ : ∃ z, endOk (s.drop (at_ + n)) = z := ⟨_, rfl⟩
  rw [hz]
  have HZ := Lib.hid hz
  clear hz hp
  by_cases hlt : at_ + n < s.length
  case neg =>
    have hj : at_ + n = s.length := by omega
    have HR : Hid (z = true) := Lib.hid (by rw [← HZ.out, List.drop_eq_nil_of_le (by omega)]; rfl)
    have e1 : ((at_ : Int) + (n : Int) == (s.length : Int)) = true := beq_iff_eq.2 (by omega)
    have e1' : decide (at_ + n = s.length) = true := decide_eq_true hj
    have e1'' : (at_ : Int) + (n : Int) = (s.length : Int) := by omega
    go_enter Tryd.func55, Tryd.ntmps55
    go_wp2_with fail
    go_ret
    exact ⟨ret_bool HR.out.symm, rfl⟩
  have e1 : ((at_ : Int) + (n : Int) == (s.length : Int)) = false := beq_eq_false_iff_ne.2 (by omega)
  have e1' : ¬ ((at_ : Int) + (n : Int) = (s.length : Int)) := by omega
  have e1'' : decide (at_ + n = s.length) = false := decide_eq_false (by omega)
  have hix : ∀ W, (Instr.index 9 (.string (strOf s)) (.int .i64 ((at_ : Int) + (n : Int)))).run Tryd.prog W = .ok (.int .u8 ((s[at_ + n]).toNat : Nat)) W := fun W => run_index_str W s (at_ + n) hlt
  have hdr := List.drop_eq_getElem_cons hlt
  have hcl := u8_lt s[at_ + n]
  obtain ⟨c, hc⟩ : ∃ c, s[at_ + n] = c := ⟨_, rfl⟩
  rw [hc] at hix hdr hcl
  have FC := Lib.hid (fun W => follows_c W c.toNat hcl)
  have hfn := fol_n c
  have h46 := eq46 c
  obtain ⟨x, hx⟩ : ∃ x, c.toNat = x := ⟨_, rfl⟩
  rw [hx] at hix FC hfn hcl h46
  have HV : Hid (z = (!folN x && !decide (x = 46))) := Lib.hid (by rw [← HZ.out, hdr, endOk_c', hfn, bne, h46])
  clear hc hdr h46 hfn hx
  cases hf : folN x with
  | true =>
    have HW : Hid (z = false) := Lib.hid (by rw [HV.out, hf]; rfl)
    rw [hf] at FC
    clear hf
    go_enter Tryd.func55, Tryd.ntmps55
    go_wp2_with fail
    refine (FC.out _).mono ?_
    rintro e w' ⟨rfl, rfl⟩
    go_wp2_with fail
    go_ret
    exact ⟨ret_bool HW.out.symm, rfl⟩
  | false =>
    rw [hf] at FC
    by_cases h46 : x = 46
    · have HW : Hid (z = false) := Lib.hid (by rw [HV.out, h46]; simp)
      subst h46
      clear hf
      go_enter Tryd.func55, Tryd.ntmps55
      go_wp2_with fail
      refine (FC.out _).mono ?_
      rintro e w' ⟨rfl, rfl⟩
      go_wp2_with fail
      go_ret
      exact ⟨ret_bool HW.out.symm, rfl⟩
    · have HW : Hid (z = true) := Lib.hid (by rw [HV.out, hf, decide_eq_false h46]; rfl)
      have e2 : ((x : Int) == 46) = false := beq_eq_false_iff_ne.2 (by omega)
      have e2' : ((x : Int) != 46) = true := bne_iff_ne.2 (by omega)
      have e2'' : decide (x = 46) = false := decide_eq_false h46
      clear hf
      go_enter Tryd.func55, Tryd.ntmps55
      go_wp2_with fail
      refine (FC.out _).mono ?_
      rintro e w' ⟨rfl, rfl⟩
      go_wp2_with fail
      go_ret
      exact ⟨ret_bool HW.out.symm, rfl⟩
end Go.Proofs.YtimopkmlcjdgfaaDoor
