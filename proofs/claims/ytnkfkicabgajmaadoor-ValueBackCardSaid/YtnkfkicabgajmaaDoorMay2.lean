/-
  CONTRACT of value.rising.
-/
import Derived.Test.YtnkfkicabgajmaaDoorMay
namespace Go.Proofs.YtnkfkicabgajmaaDoor
set_option linter.unusedSimpArgs false
set_option linter.unusedVariables false
open Go Go.RowKit

theorem riseAt_zero {ks : List (List UInt8)} (h : 0 < ks.length) : riseAt ks 0 = keyOk ks[0] := by
  unfold riseAt
  simp [h]
theorem riseAt_succ {ks : List (List UInt8)} {j : Nat} (h : j + 1 < ks.length) : riseAt ks (j + 1) = (keyOk ks[j + 1] && kl ks[j] ks[j + 1]) := by
  unfold riseAt
  rw [kl_cmpT]
  simp [h, show j < ks.length by omega]
set_option maxRecDepth 100000 in
set_option maxHeartbeats 1000000 in
theorem rising_c (w : World) {A : Option Addr} {ks : List (List UInt8)} (ck : Nat) (hr : Rd w A ks.length (strs ks)) (hk : ks.length ≤ 140737488355328) (hs : ∀ s ∈ ks, s.length ≤ 140737488355328) :
    Calls Tryd.prog 18 #[.slice A ks.length ck] w fun e w' => e = .returned (.bool (rising ks)) ∧ Fr (fun _ => False) w w' := by
  have HR := Lib.hid hr
  have HS := Lib.hid hs
  clear hr hs
  go_enter Tryd.func18, Tryd.ntmps18
  go_wp2_with fail
  go_loopw [7] (fun iv wr => ∃ i : Nat, i ≤ ks.length ∧ iv = .int .i64 (i : Int) ∧ Hid (∀ j, j < ks.length → j < i → riseAt ks j = true) ∧ Hid (Fr (fun _ => False) w wr)) (fun iv _ => ks.length - (intOf iv).toNat)
  case atStart => exact ⟨0, Nat.zero_le _, rfl, fun j h h' => by omega, Fr.refl _ _⟩
  case round =>
    obtain ⟨i, hi, rfl, hp, hf⟩ := hrel
    by_cases hlt : i < ks.length
    case neg =>
      obtain rfl : i = ks.length := by omega
      have hdl : decide ((ks.length : Int) < (ks.length : Int)) = false := decide_eq_false (by omega)
      have hdl' : decide (ks.length < ks.length) = false := decide_eq_false (by omega)
      have HY := Lib.hid ((rising_iff ks).2 fun j h => hp.out j h h)
      go_wp2_with fail
      go_ret
      exact ⟨ret_bool HY.out.symm, hf.out⟩
    have hdl : decide ((i : Int) < (ks.length : Int)) = true := decide_eq_true (by omega)
    have hdl' : decide (i < ks.length) = true := decide_eq_true hlt
    have hrw := HR.out.far hf.out
    obtain ⟨b, off, hA, -⟩ := hrw.lit (by omega)
    subst hA
    have hc : wr.cell? ⟨b, off + i, none⟩ = some (.string (strOf ks[i])) := by rw [hrw.cell hlt, strs_get ks i hlt]
    have MK := Lib.hid (mayKey_c wr ks[i] (HS.out _ (List.getElem_mem hlt)))
    obtain ⟨z, hz⟩ : ∃ z, keyOk ks[i] = z := ⟨_, rfl⟩
    rw [hz] at MK
    have HZ := Lib.hid hz
    have HRW := Lib.hid hrw
    clear hz hrw
    cases z with
    | false =>
      have hno : rising ks = false := rising_no hlt (by unfold riseAt; simp [hlt, HZ.out])
      have HN := Lib.hid hno
      clear hno
      go_wp2_with fail
      refine MK.out.mono ?_
      rintro e w2 ⟨rfl, f2⟩
      have F2 := Lib.hid (hf.out.trans f2 (fun _ _ h => h))
      clear f2
      go_wp2_with fail
      go_ret
      exact ⟨ret_bool HN.out.symm, F2.out⟩
    | true =>
      rcases i with _ | j
      · have hc0 : wr.cell? ⟨b, off, none⟩ = some (.string (strOf ks[0])) := hc
        go_wp2_with fail
        refine MK.out.mono ?_
        rintro e w2 ⟨rfl, f2⟩
        have F2 := Lib.hid (hf.out.trans f2 (fun _ _ h => h))
        clear f2
        go_wp2_with fail
        go_roundw
        case rel => exact ⟨1, by omega, by first | rfl | go_num, fun j h h' => by
          obtain rfl : j = 0 := by omega
          rw [riseAt_zero h]; exact HZ.out, F2.out⟩
        case measure => simp [intOf]; omega
      · have hj : j < ks.length := by omega
        have hcj : wr.cell? ⟨b, off + j, none⟩ = some (.string (strOf ks[j])) := by rw [HRW.out.cell hj, strs_get ks j hj]
        have d0 : decide (0 < ((j : Int) + 1)) = true := decide_eq_true (by omega)
        go_wp2_with fail
        refine MK.out.mono ?_
        rintro e w2 ⟨rfl, f2⟩
        have F2 := Lib.hid (hf.out.trans f2 (fun _ _ h => h))
        have hcj2 := cell_far hcj f2
        clear f2 hcj
        obtain ⟨z, hz⟩ : ∃ z, kl ks[j] ks[j + 1] = z := ⟨_, rfl⟩
        have hbl : Op.bytesLess (strOf ks[j]).toList (strOf ks[j + 1]).toList = z := by rw [strOf_toList, strOf_toList]; exact hz
        have HK := Lib.hid hz
        clear hz
        cases z with
        | true =>
          go_wp2_with fail
          go_roundw
          case rel => exact ⟨j + 1 + 1, by omega, by go_num, fun q h h' => by
            rcases Nat.lt_or_ge q (j + 1) with hq | hq
            · exact hp.out q h hq
            · obtain rfl : q = j + 1 := by omega
              rw [riseAt_succ hlt, HZ.out, HK.out]; rfl, F2.out⟩
          case measure => simp [intOf]; omega
        | false =>
          have hno : rising ks = false := rising_no hlt (by rw [riseAt_succ hlt, HK.out]; simp)
          have HN := Lib.hid hno
          clear hno
          go_wp2_with fail
          go_ret
          exact ⟨ret_bool HN.out.symm, F2.out⟩
end Go.Proofs.YtnkfkicabgajmaaDoor
