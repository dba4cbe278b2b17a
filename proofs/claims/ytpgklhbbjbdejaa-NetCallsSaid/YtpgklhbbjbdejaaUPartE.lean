/-
  CONTRACT of partitionEqualOrdered at uint64. Written by gen_u2.py.
-/
import Derived.Test.YtpgklhbbjbdejaaUPart
import Derived.Deep.CutRange
namespace Go.Proofs.Ytpgklhbbjbdejaa
set_option linter.unusedSimpArgs false
set_option linter.unusedVariables false
open Go Go.RowKit Go.Sort

set_option maxRecDepth 100000 in
set_option maxHeartbeats 8000000 in
theorem partE_c (w : World) (g c a b p : Nat) (d : Array Nat) (rest : List Value) (hR : RowU w g d rest) (hap : a ≤ p) (hpb : p < b) (hb : b ≤ d.size) (hsz : d.size ≤ 1000000) :
    Calls Try.prog 48 #[.slice (some ⟨g, 0, none⟩) d.size c, .int .i64 a, .int .i64 b, .int .i64 p] w fun e w' => e = .returned (.int .i64 ((partitionEqual lt6 d a b p).1 : Nat)) ∧ Now w g rest d.size w' (partitionEqual lt6 d a b p).2 := by
  obtain ⟨n, hn⟩ : ∃ n, d.size = n := ⟨_, rfl⟩
  have N1 : Hid (Now w g rest n w d) := hn ▸ Now.start hR
  rw [hn] at hb hsz ⊢
  clear hR hn
  obtain ⟨b1, eb⟩ : ∃ b1, b1 = b - 1 := ⟨_, rfl⟩
  obtain ⟨a1, ea⟩ : ∃ a1, a1 = a + 1 := ⟨_, rfl⟩
  have i0 : (b : Int) - 1 = (b1 : Int) := by omega
  have i1 : (a : Int) + 1 = (a1 : Int) := by omega
  have ha1 : a < a1 ∧ a1 ≤ b1 + 2 ∧ b1 < b ∧ a ≤ b1 := by omega
  obtain ⟨ha1, ha2, ha3, ha4⟩ := ha1
  obtain ⟨Q, hQ⟩ : ∃ Q, partitionEqual lt6 d a b p = Q := ⟨_, rfl⟩
  obtain ⟨d1, hd1⟩ : ∃ d1, swp d a p = d1 := ⟨_, rfl⟩
  have HQ : Hid (partEqLoop lt6 a a1 b1 d1 = Q) := by
    rw [← hQ]
    unfold partitionEqual
    rw [hd1, eb, ea]
    exact rfl
  rw [hQ]
  have HD1 := Lib.hid hd1
  clear hQ hd1 ea eb
  go_enter Try.func48, Try.ntmps48
  go_wp2_with fail
  go_cut [] from 11 to 24 (fun wx => Hid (Now w g rest n wx (swp d a p)))
  case first =>
    have k1 : (a : Int) < n := by omega
    have k2 : (p : Int) < n := by omega
    have l1 : a < n := by omega
    have l2 : p < n := by omega
    obtain ⟨G, hG⟩ : ∃ G : Nat → Nat, ∀ t, d[t]! = G t := ⟨fun t => d[t]!, fun _ => rfl⟩
    have hcw := N1.out.cells
    have hfw := N1.out.froz
    simp only [hG] at hcw
    have HG := Lib.hid hG
    clear hG
    by_cases hxy : a = p
    · subst hxy
      go_region
      all_goals go_wp2_with fail
      all_goals go_meet
      all_goals exact (by have h := (N1.out.drew).swp (i := a) (j := a) (by omega) (by omega); simp only [HG.out] at h; exact h)
    · have n1 : ¬ (a = p) := hxy
      have n2 : ¬ (p = a) := fun h => hxy h.symm
      clear hxy
      go_region
      all_goals go_wp2_with fail
      all_goals go_meet
      all_goals exact (by have h := (N1.out.drew).swp (i := a) (j := p) (by omega) (by omega); simp only [HG.out] at h; exact h)
  case rest =>
    have N1 := hcut
    clear hcut
    rw [HD1.out] at N1
    go_wp2_with fail
    clear i0 i1
    go_loopw [9, 10] (fun vi vj wr => ∃ (i j : Nat) (dk : Array Nat), vi = .int .i64 i ∧ vj = .int .i64 j ∧ a < i ∧ j < b ∧ i ≤ j + 2 ∧ a ≤ j ∧ Hid (Now w g rest n wr dk) ∧ Hid (partEqLoop lt6 a i j dk = Q)) (fun vi vj _ => (intOf vj + 3 - intOf vi).toNat)
    case atStart => exact ⟨a1, b1, d1, rfl, rfl, ha1, ha3, ha2, ha4, N1, HQ⟩
    case round =>
      obtain ⟨I, J, dk, rfl, rfl, hIa, hJb, hIJ, hJa, N1, HS⟩ := hrel
      obtain ⟨i2, hI⟩ : ∃ I9, scanUp (fun x => !lt6 dk[a]! x) dk J I = I9 := ⟨_, rfl⟩
      obtain ⟨j2, hJ⟩ : ∃ J9, scanDown (fun x => lt6 dk[a]! x) dk i2 J = J9 := ⟨_, rfl⟩
      have HL : Hid (Q = if i2 > j2 then (i2, dk) else partEqLoop lt6 a (i2 + 1) (j2 - 1) (swp dk i2 j2)) := by rw [← HS.out, partEqLoop_eq]; simp only [hI, hJ]; first | exact trivial | exact rfl
      have HI := Lib.hid hI
      have HJ := Lib.hid hJ
      clear hI hJ
      go_step
      go_step
      go_step
      go_cut [9] from 29 to 45 (fun vi wx => (vi = .int .i64 (i2 : Nat)) ∧ I ≤ i2 ∧ i2 ≤ J + 2 ∧ Hid (Now w g rest n wx dk))
      case first =>
        go_step
        go_loopw [9] (fun vi wr => ∃ i : Nat, vi = .int .i64 i ∧ I ≤ i ∧ i ≤ J + 2 ∧ Hid (Now w g rest n wr dk) ∧ Hid (scanUp (fun x => !lt6 dk[a]! x) dk J i = i2)) (fun vi _ => J + 2 - (intOf vi).toNat)
        case atStart => exact ⟨I, rfl, Nat.le_refl _, by omega, N1, HI.out⟩
        case round =>
          obtain ⟨i, rfl, hb1, hb2, N2, HS⟩ := hrel
          obtain ⟨G, hG⟩ : ∃ G : Nat → Nat, ∀ t, dk[t]! = G t := ⟨fun t => dk[t]!, fun _ => rfl⟩
          have hcw := N2.out.cells
          simp only [hG] at hcw
          have HG := Lib.hid hG
          clear hG
          by_cases hle : i ≤ J
          · have hdl : decide ((i : Int) ≤ (J : Int)) = true := decide_eq_true (by omega)
            have k1 : (i : Int) < n := by omega
            have l1 : i < n := by omega
            have k2 : (a : Int) < n := by omega
            have l2 : a < n := by omega
            go_wp2_with fail
            go_quiet (first | (go_at_call 47; refine Calls.quiet_of_same (less_c _ _ _)))
            cases hl : lt6 (G a) (G i) with
            | false =>
              have hc : (decide (i ≤ J) && !lt6 (G a) (G i)) = true := by rw [decide_eq_true hle, hl]; rfl
              go_wp2_with fail
              go_roundw
              case rel => exact ⟨i + 1, by go_num, by omega, by omega, N2.out.drewN nq, by rw [← HS.out]; exact (su_step _ _ _ _ (by rw [HG.out, HG.out]; exact hc)).symm⟩
              case measure => simp [intOf]; omega
            | true =>
              have hc : (decide (i ≤ J) && !lt6 (G a) (G i)) = false := by rw [hl]; exact Bool.and_false _
              go_wp2_with fail
              go_meet
              have hx : i2 = i := HS.out.symm.trans (su_end _ _ _ _ (by rw [HG.out, HG.out]; exact hc))
              rw [hx]
              exact ⟨rfl, by omega, by omega, N2.out.drewN nq⟩
          · have hdl : decide ((i : Int) ≤ (J : Int)) = false := decide_eq_false (by omega)
            go_wp2_with fail
            go_quiet (first | (go_at_call 47; refine Calls.quiet_of_same (less_c _ _ _)))
            go_wp2_with fail
            go_meet
            have hx : i2 = i := HS.out.symm.trans (su_end _ _ _ _ (by rw [decide_eq_false hle]; rfl))
            rw [hx]
            exact ⟨rfl, by omega, by omega, N2.out.drewN nq⟩
      case rest =>
        obtain ⟨rfl, hI1, hI2, N1⟩ := hcut
        clear HI
        have HI := HJ
        have hIa : a < i2 := by omega
        go_step
        go_step
        go_cut [10] from 46 to 61 (fun vi wx => (vi = .int .i64 (j2 : Nat)) ∧ j2 ≤ J ∧ i2 ≤ j2 + 2 ∧ a ≤ j2 ∧ Hid (Now w g rest n wx dk))
        case first =>
          go_step
          go_loopw [10] (fun vi wr => ∃ j : Nat, vi = .int .i64 j ∧ j ≤ J ∧ i2 ≤ j + 2 ∧ a ≤ j ∧ Hid (Now w g rest n wr dk) ∧ Hid (scanDown (fun x => lt6 dk[a]! x) dk i2 j = j2)) (fun vi _ => (intOf vi).toNat)
          case atStart => exact ⟨J, rfl, Nat.le_refl _, by omega, by omega, N1, HI.out⟩
          case round =>
            obtain ⟨j, rfl, hb1, hb2, hb3, N2, HS⟩ := hrel
            obtain ⟨G, hG⟩ : ∃ G : Nat → Nat, ∀ t, dk[t]! = G t := ⟨fun t => dk[t]!, fun _ => rfl⟩
            have hcw := N2.out.cells
            simp only [hG] at hcw
            have HG := Lib.hid hG
            clear hG
            by_cases hle : i2 ≤ j
            · have hdl : decide ((i2 : Int) ≤ (j : Int)) = true := decide_eq_true (by omega)
              have k1 : (j : Int) < n := by omega
              have l1 : j < n := by omega
              have k2 : (a : Int) < n := by omega
              have l2 : a < n := by omega
              go_wp2_with fail
              go_quiet (first | (go_at_call 47; refine Calls.quiet_of_same (less_c _ _ _)))
              cases hl : lt6 (G a) (G j) with
              | true =>
                have hc : (decide (i2 ≤ j) && lt6 (G a) (G j)) = true := by rw [decide_eq_true hle, hl]; rfl
                go_wp2_with fail
                go_roundw
                case rel => exact ⟨j - 1, by congr 1; omega, by omega, by omega, by omega, N2.out.drewN nq, by rw [← HS.out]; exact (sd_step _ _ _ _ (by omega) (by rw [HG.out, HG.out]; exact hc)).symm⟩
                case measure => simp [intOf]; omega
              | false =>
                have hc : (decide (i2 ≤ j) && lt6 (G a) (G j)) = false := by rw [hl]; exact Bool.and_false _
                go_wp2_with fail
                go_meet
                have hx : j2 = j := HS.out.symm.trans (sd_end _ _ _ _ (by rw [HG.out, HG.out]; exact hc))
                rw [hx]
                exact ⟨rfl, by omega, by omega, by omega, N2.out.drewN nq⟩
            · have hdl : decide ((i2 : Int) ≤ (j : Int)) = false := decide_eq_false (by omega)
              go_wp2_with fail
              go_quiet (first | (go_at_call 47; refine Calls.quiet_of_same (less_c _ _ _)))
              go_wp2_with fail
              go_meet
              have hx : j2 = j := HS.out.symm.trans (sd_end _ _ _ _ (by rw [decide_eq_false hle]; rfl))
              rw [hx]
              exact ⟨rfl, by omega, by omega, by omega, N2.out.drewN nq⟩
        case rest =>
          obtain ⟨rfl, hI1, hI2, hI3, N1⟩ := hcut
          clear HI HJ
          by_cases hij : j2 < i2
          · have hdl : decide ((j2 : Int) < (i2 : Int)) = true := decide_eq_true (by omega)
            have HL2 : Hid (Q = (i2, dk)) := by have h := HL.out; rw [if_pos hij] at h; exact h
            clear HL
            go_wp2_with fail
            go_ret
            rw [HL2.out]
            exact ⟨rfl, N1.out⟩
          · have hdl : decide ((j2 : Int) < (i2 : Int)) = false := decide_eq_false (by omega)
            have HL2 : Hid (Q = partEqLoop lt6 a (i2 + 1) (j2 - 1) (swp dk i2 j2)) := by have h := HL.out; rw [if_neg hij] at h; exact h
            clear HL
            have hJb2 : j2 < b := by omega
            have hb7 : i2 ≤ 1000000 := by omega
            go_wp2_with fail
            go_cut [] from 65 to 78 (fun wx => Hid (Now w g rest n wx (swp dk i2 j2)))
            case first =>
              have k1 : (i2 : Int) < n := by omega
              have k2 : (j2 : Int) < n := by omega
              have l1 : i2 < n := by omega
              have l2 : j2 < n := by omega
              obtain ⟨G, hG⟩ : ∃ G : Nat → Nat, ∀ t, dk[t]! = G t := ⟨fun t => dk[t]!, fun _ => rfl⟩
              have hcw := N1.out.cells
              have hfw := N1.out.froz
              simp only [hG] at hcw
              have HG := Lib.hid hG
              clear hG
              by_cases hxy : i2 = j2
              · subst hxy
                go_region
                all_goals go_wp2_with fail
                all_goals go_meet
                all_goals exact (by have h := (N1.out.drew).swp (i := i2) (j := i2) (by omega) (by omega); simp only [HG.out] at h; exact h)
              · have n1 : ¬ (i2 = j2) := hxy
                have n2 : ¬ (j2 = i2) := fun h => hxy h.symm
                clear hxy
                go_region
                all_goals go_wp2_with fail
                all_goals go_meet
                all_goals exact (by have h := (N1.out.drew).swp (i := i2) (j := j2) (by omega) (by omega); simp only [HG.out] at h; exact h)
            case rest =>
              have N1 := hcut
              clear hcut
              go_wp2_with fail
              go_roundw
              case rel => exact ⟨i2 + 1, j2 - 1, swp dk i2 j2, by go_num, by congr 1; omega, by omega, by omega, by omega, by omega, N1, by rw [HL2.out]; exact rfl⟩
              case measure => simp [intOf]; omega
end Go.Proofs.Ytpgklhbbjbdejaa
