/-
  CONTRACT of partitionOrdered at uint64. Written by gen_u2.py.
-/
import Derived.Test.YtpgklhbbjbdejaaU
import Derived.Deep.CutRange
namespace Go.Proofs.Ytpgklhbbjbdejaa
set_option linter.unusedSimpArgs false
set_option linter.unusedVariables false
open Go Go.RowKit Go.Sort

section
variable {α : Type} [Inhabited α] (p : α → Bool) (d : Array α)
theorem su_end (j i : Nat) (h : (decide (i ≤ j) && p d[i]!) = false) : scanUp p d j i = i := by rw [scanUp, h]; rfl
theorem su_step (j i : Nat) (h : (decide (i ≤ j) && p d[i]!) = true) : scanUp p d j i = scanUp p d j (i + 1) := by
  conv => lhs; rw [scanUp, h]
  rfl
theorem sd_end (i j : Nat) (h : (decide (i ≤ j) && p d[j]!) = false) : scanDown p d i j = j := by
  cases j with
  | zero => rw [scanDown]
  | succ j => rw [scanDown, h]; rfl
theorem sd_step (i j : Nat) (hj : 1 ≤ j) (h : (decide (i ≤ j) && p d[j]!) = true) : scanDown p d i j = scanDown p d i (j - 1) := by
  cases j with
  | zero => omega
  | succ j =>
    conv => lhs; rw [scanDown, h]
    rfl
end
/-- What is between the swap and the end of a scan. -/
def Fam (w : World) (g n : Nat) (G : Nat → Nat) : Prop := (∀ t, t < n → w.cell? ⟨g, t, none⟩ = some (eU (G t))) ∧ ∀ t, t < n → w.frozen? ⟨g, t, none⟩ = false
set_option maxRecDepth 100000 in
set_option maxHeartbeats 8000000 in
theorem part_c (w : World) (g c a b p : Nat) (d : Array Nat) (rest : List Value) (hR : RowU w g d rest) (hap : a ≤ p) (hpb : p < b) (hb : b ≤ d.size) (hsz : d.size ≤ 1000000) :
    Calls Try.prog 49 #[.slice (some ⟨g, 0, none⟩) d.size c, .int .i64 a, .int .i64 b, .int .i64 p] w fun e w' => e = .returned (.tuple #[.int .i64 ((partition lt6 d a b p).1 : Nat), .bool (partition lt6 d a b p).2.1]) ∧ Now w g rest d.size w' (partition lt6 d a b p).2.2 := by
  obtain ⟨n, hn⟩ : ∃ n, d.size = n := ⟨_, rfl⟩
  have N1 : Hid (Now w g rest n w d) := hn ▸ Now.start hR
  rw [hn] at hb hsz ⊢
  clear hR hn
  obtain ⟨b1, eb⟩ : ∃ b1, b1 = b - 1 := ⟨_, rfl⟩
  obtain ⟨a1, ea⟩ : ∃ a1, a1 = a + 1 := ⟨_, rfl⟩
  have i0 : (b : Int) - 1 = (b1 : Int) := by omega
  have i1 : (a : Int) + 1 = (a1 : Int) := by omega
  have ha1 : a < a1 ∧ a1 ≤ b1 + 1 ∧ b1 < b ∧ a ≤ b1 := by omega
  obtain ⟨ha1, ha2, ha3, ha4⟩ := ha1
  obtain ⟨R, hR⟩ : ∃ R, partition lt6 d a b p = R := ⟨_, rfl⟩
  obtain ⟨d1, hd1⟩ : ∃ d1, swp d a p = d1 := ⟨_, rfl⟩
  obtain ⟨I, hI⟩ : ∃ I, scanUp (fun x => lt6 x d1[a]!) d1 b1 a1 = I := ⟨_, rfl⟩
  obtain ⟨J, hJ⟩ : ∃ J, scanDown (fun x => !lt6 x d1[a]!) d1 I b1 = J := ⟨_, rfl⟩
  have HR : Hid (R = if I > J then (J, true, swp d1 J a) else ((partLoop lt6 a (I + 1) (J - 1) (swp d1 I J)).1, false, swp (partLoop lt6 a (I + 1) (J - 1) (swp d1 I J)).2 (partLoop lt6 a (I + 1) (J - 1) (swp d1 I J)).1 a)) := by
    rw [← hR]
    unfold partition
    simp only [hd1, ← eb, ← ea, hI, hJ]
    first | exact trivial | exact rfl
  rw [hR]
  have HD1 := Lib.hid hd1
  have HI := Lib.hid hI
  have HJ := Lib.hid hJ
  have EAB := Lib.hid (And.intro ea eb)
  clear hR hd1 hI hJ ea eb
  go_enter Try.func49, Try.ntmps49
  go_wp2_with fail
  go_cut [] from 12 to 25 (fun wx => Hid (Now w g rest n wx (swp d a p)))
  case first =>
    have k1 : (a : Int) < n := by omega
    have k2 : (p : Int) < n := by omega
    have l1 : a < n := by omega
    have l2 : p < n := by omega
    obtain ⟨G, hG⟩ : ∃ G : Nat → Nat, ∀ t, d[t]! = G t := ⟨fun t => d[t]!, fun _ => rfl⟩
    have hcw := N1.out.cells
    have hfw := N1.out.froz
    simp only [hG] at hcw
    have HG := Lib.hid hG
    clear hG
    by_cases hxy : a = p
    · subst hxy
      go_region
      all_goals go_wp2_with fail
      all_goals go_meet
      all_goals exact (by have h := (N1.out.drew).swp (i := a) (j := a) (by omega) (by omega); simp only [HG.out] at h; exact h)
    · have n1 : ¬ (a = p) := hxy
      have n2 : ¬ (p = a) := fun h => hxy h.symm
      clear hxy
      go_region
      all_goals go_wp2_with fail
      all_goals go_meet
      all_goals exact (by have h := (N1.out.drew).swp (i := a) (j := p) (by omega) (by omega); simp only [HG.out] at h; exact h)
  case rest =>
    have N1 := hcut
    clear hcut
    rw [HD1.out] at N1
    go_upto_region 2 with fail
    go_cut [10, 11] from 26 to 29 (fun vi vj wx => vi = .int .i64 (a1 : Nat) ∧ vj = .int .i64 (b1 : Nat) ∧ Hid (Now w g rest n wx d1))
    case first =>
      go_wp2_with fail
      go_meet
      exact ⟨rfl, rfl, N1⟩
    case rest =>
      obtain ⟨rfl, rfl, N1⟩ := hcut
      go_step
      go_step
      go_cut [10] from 30 to 45 (fun vi wx => (vi = .int .i64 (I : Nat)) ∧ a1 ≤ I ∧ I ≤ b1 + 1 ∧ Hid (Now w g rest n wx d1))
      case first =>
        go_step
        go_loopw [10] (fun vi wr => ∃ i : Nat, vi = .int .i64 i ∧ a1 ≤ i ∧ i ≤ b1 + 1 ∧ Hid (Now w g rest n wr d1) ∧ Hid (scanUp (fun x => lt6 x d1[a]!) d1 b1 i = I)) (fun vi _ => b1 + 2 - (intOf vi).toNat)
        case atStart => exact ⟨a1, rfl, Nat.le_refl _, by omega, N1, HI.out⟩
        case round =>
          obtain ⟨i, rfl, hb1, hb2, N2, HS⟩ := hrel
          obtain ⟨G, hG⟩ : ∃ G : Nat → Nat, ∀ t, d1[t]! = G t := ⟨fun t => d1[t]!, fun _ => rfl⟩
          have hcw := N2.out.cells
          simp only [hG] at hcw
          have HG := Lib.hid hG
          clear hG
          by_cases hle : i ≤ b1
          · have hdl : decide ((i : Int) ≤ (b1 : Int)) = true := decide_eq_true (by omega)
            have k1 : (i : Int) < n := by omega
            have l1 : i < n := by omega
            have k2 : (a : Int) < n := by omega
            have l2 : a < n := by omega
            go_wp2_with fail
            go_quiet (first | (go_at_call 47; refine Calls.quiet_of_same (less_c _ _ _)))
            cases hl : lt6 (G i) (G a) with
            | true =>
              have hc : (decide (i ≤ b1) && lt6 (G i) (G a)) = true := by rw [decide_eq_true hle, hl]; rfl
              go_wp2_with fail
              go_roundw
              case rel => exact ⟨i + 1, by go_num, by omega, by omega, N2.out.drewN nq, by rw [← HS.out]; exact (su_step _ _ _ _ (by rw [HG.out, HG.out]; exact hc)).symm⟩
              case measure => simp [intOf]; omega
            | false =>
              have hc : (decide (i ≤ b1) && lt6 (G i) (G a)) = false := by rw [hl]; exact Bool.and_false _
              go_wp2_with fail
              go_meet
              have hx : I = i := HS.out.symm.trans (su_end _ _ _ _ (by rw [HG.out, HG.out]; exact hc))
              rw [hx]
              exact ⟨rfl, by omega, by omega, N2.out.drewN nq⟩
          · have hdl : decide ((i : Int) ≤ (b1 : Int)) = false := decide_eq_false (by omega)
            go_wp2_with fail
            go_quiet (first | (go_at_call 47; refine Calls.quiet_of_same (less_c _ _ _)))
            go_wp2_with fail
            go_meet
            have hx : I = i := HS.out.symm.trans (su_end _ _ _ _ (by rw [decide_eq_false hle]; rfl))
            rw [hx]
            exact ⟨rfl, by omega, by omega, N2.out.drewN nq⟩
      case rest =>
        obtain ⟨rfl, hI1, hI2, N1⟩ := hcut
        clear HI
        have HI := HJ
        have hIa : a ≤ I := by omega
        go_step
        go_step
        go_cut [11] from 46 to 62 (fun vi wx => (vi = .int .i64 (J : Nat)) ∧ J ≤ b1 ∧ I ≤ J + 1 ∧ a ≤ J ∧ Hid (Now w g rest n wx d1))
        case first =>
          go_step
          go_loopw [11] (fun vi wr => ∃ j : Nat, vi = .int .i64 j ∧ j ≤ b1 ∧ I ≤ j + 1 ∧ a ≤ j ∧ Hid (Now w g rest n wr d1) ∧ Hid (scanDown (fun x => !lt6 x d1[a]!) d1 I j = J)) (fun vi _ => (intOf vi).toNat)
          case atStart => exact ⟨b1, rfl, Nat.le_refl _, by omega, by omega, N1, HI.out⟩
          case round =>
            obtain ⟨j, rfl, hb1, hb2, hb3, N2, HS⟩ := hrel
            obtain ⟨G, hG⟩ : ∃ G : Nat → Nat, ∀ t, d1[t]! = G t := ⟨fun t => d1[t]!, fun _ => rfl⟩
            have hcw := N2.out.cells
            simp only [hG] at hcw
            have HG := Lib.hid hG
            clear hG
            by_cases hle : I ≤ j
            · have hdl : decide ((I : Int) ≤ (j : Int)) = true := decide_eq_true (by omega)
              have k1 : (j : Int) < n := by omega
              have l1 : j < n := by omega
              have k2 : (a : Int) < n := by omega
              have l2 : a < n := by omega
              go_wp2_with fail
              go_quiet (first | (go_at_call 47; refine Calls.quiet_of_same (less_c _ _ _)))
              cases hl : lt6 (G j) (G a) with
              | false =>
                have hc : (decide (I ≤ j) && !lt6 (G j) (G a)) = true := by rw [decide_eq_true hle, hl]; rfl
                go_wp2_with fail
                go_roundw
                case rel => exact ⟨j - 1, by congr 1; omega, by omega, by omega, by omega, N2.out.drewN nq, by rw [← HS.out]; exact (sd_step _ _ _ _ (by omega) (by rw [HG.out, HG.out]; exact hc)).symm⟩
                case measure => simp [intOf]; omega
              | true =>
                have hc : (decide (I ≤ j) && !lt6 (G j) (G a)) = false := by rw [hl]; exact Bool.and_false _
                go_wp2_with fail
                go_meet
                have hx : J = j := HS.out.symm.trans (sd_end _ _ _ _ (by rw [HG.out, HG.out]; exact hc))
                rw [hx]
                exact ⟨rfl, by omega, by omega, by omega, N2.out.drewN nq⟩
            · have hdl : decide ((I : Int) ≤ (j : Int)) = false := decide_eq_false (by omega)
              go_wp2_with fail
              go_quiet (first | (go_at_call 47; refine Calls.quiet_of_same (less_c _ _ _)))
              go_wp2_with fail
              go_meet
              have hx : J = j := HS.out.symm.trans (sd_end _ _ _ _ (by rw [decide_eq_false hle]; rfl))
              rw [hx]
              exact ⟨rfl, by omega, by omega, by omega, N2.out.drewN nq⟩
        case rest =>
          obtain ⟨rfl, hI1, hI2, hI3, N1⟩ := hcut
          clear HI HJ
          by_cases hij : J < I
          · have hdl : decide ((J : Int) < (I : Int)) = true := decide_eq_true (by omega)
            have HR2 : Hid (R = (J, true, swp d1 J a)) := by have h := HR.out; rw [if_pos hij] at h; exact h
            clear HR
            have hJb : J < b := by omega
            have hJa : a ≤ J := by omega
            go_wp2_with fail
            go_cut [] from 66 to 79 (fun wx => Hid (Now w g rest n wx (swp d1 J a)))
            case first =>
              have k1 : (J : Int) < n := by omega
              have k2 : (a : Int) < n := by omega
              have l1 : J < n := by omega
              have l2 : a < n := by omega
              obtain ⟨G, hG⟩ : ∃ G : Nat → Nat, ∀ t, d1[t]! = G t := ⟨fun t => d1[t]!, fun _ => rfl⟩
              have hcw := N1.out.cells
              have hfw := N1.out.froz
              simp only [hG] at hcw
              have HG := Lib.hid hG
              clear hG
              by_cases hxy : J = a
              · subst hxy
                go_region
                all_goals go_wp2_with fail
                all_goals go_meet
                all_goals exact (by have h := (N1.out.drew).swp (i := J) (j := J) (by omega) (by omega); simp only [HG.out] at h; exact h)
              · have n1 : ¬ (J = a) := hxy
                have n2 : ¬ (a = J) := fun h => hxy h.symm
                clear hxy
                go_region
                all_goals go_wp2_with fail
                all_goals go_meet
                all_goals exact (by have h := (N1.out.drew).swp (i := J) (j := a) (by omega) (by omega); simp only [HG.out] at h; exact h)
            case rest =>
              have N1 := hcut
              clear hcut
              go_wp2_with fail
              go_ret2
              rw [HR2.out]
              exact ⟨rfl, N1.out⟩
          · have hdl : decide ((J : Int) < (I : Int)) = false := decide_eq_false (by omega)
            have HR2 : Hid (R = ((partLoop lt6 a (I + 1) (J - 1) (swp d1 I J)).1, false, swp (partLoop lt6 a (I + 1) (J - 1) (swp d1 I J)).2 (partLoop lt6 a (I + 1) (J - 1) (swp d1 I J)).1 a)) := by have h := HR.out; rw [if_neg hij] at h; exact h
            clear HR
            have hJb : J < b := by omega
            have hIa2 : a < I := by omega
            go_wp2_with fail
            go_cut [] from 81 to 94 (fun wx => Hid (Now w g rest n wx (swp d1 I J)))
            case first =>
              have k1 : (I : Int) < n := by omega
              have k2 : (J : Int) < n := by omega
              have l1 : I < n := by omega
              have l2 : J < n := by omega
              obtain ⟨G, hG⟩ : ∃ G : Nat → Nat, ∀ t, d1[t]! = G t := ⟨fun t => d1[t]!, fun _ => rfl⟩
              have hcw := N1.out.cells
              have hfw := N1.out.froz
              simp only [hG] at hcw
              have HG := Lib.hid hG
              clear hG
              by_cases hxy : I = J
              · subst hxy
                go_region
                all_goals go_wp2_with fail
                all_goals go_meet
                all_goals exact (by have h := (N1.out.drew).swp (i := I) (j := I) (by omega) (by omega); simp only [HG.out] at h; exact h)
              · have n1 : ¬ (I = J) := hxy
                have n2 : ¬ (J = I) := fun h => hxy h.symm
                clear hxy
                go_region
                all_goals go_wp2_with fail
                all_goals go_meet
                all_goals exact (by have h := (N1.out.drew).swp (i := I) (j := J) (by omega) (by omega); simp only [HG.out] at h; exact h)
            case rest =>
              have N1 := hcut
              clear hcut
              obtain ⟨d2, hd2⟩ : ∃ d2, swp d1 I J = d2 := ⟨_, rfl⟩
              obtain ⟨I2, eI2⟩ : ∃ I2, I2 = I + 1 := ⟨_, rfl⟩
              obtain ⟨J2, eJ2⟩ : ∃ J2, J2 = J - 1 := ⟨_, rfl⟩
              have i2 : (I : Int) + 1 = (I2 : Int) := by omega
              have i3 : (J : Int) - 1 = (J2 : Int) := by omega
              rw [hd2] at N1
              obtain ⟨Q, hQ⟩ : ∃ Q, partLoop lt6 a I2 J2 d2 = Q := ⟨_, rfl⟩
              have HQ : Hid (partLoop lt6 a I2 J2 d2 = Q) := hQ
              have HR3 : Hid (R = (Q.1, false, swp Q.2 Q.1 a)) := by have h := HR2.out; rw [hd2, ← eI2, ← eJ2, hQ] at h; exact h
              have hb2 : a < I2 ∧ J2 < b ∧ I2 ≤ J2 + 2 ∧ a ≤ J2 ∧ I2 ≤ 1000001 := by omega
              obtain ⟨hb2, hb3, hb4, hb5, hb6⟩ := hb2
              clear HR2 hQ hd2 eI2 eJ2
              go_wp2_with fail
              clear i2 i3
              go_loopw [10, 11] (fun vi vj wr => ∃ (i j : Nat) (dk : Array Nat), vi = .int .i64 i ∧ vj = .int .i64 j ∧ a < i ∧ j < b ∧ i ≤ j + 2 ∧ a ≤ j ∧ Hid (Now w g rest n wr dk) ∧ Hid (partLoop lt6 a i j dk = Q)) (fun vi vj _ => (intOf vj + 3 - intOf vi).toNat)
              case atStart => exact ⟨I2, J2, d2, rfl, rfl, hb2, hb3, hb4, hb5, N1, HQ⟩
              case round =>
                obtain ⟨I, J, dk, rfl, rfl, hIa, hJb, hIJ, hJa, N1, HS⟩ := hrel
                obtain ⟨i2, hI⟩ : ∃ I9, scanUp (fun x => lt6 x dk[a]!) dk J I = I9 := ⟨_, rfl⟩
                obtain ⟨j2, hJ⟩ : ∃ J9, scanDown (fun x => !lt6 x dk[a]!) dk i2 J = J9 := ⟨_, rfl⟩
                have HL : Hid (Q = if i2 > j2 then (j2, dk) else partLoop lt6 a (i2 + 1) (j2 - 1) (swp dk i2 j2)) := by rw [← HS.out, partLoop_eq]; simp only [hI, hJ]; first | exact trivial | exact rfl
                have HI := Lib.hid hI
                have HJ := Lib.hid hJ
                clear hI hJ
                go_step
                go_step
                go_step
                go_cut [10] from 99 to 114 (fun vi wx => (vi = .int .i64 (i2 : Nat)) ∧ I ≤ i2 ∧ i2 ≤ J + 2 ∧ Hid (Now w g rest n wx dk))
                case first =>
                  go_step
                  go_loopw [10] (fun vi wr => ∃ i : Nat, vi = .int .i64 i ∧ I ≤ i ∧ i ≤ J + 2 ∧ Hid (Now w g rest n wr dk) ∧ Hid (scanUp (fun x => lt6 x dk[a]!) dk J i = i2)) (fun vi _ => J + 2 - (intOf vi).toNat)
                  case atStart => exact ⟨I, rfl, Nat.le_refl _, by omega, N1, HI.out⟩
                  case round =>
                    obtain ⟨i, rfl, hb1, hb2, N2, HS⟩ := hrel
                    obtain ⟨G, hG⟩ : ∃ G : Nat → Nat, ∀ t, dk[t]! = G t := ⟨fun t => dk[t]!, fun _ => rfl⟩
                    have hcw := N2.out.cells
                    simp only [hG] at hcw
                    have HG := Lib.hid hG
                    clear hG
                    by_cases hle : i ≤ J
                    · have hdl : decide ((i : Int) ≤ (J : Int)) = true := decide_eq_true (by omega)
                      have k1 : (i : Int) < n := by omega
                      have l1 : i < n := by omega
                      have k2 : (a : Int) < n := by omega
                      have l2 : a < n := by omega
                      go_wp2_with fail
                      go_quiet (first | (go_at_call 47; refine Calls.quiet_of_same (less_c _ _ _)))
                      cases hl : lt6 (G i) (G a) with
                      | true =>
                        have hc : (decide (i ≤ J) && lt6 (G i) (G a)) = true := by rw [decide_eq_true hle, hl]; rfl
                        go_wp2_with fail
                        go_roundw
                        case rel => exact ⟨i + 1, by go_num, by omega, by omega, N2.out.drewN nq, by rw [← HS.out]; exact (su_step _ _ _ _ (by rw [HG.out, HG.out]; exact hc)).symm⟩
                        case measure => simp [intOf]; omega
                      | false =>
                        have hc : (decide (i ≤ J) && lt6 (G i) (G a)) = false := by rw [hl]; exact Bool.and_false _
                        go_wp2_with fail
                        go_meet
                        have hx : i2 = i := HS.out.symm.trans (su_end _ _ _ _ (by rw [HG.out, HG.out]; exact hc))
                        rw [hx]
                        exact ⟨rfl, by omega, by omega, N2.out.drewN nq⟩
                    · have hdl : decide ((i : Int) ≤ (J : Int)) = false := decide_eq_false (by omega)
                      go_wp2_with fail
                      go_quiet (first | (go_at_call 47; refine Calls.quiet_of_same (less_c _ _ _)))
                      go_wp2_with fail
                      go_meet
                      have hx : i2 = i := HS.out.symm.trans (su_end _ _ _ _ (by rw [decide_eq_false hle]; rfl))
                      rw [hx]
                      exact ⟨rfl, by omega, by omega, N2.out.drewN nq⟩
                case rest =>
                  obtain ⟨rfl, hI1, hI2, N1⟩ := hcut
                  clear HI
                  have HI := HJ
                  have hIa : a < i2 := by omega
                  go_step
                  go_step
                  go_cut [11] from 115 to 131 (fun vi wx => (vi = .int .i64 (j2 : Nat)) ∧ j2 ≤ J ∧ i2 ≤ j2 + 2 ∧ a ≤ j2 ∧ Hid (Now w g rest n wx dk))
                  case first =>
                    go_step
                    go_loopw [11] (fun vi wr => ∃ j : Nat, vi = .int .i64 j ∧ j ≤ J ∧ i2 ≤ j + 2 ∧ a ≤ j ∧ Hid (Now w g rest n wr dk) ∧ Hid (scanDown (fun x => !lt6 x dk[a]!) dk i2 j = j2)) (fun vi _ => (intOf vi).toNat)
                    case atStart => exact ⟨J, rfl, Nat.le_refl _, by omega, by omega, N1, HI.out⟩
                    case round =>
                      obtain ⟨j, rfl, hb1, hb2, hb3, N2, HS⟩ := hrel
                      obtain ⟨G, hG⟩ : ∃ G : Nat → Nat, ∀ t, dk[t]! = G t := ⟨fun t => dk[t]!, fun _ => rfl⟩
                      have hcw := N2.out.cells
                      simp only [hG] at hcw
                      have HG := Lib.hid hG
                      clear hG
                      by_cases hle : i2 ≤ j
                      · have hdl : decide ((i2 : Int) ≤ (j : Int)) = true := decide_eq_true (by omega)
                        have k1 : (j : Int) < n := by omega
                        have l1 : j < n := by omega
                        have k2 : (a : Int) < n := by omega
                        have l2 : a < n := by omega
                        go_wp2_with fail
                        go_quiet (first | (go_at_call 47; refine Calls.quiet_of_same (less_c _ _ _)))
                        cases hl : lt6 (G j) (G a) with
                        | false =>
                          have hc : (decide (i2 ≤ j) && !lt6 (G j) (G a)) = true := by rw [decide_eq_true hle, hl]; rfl
                          go_wp2_with fail
                          go_roundw
                          case rel => exact ⟨j - 1, by congr 1; omega, by omega, by omega, by omega, N2.out.drewN nq, by rw [← HS.out]; exact (sd_step _ _ _ _ (by omega) (by rw [HG.out, HG.out]; exact hc)).symm⟩
                          case measure => simp [intOf]; omega
                        | true =>
                          have hc : (decide (i2 ≤ j) && !lt6 (G j) (G a)) = false := by rw [hl]; exact Bool.and_false _
                          go_wp2_with fail
                          go_meet
                          have hx : j2 = j := HS.out.symm.trans (sd_end _ _ _ _ (by rw [HG.out, HG.out]; exact hc))
                          rw [hx]
                          exact ⟨rfl, by omega, by omega, by omega, N2.out.drewN nq⟩
                      · have hdl : decide ((i2 : Int) ≤ (j : Int)) = false := decide_eq_false (by omega)
                        go_wp2_with fail
                        go_quiet (first | (go_at_call 47; refine Calls.quiet_of_same (less_c _ _ _)))
                        go_wp2_with fail
                        go_meet
                        have hx : j2 = j := HS.out.symm.trans (sd_end _ _ _ _ (by rw [decide_eq_false hle]; rfl))
                        rw [hx]
                        exact ⟨rfl, by omega, by omega, by omega, N2.out.drewN nq⟩
                  case rest =>
                    obtain ⟨rfl, hI1, hI2, hI3, N1⟩ := hcut
                    clear HI HJ
                    by_cases hij : j2 < i2
                    · have hdl : decide ((j2 : Int) < (i2 : Int)) = true := decide_eq_true (by omega)
                      have HL2 : Hid (Q = (j2, dk)) := by have h := HL.out; rw [if_pos hij] at h; exact h
                      clear HL
                      have hJb2 : j2 < b := by omega
                      have hJa2 : a ≤ j2 := by omega
                      go_wp2_with fail
                      go_cut [] from 153 to 166 (fun wx => Hid (Now w g rest n wx (swp dk j2 a)))
                      case first =>
                        have k1 : (j2 : Int) < n := by omega
                        have k2 : (a : Int) < n := by omega
                        have l1 : j2 < n := by omega
                        have l2 : a < n := by omega
                        obtain ⟨G, hG⟩ : ∃ G : Nat → Nat, ∀ t, dk[t]! = G t := ⟨fun t => dk[t]!, fun _ => rfl⟩
                        have hcw := N1.out.cells
                        have hfw := N1.out.froz
                        simp only [hG] at hcw
                        have HG := Lib.hid hG
                        clear hG
                        by_cases hxy : j2 = a
                        · subst hxy
                          go_region
                          all_goals go_wp2_with fail
                          all_goals go_meet
                          all_goals exact (by have h := (N1.out.drew).swp (i := j2) (j := j2) (by omega) (by omega); simp only [HG.out] at h; exact h)
                        · have n1 : ¬ (j2 = a) := hxy
                          have n2 : ¬ (a = j2) := fun h => hxy h.symm
                          clear hxy
                          go_region
                          all_goals go_wp2_with fail
                          all_goals go_meet
                          all_goals exact (by have h := (N1.out.drew).swp (i := j2) (j := a) (by omega) (by omega); simp only [HG.out] at h; exact h)
                      case rest =>
                        have N1 := hcut
                        clear hcut
                        go_wp2_with fail
                        go_ret2
                        rw [HR3.out, HL2.out]
                        exact ⟨rfl, N1.out⟩
                    · have hdl : decide ((j2 : Int) < (i2 : Int)) = false := decide_eq_false (by omega)
                      have HL2 : Hid (Q = partLoop lt6 a (i2 + 1) (j2 - 1) (swp dk i2 j2)) := by have h := HL.out; rw [if_neg hij] at h; exact h
                      clear HL
                      have hJb2 : j2 < b := by omega
                      have hb7 : i2 ≤ 1000000 := by omega
                      go_wp2_with fail
                      go_cut [] from 135 to 148 (fun wx => Hid (Now w g rest n wx (swp dk i2 j2)))
                      case first =>
                        have k1 : (i2 : Int) < n := by omega
                        have k2 : (j2 : Int) < n := by omega
                        have l1 : i2 < n := by omega
                        have l2 : j2 < n := by omega
                        obtain ⟨G, hG⟩ : ∃ G : Nat → Nat, ∀ t, dk[t]! = G t := ⟨fun t => dk[t]!, fun _ => rfl⟩
                        have hcw := N1.out.cells
                        have hfw := N1.out.froz
                        simp only [hG] at hcw
                        have HG := Lib.hid hG
                        clear hG
                        by_cases hxy : i2 = j2
                        · subst hxy
                          go_region
                          all_goals go_wp2_with fail
                          all_goals go_meet
                          all_goals exact (by have h := (N1.out.drew).swp (i := i2) (j := i2) (by omega) (by omega); simp only [HG.out] at h; exact h)
                        · have n1 : ¬ (i2 = j2) := hxy
                          have n2 : ¬ (j2 = i2) := fun h => hxy h.symm
                          clear hxy
                          go_region
                          all_goals go_wp2_with fail
                          all_goals go_meet
                          all_goals exact (by have h := (N1.out.drew).swp (i := i2) (j := j2) (by omega) (by omega); simp only [HG.out] at h; exact h)
                      case rest =>
                        have N1 := hcut
                        clear hcut
                        go_wp2_with fail
                        go_roundw
                        case rel => exact ⟨i2 + 1, j2 - 1, swp dk i2 j2, by go_num, by congr 1; omega, by omega, by omega, by omega, by omega, N1, by rw [HL2.out]; exact rfl⟩
                        case measure => simp [intOf]; omega
end Go.Proofs.Ytpgklhbbjbdejaa
