/-
  CONTRACT of partialInsertionSortOrdered at uint64. Written by gen_u2.py.
-/
import Derived.Test.YtpgklhbbjbdejaaUPart
import Derived.Deep.CutRange
namespace Go.Proofs.Ytpgklhbbjbdejaa
set_option linter.unusedSimpArgs false
set_option linter.unusedVariables false
open Go Go.RowKit Go.Sort

section
variable {α : Type} [Inhabited α] (lt : α → α → Bool)
theorem ss_end (d : Array α) (b i : Nat) (h : (decide (i < b) && !lt d[i]! d[i - 1]!) = false) : scanSorted lt d b i = i := by rw [scanSorted, h]; rfl
theorem ss_step (d : Array α) (b i : Nat) (h : (decide (i < b) && !lt d[i]! d[i - 1]!) = true) : scanSorted lt d b i = scanSorted lt d b (i + 1) := by
  conv => lhs; rw [scanSorted, h]
  rfl
theorem shd_end (j : Nat) (d : Array α) (h : j = 0 ∨ lt d[j]! d[j - 1]! = false) : shiftDown lt j d = d := by
  cases j with
  | zero => rw [shiftDown]
  | succ j =>
    rcases h with h | h
    · cases h
    · have h : lt d[j + 1]! d[j]! = false := h
      rw [shiftDown, h]; rfl
theorem shd_step (j : Nat) (d : Array α) (hj : 1 ≤ j) (h : lt d[j]! d[j - 1]! = true) : shiftDown lt j d = shiftDown lt (j - 1) (swp d j (j - 1)) := by
  cases j with
  | zero => omega
  | succ j =>
    have h : lt d[j + 1]! d[j]! = true := h
    rw [shiftDown, h]; rfl
theorem shu_end (b j : Nat) (d : Array α) (h : ¬ j < b ∨ lt d[j]! d[j - 1]! = false) : shiftUp lt b j d = d := by
  rw [shiftUp]
  rcases h with h | h
  · rw [if_neg h]
  · rw [h]; split <;> rfl
theorem shu_step (b j : Nat) (d : Array α) (hj : j < b) (h : lt d[j]! d[j - 1]! = true) : shiftUp lt b j d = shiftUp lt b (j + 1) (swp d j (j - 1)) := by
  conv => lhs; rw [shiftUp, if_pos hj, h]
  rfl
end
set_option maxRecDepth 100000 in
set_option maxHeartbeats 8000000 in
theorem partI_c (w : World) (g c a b : Nat) (d : Array Nat) (rest : List Value) (hR : RowU w g d rest) (hab : a < b) (hb : b ≤ d.size) (hsz : d.size ≤ 1000000) :
    Calls Try.prog 46 #[.slice (some ⟨g, 0, none⟩) d.size c, .int .i64 a, .int .i64 b] w fun e w' => e = .returned (.bool (partialInsertionSort lt6 d a b).2) ∧ Now w g rest d.size w' (partialInsertionSort lt6 d a b).1 := by
  obtain ⟨n, hn⟩ : ∃ n, d.size = n := ⟨_, rfl⟩
  have N0 : Hid (Now w g rest n w d) := hn ▸ Now.start hR
  rw [hn] at hb hsz ⊢
  clear hR hn
  obtain ⟨R, hR⟩ : ∃ R, partialInsertionSort lt6 d a b = R := ⟨_, rfl⟩
  have HR : Hid (partialIns lt6 a b 5 (a + 1) d = R) := hR
  rw [hR]
  clear hR
  obtain ⟨l, el⟩ : ∃ l, l = b - a := ⟨_, rfl⟩
  have il : (b : Int) - (a : Int) = (l : Int) := by omega
  have hla : a + l = b := by omega
  clear el
  go_enter Try.func46, Try.ntmps46
  go_wp2_with fail
  go_loopw [7, 8] (fun vi vs wr => ∃ (i q s : Nat) (dk : Array Nat), vi = .int .i64 i ∧ vs = .int .i64 q ∧ q + s = 5 ∧ a < i ∧ i ≤ b ∧ Hid (Now w g rest n wr dk) ∧ Hid (partialIns lt6 a b s i dk = R)) (fun _ vs _ => 5 - (intOf vs).toNat)
  case atStart => exact ⟨a + 1, 0, 5, d, by go_num, rfl, rfl, by omega, by omega, N0, HR⟩
  case round =>
    obtain ⟨i, q, s, dk, rfl, rfl, hqs, hai, hib, N1, HS⟩ := hrel
    clear N0 HR
    cases s with
    | zero =>
      have hq5 : q = 5 := by omega
      subst hq5
      have HR0 : Hid (R = (dk, false)) := HS.out.symm
      go_wp2_with fail
      go_ret
      rw [HR0.out]
      exact ⟨rfl, N1.out⟩
    | succ s =>
      have hdq : decide ((q : Int) < 5) = true := decide_eq_true (by omega)
      obtain ⟨I, hI⟩ : ∃ I, scanSorted lt6 dk b i = I := ⟨_, rfl⟩
      have HI := Lib.hid hI
      have HL : Hid (R = if I = b then (dk, true) else if b - a < 50 then (dk, false) else partialIns lt6 a b s I (fixUp lt6 b I (fixDown lt6 a I (swp dk I (I - 1))))) := by rw [← HS.out, partialIns_succ, hI]; exact rfl
      clear hI
      go_upto_region 3 with fail
      go_cut [14] from 13 to 14 (fun v wx => v = .bool true ∧ Hid (Now w g rest n wx dk))
      case first =>
        go_wp2_with fail
        go_meet
        exact ⟨rfl, N1⟩
      case rest =>
        obtain ⟨rfl, N1⟩ := hcut
        iterate 8 go_step
        go_cut [7] from 17 to 34 (fun vi wx => vi = .int .i64 (I : Nat) ∧ i ≤ I ∧ I ≤ b ∧ Hid (Now w g rest n wx dk))
        case first =>
          go_step
          go_loopw [7] (fun vi wr => ∃ x : Nat, vi = .int .i64 x ∧ i ≤ x ∧ x ≤ b ∧ Hid (Now w g rest n wr dk) ∧ Hid (scanSorted lt6 dk b x = I)) (fun vi _ => b - (intOf vi).toNat)
          case atStart => exact ⟨i, rfl, Nat.le_refl _, hib, N1, HI.out⟩
          case round =>
            obtain ⟨x, rfl, hb1, hb2, N2, HS2⟩ := hrel
            obtain ⟨G, hG⟩ : ∃ G : Nat → Nat, ∀ t, dk[t]! = G t := ⟨fun t => dk[t]!, fun _ => rfl⟩
            have hcw := N2.out.cells
            simp only [hG] at hcw
            have HG := Lib.hid hG
            clear hG
            by_cases hle : x < b
            · have hdl : decide ((x : Int) < (b : Int)) = true := decide_eq_true (by omega)
              have k1 : (x : Int) < n := by omega
              have l1 : x < n := by omega
              have j2 : (x : Int) - 1 = ((x - 1 : Nat) : Int) := by omega
              have j3 : ((x - 1 : Nat) : Int) < (n : Int) := by omega
              have j5 : x - 1 < n := by omega
              go_wp2_with fail
              go_quiet (first | (go_at_call 47; refine Calls.quiet_of_same (less_c _ _ _)))
              cases hl : lt6 (G x) (G (x - 1)) with
              | false =>
                have hc : (decide (x < b) && !lt6 (G x) (G (x - 1))) = true := by rw [decide_eq_true hle, hl]; rfl
                go_wp2_with fail
                go_roundw
                case rel => exact ⟨x + 1, by go_num, by omega, by omega, N2.out.drewN nq, by rw [← HS2.out]; exact (ss_step lt6 dk b x (by rw [HG.out, HG.out]; exact hc)).symm⟩
                case measure => simp [intOf]; omega
              | true =>
                have hc : (decide (x < b) && !lt6 (G x) (G (x - 1))) = false := by rw [hl]; exact Bool.and_false _
                go_wp2_with fail
                go_meet
                have hx : I = x := HS2.out.symm.trans (ss_end lt6 dk b x (by rw [HG.out, HG.out]; exact hc))
                rw [hx]
                exact ⟨rfl, by omega, by omega, N2.out.drewN nq⟩
            · have hdl : decide ((x : Int) < (b : Int)) = false := decide_eq_false (by omega)
              go_wp2_with fail
              go_quiet (first | (go_at_call 47; refine Calls.quiet_of_same (less_c _ _ _)))
              go_wp2_with fail
              go_meet
              have hx : I = x := HS2.out.symm.trans (ss_end lt6 dk b x (by rw [decide_eq_false hle]; rfl))
              rw [hx]
              exact ⟨rfl, by omega, by omega, N2.out.drewN nq⟩
        case rest =>
          obtain ⟨rfl, hI1, hI2, N1⟩ := hcut
          clear HI
          by_cases hIb : I = b
          · have hde : decide ((I : Int) = (b : Int)) = true := decide_eq_true (by omega)
            have hbe : ((I : Int) == (b : Int)) = true := beq_iff_eq.2 (by omega)
            have HL2 : Hid (R = (dk, true)) := by have h := HL.out; rw [if_pos hIb] at h; exact h
            clear HL
            go_wp2_with fail
            go_ret
            rw [HL2.out]
            exact ⟨rfl, N1.out⟩
          · have hbe : ((I : Int) == (b : Int)) = false := beq_eq_false_iff_ne.2 (by omega)
            by_cases h50 : b - a < 50
            · have d50 : decide ((l : Int) < 50) = true := decide_eq_true (by omega)
              have HL2 : Hid (R = (dk, false)) := by have h := HL.out; rw [if_neg hIb, if_pos h50] at h; exact h
              clear HL
              go_wp2_with fail
              go_ret
              rw [HL2.out]
              exact ⟨rfl, N1.out⟩
            · have d50 : decide ((l : Int) < 50) = false := decide_eq_false (by omega)
              have HL2 : Hid (R = partialIns lt6 a b s I (fixUp lt6 b I (fixDown lt6 a I (swp dk I (I - 1))))) := by have h := HL.out; rw [if_neg hIb, if_neg h50] at h; exact h
              clear HL h50
              have hIlt : I < b := by omega
              clear hI2 hIb
              obtain ⟨I1, eI1⟩ : ∃ I1, I1 = I - 1 := ⟨_, rfl⟩
              have hI11 : I1 + 1 = I := by omega
              have j2 : (I : Int) - 1 = (I1 : Int) := by omega
              rw [← eI1] at HL2
              clear eI1
              go_wp2_with fail
              go_cut [] from 42 to 57 (fun wx => Hid (Now w g rest n wx (swp dk I I1)))
              case first =>
                have k1 : (I : Int) < n := by omega
                have k2 : (I1 : Int) < n := by omega
                have l1 : I < n := by omega
                have l2 : I1 < n := by omega
                obtain ⟨G, hG⟩ : ∃ G : Nat → Nat, ∀ t, dk[t]! = G t := ⟨fun t => dk[t]!, fun _ => rfl⟩
                have hcw := N1.out.cells
                have hfw := N1.out.froz
                simp only [hG] at hcw
                have HG := Lib.hid hG
                clear hG
                have n1 : ¬ (I = I1) := by omega
                have n2 : ¬ (I1 = I) := by omega
                go_region
                all_goals go_wp2_with fail
                all_goals go_meet
                all_goals exact (by have h := (N1.out.drew).swp (i := I) (j := I1) (by omega) (by omega); simp only [HG.out] at h; exact h)
              case rest =>
                have N1 := hcut
                clear hcut
                obtain ⟨d2, hd2⟩ : ∃ d2, swp dk I I1 = d2 := ⟨_, rfl⟩
                obtain ⟨d3, hd3⟩ : ∃ d3, fixDown lt6 a I d2 = d3 := ⟨_, rfl⟩
                obtain ⟨d4, hd4⟩ : ∃ d4, fixUp lt6 b I d3 = d4 := ⟨_, rfl⟩
                rw [hd2] at N1
                have HL3 : Hid (R = partialIns lt6 a b s I d4) := by have h := HL2.out; rw [hd2, hd3, hd4] at h; exact h
                have HD3 := Lib.hid hd3
                have HD4 := Lib.hid hd4
                clear HL2 hd2 hd3 hd4
                obtain ⟨x1, ex1⟩ : ∃ x1, x1 = I - a := ⟨_, rfl⟩
                obtain ⟨x2, ex2⟩ : ∃ x2, x2 = b - I := ⟨_, rfl⟩
                have ix1 : (I : Int) - (a : Int) = (x1 : Int) := by omega
                have ix2 : (b : Int) - (I : Int) = (x2 : Int) := by omega
                have EX := Lib.hid (And.intro ex1 ex2)
                have lx1 : x1 ≤ 1000000 ∧ x2 ≤ 1000000 := by omega
                clear ex1 ex2
                go_upto_if 61 with fail
                go_cut [] from 62 to 94 (fun wx => Hid (Now w g rest n wx d3))
                case first =>
                  by_cases hx2 : 2 ≤ x1
                  · have hdx : decide ((2 : Int) ≤ (x1 : Int)) = true := decide_eq_true (by omega)
                    have HF : Hid (shiftDown lt6 I1 d2 = d3) := by have h := HD3.out; unfold fixDown at h; rw [if_pos (by have := EX.out.1; omega), show I - 1 = I1 from by omega] at h; exact h
                    go_wp2_with fail
                    go_loopw [9] (fun vi wr => ∃ (x : Nat) (dj : Array Nat), vi = .int .i64 x ∧ x ≤ I1 ∧ Hid (Now w g rest n wr dj) ∧ Hid (shiftDown lt6 x dj = shiftDown lt6 I1 d2)) (fun vi _ => (intOf vi).toNat)
                    case atStart => exact ⟨I1, d2, by go_num, Nat.le_refl _, N1, rfl⟩
                    case round =>
                      obtain ⟨x, dj, rfl, hb1, N2, HS2⟩ := hrel
                      by_cases hle : 1 ≤ x
                      · have hdl : decide ((1 : Int) ≤ (x : Int)) = true := decide_eq_true (by omega)
                        obtain ⟨y, ey⟩ : ∃ y, y + 1 = x := ⟨x - 1, by omega⟩
                        obtain ⟨G, hG⟩ : ∃ G : Nat → Nat, ∀ t, dj[t]! = G t := ⟨fun t => dj[t]!, fun _ => rfl⟩
                        have hcw := N2.out.cells
                        simp only [hG] at hcw
                        have HG := Lib.hid hG
                        clear hG
                        have k1 : (x : Int) < n := by omega
                        have l1 : x < n := by omega
                        have jy : (x : Int) - 1 = (y : Int) := by omega
                        have j3 : (y : Int) < (n : Int) := by omega
                        have j5 : y < n := by omega
                        have n1 : ¬ (x = y) := by omega
                        have n2 : ¬ (y = x) := by omega
                        have HY : Hid (x - 1 = y) := by show x - 1 = y; omega
                        go_wp2_with fail
                        go_quiet (first | (go_at_call 47; refine Calls.quiet_of_same (less_c _ _ _)))
                        cases hl : lt6 (G x) (G y) with
                        | true =>
                          have N3 := Lib.hid (N2.out.drewN nq)
                          generalize wr.drewN nq = wq at *
                          have hcq := N3.out.cells
                          have hfq := N3.out.froz
                          simp only [HG.out] at hcq
                          clear hcw
                          go_wp2_with fail
                          go_region
                          all_goals go_wp2_with fail
                          all_goals go_roundw
                          case rel => exact ⟨y, swp dj x y, by go_num, by omega, by have h := (N3.out.drew).swp (i := x) (j := y) l1 j5; simp only [HG.out] at h; exact h, by rw [← HS2.out, ← HY.out]; exact (shd_step lt6 x dj (by omega) (by rw [HG.out, HG.out, HY.out]; exact hl)).symm⟩
                          case measure => simp [intOf]; omega
                        | false =>
                          go_wp2_with fail
                          go_meet
                          rw [← HF.out, ← HS2.out, shd_end lt6 x dj (.inr (by rw [HG.out, HG.out, HY.out]; exact hl))]
                          exact N2.out.drewN nq
                      · have hdl : decide ((1 : Int) ≤ (x : Int)) = false := decide_eq_false (by omega)
                        go_wp2_with fail
                        go_meet
                        rw [← HF.out, ← HS2.out, shd_end lt6 x dj (.inl (by omega))]
                        exact N2.out
                  · have hdx : decide ((2 : Int) ≤ (x1 : Int)) = false := decide_eq_false (by omega)
                    have HF : Hid (d2 = d3) := by have h := HD3.out; unfold fixDown at h; rw [if_neg (by have := EX.out.1; omega)] at h; exact h
                    go_wp2_with fail
                    go_meet
                    rw [← HF.out]
                    exact N1
                case rest =>
                  have N1 := hcut
                  clear hcut HD3
                  go_upto_if 98 with fail
                  by_cases hx2 : 2 ≤ x2
                  · have hdx : decide ((2 : Int) ≤ (x2 : Int)) = true := decide_eq_true (by omega)
                    have HF : Hid (shiftUp lt6 b (I + 1) d3 = d4) := by have h := HD4.out; unfold fixUp at h; rw [if_pos (by have := EX.out.2; omega)] at h; exact h
                    go_wp2_with fail
                    go_loopw [10] (fun vi wr => ∃ (x : Nat) (dj : Array Nat), vi = .int .i64 x ∧ I + 1 ≤ x ∧ x ≤ b ∧ Hid (Now w g rest n wr dj) ∧ Hid (shiftUp lt6 b x dj = shiftUp lt6 b (I + 1) d3)) (fun vi _ => b - (intOf vi).toNat)
                    case atStart => exact ⟨I + 1, d3, by go_num, Nat.le_refl _, by omega, N1, rfl⟩
                    case round =>
                      obtain ⟨x, dj, rfl, hb1, hb2, N2, HS2⟩ := hrel
                      by_cases hle : x < b
                      · have hdl : decide ((x : Int) < (b : Int)) = true := decide_eq_true (by omega)
                        obtain ⟨y, ey⟩ : ∃ y, y + 1 = x := ⟨x - 1, by omega⟩
                        obtain ⟨G, hG⟩ : ∃ G : Nat → Nat, ∀ t, dj[t]! = G t := ⟨fun t => dj[t]!, fun _ => rfl⟩
                        have hcw := N2.out.cells
                        simp only [hG] at hcw
                        have HG := Lib.hid hG
                        clear hG
                        have k1 : (x : Int) < n := by omega
                        have l1 : x < n := by omega
                        have jy : (x : Int) - 1 = (y : Int) := by omega
                        have j3 : (y : Int) < (n : Int) := by omega
                        have j5 : y < n := by omega
                        have n1 : ¬ (x = y) := by omega
                        have n2 : ¬ (y = x) := by omega
                        have HY : Hid (x - 1 = y) := by show x - 1 = y; omega
                        go_wp2_with fail
                        go_quiet (first | (go_at_call 47; refine Calls.quiet_of_same (less_c _ _ _)))
                        cases hl : lt6 (G x) (G y) with
                        | true =>
                          have N3 := Lib.hid (N2.out.drewN nq)
                          generalize wr.drewN nq = wq at *
                          have hcq := N3.out.cells
                          have hfq := N3.out.froz
                          simp only [HG.out] at hcq
                          clear hcw
                          go_wp2_with fail
                          go_region
                          all_goals go_wp2_with fail
                          all_goals go_roundw
                          case rel => exact ⟨x + 1, swp dj x y, by go_num, by omega, by omega, by have h := (N3.out.drew).swp (i := x) (j := y) l1 j5; simp only [HG.out] at h; exact h, by rw [← HS2.out, ← HY.out]; exact (shu_step lt6 b x dj hle (by rw [HG.out, HG.out, HY.out]; exact hl)).symm⟩
                          case measure => simp [intOf]; omega
                        | false =>
                          go_wp2_with fail
                          have NN : Hid (Now w g rest n (wr.drewN nq) d4) := by rw [← HF.out, ← HS2.out, shu_end lt6 b x dj (.inr (by rw [HG.out, HG.out, HY.out]; exact hl))]; exact N2.out.drewN nq
                          go_roundw
                          case rel => exact ⟨I, q + 1, s, d4, by first | rfl | go_num, by go_num, by omega, by omega, by omega, NN, HL3.out.symm⟩
                          case measure => simp [intOf]; omega
                      · have hdl : decide ((x : Int) < (b : Int)) = false := decide_eq_false (by omega)
                        go_wp2_with fail
                        have NN : Hid (Now w g rest n wr d4) := by rw [← HF.out, ← HS2.out, shu_end lt6 b x dj (.inl hle)]; exact N2.out
                        go_roundw
                        case rel => exact ⟨I, q + 1, s, d4, by first | rfl | go_num, by go_num, by omega, by omega, by omega, NN, HL3.out.symm⟩
                        case measure => simp [intOf]; omega
                  · have hdx : decide ((2 : Int) ≤ (x2 : Int)) = false := decide_eq_false (by omega)
                    have HF : Hid (d3 = d4) := by have h := HD4.out; unfold fixUp at h; rw [if_neg (by have := EX.out.2; omega)] at h; exact h
                    go_wp2_with fail
                    have NN : Hid (Now w g rest n wc d4) := by rw [← HF.out]; exact N1
                    go_roundw
                    case rel => exact ⟨I, q + 1, s, d4, by first | rfl | go_num, by go_num, by omega, by omega, by omega, NN, HL3.out.symm⟩
                    case measure => simp [intOf]; omega
end Go.Proofs.Ytpgklhbbjbdejaa
