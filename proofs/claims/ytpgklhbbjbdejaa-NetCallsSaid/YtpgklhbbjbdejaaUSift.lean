/-
  CONTRACTS of siftDownOrdered and heapSortOrdered at uint64. Written by gen_u1.py.
-/
import Derived.Test.YtpgklhbbjbdejaaU
namespace Go.Proofs.Ytpgklhbbjbdejaa
set_option linter.unusedSimpArgs false
set_option linter.unusedVariables false
open Go Go.RowKit Go.Sort

section
variable {α : Type} [Inhabited α] (lt : α → α → Bool)
theorem sift_end (hi first r : Nat) (d : Array α) (h : 2 * r + 1 ≥ hi) : siftDown lt hi first r d = d := by rw [siftDown, dif_pos h]
/-- The child that is taken is the second one. -/
theorem sift_c2 (hi first r : Nat) (d : Array α) (h2 : 2 * r + 2 < hi) (hl : lt d[first + (2 * r + 1)]! d[first + (2 * r + 2)]! = true) :
    siftDown lt hi first r d = if lt d[first + r]! d[first + (2 * r + 2)]! = true then siftDown lt hi first (2 * r + 2) (swp d (first + r) (first + (2 * r + 2))) else d := by
  rw [siftDown, dif_neg (by omega), show first + (2 * r + 1) + 1 = first + (2 * r + 2) by omega, show decide (2 * r + 1 + 1 < hi) = true from decide_eq_true (by omega), hl, Bool.and_self, if_pos rfl]
  cases h : lt d[first + r]! d[first + (2 * r + 2)]!
  · rfl
  · rw [dif_pos h2]
    rfl
theorem sift_c1 (hi first r : Nat) (d : Array α) (h1 : 2 * r + 1 < hi) (hl : ¬ 2 * r + 2 < hi ∨ lt d[first + (2 * r + 1)]! d[first + (2 * r + 2)]! = false) :
    siftDown lt hi first r d = if lt d[first + r]! d[first + (2 * r + 1)]! = true then siftDown lt hi first (2 * r + 1) (swp d (first + r) (first + (2 * r + 1))) else d := by
  rw [siftDown, dif_neg (by omega), show first + (2 * r + 1) + 1 = first + (2 * r + 2) by omega]
  have e : (decide (2 * r + 1 + 1 < hi) && lt d[first + (2 * r + 1)]! d[first + (2 * r + 2)]!) = false := by
    rcases hl with hl | hl
    · rw [decide_eq_false (by omega)]; rfl
    · rw [hl, Bool.and_false]
  rw [e, if_neg (by decide)]
  cases h : lt d[first + r]! d[first + (2 * r + 1)]! <;> rfl
end
set_option maxRecDepth 100000 in
set_option maxHeartbeats 4000000 in
theorem sift_c (w : World) (g c lo hi first : Nat) (d : Array Nat) (rest : List Value) (hR : RowU w g d rest) (hb : first + hi ≤ d.size) (hlo : lo ≤ hi) (hsz : d.size ≤ 1000000) :
    Calls Try.prog 52 #[.slice (some ⟨g, 0, none⟩) d.size c, .int .i64 lo, .int .i64 hi, .int .i64 first] w fun e w' => e = .returned (.tuple #[]) ∧ Now w g rest d.size w' (siftDown lt6 hi first lo d) := by
  obtain ⟨n, hn⟩ : ∃ n, d.size = n := ⟨_, rfl⟩
  have H0 : Hid (Now w g rest n w d) := hn ▸ Now.start hR
  rw [hn] at hb hsz ⊢
  clear hR hn
  go_enter Try.func52, Try.ntmps52
  go_wp2_with fail
  go_loopw [8] (fun vr wr => ∃ (r : Nat) (dk : Array Nat), vr = .int .i64 r ∧ r ≤ hi ∧ Hid (Now w g rest n wr dk) ∧ Hid (siftDown lt6 hi first r dk = siftDown lt6 hi first lo d)) (fun vr _ => hi + 1 - (intOf vr).toNat)
  case atStart => exact ⟨lo, d, rfl, hlo, H0, rfl⟩
  case round =>
    obtain ⟨r, dk, rfl, hr, N1, HS⟩ := hrel
    clear H0 hlo
    by_cases h1 : hi ≤ 2 * r + 1
    · have hdl : decide ((hi : Int) ≤ 2 * (r : Int) + 1) = true := decide_eq_true (by omega)
      go_wp2_with fail
      go_end0
      refine ⟨rfl, ?_⟩
      have := N1.out
      rw [show dk = siftDown lt6 hi first lo d from by rw [← HS.out, sift_end lt6 hi first r dk h1]] at this
      exact this
    · have hdl : decide ((hi : Int) ≤ 2 * (r : Int) + 1) = false := decide_eq_false (by omega)
      obtain ⟨c1, e1⟩ : ∃ c1, c1 = 2 * r + 1 := ⟨_, rfl⟩
      obtain ⟨p0, e0⟩ : ∃ p0, p0 = first + r := ⟨_, rfl⟩
      obtain ⟨p1, ep1⟩ : ∃ p1, p1 = first + c1 := ⟨_, rfl⟩
      have w1 : IntKind.i64.wrap (2 * (r : Int) + 1) = (c1 : Int) := by rw [IntKind.wrap_i64]; omega
      have i1 : 2 * (r : Int) + 1 = (c1 : Int) := by omega
      have i2 : (first : Int) + (c1 : Int) = (p1 : Int) := by omega
      have i0 : (first : Int) + (r : Int) = (p0 : Int) := by omega
      have k0 : (p0 : Int) < n := by omega
      have k1 : (p1 : Int) < n := by omega
      have l0 : p0 < n := by omega
      have l1 : p1 < n := by omega
      rw [i1] at hdl
      have lc1 : c1 < hi := by omega
      have E1 := Lib.hid e1
      have E0 := Lib.hid e0
      have EP1 := Lib.hid ep1
      have b1 : c1 ≤ 1000000 := by omega
      have b2 : p1 ≤ 1000000 := by omega
      have ne1 : ¬ (p0 = p1) := by omega
      have ne2 : ¬ (p1 = p0) := by omega
      obtain ⟨G, hG⟩ : ∃ G : Nat → Nat, ∀ t, dk[t]! = G t := ⟨fun t => dk[t]!, fun _ => rfl⟩
      have hcw := N1.out.cells
      have hfw := N1.out.froz
      simp only [hG] at hcw
      have HG := Lib.hid hG
      clear hG
      clear i1 e1 e0 ep1
      go_wp2_with fail
      by_cases h2 : 2 * r + 2 < hi
      · have e1 := E1.out
        have e0 := E0.out
        have ep1 := EP1.out
        obtain ⟨c2, e2⟩ : ∃ c2, c2 = 2 * r + 2 := ⟨_, rfl⟩
        obtain ⟨p2, ep2⟩ : ∃ p2, p2 = first + c2 := ⟨_, rfl⟩
        have i3 : (c1 : Int) + 1 = (c2 : Int) := by omega
        have i4 : (p1 : Int) + 1 = (p2 : Int) := by omega
        have i5 : (first : Int) + (c2 : Int) = (p2 : Int) := by omega
        have k2 : (p2 : Int) < n := by omega
        have l2 : p2 < n := by omega
        have k3 : decide ((c2 : Int) < (hi : Int)) = true := decide_eq_true (by omega)
        have lc2 : c2 < hi := by omega
        have ne3 : ¬ (p0 = p2) := by omega
        have ne4 : ¬ (p2 = p0) := by omega
        have E2 := Lib.hid e2
        have EP2 := Lib.hid ep2
        clear e1 e0 ep1 e2 ep2
        cases hl : lt6 (G p1) (G p2) with
        | true =>
          go_quiet (first | (go_at_call 47; refine Calls.quiet_of_same (less_c _ _ _)))
          go_wp2_with fail
          have N3 := Lib.hid (N1.out.drewN nq)
          generalize wr.drewN nq = wq at *
          have hcq := N3.out.cells
          have hfq := N3.out.froz
          simp only [HG.out] at hcq
          clear hcw hfw
          cases hs : lt6 (G p0) (G p2) with
          | false =>
            go_quiet (first | (go_at_call 47; refine Calls.quiet_of_same (less_c _ _ _)))
            have N2 := Lib.hid (N3.out.drewN nq)
            go_wp2_with fail
            trace_state
            refine bodyPost_ret (v := .tuple #[]) ?_ rfl ?_
            · simp [results, Try.results52]
            refine ⟨rfl, ?_⟩
            have := N2.out
            rw [show dk = siftDown lt6 hi first lo d from by rw [← HS.out, sift_c2 lt6 hi first r dk h2 (by rw [← E1.out, ← E2.out, ← EP1.out, ← EP2.out, HG.out, HG.out]; exact hl), if_neg (by rw [← E2.out, ← EP2.out, ← E0.out]; rw [HG.out, HG.out, hs]; decide)]] at this
            exact this
          | true =>
            go_quiet (first | (go_at_call 47; refine Calls.quiet_of_same (less_c _ _ _)))
            have N2 := Lib.hid (N3.out.drewN nq)
            go_wp2_with fail
            go_region
            all_goals go_wp2_with fail
            all_goals go_roundw
            case rel => exact ⟨c2, swp dk p0 p2, by go_num, by omega, by have h := N2.out.swp (i := p0) (j := p2) (by omega) (by omega); rw [HG.out, HG.out] at h; exact ⟨⟨h.1.os, h.1.tape, h.1.output, h.1.size, h.1.block⟩, h.2⟩, by
              rw [← HS.out, sift_c2 lt6 hi first r dk h2 (by rw [← E1.out, ← E2.out, ← EP1.out, ← EP2.out, HG.out, HG.out]; exact hl), if_pos (by rw [← E2.out, ← EP2.out, ← E0.out]; rw [HG.out, HG.out, hs]), E0.out, EP2.out, E2.out]; exact rfl⟩
            case measure => have := E2.out; simp [intOf]; omega
        | false =>
          go_quiet (first | (go_at_call 47; refine Calls.quiet_of_same (less_c _ _ _)))
          go_wp2_with fail
          have N3 := Lib.hid (N1.out.drewN nq)
          generalize wr.drewN nq = wq at *
          have hcq := N3.out.cells
          have hfq := N3.out.froz
          simp only [HG.out] at hcq
          clear hcw hfw
          cases hs : lt6 (G p0) (G p1) with
          | false =>
            go_quiet (first | (go_at_call 47; refine Calls.quiet_of_same (less_c _ _ _)))
            have N2 := Lib.hid (N3.out.drewN nq)
            go_wp2_with fail
            trace_state
            refine bodyPost_ret (v := .tuple #[]) ?_ rfl ?_
            · simp [results, Try.results52]
            refine ⟨rfl, ?_⟩
            have := N2.out
            rw [show dk = siftDown lt6 hi first lo d from by rw [← HS.out, sift_c1 lt6 hi first r dk (by have := E1.out; omega) (.inr (by rw [← E1.out, ← E2.out, ← EP1.out, ← EP2.out, HG.out, HG.out]; exact hl)), if_neg (by rw [← E1.out, ← EP1.out, ← E0.out]; rw [HG.out, HG.out, hs]; decide)]] at this
            exact this
          | true =>
            go_quiet (first | (go_at_call 47; refine Calls.quiet_of_same (less_c _ _ _)))
            have N2 := Lib.hid (N3.out.drewN nq)
            go_wp2_with fail
            go_region
            all_goals go_wp2_with fail
            all_goals go_roundw
            case rel => exact ⟨c1, swp dk p0 p1, by go_num, by omega, by have h := N2.out.swp (i := p0) (j := p1) (by omega) (by omega); rw [HG.out, HG.out] at h; exact ⟨⟨h.1.os, h.1.tape, h.1.output, h.1.size, h.1.block⟩, h.2⟩, by
              rw [← HS.out, sift_c1 lt6 hi first r dk (by have := E1.out; omega) (.inr (by rw [← E1.out, ← E2.out, ← EP1.out, ← EP2.out, HG.out, HG.out]; exact hl)), if_pos (by rw [← E1.out, ← EP1.out, ← E0.out]; rw [HG.out, HG.out, hs]), E0.out, EP1.out, E1.out]; exact rfl⟩
            case measure => have := E1.out; simp [intOf]; omega
      · have k3 : decide ((c1 : Int) + 1 < (hi : Int)) = false := decide_eq_false (by have := E1.out; omega)
        go_quiet (first | (go_at_call 47; refine Calls.quiet_of_same (less_c _ _ _)))
        go_wp2_with fail
        have N3 := Lib.hid (N1.out.drewN nq)
        generalize wr.drewN nq = wq at *
        have hcq := N3.out.cells
        have hfq := N3.out.froz
        simp only [HG.out] at hcq
        clear hcw hfw
        cases hs : lt6 (G p0) (G p1) with
        | false =>
          go_quiet (first | (go_at_call 47; refine Calls.quiet_of_same (less_c _ _ _)))
          have N2 := Lib.hid (N3.out.drewN nq)
          go_wp2_with fail
          trace_state
          refine bodyPost_ret (v := .tuple #[]) ?_ rfl ?_
          · simp [results, Try.results52]
          refine ⟨rfl, ?_⟩
          have := N2.out
          rw [show dk = siftDown lt6 hi first lo d from by rw [← HS.out, sift_c1 lt6 hi first r dk (by have := E1.out; omega) (.inl h2), if_neg (by rw [← E1.out, ← EP1.out, ← E0.out]; rw [HG.out, HG.out, hs]; decide)]] at this
          exact this
        | true =>
          go_quiet (first | (go_at_call 47; refine Calls.quiet_of_same (less_c _ _ _)))
          have N2 := Lib.hid (N3.out.drewN nq)
          go_wp2_with fail
          go_region
          all_goals go_wp2_with fail
          all_goals go_roundw
          case rel => exact ⟨c1, swp dk p0 p1, by go_num, by omega, by have h := N2.out.swp (i := p0) (j := p1) (by omega) (by omega); rw [HG.out, HG.out] at h; exact ⟨⟨h.1.os, h.1.tape, h.1.output, h.1.size, h.1.block⟩, h.2⟩, by
            rw [← HS.out, sift_c1 lt6 hi first r dk (by have := E1.out; omega) (.inl h2), if_pos (by rw [← E1.out, ← EP1.out, ← E0.out]; rw [HG.out, HG.out, hs]), E0.out, EP1.out, E1.out]; exact rfl⟩
          case measure => have := E1.out; simp [intOf]; omega
end Go.Proofs.Ytpgklhbbjbdejaa
