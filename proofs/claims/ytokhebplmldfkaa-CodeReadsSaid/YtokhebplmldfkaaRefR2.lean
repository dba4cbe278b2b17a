/-
  CONTRACTS of the reference's Reader: off of nothing, Wide.
-/
import Derived.Test.YtokhebplmldfkaaRefR
namespace Go.Proofs.Ytokhebplmldfkaa
set_option linter.unusedSimpArgs false
set_option linter.unusedVariables false
open Go Go.RowKit

set_option maxRecDepth 100000 in
set_option maxHeartbeats 1000000 in
theorem off_zero (w : World) (b : Nat) (A : Option Addr) (l : List UInt8) (h : Rm w b A l false) :
    Calls Try.prog 48 #[.pointer (some ⟨b, 0, none⟩), .int .i64 0, .bool true] w fun e w' => ∃ A' c', e = .returned (.slice A' 0 c') ∧ (∃ A'', Rm w' b A'' l false ∧ ∀ k, inA A'' k → inA A k) ∧ Fr (fun k => k = b) w w' := by
  have hb1 := h.bad_ false
  have HB := Lib.hid hb1
  have HF := Lib.hid ((Fr.refl (fun k => k = b) w).setCell (p := ⟨b, 1, none⟩) (fun _ => rfl) (.bool false))
  obtain ⟨c, h1, h2, h3, h4, h5⟩ := h
  have c0 := h1.cell 0
  have c1 := h1.cell 1
  have k1 := h1.frozen 1
  obtain ⟨c9, g1, -⟩ := hb1
  have d1 := g1.cell 1
  clear h1 h2 h5 g1
  generalize hL : l.length = L at *
  have HL := Lib.hid hL
  clear hL
  have q1 : ¬ (L : Int) < 0 := by omega
  go_enter Try.func48, Try.ntmps48
  go_wp2_with fail
  generalize hw1 : w.setCell ⟨b, 1, none⟩ (.bool false) = w1 at *
  refine (whole_i w1 0 0 0 0 rfl rfl (by omega)).mono ?_
  rintro e w2 ⟨v2, rfl, o2, f2⟩
  have HZ : ((Try.prog.info? 5).map (·.size)) = some 1 := by kernel_rfl
  obtain ⟨A2, c2, rfl, _, _⟩ := own_slice o2
  have R2 := Lib.hid (HB.out.fr f2 (fun h => h) (fun _ _ h => h))
  obtain ⟨c', g1, g2, g3, g4, g5⟩ := R2.out
  rw [HL.out] at g1 g2 g3
  have d0 := g1.cell 0
  have k0 := g1.frozen 0
  have G1 := Lib.hid g1
  have G2 := Lib.hid g2
  have G5 := Lib.hid g5
  have F2 := Lib.hid f2
  have hrun := run_copy_none (P := Try.prog) w2 27 27 3 5 A2 A 0 c2 L c' Try.underlying27 HZ (Nat.min_zero _)
  have F3 : Hid (Fr (fun k => k = b) w w2) := HF.out.trans F2.out (fun _ _ h => h.elim)
  clear o2 f2 g1 g2 g5 c0 c1 k1 d1 hw1
  go_wp2_with fail
  go_ret
  refine ⟨A2, c2, rfl, ⟨A, ⟨c', ?_, ?_, by rw [HL.out]; exact g3, g4, G5.out⟩, fun _ h => h⟩, F3.out.setCell (fun _ => rfl) _⟩
  · rw [HL.out]
    have := G1.out.set_ 0 (.slice A L c')
    simpa using this
  · rw [HL.out]
    exact G2.out.fr ((Fr.refl (fun k => k = b) w2).setCell (fun _ => rfl) _) (fun k hk => G5.out k hk)

theorem Rm.drewN {w : World} {b : Nat} {A : Option Addr} {l : List UInt8} {bad : Bool} (h : Rm w b A l bad) (q : Nat) : Rm (w.drewN q) b A l bad := h.fr ((Fr.refl (fun _ => False) w).drewN q) (fun h => h) (fun _ _ h => h)

set_option maxHeartbeats 1000000 in
theorem wide_ok (w : World) (b : Nat) (A : Option Addr) (l : List UInt8) (N : Nat) (n : Int) (hn : n = N) (hpos : 0 < N) (h8 : N ≤ 8) (h : Rm w b A l false) (hN : N ≤ l.length) (hl : l.length ≤ 60000) :
    Calls Try.prog 44 #[.pointer (some ⟨b, 0, none⟩), .int .i64 n] w fun e w' => e = .returned (.int .u64 (num (l.take N) : Int)) ∧ (∃ A'', Rm w' b A'' (l.drop N) false ∧ ∀ k, inA A'' k → inA A k) ∧ Fr (fun k => k = b) w w' := by
  subst hn
  have H := Lib.hid h
  have HN := Lib.hid hN
  have HLL := Lib.hid hl
  clear h hN hl
  obtain ⟨X, hX⟩ : ∃ X, num (l.take N) = X := ⟨_, rfl⟩
  rw [hX]
  have HX := Lib.hid hX
  clear hX
  go_enter Try.func44, Try.ntmps44
  go_wp2_with fail
  refine (off_ok w b A l N _ rfl hpos H.out HN.out HLL.out).mono ?_
  rintro e w1 ⟨g, c', rfl, r1, hc1, hc2, hg, h1, f1⟩
  have R1 := Lib.hid r1
  have H1 := Lib.hid h1
  have F1 := Lib.hid f1
  clear r1 h1 f1
  go_wp2_with fail
  refine (sum_c w1 _ N c' (l.take N) R1.out h8 hc1 hc2).mono ?_
  rintro e w2 ⟨rfl, q, rfl⟩
  rw [HX.out]
  go_wp2_with fail
  go_ret
  obtain ⟨A'', j1, j2⟩ := H1.out
  exact ⟨rfl, ⟨A'', j1.drewN q, j2⟩, F1.out.drewN q⟩
set_option maxHeartbeats 1000000 in
theorem wide_bad (w : World) (b : Nat) (A : Option Addr) (l : List UInt8) (bad : Bool) (n : Int) (hm0 : -9223372036854775808 ≤ n) (hm1 : n ≤ 9223372036854775807) (h : Rm w b A l bad) (hb : bad = true ∨ (l.length : Int) < n) :
    Calls Try.prog 44 #[.pointer (some ⟨b, 0, none⟩), .int .i64 n] w fun e w' => e = .returned (.int .u64 0) ∧ Rm w' b A l true ∧ Fr (fun k => k = b) w w' := by
  have H := Lib.hid h
  clear h
  have hb2 : bad = true ∨ true = false ∨ n < 0 ∨ (l.length : Int) < n := by
    rcases hb with h | h
    · exact .inl h
    · exact .inr (.inr (.inr h))
  go_enter Try.func44, Try.ntmps44
  go_wp2_with fail
  refine (off_bad w b A l bad true n hm0 hm1 H.out hb2).mono ?_
  rintro e w1 ⟨rfl, h1, f1⟩
  have H1 := Lib.hid h1
  have F1 := Lib.hid f1
  clear h1 f1
  go_wp2_with fail
  refine (sum_c w1 none 0 0 [] (Rd.none_ _ _) (by omega) (by omega) (by unfold maxLen; omega)).mono ?_
  rintro e w2 ⟨rfl, q, rfl⟩
  go_wp2_with fail
  go_ret
  exact ⟨rfl, H1.out.drewN q, F1.out.drewN q⟩
end Go.Proofs.Ytokhebplmldfkaa
