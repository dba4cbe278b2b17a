/-
  CONTRACTS of the reference's Reader: Text; 'meant' of the laws of layer 2.
-/
import Derived.Test.YtokhebplmldfkaaRefR5
namespace Go.Proofs.Ytokhebplmldfkaa
set_option linter.unusedSimpArgs false
set_option linter.unusedVariables false
open Go Go.RowKit

/-- What the reading of a text leaves. -/
def TextM (rd : Option (List UInt8 × Nat)) (w : World) (b : Nat) (A : Option Addr) (l : List UInt8) (bad : Bool) (e : Ending) (w' : World) : Prop :=
  Fr (fun k => k = b) w w' ∧ ((bad = false ∧ ∃ x n, rd = some (x, n) ∧ e = .returned (.string (strOf x)) ∧ ∃ A'', Rm w' b A'' (l.drop n) false ∧ ∀ k, inA A'' k → inA A k) ∨
    ((bad = true ∨ rd = none) ∧ e = .returned (.string ⟨#[]⟩) ∧ Rm w' b A l true))

set_option maxRecDepth 100000 in
set_option maxHeartbeats 1000000 in
/-- No number stands there. -/
theorem rrtext_none (w : World) (b : Nat) (A : Option Addr) (l : List UInt8) (bad : Bool) (most : Int) (hm0 : -9223372036854775808 ≤ most) (hm1 : most ≤ 9223372036854775807) (h : Rm w b A l bad) (hl : l.length ≤ 60000) (hx : rdNum l = none) :
    Calls Try.prog 46 #[.pointer (some ⟨b, 0, none⟩), .int .i64 most] w fun e w' => e = .returned (.string ⟨#[]⟩) ∧ Rm w' b A l true ∧ Fr (fun k => k = b) w w' := by
  have ha : aheadOf l = (0, 0) := by unfold aheadOf; rw [hx]
  have H := Lib.hid h
  have HA := Lib.hid ha
  have HLL := Lib.hid hl
  have hs1 := fun W => Lib.run_eql_slice_nil (P := Try.prog) W 27 5 none 0 0 0 0 Try.underlying27
  clear h ha hl hx
  go_enter Try.func46, Try.ntmps46
  go_wp2_with fail
  refine (ahead_c w b A l bad H.out HLL.out).mono ?_
  rintro e w1 ⟨rfl, q, rfl⟩
  rw [HA.out]
  go_wp2_with fail
  refine (off_bad (w.drewN q) b A l bad false 0 (by omega) (by omega) (H.out.drewN q) (.inr (.inl rfl))).mono ?_
  rintro e w2 ⟨rfl, h2, f2⟩
  have H2 := Lib.hid h2
  have F2 := Lib.hid (((Fr.refl (fun k => k = b) w).drewN q).trans f2 (fun _ _ h => h))
  clear h2 f2
  go_wp2_with fail
  go_ret
  exact ⟨rfl, H2.out, F2.out⟩

set_option maxRecDepth 100000 in
set_option maxHeartbeats 1000000 in
/-- It is to have a negative size at most. -/
theorem rrtext_neg (w : World) (b : Nat) (A : Option Addr) (l : List UInt8) (bad : Bool) (most : Int) (hm0 : -9223372036854775808 ≤ most) (hm1 : most < 0) (h : Rm w b A l bad) (hl : l.length ≤ 60000) (x n : Nat) (hx : rdNum l = some (x, n)) :
    Calls Try.prog 46 #[.pointer (some ⟨b, 0, none⟩), .int .i64 most] w fun e w' => e = .returned (.string ⟨#[]⟩) ∧ Rm w' b A l true ∧ Fr (fun k => k = b) w w' := by
  have ha : aheadOf l = (n, x) := by unfold aheadOf; rw [hx]
  obtain ⟨h1, _, h3, h4⟩ := rdNum_some hx
  have hn9 := size_le x
  have hpos : 0 < n := by omega
  have hn10 : n ≤ 9 := by omega
  have H := Lib.hid h
  have HA := Lib.hid ha
  have HLL := Lib.hid hl
  have hs1 := fun W => Lib.run_eql_slice_nil (P := Try.prog) W 27 5 none 0 0 0 0 Try.underlying27
  have d0 : ¬ 0 ≤ most := by omega
  clear h ha hl hx h1 h3 hn9
  go_enter Try.func46, Try.ntmps46
  go_wp2_with fail
  refine (ahead_c w b A l bad H.out HLL.out).mono ?_
  rintro e w1 ⟨rfl, q, rfl⟩
  rw [HA.out]
  go_wp2_with fail
  refine (off_bad (w.drewN q) b A l bad false n (by omega) (by omega) (H.out.drewN q) (.inr (.inl rfl))).mono ?_
  rintro e w2 ⟨rfl, h2, f2⟩
  have H2 := Lib.hid h2
  have F2 := Lib.hid (((Fr.refl (fun k => k = b) w).drewN q).trans f2 (fun _ _ h => h))
  clear h2 f2
  go_wp2_with fail
  go_ret
  exact ⟨rfl, H2.out, F2.out⟩

set_option maxRecDepth 100000 in
set_option maxHeartbeats 1000000 in
/-- A number stands there that is too great. -/
theorem rrtext_great (w : World) (b : Nat) (A : Option Addr) (l : List UInt8) (bad : Bool) (M : Nat) (hm1 : M ≤ 9223372036854775807) (h : Rm w b A l bad) (hl : l.length ≤ 60000) (x n : Nat) (hx : rdNum l = some (x, n)) (hg : M < x ∨ l.length - n < x) :
    Calls Try.prog 46 #[.pointer (some ⟨b, 0, none⟩), .int .i64 (M : Int)] w fun e w' => e = .returned (.string ⟨#[]⟩) ∧ Rm w' b A l true ∧ Fr (fun k => k = b) w w' := by
  have ha : aheadOf l = (n, x) := by unfold aheadOf; rw [hx]
  obtain ⟨h1, _, h3, h4⟩ := rdNum_some hx
  have hn9 := size_le x
  have hpos : 0 < n := by omega
  have hn10 : n ≤ 9 := by omega
  have H := Lib.hid h
  have HA := Lib.hid ha
  have HLL := Lib.hid hl
  have hs1 := fun W => Lib.run_eql_slice_nil (P := Try.prog) W 27 5 none 0 0 0 0 Try.underlying27
  have hmx : max (M : Int) 0 = (M : Int) := by omega
  obtain ⟨c, g1, _⟩ := h
  have c0 := g1.cell 0
  obtain ⟨L, hL⟩ : ∃ L, l.length = L := ⟨_, rfl⟩
  rw [hL] at c0 h1 hg hl
  clear ha hx h3 hn9 g1 hL
  go_enter Try.func46, Try.ntmps46
  go_wp2_with fail
  refine (ahead_c w b A l bad H.out HLL.out).mono ?_
  rintro e w1 ⟨rfl, q, rfl⟩
  rw [HA.out]
  by_cases hM : M < x
  · clear hg
    go_wp2_with fail
    refine (off_bad (w.drewN q) b A l bad false n (by omega) (by omega) (H.out.drewN q) (.inr (.inl rfl))).mono ?_
    rintro e w2 ⟨rfl, h2, f2⟩
    have H2 := Lib.hid h2
    have F2 := Lib.hid (((Fr.refl (fun k => k = b) w).drewN q).trans f2 (fun _ _ h => h))
    clear h2 f2
    go_wp2_with fail
    go_ret
    exact ⟨rfl, H2.out, F2.out⟩
  · have hD : decide ((x : Int) ≤ (L : Int) - (n : Int)) = false := by simp; omega
    clear hg
    go_wp2_with fail
    refine (off_bad (w.drewN q) b A l bad false n (by omega) (by omega) (H.out.drewN q) (.inr (.inl rfl))).mono ?_
    rintro e w2 ⟨rfl, h2, f2⟩
    have H2 := Lib.hid h2
    have F2 := Lib.hid (((Fr.refl (fun k => k = b) w).drewN q).trans f2 (fun _ _ h => h))
    clear h2 f2
    go_wp2_with fail
    go_ret
    exact ⟨rfl, H2.out, F2.out⟩

set_option maxRecDepth 100000 in
set_option maxHeartbeats 1000000 in
/-- A text stands there. -/
theorem rrtext_ok (w : World) (b : Nat) (A : Option Addr) (l : List UInt8) (M : Nat) (hm1 : M ≤ 9223372036854775807) (h : Rm w b A l false) (hl : l.length ≤ 60000) (x n : Nat) (hx : rdNum l = some (x, n)) (hM : x ≤ M) (hg : x ≤ l.length - n) :
    Calls Try.prog 46 #[.pointer (some ⟨b, 0, none⟩), .int .i64 (M : Int)] w fun e w' => e = .returned (.string (strOf ((l.drop n).take x))) ∧ (∃ A'', Rm w' b A'' (l.drop (n + x)) false ∧ ∀ k, inA A'' k → inA A k) ∧ Fr (fun k => k = b) w w' := by
  have ha : aheadOf l = (n, x) := by unfold aheadOf; rw [hx]
  obtain ⟨h1, _, h3, h4⟩ := rdNum_some hx
  have hn9 := size_le x
  have hpos : 0 < n := by omega
  have hn10 : n ≤ 9 := by omega
  have H := Lib.hid h
  have HA := Lib.hid ha
  have HLL := Lib.hid hl
  have hmx : max (M : Int) 0 = (M : Int) := by omega
  obtain ⟨c, g1, _⟩ := h
  have c0 := g1.cell 0
  obtain ⟨L, hL⟩ : ∃ L, l.length = L := ⟨_, rfl⟩
  rw [hL] at c0 h1 hg hl
  have HL := Lib.hid hL
  have hD : decide ((x : Int) ≤ (L : Int) - (n : Int)) = true := by simp; omega
  have hlen : (n : Int) + (x : Int) ≤ 60000 := by omega
  clear ha hx h3 hn9 g1 hL
  go_enter Try.func46, Try.ntmps46
  go_wp2_with fail
  refine (ahead_c w b A l false H.out HLL.out).mono ?_
  rintro e w1 ⟨rfl, q, rfl⟩
  rw [HA.out]
  go_wp2_with fail
  refine (off_ok (w.drewN q) b A l (n + x) _ (by omega) (by omega) (H.out.drewN q) (by rw [HL.out]; omega) HLL.out).mono ?_
  rintro e w2 ⟨g, c', rfl, r2, hc1, hc2, hg2, h2, f2⟩
  have H2 := Lib.hid h2
  have F2 := Lib.hid (((Fr.refl (fun k => k = b) w).drewN q).trans f2 (fun _ _ h => h))
  have hs1 := fun W => Lib.run_eql_slice_nil (P := Try.prog) W 27 5 (some ⟨g, 0, none⟩) (n + x) c' 0 0 Try.underlying27
  have cut := r2.cut (k := n) (cap := c') (by omega) hc1
  rw [← bv_drop, List.drop_take, Nat.add_sub_cancel_left] at cut
  unfold maxLen at hc2
  clear r2 h2 f2
  by_cases hcn : c' = n
  · rw [if_pos hcn] at cut
    obtain rfl : x = 0 := by omega
    subst hcn
    have cv := conv_str w2 _ _ 0 _ cut
    simp only [Nat.add_zero] at *
    clear cut
    go_wp2_with fail
    go_ret
    exact ⟨rfl, H2.out, F2.out⟩
  · rw [if_neg hcn] at cut
    have cut2 : Rd w2 (some ⟨g, n, none⟩) x (bv ((l.drop n).take x)) := by simpa [Addr.add, Nat.pos_iff_ne_zero.1 hpos] using cut
    have cv := conv_str w2 _ _ (c' - n) _ cut2
    clear cut cut2
    go_wp2_with fail
    go_ret
    exact ⟨rfl, H2.out, F2.out⟩

set_option maxRecDepth 100000 in
set_option maxHeartbeats 1000000 in
/-- A text stands there, behind a fault. -/
theorem rrtext_bad (w : World) (b : Nat) (A : Option Addr) (l : List UInt8) (M : Nat) (hm1 : M ≤ 9223372036854775807) (h : Rm w b A l true) (hl : l.length ≤ 60000) (x n : Nat) (hx : rdNum l = some (x, n)) (hM : x ≤ M) (hg : x ≤ l.length - n) :
    Calls Try.prog 46 #[.pointer (some ⟨b, 0, none⟩), .int .i64 (M : Int)] w fun e w' => e = .returned (.string ⟨#[]⟩) ∧ Rm w' b A l true ∧ Fr (fun k => k = b) w w' := by
  have ha : aheadOf l = (n, x) := by unfold aheadOf; rw [hx]
  obtain ⟨h1, _, h3, h4⟩ := rdNum_some hx
  have hn9 := size_le x
  have hpos : 0 < n := by omega
  have hn10 : n ≤ 9 := by omega
  have H := Lib.hid h
  have HA := Lib.hid ha
  have HLL := Lib.hid hl
  have hmx : max (M : Int) 0 = (M : Int) := by omega
  obtain ⟨c, g1, _⟩ := h
  have c0 := g1.cell 0
  obtain ⟨L, hL⟩ : ∃ L, l.length = L := ⟨_, rfl⟩
  rw [hL] at c0 h1 hg hl
  have hD : decide ((x : Int) ≤ (L : Int) - (n : Int)) = true := by simp; omega
  have hlen : (n : Int) + (x : Int) ≤ 60000 := by omega
  have hs1 := fun W => Lib.run_eql_slice_nil (P := Try.prog) W 27 5 none 0 0 0 0 Try.underlying27
  clear ha hx h3 hn9 g1 hL
  go_enter Try.func46, Try.ntmps46
  go_wp2_with fail
  refine (ahead_c w b A l true H.out HLL.out).mono ?_
  rintro e w1 ⟨rfl, q, rfl⟩
  rw [HA.out]
  go_wp2_with fail
  refine (off_bad (w.drewN q) b A l true true _ (by omega) (by omega) (H.out.drewN q) (.inl rfl)).mono ?_
  rintro e w2 ⟨rfl, h2, f2⟩
  have H2 := Lib.hid h2
  have F2 := Lib.hid (((Fr.refl (fun k => k = b) w).drewN q).trans f2 (fun _ _ h => h))
  clear h2 f2
  go_wp2_with fail
  go_ret
  exact ⟨rfl, H2.out, F2.out⟩

theorem rrtext_c (w : World) (b : Nat) (A : Option Addr) (l : List UInt8) (bad : Bool) (most : Int) (hm0 : -9223372036854775808 ≤ most) (hm1 : most ≤ 9223372036854775807) (h : Rm w b A l bad) (hl : l.length ≤ 60000) :
    Calls Try.prog 46 #[.pointer (some ⟨b, 0, none⟩), .int .i64 most] w (TextM (rdText most l) w b A l bad) := by
  cases hx : rdNum l with
  | none =>
    refine (rrtext_none w b A l bad most hm0 hm1 h hl hx).mono ?_
    rintro e w' ⟨rfl, h1, f1⟩
    exact ⟨f1, .inr ⟨.inr (by unfold rdText; rw [hx]), rfl, h1⟩⟩
  | some p =>
    obtain ⟨x, n⟩ := p
    have hn := (rdNum_some hx).1
    by_cases hneg : most < 0
    · refine (rrtext_neg w b A l bad most hm0 hneg h hl x n hx).mono ?_
      rintro e w' ⟨rfl, h1, f1⟩
      exact ⟨f1, .inr ⟨.inr (by unfold rdText; rw [hx]; simp only; rw [if_pos (.inl hneg)]), rfl, h1⟩⟩
    obtain ⟨M, rfl⟩ : ∃ M : Nat, most = M := ⟨most.toNat, by omega⟩
    by_cases hg : M < x ∨ l.length - n < x
    · refine (rrtext_great w b A l bad M (by omega) h hl x n hx hg).mono ?_
      rintro e w' ⟨rfl, h1, f1⟩
      refine ⟨f1, .inr ⟨.inr ?_, rfl, h1⟩⟩
      unfold rdText
      rw [hx]
      simp only
      rw [List.length_drop]
      by_cases h1 : (M : Int) < x
      · rw [if_pos (.inr h1)]
      · rw [if_neg (by omega), if_neg (by omega)]
    · have hok : rdText (M : Int) l = some ((l.drop n).take x, n + x) := by
        unfold rdText
        rw [hx]
        simp only
        rw [if_neg (by omega), List.length_drop, if_pos (by omega)]
      cases bad with
      | true =>
        refine (rrtext_bad w b A l M (by omega) h hl x n hx (by omega) (by omega)).mono ?_
        rintro e w' ⟨rfl, h1, f1⟩
        exact ⟨f1, .inr ⟨.inl rfl, rfl, h1⟩⟩
      | false =>
        refine (rrtext_ok w b A l M (by omega) h hl x n hx (by omega) (by omega)).mono ?_
        rintro e w' ⟨rfl, h1, f1⟩
        exact ⟨f1, .inl ⟨rfl, _, _, hok, rfl, h1⟩⟩
end Go.Proofs.Ytokhebplmldfkaa
