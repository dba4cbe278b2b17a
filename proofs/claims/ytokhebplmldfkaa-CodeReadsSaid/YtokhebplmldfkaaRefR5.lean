/-
  CONTRACTS of the reference's Reader: Uint where no number stands, Raw, End.
-/
import Derived.Test.YtokhebplmldfkaaRefR4
namespace Go.Proofs.Ytokhebplmldfkaa
set_option linter.unusedSimpArgs false
set_option linter.unusedVariables false
open Go Go.RowKit

set_option maxRecDepth 100000 in
set_option maxHeartbeats 1000000 in
theorem ruint_none (w : World) (b : Nat) (A : Option Addr) (l : List UInt8) (bad : Bool) (h : Rm w b A l bad) (hl : l.length ≤ 60000) (hx : rdNum l = none) :
    Calls Try.prog 45 #[.pointer (some ⟨b, 0, none⟩)] w fun e w' => e = .returned (.int .u64 0) ∧ Rm w' b A l true ∧ Fr (fun k => k = b) w w' := by
  have ha : aheadOf l = (0, 0) := by unfold aheadOf; rw [hx]
  have H := Lib.hid h
  have HA := Lib.hid ha
  have HLL := Lib.hid hl
  have hs1 := fun W => Lib.run_eql_slice_nil (P := Try.prog) W 27 5 none 0 0 0 0 Try.underlying27
  clear h ha hl hx
  go_enter Try.func45, Try.ntmps45
  go_wp2_with fail
  refine (ahead_c w b A l bad H.out HLL.out).mono ?_
  rintro e w1 ⟨rfl, q, rfl⟩
  rw [HA.out]
  go_wp2_with fail
  refine (off_bad (w.drewN q) b A l bad false 0 (by omega) (by omega) (H.out.drewN q) (.inr (.inl rfl))).mono ?_
  rintro e w2 ⟨rfl, h2, f2⟩
  have H2 := Lib.hid h2
  have F2 := Lib.hid (((Fr.refl (fun k => k = b) w).drewN q).trans f2 (fun _ _ h => h))
  clear h2 f2
  go_wp2_with fail
  go_ret
  exact ⟨rfl, H2.out, F2.out⟩

set_option maxRecDepth 100000 in
set_option maxHeartbeats 1000000 in
theorem rruint_bad (w : World) (b : Nat) (A : Option Addr) (l : List UInt8) (h : Rm w b A l true) (hl : l.length ≤ 60000) (x n : Nat) (hx : rdNum l = some (x, n)) :
    Calls Try.prog 45 #[.pointer (some ⟨b, 0, none⟩)] w fun e w' => e = .returned (.int .u64 0) ∧ Rm w' b A l true ∧ Fr (fun k => k = b) w w' := by
  have ha : aheadOf l = (n, x) := by unfold aheadOf; rw [hx]
  obtain ⟨h1, _, h3, h4⟩ := rdNum_some hx
  have hn9 := size_le x
  have H := Lib.hid h
  have HA := Lib.hid ha
  have HLL := Lib.hid hl
  have hpos : 0 < n := by omega
  have hn10 : n ≤ 9 := by omega
  clear h ha hl h1 hx h3 hn9
  have hs1 := fun W => Lib.run_eql_slice_nil (P := Try.prog) W 27 5 none 0 0 0 0 Try.underlying27
  have hd : decide ((0 : Int) < (n : Int)) = true := by simp; omega
  go_enter Try.func45, Try.ntmps45
  go_wp2_with fail
  refine (ahead_c w b A l true H.out HLL.out).mono ?_
  rintro e w1 ⟨rfl, q, rfl⟩
  rw [HA.out]
  go_wp2_with fail
  refine (off_bad (w.drewN q) b A l true true n (by omega) (by omega) (H.out.drewN q) (.inl rfl)).mono ?_
  rintro e w2 ⟨rfl, h2, f2⟩
  have H2 := Lib.hid h2
  have F2 := Lib.hid (((Fr.refl (fun k => k = b) w).drewN q).trans f2 (fun _ _ h => h))
  clear h2 f2
  go_wp2_with fail
  go_ret
  exact ⟨rfl, H2.out, F2.out⟩

theorem rruint_no (w : World) (b : Nat) (A : Option Addr) (l : List UInt8) (bad : Bool) (h : Rm w b A l bad) (hl : l.length ≤ 60000) (hx : bad = true ∨ rdNum l = none) :
    Calls Try.prog 45 #[.pointer (some ⟨b, 0, none⟩)] w fun e w' => e = .returned (.int .u64 0) ∧ Rm w' b A l true ∧ Fr (fun k => k = b) w w' := by
  cases hr : rdNum l with
  | none => exact ruint_none w b A l bad h hl hr
  | some p =>
    obtain ⟨x, n⟩ := p
    rcases hx with rfl | hx
    · exact rruint_bad w b A l h hl x n hr
    · rw [hx] at hr; cases hr

/-- Raw: the bytes, as they read. -/
def RawM (k : Int) (w : World) (b : Nat) (A : Option Addr) (l : List UInt8) (bad : Bool) (e : Ending) (w' : World) : Prop :=
  Fr (fun k => k = b) w w' ∧ ∃ A1 n1 c1 x, e = .returned (.slice A1 n1 c1) ∧ Rd w' A1 n1 (bv x) ∧
    ((bad = false ∧ ∃ n, rdRaw k l = some (x, n) ∧ ∃ A'', Rm w' b A'' (l.drop n) false ∧ ∀ k, inA A'' k → inA A k) ∨ ((bad = true ∨ rdRaw k l = none) ∧ x = [] ∧ Rm w' b A l true))

theorem offraw_c (w : World) (b : Nat) (A : Option Addr) (l : List UInt8) (bad : Bool) (k : Int) (hm0 : -9223372036854775808 ≤ k) (hm1 : k ≤ 9223372036854775807) (h : Rm w b A l bad) (hl : l.length ≤ 60000) :
    Calls Try.prog 48 #[.pointer (some ⟨b, 0, none⟩), .int .i64 k, .bool true] w (RawM k w b A l bad) := by
  by_cases hbad : bad = true ∨ k < 0 ∨ (l.length : Int) < k
  · refine (off_bad w b A l bad true k hm0 hm1 h (by rcases hbad with h | h | h; exact .inl h; exact .inr (.inr (.inl h)); exact .inr (.inr (.inr h)))).mono ?_
    rintro e w' ⟨rfl, h1, f1⟩
    refine ⟨f1, none, 0, 0, [], rfl, Rd.none_ _ _, .inr ⟨?_, rfl, h1⟩⟩
    rcases hbad with h | h | h
    · exact .inl h
    · exact .inr (by unfold rdRaw; rw [if_pos h])
    · exact .inr (by unfold rdRaw; rw [if_neg (by omega), if_neg (by omega)])
  · have hb2 : bad = false ∧ 0 ≤ k ∧ k ≤ (l.length : Int) := by
      cases bad
      · exact ⟨rfl, by omega, by omega⟩
      · exact absurd (.inl rfl) hbad
    obtain ⟨rfl, hk0, hk1⟩ := hb2
    obtain ⟨N, rfl⟩ : ∃ N : Nat, k = N := ⟨k.toNat, by omega⟩
    have hraw : rdRaw (N : Int) l = some (l.take N, N) := by
      unfold rdRaw
      rw [if_neg (by omega), Int.toNat_natCast, if_pos (by omega)]
    rcases Nat.eq_zero_or_pos N with h0 | hpos
    · subst h0
      refine (off_zero w b A l h).mono ?_
      rintro e w' ⟨A', c', rfl, h1, f1⟩
      exact ⟨f1, A', 0, c', [], rfl, Rd.none_ _ _, .inl ⟨rfl, 0, hraw, by rw [List.drop_zero]; exact h1⟩⟩
    · refine (off_ok w b A l N N rfl hpos h (by omega) hl).mono ?_
      rintro e w' ⟨g, c', rfl, r1, _, _, _, h1, f1⟩
      exact ⟨f1, _, N, c', _, rfl, r1, .inl ⟨rfl, N, hraw, h1⟩⟩

set_option maxHeartbeats 1000000 in
theorem rraw_m (w : World) (b : Nat) (A : Option Addr) (l : List UInt8) (bad : Bool) (k : Int) (hm0 : -9223372036854775808 ≤ k) (hm1 : k ≤ 9223372036854775807) (h : Rm w b A l bad) (hl : l.length ≤ 60000) :
    Calls Try.prog 47 #[.pointer (some ⟨b, 0, none⟩), .int .i64 k] w (RawM k w b A l bad) := by
  have H := Lib.hid h
  have HLL := Lib.hid hl
  clear h hl
  go_enter Try.func47, Try.ntmps47
  go_wp2_with fail
  refine (offraw_c w b A l bad k hm0 hm1 H.out HLL.out).mono ?_
  intro e w1 h1
  obtain ⟨f1, A1, n1, c1, x, rfl, h2⟩ := h1
  have F1 := Lib.hid f1
  have H2 := Lib.hid h2
  clear f1 h2
  go_wp2_with fail
  go_ret
  exact ⟨F1.out, A1, n1, c1, x, rfl, H2.out⟩

/-- Is there, or was there, a fault? -/
def EndM (w : World) (b : Nat) (l : List UInt8) (bad : Bool) (e : Ending) (w' : World) : Prop :=
  e = .returned (.bool (bad || decide (0 < l.length))) ∧ Fr (fun k => k = b) w w'

set_option maxHeartbeats 1000000 in
theorem rend_c (w : World) (b : Nat) (A : Option Addr) (l : List UInt8) (bad : Bool) (h : Rm w b A l bad) (hl : l.length ≤ 60000) :
    Calls Try.prog 23 #[.pointer (some ⟨b, 0, none⟩)] w (EndM w b l bad) := by
  have hh := h
  obtain ⟨c, h1, _⟩ := hh
  have c0 := h1.cell 0
  have c1 := h1.cell 1
  have H := Lib.hid h
  clear h h1 hl
  obtain ⟨L, hL⟩ : ∃ L, l.length = L := ⟨_, rfl⟩
  rw [hL] at c0
  unfold EndM
  rw [hL]
  have HL := Lib.hid hL
  clear hL
  by_cases hcase : bad = false ∧ L = 0
  · obtain ⟨rfl, rfl⟩ := hcase
    go_enter Try.func23, Try.ntmps23
    go_wp2_with fail
    refine (off_zero w b A l H.out).mono ?_
    rintro e w1 ⟨A', c', rfl, ⟨A'', h2, _⟩, f1⟩
    obtain ⟨c2, h3, _⟩ := h2
    have d1 := h3.cell 1
    have F1 := Lib.hid f1
    clear h3 f1
    go_wp2_with fail
    go_ret
    exact ⟨rfl, F1.out⟩
  · have hres : (bad || decide (0 < L)) = true := by
      cases bad
      · simp at hcase ⊢; omega
      · rfl
    rw [hres]
    have hd : ((L : Int) == 0) = decide (L = 0) := by
      by_cases h : L = 0
      · subst h; rfl
      · simp [h]
    have HB : bad = true ∨ decide (L = 0) = false := by
      cases bad
      · right; simp at hcase ⊢; exact hcase
      · exact .inl rfl
    have hb2 : Hid (bad = true ∨ decide (L = 0) = false ∨ (0 : Int) < 0 ∨ (l.length : Int) < 0) := by
      rcases HB with h | h
      · exact .inl h
      · exact .inr (.inl h)
    clear HB hres hcase
    generalize decide (L = 0) = right at *
    go_enter Try.func23, Try.ntmps23
    go_wp2_with fail
    refine (off_bad w b A l bad right 0 (by omega) (by omega) H.out hb2.out).mono ?_
    rintro e w1 ⟨rfl, h2, f1⟩
    obtain ⟨c2, h3, _⟩ := h2
    have d1 := h3.cell 1
    have F1 := Lib.hid f1
    clear h3 f1
    go_wp2_with fail
    go_ret
    exact ⟨rfl, F1.out⟩
end Go.Proofs.Ytokhebplmldfkaa
