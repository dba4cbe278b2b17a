/-
  CONTRACTS: 'meant' of the laws of layer 2: what the reference's Reader answers to an item.
-/
import Derived.Test.YtokhebplmldfkaaRefR6
namespace Go.Proofs.Ytokhebplmldfkaa
set_option linter.unusedSimpArgs false
set_option linter.unusedVariables false
open Go Go.RowKit

/-- What 'meant' leaves. -/
def MeantOut (rd : Option ((Nat × List UInt8) × Nat)) (w : World) (b : Nat) (A : Option Addr) (l : List UInt8) (bad : Bool) (e : Ending) (w' : World) : Prop :=
  Fr (fun k => k = b) w w' ∧ ((bad = false ∧ ∃ x s n, rd = some ((x, s), n) ∧ x < 18446744073709551616 ∧ e = .returned (.tuple #[.int .u64 (x : Int), .string (strOf s)]) ∧ ∃ A'', Rm w' b A'' (l.drop n) false ∧ ∀ k, inA A'' k → inA A k) ∨
    ((bad = true ∨ rd = none) ∧ e = .returned (.tuple #[.int .u64 0, .string ⟨#[]⟩]) ∧ Rm w' b A l true))

/-- A number of so many bytes. -/
def NumM (rd : Option (Nat × Nat)) (w : World) (b : Nat) (A : Option Addr) (l : List UInt8) (bad : Bool) (e : Ending) (w' : World) : Prop :=
  Fr (fun k => k = b) w w' ∧ ((bad = false ∧ ∃ x n, rd = some (x, n) ∧ x < 18446744073709551616 ∧ e = .returned (.int .u64 (x : Int)) ∧ ∃ A'', Rm w' b A'' (l.drop n) false ∧ ∀ k, inA A'' k → inA A k) ∨
    ((bad = true ∨ rd = none) ∧ e = .returned (.int .u64 0) ∧ Rm w' b A l true))
theorem wide_m (w : World) (b : Nat) (A : Option Addr) (l : List UInt8) (bad : Bool) (N : Nat) (n : Int) (hn : n = N) (hpos : 0 < N) (h8 : N ≤ 8) (h : Rm w b A l bad) (hl : l.length ≤ 60000) :
    Calls Try.prog 44 #[.pointer (some ⟨b, 0, none⟩), .int .i64 n] w (NumM (rdFix N l) w b A l bad) := by
  by_cases hb : bad = true ∨ (l.length : Int) < n
  · refine (wide_bad w b A l bad n (by omega) (by omega) h hb).mono ?_
    rintro e w' ⟨rfl, h1, f1⟩
    refine ⟨f1, .inr ⟨?_, rfl, h1⟩⟩
    rcases hb with h | h
    · exact .inl h
    · exact .inr (by unfold rdFix; rw [if_neg (by omega)])
  · have hb2 : bad = false := by cases bad; rfl; exact absurd (.inl rfl) hb
    subst hb2
    have hNl : N ≤ l.length := by omega
    refine (wide_ok w b A l N n hn hpos h8 h hNl hl).mono ?_
    rintro e w' ⟨rfl, h1, f1⟩
    have hr : rdFix N l = some (num (l.take N), N) := by unfold rdFix; rw [if_pos hNl]
    exact ⟨f1, .inl ⟨rfl, _, _, hr, Nat.lt_of_lt_of_le (rdFix_le hr) (pow256_mono (b := 8) h8), rfl, h1⟩⟩
theorem uint_m (w : World) (b : Nat) (A : Option Addr) (l : List UInt8) (bad : Bool) (h : Rm w b A l bad) (hl : l.length ≤ 60000) :
    Calls Try.prog 45 #[.pointer (some ⟨b, 0, none⟩)] w (NumM (rdNum l) w b A l bad) := by
  by_cases hb : bad = true ∨ rdNum l = none
  · refine (rruint_no w b A l bad h hl hb).mono ?_
    rintro e w' ⟨rfl, h1, f1⟩
    exact ⟨f1, .inr ⟨hb, rfl, h1⟩⟩
  · have hb2 : bad = false := by cases bad; rfl; exact absurd (.inl rfl) hb
    subst hb2
    cases hx : rdNum l with
    | none => exact absurd (.inr hx) hb
    | some p =>
      obtain ⟨x, n⟩ := p
      refine (ruint_ok w b A l h hl x n hx).mono ?_
      rintro e w' ⟨rfl, h1, f1⟩
      exact ⟨f1, .inl ⟨rfl, x, n, rfl, (rdNum_some hx).2.2.2, rfl, h1⟩⟩

set_option maxRecDepth 100000 in
set_option maxHeartbeats 4000000 in
theorem meant_c (w : World) (b : Nat) (A : Option Addr) (l : List UInt8) (bad : Bool) (t : It) (ht : t.Ok) (h : Rm w b A l bad) (hl : l.length ≤ 60000) :
    Calls Try.prog 20 #[.pointer (some ⟨b, 0, none⟩), t.val] w (MeantOut (rdItem t l) w b A l bad) := by
  obtain ⟨k, m, x, s⟩ := t
  have hk : k % 5 = 0 ∨ k % 5 = 1 ∨ k % 5 = 2 ∨ k % 5 = 3 ∨ k % 5 = 4 := by omega
  have m0 := ht.m0
  have m1 := ht.m1
  simp only at m0 m1
  have HT := Lib.hid ht
  have H := Lib.hid h
  have HLL := Lib.hid hl
  obtain ⟨hb, hA⟩ : b < w.heap.size ∧ ∀ k, inA A k → k ≠ b := by
    obtain ⟨c, h1, _, _, _, h2⟩ := h
    exact ⟨h1.lt, h2⟩
  have HAA := Lib.hid hA
  clear ht h hl hA
  have kc : ∀ W, Calls Try.prog 25 #[.agg #[.int .i64 k, .int .i64 m, .int .u64 (x : Int), .string s]] W fun e w' => e = .returned (.int .i64 (k % 5)) ∧ Fr (fun _ => False) W w' := fun W => kind_c W ⟨k, m, x, s⟩ HT.out
  have KC := Lib.hid kc
  clear kc
  unfold It.val rdItem
  simp only
  rcases hk with hk | hk | hk | hk | hk
  · have HK := Lib.hid hk
    rw [if_pos hk]
    clear hk
    go_enter Try.func20, Try.ntmps20
    go_wp2_with fail
    refine (KC.out _).mono ?_
    rintro e w1 ⟨rfl, f1⟩
    rw [HK.out]
    have hk9 := (Blk.new w 31 #[.int .i64 k, .int .i64 m, .int .u64 (x : Int), .string s]).fr f1 (fun h => h)
    have c1 := hk9.cell 1
    have F1 := Lib.hid (((Fr.refl (fun _ => False) w).alloc (.cells #[.int .i64 k, .int .i64 m, .int .u64 (x : Int), .string s] 31)).trans f1 (fun _ _ h => h))
    clear f1 hk9
    go_wp2_with fail
    refine (wide_m w1 b A l bad 1 _ rfl (by omega) (by omega) (H.out.fr F1.out (fun h => h) (fun _ _ h => h)) HLL.out).mono ?_
    intro e w2 h12
    obtain ⟨f2, h2⟩ := h12
    have FF := Lib.hid ((F1.out.mono (fun _ _ h => h.elim)).trans f2 (fun _ _ h => h) : Fr (fun k => k = b) w w2)
    clear f2
    rcases h2 with ⟨hb0, y, n, hr, hy, rfl, h2⟩ | ⟨hr, rfl, h2⟩
    · have H2 := Lib.hid h2
      have HR := Lib.hid hr
      have HB0 := Lib.hid hb0
      clear h2 hr hb0
      go_wp2_with fail
      go_ret2
      exact ⟨FF.out, .inl ⟨HB0.out, y, [], n, by rw [HR.out]; rfl, hy, rfl, H2.out⟩⟩
    · have H2 := Lib.hid h2
      have HR := Lib.hid hr
      clear h2 hr
      go_wp2_with fail
      go_ret2
      refine ⟨FF.out, .inr ⟨?_, rfl, H2.out⟩⟩
      rcases HR.out with h | h
      · exact .inl h
      · exact .inr (by rw [h]; rfl)
  · have HK := Lib.hid hk
    rw [if_neg (by omega), if_pos hk]
    clear hk
    go_enter Try.func20, Try.ntmps20
    go_wp2_with fail
    refine (KC.out _).mono ?_
    rintro e w1 ⟨rfl, f1⟩
    rw [HK.out]
    have hk9 := (Blk.new w 31 #[.int .i64 k, .int .i64 m, .int .u64 (x : Int), .string s]).fr f1 (fun h => h)
    have c1 := hk9.cell 1
    have F1 := Lib.hid (((Fr.refl (fun _ => False) w).alloc (.cells #[.int .i64 k, .int .i64 m, .int .u64 (x : Int), .string s] 31)).trans f1 (fun _ _ h => h))
    clear f1 hk9
    go_wp2_with fail
    refine (wide_m w1 b A l bad 4 _ rfl (by omega) (by omega) (H.out.fr F1.out (fun h => h) (fun _ _ h => h)) HLL.out).mono ?_
    intro e w2 h12
    obtain ⟨f2, h2⟩ := h12
    have FF := Lib.hid ((F1.out.mono (fun _ _ h => h.elim)).trans f2 (fun _ _ h => h) : Fr (fun k => k = b) w w2)
    clear f2
    rcases h2 with ⟨hb0, y, n, hr, hy, rfl, h2⟩ | ⟨hr, rfl, h2⟩
    · have H2 := Lib.hid h2
      have HR := Lib.hid hr
      have HB0 := Lib.hid hb0
      clear h2 hr hb0
      go_wp2_with fail
      go_ret2
      exact ⟨FF.out, .inl ⟨HB0.out, y, [], n, by rw [HR.out]; rfl, hy, rfl, H2.out⟩⟩
    · have H2 := Lib.hid h2
      have HR := Lib.hid hr
      clear h2 hr
      go_wp2_with fail
      go_ret2
      refine ⟨FF.out, .inr ⟨?_, rfl, H2.out⟩⟩
      rcases HR.out with h | h
      · exact .inl h
      · exact .inr (by rw [h]; rfl)
  · have HK := Lib.hid hk
    rw [if_neg (by omega), if_neg (by omega), if_pos hk]
    clear hk
    go_enter Try.func20, Try.ntmps20
    go_wp2_with fail
    refine (KC.out _).mono ?_
    rintro e w1 ⟨rfl, f1⟩
    rw [HK.out]
    have hk9 := (Blk.new w 31 #[.int .i64 k, .int .i64 m, .int .u64 (x : Int), .string s]).fr f1 (fun h => h)
    have c1 := hk9.cell 1
    have F1 := Lib.hid (((Fr.refl (fun _ => False) w).alloc (.cells #[.int .i64 k, .int .i64 m, .int .u64 (x : Int), .string s] 31)).trans f1 (fun _ _ h => h))
    clear f1 hk9
    go_wp2_with fail
    refine (uint_m w1 b A l bad (H.out.fr F1.out (fun h => h) (fun _ _ h => h)) HLL.out).mono ?_
    intro e w2 h12
    obtain ⟨f2, h2⟩ := h12
    have FF := Lib.hid ((F1.out.mono (fun _ _ h => h.elim)).trans f2 (fun _ _ h => h) : Fr (fun k => k = b) w w2)
    clear f2
    rcases h2 with ⟨hb0, y, n, hr, hy, rfl, h2⟩ | ⟨hr, rfl, h2⟩
    · have H2 := Lib.hid h2
      have HR := Lib.hid hr
      have HB0 := Lib.hid hb0
      clear h2 hr hb0
      go_wp2_with fail
      go_ret2
      exact ⟨FF.out, .inl ⟨HB0.out, y, [], n, by rw [HR.out]; rfl, hy, rfl, H2.out⟩⟩
    · have H2 := Lib.hid h2
      have HR := Lib.hid hr
      clear h2 hr
      go_wp2_with fail
      go_ret2
      refine ⟨FF.out, .inr ⟨?_, rfl, H2.out⟩⟩
      rcases HR.out with h | h
      · exact .inl h
      · exact .inr (by rw [h]; rfl)
  · have HK := Lib.hid hk
    rw [if_neg (by omega), if_neg (by omega), if_neg (by omega), if_pos hk]
    clear hk
    go_enter Try.func20, Try.ntmps20
    go_wp2_with fail
    refine (KC.out _).mono ?_
    rintro e w1 ⟨rfl, f1⟩
    rw [HK.out]
    have hk9 := (Blk.new w 31 #[.int .i64 k, .int .i64 m, .int .u64 (x : Int), .string s]).fr f1 (fun h => h)
    have c1 := hk9.cell 1
    have F1 := Lib.hid (((Fr.refl (fun _ => False) w).alloc (.cells #[.int .i64 k, .int .i64 m, .int .u64 (x : Int), .string s] 31)).trans f1 (fun _ _ h => h))
    clear f1 hk9
    go_wp2_with fail
    refine (rrtext_c w1 b A l bad m m0 m1 (H.out.fr F1.out (fun h => h) (fun _ _ h => h)) HLL.out).mono ?_
    intro e w2 h12
    obtain ⟨f2, h2⟩ := h12
    have FF := Lib.hid ((F1.out.mono (fun _ _ h => h.elim)).trans f2 (fun _ _ h => h) : Fr (fun k => k = b) w w2)
    clear f2
    rcases h2 with ⟨hb0, y, n, hr, rfl, h2⟩ | ⟨hr, rfl, h2⟩
    · have H2 := Lib.hid h2
      have HR := Lib.hid hr
      have HB0 := Lib.hid hb0
      clear h2 hr hb0
      go_wp2_with fail
      go_ret2
      exact ⟨FF.out, .inl ⟨HB0.out, 0, y, n, by rw [HR.out]; rfl, by omega, rfl, H2.out⟩⟩
    · have H2 := Lib.hid h2
      have HR := Lib.hid hr
      clear h2 hr
      go_wp2_with fail
      go_ret2
      refine ⟨FF.out, .inr ⟨?_, rfl, H2.out⟩⟩
      rcases HR.out with h | h
      · exact .inl h
      · exact .inr (by rw [h]; rfl)
  · have HK := Lib.hid hk
    rw [if_neg (by omega), if_neg (by omega), if_neg (by omega), if_neg (by omega)]
    clear hk
    go_enter Try.func20, Try.ntmps20
    go_wp2_with fail
    refine (KC.out _).mono ?_
    rintro e w1 ⟨rfl, f1⟩
    rw [HK.out]
    have hk9 := (Blk.new w 31 #[.int .i64 k, .int .i64 m, .int .u64 (x : Int), .string s]).fr f1 (fun h => h)
    have c1 := hk9.cell 1
    have F1 := Lib.hid (((Fr.refl (fun _ => False) w).alloc (.cells #[.int .i64 k, .int .i64 m, .int .u64 (x : Int), .string s] 31)).trans f1 (fun _ _ h => h))
    clear f1 hk9
    go_wp2_with fail
    have R1 := Lib.hid (H.out.fr F1.out (fun h => h) (fun _ _ h => h))
    go_region_with (first | (go_at_call 47; refine (rraw_m _ b A l bad m m0 m1 (R1.out.fr ((Fr.refl (fun _ => False) w1).drew) (fun h => h) (fun _ _ h => h)) HLL.out).mono ?_; rintro e w2 ⟨f2, A2, n2, c2, x2, rfl, r2, h2⟩; have hcv := conv_str w2 A2 n2 c2 x2 r2; have H2 := Lib.hid h2; have F2 := Lib.hid f2; clear h2 f2 r2))
    all_goals
      go_wp2_with fail
      go_ret2
      refine ⟨((F1.out.mono (fun _ _ h => h.elim)).drew).trans F2.out (fun _ _ h => h), ?_⟩
      rcases H2.out with ⟨hb0, n, hr, h2⟩ | ⟨hr, hx, h2⟩
      · exact .inl ⟨hb0, 0, x2, n, by rw [hr]; rfl, by omega, rfl, h2⟩
      · subst hx
        refine .inr ⟨?_, rfl, h2⟩
        rcases hr with h | h
        · exact .inl h
        · exact .inr (by rw [h]; rfl)
end Go.Proofs.Ytokhebplmldfkaa
