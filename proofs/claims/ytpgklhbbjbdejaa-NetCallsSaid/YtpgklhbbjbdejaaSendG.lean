/-
  CONTRACTS of Send and Double, whatever put answers; Send's refusals.
-/
import Derived.Test.YtpgklhbbjbdejaaDelG
namespace Go.Proofs.Ytpgklhbbjbdejaa
set_option linter.unusedSimpArgs false
set_option linter.unusedVariables false
open Go Go.RowKit Go.Maps

theorem has_c (w : World) (g mb : Nat) (r : Nat) (last : Int) (lk : Nat → Int) (f : Int) (b : Bool) (hB : Blk w g 46 (netC (r : Nat) last (some mb) lk)) (hb : decide (1 ≤ f ∧ f ≤ (r : Nat)) = b) :
    Calls Try.prog 31 #[.pointer (some ⟨g, 0, none⟩), .int .i64 f] w fun e w' => e = .returned (.bool b) ∧ w' = w := by
  have h := has_of w _ (r : Nat) f (replicas_yes w g (r : Nat) last mb lk hB)
  have : (decide (1 ≤ f) && decide (f ≤ ((r : Nat) : Int))) = b := by rw [← hb]; simp
  rw [this] at h
  exact h

set_option maxRecDepth 100000 in
set_option maxHeartbeats 1000000 in
theorem send_of (w : World) (g mb r : Nat) (last : Int) (lk : Nat → Int) (f t : Int) (A : Option Addr) (m c : Nat) (Q : Int → Int → World → Prop)
    (hB : Blk w g 46 (netC (r : Nat) last (some mb) lk)) (hf : 1 ≤ f ∧ f ≤ (r : Nat)) (ht : 1 ≤ t ∧ t ≤ (r : Nat)) (hne : f ≠ t) (hm : m ≤ 16384)
    (hp : Calls Try.prog 32 #[.pointer (some ⟨g, 0, none⟩), .agg #[.int .i64 f, .int .i64 t, .slice A m c]] w fun e w' => ∃ i v, e = .returned (.tuple #[.int .u64 i, .int .i64 v]) ∧ Q i v w') :
    Calls Try.prog 15 #[.pointer (some ⟨g, 0, none⟩), .int .i64 f, .int .i64 t, .slice A m c] w fun e w' => ∃ i v, e = .returned (.tuple #[.int .u64 i, .int .i64 v]) ∧ Q i v w' := by
  have H1h := Lib.hid (has_c w g mb r last lk f true hB (decide_eq_true hf))
  have H2h := Lib.hid (has_c w g mb r last lk t true hB (decide_eq_true ht))
  have HP := Lib.hid hp
  have dn : (f == t) = false := beq_eq_false_iff_ne.2 hne
  have dm : decide ((16384 : Int) < (m : Int)) = false := decide_eq_false (by omega)
  clear hB hp hf ht hne hm
  go_enter Try.func15, Try.ntmps15
  go_wp2_with fail
  refine H1h.out.mono ?_
  rintro e w1 ⟨rfl, hw⟩
  rw [hw]
  clear hw w1
  go_wp2_with fail
  refine H2h.out.mono ?_
  rintro e w1 ⟨rfl, hw⟩
  rw [hw]
  clear hw w1
  go_wp2_with fail
  refine HP.out.mono ?_
  rintro e w1 ⟨i, v, rfl, h1⟩
  have R := Lib.hid h1
  clear h1
  go_wp2_with fail
  go_ret2
  exact ⟨_, _, rfl, R.out⟩

set_option maxRecDepth 100000 in
set_option maxHeartbeats 1000000 in
theorem send_bad (w : World) (g mb r : Nat) (last : Int) (lk : Nat → Int) (f t : Int) (A : Option Addr) (m c : Nat)
    (hB : Blk w g 46 (netC (r : Nat) last (some mb) lk)) (hbad : ¬ ((1 ≤ f ∧ f ≤ (r : Nat)) ∧ (1 ≤ t ∧ t ≤ (r : Nat)) ∧ f ≠ t)) :
    Calls Try.prog 15 #[.pointer (some ⟨g, 0, none⟩), .int .i64 f, .int .i64 t, .slice A m c] w fun e w' => e = .returned (.tuple #[.int .u64 0, .int .i64 1]) ∧ w' = w := by
  by_cases hf : 1 ≤ f ∧ f ≤ (r : Nat)
  · have H1h := Lib.hid (has_c w g mb r last lk f true hB (decide_eq_true hf))
    by_cases ht : 1 ≤ t ∧ t ≤ (r : Nat)
    · have H2h := Lib.hid (has_c w g mb r last lk t true hB (decide_eq_true ht))
      have hft : f = t := by
        by_cases h : f = t
        · exact h
        · exact absurd ⟨hf, ht, h⟩ hbad
      have dn : (f == t) = true := by rw [hft]; exact beq_self_eq_true _
      clear hB hf ht hft hbad
      go_enter Try.func15, Try.ntmps15
      go_wp2_with fail
      refine H1h.out.mono ?_
      rintro e w1 ⟨rfl, hw⟩
      rw [hw]
      clear hw w1
      go_wp2_with fail
      refine H2h.out.mono ?_
      rintro e w1 ⟨rfl, hw⟩
      rw [hw]
      clear hw w1
      go_wp2_with fail
      go_ret2
      exact ⟨rfl, rfl⟩
    · have H2h := Lib.hid (has_c w g mb r last lk t false hB (decide_eq_false ht))
      clear hB hf ht hbad
      go_enter Try.func15, Try.ntmps15
      go_wp2_with fail
      refine H1h.out.mono ?_
      rintro e w1 ⟨rfl, hw⟩
      rw [hw]
      clear hw w1
      go_wp2_with fail
      refine H2h.out.mono ?_
      rintro e w1 ⟨rfl, hw⟩
      rw [hw]
      clear hw w1
      go_wp2_with fail
      go_ret2
      exact ⟨rfl, rfl⟩
  · have H1h := Lib.hid (has_c w g mb r last lk f false hB (decide_eq_false hf))
    clear hB hf hbad
    go_enter Try.func15, Try.ntmps15
    go_wp2_with fail
    refine H1h.out.mono ?_
    rintro e w1 ⟨rfl, hw⟩
    rw [hw]
    clear hw w1
    go_wp2_with fail
    go_ret2
    exact ⟨rfl, rfl⟩

set_option maxRecDepth 100000 in
set_option maxHeartbeats 1000000 in
theorem send_long (w : World) (g mb r : Nat) (last : Int) (lk : Nat → Int) (f t : Int) (A : Option Addr) (m c : Nat)
    (hB : Blk w g 46 (netC (r : Nat) last (some mb) lk)) (hf : 1 ≤ f ∧ f ≤ (r : Nat)) (ht : 1 ≤ t ∧ t ≤ (r : Nat)) (hne : f ≠ t) (hm : 16384 < m) :
    Calls Try.prog 15 #[.pointer (some ⟨g, 0, none⟩), .int .i64 f, .int .i64 t, .slice A m c] w fun e w' => e = .returned (.tuple #[.int .u64 0, .int .i64 6]) ∧ w' = w := by
  have H1h := Lib.hid (has_c w g mb r last lk f true hB (decide_eq_true hf))
  have H2h := Lib.hid (has_c w g mb r last lk t true hB (decide_eq_true ht))
  have dn : (f == t) = false := beq_eq_false_iff_ne.2 hne
  have dm : decide ((16384 : Int) < (m : Int)) = true := decide_eq_true (by omega)
  clear hB hf ht hne hm
  go_enter Try.func15, Try.ntmps15
  go_wp2_with fail
  refine H1h.out.mono ?_
  rintro e w1 ⟨rfl, hw⟩
  rw [hw]
  clear hw w1
  go_wp2_with fail
  refine H2h.out.mono ?_
  rintro e w1 ⟨rfl, hw⟩
  rw [hw]
  clear hw w1
  go_wp2_with fail
  go_ret2
  exact ⟨rfl, rfl⟩

set_option maxRecDepth 100000 in
set_option maxHeartbeats 1000000 in
theorem double_of (w : World) (x id : Value) (f t : Int) (A : Option Addr) (m c : Nat) (Q : Int → Int → World → Prop)
    (hf : Calls Try.prog 33 #[x, id] w fun e w' => e = .returned (.tuple #[.agg #[.int .i64 f, .int .i64 t, .slice A m c], .int .i64 0]) ∧ Fr (fun _ => False) w w')
    (hp : ∀ W, Fr (fun _ => False) w W → Calls Try.prog 32 #[x, .agg #[.int .i64 f, .int .i64 t, .slice A m c]] W fun e w' => ∃ i v, e = .returned (.tuple #[.int .u64 i, .int .i64 v]) ∧ Q i v w') :
    Calls Try.prog 17 #[x, id] w fun e w' => ∃ i v, e = .returned (.tuple #[.int .u64 i, .int .i64 v]) ∧ Q i v w' := by
  have HF := Lib.hid hf
  have HP := Lib.hid hp
  clear hf hp
  go_enter Try.func17, Try.ntmps17
  go_wp2_with fail
  refine HF.out.mono ?_
  rintro e w1 ⟨rfl, f1⟩
  have F1 := Lib.hid f1
  clear f1
  go_wp2_with fail
  refine (HP.out _ (F1.out.alloc _)).mono ?_
  rintro e w2 ⟨i, v, rfl, h1⟩
  have R := Lib.hid h1
  clear h1
  go_wp2_with fail
  go_ret2
  exact ⟨_, _, rfl, R.out⟩

set_option maxRecDepth 100000 in
set_option maxHeartbeats 1000000 in
theorem double_none (w : World) (x id : Value)
    (hf : Calls Try.prog 33 #[x, id] w fun e w' => e = .returned (.tuple #[.agg #[.int .i64 0, .int .i64 0, .slice none 0 0], .int .i64 4]) ∧ Fr (fun _ => False) w w') :
    Calls Try.prog 17 #[x, id] w fun e w' => e = .returned (.tuple #[.int .u64 0, .int .i64 4]) ∧ Fr (fun _ => False) w w' := by
  have HF := Lib.hid hf
  clear hf
  go_enter Try.func17, Try.ntmps17
  go_wp2_with fail
  refine HF.out.mono ?_
  rintro e w1 ⟨rfl, f1⟩
  have F1 := Lib.hid f1
  clear f1
  go_wp2_with fail
  go_ret2
  exact ⟨rfl, F1.out.alloc _⟩

set_option maxRecDepth 100000 in
set_option maxHeartbeats 1000000 in
theorem drop_of (w : World) (x id : Value) (e0 : Int) (Q : World → Prop) (hQ : ∀ W o, Q W → Q (W.alloc o))
    (hf : Calls Try.prog 16 #[x, id] w fun e w' => ∃ f t A m c, e = .returned (.tuple #[.agg #[.int .i64 f, .int .i64 t, .slice A m c], .int .i64 e0]) ∧ Q w') :
    Calls Try.prog 19 #[x, id] w fun e w' => e = .returned (.int .i64 e0) ∧ Q w' := by
  have HF := Lib.hid hf
  have HQ := Lib.hid hQ
  clear hf hQ
  go_enter Try.func19, Try.ntmps19
  go_wp2_with fail
  refine HF.out.mono ?_
  rintro e w1 ⟨f, t, A9, m, c, rfl, h1⟩
  have H1 := Lib.hid h1
  clear h1
  go_wp2_with fail
  go_ret
  exact ⟨rfl, HQ.out _ _ H1.out⟩

set_option maxRecDepth 100000 in
set_option maxHeartbeats 1000000 in
theorem count_c (w : World) (g mb n : Nat) (reps last : Int) (lk : Nat → Int) (D : DataW Value) (hB : Blk w g 46 (netC reps last (some mb) lk)) (hO : MapI w mb n D) :
    Calls Try.prog 21 #[.pointer (some ⟨g, 0, none⟩)] w fun e w' => e = .returned (.int .i64 (Maps.size D : Nat)) ∧ w' = w := by
  have HB := Lib.hid hB
  have HO := Lib.hid hO
  have c2 : w.cell? ⟨g, 2, none⟩ = some (.map (some mb)) := hB.cell 2
  clear hB hO
  go_enter Try.func21, Try.ntmps21
  go_wp2_with fail
  refine (made_yes w _ _ _ _ _ HB.out).mono ?_
  rintro e w2 ⟨rfl, hw⟩
  rw [hw]
  clear hw w2
  go_wp2_with (at_len; refine wpList_len_own _ rfl _ 42 rfl 32 51 Try.underlying42 RH mb n D rfl HO.out ?_)
  go_ret
  exact ⟨rfl, rfl⟩
end Go.Proofs.Ytpgklhbbjbdejaa
