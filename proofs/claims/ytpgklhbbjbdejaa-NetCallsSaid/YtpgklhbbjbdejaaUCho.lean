/-
  CONTRACT of choosePivotOrdered at uint64, of thirteen numbers or more: a place among them.
-/
import Derived.Test.YtpgklhbbjbdejaaUMed
namespace Go.Proofs.Ytpgklhbbjbdejaa
set_option linter.unusedSimpArgs false
set_option linter.unusedVariables false
open Go Go.RowKit Go.Sort

set_option maxRecDepth 100000 in
set_option maxHeartbeats 4000000 in
theorem choose_c (w : World) (g c a b : Nat) (d : Array Nat) (rest : List Value) (hR : RowU w g d rest) (hab : a + 13 ≤ b) (hb : b ≤ d.size) (hsz : d.size ≤ 1000000) :
    Calls Try.prog 44 #[.slice (some ⟨g, 0, none⟩) d.size c, .int .i64 a, .int .i64 b] w fun e w' => ∃ x h : Nat, e = .returned (.tuple #[.int .i64 x, .int .i64 h]) ∧ a ≤ x ∧ x < b ∧ h ≤ 2 ∧ Fr (fun _ => False) w w' := by
  obtain ⟨l, el⟩ : ∃ l, l = b - a := ⟨_, rfl⟩
  obtain ⟨q, eq⟩ : ∃ q, q = l / 4 := ⟨_, rfl⟩
  obtain ⟨q2, eq2⟩ : ∃ q2, q2 = q * 2 := ⟨_, rfl⟩
  obtain ⟨q3, eq3⟩ : ∃ q3, q3 = q * 3 := ⟨_, rfl⟩
  obtain ⟨i, ei⟩ : ∃ i, i = a + q := ⟨_, rfl⟩
  obtain ⟨j, ej⟩ : ∃ j, j = a + q2 := ⟨_, rfl⟩
  obtain ⟨k, ek⟩ : ∃ k, k = a + q3 := ⟨_, rfl⟩
  have i0 : (b : Int) - (a : Int) = (l : Int) := by omega
  have i1 : (l : Int) / 4 = (q : Int) := by omega
  have i1' : l / 4 = q := by omega
  have i2 : (q : Int) * 2 = (q2 : Int) := by omega
  have i3 : (q : Int) * 3 = (q3 : Int) := by omega
  have i4 : (a : Int) + (q : Int) = (i : Int) := by omega
  have i5 : (a : Int) + (q2 : Int) = (j : Int) := by omega
  have i6 : (a : Int) + (q3 : Int) = (k : Int) := by omega
  have d8 : decide ((8 : Int) ≤ (l : Int)) = true := decide_eq_true (by omega)
  have b1 : a ≤ 1000000 ∧ b ≤ 1000000 ∧ l ≤ 1000000 ∧ q ≤ 1000000 ∧ q2 ≤ 1000000 ∧ q3 ≤ 1000000 := by omega
  obtain ⟨b1, b2, b3, b4, b5, b6⟩ := b1
  have g1 : 1 ≤ i ∧ a + 1 ≤ i ∧ i + 2 ≤ b ∧ a + 1 ≤ j ∧ j + 2 ≤ b ∧ a + 1 ≤ k ∧ k + 2 ≤ b := by omega
  obtain ⟨g0, g1, g2, g3, g4, g5, g6⟩ := g1
  have R0 : Hid (RC (w.alloc (.cells #[.int .i64 0] 3)) g d rest w.heap.size 0 (w.alloc (.cells #[.int .i64 0] 3))) := ⟨hR.fr ((Fr.refl (fun _ => False) w).alloc _) (fun h => h), Blk.new _ _ _, Fr.refl _ _⟩
  have HNE : Hid (g ≠ w.heap.size) := by have := Blk.lt hR; show g ≠ _; omega
  have HD : Hid (∀ (x : Nat), a ≤ x → x < b → x < d.size) := fun x _ h => by omega
  have HE := Lib.hid (And.intro el eq)
  have HF : Hid (∀ w', Fr (fun k => k = w.heap.size) (w.alloc (.cells #[.int .i64 0] 3)) w' → Fr (fun _ => False) w w') := fun w' f => ((Fr.refl (fun _ => False) w).alloc _).trans f (fun k hk e => by omega)
  clear hR el eq eq2 eq3 ei ej ek
  have ending : ∀ (W : World) (s : Nat) (x : Nat), a ≤ x → x < b → RC (w.alloc (.cells #[.int .i64 0] 3)) g d rest w.heap.size s W → W.cell? ⟨w.heap.size, 0, none⟩ = some (.int .i64 (s : Nat)) := fun W s x _ _ r => r.cnt.cell 0
  have HZ := Lib.hid ending
  clear ending
  by_cases h50 : 50 ≤ l
  · have d50 : decide ((50 : Int) ≤ (l : Int)) = true := decide_eq_true (by omega)
    go_enter Try.func44, Try.ntmps44
    go_wp2_with fail
    refine abs_calls (fun W => Hid (RC (w.alloc (.cells #[.int .i64 0] 3)) g d rest w.heap.size 0 W)) R0 ?_
    rintro w1 R1
    have h := medA_c w1 g c i w.heap.size 0 d rest R1.out.row R1.out.cnt HNE.out g0 (HD.out _ (by omega) (by omega)) (by omega) hsz
    refine h.mono ?_
    clear h
    rintro e w2 ⟨x1, s1, rfl, p1, p2, hs1, r2⟩
    have R2 := Lib.hid (R1.out.go HNE.out r2.cnt r2.fr)
    clear r2
    go_wp2_with fail
    have h := medA_c w2 g c j w.heap.size s1 d rest R2.out.row R2.out.cnt HNE.out (by omega) (HD.out _ (by omega) (by omega)) (by omega) hsz
    refine h.mono ?_
    clear h
    rintro e w3 ⟨x2, s2, rfl, p3, p4, hs2, r3⟩
    have R3 := Lib.hid (R2.out.go HNE.out r3.cnt r3.fr)
    clear r3
    go_wp2_with fail
    have h := medA_c w3 g c k w.heap.size s2 d rest R3.out.row R3.out.cnt HNE.out (by omega) (HD.out _ (by omega) (by omega)) (by omega) hsz
    refine h.mono ?_
    clear h
    rintro e w4 ⟨x3, s3, rfl, p5, p6, hs3, r4⟩
    have R4 := Lib.hid (R3.out.go HNE.out r4.cnt r4.fr)
    clear r4
    go_wp2_with fail
    have h := med_c w4 g c x1 x2 x3 w.heap.size s3 d rest R4.out.row R4.out.cnt HNE.out (HD.out _ (by omega) (by omega)) (HD.out _ (by omega) (by omega)) (HD.out _ (by omega) (by omega)) (by omega) hsz
    refine h.mono ?_
    clear h
    rintro e w5 ⟨x, s, rfl, p7, hs, r5⟩
    have R5 := Lib.hid (R4.out.go HNE.out r5.cnt r5.fr)
    clear r5
    have ax : a ≤ x := by omega
    have xb : x < b := by omega
    have q0 := R5.out.cnt.cell 0
    simp only [List.getElem?_toArray, List.getElem?_cons_zero] at q0
    go_wp2_with fail
    all_goals go_ret2
    all_goals first
      | exact ⟨x, 1, rfl, ax, xb, by omega, HF.out _ R5.out.fr⟩
      | exact ⟨x, 2, rfl, ax, xb, by omega, HF.out _ R5.out.fr⟩
      | exact ⟨x, 0, rfl, ax, xb, by omega, HF.out _ R5.out.fr⟩
  · have d50 : decide ((50 : Int) ≤ (l : Int)) = false := decide_eq_false (by omega)
    go_enter Try.func44, Try.ntmps44
    go_wp2_with fail
    refine abs_calls (fun W => Hid (RC (w.alloc (.cells #[.int .i64 0] 3)) g d rest w.heap.size 0 W)) R0 ?_
    rintro w1 R1
    have h := med_c w1 g c i j k w.heap.size 0 d rest R1.out.row R1.out.cnt HNE.out (HD.out _ (by omega) (by omega)) (HD.out _ (by omega) (by omega)) (HD.out _ (by omega) (by omega)) (by omega) hsz
    refine h.mono ?_
    clear h
    rintro e w5 ⟨x, s, rfl, p7, hs, r5⟩
    have R5 := Lib.hid (R1.out.go HNE.out r5.cnt r5.fr)
    clear r5
    have ax : a ≤ x := by omega
    have xb : x < b := by omega
    have q0 := R5.out.cnt.cell 0
    simp only [List.getElem?_toArray, List.getElem?_cons_zero] at q0
    go_wp2_with fail
    all_goals go_ret2
    all_goals first
      | exact ⟨x, 1, rfl, ax, xb, by omega, HF.out _ R5.out.fr⟩
      | exact ⟨x, 2, rfl, ax, xb, by omega, HF.out _ R5.out.fr⟩
      | exact ⟨x, 0, rfl, ax, xb, by omega, HF.out _ R5.out.fr⟩
end Go.Proofs.Ytpgklhbbjbdejaa
