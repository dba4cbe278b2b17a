/-
  CONTRACTS of New at 3, Send, Double on a net that New made.
-/
import Derived.Test.YtpgklhbbjbdejaaYes
namespace Go.Proofs.Ytpgklhbbjbdejaa
set_option linter.unusedSimpArgs false
set_option linter.unusedVariables false
open Go Go.RowKit Go.Maps

theorem run_make (W : World) : (Instr.makeMap 42 none).run Try.prog W = .ok (.map (some W.heap.size)) (W.alloc (.map #[] 0)) := rfl
set_option maxRecDepth 100000 in
set_option maxHeartbeats 1000000 in
theorem new_c (w : World) : Calls Try.prog 8 #[.int .i64 3] w fun e w' => ∃ mb g, e = .returned (.tuple #[.pointer (some ⟨g, 0, none⟩), .int .i64 0]) ∧ Blk w' g 46 (netC 3 (0 : Nat) (some mb) (fun _ => 0)) ∧ MapI w' mb 0 (.map []) ∧
    Fr (fun _ => False) w w' ∧ g < w'.heap.size ∧ mb < w'.heap.size ∧ w.heap.size ≤ g ∧ w.heap.size ≤ mb := by
  have hm := run_make
  go_enter Try.func8, Try.ntmps8
  go_wp2_with fail
  go_ret2
  refine ⟨w.heap.size, w.heap.size + 1, rfl, Blk.new1 w _ 46 (netC 3 (0 : Nat) (some w.heap.size) (fun _ => 0)), MapI.fr (fp := fun _ => False) (World.ownsMap_made w Try.prog 32 RH) ((Fr.refl _ _).alloc _) (fun h => h), ((Fr.refl _ w).alloc _).alloc _, ?_, ?_, by omega, Nat.le_refl _⟩
  · rw [World.size_alloc, World.size_alloc]; omega
  · rw [World.size_alloc, World.size_alloc]; omega

set_option maxRecDepth 100000 in
set_option maxHeartbeats 1000000 in
theorem send_c (w : World) (g mb n : Nat) (last : Nat) (lk : Nat → Int) (D : DataW Value) (f t : Nat) (A : Option Addr) (m c : Nat) (bs : List UInt8)
    (hB : Blk w g 46 (netC 3 last (some mb) lk)) (hO : MapI w mb n D) (hr : Rd w A m (bv bs)) (hm : m ≤ 16384) (hf : 1 ≤ f ∧ f ≤ 3) (ht : 1 ≤ t ∧ t ≤ 3) (hne : f ≠ t) (hlk : lk (f * 5 + t) < 32) (hlo : 0 ≤ lk (f * 5 + t)) (hla : last < 4611686018427387904) (hn : n < maxLen) :
    Calls Try.prog 15 #[.pointer (some ⟨g, 0, none⟩), .int .i64 (f : Nat), .int .i64 (t : Nat), .slice A m c] w fun e w' => e = .returned (.tuple #[.int .u64 ((last + 1 : Nat) : Int), .int .i64 0]) ∧
      ∃ v, w'.ownsRow w.heap.size 5 1 v m (bv bs) ∧ Blk w' g 46 (netC 3 ((last + 1 : Nat) : Int) (some mb) (upd lk (f * 5 + t) (lk (f * 5 + t) + 1))) ∧
        MapI w' mb (n + 1) (D.put (.int .u64 ((last + 1 : Nat) : Int)) (.held (.agg #[.int .i64 (f : Nat), .int .i64 (t : Nat), v]))) ∧ Fr (fun k => k = g ∨ k = mb) w w' := by
  have H1 : Calls Try.prog 31 #[.pointer (some ⟨g, 0, none⟩), .int .i64 (f : Nat)] w fun e w' => e = .returned (.bool true) ∧ w' = w := by
    have h := has_of w _ 3 (f : Nat) (replicas_yes w g 3 last mb lk hB)
    rw [decide_eq_true (by omega : (1 : Int) ≤ (f : Nat)), decide_eq_true (by omega : ((f : Nat) : Int) ≤ 3)] at h
    exact h
  have H2 : Calls Try.prog 31 #[.pointer (some ⟨g, 0, none⟩), .int .i64 (t : Nat)] w fun e w' => e = .returned (.bool true) ∧ w' = w := by
    have h := has_of w _ 3 (t : Nat) (replicas_yes w g 3 last mb lk hB)
    rw [decide_eq_true (by omega : (1 : Int) ≤ (t : Nat)), decide_eq_true (by omega : ((t : Nat) : Int) ≤ 3)] at h
    exact h
  have HP := Lib.hid (put_c w g mb n 3 last lk D f t A m c bs hB hO hr (by omega) (by omega) (by omega) hlk hlo hla hn)
  have H1h := Lib.hid H1
  have H2h := Lib.hid H2
  have dn : decide ((f : Int) = (t : Int)) = false := decide_eq_false (by omega)
  have dm : decide ((16384 : Int) < (m : Int)) = false := decide_eq_false (by omega)
  clear hB hO hr H1 H2 hlk hlo hla hn
  go_enter Try.func15, Try.ntmps15
  go_wp2_with fail
  refine H1h.out.mono ?_
  rintro e w1 ⟨rfl, hw⟩
  rw [hw]
  clear hw w1
  go_wp2_with fail
  refine H2h.out.mono ?_
  rintro e w1 ⟨rfl, hw⟩
  rw [hw]
  clear hw w1
  go_wp2_with fail
  refine HP.out.mono ?_
  rintro e w1 ⟨rfl, v, h1, h2, h3, h4⟩
  have R := Lib.hid (And.intro h1 (And.intro h2 (And.intro h3 h4)))
  clear h1 h2 h3 h4
  go_wp2_with fail
  go_ret2
  exact ⟨rfl, v, R.out⟩

set_option maxRecDepth 100000 in
set_option maxHeartbeats 1000000 in
theorem send_same (w : World) (g mb : Nat) (last : Int) (lk : Nat → Int) (b : Value) (hB : Blk w g 46 (netC 3 last (some mb) lk)) :
    Calls Try.prog 15 #[.pointer (some ⟨g, 0, none⟩), .int .i64 1, .int .i64 1, b] w fun e w' => e = .returned (.tuple #[.int .u64 0, .int .i64 1]) ∧ w' = w := by
  have H1 : Hid (Calls Try.prog 31 #[.pointer (some ⟨g, 0, none⟩), .int .i64 1] w fun e w' => e = .returned (.bool true) ∧ w' = w) := has_of w _ 3 1 (replicas_yes w g 3 last mb lk hB)
  clear hB
  go_enter Try.func15, Try.ntmps15
  go_wp2_with fail
  refine H1.out.mono ?_
  rintro e w1 ⟨rfl, hw⟩
  rw [hw]
  clear hw w1
  go_wp2_with fail
  refine H1.out.mono ?_
  rintro e w1 ⟨rfl, hw⟩
  rw [hw]
  clear hw w1
  go_wp2_with fail
  go_ret2
  exact ⟨rfl, rfl⟩

set_option maxRecDepth 100000 in
set_option maxHeartbeats 1000000 in
theorem send_far (w : World) (g mb : Nat) (last : Int) (lk : Nat → Int) (b : Value) (hB : Blk w g 46 (netC 3 last (some mb) lk)) :
    Calls Try.prog 15 #[.pointer (some ⟨g, 0, none⟩), .int .i64 1, .int .i64 4, b] w fun e w' => e = .returned (.tuple #[.int .u64 0, .int .i64 1]) ∧ w' = w := by
  have H1 : Hid (Calls Try.prog 31 #[.pointer (some ⟨g, 0, none⟩), .int .i64 1] w fun e w' => e = .returned (.bool true) ∧ w' = w) := has_of w _ 3 1 (replicas_yes w g 3 last mb lk hB)
  have H2 : Hid (Calls Try.prog 31 #[.pointer (some ⟨g, 0, none⟩), .int .i64 4] w fun e w' => e = .returned (.bool false) ∧ w' = w) := has_of w _ 3 4 (replicas_yes w g 3 last mb lk hB)
  clear hB
  go_enter Try.func15, Try.ntmps15
  go_wp2_with fail
  refine H1.out.mono ?_
  rintro e w1 ⟨rfl, hw⟩
  rw [hw]
  clear hw w1
  go_wp2_with fail
  refine H2.out.mono ?_
  rintro e w1 ⟨rfl, hw⟩
  rw [hw]
  clear hw w1
  go_wp2_with fail
  go_ret2
  exact ⟨rfl, rfl⟩

set_option maxRecDepth 100000 in
set_option maxHeartbeats 1000000 in
theorem double_yes (w : World) (g mb n : Nat) (reps : Int) (last : Nat) (lk : Nat → Int) (D : DataW Value) (id f t : Nat) (A : Option Addr) (m c : Nat) (bs : List UInt8)
    (hB : Blk w g 46 (netC reps last (some mb) lk)) (hO : MapI w mb n D) (hid : id < 18446744073709551616)
    (hv : D.atKey (.int .u64 (id : Nat)) (.held zM) = .held (.agg #[.int .i64 (f : Nat), .int .i64 (t : Nat), .slice A m c])) (hh : Maps.has D (.int .u64 (id : Nat)) = true)
    (hr : Rd w A m (bv bs)) (hm : m ≤ 16384) (hf : f < 5) (ht : t < 5) (hlk : lk (f * 5 + t) < 32) (hlo : 0 ≤ lk (f * 5 + t)) (hla : last < 4611686018427387904) (hn : n < maxLen) :
    Calls Try.prog 17 #[.pointer (some ⟨g, 0, none⟩), .int .u64 (id : Nat)] w fun e w' => e = .returned (.tuple #[.int .u64 ((last + 1 : Nat) : Int), .int .i64 0]) ∧
      ∃ v, w'.ownsRow w.heap.size 5 1 v m (bv bs) ∧ Blk w' g 46 (netC reps ((last + 1 : Nat) : Int) (some mb) (upd lk (f * 5 + t) (lk (f * 5 + t) + 1))) ∧
        MapI w' mb (n + 1) (D.put (.int .u64 ((last + 1 : Nat) : Int)) (.held (.agg #[.int .i64 (f : Nat), .int .i64 (t : Nat), v]))) ∧ Fr (fun k => k = g ∨ k = mb) w w' := by
  have HF := Lib.hid (find_yes w g mb n reps last lk D id _ _ A m c hB hO hid hv hh)
  have HP : Hid (∀ W, Fr (fun _ => False) w W → Calls Try.prog 32 #[.pointer (some ⟨g, 0, none⟩), .agg #[.int .i64 (f : Nat), .int .i64 (t : Nat), .slice A m c]] W fun e w' => e = .returned (.tuple #[.int .u64 ((last + 1 : Nat) : Int), .int .i64 0]) ∧
      ∃ v, w'.ownsRow W.heap.size 5 1 v m (bv bs) ∧ Blk w' g 46 (netC reps ((last + 1 : Nat) : Int) (some mb) (upd lk (f * 5 + t) (lk (f * 5 + t) + 1))) ∧
        MapI w' mb (n + 1) (D.put (.int .u64 ((last + 1 : Nat) : Int)) (.held (.agg #[.int .i64 (f : Nat), .int .i64 (t : Nat), v]))) ∧ Fr (fun k => k = g ∨ k = mb) W w') :=
    fun W h => put_c W g mb n reps last lk D f t A m c bs (keepB hB h) (MapI.fr hO h (fun h => h)) (hr.far h) (by omega) (by omega) (by omega) hlk hlo hla hn
  clear hB hO hv hh hr
  go_enter Try.func17, Try.ntmps17
  go_wp2_with fail
  refine HF.out.mono ?_
  rintro e w1 ⟨rfl, f1⟩
  have F1 := Lib.hid f1
  clear f1
  go_wp2_with fail
  refine (HP.out _ (F1.out.alloc _)).mono ?_
  rintro e w2 ⟨rfl, v, h1, h2, h3, h4⟩
  have V2 := Lib.hid (own_base (base' := w.heap.size) h1 (fun k hk => by have := (World.ownsRow.lt h1 k hk).1; rw [World.size_alloc] at this; have := F1.out.size; omega))
  have R := Lib.hid (And.intro h2 (And.intro h3 (((F1.out.mono (fq := fun _ => False) (fun _ _ h => h)).alloc (.cells #[.int .i64 (f : Nat), .int .i64 (t : Nat), .slice A m c] 51)).mono (fp := fun k => k = g ∨ k = mb) (fun _ _ h => h.elim) |>.trans h4 (fun _ _ h => h))))
  clear h1 h2 h3 h4
  go_wp2_with fail
  go_ret2
  exact ⟨rfl, v, V2.out, R.out⟩
end Go.Proofs.Ytpgklhbbjbdejaa
