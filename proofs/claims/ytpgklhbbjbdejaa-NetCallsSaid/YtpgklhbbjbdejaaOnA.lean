/-
  NetOnce's small functions: New at any number, many, Same.
-/
import Derived.Test.YtpgklhbbjbdejaaGh2
namespace Go.Proofs.Ytpgklhbbjbdejaa
set_option linter.unusedSimpArgs false
set_option linter.unusedVariables false
open Go Go.RowKit Go.Maps

set_option maxRecDepth 100000 in
set_option maxHeartbeats 1000000 in
theorem new_g (w : World) (r : Nat) (h1 : 1 ≤ r) (h4 : r ≤ 4) : Calls Try.prog 8 #[.int .i64 (r : Nat)] w fun e w' => ∃ mb g, e = .returned (.tuple #[.pointer (some ⟨g, 0, none⟩), .int .i64 0]) ∧ NetAt w' w'.heap.size g mb r [] 0 ∧
    Fr (fun _ => False) w w' ∧ w.heap.size ≤ g ∧ w.heap.size ≤ mb := by
  have hm := run_make
  have d1 : decide ((r : Int) < 1) = false := decide_eq_false (by omega)
  have d4 : decide ((4 : Int) < (r : Int)) = false := decide_eq_false (by omega)
  go_enter Try.func8, Try.ntmps8
  go_wp2_with fail
  go_ret2
  refine ⟨w.heap.size, w.heap.size + 1, rfl, ⟨⟨fun _ => 0, .map [], 0, Blk.new1 w _ 46 (netC (r : Nat) (0 : Nat) (some w.heap.size) (fun _ => 0)), MapI.fr (fp := fun _ => False) (World.ownsMap_made w Try.prog 32 RH) ((Fr.refl _ _).alloc _) (fun h => h), Nat.le_refl _, fun j => by simp, rfl, fun k x h => by simp at h, ⟨rfl, rfl⟩, fun k _ => ⟨rfl, rfl⟩⟩, Nat.le_refl _, ?_, ?_, Nat.le_refl _⟩, ((Fr.refl _ w).alloc _).alloc _, by omega, Nat.le_refl _⟩
  · rw [World.size_alloc, World.size_alloc]; omega
  · rw [World.size_alloc, World.size_alloc]; omega
set_option maxRecDepth 100000 in
set_option maxHeartbeats 1000000 in
theorem new_bad (w : World) (r : Int) (h : ¬ (1 ≤ r ∧ r ≤ 4)) : Calls Try.prog 8 #[.int .i64 r] w fun e w' => e = .returned (.tuple #[.pointer none, .int .i64 1]) ∧ w' = w := by
  by_cases h1 : r < 1
  · have d1 : decide (r < 1) = true := decide_eq_true h1
    go_enter Try.func8, Try.ntmps8
    go_wp2_with fail
    go_ret2
    exact ⟨rfl, rfl⟩
  · have d1 : decide (r < 1) = false := decide_eq_false h1
    have d4 : decide (4 < r) = true := decide_eq_true (by omega)
    go_enter Try.func8, Try.ntmps8
    go_wp2_with fail
    go_ret2
    exact ⟨rfl, rfl⟩

/-- A Call. -/
structure Cx where
  d : Int
  a : Int
  b : Int
  id : Nat
  A : Option Addr
  m : Nat
  c : Nat
  bs : List UInt8
structure Cx.Ok (x : Cx) (W : World) : Prop where
  rd : Rd W x.A x.m (bv x.bs)
  m1 : x.m ≤ 140737488355328
  i1 : x.id < 18446744073709551616
def RdC (W : World) (A : Option Addr) (n : Nat) (xs : List Cx) : Prop :=
  xs.length = n ∧ (0 < n → ∃ b off, A = some ⟨b, off, none⟩ ∧ ∀ k (h : k < xs.length), W.cell? ⟨b, off + k * 5, none⟩ = some (.int .i64 xs[k].d) ∧ W.cell? ⟨b, off + k * 5 + 1, none⟩ = some (.int .i64 xs[k].a) ∧
    W.cell? ⟨b, off + k * 5 + 2, none⟩ = some (.int .i64 xs[k].b) ∧ W.cell? ⟨b, off + k * 5 + 3, none⟩ = some (.int .u64 (xs[k].id : Nat)) ∧ W.cell? ⟨b, off + k * 5 + 4, none⟩ = some (.slice xs[k].A xs[k].m xs[k].c))

set_option maxRecDepth 100000 in
set_option maxHeartbeats 1000000 in
theorem many_c (w : World) (A : Option Addr) (n c : Nat) (xs : List Cx) (hr : RdC w A n xs) (hok : ∀ x ∈ xs, x.m ≤ 140737488355328) (hn : n ≤ 140737488355328) :
    Calls Try.prog 10 #[.slice A n c] w fun e w' => (e = .returned (.bool true) ∨ (e = .returned (.bool false) ∧ n ≤ 400)) ∧ w' = w := by
  have hl := hr.1
  rcases Nat.eq_zero_or_pos n with h0 | hpos
  · subst h0
    clear hl hr hok
    go_enter Try.func10, Try.ntmps10
    go_wp2_with fail
    go_loop [4] (fun i => i = .int .i64 0) (fun _ => 0)
    case atStart => rfl
    case round =>
      subst hrel
      go_wp2
      go_ret
      first | exact ⟨.inr ⟨rfl, by omega⟩, rfl⟩ | exact ⟨.inr rfl, rfl⟩
  · obtain ⟨b, off, rfl, hc⟩ := hr.2 hpos
    have HC := Lib.hid hc
    have HL := Lib.hid hl
    have HOK := Lib.hid hok
    clear hc hl hok hr
    go_enter Try.func10, Try.ntmps10
    go_wp2_with fail
    go_loop [3, 4] (fun s i => ∃ k q : Nat, k ≤ n ∧ k ≤ q ∧ i = .int .i64 k ∧ s = .int .i64 q ∧ q ≤ 400) (fun _ i => n - (intOf i).toNat)
    case atStart => exact ⟨0, 0, Nat.zero_le _, Nat.zero_le _, rfl, rfl, by omega⟩
    case round =>
      obtain ⟨k, q, hk, hkq, rfl, rfl, hq⟩ := hrel
      by_cases hlt : k < n
      · have hkl : k < xs.length := by rw [HL.out]; exact hlt
        have c4 := (HC.out k hkl).2.2.2.2
        have hs := HOK.out xs[k] (List.getElem_mem _)
        generalize xs[k] = t at *
        by_cases hb : 400 < q + (1 + t.m / 200)
        · go_wp2_with fail
          go_ret
          exact ⟨.inl rfl, rfl⟩
        · go_wp2_with fail
          refine ⟨⟨k + 1, q + (1 + t.m / 200), hlt, by omega, by go_num, by go_num, by omega⟩, by simp [intOf]; omega⟩
      · obtain rfl : k = n := by omega
        go_wp2
        go_ret
        exact ⟨.inr ⟨rfl, by omega⟩, rfl⟩

set_option maxRecDepth 100000 in
set_option maxHeartbeats 1000000 in
theorem same_c (w : World) (f t : Int) (A A' : Option Addr) (m c c' : Nat) (bs : List UInt8) (hr : Rd w A m (bv bs)) (hr' : Rd w A' m (bv bs)) :
    Calls Try.prog 23 #[.agg #[.int .i64 f, .int .i64 t, .slice A m c], .agg #[.int .i64 f, .int .i64 t, .slice A' m c']] w fun e w' => e = .returned (.bool true) ∧ Fr (fun _ => False) w w' := by
  have k1 : ∀ o o', (convert 33 9 (.slice A m c)).run Try.prog ((w.alloc o).alloc o') = .ok (.string (strOf bs)) ((w.alloc o).alloc o') := fun o o' => conv_str _ A m c bs ((hr.alloc o).alloc o')
  have k2 : ∀ o o', (convert 33 9 (.slice A' m c')).run Try.prog ((w.alloc o).alloc o') = .ok (.string (strOf bs)) ((w.alloc o).alloc o') := fun o o' => conv_str _ A' m c' bs ((hr'.alloc o).alloc o')
  clear hr hr'
  go_enter Try.func23, Try.ntmps23
  go_wp2_with fail
  go_ret
  exact ⟨rfl, ((Fr.refl _ w).alloc _).alloc _⟩
end Go.Proofs.Ytpgklhbbjbdejaa
