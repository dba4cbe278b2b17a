/-
  NETS: what a net's block holds; CONTRACTS of the calls of a net that New did not make.
-/
import Derived.Test.YtpgklhbbjbdejaaSt
import Derived.Test.YtpgklhbbjbdejaaProg
import Derived.Deep.OwnRows
import Derived.Deep.QuietTactic
import Derived.BigQuiet
import Derived.IntWalk
import Derived.Maps.OwnSet
import Derived.Carry
namespace Go.Proofs.Ytpgklhbbjbdejaa
set_option linter.unusedSimpArgs false
set_option linter.unusedVariables false
open Go Go.RowKit

/-- A net's cells. -/
def netC (reps last : Int) (m : Option Nat) (lk : Nat → Int) : Array Value := (.int .i64 reps :: .int .u64 last :: .map m :: (List.range 25).map fun j => Value.int .i64 (lk j)).toArray
theorem netC_size (reps last : Int) (m : Option Nat) (lk : Nat → Int) : (netC reps last m lk).size = 28 := by simp [netC]
theorem netC_lk (reps last : Int) (m : Option Nat) (lk : Nat → Int) (j : Nat) (h : j < 25) : (netC reps last m lk)[3 + j]? = some (.int .i64 (lk j)) := by
  unfold netC
  rw [List.getElem?_toArray, show 3 + j = j + 1 + 1 + 1 by omega, List.getElem?_cons_succ, List.getElem?_cons_succ, List.getElem?_cons_succ, List.getElem?_map, List.getElem?_range h]
  rfl
def upd (lk : Nat → Int) (j : Nat) (v : Int) (i : Nat) : Int := if i = j then v else lk i
theorem netC_upd (reps last : Int) (m : Option Nat) (lk : Nat → Int) (j : Nat) (v : Int) (h : j < 25) : (netC reps last m lk).setIfInBounds (3 + j) (.int .i64 v) = netC reps last m (upd lk j v) := by
  unfold netC
  rw [List.setIfInBounds_toArray, show 3 + j = j + 1 + 1 + 1 by omega, List.set_cons_succ, List.set_cons_succ, List.set_cons_succ]
  congr 4
  apply List.ext_getElem?
  intro i
  rw [List.getElem?_set, List.getElem?_map, List.getElem?_map]
  by_cases hi : j = i
  · subst hi
    simp [h, upd, List.getElem?_range h]
  · rw [if_neg hi]
    by_cases h2 : i < 25
    · simp [List.getElem?_range h2, upd, Ne.symm hi]
    · simp [List.getElem?_eq_none, show 25 ≤ i by omega]
theorem netC_last (reps last last' : Int) (m : Option Nat) (lk : Nat → Int) : (netC reps last m lk).setIfInBounds 1 (.int .u64 last') = netC reps last' m lk := by
  unfold netC
  rw [List.setIfInBounds_toArray, List.set_cons_succ, List.set_cons_zero]
/-- A net that New did not make. -/
def NoNet (w : World) (x : Value) : Prop := x = .pointer none ∨ ∃ g C, x = .pointer (some ⟨g, 0, none⟩) ∧ Blk w g 46 C ∧ C[2]? = some (.map none)
theorem NoNet.far {w w' : World} {x : Value} (h : NoNet w x) (f : Fr (fun _ => False) w w') : NoNet w' x := by
  rcases h with h | ⟨g, C, h1, h2, h3⟩
  · exact .inl h
  · exact .inr ⟨g, C, h1, keepB h2 f, h3⟩
theorem eq_map_none (W : World) : (binOp .neq 42 (.map none) (.map none)).run Try.prog W = .ok (.bool false) W := by kernel_rfl
theorem eq_map_some (W : World) (m : Nat) : (binOp .neq 42 (.map (some m)) (.map none)).run Try.prog W = .ok (.bool true) W := by kernel_rfl

set_option maxRecDepth 100000 in
set_option maxHeartbeats 1000000 in
theorem made_no (w : World) (x : Value) (hx : NoNet w x) : Calls Try.prog 29 #[x] w fun e w' => e = .returned (.bool false) ∧ w' = w := by
  have hm := eq_map_none w
  rcases hx with rfl | ⟨g, C, rfl, hB, h2⟩
  · go_enter Try.func29, Try.ntmps29
    go_wp2_with fail
    go_ret
    exact ⟨rfl, rfl⟩
  · have c2 : w.cell? ⟨g, 2, none⟩ = some (.map none) := by rw [hB.cell, h2]
    clear hB h2
    go_enter Try.func29, Try.ntmps29
    go_wp2_with fail
    go_ret
    exact ⟨rfl, rfl⟩

set_option maxRecDepth 100000 in
set_option maxHeartbeats 1000000 in
theorem made_yes (w : World) (g : Nat) (reps last : Int) (m : Nat) (lk : Nat → Int) (hB : Blk w g 46 (netC reps last (some m) lk)) : Calls Try.prog 29 #[.pointer (some ⟨g, 0, none⟩)] w fun e w' => e = .returned (.bool true) ∧ w' = w := by
  have hm := eq_map_some w m
  have c2 : w.cell? ⟨g, 2, none⟩ = some (.map (some m)) := hB.cell 2
  clear hB
  go_enter Try.func29, Try.ntmps29
  go_wp2_with fail
  go_ret
  exact ⟨rfl, rfl⟩

set_option maxRecDepth 100000 in
set_option maxHeartbeats 1000000 in
theorem replicas_no (w : World) (x : Value) (hx : NoNet w x) : Calls Try.prog 20 #[x] w fun e w' => e = .returned (.int .i64 0) ∧ w' = w := by
  go_enter Try.func20, Try.ntmps20
  go_wp2_with fail
  refine (made_no _ _ hx).mono ?_
  rintro e w1 ⟨rfl, rfl⟩
  go_wp2_with fail
  go_ret
  exact ⟨rfl, rfl⟩

set_option maxRecDepth 100000 in
set_option maxHeartbeats 1000000 in
theorem replicas_yes (w : World) (g : Nat) (reps last : Int) (m : Nat) (lk : Nat → Int) (hB : Blk w g 46 (netC reps last (some m) lk)) : Calls Try.prog 20 #[.pointer (some ⟨g, 0, none⟩)] w fun e w' => e = .returned (.int .i64 reps) ∧ w' = w := by
  have c0 : w.cell? ⟨g, 0, none⟩ = some (.int .i64 reps) := hB.cell 0
  have HB := Lib.hid hB
  clear hB
  go_enter Try.func20, Try.ntmps20
  go_wp2_with fail
  refine (made_yes _ _ _ _ _ _ HB.out).mono ?_
  rintro e w1 ⟨rfl, rfl⟩
  go_wp2_with fail
  go_ret
  exact ⟨rfl, rfl⟩

set_option maxRecDepth 100000 in
set_option maxHeartbeats 1000000 in
theorem has_of (w : World) (x : Value) (reps r : Int) (h : Calls Try.prog 20 #[x] w fun e w' => e = .returned (.int .i64 reps) ∧ w' = w) : Calls Try.prog 31 #[x, .int .i64 r] w fun e w' => e = .returned (.bool (decide (1 ≤ r) && decide (r ≤ reps))) ∧ w' = w := by
  have H := Lib.hid h
  clear h
  go_enter Try.func31, Try.ntmps31
  by_cases h1 : 1 ≤ r
  · have d1 : decide (1 ≤ r) = true := decide_eq_true h1
    go_wp2_with fail
    refine H.out.mono ?_
    rintro e w1 ⟨rfl, rfl⟩
    go_wp2_with fail
    go_ret
    exact ⟨by rw [d1]; rfl, rfl⟩
  · have d1 : decide (1 ≤ r) = false := decide_eq_false h1
    go_wp2_with fail
    go_ret
    exact ⟨rfl, rfl⟩

set_option maxRecDepth 100000 in
set_option maxHeartbeats 1000000 in
theorem send_no (w : World) (x b : Value) (r t : Int) (hx : NoNet w x) : Calls Try.prog 15 #[x, .int .i64 r, .int .i64 t, b] w fun e w' => e = .returned (.tuple #[.int .u64 0, .int .i64 1]) ∧ w' = w := by
  have h : (decide (1 ≤ r) && decide (r ≤ 0)) = false := by
    by_cases h : r ≤ 0
    · rw [decide_eq_false (by omega : ¬ 1 ≤ r)]; rfl
    · rw [decide_eq_false h]; simp
  have hh := has_of w x 0 r (replicas_no w x hx)
  rw [h] at hh
  have H := Lib.hid hh
  clear hh h
  go_enter Try.func15, Try.ntmps15
  go_wp2_with fail
  refine H.out.mono ?_
  rintro e w1 ⟨rfl, rfl⟩
  go_wp2_with fail
  go_ret2
  exact ⟨rfl, rfl⟩

theorem tMsg_size : (Try.prog.info? 51).map (·.size) = some 3 := by kernel_rfl

set_option maxRecDepth 100000 in
set_option maxHeartbeats 1000000 in
theorem find_no (w : World) (x : Value) (id : Int) (hx : NoNet w x) : Calls Try.prog 33 #[x, .int .u64 id] w fun e w' => e = .returned (.tuple #[.agg #[.int .i64 0, .int .i64 0, .slice none 0 0], .int .i64 4]) ∧ Fr (fun _ => False) w w' := by
  have HX := Lib.hid hx
  clear hx
  go_enter Try.func33, Try.ntmps33
  go_wp2_with fail
  refine (made_no _ _ (HX.out.far ((Fr.refl _ w).alloc _))).mono ?_
  rintro e w1 ⟨rfl, rfl⟩
  go_wp2_with fail
  exact bodyPost_ret (results_two Try.results33 _ _ w.heap.size 51 _ _ rfl (Blk.new w _ _) Try.underlying51 rfl tMsg_size) rfl ⟨rfl, (Fr.refl _ w).alloc _⟩

set_option maxRecDepth 100000 in
set_option maxHeartbeats 1000000 in
theorem clone_nil (w : World) : Calls Try.prog 34 #[.slice none 0 0] w fun e w' => e = .returned (.slice none 0 0) ∧ w' = w := by
  have e1 : ∀ W, (binOp .eql 33 (.slice none 0 0) (.slice none 0 0)).run Try.prog W = .ok (.bool true) W := fun W => by kernel_rfl
  go_enter Try.func34, Try.ntmps34
  go_wp2_with fail
  go_ret
  exact ⟨rfl, rfl⟩

set_option maxRecDepth 100000 in
set_option maxHeartbeats 1000000 in
theorem at_no (w : World) (x : Value) (id : Int) (hx : NoNet w x) : Calls Try.prog 18 #[x, .int .u64 id] w fun e w' => e = .returned (.tuple #[.agg #[.int .i64 0, .int .i64 0, .slice none 0 0], .int .i64 4]) ∧ Fr (fun _ => False) w w' := by
  have HX := Lib.hid hx
  clear hx
  go_enter Try.func18, Try.ntmps18
  go_wp2_with fail
  refine (find_no _ _ id (HX.out.far ((Fr.refl _ w).alloc _))).mono ?_
  rintro e w1 ⟨rfl, f1⟩
  have Z1 := Lib.hid (keepB (Blk.new w 51 #[.int .i64 0, .int .i64 0, .slice none 0 0]) f1)
  have F1 : Hid (Fr (fun _ => False) w w1) := ((Fr.refl _ w).alloc _).trans f1 (fun _ _ h => h)
  clear f1
  go_wp2_with (first
    | (go_at_call 34; refine (clone_nil _).mono ?_; rintro e w2 ⟨rfl, rfl⟩)
    | (refine wpList_store_blk rfl 51 _ _ rfl w.heap.size _ rfl rfl (Z1.out.alloc _) rfl tMsg_size (by first | rfl | kernel_rfl) ?_
       rintro W b f
       have BW := Lib.hid b
       have FW : Hid (Fr (fun _ => False) w W) := (F1.out.alloc _).trans f (fun k hk e => by have e' : k = w.heap.size := e; omega)
       clear b f))
  exact bodyPost_ret (results_two Try.results18 _ W w.heap.size 51 _ _ rfl BW.out Try.underlying51 rfl tMsg_size) rfl ⟨rfl, FW.out⟩

set_option maxRecDepth 100000 in
set_option maxHeartbeats 1000000 in
theorem deliver_no (w : World) (x : Value) (id : Int) (hx : NoNet w x) : Calls Try.prog 16 #[x, .int .u64 id] w fun e w' => e = .returned (.tuple #[.agg #[.int .i64 0, .int .i64 0, .slice none 0 0], .int .i64 4]) ∧ Fr (fun _ => False) w w' := by
  have HX := Lib.hid hx
  clear hx
  go_enter Try.func16, Try.ntmps16
  go_wp2_with fail
  refine (at_no _ _ id (HX.out.far ((Fr.refl _ w).alloc _))).mono ?_
  rintro e w1 ⟨rfl, f1⟩
  have Z1 := Lib.hid (keepB (Blk.new w 51 #[.int .i64 0, .int .i64 0, .slice none 0 0]) f1)
  have F1 : Hid (Fr (fun _ => False) w w1) := ((Fr.refl _ w).alloc _).trans f1 (fun _ _ h => h)
  clear f1
  go_wp2_with (refine wpList_store_blk rfl 51 _ _ rfl w.heap.size _ rfl rfl (Z1.out.alloc _) rfl tMsg_size (by first | rfl | kernel_rfl) ?_
               rintro W b f
               have BW := Lib.hid b
               have FW : Hid (Fr (fun _ => False) w W) := (F1.out.alloc _).trans f (fun k hk e => by have e' : k = w.heap.size := e; omega)
               clear b f)
  exact bodyPost_ret (results_two Try.results16 _ W w.heap.size 51 _ _ rfl BW.out Try.underlying51 rfl tMsg_size) rfl ⟨rfl, FW.out⟩

set_option maxRecDepth 100000 in
set_option maxHeartbeats 1000000 in
theorem drop_no (w : World) (x : Value) (id : Int) (hx : NoNet w x) : Calls Try.prog 19 #[x, .int .u64 id] w fun e w' => e = .returned (.int .i64 4) ∧ Fr (fun _ => False) w w' := by
  go_enter Try.func19, Try.ntmps19
  go_wp2_with fail
  refine (deliver_no _ _ id hx).mono ?_
  rintro e w1 ⟨rfl, f1⟩
  have F1 := Lib.hid f1
  clear f1
  go_wp2_with fail
  go_ret
  exact ⟨rfl, F1.out.alloc _⟩

set_option maxRecDepth 100000 in
set_option maxHeartbeats 1000000 in
theorem double_no (w : World) (x : Value) (id : Int) (hx : NoNet w x) : Calls Try.prog 17 #[x, .int .u64 id] w fun e w' => e = .returned (.tuple #[.int .u64 0, .int .i64 4]) ∧ Fr (fun _ => False) w w' := by
  go_enter Try.func17, Try.ntmps17
  go_wp2_with fail
  refine (find_no _ _ id hx).mono ?_
  rintro e w1 ⟨rfl, f1⟩
  have F1 := Lib.hid f1
  clear f1
  go_wp2_with fail
  go_ret2
  exact ⟨rfl, F1.out.alloc _⟩

set_option maxRecDepth 100000 in
set_option maxHeartbeats 1000000 in
theorem count_no (w : World) (x : Value) (hx : NoNet w x) : Calls Try.prog 21 #[x] w fun e w' => e = .returned (.int .i64 0) ∧ w' = w := by
  go_enter Try.func21, Try.ntmps21
  go_wp2_with fail
  refine (made_no _ _ hx).mono ?_
  rintro e w1 ⟨rfl, rfl⟩
  go_wp2_with fail
  go_ret
  exact ⟨rfl, rfl⟩

set_option maxRecDepth 100000 in
set_option maxHeartbeats 1000000 in
theorem letters_no (w : World) (x : Value) (hx : NoNet w x) : Calls Try.prog 22 #[x] w fun e w' => e = .returned (.slice none 0 0) ∧ w' = w := by
  go_enter Try.func22, Try.ntmps22
  go_wp2_with fail
  refine (made_no _ _ hx).mono ?_
  rintro e w1 ⟨rfl, rfl⟩
  go_wp2_with fail
  go_ret
  exact ⟨rfl, rfl⟩

set_option maxRecDepth 100000 in
set_option maxHeartbeats 1000000 in
theorem copy_no (w : World) (x : Value) (hx : NoNet w x) : Calls Try.prog 14 #[x] w fun e w' => e = .returned (.pointer none) ∧ w' = w := by
  go_enter Try.func14, Try.ntmps14
  go_wp2_with fail
  refine (made_no _ _ hx).mono ?_
  rintro e w1 ⟨rfl, rfl⟩
  go_wp2_with fail
  go_ret
  exact ⟨rfl, rfl⟩

end Go.Proofs.Ytpgklhbbjbdejaa
