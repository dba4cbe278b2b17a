/-
  CONTRACTS: frame's first, Size, number; slices.Grow of nothing, slices.Concat, slices.Reverse of four bytes, bytes.Equal.
-/
import Derived.Test.YtmaajihpkollcaaDoorCk
import Derived.Test.YtmaajihpkollcaaDoorApp
import Derived.Lib.AppendZerosOnto
import Derived.Deep.RegionWith
import Derived.Deep.Draws
namespace Go.Proofs.YtmaajihpkollcaaDoor
set_option linter.unusedSimpArgs false
set_option linter.unusedVariables false
open Go Go.RowKit

theorem u8_info : (Tryd.prog.info? 5).map (fun i => (i.zero, i.size, i.bytes)) = some (some (.int .u8 0), 1, 1) := by kernel_rfl

theorem be4 (x : Nat) : bv (be 4 x) = [.int .u8 ((x / 16777216 % 256 : Nat) : Int), .int .u8 ((x / 65536 % 256 : Nat) : Int), .int .u8 ((x / 256 % 256 : Nat) : Int), .int .u8 ((x % 256 : Nat) : Int)] := by
  simp only [be, bv, by8_toNat, List.nil_append, List.cons_append, List.map_cons, List.map_nil, Nat.div_div_eq_div_mul]
theorem le4 (x : Nat) : bv (le 4 x) = [.int .u8 ((x % 256 : Nat) : Int), .int .u8 ((x / 256 % 256 : Nat) : Int), .int .u8 ((x / 65536 % 256 : Nat) : Int), .int .u8 ((x / 16777216 % 256 : Nat) : Int)] := by
  simp [le, bv, by8_toNat]

set_option maxHeartbeats 400000 in
theorem first_c (w : World) (X : Nat) (x : Int) (hx : x = X) (hX : X < 4294967296) :
    Calls Tryd.prog 23 #[.int .u32 x] w fun e w' => e = .returned (.slice (some ⟨w.heap.size, 0, none⟩) 4 4) ∧ w' = w.alloc (.cells (bv (be 4 X)).toArray 5) := by
  subst hx
  have h4 := be4 X
  have H4 := Lib.hid h4
  clear h4
  go_enter Tryd.func23, Tryd.ntmps23
  go_wp2_with fail
  go_ret
  refine ⟨rfl, ?_⟩
  rw [H4.out, Nat.mod_eq_of_lt (show X / 16777216 < 256 by omega)]
  rfl

theorem size_c (w : World) (A : Option Addr) (n c : Nat) (hn : n ≤ 140737488355328) :
    Calls Tryd.prog 19 #[.slice A n c] w fun e w' => e = .returned (.int .i64 (8 + (n : Int))) ∧ w = w' := by
  go_enter Tryd.func19, Tryd.ntmps19
  go_wp2_with fail
  go_ret
  exact ⟨rfl, rfl⟩

/-- A new row without elements yet. -/
theorem own_empty (w : World) (base : Nat) (g cap : Nat) (cur : Array Value) (hb : base ≤ g) (h : w.heap[g]? = some (.cells cur 5 (0, 0))) (hc : cur.size = cap) (hm : cap ≤ maxLen) :
    w.ownsRow base 5 1 (.slice (some ⟨g, 0, none⟩) 0 cap) 0 [] :=
  ⟨rfl, .inr ⟨g, cap, cur, rfl, hb, h, Nat.zero_le _, hm, by rw [hc, Nat.mul_one], by simp⟩⟩

set_option maxRecDepth 100000 in
set_option maxHeartbeats 1000000 in
theorem grow_c (w : World) (n : Nat) (hn : n ≤ 140737488355328) :
    Calls Tryd.prog 32 #[.slice none 0 0, .int .i64 (n : Int)] w fun e w' => ∃ v, e = .returned v ∧ w'.ownsRow w.heap.size 5 1 v 0 [] ∧ Fr (fun _ => False) w w' := by
  obtain ⟨i0, hi, hz0, hz1, hz2⟩ := info_parts u8_info
  rcases Nat.eq_zero_or_pos n with h0 | hpos
  · subst h0
    go_enter Tryd.func32, Tryd.ntmps32
    go_wp2_with fail
    go_ret
    exact ⟨_, rfl, World.ownsRow_nil _ _ _ _, Fr.refl _ _⟩
  · have hold : (Builtin.firstCells i0.size 0 (.slice none 0 0)).run Tryd.prog w.drew = .ok #[] w.drew := run_firstCells_none w.drew i0.size 0 0 0
    have hrz : ∀ ty, (Builtin.append_ #[25, 3] ty #[.slice none 0 0, .int .i64 (n : Int)]).run Tryd.prog w =
        .ok (.slice (some ⟨w.heap.size, 0, none⟩) n (grownCap w n 0 5)) (w.drew.alloc (.cells (Builtin.zeroCells (Value.int .u8 0).cells n ++ Builtin.zeroCells (Value.int .u8 0).cells (grownCap w n 0 5 - n)) 5)) := fun ty => by
      have h := Lib.run_append_grow_zeros w 25 3 ty 5 i0 (.int .u8 0) .i64 .i64 Tryd.underlying25 Tryd.underlying3 hi hz0 none 0 0 [] hold n (by omega) (by omega) (by omega) (by omega)
        (by rw [hz2]; omega) (by rw [hz2, Nat.zero_add]; exact growslice_fits (by omega) (by omega))
      simpa using h
    have hG := grownCap_ge w n 0 5
    have hG2 := grownCap_le_maxLen w n 0 5 (by unfold maxLen; omega)
    have hG3 := hG2
    unfold maxLen at hG3
    generalize grownCap w n 0 5 = G at *
    clear hold
    go_enter Tryd.func32, Tryd.ntmps32
    have HRZ := Lib.hid hrz
    clear hrz
    go_wp2_with (at_builtin; refine Lib.wpList_append_run _ rfl _ _ _ _ rfl _ _ rfl rfl _ _ (HRZ.out _) ?_)
    go_ret
    refine ⟨_, rfl, own_empty _ _ _ _ _ (Nat.le_refl _) (heap_alloc_new w.drew _) ?_ hG2, ((Fr.refl _ w).drew).alloc _⟩
    simp [size_zeroCells]
    omega
end Go.Proofs.YtmaajihpkollcaaDoor
