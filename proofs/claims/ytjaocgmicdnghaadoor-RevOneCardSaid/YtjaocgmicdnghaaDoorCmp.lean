/-
  CONTRACT of rev.Cmp where the generations differ.
-/
import Derived.Test.YtjaocgmicdnghaaDoorEqr
namespace Go.Proofs.YtjaocgmicdnghaaDoor
set_option linter.unusedSimpArgs false
set_option linter.unusedVariables false
open Go Go.RowKit Go.Shelf
attribute [local go_sem] Oper.semAt_some
theorem isNaN_c (w : World) (x : Nat) : Calls Tryd.prog 37 #[.int .u64 (x : Nat)] w fun e w' => e = .returned (.bool false) ∧ w = w' := by
  have h : ((x : Int) != (x : Int)) = false := by simp
  go_enter Tryd.func37, Tryd.ntmps37
  go_wp2_with fail
  go_ret
  exact ⟨rfl, rfl⟩
theorem cmpU_lt (w : World) (a b : Nat) (h : a < b) : Calls Tryd.prog 27 #[.int .u64 (a : Nat), .int .u64 (b : Nat)] w fun e w' => e = .returned (.int .i64 (-1)) ∧ w = w' := by
  have hd : decide ((a : Int) < (b : Int)) = true := decide_eq_true (by omega)
  have hd2 : decide (a < b) = true := decide_eq_true h
  go_enter Tryd.func27, Tryd.ntmps27
  go_wp2_with fail
  refine (isNaN_c w a).mono ?_
  rintro e w' ⟨rfl, rfl⟩
  go_wp2_with fail
  refine (isNaN_c w b).mono ?_
  rintro e w' ⟨rfl, rfl⟩
  go_wp2_with fail
  go_ret
  exact ⟨rfl, rfl⟩
set_option maxRecDepth 100000 in
set_option maxHeartbeats 1000000 in
theorem cmp_lt (w : World) (g g' : Nat) (s s' : List UInt8) (h : g < g') :
    Calls Tryd.prog 18 #[.agg (rc g s).toArray, .agg (rc g' s').toArray] w fun e w' => e = .returned (.int .i64 (-1)) ∧ Fr (fun _ => False) w w' := by
  go_enter Tryd.func18, Tryd.ntmps18
  go_upto_region 1 with fail
  refine abs_world (fun W => Hid (Blk W w.heap.size 25 (rc g s).toArray) ∧ Hid (Blk W (w.heap.size + 1) 25 (rc g' s').toArray) ∧ Hid (Fr (fun _ => False) w W)) ⟨(Blk.new w _ _).alloc _, by have h := Blk.new (w.alloc (.cells (rc g s).toArray 25)) 25 (rc g' s').toArray; rw [World.size_alloc] at h; exact h, ((Fr.refl _ w).alloc _).alloc _⟩ ?_
  rintro W1 ⟨B1, B2, F1⟩
  have c0 : W1.cell? ⟨w.heap.size, 0, none⟩ = some (.int .u64 (g : Nat)) := B1.out.cell 0
  have c1 : W1.cell? ⟨w.heap.size + 1, 0, none⟩ = some (.int .u64 (g' : Nat)) := B2.out.cell 0
  go_wp2_with fail
  refine (cmpU_lt W1 g g' h).mono ?_
  rintro e w' ⟨rfl, rfl⟩
  go_wp2_with fail
  go_ret
  exact ⟨rfl, F1.out⟩
end Go.Proofs.YtjaocgmicdnghaaDoor
