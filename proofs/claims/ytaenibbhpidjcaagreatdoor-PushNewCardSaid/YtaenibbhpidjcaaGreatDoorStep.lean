/-
  CONTRACT of pull's step, at two phases.
-/
import Derived.Test.YtaenibbhpidjcaaGreatDoorSt
import Derived.Test.YtaenibbhpidjcaaGreatDoorProg
import Derived.IntWalk
import Derived.Lib.Hide
namespace Go.Proofs.YtaenibbhpidjcaaGreatDoor
set_option linter.unusedSimpArgs false
set_option linter.unusedVariables false
open Go Go.RowKit

set_option maxRecDepth 100000 in
set_option maxHeartbeats 1000000 in
theorem step1_c (w : World) (x : Nat) {C : Array Value} (hB : Blk w x 75 C) (h4 : C[4]? = some (.int .i64 1)) :
    Calls Tryz.prog 24 #[.pointer (some ⟨x, 0, none⟩)] w fun e w' => e = .returned (.agg #[.int .i64 1, .func (.func 36) #[] #[]]) ∧ Fr (fun _ => False) w w' := by
  have hlt := hB.lt
  have HB := Lib.hid hB
  clear hB
  have hB := HB
  go_enter Tryz.func24, Tryz.ntmps24
  go_wp2_with (first
    | (refine wpList_store_blk rfl 101 _ _ rfl (w.heap.size + 1) _ rfl rfl (Blk.new1 w _ 101 _) rfl (by kernel_rfl) (by first | rfl | kernel_rfl) ?_
       rintro W b f
       have c4 : W.cell? ⟨x, 4, none⟩ = some (.int .i64 1) := by rw [(((hB.out.alloc _).alloc _).fr f (by omega)).cell 4, h4]
       have d0 : W.cell? ⟨w.heap.size + 1, 2, none⟩ = some (.int .i64 1) := b.cell 2
       have d1 : W.cell? ⟨w.heap.size + 1, 3, none⟩ = some (.func (.func 36) #[] #[]) := b.cell 3
       have br := Lib.hid ((Blk.new w 81 _).alloc _ |>.fr f (by omega))
       have ff := Lib.hid (Fr.trans (((Fr.refl (fun _ => False) w).alloc _).alloc _) f (fun k hk e => by omega))
       clear b f)
    | (refine wpList_store_blk rfl 81 _ _ rfl w.heap.size _ rfl rfl br.out rfl (by kernel_rfl) (by first | rfl | kernel_rfl) ?_
       rintro W2 b f
       have BW := Lib.hid b
       have FW := Lib.hid (ff.out.trans f (fun k hk e => by omega))
       clear b f))
  exact bodyPost_ret (results_one Tryz.results24 _ W2 w.heap.size 81 _ _ rfl BW.out Tryz.underlying81 rfl (by kernel_rfl)) rfl ⟨rfl, FW.out⟩

set_option maxRecDepth 100000 in
set_option maxHeartbeats 1000000 in
theorem step2_c (w : World) (x : Nat) {C : Array Value} (hB : Blk w x 75 C) (h4 : C[4]? = some (.int .i64 2)) :
    Calls Tryz.prog 24 #[.pointer (some ⟨x, 0, none⟩)] w fun e w' => e = .returned (.agg #[.int .i64 2, .func (.func 37) #[] #[]]) ∧ Fr (fun _ => False) w w' := by
  have hlt := hB.lt
  have HB := Lib.hid hB
  clear hB
  have hB := HB
  go_enter Tryz.func24, Tryz.ntmps24
  go_wp2_with (first
    | (refine wpList_store_blk rfl 101 _ _ rfl (w.heap.size + 1) _ rfl rfl (Blk.new1 w _ 101 _) rfl (by kernel_rfl) (by first | rfl | kernel_rfl) ?_
       rintro W b f
       have c4 : W.cell? ⟨x, 4, none⟩ = some (.int .i64 2) := by rw [(((hB.out.alloc _).alloc _).fr f (by omega)).cell 4, h4]
       have d0 : W.cell? ⟨w.heap.size + 1, 4, none⟩ = some (.int .i64 2) := b.cell 4
       have d1 : W.cell? ⟨w.heap.size + 1, 5, none⟩ = some (.func (.func 37) #[] #[]) := b.cell 5
       have br := Lib.hid ((Blk.new w 81 _).alloc _ |>.fr f (by omega))
       have ff := Lib.hid (Fr.trans (((Fr.refl (fun _ => False) w).alloc _).alloc _) f (fun k hk e => by omega))
       clear b f)
    | (refine wpList_store_blk rfl 81 _ _ rfl w.heap.size _ rfl rfl br.out rfl (by kernel_rfl) (by first | rfl | kernel_rfl) ?_
       rintro W2 b f
       have BW := Lib.hid b
       have FW := Lib.hid (ff.out.trans f (fun k hk e => by omega))
       clear b f))
  exact bodyPost_ret (results_one Tryz.results24 _ W2 w.heap.size 81 _ _ rfl BW.out Tryz.underlying81 rfl (by kernel_rfl)) rfl ⟨rfl, FW.out⟩

end Go.Proofs.YtaenibbhpidjcaaGreatDoor
