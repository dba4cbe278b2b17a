/-
  CONTRACTS of slices.Clone at nil, of pull's own and run.
-/
import Derived.Test.YtaenibbhpidjcaaGreatDoorNm
import Derived.Test.YtaenibbhpidjcaaGreatDoorSt
import Derived.Deep.RegionHeld3
import Derived.Deep.RegionWith
import Derived.BigRegion
import Derived.Deep.DeepCutAuto
import Derived.Deep.CutRange
namespace Go.Proofs.YtaenibbhpidjcaaGreatDoor
set_option linter.unusedSimpArgs false
set_option linter.unusedVariables false
open Go Go.RowKit

set_option maxRecDepth 100000 in
theorem CloneCh_nil (w : World) : Calls Tryz.prog 44 #[.slice none 0 0] w fun e w' => e = .returned (.slice none 0 0) ∧ w' = w := by
  have e1 : ∀ W, (binOp .eql 24 (.slice none 0 0) (.slice none 0 0)).run Tryz.prog W = .ok (.bool true) W := fun W => by kernel_rfl
  go_enter Tryz.func44, Tryz.ntmps44
  go_wp2_with fail
  go_ret
  exact ⟨rfl, rfl⟩

set_option maxRecDepth 100000 in
theorem CloneWa_nil (w : World) : Calls Tryz.prog 45 #[.slice none 0 0] w fun e w' => e = .returned (.slice none 0 0) ∧ w' = w := by
  have e1 : ∀ W, (binOp .eql 25 (.slice none 0 0) (.slice none 0 0)).run Tryz.prog W = .ok (.bool true) W := fun W => by kernel_rfl
  go_enter Tryz.func45, Tryz.ntmps45
  go_wp2_with fail
  go_ret
  exact ⟨rfl, rfl⟩

set_option maxRecDepth 100000 in
theorem CloneDo_nil (w : World) : Calls Tryz.prog 104 #[.slice none 0 0] w fun e w' => e = .returned (.slice none 0 0) ∧ w' = w := by
  have e1 : ∀ W, (binOp .eql 56 (.slice none 0 0) (.slice none 0 0)).run Tryz.prog W = .ok (.bool true) W := fun W => by kernel_rfl
  go_enter Tryz.func104, Tryz.ntmps104
  go_wp2_with fail
  go_ret
  exact ⟨rfl, rfl⟩

set_option maxRecDepth 100000 in
theorem ownCh_nil (w : World) : Calls Tryz.prog 53 #[.slice none 0 0] w fun e w' => e = .returned (.slice none 0 0) ∧ w' = w := by
  go_enter Tryz.func53, Tryz.ntmps53
  go_wp2_with fail
  refine (CloneCh_nil _).mono ?_
  rintro e w1 ⟨rfl, rfl⟩
  go_wp2_with fail
  go_loopw [8] (fun u wr => u = .int .i64 0 ∧ wr = w1) (fun _ _ => 0)
  case atStart => exact ⟨rfl, rfl⟩
  case round =>
    obtain ⟨rfl, rfl⟩ := hrel
    go_wp2_with fail
    go_ret
    exact ⟨rfl, rfl⟩

set_option maxRecDepth 100000 in
set_option maxHeartbeats 1000000 in
theorem own_c (w : World) (u s : ByteArray) (inc n ph since life to_ asked done why : Int) : Calls Tryz.prog 34 #[.agg #[.string u, .string s, .int .u64 inc, .int .u64 n, .int .i64 ph, .int .u64 since, .int .u64 life, .int .u64 to_, .slice none 0 0, .slice none 0 0, .int .u64 asked, .int .i64 done, .int .i64 why]] w fun e w' => e = .returned (.agg #[.string u, .string s, .int .u64 inc, .int .u64 n, .int .i64 ph, .int .u64 since, .int .u64 life, .int .u64 to_, .slice none 0 0, .slice none 0 0, .int .u64 asked, .int .i64 done, .int .i64 why]) ∧ Fr (fun _ => False) w w' := by
  go_enter Tryz.func34, Tryz.ntmps34
  go_wp2_with fail
  go_cut [] from 4 to 11 (fun wx => Hid (Blk wx w.heap.size 28 #[.string u, .string s, .int .u64 inc, .int .u64 n, .int .i64 ph, .int .u64 since, .int .u64 life, .int .u64 to_, .slice none 0 0, .slice none 0 0, .int .u64 asked, .int .i64 done, .int .i64 why]) ∧ Hid (Blk wx (w.heap.size + 1) 28 #[.string ⟨#[]⟩, .string ⟨#[]⟩, .int .u64 0, .int .u64 0, .int .i64 0, .int .u64 0, .int .u64 0, .int .u64 0, .slice none 0 0, .slice none 0 0, .int .u64 0, .int .i64 0, .int .i64 0]) ∧ Hid (Fr (fun _ => False) w wx))
  case first =>
    go_region_with (first
      | (go_at_call 53; refine (ownCh_nil _).mono ?_; rintro e w1 ⟨rfl, rfl⟩)
      | (go_at_call 45; refine (CloneWa_nil _).mono ?_; rintro e w1 ⟨rfl, rfl⟩))
    all_goals (go_wp2_with fail)
    all_goals go_meet
    all_goals exact ⟨((Blk.new w 28 _).alloc _).drew, (Blk.new1 w _ 28 _).drew, (((Fr.refl _ w).alloc _).alloc _).drew⟩
  case rest =>
    obtain ⟨b1, b2, f⟩ := hcut
    have c9 : wc.cell? ⟨w.heap.size, 9, none⟩ = some (.slice none 0 0) := b1.out.cell 9
    go_wp2_with fail
    go_loopw [15] (fun u wr => u = .int .i64 0 ∧ wr = wc) (fun _ _ => 0)
    case atStart => exact ⟨rfl, rfl⟩
    case round =>
      obtain ⟨rfl, rfl⟩ := hrel
      have BB2 := b2.out
      go_wp2_with (first
        | (refine wpList_load_blk rfl 28 _ rfl w.heap.size rfl b1.out _ Tryz.underlying28 rfl 13 (by kernel_rfl) rfl ?_)
        | (refine wpList_store_blk rfl 28 _ _ rfl (w.heap.size + 1) _ rfl rfl BB2 rfl (by kernel_rfl) (by first | rfl | kernel_rfl) ?_; rintro W b ff; have BW := Lib.hid b; have FW := Lib.hid ff; clear b ff BB2))
      exact bodyPost_ret (results_one Tryz.results34 _ W (w.heap.size + 1) 28 _ _ rfl BW.out Tryz.underlying28 rfl (by kernel_rfl)) rfl ⟨rfl, f.out.trans FW.out (fun k hk e => by omega)⟩

end Go.Proofs.YtaenibbhpidjcaaGreatDoor
