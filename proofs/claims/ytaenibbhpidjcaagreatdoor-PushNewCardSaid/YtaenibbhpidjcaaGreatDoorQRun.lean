/-
  CONTRACT of push's run.
-/
import Derived.Test.YtaenibbhpidjcaaGreatDoorOwn
namespace Go.Proofs.YtaenibbhpidjcaaGreatDoor
set_option linter.unusedSimpArgs false
set_option linter.unusedVariables false
open Go Go.RowKit

set_option maxRecDepth 100000 in
set_option maxHeartbeats 2000000 in
theorem qrun_c (w : World) (u s : ByteArray) (inc n ph since life to_ asked done why rf now seq : Int) (LA : Option Addr) (ln lc : Nat) :
    Calls Tryz.prog 29 #[.agg #[.string u, .string s, .int .u64 inc, .int .u64 n, .int .i64 ph, .int .u64 since, .int .u64 life, .int .u64 to_, .slice none 0 0, .slice none 0 0, .int .u64 asked, .int .i64 done, .int .i64 why, .int .i64 rf], .int .u64 now, .agg #[.int .u64 seq, .slice none 0 0, .slice LA ln lc, .slice none 0 0]] w fun e w' => ∃ x, e = .returned (.pointer (some ⟨x, 0, none⟩)) ∧ w.heap.size ≤ x ∧ Blk w' x 94 #[.string u, .string s, .int .u64 inc, .int .u64 n, .int .i64 ph, .int .u64 since, .int .u64 life, .int .u64 to_, .slice none 0 0, .slice none 0 0, .int .u64 asked, .int .i64 done, .int .i64 why, .int .i64 rf, .int .u64 now, .int .u64 seq, .slice none 0 0, .slice LA ln lc, .slice none 0 0, .slice none 0 0, .slice none 0 0] ∧ Fr (fun _ => False) w w' := by
  go_enter Tryz.func29, Tryz.ntmps29
  go_wp2_with fail
  go_cut [] from 9 to 16 (fun wx => Hid (Blk wx w.heap.size 34 #[.string u, .string s, .int .u64 inc, .int .u64 n, .int .i64 ph, .int .u64 since, .int .u64 life, .int .u64 to_, .slice none 0 0, .slice none 0 0, .int .u64 asked, .int .i64 done, .int .i64 why, .int .i64 rf]) ∧ Hid (Blk wx (w.heap.size + 1) 59 #[.int .u64 seq, .slice none 0 0, .slice LA ln lc, .slice none 0 0]) ∧ Hid (Fr (fun _ => False) w wx))
  case first =>
    go_region_with (first
      | (go_at_call 44; refine (CloneCh_nil _).mono ?_; rintro e w1 ⟨rfl, rfl⟩)
      | (go_at_call 45; refine (CloneWa_nil _).mono ?_; rintro e w1 ⟨rfl, rfl⟩))
    all_goals (go_wp2_with fail)
    all_goals go_meet
    all_goals exact ⟨((Blk.new w 34 _).alloc _).drew, (Blk.new1 w _ 59 _).drew, (((Fr.refl _ w).alloc _).alloc _).drew⟩
  case rest =>
    obtain ⟨b1, b2, f⟩ := hcut
    have hlt := b1.out.lt
    have c8 : wc.cell? ⟨w.heap.size, 8, none⟩ = some (.slice none 0 0) := b1.out.cell 8
    have c9 : wc.cell? ⟨w.heap.size, 9, none⟩ = some (.slice none 0 0) := b1.out.cell 9
    have s0 : wc.cell? ⟨w.heap.size + 1, 0, none⟩ = some (.int .u64 seq) := b2.out.cell 0
    have s1 : wc.cell? ⟨w.heap.size + 1, 1, none⟩ = some (.slice none 0 0) := b2.out.cell 1
    have s2 : wc.cell? ⟨w.heap.size + 1, 2, none⟩ = some (.slice LA ln lc) := b2.out.cell 2
    have s3 : wc.cell? ⟨w.heap.size + 1, 3, none⟩ = some (.slice none 0 0) := b2.out.cell 3
    go_wp2_with fail
    go_loopw [20] (fun u wr => u = .int .i64 0 ∧ wr = wc) (fun _ _ => 0)
    case atStart => exact ⟨rfl, rfl⟩
    case round =>
      obtain ⟨rfl, rfl⟩ := hrel
      go_wp2_with fail
      go_loopw [39] (fun u wx => u = .int .i64 0 ∧ wx = wr) (fun _ _ => 0)
      case atStart => exact ⟨rfl, rfl⟩
      case round =>
        obtain ⟨rfl, rfl⟩ := hrel
        go_wp2_with (refine wpList_load_blk rfl 34 _ rfl w.heap.size rfl b1.out _ Tryz.underlying34 rfl 14 (by kernel_rfl) rfl ?_)
        go_ret
        exact ⟨_, rfl, f.out.size, Blk.new _ _ _, f.out.alloc _⟩

end Go.Proofs.YtaenibbhpidjcaaGreatDoor
