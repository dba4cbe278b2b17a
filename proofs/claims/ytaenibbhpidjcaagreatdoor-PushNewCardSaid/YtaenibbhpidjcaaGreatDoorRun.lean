/-
  CONTRACT of pull's run.
-/
import Derived.Test.YtaenibbhpidjcaaGreatDoorOwn
namespace Go.Proofs.YtaenibbhpidjcaaGreatDoor
set_option linter.unusedSimpArgs false
set_option linter.unusedVariables false
open Go Go.RowKit

set_option maxRecDepth 100000 in
set_option maxHeartbeats 1000000 in
theorem run_c (w : World) (u s : ByteArray) (inc n ph since life to_ asked done why now seq : Int) (LA : Option Addr) (ln lc : Nat) :
    Calls Tryz.prog 21 #[.agg #[.string u, .string s, .int .u64 inc, .int .u64 n, .int .i64 ph, .int .u64 since, .int .u64 life, .int .u64 to_, .slice none 0 0, .slice none 0 0, .int .u64 asked, .int .i64 done, .int .i64 why], .int .u64 now, .agg #[.int .u64 seq, .slice none 0 0, .slice LA ln lc, .slice none 0 0]] w fun e w' => ∃ x, e = .returned (.pointer (some ⟨x, 0, none⟩)) ∧ w.heap.size ≤ x ∧ Blk w' x 75 #[.string u, .string s, .int .u64 inc, .int .u64 n, .int .i64 ph, .int .u64 since, .int .u64 life, .int .u64 to_, .slice none 0 0, .slice none 0 0, .int .u64 asked, .int .i64 done, .int .i64 why, .int .u64 now, .int .u64 seq, .slice none 0 0, .slice LA ln lc, .slice none 0 0, .slice none 0 0, .slice none 0 0] ∧ Fr (fun _ => False) w w' := by
  go_enter Tryz.func21, Tryz.ntmps21
  go_wp2_with fail
  go_cut [6] from 7 to 12 (fun p wx => ∃ x : Nat, p = .pointer (some ⟨x, 0, none⟩) ∧ w.heap.size ≤ x ∧ Hid (Blk wx x 75 #[.string u, .string s, .int .u64 inc, .int .u64 n, .int .i64 ph, .int .u64 since, .int .u64 life, .int .u64 to_, .slice none 0 0, .slice none 0 0, .int .u64 asked, .int .i64 done, .int .i64 why, .int .u64 now, .int .u64 seq, .slice none 0 0, .slice LA ln lc, .slice none 0 0, .slice none 0 0, .slice none 0 0]) ∧ Hid (Fr (fun _ => False) w wx))
  case first =>
    go_region_with
      (go_at_call 34
       refine (own_c _ u s inc n ph since life to_ asked done why).mono ?_
       rintro e w1 ⟨rfl, f1⟩
       have sb : Blk w1 (w.heap.size + 1) 59 #[.int .u64 seq, .slice none 0 0, .slice LA ln lc, .slice none 0 0] := Blk.fr (Blk.new1 w _ 59 _).drew f1 (fun h => h)
       have y0 : w1.cell? ⟨w.heap.size + 1, 0, none⟩ = some (.int .u64 seq) := sb.cell 0
       have y1 : w1.cell? ⟨w.heap.size + 1, 1, none⟩ = some (.slice none 0 0) := sb.cell 1
       have y2 : w1.cell? ⟨w.heap.size + 1, 2, none⟩ = some (.slice LA ln lc) := sb.cell 2
       have y3 : w1.cell? ⟨w.heap.size + 1, 3, none⟩ = some (.slice none 0 0) := sb.cell 3
       have FF : Hid (Fr (fun _ => False) w w1) := Fr.trans ((((Fr.refl _ w).alloc _).alloc _).drew) f1 (fun _ _ h => h)
       clear f1 sb)
    all_goals (go_wp2_with fail)
    all_goals go_meet
    all_goals exact ⟨w1.heap.size, rfl, FF.out.size, Blk.new w1 75 _, FF.out.alloc _⟩
  case rest =>
    obtain ⟨x, rfl, hx, b, f⟩ := hcut
    go_wp2_with fail
    go_ret
    exact ⟨x, rfl, hx, b.out, f.out⟩

end Go.Proofs.YtaenibbhpidjcaaGreatDoor
