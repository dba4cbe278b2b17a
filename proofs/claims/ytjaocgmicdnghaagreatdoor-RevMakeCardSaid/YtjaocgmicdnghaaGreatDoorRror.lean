/-
  CONTRACTS of the reference's ror and stir.
-/
import Derived.Test.YtjaocgmicdnghaaGreatDoorWords
import Derived.Deep.QuietTactic
import Derived.BigQuiet
namespace Go.Proofs.YtjaocgmicdnghaaGreatDoor
set_option linter.unusedSimpArgs false
set_option linter.unusedVariables false
open Go Go.RowKit

theorem rr_or' (x A B p : Nat) (hx : x < 4294967296) (hA : A = 2 ^ (32 - p)) (hB : B = 2 ^ p) : bits .or .u32 ((x : Int) / (B : Int)) ((x : Int) * (A : Int) % 4294967296) = ((rr x p : Nat) : Int) := by
  subst hA hB
  have h1 : (x : Int) * ((2 ^ (32 - p) : Nat) : Int) % 4294967296 = ((x * 2 ^ (32 - p) % 4294967296 : Nat) : Int) := by
    rw [Int.natCast_emod, Int.natCast_mul]
    rfl
  have h2 : (x : Int) / ((2 ^ p : Nat) : Int) = ((x / 2 ^ p : Nat) : Int) := (Int.natCast_ediv _ _).symm
  rw [h1, h2, u32_or_nat _ _ (Nat.lt_of_le_of_lt (Nat.div_le_self _ _) hx) (Nat.mod_lt _ (by omega))]
  rfl

set_option maxHeartbeats 400000 in
theorem ror16 (w : World) (x : Nat) (hx : x < 4294967296) : Calls Tryz.prog 109 #[.int .u32 x, .int .i64 16] w fun e w' => e = .returned (.int .u32 (rr x 16 : Nat)) ∧ ∃ n, w' = w.drewN n := by
  go_enter Tryz.func109, Tryz.ntmps109
  go_wp2_with fail
  go_quiet (fail)
  go_wp2_with fail
  go_ret
  exact ⟨congrArg (fun z => Ending.returned (.int .u32 z)) (rr_or' x 65536 65536 16 hx (by decide) (by decide)), nq, rfl⟩

set_option maxHeartbeats 400000 in
theorem ror12 (w : World) (x : Nat) (hx : x < 4294967296) : Calls Tryz.prog 109 #[.int .u32 x, .int .i64 12] w fun e w' => e = .returned (.int .u32 (rr x 12 : Nat)) ∧ ∃ n, w' = w.drewN n := by
  go_enter Tryz.func109, Tryz.ntmps109
  go_wp2_with fail
  go_quiet (fail)
  go_wp2_with fail
  go_ret
  exact ⟨congrArg (fun z => Ending.returned (.int .u32 z)) (rr_or' x 1048576 4096 12 hx (by decide) (by decide)), nq, rfl⟩

set_option maxHeartbeats 400000 in
theorem ror8 (w : World) (x : Nat) (hx : x < 4294967296) : Calls Tryz.prog 109 #[.int .u32 x, .int .i64 8] w fun e w' => e = .returned (.int .u32 (rr x 8 : Nat)) ∧ ∃ n, w' = w.drewN n := by
  go_enter Tryz.func109, Tryz.ntmps109
  go_wp2_with fail
  go_quiet (fail)
  go_wp2_with fail
  go_ret
  exact ⟨congrArg (fun z => Ending.returned (.int .u32 z)) (rr_or' x 16777216 256 8 hx (by decide) (by decide)), nq, rfl⟩

set_option maxHeartbeats 400000 in
theorem ror7 (w : World) (x : Nat) (hx : x < 4294967296) : Calls Tryz.prog 109 #[.int .u32 x, .int .i64 7] w fun e w' => e = .returned (.int .u32 (rr x 7 : Nat)) ∧ ∃ n, w' = w.drewN n := by
  go_enter Tryz.func109, Tryz.ntmps109
  go_wp2_with fail
  go_quiet (fail)
  go_wp2_with fail
  go_ret
  exact ⟨congrArg (fun z => Ending.returned (.int .u32 z)) (rr_or' x 33554432 128 7 hx (by decide) (by decide)), nq, rfl⟩

end Go.Proofs.YtjaocgmicdnghaaGreatDoor
