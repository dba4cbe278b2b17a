/-
  CONTRACTS: frame's after.
-/
import Derived.Test.YtmaajihpkollcaaDoorFr4
namespace Go.Proofs.YtmaajihpkollcaaDoor
set_option linter.unusedSimpArgs false
set_option linter.unusedVariables false
open Go Go.RowKit

set_option maxRecDepth 100000 in
set_option maxHeartbeats 2000000 in
theorem after_c (w : World) (cn sz s x : Int) (A : Option Addr) (n c : Nat) (h0 : 0 ≤ cn) (h1 : cn < 4611686018427387904) (g0 : 0 ≤ sz) (h2 : sz < 4611686018427387904) (hn : n ≤ 140737488355328) :
    Calls Tryd.prog 26 #[tailV cn sz s, .int .u32 x, .slice A n c] w fun e w' => e = .returned (tailV (cn + 1) (sz + (8 + (n : Int))) x) ∧ Fr (fun _ => False) w w' := by
  unfold tailV
  have e1 : IntKind.i64.wrap (cn + 1) = cn + 1 := IntWalk.i64_in _ (by omega)
  have e2 : IntKind.i64.wrap (sz + (8 + (n : Int))) = sz + (8 + (n : Int)) := IntWalk.i64_in _ (by omega)
  go_enter Tryd.func26, Tryd.ntmps26
  go_wp2_with fail
  go_region_with (first | (go_at_call 19; refine (size_c _ _ _ _ hn).mono ?_; rintro e w2 ⟨rfl, rfl⟩))
  all_goals
    go_wp2_with fail
    exact bodyPost_ret (v := .agg #[.int .i64 (cn + 1), .int .i64 (sz + (8 + (n : Int))), .int .u32 x]) (by simp [results, Tryd.results26, go_sem, e1, e2]) rfl ⟨rfl, (((Fr.refl _ w).alloc _).alloc _).drew⟩

end Go.Proofs.YtmaajihpkollcaaDoor
