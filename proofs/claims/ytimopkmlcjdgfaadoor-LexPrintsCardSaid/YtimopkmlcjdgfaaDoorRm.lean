/-
  CONTRACT of the reference's Mark.
-/
import Derived.Test.YtimopkmlcjdgfaaDoorRw
namespace Go.Proofs.YtimopkmlcjdgfaaDoor
set_option linter.unusedSimpArgs false
set_option linter.unusedVariables false
open Go Go.RowKit

set_option maxRecDepth 100000 in
set_option maxHeartbeats 2000000 in
theorem rMark_c (w : World) (s : List UInt8) : Calls Tryd.prog 30 #[.string (strOf s)] w fun e w' => e = .returned (.bool (marksL.contains s)) ∧ w = w' := by
  go_enter Tryd.func30, Tryd.ntmps30
  go_wp2_with fail
  all_goals
    go_ret
    refine ⟨ret_bool ?_, rfl⟩
    simp only [strOf_toList] at *
    rw [Bool.eq_iff_iff]
    simp [marksL, *]
end Go.Proofs.YtimopkmlcjdgfaaDoor
