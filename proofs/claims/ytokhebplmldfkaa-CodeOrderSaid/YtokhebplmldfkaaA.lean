/-
  CONTRACTS of the small functions of package code: Size, Len64, Clone, Err, At.
-/
import Derived.Test.YtokhebplmldfkaaMem
import Derived.Test.YtokhebplmldfkaaCodeP
import Derived.Test.YtokhebplmldfkaaRows
import Derived.Test.YtokhebplmldfkaaLen64
import Derived.BigQuiet
import Derived.Deep.QuietTactic
namespace Go.Proofs.Ytokhebplmldfkaa
set_option linter.unusedSimpArgs false
set_option linter.unusedVariables false
open Go Go.RowKit

set_option maxHeartbeats 400000 in
theorem size_c (x : Int) (w : World) (h0 : 0 ≤ x) (h1 : x ≤ 18446744073709551615) :
    Calls Try.prog 15 #[.int .u64 x] w fun e w' => e = .returned (.int .i64 (size x.toNat)) ∧ w = w' := by
  have hb := need_bits x.toNat (by omega)
  have hn := need_le x.toNat
  by_cases h : x ≤ 247
  · have hs : size x.toNat = 1 := by unfold size; rw [if_pos (by omega)]
    rw [hs]
    clear hs hb
    go_enter Try.func15, Try.ntmps15
    go_wp2_with fail
    go_ret
    exact ⟨rfl, rfl⟩
  · have hs : (size x.toNat : Int) = 1 + ((Lib.bitLen x.toNat : Int) + 7) / 8 := by unfold size; rw [if_neg (by omega)]; omega
    have HS := Lib.hid hs
    have hl : (Lib.bitLen x.toNat : Int) ≤ 64 := by omega
    clear hs hb
    go_enter Try.func15, Try.ntmps15
    go_wp2_with (go_at_call 39; refine (len64_c x _ h0 h1).mono ?_; rintro _ _ ⟨rfl, rfl⟩)
    go_ret
    exact ⟨by rw [HS.out]; rfl, rfl⟩

/- NIL COMPARISONS -/
set_option maxHeartbeats 400000 in
theorem err_c (b : Nat) (w : World) (v : Value) (a : Int) (f : Bool) (h : Blk w b 49 #[v, .int .i64 a, .bool f]) :
    Calls Try.prog 22 #[.pointer (some ⟨b, 0, none⟩)] w fun e w' => e = .returned (.int .i64 (if f then 2 else 0)) ∧ w = w' := by
  have c2 := h.cell 2
  clear h
  cases f
  all_goals
    go_enter Try.func22, Try.ntmps22
    go_wp2_with fail
    go_ret
    exact ⟨rfl, rfl⟩
set_option maxHeartbeats 400000 in
theorem err_nil (w : World) :
    Calls Try.prog 22 #[.pointer none] w fun e w' => e = .returned (.int .i64 2) ∧ w = w' := by
  go_enter Try.func22, Try.ntmps22
  go_wp2_with fail
  go_ret
  exact ⟨rfl, rfl⟩
end Go.Proofs.Ytokhebplmldfkaa
