/-
  TWO STATES COMPARED.
-/
import Derived.Test.YtjaocgmicdnghaaDoorSum
import Derived.Laws.StructEq
namespace Go.Proofs.YtjaocgmicdnghaaDoor
set_option linter.unusedSimpArgs false
set_option linter.unusedVariables false
open Go Go.RowKit

set_option maxRecDepth 100000 in
set_option maxHeartbeats 1000000 in
theorem eq_cells (a0 a1 a2 a3 a4 a5 a6 a7 b0 b1 b2 b3 b4 b5 b6 b7 : Nat) (w : World) : (Op.equalIn 10000 90 (.agg #[.int .u32 (a0 : Nat), .int .u32 (a1 : Nat), .int .u32 (a2 : Nat), .int .u32 (a3 : Nat), .int .u32 (a4 : Nat), .int .u32 (a5 : Nat), .int .u32 (a6 : Nat), .int .u32 (a7 : Nat)]) (.agg #[.int .u32 (b0 : Nat), .int .u32 (b1 : Nat), .int .u32 (b2 : Nat), .int .u32 (b3 : Nat), .int .u32 (b4 : Nat), .int .u32 (b5 : Nat), .int .u32 (b6 : Nat), .int .u32 (b7 : Nat)])).run Tryd.prog w = .ok (a0 == b0 && (a1 == b1 && (a2 == b2 && (a3 == b3 && (a4 == b4 && (a5 == b5 && (a6 == b6 && a7 == b7))))))) w := by
  rw [show (10000 : Nat) = 9999 + 1 from rfl, Op.equalIn]
  simp only [Sem.run_bind, run_underlying Tryd.underlying90, Result.andThen_ok]
  simp only [Std.Legacy.Range.forIn_eq_forIn_range', Std.Legacy.Range.size, Nat.sub_zero, Nat.add_sub_cancel, Nat.div_one, List.range'_succ, List.range'_zero, List.forIn_cons, List.forIn_nil]
  go_simp
  by_cases h0 : (a0 : Int) = (b0 : Int)
  case neg =>
    have h' : ¬ a0 = b0 := by omega
    have e : (a0 == b0) = false := by simp [h']
    rw [e]
    simp [h0]
  obtain rfl : a0 = b0 := by omega
  by_cases h1 : (a1 : Int) = (b1 : Int)
  case neg =>
    have h' : ¬ a1 = b1 := by omega
    have e : (a1 == b1) = false := by simp [h']
    rw [e]
    simp [h1]
  obtain rfl : a1 = b1 := by omega
  by_cases h2 : (a2 : Int) = (b2 : Int)
  case neg =>
    have h' : ¬ a2 = b2 := by omega
    have e : (a2 == b2) = false := by simp [h']
    rw [e]
    simp [h2]
  obtain rfl : a2 = b2 := by omega
  by_cases h3 : (a3 : Int) = (b3 : Int)
  case neg =>
    have h' : ¬ a3 = b3 := by omega
    have e : (a3 == b3) = false := by simp [h']
    rw [e]
    simp [h3]
  obtain rfl : a3 = b3 := by omega
  by_cases h4 : (a4 : Int) = (b4 : Int)
  case neg =>
    have h' : ¬ a4 = b4 := by omega
    have e : (a4 == b4) = false := by simp [h']
    rw [e]
    simp [h4]
  obtain rfl : a4 = b4 := by omega
  by_cases h5 : (a5 : Int) = (b5 : Int)
  case neg =>
    have h' : ¬ a5 = b5 := by omega
    have e : (a5 == b5) = false := by simp [h']
    rw [e]
    simp [h5]
  obtain rfl : a5 = b5 := by omega
  by_cases h6 : (a6 : Int) = (b6 : Int)
  case neg =>
    have h' : ¬ a6 = b6 := by omega
    have e : (a6 == b6) = false := by simp [h']
    rw [e]
    simp [h6]
  obtain rfl : a6 = b6 := by omega
  by_cases h7 : (a7 : Int) = (b7 : Int)
  case neg =>
    have h' : ¬ a7 = b7 := by omega
    have e : (a7 == b7) = false := by simp [h']
    rw [e]
    simp [h7]
  obtain rfl : a7 = b7 := by omega
  simp

theorem eq_states (H K : List Nat) (hH : Ws 8 H) (hK : Ws 8 K) (w : World) : (Op.equalIn 10000 90 (.agg (uv H)) (.agg (uv K))).run Tryd.prog w = .ok (decide (H = K)) w := by
  rw [uv8 hH, uv8 hK, eq_cells]
  congr 1
  rw [Bool.eq_iff_iff]
  simp only [Bool.and_eq_true, beq_iff_eq, decide_eq_true_eq]
  constructor
  · rintro ⟨h0, h1, h2, h3, h4, h5, h6, h7⟩
    refine at_ext hH hK (fun i hi => ?_)
    have : i = 0 ∨ i = 1 ∨ i = 2 ∨ i = 3 ∨ i = 4 ∨ i = 5 ∨ i = 6 ∨ i = 7 := by omega
    rcases this with rfl | rfl | rfl | rfl | rfl | rfl | rfl | rfl <;> assumption
  · rintro rfl
    exact ⟨rfl, rfl, rfl, rfl, rfl, rfl, rfl, rfl⟩
end Go.Proofs.YtjaocgmicdnghaaDoor
