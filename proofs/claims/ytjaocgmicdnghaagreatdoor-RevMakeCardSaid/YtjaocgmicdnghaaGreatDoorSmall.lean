/-
  CONTRACTS: digest's maySize, Begin, Mix.
-/
import Derived.Test.YtjaocgmicdnghaaGreatDoorMix
import Derived.Test.YtjaocgmicdnghaaGreatDoorDigP
import Derived.Test.YtjaocgmicdnghaaGreatDoorCat
namespace Go.Proofs.YtjaocgmicdnghaaGreatDoor
set_option linter.unusedSimpArgs false
set_option linter.unusedVariables false
open Go Go.RowKit

/-- A size that may be. -/
def szB (S : Int) : Bool := decide (1 ≤ S) && decide (S ≤ 32)
theorem maySize_c (w : World) (S : Int) : Calls Tryz.prog 72 #[.int .i64 S] w fun e w' => e = .returned (.bool (szB S)) ∧ w = w' := by
  by_cases h1 : 1 ≤ S
  · go_enter Tryz.func72, Tryz.ntmps72
    have h1' : decide (1 ≤ S) = true := decide_eq_true h1
    go_wp2_with fail
    go_ret
    exact ⟨by unfold szB; rw [h1', Bool.true_and]; rfl, rfl⟩
  · have h1' : decide (1 ≤ S) = false := decide_eq_false h1
    go_enter Tryz.func72, Tryz.ntmps72
    go_wp2_with fail
    go_ret
    exact ⟨by unfold szB; rw [h1', Bool.false_and]; rfl, rfl⟩

set_option maxRecDepth 100000 in
set_option maxHeartbeats 1000000 in
theorem begin_no (w : World) (S : Int) (hS : szB S = false) : Calls Tryz.prog 50 #[.int .i64 S] w fun e w' => e = .returned (.tuple #[.agg (dc [] (.slice none 0 0) 0 0), .int .i64 1]) ∧ Fr (fun _ => False) w w' := by
  go_enter Tryz.func50, Tryz.ntmps50
  go_wp2_with (go_at_call 72; refine (maySize_c _ S).mono ?_; rintro e w' ⟨rfl, rfl⟩; rw [hS])
  exact bodyPost_ret (v := .tuple #[.agg (dc [] (.slice none 0 0) 0 0), .int .i64 1]) (by simp [results, Tryz.results50, go_sem]; rfl) rfl ⟨rfl, (Fr.refl _ w).alloc _⟩
set_option maxRecDepth 100000 in
set_option maxHeartbeats 1000000 in
theorem begin_yes (w : World) (S : Nat) (hS : szB (S : Int) = true) (hS2 : S ≤ 32) (hT : Tabs w) : Calls Tryz.prog 50 #[.int .i64 (S : Int)] w fun e w' => e = .returned (.tuple #[.agg (dc (begL S) (.slice none 0 0) 0 S), .int .i64 0]) ∧ Fr (fun _ => False) w w' := by
  have x0 := hT.i 0 (by omega)
  have x1 := hT.i 1 (by omega)
  have x2 := hT.i 2 (by omega)
  have x3 := hT.i 3 (by omega)
  have x4 := hT.i 4 (by omega)
  have x5 := hT.i 5 (by omega)
  have x6 := hT.i 6 (by omega)
  have x7 := hT.i 7 (by omega)
  have hlt := hT.lt
  have h0 : 1 < w.heap.size := by omega
  have k0 := at_lt ws_ivs 0
  have hx1 : bits .xor .u32 16842752 (S : Int) = ((16842752 ^^^ S : Nat) : Int) := u32_xor_nat 16842752 S (by omega) (by omega)
  have hx2 : bits .xor .u32 (at_ ivs 0 : Int) ((16842752 ^^^ S : Nat) : Int) = ((at_ ivs 0 ^^^ (16842752 ^^^ S) : Nat) : Int) := u32_xor_nat _ _ k0 (Nat.xor_lt_two_pow (n := 32) (by omega) (by omega))
  clear hT k0
  go_enter Tryz.func50, Tryz.ntmps50
  go_wp2_with (go_at_call 72; refine (maySize_c _ _).mono ?_; rintro e w' ⟨rfl, rfl⟩; rw [hS])
  have e : dc (begL S) (.slice none 0 0) 0 (S : Int) = #[.int .u32 (at_ ivs 0 ^^^ (16842752 ^^^ S) : Nat), .int .u32 (at_ ivs 1 : Nat), .int .u32 (at_ ivs 2 : Nat), .int .u32 (at_ ivs 3 : Nat), .int .u32 (at_ ivs 4 : Nat), .int .u32 (at_ ivs 5 : Nat), .int .u32 (at_ ivs 6 : Nat), .int .u32 (at_ ivs 7 : Nat), .slice none 0 0, .int .u64 0, .int .i64 (S : Int)] := rfl
  rw [e]
  clear x0 x1 x2 x3 x4 x5 x6 x7
  exact bodyPost_ret (by simp [results, Tryz.results50, go_sem]) rfl ⟨rfl, ((Fr.refl _ w).alloc _).alloc _⟩

end Go.Proofs.YtjaocgmicdnghaaGreatDoor
