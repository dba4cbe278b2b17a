/-
  CONTRACTS of code.unit at its five types: made by program out of one text.
-/
import Derived.Test.YtokhebplmldfkaaUnit
import Derived.Defers
namespace Go.Proofs.Ytokhebplmldfkaa
set_option linter.unusedSimpArgs false
set_option linter.unusedVariables false
open Go Go.RowKit


set_option maxHeartbeats 400000 in
/-- Where the Reader is nil, or has failed already: nothing is read. -/
theorem unit64_bad (w : World) (po : Option Addr) (F : Value) (herr : ∀ W, Fr (fun _ => False) w W → Calls Try.prog 22 #[.pointer po] W fun e w' => e = .returned (.int .i64 2) ∧ W = w') :
    Calls Try.prog 50 #[.pointer po, F] w fun e w' => e = .returned ((.int .u64 0)) ∧ Fr (fun _ => False) w w' := by
  have HE := Lib.hid herr
  clear herr
  go_enter_defers Try.func50, Try.ntmps50
  go_wp2_with fail
  refine (HE.out _ (((Fr.refl _ w).alloc _).alloc _)).mono ?_
  rintro e w1 ⟨rfl, rfl⟩
  go_wp2_with fail
  simp [bodyPostD, Leaves, settle, results, Try.results50, go_sem]
  exact ((Fr.refl _ w).alloc _).alloc _

set_option maxHeartbeats 400000 in
/-- Where the Reader is nil, or has failed already: nothing is read. -/
theorem unit32_bad (w : World) (po : Option Addr) (F : Value) (herr : ∀ W, Fr (fun _ => False) w W → Calls Try.prog 22 #[.pointer po] W fun e w' => e = .returned (.int .i64 2) ∧ W = w') :
    Calls Try.prog 59 #[.pointer po, F] w fun e w' => e = .returned ((.int .u32 0)) ∧ Fr (fun _ => False) w w' := by
  have HE := Lib.hid herr
  clear herr
  go_enter_defers Try.func59, Try.ntmps59
  go_wp2_with fail
  refine (HE.out _ (((Fr.refl _ w).alloc _).alloc _)).mono ?_
  rintro e w1 ⟨rfl, rfl⟩
  go_wp2_with fail
  simp [bodyPostD, Leaves, settle, results, Try.results59, go_sem]
  exact ((Fr.refl _ w).alloc _).alloc _

set_option maxHeartbeats 400000 in
/-- Where the Reader is nil, or has failed already: nothing is read. -/
theorem unit8_bad (w : World) (po : Option Addr) (F : Value) (herr : ∀ W, Fr (fun _ => False) w W → Calls Try.prog 22 #[.pointer po] W fun e w' => e = .returned (.int .i64 2) ∧ W = w') :
    Calls Try.prog 56 #[.pointer po, F] w fun e w' => e = .returned ((.int .u8 0)) ∧ Fr (fun _ => False) w w' := by
  have HE := Lib.hid herr
  clear herr
  go_enter_defers Try.func56, Try.ntmps56
  go_wp2_with fail
  refine (HE.out _ (((Fr.refl _ w).alloc _).alloc _)).mono ?_
  rintro e w1 ⟨rfl, rfl⟩
  go_wp2_with fail
  simp [bodyPostD, Leaves, settle, results, Try.results56, go_sem]
  exact ((Fr.refl _ w).alloc _).alloc _

set_option maxHeartbeats 400000 in
/-- Where the Reader is nil, or has failed already: nothing is read. -/
theorem unitS_bad (w : World) (po : Option Addr) (F : Value) (herr : ∀ W, Fr (fun _ => False) w W → Calls Try.prog 22 #[.pointer po] W fun e w' => e = .returned (.int .i64 2) ∧ W = w') :
    Calls Try.prog 53 #[.pointer po, F] w fun e w' => e = .returned ((.string ⟨#[]⟩)) ∧ Fr (fun _ => False) w w' := by
  have HE := Lib.hid herr
  clear herr
  go_enter_defers Try.func53, Try.ntmps53
  go_wp2_with fail
  refine (HE.out _ (((Fr.refl _ w).alloc _).alloc _)).mono ?_
  rintro e w1 ⟨rfl, rfl⟩
  go_wp2_with fail
  simp [bodyPostD, Leaves, settle, results, Try.results53, go_sem]
  exact ((Fr.refl _ w).alloc _).alloc _

set_option maxHeartbeats 400000 in
/-- Where the Reader is nil, or has failed already: nothing is read. -/
theorem unitB_bad (w : World) (po : Option Addr) (F : Value) (herr : ∀ W, Fr (fun _ => False) w W → Calls Try.prog 22 #[.pointer po] W fun e w' => e = .returned (.int .i64 2) ∧ W = w') :
    Calls Try.prog 61 #[.pointer po, F] w fun e w' => e = .returned ((.slice none 0 0)) ∧ Fr (fun _ => False) w w' := by
  have HE := Lib.hid herr
  clear herr
  go_enter_defers Try.func61, Try.ntmps61
  go_wp2_with fail
  refine (HE.out _ (((Fr.refl _ w).alloc _).alloc _)).mono ?_
  rintro e w1 ⟨rfl, rfl⟩
  go_wp2_with fail
  simp [bodyPostD, Leaves, settle, results, Try.results61, go_sem]
  exact ((Fr.refl _ w).alloc _).alloc _
end Go.Proofs.Ytokhebplmldfkaa
