/-
  CONTRACT of batch.MayState at the empty state.
-/
import Derived.Test.YtaenibbhpidjcaaGreatDoorEmp
namespace Go.Proofs.YtaenibbhpidjcaaGreatDoor
set_option linter.unusedSimpArgs false
set_option linter.unusedVariables false
open Go Go.RowKit

set_option maxRecDepth 100000 in
set_option maxHeartbeats 1000000 in
theorem mayState_nil (w : World) : Calls Tryz.prog 84 #[.agg #[.int .u64 0, .slice none 0 0, .slice none 0 0, .slice none 0 0]] w fun e w' => e = .returned (.bool true) ∧ Fr (fun _ => False) w w' := by
  go_enter Tryz.func84, Tryz.ntmps84
  go_upto_region 1 with fail
  refine abs_wp (fun W => Hid (Blk W w.heap.size 59 #[.int .u64 0, .slice none 0 0, .slice none 0 0, .slice none 0 0]) ∧ Hid (Fr (fun _ => False) w W)) ⟨Blk.new _ _ _, (Fr.refl _ w).alloc _⟩ ?_
  rintro w1 ⟨B1, F1⟩
  obtain ⟨b, hb⟩ : ∃ b, w.heap.size = b := ⟨_, rfl⟩
  rw [hb] at B1 ⊢
  clear hb
  have c0 : w1.cell? ⟨b, 0, none⟩ = some (.int .u64 0) := B1.out.cell 0
  have c1 : w1.cell? ⟨b, 1, none⟩ = some (.slice none 0 0) := B1.out.cell 1
  have c2 : w1.cell? ⟨b, 2, none⟩ = some (.slice none 0 0) := B1.out.cell 2
  have c3 : w1.cell? ⟨b, 3, none⟩ = some (.slice none 0 0) := B1.out.cell 3
  go_wp2_with fail
  clear c0 c1 c2 c3
  refine (ordered_nil _).mono ?_
  rintro e w2 ⟨rfl, f2⟩
  have B2 := Lib.hid (keepB B1.out f2)
  have F2 := Lib.hid (F1.out.trans f2 (fun _ _ h => h))
  clear f2 B1 F1
  have c0 : w2.cell? ⟨b, 0, none⟩ = some (.int .u64 0) := B2.out.cell 0
  have c1 : w2.cell? ⟨b, 1, none⟩ = some (.slice none 0 0) := B2.out.cell 1
  have c2 : w2.cell? ⟨b, 2, none⟩ = some (.slice none 0 0) := B2.out.cell 2
  have c3 : w2.cell? ⟨b, 3, none⟩ = some (.slice none 0 0) := B2.out.cell 3
  go_wp2_with fail
  clear c0 c1 c2 c3
  refine (full_nil _).mono ?_
  rintro e w3 ⟨rfl, f3⟩
  have B3 := Lib.hid (keepB B2.out f3)
  have F3 := Lib.hid (F2.out.trans f3 (fun _ _ h => h))
  clear f3 B2 F2
  have c0 : w3.cell? ⟨b, 0, none⟩ = some (.int .u64 0) := B3.out.cell 0
  have c1 : w3.cell? ⟨b, 1, none⟩ = some (.slice none 0 0) := B3.out.cell 1
  have c2 : w3.cell? ⟨b, 2, none⟩ = some (.slice none 0 0) := B3.out.cell 2
  have c3 : w3.cell? ⟨b, 3, none⟩ = some (.slice none 0 0) := B3.out.cell 3
  go_wp2_with fail
  clear c0 c1 c2 c3
  refine (seqs_nil _).mono ?_
  rintro e w4 ⟨rfl, f4⟩
  have B4 := Lib.hid (keepB B3.out f4)
  have F4 := Lib.hid (F3.out.trans f4 (fun _ _ h => h))
  clear f4 B3 F3
  have c0 : w4.cell? ⟨b, 0, none⟩ = some (.int .u64 0) := B4.out.cell 0
  have c1 : w4.cell? ⟨b, 1, none⟩ = some (.slice none 0 0) := B4.out.cell 1
  have c2 : w4.cell? ⟨b, 2, none⟩ = some (.slice none 0 0) := B4.out.cell 2
  have c3 : w4.cell? ⟨b, 3, none⟩ = some (.slice none 0 0) := B4.out.cell 3
  go_wp2_with fail
  clear c0 c1 c2 c3
  refine (eachLo_nil _ _ _).mono ?_
  rintro e w5 ⟨rfl, f5⟩
  have B5 := Lib.hid (keepB B4.out f5)
  have F5 := Lib.hid (F4.out.trans f5 (fun _ _ h => h))
  clear f5 B4 F4
  have c0 : w5.cell? ⟨b, 0, none⟩ = some (.int .u64 0) := B5.out.cell 0
  have c1 : w5.cell? ⟨b, 1, none⟩ = some (.slice none 0 0) := B5.out.cell 1
  have c2 : w5.cell? ⟨b, 2, none⟩ = some (.slice none 0 0) := B5.out.cell 2
  have c3 : w5.cell? ⟨b, 3, none⟩ = some (.slice none 0 0) := B5.out.cell 3
  go_wp2_with fail
  clear c0 c1 c2 c3
  refine (eachSe_nil _ _ _).mono ?_
  rintro e w6 ⟨rfl, f6⟩
  have B6 := Lib.hid (keepB B5.out f6)
  have F6 := Lib.hid (F5.out.trans f6 (fun _ _ h => h))
  clear f6 B5 F5
  have c0 : w6.cell? ⟨b, 0, none⟩ = some (.int .u64 0) := B6.out.cell 0
  have c1 : w6.cell? ⟨b, 1, none⟩ = some (.slice none 0 0) := B6.out.cell 1
  have c2 : w6.cell? ⟨b, 2, none⟩ = some (.slice none 0 0) := B6.out.cell 2
  have c3 : w6.cell? ⟨b, 3, none⟩ = some (.slice none 0 0) := B6.out.cell 3
  go_wp2_with fail
  clear c0 c1 c2 c3
  refine (eachDo_nil _ _ _).mono ?_
  rintro e w7 ⟨rfl, f7⟩
  have B7 := Lib.hid (keepB B6.out f7)
  have F7 := Lib.hid (F6.out.trans f7 (fun _ _ h => h))
  clear f7 B6 F6
  have c0 : w7.cell? ⟨b, 0, none⟩ = some (.int .u64 0) := B7.out.cell 0
  have c1 : w7.cell? ⟨b, 1, none⟩ = some (.slice none 0 0) := B7.out.cell 1
  have c2 : w7.cell? ⟨b, 2, none⟩ = some (.slice none 0 0) := B7.out.cell 2
  have c3 : w7.cell? ⟨b, 3, none⟩ = some (.slice none 0 0) := B7.out.cell 3
  go_wp2_with fail
  go_ret
  exact ⟨rfl, F7.out⟩

end Go.Proofs.YtaenibbhpidjcaaGreatDoor
