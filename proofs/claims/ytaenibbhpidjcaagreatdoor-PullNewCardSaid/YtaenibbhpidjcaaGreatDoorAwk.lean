/-
  pull's awake.
-/
import Derived.Test.YtaenibbhpidjcaaGreatDoorTk1
import Derived.Test.YtaenibbhpidjcaaGreatDoorTk2
import Derived.Test.YtaenibbhpidjcaaGreatDoorNew
namespace Go.Proofs.YtaenibbhpidjcaaGreatDoor
set_option linter.unusedSimpArgs false
set_option linter.unusedVariables false
open Go Go.RowKit

theorem okN_u : okN [117] = true := by decide +kernel
theorem okN_s : okN [115] = true := by decide +kernel
theorem pnew_us : pnew [117] [115] 1 = .tuple #[.agg #[.string ⟨#[117]⟩, .string ⟨#[115]⟩, .int .u64 1, .int .u64 0, .int .i64 0, .int .u64 0, .int .u64 0, .int .u64 0, .slice none 0 0, .slice none 0 0, .int .u64 0, .int .i64 0, .int .i64 0], .int .i64 0] := by unfold pnew; rw [okS_ok okN_u okN_s (by omega) (by omega)]; rfl
set_option maxRecDepth 100000 in
set_option maxHeartbeats 2000000 in
theorem awake23_c (w : World) : Calls Tryz.prog 5 #[] w fun e w' => e = .returned (.bool true) ∧ Fr (fun _ => False) w w' := by
  have hn : ∀ W, Calls Tryz.prog 6 #[.string ⟨#[117]⟩, .string ⟨#[115]⟩, .int .u64 1] W fun e w' => e = .returned (.tuple #[.agg #[.string ⟨#[117]⟩, .string ⟨#[115]⟩, .int .u64 1, .int .u64 0, .int .i64 0, .int .u64 0, .int .u64 0, .int .u64 0, .slice none 0 0, .slice none 0 0, .int .u64 0, .int .i64 0, .int .i64 0], .int .i64 0]) ∧ Fr (fun _ => False) W w' := fun W => by
    have h := pNew_c W [117] [115] 1 (by decide) (by decide) (by decide)
    rw [pnew_us] at h
    exact h
  have HNW := Lib.hid hn
  clear hn
  go_enter Tryz.func5, Tryz.ntmps5
  go_wp2_with fail
  refine (HNW.out w).mono ?_
  rintro e w1 ⟨rfl, f1⟩
  have F1 := Lib.hid f1
  clear f1
  go_wp2_with (first
    | (refine wpList_store_blk rfl 28 _ _ rfl w1.heap.size #[.string ⟨#[117]⟩, .string ⟨#[115]⟩, .int .u64 1, .int .u64 0, .int .i64 0, .int .u64 0, .int .u64 0, .int .u64 0, .slice none 0 0, .slice none 0 0, .int .u64 0, .int .i64 0, .int .i64 0] rfl rfl (Blk.new w1 _ _) rfl tPulling_size (by kernel_rfl) ?_
       rintro w2 b f
       have B2 := Lib.hid b
       have F2 : Hid (Fr (fun _ => False) w w2) := (F1.out.alloc _).trans f (fun k hk e => by have e' : k = w1.heap.size := e; have := F1.out.size; omega)
       have HPW : Hid (w.heap.size ≤ w1.heap.size) := F1.out.size
       clear b f F1)
    | (refine wpList_load_all rfl 28 _ rfl w1.heap.size rfl B2.out _ Tryz.underlying28 rfl tPulling_size ?_))
  obtain ⟨pb, hpb⟩ : ∃ a, w1.heap.size = a := ⟨_, rfl⟩
  rw [hpb] at B2 HPW ⊢
  clear hpb
  refine (begin_c w2).mono ?_
  rintro e w3 ⟨q, c, rfl, r3, l3, f3⟩
  have B3 := Lib.hid (keepB B2.out f3)
  have R3 := Lib.hid r3
  have F3 : Hid (Fr (fun _ => False) w w3) := F2.out.trans f3 (fun _ _ h => h)
  have HQ : Hid (pb < q) := Nat.lt_of_lt_of_le B2.out.lt l3
  clear r3 l3 f3 B2 F2
  go_wp2_with (first
    | (refine wpList_store_blk rfl 28 _ _ rfl pb #[.string ⟨#[117]⟩, .string ⟨#[115]⟩, .int .u64 1, .int .u64 1, .int .i64 1, .int .u64 0, .int .u64 0, .int .u64 0, .slice none 0 0, .slice none 0 0, .int .u64 5, .int .i64 0, .int .i64 0] rfl rfl B3.out rfl tPulling_size (by kernel_rfl) ?_
       rintro w4 b f
       have B4 := Lib.hid b
       have F4 : Hid (Fr (fun _ => False) w w4) := F3.out.trans f (fun k hk e => by have e' : k = pb := e; have := HPW.out; omega)
       have RD := R3.out.fr f (by rintro k ⟨ad, he, rfl⟩ hk; injection he with he; subst he; have hk' : q = pb := hk; have := HQ.out; omega)
       have k4 : w4.cell? ⟨q, 4, none⟩ = some (.int .i64 1) := RD.cell (k := 4) (by omega)
       have k3 : w4.cell? ⟨q, 3, none⟩ = some (.int .u64 1) := RD.cell (k := 3) (by omega)
       clear b f RD B3 F3 R3 HQ)
    | (refine wpList_load_all rfl 28 _ rfl pb rfl ((B4.out.alloc _).alloc _) _ Tryz.underlying28 rfl tPulling_size ?_))
  clear k3 k4
  refine abs_calls (fun W => Hid (Blk W pb 28 #[.string ⟨#[117]⟩, .string ⟨#[115]⟩, .int .u64 1, .int .u64 1, .int .i64 1, .int .u64 0, .int .u64 0, .int .u64 0, .slice none 0 0, .slice none 0 0, .int .u64 5, .int .i64 0, .int .i64 0]) ∧ Hid (Blk W w4.heap.size 54 #[.string ⟨#[115]⟩, .int .u64 6]) ∧ Hid (Blk W (w4.heap.size + 1) 59 #[.int .u64 9, .slice none 0 0, .slice (some ⟨w4.heap.size, 0, none⟩) 1 1, .slice none 0 0]) ∧ Hid (Fr (fun _ => False) w W)) ⟨(B4.out.alloc _).alloc _, (Blk.new w4 _ _).alloc _, Blk.new1 w4 _ _ _, (F4.out.alloc _).alloc _⟩ ?_
  rintro w5 ⟨B5, L5, S5, F5⟩
  have HPL : Hid (pb < w4.heap.size) := B4.out.lt
  obtain ⟨L, hL⟩ : ∃ a, w4.heap.size = a := ⟨_, rfl⟩
  rw [hL] at L5 S5 HPL ⊢
  clear hL B4 F4
  refine (take1_c w5 L L5.out).mono ?_
  rintro e w6 ⟨q2, c2, rfl, r6, l6, f6⟩
  have B6 := Lib.hid (keepB B5.out f6)
  have L6 := Lib.hid (keepB L5.out f6)
  have S6 := Lib.hid (keepB S5.out f6)
  have R6 := Lib.hid r6
  have F6 : Hid (Fr (fun _ => False) w w6) := F5.out.trans f6 (fun _ _ h => h)
  have HQ : Hid (pb < q2) := Nat.lt_of_lt_of_le B5.out.lt l6
  clear r6 l6 f6 B5 L5 S5 F5
  go_wp2_with (first
    | (refine wpList_store_blk rfl 28 _ _ rfl pb #[.string ⟨#[117]⟩, .string ⟨#[115]⟩, .int .u64 1, .int .u64 2, .int .i64 2, .int .u64 4, .int .u64 0, .int .u64 0, .slice none 0 0, .slice none 0 0, .int .u64 5, .int .i64 0, .int .i64 0] rfl rfl B6.out rfl tPulling_size (by kernel_rfl) ?_
       rintro w7 b f
       have B7 := Lib.hid b
       have F7 : Hid (Fr (fun _ => False) w w7) := F6.out.trans f (fun k hk e => by have e' : k = pb := e; have := HPW.out; omega)
       have RD := R6.out.fr f (by rintro k ⟨ad, he, rfl⟩ hk; injection he with he; subst he; have hk' : q2 = pb := hk; have := HQ.out; omega)
       have k4 : w7.cell? ⟨q2, 4, none⟩ = some (.int .i64 2) := RD.cell (k := 4) (by omega)
       have k6 : w7.cell? ⟨q2, 6, none⟩ = some (.int .u64 4) := RD.cell (k := 6) (by omega)
       have L7 := Lib.hid (L6.out.fr f (by have := HPL.out; omega))
       have S7 := S6.out.fr f (by have := HPL.out; omega)
       have s0 : w7.cell? ⟨L + 1, 0, none⟩ = some (.int .u64 9) := S7.cell 0
       have s1 : w7.cell? ⟨L + 1, 1, none⟩ = some (.slice none 0 0) := S7.cell 1
       have s2 : w7.cell? ⟨L + 1, 2, none⟩ = some (.slice (some ⟨L, 0, none⟩) 1 1) := S7.cell 2
       have s3 : w7.cell? ⟨L + 1, 3, none⟩ = some (.slice none 0 0) := S7.cell 3
       clear b f RD B6 F6 R6 HQ S6 S7 L6)
    | (refine wpList_load_all rfl 28 _ rfl pb rfl B7.out _ Tryz.underlying28 rfl tPulling_size ?_))
  clear k4 k6 s0 s1 s2 s3
  refine (take2_c w7 L L7.out).mono ?_
  rintro e w8 ⟨rfl, f8⟩
  have B8 := Lib.hid (keepB B7.out f8)
  have F8 : Hid (Fr (fun _ => False) w w8) := F7.out.trans f8 (fun _ _ h => h)
  clear f8 B7 L7 F7
  go_wp2_with (first
    | (refine wpList_store_blk rfl 28 _ _ rfl pb #[.string ⟨#[117]⟩, .string ⟨#[115]⟩, .int .u64 1, .int .u64 2, .int .i64 0, .int .u64 4, .int .u64 0, .int .u64 0, .slice none 0 0, .slice none 0 0, .int .u64 5, .int .i64 1, .int .i64 0] rfl rfl B8.out rfl tPulling_size (by kernel_rfl) ?_
       rintro w9 b f
       have F9 : Hid (Fr (fun _ => False) w w9) := F8.out.trans f (fun k hk e => by have e' : k = pb := e; have := HPW.out; omega)
       have c11 : w9.cell? ⟨pb, 11, none⟩ = some (.int .i64 1) := b.cell 11
       have c4 : w9.cell? ⟨pb, 4, none⟩ = some (.int .i64 0) := b.cell 4
       clear b f B8 F8))
  go_ret
  exact ⟨rfl, F9.out⟩

end Go.Proofs.YtaenibbhpidjcaaGreatDoor
