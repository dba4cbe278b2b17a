/-
  push's awake.
-/
import Derived.Test.YtaenibbhpidjcaaGreatDoorQTk
import Derived.Test.YtaenibbhpidjcaaGreatDoorNew
namespace Go.Proofs.YtaenibbhpidjcaaGreatDoor
set_option linter.unusedSimpArgs false
set_option linter.unusedVariables false
open Go Go.RowKit
theorem okN_u' : okN [117] = true := by decide +kernel
theorem okN_s' : okN [115] = true := by decide +kernel

theorem qnew_us : qnew [117] [115] 1 = .tuple #[.agg #[.string ⟨#[117]⟩, .string ⟨#[115]⟩, .int .u64 1, .int .u64 0, .int .i64 0, .int .u64 0, .int .u64 0, .int .u64 0, .slice none 0 0, .slice none 0 0, .int .u64 0, .int .i64 0, .int .i64 0, .int .i64 0], .int .i64 0] := by unfold qnew; rw [okS_ok okN_u' okN_s' (by omega) (by omega)]; rfl
set_option maxRecDepth 100000 in
set_option maxHeartbeats 2000000 in
theorem awake24_c (w : World) : Calls Tryz.prog 9 #[] w fun e w' => e = .returned (.bool true) ∧ Fr (fun _ => False) w w' := by
  have hn : ∀ W, Calls Tryz.prog 10 #[.string ⟨#[117]⟩, .string ⟨#[115]⟩, .int .u64 1] W fun e w' => e = .returned (.tuple #[.agg #[.string ⟨#[117]⟩, .string ⟨#[115]⟩, .int .u64 1, .int .u64 0, .int .i64 0, .int .u64 0, .int .u64 0, .int .u64 0, .slice none 0 0, .slice none 0 0, .int .u64 0, .int .i64 0, .int .i64 0, .int .i64 0], .int .i64 0]) ∧ Fr (fun _ => False) W w' := fun W => by
    have h := qNew_c W [117] [115] 1 (by decide) (by decide) (by decide)
    rw [qnew_us] at h
    exact h
  have HNW := Lib.hid hn
  clear hn
  go_enter Tryz.func9, Tryz.ntmps9
  go_wp2_with fail
  refine (HNW.out w).mono ?_
  rintro e w1 ⟨rfl, f1⟩
  have F1 := Lib.hid f1
  clear f1
  go_wp2_with (first
    | (refine wpList_store_blk rfl 34 _ _ rfl w1.heap.size #[.string ⟨#[117]⟩, .string ⟨#[115]⟩, .int .u64 1, .int .u64 0, .int .i64 0, .int .u64 0, .int .u64 0, .int .u64 0, .slice none 0 0, .slice none 0 0, .int .u64 0, .int .i64 0, .int .i64 0, .int .i64 0] rfl rfl (Blk.new w1 _ _) rfl tPushing_size (by kernel_rfl) ?_
       rintro w2 b f
       have B2 := Lib.hid b
       have F2 : Hid (Fr (fun _ => False) w w2) := (F1.out.alloc _).trans f (fun k hk e => by have e' : k = w1.heap.size := e; have := F1.out.size; omega)
       have HPW : Hid (w.heap.size ≤ w1.heap.size) := F1.out.size
       clear b f F1)
    | (refine wpList_load_all rfl 34 _ rfl w1.heap.size rfl B2.out _ Tryz.underlying34 rfl tPushing_size ?_))
  obtain ⟨pb, hpb⟩ : ∃ a, w1.heap.size = a := ⟨_, rfl⟩
  rw [hpb] at B2 HPW ⊢
  clear hpb
  refine (qbegin_c w2).mono ?_
  rintro e w3 ⟨q, c, rfl, r3, l3, f3⟩
  have B3 := Lib.hid (keepB B2.out f3)
  have R3 := Lib.hid r3
  have F3 : Hid (Fr (fun _ => False) w w3) := F2.out.trans f3 (fun _ _ h => h)
  have HQ : Hid (pb < q) := Nat.lt_of_lt_of_le B2.out.lt l3
  clear r3 l3 f3 B2 F2
  go_wp2_with (first
    | (refine wpList_store_blk rfl 34 _ _ rfl pb #[.string ⟨#[117]⟩, .string ⟨#[115]⟩, .int .u64 1, .int .u64 1, .int .i64 1, .int .u64 0, .int .u64 0, .int .u64 0, .slice none 0 0, .slice none 0 0, .int .u64 5, .int .i64 0, .int .i64 0, .int .i64 0] rfl rfl B3.out rfl tPushing_size (by kernel_rfl) ?_
       rintro w4 b f
       have B4 := Lib.hid b
       have F4 : Hid (Fr (fun _ => False) w w4) := F3.out.trans f (fun k hk e => by have e' : k = pb := e; have := HPW.out; omega)
       have RD := R3.out.fr f (by rintro k ⟨ad, he, rfl⟩ hk; injection he with he; subst he; have hk' : q = pb := hk; have := HQ.out; omega)
       have k4 : w4.cell? ⟨q, 4, none⟩ = some (.int .i64 1) := RD.cell (k := 4) (by omega)
       have k3 : w4.cell? ⟨q, 3, none⟩ = some (.int .u64 1) := RD.cell (k := 3) (by omega)
       have k1 : w4.cell? ⟨q, 1, none⟩ = some (.int .i64 1) := RD.cell (k := 1) (by omega)
       clear b f RD B3 F3 R3 HQ)
    | (refine wpList_load_all rfl 34 _ rfl pb rfl B4.out _ Tryz.underlying34 rfl tPushing_size ?_))
  clear k1 k3 k4
  refine (qtake_c w4).mono ?_
  rintro e w8 ⟨rfl, f8⟩
  have B8 := Lib.hid (keepB B4.out f8)
  have F8 : Hid (Fr (fun _ => False) w w8) := F4.out.trans f8 (fun _ _ h => h)
  clear f8 B4 F4
  go_wp2_with (first
    | (refine wpList_store_blk rfl 34 _ _ rfl pb #[.string ⟨#[117]⟩, .string ⟨#[115]⟩, .int .u64 1, .int .u64 1, .int .i64 0, .int .u64 0, .int .u64 0, .int .u64 0, .slice none 0 0, .slice none 0 0, .int .u64 5, .int .i64 1, .int .i64 0, .int .i64 0] rfl rfl B8.out rfl tPushing_size (by kernel_rfl) ?_
       rintro w9 b f
       have F9 : Hid (Fr (fun _ => False) w w9) := F8.out.trans f (fun k hk e => by have e' : k = pb := e; have := HPW.out; omega)
       have c11 : w9.cell? ⟨pb, 11, none⟩ = some (.int .i64 1) := b.cell 11
       have c4 : w9.cell? ⟨pb, 4, none⟩ = some (.int .i64 0) := b.cell 4
       clear b f B8 F8))
  go_ret
  exact ⟨rfl, F9.out⟩

end Go.Proofs.YtaenibbhpidjcaaGreatDoor
