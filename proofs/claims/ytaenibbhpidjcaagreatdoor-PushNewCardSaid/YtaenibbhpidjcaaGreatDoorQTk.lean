/-
  CONTRACT of push's Take: the law's answer.
-/
import Derived.Test.YtaenibbhpidjcaaGreatDoorQBeg
import Derived.Test.YtaenibbhpidjcaaGreatDoorQChk
namespace Go.Proofs.YtaenibbhpidjcaaGreatDoor
set_option linter.unusedSimpArgs false
set_option linter.unusedVariables false
open Go Go.RowKit

def qtR (x r : Nat) (i : Nat) (val : Nat → Value) (W : World) : Prop := match i with
  | 0 => val 0 = .pointer (some ⟨x, 0, none⟩)
  | 1 => val 1 = .pointer (some ⟨x, 0, none⟩)
  | 2 => val 2 = .pointer (some ⟨x, 0, none⟩)
  | 3 => val 3 = .agg #[.string ⟨#[117]⟩, .string ⟨#[115]⟩, .int .u64 1, .int .u64 1, .int .i64 0, .int .u64 0, .int .u64 0, .int .u64 0, .slice none 0 0, .slice none 0 0, .int .u64 5, .int .i64 1, .int .i64 0, .int .i64 0]
  | 4 => val 4 = .pointer (some ⟨x, 0, none⟩)
  | 5 => val 5 = .pointer (some ⟨x, 0, none⟩)
  | 6 => val 6 = .pointer (some ⟨x, 19, none⟩)
  | 7 => val 7 = .slice none 0 0
  | 8 => val 8 = .pointer (some ⟨x, 0, none⟩)
  | 9 => val 9 = .pointer (some ⟨x, 0, none⟩)
  | 10 => val 10 = .pointer (some ⟨x, 20, none⟩)
  | 11 => val 11 = .slice none 0 0
  | 12 => Blk W r 34 #[.string ⟨#[117]⟩, .string ⟨#[115]⟩, .int .u64 1, .int .u64 1, .int .i64 0, .int .u64 0, .int .u64 0, .int .u64 0, .slice none 0 0, .slice none 0 0, .int .u64 5, .int .i64 1, .int .i64 0, .int .i64 0]
  | 13 => val 13 = .slice none 0 0
  | 14 => val 14 = .slice none 0 0
  | _ => True
theorem qtR_far {x r : Nat} (i : Nat) (val val' : Nat → Value) (W W' : World) (he : ∀ j, j = i ∨ Anc [0, 1, 3, 7, 0, 16, 48, 112, 0, 256, 768, 1792, 15, 4351, 16383] i j = true → val j = val' j) (hg : Gs r 34 #[.string ⟨#[117]⟩, .string ⟨#[115]⟩, .int .u64 1, .int .u64 1, .int .i64 0, .int .u64 0, .int .u64 0, .int .u64 0, .slice none 0 0, .slice none 0 0, .int .u64 5, .int .i64 1, .int .i64 0, .int .i64 0] W W') (hx : qtR x r i val W) : qtR x r i val' W' := by
  match i with
  | 0 => exact (he 0 (.inl rfl)).symm.trans hx
  | 1 => exact (he 1 (.inl rfl)).symm.trans hx
  | 2 => exact (he 2 (.inl rfl)).symm.trans hx
  | 3 => exact (he 3 (.inl rfl)).symm.trans hx
  | 4 => exact (he 4 (.inl rfl)).symm.trans hx
  | 5 => exact (he 5 (.inl rfl)).symm.trans hx
  | 6 => exact (he 6 (.inl rfl)).symm.trans hx
  | 7 => exact (he 7 (.inl rfl)).symm.trans hx
  | 8 => exact (he 8 (.inl rfl)).symm.trans hx
  | 9 => exact (he 9 (.inl rfl)).symm.trans hx
  | 10 => exact (he 10 (.inl rfl)).symm.trans hx
  | 11 => exact (he 11 (.inl rfl)).symm.trans hx
  | 12 => exact hg.2.2 hx
  | 13 => exact (he 13 (.inl rfl)).symm.trans hx
  | 14 => exact (he 14 (.inl rfl)).symm.trans hx
  | (n + 15) => exact trivial
set_option maxRecDepth 100000 in
set_option maxHeartbeats 2000000 in
theorem qtake_c (w : World) :
    Calls Tryz.prog 20 #[.agg #[.string ⟨#[117]⟩, .string ⟨#[115]⟩, .int .u64 1, .int .u64 1, .int .i64 1, .int .u64 0, .int .u64 0, .int .u64 0, .slice none 0 0, .slice none 0 0, .int .u64 5, .int .i64 0, .int .i64 0, .int .i64 0], .int .u64 5, .agg #[.int .u64 0, .slice none 0 0, .slice none 0 0, .slice none 0 0], .agg #[.int .i64 1, .int .u64 1, .int .u64 1, .int .i64 1, .int .i64 0, .int .u64 0, .int .u64 0, .slice none 0 0, .slice none 0 0, .string ⟨#[]⟩, .slice none 0 0, .int .i64 0, .int .i64 0, .int .i64 0, .string ⟨#[]⟩, .slice none 0 0, .slice none 0 0, .int .i64 0]] w fun e w' => e = .returned (.tuple #[.agg #[.string ⟨#[117]⟩, .string ⟨#[115]⟩, .int .u64 1, .int .u64 1, .int .i64 0, .int .u64 0, .int .u64 0, .int .u64 0, .slice none 0 0, .slice none 0 0, .int .u64 5, .int .i64 1, .int .i64 0, .int .i64 0], .slice none 0 0, .slice none 0 0]) ∧ Fr (fun _ => False) w w' := by
  go_enter Tryz.func20, Tryz.ntmps20
  go_wp2_with fail
  refine abs_calls (fun W => Hid (Blk W (w.heap.size + 1 + 1 + 1) 34 #[.string ⟨#[]⟩, .string ⟨#[]⟩, .int .u64 0, .int .u64 0, .int .i64 0, .int .u64 0, .int .u64 0, .int .u64 0, .slice none 0 0, .slice none 0 0, .int .u64 0, .int .i64 0, .int .i64 0, .int .i64 0]) ∧ Hid (Blk W (w.heap.size + 1 + 1) 64 #[.int .i64 1, .int .u64 1, .int .u64 1, .int .i64 1, .int .i64 0, .int .u64 0, .int .u64 0, .slice none 0 0, .slice none 0 0, .string ⟨#[]⟩, .slice none 0 0, .int .i64 0, .int .i64 0, .int .i64 0, .string ⟨#[]⟩, .slice none 0 0, .slice none 0 0, .int .i64 0]) ∧ Hid (Fr (fun _ => False) w W)) ⟨Blk.new3 w _ _ _ 34 _, (Blk.new2 w _ _ 64 _).alloc _, ((((Fr.refl _ w).alloc _).alloc _).alloc _).alloc _⟩ ?_
  rintro w0 ⟨Z0, T0, F0⟩
  have hrw : w.heap.size ≤ w.heap.size + 1 + 1 + 1 := by omega
  obtain ⟨r, hr⟩ : ∃ r, w.heap.size + 1 + 1 + 1 = r := ⟨_, rfl⟩
  rw [hr] at Z0 hrw ⊢
  obtain ⟨tb, htb⟩ : ∃ r, w.heap.size + 1 + 1 = r := ⟨_, rfl⟩
  rw [htb] at T0 ⊢
  have HRW := Lib.hid hrw
  clear hr htb hrw
  refine (qrun_c w0 ⟨#[117]⟩ ⟨#[115]⟩ 1 1 1 0 0 0 5 0 0 0 5 0 none 0 0).mono ?_
  rintro e w1 ⟨x, rfl, hx, b1, f1⟩
  have B1 := Lib.hid b1
  have Z1 := Lib.hid (keepB Z0.out f1)
  have T1 := Lib.hid (keepB T0.out f1)
  have HXR : Hid (x ≠ r) := by have := Z0.out.lt; show _ ≠ _; omega
  have HXW : Hid (w.heap.size ≤ x) := by have := F0.out.size; show _ ≤ _; omega
  have F1 : Hid (Fr (fun _ => False) w w1) := F0.out.trans f1 (fun _ _ h => h)
  clear b1 f1 hx Z0 T0 F0
  go_wp2_with fail
  refine (qstep1_c w1 x B1.out rfl).mono ?_
  rintro e w2 ⟨rfl, f2⟩
  have B1b := Lib.hid (keepB B1.out f2)
  have Z1b := Lib.hid (keepB Z1.out f2)
  have T1b := Lib.hid (keepB T1.out f2)
  have F1b : Hid (Fr (fun _ => False) w w2) := F1.out.trans f2 (fun _ _ h => h)
  clear f2 B1 Z1 T1 F1
  go_wp2_with (refine wpList_store_blk rfl 97 _ _ rfl w2.heap.size _ rfl rfl (Blk.new w2 _ _) rfl (by kernel_rfl) (by first | rfl | kernel_rfl) ?_
               rintro w3 b3 f3
               have A2 := Lib.hid b3
               have B2 := Lib.hid ((B1b.out.alloc _).fr f3 (by have := B1b.out.lt; omega))
               have Z2 := Lib.hid ((Z1b.out.alloc _).fr f3 (by have := Z1b.out.lt; omega))
               have T2 := Lib.hid ((T1b.out.alloc _).fr f3 (by have := T1b.out.lt; omega))
               have F2 : Hid (Fr (fun _ => False) w w3) := (F1b.out.alloc _).trans f3 (fun k hk e => by have := F1b.out.size; omega)
               clear b3 f3 B1b Z1b T1b F1b)
  obtain ⟨aq, haq⟩ : ∃ a, w2.heap.size = a := ⟨_, rfl⟩
  rw [haq] at A2 ⊢
  clear haq
  have t0 : w3.cell? ⟨tb, 0, none⟩ = some (.int .i64 1) := T2.out.cell 0
  have t1 : w3.cell? ⟨tb, 1, none⟩ = some (.int .u64 1) := T2.out.cell 1
  have t2 : w3.cell? ⟨tb, 2, none⟩ = some (.int .u64 1) := T2.out.cell 2
  have t3 : w3.cell? ⟨tb, 3, none⟩ = some (.int .i64 1) := T2.out.cell 3
  have x2 : w3.cell? ⟨x, 2, none⟩ = some (.int .u64 1) := B2.out.cell 2
  have x3 : w3.cell? ⟨x, 3, none⟩ = some (.int .u64 1) := B2.out.cell 3
  have a0 : w3.cell? ⟨aq, 0, none⟩ = some (.int .i64 1) := A2.out.cell 0
  go_quiet (fail)
  have A4 := Lib.hid (A2.out.drewN nq)
  have B4 := Lib.hid (B2.out.drewN nq)
  have Z4 := Lib.hid (Z2.out.drewN nq)
  have T4 := Lib.hid (T2.out.drewN nq)
  have F4 := Lib.hid (F2.out.drewN nq)
  clear t0 t1 t2 t3 x2 x3 a0 A2 B2 Z2 T2 F2
  generalize w3.drewN nq = w4 at *
  have t4 : w4.cell? ⟨tb, 4, none⟩ = some (.int .i64 0) := T4.out.cell 4
  have a1 : w4.cell? ⟨aq, 1, none⟩ = some (.func (.func 48) #[] #[]) := A4.out.cell 1
  have HTS := Lib.hid (show (Tryz.prog.info? 64).map (·.size) = some 18 by kernel_rfl)
  go_wp2_with (refine wpList_load_all rfl 64 _ rfl tb rfl T4.out _ Tryz.underlying64 rfl HTS.out ?_)
  clear t4 a1
  refine (qchecked_c w4 x ⟨#[117]⟩ ⟨#[115]⟩ 1 1 1 0 0 0 5 0 0 0 5 B4.out).mono ?_
  rintro e w5 ⟨rfl, b3, f3⟩
  have B3 := Lib.hid b3
  have Z0 := Lib.hid (Z4.out.fr f3 (fun e => HXR.out e.symm))
  have FA : Hid (Fr (fun _ => False) w w5) := F4.out.trans f3 (fun k hk e => by have e' : k = x := e; have := HXW.out; omega)
  clear b3 f3 A4 B4 Z4 T4 F4 HTS
  go_wp2_with fail
  have HSZ := Lib.hid tPushing_size
  have HON := Lib.hid (show (#[.string ⟨#[117]⟩, .string ⟨#[115]⟩, .int .u64 1, .int .u64 1, .int .i64 0, .int .u64 0, .int .u64 0, .int .u64 0, .slice none 0 0, .slice none 0 0, .int .u64 5, .int .i64 1, .int .i64 0, .int .i64 0] : Array Value).all (·.oneCell') = true by kernel_rfl)
  refine (wpIn_wide (n := 9)).1 ?_
  refine wpIn_region_factsR (ms := [0, 1, 3, 7, 0, 16, 48, 112, 0, 256, 768, 1792, 15, 4351, 16383]) (k := 15) (Gs r 34 #[.string ⟨#[117]⟩, .string ⟨#[115]⟩, .int .u64 1, .int .u64 1, .int .i64 0, .int .u64 0, .int .u64 0, .int .u64 0, .slice none 0 0, .slice none 0 0, .int .u64 5, .int .i64 1, .int .i64 0, .int .i64 0]) (qtR x r) (by kernel_rfl) (by kernel_rfl) (fun W => Gs.refl W) (fun a b c h1 h2 => h1.trans h2) (qtR_far) (lowMs_lt (by kernel_rfl)) ?walk1
  case walk1 =>
  refine factWalkR_cons (fun W hW hf K hK => ?_) (fun y0 => ?_)
  · skip
    refine ⟨by kernel_rfl, ?_⟩
    gi_step
    exact hK _ _ (Gs.refl _) rfl
  simp only [Act.put, List.setIfInBounds_toArray, List.set_cons_succ, List.set_cons_zero]
  refine factWalkR_cons (fun W hW hf K hK => ?_) (fun y1 => ?_)
  · skip
    have e0 : y0 = .pointer (some ⟨x, 0, none⟩) := hf 0 (by omega) (by kernel_rfl)
    subst e0
    refine ⟨by kernel_rfl, ?_⟩
    gi_step
    exact hK _ _ (Gs.refl _) rfl
  simp only [Act.put, List.setIfInBounds_toArray, List.set_cons_succ, List.set_cons_zero]
  refine factWalkR_cons (fun W hW hf K hK => ?_) (fun y2 => ?_)
  · skip
    have e1 : y1 = .pointer (some ⟨x, 0, none⟩) := hf 1 (by omega) (by kernel_rfl)
    subst e1
    refine ⟨by kernel_rfl, ?_⟩
    gi_step
    exact hK _ _ (Gs.refl _) rfl
  simp only [Act.put, List.setIfInBounds_toArray, List.set_cons_succ, List.set_cons_zero]
  refine factWalkR_cons (fun W hW hf K hK => ?_) (fun y3 => ?_)
  · skip
    have e2 : y2 = .pointer (some ⟨x, 0, none⟩) := hf 2 (by omega) (by kernel_rfl)
    subst e2
    have hld := load_part (P := Tryz.prog) W x (B3.out.fr (Gs.drew hW).1 HXR.out) 34 #[.string ⟨#[117]⟩, .string ⟨#[115]⟩, .int .u64 1, .int .u64 1, .int .i64 0, .int .u64 0, .int .u64 0, .int .u64 0, .slice none 0 0, .slice none 0 0, .int .u64 5, .int .i64 1, .int .i64 0, .int .i64 0] _ Tryz.underlying34 rfl rfl HSZ.out
    refine ⟨by kernel_rfl, ?_⟩
    refine operIn_load 34 _ rfl _ rfl hld ?_
    exact hK _ _ (Gs.refl _) rfl
  simp only [Act.put, List.setIfInBounds_toArray, List.set_cons_succ, List.set_cons_zero]
  refine factWalkR_cons (fun W hW hf K hK => ?_) (fun y4 => ?_)
  · skip
    refine ⟨by kernel_rfl, ?_⟩
    gi_step
    exact hK _ _ (Gs.refl _) rfl
  simp only [Act.put, List.setIfInBounds_toArray, List.set_cons_succ, List.set_cons_zero]
  refine factWalkR_cons (fun W hW hf K hK => ?_) (fun y5 => ?_)
  · skip
    have e4 : y4 = .pointer (some ⟨x, 0, none⟩) := hf 4 (by omega) (by kernel_rfl)
    subst e4
    refine ⟨by kernel_rfl, ?_⟩
    gi_step
    exact hK _ _ (Gs.refl _) rfl
  simp only [Act.put, List.setIfInBounds_toArray, List.set_cons_succ, List.set_cons_zero]
  refine factWalkR_cons (fun W hW hf K hK => ?_) (fun y6 => ?_)
  · skip
    have e5 : y5 = .pointer (some ⟨x, 0, none⟩) := hf 5 (by omega) (by kernel_rfl)
    subst e5
    refine ⟨by kernel_rfl, ?_⟩
    gi_step
    exact hK _ _ (Gs.refl _) rfl
  simp only [Act.put, List.setIfInBounds_toArray, List.set_cons_succ, List.set_cons_zero]
  refine factWalkR_cons (fun W hW hf K hK => ?_) (fun y7 => ?_)
  · skip
    have e6 : y6 = .pointer (some ⟨x, 19, none⟩) := hf 6 (by omega) (by kernel_rfl)
    subst e6
    have hbx := B3.out.fr (Gs.drew hW).1 HXR.out
    have c19 : W.cell? ⟨x, 19, none⟩ = some (.slice none 0 0) := hbx.cell 19
    refine ⟨by kernel_rfl, ?_⟩
    gi_step
    exact hK _ _ (Gs.refl _) rfl
  simp only [Act.put, List.setIfInBounds_toArray, List.set_cons_succ, List.set_cons_zero]
  refine factWalkR_cons (fun W hW hf K hK => ?_) (fun y8 => ?_)
  · skip
    refine ⟨by kernel_rfl, ?_⟩
    gi_step
    exact hK _ _ (Gs.refl _) rfl
  simp only [Act.put, List.setIfInBounds_toArray, List.set_cons_succ, List.set_cons_zero]
  refine factWalkR_cons (fun W hW hf K hK => ?_) (fun y9 => ?_)
  · skip
    have e8 : y8 = .pointer (some ⟨x, 0, none⟩) := hf 8 (by omega) (by kernel_rfl)
    subst e8
    refine ⟨by kernel_rfl, ?_⟩
    gi_step
    exact hK _ _ (Gs.refl _) rfl
  simp only [Act.put, List.setIfInBounds_toArray, List.set_cons_succ, List.set_cons_zero]
  refine factWalkR_cons (fun W hW hf K hK => ?_) (fun y10 => ?_)
  · skip
    have e9 : y9 = .pointer (some ⟨x, 0, none⟩) := hf 9 (by omega) (by kernel_rfl)
    subst e9
    refine ⟨by kernel_rfl, ?_⟩
    gi_step
    exact hK _ _ (Gs.refl _) rfl
  simp only [Act.put, List.setIfInBounds_toArray, List.set_cons_succ, List.set_cons_zero]
  refine factWalkR_cons (fun W hW hf K hK => ?_) (fun y11 => ?_)
  · skip
    have e10 : y10 = .pointer (some ⟨x, 20, none⟩) := hf 10 (by omega) (by kernel_rfl)
    subst e10
    have hbx := B3.out.fr (Gs.drew hW).1 HXR.out
    have c20 : W.cell? ⟨x, 20, none⟩ = some (.slice none 0 0) := hbx.cell 20
    refine ⟨by kernel_rfl, ?_⟩
    gi_step
    exact hK _ _ (Gs.refl _) rfl
  simp only [Act.put, List.setIfInBounds_toArray, List.set_cons_succ, List.set_cons_zero]
  refine factWalkR_cons (fun W hW hf K hK => ?_) (fun y12 => ?_)
  · skip
    have e3 : y3 = .agg #[.string ⟨#[117]⟩, .string ⟨#[115]⟩, .int .u64 1, .int .u64 1, .int .i64 0, .int .u64 0, .int .u64 0, .int .u64 0, .slice none 0 0, .slice none 0 0, .int .u64 5, .int .i64 1, .int .i64 0, .int .i64 0] := hf 3 (by omega) (by kernel_rfl)
    subst e3
    obtain ⟨cs0, bz, hz⟩ := (Gs.drew hW).2.1 _ Z0.out rfl
    have hsto := run_storeAt_mid (P := Tryz.prog) W r 0 34 (#[.string ⟨#[117]⟩, .string ⟨#[115]⟩, .int .u64 1, .int .u64 1, .int .i64 0, .int .u64 0, .int .u64 0, .int .u64 0, .slice none 0 0, .slice none 0 0, .int .u64 5, .int .i64 1, .int .i64 0, .int .i64 0]) (by have h := bz.there; rw [hz] at h; exact h) HSZ.out HON.out
    refine ⟨by kernel_rfl, ?_⟩
    refine operIn_store rfl _ _ _ rfl _ _ rfl rfl hsto ?_
    exact hK undef _ (Gs.store bz hz) (bz.setAll hz.symm)
  simp only [Act.put, List.setIfInBounds_toArray, List.set_cons_succ, List.set_cons_zero]
  refine factWalkR_cons (fun W hW hf K hK => ?_) (fun y13 => ?_)
  · skip
    have e7 : y7 = .slice none 0 0 := hf 7 (by omega) (by kernel_rfl)
    subst e7
    refine ⟨by kernel_rfl, ?_⟩
    gi_step
    exact hK _ _ (Gs.refl _) rfl
  simp only [Act.put, List.setIfInBounds_toArray, List.set_cons_succ, List.set_cons_zero]
  refine factWalkR_cons (fun W hW hf K hK => ?_) (fun y14 => ?_)
  · skip
    have e11 : y11 = .slice none 0 0 := hf 11 (by omega) (by kernel_rfl)
    subst e11
    refine ⟨by kernel_rfl, ?_⟩
    gi_step
    exact hK _ _ (Gs.refl _) rfl
  simp only [Act.put, List.setIfInBounds_toArray, List.set_cons_succ, List.set_cons_zero]
  refine factWalkR_nil (fun W hW hf => ?_)
  have e13 : y13 = .slice none 0 0 := hf 13 (by omega)
  have e14 : y14 = .slice none 0 0 := hf 14 (by omega)
  have b8 : Blk W r 34 #[.string ⟨#[117]⟩, .string ⟨#[115]⟩, .int .u64 1, .int .u64 1, .int .i64 0, .int .u64 0, .int .u64 0, .int .u64 0, .slice none 0 0, .slice none 0 0, .int .u64 5, .int .i64 1, .int .i64 0, .int .i64 0] := hf 12 (by omega)
  subst e13 e14
  have gW := (Gs.drew hW).1
  have BM := Lib.hid b8
  have FW : Hid (Fr (fun _ => False) w W) := FA.out.trans gW (fun k hk e => by have e' : k = r := e; have := HRW.out; omega)
  clear hf hW b8 gW
  change wpAnyIn _ _ _ _ _ _ 0 _ _ _
  refine wpAnyIn_done (by kernel_rfl) ?_ _
  try simp only [Act.put, List.setIfInBounds_toArray, List.set_cons_succ, List.set_cons_zero]
  go_wp2_with fail
  exact bodyPost_ret (results_three Tryz.results20 _ W r 34 _ _ rfl BM.out Tryz.underlying34 rfl HSZ.out) rfl ⟨rfl, FW.out⟩

end Go.Proofs.YtaenibbhpidjcaaGreatDoor
