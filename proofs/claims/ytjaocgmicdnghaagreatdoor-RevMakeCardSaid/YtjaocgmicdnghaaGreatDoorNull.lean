/-
  CONTRACTS of value's May and Print at null.
-/
import Derived.Test.YtjaocgmicdnghaaGreatDoorSh
import Derived.Test.YtjaocgmicdnghaaGreatDoorSum
import Derived.Test.YtjaocgmicdnghaaGreatDoorPar3
import Derived.Laws.EntriesVeiled
namespace Go.Proofs.YtjaocgmicdnghaaGreatDoor
set_option linter.unusedSimpArgs false
set_option linter.unusedVariables false
open Go Go.RowKit Go.Shelf
attribute [local go_sem] Oper.semAt_some

theorem abs_exit {K : Act → World → Prop} {Q : Exit → Act → World → Prop} {e : Exit} {a : Act} {w : World} (Φ : World → Prop) (h : Φ w) (k : ∀ W, Φ W → Exit.then K Q e a W) : Exit.then K Q e a w := k w h
/-- Null, as cells. -/
abbrev nul : Array Value := #[.int .i64 0, .int .i64 0, .string ⟨#[]⟩, .slice none 0 0, .slice none 0 0]
set_option maxRecDepth 100000 in
theorem usesOwn_null (w : World) : Calls Tryz.prog 43 #[.agg nul] w fun e w' => e = .returned (.bool true) ∧ Fr (fun _ => False) w w' := by
  go_enter Tryz.func43, Tryz.ntmps43
  go_wp2_with fail
  go_ret
  exact ⟨rfl, (Fr.refl _ w).alloc _⟩
set_option maxRecDepth 100000 in
theorem ownSize_null (w : World) : Calls Tryz.prog 44 #[.agg nul] w fun e w' => e = .returned (.int .i64 4) ∧ Fr (fun _ => False) w w' := by
  go_enter Tryz.func44, Tryz.ntmps44
  go_wp2_with fail
  go_ret
  exact ⟨rfl, (Fr.refl _ w).alloc _⟩
theorem plain_null (w : World) : Calls Tryz.prog 45 #[.string ⟨#[]⟩] w fun e w' => e = .returned (.bool true) ∧ w = w' := by
  go_enter Tryz.func45, Tryz.ntmps45
  go_wp2_with fail
  go_loop [6] (fun iv => iv = .int .i64 0) (fun _ => 0)
  case atStart => rfl
  case round =>
    obtain rfl := hrel
    go_wp2_with fail
    go_ret
    exact ⟨rfl, rfl⟩
theorem rising_null (w : World) : Calls Tryz.prog 46 #[.slice none 0 0] w fun e w' => e = .returned (.bool true) ∧ w = w' := by
  go_enter Tryz.func46, Tryz.ntmps46
  go_wp2_with fail
  go_loop [7] (fun iv => iv = .int .i64 0) (fun _ => 0)
  case atStart => rfl
  case round =>
    obtain rfl := hrel
    go_wp2_with fail
    go_ret
    exact ⟨rfl, rfl⟩
set_option maxRecDepth 100000 in
theorem append_null (w : World) : Calls Tryz.prog 28 #[.slice none 0 0, .agg nul] w fun e w' => ∃ v, e = .returned v ∧ w'.ownsRow w.heap.size 5 1 v 4 (bv [110, 117, 108, 108]) ∧ Fr (fun _ => False) w w' := by
  obtain ⟨i0, hi0, hz0', hz1', hz2'⟩ := info_parts u8_info
  have HI0 := Lib.hid hi0
  have HSRC := Lib.hid (fun W : World => (Src.ofString W Tryz.underlying9 ⟨#[110, 117, 108, 108]⟩ : Src Tryz.prog 1 9 (.string ⟨#[110, 117, 108, 108]⟩) 4 (bv [110, 117, 108, 108]) W))
  clear hi0
  go_enter Tryz.func28, Tryz.ntmps28
  go_wp2_with (
    (at_builtin
     refine wpList_app rfl _ _ _ _ rfl w.heap.size 5 i0 _ 1 1 Tryz.underlying43 HI0.out hz0' hz1' hz2' rfl _ 0 [] rfl (World.ownsRow_nil (w.alloc (.cells nul 29)) w.heap.size 5 1) _ 4 (bv [110, 117, 108, 108]) rfl (HSRC.out _) (by omega) (by unfold maxLen; omega) (by simp) ?_
     intro v4 w4 o4 f4 hn4
     have F4 := Lib.hid (((Fr.refl (fun _ => False) w).alloc (.cells nul 29)).trans f4 (fun i hi hq => by cases hq))
     have O4 := Lib.hid o4
     clear o4 f4 hn4))
  go_ret
  exact ⟨_, rfl, O4.out, F4.out⟩

def nlX (r : Nat) (i : Nat) (v : Value) (W : World) : Prop := match i with
  | 0 => v = .int .i64 512
  | 1 => v = .agg nul
  | 2 => v = .int .i64 4
  | 3 => v = .int .i64 508
  | _ => True
theorem nlX_far {r : Nat} {i : Nat} {v : Value} {W W' : World} (hg : Fr (fun _ => False) W W') (hx : nlX r i v W) : nlX r i v W' := by
  match i with
  | 0 => exact hx
  | 1 => exact hx
  | 2 => exact hx
  | 3 => exact hx
  | (n + 4) => exact hx

set_option maxRecDepth 100000 in
set_option maxHeartbeats 1000000 in
theorem invalid_null (w : World) (r f : Nat) (hr : Blk w r 3 #[.int .i64 512]) :
    Calls Tryz.prog 42 #[.agg nul, .int .i64 1, .pointer (some ⟨r, 0, none⟩), .pointer (some ⟨f, 0, none⟩)] w fun e w' => e = .returned (.bool false) ∧ Fr (fun k => k = r) w w' := by
  have hlt := hr.lt
  have HR := Lib.hid hr
  clear hr
  go_enter Tryz.func42, Tryz.ntmps42
  go_upto_region 1 with fail
  refine abs_world (fun W => Hid (Blk W w.heap.size 29 nul) ∧ Hid (Blk W r 3 #[.int .i64 512]) ∧ Hid (Fr (fun _ => False) w W)) ⟨Blk.new w _ _, HR.out.alloc _, (Fr.refl _ w).alloc _⟩ ?_
  rintro W0 ⟨B0, R0, F0⟩
  have k0 : W0.cell? ⟨w.heap.size, 0, none⟩ = some (.int .i64 0) := B0.out.cell 0
  have k1 : W0.cell? ⟨w.heap.size, 1, none⟩ = some (.int .i64 0) := B0.out.cell 1
  have k2 : W0.cell? ⟨w.heap.size, 2, none⟩ = some (.string ⟨#[]⟩) := B0.out.cell 2
  have k3 : W0.cell? ⟨w.heap.size, 3, none⟩ = some (.slice none 0 0) := B0.out.cell 3
  have k4 : W0.cell? ⟨w.heap.size, 4, none⟩ = some (.slice none 0 0) := B0.out.cell 4
  go_wp2_with fail
  refine (usesOwn_null W0).mono ?_
  rintro e W1 ⟨rfl, f1⟩
  have F1 := Lib.hid (F0.out.trans f1 (fun _ _ h => h))
  have BX := Lib.hid (B0.out.fr f1 (fun h => h))
  have BR := Lib.hid (R0.out.fr f1 (fun h => h))
  clear f1 F0 B0 R0 k0 k1 k2 k3 k4
  go_upto_region 3 with fail
  refine (wpIn_wide (n := 9)).1 ?_
  refine wpIn_region_factsG (ms := [0, 0, 2, 7, 15]) (k := 4) (Fr (fun _ => False)) (nlX r) (fun i v W => True) (by kernel_rfl) (by kernel_rfl) (Fr.refl _ _) (fun a b c h1 h2 => h1.trans h2 (fun _ _ h => h)) (fun i v w w' hg hx => nlX_far hg hx) ?walk3
  case walk3 =>
  have hdr : ∀ W, Fr (fun _ => False) W1.drew W → Fr (fun _ => False) W1 W := fun W h => ((Fr.refl (fun _ => False) W1).drew).trans h (fun _ _ h => h)
  have HDR := Lib.hid hdr
  clear hdr
  refine factWalkG_cons (fun W hW hf K hK => ?_) (fun x0 => ?_)
  · skip
    have c0 := (BR.out.fr (HDR.out W hW) (fun h => h)).cell 0
    refine ⟨by kernel_rfl, ?_⟩
    gi_step
    exact hK _ _ (Fr.refl _ _) rfl trivial
  simp only [Act.put, List.setIfInBounds_toArray, List.set_cons_succ, List.set_cons_zero]
  refine factWalkG_cons (fun W hW hf K hK => ?_) (fun x1 => ?_)
  · skip
    have BV := BX.out.fr (HDR.out W hW) (fun h => h)
    have k0 := BV.cell 0
    have k1 := BV.cell 1
    have k2 := BV.cell 2
    have k3 := BV.cell 3
    have k4 := BV.cell 4
    refine ⟨by kernel_rfl, ?_⟩
    gi_step
    exact hK _ _ (Fr.refl _ _) rfl trivial
  simp only [Act.put, List.setIfInBounds_toArray, List.set_cons_succ, List.set_cons_zero]
  refine factWalkG_cons (fun W hW hf K hK => ?_) (fun x2 => ?_)
  · skip
    have e1 : x1 = .agg nul := hf 1 (by omega) (by kernel_rfl)
    subst e1
    refine ⟨by kernel_rfl, ?_⟩
    gi_step
    refine ⟨trivial, ?_⟩
    refine (callsIn_wide.2 (ownSize_null W)).mono ?_
    rintro e W' ⟨rfl, f2⟩
    dsimp only
    exact hK _ _ f2 rfl trivial
  simp only [Act.put, List.setIfInBounds_toArray, List.set_cons_succ, List.set_cons_zero]
  refine factWalkG_cons (fun W hW hf K hK => ?_) (fun x3 => ?_)
  · skip
    have e0 : x0 = .int .i64 512 := hf 0 (by omega) (by kernel_rfl)
    have e2 : x2 = .int .i64 4 := hf 2 (by omega) (by kernel_rfl)
    subst e0 e2
    refine ⟨by kernel_rfl, ?_⟩
    gi_step
    exact hK _ _ (Fr.refl _ _) rfl trivial
  simp only [Act.put, List.setIfInBounds_toArray, List.set_cons_succ, List.set_cons_zero]
  refine factWalkG_nil (fun W hW hf3 hmet => ?_)
  have e3 : x3 = .int .i64 508 := hf3 3 (by omega)
  subst e3
  have hWf := HDR.out W hW
  have BRW := BR.out.fr hWf (fun h => h)
  have BXW := BX.out.fr hWf (fun h => h)
  have c0 := BRW.cell 0
  have m0 := BRW.frozen 0
  have FW := F1.out.trans hWf (fun _ _ h => h)
  change wpAnyIn _ _ _ _ _ _ 1 _ _ _
  refine wpAnyIn_ready (rs := [4]) (by kernel_rfl) (by simp) ?_
  refine AllReadyIn.cons rfl (fun K hK => ?_) AllReadyIn.nil
  go_simp
  refine hK _ _ ?_
  refine wpAnyIn_done (by kernel_rfl) ?_ _
  clear hK K hmet hf3 HDR c0 m0
  refine abs_exit (fun W => Hid (Blk W r 3 #[.int .i64 508]) ∧ Hid (Blk W w.heap.size 29 nul) ∧ Hid (Fr (fun k => k = r) w W)) ⟨BRW.set_ 0 _, BXW.far (by show w.heap.size ≠ r; omega) _, (FW.mono (fp := fun k => k = r) (fun _ _ h => h.elim)).setCell (p := ⟨r, 0, none⟩) (fun _ => rfl) _⟩ ?_
  clear BRW BXW FW hWf hW W BR BX F1
  rintro W2 ⟨BR, BX, F2⟩
  have r0 : W2.cell? ⟨r, 0, none⟩ = some (.int .i64 508) := BR.out.cell 0
  have k2 : W2.cell? ⟨w.heap.size, 2, none⟩ = some (.string ⟨#[]⟩) := BX.out.cell 2
  have k3 : W2.cell? ⟨w.heap.size, 3, none⟩ = some (.slice none 0 0) := BX.out.cell 3
  have k4 : W2.cell? ⟨w.heap.size, 4, none⟩ = some (.slice none 0 0) := BX.out.cell 4
  go_wp2_with fail
  refine (plain_null W2).mono ?_
  rintro e W3 ⟨rfl, rfl⟩
  go_wp2_with fail
  refine (rising_null W2).mono ?_
  rintro e W3 ⟨rfl, rfl⟩
  go_wp2_with fail
  go_loopw [37] (fun iv wr => iv = .int .i64 0 ∧ Hid (Fr (fun k => k = r) w wr)) (fun _ _ => 0)
  case atStart => exact ⟨rfl, F2.out⟩
  case round =>
    obtain ⟨rfl, hf⟩ := hrel
    go_wp2_with fail
    go_ret
    exact ⟨rfl, hf.out⟩

set_option maxRecDepth 100000 in
set_option maxHeartbeats 1000000 in
theorem vmay_null (w : World) : Calls Tryz.prog 27 #[.agg nul] w fun e w' => e = .returned (.bool true) ∧ Fr (fun _ => False) w w' := by
  go_enter Tryz.func27, Tryz.ntmps27
  go_upto_region 4 with fail
  refine abs_world (fun W => Hid (Blk W w.heap.size 29 nul) ∧ Hid (Blk W (w.heap.size + 1) 3 #[.int .i64 512]) ∧ Hid (Blk W (w.heap.size + 1 + 1) 70 #[.func (.func 42) #[] #[.pointer (some ⟨w.heap.size + 1, 0, none⟩), .pointer (some ⟨w.heap.size + 1 + 1, 0, none⟩)]]) ∧ Hid (Fr (fun _ => False) w W)) ⟨?_, ?_, ?_, (((Fr.refl _ w).alloc _).alloc _).alloc _⟩ ?_
  · exact ((Blk.new w _ _).alloc _).alloc _
  · have h := Blk.new (w.alloc (.cells nul 29)) 3 #[.int .i64 512]
    rw [World.size_alloc] at h
    exact h.alloc _
  · have h := Blk.new ((w.alloc (.cells nul 29)).alloc (.cells #[.int .i64 512] 3)) 70 #[.func (.func 42) #[] #[.pointer (some ⟨w.heap.size + 1, 0, none⟩), .pointer (some ⟨w.heap.size + 1 + 1, 0, none⟩)]]
    rw [World.size_alloc, World.size_alloc] at h
    exact h
  rintro W1 ⟨B1, R1, C1, F1⟩
  have k0 : W1.cell? ⟨w.heap.size, 0, none⟩ = some (.int .i64 0) := B1.out.cell 0
  have k1 : W1.cell? ⟨w.heap.size, 1, none⟩ = some (.int .i64 0) := B1.out.cell 1
  have k2 : W1.cell? ⟨w.heap.size, 2, none⟩ = some (.string ⟨#[]⟩) := B1.out.cell 2
  have k3 : W1.cell? ⟨w.heap.size, 3, none⟩ = some (.slice none 0 0) := B1.out.cell 3
  have k4 : W1.cell? ⟨w.heap.size, 4, none⟩ = some (.slice none 0 0) := B1.out.cell 4
  have k5 : W1.cell? ⟨w.heap.size + 1 + 1, 0, none⟩ = some (.func (.func 42) #[] #[.pointer (some ⟨w.heap.size + 1, 0, none⟩), .pointer (some ⟨w.heap.size + 1 + 1, 0, none⟩)]) := C1.out.cell 0
  go_wp2_with fail
  refine (invalid_null W1 _ _ R1.out).mono ?_
  rintro e W2 ⟨rfl, f2⟩
  have F2 := Lib.hid (F1.out.trans (f2.mono (fq := fun k => k = w.heap.size + 1) (fp := fun k => k = w.heap.size + 1) (fun _ _ h => h)) (fp := fun _ => False) (fun i hi h => by omega))
  clear f2
  go_wp2_with fail
  go_ret
  exact ⟨rfl, F2.out⟩
set_option maxRecDepth 100000 in
set_option maxHeartbeats 1000000 in
theorem vprint_null (w : World) : Calls Tryz.prog 15 #[.agg nul] w fun e w' => e = .returned (.tuple #[.string (strOf [110, 117, 108, 108]), .int .i64 0]) ∧ Fr (fun _ => False) w w' := by
  go_enter Tryz.func15, Tryz.ntmps15
  go_upto_region 1 with fail
  refine abs_world (fun W => Hid (Blk W w.heap.size 29 nul) ∧ Hid (Fr (fun _ => False) w W)) ⟨Blk.new w _ _, (Fr.refl _ w).alloc _⟩ ?_
  rintro W1 ⟨B1, F1⟩
  have k0 : W1.cell? ⟨w.heap.size, 0, none⟩ = some (.int .i64 0) := B1.out.cell 0
  have k1 : W1.cell? ⟨w.heap.size, 1, none⟩ = some (.int .i64 0) := B1.out.cell 1
  have k2 : W1.cell? ⟨w.heap.size, 2, none⟩ = some (.string ⟨#[]⟩) := B1.out.cell 2
  have k3 : W1.cell? ⟨w.heap.size, 3, none⟩ = some (.slice none 0 0) := B1.out.cell 3
  have k4 : W1.cell? ⟨w.heap.size, 4, none⟩ = some (.slice none 0 0) := B1.out.cell 4
  go_wp2_with fail
  refine (vmay_null W1).mono ?_
  rintro e W2 ⟨rfl, f2⟩
  have F2 := Lib.hid (F1.out.trans f2 (fun _ _ h => h))
  have B2 := Lib.hid (B1.out.fr f2 (fun h => h))
  clear f2 F1 B1 k0 k1 k2 k3 k4
  have k0 : W2.cell? ⟨w.heap.size, 0, none⟩ = some (.int .i64 0) := B2.out.cell 0
  have k1 : W2.cell? ⟨w.heap.size, 1, none⟩ = some (.int .i64 0) := B2.out.cell 1
  have k2 : W2.cell? ⟨w.heap.size, 2, none⟩ = some (.string ⟨#[]⟩) := B2.out.cell 2
  have k3 : W2.cell? ⟨w.heap.size, 3, none⟩ = some (.slice none 0 0) := B2.out.cell 3
  have k4 : W2.cell? ⟨w.heap.size, 4, none⟩ = some (.slice none 0 0) := B2.out.cell 4
  go_wp2_with fail
  refine (append_null W2).mono ?_
  rintro e W3 ⟨v, rfl, o3, f3⟩
  obtain ⟨A3, c3, rfl, -, -⟩ := own_slice o3
  have F3 := Lib.hid (F2.out.trans f3 (fun _ _ h => h))
  have hcv := conv_str W3 A3 4 c3 _ (Rd.of_own o3)
  clear f3 o3 k0 k1 k2 k3 k4
  go_wp2_with fail
  go_ret2
  exact ⟨rfl, F3.out⟩
end Go.Proofs.YtjaocgmicdnghaaGreatDoor
