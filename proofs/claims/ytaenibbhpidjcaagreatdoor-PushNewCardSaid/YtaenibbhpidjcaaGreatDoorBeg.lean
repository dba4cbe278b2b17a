/-
  CONTRACT of pull's Begin, at a session that is idle.
-/
import Derived.Test.YtaenibbhpidjcaaGreatDoorAsk
import Derived.Test.YtaenibbhpidjcaaGreatDoorRun
import Derived.Test.YtaenibbhpidjcaaGreatDoorStp
namespace Go.Proofs.YtaenibbhpidjcaaGreatDoor
set_option linter.unusedSimpArgs false
set_option linter.unusedVariables false
open Go Go.RowKit
theorem load_part {P : Program} (W : World) (x : Nat) {t : TypeId} {C : Array Value} (h : Blk W x t C) (ty : TypeId) (M : Array Value) (d : TypeDesc) (hu : P.underlying ty = some d) (hd : d.isRow = true) (hM : (C.toList.drop 0).take M.size = M.toList) (hi : (P.info? ty).map (·.size) = some M.size) :
    (Instr.loadAt ty (.pointer (some ⟨x, 0, none⟩))).run P W = .ok (.agg M) W := by
  have h2 := h.part 0 M.size
  rw [hM] at h2
  have := run_loadAt_mid (P := P) W x 0 ty M.toList d h2 hu hd (by rw [Array.length_toList]; exact hi)
  rwa [Array.toArray_toList] at this
theorem tPulling_size : (Tryz.prog.info? 28).map (·.size) = some 13 := by kernel_rfl

def pcs (u s : ByteArray) (inc n ph since life to_ asked done why : Int) : Array Value := #[.string u, .string s, .int .u64 inc, .int .u64 n, .int .i64 ph, .int .u64 since, .int .u64 life, .int .u64 to_, .slice none 0 0, .slice none 0 0, .int .u64 asked, .int .i64 done, .int .i64 why]
theorem pcs_one (u s : ByteArray) (inc n ph since life to_ asked done why : Int) : (pcs u s inc n ph since life to_ asked done why).all (·.oneCell') = true := by kernel_rfl
def bgR (x q c r : Nat) (M : Array Value) (i : Nat) (val : Nat → Value) (W : World) : Prop := match i with
  | 0 => val 0 = .pointer (some ⟨x, 0, none⟩)
  | 1 => val 1 = .pointer (some ⟨x, 0, none⟩)
  | 2 => val 2 = .pointer (some ⟨x, 0, none⟩)
  | 3 => val 3 = .agg M
  | 4 => val 4 = .pointer (some ⟨x, 0, none⟩)
  | 5 => val 5 = .pointer (some ⟨x, 0, none⟩)
  | 6 => val 6 = .pointer (some ⟨x, 19, none⟩)
  | 7 => val 7 = .slice (some ⟨q, 0, none⟩) 1 c
  | 8 => Blk W r 28 M
  | 9 => val 9 = .slice (some ⟨q, 0, none⟩) 1 c
  | 10 => val 10 = .int .i64 0
  | _ => True
theorem bgR_far {x q c r : Nat} {M : Array Value} (i : Nat) (val val' : Nat → Value) (W W' : World) (he : ∀ j, j = i ∨ Anc [0, 1, 3, 7, 0, 16, 48, 112, 15, 511, 1023] i j = true → val j = val' j) (hg : Gs r 28 M W W') (hx : bgR x q c r M i val W) : bgR x q c r M i val' W' := by
  match i with
  | 0 => exact (he 0 (.inl rfl)).symm.trans hx
  | 1 => exact (he 1 (.inl rfl)).symm.trans hx
  | 2 => exact (he 2 (.inl rfl)).symm.trans hx
  | 3 => exact (he 3 (.inl rfl)).symm.trans hx
  | 4 => exact (he 4 (.inl rfl)).symm.trans hx
  | 5 => exact (he 5 (.inl rfl)).symm.trans hx
  | 6 => exact (he 6 (.inl rfl)).symm.trans hx
  | 7 => exact (he 7 (.inl rfl)).symm.trans hx
  | 8 => exact hg.2.2 hx
  | 9 => exact (he 9 (.inl rfl)).symm.trans hx
  | 10 => exact (he 10 (.inl rfl)).symm.trans hx
  | (n + 11) => exact trivial
set_option maxRecDepth 100000 in
set_option maxHeartbeats 1000000 in
theorem begin_c (w : World) : Calls Tryz.prog 13 #[.agg #[.string ⟨#[117]⟩, .string ⟨#[115]⟩, .int .u64 1, .int .u64 0, .int .i64 0, .int .u64 0, .int .u64 0, .int .u64 0, .slice none 0 0, .slice none 0 0, .int .u64 0, .int .i64 0, .int .i64 0], .int .u64 5] w fun e w' => ∃ q c, e = .returned (.tuple #[.agg #[.string ⟨#[117]⟩, .string ⟨#[115]⟩, .int .u64 1, .int .u64 1, .int .i64 1, .int .u64 0, .int .u64 0, .int .u64 0, .slice none 0 0, .slice none 0 0, .int .u64 5, .int .i64 0, .int .i64 0], .slice (some ⟨q, 0, none⟩) 1 c, .int .i64 0]) ∧ Rd w' (some ⟨q, 0, none⟩) 37 (askA ⟨#[117]⟩ 0 1 1 1 ⟨#[115]⟩ 0 0 0 0).toList ∧ w.heap.size ≤ q ∧ Fr (fun _ => False) w w' := by
  go_enter Tryz.func13, Tryz.ntmps13
  go_wp2_with fail
  have Z0 := Lib.hid (Blk.new1 w (.cells #[.string ⟨#[117]⟩, .string ⟨#[115]⟩, .int .u64 1, .int .u64 0, .int .i64 0, .int .u64 0, .int .u64 0, .int .u64 0, .slice none 0 0, .slice none 0 0, .int .u64 0, .int .i64 0, .int .i64 0] 28) 28 #[.string ⟨#[]⟩, .string ⟨#[]⟩, .int .u64 0, .int .u64 0, .int .i64 0, .int .u64 0, .int .u64 0, .int .u64 0, .slice none 0 0, .slice none 0 0, .int .u64 0, .int .i64 0, .int .i64 0])
  refine (run_c _ ⟨#[117]⟩ ⟨#[115]⟩ 1 0 0 0 0 0 0 0 0 5 0 none 0 0).mono ?_
  rintro e w1 ⟨x, rfl, hx, b1, f1⟩
  have Z1 := Lib.hid (keepB Z0.out f1)
  have B1 := Lib.hid b1
  have F1 : Hid (Fr (fun _ => False) w w1) := (((Fr.refl _ w).alloc _).alloc _).trans f1 (fun _ _ h => h)
  have HX : Hid (w.heap.size + 2 ≤ x) := by simp at hx; exact hx
  obtain ⟨r, hr⟩ : ∃ r, w.heap.size + 1 = r := ⟨_, rfl⟩
  have HR := Lib.hid hr
  rw [hr] at Z1 ⊢
  clear Z0 b1 f1 hx hr
  have c4 : w1.cell? ⟨x, 4, none⟩ = some (.int .i64 0) := B1.out.cell 4
  have c5 : w1.cell? ⟨x, 5, none⟩ = some (.int .u64 0) := B1.out.cell 5
  have c6 : w1.cell? ⟨x, 6, none⟩ = some (.int .u64 0) := B1.out.cell 6
  have c7 : w1.cell? ⟨x, 7, none⟩ = some (.int .u64 0) := B1.out.cell 7
  have c8 : w1.cell? ⟨x, 8, none⟩ = some (.slice none 0 0) := B1.out.cell 8
  have c9 : w1.cell? ⟨x, 9, none⟩ = some (.slice none 0 0) := B1.out.cell 9
  have c11 : w1.cell? ⟨x, 11, none⟩ = some (.int .i64 0) := B1.out.cell 11
  have c12 : w1.cell? ⟨x, 12, none⟩ = some (.int .i64 0) := B1.out.cell 12
  have r5 := B1.out.frozen 5
  have r6 := B1.out.frozen 6
  have r7 := B1.out.frozen 7
  have r8 := B1.out.frozen 8
  have r9 := B1.out.frozen 9
  have r11 := B1.out.frozen 11
  have r12 := B1.out.frozen 12
  go_wp2_with fail
  clear c4 c5 c6 c7 c8 c9 c11 c12 r5 r6 r7 r8 r9 r11 r12
  have B2 : Hid (Blk (((((((w1.setCell ⟨x, 11, none⟩ (.int .i64 0)).setCell ⟨x, 12, none⟩ (.int .i64 0)).setCell ⟨x, 5, none⟩ (.int .u64 0)).setCell ⟨x, 7, none⟩ (.int .u64 0)).setCell ⟨x, 6, none⟩ (.int .u64 0)).setCell ⟨x, 8, none⟩ (.slice none 0 0)).setCell ⟨x, 9, none⟩ (.slice none 0 0)) x 75 #[.string ⟨#[117]⟩, .string ⟨#[115]⟩, .int .u64 1, .int .u64 0, .int .i64 0, .int .u64 0, .int .u64 0, .int .u64 0, .slice none 0 0, .slice none 0 0, .int .u64 0, .int .i64 0, .int .i64 0, .int .u64 5, .int .u64 0, .slice none 0 0, .slice none 0 0, .slice none 0 0, .slice none 0 0, .slice none 0 0]) := (((((((B1.out.set_ 11 (.int .i64 0)).set_ 12 (.int .i64 0)).set_ 5 (.int .u64 0)).set_ 7 (.int .u64 0)).set_ 6 (.int .u64 0)).set_ 8 (.slice none 0 0)).set_ 9 (.slice none 0 0))
  have F2 : Hid (Fr (fun k => k = x) w1 (((((((w1.setCell ⟨x, 11, none⟩ (.int .i64 0)).setCell ⟨x, 12, none⟩ (.int .i64 0)).setCell ⟨x, 5, none⟩ (.int .u64 0)).setCell ⟨x, 7, none⟩ (.int .u64 0)).setCell ⟨x, 6, none⟩ (.int .u64 0)).setCell ⟨x, 8, none⟩ (.slice none 0 0)).setCell ⟨x, 9, none⟩ (.slice none 0 0))) := ((((((((Fr.refl (fun k => k = x) w1).setCell (p := ⟨x, 11, none⟩) (fun _ => rfl) (.int .i64 0)).setCell (p := ⟨x, 12, none⟩) (fun _ => rfl) (.int .i64 0)).setCell (p := ⟨x, 5, none⟩) (fun _ => rfl) (.int .u64 0)).setCell (p := ⟨x, 7, none⟩) (fun _ => rfl) (.int .u64 0)).setCell (p := ⟨x, 6, none⟩) (fun _ => rfl) (.int .u64 0)).setCell (p := ⟨x, 8, none⟩) (fun _ => rfl) (.slice none 0 0)).setCell (p := ⟨x, 9, none⟩) (fun _ => rfl) (.slice none 0 0))
  refine (ask1_c _ x ⟨#[117]⟩ ⟨#[115]⟩ 1 0 0 0 0 0 0 0 5 0 none 0 0 B2.out).mono ?_
  rintro e w3 ⟨rfl, q, c, b3, r3, l3, f3⟩
  have FA : Hid (Fr (fun k => k = x) w1 w3) := F2.out.trans f3 (fun _ _ h => h)
  have HXR : Hid (x ≠ r) := by have := HX.out; have := HR.out; show _ ≠ _; omega
  have Z0 := Lib.hid (Z1.out.fr FA.out (fun e => HXR.out e.symm))
  have HQ : Hid (w1.heap.size ≤ q) := Nat.le_trans F2.out.size l3
  have HRL : Hid (r < w1.heap.size) := Z1.out.lt
  have B3 := Lib.hid b3
  have R3 := Lib.hid r3
  clear b3 r3 l3 f3 B1 B2 F2 Z1
  go_wp2_with fail
  have HSZ := Lib.hid tPulling_size
  have HON := Lib.hid (show (#[.string ⟨#[117]⟩, .string ⟨#[115]⟩, .int .u64 1, .int .u64 1, .int .i64 1, .int .u64 0, .int .u64 0, .int .u64 0, .slice none 0 0, .slice none 0 0, .int .u64 5, .int .i64 0, .int .i64 0] : Array Value).all (·.oneCell') = true by kernel_rfl)
  refine (wpIn_wide (n := 9)).1 ?_
  refine wpIn_region_factsR (ms := [0, 1, 3, 7, 0, 16, 48, 112, 15, 511, 1023]) (k := 11) (Gs r 28 #[.string ⟨#[117]⟩, .string ⟨#[115]⟩, .int .u64 1, .int .u64 1, .int .i64 1, .int .u64 0, .int .u64 0, .int .u64 0, .slice none 0 0, .slice none 0 0, .int .u64 5, .int .i64 0, .int .i64 0]) (bgR x q c r #[.string ⟨#[117]⟩, .string ⟨#[115]⟩, .int .u64 1, .int .u64 1, .int .i64 1, .int .u64 0, .int .u64 0, .int .u64 0, .slice none 0 0, .slice none 0 0, .int .u64 5, .int .i64 0, .int .i64 0]) (by kernel_rfl) (by kernel_rfl) (fun W => Gs.refl W) (fun a b c h1 h2 => h1.trans h2) (bgR_far) (lowMs_lt (by kernel_rfl)) ?walk1
  case walk1 =>
  refine factWalkR_cons (fun W hW hf K hK => ?_) (fun v0 => ?_)
  · skip
    refine ⟨by kernel_rfl, ?_⟩
    gi_step
    exact hK _ _ (Gs.refl _) rfl
  simp only [Act.put, List.setIfInBounds_toArray, List.set_cons_succ, List.set_cons_zero]
  refine factWalkR_cons (fun W hW hf K hK => ?_) (fun v1 => ?_)
  · skip
    have e0 : v0 = .pointer (some ⟨x, 0, none⟩) := hf 0 (by omega) (by kernel_rfl)
    subst e0
    refine ⟨by kernel_rfl, ?_⟩
    gi_step
    exact hK _ _ (Gs.refl _) rfl
  simp only [Act.put, List.setIfInBounds_toArray, List.set_cons_succ, List.set_cons_zero]
  refine factWalkR_cons (fun W hW hf K hK => ?_) (fun v2 => ?_)
  · skip
    have e1 : v1 = .pointer (some ⟨x, 0, none⟩) := hf 1 (by omega) (by kernel_rfl)
    subst e1
    refine ⟨by kernel_rfl, ?_⟩
    gi_step
    exact hK _ _ (Gs.refl _) rfl
  simp only [Act.put, List.setIfInBounds_toArray, List.set_cons_succ, List.set_cons_zero]
  refine factWalkR_cons (fun W hW hf K hK => ?_) (fun v3 => ?_)
  · skip
    have e2 : v2 = .pointer (some ⟨x, 0, none⟩) := hf 2 (by omega) (by kernel_rfl)
    subst e2
    have hld := load_part (P := Tryz.prog) W x (B3.out.fr (Gs.drew hW).1 HXR.out) 28 #[.string ⟨#[117]⟩, .string ⟨#[115]⟩, .int .u64 1, .int .u64 1, .int .i64 1, .int .u64 0, .int .u64 0, .int .u64 0, .slice none 0 0, .slice none 0 0, .int .u64 5, .int .i64 0, .int .i64 0] _ Tryz.underlying28 rfl rfl HSZ.out
    refine ⟨by kernel_rfl, ?_⟩
    refine operIn_load 28 _ rfl _ rfl hld ?_
    exact hK _ _ (Gs.refl _) rfl
  simp only [Act.put, List.setIfInBounds_toArray, List.set_cons_succ, List.set_cons_zero]
  refine factWalkR_cons (fun W hW hf K hK => ?_) (fun v4 => ?_)
  · skip
    refine ⟨by kernel_rfl, ?_⟩
    gi_step
    exact hK _ _ (Gs.refl _) rfl
  simp only [Act.put, List.setIfInBounds_toArray, List.set_cons_succ, List.set_cons_zero]
  refine factWalkR_cons (fun W hW hf K hK => ?_) (fun v5 => ?_)
  · skip
    have e4 : v4 = .pointer (some ⟨x, 0, none⟩) := hf 4 (by omega) (by kernel_rfl)
    subst e4
    refine ⟨by kernel_rfl, ?_⟩
    gi_step
    exact hK _ _ (Gs.refl _) rfl
  simp only [Act.put, List.setIfInBounds_toArray, List.set_cons_succ, List.set_cons_zero]
  refine factWalkR_cons (fun W hW hf K hK => ?_) (fun v6 => ?_)
  · skip
    have e5 : v5 = .pointer (some ⟨x, 0, none⟩) := hf 5 (by omega) (by kernel_rfl)
    subst e5
    refine ⟨by kernel_rfl, ?_⟩
    gi_step
    exact hK _ _ (Gs.refl _) rfl
  simp only [Act.put, List.setIfInBounds_toArray, List.set_cons_succ, List.set_cons_zero]
  refine factWalkR_cons (fun W hW hf K hK => ?_) (fun v7 => ?_)
  · skip
    have e6 : v6 = .pointer (some ⟨x, 19, none⟩) := hf 6 (by omega) (by kernel_rfl)
    subst e6
    have hbx := B3.out.fr (Gs.drew hW).1 HXR.out
    have c19 : W.cell? ⟨x, 19, none⟩ = some (.slice (some ⟨q, 0, none⟩) 1 c) := hbx.cell 19
    refine ⟨by kernel_rfl, ?_⟩
    gi_step
    exact hK _ _ (Gs.refl _) rfl
  simp only [Act.put, List.setIfInBounds_toArray, List.set_cons_succ, List.set_cons_zero]
  refine factWalkR_cons (fun W hW hf K hK => ?_) (fun v8 => ?_)
  · skip
    have e3 : v3 = .agg #[.string ⟨#[117]⟩, .string ⟨#[115]⟩, .int .u64 1, .int .u64 1, .int .i64 1, .int .u64 0, .int .u64 0, .int .u64 0, .slice none 0 0, .slice none 0 0, .int .u64 5, .int .i64 0, .int .i64 0] := hf 3 (by omega) (by kernel_rfl)
    subst e3
    obtain ⟨cs0, bz, hz⟩ := (Gs.drew hW).2.1 _ Z0.out rfl
    have hsto := run_storeAt_mid (P := Tryz.prog) W r 0 28 (#[.string ⟨#[117]⟩, .string ⟨#[115]⟩, .int .u64 1, .int .u64 1, .int .i64 1, .int .u64 0, .int .u64 0, .int .u64 0, .slice none 0 0, .slice none 0 0, .int .u64 5, .int .i64 0, .int .i64 0]) (by have h := bz.there; rw [hz] at h; exact h) HSZ.out HON.out
    refine ⟨by kernel_rfl, ?_⟩
    refine operIn_store rfl _ _ _ rfl _ _ rfl rfl hsto ?_
    exact hK undef _ (Gs.store bz hz) (bz.setAll hz.symm)
  simp only [Act.put, List.setIfInBounds_toArray, List.set_cons_succ, List.set_cons_zero]
  refine factWalkR_cons (fun W hW hf K hK => ?_) (fun v9 => ?_)
  · skip
    have e7 : v7 = .slice (some ⟨q, 0, none⟩) 1 c := hf 7 (by omega) (by kernel_rfl)
    subst e7
    refine ⟨by kernel_rfl, ?_⟩
    gi_step
    exact hK _ _ (Gs.refl _) rfl
  simp only [Act.put, List.setIfInBounds_toArray, List.set_cons_succ, List.set_cons_zero]
  refine factWalkR_cons (fun W hW hf K hK => ?_) (fun v10 => ?_)
  · skip
    refine ⟨by kernel_rfl, ?_⟩
    gi_step
    exact hK _ _ (Gs.refl _) rfl
  simp only [Act.put, List.setIfInBounds_toArray, List.set_cons_succ, List.set_cons_zero]
  refine factWalkR_nil (fun W hW hf => ?_)
  have e9 : v9 = .slice (some ⟨q, 0, none⟩) 1 c := hf 9 (by omega)
  have e10 : v10 = .int .i64 0 := hf 10 (by omega)
  have b8 : Blk W r 28 #[.string ⟨#[117]⟩, .string ⟨#[115]⟩, .int .u64 1, .int .u64 1, .int .i64 1, .int .u64 0, .int .u64 0, .int .u64 0, .slice none 0 0, .slice none 0 0, .int .u64 5, .int .i64 0, .int .i64 0] := hf 8 (by omega)
  subst e9 e10
  have gW := (Gs.drew hW).1
  have BM := Lib.hid b8
  have RW := Lib.hid (R3.out.fr gW (by rintro k ⟨ad, he, rfl⟩ hk; injection he with he; subst he; have := HQ.out; have := HRL.out; have hk' : q = r := hk; omega))
  have FW : Hid (Fr (fun _ => False) w W) := (F1.out.trans FA.out (fun k hk e => by have e' : k = x := e; have := HX.out; omega)).trans gW (fun k hk e => by have e' : k = r := e; have := HR.out; omega)
  have HQ2 : Hid (w.heap.size ≤ q) := by have := F1.out.size; have := HQ.out; show _ ≤ _; omega
  clear hf hW b8 gW
  change wpAnyIn _ _ _ _ _ _ 0 _ _ _
  refine wpAnyIn_done (by kernel_rfl) ?_ _
  try simp only [Act.put, List.setIfInBounds_toArray, List.set_cons_succ, List.set_cons_zero]
  go_wp2_with fail
  exact bodyPost_ret (results_three Tryz.results13 _ W r 28 _ _ rfl BM.out Tryz.underlying28 rfl HSZ.out) rfl ⟨q, c, rfl, RW.out, HQ2.out, FW.out⟩

end Go.Proofs.YtaenibbhpidjcaaGreatDoor
