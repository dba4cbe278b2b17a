/-
  CONTRACT of put.
-/
import Derived.Test.YtpgklhbbjbdejaaClo
import Derived.Test.YtpgklhbbjbdejaaStp
import Derived.Deep.DeepCutAuto
import Derived.Deep.CutRange
import Derived.Shelf.Abstract
import Derived.Shelf.RegionOpen
import Derived.TacticsInMore
import Derived.StillTailTactics
import Derived.Lib.EndianBits
namespace Go.Proofs.Ytpgklhbbjbdejaa
set_option linter.unusedSimpArgs false
set_option linter.unusedVariables false
open Go Go.RowKit Go.Maps

/-- An entry of the map, by its value. -/
def RH (v : Value) : Option (DataW Value × List MemPlace) := some (.held v, [])
theorem wrapi (x : Int) (h0 : 0 ≤ x) (h : x < 9223372036854775808) : IntKind.i64.wrap x = x := by
  obtain ⟨n, rfl⟩ := Int.eq_ofNat_of_zero_le h0
  exact Lib.wrap_i64_small n (by omega)
theorem K64 : Keyed Try.prog 32 := int_keyed Try.underlying32
theorem key64 {n : Nat} (h : n < 18446744073709551616) : keyOf Try.prog 32 (.int .u64 (n : Nat)) = some (.int .u64 (n : Nat)) :=
  keyOf_int_mk Try.underlying32 (by simp [Lit.wf, IntKind.min, IntKind.max, IntKind.bits, IntKind.signed]; omega)
abbrev MapI (w : World) (mb n : Nat) (D : DataW Value) : Prop := w.ownsMap Try.prog 32 RH mb n D
theorem MapI.fr {fp : Nat → Prop} {w w' : World} {mb n : Nat} {D : DataW Value} (h : MapI w mb n D) (f : Fr fp w w') (hn : ¬ fp mb) : MapI w' mb n D := by
  have hlt := h.lt
  obtain ⟨es, clock, hb, r⟩ := h
  exact ⟨es, clock, (f.block _ hlt hn).trans hb, r⟩
theorem map_ne {w : World} {g mb n : Nat} {t : TypeId} {C : Array Value} {D : DataW Value} (hB : Blk w g t C) (hO : MapI w mb n D) : g ≠ mb := by
  rintro rfl
  obtain ⟨es, clock, hb, _⟩ := hO
  unfold Blk at hB
  rw [hB] at hb
  cases hb

def puX (g mb bx last f t : Nat) (v9 : Value) (i : Nat) (v : Value) (W : World) : Prop := match i with
  | 0 => v = .pointer (some ⟨g, 0, none⟩)
  | 1 => v = .pointer (some ⟨g, 0, none⟩)
  | 2 => v = .pointer (some ⟨g, 2, none⟩)
  | 3 => v = .map (some mb)
  | 4 => v = .pointer (some ⟨g, 0, none⟩)
  | 5 => v = .pointer (some ⟨g, 0, none⟩)
  | 6 => v = .pointer (some ⟨g, 1, none⟩)
  | 7 => v = .int .u64 ((last + 1 : Nat) : Int)
  | 8 => v = .agg #[.int .i64 (f : Nat), .int .i64 (t : Nat), v9]
  | _ => True
theorem puX_far {g mb bx last f t : Nat} {v9 : Value} {i : Nat} {v : Value} {W W' : World} (hg : Fr (fun _ => False) W W') (hx : puX g mb bx last f t v9 i v W) : puX g mb bx last f t v9 i v W' := by
  match i with
  | 0 => exact hx
  | 1 => exact hx
  | 2 => exact hx
  | 3 => exact hx
  | 4 => exact hx
  | 5 => exact hx
  | 6 => exact hx
  | 7 => exact hx
  | 8 => exact hx
  | (n + 9) => exact hx
def pwX (g bx f t : Nat) (l : Int) (i : Nat) (v : Value) (W : World) : Prop := match i with
  | 0 => v = .pointer (some ⟨g, 0, none⟩)
  | 1 => v = .pointer (some ⟨bx, 0, none⟩)
  | 2 => v = .int .i64 (f : Nat)
  | 3 => v = .pointer (some ⟨bx, 1, none⟩)
  | 4 => v = .int .i64 (t : Nat)
  | 5 => v = .pointer (some ⟨g, 0, none⟩)
  | 6 => v = .pointer (some ⟨g, 3, none⟩)
  | 7 => v = .pointer (some ⟨g, 3 + f * 5, none⟩)
  | 8 => v = .pointer (some ⟨g, 3 + f * 5 + t, none⟩)
  | 9 => v = .int .i64 l
  | 10 => v = .int .i64 (l + 1)
  | 11 => v = .pointer (some ⟨g, 0, none⟩)
  | 12 => v = .pointer (some ⟨g, 3, none⟩)
  | 13 => v = .pointer (some ⟨g, 3 + f * 5, none⟩)
  | 14 => v = .pointer (some ⟨g, 3 + f * 5 + t, none⟩)
  | _ => True
theorem pwX_far {g bx f t : Nat} {l : Int} {i : Nat} {v : Value} {W W' : World} (hg : Fr (fun _ => False) W W') (hx : pwX g bx f t l i v W) : pwX g bx f t l i v W' := by
  match i with
  | 0 => exact hx
  | 1 => exact hx
  | 2 => exact hx
  | 3 => exact hx
  | 4 => exact hx
  | 5 => exact hx
  | 6 => exact hx
  | 7 => exact hx
  | 8 => exact hx
  | 9 => exact hx
  | 10 => exact hx
  | 11 => exact hx
  | 12 => exact hx
  | 13 => exact hx
  | 14 => exact hx
  | (n + 15) => exact hx
set_option maxRecDepth 100000 in
set_option maxHeartbeats 1000000 in
theorem put_c (w : World) (g mb n : Nat) (reps : Int) (last : Nat) (lk : Nat → Int) (D : DataW Value) (f t : Nat) (A : Option Addr) (m c : Nat) (bs : List UInt8)
    (hB : Blk w g 46 (netC reps last (some mb) lk)) (hO : MapI w mb n D) (hr : Rd w A m (bv bs)) (hm : m ≤ 140737488355328) (hf : f < 5) (ht : t < 5) (hlk : lk (f * 5 + t) < 32) (hlo : 0 ≤ lk (f * 5 + t)) (hla : last < 4611686018427387904) (hn : n < maxLen) :
    Calls Try.prog 32 #[.pointer (some ⟨g, 0, none⟩), .agg #[.int .i64 (f : Nat), .int .i64 (t : Nat), .slice A m c]] w fun e w' => e = .returned (.tuple #[.int .u64 ((last + 1 : Nat) : Int), .int .i64 0]) ∧
      ∃ v, w'.ownsRow w.heap.size 5 1 v m (bv bs) ∧ Blk w' g 46 (netC reps ((last + 1 : Nat) : Int) (some mb) (upd lk (f * 5 + t) (lk (f * 5 + t) + 1))) ∧
        MapI w' mb (n + 1) (D.put (.int .u64 ((last + 1 : Nat) : Int)) (.held (.agg #[.int .i64 (f : Nat), .int .i64 (t : Nat), v]))) ∧ Fr (fun k => k = g ∨ k = mb) w w' := by
  have HB := Lib.hid hB
  have HO := Lib.hid hO
  have HR := Lib.hid hr
  obtain ⟨l, hl⟩ : ∃ l, lk (f * 5 + t) = l := ⟨_, rfl⟩
  have HL := Lib.hid hl
  rw [hl] at hlk hlo ⊢
  clear hB hO hr hl
  go_enter Try.func32, Try.ntmps32
  go_wp2_with fail
  refine abs_wp (fun W => Hid (Blk W g 46 (netC reps last (some mb) lk)) ∧ Hid (Blk W w.heap.size 51 #[.int .i64 (f : Nat), .int .i64 (t : Nat), .slice A m c]) ∧ Hid (MapI W mb n D) ∧ Hid (Rd W A m (bv bs)) ∧ Hid (Fr (fun _ => False) w W)) ⟨HB.out.alloc _, Blk.new _ _ _, HO.out.fr ((Fr.refl (fun _ => False) w).alloc _) (fun h => h), HR.out.alloc _, (Fr.refl _ w).alloc _⟩ ?_
  rintro w1 ⟨B1, M1, O1, R1, F1⟩
  obtain ⟨bx, hbx⟩ : ∃ b, w.heap.size = b := ⟨_, rfl⟩
  rw [hbx] at M1 ⊢
  have HBX := Lib.hid hbx
  have HGB : Hid (g ≠ bx) := by have := HB.out.lt; show _ ≠ _; omega
  have HMB : Hid (mb ≠ bx) := by have := HO.out.lt; show _ ≠ _; omega
  clear hbx HB HO HR
  have m0 : w1.cell? ⟨bx, 0, none⟩ = some (.int .i64 (f : Nat)) := M1.out.cell 0
  have m1 : w1.cell? ⟨bx, 1, none⟩ = some (.int .i64 (t : Nat)) := M1.out.cell 1
  have g0 : w1.cell? ⟨g, 3 + f * 5 + t, none⟩ = some (.int .i64 l) := by rw [Nat.add_assoc, B1.out.cell, netC_lk _ _ _ _ _ (by omega), HL.out]
  have hf0 : (0 : Int) ≤ (f : Nat) := by omega
  have hf1 : ((f : Nat) : Int) < 5 := by omega
  have ht0 : (0 : Int) ≤ (t : Nat) := by omega
  have ht1 : ((t : Nat) : Int) < 5 := by omega
  have d32 : decide (32 ≤ l) = false := decide_eq_false (by omega)
  go_quiet (fail)
  have B2 := Lib.hid (B1.out.drewN nq)
  have M2 := Lib.hid (M1.out.drewN nq)
  have O2 := Lib.hid (O1.out.fr ((Fr.refl (fun _ => False) w1).drewN nq) (fun h => h))
  have R2 := Lib.hid (R1.out.drewN nq)
  have F2 := Lib.hid (F1.out.drewN nq)
  clear m0 m1 g0 d32 B1 M1 O1 R1 F1
  generalize w1.drewN nq = w2 at *
  have m2 : w2.cell? ⟨bx, 2, none⟩ = some (.slice A m c) := M2.out.cell 2
  go_wp2_with fail
  refine (clone_c w2 A m c bs R2.out hm).mono ?_
  rintro e w3 ⟨v, rfl, o3, f3⟩
  obtain ⟨A9, c9, rfl, h91, h92⟩ := own_slice o3
  have B3 := Lib.hid (keepB B2.out f3)
  have M3 := Lib.hid (keepB M2.out f3)
  have O3 := Lib.hid (O2.out.fr f3 (fun h => h))
  have V3 := Lib.hid (own_base (base' := w.heap.size) o3 (fun k hk => by have := (World.ownsRow.lt o3 k hk).1; have := F2.out.size; omega))
  have VB : Hid (∀ k, (Value.slice A9 m c9).ownBlock = some k → w2.heap.size ≤ k) := fun k hk => (World.ownsRow.lt o3 k hk).1
  have F3 : Hid (Fr (fun _ => False) w w3) := F2.out.trans f3 (fun _ _ h => h)
  have HLT : Hid (g < w2.heap.size ∧ mb < w2.heap.size ∧ bx < w2.heap.size) := ⟨B2.out.lt, O2.out.lt, M2.out.lt⟩
  clear o3 f3 m2 B2 M2 O2 R2 F2
  have k2 : w3.cell? ⟨bx, 2, none⟩ = some (.slice A m c) := M3.out.cell 2
  have z2 := M3.out.frozen 2
  have g1 : w3.cell? ⟨g, 1, none⟩ = some (.int .u64 (last : Nat)) := B3.out.cell 1
  have y1 := B3.out.frozen 1
  have hne : g ≠ bx := HGB.out
  have hwr : IntKind.u64.wrap ((last : Int) + 1) = ((last + 1 : Nat) : Int) := by rw [wraps_u64 _ (by omega) (by omega)]; omega
  go_wp2_with fail
  clear k2 z2 g1 y1
  refine abs_wp (fun W => Hid (Blk W g 46 (netC reps ((last + 1 : Nat) : Int) (some mb) lk)) ∧ Hid (Blk W bx 51 #[.int .i64 (f : Nat), .int .i64 (t : Nat), .slice A9 m c9]) ∧ Hid (MapI W mb n D) ∧ Hid (W.ownsRow w.heap.size 5 1 (.slice A9 m c9) m (bv bs)) ∧ Hid (Fr (fun k => k = g ∨ k = mb) w W)) ⟨?_, ?_, ?_, ?_, ?_⟩ ?_
  · have h := (B3.out.far (p := ⟨bx, 2, none⟩) hne (.slice A9 m c9)).set_ 1 (.int .u64 ((last + 1 : Nat) : Int))
    rw [netC_last] at h
    exact h
  · exact (M3.out.set_ 2 (.slice A9 m c9)).far (p := ⟨g, 1, none⟩) (Ne.symm hne) _
  · have hgm := map_ne B3.out O3.out
    exact (O3.out.fr ((Fr.refl (fun k => k = bx) w3).setCell (p := ⟨bx, 2, none⟩) (fun _ => rfl) _) HMB.out).fr ((Fr.refl (fun k => k = g) _).setCell (p := ⟨g, 1, none⟩) (fun _ => rfl) _) (fun e => hgm e.symm)
  · have h1 := own_fr V3.out ((Fr.refl (fun k => k = bx) w3).setCell (p := ⟨bx, 2, none⟩) (fun _ => rfl) (.slice A9 m c9)) (fun k hk e => by have e' : k = bx := e; have := VB.out k hk; have := HLT.out; omega)
    exact own_fr h1 ((Fr.refl (fun k => k = g) _).setCell (p := ⟨g, 1, none⟩) (fun _ => rfl) _) (fun k hk e => by have e' : k = g := e; have := VB.out k hk; have := HLT.out; omega)
  · exact ((F3.out.mono (fun _ _ h => h.elim)).setCell (p := ⟨bx, 2, none⟩) (fun h => by have := HBX.out; exact absurd h (by show ¬ bx < _; omega)) _).setCell (p := ⟨g, 1, none⟩) (fun _ => .inl rfl) _
  rintro w4 ⟨B4, M4, O4, V4, F4⟩
  clear B3 M3 O3 V3 F3 hwr
  refine (wpIn_wide (n := 9)).1 ?_
  refine wpIn_region_factsG (ms := [0, 1, 3, 7, 0, 16, 48, 112, 0, 511]) (k := 9) (Fr (fun _ => False)) (puX g mb bx last f t (.slice A9 m c9)) (fun i v W => True) (by kernel_rfl) (by kernel_rfl) (Fr.refl _ _) (fun a b c h1 h2 => h1.trans h2 (fun _ _ h => h)) (fun i v w w' hg hx => puX_far hg hx) ?walk5
  case walk5 =>
  have hdr : ∀ W, Fr (fun _ => False) w4.drew W → Fr (fun _ => False) w4 W := fun W h => ((Fr.refl (fun _ => False) w4).drew).trans h (fun _ _ h => h)
  have HDR := Lib.hid hdr
  clear hdr
  refine factWalkG_cons (fun W hW hf K hK => ?_) (fun x0 => ?_)
  · skip
    refine ⟨by kernel_rfl, ?_⟩
    gi_step
    exact hK _ _ (Fr.refl _ _) rfl trivial
  simp only [Act.put, List.setIfInBounds_toArray, List.set_cons_succ, List.set_cons_zero]
  refine factWalkG_cons (fun W hW hf K hK => ?_) (fun x1 => ?_)
  · skip
    have e0 : x0 = .pointer (some ⟨g, 0, none⟩) := hf 0 (by omega) (by kernel_rfl)
    subst e0
    refine ⟨by kernel_rfl, ?_⟩
    gi_step
    exact hK _ _ (Fr.refl _ _) rfl trivial
  simp only [Act.put, List.setIfInBounds_toArray, List.set_cons_succ, List.set_cons_zero]
  refine factWalkG_cons (fun W hW hf K hK => ?_) (fun x2 => ?_)
  · skip
    have e1 : x1 = .pointer (some ⟨g, 0, none⟩) := hf 1 (by omega) (by kernel_rfl)
    subst e1
    refine ⟨by kernel_rfl, ?_⟩
    gi_step
    exact hK _ _ (Fr.refl _ _) rfl trivial
  simp only [Act.put, List.setIfInBounds_toArray, List.set_cons_succ, List.set_cons_zero]
  refine factWalkG_cons (fun W hW hf K hK => ?_) (fun x3 => ?_)
  · skip
    have e2 : x2 = .pointer (some ⟨g, 2, none⟩) := hf 2 (by omega) (by kernel_rfl)
    subst e2
    have hg2 : W.cell? ⟨g, 2, none⟩ = some (.map (some mb)) := (keepB B4.out (HDR.out W hW)).cell 2
    refine ⟨by kernel_rfl, ?_⟩
    gi_step
    exact hK _ _ (Fr.refl _ _) rfl trivial
  simp only [Act.put, List.setIfInBounds_toArray, List.set_cons_succ, List.set_cons_zero]
  refine factWalkG_cons (fun W hW hf K hK => ?_) (fun x4 => ?_)
  · skip
    refine ⟨by kernel_rfl, ?_⟩
    gi_step
    exact hK _ _ (Fr.refl _ _) rfl trivial
  simp only [Act.put, List.setIfInBounds_toArray, List.set_cons_succ, List.set_cons_zero]
  refine factWalkG_cons (fun W hW hf K hK => ?_) (fun x5 => ?_)
  · skip
    have e4 : x4 = .pointer (some ⟨g, 0, none⟩) := hf 4 (by omega) (by kernel_rfl)
    subst e4
    refine ⟨by kernel_rfl, ?_⟩
    gi_step
    exact hK _ _ (Fr.refl _ _) rfl trivial
  simp only [Act.put, List.setIfInBounds_toArray, List.set_cons_succ, List.set_cons_zero]
  refine factWalkG_cons (fun W hW hf K hK => ?_) (fun x6 => ?_)
  · skip
    have e5 : x5 = .pointer (some ⟨g, 0, none⟩) := hf 5 (by omega) (by kernel_rfl)
    subst e5
    refine ⟨by kernel_rfl, ?_⟩
    gi_step
    exact hK _ _ (Fr.refl _ _) rfl trivial
  simp only [Act.put, List.setIfInBounds_toArray, List.set_cons_succ, List.set_cons_zero]
  refine factWalkG_cons (fun W hW hf K hK => ?_) (fun x7 => ?_)
  · skip
    have e6 : x6 = .pointer (some ⟨g, 1, none⟩) := hf 6 (by omega) (by kernel_rfl)
    subst e6
    have hg1 : W.cell? ⟨g, 1, none⟩ = some (.int .u64 ((last + 1 : Nat) : Int)) := (keepB B4.out (HDR.out W hW)).cell 1
    refine ⟨by kernel_rfl, ?_⟩
    gi_step
    exact hK _ _ (Fr.refl _ _) rfl trivial
  simp only [Act.put, List.setIfInBounds_toArray, List.set_cons_succ, List.set_cons_zero]
  refine factWalkG_cons (fun W hW hf K hK => ?_) (fun x8 => ?_)
  · skip
    have hM := keepB M4.out (HDR.out W hW)
    have q0 : W.cell? ⟨bx, 0, none⟩ = some (.int .i64 (f : Nat)) := hM.cell 0
    have q1 : W.cell? ⟨bx, 1, none⟩ = some (.int .i64 (t : Nat)) := hM.cell 1
    have q2 : W.cell? ⟨bx, 2, none⟩ = some (.slice A9 m c9) := hM.cell 2
    refine ⟨by kernel_rfl, ?_⟩
    gi_step
    exact hK _ _ (Fr.refl _ _) rfl trivial
  simp only [Act.put, List.setIfInBounds_toArray, List.set_cons_succ, List.set_cons_zero]
  refine factWalkG_nil (fun W hW hf hmet => ?_)
  have e3 : x3 = .map (some mb) := hf 3 (by omega)
  have e7 : x7 = .int .u64 ((last + 1 : Nat) : Int) := hf 7 (by omega)
  have e8 : x8 = .agg #[.int .i64 (f : Nat), .int .i64 (t : Nat), .slice A9 m c9] := hf 8 (by omega)
  subst e3 e7 e8
  have hWf := HDR.out W hW
  have OW := O4.out.fr hWf (fun h => h)
  obtain ⟨w5, hrun, o5, g5⟩ := OW.update (val := .agg #[.int .i64 (f : Nat), .int .i64 (t : Nat), .slice A9 m c9]) (d := .held (.agg #[.int .i64 (f : Nat), .int .i64 (t : Nat), .slice A9 m c9])) (ps := []) K64 Try.underlying42 hn (key64 (n := last + 1) (by omega)) rfl
  have f5 : Fr (fun k => k = mb) W w5 := (Fr.refl (fun k => k = mb) W).grown g5 (fun k e _ => by injection e with e; exact e.symm)
  have O5 := Lib.hid o5
  have hgm := map_ne B4.out O4.out
  have B5 := Lib.hid ((keepB B4.out hWf).fr f5 hgm)
  have M5 := Lib.hid ((keepB M4.out hWf).fr f5 (fun e => HMB.out e.symm))
  have V5 := Lib.hid (own_fr (own_fr V4.out hWf (fun _ _ h => h)) f5 (fun k hk e => by have e' : k = mb := e; have := VB.out k hk; have := HLT.out; omega))
  have F5 : Hid (Fr (fun k => k = g ∨ k = mb) w w5) := (F4.out.trans hWf (fun _ _ h => h.elim)).trans f5 (fun _ _ h => .inr h)
  clear hf hmet hW hWf HDR OW o5 g5 f5 B4 M4 O4 V4 F4
  change wpAnyIn _ _ _ _ _ _ 1 _ _ _
  refine wpAnyIn_ready (rs := [9]) (by kernel_rfl) (by simp) ?_
  refine AllReadyIn.cons rfl (fun K hK => ?_) AllReadyIn.nil
  refine stepIn_mapUpdate rfl 42 _ _ _ rfl _ _ _ rfl rfl rfl hrun ?_
  refine hK _ _ ?_
  clear hK K hrun
  refine wpAnyIn_done (by kernel_rfl) ?_ _
  try simp only [Act.put, List.setIfInBounds_toArray, List.set_cons_succ, List.set_cons_zero]
  go_wp2_with fail
  rename_i dd hdd
  clear hdd dd
  have HF0 := Lib.hid hf0
  have HF1 := Lib.hid hf1
  have HT0 := Lib.hid ht0
  have HT1 := Lib.hid ht1
  have HFT : Hid (f * 5 + t < 25) := by show _ < _; omega
  have HWL : Hid (IntKind.i64.wrap (l + 1) = l + 1) := wrapi _ (by omega) (by omega)
  clear hf0 hf1 ht0 ht1
  refine (wpIn_wide (n := 9)).1 ?_
  refine wpIn_region_factsG (ms := [0, 0, 2, 0, 8, 1, 33, 103, 255, 511, 1023, 1, 2049, 6151, 16383, 32767]) (k := 15) (Fr (fun _ => False)) (pwX g bx f t l) (fun i v W => True) (by kernel_rfl) (by kernel_rfl) (Fr.refl _ _) (fun a b c h1 h2 => h1.trans h2 (fun _ _ h => h)) (fun i v w w' hg hx => pwX_far hg hx) ?walk6
  case walk6 =>
  have hdr : ∀ W, Fr (fun _ => False) w5.drew W → Fr (fun _ => False) w5 W := fun W h => ((Fr.refl (fun _ => False) w5).drew).trans h (fun _ _ h => h)
  have HDR := Lib.hid hdr
  clear hdr
  refine factWalkG_cons (fun W hW hf K hK => ?_) (fun y0 => ?_)
  · skip
    refine ⟨by kernel_rfl, ?_⟩
    gi_step
    exact hK _ _ (Fr.refl _ _) rfl trivial
  simp only [Act.put, List.setIfInBounds_toArray, List.set_cons_succ, List.set_cons_zero]
  refine factWalkG_cons (fun W hW hf K hK => ?_) (fun y1 => ?_)
  · skip
    refine ⟨by kernel_rfl, ?_⟩
    gi_step
    exact hK _ _ (Fr.refl _ _) rfl trivial
  simp only [Act.put, List.setIfInBounds_toArray, List.set_cons_succ, List.set_cons_zero]
  refine factWalkG_cons (fun W hW hf K hK => ?_) (fun y2 => ?_)
  · skip
    have e1 : y1 = .pointer (some ⟨bx, 0, none⟩) := hf 1 (by omega) (by kernel_rfl)
    subst e1
    have hM := keepB M5.out (HDR.out W hW)
    have q0 : W.cell? ⟨bx, 0, none⟩ = some (.int .i64 (f : Nat)) := hM.cell 0
    refine ⟨by kernel_rfl, ?_⟩
    gi_step
    exact hK _ _ (Fr.refl _ _) rfl trivial
  simp only [Act.put, List.setIfInBounds_toArray, List.set_cons_succ, List.set_cons_zero]
  refine factWalkG_cons (fun W hW hf K hK => ?_) (fun y3 => ?_)
  · skip
    refine ⟨by kernel_rfl, ?_⟩
    gi_step
    exact hK _ _ (Fr.refl _ _) rfl trivial
  simp only [Act.put, List.setIfInBounds_toArray, List.set_cons_succ, List.set_cons_zero]
  refine factWalkG_cons (fun W hW hf K hK => ?_) (fun y4 => ?_)
  · skip
    have e3 : y3 = .pointer (some ⟨bx, 1, none⟩) := hf 3 (by omega) (by kernel_rfl)
    subst e3
    have hM := keepB M5.out (HDR.out W hW)
    have q1 : W.cell? ⟨bx, 1, none⟩ = some (.int .i64 (t : Nat)) := hM.cell 1
    refine ⟨by kernel_rfl, ?_⟩
    gi_step
    exact hK _ _ (Fr.refl _ _) rfl trivial
  simp only [Act.put, List.setIfInBounds_toArray, List.set_cons_succ, List.set_cons_zero]
  refine factWalkG_cons (fun W hW hf K hK => ?_) (fun y5 => ?_)
  · skip
    have e0 : y0 = .pointer (some ⟨g, 0, none⟩) := hf 0 (by omega) (by kernel_rfl)
    subst e0
    refine ⟨by kernel_rfl, ?_⟩
    gi_step
    exact hK _ _ (Fr.refl _ _) rfl trivial
  simp only [Act.put, List.setIfInBounds_toArray, List.set_cons_succ, List.set_cons_zero]
  refine factWalkG_cons (fun W hW hf K hK => ?_) (fun y6 => ?_)
  · skip
    have e5 : y5 = .pointer (some ⟨g, 0, none⟩) := hf 5 (by omega) (by kernel_rfl)
    subst e5
    refine ⟨by kernel_rfl, ?_⟩
    gi_step
    exact hK _ _ (Fr.refl _ _) rfl trivial
  simp only [Act.put, List.setIfInBounds_toArray, List.set_cons_succ, List.set_cons_zero]
  refine factWalkG_cons (fun W hW hf K hK => ?_) (fun y7 => ?_)
  · skip
    have e6 : y6 = .pointer (some ⟨g, 3, none⟩) := hf 6 (by omega) (by kernel_rfl)
    have e2 : y2 = .int .i64 (f : Nat) := hf 2 (by omega) (by kernel_rfl)
    subst e6 e2
    have hf0 := HF0.out
    have hf1 := HF1.out
    have ht0 := HT0.out
    have ht1 := HT1.out
    refine ⟨by kernel_rfl, ?_⟩
    gi_step
    exact hK _ _ (Fr.refl _ _) rfl trivial
  simp only [Act.put, List.setIfInBounds_toArray, List.set_cons_succ, List.set_cons_zero]
  refine factWalkG_cons (fun W hW hf K hK => ?_) (fun y8 => ?_)
  · skip
    have e7 : y7 = .pointer (some ⟨g, 3 + f * 5, none⟩) := hf 7 (by omega) (by kernel_rfl)
    have e4 : y4 = .int .i64 (t : Nat) := hf 4 (by omega) (by kernel_rfl)
    subst e7 e4
    have hf0 := HF0.out
    have hf1 := HF1.out
    have ht0 := HT0.out
    have ht1 := HT1.out
    refine ⟨by kernel_rfl, ?_⟩
    gi_step
    exact hK _ _ (Fr.refl _ _) rfl trivial
  simp only [Act.put, List.setIfInBounds_toArray, List.set_cons_succ, List.set_cons_zero]
  refine factWalkG_cons (fun W hW hf K hK => ?_) (fun y9 => ?_)
  · skip
    have e8 : y8 = .pointer (some ⟨g, 3 + f * 5 + t, none⟩) := hf 8 (by omega) (by kernel_rfl)
    subst e8
    have hG := keepB B5.out (HDR.out W hW)
    have qg : W.cell? ⟨g, 3 + f * 5 + t, none⟩ = some (.int .i64 l) := by rw [Nat.add_assoc, hG.cell, netC_lk _ _ _ _ _ HFT.out, HL.out]
    refine ⟨by kernel_rfl, ?_⟩
    gi_step
    exact hK _ _ (Fr.refl _ _) rfl trivial
  simp only [Act.put, List.setIfInBounds_toArray, List.set_cons_succ, List.set_cons_zero]
  refine factWalkG_cons (fun W hW hf K hK => ?_) (fun y10 => ?_)
  · skip
    have e9 : y9 = .int .i64 l := hf 9 (by omega) (by kernel_rfl)
    subst e9
    have hwl := HWL.out
    refine ⟨by kernel_rfl, ?_⟩
    gi_step
    exact hK _ _ (Fr.refl _ _) rfl trivial
  simp only [Act.put, List.setIfInBounds_toArray, List.set_cons_succ, List.set_cons_zero]
  refine factWalkG_cons (fun W hW hf K hK => ?_) (fun y11 => ?_)
  · skip
    have e0 : y0 = .pointer (some ⟨g, 0, none⟩) := hf 0 (by omega) (by kernel_rfl)
    subst e0
    refine ⟨by kernel_rfl, ?_⟩
    gi_step
    exact hK _ _ (Fr.refl _ _) rfl trivial
  simp only [Act.put, List.setIfInBounds_toArray, List.set_cons_succ, List.set_cons_zero]
  refine factWalkG_cons (fun W hW hf K hK => ?_) (fun y12 => ?_)
  · skip
    have e11 : y11 = .pointer (some ⟨g, 0, none⟩) := hf 11 (by omega) (by kernel_rfl)
    subst e11
    refine ⟨by kernel_rfl, ?_⟩
    gi_step
    exact hK _ _ (Fr.refl _ _) rfl trivial
  simp only [Act.put, List.setIfInBounds_toArray, List.set_cons_succ, List.set_cons_zero]
  refine factWalkG_cons (fun W hW hf K hK => ?_) (fun y13 => ?_)
  · skip
    have e12 : y12 = .pointer (some ⟨g, 3, none⟩) := hf 12 (by omega) (by kernel_rfl)
    have e2 : y2 = .int .i64 (f : Nat) := hf 2 (by omega) (by kernel_rfl)
    subst e12 e2
    have hf0 := HF0.out
    have hf1 := HF1.out
    have ht0 := HT0.out
    have ht1 := HT1.out
    refine ⟨by kernel_rfl, ?_⟩
    gi_step
    exact hK _ _ (Fr.refl _ _) rfl trivial
  simp only [Act.put, List.setIfInBounds_toArray, List.set_cons_succ, List.set_cons_zero]
  refine factWalkG_cons (fun W hW hf K hK => ?_) (fun y14 => ?_)
  · skip
    have e13 : y13 = .pointer (some ⟨g, 3 + f * 5, none⟩) := hf 13 (by omega) (by kernel_rfl)
    have e4 : y4 = .int .i64 (t : Nat) := hf 4 (by omega) (by kernel_rfl)
    subst e13 e4
    have hf0 := HF0.out
    have hf1 := HF1.out
    have ht0 := HT0.out
    have ht1 := HT1.out
    refine ⟨by kernel_rfl, ?_⟩
    gi_step
    exact hK _ _ (Fr.refl _ _) rfl trivial
  simp only [Act.put, List.setIfInBounds_toArray, List.set_cons_succ, List.set_cons_zero]
  refine factWalkG_nil (fun W hW hf hmet => ?_)
  have e10 : y10 = .int .i64 (l + 1) := hf 10 (by omega)
  have e14 : y14 = .pointer (some ⟨g, 3 + f * 5 + t, none⟩) := hf 14 (by omega)
  subst e10 e14
  have hWf := HDR.out W hW
  have B6 := Lib.hid (keepB B5.out hWf)
  have O6 := Lib.hid (MapI.fr O5.out hWf (fun h => h))
  have V6 := Lib.hid (own_fr V5.out hWf (fun _ _ h => h))
  have F6 : Hid (Fr (fun k => k = g ∨ k = mb) w W) := F5.out.trans hWf (fun _ _ h => h.elim)
  have qg : W.cell? ⟨g, 3 + f * 5 + t, none⟩ = some (.int .i64 l) := by rw [Nat.add_assoc, B6.out.cell, netC_lk _ _ _ _ _ HFT.out, HL.out]
  have zg : W.frozen? ⟨g, 3 + f * 5 + t, none⟩ = false := B6.out.frozen _
  clear hf hmet hW hWf HDR B5 O5 V5 F5 M5
  change wpAnyIn _ _ _ _ _ _ 1 _ _ _
  refine wpAnyIn_ready (rs := [15]) (by kernel_rfl) (by simp) ?_
  refine AllReadyIn.cons rfl (fun K hK => ?_) AllReadyIn.nil
  go_simp
  refine hK _ _ ?_
  refine wpAnyIn_done (by kernel_rfl) ?_ _
  clear hK K qg zg
  try simp only [Act.put, List.setIfInBounds_toArray, List.set_cons_succ, List.set_cons_zero]
  have B7 := B6.out.set_ (3 + (f * 5 + t)) (.int .i64 (l + 1))
  rw [netC_upd _ _ _ _ _ _ HFT.out, ← Nat.add_assoc] at B7
  have B7h := Lib.hid B7
  have g1 : (W.setCell ⟨g, 3 + f * 5 + t, none⟩ (.int .i64 (l + 1))).cell? ⟨g, 1, none⟩ = some (.int .u64 ((last + 1 : Nat) : Int)) := B7.cell 1
  have fs : Fr (fun k => k = g) W (W.setCell ⟨g, 3 + f * 5 + t, none⟩ (.int .i64 (l + 1))) := (Fr.refl (fun k => k = g) W).setCell (p := ⟨g, 3 + f * 5 + t, none⟩) (fun _ => rfl) _
  have O7 := Lib.hid (MapI.fr O6.out fs (fun e => hgm e.symm))
  have V7 := Lib.hid (own_fr V6.out fs (fun k hk e => by have e' : k = g := e; have := VB.out k hk; have := HLT.out; omega))
  have F7 : Hid (Fr (fun k => k = g ∨ k = mb) w (W.setCell ⟨g, 3 + f * 5 + t, none⟩ (.int .i64 (l + 1)))) := F6.out.trans fs (fun _ _ h => .inl h)
  clear B7 fs B6 O6 V6 F6
  generalize W.setCell ⟨g, 3 + f * 5 + t, none⟩ (.int .i64 (l + 1)) = w7 at *
  go_wp2_with fail
  go_ret2
  exact ⟨rfl, _, V7.out, B7h.out, O7.out, F7.out⟩
end Go.Proofs.Ytpgklhbbjbdejaa
