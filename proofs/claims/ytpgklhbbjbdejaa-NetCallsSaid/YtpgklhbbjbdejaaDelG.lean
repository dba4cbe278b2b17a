/-
  CONTRACT of Deliver.
-/
import Derived.Test.YtpgklhbbjbdejaaPutG
import Derived.Test.YtpgklhbbjbdejaaDel
namespace Go.Proofs.Ytpgklhbbjbdejaa
set_option linter.unusedSimpArgs false
set_option linter.unusedVariables false
open Go Go.RowKit Go.Maps

set_option maxRecDepth 100000 in
set_option maxHeartbeats 1000000 in
theorem deliver_g (w : World) (g mb n : Nat) (reps last : Int) (lk : Nat → Int) (D : DataW Value) (id : Nat) (f t : Nat) (A : Option Addr) (m c : Nat) (bs : List UInt8)
    (hB : Blk w g 46 (netC reps last (some mb) lk)) (hO : MapI w mb n D) (hid : id < 18446744073709551616)
    (hv : D.atKey (.int .u64 (id : Nat)) (.held zM) = .held (.agg #[.int .i64 (f : Nat), .int .i64 (t : Nat), .slice A m c])) (hh : Maps.has D (.int .u64 (id : Nat)) = true)
    (hr : Rd w A m (bv bs)) (hm : m ≤ 140737488355328) (hf : f < 5) (ht : t < 5) (hlk : -4611686018427387904 ≤ lk (f * 5 + t)) (hlo : lk (f * 5 + t) ≤ 4611686018427387904) :
    Calls Try.prog 16 #[.pointer (some ⟨g, 0, none⟩), .int .u64 (id : Nat)] w fun e w' => ∃ v, e = .returned (.tuple #[.agg #[.int .i64 (f : Nat), .int .i64 (t : Nat), v], .int .i64 0]) ∧
      w'.ownsRow w.heap.size 5 1 v m (bv bs) ∧ Blk w' g 46 (netC reps last (some mb) (upd lk (f * 5 + t) (lk (f * 5 + t) - 1))) ∧ MapI w' mb n (D.del (.int .u64 (id : Nat))) ∧ Fr (fun k => k = g ∨ k = mb) w w' := by
  have HB := Lib.hid hB
  have HO := Lib.hid hO
  have HA : Hid (∀ W, Fr (fun _ => False) w W → Calls Try.prog 18 #[.pointer (some ⟨g, 0, none⟩), .int .u64 (id : Nat)] W fun e w' => ∃ v, e = .returned (.tuple #[.agg #[.int .i64 (f : Nat), .int .i64 (t : Nat), v], .int .i64 0]) ∧ w'.ownsRow W.heap.size 5 1 v m (bv bs) ∧ Fr (fun _ => False) W w') :=
    fun W hW => at_of W _ _ _ _ _ A m c bs (hr.far hW) hm (fun W' hW' => find_yes W' g mb n reps last lk D id _ _ A m c (keepB (keepB hB hW) hW') (MapI.fr (MapI.fr hO hW (fun h => h)) hW' (fun h => h)) hid hv hh)
  have HK := Lib.hid (key64 hid)
  have hgm := map_ne hB hO
  obtain ⟨l, hl⟩ : ∃ l, lk (f * 5 + t) = l := ⟨_, rfl⟩
  have HL := Lib.hid hl
  rw [hl] at hlk hlo ⊢
  have HMBW : Hid (mb < w.heap.size ∧ g < w.heap.size) := ⟨World.ownsMap.lt hO, hB.lt⟩
  clear hB hO hr hl hv hh
  go_enter Try.func16, Try.ntmps16
  go_wp2_with fail
  refine abs_calls (fun W => Hid (Blk W g 46 (netC reps last (some mb) lk)) ∧ Hid (Blk W w.heap.size 51 #[.int .i64 0, .int .i64 0, .slice none 0 0]) ∧ Hid (MapI W mb n D) ∧ Hid (Fr (fun _ => False) w W)) ⟨HB.out.alloc _, Blk.new _ _ _, HO.out.fr ((Fr.refl (fun _ => False) w).alloc _) (fun h => h), (Fr.refl _ w).alloc _⟩ ?_
  rintro w1 ⟨B1, Z1, O1, F1⟩
  clear HB HO
  refine (HA.out w1 F1.out).mono ?_
  rintro e w2 ⟨v, rfl, o2, f2⟩
  obtain ⟨A9, c9, rfl, h91, h92⟩ := own_slice o2
  have B2 := Lib.hid (keepB B1.out f2)
  have Z2 := Lib.hid (keepB Z1.out f2)
  have O2 := Lib.hid (MapI.fr O1.out f2 (fun h => h))
  have VB : Hid (∀ k, (Value.slice A9 m c9).ownBlock = some k → w.heap.size < k) := fun k hk => by have := (World.ownsRow.lt o2 k hk).1; have := Z1.out.lt; omega
  have V2 := Lib.hid (own_base (base' := w.heap.size) o2 (fun k hk => by have := (World.ownsRow.lt o2 k hk).1; have := F1.out.size; omega))
  have F2 : Hid (Fr (fun _ => False) w w2) := F1.out.trans f2 (fun _ _ h => h)
  have VL : Hid (∀ k, (Value.slice A9 m c9).ownBlock = some k → k < w2.heap.size) := fun k hk => (World.ownsRow.lt o2 k hk).2
  clear o2 f2 B1 Z1 O1 F1 HA
  have g2 : (w2.alloc (.cells #[.int .i64 (f : Nat), .int .i64 (t : Nat), .slice A9 m c9] 51)).cell? ⟨g, 2, none⟩ = some (.map (some mb)) := (B2.out.alloc _).cell 2
  go_wp2_with (at_delete
               refine wpList_delete_own _ rfl _ _ 42 32 rfl 51 K64 Try.underlying42 RH mb n D rfl (MapI.fr O2.out ((Fr.refl (fun _ => False) w2).alloc _) (fun h => h)) _ _ rfl HK.out ?_
               rintro w3 o3 t3
               have O3 : Hid (MapI w3 mb n (D.del (.int .u64 (id : Nat)))) := o3
               have f3 : Fr (fun k => k = mb) (w2.alloc (.cells #[.int .i64 (f : Nat), .int .i64 (t : Nat), .slice A9 m c9] 51)) w3 := (Fr.refl (fun k => k = mb) _).grown t3.grown (fun k e _ => by injection e with e; exact e.symm)
               have B5 := Lib.hid ((B2.out.alloc (.cells #[.int .i64 (f : Nat), .int .i64 (t : Nat), .slice A9 m c9] 51)).fr f3 hgm)
               have M5 := Lib.hid ((Blk.new w2 51 #[.int .i64 (f : Nat), .int .i64 (t : Nat), .slice A9 m c9]).fr f3 (fun e => by have e' : w2.heap.size = mb := e; have := O2.out.lt; omega))
               have Z5 := Lib.hid ((Z2.out.alloc (.cells #[.int .i64 (f : Nat), .int .i64 (t : Nat), .slice A9 m c9] 51)).fr f3 (fun e => by have e' : w.heap.size = mb := e; have := HMBW.out; omega))
               have V5 := Lib.hid (own_fr (own_fr V2.out ((Fr.refl (fun _ => False) w2).alloc (.cells #[.int .i64 (f : Nat), .int .i64 (t : Nat), .slice A9 m c9] 51)) (fun _ _ h => h)) f3 (fun k hk e => by have e' : k = mb := e; have := VB.out k hk; have := HMBW.out; omega))
               have F5 : Hid (Fr (fun k => k = g ∨ k = mb) w w3) := ((F2.out.mono (fun _ _ h => h.elim)).alloc _).trans f3 (fun _ _ h => .inr h)
               clear o3 t3 f3 g2)
  try simp only [Act.put, List.setIfInBounds_toArray, List.set_cons_succ, List.set_cons_zero]
  obtain ⟨bx, hbx⟩ : ∃ b, w2.heap.size = b := ⟨_, rfl⟩
  rw [hbx] at M5 ⊢
  have HBX : Hid (w.heap.size < bx) := by have := Z2.out.lt; show _ < _; omega
  have HGX : Hid (g ≠ bx) := by have := B2.out.lt; show _ ≠ _; omega
  have HVX : Hid (∀ k, (Value.slice A9 m c9).ownBlock = some k → k < bx) := fun k hk => by have := VL.out k hk; omega
  clear hbx B2 Z2 O2 V2 F2 VL HK
  have hf0 : (0 : Int) ≤ (f : Nat) := by omega
  have hf1 : ((f : Nat) : Int) < 5 := by omega
  have ht0 : (0 : Int) ≤ (t : Nat) := by omega
  have ht1 : ((t : Nat) : Int) < 5 := by omega
  have HF0 := Lib.hid hf0
  have HF1 := Lib.hid hf1
  have HT0 := Lib.hid ht0
  have HT1 := Lib.hid ht1
  have HFT : Hid (f * 5 + t < 25) := by show _ < _; omega
  have HWL : Hid (IntKind.i64.wrap (l - 1) = l - 1) := wrapz _ (by omega) (by omega)
  clear hf0 hf1 ht0 ht1
  refine (wpIn_wide (n := 9)).1 ?_
  refine wpIn_region_factsG (ms := [0, 0, 2, 0, 8, 1, 33, 103, 255, 511, 1023, 1, 2049, 6151, 16383, 32767]) (k := 15) (Fr (fun _ => False)) (pdX g bx f t l) (fun i v W => True) (by kernel_rfl) (by kernel_rfl) (Fr.refl _ _) (fun a b c h1 h2 => h1.trans h2 (fun _ _ h => h)) (fun i v w w' hg hx => pdX_far hg hx) ?walk6
  case walk6 =>
  have hdr : ∀ W, Fr (fun _ => False) w3.drew W → Fr (fun _ => False) w3 W := fun W h => ((Fr.refl (fun _ => False) w3).drew).trans h (fun _ _ h => h)
  have HDR := Lib.hid hdr
  clear hdr
  refine factWalkG_cons (fun W hW hf K hK => ?_) (fun y0 => ?_)
  · skip
    refine ⟨by kernel_rfl, ?_⟩
    gi_step
    exact hK _ _ (Fr.refl _ _) rfl trivial
  simp only [Act.put, List.setIfInBounds_toArray, List.set_cons_succ, List.set_cons_zero]
  refine factWalkG_cons (fun W hW hf K hK => ?_) (fun y1 => ?_)
  · skip
    refine ⟨by kernel_rfl, ?_⟩
    gi_step
    exact hK _ _ (Fr.refl _ _) rfl trivial
  simp only [Act.put, List.setIfInBounds_toArray, List.set_cons_succ, List.set_cons_zero]
  refine factWalkG_cons (fun W hW hf K hK => ?_) (fun y2 => ?_)
  · skip
    have e1 : y1 = .pointer (some ⟨bx, 0, none⟩) := hf 1 (by omega) (by kernel_rfl)
    subst e1
    have hM := keepB M5.out (HDR.out W hW)
    have q0 : W.cell? ⟨bx, 0, none⟩ = some (.int .i64 (f : Nat)) := hM.cell 0
    refine ⟨by kernel_rfl, ?_⟩
    gi_step
    exact hK _ _ (Fr.refl _ _) rfl trivial
  simp only [Act.put, List.setIfInBounds_toArray, List.set_cons_succ, List.set_cons_zero]
  refine factWalkG_cons (fun W hW hf K hK => ?_) (fun y3 => ?_)
  · skip
    refine ⟨by kernel_rfl, ?_⟩
    gi_step
    exact hK _ _ (Fr.refl _ _) rfl trivial
  simp only [Act.put, List.setIfInBounds_toArray, List.set_cons_succ, List.set_cons_zero]
  refine factWalkG_cons (fun W hW hf K hK => ?_) (fun y4 => ?_)
  · skip
    have e3 : y3 = .pointer (some ⟨bx, 1, none⟩) := hf 3 (by omega) (by kernel_rfl)
    subst e3
    have hM := keepB M5.out (HDR.out W hW)
    have q1 : W.cell? ⟨bx, 1, none⟩ = some (.int .i64 (t : Nat)) := hM.cell 1
    refine ⟨by kernel_rfl, ?_⟩
    gi_step
    exact hK _ _ (Fr.refl _ _) rfl trivial
  simp only [Act.put, List.setIfInBounds_toArray, List.set_cons_succ, List.set_cons_zero]
  refine factWalkG_cons (fun W hW hf K hK => ?_) (fun y5 => ?_)
  · skip
    have e0 : y0 = .pointer (some ⟨g, 0, none⟩) := hf 0 (by omega) (by kernel_rfl)
    subst e0
    refine ⟨by kernel_rfl, ?_⟩
    gi_step
    exact hK _ _ (Fr.refl _ _) rfl trivial
  simp only [Act.put, List.setIfInBounds_toArray, List.set_cons_succ, List.set_cons_zero]
  refine factWalkG_cons (fun W hW hf K hK => ?_) (fun y6 => ?_)
  · skip
    have e5 : y5 = .pointer (some ⟨g, 0, none⟩) := hf 5 (by omega) (by kernel_rfl)
    subst e5
    refine ⟨by kernel_rfl, ?_⟩
    gi_step
    exact hK _ _ (Fr.refl _ _) rfl trivial
  simp only [Act.put, List.setIfInBounds_toArray, List.set_cons_succ, List.set_cons_zero]
  refine factWalkG_cons (fun W hW hf K hK => ?_) (fun y7 => ?_)
  · skip
    have e6 : y6 = .pointer (some ⟨g, 3, none⟩) := hf 6 (by omega) (by kernel_rfl)
    have e2 : y2 = .int .i64 (f : Nat) := hf 2 (by omega) (by kernel_rfl)
    subst e6 e2
    have hf0 := HF0.out
    have hf1 := HF1.out
    have ht0 := HT0.out
    have ht1 := HT1.out
    refine ⟨by kernel_rfl, ?_⟩
    gi_step
    exact hK _ _ (Fr.refl _ _) rfl trivial
  simp only [Act.put, List.setIfInBounds_toArray, List.set_cons_succ, List.set_cons_zero]
  refine factWalkG_cons (fun W hW hf K hK => ?_) (fun y8 => ?_)
  · skip
    have e7 : y7 = .pointer (some ⟨g, 3 + f * 5, none⟩) := hf 7 (by omega) (by kernel_rfl)
    have e4 : y4 = .int .i64 (t : Nat) := hf 4 (by omega) (by kernel_rfl)
    subst e7 e4
    have hf0 := HF0.out
    have hf1 := HF1.out
    have ht0 := HT0.out
    have ht1 := HT1.out
    refine ⟨by kernel_rfl, ?_⟩
    gi_step
    exact hK _ _ (Fr.refl _ _) rfl trivial
  simp only [Act.put, List.setIfInBounds_toArray, List.set_cons_succ, List.set_cons_zero]
  refine factWalkG_cons (fun W hW hf K hK => ?_) (fun y9 => ?_)
  · skip
    have e8 : y8 = .pointer (some ⟨g, 3 + f * 5 + t, none⟩) := hf 8 (by omega) (by kernel_rfl)
    subst e8
    have hG := keepB B5.out (HDR.out W hW)
    have qg : W.cell? ⟨g, 3 + f * 5 + t, none⟩ = some (.int .i64 l) := by rw [Nat.add_assoc, hG.cell, netC_lk _ _ _ _ _ HFT.out, HL.out]
    refine ⟨by kernel_rfl, ?_⟩
    gi_step
    exact hK _ _ (Fr.refl _ _) rfl trivial
  simp only [Act.put, List.setIfInBounds_toArray, List.set_cons_succ, List.set_cons_zero]
  refine factWalkG_cons (fun W hW hf K hK => ?_) (fun y10 => ?_)
  · skip
    have e9 : y9 = .int .i64 l := hf 9 (by omega) (by kernel_rfl)
    subst e9
    have hwl := HWL.out
    refine ⟨by kernel_rfl, ?_⟩
    gi_step
    exact hK _ _ (Fr.refl _ _) rfl trivial
  simp only [Act.put, List.setIfInBounds_toArray, List.set_cons_succ, List.set_cons_zero]
  refine factWalkG_cons (fun W hW hf K hK => ?_) (fun y11 => ?_)
  · skip
    have e0 : y0 = .pointer (some ⟨g, 0, none⟩) := hf 0 (by omega) (by kernel_rfl)
    subst e0
    refine ⟨by kernel_rfl, ?_⟩
    gi_step
    exact hK _ _ (Fr.refl _ _) rfl trivial
  simp only [Act.put, List.setIfInBounds_toArray, List.set_cons_succ, List.set_cons_zero]
  refine factWalkG_cons (fun W hW hf K hK => ?_) (fun y12 => ?_)
  · skip
    have e11 : y11 = .pointer (some ⟨g, 0, none⟩) := hf 11 (by omega) (by kernel_rfl)
    subst e11
    refine ⟨by kernel_rfl, ?_⟩
    gi_step
    exact hK _ _ (Fr.refl _ _) rfl trivial
  simp only [Act.put, List.setIfInBounds_toArray, List.set_cons_succ, List.set_cons_zero]
  refine factWalkG_cons (fun W hW hf K hK => ?_) (fun y13 => ?_)
  · skip
    have e12 : y12 = .pointer (some ⟨g, 3, none⟩) := hf 12 (by omega) (by kernel_rfl)
    have e2 : y2 = .int .i64 (f : Nat) := hf 2 (by omega) (by kernel_rfl)
    subst e12 e2
    have hf0 := HF0.out
    have hf1 := HF1.out
    have ht0 := HT0.out
    have ht1 := HT1.out
    refine ⟨by kernel_rfl, ?_⟩
    gi_step
    exact hK _ _ (Fr.refl _ _) rfl trivial
  simp only [Act.put, List.setIfInBounds_toArray, List.set_cons_succ, List.set_cons_zero]
  refine factWalkG_cons (fun W hW hf K hK => ?_) (fun y14 => ?_)
  · skip
    have e13 : y13 = .pointer (some ⟨g, 3 + f * 5, none⟩) := hf 13 (by omega) (by kernel_rfl)
    have e4 : y4 = .int .i64 (t : Nat) := hf 4 (by omega) (by kernel_rfl)
    subst e13 e4
    have hf0 := HF0.out
    have hf1 := HF1.out
    have ht0 := HT0.out
    have ht1 := HT1.out
    refine ⟨by kernel_rfl, ?_⟩
    gi_step
    exact hK _ _ (Fr.refl _ _) rfl trivial
  simp only [Act.put, List.setIfInBounds_toArray, List.set_cons_succ, List.set_cons_zero]
  refine factWalkG_nil (fun W hW hf hmet => ?_)
  have e10 : y10 = .int .i64 (l - 1) := hf 10 (by omega)
  have e14 : y14 = .pointer (some ⟨g, 3 + f * 5 + t, none⟩) := hf 14 (by omega)
  subst e10 e14
  have hWf := HDR.out W hW
  have B6 := Lib.hid (keepB B5.out hWf)
  have M6 := Lib.hid (keepB M5.out hWf)
  have Z6 := Lib.hid (keepB Z5.out hWf)
  have O6 := Lib.hid (MapI.fr O3.out hWf (fun h => h))
  have V6 := Lib.hid (own_fr V5.out hWf (fun _ _ h => h))
  have F6 : Hid (Fr (fun k => k = g ∨ k = mb) w W) := F5.out.trans hWf (fun _ _ h => h.elim)
  have qg : W.cell? ⟨g, 3 + f * 5 + t, none⟩ = some (.int .i64 l) := by rw [Nat.add_assoc, B6.out.cell, netC_lk _ _ _ _ _ HFT.out, HL.out]
  have zg : W.frozen? ⟨g, 3 + f * 5 + t, none⟩ = false := B6.out.frozen _
  clear hf hmet hW hWf HDR B5 O3 V5 F5 M5 Z5
  change wpAnyIn _ _ _ _ _ _ 1 _ _ _
  refine wpAnyIn_ready (rs := [15]) (by kernel_rfl) (by simp) ?_
  refine AllReadyIn.cons rfl (fun K hK => ?_) AllReadyIn.nil
  go_simp
  refine hK _ _ ?_
  refine wpAnyIn_done (by kernel_rfl) ?_ _
  clear hK K qg zg
  try simp only [Act.put, List.setIfInBounds_toArray, List.set_cons_succ, List.set_cons_zero]
  have B7 := B6.out.set_ (3 + (f * 5 + t)) (.int .i64 (l - 1))
  rw [netC_upd _ _ _ _ _ _ HFT.out, ← Nat.add_assoc] at B7
  have B7h := Lib.hid B7
  have fs : Fr (fun k => k = g) W (W.setCell ⟨g, 3 + f * 5 + t, none⟩ (.int .i64 (l - 1))) := (Fr.refl (fun k => k = g) W).setCell (p := ⟨g, 3 + f * 5 + t, none⟩) (fun _ => rfl) _
  have M7 := Lib.hid (M6.out.fr fs (fun e => HGX.out e.symm))
  have Z7 := Lib.hid (Z6.out.fr fs (fun e => by have e' : w.heap.size = g := e; have := HMBW.out; omega))
  have O7 := Lib.hid (MapI.fr O6.out fs (fun e => hgm e.symm))
  have V7 := Lib.hid (own_fr V6.out fs (fun k hk e => by have e' : k = g := e; have := VB.out k hk; have := HMBW.out; omega))
  have F7 : Hid (Fr (fun k => k = g ∨ k = mb) w (W.setCell ⟨g, 3 + f * 5 + t, none⟩ (.int .i64 (l - 1)))) := F6.out.trans fs (fun _ _ h => .inl h)
  clear B7 fs B6 O6 V6 F6 M6 Z6
  generalize W.setCell ⟨g, 3 + f * 5 + t, none⟩ (.int .i64 (l - 1)) = w7 at *
  go_wp2_with (first
    | (refine wpList_load_all rfl 51 _ rfl bx rfl M7.out _ Try.underlying51 rfl tMsg_size ?_)
    | (refine wpList_store_blk rfl 51 _ _ rfl w.heap.size _ rfl rfl Z7.out rfl tMsg_size (by first | rfl | kernel_rfl) ?_
       rintro W8 b f8
       have BW := Lib.hid b
       have FW : Hid (Fr (fun k => k = g ∨ k = mb) w W8) := F7.out.trans f8 (fun k hk e => by have e' : k = w.heap.size := e; omega)
       have VW := Lib.hid (own_fr V7.out f8 (fun k hk e => by have e' : k = w.heap.size := e; have := VB.out k hk; omega))
       have NW := Lib.hid (B7h.out.fr f8 (fun e => by have e' : g = w.heap.size := e; have := HMBW.out; omega))
       have OW := Lib.hid (MapI.fr O7.out f8 (fun e => by have e' : mb = w.heap.size := e; have := HMBW.out; omega))
       clear b f8))
  exact bodyPost_ret (results_two Try.results16 _ W8 w.heap.size 51 _ _ rfl BW.out Try.underlying51 rfl tMsg_size) rfl ⟨_, rfl, VW.out, NW.out, OW.out, FW.out⟩
end Go.Proofs.Ytpgklhbbjbdejaa
