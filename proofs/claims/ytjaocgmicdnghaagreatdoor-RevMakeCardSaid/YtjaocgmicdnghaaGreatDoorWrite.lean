/-
  CONTRACT of digest's Write.
-/
import Derived.Test.YtjaocgmicdnghaaGreatDoorSmall
import Derived.Test.YtjaocgmicdnghaaGreatDoorPar
namespace Go.Proofs.YtjaocgmicdnghaaGreatDoor
set_option linter.unusedSimpArgs false
set_option linter.unusedVariables false
open Go Go.RowKit

theorem wds_take {l : List UInt8} : wds (l.take 64) = wds l := by
  unfold wds
  apply List.map_congr_left
  intro j hj
  have := List.mem_range.1 hj
  unfold wd
  rw [List.getElem?_take_of_lt (by omega), List.getElem?_take_of_lt (by omega), List.getElem?_take_of_lt (by omega), List.getElem?_take_of_lt (by omega)]

theorem dc_set9 (H : List Nat) (R : Value) (N M : Nat) (S : Int) : (dc H R N S).setIfInBounds 9 (.int .u64 (M : Int)) = dc H R M S := rfl
theorem dc_set8 (H : List Nat) (R Q : Value) (N : Nat) (S : Int) : (dc H R N S).setIfInBounds 8 Q = dc H Q N S := rfl
theorem dc_setH (H M : List Nat) (R : Value) (N : Nat) (S : Int) : ((((((((dc H R N S).setIfInBounds 0 (.int .u32 (at_ M 0 : Nat))).setIfInBounds 1 (.int .u32 (at_ M 1 : Nat))).setIfInBounds 2 (.int .u32 (at_ M 2 : Nat))).setIfInBounds 3 (.int .u32 (at_ M 3 : Nat))).setIfInBounds 4 (.int .u32 (at_ M 4 : Nat))).setIfInBounds 5 (.int .u32 (at_ M 5 : Nat))).setIfInBounds 6 (.int .u32 (at_ M 6 : Nat))).setIfInBounds 7 (.int .u32 (at_ M 7 : Nat)) = dc M R N S := by simp [dc]

set_option maxRecDepth 100000 in
set_option maxHeartbeats 1000000 in
theorem write_c (w : World) (H : List Nat) (R : Option Addr) (rn rc : Nat) (r : List UInt8) (N : Nat) (S : Int) (A : Option Addr) (n c : Nat) (b : List UInt8) (hH : Ws 8 H) (hR : Rd w R rn (bv r)) (hrc : rn ≤ rc ∧ rc ≤ maxLen) (hA : Rd w A n (bv b)) (hnc : n ≤ c ∧ c ≤ maxLen) (hN : N < 18446744073709551616) (hl : r.length + b.length ≤ 1000000000000) (hT : Tabs w) :
    Calls Tryz.prog 52 #[.agg (dc H (.slice R rn rc) N S), .slice A n c] w fun e w' => ∃ v, e = .returned (.agg (dc (wrL H N (r ++ b)).1 v (wrL H N (r ++ b)).2.1 S)) ∧ w'.ownsRow w.heap.size 5 1 v (wrL H N (r ++ b)).2.2.length (bv (wrL H N (r ++ b)).2.2) ∧ Fr (fun _ => False) w w' := by
  have HR := Lib.hid hR
  have HA := Lib.hid hA
  have HH := Lib.hid hH
  have HN := Lib.hid hN
  have HL := Lib.hid hl
  have HT := Lib.hid hT
  clear hR hA hH hN hl hT
  have q0 := Blk.new w 79 (dc H (.slice R rn rc) N S)
  have q1 := Blk.new (w.alloc (.cells (dc H (.slice R rn rc) N S) 79)) 79 (dc [] (.slice none 0 0) 0 0)
  have q2 := Blk.new ((w.alloc (.cells (dc H (.slice R rn rc) N S) 79)).alloc (.cells (dc [] (.slice none 0 0) 0 0) 79)) 43 #[.slice R rn rc, .slice A n c]
  have fa := (((Fr.refl (fun _ => False) w).alloc (.cells (dc H (.slice R rn rc) N S) 79)).alloc (.cells (dc [] (.slice none 0 0) 0 0) 79)).alloc (.cells #[.slice R rn rc, .slice A n c] 43)
  have hs0 : (((w.alloc (.cells (dc H (.slice R rn rc) N S) 79)).alloc (.cells (dc [] (.slice none 0 0) 0 0) 79)).alloc (.cells #[.slice R rn rc, .slice A n c] 43)).heap.size = w.heap.size + 3 := by simp
  rw [World.size_alloc] at q1 q2
  rw [World.size_alloc] at q2
  have q0 := (q0.alloc (.cells (dc [] (.slice none 0 0) 0 0) 79)).alloc (.cells #[.slice R rn rc, .slice A n c] 43)
  have q1 := q1.alloc (.cells #[.slice R rn rc, .slice A n c] 43)
  have hrr := HR.out.far fa
  have hra := HA.out.far fa
  have hrl : r.length = rn := by rw [← bv_length]; exact hrr.1
  have hbl : b.length = n := by rw [← bv_length]; exact hra.1
  have hrdb : RdB (((w.alloc (.cells (dc H (.slice R rn rc) N S) 79)).alloc (.cells (dc [] (.slice none 0 0) 0 0) 79)).alloc (.cells #[.slice R rn rc, .slice A n c] 43)) (some ⟨w.heap.size + 1 + 1, 0, none⟩) 2 [r, b] := by
    refine ⟨rfl, fun _ => ⟨_, _, rfl, fun i hi => ?_⟩⟩
    have hi2 : i = 0 ∨ i = 1 := by simp at hi; omega
    rcases hi2 with rfl | rfl
    · refine ⟨R, rc, ?_, ?_, ?_, hrc.2⟩
      · rw [q2.cell]; show some (Value.slice R rn rc) = _; rw [← hrl]; rfl
      · show Rd _ R r.length (bv r); rw [hrl]; exact hrr
      · show r.length ≤ rc; rw [hrl]; exact hrc.1
    · refine ⟨A, c, ?_, ?_, ?_, hnc.2⟩
      · rw [q2.cell]; show some (Value.slice A n c) = _; rw [← hbl]; rfl
      · show Rd _ A b.length (bv b); rw [hbl]; exact hra
      · show b.length ≤ c; rw [hbl]; exact hnc.1
  have Q0 := Lib.hid q0
  have Q1 := Lib.hid q1
  have FA := Lib.hid fa
  have HRB := Lib.hid hrdb
  have HS0 := Lib.hid hs0
  clear q0 q1 q2 fa hrr hra hrl hbl hrdb hs0
  unfold dc
  go_enter Tryz.func52, Tryz.ntmps52
  go_wp2_with fail
  have hcc := concat_c _ _ 2 2 _ HRB.out (by omega) (by have := HL.out; simp; omega)
  rw [HS0.out] at hcc
  refine hcc.mono ?_
  clear hcc
  rintro e w1 ⟨v1, rfl, o1, f1⟩
  have e1 : [r, b].flatten = r ++ b := by simp
  rw [e1] at o1
  have hall : (r ++ b).length ≤ 1000000000000 := by rw [List.length_append]; exact HL.out
  obtain ⟨l, hl⟩ : ∃ l, r ++ b = l := ⟨_, rfl⟩
  rw [hl] at o1 hall
  obtain ⟨A1, c1, rfl, hc1, hc2⟩ := own_slice o1
  have hin1 : ∀ q, inA A1 q → w.heap.size + 3 ≤ q := by
    intro q hq
    obtain ⟨ad, rfl, rfl⟩ := hq
    exact (o1.lt ad.block rfl).1
  have hr1 := Rd.of_own o1
  have hb0 := Q0.out.fr f1 (fun h => h)
  have hb1 := Q1.out.fr f1 (fun h => h)
  have hf1 := FA.out.trans f1 (fun _ _ h => h)
  have HI1 := Lib.hid hin1
  have HR1 := Lib.hid hr1
  have HB0 := Lib.hid hb0
  have HB1 := Lib.hid hb1
  have HF1 := Lib.hid hf1
  have HLL := Lib.hid hl
  have hs1 : w.heap.size + 3 ≤ w1.heap.size := by have := f1.size; rw [HS0.out] at this; exact this
  clear o1 hin1 hr1 hb0 hb1 hf1 f1 Q0 Q1 FA HRB HS0 hl e1
  go_wp2_with fail
  go_loopw [5] (fun u wr => ∃ (H1 : List Nat) (N1 : Nat) (r1 : List UInt8) (A1 : Option Addr) (n1 c1 : Nat), u = .slice A1 n1 c1 ∧ n1 ≤ c1 ∧ n1 ≤ 1000000000000 ∧ Hid (c1 ≤ maxLen) ∧ Hid (Rd wr A1 n1 (bv r1)) ∧ Hid (∀ q, inA A1 q → w.heap.size + 3 ≤ q) ∧ Hid (Ws 8 H1) ∧ Hid (N1 < 18446744073709551616) ∧ Hid (wrL H1 N1 r1 = wrL H N l) ∧ Hid (Blk wr w.heap.size 79 (dc H1 (.slice R rn rc) N1 S)) ∧ Hid (Fr (fun k => k = w.heap.size) w1 wr)) (fun u _ => match u with | .slice _ n _ => n | _ => 0)
  case atStart => exact ⟨H, N, l, A1, _, c1, rfl, hc1, hall, hc2, HR1.out, HI1.out, HH.out, HN.out, rfl, HB0.out, Fr.refl _ _⟩
  case round =>
    obtain ⟨H1, N1, r1, A2, n1, c2, rfl, hnc1, hn1, hcm, hr1, hin, hws, hN1, hwr, hb, hf⟩ := hrel
    by_cases h64 : 64 < n1
    · have h64' : decide (64 < n1) = true := decide_eq_true h64
      have h64'' : decide ((64 : Int) < (n1 : Int)) = true := decide_eq_true (by omega)
      have k0 := hb.out.cell 0
      have k1 := hb.out.cell 1
      have k2 := hb.out.cell 2
      have k3 := hb.out.cell 3
      have k4 := hb.out.cell 4
      have k5 := hb.out.cell 5
      have k6 := hb.out.cell 6
      have k7 := hb.out.cell 7
      have k8 := hb.out.cell 8
      have k9 := hb.out.cell 9
      have k10 := hb.out.cell 10
      have z9 := hb.out.frozen 9
      simp only [dc, List.getElem?_toArray, List.getElem?_cons_zero, List.getElem?_cons_succ] at k0 k1 k2 k3 k4 k5 k6 k7 k8 k9 k10
      obtain ⟨N2, hN2⟩ : ∃ N2, (N1 + 64) % 18446744073709551616 = N2 := ⟨_, rfl⟩
      have hN2I : IntKind.u64.wrap ((N1 : Int) + 64) = (N2 : Int) := by rw [IntKind.wrap_u64, ← hN2]; omega
      have hN2l : N2 < 18446744073709551616 := by rw [← hN2]; exact Nat.mod_lt _ (by omega)
      have hr1l : r1.length = n1 := by rw [← bv_length]; exact hr1.out.1
      obtain ⟨AD, hd1, hd2, hd3⟩ := cut_from A2 n1 c2 64 64 rfl (by omega) hnc1
      have hwm := wrL_more (r := r1) (by rw [hr1l]; exact h64) H1 N1
      rw [hN2] at hwm
      have hra : ∀ W, Fr (fun k => k = w.heap.size) wr W → Rd W A2 64 (bv (r1.take 64)) := fun W hW => by
        have := (hr1.out.fr hW (fun k hk e => by have := hin.out k hk; omega)).take (k := 64) (by omega)
        rw [bv_take]
        exact this
      have htb : ∀ W, Fr (fun k => k = w.heap.size) wr W → Tabs W := fun W hW => by
        have h0 := HT.out.lt
        exact ((HT.out.far HF1.out).fr hf.out (by omega) (by omega)).fr hW (by omega) (by omega)
      obtain ⟨M, hM⟩ : ∃ M, mixL H1 (wds (r1.take 64)) N2 false = M := ⟨_, rfl⟩
      have hMw : Ws 8 M := by rw [← hM]; exact hws.out.ofMix _ _ hN2l false
      have hmc : ∀ W, Fr (fun k => k = w.heap.size) wr W → Calls Tryz.prog 73 #[.agg (uv H1), .slice A2 64 c2, .int .u64 (N2 : Int), .bool false] W fun e w' => e = .returned (.agg (uv M)) ∧ Fr (fun _ => False) W w' := fun W hW => by
        rw [← hM]
        exact mix_c W H1 A2 c2 (r1.take 64) N2 false hws.out (hra W hW) hN2l (htb W hW)
      rw [uv8 hws.out, uv8 hMw] at hmc
      rw [hM] at hwm
      have hb3 := (hb.out.set_ 9 (.int .u64 (N2 : Int))).drew
      have hf3 : Fr (fun k => k = w.heap.size) wr (wr.setCell ⟨w.heap.size, 9, none⟩ (.int .u64 (N2 : Int))).drew := ((Fr.refl (fun k => k = w.heap.size) wr).setCell (p := ⟨w.heap.size, 9, none⟩) (fun _ => rfl) _).drew
      have HMC := Lib.hid hmc
      have HWM := Lib.hid hwm
      have HRL := Lib.hid hr1l
      have HD1 := Lib.hid hd1
      have HD2 := Lib.hid hd2
      have HD3 := Lib.hid hd3
      have HF3 := Lib.hid hf3
      have HB3 : Hid (Blk (wr.setCell ⟨w.heap.size, 9, none⟩ (.int .u64 (N2 : Int))).drew w.heap.size 79 (dc H1 (.slice R rn rc) N2 S)) := by rw [dc_set9] at hb3; exact hb3
      have HMw := Lib.hid hMw
      have HN2l := Lib.hid hN2l
      clear hmc hwm hr1l hd1 hd2 hd3 hf3 hb3 hra htb hM hN2 hMw hN2l
      go_wp2_with fail
      clear k0 k1 k2 k3 k4 k5 k6 k7 k8 k9 k10 z9
      refine (wpIn_wide (n := 9)).1 ?_
      refine wpIn_region_growHead (k := 8) (Fr (fun _ => False)) (by kernel_rfl) (by kernel_rfl) (Fr.refl _ _) (fun a b c h1 h2 => h1.trans h2 (fun _ _ h => h)) ?_
      generalize (wr.setCell ⟨w.heap.size, 9, none⟩ (.int .u64 (N2 : Int))).drew = w3 at *
      iterate 6
        refine growWalk_cons (a' := ?_) (v := ?_) ?_ ?_ ?_
        rotate_left 2
        · intro W hW K hK
          have bl := HB3.out.fr (fp := fun _ => False) hW (fun h => h)
          have k0 := bl.cell 0; have k1 := bl.cell 1; have k2 := bl.cell 2; have k3 := bl.cell 3; have k4 := bl.cell 4; have k5 := bl.cell 5; have k6 := bl.cell 6; have k7 := bl.cell 7; have k8 := bl.cell 8; have k9 := bl.cell 9; have k10 := bl.cell 10
          simp only [dc, List.getElem?_toArray, List.getElem?_cons_zero, List.getElem?_cons_succ] at k0 k1 k2 k3 k4 k5 k6 k7 k8 k9 k10
          clear bl
          gi_step
          exact hK _ (Fr.refl _ _)
        · exact rfl
      refine growWalk_cons (a' := ?_) (v := ?_) ?_ ?_ ?_
      rotate_left 2
      · intro W hW K hK
        gi_step
        refine ⟨trivial, ?_⟩
        refine (callsIn_wide.2 (HMC.out W (HF3.out.trans hW (fun _ _ h => h.elim)))).mono ?_
        rintro e W' ⟨rfl, fW⟩
        dsimp only
        exact hK _ fW
      · exact rfl
      iterate 1
        refine growWalk_cons (a' := ?_) (v := ?_) ?_ ?_ ?_
        rotate_left 2
        · intro W hW K hK
          have bl := HB3.out.fr (fp := fun _ => False) hW (fun h => h)
          have k0 := bl.cell 0; have k1 := bl.cell 1; have k2 := bl.cell 2; have k3 := bl.cell 3; have k4 := bl.cell 4; have k5 := bl.cell 5; have k6 := bl.cell 6; have k7 := bl.cell 7; have k8 := bl.cell 8; have k9 := bl.cell 9; have k10 := bl.cell 10
          simp only [dc, List.getElem?_toArray, List.getElem?_cons_zero, List.getElem?_cons_succ] at k0 k1 k2 k3 k4 k5 k6 k7 k8 k9 k10
          clear bl
          gi_step
          exact hK _ (Fr.refl _ _)
        · exact rfl
      refine growWalk_nil ?_
      intro W hW
      change wpAnyIn _ _ _ _ _ _ 1 _ _ _
      refine wpAnyIn_ready (rs := [8]) (by kernel_rfl) (by simp) ?_
      refine AllReadyIn.cons rfl (fun K hK => ?_) AllReadyIn.nil
      have bl := HB3.out.fr (fp := fun _ => False) hW (fun h => h)
      have k0 := bl.cell 0; have k1 := bl.cell 1; have k2 := bl.cell 2; have k3 := bl.cell 3; have k4 := bl.cell 4; have k5 := bl.cell 5; have k6 := bl.cell 6; have k7 := bl.cell 7; have k8 := bl.cell 8; have k9 := bl.cell 9; have k10 := bl.cell 10
      have z0 := bl.frozen 0; have z1 := bl.frozen 1; have z2 := bl.frozen 2; have z3 := bl.frozen 3; have z4 := bl.frozen 4; have z5 := bl.frozen 5; have z6 := bl.frozen 6; have z7 := bl.frozen 7
      simp only [dc, List.getElem?_toArray, List.getElem?_cons_zero, List.getElem?_cons_succ] at k0 k1 k2 k3 k4 k5 k6 k7 k8 k9 k10
      have BL := Lib.hid bl
      clear bl
      go_simp
      refine hK _ _ ?_
      refine wpAnyIn_done (by kernel_rfl) ?_ _
      clear hK K k0 k1 k2 k3 k4 k5 k6 k7 k8 k9 k10 z0 z1 z2 z3 z4 z5 z6 z7
      have hd3 := HD3.out
      go_wp2_with fail
      have hbn := ((((((((BL.out.set_ 0 (.int .u32 (at_ M 0 : Nat))).set_ 1 (.int .u32 (at_ M 1 : Nat))).set_ 2 (.int .u32 (at_ M 2 : Nat))).set_ 3 (.int .u32 (at_ M 3 : Nat))).set_ 4 (.int .u32 (at_ M 4 : Nat))).set_ 5 (.int .u32 (at_ M 5 : Nat))).set_ 6 (.int .u32 (at_ M 6 : Nat))).set_ 7 (.int .u32 (at_ M 7 : Nat)))
      rw [dc_setH] at hbn
      have hfn := (((((((((Fr.refl (fun k => k = w.heap.size) W).setCell (p := ⟨w.heap.size, 0, none⟩) (fun _ => rfl) (.int .u32 (at_ M 0 : Nat))).setCell (p := ⟨w.heap.size, 1, none⟩) (fun _ => rfl) (.int .u32 (at_ M 1 : Nat))).setCell (p := ⟨w.heap.size, 2, none⟩) (fun _ => rfl) (.int .u32 (at_ M 2 : Nat))).setCell (p := ⟨w.heap.size, 3, none⟩) (fun _ => rfl) (.int .u32 (at_ M 3 : Nat))).setCell (p := ⟨w.heap.size, 4, none⟩) (fun _ => rfl) (.int .u32 (at_ M 4 : Nat))).setCell (p := ⟨w.heap.size, 5, none⟩) (fun _ => rfl) (.int .u32 (at_ M 5 : Nat))).setCell (p := ⟨w.heap.size, 6, none⟩) (fun _ => rfl) (.int .u32 (at_ M 6 : Nat))).setCell (p := ⟨w.heap.size, 7, none⟩) (fun _ => rfl) (.int .u32 (at_ M 7 : Nat)))
      have hfn2 := ((HF3.out.trans hW (fun _ _ h => h.elim)).trans hfn (fun _ _ h => h))
      have hrn := HD1.out _ _ (hr1.out.fr hfn2 (fun k hk e => by have := hin.out k hk; omega))
      rw [← bv_drop] at hrn
      refine ⟨⟨M, N2, r1.drop 64, AD, n1 - 64, c2 - 64, rfl, by omega, by omega, by show c2 - 64 ≤ maxLen; have := hcm.out; omega, hrn, fun q hq => hin.out q (HD2.out q hq), HMw.out, HN2l.out, HWM.out.symm.trans hwr.out, hbn, hf.out.trans hfn2 (fun _ _ h => h)⟩, ?_⟩
      show n1 - 64 < n1
      omega
    · have h64' : decide ((64 : Int) < (n1 : Int)) = false := by simp; omega
      have hr1l : r1.length = n1 := by rw [← bv_length]; exact hr1.out.1
      have hwl := wrL_less (r := r1) (by rw [hr1l]; omega) H1 N1
      rw [hwr.out] at hwl
      have HWL := Lib.hid hwl
      have HRL := Lib.hid hr1l
      clear hwl hr1l
      go_wp2_with fail
      refine (clone_c wr A2 n1 c2 r1 hr1.out (by omega)).mono ?_
      rintro e w5 ⟨v5, rfl, o5, f5⟩
      obtain ⟨A5, c5, rfl, _, _⟩ := own_slice o5
      have hb5 := hb.out.fr f5 (fun h => h)
      have hb15 := (HB1.out.fr hf.out (by omega)).fr f5 (fun h => h)
      have k0 := hb5.cell 0
      have k1 := hb5.cell 1
      have k2 := hb5.cell 2
      have k3 := hb5.cell 3
      have k4 := hb5.cell 4
      have k5 := hb5.cell 5
      have k6 := hb5.cell 6
      have k7 := hb5.cell 7
      have k8 := hb5.cell 8
      have k9 := hb5.cell 9
      have k10 := hb5.cell 10
      have m0 := hb15.cell 0
      have y0 := hb15.frozen 0
      have m1 := hb15.cell 1
      have y1 := hb15.frozen 1
      have m2 := hb15.cell 2
      have y2 := hb15.frozen 2
      have m3 := hb15.cell 3
      have y3 := hb15.frozen 3
      have m4 := hb15.cell 4
      have y4 := hb15.frozen 4
      have m5 := hb15.cell 5
      have y5 := hb15.frozen 5
      have m6 := hb15.cell 6
      have y6 := hb15.frozen 6
      have m7 := hb15.cell 7
      have y7 := hb15.frozen 7
      have m8 := hb15.cell 8
      have y8 := hb15.frozen 8
      have m9 := hb15.cell 9
      have y9 := hb15.frozen 9
      have m10 := hb15.cell 10
      have y10 := hb15.frozen 10
      have z8 := hb5.frozen 8
      simp only [dc, List.getElem?_toArray, List.getElem?_cons_zero, List.getElem?_cons_succ] at k0 k1 k2 k3 k4 k5 k6 k7 k8 k9 k10 m0 m1 m2 m3 m4 m5 m6 m7 m8 m9 m10
      have HB5 := Lib.hid hb5
      have HB15 := Lib.hid hb15
      have O5 := Lib.hid o5
      have F5 := Lib.hid f5
      clear hb5 hb15 o5 f5
      go_wp2_with fail
      rw [HLL.out, HWL.out]
      dsimp only
      have hff := (((((((((((((Fr.refl (fun k => k = w.heap.size ∨ k = w.heap.size + 1) w5).setCell (p := ⟨w.heap.size, 8, none⟩) (fun _ => .inl rfl) (.slice A5 n1 c5)).setCell (p := ⟨w.heap.size + 1, 0, none⟩) (fun _ => .inr rfl) (.int .u32 (at_ H1 0 : Nat))).setCell (p := ⟨w.heap.size + 1, 1, none⟩) (fun _ => .inr rfl) (.int .u32 (at_ H1 1 : Nat))).setCell (p := ⟨w.heap.size + 1, 2, none⟩) (fun _ => .inr rfl) (.int .u32 (at_ H1 2 : Nat))).setCell (p := ⟨w.heap.size + 1, 3, none⟩) (fun _ => .inr rfl) (.int .u32 (at_ H1 3 : Nat))).setCell (p := ⟨w.heap.size + 1, 4, none⟩) (fun _ => .inr rfl) (.int .u32 (at_ H1 4 : Nat))).setCell (p := ⟨w.heap.size + 1, 5, none⟩) (fun _ => .inr rfl) (.int .u32 (at_ H1 5 : Nat))).setCell (p := ⟨w.heap.size + 1, 6, none⟩) (fun _ => .inr rfl) (.int .u32 (at_ H1 6 : Nat))).setCell (p := ⟨w.heap.size + 1, 7, none⟩) (fun _ => .inr rfl) (.int .u32 (at_ H1 7 : Nat))).setCell (p := ⟨w.heap.size + 1, 8, none⟩) (fun _ => .inr rfl) (.slice A5 n1 c5)).setCell (p := ⟨w.heap.size + 1, 9, none⟩) (fun _ => .inr rfl) (.int .u64 (N1 : Int))).setCell (p := ⟨w.heap.size + 1, 10, none⟩) (fun _ => .inr rfl) (.int .i64 S))
      refine bodyPost_ret (v := .agg (dc H1 (.slice A5 n1 c5) N1 S)) (by simp [results, Tryz.results52, go_sem, m0, m1, m2, m3, m4, m5, m6, m7, m8, m9, m10, dc]) rfl ⟨.slice A5 n1 c5, rfl, ?_, ?_⟩
      · rw [HRL.out]
        have hsw := hf.out.size
        refine own_base (own_fr O5.out hff (fun k hk e => ?_)) (fun k hk => ?_)
        · have := (O5.out.lt k hk).1
          omega
        · have := (O5.out.lt k hk).1
          omega
      · exact (((HF1.out.trans hf.out (fun k hk e => by omega)).trans F5.out (fun _ _ h => h))).trans hff (fun k hk e => by omega)
end Go.Proofs.YtjaocgmicdnghaaGreatDoor
