/-
  CONTRACT of the reference's Sum.
-/
import Derived.Test.YtfdpaiainlfigaaDoorRwrite
namespace Go.Proofs.YtfdpaiainlfigaaDoor
set_option linter.unusedSimpArgs false
set_option linter.unusedVariables false
open Go Go.RowKit Go.Shelf
attribute [local go_sem] Oper.semAt_some
theorem bytesL_at (H : List Nat) (S i : Nat) (h : i < S) : (bv (bytesL H S))[i]? = some (.int .u8 (byteL H i : Nat)) := by
  have hb : byteL H i < 256 := Nat.mod_lt _ (by omega)
  have h2 : i < (bytesL H S).length := by rw [bytesL_len]; exact h
  rw [bv_get _ _ h2]
  simp [bytesL, Nat.mod_eq_of_lt hb]
set_option maxRecDepth 100000 in
set_option maxHeartbeats 1000000 in
theorem rsum_no (w : World) (H : List Nat) (R : Option Addr) (rn rc : Nat) (r : List UInt8) (N : Nat) (S : Int) (hH : Ws 8 H) (hR : Rd w R rn (bv r)) (hrc : rn ≤ rc ∧ rc ≤ maxLen) (hN : N < 18446744073709551616) (hl : r.length ≤ 1000000000000) (hS : S < 1 ∨ 32 < S) :
    Calls Tryd.prog 16 #[.agg (dc H (.slice R rn rc) N S)] w fun e w' => e = .returned (.slice none 0 0) ∧ Fr (fun _ => False) w w' := by
  have q0 := Blk.new w 33 (dc H (.slice R rn rc) N S)
  have fa := (Fr.refl (fun _ => False) w).alloc (.cells (dc H (.slice R rn rc) N S) 33)
  have hw := rwrite_c (w.alloc (.cells (dc H (.slice R rn rc) N S) 33)) H R rn rc r N S none 0 0 [] hH (hR.far fa) hrc (Rd.none_ _ _) ⟨Nat.le_refl _, by unfold maxLen; omega⟩ hN (by simpa using hl)
  rw [List.append_nil, World.size_alloc] at hw
  have hok := wrL_ok _ r H N (Nat.le_refl _) hH hN
  have e4 : ∀ S, sumL H N r S = bytesL (endL (wrL H N r).1 (wrL H N r).2.1 (wrL H N r).2.2) S := fun _ => rfl
  obtain ⟨st, hst⟩ : ∃ st, wrL H N r = st := ⟨_, rfl⟩
  rw [hst] at hw hok e4
  clear hst
  obtain ⟨H1, N1, r1⟩ := st
  dsimp only at hw hok e4
  obtain ⟨⟨hH1, hN1⟩, hl1, -⟩ := hok
  dsimp only at hH1 hN1 hl1
  have Q0 := Lib.hid q0
  have FA := Lib.hid fa
  have HW := Lib.hid hw
  have E4 := Lib.hid e4
  have HH1 := Lib.hid hH1
  have HN1 := Lib.hid hN1
  clear q0 fa hw hR hH hN hl e4 hH1 hN1
  unfold dc
  go_enter Tryd.func16, Tryd.ntmps16
  go_wp2_with fail
  refine HW.out.mono ?_
  rintro e w1 ⟨v1, rfl, o1, f1⟩
  obtain ⟨A1, c1, rfl, -, hc1, hc2, -⟩ := o1.slice
  have HC2 := Lib.hid hc2
  obtain ⟨rn1, hrn1⟩ : ∃ rn1, r1.length = rn1 := ⟨_, rfl⟩
  rw [hrn1] at o1 hc1 hl1 ⊢
  have HRN := Lib.hid hrn1
  have hb := Q0.out.fr f1 (fun h => h)
  have k0 := hb.cell 0
  have k1 := hb.cell 1
  have k2 := hb.cell 2
  have k3 := hb.cell 3
  have k4 := hb.cell 4
  have k5 := hb.cell 5
  have k6 := hb.cell 6
  have k7 := hb.cell 7
  have k8 := hb.cell 8
  have k9 := hb.cell 9
  have k10 := hb.cell 10
  have z0 := hb.frozen 0
  have z1 := hb.frozen 1
  have z2 := hb.frozen 2
  have z3 := hb.frozen 3
  have z4 := hb.frozen 4
  have z5 := hb.frozen 5
  have z6 := hb.frozen 6
  have z7 := hb.frozen 7
  have z8 := hb.frozen 8
  have z9 := hb.frozen 9
  have z10 := hb.frozen 10
  simp only [dc, List.getElem?_toArray, List.getElem?_cons_zero, List.getElem?_cons_succ] at k0 k1 k2 k3 k4 k5 k6 k7 k8 k9 k10
  have HB := Lib.hid hb
  have O1 := Lib.hid o1
  have F1 := Lib.hid (FA.out.trans f1 (fun _ _ h => h))
  clear hb o1 f1 HW hc2 hrn1
  unfold dc
  go_upto_region 2 with fail
  refine abs_world (fun W => Hid (Blk W w.heap.size 33 (dc H1 (.slice A1 rn1 c1) N1 S)) ∧ Hid (OwnM W (w.heap.size + 1) 5 (.slice A1 rn1 c1) rn1 (bv r1)) ∧ Hid (Fr (fun _ => False) w W) ∧ Hid (w.heap.size + 1 ≤ W.heap.size)) ?_ ?_
  · have hs := (((((((((((HB.out.set_ 0 (.int .u32 (at_ H1 0 : Nat))).set_ 1 (.int .u32 (at_ H1 1 : Nat))).set_ 2 (.int .u32 (at_ H1 2 : Nat))).set_ 3 (.int .u32 (at_ H1 3 : Nat))).set_ 4 (.int .u32 (at_ H1 4 : Nat))).set_ 5 (.int .u32 (at_ H1 5 : Nat))).set_ 6 (.int .u32 (at_ H1 6 : Nat))).set_ 7 (.int .u32 (at_ H1 7 : Nat))).set_ 8 (.slice A1 rn1 c1)).set_ 9 (.int .u64 (N1 : Int))).set_ 10 (.int .i64 S))
    rw [dc_all] at hs
    have hff := ((((((((((((Fr.refl (fun k => k = w.heap.size) w1).setCell (p := ⟨w.heap.size, 0, none⟩) (fun _ => rfl) (.int .u32 (at_ H1 0 : Nat))).setCell (p := ⟨w.heap.size, 1, none⟩) (fun _ => rfl) (.int .u32 (at_ H1 1 : Nat))).setCell (p := ⟨w.heap.size, 2, none⟩) (fun _ => rfl) (.int .u32 (at_ H1 2 : Nat))).setCell (p := ⟨w.heap.size, 3, none⟩) (fun _ => rfl) (.int .u32 (at_ H1 3 : Nat))).setCell (p := ⟨w.heap.size, 4, none⟩) (fun _ => rfl) (.int .u32 (at_ H1 4 : Nat))).setCell (p := ⟨w.heap.size, 5, none⟩) (fun _ => rfl) (.int .u32 (at_ H1 5 : Nat))).setCell (p := ⟨w.heap.size, 6, none⟩) (fun _ => rfl) (.int .u32 (at_ H1 6 : Nat))).setCell (p := ⟨w.heap.size, 7, none⟩) (fun _ => rfl) (.int .u32 (at_ H1 7 : Nat))).setCell (p := ⟨w.heap.size, 8, none⟩) (fun _ => rfl) (.slice A1 rn1 c1)).setCell (p := ⟨w.heap.size, 9, none⟩) (fun _ => rfl) (.int .u64 (N1 : Int))).setCell (p := ⟨w.heap.size, 10, none⟩) (fun _ => rfl) (.int .i64 S))
    exact ⟨hs, O1.out.fr hff (fun k hk e => by have := (O1.out.own_ne hk).1; omega), F1.out.trans hff (fun k hk e => by omega), Nat.lt_of_lt_of_le HB.out.lt hff.size⟩
  clear k0 k1 k2 k3 k4 k5 k6 k7 k8 k9 k10 z0 z1 z2 z3 z4 z5 z6 z7 z8 z9 z10
  rintro W2 ⟨HB2, HO2, HF2, HZ2⟩
  clear HB O1 F1 Q0 FA
  have k10 : W2.cell? ⟨w.heap.size, 10, none⟩ = some (.int .i64 S) := HB2.out.cell 10
  rcases hS with hS | hS
  · have h1 : decide (S < 1) = true := decide_eq_true hS
    go_wp2_with fail
    go_ret
    exact ⟨rfl, HF2.out⟩
  · have h1 : decide (S < 1) = false := decide_eq_false (by omega)
    have h2 : decide (32 < S) = true := decide_eq_true hS
    go_wp2_with fail
    go_ret
    exact ⟨rfl, HF2.out⟩

set_option maxRecDepth 100000 in
set_option maxHeartbeats 2000000 in
theorem rsum_c (w : World) (H : List Nat) (R : Option Addr) (rn rc : Nat) (r : List UInt8) (N : Nat) (s : Nat) (hH : Ws 8 H) (hR : Rd w R rn (bv r)) (hrc : rn ≤ rc ∧ rc ≤ maxLen) (hN : N < 18446744073709551616) (hl : r.length ≤ 1000000000000) (hS : 1 ≤ s ∧ s ≤ 32) :
    Calls Tryd.prog 16 #[.agg (dc H (.slice R rn rc) N s)] w fun e w' => ∃ v, e = .returned v ∧ w'.ownsRow w.heap.size 5 1 v s (bv (sumL H N r s)) ∧ Fr (fun _ => False) w w' := by
  have q0 := Blk.new w 33 (dc H (.slice R rn rc) N s)
  have fa := (Fr.refl (fun _ => False) w).alloc (.cells (dc H (.slice R rn rc) N s) 33)
  have hw := rwrite_c (w.alloc (.cells (dc H (.slice R rn rc) N s) 33)) H R rn rc r N s none 0 0 [] hH (hR.far fa) hrc (Rd.none_ _ _) ⟨Nat.le_refl _, by unfold maxLen; omega⟩ hN (by simpa using hl)
  rw [List.append_nil, World.size_alloc] at hw
  have hok := wrL_ok _ r H N (Nat.le_refl _) hH hN
  have e4 : sumL H N r s = bytesL (endL (wrL H N r).1 (wrL H N r).2.1 (wrL H N r).2.2) s := rfl
  obtain ⟨st, hst⟩ : ∃ st, wrL H N r = st := ⟨_, rfl⟩
  rw [hst] at hw hok e4
  clear hst
  obtain ⟨H1, N1, r1⟩ := st
  dsimp only at hw hok e4
  obtain ⟨⟨hH1, hN1⟩, hl1, -⟩ := hok
  dsimp only at hH1 hN1 hl1
  have Q0 := Lib.hid q0
  have FA := Lib.hid fa
  have HW := Lib.hid hw
  have E4 := Lib.hid e4
  have HH1 := Lib.hid hH1
  have HN1 := Lib.hid hN1
  clear q0 fa hw hR hH hN hl e4 hH1 hN1
  unfold dc
  go_enter Tryd.func16, Tryd.ntmps16
  go_wp2_with fail
  refine HW.out.mono ?_
  rintro e w1 ⟨v1, rfl, o1, f1⟩
  obtain ⟨A1, c1, rfl, -, hc1, hc2, -⟩ := o1.slice
  have HC2 := Lib.hid hc2
  obtain ⟨rn1, hrn1⟩ : ∃ rn1, r1.length = rn1 := ⟨_, rfl⟩
  rw [hrn1] at o1 hc1 hl1 ⊢
  have HRN := Lib.hid hrn1
  have hb := Q0.out.fr f1 (fun h => h)
  have k0 := hb.cell 0
  have k1 := hb.cell 1
  have k2 := hb.cell 2
  have k3 := hb.cell 3
  have k4 := hb.cell 4
  have k5 := hb.cell 5
  have k6 := hb.cell 6
  have k7 := hb.cell 7
  have k8 := hb.cell 8
  have k9 := hb.cell 9
  have k10 := hb.cell 10
  have z0 := hb.frozen 0
  have z1 := hb.frozen 1
  have z2 := hb.frozen 2
  have z3 := hb.frozen 3
  have z4 := hb.frozen 4
  have z5 := hb.frozen 5
  have z6 := hb.frozen 6
  have z7 := hb.frozen 7
  have z8 := hb.frozen 8
  have z9 := hb.frozen 9
  have z10 := hb.frozen 10
  simp only [dc, List.getElem?_toArray, List.getElem?_cons_zero, List.getElem?_cons_succ] at k0 k1 k2 k3 k4 k5 k6 k7 k8 k9 k10
  have HB := Lib.hid hb
  have O1 := Lib.hid o1
  have F1 := Lib.hid (FA.out.trans f1 (fun _ _ h => h))
  clear hb o1 f1 HW hc2 hrn1
  unfold dc
  go_upto_region 2 with fail
  refine abs_world (fun W => Hid (Blk W w.heap.size 33 (dc H1 (.slice A1 rn1 c1) N1 s)) ∧ Hid (OwnM W (w.heap.size + 1) 5 (.slice A1 rn1 c1) rn1 (bv r1)) ∧ Hid (Fr (fun _ => False) w W) ∧ Hid (w.heap.size + 1 ≤ W.heap.size)) ?_ ?_
  · have hs := (((((((((((HB.out.set_ 0 (.int .u32 (at_ H1 0 : Nat))).set_ 1 (.int .u32 (at_ H1 1 : Nat))).set_ 2 (.int .u32 (at_ H1 2 : Nat))).set_ 3 (.int .u32 (at_ H1 3 : Nat))).set_ 4 (.int .u32 (at_ H1 4 : Nat))).set_ 5 (.int .u32 (at_ H1 5 : Nat))).set_ 6 (.int .u32 (at_ H1 6 : Nat))).set_ 7 (.int .u32 (at_ H1 7 : Nat))).set_ 8 (.slice A1 rn1 c1)).set_ 9 (.int .u64 (N1 : Int))).set_ 10 (.int .i64 (s : Int)))
    rw [dc_all] at hs
    have hff := ((((((((((((Fr.refl (fun k => k = w.heap.size) w1).setCell (p := ⟨w.heap.size, 0, none⟩) (fun _ => rfl) (.int .u32 (at_ H1 0 : Nat))).setCell (p := ⟨w.heap.size, 1, none⟩) (fun _ => rfl) (.int .u32 (at_ H1 1 : Nat))).setCell (p := ⟨w.heap.size, 2, none⟩) (fun _ => rfl) (.int .u32 (at_ H1 2 : Nat))).setCell (p := ⟨w.heap.size, 3, none⟩) (fun _ => rfl) (.int .u32 (at_ H1 3 : Nat))).setCell (p := ⟨w.heap.size, 4, none⟩) (fun _ => rfl) (.int .u32 (at_ H1 4 : Nat))).setCell (p := ⟨w.heap.size, 5, none⟩) (fun _ => rfl) (.int .u32 (at_ H1 5 : Nat))).setCell (p := ⟨w.heap.size, 6, none⟩) (fun _ => rfl) (.int .u32 (at_ H1 6 : Nat))).setCell (p := ⟨w.heap.size, 7, none⟩) (fun _ => rfl) (.int .u32 (at_ H1 7 : Nat))).setCell (p := ⟨w.heap.size, 8, none⟩) (fun _ => rfl) (.slice A1 rn1 c1)).setCell (p := ⟨w.heap.size, 9, none⟩) (fun _ => rfl) (.int .u64 (N1 : Int))).setCell (p := ⟨w.heap.size, 10, none⟩) (fun _ => rfl) (.int .i64 (s : Int)))
    exact ⟨hs, O1.out.fr hff (fun k hk e => by have := (O1.out.own_ne hk).1; omega), F1.out.trans hff (fun k hk e => by omega), Nat.lt_of_lt_of_le HB.out.lt hff.size⟩
  clear k0 k1 k2 k3 k4 k5 k6 k7 k8 k9 k10 z0 z1 z2 z3 z4 z5 z6 z7 z8 z9 z10
  rintro W2 ⟨HB2, HO2, HF2, HZ2⟩
  clear HB O1 F1 Q0 FA
  have k8 : W2.cell? ⟨w.heap.size, 8, none⟩ = some (.slice A1 rn1 c1) := HB2.out.cell 8
  have k9 : W2.cell? ⟨w.heap.size, 9, none⟩ = some (.int .u64 (N1 : Int)) := HB2.out.cell 9
  have k10 : W2.cell? ⟨w.heap.size, 10, none⟩ = some (.int .i64 (s : Int)) := HB2.out.cell 10
  have h1 : decide ((s : Int) < 1) = false := decide_eq_false (by omega)
  have h2 : decide (32 < (s : Int)) = false := decide_eq_false (by omega)
  obtain ⟨N2, hN2⟩ : ∃ N2, (N1 + rn1) % 18446744073709551616 = N2 := ⟨_, rfl⟩
  have hN2l : N2 < 18446744073709551616 := by rw [← hN2]; exact Nat.mod_lt _ (by omega)
  have e1 : IntKind.u64.wrap (rn1 : Int) = (rn1 : Int) := by rw [IntKind.wrap_u64]; omega
  have e2 : IntKind.u64.wrap ((N1 : Int) + (rn1 : Int)) = (N2 : Int) := by rw [IntKind.wrap_u64, ← hN2]; omega
  have HN2 := Lib.hid hN2
  have HN2l := Lib.hid hN2l
  clear hN2 hN2l
  go_upto_region 7 with fail
  clear k8 k9 k10 h1 h2 e1 e2
  obtain ⟨i0, hi0, hz0', hz1', hz2'⟩ := info_parts u8_info
  have HI := Lib.hid hi0
  clear hi0
  have O2' : Hid (OwnM W2 (w.heap.size + 1) 5 (.slice A1 rn1 c1) rn1 (bv (r1 ++ List.replicate (rn1 - rn1) (0 : UInt8)))) := by
    rw [Nat.sub_self, List.replicate_zero, List.append_nil]
    exact HO2.out
  go_loopw [5] (fun u wr => ∃ (Aq : Option Addr) (p cq : Nat), u = .slice Aq p cq ∧ rn1 ≤ p ∧ p ≤ 64 ∧ p ≤ cq ∧ Hid (cq ≤ maxLen) ∧ Hid (OwnM wr (w.heap.size + 1) 5 (.slice Aq p cq) p (bv (r1 ++ List.replicate (p - rn1) (0 : UInt8)))) ∧ Hid (Fr (fun k => w.heap.size + 1 ≤ k) W2 wr)) (fun u _ => match u with | .slice _ p _ => 64 - p | _ => 0)
  case atStart => exact ⟨A1, rn1, c1, rfl, Nat.le_refl _, hl1, hc1, HC2.out, O2'.out, Fr.refl _ _⟩
  case round =>
    obtain ⟨Aq, p, cq, rfl, hp1, hp2, hpc, hcm, ho, hf⟩ := hrel
    have hzr := Nat.le_trans HZ2.out hf.out.size
    by_cases hlt : p < 64
    · have hdl2 : decide ((p : Int) < 64) = true := decide_eq_true (by omega)
      have BL := Lib.hid (Blk.new wr 5 #[.int .u8 0])
      have OW := Lib.hid (ho.out.far ((Fr.refl _ wr).alloc (.cells #[.int .u8 0] 5)))
      have GW := Lib.hid (hf.out.alloc (.cells #[.int .u8 0] 5))
      have hzr2 : w.heap.size + 1 ≤ (wr.alloc (.cells #[.int .u8 0] 5)).heap.size := by rw [World.size_alloc]; omega
      have HZR2 := Lib.hid hzr2
      clear hzr2
      go_wp2_with (first
        | (at_builtin
           refine wpList_appm rfl _ _ _ _ rfl (w.heap.size + 1) 5 i0 _ 1 Tryd.underlying24 HI.out hz0' hz1' hz2' rfl _ p _ rfl OW.out _ 1 _ rfl (Src.rd Tryd.underlying24 _ (Rd.of_blk (n := 1) BL.out (by simp)) (by simp [Value.oneCell'])) (by omega) (by unfold maxLen; omega) HZR2.out ?_
           intro v9 w9 hown9 hf9 hn9
           have G9 := Lib.hid (GW.out.trans hf9 (fun k hk hq => (OW.out.own_ne hq).1))
           have H9 := Lib.hid hown9
           obtain ⟨A9, c9, rfl, -, hc9, hcm9, -⟩ := hown9.slice
           have HCM9 := Lib.hid hcm9
           clear hown9 hf9 hn9 hcm9))
      have e9 : bv (r1 ++ List.replicate (p - rn1) (0 : UInt8)) ++ List.take 1 (#[Value.int .u8 0] : Array Value).toList = bv (r1 ++ List.replicate (p + 1 - rn1) (0 : UInt8)) := by
        rw [show p + 1 - rn1 = (p - rn1) + 1 by omega, List.replicate_succ', ← List.append_assoc, bv_append (r1 ++ _)]
        rfl
      have h9 := H9.out
      rw [e9] at h9
      exact ⟨⟨A9, p + 1, c9, rfl, by omega, by omega, hc9, HCM9.out, h9, G9.out⟩, (by show 64 - (p + 1) < 64 - p; omega)⟩
    · obtain rfl : p = 64 := by omega
      have hdl2 : decide (((64 : Nat) : Int) < 64) = false := by decide
      have hpad : r1 ++ List.replicate (64 - rn1) (0 : UInt8) = pad r1 := by unfold pad; rw [HRN.out]
      have ho1 := ho.out
      rw [hpad] at ho1
      obtain ⟨_, _, esl, hrd, -⟩ := ho1.slice
      injection esl with e1 _ e3
      subst e1 e3
      have HRD := Lib.hid hrd
      have hb3 := HB2.out.fr hf.out (by omega)
      have HB3 := Lib.hid hb3
      have HF3 := Lib.hid (HF2.out.trans hf.out (fun k hk e => by omega))
      obtain ⟨M, hM⟩ : ∃ M, endL H1 N1 r1 = M := ⟨_, rfl⟩
      have hMe : mixL H1 (wds (pad r1)) N2 true = M := by rw [← hM, ← HN2.out, ← HRN.out]; rfl
      have hMw : Ws 8 M := by rw [← hMe]; exact HH1.out.ofMix _ _ HN2l.out true
      have hmc : Calls Tryd.prog 11 #[.agg (uv H1), .slice Aq 64 cq, .int .u64 (N2 : Int), .bool true] wr fun e w' => e = .returned (.agg (uv M)) ∧ Fr (fun _ => False) wr w' := by
        rw [← hMe]
        exact rmix_c wr H1 Aq cq (pad r1) N2 true HH1.out hrd HN2l.out
      rw [uv8 HH1.out, uv8 hMw] at hmc
      have e4 := E4.out
      rw [hM] at e4
      have E5 := Lib.hid e4
      have HMW := Lib.hid hMw
      have HMC := Lib.hid hmc
      clear hpad ho1 hrd hb3 hM hMe hMw hmc e4 E4 ho hf HO2 O2' HB2 HF2
      have k0 := HB3.out.cell 0
      have k1 := HB3.out.cell 1
      have k2 := HB3.out.cell 2
      have k3 := HB3.out.cell 3
      have k4 := HB3.out.cell 4
      have k5 := HB3.out.cell 5
      have k6 := HB3.out.cell 6
      have k7 := HB3.out.cell 7
      simp only [dc, List.getElem?_toArray, List.getElem?_cons_zero, List.getElem?_cons_succ] at k0 k1 k2 k3 k4 k5 k6 k7
      go_wp2_with fail
      refine HMC.out.mono ?_
      rintro e w4 ⟨rfl, f4⟩
      have HB4 := Lib.hid (HB3.out.fr f4 (fun h => h))
      have HF4 := Lib.hid (HF3.out.trans f4 (fun _ _ h => h))
      clear f4 HMC HB3 HF3 HRD k0 k1 k2 k3 k4 k5 k6 k7
      go_upto_region 10 with fail
      refine abs_world (fun W => Hid (Blk W w4.heap.size 23 (uv M)) ∧ Hid (Blk W w.heap.size 33 (dc H1 (.slice A1 rn1 c1) N1 s)) ∧ Hid (Fr (fun _ => False) w W) ∧ Hid (w.heap.size < w4.heap.size ∧ w4.heap.size < W.heap.size)) ⟨by rw [uv8 HMW.out]; exact Blk.new w4 _ _, HB4.out.alloc _, HF4.out.alloc _, HB4.out.lt, by simp⟩ ?_
      rintro W5 ⟨HM5, HB5, HF5, HZ5⟩
      clear HB4 HF4
      obtain ⟨g6, hg6⟩ : ∃ g, w4.heap.size = g := ⟨_, rfl⟩
      rw [hg6] at HM5 HZ5 ⊢
      clear hg6
      obtain ⟨gS, hgS⟩ : ∃ g, w.heap.size = g := ⟨_, rfl⟩
      rw [hgS] at HB5 HZ5 ⊢
      have HGS := Lib.hid hgS
      clear hgS
      obtain ⟨hz1, hz2⟩ := HZ5.out
      obtain ⟨B3, hB3⟩ : ∃ B, W5.heap.size = B := ⟨_, rfl⟩
      rw [hB3] at hz2
      have HBB := Lib.hid hB3
      clear hB3 HZ5
      go_wp2_with fail
      go_loopw [7, 3] (fun iv ov wr => ∃ (i : Nat) (Ao : Option Addr) (p co : Nat), iv = .int .i64 i ∧ i ≤ 8 ∧ ov = .slice Ao p co ∧ p = min (4 * i) s ∧ Hid (wr.ownsRow B3 5 1 (.slice Ao p co) p (bv ((bytesL M s).take p))) ∧ Hid (Fr (fun k => B3 ≤ k) W5 wr)) (fun iv _ _ => 8 - (intOf iv).toNat)
      case atStart => exact ⟨0, none, 0, 0, rfl, by omega, rfl, by omega, World.ownsRow_nil _ _ _ _, Fr.refl _ _⟩
      case round =>
        obtain ⟨i, Ao, p, co, rfl, hi8, rfl, hp, ho, hf⟩ := hrel
        have HP0 := Lib.hid hp
        clear hp
        by_cases hlt : i < 8
        · have hdl : decide ((i : Int) < 8) = true := decide_eq_true (by omega)
          have hbm := HM5.out.fr hf.out (by omega)
          have xm : wr.cell? ⟨g6, i, none⟩ = some (.int .u32 (at_ M i : Nat)) := by rw [hbm.cell, uv_get _ _ (by rw [HMW.out.1]; exact hlt)]
          have hxl := at_lt HMW.out i
          have hi8' : (i : Int) < 8 := by omega
          have HXM : Hid (at_ M i / 256 ^ 0 = at_ M i) := by show _ = _; simp
          clear hbm
          obtain ⟨X, hX⟩ : ∃ X, at_ M i = X := ⟨_, rfl⟩
          rw [hX] at xm hxl HXM
          have HX := Lib.hid hX
          clear hX
          go_wp2_with fail
          clear hdl xm
          go_loopw [9, 8, 3] (fun kv xv ov wq => ∃ (k x : Nat) (Ao : Option Addr) (p co : Nat), kv = .int .i64 k ∧ k ≤ 4 ∧ xv = .int .u32 (x : Int) ∧ Hid (x = X / 256 ^ k) ∧ ov = .slice Ao p co ∧ p = min (4 * i + k) s ∧ Hid (wq.ownsRow B3 5 1 (.slice Ao p co) p (bv ((bytesL M s).take p))) ∧ Hid (Fr (fun k => B3 ≤ k) W5 wq)) (fun kv _ _ _ => 4 - (intOf kv).toNat)
          case atStart => exact ⟨0, X, Ao, p, co, rfl, by omega, rfl, HXM.out.symm, rfl, by have := HP0.out; omega, ho.out, hf.out⟩
          case round =>
            obtain ⟨k, x, Ao, p, co, rfl, hk4, rfl, hx, rfl, hp, ho, hf⟩ := hrel
            have HP := Lib.hid hp
            clear hp
            have hxl2 : x < 4294967296 := by
              have := hx.out
              rw [this]
              exact Nat.lt_of_le_of_lt (Nat.div_le_self _ _) hxl
            by_cases hk : k < 4
            · have hdk : decide ((k : Int) < 4) = true := decide_eq_true (by omega)
              have k10 : wr.cell? ⟨gS, 10, none⟩ = some (.int .i64 (s : Int)) := (HB5.out.fr hf.out (by omega)).cell 10
              have hx0 : (0 : Int) ≤ (x : Int) := by omega
              have hnx : Hid (x / 256 = X / 256 ^ (k + 1)) := by
                show _ = _
                rw [hx.out, Nat.div_div_eq_div_mul, Nat.pow_succ]
              obtain ⟨x2, hx2⟩ : ∃ x2, x / 256 = x2 := ⟨_, rfl⟩
              rw [hx2] at hnx
              have hq : (x : Int) / 256 = (x2 : Int) := by omega
              clear hx2
              by_cases hps : p < s
              · have hds : decide (p < s) = true := decide_eq_true hps
                have hds' : decide ((p : Int) < (s : Int)) = true := decide_eq_true (by omega)
                obtain ⟨y, hy⟩ : ∃ y, x % 256 = y := ⟨_, rfl⟩
                have hy1 : (x : Int) % 256 = (y : Int) := by omega
                have hy2 : y < 256 := by omega
                have HY : Hid (byteL M p = y) := by
                  show _ = _
                  have hp2 : p = 4 * i + k := by have := HP.out; omega
                  unfold byteL
                  rw [hp2, show (4 * i + k) / 4 = i by omega, show (4 * i + k) % 4 = k by omega, HX.out, ← hy, hx.out, Nat.pow_mul]
                have BL := Lib.hid (Blk.new wr 5 #[.int .u8 (y : Int)])
                have OW := Lib.hid (own_fr ho.out (fp := fun _ => False) ((Fr.refl _ wr).alloc (.cells #[.int .u8 (y : Int)] 5)) (fun _ _ h => h))
                have GW := Lib.hid (hf.out.alloc (.cells #[.int .u8 (y : Int)] 5))
                have hzr2 : B3 ≤ (wr.alloc (.cells #[.int .u8 (y : Int)] 5)).heap.size := by rw [World.size_alloc]; have := hf.out.size; have := HBB.out; omega
                have HZR2 := Lib.hid hzr2
                clear hzr2 hy
                go_wp2_with (first
                  | (at_builtin
                     refine wpList_app rfl _ _ _ _ rfl B3 5 i0 _ 1 1 Tryd.underlying24 HI.out hz0' hz1' hz2' rfl _ p _ rfl OW.out _ 1 _ rfl (Src.rd Tryd.underlying24 _ (Rd.of_blk (n := 1) BL.out (by simp)) (by simp [Value.oneCell'])) (by omega) (by unfold maxLen; omega) HZR2.out ?_
                     intro v9 w9 hown9 hf9 hn9
                     have G9 := Lib.hid (GW.out.trans hf9 (fun k hk hq => (OW.out.lt k hq).1))
                     have H9 := Lib.hid hown9
                     obtain ⟨A9, c9, rfl, hc9, hcm9⟩ := own_slice hown9
                     clear hown9 hf9 hn9 hcm9))
                have e9 : bv ((bytesL M s).take p) ++ List.take 1 (#[Value.int .u8 (y : Int)] : Array Value).toList = bv ((bytesL M s).take (p + 1)) := by
                  have hl := bytesL_len M s
                  have hpl : p < (bytesL M s).length := by rw [hl]; exact hps
                  have hg := bytesL_at M s p hps
                  rw [bv_get (bytesL M s) p hpl, HY.out] at hg
                  injection hg with hg
                  rw [List.take_succ_eq_append_getElem hpl, bv_append]
                  congr 1
                  show [Value.int .u8 (y : Int)] = [Value.int .u8 _]
                  rw [hg]
                have h9 := H9.out
                rw [e9] at h9
                exact ⟨⟨k + 1, x2, A9, p + 1, c9, by go_num, by omega, rfl, hnx.out, rfl, by have := HP.out; omega, h9, G9.out⟩, by simp [intOf]; omega⟩
              · have hds : decide (p < s) = false := decide_eq_false hps
                have hds' : decide ((p : Int) < (s : Int)) = false := decide_eq_false (by omega)
                go_wp2_with fail
                exact ⟨⟨k + 1, x2, Ao, p, co, by go_num, by omega, rfl, hnx.out, rfl, by have := HP.out; omega, ho.out, hf.out⟩, by simp [intOf]; omega⟩
            · obtain rfl : k = 4 := by omega
              have hdk : decide (((4 : Nat) : Int) < 4) = false := by decide
              go_wp2_with fail
              exact ⟨⟨i + 1, Ao, p, co, by go_num, by omega, rfl, by have := HP.out; omega, ho.out, hf.out⟩, by simp [intOf]; omega⟩
        · obtain rfl : i = 8 := by omega
          have hdl : decide (((8 : Nat) : Int) < 8) = false := by decide
          have hps : p = s := by have := HP0.out; omega
          subst hps
          have ho1 := ho.out
          rw [List.take_of_length_le (by rw [bytesL_len]; exact Nat.le_refl _), ← E5.out] at ho1
          have HOO := Lib.hid ho1
          clear ho1
          go_wp2_with fail
          go_ret
          exact ⟨_, rfl, own_base HOO.out (fun k hk => by have := (HOO.out.lt k hk).1; have := HGS.out; omega), HF5.out.trans hf.out (fun k hk e => by have := HGS.out; omega)⟩
end Go.Proofs.YtfdpaiainlfigaaDoor
