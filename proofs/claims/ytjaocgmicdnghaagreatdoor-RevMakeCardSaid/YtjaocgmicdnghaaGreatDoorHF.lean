/-
  Rsum, Rsmall, Rof, in one text (merge.py).
-/
import Derived.Test.YtjaocgmicdnghaaGreatDoorRwrite
import Derived.Test.YtjaocgmicdnghaaGreatDoorSmall
import Derived.Test.YtjaocgmicdnghaaGreatDoorHC
import Derived.Test.YtjaocgmicdnghaaGreatDoorPar3
import Derived.Deep.MidRow
import Derived.Laws.Cover3

/-
  CONTRACT of the reference's Sum.
-/
namespace Go.Proofs.YtjaocgmicdnghaaGreatDoor
set_option linter.unusedSimpArgs false
set_option linter.unusedVariables false
open Go Go.RowKit Go.Shelf
attribute [local go_sem] Oper.semAt_some
theorem bytesL_at (H : List Nat) (S i : Nat) (h : i < S) : (bv (bytesL H S))[i]? = some (.int .u8 (byteL H i : Nat)) := by
  have hb : byteL H i < 256 := Nat.mod_lt _ (by omega)
  have h2 : i < (bytesL H S).length := by rw [bytesL_len]; exact h
  rw [bv_get _ _ h2]
  simp [bytesL, Nat.mod_eq_of_lt hb]
set_option maxRecDepth 100000 in
set_option maxHeartbeats 1000000 in
theorem rsum_no (w : World) (H : List Nat) (R : Option Addr) (rn rc : Nat) (r : List UInt8) (N : Nat) (S : Int) (hH : Ws 8 H) (hR : Rd w R rn (bv r)) (hrc : rn ≤ rc ∧ rc ≤ maxLen) (hN : N < 18446744073709551616) (hl : r.length ≤ 1000000000000) (hS : S < 1 ∨ 32 < S) :
    Calls Tryz.prog 56 #[.agg (dc H (.slice R rn rc) N S)] w fun e w' => e = .returned (.slice none 0 0) ∧ Fr (fun _ => False) w w' := by
  have q0 := Blk.new w 79 (dc H (.slice R rn rc) N S)
  have fa := (Fr.refl (fun _ => False) w).alloc (.cells (dc H (.slice R rn rc) N S) 79)
  have hw := rwrite_c (w.alloc (.cells (dc H (.slice R rn rc) N S) 79)) H R rn rc r N S none 0 0 [] hH (hR.far fa) hrc (Rd.none_ _ _) ⟨Nat.le_refl _, by unfold maxLen; omega⟩ hN (by simpa using hl)
  rw [List.append_nil, World.size_alloc] at hw
  have hok := wrL_ok _ r H N (Nat.le_refl _) hH hN
  have e4 : ∀ S, sumL H N r S = bytesL (endL (wrL H N r).1 (wrL H N r).2.1 (wrL H N r).2.2) S := fun _ => rfl
  obtain ⟨st, hst⟩ : ∃ st, wrL H N r = st := ⟨_, rfl⟩
  rw [hst] at hw hok e4
  clear hst
  obtain ⟨H1, N1, r1⟩ := st
  dsimp only at hw hok e4
  obtain ⟨⟨hH1, hN1⟩, hl1, -⟩ := hok
  dsimp only at hH1 hN1 hl1
  have Q0 := Lib.hid q0
  have FA := Lib.hid fa
  have HW := Lib.hid hw
  have E4 := Lib.hid e4
  have HH1 := Lib.hid hH1
  have HN1 := Lib.hid hN1
  clear q0 fa hw hR hH hN hl e4 hH1 hN1
  unfold dc
  go_enter Tryz.func56, Tryz.ntmps56
  go_wp2_with fail
  refine HW.out.mono ?_
  rintro e w1 ⟨v1, rfl, o1, f1⟩
  obtain ⟨A1, c1, rfl, -, hc1, hc2, -⟩ := o1.slice
  have HC2 := Lib.hid hc2
  obtain ⟨rn1, hrn1⟩ : ∃ rn1, r1.length = rn1 := ⟨_, rfl⟩
  rw [hrn1] at o1 hc1 hl1 ⊢
  have HRN := Lib.hid hrn1
  have hb := Q0.out.fr f1 (fun h => h)
  have k0 := hb.cell 0
  have k1 := hb.cell 1
  have k2 := hb.cell 2
  have k3 := hb.cell 3
  have k4 := hb.cell 4
  have k5 := hb.cell 5
  have k6 := hb.cell 6
  have k7 := hb.cell 7
  have k8 := hb.cell 8
  have k9 := hb.cell 9
  have k10 := hb.cell 10
  have z0 := hb.frozen 0
  have z1 := hb.frozen 1
  have z2 := hb.frozen 2
  have z3 := hb.frozen 3
  have z4 := hb.frozen 4
  have z5 := hb.frozen 5
  have z6 := hb.frozen 6
  have z7 := hb.frozen 7
  have z8 := hb.frozen 8
  have z9 := hb.frozen 9
  have z10 := hb.frozen 10
  simp only [dc, List.getElem?_toArray, List.getElem?_cons_zero, List.getElem?_cons_succ] at k0 k1 k2 k3 k4 k5 k6 k7 k8 k9 k10
  have HB := Lib.hid hb
  have O1 := Lib.hid o1
  have F1 := Lib.hid (FA.out.trans f1 (fun _ _ h => h))
  clear hb o1 f1 HW hc2 hrn1
  unfold dc
  go_upto_region 2 with fail
  refine abs_world (fun W => Hid (Blk W w.heap.size 79 (dc H1 (.slice A1 rn1 c1) N1 S)) ∧ Hid (OwnM W (w.heap.size + 1) 5 (.slice A1 rn1 c1) rn1 (bv r1)) ∧ Hid (Fr (fun _ => False) w W) ∧ Hid (w.heap.size + 1 ≤ W.heap.size)) ?_ ?_
  · have hs := (((((((((((HB.out.set_ 0 (.int .u32 (at_ H1 0 : Nat))).set_ 1 (.int .u32 (at_ H1 1 : Nat))).set_ 2 (.int .u32 (at_ H1 2 : Nat))).set_ 3 (.int .u32 (at_ H1 3 : Nat))).set_ 4 (.int .u32 (at_ H1 4 : Nat))).set_ 5 (.int .u32 (at_ H1 5 : Nat))).set_ 6 (.int .u32 (at_ H1 6 : Nat))).set_ 7 (.int .u32 (at_ H1 7 : Nat))).set_ 8 (.slice A1 rn1 c1)).set_ 9 (.int .u64 (N1 : Int))).set_ 10 (.int .i64 S))
    rw [dc_all] at hs
    have hff := ((((((((((((Fr.refl (fun k => k = w.heap.size) w1).setCell (p := ⟨w.heap.size, 0, none⟩) (fun _ => rfl) (.int .u32 (at_ H1 0 : Nat))).setCell (p := ⟨w.heap.size, 1, none⟩) (fun _ => rfl) (.int .u32 (at_ H1 1 : Nat))).setCell (p := ⟨w.heap.size, 2, none⟩) (fun _ => rfl) (.int .u32 (at_ H1 2 : Nat))).setCell (p := ⟨w.heap.size, 3, none⟩) (fun _ => rfl) (.int .u32 (at_ H1 3 : Nat))).setCell (p := ⟨w.heap.size, 4, none⟩) (fun _ => rfl) (.int .u32 (at_ H1 4 : Nat))).setCell (p := ⟨w.heap.size, 5, none⟩) (fun _ => rfl) (.int .u32 (at_ H1 5 : Nat))).setCell (p := ⟨w.heap.size, 6, none⟩) (fun _ => rfl) (.int .u32 (at_ H1 6 : Nat))).setCell (p := ⟨w.heap.size, 7, none⟩) (fun _ => rfl) (.int .u32 (at_ H1 7 : Nat))).setCell (p := ⟨w.heap.size, 8, none⟩) (fun _ => rfl) (.slice A1 rn1 c1)).setCell (p := ⟨w.heap.size, 9, none⟩) (fun _ => rfl) (.int .u64 (N1 : Int))).setCell (p := ⟨w.heap.size, 10, none⟩) (fun _ => rfl) (.int .i64 S))
    exact ⟨hs, O1.out.fr hff (fun k hk e => by have := (O1.out.own_ne hk).1; omega), F1.out.trans hff (fun k hk e => by omega), Nat.lt_of_lt_of_le HB.out.lt hff.size⟩
  clear k0 k1 k2 k3 k4 k5 k6 k7 k8 k9 k10 z0 z1 z2 z3 z4 z5 z6 z7 z8 z9 z10
  rintro W2 ⟨HB2, HO2, HF2, HZ2⟩
  clear HB O1 F1 Q0 FA
  have k10 : W2.cell? ⟨w.heap.size, 10, none⟩ = some (.int .i64 S) := HB2.out.cell 10
  rcases hS with hS | hS
  · have h1 : decide (S < 1) = true := decide_eq_true hS
    go_wp2_with fail
    go_ret
    exact ⟨rfl, HF2.out⟩
  · have h1 : decide (S < 1) = false := decide_eq_false (by omega)
    have h2 : decide (32 < S) = true := decide_eq_true hS
    go_wp2_with fail
    go_ret
    exact ⟨rfl, HF2.out⟩

set_option maxRecDepth 100000 in
set_option maxHeartbeats 2000000 in
theorem rsum_c (w : World) (H : List Nat) (R : Option Addr) (rn rc : Nat) (r : List UInt8) (N : Nat) (s : Nat) (hH : Ws 8 H) (hR : Rd w R rn (bv r)) (hrc : rn ≤ rc ∧ rc ≤ maxLen) (hN : N < 18446744073709551616) (hl : r.length ≤ 1000000000000) (hS : 1 ≤ s ∧ s ≤ 32) :
    Calls Tryz.prog 56 #[.agg (dc H (.slice R rn rc) N s)] w fun e w' => ∃ v, e = .returned v ∧ w'.ownsRow w.heap.size 5 1 v s (bv (sumL H N r s)) ∧ Fr (fun _ => False) w w' := by
  have q0 := Blk.new w 79 (dc H (.slice R rn rc) N s)
  have fa := (Fr.refl (fun _ => False) w).alloc (.cells (dc H (.slice R rn rc) N s) 79)
  have hw := rwrite_c (w.alloc (.cells (dc H (.slice R rn rc) N s) 79)) H R rn rc r N s none 0 0 [] hH (hR.far fa) hrc (Rd.none_ _ _) ⟨Nat.le_refl _, by unfold maxLen; omega⟩ hN (by simpa using hl)
  rw [List.append_nil, World.size_alloc] at hw
  have hok := wrL_ok _ r H N (Nat.le_refl _) hH hN
  have e4 : sumL H N r s = bytesL (endL (wrL H N r).1 (wrL H N r).2.1 (wrL H N r).2.2) s := rfl
  obtain ⟨st, hst⟩ : ∃ st, wrL H N r = st := ⟨_, rfl⟩
  rw [hst] at hw hok e4
  clear hst
  obtain ⟨H1, N1, r1⟩ := st
  dsimp only at hw hok e4
  obtain ⟨⟨hH1, hN1⟩, hl1, -⟩ := hok
  dsimp only at hH1 hN1 hl1
  have Q0 := Lib.hid q0
  have FA := Lib.hid fa
  have HW := Lib.hid hw
  have E4 := Lib.hid e4
  have HH1 := Lib.hid hH1
  have HN1 := Lib.hid hN1
  clear q0 fa hw hR hH hN hl e4 hH1 hN1
  unfold dc
  go_enter Tryz.func56, Tryz.ntmps56
  go_wp2_with fail
  refine HW.out.mono ?_
  rintro e w1 ⟨v1, rfl, o1, f1⟩
  obtain ⟨A1, c1, rfl, -, hc1, hc2, -⟩ := o1.slice
  have HC2 := Lib.hid hc2
  obtain ⟨rn1, hrn1⟩ : ∃ rn1, r1.length = rn1 := ⟨_, rfl⟩
  rw [hrn1] at o1 hc1 hl1 ⊢
  have HRN := Lib.hid hrn1
  have hb := Q0.out.fr f1 (fun h => h)
  have k0 := hb.cell 0
  have k1 := hb.cell 1
  have k2 := hb.cell 2
  have k3 := hb.cell 3
  have k4 := hb.cell 4
  have k5 := hb.cell 5
  have k6 := hb.cell 6
  have k7 := hb.cell 7
  have k8 := hb.cell 8
  have k9 := hb.cell 9
  have k10 := hb.cell 10
  have z0 := hb.frozen 0
  have z1 := hb.frozen 1
  have z2 := hb.frozen 2
  have z3 := hb.frozen 3
  have z4 := hb.frozen 4
  have z5 := hb.frozen 5
  have z6 := hb.frozen 6
  have z7 := hb.frozen 7
  have z8 := hb.frozen 8
  have z9 := hb.frozen 9
  have z10 := hb.frozen 10
  simp only [dc, List.getElem?_toArray, List.getElem?_cons_zero, List.getElem?_cons_succ] at k0 k1 k2 k3 k4 k5 k6 k7 k8 k9 k10
  have HB := Lib.hid hb
  have O1 := Lib.hid o1
  have F1 := Lib.hid (FA.out.trans f1 (fun _ _ h => h))
  clear hb o1 f1 HW hc2 hrn1
  unfold dc
  go_upto_region 2 with fail
  refine abs_world (fun W => Hid (Blk W w.heap.size 79 (dc H1 (.slice A1 rn1 c1) N1 s)) ∧ Hid (OwnM W (w.heap.size + 1) 5 (.slice A1 rn1 c1) rn1 (bv r1)) ∧ Hid (Fr (fun _ => False) w W) ∧ Hid (w.heap.size + 1 ≤ W.heap.size)) ?_ ?_
  · have hs := (((((((((((HB.out.set_ 0 (.int .u32 (at_ H1 0 : Nat))).set_ 1 (.int .u32 (at_ H1 1 : Nat))).set_ 2 (.int .u32 (at_ H1 2 : Nat))).set_ 3 (.int .u32 (at_ H1 3 : Nat))).set_ 4 (.int .u32 (at_ H1 4 : Nat))).set_ 5 (.int .u32 (at_ H1 5 : Nat))).set_ 6 (.int .u32 (at_ H1 6 : Nat))).set_ 7 (.int .u32 (at_ H1 7 : Nat))).set_ 8 (.slice A1 rn1 c1)).set_ 9 (.int .u64 (N1 : Int))).set_ 10 (.int .i64 (s : Int)))
    rw [dc_all] at hs
    have hff := ((((((((((((Fr.refl (fun k => k = w.heap.size) w1).setCell (p := ⟨w.heap.size, 0, none⟩) (fun _ => rfl) (.int .u32 (at_ H1 0 : Nat))).setCell (p := ⟨w.heap.size, 1, none⟩) (fun _ => rfl) (.int .u32 (at_ H1 1 : Nat))).setCell (p := ⟨w.heap.size, 2, none⟩) (fun _ => rfl) (.int .u32 (at_ H1 2 : Nat))).setCell (p := ⟨w.heap.size, 3, none⟩) (fun _ => rfl) (.int .u32 (at_ H1 3 : Nat))).setCell (p := ⟨w.heap.size, 4, none⟩) (fun _ => rfl) (.int .u32 (at_ H1 4 : Nat))).setCell (p := ⟨w.heap.size, 5, none⟩) (fun _ => rfl) (.int .u32 (at_ H1 5 : Nat))).setCell (p := ⟨w.heap.size, 6, none⟩) (fun _ => rfl) (.int .u32 (at_ H1 6 : Nat))).setCell (p := ⟨w.heap.size, 7, none⟩) (fun _ => rfl) (.int .u32 (at_ H1 7 : Nat))).setCell (p := ⟨w.heap.size, 8, none⟩) (fun _ => rfl) (.slice A1 rn1 c1)).setCell (p := ⟨w.heap.size, 9, none⟩) (fun _ => rfl) (.int .u64 (N1 : Int))).setCell (p := ⟨w.heap.size, 10, none⟩) (fun _ => rfl) (.int .i64 (s : Int)))
    exact ⟨hs, O1.out.fr hff (fun k hk e => by have := (O1.out.own_ne hk).1; omega), F1.out.trans hff (fun k hk e => by omega), Nat.lt_of_lt_of_le HB.out.lt hff.size⟩
  clear k0 k1 k2 k3 k4 k5 k6 k7 k8 k9 k10 z0 z1 z2 z3 z4 z5 z6 z7 z8 z9 z10
  rintro W2 ⟨HB2, HO2, HF2, HZ2⟩
  clear HB O1 F1 Q0 FA
  have k8 : W2.cell? ⟨w.heap.size, 8, none⟩ = some (.slice A1 rn1 c1) := HB2.out.cell 8
  have k9 : W2.cell? ⟨w.heap.size, 9, none⟩ = some (.int .u64 (N1 : Int)) := HB2.out.cell 9
  have k10 : W2.cell? ⟨w.heap.size, 10, none⟩ = some (.int .i64 (s : Int)) := HB2.out.cell 10
  have h1 : decide ((s : Int) < 1) = false := decide_eq_false (by omega)
  have h2 : decide (32 < (s : Int)) = false := decide_eq_false (by omega)
  obtain ⟨N2, hN2⟩ : ∃ N2, (N1 + rn1) % 18446744073709551616 = N2 := ⟨_, rfl⟩
  have hN2l : N2 < 18446744073709551616 := by rw [← hN2]; exact Nat.mod_lt _ (by omega)
  have e1 : IntKind.u64.wrap (rn1 : Int) = (rn1 : Int) := by rw [IntKind.wrap_u64]; omega
  have e2 : IntKind.u64.wrap ((N1 : Int) + (rn1 : Int)) = (N2 : Int) := by rw [IntKind.wrap_u64, ← hN2]; omega
  have HN2 := Lib.hid hN2
  have HN2l := Lib.hid hN2l
  clear hN2 hN2l
  go_upto_region 7 with fail
  clear k8 k9 k10 h1 h2 e1 e2
  obtain ⟨i0, hi0, hz0', hz1', hz2'⟩ := info_parts u8_info
  have HI := Lib.hid hi0
  clear hi0
  have O2' : Hid (OwnM W2 (w.heap.size + 1) 5 (.slice A1 rn1 c1) rn1 (bv (r1 ++ List.replicate (rn1 - rn1) (0 : UInt8)))) := by
    rw [Nat.sub_self, List.replicate_zero, List.append_nil]
    exact HO2.out
  go_loopw [5] (fun u wr => ∃ (Aq : Option Addr) (p cq : Nat), u = .slice Aq p cq ∧ rn1 ≤ p ∧ p ≤ 64 ∧ p ≤ cq ∧ Hid (cq ≤ maxLen) ∧ Hid (OwnM wr (w.heap.size + 1) 5 (.slice Aq p cq) p (bv (r1 ++ List.replicate (p - rn1) (0 : UInt8)))) ∧ Hid (Fr (fun k => w.heap.size + 1 ≤ k) W2 wr)) (fun u _ => match u with | .slice _ p _ => 64 - p | _ => 0)
  case atStart => exact ⟨A1, rn1, c1, rfl, Nat.le_refl _, hl1, hc1, HC2.out, O2'.out, Fr.refl _ _⟩
  case round =>
    obtain ⟨Aq, p, cq, rfl, hp1, hp2, hpc, hcm, ho, hf⟩ := hrel
    have hzr := Nat.le_trans HZ2.out hf.out.size
    by_cases hlt : p < 64
    · have hdl2 : decide ((p : Int) < 64) = true := decide_eq_true (by omega)
      have BL := Lib.hid (Blk.new wr 5 #[.int .u8 0])
      have OW := Lib.hid (ho.out.far ((Fr.refl _ wr).alloc (.cells #[.int .u8 0] 5)))
      have GW := Lib.hid (hf.out.alloc (.cells #[.int .u8 0] 5))
      have hzr2 : w.heap.size + 1 ≤ (wr.alloc (.cells #[.int .u8 0] 5)).heap.size := by rw [World.size_alloc]; omega
      have HZR2 := Lib.hid hzr2
      clear hzr2
      go_wp2_with (first
        | (at_builtin
           refine wpList_appm rfl _ _ _ _ rfl (w.heap.size + 1) 5 i0 _ 1 Tryz.underlying43 HI.out hz0' hz1' hz2' rfl _ p _ rfl OW.out _ 1 _ rfl (Src.rd Tryz.underlying43 _ (Rd.of_blk (n := 1) BL.out (by simp)) (by simp [Value.oneCell'])) (by omega) (by unfold maxLen; omega) HZR2.out ?_
           intro v9 w9 hown9 hf9 hn9
           have G9 := Lib.hid (GW.out.trans hf9 (fun k hk hq => (OW.out.own_ne hq).1))
           have H9 := Lib.hid hown9
           obtain ⟨A9, c9, rfl, -, hc9, hcm9, -⟩ := hown9.slice
           have HCM9 := Lib.hid hcm9
           clear hown9 hf9 hn9 hcm9))
      have e9 : bv (r1 ++ List.replicate (p - rn1) (0 : UInt8)) ++ List.take 1 (#[Value.int .u8 0] : Array Value).toList = bv (r1 ++ List.replicate (p + 1 - rn1) (0 : UInt8)) := by
        rw [show p + 1 - rn1 = (p - rn1) + 1 by omega, List.replicate_succ', ← List.append_assoc, bv_append (r1 ++ _)]
        rfl
      have h9 := H9.out
      rw [e9] at h9
      exact ⟨⟨A9, p + 1, c9, rfl, by omega, by omega, hc9, HCM9.out, h9, G9.out⟩, (by show 64 - (p + 1) < 64 - p; omega)⟩
    · obtain rfl : p = 64 := by omega
      have hdl2 : decide (((64 : Nat) : Int) < 64) = false := by decide
      have hpad : r1 ++ List.replicate (64 - rn1) (0 : UInt8) = pad r1 := by unfold pad; rw [HRN.out]
      have ho1 := ho.out
      rw [hpad] at ho1
      obtain ⟨_, _, esl, hrd, -⟩ := ho1.slice
      injection esl with e1 _ e3
      subst e1 e3
      have HRD := Lib.hid hrd
      have hb3 := HB2.out.fr hf.out (by omega)
      have HB3 := Lib.hid hb3
      have HF3 := Lib.hid (HF2.out.trans hf.out (fun k hk e => by omega))
      obtain ⟨M, hM⟩ : ∃ M, endL H1 N1 r1 = M := ⟨_, rfl⟩
      have hMe : mixL H1 (wds (pad r1)) N2 true = M := by rw [← hM, ← HN2.out, ← HRN.out]; rfl
      have hMw : Ws 8 M := by rw [← hMe]; exact HH1.out.ofMix _ _ HN2l.out true
      have hmc : Calls Tryz.prog 76 #[.agg (uv H1), .slice Aq 64 cq, .int .u64 (N2 : Int), .bool true] wr fun e w' => e = .returned (.agg (uv M)) ∧ Fr (fun _ => False) wr w' := by
        rw [← hMe]
        exact rmix_c wr H1 Aq cq (pad r1) N2 true HH1.out hrd HN2l.out
      rw [uv8 HH1.out, uv8 hMw] at hmc
      have e4 := E4.out
      rw [hM] at e4
      have E5 := Lib.hid e4
      have HMW := Lib.hid hMw
      have HMC := Lib.hid hmc
      clear hpad ho1 hrd hb3 hM hMe hMw hmc e4 E4 ho hf HO2 O2' HB2 HF2
      have k0 := HB3.out.cell 0
      have k1 := HB3.out.cell 1
      have k2 := HB3.out.cell 2
      have k3 := HB3.out.cell 3
      have k4 := HB3.out.cell 4
      have k5 := HB3.out.cell 5
      have k6 := HB3.out.cell 6
      have k7 := HB3.out.cell 7
      simp only [dc, List.getElem?_toArray, List.getElem?_cons_zero, List.getElem?_cons_succ] at k0 k1 k2 k3 k4 k5 k6 k7
      go_wp2_with fail
      refine HMC.out.mono ?_
      rintro e w4 ⟨rfl, f4⟩
      have HB4 := Lib.hid (HB3.out.fr f4 (fun h => h))
      have HF4 := Lib.hid (HF3.out.trans f4 (fun _ _ h => h))
      clear f4 HMC HB3 HF3 HRD k0 k1 k2 k3 k4 k5 k6 k7
      go_upto_region 10 with fail
      refine abs_world (fun W => Hid (Blk W w4.heap.size 77 (uv M)) ∧ Hid (Blk W w.heap.size 79 (dc H1 (.slice A1 rn1 c1) N1 s)) ∧ Hid (Fr (fun _ => False) w W) ∧ Hid (w.heap.size < w4.heap.size ∧ w4.heap.size < W.heap.size)) ⟨by rw [uv8 HMW.out]; exact Blk.new w4 _ _, HB4.out.alloc _, HF4.out.alloc _, HB4.out.lt, by simp⟩ ?_
      rintro W5 ⟨HM5, HB5, HF5, HZ5⟩
      clear HB4 HF4
      obtain ⟨g6, hg6⟩ : ∃ g, w4.heap.size = g := ⟨_, rfl⟩
      rw [hg6] at HM5 HZ5 ⊢
      clear hg6
      obtain ⟨gS, hgS⟩ : ∃ g, w.heap.size = g := ⟨_, rfl⟩
      rw [hgS] at HB5 HZ5 ⊢
      have HGS := Lib.hid hgS
      clear hgS
      obtain ⟨hz1, hz2⟩ := HZ5.out
      obtain ⟨B3, hB3⟩ : ∃ B, W5.heap.size = B := ⟨_, rfl⟩
      rw [hB3] at hz2
      have HBB := Lib.hid hB3
      clear hB3 HZ5
      go_wp2_with fail
      go_loopw [7, 3] (fun iv ov wr => ∃ (i : Nat) (Ao : Option Addr) (p co : Nat), iv = .int .i64 i ∧ i ≤ 8 ∧ ov = .slice Ao p co ∧ p = min (4 * i) s ∧ Hid (wr.ownsRow B3 5 1 (.slice Ao p co) p (bv ((bytesL M s).take p))) ∧ Hid (Fr (fun k => B3 ≤ k) W5 wr)) (fun iv _ _ => 8 - (intOf iv).toNat)
      case atStart => exact ⟨0, none, 0, 0, rfl, by omega, rfl, by omega, World.ownsRow_nil _ _ _ _, Fr.refl _ _⟩
      case round =>
        obtain ⟨i, Ao, p, co, rfl, hi8, rfl, hp, ho, hf⟩ := hrel
        have HP0 := Lib.hid hp
        clear hp
        by_cases hlt : i < 8
        · have hdl : decide ((i : Int) < 8) = true := decide_eq_true (by omega)
          have hbm := HM5.out.fr hf.out (by omega)
          have xm : wr.cell? ⟨g6, i, none⟩ = some (.int .u32 (at_ M i : Nat)) := by rw [hbm.cell, uv_get _ _ (by rw [HMW.out.1]; exact hlt)]
          have hxl := at_lt HMW.out i
          have hi8' : (i : Int) < 8 := by omega
          have HXM : Hid (at_ M i / 256 ^ 0 = at_ M i) := by show _ = _; simp
          clear hbm
          obtain ⟨X, hX⟩ : ∃ X, at_ M i = X := ⟨_, rfl⟩
          rw [hX] at xm hxl HXM
          have HX := Lib.hid hX
          clear hX
          go_wp2_with fail
          clear hdl xm
          go_loopw [9, 8, 3] (fun kv xv ov wq => ∃ (k x : Nat) (Ao : Option Addr) (p co : Nat), kv = .int .i64 k ∧ k ≤ 4 ∧ xv = .int .u32 (x : Int) ∧ Hid (x = X / 256 ^ k) ∧ ov = .slice Ao p co ∧ p = min (4 * i + k) s ∧ Hid (wq.ownsRow B3 5 1 (.slice Ao p co) p (bv ((bytesL M s).take p))) ∧ Hid (Fr (fun k => B3 ≤ k) W5 wq)) (fun kv _ _ _ => 4 - (intOf kv).toNat)
          case atStart => exact ⟨0, X, Ao, p, co, rfl, by omega, rfl, HXM.out.symm, rfl, by have := HP0.out; omega, ho.out, hf.out⟩
          case round =>
            obtain ⟨k, x, Ao, p, co, rfl, hk4, rfl, hx, rfl, hp, ho, hf⟩ := hrel
            have HP := Lib.hid hp
            clear hp
            have hxl2 : x < 4294967296 := by
              have := hx.out
              rw [this]
              exact Nat.lt_of_le_of_lt (Nat.div_le_self _ _) hxl
            by_cases hk : k < 4
            · have hdk : decide ((k : Int) < 4) = true := decide_eq_true (by omega)
              have k10 : wr.cell? ⟨gS, 10, none⟩ = some (.int .i64 (s : Int)) := (HB5.out.fr hf.out (by omega)).cell 10
              have hx0 : (0 : Int) ≤ (x : Int) := by omega
              have hnx : Hid (x / 256 = X / 256 ^ (k + 1)) := by
                show _ = _
                rw [hx.out, Nat.div_div_eq_div_mul, Nat.pow_succ]
              obtain ⟨x2, hx2⟩ : ∃ x2, x / 256 = x2 := ⟨_, rfl⟩
              rw [hx2] at hnx
              have hq : (x : Int) / 256 = (x2 : Int) := by omega
              clear hx2
              by_cases hps : p < s
              · have hds : decide (p < s) = true := decide_eq_true hps
                have hds' : decide ((p : Int) < (s : Int)) = true := decide_eq_true (by omega)
                obtain ⟨y, hy⟩ : ∃ y, x % 256 = y := ⟨_, rfl⟩
                have hy1 : (x : Int) % 256 = (y : Int) := by omega
                have hy2 : y < 256 := by omega
                have HY : Hid (byteL M p = y) := by
                  show _ = _
                  have hp2 : p = 4 * i + k := by have := HP.out; omega
                  unfold byteL
                  rw [hp2, show (4 * i + k) / 4 = i by omega, show (4 * i + k) % 4 = k by omega, HX.out, ← hy, hx.out, Nat.pow_mul]
                have BL := Lib.hid (Blk.new wr 5 #[.int .u8 (y : Int)])
                have OW := Lib.hid (own_fr ho.out (fp := fun _ => False) ((Fr.refl _ wr).alloc (.cells #[.int .u8 (y : Int)] 5)) (fun _ _ h => h))
                have GW := Lib.hid (hf.out.alloc (.cells #[.int .u8 (y : Int)] 5))
                have hzr2 : B3 ≤ (wr.alloc (.cells #[.int .u8 (y : Int)] 5)).heap.size := by rw [World.size_alloc]; have := hf.out.size; have := HBB.out; omega
                have HZR2 := Lib.hid hzr2
                clear hzr2 hy
                go_wp2_with (first
                  | (at_builtin
                     refine wpList_app rfl _ _ _ _ rfl B3 5 i0 _ 1 1 Tryz.underlying43 HI.out hz0' hz1' hz2' rfl _ p _ rfl OW.out _ 1 _ rfl (Src.rd Tryz.underlying43 _ (Rd.of_blk (n := 1) BL.out (by simp)) (by simp [Value.oneCell'])) (by omega) (by unfold maxLen; omega) HZR2.out ?_
                     intro v9 w9 hown9 hf9 hn9
                     have G9 := Lib.hid (GW.out.trans hf9 (fun k hk hq => (OW.out.lt k hq).1))
                     have H9 := Lib.hid hown9
                     obtain ⟨A9, c9, rfl, hc9, hcm9⟩ := own_slice hown9
                     clear hown9 hf9 hn9 hcm9))
                have e9 : bv ((bytesL M s).take p) ++ List.take 1 (#[Value.int .u8 (y : Int)] : Array Value).toList = bv ((bytesL M s).take (p + 1)) := by
                  have hl := bytesL_len M s
                  have hpl : p < (bytesL M s).length := by rw [hl]; exact hps
                  have hg := bytesL_at M s p hps
                  rw [bv_get (bytesL M s) p hpl, HY.out] at hg
                  injection hg with hg
                  rw [List.take_succ_eq_append_getElem hpl, bv_append]
                  congr 1
                  show [Value.int .u8 (y : Int)] = [Value.int .u8 _]
                  rw [hg]
                have h9 := H9.out
                rw [e9] at h9
                exact ⟨⟨k + 1, x2, A9, p + 1, c9, by go_num, by omega, rfl, hnx.out, rfl, by have := HP.out; omega, h9, G9.out⟩, by simp [intOf]; omega⟩
              · have hds : decide (p < s) = false := decide_eq_false hps
                have hds' : decide ((p : Int) < (s : Int)) = false := decide_eq_false (by omega)
                go_wp2_with fail
                exact ⟨⟨k + 1, x2, Ao, p, co, by go_num, by omega, rfl, hnx.out, rfl, by have := HP.out; omega, ho.out, hf.out⟩, by simp [intOf]; omega⟩
            · obtain rfl : k = 4 := by omega
              have hdk : decide (((4 : Nat) : Int) < 4) = false := by decide
              go_wp2_with fail
              exact ⟨⟨i + 1, Ao, p, co, by go_num, by omega, rfl, by have := HP.out; omega, ho.out, hf.out⟩, by simp [intOf]; omega⟩
        · obtain rfl : i = 8 := by omega
          have hdl : decide (((8 : Nat) : Int) < 8) = false := by decide
          have hps : p = s := by have := HP0.out; omega
          subst hps
          have ho1 := ho.out
          rw [List.take_of_length_le (by rw [bytesL_len]; exact Nat.le_refl _), ← E5.out] at ho1
          have HOO := Lib.hid ho1
          clear ho1
          go_wp2_with fail
          go_ret
          exact ⟨_, rfl, own_base HOO.out (fun k hk => by have := (HOO.out.lt k hk).1; have := HGS.out; omega), HF5.out.trans hf.out (fun k hk e => by have := HGS.out; omega)⟩
end Go.Proofs.YtjaocgmicdnghaaGreatDoor

/-
  CONTRACTS of the reference's Begin, Same, Of.
-/
namespace Go.Proofs.YtjaocgmicdnghaaGreatDoor
set_option linter.unusedSimpArgs false
set_option linter.unusedVariables false
open Go Go.RowKit Go.Shelf
attribute [local go_sem] Oper.semAt_some

theorem dc_seti (H : List Nat) (R : Value) (N : Nat) (S : Int) (i x : Nat) (hH : H.length = 8) (hi : i < 8) : (dc H R N S).setIfInBounds i (.int .u32 (x : Int)) = dc (H.set i x) R N S := by
  match H, hH with
  | [a, b, c, d, e, f, g, h], _ =>
    have : i = 0 ∨ i = 1 ∨ i = 2 ∨ i = 3 ∨ i = 4 ∨ i = 5 ∨ i = 6 ∨ i = 7 := by omega
    rcases this with rfl | rfl | rfl | rfl | rfl | rfl | rfl | rfl <;> rfl
/-- The first words, noughts behind. -/
def bi (i : Nat) : List Nat := (List.range 8).map fun j => if j < i then at_ ivs j else 0
theorem bi_len (i : Nat) : (bi i).length = 8 := by simp [bi]
theorem bi_zero : bi 0 = List.replicate 8 0 := rfl
theorem bi_all : bi 8 = ivs := rfl
theorem bi_step (i : Nat) (h : i < 8) : (bi i).set i (at_ ivs i) = bi (i + 1) := by
  have : i = 0 ∨ i = 1 ∨ i = 2 ∨ i = 3 ∨ i = 4 ∨ i = 5 ∨ i = 6 ∨ i = 7 := by omega
  rcases this with rfl | rfl | rfl | rfl | rfl | rfl | rfl | rfl <;> rfl

set_option maxRecDepth 100000 in
set_option maxHeartbeats 1000000 in
theorem rbegin_c (w : World) (S : Nat) (hS : S ≤ 32) : Calls Tryz.prog 58 #[.int .i64 (S : Int)] w fun e w' => e = .returned (.agg (dc (begL S) (.slice none 0 0) 0 S)) ∧ Fr (fun _ => False) w w' := by
  go_enter Tryz.func58, Tryz.ntmps58
  go_upto_region 2 with fail
  refine abs_world (fun W => Hid (Blk W w.heap.size 79 (dc [] (.slice none 0 0) 0 0)) ∧ Hid (Blk W (w.heap.size + 1) 79 (dc (bi 0) (.slice none 0 0) 0 S)) ∧ Hid (Fr (fun _ => False) w W)) ?_ ?_
  · have b0 := Blk.new w 79 (dc [] (.slice none 0 0) 0 0)
    have b1 := Blk.new (w.alloc (.cells (dc [] (.slice none 0 0) 0 0) 79)) 79 (dc (bi 0) (.slice none 0 0) 0 S)
    rw [World.size_alloc] at b1
    exact ⟨b0.alloc _, b1, ((Fr.refl _ w).alloc _).alloc _⟩
  rintro W1 ⟨HB0, HB1, HF1⟩
  obtain ⟨g, hg⟩ : ∃ g, w.heap.size = g := ⟨_, rfl⟩
  rw [hg] at HB0 HB1 ⊢
  have HG := Lib.hid hg
  clear hg
  go_wp2_with fail
  go_loopw [4] (fun iv wr => ∃ i : Nat, i ≤ 8 ∧ iv = .int .i64 i ∧ Hid (Blk wr (g + 1) 79 (dc (bi i) (.slice none 0 0) 0 S)) ∧ Hid (Fr (fun k => k = g + 1) W1 wr)) (fun iv _ => 8 - (intOf iv).toNat)
  case atStart => exact ⟨0, Nat.zero_le _, rfl, HB1.out, Fr.refl _ _⟩
  case round =>
    obtain ⟨i, hi, rfl, hb, hf⟩ := hrel
    by_cases h8 : i < 8
    · have h8' : decide ((i : Int) < 8) = true := decide_eq_true (by omega)
      have hi8 : (i : Int) < 8 := by omega
      go_wp2_with fail
      refine (riv_c _ i h8).mono ?_
      rintro e w3 ⟨rfl, f3⟩
      have hb3 := hb.out.fr f3 (fun h => h)
      have z := hb3.frozen i
      have c : w3.cell? ⟨g + 1, i, none⟩ = some (.int .u32 (at_ (bi i) i : Nat)) := by
        rw [hb3.cell]
        have : i = 0 ∨ i = 1 ∨ i = 2 ∨ i = 3 ∨ i = 4 ∨ i = 5 ∨ i = 6 ∨ i = 7 := by omega
        rcases this with rfl | rfl | rfl | rfl | rfl | rfl | rfl | rfl <;> rfl
      have HB3 := Lib.hid hb3
      have HF3 := Lib.hid (hf.out.trans f3 (fun _ _ h => h.elim))
      clear hb3 f3 h8'
      go_wp2_with fail
      have hs := HB3.out.set_ i (.int .u32 (at_ ivs i : Nat))
      rw [dc_seti _ _ _ _ _ _ (bi_len i) h8, bi_step i h8] at hs
      exact ⟨⟨i + 1, by omega, by go_num, hs, HF3.out.setCell (p := ⟨g + 1, i, none⟩) (fun _ => rfl) _⟩, by simp [intOf]; omega⟩
    · have h8' : decide ((i : Int) < 8) = false := by simp; omega
      obtain rfl : i = 8 := by omega
      have hb1 := hb.out
      rw [bi_all] at hb1
      have hb0 := HB0.out.fr hf.out (by omega)
      have HB := Lib.hid hb1
      have F2 := Lib.hid (HF1.out.trans hf.out (fun k hk e => by have := HG.out; omega))
      have k0 := HB.out.cell 0
      have k1 := HB.out.cell 1
      have k2 := HB.out.cell 2
      have k3 := HB.out.cell 3
      have k4 := HB.out.cell 4
      have k5 := HB.out.cell 5
      have k6 := HB.out.cell 6
      have k7 := HB.out.cell 7
      have k8 := HB.out.cell 8
      have k9 := HB.out.cell 9
      have k10 := HB.out.cell 10
      simp only [dc, List.getElem?_toArray, List.getElem?_cons_zero, List.getElem?_cons_succ] at k0 k1 k2 k3 k4 k5 k6 k7 k8 k9 k10
      have z0 := HB.out.frozen 0
      have z1 := HB.out.frozen 1
      have z2 := HB.out.frozen 2
      have z3 := HB.out.frozen 3
      have z4 := HB.out.frozen 4
      have z5 := HB.out.frozen 5
      have z6 := HB.out.frozen 6
      have z7 := HB.out.frozen 7
      have z8 := HB.out.frozen 8
      have z9 := HB.out.frozen 9
      have z10 := HB.out.frozen 10
      have m0 := hb0.cell 0
      have m1 := hb0.cell 1
      have m2 := hb0.cell 2
      have m3 := hb0.cell 3
      have m4 := hb0.cell 4
      have m5 := hb0.cell 5
      have m6 := hb0.cell 6
      have m7 := hb0.cell 7
      have m8 := hb0.cell 8
      have m9 := hb0.cell 9
      have m10 := hb0.cell 10
      simp only [dc, List.getElem?_toArray, List.getElem?_cons_zero, List.getElem?_cons_succ] at m0 m1 m2 m3 m4 m5 m6 m7 m8 m9 m10
      have y0 := hb0.frozen 0
      have y1 := hb0.frozen 1
      have y2 := hb0.frozen 2
      have y3 := hb0.frozen 3
      have y4 := hb0.frozen 4
      have y5 := hb0.frozen 5
      have y6 := hb0.frozen 6
      have y7 := hb0.frozen 7
      have y8 := hb0.frozen 8
      have y9 := hb0.frozen 9
      have y10 := hb0.frozen 10
      have k0l := at_lt ws_ivs 0
      have hSI : (0 : Int) ≤ (S : Int) := by omega
      have hSI2 : (S : Int) ≤ 32 := by omega
      have hx1 : bits .xor .u32 (at_ ivs 0 : Int) 16842752 = ((at_ ivs 0 ^^^ 16842752 : Nat) : Int) := u32_xor_nat _ 16842752 k0l (by omega)
      have hx2 : bits .xor .u32 ((at_ ivs 0 ^^^ 16842752 : Nat) : Int) (S : Int) = ((at_ (begL S) 0 : Nat) : Int) := by
        rw [u32_xor_nat _ _ (Nat.xor_lt_two_pow (n := 32) k0l (by omega)) (by omega), Nat.xor_assoc]
        rfl
      obtain ⟨q1, hq1⟩ : ∃ q, at_ ivs 0 ^^^ 16842752 = q := ⟨_, rfl⟩
      rw [hq1] at hx1 hx2
      clear hb hb1 hb0 hf h8' hq1 k0l
      go_wp2_with fail
      have e : dc (begL S) (.slice none 0 0) 0 (S : Int) = #[.int .u32 (at_ (begL S) 0 : Nat), .int .u32 (at_ ivs 1 : Nat), .int .u32 (at_ ivs 2 : Nat), .int .u32 (at_ ivs 3 : Nat), .int .u32 (at_ ivs 4 : Nat), .int .u32 (at_ ivs 5 : Nat), .int .u32 (at_ ivs 6 : Nat), .int .u32 (at_ ivs 7 : Nat), .slice none 0 0, .int .u64 0, .int .i64 (S : Int)] := rfl
      rw [e]
      have hff := (((((((((((((Fr.refl (fun k => k = g ∨ k = g + 1) wr).setCell (p := ⟨g + 1, 0, none⟩) (fun _ => .inr rfl) (.int .u32 (at_ (begL S) 0 : Nat))).setCell (p := ⟨g, 0, none⟩) (fun _ => .inl rfl) (.int .u32 (at_ (begL S) 0 : Nat))).setCell (p := ⟨g, 1, none⟩) (fun _ => .inl rfl) (.int .u32 (at_ ivs 1 : Nat))).setCell (p := ⟨g, 2, none⟩) (fun _ => .inl rfl) (.int .u32 (at_ ivs 2 : Nat))).setCell (p := ⟨g, 3, none⟩) (fun _ => .inl rfl) (.int .u32 (at_ ivs 3 : Nat))).setCell (p := ⟨g, 4, none⟩) (fun _ => .inl rfl) (.int .u32 (at_ ivs 4 : Nat))).setCell (p := ⟨g, 5, none⟩) (fun _ => .inl rfl) (.int .u32 (at_ ivs 5 : Nat))).setCell (p := ⟨g, 6, none⟩) (fun _ => .inl rfl) (.int .u32 (at_ ivs 6 : Nat))).setCell (p := ⟨g, 7, none⟩) (fun _ => .inl rfl) (.int .u32 (at_ ivs 7 : Nat))).setCell (p := ⟨g, 8, none⟩) (fun _ => .inl rfl) (.slice none 0 0)).setCell (p := ⟨g, 9, none⟩) (fun _ => .inl rfl) (.int .u64 0)).setCell (p := ⟨g, 10, none⟩) (fun _ => .inl rfl) (.int .i64 (S : Int)))
      exact bodyPost_ret (by simp [results, Tryz.results58, go_sem, m0, m1, m2, m3, m4, m5, m6, m7, m8, m9, m10]) rfl ⟨rfl, F2.out.trans hff (fun k hk e => by have := HG.out; omega)⟩

end Go.Proofs.YtjaocgmicdnghaaGreatDoor

/-
  CONTRACTS of the reference's Of and Short, and of digest's Short.
-/
namespace Go.Proofs.YtjaocgmicdnghaaGreatDoor
set_option linter.unusedSimpArgs false
set_option linter.unusedVariables false
open Go Go.RowKit Go.Shelf
attribute [local go_sem] Oper.semAt_some

set_option maxRecDepth 100000 in
set_option maxHeartbeats 1000000 in
theorem rof_c (w : World) (S : Nat) (A : Option Addr) (n c : Nat) (b : List UInt8) (hS : 1 ≤ S ∧ S ≤ 32) (hA : Rd w A n (bv b)) (hn : n ≤ c ∧ c ≤ maxLen) (hl : b.length ≤ 100000000000) :
    Calls Tryz.prog 34 #[.int .i64 (S : Int), .slice A n c] w fun e w' => ∃ v, e = .returned v ∧ w'.ownsRow w.heap.size 5 1 v S (bv (sumL (begL S) 0 b S)) ∧ Fr (fun _ => False) w w' := by
  have HA := Lib.hid hA
  have HL := Lib.hid hl
  have HN := Lib.hid hn
  have hw0 := ws_begL S hS.2
  have hok := wrL_ok _ b (begL S) 0 (Nat.le_refl _) hw0 (by omega)
  have hsa := sum_again (begL S) 0 b S hw0 (by omega)
  obtain ⟨B, hB⟩ : ∃ B, begL S = B := ⟨_, rfl⟩
  rw [hB] at hw0 hok hsa ⊢
  obtain ⟨st, hst⟩ : ∃ st, wrL B 0 b = st := ⟨_, rfl⟩
  rw [hst] at hok hsa
  obtain ⟨H1, N1, r1⟩ := st
  dsimp only at hok hsa
  obtain ⟨⟨hH1, hN1⟩, hl1, -⟩ := hok
  dsimp only at hH1 hN1 hl1
  have HW0 := Lib.hid hw0
  have HB := Lib.hid hB
  have HST := Lib.hid hst
  have HSA := Lib.hid hsa
  have HH1 := Lib.hid hH1
  have HN1 := Lib.hid hN1
  have HL1 := Lib.hid hl1
  clear hA hl hn hw0 hB hst hsa hH1 hN1 hl1
  go_enter Tryz.func34, Tryz.ntmps34
  go_wp2_with fail
  refine (rbegin_c w S hS.2).mono ?_
  rintro e w1 ⟨rfl, f1⟩
  rw [HB.out]
  have F1 := Lib.hid f1
  clear f1
  go_wp2_with fail
  have hw := rwrite_c w1 B none 0 0 [] 0 S A n c b HW0.out (Rd.none_ _ _) ⟨Nat.le_refl _, by unfold maxLen; omega⟩ (HA.out.far F1.out) HN.out (by omega) (by simpa using Nat.le_trans HL.out (by omega))
  rw [List.nil_append, HST.out] at hw
  refine hw.mono ?_
  clear hw
  rintro e w2 ⟨v, rfl, o2, f2⟩
  dsimp only
  obtain ⟨A2, c2, rfl, rd2, h1, h2, -⟩ := o2.slice
  have F2 := Lib.hid (F1.out.trans f2 (fun _ _ h => h))
  have RD2 := Lib.hid rd2
  have H12 := Lib.hid (And.intro h1 h2)
  clear o2 f2 rd2 h1 h2
  go_wp2_with fail
  have hw := rsum_c w2 H1 A2 r1.length c2 r1 N1 S HH1.out RD2.out H12.out HN1.out (by have := HL1.out; omega) hS
  rw [HSA.out] at hw
  refine hw.mono ?_
  clear hw
  rintro e w3 ⟨v, rfl, o3, f3⟩
  have O3 := Lib.hid o3
  have F3 := Lib.hid (F2.out.trans f3 (fun _ _ h => h))
  have HZ := Lib.hid F2.out.size
  clear o3 f3
  go_wp2_with fail
  go_ret
  exact ⟨_, rfl, own_base O3.out (fun k hk => Nat.le_trans HZ.out (O3.out.lt k hk).1), F3.out⟩
def rshX (g : Nat) (A : Option Addr) (n c : Nat) (q : List UInt8) (i : Nat) (v : Value) (W : World) : Prop := match i with
  | 0 => v = .slice (some ⟨g, 0, none⟩) 16 16
  | 1 => v = .slice A n c
  | 2 => ∃ A9 c9, v = .slice A9 16 c9 ∧ Rd W A9 16 (bv q)
  | 3 => v = .int .i64 16
  | _ => True
theorem rshX_far {g : Nat} {A : Option Addr} {n c : Nat} {q : List UInt8} {i : Nat} {v : Value} {W W' : World} (hg : Fr (fun _ => False) W W') (hx : rshX g A n c q i v W) : rshX g A n c q i v W' := by
  match i with
  | 0 => exact hx
  | 1 => exact hx
  | 2 => obtain ⟨a, c, e, r⟩ := hx; exact ⟨a, c, e, r.far hg⟩
  | 3 => exact hx
  | (n + 4) => exact hx
set_option maxRecDepth 100000 in
set_option maxHeartbeats 1000000 in
theorem rshort_c (w : World) (A : Option Addr) (n c : Nat) (b : List UInt8) (hA : Rd w A n (bv b)) (hn : n ≤ c ∧ c ≤ maxLen) (hl : b.length ≤ 100000000000) :
    Calls Tryz.prog 19 #[.slice A n c] w fun e w' => e = .returned (.agg (b16 (sumL (begL 16) 0 b 16))) ∧ Fr (fun _ => False) w w' := by
  obtain ⟨q, hq⟩ : ∃ q, sumL (begL 16) 0 b 16 = q := ⟨_, rfl⟩
  have hql : q.length = 16 := by rw [← hq]; exact bytesL_len _ _
  have hof : ∀ W, Fr (fun _ => False) w W → Calls Tryz.prog 34 #[.int .i64 16, .slice A n c] W fun e w' => ∃ A9 c9, e = .returned (.slice A9 16 c9) ∧ Rd w' A9 16 (bv q) ∧ Fr (fun _ => False) W w' := fun W hW => by
    have h := rof_c W 16 A n c b (by omega) (hA.far hW) hn hl
    rw [hq] at h
    refine h.mono ?_
    rintro e w' ⟨v, rfl, o, f⟩
    obtain ⟨A9, c9, rfl, -, -⟩ := own_slice o
    exact ⟨A9, c9, rfl, Rd.of_own o, f⟩
  rw [hq]
  have HOF0 := Lib.hid hof
  have HQL := Lib.hid hql
  clear hof hA hn hl hq hql
  go_enter Tryz.func19, Tryz.ntmps19
  go_upto_region 2 with fail
  refine abs_world (fun W => Hid (Blk W w.heap.size 23 #[.int .u8 0, .int .u8 0, .int .u8 0, .int .u8 0, .int .u8 0, .int .u8 0, .int .u8 0, .int .u8 0, .int .u8 0, .int .u8 0, .int .u8 0, .int .u8 0, .int .u8 0, .int .u8 0, .int .u8 0, .int .u8 0]) ∧ Hid (Blk W (w.heap.size + 1) 23 #[.int .u8 0, .int .u8 0, .int .u8 0, .int .u8 0, .int .u8 0, .int .u8 0, .int .u8 0, .int .u8 0, .int .u8 0, .int .u8 0, .int .u8 0, .int .u8 0, .int .u8 0, .int .u8 0, .int .u8 0, .int .u8 0]) ∧ Hid (Fr (fun _ => False) w W)) ?_ ?_
  · have b0 := Blk.new w 23 #[.int .u8 0, .int .u8 0, .int .u8 0, .int .u8 0, .int .u8 0, .int .u8 0, .int .u8 0, .int .u8 0, .int .u8 0, .int .u8 0, .int .u8 0, .int .u8 0, .int .u8 0, .int .u8 0, .int .u8 0, .int .u8 0]
    have b1 := Blk.new (w.alloc (.cells #[.int .u8 0, .int .u8 0, .int .u8 0, .int .u8 0, .int .u8 0, .int .u8 0, .int .u8 0, .int .u8 0, .int .u8 0, .int .u8 0, .int .u8 0, .int .u8 0, .int .u8 0, .int .u8 0, .int .u8 0, .int .u8 0] 23)) 23 #[.int .u8 0, .int .u8 0, .int .u8 0, .int .u8 0, .int .u8 0, .int .u8 0, .int .u8 0, .int .u8 0, .int .u8 0, .int .u8 0, .int .u8 0, .int .u8 0, .int .u8 0, .int .u8 0, .int .u8 0, .int .u8 0]
    rw [World.size_alloc] at b1
    exact ⟨b0.alloc _, b1, ((Fr.refl _ w).alloc _).alloc _⟩
  rintro W1 ⟨B0, B1, HF1⟩
  obtain ⟨g, hg⟩ : ∃ g, w.heap.size + 1 = g := ⟨_, rfl⟩
  rw [hg] at B1 ⊢
  have HG := Lib.hid hg
  clear hg
  have hof2 := fun W (hW : Fr (fun _ => False) W1 W) => HOF0.out W (HF1.out.trans hW (fun _ _ h => h))
  have HOF := Lib.hid hof2
  clear hof2 HOF0
  refine (wpIn_wide (n := 9)).1 ?_
  refine wpIn_region_factsG (ms := [0, 0, 2, 7]) (k := 3) (Fr (fun _ => False)) (rshX g A n c q) (fun i v W => True) (by kernel_rfl) (by kernel_rfl) (Fr.refl _ _) (fun a b c h1 h2 => h1.trans h2 (fun _ _ h => h)) (fun i v w w' hg hx => rshX_far hg hx) ?walk2
  case walk2 =>
  have hdr : ∀ W, Fr (fun _ => False) W1.drew W → Fr (fun _ => False) W1 W := fun W h => ((Fr.refl (fun _ => False) W1).drew).trans h (fun _ _ h => h)
  have HDR := Lib.hid hdr
  clear hdr
  refine factWalkG_cons (fun W hW hf K hK => ?_) (fun x0 => ?_)
  · skip
    refine ⟨by kernel_rfl, ?_⟩
    gi_step
    exact hK _ _ (Fr.refl _ _) rfl trivial
  simp only [Act.put, List.setIfInBounds_toArray, List.set_cons_succ, List.set_cons_zero]
  refine factWalkG_cons (fun W hW hf K hK => ?_) (fun x1 => ?_)
  · skip
    refine ⟨by kernel_rfl, ?_⟩
    gi_step
    exact hK _ _ (Fr.refl _ _) rfl trivial
  simp only [Act.put, List.setIfInBounds_toArray, List.set_cons_succ, List.set_cons_zero]
  refine factWalkG_cons (fun W hW hf K hK => ?_) (fun x2 => ?_)
  · skip
    have e1 : x1 = .slice A n c := hf 1 (by omega) (by kernel_rfl)
    subst e1
    have hw := HOF.out W (HDR.out W hW)
    refine ⟨by kernel_rfl, ?_⟩
    gi_step
    refine ⟨trivial, ?_⟩
    refine (callsIn_wide.2 (hw)).mono ?_
    rintro e W' ⟨_, _, rfl, o2, f2⟩
    dsimp only
    exact hK _ _ f2 ⟨_, _, rfl, o2⟩ trivial
  simp only [Act.put, List.setIfInBounds_toArray, List.set_cons_succ, List.set_cons_zero]
  refine factWalkG_nil (fun W hW hf hmet => ?_)
  obtain ⟨a2, d2, e2, rd2⟩ : ∃ A9 c9, x2 = .slice A9 16 c9 ∧ Rd W A9 16 (bv q) := hf 2 (by omega)
  have e0 : x0 = .slice (some ⟨g, 0, none⟩) 16 16 := hf 0 (by omega)
  subst e0 e2
  change wpAnyIn _ _ _ _ _ _ 1 _ _ _
  refine wpAnyIn_ready (rs := [3]) (by kernel_rfl) (by simp) ?_
  refine AllReadyIn.cons rfl (fun K hK => ?_) AllReadyIn.nil
  have b1w := B1.out.fr (HDR.out W hW) (fun h => h)
  obtain ⟨w3, hcp, hb3, hf3⟩ := run_copy_blk W 3 23 g 16 16 16 d2 _ a2 q b1w rfl rd2 (Nat.le_refl _)
  go_simp
  refine hK _ _ ?_
  refine wpAnyIn_done (by kernel_rfl) ?_ _
  refine abs_exit (fun W => Hid (Blk W w.heap.size 23 #[.int .u8 0, .int .u8 0, .int .u8 0, .int .u8 0, .int .u8 0, .int .u8 0, .int .u8 0, .int .u8 0, .int .u8 0, .int .u8 0, .int .u8 0, .int .u8 0, .int .u8 0, .int .u8 0, .int .u8 0, .int .u8 0]) ∧ Hid (Blk W g 23 (b16 q)) ∧ Hid (Fr (fun _ => False) w W)) ?_ ?_
  · have hgw := HG.out
    have e16 : (bv q ++ List.drop 16 (#[.int .u8 0, .int .u8 0, .int .u8 0, .int .u8 0, .int .u8 0, .int .u8 0, .int .u8 0, .int .u8 0, .int .u8 0, .int .u8 0, .int .u8 0, .int .u8 0, .int .u8 0, .int .u8 0, .int .u8 0, .int .u8 0] : Array Value).toList).toArray = b16 q := by
      rw [show List.drop 16 (#[.int .u8 0, .int .u8 0, .int .u8 0, .int .u8 0, .int .u8 0, .int .u8 0, .int .u8 0, .int .u8 0, .int .u8 0, .int .u8 0, .int .u8 0, .int .u8 0, .int .u8 0, .int .u8 0, .int .u8 0, .int .u8 0] : Array Value).toList = [] from rfl, List.append_nil]
      rfl
    rw [e16] at hb3
    exact ⟨(B0.out.fr (HDR.out W hW) (fun h => h)).fr hf3 (by omega), hb3, (HF1.out.trans (HDR.out W hW) (fun _ _ h => h)).trans hf3 (fun k hk e => by omega)⟩
  clear hK K hmet hf hW HDR hcp hb3 hf3 b1w rd2 W w3 B0 B1 HF1
  rintro W2 ⟨B0, B1, HF⟩
  have hsz : (Tryz.prog.info? 23).map (·.size) = some (b16 q).size := by rw [b16_size q HQL.out]; kernel_rfl
  have hth : W2.there w.heap.size 0 (b16 q).size := by rw [b16_size q HQL.out]; exact B0.out.there
  have hst := B0.out.setAll (ds := b16 q) (by rw [b16_size q HQL.out]; rfl)
  have HSZ := Lib.hid hsz
  have HTH := Lib.hid hth
  have HST := Lib.hid hst
  have HONE := Lib.hid (b16_one q)
  have FST := Lib.hid (Fr.setCells (fp := fun k => k = w.heap.size) (a := W2) (g := w.heap.size) (fun _ => rfl) (b16 q).toList 0 W2 (Fr.refl _ _))
  clear hsz hth hst
  obtain ⟨Q, hQ⟩ : ∃ Q, b16 q = Q := ⟨_, rfl⟩
  rw [hQ] at B1 HSZ HTH HST HONE FST
  have HQ := Lib.hid hQ
  clear hQ
  go_wp2_with (first
    | refine wpList_load_row rfl 23 _ rfl g rfl 23 Q (0, 0) _ B1.out Tryz.underlying23 rfl HSZ.out ?_
    | refine wpList_store_mid rfl 23 _ _ rfl w.heap.size 0 Q rfl rfl HTH.out HSZ.out HONE.out ?_)
  generalize W2.setCells w.heap.size 0 Q.toList = w9 at *
  exact bodyPost_ret (v := .agg Q) (results_cell_row Tryz.results19 _ _ w.heap.size 23 _ (0, 0) _ rfl HST.out Tryz.underlying23 rfl HSZ.out) rfl ⟨by rw [HQ.out], HF.out.trans FST.out (fun k hk e => by omega)⟩

end Go.Proofs.YtjaocgmicdnghaaGreatDoor
