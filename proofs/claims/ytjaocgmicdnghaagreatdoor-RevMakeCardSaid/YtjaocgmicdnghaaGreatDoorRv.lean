/-
  THE LAW RevMake, WALKED. Written by gen_rv.py.
-/
import Derived.Test.YtjaocgmicdnghaaGreatDoorRmk
import Derived.Test.YtjaocgmicdnghaaGreatDoorHD
import Derived.Test.YtjaocgmicdnghaaGreatDoorAwk
import Derived.Test.YtjaocgmicdnghaaGreatDoorVaHP
namespace Go.Proofs.YtjaocgmicdnghaaGreatDoor
set_option linter.unusedSimpArgs false
set_option linter.unusedVariables false
open Go Go.RowKit Go.Shelf
attribute [local go_sem] Oper.semAt_some

theorem operIn_loadL {F : Fence} {n : Nat} {P : Program} {o : Oper} {a : Act} {w : World} {K : Act → World → Prop} {Q : Exit → Act → World → Prop} (ty : TypeId) (d : Operand) (hop : o.op = Op.load ty d)
    (v : Value) (hd : a.eval d = v) {z : Value} (hr : (Instr.loadAt ty v).run P w = .ok z w) (hK : K (a.put o.dst z) w) : Oper.wpIn F n P o a w K Q := by
  refine ⟨fun f hf => ?_, ?_⟩
  · simp [Oper.about, hop] at hf
  · simp [Oper.semAt, execOp, hop, hd, hr, Result.andThen, Oper.uponIn]
    exact hK
theorem makeR_len (g : Nat) (s : List UInt8) (dl : Int) (ok : Bool) (T : List UInt8) : (makeR g s dl ok T).1.2.length = 16 := by
  unfold makeR
  split
  · rfl
  · split
    · rfl
    · exact nameQ_len _ _ _ _
def rvX (g0 g1 r1 : Nat) (s0 s1 r2 : List UInt8) (ce cc : Int) (m : Bool) (i : Nat) (v : Value) (W : World) : Prop := match i with
  | 0 => v = .agg (rc r1 r2).toArray
  | 1 => v = .agg (rc r1 r2).toArray
  | 2 => v = .bool true
  | 3 => v = .bool true
  | 4 => v = .int .i64 ce
  | 5 => v = .int .i64 ce
  | 6 => v = .bool true
  | 7 => v = .bool true
  | 8 => v = .bool true
  | 9 => v = .agg (rc g0 s0).toArray
  | 10 => v = .bool m
  | 11 => v = .agg (rc g0 s0).toArray
  | 12 => v = .bool m
  | 13 => v = .bool true
  | 14 => v = .bool true
  | 15 => v = .bool true
  | 16 => v = .agg (rc g0 s0).toArray
  | 17 => v = .agg (rc g1 s1).toArray
  | 18 => v = .int .i64 cc
  | 19 => v = .agg (rc g0 s0).toArray
  | 20 => v = .agg (rc g1 s1).toArray
  | 21 => v = .int .i64 cc
  | 22 => v = .bool true
  | 23 => v = .bool true
  | 24 => v = .bool true
  | 25 => v = .bool true
  | 26 => v = .bool true
  | _ => True
theorem rvX_far {g0 g1 r1 : Nat} {s0 s1 r2 : List UInt8} {ce cc : Int} {m : Bool} {i : Nat} {v : Value} {W W' : World} (hg : Fr (fun _ => False) W W') (hx : rvX g0 g1 r1 s0 s1 r2 ce cc m i v W) : rvX g0 g1 r1 s0 s1 r2 ce cc m i v W' := by
  match i with
  | 0 => exact hx
  | 1 => exact hx
  | 2 => exact hx
  | 3 => exact hx
  | 4 => exact hx
  | 5 => exact hx
  | 6 => exact hx
  | 7 => exact hx
  | 8 => exact hx
  | 9 => exact hx
  | 10 => exact hx
  | 11 => exact hx
  | 12 => exact hx
  | 13 => exact hx
  | 14 => exact hx
  | 15 => exact hx
  | 16 => exact hx
  | 17 => exact hx
  | 18 => exact hx
  | 19 => exact hx
  | 20 => exact hx
  | 21 => exact hx
  | 22 => exact hx
  | 23 => exact hx
  | 24 => exact hx
  | 25 => exact hx
  | 26 => exact hx
  | (n + 27) => exact hx
set_option maxRecDepth 100000 in
set_option maxHeartbeats 8000000 in
theorem revMake_c (w : World) (g0 g1 : Nat) (s0 s1 : List UInt8) (dl : Int) (v : V1.V) {D : Nat → Prop} {C : Array Value} (hs0 : s0.length = 16) (hs1 : s1.length = 16) (hg0 : g0 < 18446744073709551616) (hg1 : g1 < 18446744073709551616) (hr : V1.RdV D w C v) (hL : LaidOk w) (h8 : 8 ≤ w.heap.size) :
    Calls Tryz.prog 3 #[.agg (rc g0 s0).toArray, .agg (rc g1 s1).toArray, .int .i64 dl, .agg C] w fun e w' => e = .returned (.bool true) ∧ Fr (fun _ => False) w w' := by
  have HSC := Lib.hid (V1.szV hr)
  have HAW := Lib.hid (fun (W : World) (hW : Fr (fun _ => False) w W) => awake_c W (hL.far hW))
  have HLG := Lib.hid (fun (W : World) (hW : Fr (fun _ => False) w W) => V1.Long_c v W D C (hr.far (frV hW)))
  obtain ⟨lg, hlg⟩ : ∃ lg, decide (4000 < V1.partsV v 20) = lg := ⟨_, rfl⟩
  rw [hlg] at HLG
  have HMK : Hid (lg = false → ∀ W, Fr (fun _ => False) w W → Calls Tryz.prog 6 #[.agg (rc g0 s0).toArray, .int .i64 dl, .agg C] W fun e w' => e = .returned (.tuple #[.agg (rc (makeR g0 s0 dl (V1.mayV v) (V1.prV v)).1.1 (makeR g0 s0 dl (V1.mayV v) (V1.prV v)).1.2).toArray, .int .i64 (makeR g0 s0 dl (V1.mayV v) (V1.prV v)).2]) ∧ Fr (fun _ => False) W w') := Lib.hid (fun h W hW => make_c W g0 s0 dl v (hr.far (frV hW)) (V1.sm_of_not_long (hlg.trans h)) hs0 hg0 (hL.far hW) (Nat.le_trans h8 hW.size))
  have HRK : Hid (lg = false → ∀ W, Fr (fun _ => False) w W → Calls Tryz.prog 7 #[.agg (rc g0 s0).toArray, .int .i64 dl, .agg C] W fun e w' => e = .returned (.tuple #[.agg (rc (makeR g0 s0 dl (V1.mayV v) (V1.prV v)).1.1 (makeR g0 s0 dl (V1.mayV v) (V1.prV v)).1.2).toArray, .int .i64 (makeR g0 s0 dl (V1.mayV v) (V1.prV v)).2]) ∧ Fr (fun _ => False) W w') := Lib.hid (fun h W hW => rmake_c W g0 s0 dl v (hr.far (frV hW)) (hlg.trans h) hs0 hg0)
  have hml := makeR_len g0 s0 dl (V1.mayV v) (V1.prV v)
  obtain ⟨⟨⟨r1, r2⟩, ce⟩, hR⟩ : ∃ R, makeR g0 s0 dl (V1.mayV v) (V1.prV v) = R := ⟨_, rfl⟩
  rw [hR] at HMK HRK hml
  dsimp only at HMK HRK hml
  have HR2 := Lib.hid hml
  obtain ⟨m, hm⟩ : ∃ m, mayG g0 = m := ⟨_, rfl⟩
  obtain ⟨cc, hcq⟩ : ∃ cc, cmpR g0 g1 s0 s1 = cc := ⟨_, rfl⟩
  have HMAY := Lib.hid (fun W => may_c W g0 s0 hs0 hg0)
  have HRMAY := Lib.hid (fun W => rMay_c W g0 s0 hs0 hg0)
  have HCMP := Lib.hid (fun W => cmp_c W g0 g1 s0 s1 hs0 hs1)
  have HRCMP := Lib.hid (fun W => rcmp_c W g0 g1 s0 s1 hs0 hs1 hg0 hg1)
  rw [hm] at HMAY HRMAY
  rw [hcq] at HCMP HRCMP
  have HL0 : Hid ((Tryz.prog.info? 25).map (·.size) = some (rc g0 s0).length) := Lib.hid (by rw [rc_len hs0]; kernel_rfl)
  have HL1 : Hid ((Tryz.prog.info? 25).map (·.size) = some (rc g1 s1).length) := Lib.hid (by rw [rc_len hs1]; kernel_rfl)
  have HLR : Hid ((Tryz.prog.info? 25).map (·.size) = some (rc r1 r2).length) := Lib.hid (by rw [rc_len hml]; kernel_rfl)
  clear hr hL h8 hs0 hs1 hg0 hg1 hlg hml hR hm hcq
  go_enter Tryz.func3, Tryz.ntmps3
  go_upto_region 1 with fail
  refine abs_world (fun W => Hid (Blk W w.heap.size 25 (rc g0 s0).toArray) ∧ Hid (Blk W (w.heap.size + 1) 25 (rc g1 s1).toArray) ∧ Hid (Blk W (w.heap.size + 1 + 1) 29 C) ∧ Hid (Fr (fun _ => False) w W)) ⟨?_, ?_, ?_, (((Fr.refl _ w).alloc _).alloc _).alloc _⟩ ?_
  · exact ((Blk.new w _ _).alloc _).alloc _
  · have h := Blk.new (w.alloc (.cells (rc g0 s0).toArray 25)) 25 (rc g1 s1).toArray
    rw [World.size_alloc] at h
    exact h.alloc _
  · have h := Blk.new ((w.alloc (.cells (rc g0 s0).toArray 25)).alloc (.cells (rc g1 s1).toArray 25)) 29 C
    rw [World.size_alloc, World.size_alloc] at h
    exact h
  rintro W1 ⟨P1, Q1, V1', F1⟩
  obtain ⟨u0, hu0⟩ : ∃ b, w.heap.size + 1 + 1 = b := ⟨_, rfl⟩
  rw [hu0] at V1' ⊢
  obtain ⟨q0, hq0⟩ : ∃ b, w.heap.size + 1 = b := ⟨_, rfl⟩
  rw [hq0] at Q1 ⊢
  obtain ⟨p0, hp0⟩ : ∃ b, w.heap.size = b := ⟨_, rfl⟩
  rw [hp0] at P1 ⊢
  clear hu0 hq0 hp0
  have RV1 := Lib.hid (V1.blk_all (show V1.Blk W1 u0 29 C from V1'.out))
  have LG1 := Lib.hid (HLG.out W1 F1.out)
  clear HLG
  go_wp2_with (refine V1.wpList_load_val rfl 29 _ rfl u0 _ rfl C RV1.out _ Tryz.underlying29 rfl HSC.out ?_)
  refine LG1.out.mono ?_
  rintro e W2 ⟨rfl, f2'⟩
  have f2 := frU f2'
  have F2 : Hid (Fr (fun _ => False) w W2) := Lib.hid (F1.out.trans f2 (fun _ _ h => h))
  have P2 := Lib.hid (P1.out.fr f2 (fun h => h))
  have Q2 := Lib.hid (Q1.out.fr f2 (fun h => h))
  have V2 := Lib.hid (V1'.out.fr f2 (fun h => h))
  clear f2 f2' RV1 LG1 P1 Q1 V1' F1
  cases lg with
  | true =>
    go_wp2_with fail
    refine (HAW.out _ F2.out).mono ?_
    rintro e wa ⟨rfl, fa⟩
    have FB : Hid (Fr (fun _ => False) w wa) := Lib.hid (F2.out.trans fa (fun _ _ h => h))
    clear fa
    go_wp2_with fail
    go_ret
    exact ⟨rfl, FB.out⟩
  | false =>
  have HMK1 := Lib.hid (HMK.out rfl)
  have HRK1 := Lib.hid (HRK.out rfl)
  clear HMK HRK
  have HSZ := Lib.hid (tRev_size (g := r1) (s := r2) HR2.out)
  have HZN : Hid ((rc 0 zN).toArray.size = (rc r1 r2).toArray.size) := Lib.hid (by rw [List.size_toArray, List.size_toArray, rc_len HR2.out]; rfl)
  have RG2 := Lib.hid P2.out.rng
  have RV2 := Lib.hid (V1.blk_all (show V1.Blk W2 u0 29 C from V2.out))
  have MK2 := Lib.hid (HMK1.out W2 F2.out)
  go_wp2_with (first
    | refine wpList_load_g rfl 25 _ rfl p0 0 rfl (rc g0 s0) _ RG2.out Tryz.underlying25 rfl HL0.out ?_
    | refine V1.wpList_load_val rfl 29 _ rfl u0 _ rfl C RV2.out _ Tryz.underlying29 rfl HSC.out ?_)
  refine MK2.out.mono ?_
  rintro e W3 ⟨rfl, f3⟩
  have F3 : Hid (Fr (fun _ => False) w W3) := Lib.hid (F2.out.trans f3 (fun _ _ h => h))
  have P3 := Lib.hid (P2.out.fr f3 (fun h => h))
  have Q3 := Lib.hid (Q2.out.fr f3 (fun h => h))
  have V3 := Lib.hid (V2.out.fr f3 (fun h => h))
  clear f3 RG2 RV2 MK2 P2 Q2 V2 F2
  have BN := Blk.new W3 25 (rc 0 zN).toArray
  have HTH : Hid ((W3.alloc (.cells (rc 0 zN).toArray 25)).there W3.heap.size 0 (rc r1 r2).toArray.size) := Lib.hid (by rw [← HZN.out]; exact BN.there)
  have HST := Lib.hid (BN.setAll (ds := (rc r1 r2).toArray) HZN.out.symm)
  have HF0 := Lib.hid (Fr.setCells (fp := fun k => k = W3.heap.size) (a := W3.alloc (.cells (rc 0 zN).toArray 25)) (g := W3.heap.size) (fun _ => rfl) (rc r1 r2) 0 (W3.alloc (.cells (rc 0 zN).toArray 25)) (Fr.refl _ _))
  have FST : Hid (Fr (fun _ => False) W3 ((W3.alloc (.cells (rc 0 zN).toArray 25)).setCells W3.heap.size 0 (rc r1 r2).toArray.toList)) := Lib.hid (((Fr.refl (fun _ => False) W3).alloc (.cells (rc 0 zN).toArray 25)).trans HF0.out (fun k hk e => by omega))
  clear BN HF0
  go_upto_region 4 with (
    (refine wpList_store_mid rfl 25 _ _ rfl W3.heap.size 0 (rc r1 r2).toArray rfl rfl HTH.out HSZ.out (rc_all r1 r2) ?_
     refine abs_list (fun W => Hid (Blk W W3.heap.size 25 (rc r1 r2).toArray) ∧ Hid (Fr (fun _ => False) W3 W)) ⟨HST.out, FST.out⟩ ?_
     rintro W4 ⟨X4, f4⟩
     obtain ⟨b9, hx⟩ : ∃ x, W3.heap.size = x := ⟨_, rfl⟩
     rw [hx] at X4 ⊢
     have F4 : Hid (Fr (fun _ => False) w W4) := Lib.hid (F3.out.trans f4.out (fun _ _ h => h))
     have P4 := Lib.hid (P3.out.fr f4.out (fun h => h))
     have Q4 := Lib.hid (Q3.out.fr f4.out (fun h => h))
     have V4 := Lib.hid (V3.out.fr f4.out (fun h => h))
     clear hx HTH HST FST f4 P3 Q3 V3 F3))
  have RG4 := Lib.hid P4.out.rng
  have RV4 := Lib.hid (V1.blk_all (show V1.Blk W4 u0 29 C from V4.out))
  have MK4 := Lib.hid (HRK1.out W4 F4.out)
  go_wp2_with (first
    | refine wpList_load_g rfl 25 _ rfl p0 0 rfl (rc g0 s0) _ RG4.out Tryz.underlying25 rfl HL0.out ?_
    | refine V1.wpList_load_val rfl 29 _ rfl u0 _ rfl C RV4.out _ Tryz.underlying29 rfl HSC.out ?_)
  refine MK4.out.mono ?_
  rintro e W5 ⟨rfl, f5⟩
  have F5 : Hid (Fr (fun _ => False) w W5) := Lib.hid (F4.out.trans f5 (fun _ _ h => h))
  have P5 := Lib.hid (P4.out.fr f5 (fun h => h))
  have Q5 := Lib.hid (Q4.out.fr f5 (fun h => h))
  have V5 := Lib.hid (V4.out.fr f5 (fun h => h))
  have X5 := Lib.hid (X4.out.fr f5 (fun h => h))
  clear f5 RG4 RV4 MK4 P4 Q4 V4 X4 F4
  have BN := Blk.new W5 25 (rc 0 zN).toArray
  have HTH : Hid ((W5.alloc (.cells (rc 0 zN).toArray 25)).there W5.heap.size 0 (rc r1 r2).toArray.size) := Lib.hid (by rw [← HZN.out]; exact BN.there)
  have HST := Lib.hid (BN.setAll (ds := (rc r1 r2).toArray) HZN.out.symm)
  have HF0 := Lib.hid (Fr.setCells (fp := fun k => k = W5.heap.size) (a := W5.alloc (.cells (rc 0 zN).toArray 25)) (g := W5.heap.size) (fun _ => rfl) (rc r1 r2) 0 (W5.alloc (.cells (rc 0 zN).toArray 25)) (Fr.refl _ _))
  have FST : Hid (Fr (fun _ => False) W5 ((W5.alloc (.cells (rc 0 zN).toArray 25)).setCells W5.heap.size 0 (rc r1 r2).toArray.toList)) := Lib.hid (((Fr.refl (fun _ => False) W5).alloc (.cells (rc 0 zN).toArray 25)).trans HF0.out (fun k hk e => by omega))
  clear BN HF0
  go_upto_region 5 with (
    (refine wpList_store_mid rfl 25 _ _ rfl W5.heap.size 0 (rc r1 r2).toArray rfl rfl HTH.out HSZ.out (rc_all r1 r2) ?_
     refine abs_list (fun W => Hid (Blk W W5.heap.size 25 (rc r1 r2).toArray) ∧ Hid (Fr (fun _ => False) W5 W)) ⟨HST.out, FST.out⟩ ?_
     rintro W6 ⟨Y6, f6⟩
     obtain ⟨c9, hx⟩ : ∃ x, W5.heap.size = x := ⟨_, rfl⟩
     rw [hx] at Y6 ⊢
     have F6 : Hid (Fr (fun _ => False) w W6) := Lib.hid (F5.out.trans f6.out (fun _ _ h => h))
     have P6 := Lib.hid (P5.out.fr f6.out (fun h => h))
     have Q6 := Lib.hid (Q5.out.fr f6.out (fun h => h))
     have V6 := Lib.hid (V5.out.fr f6.out (fun h => h))
     have X6 := Lib.hid (X5.out.fr f6.out (fun h => h))
     clear hx HTH HST FST f6 P5 Q5 V5 X5 F5))
  refine (wpIn_wide (n := 9)).1 ?_
  refine wpIn_region_factsG (ms := [0, 0, 3, 7, 15, 15, 63, 127, 255, 511, 1023, 511, 4095, 8191, 16383, 32767, 65535, 65535, 262143, 65535, 65535, 2097151, 4194303, 8388607, 16777215, 33554431, 67108863, 134217727]) (k := 27) (Fr (fun _ => False)) (rvX g0 g1 r1 s0 s1 r2 ce cc m) (fun i v W => True) (by kernel_rfl) (by kernel_rfl) (Fr.refl _ _) (fun a b c h1 h2 => h1.trans h2 (fun _ _ h => h)) (fun i v w w' hg hx => rvX_far hg hx) ?walk5
  case walk5 =>
  have hdr : ∀ W, Fr (fun _ => False) W6.drew W → Fr (fun _ => False) W6 W := fun W h => ((Fr.refl (fun _ => False) W6).drew).trans h (fun _ _ h => h)
  have HDR := Lib.hid hdr
  clear hdr
  refine factWalkG_cons (fun W hW hf K hK => ?_) (fun x0 => ?_)
  · skip
    have hld := run_loadAt_mid (P := Tryz.prog) W b9 0 25 (rc r1 r2) _ ((X6.out.fr (HDR.out W hW) (fun h => h)).rng) Tryz.underlying25 rfl HLR.out
    refine ⟨by kernel_rfl, ?_⟩
    refine operIn_loadL 25 _ rfl _ rfl hld ?_
    exact hK _ _ (Fr.refl _ _) rfl trivial
  simp only [Act.put, List.setIfInBounds_toArray, List.set_cons_succ, List.set_cons_zero]
  refine factWalkG_cons (fun W hW hf K hK => ?_) (fun x1 => ?_)
  · skip
    have hld := run_loadAt_mid (P := Tryz.prog) W c9 0 25 (rc r1 r2) _ ((Y6.out.fr (HDR.out W hW) (fun h => h)).rng) Tryz.underlying25 rfl HLR.out
    refine ⟨by kernel_rfl, ?_⟩
    refine operIn_loadL 25 _ rfl _ rfl hld ?_
    exact hK _ _ (Fr.refl _ _) rfl trivial
  simp only [Act.put, List.setIfInBounds_toArray, List.set_cons_succ, List.set_cons_zero]
  refine factWalkG_cons (fun W hW hf K hK => ?_) (fun x2 => ?_)
  · skip
    have e0 : x0 = .agg (rc r1 r2).toArray := hf 0 (by omega) (by kernel_rfl)
    have e1 : x1 = .agg (rc r1 r2).toArray := hf 1 (by omega) (by kernel_rfl)
    subst e0 e1
    have heq : ∀ W, (binOp .eql 25 (.agg (rc r1 r2).toArray) (.agg (rc r1 r2).toArray)).run Tryz.prog W = .ok (.bool true) W := fun W => by rw [run_eql_rev r1 r1 r2 r2 HR2.out HR2.out W]; simp
    refine ⟨by kernel_rfl, ?_⟩
    gi_step
    exact hK _ _ (Fr.refl _ _) rfl trivial
  simp only [Act.put, List.setIfInBounds_toArray, List.set_cons_succ, List.set_cons_zero]
  refine factWalkG_cons (fun W hW hf K hK => ?_) (fun x3 => ?_)
  · skip
    have e2 : x2 = .bool true := hf 2 (by omega) (by kernel_rfl)
    subst e2
    refine ⟨by kernel_rfl, ?_⟩
    gi_step
    exact hK _ _ (Fr.refl _ _) rfl trivial
  simp only [Act.put, List.setIfInBounds_toArray, List.set_cons_succ, List.set_cons_zero]
  refine factWalkG_cons (fun W hW hf K hK => ?_) (fun x4 => ?_)
  · skip
    have e3 : x3 = .bool true := hf 3 (by omega) (by kernel_rfl)
    subst e3
    refine ⟨by kernel_rfl, ?_⟩
    gi_step
    exact hK _ _ (Fr.refl _ _) rfl trivial
  simp only [Act.put, List.setIfInBounds_toArray, List.set_cons_succ, List.set_cons_zero]
  refine factWalkG_cons (fun W hW hf K hK => ?_) (fun x5 => ?_)
  · skip
    have e3 : x3 = .bool true := hf 3 (by omega) (by kernel_rfl)
    subst e3
    refine ⟨by kernel_rfl, ?_⟩
    gi_step
    exact hK _ _ (Fr.refl _ _) rfl trivial
  simp only [Act.put, List.setIfInBounds_toArray, List.set_cons_succ, List.set_cons_zero]
  refine factWalkG_cons (fun W hW hf K hK => ?_) (fun x6 => ?_)
  · skip
    have e3 : x3 = .bool true := hf 3 (by omega) (by kernel_rfl)
    have e4 : x4 = .int .i64 ce := hf 4 (by omega) (by kernel_rfl)
    have e5 : x5 = .int .i64 ce := hf 5 (by omega) (by kernel_rfl)
    subst e3 e4 e5
    have hbb : ((ce : Int) == ce) = true := by simp
    refine ⟨by kernel_rfl, ?_⟩
    gi_step
    exact hK _ _ (Fr.refl _ _) rfl trivial
  simp only [Act.put, List.setIfInBounds_toArray, List.set_cons_succ, List.set_cons_zero]
  refine factWalkG_cons (fun W hW hf K hK => ?_) (fun x7 => ?_)
  · skip
    have e3 : x3 = .bool true := hf 3 (by omega) (by kernel_rfl)
    have e6 : x6 = .bool true := hf 6 (by omega) (by kernel_rfl)
    subst e3 e6
    refine ⟨by kernel_rfl, ?_⟩
    gi_step
    exact hK _ _ (Fr.refl _ _) rfl trivial
  simp only [Act.put, List.setIfInBounds_toArray, List.set_cons_succ, List.set_cons_zero]
  refine factWalkG_cons (fun W hW hf K hK => ?_) (fun x8 => ?_)
  · skip
    have e7 : x7 = .bool true := hf 7 (by omega) (by kernel_rfl)
    subst e7
    refine ⟨by kernel_rfl, ?_⟩
    gi_step
    exact hK _ _ (Fr.refl _ _) rfl trivial
  simp only [Act.put, List.setIfInBounds_toArray, List.set_cons_succ, List.set_cons_zero]
  refine factWalkG_cons (fun W hW hf K hK => ?_) (fun x9 => ?_)
  · skip
    have e8 : x8 = .bool true := hf 8 (by omega) (by kernel_rfl)
    subst e8
    have hld := run_loadAt_mid (P := Tryz.prog) W p0 0 25 (rc g0 s0) _ ((P6.out.fr (HDR.out W hW) (fun h => h)).rng) Tryz.underlying25 rfl HL0.out
    refine ⟨by kernel_rfl, ?_⟩
    refine operIn_loadL 25 _ rfl _ rfl hld ?_
    exact hK _ _ (Fr.refl _ _) rfl trivial
  simp only [Act.put, List.setIfInBounds_toArray, List.set_cons_succ, List.set_cons_zero]
  refine factWalkG_cons (fun W hW hf K hK => ?_) (fun x10 => ?_)
  · skip
    have e8 : x8 = .bool true := hf 8 (by omega) (by kernel_rfl)
    have e9 : x9 = .agg (rc g0 s0).toArray := hf 9 (by omega) (by kernel_rfl)
    subst e8 e9
    refine ⟨by kernel_rfl, ?_⟩
    gi_step
    refine ⟨trivial, ?_⟩
    refine (callsIn_wide.2 (HMAY.out W)).mono ?_
    rintro e W' ⟨rfl, f2⟩
    dsimp only
    exact hK _ _ f2 rfl trivial
  simp only [Act.put, List.setIfInBounds_toArray, List.set_cons_succ, List.set_cons_zero]
  refine factWalkG_cons (fun W hW hf K hK => ?_) (fun x11 => ?_)
  · skip
    have e8 : x8 = .bool true := hf 8 (by omega) (by kernel_rfl)
    subst e8
    have hld := run_loadAt_mid (P := Tryz.prog) W p0 0 25 (rc g0 s0) _ ((P6.out.fr (HDR.out W hW) (fun h => h)).rng) Tryz.underlying25 rfl HL0.out
    refine ⟨by kernel_rfl, ?_⟩
    refine operIn_loadL 25 _ rfl _ rfl hld ?_
    exact hK _ _ (Fr.refl _ _) rfl trivial
  simp only [Act.put, List.setIfInBounds_toArray, List.set_cons_succ, List.set_cons_zero]
  refine factWalkG_cons (fun W hW hf K hK => ?_) (fun x12 => ?_)
  · skip
    have e8 : x8 = .bool true := hf 8 (by omega) (by kernel_rfl)
    have e11 : x11 = .agg (rc g0 s0).toArray := hf 11 (by omega) (by kernel_rfl)
    subst e8 e11
    refine ⟨by kernel_rfl, ?_⟩
    gi_step
    refine ⟨trivial, ?_⟩
    refine (callsIn_wide.2 (HRMAY.out W)).mono ?_
    rintro e W' ⟨rfl, f2⟩
    dsimp only
    exact hK _ _ f2 rfl trivial
  simp only [Act.put, List.setIfInBounds_toArray, List.set_cons_succ, List.set_cons_zero]
  refine factWalkG_cons (fun W hW hf K hK => ?_) (fun x13 => ?_)
  · skip
    have e8 : x8 = .bool true := hf 8 (by omega) (by kernel_rfl)
    have e10 : x10 = .bool m := hf 10 (by omega) (by kernel_rfl)
    have e12 : x12 = .bool m := hf 12 (by omega) (by kernel_rfl)
    subst e8 e10 e12
    have hmm : (m == m) = true := by simp
    refine ⟨by kernel_rfl, ?_⟩
    gi_step
    exact hK _ _ (Fr.refl _ _) rfl trivial
  simp only [Act.put, List.setIfInBounds_toArray, List.set_cons_succ, List.set_cons_zero]
  refine factWalkG_cons (fun W hW hf K hK => ?_) (fun x14 => ?_)
  · skip
    have e8 : x8 = .bool true := hf 8 (by omega) (by kernel_rfl)
    have e13 : x13 = .bool true := hf 13 (by omega) (by kernel_rfl)
    subst e8 e13
    refine ⟨by kernel_rfl, ?_⟩
    gi_step
    exact hK _ _ (Fr.refl _ _) rfl trivial
  simp only [Act.put, List.setIfInBounds_toArray, List.set_cons_succ, List.set_cons_zero]
  refine factWalkG_cons (fun W hW hf K hK => ?_) (fun x15 => ?_)
  · skip
    have e14 : x14 = .bool true := hf 14 (by omega) (by kernel_rfl)
    subst e14
    refine ⟨by kernel_rfl, ?_⟩
    gi_step
    exact hK _ _ (Fr.refl _ _) rfl trivial
  simp only [Act.put, List.setIfInBounds_toArray, List.set_cons_succ, List.set_cons_zero]
  refine factWalkG_cons (fun W hW hf K hK => ?_) (fun x16 => ?_)
  · skip
    have e15 : x15 = .bool true := hf 15 (by omega) (by kernel_rfl)
    subst e15
    have hld := run_loadAt_mid (P := Tryz.prog) W p0 0 25 (rc g0 s0) _ ((P6.out.fr (HDR.out W hW) (fun h => h)).rng) Tryz.underlying25 rfl HL0.out
    refine ⟨by kernel_rfl, ?_⟩
    refine operIn_loadL 25 _ rfl _ rfl hld ?_
    exact hK _ _ (Fr.refl _ _) rfl trivial
  simp only [Act.put, List.setIfInBounds_toArray, List.set_cons_succ, List.set_cons_zero]
  refine factWalkG_cons (fun W hW hf K hK => ?_) (fun x17 => ?_)
  · skip
    have e15 : x15 = .bool true := hf 15 (by omega) (by kernel_rfl)
    subst e15
    have hld := run_loadAt_mid (P := Tryz.prog) W q0 0 25 (rc g1 s1) _ ((Q6.out.fr (HDR.out W hW) (fun h => h)).rng) Tryz.underlying25 rfl HL1.out
    refine ⟨by kernel_rfl, ?_⟩
    refine operIn_loadL 25 _ rfl _ rfl hld ?_
    exact hK _ _ (Fr.refl _ _) rfl trivial
  simp only [Act.put, List.setIfInBounds_toArray, List.set_cons_succ, List.set_cons_zero]
  refine factWalkG_cons (fun W hW hf K hK => ?_) (fun x18 => ?_)
  · skip
    have e15 : x15 = .bool true := hf 15 (by omega) (by kernel_rfl)
    have e16 : x16 = .agg (rc g0 s0).toArray := hf 16 (by omega) (by kernel_rfl)
    have e17 : x17 = .agg (rc g1 s1).toArray := hf 17 (by omega) (by kernel_rfl)
    subst e15 e16 e17
    refine ⟨by kernel_rfl, ?_⟩
    gi_step
    refine ⟨trivial, ?_⟩
    refine (callsIn_wide.2 (HCMP.out W)).mono ?_
    rintro e W' ⟨rfl, f2⟩
    dsimp only
    exact hK _ _ f2 rfl trivial
  simp only [Act.put, List.setIfInBounds_toArray, List.set_cons_succ, List.set_cons_zero]
  refine factWalkG_cons (fun W hW hf K hK => ?_) (fun x19 => ?_)
  · skip
    have e15 : x15 = .bool true := hf 15 (by omega) (by kernel_rfl)
    subst e15
    have hld := run_loadAt_mid (P := Tryz.prog) W p0 0 25 (rc g0 s0) _ ((P6.out.fr (HDR.out W hW) (fun h => h)).rng) Tryz.underlying25 rfl HL0.out
    refine ⟨by kernel_rfl, ?_⟩
    refine operIn_loadL 25 _ rfl _ rfl hld ?_
    exact hK _ _ (Fr.refl _ _) rfl trivial
  simp only [Act.put, List.setIfInBounds_toArray, List.set_cons_succ, List.set_cons_zero]
  refine factWalkG_cons (fun W hW hf K hK => ?_) (fun x20 => ?_)
  · skip
    have e15 : x15 = .bool true := hf 15 (by omega) (by kernel_rfl)
    subst e15
    have hld := run_loadAt_mid (P := Tryz.prog) W q0 0 25 (rc g1 s1) _ ((Q6.out.fr (HDR.out W hW) (fun h => h)).rng) Tryz.underlying25 rfl HL1.out
    refine ⟨by kernel_rfl, ?_⟩
    refine operIn_loadL 25 _ rfl _ rfl hld ?_
    exact hK _ _ (Fr.refl _ _) rfl trivial
  simp only [Act.put, List.setIfInBounds_toArray, List.set_cons_succ, List.set_cons_zero]
  refine factWalkG_cons (fun W hW hf K hK => ?_) (fun x21 => ?_)
  · skip
    have e15 : x15 = .bool true := hf 15 (by omega) (by kernel_rfl)
    have e19 : x19 = .agg (rc g0 s0).toArray := hf 19 (by omega) (by kernel_rfl)
    have e20 : x20 = .agg (rc g1 s1).toArray := hf 20 (by omega) (by kernel_rfl)
    subst e15 e19 e20
    refine ⟨by kernel_rfl, ?_⟩
    gi_step
    refine ⟨trivial, ?_⟩
    refine (callsIn_wide.2 (HRCMP.out W)).mono ?_
    rintro e W' ⟨rfl, f2⟩
    dsimp only
    exact hK _ _ f2 rfl trivial
  simp only [Act.put, List.setIfInBounds_toArray, List.set_cons_succ, List.set_cons_zero]
  refine factWalkG_cons (fun W hW hf K hK => ?_) (fun x22 => ?_)
  · skip
    have e15 : x15 = .bool true := hf 15 (by omega) (by kernel_rfl)
    have e18 : x18 = .int .i64 cc := hf 18 (by omega) (by kernel_rfl)
    have e21 : x21 = .int .i64 cc := hf 21 (by omega) (by kernel_rfl)
    subst e15 e18 e21
    have hcc : ((cc : Int) == cc) = true := by simp
    refine ⟨by kernel_rfl, ?_⟩
    gi_step
    exact hK _ _ (Fr.refl _ _) rfl trivial
  simp only [Act.put, List.setIfInBounds_toArray, List.set_cons_succ, List.set_cons_zero]
  refine factWalkG_cons (fun W hW hf K hK => ?_) (fun x23 => ?_)
  · skip
    have e15 : x15 = .bool true := hf 15 (by omega) (by kernel_rfl)
    have e22 : x22 = .bool true := hf 22 (by omega) (by kernel_rfl)
    subst e15 e22
    refine ⟨by kernel_rfl, ?_⟩
    gi_step
    exact hK _ _ (Fr.refl _ _) rfl trivial
  simp only [Act.put, List.setIfInBounds_toArray, List.set_cons_succ, List.set_cons_zero]
  refine factWalkG_cons (fun W hW hf K hK => ?_) (fun x24 => ?_)
  · skip
    have e23 : x23 = .bool true := hf 23 (by omega) (by kernel_rfl)
    subst e23
    refine ⟨by kernel_rfl, ?_⟩
    gi_step
    exact hK _ _ (Fr.refl _ _) rfl trivial
  simp only [Act.put, List.setIfInBounds_toArray, List.set_cons_succ, List.set_cons_zero]
  refine factWalkG_cons (fun W hW hf K hK => ?_) (fun x25 => ?_)
  · skip
    have e24 : x24 = .bool true := hf 24 (by omega) (by kernel_rfl)
    subst e24
    refine ⟨by kernel_rfl, ?_⟩
    gi_step
    refine ⟨trivial, ?_⟩
    refine (callsIn_wide.2 (HAW.out W (F6.out.trans (HDR.out W hW) (fun _ _ h => h)))).mono ?_
    rintro e W' ⟨rfl, f2⟩
    dsimp only
    exact hK _ _ f2 rfl trivial
  simp only [Act.put, List.setIfInBounds_toArray, List.set_cons_succ, List.set_cons_zero]
  refine factWalkG_cons (fun W hW hf K hK => ?_) (fun x26 => ?_)
  · skip
    have e24 : x24 = .bool true := hf 24 (by omega) (by kernel_rfl)
    have e25 : x25 = .bool true := hf 25 (by omega) (by kernel_rfl)
    subst e24 e25
    refine ⟨by kernel_rfl, ?_⟩
    gi_step
    exact hK _ _ (Fr.refl _ _) rfl trivial
  simp only [Act.put, List.setIfInBounds_toArray, List.set_cons_succ, List.set_cons_zero]
  refine factWalkG_nil (fun W hW hf5 hmet => ?_)
  have e26 : x26 = .bool true := hf5 26 (by omega)
  subst e26
  have F9 : Hid (Fr (fun _ => False) w W) := Lib.hid (F6.out.trans (HDR.out W hW) (fun _ _ h => h))
  clear hf5 hmet hW HDR
  change wpAnyIn _ _ _ _ _ _ 1 _ _ _
  refine wpAnyIn_ready (rs := [27]) (by kernel_rfl) (by simp) ?_
  refine AllReadyIn.cons rfl (fun K hK => ?_) AllReadyIn.nil
  go_simp
  refine hK _ _ ?_
  refine wpAnyIn_done (by kernel_rfl) ?_ _
  clear hK K
  go_wp2_with fail
  go_ret
  exact ⟨rfl, F9.out⟩
end Go.Proofs.YtjaocgmicdnghaaGreatDoor
