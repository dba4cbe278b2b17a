/-
  RevText, walked.
-/
import Derived.Test.YtjaocgmicdnghaaDoorAwk
import Derived.Test.YtjaocgmicdnghaaDoorRparse
namespace Go.Proofs.YtjaocgmicdnghaaDoor
set_option linter.unusedSimpArgs false
set_option linter.unusedVariables false
open Go Go.RowKit Go.Shelf
attribute [local go_sem] Oper.semAt_some

set_option maxRecDepth 100000 in
set_option maxHeartbeats 2000000 in
theorem revText_c (w : World) (g : Nat) (s t : List UInt8) (hs : s.length = 16) (hg : g < 18446744073709551616) (hL : LaidOk w) :
    Calls Tryd.prog 3 #[.agg (rc g s).toArray, .string (strOf t)] w fun e w' => e = .returned (.bool true) ∧ Fr (fun _ => False) w w' := by
  have HL := Lib.hid hL
  have HS := Lib.hid hs
  have HG := Lib.hid hg
  have HI := Lib.hid (show (Tryd.prog.info? 25).map (·.size) = some (rc g s).length by rw [rc_len hs]; kernel_rfl)
  have hAW := fun (W : World) (hW : Fr (fun _ => False) w W) => awake_c W (hL.far hW)
  have HAW := Lib.hid hAW
  clear hAW hL hs hg
  by_cases hlen : t.length ≤ 1000
  case neg =>
    have d1 : decide ((1000 : Int) < ((strOf t).size : Int)) = true := by rw [strOf_size]; exact decide_eq_true (by omega)
    have d2 : decide (1000 < (strOf t).size) = true := by rw [strOf_size]; exact decide_eq_true (by omega)
    clear hlen
    go_enter Tryd.func3, Tryd.ntmps3
    go_wp2_with fail
    refine (HAW.out _ ((Fr.refl _ w).alloc _)).mono ?_
    rintro e w1 ⟨rfl, f1⟩
    have F1 := Lib.hid (((Fr.refl (fun _ => False) w).alloc (.cells (rc g s).toArray 25)).trans f1 (fun _ _ h => h))
    clear f1
    go_wp2_with fail
    go_ret
    exact ⟨rfl, F1.out⟩
  case pos =>
    have d1 : decide ((1000 : Int) < ((strOf t).size : Int)) = false := by rw [strOf_size]; exact decide_eq_false (by omega)
    have d2 : decide (1000 < (strOf t).size) = false := by rw [strOf_size]; exact decide_eq_false (by omega)
    go_enter Tryd.func3, Tryd.ntmps3
    go_upto_region 1 with fail
    refine abs_world (fun W => Hid (Blk W w.heap.size 25 (rc g s).toArray) ∧ Hid (Fr (fun _ => False) w W)) ⟨Blk.new w _ _, (Fr.refl _ w).alloc _⟩ ?_
    rintro W1 ⟨B1, F1⟩
    obtain ⟨b, hb⟩ : ∃ b, w.heap.size = b := ⟨_, rfl⟩
    rw [hb] at B1 ⊢
    clear hb
    have R1 := Lib.hid B1.out.rng
    cases hm : mayG g with
    | true =>
      have hpr := print_yes W1 g s HS.out hm (HL.out.far F1.out)
      have hrm := fun W => rMay_c W g s HS.out HG.out
      have hrp := fun W => rprint_c W g s HS.out HG.out
      simp only [hm] at hrm
      obtain ⟨Tx, hT⟩ : ∃ T, txt g s = T := ⟨_, rfl⟩
      rw [hT] at hpr
      simp only [hT] at hrp
      have e1 : ((strOf Tx).toList != (strOf Tx).toList) = false := by simp
      have e2 : ((strOf Tx).toList == (strOf Tx).toList) = true := by simp
      have HPR := Lib.hid hpr
      have HRM := Lib.hid hrm
      have HRT := Lib.hid hrp
      clear hpr hrm hrp hT hm
      go_wp2_with (first
        | (refine wpList_load_h 25 (.tmp 2) rfl ?_ b 0 ?_ (rc g s) _ ?_ Tryd.underlying25 rfl ?_ ?_
           · kernel_rfl
           · rfl
           · exact R1.out
           · exact HI.out))
      refine HPR.out.mono ?_
      rintro e W2 ⟨rfl, f⟩
      clear d1 d2 HPR
      have F2 := Lib.hid (F1.out.trans f (fun _ _ h => h))
      have B2 := Lib.hid (B1.out.fr f (fun h => h))
      have R2 := Lib.hid B2.out.rng
      clear f F1 B1 R1
      go_wp2_with (first
        | (refine wpList_load_h 25 (.tmp 2) rfl ?_ b 0 ?_ (rc g s) _ ?_ Tryd.underlying25 rfl ?_ ?_
           · kernel_rfl
           · rfl
           · exact R2.out
           · exact HI.out))
      refine (HRM.out W2).mono ?_
      rintro e W3 ⟨rfl, f⟩
      have F3 := Lib.hid (F2.out.trans f (fun _ _ h => h))
      have B3 := Lib.hid (B2.out.fr f (fun h => h))
      have R3 := Lib.hid B3.out.rng
      clear f F2 B2 R2
      go_wp2_with (first
        | (refine wpList_load_h 25 (.tmp 2) rfl ?_ b 0 ?_ (rc g s) _ ?_ Tryd.underlying25 rfl ?_ ?_
           · kernel_rfl
           · rfl
           · exact R3.out
           · exact HI.out))
      refine (HRT.out W3).mono ?_
      rintro e W4 ⟨rfl, f⟩
      have F4 := Lib.hid (F3.out.trans f (fun _ _ h => h))
      have B4 := Lib.hid (B3.out.fr f (fun h => h))
      have R4 := Lib.hid B4.out.rng
      clear f F3 B3 R3
      go_wp2_with (first
        | (refine wpList_load_h 25 (.tmp 2) rfl ?_ b 0 ?_ (rc g s) _ ?_ Tryd.underlying25 rfl ?_ ?_
           · kernel_rfl
           · rfl
           · exact R4.out
           · exact HI.out))
      refine (HRM.out W4).mono ?_
      rintro e W5 ⟨rfl, f⟩
      have F5 := Lib.hid (F4.out.trans f (fun _ _ h => h))
      have B5 := Lib.hid (B4.out.fr f (fun h => h))
      have R5 := Lib.hid B5.out.rng
      clear f F4 B4 R4
      go_wp2_with fail
      clear HRM HRT e1 e2
      have FW := Lib.hid F5.out
      refine (parse_c W5 t hlen (HL.out.far F5.out)).mono ?_
      rintro e X1 ⟨rfl, f⟩
      have FX := Lib.hid (F5.out.trans f (fun _ _ h => h))
      clear f FW F5 B5 R5
      cases hp : parse t with
      | some x =>
        obtain ⟨-, hq16, -⟩ := parse_some (show parse t = some (x.1, x.2) from hp)
        have HQ := Lib.hid hq16
        obtain ⟨y, z⟩ := x
        have hrp := fun W => rparse_c W t hlen
        simp only [hp] at hrp
        unfold rparseV at hrp
        unfold parseV
        dsimp only at hrp ⊢
        have HRP := Lib.hid hrp
        have HIQ := Lib.hid (show (Tryd.prog.info? 25).map (·.size) = some (rc y z).length by rw [rc_len HQ.out]; kernel_rfl)
        have FW := Lib.hid FX.out
        clear hrp hq16 hp
        have HSZ := Lib.hid (tRev_size (g := y) (s := z) HQ.out)
        have BN := Blk.new X1 25 (rc 0 zN).toArray
        have HTH : Hid ((X1.alloc (.cells (rc 0 zN).toArray 25)).there X1.heap.size 0 (rc y z).toArray.size) := by show World.there _ _ _ _; rw [show (rc y z).toArray.size = 17 from by rw [List.size_toArray, rc_len HQ.out]]; exact BN.there
        have HST := Lib.hid (BN.setAll (ds := (rc y z).toArray) (by rw [List.size_toArray, List.size_toArray, rc_len HQ.out]; rfl))
        have HONE := Lib.hid (rc_all y z)
        have FS0 : Hid (Fr (fun k => k = X1.heap.size) (X1.alloc (.cells (rc 0 zN).toArray 25)) ((X1.alloc (.cells (rc 0 zN).toArray 25)).setCells X1.heap.size 0 (rc y z).toArray.toList)) := Fr.setCells (fp := fun k => k = X1.heap.size) (a := X1.alloc (.cells (rc 0 zN).toArray 25)) (g := X1.heap.size) (fun _ => rfl) (rc y z) 0 (X1.alloc (.cells (rc 0 zN).toArray 25)) (Fr.refl _ _)
        have FST := Lib.hid ((FW.out.alloc (.cells (rc 0 zN).toArray 25)).trans FS0.out (fun k hk e => by have := FW.out.size; omega))
        clear BN FS0
        go_wp2_with (first
          | (refine wpList_store_mid rfl 25 _ _ rfl X1.heap.size 0 (rc y z).toArray rfl rfl HTH.out HSZ.out HONE.out ?_
             refine abs_list (fun W => Hid (Blk W X1.heap.size 25 (rc y z).toArray) ∧ Hid (Fr (fun _ => False) w W)) ⟨HST.out, FST.out⟩ ?_
             rintro X2 ⟨BX, FN⟩
             obtain ⟨x2, hx⟩ : ∃ x, X1.heap.size = x := ⟨_, rfl⟩
             rw [hx] at BX ⊢
             clear hx HSZ HTH HST HONE FST))
        refine (HRP.out X2).mono ?_
        rintro e X3 ⟨rfl, f⟩
        have FY := Lib.hid (FN.out.trans f (fun _ _ h => h))
        have BY := Lib.hid (BX.out.fr f (fun h => h))
        clear f FN BX FW FX
        have FW := Lib.hid FY.out
        have heq := fun W => run_eql_rev y y z z HQ.out HQ.out W
        simp only [and_self, decide_true] at heq
        have HSZ := Lib.hid (tRev_size (g := y) (s := z) HQ.out)
        have BN := Blk.new X3 25 (rc 0 zN).toArray
        have HTH : Hid ((X3.alloc (.cells (rc 0 zN).toArray 25)).there X3.heap.size 0 (rc y z).toArray.size) := by show World.there _ _ _ _; rw [show (rc y z).toArray.size = 17 from by rw [List.size_toArray, rc_len HQ.out]]; exact BN.there
        have HST := Lib.hid (BN.setAll (ds := (rc y z).toArray) (by rw [List.size_toArray, List.size_toArray, rc_len HQ.out]; rfl))
        have HONE := Lib.hid (rc_all y z)
        have FS0 : Hid (Fr (fun k => k = X3.heap.size) (X3.alloc (.cells (rc 0 zN).toArray 25)) ((X3.alloc (.cells (rc 0 zN).toArray 25)).setCells X3.heap.size 0 (rc y z).toArray.toList)) := Fr.setCells (fp := fun k => k = X3.heap.size) (a := X3.alloc (.cells (rc 0 zN).toArray 25)) (g := X3.heap.size) (fun _ => rfl) (rc y z) 0 (X3.alloc (.cells (rc 0 zN).toArray 25)) (Fr.refl _ _)
        have FST := Lib.hid ((FW.out.alloc (.cells (rc 0 zN).toArray 25)).trans FS0.out (fun k hk e => by have := FW.out.size; omega))
        have Dx2 := Lib.hid ((BY.out.alloc (.cells (rc 0 zN).toArray 25)).fr FS0.out (fun e => by have := BY.out.lt; omega))
        clear BN FS0
        go_wp2_with (first
          | (refine wpList_store_mid rfl 25 _ _ rfl X3.heap.size 0 (rc y z).toArray rfl rfl HTH.out HSZ.out HONE.out ?_
             refine abs_list (fun W => Hid (Blk W X3.heap.size 25 (rc y z).toArray) ∧ Hid (Blk W x2 25 (rc y z).toArray) ∧ Hid (Fr (fun _ => False) w W)) ⟨HST.out, Dx2.out, FST.out⟩ ?_
             rintro X4 ⟨BZ, Bx2, FN⟩
             obtain ⟨x4, hx⟩ : ∃ x, X3.heap.size = x := ⟨_, rfl⟩
             rw [hx] at BZ ⊢
             clear hx HSZ HTH HST HONE FST Dx2)
          | (refine wpList_load_h 25 (.tmp 7) rfl ?_ x2 0 ?_ (rc y z) _ ?_ Tryd.underlying25 rfl ?_ ?_
             · kernel_rfl
             · rfl
             · exact Bx2.out.rng
             · exact HIQ.out)
          | (refine wpList_load_h 25 (.tmp 9) rfl ?_ x4 0 ?_ (rc y z) _ ?_ Tryd.underlying25 rfl ?_ ?_
             · kernel_rfl
             · rfl
             · exact BZ.out.rng
             · exact HIQ.out))
        refine (HAW.out X4 FN.out).mono ?_
        rintro e X5 ⟨rfl, f⟩
        have FE := Lib.hid (FN.out.trans f (fun _ _ h => h))
        clear f
        go_wp2_with fail
        go_ret
        exact ⟨rfl, FE.out⟩
      | none =>
        have hq16 : zN.length = 16 := rfl
        have hrp := fun W => rparse_c W t hlen
        simp only [hp] at hrp
        unfold rparseV at hrp
        unfold parseV
        obtain ⟨z, hz⟩ : ∃ z, zN = z := ⟨_, rfl⟩
        dsimp only at hrp ⊢
        simp only [hz] at hrp
        rw [hz] at hq16 ⊢
        have HQ := Lib.hid hq16
        have HRP := Lib.hid hrp
        have HIQ := Lib.hid (show (Tryd.prog.info? 25).map (·.size) = some (rc 0 z).length by rw [rc_len HQ.out]; kernel_rfl)
        have FW := Lib.hid FX.out
        clear hrp hq16 hp hz
        have HSZ := Lib.hid (tRev_size (g := 0) (s := z) HQ.out)
        have BN := Blk.new X1 25 (rc 0 zN).toArray
        have HTH : Hid ((X1.alloc (.cells (rc 0 zN).toArray 25)).there X1.heap.size 0 (rc 0 z).toArray.size) := by show World.there _ _ _ _; rw [show (rc 0 z).toArray.size = 17 from by rw [List.size_toArray, rc_len HQ.out]]; exact BN.there
        have HST := Lib.hid (BN.setAll (ds := (rc 0 z).toArray) (by rw [List.size_toArray, List.size_toArray, rc_len HQ.out]; rfl))
        have HONE := Lib.hid (rc_all 0 z)
        have FS0 : Hid (Fr (fun k => k = X1.heap.size) (X1.alloc (.cells (rc 0 zN).toArray 25)) ((X1.alloc (.cells (rc 0 zN).toArray 25)).setCells X1.heap.size 0 (rc 0 z).toArray.toList)) := Fr.setCells (fp := fun k => k = X1.heap.size) (a := X1.alloc (.cells (rc 0 zN).toArray 25)) (g := X1.heap.size) (fun _ => rfl) (rc 0 z) 0 (X1.alloc (.cells (rc 0 zN).toArray 25)) (Fr.refl _ _)
        have FST := Lib.hid ((FW.out.alloc (.cells (rc 0 zN).toArray 25)).trans FS0.out (fun k hk e => by have := FW.out.size; omega))
        clear BN FS0
        go_wp2_with (first
          | (refine wpList_store_mid rfl 25 _ _ rfl X1.heap.size 0 (rc 0 z).toArray rfl rfl HTH.out HSZ.out HONE.out ?_
             refine abs_list (fun W => Hid (Blk W X1.heap.size 25 (rc 0 z).toArray) ∧ Hid (Fr (fun _ => False) w W)) ⟨HST.out, FST.out⟩ ?_
             rintro X2 ⟨BX, FN⟩
             obtain ⟨x2, hx⟩ : ∃ x, X1.heap.size = x := ⟨_, rfl⟩
             rw [hx] at BX ⊢
             clear hx HSZ HTH HST HONE FST))
        refine (HRP.out X2).mono ?_
        rintro e X3 ⟨rfl, f⟩
        have FY := Lib.hid (FN.out.trans f (fun _ _ h => h))
        have BY := Lib.hid (BX.out.fr f (fun h => h))
        clear f FN BX FW FX
        have FW := Lib.hid FY.out
        have heq := fun W => run_eql_rev 0 0 z z HQ.out HQ.out W
        simp only [and_self, decide_true] at heq
        have HSZ := Lib.hid (tRev_size (g := 0) (s := z) HQ.out)
        have BN := Blk.new X3 25 (rc 0 zN).toArray
        have HTH : Hid ((X3.alloc (.cells (rc 0 zN).toArray 25)).there X3.heap.size 0 (rc 0 z).toArray.size) := by show World.there _ _ _ _; rw [show (rc 0 z).toArray.size = 17 from by rw [List.size_toArray, rc_len HQ.out]]; exact BN.there
        have HST := Lib.hid (BN.setAll (ds := (rc 0 z).toArray) (by rw [List.size_toArray, List.size_toArray, rc_len HQ.out]; rfl))
        have HONE := Lib.hid (rc_all 0 z)
        have FS0 : Hid (Fr (fun k => k = X3.heap.size) (X3.alloc (.cells (rc 0 zN).toArray 25)) ((X3.alloc (.cells (rc 0 zN).toArray 25)).setCells X3.heap.size 0 (rc 0 z).toArray.toList)) := Fr.setCells (fp := fun k => k = X3.heap.size) (a := X3.alloc (.cells (rc 0 zN).toArray 25)) (g := X3.heap.size) (fun _ => rfl) (rc 0 z) 0 (X3.alloc (.cells (rc 0 zN).toArray 25)) (Fr.refl _ _)
        have FST := Lib.hid ((FW.out.alloc (.cells (rc 0 zN).toArray 25)).trans FS0.out (fun k hk e => by have := FW.out.size; omega))
        have Dx2 := Lib.hid ((BY.out.alloc (.cells (rc 0 zN).toArray 25)).fr FS0.out (fun e => by have := BY.out.lt; omega))
        clear BN FS0
        go_wp2_with (first
          | (refine wpList_store_mid rfl 25 _ _ rfl X3.heap.size 0 (rc 0 z).toArray rfl rfl HTH.out HSZ.out HONE.out ?_
             refine abs_list (fun W => Hid (Blk W X3.heap.size 25 (rc 0 z).toArray) ∧ Hid (Blk W x2 25 (rc 0 z).toArray) ∧ Hid (Fr (fun _ => False) w W)) ⟨HST.out, Dx2.out, FST.out⟩ ?_
             rintro X4 ⟨BZ, Bx2, FN⟩
             obtain ⟨x4, hx⟩ : ∃ x, X3.heap.size = x := ⟨_, rfl⟩
             rw [hx] at BZ ⊢
             clear hx HSZ HTH HST HONE FST Dx2)
          | (refine wpList_load_h 25 (.tmp 7) rfl ?_ x2 0 ?_ (rc 0 z) _ ?_ Tryd.underlying25 rfl ?_ ?_
             · kernel_rfl
             · rfl
             · exact Bx2.out.rng
             · exact HIQ.out)
          | (refine wpList_load_h 25 (.tmp 9) rfl ?_ x4 0 ?_ (rc 0 z) _ ?_ Tryd.underlying25 rfl ?_ ?_
             · kernel_rfl
             · rfl
             · exact BZ.out.rng
             · exact HIQ.out))
        refine (HAW.out X4 FN.out).mono ?_
        rintro e X5 ⟨rfl, f⟩
        have FE := Lib.hid (FN.out.trans f (fun _ _ h => h))
        clear f
        go_wp2_with fail
        go_ret
        exact ⟨rfl, FE.out⟩
    | false =>
      have hpr := print_no W1 g s HS.out HG.out hm
      have hrm := fun W => rMay_c W g s HS.out HG.out
      simp only [hm] at hrm
      have HPR := Lib.hid hpr
      have HRM := Lib.hid hrm
      clear hpr hrm hm
      go_wp2_with (first
        | (refine wpList_load_h 25 (.tmp 2) rfl ?_ b 0 ?_ (rc g s) _ ?_ Tryd.underlying25 rfl ?_ ?_
           · kernel_rfl
           · rfl
           · exact R1.out
           · exact HI.out))
      refine HPR.out.mono ?_
      rintro e W2 ⟨rfl, f⟩
      clear d1 d2 HPR
      have F2 := Lib.hid (F1.out.trans f (fun _ _ h => h))
      have B2 := Lib.hid (B1.out.fr f (fun h => h))
      have R2 := Lib.hid B2.out.rng
      clear f F1 B1 R1
      go_wp2_with (first
        | (refine wpList_load_h 25 (.tmp 2) rfl ?_ b 0 ?_ (rc g s) _ ?_ Tryd.underlying25 rfl ?_ ?_
           · kernel_rfl
           · rfl
           · exact R2.out
           · exact HI.out))
      refine (HRM.out W2).mono ?_
      rintro e W3 ⟨rfl, f⟩
      have F3 := Lib.hid (F2.out.trans f (fun _ _ h => h))
      have B3 := Lib.hid (B2.out.fr f (fun h => h))
      have R3 := Lib.hid B3.out.rng
      clear f F2 B2 R2
      go_wp2_with (first
        | (refine wpList_load_h 25 (.tmp 2) rfl ?_ b 0 ?_ (rc g s) _ ?_ Tryd.underlying25 rfl ?_ ?_
           · kernel_rfl
           · rfl
           · exact R3.out
           · exact HI.out))
      refine (HRM.out W3).mono ?_
      rintro e W4 ⟨rfl, f⟩
      have F4 := Lib.hid (F3.out.trans f (fun _ _ h => h))
      have B4 := Lib.hid (B3.out.fr f (fun h => h))
      have R4 := Lib.hid B4.out.rng
      clear f F3 B3 R3
      go_wp2_with fail
      clear HRM
      have FW := Lib.hid F4.out
      refine (parse_c W4 t hlen (HL.out.far F4.out)).mono ?_
      rintro e X1 ⟨rfl, f⟩
      have FX := Lib.hid (F4.out.trans f (fun _ _ h => h))
      clear f FW F4 B4 R4
      cases hp : parse t with
      | some x =>
        obtain ⟨-, hq16, -⟩ := parse_some (show parse t = some (x.1, x.2) from hp)
        have HQ := Lib.hid hq16
        obtain ⟨y, z⟩ := x
        have hrp := fun W => rparse_c W t hlen
        simp only [hp] at hrp
        unfold rparseV at hrp
        unfold parseV
        dsimp only at hrp ⊢
        have HRP := Lib.hid hrp
        have HIQ := Lib.hid (show (Tryd.prog.info? 25).map (·.size) = some (rc y z).length by rw [rc_len HQ.out]; kernel_rfl)
        have FW := Lib.hid FX.out
        clear hrp hq16 hp
        have HSZ := Lib.hid (tRev_size (g := y) (s := z) HQ.out)
        have BN := Blk.new X1 25 (rc 0 zN).toArray
        have HTH : Hid ((X1.alloc (.cells (rc 0 zN).toArray 25)).there X1.heap.size 0 (rc y z).toArray.size) := by show World.there _ _ _ _; rw [show (rc y z).toArray.size = 17 from by rw [List.size_toArray, rc_len HQ.out]]; exact BN.there
        have HST := Lib.hid (BN.setAll (ds := (rc y z).toArray) (by rw [List.size_toArray, List.size_toArray, rc_len HQ.out]; rfl))
        have HONE := Lib.hid (rc_all y z)
        have FS0 : Hid (Fr (fun k => k = X1.heap.size) (X1.alloc (.cells (rc 0 zN).toArray 25)) ((X1.alloc (.cells (rc 0 zN).toArray 25)).setCells X1.heap.size 0 (rc y z).toArray.toList)) := Fr.setCells (fp := fun k => k = X1.heap.size) (a := X1.alloc (.cells (rc 0 zN).toArray 25)) (g := X1.heap.size) (fun _ => rfl) (rc y z) 0 (X1.alloc (.cells (rc 0 zN).toArray 25)) (Fr.refl _ _)
        have FST := Lib.hid ((FW.out.alloc (.cells (rc 0 zN).toArray 25)).trans FS0.out (fun k hk e => by have := FW.out.size; omega))
        clear BN FS0
        go_wp2_with (first
          | (refine wpList_store_mid rfl 25 _ _ rfl X1.heap.size 0 (rc y z).toArray rfl rfl HTH.out HSZ.out HONE.out ?_
             refine abs_list (fun W => Hid (Blk W X1.heap.size 25 (rc y z).toArray) ∧ Hid (Fr (fun _ => False) w W)) ⟨HST.out, FST.out⟩ ?_
             rintro X2 ⟨BX, FN⟩
             obtain ⟨x2, hx⟩ : ∃ x, X1.heap.size = x := ⟨_, rfl⟩
             rw [hx] at BX ⊢
             clear hx HSZ HTH HST HONE FST))
        refine (HRP.out X2).mono ?_
        rintro e X3 ⟨rfl, f⟩
        have FY := Lib.hid (FN.out.trans f (fun _ _ h => h))
        have BY := Lib.hid (BX.out.fr f (fun h => h))
        clear f FN BX FW FX
        have FW := Lib.hid FY.out
        have heq := fun W => run_eql_rev y y z z HQ.out HQ.out W
        simp only [and_self, decide_true] at heq
        have HSZ := Lib.hid (tRev_size (g := y) (s := z) HQ.out)
        have BN := Blk.new X3 25 (rc 0 zN).toArray
        have HTH : Hid ((X3.alloc (.cells (rc 0 zN).toArray 25)).there X3.heap.size 0 (rc y z).toArray.size) := by show World.there _ _ _ _; rw [show (rc y z).toArray.size = 17 from by rw [List.size_toArray, rc_len HQ.out]]; exact BN.there
        have HST := Lib.hid (BN.setAll (ds := (rc y z).toArray) (by rw [List.size_toArray, List.size_toArray, rc_len HQ.out]; rfl))
        have HONE := Lib.hid (rc_all y z)
        have FS0 : Hid (Fr (fun k => k = X3.heap.size) (X3.alloc (.cells (rc 0 zN).toArray 25)) ((X3.alloc (.cells (rc 0 zN).toArray 25)).setCells X3.heap.size 0 (rc y z).toArray.toList)) := Fr.setCells (fp := fun k => k = X3.heap.size) (a := X3.alloc (.cells (rc 0 zN).toArray 25)) (g := X3.heap.size) (fun _ => rfl) (rc y z) 0 (X3.alloc (.cells (rc 0 zN).toArray 25)) (Fr.refl _ _)
        have FST := Lib.hid ((FW.out.alloc (.cells (rc 0 zN).toArray 25)).trans FS0.out (fun k hk e => by have := FW.out.size; omega))
        have Dx2 := Lib.hid ((BY.out.alloc (.cells (rc 0 zN).toArray 25)).fr FS0.out (fun e => by have := BY.out.lt; omega))
        clear BN FS0
        go_wp2_with (first
          | (refine wpList_store_mid rfl 25 _ _ rfl X3.heap.size 0 (rc y z).toArray rfl rfl HTH.out HSZ.out HONE.out ?_
             refine abs_list (fun W => Hid (Blk W X3.heap.size 25 (rc y z).toArray) ∧ Hid (Blk W x2 25 (rc y z).toArray) ∧ Hid (Fr (fun _ => False) w W)) ⟨HST.out, Dx2.out, FST.out⟩ ?_
             rintro X4 ⟨BZ, Bx2, FN⟩
             obtain ⟨x4, hx⟩ : ∃ x, X3.heap.size = x := ⟨_, rfl⟩
             rw [hx] at BZ ⊢
             clear hx HSZ HTH HST HONE FST Dx2)
          | (refine wpList_load_h 25 (.tmp 7) rfl ?_ x2 0 ?_ (rc y z) _ ?_ Tryd.underlying25 rfl ?_ ?_
             · kernel_rfl
             · rfl
             · exact Bx2.out.rng
             · exact HIQ.out)
          | (refine wpList_load_h 25 (.tmp 9) rfl ?_ x4 0 ?_ (rc y z) _ ?_ Tryd.underlying25 rfl ?_ ?_
             · kernel_rfl
             · rfl
             · exact BZ.out.rng
             · exact HIQ.out))
        refine (HAW.out X4 FN.out).mono ?_
        rintro e X5 ⟨rfl, f⟩
        have FE := Lib.hid (FN.out.trans f (fun _ _ h => h))
        clear f
        go_wp2_with fail
        go_ret
        exact ⟨rfl, FE.out⟩
      | none =>
        have hq16 : zN.length = 16 := rfl
        have hrp := fun W => rparse_c W t hlen
        simp only [hp] at hrp
        unfold rparseV at hrp
        unfold parseV
        obtain ⟨z, hz⟩ : ∃ z, zN = z := ⟨_, rfl⟩
        dsimp only at hrp ⊢
        simp only [hz] at hrp
        rw [hz] at hq16 ⊢
        have HQ := Lib.hid hq16
        have HRP := Lib.hid hrp
        have HIQ := Lib.hid (show (Tryd.prog.info? 25).map (·.size) = some (rc 0 z).length by rw [rc_len HQ.out]; kernel_rfl)
        have FW := Lib.hid FX.out
        clear hrp hq16 hp hz
        have HSZ := Lib.hid (tRev_size (g := 0) (s := z) HQ.out)
        have BN := Blk.new X1 25 (rc 0 zN).toArray
        have HTH : Hid ((X1.alloc (.cells (rc 0 zN).toArray 25)).there X1.heap.size 0 (rc 0 z).toArray.size) := by show World.there _ _ _ _; rw [show (rc 0 z).toArray.size = 17 from by rw [List.size_toArray, rc_len HQ.out]]; exact BN.there
        have HST := Lib.hid (BN.setAll (ds := (rc 0 z).toArray) (by rw [List.size_toArray, List.size_toArray, rc_len HQ.out]; rfl))
        have HONE := Lib.hid (rc_all 0 z)
        have FS0 : Hid (Fr (fun k => k = X1.heap.size) (X1.alloc (.cells (rc 0 zN).toArray 25)) ((X1.alloc (.cells (rc 0 zN).toArray 25)).setCells X1.heap.size 0 (rc 0 z).toArray.toList)) := Fr.setCells (fp := fun k => k = X1.heap.size) (a := X1.alloc (.cells (rc 0 zN).toArray 25)) (g := X1.heap.size) (fun _ => rfl) (rc 0 z) 0 (X1.alloc (.cells (rc 0 zN).toArray 25)) (Fr.refl _ _)
        have FST := Lib.hid ((FW.out.alloc (.cells (rc 0 zN).toArray 25)).trans FS0.out (fun k hk e => by have := FW.out.size; omega))
        clear BN FS0
        go_wp2_with (first
          | (refine wpList_store_mid rfl 25 _ _ rfl X1.heap.size 0 (rc 0 z).toArray rfl rfl HTH.out HSZ.out HONE.out ?_
             refine abs_list (fun W => Hid (Blk W X1.heap.size 25 (rc 0 z).toArray) ∧ Hid (Fr (fun _ => False) w W)) ⟨HST.out, FST.out⟩ ?_
             rintro X2 ⟨BX, FN⟩
             obtain ⟨x2, hx⟩ : ∃ x, X1.heap.size = x := ⟨_, rfl⟩
             rw [hx] at BX ⊢
             clear hx HSZ HTH HST HONE FST))
        refine (HRP.out X2).mono ?_
        rintro e X3 ⟨rfl, f⟩
        have FY := Lib.hid (FN.out.trans f (fun _ _ h => h))
        have BY := Lib.hid (BX.out.fr f (fun h => h))
        clear f FN BX FW FX
        have FW := Lib.hid FY.out
        have heq := fun W => run_eql_rev 0 0 z z HQ.out HQ.out W
        simp only [and_self, decide_true] at heq
        have HSZ := Lib.hid (tRev_size (g := 0) (s := z) HQ.out)
        have BN := Blk.new X3 25 (rc 0 zN).toArray
        have HTH : Hid ((X3.alloc (.cells (rc 0 zN).toArray 25)).there X3.heap.size 0 (rc 0 z).toArray.size) := by show World.there _ _ _ _; rw [show (rc 0 z).toArray.size = 17 from by rw [List.size_toArray, rc_len HQ.out]]; exact BN.there
        have HST := Lib.hid (BN.setAll (ds := (rc 0 z).toArray) (by rw [List.size_toArray, List.size_toArray, rc_len HQ.out]; rfl))
        have HONE := Lib.hid (rc_all 0 z)
        have FS0 : Hid (Fr (fun k => k = X3.heap.size) (X3.alloc (.cells (rc 0 zN).toArray 25)) ((X3.alloc (.cells (rc 0 zN).toArray 25)).setCells X3.heap.size 0 (rc 0 z).toArray.toList)) := Fr.setCells (fp := fun k => k = X3.heap.size) (a := X3.alloc (.cells (rc 0 zN).toArray 25)) (g := X3.heap.size) (fun _ => rfl) (rc 0 z) 0 (X3.alloc (.cells (rc 0 zN).toArray 25)) (Fr.refl _ _)
        have FST := Lib.hid ((FW.out.alloc (.cells (rc 0 zN).toArray 25)).trans FS0.out (fun k hk e => by have := FW.out.size; omega))
        have Dx2 := Lib.hid ((BY.out.alloc (.cells (rc 0 zN).toArray 25)).fr FS0.out (fun e => by have := BY.out.lt; omega))
        clear BN FS0
        go_wp2_with (first
          | (refine wpList_store_mid rfl 25 _ _ rfl X3.heap.size 0 (rc 0 z).toArray rfl rfl HTH.out HSZ.out HONE.out ?_
             refine abs_list (fun W => Hid (Blk W X3.heap.size 25 (rc 0 z).toArray) ∧ Hid (Blk W x2 25 (rc 0 z).toArray) ∧ Hid (Fr (fun _ => False) w W)) ⟨HST.out, Dx2.out, FST.out⟩ ?_
             rintro X4 ⟨BZ, Bx2, FN⟩
             obtain ⟨x4, hx⟩ : ∃ x, X3.heap.size = x := ⟨_, rfl⟩
             rw [hx] at BZ ⊢
             clear hx HSZ HTH HST HONE FST Dx2)
          | (refine wpList_load_h 25 (.tmp 7) rfl ?_ x2 0 ?_ (rc 0 z) _ ?_ Tryd.underlying25 rfl ?_ ?_
             · kernel_rfl
             · rfl
             · exact Bx2.out.rng
             · exact HIQ.out)
          | (refine wpList_load_h 25 (.tmp 9) rfl ?_ x4 0 ?_ (rc 0 z) _ ?_ Tryd.underlying25 rfl ?_ ?_
             · kernel_rfl
             · rfl
             · exact BZ.out.rng
             · exact HIQ.out))
        refine (HAW.out X4 FN.out).mono ?_
        rintro e X5 ⟨rfl, f⟩
        have FE := Lib.hid (FN.out.trans f (fun _ _ h => h))
        clear f
        go_wp2_with fail
        go_ret
        exact ⟨rfl, FE.out⟩
end Go.Proofs.YtjaocgmicdnghaaDoor
