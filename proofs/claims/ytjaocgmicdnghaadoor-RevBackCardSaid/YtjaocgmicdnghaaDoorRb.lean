/-
  RevBack, walked.
-/
import Derived.Test.YtjaocgmicdnghaaDoorAwk
import Derived.Test.YtjaocgmicdnghaaDoorRpp
namespace Go.Proofs.YtjaocgmicdnghaaDoor
set_option linter.unusedSimpArgs false
set_option linter.unusedVariables false
open Go Go.RowKit Go.Shelf
attribute [local go_sem] Oper.semAt_some

/-- What Print answers. -/
def prV (g : Nat) (s : List UInt8) : Value := .tuple #[.string (strOf (if mayG g then txt g s else [])), .int .i64 (if mayG g then 0 else 1)]
theorem print_c (w : World) (g : Nat) (s : List UInt8) (hs : s.length = 16) (hg : g < 18446744073709551616) (hL : LaidOk w) :
    Calls Tryd.prog 8 #[.agg (rc g s).toArray] w fun e w' => e = .returned (prV g s) ∧ Fr (fun _ => False) w w' := by
  cases h : mayG g
  · have := print_no w g s hs hg h
    unfold prV
    rw [h]
    exact this
  · have := print_yes w g s hs h hL
    unfold prV
    rw [h]
    exact this

set_option maxRecDepth 100000 in
set_option maxHeartbeats 2000000 in
/-- What stands behind the first part of the law: a text, parsed. -/
theorem revBack_c (w : World) (g g' : Nat) (s s' t : List UInt8) (hs : s.length = 16) (hs' : s'.length = 16) (hg : g < 18446744073709551616) (hg' : g' < 18446744073709551616) (hL : LaidOk w) :
    Calls Tryd.prog 5 #[.agg (rc g s).toArray, .agg (rc g' s').toArray, .string (strOf t)] w fun e w' => e = .returned (.bool true) ∧ Fr (fun _ => False) w w' := by
  have HL := Lib.hid hL
  have HS := Lib.hid hs
  have HS' := Lib.hid hs'
  have HG := Lib.hid hg
  have HG' := Lib.hid hg'
  have HI := Lib.hid (show (Tryd.prog.info? 25).map (·.size) = some (rc g s).length by rw [rc_len hs]; kernel_rfl)
  have HI' := Lib.hid (show (Tryd.prog.info? 25).map (·.size) = some (rc g' s').length by rw [rc_len hs']; kernel_rfl)
  have hAW := fun (W : World) (hW : Fr (fun _ => False) w W) => awake_c W (hL.far hW)
  have HAW := Lib.hid hAW
  clear hAW hL hs hs' hg hg'
  by_cases hlen : t.length ≤ 1000
  case neg =>
    have d1 : decide ((1000 : Int) < ((strOf t).size : Int)) = true := by rw [strOf_size]; exact decide_eq_true (by omega)
    have d2 : decide (1000 < (strOf t).size) = true := by rw [strOf_size]; exact decide_eq_true (by omega)
    clear hlen
    go_enter Tryd.func5, Tryd.ntmps5
    go_wp2_with fail
    refine (HAW.out _ (((Fr.refl _ w).alloc _).alloc _)).mono ?_
    rintro e w1 ⟨rfl, f1⟩
    have F1 := Lib.hid ((((Fr.refl (fun _ => False) w).alloc (.cells (rc g s).toArray 25)).alloc (.cells (rc g' s').toArray 25)).trans f1 (fun _ _ h => h))
    clear f1
    go_wp2_with fail
    go_ret
    exact ⟨rfl, F1.out⟩
  case pos =>
    have d1 : decide ((1000 : Int) < ((strOf t).size : Int)) = false := by rw [strOf_size]; exact decide_eq_false (by omega)
    have d2 : decide (1000 < (strOf t).size) = false := by rw [strOf_size]; exact decide_eq_false (by omega)
    go_enter Tryd.func5, Tryd.ntmps5
    go_upto_region 1 with fail
    refine abs_world (fun W => Hid (Blk W w.heap.size 25 (rc g s).toArray) ∧ Hid (Blk W (w.heap.size + 1) 25 (rc g' s').toArray) ∧ Hid (Fr (fun _ => False) w W)) ⟨(Blk.new w _ _).alloc _, by have h := Blk.new (w.alloc (.cells (rc g s).toArray 25)) 25 (rc g' s').toArray; rw [World.size_alloc] at h; exact h, ((Fr.refl _ w).alloc _).alloc _⟩ ?_
    rintro W1 ⟨B1, D1, F1⟩
    obtain ⟨c, hc⟩ : ∃ b, w.heap.size + 1 = b := ⟨_, rfl⟩
    rw [hc] at D1 ⊢
    obtain ⟨b, hb⟩ : ∃ b, w.heap.size = b := ⟨_, rfl⟩
    rw [hb] at B1 ⊢
    clear hb hc
    have R1 := Lib.hid B1.out.rng
    have Q1 := Lib.hid D1.out.rng
    have HP1 := Lib.hid (fun (W : World) (hW : Fr (fun _ => False) w W) => print_c W g s HS.out HG.out (HL.out.far hW))
    have HP2 := Lib.hid (fun (W : World) (hW : Fr (fun _ => False) w W) => print_c W g' s' HS'.out HG'.out (HL.out.far hW))
    cases hm : mayG g with
    | false =>
      have hp1 := HP1.out W1 F1.out
      unfold prV at hp1
      rw [hm] at hp1
      have hp1' : Calls Tryd.prog 8 #[.agg (rc g s).toArray] W1 fun e w' => e = .returned (.tuple #[.string ⟨#[]⟩, .int .i64 1]) ∧ Fr (fun _ => False) W1 w' := hp1
      have HPA := Lib.hid hp1'
      clear hp1 hp1' hm HP1
      go_wp2_with (first
        | (refine wpList_load_h 25 (.tmp 3) rfl ?_ b 0 ?_ (rc g s) _ ?_ Tryd.underlying25 rfl ?_ ?_
           · kernel_rfl
           · rfl
           · exact R1.out
           · exact HI.out))
      refine HPA.out.mono ?_
      rintro e W2 ⟨rfl, f⟩
      clear d1 d2 HPA
      have F2 := Lib.hid (F1.out.trans f (fun _ _ h => h))
      have B2 := Lib.hid (B1.out.fr f (fun h => h))
      have D2 := Lib.hid (D1.out.fr f (fun h => h))
      have R2 := Lib.hid B2.out.rng
      have Q2 := Lib.hid D2.out.rng
      clear f F1 B1 R1 D1 Q1
      have hp2 := HP2.out W2 F2.out
      unfold prV at hp2
      obtain ⟨t2, ht2⟩ : ∃ l, (if mayG g' then txt g' s' else []) = l := ⟨_, rfl⟩
      obtain ⟨e2, he2⟩ : ∃ l : Int, (if mayG g' then 0 else 1) = l := ⟨_, rfl⟩
      rw [ht2, he2] at hp2
      have HPB := Lib.hid hp2
      clear hp2 ht2 he2 HP2
      go_wp2_with (first
        | (refine wpList_load_h 25 (.tmp 4) rfl ?_ c 0 ?_ (rc g' s') _ ?_ Tryd.underlying25 rfl ?_ ?_
           · kernel_rfl
           · rfl
           · exact Q2.out
           · exact HI'.out))
      refine HPB.out.mono ?_
      rintro e W3 ⟨rfl, f⟩
      have F3 := Lib.hid (F2.out.trans f (fun _ _ h => h))
      clear f F2 B2 D2 R2 Q2 HPB
      go_wp2_with fail
      refine (parse_c W3 t hlen (HL.out.far F3.out)).mono ?_
      rintro e X1 ⟨rfl, f⟩
      have FW := Lib.hid (F3.out.trans f (fun _ _ h => h))
      clear f
      cases hp : parse t with
      | none =>
        unfold parseV
        dsimp only
        have hq16 : zN.length = 16 := rfl
        obtain ⟨z, hz⟩ : ∃ z, zN = z := ⟨_, rfl⟩
        rw [hz] at hq16 ⊢
        have HQ := Lib.hid hq16
        clear hp hz hq16
        have HSZ := Lib.hid (tRev_size (g := 0) (s := z) HQ.out)
        have BN := Blk.new X1 25 (rc 0 zN).toArray
        have HTH : Hid ((X1.alloc (.cells (rc 0 zN).toArray 25)).there X1.heap.size 0 (rc 0 z).toArray.size) := by show World.there _ _ _ _; rw [show (rc 0 z).toArray.size = 17 from by rw [List.size_toArray, rc_len HQ.out]]; exact BN.there
        have HST := Lib.hid (BN.setAll (ds := (rc 0 z).toArray) (by rw [List.size_toArray, List.size_toArray, rc_len HQ.out]; rfl))
        have HONE := Lib.hid (rc_all 0 z)
        have FS0 : Hid (Fr (fun k => k = X1.heap.size) (X1.alloc (.cells (rc 0 zN).toArray 25)) ((X1.alloc (.cells (rc 0 zN).toArray 25)).setCells X1.heap.size 0 (rc 0 z).toArray.toList)) := Fr.setCells (fp := fun k => k = X1.heap.size) (a := X1.alloc (.cells (rc 0 zN).toArray 25)) (g := X1.heap.size) (fun _ => rfl) (rc 0 z) 0 (X1.alloc (.cells (rc 0 zN).toArray 25)) (Fr.refl _ _)
        have FST := Lib.hid ((FW.out.alloc (.cells (rc 0 zN).toArray 25)).trans FS0.out (fun k hk e => by have := FW.out.size; omega))
        clear BN FS0
        go_wp2_with (first
          | (refine wpList_store_mid rfl 25 _ _ rfl X1.heap.size 0 (rc 0 z).toArray rfl rfl HTH.out HSZ.out HONE.out ?_
             refine abs_list (fun W => Hid (Blk W X1.heap.size 25 (rc 0 z).toArray) ∧ Hid (Fr (fun _ => False) w W)) ⟨HST.out, FST.out⟩ ?_
             rintro X2 ⟨BX, FN⟩
             obtain ⟨x2, hx⟩ : ∃ x, X1.heap.size = x := ⟨_, rfl⟩
             rw [hx] at BX ⊢
             clear hx HSZ HTH HST HONE FST))
        refine (HAW.out X2 FN.out).mono ?_
        rintro e X5 ⟨rfl, f⟩
        have FE := Lib.hid (FN.out.trans f (fun _ _ h => h))
        clear f
        go_wp2_with fail
        go_ret
        exact ⟨rfl, FE.out⟩
      | some x =>
        obtain ⟨y, z⟩ := x
        obtain ⟨hm1, hq16, ht⟩ := parse_some hp
        unfold parseV
        dsimp only
        have HQ := Lib.hid hq16
        have hmy : mayG y = true := by unfold mayG; exact decide_eq_true hm1
        have hy64 : y < 18446744073709551616 := by omega
        have hpy := fun (W : World) (hW : Fr (fun _ => False) w W) => print_yes W y z HQ.out hmy (HL.out.far hW)
        have hmm := fun (W : World) => may_c W y z HQ.out hy64
        rw [ht] at hpy
        simp only [hmy] at hmm
        have HPY := Lib.hid hpy
        have HMM := Lib.hid hmm
        have e1 : ((strOf t).toList == (strOf t).toList) = true := by simp
        have HIQ := Lib.hid (show (Tryd.prog.info? 25).map (·.size) = some (rc y z).length by rw [rc_len HQ.out]; kernel_rfl)
        clear hp hq16 hm1 hmy hy64 ht hpy hmm
        have HSZ := Lib.hid (tRev_size (g := y) (s := z) HQ.out)
        have BN := Blk.new X1 25 (rc 0 zN).toArray
        have HTH : Hid ((X1.alloc (.cells (rc 0 zN).toArray 25)).there X1.heap.size 0 (rc y z).toArray.size) := by show World.there _ _ _ _; rw [show (rc y z).toArray.size = 17 from by rw [List.size_toArray, rc_len HQ.out]]; exact BN.there
        have HST := Lib.hid (BN.setAll (ds := (rc y z).toArray) (by rw [List.size_toArray, List.size_toArray, rc_len HQ.out]; rfl))
        have HONE := Lib.hid (rc_all y z)
        have FS0 : Hid (Fr (fun k => k = X1.heap.size) (X1.alloc (.cells (rc 0 zN).toArray 25)) ((X1.alloc (.cells (rc 0 zN).toArray 25)).setCells X1.heap.size 0 (rc y z).toArray.toList)) := Fr.setCells (fp := fun k => k = X1.heap.size) (a := X1.alloc (.cells (rc 0 zN).toArray 25)) (g := X1.heap.size) (fun _ => rfl) (rc y z) 0 (X1.alloc (.cells (rc 0 zN).toArray 25)) (Fr.refl _ _)
        have FST := Lib.hid ((FW.out.alloc (.cells (rc 0 zN).toArray 25)).trans FS0.out (fun k hk e => by have := FW.out.size; omega))
        clear BN FS0
        go_wp2_with (first
          | (refine wpList_store_mid rfl 25 _ _ rfl X1.heap.size 0 (rc y z).toArray rfl rfl HTH.out HSZ.out HONE.out ?_
             refine abs_list (fun W => Hid (Blk W X1.heap.size 25 (rc y z).toArray) ∧ Hid (Fr (fun _ => False) w W)) ⟨HST.out, FST.out⟩ ?_
             rintro X2 ⟨BX, FN⟩
             obtain ⟨x2, hx⟩ : ∃ x, X1.heap.size = x := ⟨_, rfl⟩
             rw [hx] at BX ⊢
             clear hx HSZ HTH HST HONE FST)
          | (refine wpList_load_h 25 (.tmp 13) rfl ?_ x2 0 ?_ (rc y z) _ ?_ Tryd.underlying25 rfl ?_ ?_
             · kernel_rfl
             · rfl
             · exact BX.out.rng
             · exact HIQ.out))
        refine (HPY.out X2 FN.out).mono ?_
        rintro e X3 ⟨rfl, f⟩
        have FY := Lib.hid (FN.out.trans f (fun _ _ h => h))
        have BY := Lib.hid (BX.out.fr f (fun h => h))
        clear f
        go_wp2_with (first
          | (refine wpList_load_h 25 (.tmp 13) rfl ?_ x2 0 ?_ (rc y z) _ ?_ Tryd.underlying25 rfl ?_ ?_
             · kernel_rfl
             · rfl
             · exact BY.out.rng
             · exact HIQ.out))
        refine (HMM.out X3).mono ?_
        rintro e X4 ⟨rfl, f⟩
        have FZ := Lib.hid (FY.out.trans f (fun _ _ h => h))
        clear f
        go_wp2_with fail
        refine (HAW.out X4 FZ.out).mono ?_
        rintro e X5 ⟨rfl, f⟩
        have FE := Lib.hid (FZ.out.trans f (fun _ _ h => h))
        clear f
        go_wp2_with fail
        go_ret
        exact ⟨rfl, FE.out⟩
    | true =>
      have hp1 := HP1.out W1 F1.out
      unfold prV at hp1
      rw [hm] at hp1
      have hp1' : Calls Tryd.prog 8 #[.agg (rc g s).toArray] W1 fun e w' => e = .returned (.tuple #[.string (strOf (txt g s)), .int .i64 0]) ∧ Fr (fun _ => False) W1 w' := hp1
      have hg1 : 1 ≤ g ∧ g ≤ 4611686018427387903 := by unfold mayG at hm; simpa using hm
      have htl : (txt g s).length ≤ 1000 := by
        unfold txt
        have h1 : (Lib.decDigits g).length ≤ 20 := by rw [Lib.decDigits_length]; exact Lib.nDigits_le20 g HG.out
        rw [List.length_append, List.length_cons, hexL_length, HS.out]
        omega
      have hpg : parse (txt g s) = some (g, s) := parse_txt ⟨hg1, HS.out, rfl⟩
      have hinj : ∀ g2 s2, mayG g2 = true → txt g s = txt g2 s2 → g = g2 ∧ s = s2 := fun g2 s2 h2 he => txt_inj hg1.2 (by unfold mayG at h2; simp at h2; omega) he
      have hpt := fun (W : World) (hW : Fr (fun _ => False) w W) => parse_c W (txt g s) htl (HL.out.far hW)
      rw [hpg] at hpt
      unfold parseV at hpt
      dsimp only at hpt
      have HINJ := Lib.hid hinj
      have HPT := Lib.hid hpt
      have HPA := Lib.hid hp1'
      have HM := Lib.hid hm
      clear hp1 hp1' hm HP1 hg1 htl hpg hinj hpt
      go_wp2_with (first
        | (refine wpList_load_h 25 (.tmp 3) rfl ?_ b 0 ?_ (rc g s) _ ?_ Tryd.underlying25 rfl ?_ ?_
           · kernel_rfl
           · rfl
           · exact R1.out
           · exact HI.out))
      refine HPA.out.mono ?_
      rintro e W2 ⟨rfl, f⟩
      clear d1 d2 HPA
      have F2 := Lib.hid (F1.out.trans f (fun _ _ h => h))
      have B2 := Lib.hid (B1.out.fr f (fun h => h))
      have D2 := Lib.hid (D1.out.fr f (fun h => h))
      have R2 := Lib.hid B2.out.rng
      have Q2 := Lib.hid D2.out.rng
      clear f F1 B1 R1 D1 Q1
      have hp2 := HP2.out W2 F2.out
      unfold prV at hp2
      have hneq := fun W => run_neq_rev g g s s HS.out HS.out W
      have heq := fun W => run_eql_rev g g' s s' HS.out HS'.out W
      simp only [and_self, decide_true, Bool.not_true] at hneq
      have HNEQ := Lib.hid hneq
      have HEQ := Lib.hid heq
      clear hneq heq
      cases hm2 : mayG g' with
      | false =>
        rw [hm2] at hp2
        have hp2' : Calls Tryd.prog 8 #[.agg (rc g' s').toArray] W2 fun e w' => e = .returned (.tuple #[.string ⟨#[]⟩, .int .i64 1]) ∧ Fr (fun _ => False) W2 w' := hp2
        have HPB := Lib.hid hp2'
        clear hp2 hp2' hm2 HP2 HINJ
        obtain ⟨P1, hP1⟩ : ∃ l, txt g s = l := ⟨_, rfl⟩
        rw [hP1] at HPT ⊢
        clear hP1
        go_wp2_with (first
          | (refine wpList_load_h 25 (.tmp 4) rfl ?_ c 0 ?_ (rc g' s') _ ?_ Tryd.underlying25 rfl ?_ ?_
             · kernel_rfl
             · rfl
             · exact Q2.out
             · exact HI'.out))
        refine HPB.out.mono ?_
        rintro e W3 ⟨rfl, f⟩
        clear HPB
        have F3 := Lib.hid (F2.out.trans f (fun _ _ h => h))
        have B3 := Lib.hid (B2.out.fr f (fun h => h))
        have D3 := Lib.hid (D2.out.fr f (fun h => h))
        have R3 := Lib.hid B3.out.rng
        have Q3 := Lib.hid D3.out.rng
        clear f F2 B2 R2 D2 Q2
        go_wp2_with fail
        refine (HPT.out W3 F3.out).mono ?_
        rintro e X0 ⟨rfl, f⟩
        have FW := Lib.hid (F3.out.trans f (fun _ _ h => h))
        have BC := Lib.hid (B3.out.fr f (fun h => h))
        have DC := Lib.hid (D3.out.fr f (fun h => h))
        clear f F3 B3 D3 R3 Q3
        have hneq := HNEQ.out
        have HSZ := Lib.hid (tRev_size (g := g) (s := s) HS.out)
        have BN := Blk.new X0 25 (rc 0 zN).toArray
        have HTH : Hid ((X0.alloc (.cells (rc 0 zN).toArray 25)).there X0.heap.size 0 (rc g s).toArray.size) := by show World.there _ _ _ _; rw [show (rc g s).toArray.size = 17 from by rw [List.size_toArray, rc_len HS.out]]; exact BN.there
        have HST := Lib.hid (BN.setAll (ds := (rc g s).toArray) (by rw [List.size_toArray, List.size_toArray, rc_len HS.out]; rfl))
        have HONE := Lib.hid (rc_all g s)
        have FS0 : Hid (Fr (fun k => k = X0.heap.size) (X0.alloc (.cells (rc 0 zN).toArray 25)) ((X0.alloc (.cells (rc 0 zN).toArray 25)).setCells X0.heap.size 0 (rc g s).toArray.toList)) := Fr.setCells (fp := fun k => k = X0.heap.size) (a := X0.alloc (.cells (rc 0 zN).toArray 25)) (g := X0.heap.size) (fun _ => rfl) (rc g s) 0 (X0.alloc (.cells (rc 0 zN).toArray 25)) (Fr.refl _ _)
        have FST := Lib.hid ((FW.out.alloc (.cells (rc 0 zN).toArray 25)).trans FS0.out (fun k hk e => by have := FW.out.size; omega))
        have Db := Lib.hid ((BC.out.alloc (.cells (rc 0 zN).toArray 25)).fr FS0.out (fun e => by have := BC.out.lt; omega))
        have Dc := Lib.hid ((DC.out.alloc (.cells (rc 0 zN).toArray 25)).fr FS0.out (fun e => by have := DC.out.lt; omega))
        clear BN FS0
        go_wp2_with (first
          | (refine wpList_store_mid rfl 25 _ _ rfl X0.heap.size 0 (rc g s).toArray rfl rfl HTH.out HSZ.out HONE.out ?_
             refine abs_list (fun W => Hid (Blk W X0.heap.size 25 (rc g s).toArray) ∧ Hid (Blk W b 25 (rc g s).toArray) ∧ Hid (Blk W c 25 (rc g' s').toArray) ∧ Hid (Fr (fun _ => False) w W)) ⟨HST.out, Db.out, Dc.out, FST.out⟩ ?_
             rintro Y1 ⟨BX, Bb, Bc, FN⟩
             obtain ⟨x0, hx⟩ : ∃ x, X0.heap.size = x := ⟨_, rfl⟩
             rw [hx] at BX ⊢
             clear hx HSZ HTH HST HONE FST Db Dc)
          | (refine wpList_load_h 25 (.tmp 11) rfl ?_ x0 0 ?_ (rc g s) _ ?_ Tryd.underlying25 rfl ?_ ?_
             · kernel_rfl
             · rfl
             · exact BX.out.rng
             · exact HI.out)
          | (refine wpList_load_h 25 (.tmp 3) rfl ?_ b 0 ?_ (rc g s) _ ?_ Tryd.underlying25 rfl ?_ ?_
             · kernel_rfl
             · rfl
             · exact Bb.out.rng
             · exact HI.out))
        clear hneq
        have FP := Lib.hid FN.out
        clear FN BX Bb Bc FW BC DC
        refine (parse_c Y1 t hlen (HL.out.far FP.out)).mono ?_
        rintro e X1 ⟨rfl, f⟩
        have FW := Lib.hid (FP.out.trans f (fun _ _ h => h))
        clear f
        cases hp : parse t with
        | none =>
          unfold parseV
          dsimp only
          have hq16 : zN.length = 16 := rfl
          obtain ⟨z, hz⟩ : ∃ z, zN = z := ⟨_, rfl⟩
          rw [hz] at hq16 ⊢
          have HQ := Lib.hid hq16
          clear hp hz hq16
          have HSZ := Lib.hid (tRev_size (g := 0) (s := z) HQ.out)
          have BN := Blk.new X1 25 (rc 0 zN).toArray
          have HTH : Hid ((X1.alloc (.cells (rc 0 zN).toArray 25)).there X1.heap.size 0 (rc 0 z).toArray.size) := by show World.there _ _ _ _; rw [show (rc 0 z).toArray.size = 17 from by rw [List.size_toArray, rc_len HQ.out]]; exact BN.there
          have HST := Lib.hid (BN.setAll (ds := (rc 0 z).toArray) (by rw [List.size_toArray, List.size_toArray, rc_len HQ.out]; rfl))
          have HONE := Lib.hid (rc_all 0 z)
          have FS0 : Hid (Fr (fun k => k = X1.heap.size) (X1.alloc (.cells (rc 0 zN).toArray 25)) ((X1.alloc (.cells (rc 0 zN).toArray 25)).setCells X1.heap.size 0 (rc 0 z).toArray.toList)) := Fr.setCells (fp := fun k => k = X1.heap.size) (a := X1.alloc (.cells (rc 0 zN).toArray 25)) (g := X1.heap.size) (fun _ => rfl) (rc 0 z) 0 (X1.alloc (.cells (rc 0 zN).toArray 25)) (Fr.refl _ _)
          have FST := Lib.hid ((FW.out.alloc (.cells (rc 0 zN).toArray 25)).trans FS0.out (fun k hk e => by have := FW.out.size; omega))
          clear BN FS0
          go_wp2_with (first
            | (refine wpList_store_mid rfl 25 _ _ rfl X1.heap.size 0 (rc 0 z).toArray rfl rfl HTH.out HSZ.out HONE.out ?_
               refine abs_list (fun W => Hid (Blk W X1.heap.size 25 (rc 0 z).toArray) ∧ Hid (Fr (fun _ => False) w W)) ⟨HST.out, FST.out⟩ ?_
               rintro X2 ⟨BX, FN⟩
               obtain ⟨x2, hx⟩ : ∃ x, X1.heap.size = x := ⟨_, rfl⟩
               rw [hx] at BX ⊢
               clear hx HSZ HTH HST HONE FST))
          refine (HAW.out X2 FN.out).mono ?_
          rintro e X5 ⟨rfl, f⟩
          have FE := Lib.hid (FN.out.trans f (fun _ _ h => h))
          clear f
          go_wp2_with fail
          go_ret
          exact ⟨rfl, FE.out⟩
        | some x =>
          obtain ⟨y, z⟩ := x
          obtain ⟨hm1, hq16, ht⟩ := parse_some hp
          unfold parseV
          dsimp only
          have HQ := Lib.hid hq16
          have hmy : mayG y = true := by unfold mayG; exact decide_eq_true hm1
          have hy64 : y < 18446744073709551616 := by omega
          have hpy := fun (W : World) (hW : Fr (fun _ => False) w W) => print_yes W y z HQ.out hmy (HL.out.far hW)
          have hmm := fun (W : World) => may_c W y z HQ.out hy64
          rw [ht] at hpy
          simp only [hmy] at hmm
          have HPY := Lib.hid hpy
          have HMM := Lib.hid hmm
          have e1 : ((strOf t).toList == (strOf t).toList) = true := by simp
          have HIQ := Lib.hid (show (Tryd.prog.info? 25).map (·.size) = some (rc y z).length by rw [rc_len HQ.out]; kernel_rfl)
          clear hp hq16 hm1 hmy hy64 ht hpy hmm
          have HSZ := Lib.hid (tRev_size (g := y) (s := z) HQ.out)
          have BN := Blk.new X1 25 (rc 0 zN).toArray
          have HTH : Hid ((X1.alloc (.cells (rc 0 zN).toArray 25)).there X1.heap.size 0 (rc y z).toArray.size) := by show World.there _ _ _ _; rw [show (rc y z).toArray.size = 17 from by rw [List.size_toArray, rc_len HQ.out]]; exact BN.there
          have HST := Lib.hid (BN.setAll (ds := (rc y z).toArray) (by rw [List.size_toArray, List.size_toArray, rc_len HQ.out]; rfl))
          have HONE := Lib.hid (rc_all y z)
          have FS0 : Hid (Fr (fun k => k = X1.heap.size) (X1.alloc (.cells (rc 0 zN).toArray 25)) ((X1.alloc (.cells (rc 0 zN).toArray 25)).setCells X1.heap.size 0 (rc y z).toArray.toList)) := Fr.setCells (fp := fun k => k = X1.heap.size) (a := X1.alloc (.cells (rc 0 zN).toArray 25)) (g := X1.heap.size) (fun _ => rfl) (rc y z) 0 (X1.alloc (.cells (rc 0 zN).toArray 25)) (Fr.refl _ _)
          have FST := Lib.hid ((FW.out.alloc (.cells (rc 0 zN).toArray 25)).trans FS0.out (fun k hk e => by have := FW.out.size; omega))
          clear BN FS0
          go_wp2_with (first
            | (refine wpList_store_mid rfl 25 _ _ rfl X1.heap.size 0 (rc y z).toArray rfl rfl HTH.out HSZ.out HONE.out ?_
               refine abs_list (fun W => Hid (Blk W X1.heap.size 25 (rc y z).toArray) ∧ Hid (Fr (fun _ => False) w W)) ⟨HST.out, FST.out⟩ ?_
               rintro X2 ⟨BX, FN⟩
               obtain ⟨x2, hx⟩ : ∃ x, X1.heap.size = x := ⟨_, rfl⟩
               rw [hx] at BX ⊢
               clear hx HSZ HTH HST HONE FST)
            | (refine wpList_load_h 25 (.tmp 13) rfl ?_ x2 0 ?_ (rc y z) _ ?_ Tryd.underlying25 rfl ?_ ?_
               · kernel_rfl
               · rfl
               · exact BX.out.rng
               · exact HIQ.out))
          refine (HPY.out X2 FN.out).mono ?_
          rintro e X3 ⟨rfl, f⟩
          have FY := Lib.hid (FN.out.trans f (fun _ _ h => h))
          have BY := Lib.hid (BX.out.fr f (fun h => h))
          clear f
          go_wp2_with (first
            | (refine wpList_load_h 25 (.tmp 13) rfl ?_ x2 0 ?_ (rc y z) _ ?_ Tryd.underlying25 rfl ?_ ?_
               · kernel_rfl
               · rfl
               · exact BY.out.rng
               · exact HIQ.out))
          refine (HMM.out X3).mono ?_
          rintro e X4 ⟨rfl, f⟩
          have FZ := Lib.hid (FY.out.trans f (fun _ _ h => h))
          clear f
          go_wp2_with fail
          refine (HAW.out X4 FZ.out).mono ?_
          rintro e X5 ⟨rfl, f⟩
          have FE := Lib.hid (FZ.out.trans f (fun _ _ h => h))
          clear f
          go_wp2_with fail
          go_ret
          exact ⟨rfl, FE.out⟩
      | true =>
        rw [hm2] at hp2
        have hp2' : Calls Tryd.prog 8 #[.agg (rc g' s').toArray] W2 fun e w' => e = .returned (.tuple #[.string (strOf (txt g' s')), .int .i64 0]) ∧ Fr (fun _ => False) W2 w' := hp2
        have HPB := Lib.hid hp2'
        have hiff : (txt g s = txt g' s') ↔ (g = g' ∧ s = s') := ⟨HINJ.out g' s' hm2, fun h => by rw [h.1, h.2]⟩
        obtain ⟨P2, hP2⟩ : ∃ l, txt g' s' = l := ⟨_, rfl⟩
        obtain ⟨q, hq⟩ : ∃ q, decide (g = g' ∧ s = s') = q := ⟨_, rfl⟩
        have hsq : ((strOf (txt g s)).toList == (strOf P2).toList) = q := by
          rw [strOf_toList, strOf_toList, ← hq, ← hP2, Bool.eq_iff_iff, beq_iff_eq, decide_eq_true_eq]
          exact hiff
        have HSQ := Lib.hid hsq
        have heqq := HEQ.out
        simp only [hq] at heqq
        have HEQQ := Lib.hid heqq
        rw [hP2] at HPB
        clear hiff hP2 hsq heqq hq
        clear hp2 hp2' hm2 HP2 HINJ
        obtain ⟨P1, hP1⟩ : ∃ l, txt g s = l := ⟨_, rfl⟩
        rw [hP1] at HPT HSQ ⊢
        clear hP1
        go_wp2_with (first
          | (refine wpList_load_h 25 (.tmp 4) rfl ?_ c 0 ?_ (rc g' s') _ ?_ Tryd.underlying25 rfl ?_ ?_
             · kernel_rfl
             · rfl
             · exact Q2.out
             · exact HI'.out))
        refine HPB.out.mono ?_
        rintro e W3 ⟨rfl, f⟩
        clear HPB
        have F3 := Lib.hid (F2.out.trans f (fun _ _ h => h))
        have B3 := Lib.hid (B2.out.fr f (fun h => h))
        have D3 := Lib.hid (D2.out.fr f (fun h => h))
        have R3 := Lib.hid B3.out.rng
        have Q3 := Lib.hid D3.out.rng
        clear f F2 B2 R2 D2 Q2
        go_wp2_with fail
        refine (HPT.out W3 F3.out).mono ?_
        rintro e X0 ⟨rfl, f⟩
        have FW := Lib.hid (F3.out.trans f (fun _ _ h => h))
        have BC := Lib.hid (B3.out.fr f (fun h => h))
        have DC := Lib.hid (D3.out.fr f (fun h => h))
        clear f F3 B3 D3 R3 Q3
        have hneq := HNEQ.out
        have heq := HEQQ.out
        have hsq := HSQ.out
        have hqq : (q != q) = false := by cases q <;> rfl
        have HSZ := Lib.hid (tRev_size (g := g) (s := s) HS.out)
        have BN := Blk.new X0 25 (rc 0 zN).toArray
        have HTH : Hid ((X0.alloc (.cells (rc 0 zN).toArray 25)).there X0.heap.size 0 (rc g s).toArray.size) := by show World.there _ _ _ _; rw [show (rc g s).toArray.size = 17 from by rw [List.size_toArray, rc_len HS.out]]; exact BN.there
        have HST := Lib.hid (BN.setAll (ds := (rc g s).toArray) (by rw [List.size_toArray, List.size_toArray, rc_len HS.out]; rfl))
        have HONE := Lib.hid (rc_all g s)
        have FS0 : Hid (Fr (fun k => k = X0.heap.size) (X0.alloc (.cells (rc 0 zN).toArray 25)) ((X0.alloc (.cells (rc 0 zN).toArray 25)).setCells X0.heap.size 0 (rc g s).toArray.toList)) := Fr.setCells (fp := fun k => k = X0.heap.size) (a := X0.alloc (.cells (rc 0 zN).toArray 25)) (g := X0.heap.size) (fun _ => rfl) (rc g s) 0 (X0.alloc (.cells (rc 0 zN).toArray 25)) (Fr.refl _ _)
        have FST := Lib.hid ((FW.out.alloc (.cells (rc 0 zN).toArray 25)).trans FS0.out (fun k hk e => by have := FW.out.size; omega))
        have Db := Lib.hid ((BC.out.alloc (.cells (rc 0 zN).toArray 25)).fr FS0.out (fun e => by have := BC.out.lt; omega))
        have Dc := Lib.hid ((DC.out.alloc (.cells (rc 0 zN).toArray 25)).fr FS0.out (fun e => by have := DC.out.lt; omega))
        clear BN FS0
        go_wp2_with (first
          | (refine wpList_store_mid rfl 25 _ _ rfl X0.heap.size 0 (rc g s).toArray rfl rfl HTH.out HSZ.out HONE.out ?_
             refine abs_list (fun W => Hid (Blk W X0.heap.size 25 (rc g s).toArray) ∧ Hid (Blk W b 25 (rc g s).toArray) ∧ Hid (Blk W c 25 (rc g' s').toArray) ∧ Hid (Fr (fun _ => False) w W)) ⟨HST.out, Db.out, Dc.out, FST.out⟩ ?_
             rintro Y1 ⟨BX, Bb, Bc, FN⟩
             obtain ⟨x0, hx⟩ : ∃ x, X0.heap.size = x := ⟨_, rfl⟩
             rw [hx] at BX ⊢
             clear hx HSZ HTH HST HONE FST Db Dc)
          | (refine wpList_load_h 25 (.tmp 11) rfl ?_ x0 0 ?_ (rc g s) _ ?_ Tryd.underlying25 rfl ?_ ?_
             · kernel_rfl
             · rfl
             · exact BX.out.rng
             · exact HI.out)
          | (refine wpList_load_h 25 (.tmp 3) rfl ?_ b 0 ?_ (rc g s) _ ?_ Tryd.underlying25 rfl ?_ ?_
             · kernel_rfl
             · rfl
             · exact Bb.out.rng
             · exact HI.out)
          | (refine wpList_load_h 25 (.tmp 4) rfl ?_ c 0 ?_ (rc g' s') _ ?_ Tryd.underlying25 rfl ?_ ?_
             · kernel_rfl
             · rfl
             · exact Bc.out.rng
             · exact HI'.out))
        clear hneq heq hsq hqq
        have FP := Lib.hid FN.out
        clear FN BX Bb Bc FW BC DC
        refine (parse_c Y1 t hlen (HL.out.far FP.out)).mono ?_
        rintro e X1 ⟨rfl, f⟩
        have FW := Lib.hid (FP.out.trans f (fun _ _ h => h))
        clear f
        cases hp : parse t with
        | none =>
          unfold parseV
          dsimp only
          have hq16 : zN.length = 16 := rfl
          obtain ⟨z, hz⟩ : ∃ z, zN = z := ⟨_, rfl⟩
          rw [hz] at hq16 ⊢
          have HQ := Lib.hid hq16
          clear hp hz hq16
          have HSZ := Lib.hid (tRev_size (g := 0) (s := z) HQ.out)
          have BN := Blk.new X1 25 (rc 0 zN).toArray
          have HTH : Hid ((X1.alloc (.cells (rc 0 zN).toArray 25)).there X1.heap.size 0 (rc 0 z).toArray.size) := by show World.there _ _ _ _; rw [show (rc 0 z).toArray.size = 17 from by rw [List.size_toArray, rc_len HQ.out]]; exact BN.there
          have HST := Lib.hid (BN.setAll (ds := (rc 0 z).toArray) (by rw [List.size_toArray, List.size_toArray, rc_len HQ.out]; rfl))
          have HONE := Lib.hid (rc_all 0 z)
          have FS0 : Hid (Fr (fun k => k = X1.heap.size) (X1.alloc (.cells (rc 0 zN).toArray 25)) ((X1.alloc (.cells (rc 0 zN).toArray 25)).setCells X1.heap.size 0 (rc 0 z).toArray.toList)) := Fr.setCells (fp := fun k => k = X1.heap.size) (a := X1.alloc (.cells (rc 0 zN).toArray 25)) (g := X1.heap.size) (fun _ => rfl) (rc 0 z) 0 (X1.alloc (.cells (rc 0 zN).toArray 25)) (Fr.refl _ _)
          have FST := Lib.hid ((FW.out.alloc (.cells (rc 0 zN).toArray 25)).trans FS0.out (fun k hk e => by have := FW.out.size; omega))
          clear BN FS0
          go_wp2_with (first
            | (refine wpList_store_mid rfl 25 _ _ rfl X1.heap.size 0 (rc 0 z).toArray rfl rfl HTH.out HSZ.out HONE.out ?_
               refine abs_list (fun W => Hid (Blk W X1.heap.size 25 (rc 0 z).toArray) ∧ Hid (Fr (fun _ => False) w W)) ⟨HST.out, FST.out⟩ ?_
               rintro X2 ⟨BX, FN⟩
               obtain ⟨x2, hx⟩ : ∃ x, X1.heap.size = x := ⟨_, rfl⟩
               rw [hx] at BX ⊢
               clear hx HSZ HTH HST HONE FST))
          refine (HAW.out X2 FN.out).mono ?_
          rintro e X5 ⟨rfl, f⟩
          have FE := Lib.hid (FN.out.trans f (fun _ _ h => h))
          clear f
          go_wp2_with fail
          go_ret
          exact ⟨rfl, FE.out⟩
        | some x =>
          obtain ⟨y, z⟩ := x
          obtain ⟨hm1, hq16, ht⟩ := parse_some hp
          unfold parseV
          dsimp only
          have HQ := Lib.hid hq16
          have hmy : mayG y = true := by unfold mayG; exact decide_eq_true hm1
          have hy64 : y < 18446744073709551616 := by omega
          have hpy := fun (W : World) (hW : Fr (fun _ => False) w W) => print_yes W y z HQ.out hmy (HL.out.far hW)
          have hmm := fun (W : World) => may_c W y z HQ.out hy64
          rw [ht] at hpy
          simp only [hmy] at hmm
          have HPY := Lib.hid hpy
          have HMM := Lib.hid hmm
          have e1 : ((strOf t).toList == (strOf t).toList) = true := by simp
          have HIQ := Lib.hid (show (Tryd.prog.info? 25).map (·.size) = some (rc y z).length by rw [rc_len HQ.out]; kernel_rfl)
          clear hp hq16 hm1 hmy hy64 ht hpy hmm
          have HSZ := Lib.hid (tRev_size (g := y) (s := z) HQ.out)
          have BN := Blk.new X1 25 (rc 0 zN).toArray
          have HTH : Hid ((X1.alloc (.cells (rc 0 zN).toArray 25)).there X1.heap.size 0 (rc y z).toArray.size) := by show World.there _ _ _ _; rw [show (rc y z).toArray.size = 17 from by rw [List.size_toArray, rc_len HQ.out]]; exact BN.there
          have HST := Lib.hid (BN.setAll (ds := (rc y z).toArray) (by rw [List.size_toArray, List.size_toArray, rc_len HQ.out]; rfl))
          have HONE := Lib.hid (rc_all y z)
          have FS0 : Hid (Fr (fun k => k = X1.heap.size) (X1.alloc (.cells (rc 0 zN).toArray 25)) ((X1.alloc (.cells (rc 0 zN).toArray 25)).setCells X1.heap.size 0 (rc y z).toArray.toList)) := Fr.setCells (fp := fun k => k = X1.heap.size) (a := X1.alloc (.cells (rc 0 zN).toArray 25)) (g := X1.heap.size) (fun _ => rfl) (rc y z) 0 (X1.alloc (.cells (rc 0 zN).toArray 25)) (Fr.refl _ _)
          have FST := Lib.hid ((FW.out.alloc (.cells (rc 0 zN).toArray 25)).trans FS0.out (fun k hk e => by have := FW.out.size; omega))
          clear BN FS0
          go_wp2_with (first
            | (refine wpList_store_mid rfl 25 _ _ rfl X1.heap.size 0 (rc y z).toArray rfl rfl HTH.out HSZ.out HONE.out ?_
               refine abs_list (fun W => Hid (Blk W X1.heap.size 25 (rc y z).toArray) ∧ Hid (Fr (fun _ => False) w W)) ⟨HST.out, FST.out⟩ ?_
               rintro X2 ⟨BX, FN⟩
               obtain ⟨x2, hx⟩ : ∃ x, X1.heap.size = x := ⟨_, rfl⟩
               rw [hx] at BX ⊢
               clear hx HSZ HTH HST HONE FST)
            | (refine wpList_load_h 25 (.tmp 13) rfl ?_ x2 0 ?_ (rc y z) _ ?_ Tryd.underlying25 rfl ?_ ?_
               · kernel_rfl
               · rfl
               · exact BX.out.rng
               · exact HIQ.out))
          refine (HPY.out X2 FN.out).mono ?_
          rintro e X3 ⟨rfl, f⟩
          have FY := Lib.hid (FN.out.trans f (fun _ _ h => h))
          have BY := Lib.hid (BX.out.fr f (fun h => h))
          clear f
          go_wp2_with (first
            | (refine wpList_load_h 25 (.tmp 13) rfl ?_ x2 0 ?_ (rc y z) _ ?_ Tryd.underlying25 rfl ?_ ?_
               · kernel_rfl
               · rfl
               · exact BY.out.rng
               · exact HIQ.out))
          refine (HMM.out X3).mono ?_
          rintro e X4 ⟨rfl, f⟩
          have FZ := Lib.hid (FY.out.trans f (fun _ _ h => h))
          clear f
          go_wp2_with fail
          refine (HAW.out X4 FZ.out).mono ?_
          rintro e X5 ⟨rfl, f⟩
          have FE := Lib.hid (FZ.out.trans f (fun _ _ h => h))
          clear f
          go_wp2_with fail
          go_ret
          exact ⟨rfl, FE.out⟩
end Go.Proofs.YtjaocgmicdnghaaDoor
