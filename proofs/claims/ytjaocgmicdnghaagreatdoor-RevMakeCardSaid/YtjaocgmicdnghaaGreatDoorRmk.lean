/-
  CONTRACT of the reference's Make. Written by gen_rmk.py.
-/
import Derived.Test.YtjaocgmicdnghaaGreatDoorHM
import Derived.Test.YtjaocgmicdnghaaGreatDoorVaHF
import Derived.Test.YtjaocgmicdnghaaGreatDoorMay
import Derived.Test.YtjaocgmicdnghaaGreatDoorHF
namespace Go.Proofs.YtjaocgmicdnghaaGreatDoor
set_option linter.unusedSimpArgs false
set_option linter.unusedVariables false
open Go Go.RowKit Go.Shelf
attribute [local go_sem] Oper.semAt_some

theorem sgn01 (dl : Int) : (decide (dl < 0) || decide (1 < dl)) = (!(dl == 0) && !(dl == 1)) := by
  rw [Bool.eq_iff_iff]
  simp
  omega
theorem bad_eq (g : Nat) (s : List UInt8) (dl : Int) (ok z m : Bool) (hz : decide (g = 0 ∧ s = zN) = z) (hm : mayG g = m) : (((((!z) && (!m)) || (decide (dl < 0))) || (decide (1 < dl))) || (!ok)) = badM g s dl ok := by
  rw [Bool.or_assoc ((!z) && (!m)), sgn01]
  unfold badM
  rw [hz, hm]
  cases z <;> cases m <;> cases ok <;> simp
theorem by8 (x : Int) (h0 : 0 ≤ x) (h1 : x < 256) : Value.int .u8 (((UInt8.ofNat x.toNat).toNat : Nat) : Int) = .int .u8 x := by
  rw [UInt8.toNat_ofNat', Nat.mod_eq_of_lt (by omega)]
  congr 1
  omega
theorem hd8_len (dl : Int) (g : Nat) : (hd8 dl g 8).length = 9 := by simp [hd8]
theorem hd8_arr (dl : Int) (g : Nat) (h : 0 ≤ dl ∧ dl ≤ 1) (hg : g < 4611686018427387904) : (#[.int .u8 dl, .int .u8 ((g : Int) / 72057594037927936), .int .u8 ((g : Int) / 281474976710656 % 256), .int .u8 ((g : Int) / 1099511627776 % 256), .int .u8 ((g : Int) / 4294967296 % 256), .int .u8 ((g : Int) / 16777216 % 256), .int .u8 ((g : Int) / 65536 % 256), .int .u8 ((g : Int) / 256 % 256), .int .u8 ((g : Int) % 256)] : Array Value) = (bv (hd8 dl g 8)).toArray := by
  have e : bv (hd8 dl g 8) = [.int .u8 (((UInt8.ofNat dl.toNat).toNat : Nat) : Int), .int .u8 (((UInt8.ofNat ((g : Int) / 72057594037927936 % 256).toNat).toNat : Nat) : Int), .int .u8 (((UInt8.ofNat ((g : Int) / 281474976710656 % 256).toNat).toNat : Nat) : Int), .int .u8 (((UInt8.ofNat ((g : Int) / 1099511627776 % 256).toNat).toNat : Nat) : Int), .int .u8 (((UInt8.ofNat ((g : Int) / 4294967296 % 256).toNat).toNat : Nat) : Int), .int .u8 (((UInt8.ofNat ((g : Int) / 16777216 % 256).toNat).toNat : Nat) : Int), .int .u8 (((UInt8.ofNat ((g : Int) / 65536 % 256).toNat).toNat : Nat) : Int), .int .u8 (((UInt8.ofNat ((g : Int) / 256 % 256).toNat).toNat : Nat) : Int), .int .u8 (((UInt8.ofNat ((g : Int) / 1 % 256).toNat).toNat : Nat) : Int)] := rfl
  rw [e, by8 _ h.1 (by omega), by8 _ (by omega) (by omega), by8 _ (by omega) (by omega), by8 _ (by omega) (by omega), by8 _ (by omega) (by omega), by8 _ (by omega) (by omega), by8 _ (by omega) (by omega), by8 _ (by omega) (by omega), by8 _ (by omega) (by omega)]
  have e1 : (g : Int) / 72057594037927936 % 256 = (g : Int) / 72057594037927936 := by omega
  have e2 : (g : Int) / 1 % 256 = (g : Int) % 256 := by omega
  rw [e1, e2]
def rmX (b3 g : Nat) (A7 : Option Addr) (n7 c7 : Nat) (Q : List UInt8) (i : Nat) (v : Value) (W : World) : Prop := match i with
  | 0 => v = .pointer (some ⟨b3, 0, none⟩)
  | 1 => v = .int .u64 (g : Nat)
  | 2 => v = .int .u64 ((g : Int) + 1)
  | 3 => v = .slice A7 n7 c7
  | 4 => v = .agg (b16 Q)
  | _ => True
theorem rmX_far {b3 g : Nat} {A7 : Option Addr} {n7 c7 : Nat} {Q : List UInt8} {i : Nat} {v : Value} {W W' : World} (hg : Fr (fun _ => False) W W') (hx : rmX b3 g A7 n7 c7 Q i v W) : rmX b3 g A7 n7 c7 Q i v W' := by
  match i with
  | 0 => exact hx
  | 1 => exact hx
  | 2 => exact hx
  | 3 => exact hx
  | 4 => exact hx
  | (n + 5) => exact hx
set_option maxRecDepth 100000 in
set_option maxHeartbeats 8000000 in
theorem rmake_c (w : World) (g : Nat) (s : List UInt8) (dl : Int) (v : V1.V) {D : Nat → Prop} {C : Array Value} (hr : V1.RdV D w C v) (hl : decide (4000 < V1.partsV v 20) = false) (hs : s.length = 16) (hg : g < 18446744073709551616) :
    Calls Tryz.prog 7 #[.agg (rc g s).toArray, .int .i64 dl, .agg C] w fun e w' => e = .returned (.tuple #[.agg (rc (makeR g s dl (V1.mayV v) (V1.prV v)).1.1 (makeR g s dl (V1.mayV v) (V1.prV v)).1.2).toArray, .int .i64 (makeR g s dl (V1.mayV v) (V1.prV v)).2]) ∧ Fr (fun _ => False) w w' := by
  have HRV := Lib.hid hr
  have HSC := Lib.hid (V1.szV hr)
  have HRM := Lib.hid (fun W (hW : Fr (fun _ => False) w W) => V1.rmay_c v W (hr.far (frV hW)) hl)
  obtain ⟨ok, hok⟩ : ∃ ok, V1.mayV v = ok := ⟨_, rfl⟩
  have HTP : Hid (ok = true → ∀ W, Fr (fun _ => False) w W → Calls Tryz.prog 18 #[.agg C] W fun e w' => e = .returned (.string (strOf (V1.prV v))) ∧ Fr (fun _ => False) W w') := Lib.hid (fun h W hW => by
    have hf := (V1.may_fields (hok.trans h)).1
    refine (V1.rprint_c v hf (V1.prV_not_long hf hr.nums hl) (V1.sm_of_not_long hl) W D C (hr.far (frV hW))).mono ?_
    rintro e w' ⟨rfl, hf⟩
    exact ⟨rfl, frU hf⟩)
  have HTL : Hid (ok = true → (V1.prV v).length ≤ 512) := Lib.hid (fun h => (V1.may_fields (hok.trans h)).2.1)
  obtain ⟨T, hT⟩ : ∃ T, V1.prV v = T := ⟨_, rfl⟩
  rw [hT] at HTP HTL
  rw [hok] at HRM
  rw [hok, hT]
  obtain ⟨R, hR⟩ : ∃ R, makeR g s dl ok T = R := ⟨_, rfl⟩
  rw [hR]
  have HR0 := Lib.hid hR
  have HG := Lib.hid hg
  clear hr hl hok hT hR
  have hneq := fun W => run_neq_rev g 0 s zN hs rfl W
  simp only [show (rc 0 zN).toArray = #[.int .u64 0, .int .u8 0, .int .u8 0, .int .u8 0, .int .u8 0, .int .u8 0, .int .u8 0, .int .u8 0, .int .u8 0, .int .u8 0, .int .u8 0, .int .u8 0, .int .u8 0, .int .u8 0, .int .u8 0, .int .u8 0, .int .u8 0] from rfl] at hneq
  have hmay := fun W => rMay_c W g s hs hg
  have hc0 : (rc g s).toArray[0]? = some (.int .u64 (g : Nat)) := rfl
  have hrng : ∀ W b, Blk W b 25 (rc g s).toArray → W.rangeAt b 0 (rc g s) := fun W b hb => hb.rng
  have hrow : ∀ W b, Blk W b 25 (rc g s).toArray → Rd W (some ⟨b, 1, none⟩) 16 (bv s) := fun W b hb => by
    refine ⟨by rw [bv_length, hs], fun _ => ⟨_, rfl, fun j u hu => ?_⟩⟩
    rw [Addr.add_lit, hb.cell, List.getElem?_toArray, Nat.add_comm]
    exact hu
  have hlen : (Tryz.prog.info? 25).map (·.size) = some (rc g s).length := by rw [rc_len hs]; kernel_rfl
  have HMAY := Lib.hid hmay
  have HROW := Lib.hid hrow
  have HRNG := Lib.hid hrng
  have HLEN := Lib.hid hlen
  have HC0 := Lib.hid hc0
  have HS := Lib.hid hs
  clear hmay hrow hrng hlen hc0 hs
  go_enter Tryz.func7, Tryz.ntmps7
  go_upto_region 1 with fail
  refine abs_world (fun W => Hid (Blk W w.heap.size 25 (rc g s).toArray) ∧ Hid (Blk W (w.heap.size + 1) 29 C) ∧ Hid (Blk W (w.heap.size + 1 + 1) 25 (rc 0 zN).toArray) ∧ Hid (Fr (fun _ => False) w W)) ⟨?_, ?_, ?_, (((Fr.refl _ w).alloc _).alloc _).alloc _⟩ ?_
  · exact ((Blk.new w _ _).alloc _).alloc _
  · have h := Blk.new (w.alloc (.cells (rc g s).toArray 25)) 29 C
    rw [World.size_alloc] at h
    exact h.alloc _
  · have h := Blk.new ((w.alloc (.cells (rc g s).toArray 25)).alloc (.cells C 29)) 25 (rc 0 zN).toArray
    rw [World.size_alloc, World.size_alloc] at h
    exact h
  rintro W1 ⟨P1, VV, R1, F1⟩
  obtain ⟨b6, hb6⟩ : ∃ b, w.heap.size + 1 + 1 = b := ⟨_, rfl⟩
  rw [hb6] at R1 ⊢
  obtain ⟨b5, hb5⟩ : ∃ b, w.heap.size + 1 = b := ⟨_, rfl⟩
  rw [hb5] at VV ⊢
  obtain ⟨b3, hb3⟩ : ∃ b, w.heap.size = b := ⟨_, rfl⟩
  rw [hb3] at P1 ⊢
  have HB : Hid (w.heap.size = b3 ∧ b3 < b5 ∧ b5 < b6) := ⟨hb3, by omega, by omega⟩
  clear hb6 hb5 hb3
  have HNEQ := Lib.hid hneq
  clear hneq
  have RG1 := Lib.hid (HRNG.out _ _ P1.out)
  obtain ⟨z, hz⟩ : ∃ z, decide (g = 0 ∧ s = zN) = z := ⟨_, rfl⟩
  have HZZ := Lib.hid hz
  clear hz
  obtain ⟨m, hm⟩ : ∃ m, mayG g = m := ⟨_, rfl⟩
  rw [hm] at HMAY
  have HM := Lib.hid hm
  clear hm
  refine wp_region_lit ?_
  refine wpList_fact (fun v => Hid (v = .agg (rc g s).toArray)) (fun K hK => ?_) (fun x0 E0 => ?_)
  · refine ite_yes (by kernel_rfl) ?_
    exact wp_load_mid 25 _ rfl b3 0 rfl (rc g s) _ RG1.out Tryz.underlying25 rfl HLEN.out (hK _ (Lib.hid rfl))
  simp only [Act.put, List.setIfInBounds_toArray, List.set_cons_succ, List.set_cons_zero]
  refine wpList_fact (fun v => Hid (v = .agg (rc 0 zN).toArray)) (fun K hK => ?_) (fun x1 E1 => ?_)
  · refine ite_yes (by kernel_rfl) ?_
    go_simp
    exact hK _ (Lib.hid (by first | rfl | simp))
  simp only [Act.put, List.setIfInBounds_toArray, List.set_cons_succ, List.set_cons_zero]
  refine wpList_fact (fun v => Hid (v = .bool (!z))) (fun K hK => ?_) (fun x2 E2 => ?_)
  · refine ite_yes (by kernel_rfl) ?_
    obtain rfl : x0 = .agg (rc g s).toArray := E0.out
    obtain rfl : x1 = .agg (rc 0 zN).toArray := E1.out
    have hneq := fun W => run_neq_rev g 0 s zN HS.out rfl W
    simp only [HZZ.out] at hneq
    go_simp
    exact hK _ (Lib.hid rfl)
  simp only [Act.put, List.setIfInBounds_toArray, List.set_cons_succ, List.set_cons_zero]
  refine wpList_fact (fun v => Hid (v = .bool (!z))) (fun K hK => ?_) (fun x3 E3 => ?_)
  · refine ite_yes (by kernel_rfl) ?_
    obtain rfl : x2 = .bool (!z) := E2.out
    go_simp
    exact hK _ (Lib.hid (by first | rfl | simp))
  simp only [Act.put, List.setIfInBounds_toArray, List.set_cons_succ, List.set_cons_zero]
  refine wpList_fact (fun v => Hid (v = cv ((!z)) (.agg (rc g s).toArray))) (fun K hK => ?_) (fun x4 E4 => ?_)
  · rcases bcases ((!z)) with hc | hc
    · have hk := hK undef (cv_no hc)
      obtain rfl : x3 = .bool false := E3.out.trans (congrArg Value.bool (hc))
      exact ite_no (by kernel_rfl) hk
    · have eg : x3 = .bool true := E3.out.trans (congrArg Value.bool (hc))
      refine ite_yes (by rw [eg]; kernel_rfl) ?_
      clear eg
      exact wp_load_mid 25 _ rfl b3 0 rfl (rc g s) _ RG1.out Tryz.underlying25 rfl HLEN.out (hK _ (cv_yes hc rfl))
  simp only [Act.put, List.setIfInBounds_toArray, List.set_cons_succ, List.set_cons_zero]
  refine wpList_factW (fun W => Fr (fun _ => False) W1 W) (Fr.refl _ _) (fun v => Hid (v = cv ((!z)) (.bool m))) (fun K hK => ?_) (fun x5 W2 E5 f2 => ?_)
  · rcases bcases ((!z)) with hc | hc
    · have hk := hK undef W1 (cv_no hc) (Fr.refl _ _)
      obtain rfl : x3 = .bool false := E3.out.trans (congrArg Value.bool (hc))
      exact ite_no (by kernel_rfl) hk
    · have eg : x3 = .bool true := E3.out.trans (congrArg Value.bool (hc))
      refine ite_yes (by rw [eg]; kernel_rfl) ?_
      clear eg
      obtain rfl : x4 = .agg (rc g s).toArray := cv_t E4.out (hc)
      go_simp
      refine (HMAY.out _).mono ?_
      rintro e W9 ⟨rfl, f9⟩
      go_simp
      exact hK _ _ (cv_yes hc rfl) f9
  simp only [Act.put, List.setIfInBounds_toArray, List.set_cons_succ, List.set_cons_zero]
  have F2 : Hid (Fr (fun _ => False) w W2) := Lib.hid (F1.out.trans f2 (fun _ _ h => h))
  have V2 := Lib.hid (VV.out.fr f2 (fun h => h))
  have RV2 := Lib.hid (show W2.rangeAt b5 0 C.toList from V1.blk_all (show V1.Blk W2 b5 29 C from V2.out))
  have RM2 := Lib.hid (HRM.out W2 F2.out)
  refine wpList_fact (fun v => Hid (v = cv ((!z)) (.bool (!m)))) (fun K hK => ?_) (fun x6 E6 => ?_)
  · rcases bcases ((!z)) with hc | hc
    · have hk := hK undef (cv_no hc)
      obtain rfl : x3 = .bool false := E3.out.trans (congrArg Value.bool (hc))
      exact ite_no (by kernel_rfl) hk
    · have eg : x3 = .bool true := E3.out.trans (congrArg Value.bool (hc))
      refine ite_yes (by rw [eg]; kernel_rfl) ?_
      clear eg
      obtain rfl : x5 = .bool m := cv_t E5.out (hc)
      go_simp
      exact hK _ (cv_yes hc (by first | rfl | simp))
  simp only [Act.put, List.setIfInBounds_toArray, List.set_cons_succ, List.set_cons_zero]
  refine wpList_fact (fun v => Hid (v = .bool ((!z) && (!m)))) (fun K hK => ?_) (fun x7 E7 => ?_)
  · refine ite_yes (by kernel_rfl) ?_
    rcases bcases ((!z)) with hq | hq
    · obtain rfl : x3 = .bool false := E3.out.trans (congrArg Value.bool hq)
      go_simp
      exact hK _ (Lib.hid (by simp only [hq, Bool.false_or, Bool.true_or, Bool.true_and, Bool.false_and]))
    · obtain rfl : x3 = .bool true := E3.out.trans (congrArg Value.bool hq)
      obtain rfl : x6 = .bool (!m) := cv_t E6.out ((by first | exact hq | (rw [hq]; rfl)))
      go_simp
      exact hK _ (Lib.hid (by simp only [hq, Bool.false_or, Bool.true_or, Bool.true_and, Bool.false_and]))
  simp only [Act.put, List.setIfInBounds_toArray, List.set_cons_succ, List.set_cons_zero]
  refine wpList_fact (fun v => Hid (v = .bool ((!z) && (!m)))) (fun K hK => ?_) (fun x8 E8 => ?_)
  · refine ite_yes (by kernel_rfl) ?_
    obtain rfl : x7 = .bool ((!z) && (!m)) := E7.out
    go_simp
    exact hK _ (Lib.hid (by first | rfl | simp))
  simp only [Act.put, List.setIfInBounds_toArray, List.set_cons_succ, List.set_cons_zero]
  refine wpList_fact (fun v => Hid (v = cv (!((!z) && (!m))) (.int .i64 dl))) (fun K hK => ?_) (fun x9 E9 => ?_)
  · rcases bcases (!((!z) && (!m))) with hc | hc
    · have hk := hK undef (cv_no hc)
      obtain rfl : x8 = .bool true := E8.out.trans (congrArg Value.bool (bnot_f hc))
      exact ite_no (by kernel_rfl) hk
    · have eg : x8 = .bool false := E8.out.trans (congrArg Value.bool (bnot_t (hc)))
      refine ite_yes (by rw [eg]; kernel_rfl) ?_
      clear eg
      go_simp
      exact hK _ (cv_yes hc (by first | rfl | simp))
  simp only [Act.put, List.setIfInBounds_toArray, List.set_cons_succ, List.set_cons_zero]
  refine wpList_fact (fun v => Hid (v = cv (!((!z) && (!m))) (.bool (decide (dl < 0))))) (fun K hK => ?_) (fun x10 E10 => ?_)
  · rcases bcases (!((!z) && (!m))) with hc | hc
    · have hk := hK undef (cv_no hc)
      obtain rfl : x8 = .bool true := E8.out.trans (congrArg Value.bool (bnot_f hc))
      exact ite_no (by kernel_rfl) hk
    · have eg : x8 = .bool false := E8.out.trans (congrArg Value.bool (bnot_t (hc)))
      refine ite_yes (by rw [eg]; kernel_rfl) ?_
      clear eg
      obtain rfl : x9 = .int .i64 dl := cv_t E9.out (hc)
      go_simp
      exact hK _ (cv_yes hc (by first | rfl | simp))
  simp only [Act.put, List.setIfInBounds_toArray, List.set_cons_succ, List.set_cons_zero]
  refine wpList_fact (fun v => Hid (v = .bool (((!z) && (!m)) || (decide (dl < 0))))) (fun K hK => ?_) (fun x11 E11 => ?_)
  · refine ite_yes (by kernel_rfl) ?_
    rcases bcases (((!z) && (!m))) with hq | hq
    · obtain rfl : x8 = .bool false := E8.out.trans (congrArg Value.bool hq)
      obtain rfl : x10 = .bool (decide (dl < 0)) := cv_t E10.out ((by first | exact hq | (rw [hq]; rfl)))
      go_simp
      exact hK _ (Lib.hid (by simp only [hq, Bool.false_or, Bool.true_or, Bool.true_and, Bool.false_and]))
    · obtain rfl : x8 = .bool true := E8.out.trans (congrArg Value.bool hq)
      go_simp
      exact hK _ (Lib.hid (by simp only [hq, Bool.false_or, Bool.true_or, Bool.true_and, Bool.false_and]))
  simp only [Act.put, List.setIfInBounds_toArray, List.set_cons_succ, List.set_cons_zero]
  refine wpList_fact (fun v => Hid (v = .bool (((!z) && (!m)) || (decide (dl < 0))))) (fun K hK => ?_) (fun x12 E12 => ?_)
  · refine ite_yes (by kernel_rfl) ?_
    obtain rfl : x11 = .bool (((!z) && (!m)) || (decide (dl < 0))) := E11.out
    go_simp
    exact hK _ (Lib.hid (by first | rfl | simp))
  simp only [Act.put, List.setIfInBounds_toArray, List.set_cons_succ, List.set_cons_zero]
  refine wpList_fact (fun v => Hid (v = cv (!(((!z) && (!m)) || (decide (dl < 0)))) (.int .i64 dl))) (fun K hK => ?_) (fun x13 E13 => ?_)
  · rcases bcases (!(((!z) && (!m)) || (decide (dl < 0)))) with hc | hc
    · have hk := hK undef (cv_no hc)
      obtain rfl : x12 = .bool true := E12.out.trans (congrArg Value.bool (bnot_f hc))
      exact ite_no (by kernel_rfl) hk
    · have eg : x12 = .bool false := E12.out.trans (congrArg Value.bool (bnot_t (hc)))
      refine ite_yes (by rw [eg]; kernel_rfl) ?_
      clear eg
      go_simp
      exact hK _ (cv_yes hc (by first | rfl | simp))
  simp only [Act.put, List.setIfInBounds_toArray, List.set_cons_succ, List.set_cons_zero]
  refine wpList_fact (fun v => Hid (v = cv (!(((!z) && (!m)) || (decide (dl < 0)))) (.bool (decide (1 < dl))))) (fun K hK => ?_) (fun x14 E14 => ?_)
  · rcases bcases (!(((!z) && (!m)) || (decide (dl < 0)))) with hc | hc
    · have hk := hK undef (cv_no hc)
      obtain rfl : x12 = .bool true := E12.out.trans (congrArg Value.bool (bnot_f hc))
      exact ite_no (by kernel_rfl) hk
    · have eg : x12 = .bool false := E12.out.trans (congrArg Value.bool (bnot_t (hc)))
      refine ite_yes (by rw [eg]; kernel_rfl) ?_
      clear eg
      obtain rfl : x13 = .int .i64 dl := cv_t E13.out (hc)
      go_simp
      exact hK _ (cv_yes hc (by first | rfl | simp))
  simp only [Act.put, List.setIfInBounds_toArray, List.set_cons_succ, List.set_cons_zero]
  refine wpList_fact (fun v => Hid (v = .bool ((((!z) && (!m)) || (decide (dl < 0))) || (decide (1 < dl))))) (fun K hK => ?_) (fun x15 E15 => ?_)
  · refine ite_yes (by kernel_rfl) ?_
    rcases bcases ((((!z) && (!m)) || (decide (dl < 0)))) with hq | hq
    · obtain rfl : x12 = .bool false := E12.out.trans (congrArg Value.bool hq)
      obtain rfl : x14 = .bool (decide (1 < dl)) := cv_t E14.out ((by first | exact hq | (rw [hq]; rfl)))
      go_simp
      exact hK _ (Lib.hid (by simp only [hq, Bool.false_or, Bool.true_or, Bool.true_and, Bool.false_and]))
    · obtain rfl : x12 = .bool true := E12.out.trans (congrArg Value.bool hq)
      go_simp
      exact hK _ (Lib.hid (by simp only [hq, Bool.false_or, Bool.true_or, Bool.true_and, Bool.false_and]))
  simp only [Act.put, List.setIfInBounds_toArray, List.set_cons_succ, List.set_cons_zero]
  refine wpList_fact (fun v => Hid (v = .bool ((((!z) && (!m)) || (decide (dl < 0))) || (decide (1 < dl))))) (fun K hK => ?_) (fun x16 E16 => ?_)
  · refine ite_yes (by kernel_rfl) ?_
    obtain rfl : x15 = .bool ((((!z) && (!m)) || (decide (dl < 0))) || (decide (1 < dl))) := E15.out
    go_simp
    exact hK _ (Lib.hid (by first | rfl | simp))
  simp only [Act.put, List.setIfInBounds_toArray, List.set_cons_succ, List.set_cons_zero]
  refine wpList_fact (fun v => Hid (v = cv (!((((!z) && (!m)) || (decide (dl < 0))) || (decide (1 < dl)))) (.agg C))) (fun K hK => ?_) (fun x17 E17 => ?_)
  · rcases bcases (!((((!z) && (!m)) || (decide (dl < 0))) || (decide (1 < dl)))) with hc | hc
    · have hk := hK undef (cv_no hc)
      obtain rfl : x16 = .bool true := E16.out.trans (congrArg Value.bool (bnot_f hc))
      exact ite_no (by kernel_rfl) hk
    · have eg : x16 = .bool false := E16.out.trans (congrArg Value.bool (bnot_t (hc)))
      refine ite_yes (by rw [eg]; kernel_rfl) ?_
      clear eg
      exact wp_load_mid 29 _ rfl b5 0 rfl C.toList _ RV2.out Tryz.underlying29 rfl HSC.out (hK _ (cv_yes hc rfl))
  simp only [Act.put, List.setIfInBounds_toArray, List.set_cons_succ, List.set_cons_zero]
  refine wpList_factW (fun W => Fr (fun _ => False) W2 W) (Fr.refl _ _) (fun v => Hid (v = cv (!((((!z) && (!m)) || (decide (dl < 0))) || (decide (1 < dl)))) (.bool ok))) (fun K hK => ?_) (fun x18 W3 E18 f3 => ?_)
  · rcases bcases (!((((!z) && (!m)) || (decide (dl < 0))) || (decide (1 < dl)))) with hc | hc
    · have hk := hK undef W2 (cv_no hc) (Fr.refl _ _)
      obtain rfl : x16 = .bool true := E16.out.trans (congrArg Value.bool (bnot_f hc))
      exact ite_no (by kernel_rfl) hk
    · have eg : x16 = .bool false := E16.out.trans (congrArg Value.bool (bnot_t (hc)))
      refine ite_yes (by rw [eg]; kernel_rfl) ?_
      clear eg
      obtain rfl : x17 = .agg C := cv_t E17.out (hc)
      go_simp
      refine (RM2.out).mono ?_
      rintro e W9 ⟨rfl, f9⟩
      go_simp
      exact hK _ _ (cv_yes hc rfl) (frU f9)
  simp only [Act.put, List.setIfInBounds_toArray, List.set_cons_succ, List.set_cons_zero]
  refine wpList_fact (fun v => Hid (v = cv (!((((!z) && (!m)) || (decide (dl < 0))) || (decide (1 < dl)))) (.bool (!ok)))) (fun K hK => ?_) (fun x19 E19 => ?_)
  · rcases bcases (!((((!z) && (!m)) || (decide (dl < 0))) || (decide (1 < dl)))) with hc | hc
    · have hk := hK undef (cv_no hc)
      obtain rfl : x16 = .bool true := E16.out.trans (congrArg Value.bool (bnot_f hc))
      exact ite_no (by kernel_rfl) hk
    · have eg : x16 = .bool false := E16.out.trans (congrArg Value.bool (bnot_t (hc)))
      refine ite_yes (by rw [eg]; kernel_rfl) ?_
      clear eg
      obtain rfl : x18 = .bool ok := cv_t E18.out (hc)
      go_simp
      exact hK _ (cv_yes hc (by first | rfl | simp))
  simp only [Act.put, List.setIfInBounds_toArray, List.set_cons_succ, List.set_cons_zero]
  refine wpList_fact (fun v => Hid (v = .bool (((((!z) && (!m)) || (decide (dl < 0))) || (decide (1 < dl))) || (!ok)))) (fun K hK => ?_) (fun x20 E20 => ?_)
  · refine ite_yes (by kernel_rfl) ?_
    rcases bcases (((((!z) && (!m)) || (decide (dl < 0))) || (decide (1 < dl)))) with hq | hq
    · obtain rfl : x16 = .bool false := E16.out.trans (congrArg Value.bool hq)
      obtain rfl : x19 = .bool (!ok) := cv_t E19.out ((by first | exact hq | (rw [hq]; rfl)))
      go_simp
      exact hK _ (Lib.hid (by simp only [hq, Bool.false_or, Bool.true_or, Bool.true_and, Bool.false_and]))
    · obtain rfl : x16 = .bool true := E16.out.trans (congrArg Value.bool hq)
      go_simp
      exact hK _ (Lib.hid (by simp only [hq, Bool.false_or, Bool.true_or, Bool.true_and, Bool.false_and]))
  simp only [Act.put, List.setIfInBounds_toArray, List.set_cons_succ, List.set_cons_zero]
  refine wpList_nil ?_
  have E : Hid (x20 = .bool (badM g s dl ok)) := Lib.hid (E20.out.trans (congrArg Value.bool (bad_eq g s dl ok z m HZZ.out HM.out)))
  have F3 : Hid (Fr (fun _ => False) w W3) := Lib.hid (F2.out.trans f3 (fun _ _ h => h))
  have P3 := Lib.hid ((P1.out.fr f2 (fun h => h)).fr f3 (fun h => h))
  have V3 := Lib.hid (V2.out.fr f3 (fun h => h))
  have R3 := Lib.hid ((R1.out.fr f2 (fun h => h)).fr f3 (fun h => h))
  clear E0 E1 E2 E3 E4 E5 E6 E7 E8 E9 E10 E11 E12 E13 E14 E15 E16 E17 E18 E19 E20 f2 f3 F2 V2 RV2 RM2 RG1 HNEQ HZZ F1 P1 VV R1
  obtain ⟨u, hu⟩ : ∃ u, badM g s dl ok = u := ⟨_, rfl⟩
  have HU := Lib.hid hu
  rw [hu] at E
  obtain rfl := E.out
  clear E hu
  have hb := HB.out.1
  cases u with
  | true =>
    have HT : Hid (makeR g s dl ok T = ((0, zN), 1)) := Lib.hid (by unfold makeR; rw [if_pos HU.out])
    have HSZ0 := Lib.hid (tRev_size (g := 0) (s := zN) rfl)
    have HTH : Hid (W3.there b6 0 (rc 0 zN).toArray.size) := by have h := R3.out.there; rw [List.size_toArray, rc_len rfl]; exact h
    have HST := Lib.hid (R3.out.setAll (ds := (rc 0 zN).toArray) rfl)
    have FST := Lib.hid (Fr.setCells (fp := fun k => k = b6) (a := W3) (g := b6) (fun _ => rfl) (rc 0 zN) 0 W3 (Fr.refl _ _))
    have hbz : ∀ W, (Instr.build 25 #[]).run Tryz.prog W = .ok (.agg (rc 0 zN).toArray) W := fun W => by kernel_rfl
    go_wp2_with (refine wpList_store_mid rfl 25 _ _ rfl b6 0 (rc 0 zN).toArray rfl rfl HTH.out HSZ0.out (rc_all 0 zN) ?_
                 obtain ⟨w9, hw9⟩ : ∃ w9, W3.setCells b6 0 (rc 0 zN).toArray.toList = w9 := ⟨_, rfl⟩
                 rw [hw9] at HST
                 have FS9 : Hid (Fr (fun k => k = b6) W3 w9) := Lib.hid (hw9 ▸ FST.out)
                 rw [hw9]
                 clear hw9 HTH FST)
    refine bodyPost_ret (v := .tuple #[.agg (rc 0 zN).toArray, .int .i64 1]) (results_two Tryz.results7 _ _ b6 25 (rc 0 zN).toArray (0, 0) _ rfl HST.out Tryz.underlying25 rfl HSZ0.out) rfl ⟨by rw [← HR0.out, HT.out], F3.out.trans FS9.out (fun k hk e => by have := HB.out; omega)⟩
  | false =>
  have c0 : W3.cell? ⟨b3, 0, none⟩ = some (.int .u64 (g : Nat)) := by rw [P3.out.cell]; exact HC0.out
  by_cases hgx : g = 4611686018427387903
  case pos =>
    subst hgx
    have hg0 : (((4611686018427387903 : Nat) : Int) == 4611686018427387903) = true := by decide
    have HT : Hid (makeR 4611686018427387903 s dl ok T = ((0, zN), 11)) := Lib.hid (by unfold makeR; rw [if_neg (by rw [HU.out]; decide), if_pos rfl])
    have HSZ0 := Lib.hid (tRev_size (g := 0) (s := zN) rfl)
    have HTH : Hid (W3.there b6 0 (rc 0 zN).toArray.size) := by have h := R3.out.there; rw [List.size_toArray, rc_len rfl]; exact h
    have HST := Lib.hid (R3.out.setAll (ds := (rc 0 zN).toArray) rfl)
    have FST := Lib.hid (Fr.setCells (fp := fun k => k = b6) (a := W3) (g := b6) (fun _ => rfl) (rc 0 zN) 0 W3 (Fr.refl _ _))
    have hbz : ∀ W, (Instr.build 25 #[]).run Tryz.prog W = .ok (.agg (rc 0 zN).toArray) W := fun W => by kernel_rfl
    go_wp2_with (refine wpList_store_mid rfl 25 _ _ rfl b6 0 (rc 0 zN).toArray rfl rfl HTH.out HSZ0.out (rc_all 0 zN) ?_
                 obtain ⟨w9, hw9⟩ : ∃ w9, W3.setCells b6 0 (rc 0 zN).toArray.toList = w9 := ⟨_, rfl⟩
                 rw [hw9] at HST
                 have FS9 : Hid (Fr (fun k => k = b6) W3 w9) := Lib.hid (hw9 ▸ FST.out)
                 rw [hw9]
                 clear hw9 HTH FST)
    refine bodyPost_ret (v := .tuple #[.agg (rc 0 zN).toArray, .int .i64 11]) (results_two Tryz.results7 _ _ b6 25 (rc 0 zN).toArray (0, 0) _ rfl HST.out Tryz.underlying25 rfl HSZ0.out) rfl ⟨by rw [← HR0.out, HT.out], F3.out.trans FS9.out (fun k hk e => by have := HB.out; omega)⟩
  have hgx2 : ((g : Int) == 4611686018427387903) = false := by
    rw [beq_eq_false_iff_ne]
    omega
  have hok : ok = true := by
    have h := HU.out
    unfold badM at h
    cases ok <;> simp_all
  have hd01 : dl = 0 ∨ dl = 1 := by
    have h := HU.out
    unfold badM at h
    by_cases h0 : dl = 0
    · exact .inl h0
    · by_cases h1 : dl = 1
      · exact .inr h1
      · simp [h0, h1] at h
  have HTL := Lib.hid (HTL.out hok)
  have HTP := Lib.hid (HTP.out hok)
  have HR : Hid (R = ((g + 1, nameQ dl g s T), 0)) := Lib.hid (by rw [← HR0.out]; unfold makeR; rw [if_neg (by rw [HU.out]; decide), if_neg hgx])
  have hgm : mayG g = true ∨ g = 0 := by
    have h := HU.out
    unfold badM at h
    by_cases h1 : mayG g = true
    · exact .inl h1
    · have h2 : decide (g = 0 ∧ s = zN) = true := by simp_all
      exact .inr (of_decide_eq_true h2).1
  have hg2 : g < 4611686018427387903 := by
    rcases hgm with h | h
    · unfold mayG at h
      simp only [Bool.and_eq_true, decide_eq_true_eq] at h
      omega
    · omega
  have hg := hg2
  clear HU HR0 hok hgm hg2 hgx HMAY HM HRV HRM
  have hdw : IntKind.u8.wrap dl = dl := by rw [IntKind.wrap_u8]; rcases hd01 with rfl | rfl <;> rfl
  have HCS := Lib.hid (hd8_arr dl g (by rcases hd01 with rfl | rfl <;> decide) (by omega))
  go_upto_region 6 with fail
  rw [HCS.out]
  refine abs_world (fun W => Hid (W.ownsRow b3 5 1 (.slice (some ⟨W3.heap.size, 0, none⟩) 9 9) 9 (bv (hd8 dl g 8))) ∧ Hid (Blk W b3 25 (rc g s).toArray) ∧ Hid (Blk W b5 29 C) ∧ Hid (Blk W b6 25 (rc 0 zN).toArray) ∧ Hid (Fr (fun _ => False) w W)) ⟨own_lits W3 b3 _ 9 (by rw [bv_length]; exact hd8_len dl g) (by rw [← hb]; exact F3.out.size) (by unfold maxLen; omega), P3.out.alloc _, V3.out.alloc _, R3.out.alloc _, F3.out.alloc _⟩ ?_
  rintro W4 ⟨O4, P4, V4, R4, F4⟩
  generalize W3.heap.size = q3 at *
  obtain ⟨L, hLq⟩ : ∃ L, hd8 dl g 8 = L := ⟨_, rfl⟩
  have HLL : Hid (L.length = 9) := Lib.hid (by rw [← hLq]; exact hd8_len dl g)
  rw [hLq] at O4
  have HLQ := Lib.hid hLq
  clear F3 P3 V3 R3 c0 hgx2 hdw HCS hLq hd01
  obtain ⟨i0, hi0, hz0', hz1', hz2'⟩ := info_parts u8_info
  have HI0 := Lib.hid hi0
  clear hi0
  have HZ4 : Hid (b3 ≤ W4.heap.size) := Lib.hid (by rw [← hb]; exact F4.out.size)
  have RS4 := Lib.hid (HROW.out W4 b3 P4.out)
  go_upto_region 7 with (
    (at_builtin
     refine wpList_app rfl (.tmp 69) (.tmp 71) _ _ rfl b3 5 i0 _ 1 1 Tryz.underlying43 HI0.out hz0' hz1' hz2' rfl _ 9 _ rfl O4.out _ 16 (bv s) rfl (Src.rd Tryz.underlying43 _ RS4.out (bv_one s)) (by omega) (by unfold maxLen; omega) HZ4.out ?_
     intro v5 W5 o5 f5 n5
     have F5 : Hid (Fr (fun _ => False) w W5) := Lib.hid (F4.out.trans f5 (fun i hi hq => by have := (O4.out.lt i hq).1; omega))
     have P5 := Lib.hid (P4.out.fr f5 (fun hq => (own_blk_ne O4.out P4.out (by decide)) hq))
     have V5 := Lib.hid (V4.out.fr f5 (fun hq => (own_blk_ne O4.out V4.out (by decide)) hq))
     have R5 := Lib.hid (R4.out.fr f5 (fun hq => (own_blk_ne O4.out R4.out (by decide)) hq))
     have O5 := Lib.hid o5
     obtain ⟨A5, c5, rfl, -, -⟩ := own_slice o5
     clear o5 f5 n5))
  clear O4 P4 V4 R4 F4 HZ4 RS4
  have SRC : Hid (∀ W, Src Tryz.prog 1 9 (.string (strOf T)) T.length (bv T) W) := Lib.hid (fun W => by
    have h := Src.ofString (P := Tryz.prog) W Tryz.underlying9 (strOf T)
    rw [strOf_size] at h
    exact h)
  have RV5 := Lib.hid (V1.blk_all (show V1.Blk W5 b5 29 C from V5.out))
  have TP5 := Lib.hid (HTP.out W5 F5.out)
  go_wp2_with (refine V1.wpList_load_val rfl 29 _ rfl b5 _ rfl C RV5.out _ Tryz.underlying29 rfl HSC.out ?_)
  refine TP5.out.mono ?_
  rintro e W6 ⟨rfl, f6⟩
  have F6 : Hid (Fr (fun _ => False) w W6) := Lib.hid (F5.out.trans f6 (fun _ _ h => h))
  have P6 := Lib.hid (P5.out.fr f6 (fun h => h))
  have R6 := Lib.hid (R5.out.fr f6 (fun h => h))
  have O6 := Lib.hid (own_fr O5.out f6 (fun _ _ h => h))
  have HZ6 : Hid (b3 ≤ W6.heap.size) := Lib.hid (by rw [← hb]; exact F6.out.size)
  have SR6 := Lib.hid (SRC.out W6)
  obtain ⟨tl, htl⟩ : ∃ tl, T.length = tl := ⟨_, rfl⟩
  have HTLL : Hid (tl ≤ 512) := Lib.hid (by rw [← htl]; exact HTL.out)
  rw [htl] at SR6
  obtain ⟨st, hst⟩ : ∃ st, strOf T = st := ⟨_, rfl⟩
  rw [hst] at SR6 ⊢
  clear f6 SRC O5 P5 V5 R5 F5 RV5 TP5
  have hb1 : (9 + 16 + tl) * 1 ≤ 140737488355328 := by have := HTLL.out; omega
  have hb2 : 9 + 16 + tl ≤ maxLen := by have := HTLL.out; unfold maxLen; omega
  have HB1 := Lib.hid hb1
  have HB2 := Lib.hid hb2
  clear hb1 hb2
  go_upto_region 8 with (
    (at_builtin
     refine wpList_app rfl (.tmp 73) (.tmp 75) _ _ rfl b3 5 i0 _ 1 1 Tryz.underlying43 HI0.out hz0' hz1' hz2' rfl _ (9 + 16) _ rfl O6.out _ tl (bv T) rfl SR6.out HB1.out HB2.out HZ6.out ?_
     intro v7 W7 o7 f7 n7
     have F7 : Hid (Fr (fun _ => False) w W7) := Lib.hid (F6.out.trans f7 (fun i hi hq => by have := (O6.out.lt i hq).1; omega))
     have P7 := Lib.hid (P6.out.fr f7 (fun hq => (own_blk_ne O6.out P6.out (by decide)) hq))
     have R7 := Lib.hid (R6.out.fr f7 (fun hq => (own_blk_ne O6.out R6.out (by decide)) hq))
     have O7 := Lib.hid o7
     obtain ⟨A7, c7, rfl, h71, h72⟩ := own_slice o7
     have HCC := Lib.hid (And.intro h71 h72)
     clear o7 f7 n7 h71 h72))
  subst htl
  clear O6 P6 R6 F6 HZ6 HB1 HB2 SR6 HTLL
  obtain ⟨n7, hn7⟩ : ∃ n7, 9 + 16 + T.length = n7 := ⟨_, rfl⟩
  rw [hn7] at O7 HCC ⊢
  have RD7 : Hid (Rd W7 A7 n7 (bv (L ++ s ++ T))) := Lib.hid (by
    have h := Rd.of_own O7.out
    rw [show bv (L ++ s ++ T) = bv L ++ bv s ++ bv T by simp [bv]]
    exact h)
  obtain ⟨Q, hQ⟩ : ∃ Q, sumL (begL 16) 0 (L ++ s ++ T) 16 = Q := ⟨_, rfl⟩
  have hQl : Q.length = 16 := by rw [← hQ]; exact bytesL_len _ _
  have HNM : Hid (Q = nameQ dl g s T) := Lib.hid (by rw [← hQ, nameQ, HLQ.out]; simp)
  have HSH : Hid (∀ W, Fr (fun _ => False) W7 W → Calls Tryz.prog 19 #[.slice A7 n7 c7] W fun e w' => e = .returned (.agg (b16 Q)) ∧ Fr (fun _ => False) W w') := Lib.hid (fun W hW => by
    have h := rshort_c W A7 n7 c7 (L ++ s ++ T) (RD7.out.far hW) HCC.out (by have := HTL.out; simp [HLL.out, HS.out]; omega)
    rw [hQ] at h
    exact h)
  have HQL := Lib.hid hQl
  have HBD := Lib.hid (build_rev (g + 1) Q hQl)
  have hgw : IntKind.u64.wrap ((g : Int) + 1) = (g : Int) + 1 := by rw [IntKind.wrap_u64]; omega
  clear hQ hQl hn7
  refine (wpIn_wide (n := 9)).1 ?_
  refine wpIn_region_factsG (ms := [0, 1, 3, 0, 8, 31, 63, 127]) (k := 5) (Fr (fun _ => False)) (rmX b3 g A7 n7 c7 Q) (fun i v W => True) (by kernel_rfl) (by kernel_rfl) (Fr.refl _ _) (fun a b c h1 h2 => h1.trans h2 (fun _ _ h => h)) (fun i v w w' hg hx => rmX_far hg hx) ?walk8
  case walk8 =>
  have hdr : ∀ W, Fr (fun _ => False) W7.drew W → Fr (fun _ => False) W7 W := fun W h => ((Fr.refl (fun _ => False) W7).drew).trans h (fun _ _ h => h)
  have HDR := Lib.hid hdr
  clear hdr
  refine factWalkG_cons (fun W hW hf K hK => ?_) (fun x0 => ?_)
  · skip
    refine ⟨by kernel_rfl, ?_⟩
    gi_step
    exact hK _ _ (Fr.refl _ _) rfl trivial
  simp only [Act.put, List.setIfInBounds_toArray, List.set_cons_succ, List.set_cons_zero]
  refine factWalkG_cons (fun W hW hf K hK => ?_) (fun x1 => ?_)
  · skip
    have e0 : x0 = .pointer (some ⟨b3, 0, none⟩) := hf 0 (by omega) (by kernel_rfl)
    subst e0
    have c0 : W.cell? ⟨b3, 0, none⟩ = some (.int .u64 (g : Nat)) := by rw [(P7.out.fr (HDR.out W hW) (fun h => h)).cell]; exact HC0.out
    refine ⟨by kernel_rfl, ?_⟩
    gi_step
    exact hK _ _ (Fr.refl _ _) rfl trivial
  simp only [Act.put, List.setIfInBounds_toArray, List.set_cons_succ, List.set_cons_zero]
  refine factWalkG_cons (fun W hW hf K hK => ?_) (fun x2 => ?_)
  · skip
    have e1 : x1 = .int .u64 (g : Nat) := hf 1 (by omega) (by kernel_rfl)
    subst e1
    refine ⟨by kernel_rfl, ?_⟩
    gi_step
    exact hK _ _ (Fr.refl _ _) rfl trivial
  simp only [Act.put, List.setIfInBounds_toArray, List.set_cons_succ, List.set_cons_zero]
  refine factWalkG_cons (fun W hW hf K hK => ?_) (fun x3 => ?_)
  · skip
    refine ⟨by kernel_rfl, ?_⟩
    gi_step
    exact hK _ _ (Fr.refl _ _) rfl trivial
  simp only [Act.put, List.setIfInBounds_toArray, List.set_cons_succ, List.set_cons_zero]
  refine factWalkG_cons (fun W hW hf K hK => ?_) (fun x4 => ?_)
  · skip
    have e3 : x3 = .slice A7 n7 c7 := hf 3 (by omega) (by kernel_rfl)
    subst e3
    refine ⟨by kernel_rfl, ?_⟩
    gi_step
    refine ⟨trivial, ?_⟩
    refine (callsIn_wide.2 (HSH.out W (HDR.out W hW))).mono ?_
    rintro e W' ⟨rfl, f2⟩
    dsimp only
    exact hK _ _ f2 rfl trivial
  simp only [Act.put, List.setIfInBounds_toArray, List.set_cons_succ, List.set_cons_zero]
  refine factWalkG_nil (fun W hW hf11 hmet => ?_)
  have e2 : x2 = .int .u64 ((g : Int) + 1) := hf11 2 (by omega)
  have e4 : x4 = .agg (b16 Q) := hf11 4 (by omega)
  subst e2 e4
  have hWf := HDR.out W hW
  have R9 := Lib.hid (R7.out.fr hWf (fun h => h))
  have F9 : Hid (Fr (fun _ => False) w W) := Lib.hid (F7.out.trans hWf (fun _ _ h => h))
  have hbd := HBD.out
  rw [show ((g + 1 : Nat) : Int) = (g : Int) + 1 by omega] at hbd
  clear hf11 hmet hWf hW HDR F7 R7 P7 O7
  change wpAnyIn _ _ _ _ _ _ 3 _ _ _
  refine wpAnyIn_ready (rs := [5]) (by kernel_rfl) (by simp) ?_
  refine AllReadyIn.cons rfl (fun K hK => ?_) AllReadyIn.nil
  refine stepIn_build rfl 25 0 1 (.tmp 79) (.tmp 81) rfl _ _ rfl rfl (hbd W) ?_
  refine hK _ _ ?_
  clear hK K hbd
  have HSZ := Lib.hid (tRev_size (g := g + 1) (s := Q) HQL.out)
  have HTH : Hid (W.there b6 0 (rc (g + 1) Q).toArray.size) := by have h := R9.out.there; rw [List.size_toArray, rc_len HQL.out]; exact h
  have HST := Lib.hid (R9.out.setAll (ds := (rc (g + 1) Q).toArray) (by rw [List.size_toArray, List.size_toArray, rc_len HQL.out]; rfl))
  have FST := Lib.hid (Fr.setCells (fp := fun k => k = b6) (a := W) (g := b6) (fun _ => rfl) (rc (g + 1) Q) 0 W (Fr.refl _ _))
  have hsto := run_storeAt_mid (P := Tryz.prog) W b6 0 25 (rc (g + 1) Q).toArray HTH.out HSZ.out (rc_all (g + 1) Q)
  refine wpAnyIn_ready (rs := [6]) (by kernel_rfl) (by simp) ?_
  refine AllReadyIn.cons rfl (fun K hK => ?_) AllReadyIn.nil
  refine stepIn_store rfl 25 _ _ rfl _ _ rfl rfl hsto ?_
  refine hK _ _ ?_
  clear hK K hsto
  refine wpAnyIn_ready (rs := [7]) (by kernel_rfl) (by simp) ?_
  refine AllReadyIn.cons rfl (fun K hK => ?_) AllReadyIn.nil
  go_simp
  refine hK _ _ ?_
  refine wpAnyIn_done (by kernel_rfl) ?_ _
  clear hK K
  generalize W.setCells b6 0 (rc (g + 1) Q).toArray.toList = w9 at *
  go_wp2_with fail
  refine bodyPost_ret (v := .tuple #[.agg (rc (g + 1) Q).toArray, .int .i64 0]) (results_two Tryz.results7 _ _ b6 25 (rc (g + 1) Q).toArray (0, 0) _ rfl HST.out Tryz.underlying25 rfl HSZ.out) rfl ⟨by rw [HR.out, HNM.out], F9.out.trans FST.out (fun k hk e => by have := HB.out; omega)⟩
end Go.Proofs.YtjaocgmicdnghaaGreatDoor
