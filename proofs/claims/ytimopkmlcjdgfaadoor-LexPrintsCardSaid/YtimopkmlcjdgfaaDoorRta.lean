/-
  CONTRACT of the reference's token: words and numbers. Written by gen_rtk.py.
-/
import Derived.Test.YtimopkmlcjdgfaaDoorRnb
import Derived.Test.YtimopkmlcjdgfaaDoorRw
import Derived.Test.YtimopkmlcjdgfaaDoorRm
namespace Go.Proofs.YtimopkmlcjdgfaaDoor
set_option linter.unusedSimpArgs false
set_option linter.unusedVariables false
open Go Go.RowKit

/-- What the reference's token answers. -/
def RTokQ (s : List UInt8) (at_ : Nat) (w : World) (e : Ending) (w' : World) : Prop := ∃ (k : Int) (t : List UInt8) (n a : Int) (z : Nat) (ok : Bool), e = .returned (.tuple #[.agg (tcs k t n a), .int .i64 (z : Int), .bool ok]) ∧ (ok = true → ∃ m : Nat, tok (s.drop at_) = some (k, t, n, m) ∧ a = (at_ : Int) ∧ z = at_ + m) ∧ (ok = false → tok (s.drop at_) = none) ∧ Fr (fun _ => False) w w'
def rwR (at_ E g : Nat) (s tx : List UInt8) (ok : Bool) (i : Nat) (val : Nat → Value) (W : World) : Prop := match i with
  | 0 => val 0 = .string (strOf s)
  | 1 => val 1 = .int .i64 (at_ : Int)
  | 2 => val 2 = .int .i64 (E : Int)
  | 3 => val 3 = .string (strOf tx)
  | 4 => val 4 = .int .i64 (at_ : Int)
  | 5 => val 5 = .agg (tcs 1 tx 0 (at_ : Int))
  | 6 => val 6 = .int .i64 (E : Int)
  | 7 => val 7 = .string (strOf s)
  | 8 => val 8 = .int .i64 (at_ : Int)
  | 9 => val 9 = .int .i64 (E : Int)
  | 10 => val 10 = .string (strOf tx)
  | 11 => val 11 = .bool ok
  | 12 => Blk W g 32 (tcs 1 tx 0 (at_ : Int))
  | 13 => val 13 = .int .i64 (E : Int)
  | 14 => val 14 = .bool ok
  | _ => True
theorem rwR_far {at_ E g : Nat} {s tx : List UInt8} {ok : Bool} (i : Nat) (val val' : Nat → Value) (W W' : World) (he : ∀ j, j = i ∨ Anc [0, 0, 0, 7, 0, 31, 0, 0, 0, 0, 896, 1920, 4031, 8191, 16383] i j = true → val j = val' j) (hg : Gs g 32 (tcs 1 tx 0 (at_ : Int)) W W') (hx : rwR at_ E g s tx ok i val W) : rwR at_ E g s tx ok i val' W' := by
  match i with
  | 0 => exact (he 0 (.inl rfl)).symm.trans hx
  | 1 => exact (he 1 (.inl rfl)).symm.trans hx
  | 2 => exact (he 2 (.inl rfl)).symm.trans hx
  | 3 => exact (he 3 (.inl rfl)).symm.trans hx
  | 4 => exact (he 4 (.inl rfl)).symm.trans hx
  | 5 => exact (he 5 (.inl rfl)).symm.trans hx
  | 6 => exact (he 6 (.inl rfl)).symm.trans hx
  | 7 => exact (he 7 (.inl rfl)).symm.trans hx
  | 8 => exact (he 8 (.inl rfl)).symm.trans hx
  | 9 => exact (he 9 (.inl rfl)).symm.trans hx
  | 10 => exact (he 10 (.inl rfl)).symm.trans hx
  | 11 => exact (he 11 (.inl rfl)).symm.trans hx
  | 12 => exact hg.2.2 hx
  | 13 => exact (he 13 (.inl rfl)).symm.trans hx
  | 14 => exact (he 14 (.inl rfl)).symm.trans hx
  | (n + 15) => exact trivial
set_option maxRecDepth 100000 in
set_option maxHeartbeats 8000000 in
theorem rtok_word (w : World) (s : List UInt8) (at_ : Nat) (hs : s.length ≤ 1000000) (h : at_ < s.length) (hk : ltr s[at_] = true) : Calls Tryd.prog 22 #[.string (strOf s), .int .i64 (at_ : Int)] w (RTokQ s at_ w) := by
  have hres := results_tii (P := Tryd.prog) (fn := Tryd.f22) (p := 4) (q := 5) (r := 6) (ty := 32) Tryd.results22
  have hsz := strOf_size s
  have hix := fun W => run_index_str W s at_ h
  have hdr := List.drop_eq_getElem_cons h
  have hcl := u8_lt s[at_]
  obtain ⟨b, hb⟩ : ∃ b, s[at_] = b := ⟨_, rfl⟩
  rw [hb] at hix hdr hcl hk
  have LT := Lib.hid (fun W => rletter_c W b.toNat hcl)
  have DT := Lib.hid (fun W => rdigit_c W b.toNat hcl)
  have hln := ltr_n b
  have hdn := dgt_n b
  have h45 := eq45 b
  obtain ⟨x, hx⟩ : ∃ x, b.toNat = x := ⟨_, rfl⟩
  rw [hx] at hix hcl LT DT hln hdn h45
  have HX := Lib.hid hx
  have HDR := Lib.hid hdr
  have HLN := Lib.hid hln
  have HDN := Lib.hid hdn
  have H45 := Lib.hid h45
  clear hb hx hdr hln hdn h45
  obtain ⟨g, hg⟩ : ∃ g, w.heap.size = g := ⟨_, rfl⟩
  have HG := Lib.hid hg
  clear hg
  have HLT := Lib.hid hk
  have HSP : Hid (spB b = true) := Lib.hid (sp_fol (by unfold fol; rw [hk]; rfl))
  have hk2 : ltrN x = true := by rw [← HLN.out]; exact hk
  rw [hk2] at LT
  clear hk hk2
  go_enter Tryd.func22, Tryd.ntmps22
  go_upto_region 1 with fail
  refine abs_world (fun W => Hid (Blk W w.heap.size 32 (tcs 0 [] 0 0)) ∧ Hid (Fr (fun _ => False) w W)) ⟨Blk.new w _ _, (Fr.refl _ w).alloc _⟩ ?_
  rintro W1 ⟨Z0, F1⟩
  rw [HG.out] at Z0 ⊢
  obtain ⟨E, hE⟩ : ∃ E, at_ + (spn (s.drop at_)).length = E := ⟨_, rfl⟩
  have hEl : E ≤ s.length := by have := spn_le (s.drop at_); rw [List.length_drop] at this; omega
  have hE1 : at_ + 1 ≤ E := by rw [← hE, HDR.out, spn_cons HSP.out, List.length_cons]; omega
  have HE := Lib.hid hE
  clear hE
  go_upto_region 3 with (first
    | (go_at_call 42
       refine (LT.out _).mono ?_
       rintro e w' ⟨rfl, rfl⟩)
    | (go_at_call 43
       refine (DT.out _).mono ?_
       rintro e w' ⟨rfl, rfl⟩))
  go_wp2_with fail
  go_loop [8] (fun ev => ∃ e : Nat, at_ ≤ e ∧ e ≤ s.length ∧ ev = .int .i64 (e : Int) ∧ Hid (E = e + (spn (s.drop e)).length)) (fun ev => s.length - (intOf ev).toNat)
  case atStart => exact ⟨at_, Nat.le_refl _, by omega, rfl, Lib.hid HE.out.symm⟩
  case round =>
    obtain ⟨e, he1, he, rfl, hw⟩ := hrel
    by_cases hlt : e < s.length
    case neg =>
      have HEE : Hid (E = e) := Lib.hid (by rw [hw.out, List.drop_eq_nil_of_le (by omega)]; rfl)
      obtain rfl : E = e := HEE.out
      have e1 : decide ((E : Int) < (s.length : Int)) = false := decide_eq_false (by omega)
      have e1' : decide (E < s.length) = false := decide_eq_false hlt
      clear hlt
      have hsl : ∀ W, (Instr.sliceAt 9 (.string (strOf s)) (some (.int .i64 (at_ : Int))) (some (.int .i64 (E : Int))) none).run Tryd.prog W = .ok (.string (strOf ((s.drop at_).take (E - at_)))) W := fun W => run_sub W s at_ E (by omega) (by omega)
      have htx0 : (s.drop at_).take (E - at_) = b :: spn (s.drop (at_ + 1)) := by
        rw [show E - at_ = (spn (s.drop at_)).length by have := HE.out; omega, spn_take, HDR.out, spn_cons HSP.out]
      have hm0 : E - at_ = 1 + (spn (s.drop (at_ + 1))).length := by
        have h1 := HE.out
        rw [HDR.out, spn_cons HSP.out, List.length_cons] at h1
        omega
      rw [htx0] at hsl
      obtain ⟨tx, htx⟩ : ∃ tx, b :: spn (s.drop (at_ + 1)) = tx := ⟨_, rfl⟩
      have htl : tx.length ≤ s.length := by
        rw [← htx, List.length_cons]
        omega
      have htp : 0 < tx.length := by rw [← htx]; simp
      have HTX := Lib.hid htx
      have HM0 := Lib.hid hm0
      rw [htx] at hsl
      have HSL := Lib.hid hsl
      clear htx0 htx hm0
      have WO := Lib.hid (fun W => rWord_c W tx (by omega))
      have HTOK := Lib.hid (tok_wordS (r := s.drop (at_ + 1)) HLT.out)
      obtain ⟨ok, hok⟩ : ∃ ok, wordT tx = ok := ⟨_, rfl⟩
      rw [HTX.out, hok] at HTOK
      rw [hok] at WO
      clear hok
      go_upto_region 7 with (first
        | (go_at_call 42
           refine (LT.out _).mono ?_
           rintro e w' ⟨rfl, rfl⟩))
      have S1 := Lib.hid (show (Tryd.prog.info? 32).map (·.size) = some (tcs 1 tx 0 (at_ : Int)).size from tsize)
      have HO1 := Lib.hid (show (tcs 1 tx 0 (at_ : Int)).all (·.oneCell') = true by simp [tcs, Value.oneCell'])
      refine (wpIn_wide (n := 9)).1 ?_
      refine wpIn_region_factsR (ms := [0, 0, 0, 7, 0, 31, 0, 0, 0, 0, 896, 1920, 4031, 8191, 16383]) (k := 15) (Gs g 32 (tcs 1 tx 0 (at_ : Int))) (rwR at_ E g s tx ok) (by kernel_rfl) (by kernel_rfl) (fun W => Gs.refl W) (fun a b c h1 h2 => h1.trans h2) (rwR_far) (lowMs_lt (by kernel_rfl)) ?walkw1
      case walkw1 =>
      refine factWalkR_cons (fun W hW hf K hK => ?_) (fun v0 => ?_)
      · skip
        refine ⟨by kernel_rfl, ?_⟩
        gi_step
        exact hK _ _ (Gs.refl _) rfl
      simp only [Act.put, List.setIfInBounds_toArray, List.set_cons_succ, List.set_cons_zero]
      refine factWalkR_cons (fun W hW hf K hK => ?_) (fun v1 => ?_)
      · skip
        refine ⟨by kernel_rfl, ?_⟩
        gi_step
        exact hK _ _ (Gs.refl _) rfl
      simp only [Act.put, List.setIfInBounds_toArray, List.set_cons_succ, List.set_cons_zero]
      refine factWalkR_cons (fun W hW hf K hK => ?_) (fun v2 => ?_)
      · skip
        refine ⟨by kernel_rfl, ?_⟩
        gi_step
        exact hK _ _ (Gs.refl _) rfl
      simp only [Act.put, List.setIfInBounds_toArray, List.set_cons_succ, List.set_cons_zero]
      refine factWalkR_cons (fun W hW hf K hK => ?_) (fun v3 => ?_)
      · skip
        have e0 : v0 = .string (strOf s) := hf 0 (by omega) (by kernel_rfl)
        have e1 : v1 = .int .i64 (at_ : Int) := hf 1 (by omega) (by kernel_rfl)
        have e2 : v2 = .int .i64 (E : Int) := hf 2 (by omega) (by kernel_rfl)
        subst e0 e1 e2
        refine ⟨by kernel_rfl, ?_⟩
        refine operIn_slice _ _ _ rfl _ _ _ rfl rfl rfl (HSL.out W) ?_
        exact hK _ _ (Gs.refl _) rfl
      simp only [Act.put, List.setIfInBounds_toArray, List.set_cons_succ, List.set_cons_zero]
      refine factWalkR_cons (fun W hW hf K hK => ?_) (fun v4 => ?_)
      · skip
        refine ⟨by kernel_rfl, ?_⟩
        gi_step
        exact hK _ _ (Gs.refl _) rfl
      simp only [Act.put, List.setIfInBounds_toArray, List.set_cons_succ, List.set_cons_zero]
      refine factWalkR_cons (fun W hW hf K hK => ?_) (fun v5 => ?_)
      · skip
        have e3 : v3 = .string (strOf tx) := hf 3 (by omega) (by kernel_rfl)
        have e4 : v4 = .int .i64 (at_ : Int) := hf 4 (by omega) (by kernel_rfl)
        subst e3 e4
        refine ⟨by kernel_rfl, ?_⟩
        gi_step
        exact hK _ _ (Gs.refl _) rfl
      simp only [Act.put, List.setIfInBounds_toArray, List.set_cons_succ, List.set_cons_zero]
      refine factWalkR_cons (fun W hW hf K hK => ?_) (fun v6 => ?_)
      · skip
        refine ⟨by kernel_rfl, ?_⟩
        gi_step
        exact hK _ _ (Gs.refl _) rfl
      simp only [Act.put, List.setIfInBounds_toArray, List.set_cons_succ, List.set_cons_zero]
      refine factWalkR_cons (fun W hW hf K hK => ?_) (fun v7 => ?_)
      · skip
        refine ⟨by kernel_rfl, ?_⟩
        gi_step
        exact hK _ _ (Gs.refl _) rfl
      simp only [Act.put, List.setIfInBounds_toArray, List.set_cons_succ, List.set_cons_zero]
      refine factWalkR_cons (fun W hW hf K hK => ?_) (fun v8 => ?_)
      · skip
        refine ⟨by kernel_rfl, ?_⟩
        gi_step
        exact hK _ _ (Gs.refl _) rfl
      simp only [Act.put, List.setIfInBounds_toArray, List.set_cons_succ, List.set_cons_zero]
      refine factWalkR_cons (fun W hW hf K hK => ?_) (fun v9 => ?_)
      · skip
        refine ⟨by kernel_rfl, ?_⟩
        gi_step
        exact hK _ _ (Gs.refl _) rfl
      simp only [Act.put, List.setIfInBounds_toArray, List.set_cons_succ, List.set_cons_zero]
      refine factWalkR_cons (fun W hW hf K hK => ?_) (fun v10 => ?_)
      · skip
        have e7 : v7 = .string (strOf s) := hf 7 (by omega) (by kernel_rfl)
        have e8 : v8 = .int .i64 (at_ : Int) := hf 8 (by omega) (by kernel_rfl)
        have e9 : v9 = .int .i64 (E : Int) := hf 9 (by omega) (by kernel_rfl)
        subst e7 e8 e9
        refine ⟨by kernel_rfl, ?_⟩
        refine operIn_slice _ _ _ rfl _ _ _ rfl rfl rfl (HSL.out W) ?_
        exact hK _ _ (Gs.refl _) rfl
      simp only [Act.put, List.setIfInBounds_toArray, List.set_cons_succ, List.set_cons_zero]
      refine factWalkR_cons (fun W hW hf K hK => ?_) (fun v11 => ?_)
      · skip
        have e10 : v10 = .string (strOf tx) := hf 10 (by omega) (by kernel_rfl)
        subst e10
        refine ⟨by kernel_rfl, ?_⟩
        gi_step
        refine ⟨trivial, ?_⟩
        refine (callsIn_wide.2 (WO.out W)).mono ?_
        rintro e W' ⟨rfl, rfl⟩
        dsimp only
        exact hK _ _ (Gs.refl _) rfl
      simp only [Act.put, List.setIfInBounds_toArray, List.set_cons_succ, List.set_cons_zero]
      refine factWalkR_cons (fun W hW hf K hK => ?_) (fun v12 => ?_)
      · skip
        have e5 : v5 = .agg (tcs 1 tx 0 (at_ : Int)) := hf 5 (by omega) (by kernel_rfl)
        subst e5
        obtain ⟨cs0, bz, hz⟩ := hW.2.1 _ Z0.out.drew rfl
        have hsto := run_storeAt_mid (P := Tryd.prog) W g 0 32 (tcs 1 tx 0 (at_ : Int)) (by have h := bz.there; rw [hz] at h; exact h) S1.out HO1.out
        refine ⟨by kernel_rfl, ?_⟩
        refine operIn_store rfl _ _ _ rfl _ _ rfl rfl hsto ?_
        exact hK undef _ (Gs.store bz hz) (bz.setAll hz.symm)
      simp only [Act.put, List.setIfInBounds_toArray, List.set_cons_succ, List.set_cons_zero]
      refine factWalkR_cons (fun W hW hf K hK => ?_) (fun v13 => ?_)
      · skip
        have e6 : v6 = .int .i64 (E : Int) := hf 6 (by omega) (by kernel_rfl)
        subst e6
        refine ⟨by kernel_rfl, ?_⟩
        gi_step
        exact hK _ _ (Gs.refl _) rfl
      simp only [Act.put, List.setIfInBounds_toArray, List.set_cons_succ, List.set_cons_zero]
      refine factWalkR_cons (fun W hW hf K hK => ?_) (fun v14 => ?_)
      · skip
        have e11 : v11 = .bool ok := hf 11 (by omega) (by kernel_rfl)
        subst e11
        refine ⟨by kernel_rfl, ?_⟩
        gi_step
        exact hK _ _ (Gs.refl _) rfl
      simp only [Act.put, List.setIfInBounds_toArray, List.set_cons_succ, List.set_cons_zero]
      refine factWalkR_nil (fun W hW hf => ?_)
      have b9 : Blk W g 32 (tcs 1 tx 0 (at_ : Int)) := hf 12 (by omega)
      have e5 : v13 = .int .i64 (E : Int) := hf 13 (by omega)
      have e6 : v14 = .bool ok := hf 14 (by omega)
      subst e5 e6
      have BM := Lib.hid b9
      have FW : Hid (Fr (fun q => q = g) w W) := Lib.hid ((F1.out.drew.mono (fun _ _ h => h.elim)).trans hW.1 (fun _ _ h => h))
      clear hf hW b9
      change wpAnyIn _ _ _ _ _ _ 0 _ _ _
      refine wpAnyIn_done (by kernel_rfl) ?_ _
      try simp only [Act.put, List.setIfInBounds_toArray, List.set_cons_succ, List.set_cons_zero]
      go_wp2_with fail
      refine bodyPost_ret (v := .tuple #[.agg (tcs 1 tx 0 (at_ : Int)), .int .i64 (E : Int), .bool ok]) (hres _ W g 32 _ _ _ _ rfl rfl rfl BM.out Tryd.underlying32 rfl S1.out) rfl ?_
      have hg := HG.out
      refine ⟨1, tx, 0, (at_ : Int), E, ok, rfl, fun hok => ⟨E - at_, ?_, rfl, by omega⟩, fun hok => ?_, FW.out.mono (fun q hq e => by omega)⟩
      · rw [HDR.out, HTOK.out, hok, HM0.out]
        rfl
      · rw [HDR.out, HTOK.out, hok]
        rfl
    have e1 : decide ((e : Int) < (s.length : Int)) = true := decide_eq_true (by omega)
    have e1' : decide (e < s.length) = true := decide_eq_true hlt
    have hiy := fun W => run_index_str W s e hlt
    have hdr := List.drop_eq_getElem_cons hlt
    have hcl2 := u8_lt s[e]
    obtain ⟨d, hd⟩ : ∃ d, s[e] = d := ⟨_, rfl⟩
    rw [hd] at hiy hdr hcl2
    have LC := Lib.hid (fun W => rletter_c W d.toNat hcl2)
    have DC := Lib.hid (fun W => rdigit_c W d.toNat hcl2)
    have hfn : spB d = (ltrN d.toNat || dgtN d.toNat || decide (d.toNat = 45) || decide (d.toNat = 46)) := by
      unfold spB
      rw [fol_n, eq46]
      rfl
    obtain ⟨y, hy⟩ : ∃ y, d.toNat = y := ⟨_, rfl⟩
    rw [hy] at hiy LC DC hfn hcl2
    have HDR2 := Lib.hid hdr
    have HFN := Lib.hid hfn
    have YES : Hid (spB d = true → E = e + 1 + (spn (s.drop (e + 1))).length) := Lib.hid (fun hq => by rw [hw.out, HDR2.out, spn_cons hq, List.length_cons]; omega)
    have NOE : Hid (spB d = false → E = e) := Lib.hid (fun hq => by rw [hw.out, HDR2.out, spn_stop hq]; rfl)
    clear hd hdr hfn hy
    cases hl : ltrN y with
    | true =>
      rw [hl] at LC HFN
      have HS : Hid (E = e + 1 + (spn (s.drop (e + 1))).length) := Lib.hid (YES.out (by rw [HFN.out]; rfl))
      clear hl
      go_wp2_with (first
    | (go_at_call 42
       refine (LC.out _).mono ?_
       rintro e w' ⟨rfl, rfl⟩))
      go_round
      case rel => exact ⟨e + 1, by omega, by omega, by go_num, HS.out⟩
      case measure => simp [intOf]; omega
    | false =>
    rw [hl] at LC HFN
    clear hl
    cases hdg : dgtN y with
    | true =>
      rw [hdg] at DC HFN
      have HS : Hid (E = e + 1 + (spn (s.drop (e + 1))).length) := Lib.hid (YES.out (by rw [HFN.out]; rfl))
      clear hdg
      go_wp2_with (first
    | (go_at_call 42
       refine (LC.out _).mono ?_
       rintro e w' ⟨rfl, rfl⟩)
    | (go_at_call 43
       refine (DC.out _).mono ?_
       rintro e w' ⟨rfl, rfl⟩))
      go_round
      case rel => exact ⟨e + 1, by omega, by omega, by go_num, HS.out⟩
      case measure => simp [intOf]; omega
    | false =>
    rw [hdg] at DC HFN
    clear hdg
    by_cases hy45 : y = 45
    case pos =>
      have HS : Hid (E = e + 1 + (spn (s.drop (e + 1))).length) := Lib.hid (YES.out (by rw [HFN.out, decide_eq_true hy45]; rfl))
      subst hy45
      go_wp2_with (first
    | (go_at_call 42
       refine (LC.out _).mono ?_
       rintro e w' ⟨rfl, rfl⟩)
    | (go_at_call 43
       refine (DC.out _).mono ?_
       rintro e w' ⟨rfl, rfl⟩))
      go_round
      case rel => exact ⟨e + 1, by omega, by omega, by go_num, HS.out⟩
      case measure => simp [intOf]; omega
    case neg =>
    have n45 : ((y : Int) == 45) = false := beq_eq_false_iff_ne.2 (by omega)
    by_cases hy46 : y = 46
    case pos =>
      have HS : Hid (E = e + 1 + (spn (s.drop (e + 1))).length) := Lib.hid (YES.out (by rw [HFN.out, decide_eq_true hy46]; simp))
      subst hy46
      clear hy45
      go_wp2_with (first
    | (go_at_call 42
       refine (LC.out _).mono ?_
       rintro e w' ⟨rfl, rfl⟩)
    | (go_at_call 43
       refine (DC.out _).mono ?_
       rintro e w' ⟨rfl, rfl⟩))
      go_round
      case rel => exact ⟨e + 1, by omega, by omega, by go_num, HS.out⟩
      case measure => simp [intOf]; omega
    case neg =>
      have n46 : ((y : Int) == 46) = false := beq_eq_false_iff_ne.2 (by omega)
      have HEE : Hid (E = e) := Lib.hid (NOE.out (by rw [HFN.out, decide_eq_false hy45, decide_eq_false hy46]; rfl))
      obtain rfl : E = e := HEE.out
      clear hy45 hy46
      go_upto_region 6 with (first
    | (go_at_call 42
       refine (LC.out _).mono ?_
       rintro e w' ⟨rfl, rfl⟩)
    | (go_at_call 43
       refine (DC.out _).mono ?_
       rintro e w' ⟨rfl, rfl⟩))
      clear LC DC
      have hsl : ∀ W, (Instr.sliceAt 9 (.string (strOf s)) (some (.int .i64 (at_ : Int))) (some (.int .i64 (E : Int))) none).run Tryd.prog W = .ok (.string (strOf ((s.drop at_).take (E - at_)))) W := fun W => run_sub W s at_ E (by omega) (by omega)
      have htx0 : (s.drop at_).take (E - at_) = b :: spn (s.drop (at_ + 1)) := by
        rw [show E - at_ = (spn (s.drop at_)).length by have := HE.out; omega, spn_take, HDR.out, spn_cons HSP.out]
      have hm0 : E - at_ = 1 + (spn (s.drop (at_ + 1))).length := by
        have h1 := HE.out
        rw [HDR.out, spn_cons HSP.out, List.length_cons] at h1
        omega
      rw [htx0] at hsl
      obtain ⟨tx, htx⟩ : ∃ tx, b :: spn (s.drop (at_ + 1)) = tx := ⟨_, rfl⟩
      have htl : tx.length ≤ s.length := by
        rw [← htx, List.length_cons]
        omega
      have htp : 0 < tx.length := by rw [← htx]; simp
      have HTX := Lib.hid htx
      have HM0 := Lib.hid hm0
      rw [htx] at hsl
      have HSL := Lib.hid hsl
      clear htx0 htx hm0
      have WO := Lib.hid (fun W => rWord_c W tx (by omega))
      have HTOK := Lib.hid (tok_wordS (r := s.drop (at_ + 1)) HLT.out)
      obtain ⟨ok, hok⟩ : ∃ ok, wordT tx = ok := ⟨_, rfl⟩
      rw [HTX.out, hok] at HTOK
      rw [hok] at WO
      clear hok
      go_upto_region 7 with (first
        | (go_at_call 42
           refine (LT.out _).mono ?_
           rintro e w' ⟨rfl, rfl⟩))
      have S1 := Lib.hid (show (Tryd.prog.info? 32).map (·.size) = some (tcs 1 tx 0 (at_ : Int)).size from tsize)
      have HO1 := Lib.hid (show (tcs 1 tx 0 (at_ : Int)).all (·.oneCell') = true by simp [tcs, Value.oneCell'])
      refine (wpIn_wide (n := 9)).1 ?_
      refine wpIn_region_factsR (ms := [0, 0, 0, 7, 0, 31, 0, 0, 0, 0, 896, 1920, 4031, 8191, 16383]) (k := 15) (Gs g 32 (tcs 1 tx 0 (at_ : Int))) (rwR at_ E g s tx ok) (by kernel_rfl) (by kernel_rfl) (fun W => Gs.refl W) (fun a b c h1 h2 => h1.trans h2) (rwR_far) (lowMs_lt (by kernel_rfl)) ?walkw2
      case walkw2 =>
      refine factWalkR_cons (fun W hW hf K hK => ?_) (fun v0 => ?_)
      · skip
        refine ⟨by kernel_rfl, ?_⟩
        gi_step
        exact hK _ _ (Gs.refl _) rfl
      simp only [Act.put, List.setIfInBounds_toArray, List.set_cons_succ, List.set_cons_zero]
      refine factWalkR_cons (fun W hW hf K hK => ?_) (fun v1 => ?_)
      · skip
        refine ⟨by kernel_rfl, ?_⟩
        gi_step
        exact hK _ _ (Gs.refl _) rfl
      simp only [Act.put, List.setIfInBounds_toArray, List.set_cons_succ, List.set_cons_zero]
      refine factWalkR_cons (fun W hW hf K hK => ?_) (fun v2 => ?_)
      · skip
        refine ⟨by kernel_rfl, ?_⟩
        gi_step
        exact hK _ _ (Gs.refl _) rfl
      simp only [Act.put, List.setIfInBounds_toArray, List.set_cons_succ, List.set_cons_zero]
      refine factWalkR_cons (fun W hW hf K hK => ?_) (fun v3 => ?_)
      · skip
        have e0 : v0 = .string (strOf s) := hf 0 (by omega) (by kernel_rfl)
        have e1 : v1 = .int .i64 (at_ : Int) := hf 1 (by omega) (by kernel_rfl)
        have e2 : v2 = .int .i64 (E : Int) := hf 2 (by omega) (by kernel_rfl)
        subst e0 e1 e2
        refine ⟨by kernel_rfl, ?_⟩
        refine operIn_slice _ _ _ rfl _ _ _ rfl rfl rfl (HSL.out W) ?_
        exact hK _ _ (Gs.refl _) rfl
      simp only [Act.put, List.setIfInBounds_toArray, List.set_cons_succ, List.set_cons_zero]
      refine factWalkR_cons (fun W hW hf K hK => ?_) (fun v4 => ?_)
      · skip
        refine ⟨by kernel_rfl, ?_⟩
        gi_step
        exact hK _ _ (Gs.refl _) rfl
      simp only [Act.put, List.setIfInBounds_toArray, List.set_cons_succ, List.set_cons_zero]
      refine factWalkR_cons (fun W hW hf K hK => ?_) (fun v5 => ?_)
      · skip
        have e3 : v3 = .string (strOf tx) := hf 3 (by omega) (by kernel_rfl)
        have e4 : v4 = .int .i64 (at_ : Int) := hf 4 (by omega) (by kernel_rfl)
        subst e3 e4
        refine ⟨by kernel_rfl, ?_⟩
        gi_step
        exact hK _ _ (Gs.refl _) rfl
      simp only [Act.put, List.setIfInBounds_toArray, List.set_cons_succ, List.set_cons_zero]
      refine factWalkR_cons (fun W hW hf K hK => ?_) (fun v6 => ?_)
      · skip
        refine ⟨by kernel_rfl, ?_⟩
        gi_step
        exact hK _ _ (Gs.refl _) rfl
      simp only [Act.put, List.setIfInBounds_toArray, List.set_cons_succ, List.set_cons_zero]
      refine factWalkR_cons (fun W hW hf K hK => ?_) (fun v7 => ?_)
      · skip
        refine ⟨by kernel_rfl, ?_⟩
        gi_step
        exact hK _ _ (Gs.refl _) rfl
      simp only [Act.put, List.setIfInBounds_toArray, List.set_cons_succ, List.set_cons_zero]
      refine factWalkR_cons (fun W hW hf K hK => ?_) (fun v8 => ?_)
      · skip
        refine ⟨by kernel_rfl, ?_⟩
        gi_step
        exact hK _ _ (Gs.refl _) rfl
      simp only [Act.put, List.setIfInBounds_toArray, List.set_cons_succ, List.set_cons_zero]
      refine factWalkR_cons (fun W hW hf K hK => ?_) (fun v9 => ?_)
      · skip
        refine ⟨by kernel_rfl, ?_⟩
        gi_step
        exact hK _ _ (Gs.refl _) rfl
      simp only [Act.put, List.setIfInBounds_toArray, List.set_cons_succ, List.set_cons_zero]
      refine factWalkR_cons (fun W hW hf K hK => ?_) (fun v10 => ?_)
      · skip
        have e7 : v7 = .string (strOf s) := hf 7 (by omega) (by kernel_rfl)
        have e8 : v8 = .int .i64 (at_ : Int) := hf 8 (by omega) (by kernel_rfl)
        have e9 : v9 = .int .i64 (E : Int) := hf 9 (by omega) (by kernel_rfl)
        subst e7 e8 e9
        refine ⟨by kernel_rfl, ?_⟩
        refine operIn_slice _ _ _ rfl _ _ _ rfl rfl rfl (HSL.out W) ?_
        exact hK _ _ (Gs.refl _) rfl
      simp only [Act.put, List.setIfInBounds_toArray, List.set_cons_succ, List.set_cons_zero]
      refine factWalkR_cons (fun W hW hf K hK => ?_) (fun v11 => ?_)
      · skip
        have e10 : v10 = .string (strOf tx) := hf 10 (by omega) (by kernel_rfl)
        subst e10
        refine ⟨by kernel_rfl, ?_⟩
        gi_step
        refine ⟨trivial, ?_⟩
        refine (callsIn_wide.2 (WO.out W)).mono ?_
        rintro e W' ⟨rfl, rfl⟩
        dsimp only
        exact hK _ _ (Gs.refl _) rfl
      simp only [Act.put, List.setIfInBounds_toArray, List.set_cons_succ, List.set_cons_zero]
      refine factWalkR_cons (fun W hW hf K hK => ?_) (fun v12 => ?_)
      · skip
        have e5 : v5 = .agg (tcs 1 tx 0 (at_ : Int)) := hf 5 (by omega) (by kernel_rfl)
        subst e5
        obtain ⟨cs0, bz, hz⟩ := hW.2.1 _ Z0.out.drew rfl
        have hsto := run_storeAt_mid (P := Tryd.prog) W g 0 32 (tcs 1 tx 0 (at_ : Int)) (by have h := bz.there; rw [hz] at h; exact h) S1.out HO1.out
        refine ⟨by kernel_rfl, ?_⟩
        refine operIn_store rfl _ _ _ rfl _ _ rfl rfl hsto ?_
        exact hK undef _ (Gs.store bz hz) (bz.setAll hz.symm)
      simp only [Act.put, List.setIfInBounds_toArray, List.set_cons_succ, List.set_cons_zero]
      refine factWalkR_cons (fun W hW hf K hK => ?_) (fun v13 => ?_)
      · skip
        have e6 : v6 = .int .i64 (E : Int) := hf 6 (by omega) (by kernel_rfl)
        subst e6
        refine ⟨by kernel_rfl, ?_⟩
        gi_step
        exact hK _ _ (Gs.refl _) rfl
      simp only [Act.put, List.setIfInBounds_toArray, List.set_cons_succ, List.set_cons_zero]
      refine factWalkR_cons (fun W hW hf K hK => ?_) (fun v14 => ?_)
      · skip
        have e11 : v11 = .bool ok := hf 11 (by omega) (by kernel_rfl)
        subst e11
        refine ⟨by kernel_rfl, ?_⟩
        gi_step
        exact hK _ _ (Gs.refl _) rfl
      simp only [Act.put, List.setIfInBounds_toArray, List.set_cons_succ, List.set_cons_zero]
      refine factWalkR_nil (fun W hW hf => ?_)
      have b9 : Blk W g 32 (tcs 1 tx 0 (at_ : Int)) := hf 12 (by omega)
      have e5 : v13 = .int .i64 (E : Int) := hf 13 (by omega)
      have e6 : v14 = .bool ok := hf 14 (by omega)
      subst e5 e6
      have BM := Lib.hid b9
      have FW : Hid (Fr (fun q => q = g) w W) := Lib.hid ((F1.out.drew.mono (fun _ _ h => h.elim)).trans hW.1 (fun _ _ h => h))
      clear hf hW b9
      change wpAnyIn _ _ _ _ _ _ 0 _ _ _
      refine wpAnyIn_done (by kernel_rfl) ?_ _
      try simp only [Act.put, List.setIfInBounds_toArray, List.set_cons_succ, List.set_cons_zero]
      go_wp2_with fail
      refine bodyPost_ret (v := .tuple #[.agg (tcs 1 tx 0 (at_ : Int)), .int .i64 (E : Int), .bool ok]) (hres _ W g 32 _ _ _ _ rfl rfl rfl BM.out Tryd.underlying32 rfl S1.out) rfl ?_
      have hg := HG.out
      refine ⟨1, tx, 0, (at_ : Int), E, ok, rfl, fun hok => ⟨E - at_, ?_, rfl, by omega⟩, fun hok => ?_, FW.out.mono (fun q hq e => by omega)⟩
      · rw [HDR.out, HTOK.out, hok, HM0.out]
        rfl
      · rw [HDR.out, HTOK.out, hok]
        rfl

set_option maxRecDepth 100000 in
set_option maxHeartbeats 8000000 in
theorem rtok_dig (w : World) (s : List UInt8) (at_ : Nat) (hs : s.length ≤ 1000000) (h : at_ < s.length) (hk : dgt s[at_] = true) : Calls Tryd.prog 22 #[.string (strOf s), .int .i64 (at_ : Int)] w (RTokQ s at_ w) := by
  have hres := results_tii (P := Tryd.prog) (fn := Tryd.f22) (p := 4) (q := 5) (r := 6) (ty := 32) Tryd.results22
  have hsz := strOf_size s
  have hix := fun W => run_index_str W s at_ h
  have hdr := List.drop_eq_getElem_cons h
  have hcl := u8_lt s[at_]
  obtain ⟨b, hb⟩ : ∃ b, s[at_] = b := ⟨_, rfl⟩
  rw [hb] at hix hdr hcl hk
  have LT := Lib.hid (fun W => rletter_c W b.toNat hcl)
  have DT := Lib.hid (fun W => rdigit_c W b.toNat hcl)
  have hln := ltr_n b
  have hdn := dgt_n b
  have h45 := eq45 b
  obtain ⟨x, hx⟩ : ∃ x, b.toNat = x := ⟨_, rfl⟩
  rw [hx] at hix hcl LT DT hln hdn h45
  have HX := Lib.hid hx
  have HDR := Lib.hid hdr
  have HLN := Lib.hid hln
  have HDN := Lib.hid hdn
  have H45 := Lib.hid h45
  clear hb hx hdr hln hdn h45
  obtain ⟨g, hg⟩ : ∃ g, w.heap.size = g := ⟨_, rfl⟩
  have HG := Lib.hid hg
  clear hg
  have HND : Hid ((dgt b || b == 45) = true) := Lib.hid (by rw [hk]; rfl)
  have HNL : Hid (ltr b = false) := Lib.hid (num_not_ltr HND.out)
  have HSP : Hid (spB b = true) := Lib.hid (dgt_sp hk)
  have hk2 : ltrN x = false := by rw [← HLN.out]; exact HNL.out
  have hk3 : dgtN x = true := by rw [← HDN.out]; exact hk
  rw [hk2] at LT
  rw [hk3] at DT
  clear hk hk2 hk3
  go_enter Tryd.func22, Tryd.ntmps22
  go_upto_region 1 with fail
  refine abs_world (fun W => Hid (Blk W w.heap.size 32 (tcs 0 [] 0 0)) ∧ Hid (Fr (fun _ => False) w W)) ⟨Blk.new w _ _, (Fr.refl _ w).alloc _⟩ ?_
  rintro W1 ⟨Z0, F1⟩
  rw [HG.out] at Z0 ⊢
  obtain ⟨E, hE⟩ : ∃ E, at_ + (spn (s.drop at_)).length = E := ⟨_, rfl⟩
  have hEl : E ≤ s.length := by have := spn_le (s.drop at_); rw [List.length_drop] at this; omega
  have hE1 : at_ + 1 ≤ E := by rw [← hE, HDR.out, spn_cons HSP.out, List.length_cons]; omega
  have HE := Lib.hid hE
  clear hE
  go_upto_region 3 with (first
    | (go_at_call 42
       refine (LT.out _).mono ?_
       rintro e w' ⟨rfl, rfl⟩)
    | (go_at_call 43
       refine (DT.out _).mono ?_
       rintro e w' ⟨rfl, rfl⟩))
  go_wp2_with fail
  go_loop [8] (fun ev => ∃ e : Nat, at_ ≤ e ∧ e ≤ s.length ∧ ev = .int .i64 (e : Int) ∧ Hid (E = e + (spn (s.drop e)).length)) (fun ev => s.length - (intOf ev).toNat)
  case atStart => exact ⟨at_, Nat.le_refl _, by omega, rfl, Lib.hid HE.out.symm⟩
  case round =>
    obtain ⟨e, he1, he, rfl, hw⟩ := hrel
    by_cases hlt : e < s.length
    case neg =>
      have HEE : Hid (E = e) := Lib.hid (by rw [hw.out, List.drop_eq_nil_of_le (by omega)]; rfl)
      obtain rfl : E = e := HEE.out
      have e1 : decide ((E : Int) < (s.length : Int)) = false := decide_eq_false (by omega)
      have e1' : decide (E < s.length) = false := decide_eq_false hlt
      clear hlt
      have hsl : ∀ W, (Instr.sliceAt 9 (.string (strOf s)) (some (.int .i64 (at_ : Int))) (some (.int .i64 (E : Int))) none).run Tryd.prog W = .ok (.string (strOf ((s.drop at_).take (E - at_)))) W := fun W => run_sub W s at_ E (by omega) (by omega)
      have htx0 : (s.drop at_).take (E - at_) = b :: spn (s.drop (at_ + 1)) := by
        rw [show E - at_ = (spn (s.drop at_)).length by have := HE.out; omega, spn_take, HDR.out, spn_cons HSP.out]
      have hm0 : E - at_ = 1 + (spn (s.drop (at_ + 1))).length := by
        have h1 := HE.out
        rw [HDR.out, spn_cons HSP.out, List.length_cons] at h1
        omega
      rw [htx0] at hsl
      obtain ⟨tx, htx⟩ : ∃ tx, b :: spn (s.drop (at_ + 1)) = tx := ⟨_, rfl⟩
      have htl : tx.length ≤ s.length := by
        rw [← htx, List.length_cons]
        omega
      have htp : 0 < tx.length := by rw [← htx]; simp
      have HTX := Lib.hid htx
      have HM0 := Lib.hid hm0
      rw [htx] at hsl
      have HSL := Lib.hid hsl
      clear htx0 htx hm0
      have NB := Lib.hid (fun W => rnumber_c W tx (by omega) htp)
      go_upto_region 9 with (first
        | (go_at_call 42
           refine (LT.out _).mono ?_
           rintro e w' ⟨rfl, rfl⟩)
        | (go_at_call 44
           refine (NB.out _).mono ?_
           rintro e W2 ⟨v, ok, rfl, hv1, hv2, f2⟩
           have HV1 := Lib.hid hv1
           have HV2 := Lib.hid hv2
           have F2 := Lib.hid f2
           clear hv1 hv2 f2))
      replace Z0 := Lib.hid (keepB Z0.out F2.out)
      have S1 := Lib.hid (show (Tryd.prog.info? 32).map (·.size) = some (tcs 3 [] v (at_ : Int)).size from tsize)
      have HO1 := Lib.hid (show (tcs 3 [] v (at_ : Int)).all (·.oneCell') = true by simp [tcs, Value.oneCell'])
      go_wp2_with (first
        | (refine wpList_store_blk rfl 32 _ _ rfl g (tcs 3 [] v (at_ : Int)) rfl rfl Z0.out rfl S1.out HO1.out ?_
           intro W9 q9 f9
           have F9 := Lib.hid f9
           have Q9 := Lib.hid q9
           clear q9 f9))
      refine bodyPost_ret (v := .tuple #[.agg (tcs 3 [] v (at_ : Int)), .int .i64 (E : Int), .bool ok]) (hres _ W9 g 32 _ _ _ _ rfl rfl rfl Q9.out Tryd.underlying32 rfl S1.out) rfl ?_
      have hg := HG.out
      refine ⟨3, [], v, (at_ : Int), E, ok, rfl, fun hok => ⟨E - at_, ?_, rfl, by omega⟩, fun hok => ?_, (F1.out.trans F2.out (fun _ _ h => h)).trans F9.out (fun q hq e => by omega)⟩
      · rw [HDR.out, tok_numY HNL.out HND.out (by rw [HTX.out]; exact HV1.out hok), HM0.out]
      · rw [HDR.out, tok_numN HNL.out HND.out (by rw [HTX.out]; exact HV2.out hok)]
    have e1 : decide ((e : Int) < (s.length : Int)) = true := decide_eq_true (by omega)
    have e1' : decide (e < s.length) = true := decide_eq_true hlt
    have hiy := fun W => run_index_str W s e hlt
    have hdr := List.drop_eq_getElem_cons hlt
    have hcl2 := u8_lt s[e]
    obtain ⟨d, hd⟩ : ∃ d, s[e] = d := ⟨_, rfl⟩
    rw [hd] at hiy hdr hcl2
    have LC := Lib.hid (fun W => rletter_c W d.toNat hcl2)
    have DC := Lib.hid (fun W => rdigit_c W d.toNat hcl2)
    have hfn : spB d = (ltrN d.toNat || dgtN d.toNat || decide (d.toNat = 45) || decide (d.toNat = 46)) := by
      unfold spB
      rw [fol_n, eq46]
      rfl
    obtain ⟨y, hy⟩ : ∃ y, d.toNat = y := ⟨_, rfl⟩
    rw [hy] at hiy LC DC hfn hcl2
    have HDR2 := Lib.hid hdr
    have HFN := Lib.hid hfn
    have YES : Hid (spB d = true → E = e + 1 + (spn (s.drop (e + 1))).length) := Lib.hid (fun hq => by rw [hw.out, HDR2.out, spn_cons hq, List.length_cons]; omega)
    have NOE : Hid (spB d = false → E = e) := Lib.hid (fun hq => by rw [hw.out, HDR2.out, spn_stop hq]; rfl)
    clear hd hdr hfn hy
    cases hl : ltrN y with
    | true =>
      rw [hl] at LC HFN
      have HS : Hid (E = e + 1 + (spn (s.drop (e + 1))).length) := Lib.hid (YES.out (by rw [HFN.out]; rfl))
      clear hl
      go_wp2_with (first
    | (go_at_call 42
       refine (LC.out _).mono ?_
       rintro e w' ⟨rfl, rfl⟩))
      go_round
      case rel => exact ⟨e + 1, by omega, by omega, by go_num, HS.out⟩
      case measure => simp [intOf]; omega
    | false =>
    rw [hl] at LC HFN
    clear hl
    cases hdg : dgtN y with
    | true =>
      rw [hdg] at DC HFN
      have HS : Hid (E = e + 1 + (spn (s.drop (e + 1))).length) := Lib.hid (YES.out (by rw [HFN.out]; rfl))
      clear hdg
      go_wp2_with (first
    | (go_at_call 42
       refine (LC.out _).mono ?_
       rintro e w' ⟨rfl, rfl⟩)
    | (go_at_call 43
       refine (DC.out _).mono ?_
       rintro e w' ⟨rfl, rfl⟩))
      go_round
      case rel => exact ⟨e + 1, by omega, by omega, by go_num, HS.out⟩
      case measure => simp [intOf]; omega
    | false =>
    rw [hdg] at DC HFN
    clear hdg
    by_cases hy45 : y = 45
    case pos =>
      have HS : Hid (E = e + 1 + (spn (s.drop (e + 1))).length) := Lib.hid (YES.out (by rw [HFN.out, decide_eq_true hy45]; rfl))
      subst hy45
      go_wp2_with (first
    | (go_at_call 42
       refine (LC.out _).mono ?_
       rintro e w' ⟨rfl, rfl⟩)
    | (go_at_call 43
       refine (DC.out _).mono ?_
       rintro e w' ⟨rfl, rfl⟩))
      go_round
      case rel => exact ⟨e + 1, by omega, by omega, by go_num, HS.out⟩
      case measure => simp [intOf]; omega
    case neg =>
    have n45 : ((y : Int) == 45) = false := beq_eq_false_iff_ne.2 (by omega)
    by_cases hy46 : y = 46
    case pos =>
      have HS : Hid (E = e + 1 + (spn (s.drop (e + 1))).length) := Lib.hid (YES.out (by rw [HFN.out, decide_eq_true hy46]; simp))
      subst hy46
      clear hy45
      go_wp2_with (first
    | (go_at_call 42
       refine (LC.out _).mono ?_
       rintro e w' ⟨rfl, rfl⟩)
    | (go_at_call 43
       refine (DC.out _).mono ?_
       rintro e w' ⟨rfl, rfl⟩))
      go_round
      case rel => exact ⟨e + 1, by omega, by omega, by go_num, HS.out⟩
      case measure => simp [intOf]; omega
    case neg =>
      have n46 : ((y : Int) == 46) = false := beq_eq_false_iff_ne.2 (by omega)
      have HEE : Hid (E = e) := Lib.hid (NOE.out (by rw [HFN.out, decide_eq_false hy45, decide_eq_false hy46]; rfl))
      obtain rfl : E = e := HEE.out
      clear hy45 hy46
      go_upto_region 6 with (first
    | (go_at_call 42
       refine (LC.out _).mono ?_
       rintro e w' ⟨rfl, rfl⟩)
    | (go_at_call 43
       refine (DC.out _).mono ?_
       rintro e w' ⟨rfl, rfl⟩))
      clear LC DC
      have hsl : ∀ W, (Instr.sliceAt 9 (.string (strOf s)) (some (.int .i64 (at_ : Int))) (some (.int .i64 (E : Int))) none).run Tryd.prog W = .ok (.string (strOf ((s.drop at_).take (E - at_)))) W := fun W => run_sub W s at_ E (by omega) (by omega)
      have htx0 : (s.drop at_).take (E - at_) = b :: spn (s.drop (at_ + 1)) := by
        rw [show E - at_ = (spn (s.drop at_)).length by have := HE.out; omega, spn_take, HDR.out, spn_cons HSP.out]
      have hm0 : E - at_ = 1 + (spn (s.drop (at_ + 1))).length := by
        have h1 := HE.out
        rw [HDR.out, spn_cons HSP.out, List.length_cons] at h1
        omega
      rw [htx0] at hsl
      obtain ⟨tx, htx⟩ : ∃ tx, b :: spn (s.drop (at_ + 1)) = tx := ⟨_, rfl⟩
      have htl : tx.length ≤ s.length := by
        rw [← htx, List.length_cons]
        omega
      have htp : 0 < tx.length := by rw [← htx]; simp
      have HTX := Lib.hid htx
      have HM0 := Lib.hid hm0
      rw [htx] at hsl
      have HSL := Lib.hid hsl
      clear htx0 htx hm0
      have NB := Lib.hid (fun W => rnumber_c W tx (by omega) htp)
      go_upto_region 9 with (first
        | (go_at_call 42
           refine (LT.out _).mono ?_
           rintro e w' ⟨rfl, rfl⟩)
        | (go_at_call 44
           refine (NB.out _).mono ?_
           rintro e W2 ⟨v, ok, rfl, hv1, hv2, f2⟩
           have HV1 := Lib.hid hv1
           have HV2 := Lib.hid hv2
           have F2 := Lib.hid f2
           clear hv1 hv2 f2))
      replace Z0 := Lib.hid (keepB Z0.out F2.out)
      have S1 := Lib.hid (show (Tryd.prog.info? 32).map (·.size) = some (tcs 3 [] v (at_ : Int)).size from tsize)
      have HO1 := Lib.hid (show (tcs 3 [] v (at_ : Int)).all (·.oneCell') = true by simp [tcs, Value.oneCell'])
      go_wp2_with (first
        | (refine wpList_store_blk rfl 32 _ _ rfl g (tcs 3 [] v (at_ : Int)) rfl rfl Z0.out rfl S1.out HO1.out ?_
           intro W9 q9 f9
           have F9 := Lib.hid f9
           have Q9 := Lib.hid q9
           clear q9 f9))
      refine bodyPost_ret (v := .tuple #[.agg (tcs 3 [] v (at_ : Int)), .int .i64 (E : Int), .bool ok]) (hres _ W9 g 32 _ _ _ _ rfl rfl rfl Q9.out Tryd.underlying32 rfl S1.out) rfl ?_
      have hg := HG.out
      refine ⟨3, [], v, (at_ : Int), E, ok, rfl, fun hok => ⟨E - at_, ?_, rfl, by omega⟩, fun hok => ?_, (F1.out.trans F2.out (fun _ _ h => h)).trans F9.out (fun q hq e => by omega)⟩
      · rw [HDR.out, tok_numY HNL.out HND.out (by rw [HTX.out]; exact HV1.out hok), HM0.out]
      · rw [HDR.out, tok_numN HNL.out HND.out (by rw [HTX.out]; exact HV2.out hok)]

set_option maxRecDepth 100000 in
set_option maxHeartbeats 8000000 in
theorem rtok_minus (w : World) (s : List UInt8) (at_ : Nat) (hs : s.length ≤ 1000000) (h : at_ < s.length) (hk : s[at_] = 45) : Calls Tryd.prog 22 #[.string (strOf s), .int .i64 (at_ : Int)] w (RTokQ s at_ w) := by
  have hres := results_tii (P := Tryd.prog) (fn := Tryd.f22) (p := 4) (q := 5) (r := 6) (ty := 32) Tryd.results22
  have hsz := strOf_size s
  have hix := fun W => run_index_str W s at_ h
  have hdr := List.drop_eq_getElem_cons h
  have hcl := u8_lt s[at_]
  obtain ⟨b, hb⟩ : ∃ b, s[at_] = b := ⟨_, rfl⟩
  rw [hb] at hix hdr hcl hk
  have LT := Lib.hid (fun W => rletter_c W b.toNat hcl)
  have DT := Lib.hid (fun W => rdigit_c W b.toNat hcl)
  have hln := ltr_n b
  have hdn := dgt_n b
  have h45 := eq45 b
  obtain ⟨x, hx⟩ : ∃ x, b.toNat = x := ⟨_, rfl⟩
  rw [hx] at hix hcl LT DT hln hdn h45
  have HX := Lib.hid hx
  have HDR := Lib.hid hdr
  have HLN := Lib.hid hln
  have HDN := Lib.hid hdn
  have H45 := Lib.hid h45
  clear hb hx hdr hln hdn h45
  obtain ⟨g, hg⟩ : ∃ g, w.heap.size = g := ⟨_, rfl⟩
  have HG := Lib.hid hg
  clear hg
  have HND : Hid ((dgt b || b == 45) = true) := Lib.hid (by rw [hk]; rfl)
  have HNL : Hid (ltr b = false) := Lib.hid (num_not_ltr HND.out)
  have HSP : Hid (spB b = true) := Lib.hid (by rw [hk]; rfl)
  have hk2 : ltrN x = false := by rw [← HLN.out]; exact HNL.out
  have hx45 : x = 45 := by rw [← HX.out, hk]; rfl
  have hk3 : dgtN x = false := by rw [hx45]; rfl
  rw [hk2] at LT
  rw [hk3] at DT
  clear hk hk2 hk3
  subst hx45
  go_enter Tryd.func22, Tryd.ntmps22
  go_upto_region 1 with fail
  refine abs_world (fun W => Hid (Blk W w.heap.size 32 (tcs 0 [] 0 0)) ∧ Hid (Fr (fun _ => False) w W)) ⟨Blk.new w _ _, (Fr.refl _ w).alloc _⟩ ?_
  rintro W1 ⟨Z0, F1⟩
  rw [HG.out] at Z0 ⊢
  obtain ⟨E, hE⟩ : ∃ E, at_ + (spn (s.drop at_)).length = E := ⟨_, rfl⟩
  have hEl : E ≤ s.length := by have := spn_le (s.drop at_); rw [List.length_drop] at this; omega
  have hE1 : at_ + 1 ≤ E := by rw [← hE, HDR.out, spn_cons HSP.out, List.length_cons]; omega
  have HE := Lib.hid hE
  clear hE
  go_upto_region 3 with (first
    | (go_at_call 42
       refine (LT.out _).mono ?_
       rintro e w' ⟨rfl, rfl⟩)
    | (go_at_call 43
       refine (DT.out _).mono ?_
       rintro e w' ⟨rfl, rfl⟩))
  go_wp2_with fail
  go_loop [8] (fun ev => ∃ e : Nat, at_ ≤ e ∧ e ≤ s.length ∧ ev = .int .i64 (e : Int) ∧ Hid (E = e + (spn (s.drop e)).length)) (fun ev => s.length - (intOf ev).toNat)
  case atStart => exact ⟨at_, Nat.le_refl _, by omega, rfl, Lib.hid HE.out.symm⟩
  case round =>
    obtain ⟨e, he1, he, rfl, hw⟩ := hrel
    by_cases hlt : e < s.length
    case neg =>
      have HEE : Hid (E = e) := Lib.hid (by rw [hw.out, List.drop_eq_nil_of_le (by omega)]; rfl)
      obtain rfl : E = e := HEE.out
      have e1 : decide ((E : Int) < (s.length : Int)) = false := decide_eq_false (by omega)
      have e1' : decide (E < s.length) = false := decide_eq_false hlt
      clear hlt
      have hsl : ∀ W, (Instr.sliceAt 9 (.string (strOf s)) (some (.int .i64 (at_ : Int))) (some (.int .i64 (E : Int))) none).run Tryd.prog W = .ok (.string (strOf ((s.drop at_).take (E - at_)))) W := fun W => run_sub W s at_ E (by omega) (by omega)
      have htx0 : (s.drop at_).take (E - at_) = b :: spn (s.drop (at_ + 1)) := by
        rw [show E - at_ = (spn (s.drop at_)).length by have := HE.out; omega, spn_take, HDR.out, spn_cons HSP.out]
      have hm0 : E - at_ = 1 + (spn (s.drop (at_ + 1))).length := by
        have h1 := HE.out
        rw [HDR.out, spn_cons HSP.out, List.length_cons] at h1
        omega
      rw [htx0] at hsl
      obtain ⟨tx, htx⟩ : ∃ tx, b :: spn (s.drop (at_ + 1)) = tx := ⟨_, rfl⟩
      have htl : tx.length ≤ s.length := by
        rw [← htx, List.length_cons]
        omega
      have htp : 0 < tx.length := by rw [← htx]; simp
      have HTX := Lib.hid htx
      have HM0 := Lib.hid hm0
      rw [htx] at hsl
      have HSL := Lib.hid hsl
      clear htx0 htx hm0
      have NB := Lib.hid (fun W => rnumber_c W tx (by omega) htp)
      go_upto_region 9 with (first
        | (go_at_call 42
           refine (LT.out _).mono ?_
           rintro e w' ⟨rfl, rfl⟩)
        | (go_at_call 44
           refine (NB.out _).mono ?_
           rintro e W2 ⟨v, ok, rfl, hv1, hv2, f2⟩
           have HV1 := Lib.hid hv1
           have HV2 := Lib.hid hv2
           have F2 := Lib.hid f2
           clear hv1 hv2 f2))
      replace Z0 := Lib.hid (keepB Z0.out F2.out)
      have S1 := Lib.hid (show (Tryd.prog.info? 32).map (·.size) = some (tcs 3 [] v (at_ : Int)).size from tsize)
      have HO1 := Lib.hid (show (tcs 3 [] v (at_ : Int)).all (·.oneCell') = true by simp [tcs, Value.oneCell'])
      go_wp2_with (first
        | (refine wpList_store_blk rfl 32 _ _ rfl g (tcs 3 [] v (at_ : Int)) rfl rfl Z0.out rfl S1.out HO1.out ?_
           intro W9 q9 f9
           have F9 := Lib.hid f9
           have Q9 := Lib.hid q9
           clear q9 f9))
      refine bodyPost_ret (v := .tuple #[.agg (tcs 3 [] v (at_ : Int)), .int .i64 (E : Int), .bool ok]) (hres _ W9 g 32 _ _ _ _ rfl rfl rfl Q9.out Tryd.underlying32 rfl S1.out) rfl ?_
      have hg := HG.out
      refine ⟨3, [], v, (at_ : Int), E, ok, rfl, fun hok => ⟨E - at_, ?_, rfl, by omega⟩, fun hok => ?_, (F1.out.trans F2.out (fun _ _ h => h)).trans F9.out (fun q hq e => by omega)⟩
      · rw [HDR.out, tok_numY HNL.out HND.out (by rw [HTX.out]; exact HV1.out hok), HM0.out]
      · rw [HDR.out, tok_numN HNL.out HND.out (by rw [HTX.out]; exact HV2.out hok)]
    have e1 : decide ((e : Int) < (s.length : Int)) = true := decide_eq_true (by omega)
    have e1' : decide (e < s.length) = true := decide_eq_true hlt
    have hiy := fun W => run_index_str W s e hlt
    have hdr := List.drop_eq_getElem_cons hlt
    have hcl2 := u8_lt s[e]
    obtain ⟨d, hd⟩ : ∃ d, s[e] = d := ⟨_, rfl⟩
    rw [hd] at hiy hdr hcl2
    have LC := Lib.hid (fun W => rletter_c W d.toNat hcl2)
    have DC := Lib.hid (fun W => rdigit_c W d.toNat hcl2)
    have hfn : spB d = (ltrN d.toNat || dgtN d.toNat || decide (d.toNat = 45) || decide (d.toNat = 46)) := by
      unfold spB
      rw [fol_n, eq46]
      rfl
    obtain ⟨y, hy⟩ : ∃ y, d.toNat = y := ⟨_, rfl⟩
    rw [hy] at hiy LC DC hfn hcl2
    have HDR2 := Lib.hid hdr
    have HFN := Lib.hid hfn
    have YES : Hid (spB d = true → E = e + 1 + (spn (s.drop (e + 1))).length) := Lib.hid (fun hq => by rw [hw.out, HDR2.out, spn_cons hq, List.length_cons]; omega)
    have NOE : Hid (spB d = false → E = e) := Lib.hid (fun hq => by rw [hw.out, HDR2.out, spn_stop hq]; rfl)
    clear hd hdr hfn hy
    cases hl : ltrN y with
    | true =>
      rw [hl] at LC HFN
      have HS : Hid (E = e + 1 + (spn (s.drop (e + 1))).length) := Lib.hid (YES.out (by rw [HFN.out]; rfl))
      clear hl
      go_wp2_with (first
    | (go_at_call 42
       refine (LC.out _).mono ?_
       rintro e w' ⟨rfl, rfl⟩))
      go_round
      case rel => exact ⟨e + 1, by omega, by omega, by go_num, HS.out⟩
      case measure => simp [intOf]; omega
    | false =>
    rw [hl] at LC HFN
    clear hl
    cases hdg : dgtN y with
    | true =>
      rw [hdg] at DC HFN
      have HS : Hid (E = e + 1 + (spn (s.drop (e + 1))).length) := Lib.hid (YES.out (by rw [HFN.out]; rfl))
      clear hdg
      go_wp2_with (first
    | (go_at_call 42
       refine (LC.out _).mono ?_
       rintro e w' ⟨rfl, rfl⟩)
    | (go_at_call 43
       refine (DC.out _).mono ?_
       rintro e w' ⟨rfl, rfl⟩))
      go_round
      case rel => exact ⟨e + 1, by omega, by omega, by go_num, HS.out⟩
      case measure => simp [intOf]; omega
    | false =>
    rw [hdg] at DC HFN
    clear hdg
    by_cases hy45 : y = 45
    case pos =>
      have HS : Hid (E = e + 1 + (spn (s.drop (e + 1))).length) := Lib.hid (YES.out (by rw [HFN.out, decide_eq_true hy45]; rfl))
      subst hy45
      go_wp2_with (first
    | (go_at_call 42
       refine (LC.out _).mono ?_
       rintro e w' ⟨rfl, rfl⟩)
    | (go_at_call 43
       refine (DC.out _).mono ?_
       rintro e w' ⟨rfl, rfl⟩))
      go_round
      case rel => exact ⟨e + 1, by omega, by omega, by go_num, HS.out⟩
      case measure => simp [intOf]; omega
    case neg =>
    have n45 : ((y : Int) == 45) = false := beq_eq_false_iff_ne.2 (by omega)
    by_cases hy46 : y = 46
    case pos =>
      have HS : Hid (E = e + 1 + (spn (s.drop (e + 1))).length) := Lib.hid (YES.out (by rw [HFN.out, decide_eq_true hy46]; simp))
      subst hy46
      clear hy45
      go_wp2_with (first
    | (go_at_call 42
       refine (LC.out _).mono ?_
       rintro e w' ⟨rfl, rfl⟩)
    | (go_at_call 43
       refine (DC.out _).mono ?_
       rintro e w' ⟨rfl, rfl⟩))
      go_round
      case rel => exact ⟨e + 1, by omega, by omega, by go_num, HS.out⟩
      case measure => simp [intOf]; omega
    case neg =>
      have n46 : ((y : Int) == 46) = false := beq_eq_false_iff_ne.2 (by omega)
      have HEE : Hid (E = e) := Lib.hid (NOE.out (by rw [HFN.out, decide_eq_false hy45, decide_eq_false hy46]; rfl))
      obtain rfl : E = e := HEE.out
      clear hy45 hy46
      go_upto_region 6 with (first
    | (go_at_call 42
       refine (LC.out _).mono ?_
       rintro e w' ⟨rfl, rfl⟩)
    | (go_at_call 43
       refine (DC.out _).mono ?_
       rintro e w' ⟨rfl, rfl⟩))
      clear LC DC
      have hsl : ∀ W, (Instr.sliceAt 9 (.string (strOf s)) (some (.int .i64 (at_ : Int))) (some (.int .i64 (E : Int))) none).run Tryd.prog W = .ok (.string (strOf ((s.drop at_).take (E - at_)))) W := fun W => run_sub W s at_ E (by omega) (by omega)
      have htx0 : (s.drop at_).take (E - at_) = b :: spn (s.drop (at_ + 1)) := by
        rw [show E - at_ = (spn (s.drop at_)).length by have := HE.out; omega, spn_take, HDR.out, spn_cons HSP.out]
      have hm0 : E - at_ = 1 + (spn (s.drop (at_ + 1))).length := by
        have h1 := HE.out
        rw [HDR.out, spn_cons HSP.out, List.length_cons] at h1
        omega
      rw [htx0] at hsl
      obtain ⟨tx, htx⟩ : ∃ tx, b :: spn (s.drop (at_ + 1)) = tx := ⟨_, rfl⟩
      have htl : tx.length ≤ s.length := by
        rw [← htx, List.length_cons]
        omega
      have htp : 0 < tx.length := by rw [← htx]; simp
      have HTX := Lib.hid htx
      have HM0 := Lib.hid hm0
      rw [htx] at hsl
      have HSL := Lib.hid hsl
      clear htx0 htx hm0
      have NB := Lib.hid (fun W => rnumber_c W tx (by omega) htp)
      go_upto_region 9 with (first
        | (go_at_call 42
           refine (LT.out _).mono ?_
           rintro e w' ⟨rfl, rfl⟩)
        | (go_at_call 44
           refine (NB.out _).mono ?_
           rintro e W2 ⟨v, ok, rfl, hv1, hv2, f2⟩
           have HV1 := Lib.hid hv1
           have HV2 := Lib.hid hv2
           have F2 := Lib.hid f2
           clear hv1 hv2 f2))
      replace Z0 := Lib.hid (keepB Z0.out F2.out)
      have S1 := Lib.hid (show (Tryd.prog.info? 32).map (·.size) = some (tcs 3 [] v (at_ : Int)).size from tsize)
      have HO1 := Lib.hid (show (tcs 3 [] v (at_ : Int)).all (·.oneCell') = true by simp [tcs, Value.oneCell'])
      go_wp2_with (first
        | (refine wpList_store_blk rfl 32 _ _ rfl g (tcs 3 [] v (at_ : Int)) rfl rfl Z0.out rfl S1.out HO1.out ?_
           intro W9 q9 f9
           have F9 := Lib.hid f9
           have Q9 := Lib.hid q9
           clear q9 f9))
      refine bodyPost_ret (v := .tuple #[.agg (tcs 3 [] v (at_ : Int)), .int .i64 (E : Int), .bool ok]) (hres _ W9 g 32 _ _ _ _ rfl rfl rfl Q9.out Tryd.underlying32 rfl S1.out) rfl ?_
      have hg := HG.out
      refine ⟨3, [], v, (at_ : Int), E, ok, rfl, fun hok => ⟨E - at_, ?_, rfl, by omega⟩, fun hok => ?_, (F1.out.trans F2.out (fun _ _ h => h)).trans F9.out (fun q hq e => by omega)⟩
      · rw [HDR.out, tok_numY HNL.out HND.out (by rw [HTX.out]; exact HV1.out hok), HM0.out]
      · rw [HDR.out, tok_numN HNL.out HND.out (by rw [HTX.out]; exact HV2.out hok)]

end Go.Proofs.YtimopkmlcjdgfaaDoor
