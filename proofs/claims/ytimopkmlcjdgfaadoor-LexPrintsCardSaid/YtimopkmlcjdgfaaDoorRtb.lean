/-
  CONTRACT of the reference's token: texts and marks; all kinds. Written by gen_rtb.py.
-/
import Derived.Test.YtimopkmlcjdgfaaDoorRta
namespace Go.Proofs.YtimopkmlcjdgfaaDoor
set_option linter.unusedSimpArgs false
set_option linter.unusedVariables false
open Go Go.RowKit

def rxR (at_ i9 g c : Nat) (A : Option Addr) (acc : List UInt8) (ok : Bool) (i : Nat) (val : Nat → Value) (W : World) : Prop := match i with
  | 0 => val 0 = .slice A acc.length c
  | 1 => val 1 = .string (strOf acc)
  | 2 => val 2 = .int .i64 (at_ : Int)
  | 3 => val 3 = .agg (tcs 2 acc 0 (at_ : Int))
  | 4 => val 4 = .int .i64 (i9 : Int)
  | 5 => val 5 = .int .i64 ((i9 : Int) + 1)
  | 6 => val 6 = .slice A acc.length c
  | 7 => val 7 = .string (strOf acc)
  | 8 => val 8 = .bool ok
  | 9 => Blk W g 32 (tcs 2 acc 0 (at_ : Int))
  | 10 => val 10 = .int .i64 ((i9 : Int) + 1)
  | 11 => val 11 = .bool ok
  | _ => True
theorem rxR_far {at_ i9 g c : Nat} {A : Option Addr} {acc : List UInt8} {ok : Bool} (i : Nat) (val val' : Nat → Value) (W W' : World) (he : ∀ j, j = i ∨ Anc [0, 1, 0, 7, 0, 16, 0, 64, 192, 463, 1023, 2047] i j = true → val j = val' j) (hg : Gs g 32 (tcs 2 acc 0 (at_ : Int)) W W') (hx : rxR at_ i9 g c A acc ok i val W) : rxR at_ i9 g c A acc ok i val' W' := by
  match i with
  | 0 => exact (he 0 (.inl rfl)).symm.trans hx
  | 1 => exact (he 1 (.inl rfl)).symm.trans hx
  | 2 => exact (he 2 (.inl rfl)).symm.trans hx
  | 3 => exact (he 3 (.inl rfl)).symm.trans hx
  | 4 => exact (he 4 (.inl rfl)).symm.trans hx
  | 5 => exact (he 5 (.inl rfl)).symm.trans hx
  | 6 => exact (he 6 (.inl rfl)).symm.trans hx
  | 7 => exact (he 7 (.inl rfl)).symm.trans hx
  | 8 => exact (he 8 (.inl rfl)).symm.trans hx
  | 9 => exact hg.2.2 hx
  | 10 => exact (he 10 (.inl rfl)).symm.trans hx
  | 11 => exact (he 11 (.inl rfl)).symm.trans hx
  | (n + 12) => exact trivial
set_option maxRecDepth 100000 in
set_option maxHeartbeats 8000000 in
theorem rtok_text (w : World) (s : List UInt8) (at_ : Nat) (hs : s.length ≤ 1000000) (h : at_ < s.length) (hk : s[at_] = 34) : Calls Tryd.prog 22 #[.string (strOf s), .int .i64 (at_ : Int)] w (RTokQ s at_ w) := by
  have hres := results_tii (P := Tryd.prog) (fn := Tryd.f22) (p := 4) (q := 5) (r := 6) (ty := 32) Tryd.results22
  have hsz := strOf_size s
  have hix := fun W => run_index_str W s at_ h
  have hdr := List.drop_eq_getElem_cons h
  have hcl := u8_lt s[at_]
  obtain ⟨b, hb⟩ : ∃ b, s[at_] = b := ⟨_, rfl⟩
  rw [hb] at hix hdr hcl hk
  have LT := Lib.hid (fun W => rletter_c W b.toNat hcl)
  have DT := Lib.hid (fun W => rdigit_c W b.toNat hcl)
  have hln := ltr_n b
  have hdn := dgt_n b
  have h45 := eq45 b
  obtain ⟨x, hx⟩ : ∃ x, b.toNat = x := ⟨_, rfl⟩
  rw [hx] at hix hcl LT DT hln hdn h45
  have HX := Lib.hid hx
  have HDR := Lib.hid hdr
  have HLN := Lib.hid hln
  have HDN := Lib.hid hdn
  have H45 := Lib.hid h45
  clear hb hx hdr hln hdn h45
  obtain ⟨g, hg⟩ : ∃ g, w.heap.size = g := ⟨_, rfl⟩
  have HG := Lib.hid hg
  clear hg
  have hx34 : x = 34 := by rw [← HX.out, hk]; rfl
  have hk2 : ltrN x = false := by rw [hx34]; rfl
  have hk3 : dgtN x = false := by rw [hx34]; rfl
  rw [hk2] at LT
  rw [hk3] at DT
  have HTD : Hid (∀ q, tok (34 :: s.drop (at_ + 1)) = q → tok (s.drop at_) = q) := Lib.hid (fun q hq => by rw [HDR.out, hk]; exact hq)
  clear hk hk2 hk3
  subst hx34
  obtain ⟨b0, hb0, bz0, bz1, bz2⟩ := info_parts b_info
  have HB0 := Lib.hid hb0
  clear hb0
  go_enter Tryd.func22, Tryd.ntmps22
  go_upto_region 1 with fail
  refine abs_world (fun W => Hid (Blk W w.heap.size 32 (tcs 0 [] 0 0)) ∧ Hid (Fr (fun _ => False) w W)) ⟨Blk.new w _ _, (Fr.refl _ w).alloc _⟩ ?_
  rintro W1 ⟨Z0, F1⟩
  rw [HG.out] at Z0 ⊢
  go_upto_region 12 with (first
    | (go_at_call 42
       refine (LT.out _).mono ?_
       rintro e w' ⟨rfl, rfl⟩)
    | (go_at_call 43
       refine (DT.out _).mono ?_
       rintro e w' ⟨rfl, rfl⟩))
  go_wp2_with fail
  go_loopw [11, 12] (fun ov iv W => ∃ (A : Option Addr) (c i : Nat) (acc : List UInt8), at_ + 1 ≤ i ∧ i ≤ s.length ∧ acc.length ≤ i ∧ ov = .slice A acc.length c ∧ iv = .int .i64 (i : Int) ∧ Hid (TxP (s.drop (at_ + 1)) acc (i - (at_ + 1)) (s.drop i)) ∧ Hid (W.ownsRow 0 5 1 (.slice A acc.length c) acc.length (bv acc)) ∧ Hid (∀ q, (Value.slice A acc.length c).ownBlock = some q → ¬ q = g ∧ g < q) ∧ Hid (Blk W g 32 (tcs 0 [] 0 0)) ∧ Hid (Fr (fun _ => False) w W)) (fun _ iv _ => s.length - (intOf iv).toNat)
  case atStart => exact ⟨none, 0, at_ + 1, [], Nat.le_refl _, h, Nat.zero_le _, rfl, by go_num, Lib.hid (by rw [Nat.sub_self]; exact TxP.start _), World.ownsRow_nil _ _ _ _, Lib.hid (fun q hq => by simp [Value.ownBlock] at hq), Z0.out, F1.out⟩
  case round =>
    clear Z0 F1
    clear W1
    obtain ⟨A, c, i, acc, hi1, hi, hal, rfl, rfl, htx, ROW, HOB, Z0, F1⟩ := hrel
    by_cases hlt : i < s.length
    case neg =>
      have d1 : decide ((i : Int) < (s.length : Int)) = false := decide_eq_false (by omega)
      have d1' : decide (i < s.length) = false := decide_eq_false hlt
      have HNO : Hid (tok (s.drop at_) = none) := Lib.hid (HTD.out _ (htx.out.none_ (by rw [List.drop_eq_nil_of_le (by omega)]; rfl)))
      have S1 := Lib.hid (show (Tryd.prog.info? 32).map (·.size) = some (tcs 0 [] 0 0).size from tsize)
      have HO1 := Lib.hid (show (tcs 0 [] 0 0).all (·.oneCell') = true by simp [tcs, Value.oneCell'])
      go_wp2_with (first
        | (refine wpList_store_blk rfl 32 _ _ rfl g (tcs 0 [] 0 0) rfl rfl Z0.out rfl S1.out HO1.out ?_
           intro W9 q9 f9
           have F9 := Lib.hid f9
           have Q9 := Lib.hid q9
           clear q9 f9))
      refine bodyPost_ret (v := .tuple #[.agg (tcs 0 [] 0 0), .int .i64 (0), .bool false]) (hres _ W9 g 32 _ _ _ _ rfl rfl rfl Q9.out Tryd.underlying32 rfl S1.out) rfl ?_
      have hg := HG.out
      refine ⟨0, [], 0, 0, 0, false, rfl, fun hok => (by cases hok), fun _ => ?_, F1.out.trans F9.out (fun q hq e => by omega)⟩
      exact HNO.out
    have d1 : decide ((i : Int) < (s.length : Int)) = true := decide_eq_true (by omega)
    have d1' : decide (i < s.length) = true := decide_eq_true hlt
    have hiy := fun W => run_index_str W s i hlt
    have hdr := List.drop_eq_getElem_cons hlt
    have hcl2 := u8_lt s[i]
    obtain ⟨d, hd⟩ : ∃ d, s[i] = d := ⟨_, rfl⟩
    rw [hd] at hiy hdr hcl2
    have hpn := pl_n d
    obtain ⟨y, hy⟩ : ∃ y, d.toNat = y := ⟨_, rfl⟩
    rw [hy] at hiy hcl2 hpn
    have HDR2 := Lib.hid hdr
    have HY := Lib.hid hy
    have HPN := Lib.hid hpn
    clear hd hdr hy hpn
    by_cases h34 : y = 34
    case pos =>
      have HB : Hid (d = 34) := Lib.hid (UInt8.toNat_inj.1 (by rw [HY.out, h34]; rfl))
      have HYES : Hid (tok (s.drop at_) = if acc.length ≤ 64 then some (2, acc, 0, i - (at_ + 1) + 2) else none) := Lib.hid (HTD.out _ (TxP.done (by have h1 := htx.out; rw [HDR2.out, HB.out] at h1; exact h1)))
      have HPL : Hid (acc.all plB = true) := Lib.hid htx.out.pl
      subst h34
      go_upto_region 16 with fail
      have PC := Lib.hid (fun W => rPlain_c W acc (by omega))
      rw [HPL.out, Bool.and_true] at PC
      obtain ⟨ok, hok⟩ : ∃ ok, decide (acc.length ≤ 64) = ok := ⟨_, rfl⟩
      rw [hok] at PC
      have HOK := Lib.hid hok
      clear hok
      have HRD : Hid (Rd wr A acc.length (bv acc)) := Lib.hid (Rd.of_own ROW.out)
      have HAG : Hid (∀ k, inA A k → ¬ k = g) := Lib.hid (fun k hk => by
        obtain ⟨ad, rfl, rfl⟩ := hk
        exact (HOB.out ad.block rfl).1)
      have HIB : Hid (-9223372036854775808 ≤ (i : Int) + 1 ∧ (i : Int) + 1 ≤ 9223372036854775807) := Lib.hid (by omega)
      have S1 := Lib.hid (show (Tryd.prog.info? 32).map (·.size) = some (tcs 2 acc 0 (at_ : Int)).size from tsize)
      have HO1 := Lib.hid (show (tcs 2 acc 0 (at_ : Int)).all (·.oneCell') = true by simp [tcs, Value.oneCell'])

      refine (wpIn_wide (n := 9)).1 ?_
      refine wpIn_region_factsR (ms := [0, 1, 0, 7, 0, 16, 0, 64, 192, 463, 1023, 2047]) (k := 12) (Gs g 32 (tcs 2 acc 0 (at_ : Int))) (rxR at_ i g c A acc ok) (by kernel_rfl) (by kernel_rfl) (fun W => Gs.refl W) (fun a b c h1 h2 => h1.trans h2) (rxR_far) (lowMs_lt (by kernel_rfl)) ?walkx
      case walkx =>
      refine factWalkR_cons (fun W hW hf K hK => ?_) (fun v0 => ?_)
      · skip
        refine ⟨by kernel_rfl, ?_⟩
        gi_step
        exact hK _ _ (Gs.refl _) rfl
      simp only [Act.put, List.setIfInBounds_toArray, List.set_cons_succ, List.set_cons_zero]
      refine factWalkR_cons (fun W hW hf K hK => ?_) (fun v1 => ?_)
      · skip
        have e0 : v0 = .slice A acc.length c := hf 0 (by omega) (by kernel_rfl)
        subst e0
        have hcv := conv_str W A acc.length c acc ((HRD.out.drew).fr hW.1 HAG.out)
        refine ⟨by kernel_rfl, ?_⟩
        refine operIn_convert _ rfl _ rfl hcv ?_
        exact hK _ _ (Gs.refl _) rfl
      simp only [Act.put, List.setIfInBounds_toArray, List.set_cons_succ, List.set_cons_zero]
      refine factWalkR_cons (fun W hW hf K hK => ?_) (fun v2 => ?_)
      · skip
        refine ⟨by kernel_rfl, ?_⟩
        gi_step
        exact hK _ _ (Gs.refl _) rfl
      simp only [Act.put, List.setIfInBounds_toArray, List.set_cons_succ, List.set_cons_zero]
      refine factWalkR_cons (fun W hW hf K hK => ?_) (fun v3 => ?_)
      · skip
        have e1 : v1 = .string (strOf acc) := hf 1 (by omega) (by kernel_rfl)
        have e2 : v2 = .int .i64 (at_ : Int) := hf 2 (by omega) (by kernel_rfl)
        subst e1 e2
        refine ⟨by kernel_rfl, ?_⟩
        gi_step
        exact hK _ _ (Gs.refl _) rfl
      simp only [Act.put, List.setIfInBounds_toArray, List.set_cons_succ, List.set_cons_zero]
      refine factWalkR_cons (fun W hW hf K hK => ?_) (fun v4 => ?_)
      · skip
        refine ⟨by kernel_rfl, ?_⟩
        gi_step
        exact hK _ _ (Gs.refl _) rfl
      simp only [Act.put, List.setIfInBounds_toArray, List.set_cons_succ, List.set_cons_zero]
      refine factWalkR_cons (fun W hW hf K hK => ?_) (fun v5 => ?_)
      · skip
        have e4 : v4 = .int .i64 (i : Int) := hf 4 (by omega) (by kernel_rfl)
        subst e4
        have hwi : IntKind.i64.wrap ((i : Int) + 1) = (i : Int) + 1 := IntWalk.i64_in _ HIB.out
        refine ⟨by kernel_rfl, ?_⟩
        gi_step
        exact hK _ _ (Gs.refl _) rfl
      simp only [Act.put, List.setIfInBounds_toArray, List.set_cons_succ, List.set_cons_zero]
      refine factWalkR_cons (fun W hW hf K hK => ?_) (fun v6 => ?_)
      · skip
        refine ⟨by kernel_rfl, ?_⟩
        gi_step
        exact hK _ _ (Gs.refl _) rfl
      simp only [Act.put, List.setIfInBounds_toArray, List.set_cons_succ, List.set_cons_zero]
      refine factWalkR_cons (fun W hW hf K hK => ?_) (fun v7 => ?_)
      · skip
        have e6 : v6 = .slice A acc.length c := hf 6 (by omega) (by kernel_rfl)
        subst e6
        have hcv := conv_str W A acc.length c acc ((HRD.out.drew).fr hW.1 HAG.out)
        refine ⟨by kernel_rfl, ?_⟩
        refine operIn_convert _ rfl _ rfl hcv ?_
        exact hK _ _ (Gs.refl _) rfl
      simp only [Act.put, List.setIfInBounds_toArray, List.set_cons_succ, List.set_cons_zero]
      refine factWalkR_cons (fun W hW hf K hK => ?_) (fun v8 => ?_)
      · skip
        have e7 : v7 = .string (strOf acc) := hf 7 (by omega) (by kernel_rfl)
        subst e7
        refine ⟨by kernel_rfl, ?_⟩
        gi_step
        refine ⟨trivial, ?_⟩
        refine (callsIn_wide.2 (PC.out W)).mono ?_
        rintro e W' ⟨rfl, rfl⟩
        dsimp only
        exact hK _ _ (Gs.refl _) rfl
      simp only [Act.put, List.setIfInBounds_toArray, List.set_cons_succ, List.set_cons_zero]
      refine factWalkR_cons (fun W hW hf K hK => ?_) (fun v9 => ?_)
      · skip
        have e3 : v3 = .agg (tcs 2 acc 0 (at_ : Int)) := hf 3 (by omega) (by kernel_rfl)
        subst e3
        obtain ⟨cs0, bz, hz⟩ := hW.2.1 _ Z0.out.drew rfl
        have hsto := run_storeAt_mid (P := Tryd.prog) W g 0 32 (tcs 2 acc 0 (at_ : Int)) (by have h := bz.there; rw [hz] at h; exact h) S1.out HO1.out
        refine ⟨by kernel_rfl, ?_⟩
        refine operIn_store rfl _ _ _ rfl _ _ rfl rfl hsto ?_
        exact hK undef _ (Gs.store bz hz) (bz.setAll hz.symm)
      simp only [Act.put, List.setIfInBounds_toArray, List.set_cons_succ, List.set_cons_zero]
      refine factWalkR_cons (fun W hW hf K hK => ?_) (fun v10 => ?_)
      · skip
        have e5 : v5 = .int .i64 ((i : Int) + 1) := hf 5 (by omega) (by kernel_rfl)
        subst e5
        refine ⟨by kernel_rfl, ?_⟩
        gi_step
        exact hK _ _ (Gs.refl _) rfl
      simp only [Act.put, List.setIfInBounds_toArray, List.set_cons_succ, List.set_cons_zero]
      refine factWalkR_cons (fun W hW hf K hK => ?_) (fun v11 => ?_)
      · skip
        have e8 : v8 = .bool ok := hf 8 (by omega) (by kernel_rfl)
        subst e8
        refine ⟨by kernel_rfl, ?_⟩
        gi_step
        exact hK _ _ (Gs.refl _) rfl
      simp only [Act.put, List.setIfInBounds_toArray, List.set_cons_succ, List.set_cons_zero]
      refine factWalkR_nil (fun W hW hf => ?_)
      have b9 : Blk W g 32 (tcs 2 acc 0 (at_ : Int)) := hf 9 (by omega)
      have e5 : v10 = .int .i64 ((i : Int) + 1) := hf 10 (by omega)
      have e6 : v11 = .bool ok := hf 11 (by omega)
      subst e5 e6
      have BM := Lib.hid b9
      have FW : Hid (Fr (fun q => q = g) w W) := Lib.hid ((F1.out.drew.mono (fun _ _ h => h.elim)).trans hW.1 (fun _ _ h => h))
      clear hf hW b9
      change wpAnyIn _ _ _ _ _ _ 0 _ _ _
      refine wpAnyIn_done (by kernel_rfl) ?_ _
      try simp only [Act.put, List.setIfInBounds_toArray, List.set_cons_succ, List.set_cons_zero]
      go_wp2_with fail
      refine bodyPost_ret (v := .tuple #[.agg (tcs 2 acc 0 (at_ : Int)), .int .i64 ((i : Int) + 1), .bool ok]) (hres _ W g 32 _ _ _ _ rfl rfl rfl BM.out Tryd.underlying32 rfl S1.out) rfl ?_
      have hg := HG.out
      refine ⟨2, acc, 0, (at_ : Int), i + 1, ok, by rw [show ((i + 1 : Nat) : Int) = (i : Int) + 1 by omega], fun hk => ⟨i - (at_ + 1) + 2, ?_, rfl, by omega⟩, fun hk => ?_, FW.out.mono (fun q hq e => by omega)⟩
      · rw [HYES.out, if_pos (of_decide_eq_true (by rw [HOK.out, hk]))]
      · rw [HYES.out, if_neg (of_decide_eq_false (by rw [HOK.out, hk]))]
    have m1 : ((y : Int) == 34) = false := beq_eq_false_iff_ne.2 (by omega)
    by_cases h92 : y = 92
    case neg =>
      have m2 : ((y : Int) == 92) = false := beq_eq_false_iff_ne.2 (by omega)
      by_cases h32 : 32 ≤ y
      case neg =>
        have n1 : decide ((y : Int) < 32) = true := decide_eq_true (by omega)
        have n1' : decide (y < 32) = true := decide_eq_true (by omega)
        have HNO : Hid (tok (s.drop at_) = none) := Lib.hid (HTD.out _ (TxP.odd (b := d) (by have h1 := htx.out; rw [HDR2.out] at h1; exact h1) (by rw [HPN.out, decide_eq_false h32]; rfl)))
        clear h32 h34 h92
        have S1 := Lib.hid (show (Tryd.prog.info? 32).map (·.size) = some (tcs 0 [] 0 0).size from tsize)
        have HO1 := Lib.hid (show (tcs 0 [] 0 0).all (·.oneCell') = true by simp [tcs, Value.oneCell'])
        go_wp2_with (first
          | (refine wpList_store_blk rfl 32 _ _ rfl g (tcs 0 [] 0 0) rfl rfl Z0.out rfl S1.out HO1.out ?_
             intro W9 q9 f9
             have F9 := Lib.hid f9
             have Q9 := Lib.hid q9
             clear q9 f9))
        refine bodyPost_ret (v := .tuple #[.agg (tcs 0 [] 0 0), .int .i64 (0), .bool false]) (hres _ W9 g 32 _ _ _ _ rfl rfl rfl Q9.out Tryd.underlying32 rfl S1.out) rfl ?_
        have hg := HG.out
        refine ⟨0, [], 0, 0, 0, false, rfl, fun hok => (by cases hok), fun _ => ?_, F1.out.trans F9.out (fun q hq e => by omega)⟩
        exact HNO.out
      case pos =>
      have n1 : decide ((y : Int) < 32) = false := decide_eq_false (by omega)
      have n1' : decide (y < 32) = false := decide_eq_false (by omega)
      by_cases h126 : y ≤ 126
      case neg =>
        have n2 : decide ((126 : Int) < (y : Int)) = true := decide_eq_true (by omega)
        have n2' : decide (126 < y) = true := decide_eq_true (by omega)
        have HNO : Hid (tok (s.drop at_) = none) := Lib.hid (HTD.out _ (TxP.odd (b := d) (by have h1 := htx.out; rw [HDR2.out] at h1; exact h1) (by rw [HPN.out, decide_eq_false h126]; simp)))
        clear h32 h34 h92 h126
        have S1 := Lib.hid (show (Tryd.prog.info? 32).map (·.size) = some (tcs 0 [] 0 0).size from tsize)
        have HO1 := Lib.hid (show (tcs 0 [] 0 0).all (·.oneCell') = true by simp [tcs, Value.oneCell'])
        go_wp2_with (first
          | (refine wpList_store_blk rfl 32 _ _ rfl g (tcs 0 [] 0 0) rfl rfl Z0.out rfl S1.out HO1.out ?_
             intro W9 q9 f9
             have F9 := Lib.hid f9
             have Q9 := Lib.hid q9
             clear q9 f9))
        refine bodyPost_ret (v := .tuple #[.agg (tcs 0 [] 0 0), .int .i64 (0), .bool false]) (hres _ W9 g 32 _ _ _ _ rfl rfl rfl Q9.out Tryd.underlying32 rfl S1.out) rfl ?_
        have hg := HG.out
        refine ⟨0, [], 0, 0, 0, false, rfl, fun hok => (by cases hok), fun _ => ?_, F1.out.trans F9.out (fun q hq e => by omega)⟩
        exact HNO.out
      case pos =>
      have n2 : decide ((126 : Int) < (y : Int)) = false := decide_eq_false (by omega)
      have n2' : decide (126 < y) = false := decide_eq_false (by omega)
      have HS : Hid (TxP (s.drop (at_ + 1)) (acc ++ [d]) (i + 1 - (at_ + 1)) (s.drop (i + 1))) := Lib.hid (by
        have h1 := TxP.one (b := d) (by have h1 := htx.out; rw [HDR2.out] at h1; exact h1) (fun e => h34 (by rw [← HY.out, e]; rfl)) (fun e => h92 (by rw [← HY.out, e]; rfl)) (by rw [HPN.out, decide_eq_true h32, decide_eq_true h126]; rfl)
        rw [show i - (at_ + 1) + 1 = i + 1 - (at_ + 1) by omega] at h1
        exact h1)
      clear h34 h92 h32 h126
      have FA : Hid (Fr (fun _ => False) wr (wr.alloc (.cells #[.int .u8 (y : Int)] 5))) := Lib.hid ((Fr.refl _ wr).alloc _)
      have KO : Hid ((wr.alloc (.cells #[.int .u8 (y : Int)] 5)).ownsRow 0 5 1 (.slice A acc.length c) acc.length (bv acc)) := Lib.hid (own_fr ROW.out FA.out (fun _ _ h => h))
      go_upto_region 14 with (
        at_builtin
        refine wpList_app rfl (.tmp 144) (.tmp 148) _ _ rfl 0 5 b0 _ 1 1 Tryd.underlying56 HB0.out bz0 bz1 bz2 rfl (.slice A acc.length c) acc.length (bv acc) rfl KO.out _ 1 _ rfl (src_b (Blk.new wr _ _)) (by omega) (by unfold maxLen; omega) (Nat.zero_le _) ?_
        intro v7 W7 o7 f7 hn7
        obtain ⟨A7, c7, rfl, -, -⟩ := own_slice o7
        have O7 := Lib.hid o7
        have F7 := Lib.hid f7
        have N7 := Lib.hid hn7
        clear o7 f7 hn7)
      have hag : ∀ q, (Value.slice A acc.length c).ownBlock = some q → ¬ q = g ∧ g < q := fun q hq => HOB.out q hq
      have hsz9 := F1.out.size
      refine abs_world (fun W => Hid (W.ownsRow 0 5 1 (.slice A7 (acc ++ [d]).length c7) (acc ++ [d]).length (bv (acc ++ [d]))) ∧ Hid (∀ q, (Value.slice A7 (acc ++ [d]).length c7).ownBlock = some q → ¬ q = g ∧ g < q) ∧ Hid (Blk W g 32 (tcs 0 [] 0 0)) ∧ Hid (Fr (fun _ => False) w W)) ⟨?_, ?_, (keepB Z0.out FA.out).fr F7.out (fun e => (hag g e).1 rfl), (F1.out.trans FA.out (fun _ _ h => h)).trans F7.out (fun q hq e => by have h1 := (hag q e).2; have h2 := HG.out; omega)⟩ ?_
      · have h7 := O7.out
        rw [List.length_append, bv_append]
        have hxb := HY.out
        show W7.ownsRow 0 5 1 (.slice A7 (acc.length + 1) c7) (acc.length + 1) (bv acc ++ [.int .u8 (d).toNat])
        rw [hxb]
        exact h7
      · intro q hq
        rw [List.length_append] at hq
        rcases N7.out with e | e
        · exact hag q (e ▸ hq)
        · rw [show acc.length + [d].length = acc.length + 1 from rfl, e] at hq
          injection hq with hq
          have h1 := Z0.out.lt
          have h3 := FA.out.size
          rw [World.size_alloc] at hq
          exact ⟨by omega, by omega⟩
      clear KO O7 F7 N7 hag ROW HOB Z0 FA
      rintro W8 ⟨ROW, HOB, Z0, F8⟩
      clear F1
      have hlen : (acc ++ [d]).length = acc.length + 1 := by simp
      go_wp2_with fail
      go_roundw
      case rel => exact ⟨A7, c7, i + 1, acc ++ [d], by omega, by omega, by rw [hlen]; omega, by rw [hlen], by go_num, HS.out, ROW.out, HOB.out, Z0.out, F8.out⟩
      case measure => simp [intOf]; omega
    case pos =>
      have HB : Hid (d = 92) := Lib.hid (UInt8.toNat_inj.1 (by rw [HY.out, h92]; rfl))
      subst h92
      clear h34
      by_cases hlt2 : i + 1 < s.length
      case neg =>
        have e1 : decide ((s.length : Int) ≤ (i : Int) + 1) = true := decide_eq_true (by omega)
        have e1' : decide (s.length ≤ i + 1) = true := decide_eq_true (by omega)
        have HNO : Hid (tok (s.drop at_) = none) := Lib.hid (HTD.out _ (htx.out.none_ (by rw [HDR2.out, HB.out, List.drop_eq_nil_of_le (show s.length ≤ i + 1 by omega)]; rfl)))
        have S1 := Lib.hid (show (Tryd.prog.info? 32).map (·.size) = some (tcs 0 [] 0 0).size from tsize)
        have HO1 := Lib.hid (show (tcs 0 [] 0 0).all (·.oneCell') = true by simp [tcs, Value.oneCell'])
        go_wp2_with (first
          | (refine wpList_store_blk rfl 32 _ _ rfl g (tcs 0 [] 0 0) rfl rfl Z0.out rfl S1.out HO1.out ?_
             intro W9 q9 f9
             have F9 := Lib.hid f9
             have Q9 := Lib.hid q9
             clear q9 f9))
        refine bodyPost_ret (v := .tuple #[.agg (tcs 0 [] 0 0), .int .i64 (0), .bool false]) (hres _ W9 g 32 _ _ _ _ rfl rfl rfl Q9.out Tryd.underlying32 rfl S1.out) rfl ?_
        have hg := HG.out
        refine ⟨0, [], 0, 0, 0, false, rfl, fun hok => (by cases hok), fun _ => ?_, F1.out.trans F9.out (fun q hq e => by omega)⟩
        exact HNO.out
      have e1 : decide ((s.length : Int) ≤ (i : Int) + 1) = false := decide_eq_false (by omega)
      have e1' : decide (s.length ≤ i + 1) = false := decide_eq_false (by omega)
      have hiz : ∀ W, (Instr.index 9 (.string (strOf s)) (.int .i64 ((i : Int) + 1))).run Tryd.prog W = .ok (.int .u8 ((s[i + 1]).toNat : Nat)) W := fun W => run_index_str W s (i + 1) hlt2
      have hdr3 := List.drop_eq_getElem_cons hlt2
      have hcl3 := u8_lt s[i + 1]
      obtain ⟨f, hf⟩ : ∃ d, s[i + 1] = d := ⟨_, rfl⟩
      rw [hf] at hiz hdr3 hcl3
      obtain ⟨z, hz⟩ : ∃ y, f.toNat = y := ⟨_, rfl⟩
      rw [hz] at hiz hcl3
      have HDR3 : Hid (s.drop i = 92 :: f :: s.drop (i + 2)) := Lib.hid (by rw [HDR2.out, HB.out, hdr3])
      have HZ := Lib.hid hz
      clear hf hdr3 hz
      by_cases hq : z = 34 ∨ z = 92
      case neg =>
        have m3 : ((z : Int) == 34) = false := beq_eq_false_iff_ne.2 (fun e => hq (.inl (by omega)))
        have m3' : ((z : Int) != 34) = true := bne_iff_ne.2 (fun e => hq (.inl (by omega)))
        have m4 : ((z : Int) == 92) = false := beq_eq_false_iff_ne.2 (fun e => hq (.inr (by omega)))
        have m4' : ((z : Int) != 92) = true := bne_iff_ne.2 (fun e => hq (.inr (by omega)))
        have HNO : Hid (tok (s.drop at_) = none) := Lib.hid (HTD.out _ (htx.out.none_ (by rw [HDR3.out]; exact txt_bn f _ (fun e => hq (by rcases e with rfl | rfl; exact .inl HZ.out.symm; exact .inr HZ.out.symm)))))
        clear hq
        have S1 := Lib.hid (show (Tryd.prog.info? 32).map (·.size) = some (tcs 0 [] 0 0).size from tsize)
        have HO1 := Lib.hid (show (tcs 0 [] 0 0).all (·.oneCell') = true by simp [tcs, Value.oneCell'])
        go_wp2_with (first
          | (refine wpList_store_blk rfl 32 _ _ rfl g (tcs 0 [] 0 0) rfl rfl Z0.out rfl S1.out HO1.out ?_
             intro W9 q9 f9
             have F9 := Lib.hid f9
             have Q9 := Lib.hid q9
             clear q9 f9))
        refine bodyPost_ret (v := .tuple #[.agg (tcs 0 [] 0 0), .int .i64 (0), .bool false]) (hres _ W9 g 32 _ _ _ _ rfl rfl rfl Q9.out Tryd.underlying32 rfl S1.out) rfl ?_
        have hg := HG.out
        refine ⟨0, [], 0, 0, 0, false, rfl, fun hok => (by cases hok), fun _ => ?_, F1.out.trans F9.out (fun q hq e => by omega)⟩
        exact HNO.out
      case pos =>
        have HS : Hid (TxP (s.drop (at_ + 1)) (acc ++ [f]) (i + 2 - (at_ + 1)) (s.drop (i + 2))) := Lib.hid (by
          have h1 := TxP.two (b := f) (by have h1 := htx.out; rw [HDR3.out] at h1; exact h1) (by
            rcases hq with e | e
            · exact .inl (UInt8.toNat_inj.1 (by rw [HZ.out, e]; rfl))
            · exact .inr (UInt8.toNat_inj.1 (by rw [HZ.out, e]; rfl)))
          rw [show i - (at_ + 1) + 2 = i + 2 - (at_ + 1) by omega] at h1
          exact h1)
        rcases hq with rfl | rfl
        · skip
          have FA : Hid (Fr (fun _ => False) wr (wr.alloc (.cells #[.int .u8 (34 : Int)] 5))) := Lib.hid ((Fr.refl _ wr).alloc _)
          have KO : Hid ((wr.alloc (.cells #[.int .u8 (34 : Int)] 5)).ownsRow 0 5 1 (.slice A acc.length c) acc.length (bv acc)) := Lib.hid (own_fr ROW.out FA.out (fun _ _ h => h))
          go_upto_region 14 with (
            at_builtin
            refine wpList_app rfl (.tmp 144) (.tmp 148) _ _ rfl 0 5 b0 _ 1 1 Tryd.underlying56 HB0.out bz0 bz1 bz2 rfl (.slice A acc.length c) acc.length (bv acc) rfl KO.out _ 1 _ rfl (src_b (Blk.new wr _ _)) (by omega) (by unfold maxLen; omega) (Nat.zero_le _) ?_
            intro v7 W7 o7 f7 hn7
            obtain ⟨A7, c7, rfl, -, -⟩ := own_slice o7
            have O7 := Lib.hid o7
            have F7 := Lib.hid f7
            have N7 := Lib.hid hn7
            clear o7 f7 hn7)
          have hag : ∀ q, (Value.slice A acc.length c).ownBlock = some q → ¬ q = g ∧ g < q := fun q hq => HOB.out q hq
          have hsz9 := F1.out.size
          refine abs_world (fun W => Hid (W.ownsRow 0 5 1 (.slice A7 (acc ++ [f]).length c7) (acc ++ [f]).length (bv (acc ++ [f]))) ∧ Hid (∀ q, (Value.slice A7 (acc ++ [f]).length c7).ownBlock = some q → ¬ q = g ∧ g < q) ∧ Hid (Blk W g 32 (tcs 0 [] 0 0)) ∧ Hid (Fr (fun _ => False) w W)) ⟨?_, ?_, (keepB Z0.out FA.out).fr F7.out (fun e => (hag g e).1 rfl), (F1.out.trans FA.out (fun _ _ h => h)).trans F7.out (fun q hq e => by have h1 := (hag q e).2; have h2 := HG.out; omega)⟩ ?_
          · have h7 := O7.out
            rw [List.length_append, bv_append]
            have hxb := HZ.out
            show W7.ownsRow 0 5 1 (.slice A7 (acc.length + 1) c7) (acc.length + 1) (bv acc ++ [.int .u8 (f).toNat])
            rw [hxb]
            exact h7
          · intro q hq
            rw [List.length_append] at hq
            rcases N7.out with e | e
            · exact hag q (e ▸ hq)
            · rw [show acc.length + [f].length = acc.length + 1 from rfl, e] at hq
              injection hq with hq
              have h1 := Z0.out.lt
              have h3 := FA.out.size
              rw [World.size_alloc] at hq
              exact ⟨by omega, by omega⟩
          clear KO O7 F7 N7 hag ROW HOB Z0 FA
          rintro W8 ⟨ROW, HOB, Z0, F8⟩
          clear F1
          have hlen : (acc ++ [f]).length = acc.length + 1 := by simp
          go_wp2_with fail
          go_roundw
          case rel => exact ⟨A7, c7, i + 2, acc ++ [f], by omega, by omega, by rw [hlen]; omega, by rw [hlen], by go_num, HS.out, ROW.out, HOB.out, Z0.out, F8.out⟩
          case measure => simp [intOf]; omega
        · skip
          have FA : Hid (Fr (fun _ => False) wr (wr.alloc (.cells #[.int .u8 (92 : Int)] 5))) := Lib.hid ((Fr.refl _ wr).alloc _)
          have KO : Hid ((wr.alloc (.cells #[.int .u8 (92 : Int)] 5)).ownsRow 0 5 1 (.slice A acc.length c) acc.length (bv acc)) := Lib.hid (own_fr ROW.out FA.out (fun _ _ h => h))
          go_upto_region 14 with (
            at_builtin
            refine wpList_app rfl (.tmp 144) (.tmp 148) _ _ rfl 0 5 b0 _ 1 1 Tryd.underlying56 HB0.out bz0 bz1 bz2 rfl (.slice A acc.length c) acc.length (bv acc) rfl KO.out _ 1 _ rfl (src_b (Blk.new wr _ _)) (by omega) (by unfold maxLen; omega) (Nat.zero_le _) ?_
            intro v7 W7 o7 f7 hn7
            obtain ⟨A7, c7, rfl, -, -⟩ := own_slice o7
            have O7 := Lib.hid o7
            have F7 := Lib.hid f7
            have N7 := Lib.hid hn7
            clear o7 f7 hn7)
          have hag : ∀ q, (Value.slice A acc.length c).ownBlock = some q → ¬ q = g ∧ g < q := fun q hq => HOB.out q hq
          have hsz9 := F1.out.size
          refine abs_world (fun W => Hid (W.ownsRow 0 5 1 (.slice A7 (acc ++ [f]).length c7) (acc ++ [f]).length (bv (acc ++ [f]))) ∧ Hid (∀ q, (Value.slice A7 (acc ++ [f]).length c7).ownBlock = some q → ¬ q = g ∧ g < q) ∧ Hid (Blk W g 32 (tcs 0 [] 0 0)) ∧ Hid (Fr (fun _ => False) w W)) ⟨?_, ?_, (keepB Z0.out FA.out).fr F7.out (fun e => (hag g e).1 rfl), (F1.out.trans FA.out (fun _ _ h => h)).trans F7.out (fun q hq e => by have h1 := (hag q e).2; have h2 := HG.out; omega)⟩ ?_
          · have h7 := O7.out
            rw [List.length_append, bv_append]
            have hxb := HZ.out
            show W7.ownsRow 0 5 1 (.slice A7 (acc.length + 1) c7) (acc.length + 1) (bv acc ++ [.int .u8 (f).toNat])
            rw [hxb]
            exact h7
          · intro q hq
            rw [List.length_append] at hq
            rcases N7.out with e | e
            · exact hag q (e ▸ hq)
            · rw [show acc.length + [f].length = acc.length + 1 from rfl, e] at hq
              injection hq with hq
              have h1 := Z0.out.lt
              have h3 := FA.out.size
              rw [World.size_alloc] at hq
              exact ⟨by omega, by omega⟩
          clear KO O7 F7 N7 hag ROW HOB Z0 FA
          rintro W8 ⟨ROW, HOB, Z0, F8⟩
          clear F1
          have hlen : (acc ++ [f]).length = acc.length + 1 := by simp
          go_wp2_with fail
          go_roundw
          case rel => exact ⟨A7, c7, i + 2, acc ++ [f], by omega, by omega, by rw [hlen]; omega, by rw [hlen], by go_num, HS.out, ROW.out, HOB.out, Z0.out, F8.out⟩
          case measure => simp [intOf]; omega
set_option maxRecDepth 100000 in
set_option maxHeartbeats 8000000 in
theorem rtok_mark (w : World) (s : List UInt8) (at_ : Nat) (hs : s.length ≤ 1000000) (h : at_ < s.length) (hk : ltr s[at_] = false ∧ (dgt s[at_] || s[at_] == 45) = false ∧ s[at_] ≠ 34) : Calls Tryd.prog 22 #[.string (strOf s), .int .i64 (at_ : Int)] w (RTokQ s at_ w) := by
  have hres := results_tii (P := Tryd.prog) (fn := Tryd.f22) (p := 4) (q := 5) (r := 6) (ty := 32) Tryd.results22
  have hsz := strOf_size s
  have hix := fun W => run_index_str W s at_ h
  have hdr := List.drop_eq_getElem_cons h
  have hcl := u8_lt s[at_]
  obtain ⟨b, hb⟩ : ∃ b, s[at_] = b := ⟨_, rfl⟩
  rw [hb] at hix hdr hcl hk
  have LT := Lib.hid (fun W => rletter_c W b.toNat hcl)
  have DT := Lib.hid (fun W => rdigit_c W b.toNat hcl)
  have hln := ltr_n b
  have hdn := dgt_n b
  have h45 := eq45 b
  obtain ⟨x, hx⟩ : ∃ x, b.toNat = x := ⟨_, rfl⟩
  rw [hx] at hix hcl LT DT hln hdn h45
  have HX := Lib.hid hx
  have HDR := Lib.hid hdr
  have HLN := Lib.hid hln
  have HDN := Lib.hid hdn
  have H45 := Lib.hid h45
  clear hb hx hdr hln hdn h45
  obtain ⟨g, hg⟩ : ∃ g, w.heap.size = g := ⟨_, rfl⟩
  have HG := Lib.hid hg
  clear hg
  obtain ⟨hk1, hk2, hk3⟩ := hk
  have HTM := Lib.hid (tok_marks (r := s.drop (at_ + 1)) hk1 hk2 hk3)
  rw [Bool.or_eq_false_iff] at hk2
  have hl : ltrN x = false := by rw [← HLN.out]; exact hk1
  have hd : dgtN x = false := by rw [← HDN.out]; exact hk2.1
  have hn45 : ¬ x = 45 := fun e => by have h1 := hk2.2; rw [H45.out, decide_eq_true e] at h1; cases h1
  have hn34 : ¬ x = 34 := fun e => hk3 (UInt8.toNat_inj.1 (by rw [HX.out, e]; rfl))
  have n45 : ((x : Int) == 45) = false := beq_eq_false_iff_ne.2 (by omega)
  have n34 : ((x : Int) == 34) = false := beq_eq_false_iff_ne.2 (by omega)
  rw [hl] at LT
  rw [hd] at DT
  clear hk1 hk2 hk3 hl hd hn45 hn34
  have hsl1 : ∀ W, (Instr.slice 9 (.string (strOf s)) (some (.int .i64 (at_ : Int))) (some (.int .i64 ((at_ : Int) + 1))) none).run Tryd.prog W = .ok (.string (strOf [b])) W := fun W => by
    have h1 := run_sub W s at_ (at_ + 1) (by omega) (by omega)
    rw [show at_ + 1 - at_ = 1 by omega, HDR.out] at h1
    exact h1
  have MC := Lib.hid (fun W => rMark_c W [b])
  obtain ⟨m1, hm1⟩ : ∃ m1, marksL.contains [b] = m1 := ⟨_, rfl⟩
  rw [hm1] at MC HTM
  clear hm1
  go_enter Tryd.func22, Tryd.ntmps22
  go_upto_region 1 with fail
  refine abs_world (fun W => Hid (Blk W w.heap.size 32 (tcs 0 [] 0 0)) ∧ Hid (Fr (fun _ => False) w W)) ⟨Blk.new w _ _, (Fr.refl _ w).alloc _⟩ ?_
  rintro W1 ⟨Z0, F1⟩
  rw [HG.out] at Z0 ⊢
  cases m1 with
  | true =>
    have HT : Hid (tok (s.drop at_) = some (4, [b], 0, 1)) := Lib.hid (by rw [HDR.out]; exact HTM.out.1 rfl)
    have S1 := Lib.hid (show (Tryd.prog.info? 32).map (·.size) = some (tcs 4 [b] 0 (at_ : Int)).size from tsize)
    have HO1 := Lib.hid (show (tcs 4 [b] 0 (at_ : Int)).all (·.oneCell') = true by simp [tcs, Value.oneCell'])

    go_wp2_with (first
      | (go_at_call 42
         refine (LT.out _).mono ?_
         rintro e w' ⟨rfl, rfl⟩)
      | (go_at_call 43
         refine (DT.out _).mono ?_
         rintro e w' ⟨rfl, rfl⟩)
      | (go_at_call 30
         refine (MC.out _).mono ?_
         rintro e w' ⟨rfl, rfl⟩)
      | (refine wpList_store_blk rfl 32 _ _ rfl g (tcs 4 [b] 0 (at_ : Int)) rfl rfl Z0.out rfl S1.out HO1.out ?_
         intro W9 q9 f9
         have F9 := Lib.hid f9
         have Q9 := Lib.hid q9
         clear q9 f9))
    refine bodyPost_ret (v := .tuple #[.agg (tcs 4 [b] 0 (at_ : Int)), .int .i64 ((at_ : Int) + 1), .bool true]) (hres _ W9 g 32 _ _ _ _ rfl rfl rfl Q9.out Tryd.underlying32 rfl S1.out) rfl ?_
    have hg := HG.out
    exact ⟨4, [b], 0, (at_ : Int), at_ + 1, true, by rw [show ((at_ + 1 : Nat) : Int) = (at_ : Int) + 1 by omega], fun _ => ⟨1, HT.out, rfl, rfl⟩, fun hok => (by cases hok), F1.out.trans F9.out (fun q hq e => by omega)⟩
  | false =>
    by_cases hlt2 : at_ + 1 < s.length
    case neg =>
      have e1 : decide ((at_ : Int) + 1 < (s.length : Int)) = false := decide_eq_false (by omega)
      have e1' : decide (at_ + 1 < s.length) = false := decide_eq_false hlt2
      have HNO : Hid (tok (s.drop at_) = none) := Lib.hid (by rw [HDR.out]; exact HTM.out.2.2 rfl (fun d r' hr => by rw [List.drop_eq_nil_of_le (by omega)] at hr; cases hr))
      have S1 := Lib.hid (show (Tryd.prog.info? 32).map (·.size) = some (tcs 0 [] 0 0).size from tsize)
      have HO1 := Lib.hid (show (tcs 0 [] 0 0).all (·.oneCell') = true by simp [tcs, Value.oneCell'])
      go_wp2_with (first
        | (go_at_call 42
           refine (LT.out _).mono ?_
           rintro e w' ⟨rfl, rfl⟩)
        | (go_at_call 43
           refine (DT.out _).mono ?_
           rintro e w' ⟨rfl, rfl⟩)
        | (go_at_call 30
           refine (MC.out _).mono ?_
           rintro e w' ⟨rfl, rfl⟩)
        | (refine wpList_store_blk rfl 32 _ _ rfl g (tcs 0 [] 0 0) rfl rfl Z0.out rfl S1.out HO1.out ?_
           intro W9 q9 f9
           have F9 := Lib.hid f9
           have Q9 := Lib.hid q9
           clear q9 f9))
      refine bodyPost_ret (v := .tuple #[.agg (tcs 0 [] 0 0), .int .i64 (0), .bool false]) (hres _ W9 g 32 _ _ _ _ rfl rfl rfl Q9.out Tryd.underlying32 rfl S1.out) rfl ?_
      have hg := HG.out
      refine ⟨0, [], 0, 0, 0, false, rfl, fun hok => (by cases hok), fun _ => ?_, F1.out.trans F9.out (fun q hq e => by omega)⟩
      exact HNO.out
    case pos =>
    have e1 : decide ((at_ : Int) + 1 < (s.length : Int)) = true := decide_eq_true (by omega)
    have e1' : decide (at_ + 1 < s.length) = true := decide_eq_true hlt2
    have hdr3 := List.drop_eq_getElem_cons hlt2
    obtain ⟨d, hf⟩ : ∃ d, s[at_ + 1] = d := ⟨_, rfl⟩
    rw [hf] at hdr3
    have hsl2 : ∀ W, (Instr.slice 9 (.string (strOf s)) (some (.int .i64 (at_ : Int))) (some (.int .i64 ((at_ : Int) + 2))) none).run Tryd.prog W = .ok (.string (strOf [b, d])) W := fun W => by
      have h1 := run_sub W s at_ (at_ + 2) (by omega) (by omega)
      rw [show at_ + 2 - at_ = 2 by omega, HDR.out, hdr3] at h1
      exact h1
    have HD3 := Lib.hid hdr3
    have MD := Lib.hid (fun W => rMark_c W [b, d])
    obtain ⟨m2, hm2⟩ : ∃ m2, marksL.contains [b, d] = m2 := ⟨_, rfl⟩
    rw [hm2] at MD
    have HM2 := Lib.hid hm2
    clear hm2 hf hdr3
    cases m2 with
    | true =>
      have HT : Hid (tok (s.drop at_) = some (4, [b, d], 0, 2)) := Lib.hid (by rw [HDR.out]; exact HTM.out.2.1 rfl d _ HD3.out HM2.out)
      have S1 := Lib.hid (show (Tryd.prog.info? 32).map (·.size) = some (tcs 4 [b, d] 0 (at_ : Int)).size from tsize)
      have HO1 := Lib.hid (show (tcs 4 [b, d] 0 (at_ : Int)).all (·.oneCell') = true by simp [tcs, Value.oneCell'])

      go_upto_region 27 with (first
        | (go_at_call 42
           refine (LT.out _).mono ?_
           rintro e w' ⟨rfl, rfl⟩)
        | (go_at_call 43
           refine (DT.out _).mono ?_
           rintro e w' ⟨rfl, rfl⟩)
        | (go_at_call 30
           refine (MC.out _).mono ?_
           rintro e w' ⟨rfl, rfl⟩))
      go_wp2_with (first
        | (go_at_call 30
           refine (MD.out _).mono ?_
           rintro e w' ⟨rfl, rfl⟩)
        | (refine wpList_store_blk rfl 32 _ _ rfl g (tcs 4 [b, d] 0 (at_ : Int)) rfl rfl Z0.out rfl S1.out HO1.out ?_
           intro W9 q9 f9
           have F9 := Lib.hid f9
           have Q9 := Lib.hid q9
           clear q9 f9))
      refine bodyPost_ret (v := .tuple #[.agg (tcs 4 [b, d] 0 (at_ : Int)), .int .i64 ((at_ : Int) + 2), .bool true]) (hres _ W9 g 32 _ _ _ _ rfl rfl rfl Q9.out Tryd.underlying32 rfl S1.out) rfl ?_
      have hg := HG.out
      exact ⟨4, [b, d], 0, (at_ : Int), at_ + 2, true, by rw [show ((at_ + 2 : Nat) : Int) = (at_ : Int) + 2 by omega], fun _ => ⟨2, HT.out, rfl, rfl⟩, fun hok => (by cases hok), F1.out.trans F9.out (fun q hq e => by omega)⟩
    | false =>
      have HNO : Hid (tok (s.drop at_) = none) := Lib.hid (by rw [HDR.out]; exact HTM.out.2.2 rfl (fun d' r' hr => by rw [HD3.out] at hr; injection hr with hr _; rw [← hr]; exact HM2.out))
      have S1 := Lib.hid (show (Tryd.prog.info? 32).map (·.size) = some (tcs 0 [] 0 0).size from tsize)
      have HO1 := Lib.hid (show (tcs 0 [] 0 0).all (·.oneCell') = true by simp [tcs, Value.oneCell'])
      go_upto_region 27 with (first
        | (go_at_call 42
           refine (LT.out _).mono ?_
           rintro e w' ⟨rfl, rfl⟩)
        | (go_at_call 43
           refine (DT.out _).mono ?_
           rintro e w' ⟨rfl, rfl⟩)
        | (go_at_call 30
           refine (MC.out _).mono ?_
           rintro e w' ⟨rfl, rfl⟩))
      go_wp2_with (first
        | (go_at_call 30
           refine (MD.out _).mono ?_
           rintro e w' ⟨rfl, rfl⟩)
        | (refine wpList_store_blk rfl 32 _ _ rfl g (tcs 0 [] 0 0) rfl rfl Z0.out rfl S1.out HO1.out ?_
           intro W9 q9 f9
           have F9 := Lib.hid f9
           have Q9 := Lib.hid q9
           clear q9 f9))
      refine bodyPost_ret (v := .tuple #[.agg (tcs 0 [] 0 0), .int .i64 (0), .bool false]) (hres _ W9 g 32 _ _ _ _ rfl rfl rfl Q9.out Tryd.underlying32 rfl S1.out) rfl ?_
      have hg := HG.out
      refine ⟨0, [], 0, 0, 0, false, rfl, fun hok => (by cases hok), fun _ => ?_, F1.out.trans F9.out (fun q hq e => by omega)⟩
      exact HNO.out
theorem rtoken_c (w : World) (s : List UInt8) (at_ : Nat) (hs : s.length ≤ 1000000) (h : at_ < s.length) : Calls Tryd.prog 22 #[.string (strOf s), .int .i64 (at_ : Int)] w (RTokQ s at_ w) := by
  cases h1 : ltr s[at_] with
  | true => exact rtok_word w s at_ hs h h1
  | false =>
    cases h2 : dgt s[at_] with
    | true => exact rtok_dig w s at_ hs h h2
    | false =>
      by_cases h3 : s[at_] = 45
      · exact rtok_minus w s at_ hs h h3
      · by_cases h4 : s[at_] = 34
        · exact rtok_text w s at_ hs h h4
        · exact rtok_mark w s at_ hs h ⟨h1, by rw [h2, Bool.false_or]; simpa using h3, h4⟩
end Go.Proofs.YtimopkmlcjdgfaaDoor
