/-
  CONTRACT of the law LexPrints. Written by gen_lpp.py.
-/
import Derived.Test.YtimopkmlcjdgfaaDoorRpn
import Derived.Test.YtimopkmlcjdgfaaDoorRsm
import Derived.Test.YtimopkmlcjdgfaaDoorLcs
namespace Go.Proofs.YtimopkmlcjdgfaaDoor
set_option linter.unusedSimpArgs false
set_option linter.unusedVariables false
open Go Go.RowKit Go.Shelf

theorem prt_tup (l : List Tk) : ∃ (vs : ByteArray) (er : Int), ∀ (w : World) (e : Ending) (w' : World), PrtQ l w e w' → e = .returned (.tuple #[.string vs, .int .i64 er]) ∧ Fr (fun _ => False) w w' := by
  cases hp : prt l with
  | none => exact ⟨_, _, fun w e w' h => by unfold PrtQ at h; rw [hp] at h; exact h⟩
  | some p => exact ⟨_, _, fun w e w' h => by unfold PrtQ at h; rw [hp] at h; exact h⟩
def lpX (b1 of1 N c1 y9 : Nat) (k n a : Int) (t : List UInt8) (z : Bool) (i : Nat) (v : Value) (W : World) : Prop := match i with
  | 0 => v = .slice (some ⟨b1, of1, none⟩) N c1
  | 1 => v = .int .i64 (y9 : Int)
  | 2 => v = .pointer (some ⟨b1, of1 + y9 * 4, none⟩)
  | 3 => v = .agg (tcs k t n a)
  | 4 => v = .bool z
  | 5 => v = .slice (some ⟨b1, of1, none⟩) N c1
  | 6 => v = .int .i64 (y9 : Int)
  | 7 => v = .pointer (some ⟨b1, of1 + y9 * 4, none⟩)
  | 8 => v = .agg (tcs k t n a)
  | 9 => v = .bool z
  | 10 => v = .bool false
  | _ => True
theorem lpX_far {b1 of1 N c1 y9 : Nat} {k n a : Int} {t : List UInt8} {z : Bool} {i : Nat} {v : Value} {W W' : World} (hg : Fr (fun _ => False) W W') (hx : lpX b1 of1 N c1 y9 k n a t z i v W) : lpX b1 of1 N c1 y9 k n a t z i v W' := by
  match i with
  | 0 => exact hx
  | 1 => exact hx
  | 2 => exact hx
  | 3 => exact hx
  | 4 => exact hx
  | 5 => exact hx
  | 6 => exact hx
  | 7 => exact hx
  | 8 => exact hx
  | 9 => exact hx
  | 10 => exact hx
  | (n + 11) => exact hx
set_option maxRecDepth 100000 in
set_option maxHeartbeats 1000000 in
theorem lexPrints_c (w : World) {A B : Option Addr} {c d : Nat} {l m : List Tk} (hp : RdT w A l) (hq : RdT w B m) (hl : l.length ≤ 140737488355328) (hm : m.length ≤ 140737488355328) (ht : ∀ x ∈ l, x.t.length ≤ 140737488355328) (ht2 : ∀ x ∈ m, x.t.length ≤ 140737488355328) (hn : ∀ x ∈ l, -9223372036854775808 ≤ x.n ∧ x.n ≤ 9223372036854775807) (hL : LaidOk w) :
    Calls Tryd.prog 4 #[.slice A l.length c, .slice B m.length d] w fun e w' => e = .returned (.bool true) ∧ Fr (fun _ => False) w w' := by
  have HL := Lib.hid hL
  have HP := Lib.hid hp
  have HQ := Lib.hid hq
  obtain ⟨lw, hlw⟩ : ∃ q, wgh l.length l = q := ⟨_, rfl⟩
  obtain ⟨mw, hmw⟩ : ∃ q, wgh m.length m = q := ⟨_, rfl⟩
  have WG := Lib.hid (weigh_c (c := c) w hp hl ht)
  have WH := Lib.hid (weigh_c (c := d) w hq hm ht2)
  rw [hlw] at WG
  rw [hmw] at WH
  have HLW := Lib.hid hlw
  have HMW := Lib.hid hmw
  have HT := Lib.hid ht
  have HN := Lib.hid hn
  obtain ⟨ll, hll⟩ : ∃ q, l.length = q := ⟨_, rfl⟩
  clear hL hp hq hlw hmw ht ht2 hn hll ll
  have AWK : ∀ W, LaidOk W → Calls Tryd.prog 8 #[] W fun e w' => e = .returned (.bool true) ∧ Fr (fun _ => False) W w' := awake_c
  have AW := Lib.hid AWK
  clear AWK
  by_cases hbig : 20000 < lw
  case pos =>
    have d1 : decide ((20000 : Int) < (lw : Int)) = true := decide_eq_true (by omega)
    have d1' : decide ((lw : Int) > 20000) = true := decide_eq_true (by omega)
    go_enter Tryd.func4, Tryd.ntmps4
    go_wp2_with (first
      | (go_at_call 12
         refine WG.out.mono ?_
         rintro e W1 ⟨rfl, rfl⟩)
      | (go_at_call 8
         refine (AW.out w HL.out).mono ?_
         rintro e W1 ⟨rfl, f1⟩
         have F1 := Lib.hid f1
         clear f1))
    go_ret
    exact ⟨rfl, F1.out⟩
  case neg =>
  have d1 : decide ((20000 : Int) < (lw : Int)) = false := decide_eq_false (by omega)
  have d1' : decide ((lw : Int) > 20000) = false := decide_eq_false (by omega)
  by_cases hbig2 : 20000 < mw
  case pos =>
    have d2 : decide ((20000 : Int) < (mw : Int)) = true := decide_eq_true (by omega)
    have d2' : decide ((mw : Int) > 20000) = true := decide_eq_true (by omega)
    go_enter Tryd.func4, Tryd.ntmps4
    go_wp2_with (first
      | (go_at_call 12
         have WTWO := WDONE
         refine WH.out.mono ?_
         rintro e W1 ⟨rfl, rfl⟩)
      | (go_at_call 12
         refine WG.out.mono ?_
         rintro e W1 ⟨rfl, rfl⟩
         have WDONE := True.intro)
      | (go_at_call 8
         refine (AW.out w HL.out).mono ?_
         rintro e W1 ⟨rfl, f1⟩
         have F1 := Lib.hid f1
         clear f1))
    go_ret
    exact ⟨rfl, F1.out⟩
  case neg =>
  have d2 : decide ((20000 : Int) < (mw : Int)) = false := decide_eq_false (by omega)
  have d2' : decide ((mw : Int) > 20000) = false := decide_eq_false (by omega)
  have hl2 : l.length ≤ 20000 := by have := wgh_ge l l.length; rw [HLW.out] at this; omega
  have hm2 : m.length ≤ 20000 := by have := wgh_ge m m.length; rw [HMW.out] at this; omega
  have HSM : Hid (∀ x ∈ l, x.t.length ≤ 20000) := Lib.hid (fun x hx => wgh_small l l.length (by rw [HLW.out]; omega) x hx)
  have HOK : Hid (∀ x ∈ l, TkOk x) := Lib.hid (fun x hx => ⟨by have := HSM.out x hx; omega, (HN.out x hx).1, (HN.out x hx).2⟩)
  obtain ⟨j0, hj0, jz0', jz1', jz2'⟩ := info_parts t_info
  have HJ0 := Lib.hid hj0
  have ZR := Lib.hid (own_emptyT w)
  have FA := Lib.hid ((Fr.refl (fun _ => False) w).alloc (.cells #[] 32))
  have SA := Lib.hid (src_tk (c := c) (HP.out.far FA.out))
  clear HLW HMW HT HN hj0
  go_enter Tryd.func4, Tryd.ntmps4
  go_upto_region 3 with (first
    | (go_at_call 12
       have WTWO := WDONE
       refine WH.out.mono ?_
       rintro e W1 ⟨rfl, rfl⟩)
    | (go_at_call 12
       refine WG.out.mono ?_
       rintro e W1 ⟨rfl, rfl⟩
       have WDONE := True.intro))
  clear WG WH
  go_upto_region 4 with (
    at_builtin
    refine wpList_app rfl (.tmp 20) (.tmp 21) _ _ rfl 0 32 j0 _ 4 40 Tryd.underlying23 HJ0.out jz0' jz1' jz2' rfl (.slice (some ⟨w.heap.size, 0, none⟩) 0 0) 0 [] rfl ZR.out (.slice A l.length c) l.length (flatT l) rfl SA.out (by omega) (by unfold maxLen; omega) (Nat.zero_le _) ?_
    intro v7 W7 o7 f7 hn7
    obtain ⟨A7, c7, rfl, -, -⟩ := own_slice o7
    have O7 : Hid (W7.ownsRow 0 32 4 (.slice A7 l.length c7) l.length (flatT l)) := Lib.hid (by have h := o7; rw [Nat.zero_add, List.nil_append] at h; exact h)
    have F7 : Hid (Fr (fun _ => False) w W7) := Lib.hid (FA.out.trans f7 (fun q hq e => by have e' : some w.heap.size = some q := e; injection e' with e'; omega))
    clear o7 f7 hn7)
  have R7 : Hid (RdT W7 A7 l) := Lib.hid (RdT.of_own O7.out)
  have P7 := Lib.hid (HP.out.far F7.out)
  have Q7 := Lib.hid (HQ.out.far F7.out)
  have HL7 := Lib.hid (HL.out.far F7.out)
  clear ZR FA SA O7 HP HQ HL
  try simp only [Nat.zero_add]
  go_wp2_with fail
  go_loopw [6] (fun iv W => ∃ i : Nat, i ≤ l.length ∧ iv = .int .i64 (i : Int) ∧ Hid (Fr (fun _ => False) W7 W)) (fun iv _ => l.length - (intOf iv).toNat)
  case atStart => exact ⟨0, Nat.zero_le _, rfl, Fr.refl _ _⟩
  case round =>
    obtain ⟨i, hi, rfl, FR⟩ := hrel
    have HLr := Lib.hid (HL7.out.far FR.out)
    by_cases hlt : i < l.length
    case pos =>
      have hdl : decide ((i : Int) < (l.length : Int)) = true := decide_eq_true (by omega)
      have hdl' : decide (i < l.length) = true := decide_eq_true hlt
      have q1 : (0 : Int) ≤ (i : Int) := by omega
      have q2 : (i : Int) < (l.length : Int) := by omega
      obtain ⟨b1, of1, hA1, hrg⟩ := (P7.out.far FR.out).at_ hlt
      subst hA1
      have hxok := HOK.out _ (List.getElem_mem hlt)
      obtain ⟨x, hx⟩ : ∃ x, l[i] = x := ⟨_, rfl⟩
      rw [hx] at hrg hxok
      obtain ⟨k, t, n, a⟩ := x
      have htk := hxok.t
      dsimp only at htk
      have RG : Hid (wr.rangeAt b1 (of1 + i * 4) (tcs k t n a).toList) := Lib.hid hrg
      have MY := Lib.hid (fun W hW => may_c W k t n a htk hW)
      have RY := Lib.hid (fun W => rMay_c W k t n a htk)
      obtain ⟨z, hz⟩ : ∃ z, mayT k t n a = z := ⟨_, rfl⟩
      rw [hz] at MY RY
      clear hrg hx hz hxok htk
      go_upto_region 7 with fail
      refine (wpIn_wide (n := 9)).1 ?_
      refine wpIn_region_factsG (ms := [0, 0, 3, 7, 15, 0, 0, 96, 224, 511, 1023]) (k := 11) (Fr (fun _ => False)) (lpX b1 of1 l.length c i k n a t z) (fun i v W => True) (by kernel_rfl) (by kernel_rfl) (Fr.refl _ _) (fun a b c h1 h2 => h1.trans h2 (fun _ _ h => h)) (fun i v w w' hg hx => lpX_far hg hx) ?walk7
      case walk7 =>
      have hdr : ∀ W, Fr (fun _ => False) wr.drew W → Fr (fun _ => False) wr W := fun W h => ((Fr.refl (fun _ => False) wr).drew).trans h (fun _ _ h => h)
      have HDR := Lib.hid hdr
      clear hdr
      refine factWalkG_cons (fun W hW hf K hK => ?_) (fun x0 => ?_)
      · skip
        refine ⟨by kernel_rfl, ?_⟩
        gi_step
        exact hK _ _ (Fr.refl _ _) rfl trivial
      simp only [Act.put, List.setIfInBounds_toArray, List.set_cons_succ, List.set_cons_zero]
      refine factWalkG_cons (fun W hW hf K hK => ?_) (fun x1 => ?_)
      · skip
        refine ⟨by kernel_rfl, ?_⟩
        gi_step
        exact hK _ _ (Fr.refl _ _) rfl trivial
      simp only [Act.put, List.setIfInBounds_toArray, List.set_cons_succ, List.set_cons_zero]
      refine factWalkG_cons (fun W hW hf K hK => ?_) (fun x2 => ?_)
      · skip
        have e0 : x0 = .slice (some ⟨b1, of1, none⟩) l.length c := hf 0 (by omega) (by kernel_rfl)
        have e1 : x1 = .int .i64 (i : Int) := hf 1 (by omega) (by kernel_rfl)
        subst e0 e1
        refine ⟨by kernel_rfl, ?_⟩
        gi_step
        exact hK _ _ (Fr.refl _ _) rfl trivial
      simp only [Act.put, List.setIfInBounds_toArray, List.set_cons_succ, List.set_cons_zero]
      refine factWalkG_cons (fun W hW hf K hK => ?_) (fun x3 => ?_)
      · skip
        have e2 : x2 = .pointer (some ⟨b1, of1 + i * 4, none⟩) := hf 2 (by omega) (by kernel_rfl)
        subst e2
        have hld := load_val (P := Tryd.prog) W b1 (of1 + i * 4) (tcs k t n a) (rng_fr RG.out (HDR.out W hW) (fun h => h)) 32 _ Tryd.underlying32 rfl tsize
        refine ⟨by kernel_rfl, ?_⟩
        refine operIn_load 32 _ rfl _ rfl hld ?_
        exact hK _ _ (Fr.refl _ _) rfl trivial
      simp only [Act.put, List.setIfInBounds_toArray, List.set_cons_succ, List.set_cons_zero]
      refine factWalkG_cons (fun W hW hf K hK => ?_) (fun x4 => ?_)
      · skip
        have e3 : x3 = .agg (tcs k t n a) := hf 3 (by omega) (by kernel_rfl)
        subst e3
        refine ⟨by kernel_rfl, ?_⟩
        gi_step
        refine ⟨trivial, ?_⟩
        refine (callsIn_wide.2 (MY.out W (HLr.out.far (HDR.out W hW)))).mono ?_
        rintro e W' ⟨rfl, f2⟩
        dsimp only
        exact hK _ _ f2 rfl trivial
      simp only [Act.put, List.setIfInBounds_toArray, List.set_cons_succ, List.set_cons_zero]
      refine factWalkG_cons (fun W hW hf K hK => ?_) (fun x5 => ?_)
      · skip
        refine ⟨by kernel_rfl, ?_⟩
        gi_step
        exact hK _ _ (Fr.refl _ _) rfl trivial
      simp only [Act.put, List.setIfInBounds_toArray, List.set_cons_succ, List.set_cons_zero]
      refine factWalkG_cons (fun W hW hf K hK => ?_) (fun x6 => ?_)
      · skip
        refine ⟨by kernel_rfl, ?_⟩
        gi_step
        exact hK _ _ (Fr.refl _ _) rfl trivial
      simp only [Act.put, List.setIfInBounds_toArray, List.set_cons_succ, List.set_cons_zero]
      refine factWalkG_cons (fun W hW hf K hK => ?_) (fun x7 => ?_)
      · skip
        have e5 : x5 = .slice (some ⟨b1, of1, none⟩) l.length c := hf 5 (by omega) (by kernel_rfl)
        have e6 : x6 = .int .i64 (i : Int) := hf 6 (by omega) (by kernel_rfl)
        subst e5 e6
        refine ⟨by kernel_rfl, ?_⟩
        gi_step
        exact hK _ _ (Fr.refl _ _) rfl trivial
      simp only [Act.put, List.setIfInBounds_toArray, List.set_cons_succ, List.set_cons_zero]
      refine factWalkG_cons (fun W hW hf K hK => ?_) (fun x8 => ?_)
      · skip
        have e7 : x7 = .pointer (some ⟨b1, of1 + i * 4, none⟩) := hf 7 (by omega) (by kernel_rfl)
        subst e7
        have hld := load_val (P := Tryd.prog) W b1 (of1 + i * 4) (tcs k t n a) (rng_fr RG.out (HDR.out W hW) (fun h => h)) 32 _ Tryd.underlying32 rfl tsize
        refine ⟨by kernel_rfl, ?_⟩
        refine operIn_load 32 _ rfl _ rfl hld ?_
        exact hK _ _ (Fr.refl _ _) rfl trivial
      simp only [Act.put, List.setIfInBounds_toArray, List.set_cons_succ, List.set_cons_zero]
      refine factWalkG_cons (fun W hW hf K hK => ?_) (fun x9 => ?_)
      · skip
        have e8 : x8 = .agg (tcs k t n a) := hf 8 (by omega) (by kernel_rfl)
        subst e8
        refine ⟨by kernel_rfl, ?_⟩
        gi_step
        refine ⟨trivial, ?_⟩
        refine (callsIn_wide.2 (RY.out W)).mono ?_
        rintro e W' ⟨rfl, f2⟩
        dsimp only
        exact hK _ _ f2 rfl trivial
      simp only [Act.put, List.setIfInBounds_toArray, List.set_cons_succ, List.set_cons_zero]
      refine factWalkG_cons (fun W hW hf K hK => ?_) (fun x10 => ?_)
      · skip
        have e4 : x4 = .bool z := hf 4 (by omega) (by kernel_rfl)
        have e9 : x9 = .bool z := hf 9 (by omega) (by kernel_rfl)
        subst e4 e9
        have hzz : (z != z) = false := by simp
        refine ⟨by kernel_rfl, ?_⟩
        gi_step
        exact hK _ _ (Fr.refl _ _) rfl trivial
      simp only [Act.put, List.setIfInBounds_toArray, List.set_cons_succ, List.set_cons_zero]
      refine factWalkG_nil (fun W hW hf5 hmet => ?_)
      have e10 : x10 = .bool false := hf5 10 (by omega)
      subst e10
      have F3 : Hid (Fr (fun _ => False) wr W) := Lib.hid (HDR.out W hW)
      clear hf5 hmet hW HDR
      change wpAnyIn _ _ _ _ _ _ 0 _ _ _
      refine wpAnyIn_done (by kernel_rfl) ?_ _
      try simp only [Act.put, List.setIfInBounds_toArray, List.set_cons_succ, List.set_cons_zero]
      go_wp2_with fail
      go_roundw
      case rel => exact ⟨i + 1, by omega, by go_num, FR.out.trans F3.out (fun _ _ h => h)⟩
      case measure => simp [intOf]; omega
    case neg =>
      obtain rfl : i = l.length := by omega
      have hdl : decide ((l.length : Int) < (l.length : Int)) = false := decide_eq_false (by omega)
      have hdl' : decide (l.length < l.length) = false := decide_eq_false (by omega)
      have PR0 := Lib.hid (print_c (c := c) wr (P7.out.far FR.out) (by omega) HOK.out HLr.out)
      obtain ⟨vs, er, hsv⟩ := prt_tup l
      have PR : Hid (Calls Tryd.prog 15 #[.slice A l.length c] wr fun e w' => e = .returned (.tuple #[.string vs, .int .i64 er]) ∧ Fr (fun _ => False) wr w') := Lib.hid (PR0.out.mono fun e w' h => hsv _ _ _ h)
      have RP : Hid (∀ W, Fr (fun _ => False) wr W → Calls Tryd.prog 16 #[.slice A7 l.length c7] W fun e w' => e = .returned (.tuple #[.string vs, .int .i64 er]) ∧ Fr (fun _ => False) W w') := Lib.hid (fun W hW => (rPrint_c (cc := c7) W ((R7.out.far FR.out).far hW) hl2 HOK.out HSM.out).mono fun e w' h => hsv _ _ _ h)
      clear hsv PR0
      go_upto_region 10 with (
        go_at_call 15
        refine PR.out.mono ?_
        rintro e W3 ⟨rfl, f3⟩
        have F3 := Lib.hid f3
        clear f3)
      go_upto_region 11 with (
        go_at_call 16
        refine (RP.out W3 F3.out).mono ?_
        rintro e W4 ⟨rfl, f4⟩
        have F4 := Lib.hid (F3.out.trans f4 (fun _ _ h => h))
        clear f4)
      have R4 := Lib.hid ((R7.out.far FR.out).far F4.out)
      have P4 := Lib.hid ((P7.out.far FR.out).far F4.out)
      have Q4 := Lib.hid ((Q7.out.far FR.out).far F4.out)
      have HL4 := Lib.hid (HLr.out.far F4.out)
      have FF := Lib.hid ((F7.out.trans FR.out (fun _ _ h => h)).trans F4.out (fun _ _ h => h))
      have SM1 : Hid (Calls Tryd.prog 17 #[.slice A l.length c, .slice B m.length d] W4 fun e w' => e = .returned (.bool (sameT l m)) ∧ Fr (fun _ => False) W4 w') := Lib.hid (same_c (c := c) (c' := d) W4 P4.out Q4.out (by omega) (by omega))
      have SM2 : Hid (∀ W, Fr (fun _ => False) W4 W → Calls Tryd.prog 18 #[.slice A l.length c, .slice B m.length d] W fun e w' => e = .returned (.bool (sameT l m)) ∧ Fr (fun _ => False) W w') := Lib.hid (fun W hW => rSame_c (c := c) (c' := d) W (P4.out.far hW) (Q4.out.far hW) (by omega) (by omega))
      have SM3 : Hid (∀ W, Fr (fun _ => False) W4 W → Calls Tryd.prog 17 #[.slice A l.length c, .slice A l.length c] W fun e w' => e = .returned (.bool true) ∧ Fr (fun _ => False) W w') := Lib.hid (fun W hW => by
        have h := same_c (c := c) (c' := c) W (P4.out.far hW) (P4.out.far hW) (by omega) (by omega)
        rw [sameT_refl] at h
        exact h)
      have SM4 : Hid (∀ W, Fr (fun _ => False) W4 W → Calls Tryd.prog 11 #[.slice A l.length c, .slice A7 l.length c7] W fun e w' => e = .returned (.bool true) ∧ Fr (fun _ => False) W w') := Lib.hid (fun W hW => lsame_c (c := c) (c' := c7) W (P4.out.far hW) (R4.out.far hW) (by omega))
      obtain ⟨sb, hsb⟩ : ∃ sb, sameT l m = sb := ⟨_, rfl⟩
      rw [hsb] at SM1 SM2
      have hbb : (sb == sb) = true := by simp
      have hvv : (vs.toList == vs.toList) = true := by simp
      have hee : (er == er) = true := by simp
      clear hsb PR RP R7 P7 Q7 HL7 HLr F7 FR F3 F4 R4 P4 Q4
      go_wp2_with (first
        | (go_at_call 17
           refine (SM3.out W6 F6.out).mono ?_
           rintro e W8 ⟨rfl, f8⟩
           have F8 := Lib.hid (F6.out.trans f8 (fun _ _ h => h))
           clear f8)
        | (go_at_call 17
           refine SM1.out.mono ?_
           rintro e W5 ⟨rfl, f5⟩
           have F5 := Lib.hid f5
           clear f5)
        | (go_at_call 18
           refine (SM2.out W5 F5.out).mono ?_
           rintro e W6 ⟨rfl, f6⟩
           have F6 := Lib.hid (F5.out.trans f6 (fun _ _ h => h))
           clear f6)
        | (go_at_call 11
           refine (SM4.out W8 F8.out).mono ?_
           rintro e W9 ⟨rfl, f9⟩
           have F9 := Lib.hid (F8.out.trans f9 (fun _ _ h => h))
           clear f9)
        | (go_at_call 8
           refine (AW.out W9 (HL4.out.far F9.out)).mono ?_
           rintro e W10 ⟨rfl, f10⟩
           have F10 := Lib.hid (F9.out.trans f10 (fun _ _ h => h))
           clear f10))
      go_ret
      exact ⟨rfl, FF.out.trans F10.out (fun _ _ h => h)⟩
end Go.Proofs.YtimopkmlcjdgfaaDoor
