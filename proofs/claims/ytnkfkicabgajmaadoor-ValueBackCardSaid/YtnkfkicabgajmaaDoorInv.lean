/-
  CONTRACT of the closure in value.May, and of value.May. Written by gen_inv.py.
-/
import Derived.Test.YtnkfkicabgajmaaDoorMay4
import Derived.Test.YtnkfkicabgajmaaDoorCmp
import Derived.Laws.EntriesVeiled
namespace Go.Proofs.YtnkfkicabgajmaaDoor
set_option linter.unusedSimpArgs false
set_option linter.unusedVariables false
open Go Go.RowKit

def ivX (rm sz : Int) (M : Array Value) (i : Nat) (v : Value) (W : World) : Prop := match i with
  | 0 => v = .int .i64 rm
  | 1 => v = .agg M
  | 2 => v = .int .i64 sz
  | 3 => v = .int .i64 (rm - sz)
  | _ => True
theorem ivX_far {rm sz : Int} {M : Array Value} {i : Nat} {v : Value} {W W' : World} (hg : Fr (fun _ => False) W W') (hx : ivX rm sz M i v W) : ivX rm sz M i v W' := by
  match i with
  | 0 => exact hx
  | 1 => exact hx
  | 2 => exact hx
  | 3 => exact hx
  | (n + 4) => exact hx
theorem inv_bd {v : V} {d : Nat} {room q : Int} (h0 : 0 ≤ room) (h : inv d v room = some q) : 0 ≤ q ∧ q ≤ room := by
  rw [inv_eq v d room h0] at h
  by_cases hb : invB d v room = true
  · rw [if_pos hb] at h
    unfold invB at hb
    simp only [Bool.and_eq_true, decide_eq_true_eq] at hb
    injection h with h
    omega
  · rw [if_neg hb] at h
    cases h
theorem invs_drop (l : List V) (d i : Nat) (r : Int) (h : i < l.length) : invs d (l.drop i) r = match inv d l[i] r with | none => none | some q => invs d (l.drop (i + 1)) q := by
  rw [List.drop_eq_getElem_cons h, invs]
  rfl
/-- What the closure leaves. -/
def InvQ (o : Option Int) (r : Nat) (w : World) (e : Ending) (w' : World) : Prop :=
  (o = none ∧ e = .returned (.bool true) ∧ Fr (fun k => k = r) w w') ∨ ∃ q, o = some q ∧ e = .returned (.bool false) ∧ Fr (fun k => k = r) w w' ∧ Blk w' r 3 #[.int .i64 q]
abbrev invF (r f : Nat) : Array Value := #[.func (.func 14) #[] #[.pointer (some ⟨r, 0, none⟩), .pointer (some ⟨f, 0, none⟩)]]
theorem Fr.false_ {fp : Nat → Prop} {w w' : World} (h : Fr (fun _ => False) w w') : Fr fp w w' := h.mono (fun _ _ h => h.elim)
set_option maxRecDepth 100000 in
set_option maxHeartbeats 4000000 in
theorem inv_step (w : World) {D : Nat → Prop} {k n : Int} {t : List UInt8} {l : List V} {ks : List (List UInt8)} {Al Ak : Option Addr} {cl ck : Nat} {css : List (Array Value)}
    (hp : VP D w k n t l ks Al cl Ak ck css) (hs : SmP t l ks) (d : Nat) (hd : d ≤ 100) (r f : Nat) (rm : Int) (h0 : 0 ≤ rm) (h512 : rm ≤ 512) (hD : ∀ b, D b → b ≠ r) (hr8 : 8 ≤ r)
    (hR : Blk w r 3 #[.int .i64 rm]) (hF : Blk w f 42 (invF r f)) (hL : LaidOk w)
    (ih : d ≤ 8 → ∀ (x : V), x ∈ l → ∀ (W : World) (C : Array Value) (rm : Int), RdV D W C x → 0 ≤ rm → rm ≤ 512 → Blk W r 3 #[.int .i64 rm] → Blk W f 42 (invF r f) → LaidOk W → Calls Tryd.prog 14 #[.agg C, .int .i64 ((d : Int) + 1), .pointer (some ⟨r, 0, none⟩), .pointer (some ⟨f, 0, none⟩)] W (InvQ (inv (d + 1) x rm) r W)) :
    Calls Tryd.prog 14 #[.agg (vcs k n t Al l.length cl Ak ks.length ck), .int .i64 (d : Int), .pointer (some ⟨r, 0, none⟩), .pointer (some ⟨f, 0, none⟩)] w (InvQ (inv d (.mk k n t l ks) rm) r w) := by
  have b1 := hs.tl
  have b2 := hs.ll
  have b3 := hs.kl
  have hrlt := hR.lt
  have hflt := hF.lt
  have hfr : f ≠ r := hF.ne_ hR (by decide)
  have hszb := ownSz_le (k := k) hp.b.n0 hp.b.n1 hs
  have HFR := Lib.hid hfr
  have HP := Lib.hid hp
  have HSM := Lib.hid hs
  have HR := Lib.hid hR
  have HF := Lib.hid hF
  have HL := Lib.hid hL
  have IH := Lib.hid ih
  have HD := Lib.hid hD
  have HS1 := Lib.hid (show (Tryd.prog.info? 25).map (·.size) = some (vcs k n t Al l.length cl Ak ks.length ck).size from lw5)
  clear hp hs hR hF hL ih hfr hD
  by_cases h1 : 8 < d
  case pos =>
    have d1 : decide (8 < (d : Int)) = true := decide_eq_true (by omega)
    have HV : Hid (inv d (.mk k n t l ks) rm = none) := by
      refine Lib.hid ?_
      rw [inv, if_pos (.inl h1)]
    clear h1
    go_enter Tryd.func14, Tryd.ntmps14
    go_wp2_with fail
    go_ret
    exact .inl ⟨HV.out, rfl, ((Fr.refl _ w).alloc _)⟩
  have d1 : decide (8 < (d : Int)) = false := decide_eq_false (by omega)
  obtain ⟨z, hz⟩ : ∃ z, usesOwn k n t l.length ks.length = z := ⟨_, rfl⟩
  have HZ := Lib.hid hz
  have USE := Lib.hid (fun W => usesOwn_c W k n t Al Ak l.length cl ks.length ck HP.out.b.ll HP.out.b.kl)
  rw [hz] at USE
  clear hz
  go_enter Tryd.func14, Tryd.ntmps14
  go_upto_region 1 with fail
  refine abs_world (fun W => Hid (Blk W w.heap.size 25 (vcs k n t Al l.length cl Ak ks.length ck)) ∧ Hid (Fr (fun _ => False) w W)) ⟨Blk.new w _ _, (Fr.refl _ w).alloc _⟩ ?_
  rintro W0 ⟨B0, F0⟩
  have BA := Lib.hid (blk_all B0.out)
  have hgr : w.heap.size ≠ r := by omega
  have hgf : w.heap.size ≠ f := by omega
  have HGR := Lib.hid hgr
  have HGF := Lib.hid hgf
  have R0 := Lib.hid (keepB HR.out F0.out)
  have K0 := Lib.hid (keepB HF.out F0.out)
  have HP0 := Lib.hid (HP.out.far F0.out)
  have HL0 := Lib.hid (HL.out.far F0.out)
  have HG8 := Lib.hid HL.out.size
  generalize hg : w.heap.size = g at *
  clear HR HF HL hgr hgf
  have y0 : W0.cell? ⟨g, 0, none⟩ = some (.int .i64 k) := B0.out.cell 0
  have y1 : W0.cell? ⟨g, 1, none⟩ = some (.int .i64 n) := B0.out.cell 1
  have y2 : W0.cell? ⟨g, 2, none⟩ = some (.string (strOf t)) := B0.out.cell 2
  have y3 : W0.cell? ⟨g, 3, none⟩ = some (.slice Al l.length cl) := B0.out.cell 3
  have y4 : W0.cell? ⟨g, 4, none⟩ = some (.slice Ak ks.length ck) := B0.out.cell 4
  cases z with
  | false =>
    have HV : Hid (inv d (.mk k n t l ks) rm = none) := by
      refine Lib.hid ?_
      rw [inv, if_pos (.inr HZ.out)]
    go_wp2_with fail
    clear y0 y1 y2 y3 y4
    refine (USE.out W0).mono ?_
    rintro e W1 ⟨rfl, f1⟩
    have F1 := Lib.hid (F0.out.trans f1 (fun _ _ h => h))
    clear f1
    go_wp2_with fail
    go_ret
    exact .inl ⟨HV.out, rfl, F1.out.false_⟩
  | true =>
    go_wp2_with fail
    clear y0 y1 y2 y3 y4
    refine (USE.out W0).mono ?_
    rintro e W1 ⟨rfl, f1⟩
    have F1 := Lib.hid (F0.out.trans f1 (fun _ _ h => h))
    have R1 := Lib.hid (keepB R0.out f1)
    have K1 := Lib.hid (keepB K0.out f1)
    have B1 := Lib.hid (keepB B0.out f1)
    have HP1 := Lib.hid (HP0.out.far f1)
    have HL1 := Lib.hid (HL0.out.far f1)
    clear f1 BA B0 R0 K0 HP0 HL0 F0 USE
    go_upto_region 3 with fail
    obtain ⟨sz, hsz⟩ : ∃ sz : Int, (ownSz k n t l.length ks : Int) = sz := ⟨_, rfl⟩
    have HSZ := Lib.hid hsz
    have SIZ : Hid (∀ W, Fr (fun _ => False) W1 W → Calls Tryd.prog 16 #[.agg (vcs k n t Al l.length cl Ak ks.length ck)] W fun e w' => e = .returned (.int .i64 sz) ∧ Fr (fun _ => False) W w') := fun W hW => by
      have := ownSize_c W (HP1.out.far hW) HSM.out (HL1.out.far hW)
      rw [HSZ.out] at this
      exact this
    have HBD := Lib.hid (show 0 ≤ sz ∧ sz ≤ 3000010000010 ∧ 0 ≤ rm ∧ rm ≤ 512 by omega)
    clear hsz hszb
    obtain ⟨M, hM⟩ : ∃ M, vcs k n t Al l.length cl Ak ks.length ck = M := ⟨_, rfl⟩
    have HM := Lib.hid hM
    rw [hM] at HS1 SIZ B1
    have BR1 := Lib.hid (blk_all B1.out)
    clear hM
    refine (wpIn_wide (n := 9)).1 ?_
    refine wpIn_region_factsG (ms := [0, 0, 2, 7, 15]) (k := 4) (Fr (fun _ => False)) (ivX rm sz M) (fun i v W => True) (by kernel_rfl) (by kernel_rfl) (Fr.refl _ _) (fun a b c h1 h2 => h1.trans h2 (fun _ _ h => h)) (fun i v w w' hg hx => ivX_far hg hx) ?walk3
    case walk3 =>
    have hdr : ∀ W, Fr (fun _ => False) W1.drew W → Fr (fun _ => False) W1 W := fun W h => ((Fr.refl (fun _ => False) W1).drew).trans h (fun _ _ h => h)
    have HDR := Lib.hid hdr
    clear hdr
    refine factWalkG_cons (fun W hW hf K hK => ?_) (fun x0 => ?_)
    · skip
      have c0 := (R1.out.fr (HDR.out W hW) (fun h => h)).cell 0
      refine ⟨by kernel_rfl, ?_⟩
      gi_step
      exact hK _ _ (Fr.refl _ _) rfl trivial
    simp only [Act.put, List.setIfInBounds_toArray, List.set_cons_succ, List.set_cons_zero]
    refine factWalkG_cons (fun W hW hf K hK => ?_) (fun x1 => ?_)
    · skip
      have hld := load_val (P := Tryd.prog) W g 0 M (rng_far BR1.out (HDR.out W hW)) 25 _ Tryd.underlying25 rfl HS1.out
      refine ⟨by kernel_rfl, ?_⟩
      refine operIn_load 25 _ rfl _ rfl hld ?_
      exact hK _ _ (Fr.refl _ _) rfl trivial
    simp only [Act.put, List.setIfInBounds_toArray, List.set_cons_succ, List.set_cons_zero]
    refine factWalkG_cons (fun W hW hf K hK => ?_) (fun x2 => ?_)
    · skip
      have e1 : x1 = .agg M := hf 1 (by omega) (by kernel_rfl)
      subst e1
      refine ⟨by kernel_rfl, ?_⟩
      gi_step
      refine ⟨trivial, ?_⟩
      refine (callsIn_wide.2 (SIZ.out W (HDR.out W hW))).mono ?_
      rintro e W' ⟨rfl, f2⟩
      dsimp only
      exact hK _ _ f2 rfl trivial
    simp only [Act.put, List.setIfInBounds_toArray, List.set_cons_succ, List.set_cons_zero]
    refine factWalkG_cons (fun W hW hf K hK => ?_) (fun x3 => ?_)
    · skip
      have e0 : x0 = .int .i64 rm := hf 0 (by omega) (by kernel_rfl)
      have e2 : x2 = .int .i64 sz := hf 2 (by omega) (by kernel_rfl)
      subst e0 e2
      obtain ⟨hb0, hb1, hb2, hb3⟩ := HBD.out
      refine ⟨by kernel_rfl, ?_⟩
      gi_step
      exact hK _ _ (Fr.refl _ _) rfl trivial
    simp only [Act.put, List.setIfInBounds_toArray, List.set_cons_succ, List.set_cons_zero]
    refine factWalkG_nil (fun W hW hf3 hmet => ?_)
    have e3 : x3 = .int .i64 (rm - sz) := hf3 3 (by omega)
    subst e3
    have hWf := HDR.out W hW
    have BRW := keepB R1.out hWf
    have BXW := keepB B1.out hWf
    have BKW := keepB K1.out hWf
    have c0 := BRW.cell 0
    have m0 := BRW.frozen 0
    have FW := F1.out.trans hWf (fun _ _ h => h)
    have FW1 := hWf
    change wpAnyIn _ _ _ _ _ _ 1 _ _ _
    refine wpAnyIn_ready (rs := [4]) (by kernel_rfl) (by simp) ?_
    refine AllReadyIn.cons rfl (fun K hK => ?_) AllReadyIn.nil
    go_simp
    refine hK _ _ ?_
    refine wpAnyIn_done (by kernel_rfl) ?_ _
    clear hK K hmet hf3 HDR c0 m0
    refine abs_exit (fun W => Hid (Blk W r 3 #[.int .i64 (rm - sz)]) ∧ Hid (Blk W g 25 M) ∧ Hid (Blk W f 42 (invF r f)) ∧ Hid (Fr (fun k => k = r) W1 W) ∧ Hid (Fr (fun k => k = r) w W)) ⟨BRW.set_ 0 _, BXW.far HGR.out _, BKW.far HFR.out _, (FW1.false_ (fp := fun k => k = r)).setCell (p := ⟨r, 0, none⟩) (fun _ => rfl) _, (FW.false_ (fp := fun k => k = r)).setCell (p := ⟨r, 0, none⟩) (fun _ => rfl) _⟩ ?_
    clear BRW BXW BKW FW FW1 hWf hW W R1 B1 K1 BR1 F1
    rintro W2 ⟨R2, B2, K2, F12, F2⟩
    have hM := HM.out
    subst hM
    have HP2 := Lib.hid (HP1.out.fr F12.out HD.out)
    have HL2 := Lib.hid (HL1.out.fr F12.out (fun k hk he => by omega))
    clear HP1 HL1 F12 HM HP
    have r0 : W2.cell? ⟨r, 0, none⟩ = some (.int .i64 (rm - sz)) := R2.out.cell 0
    have c2 : W2.cell? ⟨g, 2, none⟩ = some (.string (strOf t)) := B2.out.cell 2
    have c3 : W2.cell? ⟨g, 3, none⟩ = some (.slice Al l.length cl) := B2.out.cell 3
    have c4 : W2.cell? ⟨g, 4, none⟩ = some (.slice Ak ks.length ck) := B2.out.cell 4
    have hin : inv d (.mk k n t l ks) rm = if rm - sz < 0 ∨ plainT t = false ∨ rising ks = false then none else invs (d + 1) l (rm - sz) := by
      rw [inv, if_neg (fun h => h.elim (by omega) (by rw [HZ.out]; simp)), HSZ.out]
    have HIN := Lib.hid hin
    clear hin HSZ SIZ HZ
    obtain ⟨q1, q2, -, -⟩ := HBD.out
    by_cases h2 : rm - sz < 0
    case pos =>
      have e1 : decide (rm - sz < 0) = true := decide_eq_true h2
      have e1' : decide (rm < sz) = true := decide_eq_true (by omega)
      have HV : Hid (inv d (.mk k n t l ks) rm = none) := by
        refine Lib.hid ?_
        rw [HIN.out, if_pos (.inl h2)]
      go_wp2_with fail
      go_ret
      exact .inl ⟨HV.out, rfl, F2.out⟩
    have e1 : decide (rm - sz < 0) = false := decide_eq_false h2
    have e1' : decide (rm < sz) = false := decide_eq_false (by omega)
    obtain ⟨zp, hzp⟩ : ∃ z, plainT t = z := ⟨_, rfl⟩
    have PL := Lib.hid (plain_c W2 t (by omega))
    rw [hzp] at PL
    have HZP := Lib.hid hzp
    clear hzp
    cases zp with
    | false =>
      have HV : Hid (inv d (.mk k n t l ks) rm = none) := by
        refine Lib.hid ?_
        rw [HIN.out, if_pos (.inr (.inl HZP.out))]
      go_wp2_with fail
      refine PL.out.mono ?_
      rintro e W3 ⟨rfl, rfl⟩
      go_wp2_with fail
      go_ret
      exact .inl ⟨HV.out, rfl, F2.out⟩
    | true =>
      obtain ⟨zr, hzr⟩ : ∃ z, rising ks = z := ⟨_, rfl⟩
      have RI := Lib.hid (rising_c W2 ck HP2.out.kr HP2.out.b.kl HP2.out.b.ks)
      rw [hzr] at RI
      have HZR := Lib.hid hzr
      clear hzr
      cases zr with
      | false =>
        have HV : Hid (inv d (.mk k n t l ks) rm = none) := by
          refine Lib.hid ?_
          rw [HIN.out, if_pos (.inr (.inr HZR.out))]
        go_wp2_with fail
        refine PL.out.mono ?_
        rintro e W3 ⟨rfl, rfl⟩
        go_wp2_with fail
        refine RI.out.mono ?_
        rintro e W4 ⟨rfl, f4⟩
        have F4 := Lib.hid (F2.out.trans f4.false_ (fun _ _ h => h))
        clear f4
        go_wp2_with fail
        go_ret
        exact .inl ⟨HV.out, rfl, F4.out⟩
      | true =>
        have HV : Hid (inv d (.mk k n t l ks) rm = invs (d + 1) l (rm - sz)) := by
          refine Lib.hid ?_
          rw [HIN.out, if_neg]
          rintro (h | h | h)
          · omega
          · rw [HZP.out] at h; cases h
          · rw [HZR.out] at h; cases h
        go_wp2_with fail
        refine PL.out.mono ?_
        rintro e W3 ⟨rfl, rfl⟩
        go_wp2_with fail
        refine RI.out.mono ?_
        rintro e W4 ⟨rfl, f4⟩
        have F4 := Lib.hid (F2.out.trans f4.false_ (fun _ _ h => h))
        have R4 := Lib.hid (keepB R2.out f4)
        have B4 := Lib.hid (keepB B2.out f4)
        have K4 := Lib.hid (keepB K2.out f4)
        have HP4 := Lib.hid (HP2.out.far f4)
        have HL4 := Lib.hid (HL2.out.far f4)
        have c3 : W4.cell? ⟨g, 3, none⟩ = some (.slice Al l.length cl) := B4.out.cell 3
        clear f4 HIN HZP HZR PL RI R2 B2 K2 HP2 HL2 F2
        go_wp2_with fail
        obtain ⟨rs, hrs⟩ : ∃ rs, rm - sz = rs := ⟨_, rfl⟩
        have HRS := Lib.hid (show 0 ≤ rs ∧ rs ≤ 512 by omega)
        rw [hrs] at R4 HV ⊢
        clear c3 hrs e1 e1' h2
        go_loopw [37] (fun iv wr => ∃ (i : Nat) (q : Int), i ≤ l.length ∧ iv = .int .i64 (i : Int) ∧ Hid (0 ≤ q ∧ q ≤ 512) ∧ Hid (invs (d + 1) l rs = invs (d + 1) (l.drop i) q) ∧ Hid (Blk wr r 3 #[.int .i64 q]) ∧ Hid (Fr (fun k => k = r) W4 wr)) (fun iv _ => l.length - (intOf iv).toNat)
        case atStart => exact ⟨0, rs, Nat.zero_le _, rfl, HRS.out, rfl, R4.out, Fr.refl _ _⟩
        case round =>
          obtain ⟨i, q, hi, rfl, hq, he, hb, hf⟩ := hrel
          by_cases hlt : i < l.length
          case neg =>
            obtain rfl : i = l.length := by omega
            have hdl : decide ((l.length : Int) < (l.length : Int)) = false := decide_eq_false (by omega)
            have hdl' : decide (l.length < l.length) = false := decide_eq_false (by omega)
            have hfin : invs (d + 1) l rs = some q := by rw [he.out, List.drop_length, invs]
            have HFIN := Lib.hid hfin
            clear hfin
            go_wp2_with fail
            go_ret
            exact .inr ⟨q, HV.out.trans HFIN.out, rfl, F4.out.trans hf.out (fun _ _ h => h), hb.out⟩
          have hdl : decide ((i : Int) < (l.length : Int)) = true := decide_eq_true (by omega)
          have hdl' : decide (i < l.length) = true := decide_eq_true hlt
          have HPW := Lib.hid (HP4.out.fr hf.out HD.out)
          have HLW := Lib.hid (HL4.out.fr hf.out (fun k hk he => by omega))
          have KW := Lib.hid (K4.out.fr hf.out HFR.out)
          obtain ⟨b, off, C, hA, hci, hrv, hrg, h5⟩ := HPW.out.at_ hlt
          subst hA
          have HRV := Lib.hid hrv
          have HG := Lib.hid hrg
          have HSC := Lib.hid (szV hrv)
          have HO := Lib.hid (oneV hrv)
          have H5 := Lib.hid h5
          clear hci hrv hrg h5
          go_upto_region 9 with (first
            | (refine wpList_load_val rfl 25 _ rfl b _ rfl C HG.out _ Tryd.underlying25 rfl HSC.out ?_)
            | (refine wpList_store_blk rfl 25 _ _ rfl wr.heap.size C rfl rfl (Blk.new wr 25 _) H5.out HSC.out HO.out ?_
               intro W5 q5 f5
               have F5 := Lib.hid (((Fr.refl (fun _ => False) wr).alloc _).trans f5 (fun i hi h => by have : i = wr.heap.size := h; omega))
               have Q5 := Lib.hid (blk_all q5)
               clear q5 f5))
          have hk5 : W5.cell? ⟨f, 0, none⟩ = some (.func (.func 14) #[] #[.pointer (some ⟨r, 0, none⟩), .pointer (some ⟨f, 0, none⟩)]) := (keepB KW.out F5.out).cell 0
          have CALL := Lib.hid (IH.out (by omega) l[i] (List.getElem_mem hlt) W5 C q (HRV.out.far F5.out) hq.out.1 hq.out.2 (keepB hb.out F5.out) (keepB KW.out F5.out) (HLW.out.far F5.out))
          generalize wr.heap.size = g5 at *
          go_wp2_with (refine wpList_load_val rfl 25 _ rfl g5 _ rfl C Q5.out _ Tryd.underlying25 rfl HSC.out ?_)
          refine CALL.out.mono ?_
          rintro e W6 h6
          have H6 := Lib.hid h6
          clear h6 CALL hk5
          have hdr := invs_drop l (d + 1) i q hlt
          rw [← he.out] at hdr
          have HDRP := Lib.hid hdr
          clear hdr he
          rcases H6.out with ⟨ho, rfl, f6⟩ | ⟨q6, ho, rfl, f6, b6⟩
          · have HN : Hid (invs (d + 1) l rs = none) := by
              refine Lib.hid ?_
              rw [HDRP.out, ho]
            have F6 := Lib.hid (F4.out.trans (hf.out.trans (F5.out.false_.trans f6 (fun _ _ h => h)) (fun _ _ h => h)) (fun _ _ h => h))
            clear ho f6 H6 HDRP
            go_wp2_with fail
            go_ret
            exact .inl ⟨HV.out.trans HN.out, rfl, F6.out⟩
          · have HE6 : Hid (invs (d + 1) l rs = invs (d + 1) (l.drop (i + 1)) q6) := by
              refine Lib.hid ?_
              rw [HDRP.out, ho]
            have hq6 := inv_bd hq.out.1 ho
            have HQ6 := Lib.hid (show 0 ≤ q6 ∧ q6 ≤ 512 from ⟨hq6.1, Int.le_trans hq6.2 hq.out.2⟩)
            have F6 := Lib.hid (hf.out.trans (F5.out.false_.trans f6 (fun _ _ h => h)) (fun _ _ h => h))
            have B6 := Lib.hid b6
            clear ho f6 b6 H6 HDRP hq6
            go_wp2_with fail
            go_roundw
            case rel => exact ⟨i + 1, q6, by omega, by go_num, HQ6.out, HE6.out, B6.out, F6.out⟩
            case measure => simp [intOf]; omega
theorem inv_c : ∀ (v : V) (d : Nat) (w : World) (D : Nat → Prop) (C : Array Value) (r f : Nat) (rm : Int), RdV D w C v → Sm v → d ≤ 9 → 0 ≤ rm → rm ≤ 512 → (∀ b, D b → b ≠ r) → 8 ≤ r → Blk w r 3 #[.int .i64 rm] → Blk w f 42 (invF r f) → LaidOk w →
    Calls Tryd.prog 14 #[.agg C, .int .i64 (d : Int), .pointer (some ⟨r, 0, none⟩), .pointer (some ⟨f, 0, none⟩)] w (InvQ (inv d v rm) r w) := by
  intro v
  induction v using V.ind with
  | h k n t l ks ih =>
    intro d w D C r f rm h hs hd h0 h1 hD hr8 hR hF hL
    obtain ⟨k1, n1, t1, l1, ks1, Al, cl, Ak, ck, css, e, rfl, hp⟩ := h.inv
    injection e with e1 e2 e3 e4 e5
    subst e1 e2 e3 e4 e5
    refine inv_step w hp hs.inv d (by omega) r f rm h0 h1 hD hr8 hR hF hL (fun hd8 x hx W C q h1 h2 h3 h4 h5 h6 => ?_)
    exact ih x hx (d + 1) W D C r f q h1 (hs.inv.el x hx) (by omega) h2 h3 hD hr8 h4 h5 h6
end Go.Proofs.YtnkfkicabgajmaaDoor
