/-
  CONTRACT of the reference's Same. Written by gen_rsame.py.
-/
import Derived.Test.YtnkfkicabgajmaaGreatDoorGCmp
import Derived.BigQuiet
namespace Go.Proofs.YtnkfkicabgajmaaGreatDoor
set_option linter.unusedSimpArgs false
set_option linter.unusedVariables false
open Go Go.RowKit

def rsX (g1 g2 b off b' off' L M cl cm p9 : Nat) (C C' : Array Value) (u : Bool) (i : Nat) (v : Value) (W : World) : Prop := match i with
  | 0 => v = .pointer (some ⟨g1, 3, none⟩)
  | 1 => v = .slice (some ⟨b, off, none⟩) L cl
  | 2 => v = .int .i64 (p9 : Nat)
  | 3 => v = .pointer (some ⟨b, off + p9 * 5, none⟩)
  | 4 => v = .agg C
  | 5 => v = .pointer (some ⟨g2, 3, none⟩)
  | 6 => v = .slice (some ⟨b', off', none⟩) M cm
  | 7 => v = .int .i64 (p9 : Nat)
  | 8 => v = .pointer (some ⟨b', off' + p9 * 5, none⟩)
  | 9 => v = .agg C'
  | 10 => v = .bool u
  | _ => True
theorem rsX_far {g1 g2 b off b' off' L M cl cm p9 : Nat} {C C' : Array Value} {u : Bool} {i : Nat} {v : Value} {W W' : World} (hg : Fr (fun _ => False) W W') (hx : rsX g1 g2 b off b' off' L M cl cm p9 C C' u i v W) : rsX g1 g2 b off b' off' L M cl cm p9 C C' u i v W' := by
  match i with
  | 0 => exact hx
  | 1 => exact hx
  | 2 => exact hx
  | 3 => exact hx
  | 4 => exact hx
  | 5 => exact hx
  | 6 => exact hx
  | 7 => exact hx
  | 8 => exact hx
  | 9 => exact hx
  | 10 => exact hx
  | (n + 11) => exact hx
set_option maxRecDepth 100000 in
set_option maxHeartbeats 8000000 in
theorem rsame_step (w : World) {D E : Nat → Prop} {k n k' n' : Int} {t t' : List UInt8} {l l' : List V} {ks ks' : List (List UInt8)} {Al Ak Al' Ak' : Option Addr} {cl ck cl' ck' : Nat} {css css' : List (Array Value)}
    (hp : VP D w k n t l ks Al cl Ak ck css) (hq : VP E w k' n' t' l' ks' Al' cl' Ak' ck' css')
    (ih : ∀ (x : V), x ∈ l → ∀ (W : World) (C C' : Array Value) (y : V), RdV D W C x → RdV E W C' y → Calls Tryz.prog 13 #[.agg C, .agg C'] W fun e w' => e = .returned (.bool (eqv x y)) ∧ Fr (fun _ => False) W w') :
    Calls Tryz.prog 13 #[.agg (vcs k n t Al l.length cl Ak ks.length ck), .agg (vcs k' n' t' Al' l'.length cl' Ak' ks'.length ck')] w fun e w' => e = .returned (.bool (eqv (.mk k n t l ks) (.mk k' n' t' l' ks'))) ∧ Fr (fun _ => False) w w' := by
  have hst : ((strOf t).toList == (strOf t').toList) = (t == t') := by rw [strOf_toList, strOf_toList]
  have HP := Lib.hid hp
  have HQ := Lib.hid hq
  have IH := Lib.hid ih
  have hb2 := hp.b.ll
  have hb3 := hq.b.ll
  have hb4 := hp.b.kl
  have hb5 := hq.b.kl
  clear hp hq ih
  obtain ⟨z, hz⟩ : ∃ z, eqv (.mk k n t l ks) (.mk k' n' t' l' ks') = z := ⟨_, rfl⟩
  rw [hz]
  rw [eqv_k] at hz
  have HZ := Lib.hid hz
  have HST := Lib.hid hst
  obtain ⟨g1, hg1⟩ : ∃ g, w.heap.size = g := ⟨_, rfl⟩
  have HG := Lib.hid hg1
  clear hz hst hg1
  go_enter Tryz.func13, Tryz.ntmps13
  go_upto_region 1 with fail
  refine abs_world (fun W => Hid (Blk W w.heap.size 25 (vcs k n t Al l.length cl Ak ks.length ck)) ∧ Hid (Blk W (w.heap.size + 1) 25 (vcs k' n' t' Al' l'.length cl' Ak' ks'.length ck')) ∧ Hid (Fr (fun _ => False) w W)) ⟨(Blk.new w _ _).alloc _, Blk.new1 w _ _ _, ((Fr.refl _ w).alloc _).alloc _⟩ ?_
  rintro W1 ⟨B1, B2, F1⟩
  rw [HG.out] at B1 B2 ⊢
  obtain ⟨g2, hg2⟩ : ∃ g2, g1 + 1 = g2 := ⟨_, rfl⟩
  rw [hg2] at B2 ⊢
  clear hg2
  have a0 : W1.cell? ⟨g1, 0, none⟩ = some (.int .i64 k) := B1.out.cell 0
  have a1 : W1.cell? ⟨g1, 1, none⟩ = some (.int .i64 n) := B1.out.cell 1
  have a2 : W1.cell? ⟨g1, 2, none⟩ = some (.string (strOf t)) := B1.out.cell 2
  have a3 : W1.cell? ⟨g1, 3, none⟩ = some (.slice Al l.length cl) := B1.out.cell 3
  have a4 : W1.cell? ⟨g1, 4, none⟩ = some (.slice Ak ks.length ck) := B1.out.cell 4
  have b0 : W1.cell? ⟨g2, 0, none⟩ = some (.int .i64 k') := B2.out.cell 0
  have b1 : W1.cell? ⟨g2, 1, none⟩ = some (.int .i64 n') := B2.out.cell 1
  have b2 : W1.cell? ⟨g2, 2, none⟩ = some (.string (strOf t')) := B2.out.cell 2
  have b3 : W1.cell? ⟨g2, 3, none⟩ = some (.slice Al' l'.length cl') := B2.out.cell 3
  have b4 : W1.cell? ⟨g2, 4, none⟩ = some (.slice Ak' ks'.length ck') := B2.out.cell 4
  by_cases h1 : k = k'
  case neg =>
    have d1 : (k == k') = false := by simpa using h1
    have e1 : decide (k = k') = false := decide_eq_false h1
    have HF : Hid (z = false) := Lib.hid (by rw [← HZ.out, d1]; simp)
    go_wp2_with fail
    go_ret
    exact ⟨ret_bool HF.out.symm, F1.out⟩
  subst h1
  by_cases h2 : n = n'
  case neg =>
    have d1 : (n == n') = false := by simpa using h2
    have HF : Hid (z = false) := Lib.hid (by rw [← HZ.out, d1]; simp)
    go_wp2_with fail
    go_ret
    exact ⟨ret_bool HF.out.symm, F1.out⟩
  subst h2
  by_cases h3 : t = t'
  case neg =>
    have d1 : (t == t') = false := by simpa using h3
    have HF : Hid (z = false) := Lib.hid (by rw [← HZ.out, d1]; simp)
    have hst := HST.out
    rw [d1] at hst
    clear d1 h3
    go_wp2_with fail
    go_ret
    exact ⟨ret_bool HF.out.symm, F1.out⟩
  subst h3
  have hst : ((strOf t).toList == (strOf t).toList) = true := by simp
  by_cases h4 : ks.length = ks'.length
  case neg =>
    have HF : Hid (z = false) := Lib.hid (by
      have : (ks == ks') = false := by
        rw [Bool.eq_false_iff]
        intro e
        exact h4 (congrArg List.length (by simpa using e))
      rw [← HZ.out, this]; simp)
    have h4' : ¬ ((ks.length : Int) = (ks'.length : Int)) := by omega
    have d1 : ((ks.length : Int) == (ks'.length : Int)) = false := by simpa using h4'
    go_wp2_with fail
    go_ret
    exact ⟨ret_bool HF.out.symm, F1.out⟩
  by_cases h5 : l.length = l'.length
  case neg =>
    have HF : Hid (z = false) := Lib.hid (by
      have : eqvs l l' = false := by
        rw [Bool.eq_false_iff]
        intro e
        exact h5 (congrArg List.length ((eqvs_iff l l').1 e))
      rw [← HZ.out, this]; simp)
    have h5' : ¬ ((l.length : Int) = (l'.length : Int)) := by omega
    have d1 : ((l.length : Int) == (l'.length : Int)) = false := by simpa using h5'
    rw [← h4] at b4
    go_wp2_with fail
    go_ret
    exact ⟨ret_bool HF.out.symm, F1.out⟩
  have HZ2 : Hid ((ks == ks' && eqvs l l') = z) := Lib.hid (by rw [← HZ.out]; simp)
  have H4 := Lib.hid h4
  have H5 := Lib.hid h5
  rw [← h4] at b4
  rw [← h5] at b3
  clear HZ h4 h5 HST
  go_wp2_with fail
  go_loopw [5] (fun iv wr => ∃ i : Nat, i ≤ ks.length ∧ iv = .int .i64 (i : Int) ∧ Hid (∀ j (h1 : j < ks.length) (h2 : j < ks'.length), j < i → ks[j] = ks'[j]) ∧ Hid (Blk wr g1 25 (vcs k n t Al l.length cl Ak ks.length ck)) ∧ Hid (Blk wr g2 25 (vcs k n t Al' l.length cl' Ak' ks.length ck')) ∧ Hid (Fr (fun _ => False) w wr)) (fun iv _ => ks.length - (intOf iv).toNat)
  case atStart => exact ⟨0, Nat.zero_le _, rfl, fun j _ _ h => absurd h (by omega), B1.out, H4.out ▸ H5.out ▸ B2.out, F1.out⟩
  case round =>
    obtain ⟨i, hi, rfl, hsm, hb1, hb2', hf⟩ := hrel
    clear a0 a1 a2 a3 a4 b0 b1 b2 b3 b4
    have a4 : wr.cell? ⟨g1, 4, none⟩ = some (.slice Ak ks.length ck) := hb1.out.cell 4
    have b4 : wr.cell? ⟨g2, 4, none⟩ = some (.slice Ak' ks.length ck') := hb2'.out.cell 4
    by_cases hin : i < ks.length
    case pos =>
      have d1 : decide ((i : Int) < (ks.length : Int)) = true := decide_eq_true (by omega)
      have d1' : decide (i < ks.length) = true := decide_eq_true hin
      have hin' : i < ks'.length := by have := H4.out; omega
      obtain ⟨p, o, rfl, ck1⟩ := (HP.out.far hf.out).key hin
      obtain ⟨p', o', rfl, ck2⟩ := (HQ.out.far hf.out).key hin'
      have q1 : (0 : Int) ≤ (i : Int) := by omega
      have q2 : (i : Int) < (ks.length : Int) := by omega
      have hst2 : ((strOf ks[i]).toList == (strOf ks'[i]).toList) = (ks[i] == ks'[i]) := by rw [strOf_toList, strOf_toList]
      by_cases he : ks[i] = ks'[i]
      case neg =>
        have HF : Hid (z = false) := Lib.hid (by
          have : (ks == ks') = false := by
            rw [Bool.eq_false_iff]
            intro e
            have e : ks = ks' := by simpa using e
            subst e
            exact he rfl
          rw [← HZ2.out, this]; simp)
        have e2 : (ks[i] == ks'[i]) = false := by simpa using he
        rw [e2] at hst2
        clear he e2
        go_upto_region 6 with fail
        go_quiet (fail)
        go_wp2_with fail
        go_ret
        exact ⟨ret_bool HF.out.symm, hf.out.drewN _⟩
      case pos =>
        have e2 : (ks[i] == ks'[i]) = true := by simpa using he
        rw [e2] at hst2
        have HSM : Hid (∀ j (h1 : j < ks.length) (h2 : j < ks'.length), j < i + 1 → ks[j] = ks'[j]) := Lib.hid (fun j h1 h2 hj => by
          by_cases h : j = i
          · subst h; exact he
          · exact hsm.out j h1 h2 (by omega))
        clear he e2
        go_upto_region 6 with fail
        go_quiet (fail)
        go_wp2_with fail
        go_roundw
        case rel => exact ⟨i + 1, by omega, by go_num, HSM.out, hb1.out.drewN _, hb2'.out.drewN _, hf.out.drewN _⟩
        case measure => simp [intOf]; omega
    case neg =>
      have d1 : decide ((i : Int) < (ks.length : Int)) = false := decide_eq_false (by omega)
      have d1' : decide (i < ks.length) = false := decide_eq_false hin
      have hke : ks = ks' := List.ext_getElem H4.out (fun j h1 h2 => hsm.out j h1 h2 (by omega))
      have HZ3 : Hid (eqvs l l' = z) := Lib.hid (by rw [← HZ2.out, hke]; simp)
      clear hsm hke HZ2
      have a3 : wr.cell? ⟨g1, 3, none⟩ = some (.slice Al l.length cl) := hb1.out.cell 3
      go_wp2_with fail
      go_loopw [6] (fun iv wr => ∃ i : Nat, i ≤ l.length ∧ iv = .int .i64 (i : Int) ∧ Hid (∀ j (h1 : j < l.length) (h2 : j < l'.length), j < i → eqv l[j] l'[j] = true) ∧ Hid (Blk wr g1 25 (vcs k n t Al l.length cl Ak ks.length ck)) ∧ Hid (Blk wr g2 25 (vcs k n t Al' l.length cl' Ak' ks.length ck')) ∧ Hid (Fr (fun _ => False) w wr)) (fun iv _ => l.length - (intOf iv).toNat)
      case atStart => exact ⟨0, Nat.zero_le _, rfl, fun j _ _ h => absurd h (by omega), hb1.out, hb2'.out, hf.out⟩
      case round =>
        rename_i wr0
        clear hb1 hb2' hf
        obtain ⟨i, hi, rfl, hsm, hb1, hb2', hf⟩ := hrel
        clear a3 a4 b4 d1 d1'
        have a3 : wr.cell? ⟨g1, 3, none⟩ = some (.slice Al l.length cl) := hb1.out.cell 3
        by_cases hlt : i < l.length
        case neg =>
          have d1 : decide ((i : Int) < (l.length : Int)) = false := decide_eq_false (by omega)
          have d1' : decide (i < l.length) = false := decide_eq_false hlt
          have HT : Hid (z = true) := Lib.hid (by
            rw [← HZ3.out, eqvs_at H5.out]
            exact fun j h1 h2 => hsm.out j h1 h2 (by omega))
          go_wp2_with fail
          go_ret
          exact ⟨ret_bool HT.out.symm, hf.out⟩
        have hlt' : i < l'.length := by have := H5.out; omega
        have d1 : decide ((i : Int) < (l.length : Int)) = true := decide_eq_true (by omega)
        have d1' : decide (i < l.length) = true := decide_eq_true hlt
        obtain ⟨b, off, C, hA, -, hrv, hrg, -⟩ := (HP.out.far hf.out).at_ hlt
        subst hA
        obtain ⟨b', off', C', hA', -, hrv', hrg', -⟩ := (HQ.out.far hf.out).at_ hlt'
        subst hA'
        obtain ⟨u, hu⟩ : ∃ u, eqv l[i] l'[i] = u := ⟨_, rfl⟩
        have HU := Lib.hid hu
        have HS1 := Lib.hid (szV hrv)
        have HS2 := Lib.hid (szV hrv')
        have RG1 := Lib.hid hrg
        have RG2 := Lib.hid hrg'
        have HLT1 := Lib.hid (show (0 : Int) ≤ (i : Int) ∧ (i : Int) < (l.length : Int) by omega)
        have HLT2 := Lib.hid (show (0 : Int) ≤ (i : Int) ∧ (i : Int) < (l.length : Int) by omega)
        have A3 := Lib.hid a3
        have B3 := Lib.hid (show wr.cell? ⟨g2, 3, none⟩ = some (.slice (some ⟨b', off', none⟩) l.length cl') from hb2'.out.cell 3)
        have HCALL : Hid (∀ W, Fr (fun _ => False) wr W → Calls Tryz.prog 13 #[.agg C, .agg C'] W fun e w' => e = .returned (.bool u) ∧ Fr (fun _ => False) W w') := Lib.hid (fun W hW => by
          have := IH.out l[i] (List.getElem_mem hlt) W C C' l'[i] (hrv.far hW) (hrv'.far hW)
          rw [hu] at this
          exact this)
        clear hu hrv hrg hrv' hrg'
        go_upto_region 11 with fail
        clear a3
        refine (wpIn_wide (n := 9)).1 ?_
        refine wpIn_region_factsG (ms := [0, 1, 0, 7, 15, 0, 32, 0, 224, 480, 1023, 2047]) (k := 11) (Fr (fun _ => False)) (rsX g1 g2 b off b' off' l.length l.length cl cl' i C C' u) (fun i v W => True) (by kernel_rfl) (by kernel_rfl) (Fr.refl _ _) (fun a b c h1 h2 => h1.trans h2 (fun _ _ h => h)) (fun i v w w' hg hx => rsX_far hg hx) ?walk11
        case walk11 =>
        have hdr : ∀ W, Fr (fun _ => False) wr.drew W → Fr (fun _ => False) wr W := fun W h => ((Fr.refl (fun _ => False) wr).drew).trans h (fun _ _ h => h)
        have HDR := Lib.hid hdr
        clear hdr
        refine factWalkG_cons (fun W hW hf K hK => ?_) (fun x0 => ?_)
        · skip
          refine ⟨by kernel_rfl, ?_⟩
          gi_step
          exact hK _ _ (Fr.refl _ _) rfl trivial
        simp only [Act.put, List.setIfInBounds_toArray, List.set_cons_succ, List.set_cons_zero]
        refine factWalkG_cons (fun W hW hf K hK => ?_) (fun x1 => ?_)
        · skip
          have e0 : x0 = .pointer (some ⟨g1, 3, none⟩) := hf 0 (by omega) (by kernel_rfl)
          subst e0
          have a3 : W.cell? ⟨g1, 3, none⟩ = some (.slice (some ⟨b, off, none⟩) l.length cl) := cell_far A3.out (HDR.out W hW)
          refine ⟨by kernel_rfl, ?_⟩
          gi_step
          exact hK _ _ (Fr.refl _ _) rfl trivial
        simp only [Act.put, List.setIfInBounds_toArray, List.set_cons_succ, List.set_cons_zero]
        refine factWalkG_cons (fun W hW hf K hK => ?_) (fun x2 => ?_)
        · skip
          refine ⟨by kernel_rfl, ?_⟩
          gi_step
          exact hK _ _ (Fr.refl _ _) rfl trivial
        simp only [Act.put, List.setIfInBounds_toArray, List.set_cons_succ, List.set_cons_zero]
        refine factWalkG_cons (fun W hW hf K hK => ?_) (fun x3 => ?_)
        · skip
          have e1 : x1 = .slice (some ⟨b, off, none⟩) l.length cl := hf 1 (by omega) (by kernel_rfl)
          have e2 : x2 = .int .i64 (i : Nat) := hf 2 (by omega) (by kernel_rfl)
          subst e1 e2
          have hl1 := HLT1.out
          refine ⟨by kernel_rfl, ?_⟩
          gi_step
          exact hK _ _ (Fr.refl _ _) rfl trivial
        simp only [Act.put, List.setIfInBounds_toArray, List.set_cons_succ, List.set_cons_zero]
        refine factWalkG_cons (fun W hW hf K hK => ?_) (fun x4 => ?_)
        · skip
          have e3 : x3 = .pointer (some ⟨b, off + i * 5, none⟩) := hf 3 (by omega) (by kernel_rfl)
          subst e3
          have hld := load_val (P := Tryz.prog) W b (off + i * 5) C (rng_far RG1.out (HDR.out W hW)) 25 _ Tryz.underlying25 rfl HS1.out
          refine ⟨by kernel_rfl, ?_⟩
          refine operIn_load 25 _ rfl _ rfl hld ?_
          exact hK _ _ (Fr.refl _ _) rfl trivial
        simp only [Act.put, List.setIfInBounds_toArray, List.set_cons_succ, List.set_cons_zero]
        refine factWalkG_cons (fun W hW hf K hK => ?_) (fun x5 => ?_)
        · skip
          refine ⟨by kernel_rfl, ?_⟩
          gi_step
          exact hK _ _ (Fr.refl _ _) rfl trivial
        simp only [Act.put, List.setIfInBounds_toArray, List.set_cons_succ, List.set_cons_zero]
        refine factWalkG_cons (fun W hW hf K hK => ?_) (fun x6 => ?_)
        · skip
          have e5 : x5 = .pointer (some ⟨g2, 3, none⟩) := hf 5 (by omega) (by kernel_rfl)
          subst e5
          have b3 : W.cell? ⟨g2, 3, none⟩ = some (.slice (some ⟨b', off', none⟩) l.length cl') := cell_far B3.out (HDR.out W hW)
          refine ⟨by kernel_rfl, ?_⟩
          gi_step
          exact hK _ _ (Fr.refl _ _) rfl trivial
        simp only [Act.put, List.setIfInBounds_toArray, List.set_cons_succ, List.set_cons_zero]
        refine factWalkG_cons (fun W hW hf K hK => ?_) (fun x7 => ?_)
        · skip
          refine ⟨by kernel_rfl, ?_⟩
          gi_step
          exact hK _ _ (Fr.refl _ _) rfl trivial
        simp only [Act.put, List.setIfInBounds_toArray, List.set_cons_succ, List.set_cons_zero]
        refine factWalkG_cons (fun W hW hf K hK => ?_) (fun x8 => ?_)
        · skip
          have e6 : x6 = .slice (some ⟨b', off', none⟩) l.length cl' := hf 6 (by omega) (by kernel_rfl)
          have e7 : x7 = .int .i64 (i : Nat) := hf 7 (by omega) (by kernel_rfl)
          subst e6 e7
          have hl2 := HLT2.out
          refine ⟨by kernel_rfl, ?_⟩
          gi_step
          exact hK _ _ (Fr.refl _ _) rfl trivial
        simp only [Act.put, List.setIfInBounds_toArray, List.set_cons_succ, List.set_cons_zero]
        refine factWalkG_cons (fun W hW hf K hK => ?_) (fun x9 => ?_)
        · skip
          have e8 : x8 = .pointer (some ⟨b', off' + i * 5, none⟩) := hf 8 (by omega) (by kernel_rfl)
          subst e8
          have hld := load_val (P := Tryz.prog) W b' (off' + i * 5) C' (rng_far RG2.out (HDR.out W hW)) 25 _ Tryz.underlying25 rfl HS2.out
          refine ⟨by kernel_rfl, ?_⟩
          refine operIn_load 25 _ rfl _ rfl hld ?_
          exact hK _ _ (Fr.refl _ _) rfl trivial
        simp only [Act.put, List.setIfInBounds_toArray, List.set_cons_succ, List.set_cons_zero]
        refine factWalkG_cons (fun W hW hf K hK => ?_) (fun x10 => ?_)
        · skip
          have e4 : x4 = .agg C := hf 4 (by omega) (by kernel_rfl)
          have e9 : x9 = .agg C' := hf 9 (by omega) (by kernel_rfl)
          subst e4 e9
          refine ⟨by kernel_rfl, ?_⟩
          gi_step
          refine ⟨trivial, ?_⟩
          refine (callsIn_wide.2 (HCALL.out W (HDR.out W hW))).mono ?_
          rintro e W' ⟨rfl, f2⟩
          dsimp only
          exact hK _ _ f2 rfl trivial
        simp only [Act.put, List.setIfInBounds_toArray, List.set_cons_succ, List.set_cons_zero]
        refine factWalkG_nil (fun W2 hW hf2 hmet => ?_)
        have e10 : x10 = .bool u := hf2 10 (by omega)
        subst e10
        have F2 := Lib.hid (hf.out.trans (HDR.out W2 hW) (fun _ _ h => h))
        have b1' := Lib.hid (keepB hb1.out (HDR.out W2 hW))
        have b2' := Lib.hid (keepB hb2'.out (HDR.out W2 hW))
        clear hf2 hmet hW HDR
        change wpAnyIn _ _ _ _ _ _ 1 _ _ _
        refine wpAnyIn_ready (rs := [11]) (by kernel_rfl) (by simp) ?_
        refine AllReadyIn.cons rfl (fun K hK => ?_) AllReadyIn.nil
        go_simp
        refine hK _ _ ?_
        clear hK
        refine wpAnyIn_done (by kernel_rfl) ?_ _
        cases u with
        | false =>
          have HF : Hid (z = false) := Lib.hid (by
            rw [← HZ3.out, Bool.eq_false_iff]
            intro e
            have := (eqvs_at H5.out).1 e i hlt hlt'
            rw [HU.out] at this
            cases this)
          go_wp2_with fail
          go_ret
          exact ⟨ret_bool HF.out.symm, F2.out⟩
        | true =>
          have HSM : Hid (∀ j (h1 : j < l.length) (h2 : j < l'.length), j < i + 1 → eqv l[j] l'[j] = true) := Lib.hid (fun j h1 h2 hj => by
            by_cases h : j = i
            · subst h; exact HU.out
            · exact hsm.out j h1 h2 (by omega))
          go_wp2_with fail
          go_roundw
          case rel => exact ⟨i + 1, by omega, by go_num, HSM.out, b1'.out, b2'.out, F2.out⟩
          case measure => simp [intOf]; omega
theorem rsame_c : ∀ (a b : V) (w : World) (D E : Nat → Prop) (C C' : Array Value), RdV D w C a → RdV E w C' b → Calls Tryz.prog 13 #[.agg C, .agg C'] w fun e w' => e = .returned (.bool (eqv a b)) ∧ Fr (fun _ => False) w w' := by
  intro a
  induction a using V.ind with
  | h k n t l ks ih =>
    intro b w D E C C' h h'
    obtain ⟨k1, n1, t1, l1, ks1, Al, cl, Ak, ck, css, e, rfl, hp⟩ := h.inv
    injection e with e1 e2 e3 e4 e5
    subst e1 e2 e3 e4 e5
    obtain ⟨k2, n2, t2, l2, ks2, Al', cl', Ak', ck', css', rfl, rfl, hq⟩ := h'.inv
    exact rsame_step w hp hq fun x hx W C C' y h1 h2 => ih x hx y W D E C C' h1 h2
end Go.Proofs.YtnkfkicabgajmaaGreatDoor
