/-
  Same, Cmp, Cmp2, in one text (merge.py).
-/
import Derived.Test.YtnkfkicabgajmaaGreatDoorSh

/-
  CONTRACTS of value.Same, and of slices.EqualFunc with it.
-/
namespace Go.Proofs.YtnkfkicabgajmaaGreatDoor
set_option linter.unusedSimpArgs false
set_option linter.unusedVariables false
open Go Go.RowKit

theorem lw5 : (Tryz.prog.info? 25).map (·.size) = some 5 := by kernel_rfl
theorem szV {D : Nat → Prop} {w : World} {C : Array Value} {v : V} (h : RdV D w C v) : (Tryz.prog.info? 25).map (·.size) = some C.size := by rw [h.size]; exact lw5
theorem oneV {D : Nat → Prop} {w : World} {C : Array Value} {v : V} (h : RdV D w C v) : C.all (·.oneCell') = true := by
  rw [Array.all_eq_true_iff_forall_mem]
  intro u hu
  exact h.one u (by simpa using hu)
/-- What is the same of the elements, one by one. -/
theorem eqvs_at {l m : List V} (h : l.length = m.length) : eqvs l m = true ↔ ∀ (i : Nat) (h1 : i < l.length) (h2 : i < m.length), eqv l[i] m[i] = true := by
  rw [eqvs_iff]
  constructor
  · rintro rfl i h1 h2
    rw [eqv_iff]
  · intro hi
    exact List.ext_getElem h (fun i h1 h2 => (eqv_iff _ _).1 (hi i h1 h2))
set_option maxRecDepth 100000 in
set_option maxHeartbeats 1000000 in
theorem eqF_c (w : World) {D E : Nat → Prop} {k n k' n' : Int} {t t' : List UInt8} {l l' : List V} {ks ks' : List (List UInt8)} {Al Ak Al' Ak' : Option Addr} {cl ck cl' ck' : Nat} {css css' : List (Array Value)}
    (hp : VP D w k n t l ks Al cl Ak ck css) (hq : VP E w k' n' t' l' ks' Al' cl' Ak' ck' css')
    (ih : ∀ (x : V), x ∈ l → ∀ (W : World) (C C' : Array Value) (y : V), RdV D W C x → RdV E W C' y → Calls Tryz.prog 23 #[.agg C, .agg C'] W fun e w' => e = .returned (.bool (eqv x y)) ∧ Fr (fun _ => False) W w') :
    Calls Tryz.prog 48 #[.slice Al l.length cl, .slice Al' l'.length cl', .func (.func 23) #[] #[]] w fun e w' => e = .returned (.bool (eqvs l l')) ∧ Fr (fun _ => False) w w' := by
  have hb2 := hp.b.ll
  have hb3 := hq.b.ll
  by_cases hl : l.length = l'.length
  · have dl : ((l.length : Int) != (l'.length : Int)) = false := by simp [hl]
    have dl' : (l.length != l'.length) = false := by simp [hl]
    have HP := Lib.hid hp
    have HQ := Lib.hid hq
    have IH := Lib.hid ih
    have HL := Lib.hid hl
    clear hp hq ih hl
    go_enter Tryz.func48, Tryz.ntmps48
    go_wp2_with fail
    go_loopw [17] (fun iv wr => ∃ i : Nat, i ≤ l.length ∧ iv = .int .i64 (i : Int) ∧ Hid (∀ (j : Nat) (h1 : j < l.length) (h2 : j < l'.length), j < i → eqv l[j] l'[j] = true) ∧ Hid (Fr (fun _ => False) w wr)) (fun iv _ => l.length - (intOf iv).toNat)
    case atStart => exact ⟨0, Nat.zero_le _, rfl, fun j h1 h2 h => by omega, Fr.refl _ _⟩
    case round =>
      obtain ⟨i, hi, rfl, he, hf⟩ := hrel
      by_cases hlt : i < l.length
      · have hdl : decide ((i : Int) < (l.length : Int)) = true := decide_eq_true (by omega)
        have hdl' : decide (i < l.length) = true := decide_eq_true hlt
        have hlt' : i < l'.length := by rw [← HL.out]; exact hlt
        obtain ⟨b, off, C, hA, hci, hrv, hrg, h5⟩ := (HP.out.far hf.out).at_ hlt
        subst hA
        obtain ⟨b', off', C', hA', hci', hrv', hrg', h5'⟩ := (HQ.out.far hf.out).at_ hlt'
        subst hA'
        have HR := Lib.hid hrv
        have HG := Lib.hid hrg
        have HR' := Lib.hid hrv'
        have HG' := Lib.hid hrg'
        clear hci hrv hrg h5 hci' hrv' hrg' h5'
        have HS := Lib.hid (szV HR.out)
        have HS' := Lib.hid (szV HR'.out)
        have HO := Lib.hid (oneV HR.out)
        have HO' := Lib.hid (oneV HR'.out)
        have H5 := Lib.hid HR.out.size
        have H5' := Lib.hid HR'.out.size
        go_upto_region 6 with (first
          | (refine wpList_load_val rfl 25 _ rfl b _ rfl C HG.out _ Tryz.underlying25 rfl HS.out ?_)
          | (refine wpList_store_blk rfl 25 _ _ rfl wr.heap.size C rfl rfl (Blk.new wr 25 _) H5.out HS.out HO.out ?_
             intro W1 q1 f1
             have F1 := Lib.hid (((Fr.refl (fun _ => False) wr).alloc _).trans f1 (fun i hi h => by have : i = wr.heap.size := h; omega))
             have Q1 := Lib.hid q1
             clear q1 f1))
        have HG1' := Lib.hid (rng_far HG'.out F1.out)
        clear HG HG'
        go_upto_region 7 with (first
          | (refine wpList_load_val rfl 25 _ rfl b' _ rfl C' HG1'.out _ Tryz.underlying25 rfl HS'.out ?_)
          | (refine wpList_store_blk rfl 25 _ _ rfl W1.heap.size C' rfl rfl (Blk.new W1 25 _) H5'.out HS'.out HO'.out ?_
             intro W2 q2 f2
             have F2 := Lib.hid (((Fr.refl (fun _ => False) W1).alloc _).trans f2 (fun i hi h => by have : i = W1.heap.size := h; omega))
             have Q2 := Lib.hid q2
             clear q2 f2))
        have FF := Lib.hid (F1.out.trans F2.out (fun _ _ h => h))
        have Q1' := Lib.hid (blk_all (keepB Q1.out F2.out))
        have Q2' := Lib.hid (blk_all Q2.out)
        clear HG1' Q1 Q2 F1 F2
        have CALL := Lib.hid (IH.out l[i] (List.getElem_mem hlt) W2 C C' l'[i] (HR.out.far FF.out) (HR'.out.far FF.out))
        generalize W1.heap.size = g2 at *
        generalize wr.heap.size = g1 at *
        go_wp2_with (first
          | (refine wpList_load_val rfl 25 _ rfl g1 _ rfl C Q1'.out _ Tryz.underlying25 rfl HS.out ?_)
          | (refine wpList_load_val rfl 25 _ rfl g2 _ rfl C' Q2'.out _ Tryz.underlying25 rfl HS'.out ?_))
        refine CALL.out.mono ?_
        rintro e W3 ⟨rfl, f3⟩
        have HF3 := Lib.hid (hf.out.trans (FF.out.trans f3 (fun _ _ h => h)) (fun _ _ h => h))
        clear f3 CALL Q1' Q2' FF
        obtain ⟨z, hz⟩ : ∃ z, eqv l[i] l'[i] = z := ⟨_, rfl⟩
        rw [hz]
        have HZ := Lib.hid hz
        clear hz
        cases z with
        | true =>
          go_wp2_with fail
          go_roundw
          case rel => exact ⟨i + 1, by omega, by go_num, fun j h1 h2 h => by
            rcases Nat.lt_or_ge j i with hj | hj
            · exact he.out j h1 h2 hj
            · obtain rfl : j = i := by omega
              exact HZ.out, HF3.out⟩
          case measure => simp [intOf]; omega
        | false =>
          have hno : eqvs l l' = false := by
            rw [Bool.eq_false_iff]
            intro h
            have := (eqvs_at HL.out).1 h i hlt hlt'
            rw [HZ.out] at this
            cases this
          have HN := Lib.hid hno
          clear hno
          go_wp2_with fail
          go_ret
          exact ⟨ret_bool HN.out.symm, HF3.out⟩
      · obtain rfl : i = l.length := by omega
        have hdl : decide ((l.length : Int) < (l.length : Int)) = false := decide_eq_false (by omega)
        have hdl' : decide (l.length < l.length) = false := decide_eq_false (by omega)
        have hyes : eqvs l l' = true := (eqvs_at HL.out).2 fun j h1 h2 => he.out j h1 h2 h1
        have HY := Lib.hid hyes
        clear hyes
        go_wp2_with fail
        go_ret
        exact ⟨ret_bool HY.out.symm, hf.out⟩
  · have dl : ((l.length : Int) != (l'.length : Int)) = true := by simp; omega
    have dl' : (l.length != l'.length) = true := by simp; omega
    have hno : eqvs l l' = false := by
      rw [Bool.eq_false_iff]
      intro h
      rw [eqvs_iff] at h
      exact hl (by rw [h])
    have HN := Lib.hid hno
    clear hno hp hq ih hl
    go_enter Tryz.func48, Tryz.ntmps48
    go_wp2_with fail
    go_ret
    exact ⟨ret_bool HN.out.symm, Fr.refl _ _⟩
theorem eqv_k {k n k' n' : Int} {t t' : List UInt8} {l l' : List V} {ks ks' : List (List UInt8)} : eqv (.mk k n t l ks) (.mk k' n' t' l' ks') = (k == k' && n == n' && t == t' && ks == ks' && eqvs l l') := by rw [eqv]
set_option maxRecDepth 100000 in
set_option maxHeartbeats 1000000 in
theorem same_step (w : World) {D E : Nat → Prop} {k n k' n' : Int} {t t' : List UInt8} {l l' : List V} {ks ks' : List (List UInt8)} {Al Ak Al' Ak' : Option Addr} {cl ck cl' ck' : Nat} {css css' : List (Array Value)}
    (hp : VP D w k n t l ks Al cl Ak ck css) (hq : VP E w k' n' t' l' ks' Al' cl' Ak' ck' css')
    (ih : ∀ (x : V), x ∈ l → ∀ (W : World) (C C' : Array Value) (y : V), RdV D W C x → RdV E W C' y → Calls Tryz.prog 23 #[.agg C, .agg C'] W fun e w' => e = .returned (.bool (eqv x y)) ∧ Fr (fun _ => False) W w') :
    Calls Tryz.prog 23 #[.agg (vcs k n t Al l.length cl Ak ks.length ck), .agg (vcs k' n' t' Al' l'.length cl' Ak' ks'.length ck')] w fun e w' => e = .returned (.bool (eqv (.mk k n t l ks) (.mk k' n' t' l' ks'))) ∧ Fr (fun _ => False) w w' := by
  have hst : ((strOf t).toList == (strOf t').toList) = (t == t') := by rw [strOf_toList, strOf_toList]
  have EQF := Lib.hid (fun W (hW : Fr (fun _ => False) w W) => eqF_c W (hp.far hW) (hq.far hW) ih)
  have EQS := Lib.hid (fun W (hW : Fr (fun _ => False) w W) => eqS_c W ck ck' (hp.far hW).kr (hq.far hW).kr hp.b.kl hq.b.kl)
  clear hp hq ih
  rw [eqv_k]
  have HK := Lib.hid hst
  clear hst
  by_cases h1 : k = k'
  case neg =>
    have d1 : (k == k') = false := by simpa using h1
    rw [d1]
    clear EQF EQS HK
    go_enter Tryz.func23, Tryz.ntmps23
    go_upto_region 1 with fail
    refine abs_world (fun W => Hid (Blk W w.heap.size 25 (vcs k n t Al l.length cl Ak ks.length ck)) ∧ Hid (Blk W (w.heap.size + 1) 25 (vcs k' n' t' Al' l'.length cl' Ak' ks'.length ck')) ∧ Hid (Fr (fun _ => False) w W)) ⟨(Blk.new w _ _).alloc _, Blk.new1 w _ _ _, ((Fr.refl _ w).alloc _).alloc _⟩ ?_
    rintro W1 ⟨B1, B2, F1⟩
    have a0 : W1.cell? ⟨w.heap.size, 0, none⟩ = some (.int .i64 k) := B1.out.cell 0
    have b0 : W1.cell? ⟨w.heap.size + 1, 0, none⟩ = some (.int .i64 k') := B2.out.cell 0
    have a1 : W1.cell? ⟨w.heap.size, 1, none⟩ = some (.int .i64 n) := B1.out.cell 1
    have b1 : W1.cell? ⟨w.heap.size + 1, 1, none⟩ = some (.int .i64 n') := B2.out.cell 1
    have a2 : W1.cell? ⟨w.heap.size, 2, none⟩ = some (.string (strOf t)) := B1.out.cell 2
    have b2 : W1.cell? ⟨w.heap.size + 1, 2, none⟩ = some (.string (strOf t')) := B2.out.cell 2
    have a3 : W1.cell? ⟨w.heap.size, 3, none⟩ = some (.slice Al l.length cl) := B1.out.cell 3
    have b3 : W1.cell? ⟨w.heap.size + 1, 3, none⟩ = some (.slice Al' l'.length cl') := B2.out.cell 3
    have a4 : W1.cell? ⟨w.heap.size, 4, none⟩ = some (.slice Ak ks.length ck) := B1.out.cell 4
    have b4 : W1.cell? ⟨w.heap.size + 1, 4, none⟩ = some (.slice Ak' ks'.length ck') := B2.out.cell 4
    go_wp2_with fail
    go_ret
    exact ⟨ret_bool (by simp), F1.out⟩
  obtain rfl := h1
  have d1 : (k == k) = true := by simp
  by_cases h2 : n = n'
  case neg =>
    have d2 : (n == n') = false := by simpa using h2
    rw [d2]
    clear EQF EQS HK
    go_enter Tryz.func23, Tryz.ntmps23
    go_upto_region 1 with fail
    refine abs_world (fun W => Hid (Blk W w.heap.size 25 (vcs k n t Al l.length cl Ak ks.length ck)) ∧ Hid (Blk W (w.heap.size + 1) 25 (vcs k n' t' Al' l'.length cl' Ak' ks'.length ck')) ∧ Hid (Fr (fun _ => False) w W)) ⟨(Blk.new w _ _).alloc _, Blk.new1 w _ _ _, ((Fr.refl _ w).alloc _).alloc _⟩ ?_
    rintro W1 ⟨B1, B2, F1⟩
    have a0 : W1.cell? ⟨w.heap.size, 0, none⟩ = some (.int .i64 k) := B1.out.cell 0
    have b0 : W1.cell? ⟨w.heap.size + 1, 0, none⟩ = some (.int .i64 k) := B2.out.cell 0
    have a1 : W1.cell? ⟨w.heap.size, 1, none⟩ = some (.int .i64 n) := B1.out.cell 1
    have b1 : W1.cell? ⟨w.heap.size + 1, 1, none⟩ = some (.int .i64 n') := B2.out.cell 1
    have a2 : W1.cell? ⟨w.heap.size, 2, none⟩ = some (.string (strOf t)) := B1.out.cell 2
    have b2 : W1.cell? ⟨w.heap.size + 1, 2, none⟩ = some (.string (strOf t')) := B2.out.cell 2
    have a3 : W1.cell? ⟨w.heap.size, 3, none⟩ = some (.slice Al l.length cl) := B1.out.cell 3
    have b3 : W1.cell? ⟨w.heap.size + 1, 3, none⟩ = some (.slice Al' l'.length cl') := B2.out.cell 3
    have a4 : W1.cell? ⟨w.heap.size, 4, none⟩ = some (.slice Ak ks.length ck) := B1.out.cell 4
    have b4 : W1.cell? ⟨w.heap.size + 1, 4, none⟩ = some (.slice Ak' ks'.length ck') := B2.out.cell 4
    go_wp2_with fail
    go_ret
    exact ⟨ret_bool (by simp), F1.out⟩
  obtain rfl := h2
  have d2 : (n == n) = true := by simp
  by_cases h3 : t = t'
  case neg =>
    have d3 : ((strOf t).toList == (strOf t').toList) = false := by rw [HK.out]; simpa using h3
    have d3' : (t == t') = false := by simpa using h3
    rw [d3']
    clear EQF EQS HK d3'
    go_enter Tryz.func23, Tryz.ntmps23
    go_upto_region 1 with fail
    refine abs_world (fun W => Hid (Blk W w.heap.size 25 (vcs k n t Al l.length cl Ak ks.length ck)) ∧ Hid (Blk W (w.heap.size + 1) 25 (vcs k n t' Al' l'.length cl' Ak' ks'.length ck')) ∧ Hid (Fr (fun _ => False) w W)) ⟨(Blk.new w _ _).alloc _, Blk.new1 w _ _ _, ((Fr.refl _ w).alloc _).alloc _⟩ ?_
    rintro W1 ⟨B1, B2, F1⟩
    have a0 : W1.cell? ⟨w.heap.size, 0, none⟩ = some (.int .i64 k) := B1.out.cell 0
    have b0 : W1.cell? ⟨w.heap.size + 1, 0, none⟩ = some (.int .i64 k) := B2.out.cell 0
    have a1 : W1.cell? ⟨w.heap.size, 1, none⟩ = some (.int .i64 n) := B1.out.cell 1
    have b1 : W1.cell? ⟨w.heap.size + 1, 1, none⟩ = some (.int .i64 n) := B2.out.cell 1
    have a2 : W1.cell? ⟨w.heap.size, 2, none⟩ = some (.string (strOf t)) := B1.out.cell 2
    have b2 : W1.cell? ⟨w.heap.size + 1, 2, none⟩ = some (.string (strOf t')) := B2.out.cell 2
    have a3 : W1.cell? ⟨w.heap.size, 3, none⟩ = some (.slice Al l.length cl) := B1.out.cell 3
    have b3 : W1.cell? ⟨w.heap.size + 1, 3, none⟩ = some (.slice Al' l'.length cl') := B2.out.cell 3
    have a4 : W1.cell? ⟨w.heap.size, 4, none⟩ = some (.slice Ak ks.length ck) := B1.out.cell 4
    have b4 : W1.cell? ⟨w.heap.size + 1, 4, none⟩ = some (.slice Ak' ks'.length ck') := B2.out.cell 4
    go_wp2_with fail
    go_ret
    exact ⟨ret_bool (by simp), F1.out⟩
  obtain rfl := h3
  have d3 : ((strOf t).toList == (strOf t).toList) = true := by simp
  rw [show (t == t) = true by simp, d1, d2]
  clear HK
  go_enter Tryz.func23, Tryz.ntmps23
  go_upto_region 1 with fail
  refine abs_world (fun W => Hid (Blk W w.heap.size 25 (vcs k n t Al l.length cl Ak ks.length ck)) ∧ Hid (Blk W (w.heap.size + 1) 25 (vcs k n t Al' l'.length cl' Ak' ks'.length ck')) ∧ Hid (Fr (fun _ => False) w W)) ⟨(Blk.new w _ _).alloc _, Blk.new1 w _ _ _, ((Fr.refl _ w).alloc _).alloc _⟩ ?_
  rintro W1 ⟨B1, B2, F1⟩
  have a0 : W1.cell? ⟨w.heap.size, 0, none⟩ = some (.int .i64 k) := B1.out.cell 0
  have b0 : W1.cell? ⟨w.heap.size + 1, 0, none⟩ = some (.int .i64 k) := B2.out.cell 0
  have a1 : W1.cell? ⟨w.heap.size, 1, none⟩ = some (.int .i64 n) := B1.out.cell 1
  have b1 : W1.cell? ⟨w.heap.size + 1, 1, none⟩ = some (.int .i64 n) := B2.out.cell 1
  have a2 : W1.cell? ⟨w.heap.size, 2, none⟩ = some (.string (strOf t)) := B1.out.cell 2
  have b2 : W1.cell? ⟨w.heap.size + 1, 2, none⟩ = some (.string (strOf t)) := B2.out.cell 2
  have a3 : W1.cell? ⟨w.heap.size, 3, none⟩ = some (.slice Al l.length cl) := B1.out.cell 3
  have b3 : W1.cell? ⟨w.heap.size + 1, 3, none⟩ = some (.slice Al' l'.length cl') := B2.out.cell 3
  have a4 : W1.cell? ⟨w.heap.size, 4, none⟩ = some (.slice Ak ks.length ck) := B1.out.cell 4
  have b4 : W1.cell? ⟨w.heap.size + 1, 4, none⟩ = some (.slice Ak' ks'.length ck') := B2.out.cell 4
  go_wp2_with fail
  refine (EQS.out W1 F1.out).mono ?_
  rintro e W2 ⟨rfl, f2⟩
  have F2 := Lib.hid (F1.out.trans f2 (fun _ _ h => h))
  have a3 : W2.cell? ⟨w.heap.size, 3, none⟩ = some (.slice Al l.length cl) := (keepB B1.out f2).cell 3
  have b3 : W2.cell? ⟨w.heap.size + 1, 3, none⟩ = some (.slice Al' l'.length cl') := (keepB B2.out f2).cell 3
  clear f2 a0 a1 a2 a4 b0 b1 b2 b4 B1 B2 EQS
  obtain ⟨z, hz⟩ : ∃ z, (ks == ks') = z := ⟨_, rfl⟩
  rw [hz]
  have HZ := Lib.hid hz
  clear hz
  cases z with
  | false =>
    go_wp2_with fail
    go_ret
    exact ⟨ret_bool (by rw [HZ.out]; simp), F2.out⟩
  | true =>
    go_wp2_with fail
    refine (EQF.out W2 F2.out).mono ?_
    rintro e W3 ⟨rfl, f3⟩
    have F3 := Lib.hid (F2.out.trans f3 (fun _ _ h => h))
    clear f3
    go_wp2_with fail
    go_ret
    exact ⟨ret_bool (by rw [HZ.out]; simp), F3.out⟩
theorem same_c : ∀ (a b : V) (w : World) (D E : Nat → Prop) (C C' : Array Value), RdV D w C a → RdV E w C' b → Calls Tryz.prog 23 #[.agg C, .agg C'] w fun e w' => e = .returned (.bool (eqv a b)) ∧ Fr (fun _ => False) w w' := by
  intro a
  induction a using V.ind with
  | h k n t l ks ih =>
    intro b w D E C C' h h'
    obtain ⟨k1, n1, t1, l1, ks1, Al, cl, Ak, ck, css, e, rfl, hp⟩ := h.inv
    injection e with e1 e2 e3 e4 e5
    subst e1 e2 e3 e4 e5
    obtain ⟨k2, n2, t2, l2, ks2, Al', cl', Ak', ck', css', rfl, rfl, hq⟩ := h'.inv
    exact same_step w hp hq fun x hx W C C' y h1 h2 => ih x hx y W D E C C' h1 h2
end Go.Proofs.YtnkfkicabgajmaaGreatDoor

/-
  CONTRACTS of value.order, cmpEntry, Cmp. Written by gen_cmp.py.
-/
namespace Go.Proofs.YtnkfkicabgajmaaGreatDoor
set_option linter.unusedSimpArgs false
set_option linter.unusedVariables false
open Go Go.RowKit

theorem load_val {P : Program} (W : World) (g off : Nat) (C : Array Value) (h : W.rangeAt g off C.toList) (ty : TypeId) (d : TypeDesc) (hu : P.underlying ty = some d) (hd : d.isRow = true) (hi : (P.info? ty).map (·.size) = some C.size) :
    (Instr.loadAt ty (.pointer (some ⟨g, off, none⟩))).run P W = .ok (.agg C) W := by
  have := run_loadAt_mid (P := P) W g off ty C.toList d h hu hd (by rw [Array.length_toList]; exact hi)
  rwa [Array.toArray_toList] at this
theorem compare_d (w : World) (a b : List UInt8) : Calls Tryz.prog 40 #[.string (strOf a), .string (strOf b)] w fun e w' => e = .returned (.int .i64 (cmpT a b)) ∧ w' = w := (compare_c w a b).mono fun e w' ⟨h1, h2⟩ => ⟨h1, h2.symm⟩
theorem order_c (w : World) (b : Bool) : Calls Tryz.prog 39 #[.bool b] w fun e w' => e = .returned (.int .i64 (ord b)) ∧ w = w' := by
  cases b <;>
  · go_enter Tryz.func39, Tryz.ntmps39
    go_wp2_with fail
    go_ret
    exact ⟨rfl, rfl⟩
def ceX (g1 g2 b off b' off' L M cl cm p9 : Nat) (C C' : Array Value) (u : Int) (i : Nat) (v : Value) (W : World) : Prop := match i with
  | 0 => v = .pointer (some ⟨g1, 3, none⟩)
  | 1 => v = .slice (some ⟨b, off, none⟩) L cl
  | 2 => v = .int .i64 (p9 : Nat)
  | 3 => v = .pointer (some ⟨b, off + p9 * 5, none⟩)
  | 4 => v = .agg C
  | 5 => v = .pointer (some ⟨g2, 3, none⟩)
  | 6 => v = .slice (some ⟨b', off', none⟩) M cm
  | 7 => v = .int .i64 (p9 : Nat)
  | 8 => v = .pointer (some ⟨b', off' + p9 * 5, none⟩)
  | 9 => v = .agg C'
  | 10 => v = .int .i64 u
  | _ => True
theorem ceX_far {g1 g2 b off b' off' L M cl cm p9 : Nat} {C C' : Array Value} {u : Int} {i : Nat} {v : Value} {W W' : World} (hg : Fr (fun _ => False) W W') (hx : ceX g1 g2 b off b' off' L M cl cm p9 C C' u i v W) : ceX g1 g2 b off b' off' L M cl cm p9 C C' u i v W' := by
  match i with
  | 0 => exact hx
  | 1 => exact hx
  | 2 => exact hx
  | 3 => exact hx
  | 4 => exact hx
  | 5 => exact hx
  | 6 => exact hx
  | 7 => exact hx
  | 8 => exact hx
  | 9 => exact hx
  | 10 => exact hx
  | (n + 11) => exact hx
/-- What an entry says. -/
def entC (ks js : List (List UInt8)) (i : Nat) : Int := if i < ks.length ∧ i < js.length then cmpT (ks.getD i []) (js.getD i []) else 0
set_option maxRecDepth 100000 in
set_option maxHeartbeats 2000000 in
theorem cmpEntry_c (w : World) {D E : Nat → Prop} {k n k' n' : Int} {t t' : List UInt8} {l l' : List V} {ks ks' : List (List UInt8)} {Al Ak Al' Ak' : Option Addr} {cl ck cl' ck' : Nat} {css css' : List (Array Value)}
    (hp : VP D w k n t l ks Al cl Ak ck css) (hq : VP E w k' n' t' l' ks' Al' cl' Ak' ck' css') (i : Nat) (hlt : i < l.length) (hlt' : i < l'.length)
    (ih : ∀ (x : V), x ∈ l → ∀ (W : World) (C C' : Array Value) (y : V), RdV D W C x → RdV E W C' y → Calls Tryz.prog 20 #[.agg C, .agg C'] W fun e w' => e = .returned (.int .i64 (cmpV x y)) ∧ Fr (fun _ => False) W w') :
    Calls Tryz.prog 41 #[.agg (vcs k n t Al l.length cl Ak ks.length ck), .agg (vcs k' n' t' Al' l'.length cl' Ak' ks'.length ck'), .int .i64 (i : Int)] w fun e w' => e = .returned (.int .i64 (lex (entC ks ks' i) (cmpV l[i] l'[i]))) ∧ Fr (fun _ => False) w w' := by
  obtain ⟨b, off, C, hA, hci, hrv, hrg, h5⟩ := hp.at_ hlt
  subst hA
  obtain ⟨b', off', C', hA', hci', hrv', hrg', h5'⟩ := hq.at_ hlt'
  subst hA'
  have hb2 := hp.b.ll
  have hb3 := hq.b.ll
  have hb4 := hp.b.kl
  have hb5 := hq.b.kl
  obtain ⟨u, hu⟩ : ∃ u, cmpV l[i] l'[i] = u := ⟨_, rfl⟩
  rw [hu]
  have HU := Lib.hid hu
  have HR := Lib.hid hrv
  have HG := Lib.hid hrg
  have HR' := Lib.hid hrv'
  have HG' := Lib.hid hrg'
  have HS1 := Lib.hid (szV hrv)
  have HS2 := Lib.hid (szV hrv')
  have IH := Lib.hid ih
  have HLT1 := Lib.hid (show (0 : Int) ≤ (i : Int) ∧ (i : Int) < (l.length : Int) by omega)
  have HLT2 := Lib.hid (show (0 : Int) ≤ (i : Int) ∧ (i : Int) < (l'.length : Int) by omega)
  have HP := Lib.hid hp
  have HQ := Lib.hid hq
  clear hu hci hrv hrg h5 hci' hrv' hrg' h5' hp hq ih
  by_cases h1 : i < ks.length
  case neg =>
    have he : entC ks ks' i = 0 := by unfold entC; rw [if_neg (fun h => h1 h.1)]
    have HE := Lib.hid he
    have d1 : decide ((i : Int) < (ks.length : Int)) = false := decide_eq_false (by omega)
    have d1' : decide (i < ks.length) = false := decide_eq_false h1
    clear he HP HQ
    go_enter Tryz.func41, Tryz.ntmps41
    go_upto_region 1 with fail
    refine abs_world (fun W => Hid (Blk W w.heap.size 25 (vcs k n t (some ⟨b, off, none⟩) l.length cl Ak ks.length ck)) ∧ Hid (Blk W (w.heap.size + 1) 25 (vcs k' n' t' (some ⟨b', off', none⟩) l'.length cl' Ak' ks'.length ck')) ∧ Hid (Fr (fun _ => False) w W)) ⟨(Blk.new w _ _).alloc _, Blk.new1 w _ _ _, ((Fr.refl _ w).alloc _).alloc _⟩ ?_
    rintro W1 ⟨B1, B2, F1⟩
    have a4 : W1.cell? ⟨w.heap.size, 4, none⟩ = some (.slice Ak ks.length ck) := B1.out.cell 4
    have b4 : W1.cell? ⟨w.heap.size + 1, 4, none⟩ = some (.slice Ak' ks'.length ck') := B2.out.cell 4
    go_upto_region 5 with fail
    have A3 := Lib.hid (show W1.cell? ⟨w.heap.size, 3, none⟩ = some (.slice (some ⟨b, off, none⟩) l.length cl) from B1.out.cell 3)
    have B3 := Lib.hid (show W1.cell? ⟨w.heap.size + 1, 3, none⟩ = some (.slice (some ⟨b', off', none⟩) l'.length cl') from B2.out.cell 3)
    have RG1 := Lib.hid (rng_far HG.out F1.out)
    have RG2 := Lib.hid (rng_far HG'.out F1.out)
    have HCALL : Hid (∀ W, Fr (fun _ => False) W1 W → Calls Tryz.prog 20 #[.agg C, .agg C'] W fun e w' => e = .returned (.int .i64 u) ∧ Fr (fun _ => False) W w') := fun W hW => by
      have h1 := F1.out.trans hW (fun _ _ h => h)
      have := IH.out l[i] (List.getElem_mem hlt) W C C' l'[i] (HR.out.far h1) (HR'.out.far h1)
      rw [HU.out] at this
      exact this
    have FW1 := Lib.hid F1.out
    clear B1 B2 a4 b4
    clear F1 HG HG' HR HR'
    generalize hg2 : w.heap.size + 1 = g2 at A3 B3 ⊢
    generalize hg1 : w.heap.size = g1 at A3 B3 ⊢
    clear hg1 hg2
    refine (wpIn_wide (n := 9)).1 ?_
    refine wpIn_region_factsG (ms := [0, 1, 0, 7, 15, 0, 32, 0, 224, 480, 1023, 2047]) (k := 11) (Fr (fun _ => False)) (ceX g1 g2 b off b' off' l.length l'.length cl cl' i C C' u) (fun i v W => True) (by kernel_rfl) (by kernel_rfl) (Fr.refl _ _) (fun a b c h1 h2 => h1.trans h2 (fun _ _ h => h)) (fun i v w w' hg hx => ceX_far hg hx) ?walk5
    case walk5 =>
    have hdr : ∀ W, Fr (fun _ => False) W1.drew W → Fr (fun _ => False) W1 W := fun W h => ((Fr.refl (fun _ => False) W1).drew).trans h (fun _ _ h => h)
    have HDR := Lib.hid hdr
    clear hdr
    refine factWalkG_cons (fun W hW hf K hK => ?_) (fun x0 => ?_)
    · skip
      refine ⟨by kernel_rfl, ?_⟩
      gi_step
      exact hK _ _ (Fr.refl _ _) rfl trivial
    simp only [Act.put, List.setIfInBounds_toArray, List.set_cons_succ, List.set_cons_zero]
    refine factWalkG_cons (fun W hW hf K hK => ?_) (fun x1 => ?_)
    · skip
      have e0 : x0 = .pointer (some ⟨g1, 3, none⟩) := hf 0 (by omega) (by kernel_rfl)
      subst e0
      have a3 : W.cell? ⟨g1, 3, none⟩ = some (.slice (some ⟨b, off, none⟩) l.length cl) := cell_far A3.out (HDR.out W hW)
      refine ⟨by kernel_rfl, ?_⟩
      gi_step
      exact hK _ _ (Fr.refl _ _) rfl trivial
    simp only [Act.put, List.setIfInBounds_toArray, List.set_cons_succ, List.set_cons_zero]
    refine factWalkG_cons (fun W hW hf K hK => ?_) (fun x2 => ?_)
    · skip
      refine ⟨by kernel_rfl, ?_⟩
      gi_step
      exact hK _ _ (Fr.refl _ _) rfl trivial
    simp only [Act.put, List.setIfInBounds_toArray, List.set_cons_succ, List.set_cons_zero]
    refine factWalkG_cons (fun W hW hf K hK => ?_) (fun x3 => ?_)
    · skip
      have e1 : x1 = .slice (some ⟨b, off, none⟩) l.length cl := hf 1 (by omega) (by kernel_rfl)
      have e2 : x2 = .int .i64 (i : Nat) := hf 2 (by omega) (by kernel_rfl)
      subst e1 e2
      have hl1 := HLT1.out
      refine ⟨by kernel_rfl, ?_⟩
      gi_step
      exact hK _ _ (Fr.refl _ _) rfl trivial
    simp only [Act.put, List.setIfInBounds_toArray, List.set_cons_succ, List.set_cons_zero]
    refine factWalkG_cons (fun W hW hf K hK => ?_) (fun x4 => ?_)
    · skip
      have e3 : x3 = .pointer (some ⟨b, off + i * 5, none⟩) := hf 3 (by omega) (by kernel_rfl)
      subst e3
      have hld := load_val (P := Tryz.prog) W b (off + i * 5) C (rng_far RG1.out (HDR.out W hW)) 25 _ Tryz.underlying25 rfl HS1.out
      refine ⟨by kernel_rfl, ?_⟩
      refine operIn_load 25 _ rfl _ rfl hld ?_
      exact hK _ _ (Fr.refl _ _) rfl trivial
    simp only [Act.put, List.setIfInBounds_toArray, List.set_cons_succ, List.set_cons_zero]
    refine factWalkG_cons (fun W hW hf K hK => ?_) (fun x5 => ?_)
    · skip
      refine ⟨by kernel_rfl, ?_⟩
      gi_step
      exact hK _ _ (Fr.refl _ _) rfl trivial
    simp only [Act.put, List.setIfInBounds_toArray, List.set_cons_succ, List.set_cons_zero]
    refine factWalkG_cons (fun W hW hf K hK => ?_) (fun x6 => ?_)
    · skip
      have e5 : x5 = .pointer (some ⟨g2, 3, none⟩) := hf 5 (by omega) (by kernel_rfl)
      subst e5
      have b3 : W.cell? ⟨g2, 3, none⟩ = some (.slice (some ⟨b', off', none⟩) l'.length cl') := cell_far B3.out (HDR.out W hW)
      refine ⟨by kernel_rfl, ?_⟩
      gi_step
      exact hK _ _ (Fr.refl _ _) rfl trivial
    simp only [Act.put, List.setIfInBounds_toArray, List.set_cons_succ, List.set_cons_zero]
    refine factWalkG_cons (fun W hW hf K hK => ?_) (fun x7 => ?_)
    · skip
      refine ⟨by kernel_rfl, ?_⟩
      gi_step
      exact hK _ _ (Fr.refl _ _) rfl trivial
    simp only [Act.put, List.setIfInBounds_toArray, List.set_cons_succ, List.set_cons_zero]
    refine factWalkG_cons (fun W hW hf K hK => ?_) (fun x8 => ?_)
    · skip
      have e6 : x6 = .slice (some ⟨b', off', none⟩) l'.length cl' := hf 6 (by omega) (by kernel_rfl)
      have e7 : x7 = .int .i64 (i : Nat) := hf 7 (by omega) (by kernel_rfl)
      subst e6 e7
      have hl2 := HLT2.out
      refine ⟨by kernel_rfl, ?_⟩
      gi_step
      exact hK _ _ (Fr.refl _ _) rfl trivial
    simp only [Act.put, List.setIfInBounds_toArray, List.set_cons_succ, List.set_cons_zero]
    refine factWalkG_cons (fun W hW hf K hK => ?_) (fun x9 => ?_)
    · skip
      have e8 : x8 = .pointer (some ⟨b', off' + i * 5, none⟩) := hf 8 (by omega) (by kernel_rfl)
      subst e8
      have hld := load_val (P := Tryz.prog) W b' (off' + i * 5) C' (rng_far RG2.out (HDR.out W hW)) 25 _ Tryz.underlying25 rfl HS2.out
      refine ⟨by kernel_rfl, ?_⟩
      refine operIn_load 25 _ rfl _ rfl hld ?_
      exact hK _ _ (Fr.refl _ _) rfl trivial
    simp only [Act.put, List.setIfInBounds_toArray, List.set_cons_succ, List.set_cons_zero]
    refine factWalkG_cons (fun W hW hf K hK => ?_) (fun x10 => ?_)
    · skip
      have e4 : x4 = .agg C := hf 4 (by omega) (by kernel_rfl)
      have e9 : x9 = .agg C' := hf 9 (by omega) (by kernel_rfl)
      subst e4 e9
      refine ⟨by kernel_rfl, ?_⟩
      gi_step
      refine ⟨trivial, ?_⟩
      refine (callsIn_wide.2 (HCALL.out W (HDR.out W hW))).mono ?_
      rintro e W' ⟨rfl, f2⟩
      dsimp only
      exact hK _ _ f2 rfl trivial
    simp only [Act.put, List.setIfInBounds_toArray, List.set_cons_succ, List.set_cons_zero]
    refine factWalkG_nil (fun W hW hf hmet => ?_)
    have e10 : x10 = .int .i64 u := hf 10 (by omega)
    subst e10
    have F8 := Lib.hid (FW1.out.trans (HDR.out W hW) (fun _ _ h => h))
    clear hf hmet hW HDR
    change wpAnyIn _ _ _ _ _ _ 1 _ _ _
    refine wpAnyIn_ready (rs := [11]) (by kernel_rfl) (by simp) ?_
    refine AllReadyIn.cons rfl (fun K hK => ?_) AllReadyIn.nil
    go_simp
    refine hK _ _ ?_
    refine wpAnyIn_done (by kernel_rfl) ?_ _
    go_wp2_with fail
    go_ret
    exact ⟨ret_int (by rw [HE.out]; rfl), F8.out⟩
  have d1 : decide ((i : Int) < (ks.length : Int)) = true := decide_eq_true (by omega)
  have d1' : decide (i < ks.length) = true := decide_eq_true h1
  by_cases h2 : i < ks'.length
  case neg =>
    have he : entC ks ks' i = 0 := by unfold entC; rw [if_neg (fun h => h2 h.2)]
    have HE := Lib.hid he
    have d2 : decide ((i : Int) < (ks'.length : Int)) = false := decide_eq_false (by omega)
    have d2' : decide (i < ks'.length) = false := decide_eq_false h2
    clear he HP HQ
    go_enter Tryz.func41, Tryz.ntmps41
    go_upto_region 1 with fail
    refine abs_world (fun W => Hid (Blk W w.heap.size 25 (vcs k n t (some ⟨b, off, none⟩) l.length cl Ak ks.length ck)) ∧ Hid (Blk W (w.heap.size + 1) 25 (vcs k' n' t' (some ⟨b', off', none⟩) l'.length cl' Ak' ks'.length ck')) ∧ Hid (Fr (fun _ => False) w W)) ⟨(Blk.new w _ _).alloc _, Blk.new1 w _ _ _, ((Fr.refl _ w).alloc _).alloc _⟩ ?_
    rintro W1 ⟨B1, B2, F1⟩
    have a4 : W1.cell? ⟨w.heap.size, 4, none⟩ = some (.slice Ak ks.length ck) := B1.out.cell 4
    have b4 : W1.cell? ⟨w.heap.size + 1, 4, none⟩ = some (.slice Ak' ks'.length ck') := B2.out.cell 4
    go_upto_region 5 with fail
    have A3 := Lib.hid (show W1.cell? ⟨w.heap.size, 3, none⟩ = some (.slice (some ⟨b, off, none⟩) l.length cl) from B1.out.cell 3)
    have B3 := Lib.hid (show W1.cell? ⟨w.heap.size + 1, 3, none⟩ = some (.slice (some ⟨b', off', none⟩) l'.length cl') from B2.out.cell 3)
    have RG1 := Lib.hid (rng_far HG.out F1.out)
    have RG2 := Lib.hid (rng_far HG'.out F1.out)
    have HCALL : Hid (∀ W, Fr (fun _ => False) W1 W → Calls Tryz.prog 20 #[.agg C, .agg C'] W fun e w' => e = .returned (.int .i64 u) ∧ Fr (fun _ => False) W w') := fun W hW => by
      have h1 := F1.out.trans hW (fun _ _ h => h)
      have := IH.out l[i] (List.getElem_mem hlt) W C C' l'[i] (HR.out.far h1) (HR'.out.far h1)
      rw [HU.out] at this
      exact this
    have FW1 := Lib.hid F1.out
    clear B1 B2 a4 b4
    clear F1 HG HG' HR HR'
    generalize hg2 : w.heap.size + 1 = g2 at A3 B3 ⊢
    generalize hg1 : w.heap.size = g1 at A3 B3 ⊢
    clear hg1 hg2
    refine (wpIn_wide (n := 9)).1 ?_
    refine wpIn_region_factsG (ms := [0, 1, 0, 7, 15, 0, 32, 0, 224, 480, 1023, 2047]) (k := 11) (Fr (fun _ => False)) (ceX g1 g2 b off b' off' l.length l'.length cl cl' i C C' u) (fun i v W => True) (by kernel_rfl) (by kernel_rfl) (Fr.refl _ _) (fun a b c h1 h2 => h1.trans h2 (fun _ _ h => h)) (fun i v w w' hg hx => ceX_far hg hx) ?walk5
    case walk5 =>
    have hdr : ∀ W, Fr (fun _ => False) W1.drew W → Fr (fun _ => False) W1 W := fun W h => ((Fr.refl (fun _ => False) W1).drew).trans h (fun _ _ h => h)
    have HDR := Lib.hid hdr
    clear hdr
    refine factWalkG_cons (fun W hW hf K hK => ?_) (fun x0 => ?_)
    · skip
      refine ⟨by kernel_rfl, ?_⟩
      gi_step
      exact hK _ _ (Fr.refl _ _) rfl trivial
    simp only [Act.put, List.setIfInBounds_toArray, List.set_cons_succ, List.set_cons_zero]
    refine factWalkG_cons (fun W hW hf K hK => ?_) (fun x1 => ?_)
    · skip
      have e0 : x0 = .pointer (some ⟨g1, 3, none⟩) := hf 0 (by omega) (by kernel_rfl)
      subst e0
      have a3 : W.cell? ⟨g1, 3, none⟩ = some (.slice (some ⟨b, off, none⟩) l.length cl) := cell_far A3.out (HDR.out W hW)
      refine ⟨by kernel_rfl, ?_⟩
      gi_step
      exact hK _ _ (Fr.refl _ _) rfl trivial
    simp only [Act.put, List.setIfInBounds_toArray, List.set_cons_succ, List.set_cons_zero]
    refine factWalkG_cons (fun W hW hf K hK => ?_) (fun x2 => ?_)
    · skip
      refine ⟨by kernel_rfl, ?_⟩
      gi_step
      exact hK _ _ (Fr.refl _ _) rfl trivial
    simp only [Act.put, List.setIfInBounds_toArray, List.set_cons_succ, List.set_cons_zero]
    refine factWalkG_cons (fun W hW hf K hK => ?_) (fun x3 => ?_)
    · skip
      have e1 : x1 = .slice (some ⟨b, off, none⟩) l.length cl := hf 1 (by omega) (by kernel_rfl)
      have e2 : x2 = .int .i64 (i : Nat) := hf 2 (by omega) (by kernel_rfl)
      subst e1 e2
      have hl1 := HLT1.out
      refine ⟨by kernel_rfl, ?_⟩
      gi_step
      exact hK _ _ (Fr.refl _ _) rfl trivial
    simp only [Act.put, List.setIfInBounds_toArray, List.set_cons_succ, List.set_cons_zero]
    refine factWalkG_cons (fun W hW hf K hK => ?_) (fun x4 => ?_)
    · skip
      have e3 : x3 = .pointer (some ⟨b, off + i * 5, none⟩) := hf 3 (by omega) (by kernel_rfl)
      subst e3
      have hld := load_val (P := Tryz.prog) W b (off + i * 5) C (rng_far RG1.out (HDR.out W hW)) 25 _ Tryz.underlying25 rfl HS1.out
      refine ⟨by kernel_rfl, ?_⟩
      refine operIn_load 25 _ rfl _ rfl hld ?_
      exact hK _ _ (Fr.refl _ _) rfl trivial
    simp only [Act.put, List.setIfInBounds_toArray, List.set_cons_succ, List.set_cons_zero]
    refine factWalkG_cons (fun W hW hf K hK => ?_) (fun x5 => ?_)
    · skip
      refine ⟨by kernel_rfl, ?_⟩
      gi_step
      exact hK _ _ (Fr.refl _ _) rfl trivial
    simp only [Act.put, List.setIfInBounds_toArray, List.set_cons_succ, List.set_cons_zero]
    refine factWalkG_cons (fun W hW hf K hK => ?_) (fun x6 => ?_)
    · skip
      have e5 : x5 = .pointer (some ⟨g2, 3, none⟩) := hf 5 (by omega) (by kernel_rfl)
      subst e5
      have b3 : W.cell? ⟨g2, 3, none⟩ = some (.slice (some ⟨b', off', none⟩) l'.length cl') := cell_far B3.out (HDR.out W hW)
      refine ⟨by kernel_rfl, ?_⟩
      gi_step
      exact hK _ _ (Fr.refl _ _) rfl trivial
    simp only [Act.put, List.setIfInBounds_toArray, List.set_cons_succ, List.set_cons_zero]
    refine factWalkG_cons (fun W hW hf K hK => ?_) (fun x7 => ?_)
    · skip
      refine ⟨by kernel_rfl, ?_⟩
      gi_step
      exact hK _ _ (Fr.refl _ _) rfl trivial
    simp only [Act.put, List.setIfInBounds_toArray, List.set_cons_succ, List.set_cons_zero]
    refine factWalkG_cons (fun W hW hf K hK => ?_) (fun x8 => ?_)
    · skip
      have e6 : x6 = .slice (some ⟨b', off', none⟩) l'.length cl' := hf 6 (by omega) (by kernel_rfl)
      have e7 : x7 = .int .i64 (i : Nat) := hf 7 (by omega) (by kernel_rfl)
      subst e6 e7
      have hl2 := HLT2.out
      refine ⟨by kernel_rfl, ?_⟩
      gi_step
      exact hK _ _ (Fr.refl _ _) rfl trivial
    simp only [Act.put, List.setIfInBounds_toArray, List.set_cons_succ, List.set_cons_zero]
    refine factWalkG_cons (fun W hW hf K hK => ?_) (fun x9 => ?_)
    · skip
      have e8 : x8 = .pointer (some ⟨b', off' + i * 5, none⟩) := hf 8 (by omega) (by kernel_rfl)
      subst e8
      have hld := load_val (P := Tryz.prog) W b' (off' + i * 5) C' (rng_far RG2.out (HDR.out W hW)) 25 _ Tryz.underlying25 rfl HS2.out
      refine ⟨by kernel_rfl, ?_⟩
      refine operIn_load 25 _ rfl _ rfl hld ?_
      exact hK _ _ (Fr.refl _ _) rfl trivial
    simp only [Act.put, List.setIfInBounds_toArray, List.set_cons_succ, List.set_cons_zero]
    refine factWalkG_cons (fun W hW hf K hK => ?_) (fun x10 => ?_)
    · skip
      have e4 : x4 = .agg C := hf 4 (by omega) (by kernel_rfl)
      have e9 : x9 = .agg C' := hf 9 (by omega) (by kernel_rfl)
      subst e4 e9
      refine ⟨by kernel_rfl, ?_⟩
      gi_step
      refine ⟨trivial, ?_⟩
      refine (callsIn_wide.2 (HCALL.out W (HDR.out W hW))).mono ?_
      rintro e W' ⟨rfl, f2⟩
      dsimp only
      exact hK _ _ f2 rfl trivial
    simp only [Act.put, List.setIfInBounds_toArray, List.set_cons_succ, List.set_cons_zero]
    refine factWalkG_nil (fun W hW hf hmet => ?_)
    have e10 : x10 = .int .i64 u := hf 10 (by omega)
    subst e10
    have F8 := Lib.hid (FW1.out.trans (HDR.out W hW) (fun _ _ h => h))
    clear hf hmet hW HDR
    change wpAnyIn _ _ _ _ _ _ 1 _ _ _
    refine wpAnyIn_ready (rs := [11]) (by kernel_rfl) (by simp) ?_
    refine AllReadyIn.cons rfl (fun K hK => ?_) AllReadyIn.nil
    go_simp
    refine hK _ _ ?_
    refine wpAnyIn_done (by kernel_rfl) ?_ _
    go_wp2_with fail
    go_ret
    exact ⟨ret_int (by rw [HE.out]; rfl), F8.out⟩
  have d2 : decide ((i : Int) < (ks'.length : Int)) = true := decide_eq_true (by omega)
  have d2' : decide (i < ks'.length) = true := decide_eq_true h2
  have he : entC ks ks' i = cmpT ks[i] ks'[i] := by unfold entC; rw [if_pos ⟨h1, h2⟩]; simp [h1, h2]
  have HE := Lib.hid he
  obtain ⟨q, qo, hAk, hkc⟩ := HP.out.key h1
  subst hAk
  obtain ⟨q', qo', hAk', hkc'⟩ := HQ.out.key h2
  subst hAk'
  have HK := Lib.hid hkc
  have HK' := Lib.hid hkc'
  clear he HP HQ hkc hkc'
  by_cases hz : cmpT ks[i] ks'[i] = 0
  case pos =>
    have d3 : (cmpT ks[i] ks'[i] != 0) = false := by simpa using hz
    have HZ := Lib.hid hz
    clear hz
    go_enter Tryz.func41, Tryz.ntmps41
    go_upto_region 1 with fail
    refine abs_world (fun W => Hid (Blk W w.heap.size 25 (vcs k n t (some ⟨b, off, none⟩) l.length cl (some ⟨q, qo, none⟩) ks.length ck)) ∧ Hid (Blk W (w.heap.size + 1) 25 (vcs k' n' t' (some ⟨b', off', none⟩) l'.length cl' (some ⟨q', qo', none⟩) ks'.length ck')) ∧ Hid (Fr (fun _ => False) w W)) ⟨(Blk.new w _ _).alloc _, Blk.new1 w _ _ _, ((Fr.refl _ w).alloc _).alloc _⟩ ?_
    rintro W1 ⟨B1, B2, F1⟩
    have a4 : W1.cell? ⟨w.heap.size, 4, none⟩ = some (.slice (some ⟨q, qo, none⟩) ks.length ck) := B1.out.cell 4
    have b4 : W1.cell? ⟨w.heap.size + 1, 4, none⟩ = some (.slice (some ⟨q', qo', none⟩) ks'.length ck') := B2.out.cell 4
    go_upto_region 2 with fail
    have kc := cell_far HK.out F1.out
    have kc' := cell_far HK'.out F1.out
    have i0 : (0 : Int) ≤ (i : Int) ∧ (i : Int) < (ks.length : Int) := by omega
    have i1 : (0 : Int) ≤ (i : Int) ∧ (i : Int) < (ks'.length : Int) := by omega
    go_quiet ((go_at_call 40; exact Calls.quiet_of_same (compare_d _ _ _)))
    go_wp2_with fail
    refine abs_world (fun W => Hid (Blk W w.heap.size 25 (vcs k n t (some ⟨b, off, none⟩) l.length cl (some ⟨q, qo, none⟩) ks.length ck)) ∧ Hid (Blk W (w.heap.size + 1) 25 (vcs k' n' t' (some ⟨b', off', none⟩) l'.length cl' (some ⟨q', qo', none⟩) ks'.length ck')) ∧ Hid (Fr (fun _ => False) w W)) ⟨B1.out.drewN _, B2.out.drewN _, F1.out.drewN _⟩ ?_
    clear B1 B2 F1 a4 b4 kc kc' i0 i1
    rintro W1 ⟨B1, B2, F1⟩
    have A3 := Lib.hid (show W1.cell? ⟨w.heap.size, 3, none⟩ = some (.slice (some ⟨b, off, none⟩) l.length cl) from B1.out.cell 3)
    have B3 := Lib.hid (show W1.cell? ⟨w.heap.size + 1, 3, none⟩ = some (.slice (some ⟨b', off', none⟩) l'.length cl') from B2.out.cell 3)
    have RG1 := Lib.hid (rng_far HG.out F1.out)
    have RG2 := Lib.hid (rng_far HG'.out F1.out)
    have HCALL : Hid (∀ W, Fr (fun _ => False) W1 W → Calls Tryz.prog 20 #[.agg C, .agg C'] W fun e w' => e = .returned (.int .i64 u) ∧ Fr (fun _ => False) W w') := fun W hW => by
      have h1 := F1.out.trans hW (fun _ _ h => h)
      have := IH.out l[i] (List.getElem_mem hlt) W C C' l'[i] (HR.out.far h1) (HR'.out.far h1)
      rw [HU.out] at this
      exact this
    have FW1 := Lib.hid F1.out
    clear B1 B2
    clear F1 HG HG' HR HR'
    generalize hg2 : w.heap.size + 1 = g2 at A3 B3 ⊢
    generalize hg1 : w.heap.size = g1 at A3 B3 ⊢
    clear hg1 hg2
    refine (wpIn_wide (n := 9)).1 ?_
    refine wpIn_region_factsG (ms := [0, 1, 0, 7, 15, 0, 32, 0, 224, 480, 1023, 2047]) (k := 11) (Fr (fun _ => False)) (ceX g1 g2 b off b' off' l.length l'.length cl cl' i C C' u) (fun i v W => True) (by kernel_rfl) (by kernel_rfl) (Fr.refl _ _) (fun a b c h1 h2 => h1.trans h2 (fun _ _ h => h)) (fun i v w w' hg hx => ceX_far hg hx) ?walk5
    case walk5 =>
    have hdr : ∀ W, Fr (fun _ => False) W1.drew W → Fr (fun _ => False) W1 W := fun W h => ((Fr.refl (fun _ => False) W1).drew).trans h (fun _ _ h => h)
    have HDR := Lib.hid hdr
    clear hdr
    refine factWalkG_cons (fun W hW hf K hK => ?_) (fun x0 => ?_)
    · skip
      refine ⟨by kernel_rfl, ?_⟩
      gi_step
      exact hK _ _ (Fr.refl _ _) rfl trivial
    simp only [Act.put, List.setIfInBounds_toArray, List.set_cons_succ, List.set_cons_zero]
    refine factWalkG_cons (fun W hW hf K hK => ?_) (fun x1 => ?_)
    · skip
      have e0 : x0 = .pointer (some ⟨g1, 3, none⟩) := hf 0 (by omega) (by kernel_rfl)
      subst e0
      have a3 : W.cell? ⟨g1, 3, none⟩ = some (.slice (some ⟨b, off, none⟩) l.length cl) := cell_far A3.out (HDR.out W hW)
      refine ⟨by kernel_rfl, ?_⟩
      gi_step
      exact hK _ _ (Fr.refl _ _) rfl trivial
    simp only [Act.put, List.setIfInBounds_toArray, List.set_cons_succ, List.set_cons_zero]
    refine factWalkG_cons (fun W hW hf K hK => ?_) (fun x2 => ?_)
    · skip
      refine ⟨by kernel_rfl, ?_⟩
      gi_step
      exact hK _ _ (Fr.refl _ _) rfl trivial
    simp only [Act.put, List.setIfInBounds_toArray, List.set_cons_succ, List.set_cons_zero]
    refine factWalkG_cons (fun W hW hf K hK => ?_) (fun x3 => ?_)
    · skip
      have e1 : x1 = .slice (some ⟨b, off, none⟩) l.length cl := hf 1 (by omega) (by kernel_rfl)
      have e2 : x2 = .int .i64 (i : Nat) := hf 2 (by omega) (by kernel_rfl)
      subst e1 e2
      have hl1 := HLT1.out
      refine ⟨by kernel_rfl, ?_⟩
      gi_step
      exact hK _ _ (Fr.refl _ _) rfl trivial
    simp only [Act.put, List.setIfInBounds_toArray, List.set_cons_succ, List.set_cons_zero]
    refine factWalkG_cons (fun W hW hf K hK => ?_) (fun x4 => ?_)
    · skip
      have e3 : x3 = .pointer (some ⟨b, off + i * 5, none⟩) := hf 3 (by omega) (by kernel_rfl)
      subst e3
      have hld := load_val (P := Tryz.prog) W b (off + i * 5) C (rng_far RG1.out (HDR.out W hW)) 25 _ Tryz.underlying25 rfl HS1.out
      refine ⟨by kernel_rfl, ?_⟩
      refine operIn_load 25 _ rfl _ rfl hld ?_
      exact hK _ _ (Fr.refl _ _) rfl trivial
    simp only [Act.put, List.setIfInBounds_toArray, List.set_cons_succ, List.set_cons_zero]
    refine factWalkG_cons (fun W hW hf K hK => ?_) (fun x5 => ?_)
    · skip
      refine ⟨by kernel_rfl, ?_⟩
      gi_step
      exact hK _ _ (Fr.refl _ _) rfl trivial
    simp only [Act.put, List.setIfInBounds_toArray, List.set_cons_succ, List.set_cons_zero]
    refine factWalkG_cons (fun W hW hf K hK => ?_) (fun x6 => ?_)
    · skip
      have e5 : x5 = .pointer (some ⟨g2, 3, none⟩) := hf 5 (by omega) (by kernel_rfl)
      subst e5
      have b3 : W.cell? ⟨g2, 3, none⟩ = some (.slice (some ⟨b', off', none⟩) l'.length cl') := cell_far B3.out (HDR.out W hW)
      refine ⟨by kernel_rfl, ?_⟩
      gi_step
      exact hK _ _ (Fr.refl _ _) rfl trivial
    simp only [Act.put, List.setIfInBounds_toArray, List.set_cons_succ, List.set_cons_zero]
    refine factWalkG_cons (fun W hW hf K hK => ?_) (fun x7 => ?_)
    · skip
      refine ⟨by kernel_rfl, ?_⟩
      gi_step
      exact hK _ _ (Fr.refl _ _) rfl trivial
    simp only [Act.put, List.setIfInBounds_toArray, List.set_cons_succ, List.set_cons_zero]
    refine factWalkG_cons (fun W hW hf K hK => ?_) (fun x8 => ?_)
    · skip
      have e6 : x6 = .slice (some ⟨b', off', none⟩) l'.length cl' := hf 6 (by omega) (by kernel_rfl)
      have e7 : x7 = .int .i64 (i : Nat) := hf 7 (by omega) (by kernel_rfl)
      subst e6 e7
      have hl2 := HLT2.out
      refine ⟨by kernel_rfl, ?_⟩
      gi_step
      exact hK _ _ (Fr.refl _ _) rfl trivial
    simp only [Act.put, List.setIfInBounds_toArray, List.set_cons_succ, List.set_cons_zero]
    refine factWalkG_cons (fun W hW hf K hK => ?_) (fun x9 => ?_)
    · skip
      have e8 : x8 = .pointer (some ⟨b', off' + i * 5, none⟩) := hf 8 (by omega) (by kernel_rfl)
      subst e8
      have hld := load_val (P := Tryz.prog) W b' (off' + i * 5) C' (rng_far RG2.out (HDR.out W hW)) 25 _ Tryz.underlying25 rfl HS2.out
      refine ⟨by kernel_rfl, ?_⟩
      refine operIn_load 25 _ rfl _ rfl hld ?_
      exact hK _ _ (Fr.refl _ _) rfl trivial
    simp only [Act.put, List.setIfInBounds_toArray, List.set_cons_succ, List.set_cons_zero]
    refine factWalkG_cons (fun W hW hf K hK => ?_) (fun x10 => ?_)
    · skip
      have e4 : x4 = .agg C := hf 4 (by omega) (by kernel_rfl)
      have e9 : x9 = .agg C' := hf 9 (by omega) (by kernel_rfl)
      subst e4 e9
      refine ⟨by kernel_rfl, ?_⟩
      gi_step
      refine ⟨trivial, ?_⟩
      refine (callsIn_wide.2 (HCALL.out W (HDR.out W hW))).mono ?_
      rintro e W' ⟨rfl, f2⟩
      dsimp only
      exact hK _ _ f2 rfl trivial
    simp only [Act.put, List.setIfInBounds_toArray, List.set_cons_succ, List.set_cons_zero]
    refine factWalkG_nil (fun W hW hf hmet => ?_)
    have e10 : x10 = .int .i64 u := hf 10 (by omega)
    subst e10
    have F8 := Lib.hid (FW1.out.trans (HDR.out W hW) (fun _ _ h => h))
    clear hf hmet hW HDR
    change wpAnyIn _ _ _ _ _ _ 1 _ _ _
    refine wpAnyIn_ready (rs := [11]) (by kernel_rfl) (by simp) ?_
    refine AllReadyIn.cons rfl (fun K hK => ?_) AllReadyIn.nil
    go_simp
    refine hK _ _ ?_
    refine wpAnyIn_done (by kernel_rfl) ?_ _
    go_wp2_with fail
    go_ret
    exact ⟨ret_int (by rw [HE.out, HZ.out]; rfl), F8.out⟩
  case neg =>
    have d3 : (cmpT ks[i] ks'[i] != 0) = true := by simpa using hz
    have HZ := Lib.hid hz
    clear hz
    go_enter Tryz.func41, Tryz.ntmps41
    go_upto_region 1 with fail
    refine abs_world (fun W => Hid (Blk W w.heap.size 25 (vcs k n t (some ⟨b, off, none⟩) l.length cl (some ⟨q, qo, none⟩) ks.length ck)) ∧ Hid (Blk W (w.heap.size + 1) 25 (vcs k' n' t' (some ⟨b', off', none⟩) l'.length cl' (some ⟨q', qo', none⟩) ks'.length ck')) ∧ Hid (Fr (fun _ => False) w W)) ⟨(Blk.new w _ _).alloc _, Blk.new1 w _ _ _, ((Fr.refl _ w).alloc _).alloc _⟩ ?_
    rintro W1 ⟨B1, B2, F1⟩
    have a4 : W1.cell? ⟨w.heap.size, 4, none⟩ = some (.slice (some ⟨q, qo, none⟩) ks.length ck) := B1.out.cell 4
    have b4 : W1.cell? ⟨w.heap.size + 1, 4, none⟩ = some (.slice (some ⟨q', qo', none⟩) ks'.length ck') := B2.out.cell 4
    go_upto_region 2 with fail
    have kc := cell_far HK.out F1.out
    have kc' := cell_far HK'.out F1.out
    have i0 : (0 : Int) ≤ (i : Int) ∧ (i : Int) < (ks.length : Int) := by omega
    have i1 : (0 : Int) ≤ (i : Int) ∧ (i : Int) < (ks'.length : Int) := by omega
    go_quiet ((go_at_call 40; exact Calls.quiet_of_same (compare_d _ _ _)))
    go_wp2_with fail
    go_ret
    exact ⟨ret_int (by rw [HE.out]; unfold lex; rw [if_neg HZ.out]), F1.out.drewN _⟩
end Go.Proofs.YtnkfkicabgajmaaGreatDoor

/-
  CONTRACT of value.Cmp. Written by gen_cmp2.py.
-/
namespace Go.Proofs.YtnkfkicabgajmaaGreatDoor
set_option linter.unusedSimpArgs false
set_option linter.unusedVariables false
open Go Go.RowKit

theorem lex_assoc (a b c : Int) : lex a (lex b c) = lex (lex a b) c := by
  unfold lex
  by_cases h : a = 0 <;> simp [h]
theorem headC_drop (ks js : List (List UInt8)) (i : Nat) : headC (ks.drop i) (js.drop i) = entC ks js i := by
  unfold entC
  by_cases h : i < ks.length
  · by_cases h' : i < js.length
    · rw [if_pos ⟨h, h'⟩, List.drop_eq_getElem_cons h, List.drop_eq_getElem_cons h', headC]
      simp [h, h']
    · rw [if_neg (fun e => h' e.2), (show js.drop i = [] from List.drop_eq_nil_of_le (by omega))]
      cases ks.drop i <;> rfl
  · rw [if_neg (fun e => h e.1), (show ks.drop i = [] from List.drop_eq_nil_of_le (by omega))]
    cases js.drop i <;> rfl
theorem cmpL_drop (l m : List V) (ks js : List (List UInt8)) (i : Nat) (h : i < l.length) (h' : i < m.length) :
    cmpL (l.drop i) (ks.drop i) (m.drop i) (js.drop i) = lex (lex (entC ks js i) (cmpV l[i] m[i])) (cmpL (l.drop (i + 1)) (ks.drop (i + 1)) (m.drop (i + 1)) (js.drop (i + 1))) := by
  rw [List.drop_eq_getElem_cons h, List.drop_eq_getElem_cons h', cmpL, headC_drop, lex_assoc, List.tail_drop, List.tail_drop]
theorem cmpL_end (l m : List V) (ks js : List (List UInt8)) (i : Nat) (h : i = min l.length m.length) :
    cmpL (l.drop i) (ks.drop i) (m.drop i) (js.drop i) = if l.length = m.length then 0 else ord (decide (l.length < m.length)) := by
  rcases Nat.lt_trichotomy l.length m.length with h1 | h1 | h1
  · have e : i = l.length := by omega
    subst e
    rw [List.drop_length, if_neg (by omega), List.drop_eq_getElem_cons h1, cmpL, decide_eq_true h1]
    rfl
  · have e : i = l.length := by omega
    subst e
    rw [List.drop_length, if_pos h1, (show m.drop l.length = [] from List.drop_eq_nil_of_le (by omega)), cmpL]
  · have e : i = m.length := by omega
    subst e
    rw [List.drop_length, if_neg (by omega), List.drop_eq_getElem_cons h1, cmpL, decide_eq_false (by omega)]
    rfl
set_option maxRecDepth 100000 in
set_option maxHeartbeats 2000000 in
theorem cmp_step (w : World) {D E : Nat → Prop} {k n k' n' : Int} {t t' : List UInt8} {l l' : List V} {ks ks' : List (List UInt8)} {Al Ak Al' Ak' : Option Addr} {cl ck cl' ck' : Nat} {css css' : List (Array Value)}
    (hp : VP D w k n t l ks Al cl Ak ck css) (hq : VP E w k' n' t' l' ks' Al' cl' Ak' ck' css')
    (ih : ∀ (x : V), x ∈ l → ∀ (W : World) (C C' : Array Value) (y : V), RdV D W C x → RdV E W C' y → Calls Tryz.prog 20 #[.agg C, .agg C'] W fun e w' => e = .returned (.int .i64 (cmpV x y)) ∧ Fr (fun _ => False) W w') :
    Calls Tryz.prog 20 #[.agg (vcs k n t Al l.length cl Ak ks.length ck), .agg (vcs k' n' t' Al' l'.length cl' Ak' ks'.length ck')] w fun e w' => e = .returned (.int .i64 (cmpV (.mk k n t l ks) (.mk k' n' t' l' ks'))) ∧ Fr (fun _ => False) w w' := by
  have hb2 := hp.b.ll
  have hb3 := hq.b.ll
  have HP := Lib.hid hp
  have HQ := Lib.hid hq
  have IH := Lib.hid ih
  clear hp hq ih
  by_cases h1 : k = k'
  case neg =>
    have hv : cmpV (.mk k n t l ks) (.mk k' n' t' l' ks') = ord (decide (k < k')) := by rw [cmpV, if_pos h1]
    have d1 : (k != k') = true := by simpa using h1
    have HV := Lib.hid hv
    obtain ⟨z, hz⟩ : ∃ z, decide (k < k') = z := ⟨_, rfl⟩
    have HZ := Lib.hid hz
    clear hv HP HQ IH h1
    cases z
    case false =>
      go_enter Tryz.func20, Tryz.ntmps20
      go_upto_region 1 with fail
      refine abs_world (fun W => Hid (Blk W w.heap.size 25 (vcs k n t Al l.length cl Ak ks.length ck)) ∧ Hid (Blk W (w.heap.size + 1) 25 (vcs k' n' t' Al' l'.length cl' Ak' ks'.length ck')) ∧ Hid (Fr (fun _ => False) w W)) ⟨(Blk.new w _ _).alloc _, Blk.new1 w _ _ _, ((Fr.refl _ w).alloc _).alloc _⟩ ?_
      rintro W1 ⟨B1, B2, F1⟩
      have a0 : W1.cell? ⟨w.heap.size, 0, none⟩ = some (.int .i64 k) := B1.out.cell 0
      have b0 : W1.cell? ⟨w.heap.size + 1, 0, none⟩ = some (.int .i64 k') := B2.out.cell 0
      go_wp2_with fail
      refine (order_c _ _).mono ?_
      rintro e w2 ⟨rfl, rfl⟩
      go_wp2_with fail
      go_ret
      exact ⟨ret_int (by rw [HV.out, HZ.out]), F1.out⟩
    case true =>
      go_enter Tryz.func20, Tryz.ntmps20
      go_upto_region 1 with fail
      refine abs_world (fun W => Hid (Blk W w.heap.size 25 (vcs k n t Al l.length cl Ak ks.length ck)) ∧ Hid (Blk W (w.heap.size + 1) 25 (vcs k' n' t' Al' l'.length cl' Ak' ks'.length ck')) ∧ Hid (Fr (fun _ => False) w W)) ⟨(Blk.new w _ _).alloc _, Blk.new1 w _ _ _, ((Fr.refl _ w).alloc _).alloc _⟩ ?_
      rintro W1 ⟨B1, B2, F1⟩
      have a0 : W1.cell? ⟨w.heap.size, 0, none⟩ = some (.int .i64 k) := B1.out.cell 0
      have b0 : W1.cell? ⟨w.heap.size + 1, 0, none⟩ = some (.int .i64 k') := B2.out.cell 0
      go_wp2_with fail
      refine (order_c _ _).mono ?_
      rintro e w2 ⟨rfl, rfl⟩
      go_wp2_with fail
      go_ret
      exact ⟨ret_int (by rw [HV.out, HZ.out]), F1.out⟩
  obtain rfl := h1
  have d1 : (k != k) = false := by simp
  by_cases h2 : k = 3 ∧ n ≠ n'
  case pos =>
    have hv : cmpV (.mk k n t l ks) (.mk k n' t' l' ks') = ord (decide (n < n')) := by rw [cmpV, if_neg (fun h => h rfl), if_pos h2]
    obtain ⟨rfl, h3⟩ := h2
    have d2 : (n != n') = true := by simpa using h3
    have HV := Lib.hid hv
    obtain ⟨z, hz⟩ : ∃ z, decide (n < n') = z := ⟨_, rfl⟩
    have HZ := Lib.hid hz
    clear hv HP HQ IH h3
    cases z
    case false =>
      go_enter Tryz.func20, Tryz.ntmps20
      go_upto_region 1 with fail
      refine abs_world (fun W => Hid (Blk W w.heap.size 25 (vcs 3 n t Al l.length cl Ak ks.length ck)) ∧ Hid (Blk W (w.heap.size + 1) 25 (vcs 3 n' t' Al' l'.length cl' Ak' ks'.length ck')) ∧ Hid (Fr (fun _ => False) w W)) ⟨(Blk.new w _ _).alloc _, Blk.new1 w _ _ _, ((Fr.refl _ w).alloc _).alloc _⟩ ?_
      rintro W1 ⟨B1, B2, F1⟩
      have a0 : W1.cell? ⟨w.heap.size, 0, none⟩ = some (.int .i64 3) := B1.out.cell 0
      have b0 : W1.cell? ⟨w.heap.size + 1, 0, none⟩ = some (.int .i64 3) := B2.out.cell 0
      have a1 : W1.cell? ⟨w.heap.size, 1, none⟩ = some (.int .i64 n) := B1.out.cell 1
      have b1 : W1.cell? ⟨w.heap.size + 1, 1, none⟩ = some (.int .i64 n') := B2.out.cell 1
      go_wp2_with fail
      refine (order_c _ _).mono ?_
      rintro e w2 ⟨rfl, rfl⟩
      go_wp2_with fail
      go_ret
      exact ⟨ret_int (by rw [HV.out, HZ.out]), F1.out⟩
    case true =>
      go_enter Tryz.func20, Tryz.ntmps20
      go_upto_region 1 with fail
      refine abs_world (fun W => Hid (Blk W w.heap.size 25 (vcs 3 n t Al l.length cl Ak ks.length ck)) ∧ Hid (Blk W (w.heap.size + 1) 25 (vcs 3 n' t' Al' l'.length cl' Ak' ks'.length ck')) ∧ Hid (Fr (fun _ => False) w W)) ⟨(Blk.new w _ _).alloc _, Blk.new1 w _ _ _, ((Fr.refl _ w).alloc _).alloc _⟩ ?_
      rintro W1 ⟨B1, B2, F1⟩
      have a0 : W1.cell? ⟨w.heap.size, 0, none⟩ = some (.int .i64 3) := B1.out.cell 0
      have b0 : W1.cell? ⟨w.heap.size + 1, 0, none⟩ = some (.int .i64 3) := B2.out.cell 0
      have a1 : W1.cell? ⟨w.heap.size, 1, none⟩ = some (.int .i64 n) := B1.out.cell 1
      have b1 : W1.cell? ⟨w.heap.size + 1, 1, none⟩ = some (.int .i64 n') := B2.out.cell 1
      go_wp2_with fail
      refine (order_c _ _).mono ?_
      rintro e w2 ⟨rfl, rfl⟩
      go_wp2_with fail
      go_ret
      exact ⟨ret_int (by rw [HV.out, HZ.out]), F1.out⟩
  have H2 := Lib.hid h2
  have hv2 : cmpV (.mk k n t l ks) (.mk k n' t' l' ks') = if k = 4 then cmpT t t' else cmpL l ks l' ks' := by rw [cmpV, if_neg (fun h => h rfl), if_neg h2]
  have HV := Lib.hid hv2
  clear hv2
  by_cases h4 : k = 4
  case pos =>
    obtain rfl := h4
    clear h2 H2 HP HQ IH
    go_enter Tryz.func20, Tryz.ntmps20
    go_upto_region 1 with fail
    refine abs_world (fun W => Hid (Blk W w.heap.size 25 (vcs 4 n t Al l.length cl Ak ks.length ck)) ∧ Hid (Blk W (w.heap.size + 1) 25 (vcs 4 n' t' Al' l'.length cl' Ak' ks'.length ck')) ∧ Hid (Fr (fun _ => False) w W)) ⟨(Blk.new w _ _).alloc _, Blk.new1 w _ _ _, ((Fr.refl _ w).alloc _).alloc _⟩ ?_
    rintro W1 ⟨B1, B2, F1⟩
    have a0 : W1.cell? ⟨w.heap.size, 0, none⟩ = some (.int .i64 4) := B1.out.cell 0
    have b0 : W1.cell? ⟨w.heap.size + 1, 0, none⟩ = some (.int .i64 4) := B2.out.cell 0
    have a1 : W1.cell? ⟨w.heap.size, 1, none⟩ = some (.int .i64 n) := B1.out.cell 1
    have b1 : W1.cell? ⟨w.heap.size + 1, 1, none⟩ = some (.int .i64 n') := B2.out.cell 1
    have a2 : W1.cell? ⟨w.heap.size, 2, none⟩ = some (.string (strOf t)) := B1.out.cell 2
    have b2 : W1.cell? ⟨w.heap.size + 1, 2, none⟩ = some (.string (strOf t')) := B2.out.cell 2
    go_wp2_with fail
    refine (compare_c _ t t').mono ?_
    rintro e w2 ⟨rfl, rfl⟩
    go_wp2_with fail
    go_ret
    exact ⟨ret_int (by rw [HV.out]; simp), F1.out⟩
  have d4 : (k == 4) = false := by simpa using h4
  rw [HV.out, if_neg h4]
  clear HV
  -- the walk behind the three tests: the loop
  by_cases h3 : k = 3
  case pos =>
    obtain rfl := h3
    have hn : n = n' := Decidable.not_not.1 fun h => H2.out ⟨rfl, h⟩
    obtain rfl := hn
    have d2 : (n != n) = false := by simp
    clear h2 H2 h4 d4
    go_enter Tryz.func20, Tryz.ntmps20
    go_upto_region 1 with fail
    refine abs_world (fun W => Hid (Blk W w.heap.size 25 (vcs 3 n t Al l.length cl Ak ks.length ck)) ∧ Hid (Blk W (w.heap.size + 1) 25 (vcs 3 n t' Al' l'.length cl' Ak' ks'.length ck')) ∧ Hid (Fr (fun _ => False) w W)) ⟨(Blk.new w _ _).alloc _, Blk.new1 w _ _ _, ((Fr.refl _ w).alloc _).alloc _⟩ ?_
    rintro W1 ⟨B1, B2, F1⟩
    have a0 : W1.cell? ⟨w.heap.size, 0, none⟩ = some (.int .i64 3) := B1.out.cell 0
    have b0 : W1.cell? ⟨w.heap.size + 1, 0, none⟩ = some (.int .i64 3) := B2.out.cell 0
    have a1 : W1.cell? ⟨w.heap.size, 1, none⟩ = some (.int .i64 n) := B1.out.cell 1
    have b1 : W1.cell? ⟨w.heap.size + 1, 1, none⟩ = some (.int .i64 n) := B2.out.cell 1
    have a2 : W1.cell? ⟨w.heap.size, 2, none⟩ = some (.string (strOf t)) := B1.out.cell 2
    have b2 : W1.cell? ⟨w.heap.size + 1, 2, none⟩ = some (.string (strOf t')) := B2.out.cell 2
    have a3 : W1.cell? ⟨w.heap.size, 3, none⟩ = some (.slice Al l.length cl) := B1.out.cell 3
    have b3 : W1.cell? ⟨w.heap.size + 1, 3, none⟩ = some (.slice Al' l'.length cl') := B2.out.cell 3
    generalize hg2 : w.heap.size + 1 = g2 at *
    generalize hg1 : w.heap.size = g1 at *
    have HPW := Lib.hid (HP.out.far F1.out)
    have HQW := Lib.hid (HQ.out.far F1.out)
    have FW := Lib.hid F1.out
    have S1 := Lib.hid (show (Tryz.prog.info? 25).map (·.size) = some (vcs 3 n t Al l.length cl Ak ks.length ck).size from lw5)
    have S2 := Lib.hid (show (Tryz.prog.info? 25).map (·.size) = some (vcs 3 n t' Al' l'.length cl' Ak' ks'.length ck').size from lw5)
    clear HP HQ F1 hg1 hg2
    go_wp2_with fail
    generalize hmm : min (l.length : Int) (l'.length : Int) = mm
    have hm0 : mm ≤ l.length ∧ mm ≤ l'.length ∧ 0 ≤ mm ∧ (mm = l.length ∨ mm = l'.length) := by omega
    have HM0 := Lib.hid hm0
    have HMM := Lib.hid hmm
    clear hmm a0 a1 a2 a3 b0 b1 b2 b3
    obtain ⟨hm1, hm2, hm3, hm4⟩ := hm0
    clear hm4
    go_loopw [52] (fun iv wr => ∃ i : Nat, (i : Int) ≤ mm ∧ iv = .int .i64 (i : Int) ∧ Hid (cmpL l ks l' ks' = cmpL (l.drop i) (ks.drop i) (l'.drop i) (ks'.drop i)) ∧ Hid (Fr (fun _ => False) W1 wr)) (fun iv _ => (mm - intOf iv).toNat)
    case atStart => exact ⟨0, by omega, rfl, rfl, Fr.refl _ _⟩
    case round =>
      obtain ⟨i, hi, rfl, he, hf⟩ := hrel
      by_cases hlt : (i : Int) < mm
      case pos =>
        have hdl : decide ((i : Int) < mm) = true := decide_eq_true hlt
        have hl1 : i < l.length := by omega
        have hl2 : i < l'.length := by omega
        have C1 := Lib.hid (blk_all (keepB B1.out hf.out))
        have C2 := Lib.hid (blk_all (keepB B2.out hf.out))
        go_wp2_with (first
          | (refine wpList_load_val rfl 25 _ rfl g1 _ rfl _ C1.out _ Tryz.underlying25 rfl S1.out ?_)
          | (refine wpList_load_val rfl 25 _ rfl g2 _ rfl _ C2.out _ Tryz.underlying25 rfl S2.out ?_))
        refine (cmpEntry_c wr (HPW.out.far hf.out) (HQW.out.far hf.out) i hl1 hl2 IH.out).mono ?_
        rintro e W2 ⟨rfl, f2⟩
        have HF2 := Lib.hid (hf.out.trans f2 (fun _ _ h => h))
        have hst := cmpL_drop l l' ks ks' i hl1 hl2
        rw [← he.out] at hst
        obtain ⟨u, hu⟩ : ∃ u, lex (entC ks ks' i) (cmpV l[i] l'[i]) = u := ⟨_, rfl⟩
        rw [hu] at hst ⊢
        have HST := Lib.hid hst
        clear hst hu f2 C1 C2 he hf
        by_cases hz : u = 0
        case pos =>
          obtain rfl := hz
          go_wp2_with fail
          go_roundw
          case rel => exact ⟨i + 1, by omega, by go_num, HST.out, HF2.out⟩
          case measure => simp [intOf]; omega
        case neg =>
          have du : (u != 0) = true := by simpa using hz
          have HZ := Lib.hid hz
          clear hz
          go_wp2_with fail
          go_ret
          exact ⟨ret_int (by rw [HST.out]; unfold lex; rw [if_neg HZ.out]), FW.out.trans HF2.out (fun _ _ h => h)⟩
      case neg =>
        have hdl : decide ((i : Int) < mm) = false := decide_eq_false hlt
        have c3 : wr.cell? ⟨g1, 3, none⟩ = some (.slice Al l.length cl) := (keepB B1.out hf.out).cell 3
        have d3' : wr.cell? ⟨g2, 3, none⟩ = some (.slice Al' l'.length cl') := (keepB B2.out hf.out).cell 3
        have hend := cmpL_end l l' ks ks' i (by have := HM0.out.2.2.2; omega)
        rw [← he.out] at hend
        have HEND := Lib.hid hend
        clear hend he
        by_cases hl : l.length = l'.length
        case pos =>
          have dl : ((l.length : Int) == (l'.length : Int)) = true := by simp [hl]
          have dl' : (l.length == l'.length) = true := by simp [hl]
          have HL := Lib.hid hl
          clear hl
          go_wp2_with fail
          go_ret
          exact ⟨ret_int (by rw [HEND.out, if_pos HL.out]), FW.out.trans hf.out (fun _ _ h => h)⟩
        case neg =>
          have dl : ((l.length : Int) == (l'.length : Int)) = false := by simp; omega
          have dl' : (l.length == l'.length) = false := by simp; omega
          have HL := Lib.hid hl
          by_cases hlt2 : l.length < l'.length
          case pos =>
            have dq : decide ((l.length : Int) < (l'.length : Int)) = true := decide_eq_true (by omega)
            have dq' : decide (l.length < l'.length) = true := decide_eq_true hlt2
            clear hl
            go_wp2_with fail
            refine (order_c _ _).mono ?_
            rintro e w2 ⟨rfl, rfl⟩
            go_wp2_with fail
            go_ret
            exact ⟨ret_int (by rw [HEND.out, if_neg HL.out, dq']), FW.out.trans hf.out (fun _ _ h => h)⟩
          case neg =>
            have dq : decide ((l.length : Int) < (l'.length : Int)) = false := decide_eq_false (by omega)
            have dq' : decide (l.length < l'.length) = false := decide_eq_false hlt2
            clear hl
            go_wp2_with fail
            refine (order_c _ _).mono ?_
            rintro e w2 ⟨rfl, rfl⟩
            go_wp2_with fail
            go_ret
            exact ⟨ret_int (by rw [HEND.out, if_neg HL.out, dq']), FW.out.trans hf.out (fun _ _ h => h)⟩
  case neg =>
    have d3 : (k == 3) = false := by simpa using h3
    clear h2 H2
    go_enter Tryz.func20, Tryz.ntmps20
    go_upto_region 1 with fail
    refine abs_world (fun W => Hid (Blk W w.heap.size 25 (vcs k n t Al l.length cl Ak ks.length ck)) ∧ Hid (Blk W (w.heap.size + 1) 25 (vcs k n' t' Al' l'.length cl' Ak' ks'.length ck')) ∧ Hid (Fr (fun _ => False) w W)) ⟨(Blk.new w _ _).alloc _, Blk.new1 w _ _ _, ((Fr.refl _ w).alloc _).alloc _⟩ ?_
    rintro W1 ⟨B1, B2, F1⟩
    have a0 : W1.cell? ⟨w.heap.size, 0, none⟩ = some (.int .i64 k) := B1.out.cell 0
    have b0 : W1.cell? ⟨w.heap.size + 1, 0, none⟩ = some (.int .i64 k) := B2.out.cell 0
    have a1 : W1.cell? ⟨w.heap.size, 1, none⟩ = some (.int .i64 n) := B1.out.cell 1
    have b1 : W1.cell? ⟨w.heap.size + 1, 1, none⟩ = some (.int .i64 n') := B2.out.cell 1
    have a2 : W1.cell? ⟨w.heap.size, 2, none⟩ = some (.string (strOf t)) := B1.out.cell 2
    have b2 : W1.cell? ⟨w.heap.size + 1, 2, none⟩ = some (.string (strOf t')) := B2.out.cell 2
    have a3 : W1.cell? ⟨w.heap.size, 3, none⟩ = some (.slice Al l.length cl) := B1.out.cell 3
    have b3 : W1.cell? ⟨w.heap.size + 1, 3, none⟩ = some (.slice Al' l'.length cl') := B2.out.cell 3
    generalize hg2 : w.heap.size + 1 = g2 at *
    generalize hg1 : w.heap.size = g1 at *
    have HPW := Lib.hid (HP.out.far F1.out)
    have HQW := Lib.hid (HQ.out.far F1.out)
    have FW := Lib.hid F1.out
    have S1 := Lib.hid (show (Tryz.prog.info? 25).map (·.size) = some (vcs k n t Al l.length cl Ak ks.length ck).size from lw5)
    have S2 := Lib.hid (show (Tryz.prog.info? 25).map (·.size) = some (vcs k n' t' Al' l'.length cl' Ak' ks'.length ck').size from lw5)
    clear HP HQ F1 hg1 hg2
    go_wp2_with fail
    generalize hmm : min (l.length : Int) (l'.length : Int) = mm
    have hm0 : mm ≤ l.length ∧ mm ≤ l'.length ∧ 0 ≤ mm ∧ (mm = l.length ∨ mm = l'.length) := by omega
    have HM0 := Lib.hid hm0
    have HMM := Lib.hid hmm
    clear hmm a0 a1 a2 a3 b0 b1 b2 b3
    obtain ⟨hm1, hm2, hm3, hm4⟩ := hm0
    clear hm4
    go_loopw [52] (fun iv wr => ∃ i : Nat, (i : Int) ≤ mm ∧ iv = .int .i64 (i : Int) ∧ Hid (cmpL l ks l' ks' = cmpL (l.drop i) (ks.drop i) (l'.drop i) (ks'.drop i)) ∧ Hid (Fr (fun _ => False) W1 wr)) (fun iv _ => (mm - intOf iv).toNat)
    case atStart => exact ⟨0, by omega, rfl, rfl, Fr.refl _ _⟩
    case round =>
      obtain ⟨i, hi, rfl, he, hf⟩ := hrel
      by_cases hlt : (i : Int) < mm
      case pos =>
        have hdl : decide ((i : Int) < mm) = true := decide_eq_true hlt
        have hl1 : i < l.length := by omega
        have hl2 : i < l'.length := by omega
        have C1 := Lib.hid (blk_all (keepB B1.out hf.out))
        have C2 := Lib.hid (blk_all (keepB B2.out hf.out))
        go_wp2_with (first
          | (refine wpList_load_val rfl 25 _ rfl g1 _ rfl _ C1.out _ Tryz.underlying25 rfl S1.out ?_)
          | (refine wpList_load_val rfl 25 _ rfl g2 _ rfl _ C2.out _ Tryz.underlying25 rfl S2.out ?_))
        refine (cmpEntry_c wr (HPW.out.far hf.out) (HQW.out.far hf.out) i hl1 hl2 IH.out).mono ?_
        rintro e W2 ⟨rfl, f2⟩
        have HF2 := Lib.hid (hf.out.trans f2 (fun _ _ h => h))
        have hst := cmpL_drop l l' ks ks' i hl1 hl2
        rw [← he.out] at hst
        obtain ⟨u, hu⟩ : ∃ u, lex (entC ks ks' i) (cmpV l[i] l'[i]) = u := ⟨_, rfl⟩
        rw [hu] at hst ⊢
        have HST := Lib.hid hst
        clear hst hu f2 C1 C2 he hf
        by_cases hz : u = 0
        case pos =>
          obtain rfl := hz
          go_wp2_with fail
          go_roundw
          case rel => exact ⟨i + 1, by omega, by go_num, HST.out, HF2.out⟩
          case measure => simp [intOf]; omega
        case neg =>
          have du : (u != 0) = true := by simpa using hz
          have HZ := Lib.hid hz
          clear hz
          go_wp2_with fail
          go_ret
          exact ⟨ret_int (by rw [HST.out]; unfold lex; rw [if_neg HZ.out]), FW.out.trans HF2.out (fun _ _ h => h)⟩
      case neg =>
        have hdl : decide ((i : Int) < mm) = false := decide_eq_false hlt
        have c3 : wr.cell? ⟨g1, 3, none⟩ = some (.slice Al l.length cl) := (keepB B1.out hf.out).cell 3
        have d3' : wr.cell? ⟨g2, 3, none⟩ = some (.slice Al' l'.length cl') := (keepB B2.out hf.out).cell 3
        have hend := cmpL_end l l' ks ks' i (by have := HM0.out.2.2.2; omega)
        rw [← he.out] at hend
        have HEND := Lib.hid hend
        clear hend he
        by_cases hl : l.length = l'.length
        case pos =>
          have dl : ((l.length : Int) == (l'.length : Int)) = true := by simp [hl]
          have dl' : (l.length == l'.length) = true := by simp [hl]
          have HL := Lib.hid hl
          clear hl
          go_wp2_with fail
          go_ret
          exact ⟨ret_int (by rw [HEND.out, if_pos HL.out]), FW.out.trans hf.out (fun _ _ h => h)⟩
        case neg =>
          have dl : ((l.length : Int) == (l'.length : Int)) = false := by simp; omega
          have dl' : (l.length == l'.length) = false := by simp; omega
          have HL := Lib.hid hl
          by_cases hlt2 : l.length < l'.length
          case pos =>
            have dq : decide ((l.length : Int) < (l'.length : Int)) = true := decide_eq_true (by omega)
            have dq' : decide (l.length < l'.length) = true := decide_eq_true hlt2
            clear hl
            go_wp2_with fail
            refine (order_c _ _).mono ?_
            rintro e w2 ⟨rfl, rfl⟩
            go_wp2_with fail
            go_ret
            exact ⟨ret_int (by rw [HEND.out, if_neg HL.out, dq']), FW.out.trans hf.out (fun _ _ h => h)⟩
          case neg =>
            have dq : decide ((l.length : Int) < (l'.length : Int)) = false := decide_eq_false (by omega)
            have dq' : decide (l.length < l'.length) = false := decide_eq_false hlt2
            clear hl
            go_wp2_with fail
            refine (order_c _ _).mono ?_
            rintro e w2 ⟨rfl, rfl⟩
            go_wp2_with fail
            go_ret
            exact ⟨ret_int (by rw [HEND.out, if_neg HL.out, dq']), FW.out.trans hf.out (fun _ _ h => h)⟩
theorem cmp_c : ∀ (a b : V) (w : World) (D E : Nat → Prop) (C C' : Array Value), RdV D w C a → RdV E w C' b → Calls Tryz.prog 20 #[.agg C, .agg C'] w fun e w' => e = .returned (.int .i64 (cmpV a b)) ∧ Fr (fun _ => False) w w' := by
  intro a
  induction a using V.ind with
  | h k n t l ks ih =>
    intro b w D E C C' h h'
    obtain ⟨k1, n1, t1, l1, ks1, Al, cl, Ak, ck, css, e, rfl, hp⟩ := h.inv
    injection e with e1 e2 e3 e4 e5
    subst e1 e2 e3 e4 e5
    obtain ⟨k2, n2, t2, l2, ks2, Al', cl', Ak', ck', css', rfl, rfl, hq⟩ := h'.inv
    exact cmp_step w hp hq fun x hx W C C' y h1 h2 => ih x hx y W D E C C' h1 h2
end Go.Proofs.YtnkfkicabgajmaaGreatDoor
