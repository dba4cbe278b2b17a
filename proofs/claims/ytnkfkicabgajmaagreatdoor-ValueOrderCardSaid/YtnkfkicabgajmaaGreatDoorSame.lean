/-
  CONTRACTS of value.Same, and of slices.EqualFunc with it.
-/
import Derived.Test.YtnkfkicabgajmaaGreatDoorSh
namespace Go.Proofs.YtnkfkicabgajmaaGreatDoor
set_option linter.unusedSimpArgs false
set_option linter.unusedVariables false
open Go Go.RowKit

theorem lw5 : (Tryz.prog.info? 25).map (·.size) = some 5 := by kernel_rfl
theorem szV {D : Nat → Prop} {w : World} {C : Array Value} {v : V} (h : RdV D w C v) : (Tryz.prog.info? 25).map (·.size) = some C.size := by rw [h.size]; exact lw5
theorem oneV {D : Nat → Prop} {w : World} {C : Array Value} {v : V} (h : RdV D w C v) : C.all (·.oneCell') = true := by
  rw [Array.all_eq_true_iff_forall_mem]
  intro u hu
  exact h.one u (by simpa using hu)
/-- What is the same of the elements, one by one. -/
theorem eqvs_at {l m : List V} (h : l.length = m.length) : eqvs l m = true ↔ ∀ (i : Nat) (h1 : i < l.length) (h2 : i < m.length), eqv l[i] m[i] = true := by
  rw [eqvs_iff]
  constructor
  · rintro rfl i h1 h2
    rw [eqv_iff]
  · intro hi
    exact List.ext_getElem h (fun i h1 h2 => (eqv_iff _ _).1 (hi i h1 h2))
set_option maxRecDepth 100000 in
set_option maxHeartbeats 1000000 in
theorem eqF_c (w : World) {D E : Nat → Prop} {k n k' n' : Int} {t t' : List UInt8} {l l' : List V} {ks ks' : List (List UInt8)} {Al Ak Al' Ak' : Option Addr} {cl ck cl' ck' : Nat} {css css' : List (Array Value)}
    (hp : VP D w k n t l ks Al cl Ak ck css) (hq : VP E w k' n' t' l' ks' Al' cl' Ak' ck' css')
    (ih : ∀ (x : V), x ∈ l → ∀ (W : World) (C C' : Array Value) (y : V), RdV D W C x → RdV E W C' y → Calls Tryz.prog 23 #[.agg C, .agg C'] W fun e w' => e = .returned (.bool (eqv x y)) ∧ Fr (fun _ => False) W w') :
    Calls Tryz.prog 48 #[.slice Al l.length cl, .slice Al' l'.length cl', .func (.func 23) #[] #[]] w fun e w' => e = .returned (.bool (eqvs l l')) ∧ Fr (fun _ => False) w w' := by
  have hb2 := hp.b.ll
  have hb3 := hq.b.ll
  by_cases hl : l.length = l'.length
  · have dl : ((l.length : Int) != (l'.length : Int)) = false := by simp [hl]
    have dl' : (l.length != l'.length) = false := by simp [hl]
    have HP := Lib.hid hp
    have HQ := Lib.hid hq
    have IH := Lib.hid ih
    have HL := Lib.hid hl
    clear hp hq ih hl
    go_enter Tryz.func48, Tryz.ntmps48
    go_wp2_with fail
    go_loopw [17] (fun iv wr => ∃ i : Nat, i ≤ l.length ∧ iv = .int .i64 (i : Int) ∧ Hid (∀ (j : Nat) (h1 : j < l.length) (h2 : j < l'.length), j < i → eqv l[j] l'[j] = true) ∧ Hid (Fr (fun _ => False) w wr)) (fun iv _ => l.length - (intOf iv).toNat)
    case atStart => exact ⟨0, Nat.zero_le _, rfl, fun j h1 h2 h => by omega, Fr.refl _ _⟩
    case round =>
      obtain ⟨i, hi, rfl, he, hf⟩ := hrel
      by_cases hlt : i < l.length
      · have hdl : decide ((i : Int) < (l.length : Int)) = true := decide_eq_true (by omega)
        have hdl' : decide (i < l.length) = true := decide_eq_true hlt
        have hlt' : i < l'.length := by rw [← HL.out]; exact hlt
        obtain ⟨b, off, C, hA, hci, hrv, hrg, h5⟩ := (HP.out.far hf.out).at_ hlt
        subst hA
        obtain ⟨b', off', C', hA', hci', hrv', hrg', h5'⟩ := (HQ.out.far hf.out).at_ hlt'
        subst hA'
        have HR := Lib.hid hrv
        have HG := Lib.hid hrg
        have HR' := Lib.hid hrv'
        have HG' := Lib.hid hrg'
        clear hci hrv hrg h5 hci' hrv' hrg' h5'
        have HS := Lib.hid (szV HR.out)
        have HS' := Lib.hid (szV HR'.out)
        have HO := Lib.hid (oneV HR.out)
        have HO' := Lib.hid (oneV HR'.out)
        have H5 := Lib.hid HR.out.size
        have H5' := Lib.hid HR'.out.size
        go_upto_region 6 with (first
          | (refine wpList_load_val rfl 25 _ rfl b _ rfl C HG.out _ Tryz.underlying25 rfl HS.out ?_)
          | (refine wpList_store_blk rfl 25 _ _ rfl wr.heap.size C rfl rfl (Blk.new wr 25 _) H5.out HS.out HO.out ?_
             intro W1 q1 f1
             have F1 := Lib.hid (((Fr.refl (fun _ => False) wr).alloc _).trans f1 (fun i hi h => by have : i = wr.heap.size := h; omega))
             have Q1 := Lib.hid q1
             clear q1 f1))
        have HG1' := Lib.hid (rng_far HG'.out F1.out)
        clear HG HG'
        go_upto_region 7 with (first
          | (refine wpList_load_val rfl 25 _ rfl b' _ rfl C' HG1'.out _ Tryz.underlying25 rfl HS'.out ?_)
          | (refine wpList_store_blk rfl 25 _ _ rfl W1.heap.size C' rfl rfl (Blk.new W1 25 _) H5'.out HS'.out HO'.out ?_
             intro W2 q2 f2
             have F2 := Lib.hid (((Fr.refl (fun _ => False) W1).alloc _).trans f2 (fun i hi h => by have : i = W1.heap.size := h; omega))
             have Q2 := Lib.hid q2
             clear q2 f2))
        have FF := Lib.hid (F1.out.trans F2.out (fun _ _ h => h))
        have Q1' := Lib.hid (blk_all (keepB Q1.out F2.out))
        have Q2' := Lib.hid (blk_all Q2.out)
        clear HG1' Q1 Q2 F1 F2
        have CALL := Lib.hid (IH.out l[i] (List.getElem_mem hlt) W2 C C' l'[i] (HR.out.far FF.out) (HR'.out.far FF.out))
        generalize W1.heap.size = g2 at *
        generalize wr.heap.size = g1 at *
        go_wp2_with (first
          | (refine wpList_load_val rfl 25 _ rfl g1 _ rfl C Q1'.out _ Tryz.underlying25 rfl HS.out ?_)
          | (refine wpList_load_val rfl 25 _ rfl g2 _ rfl C' Q2'.out _ Tryz.underlying25 rfl HS'.out ?_))
        refine CALL.out.mono ?_
        rintro e W3 ⟨rfl, f3⟩
        have HF3 := Lib.hid (hf.out.trans (FF.out.trans f3 (fun _ _ h => h)) (fun _ _ h => h))
        clear f3 CALL Q1' Q2' FF
        obtain ⟨z, hz⟩ : ∃ z, eqv l[i] l'[i] = z := ⟨_, rfl⟩
        rw [hz]
        have HZ := Lib.hid hz
        clear hz
        cases z with
        | true =>
          go_wp2_with fail
          go_roundw
          case rel => exact ⟨i + 1, by omega, by go_num, fun j h1 h2 h => by
            rcases Nat.lt_or_ge j i with hj | hj
            · exact he.out j h1 h2 hj
            · obtain rfl : j = i := by omega
              exact HZ.out, HF3.out⟩
          case measure => simp [intOf]; omega
        | false =>
          have hno : eqvs l l' = false := by
            rw [Bool.eq_false_iff]
            intro h
            have := (eqvs_at HL.out).1 h i hlt hlt'
            rw [HZ.out] at this
            cases this
          have HN := Lib.hid hno
          clear hno
          go_wp2_with fail
          go_ret
          exact ⟨ret_bool HN.out.symm, HF3.out⟩
      · obtain rfl : i = l.length := by omega
        have hdl : decide ((l.length : Int) < (l.length : Int)) = false := decide_eq_false (by omega)
        have hdl' : decide (l.length < l.length) = false := decide_eq_false (by omega)
        have hyes : eqvs l l' = true := (eqvs_at HL.out).2 fun j h1 h2 => he.out j h1 h2 h1
        have HY := Lib.hid hyes
        clear hyes
        go_wp2_with fail
        go_ret
        exact ⟨ret_bool HY.out.symm, hf.out⟩
  · have dl : ((l.length : Int) != (l'.length : Int)) = true := by simp; omega
    have dl' : (l.length != l'.length) = true := by simp; omega
    have hno : eqvs l l' = false := by
      rw [Bool.eq_false_iff]
      intro h
      rw [eqvs_iff] at h
      exact hl (by rw [h])
    have HN := Lib.hid hno
    clear hno hp hq ih hl
    go_enter Tryz.func48, Tryz.ntmps48
    go_wp2_with fail
    go_ret
    exact ⟨ret_bool HN.out.symm, Fr.refl _ _⟩
theorem eqv_k {k n k' n' : Int} {t t' : List UInt8} {l l' : List V} {ks ks' : List (List UInt8)} : eqv (.mk k n t l ks) (.mk k' n' t' l' ks') = (k == k' && n == n' && t == t' && ks == ks' && eqvs l l') := by rw [eqv]
set_option maxRecDepth 100000 in
set_option maxHeartbeats 1000000 in
theorem same_step (w : World) {D E : Nat → Prop} {k n k' n' : Int} {t t' : List UInt8} {l l' : List V} {ks ks' : List (List UInt8)} {Al Ak Al' Ak' : Option Addr} {cl ck cl' ck' : Nat} {css css' : List (Array Value)}
    (hp : VP D w k n t l ks Al cl Ak ck css) (hq : VP E w k' n' t' l' ks' Al' cl' Ak' ck' css')
    (ih : ∀ (x : V), x ∈ l → ∀ (W : World) (C C' : Array Value) (y : V), RdV D W C x → RdV E W C' y → Calls Tryz.prog 23 #[.agg C, .agg C'] W fun e w' => e = .returned (.bool (eqv x y)) ∧ Fr (fun _ => False) W w') :
    Calls Tryz.prog 23 #[.agg (vcs k n t Al l.length cl Ak ks.length ck), .agg (vcs k' n' t' Al' l'.length cl' Ak' ks'.length ck')] w fun e w' => e = .returned (.bool (eqv (.mk k n t l ks) (.mk k' n' t' l' ks'))) ∧ Fr (fun _ => False) w w' := by
  have hst : ((strOf t).toList == (strOf t').toList) = (t == t') := by rw [strOf_toList, strOf_toList]
  have EQF := Lib.hid (fun W (hW : Fr (fun _ => False) w W) => eqF_c W (hp.far hW) (hq.far hW) ih)
  have EQS := Lib.hid (fun W (hW : Fr (fun _ => False) w W) => eqS_c W ck ck' (hp.far hW).kr (hq.far hW).kr hp.b.kl hq.b.kl)
  clear hp hq ih
  rw [eqv_k]
  have HK := Lib.hid hst
  clear hst
  by_cases h1 : k = k'
  case neg =>
    have d1 : (k == k') = false := by simpa using h1
    rw [d1]
    clear EQF EQS HK
    go_enter Tryz.func23, Tryz.ntmps23
    go_upto_region 1 with fail
    refine abs_world (fun W => Hid (Blk W w.heap.size 25 (vcs k n t Al l.length cl Ak ks.length ck)) ∧ Hid (Blk W (w.heap.size + 1) 25 (vcs k' n' t' Al' l'.length cl' Ak' ks'.length ck')) ∧ Hid (Fr (fun _ => False) w W)) ⟨(Blk.new w _ _).alloc _, Blk.new1 w _ _ _, ((Fr.refl _ w).alloc _).alloc _⟩ ?_
    rintro W1 ⟨B1, B2, F1⟩
    have a0 : W1.cell? ⟨w.heap.size, 0, none⟩ = some (.int .i64 k) := B1.out.cell 0
    have b0 : W1.cell? ⟨w.heap.size + 1, 0, none⟩ = some (.int .i64 k') := B2.out.cell 0
    have a1 : W1.cell? ⟨w.heap.size, 1, none⟩ = some (.int .i64 n) := B1.out.cell 1
    have b1 : W1.cell? ⟨w.heap.size + 1, 1, none⟩ = some (.int .i64 n') := B2.out.cell 1
    have a2 : W1.cell? ⟨w.heap.size, 2, none⟩ = some (.string (strOf t)) := B1.out.cell 2
    have b2 : W1.cell? ⟨w.heap.size + 1, 2, none⟩ = some (.string (strOf t')) := B2.out.cell 2
    have a3 : W1.cell? ⟨w.heap.size, 3, none⟩ = some (.slice Al l.length cl) := B1.out.cell 3
    have b3 : W1.cell? ⟨w.heap.size + 1, 3, none⟩ = some (.slice Al' l'.length cl') := B2.out.cell 3
    have a4 : W1.cell? ⟨w.heap.size, 4, none⟩ = some (.slice Ak ks.length ck) := B1.out.cell 4
    have b4 : W1.cell? ⟨w.heap.size + 1, 4, none⟩ = some (.slice Ak' ks'.length ck') := B2.out.cell 4
    go_wp2_with fail
    go_ret
    exact ⟨ret_bool (by simp), F1.out⟩
  obtain rfl := h1
  have d1 : (k == k) = true := by simp
  by_cases h2 : n = n'
  case neg =>
    have d2 : (n == n') = false := by simpa using h2
    rw [d2]
    clear EQF EQS HK
    go_enter Tryz.func23, Tryz.ntmps23
    go_upto_region 1 with fail
    refine abs_world (fun W => Hid (Blk W w.heap.size 25 (vcs k n t Al l.length cl Ak ks.length ck)) ∧ Hid (Blk W (w.heap.size + 1) 25 (vcs k n' t' Al' l'.length cl' Ak' ks'.length ck')) ∧ Hid (Fr (fun _ => False) w W)) ⟨(Blk.new w _ _).alloc _, Blk.new1 w _ _ _, ((Fr.refl _ w).alloc _).alloc _⟩ ?_
    rintro W1 ⟨B1, B2, F1⟩
    have a0 : W1.cell? ⟨w.heap.size, 0, none⟩ = some (.int .i64 k) := B1.out.cell 0
    have b0 : W1.cell? ⟨w.heap.size + 1, 0, none⟩ = some (.int .i64 k) := B2.out.cell 0
    have a1 : W1.cell? ⟨w.heap.size, 1, none⟩ = some (.int .i64 n) := B1.out.cell 1
    have b1 : W1.cell? ⟨w.heap.size + 1, 1, none⟩ = some (.int .i64 n') := B2.out.cell 1
    have a2 : W1.cell? ⟨w.heap.size, 2, none⟩ = some (.string (strOf t)) := B1.out.cell 2
    have b2 : W1.cell? ⟨w.heap.size + 1, 2, none⟩ = some (.string (strOf t')) := B2.out.cell 2
    have a3 : W1.cell? ⟨w.heap.size, 3, none⟩ = some (.slice Al l.length cl) := B1.out.cell 3
    have b3 : W1.cell? ⟨w.heap.size + 1, 3, none⟩ = some (.slice Al' l'.length cl') := B2.out.cell 3
    have a4 : W1.cell? ⟨w.heap.size, 4, none⟩ = some (.slice Ak ks.length ck) := B1.out.cell 4
    have b4 : W1.cell? ⟨w.heap.size + 1, 4, none⟩ = some (.slice Ak' ks'.length ck') := B2.out.cell 4
    go_wp2_with fail
    go_ret
    exact ⟨ret_bool (by simp), F1.out⟩
  obtain rfl := h2
  have d2 : (n == n) = true := by simp
  by_cases h3 : t = t'
  case neg =>
    have d3 : ((strOf t).toList == (strOf t').toList) = false := by rw [HK.out]; simpa using h3
    have d3' : (t == t') = false := by simpa using h3
    rw [d3']
    clear EQF EQS HK d3'
    go_enter Tryz.func23, Tryz.ntmps23
    go_upto_region 1 with fail
    refine abs_world (fun W => Hid (Blk W w.heap.size 25 (vcs k n t Al l.length cl Ak ks.length ck)) ∧ Hid (Blk W (w.heap.size + 1) 25 (vcs k n t' Al' l'.length cl' Ak' ks'.length ck')) ∧ Hid (Fr (fun _ => False) w W)) ⟨(Blk.new w _ _).alloc _, Blk.new1 w _ _ _, ((Fr.refl _ w).alloc _).alloc _⟩ ?_
    rintro W1 ⟨B1, B2, F1⟩
    have a0 : W1.cell? ⟨w.heap.size, 0, none⟩ = some (.int .i64 k) := B1.out.cell 0
    have b0 : W1.cell? ⟨w.heap.size + 1, 0, none⟩ = some (.int .i64 k) := B2.out.cell 0
    have a1 : W1.cell? ⟨w.heap.size, 1, none⟩ = some (.int .i64 n) := B1.out.cell 1
    have b1 : W1.cell? ⟨w.heap.size + 1, 1, none⟩ = some (.int .i64 n) := B2.out.cell 1
    have a2 : W1.cell? ⟨w.heap.size, 2, none⟩ = some (.string (strOf t)) := B1.out.cell 2
    have b2 : W1.cell? ⟨w.heap.size + 1, 2, none⟩ = some (.string (strOf t')) := B2.out.cell 2
    have a3 : W1.cell? ⟨w.heap.size, 3, none⟩ = some (.slice Al l.length cl) := B1.out.cell 3
    have b3 : W1.cell? ⟨w.heap.size + 1, 3, none⟩ = some (.slice Al' l'.length cl') := B2.out.cell 3
    have a4 : W1.cell? ⟨w.heap.size, 4, none⟩ = some (.slice Ak ks.length ck) := B1.out.cell 4
    have b4 : W1.cell? ⟨w.heap.size + 1, 4, none⟩ = some (.slice Ak' ks'.length ck') := B2.out.cell 4
    go_wp2_with fail
    go_ret
    exact ⟨ret_bool (by simp), F1.out⟩
  obtain rfl := h3
  have d3 : ((strOf t).toList == (strOf t).toList) = true := by simp
  rw [show (t == t) = true by simp, d1, d2]
  clear HK
  go_enter Tryz.func23, Tryz.ntmps23
  go_upto_region 1 with fail
  refine abs_world (fun W => Hid (Blk W w.heap.size 25 (vcs k n t Al l.length cl Ak ks.length ck)) ∧ Hid (Blk W (w.heap.size + 1) 25 (vcs k n t Al' l'.length cl' Ak' ks'.length ck')) ∧ Hid (Fr (fun _ => False) w W)) ⟨(Blk.new w _ _).alloc _, Blk.new1 w _ _ _, ((Fr.refl _ w).alloc _).alloc _⟩ ?_
  rintro W1 ⟨B1, B2, F1⟩
  have a0 : W1.cell? ⟨w.heap.size, 0, none⟩ = some (.int .i64 k) := B1.out.cell 0
  have b0 : W1.cell? ⟨w.heap.size + 1, 0, none⟩ = some (.int .i64 k) := B2.out.cell 0
  have a1 : W1.cell? ⟨w.heap.size, 1, none⟩ = some (.int .i64 n) := B1.out.cell 1
  have b1 : W1.cell? ⟨w.heap.size + 1, 1, none⟩ = some (.int .i64 n) := B2.out.cell 1
  have a2 : W1.cell? ⟨w.heap.size, 2, none⟩ = some (.string (strOf t)) := B1.out.cell 2
  have b2 : W1.cell? ⟨w.heap.size + 1, 2, none⟩ = some (.string (strOf t)) := B2.out.cell 2
  have a3 : W1.cell? ⟨w.heap.size, 3, none⟩ = some (.slice Al l.length cl) := B1.out.cell 3
  have b3 : W1.cell? ⟨w.heap.size + 1, 3, none⟩ = some (.slice Al' l'.length cl') := B2.out.cell 3
  have a4 : W1.cell? ⟨w.heap.size, 4, none⟩ = some (.slice Ak ks.length ck) := B1.out.cell 4
  have b4 : W1.cell? ⟨w.heap.size + 1, 4, none⟩ = some (.slice Ak' ks'.length ck') := B2.out.cell 4
  go_wp2_with fail
  refine (EQS.out W1 F1.out).mono ?_
  rintro e W2 ⟨rfl, f2⟩
  have F2 := Lib.hid (F1.out.trans f2 (fun _ _ h => h))
  have a3 : W2.cell? ⟨w.heap.size, 3, none⟩ = some (.slice Al l.length cl) := (keepB B1.out f2).cell 3
  have b3 : W2.cell? ⟨w.heap.size + 1, 3, none⟩ = some (.slice Al' l'.length cl') := (keepB B2.out f2).cell 3
  clear f2 a0 a1 a2 a4 b0 b1 b2 b4 B1 B2 EQS
  obtain ⟨z, hz⟩ : ∃ z, (ks == ks') = z := ⟨_, rfl⟩
  rw [hz]
  have HZ := Lib.hid hz
  clear hz
  cases z with
  | false =>
    go_wp2_with fail
    go_ret
    exact ⟨ret_bool (by rw [HZ.out]; simp), F2.out⟩
  | true =>
    go_wp2_with fail
    refine (EQF.out W2 F2.out).mono ?_
    rintro e W3 ⟨rfl, f3⟩
    have F3 := Lib.hid (F2.out.trans f3 (fun _ _ h => h))
    clear f3
    go_wp2_with fail
    go_ret
    exact ⟨ret_bool (by rw [HZ.out]; simp), F3.out⟩
theorem same_c : ∀ (a b : V) (w : World) (D E : Nat → Prop) (C C' : Array Value), RdV D w C a → RdV E w C' b → Calls Tryz.prog 23 #[.agg C, .agg C'] w fun e w' => e = .returned (.bool (eqv a b)) ∧ Fr (fun _ => False) w w' := by
  intro a
  induction a using V.ind with
  | h k n t l ks ih =>
    intro b w D E C C' h h'
    obtain ⟨k1, n1, t1, l1, ks1, Al, cl, Ak, ck, css, e, rfl, hp⟩ := h.inv
    injection e with e1 e2 e3 e4 e5
    subst e1 e2 e3 e4 e5
    obtain ⟨k2, n2, t2, l2, ks2, Al', cl', Ak', ck', css', rfl, rfl, hq⟩ := h'.inv
    exact same_step w hp hq fun x hx W C C' y h1 h2 => ih x hx y W D E C C' h1 h2
end Go.Proofs.YtnkfkicabgajmaaGreatDoor
