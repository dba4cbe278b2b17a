/-
  DigestWrites, walked.
-/
import Derived.Test.YtfdpaiainlfigaaDoorRsmall
import Derived.Test.YtfdpaiainlfigaaDoorPar3
import Derived.Deep.DeepCutAuto
namespace Go.Proofs.YtfdpaiainlfigaaDoor
set_option linter.unusedSimpArgs false
set_option linter.unusedVariables false
open Go Go.RowKit Go.Shelf
attribute [local go_sem] Oper.semAt_some
theorem Rd.old {w w' : World} {A : Option Addr} {n : Nat} {xs : List Value} (h : Rd w A n xs) (hf : Fr (fun k => w.heap.size ≤ k) w w') : Rd w' A n xs := by
  rcases Nat.eq_zero_or_pos n with h0 | h0
  · subst h0
    obtain rfl : xs = [] := List.eq_nil_of_length_eq_zero h.1
    exact Rd.none_ _ _
  · exact h.fr hf (fun k hk e => by have := h.lt h0 hk; have e' : w.heap.size ≤ k := e; omega)
/-- The sum of a Digest of whatever size. -/
def sumX (H : List Nat) (N : Nat) (r : List UInt8) (S : Int) : List UInt8 := if szB S then sumL H N r S.toNat else []
theorem szB_nat' {S : Int} (h : szB S = true) : ∃ s : Nat, S = (s : Int) ∧ 1 ≤ s ∧ s ≤ 32 := by
  unfold szB at h
  simp only [Bool.and_eq_true, decide_eq_true_eq] at h
  exact ⟨S.toNat, by omega, by omega, by omega⟩
theorem sumx_c (w : World) (H : List Nat) (R : Option Addr) (rn rc : Nat) (r : List UInt8) (N : Nat) (S : Int) (hH : Ws 8 H) (hR : Rd w R rn (bv r)) (hrc : rn ≤ rc ∧ rc ≤ maxLen) (hN : N < 18446744073709551616) (hl : r.length ≤ 1000000000000) (hT : Tabs w) :
    Calls Tryd.prog 15 #[.agg (dc H (.slice R rn rc) N S)] w fun e w' => ∃ v, e = .returned v ∧ (∃ A n c, v = .slice A n c ∧ Rd w' A n (bv (sumX H N r S))) ∧ Fr (fun _ => False) w w' := by
  by_cases h : szB S = true
  · obtain ⟨s, rfl, h1, h2⟩ := szB_nat' h
    refine (sum_c w H R rn rc r N s hH hR hrc hN hl h ⟨h1, h2⟩ hT).mono ?_
    rintro e w' ⟨v, rfl, o, f⟩
    obtain ⟨A, c, rfl, -, -⟩ := own_slice o
    refine ⟨_, rfl, ⟨A, s, c, rfl, ?_⟩, f⟩
    unfold sumX
    rw [if_pos h]
    exact Rd.of_own o
  · have h' : szB S = false := by simpa using h
    refine (sum_no w H (.slice R rn rc) N S h').mono ?_
    rintro e w' ⟨rfl, f⟩
    refine ⟨_, rfl, ⟨none, 0, 0, rfl, ?_⟩, f⟩
    unfold sumX
    rw [if_neg h]
    exact Rd.none_ _ _
theorem rsumx_c (w : World) (H : List Nat) (R : Option Addr) (rn rc : Nat) (r : List UInt8) (N : Nat) (S : Int) (hH : Ws 8 H) (hR : Rd w R rn (bv r)) (hrc : rn ≤ rc ∧ rc ≤ maxLen) (hN : N < 18446744073709551616) (hl : r.length ≤ 1000000000000) :
    Calls Tryd.prog 16 #[.agg (dc H (.slice R rn rc) N S)] w fun e w' => ∃ v, e = .returned v ∧ (∃ A n c, v = .slice A n c ∧ Rd w' A n (bv (sumX H N r S))) ∧ Fr (fun _ => False) w w' := by
  by_cases h : szB S = true
  · obtain ⟨s, rfl, h1, h2⟩ := szB_nat' h
    refine (rsum_c w H R rn rc r N s hH hR hrc hN hl ⟨h1, h2⟩).mono ?_
    rintro e w' ⟨v, rfl, o, f⟩
    obtain ⟨A, c, rfl, -, -⟩ := own_slice o
    refine ⟨_, rfl, ⟨A, s, c, rfl, ?_⟩, f⟩
    unfold sumX
    rw [if_pos h]
    exact Rd.of_own o
  · have h' : S < 1 ∨ 32 < S := by
      unfold szB at h
      simp only [Bool.and_eq_true, decide_eq_true_eq] at h
      omega
    refine (rsum_no w H R rn rc r N S hH hR hrc hN hl h').mono ?_
    rintro e w' ⟨rfl, f⟩
    refine ⟨_, rfl, ⟨none, 0, 0, rfl, ?_⟩, f⟩
    unfold sumX
    rw [if_neg h]
    exact Rd.none_ _ _
def wriX (H : List Nat) (R : Option Addr) (rn rc N : Nat) (S : Int) (A : Option Addr) (n c : Nat) (H1 : List Nat) (Ax : Option Addr) (nx cx N1 : Nat) (r1 q1 q2 : List UInt8) (i : Nat) (v : Value) (W : World) : Prop := match i with
  | 0 => v = .agg (dc H1 (.slice Ax nx cx) N1 S)
  | 1 => v = .agg (dc H (.slice R rn rc) N S)
  | 2 => v = .slice A n c
  | 3 => ∃ Ar nr cr, v = .agg (dc H1 (.slice Ar nr cr) N1 S) ∧ Rd W Ar nr (bv r1)
  | 4 => v = .bool true
  | 5 => v = .bool false
  | 6 => v = .bool false
  | 7 => v = .agg (dc H (.slice R rn rc) N S)
  | 8 => ∃ A9 n9 c9, v = .slice A9 n9 c9 ∧ Rd W A9 n9 (bv q1)
  | 9 => v = .string (strOf q1)
  | 10 => v = .agg (dc H (.slice R rn rc) N S)
  | 11 => ∃ A9 n9 c9, v = .slice A9 n9 c9 ∧ Rd W A9 n9 (bv q1)
  | 12 => v = .string (strOf q1)
  | 13 => v = .bool false
  | 14 => v = .bool false
  | 15 => v = .bool false
  | 16 => v = .agg (dc H1 (.slice Ax nx cx) N1 S)
  | 17 => ∃ A9 n9 c9, v = .slice A9 n9 c9 ∧ Rd W A9 n9 (bv q2)
  | 18 => v = .string (strOf q2)
  | 19 => v = .agg (dc H1 (.slice Ax nx cx) N1 S)
  | 20 => ∃ A9 n9 c9, v = .slice A9 n9 c9 ∧ Rd W A9 n9 (bv q2)
  | 21 => v = .string (strOf q2)
  | 22 => v = .bool false
  | 23 => v = .bool false
  | _ => True
theorem wriX_far {H : List Nat} {R : Option Addr} {rn rc N : Nat} {S : Int} {A : Option Addr} {n c : Nat} {H1 : List Nat} {Ax : Option Addr} {nx cx N1 : Nat} {r1 q1 q2 : List UInt8} {i : Nat} {v : Value} {W W' : World} (hg : Fr (fun _ => False) W W') (hx : wriX H R rn rc N S A n c H1 Ax nx cx N1 r1 q1 q2 i v W) : wriX H R rn rc N S A n c H1 Ax nx cx N1 r1 q1 q2 i v W' := by
  match i with
  | 0 => exact hx
  | 1 => exact hx
  | 2 => exact hx
  | 3 => obtain ⟨a, n, c, e, r⟩ := hx; exact ⟨a, n, c, e, r.far hg⟩
  | 4 => exact hx
  | 5 => exact hx
  | 6 => exact hx
  | 7 => exact hx
  | 8 => obtain ⟨a, n, c, e, r⟩ := hx; exact ⟨a, n, c, e, r.far hg⟩
  | 9 => exact hx
  | 10 => exact hx
  | 11 => obtain ⟨a, n, c, e, r⟩ := hx; exact ⟨a, n, c, e, r.far hg⟩
  | 12 => exact hx
  | 13 => exact hx
  | 14 => exact hx
  | 15 => exact hx
  | 16 => exact hx
  | 17 => obtain ⟨a, n, c, e, r⟩ := hx; exact ⟨a, n, c, e, r.far hg⟩
  | 18 => exact hx
  | 19 => exact hx
  | 20 => obtain ⟨a, n, c, e, r⟩ := hx; exact ⟨a, n, c, e, r.far hg⟩
  | 21 => exact hx
  | 22 => exact hx
  | 23 => exact hx
  | (n + 24) => exact hx
def wr3X (g : Nat) (R : Option Addr) (rn rc : Nat) (A : Option Addr) (n c : Nat) (r b : List UInt8) (i : Nat) (v : Value) (W : World) : Prop := match i with
  | 0 => v = .pointer (some ⟨g, 8, none⟩)
  | 1 => v = .slice R rn rc
  | 2 => v = .string (strOf r)
  | 3 => v = .slice A n c
  | 4 => v = .string (strOf b)
  | 5 => v = .string (strOf r)
  | 6 => v = .string (strOf b)
  | _ => True
theorem wr3X_far {g : Nat} {R : Option Addr} {rn rc : Nat} {A : Option Addr} {n c : Nat} {r b : List UInt8} {i : Nat} {v : Value} {W W' : World} (hg : Fr (fun _ => False) W W') (hx : wr3X g R rn rc A n c r b i v W) : wr3X g R rn rc A n c r b i v W' := by
  match i with
  | 0 => exact hx
  | 1 => exact hx
  | 2 => exact hx
  | 3 => exact hx
  | 4 => exact hx
  | 5 => exact hx
  | 6 => exact hx
  | (n + 7) => exact hx
set_option maxRecDepth 100000 in
set_option maxHeartbeats 2000000 in
theorem writes_c (w : World) (H : List Nat) (R : Option Addr) (rn rc : Nat) (r : List UInt8) (N : Nat) (S : Int) (A : Option Addr) (n c : Nat) (b : List UInt8) (hH : Ws 8 H) (hR : Rd w R rn (bv r)) (hrn : rn ≤ rc) (hrc : rc ≤ 140737488355328) (hA : Rd w A n (bv b)) (hn : n ≤ c) (hc : c ≤ 140737488355328) (hN : N < 18446744073709551616) (hT : Tabs w) :
    Calls Tryd.prog 4 #[.agg (dc H (.slice R rn rc) N S), .slice A n c] w fun e w' => e = .returned (.bool true) ∧ Fr (fun _ => False) w w' := by
  have HT := Lib.hid hT
  have HR := Lib.hid hR
  have HA := Lib.hid hA
  have HH := Lib.hid hH
  have HN := Lib.hid hN
  have HRC := Lib.hid hrc
  have HC := Lib.hid hc
  have hrl : r.length = rn := by rw [← bv_length]; exact hR.1
  have hbl : b.length = n := by rw [← bv_length]; exact hA.1
  have HRL := Lib.hid hrl
  have HBL := Lib.hid hbl
  clear hT hR hA hH hN hrc hc hrl hbl
  by_cases hbig : 2000 < rn ∨ 2000 < n
  · have hways : decide ((2000 : Int) < (rn : Int)) = true ∨ (decide ((2000 : Int) < (rn : Int)) = false ∧ decide ((2000 : Int) < (n : Int)) = true) := by
      by_cases h : 2000 < rn
      · exact .inl (decide_eq_true (by omega))
      · exact .inr ⟨decide_eq_false (by omega), decide_eq_true (by omega)⟩
    unfold dc
    go_enter Tryd.func4, Tryd.ntmps4
    go_upto_region 1 with fail
    refine abs_world (fun W => Hid (Blk W w.heap.size 33 (dc H (.slice R rn rc) N S)) ∧ Hid (Fr (fun _ => False) w W)) ⟨Blk.new w _ _, (Fr.refl _ w).alloc _⟩ ?_
    rintro W1 ⟨HB1, HF1⟩
    have k8 : W1.cell? ⟨w.heap.size, 8, none⟩ = some (.slice R rn rc) := HB1.out.cell 8
    clear hbig
    rcases hways with h1 | ⟨h1, h2⟩
    all_goals
      go_wp2_with fail
      refine (awake_c W1 (HT.out.far HF1.out)).mono ?_
      rintro e w5 ⟨rfl, f5⟩
      have F5 := Lib.hid (HF1.out.trans f5 (fun _ _ h => h))
      clear f5
      go_wp2_with fail
      go_ret
      exact ⟨rfl, F5.out⟩
  have hb1 : decide ((2000 : Int) < (rn : Int)) = false := decide_eq_false (by omega)
  have hb2 : decide ((2000 : Int) < (n : Int)) = false := decide_eq_false (by omega)
  have hrn2 : rn ≤ 2000 := by omega
  have hn2 : n ≤ 2000 := by omega
  clear hbig
  unfold dc
  go_enter Tryd.func4, Tryd.ntmps4
  go_upto_region 1 with fail
  refine abs_world (fun W => Hid (Blk W w.heap.size 33 (dc H (.slice R rn rc) N S)) ∧ Hid (Fr (fun _ => False) w W)) ⟨Blk.new w _ _, (Fr.refl _ w).alloc _⟩ ?_
  rintro W1 ⟨BS, HF1⟩
  have k8 : W1.cell? ⟨w.heap.size, 8, none⟩ = some (.slice R rn rc) := BS.out.cell 8
  have HR1 := Lib.hid (HR.out.far HF1.out)
  have HA1 := Lib.hid (HA.out.far HF1.out)
  obtain ⟨g, hg⟩ : ∃ g, w.heap.size = g := ⟨_, rfl⟩
  rw [hg] at k8 BS ⊢
  have HG := Lib.hid hg
  clear hg
  go_wp2_with fail
  clear k8 hb1 hb2
  refine (wpIn_wide (n := 9)).1 ?_
  refine wpIn_region_factsG (ms := [0, 1, 3, 0, 8, 7, 63]) (k := 7) (Fr (fun _ => False)) (wr3X g R rn rc A n c r b) (fun i v W => True) (by kernel_rfl) (by kernel_rfl) (Fr.refl _ _) (fun a b c h1 h2 => h1.trans h2 (fun _ _ h => h)) (fun i v w w' hg hx => wr3X_far hg hx) ?walk3
  case walk3 =>
  have hdr : ∀ W, Fr (fun _ => False) W1.drew W → Fr (fun _ => False) W1 W := fun W h => ((Fr.refl (fun _ => False) W1).drew).trans h (fun _ _ h => h)
  have HDR := Lib.hid hdr
  clear hdr
  refine factWalkG_cons (fun W hW hf K hK => ?_) (fun y0 => ?_)
  · skip
    refine ⟨by kernel_rfl, ?_⟩
    gi_step
    exact hK _ _ (Fr.refl _ _) rfl trivial
  simp only [Act.put, List.setIfInBounds_toArray, List.set_cons_succ, List.set_cons_zero]
  refine factWalkG_cons (fun W hW hf K hK => ?_) (fun y1 => ?_)
  · skip
    have e0 : y0 = .pointer (some ⟨g, 8, none⟩) := hf 0 (by omega) (by kernel_rfl)
    subst e0
    have k8 := (BS.out.fr (fp := fun _ => False) (HDR.out _ hW) (fun h => h)).cell 8
    simp only [dc, List.getElem?_toArray, List.getElem?_cons_zero, List.getElem?_cons_succ] at k8
    refine ⟨by kernel_rfl, ?_⟩
    gi_step
    exact hK _ _ (Fr.refl _ _) rfl trivial
  simp only [Act.put, List.setIfInBounds_toArray, List.set_cons_succ, List.set_cons_zero]
  refine factWalkG_cons (fun W hW hf K hK => ?_) (fun y2 => ?_)
  · skip
    have e1 : y1 = .slice R rn rc := hf 1 (by omega) (by kernel_rfl)
    subst e1
    have cv := conv_str W R rn rc r (HR1.out.far (HDR.out W hW))
    refine ⟨by kernel_rfl, ?_⟩
    gi_step
    exact hK _ _ (Fr.refl _ _) rfl trivial
  simp only [Act.put, List.setIfInBounds_toArray, List.set_cons_succ, List.set_cons_zero]
  refine factWalkG_cons (fun W hW hf K hK => ?_) (fun y3 => ?_)
  · skip
    refine ⟨by kernel_rfl, ?_⟩
    gi_step
    exact hK _ _ (Fr.refl _ _) rfl trivial
  simp only [Act.put, List.setIfInBounds_toArray, List.set_cons_succ, List.set_cons_zero]
  refine factWalkG_cons (fun W hW hf K hK => ?_) (fun y4 => ?_)
  · skip
    have e3 : y3 = .slice A n c := hf 3 (by omega) (by kernel_rfl)
    subst e3
    have cv := conv_str W A n c b (HA1.out.far (HDR.out W hW))
    refine ⟨by kernel_rfl, ?_⟩
    gi_step
    exact hK _ _ (Fr.refl _ _) rfl trivial
  simp only [Act.put, List.setIfInBounds_toArray, List.set_cons_succ, List.set_cons_zero]
  refine factWalkG_cons (fun W hW hf K hK => ?_) (fun y5 => ?_)
  · skip
    have e2 : y2 = .string (strOf r) := hf 2 (by omega) (by kernel_rfl)
    subst e2
    refine ⟨by kernel_rfl, ?_⟩
    gi_step
    exact hK _ _ (Fr.refl _ _) rfl trivial
  simp only [Act.put, List.setIfInBounds_toArray, List.set_cons_succ, List.set_cons_zero]
  refine factWalkG_cons (fun W hW hf K hK => ?_) (fun y6 => ?_)
  · skip
    have e4 : y4 = .string (strOf b) := hf 4 (by omega) (by kernel_rfl)
    subst e4
    refine ⟨by kernel_rfl, ?_⟩
    gi_step
    exact hK _ _ (Fr.refl _ _) rfl trivial
  simp only [Act.put, List.setIfInBounds_toArray, List.set_cons_succ, List.set_cons_zero]
  refine factWalkG_nil (fun W hW hf hmet => ?_)
  have e6 : y6 = .string (strOf b) := hf 6 (by omega)
  have e5 : y5 = .string (strOf r) := hf 5 (by omega)
  subst e5 e6
  change wpAnyIn _ _ _ _ _ _ 0 _ _ _
  refine wpAnyIn_done (by kernel_rfl) ?_ _
  refine abs_exit (fun W => Hid (Blk W g 33 (dc H (.slice R rn rc) N S)) ∧ Hid (Fr (fun _ => False) w W)) ⟨BS.out.fr (HDR.out W hW) (fun h => h), HF1.out.trans (HDR.out W hW) (fun _ _ h => h)⟩ ?_
  clear hmet hf hW HDR W BS HF1 HR1 HA1
  rintro W2 ⟨BS, HF2⟩
  have hww := write_c W2 H R rn rc r N S A n c b HH.out (HR.out.far HF2.out) ⟨hrn, by have := HRC.out; unfold maxLen; omega⟩ (HA.out.far HF2.out) ⟨hn, by have := HC.out; unfold maxLen; omega⟩ HN.out (by rw [HRL.out, HBL.out]; omega) (HT.out.far HF2.out)
  have hrw := fun (W : World) (hW : Fr (fun _ => False) W2 W) => rwrite_c W H R rn rc r N S A n c b HH.out ((HR.out.far HF2.out).far hW) ⟨hrn, by have := HRC.out; unfold maxLen; omega⟩ ((HA.out.far HF2.out).far hW) ⟨hn, by have := HC.out; unfold maxLen; omega⟩ HN.out (by rw [HRL.out, HBL.out]; omega)
  have hok := wrL_ok _ (r ++ b) H N (Nat.le_refl _) HH.out HN.out
  have hrbl : (r ++ b).length = rn + n := by rw [List.length_append, HRL.out, HBL.out]
  obtain ⟨st, hst⟩ : ∃ st, wrL H N (r ++ b) = st := ⟨_, rfl⟩
  rw [hst] at hww hrw hok
  obtain ⟨H1, N1, r1⟩ := st
  dsimp only at hww hrw hok
  obtain ⟨⟨hH1, hN1⟩, hl1, -⟩ := hok
  dsimp only at hH1 hN1 hl1
  have HH1 := Lib.hid hH1
  have HN1 := Lib.hid hN1
  have HWW := Lib.hid hww
  have HRW0 := Lib.hid hrw
  have HST := Lib.hid hst
  clear hst hww hrw hH1 hN1 hrbl
  have k0 := BS.out.cell 0
  have k1 := BS.out.cell 1
  have k2 := BS.out.cell 2
  have k3 := BS.out.cell 3
  have k4 := BS.out.cell 4
  have k5 := BS.out.cell 5
  have k6 := BS.out.cell 6
  have k7 := BS.out.cell 7
  have k8 := BS.out.cell 8
  have k9 := BS.out.cell 9
  have k10 := BS.out.cell 10
  simp only [dc, List.getElem?_toArray, List.getElem?_cons_zero, List.getElem?_cons_succ] at k0 k1 k2 k3 k4 k5 k6 k7 k8 k9 k10
  go_wp2_with fail
  refine HWW.out.mono ?_
  rintro e w3 ⟨v, rfl, o3, f3⟩
  obtain ⟨Ax, cx, rfl, hcx1, hcx2⟩ := own_slice o3
  obtain ⟨nx, hnx⟩ : ∃ nx, r1.length = nx := ⟨_, rfl⟩
  rw [hnx] at o3 hcx1 hl1 ⊢
  have HNX := Lib.hid hnx
  have HCX := Lib.hid hcx2
  have O3 := Lib.hid o3
  have hsz := BS.out.lt
  have B3 := Lib.hid (BS.out.fr f3 (fun h => h))
  have F3 := Lib.hid (HF2.out.trans f3 (fun _ _ h => h))
  have HSZ := Lib.hid f3.size
  have HSZ0 := Lib.hid HF2.out.size
  clear f3 o3 hnx hcx2 HWW k0 k1 k2 k3 k4 k5 k6 k7 k8 k9 k10
  unfold dc
  go_upto_region 5 with fail
  refine abs_world (fun W => Hid (Blk W w3.heap.size 33 (dc H1 (.slice Ax nx cx) N1 S)) ∧ Hid (Blk W g 33 (dc H (.slice R rn rc) N S)) ∧ Hid (W.ownsRow W2.heap.size 5 1 (.slice Ax nx cx) nx (bv r1)) ∧ Hid (Fr (fun _ => False) w3 W) ∧ Hid (Fr (fun _ => False) w W)) ⟨Blk.new w3 _ _, B3.out.alloc _, own_fr O3.out ((Fr.refl (fun _ => False) w3).alloc _) (fun _ _ h => h), (Fr.refl _ w3).alloc _, F3.out.alloc _⟩ ?_
  rintro W4 ⟨BX, BS4, O4, F34, HF⟩
  have HW2 := Lib.hid (show Fr (fun _ => False) W2 W4 → True from fun _ => trivial)
  obtain ⟨gx, hgx⟩ : ∃ q, w3.heap.size = q := ⟨_, rfl⟩
  rw [hgx] at BX HSZ ⊢
  have RX := Lib.hid (Rd.of_own O4.out)
  have HR4 := Lib.hid (HR.out.far HF.out)
  obtain ⟨q1, hq1⟩ : ∃ q, sumX H N r S = q := ⟨_, rfl⟩
  obtain ⟨q2, hq2⟩ : ∃ q, sumX H1 N1 r1 S = q := ⟨_, rfl⟩
  have hs1 := fun (W : World) (hW : Fr (fun _ => False) W4 W) => sumx_c W H R rn rc r N S HH.out (HR4.out.far hW) ⟨hrn, by have := HRC.out; unfold maxLen; omega⟩ HN.out (by rw [HRL.out]; omega) (HT.out.far (HF.out.trans hW (fun _ _ h => h)))
  have hs2 := fun (W : World) (hW : Fr (fun _ => False) W4 W) => rsumx_c W H R rn rc r N S HH.out (HR4.out.far hW) ⟨hrn, by have := HRC.out; unfold maxLen; omega⟩ HN.out (by rw [HRL.out]; omega)
  have hs3 := fun (W : World) (hW : Fr (fun _ => False) W4 W) => sumx_c W H1 Ax nx cx r1 N1 S HH1.out (RX.out.far hW) ⟨hcx1, HCX.out⟩ HN1.out (by rw [HNX.out]; omega) (HT.out.far (HF.out.trans hW (fun _ _ h => h)))
  have hs4 := fun (W : World) (hW : Fr (fun _ => False) W4 W) => rsumx_c W H1 Ax nx cx r1 N1 S HH1.out (RX.out.far hW) ⟨hcx1, HCX.out⟩ HN1.out (by rw [HNX.out]; omega)
  rw [hq1] at hs1 hs2
  rw [hq2] at hs3 hs4
  have HS1 := Lib.hid hs1
  have HS2 := Lib.hid hs2
  have HS3 := Lib.hid hs3
  have HS4 := Lib.hid hs4
  have hrw2 : ∀ W, Fr (fun _ => False) W4 W → Calls Tryd.prog 14 #[.agg (dc H (.slice R rn rc) N S), .slice A n c] W fun e w' => ∃ Ar nr cr, e = .returned (.agg (dc H1 (.slice Ar nr cr) N1 S)) ∧ Rd w' Ar nr (bv r1) ∧ Fr (fun _ => False) W w' := fun W hW => by
    have h := rwrite_c W H R rn rc r N S A n c b HH.out (HR4.out.far hW) ⟨hrn, by have := HRC.out; unfold maxLen; omega⟩ ((HA.out.far HF.out).far hW) ⟨hn, by have := HC.out; unfold maxLen; omega⟩ HN.out (by rw [HRL.out, HBL.out]; omega)
    rw [HST.out] at h
    refine h.mono ?_
    rintro e w' ⟨v, rfl, o, f⟩
    obtain ⟨A', c', rfl, rd, -⟩ := o.slice
    exact ⟨A', _, c', rfl, rd, f⟩
  have HRW := Lib.hid hrw2
  have HBS := Lib.hid BS4.out
  clear hs1 hs2 hs3 hs4 hrw2 HRW0 hq1 hq2 B3 F3 O3 BS HW2
  have BS := HBS
  refine (wpIn_wide (n := 9)).1 ?_
  refine wpIn_region_factsG (ms := [0, 0, 0, 6, 15, 31, 63, 127, 255, 511, 127, 1535, 3583, 8191, 16383, 32767, 65535, 131071, 262143, 65535, 786431, 1835007, 4194303, 8388607]) (k := 24) (Fr (fun _ => False)) (wriX H R rn rc N S A n c H1 Ax nx cx N1 r1 q1 q2) (fun i v W => True) (by kernel_rfl) (by kernel_rfl) (Fr.refl _ _) (fun a b c h1 h2 => h1.trans h2 (fun _ _ h => h)) (fun i v w w' hg hx => wriX_far hg hx) ?walk5
  case walk5 =>
  have hdr : ∀ W, Fr (fun _ => False) W4.drew W → Fr (fun _ => False) W4 W := fun W h => ((Fr.refl (fun _ => False) W4).drew).trans h (fun _ _ h => h)
  have HDR := Lib.hid hdr
  clear hdr
  refine factWalkG_cons (fun W hW hf K hK => ?_) (fun x0 => ?_)
  · skip
    have bl := BX.out.fr (fp := fun _ => False) (HDR.out _ hW) (fun h => h)
    have k0 := bl.cell 0
    have k1 := bl.cell 1
    have k2 := bl.cell 2
    have k3 := bl.cell 3
    have k4 := bl.cell 4
    have k5 := bl.cell 5
    have k6 := bl.cell 6
    have k7 := bl.cell 7
    have k8 := bl.cell 8
    have k9 := bl.cell 9
    have k10 := bl.cell 10
    simp only [dc, List.getElem?_toArray, List.getElem?_cons_zero, List.getElem?_cons_succ] at k0 k1 k2 k3 k4 k5 k6 k7 k8 k9 k10
    clear bl
    refine ⟨by kernel_rfl, ?_⟩
    gi_step
    exact hK _ _ (Fr.refl _ _) rfl trivial
  simp only [Act.put, List.setIfInBounds_toArray, List.set_cons_succ, List.set_cons_zero]
  refine factWalkG_cons (fun W hW hf K hK => ?_) (fun x1 => ?_)
  · skip
    have bl := BS.out.fr (fp := fun _ => False) (HDR.out _ hW) (fun h => h)
    have k0 := bl.cell 0
    have k1 := bl.cell 1
    have k2 := bl.cell 2
    have k3 := bl.cell 3
    have k4 := bl.cell 4
    have k5 := bl.cell 5
    have k6 := bl.cell 6
    have k7 := bl.cell 7
    have k8 := bl.cell 8
    have k9 := bl.cell 9
    have k10 := bl.cell 10
    simp only [dc, List.getElem?_toArray, List.getElem?_cons_zero, List.getElem?_cons_succ] at k0 k1 k2 k3 k4 k5 k6 k7 k8 k9 k10
    clear bl
    refine ⟨by kernel_rfl, ?_⟩
    gi_step
    exact hK _ _ (Fr.refl _ _) rfl trivial
  simp only [Act.put, List.setIfInBounds_toArray, List.set_cons_succ, List.set_cons_zero]
  refine factWalkG_cons (fun W hW hf K hK => ?_) (fun x2 => ?_)
  · skip
    refine ⟨by kernel_rfl, ?_⟩
    gi_step
    exact hK _ _ (Fr.refl _ _) rfl trivial
  simp only [Act.put, List.setIfInBounds_toArray, List.set_cons_succ, List.set_cons_zero]
  refine factWalkG_cons (fun W hW hf K hK => ?_) (fun x3 => ?_)
  · skip
    have e1 : x1 = .agg (dc H (.slice R rn rc) N S) := hf 1 (by omega) (by kernel_rfl)
    have e2 : x2 = .slice A n c := hf 2 (by omega) (by kernel_rfl)
    subst e1 e2
    have hw := HRW.out W (HDR.out W hW)
    refine ⟨by kernel_rfl, ?_⟩
    gi_step
    refine ⟨trivial, ?_⟩
    refine (callsIn_wide.2 (hw)).mono ?_
    rintro e W' ⟨_, _, _, rfl, o2, f2⟩
    dsimp only
    exact hK _ _ f2 ⟨_, _, _, rfl, o2⟩ trivial
  simp only [Act.put, List.setIfInBounds_toArray, List.set_cons_succ, List.set_cons_zero]
  refine factWalkG_cons (fun W hW hf K hK => ?_) (fun x4 => ?_)
  · skip
    have e0 : x0 = .agg (dc H1 (.slice Ax nx cx) N1 S) := hf 0 (by omega) (by kernel_rfl)
    obtain ⟨a3, n3, d3, e3, rd3⟩ : ∃ Ar nr cr, x3 = .agg (dc H1 (.slice Ar nr cr) N1 S) ∧ Rd W Ar nr (bv r1) := hf 3 (by omega) (by kernel_rfl)
    subst e0 e3
    have hw := rsame_c W H1 Ax nx cx a3 n3 d3 r1 N1 S HH1.out (RX.out.far (HDR.out W hW)) rd3
    refine ⟨by kernel_rfl, ?_⟩
    gi_step
    refine ⟨trivial, ?_⟩
    refine (callsIn_wide.2 (hw)).mono ?_
    rintro e W' ⟨rfl, f2⟩
    dsimp only
    exact hK _ _ f2 rfl trivial
  simp only [Act.put, List.setIfInBounds_toArray, List.set_cons_succ, List.set_cons_zero]
  refine factWalkG_cons (fun W hW hf K hK => ?_) (fun x5 => ?_)
  · skip
    have e4 : x4 = .bool true := hf 4 (by omega) (by kernel_rfl)
    subst e4
    refine ⟨by kernel_rfl, ?_⟩
    gi_step
    exact hK _ _ (Fr.refl _ _) rfl trivial
  simp only [Act.put, List.setIfInBounds_toArray, List.set_cons_succ, List.set_cons_zero]
  refine factWalkG_cons (fun W hW hf K hK => ?_) (fun x6 => ?_)
  · skip
    have e5 : x5 = .bool false := hf 5 (by omega) (by kernel_rfl)
    subst e5
    refine ⟨by kernel_rfl, ?_⟩
    gi_step
    exact hK _ _ (Fr.refl _ _) rfl trivial
  simp only [Act.put, List.setIfInBounds_toArray, List.set_cons_succ, List.set_cons_zero]
  refine factWalkG_cons (fun W hW hf K hK => ?_) (fun x7 => ?_)
  · skip
    have e6 : x6 = .bool false := hf 6 (by omega) (by kernel_rfl)
    subst e6
    have bl := BS.out.fr (fp := fun _ => False) (HDR.out _ hW) (fun h => h)
    have k0 := bl.cell 0
    have k1 := bl.cell 1
    have k2 := bl.cell 2
    have k3 := bl.cell 3
    have k4 := bl.cell 4
    have k5 := bl.cell 5
    have k6 := bl.cell 6
    have k7 := bl.cell 7
    have k8 := bl.cell 8
    have k9 := bl.cell 9
    have k10 := bl.cell 10
    simp only [dc, List.getElem?_toArray, List.getElem?_cons_zero, List.getElem?_cons_succ] at k0 k1 k2 k3 k4 k5 k6 k7 k8 k9 k10
    clear bl
    refine ⟨by kernel_rfl, ?_⟩
    gi_step
    exact hK _ _ (Fr.refl _ _) rfl trivial
  simp only [Act.put, List.setIfInBounds_toArray, List.set_cons_succ, List.set_cons_zero]
  refine factWalkG_cons (fun W hW hf K hK => ?_) (fun x8 => ?_)
  · skip
    have e6 : x6 = .bool false := hf 6 (by omega) (by kernel_rfl)
    have e7 : x7 = .agg (dc H (.slice R rn rc) N S) := hf 7 (by omega) (by kernel_rfl)
    subst e6 e7
    have hw := HS1.out W (HDR.out W hW)
    refine ⟨by kernel_rfl, ?_⟩
    gi_step
    refine ⟨trivial, ?_⟩
    refine (callsIn_wide.2 (hw)).mono ?_
    rintro e W' ⟨_, rfl, ⟨_, _, _, rfl, o2⟩, f2⟩
    dsimp only
    exact hK _ _ f2 ⟨_, _, _, rfl, o2⟩ trivial
  simp only [Act.put, List.setIfInBounds_toArray, List.set_cons_succ, List.set_cons_zero]
  refine factWalkG_cons (fun W hW hf K hK => ?_) (fun x9 => ?_)
  · skip
    have e6 : x6 = .bool false := hf 6 (by omega) (by kernel_rfl)
    obtain ⟨a8, n8, d8, e8, rd8⟩ : ∃ A9 n9 c9, x8 = .slice A9 n9 c9 ∧ Rd W A9 n9 (bv q1) := hf 8 (by omega) (by kernel_rfl)
    subst e6 e8
    have cv := conv_str W a8 n8 d8 q1 rd8
    refine ⟨by kernel_rfl, ?_⟩
    gi_step
    exact hK _ _ (Fr.refl _ _) rfl trivial
  simp only [Act.put, List.setIfInBounds_toArray, List.set_cons_succ, List.set_cons_zero]
  refine factWalkG_cons (fun W hW hf K hK => ?_) (fun x10 => ?_)
  · skip
    have e6 : x6 = .bool false := hf 6 (by omega) (by kernel_rfl)
    subst e6
    have bl := BS.out.fr (fp := fun _ => False) (HDR.out _ hW) (fun h => h)
    have k0 := bl.cell 0
    have k1 := bl.cell 1
    have k2 := bl.cell 2
    have k3 := bl.cell 3
    have k4 := bl.cell 4
    have k5 := bl.cell 5
    have k6 := bl.cell 6
    have k7 := bl.cell 7
    have k8 := bl.cell 8
    have k9 := bl.cell 9
    have k10 := bl.cell 10
    simp only [dc, List.getElem?_toArray, List.getElem?_cons_zero, List.getElem?_cons_succ] at k0 k1 k2 k3 k4 k5 k6 k7 k8 k9 k10
    clear bl
    refine ⟨by kernel_rfl, ?_⟩
    gi_step
    exact hK _ _ (Fr.refl _ _) rfl trivial
  simp only [Act.put, List.setIfInBounds_toArray, List.set_cons_succ, List.set_cons_zero]
  refine factWalkG_cons (fun W hW hf K hK => ?_) (fun x11 => ?_)
  · skip
    have e6 : x6 = .bool false := hf 6 (by omega) (by kernel_rfl)
    have e10 : x10 = .agg (dc H (.slice R rn rc) N S) := hf 10 (by omega) (by kernel_rfl)
    subst e6 e10
    have hw := HS2.out W (HDR.out W hW)
    refine ⟨by kernel_rfl, ?_⟩
    gi_step
    refine ⟨trivial, ?_⟩
    refine (callsIn_wide.2 (hw)).mono ?_
    rintro e W' ⟨_, rfl, ⟨_, _, _, rfl, o2⟩, f2⟩
    dsimp only
    exact hK _ _ f2 ⟨_, _, _, rfl, o2⟩ trivial
  simp only [Act.put, List.setIfInBounds_toArray, List.set_cons_succ, List.set_cons_zero]
  refine factWalkG_cons (fun W hW hf K hK => ?_) (fun x12 => ?_)
  · skip
    have e6 : x6 = .bool false := hf 6 (by omega) (by kernel_rfl)
    obtain ⟨a11, n11, d11, e11, rd11⟩ : ∃ A9 n9 c9, x11 = .slice A9 n9 c9 ∧ Rd W A9 n9 (bv q1) := hf 11 (by omega) (by kernel_rfl)
    subst e6 e11
    have cv := conv_str W a11 n11 d11 q1 rd11
    refine ⟨by kernel_rfl, ?_⟩
    gi_step
    exact hK _ _ (Fr.refl _ _) rfl trivial
  simp only [Act.put, List.setIfInBounds_toArray, List.set_cons_succ, List.set_cons_zero]
  refine factWalkG_cons (fun W hW hf K hK => ?_) (fun x13 => ?_)
  · skip
    have e6 : x6 = .bool false := hf 6 (by omega) (by kernel_rfl)
    have e9 : x9 = .string (strOf q1) := hf 9 (by omega) (by kernel_rfl)
    have e12 : x12 = .string (strOf q1) := hf 12 (by omega) (by kernel_rfl)
    subst e6 e9 e12
    have hbq : ((strOf q1).toList == (strOf q1).toList) = true := by simp
    have hbn : ((strOf q1).toList != (strOf q1).toList) = false := by simp
    refine ⟨by kernel_rfl, ?_⟩
    gi_step
    exact hK _ _ (Fr.refl _ _) rfl trivial
  simp only [Act.put, List.setIfInBounds_toArray, List.set_cons_succ, List.set_cons_zero]
  refine factWalkG_cons (fun W hW hf K hK => ?_) (fun x14 => ?_)
  · skip
    have e6 : x6 = .bool false := hf 6 (by omega) (by kernel_rfl)
    have e13 : x13 = .bool false := hf 13 (by omega) (by kernel_rfl)
    subst e6 e13
    refine ⟨by kernel_rfl, ?_⟩
    gi_step
    exact hK _ _ (Fr.refl _ _) rfl trivial
  simp only [Act.put, List.setIfInBounds_toArray, List.set_cons_succ, List.set_cons_zero]
  refine factWalkG_cons (fun W hW hf K hK => ?_) (fun x15 => ?_)
  · skip
    have e14 : x14 = .bool false := hf 14 (by omega) (by kernel_rfl)
    subst e14
    refine ⟨by kernel_rfl, ?_⟩
    gi_step
    exact hK _ _ (Fr.refl _ _) rfl trivial
  simp only [Act.put, List.setIfInBounds_toArray, List.set_cons_succ, List.set_cons_zero]
  refine factWalkG_cons (fun W hW hf K hK => ?_) (fun x16 => ?_)
  · skip
    have e15 : x15 = .bool false := hf 15 (by omega) (by kernel_rfl)
    subst e15
    have bl := BX.out.fr (fp := fun _ => False) (HDR.out _ hW) (fun h => h)
    have k0 := bl.cell 0
    have k1 := bl.cell 1
    have k2 := bl.cell 2
    have k3 := bl.cell 3
    have k4 := bl.cell 4
    have k5 := bl.cell 5
    have k6 := bl.cell 6
    have k7 := bl.cell 7
    have k8 := bl.cell 8
    have k9 := bl.cell 9
    have k10 := bl.cell 10
    simp only [dc, List.getElem?_toArray, List.getElem?_cons_zero, List.getElem?_cons_succ] at k0 k1 k2 k3 k4 k5 k6 k7 k8 k9 k10
    clear bl
    refine ⟨by kernel_rfl, ?_⟩
    gi_step
    exact hK _ _ (Fr.refl _ _) rfl trivial
  simp only [Act.put, List.setIfInBounds_toArray, List.set_cons_succ, List.set_cons_zero]
  refine factWalkG_cons (fun W hW hf K hK => ?_) (fun x17 => ?_)
  · skip
    have e15 : x15 = .bool false := hf 15 (by omega) (by kernel_rfl)
    have e16 : x16 = .agg (dc H1 (.slice Ax nx cx) N1 S) := hf 16 (by omega) (by kernel_rfl)
    subst e15 e16
    have hw := HS3.out W (HDR.out W hW)
    refine ⟨by kernel_rfl, ?_⟩
    gi_step
    refine ⟨trivial, ?_⟩
    refine (callsIn_wide.2 (hw)).mono ?_
    rintro e W' ⟨_, rfl, ⟨_, _, _, rfl, o2⟩, f2⟩
    dsimp only
    exact hK _ _ f2 ⟨_, _, _, rfl, o2⟩ trivial
  simp only [Act.put, List.setIfInBounds_toArray, List.set_cons_succ, List.set_cons_zero]
  refine factWalkG_cons (fun W hW hf K hK => ?_) (fun x18 => ?_)
  · skip
    have e15 : x15 = .bool false := hf 15 (by omega) (by kernel_rfl)
    obtain ⟨a17, n17, d17, e17, rd17⟩ : ∃ A9 n9 c9, x17 = .slice A9 n9 c9 ∧ Rd W A9 n9 (bv q2) := hf 17 (by omega) (by kernel_rfl)
    subst e15 e17
    have cv := conv_str W a17 n17 d17 q2 rd17
    refine ⟨by kernel_rfl, ?_⟩
    gi_step
    exact hK _ _ (Fr.refl _ _) rfl trivial
  simp only [Act.put, List.setIfInBounds_toArray, List.set_cons_succ, List.set_cons_zero]
  refine factWalkG_cons (fun W hW hf K hK => ?_) (fun x19 => ?_)
  · skip
    have e15 : x15 = .bool false := hf 15 (by omega) (by kernel_rfl)
    subst e15
    have bl := BX.out.fr (fp := fun _ => False) (HDR.out _ hW) (fun h => h)
    have k0 := bl.cell 0
    have k1 := bl.cell 1
    have k2 := bl.cell 2
    have k3 := bl.cell 3
    have k4 := bl.cell 4
    have k5 := bl.cell 5
    have k6 := bl.cell 6
    have k7 := bl.cell 7
    have k8 := bl.cell 8
    have k9 := bl.cell 9
    have k10 := bl.cell 10
    simp only [dc, List.getElem?_toArray, List.getElem?_cons_zero, List.getElem?_cons_succ] at k0 k1 k2 k3 k4 k5 k6 k7 k8 k9 k10
    clear bl
    refine ⟨by kernel_rfl, ?_⟩
    gi_step
    exact hK _ _ (Fr.refl _ _) rfl trivial
  simp only [Act.put, List.setIfInBounds_toArray, List.set_cons_succ, List.set_cons_zero]
  refine factWalkG_cons (fun W hW hf K hK => ?_) (fun x20 => ?_)
  · skip
    have e15 : x15 = .bool false := hf 15 (by omega) (by kernel_rfl)
    have e19 : x19 = .agg (dc H1 (.slice Ax nx cx) N1 S) := hf 19 (by omega) (by kernel_rfl)
    subst e15 e19
    have hw := HS4.out W (HDR.out W hW)
    refine ⟨by kernel_rfl, ?_⟩
    gi_step
    refine ⟨trivial, ?_⟩
    refine (callsIn_wide.2 (hw)).mono ?_
    rintro e W' ⟨_, rfl, ⟨_, _, _, rfl, o2⟩, f2⟩
    dsimp only
    exact hK _ _ f2 ⟨_, _, _, rfl, o2⟩ trivial
  simp only [Act.put, List.setIfInBounds_toArray, List.set_cons_succ, List.set_cons_zero]
  refine factWalkG_cons (fun W hW hf K hK => ?_) (fun x21 => ?_)
  · skip
    have e15 : x15 = .bool false := hf 15 (by omega) (by kernel_rfl)
    obtain ⟨a20, n20, d20, e20, rd20⟩ : ∃ A9 n9 c9, x20 = .slice A9 n9 c9 ∧ Rd W A9 n9 (bv q2) := hf 20 (by omega) (by kernel_rfl)
    subst e15 e20
    have cv := conv_str W a20 n20 d20 q2 rd20
    refine ⟨by kernel_rfl, ?_⟩
    gi_step
    exact hK _ _ (Fr.refl _ _) rfl trivial
  simp only [Act.put, List.setIfInBounds_toArray, List.set_cons_succ, List.set_cons_zero]
  refine factWalkG_cons (fun W hW hf K hK => ?_) (fun x22 => ?_)
  · skip
    have e15 : x15 = .bool false := hf 15 (by omega) (by kernel_rfl)
    have e18 : x18 = .string (strOf q2) := hf 18 (by omega) (by kernel_rfl)
    have e21 : x21 = .string (strOf q2) := hf 21 (by omega) (by kernel_rfl)
    subst e15 e18 e21
    have hbq : ((strOf q2).toList == (strOf q2).toList) = true := by simp
    have hbn : ((strOf q2).toList != (strOf q2).toList) = false := by simp
    refine ⟨by kernel_rfl, ?_⟩
    gi_step
    exact hK _ _ (Fr.refl _ _) rfl trivial
  simp only [Act.put, List.setIfInBounds_toArray, List.set_cons_succ, List.set_cons_zero]
  refine factWalkG_cons (fun W hW hf K hK => ?_) (fun x23 => ?_)
  · skip
    have e15 : x15 = .bool false := hf 15 (by omega) (by kernel_rfl)
    have e22 : x22 = .bool false := hf 22 (by omega) (by kernel_rfl)
    subst e15 e22
    refine ⟨by kernel_rfl, ?_⟩
    gi_step
    exact hK _ _ (Fr.refl _ _) rfl trivial
  simp only [Act.put, List.setIfInBounds_toArray, List.set_cons_succ, List.set_cons_zero]
  refine factWalkG_nil (fun W hW hf hmet => ?_)
  have e23 : x23 = .bool false := hf 23 (by omega)
  subst e23
  change wpAnyIn _ _ _ _ _ _ 0 _ _ _
  refine wpAnyIn_done (by kernel_rfl) ?_ _
  refine abs_exit (fun W => Hid (Blk W gx 33 (dc H1 (.slice Ax nx cx) N1 S)) ∧ Hid (Blk W g 33 (dc H (.slice R rn rc) N S)) ∧ Hid (W.ownsRow W2.heap.size 5 1 (.slice Ax nx cx) nx (bv r1)) ∧ Hid (Fr (fun _ => False) w W)) ⟨BX.out.fr (HDR.out W hW) (fun h => h), BS.out.fr (HDR.out W hW) (fun h => h), own_fr O4.out (HDR.out W hW) (fun _ _ h => h), HF.out.trans (HDR.out W hW) (fun _ _ h => h)⟩ ?_
  clear hmet hf hW HDR W BX BS BS4 HBS O4 HF RX HR4 HS1 HS2 HS3 HS4 HRW
  rintro W5 ⟨BX, BS, O5, HF⟩
  have hg2 : g < W2.heap.size := hsz
  have hgx2 : W2.heap.size ≤ gx := HSZ.out
  have HMS := Lib.hid (show w.heap.size ≤ W2.heap.size from HSZ0.out)
  go_wp2_with fail
  obtain ⟨B2, hB2⟩ : ∃ q, W2.heap.size = q := ⟨_, rfl⟩
  rw [hB2] at O5 hg2 hgx2 HMS
  clear hB2 HST HSZ HSZ0 HF2
  go_loopw [8] (fun iv wr => ∃ i : Nat, i ≤ nx ∧ iv = .int .i64 (i : Int) ∧ Hid (Blk wr gx 33 (dc H1 (.slice Ax nx cx) N1 S)) ∧ Hid (∃ l' : List UInt8, wr.ownsRow B2 5 1 (.slice Ax nx cx) nx (bv l')) ∧ Hid (Fr (fun k => B2 ≤ k) W5 wr)) (fun iv _ => nx - (intOf iv).toNat)
  case atStart => exact ⟨0, Nat.zero_le _, rfl, BX.out, ⟨_, O5.out⟩, Fr.refl _ _⟩
  case round =>
    obtain ⟨i, hi, rfl, hbx, ho, hf⟩ := hrel
    have k8 : wr.cell? ⟨gx, 8, none⟩ = some (.slice Ax nx cx) := hbx.out.cell 8
    by_cases hlt : i < nx
    · have hdl : decide (i < nx) = true := decide_eq_true hlt
      have hdl' : decide ((i : Int) < (nx : Int)) = true := decide_eq_true (by omega)
      obtain ⟨l', ho'⟩ := ho.out
      have hl' : l'.length = nx := by have := ho'.1; rw [bv_length] at this; omega
      obtain ⟨gr, cap, cur, he, hbg, hh, hc1, hc2, hc3, hc4⟩ : ∃ g cap cur, (Value.slice Ax nx cx) = .slice (some ⟨g, 0, none⟩) nx cap ∧ B2 ≤ g ∧ Blk wr g 5 cur ∧ nx ≤ cap ∧ cap ≤ maxLen ∧ cur.size = cap * 1 ∧ cur.toList.take (nx * 1) = bv l' := by
        rcases ho'.2 with ⟨h1, h2⟩ | h
        · omega
        · exact h
      injection he with e1 _ e3
      subst e1 e3
      obtain ⟨y, hy⟩ : ∃ y, (l'[i]'(by omega)).toNat = y := ⟨_, rfl⟩
      have hyl : y < 256 := by rw [← hy]; exact (l'[i]'(by omega)).toNat_lt
      have hgi : cur[i]? = some (.int .u8 (y : Int)) := by
        have h1 : (cur.toList.take (nx * 1))[i]? = some (.int .u8 (y : Int)) := by rw [hc4, bv_get _ _ (by omega), hy]
        rw [List.getElem?_take_of_lt (by omega)] at h1
        simpa using h1
      have x1 : wr.cell? ⟨gr, i, none⟩ = some (.int .u8 (y : Int)) := by rw [hh.cell, hgi]
      have z1 := hh.frozen i
      obtain ⟨y2, hy2⟩ : ∃ y2, (y + 1) % 256 = y2 := ⟨_, rfl⟩
      have hw2 : IntKind.u8.wrap ((y : Int) + 1) = (y2 : Int) := by rw [IntKind.wrap_u8, ← hy2]; omega
      have hw3 : ((y : Int) + 1) % 256 = (y2 : Int) := by omega
      have hy2l : y2 < 256 := by omega
      have hne : gr ≠ gx := hh.ne_ hbx.out (by decide)
      have HHH := Lib.hid hh
      have HC4 := Lib.hid hc4
      have HC3 := Lib.hid hc3
      have HC12 := Lib.hid (And.intro hc1 hc2)
      have hi0 : (0 : Int) ≤ (i : Int) := by omega
      clear hh hc4 hc3 hc1 hc2 hy ho' hgi hy2
      go_wp2_with fail
      refine ⟨⟨i + 1, by omega, by go_num, hbx.out.far (fun e => hne e.symm) _, ⟨l'.set i (UInt8.ofNat y2), by rw [bv_length, List.length_set, hl']; omega, .inr ⟨gr, cx, cur.setIfInBounds i (.int .u8 (y2 : Int)), rfl, hbg, HHH.out.set_ i _, HC12.out.1, HC12.out.2, by rw [Array.size_setIfInBounds]; exact HC3.out, ?_⟩⟩, hf.out.setCell (p := ⟨gr, i, none⟩) (fun _ => hbg) _⟩, by simp [intOf]; omega⟩
      rw [Array.toList_setIfInBounds, List.take_set, HC4.out]
      unfold bv
      rw [List.map_set]
      congr 2
      simp [Nat.mod_eq_of_lt hy2l]
    · obtain rfl : i = nx := by omega
      have hdl : decide (i < i) = false := decide_eq_false hlt
      have hdl' : decide ((i : Int) < (i : Int)) = false := decide_eq_false (by omega)
      have kb8 : wr.cell? ⟨g, 8, none⟩ = some (.slice R rn rc) := (BS.out.fr hf.out (by omega)).cell 8
      have hff := HF.out.trans hf.out (fun k hk e => by have := HMS.out; omega)
      have hfo : Fr (fun k => w.heap.size ≤ k) w wr := hff.mono (fun _ _ h => h.elim)
      have cv1 := conv_str wr R rn rc r (HR.out.old hfo)
      have cv2 := conv_str wr A n c b (HA.out.old hfo)
      have hbq1 : ((strOf r).toList == (strOf r).toList) = true := by simp
      have hbq2 : ((strOf b).toList == (strOf b).toList) = true := by simp
      have HFF := Lib.hid hff
      clear hff hfo hlt
      go_wp2_with fail
      refine (awake_c wr (HT.out.far HFF.out)).mono ?_
      rintro e w9 ⟨rfl, f9⟩
      have F9 := Lib.hid (HFF.out.trans f9 (fun _ _ h => h))
      clear f9
      go_wp2_with fail
      go_ret
      exact ⟨rfl, F9.out⟩
end Go.Proofs.YtfdpaiainlfigaaDoor
