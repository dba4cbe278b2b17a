/-
  THE LAW DigestSizes, walked.
-/
import Derived.Test.YtfdpaiainlfigaaDoorAwake
import Derived.Test.YtfdpaiainlfigaaDoorPar2
namespace Go.Proofs.YtfdpaiainlfigaaDoor
set_option linter.unusedSimpArgs false
set_option linter.unusedVariables false
open Go Go.RowKit

theorem abs_any {F : Fence} {N : Nat} {P : Program} {md : Region.Mode} {ops : Array Oper} {Q : Exit → Act → World → Prop} {m : Nat} {l : Array Bool} {a : Act} {w : World} (Φ : World → Prop) (h : Φ w) (k : ∀ W, Φ W → wpAnyIn F N P md ops Q m l a W) : wpAnyIn F N P md ops Q m l a w := k w h
theorem own_blks {w : World} {base : Nat} {e : TypeId} {n c : Nat} {A : Option Addr} {xs : List Value} (h : w.ownsRow base e 1 (.slice A n c) n xs) : ∀ k, inA A k → ∃ cs, Blk w k e cs := by
  rintro k ⟨ad, rfl, rfl⟩
  rcases h.2 with ⟨h1, _⟩ | ⟨g, cap, cur, h1, _, hh, _⟩
  · cases h1
  · injection h1 with h1
    injection h1 with h1
    subst h1
    exact ⟨cur, hh⟩
theorem szB_nat {S : Int} (h : szB S = true) : ∃ s : Nat, S = (s : Int) ∧ 1 ≤ s ∧ s ≤ 32 := by
  unfold szB at h
  simp only [Bool.and_eq_true, decide_eq_true_eq] at h
  exact ⟨S.toNat, by omega, by omega, by omega⟩
/-- Its error. -/
def ez (S : Int) : Int := if szB S then 0 else 1
theorem ez_yes {S : Int} (h : szB S = true) : ez S = 0 := if_pos h
theorem ez_no {S : Int} (h : ¬ szB S = true) : ez S = 1 := if_neg h
/-- digest.Begin, of whatever size. -/
theorem begin_c (w : World) (S : Int) (hT : Tabs w) : Calls Tryd.prog 17 #[.int .i64 S] w fun e w' => ∃ H s, e = .returned (.tuple #[.agg (dc H (.slice none 0 0) 0 s), .int .i64 (ez S)]) ∧ (szB S = true → H = begL S.toNat ∧ s = S) ∧ Fr (fun _ => False) w w' := by
  by_cases h : szB S = true
  · obtain ⟨s, rfl, h1, h2⟩ := szB_nat h
    refine (begin_yes w s h h2 hT).mono ?_
    rintro e w' ⟨rfl, f⟩
    exact ⟨_, _, by rw [ez_yes h]; rfl, fun _ => ⟨rfl, rfl⟩, f⟩
  · have h' : szB S = false := by simpa using h
    refine (begin_no w S h').mono ?_
    rintro e w' ⟨rfl, f⟩
    exact ⟨[], 0, by rw [ez_no h], fun h2 => absurd h2 h, f⟩
theorem begL_inj {a b : Nat} (ha : a ≤ 32) (hb : b ≤ 32) (h : begL a = begL b) : a = b := by
  have h0 : at_ (begL a) 0 = at_ (begL b) 0 := by rw [h]
  have h1 : at_ ivs 0 ^^^ (16842752 ^^^ a) = at_ ivs 0 ^^^ (16842752 ^^^ b) := h0
  have h2 := congrArg (fun x => 16842752 ^^^ (at_ ivs 0 ^^^ x)) h1
  simpa [← Nat.xor_assoc] using h2

set_option maxRecDepth 100000 in
set_option maxHeartbeats 1000000 in
theorem digestSizes_c (w : World) (a b : Int) (A : Option Addr) (n c : Nat) (l : List UInt8) (hr : Rd w A n (bv l)) (hn : n ≤ c) (hc : c ≤ maxLen) (hT : Tabs w) :
    Calls Tryd.prog 8 #[.int .i64 a, .int .i64 b, .slice A n c] w fun e w' => e = .returned (.bool true) ∧ Fr (fun _ => False) w w' := by
  have HT := Lib.hid hT
  have HR := Lib.hid hr
  have HC := Lib.hid hc
  clear hT hr hc
  go_enter Tryd.func8, Tryd.ntmps8
  go_wp2_with fail
  refine (begin_c w a HT.out).mono ?_
  rintro e w1 ⟨H1, s1, rfl, hh1, f1⟩
  have F1 := Lib.hid f1
  have HH1 := Lib.hid hh1
  clear f1 hh1
  unfold dc
  obtain ⟨ea, hea⟩ : ∃ ea : Int, ez a = ea := ⟨_, rfl⟩
  rw [hea]
  have HEA := Lib.hid hea
  clear hea
  go_wp2_with fail
  refine abs_calls (fun W => Hid (Blk W w1.heap.size 33 (dc H1 (.slice none 0 0) 0 s1)) ∧ Hid (Fr (fun _ => False) w W)) ⟨Blk.new w1 _ _, F1.out.alloc _⟩ ?_
  rintro W2 ⟨hb2, hf2⟩
  refine (begin_c W2 b (HT.out.far hf2.out)).mono ?_
  rintro e w3 ⟨H3, s3, rfl, hh3, f3⟩
  have HH3 := Lib.hid hh3
  have HB2 := Lib.hid (hb2.out.fr f3 (fun h => h))
  have F3 := Lib.hid (hf2.out.trans f3 (fun _ _ h => h))
  have hsz : w1.heap.size < w3.heap.size := HB2.out.lt
  clear f3 hh3 hb2 hf2
  unfold dc
  obtain ⟨eb, heb⟩ : ∃ eb : Int, ez b = eb := ⟨_, rfl⟩
  rw [heb]
  have HEB := Lib.hid heb
  clear heb
  go_upto_region 3 with fail
  refine abs_world (fun W => Hid (Blk W w1.heap.size 33 (dc H1 (.slice none 0 0) 0 s1)) ∧ Hid (Blk W w3.heap.size 33 (dc H3 (.slice none 0 0) 0 s3)) ∧ Hid (Fr (fun _ => False) w W)) ⟨HB2.out.alloc _, Blk.new w3 _ _, F3.out.alloc _⟩ ?_
  rintro W4 ⟨HB1, HB3, HF4⟩
  clear HB2 F3 F1
  by_cases hok : szB a = true ∧ szB b = true ∧ n ≤ 64
  · obtain ⟨hA, hB, h64⟩ := hok
    have e1 : ea = 0 := by rw [← HEA.out, ez_yes hA]
    have e2 : eb = 0 := by rw [← HEB.out, ez_yes hB]
    subst e1 e2
    have h64' : decide ((64 : Int) < (n : Int)) = false := by simp; omega
    obtain ⟨a', rfl, ha1, ha2⟩ := szB_nat hA
    obtain ⟨b', rfl, hb1, hb2⟩ := szB_nat hB
    obtain ⟨hH1, hs1⟩ := HH1.out hA
    obtain ⟨hH3, hs3⟩ := HH3.out hB
    subst hs1 hs3
    have hw1 : Ws 8 H1 := by rw [hH1]; exact ws_begL a' ha2
    have hw3 : Ws 8 H3 := by rw [hH3]; exact ws_begL b' hb2
    have HH1' := Lib.hid (show H1 = begL a' from hH1)
    have HH3' := Lib.hid (show H3 = begL b' from hH3)
    have HW1 := Lib.hid hw1
    have HW3 := Lib.hid hw3
    have hll : l.length = n := by rw [← bv_length]; exact HR.out.1
    have HLL := Lib.hid hll
    clear hH1 hH3 hw1 hw3 HH1 HH3 hll
    go_wp2_with fail
    have hwr : ∀ (X : List Nat) (s : Int) (W : World), Ws 8 X → Fr (fun _ => False) W4 W → Calls Tryd.prog 12 #[.agg (dc X (.slice none 0 0) 0 s), .slice A n c] W fun e w' => ∃ v, e = .returned (.agg (dc X v 0 s)) ∧ w'.ownsRow W.heap.size 5 1 v n (bv l) ∧ Fr (fun _ => False) W w' := fun X s W hX hW => by
      have hw := write_c W X none 0 0 [] 0 s A n c l hX (Rd.none_ _ _) ⟨Nat.le_refl _, by unfold maxLen; omega⟩ (HR.out.far (HF4.out.trans hW (fun _ _ h => h))) ⟨hn, HC.out⟩ (by omega) (by simp; rw [HLL.out]; omega) ((HT.out.far HF4.out).far hW)
      rw [List.nil_append, wrL_less (by rw [HLL.out]; exact h64)] at hw
      dsimp only at hw
      rw [HLL.out] at hw
      exact hw
    have HWR := Lib.hid hwr
    clear hwr
    refine (wpIn_wide (n := 9)).1 ?_
    refine wpIn_region_facts2 (k := 8) (Fr (fun _ => False)) (fun i v W => match i with
      | 0 => v = .agg (dc H1 (.slice none 0 0) 0 a')
      | 1 => v = .slice A n c
      | 2 => ∃ A2 c2, v = .agg (dc H1 (.slice A2 n c2) 0 a') ∧ Rd W A2 n (bv l) ∧ n ≤ c2 ∧ c2 ≤ maxLen ∧ ∀ k, inA A2 k → ∃ cs, Blk W k 5 cs
      | 3 => v = .agg (dc H3 (.slice none 0 0) 0 b')
      | 4 => v = .slice A n c
      | 5 => ∃ A2 c2, v = .agg (dc H3 (.slice A2 n c2) 0 b') ∧ Rd W A2 n (bv l) ∧ n ≤ c2 ∧ c2 ≤ maxLen ∧ ∀ k, inA A2 k → ∃ cs, Blk W k 5 cs
      | _ => ∃ g, v = .pointer (some ⟨g, 0, none⟩) ∧ Blk W g 33 (dc [] (.slice none 0 0) 0 0) ∧ W4.heap.size ≤ g) (fun i v W => match i with
      | 6 => ∃ g, v = .pointer (some ⟨g, 0, none⟩) ∧ W.heap.size ≤ g
      | 7 => ∃ g, v = .pointer (some ⟨g, 0, none⟩) ∧ W.heap.size ≤ g
      | _ => True) (by kernel_rfl) (by kernel_rfl) (Fr.refl _ _) (fun a b c h1 h2 => h1.trans h2 (fun _ _ h => h)) ?stab ?walk
    case stab =>
      intro i v W W' hg hx
      match i with
      | 0 => exact hx
      | 1 => exact hx
      | 2 => obtain ⟨A2, c2, h1, h2, h3, h4, h5⟩ := hx; exact ⟨A2, c2, h1, h2.far hg, h3, h4, fun k hk => by obtain ⟨cs, hb⟩ := h5 k hk; exact ⟨cs, hb.fr hg (fun h => h)⟩⟩
      | 3 => exact hx
      | 4 => exact hx
      | 5 => obtain ⟨A2, c2, h1, h2, h3, h4, h5⟩ := hx; exact ⟨A2, c2, h1, h2.far hg, h3, h4, fun k hk => by obtain ⟨cs, hb⟩ := h5 k hk; exact ⟨cs, hb.fr hg (fun h => h)⟩⟩
      | (n + 6) => obtain ⟨g, h1, h2, h3⟩ := hx; exact ⟨g, h1, h2.fr hg (fun h => h), h3⟩
    case walk =>
      have hdr : ∀ W, Fr (fun _ => False) W4.drew W → Fr (fun _ => False) W4 W := fun W h => ((Fr.refl (fun _ => False) W4).drew).trans h (fun _ _ h => h)
      refine factWalk2_cons (fun W hW hf K hK => ?_) (fun v0 => ?_)
      · have bl := HB1.out.fr (fp := fun _ => False) (hdr _ hW) (fun h => h)
        have k0 := bl.cell 0; have k1 := bl.cell 1; have k2 := bl.cell 2; have k3 := bl.cell 3; have k4 := bl.cell 4; have k5 := bl.cell 5; have k6 := bl.cell 6; have k7 := bl.cell 7; have k8 := bl.cell 8; have k9 := bl.cell 9; have k10 := bl.cell 10
        simp only [dc, List.getElem?_toArray, List.getElem?_cons_zero, List.getElem?_cons_succ] at k0 k1 k2 k3 k4 k5 k6 k7 k8 k9 k10
        clear bl hdr
        gi_step
        exact hK _ _ (Fr.refl _ _) rfl trivial
      simp only [Act.put, List.setIfInBounds_toArray, List.set_cons_succ, List.set_cons_zero]
      refine factWalk2_cons (fun W hW hf K hK => ?_) (fun v1 => ?_)
      · clear hdr
        gi_step
        exact hK _ _ (Fr.refl _ _) rfl trivial
      simp only [Act.put, List.setIfInBounds_toArray, List.set_cons_succ, List.set_cons_zero]
      refine factWalk2_cons (fun W hW hf K hK => ?_) (fun v2 => ?_)
      · have e0 : v0 = .agg (dc H1 (.slice none 0 0) 0 a') := hf 0 (by omega) (by kernel_rfl)
        have e1 : v1 = .slice A n c := hf 1 (by omega) (by kernel_rfl)
        subst e0 e1
        have hw := HWR.out H1 a' W HW1.out (hdr _ hW)
        have hsz := hW.size
        clear hdr
        gi_step
        refine ⟨trivial, ?_⟩
        refine (callsIn_wide.2 hw).mono ?_
        rintro e W' ⟨v, rfl, o2, f2⟩
        obtain ⟨A3, c3, rfl, h5, h6⟩ := own_slice o2
        dsimp only
        exact hK _ _ f2 ⟨A3, c3, rfl, Rd.of_own o2, h5, h6, own_blks o2⟩ trivial
      simp only [Act.put, List.setIfInBounds_toArray, List.set_cons_succ, List.set_cons_zero]
      refine factWalk2_cons (fun W hW hf K hK => ?_) (fun v3 => ?_)
      · have bl := HB3.out.fr (fp := fun _ => False) (hdr _ hW) (fun h => h)
        have k0 := bl.cell 0; have k1 := bl.cell 1; have k2 := bl.cell 2; have k3 := bl.cell 3; have k4 := bl.cell 4; have k5 := bl.cell 5; have k6 := bl.cell 6; have k7 := bl.cell 7; have k8 := bl.cell 8; have k9 := bl.cell 9; have k10 := bl.cell 10
        simp only [dc, List.getElem?_toArray, List.getElem?_cons_zero, List.getElem?_cons_succ] at k0 k1 k2 k3 k4 k5 k6 k7 k8 k9 k10
        clear bl hdr
        gi_step
        exact hK _ _ (Fr.refl _ _) rfl trivial
      simp only [Act.put, List.setIfInBounds_toArray, List.set_cons_succ, List.set_cons_zero]
      refine factWalk2_cons (fun W hW hf K hK => ?_) (fun v4 => ?_)
      · clear hdr
        gi_step
        exact hK _ _ (Fr.refl _ _) rfl trivial
      simp only [Act.put, List.setIfInBounds_toArray, List.set_cons_succ, List.set_cons_zero]
      refine factWalk2_cons (fun W hW hf K hK => ?_) (fun v5 => ?_)
      · have e0 : v3 = .agg (dc H3 (.slice none 0 0) 0 b') := hf 3 (by omega) (by kernel_rfl)
        have e1 : v4 = .slice A n c := hf 4 (by omega) (by kernel_rfl)
        subst e0 e1
        have hw := HWR.out H3 b' W HW3.out (hdr _ hW)
        have hsz := hW.size
        clear hdr
        gi_step
        refine ⟨trivial, ?_⟩
        refine (callsIn_wide.2 hw).mono ?_
        rintro e W' ⟨v, rfl, o2, f2⟩
        obtain ⟨A3, c3, rfl, h5, h6⟩ := own_slice o2
        dsimp only
        exact hK _ _ f2 ⟨A3, c3, rfl, Rd.of_own o2, h5, h6, own_blks o2⟩ trivial
      simp only [Act.put, List.setIfInBounds_toArray, List.set_cons_succ, List.set_cons_zero]
      refine factWalk2_cons (fun W hW hf K hK => ?_) (fun v6 => ?_)
      · clear hdr
        gi_step
        exact hK _ _ ((Fr.refl _ W).alloc _) ⟨W.heap.size, rfl, Blk.new W _ _, hW.size⟩ ⟨W.heap.size, rfl, Nat.le_refl _⟩
      simp only [Act.put, List.setIfInBounds_toArray, List.set_cons_succ, List.set_cons_zero]
      refine factWalk2_cons (fun W hW hf K hK => ?_) (fun v7 => ?_)
      · clear hdr
        gi_step
        exact hK _ _ ((Fr.refl _ W).alloc _) ⟨W.heap.size, rfl, Blk.new W _ _, hW.size⟩ ⟨W.heap.size, rfl, Nat.le_refl _⟩
      simp only [Act.put, List.setIfInBounds_toArray, List.set_cons_succ, List.set_cons_zero]
      refine factWalk2_nil (fun W hW hf hmet => ?_)
      obtain ⟨A2, c2, e2, r2, n2, m2, q2⟩ : ∃ A2 c2, v2 = .agg (dc H1 (.slice A2 n c2) 0 a') ∧ Rd W A2 n (bv l) ∧ n ≤ c2 ∧ c2 ≤ maxLen ∧ ∀ k, inA A2 k → ∃ cs, Blk W k 5 cs := hf 2 (by omega)
      obtain ⟨A5, c5, e5, r5, n5, m5, q5⟩ : ∃ A2 c2, v5 = .agg (dc H3 (.slice A2 n c2) 0 b') ∧ Rd W A2 n (bv l) ∧ n ≤ c2 ∧ c2 ≤ maxLen ∧ ∀ k, inA A2 k → ∃ cs, Blk W k 5 cs := hf 5 (by omega)
      obtain ⟨g6, e6, b6, l6⟩ : ∃ g, v6 = .pointer (some ⟨g, 0, none⟩) ∧ Blk W g 33 (dc [] (.slice none 0 0) 0 0) ∧ W4.heap.size ≤ g := hf 6 (by omega)
      obtain ⟨g7, e7, b7, l7⟩ : ∃ g, v7 = .pointer (some ⟨g, 0, none⟩) ∧ Blk W g 33 (dc [] (.slice none 0 0) 0 0) ∧ W4.heap.size ≤ g := hf 7 (by omega)
      have hne : g6 ≠ g7 := by
        have := hmet 6 7 (by omega) (by omega) (by omega)
        rcases this with ⟨W', -, ⟨g, h1, h2⟩, ⟨g', h3, h4, -⟩⟩ | ⟨W', -, ⟨g, h1, h2⟩, ⟨g', h3, h4, -⟩⟩
        · have h1 : v6 = .pointer (some ⟨g, 0, none⟩) := h1
          have h3 : v7 = .pointer (some ⟨g', 0, none⟩) := h3
          rw [e6] at h1
          rw [e7] at h3
          injection h1 with h1; injection h1 with h1; injection h1 with h1
          injection h3 with h3; injection h3 with h3; injection h3 with h3
          have := h4.lt
          omega
        · have h1 : v7 = .pointer (some ⟨g, 0, none⟩) := h1
          have h3 : v6 = .pointer (some ⟨g', 0, none⟩) := h3
          rw [e7] at h1
          rw [e6] at h3
          injection h1 with h1; injection h1 with h1; injection h1 with h1
          injection h3 with h3; injection h3 with h3; injection h3 with h3
          have := h4.lt
          omega
      subst e2 e5 e6 e7
      clear hmet hf
      have hfw := HF4.out.trans (hdr W hW) (fun _ _ h => h)
      have hx1 := HB1.out.fr (hdr W hW) (fun h => h)
      have HFW := Lib.hid hfw
      have HX1 := Lib.hid hx1
      have HR2 := Lib.hid r2
      have hq6 : ¬ inA A2 g6 := fun h => by obtain ⟨cs, hb⟩ := q2 _ h; exact hb.ne_ b6 (by decide) rfl
      have hq7 : ¬ inA A2 g7 := fun h => by obtain ⟨cs, hb⟩ := q2 _ h; exact hb.ne_ b7 (by decide) rfl
      have HB7 := Lib.hid b7
      have HQ6 := Lib.hid hq6
      have HQ7 := Lib.hid hq7
      have hz1 := HB1.out.lt
      have hz3 := HB3.out.lt
      clear b7 hfw hx1 r2 q2 r5 q5 hq6 hq7 hdr hW HB3 HWR
      change wpAnyIn _ _ _ _ _ _ 2 _ _ _
      refine wpAnyIn_ready (rs := [8]) (by kernel_rfl) (by simp) ?_
      refine AllReadyIn.cons rfl (fun K hK => ?_) AllReadyIn.nil
      have k0 := b6.cell 0
      have k1 := b6.cell 1
      have k2 := b6.cell 2
      have k3 := b6.cell 3
      have k4 := b6.cell 4
      have k5 := b6.cell 5
      have k6 := b6.cell 6
      have k7 := b6.cell 7
      have k8 := b6.cell 8
      have k9 := b6.cell 9
      have k10 := b6.cell 10
      have z0 := b6.frozen 0
      have z1 := b6.frozen 1
      have z2 := b6.frozen 2
      have z3 := b6.frozen 3
      have z4 := b6.frozen 4
      have z5 := b6.frozen 5
      have z6 := b6.frozen 6
      have z7 := b6.frozen 7
      have z8 := b6.frozen 8
      have z9 := b6.frozen 9
      have z10 := b6.frozen 10
      simp only [dc, List.getElem?_toArray, List.getElem?_cons_zero, List.getElem?_cons_succ] at k0 k1 k2 k3 k4 k5 k6 k7 k8 k9 k10
      have HB6 := Lib.hid b6
      clear b6
      unfold dc
      go_simp
      refine hK _ _ ?_
      clear hK K k0 k1 k2 k3 k4 k5 k6 k7 k8 k9 k10 z0 z1 z2 z3 z4 z5 z6 z7 z8 z9 z10
      refine abs_any (fun W2 => Hid (Blk W2 g6 33 (dc H1 (.slice A2 n c2) 0 a')) ∧ Hid (Blk W2 g7 33 (dc [] (.slice none 0 0) 0 0)) ∧ Hid (Blk W2 w1.heap.size 33 (dc H1 (.slice none 0 0) 0 a')) ∧ Hid (Rd W2 A2 n (bv l)) ∧ Hid (Fr (fun _ => False) w W2)) ?_ ?_
      · have hs := (((((((((((HB6.out.set_ 0 (.int .u32 (at_ H1 0 : Nat))).set_ 1 (.int .u32 (at_ H1 1 : Nat))).set_ 2 (.int .u32 (at_ H1 2 : Nat))).set_ 3 (.int .u32 (at_ H1 3 : Nat))).set_ 4 (.int .u32 (at_ H1 4 : Nat))).set_ 5 (.int .u32 (at_ H1 5 : Nat))).set_ 6 (.int .u32 (at_ H1 6 : Nat))).set_ 7 (.int .u32 (at_ H1 7 : Nat))).set_ 8 (.slice A2 n c2)).set_ 9 (.int .u64 ((0 : Nat) : Int))).set_ 10 (.int .i64 (a' : Int)))
        rw [dc_all] at hs
        have hff := ((((((((((((Fr.refl (fun k => k = g6) W).setCell (p := ⟨g6, 0, none⟩) (fun _ => rfl) (.int .u32 (at_ H1 0 : Nat))).setCell (p := ⟨g6, 1, none⟩) (fun _ => rfl) (.int .u32 (at_ H1 1 : Nat))).setCell (p := ⟨g6, 2, none⟩) (fun _ => rfl) (.int .u32 (at_ H1 2 : Nat))).setCell (p := ⟨g6, 3, none⟩) (fun _ => rfl) (.int .u32 (at_ H1 3 : Nat))).setCell (p := ⟨g6, 4, none⟩) (fun _ => rfl) (.int .u32 (at_ H1 4 : Nat))).setCell (p := ⟨g6, 5, none⟩) (fun _ => rfl) (.int .u32 (at_ H1 5 : Nat))).setCell (p := ⟨g6, 6, none⟩) (fun _ => rfl) (.int .u32 (at_ H1 6 : Nat))).setCell (p := ⟨g6, 7, none⟩) (fun _ => rfl) (.int .u32 (at_ H1 7 : Nat))).setCell (p := ⟨g6, 8, none⟩) (fun _ => rfl) (.slice A2 n c2)).setCell (p := ⟨g6, 9, none⟩) (fun _ => rfl) (.int .u64 ((0 : Nat) : Int))).setCell (p := ⟨g6, 10, none⟩) (fun _ => rfl) (.int .i64 (a' : Int)))
        refine ⟨hs, HB7.out.fr hff (fun h => hne h.symm), HX1.out.fr hff (by omega), HR2.out.fr hff (fun k hk e => HQ6.out (e ▸ hk)), HFW.out.trans hff (fun k hk e => by have := HF4.out.size; omega)⟩
      rintro W2 ⟨B6, B7, X1, R2, FW2⟩
      clear HB6 HB7 HX1 HR2 HFW
      refine wpAnyIn_ready (rs := [9]) (by kernel_rfl) (by simp) ?_
      refine AllReadyIn.cons rfl (fun K hK => ?_) AllReadyIn.nil
      have k0 := B7.out.cell 0
      have k1 := B7.out.cell 1
      have k2 := B7.out.cell 2
      have k3 := B7.out.cell 3
      have k4 := B7.out.cell 4
      have k5 := B7.out.cell 5
      have k6 := B7.out.cell 6
      have k7 := B7.out.cell 7
      have k8 := B7.out.cell 8
      have k9 := B7.out.cell 9
      have k10 := B7.out.cell 10
      have z0 := B7.out.frozen 0
      have z1 := B7.out.frozen 1
      have z2 := B7.out.frozen 2
      have z3 := B7.out.frozen 3
      have z4 := B7.out.frozen 4
      have z5 := B7.out.frozen 5
      have z6 := B7.out.frozen 6
      have z7 := B7.out.frozen 7
      have z8 := B7.out.frozen 8
      have z9 := B7.out.frozen 9
      have z10 := B7.out.frozen 10
      simp only [dc, List.getElem?_toArray, List.getElem?_cons_zero, List.getElem?_cons_succ] at k0 k1 k2 k3 k4 k5 k6 k7 k8 k9 k10
      go_simp
      refine hK _ _ ?_
      refine wpAnyIn_done (by kernel_rfl) ?_ _
      clear hK K k0 k1 k2 k3 k4 k5 k6 k7 k8 k9 k10 z0 z1 z2 z3 z4 z5 z6 z7 z8 z9 z10
      have hs := (((((((((((B7.out.set_ 0 (.int .u32 (at_ H3 0 : Nat))).set_ 1 (.int .u32 (at_ H3 1 : Nat))).set_ 2 (.int .u32 (at_ H3 2 : Nat))).set_ 3 (.int .u32 (at_ H3 3 : Nat))).set_ 4 (.int .u32 (at_ H3 4 : Nat))).set_ 5 (.int .u32 (at_ H3 5 : Nat))).set_ 6 (.int .u32 (at_ H3 6 : Nat))).set_ 7 (.int .u32 (at_ H3 7 : Nat))).set_ 8 (.slice A5 n c5)).set_ 9 (.int .u64 ((0 : Nat) : Int))).set_ 10 (.int .i64 (b' : Int)))
      rw [dc_all] at hs
      have hff := ((((((((((((Fr.refl (fun k => k = g7) W2).setCell (p := ⟨g7, 0, none⟩) (fun _ => rfl) (.int .u32 (at_ H3 0 : Nat))).setCell (p := ⟨g7, 1, none⟩) (fun _ => rfl) (.int .u32 (at_ H3 1 : Nat))).setCell (p := ⟨g7, 2, none⟩) (fun _ => rfl) (.int .u32 (at_ H3 2 : Nat))).setCell (p := ⟨g7, 3, none⟩) (fun _ => rfl) (.int .u32 (at_ H3 3 : Nat))).setCell (p := ⟨g7, 4, none⟩) (fun _ => rfl) (.int .u32 (at_ H3 4 : Nat))).setCell (p := ⟨g7, 5, none⟩) (fun _ => rfl) (.int .u32 (at_ H3 5 : Nat))).setCell (p := ⟨g7, 6, none⟩) (fun _ => rfl) (.int .u32 (at_ H3 6 : Nat))).setCell (p := ⟨g7, 7, none⟩) (fun _ => rfl) (.int .u32 (at_ H3 7 : Nat))).setCell (p := ⟨g7, 8, none⟩) (fun _ => rfl) (.slice A5 n c5)).setCell (p := ⟨g7, 9, none⟩) (fun _ => rfl) (.int .u64 ((0 : Nat) : Int))).setCell (p := ⟨g7, 10, none⟩) (fun _ => rfl) (.int .i64 (b' : Int)))
      have hs : Blk _ g7 33 (dc H3 (.slice A5 n c5) 0 b') := hs
      have b6 := B6.out.fr hff hne
      have x1 := X1.out.fr hff (by omega)
      have r2 := R2.out.fr hff (fun k hk e => HQ7.out (e ▸ hk))
      have fw := FW2.out.trans hff (fun k hk e => by have := HF4.out.size; omega)
      generalize (World.setCell (World.setCell (World.setCell (World.setCell (World.setCell (World.setCell (World.setCell (World.setCell (World.setCell (World.setCell (World.setCell W2 ⟨g7, 0, none⟩ (.int .u32 (at_ H3 0 : Nat))) ⟨g7, 1, none⟩ (.int .u32 (at_ H3 1 : Nat))) ⟨g7, 2, none⟩ (.int .u32 (at_ H3 2 : Nat))) ⟨g7, 3, none⟩ (.int .u32 (at_ H3 3 : Nat))) ⟨g7, 4, none⟩ (.int .u32 (at_ H3 4 : Nat))) ⟨g7, 5, none⟩ (.int .u32 (at_ H3 5 : Nat))) ⟨g7, 6, none⟩ (.int .u32 (at_ H3 6 : Nat))) ⟨g7, 7, none⟩ (.int .u32 (at_ H3 7 : Nat))) ⟨g7, 8, none⟩ (.slice A5 n c5)) ⟨g7, 9, none⟩ (.int .u64 ((0 : Nat) : Int))) ⟨g7, 10, none⟩ (.int .i64 (b' : Int))) = W5 at *
      have E67 : ∀ W, (Op.equalIn 10000 23 (.agg (uv H1)) (.agg (uv H3))).run Tryd.prog W = .ok (decide (H1 = H3)) W := fun W => eq_states H1 H3 HW1.out HW3.out W
      have E66 : ∀ W, (Op.equalIn 10000 23 (.agg (uv H1)) (.agg (uv H1))).run Tryd.prog W = .ok true W := fun W => (eq_states H1 H1 HW1.out HW1.out W).trans (by simp)
      have hdec : decide (H1 = H3) = decide ((a' : Int) = (b' : Int)) := by
        rw [Bool.eq_iff_iff]
        simp only [decide_eq_true_eq]
        constructor
        · intro h
          rw [HH1'.out, HH3'.out] at h
          have := begL_inj ha2 hb2 h
          omega
        · intro h
          have : a' = b' := by omega
          rw [HH1'.out, HH3'.out, this]
      have hsm : ∀ W, Fr (fun _ => False) w W → Rd W A2 n (bv l) → Calls Tryd.prog 15 #[.agg (dc H1 (.slice A2 n c2) 0 (a' : Int))] W fun e w' => ∃ v, e = .returned v ∧ (∃ A9 c9, v = .slice A9 a' c9) ∧ Fr (fun _ => False) W w' := fun W hW hr => by
        refine (sum_c W H1 A2 n c2 l 0 a' HW1.out hr ⟨n2, m2⟩ (by omega) (by rw [HLL.out]; omega) hA ⟨ha1, ha2⟩ (HT.out.far hW)).mono ?_
        rintro e w' ⟨v, rfl, o, f⟩
        obtain ⟨A9, c9, rfl, _, _⟩ := own_slice o
        exact ⟨_, rfl, ⟨A9, c9, rfl⟩, f⟩
      have HSM := Lib.hid (hsm W5 fw r2)
      have cv1 := conv_str W5 A2 n c2 l r2
      have cv2 := conv_str W5 A n c l (HR.out.far fw)
      have hbq : ((strOf l).toList == (strOf l).toList) = true := by simp
      rw [uv8 HW1.out, uv8 HW3.out] at E67
      rw [uv8 HW1.out] at E66
      rw [hdec] at E67
      have HFW := Lib.hid fw
      have k0 := b6.cell 0
      have k1 := b6.cell 1
      have k2 := b6.cell 2
      have k3 := b6.cell 3
      have k4 := b6.cell 4
      have k5 := b6.cell 5
      have k6 := b6.cell 6
      have k7 := b6.cell 7
      have k8 := b6.cell 8
      have k9 := b6.cell 9
      have k10 := b6.cell 10
      have j10 := b6.cell 10
      have m0 := hs.cell 0
      have m1 := hs.cell 1
      have m2' := hs.cell 2
      have m3 := hs.cell 3
      have m4 := hs.cell 4
      have m5' := hs.cell 5
      have m6 := hs.cell 6
      have m7 := hs.cell 7
      have y0 := x1.cell 0
      have y1 := x1.cell 1
      have y2 := x1.cell 2
      have y3 := x1.cell 3
      have y4 := x1.cell 4
      have y5 := x1.cell 5
      have y6 := x1.cell 6
      have y7 := x1.cell 7
      simp only [dc, List.getElem?_toArray, List.getElem?_cons_zero, List.getElem?_cons_succ] at k0 k1 k2 k3 k4 k5 k6 k7 k8 k9 k10 m0 m1 m2' m3 m4 m5' m6 m7 y0 y1 y2 y3 y4 y5 y6 y7
      clear hs b6 x1 r2 fw hff hsm
      obtain ⟨d, hd⟩ : ∃ d, decide ((a' : Int) = (b' : Int)) = d := ⟨_, rfl⟩
      have hd2 : ((a' : Int) == (b' : Int)) = d := by rw [← hd]; rfl
      have hdd : (d == d) = true := by simp
      have haa : ((a' : Int) == (a' : Int)) = true := by simp
      rw [hd] at E67
      clear hd hdec j10
      go_wp2_with fail
      refine HSM.out.mono ?_
      rintro e w6 ⟨v, rfl, ⟨A9, c9, rfl⟩, f6⟩
      have F6 := Lib.hid (HFW.out.trans f6 (fun _ _ h => h))
      clear f6 cv1 cv2 k0 k1 k2 k3 k4 k5 k6 k7 k8 k9 k10 m0 m1 m2' m3 m4 m5' m6 m7 y0 y1 y2 y3 y4 y5 y6 y7 E66 E67
      go_wp2_with fail
      refine (awake_c w6 (HT.out.far F6.out)).mono ?_
      rintro e w7 ⟨rfl, f7⟩
      have F7 := Lib.hid (F6.out.trans f7 (fun _ _ h => h))
      clear f7
      go_wp2_with fail
      go_ret
      exact ⟨rfl, F7.out⟩
  · have hbad : (ea != 0) = true ∨ ((ea != 0) = false ∧ (eb != 0) = true) ∨ ((ea != 0) = false ∧ (eb != 0) = false ∧ decide ((64 : Int) < (n : Int)) = true) := by
      rw [← HEA.out, ← HEB.out]
      by_cases hA : szB a = true
      · rw [ez_yes hA]
        by_cases hB : szB b = true
        · rw [ez_yes hB]
          refine .inr (.inr ⟨rfl, rfl, decide_eq_true ?_⟩)
          have : ¬ n ≤ 64 := fun h => hok ⟨hA, hB, h⟩
          omega
        · rw [ez_no hB]
          exact .inr (.inl ⟨rfl, rfl⟩)
      · rw [ez_no hA]
        exact .inl rfl
    rcases hbad with h1 | ⟨h1, h2⟩ | ⟨h1, h2, h3⟩
    all_goals
      go_wp2_with fail
      refine (awake_c W4 (HT.out.far HF4.out)).mono ?_
      rintro e w5 ⟨rfl, f5⟩
      have F5 := Lib.hid (HF4.out.trans f5 (fun _ _ h => h))
      clear f5
      go_wp2_with fail
      go_ret
      exact ⟨rfl, F5.out⟩
end Go.Proofs.YtfdpaiainlfigaaDoor
