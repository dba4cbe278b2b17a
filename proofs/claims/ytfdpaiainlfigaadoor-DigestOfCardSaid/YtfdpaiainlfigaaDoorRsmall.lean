/-
  CONTRACTS of the reference's Begin, Same, Of.
-/
import Derived.Test.YtfdpaiainlfigaaDoorRsum
import Derived.Test.YtfdpaiainlfigaaDoorAwake
namespace Go.Proofs.YtfdpaiainlfigaaDoor
set_option linter.unusedSimpArgs false
set_option linter.unusedVariables false
open Go Go.RowKit Go.Shelf
attribute [local go_sem] Oper.semAt_some

theorem dc_seti (H : List Nat) (R : Value) (N : Nat) (S : Int) (i x : Nat) (hH : H.length = 8) (hi : i < 8) : (dc H R N S).setIfInBounds i (.int .u32 (x : Int)) = dc (H.set i x) R N S := by
  match H, hH with
  | [a, b, c, d, e, f, g, h], _ =>
    have : i = 0 ∨ i = 1 ∨ i = 2 ∨ i = 3 ∨ i = 4 ∨ i = 5 ∨ i = 6 ∨ i = 7 := by omega
    rcases this with rfl | rfl | rfl | rfl | rfl | rfl | rfl | rfl <;> rfl
/-- The first words, noughts behind. -/
def bi (i : Nat) : List Nat := (List.range 8).map fun j => if j < i then at_ ivs j else 0
theorem bi_len (i : Nat) : (bi i).length = 8 := by simp [bi]
theorem bi_zero : bi 0 = List.replicate 8 0 := rfl
theorem bi_all : bi 8 = ivs := rfl
theorem bi_step (i : Nat) (h : i < 8) : (bi i).set i (at_ ivs i) = bi (i + 1) := by
  have : i = 0 ∨ i = 1 ∨ i = 2 ∨ i = 3 ∨ i = 4 ∨ i = 5 ∨ i = 6 ∨ i = 7 := by omega
  rcases this with rfl | rfl | rfl | rfl | rfl | rfl | rfl | rfl <;> rfl

set_option maxRecDepth 100000 in
set_option maxHeartbeats 1000000 in
theorem rbegin_c (w : World) (S : Nat) (hS : S ≤ 32) : Calls Tryd.prog 21 #[.int .i64 (S : Int)] w fun e w' => e = .returned (.agg (dc (begL S) (.slice none 0 0) 0 S)) ∧ Fr (fun _ => False) w w' := by
  go_enter Tryd.func21, Tryd.ntmps21
  go_upto_region 2 with fail
  refine abs_world (fun W => Hid (Blk W w.heap.size 33 (dc [] (.slice none 0 0) 0 0)) ∧ Hid (Blk W (w.heap.size + 1) 33 (dc (bi 0) (.slice none 0 0) 0 S)) ∧ Hid (Fr (fun _ => False) w W)) ?_ ?_
  · have b0 := Blk.new w 33 (dc [] (.slice none 0 0) 0 0)
    have b1 := Blk.new (w.alloc (.cells (dc [] (.slice none 0 0) 0 0) 33)) 33 (dc (bi 0) (.slice none 0 0) 0 S)
    rw [World.size_alloc] at b1
    exact ⟨b0.alloc _, b1, ((Fr.refl _ w).alloc _).alloc _⟩
  rintro W1 ⟨HB0, HB1, HF1⟩
  obtain ⟨g, hg⟩ : ∃ g, w.heap.size = g := ⟨_, rfl⟩
  rw [hg] at HB0 HB1 ⊢
  have HG := Lib.hid hg
  clear hg
  go_wp2_with fail
  go_loopw [4] (fun iv wr => ∃ i : Nat, i ≤ 8 ∧ iv = .int .i64 i ∧ Hid (Blk wr (g + 1) 33 (dc (bi i) (.slice none 0 0) 0 S)) ∧ Hid (Fr (fun k => k = g + 1) W1 wr)) (fun iv _ => 8 - (intOf iv).toNat)
  case atStart => exact ⟨0, Nat.zero_le _, rfl, HB1.out, Fr.refl _ _⟩
  case round =>
    obtain ⟨i, hi, rfl, hb, hf⟩ := hrel
    by_cases h8 : i < 8
    · have h8' : decide ((i : Int) < 8) = true := decide_eq_true (by omega)
      have hi8 : (i : Int) < 8 := by omega
      go_wp2_with fail
      refine (riv_c _ i h8).mono ?_
      rintro e w3 ⟨rfl, f3⟩
      have hb3 := hb.out.fr f3 (fun h => h)
      have z := hb3.frozen i
      have c : w3.cell? ⟨g + 1, i, none⟩ = some (.int .u32 (at_ (bi i) i : Nat)) := by
        rw [hb3.cell]
        have : i = 0 ∨ i = 1 ∨ i = 2 ∨ i = 3 ∨ i = 4 ∨ i = 5 ∨ i = 6 ∨ i = 7 := by omega
        rcases this with rfl | rfl | rfl | rfl | rfl | rfl | rfl | rfl <;> rfl
      have HB3 := Lib.hid hb3
      have HF3 := Lib.hid (hf.out.trans f3 (fun _ _ h => h.elim))
      clear hb3 f3 h8'
      go_wp2_with fail
      have hs := HB3.out.set_ i (.int .u32 (at_ ivs i : Nat))
      rw [dc_seti _ _ _ _ _ _ (bi_len i) h8, bi_step i h8] at hs
      exact ⟨⟨i + 1, by omega, by go_num, hs, HF3.out.setCell (p := ⟨g + 1, i, none⟩) (fun _ => rfl) _⟩, by simp [intOf]; omega⟩
    · have h8' : decide ((i : Int) < 8) = false := by simp; omega
      obtain rfl : i = 8 := by omega
      have hb1 := hb.out
      rw [bi_all] at hb1
      have hb0 := HB0.out.fr hf.out (by omega)
      have HB := Lib.hid hb1
      have F2 := Lib.hid (HF1.out.trans hf.out (fun k hk e => by have := HG.out; omega))
      have k0 := HB.out.cell 0
      have k1 := HB.out.cell 1
      have k2 := HB.out.cell 2
      have k3 := HB.out.cell 3
      have k4 := HB.out.cell 4
      have k5 := HB.out.cell 5
      have k6 := HB.out.cell 6
      have k7 := HB.out.cell 7
      have k8 := HB.out.cell 8
      have k9 := HB.out.cell 9
      have k10 := HB.out.cell 10
      simp only [dc, List.getElem?_toArray, List.getElem?_cons_zero, List.getElem?_cons_succ] at k0 k1 k2 k3 k4 k5 k6 k7 k8 k9 k10
      have z0 := HB.out.frozen 0
      have z1 := HB.out.frozen 1
      have z2 := HB.out.frozen 2
      have z3 := HB.out.frozen 3
      have z4 := HB.out.frozen 4
      have z5 := HB.out.frozen 5
      have z6 := HB.out.frozen 6
      have z7 := HB.out.frozen 7
      have z8 := HB.out.frozen 8
      have z9 := HB.out.frozen 9
      have z10 := HB.out.frozen 10
      have m0 := hb0.cell 0
      have m1 := hb0.cell 1
      have m2 := hb0.cell 2
      have m3 := hb0.cell 3
      have m4 := hb0.cell 4
      have m5 := hb0.cell 5
      have m6 := hb0.cell 6
      have m7 := hb0.cell 7
      have m8 := hb0.cell 8
      have m9 := hb0.cell 9
      have m10 := hb0.cell 10
      simp only [dc, List.getElem?_toArray, List.getElem?_cons_zero, List.getElem?_cons_succ] at m0 m1 m2 m3 m4 m5 m6 m7 m8 m9 m10
      have y0 := hb0.frozen 0
      have y1 := hb0.frozen 1
      have y2 := hb0.frozen 2
      have y3 := hb0.frozen 3
      have y4 := hb0.frozen 4
      have y5 := hb0.frozen 5
      have y6 := hb0.frozen 6
      have y7 := hb0.frozen 7
      have y8 := hb0.frozen 8
      have y9 := hb0.frozen 9
      have y10 := hb0.frozen 10
      have k0l := at_lt ws_ivs 0
      have hSI : (0 : Int) ≤ (S : Int) := by omega
      have hSI2 : (S : Int) ≤ 32 := by omega
      have hx1 : bits .xor .u32 (at_ ivs 0 : Int) 16842752 = ((at_ ivs 0 ^^^ 16842752 : Nat) : Int) := u32_xor_nat _ 16842752 k0l (by omega)
      have hx2 : bits .xor .u32 ((at_ ivs 0 ^^^ 16842752 : Nat) : Int) (S : Int) = ((at_ (begL S) 0 : Nat) : Int) := by
        rw [u32_xor_nat _ _ (Nat.xor_lt_two_pow (n := 32) k0l (by omega)) (by omega), Nat.xor_assoc]
        rfl
      obtain ⟨q1, hq1⟩ : ∃ q, at_ ivs 0 ^^^ 16842752 = q := ⟨_, rfl⟩
      rw [hq1] at hx1 hx2
      clear hb hb1 hb0 hf h8' hq1 k0l
      go_wp2_with fail
      have e : dc (begL S) (.slice none 0 0) 0 (S : Int) = #[.int .u32 (at_ (begL S) 0 : Nat), .int .u32 (at_ ivs 1 : Nat), .int .u32 (at_ ivs 2 : Nat), .int .u32 (at_ ivs 3 : Nat), .int .u32 (at_ ivs 4 : Nat), .int .u32 (at_ ivs 5 : Nat), .int .u32 (at_ ivs 6 : Nat), .int .u32 (at_ ivs 7 : Nat), .slice none 0 0, .int .u64 0, .int .i64 (S : Int)] := rfl
      rw [e]
      have hff := (((((((((((((Fr.refl (fun k => k = g ∨ k = g + 1) wr).setCell (p := ⟨g + 1, 0, none⟩) (fun _ => .inr rfl) (.int .u32 (at_ (begL S) 0 : Nat))).setCell (p := ⟨g, 0, none⟩) (fun _ => .inl rfl) (.int .u32 (at_ (begL S) 0 : Nat))).setCell (p := ⟨g, 1, none⟩) (fun _ => .inl rfl) (.int .u32 (at_ ivs 1 : Nat))).setCell (p := ⟨g, 2, none⟩) (fun _ => .inl rfl) (.int .u32 (at_ ivs 2 : Nat))).setCell (p := ⟨g, 3, none⟩) (fun _ => .inl rfl) (.int .u32 (at_ ivs 3 : Nat))).setCell (p := ⟨g, 4, none⟩) (fun _ => .inl rfl) (.int .u32 (at_ ivs 4 : Nat))).setCell (p := ⟨g, 5, none⟩) (fun _ => .inl rfl) (.int .u32 (at_ ivs 5 : Nat))).setCell (p := ⟨g, 6, none⟩) (fun _ => .inl rfl) (.int .u32 (at_ ivs 6 : Nat))).setCell (p := ⟨g, 7, none⟩) (fun _ => .inl rfl) (.int .u32 (at_ ivs 7 : Nat))).setCell (p := ⟨g, 8, none⟩) (fun _ => .inl rfl) (.slice none 0 0)).setCell (p := ⟨g, 9, none⟩) (fun _ => .inl rfl) (.int .u64 0)).setCell (p := ⟨g, 10, none⟩) (fun _ => .inl rfl) (.int .i64 (S : Int)))
      exact bodyPost_ret (by simp [results, Tryd.results21, go_sem, m0, m1, m2, m3, m4, m5, m6, m7, m8, m9, m10]) rfl ⟨rfl, F2.out.trans hff (fun k hk e => by have := HG.out; omega)⟩

set_option maxRecDepth 100000 in
set_option maxHeartbeats 1000000 in
/-- Two Digests of one content are the same. -/
theorem rsame_c (w : World) (H : List Nat) (A : Option Addr) (n c : Nat) (A2 : Option Addr) (n2 c2 : Nat) (l : List UInt8) (N : Nat) (S : Int) (hH : Ws 8 H) (h1 : Rd w A n (bv l)) (h2 : Rd w A2 n2 (bv l)) :
    Calls Tryd.prog 13 #[.agg (dc H (.slice A n c) N S), .agg (dc H (.slice A2 n2 c2) N S)] w fun e w' => e = .returned (.bool true) ∧ Fr (fun _ => False) w w' := by
  have H1 := Lib.hid h1
  have H2 := Lib.hid h2
  have E66 : ∀ W, (Op.equalIn 10000 23 (.agg (uv H)) (.agg (uv H))).run Tryd.prog W = .ok true W := fun W => (eq_states H H hH hH W).trans (by simp)
  rw [uv8 hH] at E66
  have HE := Lib.hid E66
  clear h1 h2 E66 hH
  unfold dc
  go_enter Tryd.func13, Tryd.ntmps13
  go_upto_region 1 with fail
  refine abs_world (fun W => Hid (Blk W w.heap.size 33 (dc H (.slice A n c) N S)) ∧ Hid (Blk W (w.heap.size + 1) 33 (dc H (.slice A2 n2 c2) N S)) ∧ Hid (Fr (fun _ => False) w W)) ?_ ?_
  · have b0 := Blk.new w 33 (dc H (.slice A n c) N S)
    have b1 := Blk.new (w.alloc (.cells (dc H (.slice A n c) N S) 33)) 33 (dc H (.slice A2 n2 c2) N S)
    rw [World.size_alloc] at b1
    exact ⟨b0.alloc _, b1, ((Fr.refl _ w).alloc _).alloc _⟩
  rintro W1 ⟨HB0, HB1, HF1⟩
  have k0 := HB0.out.cell 0
  have k1 := HB0.out.cell 1
  have k2 := HB0.out.cell 2
  have k3 := HB0.out.cell 3
  have k4 := HB0.out.cell 4
  have k5 := HB0.out.cell 5
  have k6 := HB0.out.cell 6
  have k7 := HB0.out.cell 7
  have k8 := HB0.out.cell 8
  have k9 := HB0.out.cell 9
  have k10 := HB0.out.cell 10
  simp only [dc, List.getElem?_toArray, List.getElem?_cons_zero, List.getElem?_cons_succ] at k0 k1 k2 k3 k4 k5 k6 k7 k8 k9 k10
  have m0 := HB1.out.cell 0
  have m1 := HB1.out.cell 1
  have m2 := HB1.out.cell 2
  have m3 := HB1.out.cell 3
  have m4 := HB1.out.cell 4
  have m5 := HB1.out.cell 5
  have m6 := HB1.out.cell 6
  have m7 := HB1.out.cell 7
  have m8 := HB1.out.cell 8
  have m9 := HB1.out.cell 9
  have m10 := HB1.out.cell 10
  simp only [dc, List.getElem?_toArray, List.getElem?_cons_zero, List.getElem?_cons_succ] at m0 m1 m2 m3 m4 m5 m6 m7 m8 m9 m10
  have E66 := HE.out W1
  have c1 := conv_str W1 A n c l (H1.out.far HF1.out)
  have c2 := conv_str W1 A2 n2 c2 l (H2.out.far HF1.out)
  have hbq : ((strOf l).toList == (strOf l).toList) = true := by simp
  go_wp2_with fail
  go_ret
  exact ⟨rfl, HF1.out⟩
end Go.Proofs.YtfdpaiainlfigaaDoor
