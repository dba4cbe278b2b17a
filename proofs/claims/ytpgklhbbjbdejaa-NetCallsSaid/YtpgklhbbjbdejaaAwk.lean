/-
  THE WALK of awake.
-/
import Derived.Test.YtpgklhbbjbdejaaSt5
import Derived.Lib.SlBytesConst
import Derived.Lib.SmallJoins
namespace Go.Proofs.Ytpgklhbbjbdejaa
set_option linter.unusedSimpArgs false
set_option linter.unusedVariables false
open Go Go.RowKit Go.Maps

theorem rdm (w : World) (fr : Nat × Nat) (x : Int) (b : UInt8) (hx : ((b.toNat : Nat) : Int) = x) : Rd (w.alloc (.cells #[.int .u8 x] 5 fr)) (some ⟨w.heap.size, 0, none⟩) 1 (bv [b]) := by
  subst hx
  refine ⟨rfl, fun _ => ⟨_, rfl, fun j u hu => ?_⟩⟩
  rw [Addr.add_lit, Nat.zero_add, World.cell?_alloc_mark]
  have : j = 0 := by
    have := (List.getElem?_eq_some_iff.1 hu).1
    simp [bv] at this
    exact this
  subst this
  exact hu
theorem conv_a {W : World} {A : Option Addr} {c : Nat} (h : Rd W A 1 (bv [97])) : (convert 33 9 (.slice A 1 c)).run Try.prog W = .ok (.string { data := #[97] }) W := conv_str W A 1 c [97] h
theorem own_cells {W : World} {base : Nat} {e : TypeId} {size n : Nat} {v : Value} {xs : List Value} (h : W.ownsRow base e size v n xs) (hn : 0 < n) : ∃ b c, v = .slice (some ⟨b, 0, none⟩) n c ∧ base ≤ b ∧ b < W.heap.size ∧ ∀ j u, xs[j]? = some u → W.cell? ⟨b, j, none⟩ = some u := by
  obtain ⟨b, cap, hv, _, hlt⟩ := h.form hn
  subst hv
  refine ⟨b, cap, rfl, (World.ownsRow.lt h b rfl).1, hlt, fun j u hu => ?_⟩
  have := h.cells (g := b) rfl j u hu
  rwa [Addr.add_lit, Nat.zero_add] at this
/-- What is carried on. -/
def Cy (w W : World) (b0 : Nat) (vs : List (Value × List Value)) (ks : List (Nat × Array Value)) : Prop :=
  Fr (fun _ => False) w W ∧ b0 ≤ W.heap.size ∧ (∀ p ∈ vs, W.ownsRow b0 5 1 p.1 1 p.2) ∧ ∀ p ∈ ks, b0 ≤ p.1 ∧ Blk W p.1 51 p.2
section
variable {w W W' : World} {b0 g mb : Nat} {vs : List (Value × List Value)} {ks : List (Nat × Array Value)}
theorem Cy.far (h : Cy w W b0 vs ks) (f : Fr (fun _ => False) W W') : Cy w W' b0 vs ks :=
  ⟨h.1.trans f (fun _ _ h => h), Nat.le_trans h.2.1 f.size, fun p hp => own_fr (h.2.2.1 p hp) f (fun _ _ h => h), fun p hp => ⟨(h.2.2.2 p hp).1, keepB (h.2.2.2 p hp).2 f⟩⟩
theorem Cy.gm (h : Cy w W b0 vs ks) (f : Fr (Gm g mb) W W') (hg : g < b0 ∧ mb < b0 ∧ w.heap.size ≤ g ∧ w.heap.size ≤ mb) : Cy w W' b0 vs ks :=
  ⟨h.1.trans f (fun k hk e => by rcases e with e | e <;> omega), Nat.le_trans h.2.1 f.size, fun p hp => own_fr (h.2.2.1 p hp) f (fun k hk e => by have := (World.ownsRow.lt (h.2.2.1 p hp) k hk).1; rcases e with e | e <;> omega),
    fun p hp => ⟨(h.2.2.2 p hp).1, (h.2.2.2 p hp).2.fr f (fun e => by have := (h.2.2.2 p hp).1; rcases e with e | e <;> omega)⟩⟩
theorem Cy.addV (h : Cy w W b0 vs ks) {base : Nat} {v : Value} {xs : List Value} (o : W.ownsRow base 5 1 v 1 xs) (hb : b0 ≤ base) : Cy w W b0 ((v, xs) :: vs) ks :=
  ⟨h.1, h.2.1, fun p hp => by
    rcases List.mem_cons.1 hp with rfl | hp
    · exact own_base o (fun k hk => Nat.le_trans hb (World.ownsRow.lt o k hk).1)
    · exact h.2.2.1 p hp, h.2.2.2⟩
theorem Cy.addK (h : Cy w W b0 vs ks) {a : Nat} {C : Array Value} (o : Blk W a 51 C) (hb : b0 ≤ a) : Cy w W b0 vs ((a, C) :: ks) :=
  ⟨h.1, h.2.1, h.2.2.1, fun p hp => by
    rcases List.mem_cons.1 hp with rfl | hp
    · exact ⟨hb, o⟩
    · exact h.2.2.2 p hp⟩
end

set_option maxRecDepth 100000 in
set_option maxHeartbeats 2000000 in
theorem awake_c (w : World) : Calls Try.prog 11 #[] w fun e w' => e = .returned (.bool true) ∧ Fr (fun _ => False) w w' := by
  have hcv := fun (w : World) (C : Array Value) (n c : Nat) => Lib.run_convert_bytes_const (P := Try.prog) w 33 5 C n c Try.underlying33 Try.underlying5
  go_enter Try.func11, Try.ntmps11
  go_wp2_with fail
  refine (new_c _).mono ?_
  rintro e w1 ⟨mb, g, rfl, b1, o1, f1, h1, h2, h3, h4⟩
  have B1 := Lib.hid b1
  have O1 := Lib.hid o1
  obtain ⟨b0, hb0⟩ : ∃ b, w1.heap.size = b := ⟨_, rfl⟩
  have C1 : Hid (Cy w w1 b0 [] []) := ⟨f1, Nat.le_of_eq hb0.symm, fun p hp => (by cases hp), fun p hp => (by cases hp)⟩
  have HG : Hid (g < b0 ∧ mb < b0 ∧ w.heap.size ≤ g ∧ w.heap.size ≤ mb) := ⟨by omega, by omega, h3, h4⟩
  clear b1 o1 f1 h1 h2 h3 h4 hb0
  go_wp2_with fail
  refine abs_calls (fun W => Hid (Fr (fun _ => False) w1 W) ∧ Hid (Rd W (some ⟨w1.heap.size, 0, none⟩) 1 (bv [97]))) ⟨(Fr.refl _ _).alloc _, rdm _ _ _ _ rfl⟩ ?_
  rintro x1 ⟨fx, bx⟩
  refine (s1 x1 g mb _ _ [97] (keepB B1.out fx.out) (MapI.fr O1.out fx.out (fun h => h)) bx.out).mono ?_
  rintro e w2 ⟨rfl, v1, ho, hb, hm, hf⟩
  obtain ⟨Q1, k1, rfl, _, _⟩ := own_slice ho
  have Cx := C1.out.far fx.out
  have C2 := Lib.hid ((Cx.gm hf HG.out).addV ho Cx.2.1)
  have B2 := Lib.hid hb
  have O2 := Lib.hid hm
  clear ho hb hm hf Cx fx bx B1 O1 C1
  go_wp2_with fail
  refine abs_calls (fun W => Hid (Fr (fun _ => False) w2 W) ∧ Hid (Rd W (some ⟨w2.heap.size, 0, none⟩) 1 (bv [98]))) ⟨(Fr.refl _ _).alloc _, rdm _ _ _ _ rfl⟩ ?_
  rintro x2 ⟨fx, bx⟩
  refine (s2 x2 g mb _ _ _ [98] (keepB B2.out fx.out) (MapI.fr O2.out fx.out (fun h => h)) bx.out).mono ?_
  rintro e w3 ⟨rfl, v2, ho, hb, hm, hf⟩
  obtain ⟨Q2, k2, rfl, _, _⟩ := own_slice ho
  have Cx := C2.out.far fx.out
  have C3 := Lib.hid ((Cx.gm hf HG.out).addV ho Cx.2.1)
  have B3 := Lib.hid hb
  have O3 := Lib.hid hm
  clear ho hb hm hf Cx fx bx B2 O2 C2
  go_wp2_with fail
  refine (s3 w3 g mb _ Q1 k1 [97] B3.out O3.out (Rd.of_own (C3.out.2.2.1 (.slice Q1 1 k1, bv [97]) (by simp)))).mono ?_
  rintro e w4 ⟨rfl, v3, ho, hb, hm, hf⟩
  obtain ⟨Q3, k3, rfl, _, _⟩ := own_slice ho
  have C4 := Lib.hid ((C3.out.gm hf HG.out).addV ho C3.out.2.1)
  have B4 := Lib.hid hb
  have O4 := Lib.hid hm
  clear ho hb hm hf B3 O3 C3
  go_wp2_with fail
  refine (s4 w4 g mb _ _ Q3 k3 [97] B4.out O4.out (Rd.of_own (C4.out.2.2.1 (.slice Q3 1 k3, bv [97]) (by simp)))).mono ?_
  rintro e w5 ⟨v4, rfl, ho, hb, hm, hf⟩
  obtain ⟨Q4, k4, rfl, _, _⟩ := own_slice ho
  have C5 := Lib.hid ((C4.out.gm hf HG.out).addV ho C4.out.2.1)
  have B5 := Lib.hid hb
  have O5 := Lib.hid hm
  clear ho hb hm hf B4 O4 C4
  go_wp2_with fail
  refine abs_calls (fun W => Hid (Fr (fun _ => False) w5 W) ∧ Hid (Blk W w5.heap.size 51 #[.int .i64 1, .int .i64 2, .slice Q4 1 k4])) ⟨(Fr.refl _ _).alloc _, Blk.new _ _ _⟩ ?_
  rintro x5 ⟨fx, bx⟩
  have Cx := (C5.out.far fx.out).addK bx.out C5.out.2.1
  obtain ⟨a9, ha9⟩ : ∃ a, w5.heap.size = a := ⟨_, rfl⟩
  rw [ha9] at Cx ⊢
  clear ha9
  refine (s5 x5 g mb _ Q1 k1 [97] (keepB B5.out fx.out) (MapI.fr O5.out fx.out (fun h => h)) (Rd.of_own (Cx.2.2.1 (.slice Q1 1 k1, bv [97]) (by simp)))).mono ?_
  rintro e w6 ⟨v5, rfl, ho, hb, hm, hf⟩
  obtain ⟨Q5, k5, rfl, _, _⟩ := own_slice ho
  have C6 := Lib.hid ((Cx.gm hf HG.out).addV ho Cx.2.1)
  have B6 := Lib.hid hb
  have O6 := Lib.hid hm
  clear ho hb hm hf Cx fx bx B5 O5 C5
  go_wp2_with fail
  refine abs_calls (fun W => Hid (Fr (fun _ => False) w6 W) ∧ Hid (Blk W w6.heap.size 51 #[.int .i64 1, .int .i64 2, .slice Q5 1 k5])) ⟨(Fr.refl _ _).alloc _, Blk.new _ _ _⟩ ?_
  rintro x6 ⟨fx, bx⟩
  have Cx := (C6.out.far fx.out).addK bx.out C6.out.2.1
  obtain ⟨a11, ha11⟩ : ∃ a, w6.heap.size = a := ⟨_, rfl⟩
  rw [ha11] at Cx ⊢
  clear ha11
  refine (s6 x6 g mb _ (keepB B6.out fx.out) (MapI.fr O6.out fx.out (fun h => h))).mono ?_
  rintro e w7 ⟨rfl, hf⟩
  have C7 := Lib.hid (Cx.far hf)
  have B7 := Lib.hid (keepB (keepB B6.out fx.out) hf)
  have O7 := Lib.hid (MapI.fr (MapI.fr O6.out fx.out (fun h => h)) hf (fun h => h))
  clear hf Cx fx bx B6 O6 C6
  go_wp2_with fail
  refine abs_calls (fun W => Hid (Fr (fun _ => False) w7 W)) ((Fr.refl _ _).alloc _) ?_
  rintro x7 fx
  refine (letters_one x7 g mb 3 3 (3 : Nat) lk5 2 1 Q2 1 k2 (keepB B7.out fx.out) (MapI.fr O7.out fx.out (fun h => h))).mono ?_
  rintro e w8 ⟨vl, rfl, ol, hf⟩
  have C8 := Lib.hid ((C7.out.far fx.out).far hf)
  have B8 := Lib.hid (keepB (keepB B7.out fx.out) hf)
  have O8 := Lib.hid (MapI.fr (MapI.fr O7.out fx.out (fun h => h)) hf (fun h => h))
  obtain ⟨bl, kl, rfl, hbl, _, _⟩ := own_cells ol (by decide)
  have L8 := Lib.hid ol
  have HBL : Hid (b0 ≤ bl) := Nat.le_trans (C7.out.far fx.out).2.1 hbl
  clear hf fx ol hbl B7 O7 C7
  go_wp2_with fail
  refine (s8 w8 g mb _ B8.out O8.out).mono ?_
  rintro e w9 ⟨rfl, ⟨lk, hb⟩, hf⟩
  have C9 := Lib.hid (C8.out.gm hf HG.out)
  have B9 := Lib.hid hb
  have L9 := Lib.hid (own_fr L8.out hf (fun k hk e => by have e2 : bl = k := (by simpa [Value.ownBlock] using hk); have := HG.out; have := HBL.out; rcases e with e | e <;> omega))
  clear hf hb L8 B8 O8 C8
  go_wp2_with fail
  refine (send_same w9 g mb _ lk _ B9.out).mono ?_
  rintro e w10 ⟨rfl, hw⟩
  rw [hw]
  clear hw w10
  go_wp2_with fail
  refine (send_far w9 g mb _ lk _ B9.out).mono ?_
  rintro e w10 ⟨rfl, hw⟩
  rw [hw]
  clear hw w10
  have K9 := (C9.out.2.2.2 (a9, #[.int .i64 1, .int .i64 2, .slice Q4 1 k4]) (by simp)).2
  have K11 := (C9.out.2.2.2 (a11, #[.int .i64 1, .int .i64 2, .slice Q5 1 k5]) (by simp)).2
  have m0 : w9.cell? ⟨a9, 0, none⟩ = some (.int .i64 1) := K9.cell 0
  have m1 : w9.cell? ⟨a9, 1, none⟩ = some (.int .i64 2) := K9.cell 1
  have m2 : w9.cell? ⟨a9, 2, none⟩ = some (.slice Q4 1 k4) := K9.cell 2
  have n2 : w9.cell? ⟨a11, 2, none⟩ = some (.slice Q5 1 k5) := K11.cell 2
  have hc4 := conv_a (c := k4) (Rd.of_own (C9.out.2.2.1 (.slice Q4 1 k4, bv [97]) (by simp)))
  have hc5 := conv_a (c := k5) (Rd.of_own (C9.out.2.2.1 (.slice Q5 1 k5, bv [97]) (by simp)))
  have l0 : w9.cell? ⟨bl, 0, none⟩ = some (.int .u64 2) := by
    obtain ⟨b', c', e', _, _, hc⟩ := own_cells L9.out (by decide)
    injection e' with e' _ _
    injection e' with e'
    injection e' with e' _ _
    rw [e']
    exact hc 0 _ rfl
  clear K9 K11
  go_wp2_with fail
  go_ret
  exact ⟨rfl, C9.out.1⟩
end Go.Proofs.Ytpgklhbbjbdejaa
