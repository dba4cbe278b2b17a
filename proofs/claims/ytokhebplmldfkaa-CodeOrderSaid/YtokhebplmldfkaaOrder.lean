/-
  THE WALK OF 'tidewracklaw02.CodeOrder': the bytes of two rows of numbers stand in the order of the rows.
-/
import Derived.Test.YtokhebplmldfkaaAwake
import Derived.Test.YtokhebplmldfkaaLess
import Derived.Test.YtokhebplmldfkaaSince
namespace Go.Proofs.Ytokhebplmldfkaa
set_option linter.unusedSimpArgs false
set_option linter.unusedVariables false
open Go Go.RowKit

theorem order_at (xs ys : List Nat) (t x y : Nat) (rx ry : List Nat) (h : xs.take t = ys.take t) (hx : xs.drop t = x :: rx) (hy : ys.drop t = y :: ry) (hlt : x < y) (hy2 : y < 18446744073709551616) : lexLt (encs xs) (encs ys) = true ∧ lexLt (encs ys) (encs xs) = false := by
  have e1 : encs xs = encs (xs.take t) ++ (enc x ++ encs rx) := by
    conv => lhs; rw [← List.take_append_drop t xs, encs_append, hx]
    rfl
  have e2 : encs ys = encs (xs.take t) ++ (enc y ++ encs ry) := by
    conv => lhs; rw [← List.take_append_drop t ys, encs_append, hy, ← h]
    rfl
  rw [e1, e2, lexLt_cancel, lexLt_cancel]
  exact enc_lt x y hlt hy2 _ _
theorem order_end (xs ys : List Nat) (h : xs = ys.take xs.length) : lexLt (encs xs) (encs ys) = decide (xs.length < ys.length) ∧ lexLt (encs ys) (encs xs) = false := by
  have e2 : encs ys = encs xs ++ encs (ys.drop xs.length) := by
    conv => lhs; rw [← List.take_append_drop xs.length ys, encs_append, ← h]
  have c1 := lexLt_cancel (encs xs) [] (encs (ys.drop xs.length))
  have c2 := lexLt_cancel (encs xs) (encs (ys.drop xs.length)) []
  rw [List.append_nil] at c1 c2
  rw [e2, c1, c2]
  refine ⟨?_, (lexLt_nil _).2⟩
  rw [(lexLt_nil _).1]
  congr 1
  rw [eq_iff_iff, ne_eq, encs_nil, List.drop_eq_nil_iff]
  omega

theorem ends_of {xs ys : List Nat} {n k t : Nat} (hx : xs.length = n) (hy : ys.length = k) (h : xs.take t = ys.take t) (hn : t ≤ n) (hk : t ≤ k) (he : t = n ∨ t = k) :
    lexLt (encs xs) (encs ys) = decide (n < k) ∧ lexLt (encs ys) (encs xs) = decide (k < n) := by
  rcases he with rfl | rfl
  · have h1 := order_end xs ys (by rw [hx, ← h, ← hx, List.take_length])
    rw [hx, hy] at h1
    exact ⟨h1.1, by rw [h1.2]; symm; simp; omega⟩
  · have h1 := order_end ys xs (by rw [hy, h, ← hy, List.take_length])
    rw [hx, hy] at h1
    exact ⟨by rw [h1.2]; symm; simp; omega, h1.1⟩

set_option maxRecDepth 100000 in
set_option maxHeartbeats 2000000 in
theorem codeOrder_c (w : World) (A B : Option Addr) (n k c d : Nat) (xs ys : List Nat) (hx : ∀ x ∈ xs, x ≤ 18446744073709551615) (hy : ∀ x ∈ ys, x ≤ 18446744073709551615)
    (ha : Rd w A n (xs.map fun x : Nat => Value.int .u64 x)) (hb : Rd w B k (ys.map fun x : Nat => Value.int .u64 x)) :
    Calls Try.prog 7 #[.slice A n c, .slice B k d] w fun e w' => e = .returned (.bool true) ∧ Fr (fun _ => False) w w' := by
  by_cases hbig : 1000 < n ∨ 1000 < k
  · by_cases hn : 1000 < n
    · clear hx hy ha hb hbig
      go_enter Try.func7, Try.ntmps7
      go_wp2_with fail
      refine (awake_c _).mono ?_
      rintro e w1 ⟨rfl, f1⟩
      have F1 := Lib.hid f1
      clear f1
      go_wp2_with fail
      go_ret
      exact ⟨rfl, F1.out⟩
    · have hk : 1000 < k := by omega
      clear hx hy ha hb hbig
      go_enter Try.func7, Try.ntmps7
      go_wp2_with fail
      refine (awake_c _).mono ?_
      rintro e w1 ⟨rfl, f1⟩
      have F1 := Lib.hid f1
      clear f1
      go_wp2_with fail
      go_ret
      exact ⟨rfl, F1.out⟩
  · have hn : n ≤ 1000 := by omega
    have hk : k ≤ 1000 := by omega
    have HX := Lib.hid hx
    have HY := Lib.hid hy
    have HA := Lib.hid ha
    have HB := Lib.hid hb
    clear hx hy ha hb hbig
    go_enter Try.func7, Try.ntmps7
    go_wp2_with fail
    refine (newWriter_n _).mono ?_
    rintro e w1 ⟨b1, v1, rfl, h1⟩
    have H1 := Lib.hid h1
    clear h1
    go_wp2_with fail
    refine (newWriter_n _).mono ?_
    rintro e w2 ⟨b2, v2, rfl, h2⟩
    have H1b := Lib.hid (H1.out.far h2.fr)
    have H2 := Lib.hid h2
    clear h2
    go_wp2_with fail
    refine (wput_c w2 b1 v1 [] A n c xs H1b.out.wr HX.out (HA.out.far H1b.out.fr) (fun hp kk hkk => ?_) (by simp; omega)).mono ?_
    · have := HA.out.lt hp hkk
      exact ⟨by have := H1b.out.b0; omega, fun e => by have := H1b.out.v0 _ e; omega⟩
    rintro e w3 ⟨rfl, h3⟩
    obtain ⟨v3, h3, f3, n3⟩ := H1b.out.step h3
    have b12 : b1 < b2 := by have := H1.out.wr.lt.1; have := H2.out.b0; omega
    have v12 : ∀ i, v1.ownBlock = some i → i < w1.heap.size := H1.out.wr.lt.2
    have q0 : w.heap.size ≤ b1 := H1.out.b0
    have q1 : ∀ i, v1.ownBlock = some i → w.heap.size ≤ i := H1.out.v0
    have q2 : w1.heap.size ≤ b2 := H2.out.b0
    have q3 : ∀ i, v2.ownBlock = some i → w1.heap.size ≤ i := H2.out.v0
    have q4 : b1 < w1.heap.size := H1.out.wr.lt.1
    have q5 : ∀ i, v2.ownBlock = some i → i < w2.heap.size := H2.out.wr.lt.2
    have W2 := Lib.hid ((H2.out.later H1.out.fr).by f3 (fun i hi e => by
        rcases e with rfl | e
        · omega
        · have := q1 i e; omega) (fun e => by
        rcases e with e | e
        · omega
        · have := v12 _ e; omega) (fun i hi e => by
        have := q3 i hi
        rcases e with rfl | e
        · omega
        · have := v12 _ e; omega))
    have H3 := Lib.hid h3
    have Q := Lib.hid (And.intro b12 (And.intro q3 (And.intro q5 (And.intro n3 v12))))
    clear h3 f3 n3 b12 v12 q0 q1 q2 q3 q4 q5
    go_wp2_with fail
    refine (wput_c w3 b2 v2 [] B k d ys W2.out.wr HY.out (HB.out.far W2.out.fr) (fun hp kk hkk => ?_) (by simp; omega)).mono ?_
    · have := HB.out.lt hp hkk
      exact ⟨by have := W2.out.b0; omega, fun e => by have := W2.out.v0 _ e; omega⟩
    rintro e w4 ⟨rfl, h4⟩
    obtain ⟨v4, h4, f4, n4⟩ := W2.out.step h4
    have hne3 := H3.out.wr.ne
    have W3 := Lib.hid (H3.out.by f4 (fun i hi e => by
        rcases e with rfl | e
        · have := W2.out.b0; omega
        · have := W2.out.v0 i e; omega) (fun e => by
        rcases e with e | e
        · have := Q.out.1; omega
        · have := Q.out.2.1 _ e; have := Q.out.1; have := H1.out.wr.lt.1; omega) (fun i hi e => by
        rcases e with rfl | e
        · exact own_blk_ne H3.out.wr.2 W2.out.wr.1 (by decide) hi
        · have := Q.out.2.1 i e; have := Q.out.2.2.1 i e
          rcases Q.out.2.2.2.1 i hi with h | h
          · have := Q.out.2.2.2.2 i h; omega
          · omega))
    rw [List.nil_append] at *
    have H4 := Lib.hid h4
    clear h4 f4 n4 hne3 Q
    go_wp2_with fail
    have lx := encs_length xs
    have ly := encs_length ys
    have lxn : xs.length = n := by have := HA.out.1; simpa using this
    have lyk : ys.length = k := by have := HB.out.1; simpa using this
    have LXN := Lib.hid lxn
    have LYK := Lib.hid lyk
    rw [lxn] at lx
    rw [lyk] at ly
    clear lxn lyk
    refine (wbytes_c _ b1 v3 _ W3.out.wr (by omega)).mono ?_
    rintro e w5 ⟨v5, rfl, h5, f5⟩
    obtain ⟨A5, c5, rfl, _, _⟩ := own_slice h5
    have R5 := Lib.hid (Rd.of_own h5)
    have H5 := Lib.hid (H4.out.far f5)
    clear h5 f5
    go_wp2_with fail
    refine (wbytes_c _ b2 v4 _ H5.out.wr (by omega)).mono ?_
    rintro e w6 ⟨v6, rfl, h6, f6⟩
    obtain ⟨A6, c6, rfl, _, _⟩ := own_slice h6
    have R6 := Lib.hid (Rd.of_own h6)
    have R5b := Lib.hid (R5.out.far f6)
    have F6 := Lib.hid (H5.out.fr.trans f6 (fun _ _ h => h))
    clear h6 f6 H1 H1b H2 W2 H3 W3 H4 R5 H5
    have hab : ∀ W, Fr (fun _ => False) w6 W → Calls Try.prog 27 #[.slice A5 (encs xs).length c5, .slice A6 (encs ys).length c6] W (LessOut (encs xs) (encs ys) W) := fun W hW => less_c W A5 A6 _ _ c5 c6 _ _ (R5b.out.far hW) (R6.out.far hW) (by omega) (by omega)
    have hba : ∀ W, Fr (fun _ => False) w6 W → Calls Try.prog 27 #[.slice A6 (encs ys).length c6, .slice A5 (encs xs).length c5] W (LessOut (encs ys) (encs xs) W) := fun W hW => less_c W A6 A5 _ _ c6 c5 _ _ (R6.out.far hW) (R5b.out.far hW) (by omega) (by omega)
    have HAB := Lib.hid hab
    have HBA := Lib.hid hba
    generalize (encs xs).length = lxs at *
    generalize (encs ys).length = lys at *
    clear hab hba R5b R6
    go_wp2_with fail
    go_loopw [9] (fun i wr => ∃ t : Nat, t ≤ n ∧ t ≤ k ∧ i = .int .i64 t ∧ Hid (Fr (fun _ => False) w6 wr) ∧ Hid (xs.take t = ys.take t)) (fun i _ => n - (intOf i).toNat)
    case atStart => exact ⟨0, Nat.zero_le _, Nat.zero_le _, rfl, Fr.refl _ _, rfl⟩
    case round =>
      obtain ⟨t, ht, hk2, rfl, hq, hpre⟩ := hrel
      by_cases h1 : t < n
      · by_cases h2 : t < k
        · have ra := HA.out.far (F6.out.trans hq.out (fun _ _ h => h))
          have rb := HB.out.far (F6.out.trans hq.out (fun _ _ h => h))
          obtain ⟨g1, o1, rfl, -⟩ := ra.lit (by omega)
          obtain ⟨g2, o2, rfl, -⟩ := rb.lit (by omega)
          have c1 := ra.cell h1
          have c2 := rb.cell h2
          rw [List.getElem?_map, List.getElem?_eq_getElem (by rw [LXN.out]; exact h1)] at c1
          rw [List.getElem?_map, List.getElem?_eq_getElem (by rw [LYK.out]; exact h2)] at c2
          have hx1 := HX.out (xs[t]'(by rw [LXN.out]; exact h1)) (List.getElem_mem _)
          have hy1 := HY.out (ys[t]'(by rw [LYK.out]; exact h2)) (List.getElem_mem _)
          have dx := List.drop_eq_getElem_cons (l := xs) (i := t) (by rw [LXN.out]; exact h1)
          have dy := List.drop_eq_getElem_cons (l := ys) (i := t) (by rw [LYK.out]; exact h2)
          have tx := List.take_succ_eq_append_getElem (l := xs) (i := t) (by rw [LXN.out]; exact h1)
          have ty := List.take_succ_eq_append_getElem (l := ys) (i := t) (by rw [LYK.out]; exact h2)
          generalize xs[t]'(by rw [LXN.out]; exact h1) = x at *
          generalize ys[t]'(by rw [LYK.out]; exact h2) = y at *
          simp only [Option.map_some] at c1 c2
          have DX := Lib.hid dx
          have DY := Lib.hid dy
          have TX := Lib.hid tx
          have TY := Lib.hid ty
          have RA := Lib.hid ra
          have RB := Lib.hid rb
          clear dx dy tx ty ra rb
          by_cases hxy : x = y
          · have hb0 : (((x : Nat) : Int) != ((y : Nat) : Int)) = false := by rw [hxy]; exact bne_self_eq_false _
            have HXY := Lib.hid hxy
            clear hxy
            go_wp2_with fail
            go_quiet (fail)
            go_wp2_with fail
            refine ⟨⟨t + 1, h1, h2, by go_num, hq.out.drewN nq, ?_⟩, by simp [intOf]; omega⟩
            show xs.take (t + 1) = ys.take (t + 1)
            rw [TX.out, TY.out, hpre.out, HXY.out]
          · have hb0 : (((x : Nat) : Int) != ((y : Nat) : Int)) = true := by
              rw [bne_iff_ne]
              intro e
              exact hxy (by omega)
            go_wp2_with fail
            go_quiet (fail)
            have F7 := Lib.hid (hq.out.drewN nq)
            have d1 : (wr.drewN nq).cell? ⟨g1, o1 + t, none⟩ = some (.int .u64 x) := c1
            have d2 : (wr.drewN nq).cell? ⟨g2, o2 + t, none⟩ = some (.int .u64 y) := c2
            generalize wr.drewN nq = w7 at *
            clear c1 c2
            have e1 : ∀ i : Since w7, i.w'.cell? ⟨g1, o1 + t, none⟩ = some (.int .u64 x) := fun i => i.cell d1
            have e2 : ∀ i : Since w7, i.w'.cell? ⟨g2, o2 + t, none⟩ = some (.int .u64 y) := fun i => i.cell d2
            clear d1 d2
            have i1 : (t : Int) < (n : Int) := by omega
            have i2 : (t : Int) < (k : Int) := by omega
            rcases Nat.lt_or_ge x y with hlt | hge
            · have hord := order_at xs ys t x y _ _ hpre.out DX.out DY.out hlt (by omega)
              have hA1 : ∀ i : Since w7, Calls Try.prog 27 #[.slice A5 lxs c5, .slice A6 lys c6] i.w' fun e w' => e = .returned (.bool true) ∧ Fr (fun _ => False) i.w' w' := fun i => (HAB.out i.w' (F7.out.trans i.fr (fun _ _ h => h))).mono fun e w' h => ⟨by rw [h.1, hord.1], by obtain ⟨n, rfl⟩ := h.2; exact (Fr.refl _ _).drewN n⟩
              have hB1 : ∀ i : Since w7, Calls Try.prog 27 #[.slice A6 lys c6, .slice A5 lxs c5] i.w' fun e w' => e = .returned (.bool false) ∧ Fr (fun _ => False) i.w' w' := fun i => (HBA.out i.w' (F7.out.trans i.fr (fun _ _ h => h))).mono fun e w' h => ⟨by rw [h.1, hord.2], by obtain ⟨n, rfl⟩ := h.2; exact (Fr.refl _ _).drewN n⟩
              have HA1 := Lib.hid hA1
              have HB1 := Lib.hid hB1
              clear hord hA1 hB1 HAB HBA
              have hd1 : decide ((y : Int) < (x : Int)) = false := by simp; omega
              have hd2 : decide (y < x) = false := by simp; omega
              go_wp2_with fail
              refine wp_region_since (Fr.refl _ w7) (by kernel_rfl) (by kernel_rfl) ?_
              repeat (go_big_quiet_step (first
                | (go_at_call 10; exact Calls.since (awake_c _))
                | (go_at_call 27; first | (with_reducible exact Calls.since (HA1.out _)) | (with_reducible exact Calls.since (HB1.out _)))))
              refine wpQuiet_nil ?_
              rintro _ ⟨i8, rfl⟩
              go_wp2_with fail
              go_ret
              exact ⟨rfl, (F6.out.trans F7.out (fun _ _ h => h)).trans i8.fr (fun _ _ h => h)⟩
            · have hlt : y < x := by omega
              have hord := order_at ys xs t y x _ _ hpre.out.symm DY.out DX.out hlt (by omega)
              have hA1 : ∀ i : Since w7, Calls Try.prog 27 #[.slice A5 lxs c5, .slice A6 lys c6] i.w' fun e w' => e = .returned (.bool false) ∧ Fr (fun _ => False) i.w' w' := fun i => (HAB.out i.w' (F7.out.trans i.fr (fun _ _ h => h))).mono fun e w' h => ⟨by rw [h.1, hord.2], by obtain ⟨n, rfl⟩ := h.2; exact (Fr.refl _ _).drewN n⟩
              have hB1 : ∀ i : Since w7, Calls Try.prog 27 #[.slice A6 lys c6, .slice A5 lxs c5] i.w' fun e w' => e = .returned (.bool true) ∧ Fr (fun _ => False) i.w' w' := fun i => (HBA.out i.w' (F7.out.trans i.fr (fun _ _ h => h))).mono fun e w' h => ⟨by rw [h.1, hord.1], by obtain ⟨n, rfl⟩ := h.2; exact (Fr.refl _ _).drewN n⟩
              have HA1 := Lib.hid hA1
              have HB1 := Lib.hid hB1
              clear hord hA1 hB1 HAB HBA
              have hd1 : decide ((x : Int) < (y : Int)) = false := by simp; omega
              have hd2 : decide (x < y) = false := by simp; omega
              go_wp2_with fail
              refine wp_region_since (Fr.refl _ w7) (by kernel_rfl) (by kernel_rfl) ?_
              repeat (go_big_quiet_step (first
                | (go_at_call 10; exact Calls.since (awake_c _))
                | (go_at_call 27; first | (with_reducible exact Calls.since (HA1.out _)) | (with_reducible exact Calls.since (HB1.out _)))))
              refine wpQuiet_nil ?_
              rintro _ ⟨i8, rfl⟩
              go_wp2_with fail
              go_ret
              exact ⟨rfl, (F6.out.trans F7.out (fun _ _ h => h)).trans i8.fr (fun _ _ h => h)⟩
        · have h3 : t = k := by omega
          have hl : lexLt (encs xs) (encs ys) = decide (n < k) ∧ lexLt (encs ys) (encs xs) = decide (k < n) := ends_of LXN.out LYK.out hpre.out ht hk2 (by omega)
          have hA1 : ∀ W, Fr (fun _ => False) w6 W → Calls Try.prog 27 #[.slice A5 lxs c5, .slice A6 lys c6] W fun e w' => e = .returned (.bool (decide (n < k))) ∧ Fr (fun _ => False) W w' := fun W hW => (HAB.out W hW).mono fun e w' h => ⟨by rw [h.1, hl.1], by obtain ⟨n, rfl⟩ := h.2; exact (Fr.refl _ _).drewN n⟩
          have hB1 : ∀ W, Fr (fun _ => False) w6 W → Calls Try.prog 27 #[.slice A6 lys c6, .slice A5 lxs c5] W fun e w' => e = .returned (.bool (decide (k < n))) ∧ Fr (fun _ => False) W w' := fun W hW => (HBA.out W hW).mono fun e w' h => ⟨by rw [h.1, hl.2], by obtain ⟨n, rfl⟩ := h.2; exact (Fr.refl _ _).drewN n⟩
          have HA1 := Lib.hid hA1
          have HB1 := Lib.hid hB1
          clear hl hA1 hB1 HAB HBA
          go_wp2_with fail
          refine (HA1.out _ hq.out).mono ?_
          rintro e w8 ⟨rfl, f8⟩
          have F8 := Lib.hid (hq.out.trans f8 (fun _ _ h => h))
          clear f8
          go_wp2_with fail
          refine (HB1.out _ F8.out).mono ?_
          rintro e w9 ⟨rfl, f9⟩
          have F9 := Lib.hid (F8.out.trans f9 (fun _ _ h => h))
          clear f9
          go_wp2_with fail
          refine (awake_c _).mono ?_
          rintro e w10 ⟨rfl, f10⟩
          have F10 := Lib.hid ((F6.out.trans F9.out (fun _ _ h => h)).trans f10 (fun _ _ h => h))
          clear f10
          go_wp2_with fail
          go_ret
          exact ⟨rfl, F10.out⟩
      · have h3 : t = n := by omega
        have hl : lexLt (encs xs) (encs ys) = decide (n < k) ∧ lexLt (encs ys) (encs xs) = decide (k < n) := ends_of LXN.out LYK.out hpre.out ht hk2 (by omega)
        have hA1 : ∀ W, Fr (fun _ => False) w6 W → Calls Try.prog 27 #[.slice A5 lxs c5, .slice A6 lys c6] W fun e w' => e = .returned (.bool (decide (n < k))) ∧ Fr (fun _ => False) W w' := fun W hW => (HAB.out W hW).mono fun e w' h => ⟨by rw [h.1, hl.1], by obtain ⟨n, rfl⟩ := h.2; exact (Fr.refl _ _).drewN n⟩
        have hB1 : ∀ W, Fr (fun _ => False) w6 W → Calls Try.prog 27 #[.slice A6 lys c6, .slice A5 lxs c5] W fun e w' => e = .returned (.bool (decide (k < n))) ∧ Fr (fun _ => False) W w' := fun W hW => (HBA.out W hW).mono fun e w' h => ⟨by rw [h.1, hl.2], by obtain ⟨n, rfl⟩ := h.2; exact (Fr.refl _ _).drewN n⟩
        have HA1 := Lib.hid hA1
        have HB1 := Lib.hid hB1
        clear hl hA1 hB1 HAB HBA
        go_wp2_with fail
        refine (HA1.out _ hq.out).mono ?_
        rintro e w8 ⟨rfl, f8⟩
        have F8 := Lib.hid (hq.out.trans f8 (fun _ _ h => h))
        clear f8
        go_wp2_with fail
        refine (HB1.out _ F8.out).mono ?_
        rintro e w9 ⟨rfl, f9⟩
        have F9 := Lib.hid (F8.out.trans f9 (fun _ _ h => h))
        clear f9
        go_wp2_with fail
        refine (awake_c _).mono ?_
        rintro e w10 ⟨rfl, f10⟩
        have F10 := Lib.hid ((F6.out.trans F9.out (fun _ _ h => h)).trans f10 (fun _ _ h => h))
        clear f10
        go_wp2_with fail
        go_ret
        exact ⟨rfl, F10.out⟩
end Go.Proofs.Ytokhebplmldfkaa
