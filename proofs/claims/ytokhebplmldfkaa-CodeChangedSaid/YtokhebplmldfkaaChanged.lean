/-
  THE WALK OF 'tidewracklaw02.CodeChanged': a number's bytes, of which one is another byte, are not read as that number alone.
-/
import Derived.Test.YtokhebplmldfkaaAwake
import Derived.Test.YtokhebplmldfkaaCodeQ
namespace Go.Proofs.Ytokhebplmldfkaa
set_option linter.unusedSimpArgs false
set_option linter.unusedVariables false
open Go Go.RowKit

/-- The first byte and the length of an encoding. -/
theorem enc_head (x : Nat) : ∃ c r, enc x = c :: r ∧ ((c.toNat ≤ 247 ∧ r.length = 0) ∨ ∃ k, 1 ≤ k ∧ k ≤ 8 ∧ c.toNat = 247 + k ∧ r.length = k) := by
  have hn := need_le x
  unfold enc
  split
  · rename_i h
    exact ⟨_, _, rfl, .inl ⟨by rw [by8_toNat]; omega, rfl⟩⟩
  · rename_i h
    have hn0 : need x ≠ 0 := by unfold need; (repeat' split) <;> omega
    exact ⟨_, _, rfl, .inr ⟨need x, by omega, hn, by rw [by8_toNat]; omega, be_length _ _⟩⟩

theorem changed_ne {X I n y : Nat} {c : UInt8} (hI : I < (enc X).length) (hc : c ≠ (enc X)[I]) (h : rdNum ((enc X).set I c) = some (y, n)) (hn : ¬ n < ((enc X).set I c).length) : y ≠ X := by
  rintro rfl
  obtain ⟨_, h2, _⟩ := rdNum_some h
  rw [List.take_of_length_le (by omega)] at h2
  have : ((enc y).set I c)[I]'(by simpa using hI) = (enc y)[I] := by simp only [h2]
  rw [List.getElem_set_self] at this
  exact hc this
theorem next_byte (c : UInt8) (y : Int) (y0 : 0 ≤ y) (y1 : y ≤ 255) : ∃ d : UInt8, ((c.toNat : Int) + (1 + y % 255)) % 256 = d.toNat ∧ d ≠ c := by
  have := c.toNat_lt
  refine ⟨by8 (((c.toNat : Int) + (1 + y % 255)) % 256).toNat, ?_, ?_⟩
  · rw [by8_toNat]; omega
  · intro h
    have h2 := congrArg UInt8.toNat h
    rw [by8_toNat] at h2
    omega

set_option maxRecDepth 100000 in
set_option maxHeartbeats 1000000 in
theorem codeChanged_c (x a y : Int) (h0 : 0 ≤ x) (h1 : x ≤ 18446744073709551615) (a0 : -9223372036854775808 ≤ a) (a1 : a ≤ 9223372036854775807) (y0 : 0 ≤ y) (y1 : y ≤ 255) (w : World) :
    Calls Try.prog 8 #[.int .u64 x, .int .i64 a, .int .u8 y] w fun e w' => e = .returned (.bool true) ∧ Fr (fun _ => False) w w' := by
  obtain ⟨X, rfl⟩ : ∃ X : Nat, x = X := ⟨x.toNat, by omega⟩
  have hs := size_le X
  have hel := enc_length X
  obtain ⟨L, hL⟩ : ∃ L, L = size X := ⟨_, rfl⟩
  rw [← hL] at hs hel
  have HEL := Lib.hid hel
  have HL := Lib.hid hL
  clear hel hL
  go_enter Try.func8, Try.ntmps8
  go_wp2_with fail
  refine (newWriter_n _).mono ?_
  rintro e w1 ⟨b, v, rfl, h1⟩
  have H1 := Lib.hid h1
  clear h1
  go_wp2_with fail
  refine (wuint_c _ b v [] X h0 (by omega) H1.out.wr (by decide)).mono ?_
  rintro e w2 ⟨rfl, h2⟩
  rw [Int.toNat_natCast] at h2
  obtain ⟨v2, h2, _⟩ := H1.out.step h2
  have H2 := Lib.hid h2
  clear h2
  go_wp2_with fail
  refine (wbytes_c _ b v2 _ H2.out.wr (by rw [List.nil_append]; have := HEL.out; omega)).mono ?_
  rintro e w3 ⟨v3, rfl, h3, f3⟩
  rw [List.nil_append, HEL.out] at h3
  obtain ⟨g, c3, hv3, hg0, hg1⟩ := h3.form hs.1
  subst hv3
  obtain ⟨c, r, hcr, hk⟩ := enc_head X
  have hc3 := (own_slice h3)
  have HCR := Lib.hid hcr
  have H3 := Lib.hid h3
  have F3 := Lib.hid (H2.out.fr.trans f3 (fun _ _ h => h))
  clear h3 f3 hcr
  have d0 : w3.cell? ⟨g, 0, none⟩ = some (.int .u8 c.toNat) := by
    rw [H3.out.cellAt 0 (by omega), HCR.out]
    rfl
  have hcl := c.toNat_lt
  have k0 := H3.out.frozenAt 0
  rcases hk with ⟨hc, hr⟩ | ⟨k, hk1, hk8, hc, hr⟩
  · obtain rfl : L = 1 := by have := HEL.out; rw [HCR.out, List.length_cons, hr] at this; omega
    clear hr
    obtain ⟨d, hd, hdn⟩ := next_byte c y y0 y1
    have hnx : d ≠ (enc X)[0]'(by rw [HEL.out]; omega) := by simp only [HCR.out]; exact hdn
    have HD := Lib.hid hd
    have HNE := Lib.hid hnx
    clear hd hnx hdn
    go_wp2_with fail
    refine (size_c X _ h0 (by omega)).mono ?_
    rintro e w10 ⟨rfl, rfl⟩
    rw [Int.toNat_natCast, ← HL.out]
    go_wp2_with fail

    have hrd : Rd (w3.setCell ⟨g, 0, none⟩ (.int .u8 d.toNat)) (some ⟨g, 0, none⟩) (1) (bv ((enc X).set 0 d)) := by
      have := Rd.of_own (H3.out.stored 0 (.int .u8 d.toNat)).1
      rw [show (bv (enc X)).set 0 (.int .u8 d.toNat) = bv ((enc X).set 0 d) from by simp [bv, List.map_set]] at this
      exact this
    have F4 := Lib.hid (F3.out.setCell (p := ⟨g, 0, none⟩) (fun h => by have := H2.out.fr.size; simp at h; omega) (.int .u8 d.toNat))
    rw [HD.out]
    refine (newReader_n _ _ _ _ _ hrd (by omega)).mono ?_
    rintro e w5 ⟨b5, v5, rfl, h5⟩
    have R5 := Lib.hid h5
    have F5 := Lib.hid (F4.out.trans h5.fr (fun _ _ h => h))
    clear h5 hrd
    go_wp2_with fail
    refine (ruint_c _ b5 v5 _ 0 R5.out.rr).mono ?_
    rintro e w6 ⟨f6, h6⟩
    have F6 := Lib.hid (F5.out.trans f6 (fun i hi e => by have := R5.out.b0; have := F4.out.size; simp at *; omega))
    have B5 := Lib.hid R5.out.b0
    clear f6
    rcases h6 with ⟨z, n, hz, rfl, h6⟩ | ⟨_, rfl, h6⟩
    · rw [List.drop_zero] at hz
      have R6 := Lib.hid h6
      have HZ := Lib.hid hz
      clear h6 hz
      go_wp2_with fail
      refine (end_c _ b5 v5 _ _ _ R6.out).mono ?_
      rintro e w7 ⟨rfl, h7, f7⟩
      have F7 := Lib.hid (F6.out.trans f7 (fun i hi e => by have := B5.out; have := F4.out.size; simp at *; omega))
      clear h7 f7
      by_cases hlt : 0 + n < ((enc X).set 0 d).length
      · rw [if_pos (.inr hlt)]
        clear hlt
        go_wp2_with fail
        refine (awake_c _).mono ?_
        rintro e w8 ⟨rfl, f8⟩
        have F8 := Lib.hid (F7.out.trans f8 (fun _ _ h => h))
        clear f8
        go_wp2_with fail
        go_ret
        exact ⟨rfl, F8.out⟩
      · rw [if_neg (by simp only [Bool.false_eq_true, false_or]; exact hlt)]
        have hne : ((z : Int) != (X : Int)) = true := by
          rw [bne_iff_ne]
          intro h
          exact changed_ne (by rw [HEL.out]; omega) HNE.out HZ.out (by omega) (by omega)
        clear hlt
        go_wp2_with fail
        refine (awake_c _).mono ?_
        rintro e w8 ⟨rfl, f8⟩
        have F8 := Lib.hid (F7.out.trans f8 (fun _ _ h => h))
        clear f8
        go_wp2_with fail
        go_ret
        exact ⟨rfl, F8.out⟩
    · have R6 := Lib.hid h6
      clear h6
      go_wp2_with fail
      refine (end_c _ b5 v5 _ _ _ R6.out).mono ?_
      rintro e w7 ⟨rfl, h7, f7⟩
      have F7 := Lib.hid (F6.out.trans f7 (fun i hi e => by have := B5.out; have := F4.out.size; simp at *; omega))
      clear h7 f7
      rw [if_pos (.inl rfl)]
      go_wp2_with fail
      refine (awake_c _).mono ?_
      rintro e w8 ⟨rfl, f8⟩
      have F8 := Lib.hid (F7.out.trans f8 (fun _ _ h => h))
      clear f8
      go_wp2_with fail
      go_ret
      exact ⟨rfl, F8.out⟩
  · obtain rfl : L = k + 1 := by have := HEL.out; rw [HCR.out, List.length_cons, hr] at this; omega
    clear hr
    have hc2 : w3.cell? ⟨g, 0, none⟩ = some (.int .u8 (247 + (k : Int))) := by rw [d0, hc]; congr 2
    clear d0 hc hcl
    obtain ⟨I, hI⟩ : ∃ I : Nat, max 0 a % ((k : Int) + 1) = I := ⟨(max 0 a % ((k : Int) + 1)).toNat, by have := Int.emod_nonneg (max 0 a) (show ((k : Int) + 1) ≠ 0 by omega); omega⟩
    have hI2 : I < k + 1 := by have := Int.emod_lt_of_pos (max 0 a) (show (0 : Int) < (k : Int) + 1 by omega); omega
    obtain ⟨ci, hci⟩ : ∃ ci, ci = (enc X)[I]'(by rw [HEL.out]; exact hI2) := ⟨_, rfl⟩
    obtain ⟨d, hd, hdn⟩ := next_byte ci y y0 y1
    have hnx : d ≠ (enc X)[I]'(by rw [HEL.out]; exact hI2) := by rw [← hci]; exact hdn
    have dI : w3.cell? ⟨g, I, none⟩ = some (.int .u8 ci.toNat) := by
      rw [H3.out.cellAt I (by omega), bv_get _ _ (by rw [HEL.out]; exact hI2), ← hci]
    have kI := H3.out.frozenAt I
    have hcil := ci.toNat_lt
    have HD := Lib.hid hd
    have HNE := Lib.hid hnx
    clear hd hnx hdn hci
    have hz0 : (((k : Int) + 1) == 0) = false := by rw [beq_eq_false_iff_ne]; omega
    have hz1 : (((k : Int) + 1) != 247 + (k : Int) - 246) = false := by rw [bne_eq_false_iff_eq]; omega
    go_wp2_with fail
    refine (size_c X _ h0 (by omega)).mono ?_
    rintro e w10 ⟨rfl, rfl⟩
    rw [Int.toNat_natCast, ← HL.out]
    go_wp2_with fail

    have hrd : Rd (w3.setCell ⟨g, I, none⟩ (.int .u8 d.toNat)) (some ⟨g, 0, none⟩) (k + 1) (bv ((enc X).set I d)) := by
      have := Rd.of_own (H3.out.stored I (.int .u8 d.toNat)).1
      rw [show (bv (enc X)).set I (.int .u8 d.toNat) = bv ((enc X).set I d) from by simp [bv, List.map_set]] at this
      exact this
    have F4 := Lib.hid (F3.out.setCell (p := ⟨g, I, none⟩) (fun h => by have := H2.out.fr.size; simp at h; omega) (.int .u8 d.toNat))
    rw [HD.out]
    refine (newReader_n _ _ _ _ _ hrd (by omega)).mono ?_
    rintro e w5 ⟨b5, v5, rfl, h5⟩
    have R5 := Lib.hid h5
    have F5 := Lib.hid (F4.out.trans h5.fr (fun _ _ h => h))
    clear h5 hrd
    go_wp2_with fail
    refine (ruint_c _ b5 v5 _ 0 R5.out.rr).mono ?_
    rintro e w6 ⟨f6, h6⟩
    have F6 := Lib.hid (F5.out.trans f6 (fun i hi e => by have := R5.out.b0; have := F4.out.size; simp at *; omega))
    have B5 := Lib.hid R5.out.b0
    clear f6
    rcases h6 with ⟨z, n, hz, rfl, h6⟩ | ⟨_, rfl, h6⟩
    · rw [List.drop_zero] at hz
      have R6 := Lib.hid h6
      have HZ := Lib.hid hz
      clear h6 hz
      go_wp2_with fail
      refine (end_c _ b5 v5 _ _ _ R6.out).mono ?_
      rintro e w7 ⟨rfl, h7, f7⟩
      have F7 := Lib.hid (F6.out.trans f7 (fun i hi e => by have := B5.out; have := F4.out.size; simp at *; omega))
      clear h7 f7
      by_cases hlt : 0 + n < ((enc X).set I d).length
      · rw [if_pos (.inr hlt)]
        clear hlt
        go_wp2_with fail
        refine (awake_c _).mono ?_
        rintro e w8 ⟨rfl, f8⟩
        have F8 := Lib.hid (F7.out.trans f8 (fun _ _ h => h))
        clear f8
        go_wp2_with fail
        go_ret
        exact ⟨rfl, F8.out⟩
      · rw [if_neg (by simp only [Bool.false_eq_true, false_or]; exact hlt)]
        have hne : ((z : Int) != (X : Int)) = true := by
          rw [bne_iff_ne]
          intro h
          exact changed_ne (by rw [HEL.out]; omega) HNE.out HZ.out (by omega) (by omega)
        clear hlt
        go_wp2_with fail
        refine (awake_c _).mono ?_
        rintro e w8 ⟨rfl, f8⟩
        have F8 := Lib.hid (F7.out.trans f8 (fun _ _ h => h))
        clear f8
        go_wp2_with fail
        go_ret
        exact ⟨rfl, F8.out⟩
    · have R6 := Lib.hid h6
      clear h6
      go_wp2_with fail
      refine (end_c _ b5 v5 _ _ _ R6.out).mono ?_
      rintro e w7 ⟨rfl, h7, f7⟩
      have F7 := Lib.hid (F6.out.trans f7 (fun i hi e => by have := B5.out; have := F4.out.size; simp at *; omega))
      clear h7 f7
      rw [if_pos (.inl rfl)]
      go_wp2_with fail
      refine (awake_c _).mono ?_
      rintro e w8 ⟨rfl, f8⟩
      have F8 := Lib.hid (F7.out.trans f8 (fun _ _ h => h))
      clear f8
      go_wp2_with fail
      go_ret
      exact ⟨rfl, F8.out⟩
end Go.Proofs.Ytokhebplmldfkaa
