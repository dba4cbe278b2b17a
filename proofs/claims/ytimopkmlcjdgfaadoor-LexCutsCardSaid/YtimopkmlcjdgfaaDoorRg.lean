/-
  CONTRACT of the reference's gap.
-/
import Derived.Test.YtimopkmlcjdgfaaDoorRw
namespace Go.Proofs.YtimopkmlcjdgfaaDoor
set_option linter.unusedSimpArgs false
set_option linter.unusedVariables false
open Go Go.RowKit

theorem skp_t10 {r : List UInt8} : skp true (10 :: r) = skp false r := by
  rw [show skp true (10 :: r) = if (10 : UInt8) == 10 then skp false r else skp true r from by conv => lhs; unfold skp]
  rfl
theorem skp_tn {c : UInt8} {r : List UInt8} (h : (c == 10) = false) : skp true (c :: r) = skp true r := by
  rw [show skp true (c :: r) = if c == 10 then skp false r else skp true r from by conv => lhs; unfold skp]
  rw [h]
  rfl
def GapQ (s : List UInt8) (at_ : Nat) (w : World) (e : Ending) (w' : World) : Prop := ∃ j : Nat, e = .returned (.int .i64 (j : Int)) ∧ at_ ≤ j ∧ j ≤ s.length ∧ s.drop j = skp false (s.drop at_) ∧ w = w'
set_option maxRecDepth 100000 in
set_option maxHeartbeats 4000000 in
theorem rgap_c (w : World) (s : List UInt8) (at_ : Nat) (hs : s.length ≤ 1000000000) (h : at_ ≤ s.length) : Calls Tryd.prog 21 #[.string (strOf s), .int .i64 (at_ : Int)] w (GapQ s at_ w) := by
  have hsz := strOf_size s
  go_enter Tryd.func21, Tryd.ntmps21
  go_wp2_with fail
  go_loop [1] (fun iv => ∃ i : Nat, at_ ≤ i ∧ i ≤ s.length ∧ iv = .int .i64 (i : Int) ∧ Hid (skp false (s.drop at_) = skp false (s.drop i))) (fun iv => s.length - (intOf iv).toNat)
  case atStart => exact ⟨at_, Nat.le_refl _, h, rfl, rfl⟩
  case round =>
    obtain ⟨i, hi1, hi, rfl, hw⟩ := hrel
    by_cases hlt : i < s.length
    case neg =>
      obtain rfl : i = s.length := by omega
      have e1 : decide ((s.length : Int) < (s.length : Int)) = false := decide_eq_false (by omega)
      have e1' : decide (s.length < s.length) = false := decide_eq_false (by omega)
      have HR : Hid (s.drop s.length = skp false (s.drop at_)) := Lib.hid (by rw [hw.out, List.drop_length]; rfl)
      go_wp2_with fail
      go_ret
      exact ⟨s.length, rfl, hi1, Nat.le_refl _, HR.out, rfl⟩
    have e1 : decide ((i : Int) < (s.length : Int)) = true := decide_eq_true (by omega)
    have e1' : decide (i < s.length) = true := decide_eq_true hlt
    have hix := fun W => run_index_str W s i hlt
    have hdr := List.drop_eq_getElem_cons hlt
    have hcl := u8_lt s[i]
    obtain ⟨c, hc⟩ : ∃ c, s[i] = c := ⟨_, rfl⟩
    rw [hc] at hix hdr hcl
    have hgn := gap_n c
    have h35 := eq_n c 35 (by decide)
    obtain ⟨x, hx⟩ : ∃ x, c.toNat = x := ⟨_, rfl⟩
    rw [hx] at hix hgn hcl h35
    have HDR := Lib.hid hdr
    have HX := Lib.hid hx
    have H35 := Lib.hid h35
    have HGN := Lib.hid hgn
    clear hc hdr h35 hgn hx
    by_cases h35 : x = 35
    case pos =>
      have HC : Hid (c = 35) := Lib.hid (UInt8.toNat_inj.1 (by rw [HX.out]; exact h35))
      have HSK : Hid (skp false (s.drop at_) = skp true (s.drop i)) := Lib.hid (by
        rw [hw.out, HDR.out, HC.out, skp_hash, skp_tn (by decide)])
      subst h35
      go_wp2_with fail
      go_loop [1] (fun iv => ∃ j : Nat, i ≤ j ∧ j ≤ s.length ∧ iv = .int .i64 (j : Int) ∧ Hid (skp false (s.drop at_) = skp true (s.drop j))) (fun iv => s.length - (intOf iv).toNat)
      case atStart => exact ⟨i, Nat.le_refl _, hi, rfl, HSK.out⟩
      case round =>
        obtain ⟨j, hj1, hj, rfl, hw2⟩ := hrel
        by_cases hlt2 : j < s.length
        case neg =>
          obtain rfl : j = s.length := by omega
          have e2 : decide ((s.length : Int) < (s.length : Int)) = false := decide_eq_false (by omega)
          have e2' : decide (s.length < s.length) = false := decide_eq_false (by omega)
          have HS : Hid (skp false (s.drop at_) = skp false (s.drop s.length)) := Lib.hid (by rw [hw2.out, List.drop_length]; rfl)
          go_wp2_with fail
          go_round
          case rel => exact ⟨s.length, by omega, Nat.le_refl _, rfl, HS.out⟩
          case measure => simp [intOf]; omega
        have e2 : decide ((j : Int) < (s.length : Int)) = true := decide_eq_true (by omega)
        have e2' : decide (j < s.length) = true := decide_eq_true hlt2
        have hiy := fun W => run_index_str W s j hlt2
        have hdr := List.drop_eq_getElem_cons hlt2
        have hcl2 := u8_lt s[j]
        obtain ⟨d, hd⟩ : ∃ c, s[j] = c := ⟨_, rfl⟩
        rw [hd] at hiy hdr hcl2
        have h10 := eq_n d 10 (by decide)
        obtain ⟨y, hy⟩ : ∃ x, d.toNat = x := ⟨_, rfl⟩
        rw [hy] at hiy h10 hcl2
        have HDR2 := Lib.hid hdr
        have H10 := Lib.hid h10
        have HY := Lib.hid hy
        clear hd hdr h10 hy
        by_cases h10 : y = 10
        case pos =>
          have HD : Hid (d = 10) := Lib.hid (UInt8.toNat_inj.1 (by rw [HY.out]; exact h10))
          have HS : Hid (skp false (s.drop at_) = skp false (s.drop j)) := Lib.hid (by rw [hw2.out, HDR2.out, HD.out, skp_t10, skp_gap (by decide)])
          have HIJ : Hid (i < j) := Lib.hid (by
            rcases Nat.lt_or_ge i j with hij | hij
            · exact hij
            · exfalso
              have : j = i := by omega
              subst this
              have e := HDR2.out
              rw [HDR.out, HC.out, HD.out] at e
              injection e with e _
              exact absurd e (by decide))
          have hij : i < j := HIJ.out
          subst h10
          go_wp2_with fail
          go_round
          case rel => exact ⟨j, by omega, hj, rfl, HS.out⟩
          case measure => simp [intOf]; omega
        case neg =>
          have HS : Hid (skp false (s.drop at_) = skp true (s.drop (j + 1))) := Lib.hid (by rw [hw2.out, HDR2.out, skp_tn (by rw [show (10 : UInt8) = Nat.toUInt8 10 from rfl, H10.out]; exact decide_eq_false h10)])
          have m1 : ((y : Int) == 10) = false := beq_eq_false_iff_ne.2 (by omega)
          have m1' : ((y : Int) != 10) = true := bne_iff_ne.2 (by omega)
          clear h10
          go_wp2_with fail
          go_round
          case rel => exact ⟨j + 1, by omega, by omega, by go_num, HS.out⟩
          case measure => simp [intOf]; omega
    case neg =>
    have m0 : ((x : Int) == 35) = false := beq_eq_false_iff_ne.2 (by omega)
    by_cases hg : x = 32 ∨ x = 9 ∨ x = 10 ∨ x = 13
    · have HS : Hid (skp false (s.drop at_) = skp false (s.drop (i + 1))) := Lib.hid (by
        rw [hw.out, HDR.out, skp_gap (by rw [HGN.out]; simp; omega)])
      clear h35
      rcases hg with rfl | rfl | rfl | rfl
      all_goals
        go_wp2_with fail
        go_round
        case rel => exact ⟨i + 1, by omega, by omega, by go_num, HS.out⟩
        case measure => simp [intOf]; omega
    · obtain ⟨n1, n2, n3, n4⟩ : ¬ x = 32 ∧ ¬ x = 9 ∧ ¬ x = 10 ∧ ¬ x = 13 := ⟨fun e => hg (.inl e), fun e => hg (.inr (.inl e)), fun e => hg (.inr (.inr (.inl e))), fun e => hg (.inr (.inr (.inr e)))⟩
      have m1 : ((x : Int) == 32) = false := beq_eq_false_iff_ne.2 (by omega)
      have m2 : ((x : Int) == 9) = false := beq_eq_false_iff_ne.2 (by omega)
      have m3 : ((x : Int) == 10) = false := beq_eq_false_iff_ne.2 (by omega)
      have m4 : ((x : Int) == 13) = false := beq_eq_false_iff_ne.2 (by omega)
      have k1 : ((x : Int) != 32) = true := bne_iff_ne.2 (by omega)
      have k2 : ((x : Int) != 9) = true := bne_iff_ne.2 (by omega)
      have k3 : ((x : Int) != 10) = true := bne_iff_ne.2 (by omega)
      have k4 : ((x : Int) != 13) = true := bne_iff_ne.2 (by omega)
      have HR : Hid (s.drop i = skp false (s.drop at_)) := Lib.hid (by
        rw [hw.out, HDR.out, skp_stop (by rw [HGN.out, decide_eq_false n1, decide_eq_false n2, decide_eq_false n3, decide_eq_false n4]; rfl) (by rw [show (35 : UInt8) = Nat.toUInt8 35 from rfl, H35.out]; exact decide_eq_false h35)])
      clear hg h35 n1 n2 n3 n4
      go_wp2_with fail
      go_ret
      exact ⟨i, rfl, hi1, hi, HR.out, rfl⟩
end Go.Proofs.YtimopkmlcjdgfaaDoor
