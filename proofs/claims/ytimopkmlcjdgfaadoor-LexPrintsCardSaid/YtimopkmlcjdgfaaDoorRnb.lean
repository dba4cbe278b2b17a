/-
  CONTRACT of the reference's number.
-/
import Derived.Test.YtimopkmlcjdgfaaDoorRdg
namespace Go.Proofs.YtimopkmlcjdgfaaDoor
set_option linter.unusedSimpArgs false
set_option linter.unusedVariables false
open Go Go.RowKit

def RNumQ (s : List UInt8) (w : World) (e : Ending) (w' : World) : Prop := ∃ (v : Int) (ok : Bool), e = .returned (.tuple #[.int .i64 v, .bool ok]) ∧ (ok = true → NumIs s v) ∧ (ok = false → ∀ x, ¬ NumIs s x) ∧ Fr (fun _ => False) w w'
theorem rnum_lt : ∀ (l : List UInt8) (n v : Nat), n < 18446744073709551616 → rnum n l = some v → v < 18446744073709551616
  | [], n, v, h, e => by
    have e' : some n = some v := e
    injection e' with e'
    omega
  | b :: l, n, v, h, e => by
    by_cases hc : dgt b = true ∧ n ≤ 4611686018427387904
    · rw [rnum_step hc.1 hc.2] at e
      exact rnum_lt l _ v (Nat.mod_lt _ (by decide)) e
    · rw [rnum_no (by
        by_cases h1 : dgt b = true
        · exact .inr (fun e => hc ⟨h1, e⟩)
        · exact .inl (by simpa using h1))] at e
      cases e
set_option maxRecDepth 100000 in
set_option maxHeartbeats 8000000 in
theorem rnumber_c (w : World) (s : List UInt8) (hs : s.length ≤ 1000000000) (h0 : 0 < s.length) : Calls Tryd.prog 44 #[.string (strOf s)] w (RNumQ s w) := by
  have hsz := strOf_size s
  have p0 : decide ((s.length : Int) > 0) = true := decide_eq_true (by omega)
  have p0' : decide ((0 : Int) < (s.length : Int)) = true := decide_eq_true (by omega)
  have p0'' : decide (0 < s.length) = true := decide_eq_true h0
  have hix0 : ∀ W, (Instr.index 9 (.string (strOf s)) (.int .i64 0)).run Tryd.prog W = .ok (.int .u8 ((s[0]).toNat : Nat)) W := fun W => run_index_str W s 0 h0
  have hcl0 := u8_lt s[0]
  have hdr0 : s = s[0] :: s.drop 1 := by
    have := List.drop_eq_getElem_cons h0
    rw [List.drop_zero] at this
    exact this
  obtain ⟨c, hc⟩ : ∃ c, s[0] = c := ⟨_, rfl⟩
  rw [hc] at hix0 hcl0 hdr0
  clear hc
  obtain ⟨x, hx⟩ : ∃ x, c.toNat = x := ⟨_, rfl⟩
  rw [hx] at hix0 hcl0
  have HX := Lib.hid hx
  clear hx
  by_cases h45 : x = 45
  case pos =>
    have HC : Hid (c = 45) := Lib.hid (UInt8.toNat_inj.1 (by rw [HX.out]; exact h45))
    obtain ⟨d, hd⟩ : ∃ d, s.drop 1 = d := ⟨_, rfl⟩
    have hsd : ∀ W, (Instr.slice 9 (.string (strOf s)) (some (.int .i64 1)) none none).run Tryd.prog W = .ok (.string (strOf d)) W := fun W => by rw [← hd]; exact run_drop W s 1 (by omega)
    have HS0 : Hid (s = 45 :: d) := Lib.hid (by rw [← hd, ← HC.out]; exact hdr0)
    have hszd := strOf_size d
    have hdl0 : d.length < s.length := by rw [HS0.out]; simp
    clear hdr0 hd
    subst h45
    go_enter Tryd.func44, Tryd.ntmps44
    go_wp2_with fail
    go_loopw [6, 7] (fun nv iv W => ∃ n i : Nat, i ≤ d.length ∧ n < 18446744073709551616 ∧ nv = .int .u64 (n : Int) ∧ iv = .int .i64 (i : Int) ∧ Hid (rnum 0 d = rnum n (d.drop i)) ∧ w = W) (fun _ iv _ => d.length - (intOf iv).toNat)
    case atStart => exact ⟨0, 0, Nat.zero_le _, by omega, rfl, rfl, Lib.hid (by rw [List.drop_zero]), rfl⟩
    case round =>
      obtain ⟨n, i, hi, hn, rfl, rfl, HW, rfl⟩ := hrel
      by_cases hlt : i < d.length
      case pos =>
        have hdl : decide ((i : Int) < (d.length : Int)) = true := decide_eq_true (by omega)
        have hdl' : decide (i < d.length) = true := decide_eq_true hlt
        have hix := fun W => run_index_str W d i hlt
        have hdr := List.drop_eq_getElem_cons hlt
        have hcl := u8_lt d[i]
        obtain ⟨b, hb⟩ : ∃ b, d[i] = b := ⟨_, rfl⟩
        rw [hb] at hix hdr hcl
        have DC := Lib.hid (fun W => rdigit_c W b.toNat hcl)
        have hdn := dgt_n b
        obtain ⟨y, hy⟩ : ∃ y, b.toNat = y := ⟨_, rfl⟩
        rw [hy] at hix DC hdn hcl
        have HDR := Lib.hid hdr
        have HDN := Lib.hid hdn
        have HY := Lib.hid hy
        clear hb hdr hdn hy
        cases hd : dgtN y with
        | false =>
          rw [hd] at DC HDN
          have HN : Hid (rnum 0 d = none) := Lib.hid (by rw [HW.out, HDR.out, rnum_no (.inl HDN.out)])
          clear hd
          go_wp2_with (
            go_at_call 43
            refine (DC.out _).mono ?_
            rintro e w' ⟨rfl, rfl⟩)
          go_ret2
          refine ⟨0, false, rfl, fun h => (by cases h), fun _ => ?_, Fr.refl _ _⟩
          rw [HS0.out]
          exact minus_no (fun m hm => by rw [HN.out] at hm; cases hm)
        | true =>
          rw [hd] at DC HDN
          have hy2 : 48 ≤ y ∧ y ≤ 57 := by
            unfold dgtN at hd
            simp at hd
            exact hd
          clear hd
          by_cases hbig : n ≤ 4611686018427387904
          case neg =>
            have e1 : decide ((4611686018427387904 : Int) < (n : Int)) = true := decide_eq_true (by omega)
            have e1' : decide (4611686018427387904 < n) = true := decide_eq_true (by omega)
            have HN : Hid (rnum 0 d = none) := Lib.hid (by rw [HW.out, HDR.out, rnum_no (.inr hbig)])
            clear hbig
            go_wp2_with (
              go_at_call 43
              refine (DC.out _).mono ?_
              rintro e w' ⟨rfl, rfl⟩)
            go_ret2
            refine ⟨0, false, rfl, fun h => (by cases h), fun _ => ?_, Fr.refl _ _⟩
            rw [HS0.out]
            exact minus_no (fun m hm => by rw [HN.out] at hm; cases hm)
          case pos =>
            have e1 : decide ((4611686018427387904 : Int) < (n : Int)) = false := decide_eq_false (by omega)
            have e1' : decide (4611686018427387904 < n) = false := decide_eq_false (by omega)
            obtain ⟨t, ht⟩ : ∃ t, y - 48 = t := ⟨_, rfl⟩
            obtain ⟨p, hp⟩ : ∃ p, 10 * n % 18446744073709551616 = p := ⟨_, rfl⟩
            obtain ⟨q, hq⟩ : ∃ q, (p + t) % 18446744073709551616 = q := ⟨_, rfl⟩
            have HS : Hid (rnum 0 d = rnum q (d.drop (i + 1))) := Lib.hid (by rw [HW.out, HDR.out, rnum_step HDN.out hbig, HY.out, ht, hp, hq])
            have ti : (y : Int) - 48 = (t : Int) := by omega
            have pi : IntKind.u64.wrap (10 * (n : Int)) = (p : Int) := by
              show (10 * (n : Int)) % 18446744073709551616 = _
              omega
            have qi : IntKind.u64.wrap ((p : Int) + (t : Int)) = (q : Int) := by
              show ((p : Int) + (t : Int)) % 18446744073709551616 = _
              omega
            have wi : IntKind.u8.wrap ((y : Int) - 48) = (t : Int) := by
              show ((y : Int) - 48) % 256 = _
              omega
            have ui : IntKind.u64.wrap (t : Int) = (t : Int) := by
              show (t : Int) % 18446744073709551616 = _
              omega
            have hq2 : q < 18446744073709551616 := by omega
            have ht9 : t ≤ 9 := by omega
            clear hbig ht hp hq
            go_wp2_with (
              go_at_call 43
              refine (DC.out _).mono ?_
              rintro e w' ⟨rfl, rfl⟩)
            go_roundw
            case rel => exact ⟨q, i + 1, by omega, hq2, by go_num, by go_num, HS.out, trivial⟩
            case measure => simp [intOf]; omega
      case neg =>
        obtain rfl : i = d.length := by omega
        have hdl : decide ((d.length : Int) < (d.length : Int)) = false := decide_eq_false (by omega)
        have hdl' : decide (d.length < d.length) = false := decide_eq_false (by omega)
        have HV : Hid (rnum 0 d = some n) := Lib.hid (by rw [HW.out, List.drop_length]; rfl)
        have DG := Lib.hid (fun W => rdigits_c n W hn)
        have hdgl := dec_len n hn
        obtain ⟨z, hz⟩ : ∃ z, Lib.decDigits n = z := ⟨_, rfl⟩
        rw [hz] at DG hdgl
        have HZ := Lib.hid hz
        clear hz
        by_cases h1 : n ≤ 9223372036854775808
        case neg =>
          have g1 : decide ((n : Int) ≤ 9223372036854775808) = false := decide_eq_false (by omega)
          have g1' : decide (n ≤ 9223372036854775808) = false := decide_eq_false h1
          have HNO : Hid (¬ (0 < n ∧ n ≤ 9223372036854775808 ∧ Lib.decDigits n = d)) := Lib.hid (fun h => h1 h.2.1)
          clear h1
          go_wp2_with fail
          go_ret2
          refine ⟨_, false, rfl, fun h => (by cases h), fun _ => ?_, Fr.refl _ _⟩
          rw [HS0.out]
          refine minus_no (fun m hm h => ?_)
          rw [HV.out] at hm
          injection hm with hm
          subst hm
          exact HNO.out h
        case pos =>
        have g1 : decide ((n : Int) ≤ 9223372036854775808) = true := decide_eq_true (by omega)
        have g1' : decide (n ≤ 9223372036854775808) = true := decide_eq_true h1
        by_cases h2 : 0 < n
        case neg =>
          have g2 : decide ((0 : Int) < (n : Int)) = false := decide_eq_false (by omega)
          have g2' : decide (0 < n) = false := decide_eq_false h2
          have HNO : Hid (¬ (0 < n ∧ n ≤ 9223372036854775808 ∧ Lib.decDigits n = d)) := Lib.hid (fun h => h2 h.1)
          clear h2
          go_wp2_with fail
          go_ret2
          refine ⟨_, false, rfl, fun h => (by cases h), fun _ => ?_, Fr.refl _ _⟩
          rw [HS0.out]
          refine minus_no (fun m hm h => ?_)
          rw [HV.out] at hm
          injection hm with hm
          subst hm
          exact HNO.out h
        case pos =>
        have g2 : decide ((0 : Int) < (n : Int)) = true := decide_eq_true (by omega)
        have g2' : decide (0 < n) = true := decide_eq_true h2
        have hs1 : ¬ 9223372036854775807 < 1 + (strOf z).size := by rw [strOf_size]; omega
        have hcat : ((⟨#[45]⟩ : ByteArray) ++ strOf z).toList = 45 :: z := by
          show (strOf [45] ++ strOf z).toList = _
          rw [strOf_app, strOf_toList]
          rfl
        have hst : (strOf s).toList = 45 :: d := by rw [strOf_toList, HS0.out]
        by_cases h3 : z = d
        case pos =>
          have g3 : ((45 :: z : List UInt8) == 45 :: d) = true := by rw [h3]; simp
          have g3' : (z == d) = true := by rw [h3]; simp
          have HY : Hid (NumIs (45 :: d) (-(n : Int))) := Lib.hid (minus_is h2 h1 (by rw [HZ.out, h3]))
          have c1 : IntKind.u64.wrap ((n : Int) - 1) = (n : Int) - 1 := by
            show ((n : Int) - 1) % 18446744073709551616 = _
            omega
          have c2 : IntKind.i64.wrap ((n : Int) - 1) = (n : Int) - 1 := IntWalk.i64_in _ (by omega)
          have c3 : IntKind.i64.wrap (-((n : Int) - 1)) = -((n : Int) - 1) := IntWalk.i64_in _ (by omega)
          have c4 : IntKind.i64.wrap (-((n : Int) - 1) - 1) = -((n : Int) - 1) - 1 := IntWalk.i64_in _ (by omega)
          clear h3
          go_wp2_with (
            go_at_call 54
            refine (DG.out _).mono ?_
            rintro e W2 ⟨rfl, f2⟩
            have F2 := Lib.hid f2
            clear f2)
          go_ret2
          refine ⟨-((n : Int) - 1) - 1, true, rfl, fun _ => ?_, fun h => (by cases h), F2.out⟩
          rw [HS0.out, show -((n : Int) - 1) - 1 = -(n : Int) by omega]
          exact HY.out
        case neg =>
          have g3 : ((45 :: z : List UInt8) == 45 :: d) = false := by rw [beq_eq_false_iff_ne]; intro e; injection e with _ e; exact h3 e
          have g3' : (z == d) = false := beq_eq_false_iff_ne.2 h3
          have HNO : Hid (¬ (0 < n ∧ n ≤ 9223372036854775808 ∧ Lib.decDigits n = d)) := Lib.hid (fun h => h3 (by rw [← HZ.out]; exact h.2.2))
          clear h3
          go_wp2_with (
            go_at_call 54
            refine (DG.out _).mono ?_
            rintro e W2 ⟨rfl, f2⟩
            have F2 := Lib.hid f2
            clear f2)
          go_ret2
          refine ⟨_, false, rfl, fun h => (by cases h), fun _ => ?_, F2.out⟩
          rw [HS0.out]
          refine minus_no (fun m hm h => ?_)
          rw [HV.out] at hm
          injection hm with hm
          subst hm
          exact HNO.out h

  case neg =>
    have HC : Hid (c ≠ 45) := Lib.hid (fun e => h45 (by rw [← HX.out, e]; rfl))
    have HS0 : Hid (s = c :: s.drop 1) := Lib.hid hdr0
    have m0 : ((x : Int) == 45) = false := beq_eq_false_iff_ne.2 (by omega)
    clear hdr0 h45
    go_enter Tryd.func44, Tryd.ntmps44
    go_wp2_with fail
    go_loopw [6, 7] (fun nv iv W => ∃ n i : Nat, i ≤ s.length ∧ n < 18446744073709551616 ∧ nv = .int .u64 (n : Int) ∧ iv = .int .i64 (i : Int) ∧ Hid (rnum 0 s = rnum n (s.drop i)) ∧ w = W) (fun _ iv _ => s.length - (intOf iv).toNat)
    case atStart => exact ⟨0, 0, Nat.zero_le _, by omega, rfl, rfl, Lib.hid (by rw [List.drop_zero]), rfl⟩
    case round =>
      obtain ⟨n, i, hi, hn, rfl, rfl, HW, rfl⟩ := hrel
      by_cases hlt : i < s.length
      case pos =>
        have hdl : decide ((i : Int) < (s.length : Int)) = true := decide_eq_true (by omega)
        have hdl' : decide (i < s.length) = true := decide_eq_true hlt
        have hix := fun W => run_index_str W s i hlt
        have hdr := List.drop_eq_getElem_cons hlt
        have hcl := u8_lt s[i]
        obtain ⟨b, hb⟩ : ∃ b, s[i] = b := ⟨_, rfl⟩
        rw [hb] at hix hdr hcl
        have DC := Lib.hid (fun W => rdigit_c W b.toNat hcl)
        have hdn := dgt_n b
        obtain ⟨y, hy⟩ : ∃ y, b.toNat = y := ⟨_, rfl⟩
        rw [hy] at hix DC hdn hcl
        have HDR := Lib.hid hdr
        have HDN := Lib.hid hdn
        have HY := Lib.hid hy
        clear hb hdr hdn hy
        cases hd : dgtN y with
        | false =>
          rw [hd] at DC HDN
          have HN : Hid (rnum 0 s = none) := Lib.hid (by rw [HW.out, HDR.out, rnum_no (.inl HDN.out)])
          clear hd
          go_wp2_with (
            go_at_call 43
            refine (DC.out _).mono ?_
            rintro e w' ⟨rfl, rfl⟩)
          go_ret2
          refine ⟨0, false, rfl, fun h => (by cases h), fun _ => ?_, Fr.refl _ _⟩
          rw [HS0.out]
          exact plus_no HC.out (fun m hm => by rw [← HS0.out, HN.out] at hm; cases hm)
        | true =>
          rw [hd] at DC HDN
          have hy2 : 48 ≤ y ∧ y ≤ 57 := by
            unfold dgtN at hd
            simp at hd
            exact hd
          clear hd
          by_cases hbig : n ≤ 4611686018427387904
          case neg =>
            have e1 : decide ((4611686018427387904 : Int) < (n : Int)) = true := decide_eq_true (by omega)
            have e1' : decide (4611686018427387904 < n) = true := decide_eq_true (by omega)
            have HN : Hid (rnum 0 s = none) := Lib.hid (by rw [HW.out, HDR.out, rnum_no (.inr hbig)])
            clear hbig
            go_wp2_with (
              go_at_call 43
              refine (DC.out _).mono ?_
              rintro e w' ⟨rfl, rfl⟩)
            go_ret2
            refine ⟨0, false, rfl, fun h => (by cases h), fun _ => ?_, Fr.refl _ _⟩
            rw [HS0.out]
            exact plus_no HC.out (fun m hm => by rw [← HS0.out, HN.out] at hm; cases hm)
          case pos =>
            have e1 : decide ((4611686018427387904 : Int) < (n : Int)) = false := decide_eq_false (by omega)
            have e1' : decide (4611686018427387904 < n) = false := decide_eq_false (by omega)
            obtain ⟨t, ht⟩ : ∃ t, y - 48 = t := ⟨_, rfl⟩
            obtain ⟨p, hp⟩ : ∃ p, 10 * n % 18446744073709551616 = p := ⟨_, rfl⟩
            obtain ⟨q, hq⟩ : ∃ q, (p + t) % 18446744073709551616 = q := ⟨_, rfl⟩
            have HS : Hid (rnum 0 s = rnum q (s.drop (i + 1))) := Lib.hid (by rw [HW.out, HDR.out, rnum_step HDN.out hbig, HY.out, ht, hp, hq])
            have ti : (y : Int) - 48 = (t : Int) := by omega
            have pi : IntKind.u64.wrap (10 * (n : Int)) = (p : Int) := by
              show (10 * (n : Int)) % 18446744073709551616 = _
              omega
            have qi : IntKind.u64.wrap ((p : Int) + (t : Int)) = (q : Int) := by
              show ((p : Int) + (t : Int)) % 18446744073709551616 = _
              omega
            have wi : IntKind.u8.wrap ((y : Int) - 48) = (t : Int) := by
              show ((y : Int) - 48) % 256 = _
              omega
            have ui : IntKind.u64.wrap (t : Int) = (t : Int) := by
              show (t : Int) % 18446744073709551616 = _
              omega
            have hq2 : q < 18446744073709551616 := by omega
            have ht9 : t ≤ 9 := by omega
            clear hbig ht hp hq
            go_wp2_with (
              go_at_call 43
              refine (DC.out _).mono ?_
              rintro e w' ⟨rfl, rfl⟩)
            go_roundw
            case rel => exact ⟨q, i + 1, by omega, hq2, by go_num, by go_num, HS.out, trivial⟩
            case measure => simp [intOf]; omega
      case neg =>
        obtain rfl : i = s.length := by omega
        have hdl : decide ((s.length : Int) < (s.length : Int)) = false := decide_eq_false (by omega)
        have hdl' : decide (s.length < s.length) = false := decide_eq_false (by omega)
        have HV : Hid (rnum 0 s = some n) := Lib.hid (by rw [HW.out, List.drop_length]; rfl)
        have DG := Lib.hid (fun W => rdigits_c n W hn)
        have hdgl := dec_len n hn
        obtain ⟨z, hz⟩ : ∃ z, Lib.decDigits n = z := ⟨_, rfl⟩
        rw [hz] at DG hdgl
        have HZ := Lib.hid hz
        clear hz
        by_cases h1 : n < 9223372036854775808
        case neg =>
          have g1 : decide ((n : Int) < 9223372036854775808) = false := decide_eq_false (by omega)
          have g1' : decide (n < 9223372036854775808) = false := decide_eq_false h1
          have HNO : Hid (¬ (n < 9223372036854775808 ∧ Lib.decDigits n = s)) := Lib.hid (fun h => h1 h.1)
          clear h1
          go_wp2_with fail
          go_ret2
          refine ⟨_, false, rfl, fun h => (by cases h), fun _ => ?_, Fr.refl _ _⟩
          rw [HS0.out]
          refine plus_no HC.out (fun m hm h => ?_)
          rw [← HS0.out, HV.out] at hm
          injection hm with hm
          subst hm
          rw [← HS0.out] at h
          exact HNO.out h
        case pos =>
        have g1 : decide ((n : Int) < 9223372036854775808) = true := decide_eq_true (by omega)
        have g1' : decide (n < 9223372036854775808) = true := decide_eq_true h1
        have c2 : IntKind.i64.wrap (n : Int) = (n : Int) := IntWalk.i64_in _ (by omega)
        have hst : (strOf s).toList = s := strOf_toList s
        have hzt : (strOf z).toList = z := strOf_toList z
        by_cases h3 : z = s
        case pos =>
          have g3 : (z == s) = true := by rw [h3]; simp
          have HY : Hid (NumIs s (n : Int)) := Lib.hid (plus_is h1 (by rw [HZ.out, h3]))
          clear h3
          go_wp2_with (
            go_at_call 54
            refine (DG.out _).mono ?_
            rintro e W2 ⟨rfl, f2⟩
            have F2 := Lib.hid f2
            clear f2)
          go_ret2
          exact ⟨(n : Int), true, rfl, fun _ => HY.out, fun h => (by cases h), F2.out⟩
        case neg =>
          have g3 : (z == s) = false := beq_eq_false_iff_ne.2 h3
          have HNO : Hid (¬ (n < 9223372036854775808 ∧ Lib.decDigits n = s)) := Lib.hid (fun h => h3 (by rw [← HZ.out]; exact h.2))
          clear h3
          go_wp2_with (
            go_at_call 54
            refine (DG.out _).mono ?_
            rintro e W2 ⟨rfl, f2⟩
            have F2 := Lib.hid f2
            clear f2)
          go_ret2
          refine ⟨_, false, rfl, fun h => (by cases h), fun _ => ?_, F2.out⟩
          rw [HS0.out]
          refine plus_no HC.out (fun m hm h => ?_)
          rw [← HS0.out, HV.out] at hm
          injection hm with hm
          subst hm
          rw [← HS0.out] at h
          exact HNO.out h

end Go.Proofs.YtimopkmlcjdgfaaDoor
