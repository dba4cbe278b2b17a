/-
  CONTRACTS of code.Reader's inner calls: big, number.
-/
import Derived.Test.YtokhebplmldfkaaRd2
namespace Go.Proofs.Ytokhebplmldfkaa
set_option linter.unusedSimpArgs false
set_option linter.unusedVariables false
open Go Go.RowKit

theorem or_byte (a c : Nat) (ha : a < 72057594037927936) (hc : c < 256) : bits .or .u64 ((a : Int) * 256) (c : Int) = ((a * 256 + c : Nat) : Int) := by
  have e : ((a : Int) * 256) = ((a * 256 : Nat) : Int) := by omega
  rw [e, u64_or_nat _ _ (by omega) (by omega), nat_join 8 (a * 256) c (by omega) (by omega)]
theorem pow256_mono {a b : Nat} (h : a ≤ b) : 256 ^ a ≤ 256 ^ b := Nat.pow_le_pow_right (by omega) h

/-- What big leaves where there are n bytes. -/
def BigOk (w : World) (b : Nat) (v : Value) (l : List UInt8) (p n : Nat) (e : Ending) (w' : World) : Prop :=
  e = .returned (.int .u64 (num ((l.drop p).take n))) ∧ Rr w' b v l (p + n) false ∧ Fr (fun k => k = b) w w'

set_option maxHeartbeats 400000 in
theorem big_ok (w : World) (b : Nat) (v : Value) (l : List UInt8) (p : Nat) (n : Int) (h : Rr w b v l p false) (h0 : 0 ≤ n) (h8 : n ≤ 8) (hn : n ≤ (l.length - p : Nat)) :
    Calls Try.prog 58 #[.pointer (some ⟨b, 0, none⟩), .int .u64 n] w (BigOk w b v l p n.toNat) := by
  obtain ⟨N, rfl⟩ : ∃ N : Nat, n = N := ⟨n.toNat, by omega⟩
  rw [Int.toNat_natCast]
  have H := Lib.hid h
  clear h
  go_enter Try.func58, Try.ntmps58
  go_wp2_with fail
  refine (next_ok w b v l p N H.out h0 hn).mono ?_
  rintro e w1 ⟨A, c, rfl, h1, r1, f1⟩
  rw [Int.toNat_natCast] at h1 r1 ⊢
  have H1 := Lib.hid h1
  have R1 := Lib.hid r1
  have F1 := Lib.hid f1
  clear h1 r1 f1 H
  generalize hm : (l.drop p).take N = m at *
  have hml : m.length = N := by have := R1.out.1; rwa [bv_length] at this
  have HM := Lib.hid hm
  clear hm
  rcases Nat.eq_zero_or_pos N with hz | hpos
  · subst hz
    have hm0 : m = [] := List.eq_nil_of_length_eq_zero hml
    subst hm0
    clear hml
    go_wp2_with fail
    go_loop [11, 4] (fun i x => i = .int .i64 0 ∧ x = .int .u64 0) (fun _ _ => 0)
    case atStart => exact ⟨rfl, rfl⟩
    case round =>
      obtain ⟨rfl, rfl⟩ := hrel
      go_wp2
      go_ret
      exact ⟨by rw [HM.out]; rfl, H1.out, F1.out⟩
  · obtain ⟨bb, off, rfl, hc⟩ := R1.out.lit hpos
    have HC := Lib.hid hc
    have HL := Lib.hid hml
    clear hc hml
    go_wp2_with fail
    go_loop [11, 4] (fun i x => ∃ k : Nat, k ≤ N ∧ i = .int .i64 k ∧ x = .int .u64 (num (m.take k))) (fun i _ => N - (intOf i).toNat)
    case atStart => exact ⟨0, Nat.zero_le _, rfl, rfl⟩
    case round =>
      obtain ⟨k, hk, rfl, rfl⟩ := hrel
      by_cases hlt : k < N
      · have c0 := HC.out k hlt
        rw [bv_get _ _ (by rw [HL.out]; exact hlt)] at c0
        have b0 := (m[k]'(by rw [HL.out]; exact hlt)).toNat_lt
        have b1 := num_lt (m.take k)
        have b2 : num (m.take k) < 72057594037927936 := Nat.lt_of_lt_of_le b1 (by rw [List.length_take]; exact pow256_mono (b := 7) (by omega))
        clear b1
        go_wp2
        refine ⟨⟨k + 1, hlt, by go_num, ?_⟩, by simp [intOf]; omega⟩
        rw [or_byte _ _ b2 (by omega), List.take_succ_eq_append_getElem (by rw [HL.out]; exact hlt), num_snoc]
      · obtain rfl : k = N := by omega
        go_wp2
        go_ret
        refine ⟨?_, H1.out, F1.out⟩
        rw [HM.out, List.take_of_length_le (by rw [HL.out]; exact Nat.le_refl _)]
        rfl

/-- What big leaves where there are not. -/
def BigNo (w : World) (b : Nat) (v : Value) (l : List UInt8) (p : Nat) (e : Ending) (w' : World) : Prop :=
  e = .returned (.int .u64 0) ∧ Rr w' b v l p true ∧ Fr (fun k => k = b) w w'

set_option maxHeartbeats 400000 in
theorem big_no (w : World) (b : Nat) (v : Value) (l : List UInt8) (p : Nat) (n : Int) (h : Rr w b v l p false) (h0 : 0 ≤ n) (hn : (l.length - p : Nat) < n) :
    Calls Try.prog 58 #[.pointer (some ⟨b, 0, none⟩), .int .u64 n] w (BigNo w b v l p) := by
  have H := Lib.hid h
  clear h
  go_enter Try.func58, Try.ntmps58
  go_wp2_with fail
  refine (next_no w b v l p n H.out h0 hn).mono ?_
  rintro e w1 ⟨rfl, h1, f1⟩
  have H1 := Lib.hid h1
  have F1 := Lib.hid f1
  clear h1 f1 H
  go_wp2_with fail
  go_loop [11, 4] (fun i x => i = .int .i64 0 ∧ x = .int .u64 0) (fun _ _ => 0)
  case atStart => exact ⟨rfl, rfl⟩
  case round =>
    obtain ⟨rfl, rfl⟩ := hrel
    go_wp2
    go_ret
    exact ⟨rfl, H1.out, F1.out⟩

/-- What number reads: the number, and how many bytes it has; or nothing. -/
def rdNum (m : List UInt8) : Option (Nat × Nat) :=
  match m with
  | [] => none
  | c :: r =>
    if c.toNat ≤ 247 then some (c.toNat, 1)
    else if r.length < c.toNat - 247 then none
    else if size (num (r.take (c.toNat - 247))) = c.toNat - 247 + 1 then some (num (r.take (c.toNat - 247)), c.toNat - 247 + 1) else none

/-- What number leaves: its value where it is one; else a fault (the place may be anywhere behind). -/
def NumPost (w : World) (b : Nat) (v : Value) (l : List UInt8) (p : Nat) (e : Ending) (w' : World) : Prop :=
  Fr (fun k => k = b) w w' ∧
  match rdNum (l.drop p) with
  | some (x, n) => e = .returned (.int .u64 x) ∧ Rr w' b v l (p + n) false
  | none => ∃ (x : Nat) (q : Nat), e = .returned (.int .u64 x) ∧ x ≤ 18446744073709551615 ∧ Rr w' b v l q true

set_option maxRecDepth 100000 in
set_option maxHeartbeats 800000 in
theorem number_c (w : World) (b : Nat) (v : Value) (l : List UInt8) (p : Nat) (h : Rr w b v l p false) :
    Calls Try.prog 52 #[.pointer (some ⟨b, 0, none⟩)] w (NumPost w b v l p) := by
  have hp := h.2.2.1
  have H := Lib.hid h
  clear h
  by_cases h1 : l.length - p = 0
  · go_enter Try.func52, Try.ntmps52
    go_wp2_with fail
    refine (big_no w b v l p 1 H.out (by omega) (by omega)).mono ?_
    rintro e w1 ⟨rfl, h1, f1⟩
    have H1 := Lib.hid h1
    have F1 := Lib.hid f1
    clear h1 f1 H
    go_wp2_with fail
    go_ret
    refine ⟨F1.out, ?_⟩
    rw [List.drop_of_length_le (by omega)]
    exact ⟨0, p, rfl, by omega, H1.out⟩
  · obtain ⟨c, r, hcr⟩ : ∃ c r, l.drop p = c :: r := by
      cases hd : l.drop p with
      | nil => have := congrArg List.length hd; simp at this; omega
      | cons c r => exact ⟨c, r, rfl⟩
    have hrl : r.length + 1 = l.length - p := by have := congrArg List.length hcr; simpa using this.symm
    have hc := c.toNat_lt
    have hr1 : l.drop (p + 1) = r := by rw [← List.drop_drop, hcr]; rfl
    have hn1 : num ((l.drop p).take 1) = c.toNat := by rw [hcr]; simp [num]
    have HRL := Lib.hid hrl
    have HCR := Lib.hid hcr
    have HR1 := Lib.hid hr1
    have HN1 := Lib.hid hn1
    clear hcr hr1 hn1 hrl
    go_enter Try.func52, Try.ntmps52
    go_wp2_with fail
    refine (big_ok w b v l p 1 H.out (by omega) (by omega) (by omega)).mono ?_
    rintro e w1 ⟨rfl, h1, f1⟩
    simp only [Int.toNat_one] at h1 ⊢
    rw [HN1.out]
    have H1 := Lib.hid h1
    have F1 := Lib.hid f1
    clear h1 f1 H HN1
    by_cases hs : c.toNat ≤ 247
    · go_wp2_with fail
      go_ret
      refine ⟨F1.out, ?_⟩
      rw [HCR.out]
      simp only [rdNum, if_pos hs]
      exact ⟨rfl, H1.out⟩
    · by_cases hlen : r.length < c.toNat - 247
      · have hlen2 : ((l.length - (p + 1) : Nat) : Int) < (c.toNat : Int) - 247 := by have := HRL.out; omega
        have HLEN2 := Lib.hid hlen2
        have HLEN := Lib.hid hlen
        clear hlen2 hlen
        go_wp2_with fail
        refine (big_no w1 b v l (p + 1) _ H1.out (by omega) HLEN2.out).mono ?_
        rintro e w2 ⟨rfl, h2, f2⟩
        have c2 := h2.1.cell 2
        have k2 := h2.1.frozen 2
        have hb2 := Lib.hid h2.1
        have H2 := Lib.hid h2
        have F2 := Lib.hid f2
        clear h2 f2
        go_wp2_with fail
        go_ret
        refine ⟨(F1.out.trans F2.out (fun _ _ h => h)).setCell (fun _ => rfl) _, ?_⟩
        rw [HCR.out]
        simp only [rdNum, if_neg hs, if_pos HLEN.out]
        refine ⟨0, p + 1, rfl, by omega, ?_, ?_, H2.out.2.2⟩
        · have := hb2.out.set_ 2 (.bool true)
          simpa using this
        · exact own_fr H2.out.2.1 ((Fr.refl (fun k => k = b) _).setCell (fun _ => rfl) _) (fun k hk e => H2.out.ne (by rw [hk, e]))
      · have hlen2 : (c.toNat : Int) - 247 ≤ ((l.length - (p + 1) : Nat) : Int) := by have := HRL.out; omega
        have HLEN2 := Lib.hid hlen2
        clear hlen2
        go_wp2_with fail
        refine (big_ok w1 b v l (p + 1) _ H1.out (by omega) (by omega) HLEN2.out).mono ?_
        rintro e w2 ⟨rfl, h2, f2⟩
        rw [HR1.out, show ((c.toNat : Int) - 247).toNat = c.toNat - 247 by omega] at *
        have hx := num_lt (r.take (c.toNat - 247))
        have hx2 : num (r.take (c.toNat - 247)) < 18446744073709551616 := Nat.lt_of_lt_of_le hx (by rw [List.length_take]; exact pow256_mono (b := 8) (by omega))
        clear hx
        generalize hX : num (r.take (c.toNat - 247)) = X at *
        have HX := Lib.hid hX
        clear hX
        have c2 := h2.1.cell 2
        have k2 := h2.1.frozen 2
        have hb2 := Lib.hid h2.1
        have H2 := Lib.hid h2
        have F2 := Lib.hid f2
        have hsl := size_le X
        clear h2 f2
        go_wp2_with fail
        refine (size_c _ _ (by omega) (by omega)).mono ?_
        rintro e w3 ⟨rfl, rfl⟩
        rw [Int.toNat_natCast]
        by_cases hsz : size X = c.toNat - 247 + 1
        · have hz : (((size X : Nat) : Int) != (c.toNat : Int) - 247 + 1) = false := by rw [bne_eq_false_iff_eq]; omega
          have HSZ := Lib.hid hsz
          clear hsz
          go_wp2_with fail
          go_ret
          refine ⟨(F1.out.trans F2.out (fun _ _ h => h)).setCell (fun _ => rfl) _, ?_⟩
          rw [HCR.out]
          simp only [rdNum, if_neg hs, if_neg hlen, HX.out, if_pos HSZ.out]
          refine ⟨rfl, ?_, ?_, by have := H2.out.2.2.1; omega, H2.out.2.2.2⟩
          · have := hb2.out.set_ 2 (.bool false)
            rw [show p + (c.toNat - 247 + 1) = p + 1 + (c.toNat - 247) by omega]
            simpa using this
          · exact own_fr H2.out.2.1 ((Fr.refl (fun k => k = b) _).setCell (fun _ => rfl) _) (fun k hk e => H2.out.ne (by rw [hk, e]))
        · have hz : (((size X : Nat) : Int) != (c.toNat : Int) - 247 + 1) = true := by rw [bne_iff_ne]; omega
          go_wp2_with fail
          go_ret
          refine ⟨(F1.out.trans F2.out (fun _ _ h => h)).setCell (fun _ => rfl) _, ?_⟩
          rw [HCR.out]
          simp only [rdNum, if_neg hs, if_neg hlen, HX.out, if_neg hsz]
          refine ⟨X, p + 1 + (c.toNat - 247), rfl, by omega, ?_, ?_, H2.out.2.2⟩
          · have := hb2.out.set_ 2 (.bool true)
            simpa using this
          · exact own_fr H2.out.2.1 ((Fr.refl (fun k => k = b) _).setCell (fun _ => rfl) _) (fun k hk e => H2.out.ne (by rw [hk, e]))
end Go.Proofs.Ytokhebplmldfkaa
