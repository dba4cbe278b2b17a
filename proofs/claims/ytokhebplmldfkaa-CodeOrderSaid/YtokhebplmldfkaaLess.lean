/-
  THE CONTRACT of tidewracklaw02.less: bytes, byte by byte; and the order of encodings (plain).
-/
import Derived.Test.YtokhebplmldfkaaRm
import Derived.Test.YtokhebplmldfkaaCodeQ
namespace Go.Proofs.Ytokhebplmldfkaa
set_option linter.unusedSimpArgs false
set_option linter.unusedVariables false
open Go Go.RowKit

def lexLt : List UInt8 → List UInt8 → Bool
  | [], [] => false
  | [], _ :: _ => true
  | _ :: _, [] => false
  | a :: l, b :: m => if a = b then lexLt l m else decide (a.toNat < b.toNat)
theorem lexLt_cancel (p l m : List UInt8) : lexLt (p ++ l) (p ++ m) = lexLt l m := by
  induction p with
  | nil => rfl
  | cons a p ih => simp [lexLt, ih]
theorem lexLt_nil (l : List UInt8) : lexLt [] l = decide (l ≠ []) ∧ lexLt l [] = false := by cases l <;> simp [lexLt]
/-- Where two rows part first. -/
theorem lexLt_at (l m : List UInt8) (i : Nat) (h : l.take i = m.take i) (hl : i < l.length) (hm : i < m.length) (hne : l[i] ≠ m[i]) : lexLt l m = decide ((l[i]).toNat < (m[i]).toNat) := by
  have e1 : l = l.take i ++ l[i] :: l.drop (i + 1) := by rw [List.getElem_cons_drop, List.take_append_drop]
  have e2 : m = l.take i ++ m[i] :: m.drop (i + 1) := by rw [h, List.getElem_cons_drop, List.take_append_drop]
  conv => lhs; rw [e1, e2]
  rw [lexLt_cancel, lexLt, if_neg hne]
theorem lexLt_end (l m : List UInt8) (i : Nat) (h : l.take i = m.take i) (hi : i = l.length ∨ i = m.length) (hl : i ≤ l.length) (hm : i ≤ m.length) : lexLt l m = decide (l.length < m.length) := by
  have e1 : l = l.take i ++ l.drop i := (List.take_append_drop i l).symm
  have e2 : m = l.take i ++ m.drop i := by rw [h, List.take_append_drop]
  conv => lhs; rw [e1, e2]
  rw [lexLt_cancel]
  rcases hi with hi | hi
  · rw [List.drop_of_length_le (by omega), (lexLt_nil _).1]
    congr 1
    rw [eq_iff_iff, ne_eq, List.drop_eq_nil_iff]
    omega
  · rw [List.drop_of_length_le (l := m) (by omega), (lexLt_nil _).2]
    symm
    rw [decide_eq_false_iff_not]
    omega

theorem need_low (x : Nat) (h : need x ≠ 0) : 256 ^ (need x - 1) ≤ x := by
  revert h
  unfold need
  (repeat' split) <;> simp <;> omega
theorem need_mono (x y : Nat) (h : x < y) (hy : y < 18446744073709551616) : need x ≤ need y := by
  rcases Nat.lt_or_ge (need y) (need x) with h1 | h1
  · have h2 := need_low x (by omega)
    have h3 := need_pow y hy
    have h4 := pow256_mono (show need y ≤ need x - 1 by omega)
    omega
  · exact h1
theorem be_lt : ∀ (n x y : Nat), x < y → y < 256 ^ n → ∀ r s, lexLt (be n x ++ r) (be n y ++ s) = true ∧ lexLt (be n y ++ s) (be n x ++ r) = false
  | 0, x, y, h, hy, _, _ => by simp at hy; omega
  | n + 1, x, y, h, hy, r, s => by
    rw [be, be, List.append_assoc, List.append_assoc]
    have hd : x / 256 ≤ y / 256 := Nat.div_le_div_right (by omega)
    rcases Nat.lt_or_ge (x / 256) (y / 256) with h1 | h1
    · exact be_lt n _ _ h1 (by rw [Nat.pow_succ] at hy; omega) _ _
    · have h2 : x / 256 = y / 256 := by omega
      rw [h2, lexLt_cancel, lexLt_cancel]
      have hne : by8 x ≠ by8 y := fun e => by have := congrArg UInt8.toNat e; rw [by8_toNat, by8_toNat] at this; omega
      simp only [List.cons_append, List.nil_append, lexLt, if_neg hne, if_neg (Ne.symm hne), by8_toNat, decide_eq_true_eq, decide_eq_false_iff_not]
      omega
/-- The encodings stand in the order of the numbers, whatever stands behind. -/
theorem enc_lt (x y : Nat) (h : x < y) (hy : y < 18446744073709551616) (r s : List UInt8) : lexLt (enc x ++ r) (enc y ++ s) = true ∧ lexLt (enc y ++ s) (enc x ++ r) = false := by
  have hnx := need_le x
  have hny := need_le y
  have hm := need_mono x y h hy
  have h1n : ∀ z, ¬ z ≤ 247 → need z ≠ 0 := fun z hz => by unfold need; (repeat' split) <;> omega
  unfold enc
  by_cases h1 : y ≤ 247
  · rw [if_pos h1, if_pos (by omega)]
    have hne : by8 x ≠ by8 y := fun e => by have := congrArg UInt8.toNat e; rw [by8_toNat, by8_toNat] at this; omega
    simp only [List.cons_append, List.nil_append, lexLt, if_neg hne, if_neg (Ne.symm hne), by8_toNat, decide_eq_true_eq, decide_eq_false_iff_not]
    omega
  · have := h1n y h1
    rw [if_neg h1]
    by_cases h2 : x ≤ 247
    · rw [if_pos h2]
      have hne : by8 x ≠ by8 (247 + need y) := fun e => by have := congrArg UInt8.toNat e; rw [by8_toNat, by8_toNat] at this; omega
      simp only [List.cons_append, List.nil_append, lexLt, if_neg hne, if_neg (Ne.symm hne), by8_toNat, decide_eq_true_eq, decide_eq_false_iff_not]
      omega
    · have := h1n x h2
      rw [if_neg h2]
      by_cases h3 : need x = need y
      · rw [h3]
        simp only [List.cons_append, lexLt, if_true]
        exact be_lt _ _ _ h (need_pow y hy) _ _
      · have hne : by8 (247 + need x) ≠ by8 (247 + need y) := fun e => by have := congrArg UInt8.toNat e; rw [by8_toNat, by8_toNat] at this; omega
        simp only [List.cons_append, lexLt, if_neg hne, if_neg (Ne.symm hne), by8_toNat, decide_eq_true_eq, decide_eq_false_iff_not]
        omega
theorem encs_append (l m : List Nat) : encs (l ++ m) = encs l ++ encs m := by simp [encs]
theorem enc_ne (x : Nat) : enc x ≠ [] := by unfold enc; split <;> simp
theorem encs_nil (l : List Nat) : encs l = [] ↔ l = [] := by
  cases l with
  | nil => simp [encs]
  | cons x l => simp [encs, enc_ne]

/-- What less answers. -/
def LessOut (l m : List UInt8) (w : World) (e : Ending) (w' : World) : Prop := e = .returned (.bool (lexLt l m)) ∧ ∃ n, w' = w.drewN n

set_option maxHeartbeats 1000000 in
theorem less_c (w : World) (A B : Option Addr) (n k c d : Nat) (l m : List UInt8) (ha : Rd w A n (bv l)) (hb : Rd w B k (bv m)) (hn : n ≤ 140737488355328) (hk : k ≤ 140737488355328) :
    Calls Try.prog 27 #[.slice A n c, .slice B k d] w (LessOut l m w) := by
  have hln : l.length = n := by rw [← ha.1, bv_length]
  have hlk : m.length = k := by rw [← hb.1, bv_length]
  by_cases hz : n = 0 ∨ k = 0
  · have hend := lexLt_end l m 0 rfl (by omega) (by omega) (by omega)
    have HE := Lib.hid hend
    have HLN := Lib.hid hln
    have HLK := Lib.hid hlk
    clear hend ha hb hln hlk
    have hz1 : (decide ((0 : Int) < (n : Int)) && decide ((0 : Int) < (k : Int))) = false := by rcases hz with rfl | rfl <;> simp
    rcases hz with rfl | rfl
    · go_enter Try.func27, Try.ntmps27
      go_wp2_with fail
      go_loop [5] (fun i => i = .int .i64 0) (fun _ => 0)
      case atStart => rfl
      case round =>
        subst hrel
        go_wp2
        go_ret
        refine ⟨?_, 0, rfl⟩
        rw [HE.out, HLN.out, HLK.out]
        rfl
    · by_cases hn0 : n = 0
      · subst hn0
        go_enter Try.func27, Try.ntmps27
        go_wp2_with fail
        go_loop [5] (fun i => i = .int .i64 0) (fun _ => 0)
        case atStart => rfl
        case round =>
          subst hrel
          go_wp2
          go_ret
          refine ⟨?_, 0, rfl⟩
          rw [HE.out, HLN.out, HLK.out]
          rfl
      · have hn1 : (0 : Int) < (n : Int) := by omega
        go_enter Try.func27, Try.ntmps27
        go_wp2_with fail
        go_loop [5] (fun i => i = .int .i64 0) (fun _ => 0)
        case atStart => rfl
        case round =>
          subst hrel
          go_wp2
          go_ret
          refine ⟨?_, 0, rfl⟩
          rw [HE.out, HLN.out, HLK.out]
          rfl
  · obtain ⟨b1, o1, rfl, _⟩ := ha.lit (by omega)
    obtain ⟨b2, o2, rfl, _⟩ := hb.lit (by omega)
    have HA := Lib.hid ha
    have HB := Lib.hid hb
    have HLN := Lib.hid hln
    have HLK := Lib.hid hlk
    clear ha hb hln hlk hz
    go_enter Try.func27, Try.ntmps27
    go_wp2_with fail
    go_loopw [5] (fun i wr => ∃ t : Nat, t ≤ n ∧ t ≤ k ∧ i = .int .i64 t ∧ Hid (∃ q, wr = w.drewN q) ∧ Hid (l.take t = m.take t)) (fun i _ => n - (intOf i).toNat)
    case atStart => exact ⟨0, Nat.zero_le _, Nat.zero_le _, rfl, ⟨0, rfl⟩, rfl⟩
    case round =>
      obtain ⟨t, ht, hk2, rfl, hq, hpre⟩ := hrel
      by_cases h1 : t < n
      · by_cases h2 : t < k
        · have c1 : wr.cell? ⟨b1, o1 + t, none⟩ = (bv l)[t]? := by obtain ⟨q, e⟩ := hq.out; rw [e]; exact HA.out.cell h1
          rw [bv_get _ _ (by rw [HLN.out]; exact h1)] at c1
          have c2 : wr.cell? ⟨b2, o2 + t, none⟩ = (bv m)[t]? := by obtain ⟨q, e⟩ := hq.out; rw [e]; exact HB.out.cell h2
          rw [bv_get _ _ (by rw [HLK.out]; exact h2)] at c2
          obtain ⟨x, hx⟩ : ∃ x, x = l[t]'(by rw [HLN.out]; exact h1) := ⟨_, rfl⟩
          obtain ⟨y, hy⟩ : ∃ y, y = m[t]'(by rw [HLK.out]; exact h2) := ⟨_, rfl⟩
          rw [← hx] at c1
          rw [← hy] at c2
          have HX := Lib.hid hx
          have HY := Lib.hid hy
          clear hx hy
          by_cases hxy : x = y
          · have hb0 : (((x.toNat : Nat) : Int) != ((y.toNat : Nat) : Int)) = false := by rw [hxy]; exact bne_self_eq_false _
            have HXY := Lib.hid hxy
            clear hxy
            go_wp2_with fail
            go_quiet (fail)
            go_wp2_with fail
            refine ⟨⟨t + 1, h1, h2, by go_num, ?_, ?_⟩, by simp [intOf]; omega⟩
            · obtain ⟨q, e⟩ := hq.out
              exact ⟨q + nq, by rw [e, World.drewN_drewN]⟩
            · show l.take (t + 1) = m.take (t + 1)
              rw [List.take_succ_eq_append_getElem (by rw [HLN.out]; exact h1), List.take_succ_eq_append_getElem (by rw [HLK.out]; exact h2), hpre.out, ← HX.out, ← HY.out, HXY.out]
          · have hb0 : (((x.toNat : Nat) : Int) != ((y.toNat : Nat) : Int)) = true := by
              rw [bne_iff_ne]
              intro e
              exact hxy (UInt8.toNat_inj.1 (by omega))
            have HXY := Lib.hid hxy
            clear hxy
            go_wp2_with fail
            go_quiet (fail)
            go_wp2_with fail
            go_quiet (fail)
            go_wp2_with fail
            go_ret
            refine ⟨?_, ?_⟩
            · rw [lexLt_at l m t hpre.out (by rw [HLN.out]; exact h1) (by rw [HLK.out]; exact h2) (by rw [← HX.out, ← HY.out]; exact HXY.out), ← HX.out, ← HY.out]
              rfl
            · obtain ⟨q, e⟩ := hq.out
              rw [e]
              simp only [World.drewN_drewN]
              exact ⟨_, rfl⟩
        · have hend := lexLt_end l m t hpre.out (by rw [HLN.out, HLK.out]; omega) (by rw [HLN.out]; omega) (by rw [HLK.out]; omega)
          have HE := Lib.hid hend
          clear hend
          go_wp2
          go_ret
          refine ⟨?_, hq.out⟩
          rw [HE.out, HLN.out, HLK.out]
          rfl
      · have hend := lexLt_end l m t hpre.out (by rw [HLN.out, HLK.out]; omega) (by rw [HLN.out]; omega) (by rw [HLK.out]; omega)
        have HE := Lib.hid hend
        clear hend
        go_wp2
        go_ret
        refine ⟨?_, hq.out⟩
        rw [HE.out, HLN.out, HLK.out]
        rfl
end Go.Proofs.Ytokhebplmldfkaa
