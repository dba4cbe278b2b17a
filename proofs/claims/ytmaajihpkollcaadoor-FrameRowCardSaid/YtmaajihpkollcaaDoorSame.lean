/-
  CONTRACTS of the reference's Same.
-/
import Derived.Test.YtmaajihpkollcaaDoorFr4
import Derived.Test.YtmaajihpkollcaaDoorRck
namespace Go.Proofs.YtmaajihpkollcaaDoor
set_option linter.unusedSimpArgs false
set_option linter.unusedVariables false
open Go Go.RowKit

theorem take_succ_eq (l m : List (List UInt8)) (k : Nat) (h1 : k < l.length) (h2 : k < m.length) : (l.take (k + 1) = m.take (k + 1)) ↔ (l.take k = m.take k ∧ l[k] = m[k]) := by
  rw [List.take_succ_eq_append_getElem h1, List.take_succ_eq_append_getElem h2]
  constructor
  · intro h
    have := List.append_inj h (by simp; omega)
    exact ⟨this.1, by simpa using this.2⟩
  · rintro ⟨h3, h4⟩
    rw [h3, h4]

set_option maxHeartbeats 1000000 in
theorem same_c (w : World) (A : Option Addr) (n c : Nat) (ls : List (List UInt8)) (hr : RdB w A n ls) (hn : n ≤ 9223372036854775807) (B : Option Addr) (m d : Nat) (ms : List (List UInt8)) (hs : RdB w B m ms) (hm : m ≤ 9223372036854775807) :
    Calls Tryd.prog 15 #[.slice A n c, .slice B m d] w fun e w' => e = .returned (.bool (decide (ls = ms))) ∧ Fr (fun _ => False) w w' := by
  have HR := Lib.hid hr
  have HS := Lib.hid hs
  clear hr hs
  by_cases hnm : n = m
  · subst hnm
    have hb : ((n : Int) != (n : Int)) = false := by simp
    go_enter Tryd.func15, Tryd.ntmps15
    go_wp2_with fail
    go_loopw [5] (fun iv wr => ∃ (k : Nat), k ≤ n ∧ iv = .int .i64 k ∧ Hid (ls.take k = ms.take k) ∧ Hid (Fr (fun _ => False) w wr)) (fun iv _ => n - (intOf iv).toNat)
    case atStart => exact ⟨0, Nat.zero_le _, rfl, by show _ = _; rfl, Fr.refl _ w⟩
    case round =>
      obtain ⟨k, hk, rfl, hst, hf⟩ := hrel
      by_cases hlt : k < n
      · have hk1 : k < ls.length := by rw [HR.out.1]; exact hlt
        have hk2 : k < ms.length := by rw [HS.out.1]; exact hlt
        obtain ⟨b, off, rfl, hc⟩ := (HR.out.far hf.out).2 (by omega)
        obtain ⟨b', off', rfl, hc'⟩ := (HS.out.far hf.out).2 (by omega)
        obtain ⟨P, p, c0, r0, -, -⟩ := hc k hk1
        obtain ⟨Q, q, c1, r1, -, -⟩ := hc' k hk2
        have y0 := conv_str wr.drew P _ p _ r0.drew
        have y1 := conv_str wr.drew Q _ q _ r1.drew
        have hstep := take_succ_eq ls ms k hk1 hk2
        have hne : ls[k] ≠ ms[k] → ls ≠ ms := fun h e => h (by subst e; rfl)
        clear hc hc' r0 r1
        generalize ls[k] = x at *
        generalize ms[k] = y at *
        have heq := beq_str x y
        have HST := Lib.hid hstep
        have HNE := Lib.hid hne
        clear hstep hne
        by_cases hxy : x = y
        · subst hxy
          have heq2 : ((strOf x).toList == (strOf x).toList) = true := by rw [heq]; simp
          clear heq
          go_wp2_with fail
          go_region
          go_wp2_with fail
          exact ⟨⟨k + 1, hlt, by go_num, HST.out.2 ⟨hst.out, trivial⟩, hf.out.drew⟩, by simp [intOf]; omega⟩
        · have heq2 : ((strOf x).toList == (strOf y).toList) = false := by rw [heq]; simp [hxy]
          clear heq
          go_wp2_with fail
          go_region
          go_wp2_with fail
          go_ret
          exact ⟨by rw [decide_eq_false (HNE.out hxy)]; rfl, hf.out.drew⟩
      · obtain rfl : k = n := by omega
        have hend : ls = ms := by
          have h := hst.out
          rwa [List.take_of_length_le (by rw [HR.out.1]; exact Nat.le_refl _), List.take_of_length_le (by rw [HS.out.1]; exact Nat.le_refl _)] at h
        have HE := Lib.hid hend
        clear hend
        go_wp2_with fail
        go_ret
        exact ⟨by rw [decide_eq_true HE.out]; rfl, hf.out⟩
  · have hb : ((n : Int) != (m : Int)) = true := by simp; omega
    have hne : ls ≠ ms := fun e => hnm (by rw [← HR.out.1, ← HS.out.1, e])
    have HE := Lib.hid hne
    clear hne
    go_enter Tryd.func15, Tryd.ntmps15
    go_wp2_with fail
    go_ret
    exact ⟨by rw [decide_eq_false HE.out]; rfl, Fr.refl _ w⟩
end Go.Proofs.YtmaajihpkollcaaDoor
