/-
  CONTRACTS: frame's Check.
-/
import Derived.Test.YtmaajihpkollcaaDoorMem
import Derived.Test.YtmaajihpkollcaaDoorFrameQ
import Derived.Test.YtmaajihpkollcaaDoorRows
import Derived.Laws.BitsAllLaws
namespace Go.Proofs.YtmaajihpkollcaaDoor
set_option linter.unusedSimpArgs false
set_option linter.unusedVariables false
open Go Go.RowKit

/-- The table of four bits lies there. -/
def Nb (w : World) : Prop := ∀ i, i < 16 → w.cell? ⟨0, i, none⟩ = some (.int .u32 ((nibs[i]?.getD 0 : Nat) : Int))
/-- A slice of rows of bytes. -/
def RdB (w : World) (A : Option Addr) (n : Nat) (ls : List (List UInt8)) : Prop :=
  ls.length = n ∧ (0 < n → ∃ b off, A = some ⟨b, off, none⟩ ∧ ∀ i (h : i < ls.length), ∃ B c, w.cell? ⟨b, off + i, none⟩ = some (.slice B ls[i].length c) ∧ Rd w B ls[i].length (bv ls[i]) ∧ ls[i].length ≤ c ∧ c ≤ maxLen)

theorem nib_lt (r : Nat) (h : r < 16) : nibs[r]?.getD 0 < 4294967296 := by
  revert r
  decide
theorem and15 (Y : Nat) (h : Y < 4294967296) : bits .and .u32 (Y : Int) 15 = ((Y % 16 : Nat) : Int) := by
  have := u32_and_nat Y 15 h (by omega)
  rw [show ((15 : Nat) : Int) = 15 from rfl] at this
  rw [this, show (15 : Nat) = 2 ^ 4 - 1 from rfl, Nat.and_two_pow_sub_one_eq_mod]
theorem nib_xor (Y : Nat) (h : Y < 4294967296) : bits .xor .u32 ((Y : Int) / 16) ((nibs[Y % 16]?.getD 0 : Nat) : Int) = ((shN 4 Y : Nat) : Int) := by
  have := u32_xor_nat (Y / 16) (nibs[Y % 16]?.getD 0) (by omega) (nib_lt _ (Nat.mod_lt _ (by omega)))
  rw [nib_step] at this
  rw [← this]
  rfl

set_option maxHeartbeats 1000000 in
theorem check_c (w : World) (A : Option Addr) (n c : Nat) (ls : List (List UInt8)) (hr : RdB w A n ls) (hN : Nb w) (hn : n ≤ 9223372036854775807) :
    Calls Tryd.prog 11 #[.slice A n c] w fun e w' => e = .returned (.int .u32 (check ls.flatten : Int)) ∧ w = w' := by
  have HR := Lib.hid hr
  have HN := Lib.hid hN
  clear hr hN
  go_enter Tryd.func11, Tryd.ntmps11
  go_wp2_with fail
  go_loop [3, 10] (fun sv iv => ∃ (k : Nat) (s : Nat), k ≤ n ∧ iv = .int .i64 k ∧ sv = .int .u32 (s : Int) ∧ s < 4294967296 ∧ Hid (s = crcL 4294967295 (ls.take k).flatten)) (fun _ iv => n - (intOf iv).toNat)
  case atStart => exact ⟨0, 4294967295, Nat.zero_le _, rfl, rfl, by omega, rfl⟩
  case round =>
    obtain ⟨k, s, hk, rfl, rfl, hs, hst⟩ := hrel
    by_cases hlt : k < n
    · obtain ⟨b, off, rfl, hc⟩ := HR.out.2 (by omega)
      obtain ⟨B, m, c0, r0, hm, hm2⟩ := hc k (by rw [HR.out.1]; exact hlt)
      unfold maxLen at hm2
      have R0 := Lib.hid r0
      clear hc r0
      have hcr : Hid (crcL 4294967295 (ls.take (k + 1)).flatten = crcL s (ls[k]'(by rw [HR.out.1]; exact hlt))) := by
        show crcL 4294967295 (ls.take (k + 1)).flatten = _
        rw [List.take_succ_eq_append_getElem (by rw [HR.out.1]; exact hlt), List.flatten_append, crcL_append, ← hst.out]
        simp
      generalize (ls[k]'(by rw [HR.out.1]; exact hlt)) = l at *
      obtain ⟨M, hM⟩ : ∃ M, l.length = M := ⟨_, rfl⟩
      rw [hM] at c0 R0 hm
      have HM := Lib.hid hM
      clear hM
      go_wp2_with fail
      go_loop [3, 16] (fun sv iv => ∃ (q : Nat) (t : Nat), q ≤ M ∧ iv = .int .i64 q ∧ sv = .int .u32 (t : Int) ∧ t < 4294967296 ∧ Hid (t = crcL s (l.take q))) (fun _ iv => M - (intOf iv).toNat)
      case atStart => exact ⟨0, s, Nat.zero_le _, rfl, rfl, hs, rfl⟩
      case round =>
        obtain ⟨q, t, hq, rfl, rfl, ht, htt⟩ := hrel
        by_cases hql : q < M
        · obtain ⟨bb, oo, rfl, -⟩ := R0.out.lit (by omega)
          have d0 := R0.out.cell (k := q) hql
          rw [bv_get _ _ (by rw [HM.out]; exact hql)] at d0
          have hsn : Hid (crcL s (l.take (q + 1)) = crcB t (l[q]'(by rw [HM.out]; exact hql)).toNat) := by
            show _ = _
            rw [List.take_succ_eq_append_getElem (by rw [HM.out]; exact hql), crcL_snoc, ← htt.out]
          have hb := (l[q]'(by rw [HM.out]; exact hql)).toNat_lt
          generalize (l[q]'(by rw [HM.out]; exact hql)).toNat = x at *
          have x1 := u32_xor_nat t x ht (by omega)
          have hy : t ^^^ x < 4294967296 := Nat.xor_lt_two_pow (n := 32) ht (by omega)
          have hz := crcB_nib t x
          generalize t ^^^ x = Y at *
          have x2 := and15 Y hy
          have x3 := nib_xor Y hy
          have hzl := shN_lt 4 Y hy
          have e1 := HN.out (Y % 16) (Nat.mod_lt _ (by omega))
          have i1 : Y % 16 < 16 := Nat.mod_lt _ (by omega)
          have x4 := and15 _ hzl
          have x5 := nib_xor _ hzl
          rw [hz] at x5
          generalize shN 4 Y = Z at *
          have e2 := HN.out (Z % 16) (Nat.mod_lt _ (by omega))
          have i2 : Z % 16 < 16 := Nat.mod_lt _ (by omega)
          clear hz
          generalize Y % 16 = y1 at *
          generalize Z % 16 = z1 at *
          have hsl : crcB t x < 4294967296 := crcB_lt t x ht hb
          generalize crcB t x = S at *
          go_wp2_with fail
          exact ⟨⟨q + 1, S, hql, by go_num, rfl, hsl, hsn.out.symm⟩, by simp [intOf]; omega⟩
        · obtain rfl : q = M := by omega
          have hend : Hid (crcL s (l.take q) = crcL s l) := by show _ = _; rw [List.take_of_length_le (by rw [HM.out]; exact Nat.le_refl _)]
          go_wp2_with fail
          exact ⟨⟨k + 1, t, hlt, by go_num, rfl, ht, by show t = _; rw [hcr.out, htt.out, hend.out]⟩, by simp [intOf]; omega⟩
    · obtain rfl : k = n := by omega
      have hend : Hid (s ^^^ 4294967295 = check ls.flatten) := by
        show _ = _
        rw [hst.out, List.take_of_length_le (by rw [HR.out.1]; exact Nat.le_refl _)]
        rfl
      have hx : Hid (bits .xor .u32 IntKind.u32.max (s : Int) = (check ls.flatten : Int)) := by
        show _ = _
        have x2 := u32_xor_nat 4294967295 s (by omega) hs
        rw [Nat.xor_comm, hend.out] at x2
        exact x2
      go_wp2_with fail
      go_ret
      exact ⟨by rw [← hx.out]; rfl, rfl⟩
end Go.Proofs.YtmaajihpkollcaaDoor
