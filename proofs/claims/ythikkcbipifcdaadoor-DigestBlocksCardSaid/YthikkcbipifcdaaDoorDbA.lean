/-
  THE BLOCKS OF WHAT IS WRITTEN, one by one.
-/
import Derived.Test.YthikkcbipifcdaaDoorDpW
namespace Go.Proofs.YthikkcbipifcdaaDoor
set_option linter.unusedSimpArgs false
set_option linter.unusedVariables false
open Go Go.RowKit

/-- The state behind the first i blocks of l. -/
def hB (H : List Nat) (l : List UInt8) : Nat → List Nat
  | 0 => H
  | i + 1 => mixL (hB H l i) (wds ((l.drop (64 * i)).take 64)) (64 * i + 64) false
theorem hB_succ (H : List Nat) (l : List UInt8) (i : Nat) : hB H l (i + 1) = mixL (hB H l i) (wds ((l.drop (64 * i)).take 64)) (64 * i + 64) false := rfl
theorem ws_hB {H : List Nat} (h : Ws 8 H) (l : List UInt8) : ∀ i, 64 * i < 18446744073709551616 → Ws 8 (hB H l i)
  | 0, _ => h
  | i + 1, hi => (ws_hB h l i (by omega)).ofMix _ _ (by omega) false
theorem wrL_blocks (H : List Nat) (l : List UInt8) (hl : l.length ≤ 100000) : ∀ i, 64 * i < l.length ∨ i = 0 → wrL H 0 l = wrL (hB H l i) (64 * i) (l.drop (64 * i))
  | 0, _ => rfl
  | i + 1, hi => by
    have h1 : 64 * (i + 1) < l.length := by omega
    rw [wrL_blocks H l hl i (by omega), wrL_more (by rw [List.length_drop]; omega), hB_succ, List.drop_drop]
    have e1 : (64 * i + 64) % 18446744073709551616 = 64 * i + 64 := Nat.mod_eq_of_lt (by omega)
    have e2 : 64 * (i + 1) = 64 * i + 64 := by omega
    rw [e1, e2]
theorem wrL_all (H : List Nat) (l : List UInt8) (hl : l.length ≤ 100000) (h0 : 0 < l.length) (n : Nat) (hn : n = (l.length - 1) / 64) : wrL H 0 l = (hB H l n, 64 * n, l.drop (64 * n)) := by
  rw [wrL_blocks H l hl n (by omega), wrL_less (by rw [List.length_drop]; omega)]
theorem sumL_all (H : List Nat) (l : List UInt8) (hl : l.length ≤ 100000) (h0 : 0 < l.length) (n S : Nat) (hn : n = (l.length - 1) / 64) : sumL H 0 l S = bytesL (mixL (hB H l n) (wds (pad (l.drop (64 * n)))) l.length true) S := by
  unfold sumL
  rw [wrL_all H l hl h0 n hn]
  have e1 : (64 * n + (l.drop (64 * n)).length) % 18446744073709551616 = l.length := by rw [List.length_drop, Nat.mod_eq_of_lt (by omega)]; omega
  show bytesL (endL (hB H l n) (64 * n) (l.drop (64 * n))) S = _
  unfold endL
  rw [e1]
theorem bytesL_get (H : List Nat) (S i : Nat) (h : i < S) : (bv (bytesL H S))[i]? = some (.int .u8 (byteL H i : Nat)) := by
  have hb : byteL H i < 256 := Nat.mod_lt _ (by omega)
  have h2 : i < (bytesL H S).length := by rw [bytesL_len]; exact h
  rw [bv_get _ _ h2]
  simp [bytesL, Nat.mod_eq_of_lt hb]
/-- r padded, and a nought more. -/
theorem pad_step (r : List UInt8) (k : Nat) : (r ++ List.replicate k 0) ++ [0] = r ++ List.replicate (k + 1) (0 : UInt8) := by rw [List.append_assoc, List.replicate_succ']
end Go.Proofs.YthikkcbipifcdaaDoor
