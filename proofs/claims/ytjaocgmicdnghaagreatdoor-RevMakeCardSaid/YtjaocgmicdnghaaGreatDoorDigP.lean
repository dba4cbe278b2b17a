/-
  DIGESTS AS PLAIN FUNCTIONS: writing, in parts too; the sum. No statement is proved here.
-/
import Derived.Test.YtjaocgmicdnghaaGreatDoorRot
namespace Go.Proofs.YtjaocgmicdnghaaGreatDoor
set_option linter.unusedSimpArgs false
set_option linter.unusedVariables false
open Go

/-- What becomes of a state by the bytes that wait. -/
def wrL (H : List Nat) (N : Nat) (r : List UInt8) : List Nat × Nat × List UInt8 :=
  if 64 < r.length then wrL (mixL H (wds (r.take 64)) ((N + 64) % 18446744073709551616) false) ((N + 64) % 18446744073709551616) (r.drop 64) else (H, N, r)
  termination_by r.length
  decreasing_by simp; omega
theorem wrL_more {r : List UInt8} (h : 64 < r.length) (H : List Nat) (N : Nat) : wrL H N r = wrL (mixL H (wds (r.take 64)) ((N + 64) % 18446744073709551616) false) ((N + 64) % 18446744073709551616) (r.drop 64) := by
  conv => lhs; unfold wrL
  rw [if_pos h]
theorem wrL_less {r : List UInt8} (h : r.length ≤ 64) (H : List Nat) (N : Nat) : wrL H N r = (H, N, r) := by
  unfold wrL
  rw [if_neg (by omega)]
/-- What holds of a state. -/
def OkS (s : List Nat × Nat × List UInt8) : Prop := Ws 8 s.1 ∧ s.2.1 < 18446744073709551616
theorem wrL_ok : ∀ (n : Nat) (r : List UInt8) (H : List Nat) (N : Nat), r.length ≤ n → Ws 8 H → N < 18446744073709551616 → OkS (wrL H N r) ∧ (wrL H N r).2.2.length ≤ 64 ∧ (wrL H N r).2.2.length ≤ r.length := by
  intro n
  induction n using Nat.strongRecOn with
  | _ n ih =>
    intro r H N hr hH hN
    by_cases h : 64 < r.length
    · rw [wrL_more h]
      have hm : (N + 64) % 18446744073709551616 < 18446744073709551616 := Nat.mod_lt _ (by omega)
      have := ih (n - 64) (by omega) (r.drop 64) _ _ (by rw [List.length_drop]; omega) (hH.ofMix (wds (r.take 64)) _ hm false) hm
      exact ⟨this.1, this.2.1, by have := this.2.2; rw [List.length_drop] at this; omega⟩
    · rw [wrL_less (by omega)]
      exact ⟨⟨hH, hN⟩, by show r.length ≤ 64; omega, Nat.le_refl _⟩
theorem wrL_parts : ∀ (n : Nat) (r m : List UInt8) (H : List Nat) (N : Nat), r.length ≤ n → wrL H N (r ++ m) = wrL (wrL H N r).1 (wrL H N r).2.1 ((wrL H N r).2.2 ++ m) := by
  intro n
  induction n using Nat.strongRecOn with
  | _ n ih =>
    intro r m H N hr
    by_cases h : 64 < r.length
    · rw [wrL_more h, wrL_more (by rw [List.length_append]; omega), List.take_append_of_le_length (by omega), List.drop_append_of_le_length (by omega)]
      exact ih (n - 64) (by omega) (r.drop 64) m _ _ (by rw [List.length_drop]; omega)
    · rw [wrL_less (show r.length ≤ 64 by omega)]
/-- The rest with noughts behind. -/
def pad (r : List UInt8) : List UInt8 := r ++ List.replicate (64 - r.length) 0
/-- The last state. -/
def endL (H : List Nat) (N : Nat) (r : List UInt8) : List Nat := mixL H (wds (pad r)) ((N + r.length) % 18446744073709551616) true
/-- A state's bytes. -/
def byteL (H : List Nat) (i : Nat) : Nat := at_ H (i / 4) / 2 ^ (8 * (i % 4)) % 256
def bytesL (H : List Nat) (S : Nat) : List UInt8 := (List.range S).map fun i => UInt8.ofNat (byteL H i)
def sumL (H : List Nat) (N : Nat) (r : List UInt8) (S : Nat) : List UInt8 := bytesL (endL (wrL H N r).1 (wrL H N r).2.1 (wrL H N r).2.2) S
theorem bytesL_len (H : List Nat) (S : Nat) : (bytesL H S).length = S := by simp [bytesL]
/-- What is begun. -/
def begL (S : Nat) : List Nat := ivs.set 0 (at_ ivs 0 ^^^ (16842752 ^^^ S))
theorem ws_begL (S : Nat) (h : S ≤ 32) : Ws 8 (begL S) := ws_ivs.set 0 _ (Nat.xor_lt_two_pow (n := 32) (at_lt ws_ivs 0) (Nat.xor_lt_two_pow (n := 32) (by omega) (by omega)))
/-- A state as an array of cells. -/
theorem uv8 {H : List Nat} (h : Ws 8 H) : uv H = #[.int .u32 (at_ H 0 : Nat), .int .u32 (at_ H 1 : Nat), .int .u32 (at_ H 2 : Nat), .int .u32 (at_ H 3 : Nat), .int .u32 (at_ H 4 : Nat), .int .u32 (at_ H 5 : Nat), .int .u32 (at_ H 6 : Nat), .int .u32 (at_ H 7 : Nat)] := by
  obtain ⟨hl, _⟩ := h
  match H, hl with
  | [a, b, c, d, e, f, g, i], _ => rfl
theorem at_ext {H K : List Nat} (h : Ws 8 H) (k : Ws 8 K) (he : ∀ i, i < 8 → at_ H i = at_ K i) : H = K := by
  apply List.ext_getElem
  · rw [h.1, k.1]
  · intro i h1 h2
    have := he i (by rw [← h.1]; exact h1)
    unfold at_ at this
    rw [List.getElem?_eq_getElem h1, List.getElem?_eq_getElem h2] at this
    exact this
/-- A Digest's cells. -/
def dc (H : List Nat) (R : Value) (N : Nat) (S : Int) : Array Value := #[.int .u32 (at_ H 0 : Nat), .int .u32 (at_ H 1 : Nat), .int .u32 (at_ H 2 : Nat), .int .u32 (at_ H 3 : Nat), .int .u32 (at_ H 4 : Nat), .int .u32 (at_ H 5 : Nat), .int .u32 (at_ H 6 : Nat), .int .u32 (at_ H 7 : Nat), R, .int .u64 (N : Int), .int .i64 S]
end Go.Proofs.YtjaocgmicdnghaaGreatDoor
