/-
  BLAKE2s AS PLAIN FUNCTIONS on lists of numbers. No statement is proved here.
-/
import Derived.Test.YtjaocgmicdnghaaGreatDoorMem
namespace Go.Proofs.YtjaocgmicdnghaaGreatDoor
set_option linter.unusedSimpArgs false
set_option linter.unusedVariables false

/-- An element of a row of numbers. -/
def at_ (V : List Nat) (i : Nat) : Nat := V[i]?.getD 0
/-- x turned right by n bits. -/
def rr (x n : Nat) : Nat := x / 2 ^ n ||| x * 2 ^ (32 - n) % 4294967296
/-- Half a stirring. -/
def hf (V : List Nat) (a b c d m p q : Nat) : List Nat :=
  let V1 := V.set a ((at_ V a + at_ V b + m) % 4294967296)
  let V2 := V1.set d (rr (at_ V1 d ^^^ at_ V1 a) p)
  let V3 := V2.set c ((at_ V2 c + at_ V2 d) % 4294967296)
  V3.set b (rr (at_ V3 b ^^^ at_ V3 c) q)
/-- A stirring. -/
def st (V : List Nat) (a b c d x y : Nat) : List Nat := hf (hf V a b c d x 16 12) a b c d y 8 7
/-- The permutations. -/
def ords : List (List Nat) := [
  [0, 1, 2, 3, 4, 5, 6, 7, 8, 9, 10, 11, 12, 13, 14, 15],
  [14, 10, 4, 8, 9, 15, 13, 6, 1, 12, 0, 2, 11, 7, 5, 3],
  [11, 8, 12, 0, 5, 2, 15, 13, 10, 14, 3, 6, 7, 1, 9, 4],
  [7, 9, 3, 1, 13, 12, 11, 14, 2, 6, 5, 10, 4, 0, 15, 8],
  [9, 0, 5, 7, 2, 4, 10, 15, 14, 1, 11, 12, 6, 8, 3, 13],
  [2, 12, 6, 10, 0, 11, 8, 3, 4, 13, 7, 5, 15, 14, 1, 9],
  [12, 5, 1, 15, 14, 13, 4, 10, 0, 7, 6, 3, 9, 2, 8, 11],
  [13, 11, 7, 14, 12, 1, 3, 9, 5, 0, 15, 4, 8, 6, 2, 10],
  [6, 15, 14, 9, 11, 3, 0, 8, 12, 2, 13, 7, 1, 4, 10, 5],
  [10, 2, 8, 4, 7, 6, 1, 5, 15, 11, 9, 14, 3, 12, 13, 0]]
def ordF : List Nat := ords.flatten
/-- The k-th word's place in round r. -/
def od (r k : Nat) : Nat := at_ ordF (r * 16 + k)
theorem od_lt (r k : Nat) : od r k < 16 := by
  unfold od at_
  by_cases h : r * 16 + k < 160
  · have h1 : ∀ x ∈ ordF, x < 16 := by decide +kernel
    have h2 : r * 16 + k < ordF.length := h
    rw [List.getElem?_eq_getElem h2]
    exact h1 _ (List.getElem_mem _)
  · have h2 : ordF.length ≤ r * 16 + k := by have : ordF.length = 160 := rfl; omega
    rw [List.getElem?_eq_none h2]
    show 0 < 16
    omega
/-- The row of the i-th stirring's element. -/
def qd (i row : Nat) : Nat := 4 * row + (i + i / 4 * row) % 4
def step (m : List Nat) (r i : Nat) (V : List Nat) : List Nat := st V (qd i 0) (qd i 1) (qd i 2) (qd i 3) (at_ m (od r (2 * i))) (at_ m (od r (2 * i + 1)))
/-- The first k stirrings of round r. -/
def stps (m : List Nat) (r : Nat) (V : List Nat) : Nat → List Nat
  | 0 => V
  | k + 1 => step m r k (stps m r V k)
/-- The first k rounds. -/
def rnds (m V : List Nat) : Nat → List Nat
  | 0 => V
  | r + 1 => stps m r (rnds m V r) 8
def ivs : List Nat := [0x6a09e667, 0xbb67ae85, 0x3c6ef372, 0xa54ff53a, 0x510e527f, 0x9b05688c, 0x1f83d9ab, 0x5be0cd19]
def v0 (H : List Nat) (n : Nat) (last : Bool) : List Nat :=
  let V1 := (H ++ ivs).set 12 (at_ ivs 4 ^^^ n % 4294967296)
  let V2 := V1.set 13 (at_ ivs 5 ^^^ n / 4294967296)
  if last then V2.set 14 (at_ ivs 6 ^^^ 4294967295) else V2
/-- A block's words mixed into a state. -/
def mixL (H m : List Nat) (n : Nat) (last : Bool) : List Nat :=
  let V := rnds m (v0 H n last) 10
  (List.range 8).map fun i => at_ H i ^^^ (at_ V i ^^^ at_ V (i + 8))
/-- The words of a block. -/
def wd (b : List UInt8) (i : Nat) : Nat := (b[4 * i]?.getD 0).toNat + 256 * (b[4 * i + 1]?.getD 0).toNat + 65536 * (b[4 * i + 2]?.getD 0).toNat + 16777216 * (b[4 * i + 3]?.getD 0).toNat
def wds (b : List UInt8) : List Nat := (List.range 16).map (wd b)

/-- A row of sixteen words. -/
def Ws (n : Nat) (V : List Nat) : Prop := V.length = n ∧ ∀ x ∈ V, x < 4294967296
theorem rr_lt (x n : Nat) (h : x < 4294967296) : rr x n < 4294967296 := by
  unfold rr
  exact Nat.or_lt_two_pow (n := 32) (Nat.lt_of_le_of_lt (Nat.div_le_self _ _) h) (Nat.mod_lt _ (by omega))
theorem at_lt {n : Nat} {V : List Nat} (h : Ws n V) (i : Nat) : at_ V i < 4294967296 := by
  unfold at_
  by_cases hi : i < V.length
  · rw [List.getElem?_eq_getElem hi]; exact h.2 _ (List.getElem_mem _)
  · rw [List.getElem?_eq_none (by omega)]; show 0 < _; omega
theorem Ws.set {n : Nat} {V : List Nat} (h : Ws n V) (i x : Nat) (hx : x < 4294967296) : Ws n (V.set i x) := by
  refine ⟨by rw [List.length_set]; exact h.1, fun y hy => ?_⟩
  rcases List.mem_or_eq_of_mem_set hy with h1 | rfl
  · exact h.2 _ h1
  · exact hx
theorem Ws.add {n : Nat} {V : List Nat} (h : Ws n V) (i x : Nat) : Ws n (V.set i (x % 4294967296)) := h.set i _ (Nat.mod_lt _ (by omega))
theorem Ws.rot {n : Nat} {V : List Nat} (h : Ws n V) (i a b p : Nat) : Ws n (V.set i (rr (at_ V a ^^^ at_ V b) p)) := h.set i _ (rr_lt _ p (Nat.xor_lt_two_pow (n := 32) (at_lt h a) (at_lt h b)))
theorem Ws.hf {n : Nat} {V : List Nat} (h : Ws n V) (a b c d m p q : Nat) : Ws n (hf V a b c d m p q) := (((h.add a _).rot d d a p).add c _).rot b b c q
theorem Ws.st {n : Nat} {V : List Nat} (h : Ws n V) (a b c d x y : Nat) : Ws n (st V a b c d x y) := (h.hf a b c d x 16 12).hf a b c d y 8 7
theorem Ws.stps {n : Nat} {V : List Nat} (h : Ws n V) (m : List Nat) (r : Nat) : ∀ k, Ws n (stps m r V k)
  | 0 => h
  | k + 1 => (h.stps m r k).st _ _ _ _ _ _
theorem Ws.rnds {n : Nat} {V : List Nat} (h : Ws n V) (m : List Nat) : ∀ k, Ws n (rnds m V k)
  | 0 => h
  | k + 1 => (h.rnds m k).stps m k 8
theorem ws_ivs : Ws 8 ivs := ⟨rfl, by decide⟩
theorem Ws.ofV0 {H : List Nat} (h : Ws 8 H) (n : Nat) (hn : n < 18446744073709551616) (last : Bool) : Ws 16 (v0 H n last) := by
  have h0 : Ws 16 (H ++ ivs) := ⟨by rw [List.length_append, h.1]; rfl, fun x hx => by
    rcases List.mem_append.1 hx with h1 | h1
    · exact h.2 _ h1
    · exact ws_ivs.2 _ h1⟩
  have h1 := h0.set 12 (at_ ivs 4 ^^^ n % 4294967296) (Nat.xor_lt_two_pow (n := 32) (at_lt ws_ivs 4) (Nat.mod_lt _ (by omega)))
  have h2 := h1.set 13 (at_ ivs 5 ^^^ n / 4294967296) (Nat.xor_lt_two_pow (n := 32) (at_lt ws_ivs 5) (by omega))
  unfold v0
  cases last
  · exact h2
  · exact h2.set 14 _ (Nat.xor_lt_two_pow (n := 32) (at_lt ws_ivs 6) (by omega))
theorem wd_lt (b : List UInt8) (i : Nat) : wd b i < 4294967296 := by
  unfold wd
  have h1 := (b[4 * i]?.getD 0).toNat_lt
  have h2 := (b[4 * i + 1]?.getD 0).toNat_lt
  have h3 := (b[4 * i + 2]?.getD 0).toNat_lt
  have h4 := (b[4 * i + 3]?.getD 0).toNat_lt
  omega
theorem ws_wds (b : List UInt8) : Ws 16 (wds b) := ⟨by simp [wds], fun x hx => by
  obtain ⟨i, -, rfl⟩ := List.mem_map.1 hx
  exact wd_lt b i⟩
theorem Ws.ofMix {H : List Nat} (h : Ws 8 H) (m : List Nat) (n : Nat) (hn : n < 18446744073709551616) (last : Bool) : Ws 8 (mixL H m n last) := by
  refine ⟨by simp [mixL], fun x hx => ?_⟩
  obtain ⟨i, -, rfl⟩ := List.mem_map.1 hx
  have hV := (h.ofV0 n hn last).rnds m 10
  exact Nat.xor_lt_two_pow (n := 32) (at_lt h i) (Nat.xor_lt_two_pow (n := 32) (at_lt hV i) (at_lt hV (i + 8)))
/-- RFC 7693's own example: the digest of "abc". -/
def abc : List Nat := mixL (ivs.set 0 (at_ ivs 0 ^^^ 16842784)) (wds ([97, 98, 99] ++ List.replicate 61 0)) 3 true
theorem abc_is : abc = [0x8c5e8c50, 0xe2147c32, 0xa32ba7e1, 0x2f45eb4e, 0x208b4537, 0x293ad69e, 0x4c9b994d, 0x82596786] := by decide +kernel
end Go.Proofs.YtjaocgmicdnghaaGreatDoor
