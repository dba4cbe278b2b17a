/-
  HOW A LAW's ARGUMENTS ARE OPENED: slices of numbers that came in.
-/
import Derived.Test.YtokhebplmldfkaaMem
import Derived.ProofKit
import Derived.OpenShut
namespace Go.Proofs.Ytokhebplmldfkaa
set_option linter.unusedSimpArgs false
set_option linter.unusedVariables false
open Go Go.RowKit Go.ChangeShapes Go.WideShapes

theorem rd_of_ints {W : World} {x : Addr} {len : Nat} {k : IntKind} {zs : List Int} (hl : len ≤ zs.length) (hcell : ∀ i, i < zs.length → W.cell? (x.add i) = some (.int k (zs.getD i 0))) : Rd W (some x) len ((zs.take len).map (Value.int k)) := by
  refine ⟨by simp; omega, fun _ => ⟨x, rfl, fun j u hu => ?_⟩⟩
  have hj : j < len := by
    rcases Nat.lt_or_ge j len with h | h
    · exact h
    · rw [List.getElem?_eq_none (by simp; omega)] at hu; cases hu
  rw [hcell j (by omega), ← hu, List.getElem?_map, List.getElem?_take, if_pos hj, List.getElem?_eq_getElem (by omega), List.getD_eq_getElem?_getD, List.getElem?_eq_getElem (by omega)]
  rfl
theorem nats_of (k : IntKind) (zs : List Int) (h : ∀ n ∈ zs, 0 ≤ n) : zs.map (Value.int k) = (zs.map Int.toNat).map fun x : Nat => Value.int k x := by
  rw [List.map_map]
  refine List.map_congr_left fun n hn => ?_
  have := h n hn
  show Value.int k n = Value.int k ((n.toNat : Nat) : Int)
  congr 1
  omega
theorem bytes_of (zs : List Int) (h : ∀ n ∈ zs, 0 ≤ n ∧ n ≤ 255) : zs.map (Value.int .u8) = bv (zs.map fun n => UInt8.ofNat n.toNat) := by
  unfold bv
  rw [List.map_map]
  refine List.map_congr_left fun n hn => ?_
  have := h n hn
  show Value.int .u8 n = Value.int .u8 (((UInt8.ofNat n.toNat).toNat : Nat) : Int)
  congr 1
  have e : (UInt8.ofNat n.toNat).toNat = n.toNat % 256 := by simp
  omega

section
variable {H : Type} {enc : TypeId × Value → H} {P : Program} {W : World} {base : Nat} {spare : Nat → Bool} {held : Bool}
/-- A slice of uint64. -/
theorem open_u64s {t e : TypeId} (ht : P.underlying t = some (.slice e)) (he : P.underlying e = some (.int .u64)) (hc : P.cellsOf e = 1) {a : Option Addr} {len cap : Nat} {d : DataW H} {p : List MemPlace}
    (h : DataW.Trod enc P W base spare held t (.slice a len cap) d p) : ∃ xs : List Nat, Rd W a len (xs.map fun x : Nat => Value.int .u64 x) ∧ ∀ x ∈ xs, x ≤ 18446744073709551615 := by
  obtain ⟨fuel, hf⟩ := h
  rcases open_ints ht he hc hf with ⟨hcs, _⟩ | ⟨x, l, c, zs, hcs, _, hl, hm, hz, _, hcell, hwz⟩
  · simp [Value.cells] at hcs
    obtain ⟨rfl, rfl, rfl⟩ := hcs
    exact ⟨[], Rd.none_ _ _, fun _ h => by cases h⟩
  · simp [Value.cells] at hcs
    obtain ⟨rfl, rfl, rfl⟩ := hcs
    have hwz2 : ∀ n ∈ zs.take len, 0 ≤ n ∧ n ≤ 18446744073709551615 := fun n hn => bounds_u64 (hwz n (List.mem_of_mem_take hn))
    have r := rd_of_ints (len := len) (by rw [hz]; split <;> omega) hcell
    rw [nats_of .u64 _ (fun n hn => (hwz2 n hn).1)] at r
    refine ⟨_, r, fun y hy => ?_⟩
    obtain ⟨n, hn, rfl⟩ := List.mem_map.1 hy
    have := hwz2 n hn
    omega
/-- A slice of bytes. -/
theorem open_u8s {t e : TypeId} (ht : P.underlying t = some (.slice e)) (he : P.underlying e = some (.int .u8)) (hc : P.cellsOf e = 1) {a : Option Addr} {len cap : Nat} {d : DataW H} {p : List MemPlace}
    (h : DataW.Trod enc P W base spare held t (.slice a len cap) d p) : ∃ l : List UInt8, Rd W a len (bv l) := by
  obtain ⟨fuel, hf⟩ := h
  rcases open_ints ht he hc hf with ⟨hcs, _⟩ | ⟨x, l, c, zs, hcs, _, hl, hm, hz, _, hcell, hwz⟩
  · simp [Value.cells] at hcs
    obtain ⟨rfl, rfl, rfl⟩ := hcs
    exact ⟨[], Rd.none_ _ _⟩
  · simp [Value.cells] at hcs
    obtain ⟨rfl, rfl, rfl⟩ := hcs
    have hwz2 : ∀ n ∈ zs.take len, 0 ≤ n ∧ n ≤ 255 := fun n hn => bounds_u8 (hwz n (List.mem_of_mem_take hn))
    have r := rd_of_ints (len := len) (by rw [hz]; split <;> omega) hcell
    rw [bytes_of _ hwz2] at r
    exact ⟨_, r⟩
end
end Go.Proofs.Ytokhebplmldfkaa
