/-
  HOW A LAW's ARGUMENTS ARE OPENED: a slice of bytes, a slice of rows of bytes, with how long they may be. And what the laid table says.
-/
import Derived.Test.YtfdpaiainlfigaaDoorCat
import Derived.ProofKit
import Derived.OpenShut
import Derived.Deep.Matrix
import Derived.ChangeSame
import Derived.ChangeVars
import Derived.RowKit
namespace Go.Proofs.YtfdpaiainlfigaaDoor
set_option linter.unusedSimpArgs false
set_option linter.unusedVariables false
open Go Go.RowKit Go.ChangeShapes Go.WideShapes Go.Deep

theorem rd_of_ints {W : World} {x : Addr} {len : Nat} {k : IntKind} {zs : List Int} (hl : len ≤ zs.length) (hcell : ∀ i, i < zs.length → W.cell? (x.add i) = some (.int k (zs.getD i 0))) : Rd W (some x) len ((zs.take len).map (Value.int k)) := by
  refine ⟨by simp; omega, fun _ => ⟨x, rfl, fun j u hu => ?_⟩⟩
  have hj : j < len := by
    rcases Nat.lt_or_ge j len with h | h
    · exact h
    · rw [List.getElem?_eq_none (by simp; omega)] at hu; cases hu
  rw [hcell j (by omega), ← hu, List.getElem?_map, List.getElem?_take, if_pos hj, List.getElem?_eq_getElem (by omega), List.getD_eq_getElem?_getD, List.getElem?_eq_getElem (by omega)]
  rfl
theorem bytes_of (zs : List Int) (h : ∀ n ∈ zs, 0 ≤ n ∧ n ≤ 255) : zs.map (Value.int .u8) = bv (zs.map fun n => UInt8.ofNat n.toNat) := by
  unfold bv
  rw [List.map_map]
  refine List.map_congr_left fun n hn => ?_
  have := h n hn
  show Value.int .u8 n = Value.int .u8 (((UInt8.ofNat n.toNat).toNat : Nat) : Int)
  congr 1
  have e : (UInt8.ofNat n.toNat).toNat = n.toNat % 256 := by simp
  omega
theorem weightsAll_mem {H : Type} {P : Program} {e : TypeId} : ∀ {l : List (DataW H)} {d : DataW H}, d ∈ l → ∀ n ∈ d.weights P e, n ∈ DataW.weightsAll P e l
  | x :: l, d, h, n, hn => by
    simp only [DataW.weightsAll, List.mem_append]
    rcases List.mem_cons.1 h with rfl | h
    · exact Or.inl hn
    · exact Or.inr (weightsAll_mem h n hn)

section
variable {H : Type} {enc : TypeId × Value → H} {P : Program} {W : World} {base : Nat} {held : Bool}
/-- A slice of bytes. -/
theorem open_u8s {t e : TypeId} (ht : P.underlying t = some (.slice e)) (he : P.underlying e = some (.int .u8)) (hc : P.cellsOf e = 1) (hb : P.bytesOf e = 1) {a : Option Addr} {len cap : Nat} {d : DataW H} {p : List MemPlace}
    (h : DataW.Trod enc P W base (fun _ => true) held t (.slice a len cap) d p) (hw : ∀ n ∈ d.weights P t, n ≤ reachBytes) : len ≤ cap ∧ cap ≤ 140737488355328 ∧ ∃ l : List UInt8, Rd W a len (bv l) := by
  obtain ⟨fuel, hf⟩ := h
  rcases open_ints ht he hc hf with ⟨hcs, _⟩ | ⟨x, l, c, zs, hcs, _, hl, hm, hz, hd, hcell, hwz⟩
  · simp [Value.cells] at hcs
    obtain ⟨rfl, rfl, rfl⟩ := hcs
    exact ⟨Nat.le_refl _, by omega, [], Rd.none_ _ _⟩
  · simp [Value.cells] at hcs
    obtain ⟨rfl, rfl, rfl⟩ := hcs
    have hwz2 : ∀ n ∈ zs.take len, 0 ≤ n ∧ n ≤ 255 := fun n hn => bounds_u8 (hwz n (List.mem_of_mem_take hn))
    have r := rd_of_ints (len := len) (by rw [hz]; simp; omega) hcell
    rw [bytes_of _ hwz2] at r
    simp only [if_true] at hz
    injection hd with hd _
    subst hd
    have := hw (cap * 1) (by simp [DataW.weights, ht, hb, lits, hz]; left; omega)
    unfold reachBytes at this
    exact ⟨hl, by omega, _, r⟩
/-- A slice of rows of bytes. -/
theorem open_rows {t e q : TypeId} (ht : P.underlying t = some (.slice e)) (he : P.underlying e = some (.slice q)) (hq : P.underlying q = some (.int .u8)) (ce : P.cellsOf e = 1) (cq : P.cellsOf q = 1) (be : P.bytesOf e = 24) (bq : P.bytesOf q = 1)
    {a : Option Addr} {len cap : Nat} {d : DataW H} {p : List MemPlace}
    (h : DataW.Trod enc P W base (fun _ => true) held t (.slice a len cap) d p) (hw : ∀ n ∈ d.weights P t, n ≤ reachBytes) :
    len ≤ cap ∧ cap ≤ 140737488355328 ∧ ∃ ls : List (List UInt8), RdB W a len ls ∧ ∀ l ∈ ls, l.length ≤ 140737488355328 := by
  obtain ⟨fuel, hf⟩ := h
  rcases open_int_rows ht he hq ce cq hf with ⟨hcs, _⟩ | ⟨x, l, c, A, L, C, Z, hcs, _, hl, hm, hd, hr⟩
  · simp [Value.cells] at hcs
    obtain ⟨rfl, rfl, rfl⟩ := hcs
    exact ⟨Nat.le_refl _, by omega, [], ⟨rfl, fun h => absurd h (by omega)⟩, fun _ h => by cases h⟩
  · simp [Value.cells] at hcs
    obtain ⟨rfl, rfl, rfl⟩ := hcs
    injection hd with hd _
    subst hd
    have hcap := hw (cap * 24) (by simp [DataW.weights, ht, be]; left; omega)
    unfold reachBytes at hcap
    have hlen : ∀ r, r < len → L r ≤ 140737488355328 := by
      intro r hrl
      obtain ⟨h1, h2, h3, h4, h5, h6, h7⟩ := hr r (by omega)
      cases hA : A r with
      | none => have := h6 hA; omega
      | some a' =>
        have := hw (C r * 1) (by
          simp only [DataW.weights, ht, List.mem_cons, List.mem_append]
          refine Or.inr (Or.inl (weightsAll_mem (List.mem_map.2 ⟨r, List.mem_range.2 hrl, rfl⟩) _ ?_))
          simp [intRow, hA, DataW.weights, he, bq, lits, h4]
          left; omega)
        unfold reachBytes at this
        omega
    let F : Nat → List UInt8 := fun r => ((Z r).take (L r)).map fun n => UInt8.ofNat n.toNat
    have hFl : ∀ r, r < len → (F r).length = L r := by
      intro r hrl
      obtain ⟨h1, h2, h3, h4, h5, h6, h7⟩ := hr r (by omega)
      simp [F, h4]; omega
    refine ⟨hl, by omega, (List.range len).map F, ⟨by simp, fun hpos => ?_⟩, fun m hm => ?_⟩
    · obtain ⟨b, off, spot⟩ := x
      have h0 := (hr 0 (by omega)).1
      have hspot : spot = none := by simpa [Addr.add] using World.cell?_spot h0
      subst hspot
      refine ⟨b, off, rfl, fun i hil => ?_⟩
      have hil2 : i < len := by simpa using hil
      obtain ⟨h1, h2, h3, h4, h5, h6, h7⟩ := hr i (by omega)
      have hF : ((List.range len).map F)[i]'hil = F i := by simp
      rw [hF, hFl i hil2]
      refine ⟨A i, C i, by simpa [Addr.add_lit] using h1, ?_, h2, h3⟩
      cases hA : A i with
      | none =>
        have hc0 := h6 hA
        have hl0 : L i = 0 := by omega
        have hF0 : F i = [] := List.eq_nil_of_length_eq_zero (by rw [hFl i hil2, hl0])
        rw [hF0, hl0]
        exact Rd.none_ _ _
      | some a' =>
        have hwz2 : ∀ n ∈ (Z i).take (L i), 0 ≤ n ∧ n ≤ 255 := fun n hn => bounds_u8 (h5 n (List.mem_of_mem_take hn))
        have r := rd_of_ints (W := W) (x := a') (len := L i) (k := .u8) (zs := Z i) (by omega) (fun j hj => (h7 a' hA).2 j (by omega))
        rw [bytes_of _ hwz2] at r
        exact r
    · obtain ⟨i, hi, rfl⟩ := List.mem_map.1 hm
      rw [hFl i (List.mem_range.1 hi)]
      exact hlen i (List.mem_range.1 hi)
end
end Go.Proofs.YtfdpaiainlfigaaDoor
