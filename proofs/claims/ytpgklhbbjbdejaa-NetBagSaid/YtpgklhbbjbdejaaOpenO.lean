/-
  HOW A LAW's ARGUMENTS ARE OPENED: a slice of ints.
-/
import Derived.Test.YtpgklhbbjbdejaaOpenCs
namespace Go.Proofs.Ytpgklhbbjbdejaa
set_option linter.unusedSimpArgs false
set_option linter.unusedVariables false
open Go Go.RowKit Go.ChangeShapes Go.WideShapes Go.Deep
variable {H : Type} {enc : TypeId × Value → H} {P : Program} {W : World} {base : Nat} {held : Bool}
theorem open_nums {t e : TypeId} {k : IntKind} (ht : P.underlying t = some (.slice e)) (he : P.underlying e = some (.int k)) (hc : P.cellsOf e = 1) (hb : P.bytesOf e = 8) {a : Option Addr} {len cap : Nat} {d : DataW H} {p : List MemPlace}
    (h : DataW.Trod enc P W base (fun _ => true) held t (.slice a len cap) d p) (hw : ∀ n ∈ d.weights P t, n ≤ reachBytes) : len ≤ 140737488355328 ∧ ∃ l : List Int, Rd W a len (l.map (Value.int k)) := by
  obtain ⟨fuel, hf⟩ := h
  rcases open_ints ht he hc hf with ⟨hcs, _⟩ | ⟨x, l, c, zs, hcs, _, hl, hm, hz, hd, hcell, hwz⟩
  · simp [Value.cells] at hcs
    obtain ⟨rfl, rfl, rfl⟩ := hcs
    exact ⟨by omega, [], Rd.none_ _ _⟩
  · simp [Value.cells] at hcs
    obtain ⟨rfl, rfl, rfl⟩ := hcs
    have r := rd_of_ints (len := len) (by rw [hz]; simp; omega) hcell
    simp only [if_true] at hz
    injection hd with hd _
    subst hd
    have := hw (cap * 8) (by simp [DataW.weights, ht, hb, lits, hz]; left; omega)
    unfold reachBytes at this
    exact ⟨by omega, _, r⟩
end Go.Proofs.Ytpgklhbbjbdejaa
