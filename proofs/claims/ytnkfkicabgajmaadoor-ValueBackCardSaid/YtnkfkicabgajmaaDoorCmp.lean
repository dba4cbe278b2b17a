/-
  CONTRACTS of value.order, cmpEntry, Cmp. Written by gen_cmp.py.
-/
import Derived.Test.YtnkfkicabgajmaaDoorSame
namespace Go.Proofs.YtnkfkicabgajmaaDoor
set_option linter.unusedSimpArgs false
set_option linter.unusedVariables false
open Go Go.RowKit

theorem load_val {P : Program} (W : World) (g off : Nat) (C : Array Value) (h : W.rangeAt g off C.toList) (ty : TypeId) (d : TypeDesc) (hu : P.underlying ty = some d) (hd : d.isRow = true) (hi : (P.info? ty).map (·.size) = some C.size) :
    (Instr.loadAt ty (.pointer (some ⟨g, off, none⟩))).run P W = .ok (.agg C) W := by
  have := run_loadAt_mid (P := P) W g off ty C.toList d h hu hd (by rw [Array.length_toList]; exact hi)
  rwa [Array.toArray_toList] at this
end Go.Proofs.YtnkfkicabgajmaaDoor
