/-
  A REGION THAT DRAWS ITS ORDER, whose operations only read, and whose calls may make memory (but turn nothing that was there, and answer plain values): one walk in the text's order. The theorem is the guide's own (wp_region_quiet), at the class of the worlds behind which nothing of a world has turned.
-/
import Derived.Test.YtokhebplmldfkaaMem
import Derived.BigQuiet
namespace Go.Proofs.Ytokhebplmldfkaa
set_option linter.unusedSimpArgs false
set_option linter.unusedVariables false
open Go Go.RowKit

/-- A world in which nothing of w0 has turned. -/
structure Since (w0 : World) where
  w' : World
  fr : Fr (fun _ => False) w0 w'
instance (w0 : World) : Nonempty (Since w0) := ⟨⟨w0, Fr.refl _ _⟩⟩
theorem Since.cell {w0 : World} (i : Since w0) {p : Addr} {v : Value} (h : w0.cell? p = some v) : i.w'.cell? p = some v := by
  rw [i.fr.cell (World.block_lt_of_cell? w0 p h) (fun h => h)]; exact h
theorem wp_region_since {P : Program} {w0 w : World} (h0 : Fr (fun _ => False) w0 w) {id : Nat} {Q : Exit → Act → World → Prop} {a : Act} {l : List Oper} (hm : P.follows .mixedOrders = true) (hB : Region.lexB .any l.toArray = true)
    (h : wpQuiet P l.toArray (fun w' => ∃ i : Since w0, w' = i.w') (fun a' => ∀ w', (∃ i : Since w0, w' = i.w') → Q .normal a' w') l a) : (Code.region id l.toArray true).wp P Q a w :=
  wp_region_quiet (C := fun w' => ∃ i : Since w0, w' = i.w') hm hB ⟨⟨_, h0.drew⟩, rfl⟩ (by simpa using h)
/-- A callee's contract, met in such a world. -/
theorem Calls.since {P : Program} {f : FuncId} {args : Array Value} {w0 : World} {i : Since w0} {v : Value}
    (h : Calls P f args i.w' fun e w' => e = .returned v ∧ Fr (fun _ => False) i.w' w') : Calls P f args i.w' fun e w'' => e = .returned v ∧ ∃ j : Since w0, w'' = j.w' :=
  h.mono fun _ w'' ⟨he, hf⟩ => ⟨he, ⟨w'', i.fr.trans hf (fun _ _ h => h)⟩, rfl⟩
end Go.Proofs.Ytokhebplmldfkaa
