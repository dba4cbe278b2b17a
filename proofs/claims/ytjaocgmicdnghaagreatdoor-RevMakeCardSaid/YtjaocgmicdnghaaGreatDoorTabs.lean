/-
  THE LAID TABLES as facts on cells: digest's first words and its orders.
-/
import Derived.Test.YtjaocgmicdnghaaGreatDoorRot
namespace Go.Proofs.YtjaocgmicdnghaaGreatDoor
set_option linter.unusedSimpArgs false
set_option linter.unusedVariables false
open Go Go.RowKit

/-- The first words lie in block 0, the orders in block 1. -/
structure Tabs (w : World) : Prop where
  i : ∀ k, k < 8 → w.cell? ⟨1, k, none⟩ = some (.int .u32 (at_ ivs k : Nat))
  o : ∀ k, k < 160 → w.cell? ⟨4, k, none⟩ = some (.int .u8 (at_ ordF k : Nat))
section
variable {w w' : World}
theorem Tabs.lt (h : Tabs w) : 4 < w.heap.size := World.block_lt_of_cell? w ⟨4, 0, none⟩ (h.o 0 (by omega))
theorem Tabs.fr {fp : Nat → Prop} (h : Tabs w) (hf : Fr fp w w') (h0 : ¬ fp 1) (h1 : ¬ fp 4) : Tabs w' :=
  have := h.lt
  ⟨fun k hk => (hf.cell (p := ⟨1, k, none⟩) (by show 1 < _; omega) h0).trans (h.i k hk), fun k hk => (hf.cell (p := ⟨4, k, none⟩) (by show 4 < _; omega) h1).trans (h.o k hk)⟩
theorem Tabs.far (h : Tabs w) (hf : Fr (fun _ => False) w w') : Tabs w' := h.fr hf (fun h => h) (fun h => h)
theorem Tabs.drewN (h : Tabs w) (n : Nat) : Tabs (w.drewN n) := h.far ((Fr.refl _ w).drewN n)
end
end Go.Proofs.YtjaocgmicdnghaaGreatDoor
