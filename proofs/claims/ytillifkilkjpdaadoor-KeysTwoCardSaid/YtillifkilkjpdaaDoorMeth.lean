import Derived.Test.YtillifkilkjpdaaDoorHp
namespace Go.Proofs.YtillifkilkjpdaaDoor
set_option linter.unusedSimpArgs false
set_option linter.unusedVariables false
open Go Go.RowKit
set_option maxRecDepth 100000
theorem meth_less0 (a : Addr) (w : World) : (method 250 79 (.pointer (some a)) "Less").run Tryd.prog w = Sem.run Tryd.prog (do let v ← loadVar 76 a; pure (98, v)) w := by kernel_rfl
theorem meth_less (n c : Nat) (A : Option Addr) (h : Nat) (w : World) (hc : w.cell? ⟨h, 0, none⟩ = some (.slice A n c)) : (method 250 79 (.pointer (some ⟨h, 0, none⟩)) "Less").run Tryd.prog w = .ok (98, .slice A n c) w := by
  rw [meth_less0]
  simp only [Sem.run_bind]
  have hl : (loadVar 76 ⟨h, 0, none⟩).run Tryd.prog w = .ok (.slice A n c) w := by
    simp [go_sem, hc]
  rw [hl]
  rfl
end Go.Proofs.YtillifkilkjpdaaDoor
