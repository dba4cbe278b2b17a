/-
  CONTRACT of value.usesItsOwn.
-/
import Derived.Test.YtnkfkicabgajmaaDoorMay2
namespace Go.Proofs.YtnkfkicabgajmaaDoor
set_option linter.unusedSimpArgs false
set_option linter.unusedVariables false
open Go Go.RowKit
set_option maxRecDepth 100000 in
set_option maxHeartbeats 4000000 in
theorem usesOwn_c (w : World) (k n : Int) (t : List UInt8) (Al Ak : Option Addr) (nl cl nk ck : Nat) (hl : nl ≤ 140737488355328) (hk : nk ≤ 140737488355328) :
    Calls Tryd.prog 15 #[.agg (vcs k n t Al nl cl Ak nk ck)] w fun e w' => e = .returned (.bool (usesOwn k n t nl nk)) ∧ Fr (fun _ => False) w w' := by
  obtain ⟨z, hz⟩ : ∃ z, t.isEmpty = z := ⟨_, rfl⟩
  have hts : (strOf t).toList.isEmpty = z := by rw [strOf_toList]; exact hz
  have HZ := Lib.hid hz
  clear hz
  cases z <;>
  · go_enter Tryd.func15, Tryd.ntmps15
    go_upto_region 1 with fail
    refine abs_world (fun W => Hid (Blk W w.heap.size 25 (vcs k n t Al nl cl Ak nk ck)) ∧ Hid (Fr (fun _ => False) w W)) ⟨Blk.new w _ _, (Fr.refl _ w).alloc _⟩ ?_
    rintro W1 ⟨B1, F1⟩
    have c0 : W1.cell? ⟨w.heap.size, 0, none⟩ = some (.int .i64 k) := B1.out.cell 0
    have c1 : W1.cell? ⟨w.heap.size, 1, none⟩ = some (.int .i64 n) := B1.out.cell 1
    have c2 : W1.cell? ⟨w.heap.size, 2, none⟩ = some (.string (strOf t)) := B1.out.cell 2
    have c3 : W1.cell? ⟨w.heap.size, 3, none⟩ = some (.slice Al nl cl) := B1.out.cell 3
    have c4 : W1.cell? ⟨w.heap.size, 4, none⟩ = some (.slice Ak nk ck) := B1.out.cell 4
    go_wp2_with fail
    all_goals go_ret
    all_goals refine ⟨ret_bool ?_, F1.out⟩
    all_goals clear c0 c1 c2 c3 c4 B1 F1
    all_goals unfold usesOwn
    all_goals rw [HZ.out]
    all_goals try simp only [bne_iff_ne, beq_iff_eq, ne_eq, Bool.not_eq_true, beq_eq_false_iff_ne, bne_eq_false_iff_eq, decide_eq_true_eq, decide_eq_false_iff_not] at *
    all_goals rw [Bool.eq_iff_iff]
    all_goals try simp only [Bool.and_eq_true, Bool.or_eq_true, decide_eq_true_eq, beq_iff_eq, Bool.not_eq_true', decide_eq_false_iff_not, Bool.false_eq_true, false_iff, true_iff, not_and, not_or, or_false, or_true, true_and, and_true, false_or, true_or]
    all_goals omega
end Go.Proofs.YtnkfkicabgajmaaDoor
