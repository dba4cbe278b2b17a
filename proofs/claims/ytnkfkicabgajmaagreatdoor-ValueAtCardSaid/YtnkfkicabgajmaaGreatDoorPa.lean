/-
  CONTRACTS of the parser's take, need; value.Text, Number.
-/
import Derived.Test.YtnkfkicabgajmaaGreatDoorPrint
import Derived.Deep.MidRow
namespace Go.Proofs.YtnkfkicabgajmaaGreatDoor
set_option linter.unusedSimpArgs false
set_option linter.unusedVariables false
open Go Go.RowKit

theorem abs_post {P : Program} {f : Func} {R : Ending → World → Prop} {e : Exit} {a : Act} {w : World} (Φ : World → Prop) (h : Φ w) (k : ∀ W, Φ W → bodyPost P f R e a W) : bodyPost P f R e a w := k w h
abbrev pcs (s : List UInt8) (b : Bool) : Array Value := #[.string (strOf s), .bool b]
set_option maxRecDepth 100000 in
set_option maxHeartbeats 1000000 in
theorem take_c (w : World) (p : Nat) (s t : List UInt8) (b : Bool) (hp : Blk w p 66 (pcs s b)) :
    Calls Tryz.prog 68 #[.pointer (some ⟨p, 0, none⟩), .string (strOf t)] w fun e w' => e = .returned (.bool (cutP s t).isSome) ∧ Blk w' p 66 (pcs ((cutP s t).getD s) b) ∧ Fr (fun k => k = p) w w' := by
  have c0 : w.cell? ⟨p, 0, none⟩ = some (.string (strOf s)) := hp.cell 0
  have z0 : w.frozen? ⟨p, 0, none⟩ = false := hp.frozen 0
  have HP := Lib.hid hp
  have CUT := Lib.hid (cut_c w s t)
  obtain ⟨r, hr⟩ : ∃ r, (cutP s t).getD s = r := ⟨_, rfl⟩
  obtain ⟨z, hz⟩ : ∃ z, (cutP s t).isSome = z := ⟨_, rfl⟩
  rw [hr, hz] at CUT
  rw [hr, hz]
  clear hp hr hz
  go_enter Tryz.func68, Tryz.ntmps68
  go_wp2_with fail
  refine CUT.out.mono ?_
  rintro e w1 ⟨rfl, rfl⟩
  go_wp2_with fail
  go_ret
  exact ⟨rfl, HP.out.set_ 0 _, (Fr.refl (fun k => k = p) w).setCell (p := ⟨p, 0, none⟩) (fun _ => rfl) _⟩
set_option maxRecDepth 100000 in
set_option maxHeartbeats 1000000 in
theorem need_c (w : World) (p : Nat) (s t : List UInt8) (b : Bool) (hp : Blk w p 66 (pcs s b)) :
    Calls Tryz.prog 87 #[.pointer (some ⟨p, 0, none⟩), .string (strOf t)] w fun e w' => e = .returned (.bool (cutP s t).isSome) ∧ Blk w' p 66 (pcs ((cutP s t).getD s) (b || !(cutP s t).isSome)) ∧ Fr (fun k => k = p) w w' := by
  have TK := Lib.hid (take_c w p s t b hp)
  obtain ⟨r, hr⟩ : ∃ r, (cutP s t).getD s = r := ⟨_, rfl⟩
  obtain ⟨z, hz⟩ : ∃ z, (cutP s t).isSome = z := ⟨_, rfl⟩
  rw [hr, hz] at TK
  rw [hr, hz]
  clear hp hr hz
  cases b <;> cases z <;>
  · go_enter Tryz.func87, Tryz.ntmps87
    go_wp2_with fail
    refine TK.out.mono ?_
    rintro e w1 ⟨rfl, b1, f1⟩
    have c1 := b1.cell 1
    have z1 := b1.frozen 1
    have B1 := Lib.hid b1
    have F1 := Lib.hid f1
    simp only [List.getElem?_toArray, List.getElem?_cons_succ, List.getElem?_cons_zero] at c1
    clear b1 f1 TK
    go_wp2_with fail
    go_ret
    refine ⟨rfl, ?_, F1.out.trans ((Fr.refl (fun k => k = p) w1).setCell (p := ⟨p, 1, none⟩) (fun _ => rfl) _) (fun _ _ h => h)⟩
    exact B1.out.set_ 1 _
set_option maxRecDepth 100000 in
theorem text_val (w : World) (s : List UInt8) : Calls Tryz.prog 18 #[.string (strOf s)] w fun e w' => e = .returned (.agg (vcs 4 0 s none 0 0 none 0 0)) ∧ Fr (fun _ => False) w w' := by
  have S1 := Lib.hid (show (Tryz.prog.info? 25).map (·.size) = some (vcs 4 0 s none 0 0 none 0 0).size from lw5)
  go_enter Tryz.func18, Tryz.ntmps18
  go_wp2_with fail
  refine abs_post (fun W => Blk W w.heap.size 25 (vcs 4 0 s none 0 0 none 0 0) ∧ Fr (fun _ => False) w W) ⟨Blk.new w _ _, (Fr.refl _ w).alloc _⟩ ?_
  rintro W ⟨b, f⟩
  exact bodyPost_ret (v := .agg (vcs 4 0 s none 0 0 none 0 0)) (results_one (P := Tryz.prog) (fn := Tryz.f18) (p := 2) (ty := 25) Tryz.results18 _ W w.heap.size 25 _ _ rfl b Tryz.underlying25 rfl S1.out) rfl ⟨rfl, f⟩
set_option maxRecDepth 100000 in
theorem number_val (w : World) (n : Int) : Calls Tryz.prog 19 #[.int .i64 n] w fun e w' => e = .returned (.agg (vcs 3 n [] none 0 0 none 0 0)) ∧ Fr (fun _ => False) w w' := by
  have S1 := Lib.hid (show (Tryz.prog.info? 25).map (·.size) = some (vcs 3 n [] none 0 0 none 0 0).size from lw5)
  go_enter Tryz.func19, Tryz.ntmps19
  go_wp2_with fail
  refine abs_post (fun W => Blk W w.heap.size 25 (vcs 3 n [] none 0 0 none 0 0) ∧ Fr (fun _ => False) w W) ⟨Blk.new w _ _, (Fr.refl _ w).alloc _⟩ ?_
  rintro W ⟨b, f⟩
  exact bodyPost_ret (v := .agg (vcs 3 n [] none 0 0 none 0 0)) (results_one (P := Tryz.prog) (fn := Tryz.f19) (p := 2) (ty := 25) Tryz.results19 _ W w.heap.size 25 _ _ rfl b Tryz.underlying25 rfl S1.out) rfl ⟨rfl, f⟩
end Go.Proofs.YtnkfkicabgajmaaGreatDoor
