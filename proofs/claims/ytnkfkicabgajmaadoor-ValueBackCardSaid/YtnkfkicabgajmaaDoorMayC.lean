/-
  CONTRACT of value.May.
-/
import Derived.Test.YtnkfkicabgajmaaDoorInv
namespace Go.Proofs.YtnkfkicabgajmaaDoor
set_option linter.unusedSimpArgs false
set_option linter.unusedVariables false
open Go Go.RowKit
theorem Fr.new_ {w w' a : World} {r : Nat} (h : Fr (fun _ => False) w a) (h2 : Fr (fun k => k = r) a w') (hr : w.heap.size ≤ r) : Fr (fun _ => False) w w' :=
  h.trans h2 (fun i hi he => by have : i = r := he; omega)
set_option maxRecDepth 100000 in
set_option maxHeartbeats 1000000 in
theorem may_c (v : V) (w : World) (D : Nat → Prop) (C : Array Value) (h : RdV D w C v) (hs : Sm v) (hL : LaidOk w) : Calls Tryd.prog 9 #[.agg C] w fun e w' => e = .returned (.bool (mayV v)) ∧ Fr (fun _ => False) w w' := by
  have hL8 := hL.size
  have HRV := Lib.hid h.lts
  have HS := Lib.hid hs
  have HL := Lib.hid hL
  have HSC := Lib.hid (szV h)
  clear h hs hL
  go_enter Tryd.func9, Tryd.ntmps9
  go_upto_region 4 with fail
  refine abs_world (fun W => Hid (Blk W w.heap.size 25 C) ∧ Hid (Blk W (w.heap.size + 1) 3 #[.int .i64 512]) ∧ Hid (Blk W (w.heap.size + 1 + 1) 42 (invF (w.heap.size + 1) (w.heap.size + 1 + 1))) ∧ Hid (Fr (fun _ => False) w W)) ⟨((Blk.new w _ _).alloc _).alloc _, (Blk.new1 w _ 3 _).alloc _, ?_, (((Fr.refl _ w).alloc _).alloc _).alloc _⟩ ?_
  · have h := Blk.new ((w.alloc (.cells C 25)).alloc (.cells #[.int .i64 512] 3)) 42 (invF (w.heap.size + 1) (w.heap.size + 1 + 1))
    rw [World.size_alloc, World.size_alloc] at h
    exact h
  rintro W1 ⟨B1, R1, K1, F1⟩
  have k5 : W1.cell? ⟨w.heap.size + 1 + 1, 0, none⟩ = some (.func (.func 14) #[] #[.pointer (some ⟨w.heap.size + 1, 0, none⟩), .pointer (some ⟨w.heap.size + 1 + 1, 0, none⟩)]) := K1.out.cell 0
  have BA := Lib.hid (blk_all B1.out)
  go_wp2_with (refine wpList_load_val rfl 25 _ rfl w.heap.size _ rfl C BA.out _ Tryd.underlying25 rfl HSC.out ?_)
  refine (inv_c v 1 W1 _ C (w.heap.size + 1) (w.heap.size + 1 + 1) 512 (HRV.out.far F1.out) HS.out (by omega) (by omega) (by omega) (fun b hb => by have := hb.2; omega) (by omega) R1.out K1.out (HL.out.far F1.out)).mono ?_
  rintro e W2 h2
  have H2 := Lib.hid h2
  clear h2 k5
  have HM := Lib.hid (inv_may v)
  rcases H2.out with ⟨ho, rfl, f2⟩ | ⟨q, ho, rfl, f2, -⟩
  · have F2 := Lib.hid (F1.out.new_ f2 (by omega))
    have HO := Lib.hid ho
    clear f2 ho
    go_wp2_with fail
    go_ret
    exact ⟨ret_bool (by rw [← HM.out, HO.out]; rfl), F2.out⟩
  · have F2 := Lib.hid (F1.out.new_ f2 (by omega))
    have HO := Lib.hid ho
    clear f2 ho
    go_wp2_with fail
    go_ret
    exact ⟨ret_bool (by rw [← HM.out, HO.out]; rfl), F2.out⟩
end Go.Proofs.YtnkfkicabgajmaaDoor
