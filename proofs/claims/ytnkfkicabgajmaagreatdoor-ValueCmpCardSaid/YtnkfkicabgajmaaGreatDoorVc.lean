/-
  THE LAW ValueCmp, WALKED. Written by gen_vc.py.
-/
import Derived.Test.YtnkfkicabgajmaaGreatDoorRmay
import Derived.Test.YtnkfkicabgajmaaGreatDoorFl3
import Derived.Test.YtnkfkicabgajmaaGreatDoorRcmp
import Derived.Test.YtnkfkicabgajmaaGreatDoorAw
import Derived.Test.YtnkfkicabgajmaaGreatDoorLong
import Derived.Test.YtnkfkicabgajmaaGreatDoorSm
import Derived.Deep.RegionHeld3
namespace Go.Proofs.YtnkfkicabgajmaaGreatDoor
set_option linter.unusedSimpArgs false
set_option linter.unusedVariables false
open Go Go.RowKit

set_option maxRecDepth 100000 in
set_option maxHeartbeats 8000000 in
theorem valueCmp_c (w : World) {D1 D2 : Nat → Prop} {C1 C2 : Array Value} {a b : V} (r1 : RdV D1 w C1 a) (r2 : RdV D2 w C2 b) (hL : LaidOk w) :
    Calls Tryz.prog 4 #[.agg C1, .agg C2] w fun e w' => e = .returned (.bool true) ∧ Fr (fun _ => False) w w' := by
  have R1 := Lib.hid r1
  have R2 := Lib.hid r2
  obtain ⟨k1, n1, t1, l1, ks1, Al1, cl1, Ak1, ck1, css1, ea1, rfl, -⟩ := r1.inv
  obtain ⟨k2, n2, t2, l2, ks2, Al2, cl2, Ak2, ck2, css2, ea2, rfl, -⟩ := r2.inv
  clear ea1 ea2
  have Z1 := Lib.hid (szV r1)
  have Z2 := Lib.hid (szV r2)
  have HL := Lib.hid hL
  obtain ⟨g, hg⟩ : ∃ g, w.heap.size = g := ⟨_, rfl⟩
  have HG := Lib.hid hg
  clear hL r1 r2 hg
  go_enter Tryz.func4, Tryz.ntmps4
  go_upto_region 1 with fail
  refine abs_world (fun W => Hid (Blk W w.heap.size 25 (vcs k1 n1 t1 Al1 l1.length cl1 Ak1 ks1.length ck1)) ∧ Hid (Blk W (w.heap.size + 1) 25 (vcs k2 n2 t2 Al2 l2.length cl2 Ak2 ks2.length ck2)) ∧ Hid (Fr (fun _ => False) w W)) ⟨(Blk.new w _ _).alloc _, Blk.new1 w _ _ _, ((Fr.refl _ w).alloc _).alloc _⟩ ?_
  rintro W0 ⟨B1, B2, F⟩
  rw [HG.out] at B1 B2 ⊢
  have A1 := Lib.hid (blk_all B1.out)
  have A2 := Lib.hid (blk_all B2.out)
  have c10 : W0.cell? ⟨g, 0, none⟩ = some (.int .i64 k1) := B1.out.cell 0
  have c11 : W0.cell? ⟨g, 1, none⟩ = some (.int .i64 n1) := B1.out.cell 1
  have c12 : W0.cell? ⟨g, 2, none⟩ = some (.string (strOf t1)) := B1.out.cell 2
  have c13 : W0.cell? ⟨g, 3, none⟩ = some (.slice Al1 l1.length cl1) := B1.out.cell 3
  have c14 : W0.cell? ⟨g, 4, none⟩ = some (.slice Ak1 ks1.length ck1) := B1.out.cell 4
  have c20 : W0.cell? ⟨(g + 1), 0, none⟩ = some (.int .i64 k2) := B2.out.cell 0
  have c21 : W0.cell? ⟨(g + 1), 1, none⟩ = some (.int .i64 n2) := B2.out.cell 1
  have c22 : W0.cell? ⟨(g + 1), 2, none⟩ = some (.string (strOf t2)) := B2.out.cell 2
  have c23 : W0.cell? ⟨(g + 1), 3, none⟩ = some (.slice Al2 l2.length cl2) := B2.out.cell 3
  have c24 : W0.cell? ⟨(g + 1), 4, none⟩ = some (.slice Ak2 ks2.length ck2) := B2.out.cell 4
  have CL := Lib.hid (Long_c a W0 _ _ (R1.out.far F.out))
  cases hLa : decide (4000 < partsV a 20) with
  | true =>
    rw [hLa] at CL
    go_wp2_with (first
      | (refine wpList_load_val rfl 25 _ rfl g _ rfl _ A1.out _ Tryz.underlying25 rfl Z1.out ?_)
      | (refine wpList_load_val rfl 25 _ rfl (g + 1) _ rfl _ A2.out _ Tryz.underlying25 rfl Z2.out ?_))
    refine CL.out.mono ?_
    rintro e W1 ⟨rfl, f⟩
    clear c10 c11 c12 c13 c14 c20 c21 c22 c23 c24
    have B1 := Lib.hid (keepB B1.out f)
    have B2 := Lib.hid (keepB B2.out f)
    have A1 := Lib.hid (blk_all B1.out)
    have A2 := Lib.hid (blk_all B2.out)
    have c10 : W1.cell? ⟨g, 0, none⟩ = some (.int .i64 k1) := B1.out.cell 0
    have c11 : W1.cell? ⟨g, 1, none⟩ = some (.int .i64 n1) := B1.out.cell 1
    have c12 : W1.cell? ⟨g, 2, none⟩ = some (.string (strOf t1)) := B1.out.cell 2
    have c13 : W1.cell? ⟨g, 3, none⟩ = some (.slice Al1 l1.length cl1) := B1.out.cell 3
    have c14 : W1.cell? ⟨g, 4, none⟩ = some (.slice Ak1 ks1.length ck1) := B1.out.cell 4
    have c20 : W1.cell? ⟨(g + 1), 0, none⟩ = some (.int .i64 k2) := B2.out.cell 0
    have c21 : W1.cell? ⟨(g + 1), 1, none⟩ = some (.int .i64 n2) := B2.out.cell 1
    have c22 : W1.cell? ⟨(g + 1), 2, none⟩ = some (.string (strOf t2)) := B2.out.cell 2
    have c23 : W1.cell? ⟨(g + 1), 3, none⟩ = some (.slice Al2 l2.length cl2) := B2.out.cell 3
    have c24 : W1.cell? ⟨(g + 1), 4, none⟩ = some (.slice Ak2 ks2.length ck2) := B2.out.cell 4
    have F : Hid (Fr (fun _ => False) w W1) := Lib.hid (F.out.trans f (fun _ _ h => h))
    clear f
    clear CL
    go_wp2_with fail
    refine (awake_c W1 (HL.out.far F.out)).mono ?_
    rintro e W2 ⟨rfl, f⟩
    have F : Hid (Fr (fun _ => False) w W2) := Lib.hid (F.out.trans f (fun _ _ h => h))
    clear f
    go_wp2_with fail
    go_ret
    exact ⟨rfl, F.out⟩
  | false =>
    rw [hLa] at CL
    go_wp2_with (first
      | (refine wpList_load_val rfl 25 _ rfl g _ rfl _ A1.out _ Tryz.underlying25 rfl Z1.out ?_)
      | (refine wpList_load_val rfl 25 _ rfl (g + 1) _ rfl _ A2.out _ Tryz.underlying25 rfl Z2.out ?_))
    refine CL.out.mono ?_
    rintro e W1 ⟨rfl, f⟩
    clear c10 c11 c12 c13 c14 c20 c21 c22 c23 c24
    have B1 := Lib.hid (keepB B1.out f)
    have B2 := Lib.hid (keepB B2.out f)
    have A1 := Lib.hid (blk_all B1.out)
    have A2 := Lib.hid (blk_all B2.out)
    have c10 : W1.cell? ⟨g, 0, none⟩ = some (.int .i64 k1) := B1.out.cell 0
    have c11 : W1.cell? ⟨g, 1, none⟩ = some (.int .i64 n1) := B1.out.cell 1
    have c12 : W1.cell? ⟨g, 2, none⟩ = some (.string (strOf t1)) := B1.out.cell 2
    have c13 : W1.cell? ⟨g, 3, none⟩ = some (.slice Al1 l1.length cl1) := B1.out.cell 3
    have c14 : W1.cell? ⟨g, 4, none⟩ = some (.slice Ak1 ks1.length ck1) := B1.out.cell 4
    have c20 : W1.cell? ⟨(g + 1), 0, none⟩ = some (.int .i64 k2) := B2.out.cell 0
    have c21 : W1.cell? ⟨(g + 1), 1, none⟩ = some (.int .i64 n2) := B2.out.cell 1
    have c22 : W1.cell? ⟨(g + 1), 2, none⟩ = some (.string (strOf t2)) := B2.out.cell 2
    have c23 : W1.cell? ⟨(g + 1), 3, none⟩ = some (.slice Al2 l2.length cl2) := B2.out.cell 3
    have c24 : W1.cell? ⟨(g + 1), 4, none⟩ = some (.slice Ak2 ks2.length ck2) := B2.out.cell 4
    have F : Hid (Fr (fun _ => False) w W1) := Lib.hid (F.out.trans f (fun _ _ h => h))
    clear f
    clear CL
    have CL := Lib.hid (Long_c b W1 _ _ (R2.out.far F.out))
    cases hLb : decide (4000 < partsV b 20) with
    | true =>
      rw [hLb] at CL
      go_wp2_with (first
        | (refine wpList_load_val rfl 25 _ rfl g _ rfl _ A1.out _ Tryz.underlying25 rfl Z1.out ?_)
        | (refine wpList_load_val rfl 25 _ rfl (g + 1) _ rfl _ A2.out _ Tryz.underlying25 rfl Z2.out ?_))
      refine CL.out.mono ?_
      rintro e W3 ⟨rfl, f⟩
      clear c10 c11 c12 c13 c14 c20 c21 c22 c23 c24
      have B1 := Lib.hid (keepB B1.out f)
      have B2 := Lib.hid (keepB B2.out f)
      have A1 := Lib.hid (blk_all B1.out)
      have A2 := Lib.hid (blk_all B2.out)
      have c10 : W3.cell? ⟨g, 0, none⟩ = some (.int .i64 k1) := B1.out.cell 0
      have c11 : W3.cell? ⟨g, 1, none⟩ = some (.int .i64 n1) := B1.out.cell 1
      have c12 : W3.cell? ⟨g, 2, none⟩ = some (.string (strOf t1)) := B1.out.cell 2
      have c13 : W3.cell? ⟨g, 3, none⟩ = some (.slice Al1 l1.length cl1) := B1.out.cell 3
      have c14 : W3.cell? ⟨g, 4, none⟩ = some (.slice Ak1 ks1.length ck1) := B1.out.cell 4
      have c20 : W3.cell? ⟨(g + 1), 0, none⟩ = some (.int .i64 k2) := B2.out.cell 0
      have c21 : W3.cell? ⟨(g + 1), 1, none⟩ = some (.int .i64 n2) := B2.out.cell 1
      have c22 : W3.cell? ⟨(g + 1), 2, none⟩ = some (.string (strOf t2)) := B2.out.cell 2
      have c23 : W3.cell? ⟨(g + 1), 3, none⟩ = some (.slice Al2 l2.length cl2) := B2.out.cell 3
      have c24 : W3.cell? ⟨(g + 1), 4, none⟩ = some (.slice Ak2 ks2.length ck2) := B2.out.cell 4
      have F : Hid (Fr (fun _ => False) w W3) := Lib.hid (F.out.trans f (fun _ _ h => h))
      clear f
      clear CL
      go_wp2_with fail
      refine (awake_c W3 (HL.out.far F.out)).mono ?_
      rintro e W4 ⟨rfl, f⟩
      have F : Hid (Fr (fun _ => False) w W4) := Lib.hid (F.out.trans f (fun _ _ h => h))
      clear f
      go_wp2_with fail
      go_ret
      exact ⟨rfl, F.out⟩
    | false =>
      rw [hLb] at CL
      go_wp2_with (first
        | (refine wpList_load_val rfl 25 _ rfl g _ rfl _ A1.out _ Tryz.underlying25 rfl Z1.out ?_)
        | (refine wpList_load_val rfl 25 _ rfl (g + 1) _ rfl _ A2.out _ Tryz.underlying25 rfl Z2.out ?_))
      refine CL.out.mono ?_
      rintro e W3 ⟨rfl, f⟩
      clear c10 c11 c12 c13 c14 c20 c21 c22 c23 c24
      have B1 := Lib.hid (keepB B1.out f)
      have B2 := Lib.hid (keepB B2.out f)
      have A1 := Lib.hid (blk_all B1.out)
      have A2 := Lib.hid (blk_all B2.out)
      have c10 : W3.cell? ⟨g, 0, none⟩ = some (.int .i64 k1) := B1.out.cell 0
      have c11 : W3.cell? ⟨g, 1, none⟩ = some (.int .i64 n1) := B1.out.cell 1
      have c12 : W3.cell? ⟨g, 2, none⟩ = some (.string (strOf t1)) := B1.out.cell 2
      have c13 : W3.cell? ⟨g, 3, none⟩ = some (.slice Al1 l1.length cl1) := B1.out.cell 3
      have c14 : W3.cell? ⟨g, 4, none⟩ = some (.slice Ak1 ks1.length ck1) := B1.out.cell 4
      have c20 : W3.cell? ⟨(g + 1), 0, none⟩ = some (.int .i64 k2) := B2.out.cell 0
      have c21 : W3.cell? ⟨(g + 1), 1, none⟩ = some (.int .i64 n2) := B2.out.cell 1
      have c22 : W3.cell? ⟨(g + 1), 2, none⟩ = some (.string (strOf t2)) := B2.out.cell 2
      have c23 : W3.cell? ⟨(g + 1), 3, none⟩ = some (.slice Al2 l2.length cl2) := B2.out.cell 3
      have c24 : W3.cell? ⟨(g + 1), 4, none⟩ = some (.slice Ak2 ks2.length ck2) := B2.out.cell 4
      have F : Hid (Fr (fun _ => False) w W3) := Lib.hid (F.out.trans f (fun _ _ h => h))
      clear f
      clear CL
      obtain ⟨x, hx⟩ : ∃ x, cmpV a b = x := ⟨_, rfl⟩
      have HX := Lib.hid hx
      have CL := Lib.hid (cmp_c a b W3 _ _ _ _ (R1.out.far F.out) (R2.out.far F.out))
      rw [hx] at CL
      clear hx
      go_wp2_with (first
        | (refine wpList_load_val rfl 25 _ rfl g _ rfl _ A1.out _ Tryz.underlying25 rfl Z1.out ?_)
        | (refine wpList_load_val rfl 25 _ rfl (g + 1) _ rfl _ A2.out _ Tryz.underlying25 rfl Z2.out ?_))
      refine CL.out.mono ?_
      rintro e W5 ⟨rfl, f⟩
      clear c10 c11 c12 c13 c14 c20 c21 c22 c23 c24
      have B1 := Lib.hid (keepB B1.out f)
      have B2 := Lib.hid (keepB B2.out f)
      have A1 := Lib.hid (blk_all B1.out)
      have A2 := Lib.hid (blk_all B2.out)
      have c10 : W5.cell? ⟨g, 0, none⟩ = some (.int .i64 k1) := B1.out.cell 0
      have c11 : W5.cell? ⟨g, 1, none⟩ = some (.int .i64 n1) := B1.out.cell 1
      have c12 : W5.cell? ⟨g, 2, none⟩ = some (.string (strOf t1)) := B1.out.cell 2
      have c13 : W5.cell? ⟨g, 3, none⟩ = some (.slice Al1 l1.length cl1) := B1.out.cell 3
      have c14 : W5.cell? ⟨g, 4, none⟩ = some (.slice Ak1 ks1.length ck1) := B1.out.cell 4
      have c20 : W5.cell? ⟨(g + 1), 0, none⟩ = some (.int .i64 k2) := B2.out.cell 0
      have c21 : W5.cell? ⟨(g + 1), 1, none⟩ = some (.int .i64 n2) := B2.out.cell 1
      have c22 : W5.cell? ⟨(g + 1), 2, none⟩ = some (.string (strOf t2)) := B2.out.cell 2
      have c23 : W5.cell? ⟨(g + 1), 3, none⟩ = some (.slice Al2 l2.length cl2) := B2.out.cell 3
      have c24 : W5.cell? ⟨(g + 1), 4, none⟩ = some (.slice Ak2 ks2.length ck2) := B2.out.cell 4
      have F : Hid (Fr (fun _ => False) w W5) := Lib.hid (F.out.trans f (fun _ _ h => h))
      clear f
      clear CL
      have CL := Lib.hid (rmay_of rfields_c a W5 (R1.out.far F.out) hLa)
      cases hMa : mayV a with
      | false =>
        rw [hMa] at CL
        go_wp2_with (first
          | (refine wpList_load_val rfl 25 _ rfl g _ rfl _ A1.out _ Tryz.underlying25 rfl Z1.out ?_)
          | (refine wpList_load_val rfl 25 _ rfl (g + 1) _ rfl _ A2.out _ Tryz.underlying25 rfl Z2.out ?_))
        refine CL.out.mono ?_
        rintro e W6 ⟨rfl, f⟩
        clear c10 c11 c12 c13 c14 c20 c21 c22 c23 c24
        have B1 := Lib.hid (keepB B1.out f)
        have B2 := Lib.hid (keepB B2.out f)
        have A1 := Lib.hid (blk_all B1.out)
        have A2 := Lib.hid (blk_all B2.out)
        have c10 : W6.cell? ⟨g, 0, none⟩ = some (.int .i64 k1) := B1.out.cell 0
        have c11 : W6.cell? ⟨g, 1, none⟩ = some (.int .i64 n1) := B1.out.cell 1
        have c12 : W6.cell? ⟨g, 2, none⟩ = some (.string (strOf t1)) := B1.out.cell 2
        have c13 : W6.cell? ⟨g, 3, none⟩ = some (.slice Al1 l1.length cl1) := B1.out.cell 3
        have c14 : W6.cell? ⟨g, 4, none⟩ = some (.slice Ak1 ks1.length ck1) := B1.out.cell 4
        have c20 : W6.cell? ⟨(g + 1), 0, none⟩ = some (.int .i64 k2) := B2.out.cell 0
        have c21 : W6.cell? ⟨(g + 1), 1, none⟩ = some (.int .i64 n2) := B2.out.cell 1
        have c22 : W6.cell? ⟨(g + 1), 2, none⟩ = some (.string (strOf t2)) := B2.out.cell 2
        have c23 : W6.cell? ⟨(g + 1), 3, none⟩ = some (.slice Al2 l2.length cl2) := B2.out.cell 3
        have c24 : W6.cell? ⟨(g + 1), 4, none⟩ = some (.slice Ak2 ks2.length ck2) := B2.out.cell 4
        have F : Hid (Fr (fun _ => False) w W6) := Lib.hid (F.out.trans f (fun _ _ h => h))
        clear f
        clear CL
        go_wp2_with fail
        refine (awake_c W6 (HL.out.far F.out)).mono ?_
        rintro e W7 ⟨rfl, f⟩
        have F : Hid (Fr (fun _ => False) w W7) := Lib.hid (F.out.trans f (fun _ _ h => h))
        clear f
        go_wp2_with fail
        go_ret
        exact ⟨rfl, F.out⟩
      | true =>
        rw [hMa] at CL
        go_wp2_with (first
          | (refine wpList_load_val rfl 25 _ rfl g _ rfl _ A1.out _ Tryz.underlying25 rfl Z1.out ?_)
          | (refine wpList_load_val rfl 25 _ rfl (g + 1) _ rfl _ A2.out _ Tryz.underlying25 rfl Z2.out ?_))
        refine CL.out.mono ?_
        rintro e W6 ⟨rfl, f⟩
        clear c10 c11 c12 c13 c14 c20 c21 c22 c23 c24
        have B1 := Lib.hid (keepB B1.out f)
        have B2 := Lib.hid (keepB B2.out f)
        have A1 := Lib.hid (blk_all B1.out)
        have A2 := Lib.hid (blk_all B2.out)
        have c10 : W6.cell? ⟨g, 0, none⟩ = some (.int .i64 k1) := B1.out.cell 0
        have c11 : W6.cell? ⟨g, 1, none⟩ = some (.int .i64 n1) := B1.out.cell 1
        have c12 : W6.cell? ⟨g, 2, none⟩ = some (.string (strOf t1)) := B1.out.cell 2
        have c13 : W6.cell? ⟨g, 3, none⟩ = some (.slice Al1 l1.length cl1) := B1.out.cell 3
        have c14 : W6.cell? ⟨g, 4, none⟩ = some (.slice Ak1 ks1.length ck1) := B1.out.cell 4
        have c20 : W6.cell? ⟨(g + 1), 0, none⟩ = some (.int .i64 k2) := B2.out.cell 0
        have c21 : W6.cell? ⟨(g + 1), 1, none⟩ = some (.int .i64 n2) := B2.out.cell 1
        have c22 : W6.cell? ⟨(g + 1), 2, none⟩ = some (.string (strOf t2)) := B2.out.cell 2
        have c23 : W6.cell? ⟨(g + 1), 3, none⟩ = some (.slice Al2 l2.length cl2) := B2.out.cell 3
        have c24 : W6.cell? ⟨(g + 1), 4, none⟩ = some (.slice Ak2 ks2.length ck2) := B2.out.cell 4
        have F : Hid (Fr (fun _ => False) w W6) := Lib.hid (F.out.trans f (fun _ _ h => h))
        clear f
        clear CL
        have CL := Lib.hid (rmay_of rfields_c b W6 (R2.out.far F.out) hLb)
        cases hMb : mayV b with
        | false =>
          rw [hMb] at CL
          go_wp2_with (first
            | (refine wpList_load_val rfl 25 _ rfl g _ rfl _ A1.out _ Tryz.underlying25 rfl Z1.out ?_)
            | (refine wpList_load_val rfl 25 _ rfl (g + 1) _ rfl _ A2.out _ Tryz.underlying25 rfl Z2.out ?_))
          refine CL.out.mono ?_
          rintro e W8 ⟨rfl, f⟩
          clear c10 c11 c12 c13 c14 c20 c21 c22 c23 c24
          have B1 := Lib.hid (keepB B1.out f)
          have B2 := Lib.hid (keepB B2.out f)
          have A1 := Lib.hid (blk_all B1.out)
          have A2 := Lib.hid (blk_all B2.out)
          have c10 : W8.cell? ⟨g, 0, none⟩ = some (.int .i64 k1) := B1.out.cell 0
          have c11 : W8.cell? ⟨g, 1, none⟩ = some (.int .i64 n1) := B1.out.cell 1
          have c12 : W8.cell? ⟨g, 2, none⟩ = some (.string (strOf t1)) := B1.out.cell 2
          have c13 : W8.cell? ⟨g, 3, none⟩ = some (.slice Al1 l1.length cl1) := B1.out.cell 3
          have c14 : W8.cell? ⟨g, 4, none⟩ = some (.slice Ak1 ks1.length ck1) := B1.out.cell 4
          have c20 : W8.cell? ⟨(g + 1), 0, none⟩ = some (.int .i64 k2) := B2.out.cell 0
          have c21 : W8.cell? ⟨(g + 1), 1, none⟩ = some (.int .i64 n2) := B2.out.cell 1
          have c22 : W8.cell? ⟨(g + 1), 2, none⟩ = some (.string (strOf t2)) := B2.out.cell 2
          have c23 : W8.cell? ⟨(g + 1), 3, none⟩ = some (.slice Al2 l2.length cl2) := B2.out.cell 3
          have c24 : W8.cell? ⟨(g + 1), 4, none⟩ = some (.slice Ak2 ks2.length ck2) := B2.out.cell 4
          have F : Hid (Fr (fun _ => False) w W8) := Lib.hid (F.out.trans f (fun _ _ h => h))
          clear f
          clear CL
          go_wp2_with fail
          refine (awake_c W8 (HL.out.far F.out)).mono ?_
          rintro e W9 ⟨rfl, f⟩
          have F : Hid (Fr (fun _ => False) w W9) := Lib.hid (F.out.trans f (fun _ _ h => h))
          clear f
          go_wp2_with fail
          go_ret
          exact ⟨rfl, F.out⟩
        | true =>
          rw [hMb] at CL
          go_wp2_with (first
            | (refine wpList_load_val rfl 25 _ rfl g _ rfl _ A1.out _ Tryz.underlying25 rfl Z1.out ?_)
            | (refine wpList_load_val rfl 25 _ rfl (g + 1) _ rfl _ A2.out _ Tryz.underlying25 rfl Z2.out ?_))
          refine CL.out.mono ?_
          rintro e W8 ⟨rfl, f⟩
          clear c10 c11 c12 c13 c14 c20 c21 c22 c23 c24
          have B1 := Lib.hid (keepB B1.out f)
          have B2 := Lib.hid (keepB B2.out f)
          have A1 := Lib.hid (blk_all B1.out)
          have A2 := Lib.hid (blk_all B2.out)
          have c10 : W8.cell? ⟨g, 0, none⟩ = some (.int .i64 k1) := B1.out.cell 0
          have c11 : W8.cell? ⟨g, 1, none⟩ = some (.int .i64 n1) := B1.out.cell 1
          have c12 : W8.cell? ⟨g, 2, none⟩ = some (.string (strOf t1)) := B1.out.cell 2
          have c13 : W8.cell? ⟨g, 3, none⟩ = some (.slice Al1 l1.length cl1) := B1.out.cell 3
          have c14 : W8.cell? ⟨g, 4, none⟩ = some (.slice Ak1 ks1.length ck1) := B1.out.cell 4
          have c20 : W8.cell? ⟨(g + 1), 0, none⟩ = some (.int .i64 k2) := B2.out.cell 0
          have c21 : W8.cell? ⟨(g + 1), 1, none⟩ = some (.int .i64 n2) := B2.out.cell 1
          have c22 : W8.cell? ⟨(g + 1), 2, none⟩ = some (.string (strOf t2)) := B2.out.cell 2
          have c23 : W8.cell? ⟨(g + 1), 3, none⟩ = some (.slice Al2 l2.length cl2) := B2.out.cell 3
          have c24 : W8.cell? ⟨(g + 1), 4, none⟩ = some (.slice Ak2 ks2.length ck2) := B2.out.cell 4
          have F : Hid (Fr (fun _ => False) w W8) := Lib.hid (F.out.trans f (fun _ _ h => h))
          clear f
          clear CL
          have CL := Lib.hid (rcmp_c a b W8 _ _ _ _ (R1.out.far F.out) (R2.out.far F.out) (may_fields hMa).1 (may_fields hMb).1)
          rw [HX.out] at CL
          clear hLa hLb hMa hMb
          have hxx : (x == x) = true := by simp
          go_wp2_with (first
            | (refine wpList_load_val rfl 25 _ rfl g _ rfl _ A1.out _ Tryz.underlying25 rfl Z1.out ?_)
            | (refine wpList_load_val rfl 25 _ rfl (g + 1) _ rfl _ A2.out _ Tryz.underlying25 rfl Z2.out ?_))
          refine CL.out.mono ?_
          rintro e W10 ⟨rfl, f⟩
          clear c10 c11 c12 c13 c14 c20 c21 c22 c23 c24
          have B1 := Lib.hid (keepB B1.out f)
          have B2 := Lib.hid (keepB B2.out f)
          have A1 := Lib.hid (blk_all B1.out)
          have A2 := Lib.hid (blk_all B2.out)
          have c10 : W10.cell? ⟨g, 0, none⟩ = some (.int .i64 k1) := B1.out.cell 0
          have c11 : W10.cell? ⟨g, 1, none⟩ = some (.int .i64 n1) := B1.out.cell 1
          have c12 : W10.cell? ⟨g, 2, none⟩ = some (.string (strOf t1)) := B1.out.cell 2
          have c13 : W10.cell? ⟨g, 3, none⟩ = some (.slice Al1 l1.length cl1) := B1.out.cell 3
          have c14 : W10.cell? ⟨g, 4, none⟩ = some (.slice Ak1 ks1.length ck1) := B1.out.cell 4
          have c20 : W10.cell? ⟨(g + 1), 0, none⟩ = some (.int .i64 k2) := B2.out.cell 0
          have c21 : W10.cell? ⟨(g + 1), 1, none⟩ = some (.int .i64 n2) := B2.out.cell 1
          have c22 : W10.cell? ⟨(g + 1), 2, none⟩ = some (.string (strOf t2)) := B2.out.cell 2
          have c23 : W10.cell? ⟨(g + 1), 3, none⟩ = some (.slice Al2 l2.length cl2) := B2.out.cell 3
          have c24 : W10.cell? ⟨(g + 1), 4, none⟩ = some (.slice Ak2 ks2.length ck2) := B2.out.cell 4
          have F : Hid (Fr (fun _ => False) w W10) := Lib.hid (F.out.trans f (fun _ _ h => h))
          clear f
          clear CL
          go_wp2_with fail
          refine (awake_c W10 (HL.out.far F.out)).mono ?_
          rintro e W11 ⟨rfl, f⟩
          have F : Hid (Fr (fun _ => False) w W11) := Lib.hid (F.out.trans f (fun _ _ h => h))
          clear f
          go_wp2_with fail
          go_ret
          exact ⟨rfl, F.out⟩
end Go.Proofs.YtnkfkicabgajmaaGreatDoor
