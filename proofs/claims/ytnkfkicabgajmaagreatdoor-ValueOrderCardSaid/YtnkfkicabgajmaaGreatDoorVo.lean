/-
  THE LAW ValueOrder, WALKED. Written by gen_vo.py.
-/
import Derived.Test.YtnkfkicabgajmaaGreatDoorSm
import Derived.Deep.RegionHeld3
namespace Go.Proofs.YtnkfkicabgajmaaGreatDoor
set_option linter.unusedSimpArgs false
set_option linter.unusedVariables false
open Go Go.RowKit

/-- What is known of the operations of 'Cmp(a, b), Cmp(b, c)'. -/
def cmX (C1 C2 C3 : Array Value) (x y : Int) (i : Nat) (v : Value) (W : World) : Prop := match i with
  | 0 => v = .agg C1
  | 1 => v = .agg C2
  | 2 => v = .int .i64 x
  | 3 => v = .agg C2
  | 4 => v = .agg C3
  | 5 => v = .int .i64 y
  | _ => True
theorem cmX_far {C1 C2 C3 : Array Value} {x y : Int} {i : Nat} {v : Value} {W W' : World} (hx : cmX C1 C2 C3 x y i v W) : cmX C1 C2 C3 x y i v W' := by
  match i with
  | 0 => exact hx
  | 1 => exact hx
  | 2 => exact hx
  | 3 => exact hx
  | 4 => exact hx
  | 5 => exact hx
  | (n + 6) => exact hx
set_option maxRecDepth 100000 in
set_option maxHeartbeats 8000000 in
theorem valueOrder_c (w : World) {D1 D2 D3 : Nat → Prop} {C1 C2 C3 : Array Value} {a b c : V} (r1 : RdV D1 w C1 a) (r2 : RdV D2 w C2 b) (r3 : RdV D3 w C3 c) (hL : LaidOk w) :
    Calls Tryz.prog 5 #[.agg C1, .agg C2, .agg C3] w fun e w' => e = .returned (.bool true) ∧ Fr (fun _ => False) w w' := by
  have R1 := Lib.hid r1
  have R2 := Lib.hid r2
  have R3 := Lib.hid r3
  obtain ⟨k1, n1, t1, l1, ks1, Al1, cl1, Ak1, ck1, css1, ea1, rfl, -⟩ := r1.inv
  obtain ⟨k2, n2, t2, l2, ks2, Al2, cl2, Ak2, ck2, css2, ea2, rfl, -⟩ := r2.inv
  obtain ⟨k3, n3, t3, l3, ks3, Al3, cl3, Ak3, ck3, css3, ea3, rfl, -⟩ := r3.inv
  clear ea1 ea2 ea3
  have Z1 := Lib.hid (szV r1)
  have Z2 := Lib.hid (szV r2)
  have Z3 := Lib.hid (szV r3)
  have HL := Lib.hid hL
  obtain ⟨g, hg⟩ : ∃ g, w.heap.size = g := ⟨_, rfl⟩
  have HG := Lib.hid hg
  clear hL r1 r2 r3 hg
  go_enter Tryz.func5, Tryz.ntmps5
  go_upto_region 1 with fail
  refine abs_world (fun W => Hid (Blk W w.heap.size 25 (vcs k1 n1 t1 Al1 l1.length cl1 Ak1 ks1.length ck1)) ∧ Hid (Blk W (w.heap.size + 1) 25 (vcs k2 n2 t2 Al2 l2.length cl2 Ak2 ks2.length ck2)) ∧ Hid (Blk W (w.heap.size + 1 + 1) 25 (vcs k3 n3 t3 Al3 l3.length cl3 Ak3 ks3.length ck3)) ∧ Hid (Fr (fun _ => False) w W)) ⟨((Blk.new w _ _).alloc _).alloc _, (Blk.new1 w _ _ _).alloc _, Blk.new2 w _ _ _ _, (((Fr.refl _ w).alloc _).alloc _).alloc _⟩ ?_
  rintro W0 ⟨B1, B2, B3, F⟩
  rw [HG.out] at B1 B2 B3 ⊢
  have A1 := Lib.hid (blk_all B1.out)
  have A2 := Lib.hid (blk_all B2.out)
  have A3 := Lib.hid (blk_all B3.out)
  have c10 : W0.cell? ⟨g, 0, none⟩ = some (.int .i64 k1) := B1.out.cell 0
  have c11 : W0.cell? ⟨g, 1, none⟩ = some (.int .i64 n1) := B1.out.cell 1
  have c12 : W0.cell? ⟨g, 2, none⟩ = some (.string (strOf t1)) := B1.out.cell 2
  have c13 : W0.cell? ⟨g, 3, none⟩ = some (.slice Al1 l1.length cl1) := B1.out.cell 3
  have c14 : W0.cell? ⟨g, 4, none⟩ = some (.slice Ak1 ks1.length ck1) := B1.out.cell 4
  have c20 : W0.cell? ⟨(g + 1), 0, none⟩ = some (.int .i64 k2) := B2.out.cell 0
  have c21 : W0.cell? ⟨(g + 1), 1, none⟩ = some (.int .i64 n2) := B2.out.cell 1
  have c22 : W0.cell? ⟨(g + 1), 2, none⟩ = some (.string (strOf t2)) := B2.out.cell 2
  have c23 : W0.cell? ⟨(g + 1), 3, none⟩ = some (.slice Al2 l2.length cl2) := B2.out.cell 3
  have c24 : W0.cell? ⟨(g + 1), 4, none⟩ = some (.slice Ak2 ks2.length ck2) := B2.out.cell 4
  have c30 : W0.cell? ⟨(g + 1 + 1), 0, none⟩ = some (.int .i64 k3) := B3.out.cell 0
  have c31 : W0.cell? ⟨(g + 1 + 1), 1, none⟩ = some (.int .i64 n3) := B3.out.cell 1
  have c32 : W0.cell? ⟨(g + 1 + 1), 2, none⟩ = some (.string (strOf t3)) := B3.out.cell 2
  have c33 : W0.cell? ⟨(g + 1 + 1), 3, none⟩ = some (.slice Al3 l3.length cl3) := B3.out.cell 3
  have c34 : W0.cell? ⟨(g + 1 + 1), 4, none⟩ = some (.slice Ak3 ks3.length ck3) := B3.out.cell 4
  have CL := Lib.hid (Long_c a W0 _ _ (R1.out.far F.out))
  cases hLa : decide (4000 < partsV a 20) with
  | true =>
    rw [hLa] at CL
    go_wp2_with (first
      | (refine wpList_load_val rfl 25 _ rfl g _ rfl _ A1.out _ Tryz.underlying25 rfl Z1.out ?_)
      | (refine wpList_load_val rfl 25 _ rfl (g + 1) _ rfl _ A2.out _ Tryz.underlying25 rfl Z2.out ?_)
      | (refine wpList_load_val rfl 25 _ rfl (g + 1 + 1) _ rfl _ A3.out _ Tryz.underlying25 rfl Z3.out ?_))
    refine CL.out.mono ?_
    rintro e W1 ⟨rfl, f⟩
    clear c10 c11 c12 c13 c14 c20 c21 c22 c23 c24 c30 c31 c32 c33 c34
    have B1 := Lib.hid (keepB B1.out f)
    have B2 := Lib.hid (keepB B2.out f)
    have B3 := Lib.hid (keepB B3.out f)
    have A1 := Lib.hid (blk_all B1.out)
    have A2 := Lib.hid (blk_all B2.out)
    have A3 := Lib.hid (blk_all B3.out)
    have c10 : W1.cell? ⟨g, 0, none⟩ = some (.int .i64 k1) := B1.out.cell 0
    have c11 : W1.cell? ⟨g, 1, none⟩ = some (.int .i64 n1) := B1.out.cell 1
    have c12 : W1.cell? ⟨g, 2, none⟩ = some (.string (strOf t1)) := B1.out.cell 2
    have c13 : W1.cell? ⟨g, 3, none⟩ = some (.slice Al1 l1.length cl1) := B1.out.cell 3
    have c14 : W1.cell? ⟨g, 4, none⟩ = some (.slice Ak1 ks1.length ck1) := B1.out.cell 4
    have c20 : W1.cell? ⟨(g + 1), 0, none⟩ = some (.int .i64 k2) := B2.out.cell 0
    have c21 : W1.cell? ⟨(g + 1), 1, none⟩ = some (.int .i64 n2) := B2.out.cell 1
    have c22 : W1.cell? ⟨(g + 1), 2, none⟩ = some (.string (strOf t2)) := B2.out.cell 2
    have c23 : W1.cell? ⟨(g + 1), 3, none⟩ = some (.slice Al2 l2.length cl2) := B2.out.cell 3
    have c24 : W1.cell? ⟨(g + 1), 4, none⟩ = some (.slice Ak2 ks2.length ck2) := B2.out.cell 4
    have c30 : W1.cell? ⟨(g + 1 + 1), 0, none⟩ = some (.int .i64 k3) := B3.out.cell 0
    have c31 : W1.cell? ⟨(g + 1 + 1), 1, none⟩ = some (.int .i64 n3) := B3.out.cell 1
    have c32 : W1.cell? ⟨(g + 1 + 1), 2, none⟩ = some (.string (strOf t3)) := B3.out.cell 2
    have c33 : W1.cell? ⟨(g + 1 + 1), 3, none⟩ = some (.slice Al3 l3.length cl3) := B3.out.cell 3
    have c34 : W1.cell? ⟨(g + 1 + 1), 4, none⟩ = some (.slice Ak3 ks3.length ck3) := B3.out.cell 4
    have F : Hid (Fr (fun _ => False) w W1) := Lib.hid (F.out.trans f (fun _ _ h => h))
    clear f
    clear CL
    go_wp2_with fail
    refine (awake_c W1 (HL.out.far F.out)).mono ?_
    rintro e W2 ⟨rfl, f⟩
    have F : Hid (Fr (fun _ => False) w W2) := Lib.hid (F.out.trans f (fun _ _ h => h))
    clear f
    go_wp2_with fail
    go_ret
    exact ⟨rfl, F.out⟩
  | false =>
    rw [hLa] at CL
    go_wp2_with (first
      | (refine wpList_load_val rfl 25 _ rfl g _ rfl _ A1.out _ Tryz.underlying25 rfl Z1.out ?_)
      | (refine wpList_load_val rfl 25 _ rfl (g + 1) _ rfl _ A2.out _ Tryz.underlying25 rfl Z2.out ?_)
      | (refine wpList_load_val rfl 25 _ rfl (g + 1 + 1) _ rfl _ A3.out _ Tryz.underlying25 rfl Z3.out ?_))
    refine CL.out.mono ?_
    rintro e W1 ⟨rfl, f⟩
    clear c10 c11 c12 c13 c14 c20 c21 c22 c23 c24 c30 c31 c32 c33 c34
    have B1 := Lib.hid (keepB B1.out f)
    have B2 := Lib.hid (keepB B2.out f)
    have B3 := Lib.hid (keepB B3.out f)
    have A1 := Lib.hid (blk_all B1.out)
    have A2 := Lib.hid (blk_all B2.out)
    have A3 := Lib.hid (blk_all B3.out)
    have c10 : W1.cell? ⟨g, 0, none⟩ = some (.int .i64 k1) := B1.out.cell 0
    have c11 : W1.cell? ⟨g, 1, none⟩ = some (.int .i64 n1) := B1.out.cell 1
    have c12 : W1.cell? ⟨g, 2, none⟩ = some (.string (strOf t1)) := B1.out.cell 2
    have c13 : W1.cell? ⟨g, 3, none⟩ = some (.slice Al1 l1.length cl1) := B1.out.cell 3
    have c14 : W1.cell? ⟨g, 4, none⟩ = some (.slice Ak1 ks1.length ck1) := B1.out.cell 4
    have c20 : W1.cell? ⟨(g + 1), 0, none⟩ = some (.int .i64 k2) := B2.out.cell 0
    have c21 : W1.cell? ⟨(g + 1), 1, none⟩ = some (.int .i64 n2) := B2.out.cell 1
    have c22 : W1.cell? ⟨(g + 1), 2, none⟩ = some (.string (strOf t2)) := B2.out.cell 2
    have c23 : W1.cell? ⟨(g + 1), 3, none⟩ = some (.slice Al2 l2.length cl2) := B2.out.cell 3
    have c24 : W1.cell? ⟨(g + 1), 4, none⟩ = some (.slice Ak2 ks2.length ck2) := B2.out.cell 4
    have c30 : W1.cell? ⟨(g + 1 + 1), 0, none⟩ = some (.int .i64 k3) := B3.out.cell 0
    have c31 : W1.cell? ⟨(g + 1 + 1), 1, none⟩ = some (.int .i64 n3) := B3.out.cell 1
    have c32 : W1.cell? ⟨(g + 1 + 1), 2, none⟩ = some (.string (strOf t3)) := B3.out.cell 2
    have c33 : W1.cell? ⟨(g + 1 + 1), 3, none⟩ = some (.slice Al3 l3.length cl3) := B3.out.cell 3
    have c34 : W1.cell? ⟨(g + 1 + 1), 4, none⟩ = some (.slice Ak3 ks3.length ck3) := B3.out.cell 4
    have F : Hid (Fr (fun _ => False) w W1) := Lib.hid (F.out.trans f (fun _ _ h => h))
    clear f
    clear CL
    have CL := Lib.hid (Long_c b W1 _ _ (R2.out.far F.out))
    cases hLb : decide (4000 < partsV b 20) with
    | true =>
      rw [hLb] at CL
      go_wp2_with (first
        | (refine wpList_load_val rfl 25 _ rfl g _ rfl _ A1.out _ Tryz.underlying25 rfl Z1.out ?_)
        | (refine wpList_load_val rfl 25 _ rfl (g + 1) _ rfl _ A2.out _ Tryz.underlying25 rfl Z2.out ?_)
        | (refine wpList_load_val rfl 25 _ rfl (g + 1 + 1) _ rfl _ A3.out _ Tryz.underlying25 rfl Z3.out ?_))
      refine CL.out.mono ?_
      rintro e W3 ⟨rfl, f⟩
      clear c10 c11 c12 c13 c14 c20 c21 c22 c23 c24 c30 c31 c32 c33 c34
      have B1 := Lib.hid (keepB B1.out f)
      have B2 := Lib.hid (keepB B2.out f)
      have B3 := Lib.hid (keepB B3.out f)
      have A1 := Lib.hid (blk_all B1.out)
      have A2 := Lib.hid (blk_all B2.out)
      have A3 := Lib.hid (blk_all B3.out)
      have c10 : W3.cell? ⟨g, 0, none⟩ = some (.int .i64 k1) := B1.out.cell 0
      have c11 : W3.cell? ⟨g, 1, none⟩ = some (.int .i64 n1) := B1.out.cell 1
      have c12 : W3.cell? ⟨g, 2, none⟩ = some (.string (strOf t1)) := B1.out.cell 2
      have c13 : W3.cell? ⟨g, 3, none⟩ = some (.slice Al1 l1.length cl1) := B1.out.cell 3
      have c14 : W3.cell? ⟨g, 4, none⟩ = some (.slice Ak1 ks1.length ck1) := B1.out.cell 4
      have c20 : W3.cell? ⟨(g + 1), 0, none⟩ = some (.int .i64 k2) := B2.out.cell 0
      have c21 : W3.cell? ⟨(g + 1), 1, none⟩ = some (.int .i64 n2) := B2.out.cell 1
      have c22 : W3.cell? ⟨(g + 1), 2, none⟩ = some (.string (strOf t2)) := B2.out.cell 2
      have c23 : W3.cell? ⟨(g + 1), 3, none⟩ = some (.slice Al2 l2.length cl2) := B2.out.cell 3
      have c24 : W3.cell? ⟨(g + 1), 4, none⟩ = some (.slice Ak2 ks2.length ck2) := B2.out.cell 4
      have c30 : W3.cell? ⟨(g + 1 + 1), 0, none⟩ = some (.int .i64 k3) := B3.out.cell 0
      have c31 : W3.cell? ⟨(g + 1 + 1), 1, none⟩ = some (.int .i64 n3) := B3.out.cell 1
      have c32 : W3.cell? ⟨(g + 1 + 1), 2, none⟩ = some (.string (strOf t3)) := B3.out.cell 2
      have c33 : W3.cell? ⟨(g + 1 + 1), 3, none⟩ = some (.slice Al3 l3.length cl3) := B3.out.cell 3
      have c34 : W3.cell? ⟨(g + 1 + 1), 4, none⟩ = some (.slice Ak3 ks3.length ck3) := B3.out.cell 4
      have F : Hid (Fr (fun _ => False) w W3) := Lib.hid (F.out.trans f (fun _ _ h => h))
      clear f
      clear CL
      go_wp2_with fail
      refine (awake_c W3 (HL.out.far F.out)).mono ?_
      rintro e W4 ⟨rfl, f⟩
      have F : Hid (Fr (fun _ => False) w W4) := Lib.hid (F.out.trans f (fun _ _ h => h))
      clear f
      go_wp2_with fail
      go_ret
      exact ⟨rfl, F.out⟩
    | false =>
      rw [hLb] at CL
      go_wp2_with (first
        | (refine wpList_load_val rfl 25 _ rfl g _ rfl _ A1.out _ Tryz.underlying25 rfl Z1.out ?_)
        | (refine wpList_load_val rfl 25 _ rfl (g + 1) _ rfl _ A2.out _ Tryz.underlying25 rfl Z2.out ?_)
        | (refine wpList_load_val rfl 25 _ rfl (g + 1 + 1) _ rfl _ A3.out _ Tryz.underlying25 rfl Z3.out ?_))
      refine CL.out.mono ?_
      rintro e W3 ⟨rfl, f⟩
      clear c10 c11 c12 c13 c14 c20 c21 c22 c23 c24 c30 c31 c32 c33 c34
      have B1 := Lib.hid (keepB B1.out f)
      have B2 := Lib.hid (keepB B2.out f)
      have B3 := Lib.hid (keepB B3.out f)
      have A1 := Lib.hid (blk_all B1.out)
      have A2 := Lib.hid (blk_all B2.out)
      have A3 := Lib.hid (blk_all B3.out)
      have c10 : W3.cell? ⟨g, 0, none⟩ = some (.int .i64 k1) := B1.out.cell 0
      have c11 : W3.cell? ⟨g, 1, none⟩ = some (.int .i64 n1) := B1.out.cell 1
      have c12 : W3.cell? ⟨g, 2, none⟩ = some (.string (strOf t1)) := B1.out.cell 2
      have c13 : W3.cell? ⟨g, 3, none⟩ = some (.slice Al1 l1.length cl1) := B1.out.cell 3
      have c14 : W3.cell? ⟨g, 4, none⟩ = some (.slice Ak1 ks1.length ck1) := B1.out.cell 4
      have c20 : W3.cell? ⟨(g + 1), 0, none⟩ = some (.int .i64 k2) := B2.out.cell 0
      have c21 : W3.cell? ⟨(g + 1), 1, none⟩ = some (.int .i64 n2) := B2.out.cell 1
      have c22 : W3.cell? ⟨(g + 1), 2, none⟩ = some (.string (strOf t2)) := B2.out.cell 2
      have c23 : W3.cell? ⟨(g + 1), 3, none⟩ = some (.slice Al2 l2.length cl2) := B2.out.cell 3
      have c24 : W3.cell? ⟨(g + 1), 4, none⟩ = some (.slice Ak2 ks2.length ck2) := B2.out.cell 4
      have c30 : W3.cell? ⟨(g + 1 + 1), 0, none⟩ = some (.int .i64 k3) := B3.out.cell 0
      have c31 : W3.cell? ⟨(g + 1 + 1), 1, none⟩ = some (.int .i64 n3) := B3.out.cell 1
      have c32 : W3.cell? ⟨(g + 1 + 1), 2, none⟩ = some (.string (strOf t3)) := B3.out.cell 2
      have c33 : W3.cell? ⟨(g + 1 + 1), 3, none⟩ = some (.slice Al3 l3.length cl3) := B3.out.cell 3
      have c34 : W3.cell? ⟨(g + 1 + 1), 4, none⟩ = some (.slice Ak3 ks3.length ck3) := B3.out.cell 4
      have F : Hid (Fr (fun _ => False) w W3) := Lib.hid (F.out.trans f (fun _ _ h => h))
      clear f
      clear CL
      have CL := Lib.hid (Long_c c W3 _ _ (R3.out.far F.out))
      cases hLc : decide (4000 < partsV c 20) with
      | true =>
        rw [hLc] at CL
        go_wp2_with (first
          | (refine wpList_load_val rfl 25 _ rfl g _ rfl _ A1.out _ Tryz.underlying25 rfl Z1.out ?_)
          | (refine wpList_load_val rfl 25 _ rfl (g + 1) _ rfl _ A2.out _ Tryz.underlying25 rfl Z2.out ?_)
          | (refine wpList_load_val rfl 25 _ rfl (g + 1 + 1) _ rfl _ A3.out _ Tryz.underlying25 rfl Z3.out ?_))
        refine CL.out.mono ?_
        rintro e W5 ⟨rfl, f⟩
        clear c10 c11 c12 c13 c14 c20 c21 c22 c23 c24 c30 c31 c32 c33 c34
        have B1 := Lib.hid (keepB B1.out f)
        have B2 := Lib.hid (keepB B2.out f)
        have B3 := Lib.hid (keepB B3.out f)
        have A1 := Lib.hid (blk_all B1.out)
        have A2 := Lib.hid (blk_all B2.out)
        have A3 := Lib.hid (blk_all B3.out)
        have c10 : W5.cell? ⟨g, 0, none⟩ = some (.int .i64 k1) := B1.out.cell 0
        have c11 : W5.cell? ⟨g, 1, none⟩ = some (.int .i64 n1) := B1.out.cell 1
        have c12 : W5.cell? ⟨g, 2, none⟩ = some (.string (strOf t1)) := B1.out.cell 2
        have c13 : W5.cell? ⟨g, 3, none⟩ = some (.slice Al1 l1.length cl1) := B1.out.cell 3
        have c14 : W5.cell? ⟨g, 4, none⟩ = some (.slice Ak1 ks1.length ck1) := B1.out.cell 4
        have c20 : W5.cell? ⟨(g + 1), 0, none⟩ = some (.int .i64 k2) := B2.out.cell 0
        have c21 : W5.cell? ⟨(g + 1), 1, none⟩ = some (.int .i64 n2) := B2.out.cell 1
        have c22 : W5.cell? ⟨(g + 1), 2, none⟩ = some (.string (strOf t2)) := B2.out.cell 2
        have c23 : W5.cell? ⟨(g + 1), 3, none⟩ = some (.slice Al2 l2.length cl2) := B2.out.cell 3
        have c24 : W5.cell? ⟨(g + 1), 4, none⟩ = some (.slice Ak2 ks2.length ck2) := B2.out.cell 4
        have c30 : W5.cell? ⟨(g + 1 + 1), 0, none⟩ = some (.int .i64 k3) := B3.out.cell 0
        have c31 : W5.cell? ⟨(g + 1 + 1), 1, none⟩ = some (.int .i64 n3) := B3.out.cell 1
        have c32 : W5.cell? ⟨(g + 1 + 1), 2, none⟩ = some (.string (strOf t3)) := B3.out.cell 2
        have c33 : W5.cell? ⟨(g + 1 + 1), 3, none⟩ = some (.slice Al3 l3.length cl3) := B3.out.cell 3
        have c34 : W5.cell? ⟨(g + 1 + 1), 4, none⟩ = some (.slice Ak3 ks3.length ck3) := B3.out.cell 4
        have F : Hid (Fr (fun _ => False) w W5) := Lib.hid (F.out.trans f (fun _ _ h => h))
        clear f
        clear CL
        go_wp2_with fail
        refine (awake_c W5 (HL.out.far F.out)).mono ?_
        rintro e W6 ⟨rfl, f⟩
        have F : Hid (Fr (fun _ => False) w W6) := Lib.hid (F.out.trans f (fun _ _ h => h))
        clear f
        go_wp2_with fail
        go_ret
        exact ⟨rfl, F.out⟩
      | false =>
        rw [hLc] at CL
        go_wp2_with (first
          | (refine wpList_load_val rfl 25 _ rfl g _ rfl _ A1.out _ Tryz.underlying25 rfl Z1.out ?_)
          | (refine wpList_load_val rfl 25 _ rfl (g + 1) _ rfl _ A2.out _ Tryz.underlying25 rfl Z2.out ?_)
          | (refine wpList_load_val rfl 25 _ rfl (g + 1 + 1) _ rfl _ A3.out _ Tryz.underlying25 rfl Z3.out ?_))
        refine CL.out.mono ?_
        rintro e W5 ⟨rfl, f⟩
        clear c10 c11 c12 c13 c14 c20 c21 c22 c23 c24 c30 c31 c32 c33 c34
        have B1 := Lib.hid (keepB B1.out f)
        have B2 := Lib.hid (keepB B2.out f)
        have B3 := Lib.hid (keepB B3.out f)
        have A1 := Lib.hid (blk_all B1.out)
        have A2 := Lib.hid (blk_all B2.out)
        have A3 := Lib.hid (blk_all B3.out)
        have c10 : W5.cell? ⟨g, 0, none⟩ = some (.int .i64 k1) := B1.out.cell 0
        have c11 : W5.cell? ⟨g, 1, none⟩ = some (.int .i64 n1) := B1.out.cell 1
        have c12 : W5.cell? ⟨g, 2, none⟩ = some (.string (strOf t1)) := B1.out.cell 2
        have c13 : W5.cell? ⟨g, 3, none⟩ = some (.slice Al1 l1.length cl1) := B1.out.cell 3
        have c14 : W5.cell? ⟨g, 4, none⟩ = some (.slice Ak1 ks1.length ck1) := B1.out.cell 4
        have c20 : W5.cell? ⟨(g + 1), 0, none⟩ = some (.int .i64 k2) := B2.out.cell 0
        have c21 : W5.cell? ⟨(g + 1), 1, none⟩ = some (.int .i64 n2) := B2.out.cell 1
        have c22 : W5.cell? ⟨(g + 1), 2, none⟩ = some (.string (strOf t2)) := B2.out.cell 2
        have c23 : W5.cell? ⟨(g + 1), 3, none⟩ = some (.slice Al2 l2.length cl2) := B2.out.cell 3
        have c24 : W5.cell? ⟨(g + 1), 4, none⟩ = some (.slice Ak2 ks2.length ck2) := B2.out.cell 4
        have c30 : W5.cell? ⟨(g + 1 + 1), 0, none⟩ = some (.int .i64 k3) := B3.out.cell 0
        have c31 : W5.cell? ⟨(g + 1 + 1), 1, none⟩ = some (.int .i64 n3) := B3.out.cell 1
        have c32 : W5.cell? ⟨(g + 1 + 1), 2, none⟩ = some (.string (strOf t3)) := B3.out.cell 2
        have c33 : W5.cell? ⟨(g + 1 + 1), 3, none⟩ = some (.slice Al3 l3.length cl3) := B3.out.cell 3
        have c34 : W5.cell? ⟨(g + 1 + 1), 4, none⟩ = some (.slice Ak3 ks3.length ck3) := B3.out.cell 4
        have F : Hid (Fr (fun _ => False) w W5) := Lib.hid (F.out.trans f (fun _ _ h => h))
        clear f
        clear CL
        have CL := Lib.hid (may_c a W5 _ _ (R1.out.far F.out) (sm_of_not_long hLa) (HL.out.far F.out))
        cases hMa : mayV a with
        | false =>
          rw [hMa] at CL
          go_wp2_with (first
            | (refine wpList_load_val rfl 25 _ rfl g _ rfl _ A1.out _ Tryz.underlying25 rfl Z1.out ?_)
            | (refine wpList_load_val rfl 25 _ rfl (g + 1) _ rfl _ A2.out _ Tryz.underlying25 rfl Z2.out ?_)
            | (refine wpList_load_val rfl 25 _ rfl (g + 1 + 1) _ rfl _ A3.out _ Tryz.underlying25 rfl Z3.out ?_))
          refine CL.out.mono ?_
          rintro e W7 ⟨rfl, f⟩
          clear c10 c11 c12 c13 c14 c20 c21 c22 c23 c24 c30 c31 c32 c33 c34
          have B1 := Lib.hid (keepB B1.out f)
          have B2 := Lib.hid (keepB B2.out f)
          have B3 := Lib.hid (keepB B3.out f)
          have A1 := Lib.hid (blk_all B1.out)
          have A2 := Lib.hid (blk_all B2.out)
          have A3 := Lib.hid (blk_all B3.out)
          have c10 : W7.cell? ⟨g, 0, none⟩ = some (.int .i64 k1) := B1.out.cell 0
          have c11 : W7.cell? ⟨g, 1, none⟩ = some (.int .i64 n1) := B1.out.cell 1
          have c12 : W7.cell? ⟨g, 2, none⟩ = some (.string (strOf t1)) := B1.out.cell 2
          have c13 : W7.cell? ⟨g, 3, none⟩ = some (.slice Al1 l1.length cl1) := B1.out.cell 3
          have c14 : W7.cell? ⟨g, 4, none⟩ = some (.slice Ak1 ks1.length ck1) := B1.out.cell 4
          have c20 : W7.cell? ⟨(g + 1), 0, none⟩ = some (.int .i64 k2) := B2.out.cell 0
          have c21 : W7.cell? ⟨(g + 1), 1, none⟩ = some (.int .i64 n2) := B2.out.cell 1
          have c22 : W7.cell? ⟨(g + 1), 2, none⟩ = some (.string (strOf t2)) := B2.out.cell 2
          have c23 : W7.cell? ⟨(g + 1), 3, none⟩ = some (.slice Al2 l2.length cl2) := B2.out.cell 3
          have c24 : W7.cell? ⟨(g + 1), 4, none⟩ = some (.slice Ak2 ks2.length ck2) := B2.out.cell 4
          have c30 : W7.cell? ⟨(g + 1 + 1), 0, none⟩ = some (.int .i64 k3) := B3.out.cell 0
          have c31 : W7.cell? ⟨(g + 1 + 1), 1, none⟩ = some (.int .i64 n3) := B3.out.cell 1
          have c32 : W7.cell? ⟨(g + 1 + 1), 2, none⟩ = some (.string (strOf t3)) := B3.out.cell 2
          have c33 : W7.cell? ⟨(g + 1 + 1), 3, none⟩ = some (.slice Al3 l3.length cl3) := B3.out.cell 3
          have c34 : W7.cell? ⟨(g + 1 + 1), 4, none⟩ = some (.slice Ak3 ks3.length ck3) := B3.out.cell 4
          have F : Hid (Fr (fun _ => False) w W7) := Lib.hid (F.out.trans f (fun _ _ h => h))
          clear f
          clear CL
          go_wp2_with fail
          refine (awake_c W7 (HL.out.far F.out)).mono ?_
          rintro e W8 ⟨rfl, f⟩
          have F : Hid (Fr (fun _ => False) w W8) := Lib.hid (F.out.trans f (fun _ _ h => h))
          clear f
          go_wp2_with fail
          go_ret
          exact ⟨rfl, F.out⟩
        | true =>
          rw [hMa] at CL
          go_wp2_with (first
            | (refine wpList_load_val rfl 25 _ rfl g _ rfl _ A1.out _ Tryz.underlying25 rfl Z1.out ?_)
            | (refine wpList_load_val rfl 25 _ rfl (g + 1) _ rfl _ A2.out _ Tryz.underlying25 rfl Z2.out ?_)
            | (refine wpList_load_val rfl 25 _ rfl (g + 1 + 1) _ rfl _ A3.out _ Tryz.underlying25 rfl Z3.out ?_))
          refine CL.out.mono ?_
          rintro e W7 ⟨rfl, f⟩
          clear c10 c11 c12 c13 c14 c20 c21 c22 c23 c24 c30 c31 c32 c33 c34
          have B1 := Lib.hid (keepB B1.out f)
          have B2 := Lib.hid (keepB B2.out f)
          have B3 := Lib.hid (keepB B3.out f)
          have A1 := Lib.hid (blk_all B1.out)
          have A2 := Lib.hid (blk_all B2.out)
          have A3 := Lib.hid (blk_all B3.out)
          have c10 : W7.cell? ⟨g, 0, none⟩ = some (.int .i64 k1) := B1.out.cell 0
          have c11 : W7.cell? ⟨g, 1, none⟩ = some (.int .i64 n1) := B1.out.cell 1
          have c12 : W7.cell? ⟨g, 2, none⟩ = some (.string (strOf t1)) := B1.out.cell 2
          have c13 : W7.cell? ⟨g, 3, none⟩ = some (.slice Al1 l1.length cl1) := B1.out.cell 3
          have c14 : W7.cell? ⟨g, 4, none⟩ = some (.slice Ak1 ks1.length ck1) := B1.out.cell 4
          have c20 : W7.cell? ⟨(g + 1), 0, none⟩ = some (.int .i64 k2) := B2.out.cell 0
          have c21 : W7.cell? ⟨(g + 1), 1, none⟩ = some (.int .i64 n2) := B2.out.cell 1
          have c22 : W7.cell? ⟨(g + 1), 2, none⟩ = some (.string (strOf t2)) := B2.out.cell 2
          have c23 : W7.cell? ⟨(g + 1), 3, none⟩ = some (.slice Al2 l2.length cl2) := B2.out.cell 3
          have c24 : W7.cell? ⟨(g + 1), 4, none⟩ = some (.slice Ak2 ks2.length ck2) := B2.out.cell 4
          have c30 : W7.cell? ⟨(g + 1 + 1), 0, none⟩ = some (.int .i64 k3) := B3.out.cell 0
          have c31 : W7.cell? ⟨(g + 1 + 1), 1, none⟩ = some (.int .i64 n3) := B3.out.cell 1
          have c32 : W7.cell? ⟨(g + 1 + 1), 2, none⟩ = some (.string (strOf t3)) := B3.out.cell 2
          have c33 : W7.cell? ⟨(g + 1 + 1), 3, none⟩ = some (.slice Al3 l3.length cl3) := B3.out.cell 3
          have c34 : W7.cell? ⟨(g + 1 + 1), 4, none⟩ = some (.slice Ak3 ks3.length ck3) := B3.out.cell 4
          have F : Hid (Fr (fun _ => False) w W7) := Lib.hid (F.out.trans f (fun _ _ h => h))
          clear f
          clear CL
          have CL := Lib.hid (may_c b W7 _ _ (R2.out.far F.out) (sm_of_not_long hLb) (HL.out.far F.out))
          cases hMb : mayV b with
          | false =>
            rw [hMb] at CL
            go_wp2_with (first
              | (refine wpList_load_val rfl 25 _ rfl g _ rfl _ A1.out _ Tryz.underlying25 rfl Z1.out ?_)
              | (refine wpList_load_val rfl 25 _ rfl (g + 1) _ rfl _ A2.out _ Tryz.underlying25 rfl Z2.out ?_)
              | (refine wpList_load_val rfl 25 _ rfl (g + 1 + 1) _ rfl _ A3.out _ Tryz.underlying25 rfl Z3.out ?_))
            refine CL.out.mono ?_
            rintro e W9 ⟨rfl, f⟩
            clear c10 c11 c12 c13 c14 c20 c21 c22 c23 c24 c30 c31 c32 c33 c34
            have B1 := Lib.hid (keepB B1.out f)
            have B2 := Lib.hid (keepB B2.out f)
            have B3 := Lib.hid (keepB B3.out f)
            have A1 := Lib.hid (blk_all B1.out)
            have A2 := Lib.hid (blk_all B2.out)
            have A3 := Lib.hid (blk_all B3.out)
            have c10 : W9.cell? ⟨g, 0, none⟩ = some (.int .i64 k1) := B1.out.cell 0
            have c11 : W9.cell? ⟨g, 1, none⟩ = some (.int .i64 n1) := B1.out.cell 1
            have c12 : W9.cell? ⟨g, 2, none⟩ = some (.string (strOf t1)) := B1.out.cell 2
            have c13 : W9.cell? ⟨g, 3, none⟩ = some (.slice Al1 l1.length cl1) := B1.out.cell 3
            have c14 : W9.cell? ⟨g, 4, none⟩ = some (.slice Ak1 ks1.length ck1) := B1.out.cell 4
            have c20 : W9.cell? ⟨(g + 1), 0, none⟩ = some (.int .i64 k2) := B2.out.cell 0
            have c21 : W9.cell? ⟨(g + 1), 1, none⟩ = some (.int .i64 n2) := B2.out.cell 1
            have c22 : W9.cell? ⟨(g + 1), 2, none⟩ = some (.string (strOf t2)) := B2.out.cell 2
            have c23 : W9.cell? ⟨(g + 1), 3, none⟩ = some (.slice Al2 l2.length cl2) := B2.out.cell 3
            have c24 : W9.cell? ⟨(g + 1), 4, none⟩ = some (.slice Ak2 ks2.length ck2) := B2.out.cell 4
            have c30 : W9.cell? ⟨(g + 1 + 1), 0, none⟩ = some (.int .i64 k3) := B3.out.cell 0
            have c31 : W9.cell? ⟨(g + 1 + 1), 1, none⟩ = some (.int .i64 n3) := B3.out.cell 1
            have c32 : W9.cell? ⟨(g + 1 + 1), 2, none⟩ = some (.string (strOf t3)) := B3.out.cell 2
            have c33 : W9.cell? ⟨(g + 1 + 1), 3, none⟩ = some (.slice Al3 l3.length cl3) := B3.out.cell 3
            have c34 : W9.cell? ⟨(g + 1 + 1), 4, none⟩ = some (.slice Ak3 ks3.length ck3) := B3.out.cell 4
            have F : Hid (Fr (fun _ => False) w W9) := Lib.hid (F.out.trans f (fun _ _ h => h))
            clear f
            clear CL
            go_wp2_with fail
            refine (awake_c W9 (HL.out.far F.out)).mono ?_
            rintro e W10 ⟨rfl, f⟩
            have F : Hid (Fr (fun _ => False) w W10) := Lib.hid (F.out.trans f (fun _ _ h => h))
            clear f
            go_wp2_with fail
            go_ret
            exact ⟨rfl, F.out⟩
          | true =>
            rw [hMb] at CL
            go_wp2_with (first
              | (refine wpList_load_val rfl 25 _ rfl g _ rfl _ A1.out _ Tryz.underlying25 rfl Z1.out ?_)
              | (refine wpList_load_val rfl 25 _ rfl (g + 1) _ rfl _ A2.out _ Tryz.underlying25 rfl Z2.out ?_)
              | (refine wpList_load_val rfl 25 _ rfl (g + 1 + 1) _ rfl _ A3.out _ Tryz.underlying25 rfl Z3.out ?_))
            refine CL.out.mono ?_
            rintro e W9 ⟨rfl, f⟩
            clear c10 c11 c12 c13 c14 c20 c21 c22 c23 c24 c30 c31 c32 c33 c34
            have B1 := Lib.hid (keepB B1.out f)
            have B2 := Lib.hid (keepB B2.out f)
            have B3 := Lib.hid (keepB B3.out f)
            have A1 := Lib.hid (blk_all B1.out)
            have A2 := Lib.hid (blk_all B2.out)
            have A3 := Lib.hid (blk_all B3.out)
            have c10 : W9.cell? ⟨g, 0, none⟩ = some (.int .i64 k1) := B1.out.cell 0
            have c11 : W9.cell? ⟨g, 1, none⟩ = some (.int .i64 n1) := B1.out.cell 1
            have c12 : W9.cell? ⟨g, 2, none⟩ = some (.string (strOf t1)) := B1.out.cell 2
            have c13 : W9.cell? ⟨g, 3, none⟩ = some (.slice Al1 l1.length cl1) := B1.out.cell 3
            have c14 : W9.cell? ⟨g, 4, none⟩ = some (.slice Ak1 ks1.length ck1) := B1.out.cell 4
            have c20 : W9.cell? ⟨(g + 1), 0, none⟩ = some (.int .i64 k2) := B2.out.cell 0
            have c21 : W9.cell? ⟨(g + 1), 1, none⟩ = some (.int .i64 n2) := B2.out.cell 1
            have c22 : W9.cell? ⟨(g + 1), 2, none⟩ = some (.string (strOf t2)) := B2.out.cell 2
            have c23 : W9.cell? ⟨(g + 1), 3, none⟩ = some (.slice Al2 l2.length cl2) := B2.out.cell 3
            have c24 : W9.cell? ⟨(g + 1), 4, none⟩ = some (.slice Ak2 ks2.length ck2) := B2.out.cell 4
            have c30 : W9.cell? ⟨(g + 1 + 1), 0, none⟩ = some (.int .i64 k3) := B3.out.cell 0
            have c31 : W9.cell? ⟨(g + 1 + 1), 1, none⟩ = some (.int .i64 n3) := B3.out.cell 1
            have c32 : W9.cell? ⟨(g + 1 + 1), 2, none⟩ = some (.string (strOf t3)) := B3.out.cell 2
            have c33 : W9.cell? ⟨(g + 1 + 1), 3, none⟩ = some (.slice Al3 l3.length cl3) := B3.out.cell 3
            have c34 : W9.cell? ⟨(g + 1 + 1), 4, none⟩ = some (.slice Ak3 ks3.length ck3) := B3.out.cell 4
            have F : Hid (Fr (fun _ => False) w W9) := Lib.hid (F.out.trans f (fun _ _ h => h))
            clear f
            clear CL
            have CL := Lib.hid (may_c c W9 _ _ (R3.out.far F.out) (sm_of_not_long hLc) (HL.out.far F.out))
            cases hMc : mayV c with
            | false =>
              rw [hMc] at CL
              go_wp2_with (first
                | (refine wpList_load_val rfl 25 _ rfl g _ rfl _ A1.out _ Tryz.underlying25 rfl Z1.out ?_)
                | (refine wpList_load_val rfl 25 _ rfl (g + 1) _ rfl _ A2.out _ Tryz.underlying25 rfl Z2.out ?_)
                | (refine wpList_load_val rfl 25 _ rfl (g + 1 + 1) _ rfl _ A3.out _ Tryz.underlying25 rfl Z3.out ?_))
              refine CL.out.mono ?_
              rintro e W11 ⟨rfl, f⟩
              clear c10 c11 c12 c13 c14 c20 c21 c22 c23 c24 c30 c31 c32 c33 c34
              have B1 := Lib.hid (keepB B1.out f)
              have B2 := Lib.hid (keepB B2.out f)
              have B3 := Lib.hid (keepB B3.out f)
              have A1 := Lib.hid (blk_all B1.out)
              have A2 := Lib.hid (blk_all B2.out)
              have A3 := Lib.hid (blk_all B3.out)
              have c10 : W11.cell? ⟨g, 0, none⟩ = some (.int .i64 k1) := B1.out.cell 0
              have c11 : W11.cell? ⟨g, 1, none⟩ = some (.int .i64 n1) := B1.out.cell 1
              have c12 : W11.cell? ⟨g, 2, none⟩ = some (.string (strOf t1)) := B1.out.cell 2
              have c13 : W11.cell? ⟨g, 3, none⟩ = some (.slice Al1 l1.length cl1) := B1.out.cell 3
              have c14 : W11.cell? ⟨g, 4, none⟩ = some (.slice Ak1 ks1.length ck1) := B1.out.cell 4
              have c20 : W11.cell? ⟨(g + 1), 0, none⟩ = some (.int .i64 k2) := B2.out.cell 0
              have c21 : W11.cell? ⟨(g + 1), 1, none⟩ = some (.int .i64 n2) := B2.out.cell 1
              have c22 : W11.cell? ⟨(g + 1), 2, none⟩ = some (.string (strOf t2)) := B2.out.cell 2
              have c23 : W11.cell? ⟨(g + 1), 3, none⟩ = some (.slice Al2 l2.length cl2) := B2.out.cell 3
              have c24 : W11.cell? ⟨(g + 1), 4, none⟩ = some (.slice Ak2 ks2.length ck2) := B2.out.cell 4
              have c30 : W11.cell? ⟨(g + 1 + 1), 0, none⟩ = some (.int .i64 k3) := B3.out.cell 0
              have c31 : W11.cell? ⟨(g + 1 + 1), 1, none⟩ = some (.int .i64 n3) := B3.out.cell 1
              have c32 : W11.cell? ⟨(g + 1 + 1), 2, none⟩ = some (.string (strOf t3)) := B3.out.cell 2
              have c33 : W11.cell? ⟨(g + 1 + 1), 3, none⟩ = some (.slice Al3 l3.length cl3) := B3.out.cell 3
              have c34 : W11.cell? ⟨(g + 1 + 1), 4, none⟩ = some (.slice Ak3 ks3.length ck3) := B3.out.cell 4
              have F : Hid (Fr (fun _ => False) w W11) := Lib.hid (F.out.trans f (fun _ _ h => h))
              clear f
              clear CL
              go_wp2_with fail
              refine (awake_c W11 (HL.out.far F.out)).mono ?_
              rintro e W12 ⟨rfl, f⟩
              have F : Hid (Fr (fun _ => False) w W12) := Lib.hid (F.out.trans f (fun _ _ h => h))
              clear f
              go_wp2_with fail
              go_ret
              exact ⟨rfl, F.out⟩
            | true =>
              rw [hMc] at CL
              go_wp2_with (first
                | (refine wpList_load_val rfl 25 _ rfl g _ rfl _ A1.out _ Tryz.underlying25 rfl Z1.out ?_)
                | (refine wpList_load_val rfl 25 _ rfl (g + 1) _ rfl _ A2.out _ Tryz.underlying25 rfl Z2.out ?_)
                | (refine wpList_load_val rfl 25 _ rfl (g + 1 + 1) _ rfl _ A3.out _ Tryz.underlying25 rfl Z3.out ?_))
              refine CL.out.mono ?_
              rintro e W11 ⟨rfl, f⟩
              clear c10 c11 c12 c13 c14 c20 c21 c22 c23 c24 c30 c31 c32 c33 c34
              have B1 := Lib.hid (keepB B1.out f)
              have B2 := Lib.hid (keepB B2.out f)
              have B3 := Lib.hid (keepB B3.out f)
              have A1 := Lib.hid (blk_all B1.out)
              have A2 := Lib.hid (blk_all B2.out)
              have A3 := Lib.hid (blk_all B3.out)
              have c10 : W11.cell? ⟨g, 0, none⟩ = some (.int .i64 k1) := B1.out.cell 0
              have c11 : W11.cell? ⟨g, 1, none⟩ = some (.int .i64 n1) := B1.out.cell 1
              have c12 : W11.cell? ⟨g, 2, none⟩ = some (.string (strOf t1)) := B1.out.cell 2
              have c13 : W11.cell? ⟨g, 3, none⟩ = some (.slice Al1 l1.length cl1) := B1.out.cell 3
              have c14 : W11.cell? ⟨g, 4, none⟩ = some (.slice Ak1 ks1.length ck1) := B1.out.cell 4
              have c20 : W11.cell? ⟨(g + 1), 0, none⟩ = some (.int .i64 k2) := B2.out.cell 0
              have c21 : W11.cell? ⟨(g + 1), 1, none⟩ = some (.int .i64 n2) := B2.out.cell 1
              have c22 : W11.cell? ⟨(g + 1), 2, none⟩ = some (.string (strOf t2)) := B2.out.cell 2
              have c23 : W11.cell? ⟨(g + 1), 3, none⟩ = some (.slice Al2 l2.length cl2) := B2.out.cell 3
              have c24 : W11.cell? ⟨(g + 1), 4, none⟩ = some (.slice Ak2 ks2.length ck2) := B2.out.cell 4
              have c30 : W11.cell? ⟨(g + 1 + 1), 0, none⟩ = some (.int .i64 k3) := B3.out.cell 0
              have c31 : W11.cell? ⟨(g + 1 + 1), 1, none⟩ = some (.int .i64 n3) := B3.out.cell 1
              have c32 : W11.cell? ⟨(g + 1 + 1), 2, none⟩ = some (.string (strOf t3)) := B3.out.cell 2
              have c33 : W11.cell? ⟨(g + 1 + 1), 3, none⟩ = some (.slice Al3 l3.length cl3) := B3.out.cell 3
              have c34 : W11.cell? ⟨(g + 1 + 1), 4, none⟩ = some (.slice Ak3 ks3.length ck3) := B3.out.cell 4
              have F : Hid (Fr (fun _ => False) w W11) := Lib.hid (F.out.trans f (fun _ _ h => h))
              clear f
              clear CL
              go_upto_region 3 with fail
              have HT : Hid (Tr (cmpV a b) (cmpV b c) (cmpV a c)) := Lib.hid (cmpV_tr a b c (may_fields hMa).1 (may_fields hMb).1 (may_fields hMc).1)
              have HZ : Hid (cmpV a b = 0 ↔ a = b) := Lib.hid (cmpV_zero a b (may_fields hMa).1 (may_fields hMb).1)
              have HE : Hid (eqv a b = decide (cmpV a b = 0)) := Lib.hid (by
                rw [Bool.eq_iff_iff, eqv_iff, ← HZ.out]
                simp)
              have HNG : Hid (cmpV b a = - cmpV a b) := Lib.hid (cmpV_neg b a)
              have hbx := cmpV_bd a b
              have hby := cmpV_bd b c
              have hbz := cmpV_bd a c
              clear hLa hLb hLc hMa hMb hMc HZ
              obtain ⟨x, hx⟩ : ∃ x, cmpV a b = x := ⟨_, rfl⟩
              obtain ⟨y, hy⟩ : ∃ y, cmpV b c = y := ⟨_, rfl⟩
              obtain ⟨z, hz⟩ : ∃ z, cmpV a c = z := ⟨_, rfl⟩
              have CAB : Hid (∀ W, Fr (fun _ => False) w W → Calls Tryz.prog 20 #[.agg (vcs k1 n1 t1 Al1 l1.length cl1 Ak1 ks1.length ck1), .agg (vcs k2 n2 t2 Al2 l2.length cl2 Ak2 ks2.length ck2)] W fun e w' => e = .returned (.int .i64 x) ∧ Fr (fun _ => False) W w') := Lib.hid (fun W hW => hx ▸ cmp_c a b W _ _ _ _ (R1.out.far hW) (R2.out.far hW))
              have CBC : Hid (∀ W, Fr (fun _ => False) w W → Calls Tryz.prog 20 #[.agg (vcs k2 n2 t2 Al2 l2.length cl2 Ak2 ks2.length ck2), .agg (vcs k3 n3 t3 Al3 l3.length cl3 Ak3 ks3.length ck3)] W fun e w' => e = .returned (.int .i64 y) ∧ Fr (fun _ => False) W w') := Lib.hid (fun W hW => hy ▸ cmp_c b c W _ _ _ _ (R2.out.far hW) (R3.out.far hW))
              have CAC : Hid (∀ W, Fr (fun _ => False) w W → Calls Tryz.prog 20 #[.agg (vcs k1 n1 t1 Al1 l1.length cl1 Ak1 ks1.length ck1), .agg (vcs k3 n3 t3 Al3 l3.length cl3 Ak3 ks3.length ck3)] W fun e w' => e = .returned (.int .i64 z) ∧ Fr (fun _ => False) W w') := Lib.hid (fun W hW => hz ▸ cmp_c a c W _ _ _ _ (R1.out.far hW) (R3.out.far hW))
              have CBA : Hid (∀ W, Fr (fun _ => False) w W → Calls Tryz.prog 20 #[.agg (vcs k2 n2 t2 Al2 l2.length cl2 Ak2 ks2.length ck2), .agg (vcs k1 n1 t1 Al1 l1.length cl1 Ak1 ks1.length ck1)] W fun e w' => e = .returned (.int .i64 (-x)) ∧ Fr (fun _ => False) W w') := Lib.hid (fun W hW => by
                have := cmp_c b a W _ _ _ _ (R2.out.far hW) (R1.out.far hW)
                rw [HNG.out, hx] at this
                exact this)
              have SAB : Hid (∀ W, Fr (fun _ => False) w W → Calls Tryz.prog 23 #[.agg (vcs k1 n1 t1 Al1 l1.length cl1 Ak1 ks1.length ck1), .agg (vcs k2 n2 t2 Al2 l2.length cl2 Ak2 ks2.length ck2)] W fun e w' => e = .returned (.bool (decide (x = 0))) ∧ Fr (fun _ => False) W w') := Lib.hid (fun W hW => by
                have := same_c a b W _ _ _ _ (R1.out.far hW) (R2.out.far hW)
                rw [HE.out, hx] at this
                exact this)
              rw [hx, hy, hz] at HT
              rw [hx] at hbx
              rw [hy] at hby
              rw [hz] at hbz
              have HBX := Lib.hid hbx
              have HBY := Lib.hid hby
              have HBZ := Lib.hid hbz
              clear hbx hby hbz hx hy hz HE HNG
              have FW := Lib.hid F.out
              clear c10 c11 c12 c13 c14 c20 c21 c22 c23 c24 c30 c31 c32 c33 c34
              have HDR : Hid (∀ W, Fr (fun _ => False) W11.drew W → Fr (fun _ => False) W11 W) := Lib.hid (fun W h => ((Fr.refl (fun _ => False) W11).drew).trans h (fun _ _ h => h))
              refine (wpIn_wide (n := 9)).1 ?_
              refine wpIn_region_factsG (ms := [0, 0, 3, 0, 0, 31, 63, 127]) (k := 6) (Fr (fun _ => False)) (cmX (vcs k1 n1 t1 Al1 l1.length cl1 Ak1 ks1.length ck1) (vcs k2 n2 t2 Al2 l2.length cl2 Ak2 ks2.length ck2) (vcs k3 n3 t3 Al3 l3.length cl3 Ak3 ks3.length ck3) x y) (fun i v W => True) (by kernel_rfl) (by kernel_rfl) (Fr.refl _ _) (fun a b c h1 h2 => h1.trans h2 (fun _ _ h => h)) (fun i v w w' hg hx => cmX_far hx) ?walk
              case walk =>
                refine factWalkG_cons (fun W hW hf K hK => ?_) (fun x0 => ?_)
                · skip
                  have hld := load_val (P := Tryz.prog) W g 0 (vcs k1 n1 t1 Al1 l1.length cl1 Ak1 ks1.length ck1) (rng_far A1.out (HDR.out W hW)) 25 _ Tryz.underlying25 rfl Z1.out
                  refine ⟨by kernel_rfl, ?_⟩
                  refine operIn_load 25 _ rfl _ rfl hld ?_
                  exact hK _ _ (Fr.refl _ _) rfl trivial
                simp only [Act.put, List.setIfInBounds_toArray, List.set_cons_succ, List.set_cons_zero]
                refine factWalkG_cons (fun W hW hf K hK => ?_) (fun x1 => ?_)
                · skip
                  have hld := load_val (P := Tryz.prog) W (g + 1) 0 (vcs k2 n2 t2 Al2 l2.length cl2 Ak2 ks2.length ck2) (rng_far A2.out (HDR.out W hW)) 25 _ Tryz.underlying25 rfl Z2.out
                  refine ⟨by kernel_rfl, ?_⟩
                  refine operIn_load 25 _ rfl _ rfl hld ?_
                  exact hK _ _ (Fr.refl _ _) rfl trivial
                simp only [Act.put, List.setIfInBounds_toArray, List.set_cons_succ, List.set_cons_zero]
                refine factWalkG_cons (fun W hW hf K hK => ?_) (fun x2 => ?_)
                · skip
                  have e0 : x0 = .agg (vcs k1 n1 t1 Al1 l1.length cl1 Ak1 ks1.length ck1) := hf 0 (by omega) (by kernel_rfl)
                  have e1 : x1 = .agg (vcs k2 n2 t2 Al2 l2.length cl2 Ak2 ks2.length ck2) := hf 1 (by omega) (by kernel_rfl)
                  subst e0 e1
                  refine ⟨by kernel_rfl, ?_⟩
                  gi_step
                  refine ⟨trivial, ?_⟩
                  refine (callsIn_wide.2 (CAB.out W (FW.out.trans (HDR.out W hW) (fun _ _ h => h)))).mono ?_
                  rintro e W' ⟨rfl, f2⟩
                  dsimp only
                  exact hK _ _ f2 rfl trivial
                simp only [Act.put, List.setIfInBounds_toArray, List.set_cons_succ, List.set_cons_zero]
                refine factWalkG_cons (fun W hW hf K hK => ?_) (fun x3 => ?_)
                · skip
                  have hld := load_val (P := Tryz.prog) W (g + 1) 0 (vcs k2 n2 t2 Al2 l2.length cl2 Ak2 ks2.length ck2) (rng_far A2.out (HDR.out W hW)) 25 _ Tryz.underlying25 rfl Z2.out
                  refine ⟨by kernel_rfl, ?_⟩
                  refine operIn_load 25 _ rfl _ rfl hld ?_
                  exact hK _ _ (Fr.refl _ _) rfl trivial
                simp only [Act.put, List.setIfInBounds_toArray, List.set_cons_succ, List.set_cons_zero]
                refine factWalkG_cons (fun W hW hf K hK => ?_) (fun x4 => ?_)
                · skip
                  have hld := load_val (P := Tryz.prog) W (g + 1 + 1) 0 (vcs k3 n3 t3 Al3 l3.length cl3 Ak3 ks3.length ck3) (rng_far A3.out (HDR.out W hW)) 25 _ Tryz.underlying25 rfl Z3.out
                  refine ⟨by kernel_rfl, ?_⟩
                  refine operIn_load 25 _ rfl _ rfl hld ?_
                  exact hK _ _ (Fr.refl _ _) rfl trivial
                simp only [Act.put, List.setIfInBounds_toArray, List.set_cons_succ, List.set_cons_zero]
                refine factWalkG_cons (fun W hW hf K hK => ?_) (fun x5 => ?_)
                · skip
                  have e3 : x3 = .agg (vcs k2 n2 t2 Al2 l2.length cl2 Ak2 ks2.length ck2) := hf 3 (by omega) (by kernel_rfl)
                  have e4 : x4 = .agg (vcs k3 n3 t3 Al3 l3.length cl3 Ak3 ks3.length ck3) := hf 4 (by omega) (by kernel_rfl)
                  subst e3 e4
                  refine ⟨by kernel_rfl, ?_⟩
                  gi_step
                  refine ⟨trivial, ?_⟩
                  refine (callsIn_wide.2 (CBC.out W (FW.out.trans (HDR.out W hW) (fun _ _ h => h)))).mono ?_
                  rintro e W' ⟨rfl, f2⟩
                  dsimp only
                  exact hK _ _ f2 rfl trivial
                simp only [Act.put, List.setIfInBounds_toArray, List.set_cons_succ, List.set_cons_zero]
                refine factWalkG_nil (fun W13 hW hf hmet => ?_)
                have e2 : x2 = .int .i64 x := hf 2 (by omega)
                have e5 : x5 = .int .i64 y := hf 5 (by omega)
                have e0 : x0 = .agg (vcs k1 n1 t1 Al1 l1.length cl1 Ak1 ks1.length ck1) := hf 0 (by omega)
                have e1 : x1 = .agg (vcs k2 n2 t2 Al2 l2.length cl2 Ak2 ks2.length ck2) := hf 1 (by omega)
                have e3 : x3 = .agg (vcs k2 n2 t2 Al2 l2.length cl2 Ak2 ks2.length ck2) := hf 3 (by omega)
                have e4 : x4 = .agg (vcs k3 n3 t3 Al3 l3.length cl3 Ak3 ks3.length ck3) := hf 4 (by omega)
                subst e0 e1 e2 e3 e4 e5
                have f := HDR.out W13 hW
                clear hf hmet hW HDR
                have B1 := Lib.hid (keepB B1.out f)
                have B2 := Lib.hid (keepB B2.out f)
                have B3 := Lib.hid (keepB B3.out f)
                have F : Hid (Fr (fun _ => False) w W13) := Lib.hid (F.out.trans f (fun _ _ h => h))
                clear f FW A1 A2 A3
                change wpAnyIn _ _ _ _ _ _ 2 _ _ _
                refine wpAnyIn_ready (rs := [6]) (by kernel_rfl) (by simp) ?_
                refine AllReadyIn.cons rfl (fun K hK => ?_) AllReadyIn.nil
                go_simp
                refine hK _ _ ?_
                clear hK
                change wpAnyIn _ _ _ _ _ _ 1 _ _ _
                refine wpAnyIn_ready (rs := [7]) (by kernel_rfl) (by simp) ?_
                refine AllReadyIn.cons rfl (fun K hK => ?_) AllReadyIn.nil
                go_simp
                refine hK _ _ ?_
                clear hK
                refine wpAnyIn_done (by kernel_rfl) ?_ _
                have A1 := Lib.hid (blk_all B1.out)
                have A2 := Lib.hid (blk_all B2.out)
                have A3 := Lib.hid (blk_all B3.out)
                have c10 : W13.cell? ⟨g, 0, none⟩ = some (.int .i64 k1) := B1.out.cell 0
                have c11 : W13.cell? ⟨g, 1, none⟩ = some (.int .i64 n1) := B1.out.cell 1
                have c12 : W13.cell? ⟨g, 2, none⟩ = some (.string (strOf t1)) := B1.out.cell 2
                have c13 : W13.cell? ⟨g, 3, none⟩ = some (.slice Al1 l1.length cl1) := B1.out.cell 3
                have c14 : W13.cell? ⟨g, 4, none⟩ = some (.slice Ak1 ks1.length ck1) := B1.out.cell 4
                have c20 : W13.cell? ⟨(g + 1), 0, none⟩ = some (.int .i64 k2) := B2.out.cell 0
                have c21 : W13.cell? ⟨(g + 1), 1, none⟩ = some (.int .i64 n2) := B2.out.cell 1
                have c22 : W13.cell? ⟨(g + 1), 2, none⟩ = some (.string (strOf t2)) := B2.out.cell 2
                have c23 : W13.cell? ⟨(g + 1), 3, none⟩ = some (.slice Al2 l2.length cl2) := B2.out.cell 3
                have c24 : W13.cell? ⟨(g + 1), 4, none⟩ = some (.slice Ak2 ks2.length ck2) := B2.out.cell 4
                have c30 : W13.cell? ⟨(g + 1 + 1), 0, none⟩ = some (.int .i64 k3) := B3.out.cell 0
                have c31 : W13.cell? ⟨(g + 1 + 1), 1, none⟩ = some (.int .i64 n3) := B3.out.cell 1
                have c32 : W13.cell? ⟨(g + 1 + 1), 2, none⟩ = some (.string (strOf t3)) := B3.out.cell 2
                have c33 : W13.cell? ⟨(g + 1 + 1), 3, none⟩ = some (.slice Al3 l3.length cl3) := B3.out.cell 3
                have c34 : W13.cell? ⟨(g + 1 + 1), 4, none⟩ = some (.slice Ak3 ks3.length ck3) := B3.out.cell 4
                rcases HBX.out with rfl | rfl | rfl
                · rcases HBY.out with rfl | rfl | rfl
                  · have hzz : z = -1 := by
                      have h1 := HT.out (by omega) (by omega)
                      have h2 := HBZ.out
                      have h3 := h1.2.1 (.inl (by omega))
                      omega
                    subst hzz
                    clear HT HBZ HBY HBX
                    go_wp2_with (first
                      | (refine wpList_load_val rfl 25 _ rfl g _ rfl _ A1.out _ Tryz.underlying25 rfl Z1.out ?_)
                      | (refine wpList_load_val rfl 25 _ rfl (g + 1) _ rfl _ A2.out _ Tryz.underlying25 rfl Z2.out ?_)
                      | (refine wpList_load_val rfl 25 _ rfl (g + 1 + 1) _ rfl _ A3.out _ Tryz.underlying25 rfl Z3.out ?_))
                    refine (CBA.out W13 F.out).mono ?_
                    rintro e W14 ⟨rfl, f⟩
                    clear c10 c11 c12 c13 c14 c20 c21 c22 c23 c24 c30 c31 c32 c33 c34
                    have B1 := Lib.hid (keepB B1.out f)
                    have B2 := Lib.hid (keepB B2.out f)
                    have B3 := Lib.hid (keepB B3.out f)
                    have A1 := Lib.hid (blk_all B1.out)
                    have A2 := Lib.hid (blk_all B2.out)
                    have A3 := Lib.hid (blk_all B3.out)
                    have c10 : W14.cell? ⟨g, 0, none⟩ = some (.int .i64 k1) := B1.out.cell 0
                    have c11 : W14.cell? ⟨g, 1, none⟩ = some (.int .i64 n1) := B1.out.cell 1
                    have c12 : W14.cell? ⟨g, 2, none⟩ = some (.string (strOf t1)) := B1.out.cell 2
                    have c13 : W14.cell? ⟨g, 3, none⟩ = some (.slice Al1 l1.length cl1) := B1.out.cell 3
                    have c14 : W14.cell? ⟨g, 4, none⟩ = some (.slice Ak1 ks1.length ck1) := B1.out.cell 4
                    have c20 : W14.cell? ⟨(g + 1), 0, none⟩ = some (.int .i64 k2) := B2.out.cell 0
                    have c21 : W14.cell? ⟨(g + 1), 1, none⟩ = some (.int .i64 n2) := B2.out.cell 1
                    have c22 : W14.cell? ⟨(g + 1), 2, none⟩ = some (.string (strOf t2)) := B2.out.cell 2
                    have c23 : W14.cell? ⟨(g + 1), 3, none⟩ = some (.slice Al2 l2.length cl2) := B2.out.cell 3
                    have c24 : W14.cell? ⟨(g + 1), 4, none⟩ = some (.slice Ak2 ks2.length ck2) := B2.out.cell 4
                    have c30 : W14.cell? ⟨(g + 1 + 1), 0, none⟩ = some (.int .i64 k3) := B3.out.cell 0
                    have c31 : W14.cell? ⟨(g + 1 + 1), 1, none⟩ = some (.int .i64 n3) := B3.out.cell 1
                    have c32 : W14.cell? ⟨(g + 1 + 1), 2, none⟩ = some (.string (strOf t3)) := B3.out.cell 2
                    have c33 : W14.cell? ⟨(g + 1 + 1), 3, none⟩ = some (.slice Al3 l3.length cl3) := B3.out.cell 3
                    have c34 : W14.cell? ⟨(g + 1 + 1), 4, none⟩ = some (.slice Ak3 ks3.length ck3) := B3.out.cell 4
                    have F : Hid (Fr (fun _ => False) w W14) := Lib.hid (F.out.trans f (fun _ _ h => h))
                    clear f
                    go_wp2_with (first
                      | (refine wpList_load_val rfl 25 _ rfl g _ rfl _ A1.out _ Tryz.underlying25 rfl Z1.out ?_)
                      | (refine wpList_load_val rfl 25 _ rfl (g + 1) _ rfl _ A2.out _ Tryz.underlying25 rfl Z2.out ?_)
                      | (refine wpList_load_val rfl 25 _ rfl (g + 1 + 1) _ rfl _ A3.out _ Tryz.underlying25 rfl Z3.out ?_))
                    refine (SAB.out W14 F.out).mono ?_
                    rintro e W15 ⟨rfl, f⟩
                    clear c10 c11 c12 c13 c14 c20 c21 c22 c23 c24 c30 c31 c32 c33 c34
                    have B1 := Lib.hid (keepB B1.out f)
                    have B2 := Lib.hid (keepB B2.out f)
                    have B3 := Lib.hid (keepB B3.out f)
                    have A1 := Lib.hid (blk_all B1.out)
                    have A2 := Lib.hid (blk_all B2.out)
                    have A3 := Lib.hid (blk_all B3.out)
                    have c10 : W15.cell? ⟨g, 0, none⟩ = some (.int .i64 k1) := B1.out.cell 0
                    have c11 : W15.cell? ⟨g, 1, none⟩ = some (.int .i64 n1) := B1.out.cell 1
                    have c12 : W15.cell? ⟨g, 2, none⟩ = some (.string (strOf t1)) := B1.out.cell 2
                    have c13 : W15.cell? ⟨g, 3, none⟩ = some (.slice Al1 l1.length cl1) := B1.out.cell 3
                    have c14 : W15.cell? ⟨g, 4, none⟩ = some (.slice Ak1 ks1.length ck1) := B1.out.cell 4
                    have c20 : W15.cell? ⟨(g + 1), 0, none⟩ = some (.int .i64 k2) := B2.out.cell 0
                    have c21 : W15.cell? ⟨(g + 1), 1, none⟩ = some (.int .i64 n2) := B2.out.cell 1
                    have c22 : W15.cell? ⟨(g + 1), 2, none⟩ = some (.string (strOf t2)) := B2.out.cell 2
                    have c23 : W15.cell? ⟨(g + 1), 3, none⟩ = some (.slice Al2 l2.length cl2) := B2.out.cell 3
                    have c24 : W15.cell? ⟨(g + 1), 4, none⟩ = some (.slice Ak2 ks2.length ck2) := B2.out.cell 4
                    have c30 : W15.cell? ⟨(g + 1 + 1), 0, none⟩ = some (.int .i64 k3) := B3.out.cell 0
                    have c31 : W15.cell? ⟨(g + 1 + 1), 1, none⟩ = some (.int .i64 n3) := B3.out.cell 1
                    have c32 : W15.cell? ⟨(g + 1 + 1), 2, none⟩ = some (.string (strOf t3)) := B3.out.cell 2
                    have c33 : W15.cell? ⟨(g + 1 + 1), 3, none⟩ = some (.slice Al3 l3.length cl3) := B3.out.cell 3
                    have c34 : W15.cell? ⟨(g + 1 + 1), 4, none⟩ = some (.slice Ak3 ks3.length ck3) := B3.out.cell 4
                    have F : Hid (Fr (fun _ => False) w W15) := Lib.hid (F.out.trans f (fun _ _ h => h))
                    clear f
                    go_wp2_with (first
                      | (refine wpList_load_val rfl 25 _ rfl g _ rfl _ A1.out _ Tryz.underlying25 rfl Z1.out ?_)
                      | (refine wpList_load_val rfl 25 _ rfl (g + 1) _ rfl _ A2.out _ Tryz.underlying25 rfl Z2.out ?_)
                      | (refine wpList_load_val rfl 25 _ rfl (g + 1 + 1) _ rfl _ A3.out _ Tryz.underlying25 rfl Z3.out ?_))
                    refine (CAC.out W15 F.out).mono ?_
                    rintro e W16 ⟨rfl, f⟩
                    clear c10 c11 c12 c13 c14 c20 c21 c22 c23 c24 c30 c31 c32 c33 c34
                    have B1 := Lib.hid (keepB B1.out f)
                    have B2 := Lib.hid (keepB B2.out f)
                    have B3 := Lib.hid (keepB B3.out f)
                    have A1 := Lib.hid (blk_all B1.out)
                    have A2 := Lib.hid (blk_all B2.out)
                    have A3 := Lib.hid (blk_all B3.out)
                    have c10 : W16.cell? ⟨g, 0, none⟩ = some (.int .i64 k1) := B1.out.cell 0
                    have c11 : W16.cell? ⟨g, 1, none⟩ = some (.int .i64 n1) := B1.out.cell 1
                    have c12 : W16.cell? ⟨g, 2, none⟩ = some (.string (strOf t1)) := B1.out.cell 2
                    have c13 : W16.cell? ⟨g, 3, none⟩ = some (.slice Al1 l1.length cl1) := B1.out.cell 3
                    have c14 : W16.cell? ⟨g, 4, none⟩ = some (.slice Ak1 ks1.length ck1) := B1.out.cell 4
                    have c20 : W16.cell? ⟨(g + 1), 0, none⟩ = some (.int .i64 k2) := B2.out.cell 0
                    have c21 : W16.cell? ⟨(g + 1), 1, none⟩ = some (.int .i64 n2) := B2.out.cell 1
                    have c22 : W16.cell? ⟨(g + 1), 2, none⟩ = some (.string (strOf t2)) := B2.out.cell 2
                    have c23 : W16.cell? ⟨(g + 1), 3, none⟩ = some (.slice Al2 l2.length cl2) := B2.out.cell 3
                    have c24 : W16.cell? ⟨(g + 1), 4, none⟩ = some (.slice Ak2 ks2.length ck2) := B2.out.cell 4
                    have c30 : W16.cell? ⟨(g + 1 + 1), 0, none⟩ = some (.int .i64 k3) := B3.out.cell 0
                    have c31 : W16.cell? ⟨(g + 1 + 1), 1, none⟩ = some (.int .i64 n3) := B3.out.cell 1
                    have c32 : W16.cell? ⟨(g + 1 + 1), 2, none⟩ = some (.string (strOf t3)) := B3.out.cell 2
                    have c33 : W16.cell? ⟨(g + 1 + 1), 3, none⟩ = some (.slice Al3 l3.length cl3) := B3.out.cell 3
                    have c34 : W16.cell? ⟨(g + 1 + 1), 4, none⟩ = some (.slice Ak3 ks3.length ck3) := B3.out.cell 4
                    have F : Hid (Fr (fun _ => False) w W16) := Lib.hid (F.out.trans f (fun _ _ h => h))
                    clear f
                    go_wp2_with (first
                      | (refine wpList_load_val rfl 25 _ rfl g _ rfl _ A1.out _ Tryz.underlying25 rfl Z1.out ?_)
                      | (refine wpList_load_val rfl 25 _ rfl (g + 1) _ rfl _ A2.out _ Tryz.underlying25 rfl Z2.out ?_)
                      | (refine wpList_load_val rfl 25 _ rfl (g + 1 + 1) _ rfl _ A3.out _ Tryz.underlying25 rfl Z3.out ?_))
                    refine (CAC.out W16 F.out).mono ?_
                    rintro e W17 ⟨rfl, f⟩
                    clear c10 c11 c12 c13 c14 c20 c21 c22 c23 c24 c30 c31 c32 c33 c34
                    have B1 := Lib.hid (keepB B1.out f)
                    have B2 := Lib.hid (keepB B2.out f)
                    have B3 := Lib.hid (keepB B3.out f)
                    have A1 := Lib.hid (blk_all B1.out)
                    have A2 := Lib.hid (blk_all B2.out)
                    have A3 := Lib.hid (blk_all B3.out)
                    have c10 : W17.cell? ⟨g, 0, none⟩ = some (.int .i64 k1) := B1.out.cell 0
                    have c11 : W17.cell? ⟨g, 1, none⟩ = some (.int .i64 n1) := B1.out.cell 1
                    have c12 : W17.cell? ⟨g, 2, none⟩ = some (.string (strOf t1)) := B1.out.cell 2
                    have c13 : W17.cell? ⟨g, 3, none⟩ = some (.slice Al1 l1.length cl1) := B1.out.cell 3
                    have c14 : W17.cell? ⟨g, 4, none⟩ = some (.slice Ak1 ks1.length ck1) := B1.out.cell 4
                    have c20 : W17.cell? ⟨(g + 1), 0, none⟩ = some (.int .i64 k2) := B2.out.cell 0
                    have c21 : W17.cell? ⟨(g + 1), 1, none⟩ = some (.int .i64 n2) := B2.out.cell 1
                    have c22 : W17.cell? ⟨(g + 1), 2, none⟩ = some (.string (strOf t2)) := B2.out.cell 2
                    have c23 : W17.cell? ⟨(g + 1), 3, none⟩ = some (.slice Al2 l2.length cl2) := B2.out.cell 3
                    have c24 : W17.cell? ⟨(g + 1), 4, none⟩ = some (.slice Ak2 ks2.length ck2) := B2.out.cell 4
                    have c30 : W17.cell? ⟨(g + 1 + 1), 0, none⟩ = some (.int .i64 k3) := B3.out.cell 0
                    have c31 : W17.cell? ⟨(g + 1 + 1), 1, none⟩ = some (.int .i64 n3) := B3.out.cell 1
                    have c32 : W17.cell? ⟨(g + 1 + 1), 2, none⟩ = some (.string (strOf t3)) := B3.out.cell 2
                    have c33 : W17.cell? ⟨(g + 1 + 1), 3, none⟩ = some (.slice Al3 l3.length cl3) := B3.out.cell 3
                    have c34 : W17.cell? ⟨(g + 1 + 1), 4, none⟩ = some (.slice Ak3 ks3.length ck3) := B3.out.cell 4
                    have F : Hid (Fr (fun _ => False) w W17) := Lib.hid (F.out.trans f (fun _ _ h => h))
                    clear f
                    go_wp2_with (first
                      | (refine wpList_load_val rfl 25 _ rfl g _ rfl _ A1.out _ Tryz.underlying25 rfl Z1.out ?_)
                      | (refine wpList_load_val rfl 25 _ rfl (g + 1) _ rfl _ A2.out _ Tryz.underlying25 rfl Z2.out ?_)
                      | (refine wpList_load_val rfl 25 _ rfl (g + 1 + 1) _ rfl _ A3.out _ Tryz.underlying25 rfl Z3.out ?_))
                    refine (awake_c W17 (HL.out.far F.out)).mono ?_
                    rintro e W18 ⟨rfl, f⟩
                    have F : Hid (Fr (fun _ => False) w W18) := Lib.hid (F.out.trans f (fun _ _ h => h))
                    clear f
                    go_wp2_with fail
                    go_ret
                    exact ⟨rfl, F.out⟩
                  · have hzz : z = -1 := by
                      have h1 := HT.out (by omega) (by omega)
                      have h2 := HBZ.out
                      have h3 := h1.2.1 (.inl (by omega))
                      omega
                    subst hzz
                    clear HT HBZ HBY HBX
                    go_wp2_with (first
                      | (refine wpList_load_val rfl 25 _ rfl g _ rfl _ A1.out _ Tryz.underlying25 rfl Z1.out ?_)
                      | (refine wpList_load_val rfl 25 _ rfl (g + 1) _ rfl _ A2.out _ Tryz.underlying25 rfl Z2.out ?_)
                      | (refine wpList_load_val rfl 25 _ rfl (g + 1 + 1) _ rfl _ A3.out _ Tryz.underlying25 rfl Z3.out ?_))
                    refine (CBA.out W13 F.out).mono ?_
                    rintro e W14 ⟨rfl, f⟩
                    clear c10 c11 c12 c13 c14 c20 c21 c22 c23 c24 c30 c31 c32 c33 c34
                    have B1 := Lib.hid (keepB B1.out f)
                    have B2 := Lib.hid (keepB B2.out f)
                    have B3 := Lib.hid (keepB B3.out f)
                    have A1 := Lib.hid (blk_all B1.out)
                    have A2 := Lib.hid (blk_all B2.out)
                    have A3 := Lib.hid (blk_all B3.out)
                    have c10 : W14.cell? ⟨g, 0, none⟩ = some (.int .i64 k1) := B1.out.cell 0
                    have c11 : W14.cell? ⟨g, 1, none⟩ = some (.int .i64 n1) := B1.out.cell 1
                    have c12 : W14.cell? ⟨g, 2, none⟩ = some (.string (strOf t1)) := B1.out.cell 2
                    have c13 : W14.cell? ⟨g, 3, none⟩ = some (.slice Al1 l1.length cl1) := B1.out.cell 3
                    have c14 : W14.cell? ⟨g, 4, none⟩ = some (.slice Ak1 ks1.length ck1) := B1.out.cell 4
                    have c20 : W14.cell? ⟨(g + 1), 0, none⟩ = some (.int .i64 k2) := B2.out.cell 0
                    have c21 : W14.cell? ⟨(g + 1), 1, none⟩ = some (.int .i64 n2) := B2.out.cell 1
                    have c22 : W14.cell? ⟨(g + 1), 2, none⟩ = some (.string (strOf t2)) := B2.out.cell 2
                    have c23 : W14.cell? ⟨(g + 1), 3, none⟩ = some (.slice Al2 l2.length cl2) := B2.out.cell 3
                    have c24 : W14.cell? ⟨(g + 1), 4, none⟩ = some (.slice Ak2 ks2.length ck2) := B2.out.cell 4
                    have c30 : W14.cell? ⟨(g + 1 + 1), 0, none⟩ = some (.int .i64 k3) := B3.out.cell 0
                    have c31 : W14.cell? ⟨(g + 1 + 1), 1, none⟩ = some (.int .i64 n3) := B3.out.cell 1
                    have c32 : W14.cell? ⟨(g + 1 + 1), 2, none⟩ = some (.string (strOf t3)) := B3.out.cell 2
                    have c33 : W14.cell? ⟨(g + 1 + 1), 3, none⟩ = some (.slice Al3 l3.length cl3) := B3.out.cell 3
                    have c34 : W14.cell? ⟨(g + 1 + 1), 4, none⟩ = some (.slice Ak3 ks3.length ck3) := B3.out.cell 4
                    have F : Hid (Fr (fun _ => False) w W14) := Lib.hid (F.out.trans f (fun _ _ h => h))
                    clear f
                    go_wp2_with (first
                      | (refine wpList_load_val rfl 25 _ rfl g _ rfl _ A1.out _ Tryz.underlying25 rfl Z1.out ?_)
                      | (refine wpList_load_val rfl 25 _ rfl (g + 1) _ rfl _ A2.out _ Tryz.underlying25 rfl Z2.out ?_)
                      | (refine wpList_load_val rfl 25 _ rfl (g + 1 + 1) _ rfl _ A3.out _ Tryz.underlying25 rfl Z3.out ?_))
                    refine (SAB.out W14 F.out).mono ?_
                    rintro e W15 ⟨rfl, f⟩
                    clear c10 c11 c12 c13 c14 c20 c21 c22 c23 c24 c30 c31 c32 c33 c34
                    have B1 := Lib.hid (keepB B1.out f)
                    have B2 := Lib.hid (keepB B2.out f)
                    have B3 := Lib.hid (keepB B3.out f)
                    have A1 := Lib.hid (blk_all B1.out)
                    have A2 := Lib.hid (blk_all B2.out)
                    have A3 := Lib.hid (blk_all B3.out)
                    have c10 : W15.cell? ⟨g, 0, none⟩ = some (.int .i64 k1) := B1.out.cell 0
                    have c11 : W15.cell? ⟨g, 1, none⟩ = some (.int .i64 n1) := B1.out.cell 1
                    have c12 : W15.cell? ⟨g, 2, none⟩ = some (.string (strOf t1)) := B1.out.cell 2
                    have c13 : W15.cell? ⟨g, 3, none⟩ = some (.slice Al1 l1.length cl1) := B1.out.cell 3
                    have c14 : W15.cell? ⟨g, 4, none⟩ = some (.slice Ak1 ks1.length ck1) := B1.out.cell 4
                    have c20 : W15.cell? ⟨(g + 1), 0, none⟩ = some (.int .i64 k2) := B2.out.cell 0
                    have c21 : W15.cell? ⟨(g + 1), 1, none⟩ = some (.int .i64 n2) := B2.out.cell 1
                    have c22 : W15.cell? ⟨(g + 1), 2, none⟩ = some (.string (strOf t2)) := B2.out.cell 2
                    have c23 : W15.cell? ⟨(g + 1), 3, none⟩ = some (.slice Al2 l2.length cl2) := B2.out.cell 3
                    have c24 : W15.cell? ⟨(g + 1), 4, none⟩ = some (.slice Ak2 ks2.length ck2) := B2.out.cell 4
                    have c30 : W15.cell? ⟨(g + 1 + 1), 0, none⟩ = some (.int .i64 k3) := B3.out.cell 0
                    have c31 : W15.cell? ⟨(g + 1 + 1), 1, none⟩ = some (.int .i64 n3) := B3.out.cell 1
                    have c32 : W15.cell? ⟨(g + 1 + 1), 2, none⟩ = some (.string (strOf t3)) := B3.out.cell 2
                    have c33 : W15.cell? ⟨(g + 1 + 1), 3, none⟩ = some (.slice Al3 l3.length cl3) := B3.out.cell 3
                    have c34 : W15.cell? ⟨(g + 1 + 1), 4, none⟩ = some (.slice Ak3 ks3.length ck3) := B3.out.cell 4
                    have F : Hid (Fr (fun _ => False) w W15) := Lib.hid (F.out.trans f (fun _ _ h => h))
                    clear f
                    go_wp2_with (first
                      | (refine wpList_load_val rfl 25 _ rfl g _ rfl _ A1.out _ Tryz.underlying25 rfl Z1.out ?_)
                      | (refine wpList_load_val rfl 25 _ rfl (g + 1) _ rfl _ A2.out _ Tryz.underlying25 rfl Z2.out ?_)
                      | (refine wpList_load_val rfl 25 _ rfl (g + 1 + 1) _ rfl _ A3.out _ Tryz.underlying25 rfl Z3.out ?_))
                    refine (CAC.out W15 F.out).mono ?_
                    rintro e W16 ⟨rfl, f⟩
                    clear c10 c11 c12 c13 c14 c20 c21 c22 c23 c24 c30 c31 c32 c33 c34
                    have B1 := Lib.hid (keepB B1.out f)
                    have B2 := Lib.hid (keepB B2.out f)
                    have B3 := Lib.hid (keepB B3.out f)
                    have A1 := Lib.hid (blk_all B1.out)
                    have A2 := Lib.hid (blk_all B2.out)
                    have A3 := Lib.hid (blk_all B3.out)
                    have c10 : W16.cell? ⟨g, 0, none⟩ = some (.int .i64 k1) := B1.out.cell 0
                    have c11 : W16.cell? ⟨g, 1, none⟩ = some (.int .i64 n1) := B1.out.cell 1
                    have c12 : W16.cell? ⟨g, 2, none⟩ = some (.string (strOf t1)) := B1.out.cell 2
                    have c13 : W16.cell? ⟨g, 3, none⟩ = some (.slice Al1 l1.length cl1) := B1.out.cell 3
                    have c14 : W16.cell? ⟨g, 4, none⟩ = some (.slice Ak1 ks1.length ck1) := B1.out.cell 4
                    have c20 : W16.cell? ⟨(g + 1), 0, none⟩ = some (.int .i64 k2) := B2.out.cell 0
                    have c21 : W16.cell? ⟨(g + 1), 1, none⟩ = some (.int .i64 n2) := B2.out.cell 1
                    have c22 : W16.cell? ⟨(g + 1), 2, none⟩ = some (.string (strOf t2)) := B2.out.cell 2
                    have c23 : W16.cell? ⟨(g + 1), 3, none⟩ = some (.slice Al2 l2.length cl2) := B2.out.cell 3
                    have c24 : W16.cell? ⟨(g + 1), 4, none⟩ = some (.slice Ak2 ks2.length ck2) := B2.out.cell 4
                    have c30 : W16.cell? ⟨(g + 1 + 1), 0, none⟩ = some (.int .i64 k3) := B3.out.cell 0
                    have c31 : W16.cell? ⟨(g + 1 + 1), 1, none⟩ = some (.int .i64 n3) := B3.out.cell 1
                    have c32 : W16.cell? ⟨(g + 1 + 1), 2, none⟩ = some (.string (strOf t3)) := B3.out.cell 2
                    have c33 : W16.cell? ⟨(g + 1 + 1), 3, none⟩ = some (.slice Al3 l3.length cl3) := B3.out.cell 3
                    have c34 : W16.cell? ⟨(g + 1 + 1), 4, none⟩ = some (.slice Ak3 ks3.length ck3) := B3.out.cell 4
                    have F : Hid (Fr (fun _ => False) w W16) := Lib.hid (F.out.trans f (fun _ _ h => h))
                    clear f
                    go_wp2_with (first
                      | (refine wpList_load_val rfl 25 _ rfl g _ rfl _ A1.out _ Tryz.underlying25 rfl Z1.out ?_)
                      | (refine wpList_load_val rfl 25 _ rfl (g + 1) _ rfl _ A2.out _ Tryz.underlying25 rfl Z2.out ?_)
                      | (refine wpList_load_val rfl 25 _ rfl (g + 1 + 1) _ rfl _ A3.out _ Tryz.underlying25 rfl Z3.out ?_))
                    refine (CAC.out W16 F.out).mono ?_
                    rintro e W17 ⟨rfl, f⟩
                    clear c10 c11 c12 c13 c14 c20 c21 c22 c23 c24 c30 c31 c32 c33 c34
                    have B1 := Lib.hid (keepB B1.out f)
                    have B2 := Lib.hid (keepB B2.out f)
                    have B3 := Lib.hid (keepB B3.out f)
                    have A1 := Lib.hid (blk_all B1.out)
                    have A2 := Lib.hid (blk_all B2.out)
                    have A3 := Lib.hid (blk_all B3.out)
                    have c10 : W17.cell? ⟨g, 0, none⟩ = some (.int .i64 k1) := B1.out.cell 0
                    have c11 : W17.cell? ⟨g, 1, none⟩ = some (.int .i64 n1) := B1.out.cell 1
                    have c12 : W17.cell? ⟨g, 2, none⟩ = some (.string (strOf t1)) := B1.out.cell 2
                    have c13 : W17.cell? ⟨g, 3, none⟩ = some (.slice Al1 l1.length cl1) := B1.out.cell 3
                    have c14 : W17.cell? ⟨g, 4, none⟩ = some (.slice Ak1 ks1.length ck1) := B1.out.cell 4
                    have c20 : W17.cell? ⟨(g + 1), 0, none⟩ = some (.int .i64 k2) := B2.out.cell 0
                    have c21 : W17.cell? ⟨(g + 1), 1, none⟩ = some (.int .i64 n2) := B2.out.cell 1
                    have c22 : W17.cell? ⟨(g + 1), 2, none⟩ = some (.string (strOf t2)) := B2.out.cell 2
                    have c23 : W17.cell? ⟨(g + 1), 3, none⟩ = some (.slice Al2 l2.length cl2) := B2.out.cell 3
                    have c24 : W17.cell? ⟨(g + 1), 4, none⟩ = some (.slice Ak2 ks2.length ck2) := B2.out.cell 4
                    have c30 : W17.cell? ⟨(g + 1 + 1), 0, none⟩ = some (.int .i64 k3) := B3.out.cell 0
                    have c31 : W17.cell? ⟨(g + 1 + 1), 1, none⟩ = some (.int .i64 n3) := B3.out.cell 1
                    have c32 : W17.cell? ⟨(g + 1 + 1), 2, none⟩ = some (.string (strOf t3)) := B3.out.cell 2
                    have c33 : W17.cell? ⟨(g + 1 + 1), 3, none⟩ = some (.slice Al3 l3.length cl3) := B3.out.cell 3
                    have c34 : W17.cell? ⟨(g + 1 + 1), 4, none⟩ = some (.slice Ak3 ks3.length ck3) := B3.out.cell 4
                    have F : Hid (Fr (fun _ => False) w W17) := Lib.hid (F.out.trans f (fun _ _ h => h))
                    clear f
                    go_wp2_with (first
                      | (refine wpList_load_val rfl 25 _ rfl g _ rfl _ A1.out _ Tryz.underlying25 rfl Z1.out ?_)
                      | (refine wpList_load_val rfl 25 _ rfl (g + 1) _ rfl _ A2.out _ Tryz.underlying25 rfl Z2.out ?_)
                      | (refine wpList_load_val rfl 25 _ rfl (g + 1 + 1) _ rfl _ A3.out _ Tryz.underlying25 rfl Z3.out ?_))
                    refine (awake_c W17 (HL.out.far F.out)).mono ?_
                    rintro e W18 ⟨rfl, f⟩
                    have F : Hid (Fr (fun _ => False) w W18) := Lib.hid (F.out.trans f (fun _ _ h => h))
                    clear f
                    go_wp2_with fail
                    go_ret
                    exact ⟨rfl, F.out⟩
                  · clear HT HBZ HBY HBX
                    go_wp2_with (first
                      | (refine wpList_load_val rfl 25 _ rfl g _ rfl _ A1.out _ Tryz.underlying25 rfl Z1.out ?_)
                      | (refine wpList_load_val rfl 25 _ rfl (g + 1) _ rfl _ A2.out _ Tryz.underlying25 rfl Z2.out ?_)
                      | (refine wpList_load_val rfl 25 _ rfl (g + 1 + 1) _ rfl _ A3.out _ Tryz.underlying25 rfl Z3.out ?_))
                    refine (CBA.out W13 F.out).mono ?_
                    rintro e W14 ⟨rfl, f⟩
                    clear c10 c11 c12 c13 c14 c20 c21 c22 c23 c24 c30 c31 c32 c33 c34
                    have B1 := Lib.hid (keepB B1.out f)
                    have B2 := Lib.hid (keepB B2.out f)
                    have B3 := Lib.hid (keepB B3.out f)
                    have A1 := Lib.hid (blk_all B1.out)
                    have A2 := Lib.hid (blk_all B2.out)
                    have A3 := Lib.hid (blk_all B3.out)
                    have c10 : W14.cell? ⟨g, 0, none⟩ = some (.int .i64 k1) := B1.out.cell 0
                    have c11 : W14.cell? ⟨g, 1, none⟩ = some (.int .i64 n1) := B1.out.cell 1
                    have c12 : W14.cell? ⟨g, 2, none⟩ = some (.string (strOf t1)) := B1.out.cell 2
                    have c13 : W14.cell? ⟨g, 3, none⟩ = some (.slice Al1 l1.length cl1) := B1.out.cell 3
                    have c14 : W14.cell? ⟨g, 4, none⟩ = some (.slice Ak1 ks1.length ck1) := B1.out.cell 4
                    have c20 : W14.cell? ⟨(g + 1), 0, none⟩ = some (.int .i64 k2) := B2.out.cell 0
                    have c21 : W14.cell? ⟨(g + 1), 1, none⟩ = some (.int .i64 n2) := B2.out.cell 1
                    have c22 : W14.cell? ⟨(g + 1), 2, none⟩ = some (.string (strOf t2)) := B2.out.cell 2
                    have c23 : W14.cell? ⟨(g + 1), 3, none⟩ = some (.slice Al2 l2.length cl2) := B2.out.cell 3
                    have c24 : W14.cell? ⟨(g + 1), 4, none⟩ = some (.slice Ak2 ks2.length ck2) := B2.out.cell 4
                    have c30 : W14.cell? ⟨(g + 1 + 1), 0, none⟩ = some (.int .i64 k3) := B3.out.cell 0
                    have c31 : W14.cell? ⟨(g + 1 + 1), 1, none⟩ = some (.int .i64 n3) := B3.out.cell 1
                    have c32 : W14.cell? ⟨(g + 1 + 1), 2, none⟩ = some (.string (strOf t3)) := B3.out.cell 2
                    have c33 : W14.cell? ⟨(g + 1 + 1), 3, none⟩ = some (.slice Al3 l3.length cl3) := B3.out.cell 3
                    have c34 : W14.cell? ⟨(g + 1 + 1), 4, none⟩ = some (.slice Ak3 ks3.length ck3) := B3.out.cell 4
                    have F : Hid (Fr (fun _ => False) w W14) := Lib.hid (F.out.trans f (fun _ _ h => h))
                    clear f
                    go_wp2_with (first
                      | (refine wpList_load_val rfl 25 _ rfl g _ rfl _ A1.out _ Tryz.underlying25 rfl Z1.out ?_)
                      | (refine wpList_load_val rfl 25 _ rfl (g + 1) _ rfl _ A2.out _ Tryz.underlying25 rfl Z2.out ?_)
                      | (refine wpList_load_val rfl 25 _ rfl (g + 1 + 1) _ rfl _ A3.out _ Tryz.underlying25 rfl Z3.out ?_))
                    refine (SAB.out W14 F.out).mono ?_
                    rintro e W15 ⟨rfl, f⟩
                    clear c10 c11 c12 c13 c14 c20 c21 c22 c23 c24 c30 c31 c32 c33 c34
                    have B1 := Lib.hid (keepB B1.out f)
                    have B2 := Lib.hid (keepB B2.out f)
                    have B3 := Lib.hid (keepB B3.out f)
                    have A1 := Lib.hid (blk_all B1.out)
                    have A2 := Lib.hid (blk_all B2.out)
                    have A3 := Lib.hid (blk_all B3.out)
                    have c10 : W15.cell? ⟨g, 0, none⟩ = some (.int .i64 k1) := B1.out.cell 0
                    have c11 : W15.cell? ⟨g, 1, none⟩ = some (.int .i64 n1) := B1.out.cell 1
                    have c12 : W15.cell? ⟨g, 2, none⟩ = some (.string (strOf t1)) := B1.out.cell 2
                    have c13 : W15.cell? ⟨g, 3, none⟩ = some (.slice Al1 l1.length cl1) := B1.out.cell 3
                    have c14 : W15.cell? ⟨g, 4, none⟩ = some (.slice Ak1 ks1.length ck1) := B1.out.cell 4
                    have c20 : W15.cell? ⟨(g + 1), 0, none⟩ = some (.int .i64 k2) := B2.out.cell 0
                    have c21 : W15.cell? ⟨(g + 1), 1, none⟩ = some (.int .i64 n2) := B2.out.cell 1
                    have c22 : W15.cell? ⟨(g + 1), 2, none⟩ = some (.string (strOf t2)) := B2.out.cell 2
                    have c23 : W15.cell? ⟨(g + 1), 3, none⟩ = some (.slice Al2 l2.length cl2) := B2.out.cell 3
                    have c24 : W15.cell? ⟨(g + 1), 4, none⟩ = some (.slice Ak2 ks2.length ck2) := B2.out.cell 4
                    have c30 : W15.cell? ⟨(g + 1 + 1), 0, none⟩ = some (.int .i64 k3) := B3.out.cell 0
                    have c31 : W15.cell? ⟨(g + 1 + 1), 1, none⟩ = some (.int .i64 n3) := B3.out.cell 1
                    have c32 : W15.cell? ⟨(g + 1 + 1), 2, none⟩ = some (.string (strOf t3)) := B3.out.cell 2
                    have c33 : W15.cell? ⟨(g + 1 + 1), 3, none⟩ = some (.slice Al3 l3.length cl3) := B3.out.cell 3
                    have c34 : W15.cell? ⟨(g + 1 + 1), 4, none⟩ = some (.slice Ak3 ks3.length ck3) := B3.out.cell 4
                    have F : Hid (Fr (fun _ => False) w W15) := Lib.hid (F.out.trans f (fun _ _ h => h))
                    clear f
                    go_wp2_with (first
                      | (refine wpList_load_val rfl 25 _ rfl g _ rfl _ A1.out _ Tryz.underlying25 rfl Z1.out ?_)
                      | (refine wpList_load_val rfl 25 _ rfl (g + 1) _ rfl _ A2.out _ Tryz.underlying25 rfl Z2.out ?_)
                      | (refine wpList_load_val rfl 25 _ rfl (g + 1 + 1) _ rfl _ A3.out _ Tryz.underlying25 rfl Z3.out ?_))
                    refine (awake_c W15 (HL.out.far F.out)).mono ?_
                    rintro e W16 ⟨rfl, f⟩
                    have F : Hid (Fr (fun _ => False) w W16) := Lib.hid (F.out.trans f (fun _ _ h => h))
                    clear f
                    go_wp2_with fail
                    go_ret
                    exact ⟨rfl, F.out⟩
                · rcases HBY.out with rfl | rfl | rfl
                  · have hzz : z = -1 := by
                      have h1 := HT.out (by omega) (by omega)
                      have h2 := HBZ.out
                      have h3 := h1.2.1 (.inr (by omega))
                      omega
                    subst hzz
                    clear HT HBZ HBY HBX
                    go_wp2_with (first
                      | (refine wpList_load_val rfl 25 _ rfl g _ rfl _ A1.out _ Tryz.underlying25 rfl Z1.out ?_)
                      | (refine wpList_load_val rfl 25 _ rfl (g + 1) _ rfl _ A2.out _ Tryz.underlying25 rfl Z2.out ?_)
                      | (refine wpList_load_val rfl 25 _ rfl (g + 1 + 1) _ rfl _ A3.out _ Tryz.underlying25 rfl Z3.out ?_))
                    refine (CBA.out W13 F.out).mono ?_
                    rintro e W14 ⟨rfl, f⟩
                    clear c10 c11 c12 c13 c14 c20 c21 c22 c23 c24 c30 c31 c32 c33 c34
                    have B1 := Lib.hid (keepB B1.out f)
                    have B2 := Lib.hid (keepB B2.out f)
                    have B3 := Lib.hid (keepB B3.out f)
                    have A1 := Lib.hid (blk_all B1.out)
                    have A2 := Lib.hid (blk_all B2.out)
                    have A3 := Lib.hid (blk_all B3.out)
                    have c10 : W14.cell? ⟨g, 0, none⟩ = some (.int .i64 k1) := B1.out.cell 0
                    have c11 : W14.cell? ⟨g, 1, none⟩ = some (.int .i64 n1) := B1.out.cell 1
                    have c12 : W14.cell? ⟨g, 2, none⟩ = some (.string (strOf t1)) := B1.out.cell 2
                    have c13 : W14.cell? ⟨g, 3, none⟩ = some (.slice Al1 l1.length cl1) := B1.out.cell 3
                    have c14 : W14.cell? ⟨g, 4, none⟩ = some (.slice Ak1 ks1.length ck1) := B1.out.cell 4
                    have c20 : W14.cell? ⟨(g + 1), 0, none⟩ = some (.int .i64 k2) := B2.out.cell 0
                    have c21 : W14.cell? ⟨(g + 1), 1, none⟩ = some (.int .i64 n2) := B2.out.cell 1
                    have c22 : W14.cell? ⟨(g + 1), 2, none⟩ = some (.string (strOf t2)) := B2.out.cell 2
                    have c23 : W14.cell? ⟨(g + 1), 3, none⟩ = some (.slice Al2 l2.length cl2) := B2.out.cell 3
                    have c24 : W14.cell? ⟨(g + 1), 4, none⟩ = some (.slice Ak2 ks2.length ck2) := B2.out.cell 4
                    have c30 : W14.cell? ⟨(g + 1 + 1), 0, none⟩ = some (.int .i64 k3) := B3.out.cell 0
                    have c31 : W14.cell? ⟨(g + 1 + 1), 1, none⟩ = some (.int .i64 n3) := B3.out.cell 1
                    have c32 : W14.cell? ⟨(g + 1 + 1), 2, none⟩ = some (.string (strOf t3)) := B3.out.cell 2
                    have c33 : W14.cell? ⟨(g + 1 + 1), 3, none⟩ = some (.slice Al3 l3.length cl3) := B3.out.cell 3
                    have c34 : W14.cell? ⟨(g + 1 + 1), 4, none⟩ = some (.slice Ak3 ks3.length ck3) := B3.out.cell 4
                    have F : Hid (Fr (fun _ => False) w W14) := Lib.hid (F.out.trans f (fun _ _ h => h))
                    clear f
                    go_wp2_with (first
                      | (refine wpList_load_val rfl 25 _ rfl g _ rfl _ A1.out _ Tryz.underlying25 rfl Z1.out ?_)
                      | (refine wpList_load_val rfl 25 _ rfl (g + 1) _ rfl _ A2.out _ Tryz.underlying25 rfl Z2.out ?_)
                      | (refine wpList_load_val rfl 25 _ rfl (g + 1 + 1) _ rfl _ A3.out _ Tryz.underlying25 rfl Z3.out ?_))
                    refine (SAB.out W14 F.out).mono ?_
                    rintro e W15 ⟨rfl, f⟩
                    clear c10 c11 c12 c13 c14 c20 c21 c22 c23 c24 c30 c31 c32 c33 c34
                    have B1 := Lib.hid (keepB B1.out f)
                    have B2 := Lib.hid (keepB B2.out f)
                    have B3 := Lib.hid (keepB B3.out f)
                    have A1 := Lib.hid (blk_all B1.out)
                    have A2 := Lib.hid (blk_all B2.out)
                    have A3 := Lib.hid (blk_all B3.out)
                    have c10 : W15.cell? ⟨g, 0, none⟩ = some (.int .i64 k1) := B1.out.cell 0
                    have c11 : W15.cell? ⟨g, 1, none⟩ = some (.int .i64 n1) := B1.out.cell 1
                    have c12 : W15.cell? ⟨g, 2, none⟩ = some (.string (strOf t1)) := B1.out.cell 2
                    have c13 : W15.cell? ⟨g, 3, none⟩ = some (.slice Al1 l1.length cl1) := B1.out.cell 3
                    have c14 : W15.cell? ⟨g, 4, none⟩ = some (.slice Ak1 ks1.length ck1) := B1.out.cell 4
                    have c20 : W15.cell? ⟨(g + 1), 0, none⟩ = some (.int .i64 k2) := B2.out.cell 0
                    have c21 : W15.cell? ⟨(g + 1), 1, none⟩ = some (.int .i64 n2) := B2.out.cell 1
                    have c22 : W15.cell? ⟨(g + 1), 2, none⟩ = some (.string (strOf t2)) := B2.out.cell 2
                    have c23 : W15.cell? ⟨(g + 1), 3, none⟩ = some (.slice Al2 l2.length cl2) := B2.out.cell 3
                    have c24 : W15.cell? ⟨(g + 1), 4, none⟩ = some (.slice Ak2 ks2.length ck2) := B2.out.cell 4
                    have c30 : W15.cell? ⟨(g + 1 + 1), 0, none⟩ = some (.int .i64 k3) := B3.out.cell 0
                    have c31 : W15.cell? ⟨(g + 1 + 1), 1, none⟩ = some (.int .i64 n3) := B3.out.cell 1
                    have c32 : W15.cell? ⟨(g + 1 + 1), 2, none⟩ = some (.string (strOf t3)) := B3.out.cell 2
                    have c33 : W15.cell? ⟨(g + 1 + 1), 3, none⟩ = some (.slice Al3 l3.length cl3) := B3.out.cell 3
                    have c34 : W15.cell? ⟨(g + 1 + 1), 4, none⟩ = some (.slice Ak3 ks3.length ck3) := B3.out.cell 4
                    have F : Hid (Fr (fun _ => False) w W15) := Lib.hid (F.out.trans f (fun _ _ h => h))
                    clear f
                    go_wp2_with (first
                      | (refine wpList_load_val rfl 25 _ rfl g _ rfl _ A1.out _ Tryz.underlying25 rfl Z1.out ?_)
                      | (refine wpList_load_val rfl 25 _ rfl (g + 1) _ rfl _ A2.out _ Tryz.underlying25 rfl Z2.out ?_)
                      | (refine wpList_load_val rfl 25 _ rfl (g + 1 + 1) _ rfl _ A3.out _ Tryz.underlying25 rfl Z3.out ?_))
                    refine (CAC.out W15 F.out).mono ?_
                    rintro e W16 ⟨rfl, f⟩
                    clear c10 c11 c12 c13 c14 c20 c21 c22 c23 c24 c30 c31 c32 c33 c34
                    have B1 := Lib.hid (keepB B1.out f)
                    have B2 := Lib.hid (keepB B2.out f)
                    have B3 := Lib.hid (keepB B3.out f)
                    have A1 := Lib.hid (blk_all B1.out)
                    have A2 := Lib.hid (blk_all B2.out)
                    have A3 := Lib.hid (blk_all B3.out)
                    have c10 : W16.cell? ⟨g, 0, none⟩ = some (.int .i64 k1) := B1.out.cell 0
                    have c11 : W16.cell? ⟨g, 1, none⟩ = some (.int .i64 n1) := B1.out.cell 1
                    have c12 : W16.cell? ⟨g, 2, none⟩ = some (.string (strOf t1)) := B1.out.cell 2
                    have c13 : W16.cell? ⟨g, 3, none⟩ = some (.slice Al1 l1.length cl1) := B1.out.cell 3
                    have c14 : W16.cell? ⟨g, 4, none⟩ = some (.slice Ak1 ks1.length ck1) := B1.out.cell 4
                    have c20 : W16.cell? ⟨(g + 1), 0, none⟩ = some (.int .i64 k2) := B2.out.cell 0
                    have c21 : W16.cell? ⟨(g + 1), 1, none⟩ = some (.int .i64 n2) := B2.out.cell 1
                    have c22 : W16.cell? ⟨(g + 1), 2, none⟩ = some (.string (strOf t2)) := B2.out.cell 2
                    have c23 : W16.cell? ⟨(g + 1), 3, none⟩ = some (.slice Al2 l2.length cl2) := B2.out.cell 3
                    have c24 : W16.cell? ⟨(g + 1), 4, none⟩ = some (.slice Ak2 ks2.length ck2) := B2.out.cell 4
                    have c30 : W16.cell? ⟨(g + 1 + 1), 0, none⟩ = some (.int .i64 k3) := B3.out.cell 0
                    have c31 : W16.cell? ⟨(g + 1 + 1), 1, none⟩ = some (.int .i64 n3) := B3.out.cell 1
                    have c32 : W16.cell? ⟨(g + 1 + 1), 2, none⟩ = some (.string (strOf t3)) := B3.out.cell 2
                    have c33 : W16.cell? ⟨(g + 1 + 1), 3, none⟩ = some (.slice Al3 l3.length cl3) := B3.out.cell 3
                    have c34 : W16.cell? ⟨(g + 1 + 1), 4, none⟩ = some (.slice Ak3 ks3.length ck3) := B3.out.cell 4
                    have F : Hid (Fr (fun _ => False) w W16) := Lib.hid (F.out.trans f (fun _ _ h => h))
                    clear f
                    go_wp2_with (first
                      | (refine wpList_load_val rfl 25 _ rfl g _ rfl _ A1.out _ Tryz.underlying25 rfl Z1.out ?_)
                      | (refine wpList_load_val rfl 25 _ rfl (g + 1) _ rfl _ A2.out _ Tryz.underlying25 rfl Z2.out ?_)
                      | (refine wpList_load_val rfl 25 _ rfl (g + 1 + 1) _ rfl _ A3.out _ Tryz.underlying25 rfl Z3.out ?_))
                    refine (awake_c W16 (HL.out.far F.out)).mono ?_
                    rintro e W17 ⟨rfl, f⟩
                    have F : Hid (Fr (fun _ => False) w W17) := Lib.hid (F.out.trans f (fun _ _ h => h))
                    clear f
                    go_wp2_with fail
                    go_ret
                    exact ⟨rfl, F.out⟩
                  · have hzz : z = 0 := by
                      have h1 := HT.out (by omega) (by omega)
                      have h2 := HBZ.out
                      exact h1.2.2 rfl rfl
                    subst hzz
                    clear HT HBZ HBY HBX
                    go_wp2_with (first
                      | (refine wpList_load_val rfl 25 _ rfl g _ rfl _ A1.out _ Tryz.underlying25 rfl Z1.out ?_)
                      | (refine wpList_load_val rfl 25 _ rfl (g + 1) _ rfl _ A2.out _ Tryz.underlying25 rfl Z2.out ?_)
                      | (refine wpList_load_val rfl 25 _ rfl (g + 1 + 1) _ rfl _ A3.out _ Tryz.underlying25 rfl Z3.out ?_))
                    refine (CBA.out W13 F.out).mono ?_
                    rintro e W14 ⟨rfl, f⟩
                    clear c10 c11 c12 c13 c14 c20 c21 c22 c23 c24 c30 c31 c32 c33 c34
                    have B1 := Lib.hid (keepB B1.out f)
                    have B2 := Lib.hid (keepB B2.out f)
                    have B3 := Lib.hid (keepB B3.out f)
                    have A1 := Lib.hid (blk_all B1.out)
                    have A2 := Lib.hid (blk_all B2.out)
                    have A3 := Lib.hid (blk_all B3.out)
                    have c10 : W14.cell? ⟨g, 0, none⟩ = some (.int .i64 k1) := B1.out.cell 0
                    have c11 : W14.cell? ⟨g, 1, none⟩ = some (.int .i64 n1) := B1.out.cell 1
                    have c12 : W14.cell? ⟨g, 2, none⟩ = some (.string (strOf t1)) := B1.out.cell 2
                    have c13 : W14.cell? ⟨g, 3, none⟩ = some (.slice Al1 l1.length cl1) := B1.out.cell 3
                    have c14 : W14.cell? ⟨g, 4, none⟩ = some (.slice Ak1 ks1.length ck1) := B1.out.cell 4
                    have c20 : W14.cell? ⟨(g + 1), 0, none⟩ = some (.int .i64 k2) := B2.out.cell 0
                    have c21 : W14.cell? ⟨(g + 1), 1, none⟩ = some (.int .i64 n2) := B2.out.cell 1
                    have c22 : W14.cell? ⟨(g + 1), 2, none⟩ = some (.string (strOf t2)) := B2.out.cell 2
                    have c23 : W14.cell? ⟨(g + 1), 3, none⟩ = some (.slice Al2 l2.length cl2) := B2.out.cell 3
                    have c24 : W14.cell? ⟨(g + 1), 4, none⟩ = some (.slice Ak2 ks2.length ck2) := B2.out.cell 4
                    have c30 : W14.cell? ⟨(g + 1 + 1), 0, none⟩ = some (.int .i64 k3) := B3.out.cell 0
                    have c31 : W14.cell? ⟨(g + 1 + 1), 1, none⟩ = some (.int .i64 n3) := B3.out.cell 1
                    have c32 : W14.cell? ⟨(g + 1 + 1), 2, none⟩ = some (.string (strOf t3)) := B3.out.cell 2
                    have c33 : W14.cell? ⟨(g + 1 + 1), 3, none⟩ = some (.slice Al3 l3.length cl3) := B3.out.cell 3
                    have c34 : W14.cell? ⟨(g + 1 + 1), 4, none⟩ = some (.slice Ak3 ks3.length ck3) := B3.out.cell 4
                    have F : Hid (Fr (fun _ => False) w W14) := Lib.hid (F.out.trans f (fun _ _ h => h))
                    clear f
                    go_wp2_with (first
                      | (refine wpList_load_val rfl 25 _ rfl g _ rfl _ A1.out _ Tryz.underlying25 rfl Z1.out ?_)
                      | (refine wpList_load_val rfl 25 _ rfl (g + 1) _ rfl _ A2.out _ Tryz.underlying25 rfl Z2.out ?_)
                      | (refine wpList_load_val rfl 25 _ rfl (g + 1 + 1) _ rfl _ A3.out _ Tryz.underlying25 rfl Z3.out ?_))
                    refine (SAB.out W14 F.out).mono ?_
                    rintro e W15 ⟨rfl, f⟩
                    clear c10 c11 c12 c13 c14 c20 c21 c22 c23 c24 c30 c31 c32 c33 c34
                    have B1 := Lib.hid (keepB B1.out f)
                    have B2 := Lib.hid (keepB B2.out f)
                    have B3 := Lib.hid (keepB B3.out f)
                    have A1 := Lib.hid (blk_all B1.out)
                    have A2 := Lib.hid (blk_all B2.out)
                    have A3 := Lib.hid (blk_all B3.out)
                    have c10 : W15.cell? ⟨g, 0, none⟩ = some (.int .i64 k1) := B1.out.cell 0
                    have c11 : W15.cell? ⟨g, 1, none⟩ = some (.int .i64 n1) := B1.out.cell 1
                    have c12 : W15.cell? ⟨g, 2, none⟩ = some (.string (strOf t1)) := B1.out.cell 2
                    have c13 : W15.cell? ⟨g, 3, none⟩ = some (.slice Al1 l1.length cl1) := B1.out.cell 3
                    have c14 : W15.cell? ⟨g, 4, none⟩ = some (.slice Ak1 ks1.length ck1) := B1.out.cell 4
                    have c20 : W15.cell? ⟨(g + 1), 0, none⟩ = some (.int .i64 k2) := B2.out.cell 0
                    have c21 : W15.cell? ⟨(g + 1), 1, none⟩ = some (.int .i64 n2) := B2.out.cell 1
                    have c22 : W15.cell? ⟨(g + 1), 2, none⟩ = some (.string (strOf t2)) := B2.out.cell 2
                    have c23 : W15.cell? ⟨(g + 1), 3, none⟩ = some (.slice Al2 l2.length cl2) := B2.out.cell 3
                    have c24 : W15.cell? ⟨(g + 1), 4, none⟩ = some (.slice Ak2 ks2.length ck2) := B2.out.cell 4
                    have c30 : W15.cell? ⟨(g + 1 + 1), 0, none⟩ = some (.int .i64 k3) := B3.out.cell 0
                    have c31 : W15.cell? ⟨(g + 1 + 1), 1, none⟩ = some (.int .i64 n3) := B3.out.cell 1
                    have c32 : W15.cell? ⟨(g + 1 + 1), 2, none⟩ = some (.string (strOf t3)) := B3.out.cell 2
                    have c33 : W15.cell? ⟨(g + 1 + 1), 3, none⟩ = some (.slice Al3 l3.length cl3) := B3.out.cell 3
                    have c34 : W15.cell? ⟨(g + 1 + 1), 4, none⟩ = some (.slice Ak3 ks3.length ck3) := B3.out.cell 4
                    have F : Hid (Fr (fun _ => False) w W15) := Lib.hid (F.out.trans f (fun _ _ h => h))
                    clear f
                    go_wp2_with (first
                      | (refine wpList_load_val rfl 25 _ rfl g _ rfl _ A1.out _ Tryz.underlying25 rfl Z1.out ?_)
                      | (refine wpList_load_val rfl 25 _ rfl (g + 1) _ rfl _ A2.out _ Tryz.underlying25 rfl Z2.out ?_)
                      | (refine wpList_load_val rfl 25 _ rfl (g + 1 + 1) _ rfl _ A3.out _ Tryz.underlying25 rfl Z3.out ?_))
                    refine (CAC.out W15 F.out).mono ?_
                    rintro e W16 ⟨rfl, f⟩
                    clear c10 c11 c12 c13 c14 c20 c21 c22 c23 c24 c30 c31 c32 c33 c34
                    have B1 := Lib.hid (keepB B1.out f)
                    have B2 := Lib.hid (keepB B2.out f)
                    have B3 := Lib.hid (keepB B3.out f)
                    have A1 := Lib.hid (blk_all B1.out)
                    have A2 := Lib.hid (blk_all B2.out)
                    have A3 := Lib.hid (blk_all B3.out)
                    have c10 : W16.cell? ⟨g, 0, none⟩ = some (.int .i64 k1) := B1.out.cell 0
                    have c11 : W16.cell? ⟨g, 1, none⟩ = some (.int .i64 n1) := B1.out.cell 1
                    have c12 : W16.cell? ⟨g, 2, none⟩ = some (.string (strOf t1)) := B1.out.cell 2
                    have c13 : W16.cell? ⟨g, 3, none⟩ = some (.slice Al1 l1.length cl1) := B1.out.cell 3
                    have c14 : W16.cell? ⟨g, 4, none⟩ = some (.slice Ak1 ks1.length ck1) := B1.out.cell 4
                    have c20 : W16.cell? ⟨(g + 1), 0, none⟩ = some (.int .i64 k2) := B2.out.cell 0
                    have c21 : W16.cell? ⟨(g + 1), 1, none⟩ = some (.int .i64 n2) := B2.out.cell 1
                    have c22 : W16.cell? ⟨(g + 1), 2, none⟩ = some (.string (strOf t2)) := B2.out.cell 2
                    have c23 : W16.cell? ⟨(g + 1), 3, none⟩ = some (.slice Al2 l2.length cl2) := B2.out.cell 3
                    have c24 : W16.cell? ⟨(g + 1), 4, none⟩ = some (.slice Ak2 ks2.length ck2) := B2.out.cell 4
                    have c30 : W16.cell? ⟨(g + 1 + 1), 0, none⟩ = some (.int .i64 k3) := B3.out.cell 0
                    have c31 : W16.cell? ⟨(g + 1 + 1), 1, none⟩ = some (.int .i64 n3) := B3.out.cell 1
                    have c32 : W16.cell? ⟨(g + 1 + 1), 2, none⟩ = some (.string (strOf t3)) := B3.out.cell 2
                    have c33 : W16.cell? ⟨(g + 1 + 1), 3, none⟩ = some (.slice Al3 l3.length cl3) := B3.out.cell 3
                    have c34 : W16.cell? ⟨(g + 1 + 1), 4, none⟩ = some (.slice Ak3 ks3.length ck3) := B3.out.cell 4
                    have F : Hid (Fr (fun _ => False) w W16) := Lib.hid (F.out.trans f (fun _ _ h => h))
                    clear f
                    go_wp2_with (first
                      | (refine wpList_load_val rfl 25 _ rfl g _ rfl _ A1.out _ Tryz.underlying25 rfl Z1.out ?_)
                      | (refine wpList_load_val rfl 25 _ rfl (g + 1) _ rfl _ A2.out _ Tryz.underlying25 rfl Z2.out ?_)
                      | (refine wpList_load_val rfl 25 _ rfl (g + 1 + 1) _ rfl _ A3.out _ Tryz.underlying25 rfl Z3.out ?_))
                    refine (awake_c W16 (HL.out.far F.out)).mono ?_
                    rintro e W17 ⟨rfl, f⟩
                    have F : Hid (Fr (fun _ => False) w W17) := Lib.hid (F.out.trans f (fun _ _ h => h))
                    clear f
                    go_wp2_with fail
                    go_ret
                    exact ⟨rfl, F.out⟩
                  · clear HT HBZ HBY HBX
                    go_wp2_with (first
                      | (refine wpList_load_val rfl 25 _ rfl g _ rfl _ A1.out _ Tryz.underlying25 rfl Z1.out ?_)
                      | (refine wpList_load_val rfl 25 _ rfl (g + 1) _ rfl _ A2.out _ Tryz.underlying25 rfl Z2.out ?_)
                      | (refine wpList_load_val rfl 25 _ rfl (g + 1 + 1) _ rfl _ A3.out _ Tryz.underlying25 rfl Z3.out ?_))
                    refine (CBA.out W13 F.out).mono ?_
                    rintro e W14 ⟨rfl, f⟩
                    clear c10 c11 c12 c13 c14 c20 c21 c22 c23 c24 c30 c31 c32 c33 c34
                    have B1 := Lib.hid (keepB B1.out f)
                    have B2 := Lib.hid (keepB B2.out f)
                    have B3 := Lib.hid (keepB B3.out f)
                    have A1 := Lib.hid (blk_all B1.out)
                    have A2 := Lib.hid (blk_all B2.out)
                    have A3 := Lib.hid (blk_all B3.out)
                    have c10 : W14.cell? ⟨g, 0, none⟩ = some (.int .i64 k1) := B1.out.cell 0
                    have c11 : W14.cell? ⟨g, 1, none⟩ = some (.int .i64 n1) := B1.out.cell 1
                    have c12 : W14.cell? ⟨g, 2, none⟩ = some (.string (strOf t1)) := B1.out.cell 2
                    have c13 : W14.cell? ⟨g, 3, none⟩ = some (.slice Al1 l1.length cl1) := B1.out.cell 3
                    have c14 : W14.cell? ⟨g, 4, none⟩ = some (.slice Ak1 ks1.length ck1) := B1.out.cell 4
                    have c20 : W14.cell? ⟨(g + 1), 0, none⟩ = some (.int .i64 k2) := B2.out.cell 0
                    have c21 : W14.cell? ⟨(g + 1), 1, none⟩ = some (.int .i64 n2) := B2.out.cell 1
                    have c22 : W14.cell? ⟨(g + 1), 2, none⟩ = some (.string (strOf t2)) := B2.out.cell 2
                    have c23 : W14.cell? ⟨(g + 1), 3, none⟩ = some (.slice Al2 l2.length cl2) := B2.out.cell 3
                    have c24 : W14.cell? ⟨(g + 1), 4, none⟩ = some (.slice Ak2 ks2.length ck2) := B2.out.cell 4
                    have c30 : W14.cell? ⟨(g + 1 + 1), 0, none⟩ = some (.int .i64 k3) := B3.out.cell 0
                    have c31 : W14.cell? ⟨(g + 1 + 1), 1, none⟩ = some (.int .i64 n3) := B3.out.cell 1
                    have c32 : W14.cell? ⟨(g + 1 + 1), 2, none⟩ = some (.string (strOf t3)) := B3.out.cell 2
                    have c33 : W14.cell? ⟨(g + 1 + 1), 3, none⟩ = some (.slice Al3 l3.length cl3) := B3.out.cell 3
                    have c34 : W14.cell? ⟨(g + 1 + 1), 4, none⟩ = some (.slice Ak3 ks3.length ck3) := B3.out.cell 4
                    have F : Hid (Fr (fun _ => False) w W14) := Lib.hid (F.out.trans f (fun _ _ h => h))
                    clear f
                    go_wp2_with (first
                      | (refine wpList_load_val rfl 25 _ rfl g _ rfl _ A1.out _ Tryz.underlying25 rfl Z1.out ?_)
                      | (refine wpList_load_val rfl 25 _ rfl (g + 1) _ rfl _ A2.out _ Tryz.underlying25 rfl Z2.out ?_)
                      | (refine wpList_load_val rfl 25 _ rfl (g + 1 + 1) _ rfl _ A3.out _ Tryz.underlying25 rfl Z3.out ?_))
                    refine (SAB.out W14 F.out).mono ?_
                    rintro e W15 ⟨rfl, f⟩
                    clear c10 c11 c12 c13 c14 c20 c21 c22 c23 c24 c30 c31 c32 c33 c34
                    have B1 := Lib.hid (keepB B1.out f)
                    have B2 := Lib.hid (keepB B2.out f)
                    have B3 := Lib.hid (keepB B3.out f)
                    have A1 := Lib.hid (blk_all B1.out)
                    have A2 := Lib.hid (blk_all B2.out)
                    have A3 := Lib.hid (blk_all B3.out)
                    have c10 : W15.cell? ⟨g, 0, none⟩ = some (.int .i64 k1) := B1.out.cell 0
                    have c11 : W15.cell? ⟨g, 1, none⟩ = some (.int .i64 n1) := B1.out.cell 1
                    have c12 : W15.cell? ⟨g, 2, none⟩ = some (.string (strOf t1)) := B1.out.cell 2
                    have c13 : W15.cell? ⟨g, 3, none⟩ = some (.slice Al1 l1.length cl1) := B1.out.cell 3
                    have c14 : W15.cell? ⟨g, 4, none⟩ = some (.slice Ak1 ks1.length ck1) := B1.out.cell 4
                    have c20 : W15.cell? ⟨(g + 1), 0, none⟩ = some (.int .i64 k2) := B2.out.cell 0
                    have c21 : W15.cell? ⟨(g + 1), 1, none⟩ = some (.int .i64 n2) := B2.out.cell 1
                    have c22 : W15.cell? ⟨(g + 1), 2, none⟩ = some (.string (strOf t2)) := B2.out.cell 2
                    have c23 : W15.cell? ⟨(g + 1), 3, none⟩ = some (.slice Al2 l2.length cl2) := B2.out.cell 3
                    have c24 : W15.cell? ⟨(g + 1), 4, none⟩ = some (.slice Ak2 ks2.length ck2) := B2.out.cell 4
                    have c30 : W15.cell? ⟨(g + 1 + 1), 0, none⟩ = some (.int .i64 k3) := B3.out.cell 0
                    have c31 : W15.cell? ⟨(g + 1 + 1), 1, none⟩ = some (.int .i64 n3) := B3.out.cell 1
                    have c32 : W15.cell? ⟨(g + 1 + 1), 2, none⟩ = some (.string (strOf t3)) := B3.out.cell 2
                    have c33 : W15.cell? ⟨(g + 1 + 1), 3, none⟩ = some (.slice Al3 l3.length cl3) := B3.out.cell 3
                    have c34 : W15.cell? ⟨(g + 1 + 1), 4, none⟩ = some (.slice Ak3 ks3.length ck3) := B3.out.cell 4
                    have F : Hid (Fr (fun _ => False) w W15) := Lib.hid (F.out.trans f (fun _ _ h => h))
                    clear f
                    go_wp2_with (first
                      | (refine wpList_load_val rfl 25 _ rfl g _ rfl _ A1.out _ Tryz.underlying25 rfl Z1.out ?_)
                      | (refine wpList_load_val rfl 25 _ rfl (g + 1) _ rfl _ A2.out _ Tryz.underlying25 rfl Z2.out ?_)
                      | (refine wpList_load_val rfl 25 _ rfl (g + 1 + 1) _ rfl _ A3.out _ Tryz.underlying25 rfl Z3.out ?_))
                    refine (awake_c W15 (HL.out.far F.out)).mono ?_
                    rintro e W16 ⟨rfl, f⟩
                    have F : Hid (Fr (fun _ => False) w W16) := Lib.hid (F.out.trans f (fun _ _ h => h))
                    clear f
                    go_wp2_with fail
                    go_ret
                    exact ⟨rfl, F.out⟩
                · rcases HBY.out with rfl | rfl | rfl
                  · clear HT HBZ HBY HBX
                    go_wp2_with (first
                      | (refine wpList_load_val rfl 25 _ rfl g _ rfl _ A1.out _ Tryz.underlying25 rfl Z1.out ?_)
                      | (refine wpList_load_val rfl 25 _ rfl (g + 1) _ rfl _ A2.out _ Tryz.underlying25 rfl Z2.out ?_)
                      | (refine wpList_load_val rfl 25 _ rfl (g + 1 + 1) _ rfl _ A3.out _ Tryz.underlying25 rfl Z3.out ?_))
                    refine (CBA.out W13 F.out).mono ?_
                    rintro e W14 ⟨rfl, f⟩
                    clear c10 c11 c12 c13 c14 c20 c21 c22 c23 c24 c30 c31 c32 c33 c34
                    have B1 := Lib.hid (keepB B1.out f)
                    have B2 := Lib.hid (keepB B2.out f)
                    have B3 := Lib.hid (keepB B3.out f)
                    have A1 := Lib.hid (blk_all B1.out)
                    have A2 := Lib.hid (blk_all B2.out)
                    have A3 := Lib.hid (blk_all B3.out)
                    have c10 : W14.cell? ⟨g, 0, none⟩ = some (.int .i64 k1) := B1.out.cell 0
                    have c11 : W14.cell? ⟨g, 1, none⟩ = some (.int .i64 n1) := B1.out.cell 1
                    have c12 : W14.cell? ⟨g, 2, none⟩ = some (.string (strOf t1)) := B1.out.cell 2
                    have c13 : W14.cell? ⟨g, 3, none⟩ = some (.slice Al1 l1.length cl1) := B1.out.cell 3
                    have c14 : W14.cell? ⟨g, 4, none⟩ = some (.slice Ak1 ks1.length ck1) := B1.out.cell 4
                    have c20 : W14.cell? ⟨(g + 1), 0, none⟩ = some (.int .i64 k2) := B2.out.cell 0
                    have c21 : W14.cell? ⟨(g + 1), 1, none⟩ = some (.int .i64 n2) := B2.out.cell 1
                    have c22 : W14.cell? ⟨(g + 1), 2, none⟩ = some (.string (strOf t2)) := B2.out.cell 2
                    have c23 : W14.cell? ⟨(g + 1), 3, none⟩ = some (.slice Al2 l2.length cl2) := B2.out.cell 3
                    have c24 : W14.cell? ⟨(g + 1), 4, none⟩ = some (.slice Ak2 ks2.length ck2) := B2.out.cell 4
                    have c30 : W14.cell? ⟨(g + 1 + 1), 0, none⟩ = some (.int .i64 k3) := B3.out.cell 0
                    have c31 : W14.cell? ⟨(g + 1 + 1), 1, none⟩ = some (.int .i64 n3) := B3.out.cell 1
                    have c32 : W14.cell? ⟨(g + 1 + 1), 2, none⟩ = some (.string (strOf t3)) := B3.out.cell 2
                    have c33 : W14.cell? ⟨(g + 1 + 1), 3, none⟩ = some (.slice Al3 l3.length cl3) := B3.out.cell 3
                    have c34 : W14.cell? ⟨(g + 1 + 1), 4, none⟩ = some (.slice Ak3 ks3.length ck3) := B3.out.cell 4
                    have F : Hid (Fr (fun _ => False) w W14) := Lib.hid (F.out.trans f (fun _ _ h => h))
                    clear f
                    go_wp2_with (first
                      | (refine wpList_load_val rfl 25 _ rfl g _ rfl _ A1.out _ Tryz.underlying25 rfl Z1.out ?_)
                      | (refine wpList_load_val rfl 25 _ rfl (g + 1) _ rfl _ A2.out _ Tryz.underlying25 rfl Z2.out ?_)
                      | (refine wpList_load_val rfl 25 _ rfl (g + 1 + 1) _ rfl _ A3.out _ Tryz.underlying25 rfl Z3.out ?_))
                    refine (SAB.out W14 F.out).mono ?_
                    rintro e W15 ⟨rfl, f⟩
                    clear c10 c11 c12 c13 c14 c20 c21 c22 c23 c24 c30 c31 c32 c33 c34
                    have B1 := Lib.hid (keepB B1.out f)
                    have B2 := Lib.hid (keepB B2.out f)
                    have B3 := Lib.hid (keepB B3.out f)
                    have A1 := Lib.hid (blk_all B1.out)
                    have A2 := Lib.hid (blk_all B2.out)
                    have A3 := Lib.hid (blk_all B3.out)
                    have c10 : W15.cell? ⟨g, 0, none⟩ = some (.int .i64 k1) := B1.out.cell 0
                    have c11 : W15.cell? ⟨g, 1, none⟩ = some (.int .i64 n1) := B1.out.cell 1
                    have c12 : W15.cell? ⟨g, 2, none⟩ = some (.string (strOf t1)) := B1.out.cell 2
                    have c13 : W15.cell? ⟨g, 3, none⟩ = some (.slice Al1 l1.length cl1) := B1.out.cell 3
                    have c14 : W15.cell? ⟨g, 4, none⟩ = some (.slice Ak1 ks1.length ck1) := B1.out.cell 4
                    have c20 : W15.cell? ⟨(g + 1), 0, none⟩ = some (.int .i64 k2) := B2.out.cell 0
                    have c21 : W15.cell? ⟨(g + 1), 1, none⟩ = some (.int .i64 n2) := B2.out.cell 1
                    have c22 : W15.cell? ⟨(g + 1), 2, none⟩ = some (.string (strOf t2)) := B2.out.cell 2
                    have c23 : W15.cell? ⟨(g + 1), 3, none⟩ = some (.slice Al2 l2.length cl2) := B2.out.cell 3
                    have c24 : W15.cell? ⟨(g + 1), 4, none⟩ = some (.slice Ak2 ks2.length ck2) := B2.out.cell 4
                    have c30 : W15.cell? ⟨(g + 1 + 1), 0, none⟩ = some (.int .i64 k3) := B3.out.cell 0
                    have c31 : W15.cell? ⟨(g + 1 + 1), 1, none⟩ = some (.int .i64 n3) := B3.out.cell 1
                    have c32 : W15.cell? ⟨(g + 1 + 1), 2, none⟩ = some (.string (strOf t3)) := B3.out.cell 2
                    have c33 : W15.cell? ⟨(g + 1 + 1), 3, none⟩ = some (.slice Al3 l3.length cl3) := B3.out.cell 3
                    have c34 : W15.cell? ⟨(g + 1 + 1), 4, none⟩ = some (.slice Ak3 ks3.length ck3) := B3.out.cell 4
                    have F : Hid (Fr (fun _ => False) w W15) := Lib.hid (F.out.trans f (fun _ _ h => h))
                    clear f
                    go_wp2_with (first
                      | (refine wpList_load_val rfl 25 _ rfl g _ rfl _ A1.out _ Tryz.underlying25 rfl Z1.out ?_)
                      | (refine wpList_load_val rfl 25 _ rfl (g + 1) _ rfl _ A2.out _ Tryz.underlying25 rfl Z2.out ?_)
                      | (refine wpList_load_val rfl 25 _ rfl (g + 1 + 1) _ rfl _ A3.out _ Tryz.underlying25 rfl Z3.out ?_))
                    refine (awake_c W15 (HL.out.far F.out)).mono ?_
                    rintro e W16 ⟨rfl, f⟩
                    have F : Hid (Fr (fun _ => False) w W16) := Lib.hid (F.out.trans f (fun _ _ h => h))
                    clear f
                    go_wp2_with fail
                    go_ret
                    exact ⟨rfl, F.out⟩
                  · clear HT HBZ HBY HBX
                    go_wp2_with (first
                      | (refine wpList_load_val rfl 25 _ rfl g _ rfl _ A1.out _ Tryz.underlying25 rfl Z1.out ?_)
                      | (refine wpList_load_val rfl 25 _ rfl (g + 1) _ rfl _ A2.out _ Tryz.underlying25 rfl Z2.out ?_)
                      | (refine wpList_load_val rfl 25 _ rfl (g + 1 + 1) _ rfl _ A3.out _ Tryz.underlying25 rfl Z3.out ?_))
                    refine (CBA.out W13 F.out).mono ?_
                    rintro e W14 ⟨rfl, f⟩
                    clear c10 c11 c12 c13 c14 c20 c21 c22 c23 c24 c30 c31 c32 c33 c34
                    have B1 := Lib.hid (keepB B1.out f)
                    have B2 := Lib.hid (keepB B2.out f)
                    have B3 := Lib.hid (keepB B3.out f)
                    have A1 := Lib.hid (blk_all B1.out)
                    have A2 := Lib.hid (blk_all B2.out)
                    have A3 := Lib.hid (blk_all B3.out)
                    have c10 : W14.cell? ⟨g, 0, none⟩ = some (.int .i64 k1) := B1.out.cell 0
                    have c11 : W14.cell? ⟨g, 1, none⟩ = some (.int .i64 n1) := B1.out.cell 1
                    have c12 : W14.cell? ⟨g, 2, none⟩ = some (.string (strOf t1)) := B1.out.cell 2
                    have c13 : W14.cell? ⟨g, 3, none⟩ = some (.slice Al1 l1.length cl1) := B1.out.cell 3
                    have c14 : W14.cell? ⟨g, 4, none⟩ = some (.slice Ak1 ks1.length ck1) := B1.out.cell 4
                    have c20 : W14.cell? ⟨(g + 1), 0, none⟩ = some (.int .i64 k2) := B2.out.cell 0
                    have c21 : W14.cell? ⟨(g + 1), 1, none⟩ = some (.int .i64 n2) := B2.out.cell 1
                    have c22 : W14.cell? ⟨(g + 1), 2, none⟩ = some (.string (strOf t2)) := B2.out.cell 2
                    have c23 : W14.cell? ⟨(g + 1), 3, none⟩ = some (.slice Al2 l2.length cl2) := B2.out.cell 3
                    have c24 : W14.cell? ⟨(g + 1), 4, none⟩ = some (.slice Ak2 ks2.length ck2) := B2.out.cell 4
                    have c30 : W14.cell? ⟨(g + 1 + 1), 0, none⟩ = some (.int .i64 k3) := B3.out.cell 0
                    have c31 : W14.cell? ⟨(g + 1 + 1), 1, none⟩ = some (.int .i64 n3) := B3.out.cell 1
                    have c32 : W14.cell? ⟨(g + 1 + 1), 2, none⟩ = some (.string (strOf t3)) := B3.out.cell 2
                    have c33 : W14.cell? ⟨(g + 1 + 1), 3, none⟩ = some (.slice Al3 l3.length cl3) := B3.out.cell 3
                    have c34 : W14.cell? ⟨(g + 1 + 1), 4, none⟩ = some (.slice Ak3 ks3.length ck3) := B3.out.cell 4
                    have F : Hid (Fr (fun _ => False) w W14) := Lib.hid (F.out.trans f (fun _ _ h => h))
                    clear f
                    go_wp2_with (first
                      | (refine wpList_load_val rfl 25 _ rfl g _ rfl _ A1.out _ Tryz.underlying25 rfl Z1.out ?_)
                      | (refine wpList_load_val rfl 25 _ rfl (g + 1) _ rfl _ A2.out _ Tryz.underlying25 rfl Z2.out ?_)
                      | (refine wpList_load_val rfl 25 _ rfl (g + 1 + 1) _ rfl _ A3.out _ Tryz.underlying25 rfl Z3.out ?_))
                    refine (SAB.out W14 F.out).mono ?_
                    rintro e W15 ⟨rfl, f⟩
                    clear c10 c11 c12 c13 c14 c20 c21 c22 c23 c24 c30 c31 c32 c33 c34
                    have B1 := Lib.hid (keepB B1.out f)
                    have B2 := Lib.hid (keepB B2.out f)
                    have B3 := Lib.hid (keepB B3.out f)
                    have A1 := Lib.hid (blk_all B1.out)
                    have A2 := Lib.hid (blk_all B2.out)
                    have A3 := Lib.hid (blk_all B3.out)
                    have c10 : W15.cell? ⟨g, 0, none⟩ = some (.int .i64 k1) := B1.out.cell 0
                    have c11 : W15.cell? ⟨g, 1, none⟩ = some (.int .i64 n1) := B1.out.cell 1
                    have c12 : W15.cell? ⟨g, 2, none⟩ = some (.string (strOf t1)) := B1.out.cell 2
                    have c13 : W15.cell? ⟨g, 3, none⟩ = some (.slice Al1 l1.length cl1) := B1.out.cell 3
                    have c14 : W15.cell? ⟨g, 4, none⟩ = some (.slice Ak1 ks1.length ck1) := B1.out.cell 4
                    have c20 : W15.cell? ⟨(g + 1), 0, none⟩ = some (.int .i64 k2) := B2.out.cell 0
                    have c21 : W15.cell? ⟨(g + 1), 1, none⟩ = some (.int .i64 n2) := B2.out.cell 1
                    have c22 : W15.cell? ⟨(g + 1), 2, none⟩ = some (.string (strOf t2)) := B2.out.cell 2
                    have c23 : W15.cell? ⟨(g + 1), 3, none⟩ = some (.slice Al2 l2.length cl2) := B2.out.cell 3
                    have c24 : W15.cell? ⟨(g + 1), 4, none⟩ = some (.slice Ak2 ks2.length ck2) := B2.out.cell 4
                    have c30 : W15.cell? ⟨(g + 1 + 1), 0, none⟩ = some (.int .i64 k3) := B3.out.cell 0
                    have c31 : W15.cell? ⟨(g + 1 + 1), 1, none⟩ = some (.int .i64 n3) := B3.out.cell 1
                    have c32 : W15.cell? ⟨(g + 1 + 1), 2, none⟩ = some (.string (strOf t3)) := B3.out.cell 2
                    have c33 : W15.cell? ⟨(g + 1 + 1), 3, none⟩ = some (.slice Al3 l3.length cl3) := B3.out.cell 3
                    have c34 : W15.cell? ⟨(g + 1 + 1), 4, none⟩ = some (.slice Ak3 ks3.length ck3) := B3.out.cell 4
                    have F : Hid (Fr (fun _ => False) w W15) := Lib.hid (F.out.trans f (fun _ _ h => h))
                    clear f
                    go_wp2_with (first
                      | (refine wpList_load_val rfl 25 _ rfl g _ rfl _ A1.out _ Tryz.underlying25 rfl Z1.out ?_)
                      | (refine wpList_load_val rfl 25 _ rfl (g + 1) _ rfl _ A2.out _ Tryz.underlying25 rfl Z2.out ?_)
                      | (refine wpList_load_val rfl 25 _ rfl (g + 1 + 1) _ rfl _ A3.out _ Tryz.underlying25 rfl Z3.out ?_))
                    refine (awake_c W15 (HL.out.far F.out)).mono ?_
                    rintro e W16 ⟨rfl, f⟩
                    have F : Hid (Fr (fun _ => False) w W16) := Lib.hid (F.out.trans f (fun _ _ h => h))
                    clear f
                    go_wp2_with fail
                    go_ret
                    exact ⟨rfl, F.out⟩
                  · clear HT HBZ HBY HBX
                    go_wp2_with (first
                      | (refine wpList_load_val rfl 25 _ rfl g _ rfl _ A1.out _ Tryz.underlying25 rfl Z1.out ?_)
                      | (refine wpList_load_val rfl 25 _ rfl (g + 1) _ rfl _ A2.out _ Tryz.underlying25 rfl Z2.out ?_)
                      | (refine wpList_load_val rfl 25 _ rfl (g + 1 + 1) _ rfl _ A3.out _ Tryz.underlying25 rfl Z3.out ?_))
                    refine (CBA.out W13 F.out).mono ?_
                    rintro e W14 ⟨rfl, f⟩
                    clear c10 c11 c12 c13 c14 c20 c21 c22 c23 c24 c30 c31 c32 c33 c34
                    have B1 := Lib.hid (keepB B1.out f)
                    have B2 := Lib.hid (keepB B2.out f)
                    have B3 := Lib.hid (keepB B3.out f)
                    have A1 := Lib.hid (blk_all B1.out)
                    have A2 := Lib.hid (blk_all B2.out)
                    have A3 := Lib.hid (blk_all B3.out)
                    have c10 : W14.cell? ⟨g, 0, none⟩ = some (.int .i64 k1) := B1.out.cell 0
                    have c11 : W14.cell? ⟨g, 1, none⟩ = some (.int .i64 n1) := B1.out.cell 1
                    have c12 : W14.cell? ⟨g, 2, none⟩ = some (.string (strOf t1)) := B1.out.cell 2
                    have c13 : W14.cell? ⟨g, 3, none⟩ = some (.slice Al1 l1.length cl1) := B1.out.cell 3
                    have c14 : W14.cell? ⟨g, 4, none⟩ = some (.slice Ak1 ks1.length ck1) := B1.out.cell 4
                    have c20 : W14.cell? ⟨(g + 1), 0, none⟩ = some (.int .i64 k2) := B2.out.cell 0
                    have c21 : W14.cell? ⟨(g + 1), 1, none⟩ = some (.int .i64 n2) := B2.out.cell 1
                    have c22 : W14.cell? ⟨(g + 1), 2, none⟩ = some (.string (strOf t2)) := B2.out.cell 2
                    have c23 : W14.cell? ⟨(g + 1), 3, none⟩ = some (.slice Al2 l2.length cl2) := B2.out.cell 3
                    have c24 : W14.cell? ⟨(g + 1), 4, none⟩ = some (.slice Ak2 ks2.length ck2) := B2.out.cell 4
                    have c30 : W14.cell? ⟨(g + 1 + 1), 0, none⟩ = some (.int .i64 k3) := B3.out.cell 0
                    have c31 : W14.cell? ⟨(g + 1 + 1), 1, none⟩ = some (.int .i64 n3) := B3.out.cell 1
                    have c32 : W14.cell? ⟨(g + 1 + 1), 2, none⟩ = some (.string (strOf t3)) := B3.out.cell 2
                    have c33 : W14.cell? ⟨(g + 1 + 1), 3, none⟩ = some (.slice Al3 l3.length cl3) := B3.out.cell 3
                    have c34 : W14.cell? ⟨(g + 1 + 1), 4, none⟩ = some (.slice Ak3 ks3.length ck3) := B3.out.cell 4
                    have F : Hid (Fr (fun _ => False) w W14) := Lib.hid (F.out.trans f (fun _ _ h => h))
                    clear f
                    go_wp2_with (first
                      | (refine wpList_load_val rfl 25 _ rfl g _ rfl _ A1.out _ Tryz.underlying25 rfl Z1.out ?_)
                      | (refine wpList_load_val rfl 25 _ rfl (g + 1) _ rfl _ A2.out _ Tryz.underlying25 rfl Z2.out ?_)
                      | (refine wpList_load_val rfl 25 _ rfl (g + 1 + 1) _ rfl _ A3.out _ Tryz.underlying25 rfl Z3.out ?_))
                    refine (SAB.out W14 F.out).mono ?_
                    rintro e W15 ⟨rfl, f⟩
                    clear c10 c11 c12 c13 c14 c20 c21 c22 c23 c24 c30 c31 c32 c33 c34
                    have B1 := Lib.hid (keepB B1.out f)
                    have B2 := Lib.hid (keepB B2.out f)
                    have B3 := Lib.hid (keepB B3.out f)
                    have A1 := Lib.hid (blk_all B1.out)
                    have A2 := Lib.hid (blk_all B2.out)
                    have A3 := Lib.hid (blk_all B3.out)
                    have c10 : W15.cell? ⟨g, 0, none⟩ = some (.int .i64 k1) := B1.out.cell 0
                    have c11 : W15.cell? ⟨g, 1, none⟩ = some (.int .i64 n1) := B1.out.cell 1
                    have c12 : W15.cell? ⟨g, 2, none⟩ = some (.string (strOf t1)) := B1.out.cell 2
                    have c13 : W15.cell? ⟨g, 3, none⟩ = some (.slice Al1 l1.length cl1) := B1.out.cell 3
                    have c14 : W15.cell? ⟨g, 4, none⟩ = some (.slice Ak1 ks1.length ck1) := B1.out.cell 4
                    have c20 : W15.cell? ⟨(g + 1), 0, none⟩ = some (.int .i64 k2) := B2.out.cell 0
                    have c21 : W15.cell? ⟨(g + 1), 1, none⟩ = some (.int .i64 n2) := B2.out.cell 1
                    have c22 : W15.cell? ⟨(g + 1), 2, none⟩ = some (.string (strOf t2)) := B2.out.cell 2
                    have c23 : W15.cell? ⟨(g + 1), 3, none⟩ = some (.slice Al2 l2.length cl2) := B2.out.cell 3
                    have c24 : W15.cell? ⟨(g + 1), 4, none⟩ = some (.slice Ak2 ks2.length ck2) := B2.out.cell 4
                    have c30 : W15.cell? ⟨(g + 1 + 1), 0, none⟩ = some (.int .i64 k3) := B3.out.cell 0
                    have c31 : W15.cell? ⟨(g + 1 + 1), 1, none⟩ = some (.int .i64 n3) := B3.out.cell 1
                    have c32 : W15.cell? ⟨(g + 1 + 1), 2, none⟩ = some (.string (strOf t3)) := B3.out.cell 2
                    have c33 : W15.cell? ⟨(g + 1 + 1), 3, none⟩ = some (.slice Al3 l3.length cl3) := B3.out.cell 3
                    have c34 : W15.cell? ⟨(g + 1 + 1), 4, none⟩ = some (.slice Ak3 ks3.length ck3) := B3.out.cell 4
                    have F : Hid (Fr (fun _ => False) w W15) := Lib.hid (F.out.trans f (fun _ _ h => h))
                    clear f
                    go_wp2_with (first
                      | (refine wpList_load_val rfl 25 _ rfl g _ rfl _ A1.out _ Tryz.underlying25 rfl Z1.out ?_)
                      | (refine wpList_load_val rfl 25 _ rfl (g + 1) _ rfl _ A2.out _ Tryz.underlying25 rfl Z2.out ?_)
                      | (refine wpList_load_val rfl 25 _ rfl (g + 1 + 1) _ rfl _ A3.out _ Tryz.underlying25 rfl Z3.out ?_))
                    refine (awake_c W15 (HL.out.far F.out)).mono ?_
                    rintro e W16 ⟨rfl, f⟩
                    have F : Hid (Fr (fun _ => False) w W16) := Lib.hid (F.out.trans f (fun _ _ h => h))
                    clear f
                    go_wp2_with fail
                    go_ret
                    exact ⟨rfl, F.out⟩

end Go.Proofs.YtnkfkicabgajmaaGreatDoor
