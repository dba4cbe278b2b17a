/-
  THE LAW ValueBack, WALKED. Written by gen_vb.py.
-/
import Derived.Test.YtnkfkicabgajmaaDoorBk
import Derived.Test.YtnkfkicabgajmaaDoorRs
namespace Go.Proofs.YtnkfkicabgajmaaDoor
set_option linter.unusedSimpArgs false
set_option linter.unusedVariables false
open Go Go.RowKit

theorem parse_is {s : List UInt8} {w w' : World} {e : Ending} (h : ParseQ s w e w') : (∃ C v, parseV s = some v ∧ e = .returned (.tuple #[.agg C, .int .i64 0]) ∧ OwnV w' (fun q => w.heap.size ≤ q ∧ q < w'.heap.size) C v ∧ Sm v ∧ Fr (fun _ => False) w w') ∨ (∃ C, e = .returned (.tuple #[.agg C, .int .i64 2]) ∧ OwnV w' (fun q => w.heap.size ≤ q ∧ q < w'.heap.size) C V.zero ∧ Fr (fun _ => False) w w') := by
  obtain ⟨C, v', n, rfl, o, sm, f, ⟨h1, rfl⟩ | ⟨h1, rfl, rfl⟩⟩ := h
  · exact .inl ⟨C, v', h1, rfl, o, sm, f⟩
  · exact .inr ⟨C, rfl, o, f⟩
set_option maxRecDepth 100000 in
set_option maxHeartbeats 16000000 in
theorem valueBack_c (w : World) (s : List UInt8) {D1 D2 : Nat → Prop} {C1 C2 : Array Value} {a b : V} (r1 : RdV D1 w C1 a) (r2 : RdV D2 w C2 b) (hL : LaidOk w) (hs63 : s.length ≤ 140737488355328) :
    Calls Tryd.prog 3 #[.agg C1, .agg C2, .string (strOf s)] w fun e w' => e = .returned (.bool true) ∧ Fr (fun _ => False) w w' := by
  have R1 := Lib.hid r1
  have R2 := Lib.hid r2
  have N1 := Lib.hid r1.nums
  have N2 := Lib.hid r2.nums
  obtain ⟨k1, n1, t1, l1, ks1, Al1, cl1, Ak1, ck1, css1, ea1, rfl, -⟩ := r1.inv
  obtain ⟨k2, n2, t2, l2, ks2, Al2, cl2, Ak2, ck2, css2, ea2, rfl, -⟩ := r2.inv
  clear ea1 ea2
  have Z1 := Lib.hid (szV r1)
  have Z2 := Lib.hid (szV r2)
  have HL := Lib.hid hL
  obtain ⟨g, hg⟩ : ∃ g, w.heap.size = g := ⟨_, rfl⟩
  have HG := Lib.hid hg
  have hsz := strOf_size s
  clear hL r1 r2 hg
  go_enter Tryd.func3, Tryd.ntmps3
  go_upto_region 1 with fail
  refine abs_world (fun W => Hid (Blk W w.heap.size 25 (vcs k1 n1 t1 Al1 l1.length cl1 Ak1 ks1.length ck1)) ∧ Hid (Blk W (w.heap.size + 1) 25 (vcs k2 n2 t2 Al2 l2.length cl2 Ak2 ks2.length ck2)) ∧ Hid (Fr (fun _ => False) w W)) ⟨(Blk.new w _ _).alloc _, Blk.new1 w _ _ _, ((Fr.refl _ w).alloc _).alloc _⟩ ?_
  rintro W0 ⟨B1, B2, F⟩
  rw [HG.out] at B1 B2 ⊢
  have A1 := Lib.hid (blk_all B1.out)
  have A2 := Lib.hid (blk_all B2.out)
  have c10 : W0.cell? ⟨g, 0, none⟩ = some (.int .i64 k1) := B1.out.cell 0
  have c11 : W0.cell? ⟨g, 1, none⟩ = some (.int .i64 n1) := B1.out.cell 1
  have c12 : W0.cell? ⟨g, 2, none⟩ = some (.string (strOf t1)) := B1.out.cell 2
  have c13 : W0.cell? ⟨g, 3, none⟩ = some (.slice Al1 l1.length cl1) := B1.out.cell 3
  have c14 : W0.cell? ⟨g, 4, none⟩ = some (.slice Ak1 ks1.length ck1) := B1.out.cell 4
  have c20 : W0.cell? ⟨(g + 1), 0, none⟩ = some (.int .i64 k2) := B2.out.cell 0
  have c21 : W0.cell? ⟨(g + 1), 1, none⟩ = some (.int .i64 n2) := B2.out.cell 1
  have c22 : W0.cell? ⟨(g + 1), 2, none⟩ = some (.string (strOf t2)) := B2.out.cell 2
  have c23 : W0.cell? ⟨(g + 1), 3, none⟩ = some (.slice Al2 l2.length cl2) := B2.out.cell 3
  have c24 : W0.cell? ⟨(g + 1), 4, none⟩ = some (.slice Ak2 ks2.length ck2) := B2.out.cell 4
  have CL := Lib.hid (Long_c a W0 _ _ (R1.out.far F.out))
  cases hLa : decide (4000 < partsV a 20) with
  | true =>
    rw [hLa] at CL
    go_wp2_with (first
      | (refine wpList_load_val rfl 25 _ rfl g _ rfl _ A1.out _ Tryd.underlying25 rfl Z1.out ?_)
      | (refine wpList_load_val rfl 25 _ rfl (g + 1) _ rfl _ A2.out _ Tryd.underlying25 rfl Z2.out ?_))
    refine (CL.out).mono ?_
    rintro e W1 ⟨rfl, f⟩
    clear c10 c11 c12 c13 c14 c20 c21 c22 c23 c24
    have B1 := Lib.hid (keepB B1.out f)
    have B2 := Lib.hid (keepB B2.out f)
    have A1 := Lib.hid (blk_all B1.out)
    have A2 := Lib.hid (blk_all B2.out)
    have c10 : W1.cell? ⟨g, 0, none⟩ = some (.int .i64 k1) := B1.out.cell 0
    have c11 : W1.cell? ⟨g, 1, none⟩ = some (.int .i64 n1) := B1.out.cell 1
    have c12 : W1.cell? ⟨g, 2, none⟩ = some (.string (strOf t1)) := B1.out.cell 2
    have c13 : W1.cell? ⟨g, 3, none⟩ = some (.slice Al1 l1.length cl1) := B1.out.cell 3
    have c14 : W1.cell? ⟨g, 4, none⟩ = some (.slice Ak1 ks1.length ck1) := B1.out.cell 4
    have c20 : W1.cell? ⟨(g + 1), 0, none⟩ = some (.int .i64 k2) := B2.out.cell 0
    have c21 : W1.cell? ⟨(g + 1), 1, none⟩ = some (.int .i64 n2) := B2.out.cell 1
    have c22 : W1.cell? ⟨(g + 1), 2, none⟩ = some (.string (strOf t2)) := B2.out.cell 2
    have c23 : W1.cell? ⟨(g + 1), 3, none⟩ = some (.slice Al2 l2.length cl2) := B2.out.cell 3
    have c24 : W1.cell? ⟨(g + 1), 4, none⟩ = some (.slice Ak2 ks2.length ck2) := B2.out.cell 4
    have F : Hid (Fr (fun _ => False) w W1) := Lib.hid (F.out.trans f (fun _ _ h => h))
    clear f
    clear CL
    go_wp2_with (first
      | (refine wpList_load_val rfl 25 _ rfl g _ rfl _ A1.out _ Tryd.underlying25 rfl Z1.out ?_)
      | (refine wpList_load_val rfl 25 _ rfl (g + 1) _ rfl _ A2.out _ Tryd.underlying25 rfl Z2.out ?_))
    refine (awake_c W1 (HL.out.far F.out)).mono ?_
    rintro e W2 ⟨rfl, f⟩
    have F : Hid (Fr (fun _ => False) w W2) := Lib.hid (F.out.trans f (fun _ _ h => h))
    clear f
    go_wp2_with fail
    go_ret
    exact ⟨rfl, F.out⟩
  | false =>
    rw [hLa] at CL
    go_wp2_with (first
      | (refine wpList_load_val rfl 25 _ rfl g _ rfl _ A1.out _ Tryd.underlying25 rfl Z1.out ?_)
      | (refine wpList_load_val rfl 25 _ rfl (g + 1) _ rfl _ A2.out _ Tryd.underlying25 rfl Z2.out ?_))
    refine (CL.out).mono ?_
    rintro e W3 ⟨rfl, f⟩
    clear c10 c11 c12 c13 c14 c20 c21 c22 c23 c24
    have B1 := Lib.hid (keepB B1.out f)
    have B2 := Lib.hid (keepB B2.out f)
    have A1 := Lib.hid (blk_all B1.out)
    have A2 := Lib.hid (blk_all B2.out)
    have c10 : W3.cell? ⟨g, 0, none⟩ = some (.int .i64 k1) := B1.out.cell 0
    have c11 : W3.cell? ⟨g, 1, none⟩ = some (.int .i64 n1) := B1.out.cell 1
    have c12 : W3.cell? ⟨g, 2, none⟩ = some (.string (strOf t1)) := B1.out.cell 2
    have c13 : W3.cell? ⟨g, 3, none⟩ = some (.slice Al1 l1.length cl1) := B1.out.cell 3
    have c14 : W3.cell? ⟨g, 4, none⟩ = some (.slice Ak1 ks1.length ck1) := B1.out.cell 4
    have c20 : W3.cell? ⟨(g + 1), 0, none⟩ = some (.int .i64 k2) := B2.out.cell 0
    have c21 : W3.cell? ⟨(g + 1), 1, none⟩ = some (.int .i64 n2) := B2.out.cell 1
    have c22 : W3.cell? ⟨(g + 1), 2, none⟩ = some (.string (strOf t2)) := B2.out.cell 2
    have c23 : W3.cell? ⟨(g + 1), 3, none⟩ = some (.slice Al2 l2.length cl2) := B2.out.cell 3
    have c24 : W3.cell? ⟨(g + 1), 4, none⟩ = some (.slice Ak2 ks2.length ck2) := B2.out.cell 4
    have F : Hid (Fr (fun _ => False) w W3) := Lib.hid (F.out.trans f (fun _ _ h => h))
    clear f
    clear CL
    have CL := Lib.hid (Long_c b W3 _ _ (R2.out.far F.out))
    cases hLb : decide (4000 < partsV b 20) with
    | true =>
      rw [hLb] at CL
      go_wp2_with (first
        | (refine wpList_load_val rfl 25 _ rfl g _ rfl _ A1.out _ Tryd.underlying25 rfl Z1.out ?_)
        | (refine wpList_load_val rfl 25 _ rfl (g + 1) _ rfl _ A2.out _ Tryd.underlying25 rfl Z2.out ?_))
      refine (CL.out).mono ?_
      rintro e W4 ⟨rfl, f⟩
      clear c10 c11 c12 c13 c14 c20 c21 c22 c23 c24
      have B1 := Lib.hid (keepB B1.out f)
      have B2 := Lib.hid (keepB B2.out f)
      have A1 := Lib.hid (blk_all B1.out)
      have A2 := Lib.hid (blk_all B2.out)
      have c10 : W4.cell? ⟨g, 0, none⟩ = some (.int .i64 k1) := B1.out.cell 0
      have c11 : W4.cell? ⟨g, 1, none⟩ = some (.int .i64 n1) := B1.out.cell 1
      have c12 : W4.cell? ⟨g, 2, none⟩ = some (.string (strOf t1)) := B1.out.cell 2
      have c13 : W4.cell? ⟨g, 3, none⟩ = some (.slice Al1 l1.length cl1) := B1.out.cell 3
      have c14 : W4.cell? ⟨g, 4, none⟩ = some (.slice Ak1 ks1.length ck1) := B1.out.cell 4
      have c20 : W4.cell? ⟨(g + 1), 0, none⟩ = some (.int .i64 k2) := B2.out.cell 0
      have c21 : W4.cell? ⟨(g + 1), 1, none⟩ = some (.int .i64 n2) := B2.out.cell 1
      have c22 : W4.cell? ⟨(g + 1), 2, none⟩ = some (.string (strOf t2)) := B2.out.cell 2
      have c23 : W4.cell? ⟨(g + 1), 3, none⟩ = some (.slice Al2 l2.length cl2) := B2.out.cell 3
      have c24 : W4.cell? ⟨(g + 1), 4, none⟩ = some (.slice Ak2 ks2.length ck2) := B2.out.cell 4
      have F : Hid (Fr (fun _ => False) w W4) := Lib.hid (F.out.trans f (fun _ _ h => h))
      clear f
      clear CL
      go_wp2_with (first
        | (refine wpList_load_val rfl 25 _ rfl g _ rfl _ A1.out _ Tryd.underlying25 rfl Z1.out ?_)
        | (refine wpList_load_val rfl 25 _ rfl (g + 1) _ rfl _ A2.out _ Tryd.underlying25 rfl Z2.out ?_))
      refine (awake_c W4 (HL.out.far F.out)).mono ?_
      rintro e W5 ⟨rfl, f⟩
      have F : Hid (Fr (fun _ => False) w W5) := Lib.hid (F.out.trans f (fun _ _ h => h))
      clear f
      go_wp2_with fail
      go_ret
      exact ⟨rfl, F.out⟩
    | false =>
      rw [hLb] at CL
      go_wp2_with (first
        | (refine wpList_load_val rfl 25 _ rfl g _ rfl _ A1.out _ Tryd.underlying25 rfl Z1.out ?_)
        | (refine wpList_load_val rfl 25 _ rfl (g + 1) _ rfl _ A2.out _ Tryd.underlying25 rfl Z2.out ?_))
      refine (CL.out).mono ?_
      rintro e W6 ⟨rfl, f⟩
      clear c10 c11 c12 c13 c14 c20 c21 c22 c23 c24
      have B1 := Lib.hid (keepB B1.out f)
      have B2 := Lib.hid (keepB B2.out f)
      have A1 := Lib.hid (blk_all B1.out)
      have A2 := Lib.hid (blk_all B2.out)
      have c10 : W6.cell? ⟨g, 0, none⟩ = some (.int .i64 k1) := B1.out.cell 0
      have c11 : W6.cell? ⟨g, 1, none⟩ = some (.int .i64 n1) := B1.out.cell 1
      have c12 : W6.cell? ⟨g, 2, none⟩ = some (.string (strOf t1)) := B1.out.cell 2
      have c13 : W6.cell? ⟨g, 3, none⟩ = some (.slice Al1 l1.length cl1) := B1.out.cell 3
      have c14 : W6.cell? ⟨g, 4, none⟩ = some (.slice Ak1 ks1.length ck1) := B1.out.cell 4
      have c20 : W6.cell? ⟨(g + 1), 0, none⟩ = some (.int .i64 k2) := B2.out.cell 0
      have c21 : W6.cell? ⟨(g + 1), 1, none⟩ = some (.int .i64 n2) := B2.out.cell 1
      have c22 : W6.cell? ⟨(g + 1), 2, none⟩ = some (.string (strOf t2)) := B2.out.cell 2
      have c23 : W6.cell? ⟨(g + 1), 3, none⟩ = some (.slice Al2 l2.length cl2) := B2.out.cell 3
      have c24 : W6.cell? ⟨(g + 1), 4, none⟩ = some (.slice Ak2 ks2.length ck2) := B2.out.cell 4
      have F : Hid (Fr (fun _ => False) w W6) := Lib.hid (F.out.trans f (fun _ _ h => h))
      clear f
      clear CL
      by_cases hls : 3000 < s.length
      case pos =>
        have d1 : decide (3000 < (s.length : Int)) = true := decide_eq_true (by omega)
        have d1' : decide (3000 < s.length) = true := decide_eq_true hls
        go_wp2_with (first
          | (refine wpList_load_val rfl 25 _ rfl g _ rfl _ A1.out _ Tryd.underlying25 rfl Z1.out ?_)
          | (refine wpList_load_val rfl 25 _ rfl (g + 1) _ rfl _ A2.out _ Tryd.underlying25 rfl Z2.out ?_))
        refine (awake_c W6 (HL.out.far F.out)).mono ?_
        rintro e W7 ⟨rfl, f⟩
        have F : Hid (Fr (fun _ => False) w W7) := Lib.hid (F.out.trans f (fun _ _ h => h))
        clear f
        go_wp2_with fail
        go_ret
        exact ⟨rfl, F.out⟩
      have d1 : decide (3000 < (s.length : Int)) = false := decide_eq_false (by omega)
      have d1' : decide (3000 < s.length) = false := decide_eq_false hls
      have S1 := Lib.hid (sm_of_not_long hLa)
      have S2 := Lib.hid (sm_of_not_long hLb)
      have PA := Lib.hid (print_c a W6 _ _ (R1.out.far F.out) S1.out (HL.out.far F.out))
      clear hLa hLb
      cases hma : mayV a with
      | false =>
        rw [hma] at PA
        simp only [Bool.false_eq_true, if_false] at PA
        go_wp2_with (first
          | (refine wpList_load_val rfl 25 _ rfl g _ rfl _ A1.out _ Tryd.underlying25 rfl Z1.out ?_)
          | (refine wpList_load_val rfl 25 _ rfl (g + 1) _ rfl _ A2.out _ Tryd.underlying25 rfl Z2.out ?_))
        refine (PA.out).mono ?_
        rintro e W8 ⟨rfl, f⟩
        clear c10 c11 c12 c13 c14 c20 c21 c22 c23 c24
        have B1 := Lib.hid (keepB B1.out f)
        have B2 := Lib.hid (keepB B2.out f)
        have A1 := Lib.hid (blk_all B1.out)
        have A2 := Lib.hid (blk_all B2.out)
        have c10 : W8.cell? ⟨g, 0, none⟩ = some (.int .i64 k1) := B1.out.cell 0
        have c11 : W8.cell? ⟨g, 1, none⟩ = some (.int .i64 n1) := B1.out.cell 1
        have c12 : W8.cell? ⟨g, 2, none⟩ = some (.string (strOf t1)) := B1.out.cell 2
        have c13 : W8.cell? ⟨g, 3, none⟩ = some (.slice Al1 l1.length cl1) := B1.out.cell 3
        have c14 : W8.cell? ⟨g, 4, none⟩ = some (.slice Ak1 ks1.length ck1) := B1.out.cell 4
        have c20 : W8.cell? ⟨(g + 1), 0, none⟩ = some (.int .i64 k2) := B2.out.cell 0
        have c21 : W8.cell? ⟨(g + 1), 1, none⟩ = some (.int .i64 n2) := B2.out.cell 1
        have c22 : W8.cell? ⟨(g + 1), 2, none⟩ = some (.string (strOf t2)) := B2.out.cell 2
        have c23 : W8.cell? ⟨(g + 1), 3, none⟩ = some (.slice Al2 l2.length cl2) := B2.out.cell 3
        have c24 : W8.cell? ⟨(g + 1), 4, none⟩ = some (.slice Ak2 ks2.length ck2) := B2.out.cell 4
        have F : Hid (Fr (fun _ => False) w W8) := Lib.hid (F.out.trans f (fun _ _ h => h))
        clear f
        have PB := Lib.hid (print_c b W8 _ _ (R2.out.far F.out) S2.out (HL.out.far F.out))
        generalize (if mayV b = true then strOf (prV b) else ⟨#[]⟩) = ps at PB
        generalize (if mayV b = true then (0 : Int) else 1) = pe at PB
        clear PA
        go_wp2_with (first
          | (refine wpList_load_val rfl 25 _ rfl g _ rfl _ A1.out _ Tryd.underlying25 rfl Z1.out ?_)
          | (refine wpList_load_val rfl 25 _ rfl (g + 1) _ rfl _ A2.out _ Tryd.underlying25 rfl Z2.out ?_))
        refine (PB.out).mono ?_
        rintro e W9 ⟨rfl, f⟩
        clear c10 c11 c12 c13 c14 c20 c21 c22 c23 c24
        have B1 := Lib.hid (keepB B1.out f)
        have B2 := Lib.hid (keepB B2.out f)
        have A1 := Lib.hid (blk_all B1.out)
        have A2 := Lib.hid (blk_all B2.out)
        have c10 : W9.cell? ⟨g, 0, none⟩ = some (.int .i64 k1) := B1.out.cell 0
        have c11 : W9.cell? ⟨g, 1, none⟩ = some (.int .i64 n1) := B1.out.cell 1
        have c12 : W9.cell? ⟨g, 2, none⟩ = some (.string (strOf t1)) := B1.out.cell 2
        have c13 : W9.cell? ⟨g, 3, none⟩ = some (.slice Al1 l1.length cl1) := B1.out.cell 3
        have c14 : W9.cell? ⟨g, 4, none⟩ = some (.slice Ak1 ks1.length ck1) := B1.out.cell 4
        have c20 : W9.cell? ⟨(g + 1), 0, none⟩ = some (.int .i64 k2) := B2.out.cell 0
        have c21 : W9.cell? ⟨(g + 1), 1, none⟩ = some (.int .i64 n2) := B2.out.cell 1
        have c22 : W9.cell? ⟨(g + 1), 2, none⟩ = some (.string (strOf t2)) := B2.out.cell 2
        have c23 : W9.cell? ⟨(g + 1), 3, none⟩ = some (.slice Al2 l2.length cl2) := B2.out.cell 3
        have c24 : W9.cell? ⟨(g + 1), 4, none⟩ = some (.slice Ak2 ks2.length ck2) := B2.out.cell 4
        have F : Hid (Fr (fun _ => False) w W9) := Lib.hid (F.out.trans f (fun _ _ h => h))
        clear f
        clear PB
        go_wp2_with (first
          | (refine wpList_load_val rfl 25 _ rfl g _ rfl _ A1.out _ Tryd.underlying25 rfl Z1.out ?_)
          | (refine wpList_load_val rfl 25 _ rfl (g + 1) _ rfl _ A2.out _ Tryd.underlying25 rfl Z2.out ?_))
        refine (parse_c W9 s (HL.out.far F.out) hs63).mono ?_
        intro e Wp hq
        rcases parse_is hq with ⟨C4, v, hpv, rfl, o, sm, f⟩ | ⟨C4, rfl, o, f⟩
        case inr =>
          obtain ⟨k4, n4, t4, l4, ks4, Al4, cl4, Ak4, ck4, css4, Fs4, e4, rfl, -⟩ := o.inv
          clear hq e4
          have Z4 := Lib.hid (szV o.rd)
          have HO4 := Lib.hid (oneV o.rd)
          have O4 := Lib.hid o.rd.lts
          clear c10 c11 c12 c13 c14 c20 c21 c22 c23 c24
          have B1 := Lib.hid (keepB B1.out f)
          have B2 := Lib.hid (keepB B2.out f)
          have A1 := Lib.hid (blk_all B1.out)
          have A2 := Lib.hid (blk_all B2.out)
          have c10 : Wp.cell? ⟨g, 0, none⟩ = some (.int .i64 k1) := B1.out.cell 0
          have c11 : Wp.cell? ⟨g, 1, none⟩ = some (.int .i64 n1) := B1.out.cell 1
          have c12 : Wp.cell? ⟨g, 2, none⟩ = some (.string (strOf t1)) := B1.out.cell 2
          have c13 : Wp.cell? ⟨g, 3, none⟩ = some (.slice Al1 l1.length cl1) := B1.out.cell 3
          have c14 : Wp.cell? ⟨g, 4, none⟩ = some (.slice Ak1 ks1.length ck1) := B1.out.cell 4
          have c20 : Wp.cell? ⟨(g + 1), 0, none⟩ = some (.int .i64 k2) := B2.out.cell 0
          have c21 : Wp.cell? ⟨(g + 1), 1, none⟩ = some (.int .i64 n2) := B2.out.cell 1
          have c22 : Wp.cell? ⟨(g + 1), 2, none⟩ = some (.string (strOf t2)) := B2.out.cell 2
          have c23 : Wp.cell? ⟨(g + 1), 3, none⟩ = some (.slice Al2 l2.length cl2) := B2.out.cell 3
          have c24 : Wp.cell? ⟨(g + 1), 4, none⟩ = some (.slice Ak2 ks2.length ck2) := B2.out.cell 4
          have F : Hid (Fr (fun _ => False) w Wp) := Lib.hid (F.out.trans f (fun _ _ h => h))
          clear f
          go_upto_region 10 with (
            refine wpList_store_blk rfl 25 _ _ rfl Wp.heap.size (vcs k4 n4 t4 Al4 l4.length cl4 Ak4 ks4.length ck4) rfl rfl (Blk.new Wp 25 _) rfl Z4.out HO4.out ?_
            intro W10 q4 f4
            have f := ((Fr.refl (fun _ => False) Wp).alloc (.cells (vcs 0 0 [] none 0 0 none 0 0) 25)).trans f4 (fun i hi h => by have : i = Wp.heap.size := h; omega)
            have B4 := Lib.hid q4
            clear q4 f4)
          obtain ⟨g4, hg4⟩ : ∃ g4, Wp.heap.size = g4 := ⟨_, rfl⟩
          have O4 := Lib.hid (O4.out.far f)
          rw [hg4] at B4 ⊢
          clear hg4 o
          clear c10 c11 c12 c13 c14 c20 c21 c22 c23 c24
          have B1 := Lib.hid (keepB B1.out f)
          have B2 := Lib.hid (keepB B2.out f)
          have A1 := Lib.hid (blk_all B1.out)
          have A2 := Lib.hid (blk_all B2.out)
          have c10 : W10.cell? ⟨g, 0, none⟩ = some (.int .i64 k1) := B1.out.cell 0
          have c11 : W10.cell? ⟨g, 1, none⟩ = some (.int .i64 n1) := B1.out.cell 1
          have c12 : W10.cell? ⟨g, 2, none⟩ = some (.string (strOf t1)) := B1.out.cell 2
          have c13 : W10.cell? ⟨g, 3, none⟩ = some (.slice Al1 l1.length cl1) := B1.out.cell 3
          have c14 : W10.cell? ⟨g, 4, none⟩ = some (.slice Ak1 ks1.length ck1) := B1.out.cell 4
          have c20 : W10.cell? ⟨(g + 1), 0, none⟩ = some (.int .i64 k2) := B2.out.cell 0
          have c21 : W10.cell? ⟨(g + 1), 1, none⟩ = some (.int .i64 n2) := B2.out.cell 1
          have c22 : W10.cell? ⟨(g + 1), 2, none⟩ = some (.string (strOf t2)) := B2.out.cell 2
          have c23 : W10.cell? ⟨(g + 1), 3, none⟩ = some (.slice Al2 l2.length cl2) := B2.out.cell 3
          have c24 : W10.cell? ⟨(g + 1), 4, none⟩ = some (.slice Ak2 ks2.length ck2) := B2.out.cell 4
          have F : Hid (Fr (fun _ => False) w W10) := Lib.hid (F.out.trans f (fun _ _ h => h))
          clear f
          go_wp2_with (first
            | (refine wpList_load_val rfl 25 _ rfl g _ rfl _ A1.out _ Tryd.underlying25 rfl Z1.out ?_)
            | (refine wpList_load_val rfl 25 _ rfl (g + 1) _ rfl _ A2.out _ Tryd.underlying25 rfl Z2.out ?_))
          refine (awake_c W10 (HL.out.far F.out)).mono ?_
          rintro e W11 ⟨rfl, f⟩
          have F : Hid (Fr (fun _ => False) w W11) := Lib.hid (F.out.trans f (fun _ _ h => h))
          clear f
          go_wp2_with fail
          go_ret
          exact ⟨rfl, F.out⟩
        case inl =>
          obtain ⟨k4, n4, t4, l4, ks4, Al4, cl4, Ak4, ck4, css4, Fs4, e4, rfl, -⟩ := o.inv
          clear hq e4
          have Z4 := Lib.hid (szV o.rd)
          have HO4 := Lib.hid (oneV o.rd)
          have O4 := Lib.hid o.rd.lts
          clear c10 c11 c12 c13 c14 c20 c21 c22 c23 c24
          have B1 := Lib.hid (keepB B1.out f)
          have B2 := Lib.hid (keepB B2.out f)
          have A1 := Lib.hid (blk_all B1.out)
          have A2 := Lib.hid (blk_all B2.out)
          have c10 : Wp.cell? ⟨g, 0, none⟩ = some (.int .i64 k1) := B1.out.cell 0
          have c11 : Wp.cell? ⟨g, 1, none⟩ = some (.int .i64 n1) := B1.out.cell 1
          have c12 : Wp.cell? ⟨g, 2, none⟩ = some (.string (strOf t1)) := B1.out.cell 2
          have c13 : Wp.cell? ⟨g, 3, none⟩ = some (.slice Al1 l1.length cl1) := B1.out.cell 3
          have c14 : Wp.cell? ⟨g, 4, none⟩ = some (.slice Ak1 ks1.length ck1) := B1.out.cell 4
          have c20 : Wp.cell? ⟨(g + 1), 0, none⟩ = some (.int .i64 k2) := B2.out.cell 0
          have c21 : Wp.cell? ⟨(g + 1), 1, none⟩ = some (.int .i64 n2) := B2.out.cell 1
          have c22 : Wp.cell? ⟨(g + 1), 2, none⟩ = some (.string (strOf t2)) := B2.out.cell 2
          have c23 : Wp.cell? ⟨(g + 1), 3, none⟩ = some (.slice Al2 l2.length cl2) := B2.out.cell 3
          have c24 : Wp.cell? ⟨(g + 1), 4, none⟩ = some (.slice Ak2 ks2.length ck2) := B2.out.cell 4
          have F : Hid (Fr (fun _ => False) w Wp) := Lib.hid (F.out.trans f (fun _ _ h => h))
          clear f
          go_upto_region 10 with (
            refine wpList_store_blk rfl 25 _ _ rfl Wp.heap.size (vcs k4 n4 t4 Al4 l4.length cl4 Ak4 ks4.length ck4) rfl rfl (Blk.new Wp 25 _) rfl Z4.out HO4.out ?_
            intro W12 q4 f4
            have f := ((Fr.refl (fun _ => False) Wp).alloc (.cells (vcs 0 0 [] none 0 0 none 0 0) 25)).trans f4 (fun i hi h => by have : i = Wp.heap.size := h; omega)
            have B4 := Lib.hid q4
            clear q4 f4)
          obtain ⟨g4, hg4⟩ : ∃ g4, Wp.heap.size = g4 := ⟨_, rfl⟩
          have O4 := Lib.hid (O4.out.far f)
          rw [hg4] at B4 ⊢
          clear hg4 o
          clear c10 c11 c12 c13 c14 c20 c21 c22 c23 c24
          have B1 := Lib.hid (keepB B1.out f)
          have B2 := Lib.hid (keepB B2.out f)
          have A1 := Lib.hid (blk_all B1.out)
          have A2 := Lib.hid (blk_all B2.out)
          have c10 : W12.cell? ⟨g, 0, none⟩ = some (.int .i64 k1) := B1.out.cell 0
          have c11 : W12.cell? ⟨g, 1, none⟩ = some (.int .i64 n1) := B1.out.cell 1
          have c12 : W12.cell? ⟨g, 2, none⟩ = some (.string (strOf t1)) := B1.out.cell 2
          have c13 : W12.cell? ⟨g, 3, none⟩ = some (.slice Al1 l1.length cl1) := B1.out.cell 3
          have c14 : W12.cell? ⟨g, 4, none⟩ = some (.slice Ak1 ks1.length ck1) := B1.out.cell 4
          have c20 : W12.cell? ⟨(g + 1), 0, none⟩ = some (.int .i64 k2) := B2.out.cell 0
          have c21 : W12.cell? ⟨(g + 1), 1, none⟩ = some (.int .i64 n2) := B2.out.cell 1
          have c22 : W12.cell? ⟨(g + 1), 2, none⟩ = some (.string (strOf t2)) := B2.out.cell 2
          have c23 : W12.cell? ⟨(g + 1), 3, none⟩ = some (.slice Al2 l2.length cl2) := B2.out.cell 3
          have c24 : W12.cell? ⟨(g + 1), 4, none⟩ = some (.slice Ak2 ks2.length ck2) := B2.out.cell 4
          have F : Hid (Fr (fun _ => False) w W12) := Lib.hid (F.out.trans f (fun _ _ h => h))
          clear f
          have A4 := Lib.hid (blk_all B4.out)
          have SV := Lib.hid sm
          obtain ⟨hmv, hpr⟩ := parse_may hpv
          clear sm hpv
          have PV := Lib.hid (print_c v W12 _ _ O4.out SV.out (HL.out.far F.out))
          rw [hmv, if_pos rfl, if_pos rfl, hpr] at PV
          have c40 : W12.cell? ⟨g4, 0, none⟩ = some (.int .i64 k4) := B4.out.cell 0
          have c41 : W12.cell? ⟨g4, 1, none⟩ = some (.int .i64 n4) := B4.out.cell 1
          have c42 : W12.cell? ⟨g4, 2, none⟩ = some (.string (strOf t4)) := B4.out.cell 2
          have c43 : W12.cell? ⟨g4, 3, none⟩ = some (.slice Al4 l4.length cl4) := B4.out.cell 3
          have c44 : W12.cell? ⟨g4, 4, none⟩ = some (.slice Ak4 ks4.length ck4) := B4.out.cell 4
          go_wp2_with (first
            | (refine wpList_load_val rfl 25 _ rfl g _ rfl _ A1.out _ Tryd.underlying25 rfl Z1.out ?_)
            | (refine wpList_load_val rfl 25 _ rfl (g + 1) _ rfl _ A2.out _ Tryd.underlying25 rfl Z2.out ?_)
            | (refine wpList_load_val rfl 25 _ rfl g4 _ rfl _ A4.out _ Tryd.underlying25 rfl Z4.out ?_))
          refine (PV.out).mono ?_
          rintro e W13 ⟨rfl, f⟩
          clear c10 c11 c12 c13 c14 c20 c21 c22 c23 c24 c40 c41 c42 c43 c44
          have B1 := Lib.hid (keepB B1.out f)
          have B2 := Lib.hid (keepB B2.out f)
          have B4 := Lib.hid (keepB B4.out f)
          have A1 := Lib.hid (blk_all B1.out)
          have A2 := Lib.hid (blk_all B2.out)
          have A4 := Lib.hid (blk_all B4.out)
          have c10 : W13.cell? ⟨g, 0, none⟩ = some (.int .i64 k1) := B1.out.cell 0
          have c11 : W13.cell? ⟨g, 1, none⟩ = some (.int .i64 n1) := B1.out.cell 1
          have c12 : W13.cell? ⟨g, 2, none⟩ = some (.string (strOf t1)) := B1.out.cell 2
          have c13 : W13.cell? ⟨g, 3, none⟩ = some (.slice Al1 l1.length cl1) := B1.out.cell 3
          have c14 : W13.cell? ⟨g, 4, none⟩ = some (.slice Ak1 ks1.length ck1) := B1.out.cell 4
          have c20 : W13.cell? ⟨(g + 1), 0, none⟩ = some (.int .i64 k2) := B2.out.cell 0
          have c21 : W13.cell? ⟨(g + 1), 1, none⟩ = some (.int .i64 n2) := B2.out.cell 1
          have c22 : W13.cell? ⟨(g + 1), 2, none⟩ = some (.string (strOf t2)) := B2.out.cell 2
          have c23 : W13.cell? ⟨(g + 1), 3, none⟩ = some (.slice Al2 l2.length cl2) := B2.out.cell 3
          have c24 : W13.cell? ⟨(g + 1), 4, none⟩ = some (.slice Ak2 ks2.length ck2) := B2.out.cell 4
          have c40 : W13.cell? ⟨g4, 0, none⟩ = some (.int .i64 k4) := B4.out.cell 0
          have c41 : W13.cell? ⟨g4, 1, none⟩ = some (.int .i64 n4) := B4.out.cell 1
          have c42 : W13.cell? ⟨g4, 2, none⟩ = some (.string (strOf t4)) := B4.out.cell 2
          have c43 : W13.cell? ⟨g4, 3, none⟩ = some (.slice Al4 l4.length cl4) := B4.out.cell 3
          have c44 : W13.cell? ⟨g4, 4, none⟩ = some (.slice Ak4 ks4.length ck4) := B4.out.cell 4
          have O4 := Lib.hid (O4.out.far f)
          have F : Hid (Fr (fun _ => False) w W13) := Lib.hid (F.out.trans f (fun _ _ h => h))
          clear f
          have hst : ((strOf s).toList == (strOf s).toList) = true := by simp
          have MV := Lib.hid (may_c v W13 _ _ O4.out SV.out (HL.out.far F.out))
          rw [hmv] at MV
          clear PV hpr hmv
          go_wp2_with (first
            | (refine wpList_load_val rfl 25 _ rfl g _ rfl _ A1.out _ Tryd.underlying25 rfl Z1.out ?_)
            | (refine wpList_load_val rfl 25 _ rfl (g + 1) _ rfl _ A2.out _ Tryd.underlying25 rfl Z2.out ?_)
            | (refine wpList_load_val rfl 25 _ rfl g4 _ rfl _ A4.out _ Tryd.underlying25 rfl Z4.out ?_))
          refine (MV.out).mono ?_
          rintro e W14 ⟨rfl, f⟩
          clear c10 c11 c12 c13 c14 c20 c21 c22 c23 c24 c40 c41 c42 c43 c44
          have B1 := Lib.hid (keepB B1.out f)
          have B2 := Lib.hid (keepB B2.out f)
          have B4 := Lib.hid (keepB B4.out f)
          have A1 := Lib.hid (blk_all B1.out)
          have A2 := Lib.hid (blk_all B2.out)
          have A4 := Lib.hid (blk_all B4.out)
          have c10 : W14.cell? ⟨g, 0, none⟩ = some (.int .i64 k1) := B1.out.cell 0
          have c11 : W14.cell? ⟨g, 1, none⟩ = some (.int .i64 n1) := B1.out.cell 1
          have c12 : W14.cell? ⟨g, 2, none⟩ = some (.string (strOf t1)) := B1.out.cell 2
          have c13 : W14.cell? ⟨g, 3, none⟩ = some (.slice Al1 l1.length cl1) := B1.out.cell 3
          have c14 : W14.cell? ⟨g, 4, none⟩ = some (.slice Ak1 ks1.length ck1) := B1.out.cell 4
          have c20 : W14.cell? ⟨(g + 1), 0, none⟩ = some (.int .i64 k2) := B2.out.cell 0
          have c21 : W14.cell? ⟨(g + 1), 1, none⟩ = some (.int .i64 n2) := B2.out.cell 1
          have c22 : W14.cell? ⟨(g + 1), 2, none⟩ = some (.string (strOf t2)) := B2.out.cell 2
          have c23 : W14.cell? ⟨(g + 1), 3, none⟩ = some (.slice Al2 l2.length cl2) := B2.out.cell 3
          have c24 : W14.cell? ⟨(g + 1), 4, none⟩ = some (.slice Ak2 ks2.length ck2) := B2.out.cell 4
          have c40 : W14.cell? ⟨g4, 0, none⟩ = some (.int .i64 k4) := B4.out.cell 0
          have c41 : W14.cell? ⟨g4, 1, none⟩ = some (.int .i64 n4) := B4.out.cell 1
          have c42 : W14.cell? ⟨g4, 2, none⟩ = some (.string (strOf t4)) := B4.out.cell 2
          have c43 : W14.cell? ⟨g4, 3, none⟩ = some (.slice Al4 l4.length cl4) := B4.out.cell 3
          have c44 : W14.cell? ⟨g4, 4, none⟩ = some (.slice Ak4 ks4.length ck4) := B4.out.cell 4
          have O4 := Lib.hid (O4.out.far f)
          have F : Hid (Fr (fun _ => False) w W14) := Lib.hid (F.out.trans f (fun _ _ h => h))
          clear f
          go_wp2_with (first
            | (refine wpList_load_val rfl 25 _ rfl g _ rfl _ A1.out _ Tryd.underlying25 rfl Z1.out ?_)
            | (refine wpList_load_val rfl 25 _ rfl (g + 1) _ rfl _ A2.out _ Tryd.underlying25 rfl Z2.out ?_)
            | (refine wpList_load_val rfl 25 _ rfl g4 _ rfl _ A4.out _ Tryd.underlying25 rfl Z4.out ?_))
          refine (awake_c W14 (HL.out.far F.out)).mono ?_
          rintro e W15 ⟨rfl, f⟩
          have F : Hid (Fr (fun _ => False) w W15) := Lib.hid (F.out.trans f (fun _ _ h => h))
          clear f
          go_wp2_with fail
          go_ret
          exact ⟨rfl, F.out⟩
      | true =>
        rw [hma] at PA
        simp only [if_true] at PA
        go_wp2_with (first
          | (refine wpList_load_val rfl 25 _ rfl g _ rfl _ A1.out _ Tryd.underlying25 rfl Z1.out ?_)
          | (refine wpList_load_val rfl 25 _ rfl (g + 1) _ rfl _ A2.out _ Tryd.underlying25 rfl Z2.out ?_))
        refine (PA.out).mono ?_
        rintro e W16 ⟨rfl, f⟩
        clear c10 c11 c12 c13 c14 c20 c21 c22 c23 c24
        have B1 := Lib.hid (keepB B1.out f)
        have B2 := Lib.hid (keepB B2.out f)
        have A1 := Lib.hid (blk_all B1.out)
        have A2 := Lib.hid (blk_all B2.out)
        have c10 : W16.cell? ⟨g, 0, none⟩ = some (.int .i64 k1) := B1.out.cell 0
        have c11 : W16.cell? ⟨g, 1, none⟩ = some (.int .i64 n1) := B1.out.cell 1
        have c12 : W16.cell? ⟨g, 2, none⟩ = some (.string (strOf t1)) := B1.out.cell 2
        have c13 : W16.cell? ⟨g, 3, none⟩ = some (.slice Al1 l1.length cl1) := B1.out.cell 3
        have c14 : W16.cell? ⟨g, 4, none⟩ = some (.slice Ak1 ks1.length ck1) := B1.out.cell 4
        have c20 : W16.cell? ⟨(g + 1), 0, none⟩ = some (.int .i64 k2) := B2.out.cell 0
        have c21 : W16.cell? ⟨(g + 1), 1, none⟩ = some (.int .i64 n2) := B2.out.cell 1
        have c22 : W16.cell? ⟨(g + 1), 2, none⟩ = some (.string (strOf t2)) := B2.out.cell 2
        have c23 : W16.cell? ⟨(g + 1), 3, none⟩ = some (.slice Al2 l2.length cl2) := B2.out.cell 3
        have c24 : W16.cell? ⟨(g + 1), 4, none⟩ = some (.slice Ak2 ks2.length ck2) := B2.out.cell 4
        have F : Hid (Fr (fun _ => False) w W16) := Lib.hid (F.out.trans f (fun _ _ h => h))
        clear f
        have PB := Lib.hid (print_c b W16 _ _ (R2.out.far F.out) S2.out (HL.out.far F.out))
        clear PA
        cases hmb : mayV b with
        | false =>
          rw [hmb] at PB
          simp only [Bool.false_eq_true, if_false] at PB
          go_wp2_with (first
            | (refine wpList_load_val rfl 25 _ rfl g _ rfl _ A1.out _ Tryd.underlying25 rfl Z1.out ?_)
            | (refine wpList_load_val rfl 25 _ rfl (g + 1) _ rfl _ A2.out _ Tryd.underlying25 rfl Z2.out ?_))
          refine (PB.out).mono ?_
          rintro e W17 ⟨rfl, f⟩
          clear c10 c11 c12 c13 c14 c20 c21 c22 c23 c24
          have B1 := Lib.hid (keepB B1.out f)
          have B2 := Lib.hid (keepB B2.out f)
          have A1 := Lib.hid (blk_all B1.out)
          have A2 := Lib.hid (blk_all B2.out)
          have c10 : W17.cell? ⟨g, 0, none⟩ = some (.int .i64 k1) := B1.out.cell 0
          have c11 : W17.cell? ⟨g, 1, none⟩ = some (.int .i64 n1) := B1.out.cell 1
          have c12 : W17.cell? ⟨g, 2, none⟩ = some (.string (strOf t1)) := B1.out.cell 2
          have c13 : W17.cell? ⟨g, 3, none⟩ = some (.slice Al1 l1.length cl1) := B1.out.cell 3
          have c14 : W17.cell? ⟨g, 4, none⟩ = some (.slice Ak1 ks1.length ck1) := B1.out.cell 4
          have c20 : W17.cell? ⟨(g + 1), 0, none⟩ = some (.int .i64 k2) := B2.out.cell 0
          have c21 : W17.cell? ⟨(g + 1), 1, none⟩ = some (.int .i64 n2) := B2.out.cell 1
          have c22 : W17.cell? ⟨(g + 1), 2, none⟩ = some (.string (strOf t2)) := B2.out.cell 2
          have c23 : W17.cell? ⟨(g + 1), 3, none⟩ = some (.slice Al2 l2.length cl2) := B2.out.cell 3
          have c24 : W17.cell? ⟨(g + 1), 4, none⟩ = some (.slice Ak2 ks2.length ck2) := B2.out.cell 4
          have F : Hid (Fr (fun _ => False) w W17) := Lib.hid (F.out.trans f (fun _ _ h => h))
          clear f
          clear PB
          have hb512 := (may_fields hma).2.1
          go_wp2_with (first
            | (refine wpList_load_val rfl 25 _ rfl g _ rfl _ A1.out _ Tryd.underlying25 rfl Z1.out ?_)
            | (refine wpList_load_val rfl 25 _ rfl (g + 1) _ rfl _ A2.out _ Tryd.underlying25 rfl Z2.out ?_))
          refine (parse_c W17 (prV a) (HL.out.far F.out) (by omega)).mono ?_
          intro e Wq hq
          obtain ⟨C3, rfl, o, sm, f⟩ := parse_one (parse_back hma N1.out) hq
          obtain ⟨k3, n3, t3, l3, ks3, Al3, cl3, Ak3, ck3, css3, Fs3, e3, rfl, -⟩ := o.inv
          clear hq e3 hb512
          have Z3 := Lib.hid (szV o.rd)
          have HO3 := Lib.hid (oneV o.rd)
          have O3 := Lib.hid o.rd.lts
          clear c10 c11 c12 c13 c14 c20 c21 c22 c23 c24
          have B1 := Lib.hid (keepB B1.out f)
          have B2 := Lib.hid (keepB B2.out f)
          have A1 := Lib.hid (blk_all B1.out)
          have A2 := Lib.hid (blk_all B2.out)
          have c10 : Wq.cell? ⟨g, 0, none⟩ = some (.int .i64 k1) := B1.out.cell 0
          have c11 : Wq.cell? ⟨g, 1, none⟩ = some (.int .i64 n1) := B1.out.cell 1
          have c12 : Wq.cell? ⟨g, 2, none⟩ = some (.string (strOf t1)) := B1.out.cell 2
          have c13 : Wq.cell? ⟨g, 3, none⟩ = some (.slice Al1 l1.length cl1) := B1.out.cell 3
          have c14 : Wq.cell? ⟨g, 4, none⟩ = some (.slice Ak1 ks1.length ck1) := B1.out.cell 4
          have c20 : Wq.cell? ⟨(g + 1), 0, none⟩ = some (.int .i64 k2) := B2.out.cell 0
          have c21 : Wq.cell? ⟨(g + 1), 1, none⟩ = some (.int .i64 n2) := B2.out.cell 1
          have c22 : Wq.cell? ⟨(g + 1), 2, none⟩ = some (.string (strOf t2)) := B2.out.cell 2
          have c23 : Wq.cell? ⟨(g + 1), 3, none⟩ = some (.slice Al2 l2.length cl2) := B2.out.cell 3
          have c24 : Wq.cell? ⟨(g + 1), 4, none⟩ = some (.slice Ak2 ks2.length ck2) := B2.out.cell 4
          have F : Hid (Fr (fun _ => False) w Wq) := Lib.hid (F.out.trans f (fun _ _ h => h))
          clear f
          go_upto_region 7 with (
            refine wpList_store_blk rfl 25 _ _ rfl Wq.heap.size (vcs k3 n3 t3 Al3 l3.length cl3 Ak3 ks3.length ck3) rfl rfl (Blk.new Wq 25 _) rfl Z3.out HO3.out ?_
            intro W18 q4 f4
            have f := ((Fr.refl (fun _ => False) Wq).alloc (.cells (vcs 0 0 [] none 0 0 none 0 0) 25)).trans f4 (fun i hi h => by have : i = Wq.heap.size := h; omega)
            have B3 := Lib.hid q4
            clear q4 f4)
          obtain ⟨g3, hg3⟩ : ∃ g3, Wq.heap.size = g3 := ⟨_, rfl⟩
          have O3 := Lib.hid (O3.out.far f)
          rw [hg3] at B3 ⊢
          clear hg3 o sm
          clear c10 c11 c12 c13 c14 c20 c21 c22 c23 c24
          have B1 := Lib.hid (keepB B1.out f)
          have B2 := Lib.hid (keepB B2.out f)
          have A1 := Lib.hid (blk_all B1.out)
          have A2 := Lib.hid (blk_all B2.out)
          have c10 : W18.cell? ⟨g, 0, none⟩ = some (.int .i64 k1) := B1.out.cell 0
          have c11 : W18.cell? ⟨g, 1, none⟩ = some (.int .i64 n1) := B1.out.cell 1
          have c12 : W18.cell? ⟨g, 2, none⟩ = some (.string (strOf t1)) := B1.out.cell 2
          have c13 : W18.cell? ⟨g, 3, none⟩ = some (.slice Al1 l1.length cl1) := B1.out.cell 3
          have c14 : W18.cell? ⟨g, 4, none⟩ = some (.slice Ak1 ks1.length ck1) := B1.out.cell 4
          have c20 : W18.cell? ⟨(g + 1), 0, none⟩ = some (.int .i64 k2) := B2.out.cell 0
          have c21 : W18.cell? ⟨(g + 1), 1, none⟩ = some (.int .i64 n2) := B2.out.cell 1
          have c22 : W18.cell? ⟨(g + 1), 2, none⟩ = some (.string (strOf t2)) := B2.out.cell 2
          have c23 : W18.cell? ⟨(g + 1), 3, none⟩ = some (.slice Al2 l2.length cl2) := B2.out.cell 3
          have c24 : W18.cell? ⟨(g + 1), 4, none⟩ = some (.slice Ak2 ks2.length ck2) := B2.out.cell 4
          have F : Hid (Fr (fun _ => False) w W18) := Lib.hid (F.out.trans f (fun _ _ h => h))
          clear f
          have A3 := Lib.hid (blk_all B3.out)
          have c30 : W18.cell? ⟨g3, 0, none⟩ = some (.int .i64 k3) := B3.out.cell 0
          have c31 : W18.cell? ⟨g3, 1, none⟩ = some (.int .i64 n3) := B3.out.cell 1
          have c32 : W18.cell? ⟨g3, 2, none⟩ = some (.string (strOf t3)) := B3.out.cell 2
          have c33 : W18.cell? ⟨g3, 3, none⟩ = some (.slice Al3 l3.length cl3) := B3.out.cell 3
          have c34 : W18.cell? ⟨g3, 4, none⟩ = some (.slice Ak3 ks3.length ck3) := B3.out.cell 4
          have SA := Lib.hid (rsame_c a a W18 _ _ _ _ O3.out (R1.out.far F.out))
          rw [(eqv_iff a a).2 rfl] at SA
          go_wp2_with (first
            | (refine wpList_load_val rfl 25 _ rfl g _ rfl _ A1.out _ Tryd.underlying25 rfl Z1.out ?_)
            | (refine wpList_load_val rfl 25 _ rfl (g + 1) _ rfl _ A2.out _ Tryd.underlying25 rfl Z2.out ?_)
            | (refine wpList_load_val rfl 25 _ rfl g3 _ rfl _ A3.out _ Tryd.underlying25 rfl Z3.out ?_))
          refine (SA.out).mono ?_
          rintro e W19 ⟨rfl, f⟩
          clear c10 c11 c12 c13 c14 c20 c21 c22 c23 c24 c30 c31 c32 c33 c34
          have B1 := Lib.hid (keepB B1.out f)
          have B2 := Lib.hid (keepB B2.out f)
          have B3 := Lib.hid (keepB B3.out f)
          have A1 := Lib.hid (blk_all B1.out)
          have A2 := Lib.hid (blk_all B2.out)
          have A3 := Lib.hid (blk_all B3.out)
          have c10 : W19.cell? ⟨g, 0, none⟩ = some (.int .i64 k1) := B1.out.cell 0
          have c11 : W19.cell? ⟨g, 1, none⟩ = some (.int .i64 n1) := B1.out.cell 1
          have c12 : W19.cell? ⟨g, 2, none⟩ = some (.string (strOf t1)) := B1.out.cell 2
          have c13 : W19.cell? ⟨g, 3, none⟩ = some (.slice Al1 l1.length cl1) := B1.out.cell 3
          have c14 : W19.cell? ⟨g, 4, none⟩ = some (.slice Ak1 ks1.length ck1) := B1.out.cell 4
          have c20 : W19.cell? ⟨(g + 1), 0, none⟩ = some (.int .i64 k2) := B2.out.cell 0
          have c21 : W19.cell? ⟨(g + 1), 1, none⟩ = some (.int .i64 n2) := B2.out.cell 1
          have c22 : W19.cell? ⟨(g + 1), 2, none⟩ = some (.string (strOf t2)) := B2.out.cell 2
          have c23 : W19.cell? ⟨(g + 1), 3, none⟩ = some (.slice Al2 l2.length cl2) := B2.out.cell 3
          have c24 : W19.cell? ⟨(g + 1), 4, none⟩ = some (.slice Ak2 ks2.length ck2) := B2.out.cell 4
          have c30 : W19.cell? ⟨g3, 0, none⟩ = some (.int .i64 k3) := B3.out.cell 0
          have c31 : W19.cell? ⟨g3, 1, none⟩ = some (.int .i64 n3) := B3.out.cell 1
          have c32 : W19.cell? ⟨g3, 2, none⟩ = some (.string (strOf t3)) := B3.out.cell 2
          have c33 : W19.cell? ⟨g3, 3, none⟩ = some (.slice Al3 l3.length cl3) := B3.out.cell 3
          have c34 : W19.cell? ⟨g3, 4, none⟩ = some (.slice Ak3 ks3.length ck3) := B3.out.cell 4
          have O3 := Lib.hid (O3.out.far f)
          have F : Hid (Fr (fun _ => False) w W19) := Lib.hid (F.out.trans f (fun _ _ h => h))
          clear f
          clear SA
          go_wp2_with (first
            | (refine wpList_load_val rfl 25 _ rfl g _ rfl _ A1.out _ Tryd.underlying25 rfl Z1.out ?_)
            | (refine wpList_load_val rfl 25 _ rfl (g + 1) _ rfl _ A2.out _ Tryd.underlying25 rfl Z2.out ?_))
          refine (parse_c W19 s (HL.out.far F.out) hs63).mono ?_
          intro e Wp hq
          rcases parse_is hq with ⟨C4, v, hpv, rfl, o, sm, f⟩ | ⟨C4, rfl, o, f⟩
          case inr =>
            obtain ⟨k4, n4, t4, l4, ks4, Al4, cl4, Ak4, ck4, css4, Fs4, e4, rfl, -⟩ := o.inv
            clear hq e4
            have Z4 := Lib.hid (szV o.rd)
            have HO4 := Lib.hid (oneV o.rd)
            have O4 := Lib.hid o.rd.lts
            clear c10 c11 c12 c13 c14 c20 c21 c22 c23 c24
            have B1 := Lib.hid (keepB B1.out f)
            have B2 := Lib.hid (keepB B2.out f)
            have A1 := Lib.hid (blk_all B1.out)
            have A2 := Lib.hid (blk_all B2.out)
            have c10 : Wp.cell? ⟨g, 0, none⟩ = some (.int .i64 k1) := B1.out.cell 0
            have c11 : Wp.cell? ⟨g, 1, none⟩ = some (.int .i64 n1) := B1.out.cell 1
            have c12 : Wp.cell? ⟨g, 2, none⟩ = some (.string (strOf t1)) := B1.out.cell 2
            have c13 : Wp.cell? ⟨g, 3, none⟩ = some (.slice Al1 l1.length cl1) := B1.out.cell 3
            have c14 : Wp.cell? ⟨g, 4, none⟩ = some (.slice Ak1 ks1.length ck1) := B1.out.cell 4
            have c20 : Wp.cell? ⟨(g + 1), 0, none⟩ = some (.int .i64 k2) := B2.out.cell 0
            have c21 : Wp.cell? ⟨(g + 1), 1, none⟩ = some (.int .i64 n2) := B2.out.cell 1
            have c22 : Wp.cell? ⟨(g + 1), 2, none⟩ = some (.string (strOf t2)) := B2.out.cell 2
            have c23 : Wp.cell? ⟨(g + 1), 3, none⟩ = some (.slice Al2 l2.length cl2) := B2.out.cell 3
            have c24 : Wp.cell? ⟨(g + 1), 4, none⟩ = some (.slice Ak2 ks2.length ck2) := B2.out.cell 4
            have F : Hid (Fr (fun _ => False) w Wp) := Lib.hid (F.out.trans f (fun _ _ h => h))
            clear f
            go_upto_region 10 with (
              refine wpList_store_blk rfl 25 _ _ rfl Wp.heap.size (vcs k4 n4 t4 Al4 l4.length cl4 Ak4 ks4.length ck4) rfl rfl (Blk.new Wp 25 _) rfl Z4.out HO4.out ?_
              intro W20 q4 f4
              have f := ((Fr.refl (fun _ => False) Wp).alloc (.cells (vcs 0 0 [] none 0 0 none 0 0) 25)).trans f4 (fun i hi h => by have : i = Wp.heap.size := h; omega)
              have B4 := Lib.hid q4
              clear q4 f4)
            obtain ⟨g4, hg4⟩ : ∃ g4, Wp.heap.size = g4 := ⟨_, rfl⟩
            have O4 := Lib.hid (O4.out.far f)
            rw [hg4] at B4 ⊢
            clear hg4 o
            clear c10 c11 c12 c13 c14 c20 c21 c22 c23 c24
            have B1 := Lib.hid (keepB B1.out f)
            have B2 := Lib.hid (keepB B2.out f)
            have A1 := Lib.hid (blk_all B1.out)
            have A2 := Lib.hid (blk_all B2.out)
            have c10 : W20.cell? ⟨g, 0, none⟩ = some (.int .i64 k1) := B1.out.cell 0
            have c11 : W20.cell? ⟨g, 1, none⟩ = some (.int .i64 n1) := B1.out.cell 1
            have c12 : W20.cell? ⟨g, 2, none⟩ = some (.string (strOf t1)) := B1.out.cell 2
            have c13 : W20.cell? ⟨g, 3, none⟩ = some (.slice Al1 l1.length cl1) := B1.out.cell 3
            have c14 : W20.cell? ⟨g, 4, none⟩ = some (.slice Ak1 ks1.length ck1) := B1.out.cell 4
            have c20 : W20.cell? ⟨(g + 1), 0, none⟩ = some (.int .i64 k2) := B2.out.cell 0
            have c21 : W20.cell? ⟨(g + 1), 1, none⟩ = some (.int .i64 n2) := B2.out.cell 1
            have c22 : W20.cell? ⟨(g + 1), 2, none⟩ = some (.string (strOf t2)) := B2.out.cell 2
            have c23 : W20.cell? ⟨(g + 1), 3, none⟩ = some (.slice Al2 l2.length cl2) := B2.out.cell 3
            have c24 : W20.cell? ⟨(g + 1), 4, none⟩ = some (.slice Ak2 ks2.length ck2) := B2.out.cell 4
            have F : Hid (Fr (fun _ => False) w W20) := Lib.hid (F.out.trans f (fun _ _ h => h))
            clear f
            go_wp2_with (first
              | (refine wpList_load_val rfl 25 _ rfl g _ rfl _ A1.out _ Tryd.underlying25 rfl Z1.out ?_)
              | (refine wpList_load_val rfl 25 _ rfl (g + 1) _ rfl _ A2.out _ Tryd.underlying25 rfl Z2.out ?_))
            refine (awake_c W20 (HL.out.far F.out)).mono ?_
            rintro e W21 ⟨rfl, f⟩
            have F : Hid (Fr (fun _ => False) w W21) := Lib.hid (F.out.trans f (fun _ _ h => h))
            clear f
            go_wp2_with fail
            go_ret
            exact ⟨rfl, F.out⟩
          case inl =>
            obtain ⟨k4, n4, t4, l4, ks4, Al4, cl4, Ak4, ck4, css4, Fs4, e4, rfl, -⟩ := o.inv
            clear hq e4
            have Z4 := Lib.hid (szV o.rd)
            have HO4 := Lib.hid (oneV o.rd)
            have O4 := Lib.hid o.rd.lts
            clear c10 c11 c12 c13 c14 c20 c21 c22 c23 c24
            have B1 := Lib.hid (keepB B1.out f)
            have B2 := Lib.hid (keepB B2.out f)
            have A1 := Lib.hid (blk_all B1.out)
            have A2 := Lib.hid (blk_all B2.out)
            have c10 : Wp.cell? ⟨g, 0, none⟩ = some (.int .i64 k1) := B1.out.cell 0
            have c11 : Wp.cell? ⟨g, 1, none⟩ = some (.int .i64 n1) := B1.out.cell 1
            have c12 : Wp.cell? ⟨g, 2, none⟩ = some (.string (strOf t1)) := B1.out.cell 2
            have c13 : Wp.cell? ⟨g, 3, none⟩ = some (.slice Al1 l1.length cl1) := B1.out.cell 3
            have c14 : Wp.cell? ⟨g, 4, none⟩ = some (.slice Ak1 ks1.length ck1) := B1.out.cell 4
            have c20 : Wp.cell? ⟨(g + 1), 0, none⟩ = some (.int .i64 k2) := B2.out.cell 0
            have c21 : Wp.cell? ⟨(g + 1), 1, none⟩ = some (.int .i64 n2) := B2.out.cell 1
            have c22 : Wp.cell? ⟨(g + 1), 2, none⟩ = some (.string (strOf t2)) := B2.out.cell 2
            have c23 : Wp.cell? ⟨(g + 1), 3, none⟩ = some (.slice Al2 l2.length cl2) := B2.out.cell 3
            have c24 : Wp.cell? ⟨(g + 1), 4, none⟩ = some (.slice Ak2 ks2.length ck2) := B2.out.cell 4
            have F : Hid (Fr (fun _ => False) w Wp) := Lib.hid (F.out.trans f (fun _ _ h => h))
            clear f
            go_upto_region 10 with (
              refine wpList_store_blk rfl 25 _ _ rfl Wp.heap.size (vcs k4 n4 t4 Al4 l4.length cl4 Ak4 ks4.length ck4) rfl rfl (Blk.new Wp 25 _) rfl Z4.out HO4.out ?_
              intro W22 q4 f4
              have f := ((Fr.refl (fun _ => False) Wp).alloc (.cells (vcs 0 0 [] none 0 0 none 0 0) 25)).trans f4 (fun i hi h => by have : i = Wp.heap.size := h; omega)
              have B4 := Lib.hid q4
              clear q4 f4)
            obtain ⟨g4, hg4⟩ : ∃ g4, Wp.heap.size = g4 := ⟨_, rfl⟩
            have O4 := Lib.hid (O4.out.far f)
            rw [hg4] at B4 ⊢
            clear hg4 o
            clear c10 c11 c12 c13 c14 c20 c21 c22 c23 c24
            have B1 := Lib.hid (keepB B1.out f)
            have B2 := Lib.hid (keepB B2.out f)
            have A1 := Lib.hid (blk_all B1.out)
            have A2 := Lib.hid (blk_all B2.out)
            have c10 : W22.cell? ⟨g, 0, none⟩ = some (.int .i64 k1) := B1.out.cell 0
            have c11 : W22.cell? ⟨g, 1, none⟩ = some (.int .i64 n1) := B1.out.cell 1
            have c12 : W22.cell? ⟨g, 2, none⟩ = some (.string (strOf t1)) := B1.out.cell 2
            have c13 : W22.cell? ⟨g, 3, none⟩ = some (.slice Al1 l1.length cl1) := B1.out.cell 3
            have c14 : W22.cell? ⟨g, 4, none⟩ = some (.slice Ak1 ks1.length ck1) := B1.out.cell 4
            have c20 : W22.cell? ⟨(g + 1), 0, none⟩ = some (.int .i64 k2) := B2.out.cell 0
            have c21 : W22.cell? ⟨(g + 1), 1, none⟩ = some (.int .i64 n2) := B2.out.cell 1
            have c22 : W22.cell? ⟨(g + 1), 2, none⟩ = some (.string (strOf t2)) := B2.out.cell 2
            have c23 : W22.cell? ⟨(g + 1), 3, none⟩ = some (.slice Al2 l2.length cl2) := B2.out.cell 3
            have c24 : W22.cell? ⟨(g + 1), 4, none⟩ = some (.slice Ak2 ks2.length ck2) := B2.out.cell 4
            have F : Hid (Fr (fun _ => False) w W22) := Lib.hid (F.out.trans f (fun _ _ h => h))
            clear f
            have A4 := Lib.hid (blk_all B4.out)
            have SV := Lib.hid sm
            obtain ⟨hmv, hpr⟩ := parse_may hpv
            clear sm hpv
            have PV := Lib.hid (print_c v W22 _ _ O4.out SV.out (HL.out.far F.out))
            rw [hmv, if_pos rfl, if_pos rfl, hpr] at PV
            have c40 : W22.cell? ⟨g4, 0, none⟩ = some (.int .i64 k4) := B4.out.cell 0
            have c41 : W22.cell? ⟨g4, 1, none⟩ = some (.int .i64 n4) := B4.out.cell 1
            have c42 : W22.cell? ⟨g4, 2, none⟩ = some (.string (strOf t4)) := B4.out.cell 2
            have c43 : W22.cell? ⟨g4, 3, none⟩ = some (.slice Al4 l4.length cl4) := B4.out.cell 3
            have c44 : W22.cell? ⟨g4, 4, none⟩ = some (.slice Ak4 ks4.length ck4) := B4.out.cell 4
            go_wp2_with (first
              | (refine wpList_load_val rfl 25 _ rfl g _ rfl _ A1.out _ Tryd.underlying25 rfl Z1.out ?_)
              | (refine wpList_load_val rfl 25 _ rfl (g + 1) _ rfl _ A2.out _ Tryd.underlying25 rfl Z2.out ?_)
              | (refine wpList_load_val rfl 25 _ rfl g4 _ rfl _ A4.out _ Tryd.underlying25 rfl Z4.out ?_))
            refine (PV.out).mono ?_
            rintro e W23 ⟨rfl, f⟩
            clear c10 c11 c12 c13 c14 c20 c21 c22 c23 c24 c40 c41 c42 c43 c44
            have B1 := Lib.hid (keepB B1.out f)
            have B2 := Lib.hid (keepB B2.out f)
            have B4 := Lib.hid (keepB B4.out f)
            have A1 := Lib.hid (blk_all B1.out)
            have A2 := Lib.hid (blk_all B2.out)
            have A4 := Lib.hid (blk_all B4.out)
            have c10 : W23.cell? ⟨g, 0, none⟩ = some (.int .i64 k1) := B1.out.cell 0
            have c11 : W23.cell? ⟨g, 1, none⟩ = some (.int .i64 n1) := B1.out.cell 1
            have c12 : W23.cell? ⟨g, 2, none⟩ = some (.string (strOf t1)) := B1.out.cell 2
            have c13 : W23.cell? ⟨g, 3, none⟩ = some (.slice Al1 l1.length cl1) := B1.out.cell 3
            have c14 : W23.cell? ⟨g, 4, none⟩ = some (.slice Ak1 ks1.length ck1) := B1.out.cell 4
            have c20 : W23.cell? ⟨(g + 1), 0, none⟩ = some (.int .i64 k2) := B2.out.cell 0
            have c21 : W23.cell? ⟨(g + 1), 1, none⟩ = some (.int .i64 n2) := B2.out.cell 1
            have c22 : W23.cell? ⟨(g + 1), 2, none⟩ = some (.string (strOf t2)) := B2.out.cell 2
            have c23 : W23.cell? ⟨(g + 1), 3, none⟩ = some (.slice Al2 l2.length cl2) := B2.out.cell 3
            have c24 : W23.cell? ⟨(g + 1), 4, none⟩ = some (.slice Ak2 ks2.length ck2) := B2.out.cell 4
            have c40 : W23.cell? ⟨g4, 0, none⟩ = some (.int .i64 k4) := B4.out.cell 0
            have c41 : W23.cell? ⟨g4, 1, none⟩ = some (.int .i64 n4) := B4.out.cell 1
            have c42 : W23.cell? ⟨g4, 2, none⟩ = some (.string (strOf t4)) := B4.out.cell 2
            have c43 : W23.cell? ⟨g4, 3, none⟩ = some (.slice Al4 l4.length cl4) := B4.out.cell 3
            have c44 : W23.cell? ⟨g4, 4, none⟩ = some (.slice Ak4 ks4.length ck4) := B4.out.cell 4
            have O4 := Lib.hid (O4.out.far f)
            have F : Hid (Fr (fun _ => False) w W23) := Lib.hid (F.out.trans f (fun _ _ h => h))
            clear f
            have hst : ((strOf s).toList == (strOf s).toList) = true := by simp
            have MV := Lib.hid (may_c v W23 _ _ O4.out SV.out (HL.out.far F.out))
            rw [hmv] at MV
            clear PV hpr hmv
            go_wp2_with (first
              | (refine wpList_load_val rfl 25 _ rfl g _ rfl _ A1.out _ Tryd.underlying25 rfl Z1.out ?_)
              | (refine wpList_load_val rfl 25 _ rfl (g + 1) _ rfl _ A2.out _ Tryd.underlying25 rfl Z2.out ?_)
              | (refine wpList_load_val rfl 25 _ rfl g4 _ rfl _ A4.out _ Tryd.underlying25 rfl Z4.out ?_))
            refine (MV.out).mono ?_
            rintro e W24 ⟨rfl, f⟩
            clear c10 c11 c12 c13 c14 c20 c21 c22 c23 c24 c40 c41 c42 c43 c44
            have B1 := Lib.hid (keepB B1.out f)
            have B2 := Lib.hid (keepB B2.out f)
            have B4 := Lib.hid (keepB B4.out f)
            have A1 := Lib.hid (blk_all B1.out)
            have A2 := Lib.hid (blk_all B2.out)
            have A4 := Lib.hid (blk_all B4.out)
            have c10 : W24.cell? ⟨g, 0, none⟩ = some (.int .i64 k1) := B1.out.cell 0
            have c11 : W24.cell? ⟨g, 1, none⟩ = some (.int .i64 n1) := B1.out.cell 1
            have c12 : W24.cell? ⟨g, 2, none⟩ = some (.string (strOf t1)) := B1.out.cell 2
            have c13 : W24.cell? ⟨g, 3, none⟩ = some (.slice Al1 l1.length cl1) := B1.out.cell 3
            have c14 : W24.cell? ⟨g, 4, none⟩ = some (.slice Ak1 ks1.length ck1) := B1.out.cell 4
            have c20 : W24.cell? ⟨(g + 1), 0, none⟩ = some (.int .i64 k2) := B2.out.cell 0
            have c21 : W24.cell? ⟨(g + 1), 1, none⟩ = some (.int .i64 n2) := B2.out.cell 1
            have c22 : W24.cell? ⟨(g + 1), 2, none⟩ = some (.string (strOf t2)) := B2.out.cell 2
            have c23 : W24.cell? ⟨(g + 1), 3, none⟩ = some (.slice Al2 l2.length cl2) := B2.out.cell 3
            have c24 : W24.cell? ⟨(g + 1), 4, none⟩ = some (.slice Ak2 ks2.length ck2) := B2.out.cell 4
            have c40 : W24.cell? ⟨g4, 0, none⟩ = some (.int .i64 k4) := B4.out.cell 0
            have c41 : W24.cell? ⟨g4, 1, none⟩ = some (.int .i64 n4) := B4.out.cell 1
            have c42 : W24.cell? ⟨g4, 2, none⟩ = some (.string (strOf t4)) := B4.out.cell 2
            have c43 : W24.cell? ⟨g4, 3, none⟩ = some (.slice Al4 l4.length cl4) := B4.out.cell 3
            have c44 : W24.cell? ⟨g4, 4, none⟩ = some (.slice Ak4 ks4.length ck4) := B4.out.cell 4
            have O4 := Lib.hid (O4.out.far f)
            have F : Hid (Fr (fun _ => False) w W24) := Lib.hid (F.out.trans f (fun _ _ h => h))
            clear f
            go_wp2_with (first
              | (refine wpList_load_val rfl 25 _ rfl g _ rfl _ A1.out _ Tryd.underlying25 rfl Z1.out ?_)
              | (refine wpList_load_val rfl 25 _ rfl (g + 1) _ rfl _ A2.out _ Tryd.underlying25 rfl Z2.out ?_)
              | (refine wpList_load_val rfl 25 _ rfl g4 _ rfl _ A4.out _ Tryd.underlying25 rfl Z4.out ?_))
            refine (awake_c W24 (HL.out.far F.out)).mono ?_
            rintro e W25 ⟨rfl, f⟩
            have F : Hid (Fr (fun _ => False) w W25) := Lib.hid (F.out.trans f (fun _ _ h => h))
            clear f
            go_wp2_with fail
            go_ret
            exact ⟨rfl, F.out⟩
        | true =>
          rw [hmb] at PB
          simp only [if_true] at PB
          go_wp2_with (first
            | (refine wpList_load_val rfl 25 _ rfl g _ rfl _ A1.out _ Tryd.underlying25 rfl Z1.out ?_)
            | (refine wpList_load_val rfl 25 _ rfl (g + 1) _ rfl _ A2.out _ Tryd.underlying25 rfl Z2.out ?_))
          refine (PB.out).mono ?_
          rintro e W26 ⟨rfl, f⟩
          clear c10 c11 c12 c13 c14 c20 c21 c22 c23 c24
          have B1 := Lib.hid (keepB B1.out f)
          have B2 := Lib.hid (keepB B2.out f)
          have A1 := Lib.hid (blk_all B1.out)
          have A2 := Lib.hid (blk_all B2.out)
          have c10 : W26.cell? ⟨g, 0, none⟩ = some (.int .i64 k1) := B1.out.cell 0
          have c11 : W26.cell? ⟨g, 1, none⟩ = some (.int .i64 n1) := B1.out.cell 1
          have c12 : W26.cell? ⟨g, 2, none⟩ = some (.string (strOf t1)) := B1.out.cell 2
          have c13 : W26.cell? ⟨g, 3, none⟩ = some (.slice Al1 l1.length cl1) := B1.out.cell 3
          have c14 : W26.cell? ⟨g, 4, none⟩ = some (.slice Ak1 ks1.length ck1) := B1.out.cell 4
          have c20 : W26.cell? ⟨(g + 1), 0, none⟩ = some (.int .i64 k2) := B2.out.cell 0
          have c21 : W26.cell? ⟨(g + 1), 1, none⟩ = some (.int .i64 n2) := B2.out.cell 1
          have c22 : W26.cell? ⟨(g + 1), 2, none⟩ = some (.string (strOf t2)) := B2.out.cell 2
          have c23 : W26.cell? ⟨(g + 1), 3, none⟩ = some (.slice Al2 l2.length cl2) := B2.out.cell 3
          have c24 : W26.cell? ⟨(g + 1), 4, none⟩ = some (.slice Ak2 ks2.length ck2) := B2.out.cell 4
          have F : Hid (Fr (fun _ => False) w W26) := Lib.hid (F.out.trans f (fun _ _ h => h))
          clear f
          clear PB
          have hb512 := (may_fields hma).2.1
          go_wp2_with (first
            | (refine wpList_load_val rfl 25 _ rfl g _ rfl _ A1.out _ Tryd.underlying25 rfl Z1.out ?_)
            | (refine wpList_load_val rfl 25 _ rfl (g + 1) _ rfl _ A2.out _ Tryd.underlying25 rfl Z2.out ?_))
          refine (parse_c W26 (prV a) (HL.out.far F.out) (by omega)).mono ?_
          intro e Wq hq
          obtain ⟨C3, rfl, o, sm, f⟩ := parse_one (parse_back hma N1.out) hq
          obtain ⟨k3, n3, t3, l3, ks3, Al3, cl3, Ak3, ck3, css3, Fs3, e3, rfl, -⟩ := o.inv
          clear hq e3 hb512
          have Z3 := Lib.hid (szV o.rd)
          have HO3 := Lib.hid (oneV o.rd)
          have O3 := Lib.hid o.rd.lts
          clear c10 c11 c12 c13 c14 c20 c21 c22 c23 c24
          have B1 := Lib.hid (keepB B1.out f)
          have B2 := Lib.hid (keepB B2.out f)
          have A1 := Lib.hid (blk_all B1.out)
          have A2 := Lib.hid (blk_all B2.out)
          have c10 : Wq.cell? ⟨g, 0, none⟩ = some (.int .i64 k1) := B1.out.cell 0
          have c11 : Wq.cell? ⟨g, 1, none⟩ = some (.int .i64 n1) := B1.out.cell 1
          have c12 : Wq.cell? ⟨g, 2, none⟩ = some (.string (strOf t1)) := B1.out.cell 2
          have c13 : Wq.cell? ⟨g, 3, none⟩ = some (.slice Al1 l1.length cl1) := B1.out.cell 3
          have c14 : Wq.cell? ⟨g, 4, none⟩ = some (.slice Ak1 ks1.length ck1) := B1.out.cell 4
          have c20 : Wq.cell? ⟨(g + 1), 0, none⟩ = some (.int .i64 k2) := B2.out.cell 0
          have c21 : Wq.cell? ⟨(g + 1), 1, none⟩ = some (.int .i64 n2) := B2.out.cell 1
          have c22 : Wq.cell? ⟨(g + 1), 2, none⟩ = some (.string (strOf t2)) := B2.out.cell 2
          have c23 : Wq.cell? ⟨(g + 1), 3, none⟩ = some (.slice Al2 l2.length cl2) := B2.out.cell 3
          have c24 : Wq.cell? ⟨(g + 1), 4, none⟩ = some (.slice Ak2 ks2.length ck2) := B2.out.cell 4
          have F : Hid (Fr (fun _ => False) w Wq) := Lib.hid (F.out.trans f (fun _ _ h => h))
          clear f
          go_upto_region 7 with (
            refine wpList_store_blk rfl 25 _ _ rfl Wq.heap.size (vcs k3 n3 t3 Al3 l3.length cl3 Ak3 ks3.length ck3) rfl rfl (Blk.new Wq 25 _) rfl Z3.out HO3.out ?_
            intro W27 q4 f4
            have f := ((Fr.refl (fun _ => False) Wq).alloc (.cells (vcs 0 0 [] none 0 0 none 0 0) 25)).trans f4 (fun i hi h => by have : i = Wq.heap.size := h; omega)
            have B3 := Lib.hid q4
            clear q4 f4)
          obtain ⟨g3, hg3⟩ : ∃ g3, Wq.heap.size = g3 := ⟨_, rfl⟩
          have O3 := Lib.hid (O3.out.far f)
          rw [hg3] at B3 ⊢
          clear hg3 o sm
          clear c10 c11 c12 c13 c14 c20 c21 c22 c23 c24
          have B1 := Lib.hid (keepB B1.out f)
          have B2 := Lib.hid (keepB B2.out f)
          have A1 := Lib.hid (blk_all B1.out)
          have A2 := Lib.hid (blk_all B2.out)
          have c10 : W27.cell? ⟨g, 0, none⟩ = some (.int .i64 k1) := B1.out.cell 0
          have c11 : W27.cell? ⟨g, 1, none⟩ = some (.int .i64 n1) := B1.out.cell 1
          have c12 : W27.cell? ⟨g, 2, none⟩ = some (.string (strOf t1)) := B1.out.cell 2
          have c13 : W27.cell? ⟨g, 3, none⟩ = some (.slice Al1 l1.length cl1) := B1.out.cell 3
          have c14 : W27.cell? ⟨g, 4, none⟩ = some (.slice Ak1 ks1.length ck1) := B1.out.cell 4
          have c20 : W27.cell? ⟨(g + 1), 0, none⟩ = some (.int .i64 k2) := B2.out.cell 0
          have c21 : W27.cell? ⟨(g + 1), 1, none⟩ = some (.int .i64 n2) := B2.out.cell 1
          have c22 : W27.cell? ⟨(g + 1), 2, none⟩ = some (.string (strOf t2)) := B2.out.cell 2
          have c23 : W27.cell? ⟨(g + 1), 3, none⟩ = some (.slice Al2 l2.length cl2) := B2.out.cell 3
          have c24 : W27.cell? ⟨(g + 1), 4, none⟩ = some (.slice Ak2 ks2.length ck2) := B2.out.cell 4
          have F : Hid (Fr (fun _ => False) w W27) := Lib.hid (F.out.trans f (fun _ _ h => h))
          clear f
          have A3 := Lib.hid (blk_all B3.out)
          have c30 : W27.cell? ⟨g3, 0, none⟩ = some (.int .i64 k3) := B3.out.cell 0
          have c31 : W27.cell? ⟨g3, 1, none⟩ = some (.int .i64 n3) := B3.out.cell 1
          have c32 : W27.cell? ⟨g3, 2, none⟩ = some (.string (strOf t3)) := B3.out.cell 2
          have c33 : W27.cell? ⟨g3, 3, none⟩ = some (.slice Al3 l3.length cl3) := B3.out.cell 3
          have c34 : W27.cell? ⟨g3, 4, none⟩ = some (.slice Ak3 ks3.length ck3) := B3.out.cell 4
          have SA := Lib.hid (rsame_c a a W27 _ _ _ _ O3.out (R1.out.far F.out))
          rw [(eqv_iff a a).2 rfl] at SA
          go_wp2_with (first
            | (refine wpList_load_val rfl 25 _ rfl g _ rfl _ A1.out _ Tryd.underlying25 rfl Z1.out ?_)
            | (refine wpList_load_val rfl 25 _ rfl (g + 1) _ rfl _ A2.out _ Tryd.underlying25 rfl Z2.out ?_)
            | (refine wpList_load_val rfl 25 _ rfl g3 _ rfl _ A3.out _ Tryd.underlying25 rfl Z3.out ?_))
          refine (SA.out).mono ?_
          rintro e W28 ⟨rfl, f⟩
          clear c10 c11 c12 c13 c14 c20 c21 c22 c23 c24 c30 c31 c32 c33 c34
          have B1 := Lib.hid (keepB B1.out f)
          have B2 := Lib.hid (keepB B2.out f)
          have B3 := Lib.hid (keepB B3.out f)
          have A1 := Lib.hid (blk_all B1.out)
          have A2 := Lib.hid (blk_all B2.out)
          have A3 := Lib.hid (blk_all B3.out)
          have c10 : W28.cell? ⟨g, 0, none⟩ = some (.int .i64 k1) := B1.out.cell 0
          have c11 : W28.cell? ⟨g, 1, none⟩ = some (.int .i64 n1) := B1.out.cell 1
          have c12 : W28.cell? ⟨g, 2, none⟩ = some (.string (strOf t1)) := B1.out.cell 2
          have c13 : W28.cell? ⟨g, 3, none⟩ = some (.slice Al1 l1.length cl1) := B1.out.cell 3
          have c14 : W28.cell? ⟨g, 4, none⟩ = some (.slice Ak1 ks1.length ck1) := B1.out.cell 4
          have c20 : W28.cell? ⟨(g + 1), 0, none⟩ = some (.int .i64 k2) := B2.out.cell 0
          have c21 : W28.cell? ⟨(g + 1), 1, none⟩ = some (.int .i64 n2) := B2.out.cell 1
          have c22 : W28.cell? ⟨(g + 1), 2, none⟩ = some (.string (strOf t2)) := B2.out.cell 2
          have c23 : W28.cell? ⟨(g + 1), 3, none⟩ = some (.slice Al2 l2.length cl2) := B2.out.cell 3
          have c24 : W28.cell? ⟨(g + 1), 4, none⟩ = some (.slice Ak2 ks2.length ck2) := B2.out.cell 4
          have c30 : W28.cell? ⟨g3, 0, none⟩ = some (.int .i64 k3) := B3.out.cell 0
          have c31 : W28.cell? ⟨g3, 1, none⟩ = some (.int .i64 n3) := B3.out.cell 1
          have c32 : W28.cell? ⟨g3, 2, none⟩ = some (.string (strOf t3)) := B3.out.cell 2
          have c33 : W28.cell? ⟨g3, 3, none⟩ = some (.slice Al3 l3.length cl3) := B3.out.cell 3
          have c34 : W28.cell? ⟨g3, 4, none⟩ = some (.slice Ak3 ks3.length ck3) := B3.out.cell 4
          have O3 := Lib.hid (O3.out.far f)
          have F : Hid (Fr (fun _ => False) w W28) := Lib.hid (F.out.trans f (fun _ _ h => h))
          clear f
          clear SA
          have hsab : ((strOf (prV a)).toList == (strOf (prV b)).toList) = eqv a b := by rw [strOf_toList, strOf_toList]; exact prV_inj hma hmb N1.out N2.out
          have SB := Lib.hid (rsame_c a b W28 _ _ _ _ (R1.out.far F.out) (R2.out.far F.out))
          obtain ⟨u, hu⟩ : ∃ u, eqv a b = u := ⟨_, rfl⟩
          rw [hu] at SB hsab
          clear hu
          have huu : (u == u) = true := by simp
          have huu' : (u != u) = false := by simp
          go_wp2_with (first
            | (refine wpList_load_val rfl 25 _ rfl g _ rfl _ A1.out _ Tryd.underlying25 rfl Z1.out ?_)
            | (refine wpList_load_val rfl 25 _ rfl (g + 1) _ rfl _ A2.out _ Tryd.underlying25 rfl Z2.out ?_)
            | (refine wpList_load_val rfl 25 _ rfl g3 _ rfl _ A3.out _ Tryd.underlying25 rfl Z3.out ?_))
          refine (SB.out).mono ?_
          rintro e W29 ⟨rfl, f⟩
          clear c10 c11 c12 c13 c14 c20 c21 c22 c23 c24 c30 c31 c32 c33 c34
          have B1 := Lib.hid (keepB B1.out f)
          have B2 := Lib.hid (keepB B2.out f)
          have B3 := Lib.hid (keepB B3.out f)
          have A1 := Lib.hid (blk_all B1.out)
          have A2 := Lib.hid (blk_all B2.out)
          have A3 := Lib.hid (blk_all B3.out)
          have c10 : W29.cell? ⟨g, 0, none⟩ = some (.int .i64 k1) := B1.out.cell 0
          have c11 : W29.cell? ⟨g, 1, none⟩ = some (.int .i64 n1) := B1.out.cell 1
          have c12 : W29.cell? ⟨g, 2, none⟩ = some (.string (strOf t1)) := B1.out.cell 2
          have c13 : W29.cell? ⟨g, 3, none⟩ = some (.slice Al1 l1.length cl1) := B1.out.cell 3
          have c14 : W29.cell? ⟨g, 4, none⟩ = some (.slice Ak1 ks1.length ck1) := B1.out.cell 4
          have c20 : W29.cell? ⟨(g + 1), 0, none⟩ = some (.int .i64 k2) := B2.out.cell 0
          have c21 : W29.cell? ⟨(g + 1), 1, none⟩ = some (.int .i64 n2) := B2.out.cell 1
          have c22 : W29.cell? ⟨(g + 1), 2, none⟩ = some (.string (strOf t2)) := B2.out.cell 2
          have c23 : W29.cell? ⟨(g + 1), 3, none⟩ = some (.slice Al2 l2.length cl2) := B2.out.cell 3
          have c24 : W29.cell? ⟨(g + 1), 4, none⟩ = some (.slice Ak2 ks2.length ck2) := B2.out.cell 4
          have c30 : W29.cell? ⟨g3, 0, none⟩ = some (.int .i64 k3) := B3.out.cell 0
          have c31 : W29.cell? ⟨g3, 1, none⟩ = some (.int .i64 n3) := B3.out.cell 1
          have c32 : W29.cell? ⟨g3, 2, none⟩ = some (.string (strOf t3)) := B3.out.cell 2
          have c33 : W29.cell? ⟨g3, 3, none⟩ = some (.slice Al3 l3.length cl3) := B3.out.cell 3
          have c34 : W29.cell? ⟨g3, 4, none⟩ = some (.slice Ak3 ks3.length ck3) := B3.out.cell 4
          have O3 := Lib.hid (O3.out.far f)
          have F : Hid (Fr (fun _ => False) w W29) := Lib.hid (F.out.trans f (fun _ _ h => h))
          clear f
          clear SB
          go_wp2_with (first
            | (refine wpList_load_val rfl 25 _ rfl g _ rfl _ A1.out _ Tryd.underlying25 rfl Z1.out ?_)
            | (refine wpList_load_val rfl 25 _ rfl (g + 1) _ rfl _ A2.out _ Tryd.underlying25 rfl Z2.out ?_))
          refine (parse_c W29 s (HL.out.far F.out) hs63).mono ?_
          intro e Wp hq
          rcases parse_is hq with ⟨C4, v, hpv, rfl, o, sm, f⟩ | ⟨C4, rfl, o, f⟩
          case inr =>
            obtain ⟨k4, n4, t4, l4, ks4, Al4, cl4, Ak4, ck4, css4, Fs4, e4, rfl, -⟩ := o.inv
            clear hq e4
            have Z4 := Lib.hid (szV o.rd)
            have HO4 := Lib.hid (oneV o.rd)
            have O4 := Lib.hid o.rd.lts
            clear c10 c11 c12 c13 c14 c20 c21 c22 c23 c24
            have B1 := Lib.hid (keepB B1.out f)
            have B2 := Lib.hid (keepB B2.out f)
            have A1 := Lib.hid (blk_all B1.out)
            have A2 := Lib.hid (blk_all B2.out)
            have c10 : Wp.cell? ⟨g, 0, none⟩ = some (.int .i64 k1) := B1.out.cell 0
            have c11 : Wp.cell? ⟨g, 1, none⟩ = some (.int .i64 n1) := B1.out.cell 1
            have c12 : Wp.cell? ⟨g, 2, none⟩ = some (.string (strOf t1)) := B1.out.cell 2
            have c13 : Wp.cell? ⟨g, 3, none⟩ = some (.slice Al1 l1.length cl1) := B1.out.cell 3
            have c14 : Wp.cell? ⟨g, 4, none⟩ = some (.slice Ak1 ks1.length ck1) := B1.out.cell 4
            have c20 : Wp.cell? ⟨(g + 1), 0, none⟩ = some (.int .i64 k2) := B2.out.cell 0
            have c21 : Wp.cell? ⟨(g + 1), 1, none⟩ = some (.int .i64 n2) := B2.out.cell 1
            have c22 : Wp.cell? ⟨(g + 1), 2, none⟩ = some (.string (strOf t2)) := B2.out.cell 2
            have c23 : Wp.cell? ⟨(g + 1), 3, none⟩ = some (.slice Al2 l2.length cl2) := B2.out.cell 3
            have c24 : Wp.cell? ⟨(g + 1), 4, none⟩ = some (.slice Ak2 ks2.length ck2) := B2.out.cell 4
            have F : Hid (Fr (fun _ => False) w Wp) := Lib.hid (F.out.trans f (fun _ _ h => h))
            clear f
            go_upto_region 10 with (
              refine wpList_store_blk rfl 25 _ _ rfl Wp.heap.size (vcs k4 n4 t4 Al4 l4.length cl4 Ak4 ks4.length ck4) rfl rfl (Blk.new Wp 25 _) rfl Z4.out HO4.out ?_
              intro W30 q4 f4
              have f := ((Fr.refl (fun _ => False) Wp).alloc (.cells (vcs 0 0 [] none 0 0 none 0 0) 25)).trans f4 (fun i hi h => by have : i = Wp.heap.size := h; omega)
              have B4 := Lib.hid q4
              clear q4 f4)
            obtain ⟨g4, hg4⟩ : ∃ g4, Wp.heap.size = g4 := ⟨_, rfl⟩
            have O4 := Lib.hid (O4.out.far f)
            rw [hg4] at B4 ⊢
            clear hg4 o
            clear c10 c11 c12 c13 c14 c20 c21 c22 c23 c24
            have B1 := Lib.hid (keepB B1.out f)
            have B2 := Lib.hid (keepB B2.out f)
            have A1 := Lib.hid (blk_all B1.out)
            have A2 := Lib.hid (blk_all B2.out)
            have c10 : W30.cell? ⟨g, 0, none⟩ = some (.int .i64 k1) := B1.out.cell 0
            have c11 : W30.cell? ⟨g, 1, none⟩ = some (.int .i64 n1) := B1.out.cell 1
            have c12 : W30.cell? ⟨g, 2, none⟩ = some (.string (strOf t1)) := B1.out.cell 2
            have c13 : W30.cell? ⟨g, 3, none⟩ = some (.slice Al1 l1.length cl1) := B1.out.cell 3
            have c14 : W30.cell? ⟨g, 4, none⟩ = some (.slice Ak1 ks1.length ck1) := B1.out.cell 4
            have c20 : W30.cell? ⟨(g + 1), 0, none⟩ = some (.int .i64 k2) := B2.out.cell 0
            have c21 : W30.cell? ⟨(g + 1), 1, none⟩ = some (.int .i64 n2) := B2.out.cell 1
            have c22 : W30.cell? ⟨(g + 1), 2, none⟩ = some (.string (strOf t2)) := B2.out.cell 2
            have c23 : W30.cell? ⟨(g + 1), 3, none⟩ = some (.slice Al2 l2.length cl2) := B2.out.cell 3
            have c24 : W30.cell? ⟨(g + 1), 4, none⟩ = some (.slice Ak2 ks2.length ck2) := B2.out.cell 4
            have F : Hid (Fr (fun _ => False) w W30) := Lib.hid (F.out.trans f (fun _ _ h => h))
            clear f
            go_wp2_with (first
              | (refine wpList_load_val rfl 25 _ rfl g _ rfl _ A1.out _ Tryd.underlying25 rfl Z1.out ?_)
              | (refine wpList_load_val rfl 25 _ rfl (g + 1) _ rfl _ A2.out _ Tryd.underlying25 rfl Z2.out ?_))
            refine (awake_c W30 (HL.out.far F.out)).mono ?_
            rintro e W31 ⟨rfl, f⟩
            have F : Hid (Fr (fun _ => False) w W31) := Lib.hid (F.out.trans f (fun _ _ h => h))
            clear f
            go_wp2_with fail
            go_ret
            exact ⟨rfl, F.out⟩
          case inl =>
            obtain ⟨k4, n4, t4, l4, ks4, Al4, cl4, Ak4, ck4, css4, Fs4, e4, rfl, -⟩ := o.inv
            clear hq e4
            have Z4 := Lib.hid (szV o.rd)
            have HO4 := Lib.hid (oneV o.rd)
            have O4 := Lib.hid o.rd.lts
            clear c10 c11 c12 c13 c14 c20 c21 c22 c23 c24
            have B1 := Lib.hid (keepB B1.out f)
            have B2 := Lib.hid (keepB B2.out f)
            have A1 := Lib.hid (blk_all B1.out)
            have A2 := Lib.hid (blk_all B2.out)
            have c10 : Wp.cell? ⟨g, 0, none⟩ = some (.int .i64 k1) := B1.out.cell 0
            have c11 : Wp.cell? ⟨g, 1, none⟩ = some (.int .i64 n1) := B1.out.cell 1
            have c12 : Wp.cell? ⟨g, 2, none⟩ = some (.string (strOf t1)) := B1.out.cell 2
            have c13 : Wp.cell? ⟨g, 3, none⟩ = some (.slice Al1 l1.length cl1) := B1.out.cell 3
            have c14 : Wp.cell? ⟨g, 4, none⟩ = some (.slice Ak1 ks1.length ck1) := B1.out.cell 4
            have c20 : Wp.cell? ⟨(g + 1), 0, none⟩ = some (.int .i64 k2) := B2.out.cell 0
            have c21 : Wp.cell? ⟨(g + 1), 1, none⟩ = some (.int .i64 n2) := B2.out.cell 1
            have c22 : Wp.cell? ⟨(g + 1), 2, none⟩ = some (.string (strOf t2)) := B2.out.cell 2
            have c23 : Wp.cell? ⟨(g + 1), 3, none⟩ = some (.slice Al2 l2.length cl2) := B2.out.cell 3
            have c24 : Wp.cell? ⟨(g + 1), 4, none⟩ = some (.slice Ak2 ks2.length ck2) := B2.out.cell 4
            have F : Hid (Fr (fun _ => False) w Wp) := Lib.hid (F.out.trans f (fun _ _ h => h))
            clear f
            go_upto_region 10 with (
              refine wpList_store_blk rfl 25 _ _ rfl Wp.heap.size (vcs k4 n4 t4 Al4 l4.length cl4 Ak4 ks4.length ck4) rfl rfl (Blk.new Wp 25 _) rfl Z4.out HO4.out ?_
              intro W32 q4 f4
              have f := ((Fr.refl (fun _ => False) Wp).alloc (.cells (vcs 0 0 [] none 0 0 none 0 0) 25)).trans f4 (fun i hi h => by have : i = Wp.heap.size := h; omega)
              have B4 := Lib.hid q4
              clear q4 f4)
            obtain ⟨g4, hg4⟩ : ∃ g4, Wp.heap.size = g4 := ⟨_, rfl⟩
            have O4 := Lib.hid (O4.out.far f)
            rw [hg4] at B4 ⊢
            clear hg4 o
            clear c10 c11 c12 c13 c14 c20 c21 c22 c23 c24
            have B1 := Lib.hid (keepB B1.out f)
            have B2 := Lib.hid (keepB B2.out f)
            have A1 := Lib.hid (blk_all B1.out)
            have A2 := Lib.hid (blk_all B2.out)
            have c10 : W32.cell? ⟨g, 0, none⟩ = some (.int .i64 k1) := B1.out.cell 0
            have c11 : W32.cell? ⟨g, 1, none⟩ = some (.int .i64 n1) := B1.out.cell 1
            have c12 : W32.cell? ⟨g, 2, none⟩ = some (.string (strOf t1)) := B1.out.cell 2
            have c13 : W32.cell? ⟨g, 3, none⟩ = some (.slice Al1 l1.length cl1) := B1.out.cell 3
            have c14 : W32.cell? ⟨g, 4, none⟩ = some (.slice Ak1 ks1.length ck1) := B1.out.cell 4
            have c20 : W32.cell? ⟨(g + 1), 0, none⟩ = some (.int .i64 k2) := B2.out.cell 0
            have c21 : W32.cell? ⟨(g + 1), 1, none⟩ = some (.int .i64 n2) := B2.out.cell 1
            have c22 : W32.cell? ⟨(g + 1), 2, none⟩ = some (.string (strOf t2)) := B2.out.cell 2
            have c23 : W32.cell? ⟨(g + 1), 3, none⟩ = some (.slice Al2 l2.length cl2) := B2.out.cell 3
            have c24 : W32.cell? ⟨(g + 1), 4, none⟩ = some (.slice Ak2 ks2.length ck2) := B2.out.cell 4
            have F : Hid (Fr (fun _ => False) w W32) := Lib.hid (F.out.trans f (fun _ _ h => h))
            clear f
            have A4 := Lib.hid (blk_all B4.out)
            have SV := Lib.hid sm
            obtain ⟨hmv, hpr⟩ := parse_may hpv
            clear sm hpv
            have PV := Lib.hid (print_c v W32 _ _ O4.out SV.out (HL.out.far F.out))
            rw [hmv, if_pos rfl, if_pos rfl, hpr] at PV
            have c40 : W32.cell? ⟨g4, 0, none⟩ = some (.int .i64 k4) := B4.out.cell 0
            have c41 : W32.cell? ⟨g4, 1, none⟩ = some (.int .i64 n4) := B4.out.cell 1
            have c42 : W32.cell? ⟨g4, 2, none⟩ = some (.string (strOf t4)) := B4.out.cell 2
            have c43 : W32.cell? ⟨g4, 3, none⟩ = some (.slice Al4 l4.length cl4) := B4.out.cell 3
            have c44 : W32.cell? ⟨g4, 4, none⟩ = some (.slice Ak4 ks4.length ck4) := B4.out.cell 4
            go_wp2_with (first
              | (refine wpList_load_val rfl 25 _ rfl g _ rfl _ A1.out _ Tryd.underlying25 rfl Z1.out ?_)
              | (refine wpList_load_val rfl 25 _ rfl (g + 1) _ rfl _ A2.out _ Tryd.underlying25 rfl Z2.out ?_)
              | (refine wpList_load_val rfl 25 _ rfl g4 _ rfl _ A4.out _ Tryd.underlying25 rfl Z4.out ?_))
            refine (PV.out).mono ?_
            rintro e W33 ⟨rfl, f⟩
            clear c10 c11 c12 c13 c14 c20 c21 c22 c23 c24 c40 c41 c42 c43 c44
            have B1 := Lib.hid (keepB B1.out f)
            have B2 := Lib.hid (keepB B2.out f)
            have B4 := Lib.hid (keepB B4.out f)
            have A1 := Lib.hid (blk_all B1.out)
            have A2 := Lib.hid (blk_all B2.out)
            have A4 := Lib.hid (blk_all B4.out)
            have c10 : W33.cell? ⟨g, 0, none⟩ = some (.int .i64 k1) := B1.out.cell 0
            have c11 : W33.cell? ⟨g, 1, none⟩ = some (.int .i64 n1) := B1.out.cell 1
            have c12 : W33.cell? ⟨g, 2, none⟩ = some (.string (strOf t1)) := B1.out.cell 2
            have c13 : W33.cell? ⟨g, 3, none⟩ = some (.slice Al1 l1.length cl1) := B1.out.cell 3
            have c14 : W33.cell? ⟨g, 4, none⟩ = some (.slice Ak1 ks1.length ck1) := B1.out.cell 4
            have c20 : W33.cell? ⟨(g + 1), 0, none⟩ = some (.int .i64 k2) := B2.out.cell 0
            have c21 : W33.cell? ⟨(g + 1), 1, none⟩ = some (.int .i64 n2) := B2.out.cell 1
            have c22 : W33.cell? ⟨(g + 1), 2, none⟩ = some (.string (strOf t2)) := B2.out.cell 2
            have c23 : W33.cell? ⟨(g + 1), 3, none⟩ = some (.slice Al2 l2.length cl2) := B2.out.cell 3
            have c24 : W33.cell? ⟨(g + 1), 4, none⟩ = some (.slice Ak2 ks2.length ck2) := B2.out.cell 4
            have c40 : W33.cell? ⟨g4, 0, none⟩ = some (.int .i64 k4) := B4.out.cell 0
            have c41 : W33.cell? ⟨g4, 1, none⟩ = some (.int .i64 n4) := B4.out.cell 1
            have c42 : W33.cell? ⟨g4, 2, none⟩ = some (.string (strOf t4)) := B4.out.cell 2
            have c43 : W33.cell? ⟨g4, 3, none⟩ = some (.slice Al4 l4.length cl4) := B4.out.cell 3
            have c44 : W33.cell? ⟨g4, 4, none⟩ = some (.slice Ak4 ks4.length ck4) := B4.out.cell 4
            have O4 := Lib.hid (O4.out.far f)
            have F : Hid (Fr (fun _ => False) w W33) := Lib.hid (F.out.trans f (fun _ _ h => h))
            clear f
            have hst : ((strOf s).toList == (strOf s).toList) = true := by simp
            have MV := Lib.hid (may_c v W33 _ _ O4.out SV.out (HL.out.far F.out))
            rw [hmv] at MV
            clear PV hpr hmv
            go_wp2_with (first
              | (refine wpList_load_val rfl 25 _ rfl g _ rfl _ A1.out _ Tryd.underlying25 rfl Z1.out ?_)
              | (refine wpList_load_val rfl 25 _ rfl (g + 1) _ rfl _ A2.out _ Tryd.underlying25 rfl Z2.out ?_)
              | (refine wpList_load_val rfl 25 _ rfl g4 _ rfl _ A4.out _ Tryd.underlying25 rfl Z4.out ?_))
            refine (MV.out).mono ?_
            rintro e W34 ⟨rfl, f⟩
            clear c10 c11 c12 c13 c14 c20 c21 c22 c23 c24 c40 c41 c42 c43 c44
            have B1 := Lib.hid (keepB B1.out f)
            have B2 := Lib.hid (keepB B2.out f)
            have B4 := Lib.hid (keepB B4.out f)
            have A1 := Lib.hid (blk_all B1.out)
            have A2 := Lib.hid (blk_all B2.out)
            have A4 := Lib.hid (blk_all B4.out)
            have c10 : W34.cell? ⟨g, 0, none⟩ = some (.int .i64 k1) := B1.out.cell 0
            have c11 : W34.cell? ⟨g, 1, none⟩ = some (.int .i64 n1) := B1.out.cell 1
            have c12 : W34.cell? ⟨g, 2, none⟩ = some (.string (strOf t1)) := B1.out.cell 2
            have c13 : W34.cell? ⟨g, 3, none⟩ = some (.slice Al1 l1.length cl1) := B1.out.cell 3
            have c14 : W34.cell? ⟨g, 4, none⟩ = some (.slice Ak1 ks1.length ck1) := B1.out.cell 4
            have c20 : W34.cell? ⟨(g + 1), 0, none⟩ = some (.int .i64 k2) := B2.out.cell 0
            have c21 : W34.cell? ⟨(g + 1), 1, none⟩ = some (.int .i64 n2) := B2.out.cell 1
            have c22 : W34.cell? ⟨(g + 1), 2, none⟩ = some (.string (strOf t2)) := B2.out.cell 2
            have c23 : W34.cell? ⟨(g + 1), 3, none⟩ = some (.slice Al2 l2.length cl2) := B2.out.cell 3
            have c24 : W34.cell? ⟨(g + 1), 4, none⟩ = some (.slice Ak2 ks2.length ck2) := B2.out.cell 4
            have c40 : W34.cell? ⟨g4, 0, none⟩ = some (.int .i64 k4) := B4.out.cell 0
            have c41 : W34.cell? ⟨g4, 1, none⟩ = some (.int .i64 n4) := B4.out.cell 1
            have c42 : W34.cell? ⟨g4, 2, none⟩ = some (.string (strOf t4)) := B4.out.cell 2
            have c43 : W34.cell? ⟨g4, 3, none⟩ = some (.slice Al4 l4.length cl4) := B4.out.cell 3
            have c44 : W34.cell? ⟨g4, 4, none⟩ = some (.slice Ak4 ks4.length ck4) := B4.out.cell 4
            have O4 := Lib.hid (O4.out.far f)
            have F : Hid (Fr (fun _ => False) w W34) := Lib.hid (F.out.trans f (fun _ _ h => h))
            clear f
            go_wp2_with (first
              | (refine wpList_load_val rfl 25 _ rfl g _ rfl _ A1.out _ Tryd.underlying25 rfl Z1.out ?_)
              | (refine wpList_load_val rfl 25 _ rfl (g + 1) _ rfl _ A2.out _ Tryd.underlying25 rfl Z2.out ?_)
              | (refine wpList_load_val rfl 25 _ rfl g4 _ rfl _ A4.out _ Tryd.underlying25 rfl Z4.out ?_))
            refine (awake_c W34 (HL.out.far F.out)).mono ?_
            rintro e W35 ⟨rfl, f⟩
            have F : Hid (Fr (fun _ => False) w W35) := Lib.hid (F.out.trans f (fun _ _ h => h))
            clear f
            go_wp2_with fail
            go_ret
            exact ⟨rfl, F.out⟩
end Go.Proofs.YtnkfkicabgajmaaDoor
