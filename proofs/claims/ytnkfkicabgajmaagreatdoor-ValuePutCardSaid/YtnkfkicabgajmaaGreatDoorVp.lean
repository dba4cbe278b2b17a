/-
  THE LAW ValuePut, WALKED. Written by gen_vp.py.
-/
import Derived.Test.YtnkfkicabgajmaaGreatDoorSmm
import Derived.Test.YtnkfkicabgajmaaGreatDoorRs
import Derived.Test.YtnkfkicabgajmaaGreatDoorRp
import Derived.Test.YtnkfkicabgajmaaGreatDoorAw
import Derived.Test.YtnkfkicabgajmaaGreatDoorLong
import Derived.Test.YtnkfkicabgajmaaGreatDoorSm
import Derived.Deep.RegionHeld3
namespace Go.Proofs.YtnkfkicabgajmaaGreatDoor
set_option linter.unusedSimpArgs false
set_option linter.unusedVariables false
open Go Go.RowKit

set_option maxRecDepth 100000 in
set_option maxHeartbeats 8000000 in
theorem valuePut_c (w : World) (key other : List UInt8) {D1 D2 D3 : Nat → Prop} {C1 C2 C3 : Array Value} {a b c : V} (r1 : RdV D1 w C1 a) (r2 : RdV D2 w C2 b) (r3 : RdV D3 w C3 c) (hL : LaidOk w) (hk1 : key.length ≤ 140737488355328) (hk2 : other.length ≤ 140737488355328) :
    Calls Tryz.prog 6 #[.agg C1, .agg C2, .agg C3, .string (strOf key), .string (strOf other)] w fun e w' => e = .returned (.bool true) ∧ Fr (fun _ => False) w w' := by
  have R1 := Lib.hid r1
  have R2 := Lib.hid r2
  have R3 := Lib.hid r3
  obtain ⟨k1, n1, t1, l1, ks1, Al1, cl1, Ak1, ck1, css1, ea1, rfl, -⟩ := r1.inv
  obtain ⟨k2, n2, t2, l2, ks2, Al2, cl2, Ak2, ck2, css2, ea2, rfl, -⟩ := r2.inv
  obtain ⟨k3, n3, t3, l3, ks3, Al3, cl3, Ak3, ck3, css3, ea3, rfl, -⟩ := r3.inv
  clear ea1 ea2 ea3
  have Z1 := Lib.hid (szV r1)
  have Z2 := Lib.hid (szV r2)
  have Z3 := Lib.hid (szV r3)
  have HL := Lib.hid hL
  have hsk := strOf_size key
  have hso := strOf_size other
  obtain ⟨g, hg⟩ : ∃ g, w.heap.size = g := ⟨_, rfl⟩
  have HG := Lib.hid hg
  clear hL r1 r2 r3 hg
  go_enter Tryz.func6, Tryz.ntmps6
  go_upto_region 1 with fail
  refine abs_world (fun W => Hid (Blk W w.heap.size 25 (vcs k1 n1 t1 Al1 l1.length cl1 Ak1 ks1.length ck1)) ∧ Hid (Blk W (w.heap.size + 1) 25 (vcs k2 n2 t2 Al2 l2.length cl2 Ak2 ks2.length ck2)) ∧ Hid (Blk W (w.heap.size + 1 + 1) 25 (vcs k3 n3 t3 Al3 l3.length cl3 Ak3 ks3.length ck3)) ∧ Hid (Fr (fun _ => False) w W)) ⟨((Blk.new w _ _).alloc _).alloc _, (Blk.new1 w _ _ _).alloc _, Blk.new2 w _ _ _ _, (((Fr.refl _ w).alloc _).alloc _).alloc _⟩ ?_
  rintro W0 ⟨B1, B2, B3, F⟩
  rw [HG.out] at B1 B2 B3 ⊢
  have A1 := Lib.hid (blk_all B1.out)
  have A2 := Lib.hid (blk_all B2.out)
  have A3 := Lib.hid (blk_all B3.out)
  have CL := Lib.hid (Long_c a W0 _ _ (R1.out.far F.out))
  cases hLa : decide (4000 < partsV a 20) with
  | true =>
    rw [hLa] at CL
    go_wp2_with (first
      | (refine wpList_load_val rfl 25 _ rfl g _ rfl _ A1.out _ Tryz.underlying25 rfl Z1.out ?_)
      | (refine wpList_load_valg 25 _ rfl ?_ g _ rfl _ A1.out _ Tryz.underlying25 rfl Z1.out ?_; · kernel_rfl)
      | (refine wpList_load_val rfl 25 _ rfl (g + 1) _ rfl _ A2.out _ Tryz.underlying25 rfl Z2.out ?_)
      | (refine wpList_load_valg 25 _ rfl ?_ (g + 1) _ rfl _ A2.out _ Tryz.underlying25 rfl Z2.out ?_; · kernel_rfl)
      | (refine wpList_load_val rfl 25 _ rfl (g + 1 + 1) _ rfl _ A3.out _ Tryz.underlying25 rfl Z3.out ?_)
      | (refine wpList_load_valg 25 _ rfl ?_ (g + 1 + 1) _ rfl _ A3.out _ Tryz.underlying25 rfl Z3.out ?_; · kernel_rfl))
    refine CL.out.mono ?_
    rintro e W1 ⟨rfl, f⟩
    replace B1 := Lib.hid (keepB B1.out f)
    replace A1 := Lib.hid (blk_all B1.out)
    replace B2 := Lib.hid (keepB B2.out f)
    replace A2 := Lib.hid (blk_all B2.out)
    replace B3 := Lib.hid (keepB B3.out f)
    replace A3 := Lib.hid (blk_all B3.out)
    have F : Hid (Fr (fun _ => False) w W1) := Lib.hid (F.out.trans f (fun _ _ h => h))
    clear f
    clear CL
    go_wp2_with fail
    refine (awake_c _ (HL.out.far F.out)).mono ?_
    rintro e X1 ⟨rfl, f⟩
    have F : Hid (Fr (fun _ => False) w X1) := Lib.hid (F.out.trans f (fun _ _ h => h))
    clear f
    go_wp2_with fail
    go_ret
    exact ⟨rfl, F.out⟩
  | false =>
    rw [hLa] at CL
    go_wp2_with (first
      | (refine wpList_load_val rfl 25 _ rfl g _ rfl _ A1.out _ Tryz.underlying25 rfl Z1.out ?_)
      | (refine wpList_load_valg 25 _ rfl ?_ g _ rfl _ A1.out _ Tryz.underlying25 rfl Z1.out ?_; · kernel_rfl)
      | (refine wpList_load_val rfl 25 _ rfl (g + 1) _ rfl _ A2.out _ Tryz.underlying25 rfl Z2.out ?_)
      | (refine wpList_load_valg 25 _ rfl ?_ (g + 1) _ rfl _ A2.out _ Tryz.underlying25 rfl Z2.out ?_; · kernel_rfl)
      | (refine wpList_load_val rfl 25 _ rfl (g + 1 + 1) _ rfl _ A3.out _ Tryz.underlying25 rfl Z3.out ?_)
      | (refine wpList_load_valg 25 _ rfl ?_ (g + 1 + 1) _ rfl _ A3.out _ Tryz.underlying25 rfl Z3.out ?_; · kernel_rfl))
    refine CL.out.mono ?_
    rintro e W1 ⟨rfl, f⟩
    replace B1 := Lib.hid (keepB B1.out f)
    replace A1 := Lib.hid (blk_all B1.out)
    replace B2 := Lib.hid (keepB B2.out f)
    replace A2 := Lib.hid (blk_all B2.out)
    replace B3 := Lib.hid (keepB B3.out f)
    replace A3 := Lib.hid (blk_all B3.out)
    have F : Hid (Fr (fun _ => False) w W1) := Lib.hid (F.out.trans f (fun _ _ h => h))
    clear f
    clear CL
    have CL := Lib.hid (Long_c b W1 _ _ (R2.out.far F.out))
    cases hLb : decide (4000 < partsV b 20) with
    | true =>
      rw [hLb] at CL
      go_wp2_with (first
        | (refine wpList_load_val rfl 25 _ rfl g _ rfl _ A1.out _ Tryz.underlying25 rfl Z1.out ?_)
        | (refine wpList_load_valg 25 _ rfl ?_ g _ rfl _ A1.out _ Tryz.underlying25 rfl Z1.out ?_; · kernel_rfl)
        | (refine wpList_load_val rfl 25 _ rfl (g + 1) _ rfl _ A2.out _ Tryz.underlying25 rfl Z2.out ?_)
        | (refine wpList_load_valg 25 _ rfl ?_ (g + 1) _ rfl _ A2.out _ Tryz.underlying25 rfl Z2.out ?_; · kernel_rfl)
        | (refine wpList_load_val rfl 25 _ rfl (g + 1 + 1) _ rfl _ A3.out _ Tryz.underlying25 rfl Z3.out ?_)
        | (refine wpList_load_valg 25 _ rfl ?_ (g + 1 + 1) _ rfl _ A3.out _ Tryz.underlying25 rfl Z3.out ?_; · kernel_rfl))
      refine CL.out.mono ?_
      rintro e W2 ⟨rfl, f⟩
      replace B1 := Lib.hid (keepB B1.out f)
      replace A1 := Lib.hid (blk_all B1.out)
      replace B2 := Lib.hid (keepB B2.out f)
      replace A2 := Lib.hid (blk_all B2.out)
      replace B3 := Lib.hid (keepB B3.out f)
      replace A3 := Lib.hid (blk_all B3.out)
      have F : Hid (Fr (fun _ => False) w W2) := Lib.hid (F.out.trans f (fun _ _ h => h))
      clear f
      clear CL
      go_wp2_with fail
      refine (awake_c _ (HL.out.far F.out)).mono ?_
      rintro e X2 ⟨rfl, f⟩
      have F : Hid (Fr (fun _ => False) w X2) := Lib.hid (F.out.trans f (fun _ _ h => h))
      clear f
      go_wp2_with fail
      go_ret
      exact ⟨rfl, F.out⟩
    | false =>
      rw [hLb] at CL
      go_wp2_with (first
        | (refine wpList_load_val rfl 25 _ rfl g _ rfl _ A1.out _ Tryz.underlying25 rfl Z1.out ?_)
        | (refine wpList_load_valg 25 _ rfl ?_ g _ rfl _ A1.out _ Tryz.underlying25 rfl Z1.out ?_; · kernel_rfl)
        | (refine wpList_load_val rfl 25 _ rfl (g + 1) _ rfl _ A2.out _ Tryz.underlying25 rfl Z2.out ?_)
        | (refine wpList_load_valg 25 _ rfl ?_ (g + 1) _ rfl _ A2.out _ Tryz.underlying25 rfl Z2.out ?_; · kernel_rfl)
        | (refine wpList_load_val rfl 25 _ rfl (g + 1 + 1) _ rfl _ A3.out _ Tryz.underlying25 rfl Z3.out ?_)
        | (refine wpList_load_valg 25 _ rfl ?_ (g + 1 + 1) _ rfl _ A3.out _ Tryz.underlying25 rfl Z3.out ?_; · kernel_rfl))
      refine CL.out.mono ?_
      rintro e W2 ⟨rfl, f⟩
      replace B1 := Lib.hid (keepB B1.out f)
      replace A1 := Lib.hid (blk_all B1.out)
      replace B2 := Lib.hid (keepB B2.out f)
      replace A2 := Lib.hid (blk_all B2.out)
      replace B3 := Lib.hid (keepB B3.out f)
      replace A3 := Lib.hid (blk_all B3.out)
      have F : Hid (Fr (fun _ => False) w W2) := Lib.hid (F.out.trans f (fun _ _ h => h))
      clear f
      clear CL
      have CL := Lib.hid (Long_c c W2 _ _ (R3.out.far F.out))
      cases hLc : decide (4000 < partsV c 20) with
      | true =>
        rw [hLc] at CL
        go_wp2_with (first
          | (refine wpList_load_val rfl 25 _ rfl g _ rfl _ A1.out _ Tryz.underlying25 rfl Z1.out ?_)
          | (refine wpList_load_valg 25 _ rfl ?_ g _ rfl _ A1.out _ Tryz.underlying25 rfl Z1.out ?_; · kernel_rfl)
          | (refine wpList_load_val rfl 25 _ rfl (g + 1) _ rfl _ A2.out _ Tryz.underlying25 rfl Z2.out ?_)
          | (refine wpList_load_valg 25 _ rfl ?_ (g + 1) _ rfl _ A2.out _ Tryz.underlying25 rfl Z2.out ?_; · kernel_rfl)
          | (refine wpList_load_val rfl 25 _ rfl (g + 1 + 1) _ rfl _ A3.out _ Tryz.underlying25 rfl Z3.out ?_)
          | (refine wpList_load_valg 25 _ rfl ?_ (g + 1 + 1) _ rfl _ A3.out _ Tryz.underlying25 rfl Z3.out ?_; · kernel_rfl))
        refine CL.out.mono ?_
        rintro e W3 ⟨rfl, f⟩
        replace B1 := Lib.hid (keepB B1.out f)
        replace A1 := Lib.hid (blk_all B1.out)
        replace B2 := Lib.hid (keepB B2.out f)
        replace A2 := Lib.hid (blk_all B2.out)
        replace B3 := Lib.hid (keepB B3.out f)
        replace A3 := Lib.hid (blk_all B3.out)
        have F : Hid (Fr (fun _ => False) w W3) := Lib.hid (F.out.trans f (fun _ _ h => h))
        clear f
        clear CL
        go_wp2_with fail
        refine (awake_c _ (HL.out.far F.out)).mono ?_
        rintro e X3 ⟨rfl, f⟩
        have F : Hid (Fr (fun _ => False) w X3) := Lib.hid (F.out.trans f (fun _ _ h => h))
        clear f
        go_wp2_with fail
        go_ret
        exact ⟨rfl, F.out⟩
      | false =>
        rw [hLc] at CL
        go_wp2_with (first
          | (refine wpList_load_val rfl 25 _ rfl g _ rfl _ A1.out _ Tryz.underlying25 rfl Z1.out ?_)
          | (refine wpList_load_valg 25 _ rfl ?_ g _ rfl _ A1.out _ Tryz.underlying25 rfl Z1.out ?_; · kernel_rfl)
          | (refine wpList_load_val rfl 25 _ rfl (g + 1) _ rfl _ A2.out _ Tryz.underlying25 rfl Z2.out ?_)
          | (refine wpList_load_valg 25 _ rfl ?_ (g + 1) _ rfl _ A2.out _ Tryz.underlying25 rfl Z2.out ?_; · kernel_rfl)
          | (refine wpList_load_val rfl 25 _ rfl (g + 1 + 1) _ rfl _ A3.out _ Tryz.underlying25 rfl Z3.out ?_)
          | (refine wpList_load_valg 25 _ rfl ?_ (g + 1 + 1) _ rfl _ A3.out _ Tryz.underlying25 rfl Z3.out ?_; · kernel_rfl))
        refine CL.out.mono ?_
        rintro e W3 ⟨rfl, f⟩
        replace B1 := Lib.hid (keepB B1.out f)
        replace A1 := Lib.hid (blk_all B1.out)
        replace B2 := Lib.hid (keepB B2.out f)
        replace A2 := Lib.hid (blk_all B2.out)
        replace B3 := Lib.hid (keepB B3.out f)
        replace A3 := Lib.hid (blk_all B3.out)
        have F : Hid (Fr (fun _ => False) w W3) := Lib.hid (F.out.trans f (fun _ _ h => h))
        clear f
        clear CL
        by_cases hkl : key.length ≤ 300
        case neg =>
          have d1 : decide (300 < (key.length : Int)) = true := decide_eq_true (by omega)
          have d1' : decide (300 < key.length) = true := decide_eq_true (by omega)
          clear hkl hLa hLb hLc
          go_wp2_with fail
          refine (awake_c _ (HL.out.far F.out)).mono ?_
          rintro e X3 ⟨rfl, f⟩
          have F : Hid (Fr (fun _ => False) w X3) := Lib.hid (F.out.trans f (fun _ _ h => h))
          clear f
          go_wp2_with fail
          go_ret
          exact ⟨rfl, F.out⟩
        by_cases hol : other.length ≤ 300
        case neg =>
          have d0 : decide (300 < (key.length : Int)) = false := decide_eq_false (by omega)
          have d0' : decide (300 < key.length) = false := decide_eq_false (by omega)
          have d1 : decide (300 < (other.length : Int)) = true := decide_eq_true (by omega)
          have d1' : decide (300 < other.length) = true := decide_eq_true (by omega)
          clear hkl hol hLa hLb hLc
          go_wp2_with fail
          refine (awake_c _ (HL.out.far F.out)).mono ?_
          rintro e X3 ⟨rfl, f⟩
          have F : Hid (Fr (fun _ => False) w X3) := Lib.hid (F.out.trans f (fun _ _ h => h))
          clear f
          go_wp2_with fail
          go_ret
          exact ⟨rfl, F.out⟩
        have d0 : decide (300 < (key.length : Int)) = false := decide_eq_false (by omega)
        have d0' : decide (300 < key.length) = false := decide_eq_false (by omega)
        have d1 : decide (300 < (other.length : Int)) = false := decide_eq_false (by omega)
        have d1' : decide (300 < other.length) = false := decide_eq_false (by omega)
        have SMa := Lib.hid (sm_of_not_long hLa)
        have SMb := Lib.hid (sm_of_not_long hLb)
        have HKL := Lib.hid (show key.length ≤ 1000000 by omega)
        have HOL := Lib.hid (show other.length ≤ 1000000 by omega)
        clear hkl hol hLa hLb hLc
        have CL := Lib.hid (put_c a b W3 (R1.out.far F.out) (R2.out.far F.out) SMa.out SMb.out (HL.out.far F.out) key HKL.out)
        go_wp2_with (first
          | (refine wpList_load_val rfl 25 _ rfl g _ rfl _ A1.out _ Tryz.underlying25 rfl Z1.out ?_)
          | (refine wpList_load_valg 25 _ rfl ?_ g _ rfl _ A1.out _ Tryz.underlying25 rfl Z1.out ?_; · kernel_rfl)
          | (refine wpList_load_val rfl 25 _ rfl (g + 1) _ rfl _ A2.out _ Tryz.underlying25 rfl Z2.out ?_)
          | (refine wpList_load_valg 25 _ rfl ?_ (g + 1) _ rfl _ A2.out _ Tryz.underlying25 rfl Z2.out ?_; · kernel_rfl)
          | (refine wpList_load_val rfl 25 _ rfl (g + 1 + 1) _ rfl _ A3.out _ Tryz.underlying25 rfl Z3.out ?_)
          | (refine wpList_load_valg 25 _ rfl ?_ (g + 1 + 1) _ rfl _ A3.out _ Tryz.underlying25 rfl Z3.out ?_; · kernel_rfl))
        refine CL.out.mono ?_
        rintro e W4 ⟨C4, rfl, o, f⟩
        replace B1 := Lib.hid (keepB B1.out f)
        replace A1 := Lib.hid (blk_all B1.out)
        replace B2 := Lib.hid (keepB B2.out f)
        replace A2 := Lib.hid (blk_all B2.out)
        replace B3 := Lib.hid (keepB B3.out f)
        replace A3 := Lib.hid (blk_all B3.out)
        have F : Hid (Fr (fun _ => False) w W4) := Lib.hid (F.out.trans f (fun _ _ h => h))
        clear f
        clear CL d0 d0' d1 d1'
        cases hp : putO a key b with
        | none =>
          rw [hp] at o
          obtain ⟨k4, n4, t4, l4, ks4, Al4, cl4, Ak4, ck4, -, -, ea, rfl, -, -, -, -⟩ := o.inv
          have R4 := Lib.hid o.rd
          clear ea o
          have hcode : (if (none : Option V).isSome then (0 : Int) else 1) = 1 := rfl
          rw [hcode]
          clear hcode hp
          go_upto_region 4 with fail
          obtain ⟨Y4, hY4⟩ : ∃ Y : Nat → Prop, Hid (RdV Y W4 (vcs k4 n4 t4 Al4 l4.length cl4 Ak4 ks4.length ck4) V.zero) := ⟨_, R4⟩
          refine abs_world (fun W => Hid (Blk W g 25 (vcs k1 n1 t1 Al1 l1.length cl1 Ak1 ks1.length ck1)) ∧ Hid (Blk W (g + 1) 25 (vcs k2 n2 t2 Al2 l2.length cl2 Ak2 ks2.length ck2)) ∧ Hid (Blk W (g + 1 + 1) 25 (vcs k3 n3 t3 Al3 l3.length cl3 Ak3 ks3.length ck3)) ∧ Hid (Blk W W4.heap.size 25 (vcs k4 n4 t4 Al4 l4.length cl4 Ak4 ks4.length ck4)) ∧ Hid (RdV Y4 W (vcs k4 n4 t4 Al4 l4.length cl4 Ak4 ks4.length ck4) V.zero) ∧ Hid (Fr (fun _ => False) w W)) ⟨B1.out.alloc _, B2.out.alloc _, B3.out.alloc _, Blk.new W4 _ _, hY4.out.far ((Fr.refl _ _).alloc _), F.out.alloc _⟩ ?_
          clear hY4 R4
          rintro W5 ⟨B1, B2, B3, B4, R4, F⟩
          obtain ⟨ga, hga⟩ : ∃ b, W4.heap.size = b := ⟨_, rfl⟩
          rw [hga] at B4 ⊢
          clear hga
          replace A1 := Lib.hid (blk_all B1.out)
          replace A2 := Lib.hid (blk_all B2.out)
          replace A3 := Lib.hid (blk_all B3.out)
          have A4 := Lib.hid (blk_all B4.out)
          have Z4 := Lib.hid (show (Tryz.prog.info? 25).map (·.size) = some (vcs k4 n4 t4 Al4 l4.length cl4 Ak4 ks4.length ck4).size from lw5)
          have RZ := Lib.hid (RdV.zero (fun _ => True) W5)
          have CL := Lib.hid (rsame_c V.zero V.zero W5 _ _ _ _ R4.out RZ.out)
          rw [show eqv V.zero V.zero = true from (eqv_iff _ _).2 rfl] at CL
          go_wp2_with (first
            | (refine wpList_load_val rfl 25 _ rfl g _ rfl _ A1.out _ Tryz.underlying25 rfl Z1.out ?_)
            | (refine wpList_load_valg 25 _ rfl ?_ g _ rfl _ A1.out _ Tryz.underlying25 rfl Z1.out ?_; · kernel_rfl)
            | (refine wpList_load_val rfl 25 _ rfl (g + 1) _ rfl _ A2.out _ Tryz.underlying25 rfl Z2.out ?_)
            | (refine wpList_load_valg 25 _ rfl ?_ (g + 1) _ rfl _ A2.out _ Tryz.underlying25 rfl Z2.out ?_; · kernel_rfl)
            | (refine wpList_load_val rfl 25 _ rfl (g + 1 + 1) _ rfl _ A3.out _ Tryz.underlying25 rfl Z3.out ?_)
            | (refine wpList_load_valg 25 _ rfl ?_ (g + 1 + 1) _ rfl _ A3.out _ Tryz.underlying25 rfl Z3.out ?_; · kernel_rfl)
            | (refine wpList_load_val rfl 25 _ rfl ga _ rfl _ A4.out _ Tryz.underlying25 rfl Z4.out ?_)
            | (refine wpList_load_valg 25 _ rfl ?_ ga _ rfl _ A4.out _ Tryz.underlying25 rfl Z4.out ?_; · kernel_rfl))
          refine CL.out.mono ?_
          rintro e W6 ⟨rfl, f⟩
          replace R4 := Lib.hid (R4.out.far f)
          replace B1 := Lib.hid (keepB B1.out f)
          replace A1 := Lib.hid (blk_all B1.out)
          replace B2 := Lib.hid (keepB B2.out f)
          replace A2 := Lib.hid (blk_all B2.out)
          replace B3 := Lib.hid (keepB B3.out f)
          replace A3 := Lib.hid (blk_all B3.out)
          replace B4 := Lib.hid (keepB B4.out f)
          replace A4 := Lib.hid (blk_all B4.out)
          have F : Hid (Fr (fun _ => False) w W6) := Lib.hid (F.out.trans f (fun _ _ h => h))
          clear f
          clear CL
          go_wp2_with fail
          refine (awake_c _ (HL.out.far F.out)).mono ?_
          rintro e X6 ⟨rfl, f⟩
          have F : Hid (Fr (fun _ => False) w X6) := Lib.hid (F.out.trans f (fun _ _ h => h))
          clear f
          go_wp2_with fail
          go_ret
          exact ⟨rfl, F.out⟩
        | some o1 =>
          have HTW := Lib.hid (put_twice hp)
          have HLK := Lib.hid (put_look hp)
          have HSO := Lib.hid (putO_some hp)
          have SMo := Lib.hid (sm_of_may (putO_some hp).2.2.2.1)
          rw [hp] at o
          obtain ⟨k4, n4, t4, l4, ks4, Al4, cl4, Ak4, ck4, -, -, ea, rfl, -, -, -, -⟩ := o.inv
          have R4 := Lib.hid o.rd
          clear ea o
          have hcode : (if (some o1 : Option V).isSome then (0 : Int) else 1) = 0 := rfl
          rw [hcode]
          clear hcode hp
          go_upto_region 4 with fail
          obtain ⟨Y4, hY4⟩ : ∃ Y : Nat → Prop, Hid (RdV Y W4 (vcs k4 n4 t4 Al4 l4.length cl4 Ak4 ks4.length ck4) o1) := ⟨_, R4⟩
          refine abs_world (fun W => Hid (Blk W g 25 (vcs k1 n1 t1 Al1 l1.length cl1 Ak1 ks1.length ck1)) ∧ Hid (Blk W (g + 1) 25 (vcs k2 n2 t2 Al2 l2.length cl2 Ak2 ks2.length ck2)) ∧ Hid (Blk W (g + 1 + 1) 25 (vcs k3 n3 t3 Al3 l3.length cl3 Ak3 ks3.length ck3)) ∧ Hid (Blk W W4.heap.size 25 (vcs k4 n4 t4 Al4 l4.length cl4 Ak4 ks4.length ck4)) ∧ Hid (RdV Y4 W (vcs k4 n4 t4 Al4 l4.length cl4 Ak4 ks4.length ck4) o1) ∧ Hid (Fr (fun _ => False) w W)) ⟨B1.out.alloc _, B2.out.alloc _, B3.out.alloc _, Blk.new W4 _ _, hY4.out.far ((Fr.refl _ _).alloc _), F.out.alloc _⟩ ?_
          clear hY4 R4
          rintro W7 ⟨B1, B2, B3, B4, R4, F⟩
          obtain ⟨ga, hga⟩ : ∃ b, W4.heap.size = b := ⟨_, rfl⟩
          rw [hga] at B4 ⊢
          clear hga
          replace A1 := Lib.hid (blk_all B1.out)
          replace A2 := Lib.hid (blk_all B2.out)
          replace A3 := Lib.hid (blk_all B3.out)
          have A4 := Lib.hid (blk_all B4.out)
          have Z4 := Lib.hid (show (Tryz.prog.info? 25).map (·.size) = some (vcs k4 n4 t4 Al4 l4.length cl4 Ak4 ks4.length ck4).size from lw5)
          have CL := Lib.hid (put_c o1 b W7 R4.out (R2.out.far F.out) SMo.out SMb.out (HL.out.far F.out) key HKL.out)
          go_wp2_with (first
            | (refine wpList_load_val rfl 25 _ rfl g _ rfl _ A1.out _ Tryz.underlying25 rfl Z1.out ?_)
            | (refine wpList_load_valg 25 _ rfl ?_ g _ rfl _ A1.out _ Tryz.underlying25 rfl Z1.out ?_; · kernel_rfl)
            | (refine wpList_load_val rfl 25 _ rfl (g + 1) _ rfl _ A2.out _ Tryz.underlying25 rfl Z2.out ?_)
            | (refine wpList_load_valg 25 _ rfl ?_ (g + 1) _ rfl _ A2.out _ Tryz.underlying25 rfl Z2.out ?_; · kernel_rfl)
            | (refine wpList_load_val rfl 25 _ rfl (g + 1 + 1) _ rfl _ A3.out _ Tryz.underlying25 rfl Z3.out ?_)
            | (refine wpList_load_valg 25 _ rfl ?_ (g + 1 + 1) _ rfl _ A3.out _ Tryz.underlying25 rfl Z3.out ?_; · kernel_rfl)
            | (refine wpList_load_val rfl 25 _ rfl ga _ rfl _ A4.out _ Tryz.underlying25 rfl Z4.out ?_)
            | (refine wpList_load_valg 25 _ rfl ?_ ga _ rfl _ A4.out _ Tryz.underlying25 rfl Z4.out ?_; · kernel_rfl))
          refine CL.out.mono ?_
          rintro e W8 ⟨C5, rfl, o, f⟩
          replace R4 := Lib.hid (R4.out.far f)
          replace B1 := Lib.hid (keepB B1.out f)
          replace A1 := Lib.hid (blk_all B1.out)
          replace B2 := Lib.hid (keepB B2.out f)
          replace A2 := Lib.hid (blk_all B2.out)
          replace B3 := Lib.hid (keepB B3.out f)
          replace A3 := Lib.hid (blk_all B3.out)
          replace B4 := Lib.hid (keepB B4.out f)
          replace A4 := Lib.hid (blk_all B4.out)
          have F : Hid (Fr (fun _ => False) w W8) := Lib.hid (F.out.trans f (fun _ _ h => h))
          clear f
          clear CL
          rw [HTW.out] at o
          obtain ⟨k5, n5, t5, l5, ks5, Al5, cl5, Ak5, ck5, -, -, ea, rfl, -, -, -, -⟩ := o.inv
          have R5 := Lib.hid o.rd
          clear ea o
          have hcode : (if (some o1 : Option V).isSome then (0 : Int) else 1) = 0 := rfl
          rw [HTW.out, hcode]
          clear hcode HTW
          go_upto_region 7 with fail
          obtain ⟨Y4, hY4⟩ : ∃ Y : Nat → Prop, Hid (RdV Y W8 (vcs k4 n4 t4 Al4 l4.length cl4 Ak4 ks4.length ck4) o1) := ⟨_, R4⟩; obtain ⟨Y5, hY5⟩ : ∃ Y : Nat → Prop, Hid (RdV Y W8 (vcs k5 n5 t5 Al5 l5.length cl5 Ak5 ks5.length ck5) o1) := ⟨_, R5⟩
          refine abs_world (fun W => Hid (Blk W g 25 (vcs k1 n1 t1 Al1 l1.length cl1 Ak1 ks1.length ck1)) ∧ Hid (Blk W (g + 1) 25 (vcs k2 n2 t2 Al2 l2.length cl2 Ak2 ks2.length ck2)) ∧ Hid (Blk W (g + 1 + 1) 25 (vcs k3 n3 t3 Al3 l3.length cl3 Ak3 ks3.length ck3)) ∧ Hid (Blk W ga 25 (vcs k4 n4 t4 Al4 l4.length cl4 Ak4 ks4.length ck4)) ∧ Hid (Blk W W8.heap.size 25 (vcs k5 n5 t5 Al5 l5.length cl5 Ak5 ks5.length ck5)) ∧ Hid (RdV Y4 W (vcs k4 n4 t4 Al4 l4.length cl4 Ak4 ks4.length ck4) o1) ∧ Hid (RdV Y5 W (vcs k5 n5 t5 Al5 l5.length cl5 Ak5 ks5.length ck5) o1) ∧ Hid (Fr (fun _ => False) w W)) ⟨B1.out.alloc _, B2.out.alloc _, B3.out.alloc _, B4.out.alloc _, Blk.new W8 _ _, hY4.out.far ((Fr.refl _ _).alloc _), hY5.out.far ((Fr.refl _ _).alloc _), F.out.alloc _⟩ ?_
          clear hY4 hY5 R4 R5
          rintro W9 ⟨B1, B2, B3, B4, B5, R4, R5, F⟩
          obtain ⟨gb, hgb⟩ : ∃ b, W8.heap.size = b := ⟨_, rfl⟩
          rw [hgb] at B5 ⊢
          clear hgb
          replace A1 := Lib.hid (blk_all B1.out)
          replace A2 := Lib.hid (blk_all B2.out)
          replace A3 := Lib.hid (blk_all B3.out)
          replace A4 := Lib.hid (blk_all B4.out)
          have A5 := Lib.hid (blk_all B5.out)
          have Z5 := Lib.hid (show (Tryz.prog.info? 25).map (·.size) = some (vcs k5 n5 t5 Al5 l5.length cl5 Ak5 ks5.length ck5).size from lw5)
          have hat : atO o1 key = (some b, 0) := by
            rw [at_obj HSO.out.2.2.2.1 (by rw [← HSO.out.2.2.2.2, put_k]; exact HSO.out.1) HLK.out.1, HLK.out.2.1]
          have CL := Lib.hid (at_c o1 W9 R4.out SMo.out (HL.out.far F.out) key HKL.out)
          go_wp2_with (first
            | (refine wpList_load_val rfl 25 _ rfl g _ rfl _ A1.out _ Tryz.underlying25 rfl Z1.out ?_)
            | (refine wpList_load_valg 25 _ rfl ?_ g _ rfl _ A1.out _ Tryz.underlying25 rfl Z1.out ?_; · kernel_rfl)
            | (refine wpList_load_val rfl 25 _ rfl (g + 1) _ rfl _ A2.out _ Tryz.underlying25 rfl Z2.out ?_)
            | (refine wpList_load_valg 25 _ rfl ?_ (g + 1) _ rfl _ A2.out _ Tryz.underlying25 rfl Z2.out ?_; · kernel_rfl)
            | (refine wpList_load_val rfl 25 _ rfl (g + 1 + 1) _ rfl _ A3.out _ Tryz.underlying25 rfl Z3.out ?_)
            | (refine wpList_load_valg 25 _ rfl ?_ (g + 1 + 1) _ rfl _ A3.out _ Tryz.underlying25 rfl Z3.out ?_; · kernel_rfl)
            | (refine wpList_load_val rfl 25 _ rfl ga _ rfl _ A4.out _ Tryz.underlying25 rfl Z4.out ?_)
            | (refine wpList_load_valg 25 _ rfl ?_ ga _ rfl _ A4.out _ Tryz.underlying25 rfl Z4.out ?_; · kernel_rfl)
            | (refine wpList_load_val rfl 25 _ rfl gb _ rfl _ A5.out _ Tryz.underlying25 rfl Z5.out ?_)
            | (refine wpList_load_valg 25 _ rfl ?_ gb _ rfl _ A5.out _ Tryz.underlying25 rfl Z5.out ?_; · kernel_rfl))
          refine CL.out.mono ?_
          rintro e W10 ⟨C6, rfl, o, f⟩
          replace R4 := Lib.hid (R4.out.far f)
          replace R5 := Lib.hid (R5.out.far f)
          replace B1 := Lib.hid (keepB B1.out f)
          replace A1 := Lib.hid (blk_all B1.out)
          replace B2 := Lib.hid (keepB B2.out f)
          replace A2 := Lib.hid (blk_all B2.out)
          replace B3 := Lib.hid (keepB B3.out f)
          replace A3 := Lib.hid (blk_all B3.out)
          replace B4 := Lib.hid (keepB B4.out f)
          replace A4 := Lib.hid (blk_all B4.out)
          replace B5 := Lib.hid (keepB B5.out f)
          replace A5 := Lib.hid (blk_all B5.out)
          have F : Hid (Fr (fun _ => False) w W10) := Lib.hid (F.out.trans f (fun _ _ h => h))
          clear f
          clear CL
          rw [hat] at o
          obtain ⟨k6, n6, t6, l6, ks6, Al6, cl6, Ak6, ck6, -, -, ea, rfl, -, -, -, -⟩ := o.inv
          have R6 := Lib.hid o.rd
          clear ea o
          rw [hat]
          clear hat
          dsimp only
          go_upto_region 8 with fail
          obtain ⟨Y4, hY4⟩ : ∃ Y : Nat → Prop, Hid (RdV Y W10 (vcs k4 n4 t4 Al4 l4.length cl4 Ak4 ks4.length ck4) o1) := ⟨_, R4⟩; obtain ⟨Y5, hY5⟩ : ∃ Y : Nat → Prop, Hid (RdV Y W10 (vcs k5 n5 t5 Al5 l5.length cl5 Ak5 ks5.length ck5) o1) := ⟨_, R5⟩; obtain ⟨Y6, hY6⟩ : ∃ Y : Nat → Prop, Hid (RdV Y W10 (vcs k6 n6 t6 Al6 l6.length cl6 Ak6 ks6.length ck6) b) := ⟨_, R6⟩
          refine abs_world (fun W => Hid (Blk W g 25 (vcs k1 n1 t1 Al1 l1.length cl1 Ak1 ks1.length ck1)) ∧ Hid (Blk W (g + 1) 25 (vcs k2 n2 t2 Al2 l2.length cl2 Ak2 ks2.length ck2)) ∧ Hid (Blk W (g + 1 + 1) 25 (vcs k3 n3 t3 Al3 l3.length cl3 Ak3 ks3.length ck3)) ∧ Hid (Blk W ga 25 (vcs k4 n4 t4 Al4 l4.length cl4 Ak4 ks4.length ck4)) ∧ Hid (Blk W gb 25 (vcs k5 n5 t5 Al5 l5.length cl5 Ak5 ks5.length ck5)) ∧ Hid (Blk W W10.heap.size 25 (vcs k6 n6 t6 Al6 l6.length cl6 Ak6 ks6.length ck6)) ∧ Hid (RdV Y4 W (vcs k4 n4 t4 Al4 l4.length cl4 Ak4 ks4.length ck4) o1) ∧ Hid (RdV Y5 W (vcs k5 n5 t5 Al5 l5.length cl5 Ak5 ks5.length ck5) o1) ∧ Hid (RdV Y6 W (vcs k6 n6 t6 Al6 l6.length cl6 Ak6 ks6.length ck6) b) ∧ Hid (Fr (fun _ => False) w W)) ⟨B1.out.alloc _, B2.out.alloc _, B3.out.alloc _, B4.out.alloc _, B5.out.alloc _, Blk.new W10 _ _, hY4.out.far ((Fr.refl _ _).alloc _), hY5.out.far ((Fr.refl _ _).alloc _), hY6.out.far ((Fr.refl _ _).alloc _), F.out.alloc _⟩ ?_
          clear hY4 hY5 hY6 R4 R5 R6
          rintro W11 ⟨B1, B2, B3, B4, B5, B6, R4, R5, R6, F⟩
          obtain ⟨gt, hgt⟩ : ∃ b, W10.heap.size = b := ⟨_, rfl⟩
          rw [hgt] at B6 ⊢
          clear hgt
          replace A1 := Lib.hid (blk_all B1.out)
          replace A2 := Lib.hid (blk_all B2.out)
          replace A3 := Lib.hid (blk_all B3.out)
          replace A4 := Lib.hid (blk_all B4.out)
          replace A5 := Lib.hid (blk_all B5.out)
          have A6 := Lib.hid (blk_all B6.out)
          have Z6 := Lib.hid (show (Tryz.prog.info? 25).map (·.size) = some (vcs k6 n6 t6 Al6 l6.length cl6 Ak6 ks6.length ck6).size from lw5)
          have CL := Lib.hid (same_c o1 o1 W11 _ _ _ _ R4.out R5.out)
          rw [(eqv_iff o1 o1).2 rfl] at CL
          go_wp2_with (first
            | (refine wpList_load_val rfl 25 _ rfl g _ rfl _ A1.out _ Tryz.underlying25 rfl Z1.out ?_)
            | (refine wpList_load_valg 25 _ rfl ?_ g _ rfl _ A1.out _ Tryz.underlying25 rfl Z1.out ?_; · kernel_rfl)
            | (refine wpList_load_val rfl 25 _ rfl (g + 1) _ rfl _ A2.out _ Tryz.underlying25 rfl Z2.out ?_)
            | (refine wpList_load_valg 25 _ rfl ?_ (g + 1) _ rfl _ A2.out _ Tryz.underlying25 rfl Z2.out ?_; · kernel_rfl)
            | (refine wpList_load_val rfl 25 _ rfl (g + 1 + 1) _ rfl _ A3.out _ Tryz.underlying25 rfl Z3.out ?_)
            | (refine wpList_load_valg 25 _ rfl ?_ (g + 1 + 1) _ rfl _ A3.out _ Tryz.underlying25 rfl Z3.out ?_; · kernel_rfl)
            | (refine wpList_load_val rfl 25 _ rfl ga _ rfl _ A4.out _ Tryz.underlying25 rfl Z4.out ?_)
            | (refine wpList_load_valg 25 _ rfl ?_ ga _ rfl _ A4.out _ Tryz.underlying25 rfl Z4.out ?_; · kernel_rfl)
            | (refine wpList_load_val rfl 25 _ rfl gb _ rfl _ A5.out _ Tryz.underlying25 rfl Z5.out ?_)
            | (refine wpList_load_valg 25 _ rfl ?_ gb _ rfl _ A5.out _ Tryz.underlying25 rfl Z5.out ?_; · kernel_rfl)
            | (refine wpList_load_val rfl 25 _ rfl gt _ rfl _ A6.out _ Tryz.underlying25 rfl Z6.out ?_)
            | (refine wpList_load_valg 25 _ rfl ?_ gt _ rfl _ A6.out _ Tryz.underlying25 rfl Z6.out ?_; · kernel_rfl))
          refine CL.out.mono ?_
          rintro e W12 ⟨rfl, f⟩
          replace R4 := Lib.hid (R4.out.far f)
          replace R5 := Lib.hid (R5.out.far f)
          replace R6 := Lib.hid (R6.out.far f)
          replace B1 := Lib.hid (keepB B1.out f)
          replace A1 := Lib.hid (blk_all B1.out)
          replace B2 := Lib.hid (keepB B2.out f)
          replace A2 := Lib.hid (blk_all B2.out)
          replace B3 := Lib.hid (keepB B3.out f)
          replace A3 := Lib.hid (blk_all B3.out)
          replace B4 := Lib.hid (keepB B4.out f)
          replace A4 := Lib.hid (blk_all B4.out)
          replace B5 := Lib.hid (keepB B5.out f)
          replace A5 := Lib.hid (blk_all B5.out)
          replace B6 := Lib.hid (keepB B6.out f)
          replace A6 := Lib.hid (blk_all B6.out)
          have F : Hid (Fr (fun _ => False) w W12) := Lib.hid (F.out.trans f (fun _ _ h => h))
          clear f
          clear CL
          have CL := Lib.hid (same_c b b W12 _ _ _ _ R6.out (R2.out.far F.out))
          rw [(eqv_iff b b).2 rfl] at CL
          go_wp2_with (first
            | (refine wpList_load_val rfl 25 _ rfl g _ rfl _ A1.out _ Tryz.underlying25 rfl Z1.out ?_)
            | (refine wpList_load_valg 25 _ rfl ?_ g _ rfl _ A1.out _ Tryz.underlying25 rfl Z1.out ?_; · kernel_rfl)
            | (refine wpList_load_val rfl 25 _ rfl (g + 1) _ rfl _ A2.out _ Tryz.underlying25 rfl Z2.out ?_)
            | (refine wpList_load_valg 25 _ rfl ?_ (g + 1) _ rfl _ A2.out _ Tryz.underlying25 rfl Z2.out ?_; · kernel_rfl)
            | (refine wpList_load_val rfl 25 _ rfl (g + 1 + 1) _ rfl _ A3.out _ Tryz.underlying25 rfl Z3.out ?_)
            | (refine wpList_load_valg 25 _ rfl ?_ (g + 1 + 1) _ rfl _ A3.out _ Tryz.underlying25 rfl Z3.out ?_; · kernel_rfl)
            | (refine wpList_load_val rfl 25 _ rfl ga _ rfl _ A4.out _ Tryz.underlying25 rfl Z4.out ?_)
            | (refine wpList_load_valg 25 _ rfl ?_ ga _ rfl _ A4.out _ Tryz.underlying25 rfl Z4.out ?_; · kernel_rfl)
            | (refine wpList_load_val rfl 25 _ rfl gb _ rfl _ A5.out _ Tryz.underlying25 rfl Z5.out ?_)
            | (refine wpList_load_valg 25 _ rfl ?_ gb _ rfl _ A5.out _ Tryz.underlying25 rfl Z5.out ?_; · kernel_rfl)
            | (refine wpList_load_val rfl 25 _ rfl gt _ rfl _ A6.out _ Tryz.underlying25 rfl Z6.out ?_)
            | (refine wpList_load_valg 25 _ rfl ?_ gt _ rfl _ A6.out _ Tryz.underlying25 rfl Z6.out ?_; · kernel_rfl))
          refine CL.out.mono ?_
          rintro e W13 ⟨rfl, f⟩
          replace R4 := Lib.hid (R4.out.far f)
          replace R5 := Lib.hid (R5.out.far f)
          replace R6 := Lib.hid (R6.out.far f)
          replace B1 := Lib.hid (keepB B1.out f)
          replace A1 := Lib.hid (blk_all B1.out)
          replace B2 := Lib.hid (keepB B2.out f)
          replace A2 := Lib.hid (blk_all B2.out)
          replace B3 := Lib.hid (keepB B3.out f)
          replace A3 := Lib.hid (blk_all B3.out)
          replace B4 := Lib.hid (keepB B4.out f)
          replace A4 := Lib.hid (blk_all B4.out)
          replace B5 := Lib.hid (keepB B5.out f)
          replace A5 := Lib.hid (blk_all B5.out)
          replace B6 := Lib.hid (keepB B6.out f)
          replace A6 := Lib.hid (blk_all B6.out)
          have F : Hid (Fr (fun _ => False) w W13) := Lib.hid (F.out.trans f (fun _ _ h => h))
          clear f
          clear CL
          by_cases hko : key = other
          case pos =>
            have d1 : ((strOf key).toList == (strOf other).toList) = true := by rw [hko]; simp
            clear hko
            go_wp2_with fail
            refine (awake_c _ (HL.out.far F.out)).mono ?_
            rintro e X13 ⟨rfl, f⟩
            have F : Hid (Fr (fun _ => False) w X13) := Lib.hid (F.out.trans f (fun _ _ h => h))
            clear f
            go_wp2_with fail
            go_ret
            exact ⟨rfl, F.out⟩
          have d1 : ((strOf key).toList == (strOf other).toList) = false := by
            rw [strOf_toList, strOf_toList]
            simpa using hko
          have HKO := Lib.hid hko
          clear hko
          have CK := Lib.hid (fun W => rkey_c W other (by have := HOL.out; omega))
          cases hok : keyOk other with
          | false =>
            rw [hok] at CK
            clear hok
            go_wp2_with (first
              | (refine wpList_load_val rfl 25 _ rfl g _ rfl _ A1.out _ Tryz.underlying25 rfl Z1.out ?_)
              | (refine wpList_load_valg 25 _ rfl ?_ g _ rfl _ A1.out _ Tryz.underlying25 rfl Z1.out ?_; · kernel_rfl)
              | (refine wpList_load_val rfl 25 _ rfl (g + 1) _ rfl _ A2.out _ Tryz.underlying25 rfl Z2.out ?_)
              | (refine wpList_load_valg 25 _ rfl ?_ (g + 1) _ rfl _ A2.out _ Tryz.underlying25 rfl Z2.out ?_; · kernel_rfl)
              | (refine wpList_load_val rfl 25 _ rfl (g + 1 + 1) _ rfl _ A3.out _ Tryz.underlying25 rfl Z3.out ?_)
              | (refine wpList_load_valg 25 _ rfl ?_ (g + 1 + 1) _ rfl _ A3.out _ Tryz.underlying25 rfl Z3.out ?_; · kernel_rfl)
              | (refine wpList_load_val rfl 25 _ rfl ga _ rfl _ A4.out _ Tryz.underlying25 rfl Z4.out ?_)
              | (refine wpList_load_valg 25 _ rfl ?_ ga _ rfl _ A4.out _ Tryz.underlying25 rfl Z4.out ?_; · kernel_rfl)
              | (refine wpList_load_val rfl 25 _ rfl gb _ rfl _ A5.out _ Tryz.underlying25 rfl Z5.out ?_)
              | (refine wpList_load_valg 25 _ rfl ?_ gb _ rfl _ A5.out _ Tryz.underlying25 rfl Z5.out ?_; · kernel_rfl)
              | (refine wpList_load_val rfl 25 _ rfl gt _ rfl _ A6.out _ Tryz.underlying25 rfl Z6.out ?_)
              | (refine wpList_load_valg 25 _ rfl ?_ gt _ rfl _ A6.out _ Tryz.underlying25 rfl Z6.out ?_; · kernel_rfl))
            refine (CK.out _).mono ?_
            rintro e w2 ⟨rfl, rfl⟩
            go_wp2_with fail
            refine (awake_c _ (HL.out.far F.out)).mono ?_
            rintro e X13 ⟨rfl, f⟩
            have F : Hid (Fr (fun _ => False) w X13) := Lib.hid (F.out.trans f (fun _ _ h => h))
            clear f
            go_wp2_with fail
            go_ret
            exact ⟨rfl, F.out⟩
          | true =>
            rw [hok] at CK
            have hsame : atO o1 other = atO a other := by
              rw [at_obj HSO.out.2.2.2.1 (by rw [← HSO.out.2.2.2.2, put_k]; exact HSO.out.1) hok, at_obj HSO.out.2.1 HSO.out.1 hok, HLK.out.2.2 other HKO.out]
            have HSA := Lib.hid hsame
            clear hok hsame
            obtain ⟨y, hy⟩ : ∃ y, atO a other = y := ⟨_, rfl⟩
            obtain ⟨yo, yc⟩ := y
            have HY := Lib.hid hy
            clear hy
            go_wp2_with (first
              | (refine wpList_load_val rfl 25 _ rfl g _ rfl _ A1.out _ Tryz.underlying25 rfl Z1.out ?_)
              | (refine wpList_load_valg 25 _ rfl ?_ g _ rfl _ A1.out _ Tryz.underlying25 rfl Z1.out ?_; · kernel_rfl)
              | (refine wpList_load_val rfl 25 _ rfl (g + 1) _ rfl _ A2.out _ Tryz.underlying25 rfl Z2.out ?_)
              | (refine wpList_load_valg 25 _ rfl ?_ (g + 1) _ rfl _ A2.out _ Tryz.underlying25 rfl Z2.out ?_; · kernel_rfl)
              | (refine wpList_load_val rfl 25 _ rfl (g + 1 + 1) _ rfl _ A3.out _ Tryz.underlying25 rfl Z3.out ?_)
              | (refine wpList_load_valg 25 _ rfl ?_ (g + 1 + 1) _ rfl _ A3.out _ Tryz.underlying25 rfl Z3.out ?_; · kernel_rfl)
              | (refine wpList_load_val rfl 25 _ rfl ga _ rfl _ A4.out _ Tryz.underlying25 rfl Z4.out ?_)
              | (refine wpList_load_valg 25 _ rfl ?_ ga _ rfl _ A4.out _ Tryz.underlying25 rfl Z4.out ?_; · kernel_rfl)
              | (refine wpList_load_val rfl 25 _ rfl gb _ rfl _ A5.out _ Tryz.underlying25 rfl Z5.out ?_)
              | (refine wpList_load_valg 25 _ rfl ?_ gb _ rfl _ A5.out _ Tryz.underlying25 rfl Z5.out ?_; · kernel_rfl)
              | (refine wpList_load_val rfl 25 _ rfl gt _ rfl _ A6.out _ Tryz.underlying25 rfl Z6.out ?_)
              | (refine wpList_load_valg 25 _ rfl ?_ gt _ rfl _ A6.out _ Tryz.underlying25 rfl Z6.out ?_; · kernel_rfl))
            refine (CK.out _).mono ?_
            rintro e w2 ⟨rfl, rfl⟩
            clear CK
            have CL := Lib.hid (at_c a W13 (R1.out.far F.out) SMa.out (HL.out.far F.out) other HOL.out)
            go_wp2_with (first
              | (refine wpList_load_val rfl 25 _ rfl g _ rfl _ A1.out _ Tryz.underlying25 rfl Z1.out ?_)
              | (refine wpList_load_valg 25 _ rfl ?_ g _ rfl _ A1.out _ Tryz.underlying25 rfl Z1.out ?_; · kernel_rfl)
              | (refine wpList_load_val rfl 25 _ rfl (g + 1) _ rfl _ A2.out _ Tryz.underlying25 rfl Z2.out ?_)
              | (refine wpList_load_valg 25 _ rfl ?_ (g + 1) _ rfl _ A2.out _ Tryz.underlying25 rfl Z2.out ?_; · kernel_rfl)
              | (refine wpList_load_val rfl 25 _ rfl (g + 1 + 1) _ rfl _ A3.out _ Tryz.underlying25 rfl Z3.out ?_)
              | (refine wpList_load_valg 25 _ rfl ?_ (g + 1 + 1) _ rfl _ A3.out _ Tryz.underlying25 rfl Z3.out ?_; · kernel_rfl)
              | (refine wpList_load_val rfl 25 _ rfl ga _ rfl _ A4.out _ Tryz.underlying25 rfl Z4.out ?_)
              | (refine wpList_load_valg 25 _ rfl ?_ ga _ rfl _ A4.out _ Tryz.underlying25 rfl Z4.out ?_; · kernel_rfl)
              | (refine wpList_load_val rfl 25 _ rfl gb _ rfl _ A5.out _ Tryz.underlying25 rfl Z5.out ?_)
              | (refine wpList_load_valg 25 _ rfl ?_ gb _ rfl _ A5.out _ Tryz.underlying25 rfl Z5.out ?_; · kernel_rfl)
              | (refine wpList_load_val rfl 25 _ rfl gt _ rfl _ A6.out _ Tryz.underlying25 rfl Z6.out ?_)
              | (refine wpList_load_valg 25 _ rfl ?_ gt _ rfl _ A6.out _ Tryz.underlying25 rfl Z6.out ?_; · kernel_rfl))
            refine CL.out.mono ?_
            rintro e W14 ⟨C7, rfl, o, f⟩
            replace R5 := Lib.hid (R5.out.far f)
            replace R6 := Lib.hid (R6.out.far f)
            replace R4 := Lib.hid (R4.out.far f)
            replace B1 := Lib.hid (keepB B1.out f)
            replace A1 := Lib.hid (blk_all B1.out)
            replace B2 := Lib.hid (keepB B2.out f)
            replace A2 := Lib.hid (blk_all B2.out)
            replace B3 := Lib.hid (keepB B3.out f)
            replace A3 := Lib.hid (blk_all B3.out)
            replace B4 := Lib.hid (keepB B4.out f)
            replace A4 := Lib.hid (blk_all B4.out)
            replace B5 := Lib.hid (keepB B5.out f)
            replace A5 := Lib.hid (blk_all B5.out)
            replace B6 := Lib.hid (keepB B6.out f)
            replace A6 := Lib.hid (blk_all B6.out)
            have F : Hid (Fr (fun _ => False) w W14) := Lib.hid (F.out.trans f (fun _ _ h => h))
            clear f
            clear CL
            rw [HY.out] at o
            obtain ⟨k7, n7, t7, l7, ks7, Al7, cl7, Ak7, ck7, -, -, ea, rfl, -, -, -, -⟩ := o.inv
            have R7 := Lib.hid o.rd
            clear ea o
            rw [HY.out]
            dsimp only
            go_upto_region 13 with fail
            obtain ⟨Y4, hY4⟩ : ∃ Y : Nat → Prop, Hid (RdV Y W14 (vcs k4 n4 t4 Al4 l4.length cl4 Ak4 ks4.length ck4) o1) := ⟨_, R4⟩; obtain ⟨Y5, hY5⟩ : ∃ Y : Nat → Prop, Hid (RdV Y W14 (vcs k5 n5 t5 Al5 l5.length cl5 Ak5 ks5.length ck5) o1) := ⟨_, R5⟩; obtain ⟨Y6, hY6⟩ : ∃ Y : Nat → Prop, Hid (RdV Y W14 (vcs k6 n6 t6 Al6 l6.length cl6 Ak6 ks6.length ck6) b) := ⟨_, R6⟩; obtain ⟨Y7, hY7⟩ : ∃ Y : Nat → Prop, Hid (RdV Y W14 (vcs k7 n7 t7 Al7 l7.length cl7 Ak7 ks7.length ck7) (yo.getD V.zero)) := ⟨_, R7⟩
            refine abs_world (fun W => Hid (Blk W g 25 (vcs k1 n1 t1 Al1 l1.length cl1 Ak1 ks1.length ck1)) ∧ Hid (Blk W (g + 1) 25 (vcs k2 n2 t2 Al2 l2.length cl2 Ak2 ks2.length ck2)) ∧ Hid (Blk W (g + 1 + 1) 25 (vcs k3 n3 t3 Al3 l3.length cl3 Ak3 ks3.length ck3)) ∧ Hid (Blk W ga 25 (vcs k4 n4 t4 Al4 l4.length cl4 Ak4 ks4.length ck4)) ∧ Hid (Blk W gb 25 (vcs k5 n5 t5 Al5 l5.length cl5 Ak5 ks5.length ck5)) ∧ Hid (Blk W gt 25 (vcs k6 n6 t6 Al6 l6.length cl6 Ak6 ks6.length ck6)) ∧ Hid (Blk W W14.heap.size 25 (vcs k7 n7 t7 Al7 l7.length cl7 Ak7 ks7.length ck7)) ∧ Hid (RdV Y4 W (vcs k4 n4 t4 Al4 l4.length cl4 Ak4 ks4.length ck4) o1) ∧ Hid (RdV Y5 W (vcs k5 n5 t5 Al5 l5.length cl5 Ak5 ks5.length ck5) o1) ∧ Hid (RdV Y6 W (vcs k6 n6 t6 Al6 l6.length cl6 Ak6 ks6.length ck6) b) ∧ Hid (RdV Y7 W (vcs k7 n7 t7 Al7 l7.length cl7 Ak7 ks7.length ck7) (yo.getD V.zero)) ∧ Hid (Fr (fun _ => False) w W)) ⟨B1.out.alloc _, B2.out.alloc _, B3.out.alloc _, B4.out.alloc _, B5.out.alloc _, B6.out.alloc _, Blk.new W14 _ _, hY4.out.far ((Fr.refl _ _).alloc _), hY5.out.far ((Fr.refl _ _).alloc _), hY6.out.far ((Fr.refl _ _).alloc _), hY7.out.far ((Fr.refl _ _).alloc _), F.out.alloc _⟩ ?_
            clear hY4 hY5 hY6 hY7 R4 R5 R6 R7
            rintro W15 ⟨B1, B2, B3, B4, B5, B6, B7, R4, R5, R6, R7, F⟩
            obtain ⟨gc, hgc⟩ : ∃ b, W14.heap.size = b := ⟨_, rfl⟩
            rw [hgc] at B7 ⊢
            clear hgc
            replace A1 := Lib.hid (blk_all B1.out)
            replace A2 := Lib.hid (blk_all B2.out)
            replace A3 := Lib.hid (blk_all B3.out)
            replace A4 := Lib.hid (blk_all B4.out)
            replace A5 := Lib.hid (blk_all B5.out)
            replace A6 := Lib.hid (blk_all B6.out)
            have A7 := Lib.hid (blk_all B7.out)
            have Z7 := Lib.hid (show (Tryz.prog.info? 25).map (·.size) = some (vcs k7 n7 t7 Al7 l7.length cl7 Ak7 ks7.length ck7).size from lw5)
            replace R4 := Lib.hid (R4.out)
            have CL := Lib.hid (at_c o1 W15 R4.out SMo.out (HL.out.far F.out) other HOL.out)
            go_wp2_with (first
              | (refine wpList_load_val rfl 25 _ rfl g _ rfl _ A1.out _ Tryz.underlying25 rfl Z1.out ?_)
              | (refine wpList_load_valg 25 _ rfl ?_ g _ rfl _ A1.out _ Tryz.underlying25 rfl Z1.out ?_; · kernel_rfl)
              | (refine wpList_load_val rfl 25 _ rfl (g + 1) _ rfl _ A2.out _ Tryz.underlying25 rfl Z2.out ?_)
              | (refine wpList_load_valg 25 _ rfl ?_ (g + 1) _ rfl _ A2.out _ Tryz.underlying25 rfl Z2.out ?_; · kernel_rfl)
              | (refine wpList_load_val rfl 25 _ rfl (g + 1 + 1) _ rfl _ A3.out _ Tryz.underlying25 rfl Z3.out ?_)
              | (refine wpList_load_valg 25 _ rfl ?_ (g + 1 + 1) _ rfl _ A3.out _ Tryz.underlying25 rfl Z3.out ?_; · kernel_rfl)
              | (refine wpList_load_val rfl 25 _ rfl ga _ rfl _ A4.out _ Tryz.underlying25 rfl Z4.out ?_)
              | (refine wpList_load_valg 25 _ rfl ?_ ga _ rfl _ A4.out _ Tryz.underlying25 rfl Z4.out ?_; · kernel_rfl)
              | (refine wpList_load_val rfl 25 _ rfl gb _ rfl _ A5.out _ Tryz.underlying25 rfl Z5.out ?_)
              | (refine wpList_load_valg 25 _ rfl ?_ gb _ rfl _ A5.out _ Tryz.underlying25 rfl Z5.out ?_; · kernel_rfl)
              | (refine wpList_load_val rfl 25 _ rfl gt _ rfl _ A6.out _ Tryz.underlying25 rfl Z6.out ?_)
              | (refine wpList_load_valg 25 _ rfl ?_ gt _ rfl _ A6.out _ Tryz.underlying25 rfl Z6.out ?_; · kernel_rfl)
              | (refine wpList_load_val rfl 25 _ rfl gc _ rfl _ A7.out _ Tryz.underlying25 rfl Z7.out ?_)
              | (refine wpList_load_valg 25 _ rfl ?_ gc _ rfl _ A7.out _ Tryz.underlying25 rfl Z7.out ?_; · kernel_rfl))
            refine CL.out.mono ?_
            rintro e W16 ⟨C8, rfl, o, f⟩
            replace R4 := Lib.hid (R4.out.far f)
            replace R5 := Lib.hid (R5.out.far f)
            replace R6 := Lib.hid (R6.out.far f)
            replace R7 := Lib.hid (R7.out.far f)
            replace B1 := Lib.hid (keepB B1.out f)
            replace A1 := Lib.hid (blk_all B1.out)
            replace B2 := Lib.hid (keepB B2.out f)
            replace A2 := Lib.hid (blk_all B2.out)
            replace B3 := Lib.hid (keepB B3.out f)
            replace A3 := Lib.hid (blk_all B3.out)
            replace B4 := Lib.hid (keepB B4.out f)
            replace A4 := Lib.hid (blk_all B4.out)
            replace B5 := Lib.hid (keepB B5.out f)
            replace A5 := Lib.hid (blk_all B5.out)
            replace B6 := Lib.hid (keepB B6.out f)
            replace A6 := Lib.hid (blk_all B6.out)
            replace B7 := Lib.hid (keepB B7.out f)
            replace A7 := Lib.hid (blk_all B7.out)
            have F : Hid (Fr (fun _ => False) w W16) := Lib.hid (F.out.trans f (fun _ _ h => h))
            clear f
            clear CL
            rw [HSA.out, HY.out] at o
            obtain ⟨k8, n8, t8, l8, ks8, Al8, cl8, Ak8, ck8, -, -, ea, rfl, -, -, -, -⟩ := o.inv
            have R8 := Lib.hid o.rd
            clear ea o
            rw [HSA.out, HY.out]
            dsimp only
            go_upto_region 14 with fail
            obtain ⟨Y4, hY4⟩ : ∃ Y : Nat → Prop, Hid (RdV Y W16 (vcs k4 n4 t4 Al4 l4.length cl4 Ak4 ks4.length ck4) o1) := ⟨_, R4⟩; obtain ⟨Y5, hY5⟩ : ∃ Y : Nat → Prop, Hid (RdV Y W16 (vcs k5 n5 t5 Al5 l5.length cl5 Ak5 ks5.length ck5) o1) := ⟨_, R5⟩; obtain ⟨Y6, hY6⟩ : ∃ Y : Nat → Prop, Hid (RdV Y W16 (vcs k6 n6 t6 Al6 l6.length cl6 Ak6 ks6.length ck6) b) := ⟨_, R6⟩; obtain ⟨Y7, hY7⟩ : ∃ Y : Nat → Prop, Hid (RdV Y W16 (vcs k7 n7 t7 Al7 l7.length cl7 Ak7 ks7.length ck7) (yo.getD V.zero)) := ⟨_, R7⟩; obtain ⟨Y8, hY8⟩ : ∃ Y : Nat → Prop, Hid (RdV Y W16 (vcs k8 n8 t8 Al8 l8.length cl8 Ak8 ks8.length ck8) (yo.getD V.zero)) := ⟨_, R8⟩
            refine abs_world (fun W => Hid (Blk W g 25 (vcs k1 n1 t1 Al1 l1.length cl1 Ak1 ks1.length ck1)) ∧ Hid (Blk W (g + 1) 25 (vcs k2 n2 t2 Al2 l2.length cl2 Ak2 ks2.length ck2)) ∧ Hid (Blk W (g + 1 + 1) 25 (vcs k3 n3 t3 Al3 l3.length cl3 Ak3 ks3.length ck3)) ∧ Hid (Blk W ga 25 (vcs k4 n4 t4 Al4 l4.length cl4 Ak4 ks4.length ck4)) ∧ Hid (Blk W gb 25 (vcs k5 n5 t5 Al5 l5.length cl5 Ak5 ks5.length ck5)) ∧ Hid (Blk W gt 25 (vcs k6 n6 t6 Al6 l6.length cl6 Ak6 ks6.length ck6)) ∧ Hid (Blk W gc 25 (vcs k7 n7 t7 Al7 l7.length cl7 Ak7 ks7.length ck7)) ∧ Hid (Blk W W16.heap.size 25 (vcs k8 n8 t8 Al8 l8.length cl8 Ak8 ks8.length ck8)) ∧ Hid (RdV Y4 W (vcs k4 n4 t4 Al4 l4.length cl4 Ak4 ks4.length ck4) o1) ∧ Hid (RdV Y5 W (vcs k5 n5 t5 Al5 l5.length cl5 Ak5 ks5.length ck5) o1) ∧ Hid (RdV Y6 W (vcs k6 n6 t6 Al6 l6.length cl6 Ak6 ks6.length ck6) b) ∧ Hid (RdV Y7 W (vcs k7 n7 t7 Al7 l7.length cl7 Ak7 ks7.length ck7) (yo.getD V.zero)) ∧ Hid (RdV Y8 W (vcs k8 n8 t8 Al8 l8.length cl8 Ak8 ks8.length ck8) (yo.getD V.zero)) ∧ Hid (Fr (fun _ => False) w W)) ⟨B1.out.alloc _, B2.out.alloc _, B3.out.alloc _, B4.out.alloc _, B5.out.alloc _, B6.out.alloc _, B7.out.alloc _, Blk.new W16 _ _, hY4.out.far ((Fr.refl _ _).alloc _), hY5.out.far ((Fr.refl _ _).alloc _), hY6.out.far ((Fr.refl _ _).alloc _), hY7.out.far ((Fr.refl _ _).alloc _), hY8.out.far ((Fr.refl _ _).alloc _), F.out.alloc _⟩ ?_
            clear hY4 hY5 hY6 hY7 hY8 R4 R5 R6 R7 R8
            rintro W17 ⟨B1, B2, B3, B4, B5, B6, B7, B8, R4, R5, R6, R7, R8, F⟩
            obtain ⟨gd, hgd⟩ : ∃ b, W16.heap.size = b := ⟨_, rfl⟩
            rw [hgd] at B8 ⊢
            clear hgd
            replace A1 := Lib.hid (blk_all B1.out)
            replace A2 := Lib.hid (blk_all B2.out)
            replace A3 := Lib.hid (blk_all B3.out)
            replace A4 := Lib.hid (blk_all B4.out)
            replace A5 := Lib.hid (blk_all B5.out)
            replace A6 := Lib.hid (blk_all B6.out)
            replace A7 := Lib.hid (blk_all B7.out)
            have A8 := Lib.hid (blk_all B8.out)
            have Z8 := Lib.hid (show (Tryz.prog.info? 25).map (·.size) = some (vcs k8 n8 t8 Al8 l8.length cl8 Ak8 ks8.length ck8).size from lw5)
            have hyc : (yc == yc) = true := by simp
            have CL := Lib.hid (same_c (yo.getD V.zero) (yo.getD V.zero) W17 _ _ _ _ R7.out R8.out)
            rw [(eqv_iff (yo.getD V.zero) (yo.getD V.zero)).2 rfl] at CL
            go_wp2_with (first
              | (refine wpList_load_val rfl 25 _ rfl g _ rfl _ A1.out _ Tryz.underlying25 rfl Z1.out ?_)
              | (refine wpList_load_valg 25 _ rfl ?_ g _ rfl _ A1.out _ Tryz.underlying25 rfl Z1.out ?_; · kernel_rfl)
              | (refine wpList_load_val rfl 25 _ rfl (g + 1) _ rfl _ A2.out _ Tryz.underlying25 rfl Z2.out ?_)
              | (refine wpList_load_valg 25 _ rfl ?_ (g + 1) _ rfl _ A2.out _ Tryz.underlying25 rfl Z2.out ?_; · kernel_rfl)
              | (refine wpList_load_val rfl 25 _ rfl (g + 1 + 1) _ rfl _ A3.out _ Tryz.underlying25 rfl Z3.out ?_)
              | (refine wpList_load_valg 25 _ rfl ?_ (g + 1 + 1) _ rfl _ A3.out _ Tryz.underlying25 rfl Z3.out ?_; · kernel_rfl)
              | (refine wpList_load_val rfl 25 _ rfl ga _ rfl _ A4.out _ Tryz.underlying25 rfl Z4.out ?_)
              | (refine wpList_load_valg 25 _ rfl ?_ ga _ rfl _ A4.out _ Tryz.underlying25 rfl Z4.out ?_; · kernel_rfl)
              | (refine wpList_load_val rfl 25 _ rfl gb _ rfl _ A5.out _ Tryz.underlying25 rfl Z5.out ?_)
              | (refine wpList_load_valg 25 _ rfl ?_ gb _ rfl _ A5.out _ Tryz.underlying25 rfl Z5.out ?_; · kernel_rfl)
              | (refine wpList_load_val rfl 25 _ rfl gt _ rfl _ A6.out _ Tryz.underlying25 rfl Z6.out ?_)
              | (refine wpList_load_valg 25 _ rfl ?_ gt _ rfl _ A6.out _ Tryz.underlying25 rfl Z6.out ?_; · kernel_rfl)
              | (refine wpList_load_val rfl 25 _ rfl gc _ rfl _ A7.out _ Tryz.underlying25 rfl Z7.out ?_)
              | (refine wpList_load_valg 25 _ rfl ?_ gc _ rfl _ A7.out _ Tryz.underlying25 rfl Z7.out ?_; · kernel_rfl)
              | (refine wpList_load_val rfl 25 _ rfl gd _ rfl _ A8.out _ Tryz.underlying25 rfl Z8.out ?_)
              | (refine wpList_load_valg 25 _ rfl ?_ gd _ rfl _ A8.out _ Tryz.underlying25 rfl Z8.out ?_; · kernel_rfl))
            refine CL.out.mono ?_
            rintro e W18 ⟨rfl, f⟩
            replace R4 := Lib.hid (R4.out.far f)
            replace R5 := Lib.hid (R5.out.far f)
            replace R6 := Lib.hid (R6.out.far f)
            replace R7 := Lib.hid (R7.out.far f)
            replace R8 := Lib.hid (R8.out.far f)
            replace B1 := Lib.hid (keepB B1.out f)
            replace A1 := Lib.hid (blk_all B1.out)
            replace B2 := Lib.hid (keepB B2.out f)
            replace A2 := Lib.hid (blk_all B2.out)
            replace B3 := Lib.hid (keepB B3.out f)
            replace A3 := Lib.hid (blk_all B3.out)
            replace B4 := Lib.hid (keepB B4.out f)
            replace A4 := Lib.hid (blk_all B4.out)
            replace B5 := Lib.hid (keepB B5.out f)
            replace A5 := Lib.hid (blk_all B5.out)
            replace B6 := Lib.hid (keepB B6.out f)
            replace A6 := Lib.hid (blk_all B6.out)
            replace B7 := Lib.hid (keepB B7.out f)
            replace A7 := Lib.hid (blk_all B7.out)
            replace B8 := Lib.hid (keepB B8.out f)
            replace A8 := Lib.hid (blk_all B8.out)
            have F : Hid (Fr (fun _ => False) w W18) := Lib.hid (F.out.trans f (fun _ _ h => h))
            clear f
            clear CL
            go_wp2_with fail
            refine (awake_c _ (HL.out.far F.out)).mono ?_
            rintro e X18 ⟨rfl, f⟩
            have F : Hid (Fr (fun _ => False) w X18) := Lib.hid (F.out.trans f (fun _ _ h => h))
            clear f
            go_wp2_with fail
            go_ret
            exact ⟨rfl, F.out⟩
end Go.Proofs.YtnkfkicabgajmaaGreatDoor
