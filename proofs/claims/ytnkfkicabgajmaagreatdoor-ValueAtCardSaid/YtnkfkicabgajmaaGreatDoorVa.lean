/-
  THE LAW ValueAt, WALKED. Written by gen_va.py.
-/
import Derived.Test.YtnkfkicabgajmaaGreatDoorLtn
import Derived.Test.YtnkfkicabgajmaaGreatDoorTn
import Derived.Test.YtnkfkicabgajmaaGreatDoorRcy
import Derived.Test.YtnkfkicabgajmaaGreatDoorRat
import Derived.Test.YtnkfkicabgajmaaGreatDoorRpu
import Derived.Test.YtnkfkicabgajmaaGreatDoorRmay
import Derived.Test.YtnkfkicabgajmaaGreatDoorFl3
import Derived.Test.YtnkfkicabgajmaaGreatDoorSmm
import Derived.Test.YtnkfkicabgajmaaGreatDoorRs
import Derived.Test.YtnkfkicabgajmaaGreatDoorAw
import Derived.Test.YtnkfkicabgajmaaGreatDoorLong
import Derived.Test.YtnkfkicabgajmaaGreatDoorSm
namespace Go.Proofs.YtnkfkicabgajmaaGreatDoor
set_option linter.unusedSimpArgs false
set_option linter.unusedVariables false
open Go Go.RowKit

theorem atV_sm : ∀ (cs : List (List UInt8)) (v x : V), Sm v → atV v cs = some x → Sm x
  | [], v, x, h, e => by
    rw [atV_nil] at e
    injection e with e
    exact e ▸ h
  | c :: cs, v, x, h, e => by
    unfold atV at e
    split at e
    · cases e
    · split at e
      · cases e
      · rename_i y hy
        obtain ⟨k, n, t, l, ks⟩ := v
        exact atV_sm cs y x (h.inv.el y (List.mem_of_getElem? hy)) e
theorem sm_zero : Sm V.zero := .mk (Nat.zero_le _) (Nat.zero_le _) (Nat.zero_le _) (fun _ h => by cases h) (fun _ h => by cases h)
theorem atO_sm {v : V} (p : List UInt8) (h : Sm v) : Sm ((atO v p).1.getD V.zero) := by
  unfold atO
  split
  · exact sm_zero
  · split
    · exact sm_zero
    · rename_i x hx
      exact atV_sm _ _ _ h hx
theorem bld_t (W : World) (t : List UInt8) : (Instr.build 25 #[(0, .int .i64 4), (2, .string (strOf t))]).run Tryz.prog W = .ok (.agg (vcs 4 0 t none 0 0 none 0 0)) W := by kernel_rfl
theorem bld_n (W : World) (n : Int) : (Instr.build 25 #[(0, .int .i64 3), (1, .int .i64 n)]).run Tryz.prog W = .ok (.agg (vcs 3 n [] none 0 0 none 0 0)) W := by kernel_rfl
def vaX (g gw gl b8 off8 : Nat) (c8 : Nat) (k1 n1 : Int) (V1 V3 V8 : Array Value) (pth : List UInt8) (i : Nat) (v : Value) (W : World) : Prop := match i with
  | 0 => v = .agg V1
  | 1 => v = .agg V3
  | 2 => v = .bool true
  | 3 => v = .bool true
  | 4 => v = .pointer (some ⟨gl, 3, none⟩)
  | 5 => v = .slice (some ⟨b8, off8, none⟩) 2 c8
  | 6 => v = .int .i64 2
  | 7 => v = .bool true
  | 8 => v = .bool true
  | 9 => v = .bool true
  | 10 => v = .pointer (some ⟨gl, 0, none⟩)
  | 11 => v = .int .i64 5
  | 12 => v = .bool true
  | 13 => v = .bool true
  | 14 => v = .bool true
  | 15 => v = .pointer (some ⟨gl, 3, none⟩)
  | 16 => v = .slice (some ⟨b8, off8, none⟩) 2 c8
  | 17 => v = .pointer (some ⟨b8, off8, none⟩)
  | 18 => v = .agg V8
  | 19 => v = .agg V1
  | 20 => v = .bool true
  | 21 => v = .bool true
  | 22 => v = .bool true
  | 23 => v = .string (strOf pth)
  | 24 => v = .agg (vcs 4 0 pth none 0 0 none 0 0)
  | 25 => v = .string (strOf pth)
  | 26 => v = .agg (vcs 4 0 pth none 0 0 none 0 0)
  | 27 => v = .bool true
  | 28 => v = .bool true
  | 29 => v = .bool true
  | 30 => v = .pointer (some ⟨g, 1, none⟩)
  | 31 => v = .int .i64 n1
  | 32 => v = .agg (vcs 3 n1 [] none 0 0 none 0 0)
  | 33 => v = .pointer (some ⟨g, 1, none⟩)
  | 34 => v = .int .i64 n1
  | 35 => v = .agg (vcs 3 n1 [] none 0 0 none 0 0)
  | 36 => v = .bool true
  | 37 => v = .bool true
  | 38 => v = .bool true
  | 39 => v = .bool true
  | 40 => v = .bool true
  | _ => True
theorem vaX_far {g gw gl b8 off8 : Nat} {c8 : Nat} {k1 n1 : Int} {V1 V3 V8 : Array Value} {pth : List UInt8} {i : Nat} {v : Value} {W W' : World} (hg : Fr (fun _ => False) W W') (hx : vaX g gw gl b8 off8 c8 k1 n1 V1 V3 V8 pth i v W) : vaX g gw gl b8 off8 c8 k1 n1 V1 V3 V8 pth i v W' := by
  match i with
  | 0 => exact hx
  | 1 => exact hx
  | 2 => exact hx
  | 3 => exact hx
  | 4 => exact hx
  | 5 => exact hx
  | 6 => exact hx
  | 7 => exact hx
  | 8 => exact hx
  | 9 => exact hx
  | 10 => exact hx
  | 11 => exact hx
  | 12 => exact hx
  | 13 => exact hx
  | 14 => exact hx
  | 15 => exact hx
  | 16 => exact hx
  | 17 => exact hx
  | 18 => exact hx
  | 19 => exact hx
  | 20 => exact hx
  | 21 => exact hx
  | 22 => exact hx
  | 23 => exact hx
  | 24 => exact hx
  | 25 => exact hx
  | 26 => exact hx
  | 27 => exact hx
  | 28 => exact hx
  | 29 => exact hx
  | 30 => exact hx
  | 31 => exact hx
  | 32 => exact hx
  | 33 => exact hx
  | 34 => exact hx
  | 35 => exact hx
  | 36 => exact hx
  | 37 => exact hx
  | 38 => exact hx
  | 39 => exact hx
  | 40 => exact hx
  | (n + 41) => exact hx
set_option maxRecDepth 100000 in
set_option maxHeartbeats 8000000 in
theorem valueAt_c (w : World) (pth : List UInt8) {D1 D2 : Nat → Prop} {C1 C2 : Array Value} {a b : V} (r1 : RdV D1 w C1 a) (r2 : RdV D2 w C2 b) (hL : LaidOk w) (hk1 : pth.length ≤ 140737488355328) :
    Calls Tryz.prog 3 #[.agg C1, .agg C2, .string (strOf pth)] w fun e w' => e = .returned (.bool true) ∧ Fr (fun _ => False) w w' := by
  have R1 := Lib.hid (r1.lts.mono (E := fun q => q < w.heap.size) (fun q hq => hq.2))
  have R2 := Lib.hid (r2.lts.mono (E := fun q => q < w.heap.size) (fun q hq => hq.2))
  have NMb := Lib.hid r2.nums
  obtain ⟨k1, n1, t1, l1, ks1, Al1, cl1, Ak1, ck1, css1, ea1, rfl, vp1⟩ := r1.inv
  obtain ⟨k2, n2, t2, l2, ks2, Al2, cl2, Ak2, ck2, css2, ea2, rfl, -⟩ := r2.inv
  have EA := Lib.hid ea1
  have VB1 := Lib.hid vp1.b
  clear ea1 ea2 vp1
  have Z1 := Lib.hid (szV r1)
  have Z2 := Lib.hid (szV r2)
  have HL := Lib.hid hL
  have h8 := hL.size
  have hsk := strOf_size pth
  obtain ⟨g, hg⟩ : ∃ g, w.heap.size = g := ⟨_, rfl⟩
  have HG := Lib.hid hg
  rw [hg] at h8 R1 R2
  clear hL r1 r2 hg
  go_enter Tryz.func3, Tryz.ntmps3
  go_upto_region 1 with fail
  refine abs_world (fun W => Hid (Blk W w.heap.size 25 (vcs k1 n1 t1 Al1 l1.length cl1 Ak1 ks1.length ck1)) ∧ Hid (Blk W (w.heap.size + 1) 25 (vcs k2 n2 t2 Al2 l2.length cl2 Ak2 ks2.length ck2)) ∧ Hid (Fr (fun _ => False) w W)) ⟨(Blk.new w _ _).alloc _, Blk.new1 w _ _ _, ((Fr.refl _ w).alloc _).alloc _⟩ ?_
  rintro W0 ⟨B1, B2, F⟩
  rw [HG.out] at B1 B2 ⊢
  replace R1 := Lib.hid (R1.out.far F.out)
  replace R2 := Lib.hid (R2.out.far F.out)
  have A1 := Lib.hid (blk_all B1.out)
  have A2 := Lib.hid (blk_all B2.out)
  have CL := Lib.hid (Long_c a W0 _ _ R1.out)
  cases hLa : decide (4000 < partsV a 20) with
  | true =>
    rw [hLa] at CL
    go_wp2_with (first
      | (refine wpList_load_val rfl 25 _ rfl g _ rfl _ A1.out _ Tryz.underlying25 rfl Z1.out ?_)
      | (refine wpList_load_valg 25 _ rfl ?_ g _ rfl _ A1.out _ Tryz.underlying25 rfl Z1.out ?_; · kernel_rfl)
      | (refine wpList_load_val rfl 25 _ rfl (g + 1) _ rfl _ A2.out _ Tryz.underlying25 rfl Z2.out ?_)
      | (refine wpList_load_valg 25 _ rfl ?_ (g + 1) _ rfl _ A2.out _ Tryz.underlying25 rfl Z2.out ?_; · kernel_rfl))
    refine CL.out.mono ?_
    rintro e W1 ⟨rfl, f⟩
    replace B1 := Lib.hid (keepB B1.out f)
    replace A1 := Lib.hid (blk_all B1.out)
    replace B2 := Lib.hid (keepB B2.out f)
    replace A2 := Lib.hid (blk_all B2.out)
    replace R1 := Lib.hid (R1.out.far f)
    replace R2 := Lib.hid (R2.out.far f)
    replace F : Hid (Fr (fun _ => False) w W1) := Lib.hid (F.out.trans f (fun _ _ h => h))
    clear CL f
    go_wp2_with fail
    refine (awake_c _ (HL.out.far F.out)).mono ?_
    rintro e X1 ⟨rfl, f⟩
    have F : Hid (Fr (fun _ => False) w X1) := Lib.hid (F.out.trans f (fun _ _ h => h))
    clear f
    go_wp2_with fail
    go_ret
    exact ⟨rfl, F.out⟩
  | false =>
    rw [hLa] at CL
    go_wp2_with (first
      | (refine wpList_load_val rfl 25 _ rfl g _ rfl _ A1.out _ Tryz.underlying25 rfl Z1.out ?_)
      | (refine wpList_load_valg 25 _ rfl ?_ g _ rfl _ A1.out _ Tryz.underlying25 rfl Z1.out ?_; · kernel_rfl)
      | (refine wpList_load_val rfl 25 _ rfl (g + 1) _ rfl _ A2.out _ Tryz.underlying25 rfl Z2.out ?_)
      | (refine wpList_load_valg 25 _ rfl ?_ (g + 1) _ rfl _ A2.out _ Tryz.underlying25 rfl Z2.out ?_; · kernel_rfl))
    refine CL.out.mono ?_
    rintro e W1 ⟨rfl, f⟩
    replace B1 := Lib.hid (keepB B1.out f)
    replace A1 := Lib.hid (blk_all B1.out)
    replace B2 := Lib.hid (keepB B2.out f)
    replace A2 := Lib.hid (blk_all B2.out)
    replace R1 := Lib.hid (R1.out.far f)
    replace R2 := Lib.hid (R2.out.far f)
    replace F : Hid (Fr (fun _ => False) w W1) := Lib.hid (F.out.trans f (fun _ _ h => h))
    clear CL f
    have CL := Lib.hid (Long_c b W1 _ _ R2.out)
    cases hLb : decide (4000 < partsV b 20) with
    | true =>
      rw [hLb] at CL
      go_wp2_with (first
        | (refine wpList_load_val rfl 25 _ rfl g _ rfl _ A1.out _ Tryz.underlying25 rfl Z1.out ?_)
        | (refine wpList_load_valg 25 _ rfl ?_ g _ rfl _ A1.out _ Tryz.underlying25 rfl Z1.out ?_; · kernel_rfl)
        | (refine wpList_load_val rfl 25 _ rfl (g + 1) _ rfl _ A2.out _ Tryz.underlying25 rfl Z2.out ?_)
        | (refine wpList_load_valg 25 _ rfl ?_ (g + 1) _ rfl _ A2.out _ Tryz.underlying25 rfl Z2.out ?_; · kernel_rfl))
      refine CL.out.mono ?_
      rintro e W2 ⟨rfl, f⟩
      replace B1 := Lib.hid (keepB B1.out f)
      replace A1 := Lib.hid (blk_all B1.out)
      replace B2 := Lib.hid (keepB B2.out f)
      replace A2 := Lib.hid (blk_all B2.out)
      replace R1 := Lib.hid (R1.out.far f)
      replace R2 := Lib.hid (R2.out.far f)
      replace F : Hid (Fr (fun _ => False) w W2) := Lib.hid (F.out.trans f (fun _ _ h => h))
      clear CL f
      go_wp2_with fail
      refine (awake_c _ (HL.out.far F.out)).mono ?_
      rintro e X2 ⟨rfl, f⟩
      have F : Hid (Fr (fun _ => False) w X2) := Lib.hid (F.out.trans f (fun _ _ h => h))
      clear f
      go_wp2_with fail
      go_ret
      exact ⟨rfl, F.out⟩
    | false =>
      rw [hLb] at CL
      go_wp2_with (first
        | (refine wpList_load_val rfl 25 _ rfl g _ rfl _ A1.out _ Tryz.underlying25 rfl Z1.out ?_)
        | (refine wpList_load_valg 25 _ rfl ?_ g _ rfl _ A1.out _ Tryz.underlying25 rfl Z1.out ?_; · kernel_rfl)
        | (refine wpList_load_val rfl 25 _ rfl (g + 1) _ rfl _ A2.out _ Tryz.underlying25 rfl Z2.out ?_)
        | (refine wpList_load_valg 25 _ rfl ?_ (g + 1) _ rfl _ A2.out _ Tryz.underlying25 rfl Z2.out ?_; · kernel_rfl))
      refine CL.out.mono ?_
      rintro e W2 ⟨rfl, f⟩
      replace B1 := Lib.hid (keepB B1.out f)
      replace A1 := Lib.hid (blk_all B1.out)
      replace B2 := Lib.hid (keepB B2.out f)
      replace A2 := Lib.hid (blk_all B2.out)
      replace R1 := Lib.hid (R1.out.far f)
      replace R2 := Lib.hid (R2.out.far f)
      replace F : Hid (Fr (fun _ => False) w W2) := Lib.hid (F.out.trans f (fun _ _ h => h))
      clear CL f
      by_cases hkl : pth.length ≤ 2000
      case neg =>
        have d1 : decide (2000 < (pth.length : Int)) = true := decide_eq_true (by omega)
        have d1' : decide (2000 < pth.length) = true := decide_eq_true (by omega)
        clear hkl hLa hLb
        go_wp2_with fail
        refine (awake_c _ (HL.out.far F.out)).mono ?_
        rintro e X2 ⟨rfl, f⟩
        have F : Hid (Fr (fun _ => False) w X2) := Lib.hid (F.out.trans f (fun _ _ h => h))
        clear f
        go_wp2_with fail
        go_ret
        exact ⟨rfl, F.out⟩
      have d1 : decide (2000 < (pth.length : Int)) = false := decide_eq_false (by omega)
      have d1' : decide (2000 < pth.length) = false := decide_eq_false (by omega)
      have SMa := Lib.hid (sm_of_not_long hLa)
      have SMb := Lib.hid (sm_of_not_long hLb)
      have LGa := Lib.hid hLa
      have LGb := Lib.hid hLb
      have HKL := Lib.hid (show pth.length ≤ 1000000 by omega)
      have HK2 := Lib.hid hkl
      clear hkl hLa hLb
      have CL := Lib.hid (copy_c a W2 _ _ R1.out SMa.out)
      go_wp2_with (first
        | (refine wpList_load_val rfl 25 _ rfl g _ rfl _ A1.out _ Tryz.underlying25 rfl Z1.out ?_)
        | (refine wpList_load_valg 25 _ rfl ?_ g _ rfl _ A1.out _ Tryz.underlying25 rfl Z1.out ?_; · kernel_rfl)
        | (refine wpList_load_val rfl 25 _ rfl (g + 1) _ rfl _ A2.out _ Tryz.underlying25 rfl Z2.out ?_)
        | (refine wpList_load_valg 25 _ rfl ?_ (g + 1) _ rfl _ A2.out _ Tryz.underlying25 rfl Z2.out ?_; · kernel_rfl))
      refine CL.out.mono ?_
      rintro e W3 ⟨C3, rfl, o, f⟩
      replace B1 := Lib.hid (keepB B1.out f)
      replace A1 := Lib.hid (blk_all B1.out)
      replace B2 := Lib.hid (keepB B2.out f)
      replace A2 := Lib.hid (blk_all B2.out)
      replace R1 := Lib.hid (R1.out.far f)
      replace R2 := Lib.hid (R2.out.far f)
      replace F : Hid (Fr (fun _ => False) w W3) := Lib.hid (F.out.trans f (fun _ _ h => h))
      clear CL f d1 d1'
      obtain ⟨k3, n3, t3, l3, ks3, Al3, cl3, Ak3, ck3, -, -, ea, rfl, -, -, -, -⟩ := o.inv
      clear ea
      have R3 := Lib.hid (o.rd.mono (E := fun q => q < W3.heap.size) (fun q hq => hq.2))
      clear o
      go_upto_region 4 with fail
      have lq := B2.out.lt
      refine abs_world (fun W => Hid (Blk W g 25 (vcs k1 n1 t1 Al1 l1.length cl1 Ak1 ks1.length ck1)) ∧ Hid (Blk W (g + 1) 25 (vcs k2 n2 t2 Al2 l2.length cl2 Ak2 ks2.length ck2)) ∧ Hid (Blk W W3.heap.size 25 (vcs k3 n3 t3 Al3 l3.length cl3 Ak3 ks3.length ck3)) ∧ Hid (Fr (fun _ => False) W3 W)) ⟨B1.out.alloc _, B2.out.alloc _, Blk.new W3 _ _, (Fr.refl _ W3).alloc _⟩ ?_
      clear A1 B1
      clear A2 B2
      rintro W4 ⟨B1, B2, B3, f⟩
      obtain ⟨gw, hgw⟩ : ∃ b, W3.heap.size = b := ⟨_, rfl⟩
      rw [hgw] at B3 lq ⊢
      have lgw := lq
      clear lq
      have Sgw := Lib.hid hgw
      clear hgw
      have A1 := Lib.hid (blk_all B1.out)
      have A2 := Lib.hid (blk_all B2.out)
      have A3 := Lib.hid (blk_all B3.out)
      replace R1 := Lib.hid (R1.out.far f.out)
      replace R2 := Lib.hid (R2.out.far f.out)
      replace R3 := Lib.hid (R3.out.far f.out)
      replace F : Hid (Fr (fun _ => False) w W4) := Lib.hid (F.out.trans f.out (fun _ _ h => h))
      have F3 := f
      clear f
      have Z3 := Lib.hid (show (Tryz.prog.info? 25).map (·.size) = some (vcs k3 n3 t3 Al3 l3.length cl3 Ak3 ks3.length ck3).size from lw5)
      rw [Sgw.out] at R3
      have CL := Lib.hid (at_c a W4 R1.out SMa.out (HL.out.far F.out) pth HKL.out)
      have hlo4 := B3.out.lt
      go_wp2_with (first
        | (refine wpList_load_val rfl 25 _ rfl g _ rfl _ A1.out _ Tryz.underlying25 rfl Z1.out ?_)
        | (refine wpList_load_valg 25 _ rfl ?_ g _ rfl _ A1.out _ Tryz.underlying25 rfl Z1.out ?_; · kernel_rfl)
        | (refine wpList_load_val rfl 25 _ rfl (g + 1) _ rfl _ A2.out _ Tryz.underlying25 rfl Z2.out ?_)
        | (refine wpList_load_valg 25 _ rfl ?_ (g + 1) _ rfl _ A2.out _ Tryz.underlying25 rfl Z2.out ?_; · kernel_rfl)
        | (refine wpList_load_val rfl 25 _ rfl gw _ rfl _ A3.out _ Tryz.underlying25 rfl Z3.out ?_)
        | (refine wpList_load_valg 25 _ rfl ?_ gw _ rfl _ A3.out _ Tryz.underlying25 rfl Z3.out ?_; · kernel_rfl))
      refine CL.out.mono ?_
      rintro e W5 ⟨C4, rfl, o, f⟩
      replace B1 := Lib.hid (keepB B1.out f)
      replace A1 := Lib.hid (blk_all B1.out)
      replace B2 := Lib.hid (keepB B2.out f)
      replace A2 := Lib.hid (blk_all B2.out)
      replace B3 := Lib.hid (keepB B3.out f)
      replace A3 := Lib.hid (blk_all B3.out)
      replace R1 := Lib.hid (R1.out.far f)
      replace R2 := Lib.hid (R2.out.far f)
      replace R3 := Lib.hid (R3.out.far f)
      replace F : Hid (Fr (fun _ => False) w W5) := Lib.hid (F.out.trans f (fun _ _ h => h))
      clear CL f
      obtain ⟨k4, n4, t4, l4, ks4, Al4, cl4, Ak4, ck4, -, -, ea, rfl, -, -, -, -⟩ := o.inv
      clear ea
      obtain ⟨code, hcode⟩ : ∃ q, (atO a pth).2 = q := ⟨_, rfl⟩
      obtain ⟨vat, hvat⟩ : ∃ q, (atO a pth).1.getD V.zero = q := ⟨_, rfl⟩
      rw [hvat] at o
      rw [hcode]
      have HCODE := Lib.hid hcode
      have HVAT := Lib.hid hvat
      have SMt : Hid (Sm vat) := Lib.hid (hvat ▸ atO_sm pth SMa.out)
      have O4 := Lib.hid (o.mono (E := fun q => gw < q ∧ q < W5.heap.size) (fun q hq => ⟨by have := hq.1; omega, hq.2⟩))
      clear hcode hvat o hlo4
      go_upto_region 5 with fail
      have lq := B3.out.lt
      refine abs_world (fun W => Hid (Blk W g 25 (vcs k1 n1 t1 Al1 l1.length cl1 Ak1 ks1.length ck1)) ∧ Hid (Blk W (g + 1) 25 (vcs k2 n2 t2 Al2 l2.length cl2 Ak2 ks2.length ck2)) ∧ Hid (Blk W gw 25 (vcs k3 n3 t3 Al3 l3.length cl3 Ak3 ks3.length ck3)) ∧ Hid (Blk W W5.heap.size 25 (vcs k4 n4 t4 Al4 l4.length cl4 Ak4 ks4.length ck4)) ∧ Hid (Fr (fun _ => False) W5 W)) ⟨B1.out.alloc _, B2.out.alloc _, B3.out.alloc _, Blk.new W5 _ _, (Fr.refl _ W5).alloc _⟩ ?_
      clear A1 B1
      clear A2 B2
      clear A3 B3
      rintro W6 ⟨B1, B2, B3, B4, f⟩
      obtain ⟨ga, hga⟩ : ∃ b, W5.heap.size = b := ⟨_, rfl⟩
      rw [hga] at B4 lq ⊢
      have lga := lq
      clear lq
      have Sga := Lib.hid hga
      clear hga
      have A1 := Lib.hid (blk_all B1.out)
      have A2 := Lib.hid (blk_all B2.out)
      have A3 := Lib.hid (blk_all B3.out)
      have A4 := Lib.hid (blk_all B4.out)
      replace R1 := Lib.hid (R1.out.far f.out)
      replace R2 := Lib.hid (R2.out.far f.out)
      replace R3 := Lib.hid (R3.out.far f.out)
      replace O4 := Lib.hid (O4.out.far f.out)
      replace F : Hid (Fr (fun _ => False) w W6) := Lib.hid (F.out.trans f.out (fun _ _ h => h))
      have F4 := f
      clear f
      have Z4 := Lib.hid (show (Tryz.prog.info? 25).map (·.size) = some (vcs k4 n4 t4 Al4 l4.length cl4 Ak4 ks4.length ck4).size from lw5)
      rw [Sga.out] at O4
      go_upto_region 6 with fail
      iterate 8 go_step
      have lq := B4.out.lt
      refine abs_world (fun W => Hid (Blk W g 25 (vcs k1 n1 t1 Al1 l1.length cl1 Ak1 ks1.length ck1)) ∧ Hid (Blk W (g + 1) 25 (vcs k2 n2 t2 Al2 l2.length cl2 Ak2 ks2.length ck2)) ∧ Hid (Blk W gw 25 (vcs k3 n3 t3 Al3 l3.length cl3 Ak3 ks3.length ck3)) ∧ Hid (Blk W ga 25 (vcs k4 n4 t4 Al4 l4.length cl4 Ak4 ks4.length ck4)) ∧ Hid (Blk W W6.heap.size 25 (vcs 0 0 [] none 0 0 none 0 0)) ∧ Hid (Fr (fun _ => False) W6 W)) ⟨B1.out.alloc _, B2.out.alloc _, B3.out.alloc _, B4.out.alloc _, Blk.new W6 _ _, (Fr.refl _ W6).alloc _⟩ ?_
      clear A1 B1
      clear A2 B2
      clear A3 B3
      clear A4 B4
      rintro W7 ⟨B1, B2, B3, B4, Bt, f⟩
      obtain ⟨gt, hgt⟩ : ∃ b, W6.heap.size = b := ⟨_, rfl⟩
      rw [hgt] at Bt lq ⊢
      have lgt := lq
      clear lq
      have Sgt := Lib.hid hgt
      clear hgt
      have A1 := Lib.hid (blk_all B1.out)
      have A2 := Lib.hid (blk_all B2.out)
      have A3 := Lib.hid (blk_all B3.out)
      have A4 := Lib.hid (blk_all B4.out)
      have At := Lib.hid (blk_all Bt.out)
      replace R1 := Lib.hid (R1.out.far f.out)
      replace R2 := Lib.hid (R2.out.far f.out)
      replace R3 := Lib.hid (R3.out.far f.out)
      replace O4 := Lib.hid (O4.out.far f.out)
      replace F : Hid (Fr (fun _ => False) w W7) := Lib.hid (F.out.trans f.out (fun _ _ h => h))
      have Ft := f
      clear f
      have Zt := Lib.hid (show (Tryz.prog.info? 25).map (·.size) = some (vcs 0 0 [] none 0 0 none 0 0).size from lw5)
      go_cut [10] from 12 to 157 (fun wv W => wv = .int .i64 code ∧ ∃ C5, Hid (Blk W gt 25 C5) ∧ C5.size = 5 ∧ Hid (RdV (fun _ => True) W C5 vat) ∧ Hid (Fr (fun q => q = gt) W7 W))
      case first =>
        have MC := Lib.hid (rmay_of rfields_c a W7 R1.out LGa.out)
        cases hm : mayV a with
        | false =>
          have HAT : Hid (atO a pth = (none, 1)) := Lib.hid (by unfold atO; rw [if_pos (.inl hm)])
          rw [hm] at MC
          clear hm
          go_wp2_with (first
            | (refine wpList_load_val rfl 25 _ rfl g _ rfl _ A1.out _ Tryz.underlying25 rfl Z1.out ?_)
            | (refine wpList_load_valg 25 _ rfl ?_ g _ rfl _ A1.out _ Tryz.underlying25 rfl Z1.out ?_; · kernel_rfl)
            | (refine wpList_load_val rfl 25 _ rfl (g + 1) _ rfl _ A2.out _ Tryz.underlying25 rfl Z2.out ?_)
            | (refine wpList_load_valg 25 _ rfl ?_ (g + 1) _ rfl _ A2.out _ Tryz.underlying25 rfl Z2.out ?_; · kernel_rfl)
            | (refine wpList_load_val rfl 25 _ rfl gw _ rfl _ A3.out _ Tryz.underlying25 rfl Z3.out ?_)
            | (refine wpList_load_valg 25 _ rfl ?_ gw _ rfl _ A3.out _ Tryz.underlying25 rfl Z3.out ?_; · kernel_rfl)
            | (refine wpList_load_val rfl 25 _ rfl ga _ rfl _ A4.out _ Tryz.underlying25 rfl Z4.out ?_)
            | (refine wpList_load_valg 25 _ rfl ?_ ga _ rfl _ A4.out _ Tryz.underlying25 rfl Z4.out ?_; · kernel_rfl)
            | (refine wpList_load_val rfl 25 _ rfl gt _ rfl _ At.out _ Tryz.underlying25 rfl Zt.out ?_)
            | (refine wpList_load_valg 25 _ rfl ?_ gt _ rfl _ At.out _ Tryz.underlying25 rfl Zt.out ?_; · kernel_rfl))
          refine MC.out.mono ?_
          rintro e W8 ⟨rfl, f⟩
          have FT : Hid (Fr (fun q => q = gt) W7 W8) := Lib.hid (f.mono (fun _ _ h => h.elim))
          replace B1 := Lib.hid (keepB B1.out f)
          replace A1 := Lib.hid (blk_all B1.out)
          replace B2 := Lib.hid (keepB B2.out f)
          replace A2 := Lib.hid (blk_all B2.out)
          replace B3 := Lib.hid (keepB B3.out f)
          replace A3 := Lib.hid (blk_all B3.out)
          replace B4 := Lib.hid (keepB B4.out f)
          replace A4 := Lib.hid (blk_all B4.out)
          replace Bt := Lib.hid (keepB Bt.out f)
          replace At := Lib.hid (blk_all Bt.out)
          replace R1 := Lib.hid (R1.out.far f)
          replace R2 := Lib.hid (R2.out.far f)
          replace R3 := Lib.hid (R3.out.far f)
          replace O4 := Lib.hid (O4.out.far f)
          replace F : Hid (Fr (fun _ => False) w W8) := Lib.hid (F.out.trans f (fun _ _ h => h))
          clear MC f
          go_wp2_with fail
          go_meet
          have e1 : code = 1 := by rw [← HCODE.out, HAT.out]
          have e2 : vat = V.zero := by rw [← HVAT.out, HAT.out]; rfl
          exact ⟨by rw [e1], _, Bt.out, rfl, by rw [e2]; exact RdV.zero _ _, FT.out⟩
        | true =>
          rw [hm] at MC
          by_cases hp0 : pth = []
          case pos =>
            have HAT : Hid (atO a pth = (none, 1)) := Lib.hid (by unfold atO; rw [if_pos (.inr hp0)])
            have hst : (strOf pth).toList.isEmpty = true := by rw [strOf_toList, hp0]; rfl
            clear hm hp0
            go_wp2_with (first
              | (refine wpList_load_val rfl 25 _ rfl g _ rfl _ A1.out _ Tryz.underlying25 rfl Z1.out ?_)
              | (refine wpList_load_valg 25 _ rfl ?_ g _ rfl _ A1.out _ Tryz.underlying25 rfl Z1.out ?_; · kernel_rfl)
              | (refine wpList_load_val rfl 25 _ rfl (g + 1) _ rfl _ A2.out _ Tryz.underlying25 rfl Z2.out ?_)
              | (refine wpList_load_valg 25 _ rfl ?_ (g + 1) _ rfl _ A2.out _ Tryz.underlying25 rfl Z2.out ?_; · kernel_rfl)
              | (refine wpList_load_val rfl 25 _ rfl gw _ rfl _ A3.out _ Tryz.underlying25 rfl Z3.out ?_)
              | (refine wpList_load_valg 25 _ rfl ?_ gw _ rfl _ A3.out _ Tryz.underlying25 rfl Z3.out ?_; · kernel_rfl)
              | (refine wpList_load_val rfl 25 _ rfl ga _ rfl _ A4.out _ Tryz.underlying25 rfl Z4.out ?_)
              | (refine wpList_load_valg 25 _ rfl ?_ ga _ rfl _ A4.out _ Tryz.underlying25 rfl Z4.out ?_; · kernel_rfl)
              | (refine wpList_load_val rfl 25 _ rfl gt _ rfl _ At.out _ Tryz.underlying25 rfl Zt.out ?_)
              | (refine wpList_load_valg 25 _ rfl ?_ gt _ rfl _ At.out _ Tryz.underlying25 rfl Zt.out ?_; · kernel_rfl))
            refine MC.out.mono ?_
            rintro e W8 ⟨rfl, f⟩
            have FT : Hid (Fr (fun q => q = gt) W7 W8) := Lib.hid (f.mono (fun _ _ h => h.elim))
            replace B1 := Lib.hid (keepB B1.out f)
            replace A1 := Lib.hid (blk_all B1.out)
            replace B2 := Lib.hid (keepB B2.out f)
            replace A2 := Lib.hid (blk_all B2.out)
            replace B3 := Lib.hid (keepB B3.out f)
            replace A3 := Lib.hid (blk_all B3.out)
            replace B4 := Lib.hid (keepB B4.out f)
            replace A4 := Lib.hid (blk_all B4.out)
            replace Bt := Lib.hid (keepB Bt.out f)
            replace At := Lib.hid (blk_all Bt.out)
            replace R1 := Lib.hid (R1.out.far f)
            replace R2 := Lib.hid (R2.out.far f)
            replace R3 := Lib.hid (R3.out.far f)
            replace O4 := Lib.hid (O4.out.far f)
            replace F : Hid (Fr (fun _ => False) w W8) := Lib.hid (F.out.trans f (fun _ _ h => h))
            clear MC f
            go_wp2_with fail
            go_meet
            have e1 : code = 1 := by rw [← HCODE.out, HAT.out]
            have e2 : vat = V.zero := by rw [← HVAT.out, HAT.out]; rfl
            exact ⟨by rw [e1], _, Bt.out, rfl, by rw [e2]; exact RdV.zero _ _, FT.out⟩
          case neg =>
            have HAT : Hid (atO a pth = match atV a (comps pth) with | none => (none, 4) | some x => (some x, 0)) := Lib.hid (by unfold atO; rw [if_neg (by simp [hm, hp0])]; cases atV a (comps pth) <;> rfl)
            have hst : (strOf pth).toList.isEmpty = false := by
              rw [strOf_toList]
              simpa using hp0
            have HFV : Hid (fieldsV a = true) := Lib.hid (may_fields hm).1
            clear hm hp0
            go_wp2_with (first
              | (refine wpList_load_val rfl 25 _ rfl g _ rfl _ A1.out _ Tryz.underlying25 rfl Z1.out ?_)
              | (refine wpList_load_valg 25 _ rfl ?_ g _ rfl _ A1.out _ Tryz.underlying25 rfl Z1.out ?_; · kernel_rfl)
              | (refine wpList_load_val rfl 25 _ rfl (g + 1) _ rfl _ A2.out _ Tryz.underlying25 rfl Z2.out ?_)
              | (refine wpList_load_valg 25 _ rfl ?_ (g + 1) _ rfl _ A2.out _ Tryz.underlying25 rfl Z2.out ?_; · kernel_rfl)
              | (refine wpList_load_val rfl 25 _ rfl gw _ rfl _ A3.out _ Tryz.underlying25 rfl Z3.out ?_)
              | (refine wpList_load_valg 25 _ rfl ?_ gw _ rfl _ A3.out _ Tryz.underlying25 rfl Z3.out ?_; · kernel_rfl)
              | (refine wpList_load_val rfl 25 _ rfl ga _ rfl _ A4.out _ Tryz.underlying25 rfl Z4.out ?_)
              | (refine wpList_load_valg 25 _ rfl ?_ ga _ rfl _ A4.out _ Tryz.underlying25 rfl Z4.out ?_; · kernel_rfl)
              | (refine wpList_load_val rfl 25 _ rfl gt _ rfl _ At.out _ Tryz.underlying25 rfl Zt.out ?_)
              | (refine wpList_load_valg 25 _ rfl ?_ gt _ rfl _ At.out _ Tryz.underlying25 rfl Zt.out ?_; · kernel_rfl))
            refine MC.out.mono ?_
            rintro e W8 ⟨rfl, f⟩
            have FT : Hid (Fr (fun q => q = gt) W7 W8) := Lib.hid (f.mono (fun _ _ h => h.elim))
            replace B1 := Lib.hid (keepB B1.out f)
            replace A1 := Lib.hid (blk_all B1.out)
            replace B2 := Lib.hid (keepB B2.out f)
            replace A2 := Lib.hid (blk_all B2.out)
            replace B3 := Lib.hid (keepB B3.out f)
            replace A3 := Lib.hid (blk_all B3.out)
            replace B4 := Lib.hid (keepB B4.out f)
            replace A4 := Lib.hid (blk_all B4.out)
            replace Bt := Lib.hid (keepB Bt.out f)
            replace At := Lib.hid (blk_all Bt.out)
            replace R1 := Lib.hid (R1.out.far f)
            replace R2 := Lib.hid (R2.out.far f)
            replace R3 := Lib.hid (R3.out.far f)
            replace O4 := Lib.hid (O4.out.far f)
            replace F : Hid (Fr (fun _ => False) w W8) := Lib.hid (F.out.trans f (fun _ _ h => h))
            clear MC f
            have AC := Lib.hid (rat_c a W8 R1.out HFV.out pth HKL.out)
            go_wp2_with (first
              | (refine wpList_load_val rfl 25 _ rfl g _ rfl _ A1.out _ Tryz.underlying25 rfl Z1.out ?_)
              | (refine wpList_load_valg 25 _ rfl ?_ g _ rfl _ A1.out _ Tryz.underlying25 rfl Z1.out ?_; · kernel_rfl)
              | (refine wpList_load_val rfl 25 _ rfl (g + 1) _ rfl _ A2.out _ Tryz.underlying25 rfl Z2.out ?_)
              | (refine wpList_load_valg 25 _ rfl ?_ (g + 1) _ rfl _ A2.out _ Tryz.underlying25 rfl Z2.out ?_; · kernel_rfl)
              | (refine wpList_load_val rfl 25 _ rfl gw _ rfl _ A3.out _ Tryz.underlying25 rfl Z3.out ?_)
              | (refine wpList_load_valg 25 _ rfl ?_ gw _ rfl _ A3.out _ Tryz.underlying25 rfl Z3.out ?_; · kernel_rfl)
              | (refine wpList_load_val rfl 25 _ rfl ga _ rfl _ A4.out _ Tryz.underlying25 rfl Z4.out ?_)
              | (refine wpList_load_valg 25 _ rfl ?_ ga _ rfl _ A4.out _ Tryz.underlying25 rfl Z4.out ?_; · kernel_rfl)
              | (refine wpList_load_val rfl 25 _ rfl gt _ rfl _ At.out _ Tryz.underlying25 rfl Zt.out ?_)
              | (refine wpList_load_valg 25 _ rfl ?_ gt _ rfl _ At.out _ Tryz.underlying25 rfl Zt.out ?_; · kernel_rfl))
            refine AC.out.mono ?_
            rintro e W9 ⟨C9, rfl, r9, f⟩
            replace FT : Hid (Fr (fun q => q = gt) W7 W9) := Lib.hid (FT.out.trans f (fun _ _ h => h.elim))
            replace B1 := Lib.hid (keepB B1.out f)
            replace A1 := Lib.hid (blk_all B1.out)
            replace B2 := Lib.hid (keepB B2.out f)
            replace A2 := Lib.hid (blk_all B2.out)
            replace B3 := Lib.hid (keepB B3.out f)
            replace A3 := Lib.hid (blk_all B3.out)
            replace B4 := Lib.hid (keepB B4.out f)
            replace A4 := Lib.hid (blk_all B4.out)
            replace Bt := Lib.hid (keepB Bt.out f)
            replace At := Lib.hid (blk_all Bt.out)
            replace R1 := Lib.hid (R1.out.far f)
            replace R2 := Lib.hid (R2.out.far f)
            replace R3 := Lib.hid (R3.out.far f)
            replace O4 := Lib.hid (O4.out.far f)
            replace F : Hid (Fr (fun _ => False) w W9) := Lib.hid (F.out.trans f (fun _ _ h => h))
            clear AC f
            obtain ⟨k9, n9, t9, l9, ks9, Al9, cl9, Ak9, ck9, -, -, rfl, -⟩ := r9.inv
            have R9 := Lib.hid r9
            clear r9
            cases hv : atV a (comps pth) with
            | none =>
              rw [hv] at HAT R9
              have hsome : (none : Option V).isSome = false := rfl
              rw [hsome]
              clear hv hsome
              obtain ⟨y0, hy0⟩ : ∃ q, (none : Option V).getD V.zero = q := ⟨_, rfl⟩
              rw [hy0] at R9
              have HY0 := Lib.hid hy0
              clear hy0
              go_upto_region 10 with fail
              have lq := Bt.out.lt
              refine abs_world (fun W => Hid (Blk W g 25 (vcs k1 n1 t1 Al1 l1.length cl1 Ak1 ks1.length ck1)) ∧ Hid (Blk W (g + 1) 25 (vcs k2 n2 t2 Al2 l2.length cl2 Ak2 ks2.length ck2)) ∧ Hid (Blk W gw 25 (vcs k3 n3 t3 Al3 l3.length cl3 Ak3 ks3.length ck3)) ∧ Hid (Blk W ga 25 (vcs k4 n4 t4 Al4 l4.length cl4 Ak4 ks4.length ck4)) ∧ Hid (Blk W gt 25 (vcs 0 0 [] none 0 0 none 0 0)) ∧ Hid (Blk W W9.heap.size 25 (vcs k9 n9 t9 Al9 l9.length cl9 Ak9 ks9.length ck9)) ∧ Hid (Fr (fun _ => False) W9 W)) ⟨B1.out.alloc _, B2.out.alloc _, B3.out.alloc _, B4.out.alloc _, Bt.out.alloc _, Blk.new W9 _ _, (Fr.refl _ W9).alloc _⟩ ?_
              clear A1 B1
              clear A2 B2
              clear A3 B3
              clear A4 B4
              clear At Bt
              rintro W10 ⟨B1, B2, B3, B4, Bt, B9, f⟩
              obtain ⟨gy, hgy⟩ : ∃ b, W9.heap.size = b := ⟨_, rfl⟩
              rw [hgy] at B9 lq ⊢
              have lgy := lq
              clear lq
              have Sgy := Lib.hid hgy
              clear hgy
              have A1 := Lib.hid (blk_all B1.out)
              have A2 := Lib.hid (blk_all B2.out)
              have A3 := Lib.hid (blk_all B3.out)
              have A4 := Lib.hid (blk_all B4.out)
              have At := Lib.hid (blk_all Bt.out)
              have A9 := Lib.hid (blk_all B9.out)
              replace R1 := Lib.hid (R1.out.far f.out)
              replace R2 := Lib.hid (R2.out.far f.out)
              replace R3 := Lib.hid (R3.out.far f.out)
              replace R9 := Lib.hid (R9.out.far f.out)
              replace O4 := Lib.hid (O4.out.far f.out)
              replace F : Hid (Fr (fun _ => False) w W10) := Lib.hid (F.out.trans f.out (fun _ _ h => h))
              have F9 := f
              clear f
              have Z9 := Lib.hid (show (Tryz.prog.info? 25).map (·.size) = some (vcs k9 n9 t9 Al9 l9.length cl9 Ak9 ks9.length ck9).size from lw5)
              replace FT : Hid (Fr (fun q => q = gt) W7 W10) := Lib.hid (FT.out.trans F9.out (fun _ _ h => h.elim))
              go_wp2_with fail
              go_meet
              have e1 : code = 4 := by rw [← HCODE.out, HAT.out]
              have e2 : vat = V.zero := by rw [← HVAT.out, HAT.out]; rfl
              exact ⟨by rw [e1], _, Bt.out, rfl, by rw [e2]; exact RdV.zero _ _, FT.out⟩
            | some y =>
              rw [hv] at HAT R9
              have hsome : (some y : Option V).isSome = true := rfl
              rw [hsome]
              clear hv hsome
              obtain ⟨y0, hy0⟩ : ∃ q, (some y : Option V).getD V.zero = q := ⟨_, rfl⟩
              rw [hy0] at R9
              have HY0 := Lib.hid hy0
              clear hy0
              go_upto_region 10 with fail
              have lq := Bt.out.lt
              refine abs_world (fun W => Hid (Blk W g 25 (vcs k1 n1 t1 Al1 l1.length cl1 Ak1 ks1.length ck1)) ∧ Hid (Blk W (g + 1) 25 (vcs k2 n2 t2 Al2 l2.length cl2 Ak2 ks2.length ck2)) ∧ Hid (Blk W gw 25 (vcs k3 n3 t3 Al3 l3.length cl3 Ak3 ks3.length ck3)) ∧ Hid (Blk W ga 25 (vcs k4 n4 t4 Al4 l4.length cl4 Ak4 ks4.length ck4)) ∧ Hid (Blk W gt 25 (vcs 0 0 [] none 0 0 none 0 0)) ∧ Hid (Blk W W9.heap.size 25 (vcs k9 n9 t9 Al9 l9.length cl9 Ak9 ks9.length ck9)) ∧ Hid (Fr (fun _ => False) W9 W)) ⟨B1.out.alloc _, B2.out.alloc _, B3.out.alloc _, B4.out.alloc _, Bt.out.alloc _, Blk.new W9 _ _, (Fr.refl _ W9).alloc _⟩ ?_
              clear A1 B1
              clear A2 B2
              clear A3 B3
              clear A4 B4
              clear At Bt
              rintro W10 ⟨B1, B2, B3, B4, Bt, B9, f⟩
              obtain ⟨gy, hgy⟩ : ∃ b, W9.heap.size = b := ⟨_, rfl⟩
              rw [hgy] at B9 lq ⊢
              have lgy := lq
              clear lq
              have Sgy := Lib.hid hgy
              clear hgy
              have A1 := Lib.hid (blk_all B1.out)
              have A2 := Lib.hid (blk_all B2.out)
              have A3 := Lib.hid (blk_all B3.out)
              have A4 := Lib.hid (blk_all B4.out)
              have At := Lib.hid (blk_all Bt.out)
              have A9 := Lib.hid (blk_all B9.out)
              replace R1 := Lib.hid (R1.out.far f.out)
              replace R2 := Lib.hid (R2.out.far f.out)
              replace R3 := Lib.hid (R3.out.far f.out)
              replace R9 := Lib.hid (R9.out.far f.out)
              replace O4 := Lib.hid (O4.out.far f.out)
              replace F : Hid (Fr (fun _ => False) w W10) := Lib.hid (F.out.trans f.out (fun _ _ h => h))
              have F9 := f
              clear f
              have Z9 := Lib.hid (show (Tryz.prog.info? 25).map (·.size) = some (vcs k9 n9 t9 Al9 l9.length cl9 Ak9 ks9.length ck9).size from lw5)
              replace FT : Hid (Fr (fun q => q = gt) W7 W10) := Lib.hid (FT.out.trans F9.out (fun _ _ h => h.elim))
              have O9 := Lib.hid (oneV R9.out)
              go_wp2_with (first
                | (refine wpList_load_val rfl 25 _ rfl gy _ rfl _ A9.out _ Tryz.underlying25 rfl Z9.out ?_)
                | (refine wpList_store_blk rfl 25 _ _ rfl gt _ rfl rfl Bt.out rfl Z9.out O9.out ?_
                   intro WW qq ff
                   have FF := Lib.hid ff
                   have QQ := Lib.hid qq
                   clear qq ff))
              go_meet
              have e1 : code = 0 := by rw [← HCODE.out, HAT.out]
              have e2 : vat = y0 := by rw [← HVAT.out, HAT.out, ← HY0.out]
              exact ⟨by rw [e1], _, QQ.out, rfl, by rw [e2]; exact (R9.out.fr FF.out (fun q hq e => by have h1 : q < g := hq; omega)).mono (fun _ _ => trivial), FT.out.trans FF.out (fun _ _ h => h)⟩
      case rest =>
        obtain ⟨rfl, C5, b5, z5, r5, ft⟩ := hcut
        obtain ⟨W8, hwe⟩ : ∃ W8 : World, W8 = wc := ⟨_, rfl⟩
        subst hwe
        replace B1 := Lib.hid (B1.out.fr ft.out ((fun e => by (try dsimp only at e); omega)))
        replace A1 := Lib.hid (blk_all B1.out)
        replace B2 := Lib.hid (B2.out.fr ft.out ((fun e => by (try dsimp only at e); omega)))
        replace A2 := Lib.hid (blk_all B2.out)
        replace B3 := Lib.hid (B3.out.fr ft.out ((fun e => by (try dsimp only at e); omega)))
        replace A3 := Lib.hid (blk_all B3.out)
        replace B4 := Lib.hid (B4.out.fr ft.out ((fun e => by (try dsimp only at e); omega)))
        replace A4 := Lib.hid (blk_all B4.out)
        replace R1 := Lib.hid (R1.out.fr ft.out (fun q hq e => by (try dsimp only at hq); (try dsimp only at e); omega))
        replace R2 := Lib.hid (R2.out.fr ft.out (fun q hq e => by (try dsimp only at hq); (try dsimp only at e); omega))
        replace R3 := Lib.hid (R3.out.fr ft.out (fun q hq e => by (try dsimp only at hq); (try dsimp only at e); omega))
        replace O4 := Lib.hid (O4.out.fr ft.out (fun q hq e => by (try dsimp only at hq); (try dsimp only at e); omega))
        replace F : Hid (Fr (fun _ => False) w W8) := Lib.hid (F.out.trans ft.out (fun q hq e => by (try dsimp only at e); have := HG.out; omega))
        clear Bt At Zt
        have B5 := b5
        have A5 := Lib.hid (blk_all B5.out)
        have Z5 := Lib.hid (szV r5.out)
        have R5 := r5
        clear b5 r5 ft
        have hcc : (code != code) = false := by simp
        have CL := Lib.hid (rsame_c vat vat W8 _ _ _ _ O4.out.rd R5.out)
        rw [(eqv_iff vat vat).2 rfl] at CL
        go_wp2_with (first
          | (refine wpList_load_val rfl 25 _ rfl g _ rfl _ A1.out _ Tryz.underlying25 rfl Z1.out ?_)
          | (refine wpList_load_valg 25 _ rfl ?_ g _ rfl _ A1.out _ Tryz.underlying25 rfl Z1.out ?_; · kernel_rfl)
          | (refine wpList_load_val rfl 25 _ rfl (g + 1) _ rfl _ A2.out _ Tryz.underlying25 rfl Z2.out ?_)
          | (refine wpList_load_valg 25 _ rfl ?_ (g + 1) _ rfl _ A2.out _ Tryz.underlying25 rfl Z2.out ?_; · kernel_rfl)
          | (refine wpList_load_val rfl 25 _ rfl gw _ rfl _ A3.out _ Tryz.underlying25 rfl Z3.out ?_)
          | (refine wpList_load_valg 25 _ rfl ?_ gw _ rfl _ A3.out _ Tryz.underlying25 rfl Z3.out ?_; · kernel_rfl)
          | (refine wpList_load_val rfl 25 _ rfl ga _ rfl _ A4.out _ Tryz.underlying25 rfl Z4.out ?_)
          | (refine wpList_load_valg 25 _ rfl ?_ ga _ rfl _ A4.out _ Tryz.underlying25 rfl Z4.out ?_; · kernel_rfl)
          | (refine wpList_load_val rfl 25 _ rfl gt _ rfl _ A5.out _ Tryz.underlying25 rfl Z5.out ?_)
          | (refine wpList_load_valg 25 _ rfl ?_ gt _ rfl _ A5.out _ Tryz.underlying25 rfl Z5.out ?_; · kernel_rfl))
        refine CL.out.mono ?_
        rintro e W9 ⟨rfl, f⟩
        replace B1 := Lib.hid (keepB B1.out f)
        replace A1 := Lib.hid (blk_all B1.out)
        replace B2 := Lib.hid (keepB B2.out f)
        replace A2 := Lib.hid (blk_all B2.out)
        replace B3 := Lib.hid (keepB B3.out f)
        replace A3 := Lib.hid (blk_all B3.out)
        replace B4 := Lib.hid (keepB B4.out f)
        replace A4 := Lib.hid (blk_all B4.out)
        replace B5 := Lib.hid (keepB B5.out f)
        replace A5 := Lib.hid (blk_all B5.out)
        replace R1 := Lib.hid (R1.out.far f)
        replace R2 := Lib.hid (R2.out.far f)
        replace R3 := Lib.hid (R3.out.far f)
        replace R5 := Lib.hid (R5.out.far f)
        replace O4 := Lib.hid (O4.out.far f)
        replace F : Hid (Fr (fun _ => False) w W9) := Lib.hid (F.out.trans f (fun _ _ h => h))
        clear CL f
        clear R5
        have CL := Lib.hid (put_c a b W9 R1.out R2.out SMa.out SMb.out (HL.out.far F.out) pth HKL.out)
        have hlo6 := B5.out.lt
        go_wp2_with (first
          | (refine wpList_load_val rfl 25 _ rfl g _ rfl _ A1.out _ Tryz.underlying25 rfl Z1.out ?_)
          | (refine wpList_load_valg 25 _ rfl ?_ g _ rfl _ A1.out _ Tryz.underlying25 rfl Z1.out ?_; · kernel_rfl)
          | (refine wpList_load_val rfl 25 _ rfl (g + 1) _ rfl _ A2.out _ Tryz.underlying25 rfl Z2.out ?_)
          | (refine wpList_load_valg 25 _ rfl ?_ (g + 1) _ rfl _ A2.out _ Tryz.underlying25 rfl Z2.out ?_; · kernel_rfl)
          | (refine wpList_load_val rfl 25 _ rfl gw _ rfl _ A3.out _ Tryz.underlying25 rfl Z3.out ?_)
          | (refine wpList_load_valg 25 _ rfl ?_ gw _ rfl _ A3.out _ Tryz.underlying25 rfl Z3.out ?_; · kernel_rfl)
          | (refine wpList_load_val rfl 25 _ rfl ga _ rfl _ A4.out _ Tryz.underlying25 rfl Z4.out ?_)
          | (refine wpList_load_valg 25 _ rfl ?_ ga _ rfl _ A4.out _ Tryz.underlying25 rfl Z4.out ?_; · kernel_rfl)
          | (refine wpList_load_val rfl 25 _ rfl gt _ rfl _ A5.out _ Tryz.underlying25 rfl Z5.out ?_)
          | (refine wpList_load_valg 25 _ rfl ?_ gt _ rfl _ A5.out _ Tryz.underlying25 rfl Z5.out ?_; · kernel_rfl))
        refine CL.out.mono ?_
        rintro e W10 ⟨C6, rfl, o, f⟩
        replace B1 := Lib.hid (keepB B1.out f)
        replace A1 := Lib.hid (blk_all B1.out)
        replace B2 := Lib.hid (keepB B2.out f)
        replace A2 := Lib.hid (blk_all B2.out)
        replace B3 := Lib.hid (keepB B3.out f)
        replace A3 := Lib.hid (blk_all B3.out)
        replace B4 := Lib.hid (keepB B4.out f)
        replace A4 := Lib.hid (blk_all B4.out)
        replace B5 := Lib.hid (keepB B5.out f)
        replace A5 := Lib.hid (blk_all B5.out)
        replace R1 := Lib.hid (R1.out.far f)
        replace R2 := Lib.hid (R2.out.far f)
        replace R3 := Lib.hid (R3.out.far f)
        replace O4 := Lib.hid (O4.out.far f)
        replace F : Hid (Fr (fun _ => False) w W10) := Lib.hid (F.out.trans f (fun _ _ h => h))
        clear CL f
        obtain ⟨k6, n6, t6, l6, ks6, Al6, cl6, Ak6, ck6, -, -, ea, rfl, -, -, -, -⟩ := o.inv
        clear ea
        obtain ⟨sb, hsb⟩ : ∃ q, (putO a pth b).isSome = q := ⟨_, rfl⟩
        obtain ⟨vb, hvb⟩ : ∃ q, (putO a pth b).getD V.zero = q := ⟨_, rfl⟩
        rw [hvb] at o
        obtain ⟨c6, hc6⟩ : ∃ q : Int, (if sb = true then (0 : Int) else 1) = q := ⟨_, rfl⟩
        rw [hsb, hc6]
        have HSB := Lib.hid hsb
        have HVB := Lib.hid hvb
        have HC6 := Lib.hid hc6
        have O6 := Lib.hid (o.mono (E := fun q => gt < q ∧ q < W10.heap.size) (fun q hq => ⟨by have := hq.1; omega, hq.2⟩))
        clear hsb hvb hc6 o hlo6
        go_upto_region 16 with fail
        have lq := B5.out.lt
        refine abs_world (fun W => Hid (Blk W g 25 (vcs k1 n1 t1 Al1 l1.length cl1 Ak1 ks1.length ck1)) ∧ Hid (Blk W (g + 1) 25 (vcs k2 n2 t2 Al2 l2.length cl2 Ak2 ks2.length ck2)) ∧ Hid (Blk W gw 25 (vcs k3 n3 t3 Al3 l3.length cl3 Ak3 ks3.length ck3)) ∧ Hid (Blk W ga 25 (vcs k4 n4 t4 Al4 l4.length cl4 Ak4 ks4.length ck4)) ∧ Hid (Blk W gt 25 (C5)) ∧ Hid (Blk W W10.heap.size 25 (vcs k6 n6 t6 Al6 l6.length cl6 Ak6 ks6.length ck6)) ∧ Hid (Fr (fun _ => False) W10 W)) ⟨B1.out.alloc _, B2.out.alloc _, B3.out.alloc _, B4.out.alloc _, B5.out.alloc _, Blk.new W10 _ _, (Fr.refl _ W10).alloc _⟩ ?_
        clear A1 B1
        clear A2 B2
        clear A3 B3
        clear A4 B4
        clear A5 B5
        rintro W11 ⟨B1, B2, B3, B4, B5, B6, f⟩
        obtain ⟨gb, hgb⟩ : ∃ b, W10.heap.size = b := ⟨_, rfl⟩
        rw [hgb] at B6 lq ⊢
        have lgb := lq
        clear lq
        have Sgb := Lib.hid hgb
        clear hgb
        have A1 := Lib.hid (blk_all B1.out)
        have A2 := Lib.hid (blk_all B2.out)
        have A3 := Lib.hid (blk_all B3.out)
        have A4 := Lib.hid (blk_all B4.out)
        have A5 := Lib.hid (blk_all B5.out)
        have A6 := Lib.hid (blk_all B6.out)
        replace R1 := Lib.hid (R1.out.far f.out)
        replace R2 := Lib.hid (R2.out.far f.out)
        replace R3 := Lib.hid (R3.out.far f.out)
        replace O4 := Lib.hid (O4.out.far f.out)
        replace O6 := Lib.hid (O6.out.far f.out)
        replace F : Hid (Fr (fun _ => False) w W11) := Lib.hid (F.out.trans f.out (fun _ _ h => h))
        have F6 := f
        clear f
        have Z6 := Lib.hid (show (Tryz.prog.info? 25).map (·.size) = some (vcs k6 n6 t6 Al6 l6.length cl6 Ak6 ks6.length ck6).size from lw5)
        rw [Sgb.out] at O6
        go_cut [16] from 19 to 157 (fun gv W => gv = .bool (decide (k1 = 6) && mayV a) ∧ Hid (Fr (fun _ => False) W11 W))
        case first =>
          have c0 : W11.cell? ⟨g, 0, none⟩ = some (.int .i64 k1) := B1.out.cell 0
          by_cases h6 : k1 = 6
          case neg =>
            have e1 : decide (k1 = 6) = false := decide_eq_false h6
            have e1' : (k1 == 6) = false := by simpa using h6
            go_wp2_with fail
            go_meet
            exact ⟨by rw [e1]; rfl, Fr.refl _ _⟩
          case pos =>
            have e1 : decide (k1 = 6) = true := decide_eq_true h6
            have e1' : (k1 == 6) = true := by simpa using h6
            have MC := Lib.hid (rmay_of rfields_c a W11 R1.out LGa.out)
            obtain ⟨ma, hma⟩ : ∃ q, mayV a = q := ⟨_, rfl⟩
            rw [hma] at MC
            have HMA := Lib.hid hma
            clear h6 hma
            go_wp2_with (first
              | (refine wpList_load_val rfl 25 _ rfl g _ rfl _ A1.out _ Tryz.underlying25 rfl Z1.out ?_)
              | (refine wpList_load_valg 25 _ rfl ?_ g _ rfl _ A1.out _ Tryz.underlying25 rfl Z1.out ?_; · kernel_rfl)
              | (refine wpList_load_val rfl 25 _ rfl (g + 1) _ rfl _ A2.out _ Tryz.underlying25 rfl Z2.out ?_)
              | (refine wpList_load_valg 25 _ rfl ?_ (g + 1) _ rfl _ A2.out _ Tryz.underlying25 rfl Z2.out ?_; · kernel_rfl)
              | (refine wpList_load_val rfl 25 _ rfl gw _ rfl _ A3.out _ Tryz.underlying25 rfl Z3.out ?_)
              | (refine wpList_load_valg 25 _ rfl ?_ gw _ rfl _ A3.out _ Tryz.underlying25 rfl Z3.out ?_; · kernel_rfl)
              | (refine wpList_load_val rfl 25 _ rfl ga _ rfl _ A4.out _ Tryz.underlying25 rfl Z4.out ?_)
              | (refine wpList_load_valg 25 _ rfl ?_ ga _ rfl _ A4.out _ Tryz.underlying25 rfl Z4.out ?_; · kernel_rfl)
              | (refine wpList_load_val rfl 25 _ rfl gt _ rfl _ A5.out _ Tryz.underlying25 rfl Z5.out ?_)
              | (refine wpList_load_valg 25 _ rfl ?_ gt _ rfl _ A5.out _ Tryz.underlying25 rfl Z5.out ?_; · kernel_rfl)
              | (refine wpList_load_val rfl 25 _ rfl gb _ rfl _ A6.out _ Tryz.underlying25 rfl Z6.out ?_)
              | (refine wpList_load_valg 25 _ rfl ?_ gb _ rfl _ A6.out _ Tryz.underlying25 rfl Z6.out ?_; · kernel_rfl))
            refine MC.out.mono ?_
            rintro e W12 ⟨rfl, f⟩
            have FF := Lib.hid f
            clear f
            go_wp2_with fail
            go_meet
            exact ⟨by rw [e1, HMA.out]; rfl, FF.out⟩
        case rest =>
          obtain ⟨rfl, ft⟩ := hcut
          obtain ⟨W12, hwe⟩ : ∃ q : World, q = wc := ⟨_, rfl⟩
          subst hwe
          replace B1 := Lib.hid (keepB B1.out ft.out)
          replace A1 := Lib.hid (blk_all B1.out)
          replace B2 := Lib.hid (keepB B2.out ft.out)
          replace A2 := Lib.hid (blk_all B2.out)
          replace B3 := Lib.hid (keepB B3.out ft.out)
          replace A3 := Lib.hid (blk_all B3.out)
          replace B4 := Lib.hid (keepB B4.out ft.out)
          replace A4 := Lib.hid (blk_all B4.out)
          replace B5 := Lib.hid (keepB B5.out ft.out)
          replace A5 := Lib.hid (blk_all B5.out)
          replace B6 := Lib.hid (keepB B6.out ft.out)
          replace A6 := Lib.hid (blk_all B6.out)
          replace R1 := Lib.hid (R1.out.far ft.out)
          replace R2 := Lib.hid (R2.out.far ft.out)
          replace R3 := Lib.hid (R3.out.far ft.out)
          replace O4 := Lib.hid (O4.out.far ft.out)
          replace O6 := Lib.hid (O6.out.far ft.out)
          replace F : Hid (Fr (fun _ => False) w W12) := Lib.hid (F.out.trans ft.out (fun _ _ h => h))
          clear ft
          have hsm : sb = (decide (k1 = 6) && mayV a && mayV (putV a pth b)) := by
            rw [← HSB.out, putO_iff]
            have hk : a.k = k1 := by rw [EA.out]; rfl
            rw [hk]
            by_cases h1 : k1 = 6
            · cases h2 : mayV a with
              | false => rw [if_neg (fun h => by simp at h)]; simp
              | true => cases h3 : mayV (putV a pth b) with
                | false => rw [if_neg (fun h => by simp at h)]; simp
                | true => rw [if_pos ⟨h1, rfl, rfl⟩]; simp [h1]
            · rw [if_neg (fun h => h1 h.1)]; simp [h1]
          have HSM := Lib.hid hsm
          clear hsm
          obtain ⟨gd, hgd⟩ : ∃ q, (decide (k1 = 6) && mayV a) = q := ⟨_, rfl⟩
          rw [hgd] at HSM ⊢
          have HGD := Lib.hid hgd
          clear hgd
          go_upto_region 17 with fail
          iterate 8 go_step
          have lq := B6.out.lt
          refine abs_world (fun W => Hid (Blk W g 25 (vcs k1 n1 t1 Al1 l1.length cl1 Ak1 ks1.length ck1)) ∧ Hid (Blk W (g + 1) 25 (vcs k2 n2 t2 Al2 l2.length cl2 Ak2 ks2.length ck2)) ∧ Hid (Blk W gw 25 (vcs k3 n3 t3 Al3 l3.length cl3 Ak3 ks3.length ck3)) ∧ Hid (Blk W ga 25 (vcs k4 n4 t4 Al4 l4.length cl4 Ak4 ks4.length ck4)) ∧ Hid (Blk W gt 25 (C5)) ∧ Hid (Blk W gb 25 (vcs k6 n6 t6 Al6 l6.length cl6 Ak6 ks6.length ck6)) ∧ Hid (Blk W W12.heap.size 25 (vcs 0 0 [] none 0 0 none 0 0)) ∧ Hid (Fr (fun _ => False) W12 W)) ⟨B1.out.alloc _, B2.out.alloc _, B3.out.alloc _, B4.out.alloc _, B5.out.alloc _, B6.out.alloc _, Blk.new W12 _ _, (Fr.refl _ W12).alloc _⟩ ?_
          clear A1 B1
          clear A2 B2
          clear A3 B3
          clear A4 B4
          clear A5 B5
          clear A6 B6
          rintro W13 ⟨B1, B2, B3, B4, B5, B6, Bp, f⟩
          obtain ⟨gp, hgp⟩ : ∃ b, W12.heap.size = b := ⟨_, rfl⟩
          rw [hgp] at Bp lq ⊢
          have lgp := lq
          clear lq
          have Sgp := Lib.hid hgp
          clear hgp
          have A1 := Lib.hid (blk_all B1.out)
          have A2 := Lib.hid (blk_all B2.out)
          have A3 := Lib.hid (blk_all B3.out)
          have A4 := Lib.hid (blk_all B4.out)
          have A5 := Lib.hid (blk_all B5.out)
          have A6 := Lib.hid (blk_all B6.out)
          have Ap := Lib.hid (blk_all Bp.out)
          replace R1 := Lib.hid (R1.out.far f.out)
          replace R2 := Lib.hid (R2.out.far f.out)
          replace R3 := Lib.hid (R3.out.far f.out)
          replace O4 := Lib.hid (O4.out.far f.out)
          replace O6 := Lib.hid (O6.out.far f.out)
          replace F : Hid (Fr (fun _ => False) w W13) := Lib.hid (F.out.trans f.out (fun _ _ h => h))
          have Fp := f
          clear f
          have Zp := Lib.hid (show (Tryz.prog.info? 25).map (·.size) = some (vcs 0 0 [] none 0 0 none 0 0).size from lw5)
          go_cut [16] from 19 to 157 (fun gv W => gv = .bool sb ∧ ∃ C7, Hid (Blk W gp 25 C7) ∧ Hid (C7.size = 5) ∧ Hid (sb = true → RdV (fun _ => True) W C7 (putV a pth b)) ∧ Hid (Fr (fun q => q = gp) W13 W))
          case first =>
            cases gd with
            | false =>
              have HS0 : Hid (sb = false) := Lib.hid (by rw [HSM.out]; rfl)
              go_wp2_with fail
              go_meet
              exact ⟨by rw [HS0.out], _, Bp.out, rfl, Lib.hid (fun h => by rw [HS0.out] at h; cases h), Fr.refl _ _⟩
            | true =>
              have SLT := Lib.hid Bp.out.lt
              have hk6 : a.k = 6 := by
                have h1 := HGD.out
                simp only [Bool.and_eq_true, decide_eq_true_eq] at h1
                rw [EA.out]; exact h1.1
              have hma : mayV a = true := by
                have h1 := HGD.out
                simp only [Bool.and_eq_true] at h1
                exact h1.2
              have RPC := Lib.hid (rput_c a b W13 R1.out R2.out hk6 hma pth (Nat.le_trans HKL.out (by decide)))
              have HPR := Lib.hid (put_pr (x := b) hk6 hma HK2.out NMb.out LGb.out)
              have HPS := Lib.hid (put_sm hk6 hma SMa.out SMb.out HK2.out)
              have HSV : Hid (sb = mayV (putV a pth b)) := Lib.hid (by rw [HSM.out]; rfl)
              clear hk6 hma HGD HSM
              go_wp2_with (first
                | (refine wpList_load_val rfl 25 _ rfl g _ rfl _ A1.out _ Tryz.underlying25 rfl Z1.out ?_)
                | (refine wpList_load_valg 25 _ rfl ?_ g _ rfl _ A1.out _ Tryz.underlying25 rfl Z1.out ?_; · kernel_rfl)
                | (refine wpList_load_val rfl 25 _ rfl (g + 1) _ rfl _ A2.out _ Tryz.underlying25 rfl Z2.out ?_)
                | (refine wpList_load_valg 25 _ rfl ?_ (g + 1) _ rfl _ A2.out _ Tryz.underlying25 rfl Z2.out ?_; · kernel_rfl)
                | (refine wpList_load_val rfl 25 _ rfl gw _ rfl _ A3.out _ Tryz.underlying25 rfl Z3.out ?_)
                | (refine wpList_load_valg 25 _ rfl ?_ gw _ rfl _ A3.out _ Tryz.underlying25 rfl Z3.out ?_; · kernel_rfl)
                | (refine wpList_load_val rfl 25 _ rfl ga _ rfl _ A4.out _ Tryz.underlying25 rfl Z4.out ?_)
                | (refine wpList_load_valg 25 _ rfl ?_ ga _ rfl _ A4.out _ Tryz.underlying25 rfl Z4.out ?_; · kernel_rfl)
                | (refine wpList_load_val rfl 25 _ rfl gt _ rfl _ A5.out _ Tryz.underlying25 rfl Z5.out ?_)
                | (refine wpList_load_valg 25 _ rfl ?_ gt _ rfl _ A5.out _ Tryz.underlying25 rfl Z5.out ?_; · kernel_rfl)
                | (refine wpList_load_val rfl 25 _ rfl gb _ rfl _ A6.out _ Tryz.underlying25 rfl Z6.out ?_)
                | (refine wpList_load_valg 25 _ rfl ?_ gb _ rfl _ A6.out _ Tryz.underlying25 rfl Z6.out ?_; · kernel_rfl)
                | (refine wpList_load_val rfl 25 _ rfl gp _ rfl _ Ap.out _ Tryz.underlying25 rfl Zp.out ?_)
                | (refine wpList_load_valg 25 _ rfl ?_ gp _ rfl _ Ap.out _ Tryz.underlying25 rfl Zp.out ?_; · kernel_rfl))
              refine RPC.out.mono ?_
              rintro e W14 ⟨C7, rfl, r7, f⟩
              have FF := Lib.hid f
              replace B1 := Lib.hid (keepB B1.out f)
              replace A1 := Lib.hid (blk_all B1.out)
              replace B2 := Lib.hid (keepB B2.out f)
              replace A2 := Lib.hid (blk_all B2.out)
              replace B3 := Lib.hid (keepB B3.out f)
              replace A3 := Lib.hid (blk_all B3.out)
              replace B4 := Lib.hid (keepB B4.out f)
              replace A4 := Lib.hid (blk_all B4.out)
              replace B5 := Lib.hid (keepB B5.out f)
              replace A5 := Lib.hid (blk_all B5.out)
              replace B6 := Lib.hid (keepB B6.out f)
              replace A6 := Lib.hid (blk_all B6.out)
              replace Bp := Lib.hid (keepB Bp.out f)
              replace Ap := Lib.hid (blk_all Bp.out)
              replace R1 := Lib.hid (R1.out.far f)
              replace R2 := Lib.hid (R2.out.far f)
              replace R3 := Lib.hid (R3.out.far f)
              replace O4 := Lib.hid (O4.out.far f)
              replace O6 := Lib.hid (O6.out.far f)
              replace F : Hid (Fr (fun _ => False) w W14) := Lib.hid (F.out.trans f (fun _ _ h => h))
              have H5 := Lib.hid r7.size
              have Z7 := Lib.hid (szV r7)
              have O7 := Lib.hid (oneV r7)
              have R7 := Lib.hid r7
              clear f r7 RPC
              go_upto_region 20 with (refine wpList_store_blk rfl 25 _ _ rfl gp C7 rfl rfl Bp.out H5.out Z7.out O7.out ?_
                                      intro WW qq ff
                                      have FS := Lib.hid ff
                                      have QQ := Lib.hid qq
                                      clear qq ff)
              skip
              skip
              have hgp := Bp.out.lt
              have R7s : Hid (RdV (fun q => q < g ∨ W13.heap.size ≤ q) WW C7 (putV a pth b)) := Lib.hid (R7.out.fr FS.out (fun q hq e => by
                have h1 : q = gp := e
                rcases hq with hq | hq
                · omega
                · have h2 := SLT.out; omega))
              have AQ := Lib.hid (blk_all QQ.out)
              have MC2 := Lib.hid (rmay_gen rfields_c (putV a pth b) WW R7s.out HPS.out HPR.out)
              rw [← HSV.out] at MC2
              clear HPS HPR R7
              go_wp2_with (refine wpList_load_val rfl 25 _ rfl gp _ rfl _ AQ.out _ Tryz.underlying25 rfl Z7.out ?_)
              refine MC2.out.mono ?_
              rintro e WX ⟨rfl, f⟩
              have QX := Lib.hid (keepB QQ.out f)
              have RX := Lib.hid (R7s.out.far f)
              have FX : Hid (Fr (fun q => q = gp) W13 WX) := Lib.hid (((FF.out.mono (fun _ _ h => h.elim)).trans FS.out (fun _ _ h => h)).trans f (fun _ _ h => h.elim))
              clear f
              go_wp2_with fail
              go_meet
              exact ⟨rfl, _, QX.out, H5.out, Lib.hid (fun _ => RX.out.mono (fun _ _ => trivial)), FX.out⟩
          case rest =>
            obtain ⟨rfl, C7, b7, z7, r7, ft⟩ := hcut
            obtain ⟨W14, hwe⟩ : ∃ q : World, q = wc := ⟨_, rfl⟩
            subst hwe
            replace B1 := Lib.hid (B1.out.fr ft.out ((fun e => by (try dsimp only at e); omega)))
            replace A1 := Lib.hid (blk_all B1.out)
            replace B2 := Lib.hid (B2.out.fr ft.out ((fun e => by (try dsimp only at e); omega)))
            replace A2 := Lib.hid (blk_all B2.out)
            replace B3 := Lib.hid (B3.out.fr ft.out ((fun e => by (try dsimp only at e); omega)))
            replace A3 := Lib.hid (blk_all B3.out)
            replace B4 := Lib.hid (B4.out.fr ft.out ((fun e => by (try dsimp only at e); omega)))
            replace A4 := Lib.hid (blk_all B4.out)
            replace B5 := Lib.hid (B5.out.fr ft.out ((fun e => by (try dsimp only at e); omega)))
            replace A5 := Lib.hid (blk_all B5.out)
            replace B6 := Lib.hid (B6.out.fr ft.out ((fun e => by (try dsimp only at e); omega)))
            replace A6 := Lib.hid (blk_all B6.out)
            replace R1 := Lib.hid (R1.out.fr ft.out (fun q hq e => by (try dsimp only at hq); (try dsimp only at e); omega))
            replace R2 := Lib.hid (R2.out.fr ft.out (fun q hq e => by (try dsimp only at hq); (try dsimp only at e); omega))
            replace R3 := Lib.hid (R3.out.fr ft.out (fun q hq e => by (try dsimp only at hq); (try dsimp only at e); omega))
            replace O4 := Lib.hid (O4.out.fr ft.out (fun q hq e => by (try dsimp only at hq); (try dsimp only at e); omega))
            replace O6 := Lib.hid (O6.out.fr ft.out (fun q hq e => by (try dsimp only at hq); (try dsimp only at e); omega))
            replace F : Hid (Fr (fun _ => False) w W14) := Lib.hid (F.out.trans ft.out (fun q hq e => by (try dsimp only at e); have := HG.out; omega))
            clear Bp Ap Zp
            have B7 := b7
            have A7 := Lib.hid (blk_all B7.out)
            have Z7 := Lib.hid (show (Tryz.prog.info? 25).map (·.size) = some C7.size by rw [z7.out]; exact lw5)
            clear b7 z7 ft
            have hvz : (sb = true → vb = putV a pth b) ∧ (sb = false → vb = V.zero) ∧ Sm vb := by
              rw [← HSB.out, ← HVB.out]
              cases hp : putO a pth b with
              | none => exact ⟨fun h => by simp at h, fun _ => rfl, sm_zero⟩
              | some o =>
                obtain ⟨h6, hm, hx, ho, he⟩ := putO_some hp
                exact ⟨fun _ => he.symm, fun h => by simp at h, by show Sm o; rw [← he]; exact put_sm h6 hm SMa.out SMb.out HK2.out⟩
            have HVZ := Lib.hid hvz
            have SMv := Lib.hid hvz.2.2
            clear hvz
            go_upto_region 21 with fail
            go_cut [108] from 19 to 157 (fun v W => v = .bool false ∧ Hid (Fr (fun _ => False) W14 W))
            case first =>
              cases sb with
              | true =>
                have hvb := HVZ.out.1 rfl
                have hc : c6 = 0 := by rw [← HC6.out]; rfl
                have CL := Lib.hid (rsame_c vb vb W14 _ _ _ _ O6.out.rd (hvb ▸ r7.out rfl))
                rw [(eqv_iff vb vb).2 rfl] at CL
                subst hc
                clear hvb
                go_wp2_with (first
                  | (refine wpList_load_val rfl 25 _ rfl g _ rfl _ A1.out _ Tryz.underlying25 rfl Z1.out ?_)
                  | (refine wpList_load_valg 25 _ rfl ?_ g _ rfl _ A1.out _ Tryz.underlying25 rfl Z1.out ?_; · kernel_rfl)
                  | (refine wpList_load_val rfl 25 _ rfl (g + 1) _ rfl _ A2.out _ Tryz.underlying25 rfl Z2.out ?_)
                  | (refine wpList_load_valg 25 _ rfl ?_ (g + 1) _ rfl _ A2.out _ Tryz.underlying25 rfl Z2.out ?_; · kernel_rfl)
                  | (refine wpList_load_val rfl 25 _ rfl gw _ rfl _ A3.out _ Tryz.underlying25 rfl Z3.out ?_)
                  | (refine wpList_load_valg 25 _ rfl ?_ gw _ rfl _ A3.out _ Tryz.underlying25 rfl Z3.out ?_; · kernel_rfl)
                  | (refine wpList_load_val rfl 25 _ rfl ga _ rfl _ A4.out _ Tryz.underlying25 rfl Z4.out ?_)
                  | (refine wpList_load_valg 25 _ rfl ?_ ga _ rfl _ A4.out _ Tryz.underlying25 rfl Z4.out ?_; · kernel_rfl)
                  | (refine wpList_load_val rfl 25 _ rfl gt _ rfl _ A5.out _ Tryz.underlying25 rfl Z5.out ?_)
                  | (refine wpList_load_valg 25 _ rfl ?_ gt _ rfl _ A5.out _ Tryz.underlying25 rfl Z5.out ?_; · kernel_rfl)
                  | (refine wpList_load_val rfl 25 _ rfl gb _ rfl _ A6.out _ Tryz.underlying25 rfl Z6.out ?_)
                  | (refine wpList_load_valg 25 _ rfl ?_ gb _ rfl _ A6.out _ Tryz.underlying25 rfl Z6.out ?_; · kernel_rfl)
                  | (refine wpList_load_val rfl 25 _ rfl gp _ rfl _ A7.out _ Tryz.underlying25 rfl Z7.out ?_)
                  | (refine wpList_load_valg 25 _ rfl ?_ gp _ rfl _ A7.out _ Tryz.underlying25 rfl Z7.out ?_; · kernel_rfl))
                refine CL.out.mono ?_
                rintro e W15 ⟨rfl, f⟩
                have FF := Lib.hid f
                clear f
                go_wp2_with fail
                go_meet
                exact ⟨rfl, FF.out⟩
              | false =>
                have hvb := HVZ.out.2.1 rfl
                have hc : c6 = 1 := by rw [← HC6.out]; rfl
                have CL := Lib.hid (rsame_c vb V.zero W14 _ _ _ _ O6.out.rd (RdV.zero (fun _ => True) W14))
                rw [(eqv_iff vb V.zero).2 hvb] at CL
                subst hc
                clear hvb
                go_wp2_with (first
                  | (refine wpList_load_val rfl 25 _ rfl g _ rfl _ A1.out _ Tryz.underlying25 rfl Z1.out ?_)
                  | (refine wpList_load_valg 25 _ rfl ?_ g _ rfl _ A1.out _ Tryz.underlying25 rfl Z1.out ?_; · kernel_rfl)
                  | (refine wpList_load_val rfl 25 _ rfl (g + 1) _ rfl _ A2.out _ Tryz.underlying25 rfl Z2.out ?_)
                  | (refine wpList_load_valg 25 _ rfl ?_ (g + 1) _ rfl _ A2.out _ Tryz.underlying25 rfl Z2.out ?_; · kernel_rfl)
                  | (refine wpList_load_val rfl 25 _ rfl gw _ rfl _ A3.out _ Tryz.underlying25 rfl Z3.out ?_)
                  | (refine wpList_load_valg 25 _ rfl ?_ gw _ rfl _ A3.out _ Tryz.underlying25 rfl Z3.out ?_; · kernel_rfl)
                  | (refine wpList_load_val rfl 25 _ rfl ga _ rfl _ A4.out _ Tryz.underlying25 rfl Z4.out ?_)
                  | (refine wpList_load_valg 25 _ rfl ?_ ga _ rfl _ A4.out _ Tryz.underlying25 rfl Z4.out ?_; · kernel_rfl)
                  | (refine wpList_load_val rfl 25 _ rfl gt _ rfl _ A5.out _ Tryz.underlying25 rfl Z5.out ?_)
                  | (refine wpList_load_valg 25 _ rfl ?_ gt _ rfl _ A5.out _ Tryz.underlying25 rfl Z5.out ?_; · kernel_rfl)
                  | (refine wpList_load_val rfl 25 _ rfl gb _ rfl _ A6.out _ Tryz.underlying25 rfl Z6.out ?_)
                  | (refine wpList_load_valg 25 _ rfl ?_ gb _ rfl _ A6.out _ Tryz.underlying25 rfl Z6.out ?_; · kernel_rfl)
                  | (refine wpList_load_val rfl 25 _ rfl gp _ rfl _ A7.out _ Tryz.underlying25 rfl Z7.out ?_)
                  | (refine wpList_load_valg 25 _ rfl ?_ gp _ rfl _ A7.out _ Tryz.underlying25 rfl Z7.out ?_; · kernel_rfl))
                refine CL.out.mono ?_
                rintro e W15 ⟨rfl, f⟩
                have FF := Lib.hid f
                clear f
                go_wp2_with fail
                go_meet
                exact ⟨rfl, FF.out⟩
            case rest =>
              obtain ⟨rfl, ft⟩ := hcut
              obtain ⟨W15, hwe⟩ : ∃ q : World, q = wc := ⟨_, rfl⟩
              subst hwe
              replace B1 := Lib.hid (keepB B1.out ft.out)
              replace A1 := Lib.hid (blk_all B1.out)
              replace B2 := Lib.hid (keepB B2.out ft.out)
              replace A2 := Lib.hid (blk_all B2.out)
              replace B3 := Lib.hid (keepB B3.out ft.out)
              replace A3 := Lib.hid (blk_all B3.out)
              replace B4 := Lib.hid (keepB B4.out ft.out)
              replace A4 := Lib.hid (blk_all B4.out)
              replace B5 := Lib.hid (keepB B5.out ft.out)
              replace A5 := Lib.hid (blk_all B5.out)
              replace B6 := Lib.hid (keepB B6.out ft.out)
              replace A6 := Lib.hid (blk_all B6.out)
              replace B7 := Lib.hid (keepB B7.out ft.out)
              replace A7 := Lib.hid (blk_all B7.out)
              replace R1 := Lib.hid (R1.out.far ft.out)
              replace R2 := Lib.hid (R2.out.far ft.out)
              replace R3 := Lib.hid (R3.out.far ft.out)
              replace O4 := Lib.hid (O4.out.far ft.out)
              replace O6 := Lib.hid (O6.out.far ft.out)
              replace F : Hid (Fr (fun _ => False) w W15) := Lib.hid (F.out.trans ft.out (fun _ _ h => h))
              clear ft r7 HVZ
              have CL : Hid (Calls Tryz.prog 16 #[.agg (vcs k4 n4 t4 Al4 l4.length cl4 Ak4 ks4.length ck4), .int .i64 20] W15 _) := Lib.hid (turn_c vat W15 _ _ 20 (by decide) O4.out SMt.out)
              go_wp2_with (first
                | (refine wpList_load_val rfl 25 _ rfl g _ rfl _ A1.out _ Tryz.underlying25 rfl Z1.out ?_)
                | (refine wpList_load_valg 25 _ rfl ?_ g _ rfl _ A1.out _ Tryz.underlying25 rfl Z1.out ?_; · kernel_rfl)
                | (refine wpList_load_val rfl 25 _ rfl (g + 1) _ rfl _ A2.out _ Tryz.underlying25 rfl Z2.out ?_)
                | (refine wpList_load_valg 25 _ rfl ?_ (g + 1) _ rfl _ A2.out _ Tryz.underlying25 rfl Z2.out ?_; · kernel_rfl)
                | (refine wpList_load_val rfl 25 _ rfl gw _ rfl _ A3.out _ Tryz.underlying25 rfl Z3.out ?_)
                | (refine wpList_load_valg 25 _ rfl ?_ gw _ rfl _ A3.out _ Tryz.underlying25 rfl Z3.out ?_; · kernel_rfl)
                | (refine wpList_load_val rfl 25 _ rfl ga _ rfl _ A4.out _ Tryz.underlying25 rfl Z4.out ?_)
                | (refine wpList_load_valg 25 _ rfl ?_ ga _ rfl _ A4.out _ Tryz.underlying25 rfl Z4.out ?_; · kernel_rfl)
                | (refine wpList_load_val rfl 25 _ rfl gt _ rfl _ A5.out _ Tryz.underlying25 rfl Z5.out ?_)
                | (refine wpList_load_valg 25 _ rfl ?_ gt _ rfl _ A5.out _ Tryz.underlying25 rfl Z5.out ?_; · kernel_rfl)
                | (refine wpList_load_val rfl 25 _ rfl gb _ rfl _ A6.out _ Tryz.underlying25 rfl Z6.out ?_)
                | (refine wpList_load_valg 25 _ rfl ?_ gb _ rfl _ A6.out _ Tryz.underlying25 rfl Z6.out ?_; · kernel_rfl)
                | (refine wpList_load_val rfl 25 _ rfl gp _ rfl _ A7.out _ Tryz.underlying25 rfl Z7.out ?_)
                | (refine wpList_load_valg 25 _ rfl ?_ gp _ rfl _ A7.out _ Tryz.underlying25 rfl Z7.out ?_; · kernel_rfl))
              refine CL.out.mono ?_
              rintro e W16 ⟨rfl, f⟩
              clear O4
              replace B1 := Lib.hid (B1.out.fr f ((fun e => by (try dsimp only at e); omega)))
              replace A1 := Lib.hid (blk_all B1.out)
              replace B2 := Lib.hid (B2.out.fr f ((fun e => by (try dsimp only at e); omega)))
              replace A2 := Lib.hid (blk_all B2.out)
              replace B3 := Lib.hid (B3.out.fr f ((fun e => by (try dsimp only at e); omega)))
              replace A3 := Lib.hid (blk_all B3.out)
              replace B4 := Lib.hid (B4.out.fr f ((fun e => by (try dsimp only at e); omega)))
              replace A4 := Lib.hid (blk_all B4.out)
              replace B5 := Lib.hid (B5.out.fr f ((fun e => by (try dsimp only at e); omega)))
              replace A5 := Lib.hid (blk_all B5.out)
              replace B6 := Lib.hid (B6.out.fr f ((fun e => by (try dsimp only at e); omega)))
              replace A6 := Lib.hid (blk_all B6.out)
              replace B7 := Lib.hid (B7.out.fr f ((fun e => by (try dsimp only at e); omega)))
              replace A7 := Lib.hid (blk_all B7.out)
              replace R1 := Lib.hid (R1.out.fr f (fun q hq e => by (try dsimp only at hq); (try dsimp only at e); omega))
              replace R2 := Lib.hid (R2.out.fr f (fun q hq e => by (try dsimp only at hq); (try dsimp only at e); omega))
              replace R3 := Lib.hid (R3.out.fr f (fun q hq e => by (try dsimp only at hq); (try dsimp only at e); omega))
              replace O6 := Lib.hid (O6.out.fr f (fun q hq e => by (try dsimp only at hq); (try dsimp only at e); omega))
              replace F : Hid (Fr (fun _ => False) w W16) := Lib.hid (F.out.trans f (fun q hq e => by (try dsimp only at e); have := HG.out; omega))
              clear CL f
              have CL : Hid (Calls Tryz.prog 16 #[.agg (vcs k6 n6 t6 Al6 l6.length cl6 Ak6 ks6.length ck6), .int .i64 20] W16 _) := Lib.hid (turn_c vb W16 _ _ 20 (by decide) O6.out SMv.out)
              go_wp2_with (first
                | (refine wpList_load_val rfl 25 _ rfl g _ rfl _ A1.out _ Tryz.underlying25 rfl Z1.out ?_)
                | (refine wpList_load_valg 25 _ rfl ?_ g _ rfl _ A1.out _ Tryz.underlying25 rfl Z1.out ?_; · kernel_rfl)
                | (refine wpList_load_val rfl 25 _ rfl (g + 1) _ rfl _ A2.out _ Tryz.underlying25 rfl Z2.out ?_)
                | (refine wpList_load_valg 25 _ rfl ?_ (g + 1) _ rfl _ A2.out _ Tryz.underlying25 rfl Z2.out ?_; · kernel_rfl)
                | (refine wpList_load_val rfl 25 _ rfl gw _ rfl _ A3.out _ Tryz.underlying25 rfl Z3.out ?_)
                | (refine wpList_load_valg 25 _ rfl ?_ gw _ rfl _ A3.out _ Tryz.underlying25 rfl Z3.out ?_; · kernel_rfl)
                | (refine wpList_load_val rfl 25 _ rfl ga _ rfl _ A4.out _ Tryz.underlying25 rfl Z4.out ?_)
                | (refine wpList_load_valg 25 _ rfl ?_ ga _ rfl _ A4.out _ Tryz.underlying25 rfl Z4.out ?_; · kernel_rfl)
                | (refine wpList_load_val rfl 25 _ rfl gt _ rfl _ A5.out _ Tryz.underlying25 rfl Z5.out ?_)
                | (refine wpList_load_valg 25 _ rfl ?_ gt _ rfl _ A5.out _ Tryz.underlying25 rfl Z5.out ?_; · kernel_rfl)
                | (refine wpList_load_val rfl 25 _ rfl gb _ rfl _ A6.out _ Tryz.underlying25 rfl Z6.out ?_)
                | (refine wpList_load_valg 25 _ rfl ?_ gb _ rfl _ A6.out _ Tryz.underlying25 rfl Z6.out ?_; · kernel_rfl)
                | (refine wpList_load_val rfl 25 _ rfl gp _ rfl _ A7.out _ Tryz.underlying25 rfl Z7.out ?_)
                | (refine wpList_load_valg 25 _ rfl ?_ gp _ rfl _ A7.out _ Tryz.underlying25 rfl Z7.out ?_; · kernel_rfl))
              refine CL.out.mono ?_
              rintro e W17 ⟨rfl, f⟩
              clear O6
              replace B1 := Lib.hid (B1.out.fr f ((fun e => by (try dsimp only at e); omega)))
              replace A1 := Lib.hid (blk_all B1.out)
              replace B2 := Lib.hid (B2.out.fr f ((fun e => by (try dsimp only at e); omega)))
              replace A2 := Lib.hid (blk_all B2.out)
              replace B3 := Lib.hid (B3.out.fr f ((fun e => by (try dsimp only at e); omega)))
              replace A3 := Lib.hid (blk_all B3.out)
              replace B4 := Lib.hid (B4.out.fr f ((fun e => by (try dsimp only at e); omega)))
              replace A4 := Lib.hid (blk_all B4.out)
              replace B5 := Lib.hid (B5.out.fr f ((fun e => by (try dsimp only at e); omega)))
              replace A5 := Lib.hid (blk_all B5.out)
              replace B6 := Lib.hid (B6.out.fr f ((fun e => by (try dsimp only at e); omega)))
              replace A6 := Lib.hid (blk_all B6.out)
              replace B7 := Lib.hid (B7.out.fr f ((fun e => by (try dsimp only at e); omega)))
              replace A7 := Lib.hid (blk_all B7.out)
              replace R1 := Lib.hid (R1.out.fr f (fun q hq e => by (try dsimp only at hq); (try dsimp only at e); omega))
              replace R2 := Lib.hid (R2.out.fr f (fun q hq e => by (try dsimp only at hq); (try dsimp only at e); omega))
              replace R3 := Lib.hid (R3.out.fr f (fun q hq e => by (try dsimp only at hq); (try dsimp only at e); omega))
              replace F : Hid (Fr (fun _ => False) w W17) := Lib.hid (F.out.trans f (fun q hq e => by (try dsimp only at e); have := HG.out; omega))
              clear CL f
              have fa : Fr (fun _ => False) W17 (W17.alloc (.cells #[.int .i64 k1, .int .i64 n1, .string (strOf t1), .slice Al1 l1.length cl1, .slice Ak1 ks1.length ck1, .int .i64 k2, .int .i64 n2, .string (strOf t2), .slice Al2 l2.length cl2, .slice Ak2 ks2.length ck2] 25)) := (Fr.refl _ W17).alloc _
              have LC := Lib.hid (list_c (W17.alloc (.cells #[.int .i64 k1, .int .i64 n1, .string (strOf t1), .slice Al1 l1.length cl1, .slice Ak1 ks1.length ck1, .int .i64 k2, .int .i64 n2, .string (strOf t2), .slice Al2 l2.length cl2, .slice Ak2 ks2.length ck2] 25)) (q := W17.heap.size) (R1.out.far fa) (R2.out.far fa) (blk_all (Blk.new W17 25 #[.int .i64 k1, .int .i64 n1, .string (strOf t1), .slice Al1 l1.length cl1, .slice Ak1 ks1.length ck1, .int .i64 k2, .int .i64 n2, .string (strOf t2), .slice Al2 l2.length cl2, .slice Ak2 ks2.length ck2])) SMa.out SMb.out)
              have FA := Lib.hid fa
              clear fa
              go_wp2_with (first
                | (refine wpList_load_val rfl 25 _ rfl g _ rfl _ A1.out _ Tryz.underlying25 rfl Z1.out ?_)
                | (refine wpList_load_valg 25 _ rfl ?_ g _ rfl _ A1.out _ Tryz.underlying25 rfl Z1.out ?_; · kernel_rfl)
                | (refine wpList_load_val rfl 25 _ rfl (g + 1) _ rfl _ A2.out _ Tryz.underlying25 rfl Z2.out ?_)
                | (refine wpList_load_valg 25 _ rfl ?_ (g + 1) _ rfl _ A2.out _ Tryz.underlying25 rfl Z2.out ?_; · kernel_rfl)
                | (refine wpList_load_val rfl 25 _ rfl gw _ rfl _ A3.out _ Tryz.underlying25 rfl Z3.out ?_)
                | (refine wpList_load_valg 25 _ rfl ?_ gw _ rfl _ A3.out _ Tryz.underlying25 rfl Z3.out ?_; · kernel_rfl)
                | (refine wpList_load_val rfl 25 _ rfl ga _ rfl _ A4.out _ Tryz.underlying25 rfl Z4.out ?_)
                | (refine wpList_load_valg 25 _ rfl ?_ ga _ rfl _ A4.out _ Tryz.underlying25 rfl Z4.out ?_; · kernel_rfl)
                | (refine wpList_load_val rfl 25 _ rfl gt _ rfl _ A5.out _ Tryz.underlying25 rfl Z5.out ?_)
                | (refine wpList_load_valg 25 _ rfl ?_ gt _ rfl _ A5.out _ Tryz.underlying25 rfl Z5.out ?_; · kernel_rfl)
                | (refine wpList_load_val rfl 25 _ rfl gb _ rfl _ A6.out _ Tryz.underlying25 rfl Z6.out ?_)
                | (refine wpList_load_valg 25 _ rfl ?_ gb _ rfl _ A6.out _ Tryz.underlying25 rfl Z6.out ?_; · kernel_rfl)
                | (refine wpList_load_val rfl 25 _ rfl gp _ rfl _ A7.out _ Tryz.underlying25 rfl Z7.out ?_)
                | (refine wpList_load_valg 25 _ rfl ?_ gp _ rfl _ A7.out _ Tryz.underlying25 rfl Z7.out ?_; · kernel_rfl))
              refine LC.out.mono ?_
              rintro e W18 ⟨Q8, c8, rfl, r8, f0⟩
              have f := FA.out.trans f0 (fun _ _ h => h)
              replace B1 := Lib.hid (keepB B1.out f)
              replace A1 := Lib.hid (blk_all B1.out)
              replace B2 := Lib.hid (keepB B2.out f)
              replace A2 := Lib.hid (blk_all B2.out)
              replace B3 := Lib.hid (keepB B3.out f)
              replace A3 := Lib.hid (blk_all B3.out)
              replace B4 := Lib.hid (keepB B4.out f)
              replace A4 := Lib.hid (blk_all B4.out)
              replace B5 := Lib.hid (keepB B5.out f)
              replace A5 := Lib.hid (blk_all B5.out)
              replace B6 := Lib.hid (keepB B6.out f)
              replace A6 := Lib.hid (blk_all B6.out)
              replace B7 := Lib.hid (keepB B7.out f)
              replace A7 := Lib.hid (blk_all B7.out)
              replace R1 := Lib.hid (R1.out.far f)
              replace R2 := Lib.hid (R2.out.far f)
              replace R3 := Lib.hid (R3.out.far f)
              replace F : Hid (Fr (fun _ => False) w W18) := Lib.hid (F.out.trans f (fun _ _ h => h))
              have R8 := Lib.hid r8
              clear LC FA f f0 r8
              go_upto_region 26 with fail
              have lq := B7.out.lt
              refine abs_world (fun W => Hid (Blk W g 25 (vcs k1 n1 t1 Al1 l1.length cl1 Ak1 ks1.length ck1)) ∧ Hid (Blk W (g + 1) 25 (vcs k2 n2 t2 Al2 l2.length cl2 Ak2 ks2.length ck2)) ∧ Hid (Blk W gw 25 (vcs k3 n3 t3 Al3 l3.length cl3 Ak3 ks3.length ck3)) ∧ Hid (Blk W ga 25 (vcs k4 n4 t4 Al4 l4.length cl4 Ak4 ks4.length ck4)) ∧ Hid (Blk W gt 25 (C5)) ∧ Hid (Blk W gb 25 (vcs k6 n6 t6 Al6 l6.length cl6 Ak6 ks6.length ck6)) ∧ Hid (Blk W gp 25 (C7)) ∧ Hid (Blk W W18.heap.size 25 (vcs 5 0 [] Q8 2 c8 none 0 0)) ∧ Hid (Fr (fun _ => False) W18 W)) ⟨B1.out.alloc _, B2.out.alloc _, B3.out.alloc _, B4.out.alloc _, B5.out.alloc _, B6.out.alloc _, B7.out.alloc _, Blk.new W18 _ _, (Fr.refl _ W18).alloc _⟩ ?_
              clear A1 B1
              clear A2 B2
              clear A3 B3
              clear A4 B4
              clear A5 B5
              clear A6 B6
              clear A7 B7
              rintro W19 ⟨B1, B2, B3, B4, B5, B6, B7, B8, f⟩
              obtain ⟨gl, hgl⟩ : ∃ b, W18.heap.size = b := ⟨_, rfl⟩
              rw [hgl] at B8 lq ⊢
              have lgl := lq
              clear lq
              have Sgl := Lib.hid hgl
              clear hgl
              have A1 := Lib.hid (blk_all B1.out)
              have A2 := Lib.hid (blk_all B2.out)
              have A3 := Lib.hid (blk_all B3.out)
              have A4 := Lib.hid (blk_all B4.out)
              have A5 := Lib.hid (blk_all B5.out)
              have A6 := Lib.hid (blk_all B6.out)
              have A7 := Lib.hid (blk_all B7.out)
              have A8 := Lib.hid (blk_all B8.out)
              replace R1 := Lib.hid (R1.out.far f.out)
              replace R2 := Lib.hid (R2.out.far f.out)
              replace R3 := Lib.hid (R3.out.far f.out)
              replace R8 := Lib.hid (R8.out.far f.out)
              replace F : Hid (Fr (fun _ => False) w W19) := Lib.hid (F.out.trans f.out (fun _ _ h => h))
              have F8 := f
              clear f
              have Z8 := Lib.hid (show (Tryz.prog.info? 25).map (·.size) = some (vcs 5 0 [] Q8 2 c8 none 0 0).size from lw5)
              obtain ⟨b8, off8, CE, hQ8, re, ge, h5e⟩ := list_at R8.out
              subst hQ8
              have G8 := Lib.hid ge
              have Y8 := Lib.hid (szV re)
              have AA : eqv a a = true := (eqv_iff a a).2 rfl
              have S1 : Hid (∀ W, Fr (fun _ => False) W19 W → Calls Tryz.prog 13 #[.agg (vcs k1 n1 t1 Al1 l1.length cl1 Ak1 ks1.length ck1), .agg (vcs k3 n3 t3 Al3 l3.length cl3 Ak3 ks3.length ck3)] W fun e w' => e = .returned (.bool true) ∧ Fr (fun _ => False) W w') := Lib.hid (fun W hW => by
                have := rsame_c a a W _ _ _ _ (R1.out.far hW) (R3.out.far hW)
                rw [AA] at this
                exact this)
              have S2 : Hid (∀ W, Fr (fun _ => False) W19 W → Calls Tryz.prog 13 #[.agg CE, .agg (vcs k1 n1 t1 Al1 l1.length cl1 Ak1 ks1.length ck1)] W fun e w' => e = .returned (.bool true) ∧ Fr (fun _ => False) W w') := Lib.hid (fun W hW => by
                have := rsame_c a a W _ _ _ _ (re.far hW) (R1.out.far hW)
                rw [AA] at this
                exact this)
              have S3 : Hid (∀ W, Calls Tryz.prog 13 #[.agg (vcs 4 0 pth none 0 0 none 0 0), .agg (vcs 4 0 pth none 0 0 none 0 0)] W fun e w' => e = .returned (.bool true) ∧ Fr (fun _ => False) W w') := Lib.hid (fun W => by
                have := rsame_c (.mk 4 0 pth [] []) (.mk 4 0 pth [] []) W _ _ _ _ (rd_txt W pth hk1) (rd_txt W pth hk1)
                rw [(eqv_iff _ _).2 rfl] at this
                exact this)
              have S4 : Hid (∀ W, Calls Tryz.prog 13 #[.agg (vcs 3 n1 [] none 0 0 none 0 0), .agg (vcs 3 n1 [] none 0 0 none 0 0)] W fun e w' => e = .returned (.bool true) ∧ Fr (fun _ => False) W w') := Lib.hid (fun W => by
                have := rsame_c (.mk 3 n1 [] [] []) (.mk 3 n1 [] [] []) W _ _ _ _ (rd_num W n1 VB1.out.n0 VB1.out.n1) (rd_num W n1 VB1.out.n0 VB1.out.n1)
                rw [(eqv_iff _ _).2 rfl] at this
                exact this)
              have AWK : Hid (∀ W, Fr (fun _ => False) W19 W → Calls Tryz.prog 8 #[] W fun e w' => e = .returned (.bool true) ∧ Fr (fun _ => False) W w') := Lib.hid (fun W hW => awake_c W (HL.out.far (F.out.trans hW (fun _ _ h => h))))
              clear re ge h5e AA R1 R2 R3 R8
              skip
              refine (wpIn_wide (n := 9)).1 ?_
              refine wpIn_region_factsG (ms := [0, 0, 3, 7, 15, 31, 63, 127, 255, 511, 1023, 2047, 4095, 8191, 16383, 32767, 65535, 131071, 262143, 32767, 1048575, 2097151, 4194303, 8388607, 16777215, 8388607, 41943039, 134217727, 268435455, 536870911, 1073741823, 2147483647, 4294967295, 1073741823, 9663676415, 26843545599, 68719476735, 137438953471, 274877906943, 549755813887, 1099511627775, 2199023255551]) (k := 41) (Fr (fun _ => False)) (vaX g gw gl b8 off8 c8 k1 n1 (vcs k1 n1 t1 Al1 l1.length cl1 Ak1 ks1.length ck1) (vcs k3 n3 t3 Al3 l3.length cl3 Ak3 ks3.length ck3) CE pth) (fun i v W => True) (by kernel_rfl) (by kernel_rfl) (Fr.refl _ _) (fun a b c h1 h2 => h1.trans h2 (fun _ _ h => h)) (fun i v w w' hg hx => vaX_far hg hx) ?walk26
              case walk26 =>
              have hdr : ∀ W, Fr (fun _ => False) W19.drew W → Fr (fun _ => False) W19 W := fun W h => ((Fr.refl (fun _ => False) W19).drew).trans h (fun _ _ h => h)
              have HDR := Lib.hid hdr
              clear hdr
              refine factWalkG_cons (fun W hW hf K hK => ?_) (fun x0 => ?_)
              · skip
                have hld := load_val (P := Tryz.prog) W g 0 ((vcs k1 n1 t1 Al1 l1.length cl1 Ak1 ks1.length ck1)) (rng_far A1.out (HDR.out W hW)) 25 _ Tryz.underlying25 rfl Z1.out
                refine ⟨by kernel_rfl, ?_⟩
                refine operIn_load 25 _ rfl _ rfl hld ?_
                exact hK _ _ (Fr.refl _ _) rfl trivial
              simp only [Act.put, List.setIfInBounds_toArray, List.set_cons_succ, List.set_cons_zero]
              refine factWalkG_cons (fun W hW hf K hK => ?_) (fun x1 => ?_)
              · skip
                have hld := load_val (P := Tryz.prog) W gw 0 ((vcs k3 n3 t3 Al3 l3.length cl3 Ak3 ks3.length ck3)) (rng_far A3.out (HDR.out W hW)) 25 _ Tryz.underlying25 rfl Z3.out
                refine ⟨by kernel_rfl, ?_⟩
                refine operIn_load 25 _ rfl _ rfl hld ?_
                exact hK _ _ (Fr.refl _ _) rfl trivial
              simp only [Act.put, List.setIfInBounds_toArray, List.set_cons_succ, List.set_cons_zero]
              refine factWalkG_cons (fun W hW hf K hK => ?_) (fun x2 => ?_)
              · skip
                have e0 : x0 = .agg (vcs k1 n1 t1 Al1 l1.length cl1 Ak1 ks1.length ck1) := hf 0 (by omega) (by kernel_rfl)
                have e1 : x1 = .agg (vcs k3 n3 t3 Al3 l3.length cl3 Ak3 ks3.length ck3) := hf 1 (by omega) (by kernel_rfl)
                subst e0 e1
                refine ⟨by kernel_rfl, ?_⟩
                gi_step
                refine ⟨trivial, ?_⟩
                refine (callsIn_wide.2 (S1.out W (HDR.out W hW))).mono ?_
                rintro e W' ⟨rfl, f2⟩
                dsimp only
                exact hK _ _ f2 rfl trivial
              simp only [Act.put, List.setIfInBounds_toArray, List.set_cons_succ, List.set_cons_zero]
              refine factWalkG_cons (fun W hW hf K hK => ?_) (fun x3 => ?_)
              · skip
                have e2 : x2 = .bool true := hf 2 (by omega) (by kernel_rfl)
                subst e2
                refine ⟨by kernel_rfl, ?_⟩
                gi_step
                exact hK _ _ (Fr.refl _ _) rfl trivial
              simp only [Act.put, List.setIfInBounds_toArray, List.set_cons_succ, List.set_cons_zero]
              refine factWalkG_cons (fun W hW hf K hK => ?_) (fun x4 => ?_)
              · skip
                have e3 : x3 = .bool true := hf 3 (by omega) (by kernel_rfl)
                subst e3
                refine ⟨by kernel_rfl, ?_⟩
                gi_step
                exact hK _ _ (Fr.refl _ _) rfl trivial
              simp only [Act.put, List.setIfInBounds_toArray, List.set_cons_succ, List.set_cons_zero]
              refine factWalkG_cons (fun W hW hf K hK => ?_) (fun x5 => ?_)
              · skip
                have e3 : x3 = .bool true := hf 3 (by omega) (by kernel_rfl)
                have e4 : x4 = .pointer (some ⟨gl, 3, none⟩) := hf 4 (by omega) (by kernel_rfl)
                subst e3 e4
                have q3 : W.cell? ⟨gl, 3, none⟩ = some (.slice (some ⟨b8, off8, none⟩) 2 c8) := (keepB B8.out (HDR.out W hW)).cell 3
                refine ⟨by kernel_rfl, ?_⟩
                gi_step
                exact hK _ _ (Fr.refl _ _) rfl trivial
              simp only [Act.put, List.setIfInBounds_toArray, List.set_cons_succ, List.set_cons_zero]
              refine factWalkG_cons (fun W hW hf K hK => ?_) (fun x6 => ?_)
              · skip
                have e3 : x3 = .bool true := hf 3 (by omega) (by kernel_rfl)
                have e5 : x5 = .slice (some ⟨b8, off8, none⟩) 2 c8 := hf 5 (by omega) (by kernel_rfl)
                subst e3 e5
                refine ⟨by kernel_rfl, ?_⟩
                gi_step
                exact hK _ _ (Fr.refl _ _) rfl trivial
              simp only [Act.put, List.setIfInBounds_toArray, List.set_cons_succ, List.set_cons_zero]
              refine factWalkG_cons (fun W hW hf K hK => ?_) (fun x7 => ?_)
              · skip
                have e3 : x3 = .bool true := hf 3 (by omega) (by kernel_rfl)
                have e6 : x6 = .int .i64 2 := hf 6 (by omega) (by kernel_rfl)
                subst e3 e6
                refine ⟨by kernel_rfl, ?_⟩
                gi_step
                exact hK _ _ (Fr.refl _ _) rfl trivial
              simp only [Act.put, List.setIfInBounds_toArray, List.set_cons_succ, List.set_cons_zero]
              refine factWalkG_cons (fun W hW hf K hK => ?_) (fun x8 => ?_)
              · skip
                have e3 : x3 = .bool true := hf 3 (by omega) (by kernel_rfl)
                have e7 : x7 = .bool true := hf 7 (by omega) (by kernel_rfl)
                subst e3 e7
                refine ⟨by kernel_rfl, ?_⟩
                gi_step
                exact hK _ _ (Fr.refl _ _) rfl trivial
              simp only [Act.put, List.setIfInBounds_toArray, List.set_cons_succ, List.set_cons_zero]
              refine factWalkG_cons (fun W hW hf K hK => ?_) (fun x9 => ?_)
              · skip
                have e8 : x8 = .bool true := hf 8 (by omega) (by kernel_rfl)
                subst e8
                refine ⟨by kernel_rfl, ?_⟩
                gi_step
                exact hK _ _ (Fr.refl _ _) rfl trivial
              simp only [Act.put, List.setIfInBounds_toArray, List.set_cons_succ, List.set_cons_zero]
              refine factWalkG_cons (fun W hW hf K hK => ?_) (fun x10 => ?_)
              · skip
                have e9 : x9 = .bool true := hf 9 (by omega) (by kernel_rfl)
                subst e9
                refine ⟨by kernel_rfl, ?_⟩
                gi_step
                exact hK _ _ (Fr.refl _ _) rfl trivial
              simp only [Act.put, List.setIfInBounds_toArray, List.set_cons_succ, List.set_cons_zero]
              refine factWalkG_cons (fun W hW hf K hK => ?_) (fun x11 => ?_)
              · skip
                have e9 : x9 = .bool true := hf 9 (by omega) (by kernel_rfl)
                have e10 : x10 = .pointer (some ⟨gl, 0, none⟩) := hf 10 (by omega) (by kernel_rfl)
                subst e9 e10
                have q0 : W.cell? ⟨gl, 0, none⟩ = some (.int .i64 5) := (keepB B8.out (HDR.out W hW)).cell 0
                refine ⟨by kernel_rfl, ?_⟩
                gi_step
                exact hK _ _ (Fr.refl _ _) rfl trivial
              simp only [Act.put, List.setIfInBounds_toArray, List.set_cons_succ, List.set_cons_zero]
              refine factWalkG_cons (fun W hW hf K hK => ?_) (fun x12 => ?_)
              · skip
                have e9 : x9 = .bool true := hf 9 (by omega) (by kernel_rfl)
                have e11 : x11 = .int .i64 5 := hf 11 (by omega) (by kernel_rfl)
                subst e9 e11
                refine ⟨by kernel_rfl, ?_⟩
                gi_step
                exact hK _ _ (Fr.refl _ _) rfl trivial
              simp only [Act.put, List.setIfInBounds_toArray, List.set_cons_succ, List.set_cons_zero]
              refine factWalkG_cons (fun W hW hf K hK => ?_) (fun x13 => ?_)
              · skip
                have e9 : x9 = .bool true := hf 9 (by omega) (by kernel_rfl)
                have e12 : x12 = .bool true := hf 12 (by omega) (by kernel_rfl)
                subst e9 e12
                refine ⟨by kernel_rfl, ?_⟩
                gi_step
                exact hK _ _ (Fr.refl _ _) rfl trivial
              simp only [Act.put, List.setIfInBounds_toArray, List.set_cons_succ, List.set_cons_zero]
              refine factWalkG_cons (fun W hW hf K hK => ?_) (fun x14 => ?_)
              · skip
                have e13 : x13 = .bool true := hf 13 (by omega) (by kernel_rfl)
                subst e13
                refine ⟨by kernel_rfl, ?_⟩
                gi_step
                exact hK _ _ (Fr.refl _ _) rfl trivial
              simp only [Act.put, List.setIfInBounds_toArray, List.set_cons_succ, List.set_cons_zero]
              refine factWalkG_cons (fun W hW hf K hK => ?_) (fun x15 => ?_)
              · skip
                have e14 : x14 = .bool true := hf 14 (by omega) (by kernel_rfl)
                subst e14
                refine ⟨by kernel_rfl, ?_⟩
                gi_step
                exact hK _ _ (Fr.refl _ _) rfl trivial
              simp only [Act.put, List.setIfInBounds_toArray, List.set_cons_succ, List.set_cons_zero]
              refine factWalkG_cons (fun W hW hf K hK => ?_) (fun x16 => ?_)
              · skip
                have e14 : x14 = .bool true := hf 14 (by omega) (by kernel_rfl)
                have e15 : x15 = .pointer (some ⟨gl, 3, none⟩) := hf 15 (by omega) (by kernel_rfl)
                subst e14 e15
                have q3 : W.cell? ⟨gl, 3, none⟩ = some (.slice (some ⟨b8, off8, none⟩) 2 c8) := (keepB B8.out (HDR.out W hW)).cell 3
                refine ⟨by kernel_rfl, ?_⟩
                gi_step
                exact hK _ _ (Fr.refl _ _) rfl trivial
              simp only [Act.put, List.setIfInBounds_toArray, List.set_cons_succ, List.set_cons_zero]
              refine factWalkG_cons (fun W hW hf K hK => ?_) (fun x17 => ?_)
              · skip
                have e14 : x14 = .bool true := hf 14 (by omega) (by kernel_rfl)
                have e16 : x16 = .slice (some ⟨b8, off8, none⟩) 2 c8 := hf 16 (by omega) (by kernel_rfl)
                subst e14 e16
                refine ⟨by kernel_rfl, ?_⟩
                gi_step
                exact hK _ _ (Fr.refl _ _) rfl trivial
              simp only [Act.put, List.setIfInBounds_toArray, List.set_cons_succ, List.set_cons_zero]
              refine factWalkG_cons (fun W hW hf K hK => ?_) (fun x18 => ?_)
              · skip
                have e14 : x14 = .bool true := hf 14 (by omega) (by kernel_rfl)
                have e17 : x17 = .pointer (some ⟨b8, off8, none⟩) := hf 17 (by omega) (by kernel_rfl)
                subst e14 e17
                have hld := load_val (P := Tryz.prog) W b8 off8 (CE) (rng_far G8.out (HDR.out W hW)) 25 _ Tryz.underlying25 rfl Y8.out
                refine ⟨by kernel_rfl, ?_⟩
                refine operIn_load 25 _ rfl _ rfl hld ?_
                exact hK _ _ (Fr.refl _ _) rfl trivial
              simp only [Act.put, List.setIfInBounds_toArray, List.set_cons_succ, List.set_cons_zero]
              refine factWalkG_cons (fun W hW hf K hK => ?_) (fun x19 => ?_)
              · skip
                have e14 : x14 = .bool true := hf 14 (by omega) (by kernel_rfl)
                subst e14
                have hld := load_val (P := Tryz.prog) W g 0 ((vcs k1 n1 t1 Al1 l1.length cl1 Ak1 ks1.length ck1)) (rng_far A1.out (HDR.out W hW)) 25 _ Tryz.underlying25 rfl Z1.out
                refine ⟨by kernel_rfl, ?_⟩
                refine operIn_load 25 _ rfl _ rfl hld ?_
                exact hK _ _ (Fr.refl _ _) rfl trivial
              simp only [Act.put, List.setIfInBounds_toArray, List.set_cons_succ, List.set_cons_zero]
              refine factWalkG_cons (fun W hW hf K hK => ?_) (fun x20 => ?_)
              · skip
                have e14 : x14 = .bool true := hf 14 (by omega) (by kernel_rfl)
                have e18 : x18 = .agg CE := hf 18 (by omega) (by kernel_rfl)
                have e19 : x19 = .agg (vcs k1 n1 t1 Al1 l1.length cl1 Ak1 ks1.length ck1) := hf 19 (by omega) (by kernel_rfl)
                subst e14 e18 e19
                refine ⟨by kernel_rfl, ?_⟩
                gi_step
                refine ⟨trivial, ?_⟩
                refine (callsIn_wide.2 (S2.out W (HDR.out W hW))).mono ?_
                rintro e W' ⟨rfl, f2⟩
                dsimp only
                exact hK _ _ f2 rfl trivial
              simp only [Act.put, List.setIfInBounds_toArray, List.set_cons_succ, List.set_cons_zero]
              refine factWalkG_cons (fun W hW hf K hK => ?_) (fun x21 => ?_)
              · skip
                have e14 : x14 = .bool true := hf 14 (by omega) (by kernel_rfl)
                have e20 : x20 = .bool true := hf 20 (by omega) (by kernel_rfl)
                subst e14 e20
                refine ⟨by kernel_rfl, ?_⟩
                gi_step
                exact hK _ _ (Fr.refl _ _) rfl trivial
              simp only [Act.put, List.setIfInBounds_toArray, List.set_cons_succ, List.set_cons_zero]
              refine factWalkG_cons (fun W hW hf K hK => ?_) (fun x22 => ?_)
              · skip
                have e21 : x21 = .bool true := hf 21 (by omega) (by kernel_rfl)
                subst e21
                refine ⟨by kernel_rfl, ?_⟩
                gi_step
                exact hK _ _ (Fr.refl _ _) rfl trivial
              simp only [Act.put, List.setIfInBounds_toArray, List.set_cons_succ, List.set_cons_zero]
              refine factWalkG_cons (fun W hW hf K hK => ?_) (fun x23 => ?_)
              · skip
                have e22 : x22 = .bool true := hf 22 (by omega) (by kernel_rfl)
                subst e22
                refine ⟨by kernel_rfl, ?_⟩
                gi_step
                exact hK _ _ (Fr.refl _ _) rfl trivial
              simp only [Act.put, List.setIfInBounds_toArray, List.set_cons_succ, List.set_cons_zero]
              refine factWalkG_cons (fun W hW hf K hK => ?_) (fun x24 => ?_)
              · skip
                have e22 : x22 = .bool true := hf 22 (by omega) (by kernel_rfl)
                have e23 : x23 = .string (strOf pth) := hf 23 (by omega) (by kernel_rfl)
                subst e22 e23
                refine ⟨by kernel_rfl, ?_⟩
                gi_step
                refine ⟨trivial, ?_⟩
                refine (callsIn_wide.2 (mtext_c W pth)).mono ?_
                rintro e W' ⟨rfl, f2⟩
                dsimp only
                exact hK _ _ f2 rfl trivial
              simp only [Act.put, List.setIfInBounds_toArray, List.set_cons_succ, List.set_cons_zero]
              refine factWalkG_cons (fun W hW hf K hK => ?_) (fun x25 => ?_)
              · skip
                have e22 : x22 = .bool true := hf 22 (by omega) (by kernel_rfl)
                subst e22
                refine ⟨by kernel_rfl, ?_⟩
                gi_step
                exact hK _ _ (Fr.refl _ _) rfl trivial
              simp only [Act.put, List.setIfInBounds_toArray, List.set_cons_succ, List.set_cons_zero]
              refine factWalkG_cons (fun W hW hf K hK => ?_) (fun x26 => ?_)
              · skip
                have e22 : x22 = .bool true := hf 22 (by omega) (by kernel_rfl)
                have e25 : x25 = .string (strOf pth) := hf 25 (by omega) (by kernel_rfl)
                subst e22 e25
                have hbt := bld_t W pth
                refine ⟨by kernel_rfl, ?_⟩
                gi_step
                exact hK _ _ (Fr.refl _ _) rfl trivial
              simp only [Act.put, List.setIfInBounds_toArray, List.set_cons_succ, List.set_cons_zero]
              refine factWalkG_cons (fun W hW hf K hK => ?_) (fun x27 => ?_)
              · skip
                have e22 : x22 = .bool true := hf 22 (by omega) (by kernel_rfl)
                have e24 : x24 = .agg (vcs 4 0 pth none 0 0 none 0 0) := hf 24 (by omega) (by kernel_rfl)
                have e26 : x26 = .agg (vcs 4 0 pth none 0 0 none 0 0) := hf 26 (by omega) (by kernel_rfl)
                subst e22 e24 e26
                refine ⟨by kernel_rfl, ?_⟩
                gi_step
                refine ⟨trivial, ?_⟩
                refine (callsIn_wide.2 (S3.out W)).mono ?_
                rintro e W' ⟨rfl, f2⟩
                dsimp only
                exact hK _ _ f2 rfl trivial
              simp only [Act.put, List.setIfInBounds_toArray, List.set_cons_succ, List.set_cons_zero]
              refine factWalkG_cons (fun W hW hf K hK => ?_) (fun x28 => ?_)
              · skip
                have e22 : x22 = .bool true := hf 22 (by omega) (by kernel_rfl)
                have e27 : x27 = .bool true := hf 27 (by omega) (by kernel_rfl)
                subst e22 e27
                refine ⟨by kernel_rfl, ?_⟩
                gi_step
                exact hK _ _ (Fr.refl _ _) rfl trivial
              simp only [Act.put, List.setIfInBounds_toArray, List.set_cons_succ, List.set_cons_zero]
              refine factWalkG_cons (fun W hW hf K hK => ?_) (fun x29 => ?_)
              · skip
                have e28 : x28 = .bool true := hf 28 (by omega) (by kernel_rfl)
                subst e28
                refine ⟨by kernel_rfl, ?_⟩
                gi_step
                exact hK _ _ (Fr.refl _ _) rfl trivial
              simp only [Act.put, List.setIfInBounds_toArray, List.set_cons_succ, List.set_cons_zero]
              refine factWalkG_cons (fun W hW hf K hK => ?_) (fun x30 => ?_)
              · skip
                have e29 : x29 = .bool true := hf 29 (by omega) (by kernel_rfl)
                subst e29
                refine ⟨by kernel_rfl, ?_⟩
                gi_step
                exact hK _ _ (Fr.refl _ _) rfl trivial
              simp only [Act.put, List.setIfInBounds_toArray, List.set_cons_succ, List.set_cons_zero]
              refine factWalkG_cons (fun W hW hf K hK => ?_) (fun x31 => ?_)
              · skip
                have e29 : x29 = .bool true := hf 29 (by omega) (by kernel_rfl)
                have e30 : x30 = .pointer (some ⟨g, 1, none⟩) := hf 30 (by omega) (by kernel_rfl)
                subst e29 e30
                have q1 : W.cell? ⟨g, 1, none⟩ = some (.int .i64 n1) := (keepB B1.out (HDR.out W hW)).cell 1
                refine ⟨by kernel_rfl, ?_⟩
                gi_step
                exact hK _ _ (Fr.refl _ _) rfl trivial
              simp only [Act.put, List.setIfInBounds_toArray, List.set_cons_succ, List.set_cons_zero]
              refine factWalkG_cons (fun W hW hf K hK => ?_) (fun x32 => ?_)
              · skip
                have e29 : x29 = .bool true := hf 29 (by omega) (by kernel_rfl)
                have e31 : x31 = .int .i64 n1 := hf 31 (by omega) (by kernel_rfl)
                subst e29 e31
                refine ⟨by kernel_rfl, ?_⟩
                gi_step
                refine ⟨trivial, ?_⟩
                refine (callsIn_wide.2 (mnum_c W n1)).mono ?_
                rintro e W' ⟨rfl, f2⟩
                dsimp only
                exact hK _ _ f2 rfl trivial
              simp only [Act.put, List.setIfInBounds_toArray, List.set_cons_succ, List.set_cons_zero]
              refine factWalkG_cons (fun W hW hf K hK => ?_) (fun x33 => ?_)
              · skip
                have e29 : x29 = .bool true := hf 29 (by omega) (by kernel_rfl)
                subst e29
                refine ⟨by kernel_rfl, ?_⟩
                gi_step
                exact hK _ _ (Fr.refl _ _) rfl trivial
              simp only [Act.put, List.setIfInBounds_toArray, List.set_cons_succ, List.set_cons_zero]
              refine factWalkG_cons (fun W hW hf K hK => ?_) (fun x34 => ?_)
              · skip
                have e29 : x29 = .bool true := hf 29 (by omega) (by kernel_rfl)
                have e33 : x33 = .pointer (some ⟨g, 1, none⟩) := hf 33 (by omega) (by kernel_rfl)
                subst e29 e33
                have q1 : W.cell? ⟨g, 1, none⟩ = some (.int .i64 n1) := (keepB B1.out (HDR.out W hW)).cell 1
                refine ⟨by kernel_rfl, ?_⟩
                gi_step
                exact hK _ _ (Fr.refl _ _) rfl trivial
              simp only [Act.put, List.setIfInBounds_toArray, List.set_cons_succ, List.set_cons_zero]
              refine factWalkG_cons (fun W hW hf K hK => ?_) (fun x35 => ?_)
              · skip
                have e29 : x29 = .bool true := hf 29 (by omega) (by kernel_rfl)
                have e34 : x34 = .int .i64 n1 := hf 34 (by omega) (by kernel_rfl)
                subst e29 e34
                have hbn := bld_n W n1
                refine ⟨by kernel_rfl, ?_⟩
                gi_step
                exact hK _ _ (Fr.refl _ _) rfl trivial
              simp only [Act.put, List.setIfInBounds_toArray, List.set_cons_succ, List.set_cons_zero]
              refine factWalkG_cons (fun W hW hf K hK => ?_) (fun x36 => ?_)
              · skip
                have e29 : x29 = .bool true := hf 29 (by omega) (by kernel_rfl)
                have e32 : x32 = .agg (vcs 3 n1 [] none 0 0 none 0 0) := hf 32 (by omega) (by kernel_rfl)
                have e35 : x35 = .agg (vcs 3 n1 [] none 0 0 none 0 0) := hf 35 (by omega) (by kernel_rfl)
                subst e29 e32 e35
                refine ⟨by kernel_rfl, ?_⟩
                gi_step
                refine ⟨trivial, ?_⟩
                refine (callsIn_wide.2 (S4.out W)).mono ?_
                rintro e W' ⟨rfl, f2⟩
                dsimp only
                exact hK _ _ f2 rfl trivial
              simp only [Act.put, List.setIfInBounds_toArray, List.set_cons_succ, List.set_cons_zero]
              refine factWalkG_cons (fun W hW hf K hK => ?_) (fun x37 => ?_)
              · skip
                have e29 : x29 = .bool true := hf 29 (by omega) (by kernel_rfl)
                have e36 : x36 = .bool true := hf 36 (by omega) (by kernel_rfl)
                subst e29 e36
                refine ⟨by kernel_rfl, ?_⟩
                gi_step
                exact hK _ _ (Fr.refl _ _) rfl trivial
              simp only [Act.put, List.setIfInBounds_toArray, List.set_cons_succ, List.set_cons_zero]
              refine factWalkG_cons (fun W hW hf K hK => ?_) (fun x38 => ?_)
              · skip
                have e37 : x37 = .bool true := hf 37 (by omega) (by kernel_rfl)
                subst e37
                refine ⟨by kernel_rfl, ?_⟩
                gi_step
                exact hK _ _ (Fr.refl _ _) rfl trivial
              simp only [Act.put, List.setIfInBounds_toArray, List.set_cons_succ, List.set_cons_zero]
              refine factWalkG_cons (fun W hW hf K hK => ?_) (fun x39 => ?_)
              · skip
                have e38 : x38 = .bool true := hf 38 (by omega) (by kernel_rfl)
                subst e38
                refine ⟨by kernel_rfl, ?_⟩
                gi_step
                refine ⟨trivial, ?_⟩
                refine (callsIn_wide.2 (AWK.out W (HDR.out W hW))).mono ?_
                rintro e W' ⟨rfl, f2⟩
                dsimp only
                exact hK _ _ f2 rfl trivial
              simp only [Act.put, List.setIfInBounds_toArray, List.set_cons_succ, List.set_cons_zero]
              refine factWalkG_cons (fun W hW hf K hK => ?_) (fun x40 => ?_)
              · skip
                have e38 : x38 = .bool true := hf 38 (by omega) (by kernel_rfl)
                have e39 : x39 = .bool true := hf 39 (by omega) (by kernel_rfl)
                subst e38 e39
                refine ⟨by kernel_rfl, ?_⟩
                gi_step
                exact hK _ _ (Fr.refl _ _) rfl trivial
              simp only [Act.put, List.setIfInBounds_toArray, List.set_cons_succ, List.set_cons_zero]
              refine factWalkG_nil (fun W hW hf5 hmet => ?_)
              have e40 : x40 = .bool true := hf5 40 (by omega)
              subst e40
              have F9 : Hid (Fr (fun _ => False) w W) := Lib.hid (F.out.trans (HDR.out W hW) (fun _ _ h => h))
              clear hf5 hmet hW HDR
              change wpAnyIn _ _ _ _ _ _ 1 _ _ _
              refine wpAnyIn_ready (rs := [41]) (by kernel_rfl) (by simp) ?_
              refine AllReadyIn.cons rfl (fun K hK => ?_) AllReadyIn.nil
              go_simp
              refine hK _ _ ?_
              refine wpAnyIn_done (by kernel_rfl) ?_ _
              clear hK K
              go_wp2_with fail
              go_ret
              exact ⟨rfl, F9.out⟩
end Go.Proofs.YtnkfkicabgajmaaGreatDoor
