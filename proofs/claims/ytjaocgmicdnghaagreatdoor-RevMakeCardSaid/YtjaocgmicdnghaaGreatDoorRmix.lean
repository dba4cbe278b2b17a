/-
  CONTRACT of the reference's Mix.
-/
import Derived.Test.YtjaocgmicdnghaaGreatDoorRiv
import Derived.Test.YtjaocgmicdnghaaGreatDoorRstir
import Derived.Test.YtjaocgmicdnghaaGreatDoorMix
import Derived.BigRegion
import Derived.Deep.OwnRows
namespace Go.Proofs.YtjaocgmicdnghaaGreatDoor
set_option linter.unusedSimpArgs false
set_option linter.unusedVariables false
open Go Go.RowKit Go.Shelf
attribute [local go_sem] Oper.semAt_some

theorem u32_info : (Tryz.prog.info? 76).map (fun i => (i.zero, i.size, i.bytes)) = some (some (.int .u32 0), 1, 4) := by kernel_rfl
theorem rstir_l (w : World) (g cap a b c d : Nat) (a' b' c' d' : Int) (ea : a' = a) (eb : b' = b) (ec : c' = c) (ed : d' = d) (V : List Nat) (hv : Blk w g 76 (uv V)) (hV : Ws 16 V) (ha : a < 16) (hb : b < 16) (hc : c < 16) (hd : d < 16) (x y : Nat) (hx : x < 4294967296) (hy : y < 4294967296) :
    Calls Tryz.prog 95 #[.slice (some ⟨g, 0, none⟩) 16 cap, .int .i64 a', .int .i64 b', .int .i64 c', .int .i64 d', .int .u32 x, .int .u32 y] w fun e w' => e = .returned (.tuple #[]) ∧ Blk w' g 76 (uv (st V a b c d x y)) ∧ Fr (fun k => k = g) w w' := by
  subst ea eb ec ed
  exact rstir_c w g cap a b c d V hv hV ha hb hc hd x y hx hy
theorem made16 : madeCells #[.int .u32 0] 16 = uv (List.replicate 16 0) := by kernel_rfl

set_option maxRecDepth 100000 in
set_option maxHeartbeats 4000000 in
theorem rmix_c (w : World) (H : List Nat) (A : Option Addr) (c : Nat) (b : List UInt8) (n : Nat) (last : Bool) (hH : Ws 8 H) (hA : Rd w A 64 (bv b)) (hn : n < 18446744073709551616) :
    Calls Tryz.prog 76 #[.agg (uv H), .slice A 64 c, .int .u64 (n : Int), .bool last] w fun e w' => e = .returned (.agg (uv (mixL H (wds b) n last))) ∧ Fr (fun _ => False) w w' := by
  have HA := Lib.hid hA
  have HH := Lib.hid hH
  have HN := Lib.hid hn
  have hbl : b.length = 64 := by rw [← bv_length]; exact hA.1
  have HBL := Lib.hid hbl
  clear hA hH hn hbl
  go_enter Tryz.func76, Tryz.ntmps76
  have b1 := Blk.new w 77 (uv H)
  have f0 := ((Fr.refl (fun _ => False) w).alloc (.cells (uv H) 77)).alloc (.cells #[.int .u32 0, .int .u32 0, .int .u32 0, .int .u32 0, .int .u32 0, .int .u32 0, .int .u32 0, .int .u32 0] 77)
  have b2 := Blk.new (w.alloc (.cells (uv H) 77)) 77 #[.int .u32 0, .int .u32 0, .int .u32 0, .int .u32 0, .int .u32 0, .int .u32 0, .int .u32 0, .int .u32 0]
  rw [World.size_alloc] at b2
  have B1 := Lib.hid (b1.alloc (.cells #[.int .u32 0, .int .u32 0, .int .u32 0, .int .u32 0, .int .u32 0, .int .u32 0, .int .u32 0, .int .u32 0] 77))
  have B2 := Lib.hid b2
  have F0 := Lib.hid f0
  clear b1 f0 b2
  have hmk : ∀ W : World, (Instr.makeSlice 118 (.int .i64 16) (.int .i64 16)).run Tryz.prog W = .ok (.slice (some ⟨W.heap.size, 0, none⟩) 16 16) (W.alloc (.cells (madeCells #[.int .u32 0] 16) 76)) := run_make_row' (P := Tryz.prog) 118 76 _ 4 Tryz.underlying118 u32_info rfl .i64 .i64 16 (by omega) (by omega)
  have hm1 := Blk.new ((w.alloc (.cells (uv H) 77)).alloc (.cells #[.int .u32 0, .int .u32 0, .int .u32 0, .int .u32 0, .int .u32 0, .int .u32 0, .int .u32 0, .int .u32 0] 77)) 76 (madeCells #[.int .u32 0] 16)
  have hm2 := (Fr.refl (fun _ => False) ((w.alloc (.cells (uv H) 77)).alloc (.cells #[.int .u32 0, .int .u32 0, .int .u32 0, .int .u32 0, .int .u32 0, .int .u32 0, .int .u32 0, .int .u32 0] 77))).alloc (.cells (madeCells #[.int .u32 0] 16) 76)
  rw [World.size_alloc, World.size_alloc] at hm1
  have BM := Lib.hid hm1
  have F1 := Lib.hid (F0.out.trans hm2 (fun _ _ h => h))
  have C1 := Lib.hid (B1.out.fr hm2 (fun h => h))
  have C2 := Lib.hid (B2.out.fr hm2 (fun h => h))
  clear hm1 hm2 B1 B2 F0
  go_wp2_with fail
  clear hmk
  generalize ((w.alloc (.cells (uv H) 77)).alloc (.cells #[.int .u32 0, .int .u32 0, .int .u32 0, .int .u32 0, .int .u32 0, .int .u32 0, .int .u32 0, .int .u32 0] 77)).alloc (.cells (madeCells #[.int .u32 0] 16) 76) = w1 at *
  have BM0 : Hid (Blk w1 (w.heap.size + 1 + 1) 76 (uv (wp b 0))) := by
    have h := BM.out
    rw [made16] at h
    rw [wp_zero]
    exact h
  clear BM
  go_loopw [10] (fun iv wr => ∃ i : Nat, i ≤ 16 ∧ iv = .int .i64 i ∧ Hid (Blk wr (w.heap.size + 1 + 1) 76 (uv (wp b i))) ∧ Hid (Fr (fun k => k = w.heap.size + 1 + 1) w1 wr)) (fun iv _ => 16 - (intOf iv).toNat)
  case atStart => exact ⟨0, Nat.zero_le _, rfl, BM0.out, Fr.refl _ _⟩
  case round =>
    obtain ⟨i, hi, rfl, hb, hf⟩ := hrel
    by_cases hlt : i < 16
    · have hdl : decide ((i : Int) < 16) = true := decide_eq_true (by omega)
      have r := HA.out.fr (F1.out.trans hf.out (fun k hk e => by omega)) (fun _ _ h => h)
      obtain ⟨g, o, rfl, -⟩ := r.lit (by omega)
      have hw : wd b i = ((b[4 * i]'(by rw [HBL.out]; omega)).toNat + 256 * (b[4 * i + 1]'(by rw [HBL.out]; omega)).toNat + 65536 * (b[4 * i + 2]'(by rw [HBL.out]; omega)).toNat + 16777216 * (b[4 * i + 3]'(by rw [HBL.out]; omega)).toNat) := by
        unfold wd
        rw [List.getElem?_eq_getElem (by rw [HBL.out]; omega), List.getElem?_eq_getElem (by rw [HBL.out]; omega), List.getElem?_eq_getElem (by rw [HBL.out]; omega), List.getElem?_eq_getElem (by rw [HBL.out]; omega)]
        rfl
      have x0 := r.cell (k := 4 * i) (by omega)
      have x1 := r.cell (k := 4 * i + 1) (by omega)
      have x2 := r.cell (k := 4 * i + 2) (by omega)
      have x3 := r.cell (k := 4 * i + 3) (by omega)
      rw [bv_get _ _ (by rw [HBL.out]; omega)] at x0 x1 x2 x3
      have l0 := (b[4 * i]'(by rw [HBL.out]; omega)).toNat_lt
      have l1 := (b[4 * i + 1]'(by rw [HBL.out]; omega)).toNat_lt
      have l2 := (b[4 * i + 2]'(by rw [HBL.out]; omega)).toNat_lt
      have l3 := (b[4 * i + 3]'(by rw [HBL.out]; omega)).toNat_lt
      generalize (b[4 * i]'(by rw [HBL.out]; omega)).toNat = y0 at *
      generalize (b[4 * i + 1]'(by rw [HBL.out]; omega)).toNat = y1 at *
      generalize (b[4 * i + 2]'(by rw [HBL.out]; omega)).toNat = y2 at *
      generalize (b[4 * i + 3]'(by rw [HBL.out]; omega)).toNat = y3 at *
      have HW := Lib.hid hw
      have y0b : (y0 : Int) < 256 := by omega
      have y1b : (y1 : Int) < 256 := by omega
      have y2b : (y2 : Int) < 256 := by omega
      have y3b : (y3 : Int) < 256 := by omega
      have fr : wr.frozen? ⟨w.heap.size + 1 + 1, i, none⟩ = false := hb.out.frozen i
      have xm : wr.cell? ⟨w.heap.size + 1 + 1, i, none⟩ = some (.int .u32 (at_ (wp b i) i : Nat)) := by rw [hb.out.cell, uv_get _ _ (by rw [wp_len]; exact hlt)]
      have hi16 : (i : Int) < 16 := by omega
      have v1 : IntKind.i64.wrap (4 * (i : Int)) = 4 * (i : Int) := IntWalk.i64_in _ (by omega)
      have v2 : IntKind.i64.wrap (4 * (i : Int) + 1) = 4 * (i : Int) + 1 := IntWalk.i64_in _ (by omega)
      have v3 : IntKind.i64.wrap (4 * (i : Int) + 2) = 4 * (i : Int) + 2 := IntWalk.i64_in _ (by omega)
      have v4 : IntKind.i64.wrap (4 * (i : Int) + 3) = 4 * (i : Int) + 3 := IntWalk.i64_in _ (by omega)
      have t1 : (4 * (i : Int)).toNat = 4 * i := by omega
      have t2 : (4 * (i : Int) + 1).toNat = 4 * i + 1 := by omega
      have t3 : (4 * (i : Int) + 2).toNat = 4 * i + 2 := by omega
      have t4 : (4 * (i : Int) + 3).toNat = 4 * i + 3 := by omega
      have s1 : 4 * (i : Int) < 64 := by omega
      have s2 : 4 * (i : Int) + 1 < 64 := by omega
      have s3 : 4 * (i : Int) + 2 < 64 := by omega
      have s4 : 4 * (i : Int) + 3 < 64 := by omega
      clear hw r l0 l1 l2 l3
      go_wp2_with fail
      clear hdl
      have x0 : wr.drew.cell? ⟨g, o + 4 * i, none⟩ = some (.int .u8 (y0 : Int)) := x0
      have x1 : wr.drew.cell? ⟨g, o + (4 * i + 1), none⟩ = some (.int .u8 (y1 : Int)) := x1
      have x2 : wr.drew.cell? ⟨g, o + (4 * i + 2), none⟩ = some (.int .u8 (y2 : Int)) := x2
      have x3 : wr.drew.cell? ⟨g, o + (4 * i + 3), none⟩ = some (.int .u8 (y3 : Int)) := x3
      have fr : wr.drew.frozen? ⟨w.heap.size + 1 + 1, i, none⟩ = false := fr
      have xm : wr.drew.cell? ⟨w.heap.size + 1 + 1, i, none⟩ = some (.int .u32 (at_ (wp b i) i : Nat)) := xm
      refine (wpIn_wide (n := 9)).1 ?_
      refine wpIn_region_quietHead (k := 36) (by kernel_rfl) (by kernel_rfl) ?_
      iterate 36
        refine quietWalk_cons (a' := ?_) (v := ?_) ?_ ?_ ?_
        rotate_left 2
        · intro K hK
          gi_step
          exact hK
        · exact rfl
      refine quietWalk_nil ?_
      change wpAnyIn _ _ _ _ _ _ 1 _ _ _
      refine wpAnyIn_ready (rs := [36]) (by kernel_rfl) (by simp) ?_
      refine AllReadyIn.cons rfl (fun K hK => ?_) AllReadyIn.nil
      go_simp
      refine hK _ _ ?_
      refine wpAnyIn_done (by kernel_rfl) ?_ _
      clear hK K x0 x1 x2 x3 fr xm
      go_wp2_with fail
      have hs := hb.out.set_ i (.int .u32 ((wd b i : Nat) : Int))
      rw [uv_set, wp_step b i hlt] at hs
      have he : (y0 : Int) + 256 * (y1 : Int) + 65536 * (y2 : Int) + 16777216 * (y3 : Int) = ((wd b i : Nat) : Int) := by rw [HW.out]; omega
      rw [he]
      exact ⟨⟨i + 1, by omega, by go_num, hs.drew, (hf.out.setCell (p := ⟨w.heap.size + 1 + 1, i, none⟩) (fun _ => rfl) _).drew⟩, by simp [intOf]; omega⟩
    · obtain rfl : i = 16 := by omega
      rw [show ((16 : Nat) : Int) = 16 from rfl]
      have hb1 := hb.out
      rw [wp_all] at hb1
      have HM := Lib.hid hb1
      have F2 := Lib.hid (F1.out.trans hf.out (fun k hk e => by omega))
      have D1 := Lib.hid (C1.out.fr hf.out (by omega))
      have D2 := Lib.hid (C2.out.fr hf.out (by omega))
      clear hb hb1 hf F1 C1 C2 BM0
      have hmk : ∀ W : World, (Instr.makeSlice 118 (.int .i64 16) (.int .i64 16)).run Tryz.prog W = .ok (.slice (some ⟨W.heap.size, 0, none⟩) 16 16) (W.alloc (.cells (madeCells #[.int .u32 0] 16) 76)) := run_make_row' (P := Tryz.prog) 118 76 _ 4 Tryz.underlying118 u32_info rfl .i64 .i64 16 (by omega) (by omega)
      have hm1 := Blk.new wr 76 (madeCells #[.int .u32 0] 16)
      have hm2 := (Fr.refl (fun _ => False) wr).alloc (.cells (madeCells #[.int .u32 0] 16) 76)
      rw [made16, ← vi_zero H] at hm1
      rw [made16, ← vi_zero H] at hm2
      have BV := Lib.hid hm1
      have F3 := Lib.hid (F2.out.trans hm2 (fun _ _ h => h))
      have E1 := Lib.hid (D1.out.fr hm2 (fun h => h))
      have E2 := Lib.hid (D2.out.fr hm2 (fun h => h))
      have EM := Lib.hid (HM.out.fr hm2 (fun h => h))
      have hgm := HM.out.lt
      clear hm1 hm2 D1 D2 HM F2
      go_wp2_with fail
      clear hmk
      rw [made16, ← vi_zero H]
      generalize wr.alloc (.cells (uv (vi H 0)) 76) = w2 at *
      obtain ⟨gv, hgv⟩ : ∃ gv, wr.heap.size = gv := ⟨_, rfl⟩
      rw [hgv] at hgm BV ⊢
      have hgm0 : w.heap.size + 1 + 1 < gv := hgm
      clear hgm hgv
      go_loopw [12] (fun iv wr => ∃ i : Nat, i ≤ 8 ∧ iv = .int .i64 i ∧ Hid (Blk wr gv 76 (uv (vi H i))) ∧ Hid (Fr (fun k => k = gv) w2 wr)) (fun iv _ => 8 - (intOf iv).toNat)
      case atStart => exact ⟨0, Nat.zero_le _, rfl, BV.out, Fr.refl _ _⟩
      case round =>
        obtain ⟨i, hi, rfl, hb, hf⟩ := hrel
        by_cases h8 : i < 8
        · have h8' : decide ((i : Int) < 8) = true := decide_eq_true (by omega)
          have bh := E1.out.fr hf.out (by omega)
          have x1 : wr.cell? ⟨w.heap.size, i, none⟩ = some (.int .u32 (at_ H i : Nat)) := by rw [bh.cell, uv_get _ _ (by rw [HH.out.1]; exact h8)]
          have y1 : wr.cell? ⟨gv, i, none⟩ = some (.int .u32 (at_ (vi H i) i : Nat)) := by rw [hb.out.cell, uv_get _ _ (by rw [vi_len]; omega)]
          have r1 : wr.frozen? ⟨gv, i, none⟩ = false := hb.out.frozen _
          have e1 : IntKind.i64.wrap ((i : Int) + 8) = (i : Int) + 8 := IntWalk.i64_in _ (by omega)
          have e2 : ((i : Int) + 8).toNat = i + 8 := by omega
          have e3 : (0 : Int) ≤ (i : Int) + 8 := by omega
          have e4 : (i : Int) + 8 < 16 := by omega
          have e5 : (i : Int) < 16 := by omega
          clear bh
          go_wp2_with fail
          refine (riv_c _ i h8).mono ?_
          rintro e w3 ⟨rfl, f3⟩
          have hs := (hb.out.set_ i (.int .u32 (at_ H i : Nat))).fr f3 (fun h => h)
          have hfs := (hf.out.setCell (p := ⟨gv, i, none⟩) (fun _ => rfl) (.int .u32 (at_ H i : Nat))).trans f3 (fun _ _ h => h.elim)
          rw [uv_set] at hs
          have r2 := hs.frozen (i + 8)
          have y2 : w3.cell? ⟨gv, i + 8, none⟩ = some (.int .u32 (at_ ((vi H i).set i (at_ H i)) (i + 8) : Nat)) := by rw [hs.cell, uv_get _ _ (by rw [List.length_set, vi_len]; omega)]
          have HS := Lib.hid hs
          have HFS := Lib.hid hfs
          clear hs hfs f3 hb hf x1 y1 r1
          go_wp2_with fail
          have hs := HS.out.set_ (i + 8) (.int .u32 (at_ ivs i : Nat))
          rw [uv_set, vi_step H i h8] at hs
          exact ⟨⟨i + 1, by omega, by go_num, hs, (HFS.out.setCell (p := ⟨gv, i + 8, none⟩) (fun _ => rfl) _)⟩, by simp [intOf]; omega⟩
        · have h8' : decide ((i : Int) < 8) = false := by simp; omega
          obtain rfl : i = 8 := by omega
          rw [show ((8 : Nat) : Int) = 8 from rfl]
          have hb1 := hb.out
          rw [vi_all H HH.out.1] at hb1
          have HB1 := Lib.hid hb1
          have hcell : ∀ j, j < 8 → wr.cell? ⟨gv, 8 + j, none⟩ = some (.int .u32 (at_ ivs j : Nat)) := fun j hj => by
            rw [HB1.out.cell, uv_get _ _ (by rw [List.length_append, HH.out.1]; show _ < 8 + 8; omega)]
            congr 3
            unfold at_
            rw [List.getElem?_append_right (by rw [HH.out.1]; omega), HH.out.1, Nat.add_sub_cancel_left]
          have F4 := Lib.hid (F3.out.trans hf.out (fun k hk e => by omega))
          have D1 := Lib.hid (E1.out.fr hf.out (by omega))
          have D2 := Lib.hid (E2.out.fr hf.out (by omega))
          have DM := Lib.hid (EM.out.fr hf.out (by omega))
          clear hb hb1 hf E1 E2 EM F3 BV
          obtain ⟨k4, hk4⟩ : ∃ k, at_ ivs 4 = k := ⟨_, rfl⟩
          obtain ⟨k5, hk5⟩ : ∃ k, at_ ivs 5 = k := ⟨_, rfl⟩
          obtain ⟨k6, hk6⟩ : ∃ k, at_ ivs 6 = k := ⟨_, rfl⟩
          have hk4l : k4 < 4294967296 := by rw [← hk4]; decide
          have hk5l : k5 < 4294967296 := by rw [← hk5]; decide
          have hk6l : k6 < 4294967296 := by rw [← hk6]; decide
          have x12 : wr.cell? ⟨gv, 12, none⟩ = some (.int .u32 (k4 : Int)) := by rw [← hk4]; exact hcell 4 (by omega)
          have x13 : wr.cell? ⟨gv, 13, none⟩ = some (.int .u32 (k5 : Int)) := by rw [← hk5]; exact hcell 5 (by omega)
          have x14 : wr.cell? ⟨gv, 14, none⟩ = some (.int .u32 (k6 : Int)) := by rw [← hk6]; exact hcell 6 (by omega)
          have r12 : wr.frozen? ⟨gv, 12, none⟩ = false := HB1.out.frozen _
          have r13 : wr.frozen? ⟨gv, 13, none⟩ = false := HB1.out.frozen _
          have r14 : wr.frozen? ⟨gv, 14, none⟩ = false := HB1.out.frozen _
          have HV := Lib.hid (show v0 H n last = if last then (((H ++ ivs).set 12 (k4 ^^^ n % 4294967296)).set 13 (k5 ^^^ n / 4294967296)).set 14 (k6 ^^^ 4294967295) else (((H ++ ivs).set 12 (k4 ^^^ n % 4294967296)).set 13 (k5 ^^^ n / 4294967296)) from by rw [← hk4, ← hk5, ← hk6]; rfl)
          clear hk4 hk5 hk6 hcell
          have hn0 : (0 : Int) ≤ (n : Int) := by omega
          obtain ⟨n1, hn1⟩ : ∃ n1, n / 4294967296 = n1 := ⟨_, rfl⟩
          obtain ⟨n2, hn2⟩ : ∃ n2, n % 4294967296 = n2 := ⟨_, rfl⟩
          have hq : n1 < 4294967296 := by have := HN.out; omega
          have hq2 : n2 < 4294967296 := by omega
          have hQ : (n : Int) / 4294967296 = (n1 : Int) := by omega
          have hQ2 : (n : Int) % 4294967296 = (n2 : Int) := by omega
          rw [hn1, hn2] at HV
          have h1 : bits .xor .u32 (k4 : Int) (n2 : Int) = ((k4 ^^^ n2 : Nat) : Int) := u32_xor_nat _ _ hk4l hq2
          have h2 : bits .xor .u32 (k5 : Int) (n1 : Int) = ((k5 ^^^ n1 : Nat) : Int) := u32_xor_nat _ _ hk5l hq
          have h3 : bits .xor .u32 (k6 : Int) 4294967295 = ((k6 ^^^ 4294967295 : Nat) : Int) := u32_xor_nat _ 4294967295 hk6l (by omega)
          clear hn1 hn2
          have ws0 : Hid (Ws 16 (v0 H n last)) := HH.out.ofV0 n HN.out last
          go_upto_if 93 with fail
          go_cut [] from 75 to 99 (fun wx => Hid (Blk wx gv 76 (uv (v0 H n last))) ∧ Hid (Fr (fun k => k = gv) wr wx))
          case first =>
            as_aux_lemma =>
            cases last
            · go_wp2_with fail
              go_meet
              have hs := (HB1.out.set_ 12 (.int .u32 ((k4 ^^^ n2 : Nat) : Int))).set_ 13 (.int .u32 ((k5 ^^^ n1 : Nat) : Int))
              rw [uv_set, uv_set] at hs
              have hv := HV.out
              rw [if_neg (by decide)] at hv
              rw [← hv] at hs
              exact ⟨hs, ((Fr.refl (fun k => k = gv) wr).setCell (p := ⟨gv, 12, none⟩) (fun _ => rfl) _).setCell (p := ⟨gv, 13, none⟩) (fun _ => rfl) _⟩
            · go_wp2_with fail
              go_meet
              have hs := ((HB1.out.set_ 12 (.int .u32 ((k4 ^^^ n2 : Nat) : Int))).set_ 13 (.int .u32 ((k5 ^^^ n1 : Nat) : Int))).set_ 14 (.int .u32 ((k6 ^^^ 4294967295 : Nat) : Int))
              rw [uv_set, uv_set, uv_set] at hs
              have hv := HV.out
              rw [if_pos trivial] at hv
              rw [← hv] at hs
              exact ⟨hs, (((Fr.refl (fun k => k = gv) wr).setCell (p := ⟨gv, 12, none⟩) (fun _ => rfl) _).setCell (p := ⟨gv, 13, none⟩) (fun _ => rfl) _).setCell (p := ⟨gv, 14, none⟩) (fun _ => rfl) _⟩
          case rest =>
            as_aux_lemma =>
            obtain ⟨hb3, hf3⟩ := hcut
            clear x12 x13 x14 r12 r13 r14 h1 h2 h3 hn0 hq hq2 hQ hQ2 hk4l hk5l hk6l HV HB1
            have F5 := Lib.hid (F4.out.trans hf3.out (fun k hk e => by omega))
            have G1 := Lib.hid (D1.out.fr hf3.out (by omega))
            have G2 := Lib.hid (D2.out.fr hf3.out (by omega))
            have GM := Lib.hid (DM.out.fr hf3.out (by omega))
            clear F4 D1 D2 DM hf3
            go_wp2_with fail
            refine (rorders_c _).mono ?_
            rintro e w4 ⟨rfl, o4, f4⟩
            have hgc := hb3.out.lt
            have O4 := Lib.hid o4
            have F6 := Lib.hid (F5.out.trans f4 (fun _ _ h => h))
            have K1 := Lib.hid (G1.out.fr f4 (fun h => h))
            have K2 := Lib.hid (G2.out.fr f4 (fun h => h))
            have KM := Lib.hid (GM.out.fr f4 (fun h => h))
            have KV := Lib.hid (hb3.out.fr f4 (fun h => h))
            obtain ⟨B0, hB0⟩ : ∃ B0, wc.heap.size = B0 := ⟨_, rfl⟩
            rw [hB0] at O4 hgc ⊢
            obtain ⟨go, hgo⟩ : ∃ go, B0 + 10 = go := ⟨_, rfl⟩
            rw [hgo] at O4 ⊢
            obtain ⟨gm, hgm⟩ : ∃ gm, w.heap.size + 1 + 1 = gm := ⟨_, rfl⟩
            rw [hgm] at KM hgm0 ⊢
            have hgm1 : w.heap.size + 1 < gm := by omega
            clear o4 f4 F5 G1 G2 GM hb3 hgm
            go_wp2_with fail
            go_loopw [14] (fun iv wr => ∃ r : Nat, r ≤ 10 ∧ iv = .int .i64 r ∧ Hid (Blk wr gv 76 (uv (rnds (wds b) (v0 H n last) r))) ∧ Hid (Fr (fun k => k = gv) w4 wr)) (fun iv _ => 10 - (intOf iv).toNat)
            case atStart => exact ⟨0, Nat.zero_le _, rfl, KV.out, Fr.refl _ _⟩
            case round =>
              obtain ⟨r, hr, rfl, hb, hf⟩ := hrel
              by_cases h10 : r < 10
              · have hdl : decide ((r : Int) < 10) = true := decide_eq_true (by omega)
                have ho := O4.out.fr hf.out (fun k hk => by omega)
                obtain ⟨q, hq1, hq2, hq3, hq4⟩ := ho.ord r h10
                have hr10 : (r : Int) < 10 := by omega
                have HQ := Lib.hid hq4
                have BMr := Lib.hid (KM.out.fr hf.out (by omega))
                have hws := ws0.out.rnds (wds b) r
                have HW0 := Lib.hid hws
                clear ho hws hq4
                obtain ⟨X0, hX0⟩ : ∃ X, rnds (wds b) (v0 H n last) r = X := ⟨_, rfl⟩
                have EX0 := Lib.hid hX0
                rw [hX0] at hb HW0
                clear hX0
                have HB0 := hb
                have HF0 := Lib.hid (Fr.refl (fun k => k = gv) wr)
                obtain ⟨wr0, hwr0⟩ : ∃ wr0 : World, wr0 = wr := ⟨_, rfl⟩
                have HQ0 := HQ
                have hqB : B0 ≤ q := hq1
                have hqw : q < wr.heap.size := hq2
                clear hb hq1 hq2
                go_wp2_with fail
                clear hdl hq3

                obtain ⟨o1, ho1⟩ : ∃ o1, od r (2 * 0) = o1 := ⟨_, rfl⟩
                obtain ⟨o2, ho2⟩ : ∃ o2, od r (2 * 0 + 1) = o2 := ⟨_, rfl⟩
                obtain ⟨m1, hm1⟩ : ∃ m1, at_ (wds b) o1 = m1 := ⟨_, rfl⟩
                obtain ⟨m2, hm2⟩ : ∃ m2, at_ (wds b) o2 = m2 := ⟨_, rfl⟩
                have hl1 : o1 < 16 := by rw [← ho1]; exact od_lt _ _
                have hl2 : o2 < 16 := by rw [← ho2]; exact od_lt _ _
                have hy1 : m1 < 4294967296 := by rw [← hm1]; exact at_lt (ws_wds b) _
                have hy2 : m2 < 4294967296 := by rw [← hm2]; exact at_lt (ws_wds b) _
                have xo1 : wr.drew.cell? ⟨q, 0, none⟩ = some (.int .i64 (o1 : Nat)) := by
                  rw [HF0.out.drew.cell (p := ⟨q, 0, none⟩) hqw (by dsimp only; omega), HQ.out 0 (by omega), ho1]
                have xo2 : wr.drew.cell? ⟨q, 1, none⟩ = some (.int .i64 (o2 : Nat)) := by
                  rw [HF0.out.drew.cell (p := ⟨q, 1, none⟩) hqw (by dsimp only; omega), HQ.out 1 (by omega), ho2]
                have hbm := (BMr.out.fr HF0.out (by omega)).drew
                have xm1 : wr.drew.cell? ⟨gm, o1, none⟩ = some (.int .u32 (m1 : Nat)) := by rw [hbm.cell, uv_get _ _ (by rw [(ws_wds b).1]; exact hl1), hm1]
                have xm2 : wr.drew.cell? ⟨gm, o2, none⟩ = some (.int .u32 (m2 : Nat)) := by rw [hbm.cell, uv_get _ _ (by rw [(ws_wds b).1]; exact hl2), hm2]
                have ho1I : (o1 : Int) < 16 := by omega
                have ho2I : (o2 : Int) < 16 := by omega
                have EO1 := Lib.hid ho1
                have EO2 := Lib.hid ho2
                have EM1 := Lib.hid hm1
                have EM2 := Lib.hid hm2
                clear hbm ho1 ho2 hm1 hm2
                refine (wpIn_wide (n := 9)).1 ?_
                refine wpIn_region_quietHead (k := 13) (by kernel_rfl) (by kernel_rfl) ?_
                iterate 13
                  refine quietWalk_cons (a' := ?_) (v := ?_) ?_ ?_ ?_
                  rotate_left 2
                  · intro K hK
                    gi_step
                    exact hK
                  · exact rfl
                refine quietWalk_nil ?_
                change wpAnyIn _ _ _ _ _ _ 1 _ _ _
                refine wpAnyIn_ready (rs := [13]) (by kernel_rfl) (by simp) ?_
                refine AllReadyIn.cons rfl (fun K hK => ?_) AllReadyIn.nil
                clear xo1 xo2 xm1 xm2
                go_simp
                refine ⟨trivial, ?_⟩
                refine (callsIn_wide.2 (rstir_l wr.drew gv 16 0 4 8 12 0 4 8 12 rfl rfl rfl rfl X0 HB0.out.drew HW0.out (by omega) (by omega) (by omega) (by omega) m1 m2 hy1 hy2)).mono ?_
                rintro e y1 ⟨rfl, hbn, hfn⟩
                dsimp only
                refine hK _ _ ?_
                refine wpAnyIn_done (by kernel_rfl) ?_ _
                clear hK K
                obtain ⟨X1, hX1⟩ : ∃ X, st X0 0 4 8 12 m1 m2 = X := ⟨_, rfl⟩
                have hwn := HW0.out.st 0 4 8 12 m1 m2
                rw [hX1] at hbn hwn
                have HW1 := Lib.hid hwn
                have HB1 := Lib.hid hbn
                have HF1 := Lib.hid (HF0.out.drew.trans hfn (fun _ _ h => h))
                have EX1 : Hid (step (wds b) r 0 X0 = X1) := by
                  rw [← hX1, ← EM1.out, ← EM2.out, ← EO1.out, ← EO2.out]
                  exact rfl
                clear hwn hbn hfn hX1 EM1 EM2 EO1 EO2 hy1 hy2 hl1 hl2 ho1I ho2I HW0 HB0 HF0
                go_wp2_with fail
                obtain ⟨o1, ho1⟩ : ∃ o1, od r (2 * 1) = o1 := ⟨_, rfl⟩
                obtain ⟨o2, ho2⟩ : ∃ o2, od r (2 * 1 + 1) = o2 := ⟨_, rfl⟩
                obtain ⟨m1, hm1⟩ : ∃ m1, at_ (wds b) o1 = m1 := ⟨_, rfl⟩
                obtain ⟨m2, hm2⟩ : ∃ m2, at_ (wds b) o2 = m2 := ⟨_, rfl⟩
                have hl1 : o1 < 16 := by rw [← ho1]; exact od_lt _ _
                have hl2 : o2 < 16 := by rw [← ho2]; exact od_lt _ _
                have hy1 : m1 < 4294967296 := by rw [← hm1]; exact at_lt (ws_wds b) _
                have hy2 : m2 < 4294967296 := by rw [← hm2]; exact at_lt (ws_wds b) _
                have xo1 : y1.drew.cell? ⟨q, 2, none⟩ = some (.int .i64 (o1 : Nat)) := by
                  rw [HF1.out.drew.cell (p := ⟨q, 2, none⟩) hqw (by dsimp only; omega), HQ.out 2 (by omega), ho1]
                have xo2 : y1.drew.cell? ⟨q, 3, none⟩ = some (.int .i64 (o2 : Nat)) := by
                  rw [HF1.out.drew.cell (p := ⟨q, 3, none⟩) hqw (by dsimp only; omega), HQ.out 3 (by omega), ho2]
                have hbm := (BMr.out.fr HF1.out (by omega)).drew
                have xm1 : y1.drew.cell? ⟨gm, o1, none⟩ = some (.int .u32 (m1 : Nat)) := by rw [hbm.cell, uv_get _ _ (by rw [(ws_wds b).1]; exact hl1), hm1]
                have xm2 : y1.drew.cell? ⟨gm, o2, none⟩ = some (.int .u32 (m2 : Nat)) := by rw [hbm.cell, uv_get _ _ (by rw [(ws_wds b).1]; exact hl2), hm2]
                have ho1I : (o1 : Int) < 16 := by omega
                have ho2I : (o2 : Int) < 16 := by omega
                have EO1 := Lib.hid ho1
                have EO2 := Lib.hid ho2
                have EM1 := Lib.hid hm1
                have EM2 := Lib.hid hm2
                clear hbm ho1 ho2 hm1 hm2
                refine (wpIn_wide (n := 9)).1 ?_
                refine wpIn_region_quietHead (k := 13) (by kernel_rfl) (by kernel_rfl) ?_
                iterate 13
                  refine quietWalk_cons (a' := ?_) (v := ?_) ?_ ?_ ?_
                  rotate_left 2
                  · intro K hK
                    gi_step
                    exact hK
                  · exact rfl
                refine quietWalk_nil ?_
                change wpAnyIn _ _ _ _ _ _ 1 _ _ _
                refine wpAnyIn_ready (rs := [13]) (by kernel_rfl) (by simp) ?_
                refine AllReadyIn.cons rfl (fun K hK => ?_) AllReadyIn.nil
                clear xo1 xo2 xm1 xm2
                go_simp
                refine ⟨trivial, ?_⟩
                refine (callsIn_wide.2 (rstir_l y1.drew gv 16 1 5 9 13 1 5 9 13 rfl rfl rfl rfl X1 HB1.out.drew HW1.out (by omega) (by omega) (by omega) (by omega) m1 m2 hy1 hy2)).mono ?_
                rintro e y2 ⟨rfl, hbn, hfn⟩
                dsimp only
                refine hK _ _ ?_
                refine wpAnyIn_done (by kernel_rfl) ?_ _
                clear hK K
                obtain ⟨X2, hX2⟩ : ∃ X, st X1 1 5 9 13 m1 m2 = X := ⟨_, rfl⟩
                have hwn := HW1.out.st 1 5 9 13 m1 m2
                rw [hX2] at hbn hwn
                have HW2 := Lib.hid hwn
                have HB2 := Lib.hid hbn
                have HF2 := Lib.hid (HF1.out.drew.trans hfn (fun _ _ h => h))
                have EX2 : Hid (step (wds b) r 1 X1 = X2) := by
                  rw [← hX2, ← EM1.out, ← EM2.out, ← EO1.out, ← EO2.out]
                  exact rfl
                clear hwn hbn hfn hX2 EM1 EM2 EO1 EO2 hy1 hy2 hl1 hl2 ho1I ho2I HW1 HB1 HF1
                go_wp2_with fail
                obtain ⟨o1, ho1⟩ : ∃ o1, od r (2 * 2) = o1 := ⟨_, rfl⟩
                obtain ⟨o2, ho2⟩ : ∃ o2, od r (2 * 2 + 1) = o2 := ⟨_, rfl⟩
                obtain ⟨m1, hm1⟩ : ∃ m1, at_ (wds b) o1 = m1 := ⟨_, rfl⟩
                obtain ⟨m2, hm2⟩ : ∃ m2, at_ (wds b) o2 = m2 := ⟨_, rfl⟩
                have hl1 : o1 < 16 := by rw [← ho1]; exact od_lt _ _
                have hl2 : o2 < 16 := by rw [← ho2]; exact od_lt _ _
                have hy1 : m1 < 4294967296 := by rw [← hm1]; exact at_lt (ws_wds b) _
                have hy2 : m2 < 4294967296 := by rw [← hm2]; exact at_lt (ws_wds b) _
                have xo1 : y2.drew.cell? ⟨q, 4, none⟩ = some (.int .i64 (o1 : Nat)) := by
                  rw [HF2.out.drew.cell (p := ⟨q, 4, none⟩) hqw (by dsimp only; omega), HQ.out 4 (by omega), ho1]
                have xo2 : y2.drew.cell? ⟨q, 5, none⟩ = some (.int .i64 (o2 : Nat)) := by
                  rw [HF2.out.drew.cell (p := ⟨q, 5, none⟩) hqw (by dsimp only; omega), HQ.out 5 (by omega), ho2]
                have hbm := (BMr.out.fr HF2.out (by omega)).drew
                have xm1 : y2.drew.cell? ⟨gm, o1, none⟩ = some (.int .u32 (m1 : Nat)) := by rw [hbm.cell, uv_get _ _ (by rw [(ws_wds b).1]; exact hl1), hm1]
                have xm2 : y2.drew.cell? ⟨gm, o2, none⟩ = some (.int .u32 (m2 : Nat)) := by rw [hbm.cell, uv_get _ _ (by rw [(ws_wds b).1]; exact hl2), hm2]
                have ho1I : (o1 : Int) < 16 := by omega
                have ho2I : (o2 : Int) < 16 := by omega
                have EO1 := Lib.hid ho1
                have EO2 := Lib.hid ho2
                have EM1 := Lib.hid hm1
                have EM2 := Lib.hid hm2
                clear hbm ho1 ho2 hm1 hm2
                refine (wpIn_wide (n := 9)).1 ?_
                refine wpIn_region_quietHead (k := 13) (by kernel_rfl) (by kernel_rfl) ?_
                iterate 13
                  refine quietWalk_cons (a' := ?_) (v := ?_) ?_ ?_ ?_
                  rotate_left 2
                  · intro K hK
                    gi_step
                    exact hK
                  · exact rfl
                refine quietWalk_nil ?_
                change wpAnyIn _ _ _ _ _ _ 1 _ _ _
                refine wpAnyIn_ready (rs := [13]) (by kernel_rfl) (by simp) ?_
                refine AllReadyIn.cons rfl (fun K hK => ?_) AllReadyIn.nil
                clear xo1 xo2 xm1 xm2
                go_simp
                refine ⟨trivial, ?_⟩
                refine (callsIn_wide.2 (rstir_l y2.drew gv 16 2 6 10 14 2 6 10 14 rfl rfl rfl rfl X2 HB2.out.drew HW2.out (by omega) (by omega) (by omega) (by omega) m1 m2 hy1 hy2)).mono ?_
                rintro e y3 ⟨rfl, hbn, hfn⟩
                dsimp only
                refine hK _ _ ?_
                refine wpAnyIn_done (by kernel_rfl) ?_ _
                clear hK K
                obtain ⟨X3, hX3⟩ : ∃ X, st X2 2 6 10 14 m1 m2 = X := ⟨_, rfl⟩
                have hwn := HW2.out.st 2 6 10 14 m1 m2
                rw [hX3] at hbn hwn
                have HW3 := Lib.hid hwn
                have HB3 := Lib.hid hbn
                have HF3 := Lib.hid (HF2.out.drew.trans hfn (fun _ _ h => h))
                have EX3 : Hid (step (wds b) r 2 X2 = X3) := by
                  rw [← hX3, ← EM1.out, ← EM2.out, ← EO1.out, ← EO2.out]
                  exact rfl
                clear hwn hbn hfn hX3 EM1 EM2 EO1 EO2 hy1 hy2 hl1 hl2 ho1I ho2I HW2 HB2 HF2
                go_wp2_with fail
                obtain ⟨o1, ho1⟩ : ∃ o1, od r (2 * 3) = o1 := ⟨_, rfl⟩
                obtain ⟨o2, ho2⟩ : ∃ o2, od r (2 * 3 + 1) = o2 := ⟨_, rfl⟩
                obtain ⟨m1, hm1⟩ : ∃ m1, at_ (wds b) o1 = m1 := ⟨_, rfl⟩
                obtain ⟨m2, hm2⟩ : ∃ m2, at_ (wds b) o2 = m2 := ⟨_, rfl⟩
                have hl1 : o1 < 16 := by rw [← ho1]; exact od_lt _ _
                have hl2 : o2 < 16 := by rw [← ho2]; exact od_lt _ _
                have hy1 : m1 < 4294967296 := by rw [← hm1]; exact at_lt (ws_wds b) _
                have hy2 : m2 < 4294967296 := by rw [← hm2]; exact at_lt (ws_wds b) _
                have xo1 : y3.drew.cell? ⟨q, 6, none⟩ = some (.int .i64 (o1 : Nat)) := by
                  rw [HF3.out.drew.cell (p := ⟨q, 6, none⟩) hqw (by dsimp only; omega), HQ.out 6 (by omega), ho1]
                have xo2 : y3.drew.cell? ⟨q, 7, none⟩ = some (.int .i64 (o2 : Nat)) := by
                  rw [HF3.out.drew.cell (p := ⟨q, 7, none⟩) hqw (by dsimp only; omega), HQ.out 7 (by omega), ho2]
                have hbm := (BMr.out.fr HF3.out (by omega)).drew
                have xm1 : y3.drew.cell? ⟨gm, o1, none⟩ = some (.int .u32 (m1 : Nat)) := by rw [hbm.cell, uv_get _ _ (by rw [(ws_wds b).1]; exact hl1), hm1]
                have xm2 : y3.drew.cell? ⟨gm, o2, none⟩ = some (.int .u32 (m2 : Nat)) := by rw [hbm.cell, uv_get _ _ (by rw [(ws_wds b).1]; exact hl2), hm2]
                have ho1I : (o1 : Int) < 16 := by omega
                have ho2I : (o2 : Int) < 16 := by omega
                have EO1 := Lib.hid ho1
                have EO2 := Lib.hid ho2
                have EM1 := Lib.hid hm1
                have EM2 := Lib.hid hm2
                clear hbm ho1 ho2 hm1 hm2
                refine (wpIn_wide (n := 9)).1 ?_
                refine wpIn_region_quietHead (k := 13) (by kernel_rfl) (by kernel_rfl) ?_
                iterate 13
                  refine quietWalk_cons (a' := ?_) (v := ?_) ?_ ?_ ?_
                  rotate_left 2
                  · intro K hK
                    gi_step
                    exact hK
                  · exact rfl
                refine quietWalk_nil ?_
                change wpAnyIn _ _ _ _ _ _ 1 _ _ _
                refine wpAnyIn_ready (rs := [13]) (by kernel_rfl) (by simp) ?_
                refine AllReadyIn.cons rfl (fun K hK => ?_) AllReadyIn.nil
                clear xo1 xo2 xm1 xm2
                go_simp
                refine ⟨trivial, ?_⟩
                refine (callsIn_wide.2 (rstir_l y3.drew gv 16 3 7 11 15 3 7 11 15 rfl rfl rfl rfl X3 HB3.out.drew HW3.out (by omega) (by omega) (by omega) (by omega) m1 m2 hy1 hy2)).mono ?_
                rintro e y4 ⟨rfl, hbn, hfn⟩
                dsimp only
                refine hK _ _ ?_
                refine wpAnyIn_done (by kernel_rfl) ?_ _
                clear hK K
                obtain ⟨X4, hX4⟩ : ∃ X, st X3 3 7 11 15 m1 m2 = X := ⟨_, rfl⟩
                have hwn := HW3.out.st 3 7 11 15 m1 m2
                rw [hX4] at hbn hwn
                have HW4 := Lib.hid hwn
                have HB4 := Lib.hid hbn
                have HF4 := Lib.hid (HF3.out.drew.trans hfn (fun _ _ h => h))
                have EX4 : Hid (step (wds b) r 3 X3 = X4) := by
                  rw [← hX4, ← EM1.out, ← EM2.out, ← EO1.out, ← EO2.out]
                  exact rfl
                clear hwn hbn hfn hX4 EM1 EM2 EO1 EO2 hy1 hy2 hl1 hl2 ho1I ho2I HW3 HB3 HF3
                go_wp2_with fail
                obtain ⟨o1, ho1⟩ : ∃ o1, od r (2 * 4) = o1 := ⟨_, rfl⟩
                obtain ⟨o2, ho2⟩ : ∃ o2, od r (2 * 4 + 1) = o2 := ⟨_, rfl⟩
                obtain ⟨m1, hm1⟩ : ∃ m1, at_ (wds b) o1 = m1 := ⟨_, rfl⟩
                obtain ⟨m2, hm2⟩ : ∃ m2, at_ (wds b) o2 = m2 := ⟨_, rfl⟩
                have hl1 : o1 < 16 := by rw [← ho1]; exact od_lt _ _
                have hl2 : o2 < 16 := by rw [← ho2]; exact od_lt _ _
                have hy1 : m1 < 4294967296 := by rw [← hm1]; exact at_lt (ws_wds b) _
                have hy2 : m2 < 4294967296 := by rw [← hm2]; exact at_lt (ws_wds b) _
                have xo1 : y4.drew.cell? ⟨q, 8, none⟩ = some (.int .i64 (o1 : Nat)) := by
                  rw [HF4.out.drew.cell (p := ⟨q, 8, none⟩) hqw (by dsimp only; omega), HQ.out 8 (by omega), ho1]
                have xo2 : y4.drew.cell? ⟨q, 9, none⟩ = some (.int .i64 (o2 : Nat)) := by
                  rw [HF4.out.drew.cell (p := ⟨q, 9, none⟩) hqw (by dsimp only; omega), HQ.out 9 (by omega), ho2]
                have hbm := (BMr.out.fr HF4.out (by omega)).drew
                have xm1 : y4.drew.cell? ⟨gm, o1, none⟩ = some (.int .u32 (m1 : Nat)) := by rw [hbm.cell, uv_get _ _ (by rw [(ws_wds b).1]; exact hl1), hm1]
                have xm2 : y4.drew.cell? ⟨gm, o2, none⟩ = some (.int .u32 (m2 : Nat)) := by rw [hbm.cell, uv_get _ _ (by rw [(ws_wds b).1]; exact hl2), hm2]
                have ho1I : (o1 : Int) < 16 := by omega
                have ho2I : (o2 : Int) < 16 := by omega
                have EO1 := Lib.hid ho1
                have EO2 := Lib.hid ho2
                have EM1 := Lib.hid hm1
                have EM2 := Lib.hid hm2
                clear hbm ho1 ho2 hm1 hm2
                refine (wpIn_wide (n := 9)).1 ?_
                refine wpIn_region_quietHead (k := 13) (by kernel_rfl) (by kernel_rfl) ?_
                iterate 13
                  refine quietWalk_cons (a' := ?_) (v := ?_) ?_ ?_ ?_
                  rotate_left 2
                  · intro K hK
                    gi_step
                    exact hK
                  · exact rfl
                refine quietWalk_nil ?_
                change wpAnyIn _ _ _ _ _ _ 1 _ _ _
                refine wpAnyIn_ready (rs := [13]) (by kernel_rfl) (by simp) ?_
                refine AllReadyIn.cons rfl (fun K hK => ?_) AllReadyIn.nil
                clear xo1 xo2 xm1 xm2
                go_simp
                refine ⟨trivial, ?_⟩
                refine (callsIn_wide.2 (rstir_l y4.drew gv 16 0 5 10 15 0 5 10 15 rfl rfl rfl rfl X4 HB4.out.drew HW4.out (by omega) (by omega) (by omega) (by omega) m1 m2 hy1 hy2)).mono ?_
                rintro e y5 ⟨rfl, hbn, hfn⟩
                dsimp only
                refine hK _ _ ?_
                refine wpAnyIn_done (by kernel_rfl) ?_ _
                clear hK K
                obtain ⟨X5, hX5⟩ : ∃ X, st X4 0 5 10 15 m1 m2 = X := ⟨_, rfl⟩
                have hwn := HW4.out.st 0 5 10 15 m1 m2
                rw [hX5] at hbn hwn
                have HW5 := Lib.hid hwn
                have HB5 := Lib.hid hbn
                have HF5 := Lib.hid (HF4.out.drew.trans hfn (fun _ _ h => h))
                have EX5 : Hid (step (wds b) r 4 X4 = X5) := by
                  rw [← hX5, ← EM1.out, ← EM2.out, ← EO1.out, ← EO2.out]
                  exact rfl
                clear hwn hbn hfn hX5 EM1 EM2 EO1 EO2 hy1 hy2 hl1 hl2 ho1I ho2I HW4 HB4 HF4
                go_wp2_with fail
                obtain ⟨o1, ho1⟩ : ∃ o1, od r (2 * 5) = o1 := ⟨_, rfl⟩
                obtain ⟨o2, ho2⟩ : ∃ o2, od r (2 * 5 + 1) = o2 := ⟨_, rfl⟩
                obtain ⟨m1, hm1⟩ : ∃ m1, at_ (wds b) o1 = m1 := ⟨_, rfl⟩
                obtain ⟨m2, hm2⟩ : ∃ m2, at_ (wds b) o2 = m2 := ⟨_, rfl⟩
                have hl1 : o1 < 16 := by rw [← ho1]; exact od_lt _ _
                have hl2 : o2 < 16 := by rw [← ho2]; exact od_lt _ _
                have hy1 : m1 < 4294967296 := by rw [← hm1]; exact at_lt (ws_wds b) _
                have hy2 : m2 < 4294967296 := by rw [← hm2]; exact at_lt (ws_wds b) _
                have xo1 : y5.drew.cell? ⟨q, 10, none⟩ = some (.int .i64 (o1 : Nat)) := by
                  rw [HF5.out.drew.cell (p := ⟨q, 10, none⟩) hqw (by dsimp only; omega), HQ.out 10 (by omega), ho1]
                have xo2 : y5.drew.cell? ⟨q, 11, none⟩ = some (.int .i64 (o2 : Nat)) := by
                  rw [HF5.out.drew.cell (p := ⟨q, 11, none⟩) hqw (by dsimp only; omega), HQ.out 11 (by omega), ho2]
                have hbm := (BMr.out.fr HF5.out (by omega)).drew
                have xm1 : y5.drew.cell? ⟨gm, o1, none⟩ = some (.int .u32 (m1 : Nat)) := by rw [hbm.cell, uv_get _ _ (by rw [(ws_wds b).1]; exact hl1), hm1]
                have xm2 : y5.drew.cell? ⟨gm, o2, none⟩ = some (.int .u32 (m2 : Nat)) := by rw [hbm.cell, uv_get _ _ (by rw [(ws_wds b).1]; exact hl2), hm2]
                have ho1I : (o1 : Int) < 16 := by omega
                have ho2I : (o2 : Int) < 16 := by omega
                have EO1 := Lib.hid ho1
                have EO2 := Lib.hid ho2
                have EM1 := Lib.hid hm1
                have EM2 := Lib.hid hm2
                clear hbm ho1 ho2 hm1 hm2
                refine (wpIn_wide (n := 9)).1 ?_
                refine wpIn_region_quietHead (k := 13) (by kernel_rfl) (by kernel_rfl) ?_
                iterate 13
                  refine quietWalk_cons (a' := ?_) (v := ?_) ?_ ?_ ?_
                  rotate_left 2
                  · intro K hK
                    gi_step
                    exact hK
                  · exact rfl
                refine quietWalk_nil ?_
                change wpAnyIn _ _ _ _ _ _ 1 _ _ _
                refine wpAnyIn_ready (rs := [13]) (by kernel_rfl) (by simp) ?_
                refine AllReadyIn.cons rfl (fun K hK => ?_) AllReadyIn.nil
                clear xo1 xo2 xm1 xm2
                go_simp
                refine ⟨trivial, ?_⟩
                refine (callsIn_wide.2 (rstir_l y5.drew gv 16 1 6 11 12 1 6 11 12 rfl rfl rfl rfl X5 HB5.out.drew HW5.out (by omega) (by omega) (by omega) (by omega) m1 m2 hy1 hy2)).mono ?_
                rintro e y6 ⟨rfl, hbn, hfn⟩
                dsimp only
                refine hK _ _ ?_
                refine wpAnyIn_done (by kernel_rfl) ?_ _
                clear hK K
                obtain ⟨X6, hX6⟩ : ∃ X, st X5 1 6 11 12 m1 m2 = X := ⟨_, rfl⟩
                have hwn := HW5.out.st 1 6 11 12 m1 m2
                rw [hX6] at hbn hwn
                have HW6 := Lib.hid hwn
                have HB6 := Lib.hid hbn
                have HF6 := Lib.hid (HF5.out.drew.trans hfn (fun _ _ h => h))
                have EX6 : Hid (step (wds b) r 5 X5 = X6) := by
                  rw [← hX6, ← EM1.out, ← EM2.out, ← EO1.out, ← EO2.out]
                  exact rfl
                clear hwn hbn hfn hX6 EM1 EM2 EO1 EO2 hy1 hy2 hl1 hl2 ho1I ho2I HW5 HB5 HF5
                go_wp2_with fail
                obtain ⟨o1, ho1⟩ : ∃ o1, od r (2 * 6) = o1 := ⟨_, rfl⟩
                obtain ⟨o2, ho2⟩ : ∃ o2, od r (2 * 6 + 1) = o2 := ⟨_, rfl⟩
                obtain ⟨m1, hm1⟩ : ∃ m1, at_ (wds b) o1 = m1 := ⟨_, rfl⟩
                obtain ⟨m2, hm2⟩ : ∃ m2, at_ (wds b) o2 = m2 := ⟨_, rfl⟩
                have hl1 : o1 < 16 := by rw [← ho1]; exact od_lt _ _
                have hl2 : o2 < 16 := by rw [← ho2]; exact od_lt _ _
                have hy1 : m1 < 4294967296 := by rw [← hm1]; exact at_lt (ws_wds b) _
                have hy2 : m2 < 4294967296 := by rw [← hm2]; exact at_lt (ws_wds b) _
                have xo1 : y6.drew.cell? ⟨q, 12, none⟩ = some (.int .i64 (o1 : Nat)) := by
                  rw [HF6.out.drew.cell (p := ⟨q, 12, none⟩) hqw (by dsimp only; omega), HQ.out 12 (by omega), ho1]
                have xo2 : y6.drew.cell? ⟨q, 13, none⟩ = some (.int .i64 (o2 : Nat)) := by
                  rw [HF6.out.drew.cell (p := ⟨q, 13, none⟩) hqw (by dsimp only; omega), HQ.out 13 (by omega), ho2]
                have hbm := (BMr.out.fr HF6.out (by omega)).drew
                have xm1 : y6.drew.cell? ⟨gm, o1, none⟩ = some (.int .u32 (m1 : Nat)) := by rw [hbm.cell, uv_get _ _ (by rw [(ws_wds b).1]; exact hl1), hm1]
                have xm2 : y6.drew.cell? ⟨gm, o2, none⟩ = some (.int .u32 (m2 : Nat)) := by rw [hbm.cell, uv_get _ _ (by rw [(ws_wds b).1]; exact hl2), hm2]
                have ho1I : (o1 : Int) < 16 := by omega
                have ho2I : (o2 : Int) < 16 := by omega
                have EO1 := Lib.hid ho1
                have EO2 := Lib.hid ho2
                have EM1 := Lib.hid hm1
                have EM2 := Lib.hid hm2
                clear hbm ho1 ho2 hm1 hm2
                refine (wpIn_wide (n := 9)).1 ?_
                refine wpIn_region_quietHead (k := 13) (by kernel_rfl) (by kernel_rfl) ?_
                iterate 13
                  refine quietWalk_cons (a' := ?_) (v := ?_) ?_ ?_ ?_
                  rotate_left 2
                  · intro K hK
                    gi_step
                    exact hK
                  · exact rfl
                refine quietWalk_nil ?_
                change wpAnyIn _ _ _ _ _ _ 1 _ _ _
                refine wpAnyIn_ready (rs := [13]) (by kernel_rfl) (by simp) ?_
                refine AllReadyIn.cons rfl (fun K hK => ?_) AllReadyIn.nil
                clear xo1 xo2 xm1 xm2
                go_simp
                refine ⟨trivial, ?_⟩
                refine (callsIn_wide.2 (rstir_l y6.drew gv 16 2 7 8 13 2 7 8 13 rfl rfl rfl rfl X6 HB6.out.drew HW6.out (by omega) (by omega) (by omega) (by omega) m1 m2 hy1 hy2)).mono ?_
                rintro e y7 ⟨rfl, hbn, hfn⟩
                dsimp only
                refine hK _ _ ?_
                refine wpAnyIn_done (by kernel_rfl) ?_ _
                clear hK K
                obtain ⟨X7, hX7⟩ : ∃ X, st X6 2 7 8 13 m1 m2 = X := ⟨_, rfl⟩
                have hwn := HW6.out.st 2 7 8 13 m1 m2
                rw [hX7] at hbn hwn
                have HW7 := Lib.hid hwn
                have HB7 := Lib.hid hbn
                have HF7 := Lib.hid (HF6.out.drew.trans hfn (fun _ _ h => h))
                have EX7 : Hid (step (wds b) r 6 X6 = X7) := by
                  rw [← hX7, ← EM1.out, ← EM2.out, ← EO1.out, ← EO2.out]
                  exact rfl
                clear hwn hbn hfn hX7 EM1 EM2 EO1 EO2 hy1 hy2 hl1 hl2 ho1I ho2I HW6 HB6 HF6
                go_wp2_with fail
                obtain ⟨o1, ho1⟩ : ∃ o1, od r (2 * 7) = o1 := ⟨_, rfl⟩
                obtain ⟨o2, ho2⟩ : ∃ o2, od r (2 * 7 + 1) = o2 := ⟨_, rfl⟩
                obtain ⟨m1, hm1⟩ : ∃ m1, at_ (wds b) o1 = m1 := ⟨_, rfl⟩
                obtain ⟨m2, hm2⟩ : ∃ m2, at_ (wds b) o2 = m2 := ⟨_, rfl⟩
                have hl1 : o1 < 16 := by rw [← ho1]; exact od_lt _ _
                have hl2 : o2 < 16 := by rw [← ho2]; exact od_lt _ _
                have hy1 : m1 < 4294967296 := by rw [← hm1]; exact at_lt (ws_wds b) _
                have hy2 : m2 < 4294967296 := by rw [← hm2]; exact at_lt (ws_wds b) _
                have xo1 : y7.drew.cell? ⟨q, 14, none⟩ = some (.int .i64 (o1 : Nat)) := by
                  rw [HF7.out.drew.cell (p := ⟨q, 14, none⟩) hqw (by dsimp only; omega), HQ.out 14 (by omega), ho1]
                have xo2 : y7.drew.cell? ⟨q, 15, none⟩ = some (.int .i64 (o2 : Nat)) := by
                  rw [HF7.out.drew.cell (p := ⟨q, 15, none⟩) hqw (by dsimp only; omega), HQ.out 15 (by omega), ho2]
                have hbm := (BMr.out.fr HF7.out (by omega)).drew
                have xm1 : y7.drew.cell? ⟨gm, o1, none⟩ = some (.int .u32 (m1 : Nat)) := by rw [hbm.cell, uv_get _ _ (by rw [(ws_wds b).1]; exact hl1), hm1]
                have xm2 : y7.drew.cell? ⟨gm, o2, none⟩ = some (.int .u32 (m2 : Nat)) := by rw [hbm.cell, uv_get _ _ (by rw [(ws_wds b).1]; exact hl2), hm2]
                have ho1I : (o1 : Int) < 16 := by omega
                have ho2I : (o2 : Int) < 16 := by omega
                have EO1 := Lib.hid ho1
                have EO2 := Lib.hid ho2
                have EM1 := Lib.hid hm1
                have EM2 := Lib.hid hm2
                clear hbm ho1 ho2 hm1 hm2
                refine (wpIn_wide (n := 9)).1 ?_
                refine wpIn_region_quietHead (k := 13) (by kernel_rfl) (by kernel_rfl) ?_
                iterate 13
                  refine quietWalk_cons (a' := ?_) (v := ?_) ?_ ?_ ?_
                  rotate_left 2
                  · intro K hK
                    gi_step
                    exact hK
                  · exact rfl
                refine quietWalk_nil ?_
                change wpAnyIn _ _ _ _ _ _ 1 _ _ _
                refine wpAnyIn_ready (rs := [13]) (by kernel_rfl) (by simp) ?_
                refine AllReadyIn.cons rfl (fun K hK => ?_) AllReadyIn.nil
                clear xo1 xo2 xm1 xm2
                go_simp
                refine ⟨trivial, ?_⟩
                refine (callsIn_wide.2 (rstir_l y7.drew gv 16 3 4 9 14 3 4 9 14 rfl rfl rfl rfl X7 HB7.out.drew HW7.out (by omega) (by omega) (by omega) (by omega) m1 m2 hy1 hy2)).mono ?_
                rintro e y8 ⟨rfl, hbn, hfn⟩
                dsimp only
                refine hK _ _ ?_
                refine wpAnyIn_done (by kernel_rfl) ?_ _
                clear hK K
                obtain ⟨X8, hX8⟩ : ∃ X, st X7 3 4 9 14 m1 m2 = X := ⟨_, rfl⟩
                have hwn := HW7.out.st 3 4 9 14 m1 m2
                rw [hX8] at hbn hwn
                have HW8 := Lib.hid hwn
                have HB8 := Lib.hid hbn
                have HF8 := Lib.hid (HF7.out.drew.trans hfn (fun _ _ h => h))
                have EX8 : Hid (step (wds b) r 7 X7 = X8) := by
                  rw [← hX8, ← EM1.out, ← EM2.out, ← EO1.out, ← EO2.out]
                  exact rfl
                clear hwn hbn hfn hX8 EM1 EM2 EO1 EO2 hy1 hy2 hl1 hl2 ho1I ho2I HW7 HB7 HF7
                go_wp2_with fail
                have hfin : rnds (wds b) (v0 H n last) (r + 1) = X8 := by
                  rw [← EX8.out, ← EX7.out, ← EX6.out, ← EX5.out, ← EX4.out, ← EX3.out, ← EX2.out, ← EX1.out, ← EX0.out]
                  exact rfl
                exact ⟨⟨r + 1, by omega, by go_num, by rw [hfin]; exact HB8.out, hf.out.trans HF8.out (fun _ _ h => h)⟩, by simp [intOf]; omega⟩
              · obtain rfl : r = 10 := by omega
                rw [show ((10 : Nat) : Int) = 10 from rfl]
                obtain ⟨VV, hVV⟩ : ∃ VV, rnds (wds b) (v0 H n last) 10 = VV := ⟨_, rfl⟩
                have hws := ws0.out.rnds (wds b) 10
                rw [hVV] at hb hws
                have HVV := Lib.hid hVV
                have HWS := Lib.hid hws
                clear hVV hws
                have hB0 := K1.out.fr hf.out (by omega)
                rw [← hx_zero H VV HH.out.1] at hB0
                have HB0 := Lib.hid hB0
                have HD2 := Lib.hid (K2.out.fr hf.out (by omega))
                have F7 := Lib.hid (F6.out.trans hf.out (fun k hk e => by have := K2.out.lt; omega))
                clear hB0 hf
                obtain ⟨wq, hwq⟩ : ∃ wq : World, wq = wr := ⟨_, rfl⟩
                subst hwq
                go_wp2_with fail
                go_loopw [16] (fun u wr => ∃ i : Nat, i ≤ 8 ∧ u = .int .i64 (i : Int) ∧ Hid (Blk wr w.heap.size 77 (uv (hx H VV i))) ∧ Hid (Fr (fun k => k = w.heap.size) wq wr)) (fun u wr => 8 - (intOf u).toNat)
                case atStart => exact ⟨0, by omega, rfl, HB0.out, Fr.refl _ _⟩
                case round =>
                  obtain ⟨i, hi, rfl, hb2, hf2⟩ := hrel
                  by_cases h8 : i < 8
                  · have h8' : decide ((i : Int) < 8) = true := decide_eq_true (by omega)
                    have y1 : wr.cell? ⟨w.heap.size, i, none⟩ = some (.int .u32 (at_ H i : Nat)) := by rw [hb2.out.cell, uv_get _ _ (by rw [hx_len]; exact h8), hx_at H VV i h8]
                    have q1 : wr.frozen? ⟨w.heap.size, i, none⟩ = false := hb2.out.frozen _
                    have bv := hb.out.fr hf2.out (by omega)
                    have x1 : wr.cell? ⟨gv, i, none⟩ = some (.int .u32 (at_ VV i : Nat)) := by rw [bv.cell, uv_get _ _ (by rw [HWS.out.1]; omega)]
                    have x2 : wr.cell? ⟨gv, i + 8, none⟩ = some (.int .u32 (at_ VV (i + 8) : Nat)) := by rw [bv.cell, uv_get _ _ (by rw [HWS.out.1]; omega)]
                    have l1 := at_lt HH.out i
                    have l2 := at_lt HWS.out i
                    have l3 := at_lt HWS.out (i + 8)
                    have k1 : bits .xor .u32 (at_ H i : Int) (at_ VV i : Int) = ((at_ H i ^^^ at_ VV i : Nat) : Int) := u32_xor_nat _ _ l1 l2
                    have k2 : bits .xor .u32 ((at_ H i ^^^ at_ VV i : Nat) : Int) (at_ VV (i + 8) : Int) = ((at_ H i ^^^ (at_ VV i ^^^ at_ VV (i + 8)) : Nat) : Int) := by rw [u32_xor_nat _ _ (Nat.xor_lt_two_pow (n := 32) l1 l2) l3, Nat.xor_assoc]
                    have e1 : IntKind.i64.wrap ((i : Int) + 8) = (i : Int) + 8 := IntWalk.i64_in _ (by omega)
                    have e2 : ((i : Int) + 8).toNat = i + 8 := by omega
                    have e3 : (0 : Int) ≤ (i : Int) + 8 := by omega
                    have e4 : (i : Int) + 8 < 16 := by omega
                    have e5 : (i : Int) < 16 := by omega
                    clear bv l1 l2 l3
                    go_wp2_with fail
                    have y1 : wr.drew.cell? ⟨w.heap.size, i, none⟩ = some (.int .u32 (at_ H i : Nat)) := y1
                    have q1 : wr.drew.frozen? ⟨w.heap.size, i, none⟩ = false := q1
                    have x1 : wr.drew.cell? ⟨gv, i, none⟩ = some (.int .u32 (at_ VV i : Nat)) := x1
                    have x2 : wr.drew.cell? ⟨gv, i + 8, none⟩ = some (.int .u32 (at_ VV (i + 8) : Nat)) := x2
                    refine (wpIn_wide (n := 9)).1 ?_
                    refine wpIn_region_quietHead (k := 16) (by kernel_rfl) (by kernel_rfl) ?_
                    iterate 16
                      refine quietWalk_cons (a' := ?_) (v := ?_) ?_ ?_ ?_
                      rotate_left 2
                      · intro K hK
                        gi_step
                        exact hK
                      · exact rfl
                    refine quietWalk_nil ?_
                    change wpAnyIn _ _ _ _ _ _ 1 _ _ _
                    refine wpAnyIn_ready (rs := [16]) (by kernel_rfl) (by simp) ?_
                    refine AllReadyIn.cons rfl (fun K hK => ?_) AllReadyIn.nil
                    go_simp
                    refine hK _ _ ?_
                    refine wpAnyIn_done (by kernel_rfl) ?_ _
                    clear hK K x1 x2 k1 k2 y1 q1
                    go_wp2_with fail
                    have hs := hb2.out.set_ i (.int .u32 ((at_ H i ^^^ (at_ VV i ^^^ at_ VV (i + 8)) : Nat) : Int))
                    rw [uv_set, hx_step H VV i h8] at hs
                    exact ⟨⟨i + 1, by omega, by go_num, hs.drew, (hf2.out.setCell (p := ⟨w.heap.size, i, none⟩) (fun _ => rfl) _).drew⟩, by simp [intOf]; omega⟩
                  · have h8' : decide ((i : Int) < 8) = false := by simp; omega
                    obtain rfl : i = 8 := by omega
                    have hb3 := hb2.out
                    rw [hx_all, ← HVV.out] at hb3
                    have hb3 : Blk wr w.heap.size 77 (uv (mixL H (wds b) n last)) := hb3
                    have hwm := HH.out.ofMix (wds b) n HN.out last
                    have hB2 := HD2.out.fr hf2.out (by omega)
                    have hsz : (Tryz.prog.info? 77).map (·.size) = some (uv (mixL H (wds b) n last)).size := by rw [uv_size, hwm.1]; kernel_rfl
                    have hth : wr.there (w.heap.size + 1) 0 (uv (mixL H (wds b) n last)).size := by rw [uv_size, hwm.1]; exact hB2.there
                    have hst := hB2.setAll (ds := uv (mixL H (wds b) n last)) (by rw [uv_size, hwm.1]; rfl)
                    have HB3 := Lib.hid hb3
                    have HSZ := Lib.hid hsz
                    have HTH := Lib.hid hth
                    have HST := Lib.hid hst
                    have HONE := Lib.hid (uv_one (mixL H (wds b) n last))
                    have FST := Lib.hid (Fr.setCells (fp := fun k => k = w.heap.size ∨ k = w.heap.size + 1) (a := wq) (g := w.heap.size + 1) (fun _ => .inr rfl) (uv (mixL H (wds b) n last)).toList 0 wr (hf2.out.mono (fun _ _ h => .inl h)))
                    clear hb2 hb3 hsz hth hst hwm hB2 HVV HWS hb
                    obtain ⟨R, hR⟩ : ∃ R, uv (mixL H (wds b) n last) = R := ⟨_, rfl⟩
                    rw [hR] at HB3 HSZ HTH HST HONE FST
                    have HR := Lib.hid hR
                    clear hR
                    go_wp2_with (first
                      | refine wpList_load_row rfl 77 _ rfl w.heap.size rfl 77 R (0, 0) _ HB3.out Tryz.underlying77 rfl HSZ.out ?_
                      | refine wpList_store_mid rfl 77 _ _ rfl (w.heap.size + 1) 0 R rfl rfl HTH.out HSZ.out HONE.out ?_)
                    generalize wr.setCells (w.heap.size + 1) 0 R.toList = w9 at *
                    have f2 := F7.out.trans FST.out (fun k hk e => by omega)
                    exact bodyPost_ret (v := .agg R) (results_cell_row Tryz.results76 _ _ (w.heap.size + 1) 77 _ (0, 0) _ rfl HST.out Tryz.underlying77 rfl HSZ.out) rfl ⟨by rw [HR.out], f2⟩
end Go.Proofs.YtjaocgmicdnghaaGreatDoor
